/- YardFew answers true for every zones, number, data and kind, and leaves all that was there as it was; no condition. -/
import Derived.Test.YtaambknbbhjdnaaY2
import Derived.Test.YtaambknbbhjdnaaD3
import Derived.Test.YtaambknbbhjdnaaP1
namespace Go.Proofs.Ytaambknbbhjdnaa
open Go.RowKit
set_option linter.unusedVariables false
set_option maxRecDepth 100000
set_option linter.unusedSimpArgs false

theorem Equal_true (a1 a2 : Option Addr) (n1 n2 c1 c2 : Nat) (l : List Int) (w : World) (h1 : Ints w a1 n1 c1 l) (h2 : Ints w a2 n2 c2 l) :
    Calls Try.prog 20 #[.slice a1 n1 c1, .slice a2 n2 c2] w fun e w' => e = .returned (.bool true) ∧ ∃ n, w' = w.drewN n := by
  refine (Equal_c a1 a2 n1 n2 c1 c2 l l w h1 h2).mono fun e w' h => ⟨?_, h.2⟩
  rw [h.1]
  exact ret_bool (decide_eq_true rfl)

set_option maxRecDepth 100000 in
set_option maxHeartbeats 16000000 in
theorem YardFew_0 (a : Option Addr) (n c : Nat) (Z : List ZV) (x : Int) (b : Option Addr) (m d : Nat) (k : List Int) (q : Int) (w : World) (h : Zones w a n c Z) (hd : Ints w b m d k)
    (hx : -9223372036854775808 ≤ x ∧ x ≤ 9223372036854775807) (hy : -9223372036854775808 ≤ q ∧ q ≤ 9223372036854775807) (hok : checkZs (Z.map ZV.p) = 0) (hq : q % 5 = 0) :
    Calls Try.prog 4 #[.slice a n c, .int .i64 x, .slice b m d, .int .i64 q] w fun e w' => e = .returned (.bool true) ∧ Below w.heap.size w w' := by
  have HQ := hide hq
  have HOK := hide hok
  clear hq
  go_enter Try.func4, Try.ntmps4
  go_wp2_with fail
  refine (crowded_c _).mono ?_
  rintro e w1 ⟨rfl, hb1⟩
  replace h := h.below hb1 (Nat.le_refl _)
  replace hd := hd.below hb1 (Nat.le_refl _)
  go_wp2_with fail
  refine (YCheck_c a n c Z _ h).mono ?_
  rintro e w2 ⟨rfl, hb2⟩
  rw [HOK.out]
  replace h := h.below hb2 (Nat.le_refl _)
  replace hd := hd.below hb2 (Nat.le_refl _)
  have bT := belowT hb1 hb2
  clear hb1 hb2
  go_wp2_with fail
  refine (at_c x 4 _ (by omega) (by omega) hx).mono ?_
  rintro e w2 ⟨rfl, rfl⟩
  have hj0 := Int.emod_nonneg x (show (4 : Int) ≠ 0 by omega)
  have hj1 := Int.emod_lt_of_pos x (show (0 : Int) < 4 by omega)
  generalize x % 4 = j at *
  obtain ⟨j, rfl⟩ := Int.eq_ofNat_of_zero_le hj0
  go_wp2_with fail
  refine (at_c q 5 _ (by omega) (by omega) hy).mono ?_
  rintro e w2 ⟨rfl, rfl⟩
  rw [HQ.out]
  go_wp2_with fail
  refine (YHold_c a n c Z j _ h).mono ?_
  rintro e w3 ⟨⟨am, nm, cm, Zm, rfl, im, pm⟩, hb3⟩
  have hlaw : (holdP (Z.map ZV.p) j).2 = 0 → FewL 0 (Z.map ZV.p) (Zm.map ZV.p) j := by rw [pm]; exact few_hold
  generalize (holdP (Z.map ZV.p) j).2 = er at *
  replace h := h.below hb3 (Nat.le_refl _)
  replace bT := belowT bT hb3
  clear hb3 pm hd
  by_cases he : er = 0
  · have HL := hide (hlaw he)
    subst he
    clear hlaw
    go_wp2_with fail
    refine (YCheck_c am nm cm Zm _ im).mono ?_
    rintro e w4 ⟨rfl, hb4⟩
    rw [HL.out.1]
    replace h := h.below hb4 (Nat.le_refl _)
    replace im := im.below hb4 (Nat.le_refl _)
    replace bT := belowT bT hb4
    clear hb4
    obtain ⟨rfl, b1, o1, rfl, hr1⟩ := zs_four h hok
    obtain ⟨hnm, b2, o2, ham, hr2⟩ := zs_four im HL.out.1
    rw [ham, hnm]
    have hlm := hide im.len
    have hlz := hide h.len
    have hcnt := (checkZs_ok HL.out.1).2.2.1
    rw [← cnt_map] at hcnt
    clear hok ham
    go_wp2
    go_loopw [11, 75] (fun o i wr => ∃ t : Nat, t ≤ 4 ∧ i = .int .i64 t ∧ o = .int .i64 (cnt isO (Zm.take t)) ∧ Below w4.heap.size w4 wr) (fun _ i _ => 4 - (intOf i).toNat)
    case atStart => exact ⟨0, by omega, rfl, rfl, Below.refl _ _⟩
    case round =>
      obtain ⟨t, ht, rfl, rfl, hbr⟩ := hrel
      rename_i wr
      by_cases hlt : t < 4
      · obtain ⟨z, hz⟩ : ∃ z, Zm[t]? = some z := ⟨Zm[t]'(by rw [hlm.out, hnm]; exact hlt), by simp⟩
        obtain ⟨y, hyy⟩ : ∃ z, Z[t]? = some z := ⟨Z[t]'(by rw [hlz.out]; exact hlt), by simp⟩
        have hkeep := HL.out.2.2 t y.p z.p (by simp [hyy]) (by simp [hz])
        obtain ⟨e0, e1⟩ := hr2 t z hz
        obtain ⟨g0, g1⟩ := hr1 t y hyy
        have iz : z.ok wr := Ints.below (im.ok z (List.mem_of_getElem? hz)) hbr (Nat.le_refl _)
        have iy : y.ok wr := Ints.below (h.ok y (List.mem_of_getElem? hyy)) hbr (Nat.le_refl _)
        replace e0 := keepc hbr e0
        replace e1 := keepc hbr e1
        replace g0 := past1 (keepc hbr g0)
        replace g1 := past1 (keepc hbr g1)
        have q1 := cnt_le isO (Zm.take t)
        have q3 := List.length_take_le t Zm
        have s1 := hide (cnt_snoc isO Zm t z hz)
        generalize cnt isO (Zm.take t) = u at *
        have hlt' : (t : Int) < 4 := by omega
        have hzl := iz.len
        have hyl := iy.len
        have hzm := iz.max
        have hzle := iz.le
        have hym := iy.max
        have hyle := iy.le
        have HK := hide hkeep
        have HZL := hide hzl
        have HYL := hide hyl
        clear hz hyy hkeep hzl hyl
        have hst : (z.s == 1) = true ∨ ((z.s == 1) = false ∧ (z.s == 2) = true) ∨ ((z.s == 1) = false ∧ (z.s == 2) = false) := by
          cases (z.s == 1) <;> cases (z.s == 2) <;> simp
        rcases HK.out with ⟨htj, hq3, hz0⟩ | ⟨hno, r, hzr, hmore⟩
        · first
            | exact absurd hq3 (by decide)
            | (have hz0' : z.l = [] := hz0
               have hzn0 : ¬ (0 : Int) < (z.n : Int) := by have := HZL.out; rw [hz0'] at this; simp at this; omega
               have htj' : ((t : Int) == (j : Int)) = true := by simp; omega
               clear HK hq3 hz0 hz0' htj
               rcases hst with v1 | ⟨v1, v2⟩ | ⟨v1, v2⟩
               all_goals
                 go_wp2
                 refine ⟨⟨t + 1, by omega, by go_num, vint ?_, by (repeat first | exact bel0 | assumption | refine bel1 ?_ | refine bel2 ?_ | refine bel3 ?_ | refine belowT ?_ (by assumption) | refine bel5 ?_ (by simp; try omega))⟩, by simp [intOf]; omega⟩
                 rw [s1.out]; simp [isO, *])
        · have hzr' : z.l = y.l ++ r := hzr
          have hyn : y.n ≤ z.n := by have e1 := HZL.out; have e2 := HYL.out; rw [hzr', List.length_append] at e1; omega
          have IZ : Ints wr z.a y.n z.c y.l := by
            have hh := Ints.head iz y.n hyn
            have e : z.l.take y.n = y.l := by rw [hzr', ← HYL.out, List.take_left]
            rw [e] at hh
            exact hh
          have IY : Ints wr y.a y.n y.c y.l := iy
          have hm1 : (y.n : Int) < (z.n : Int) → t = j ∧ (0 : Int) = 4 := fun hlt2 => hmore (fun e => by have e1 := HZL.out; have e2 := HYL.out; rw [hzr', e, List.append_nil] at e1; omega)
          have d1 : decide ((z.n : Int) < (y.n : Int)) = false := by simp; omega
          have d2 : decide (z.n < y.n) = false := by simp; omega
          have d3 : ¬ (z.n : Int) < (y.n : Int) := by omega
          have k1 : (0 : Int) ≤ (y.n : Int) := by omega
          have k2 : (y.n : Int) ≤ (z.c : Int) := by omega
          have hw3 : ((t : Int) == (j : Int)) = true ∧ ((t : Int) != (j : Int)) = false ∨ ((t : Int) == (j : Int)) = false ∧ ((t : Int) != (j : Int)) = true := by
            by_cases e : t = j
            · left; simp [e]
            · right; simp; omega
          have hw4 : decide ((y.n : Int) < (z.n : Int)) = false ∨ decide ((y.n : Int) < (z.n : Int)) = true ∧ t = j ∧ (0 : Int) = 4 := by
            by_cases e : (y.n : Int) < (z.n : Int)
            · right; exact ⟨by simpa using e, hm1 e⟩
            · left; simpa using e
          have HNO := hide hno
          clear HK hno hzr hzr' hmore hm1 iz iy
          rcases hw4 with v4 | ⟨v4, v5, v6⟩
          · have v41 : ¬ (y.n : Int) < (z.n : Int) := by simpa using v4
            have v42 : (z.n : Int) ≤ (y.n : Int) := by omega
            have v43 : z.n ≤ y.n := by omega
            have v44 : decide (y.n < z.n) = false := by simp; omega
            by_cases htj : t = j
            · first
                | exact (HNO.out ⟨htj, rfl⟩).elim
                | (have v5 : ((t : Int) == (j : Int)) = true := by simp; omega
                   have v6 : ((t : Int) != (j : Int)) = false := by simp; omega
                   clear hw3 htj
                   rcases hst with v1 | ⟨v1, v2⟩ | ⟨v1, v2⟩
                   all_goals
                     go_wp2
                     go_quiet ((go_at_call 20; exact Calls.quiet_of (Equal_true _ _ _ _ _ _ y.l _ (by refine Ints.below IZ (B := wr.heap.size) ?_ (Nat.le_refl _); (repeat first | exact bel0 | assumption | refine bel1 ?_ | refine bel2 ?_ | refine bel3 ?_ | refine belowT ?_ (by assumption) | refine bel5 ?_ (by simp; try omega))) (by refine Ints.below IY (B := wr.heap.size) ?_ (Nat.le_refl _); (repeat first | exact bel0 | assumption | refine bel1 ?_ | refine bel2 ?_ | refine bel3 ?_ | refine belowT ?_ (by assumption) | refine bel5 ?_ (by simp; try omega))))))
                     go_wp2
                     refine ⟨⟨t + 1, by omega, by go_num, vint ?_, by (repeat first | exact bel0 | assumption | refine bel1 ?_ | refine bel2 ?_ | refine bel3 ?_ | refine belowT ?_ (by assumption) | refine bel5 ?_ (by simp; try omega))⟩, by simp [intOf]; omega⟩
                     rw [s1.out]; simp [isO, *])
            · have v5 : ((t : Int) == (j : Int)) = false := by simp; omega
              have v6 : ((t : Int) != (j : Int)) = true := by simp; omega
              clear hw3 htj
              rcases hst with v1 | ⟨v1, v2⟩ | ⟨v1, v2⟩
              all_goals
                go_wp2
                go_quiet ((go_at_call 20; exact Calls.quiet_of (Equal_true _ _ _ _ _ _ y.l _ (by refine Ints.below IZ (B := wr.heap.size) ?_ (Nat.le_refl _); (repeat first | exact bel0 | assumption | refine bel1 ?_ | refine bel2 ?_ | refine bel3 ?_ | refine belowT ?_ (by assumption) | refine bel5 ?_ (by simp; try omega))) (by refine Ints.below IY (B := wr.heap.size) ?_ (Nat.le_refl _); (repeat first | exact bel0 | assumption | refine bel1 ?_ | refine bel2 ?_ | refine bel3 ?_ | refine belowT ?_ (by assumption) | refine bel5 ?_ (by simp; try omega))))))
                go_wp2
                refine ⟨⟨t + 1, by omega, by go_num, vint ?_, by (repeat first | exact bel0 | assumption | refine bel1 ?_ | refine bel2 ?_ | refine bel3 ?_ | refine belowT ?_ (by assumption) | refine bel5 ?_ (by simp; try omega))⟩, by simp [intOf]; omega⟩
                rw [s1.out]; simp [isO, *]
          · first
              | exact absurd v6 (by decide)
              | (have v7 : ((t : Int) == (j : Int)) = true := by simp; omega
                 have v8 : ((t : Int) != (j : Int)) = false := by simp; omega
                 clear v5 v6 hw3
                 have v41 : (y.n : Int) < (z.n : Int) := by simpa using v4
                 have v44 : decide (y.n < z.n) = true := by simp; omega
                 rcases hst with v1 | ⟨v1, v2⟩ | ⟨v1, v2⟩
                 all_goals
                   go_wp2
                   go_quiet ((go_at_call 20; exact Calls.quiet_of (Equal_true _ _ _ _ _ _ y.l _ (by refine Ints.below IZ (B := wr.heap.size) ?_ (Nat.le_refl _); (repeat first | exact bel0 | assumption | refine bel1 ?_ | refine bel2 ?_ | refine bel3 ?_ | refine belowT ?_ (by assumption) | refine bel5 ?_ (by simp; try omega))) (by refine Ints.below IY (B := wr.heap.size) ?_ (Nat.le_refl _); (repeat first | exact bel0 | assumption | refine bel1 ?_ | refine bel2 ?_ | refine bel3 ?_ | refine belowT ?_ (by assumption) | refine bel5 ?_ (by simp; try omega))))))
                   go_wp2
                   refine ⟨⟨t + 1, by omega, by go_num, vint ?_, by (repeat first | exact bel0 | assumption | refine bel1 ?_ | refine bel2 ?_ | refine bel3 ?_ | refine belowT ?_ (by assumption) | refine bel5 ?_ (by simp; try omega))⟩, by simp [intOf]; omega⟩
                   rw [s1.out]; simp [isO, *])
      · obtain rfl : t = 4 := by omega
        rw [List.take_of_length_le (by rw [hlm.out, hnm]; omega)]
        have hcnt' : (cnt isO Zm : Int) ≤ 2 := by omega
        go_wp2
        go_ret
        exact ⟨rfl, by (repeat first | exact bel0 | assumption | refine bel1 ?_ | refine bel2 ?_ | refine bel3 ?_ | refine belowT ?_ (by assumption) | refine bel5 ?_ (by simp; try omega))⟩
  · have he' : (er != 0) = true := by simpa using he
    clear hlaw he
    go_wp2
    go_ret
    exact ⟨rfl, bT⟩


set_option maxRecDepth 100000 in
set_option maxHeartbeats 16000000 in
theorem YardFew_1 (a : Option Addr) (n c : Nat) (Z : List ZV) (x : Int) (b : Option Addr) (m d : Nat) (k : List Int) (q : Int) (w : World) (h : Zones w a n c Z) (hd : Ints w b m d k)
    (hx : -9223372036854775808 ≤ x ∧ x ≤ 9223372036854775807) (hy : -9223372036854775808 ≤ q ∧ q ≤ 9223372036854775807) (hok : checkZs (Z.map ZV.p) = 0) (hq : q % 5 = 1) :
    Calls Try.prog 4 #[.slice a n c, .int .i64 x, .slice b m d, .int .i64 q] w fun e w' => e = .returned (.bool true) ∧ Below w.heap.size w w' := by
  have HQ := hide hq
  have HOK := hide hok
  clear hq
  go_enter Try.func4, Try.ntmps4
  go_wp2_with fail
  refine (crowded_c _).mono ?_
  rintro e w1 ⟨rfl, hb1⟩
  replace h := h.below hb1 (Nat.le_refl _)
  replace hd := hd.below hb1 (Nat.le_refl _)
  go_wp2_with fail
  refine (YCheck_c a n c Z _ h).mono ?_
  rintro e w2 ⟨rfl, hb2⟩
  rw [HOK.out]
  replace h := h.below hb2 (Nat.le_refl _)
  replace hd := hd.below hb2 (Nat.le_refl _)
  have bT := belowT hb1 hb2
  clear hb1 hb2
  go_wp2_with fail
  refine (at_c x 4 _ (by omega) (by omega) hx).mono ?_
  rintro e w2 ⟨rfl, rfl⟩
  have hj0 := Int.emod_nonneg x (show (4 : Int) ≠ 0 by omega)
  have hj1 := Int.emod_lt_of_pos x (show (0 : Int) < 4 by omega)
  generalize x % 4 = j at *
  obtain ⟨j, rfl⟩ := Int.eq_ofNat_of_zero_le hj0
  go_wp2_with fail
  refine (at_c q 5 _ (by omega) (by omega) hy).mono ?_
  rintro e w2 ⟨rfl, rfl⟩
  rw [HQ.out]
  go_wp2_with fail
  refine (YClose_c a n c Z j _ h).mono ?_
  rintro e w3 ⟨⟨am, nm, cm, Zm, rfl, im, pm⟩, hb3⟩
  have hlaw : (closeP (Z.map ZV.p) j).2 = 0 → FewL 1 (Z.map ZV.p) (Zm.map ZV.p) j := by rw [pm]; exact few_close
  generalize (closeP (Z.map ZV.p) j).2 = er at *
  replace h := h.below hb3 (Nat.le_refl _)
  replace bT := belowT bT hb3
  clear hb3 pm hd
  by_cases he : er = 0
  · have HL := hide (hlaw he)
    subst he
    clear hlaw
    go_wp2_with fail
    refine (YCheck_c am nm cm Zm _ im).mono ?_
    rintro e w4 ⟨rfl, hb4⟩
    rw [HL.out.1]
    replace h := h.below hb4 (Nat.le_refl _)
    replace im := im.below hb4 (Nat.le_refl _)
    replace bT := belowT bT hb4
    clear hb4
    obtain ⟨rfl, b1, o1, rfl, hr1⟩ := zs_four h hok
    obtain ⟨hnm, b2, o2, ham, hr2⟩ := zs_four im HL.out.1
    rw [ham, hnm]
    have hlm := hide im.len
    have hlz := hide h.len
    have hcnt := (checkZs_ok HL.out.1).2.2.1
    rw [← cnt_map] at hcnt
    clear hok ham
    go_wp2
    go_loopw [11, 75] (fun o i wr => ∃ t : Nat, t ≤ 4 ∧ i = .int .i64 t ∧ o = .int .i64 (cnt isO (Zm.take t)) ∧ Below w4.heap.size w4 wr) (fun _ i _ => 4 - (intOf i).toNat)
    case atStart => exact ⟨0, by omega, rfl, rfl, Below.refl _ _⟩
    case round =>
      obtain ⟨t, ht, rfl, rfl, hbr⟩ := hrel
      rename_i wr
      by_cases hlt : t < 4
      · obtain ⟨z, hz⟩ : ∃ z, Zm[t]? = some z := ⟨Zm[t]'(by rw [hlm.out, hnm]; exact hlt), by simp⟩
        obtain ⟨y, hyy⟩ : ∃ z, Z[t]? = some z := ⟨Z[t]'(by rw [hlz.out]; exact hlt), by simp⟩
        have hkeep := HL.out.2.2 t y.p z.p (by simp [hyy]) (by simp [hz])
        obtain ⟨e0, e1⟩ := hr2 t z hz
        obtain ⟨g0, g1⟩ := hr1 t y hyy
        have iz : z.ok wr := Ints.below (im.ok z (List.mem_of_getElem? hz)) hbr (Nat.le_refl _)
        have iy : y.ok wr := Ints.below (h.ok y (List.mem_of_getElem? hyy)) hbr (Nat.le_refl _)
        replace e0 := keepc hbr e0
        replace e1 := keepc hbr e1
        replace g0 := past1 (keepc hbr g0)
        replace g1 := past1 (keepc hbr g1)
        have q1 := cnt_le isO (Zm.take t)
        have q3 := List.length_take_le t Zm
        have s1 := hide (cnt_snoc isO Zm t z hz)
        generalize cnt isO (Zm.take t) = u at *
        have hlt' : (t : Int) < 4 := by omega
        have hzl := iz.len
        have hyl := iy.len
        have hzm := iz.max
        have hzle := iz.le
        have hym := iy.max
        have hyle := iy.le
        have HK := hide hkeep
        have HZL := hide hzl
        have HYL := hide hyl
        clear hz hyy hkeep hzl hyl
        have hst : (z.s == 1) = true ∨ ((z.s == 1) = false ∧ (z.s == 2) = true) ∨ ((z.s == 1) = false ∧ (z.s == 2) = false) := by
          cases (z.s == 1) <;> cases (z.s == 2) <;> simp
        rcases HK.out with ⟨htj, hq3, hz0⟩ | ⟨hno, r, hzr, hmore⟩
        · first
            | exact absurd hq3 (by decide)
            | (have hz0' : z.l = [] := hz0
               have hzn0 : ¬ (0 : Int) < (z.n : Int) := by have := HZL.out; rw [hz0'] at this; simp at this; omega
               have htj' : ((t : Int) == (j : Int)) = true := by simp; omega
               clear HK hq3 hz0 hz0' htj
               rcases hst with v1 | ⟨v1, v2⟩ | ⟨v1, v2⟩
               all_goals
                 go_wp2
                 refine ⟨⟨t + 1, by omega, by go_num, vint ?_, by (repeat first | exact bel0 | assumption | refine bel1 ?_ | refine bel2 ?_ | refine bel3 ?_ | refine belowT ?_ (by assumption) | refine bel5 ?_ (by simp; try omega))⟩, by simp [intOf]; omega⟩
                 rw [s1.out]; simp [isO, *])
        · have hzr' : z.l = y.l ++ r := hzr
          have hyn : y.n ≤ z.n := by have e1 := HZL.out; have e2 := HYL.out; rw [hzr', List.length_append] at e1; omega
          have IZ : Ints wr z.a y.n z.c y.l := by
            have hh := Ints.head iz y.n hyn
            have e : z.l.take y.n = y.l := by rw [hzr', ← HYL.out, List.take_left]
            rw [e] at hh
            exact hh
          have IY : Ints wr y.a y.n y.c y.l := iy
          have hm1 : (y.n : Int) < (z.n : Int) → t = j ∧ (1 : Int) = 4 := fun hlt2 => hmore (fun e => by have e1 := HZL.out; have e2 := HYL.out; rw [hzr', e, List.append_nil] at e1; omega)
          have d1 : decide ((z.n : Int) < (y.n : Int)) = false := by simp; omega
          have d2 : decide (z.n < y.n) = false := by simp; omega
          have d3 : ¬ (z.n : Int) < (y.n : Int) := by omega
          have k1 : (0 : Int) ≤ (y.n : Int) := by omega
          have k2 : (y.n : Int) ≤ (z.c : Int) := by omega
          have hw3 : ((t : Int) == (j : Int)) = true ∧ ((t : Int) != (j : Int)) = false ∨ ((t : Int) == (j : Int)) = false ∧ ((t : Int) != (j : Int)) = true := by
            by_cases e : t = j
            · left; simp [e]
            · right; simp; omega
          have hw4 : decide ((y.n : Int) < (z.n : Int)) = false ∨ decide ((y.n : Int) < (z.n : Int)) = true ∧ t = j ∧ (1 : Int) = 4 := by
            by_cases e : (y.n : Int) < (z.n : Int)
            · right; exact ⟨by simpa using e, hm1 e⟩
            · left; simpa using e
          have HNO := hide hno
          clear HK hno hzr hzr' hmore hm1 iz iy
          rcases hw4 with v4 | ⟨v4, v5, v6⟩
          · have v41 : ¬ (y.n : Int) < (z.n : Int) := by simpa using v4
            have v42 : (z.n : Int) ≤ (y.n : Int) := by omega
            have v43 : z.n ≤ y.n := by omega
            have v44 : decide (y.n < z.n) = false := by simp; omega
            by_cases htj : t = j
            · first
                | exact (HNO.out ⟨htj, rfl⟩).elim
                | (have v5 : ((t : Int) == (j : Int)) = true := by simp; omega
                   have v6 : ((t : Int) != (j : Int)) = false := by simp; omega
                   clear hw3 htj
                   rcases hst with v1 | ⟨v1, v2⟩ | ⟨v1, v2⟩
                   all_goals
                     go_wp2
                     go_quiet ((go_at_call 20; exact Calls.quiet_of (Equal_true _ _ _ _ _ _ y.l _ (by refine Ints.below IZ (B := wr.heap.size) ?_ (Nat.le_refl _); (repeat first | exact bel0 | assumption | refine bel1 ?_ | refine bel2 ?_ | refine bel3 ?_ | refine belowT ?_ (by assumption) | refine bel5 ?_ (by simp; try omega))) (by refine Ints.below IY (B := wr.heap.size) ?_ (Nat.le_refl _); (repeat first | exact bel0 | assumption | refine bel1 ?_ | refine bel2 ?_ | refine bel3 ?_ | refine belowT ?_ (by assumption) | refine bel5 ?_ (by simp; try omega))))))
                     go_wp2
                     refine ⟨⟨t + 1, by omega, by go_num, vint ?_, by (repeat first | exact bel0 | assumption | refine bel1 ?_ | refine bel2 ?_ | refine bel3 ?_ | refine belowT ?_ (by assumption) | refine bel5 ?_ (by simp; try omega))⟩, by simp [intOf]; omega⟩
                     rw [s1.out]; simp [isO, *])
            · have v5 : ((t : Int) == (j : Int)) = false := by simp; omega
              have v6 : ((t : Int) != (j : Int)) = true := by simp; omega
              clear hw3 htj
              rcases hst with v1 | ⟨v1, v2⟩ | ⟨v1, v2⟩
              all_goals
                go_wp2
                go_quiet ((go_at_call 20; exact Calls.quiet_of (Equal_true _ _ _ _ _ _ y.l _ (by refine Ints.below IZ (B := wr.heap.size) ?_ (Nat.le_refl _); (repeat first | exact bel0 | assumption | refine bel1 ?_ | refine bel2 ?_ | refine bel3 ?_ | refine belowT ?_ (by assumption) | refine bel5 ?_ (by simp; try omega))) (by refine Ints.below IY (B := wr.heap.size) ?_ (Nat.le_refl _); (repeat first | exact bel0 | assumption | refine bel1 ?_ | refine bel2 ?_ | refine bel3 ?_ | refine belowT ?_ (by assumption) | refine bel5 ?_ (by simp; try omega))))))
                go_wp2
                refine ⟨⟨t + 1, by omega, by go_num, vint ?_, by (repeat first | exact bel0 | assumption | refine bel1 ?_ | refine bel2 ?_ | refine bel3 ?_ | refine belowT ?_ (by assumption) | refine bel5 ?_ (by simp; try omega))⟩, by simp [intOf]; omega⟩
                rw [s1.out]; simp [isO, *]
          · first
              | exact absurd v6 (by decide)
              | (have v7 : ((t : Int) == (j : Int)) = true := by simp; omega
                 have v8 : ((t : Int) != (j : Int)) = false := by simp; omega
                 clear v5 v6 hw3
                 have v41 : (y.n : Int) < (z.n : Int) := by simpa using v4
                 have v44 : decide (y.n < z.n) = true := by simp; omega
                 rcases hst with v1 | ⟨v1, v2⟩ | ⟨v1, v2⟩
                 all_goals
                   go_wp2
                   go_quiet ((go_at_call 20; exact Calls.quiet_of (Equal_true _ _ _ _ _ _ y.l _ (by refine Ints.below IZ (B := wr.heap.size) ?_ (Nat.le_refl _); (repeat first | exact bel0 | assumption | refine bel1 ?_ | refine bel2 ?_ | refine bel3 ?_ | refine belowT ?_ (by assumption) | refine bel5 ?_ (by simp; try omega))) (by refine Ints.below IY (B := wr.heap.size) ?_ (Nat.le_refl _); (repeat first | exact bel0 | assumption | refine bel1 ?_ | refine bel2 ?_ | refine bel3 ?_ | refine belowT ?_ (by assumption) | refine bel5 ?_ (by simp; try omega))))))
                   go_wp2
                   refine ⟨⟨t + 1, by omega, by go_num, vint ?_, by (repeat first | exact bel0 | assumption | refine bel1 ?_ | refine bel2 ?_ | refine bel3 ?_ | refine belowT ?_ (by assumption) | refine bel5 ?_ (by simp; try omega))⟩, by simp [intOf]; omega⟩
                   rw [s1.out]; simp [isO, *])
      · obtain rfl : t = 4 := by omega
        rw [List.take_of_length_le (by rw [hlm.out, hnm]; omega)]
        have hcnt' : (cnt isO Zm : Int) ≤ 2 := by omega
        go_wp2
        go_ret
        exact ⟨rfl, by (repeat first | exact bel0 | assumption | refine bel1 ?_ | refine bel2 ?_ | refine bel3 ?_ | refine belowT ?_ (by assumption) | refine bel5 ?_ (by simp; try omega))⟩
  · have he' : (er != 0) = true := by simpa using he
    clear hlaw he
    go_wp2
    go_ret
    exact ⟨rfl, bT⟩


end Go.Proofs.Ytaambknbbhjdnaa
