/- YardOthers answers true for every zones, number, data and choice, and leaves all that was there as it was; no condition. -/
import Derived.Test.YtaambknbbhjdnaaY2
import Derived.Test.YtaambknbbhjdnaaD4
import Derived.Test.YtaambknbbhjdnaaYFew
namespace Go.Proofs.Ytaambknbbhjdnaa
open Go.RowKit
set_option linter.unusedVariables false
set_option maxRecDepth 100000
set_option linter.unusedSimpArgs false

set_option maxRecDepth 100000 in
set_option maxHeartbeats 16000000 in
theorem YardOthers_true (a : Option Addr) (n c : Nat) (Z : List ZV) (x : Int) (b : Option Addr) (m d : Nat) (k : List Int) (w : World) (h : Zones w a n c Z) (hd : Ints w b m d k)
    (hx : -9223372036854775808 ≤ x ∧ x ≤ 9223372036854775807) :
    Calls Try.prog 6 #[.slice a n c, .int .i64 x, .slice b m d, .bool true] w fun e w' => e = .returned (.bool true) ∧ Below w.heap.size w w' := by
  go_enter Try.func6, Try.ntmps6
  go_wp2_with fail
  refine (at_c x 4 _ (by omega) (by omega) hx).mono ?_
  rintro e w2 ⟨rfl, rfl⟩
  have hj0 := Int.emod_nonneg x (show (4 : Int) ≠ 0 by omega)
  have hj1 := Int.emod_lt_of_pos x (show (0 : Int) < 4 by omega)
  generalize x % 4 = j at *
  obtain ⟨j, rfl⟩ := Int.eq_ofNat_of_zero_le hj0
  go_wp2_with fail
  refine (YWrite_c a n c Z j b m d k _ h hd).mono ?_
  rintro e w3 ⟨⟨am, nm, cm, Zm, rfl, im, pm⟩, hb3⟩
  clear im pm
  go_wp2_with fail
  refine (YHold_c a n c Z j _ (h.below hb3 (Nat.le_refl _))).mono ?_
  rintro e w3 ⟨⟨am, nm, cm, Zm, rfl, im, pm⟩, hbq⟩
  replace hb3 := belowT hb3 hbq
  have hlaw : (holdP (Z.map ZV.p) j).2 = 0 → OthL true (Z.map ZV.p) (Zm.map ZV.p) j ∧ checkZs (Z.map ZV.p) = 0 := fun h0 => by rw [pm]; exact ⟨oth_hold h0, hold_ok4 h0⟩
  generalize (holdP (Z.map ZV.p) j).2 = er at *
  replace h := h.below hb3 (Nat.le_refl _)
  have bT := hb3
  clear hb3 pm hd
  go_wp2_with fail
  refine (crowded_c _).mono ?_
  rintro e w4 ⟨rfl, hb4⟩
  replace h := h.below hb4 (Nat.le_refl _)
  replace im := im.below hb4 (Nat.le_refl _)
  replace bT := belowT bT hb4
  clear hb4
  by_cases he : er = 0
  · have HL := hide (hlaw he)
    subst he
    clear hlaw
    obtain ⟨rfl, b1, o1, rfl, hr1⟩ := zs_four h HL.out.2
    have hlm : Zm.length = 4 := by have := HL.out.1.1; simpa using this
    have hnm : nm = 4 := by rw [← im.len, hlm]
    obtain ⟨b2, o2, ham, hr2⟩ : ∃ b off, am = some ⟨b, off, none⟩ ∧ ∀ i z, Zm[i]? = some z → w4.cell? ⟨b, off + i * 2, none⟩ = some (.int .i64 z.s) ∧ w4.cell? ⟨b, off + i * 2 + 1, none⟩ = some (.slice z.a z.n z.c) := by
      rcases im.row with h0 | ⟨b, off, ha, _, hr⟩
      · omega
      · exact ⟨b, off, ha, hr⟩
    rw [ham, hnm]
    have hlz := hide h.len
    have HLM := hide hlm
    obtain ⟨i0, hi0⟩ := HL.out.1.2.1
    have HI := hide hi0
    clear ham hnm hlm hi0
    go_wp2
    go_loopw [12, 40] (fun o i wr => ∃ t u : Nat, t ≤ 4 ∧ i = .int .i64 t ∧ o = .int .i64 u ∧ u ≤ 1 ∧ (u = 1 → i0 < t) ∧ Below w4.heap.size w4 wr) (fun _ i _ => 4 - (intOf i).toNat)
    case atStart => exact ⟨0, 0, by omega, rfl, rfl, by omega, by omega, Below.refl _ _⟩
    case round =>
      obtain ⟨t, u, ht, rfl, rfl, hu, hut, hbr⟩ := hrel
      rename_i wr
      by_cases hlt : t < 4
      · obtain ⟨z, hz⟩ : ∃ z, Zm[t]? = some z := ⟨Zm[t]'(by rw [HLM.out]; exact hlt), by simp⟩
        obtain ⟨y, hyy⟩ : ∃ z, Z[t]? = some z := ⟨Z[t]'(by rw [hlz.out]; exact hlt), by simp⟩
        have hlt' : (t : Int) < 4 := by omega
        by_cases htj : t = j
        · have v5 : ((t : Int) == (j : Int)) = true := by simp; omega
          clear hz hyy htj
          go_wp2
          go_quiet (fail)
          go_wp2
          exact ⟨⟨t + 1, u, by omega, by go_num, rfl, hu, fun e => by have := hut e; omega, by (repeat first | exact bel0 | assumption | refine bel1 ?_ | refine bel2 ?_ | refine bel3 ?_ | refine belowT ?_ (by assumption) | refine bel5 ?_ (by simp; try omega))⟩, by simp [intOf]; omega⟩
        · have v5 : ((t : Int) == (j : Int)) = false := by simp; omega
          have hcase := HI.out t y.p z.p htj (by simp [hyy]) (by simp [hz])
          obtain ⟨e0, e1⟩ := hr2 t z hz
          obtain ⟨g0, g1⟩ := hr1 t y hyy
          have iz : z.ok wr := Ints.below (im.ok z (List.mem_of_getElem? hz)) hbr (Nat.le_refl _)
          have iy : y.ok wr := Ints.below (h.ok y (List.mem_of_getElem? hyy)) hbr (Nat.le_refl _)
          replace e0 := keepc hbr e0
          replace e1 := keepc hbr e1
          replace g0 := keepc hbr g0
          replace g1 := keepc hbr g1
          have HC := hide hcase
          clear hz hyy hcase htj
          go_upto_region 11 with fail
          go_cut [56] (fun v wx => v = .bool (decide (y.s = z.s ∧ y.l = z.l)) ∧ Below wr.heap.size wr wx)
          case first =>
            go_region_held3 (fun w' => w'.cell? ⟨b2, o2 + t * 2, none⟩ = some (.int .i64 z.s) ∧ w'.cell? ⟨b2, o2 + t * 2 + 1, none⟩ = some (.slice z.a z.n z.c) ∧ w'.cell? ⟨b1, o1 + t * 2, none⟩ = some (.int .i64 y.s) ∧ w'.cell? ⟨b1, o1 + t * 2 + 1, none⟩ = some (.slice y.a y.n y.c)) ((first | (go_simp; done) | (simp [*, World.cell?_alloc_at, World.cell?_alloc_past, World.cell?_alloc_some, World.cell?_setCell_far]; done)))
              (first | (go_at_call 22; refine (Same_c y.s z.s y.a z.a y.n y.c z.n z.c y.l z.l _ (by refine Ints.below iy (B := wr.heap.size) ?_ (Nat.le_refl _); (repeat first | exact bel0 | assumption | refine bel1 ?_ | refine bel2 ?_ | refine bel3 ?_ | refine belowT ?_ (by assumption) | refine bel5 ?_ (by simp; try omega))) (by refine Ints.below iz (B := wr.heap.size) ?_ (Nat.le_refl _); (repeat first | exact bel0 | assumption | refine bel1 ?_ | refine bel2 ?_ | refine bel3 ?_ | refine belowT ?_ (by assumption) | refine bel5 ?_ (by simp; try omega)))).mono ?_; rintro e w9 ⟨rfl, hb9⟩; (have f0 := keepc hb9 (p := ⟨b2, o2 + t * 2, none⟩) (u := .int .i64 z.s) (by go_simp)); (have f1 := keepc hb9 (p := ⟨b2, o2 + t * 2 + 1, none⟩) (u := .slice z.a z.n z.c) (by go_simp)); (have f2 := keepc hb9 (p := ⟨b1, o1 + t * 2, none⟩) (u := .int .i64 y.s) (by go_simp)); (have f3 := keepc hb9 (p := ⟨b1, o1 + t * 2 + 1, none⟩) (u := .slice y.a y.n y.c) (by go_simp))))
            go_wp2_with fail
            go_meet
            case rel => exact ⟨by simp, by (repeat first | exact bel0 | assumption | refine bel1 ?_ | refine bel2 ?_ | refine bel3 ?_ | refine belowT ?_ (by assumption) | refine bel5 ?_ (by simp; try omega))⟩
          case rest =>
            obtain ⟨rfl, hbc⟩ := hcut
            by_cases hs : y.s = z.s ∧ y.l = z.l
            · rw [decide_eq_true hs]
              clear HC hs
              go_wp2
              exact ⟨⟨t + 1, u, by omega, by go_num, rfl, hu, fun e => by have := hut e; omega, by (repeat first | exact bel0 | assumption | refine bel1 ?_ | refine bel2 ?_ | refine bel3 ?_ | refine belowT ?_ (by assumption) | refine bel5 ?_ (by simp; try omega))⟩, by simp [intOf]; omega⟩
            · rw [decide_eq_false hs]
              rcases HC.out with heq | ⟨hti, hy1, hz1, hzy⟩
              · exact absurd ⟨(congrArg Prod.fst heq).symm, (congrArg Prod.snd heq).symm⟩ hs
              · have hy1' : y.s = 1 := hy1
                have hz1' : z.s = 0 ∨ z.s = 3 := hz1
                have hzy' : z.l = y.l := hzy
                have u0 : u = 0 := by
                  rcases Nat.eq_zero_or_pos u with h0 | h0
                  · exact h0
                  · have := hut (by omega); omega
                subst u0
                have t1 : (y.s != 1) = false := by simp [hy1']
                have t2 : (z.s == 1) = false := by rcases hz1' with e | e <;> simp [e]
                have t3 : (z.s == 2) = false := by rcases hz1' with e | e <;> simp [e]
                replace e0 := keepc hbc e0
                replace e1 := keepc hbc e1
                replace g0 := keepc hbc g0
                replace g1 := keepc hbc g1
                have IZ : Ints wc z.a z.n z.c y.l := by have := Ints.below iz hbc (Nat.le_refl _); rw [hzy'] at this; exact this
                have IY : Ints wc y.a y.n y.c y.l := Ints.below iy hbc (Nat.le_refl _)
                have hti' : i0 < t + 1 := by omega
                clear HC hs hy1 hz1 hzy hy1' hz1' hzy' hut hti iz iy
                go_wp2
                go_quiet ((go_at_call 20; exact Calls.quiet_of (Equal_true _ _ _ _ _ _ y.l _ (by refine Ints.below IY (B := wc.heap.size) ?_ (Nat.le_refl _); (repeat first | exact bel0 | assumption | refine bel1 ?_ | refine bel2 ?_ | refine bel3 ?_ | refine belowT ?_ (by assumption) | refine bel5 ?_ (by simp; try omega))) (by refine Ints.below IZ (B := wc.heap.size) ?_ (Nat.le_refl _); (repeat first | exact bel0 | assumption | refine bel1 ?_ | refine bel2 ?_ | refine bel3 ?_ | refine belowT ?_ (by assumption) | refine bel5 ?_ (by simp; try omega))))))
                go_wp2
                exact ⟨⟨t + 1, 1, by omega, by go_num, rfl, by omega, fun _ => hti', by (repeat first | exact bel0 | assumption | refine bel1 ?_ | refine bel2 ?_ | refine bel3 ?_ | refine belowT ?_ (by assumption) | refine bel5 ?_ (by simp; try omega))⟩, by simp [intOf]; omega⟩
      · obtain rfl : t = 4 := by omega
        obtain ⟨zp, hzp, hst⟩ := HL.out.1.2.2
        obtain ⟨z, hz⟩ : ∃ z, Zm[j]? = some z := ⟨Zm[j]'(by rw [HLM.out]; omega), by simp⟩
        obtain rfl : z.p = zp := by rw [List.getElem?_map, hz] at hzp; simpa using hzp
        obtain ⟨e0, e1⟩ := hr2 j z hz
        replace e0 := keepc hbr e0
        have hj4 : (j : Int) < 4 := by omega
        have hu1 : (u : Int) ≤ 1 := by omega
        have hst' : z.s = 2 ∨ (z.s = 1 ∨ z.s = 4) ∧ true = false := hst
        clear hst hz hzp e1 hr1 hr2 HI HL hut
        rcases hst' with v | ⟨v | v, hf⟩
        · have t1 : (z.s == 2) = true := by simp [v]
          clear v
          go_wp2
          go_ret
          exact ⟨rfl, by (repeat first | exact bel0 | assumption | refine bel1 ?_ | refine bel2 ?_ | refine bel3 ?_ | refine belowT ?_ (by assumption) | refine bel5 ?_ (by simp; try omega))⟩
        · first
            | exact absurd hf (by decide)
            | (have t1 : (z.s == 2) = false := by simp [v]
               have t2 : (z.s == 1) = true := by simp [v]
               clear v hf
               go_wp2
               go_ret
               exact ⟨rfl, by (repeat first | exact bel0 | assumption | refine bel1 ?_ | refine bel2 ?_ | refine bel3 ?_ | refine belowT ?_ (by assumption) | refine bel5 ?_ (by simp; try omega))⟩)
        · first
            | exact absurd hf (by decide)
            | (have t1 : (z.s == 2) = false := by simp [v]
               have t2 : (z.s == 1) = false := by simp [v]
               have t3 : (z.s == 4) = true := by simp [v]
               clear v hf
               go_wp2
               go_ret
               exact ⟨rfl, by (repeat first | exact bel0 | assumption | refine bel1 ?_ | refine bel2 ?_ | refine bel3 ?_ | refine belowT ?_ (by assumption) | refine bel5 ?_ (by simp; try omega))⟩)
  · have he' : (er != 0) = true := by simpa using he
    clear hlaw he
    go_wp2_with fail
    refine (crowded_c _).mono ?_
    rintro e w5 ⟨rfl, hb5⟩
    go_wp2
    go_ret
    exact ⟨rfl, by (repeat first | exact bel0 | assumption | refine bel1 ?_ | refine bel2 ?_ | refine bel3 ?_ | refine belowT ?_ (by assumption) | refine bel5 ?_ (by simp; try omega))⟩


set_option maxRecDepth 100000 in
set_option maxHeartbeats 16000000 in
theorem YardOthers_false (a : Option Addr) (n c : Nat) (Z : List ZV) (x : Int) (b : Option Addr) (m d : Nat) (k : List Int) (w : World) (h : Zones w a n c Z) (hd : Ints w b m d k)
    (hx : -9223372036854775808 ≤ x ∧ x ≤ 9223372036854775807) :
    Calls Try.prog 6 #[.slice a n c, .int .i64 x, .slice b m d, .bool false] w fun e w' => e = .returned (.bool true) ∧ Below w.heap.size w w' := by
  go_enter Try.func6, Try.ntmps6
  go_wp2_with fail
  refine (at_c x 4 _ (by omega) (by omega) hx).mono ?_
  rintro e w2 ⟨rfl, rfl⟩
  have hj0 := Int.emod_nonneg x (show (4 : Int) ≠ 0 by omega)
  have hj1 := Int.emod_lt_of_pos x (show (0 : Int) < 4 by omega)
  generalize x % 4 = j at *
  obtain ⟨j, rfl⟩ := Int.eq_ofNat_of_zero_le hj0
  go_wp2_with fail
  refine (YWrite_c a n c Z j b m d k _ h hd).mono ?_
  rintro e w3 ⟨⟨am, nm, cm, Zm, rfl, im, pm⟩, hb3⟩
  have hlaw : (writeP (Z.map ZV.p) j k).2.2 = 0 → OthL false (Z.map ZV.p) (Zm.map ZV.p) j ∧ checkZs (Z.map ZV.p) = 0 := fun h0 => by rw [pm]; exact ⟨oth_write h0, write_ok4 h0⟩
  generalize (writeP (Z.map ZV.p) j k).2.2 = er at *
  replace h := h.below hb3 (Nat.le_refl _)
  have bT := hb3
  clear hb3 pm hd
  go_wp2_with fail
  refine (crowded_c _).mono ?_
  rintro e w4 ⟨rfl, hb4⟩
  replace h := h.below hb4 (Nat.le_refl _)
  replace im := im.below hb4 (Nat.le_refl _)
  replace bT := belowT bT hb4
  clear hb4
  by_cases he : er = 0
  · have HL := hide (hlaw he)
    subst he
    clear hlaw
    obtain ⟨rfl, b1, o1, rfl, hr1⟩ := zs_four h HL.out.2
    have hlm : Zm.length = 4 := by have := HL.out.1.1; simpa using this
    have hnm : nm = 4 := by rw [← im.len, hlm]
    obtain ⟨b2, o2, ham, hr2⟩ : ∃ b off, am = some ⟨b, off, none⟩ ∧ ∀ i z, Zm[i]? = some z → w4.cell? ⟨b, off + i * 2, none⟩ = some (.int .i64 z.s) ∧ w4.cell? ⟨b, off + i * 2 + 1, none⟩ = some (.slice z.a z.n z.c) := by
      rcases im.row with h0 | ⟨b, off, ha, _, hr⟩
      · omega
      · exact ⟨b, off, ha, hr⟩
    rw [ham, hnm]
    have hlz := hide h.len
    have HLM := hide hlm
    obtain ⟨i0, hi0⟩ := HL.out.1.2.1
    have HI := hide hi0
    clear ham hnm hlm hi0
    go_wp2
    go_loopw [12, 40] (fun o i wr => ∃ t u : Nat, t ≤ 4 ∧ i = .int .i64 t ∧ o = .int .i64 u ∧ u ≤ 1 ∧ (u = 1 → i0 < t) ∧ Below w4.heap.size w4 wr) (fun _ i _ => 4 - (intOf i).toNat)
    case atStart => exact ⟨0, 0, by omega, rfl, rfl, by omega, by omega, Below.refl _ _⟩
    case round =>
      obtain ⟨t, u, ht, rfl, rfl, hu, hut, hbr⟩ := hrel
      rename_i wr
      by_cases hlt : t < 4
      · obtain ⟨z, hz⟩ : ∃ z, Zm[t]? = some z := ⟨Zm[t]'(by rw [HLM.out]; exact hlt), by simp⟩
        obtain ⟨y, hyy⟩ : ∃ z, Z[t]? = some z := ⟨Z[t]'(by rw [hlz.out]; exact hlt), by simp⟩
        have hlt' : (t : Int) < 4 := by omega
        by_cases htj : t = j
        · have v5 : ((t : Int) == (j : Int)) = true := by simp; omega
          clear hz hyy htj
          go_wp2
          go_quiet (fail)
          go_wp2
          exact ⟨⟨t + 1, u, by omega, by go_num, rfl, hu, fun e => by have := hut e; omega, by (repeat first | exact bel0 | assumption | refine bel1 ?_ | refine bel2 ?_ | refine bel3 ?_ | refine belowT ?_ (by assumption) | refine bel5 ?_ (by simp; try omega))⟩, by simp [intOf]; omega⟩
        · have v5 : ((t : Int) == (j : Int)) = false := by simp; omega
          have hcase := HI.out t y.p z.p htj (by simp [hyy]) (by simp [hz])
          obtain ⟨e0, e1⟩ := hr2 t z hz
          obtain ⟨g0, g1⟩ := hr1 t y hyy
          have iz : z.ok wr := Ints.below (im.ok z (List.mem_of_getElem? hz)) hbr (Nat.le_refl _)
          have iy : y.ok wr := Ints.below (h.ok y (List.mem_of_getElem? hyy)) hbr (Nat.le_refl _)
          replace e0 := keepc hbr e0
          replace e1 := keepc hbr e1
          replace g0 := keepc hbr g0
          replace g1 := keepc hbr g1
          have HC := hide hcase
          clear hz hyy hcase htj
          go_upto_region 11 with fail
          go_cut [56] (fun v wx => v = .bool (decide (y.s = z.s ∧ y.l = z.l)) ∧ Below wr.heap.size wr wx)
          case first =>
            go_region_held3 (fun w' => w'.cell? ⟨b2, o2 + t * 2, none⟩ = some (.int .i64 z.s) ∧ w'.cell? ⟨b2, o2 + t * 2 + 1, none⟩ = some (.slice z.a z.n z.c) ∧ w'.cell? ⟨b1, o1 + t * 2, none⟩ = some (.int .i64 y.s) ∧ w'.cell? ⟨b1, o1 + t * 2 + 1, none⟩ = some (.slice y.a y.n y.c)) ((first | (go_simp; done) | (simp [*, World.cell?_alloc_at, World.cell?_alloc_past, World.cell?_alloc_some, World.cell?_setCell_far]; done)))
              (first | (go_at_call 22; refine (Same_c y.s z.s y.a z.a y.n y.c z.n z.c y.l z.l _ (by refine Ints.below iy (B := wr.heap.size) ?_ (Nat.le_refl _); (repeat first | exact bel0 | assumption | refine bel1 ?_ | refine bel2 ?_ | refine bel3 ?_ | refine belowT ?_ (by assumption) | refine bel5 ?_ (by simp; try omega))) (by refine Ints.below iz (B := wr.heap.size) ?_ (Nat.le_refl _); (repeat first | exact bel0 | assumption | refine bel1 ?_ | refine bel2 ?_ | refine bel3 ?_ | refine belowT ?_ (by assumption) | refine bel5 ?_ (by simp; try omega)))).mono ?_; rintro e w9 ⟨rfl, hb9⟩; (have f0 := keepc hb9 (p := ⟨b2, o2 + t * 2, none⟩) (u := .int .i64 z.s) (by go_simp)); (have f1 := keepc hb9 (p := ⟨b2, o2 + t * 2 + 1, none⟩) (u := .slice z.a z.n z.c) (by go_simp)); (have f2 := keepc hb9 (p := ⟨b1, o1 + t * 2, none⟩) (u := .int .i64 y.s) (by go_simp)); (have f3 := keepc hb9 (p := ⟨b1, o1 + t * 2 + 1, none⟩) (u := .slice y.a y.n y.c) (by go_simp))))
            go_wp2_with fail
            go_meet
            case rel => exact ⟨by simp, by (repeat first | exact bel0 | assumption | refine bel1 ?_ | refine bel2 ?_ | refine bel3 ?_ | refine belowT ?_ (by assumption) | refine bel5 ?_ (by simp; try omega))⟩
          case rest =>
            obtain ⟨rfl, hbc⟩ := hcut
            by_cases hs : y.s = z.s ∧ y.l = z.l
            · rw [decide_eq_true hs]
              clear HC hs
              go_wp2
              exact ⟨⟨t + 1, u, by omega, by go_num, rfl, hu, fun e => by have := hut e; omega, by (repeat first | exact bel0 | assumption | refine bel1 ?_ | refine bel2 ?_ | refine bel3 ?_ | refine belowT ?_ (by assumption) | refine bel5 ?_ (by simp; try omega))⟩, by simp [intOf]; omega⟩
            · rw [decide_eq_false hs]
              rcases HC.out with heq | ⟨hti, hy1, hz1, hzy⟩
              · exact absurd ⟨(congrArg Prod.fst heq).symm, (congrArg Prod.snd heq).symm⟩ hs
              · have hy1' : y.s = 1 := hy1
                have hz1' : z.s = 0 ∨ z.s = 3 := hz1
                have hzy' : z.l = y.l := hzy
                have u0 : u = 0 := by
                  rcases Nat.eq_zero_or_pos u with h0 | h0
                  · exact h0
                  · have := hut (by omega); omega
                subst u0
                have t1 : (y.s != 1) = false := by simp [hy1']
                have t2 : (z.s == 1) = false := by rcases hz1' with e | e <;> simp [e]
                have t3 : (z.s == 2) = false := by rcases hz1' with e | e <;> simp [e]
                replace e0 := keepc hbc e0
                replace e1 := keepc hbc e1
                replace g0 := keepc hbc g0
                replace g1 := keepc hbc g1
                have IZ : Ints wc z.a z.n z.c y.l := by have := Ints.below iz hbc (Nat.le_refl _); rw [hzy'] at this; exact this
                have IY : Ints wc y.a y.n y.c y.l := Ints.below iy hbc (Nat.le_refl _)
                have hti' : i0 < t + 1 := by omega
                clear HC hs hy1 hz1 hzy hy1' hz1' hzy' hut hti iz iy
                go_wp2
                go_quiet ((go_at_call 20; exact Calls.quiet_of (Equal_true _ _ _ _ _ _ y.l _ (by refine Ints.below IY (B := wc.heap.size) ?_ (Nat.le_refl _); (repeat first | exact bel0 | assumption | refine bel1 ?_ | refine bel2 ?_ | refine bel3 ?_ | refine belowT ?_ (by assumption) | refine bel5 ?_ (by simp; try omega))) (by refine Ints.below IZ (B := wc.heap.size) ?_ (Nat.le_refl _); (repeat first | exact bel0 | assumption | refine bel1 ?_ | refine bel2 ?_ | refine bel3 ?_ | refine belowT ?_ (by assumption) | refine bel5 ?_ (by simp; try omega))))))
                go_wp2
                exact ⟨⟨t + 1, 1, by omega, by go_num, rfl, by omega, fun _ => hti', by (repeat first | exact bel0 | assumption | refine bel1 ?_ | refine bel2 ?_ | refine bel3 ?_ | refine belowT ?_ (by assumption) | refine bel5 ?_ (by simp; try omega))⟩, by simp [intOf]; omega⟩
      · obtain rfl : t = 4 := by omega
        obtain ⟨zp, hzp, hst⟩ := HL.out.1.2.2
        obtain ⟨z, hz⟩ : ∃ z, Zm[j]? = some z := ⟨Zm[j]'(by rw [HLM.out]; omega), by simp⟩
        obtain rfl : z.p = zp := by rw [List.getElem?_map, hz] at hzp; simpa using hzp
        obtain ⟨e0, e1⟩ := hr2 j z hz
        replace e0 := keepc hbr e0
        have hj4 : (j : Int) < 4 := by omega
        have hu1 : (u : Int) ≤ 1 := by omega
        have hst' : z.s = 2 ∨ (z.s = 1 ∨ z.s = 4) ∧ false = false := hst
        clear hst hz hzp e1 hr1 hr2 HI HL hut
        rcases hst' with v | ⟨v | v, hf⟩
        · have t1 : (z.s == 2) = true := by simp [v]
          clear v
          go_wp2
          go_ret
          exact ⟨rfl, by (repeat first | exact bel0 | assumption | refine bel1 ?_ | refine bel2 ?_ | refine bel3 ?_ | refine belowT ?_ (by assumption) | refine bel5 ?_ (by simp; try omega))⟩
        · first
            | exact absurd hf (by decide)
            | (have t1 : (z.s == 2) = false := by simp [v]
               have t2 : (z.s == 1) = true := by simp [v]
               clear v hf
               go_wp2
               go_ret
               exact ⟨rfl, by (repeat first | exact bel0 | assumption | refine bel1 ?_ | refine bel2 ?_ | refine bel3 ?_ | refine belowT ?_ (by assumption) | refine bel5 ?_ (by simp; try omega))⟩)
        · first
            | exact absurd hf (by decide)
            | (have t1 : (z.s == 2) = false := by simp [v]
               have t2 : (z.s == 1) = false := by simp [v]
               have t3 : (z.s == 4) = true := by simp [v]
               clear v hf
               go_wp2
               go_ret
               exact ⟨rfl, by (repeat first | exact bel0 | assumption | refine bel1 ?_ | refine bel2 ?_ | refine bel3 ?_ | refine belowT ?_ (by assumption) | refine bel5 ?_ (by simp; try omega))⟩)
  · have he' : (er != 0) = true := by simpa using he
    clear hlaw he
    go_wp2_with fail
    refine (crowded_c _).mono ?_
    rintro e w5 ⟨rfl, hb5⟩
    go_wp2
    go_ret
    exact ⟨rfl, by (repeat first | exact bel0 | assumption | refine bel1 ?_ | refine bel2 ?_ | refine bel3 ?_ | refine belowT ?_ (by assumption) | refine bel5 ?_ (by simp; try omega))⟩



theorem YardOthers_c (a : Option Addr) (n c : Nat) (Z : List ZV) (x : Int) (b : Option Addr) (m d : Nat) (k : List Int) (q : Bool) (w : World) (h : Zones w a n c Z) (hd : Ints w b m d k)
    (hx : -9223372036854775808 ≤ x ∧ x ≤ 9223372036854775807) :
    Calls Try.prog 6 #[.slice a n c, .int .i64 x, .slice b m d, .bool q] w fun e w' => e = .returned (.bool true) ∧ Below w.heap.size w w' := by
  cases q
  · exact YardOthers_false a n c Z x b m d k w h hd hx
  · exact YardOthers_true a n c Z x b m d k w h hd hx
end Go.Proofs.Ytaambknbbhjdnaa
