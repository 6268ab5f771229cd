/- The contracts of the document's own answers on zones; no condition but that the slice reads as the zones. -/
import Derived.Test.YtaambknbbhjdnaaC0
import Derived.Test.YtaambknbbhjdnaaB2
namespace Go.Proofs.Ytaambknbbhjdnaa
open Go.RowKit
set_option linter.unusedVariables false
set_option maxRecDepth 100000
set_option linter.unusedSimpArgs false

theorem vint {a b : Int} (h : a = b) : Value.int .i64 a = Value.int .i64 b := by rw [h]

set_option maxHeartbeats 2000000 in
theorem opened_some (b off n c : Nat) (Z : List ZV) (w : World) (h : Zones w (some ⟨b, off, none⟩) n c Z) (hb : b < w.heap.size)
    (hr : ∀ i z, Z[i]? = some z → w.cell? ⟨b, off + i * 2, none⟩ = some (.int .i64 z.s) ∧ w.cell? ⟨b, off + i * 2 + 1, none⟩ = some (.slice z.a z.n z.c)) :
    Calls Try.prog 38 #[.slice (some ⟨b, off, none⟩) n c] w fun e w' => e = .returned (.tuple #[.int .i64 (cnt isO Z), .int .i64 (cnt isA Z)]) ∧ Below w.heap.size w w' := by
  have hlen := h.len
  have hmax := h.max
  have hle := h.le
  go_enter Try.func38, Try.ntmps38
  go_wp2
  go_loopw [2, 3, 8] (fun o ac i wr => ∃ k : Nat, k ≤ n ∧ i = .int .i64 k ∧ o = .int .i64 (cnt isO (Z.take k)) ∧ ac = .int .i64 (cnt isA (Z.take k)) ∧ Below w.heap.size w wr) (fun _ _ i _ => n - (intOf i).toNat)
  case atStart => exact ⟨0, by omega, rfl, rfl, rfl, Below.refl _ _⟩
  case round =>
    obtain ⟨k, hk, rfl, rfl, rfl, hbr⟩ := hrel
    rename_i wr
    by_cases hlt : k < n
    · obtain ⟨z, hz⟩ : ∃ z, Z[k]? = some z := ⟨Z[k]'(by omega), by simp⟩
      obtain ⟨c0, c1⟩ := hr k z hz
      replace c0 := keepc hbr c0
      replace c1 := keepc hbr c1
      have hlt' : (k : Int) < (n : Int) := by omega
      have q1 := cnt_le isO (Z.take k)
      have q2 := cnt_le isA (Z.take k)
      have q3 := List.length_take_le k Z
      have s1 := hide (cnt_snoc isO Z k z hz)
      have s2 := hide (cnt_snoc isA Z k z hz)
      generalize cnt isO (Z.take k) = x at *
      generalize cnt isA (Z.take k) = y at *
      go_wp2
      all_goals
        refine ⟨⟨k + 1, by omega, by go_num, vint ?_, vint ?_, ?_⟩, by simp [intOf]; omega⟩
        · rw [s1.out]; simp [isO, *]
        · rw [s2.out]; simp [isA, isO, *]
        · (repeat first | exact bel0 | assumption | refine bel1 ?_ | refine bel2 ?_ | refine bel3 ?_ | refine belowT ?_ (by assumption) | refine bel5 ?_ (by simp; try omega))
    · obtain rfl : k = n := by omega
      rw [List.take_of_length_le (by omega)]
      go_wp2
      go_ret2
      exact ⟨rfl, hbr⟩

set_option maxHeartbeats 2000000 in
theorem EqualFuncR_some (b1 o1 m1 b2 o2 m2 n : Nat) (Z1 Z2 : List ZV) (w : World) (h1 : Zones w (some ⟨b1, o1, none⟩) n m1 Z1) (h2 : Zones w (some ⟨b2, o2, none⟩) n m2 Z2)
    (hr1 : ∀ i z, Z1[i]? = some z → w.cell? ⟨b1, o1 + i * 2, none⟩ = some (.int .i64 z.s) ∧ w.cell? ⟨b1, o1 + i * 2 + 1, none⟩ = some (.slice z.a z.n z.c))
    (hr2 : ∀ i z, Z2[i]? = some z → w.cell? ⟨b2, o2 + i * 2, none⟩ = some (.int .i64 z.s) ∧ w.cell? ⟨b2, o2 + i * 2 + 1, none⟩ = some (.slice z.a z.n z.c)) :
    Calls Try.prog 39 #[.slice (some ⟨b1, o1, none⟩) n m1, .slice (some ⟨b2, o2, none⟩) n m2, .func (Fn.func 40) #[] #[]] w fun e w' => e = .returned (.bool (decide (Z1.map ZV.p = Z2.map ZV.p))) ∧ Below w.heap.size w w' := by
  have hlen1 := hide h1.len
  have hlen2 := hide h2.len
  have hmax := h1.max
  have hle := h1.le
  go_enter Try.func39, Try.ntmps39
  go_wp2
  go_loopw [17] (fun i wr => ∃ k : Nat, k ≤ n ∧ i = .int .i64 k ∧ (Z1.take k).map ZV.p = (Z2.take k).map ZV.p ∧ Below w.heap.size w wr) (fun i _ => n - (intOf i).toNat)
  case atStart => exact ⟨0, by omega, rfl, by simp, Below.refl _ _⟩
  case round =>
    obtain ⟨k, hk, rfl, hp, hbr⟩ := hrel
    have HP := hide hp
    clear hp
    rename_i wr
    by_cases hlt : k < n
    · obtain ⟨z, hz⟩ : ∃ z, Z1[k]? = some z := ⟨Z1[k]'(by rw [hlen1.out]; exact hlt), by simp⟩
      obtain ⟨y, hy⟩ : ∃ z, Z2[k]? = some z := ⟨Z2[k]'(by rw [hlen2.out]; exact hlt), by simp⟩
      obtain ⟨c0, c1⟩ := hr1 k z hz
      obtain ⟨d0, d1⟩ := hr2 k y hy
      have iz := (h1.ok z (List.mem_of_getElem? hz)).below hbr (Nat.le_refl _)
      have iy := (h2.ok y (List.mem_of_getElem? hy)).below hbr (Nat.le_refl _)
      replace c0 := keepc hbr c0
      replace c1 := keepc hbr c1
      replace d0 := past1 (keepc hbr d0)
      replace d1 := past1 (keepc hbr d1)
      have HZ := hide hz
      have HY := hide hy
      have hlt' : (k : Int) < (n : Int) := by omega
      clear hz hy
      go_wp2_with (go_at_call 40; refine (SameZone_c z.s y.s z.a y.a z.n z.c y.n y.c z.l y.l _ (by refine Ints.below iz (B := wr.heap.size) ?_ (Nat.le_refl _); (repeat first | exact bel0 | assumption | refine bel1 ?_ | refine bel2 ?_ | refine bel3 ?_ | refine belowT ?_ (by assumption) | refine bel5 ?_ (by simp; try omega))) (by refine Ints.below iy (B := wr.heap.size) ?_ (Nat.le_refl _); (repeat first | exact bel0 | assumption | refine bel1 ?_ | refine bel2 ?_ | refine bel3 ?_ | refine belowT ?_ (by assumption) | refine bel5 ?_ (by simp; try omega)))).mono ?_; rintro e w9 ⟨rfl, hb9⟩)
      · rename_i hne
        go_ret
        exact ⟨ret_bool (decide_eq_false (map_ne Z1 Z2 k z y HZ.out HY.out (by simp at hne; rintro ⟨e1, e2⟩; rcases hne with h | h; exact h e1; exact h e2))).symm, by (repeat first | exact bel0 | assumption | refine bel1 ?_ | refine bel2 ?_ | refine bel3 ?_ | refine belowT ?_ (by assumption) | refine bel5 ?_ (by simp; try omega))⟩
      · rename_i heq
        exact ⟨⟨k + 1, by omega, by go_num, map_take_step Z1 Z2 k z y HZ.out HY.out HP.out (by simpa using heq), by (repeat first | exact bel0 | assumption | refine bel1 ?_ | refine bel2 ?_ | refine bel3 ?_ | refine belowT ?_ (by assumption) | refine bel5 ?_ (by simp; try omega))⟩, by simp [intOf]; omega⟩
    · obtain rfl : k = n := by omega
      go_wp2
      go_ret
      have hp := HP.out
      rw [List.take_of_length_le (by rw [hlen1.out]; omega), List.take_of_length_le (by rw [hlen2.out]; omega)] at hp
      exact ⟨ret_bool (by simp [hp]), hbr⟩

theorem EqualFuncR_ne (a1 a2 : Option Addr) (n1 n2 c1 c2 : Nat) (fv : Value) (w : World) (hne : n1 ≠ n2) (hm1 : n1 ≤ 9223372036854775807) (hm2 : n2 ≤ 9223372036854775807) :
    Calls Try.prog 39 #[.slice a1 n1 c1, .slice a2 n2 c2, fv] w fun e w' => e = .returned (.bool false) ∧ w' = w := by
  have hb : ((n1 : Int) != (n2 : Int)) = true := by simp; omega
  go_enter Try.func39, Try.ntmps39
  go_wp2
  go_ret
  exact ⟨rfl, rfl⟩

theorem EqualFuncR_zero (a1 a2 : Option Addr) (c1 c2 : Nat) (fv : Value) (w : World) :
    Calls Try.prog 39 #[.slice a1 0 c1, .slice a2 0 c2, fv] w fun e w' => e = .returned (.bool true) ∧ w' = w := by
  go_enter Try.func39, Try.ntmps39
  go_wp2
  refine wp_loop_rounds 1 ?_
  rw [rounds_succ]
  go_wp2
  go_ret
  exact ⟨rfl, rfl⟩

theorem EqualFuncR_c (a1 a2 : Option Addr) (n1 n2 c1 c2 : Nat) (Z1 Z2 : List ZV) (w : World) (h1 : Zones w a1 n1 c1 Z1) (h2 : Zones w a2 n2 c2 Z2) :
    Calls Try.prog 39 #[.slice a1 n1 c1, .slice a2 n2 c2, .func (Fn.func 40) #[] #[]] w fun e w' => e = .returned (.bool (decide (Z1.map ZV.p = Z2.map ZV.p))) ∧ Below w.heap.size w w' := by
  by_cases hn : n1 = n2
  · subst hn
    by_cases h0 : n1 = 0
    · subst h0
      have e1 := h1.len
      have e2 := h2.len
      rw [List.length_eq_zero_iff] at e1 e2
      subst e1 e2
      refine (EqualFuncR_zero a1 a2 c1 c2 _ w).mono ?_
      rintro e w' ⟨rfl, rfl⟩
      exact ⟨rfl, Below.refl _ _⟩
    · rcases h1.row with h | ⟨b1, o1, rfl, _, hr1⟩
      · omega
      · rcases h2.row with h | ⟨b2, o2, rfl, _, hr2⟩
        · omega
        · exact EqualFuncR_some b1 o1 c1 b2 o2 c2 n1 Z1 Z2 w h1 h2 hr1 hr2
  · have m1 := h1.max
    have m2 := h2.max
    have q1 := h1.le
    have q2 := h2.le
    refine (EqualFuncR_ne a1 a2 n1 n2 c1 c2 _ w hn (by omega) (by omega)).mono ?_
    rintro e w' ⟨rfl, rfl⟩
    exact ⟨ret_bool (decide_eq_false (map_len Z1 Z2 (by rw [h1.len, h2.len]; exact hn))).symm, Below.refl _ _⟩



theorem opened_c (a : Option Addr) (n c : Nat) (Z : List ZV) (w : World) (h : Zones w a n c Z) (hn : 0 < n) :
    Calls Try.prog 38 #[.slice a n c] w fun e w' => e = .returned (.tuple #[.int .i64 (cnt isO Z), .int .i64 (cnt isA Z)]) ∧ Below w.heap.size w w' := by
  rcases h.row with h0 | ⟨b, off, rfl, hb, hr⟩
  · omega
  · exact opened_some b off n c Z w h hb hr

theorem SameZones_c (a1 a2 : Option Addr) (n1 n2 c1 c2 : Nat) (Z1 Z2 : List ZV) (w : World) (h1 : Zones w a1 n1 c1 Z1) (h2 : Zones w a2 n2 c2 Z2) :
    Calls Try.prog 17 #[.slice a1 n1 c1, .slice a2 n2 c2] w fun e w' => e = .returned (.bool (decide (Z1.map ZV.p = Z2.map ZV.p))) ∧ Below w.heap.size w w' := by
  go_enter Try.func17, Try.ntmps17
  go_wp2_with fail
  refine (EqualFuncR_c a1 a2 n1 n2 c1 c2 Z1 Z2 _ h1 h2).mono ?_
  rintro e w' ⟨rfl, hb⟩
  go_wp2
  go_ret
  exact ⟨rfl, hb⟩

set_option maxHeartbeats 2000000 in
theorem CheckZones_four (b off c : Nat) (Z : List ZV) (w : World) (h : Zones w (some ⟨b, off, none⟩) 4 c Z)
    (hr : ∀ i z, Z[i]? = some z → w.cell? ⟨b, off + i * 2, none⟩ = some (.int .i64 z.s) ∧ w.cell? ⟨b, off + i * 2 + 1, none⟩ = some (.slice z.a z.n z.c)) :
    Calls Try.prog 15 #[.slice (some ⟨b, off, none⟩) 4 c] w fun e w' => e = .returned (.int .i64 (checkZs (Z.map ZV.p))) ∧ Below w.heap.size w w' := by
  have hlen := hide h.len
  go_enter Try.func15, Try.ntmps15
  go_wp2
  go_loopw [13] (fun i wr => ∃ k : Nat, k ≤ 4 ∧ i = .int .i64 k ∧ firstE ((Z.take k).map ZV.p) = 0 ∧ Below w.heap.size w wr) (fun i _ => 4 - (intOf i).toNat)
  case atStart => exact ⟨0, by omega, rfl, rfl, Below.refl _ _⟩
  case round =>
    obtain ⟨k, hk, rfl, hf, hbr⟩ := hrel
    have HF := hide hf
    clear hf
    rename_i wr
    by_cases hlt : k < 4
    · obtain ⟨z, hz⟩ : ∃ z, Z[k]? = some z := ⟨Z[k]'(by rw [hlen.out]; exact hlt), by simp⟩
      obtain ⟨c0, c1⟩ := hr k z hz
      have iz := (h.ok z (List.mem_of_getElem? hz)).below hbr (Nat.le_refl _)
      replace c0 := keepc hbr c0
      replace c1 := keepc hbr c1
      have HZ := hide hz
      have hlt' : (k : Int) < 4 := by omega
      clear hz
      go_wp2_with (go_at_call 37; refine (CheckZone_c z.s z.a z.n z.c z.l _ (by refine Ints.below iz (B := wr.heap.size) ?_ (Nat.le_refl _); (repeat first | exact bel0 | assumption | refine bel1 ?_ | refine bel2 ?_ | refine bel3 ?_ | refine belowT ?_ (by assumption) | refine bel5 ?_ (by simp; try omega)))).mono ?_; rintro e w9 ⟨rfl, hb9⟩)
      · rename_i hne
        go_ret
        exact ⟨ret_int (checkZs_2 hlen.out (firstE_at Z k z HZ.out HF.out (by simpa using hne)) (by simpa using hne)), by (repeat first | exact bel0 | assumption | refine bel1 ?_ | refine bel2 ?_ | refine bel3 ?_ | refine belowT ?_ (by assumption) | refine bel5 ?_ (by simp; try omega))⟩
      · rename_i heq
        exact ⟨⟨k + 1, by omega, by go_num, firstE_step Z k z HZ.out HF.out (by simpa using heq), by (repeat first | exact bel0 | assumption | refine bel1 ?_ | refine bel2 ?_ | refine bel3 ?_ | refine belowT ?_ (by assumption) | refine bel5 ?_ (by simp; try omega))⟩, by simp [intOf]; omega⟩
    · obtain rfl : k = 4 := by omega
      have hf := HF.out
      rw [List.take_of_length_le (by rw [hlen.out]; omega)] at hf
      have HG := hide hf
      clear hf HF
      go_wp2_with fail
      refine (opened_c _ 4 c Z _ (h.below (B := w.heap.size) hbr (Nat.le_refl _)) (by omega)).mono ?_
      rintro e w9 ⟨rfl, hb9⟩
      have q0 := cnt_le isO Z
      go_wp2
      · go_ret
        exact ⟨ret_int (checkZs_3 hlen.out HG.out (by omega)), by (repeat first | exact bel0 | assumption | refine bel1 ?_ | refine bel2 ?_ | refine bel3 ?_ | refine belowT ?_ (by assumption) | refine bel5 ?_ (by simp; try omega))⟩
      · go_ret
        exact ⟨ret_int (checkZs_0 hlen.out HG.out (by omega)), by (repeat first | exact bel0 | assumption | refine bel1 ?_ | refine bel2 ?_ | refine bel3 ?_ | refine belowT ?_ (by assumption) | refine bel5 ?_ (by simp; try omega))⟩
      · go_ret
        exact ⟨ret_int (checkZs_3 hlen.out HG.out (by omega)), by (repeat first | exact bel0 | assumption | refine bel1 ?_ | refine bel2 ?_ | refine bel3 ?_ | refine belowT ?_ (by assumption) | refine bel5 ?_ (by simp; try omega))⟩

theorem CheckZones_c (a : Option Addr) (n c : Nat) (Z : List ZV) (w : World) (h : Zones w a n c Z) :
    Calls Try.prog 15 #[.slice a n c] w fun e w' => e = .returned (.int .i64 (checkZs (Z.map ZV.p))) ∧ Below w.heap.size w w' := by
  have hm := h.max
  have hl := h.le
  by_cases h4 : n = 4
  · subst h4
    rcases h.row with h0 | ⟨b, off, rfl, hb, hr⟩
    · omega
    · exact CheckZones_four b off c Z w h hr
  · have hne : ((n : Int) != 4) = true := by simp; omega
    have hz := checkZs_1 (Z := Z) (by rw [h.len]; exact h4)
    have HZ := hide hz
    clear hz
    go_enter Try.func15, Try.ntmps15
    go_wp2
    go_ret
    exact ⟨ret_int HZ.out, Below.refl _ _⟩

end Go.Proofs.Ytaambknbbhjdnaa
