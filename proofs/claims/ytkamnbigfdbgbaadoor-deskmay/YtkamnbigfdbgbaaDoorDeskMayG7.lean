/- The contracts of slices.Contains at ints, of yard's questions and of its counts; no condition but that the slices read as lists and zones. -/
import Derived.Test.YtkamnbigfdbgbaaDoorDeskMayG1
import Derived.Test.YtkamnbigfdbgbaaDoorDeskMayG3
import Derived.Test.YtkamnbigfdbgbaaDoorDeskMayG5
import Derived.Test.YtkamnbigfdbgbaaDoorDeskMayG6
namespace Go.Proofs.YtkamnbigfdbgbaaDoor
open Go.RowKit
set_option linter.unusedVariables false
set_option maxRecDepth 100000
set_option linter.unusedSimpArgs false

/-- Is s one of these? -/
def hasB (L : List Int) (s : Int) : Bool := L.any fun y => s == y
theorem has_O (s : Int) : hasB [1, 2] s = isO s := by simp [hasB, isO]
theorem has_A (s : Int) : hasB [1, 2, 3] s = isA s := by simp [hasB, isA, isO, Bool.or_assoc]
theorem has_1 (s : Int) : hasB [1] s = (s == 1) := by simp [hasB]

set_option maxHeartbeats 400000 in
theorem Index_some (b1 o1 n1 c1 : Nat) (l1 : List Int) (x : Int) (w : World) (hl1 : l1.length = n1) (hm1 : n1 ≤ 9223372036854775807)
    (hr1 : ∀ i, i < n1 → w.cell? ⟨b1, o1 + i, none⟩ = some (.int .i64 (l1.getD i 0))) :
    Calls Tryd.prog 82 #[.slice (some ⟨b1, o1, none⟩) n1 c1, .int .i64 x] w
      fun e w' => (∃ r, e = .returned (.int .i64 r) ∧ decide (0 ≤ r) = hasB l1 x) ∧ w' = w := by
  go_enter Tryd.func82, Tryd.ntmps82
  go_wp2
  go_loop [8] (fun i => ∃ k : Nat, k ≤ n1 ∧ i = .int .i64 k ∧ (l1.take k).any (fun y => x == y) = false) (fun i => n1 - (intOf i).toNat)
  case atStart => exact ⟨0, by omega, rfl, by simp⟩
  case round =>
    obtain ⟨k, hk, rfl, ht⟩ := hrel
    by_cases hlt : k < n1
    · have hi1 := hr1 k hlt
      have hlt' : (k : Int) < (n1 : Int) := by omega
      have HT := hide ht
      clear ht hr1
      generalize hy : l1.getD k 0 = y at hi1
      have HY := hide hy
      clear hy
      go_wp2
      · rename_i hxy
        go_ret
        exact ⟨⟨k, rfl, by unfold hasB; rw [any_of_getD _ l1 k (by omega) (by rw [HY.out]; exact ‹(x == y) = true›)]; simp⟩, rfl⟩
      · rename_i hxy
        exact ⟨⟨k + 1, by omega, by go_num, any_take_step _ l1 k (by omega) HT.out (by rw [HY.out]; simpa using hxy)⟩, by simp [intOf]; omega⟩
    · go_wp2
      go_ret
      rw [List.take_of_length_le (by omega)] at ht
      exact ⟨⟨-1, rfl, by unfold hasB; rw [ht]; rfl⟩, rfl⟩

theorem Index_none (a1 : Option Addr) (c1 : Nat) (x : Int) (w : World) :
    Calls Tryd.prog 82 #[.slice a1 0 c1, .int .i64 x] w fun e w' => e = .returned (.int .i64 (-1)) ∧ w' = w := by
  go_enter Tryd.func82, Tryd.ntmps82
  go_wp2
  refine wp_loop_rounds 1 ?_; rw [rounds_succ]
  go_wp2
  go_ret
  exact ⟨rfl, rfl⟩

theorem Contains_c (a1 : Option Addr) (n1 c1 : Nat) (l1 : List Int) (x : Int) (w : World) (h1 : Ints w a1 n1 c1 l1) :
    Calls Tryd.prog 74 #[.slice a1 n1 c1, .int .i64 x] w fun e w' => e = .returned (.bool (hasB l1 x)) ∧ w' = w := by
  obtain ⟨hl1, hc1, hm1, hn1, hr1, hw1⟩ := h1
  rcases hr1 with h0 | ⟨b1, o1, rfl, _, hr1⟩
  · subst h0
    rw [List.length_eq_zero_iff] at hl1
    subst hl1
    go_enter Tryd.func74, Tryd.ntmps74
    go_wp2_with fail
    refine (Index_none a1 c1 x _).mono ?_
    rintro e w' ⟨rfl, rfl⟩
    go_wp2
    go_ret
    exact ⟨rfl, rfl⟩
  · go_enter Tryd.func74, Tryd.ntmps74
    go_wp2_with fail
    refine (Index_some b1 o1 n1 c1 l1 x _ hl1 (by omega) hr1).mono ?_
    rintro e w' ⟨⟨r, rfl, hr⟩, rfl⟩
    have HR := hide hr
    clear hr
    go_wp2
    go_ret
    exact ⟨ret_bool HR.out, rfl⟩

theorem yin_c (a : Option Addr) (n c : Nat) (w : World) : Calls Tryd.prog 56 #[.slice a n c] w fun e w' => e = .returned (.func (Fn.func 73) #[] #[.pointer (some ⟨w.heap.size, 0, none⟩)]) ∧ w' = w.alloc (.cells #[.slice a n c] 23) := by
  go_enter Tryd.func56, Tryd.ntmps56
  go_wp2
  go_ret
  exact ⟨rfl, rfl⟩

theorem yin1_c (s : Int) (za : Option Addr) (zn zc : Nat) (g : Nat) (a : Option Addr) (n c : Nat) (L : List Int) (w : World) (hg : w.cell? ⟨g, 0, none⟩ = some (.slice a n c)) (hi : Ints w a n c L) :
    Calls Tryd.prog 73 #[.agg #[.int .i64 s, .slice za zn zc], .pointer (some ⟨g, 0, none⟩)] w fun e w' => e = .returned (.bool (hasB L s)) ∧ Below w.heap.size w w' := by
  have hg' := past1 hg
  have hi' := hi.below (B := w.heap.size) (belowA (Below.refl _ _) (.cells #[.int .i64 s, .slice za zn zc] 59)) (Nat.le_refl _)
  go_enter Tryd.func73, Tryd.ntmps73
  go_wp2_with (go_at_call 74; refine (Contains_c a n c L s _ hi').mono ?_; rintro e w' ⟨rfl, rfl⟩)
  go_ret
  exact ⟨rfl, by (repeat first | exact bel0 | assumption | refine bel1 ?_ | refine bel2 ?_ | refine bel3 ?_ | refine belowT ?_ (by assumption) | refine bel5 ?_ (by simp; try omega))⟩

set_option maxHeartbeats 1000000 in
theorem count_some (b off n c : Nat) (Z : List ZV) (g : Nat) (a : Option Addr) (m d : Nat) (L : List Int) (w : World) (h : Zones w (some ⟨b, off, none⟩) n c Z)
    (hr : ∀ i z, Z[i]? = some z → w.cell? ⟨b, off + i * 2, none⟩ = some (.int .i64 z.s) ∧ w.cell? ⟨b, off + i * 2 + 1, none⟩ = some (.slice z.a z.n z.c))
    (hg : w.cell? ⟨g, 0, none⟩ = some (.slice a m d)) (hi : Ints w a m d L) :
    Calls Tryd.prog 55 #[.slice (some ⟨b, off, none⟩) n c, .func (Fn.func 73) #[] #[.pointer (some ⟨g, 0, none⟩)]] w fun e w' => e = .returned (.int .i64 (cnt (hasB L) Z)) ∧ Below w.heap.size w w' := by
  have hlen := h.len
  have hmax := h.max
  have hle := h.le
  go_enter Tryd.func55, Tryd.ntmps55
  go_wp2
  go_loopw [5, 10] (fun o i wr => ∃ k : Nat, k ≤ n ∧ i = .int .i64 k ∧ o = .int .i64 (cnt (hasB L) (Z.take k)) ∧ Below w.heap.size w wr) (fun _ i _ => n - (intOf i).toNat)
  case atStart => exact ⟨0, by omega, rfl, rfl, Below.refl _ _⟩
  case round =>
    obtain ⟨k, hk, rfl, rfl, hbr⟩ := hrel
    rename_i wr
    by_cases hlt : k < n
    · obtain ⟨z, hz⟩ : ∃ z, Z[k]? = some z := ⟨Z[k]'(by omega), by simp⟩
      obtain ⟨c0, c1⟩ := hr k z hz
      replace c0 := keepc hbr c0
      replace c1 := keepc hbr c1
      have hg1 := keepc hbr hg
      have hi1 := hi.below hbr (Nat.le_refl _)
      have hlt' : (k : Int) < (n : Int) := by omega
      have q1 := cnt_le (hasB L) (Z.take k)
      have q3 := List.length_take_le k Z
      have s1 := hide (cnt_snoc (hasB L) Z k z hz)
      generalize cnt (hasB L) (Z.take k) = x at *
      clear hr hz
      go_wp2_with (go_at_call 73; refine (yin1_c z.s z.a z.n z.c g a m d L _ (keepc (by (repeat first | exact bel0 | assumption | refine bel1 ?_ | refine bel2 ?_ | refine bel3 ?_ | refine belowT ?_ (by assumption) | refine bel5 ?_ (by simp; try omega))) hg1) (by refine Ints.below hi1 (B := wr.heap.size) ?_ (Nat.le_refl _); (repeat first | exact bel0 | assumption | refine bel1 ?_ | refine bel2 ?_ | refine bel3 ?_ | refine belowT ?_ (by assumption) | refine bel5 ?_ (by simp; try omega)))).mono ?_; rintro e w9 ⟨rfl, hb9⟩)
      all_goals
        refine ⟨⟨k + 1, by omega, by go_num, vint ?_, ?_⟩, by simp [intOf]; omega⟩
        · rw [s1.out]; simp [*]
        · (repeat first | exact bel0 | assumption | refine bel1 ?_ | refine bel2 ?_ | refine bel3 ?_ | refine belowT ?_ (by assumption) | refine bel5 ?_ (by simp; try omega))
    · obtain rfl : k = n := by omega
      rw [List.take_of_length_le (by omega)]
      go_wp2
      go_ret
      exact ⟨rfl, hbr⟩

theorem count_c (a : Option Addr) (n c : Nat) (Z : List ZV) (g : Nat) (sa : Option Addr) (m d : Nat) (L : List Int) (w : World) (h : Zones w a n c Z) (hn : 0 < n)
    (hg : w.cell? ⟨g, 0, none⟩ = some (.slice sa m d)) (hi : Ints w sa m d L) :
    Calls Tryd.prog 55 #[.slice a n c, .func (Fn.func 73) #[] #[.pointer (some ⟨g, 0, none⟩)]] w fun e w' => e = .returned (.int .i64 (cnt (hasB L) Z)) ∧ Below w.heap.size w w' := by
  rcases h.row with h0 | ⟨b, off, rfl, hb, hr⟩
  · omega
  · exact count_some b off n c Z g sa m d L w h hr hg hi

theorem has_O' : hasB [1, 2] = isO := funext has_O
theorem has_A' : hasB [1, 2, 3] = isA := funext has_A

theorem yopened_c (a : Option Addr) (n c : Nat) (Z : List ZV) (w : World) (h : Zones w a n c Z) (hn : 0 < n) :
    Calls Tryd.prog 37 #[.slice a n c] w fun e w' => e = .returned (.int .i64 (cnt isO Z)) ∧ Below w.heap.size w w' := by
  have i0 : Ints (w.alloc (.cells #[.int .i64 1, .int .i64 2] 3)) (some ⟨w.heap.size, 0, none⟩) 2 2 [1, 2] := Ints.of_row (l := [1, 2]) (heap_new w _) (by decide) (by decide) rfl
  go_enter Tryd.func37, Tryd.ntmps37
  go_wp2_with fail
  refine (yin_c _ 2 2 _).mono ?_
  rintro e w1 ⟨rfl, rfl⟩
  go_wp2_with fail
  refine (count_c a n c Z _ _ 2 2 [1, 2] _ (h.below (B := w.heap.size) (by (repeat first | exact bel0 | assumption | refine bel1 ?_ | refine bel2 ?_ | refine bel3 ?_ | refine belowT ?_ (by assumption) | refine bel5 ?_ (by simp; try omega))) (Nat.le_refl _)) hn (by simp) (i0.below (B := (w.alloc (.cells #[.int .i64 1, .int .i64 2] 3)).heap.size) (by (repeat first | exact bel0 | assumption | refine bel1 ?_ | refine bel2 ?_ | refine bel3 ?_ | refine belowT ?_ (by assumption) | refine bel5 ?_ (by simp; try omega))) (Nat.le_refl _))).mono ?_
  rintro e w2 ⟨rfl, hb⟩
  rw [has_O']
  go_wp2
  go_ret
  exact ⟨rfl, by (repeat first | exact bel0 | assumption | refine bel1 ?_ | refine bel2 ?_ | refine bel3 ?_ | refine belowT ?_ (by assumption) | refine bel5 ?_ (by simp; try omega))⟩

theorem yactive_c (a : Option Addr) (n c : Nat) (Z : List ZV) (w : World) (h : Zones w a n c Z) (hn : 0 < n) :
    Calls Tryd.prog 38 #[.slice a n c] w fun e w' => e = .returned (.int .i64 (cnt isA Z)) ∧ Below w.heap.size w w' := by
  have i0 : Ints (w.alloc (.cells #[.int .i64 1, .int .i64 2, .int .i64 3] 3)) (some ⟨w.heap.size, 0, none⟩) 3 3 [1, 2, 3] := Ints.of_row (l := [1, 2, 3]) (heap_new w _) (by decide) (by decide) rfl
  go_enter Tryd.func38, Tryd.ntmps38
  go_wp2_with fail
  refine (yin_c _ 3 3 _).mono ?_
  rintro e w1 ⟨rfl, rfl⟩
  go_wp2_with fail
  refine (count_c a n c Z _ _ 3 3 [1, 2, 3] _ (h.below (B := w.heap.size) (by (repeat first | exact bel0 | assumption | refine bel1 ?_ | refine bel2 ?_ | refine bel3 ?_ | refine belowT ?_ (by assumption) | refine bel5 ?_ (by simp; try omega))) (Nat.le_refl _)) hn (by simp) (i0.below (B := (w.alloc (.cells #[.int .i64 1, .int .i64 2, .int .i64 3] 3)).heap.size) (by (repeat first | exact bel0 | assumption | refine bel1 ?_ | refine bel2 ?_ | refine bel3 ?_ | refine belowT ?_ (by assumption) | refine bel5 ?_ (by simp; try omega))) (Nat.le_refl _))).mono ?_
  rintro e w2 ⟨rfl, hb⟩
  rw [has_A']
  go_wp2
  go_ret
  exact ⟨rfl, by (repeat first | exact bel0 | assumption | refine bel1 ?_ | refine bel2 ?_ | refine bel3 ?_ | refine belowT ?_ (by assumption) | refine bel5 ?_ (by simp; try omega))⟩

set_option maxHeartbeats 2000000 in
theorem YCheck_four (b off c : Nat) (Z : List ZV) (w : World) (h : Zones w (some ⟨b, off, none⟩) 4 c Z)
    (hr : ∀ i z, Z[i]? = some z → w.cell? ⟨b, off + i * 2, none⟩ = some (.int .i64 z.s) ∧ w.cell? ⟨b, off + i * 2 + 1, none⟩ = some (.slice z.a z.n z.c)) :
    Calls Tryd.prog 19 #[.slice (some ⟨b, off, none⟩) 4 c] w fun e w' => e = .returned (.int .i64 (checkZs (Z.map ZV.p))) ∧ Below w.heap.size w w' := by
  have hlen := hide h.len
  have q1 := cnt_le isO Z
  have q2 := cnt_le isA Z
  rw [h.len] at q1 q2
  go_enter Tryd.func19, Tryd.ntmps19
  go_wp2
  go_loopw [11] (fun i wr => ∃ k : Nat, k ≤ 4 ∧ i = .int .i64 k ∧ firstE ((Z.take k).map ZV.p) = 0 ∧ Below w.heap.size w wr) (fun i _ => 4 - (intOf i).toNat)
  case atStart => exact ⟨0, by omega, rfl, rfl, Below.refl _ _⟩
  case round =>
    obtain ⟨k, hk, rfl, hf, hbr⟩ := hrel
    have HF := hide hf
    clear hf
    rename_i wr
    by_cases hlt : k < 4
    · obtain ⟨z, hz⟩ : ∃ z, Z[k]? = some z := ⟨Z[k]'(by rw [hlen.out]; exact hlt), by simp⟩
      obtain ⟨c0, c1⟩ := hr k z hz
      have iz := (h.ok z (List.mem_of_getElem? hz)).below hbr (Nat.le_refl _)
      replace c0 := keepc hbr c0
      replace c1 := keepc hbr c1
      have HZ := hide hz
      have hlt' : (k : Int) < 4 := by omega
      clear hz
      go_wp2_with (go_at_call 36; refine (Check_c z.s z.a z.n z.c z.l _ (by refine Ints.below iz (B := wr.heap.size) ?_ (Nat.le_refl _); (repeat first | exact bel0 | assumption | refine bel1 ?_ | refine bel2 ?_ | refine bel3 ?_ | refine belowT ?_ (by assumption) | refine bel5 ?_ (by simp; try omega)))).mono ?_; rintro e w9 ⟨rfl, hb9⟩)
      · rename_i hne
        go_ret
        exact ⟨ret_int (checkZs_2 hlen.out (firstE_at Z k z HZ.out HF.out (by simpa using hne)) (by simpa using hne)), by (repeat first | exact bel0 | assumption | refine bel1 ?_ | refine bel2 ?_ | refine bel3 ?_ | refine belowT ?_ (by assumption) | refine bel5 ?_ (by simp; try omega))⟩
      · rename_i heq
        exact ⟨⟨k + 1, by omega, by go_num, firstE_step Z k z HZ.out HF.out (by simpa using heq), by (repeat first | exact bel0 | assumption | refine bel1 ?_ | refine bel2 ?_ | refine bel3 ?_ | refine belowT ?_ (by assumption) | refine bel5 ?_ (by simp; try omega))⟩, by simp [intOf]; omega⟩
    · obtain rfl : k = 4 := by omega
      have hf := HF.out
      rw [List.take_of_length_le (by rw [hlen.out]; omega)] at hf
      have HG := hide hf
      clear hf HF
      have hz := h.below (B := w.heap.size) hbr (Nat.le_refl _)
      go_wp2_with fail
      refine (yopened_c _ 4 c Z _ hz (by omega)).mono ?_
      rintro e w8 ⟨rfl, hb8⟩
      replace hz := hz.below hb8 (Nat.le_refl _)
      go_wp2_with (go_at_call 38; refine (yactive_c _ 4 c Z _ hz (by omega)).mono ?_; rintro e w9 ⟨rfl, hb9⟩)
      all_goals
        go_ret
        first
          | exact ⟨ret_int (checkZs_3 hlen.out HG.out (by omega)), by (repeat first | exact bel0 | assumption | refine bel1 ?_ | refine bel2 ?_ | refine bel3 ?_ | refine belowT ?_ (by assumption) | refine bel5 ?_ (by simp; try omega))⟩
          | exact ⟨ret_int (checkZs_0 hlen.out HG.out (by omega)), by (repeat first | exact bel0 | assumption | refine bel1 ?_ | refine bel2 ?_ | refine bel3 ?_ | refine belowT ?_ (by assumption) | refine bel5 ?_ (by simp; try omega))⟩

theorem YCheck_c (a : Option Addr) (n c : Nat) (Z : List ZV) (w : World) (h : Zones w a n c Z) :
    Calls Tryd.prog 19 #[.slice a n c] w fun e w' => e = .returned (.int .i64 (checkZs (Z.map ZV.p))) ∧ Below w.heap.size w w' := by
  have hm := h.max
  have hl := h.le
  by_cases h4 : n = 4
  · subst h4
    rcases h.row with h0 | ⟨b, off, rfl, hb, hr⟩
    · omega
    · exact YCheck_four b off c Z w h hr
  · have hne : ((n : Int) != 4) = true := by simp; omega
    have hz := checkZs_1 (Z := Z) (by rw [h.len]; exact h4)
    have HZ := hide hz
    clear hz
    go_enter Tryd.func19, Tryd.ntmps19
    go_wp2
    go_ret
    exact ⟨ret_int HZ.out, Below.refl _ _⟩

set_option maxHeartbeats 2000000 in
theorem EqualFuncY_some (b1 o1 m1 b2 o2 m2 n : Nat) (Z1 Z2 : List ZV) (w : World) (h1 : Zones w (some ⟨b1, o1, none⟩) n m1 Z1) (h2 : Zones w (some ⟨b2, o2, none⟩) n m2 Z2)
    (hr1 : ∀ i z, Z1[i]? = some z → w.cell? ⟨b1, o1 + i * 2, none⟩ = some (.int .i64 z.s) ∧ w.cell? ⟨b1, o1 + i * 2 + 1, none⟩ = some (.slice z.a z.n z.c))
    (hr2 : ∀ i z, Z2[i]? = some z → w.cell? ⟨b2, o2 + i * 2, none⟩ = some (.int .i64 z.s) ∧ w.cell? ⟨b2, o2 + i * 2 + 1, none⟩ = some (.slice z.a z.n z.c)) :
    Calls Tryd.prog 24 #[.slice (some ⟨b1, o1, none⟩) n m1, .slice (some ⟨b2, o2, none⟩) n m2, .func (Fn.func 25) #[] #[]] w fun e w' => e = .returned (.bool (decide (Z1.map ZV.p = Z2.map ZV.p))) ∧ Below w.heap.size w w' := by
  have hlen1 := hide h1.len
  have hlen2 := hide h2.len
  have hmax := h1.max
  have hle := h1.le
  go_enter Tryd.func24, Tryd.ntmps24
  go_wp2
  go_loopw [17] (fun i wr => ∃ k : Nat, k ≤ n ∧ i = .int .i64 k ∧ (Z1.take k).map ZV.p = (Z2.take k).map ZV.p ∧ Below w.heap.size w wr) (fun i _ => n - (intOf i).toNat)
  case atStart => exact ⟨0, by omega, rfl, by simp, Below.refl _ _⟩
  case round =>
    obtain ⟨k, hk, rfl, hp, hbr⟩ := hrel
    have HP := hide hp
    clear hp
    rename_i wr
    by_cases hlt : k < n
    · obtain ⟨z, hz⟩ : ∃ z, Z1[k]? = some z := ⟨Z1[k]'(by rw [hlen1.out]; exact hlt), by simp⟩
      obtain ⟨y, hy⟩ : ∃ z, Z2[k]? = some z := ⟨Z2[k]'(by rw [hlen2.out]; exact hlt), by simp⟩
      obtain ⟨c0, c1⟩ := hr1 k z hz
      obtain ⟨d0, d1⟩ := hr2 k y hy
      have iz := (h1.ok z (List.mem_of_getElem? hz)).below hbr (Nat.le_refl _)
      have iy := (h2.ok y (List.mem_of_getElem? hy)).below hbr (Nat.le_refl _)
      replace c0 := keepc hbr c0
      replace c1 := keepc hbr c1
      replace d0 := past1 (keepc hbr d0)
      replace d1 := past1 (keepc hbr d1)
      have HZ := hide hz
      have HY := hide hy
      have hlt' : (k : Int) < (n : Int) := by omega
      clear hz hy
      go_wp2_with (go_at_call 25; refine (Same_c z.s y.s z.a y.a z.n z.c y.n y.c z.l y.l _ (by refine Ints.below iz (B := wr.heap.size) ?_ (Nat.le_refl _); (repeat first | exact bel0 | assumption | refine bel1 ?_ | refine bel2 ?_ | refine bel3 ?_ | refine belowT ?_ (by assumption) | refine bel5 ?_ (by simp; try omega))) (by refine Ints.below iy (B := wr.heap.size) ?_ (Nat.le_refl _); (repeat first | exact bel0 | assumption | refine bel1 ?_ | refine bel2 ?_ | refine bel3 ?_ | refine belowT ?_ (by assumption) | refine bel5 ?_ (by simp; try omega)))).mono ?_; rintro e w9 ⟨rfl, hb9⟩)
      · rename_i hne
        go_ret
        exact ⟨ret_bool (decide_eq_false (map_ne Z1 Z2 k z y HZ.out HY.out (by simp at hne; rintro ⟨e1, e2⟩; rcases hne with h | h; exact h e1; exact h e2))).symm, by (repeat first | exact bel0 | assumption | refine bel1 ?_ | refine bel2 ?_ | refine bel3 ?_ | refine belowT ?_ (by assumption) | refine bel5 ?_ (by simp; try omega))⟩
      · rename_i heq
        exact ⟨⟨k + 1, by omega, by go_num, map_take_step Z1 Z2 k z y HZ.out HY.out HP.out (by simpa using heq), by (repeat first | exact bel0 | assumption | refine bel1 ?_ | refine bel2 ?_ | refine bel3 ?_ | refine belowT ?_ (by assumption) | refine bel5 ?_ (by simp; try omega))⟩, by simp [intOf]; omega⟩
    · obtain rfl : k = n := by omega
      go_wp2
      go_ret
      have hp := HP.out
      rw [List.take_of_length_le (by rw [hlen1.out]; omega), List.take_of_length_le (by rw [hlen2.out]; omega)] at hp
      exact ⟨ret_bool (by simp [hp]), hbr⟩

theorem EqualFuncY_ne (a1 a2 : Option Addr) (n1 n2 c1 c2 : Nat) (fv : Value) (w : World) (hne : n1 ≠ n2) (hm1 : n1 ≤ 9223372036854775807) (hm2 : n2 ≤ 9223372036854775807) :
    Calls Tryd.prog 24 #[.slice a1 n1 c1, .slice a2 n2 c2, fv] w fun e w' => e = .returned (.bool false) ∧ w' = w := by
  have hb : ((n1 : Int) != (n2 : Int)) = true := by simp; omega
  go_enter Tryd.func24, Tryd.ntmps24
  go_wp2
  go_ret
  exact ⟨rfl, rfl⟩

theorem EqualFuncY_zero (a1 a2 : Option Addr) (c1 c2 : Nat) (fv : Value) (w : World) :
    Calls Tryd.prog 24 #[.slice a1 0 c1, .slice a2 0 c2, fv] w fun e w' => e = .returned (.bool true) ∧ w' = w := by
  go_enter Tryd.func24, Tryd.ntmps24
  go_wp2
  refine wp_loop_rounds 1 ?_
  rw [rounds_succ]
  go_wp2
  go_ret
  exact ⟨rfl, rfl⟩

theorem EqualFuncY_c (a1 a2 : Option Addr) (n1 n2 c1 c2 : Nat) (Z1 Z2 : List ZV) (w : World) (h1 : Zones w a1 n1 c1 Z1) (h2 : Zones w a2 n2 c2 Z2) :
    Calls Tryd.prog 24 #[.slice a1 n1 c1, .slice a2 n2 c2, .func (Fn.func 25) #[] #[]] w fun e w' => e = .returned (.bool (decide (Z1.map ZV.p = Z2.map ZV.p))) ∧ Below w.heap.size w w' := by
  by_cases hn : n1 = n2
  · subst hn
    by_cases h0 : n1 = 0
    · subst h0
      have e1 := h1.len
      have e2 := h2.len
      rw [List.length_eq_zero_iff] at e1 e2
      subst e1 e2
      refine (EqualFuncY_zero a1 a2 c1 c2 _ w).mono ?_
      rintro e w' ⟨rfl, rfl⟩
      exact ⟨rfl, Below.refl _ _⟩
    · rcases h1.row with h | ⟨b1, o1, rfl, _, hr1⟩
      · omega
      · rcases h2.row with h | ⟨b2, o2, rfl, _, hr2⟩
        · omega
        · exact EqualFuncY_some b1 o1 c1 b2 o2 c2 n1 Z1 Z2 w h1 h2 hr1 hr2
  · have m1 := h1.max
    have m2 := h2.max
    have q1 := h1.le
    have q2 := h2.le
    refine (EqualFuncY_ne a1 a2 n1 n2 c1 c2 _ w hn (by omega) (by omega)).mono ?_
    rintro e w' ⟨rfl, rfl⟩
    exact ⟨ret_bool (decide_eq_false (map_len Z1 Z2 (by rw [h1.len, h2.len]; exact hn))).symm, Below.refl _ _⟩



theorem YSame_c (a1 a2 : Option Addr) (n1 n2 c1 c2 : Nat) (Z1 Z2 : List ZV) (w : World) (h1 : Zones w a1 n1 c1 Z1) (h2 : Zones w a2 n2 c2 Z2) :
    Calls Tryd.prog 12 #[.slice a1 n1 c1, .slice a2 n2 c2] w fun e w' => e = .returned (.bool (decide (Z1.map ZV.p = Z2.map ZV.p))) ∧ Below w.heap.size w w' := by
  go_enter Tryd.func12, Tryd.ntmps12
  go_wp2_with fail
  refine (EqualFuncY_c a1 a2 n1 n2 c1 c2 Z1 Z2 _ h1 h2).mono ?_
  rintro e w' ⟨rfl, hb⟩
  go_wp2
  go_ret
  exact ⟨rfl, hb⟩

end Go.Proofs.YtkamnbigfdbgbaaDoor

/- The contract of the whole copy of zones; no condition but that the slice reads as four zones of few blocks. -/
namespace Go.Proofs.YtkamnbigfdbgbaaDoor
open Go.RowKit
set_option linter.unusedVariables false
set_option maxRecDepth 100000
set_option linter.unusedSimpArgs false

/-- Four zones that nobody has written yet. -/
def zero4 : List ZV := [⟨0, none, 0, 0, []⟩, ⟨0, none, 0, 0, []⟩, ⟨0, none, 0, 0, []⟩, ⟨0, none, 0, 0, []⟩]

theorem Mine.fresh (w : World) : Mine (w.alloc (.cells (zcells zero4).toArray 59)) w.heap.size w.heap.size 4 4 zero4 := by
  have hc : ∀ i z, zero4[i]? = some z → (w.alloc (.cells (zcells zero4).toArray 59)).cell? ⟨w.heap.size, i * 2, none⟩ = some (.int .i64 z.s) ∧ (w.alloc (.cells (zcells zero4).toArray 59)).cell? ⟨w.heap.size, i * 2 + 1, none⟩ = some (.slice z.a z.n z.c) := by
    intro i z hz
    obtain ⟨z0, z1⟩ := zcells_get zero4 i z hz
    rw [cell_of_row _ _ _ _ _ _ (heap_new w _), cell_of_row _ _ _ _ _ _ (heap_new w _)]
    exact ⟨by simpa using z0, by simpa using z1⟩
  have hz : ∀ z ∈ zero4, z = ⟨0, none, 0, 0, []⟩ := by simp [zero4]
  exact ⟨⟨rfl, Nat.le_refl _, by omega, fun e => (by cases e), .inr ⟨_, 0, rfl, by simp, fun i z hz => by simpa using hc i z hz⟩, fun z h => by rw [hz z h]; exact Ints.nilSlice _⟩,
    Nat.le_refl _, by simp, hc, fun j _ => frozen_row (heap_new w _), fun z h => by rw [hz z h]; exact .inl rfl⟩

theorem mkz4 (w : World) : (Instr.makeSlice 22 (.int .i64 4) (.int .i64 4)).run Tryd.prog w = .ok (.slice (some ⟨w.heap.size, 0, none⟩) 4 4) (w.alloc (.cells (zcells zero4).toArray 59)) := by kernel_rfl

theorem whole_c (b off c : Nat) (Z : List ZV) (w : World) (h : Zones w (some ⟨b, off, none⟩) 4 c Z) (h8 : ∀ z ∈ Z, z.n ≤ 8)
    (hr : ∀ i z, Z[i]? = some z → w.cell? ⟨b, off + i * 2, none⟩ = some (.int .i64 z.s) ∧ w.cell? ⟨b, off + i * 2 + 1, none⟩ = some (.slice z.a z.n z.c)) :
    Calls Tryd.prog 27 #[.slice (some ⟨b, off, none⟩) 4 c] w fun e w' => (∃ g Z', e = .returned (.slice (some ⟨g, 0, none⟩) 4 4) ∧ Mine w' w.heap.size g 4 4 Z' ∧ Z'.map ZV.p = Z.map ZV.p ∧ NewL w.heap.size Z') ∧ Below w.heap.size w w' :=
  (pcopyZones_c _ 4 c Z w h (by omega) (fun z hz => by have := h8 z hz; omega)).mono fun e w' ⟨⟨g, Y, h1, h2, h3, h4, h5, h6⟩, h7⟩ =>
    ⟨⟨g, Y, h1, (h2.mine h3 (by omega) h6).mono h5, h4, fun z hz x e => by have := h6 z hz x e; omega⟩, h7⟩

end Go.Proofs.YtkamnbigfdbgbaaDoor

/- The contracts of yard's begin, shut and makeRoom; no condition but that the slices read as zones. -/
namespace Go.Proofs.YtkamnbigfdbgbaaDoor
open Go.RowKit
set_option linter.unusedVariables false
set_option maxRecDepth 100000
set_option linter.unusedSimpArgs false

theorem checkZ_few {s : Int} {l : List Int} (h : checkZ s l = 0) : l.length ≤ 8 := by
  unfold checkZ at h
  split at h
  · omega
  · split at h
    · omega
    · omega
theorem checkZs_few {Z : List ZV} (h : checkZs (Z.map ZV.p) = 0) : ∀ z ∈ Z, z.l.length ≤ 8 := by
  intro z hz
  have hf : firstE (Z.map ZV.p) = 0 := by
    unfold checkZs at h
    split at h
    · omega
    · split at h
      · exact absurd h ‹_›
      · rename_i h1; exact Decidable.not_not.1 h1
  exact checkZ_few (firstE_all _ hf z.p (List.mem_map_of_mem hz))

set_option maxHeartbeats 1000000 in
theorem begin_c (a : Option Addr) (n c : Nat) (Z : List ZV) (k : Int) (w : World) (h : Zones w a n c Z) :
    Calls Tryd.prog 65 #[.slice a n c, .int .i64 k] w fun e w' =>
      ((pre (Z.map ZV.p) k ≠ 0 ∧ e = .returned (.tuple #[.slice none 0 0, .int .i64 (pre (Z.map ZV.p) k)])) ∨
       (pre (Z.map ZV.p) k = 0 ∧ ∃ g Z', e = .returned (.tuple #[.slice (some ⟨g, 0, none⟩) 4 4, .int .i64 0]) ∧ Mine w' w.heap.size g 4 4 Z' ∧ Z'.map ZV.p = Z.map ZV.p ∧ NewL w.heap.size Z')) ∧ Below w.heap.size w w' := by
  by_cases hc : checkZs (Z.map ZV.p) = 0
  · obtain ⟨h4, b, off, rfl, hr⟩ := zs_four h hc
    subst h4
    have h8 : ∀ z ∈ Z, z.n ≤ 8 := fun z hz => by rw [← (h.ok z hz).len]; exact checkZs_few hc z hz
    have HC := hide hc
    by_cases hk : 0 ≤ k ∧ k < 4
    · have hp : pre (Z.map ZV.p) k = 0 := by simp [pre, hc, inB]; omega
      have HP := hide hp
      obtain ⟨hk1, hk2⟩ := hk
      clear hc hp
      go_enter Tryd.func65, Tryd.ntmps65
      go_wp2_with fail
      refine (YCheck_c _ 4 c Z _ h).mono ?_
      rintro e w1 ⟨rfl, hb1⟩
      rw [HC.out]
      go_wp2_with fail
      refine (whole_c b off c Z _ (h.below hb1 (Nat.le_refl _)) h8 (fun i z hz => ⟨keepc hb1 (hr i z hz).1, keepc hb1 (hr i z hz).2⟩)).mono ?_
      rintro e w2 ⟨⟨g, Z', rfl, hm, hp, hnl⟩, hb2⟩
      have HQ := hide hp
      have HN := hide hnl
      clear hp hnl
      go_wp2
      go_ret2
      exact ⟨.inr ⟨HP.out, g, Z', rfl, hm.mono hb1.size, HQ.out, HN.out.mono hb1.size⟩, by (repeat first | exact bel0 | assumption | refine bel1 ?_ | refine bel2 ?_ | refine bel3 ?_ | refine belowT ?_ (by assumption) | refine bel5 ?_ (by simp; try omega))⟩
    · have hp : pre (Z.map ZV.p) k = 5 := by simp [pre, hc, inB]; omega
      have HP := hide hp
      clear hc hp
      rcases (by omega : k < 0 ∨ 0 ≤ k ∧ 4 ≤ k) with hk1 | ⟨hk1, hk2⟩
      all_goals
        go_enter Tryd.func65, Tryd.ntmps65
        go_wp2_with fail
        refine (YCheck_c _ 4 c Z _ h).mono ?_
        rintro e w1 ⟨rfl, hb1⟩
        rw [HC.out]
        go_wp2
        go_ret2
        exact ⟨.inl ⟨by rw [HP.out]; decide, by rw [HP.out]; rfl⟩, by (repeat first | exact bel0 | assumption | refine bel1 ?_ | refine bel2 ?_ | refine bel3 ?_ | refine belowT ?_ (by assumption) | refine bel5 ?_ (by simp; try omega))⟩
  · have hp : pre (Z.map ZV.p) k = checkZs (Z.map ZV.p) := by simp [pre, hc]
    have HP := hide hp
    have HC := hide hc
    have hx : (checkZs (Z.map ZV.p) != 0) = true := by simpa using hc
    clear hp hc
    go_enter Tryd.func65, Tryd.ntmps65
    go_wp2_with fail
    refine (YCheck_c a n c Z _ h).mono ?_
    rintro e w1 ⟨rfl, hb1⟩
    generalize hy : checkZs (Z.map ZV.p) = x at *
    clear hy
    go_wp2
    go_ret2
    exact ⟨.inl ⟨by rw [HP.out]; exact HC.out, by rw [HP.out]; rfl⟩, by (repeat first | exact bel0 | assumption | refine bel1 ?_ | refine bel2 ?_ | refine bel3 ?_ | refine belowT ?_ (by assumption) | refine bel5 ?_ (by simp; try omega))⟩

set_option maxHeartbeats 1000000 in
theorem shut_c (g i : Nat) (z : ZV) (w : World) (h0 : w.cell? ⟨g, i, none⟩ = some (.int .i64 z.s)) (h1 : w.cell? ⟨g, i + 1, none⟩ = some (.slice z.a z.n z.c)) (hf : w.frozen? ⟨g, i, none⟩ = false) (hl : z.l.length = z.n) (hm : z.n ≤ 9223372036854775807) :
    Calls Tryd.prog 81 #[.pointer (some ⟨g, i, none⟩)] w fun e w' => (∃ v, e = .returned v) ∧ Put w w' ⟨g, i, none⟩ (.int .i64 (shutS z.l)) := by
  by_cases hz : z.l = []
  · have hn : ((z.n : Int) == 0) = true := by rw [hz] at hl; simp at hl; simp; omega
    have hs : shutS z.l = 0 := by simp [shutS, hz]
    have HS := hide hs
    clear hs hz hl
    go_enter Tryd.func81, Tryd.ntmps81
    go_wp2
    go_end0
    rw [HS.out]
    exact ⟨⟨_, rfl⟩, ((Put.refl h0).set _).set _⟩
  · have hn : ((z.n : Int) == 0) = false := by
      have : z.l.length ≠ 0 := fun e => hz (List.length_eq_zero_iff.1 e)
      simp; omega
    have hs : shutS z.l = 3 := by simp [shutS, hz]
    have HS := hide hs
    clear hs hz hl
    go_enter Tryd.func81, Tryd.ntmps81
    go_wp2
    go_end0
    rw [HS.out]
    exact ⟨⟨_, rfl⟩, (Put.refl h0).set _⟩

set_option maxHeartbeats 1000000 in
theorem IndexFuncZ_c (b off n c : Nat) (Z : List ZV) (g : Nat) (a : Option Addr) (m d : Nat) (L : List Int) (w : World) (h : Zones w (some ⟨b, off, none⟩) n c Z)
    (hr : ∀ i z, Z[i]? = some z → w.cell? ⟨b, off + i * 2, none⟩ = some (.int .i64 z.s) ∧ w.cell? ⟨b, off + i * 2 + 1, none⟩ = some (.slice z.a z.n z.c))
    (hg : w.cell? ⟨g, 0, none⟩ = some (.slice a m d)) (hi : Ints w a m d L) :
    Calls Tryd.prog 80 #[.slice (some ⟨b, off, none⟩) n c, .func (Fn.func 73) #[] #[.pointer (some ⟨g, 0, none⟩)]] w fun e w' =>
      ((∃ (i : Nat) (z : ZV), e = .returned (.int .i64 i) ∧ Z[i]? = some z ∧ hasB L z.s = true ∧ ∀ (j : Nat) (y : ZV), j < i → Z[j]? = some y → hasB L y.s = false) ∨
       (e = .returned (.int .i64 (-1)) ∧ ∀ (j : Nat) (y : ZV), Z[j]? = some y → hasB L y.s = false)) ∧ Below w.heap.size w w' := by
  have hlen := h.len
  have hmax := h.max
  have hle := h.le
  go_enter Tryd.func80, Tryd.ntmps80
  go_wp2
  go_loopw [8] (fun i wr => ∃ k : Nat, k ≤ n ∧ i = .int .i64 k ∧ (∀ (j : Nat) (y : ZV), j < k → Z[j]? = some y → hasB L y.s = false) ∧ Below w.heap.size w wr) (fun i _ => n - (intOf i).toNat)
  case atStart => exact ⟨0, by omega, rfl, fun j y hj => by omega, Below.refl _ _⟩
  case round =>
    obtain ⟨k, hk, rfl, hb, hbr⟩ := hrel
    have HB := hide hb
    clear hb
    rename_i wr
    by_cases hlt : k < n
    · obtain ⟨z, hz⟩ : ∃ z, Z[k]? = some z := ⟨Z[k]'(by omega), by simp⟩
      obtain ⟨c0, c1⟩ := hr k z hz
      replace c0 := keepc hbr c0
      replace c1 := keepc hbr c1
      have hg1 := keepc hbr hg
      have hi1 := hi.below hbr (Nat.le_refl _)
      have hlt' : (k : Int) < (n : Int) := by omega
      have HZ := hide hz
      clear hr hz
      go_wp2_with (go_at_call 73; refine (yin1_c z.s z.a z.n z.c g a m d L _ (keepc (by (repeat first | exact bel0 | assumption | refine bel1 ?_ | refine bel2 ?_ | refine bel3 ?_ | refine belowT ?_ (by assumption) | refine bel5 ?_ (by simp; try omega))) hg1) (by refine Ints.below hi1 (B := wr.heap.size) ?_ (Nat.le_refl _); (repeat first | exact bel0 | assumption | refine bel1 ?_ | refine bel2 ?_ | refine bel3 ?_ | refine belowT ?_ (by assumption) | refine bel5 ?_ (by simp; try omega)))).mono ?_; rintro e w9 ⟨rfl, hb9⟩)
      · go_ret
        exact ⟨.inl ⟨k, z, rfl, HZ.out, ‹_›, HB.out⟩, by (repeat first | exact bel0 | assumption | refine bel1 ?_ | refine bel2 ?_ | refine bel3 ?_ | refine belowT ?_ (by assumption) | refine bel5 ?_ (by simp; try omega))⟩
      · rename_i hx
        refine ⟨⟨k + 1, by omega, by go_num, fun j y hj hy => ?_, by (repeat first | exact bel0 | assumption | refine bel1 ?_ | refine bel2 ?_ | refine bel3 ?_ | refine belowT ?_ (by assumption) | refine bel5 ?_ (by simp; try omega))⟩, by simp [intOf]; omega⟩
        by_cases e : j = k
        · subst e
          have := HZ.out.symm.trans hy
          cases this
          exact hx
        · exact HB.out j y (by omega) hy
    · obtain rfl : k = n := by omega
      go_wp2
      go_ret
      exact ⟨.inr ⟨rfl, fun j y hy => HB.out j y (by have := (List.getElem?_eq_some_iff.1 hy).1; omega) hy⟩, hbr⟩

end Go.Proofs.YtkamnbigfdbgbaaDoor
