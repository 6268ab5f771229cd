/- ZoneKeeps answers true for every zone, list and numbers, and leaves all that was there as it was; no condition. -/
import Derived.Test.YtmlbkmncdgiemaaA7
import Derived.Test.YtmlbkmncdgiemaaP1
namespace Go.Proofs.Ytmlbkmncdgiemaa
open Go.RowKit
set_option linter.unusedVariables false
set_option linter.unusedSimpArgs false

set_option maxHeartbeats 2000000 in
theorem ZoneKeeps_bad (s : Int) (a : Option Addr) (n c : Nat) (l : List Int) (b : Option Addr) (m d : Nat) (k : List Int) (x y : Int) (w : World) (h1 : Ints w a n c l) (h2 : Ints w b m d k) (hbad : writeE s l k ≠ 0) :
    Calls Try.prog 5 #[.agg #[.int .i64 s, .slice a n c], .slice b m d, .int .i64 x, .int .i64 y] w fun e w' => e = .returned (.bool true) ∧ Below w.heap.size w w' := by
  go_enter Try.func5, Try.ntmps5
  go_wp2_with fail
  refine (Write_bad s a n c l b m d k _ (h1.below (B := w.heap.size) (by (repeat (first | exact Below.refl _ _ | assumption | refine Below.drew ?_ | refine below_drewN ?_ _ | refine belowA ?_ _ | refine belowT ?_ (by assumption) | refine Below.setCell ?_ (by simp) _))) (Nat.le_refl _)) (h2.below (B := w.heap.size) (by (repeat (first | exact Below.refl _ _ | assumption | refine Below.drew ?_ | refine below_drewN ?_ _ | refine belowA ?_ _ | refine belowT ?_ (by assumption) | refine Below.setCell ?_ (by simp) _))) (Nat.le_refl _)) hbad).mono ?_
  rintro e w1 ⟨rfl, hb1⟩
  generalize writeE s l k = z at *
  have hz : (z != 0) = true := by simpa using hbad
  clear hbad
  have bw1 : Below w.heap.size w w1 := by (repeat (first | exact Below.refl _ _ | assumption | refine Below.drew ?_ | refine below_drewN ?_ _ | refine belowA ?_ _ | refine belowT ?_ (by assumption) | refine Below.setCell ?_ (by simp) _))
  clear hb1
  go_wp2_with fail
  refine (filled_c _).mono ?_
  rintro e w2 ⟨rfl, hb2⟩
  have bw2 : Below w.heap.size w w2 := by (repeat (first | exact Below.refl _ _ | assumption | refine Below.drew ?_ | refine below_drewN ?_ _ | refine belowA ?_ _ | refine belowT ?_ (by assumption) | refine Below.setCell ?_ (by simp) _))
  clear hb2 bw1
  go_wp2_with fail
  refine (filled_c _).mono ?_
  rintro e w3 ⟨rfl, hb3⟩
  go_wp2
  go_ret
  exact ⟨rfl, by (repeat (first | exact Below.refl _ _ | assumption | refine Below.drew ?_ | refine below_drewN ?_ _ | refine belowA ?_ _ | refine belowT ?_ (by assumption) | refine Below.setCell ?_ (by simp) _))⟩

set_option maxHeartbeats 2000000 in
theorem ZoneKeeps_ok (s : Int) (a : Option Addr) (n c : Nat) (l : List Int) (b : Option Addr) (m d : Nat) (k : List Int) (x y : Int) (w : World) (h1 : Ints w a n c l) (h2 : Ints w b m d k) (hok : writeE s l k = 0)
    (hx : -9223372036854775808 ≤ x ∧ x ≤ 9223372036854775807) (hy : -9223372036854775808 ≤ y ∧ y ≤ 9223372036854775807) :
    Calls Try.prog 5 #[.agg #[.int .i64 s, .slice a n c], .slice b m d, .int .i64 x, .int .i64 y] w fun e w' => e = .returned (.bool true) ∧ Below w.heap.size w w' := by
  obtain ⟨g1, g2, g3, g4, g5⟩ := writeE_ok hok
  have g6 := check_write hok
  have g7 := checkZ_len g1
  have hl1 := h1.len
  have hl2 := h2.len
  rw [hl1, hl2] at g6 g3
  rw [hl2] at g2
  rw [hl1] at g7
  have HOK := hide hok
  have G1 := hide g1
  have G6 := hide g6
  have HL1 := hide hl1
  have HL2 := hide hl2
  clear hok g1 g4 g5 g6 g7 hl1 hl2
  go_enter Try.func5, Try.ntmps5
  go_wp2_with fail
  refine (Write_ok s a n c l b m d k _ (h1.below (B := w.heap.size) (by (repeat (first | exact Below.refl _ _ | assumption | refine Below.drew ?_ | refine below_drewN ?_ _ | refine belowA ?_ _ | refine belowT ?_ (by assumption) | refine Below.setCell ?_ (by simp) _))) (Nat.le_refl _)) (h2.below (B := w.heap.size) (by (repeat (first | exact Below.refl _ _ | assumption | refine Below.drew ?_ | refine below_drewN ?_ _ | refine belowA ?_ _ | refine belowT ?_ (by assumption) | refine Below.setCell ?_ (by simp) _))) (Nat.le_refl _)) HOK.out).mono ?_
  rintro e w1 ⟨⟨q, rfl, i1, _⟩, hb1⟩
  generalize writeS s (n + m) = t at *
  have c0 := keepc hb1 (p := ⟨w.heap.size, 0, none⟩) (u := .int .i64 s) (by go_simp)
  have c1 := keepc hb1 (p := ⟨w.heap.size, 1, none⟩) (u := .slice a n c) (by go_simp)
  have bw1 : Below w.heap.size w w1 := by (repeat (first | exact Below.refl _ _ | assumption | refine Below.drew ?_ | refine below_drewN ?_ _ | refine belowA ?_ _ | refine belowT ?_ (by assumption) | refine Below.setCell ?_ (by simp) _))
  replace h1 := h1.below bw1 (Nat.le_refl _)
  replace h2 := h2.below bw1 (Nat.le_refl _)
  clear hb1
  go_wp2_with fail
  refine (filled_c _).mono ?_
  rintro e w2 ⟨rfl, hb2⟩
  have d0 := keepc hb2 (p := ⟨w1.heap.size, 0, none⟩) (u := .int .i64 t) (by go_simp)
  have d1 := keepc hb2 (p := ⟨w1.heap.size, 1, none⟩) (u := .slice (some ⟨q, 0, none⟩) (n + m) (n + m)) (by go_simp)
  replace c0 := keepc hb2 (past1 c0 _)
  replace c1 := keepc hb2 (past1 c1 _)
  have b2 : Below w1.heap.size w1 w2 := by (repeat (first | exact Below.refl _ _ | assumption | refine Below.drew ?_ | refine below_drewN ?_ _ | refine belowA ?_ _ | refine belowT ?_ (by assumption) | refine Below.setCell ?_ (by simp) _))
  have bw2 : Below w.heap.size w w2 := by (repeat (first | exact Below.refl _ _ | assumption | refine Below.drew ?_ | refine below_drewN ?_ _ | refine belowA ?_ _ | refine belowT ?_ (by assumption) | refine Below.setCell ?_ (by simp) _))
  replace h1 := h1.below b2 (Nat.le_refl _)
  replace h2 := h2.below b2 (Nat.le_refl _)
  replace i1 := i1.below b2 (Nat.le_refl _)
  clear hb2 b2 bw1
  go_wp2_with fail
  refine (Read_ok t _ _ _ (l ++ k) n m _ i1 (readE_zero G6.out (by omega) (by omega) (by rw [List.length_append, HL1.out, HL2.out]; omega))).mono ?_
  rintro e w3 ⟨⟨q3, rfl, i3, _⟩, hb3⟩
  rw [Int.toNat_natCast, Int.toNat_natCast] at i3
  rw [Int.toNat_natCast]
  rw [show ((l ++ k).drop n).take m = k by rw [← HL1.out, ← HL2.out]; exact drop_take_new l k] at i3
  replace c0 := keepc hb3 c0
  replace c1 := keepc hb3 c1
  replace d0 := keepc hb3 d0
  replace d1 := keepc hb3 d1
  replace h1 := h1.below hb3 (Nat.le_refl _)
  replace h2 := h2.below hb3 (Nat.le_refl _)
  replace i1 := i1.below hb3 (Nat.le_refl _)
  have bw3 : Below w.heap.size w w3 := by (repeat (first | exact Below.refl _ _ | assumption | refine Below.drew ?_ | refine below_drewN ?_ _ | refine belowA ?_ _ | refine belowT ?_ (by assumption) | refine Below.setCell ?_ (by simp) _))
  clear hb3 bw2
  go_wp2_with fail
  refine (Equal_c _ _ m m m d k k _ i3 h2).mono ?_
  rintro e w4 ⟨rfl, nq, rfl⟩
  rw [show decide (k = k) = true from decide_eq_true rfl]
  go_wp2_with fail
  refine (Check_c t _ _ _ (l ++ k) _ (i1.drewN nq)).mono ?_
  rintro e w5 ⟨rfl, hb5⟩
  rw [G6.out]
  replace c0 := keepc hb5 (p := ⟨w.heap.size, 0, none⟩) (u := .int .i64 s) (by go_simp)
  replace c1 := keepc hb5 (p := ⟨w.heap.size, 1, none⟩) (u := .slice a n c) (by go_simp)
  replace d0 := keepc hb5 (p := ⟨w1.heap.size, 0, none⟩) (u := .int .i64 t) (by go_simp)
  replace d1 := keepc hb5 (p := ⟨w1.heap.size, 1, none⟩) (u := .slice (some ⟨q, 0, none⟩) (n + m) (n + m)) (by go_simp)
  have b5 : Below w3.heap.size w3 w5 := by (repeat (first | exact Below.refl _ _ | assumption | refine Below.drew ?_ | refine below_drewN ?_ _ | refine belowA ?_ _ | refine belowT ?_ (by assumption) | refine Below.setCell ?_ (by simp) _))
  replace h1 := h1.below b5 (Nat.le_refl _)
  replace i1 := i1.below b5 (Nat.le_refl _)
  have bw5 : Below w.heap.size w w5 := by (repeat (first | exact Below.refl _ _ | assumption | refine Below.drew ?_ | refine below_drewN ?_ _ | refine belowA ?_ _ | refine belowT ?_ (by assumption) | refine Below.setCell ?_ (by simp) _))
  clear hb5 bw3 b5 h2 i3
  go_wp2_with fail
  refine (at_c x ((n : Int) + 1) _ (by omega) (by omega) hx).mono ?_
  rintro e w6 ⟨rfl, rfl⟩
  have hp0 := Int.emod_nonneg x (show (n : Int) + 1 ≠ 0 by omega)
  have hp1 := Int.emod_lt_of_pos x (show 0 < (n : Int) + 1 by omega)
  generalize x % ((n : Int) + 1) = p at *
  obtain ⟨p, rfl⟩ := Int.eq_ofNat_of_zero_le hp0
  go_wp2_with fail
  refine (at_c y ((n : Int) - p + 1) _ (by omega) (by omega) hy).mono ?_
  rintro e w7 ⟨rfl, rfl⟩
  have hr0 := Int.emod_nonneg y (show (n : Int) - p + 1 ≠ 0 by omega)
  have hr1 := Int.emod_lt_of_pos y (show 0 < (n : Int) - p + 1 by omega)
  generalize y % ((n : Int) - p + 1) = r at *
  obtain ⟨r, rfl⟩ := Int.eq_ofNat_of_zero_le hr0
  go_wp2_with fail
  refine (Read_ok s a n c l p r _ h1 (readE_zero G1.out (by omega) (by omega) (by rw [HL1.out]; omega))).mono ?_
  rintro e w8 ⟨⟨q8, rfl, i8, _⟩, hb8⟩
  rw [Int.toNat_natCast, Int.toNat_natCast] at i8
  rw [Int.toNat_natCast]
  replace d0 := keepc hb8 d0
  replace d1 := keepc hb8 d1
  replace i1 := i1.below hb8 (Nat.le_refl _)
  have bw8 := belowT bw5 hb8
  clear hb8 bw5
  go_wp2_with fail
  refine (Read_ok t _ _ _ (l ++ k) p r _ i1 (readE_zero G6.out (by omega) (by omega) (by rw [List.length_append, HL1.out, HL2.out]; omega))).mono ?_
  rintro e w9 ⟨⟨q9, rfl, i9, _⟩, hb9⟩
  rw [Int.toNat_natCast, Int.toNat_natCast, drop_take_old l k p r (by rw [HL1.out]; omega)] at i9
  rw [Int.toNat_natCast]
  replace i8 := i8.below hb9 (Nat.le_refl _)
  have bw9 := belowT bw8 hb9
  clear hb9 bw8
  go_wp2_with fail
  refine (Equal_c _ _ _ _ _ _ _ _ _ i8 i9).mono ?_
  rintro e w10 ⟨rfl, nq2, rfl⟩
  generalize List.take r (List.drop p l) = L
  rw [show decide (L = L) = true from decide_eq_true rfl]
  go_wp2
  go_ret
  exact ⟨rfl, by (repeat (first | exact Below.refl _ _ | assumption | refine Below.drew ?_ | refine below_drewN ?_ _ | refine belowA ?_ _ | refine belowT ?_ (by assumption) | refine Below.setCell ?_ (by simp) _))⟩

theorem ZoneKeeps_c (s : Int) (a : Option Addr) (n c : Nat) (l : List Int) (b : Option Addr) (m d : Nat) (k : List Int) (x y : Int) (w : World) (h1 : Ints w a n c l) (h2 : Ints w b m d k)
    (hx : -9223372036854775808 ≤ x ∧ x ≤ 9223372036854775807) (hy : -9223372036854775808 ≤ y ∧ y ≤ 9223372036854775807) :
    Calls Try.prog 5 #[.agg #[.int .i64 s, .slice a n c], .slice b m d, .int .i64 x, .int .i64 y] w fun e w' => e = .returned (.bool true) ∧ Below w.heap.size w w' := by
  by_cases hok : writeE s l k = 0
  · exact ZoneKeeps_ok s a n c l b m d k x y w h1 h2 hok hx hy
  · exact ZoneKeeps_bad s a n c l b m d k x y w h1 h2 hok

end Go.Proofs.Ytmlbkmncdgiemaa
