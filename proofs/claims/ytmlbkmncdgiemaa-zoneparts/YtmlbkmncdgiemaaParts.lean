/- ZoneParts answers true for every zone, list and number, and leaves all that was there as it was; no condition. -/
import Derived.Test.YtmlbkmncdgiemaaA7
import Derived.Test.YtmlbkmncdgiemaaP1
namespace Go.Proofs.Ytmlbkmncdgiemaa
open Go.RowKit
set_option linter.unusedVariables false
set_option linter.unusedSimpArgs false

set_option maxHeartbeats 2000000 in
theorem ZoneParts_bad (s : Int) (a : Option Addr) (n c : Nat) (l : List Int) (b : Option Addr) (m d : Nat) (k : List Int) (x : Int) (w : World) (h1 : Ints w a n c l) (h2 : Ints w b m d k) (hbad : writeE s l k ≠ 0) :
    Calls Try.prog 6 #[.agg #[.int .i64 s, .slice a n c], .slice b m d, .int .i64 x] w fun e w' => e = .returned (.bool true) ∧ Below w.heap.size w w' := by
  have hm := h2.max
  have hm' := h2.le
  go_enter Try.func6, Try.ntmps6
  go_wp2_with fail
  refine (Write_bad s a n c l b m d k _ (h1.below (B := w.heap.size) (by (repeat (first | exact Below.refl _ _ | assumption | refine Below.drew ?_ | refine below_drewN ?_ _ | refine belowA ?_ _ | refine belowT ?_ (by assumption) | refine Below.setCell ?_ (by simp) _))) (Nat.le_refl _)) (h2.below (B := w.heap.size) (by (repeat (first | exact Below.refl _ _ | assumption | refine Below.drew ?_ | refine below_drewN ?_ _ | refine belowA ?_ _ | refine belowT ?_ (by assumption) | refine Below.setCell ?_ (by simp) _))) (Nat.le_refl _)) hbad).mono ?_
  rintro e w1 ⟨rfl, hb1⟩
  generalize writeE s l k = z at *
  have hz : (z != 0) = true := by simpa using hbad
  clear hbad
  have bw1 : Below w.heap.size w w1 := by (repeat (first | exact Below.refl _ _ | assumption | refine Below.drew ?_ | refine below_drewN ?_ _ | refine belowA ?_ _ | refine belowT ?_ (by assumption) | refine Below.setCell ?_ (by simp) _))
  clear hb1
  go_wp2_with fail
  refine (filled_c _).mono ?_
  rintro e w2 ⟨rfl, hb2⟩
  have bw2 : Below w.heap.size w w2 := by (repeat (first | exact Below.refl _ _ | assumption | refine Below.drew ?_ | refine below_drewN ?_ _ | refine belowA ?_ _ | refine belowT ?_ (by assumption) | refine Below.setCell ?_ (by simp) _))
  clear hb2 bw1
  go_wp2_with fail
  refine (filled_c _).mono ?_
  rintro e w3 ⟨rfl, hb3⟩
  go_wp2
  go_ret
  exact ⟨rfl, by (repeat (first | exact Below.refl _ _ | assumption | refine Below.drew ?_ | refine below_drewN ?_ _ | refine belowA ?_ _ | refine belowT ?_ (by assumption) | refine Below.setCell ?_ (by simp) _))⟩

set_option maxHeartbeats 2000000 in
theorem ZoneParts_one (s : Int) (a : Option Addr) (n c : Nat) (l : List Int) (b : Option Addr) (m d : Nat) (k : List Int) (x : Int) (w : World) (h1 : Ints w a n c l) (h2 : Ints w b m d k) (hok : writeE s l k = 0) (hm2 : m < 2) :
    Calls Try.prog 6 #[.agg #[.int .i64 s, .slice a n c], .slice b m d, .int .i64 x] w fun e w' => e = .returned (.bool true) ∧ Below w.heap.size w w' := by
  have hm2' : (m : Int) < 2 := by omega
  go_enter Try.func6, Try.ntmps6
  go_wp2_with fail
  refine (Write_ok s a n c l b m d k _ (h1.below (B := w.heap.size) (by (repeat (first | exact Below.refl _ _ | assumption | refine Below.drew ?_ | refine below_drewN ?_ _ | refine belowA ?_ _ | refine belowT ?_ (by assumption) | refine Below.setCell ?_ (by simp) _))) (Nat.le_refl _)) (h2.below (B := w.heap.size) (by (repeat (first | exact Below.refl _ _ | assumption | refine Below.drew ?_ | refine below_drewN ?_ _ | refine belowA ?_ _ | refine belowT ?_ (by assumption) | refine Below.setCell ?_ (by simp) _))) (Nat.le_refl _)) hok).mono ?_
  rintro e w1 ⟨⟨q, rfl, i1, _⟩, hb1⟩
  have bw1 : Below w.heap.size w w1 := by (repeat (first | exact Below.refl _ _ | assumption | refine Below.drew ?_ | refine below_drewN ?_ _ | refine belowA ?_ _ | refine belowT ?_ (by assumption) | refine Below.setCell ?_ (by simp) _))
  clear hb1
  go_wp2_with fail
  refine (filled_c _).mono ?_
  rintro e w2 ⟨rfl, hb2⟩
  have bw2 : Below w.heap.size w w2 := by (repeat (first | exact Below.refl _ _ | assumption | refine Below.drew ?_ | refine below_drewN ?_ _ | refine belowA ?_ _ | refine belowT ?_ (by assumption) | refine Below.setCell ?_ (by simp) _))
  clear hb2 bw1
  go_wp2_with fail
  refine (filled_c _).mono ?_
  rintro e w3 ⟨rfl, hb3⟩
  go_wp2
  go_ret
  exact ⟨rfl, by (repeat (first | exact Below.refl _ _ | assumption | refine Below.drew ?_ | refine below_drewN ?_ _ | refine belowA ?_ _ | refine belowT ?_ (by assumption) | refine Below.setCell ?_ (by simp) _))⟩

set_option maxHeartbeats 2000000 in
theorem ZoneParts_two (s : Int) (a : Option Addr) (n c : Nat) (l : List Int) (b : Option Addr) (m d : Nat) (k : List Int) (x : Int) (w : World) (h1 : Ints w a n c l) (h2 : Ints w b m d k) (hok : writeE s l k = 0) (hm2 : 2 ≤ m)
    (hx : -9223372036854775808 ≤ x ∧ x ≤ 9223372036854775807) :
    Calls Try.prog 6 #[.agg #[.int .i64 s, .slice a n c], .slice b m d, .int .i64 x] w fun e w' => e = .returned (.bool true) ∧ Below w.heap.size w w' := by
  have hm2' : ¬ (m : Int) < 2 := by omega
  obtain ⟨g1, g2, g3, g4, g5⟩ := writeE_ok hok
  rw [h1.len, h2.len] at g3
  have HOK := hide hok
  have hd := h2.le
  clear g1 g2 g4 g5 hok
  go_enter Try.func6, Try.ntmps6
  go_wp2_with fail
  refine (Write_ok s a n c l b m d k _ (h1.below (B := w.heap.size) (by (repeat (first | exact Below.refl _ _ | assumption | refine Below.drew ?_ | refine below_drewN ?_ _ | refine belowA ?_ _ | refine belowT ?_ (by assumption) | refine Below.setCell ?_ (by simp) _))) (Nat.le_refl _)) (h2.below (B := w.heap.size) (by (repeat (first | exact Below.refl _ _ | assumption | refine Below.drew ?_ | refine below_drewN ?_ _ | refine belowA ?_ _ | refine belowT ?_ (by assumption) | refine Below.setCell ?_ (by simp) _))) (Nat.le_refl _)) HOK.out).mono ?_
  rintro e w1 ⟨⟨q, rfl, i1, _⟩, hb1⟩
  generalize ht : writeS s (n + m) = t at *
  have HT := hide ht
  clear ht
  have c0 := keepc hb1 (p := ⟨w.heap.size, 0, none⟩) (u := .int .i64 s) (by go_simp)
  have c1 := keepc hb1 (p := ⟨w.heap.size, 1, none⟩) (u := .slice a n c) (by go_simp)
  have bw1 : Below w.heap.size w w1 := by (repeat (first | exact Below.refl _ _ | assumption | refine Below.drew ?_ | refine below_drewN ?_ _ | refine belowA ?_ _ | refine belowT ?_ (by assumption) | refine Below.setCell ?_ (by simp) _))
  replace h1 := h1.below bw1 (Nat.le_refl _)
  replace h2 := h2.below bw1 (Nat.le_refl _)
  clear hb1
  go_wp2_with fail
  refine (filled_c _).mono ?_
  rintro e w2 ⟨rfl, hb2⟩
  have d0 := keepc hb2 (p := ⟨w1.heap.size, 0, none⟩) (u := .int .i64 t) (by go_simp)
  have d1 := keepc hb2 (p := ⟨w1.heap.size, 1, none⟩) (u := .slice (some ⟨q, 0, none⟩) (n + m) (n + m)) (by go_simp)
  replace c0 := keepc hb2 (past1 c0 _)
  replace c1 := keepc hb2 (past1 c1 _)
  have b2 : Below w1.heap.size w1 w2 := by (repeat (first | exact Below.refl _ _ | assumption | refine Below.drew ?_ | refine below_drewN ?_ _ | refine belowA ?_ _ | refine belowT ?_ (by assumption) | refine Below.setCell ?_ (by simp) _))
  have bw2 : Below w.heap.size w w2 := by (repeat (first | exact Below.refl _ _ | assumption | refine Below.drew ?_ | refine below_drewN ?_ _ | refine belowA ?_ _ | refine belowT ?_ (by assumption) | refine Below.setCell ?_ (by simp) _))
  replace h1 := h1.below b2 (Nat.le_refl _)
  replace h2 := h2.below b2 (Nat.le_refl _)
  replace i1 := i1.below b2 (Nat.le_refl _)
  clear hb2 b2 bw1
  go_wp2_with fail
  refine (at_c x ((m : Int) - 1) _ (by omega) (by omega) hx).mono ?_
  rintro e w6 ⟨rfl, rfl⟩
  have hp0 := Int.emod_nonneg x (show (m : Int) - 1 ≠ 0 by omega)
  have hp1 := Int.emod_lt_of_pos x (show 0 < (m : Int) - 1 by omega)
  generalize x % ((m : Int) - 1) = r at *
  obtain ⟨r, rfl⟩ := Int.eq_ofNat_of_zero_le hp0
  have hr0 : (0 : Int) ≤ 1 + (r : Int) := by omega
  have hr1 : (1 : Int) + (r : Int) ≤ (d : Int) := by omega
  have hr2 : (1 : Int) + (r : Int) ≤ (m : Int) := by omega
  have hr3 : ¬ d = 1 + r := by omega
  have hrm : 1 + r < m := by omega
  have PO := hide (parts_ok HOK.out (1 + r) (by omega) (by rw [h2.len]; exact hrm))
  rw [h1.len, h2.len] at PO
  have z1 : w1.heap.size < w6.heap.size := World.block_lt_of_cell? _ _ d0
  have z0 : w.heap.size < w6.heap.size := World.block_lt_of_cell? _ _ c0
  have n1 : ¬ w6.heap.size = w1.heap.size := by omega
  have n0 : ¬ w6.heap.size = w.heap.size := by omega
  go_upto_region 5 with fail
  go_cut [8, 9] (fun v8 v9 wx => ∃ g q5, v9 = .pointer (some ⟨g, 0, none⟩) ∧ v8 = .int .i64 0 ∧ Ints wx (some ⟨q5, 0, none⟩) (n + (1 + r)) (n + (1 + r)) (l ++ k.take (1 + r)) ∧ wx.cell? ⟨g, 0, none⟩ = some (.int .i64 (writeS s (n + (1 + r)))) ∧ wx.cell? ⟨g, 1, none⟩ = some (.slice (some ⟨q5, 0, none⟩) (n + (1 + r)) (n + (1 + r))) ∧ Below w6.heap.size w6 wx)
  case first =>
    go_region_held3 (fun w' => w'.cell? ⟨w.heap.size, 0, none⟩ = some (.int .i64 s) ∧ w'.cell? ⟨w.heap.size, 1, none⟩ = some (.slice a n c)) ((first | (go_simp; done) | (simp [*, World.cell?_alloc_at, World.cell?_alloc_past, World.cell?_alloc_some, World.cell?_setCell_far]; done)))
      (first | (go_at_call 8; refine (Write_ok s a n c l b (1 + r) d (k.take (1 + r)) _ (by refine h1.below (B := w6.heap.size) ?_ (Nat.le_refl _); (repeat (first | exact Below.refl _ _ | assumption | refine Below.drew ?_ | refine below_drewN ?_ _ | refine belowA ?_ _ | refine belowT ?_ (by assumption) | refine Below.setCell ?_ (by simp) _))) (by refine Ints.head (Ints.below h2 (B := w6.heap.size) ?_ (Nat.le_refl _)) (1 + r) (by omega); (repeat (first | exact Below.refl _ _ | assumption | refine Below.drew ?_ | refine below_drewN ?_ _ | refine belowA ?_ _ | refine belowT ?_ (by assumption) | refine Below.setCell ?_ (by simp) _))) PO.out.1).mono ?_; rintro e w7 ⟨⟨q7, rfl, i7, hq7⟩, hb7⟩; (have e0 := keepc hb7 (p := ⟨w.heap.size, 0, none⟩) (u := .int .i64 s) (by go_simp)); (have e1 := keepc hb7 (p := ⟨w.heap.size, 1, none⟩) (u := .slice a n c) (by go_simp)); (obtain ⟨hc7, hf7⟩ := bcell hb7)))
    · go_wp2_with fail
      go_meet
      case rel => exact ⟨_, _, rfl, rfl, i7.below (B := w7.heap.size) (by (repeat (first | exact Below.refl _ _ | assumption | refine Below.drew ?_ | refine below_drewN ?_ _ | refine belowA ?_ _ | refine belowT ?_ (by assumption) | refine Below.setCell ?_ (by simp) _))) (Nat.le_refl _), by go_simp, by go_simp, by (repeat (first | exact Below.refl _ _ | assumption | refine Below.drew ?_ | refine below_drewN ?_ _ | refine belowA ?_ _ | refine belowT ?_ (by assumption) | refine Below.setCell ?_ (by simp) _))⟩
    · go_wp2_with fail
      go_meet
      case rel =>
        simp at hq7
        exact ⟨_, _, rfl, rfl, (i7.setCell _ _ (by intro x hx; cases hx; simp; omega)).setCell _ _ (by intro x hx; cases hx; simp; omega), by go_simp, by go_simp, by (repeat (first | exact Below.refl _ _ | assumption | refine Below.drew ?_ | refine below_drewN ?_ _ | refine belowA ?_ _ | refine belowT ?_ (by assumption) | refine Below.setCell ?_ (by simp) _))⟩
  case rest =>
    obtain ⟨g, q5, rfl, rfl, i5, f0, f1, hb5⟩ := hcut
    obtain ⟨wA, rfl⟩ : ∃ x, x = wc := ⟨_, rfl⟩
    generalize ht5 : writeS s (n + (1 + r)) = t5 at *
    replace d0 := keepc hb5 d0
    replace d1 := keepc hb5 d1
    replace h2 := h2.below hb5 (Nat.le_refl _)
    replace i1 := i1.below hb5 (Nat.le_refl _)
    have bwc := belowT bw2 hb5
    have y1 : w1.heap.size < wA.heap.size := World.block_lt_of_cell? _ _ d0
    have yg : g < wA.heap.size := World.block_lt_of_cell? _ _ f0
    have m1 : ¬ wA.heap.size = w1.heap.size := by omega
    have mg : ¬ wA.heap.size = g := by omega
    clear hb5 bw2 c0 c1 h1 n0 n1 z0 z1 ht5
    go_upto_region 8 with fail
    go_cut [8, 10] (fun v8 v10 wx => ∃ g8 q8, v10 = .pointer (some ⟨g8, 0, none⟩) ∧ v8 = .int .i64 0 ∧ Ints wx (some ⟨q8, 0, none⟩) (n + (1 + r) + (m - (1 + r))) (n + (1 + r) + (m - (1 + r))) (l ++ k.take (1 + r) ++ k.drop (1 + r)) ∧ wx.cell? ⟨g8, 0, none⟩ = some (.int .i64 (writeS t5 (n + (1 + r) + (m - (1 + r))))) ∧ wx.cell? ⟨g8, 1, none⟩ = some (.slice (some ⟨q8, 0, none⟩) (n + (1 + r) + (m - (1 + r))) (n + (1 + r) + (m - (1 + r)))) ∧ Below wA.heap.size wA wx)
    case first =>
      go_region_held3 (fun w' => w'.cell? ⟨g, 0, none⟩ = some (.int .i64 t5) ∧ w'.cell? ⟨g, 1, none⟩ = some (.slice (some ⟨q5, 0, none⟩) (n + (1 + r)) (n + (1 + r)))) ((first | (go_simp; done) | (simp [*, World.cell?_alloc_at, World.cell?_alloc_past, World.cell?_alloc_some, World.cell?_setCell_far]; done)))
        (first | (go_at_call 8; refine (Write_ok t5 (some ⟨q5, 0, none⟩) (n + (1 + r)) (n + (1 + r)) (l ++ k.take (1 + r)) _ (m - (1 + r)) (d - (1 + r)) (k.drop (1 + r)) _ (by refine i5.below (B := wA.heap.size) ?_ (Nat.le_refl _); (repeat (first | exact Below.refl _ _ | assumption | refine Below.drew ?_ | refine below_drewN ?_ _ | refine belowA ?_ _ | refine belowT ?_ (by assumption) | refine Below.setCell ?_ (by simp) _))) (by rw [show ((1 : Int) + (r : Int)).toNat = 1 + r by omega, if_neg hr3]; refine Ints.tail (Ints.below h2 (B := wA.heap.size) ?_ (Nat.le_refl _)) (1 + r) (by omega); (repeat (first | exact Below.refl _ _ | assumption | refine Below.drew ?_ | refine below_drewN ?_ _ | refine belowA ?_ _ | refine belowT ?_ (by assumption) | refine Below.setCell ?_ (by simp) _))) PO.out.2.1).mono ?_; rintro e w7 ⟨⟨q7, rfl, i7, hq7⟩, hb7⟩; (have e0 := keepc hb7 (p := ⟨g, 0, none⟩) (u := .int .i64 t5) (by go_simp)); (have e1 := keepc hb7 (p := ⟨g, 1, none⟩) (u := .slice (some ⟨q5, 0, none⟩) (n + (1 + r)) (n + (1 + r))) (by go_simp)); (obtain ⟨hc7, hf7⟩ := bcell hb7)))
      · go_wp2_with fail
        go_meet
        case rel => exact ⟨_, _, rfl, rfl, i7.below (B := w7.heap.size) (by (repeat (first | exact Below.refl _ _ | assumption | refine Below.drew ?_ | refine below_drewN ?_ _ | refine belowA ?_ _ | refine belowT ?_ (by assumption) | refine Below.setCell ?_ (by simp) _))) (Nat.le_refl _), by go_simp, by go_simp, by (repeat (first | exact Below.refl _ _ | assumption | refine Below.drew ?_ | refine below_drewN ?_ _ | refine belowA ?_ _ | refine belowT ?_ (by assumption) | refine Below.setCell ?_ (by simp) _))⟩
      · go_wp2_with fail
        go_meet
        case rel =>
          simp at hq7
          exact ⟨_, _, rfl, rfl, (i7.setCell _ _ (by intro x hx; cases hx; simp; omega)).setCell _ _ (by intro x hx; cases hx; simp; omega), by go_simp, by go_simp, by (repeat (first | exact Below.refl _ _ | assumption | refine Below.drew ?_ | refine below_drewN ?_ _ | refine belowA ?_ _ | refine belowT ?_ (by assumption) | refine Below.setCell ?_ (by simp) _))⟩
    case rest =>
      obtain ⟨g8, q8, rfl, rfl, i8, j0, j1, hb8⟩ := hcut
      rw [PO.out.2.2, HT.out] at j0
      rw [List.append_assoc, List.take_append_drop] at i8
      generalize n + (1 + r) + (m - (1 + r)) = N8 at *
      replace d0 := keepc hb8 d0
      replace d1 := keepc hb8 d1
      replace i1 := i1.below hb8 (Nat.le_refl _)
      have bw8 := belowT bwc hb8
      clear hb8 bwc h2 i5 f0 f1 m1 mg y1 yg
      go_wp2_with fail
      refine (Same_c t t _ _ _ _ _ _ _ _ _ i8 i1).mono ?_
      rintro e w9 ⟨rfl, hb9⟩
      rw [show decide (t = t ∧ l ++ k = l ++ k) = true from decide_eq_true ⟨rfl, rfl⟩]
      go_wp2
      go_ret
      exact ⟨rfl, by (repeat (first | exact Below.refl _ _ | assumption | refine Below.drew ?_ | refine below_drewN ?_ _ | refine belowA ?_ _ | refine belowT ?_ (by assumption) | refine Below.setCell ?_ (by simp) _))⟩

theorem ZoneParts_c (s : Int) (a : Option Addr) (n c : Nat) (l : List Int) (b : Option Addr) (m d : Nat) (k : List Int) (x : Int) (w : World) (h1 : Ints w a n c l) (h2 : Ints w b m d k)
    (hx : -9223372036854775808 ≤ x ∧ x ≤ 9223372036854775807) :
    Calls Try.prog 6 #[.agg #[.int .i64 s, .slice a n c], .slice b m d, .int .i64 x] w fun e w' => e = .returned (.bool true) ∧ Below w.heap.size w w' := by
  by_cases hok : writeE s l k = 0
  · by_cases hm : m < 2
    · exact ZoneParts_one s a n c l b m d k x w h1 h2 hok hm
    · exact ZoneParts_two s a n c l b m d k x w h1 h2 hok (by omega) hx
  · exact ZoneParts_bad s a n c l b m d k x w h1 h2 hok

end Go.Proofs.Ytmlbkmncdgiemaa
