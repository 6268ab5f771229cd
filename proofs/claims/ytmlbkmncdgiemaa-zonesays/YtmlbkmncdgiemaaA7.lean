/- The law's own closed fact 'filled': it answers true in whatever world; no condition. -/
import Derived.Test.YtmlbkmncdgiemaaA6
namespace Go.Proofs.Ytmlbkmncdgiemaa
open Go.RowKit
set_option linter.unusedVariables false
set_option linter.unusedSimpArgs false

theorem mk6 (w : World) : (Instr.makeSlice 24 (.int .i64 6) (.int .i64 6)).run Try.prog w = .ok (.slice (some ⟨w.heap.size, 0, none⟩) 6 6) (w.alloc (.cells (cellsOf [0, 0, 0, 0, 0, 0]).toArray 3)) := by kernel_rfl

set_option maxHeartbeats 2000000 in
theorem filled_c (w : World) : Calls Try.prog 12 #[] w fun e w' => e = .returned (.bool true) ∧ Below w.heap.size w w' := by
  have hmk := mk6
  go_enter Try.func12, Try.ntmps12
  go_wp2_with fail
  refine (Write_ok 0 none 0 0 [] (some ⟨w.heap.size, 0, none⟩) 2 2 [5, 6] _ (Ints.nilSlice _) (Ints.of_row (t := 3) (heap_new _ _) (by decide) (by decide) rfl) (by decide)).mono ?_
  rintro e w1 ⟨⟨q1, rfl, i1, _⟩, hb1⟩
  rw [show writeS 0 (0 + 2) = 1 from rfl, show 0 + 2 = 2 from rfl] at *
  have bw1 : Below w.heap.size w w1 := by (repeat (first | exact Below.refl _ _ | assumption | refine Below.drew ?_ | refine below_drewN ?_ _ | refine belowA ?_ _ | refine belowT ?_ (by assumption) | refine Below.setCell ?_ (by simp) _))
  clear hb1
  go_wp2_with fail
  refine (Read_ok 1 (some ⟨q1, 0, none⟩) 2 2 ([] ++ [5, 6]) 1 1 _ (i1.below (B := w1.heap.size) (by (repeat (first | exact Below.refl _ _ | assumption | refine Below.drew ?_ | refine below_drewN ?_ _ | refine belowA ?_ _ | refine belowT ?_ (by assumption) | refine Below.setCell ?_ (by simp) _))) (Nat.le_refl _)) (by decide)).mono ?_
  rintro e w2 ⟨⟨q2, rfl, i2, _⟩, hb2⟩
  rw [show (1 : Int).toNat = 1 from rfl, show List.take 1 (List.drop 1 ([] ++ [5, 6])) = ([6] : List Int) from rfl] at *
  have c10 := keepc hb2 (p := ⟨w1.heap.size, 0, none⟩) (u := .int .i64 1) (by go_simp)
  have c11 := keepc hb2 (p := ⟨w1.heap.size, 1, none⟩) (u := .slice (some ⟨q1, 0, none⟩) 2 2) (by go_simp)
  have b12 : Below w1.heap.size w1 w2 := by (repeat (first | exact Below.refl _ _ | assumption | refine Below.drew ?_ | refine below_drewN ?_ _ | refine belowA ?_ _ | refine belowT ?_ (by assumption) | refine Below.setCell ?_ (by simp) _))
  have bw2 : Below w.heap.size w w2 := by (repeat (first | exact Below.refl _ _ | assumption | refine Below.drew ?_ | refine below_drewN ?_ _ | refine belowA ?_ _ | refine belowT ?_ (by assumption) | refine Below.setCell ?_ (by simp) _))
  replace i1 := i1.below b12 (Nat.le_refl _)
  clear hb2 bw1
  go_wp2_with fail
  refine (Read_bad 1 (some ⟨q1, 0, none⟩) 2 2 ([] ++ [5, 6]) 1 2 _ i1 (by decide)).mono ?_
  rintro e w3 ⟨rfl, hb3⟩
  rw [show readE 1 ([] ++ [5, 6]) 1 2 = 6 from rfl]
  replace c10 := keepc hb3 c10
  replace c11 := keepc hb3 c11
  replace i1 := i1.below hb3 (Nat.le_refl _)
  replace i2 := i2.below hb3 (Nat.le_refl _)
  have bw3 : Below w.heap.size w w3 := by (repeat (first | exact Below.refl _ _ | assumption | refine Below.drew ?_ | refine below_drewN ?_ _ | refine belowA ?_ _ | refine belowT ?_ (by assumption) | refine Below.setCell ?_ (by simp) _))
  have z13 : w1.heap.size < w3.heap.size := World.block_lt_of_cell? _ _ c10
  have y3 : w3.heap.size < w3.heap.size + 1 + 1 := by omega
  have n1 : ¬ w3.heap.size = w1.heap.size := by omega
  have n2 : ¬ w3.heap.size + 1 = w1.heap.size := by omega
  clear hb3 bw2 b12
  go_upto_region 4 with fail
  go_cut [7, 8] (fun v7 v8 wx => ∃ g q, v7 = .pointer (some ⟨g, 0, none⟩) ∧ v8 = .int .i64 0 ∧ Ints wx (some ⟨q, 0, none⟩) 8 8 [5, 6, 0, 0, 0, 0, 0, 0] ∧ wx.cell? ⟨g, 0, none⟩ = some (.int .i64 4) ∧ wx.cell? ⟨g, 1, none⟩ = some (.slice (some ⟨q, 0, none⟩) 8 8) ∧ Below w3.heap.size w3 wx)
  case first =>
    go_region_held3 (fun w' => w'.cell? ⟨w1.heap.size, 0, none⟩ = some (.int .i64 1) ∧ w'.cell? ⟨w1.heap.size, 1, none⟩ = some (.slice (some ⟨q1, 0, none⟩) 2 2)) ((first | (go_simp; done) | (simp [*, World.cell?_alloc_at, World.cell?_alloc_past, World.cell?_alloc_some, World.cell?_setCell_far]; done)))
      (first | (go_at_call 8; refine (Write_ok 1 (some ⟨q1, 0, none⟩) 2 2 ([] ++ [5, 6]) _ 6 6 [0, 0, 0, 0, 0, 0] _ (by refine i1.below (B := w3.heap.size) ?_ (Nat.le_refl _); (repeat (first | exact Below.refl _ _ | assumption | refine Below.drew ?_ | refine below_drewN ?_ _ | refine belowA ?_ _ | refine belowT ?_ (by assumption) | refine Below.setCell ?_ (by simp) _))) (by refine Ints.of_row (l := [0, 0, 0, 0, 0, 0]) (t := 3) (fr := (0, 0)) ?_ (by decide) (by decide) rfl; first | exact heap_new w3 _ | exact heap_new1 w3 _ _ | exact heap_new2 w3 _ _) (by decide)).mono ?_; rintro e w4 ⟨⟨q4, rfl, i4, hq4⟩, hb4⟩; (have e0 := keepc hb4 (p := ⟨w1.heap.size, 0, none⟩) (u := .int .i64 1) (by go_simp)); (have e1 := keepc hb4 (p := ⟨w1.heap.size, 1, none⟩) (u := .slice (some ⟨q1, 0, none⟩) 2 2) (by go_simp)); (obtain ⟨hc4, hf4⟩ := bcell hb4)))
    · go_wp2_with fail
      go_meet
      case rel => exact ⟨_, _, rfl, rfl, i4.below (B := w4.heap.size) (by (repeat (first | exact Below.refl _ _ | assumption | refine Below.drew ?_ | refine below_drewN ?_ _ | refine belowA ?_ _ | refine belowT ?_ (by assumption) | refine Below.setCell ?_ (by simp) _))) (Nat.le_refl _), by go_simp; rfl, by go_simp, by (repeat (first | exact Below.refl _ _ | assumption | refine Below.drew ?_ | refine below_drewN ?_ _ | refine belowA ?_ _ | refine belowT ?_ (by assumption) | refine Below.setCell ?_ (by simp) _))⟩
    all_goals
      go_wp2_with fail
      go_meet
      case rel =>
        simp at hq4
        exact ⟨_, _, rfl, rfl, (i4.setCell _ _ (by intro x hx; cases hx; simp; omega)).setCell _ _ (by intro x hx; cases hx; simp; omega), by go_simp; rfl, by go_simp, by (repeat (first | exact Below.refl _ _ | assumption | refine Below.drew ?_ | refine below_drewN ?_ _ | refine belowA ?_ _ | refine belowT ?_ (by assumption) | refine Below.setCell ?_ (by simp) _))⟩
  case rest =>
    obtain ⟨g, q, rfl, rfl, i5, d0, d1, hb5⟩ := hcut
    replace c10 := keepc hb5 c10
    replace c11 := keepc hb5 c11
    replace i1 := i1.below hb5 (Nat.le_refl _)
    replace i2 := i2.below hb5 (Nat.le_refl _)
    have bwc : Below w.heap.size w wc := by (repeat (first | exact Below.refl _ _ | assumption | refine Below.drew ?_ | refine below_drewN ?_ _ | refine belowA ?_ _ | refine belowT ?_ (by assumption) | refine Below.setCell ?_ (by simp) _))
    clear hb5 bw3 n1 n2 y3 z13
    go_wp2_with fail
    refine (Write_bad 4 (some ⟨q, 0, none⟩) 8 8 [5, 6, 0, 0, 0, 0, 0, 0] _ 1 1 [1] _ (i5.below (B := wc.heap.size) (by (repeat (first | exact Below.refl _ _ | assumption | refine Below.drew ?_ | refine below_drewN ?_ _ | refine belowA ?_ _ | refine belowT ?_ (by assumption) | refine Below.setCell ?_ (by simp) _))) (Nat.le_refl _)) (by refine Ints.of_row (l := [1]) (t := 3) (fr := (0, 0)) ?_ (by decide) (by decide) rfl; exact heap_new wc _) (by decide)).mono ?_
    rintro e w6 ⟨rfl, hb6⟩
    rw [show writeE 4 [5, 6, 0, 0, 0, 0, 0, 0] [1] = 7 from rfl]
    replace c10 := keepc hb6 (past1 c10 _)
    replace c11 := keepc hb6 (past1 c11 _)
    replace d0 := keepc hb6 (past1 d0 _)
    replace d1 := keepc hb6 (past1 d1 _)
    have b6 : Below wc.heap.size wc w6 := by (repeat (first | exact Below.refl _ _ | assumption | refine Below.drew ?_ | refine below_drewN ?_ _ | refine belowA ?_ _ | refine belowT ?_ (by assumption) | refine Below.setCell ?_ (by simp) _))
    replace i1 := i1.below b6 (Nat.le_refl _)
    replace i2 := i2.below b6 (Nat.le_refl _)
    have bw6 : Below w.heap.size w w6 := by (repeat (first | exact Below.refl _ _ | assumption | refine Below.drew ?_ | refine below_drewN ?_ _ | refine belowA ?_ _ | refine belowT ?_ (by assumption) | refine Below.setCell ?_ (by simp) _))
    clear hb6 bwc b6
    have c10' := past2 c10
    have d0' := past2 d0
    have c10'' := past1 c10
    have d0'' := past1 d0
    go_wp2_with fail
    refine (Equal_c (some ⟨q2, 0, none⟩) _ 1 1 1 1 [6] [6] _ (i2.below (B := w6.heap.size) (by (repeat (first | exact Below.refl _ _ | assumption | refine Below.drew ?_ | refine below_drewN ?_ _ | refine belowA ?_ _ | refine belowT ?_ (by assumption) | refine Below.setCell ?_ (by simp) _))) (Nat.le_refl _)) (by refine Ints.of_row (l := [6]) (t := 3) (fr := (0, 0)) ?_ (by decide) (by decide) rfl; exact heap_new2 w6 _ _)).mono ?_
    rintro e w7 ⟨rfl, nq, rfl⟩
    rw [show decide (([6] : List Int) = [6]) = true from rfl]
    go_wp2_with fail
    refine (Check_c 3 none 0 0 [] _ (Ints.nilSlice _)).mono ?_
    rintro e w8 ⟨rfl, hb8⟩
    rw [show checkZ 3 [] = 4 from rfl]
    replace c10 := keepc hb8 (past2 c10 _ _)
    replace c11 := keepc hb8 (past2 c11 _ _)
    have b8 : Below w6.heap.size w6 w8 := by (repeat (first | exact Below.refl _ _ | assumption | refine Below.drew ?_ | refine below_drewN ?_ _ | refine belowA ?_ _ | refine belowT ?_ (by assumption) | refine Below.setCell ?_ (by simp) _))
    replace i1 := i1.below b8 (Nat.le_refl _)
    have bw8 : Below w.heap.size w w8 := by (repeat (first | exact Below.refl _ _ | assumption | refine Below.drew ?_ | refine below_drewN ?_ _ | refine belowA ?_ _ | refine belowT ?_ (by assumption) | refine Below.setCell ?_ (by simp) _))
    clear hb8 bw6 c10' d0' c10'' d0''
    go_wp2_with fail
    refine (Same_c 1 1 _ _ 2 2 2 2 _ _ _ i1 i1).mono ?_
    rintro e w9 ⟨rfl, hb9⟩
    rw [show decide ((1 : Int) = 1 ∧ (([] ++ [5, 6]) : List Int) = [] ++ [5, 6]) = true from rfl]
    go_wp2
    go_ret
    exact ⟨rfl, by (repeat (first | exact Below.refl _ _ | assumption | refine Below.drew ?_ | refine below_drewN ?_ _ | refine belowA ?_ _ | refine belowT ?_ (by assumption) | refine Below.setCell ?_ (by simp) _))⟩

end Go.Proofs.Ytmlbkmncdgiemaa
