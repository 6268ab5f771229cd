/- Names answers true in whatever world, and leaves all that was there as it was; no condition. -/
import Derived.Test.YtmlbkmncdgiemaaA1
namespace Go.Proofs.Ytmlbkmncdgiemaa
open Go.RowKit
set_option linter.unusedVariables false
set_option linter.unusedSimpArgs false

theorem ten (w : World) (k : Nat) (hk : k < 10) : (w.alloc (.cells #[.int .i64 0, .int .i64 1, .int .i64 2, .int .i64 3, .int .i64 4, .int .i64 5, .int .i64 6, .int .i64 7, .int .i64 8, .int .i64 9] 22)).cell? ⟨w.heap.size, k, none⟩ = some (.int .i64 k) := by
  rw [World.cell?_alloc_new]
  rcases (by omega : k = 0 ∨ k = 1 ∨ k = 2 ∨ k = 3 ∨ k = 4 ∨ k = 5 ∨ k = 6 ∨ k = 7 ∨ k = 8 ∨ k = 9) with h | h | h | h | h | h | h | h | h | h <;> subst h <;> rfl

theorem heap41 (w : World) (a b c d : Obj) : ((((w.alloc a).alloc b).alloc c).alloc d).heap[w.heap.size + 1]? = some b := by
  show ((((w.heap.push a).push b).push c).push d)[w.heap.size + 1]? = _
  simp only [Array.getElem?_push, Array.size_push]
  repeat (first | rw [if_pos trivial] | rw [if_neg (by omega)])
theorem heap43 (w : World) (a b c d : Obj) : ((((w.alloc a).alloc b).alloc c).alloc d).heap[w.heap.size + 1 + 1 + 1]? = some d := by
  show ((((w.heap.push a).push b).push c).push d)[w.heap.size + 1 + 1 + 1]? = _
  simp only [Array.getElem?_push, Array.size_push]
  repeat (first | rw [if_pos trivial] | rw [if_neg (by omega)])
theorem heap52 (w : World) (a b c d e : Obj) : (((((w.alloc a).alloc b).alloc c).alloc d).alloc e).heap[w.heap.size + 1 + 1]? = some c := by
  show (((((w.heap.push a).push b).push c).push d).push e)[w.heap.size + 1 + 1]? = _
  simp only [Array.getElem?_push, Array.size_push]
  repeat (first | rw [if_pos trivial] | rw [if_neg (by omega)])
theorem heap54 (w : World) (a b c d e : Obj) : (((((w.alloc a).alloc b).alloc c).alloc d).alloc e).heap[w.heap.size + 1 + 1 + 1 + 1]? = some e := by
  show (((((w.heap.push a).push b).push c).push d).push e)[w.heap.size + 1 + 1 + 1 + 1]? = _
  simp only [Array.getElem?_push, Array.size_push]
  repeat (first | rw [if_pos trivial] | rw [if_neg (by omega)])

set_option maxHeartbeats 2000000 in
theorem Names_c (w : World) : Calls Try.prog 3 #[] w fun e w' => e = .returned (.bool true) ∧ Below w.heap.size w w' := by
  have ht := ten w
  go_enter Try.func3, Try.ntmps3
  go_wp2
  go_loop [9] (fun i => ∃ k : Nat, k ≤ 10 ∧ i = .int .i64 k) (fun i => 10 - (intOf i).toNat)
  case atStart => exact ⟨0, by omega, rfl⟩
  case round =>
    obtain ⟨k, hk, rfl⟩ := hrel
    by_cases hlt : k < 10
    · have hi := ht k hlt
      have hlt' : (k : Int) < 10 := by omega
      have hnn : ((k : Int) != (k : Int)) = false := by simp
      clear ht
      go_wp2
      exact ⟨⟨k + 1, by omega, by go_num⟩, by simp [intOf]; omega⟩
    · have hlt' : ¬ (k : Int) < 10 := by omega
      go_wp2_with fail
      refine (Equal_c _ _ 12 12 12 12 [4, 8, 999, 2, 3, 3, 9, 40, 80, 60000, 30, 120] [4, 8, 999, 2, 3, 3, 9, 40, 80, 60000, 30, 120] _ (by refine Ints.of_row (l := [4, 8, 999, 2, 3, 3, 9, 40, 80, 60000, 30, 120]) (t := 3) (fr := (0, 0)) ?_ (by decide) (by decide) rfl; exact heap41 w _ _ _ _) (by refine Ints.of_row (l := [4, 8, 999, 2, 3, 3, 9, 40, 80, 60000, 30, 120]) (t := 3) (fr := (0, 0)) ?_ (by decide) (by decide) rfl; exact heap43 w _ _ _ _)).mono ?_
      rintro e w1 ⟨rfl, n1, rfl⟩
      rw [show decide (([4, 8, 999, 2, 3, 3, 9, 40, 80, 60000, 30, 120] : List Int) = [4, 8, 999, 2, 3, 3, 9, 40, 80, 60000, 30, 120]) = true from rfl]
      go_wp2_with fail
      refine (Equal_c _ _ 28 28 28 28 [0, 1, 2, 3, 4, 1, 2, 3, 4, 1, 2, 3, 4, 5, 6, 7, 8, 9, 10, 11, 12, 1, 2, 3, 4, 5, 6, 7] [0, 1, 2, 3, 4, 1, 2, 3, 4, 1, 2, 3, 4, 5, 6, 7, 8, 9, 10, 11, 12, 1, 2, 3, 4, 5, 6, 7] _ (by refine Ints.of_row (l := [0, 1, 2, 3, 4, 1, 2, 3, 4, 1, 2, 3, 4, 5, 6, 7, 8, 9, 10, 11, 12, 1, 2, 3, 4, 5, 6, 7]) (t := 3) (fr := (0, 0)) ?_ (by decide) (by decide) rfl; exact heap52 w _ _ _ _ _) (by refine Ints.of_row (l := [0, 1, 2, 3, 4, 1, 2, 3, 4, 1, 2, 3, 4, 5, 6, 7, 8, 9, 10, 11, 12, 1, 2, 3, 4, 5, 6, 7]) (t := 3) (fr := (0, 0)) ?_ (by decide) (by decide) rfl; exact heap54 w _ _ _ _ _)).mono ?_
      rintro e w2 ⟨rfl, n2, rfl⟩
      rw [show decide (([0, 1, 2, 3, 4, 1, 2, 3, 4, 1, 2, 3, 4, 5, 6, 7, 8, 9, 10, 11, 12, 1, 2, 3, 4, 5, 6, 7] : List Int) = [0, 1, 2, 3, 4, 1, 2, 3, 4, 1, 2, 3, 4, 5, 6, 7, 8, 9, 10, 11, 12, 1, 2, 3, 4, 5, 6, 7]) = true from rfl]
      go_wp2
      go_ret
      exact ⟨rfl, by (repeat (first | exact Below.refl _ _ | assumption | refine Below.drew ?_ | refine below_drewN ?_ _ | refine belowA ?_ _ | refine belowT ?_ (by assumption) | refine Below.setCell ?_ (by simp) _))⟩

end Go.Proofs.Ytmlbkmncdgiemaa
