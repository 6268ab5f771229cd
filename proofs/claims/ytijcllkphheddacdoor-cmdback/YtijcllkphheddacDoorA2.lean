/- The contracts of the searches over a slice of ints, and of the law's own 'at': each call returns what the plain function says; no condition but that the slice reads as the list. -/
import Derived.Test.YtijcllkphheddacDoorA1
namespace Go.Proofs.YtijcllkphheddacDoor
open Go.RowKit
set_option linter.unusedVariables false

theorem tmod_fix (k n : Int) (hn : 0 < n) : (k.tmod n < 0 → k.tmod n + n = k % n) ∧ (0 ≤ k.tmod n → k.tmod n = k % n) := by
  have h1 := Int.emod_nonneg k (by omega : n ≠ 0)
  have h2 := Int.emod_lt_of_pos k hn
  rw [Int.tmod_eq_emod]
  split <;> constructor <;> intro h <;> omega

end Go.Proofs.YtijcllkphheddacDoor
