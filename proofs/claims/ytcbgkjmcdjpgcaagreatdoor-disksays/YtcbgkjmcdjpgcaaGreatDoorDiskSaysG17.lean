/- Lists of records held against each other; plain mathematics, no condition. -/
import Derived.Test.YtcbgkjmcdjpgcaaGreatDoorDiskSaysG7
namespace Go.Proofs.YtcbgkjmcdjpgcaaGreatDoor
open Go.RowKit
set_option linter.unusedVariables false
set_option maxRecDepth 100000
set_option linter.unusedSimpArgs false

def sameRs : List PR → List PR → Bool
  | [], [] => true
  | a :: A, b :: B => sameR a b && sameRs A B
  | [], _ :: _ => false
  | _ :: _, [] => false
theorem sameRs_iff : ∀ A B : List PR, sameRs A B = true ↔ A = B
  | [], [] => by simp [sameRs]
  | a :: A, b :: B => by simp [sameRs, sameR_iff, sameRs_iff A B]
  | [], b :: B => by simp [sameRs]
  | a :: A, [] => by simp [sameRs]
theorem sameRs_t {A B : List PR} (h : A = B) : sameRs A B = true := (sameRs_iff A B).2 h
theorem sameRs_f {A B : List PR} (h : A ≠ B) : sameRs A B = false := by
  cases e : sameRs A B with
  | false => rfl
  | true => exact absurd ((sameRs_iff A B).1 e) h

end Go.Proofs.YtcbgkjmcdjpgcaaGreatDoor
