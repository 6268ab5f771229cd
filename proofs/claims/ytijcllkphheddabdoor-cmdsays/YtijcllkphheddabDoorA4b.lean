/- The contract of zone.wake; no condition but that the pointer leads to a zone. -/
import Derived.Test.YtijcllkphheddabDoorA4
namespace Go.Proofs.YtijcllkphheddabDoor
open Go.RowKit
set_option linter.unusedVariables false
set_option linter.unusedSimpArgs false

/-- The state of a zone of state s behind a write that makes it n blocks long. -/
def writeS (s : Int) (n : Nat) : Int := if n = 8 then 4 else if s = 2 then 2 else 1

theorem writeS_1 {s : Int} {n : Nat} (h : ((n : Int) == 8) = true) : writeS s n = 4 := by simp at h; simp [writeS]; omega
theorem writeS_2 {s : Int} {n : Nat} (h : ((n : Int) == 8) = false) (hs : (s != 2) = true) : writeS s n = 1 := by simp at h hs; simp [writeS, hs]; omega
theorem writeS_3 {s : Int} {n : Nat} (h : ((n : Int) == 8) = false) (hs : (s != 2) = false) : writeS s n = s := by simp at h hs; simp [writeS, hs]; omega

end Go.Proofs.YtijcllkphheddabDoor
