/- The contract of the document's own OnZones at Open; no condition but that the slices read as zones and data. -/
import Derived.Test.YtmjcoehllinoeacDoorC6
namespace Go.Proofs.YtmjcoehllinoeacDoor
open Go.RowKit
set_option linter.unusedVariables false
set_option maxRecDepth 100000
set_option linter.unusedSimpArgs false

theorem roomZ_get {Z Z' : List ZV} {s : Int} (h : roomZ Z s = some Z') (k : Nat) (z : ZV) (hz : Z[k]? = some z) : ∃ u, Z'[k]? = some u := by
  have hk : k < Z.length := (List.getElem?_eq_some_iff.1 hz).1
  have hl : Z'.length = Z.length := by
    unfold roomZ at h
    split at h
    · cases h; rfl
    · split at h
      · cases h
      · split at h
        · cases h; rfl
        · split at h
          · cases h
          · cases h; simp
  exact ⟨Z'[k]'(by omega), by simp⟩

end Go.Proofs.YtmjcoehllinoeacDoor
