/- The contract of the document's own OnZones, kind by kind; no condition but that the slices read as zones and data. -/
import Derived.Test.YtmjcoehllinoeacDoorC4
namespace Go.Proofs.YtmjcoehllinoeacDoor
open Go.RowKit
set_option linter.unusedVariables false
set_option maxRecDepth 100000
set_option linter.unusedSimpArgs false

theorem ret_3 {u v : Value} {k : IntKind} {a b : Int} (h : a = b) : Ending.returned (.tuple #[u, v, .int k a]) = .returned (.tuple #[u, v, .int k b]) := by rw [h]

theorem zs_four {w : World} {a : Option Addr} {n c : Nat} {Z : List ZV} (h : Zones w a n c Z) (hok : checkZs (Z.map ZV.p) = 0) :
    n = 4 ∧ ∃ b off, a = some ⟨b, off, none⟩ ∧ ∀ i z, Z[i]? = some z → w.cell? ⟨b, off + i * 2, none⟩ = some (.int .i64 z.s) ∧ w.cell? ⟨b, off + i * 2 + 1, none⟩ = some (.slice z.a z.n z.c) := by
  have h4 : n = 4 := by
    apply Decidable.byContradiction
    intro hn
    rw [← checkZs_1 (Z := Z) (by rw [h.len]; exact hn)] at hok
    omega
  refine ⟨h4, ?_⟩
  rcases h.row with h0 | ⟨b, off, ha, _, hr⟩
  · omega
  · exact ⟨b, off, ha, hr⟩

end Go.Proofs.YtmjcoehllinoeacDoor
