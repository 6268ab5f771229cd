/- The contract of the whole copy of zones; no condition but that the slice reads as four zones of few blocks. -/
import Derived.Test.YtaambknbbhjdnaaY1a
import Derived.Test.YtaambknbbhjdnaaPLZ
import Derived.Test.YtaambknbbhjdnaaY1b
namespace Go.Proofs.Ytaambknbbhjdnaa
open Go.RowKit
set_option linter.unusedVariables false
set_option maxRecDepth 100000
set_option linter.unusedSimpArgs false

/-- Four zones that nobody has written yet. -/
def zero4 : List ZV := [⟨0, none, 0, 0, []⟩, ⟨0, none, 0, 0, []⟩, ⟨0, none, 0, 0, []⟩, ⟨0, none, 0, 0, []⟩]

theorem Mine.fresh (w : World) : Mine (w.alloc (.cells (zcells zero4).toArray 37)) w.heap.size w.heap.size 4 4 zero4 := by
  have hc : ∀ i z, zero4[i]? = some z → (w.alloc (.cells (zcells zero4).toArray 37)).cell? ⟨w.heap.size, i * 2, none⟩ = some (.int .i64 z.s) ∧ (w.alloc (.cells (zcells zero4).toArray 37)).cell? ⟨w.heap.size, i * 2 + 1, none⟩ = some (.slice z.a z.n z.c) := by
    intro i z hz
    obtain ⟨z0, z1⟩ := zcells_get zero4 i z hz
    rw [cell_of_row _ _ _ _ _ _ (heap_new w _), cell_of_row _ _ _ _ _ _ (heap_new w _)]
    exact ⟨by simpa using z0, by simpa using z1⟩
  have hz : ∀ z ∈ zero4, z = ⟨0, none, 0, 0, []⟩ := by simp [zero4]
  exact ⟨⟨rfl, Nat.le_refl _, by omega, fun e => (by cases e), .inr ⟨_, 0, rfl, by simp, fun i z hz => by simpa using hc i z hz⟩, fun z h => by rw [hz z h]; exact Ints.nilSlice _⟩,
    Nat.le_refl _, by simp, hc, fun j _ => frozen_row (heap_new w _), fun z h => by rw [hz z h]; exact .inl rfl⟩

theorem take_set_step {Z Z' : List ZV} {k : Nat} {z u : ZV} (hz : Z[k]? = some z) (hk : k < Z'.length) (h : (Z'.take k).map ZV.p = (Z.take k).map ZV.p) (hu : u.p = z.p) : ((Z'.set k u).take (k + 1)).map ZV.p = (Z.take (k + 1)).map ZV.p := by
  rw [take_snoc Z k z hz, take_snoc (Z'.set k u) k u (List.getElem?_set_self hk), List.map_append, List.map_append, List.take_set_of_le (Nat.le_refl k), h]
  simp [hu]

theorem mkz4 (w : World) : (Instr.makeSlice 22 (.int .i64 4) (.int .i64 4)).run Try.prog w = .ok (.slice (some ⟨w.heap.size, 0, none⟩) 4 4) (w.alloc (.cells (zcells zero4).toArray 37)) := by kernel_rfl

theorem whole_c (b off c : Nat) (Z : List ZV) (w : World) (h : Zones w (some ⟨b, off, none⟩) 4 c Z) (h8 : ∀ z ∈ Z, z.n ≤ 8)
    (hr : ∀ i z, Z[i]? = some z → w.cell? ⟨b, off + i * 2, none⟩ = some (.int .i64 z.s) ∧ w.cell? ⟨b, off + i * 2 + 1, none⟩ = some (.slice z.a z.n z.c)) :
    Calls Try.prog 43 #[.slice (some ⟨b, off, none⟩) 4 c] w fun e w' => (∃ g Z', e = .returned (.slice (some ⟨g, 0, none⟩) 4 4) ∧ Mine w' w.heap.size g 4 4 Z' ∧ Z'.map ZV.p = Z.map ZV.p ∧ NewL w.heap.size Z') ∧ Below w.heap.size w w' :=
  (pcopyZones_c _ 4 c Z w h (by omega) (fun z hz => by have := h8 z hz; omega)).mono fun e w' ⟨⟨g, Y, h1, h2, h3, h4, h5, h6⟩, h7⟩ =>
    ⟨⟨g, Y, h1, (h2.mine h3 (by omega) h6).mono h5, h4, fun z hz x e => by have := h6 z hz x e; omega⟩, h7⟩

end Go.Proofs.Ytaambknbbhjdnaa
