/- Three boxes, newly made; plain mathematics, no condition. -/
import Derived.Test.YtogpbihmofbfjaaTB
namespace Go.Proofs.Ytogpbihmofbfjaa
open Go.RowKit
set_option linter.unusedVariables false
set_option maxRecDepth 100000
set_option linter.unusedSimpArgs false

theorem three_boxes (w : World) (H R G : List Value) (s t u : TypeId) :
    Lay (((w.alloc (.cells H.toArray s)).alloc (.cells R.toArray t)).alloc (.cells G.toArray u)) w.heap.size H ∧ Lay (((w.alloc (.cells H.toArray s)).alloc (.cells R.toArray t)).alloc (.cells G.toArray u)) (w.heap.size + 1) R ∧ Lay (((w.alloc (.cells H.toArray s)).alloc (.cells R.toArray t)).alloc (.cells G.toArray u)) (w.heap.size + 1 + 1) G ∧ Below w.heap.size w (((w.alloc (.cells H.toArray s)).alloc (.cells R.toArray t)).alloc (.cells G.toArray u)) := by
  have h0 := (Lay.made w H s).below (belowA (belowA (Below.refl _ _) (.cells R.toArray t)) (.cells G.toArray u))
  have h1 := (Lay.made1 w (.cells H.toArray s) R t).below (belowA (Below.refl _ _) (.cells G.toArray u))
  have h2 := Lay.made1 (w.alloc (.cells H.toArray s)) (.cells R.toArray t) G u
  simp only [World.size_alloc] at h2
  exact ⟨h0, h1, h2, by (repeat first | exact bel0 | assumption | refine bel1 ?_ | refine bel2 ?_ | refine bel3 ?_ | refine belowT ?_ (by assumption) | refine bel5 ?_ (by simp; try omega))⟩

end Go.Proofs.Ytogpbihmofbfjaa
