/- Two boxes, newly made; plain mathematics, no condition. -/
import Derived.Test.YtogpbihmofbfjaaLY
namespace Go.Proofs.Ytogpbihmofbfjaa
open Go.RowKit
set_option linter.unusedVariables false
set_option maxRecDepth 100000
set_option linter.unusedSimpArgs false

/-- A desk's box and an answer's, newly made. -/
theorem two_boxes (w : World) (D A : List Value) (s t : TypeId) : Lay ((w.alloc (.cells D.toArray s)).alloc (.cells A.toArray t)) w.heap.size D ∧ Lay ((w.alloc (.cells D.toArray s)).alloc (.cells A.toArray t)) (w.heap.size + 1) A ∧ Below w.heap.size w ((w.alloc (.cells D.toArray s)).alloc (.cells A.toArray t)) :=
  ⟨(Lay.made w D s).below (belowA (Below.refl _ _) _), Lay.made1 w _ A t, by (repeat first | exact bel0 | assumption | refine bel1 ?_ | refine bel2 ?_ | refine bel3 ?_ | refine belowT ?_ (by assumption) | refine bel5 ?_ (by simp; try omega))⟩

end Go.Proofs.Ytogpbihmofbfjaa
