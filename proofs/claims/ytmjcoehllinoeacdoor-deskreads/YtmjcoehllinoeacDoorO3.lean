/- How the arguments of the laws read: a book; no condition. -/
import Derived.Test.YtmjcoehllinoeacDoorO2
import Derived.Test.YtmjcoehllinoeacDoorK0
namespace Go.Proofs.YtmjcoehllinoeacDoor
open Go.ChangeShapes Go.WideShapes Go.ChangeAt Go.RowKit Go.Joins
set_option linter.unusedVariables false
set_option maxRecDepth 100000
set_option linter.unusedSimpArgs false

theorem cellsBook : Tryd.prog.cellsOf 35 = 3 := by kernel_rfl

theorem book_arg {H : Type} {enc : TypeId × Value → H} {W : World} {base : Nat} {v : Value} {d : DataW H} {p : List MemPlace} (hv : Value.okWide Tryd.prog W .any base 35 v)
    (h : DataW.Trod enc Tryd.prog W 0 (fun _ => true) true 35 v d p) : ∃ a n c b, v = bookV a n c b ∧ Ints W a n c b.k := by
  obtain ⟨v0, v1, v2, y0, y1, y2, m, rfl, _, _, h0, h1, h2⟩ := open_agg3 Tryd.underlying35 (by kernel_rfl) cellsBook hv h
  obtain ⟨x, e1, _, _⟩ := DataW.trod_int Tryd.underlying3 h1
  obtain ⟨t, e2, _, _⟩ := DataW.trod_int Tryd.underlying3 h2
  simp at e1 e2
  subst e1 e2
  obtain ⟨a, n, c, l, rfl, hi⟩ := ints_of h0
  exact ⟨a, n, c, ⟨l, x, t⟩, rfl, hi⟩

end Go.Proofs.YtmjcoehllinoeacDoor
