/- How the arguments of the laws read: a book; no condition. -/
import Derived.Test.YtogpbihmofbfjaaO2
import Derived.Test.YtogpbihmofbfjaaK0
namespace Go.Proofs.Ytogpbihmofbfjaa
open Go.ChangeShapes Go.WideShapes Go.ChangeAt Go.RowKit Go.Joins
set_option linter.unusedVariables false
set_option maxRecDepth 100000
set_option linter.unusedSimpArgs false

theorem cellsBook : Try.prog.cellsOf 24 = 3 := by kernel_rfl

theorem book_arg {H : Type} {enc : TypeId × Value → H} {W : World} {base : Nat} {v : Value} {d : DataW H} {p : List MemPlace} (hv : Value.okWide Try.prog W .any base 24 v)
    (h : DataW.Trod enc Try.prog W 0 (fun _ => true) true 24 v d p) : ∃ a n c b, v = bookV a n c b ∧ Ints W a n c b.k := by
  obtain ⟨v0, v1, v2, y0, y1, y2, m, rfl, _, _, h0, h1, h2⟩ := open_agg3 Try.underlying24 (by kernel_rfl) cellsBook hv h
  obtain ⟨x, e1, _, _⟩ := DataW.trod_int Try.underlying3 h1
  obtain ⟨t, e2, _, _⟩ := DataW.trod_int Try.underlying3 h2
  simp at e1 e2
  subst e1 e2
  obtain ⟨a, n, c, l, rfl, hi⟩ := ints_of h0
  exact ⟨a, n, c, ⟨l, x, t⟩, rfl, hi⟩

end Go.Proofs.Ytogpbihmofbfjaa
