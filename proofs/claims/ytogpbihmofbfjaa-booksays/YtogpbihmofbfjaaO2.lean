/- How the arguments of the laws read: a slice of zones, a bool; no condition. -/
import Derived.Test.YtogpbihmofbfjaaO1
import Derived.Test.YtogpbihmofbfjaaC0
import Derived.Deep.Slices
namespace Go.Proofs.Ytogpbihmofbfjaa
open Go.ChangeShapes Go.WideShapes Go.ChangeAt Go.RowKit Go.Joins
set_option linter.unusedVariables false
set_option maxRecDepth 100000
set_option linter.unusedSimpArgs false

theorem bool_arg {H : Type} {enc : TypeId × Value → H} {W : World} {base : Nat} {v : Value} {d : DataW H} {p : List MemPlace} (hv : Value.okWide Try.prog W .any base 4 v)
    (h : DataW.Trod enc Try.prog W 0 (fun _ => true) true 4 v d p) : ∃ x, v = .bool x := by
  obtain ⟨x, rfl, rfl, rfl⟩ := open_bool Try.underlying4 hv h
  exact ⟨x, rfl⟩

end Go.Proofs.Ytogpbihmofbfjaa
