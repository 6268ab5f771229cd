/- How the arguments of the laws read: a desk, an answer; no condition. -/
import Derived.Test.YtmjcoehllinoeacDoorO3
import Derived.Test.YtmjcoehllinoeacDoorO4
import Derived.Test.YtmjcoehllinoeacDoorDK0
import Derived.Deep.Strs
namespace Go.Proofs.YtmjcoehllinoeacDoor
open Go.ChangeShapes Go.WideShapes Go.ChangeAt Go.RowKit Go.Joins Go.ChangeMaps
set_option linter.unusedVariables false
set_option maxRecDepth 100000
set_option linter.unusedSimpArgs false

theorem array4 {α : Type} {cs : Array α} (h : cs.size = 4) : ∃ c0 c1 c2 c3, cs = #[c0, c1, c2, c3] := by
  obtain ⟨l⟩ := cs
  match l, h with
  | [c0, c1, c2, c3], _ => exact ⟨c0, c1, c2, c3, rfl⟩

theorem cellsDesk : Tryd.prog.cellsOf 37 = 4 := by kernel_rfl

set_option maxRecDepth 100000 in
/-- The cells of a desk, read. -/
theorem desk_of {H : Type} {enc : TypeId × Value → H} {W : World} {fuel : Nat} {cs : List Value} {y : DataW H × List MemPlace}
    (h : DataW.trod enc Tryd.prog W 0 (fun _ => true) true fuel 37 cs = some y) : ∃ d : DV, cs = [.slice d.za d.zn d.zc, .slice d.ka d.kn d.kc, .int .i64 d.b.h, .int .i64 d.b.t] ∧ d.ok W := by
  obtain ⟨y0, y1, n, _, hl, h0, h1⟩ := trod_struct2 Tryd.underlying37 h
  rw [cellsDesk] at hl
  match cs, hl with
  | [v0, v1, v2, v3], _ =>
    have c1 : Tryd.prog.cellsOf 33 = 1 := by kernel_rfl
    have k0 : DataW.trod enc Tryd.prog W 0 (fun _ => true) true n 33 [v0] = some y0 := h0
    have k1 : DataW.trod enc Tryd.prog W 0 (fun _ => true) true n 35 [v1, v2, v3] = some y1 := h1
    obtain ⟨x0, x1, x2, m, _, _, g0, g1, g2⟩ := Go.Deep.trod_struct3 Tryd.underlying35 k1
    have q0 : DataW.trod enc Tryd.prog W 0 (fun _ => true) true m 22 [v1] = some x0 := g0
    have q1 : DataW.trod enc Tryd.prog W 0 (fun _ => true) true m 3 [v2] = some x1 := g1
    have q2 : DataW.trod enc Tryd.prog W 0 (fun _ => true) true m 3 [v3] = some x2 := g2
    obtain ⟨za, zn, zc, Z, rfl, hz⟩ := zones_of k0
    obtain ⟨ka, kn, kc, l, rfl, hk⟩ := ints_of q0
    obtain ⟨hh, e1, _, _⟩ := DataW.trod_int Tryd.underlying3 q1
    obtain ⟨tt, e2, _, _⟩ := DataW.trod_int Tryd.underlying3 q2
    simp at e1 e2
    subst e1 e2
    exact ⟨⟨za, zn, zc, Z, ka, kn, kc, ⟨l, hh, tt⟩⟩, rfl, hz, hk⟩

theorem desk_arg {H : Type} {enc : TypeId × Value → H} {W : World} {base : Nat} {v : Value} {d : DataW H} {p : List MemPlace} (hv : Value.okWide Tryd.prog W .any base 37 v)
    (h : DataW.Trod enc Tryd.prog W 0 (fun _ => true) true 37 v d p) : ∃ x : DV, v = x.v ∧ x.ok W := by
  obtain ⟨cs, rfl, hsz⟩ := okWide_struct Tryd.underlying37 hv
  obtain ⟨v0, v1, v2, v3, rfl⟩ := array4 (hsz.trans cellsDesk)
  obtain ⟨fuel, hf⟩ := h
  obtain ⟨x, e, hx⟩ := desk_of (by simpa [Value.cells] using hf)
  simp at e
  obtain ⟨rfl, rfl, rfl, rfl⟩ := e
  exact ⟨x, rfl, hx⟩

theorem cellsAnswer : Tryd.prog.cellsOf 40 = 3 := by kernel_rfl

set_option maxRecDepth 100000 in
theorem answer_arg {H : Type} {enc : TypeId × Value → H} {W : World} {base : Nat} {v : Value} {d : DataW H} {p : List MemPlace} (hv : Value.okWide Tryd.prog W .any base 40 v)
    (h : DataW.Trod enc Tryd.prog W 0 (fun _ => true) true 40 v d p) : ∃ x : AV, v = x.v ∧ x.ok W := by
  obtain ⟨v0, v1, v2, y0, y1, y2, m, rfl, _, _, h0, h1, h2⟩ := open_agg3 Tryd.underlying40 (by kernel_rfl) cellsAnswer hv h
  obtain ⟨e, e0, _, _⟩ := DataW.trod_int Tryd.underlying25 h0
  obtain ⟨t, e1, _, _⟩ := DataW.trod_int Tryd.underlying3 h1
  simp at e0 e1
  subst e0 e1
  obtain ⟨a, n, c, l, rfl, hi⟩ := ints_of h2
  exact ⟨⟨e, t, a, n, c, l⟩, rfl, hi⟩

end Go.Proofs.YtmjcoehllinoeacDoor
