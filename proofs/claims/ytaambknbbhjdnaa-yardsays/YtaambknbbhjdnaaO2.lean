/- How the arguments of the laws read: a slice of zones, a bool; no condition. -/
import Derived.Test.YtaambknbbhjdnaaO1
import Derived.Test.YtaambknbbhjdnaaC0
import Derived.Deep.Slices
namespace Go.Proofs.Ytaambknbbhjdnaa
open Go.ChangeShapes Go.WideShapes Go.ChangeAt Go.RowKit Go.Joins
set_option linter.unusedVariables false
set_option maxRecDepth 100000
set_option linter.unusedSimpArgs false

/-- The cells of one zone, read. -/
theorem zone_of {H : Type} {enc : TypeId × Value → H} {W : World} {fuel : Nat} {cs : List Value} {y : DataW H × List MemPlace}
    (h : DataW.trod enc Try.prog W 0 (fun _ => true) true fuel 37 cs = some y) : ∃ z : ZV, cs = [.int .i64 z.s, .slice z.a z.n z.c] ∧ z.ok W := by
  obtain ⟨y0, y1, n, _, hl, h0, h1⟩ := trod_struct2 Try.underlying37 h
  rw [cellsZone] at hl
  match cs, hl with
  | [v0, v1], _ =>
    have k0 : DataW.trod enc Try.prog W 0 (fun _ => true) true n 3 [v0] = some y0 := h0
    have k1 : DataW.trod enc Try.prog W 0 (fun _ => true) true n 23 [v1] = some y1 := h1
    obtain ⟨s, e0, _, _⟩ := DataW.trod_int Try.underlying3 k0
    simp at e0
    subst e0
    obtain ⟨a, n, c, l, rfl, hi⟩ := ints_of k1
    exact ⟨⟨s, a, n, c, l⟩, rfl, hi⟩

theorem zones_of {H : Type} {enc : TypeId × Value → H} {W : World} {fuel : Nat} {v : Value} {y : DataW H × List MemPlace}
    (h : DataW.trod enc Try.prog W 0 (fun _ => true) true fuel 22 [v] = some y) : ∃ a n c Z, v = .slice a n c ∧ Zones W a n c Z := by
  rcases Go.Deep.open_slice Try.underlying22 h with ⟨hcs, _⟩ | ⟨x, len, cap, m, n, D, Pl, hcs, _, hl, hm, hmm, _, hel⟩
  · simp at hcs
    subst hcs
    exact ⟨none, 0, 0, [], rfl, ⟨rfl, Nat.le_refl _, by omega, fun _ => rfl, .inl rfl, by simp⟩⟩
  · simp at hcs
    subst hcs
    have hm' : m = cap := by simpa using hmm
    subst hm'
    have hz : ∀ i, i < len → ∃ z : ZV, z.ok W ∧ W.cell? (x.add (i * 2)) = some (.int .i64 z.s) ∧ W.cell? ((x.add (i * 2)).add 1) = some (.slice z.a z.n z.c) := by
      intro i hi
      obtain ⟨cs', h1, h2⟩ := hel i (by omega)
      rw [cellsZone] at h1
      obtain ⟨z, rfl, hz⟩ := zone_of h2
      obtain ⟨_, _, hc⟩ := World.cells?_some h1
      exact ⟨z, hz, by simpa [Addr.add] using hc 0 (by omega), by simpa using hc 1 (by omega)⟩
    have dft : Inhabited ZV := ⟨⟨0, none, 0, 0, []⟩⟩
    obtain ⟨f, hf⟩ := Go.Deep.choose_lt hz
    refine ⟨some x, len, m, (List.range len).map f, rfl, ⟨by simp, hl, hm, fun e => (by cases e), ?_, ?_⟩⟩
    · by_cases h0 : len = 0
      · exact .inl h0
      · obtain ⟨b, off, spot⟩ := x
        have hc0 := (hf 0 (by omega)).2.1
        have hspot : spot = none := by simpa [Addr.add] using World.cell?_spot hc0
        subst hspot
        refine .inr ⟨b, off, rfl, World.block_lt_of_cell? W ⟨b, off, none⟩ (by simpa [Addr.add] using hc0), fun i z hz => ?_⟩
        have hi : i < len := by have := (List.getElem?_eq_some_iff.1 hz).1; simpa using this
        rw [List.getElem?_map, List.getElem?_range hi] at hz
        simp at hz
        subst hz
        obtain ⟨_, h1, h2⟩ := hf i hi
        rw [addr_add] at h1 h2
        rw [addr_add] at h2
        exact ⟨h1, h2⟩
    · intro z hz
      simp at hz
      obtain ⟨i, hi, rfl⟩ := hz
      exact (hf i hi).1

theorem zones_arg {H : Type} {enc : TypeId × Value → H} {W : World} {base : Nat} {v : Value} {d : DataW H} {p : List MemPlace} (hv : Value.okWide Try.prog W .any base 22 v)
    (h : DataW.Trod enc Try.prog W 0 (fun _ => true) true 22 v d p) : ∃ a n c Z, v = .slice a n c ∧ Zones W a n c Z := by
  obtain ⟨a, n, c, rfl⟩ := okWide_slice Try.underlying22 hv
  obtain ⟨fuel, hf⟩ := h
  exact zones_of (by simpa [Value.cells] using hf)

theorem bool_arg {H : Type} {enc : TypeId × Value → H} {W : World} {base : Nat} {v : Value} {d : DataW H} {p : List MemPlace} (hv : Value.okWide Try.prog W .any base 4 v)
    (h : DataW.Trod enc Try.prog W 0 (fun _ => true) true 4 v d p) : ∃ x, v = .bool x := by
  obtain ⟨x, rfl, rfl, rfl⟩ := open_bool Try.underlying4 hv h
  exact ⟨x, rfl⟩

end Go.Proofs.Ytaambknbbhjdnaa
