/- The contracts of slices.Clone at zones and of the document's own shut; no condition but that the slice reads as the zones. -/
import Derived.Test.YtmjcoehllinoeacDoorC1
import Derived.Test.YtmjcoehllinoeacDoorC2
namespace Go.Proofs.YtmjcoehllinoeacDoor
open Go.RowKit
set_option linter.unusedVariables false
set_option maxRecDepth 100000
set_option linter.unusedSimpArgs false

theorem infoZone : ∃ i, Tryd.prog.info? 78 = some i ∧ i.zero = some (.agg #[.int .i64 0, .slice none 0 0]) ∧ i.size = 2 ∧ i.bytes = 32 := by
  have h : (Tryd.prog.info? 78).map (fun i => (i.zero, i.size, i.bytes)) = some (some (.agg #[.int .i64 0, .slice none 0 0]), 2, 32) := by kernel_rfl
  obtain ⟨i, hi, h⟩ := Option.map_eq_some_iff.1 h
  simp only [Prod.mk.injEq] at h
  exact ⟨i, hi, h.1, h.2.1, h.2.2⟩

/-- A zone that is shut, plain. -/
def shutP (z : Int × List Int) : Int × List Int := if z.2 = [] then (0, []) else (3, z.2)
/-- .. and as a value. -/
def ZV.shut (z : ZV) : ZV := if z.l = [] then ⟨0, none, 0, 0, []⟩ else ⟨3, z.a, z.n, z.c, z.l⟩
theorem ZV.shut_p (z : ZV) : z.shut.p = shutP z.p := by unfold ZV.shut shutP ZV.p; split <;> rfl
theorem ZV.shut_ok {w : World} {z : ZV} (h : z.ok w) : z.shut.ok w := by
  unfold ZV.shut
  split
  · exact Ints.nilSlice w
  · exact h
theorem ZV.shut_off {g : Nat} {z : ZV} (h : z.off g) : z.shut.off g := by
  unfold ZV.shut
  split
  · exact .inl rfl
  · exact h

end Go.Proofs.YtmjcoehllinoeacDoor
