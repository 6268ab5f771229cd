/- The contracts of zone.Read and of the document's ReadZone, errors and all in one; no condition but that the arguments read as data. -/
import Derived.Test.YtmjcoehllinoeacDoorB3
import Derived.Test.YtmjcoehllinoeacDoorA6
namespace Go.Proofs.YtmjcoehllinoeacDoor
open Go.RowKit
set_option linter.unusedVariables false
set_option maxRecDepth 100000
set_option linter.unusedSimpArgs false

/-- What Read answers: blocks. -/
def rL (s : Int) (l : List Int) (p k : Int) : List Int := if readE s l p k = 0 then (l.drop p.toNat).take k.toNat else []

theorem Read_u (s : Int) (a : Option Addr) (n c : Nat) (l : List Int) (p k : Int) (w : World) (h1 : Ints w a n c l) :
    Calls Tryd.prog 67 #[.agg #[.int .i64 s, .slice a n c], .int .i64 p, .int .i64 k] w fun e w' => (∃ a' n' c', e = .returned (.tuple #[.slice a' n' c', .int .i64 (readE s l p k)]) ∧ Ints w' a' n' c' (rL s l p k)) ∧ Below w.heap.size w w' := by
  by_cases h : readE s l p k = 0
  · refine (Read_ok s a n c l p k w h1 h).mono ?_
    rintro e w' ⟨⟨q, rfl, i, _⟩, hb⟩
    rw [show rL s l p k = (l.drop p.toNat).take k.toNat by simp [rL, h], h]
    exact ⟨⟨_, _, _, rfl, i⟩, hb⟩
  · refine (Read_bad s a n c l p k w h1 h).mono ?_
    rintro e w' ⟨rfl, hb⟩
    rw [show rL s l p k = [] by simp [rL, h]]
    exact ⟨⟨_, _, _, rfl, Ints.nilSlice _⟩, hb⟩

theorem Read_f (s : Int) (a : Option Addr) (n c : Nat) (l : List Int) (p k : Int) (w : World) (h1 : Ints w a n c l) :
    Calls Tryd.prog 67 #[.agg #[.int .i64 s, .slice a n c], .int .i64 p, .int .i64 k] w fun e w' => (∃ a' n' c', e = .returned (.tuple #[.slice a' n' c', .int .i64 (readE s l p k)]) ∧ Ints w' a' n' c' (rL s l p k) ∧ ∀ x, a' = some x → w.heap.size ≤ x.block) ∧ Below w.heap.size w w' := by
  by_cases h : readE s l p k = 0
  · refine (Read_ok s a n c l p k w h1 h).mono ?_
    rintro e w' ⟨⟨q, rfl, i, hq⟩, hb⟩
    rw [show rL s l p k = (l.drop p.toNat).take k.toNat by simp [rL, h], h]
    exact ⟨⟨_, _, _, rfl, i, fun x e => by cases e; exact hq⟩, hb⟩
  · refine (Read_bad s a n c l p k w h1 h).mono ?_
    rintro e w' ⟨rfl, hb⟩
    rw [show rL s l p k = [] by simp [rL, h]]
    exact ⟨⟨_, _, _, rfl, Ints.nilSlice _, fun x e => by cases e⟩, hb⟩
end Go.Proofs.YtmjcoehllinoeacDoor
