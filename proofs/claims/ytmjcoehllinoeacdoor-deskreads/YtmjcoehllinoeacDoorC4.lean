/- The contract of the document's own roomFor; no condition but that the slice reads as four zones, and that the number is one of theirs. -/
import Derived.Test.YtmjcoehllinoeacDoorC3
namespace Go.Proofs.YtmjcoehllinoeacDoor
open Go.RowKit
set_option linter.unusedVariables false
set_option maxRecDepth 100000
set_option linter.unusedSimpArgs false

/-- The first zone that is Open. -/
def fopen (Z : List ZV) : Option Nat := Z.findIdx? fun z => z.s == 1
/-- The zones when there is room for one of state s; none: there is none. -/
def roomZ (Z : List ZV) (s : Int) : Option (List ZV) :=
  if isO s then some Z
  else if s = 4 ∨ s = 0 ∧ 3 ≤ cnt isA Z then none
  else if cnt isO Z < 2 then some Z
  else match fopen Z with
    | none => none
    | some i => some (Z.modify i ZV.shut)

theorem fopen_some {Z : List ZV} {i : Nat} (h : fopen Z = some i) : ∃ z, Z[i]? = some z ∧ z.s = 1 ∧ ∀ (j : Nat) (y : ZV), j < i → Z[j]? = some y → y.s ≠ 1 := by
  unfold fopen at h
  rw [List.findIdx?_eq_some_iff_getElem] at h
  obtain ⟨hi, h1, h2⟩ := h
  refine ⟨Z[i], by simp [hi], by simpa using h1, fun j y hj hy => ?_⟩
  have := h2 j hj
  obtain ⟨hjl, rfl⟩ := List.getElem?_eq_some_iff.1 hy
  simpa using this
theorem fopen_none {Z : List ZV} (h : fopen Z = none) : ∀ (j : Nat) (y : ZV), Z[j]? = some y → y.s ≠ 1 := by
  unfold fopen at h
  rw [List.findIdx?_eq_none_iff] at h
  intro j y hy
  simpa using h y (List.mem_of_getElem? hy)
theorem modify_set {Z : List ZV} {i : Nat} {z : ZV} (h : Z[i]? = some z) : Z.modify i ZV.shut = Z.set i z.shut := by
  obtain ⟨hi, rfl⟩ := List.getElem?_eq_some_iff.1 h
  apply List.ext_getElem?
  intro j
  by_cases e : i = j
  · subst e; simp [List.getElem?_modify, hi]
  · simp [List.getElem?_modify, List.getElem?_set, e]

theorem roomZ_1 {Z : List ZV} {s : Int} (h : s = 1 ∨ s = 2) : roomZ Z s = some Z := by
  have : isO s = true := by rcases h with rfl | rfl <;> rfl
  simp [roomZ, this]
theorem roomZ_2 {Z : List ZV} {s : Int} (h : ¬ (s = 1 ∨ s = 2)) (h2 : s = 4 ∨ s = 0 ∧ 3 ≤ cnt isA Z) : roomZ Z s = none := by
  have : isO s = false := by simp [isO]; omega
  simp [roomZ, this, h2]
theorem roomZ_3 {Z : List ZV} {s : Int} (h : ¬ (s = 1 ∨ s = 2)) (h2 : ¬ (s = 4 ∨ s = 0 ∧ 3 ≤ cnt isA Z)) (h3 : cnt isO Z < 2) : roomZ Z s = some Z := by
  have : isO s = false := by simp [isO]; omega
  simp [roomZ, this, h2, h3]
theorem roomZ_4 {Z : List ZV} {s : Int} (h : ¬ (s = 1 ∨ s = 2)) (h2 : ¬ (s = 4 ∨ s = 0 ∧ 3 ≤ cnt isA Z)) (h3 : ¬ cnt isO Z < 2) (hf : fopen Z = none) : roomZ Z s = none := by
  have : isO s = false := by simp [isO]; omega
  simp [roomZ, this, h2, h3, hf]
theorem roomZ_5 {Z : List ZV} {s : Int} (h : ¬ (s = 1 ∨ s = 2)) (h2 : ¬ (s = 4 ∨ s = 0 ∧ 3 ≤ cnt isA Z)) (h3 : ¬ cnt isO Z < 2) {i : Nat} {z : ZV} (hf : fopen Z = some i) (hz : Z[i]? = some z) : roomZ Z s = some (Z.set i z.shut) := by
  have : isO s = false := by simp [isO]; omega
  simp [roomZ, this, h2, h3, hf, modify_set hz]

end Go.Proofs.YtmjcoehllinoeacDoor
