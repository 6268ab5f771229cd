/- The contracts of zone.Check, zone.Same and of the document's own answers to them; no condition but that the zone reads as its state and list. -/
import Derived.Test.YtogpbihmofbfjaaA2
import Derived.Deep.RegionHeld3
import Derived.Deep.Light
namespace Go.Proofs.Ytogpbihmofbfjaa
open Go.RowKit
set_option linter.unusedVariables false
set_option maxRecDepth 100000
set_option linter.unusedSimpArgs false

/-- What Check answers: plain. -/
def checkZ (s : Int) (l : List Int) : Int :=
  if outB 0 4 s then 4 else if 8 < l.length then 2 else if l.any (outB 0 999) then 3 else if fitsB s l.length then 0 else 4

theorem checkZ_1 {s : Int} {l : List Int} (h1 : outB 0 4 s = true) : 4 = checkZ s l := by simp [checkZ, h1]
theorem checkZ_2 {s : Int} {l : List Int} (h1 : outB 0 4 s = false) (h2 : 8 < l.length) : 2 = checkZ s l := by simp [checkZ, h1, h2]
theorem checkZ_3 {s : Int} {l : List Int} (h1 : outB 0 4 s = false) (h2 : ¬ 8 < l.length) (h3 : l.any (outB 0 999) = true) : 3 = checkZ s l := by simp only [checkZ, h1, h2, h3]; simp
theorem checkZ_4 {s : Int} {l : List Int} (h1 : outB 0 4 s = false) (h2 : ¬ 8 < l.length) (h3 : l.any (outB 0 999) = false) (h4 : fitsB s l.length = false) : 4 = checkZ s l := by simp only [checkZ, h1, h2, h3, h4]; simp
theorem checkZ_0 {s : Int} {l : List Int} (h1 : outB 0 4 s = false) (h2 : ¬ 8 < l.length) (h3 : l.any (outB 0 999) = false) (h4 : fitsB s l.length = true) : 0 = checkZ s l := by simp only [checkZ, h1, h2, h3, h4]; simp

theorem inB_outB (x a b : Int) : inB x a b = !outB a b x := by unfold inB outB; rw [Bool.eq_iff_iff]; simp
theorem all_any (l : List Int) (a b : Int) : (l.all fun x => inB x a b) = !l.any (outB a b) := by
  induction l with
  | nil => rfl
  | cons x l ih => rw [List.all_cons, List.any_cons, ih, inB_outB, Bool.not_or]

/-- Check's answer, in the document's own words. -/
theorem checkZ_ref {s : Int} {l : List Int} {n : Nat} (hl : l.length = n) :
    checkZ s l = if (!inB s 0 4) = true then 4 else if 8 < (n : Int) then 2 else if (!l.all fun x => inB x 0 999) = true then 3 else if s = 0 ∧ (n : Int) ≠ 0 ∨ s = 3 ∧ (n : Int) = 0 ∨ s ≠ 4 ∧ (n : Int) = 8 then 4 else 0 := by
  subst hl
  unfold checkZ
  rw [all_any, inB_outB]
  simp only [Bool.not_not]
  generalize l.any (outB 0 999) = A
  generalize l.length = n
  by_cases h1 : outB 0 4 s = true
  · simp only [if_pos h1]
  · simp only [if_neg h1]
    by_cases h2 : 8 < n
    · have h2' : (8 : Int) < (n : Int) := by omega
      simp only [if_pos h2, if_pos h2']
    · have h2' : ¬ (8 : Int) < (n : Int) := by omega
      simp only [if_neg h2, if_neg h2']
      cases A
      · have h5 : 0 ≤ s ∧ s ≤ 4 := by simp [outB] at h1; omega
        have h6 : (fitsB s n = true) ↔ ¬ (s = 0 ∧ (n : Int) ≠ 0 ∨ s = 3 ∧ (n : Int) = 0 ∨ s ≠ 4 ∧ (n : Int) = 8) := by
          unfold fitsB
          by_cases a : s = 4
          · simp [a]
          · by_cases b : s = 0
            · simp [b]
              omega
            · by_cases c : s = 3
              · simp [c]; omega
              · simp [a, b, c]; omega
        simp only [Bool.false_eq_true, if_false]
        by_cases h7 : fitsB s n = true
        · rw [if_pos h7, if_neg (h6.1 h7)]
        · rw [if_neg h7, if_pos (Decidable.not_not.1 (fun h => h7 (h6.2 h)))]
      · simp only [if_true]

end Go.Proofs.Ytogpbihmofbfjaa
