/- What YardFew asks of each call, plain; no Go here. -/
import Derived.Test.YtaambknbbhjdnaaD2
namespace Go.Proofs.Ytaambknbbhjdnaa
open Go.RowKit
set_option linter.unusedVariables false
set_option maxRecDepth 100000
set_option linter.unusedSimpArgs false

/-- What is asked of zones Q behind a call of kind q on zone j of P. -/
def FewL (q : Int) (P Q : List PZ) (j : Nat) : Prop :=
  checkZs Q = 0 ∧ Q.length = P.length ∧ ∀ (i : Nat) (y z : PZ), P[i]? = some y → Q[i]? = some z →
    (i = j ∧ q = 3 ∧ z.2 = []) ∨ (¬ (i = j ∧ q = 3) ∧ ∃ r, z.2 = y.2 ++ r ∧ (r ≠ [] → i = j ∧ q = 4))

theorem few_of_keeps {q : Int} {P Q : List PZ} {j : Nat} {more : Bool} (hc : checkZs Q = 0) (h : Keeps P Q j more) (hq : q ≠ 3) (hm : more = true → q = 4) : FewL q P Q j := by
  refine ⟨hc, h.1, fun i y z hy hz => .inr ⟨fun e => hq e.2, ?_⟩⟩
  obtain ⟨r, e, hr⟩ := h.2 i y z hy hz
  exact ⟨r, e, fun hne => ⟨(hr hne).1, hm (hr hne).2⟩⟩

theorem pair {α β : Type} (t : α × β) (c : β) (h : t.2 = c) : t = (t.1, c) := by obtain ⟨a, d⟩ := t; simp at h; subst h; rfl
theorem triple' {α β γ : Type} (t : α × β × γ) (c : γ) (h : t.2.2 = c) : t = (t.1, t.2.1, c) := by obtain ⟨a, b, d⟩ := t; simp at h; subst h; rfl

theorem few_hold {P : List PZ} {j : Nat} (h : (holdP P j).2 = 0) : FewL 0 P (holdP P j).1 j := by
  obtain ⟨h1, h2, _⟩ := hold_law (pair _ _ h)
  exact few_of_keeps h1 h2 (by omega) (by simp)
theorem few_close {P : List PZ} {j : Nat} (h : (closeP P j).2 = 0) : FewL 1 P (closeP P j).1 j := by
  obtain ⟨h1, h2⟩ := close_law (pair _ _ h)
  exact few_of_keeps h1 h2 (by omega) (by simp)
theorem few_finish {P : List PZ} {j : Nat} (h : (finishP P j).2 = 0) : FewL 2 P (finishP P j).1 j := by
  obtain ⟨h1, h2, _⟩ := finish_law (pair _ _ h)
  exact few_of_keeps h1 h2 (by omega) (by simp)
theorem few_write {P : List PZ} {j : Nat} {k : List Int} (h : (writeP P j k).2.2 = 0) : FewL 4 P (writeP P j k).1 j := by
  obtain ⟨h1, h2, _⟩ := write_law (triple' _ _ h)
  exact few_of_keeps h1 h2 (by omega) (fun _ => rfl)
theorem few_reset {P : List PZ} {j : Nat} (h : (resetP P j).2 = 0) : FewL 3 P (resetP P j).1 j := by
  obtain ⟨h1, h2, hj, hl⟩ := reset_law (pair _ _ h)
  rw [h2] at h1 ⊢
  refine ⟨h1, by simp, fun i y z hy hz => ?_⟩
  by_cases e : j = i
  · subst e
    rw [List.getElem?_set_self (by omega)] at hz
    cases hz
    exact .inl ⟨rfl, rfl, rfl⟩
  · rw [List.getElem?_set_ne e, hy] at hz
    cases hz
    exact .inr ⟨fun h => e h.1.symm, [], by simp, fun h => absurd rfl h⟩

end Go.Proofs.Ytaambknbbhjdnaa
