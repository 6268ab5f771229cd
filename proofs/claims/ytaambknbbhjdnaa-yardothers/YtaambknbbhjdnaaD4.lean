/- What YardOthers asks, plain; no Go here. -/
import Derived.Test.YtaambknbbhjdnaaD3
namespace Go.Proofs.Ytaambknbbhjdnaa
open Go.RowKit
set_option linter.unusedVariables false
set_option maxRecDepth 100000
set_option linter.unusedSimpArgs false

/-- All zones but j, and one more at most, are as they were; that one was Open, is open no more, and has what it had. -/
def OthL (hold : Bool) (P Q : List PZ) (j : Nat) : Prop :=
  Q.length = 4 ∧ (∃ i0 : Nat, ∀ (i : Nat) (y z : PZ), i ≠ j → P[i]? = some y → Q[i]? = some z → (z = y) ∨ (i = i0 ∧ y.1 = 1 ∧ (z.1 = 0 ∨ z.1 = 3) ∧ z.2 = y.2)) ∧
    ∃ z, Q[j]? = some z ∧ (z.1 = 2 ∨ (z.1 = 1 ∨ z.1 = 4) ∧ hold = false)

theorem oth_set {hold : Bool} {P R : List PZ} {j : Nat} {z : PZ} (h4 : P.length = 4) (hj : j < 4) (h : R = P ∨ ∃ (i : Nat) (y : PZ), i ≠ j ∧ P[i]? = some y ∧ y.1 = 1 ∧ R = P.set i (shutP y)) (hz : z.1 = 2 ∨ (z.1 = 1 ∨ z.1 = 4) ∧ hold = false) : OthL hold P (R.set j z) j := by
  have hl : R.length = 4 := by
    rcases h with rfl | ⟨i, y, _, _, _, rfl⟩
    · exact h4
    · simp [h4]
  refine ⟨by simp [hl], ?_, z, by simp [hl, hj], hz⟩
  rcases h with rfl | ⟨i, y, hij, hy, hy1, rfl⟩
  · refine ⟨0, fun i u v hi hu hv => .inl ?_⟩
    rw [List.getElem?_set_ne (Ne.symm hi), hu] at hv
    cases hv
    rfl
  · refine ⟨i, fun t u v ht hu hv => ?_⟩
    rw [List.getElem?_set_ne (Ne.symm ht)] at hv
    by_cases e : i = t
    · subst e
      rw [hy] at hu
      cases hu
      rw [List.getElem?_set_self (List.getElem?_eq_some_iff.1 hy).1] at hv
      cases hv
      exact .inr ⟨rfl, hy1, shut_state y, shut_data y⟩
    · rw [List.getElem?_set_ne e, hu] at hv
      cases hv
      exact .inl rfl

theorem oth_hold {P : List PZ} {j : Nat} (h : (holdP P j).2 = 0) : OthL true P (holdP P j).1 j := by
  by_cases hp : pre P j = 0
  · obtain ⟨hc, k, hk, hj, hz⟩ := pre_plain hp
    obtain rfl : j = k := by omega
    cases hr : roomP P (at' P j).1 with
    | none => simp [holdP, hp, hr] at h
    | some R =>
      rw [show (holdP P j).1 = R.set j (2, (at' P j).2) by simp [holdP, hp, hr]]
      obtain ⟨_, _, _, _, h5⟩ := room_ok hc hz hr
      exact oth_set (checkZs_ok hc).1 hj h5 (.inl rfl)
  · simp [holdP, hp] at h

theorem oth_write {P : List PZ} {j : Nat} {k : List Int} (h : (writeP P j k).2.2 = 0) : OthL false P (writeP P j k).1 j := by
  by_cases hp : pre P j = 0
  · obtain ⟨hc, i, hk, hj, hz⟩ := pre_plain hp
    obtain rfl : j = i := by omega
    by_cases hw : writeE (at' P j).1 (at' P j).2 k = 0
    · cases hr : roomP P (at' P j).1 with
      | none => simp [writeP, hp, hw, hr] at h
      | some R =>
        rw [show (writeP P j k).1 = R.set j (wS (at' P j).1 (at' P j).2 k, wL (at' P j).1 (at' P j).2 k) by simp [writeP, hp, hw, hr]]
        obtain ⟨_, _, _, _, h5⟩ := room_ok hc hz hr
        refine oth_set (checkZs_ok hc).1 hj h5 ?_
        have eS : wS (at' P j).1 (at' P j).2 k = writeS (at' P j).1 ((at' P j).2.length + k.length) := by simp [wS, hw]
        simp only [eS]
        unfold writeS
        split
        · exact .inr ⟨.inr rfl, trivial⟩
        · split
          · exact .inl rfl
          · exact .inr ⟨.inl rfl, trivial⟩
    · simp [writeP, hp, hw] at h
  · simp [writeP, hp] at h

theorem hold_ok4 {P : List PZ} {j : Nat} (h : (holdP P j).2 = 0) : checkZs P = 0 := by
  by_cases hp : pre P j = 0
  · exact (pre_plain hp).1
  · simp [holdP, hp] at h
theorem write_ok4 {P : List PZ} {j : Nat} {k : List Int} (h : (writeP P j k).2.2 = 0) : checkZs P = 0 := by
  by_cases hp : pre P j = 0
  · exact (pre_plain hp).1
  · simp [writeP, hp] at h

end Go.Proofs.Ytaambknbbhjdnaa
