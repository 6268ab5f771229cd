/- A right book stays right, whatever is done, and nobody but by Preempt and Clear takes it from the holder: plain; no condition. -/
import Derived.Test.YtogpbihmofbfjaaKP
namespace Go.Proofs.Ytogpbihmofbfjaa
open Go.RowKit
set_option linter.unusedVariables false
set_option maxRecDepth 100000
set_option linter.unusedSimpArgs false

/-- What the law asks of what was made of b by hand j. -/
def Kept (b c : PB) (j : Nat) : Prop := checkB c = 0 ∧ (0 ≤ b.h → b.h ≠ j → c.h = b.h ∧ c.t = b.t)

theorem right_three {b : PB} (h : checkB b = 0) : ∃ x y z hh tt, b = ⟨[x, y, z], hh, tt⟩ ∧ (0 ≤ x ∧ x ≤ 9) ∧ (0 ≤ y ∧ y ≤ 9) ∧ (0 ≤ z ∧ z ≤ 9) ∧ (hh = -1 ∧ tt = 0 ∨ (1 ≤ tt ∧ tt ≤ 4) ∧ (hh = 0 ∧ x ≠ 0 ∨ hh = 1 ∧ y ≠ 0 ∨ hh = 2 ∧ z ≠ 0)) := by
  obtain ⟨x, y, z, e, hx, hy, hz, hs⟩ := checkB_ok h
  obtain ⟨l, hh, tt⟩ := b
  dsimp only at e hs
  subst e
  refine ⟨x, y, z, hh, tt, rfl, hx, hy, hz, ?_⟩
  rcases hs with hs | ⟨e | e | e, h2, h3⟩
  · exact .inl hs
  all_goals
    subst e
    refine .inr ⟨h2, ?_⟩
    simp [keyOf] at h3
    simp [h3]
theorem three_right {x y z hh tt : Int} (hx : 0 ≤ x ∧ x ≤ 9) (hy : 0 ≤ y ∧ y ≤ 9) (hz : 0 ≤ z ∧ z ≤ 9) (hs : hh = -1 ∧ tt = 0 ∨ (1 ≤ tt ∧ tt ≤ 4) ∧ (hh = 0 ∧ x ≠ 0 ∨ hh = 1 ∧ y ≠ 0 ∨ hh = 2 ∧ z ≠ 0)) : checkB ⟨[x, y, z], hh, tt⟩ = 0 := by
  refine checkB_mk hx hy hz ?_
  rcases hs with hs | ⟨h2, ⟨e, h3⟩ | ⟨e, h3⟩ | ⟨e, h3⟩⟩
  · exact .inl hs
  all_goals
    subst e
    refine .inr ⟨by omega, h2, ?_⟩
    simpa [keyOf] using h3

theorem reg_kept {b : PB} {j : Nat} {key : Int} (hc : checkB b = 0) (hj : j < 3) (h : (registerB b j key).2 = 0) : Kept b (registerB b j key).1 j := by
  obtain ⟨x, y, z, hh, tt, rfl, hx, hy, hz, hs⟩ := right_three hc
  cases hk : inB key 0 9
  · simp [registerB, preB_mk hc hj, hk] at h
  · have hkr : 0 ≤ key ∧ key ≤ 9 := by simp [inB] at hk; omega
    by_cases hz0 : key = 0 ∧ hh = j
    · have e : registerB ⟨[x, y, z], hh, tt⟩ j key = (⟨[x, y, z].set j key, -1, 0⟩, 0) := by unfold registerB; rw [preB_mk hc hj, hk]; simp [hz0]
      rw [e]
      refine ⟨?_, fun _ h2 => absurd hz0.2 h2⟩
      rcases (by omega : j = 0 ∨ j = 1 ∨ j = 2) with rfl | rfl | rfl <;> exact three_right (by omega) (by omega) (by omega) (.inl ⟨rfl, rfl⟩)
    · have e : registerB ⟨[x, y, z], hh, tt⟩ j key = (⟨[x, y, z].set j key, hh, tt⟩, 0) := by unfold registerB; rw [preB_mk hc hj, hk]; simp [hz0]
      rw [e]
      refine ⟨?_, fun _ _ => ⟨rfl, rfl⟩⟩
      rcases (by omega : j = 0 ∨ j = 1 ∨ j = 2) with rfl | rfl | rfl <;> exact three_right (by omega) (by omega) (by omega) (by simp at hz0; omega)

theorem res_kept {b : PB} {j : Nat} {kd : Int} (hc : checkB b = 0) (hj : j < 3) (h : (reserveB b j kd).2 = 0) : Kept b (reserveB b j kd).1 j := by
  obtain ⟨x, y, z, e, hc2, _, _, _⟩ := reserve_ok h
  refine ⟨by rw [e]; exact hc2, fun h1 h2 => ?_⟩
  exfalso
  cases hk : inB kd 1 4
  · simp [reserveB, preB_mk hc hj, hk] at h
  · unfold reserveB at h
    rw [preB_mk hc hj, hk] at h
    simp only [ne_eq, not_true_eq_false, if_false, Bool.true_eq_false] at h
    rw [if_pos (.inr ⟨by omega, fun e => h2 e.1⟩)] at h
    simp at h

theorem rel_kept {b : PB} {j : Nat} (hc : checkB b = 0) (hj : j < 3) (h : (releaseB b j).2 = 0) : Kept b (releaseB b j).1 j := by
  obtain ⟨x, y, z, hh, tt, rfl, hx, hy, hz, hs⟩ := right_three hc
  by_cases hk : keyOf ⟨[x, y, z], hh, tt⟩ j = 0
  · simp [releaseB, preB_mk hc hj, hk] at h
  · by_cases hh' : hh = j
    · have e : releaseB ⟨[x, y, z], hh, tt⟩ j = (⟨[x, y, z], -1, 0⟩, 0) := by unfold releaseB; rw [preB_mk hc hj, if_neg (by simp), if_neg hk, if_pos hh']
      rw [e]
      exact ⟨three_right hx hy hz (.inl ⟨rfl, rfl⟩), fun _ h2 => absurd hh' h2⟩
    · have e : releaseB ⟨[x, y, z], hh, tt⟩ j = (⟨[x, y, z], hh, tt⟩, 0) := by unfold releaseB; rw [preB_mk hc hj, if_neg (by simp), if_neg hk, if_neg hh']
      rw [e]
      exact ⟨hc, fun _ _ => ⟨rfl, rfl⟩⟩

theorem pre_kept {b : PB} {j : Nat} {key : Int} (hc : checkB b = 0) (hj : j < 3) (h : (preemptB b j key).2 = 0) : checkB (preemptB b j key).1 = 0 := by
  obtain ⟨x, y, z, hh, tt, rfl, hx, hy, hz, hs⟩ := right_three hc
  cases hin : inB key 1 9
  · simp [preemptB, preB_mk hc hj, hin] at h
  · by_cases hk : keyOf ⟨[x, y, z], hh, tt⟩ j = 0
    · simp [preemptB, preB_mk hc hj, hin, hk] at h
    · have hkr : 1 ≤ key ∧ key ≤ 9 := by simp [inB] at hin; omega
      have e : preemptB ⟨[x, y, z], hh, tt⟩ j key = (⟨strike [x, y, z] j key, if hh ≠ -1 ∧ hh ≠ j ∧ keyOf ⟨[x, y, z], hh, tt⟩ hh = key then (j : Int) else hh, tt⟩, 0) := by
        unfold preemptB
        rw [preB_mk hc hj, hin, if_neg (by simp), if_neg (by simp), if_neg hk]
      rw [e]
      have hst : strike [x, y, z] j key = [if x = key ∧ (0 : Int) ≠ j then 0 else x, if y = key ∧ (1 : Int) ≠ j then 0 else y, if z = key ∧ (2 : Int) ≠ j then 0 else z] := by simp [strike, List.mapIdx_cons]
      dsimp only
      rw [hst]
      rcases hs with ⟨rfl, rfl⟩ | ⟨ht, ⟨rfl, hq⟩ | ⟨rfl, hq⟩ | ⟨rfl, hq⟩⟩
      all_goals
        rcases (by omega : j = 0 ∨ j = 1 ∨ j = 2) with rfl | rfl | rfl
        all_goals
          simp [keyOf] at hk ⊢
          refine three_right ?_ ?_ ?_ ?_
          all_goals grind

theorem clr_kept {b : PB} {j : Nat} (hc : checkB b = 0) (hj : j < 3) (h : (clearB b j).2 = 0) : checkB (clearB b j).1 = 0 := by
  by_cases hk : keyOf b j = 0
  · simp [clearB, preB_mk hc hj, hk] at h
  · rw [show clearB b j = (freshB, 0) by simp [clearB, preB_mk hc hj, hk]]
    rfl

/-- Who may write may read. -/
theorem might_read {b : PB} {k : Nat} (h : mightB b k true = true) : mightB b k false = true := by
  unfold mightB at *
  simp at h ⊢
  grind
theorem might_who {b : PB} {k : Nat} (h : (k : Int) = b.h ∨ b.h = -1) (wt : Bool) : mightB b k wt = true := by
  unfold mightB
  simp
  grind

end Go.Proofs.Ytogpbihmofbfjaa
