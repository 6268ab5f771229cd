/- What comes of reserving and registering, plain; no condition. -/
import Derived.Test.YtogpbihmofbfjaaK0
namespace Go.Proofs.Ytogpbihmofbfjaa
open Go.RowKit
set_option linter.unusedVariables false
set_option maxRecDepth 100000
set_option linter.unusedSimpArgs false

theorem checkB_mk {x y z h t : Int} (hx : 0 ≤ x ∧ x ≤ 9) (hy : 0 ≤ y ∧ y ≤ 9) (hz : 0 ≤ z ∧ z ≤ 9) (hs : h = -1 ∧ t = 0 ∨ (h = 0 ∨ h = 1 ∨ h = 2) ∧ (1 ≤ t ∧ t ≤ 4) ∧ keyOf ⟨[x, y, z], h, t⟩ h ≠ 0) : checkB ⟨[x, y, z], h, t⟩ = 0 := by
  refine checkB_0 rfl ?_ ?_
  · simp [outB]
    omega
  · rcases hs with ⟨rfl, rfl⟩ | ⟨h1, h2, h3⟩
    · simp
    · dsimp only
      have : ¬ h = -1 := by omega
      have : ¬ t = 0 := by omega
      simp [*]

theorem pre0 {b : PB} {who : Int} (h : preB b who = 0) : checkB b = 0 ∧ ∃ j : Nat, who = j ∧ j < 3 := by
  unfold preB at h
  by_cases hc : checkB b = 0
  · simp [hc] at h
    refine ⟨hc, who.toNat, ?_, ?_⟩ <;> simp [inB] at h <;> omega
  · simp [hc] at h
theorem preB_mk {b : PB} {j : Nat} (h : checkB b = 0) (hj : j < 3) : preB b j = 0 := by
  simp [preB, h, inB]
  omega

theorem reserve_ok {b : PB} {j : Nat} {kd : Int} (h : (reserveB b j kd).2 = 0) :
    ∃ x y z, reserveB b j kd = (⟨[x, y, z], j, kd⟩, 0) ∧ checkB ⟨[x, y, z], j, kd⟩ = 0 ∧ (1 ≤ kd ∧ kd ≤ 4) ∧ j < 3 ∧ [x, y, z].getD j 0 ≠ 0 := by
  by_cases hp : preB b j = 0
  · obtain ⟨hc, j', ej, hj⟩ := pre0 hp
    obtain rfl : j = j' := by omega
    obtain ⟨x, y, z, e, hx, hy, hz, _⟩ := checkB_ok hc
    cases hk : inB kd 1 4
    · simp [reserveB, hp, hk] at h
    · by_cases hno : keyOf b j = 0 ∨ b.h ≠ -1 ∧ ¬ (b.h = j ∧ b.t = kd)
      · unfold reserveB at h
        rw [hp, hk] at h
        simp only [ne_eq, not_true_eq_false, if_false, Bool.true_eq_false] at h
        rw [if_pos hno] at h
        simp at h
      · have hr : reserveB b j kd = (⟨[x, y, z], j, kd⟩, 0) := by
          unfold reserveB
          rw [hp, hk]
          simp only [ne_eq, not_true_eq_false, if_false, Bool.true_eq_false]
          rw [if_neg hno, e]
        have hkey : [x, y, z].getD j 0 ≠ 0 := fun e2 => hno (.inl (by unfold keyOf; rw [e]; exact e2))
        have hkd : 1 ≤ kd ∧ kd ≤ 4 := by simp [inB] at hk; omega
        refine ⟨x, y, z, hr, checkB_mk hx hy hz (.inr ⟨by omega, hkd, ?_⟩), hkd, hj, hkey⟩
        unfold keyOf
        simpa using hkey
  · simp [reserveB, hp] at h

theorem may_ok {b : PB} {k : Nat} (h : checkB b = 0) (hk : k < 3) (wt : Bool) : mayB b k wt = (mightB b k wt, 0) := by
  simp [mayB, preB_mk h hk]

theorem again_ok {x y z kd : Int} {j : Nat} (hc : checkB ⟨[x, y, z], j, kd⟩ = 0) (hj : j < 3) (hkd : 1 ≤ kd ∧ kd ≤ 4) (hkey : [x, y, z].getD j 0 ≠ 0) : reserveB ⟨[x, y, z], j, kd⟩ j kd = (⟨[x, y, z], j, kd⟩, 0) := by
  have hin : inB kd 1 4 = true := by simp [inB]; omega
  have hk : ¬ keyOf ⟨[x, y, z], j, kd⟩ j = 0 := by unfold keyOf; simpa using hkey
  unfold reserveB
  rw [preB_mk hc hj, hin]
  simp [hk]

theorem reg_ok {x y z kd : Int} {j : Nat} {key : Int} (hc : checkB ⟨[x, y, z], j, kd⟩ = 0) (hj : j < 3) (hkey : 1 ≤ key ∧ key ≤ 9) : registerB ⟨[x, y, z], j, kd⟩ j key = (⟨[x, y, z].set j key, j, kd⟩, 0) := by
  have hin : inB key 0 9 = true := by simp [inB]; omega
  have h0 : ¬ key = 0 := by omega
  unfold registerB
  rw [preB_mk hc hj, hin]
  simp [h0]

/-- Who writes beside the holder has a key. -/
theorem might_alone {x y z kd : Int} {j k : Nat} (hkj : k ≠ j) (h0 : [x, y, z].getD k 0 = 0) : mightB ⟨[x, y, z], j, kd⟩ k true = false := by
  unfold mightB keyOf
  have h1 : ¬ ((j : Int) = k) := by omega
  have h2 : ¬ ((j : Int) = -1) := by omega
  simp [h1, h2]
  intro _
  simpa using h0
theorem might_holder {x y z kd : Int} {j : Nat} {wt : Bool} : mightB ⟨[x, y, z], j, kd⟩ j wt = true := by simp [mightB]

end Go.Proofs.Ytogpbihmofbfjaa
