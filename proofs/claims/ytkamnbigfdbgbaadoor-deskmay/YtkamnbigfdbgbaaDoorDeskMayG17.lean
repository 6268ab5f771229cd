/- A right book stays right, whatever is done, and nobody but by Preempt and Clear takes it from the holder: plain; no condition. -/
import Derived.Test.YtkamnbigfdbgbaaDoorDeskMayG16
import Derived.Test.YtkamnbigfdbgbaaDoorDeskMayG4
import Derived.Test.YtkamnbigfdbgbaaDoorDeskMayG8
namespace Go.Proofs.YtkamnbigfdbgbaaDoor
open Go.RowKit
set_option linter.unusedVariables false
set_option maxRecDepth 100000
set_option linter.unusedSimpArgs false

/-- What the law asks of what was made of b by hand j. -/
def Kept (b c : PB) (j : Nat) : Prop := checkB c = 0 ∧ (0 ≤ b.h → b.h ≠ j → c.h = b.h ∧ c.t = b.t)

theorem right_three {b : PB} (h : checkB b = 0) : ∃ x y z hh tt, b = ⟨[x, y, z], hh, tt⟩ ∧ (0 ≤ x ∧ x ≤ 9) ∧ (0 ≤ y ∧ y ≤ 9) ∧ (0 ≤ z ∧ z ≤ 9) ∧ (hh = -1 ∧ tt = 0 ∨ (1 ≤ tt ∧ tt ≤ 4) ∧ (hh = 0 ∧ x ≠ 0 ∨ hh = 1 ∧ y ≠ 0 ∨ hh = 2 ∧ z ≠ 0)) := by
  obtain ⟨x, y, z, e, hx, hy, hz, hs⟩ := checkB_ok h
  obtain ⟨l, hh, tt⟩ := b
  dsimp only at e hs
  subst e
  refine ⟨x, y, z, hh, tt, rfl, hx, hy, hz, ?_⟩
  rcases hs with hs | ⟨e | e | e, h2, h3⟩
  · exact .inl hs
  all_goals
    subst e
    refine .inr ⟨h2, ?_⟩
    simp [keyOf] at h3
    simp [h3]
theorem three_right {x y z hh tt : Int} (hx : 0 ≤ x ∧ x ≤ 9) (hy : 0 ≤ y ∧ y ≤ 9) (hz : 0 ≤ z ∧ z ≤ 9) (hs : hh = -1 ∧ tt = 0 ∨ (1 ≤ tt ∧ tt ≤ 4) ∧ (hh = 0 ∧ x ≠ 0 ∨ hh = 1 ∧ y ≠ 0 ∨ hh = 2 ∧ z ≠ 0)) : checkB ⟨[x, y, z], hh, tt⟩ = 0 := by
  refine checkB_mk hx hy hz ?_
  rcases hs with hs | ⟨h2, ⟨e, h3⟩ | ⟨e, h3⟩ | ⟨e, h3⟩⟩
  · exact .inl hs
  all_goals
    subst e
    refine .inr ⟨by omega, h2, ?_⟩
    simpa [keyOf] using h3

theorem reg_kept {b : PB} {j : Nat} {key : Int} (hc : checkB b = 0) (hj : j < 3) (h : (registerB b j key).2 = 0) : Kept b (registerB b j key).1 j := by
  obtain ⟨x, y, z, hh, tt, rfl, hx, hy, hz, hs⟩ := right_three hc
  cases hk : inB key 0 9
  · simp [registerB, preB_mk hc hj, hk] at h
  · have hkr : 0 ≤ key ∧ key ≤ 9 := by simp [inB] at hk; omega
    by_cases hz0 : key = 0 ∧ hh = j
    · have e : registerB ⟨[x, y, z], hh, tt⟩ j key = (⟨[x, y, z].set j key, -1, 0⟩, 0) := by unfold registerB; rw [preB_mk hc hj, hk]; simp [hz0]
      rw [e]
      refine ⟨?_, fun _ h2 => absurd hz0.2 h2⟩
      rcases (by omega : j = 0 ∨ j = 1 ∨ j = 2) with rfl | rfl | rfl <;> exact three_right (by omega) (by omega) (by omega) (.inl ⟨rfl, rfl⟩)
    · have e : registerB ⟨[x, y, z], hh, tt⟩ j key = (⟨[x, y, z].set j key, hh, tt⟩, 0) := by unfold registerB; rw [preB_mk hc hj, hk]; simp [hz0]
      rw [e]
      refine ⟨?_, fun _ _ => ⟨rfl, rfl⟩⟩
      rcases (by omega : j = 0 ∨ j = 1 ∨ j = 2) with rfl | rfl | rfl <;> exact three_right (by omega) (by omega) (by omega) (by simp at hz0; omega)

theorem res_kept {b : PB} {j : Nat} {kd : Int} (hc : checkB b = 0) (hj : j < 3) (h : (reserveB b j kd).2 = 0) : Kept b (reserveB b j kd).1 j := by
  obtain ⟨x, y, z, e, hc2, _, _, _⟩ := reserve_ok h
  refine ⟨by rw [e]; exact hc2, fun h1 h2 => ?_⟩
  exfalso
  cases hk : inB kd 1 4
  · simp [reserveB, preB_mk hc hj, hk] at h
  · unfold reserveB at h
    rw [preB_mk hc hj, hk] at h
    simp only [ne_eq, not_true_eq_false, if_false, Bool.true_eq_false] at h
    rw [if_pos (.inr ⟨by omega, fun e => h2 e.1⟩)] at h
    simp at h

theorem rel_kept {b : PB} {j : Nat} (hc : checkB b = 0) (hj : j < 3) (h : (releaseB b j).2 = 0) : Kept b (releaseB b j).1 j := by
  obtain ⟨x, y, z, hh, tt, rfl, hx, hy, hz, hs⟩ := right_three hc
  by_cases hk : keyOf ⟨[x, y, z], hh, tt⟩ j = 0
  · simp [releaseB, preB_mk hc hj, hk] at h
  · by_cases hh' : hh = j
    · have e : releaseB ⟨[x, y, z], hh, tt⟩ j = (⟨[x, y, z], -1, 0⟩, 0) := by unfold releaseB; rw [preB_mk hc hj, if_neg (by simp), if_neg hk, if_pos hh']
      rw [e]
      exact ⟨three_right hx hy hz (.inl ⟨rfl, rfl⟩), fun _ h2 => absurd hh' h2⟩
    · have e : releaseB ⟨[x, y, z], hh, tt⟩ j = (⟨[x, y, z], hh, tt⟩, 0) := by unfold releaseB; rw [preB_mk hc hj, if_neg (by simp), if_neg hk, if_neg hh']
      rw [e]
      exact ⟨hc, fun _ _ => ⟨rfl, rfl⟩⟩

theorem pre_kept {b : PB} {j : Nat} {key : Int} (hc : checkB b = 0) (hj : j < 3) (h : (preemptB b j key).2 = 0) : checkB (preemptB b j key).1 = 0 := by
  obtain ⟨x, y, z, hh, tt, rfl, hx, hy, hz, hs⟩ := right_three hc
  cases hin : inB key 1 9
  · simp [preemptB, preB_mk hc hj, hin] at h
  · by_cases hk : keyOf ⟨[x, y, z], hh, tt⟩ j = 0
    · simp [preemptB, preB_mk hc hj, hin, hk] at h
    · have hkr : 1 ≤ key ∧ key ≤ 9 := by simp [inB] at hin; omega
      have e : preemptB ⟨[x, y, z], hh, tt⟩ j key = (⟨strike [x, y, z] j key, if hh ≠ -1 ∧ hh ≠ j ∧ keyOf ⟨[x, y, z], hh, tt⟩ hh = key then (j : Int) else hh, tt⟩, 0) := by
        unfold preemptB
        rw [preB_mk hc hj, hin, if_neg (by simp), if_neg (by simp), if_neg hk]
      rw [e]
      have hst : strike [x, y, z] j key = [if x = key ∧ (0 : Int) ≠ j then 0 else x, if y = key ∧ (1 : Int) ≠ j then 0 else y, if z = key ∧ (2 : Int) ≠ j then 0 else z] := by simp [strike, List.mapIdx_cons]
      dsimp only
      rw [hst]
      rcases hs with ⟨rfl, rfl⟩ | ⟨ht, ⟨rfl, hq⟩ | ⟨rfl, hq⟩ | ⟨rfl, hq⟩⟩
      all_goals
        rcases (by omega : j = 0 ∨ j = 1 ∨ j = 2) with rfl | rfl | rfl
        all_goals
          simp [keyOf] at hk ⊢
          refine three_right ?_ ?_ ?_ ?_
          all_goals grind

theorem clr_kept {b : PB} {j : Nat} (hc : checkB b = 0) (hj : j < 3) (h : (clearB b j).2 = 0) : checkB (clearB b j).1 = 0 := by
  by_cases hk : keyOf b j = 0
  · simp [clearB, preB_mk hc hj, hk] at h
  · rw [show clearB b j = (freshB, 0) by simp [clearB, preB_mk hc hj, hk]]
    rfl

end Go.Proofs.YtkamnbigfdbgbaaDoor

/- A right desk stays right, an answer is a right one, who may not write changes no zone, what was written is read where it was told: plain; no condition. -/
namespace Go.Proofs.YtkamnbigfdbgbaaDoor
open Go.RowKit
set_option linter.unusedVariables false
set_option maxRecDepth 100000
set_option linter.unusedSimpArgs false

theorem checkD_ok {d : PD} (h : checkD d = 0) : checkZs d.P = 0 ∧ checkB d.b = 0 := by
  unfold checkD at h
  by_cases hz : checkZs d.P = 0
  · simp [hz] at h; exact ⟨hz, h⟩
  · simp [hz] at h
theorem checkD_mk {d : PD} (h : checkZs d.P = 0) (k : checkB d.b = 0) : checkD d = 0 := by simp [checkD, h, k]
theorem doE_ok {d : PD} {who : Int} {c : PC} (h : doE d who c = 0) : checkD d = 0 ∧ (∃ j : Nat, who = j ∧ j < 3) ∧ checkC c = 0 := by
  unfold doE at h
  by_cases hd : checkD d = 0
  · simp [hd] at h
    cases hw : inB who 0 2
    · simp [hw] at h
    · simp [hw] at h
      have : 0 ≤ who ∧ who ≤ 2 := by simp [inB] at hw; omega
      exact ⟨hd, ⟨who.toNat, by omega, by omega⟩, h⟩
  · simp [hd] at h
theorem doE_mk {d : PD} {j : Nat} {c : PC} (hd : checkD d = 0) (hj : j < 3) (hc : checkC c = 0) : doE d j c = 0 := by
  have : inB (j : Int) 0 2 = true := by simp [inB]; omega
  simp [doE, hd, this, hc]

/-- What is known of a right command. -/
theorem cmd_facts {c : PC} (h : checkC c = 0) : (1 ≤ c.k ∧ c.k ≤ 12) ∧ (0 ≤ c.z ∧ c.z ≤ 999) ∧ (0 ≤ c.at' ∧ c.at' ≤ 999) ∧ (0 ≤ c.n ∧ c.n ≤ 999) ∧ c.d.length ≤ 8 ∧ c.d.any (outB 0 999) = false ∧ (hasD c.k = true ↔ c.d ≠ []) := by
  unfold checkC at h
  split at h
  · omega
  · rename_i h1
    split at h
    · omega
    · split at h
      · omega
      · rename_i h3
        split at h
        · omega
        · rename_i h4
          split at h
          · omega
          · rename_i h5
            simp only [not_or, Bool.not_eq_true] at h5
            refine ⟨?_, ?_, ?_, ?_, by omega, h5.2.2.2, ?_⟩
            · simp [outB] at h1; omega
            · have := h5.1; simp [outB] at this; omega
            · have := h5.2.1; simp [outB] at this; omega
            · have := h5.2.2.1; simp [outB] at this; omega
            · cases hd : hasD c.k <;> by_cases e : c.d = [] <;> simp_all

theorem pre_or {P : List PZ} (h : checkZs P = 0) (k : Int) : pre P k = 0 ∨ pre P k = 5 := by
  unfold pre
  simp only [h]
  cases inB k 0 3 <;> simp
theorem writeE_or {s : Int} {l k : List Int} (h : checkZ s l = 0) : writeE s l k = 0 ∨ writeE s l k = 2 ∨ writeE s l k = 3 ∨ writeE s l k = 7 := by
  unfold writeE
  simp only [h]
  simp only [ne_eq, not_true_eq_false, if_false]
  split
  · simp
  · split
    · simp
    · split <;> simp
theorem readE_or {s : Int} {l : List Int} {p n : Int} (h : checkZ s l = 0) : readE s l p n = 0 ∨ readE s l p n = 3 ∨ readE s l p n = 6 := by
  unfold readE
  simp only [h]
  simp only [ne_eq, not_true_eq_false, if_false]
  split
  · simp
  · split <;> simp

theorem checkA_err {e : Int} (h : 0 ≤ e ∧ e ≤ 9) : checkA (errA e) = 0 := by
  have h1 : outB 0 9 e = false := by simp [outB]; omega
  unfold checkA errA
  simp only
  rw [if_neg (by rw [h1]; simp [outB]), if_neg (by simp), if_neg (by simp), if_neg (by simp)]
theorem checkA_at {t : Int} (h : 0 ≤ t ∧ t ≤ 7) : checkA ⟨0, t, []⟩ = 0 := by
  have h1 : outB 0 7 t = false := by simp [outB]; omega
  unfold checkA
  simp only
  rw [if_neg (by rw [h1]; simp [outB]), if_neg (by simp), if_neg (by simp), if_neg (by simp)]

theorem hold_e {P : List PZ} (h : checkZs P = 0) (k : Int) : 0 ≤ (holdP P k).2 ∧ (holdP P k).2 ≤ 9 := by
  unfold holdP
  rcases pre_or h k with e | e
  · simp only [e]
    simp only [ne_eq, not_true_eq_false, if_false]
    cases roomP P (at' P k).1 <;> simp
  · simp [e]
theorem close_e {P : List PZ} (h : checkZs P = 0) (k : Int) : 0 ≤ (closeP P k).2 ∧ (closeP P k).2 ≤ 9 := by
  unfold closeP
  rcases pre_or h k with e | e
  · simp only [e]
    simp only [ne_eq, not_true_eq_false, if_false]
    split <;> simp
  · simp [e]
theorem finish_e {P : List PZ} (h : checkZs P = 0) (k : Int) : 0 ≤ (finishP P k).2 ∧ (finishP P k).2 ≤ 9 := by
  unfold finishP
  rcases pre_or h k with e | e <;> simp [e]
theorem reset_e {P : List PZ} (h : checkZs P = 0) (k : Int) : 0 ≤ (resetP P k).2 ∧ (resetP P k).2 ≤ 9 := by
  unfold resetP
  rcases pre_or h k with e | e <;> simp [e]
theorem zoneDo_e {P : List PZ} (h : checkZs P = 0) (c : PC) : 0 ≤ (zoneDo P c).2 ∧ (zoneDo P c).2 ≤ 9 := by
  unfold zoneDo
  split
  · exact hold_e h _
  · split
    · exact close_e h _
    · split
      · exact finish_e h _
      · exact reset_e h _
theorem at_mem {P : List PZ} {k : Int} (hp : pre P k = 0) : at' P k ∈ P := by
  obtain ⟨_, j, _, _, hz⟩ := pre_plain hp
  exact List.mem_of_getElem? hz
theorem write_e {P : List PZ} (h : checkZs P = 0) (k : Int) (data : List Int) : 0 ≤ (writeP P k data).2.2 ∧ (writeP P k data).2.2 ≤ 9 := by
  unfold writeP
  rcases pre_or h k with e | e
  · have hz := (checkZs_ok h).2.1 _ (at_mem e)
    simp only [e]
    simp only [ne_eq, not_true_eq_false, if_false]
    rcases writeE_or (k := data) hz with q | q | q | q
    · simp only [q]
      simp only [ne_eq, not_true_eq_false, if_false]
      cases roomP P (at' P k).1 <;> simp
    all_goals simp [q]
  · simp [e]

theorem bookDo_e {b : PB} {j : Nat} (h : checkB b = 0) (hj : j < 3) (c : PC) : 0 ≤ (bookDo b j c).2 ∧ (bookDo b j c).2 ≤ 9 := by
  have hp := preB_mk h hj
  unfold bookDo registerB reserveB releaseB preemptB clearB
  simp only [hp]
  simp only [ne_eq, not_true_eq_false, if_false]
  grind
theorem bookDo_ok {b : PB} {j : Nat} (h : checkB b = 0) (hj : j < 3) (c : PC) (he : (bookDo b j c).2 = 0) : checkB (bookDo b j c).1 = 0 := by
  unfold bookDo at *
  split
  · rename_i e; simp only [e, if_true] at he; exact (reg_kept h hj he).1
  · rename_i e; simp only [e, if_false] at he
    split
    · rename_i e2; simp only [e2, if_true] at he; exact (res_kept h hj he).1
    · rename_i e2; simp only [e2, if_false] at he
      split
      · rename_i e3; simp only [e3, if_true] at he; exact (rel_kept h hj he).1
      · rename_i e3; simp only [e3, if_false] at he
        split
        · rename_i e4; simp only [e4, if_true] at he; exact pre_kept h hj he
        · rename_i e4; simp only [e4, if_false] at he; exact clr_kept h hj he

theorem pre_of_two {P : List PZ} {k : Int} {α : Type} {f : Int → α × Int} (h : pre P k ≠ 0 → (f k).2 = pre P k) (he : (f k).2 = 0) : pre P k = 0 := by
  by_cases hp : pre P k = 0
  · exact hp
  · rw [h hp] at he; exact he
theorem pair_of {α : Type} {x : α × Int} (h : x.2 = 0) : x = (x.1, 0) := by rw [← h]
theorem zoneDo_ok {P : List PZ} (c : PC) (he : (zoneDo P c).2 = 0) : checkZs (zoneDo P c).1 = 0 := by
  unfold zoneDo at *
  split
  · rename_i e; simp only [e, if_true] at he
    have hp : pre P c.z = 0 := pre_of_two (f := holdP P) (fun h => by simp [holdP, h]) he
    obtain ⟨_, j, hj, _, _⟩ := pre_plain hp
    rw [hj] at he ⊢
    exact (hold_law (pair_of he)).1
  · rename_i e; simp only [e, if_false] at he
    split
    · rename_i e2; simp only [e2, if_true] at he
      have hp : pre P c.z = 0 := pre_of_two (f := closeP P) (fun h => by simp [closeP, h]) he
      obtain ⟨_, j, hj, _, _⟩ := pre_plain hp
      rw [hj] at he ⊢
      exact (close_law (pair_of he)).1
    · rename_i e2; simp only [e2, if_false] at he
      split
      · rename_i e3; simp only [e3, if_true] at he
        have hp : pre P c.z = 0 := pre_of_two (f := finishP P) (fun h => by simp [finishP, h]) he
        obtain ⟨_, j, hj, _, _⟩ := pre_plain hp
        rw [hj] at he ⊢
        exact (finish_law (pair_of he)).1
      · rename_i e3; simp only [e3, if_false] at he
        have hp : pre P c.z = 0 := pre_of_two (f := resetP P) (fun h => by simp [resetP, h]) he
        obtain ⟨_, j, hj, _, _⟩ := pre_plain hp
        rw [hj] at he ⊢
        exact (reset_law (pair_of he)).1

theorem write_pre {P : List PZ} {k : Int} {data : List Int} (he : (writeP P k data).2.2 = 0) : pre P k = 0 := by
  by_cases hp : pre P k = 0
  · exact hp
  · simp [writeP, hp] at he
/-- What is known where something was written. -/
theorem write_known {P : List PZ} {k : Int} {data : List Int} (he : (writeP P k data).2.2 = 0) :
    checkZs (writeP P k data).1 = 0 ∧ (writeP P k data).2.1 = (at' P k).2.length ∧ (0 ≤ k ∧ k ≤ 3) ∧ at' (writeP P k data).1 k = (writeS (at' P k).1 ((at' P k).2.length + data.length), (at' P k).2 ++ data) ∧ writeE (at' P k).1 (at' P k).2 data = 0 := by
  have hp := write_pre he
  obtain ⟨hc, j, rfl, hj, _⟩ := pre_plain hp
  have e : writeP P j data = ((writeP P j data).1, (writeP P j data).2.1, 0) := by rw [← he]
  obtain ⟨h1, _, h3, h4, h5⟩ := write_law e
  refine ⟨h1, h3, by omega, ?_, h5⟩
  simp [at', List.getD, h4]

/-- What a right command of a hand that is there does at a right desk: all that the laws ask. -/
structure Right (d : PD) (who : Int) (x : PD) (a : PA) : Prop where
  desk : checkD x = 0
  ans : checkA a = 0
  err : a.e ≠ 0 → x = d
  may : mightB d.b who true = false → x.P = d.P

theorem done_right {d : PD} {j : Nat} {c : PC} (hd : checkD d = 0) (hj : j < 3) (hc : checkC c = 0) : Right d j (doneD d j c).1 (doneD d j c).2 := by
  obtain ⟨hz, hb⟩ := checkD_ok hd
  obtain ⟨hk, hcz, hca, hcn, hdl, hda, _⟩ := cmd_facts hc
  unfold doneD
  by_cases h8 : 8 ≤ c.k
  · simp only [h8, if_true]
    by_cases he : (bookDo d.b j c).2 = 0
    · simp only [he, ne_eq, not_true_eq_false, if_false]
      exact ⟨checkD_mk hz (bookDo_ok hb hj c he), by decide, fun h => absurd rfl h, fun _ => rfl⟩
    · simp only [he, ne_eq, not_false_eq_true, if_true]
      exact ⟨hd, checkA_err (bookDo_e hb hj c), fun _ => rfl, fun _ => rfl⟩
  · simp only [h8, if_false]
    cases hm : mightB d.b j (c.k != 7)
    · simp only [if_true]
      exact ⟨hd, checkA_err (by omega), fun _ => rfl, fun _ => rfl⟩
    · simp only [Bool.true_eq_false, if_false]
      by_cases h7 : c.k = 7
      · simp only [h7, if_true]
        refine ⟨hd, ?_, fun _ => rfl, fun _ => rfl⟩
        unfold readD
        cases hin : inB c.z 0 3
        · simp only [if_true]
          exact checkA_err (by omega)
        · simp only [Bool.true_eq_false, if_false]
          have hp : pre d.P c.z = 0 := by simp [pre, hz, hin]
          have hzc := (checkZs_ok hz).2.1 _ (at_mem hp)
          obtain ⟨_, _, hl, ha, _⟩ := checkZ_len hzc
          by_cases hr : readE (at' d.P c.z).1 (at' d.P c.z).2 c.at' c.n = 0
          · rw [show rL (at' d.P c.z).1 (at' d.P c.z).2 c.at' c.n = ((at' d.P c.z).2.drop c.at'.toNat).take c.n.toNat by simp [rL, hr], hr]
            have h1 : (((at' d.P c.z).2.drop c.at'.toNat).take c.n.toNat).any (outB 0 999) = false := any_take_false _ _ _ (any_drop_false _ _ _ ha)
            have h2 : (((at' d.P c.z).2.drop c.at'.toNat).take c.n.toNat).length ≤ 8 := by simp; omega
            generalize ((at' d.P c.z).2.drop c.at'.toNat).take c.n.toNat = L at h1 h2
            unfold checkA
            simp only
            rw [if_neg (by simp [outB]), if_neg (by omega), if_neg (by rw [h1]; simp), if_neg (by simp)]
          · rw [show rL (at' d.P c.z).1 (at' d.P c.z).2 c.at' c.n = [] by simp [rL, hr]]
            refine checkA_err ?_
            rcases readE_or (p := c.at') (n := c.n) hzc with q | q | q <;> omega
      · simp only [h7, if_false]
        have hwt : (c.k != 7) = true := by simpa using h7
        rw [hwt] at hm
        have hmay : mightB d.b j true = false → ∀ x : PD, x.P = d.P := fun h => by rw [hm] at h; cases h
        by_cases h56 : c.k = 5 ∨ c.k = 6
        · simp only [h56, if_true]
          unfold writeD
          split
          · exact ⟨hd, checkA_err (by omega), fun _ => rfl, fun _ => rfl⟩
          · by_cases he : (writeP d.P c.z c.d).2.2 = 0
            · simp only [he, ne_eq, not_true_eq_false, if_false]
              obtain ⟨k1, k2, k3, k4, k5⟩ := write_known he
              obtain ⟨_, w1, w2, _, _⟩ := writeE_ok k5
              exact ⟨checkD_mk k1 hb, checkA_at (by rw [k2]; omega), fun h => absurd rfl h, fun h => hmay h _⟩
            · simp only [he, ne_eq, not_false_eq_true, if_true]
              exact ⟨hd, checkA_err (write_e hz _ _), fun _ => rfl, fun _ => rfl⟩
        · simp only [h56, if_false]
          by_cases he : (zoneDo d.P c).2 = 0
          · simp only [he, ne_eq, not_true_eq_false, if_false]
            exact ⟨checkD_mk (zoneDo_ok c he) hb, by decide, fun h => absurd rfl h, fun h => hmay h _⟩
          · simp only [he, ne_eq, not_false_eq_true, if_true]
            exact ⟨hd, checkA_err (zoneDo_e hz c), fun _ => rfl, fun _ => rfl⟩

/-- The command that reads what was written. -/
def backC (c : PC) (t : Int) : PC := ⟨7, c.z, c.d.length, t, []⟩

theorem wrote_back {d : PD} {j r : Nat} {c : PC} (hd : checkD d = 0) (hj : j < 3) (hr : r < 3) (hc : checkC c = 0) (hk : c.k = 5 ∨ c.k = 6) (he : (doneD d j c).2.e = 0) :
    doE (doneD d j c).1 r (backC c (doneD d j c).2.t) = 0 ∧
    doneD (doneD d j c).1 r (backC c (doneD d j c).2.t) = ((doneD d j c).1, if mightB (doneD d j c).1.b r false = true then ⟨0, 0, c.d⟩ else errA 8) := by
  have hR := done_right hd hj hc
  obtain ⟨hz, hb⟩ := checkD_ok hd
  obtain ⟨hkk, hcz, hca, hcn, hdl, hda, _⟩ := cmd_facts hc
  have h8 : ¬ 8 ≤ c.k := by omega
  have h7 : ¬ c.k = 7 := by omega
  have key : ∃ t : Int, doneD d j c = (⟨(writeP d.P c.z c.d).1, d.b⟩, ⟨0, t, []⟩) ∧ (writeP d.P c.z c.d).2.2 = 0 ∧ t = (writeP d.P c.z c.d).2.1 := by
    unfold doneD at he ⊢
    simp only [h8, if_false] at he ⊢
    cases hm : mightB d.b j (c.k != 7)
    · simp [hm, errA] at he
    · simp only [hm, Bool.true_eq_false, if_false, h7, hk, if_true] at he ⊢
      unfold writeD at he ⊢
      split at he
      · simp [errA] at he
      · by_cases he2 : (writeP d.P c.z c.d).2.2 = 0
        · rename_i h6
          rw [if_neg h6, if_neg (by simp [he2])]
          exact ⟨_, rfl, he2, rfl⟩
        · simp [he2, errA] at he
  obtain ⟨t, hk1, hk2, hk3⟩ := key
  rw [hk1] at hR ⊢
  dsimp only
  obtain ⟨k1, k2, k3, k4, k5⟩ := write_known hk2
  obtain ⟨w0, w1, w2, w3, w4⟩ := writeE_ok k5
  have ht : t = (at' d.P c.z).2.length := by rw [hk3, k2]
  have hcc : checkC (backC c t) = 0 := by
    unfold checkC backC
    simp only
    have e1 : outB 0 999 c.z = false := by simp [outB]; omega
    have e2 : outB 0 999 t = false := by simp [outB]; omega
    have e3 : outB 0 999 (c.d.length : Int) = false := by simp [outB]; omega
    rw [if_neg (by decide), if_neg (by simp [hasZ, hasA, hasN]), if_neg (by simp [hasD]), if_neg (by simp), if_neg (by rw [e1, e2, e3]; simp)]
  refine ⟨doE_mk hR.desk hr hcc, ?_⟩
  unfold doneD
  simp only [backC]
  rw [if_neg (by omega)]
  simp only [show ((7 : Int) != 7) = false by rfl]
  cases hm : mightB d.b r false
  · simp
  · simp only [Bool.true_eq_false, if_false, if_true]
    unfold readD
    simp only
    have hin : inB c.z 0 3 = true := by simp [inB]; omega
    rw [hin]
    simp only [Bool.true_eq_false, if_false]
    rw [k4]
    simp only
    have hz' := (checkZs_ok k1).2.1 _ (at_mem (P := (writeP d.P c.z c.d).1) (k := c.z) (by simp [pre, k1, hin]))
    rw [k4] at hz'
    have hre : readE (writeS (at' d.P c.z).1 ((at' d.P c.z).2.length + c.d.length)) ((at' d.P c.z).2 ++ c.d) t c.d.length = 0 := readE_zero hz' (by omega) (by omega) (by rw [ht]; simp)
    rw [show rL (writeS (at' d.P c.z).1 ((at' d.P c.z).2.length + c.d.length)) ((at' d.P c.z).2 ++ c.d) t c.d.length = c.d by
      unfold rL
      rw [if_pos hre, ht]
      simp, hre]

end Go.Proofs.YtkamnbigfdbgbaaDoor
