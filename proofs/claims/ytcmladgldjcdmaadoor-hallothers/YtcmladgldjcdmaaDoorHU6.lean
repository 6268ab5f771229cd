/- Plain laws of the yard: what is answered is right zones, and keeps what is written; no Go here. -/
import Derived.Test.YtcmladgldjcdmaaDoorHU4
import Derived.Test.YtcmladgldjcdmaaDoorHU5
import Derived.Test.YtcmladgldjcdmaaDoorHU2
namespace Go.Proofs.YtcmladgldjcdmaaDoor
open Go.RowKit
set_option linter.unusedVariables false
set_option maxRecDepth 100000
set_option linter.unusedSimpArgs false

theorem checkZs_ok {P : List PZ} (h : checkZs P = 0) : P.length = 4 ∧ (∀ z ∈ P, checkZ z.1 z.2 = 0) ∧ cntP isO P ≤ 2 ∧ cntP isA P ≤ 3 := by
  unfold checkZs at h
  by_cases h4 : P.length = 4
  · by_cases hf : firstE P = 0
    · by_cases hc : 2 < cntP isO P ∨ 3 < cntP isA P
      · simp [h4, hf, hc] at h
      · exact ⟨h4, firstE_all P hf, by omega, by omega⟩
    · simp [h4, hf] at h
  · simp [h4] at h

theorem firstE_mk : ∀ (P : List PZ), (∀ z ∈ P, checkZ z.1 z.2 = 0) → firstE P = 0
  | [], _ => rfl
  | z :: r, h => by
    simp only [firstE, h z (List.mem_cons_self ..)]
    simpa using firstE_mk r fun y hy => h y (List.mem_cons_of_mem _ hy)

theorem checkZs_mk {P : List PZ} (h4 : P.length = 4) (hz : ∀ z ∈ P, checkZ z.1 z.2 = 0) (ho : cntP isO P ≤ 2) (ha : cntP isA P ≤ 3) : checkZs P = 0 := by
  have hc : ¬ (2 < cntP isO P ∨ 3 < cntP isA P) := by omega
  simp only [checkZs, h4, firstE_mk P hz, hc]
  simp

theorem cntP_cons (f : Int → Bool) (z : PZ) (r : List PZ) : cntP f (z :: r) = (if f z.1 then 1 else 0) + cntP f r := by
  unfold cntP
  cases h : f z.1 <;> simp [List.filter_cons, h]
  omega

theorem cnt_set (f : Int → Bool) : ∀ (P : List PZ) (k : Nat) (y z : PZ), P[k]? = some y → cntP f (P.set k z) + (if f y.1 then 1 else 0) = cntP f P + (if f z.1 then 1 else 0)
  | [], k, y, z, h => by simp at h
  | x :: r, 0, y, z, h => by
    simp at h
    subst h
    rw [List.set_cons_zero, cntP_cons, cntP_cons]
    omega
  | x :: r, k + 1, y, z, h => by
    simp at h
    have := cnt_set f r k y z h
    rw [List.set_cons_succ, cntP_cons, cntP_cons]
    omega

theorem mem_set_check {P : List PZ} {k : Nat} {z : PZ} (h : ∀ y ∈ P, checkZ y.1 y.2 = 0) (hz : checkZ z.1 z.2 = 0) : ∀ y ∈ P.set k z, checkZ y.1 y.2 = 0 := by
  intro y hy
  rcases List.mem_or_eq_of_mem_set hy with hy | rfl
  · exact h y hy
  · exact hz

/-- One zone set: still right zones, if the numbers fit. -/
theorem set_check {P : List PZ} (h : checkZs P = 0) {k : Nat} {y z : PZ} (hy : P[k]? = some y) (hz : checkZ z.1 z.2 = 0)
    (ho : cntP isO P + (if isO z.1 then 1 else 0) ≤ 2 + (if isO y.1 then 1 else 0)) (ha : cntP isA P + (if isA z.1 then 1 else 0) ≤ 3 + (if isA y.1 then 1 else 0)) : checkZs (P.set k z) = 0 := by
  obtain ⟨h4, hc, _, _⟩ := checkZs_ok h
  have e1 := cnt_set isO P k y z hy
  have e2 := cnt_set isA P k y z hy
  exact checkZs_mk (by simp [h4]) (mem_set_check hc hz) (by omega) (by omega)

theorem check_shut {z : PZ} (h : checkZ z.1 z.2 = 0) (hs : isO z.1 = true) : checkZ (shutP z).1 (shutP z).2 = 0 := by
  obtain ⟨s, l⟩ := z
  obtain ⟨z1, z2, z3, z4, z5⟩ := checkZ_len h
  unfold shutP
  split
  · rfl
  · rename_i hne
    have hlen : l.length ≠ 0 := fun e => hne (List.length_eq_zero_iff.1 e)
    have hs' : s = 1 ∨ s = 2 := by simpa [isO] using hs
    refine checkZ_mk (by omega) (by omega) z3 z4 ?_
    simp only [fitsB] at z5 ⊢
    rcases hs' with rfl | rfl <;> simp at z5 ⊢ <;> omega
theorem shut_state (z : PZ) : (shutP z).1 = 0 ∨ (shutP z).1 = 3 := by
  unfold shutP
  split
  · exact .inl rfl
  · exact .inr rfl
theorem shut_data (z : PZ) : (shutP z).2 = z.2 := by
  unfold shutP
  split
  · rename_i h; exact h.symm
  · rfl
theorem check_finish {z : PZ} (h : checkZ z.1 z.2 = 0) : checkZ 4 z.2 = 0 := by
  obtain ⟨z1, z2, z3, z4, z5⟩ := checkZ_len h
  exact checkZ_mk (by omega) (by omega) z3 z4 rfl
theorem check_held {z : PZ} (h : checkZ z.1 z.2 = 0) (h4 : z.1 ≠ 4) : checkZ 2 z.2 = 0 := by
  obtain ⟨s, l⟩ := z
  obtain ⟨z1, z2, z3, z4, z5⟩ := checkZ_len h
  refine checkZ_mk (by omega) (by omega) z3 z4 ?_
  simp only [fitsB] at z5 ⊢
  have : s = 0 ∨ s = 1 ∨ s = 2 ∨ s = 3 := by simp at h4; omega
  rcases this with rfl | rfl | rfl | rfl
  · simp at z5; subst z5; rfl
  all_goals simp at z5 ⊢; omega

theorem isA_of_isO {s : Int} (h : isO s = true) : isA s = true := by simp [isA, h]

/-- Room: the zones then are right, all have what they had; one more may be open, if this one isn't; one more active. -/
theorem room_ok {P Q : List PZ} (h : checkZs P = 0) {k : Nat} {z : PZ} (hz : P[k]? = some z) (hr : roomP P z.1 = some Q) :
    checkZs Q = 0 ∧ z.1 ≠ 4 ∧ Q[k]? = some z ∧ (isO z.1 = false → cntP isO Q ≤ 1 ∧ (z.1 = 0 → cntP isA Q ≤ 2)) ∧
    (Q = P ∨ ∃ (i : Nat) (y : PZ), i ≠ k ∧ P[i]? = some y ∧ y.1 = 1 ∧ Q = P.set i (shutP y)) := by
  obtain ⟨h4, hc, hO, hA⟩ := checkZs_ok h
  unfold roomP at hr
  by_cases h1 : isO z.1 = true
  · rw [if_pos h1] at hr
    cases hr
    refine ⟨h, ?_, hz, fun e => absurd h1 (by simp [e]), .inl rfl⟩
    intro e
    rw [e] at h1
    simp [isO] at h1
  · rw [if_neg h1] at hr
    by_cases h2 : z.1 = 4 ∨ z.1 = 0 ∧ 3 ≤ cntP isA P
    · rw [if_pos h2] at hr; cases hr
    · rw [if_neg h2] at hr
      by_cases h3 : cntP isO P < 2
      · rw [if_pos h3] at hr
        cases hr
        exact ⟨h, by omega, hz, fun _ => ⟨by omega, fun e => by omega⟩, .inl rfl⟩
      · rw [if_neg h3] at hr
        cases hf : fopenP P with
        | none => rw [hf] at hr; cases hr
        | some i =>
          rw [hf] at hr
          simp at hr
          unfold fopenP at hf
          rw [List.findIdx?_eq_some_iff_getElem] at hf
          obtain ⟨hi, hy1, _⟩ := hf
          have hy : P[i]? = some P[i] := by simp
          have hy1' : P[i].1 = 1 := by simpa using hy1
          have hQ : Q = P.set i (shutP P[i]) := by
            rw [← hr]
            apply List.ext_getElem?
            intro j
            by_cases e : i = j
            · subst e; simp [List.getElem?_modify, hi]
            · simp [List.getElem?_modify, List.getElem?_set, e]
          have hik : i ≠ k := by
            intro e
            subst e
            rw [hz] at hy
            cases hy
            exact h1 (by simp [isO, hy1'])
          have hO1 : isO P[i].1 = true := by simp [isO, hy1']
          have hA1 : isA P[i].1 = true := isA_of_isO hO1
          have e1 := cnt_set isO P i P[i] (shutP P[i]) hy
          have e2 := cnt_set isA P i P[i] (shutP P[i]) hy
          have hs0 : isO (shutP P[i]).1 = false := by rcases shut_state P[i] with e | e <;> rw [e] <;> rfl
          rw [hO1, hs0] at e1
          rw [hA1] at e2
          simp at e1 e2
          have hA2 : cntP isA (P.set i (shutP P[i])) ≤ cntP isA P := by split at e2 <;> omega
          subst hQ
          refine ⟨checkZs_mk (by simp [h4]) (mem_set_check hc (check_shut (hc _ (List.getElem_mem hi)) hO1)) (by omega) (by omega), by omega, ?_, fun _ => ⟨by omega, fun e => by omega⟩, .inr ⟨i, P[i], hik, hy, hy1', rfl⟩⟩
          rw [List.getElem?_set_ne hik]
          exact hz

/-- What is known of zones and a number with which nothing is wrong, plain. -/
theorem pre_plain {P : List PZ} {k : Int} (hp : pre P k = 0) : checkZs P = 0 ∧ ∃ j : Nat, k = j ∧ j < 4 ∧ P[j]? = some (at' P k) := by
  unfold pre at hp
  by_cases hc : checkZs P = 0
  · simp [hc] at hp
    have hk : 0 ≤ k ∧ k ≤ 3 := by simp [inB] at hp; omega
    obtain ⟨j, rfl⟩ := Int.eq_ofNat_of_zero_le hk.1
    have hj : j < P.length := by rw [(checkZs_ok hc).1]; omega
    exact ⟨hc, j, rfl, by omega, by simp [at', List.getD, hj]⟩
  · simp [hc] at hp
/-- Each zone's blocks are those that it had, or more behind them; only zone j may have more. -/
def Keeps (P Q : List PZ) (j : Nat) (more : Bool) : Prop :=
  Q.length = P.length ∧ ∀ (i : Nat) (y z : PZ), P[i]? = some y → Q[i]? = some z → (∃ r, z.2 = y.2 ++ r ∧ (r ≠ [] → i = j ∧ more = true))

theorem Keeps.set {P Q : List PZ} (hl : Q.length = P.length) (hk : ∀ (i : Nat) (y z : PZ), P[i]? = some y → Q[i]? = some z → z.2 = y.2) {j : Nat} {y z : PZ} (hy : P[j]? = some y) {more : Bool} {r : List Int} (hz : z.2 = y.2 ++ r) (hr : r ≠ [] → more = true) : Keeps P (Q.set j z) j more := by
  refine ⟨by simp [hl], fun i u v hu hv => ?_⟩
  by_cases e : j = i
  · subst e
    rw [hy] at hu
    cases hu
    have hj : j < Q.length := by rw [hl]; exact (List.getElem?_eq_some_iff.1 hy).1
    rw [List.getElem?_set_self hj] at hv
    cases hv
    exact ⟨r, hz, fun h => ⟨rfl, hr h⟩⟩
  · rw [List.getElem?_set_ne e] at hv
    exact ⟨[], by simp [hk i u v hu hv], fun h => absurd rfl h⟩

theorem room_data {P Q : List PZ} (h : Q = P ∨ ∃ (i : Nat) (y : PZ), P[i]? = some y ∧ Q = P.set i (shutP y)) : Q.length = P.length ∧ ∀ (i : Nat) (y z : PZ), P[i]? = some y → Q[i]? = some z → z.2 = y.2 := by
  rcases h with rfl | ⟨i, y, hy, rfl⟩
  · exact ⟨rfl, fun i y z h1 h2 => by rw [h1] at h2; cases h2; rfl⟩
  · refine ⟨by simp, fun j u v hu hv => ?_⟩
    by_cases e : i = j
    · subst e
      rw [hy] at hu
      cases hu
      rw [List.getElem?_set_self (List.getElem?_eq_some_iff.1 hy).1] at hv
      cases hv
      exact shut_data y
    · rw [List.getElem?_set_ne e, hu] at hv
      cases hv
      rfl

theorem hold_law {P Q : List PZ} {j : Nat} (h : holdP P j = (Q, 0)) : checkZs Q = 0 ∧ Keeps P Q j false ∧ Q[j]? = some (2, (at' P j).2) := by
  unfold holdP at h
  by_cases hp : pre P j = 0
  · obtain ⟨hc, k, hk, hj, hz⟩ := pre_plain hp
    obtain rfl : j = k := by omega
    simp [hp] at h
    cases hr : roomP P (at' P j).1 with
    | none => rw [hr] at h; simp at h
    | some R =>
      rw [hr] at h
      simp at h
      subst h
      obtain ⟨h1, h2, h3, h4, h5⟩ := room_ok hc hz hr
      have hzc := (checkZs_ok hc).2.1 _ (List.mem_of_getElem? hz)
      obtain ⟨d1, d2⟩ := room_data (h5.imp id fun ⟨i, y, _, hy, _, e⟩ => ⟨i, y, hy, e⟩)
      have hR := checkZs_ok h1
      refine ⟨set_check h1 h3 (check_held (z := at' P j) hzc h2) ?_ ?_, Keeps.set d1 d2 hz (r := []) (by simp) (fun h => absurd rfl h), by simp [hR.1, hj]⟩
      · cases ho : isO (at' P j).1
        · have := (h4 ho).1
          simp [isO]; omega
        · simp [isO]; omega
      · cases ha : isA (at' P j).1
        · have ho : isO (at' P j).1 = false := by simp [isA] at ha; exact ha.1
          have hs0 : (at' P j).1 = 0 := by
            have q := checkZ_len hzc
            simp [isA, isO] at ha
            omega
          have := (h4 ho).2 hs0
          simp [isA, isO]; omega
        · simp [isA, isO]; omega
  · simp [hp] at h

theorem same_data (P : List PZ) : P.length = P.length ∧ ∀ (i : Nat) (y z : PZ), P[i]? = some y → P[i]? = some z → z.2 = y.2 := ⟨rfl, fun i y z h1 h2 => by rw [h1] at h2; cases h2; rfl⟩

theorem close_law {P Q : List PZ} {j : Nat} (h : closeP P j = (Q, 0)) : checkZs Q = 0 ∧ Keeps P Q j false := by
  unfold closeP at h
  by_cases hp : pre P j = 0
  · obtain ⟨hc, k, hk, hj, hz⟩ := pre_plain hp
    obtain rfl : j = k := by omega
    cases ho : isO (at' P j).1
    · simp [hp, ho] at h
    · simp [hp, ho] at h
      subst h
      have hzc := (checkZs_ok hc).2.1 _ (List.mem_of_getElem? hz)
      have hP := checkZs_ok hc
      have hs0 : isO (shutP (at' P j)).1 = false := by rcases shut_state (at' P j) with e | e <;> rw [e] <;> rfl
      refine ⟨set_check hc hz (check_shut hzc ho) ?_ ?_, Keeps.set (same_data P).1 (same_data P).2 hz (r := []) (by simp [shut_data]) (fun h => absurd rfl h)⟩
      · rw [hs0, ho]; simp; omega
      · rw [isA_of_isO ho]; split <;> simp <;> omega
  · simp [hp] at h

theorem finish_law {P Q : List PZ} {j : Nat} (h : finishP P j = (Q, 0)) : checkZs Q = 0 ∧ Keeps P Q j false ∧ Q[j]? = some (4, (at' P j).2) := by
  unfold finishP at h
  by_cases hp : pre P j = 0
  · obtain ⟨hc, k, hk, hj, hz⟩ := pre_plain hp
    obtain rfl : j = k := by omega
    simp [hp] at h
    subst h
    have hzc := (checkZs_ok hc).2.1 _ (List.mem_of_getElem? hz)
    have hP := checkZs_ok hc
    refine ⟨set_check hc hz (check_finish (z := at' P j) hzc) ?_ ?_, Keeps.set (same_data P).1 (same_data P).2 hz (r := []) (by simp) (fun h => absurd rfl h), by simp [hP.1, hj]⟩
    · simp [isO]; split <;> omega
    · simp [isA, isO]; split <;> omega
  · simp [hp] at h

theorem reset_law {P Q : List PZ} {j : Nat} (h : resetP P j = (Q, 0)) : checkZs Q = 0 ∧ Q = P.set j (0, []) ∧ j < 4 ∧ P.length = 4 := by
  unfold resetP at h
  by_cases hp : pre P j = 0
  · obtain ⟨hc, k, hk, hj, hz⟩ := pre_plain hp
    obtain rfl : j = k := by omega
    simp [hp] at h
    subst h
    have hP := checkZs_ok hc
    refine ⟨set_check hc hz rfl ?_ ?_, rfl, hj, hP.1⟩
    · simp [isO]; split <;> omega
    · simp [isA, isO]; split <;> omega
  · simp [hp] at h

theorem write_law {P Q : List PZ} {j : Nat} {data : List Int} {n : Int} (h : writeP P j data = (Q, n, 0)) :
    checkZs Q = 0 ∧ Keeps P Q j true ∧ n = (at' P j).2.length ∧ Q[j]? = some (writeS (at' P j).1 ((at' P j).2.length + data.length), (at' P j).2 ++ data) ∧ writeE (at' P j).1 (at' P j).2 data = 0 := by
  unfold writeP at h
  by_cases hp : pre P j = 0
  · obtain ⟨hc, k, hk, hj, hz⟩ := pre_plain hp
    obtain rfl : j = k := by omega
    by_cases hw : writeE (at' P j).1 (at' P j).2 data = 0
    · simp [hp, hw] at h
      cases hr : roomP P (at' P j).1 with
      | none => rw [hr] at h; simp at h
      | some R =>
        rw [hr] at h
        simp at h
        obtain ⟨rfl, rfl⟩ := h
        obtain ⟨h1, h2, h3, h4, h5⟩ := room_ok hc hz hr
        have hzc := (checkZs_ok hc).2.1 _ (List.mem_of_getElem? hz)
        obtain ⟨d1, d2⟩ := room_data (h5.imp id fun ⟨i, y, _, hy, _, e⟩ => ⟨i, y, hy, e⟩)
        have hR := checkZs_ok h1
        have eS : wS (at' P j).1 (at' P j).2 data = writeS (at' P j).1 ((at' P j).2.length + data.length) := by simp [wS, hw]
        have eL : wL (at' P j).1 (at' P j).2 data = (at' P j).2 ++ data := by simp [wL, hw]
        rw [eS, eL]
        have hst : writeS (at' P j).1 ((at' P j).2.length + data.length) = 4 ∨ isO (writeS (at' P j).1 ((at' P j).2.length + data.length)) = true := by
          unfold writeS
          split
          · exact .inl rfl
          · right; split <;> rfl
        refine ⟨set_check h1 h3 (check_write hw) ?_ ?_, Keeps.set d1 d2 hz (r := data) rfl (fun _ => rfl), rfl, by simp [hR.1, hj], hw⟩
        · cases ho : isO (at' P j).1
          · have := (h4 ho).1
            split <;> simp <;> omega
          · split <;> simp <;> omega
        · cases ha : isA (at' P j).1
          · have ho : isO (at' P j).1 = false := by simp [isA] at ha; exact ha.1
            have hs0 : (at' P j).1 = 0 := by
              have q := checkZ_len hzc
              simp [isA, isO] at ha
              omega
            have := (h4 ho).2 hs0
            split <;> simp <;> omega
          · split <;> simp <;> omega
    · simp [hp, hw] at h
  · simp [hp] at h

end Go.Proofs.YtcmladgldjcdmaaDoor

/- What comes of reserving and registering, plain; no condition. -/
namespace Go.Proofs.YtcmladgldjcdmaaDoor
open Go.RowKit
set_option linter.unusedVariables false
set_option maxRecDepth 100000
set_option linter.unusedSimpArgs false

theorem checkB_mk {x y z h t : Int} (hx : 0 ≤ x ∧ x ≤ 9) (hy : 0 ≤ y ∧ y ≤ 9) (hz : 0 ≤ z ∧ z ≤ 9) (hs : h = -1 ∧ t = 0 ∨ (h = 0 ∨ h = 1 ∨ h = 2) ∧ (1 ≤ t ∧ t ≤ 4) ∧ keyOf ⟨[x, y, z], h, t⟩ h ≠ 0) : checkB ⟨[x, y, z], h, t⟩ = 0 := by
  refine checkB_0 rfl ?_ ?_
  · simp [outB]
    omega
  · rcases hs with ⟨rfl, rfl⟩ | ⟨h1, h2, h3⟩
    · simp
    · dsimp only
      have : ¬ h = -1 := by omega
      have : ¬ t = 0 := by omega
      simp [*]

theorem pre0 {b : PB} {who : Int} (h : preB b who = 0) : checkB b = 0 ∧ ∃ j : Nat, who = j ∧ j < 3 := by
  unfold preB at h
  by_cases hc : checkB b = 0
  · simp [hc] at h
    refine ⟨hc, who.toNat, ?_, ?_⟩ <;> simp [inB] at h <;> omega
  · simp [hc] at h
theorem preB_mk {b : PB} {j : Nat} (h : checkB b = 0) (hj : j < 3) : preB b j = 0 := by
  simp [preB, h, inB]
  omega

theorem reserve_ok {b : PB} {j : Nat} {kd : Int} (h : (reserveB b j kd).2 = 0) :
    ∃ x y z, reserveB b j kd = (⟨[x, y, z], j, kd⟩, 0) ∧ checkB ⟨[x, y, z], j, kd⟩ = 0 ∧ (1 ≤ kd ∧ kd ≤ 4) ∧ j < 3 ∧ [x, y, z].getD j 0 ≠ 0 := by
  by_cases hp : preB b j = 0
  · obtain ⟨hc, j', ej, hj⟩ := pre0 hp
    obtain rfl : j = j' := by omega
    obtain ⟨x, y, z, e, hx, hy, hz, _⟩ := checkB_ok hc
    cases hk : inB kd 1 4
    · simp [reserveB, hp, hk] at h
    · by_cases hno : keyOf b j = 0 ∨ b.h ≠ -1 ∧ ¬ (b.h = j ∧ b.t = kd)
      · unfold reserveB at h
        rw [hp, hk] at h
        simp only [ne_eq, not_true_eq_false, if_false, Bool.true_eq_false] at h
        rw [if_pos hno] at h
        simp at h
      · have hr : reserveB b j kd = (⟨[x, y, z], j, kd⟩, 0) := by
          unfold reserveB
          rw [hp, hk]
          simp only [ne_eq, not_true_eq_false, if_false, Bool.true_eq_false]
          rw [if_neg hno, e]
        have hkey : [x, y, z].getD j 0 ≠ 0 := fun e2 => hno (.inl (by unfold keyOf; rw [e]; exact e2))
        have hkd : 1 ≤ kd ∧ kd ≤ 4 := by simp [inB] at hk; omega
        refine ⟨x, y, z, hr, checkB_mk hx hy hz (.inr ⟨by omega, hkd, ?_⟩), hkd, hj, hkey⟩
        unfold keyOf
        simpa using hkey
  · simp [reserveB, hp] at h

theorem may_ok {b : PB} {k : Nat} (h : checkB b = 0) (hk : k < 3) (wt : Bool) : mayB b k wt = (mightB b k wt, 0) := by
  simp [mayB, preB_mk h hk]

end Go.Proofs.YtcmladgldjcdmaaDoor

/- A right book stays right, whatever is done, and nobody but by Preempt and Clear takes it from the holder: plain; no condition. -/
namespace Go.Proofs.YtcmladgldjcdmaaDoor
open Go.RowKit
set_option linter.unusedVariables false
set_option maxRecDepth 100000
set_option linter.unusedSimpArgs false

/-- What the law asks of what was made of b by hand j. -/
def Kept (b c : PB) (j : Nat) : Prop := checkB c = 0 ∧ (0 ≤ b.h → b.h ≠ j → c.h = b.h ∧ c.t = b.t)

theorem right_three {b : PB} (h : checkB b = 0) : ∃ x y z hh tt, b = ⟨[x, y, z], hh, tt⟩ ∧ (0 ≤ x ∧ x ≤ 9) ∧ (0 ≤ y ∧ y ≤ 9) ∧ (0 ≤ z ∧ z ≤ 9) ∧ (hh = -1 ∧ tt = 0 ∨ (1 ≤ tt ∧ tt ≤ 4) ∧ (hh = 0 ∧ x ≠ 0 ∨ hh = 1 ∧ y ≠ 0 ∨ hh = 2 ∧ z ≠ 0)) := by
  obtain ⟨x, y, z, e, hx, hy, hz, hs⟩ := checkB_ok h
  obtain ⟨l, hh, tt⟩ := b
  dsimp only at e hs
  subst e
  refine ⟨x, y, z, hh, tt, rfl, hx, hy, hz, ?_⟩
  rcases hs with hs | ⟨e | e | e, h2, h3⟩
  · exact .inl hs
  all_goals
    subst e
    refine .inr ⟨h2, ?_⟩
    simp [keyOf] at h3
    simp [h3]
theorem three_right {x y z hh tt : Int} (hx : 0 ≤ x ∧ x ≤ 9) (hy : 0 ≤ y ∧ y ≤ 9) (hz : 0 ≤ z ∧ z ≤ 9) (hs : hh = -1 ∧ tt = 0 ∨ (1 ≤ tt ∧ tt ≤ 4) ∧ (hh = 0 ∧ x ≠ 0 ∨ hh = 1 ∧ y ≠ 0 ∨ hh = 2 ∧ z ≠ 0)) : checkB ⟨[x, y, z], hh, tt⟩ = 0 := by
  refine checkB_mk hx hy hz ?_
  rcases hs with hs | ⟨h2, ⟨e, h3⟩ | ⟨e, h3⟩ | ⟨e, h3⟩⟩
  · exact .inl hs
  all_goals
    subst e
    refine .inr ⟨by omega, h2, ?_⟩
    simpa [keyOf] using h3

theorem reg_kept {b : PB} {j : Nat} {key : Int} (hc : checkB b = 0) (hj : j < 3) (h : (registerB b j key).2 = 0) : Kept b (registerB b j key).1 j := by
  obtain ⟨x, y, z, hh, tt, rfl, hx, hy, hz, hs⟩ := right_three hc
  cases hk : inB key 0 9
  · simp [registerB, preB_mk hc hj, hk] at h
  · have hkr : 0 ≤ key ∧ key ≤ 9 := by simp [inB] at hk; omega
    by_cases hz0 : key = 0 ∧ hh = j
    · have e : registerB ⟨[x, y, z], hh, tt⟩ j key = (⟨[x, y, z].set j key, -1, 0⟩, 0) := by unfold registerB; rw [preB_mk hc hj, hk]; simp [hz0]
      rw [e]
      refine ⟨?_, fun _ h2 => absurd hz0.2 h2⟩
      rcases (by omega : j = 0 ∨ j = 1 ∨ j = 2) with rfl | rfl | rfl <;> exact three_right (by omega) (by omega) (by omega) (.inl ⟨rfl, rfl⟩)
    · have e : registerB ⟨[x, y, z], hh, tt⟩ j key = (⟨[x, y, z].set j key, hh, tt⟩, 0) := by unfold registerB; rw [preB_mk hc hj, hk]; simp [hz0]
      rw [e]
      refine ⟨?_, fun _ _ => ⟨rfl, rfl⟩⟩
      rcases (by omega : j = 0 ∨ j = 1 ∨ j = 2) with rfl | rfl | rfl <;> exact three_right (by omega) (by omega) (by omega) (by simp at hz0; omega)

theorem res_kept {b : PB} {j : Nat} {kd : Int} (hc : checkB b = 0) (hj : j < 3) (h : (reserveB b j kd).2 = 0) : Kept b (reserveB b j kd).1 j := by
  obtain ⟨x, y, z, e, hc2, _, _, _⟩ := reserve_ok h
  refine ⟨by rw [e]; exact hc2, fun h1 h2 => ?_⟩
  exfalso
  cases hk : inB kd 1 4
  · simp [reserveB, preB_mk hc hj, hk] at h
  · unfold reserveB at h
    rw [preB_mk hc hj, hk] at h
    simp only [ne_eq, not_true_eq_false, if_false, Bool.true_eq_false] at h
    rw [if_pos (.inr ⟨by omega, fun e => h2 e.1⟩)] at h
    simp at h

theorem rel_kept {b : PB} {j : Nat} (hc : checkB b = 0) (hj : j < 3) (h : (releaseB b j).2 = 0) : Kept b (releaseB b j).1 j := by
  obtain ⟨x, y, z, hh, tt, rfl, hx, hy, hz, hs⟩ := right_three hc
  by_cases hk : keyOf ⟨[x, y, z], hh, tt⟩ j = 0
  · simp [releaseB, preB_mk hc hj, hk] at h
  · by_cases hh' : hh = j
    · have e : releaseB ⟨[x, y, z], hh, tt⟩ j = (⟨[x, y, z], -1, 0⟩, 0) := by unfold releaseB; rw [preB_mk hc hj, if_neg (by simp), if_neg hk, if_pos hh']
      rw [e]
      exact ⟨three_right hx hy hz (.inl ⟨rfl, rfl⟩), fun _ h2 => absurd hh' h2⟩
    · have e : releaseB ⟨[x, y, z], hh, tt⟩ j = (⟨[x, y, z], hh, tt⟩, 0) := by unfold releaseB; rw [preB_mk hc hj, if_neg (by simp), if_neg hk, if_neg hh']
      rw [e]
      exact ⟨hc, fun _ _ => ⟨rfl, rfl⟩⟩

theorem pre_kept {b : PB} {j : Nat} {key : Int} (hc : checkB b = 0) (hj : j < 3) (h : (preemptB b j key).2 = 0) : checkB (preemptB b j key).1 = 0 := by
  obtain ⟨x, y, z, hh, tt, rfl, hx, hy, hz, hs⟩ := right_three hc
  cases hin : inB key 1 9
  · simp [preemptB, preB_mk hc hj, hin] at h
  · by_cases hk : keyOf ⟨[x, y, z], hh, tt⟩ j = 0
    · simp [preemptB, preB_mk hc hj, hin, hk] at h
    · have hkr : 1 ≤ key ∧ key ≤ 9 := by simp [inB] at hin; omega
      have e : preemptB ⟨[x, y, z], hh, tt⟩ j key = (⟨strike [x, y, z] j key, if hh ≠ -1 ∧ hh ≠ j ∧ keyOf ⟨[x, y, z], hh, tt⟩ hh = key then (j : Int) else hh, tt⟩, 0) := by
        unfold preemptB
        rw [preB_mk hc hj, hin, if_neg (by simp), if_neg (by simp), if_neg hk]
      rw [e]
      have hst : strike [x, y, z] j key = [if x = key ∧ (0 : Int) ≠ j then 0 else x, if y = key ∧ (1 : Int) ≠ j then 0 else y, if z = key ∧ (2 : Int) ≠ j then 0 else z] := by simp [strike, List.mapIdx_cons]
      dsimp only
      rw [hst]
      rcases hs with ⟨rfl, rfl⟩ | ⟨ht, ⟨rfl, hq⟩ | ⟨rfl, hq⟩ | ⟨rfl, hq⟩⟩
      all_goals
        rcases (by omega : j = 0 ∨ j = 1 ∨ j = 2) with rfl | rfl | rfl
        all_goals
          simp [keyOf] at hk ⊢
          refine three_right ?_ ?_ ?_ ?_
          all_goals grind

theorem clr_kept {b : PB} {j : Nat} (hc : checkB b = 0) (hj : j < 3) (h : (clearB b j).2 = 0) : checkB (clearB b j).1 = 0 := by
  by_cases hk : keyOf b j = 0
  · simp [clearB, preB_mk hc hj, hk] at h
  · rw [show clearB b j = (freshB, 0) by simp [clearB, preB_mk hc hj, hk]]
    rfl

end Go.Proofs.YtcmladgldjcdmaaDoor
