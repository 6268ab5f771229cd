/- A right desk stays right, an answer is a right one, who may not write changes no zone, what was written is read where it was told: plain; no condition. -/
import Derived.Test.YtcmladgldjcdmaaDoorHU4
import Derived.Test.YtcmladgldjcdmaaDoorHU6
import Derived.Test.YtcmladgldjcdmaaDoorHU5
namespace Go.Proofs.YtcmladgldjcdmaaDoor
open Go.RowKit
set_option linter.unusedVariables false
set_option maxRecDepth 100000
set_option linter.unusedSimpArgs false

theorem checkD_ok {d : PD} (h : checkD d = 0) : checkZs d.P = 0 ∧ checkB d.b = 0 := by
  unfold checkD at h
  by_cases hz : checkZs d.P = 0
  · simp [hz] at h; exact ⟨hz, h⟩
  · simp [hz] at h
theorem checkD_mk {d : PD} (h : checkZs d.P = 0) (k : checkB d.b = 0) : checkD d = 0 := by simp [checkD, h, k]
theorem doE_ok {d : PD} {who : Int} {c : PC} (h : doE d who c = 0) : checkD d = 0 ∧ (∃ j : Nat, who = j ∧ j < 3) ∧ checkC c = 0 := by
  unfold doE at h
  by_cases hd : checkD d = 0
  · simp [hd] at h
    cases hw : inB who 0 2
    · simp [hw] at h
    · simp [hw] at h
      have : 0 ≤ who ∧ who ≤ 2 := by simp [inB] at hw; omega
      exact ⟨hd, ⟨who.toNat, by omega, by omega⟩, h⟩
  · simp [hd] at h
/-- What is known of a right command. -/
theorem cmd_facts {c : PC} (h : checkC c = 0) : (1 ≤ c.k ∧ c.k ≤ 12) ∧ (0 ≤ c.z ∧ c.z ≤ 999) ∧ (0 ≤ c.at' ∧ c.at' ≤ 999) ∧ (0 ≤ c.n ∧ c.n ≤ 999) ∧ c.d.length ≤ 8 ∧ c.d.any (outB 0 999) = false ∧ (hasD c.k = true ↔ c.d ≠ []) := by
  unfold checkC at h
  split at h
  · omega
  · rename_i h1
    split at h
    · omega
    · split at h
      · omega
      · rename_i h3
        split at h
        · omega
        · rename_i h4
          split at h
          · omega
          · rename_i h5
            simp only [not_or, Bool.not_eq_true] at h5
            refine ⟨?_, ?_, ?_, ?_, by omega, h5.2.2.2, ?_⟩
            · simp [outB] at h1; omega
            · have := h5.1; simp [outB] at this; omega
            · have := h5.2.1; simp [outB] at this; omega
            · have := h5.2.2.1; simp [outB] at this; omega
            · cases hd : hasD c.k <;> by_cases e : c.d = [] <;> simp_all

theorem pre_or {P : List PZ} (h : checkZs P = 0) (k : Int) : pre P k = 0 ∨ pre P k = 5 := by
  unfold pre
  simp only [h]
  cases inB k 0 3 <;> simp
theorem writeE_or {s : Int} {l k : List Int} (h : checkZ s l = 0) : writeE s l k = 0 ∨ writeE s l k = 2 ∨ writeE s l k = 3 ∨ writeE s l k = 7 := by
  unfold writeE
  simp only [h]
  simp only [ne_eq, not_true_eq_false, if_false]
  split
  · simp
  · split
    · simp
    · split <;> simp
theorem readE_or {s : Int} {l : List Int} {p n : Int} (h : checkZ s l = 0) : readE s l p n = 0 ∨ readE s l p n = 3 ∨ readE s l p n = 6 := by
  unfold readE
  simp only [h]
  simp only [ne_eq, not_true_eq_false, if_false]
  split
  · simp
  · split <;> simp

theorem checkA_err {e : Int} (h : 0 ≤ e ∧ e ≤ 9) : checkA (errA e) = 0 := by
  have h1 : outB 0 9 e = false := by simp [outB]; omega
  unfold checkA errA
  simp only
  rw [if_neg (by rw [h1]; simp [outB]), if_neg (by simp), if_neg (by simp), if_neg (by simp)]
theorem checkA_at {t : Int} (h : 0 ≤ t ∧ t ≤ 7) : checkA ⟨0, t, []⟩ = 0 := by
  have h1 : outB 0 7 t = false := by simp [outB]; omega
  unfold checkA
  simp only
  rw [if_neg (by rw [h1]; simp [outB]), if_neg (by simp), if_neg (by simp), if_neg (by simp)]

theorem hold_e {P : List PZ} (h : checkZs P = 0) (k : Int) : 0 ≤ (holdP P k).2 ∧ (holdP P k).2 ≤ 9 := by
  unfold holdP
  rcases pre_or h k with e | e
  · simp only [e]
    simp only [ne_eq, not_true_eq_false, if_false]
    cases roomP P (at' P k).1 <;> simp
  · simp [e]
theorem close_e {P : List PZ} (h : checkZs P = 0) (k : Int) : 0 ≤ (closeP P k).2 ∧ (closeP P k).2 ≤ 9 := by
  unfold closeP
  rcases pre_or h k with e | e
  · simp only [e]
    simp only [ne_eq, not_true_eq_false, if_false]
    split <;> simp
  · simp [e]
theorem finish_e {P : List PZ} (h : checkZs P = 0) (k : Int) : 0 ≤ (finishP P k).2 ∧ (finishP P k).2 ≤ 9 := by
  unfold finishP
  rcases pre_or h k with e | e <;> simp [e]
theorem reset_e {P : List PZ} (h : checkZs P = 0) (k : Int) : 0 ≤ (resetP P k).2 ∧ (resetP P k).2 ≤ 9 := by
  unfold resetP
  rcases pre_or h k with e | e <;> simp [e]
theorem zoneDo_e {P : List PZ} (h : checkZs P = 0) (c : PC) : 0 ≤ (zoneDo P c).2 ∧ (zoneDo P c).2 ≤ 9 := by
  unfold zoneDo
  split
  · exact hold_e h _
  · split
    · exact close_e h _
    · split
      · exact finish_e h _
      · exact reset_e h _
theorem at_mem {P : List PZ} {k : Int} (hp : pre P k = 0) : at' P k ∈ P := by
  obtain ⟨_, j, _, _, hz⟩ := pre_plain hp
  exact List.mem_of_getElem? hz
theorem write_e {P : List PZ} (h : checkZs P = 0) (k : Int) (data : List Int) : 0 ≤ (writeP P k data).2.2 ∧ (writeP P k data).2.2 ≤ 9 := by
  unfold writeP
  rcases pre_or h k with e | e
  · have hz := (checkZs_ok h).2.1 _ (at_mem e)
    simp only [e]
    simp only [ne_eq, not_true_eq_false, if_false]
    rcases writeE_or (k := data) hz with q | q | q | q
    · simp only [q]
      simp only [ne_eq, not_true_eq_false, if_false]
      cases roomP P (at' P k).1 <;> simp
    all_goals simp [q]
  · simp [e]

theorem bookDo_e {b : PB} {j : Nat} (h : checkB b = 0) (hj : j < 3) (c : PC) : 0 ≤ (bookDo b j c).2 ∧ (bookDo b j c).2 ≤ 9 := by
  have hp := preB_mk h hj
  unfold bookDo registerB reserveB releaseB preemptB clearB
  simp only [hp]
  simp only [ne_eq, not_true_eq_false, if_false]
  grind
theorem bookDo_ok {b : PB} {j : Nat} (h : checkB b = 0) (hj : j < 3) (c : PC) (he : (bookDo b j c).2 = 0) : checkB (bookDo b j c).1 = 0 := by
  unfold bookDo at *
  split
  · rename_i e; simp only [e, if_true] at he; exact (reg_kept h hj he).1
  · rename_i e; simp only [e, if_false] at he
    split
    · rename_i e2; simp only [e2, if_true] at he; exact (res_kept h hj he).1
    · rename_i e2; simp only [e2, if_false] at he
      split
      · rename_i e3; simp only [e3, if_true] at he; exact (rel_kept h hj he).1
      · rename_i e3; simp only [e3, if_false] at he
        split
        · rename_i e4; simp only [e4, if_true] at he; exact pre_kept h hj he
        · rename_i e4; simp only [e4, if_false] at he; exact clr_kept h hj he

theorem pre_of_two {P : List PZ} {k : Int} {α : Type} {f : Int → α × Int} (h : pre P k ≠ 0 → (f k).2 = pre P k) (he : (f k).2 = 0) : pre P k = 0 := by
  by_cases hp : pre P k = 0
  · exact hp
  · rw [h hp] at he; exact he
theorem pair_of {α : Type} {x : α × Int} (h : x.2 = 0) : x = (x.1, 0) := by rw [← h]
theorem zoneDo_ok {P : List PZ} (c : PC) (he : (zoneDo P c).2 = 0) : checkZs (zoneDo P c).1 = 0 := by
  unfold zoneDo at *
  split
  · rename_i e; simp only [e, if_true] at he
    have hp : pre P c.z = 0 := pre_of_two (f := holdP P) (fun h => by simp [holdP, h]) he
    obtain ⟨_, j, hj, _, _⟩ := pre_plain hp
    rw [hj] at he ⊢
    exact (hold_law (pair_of he)).1
  · rename_i e; simp only [e, if_false] at he
    split
    · rename_i e2; simp only [e2, if_true] at he
      have hp : pre P c.z = 0 := pre_of_two (f := closeP P) (fun h => by simp [closeP, h]) he
      obtain ⟨_, j, hj, _, _⟩ := pre_plain hp
      rw [hj] at he ⊢
      exact (close_law (pair_of he)).1
    · rename_i e2; simp only [e2, if_false] at he
      split
      · rename_i e3; simp only [e3, if_true] at he
        have hp : pre P c.z = 0 := pre_of_two (f := finishP P) (fun h => by simp [finishP, h]) he
        obtain ⟨_, j, hj, _, _⟩ := pre_plain hp
        rw [hj] at he ⊢
        exact (finish_law (pair_of he)).1
      · rename_i e3; simp only [e3, if_false] at he
        have hp : pre P c.z = 0 := pre_of_two (f := resetP P) (fun h => by simp [resetP, h]) he
        obtain ⟨_, j, hj, _, _⟩ := pre_plain hp
        rw [hj] at he ⊢
        exact (reset_law (pair_of he)).1

theorem write_pre {P : List PZ} {k : Int} {data : List Int} (he : (writeP P k data).2.2 = 0) : pre P k = 0 := by
  by_cases hp : pre P k = 0
  · exact hp
  · simp [writeP, hp] at he
/-- What is known where something was written. -/
theorem write_known {P : List PZ} {k : Int} {data : List Int} (he : (writeP P k data).2.2 = 0) :
    checkZs (writeP P k data).1 = 0 ∧ (writeP P k data).2.1 = (at' P k).2.length ∧ (0 ≤ k ∧ k ≤ 3) ∧ at' (writeP P k data).1 k = (writeS (at' P k).1 ((at' P k).2.length + data.length), (at' P k).2 ++ data) ∧ writeE (at' P k).1 (at' P k).2 data = 0 := by
  have hp := write_pre he
  obtain ⟨hc, j, rfl, hj, _⟩ := pre_plain hp
  have e : writeP P j data = ((writeP P j data).1, (writeP P j data).2.1, 0) := by rw [← he]
  obtain ⟨h1, _, h3, h4, h5⟩ := write_law e
  refine ⟨h1, h3, by omega, ?_, h5⟩
  simp [at', List.getD, h4]

/-- What a right command of a hand that is there does at a right desk: all that the laws ask. -/
structure Right (d : PD) (who : Int) (x : PD) (a : PA) : Prop where
  desk : checkD x = 0
  ans : checkA a = 0
  err : a.e ≠ 0 → x = d
  may : mightB d.b who true = false → x.P = d.P

theorem done_right {d : PD} {j : Nat} {c : PC} (hd : checkD d = 0) (hj : j < 3) (hc : checkC c = 0) : Right d j (doneD d j c).1 (doneD d j c).2 := by
  obtain ⟨hz, hb⟩ := checkD_ok hd
  obtain ⟨hk, hcz, hca, hcn, hdl, hda, _⟩ := cmd_facts hc
  unfold doneD
  by_cases h8 : 8 ≤ c.k
  · simp only [h8, if_true]
    by_cases he : (bookDo d.b j c).2 = 0
    · simp only [he, ne_eq, not_true_eq_false, if_false]
      exact ⟨checkD_mk hz (bookDo_ok hb hj c he), by decide, fun h => absurd rfl h, fun _ => rfl⟩
    · simp only [he, ne_eq, not_false_eq_true, if_true]
      exact ⟨hd, checkA_err (bookDo_e hb hj c), fun _ => rfl, fun _ => rfl⟩
  · simp only [h8, if_false]
    cases hm : mightB d.b j (c.k != 7)
    · simp only [if_true]
      exact ⟨hd, checkA_err (by omega), fun _ => rfl, fun _ => rfl⟩
    · simp only [Bool.true_eq_false, if_false]
      by_cases h7 : c.k = 7
      · simp only [h7, if_true]
        refine ⟨hd, ?_, fun _ => rfl, fun _ => rfl⟩
        unfold readD
        cases hin : inB c.z 0 3
        · simp only [if_true]
          exact checkA_err (by omega)
        · simp only [Bool.true_eq_false, if_false]
          have hp : pre d.P c.z = 0 := by simp [pre, hz, hin]
          have hzc := (checkZs_ok hz).2.1 _ (at_mem hp)
          obtain ⟨_, _, hl, ha, _⟩ := checkZ_len hzc
          by_cases hr : readE (at' d.P c.z).1 (at' d.P c.z).2 c.at' c.n = 0
          · rw [show rL (at' d.P c.z).1 (at' d.P c.z).2 c.at' c.n = ((at' d.P c.z).2.drop c.at'.toNat).take c.n.toNat by simp [rL, hr], hr]
            have h1 : (((at' d.P c.z).2.drop c.at'.toNat).take c.n.toNat).any (outB 0 999) = false := any_take_false _ _ _ (any_drop_false _ _ _ ha)
            have h2 : (((at' d.P c.z).2.drop c.at'.toNat).take c.n.toNat).length ≤ 8 := by simp; omega
            generalize ((at' d.P c.z).2.drop c.at'.toNat).take c.n.toNat = L at h1 h2
            unfold checkA
            simp only
            rw [if_neg (by simp [outB]), if_neg (by omega), if_neg (by rw [h1]; simp), if_neg (by simp)]
          · rw [show rL (at' d.P c.z).1 (at' d.P c.z).2 c.at' c.n = [] by simp [rL, hr]]
            refine checkA_err ?_
            rcases readE_or (p := c.at') (n := c.n) hzc with q | q | q <;> omega
      · simp only [h7, if_false]
        have hwt : (c.k != 7) = true := by simpa using h7
        rw [hwt] at hm
        have hmay : mightB d.b j true = false → ∀ x : PD, x.P = d.P := fun h => by rw [hm] at h; cases h
        by_cases h56 : c.k = 5 ∨ c.k = 6
        · simp only [h56, if_true]
          unfold writeD
          split
          · exact ⟨hd, checkA_err (by omega), fun _ => rfl, fun _ => rfl⟩
          · by_cases he : (writeP d.P c.z c.d).2.2 = 0
            · simp only [he, ne_eq, not_true_eq_false, if_false]
              obtain ⟨k1, k2, k3, k4, k5⟩ := write_known he
              obtain ⟨_, w1, w2, _, _⟩ := writeE_ok k5
              exact ⟨checkD_mk k1 hb, checkA_at (by rw [k2]; omega), fun h => absurd rfl h, fun h => hmay h _⟩
            · simp only [he, ne_eq, not_false_eq_true, if_true]
              exact ⟨hd, checkA_err (write_e hz _ _), fun _ => rfl, fun _ => rfl⟩
        · simp only [h56, if_false]
          by_cases he : (zoneDo d.P c).2 = 0
          · simp only [he, ne_eq, not_true_eq_false, if_false]
            exact ⟨checkD_mk (zoneDo_ok c he) hb, by decide, fun h => absurd rfl h, fun h => hmay h _⟩
          · simp only [he, ne_eq, not_false_eq_true, if_true]
            exact ⟨hd, checkA_err (zoneDo_e hz c), fun _ => rfl, fun _ => rfl⟩

end Go.Proofs.YtcmladgldjcdmaaDoor

/- Halls as plain data, and what the document's calls make of them; plain mathematics, no condition. -/
namespace Go.Proofs.YtcmladgldjcdmaaDoor
open Go.RowKit
set_option linter.unusedVariables false
set_option maxRecDepth 100000
set_option linter.unusedSimpArgs false

/-- What a hand was answered last: its number, the answer. -/
structure PL where
  s : Int
  a : PA
/-- A hall: a desk, what each hand was answered last. -/
structure PH where
  d : PD
  l : List PL
def zeroL : PL := ⟨0, zeroA⟩
def zeroH : PH := ⟨zeroD, []⟩
def freshH : PH := ⟨freshD, [zeroL, zeroL, zeroL]⟩
def checkL (x : PL) : Int := if inB x.s 0 40 = false then 3 else if checkA x.a ≠ 0 then checkA x.a else if x.s = 0 ∧ sameA x.a zeroA = false then 4 else 0
def firstL : List PL → Int
  | [] => 0
  | x :: l => if checkL x ≠ 0 then checkL x else firstL l
def checkH (h : PH) : Int := if checkD h.d ≠ 0 then checkD h.d else if h.l.length ≠ 3 then 4 else firstL h.l
def sameL (x y : PL) : Bool := decide (x.s = y.s) && sameA x.a y.a
def sameLs : List PL → List PL → Bool
  | [], [] => true
  | x :: l, y :: m => sameL x y && sameLs l m
  | [], _ :: _ => false
  | _ :: _, [] => false
def sameH (a b : PH) : Bool := sameD a.d b.d && sameLs a.l b.l
def lastH (h : PH) (who : Int) : PL := h.l.getD who.toNat zeroL
/-- What Next makes of a hall and a record. -/
def nextH (h : PH) (r : PR) : PH × PA × Int :=
  if checkH h ≠ 0 then (zeroH, zeroA, checkH h) else if checkR r ≠ 0 then (zeroH, zeroA, checkR r)
  else if r.s = (lastH h r.w).s then (h, (lastH h r.w).a, 0)
  else if r.s ≠ (lastH h r.w).s + 1 then (zeroH, zeroA, 6)
  else (⟨(doneD h.d r.w r.c).1, h.l.set r.w.toNat ⟨r.s, (doneD h.d r.w r.c).2⟩⟩, (doneD h.d r.w r.c).2, 0)
def replayF : PH → List PR → PH × Int
  | h, [] => (h, 0)
  | h, r :: rs => if (nextH h r).2.2 ≠ 0 then (zeroH, (nextH h r).2.2) else replayF (nextH h r).1 rs
def replayH (l : List PR) : PH × Int := if 80 < l.length then (zeroH, 2) else replayF freshH l

theorem sameL_iff (x y : PL) : sameL x y = true ↔ x = y := by
  obtain ⟨s, a⟩ := x
  obtain ⟨s', a'⟩ := y
  simp [sameL, sameA_iff]
theorem sameLs_iff : ∀ l m : List PL, sameLs l m = true ↔ l = m
  | [], [] => by simp [sameLs]
  | x :: l, y :: m => by simp [sameLs, sameL_iff, sameLs_iff l m]
  | [], y :: m => by simp [sameLs]
  | x :: l, [] => by simp [sameLs]
theorem sameLs_t {A B : List PL} (h : A = B) : sameLs A B = true := (sameLs_iff A B).2 h
theorem sameLs_f {A B : List PL} (h : A ≠ B) : sameLs A B = false := by
  cases e : sameLs A B with
  | false => rfl
  | true => exact absurd ((sameLs_iff A B).1 e) h
theorem sameH_iff (a b : PH) : sameH a b = true ↔ a = b := by
  obtain ⟨d, l⟩ := a
  obtain ⟨d', l'⟩ := b
  simp [sameH, sameD_iff, sameLs_iff]

theorem firstL_all : ∀ {l : List PL}, firstL l = 0 → ∀ x ∈ l, checkL x = 0
  | [], _, x, hx => by cases hx
  | y :: l, h, x, hx => by
    simp only [firstL] at h
    split at h
    · rename_i q; exact absurd h q
    · rename_i q
      rcases List.mem_cons.1 hx with rfl | hx
      · simpa using q
      · exact firstL_all h x hx
theorem firstL_of : ∀ {l : List PL}, (∀ x ∈ l, checkL x = 0) → firstL l = 0
  | [], _ => rfl
  | y :: l, h => by
    simp only [firstL]
    rw [if_neg (by simp [h y (by simp)])]
    exact firstL_of (fun x hx => h x (by simp [hx]))
theorem firstL_step : ∀ {l : List PL} {k : Nat} {y : PL}, l[k]? = some y → firstL (l.take k) = 0 → checkL y = 0 → firstL (l.take (k + 1)) = 0
  | [], k, y, h, _, _ => by simp at h
  | z :: l, 0, y, h, _, hy => by
    simp at h
    subst h
    simp [firstL, hy]
  | z :: l, k + 1, y, h, h0, hy => by
    simp only [List.take_succ_cons, firstL] at h0 ⊢
    split at h0
    · rename_i q; exact absurd h0 q
    · rename_i q
      rw [if_neg q]
      exact firstL_step (by simpa using h) h0 hy
theorem firstL_at : ∀ {l : List PL} {k : Nat} {y : PL}, l[k]? = some y → firstL (l.take k) = 0 → checkL y ≠ 0 → firstL l = checkL y
  | [], k, y, h, _, _ => by simp at h
  | z :: l, 0, y, h, _, hy => by
    simp at h
    subst h
    simp only [firstL]
    rw [if_pos hy]
  | z :: l, k + 1, y, h, h0, hy => by
    simp only [List.take_succ_cons, firstL] at h0 ⊢
    split at h0
    · rename_i q; exact absurd h0 q
    · rename_i q
      rw [if_neg q]
      exact firstL_at (by simpa using h) h0 hy
theorem checkH_ok {h : PH} (k : checkH h = 0) : checkD h.d = 0 ∧ h.l.length = 3 ∧ ∀ x ∈ h.l, checkL x = 0 := by
  unfold checkH at k
  split at k
  · rename_i q; exact absurd k q
  · rename_i q
    split at k
    · cases k
    · rename_i p
      exact ⟨by simpa using q, by simpa using p, firstL_all k⟩
theorem checkH_mk {h : PH} (h1 : checkD h.d = 0) (h2 : h.l.length = 3) (h3 : ∀ x ∈ h.l, checkL x = 0) : checkH h = 0 := by
  unfold checkH
  rw [if_neg (by simp [h1]), if_neg (by simp [h2])]
  exact firstL_of h3
theorem checkA_few {a : PA} (h : checkA a = 0) : a.d.length ≤ 8 := by
  unfold checkA at h
  split at h
  · omega
  · split at h
    · omega
    · omega
theorem checkL_facts {x : PL} (h : checkL x = 0) : (0 ≤ x.s ∧ x.s ≤ 40) ∧ checkA x.a = 0 ∧ x.a.d.length ≤ 8 ∧ (x.s = 0 → x.a = zeroA) := by
  unfold checkL at h
  split at h
  · omega
  · rename_i h1
    split at h
    · rename_i h2; exact absurd h h2
    · rename_i h2
      split at h
      · omega
      · rename_i h3
        have h2' : checkA x.a = 0 := by simpa using h2
        refine ⟨by simp [inB] at h1; omega, h2', checkA_few h2', fun e => ?_⟩
        cases q : sameA x.a zeroA with
        | false => exact absurd ⟨e, q⟩ h3
        | true => exact (sameA_iff _ _).1 q
/-- A right record: who it is. -/
theorem rec_who {r : PR} (h : checkR r = 0) : ∃ j : Nat, r.w = j ∧ j < 3 := ⟨r.w.toNat, by have := (checkR_facts h).1; omega, by have := (checkR_facts h).1; omega⟩
/-- When Next answers without an error. -/
theorem nextH_ok {h : PH} {r : PR} (k : (nextH h r).2.2 = 0) : checkH h = 0 ∧ checkR r = 0 ∧ ((r.s = (lastH h r.w).s ∧ nextH h r = (h, (lastH h r.w).a, 0)) ∨ (r.s = (lastH h r.w).s + 1 ∧ nextH h r = (⟨(doneD h.d r.w r.c).1, h.l.set r.w.toNat ⟨r.s, (doneD h.d r.w r.c).2⟩⟩, (doneD h.d r.w r.c).2, 0))) := by
  unfold nextH at k
  split at k
  · rename_i q; exact absurd k q
  · rename_i q1
    split at k
    · rename_i q; exact absurd k q
    · rename_i q2
      refine ⟨by simpa using q1, by simpa using q2, ?_⟩
      split at k
      · rename_i q3
        left
        refine ⟨q3, ?_⟩
        unfold nextH
        rw [if_neg q1, if_neg q2, if_pos q3]
      · rename_i q3
        split at k
        · cases k
        · rename_i q4
          right
          refine ⟨by simpa using q4, ?_⟩
          unfold nextH
          rw [if_neg q1, if_neg q2, if_neg q3, if_neg q4]
theorem lastH_set {h : PH} {d : PD} {x : PL} {i j : Nat} (hl : h.l.length = 3) (hi : i < 3) : lastH ⟨d, h.l.set i x⟩ (j : Int) = if i = j then x else lastH h (j : Int) := by
  unfold lastH
  rw [Int.toNat_natCast]
  by_cases e : i = j
  · subst e
    rw [if_pos rfl]
    simp [List.getD, hl, hi]
  · rw [if_neg e]
    simp [List.getD, List.getElem?_set_ne e]
/-- What others were answered last stays; what is answered stands there. -/
theorem next_last {h : PH} {r : PR} (k : (nextH h r).2.2 = 0) {j : Nat} (hj : j < 3) : lastH (nextH h r).1 (j : Int) = if r.w = (j : Int) then ⟨r.s, (nextH h r).2.1⟩ else lastH h (j : Int) := by
  obtain ⟨h1, h2, h3⟩ := nextH_ok k
  obtain ⟨_, hl, _⟩ := checkH_ok h1
  obtain ⟨i, hi, hi3⟩ := rec_who h2
  rcases h3 with ⟨e, q⟩ | ⟨e, q⟩
  · rw [q]
    by_cases c : r.w = (j : Int)
    · rw [if_pos c]
      rw [c] at e
      simp only [c, e]
    · rw [if_neg c]
  · rw [q]
    simp only
    rw [hi, Int.toNat_natCast, lastH_set hl hi3]
    by_cases c : i = j
    · subst c; simp
    · rw [if_neg c, if_neg (by omega)]

end Go.Proofs.YtcmladgldjcdmaaDoor

/- Zones of the call's own of which a cell changes, and what stays as it was; plain mathematics, no condition. -/
namespace Go.Proofs.YtcmladgldjcdmaaDoor
open Go.RowKit
set_option linter.unusedVariables false
set_option maxRecDepth 100000
set_option linter.unusedSimpArgs false

/-- A zone of another state. -/
def ZV.to (s : Int) (z : ZV) : ZV := ⟨s, z.a, z.n, z.c, z.l⟩

/-- The zones' blocks all lie from B on. -/
def NewL (B : Nat) (Z : List ZV) : Prop := ∀ z ∈ Z, ∀ x, z.a = some x → B ≤ x.block
theorem NewL.set {B : Nat} {Z : List ZV} (h : NewL B Z) (i : Nat) {u : ZV} (hu : ∀ x, u.a = some x → B ≤ x.block) : NewL B (Z.set i u) := fun z hz => by
  rcases List.mem_or_eq_of_mem_set hz with hz | rfl
  · exact h z hz
  · exact hu
theorem NewL.at {B : Nat} {Z : List ZV} (h : NewL B Z) {i : Nat} {z : ZV} (hz : Z[i]? = some z) : ∀ x, z.a = some x → B ≤ x.block := h z (List.mem_of_getElem? hz)
theorem NewL.to {B : Nat} {Z : List ZV} (h : NewL B Z) {i : Nat} {z : ZV} (hz : Z[i]? = some z) (s : Int) : NewL B (Z.set i (z.to s)) := h.set i (u := z.to s) (fun x e => h.at hz x e)
theorem NewL.mono {B B' : Nat} {Z : List ZV} (h : NewL B Z) (hb : B' ≤ B) : NewL B' Z := fun z hz x e => Nat.le_trans hb (h z hz x e)
theorem NewL.nil (B : Nat) : NewL B [] := fun z hz => by cases hz

theorem Mine.put {w w' : World} {base g n c : Nat} {Z : List ZV} (h : Mine w base g n c Z) {i : Nat} {z : ZV} (hz : Z[i]? = some z) {s : Int} (hp : Put w w' ⟨g, i * 2, none⟩ (.int .i64 s)) :
    Mine w' base g n c (Z.set i (z.to s)) := by
  have hlen := h.zs.len
  have hi : i < Z.length := (List.getElem?_eq_some_iff.1 hz).1
  obtain ⟨y0, y1⟩ := h.cells i z hz
  have hc : ∀ j u, (Z.set i (z.to s))[j]? = some u → w'.cell? ⟨g, j * 2, none⟩ = some (.int .i64 u.s) ∧ w'.cell? ⟨g, j * 2 + 1, none⟩ = some (.slice u.a u.n u.c) := by
    intro j u hu
    by_cases hij : i = j
    · subst hij
      rw [List.getElem?_set_self hi] at hu
      cases hu
      exact ⟨hp.here, by rw [hp.other _ (by simp)]; exact y1⟩
    · rw [List.getElem?_set_ne hij] at hu
      obtain ⟨u0, u1⟩ := h.cells j u hu
      refine ⟨?_, ?_⟩
      · rw [hp.other _ (by (first | (simp; done) | (simp; omega)))]; exact u0
      · rw [hp.other _ (by (first | (simp; done) | (simp; omega)))]; exact u1
  have hoff : ∀ u ∈ Z.set i (z.to s), u.off g := fun u hu => by
    rcases List.mem_or_eq_of_mem_set hu with hu | rfl
    · exact h.off u hu
    · exact h.off z (List.mem_of_getElem? hz)
  have hok : ∀ u ∈ Z.set i (z.to s), u.ok w' := fun u hu => by
    have hw : u.ok w := by
      rcases List.mem_or_eq_of_mem_set hu with hu | rfl
      · exact h.zs.ok u hu
      · exact h.zs.ok z (List.mem_of_getElem? hz)
    exact Ints.but hw (But.of_put hp) (hoff u hu)
  refine ⟨⟨by simp [hlen], h.zs.le, h.zs.max, fun e => (by cases e), .inr ⟨g, 0, rfl, by rw [hp.size]; exact h.lt, fun j u hu => by simpa using hc j u hu⟩, hok⟩, h.base, by rw [hp.size]; exact h.lt, hc, fun j hj => ?_, hoff⟩
  rw [hp.ice]
  exact h.soft j hj

theorem Mine.but {w : World} {base g n c : Nat} {Z : List ZV} (h : Mine w base g n c Z) {w' : World} (hb : Below w.heap.size w w') : But g w w' := But.of_below hb (Nat.le_of_lt h.lt)

theorem set_to_p (Z : List ZV) (i : Nat) (z : ZV) (s : Int) : (Z.set i (z.to s)).map ZV.p = (Z.map ZV.p).set i (s, z.l) := by rw [set_p]; rfl

/-- What shutting makes of a zone's state. -/
def shutS (l : List Int) : Int := if l = [] then 0 else 3
theorem shutS_p (z : ZV) : (shutS z.l, z.l) = shutP z.p := by
  unfold shutS shutP ZV.p
  split
  · rename_i h; simp [h]
  · rfl

end Go.Proofs.YtcmladgldjcdmaaDoor

/- What stays as it was where cells of one block change; a struct's box, cell by cell; plain mathematics, no condition. -/
namespace Go.Proofs.YtcmladgldjcdmaaDoor
open Go.RowKit
set_option linter.unusedVariables false
set_option maxRecDepth 100000
set_option linter.unusedSimpArgs false

theorem Zones.but {w w' : World} {g : Nat} {a : Option Addr} {n c : Nat} {Z : List ZV} (h : Zones w a n c Z) (hb : But g w w') (hne : n = 0 ∨ ∀ x, a = some x → x.block ≠ g) (hl : ∀ z ∈ Z, z.off g) : Zones w' a n c Z := by
  refine ⟨h.len, h.le, h.max, h.nil, ?_, fun z hz => Ints.but (h.ok z hz) hb (hl z hz)⟩
  rcases hne with h0 | hne
  · exact .inl h0
  · rcases h.row with h0 | ⟨b, off, ha, hlt, hc⟩
    · exact .inl h0
    · have hg : b ≠ g := hne _ ha
      refine .inr ⟨b, off, ha, Nat.lt_of_lt_of_le hlt hb.size, fun i z hz => ?_⟩
      obtain ⟨h1, h2⟩ := hc i z hz
      exact ⟨keepb hb h1 hg, keepb hb h2 hg⟩

/-- None of the desk's lists lies in block R. -/
structure DV.off (R : Nat) (d : DV) : Prop where
  z : d.zn = 0 ∨ ∀ x, d.za = some x → x.block ≠ R
  l : ∀ z ∈ d.Z, z.off R
  k : d.kn = 0 ∨ ∀ x, d.ka = some x → x.block ≠ R
/-- All of the desk's lists lie from B on. -/
def DV.new (B : Nat) (d : DV) : Prop := ∀ R, R < B → d.off R
theorem DV.ok.but {w w' : World} {g : Nat} {d : DV} (h : d.ok w) (hb : But g w w') (ho : d.off g) : d.ok w' := ⟨h.z.but hb ho.z ho.l, h.k.but hb ho.k⟩
theorem DV.ok.off {w : World} {d : DV} (h : d.ok w) {R : Nat} (hR : w.heap.size ≤ R) : d.off R := by
  refine ⟨?_, fun z hz => Ints.offs (h.z.ok z hz) hR, h.k.offs hR⟩
  rcases h.z.row with h0 | ⟨b, off, ha, hlt, _⟩
  · exact .inl h0
  · exact .inr fun x e => by rw [ha] at e; cases e; simp; omega
theorem DV.new.mono {B B' : Nat} {d : DV} (h : d.new B) (hb : B' ≤ B) : d.new B' := fun R hR => h R (by omega)
theorem DV.zero_new (B : Nat) : DV.zero.new B := fun R _ => ⟨.inl rfl, fun z hz => (by cases hz), .inl rfl⟩
theorem DV.zero_off (R : Nat) : DV.zero.off R := ⟨.inl rfl, fun z hz => (by cases hz), .inl rfl⟩

def AV.off (R : Nat) (x : AV) : Prop := x.n = 0 ∨ ∀ y, x.a = some y → y.block ≠ R
def AV.new (B : Nat) (x : AV) : Prop := ∀ R, R < B → x.off R
theorem AV.ok.but {w w' : World} {g : Nat} {x : AV} (h : x.ok w) (hb : But g w w') (ho : x.off g) : x.ok w' := Ints.but h hb ho
theorem AV.ok.off {w : World} {x : AV} (h : x.ok w) {R : Nat} (hR : w.heap.size ≤ R) : x.off R := Ints.offs h hR
theorem AV.new.mono {B B' : Nat} {x : AV} (h : x.new B) (hb : B' ≤ B) : x.new B' := fun R hR => h R (by omega)
theorem AV.err_new (B : Nat) (e : Int) : (AV.err e).new B := fun R _ => .inl rfl

def DV.cells (d : DV) : List Value := [.slice d.za d.zn d.zc, .slice d.ka d.kn d.kc, .int .i64 d.b.h, .int .i64 d.b.t]

end Go.Proofs.YtcmladgldjcdmaaDoor
