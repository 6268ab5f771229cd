/- The contracts of the document's own CheckDesk, SameDesk, CheckAnswer, SameAnswer and FreshDesk; no condition but that the arguments read as data. -/
import Derived.Test.YtkamnbigfdbgbaaGreatDoorDeskSaysG22
import Derived.Test.YtkamnbigfdbgbaaGreatDoorDeskSaysG5
import Derived.Deep.RegionHeld3
import Derived.Test.YtkamnbigfdbgbaaGreatDoorDeskSaysG1
import Derived.Maps.OwnOps
import Derived.RegionTactic
import Derived.Test.YtkamnbigfdbgbaaGreatDoorProg
namespace Go.Proofs.YtkamnbigfdbgbaaGreatDoor
open Go.RowKit
set_option linter.unusedVariables false
set_option maxRecDepth 100000
set_option linter.unusedSimpArgs false

theorem CheckDesk_c (d : DV) (w : World) (h : d.ok w) : Calls Tryz.prog 5 #[d.v] w fun e w' => e = .returned (.int .i64 (checkD d.p)) ∧ Below w.heap.size w w' := by
  obtain ⟨za, zn, zc, Z, ka, kn, kc, b⟩ := d
  obtain ⟨hz, hk⟩ := h
  dsimp only [DV.v, DV.p] at *
  have HC : Hid (checkD ⟨Z.map ZV.p, b⟩ = if checkZs (Z.map ZV.p) ≠ 0 then checkZs (Z.map ZV.p) else checkB b) := hide rfl
  go_enter Tryz.func5, Tryz.ntmps5
  go_wp2_with fail
  refine (CheckZones_c za zn zc Z _ (hz.below (B := w.heap.size) (by (repeat first | exact bel0 | assumption | refine bel1 ?_ | refine bel2 ?_ | refine bel3 ?_ | refine belowT ?_ (by assumption) | refine bel5 ?_ (by simp; try omega))) (Nat.le_refl _))).mono ?_
  rintro e w1 ⟨rfl, hb1⟩
  have c1 := keepc hb1 (p := ⟨w.heap.size, 1, none⟩) (u := .slice ka kn kc) (by go_simp)
  have c2 := keepc hb1 (p := ⟨w.heap.size, 2, none⟩) (u := .int .i64 b.h) (by go_simp)
  have c3 := keepc hb1 (p := ⟨w.heap.size, 3, none⟩) (u := .int .i64 b.t) (by go_simp)
  have bw : Below w.heap.size w w1 := by (repeat first | exact bel0 | assumption | refine bel1 ?_ | refine bel2 ?_ | refine bel3 ?_ | refine belowT ?_ (by assumption) | refine bel5 ?_ (by simp; try omega))
  clear hb1
  generalize hx : checkZs (Z.map ZV.p) = x at *
  clear hx
  cases h0 : x != 0
  · go_wp2_with fail
    refine (CheckBook_c ka kn kc b _ (hk.below bw (Nat.le_refl _))).mono ?_
    rintro e w2 ⟨rfl, hb2⟩
    go_wp2
    go_ret
    exact ⟨ret_int (by rw [HC.out]; simp at h0; simp [h0]), by (repeat first | exact bel0 | assumption | refine bel1 ?_ | refine bel2 ?_ | refine bel3 ?_ | refine belowT ?_ (by assumption) | refine bel5 ?_ (by simp; try omega))⟩
  · go_wp2
    go_ret
    exact ⟨ret_int (by rw [HC.out]; simp at h0; simp [h0]), bw⟩

theorem SameDesk_c (d f : DV) (w : World) (h : d.ok w) (k : f.ok w) : Calls Tryz.prog 11 #[d.v, f.v] w fun e w' => e = .returned (.bool (sameD d.p f.p)) ∧ Below w.heap.size w w' := by
  obtain ⟨za, zn, zc, Z, ka, kn, kc, b⟩ := d
  obtain ⟨ya, yn, yc, Y, la, ln, lc, f⟩ := f
  obtain ⟨hz, hk⟩ := h
  obtain ⟨hy, hl⟩ := k
  dsimp only [DV.v, DV.p] at *
  have HS : Hid (sameD ⟨Z.map ZV.p, b⟩ ⟨Y.map ZV.p, f⟩ = (decide (Z.map ZV.p = Y.map ZV.p) && sameB b f)) := hide rfl
  go_enter Tryz.func11, Tryz.ntmps11
  go_wp2_with fail
  refine (SameZones_c za ya zn yn zc yc Z Y _ (hz.below (B := w.heap.size) (by (repeat first | exact bel0 | assumption | refine bel1 ?_ | refine bel2 ?_ | refine bel3 ?_ | refine belowT ?_ (by assumption) | refine bel5 ?_ (by simp; try omega))) (Nat.le_refl _)) (hy.below (B := w.heap.size) (by (repeat first | exact bel0 | assumption | refine bel1 ?_ | refine bel2 ?_ | refine bel3 ?_ | refine belowT ?_ (by assumption) | refine bel5 ?_ (by simp; try omega))) (Nat.le_refl _))).mono ?_
  rintro e w1 ⟨rfl, hb1⟩
  have c1 := keepc hb1 (p := ⟨w.heap.size, 1, none⟩) (u := .slice ka kn kc) (by go_simp)
  have c2 := keepc hb1 (p := ⟨w.heap.size, 2, none⟩) (u := .int .i64 b.h) (by go_simp)
  have c3 := keepc hb1 (p := ⟨w.heap.size, 3, none⟩) (u := .int .i64 b.t) (by go_simp)
  have d1 := keepc hb1 (p := ⟨w.heap.size + 1, 1, none⟩) (u := .slice la ln lc) (by go_simp)
  have d2 := keepc hb1 (p := ⟨w.heap.size + 1, 2, none⟩) (u := .int .i64 f.h) (by go_simp)
  have d3 := keepc hb1 (p := ⟨w.heap.size + 1, 3, none⟩) (u := .int .i64 f.t) (by go_simp)
  have bw : Below w.heap.size w w1 := by (repeat first | exact bel0 | assumption | refine bel1 ?_ | refine bel2 ?_ | refine bel3 ?_ | refine belowT ?_ (by assumption) | refine bel5 ?_ (by simp; try omega))
  clear hb1
  generalize decide (Z.map ZV.p = Y.map ZV.p) = x at *
  cases x
  · go_wp2
    go_ret
    exact ⟨ret_bool (by rw [HS.out]; rfl), bw⟩
  · go_wp2_with fail
    refine (SameBook_c ka la kn ln kc lc b f _ (hk.below bw (Nat.le_refl _)) (hl.below bw (Nat.le_refl _))).mono ?_
    rintro e w2 ⟨rfl, hb2⟩
    go_wp2
    go_ret
    exact ⟨ret_bool (by rw [HS.out]; simp), by (repeat first | exact bel0 | assumption | refine bel1 ?_ | refine bel2 ?_ | refine bel3 ?_ | refine belowT ?_ (by assumption) | refine bel5 ?_ (by simp; try omega))⟩

theorem SameAnswerR_c (x y : AV) (w : World) (hx : x.ok w) (hy : y.ok w) : Calls Tryz.prog 15 #[x.v, y.v] w fun e w' => e = .returned (.bool (sameA x.p y.p)) ∧ Below w.heap.size w w' := by
  obtain ⟨e1, t1, a1, n1, c1, l1⟩ := x
  obtain ⟨e2, t2, a2, n2, c2, l2⟩ := y
  dsimp only [AV.v, AV.p]
  have h1 : Ints w a1 n1 c1 l1 := hx
  have h2 : Ints w a2 n2 c2 l2 := hy
  have HS : Hid (sameA ⟨e1, t1, l1⟩ ⟨e2, t2, l2⟩ = (e1 == e2 && (t1 == t2 && decide (l1 = l2)))) := hide (by rw [Bool.eq_iff_iff]; simp [sameA])
  cases he : e1 == e2
  · go_enter Tryz.func15, Tryz.ntmps15
    go_wp2
    go_ret
    exact ⟨ret_bool (by rw [HS.out, he]; rfl), by (repeat first | exact bel0 | assumption | refine bel1 ?_ | refine bel2 ?_ | refine bel3 ?_ | refine belowT ?_ (by assumption) | refine bel5 ?_ (by simp; try omega))⟩
  · cases ht : t1 == t2
    · go_enter Tryz.func15, Tryz.ntmps15
      go_wp2
      go_ret
      exact ⟨ret_bool (by rw [HS.out, he, ht]; rfl), by (repeat first | exact bel0 | assumption | refine bel1 ?_ | refine bel2 ?_ | refine bel3 ?_ | refine belowT ?_ (by assumption) | refine bel5 ?_ (by simp; try omega))⟩
    · go_enter Tryz.func15, Tryz.ntmps15
      go_wp2_with fail
      refine (Equal_c a1 a2 n1 n2 c1 c2 l1 l2 _ (h1.below (B := w.heap.size) (by (repeat first | exact bel0 | assumption | refine bel1 ?_ | refine bel2 ?_ | refine bel3 ?_ | refine belowT ?_ (by assumption) | refine bel5 ?_ (by simp; try omega))) (Nat.le_refl _)) (h2.below (B := w.heap.size) (by (repeat first | exact bel0 | assumption | refine bel1 ?_ | refine bel2 ?_ | refine bel3 ?_ | refine belowT ?_ (by assumption) | refine bel5 ?_ (by simp; try omega))) (Nat.le_refl _))).mono ?_
      rintro e w1 ⟨rfl, q, rfl⟩
      go_wp2
      go_ret
      exact ⟨ret_bool (by rw [HS.out, he, ht]; simp), by (repeat first | exact bel0 | assumption | refine bel1 ?_ | refine bel2 ?_ | refine bel3 ?_ | refine belowT ?_ (by assumption) | refine bel5 ?_ (by simp; try omega))⟩


set_option maxHeartbeats 2000000 in
theorem CheckAnswerR_c (x : AV) (w : World) (h : x.ok w) : Calls Tryz.prog 9 #[x.v] w fun e w' => e = .returned (.int .i64 (checkA x.p)) ∧ Below w.heap.size w w' := by
  obtain ⟨ee, tt, a, n, c, l⟩ := x
  have hI : Ints w a n c l := h
  dsimp only [AV.v, AV.p]
  have hlen := hI.len
  have hmax := hI.max
  have hle := hI.le
  cases h1 : inB ee 0 9
  · have HC : Hid (checkA ⟨ee, tt, l⟩ = 3) := hide (by unfold checkA; exact if_pos (.inl (by rw [inB_outB] at h1; simpa using h1)))
    have H1 := hide h1
    clear h1
    go_enter Tryz.func9, Tryz.ntmps9
    go_wp2_with (go_at_call 26; refine (in_c _ _ _ _).mono ?_; rintro e w1 ⟨rfl, rfl⟩; rw [H1.out])
    go_ret
    exact ⟨ret_int HC.out.symm, by (repeat first | exact bel0 | assumption | refine bel1 ?_ | refine bel2 ?_ | refine bel3 ?_ | refine belowT ?_ (by assumption) | refine bel5 ?_ (by simp; try omega))⟩
  · cases h2 : inB tt 0 7
    · have HC : Hid (checkA ⟨ee, tt, l⟩ = 3) := hide (by unfold checkA; exact if_pos (.inr (by rw [inB_outB] at h2; simpa using h2)))
      have H1 := hide h1
      have H2 := hide h2
      clear h1 h2
      go_enter Tryz.func9, Tryz.ntmps9
      go_wp2_with fail
      refine (in_c _ _ _ _).mono ?_
      rintro e w1 ⟨rfl, rfl⟩
      rw [H1.out]
      go_wp2_with fail
      refine (in_c _ _ _ _).mono ?_
      rintro e w1 ⟨rfl, rfl⟩
      rw [H2.out]
      go_wp2
      go_ret
      exact ⟨ret_int HC.out.symm, by (repeat first | exact bel0 | assumption | refine bel1 ?_ | refine bel2 ?_ | refine bel3 ?_ | refine belowT ?_ (by assumption) | refine bel5 ?_ (by simp; try omega))⟩
    · have hb1 : 0 ≤ ee ∧ ee ≤ 9 := by simp [inB] at h1; omega
      have hb2 : 0 ≤ tt ∧ tt ≤ 7 := by simp [inB] at h2; omega
      have HC : Hid (checkA ⟨ee, tt, l⟩ = if 8 < l.length then 2 else if l.any (outB 0 999) then 3 else if ee ≠ 0 ∧ (tt ≠ 0 ∨ l ≠ []) then 4 else 0) := hide (by
        unfold checkA
        exact if_neg (by rw [inB_outB] at h1 h2; simp only [Bool.not_eq_true'] at h1 h2; rw [h1, h2]; simp))
      have H1 := hide h1
      have H2 := hide h2
      have HB := hide (And.intro hb1 hb2)
      clear h1 h2 hb1 hb2
      go_enter Tryz.func9, Tryz.ntmps9
      go_wp2_with fail
      refine (in_c _ _ _ _).mono ?_
      rintro e w1 ⟨rfl, rfl⟩
      rw [H1.out]
      go_wp2_with fail
      refine (in_c _ _ _ _).mono ?_
      rintro e w1 ⟨rfl, rfl⟩
      rw [H2.out]
      by_cases h8 : 8 < n
      · have h8' : (8 : Int) < (n : Int) := by omega
        go_wp2
        go_ret
        exact ⟨ret_int (by rw [HC.out, hlen, if_pos h8]), by (repeat first | exact bel0 | assumption | refine bel1 ?_ | refine bel2 ?_ | refine bel3 ?_ | refine belowT ?_ (by assumption) | refine bel5 ?_ (by simp; try omega))⟩
      · have h8' : ¬ (8 : Int) < (n : Int) := by omega
        go_wp2_with fail
        refine (all_c a n c l 0 999 _ (hI.below (B := w.heap.size) (by (repeat first | exact bel0 | assumption | refine bel1 ?_ | refine bel2 ?_ | refine bel3 ?_ | refine belowT ?_ (by assumption) | refine bel5 ?_ (by simp; try omega))) (Nat.le_refl _))).mono ?_
        rintro e w1 ⟨rfl, rfl⟩
        rw [all_any]
        cases hany : l.any (outB 0 999)
        · by_cases e0 : 0 < ee
          · by_cases t0 : 0 < tt
            · go_wp2
              go_ret
              exact ⟨ret_int (by rw [HC.out, hlen, if_neg h8, hany, if_neg (by simp), if_pos ⟨by omega, .inl (by omega)⟩]), by (repeat first | exact bel0 | assumption | refine bel1 ?_ | refine bel2 ?_ | refine bel3 ?_ | refine belowT ?_ (by assumption) | refine bel5 ?_ (by simp; try omega))⟩
            · by_cases hn0 : 0 < n
              · have hn0' : (0 : Int) < (n : Int) := by omega
                go_wp2
                go_ret
                have hl : l ≠ [] := fun e => by rw [e] at hlen; simp at hlen; omega
                exact ⟨ret_int (by rw [HC.out, hlen, if_neg h8, hany, if_neg (by simp), if_pos ⟨by omega, .inr hl⟩]), by (repeat first | exact bel0 | assumption | refine bel1 ?_ | refine bel2 ?_ | refine bel3 ?_ | refine belowT ?_ (by assumption) | refine bel5 ?_ (by simp; try omega))⟩
              · have hn0' : ¬ (0 : Int) < (n : Int) := by omega
                go_wp2
                go_ret
                have hl : l = [] := List.eq_nil_of_length_eq_zero (by omega)
                have hB := HB.out
                exact ⟨ret_int (by rw [HC.out, hlen, if_neg h8, hany, if_neg (by simp), if_neg (by rw [hl]; simp; omega)]), by (repeat first | exact bel0 | assumption | refine bel1 ?_ | refine bel2 ?_ | refine bel3 ?_ | refine belowT ?_ (by assumption) | refine bel5 ?_ (by simp; try omega))⟩
          · go_wp2
            go_ret
            have hB := HB.out
            exact ⟨ret_int (by rw [HC.out, hlen, if_neg h8, hany, if_neg (by simp), if_neg (by omega)]), by (repeat first | exact bel0 | assumption | refine bel1 ?_ | refine bel2 ?_ | refine bel3 ?_ | refine belowT ?_ (by assumption) | refine bel5 ?_ (by simp; try omega))⟩
        · go_wp2
          go_ret
          exact ⟨ret_int (by rw [HC.out, hlen, if_neg h8, hany]; rfl), by (repeat first | exact bel0 | assumption | refine bel1 ?_ | refine bel2 ?_ | refine bel3 ?_ | refine belowT ?_ (by assumption) | refine bel5 ?_ (by simp; try omega))⟩

end Go.Proofs.YtkamnbigfdbgbaaGreatDoor

/- A region whose operations come in any order, by an invariant over what has come; and small maps of ints that a call makes; plain, no condition. -/
namespace Go.Proofs.YtkamnbigfdbgbaaGreatDoor
open Go.RowKit
open Go.Maps (Keyed)
set_option linter.unusedVariables false
set_option maxRecDepth 100000
set_option linter.unusedSimpArgs false

/-- How many operations have not come yet. -/
def unlisted (L : Array Bool) : Nat := L.toList.countP (fun b => !b)

theorem unlisted_set {L : Array Bool} {i : Nat} (h : L.getD i true = false) : unlisted (L.setIfInBounds i true) + 1 = unlisted L := by
  have hi : i < L.size := by
    rcases Nat.lt_or_ge i L.size with h' | h'
    · exact h'
    · simp [Array.getElem?_eq_none h'] at h
  have hx : L.toList[i]'(by simpa using hi) = false := by simpa [hi] using h
  unfold unlisted
  rw [Array.toList_setIfInBounds, List.countP_set (by simpa using hi), hx]
  have : 0 < L.toList.countP (fun b => !b) := List.countP_pos_iff.2 ⟨false, by rw [← hx]; exact List.getElem_mem _, rfl⟩
  simp only [Bool.not_false, Bool.not_true, if_true]
  rw [if_neg (by simp)]
  omega

theorem wpAny_inv {P : Program} {md : Region.Mode} {ops : Array Oper} {Q : Exit → Act → World → Prop} (Inv : Array Bool → Act → World → Prop)
    (hdone : ∀ L a w, Inv L a w → Region.ready md ops L = [] → Q .normal a w)
    (hstep : ∀ L a w, Inv L a w → ∀ i o, ops[i]? = some o → L.getD i true = false → (∀ e ∈ o.after, Region.binds md e = true → L.getD e.on false = true) → wpOp P ops Q i (Inv (L.setIfInBounds i true)) a w) :
    ∀ (fuel : Nat) (L : Array Bool) (a : Act) (w : World), unlisted L ≤ fuel → Inv L a w → wpAny P md ops Q fuel L a w := by
  intro fuel
  induction fuel with
  | zero =>
    intro L a w hf hI
    have hr : Region.ready md ops L = [] := by
      apply List.eq_nil_iff_forall_not_mem.2
      intro i hi
      have := unlisted_set (mem_ready.1 hi).1
      omega
    exact ⟨hr, hdone L a w hI hr⟩
  | succ fuel ih =>
    intro L a w hf hI
    refine ⟨fun hr => hdone L a w hI hr, fun i hi => ?_⟩
    obtain ⟨h0, o, ho, hall⟩ := mem_ready.1 hi
    refine wpOp_mono (fun a' w' h => ih _ _ _ ?_ h) (hstep L a w hI i o ho h0 hall)
    have := unlisted_set h0
    omega

theorem bit_ne {L : Array Bool} {i j : Nat} (h : i ≠ j) (d : Bool) : (L.setIfInBounds i true).getD j d = L.getD j d := getD_set_ne d h
theorem bit_no {L : Array Bool} {i : Nat} (h : L.getD i true = false) : L.getD i false = false := by
  rcases Nat.lt_or_ge i L.size with h' | h'
  · simpa [h'] using h
  · simp [Array.getElem?_eq_none h'] at h

/-- What is ready comes: where nothing is, an operation all of whose forerunners have come has come too. -/
theorem bit_done {md : Region.Mode} {ops : Array Oper} {L : Array Bool} (hr : Region.ready md ops L = []) (i : Nat) (o : Oper) (ho : ops[i]? = some o) (hs : L.size = ops.size)
    (h : ∀ e ∈ o.after, Region.binds md e = true → L.getD e.on false = true) : L.getD i false = true := by
  have hi : i < L.size := by rw [hs]; exact (Array.getElem?_eq_some_iff.1 ho).1
  cases hb : L.getD i false with
  | true => rfl
  | false =>
    have : i ∈ Region.ready md ops L := mem_ready.2 ⟨by simpa [hi] using hb, o, ho, h⟩
    rw [hr] at this
    cases this

end Go.Proofs.YtkamnbigfdbgbaaGreatDoor

/- A frame of which some slots are set, in whatever order; and how the operations of a map's literal go there; plain, no condition. -/
namespace Go.Proofs.YtkamnbigfdbgbaaGreatDoor
open Go.RowKit
open Go.Maps (Keyed)
set_option linter.unusedVariables false
set_option maxRecDepth 100000
set_option linter.unusedSimpArgs false

/-- The values of a frame, those that S names by v. -/
def over (S : Nat → Bool) (v : Nat → Value) : Nat → List Value → List Value
  | _, [] => []
  | i, x :: r => (if S i then v i else x) :: over S v (i + 1) r
def upd (v : Nat → Value) (i : Nat) (u : Value) : Nat → Value := fun j => if j = i then u else v j
theorem upd_same (v : Nat → Value) (i : Nat) (u : Value) : upd v i u i = u := by simp [upd]
theorem upd_ne (v : Nat → Value) {i j : Nat} (h : j ≠ i) (u : Value) : upd v i u j = v j := by simp [upd, h]
theorem over_get (S : Nat → Bool) (v : Nat → Value) : ∀ (l : List Value) (i j : Nat), (over S v i l)[j]? = l[j]?.map fun x => if S (i + j) then v (i + j) else x
  | [], i, j => by simp [over]
  | x :: r, i, 0 => by simp [over]
  | x :: r, i, j + 1 => by
    simp only [over, List.getElem?_cons_succ]
    rw [over_get S v r (i + 1) j, show i + 1 + j = i + (j + 1) by omega]
theorem over_len (S : Nat → Bool) (v : Nat → Value) : ∀ (l : List Value) (i : Nat), (over S v i l).length = l.length
  | [], i => rfl
  | x :: r, i => by simp [over, over_len S v r]
theorem over_set (S : Nat → Bool) (v : Nat → Value) (u : Value) : ∀ (l : List Value) (i j : Nat), S (i + j) = true → (over S v i l).set j u = over S (upd v (i + j) u) i l := by
  intro l i j hs
  apply List.ext_getElem?
  intro n
  rw [over_get]
  by_cases e : j = n
  · subst e
    by_cases hl : j < l.length
    · rw [List.getElem?_set_self (by rw [over_len]; exact hl)]
      simp [hs, upd_same, hl]
    · rw [List.getElem?_eq_none (by rw [List.length_set, over_len]; omega), List.getElem?_eq_none (by omega)]; rfl
  · rw [List.getElem?_set_ne e, over_get]
    congr 1
    funext x
    rw [upd_ne v (by omega)]
theorem over_id (S : Nat → Bool) (v : Nat → Value) : ∀ (l : List Value) (i : Nat), (∀ j x, l[j]? = some x → S (i + j) = true → v (i + j) = x) → over S v i l = l := by
  intro l i h
  apply List.ext_getElem?
  intro n
  rw [over_get]
  cases hx : l[n]? with
  | none => rfl
  | some x =>
    simp only [Option.map_some, Option.some.injEq]
    split
    · exact h n x hx ‹_›
    · rfl

/-- The frame a0, but that the slots of S hold v. -/
def laid (S : Nat → Bool) (a0 : Act) (v : Nat → Value) : Act := ⟨(over S v 0 a0.tmps.toList).toArray, a0.defers⟩
theorem laid_put {S : Nat → Bool} {a0 : Act} {v : Nat → Value} {i : Nat} (hs : S i = true) (u : Value) : (laid S a0 v).put (some i) u = laid S a0 (upd v i u) := by
  unfold laid Act.put
  simp only [List.setIfInBounds_toArray, Act.mk.injEq, and_true]
  rw [over_set S v u _ 0 i (by simpa using hs)]
  simp
theorem laid_eval {S : Nat → Bool} {a0 : Act} {v : Nat → Value} {i : Nat} (hs : S i = true) (hi : i < a0.tmps.size) : (laid S a0 v).eval (.tmp i) = v i := by
  have := over_get S v a0.tmps.toList 0 i
  simp [hi, hs] at this
  have hl : i < (over S v 0 a0.tmps.toList).length := by rw [over_len]; simpa using hi
  rw [List.getElem?_eq_getElem hl] at this
  simp [laid, Act.eval, Array.getD, hl]
  simpa using this
theorem laid_out {S : Nat → Bool} {a0 : Act} {v : Nat → Value} {i : Nat} (hs : S i = false) : (laid S a0 v).eval (.tmp i) = a0.eval (.tmp i) := by
  have := over_get S v a0.tmps.toList 0 i
  simp [hs] at this
  rcases Nat.lt_or_ge i a0.tmps.size with hi | hi
  · have hl : i < (over S v 0 a0.tmps.toList).length := by rw [over_len]; simpa using hi
    rw [List.getElem?_eq_getElem hl] at this
    simp [laid, Act.eval, Array.getD, hl, hi]
    simpa [hi] using this
  · have hl : ¬ i < (over S v 0 a0.tmps.toList).length := by rw [over_len]; simpa using hi
    simp [laid, Act.eval, Array.getD, hl, show ¬ i < a0.tmps.size by omega]
theorem laid_id (S : Nat → Bool) (a0 : Act) : laid S a0 (fun i => a0.tmps.getD i undef) = a0 := by
  unfold laid
  rw [over_id S _ _ 0 (fun j x hx _ => by simp at hx; simp [hx])]

section
variable {P : Program} {ops : Array Oper} {Q : Exit → Act → World → Prop} {K : Act → World → Prop} {i : Nat} {o : Oper} {a : Act} {w : World}

theorem op_of (ho : ops[i]? = some o) (hg : o.guard = none) (h : Oper.wp P o a w K Q) : wpOp P ops Q i K a w := by
  unfold wpOp
  rw [ho]
  simp [Region.wanted, hg]
  exact .inl h

theorem op_makeMap (ho : ops[i]? = some o) (hg : o.guard = none) {t : TypeId} (hop : o.op = Op.makeMap t none) (h : K (a.put o.dst (.map (some w.heap.size))) (w.alloc (.map #[] 0))) : wpOp P ops Q i K a w := by
  refine op_of ho hg ?_
  unfold Oper.wp
  simp [execOp, hop, run_makeMap, Result.andThen]
  exact h

theorem op_move (ho : ops[i]? = some o) (hg : o.guard = none) {x : Operand} (hop : o.op = Op.move x ∨ o.op = Op.assign x) (h : K (a.put o.dst (a.eval x)) w) : wpOp P ops Q i K a w := by
  refine op_of ho hg ?_
  unfold Oper.wp
  rcases hop with hop | hop
  · simp [execOp, hop, Result.andThen]
    exact h
  · simp [execOp, hop, Result.andThen]
    exact h

theorem op_insert (ho : ops[i]? = some o) (hg : o.guard = none) {m x u : Operand} {t : TypeId} (hop : o.op = Op.insert t m x u) {k e : TypeId} (L : Keyed P k) (ht : P.underlying t = some (.map k e))
    {R : Value → Option (DataW Unit × List MemPlace)} {b n : Nat} {D : DataW Unit} (hm : a.eval m = .map (some b)) (hown : w.ownsMap P k R b n D) (hn : n < maxLen) {kl : Lit} {d : DataW Unit} {ps : List MemPlace}
    (hkey : Go.keyOf P k (a.eval x) = some kl) (hval : R (a.eval u) = some (d, ps)) (h : ∀ w', w'.ownsMap P k R b (n + 1) (D.put kl d) → w.grownBy w' (some b) → K (a.put o.dst undef) w') : wpOp P ops Q i K a w := by
  refine op_of ho hg ?_
  obtain ⟨w', hrun, r1, r2⟩ := hown.update L ht hn hkey hval
  unfold Oper.wp
  simp [execOp, hop, hm, hrun, Result.andThen]
  exact h w' r1 r2

theorem op_lookup (ho : ops[i]? = some o) (hg : o.guard = none) {m x : Operand} {t : TypeId} (hop : o.op = Op.lookup t m x false) {k e : TypeId} {q : IntKind} (L : Keyed P k) (ht : P.underlying t = some (.map k e)) (he : P.underlying e = some (.int q))
    (hz : (zeroValue e).run P w = .ok (.int q 0) w) {b n : Nat} {D : DataW Unit} (hm : a.eval m = .map (some b)) (hown : w.ownsMap P k (plainElem P e) b n D) {kl : Lit} (hkey : Go.keyOf P k (a.eval x) = some kl)
    (h : ∀ c : Int, D.atKey kl (.lit (.int q 0)) = .lit (.int q c) → K (a.put o.dst (.int q c)) w) : wpOp P ops Q i K a w := by
  refine op_of ho hg ?_
  obtain ⟨c, hrun, hat, hwc⟩ := hown.lookup_int L ht he hz hkey
  unfold Oper.wp
  simp [execOp, hop, hm, hrun, Result.andThen]
  exact h c hat
end

end Go.Proofs.YtkamnbigfdbgbaaGreatDoor
