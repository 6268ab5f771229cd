/- The two small maps of the document's own OnBook, whatever the order in which they are made, filled and read; no condition. -/
import Derived.Test.YtkamnbigfdbgbaaGreatDoorDeskSaysG23
namespace Go.Proofs.YtkamnbigfdbgbaaGreatDoor
open Go.RowKit
open Go.Maps (Keyed)
set_option linter.unusedVariables false
set_option maxRecDepth 100000
set_option linter.unusedSimpArgs false

theorem lawI : Keyed Tryz.prog 3 := Go.Maps.int_keyed Tryz.underlying3
theorem zeroI (w : World) : (zeroValue 3).run Tryz.prog w = .ok (.int .i64 0) w := by kernel_rfl
theorem readI (x : Int) (hw : (Lit.int .i64 x).wf = true) : (plainElem Tryz.prog 3 : Value → Option (DataW Unit × List MemPlace)) (.int .i64 x) = some (.lit (.int .i64 x), []) := plainElem_int Tryz.underlying3 hw

/-- Has it come? -/
def bt (L : Array Bool) (j : Nat) : Bool := L.getD j false
theorem bt_set {L : Array Bool} {i : Nat} (h : i < L.size) (j : Nat) : bt (L.setIfInBounds i true) j = (decide (j = i) || bt L j) := by
  unfold bt
  by_cases e : j = i
  · subst e; simp [h]
  · rw [bit_ne (Ne.symm e)]; simp [e]

def ent (b : Bool) (k x : Int) : List (Lit × DataW Unit) := if b then [(.int .i64 k, .lit (.int .i64 x))] else []
def D1 (b c : Bool) : DataW Unit := .map (ent b 9 1 ++ ent c 11 1)
def D2 (b c d : Bool) : DataW Unit := .map (ent c 8 9 ++ ent b 9 4 ++ ent d 11 9)
def SB (i : Nat) : Bool := i == 12 || i == 13 || (decide (33 ≤ i) && decide (i ≤ 40))
def leastK (kd : Int) : Int := if kd = 9 ∨ kd = 11 then 1 else 0
def mostK (kd : Int) : Int := if kd = 9 then 4 else if kd = 8 ∨ kd = 11 then 9 else 0

structure BM (w0 : World) (kd : Int) (a0 : Act) (L : Array Bool) (a : Act) (w : World) (v : Nat → Value) : Prop where
  sz : L.size = 15
  az : 40 < a0.tmps.size
  hk : a0.eval (.tmp 1) = .int .i64 kd
  act : a = laid SB a0 v
  bel : Below w0.heap.size w0 w
  m1 : bt L 0 = true → ∃ m, v 33 = .map (some m) ∧ w0.heap.size ≤ m ∧ w.ownsMap Tryz.prog 3 (plainElem Tryz.prog 3) m ((bt L 1).toNat + (bt L 2).toNat) (D1 (bt L 1) (bt L 2))
  m2 : bt L 6 = true → ∃ m, v 37 = .map (some m) ∧ w0.heap.size ≤ m ∧ w.ownsMap Tryz.prog 3 (plainElem Tryz.prog 3) m ((bt L 7).toNat + (bt L 8).toNat + (bt L 9).toNat) (D2 (bt L 7) (bt L 8) (bt L 9))
  ne : bt L 0 = true → bt L 6 = true → v 33 ≠ v 37
  c1 : bt L 1 = true → bt L 0 = true
  c2 : bt L 2 = true → bt L 0 = true
  c7 : bt L 7 = true → bt L 6 = true
  c8 : bt L 8 = true → bt L 6 = true
  c9 : bt L 9 = true → bt L 6 = true
  b3 : bt L 3 = true → v 34 = v 33 ∧ bt L 0 = true ∧ bt L 1 = true ∧ bt L 2 = true
  b4 : bt L 4 = true → v 35 = .int .i64 kd
  b5 : bt L 5 = true → v 36 = .int .i64 (leastK kd)
  b10 : bt L 10 = true → v 38 = v 37 ∧ bt L 6 = true ∧ bt L 7 = true ∧ bt L 8 = true ∧ bt L 9 = true
  b11 : bt L 11 = true → v 39 = .int .i64 kd
  b12 : bt L 12 = true → v 40 = .int .i64 (mostK kd)
  b13 : bt L 13 = true → v 12 = .int .i64 (leastK kd)
  b14 : bt L 14 = true → v 13 = .int .i64 (mostK kd)

def BI (w0 : World) (kd : Int) (a0 : Act) (L : Array Bool) (a : Act) (w : World) : Prop := ∃ v, BM w0 kd a0 L a w v

section
variable {ops : Array Oper} {Q : Exit → Act → World → Prop} {w0 : World} {kd : Int} {a0 : Act} {L : Array Bool} {a : Act} {w : World} {o : Oper}

theorem bt_no {i : Nat} (h : L.getD i true = false) : bt L i = false := bit_no h

/-- A slot is set, nothing else turns: of the relation what the new slot says is left to be shown. -/
theorem BI.slot {v : Nat → Value} (h : BM w0 kd a0 L a w v) {i s : Nat} {u : Value} (hi : i < 15) (hS : SB s = true)
    (h' : BM w0 kd a0 (L.setIfInBounds i true) (laid SB a0 (upd v s u)) w (upd v s u)) : BI w0 kd a0 (L.setIfInBounds i true) (a.put (some s) u) w := by
  refine ⟨upd v s u, ?_⟩
  rw [h.act, laid_put hS]
  exact h'

theorem step3 (ho : ops[3]? = some o) (hg : o.guard = none) (hd : o.dst = some 34) (hop : o.op = .move (.tmp 33)) (h : BI w0 kd a0 L a w) (hn : L.getD 3 true = false) (h0 : bt L 0 = true) (h1 : bt L 1 = true) (h2 : bt L 2 = true) : wpOp Tryz.prog ops Q 3 (BI w0 kd a0 (L.setIfInBounds 3 true)) a w := by
  obtain ⟨v, h⟩ := h
  have hs := h.sz
  have b := fun j => bt_set (L := L) (i := 3) (by omega) j
  have ev : a.eval (.tmp 33) = v 33 := by rw [h.act]; exact laid_eval rfl (by have := h.az; omega)
  refine op_move ho hg (.inl hop) ?_
  rw [hd, ev]
  refine BI.slot h (by omega) rfl ?_
  exact ⟨by simp [hs], h.az, h.hk, rfl, h.bel, by simpa [b, upd] using h.m1, by simpa [b, upd] using h.m2, by simpa [b, upd] using h.ne, by simpa [b, upd] using h.c1, by simpa [b, upd] using h.c2, by simpa [b, upd] using h.c7, by simpa [b, upd] using h.c8, by simpa [b, upd] using h.c9, fun _ => by simp [b, upd, h0, h1, h2], by simpa [b, upd] using h.b4, by simpa [b, upd] using h.b5, by simpa [b, upd] using h.b10, by simpa [b, upd] using h.b11, by simpa [b, upd] using h.b12, by simpa [b, upd] using h.b13, by simpa [b, upd] using h.b14⟩

theorem step10 (ho : ops[10]? = some o) (hg : o.guard = none) (hd : o.dst = some 38) (hop : o.op = .move (.tmp 37)) (h : BI w0 kd a0 L a w) (hn : L.getD 10 true = false) (h6 : bt L 6 = true) (h7 : bt L 7 = true) (h8 : bt L 8 = true) (h9 : bt L 9 = true) : wpOp Tryz.prog ops Q 10 (BI w0 kd a0 (L.setIfInBounds 10 true)) a w := by
  obtain ⟨v, h⟩ := h
  have hs := h.sz
  have b := fun j => bt_set (L := L) (i := 10) (by omega) j
  have ev : a.eval (.tmp 37) = v 37 := by rw [h.act]; exact laid_eval rfl (by have := h.az; omega)
  refine op_move ho hg (.inl hop) ?_
  rw [hd, ev]
  refine BI.slot h (by omega) rfl ?_
  exact ⟨by simp [hs], h.az, h.hk, rfl, h.bel, by simpa [b, upd] using h.m1, by simpa [b, upd] using h.m2, by simpa [b, upd] using h.ne, by simpa [b, upd] using h.c1, by simpa [b, upd] using h.c2, by simpa [b, upd] using h.c7, by simpa [b, upd] using h.c8, by simpa [b, upd] using h.c9, by simpa [b, upd] using h.b3, by simpa [b, upd] using h.b4, by simpa [b, upd] using h.b5, fun _ => by simp [b, upd, h6, h7, h8, h9], by simpa [b, upd] using h.b11, by simpa [b, upd] using h.b12, by simpa [b, upd] using h.b13, by simpa [b, upd] using h.b14⟩

theorem step4 (ho : ops[4]? = some o) (hg : o.guard = none) (hd : o.dst = some 35) (hop : o.op = .move (.tmp 1)) (h : BI w0 kd a0 L a w) (hn : L.getD 4 true = false) : wpOp Tryz.prog ops Q 4 (BI w0 kd a0 (L.setIfInBounds 4 true)) a w := by
  obtain ⟨v, h⟩ := h
  have hs := h.sz
  have b := fun j => bt_set (L := L) (i := 4) (by omega) j
  have ev : a.eval (.tmp 1) = .int .i64 kd := by rw [h.act, laid_out rfl]; exact h.hk
  refine op_move ho hg (.inl hop) ?_
  rw [hd, ev]
  refine BI.slot h (by omega) rfl ?_
  exact ⟨by simp [hs], h.az, h.hk, rfl, h.bel, by simpa [b, upd] using h.m1, by simpa [b, upd] using h.m2, by simpa [b, upd] using h.ne, by simpa [b, upd] using h.c1, by simpa [b, upd] using h.c2, by simpa [b, upd] using h.c7, by simpa [b, upd] using h.c8, by simpa [b, upd] using h.c9, by simpa [b, upd] using h.b3, fun _ => by simp [upd], by simpa [b, upd] using h.b5, by simpa [b, upd] using h.b10, by simpa [b, upd] using h.b11, by simpa [b, upd] using h.b12, by simpa [b, upd] using h.b13, by simpa [b, upd] using h.b14⟩

theorem step11 (ho : ops[11]? = some o) (hg : o.guard = none) (hd : o.dst = some 39) (hop : o.op = .move (.tmp 1)) (h : BI w0 kd a0 L a w) (hn : L.getD 11 true = false) : wpOp Tryz.prog ops Q 11 (BI w0 kd a0 (L.setIfInBounds 11 true)) a w := by
  obtain ⟨v, h⟩ := h
  have hs := h.sz
  have b := fun j => bt_set (L := L) (i := 11) (by omega) j
  have ev : a.eval (.tmp 1) = .int .i64 kd := by rw [h.act, laid_out rfl]; exact h.hk
  refine op_move ho hg (.inl hop) ?_
  rw [hd, ev]
  refine BI.slot h (by omega) rfl ?_
  exact ⟨by simp [hs], h.az, h.hk, rfl, h.bel, by simpa [b, upd] using h.m1, by simpa [b, upd] using h.m2, by simpa [b, upd] using h.ne, by simpa [b, upd] using h.c1, by simpa [b, upd] using h.c2, by simpa [b, upd] using h.c7, by simpa [b, upd] using h.c8, by simpa [b, upd] using h.c9, by simpa [b, upd] using h.b3, by simpa [b, upd] using h.b4, by simpa [b, upd] using h.b5, by simpa [b, upd] using h.b10, fun _ => by simp [upd], by simpa [b, upd] using h.b12, by simpa [b, upd] using h.b13, by simpa [b, upd] using h.b14⟩

theorem step13 (ho : ops[13]? = some o) (hg : o.guard = none) (hd : o.dst = some 12) (hop : o.op = .assign (.tmp 36)) (h : BI w0 kd a0 L a w) (hn : L.getD 13 true = false) (h5 : bt L 5 = true) : wpOp Tryz.prog ops Q 13 (BI w0 kd a0 (L.setIfInBounds 13 true)) a w := by
  obtain ⟨v, h⟩ := h
  have hs := h.sz
  have b := fun j => bt_set (L := L) (i := 13) (by omega) j
  have ev : a.eval (.tmp 36) = v 36 := by rw [h.act]; exact laid_eval rfl (by have := h.az; omega)
  have e5 := h.b5 h5
  refine op_move ho hg (.inr hop) ?_
  rw [hd, ev]
  refine BI.slot h (by omega) rfl ?_
  exact ⟨by simp [hs], h.az, h.hk, rfl, h.bel, by simpa [b, upd] using h.m1, by simpa [b, upd] using h.m2, by simpa [b, upd] using h.ne, by simpa [b, upd] using h.c1, by simpa [b, upd] using h.c2, by simpa [b, upd] using h.c7, by simpa [b, upd] using h.c8, by simpa [b, upd] using h.c9, by simpa [b, upd] using h.b3, by simpa [b, upd] using h.b4, by simpa [b, upd] using h.b5, by simpa [b, upd] using h.b10, by simpa [b, upd] using h.b11, by simpa [b, upd] using h.b12, fun _ => by simp [upd, e5], by simpa [b, upd] using h.b14⟩

theorem step14 (ho : ops[14]? = some o) (hg : o.guard = none) (hd : o.dst = some 13) (hop : o.op = .assign (.tmp 40)) (h : BI w0 kd a0 L a w) (hn : L.getD 14 true = false) (h12 : bt L 12 = true) : wpOp Tryz.prog ops Q 14 (BI w0 kd a0 (L.setIfInBounds 14 true)) a w := by
  obtain ⟨v, h⟩ := h
  have hs := h.sz
  have b := fun j => bt_set (L := L) (i := 14) (by omega) j
  have ev : a.eval (.tmp 40) = v 40 := by rw [h.act]; exact laid_eval rfl (by have := h.az; omega)
  have e12 := h.b12 h12
  refine op_move ho hg (.inr hop) ?_
  rw [hd, ev]
  refine BI.slot h (by omega) rfl ?_
  exact ⟨by simp [hs], h.az, h.hk, rfl, h.bel, by simpa [b, upd] using h.m1, by simpa [b, upd] using h.m2, by simpa [b, upd] using h.ne, by simpa [b, upd] using h.c1, by simpa [b, upd] using h.c2, by simpa [b, upd] using h.c7, by simpa [b, upd] using h.c8, by simpa [b, upd] using h.c9, by simpa [b, upd] using h.b3, by simpa [b, upd] using h.b4, by simpa [b, upd] using h.b5, by simpa [b, upd] using h.b10, by simpa [b, upd] using h.b11, by simpa [b, upd] using h.b12, by simpa [b, upd] using h.b13, fun _ => by simp [upd, e12]⟩

theorem step5 (ho : ops[5]? = some o) (hg : o.guard = none) (hd : o.dst = some 36) (hop : o.op = .lookup 88 (.tmp 34) (.tmp 35) false) (hw : kd = 8 ∨ kd = 9 ∨ kd = 10 ∨ kd = 11 ∨ kd = 12) (h : BI w0 kd a0 L a w) (hn : L.getD 5 true = false) (hm : bt L 3 = true) (hk : bt L 4 = true) : wpOp Tryz.prog ops Q 5 (BI w0 kd a0 (L.setIfInBounds 5 true)) a w := by
  obtain ⟨v, h⟩ := h
  have hs := h.sz
  have b := fun j => bt_set (L := L) (i := 5) (by omega) j
  obtain ⟨e3, f0, f1, f2⟩ := h.b3 hm
  obtain ⟨m, em, _, own⟩ := h.m1 f0
  rw [f1, f2] at own
  have ev : a.eval (.tmp 34) = .map (some m) := by rw [h.act, laid_eval rfl (by have := h.az; omega), e3, em]
  have ek : a.eval (.tmp 35) = .int .i64 kd := by rw [h.act, laid_eval rfl (by have := h.az; omega)]; exact h.b4 hk
  have hwf : (Lit.int .i64 kd).wf = true := by rcases hw with e | e | e | e | e <;> subst e <;> rfl
  refine op_lookup ho hg hop lawI Tryz.underlying88 Tryz.underlying3 (zeroI w) ev own (kl := .int .i64 kd) (by rw [ek]; exact Go.Maps.keyOf_int_mk Tryz.underlying3 hwf) fun c hat => ?_
  have hc : c = leastK kd := by
    rcases hw with e | e | e | e | e <;> subst e <;> (simp [D1, ent, DataW.atKey, Lit.sameKey] at hat; rw [← hat]; rfl)
  rw [hd]
  refine BI.slot h (by omega) rfl ?_
  exact ⟨by simp [hs], h.az, h.hk, rfl, h.bel, by simpa [b, upd] using h.m1, by simpa [b, upd] using h.m2, by simpa [b, upd] using h.ne, by simpa [b, upd] using h.c1, by simpa [b, upd] using h.c2, by simpa [b, upd] using h.c7, by simpa [b, upd] using h.c8, by simpa [b, upd] using h.c9, by simpa [b, upd] using h.b3, by simpa [b, upd] using h.b4, fun _ => by simp [upd, hc], by simpa [b, upd] using h.b10, by simpa [b, upd] using h.b11, by simpa [b, upd] using h.b12, by simpa [b, upd] using h.b13, by simpa [b, upd] using h.b14⟩

theorem step12 (ho : ops[12]? = some o) (hg : o.guard = none) (hd : o.dst = some 40) (hop : o.op = .lookup 88 (.tmp 38) (.tmp 39) false) (hw : kd = 8 ∨ kd = 9 ∨ kd = 10 ∨ kd = 11 ∨ kd = 12) (h : BI w0 kd a0 L a w) (hn : L.getD 12 true = false) (hm : bt L 10 = true) (hk : bt L 11 = true) : wpOp Tryz.prog ops Q 12 (BI w0 kd a0 (L.setIfInBounds 12 true)) a w := by
  obtain ⟨v, h⟩ := h
  have hs := h.sz
  have b := fun j => bt_set (L := L) (i := 12) (by omega) j
  obtain ⟨e3, f0, f1, f2, f3⟩ := h.b10 hm
  obtain ⟨m, em, _, own⟩ := h.m2 f0
  rw [f1, f2, f3] at own
  have ev : a.eval (.tmp 38) = .map (some m) := by rw [h.act, laid_eval rfl (by have := h.az; omega), e3, em]
  have ek : a.eval (.tmp 39) = .int .i64 kd := by rw [h.act, laid_eval rfl (by have := h.az; omega)]; exact h.b11 hk
  have hwf : (Lit.int .i64 kd).wf = true := by rcases hw with e | e | e | e | e <;> subst e <;> rfl
  refine op_lookup ho hg hop lawI Tryz.underlying88 Tryz.underlying3 (zeroI w) ev own (kl := .int .i64 kd) (by rw [ek]; exact Go.Maps.keyOf_int_mk Tryz.underlying3 hwf) fun c hat => ?_
  have hc : c = mostK kd := by
    rcases hw with e | e | e | e | e <;> subst e <;> (simp [D2, ent, DataW.atKey, Lit.sameKey] at hat; rw [← hat]; rfl)
  rw [hd]
  refine BI.slot h (by omega) rfl ?_
  exact ⟨by simp [hs], h.az, h.hk, rfl, h.bel, by simpa [b, upd] using h.m1, by simpa [b, upd] using h.m2, by simpa [b, upd] using h.ne, by simpa [b, upd] using h.c1, by simpa [b, upd] using h.c2, by simpa [b, upd] using h.c7, by simpa [b, upd] using h.c8, by simpa [b, upd] using h.c9, by simpa [b, upd] using h.b3, by simpa [b, upd] using h.b4, by simpa [b, upd] using h.b5, by simpa [b, upd] using h.b10, by simpa [b, upd] using h.b11, fun _ => by simp [upd, hc], by simpa [b, upd] using h.b13, by simpa [b, upd] using h.b14⟩

theorem step0 (ho : ops[0]? = some o) (hg : o.guard = none) (hd : o.dst = some 33) (hop : o.op = .makeMap 88 none) (h : BI w0 kd a0 L a w) (hn : L.getD 0 true = false) : wpOp Tryz.prog ops Q 0 (BI w0 kd a0 (L.setIfInBounds 0 true)) a w := by
  obtain ⟨v, h⟩ := h
  have hs := h.sz
  have b := fun j => bt_set (L := L) (i := 0) (by omega) j
  have n0 : bt L 0 = false := bt_no hn
  have b1 : bt L 1 = false := by cases e : bt L 1 with
    | false => rfl
    | true => exact absurd (h.c1 e) (by simp [n0])
  have b2 : bt L 2 = false := by cases e : bt L 2 with
    | false => rfl
    | true => exact absurd (h.c2 e) (by simp [n0])
  refine op_makeMap ho hg hop ?_
  rw [hd]
  refine ⟨upd v 33 (.map (some w.heap.size)), ?_⟩
  rw [h.act, laid_put rfl]
  exact ⟨by simp [hs], h.az, h.hk, rfl, h.bel.alloc h.bel.size _, fun _ => ⟨w.heap.size, by simp [upd], h.bel.size, by simp [b, b1, b2]; exact World.ownsMap_made _ _ _ _⟩, fun hx => by
      obtain ⟨m, e1, e2, e3⟩ := h.m2 (by simpa [b] using hx)
      exact ⟨m, by simpa [upd] using e1, e2, by simpa [b] using e3.alloc _⟩, fun _ hx => by
      obtain ⟨m, e1, _, e3⟩ := h.m2 (by simpa [b] using hx)
      have := e3.lt
      simp [upd, e1]; omega, fun _ => by simp [b], fun _ => by simp [b], by simpa [b, upd] using h.c7, by simpa [b, upd] using h.c8, by simpa [b, upd] using h.c9, fun hx => absurd (h.b3 (by simpa [b] using hx)).2.1 (by simp [n0]), by simpa [b, upd] using h.b4, by simpa [b, upd] using h.b5, by simpa [b, upd] using h.b10, by simpa [b, upd] using h.b11, by simpa [b, upd] using h.b12, by simpa [b, upd] using h.b13, by simpa [b, upd] using h.b14⟩

theorem step6 (ho : ops[6]? = some o) (hg : o.guard = none) (hd : o.dst = some 37) (hop : o.op = .makeMap 88 none) (h : BI w0 kd a0 L a w) (hn : L.getD 6 true = false) : wpOp Tryz.prog ops Q 6 (BI w0 kd a0 (L.setIfInBounds 6 true)) a w := by
  obtain ⟨v, h⟩ := h
  have hs := h.sz
  have b := fun j => bt_set (L := L) (i := 6) (by omega) j
  have n0 : bt L 6 = false := bt_no hn
  have b7 : bt L 7 = false := by cases e : bt L 7 with
    | false => rfl
    | true => exact absurd (h.c7 e) (by simp [n0])
  have b8 : bt L 8 = false := by cases e : bt L 8 with
    | false => rfl
    | true => exact absurd (h.c8 e) (by simp [n0])
  have b9 : bt L 9 = false := by cases e : bt L 9 with
    | false => rfl
    | true => exact absurd (h.c9 e) (by simp [n0])
  refine op_makeMap ho hg hop ?_
  rw [hd]
  refine ⟨upd v 37 (.map (some w.heap.size)), ?_⟩
  rw [h.act, laid_put rfl]
  exact ⟨by simp [hs], h.az, h.hk, rfl, h.bel.alloc h.bel.size _, fun hx => by
      obtain ⟨m, e1, e2, e3⟩ := h.m1 (by simpa [b] using hx)
      exact ⟨m, by simpa [upd] using e1, e2, by simpa [b] using e3.alloc _⟩, fun _ => ⟨w.heap.size, by simp [upd], h.bel.size, by simp [b, b7, b8, b9]; exact World.ownsMap_made _ _ _ _⟩, fun hx _ => by
      obtain ⟨m, e1, _, e3⟩ := h.m1 (by simpa [b] using hx)
      have := e3.lt
      simp [upd, e1]; omega, by simpa [b, upd] using h.c1, by simpa [b, upd] using h.c2, fun _ => by simp [b], fun _ => by simp [b], fun _ => by simp [b], by simpa [b, upd] using h.b3, by simpa [b, upd] using h.b4, by simpa [b, upd] using h.b5, fun hx => absurd (h.b10 (by simpa [b] using hx)).2.1 (by simp [n0]), by simpa [b, upd] using h.b11, by simpa [b, upd] using h.b12, by simpa [b, upd] using h.b13, by simpa [b, upd] using h.b14⟩

theorem step1 (ho : ops[1]? = some o) (hg : o.guard = none) (hd : o.dst = none) (hop : o.op = .insert 88 (.tmp 33) (.const (.int .i64 9)) (.const (.int .i64 1))) (h : BI w0 kd a0 L a w) (hn : L.getD 1 true = false) (hr : bt L 0 = true) : wpOp Tryz.prog ops Q 1 (BI w0 kd a0 (L.setIfInBounds 1 true)) a w := by
  obtain ⟨v, h⟩ := h
  have hs := h.sz
  have b := fun j => bt_set (L := L) (i := 1) (by omega) j
  have n0 : bt L 1 = false := bt_no hn
  obtain ⟨m, e1, e2, own⟩ := h.m1 hr
  have ev : a.eval (.tmp 33) = .map (some m) := by rw [h.act, laid_eval rfl (by have := h.az; omega), e1]
  rw [n0] at own
  have hn2 : false.toNat + (bt L 2).toNat < maxLen := by cases bt L 2 <;> decide
  refine op_insert ho hg hop lawI Tryz.underlying88 ev own hn2 (kl := .int .i64 9) (Go.Maps.keyOf_int_mk Tryz.underlying3 rfl) (readI 1 rfl) fun w' own' hgr => ?_
  rw [hd]
  have own' : w'.ownsMap Tryz.prog 3 (plainElem Tryz.prog 3) m (true.toNat + (bt L 2).toNat) (D1 true (bt L 2)) := by revert own'; cases bt L 2 <;> exact fun h => h
  refine ⟨v, ?_⟩
  exact ⟨by simp [hs], h.az, h.hk, h.act, h.bel.grown hgr h.bel.size (fun k e => by cases e; exact e2), fun hx => ⟨m, e1, e2, by simpa [b] using own'⟩, fun hx => by
      obtain ⟨m', g1, g2, g3⟩ := h.m2 (by simpa [b] using hx)
      exact ⟨m', g1, g2, by simpa [b] using g3.kept hgr (by intro e; cases e; exact h.ne hr (by simpa [b] using hx) (by rw [e1, g1]))⟩, by simpa [b, upd] using h.ne, fun _ => by simpa [b] using hr, by simpa [b, upd] using h.c2, by simpa [b, upd] using h.c7, by simpa [b, upd] using h.c8, by simpa [b, upd] using h.c9, fun hx => by
      have := h.b3 (by simpa [b] using hx)
      simp [b, this], by simpa [b, upd] using h.b4, by simpa [b, upd] using h.b5, by simpa [b, upd] using h.b10, by simpa [b, upd] using h.b11, by simpa [b, upd] using h.b12, by simpa [b, upd] using h.b13, by simpa [b, upd] using h.b14⟩

theorem step2 (ho : ops[2]? = some o) (hg : o.guard = none) (hd : o.dst = none) (hop : o.op = .insert 88 (.tmp 33) (.const (.int .i64 11)) (.const (.int .i64 1))) (h : BI w0 kd a0 L a w) (hn : L.getD 2 true = false) (hr : bt L 0 = true) : wpOp Tryz.prog ops Q 2 (BI w0 kd a0 (L.setIfInBounds 2 true)) a w := by
  obtain ⟨v, h⟩ := h
  have hs := h.sz
  have b := fun j => bt_set (L := L) (i := 2) (by omega) j
  have n0 : bt L 2 = false := bt_no hn
  obtain ⟨m, e1, e2, own⟩ := h.m1 hr
  have ev : a.eval (.tmp 33) = .map (some m) := by rw [h.act, laid_eval rfl (by have := h.az; omega), e1]
  rw [n0] at own
  have hn2 : (bt L 1).toNat + false.toNat < maxLen := by cases bt L 1 <;> decide
  refine op_insert ho hg hop lawI Tryz.underlying88 ev own hn2 (kl := .int .i64 11) (Go.Maps.keyOf_int_mk Tryz.underlying3 rfl) (readI 1 rfl) fun w' own' hgr => ?_
  rw [hd]
  have own' : w'.ownsMap Tryz.prog 3 (plainElem Tryz.prog 3) m ((bt L 1).toNat + true.toNat) (D1 (bt L 1) true) := by revert own'; cases bt L 1 <;> exact fun h => h
  refine ⟨v, ?_⟩
  exact ⟨by simp [hs], h.az, h.hk, h.act, h.bel.grown hgr h.bel.size (fun k e => by cases e; exact e2), fun hx => ⟨m, e1, e2, by simpa [b] using own'⟩, fun hx => by
      obtain ⟨m', g1, g2, g3⟩ := h.m2 (by simpa [b] using hx)
      exact ⟨m', g1, g2, by simpa [b] using g3.kept hgr (by intro e; cases e; exact h.ne hr (by simpa [b] using hx) (by rw [e1, g1]))⟩, by simpa [b, upd] using h.ne, by simpa [b, upd] using h.c1, fun _ => by simpa [b] using hr, by simpa [b, upd] using h.c7, by simpa [b, upd] using h.c8, by simpa [b, upd] using h.c9, fun hx => by
      have := h.b3 (by simpa [b] using hx)
      simp [b, this], by simpa [b, upd] using h.b4, by simpa [b, upd] using h.b5, by simpa [b, upd] using h.b10, by simpa [b, upd] using h.b11, by simpa [b, upd] using h.b12, by simpa [b, upd] using h.b13, by simpa [b, upd] using h.b14⟩

theorem step7 (ho : ops[7]? = some o) (hg : o.guard = none) (hd : o.dst = none) (hop : o.op = .insert 88 (.tmp 37) (.const (.int .i64 9)) (.const (.int .i64 4))) (h : BI w0 kd a0 L a w) (hn : L.getD 7 true = false) (hr : bt L 6 = true) : wpOp Tryz.prog ops Q 7 (BI w0 kd a0 (L.setIfInBounds 7 true)) a w := by
  obtain ⟨v, h⟩ := h
  have hs := h.sz
  have b := fun j => bt_set (L := L) (i := 7) (by omega) j
  have n0 : bt L 7 = false := bt_no hn
  obtain ⟨m, e1, e2, own⟩ := h.m2 hr
  have ev : a.eval (.tmp 37) = .map (some m) := by rw [h.act, laid_eval rfl (by have := h.az; omega), e1]
  rw [n0] at own
  have hn2 : false.toNat + (bt L 8).toNat + (bt L 9).toNat < maxLen := by cases bt L 8 <;> cases bt L 9 <;> decide
  refine op_insert ho hg hop lawI Tryz.underlying88 ev own hn2 (kl := .int .i64 9) (Go.Maps.keyOf_int_mk Tryz.underlying3 rfl) (readI 4 rfl) fun w' own' hgr => ?_
  rw [hd]
  have own' : w'.ownsMap Tryz.prog 3 (plainElem Tryz.prog 3) m (true.toNat + (bt L 8).toNat + (bt L 9).toNat) (D2 true (bt L 8) (bt L 9)) := by revert own'; cases bt L 8 <;> cases bt L 9 <;> exact fun h => h
  refine ⟨v, ?_⟩
  exact ⟨by simp [hs], h.az, h.hk, h.act, h.bel.grown hgr h.bel.size (fun k e => by cases e; exact e2), fun hx => by
      obtain ⟨m', g1, g2, g3⟩ := h.m1 (by simpa [b] using hx)
      exact ⟨m', g1, g2, by simpa [b] using g3.kept hgr (by intro e; cases e; exact h.ne (by simpa [b] using hx) hr (by rw [e1, g1]))⟩, fun hx => ⟨m, e1, e2, by simpa [b] using own'⟩, by simpa [b, upd] using h.ne, by simpa [b, upd] using h.c1, by simpa [b, upd] using h.c2, fun _ => by simpa [b] using hr, by simpa [b, upd] using h.c8, by simpa [b, upd] using h.c9, by simpa [b, upd] using h.b3, by simpa [b, upd] using h.b4, by simpa [b, upd] using h.b5, fun hx => by
      have := h.b10 (by simpa [b] using hx)
      simp [b, this], by simpa [b, upd] using h.b11, by simpa [b, upd] using h.b12, by simpa [b, upd] using h.b13, by simpa [b, upd] using h.b14⟩

theorem step8 (ho : ops[8]? = some o) (hg : o.guard = none) (hd : o.dst = none) (hop : o.op = .insert 88 (.tmp 37) (.const (.int .i64 8)) (.const (.int .i64 9))) (h : BI w0 kd a0 L a w) (hn : L.getD 8 true = false) (hr : bt L 6 = true) : wpOp Tryz.prog ops Q 8 (BI w0 kd a0 (L.setIfInBounds 8 true)) a w := by
  obtain ⟨v, h⟩ := h
  have hs := h.sz
  have b := fun j => bt_set (L := L) (i := 8) (by omega) j
  have n0 : bt L 8 = false := bt_no hn
  obtain ⟨m, e1, e2, own⟩ := h.m2 hr
  have ev : a.eval (.tmp 37) = .map (some m) := by rw [h.act, laid_eval rfl (by have := h.az; omega), e1]
  rw [n0] at own
  have hn2 : (bt L 7).toNat + false.toNat + (bt L 9).toNat < maxLen := by cases bt L 7 <;> cases bt L 9 <;> decide
  refine op_insert ho hg hop lawI Tryz.underlying88 ev own hn2 (kl := .int .i64 8) (Go.Maps.keyOf_int_mk Tryz.underlying3 rfl) (readI 9 rfl) fun w' own' hgr => ?_
  rw [hd]
  have own' : w'.ownsMap Tryz.prog 3 (plainElem Tryz.prog 3) m ((bt L 7).toNat + true.toNat + (bt L 9).toNat) (D2 (bt L 7) true (bt L 9)) := by revert own'; cases bt L 7 <;> cases bt L 9 <;> exact fun h => h
  refine ⟨v, ?_⟩
  exact ⟨by simp [hs], h.az, h.hk, h.act, h.bel.grown hgr h.bel.size (fun k e => by cases e; exact e2), fun hx => by
      obtain ⟨m', g1, g2, g3⟩ := h.m1 (by simpa [b] using hx)
      exact ⟨m', g1, g2, by simpa [b] using g3.kept hgr (by intro e; cases e; exact h.ne (by simpa [b] using hx) hr (by rw [e1, g1]))⟩, fun hx => ⟨m, e1, e2, by simpa [b] using own'⟩, by simpa [b, upd] using h.ne, by simpa [b, upd] using h.c1, by simpa [b, upd] using h.c2, by simpa [b, upd] using h.c7, fun _ => by simpa [b] using hr, by simpa [b, upd] using h.c9, by simpa [b, upd] using h.b3, by simpa [b, upd] using h.b4, by simpa [b, upd] using h.b5, fun hx => by
      have := h.b10 (by simpa [b] using hx)
      simp [b, this], by simpa [b, upd] using h.b11, by simpa [b, upd] using h.b12, by simpa [b, upd] using h.b13, by simpa [b, upd] using h.b14⟩

theorem step9 (ho : ops[9]? = some o) (hg : o.guard = none) (hd : o.dst = none) (hop : o.op = .insert 88 (.tmp 37) (.const (.int .i64 11)) (.const (.int .i64 9))) (h : BI w0 kd a0 L a w) (hn : L.getD 9 true = false) (hr : bt L 6 = true) : wpOp Tryz.prog ops Q 9 (BI w0 kd a0 (L.setIfInBounds 9 true)) a w := by
  obtain ⟨v, h⟩ := h
  have hs := h.sz
  have b := fun j => bt_set (L := L) (i := 9) (by omega) j
  have n0 : bt L 9 = false := bt_no hn
  obtain ⟨m, e1, e2, own⟩ := h.m2 hr
  have ev : a.eval (.tmp 37) = .map (some m) := by rw [h.act, laid_eval rfl (by have := h.az; omega), e1]
  rw [n0] at own
  have hn2 : (bt L 7).toNat + (bt L 8).toNat + false.toNat < maxLen := by cases bt L 7 <;> cases bt L 8 <;> decide
  refine op_insert ho hg hop lawI Tryz.underlying88 ev own hn2 (kl := .int .i64 11) (Go.Maps.keyOf_int_mk Tryz.underlying3 rfl) (readI 9 rfl) fun w' own' hgr => ?_
  rw [hd]
  have own' : w'.ownsMap Tryz.prog 3 (plainElem Tryz.prog 3) m ((bt L 7).toNat + (bt L 8).toNat + true.toNat) (D2 (bt L 7) (bt L 8) true) := by revert own'; cases bt L 7 <;> cases bt L 8 <;> exact fun h => h
  refine ⟨v, ?_⟩
  exact ⟨by simp [hs], h.az, h.hk, h.act, h.bel.grown hgr h.bel.size (fun k e => by cases e; exact e2), fun hx => by
      obtain ⟨m', g1, g2, g3⟩ := h.m1 (by simpa [b] using hx)
      exact ⟨m', g1, g2, by simpa [b] using g3.kept hgr (by intro e; cases e; exact h.ne (by simpa [b] using hx) hr (by rw [e1, g1]))⟩, fun hx => ⟨m, e1, e2, by simpa [b] using own'⟩, by simpa [b, upd] using h.ne, by simpa [b, upd] using h.c1, by simpa [b, upd] using h.c2, by simpa [b, upd] using h.c7, by simpa [b, upd] using h.c8, fun _ => by simpa [b] using hr, by simpa [b, upd] using h.b3, by simpa [b, upd] using h.b4, by simpa [b, upd] using h.b5, fun hx => by
      have := h.b10 (by simpa [b] using hx)
      simp [b, this], by simpa [b, upd] using h.b11, by simpa [b, upd] using h.b12, by simpa [b, upd] using h.b13, by simpa [b, upd] using h.b14⟩

theorem BI.start (hz : 40 < a0.tmps.size) (hk : a0.eval (.tmp 1) = .int .i64 kd) (hb : Below w0.heap.size w0 w) : BI w0 kd a0 (Array.replicate 15 false) a0 w := by
  have b : ∀ j, bt (Array.replicate 15 false) j = false := by
    intro j
    unfold bt
    rcases Nat.lt_or_ge j 15 with h | h
    · simp [h]
    · simp [h]
  exact ⟨_, by simp, hz, hk, (laid_id SB a0).symm, hb, by simp [b], by simp [b], by simp [b], by simp [b], by simp [b], by simp [b], by simp [b], by simp [b], by simp [b], by simp [b], by simp [b], by simp [b], by simp [b], by simp [b], by simp [b], by simp [b]⟩

theorem book_maps (hn : ops.size = 15) (hz : 40 < a0.tmps.size) (hk : a0.eval (.tmp 1) = .int .i64 kd) (hb : Below w0.heap.size w0 w) (hd : ∀ L a w, BI w0 kd a0 L a w → Region.ready .any ops L = [] → Q .normal a w)
    (hs : ∀ L a w, BI w0 kd a0 L a w → ∀ i o, ops[i]? = some o → L.getD i true = false → (∀ e ∈ o.after, Region.binds .any e = true → L.getD e.on false = true) → wpOp Tryz.prog ops Q i (BI w0 kd a0 (L.setIfInBounds i true)) a w) :
    wpAny Tryz.prog .any ops Q ops.size (Array.replicate ops.size false) a0 w := by
  rw [hn]
  exact wpAny_inv (BI w0 kd a0) hd hs 15 _ a0 w (by decide) (BI.start hz hk hb)
end

end Go.Proofs.YtkamnbigfdbgbaaGreatDoor
