/- What a slice of ints is in a world, and small facts on it; plain mathematics, no condition. -/
import Derived.WalkKit
import Derived.Deep.Draws
import Derived.Laws.CopyOwn
import Derived.Deep.OwnRows
import Derived.Test.YtcmladgldjcdmaaDoorRows
import Derived.ProofKit
import Derived.OpenShut
import Derived.ShutString
import Derived.ChangeOld
import Derived.Below
import Derived.Lib.SmallJoins
import Derived.Test.YtcmladgldjcdmaaDoorProg
import Derived.BigQuiet
import Derived.Deep.QuietTactic
import Derived.WalkSpells
import Derived.Deep.RegionHeld3
import Derived.Deep.Light
namespace Go.Proofs.YtcmladgldjcdmaaDoor
open Go.RowKit
set_option linter.unusedVariables false
set_option maxRecDepth 100000

/-- A slice value's numbers in a world: the first 'n' cells hold 'l'. -/
structure Ints (w : World) (a : Option Addr) (n c : Nat) (l : List Int) : Prop where
  len : l.length = n
  le : n ≤ c
  max : c ≤ 9223372036854775807
  nil : a = none → c = 0
  row : n = 0 ∨ ∃ b off, a = some ⟨b, off, none⟩ ∧ b < w.heap.size ∧ ∀ i, i < n → w.cell? ⟨b, off + i, none⟩ = some (.int .i64 (l.getD i 0))
  wf : ∀ x ∈ l, -9223372036854775808 ≤ x ∧ x ≤ 9223372036854775807

theorem Ints.below {w w' : World} {a : Option Addr} {n c : Nat} {l : List Int} (h : Ints w a n c l) {B : Nat} (hb : Below B w w') (hB : w.heap.size ≤ B) : Ints w' a n c l := by
  refine ⟨h.len, h.le, h.max, h.nil, ?_, h.wf⟩
  rcases h.row with h0 | ⟨b, off, ha, hlt, hc⟩
  · exact .inl h0
  · refine .inr ⟨b, off, ha, Nat.lt_of_lt_of_le hlt hb.size, fun i hi => ?_⟩
    rw [hb.cell (p := ⟨b, off + i, none⟩) (Nat.lt_of_lt_of_le hlt hB)]; exact hc i hi

theorem Ints.drewN {w : World} {a : Option Addr} {n c : Nat} {l : List Int} (h : Ints w a n c l) (k : Nat) : Ints (w.drewN k) a n c l :=
  ⟨h.len, h.le, h.max, h.nil, h.row, h.wf⟩

theorem Ints.nilSlice (w : World) : Ints w none 0 0 [] := ⟨rfl, Nat.le_refl _, by omega, fun _ => rfl, .inl rfl, by simp⟩

theorem bcell {W w1 : World} {B : Nat} (hb : Below B W w1) : (∀ b o, b < B → w1.cell? ⟨b, o, none⟩ = W.cell? ⟨b, o, none⟩) ∧ (∀ b o, b < B → w1.frozen? ⟨b, o, none⟩ = W.frozen? ⟨b, o, none⟩) :=
  ⟨fun b o h => hb.cell (p := ⟨b, o, none⟩) h, fun b o h => hb.frozen (p := ⟨b, o, none⟩) h⟩

theorem below_drewN {B : Nat} {a w : World} (h : Below B a w) (n : Nat) : Below B a (w.drewN n) := ⟨h.os, h.tape, h.output, h.size, h.block⟩

theorem belowA {a w : World} (h : Below a.heap.size a w) (o : Obj) : Below a.heap.size a (w.alloc o) := h.alloc h.size o

theorem belowT {a b c : World} (h : Below a.heap.size a b) (k : Below b.heap.size b c) : Below a.heap.size a c := h.trans (k.mono h.size)

/-- The steps of what lies below, under short names. -/
theorem bel0 {B : Nat} {w : World} : Below B w w := Below.refl B w
theorem bel1 {B : Nat} {a w : World} (h : Below B a w) : Below B a w.drew := h.drew
theorem bel2 {B n : Nat} {a w : World} (h : Below B a w) : Below B a (w.drewN n) := below_drewN h n
theorem bel3 {a w : World} {o : Obj} (h : Below a.heap.size a w) : Below a.heap.size a (w.alloc o) := belowA h o
theorem bel5 {B : Nat} {a w : World} {p : Addr} {u : Value} (h : Below B a w) (hp : B ≤ p.block) : Below B a (w.setCell p u) := h.setCell hp u
theorem keepc {W w' : World} (hb : Below W.heap.size W w') {p : Addr} {u : Value} (h : W.cell? p = some u) : w'.cell? p = some u := by
  rw [hb.cell (World.block_lt_of_cell? W p h)]; exact h
theorem keepf {W w' : World} (hb : Below W.heap.size W w') {p : Addr} {u : Value} (h : W.cell? p = some u) {b : Bool} (hf : W.frozen? p = b) : w'.frozen? p = b := by
  rw [hb.frozen (World.block_lt_of_cell? W p h)]; exact hf

theorem past1 {w : World} {p : Addr} {v : Value} (h : w.cell? p = some v) (o : Obj) : (w.alloc o).cell? p = some v := by
  have hlt : p.block < w.heap.size := World.block_lt_of_cell? w p h
  rw [World.cell?_alloc_lt w o p hlt, h]
theorem pastf1 {w : World} {p : Addr} {v : Value} (h : w.cell? p = some v) {b : Bool} (hf : w.frozen? p = b) (o : Obj) : (w.alloc o).frozen? p = b := by
  have hlt : p.block < w.heap.size := World.block_lt_of_cell? w p h
  rw [World.frozen?_alloc_old w o p (Nat.ne_of_lt hlt), hf]
theorem past2 {w : World} {p : Addr} {v : Value} (h : w.cell? p = some v) (o1 o2 : Obj) : ((w.alloc o1).alloc o2).cell? p = some v := past1 (past1 h o1) o2
theorem past3 {w : World} {p : Addr} {v : Value} (h : w.cell? p = some v) (o1 o2 o3 : Obj) : (((w.alloc o1).alloc o2).alloc o3).cell? p = some v := past1 (past2 h o1 o2) o3
theorem past4 {w : World} {p : Addr} {v : Value} (h : w.cell? p = some v) (o1 o2 o3 o4 : Obj) : ((((w.alloc o1).alloc o2).alloc o3).alloc o4).cell? p = some v := past1 (past3 h o1 o2 o3) o4

theorem hide {p : Prop} (h : p) : Hid p := h

theorem take_succ_getD (l : List Int) (k : Nat) (h : k < l.length) : l.take (k + 1) = l.take k ++ [l.getD k 0] := by
  rw [List.take_succ_eq_append_getElem h]; simp [List.getD, h]

theorem take_eq_step (l m : List Int) (k : Nat) (hl : k < l.length) (hm : k < m.length) (h : l.take k = m.take k) (hx : l.getD k 0 = m.getD k 0) : l.take (k + 1) = m.take (k + 1) := by
  rw [take_succ_getD l k hl, take_succ_getD m k hm, h, hx]

theorem ne_of_getD (l m : List Int) (k : Nat) (hx : l.getD k 0 ≠ m.getD k 0) : l ≠ m := fun h => hx (by rw [h])

theorem ret_bool {a b : Bool} (h : a = b) : Ending.returned (.bool a) = .returned (.bool b) := by rw [h]
theorem ret_vi {v : Value} {k : IntKind} {a b : Int} (h : a = b) : Ending.returned (.tuple #[v, .int k a]) = .returned (.tuple #[v, .int k b]) := by rw [h]
theorem ret_int {k : IntKind} {a b : Int} (h : a = b) : Ending.returned (.int k a) = .returned (.int k b) := by rw [h]

theorem any_take_step (p : Int → Bool) (l : List Int) (k : Nat) (hk : k < l.length) (h : (l.take k).any p = false) (hx : p (l.getD k 0) = false) : (l.take (k + 1)).any p = false := by
  rw [take_succ_getD l k hk]; generalize l.getD k 0 = x at hx; simp [h, hx]

theorem any_of_getD (p : Int → Bool) (l : List Int) (k : Nat) (hk : k < l.length) (hx : p (l.getD k 0) = true) : l.any p = true := by
  rw [List.any_eq_true]; exact ⟨l.getD k 0, by simp [List.getD, hk], hx⟩

/-- 'copy' into a row that is known whole: what its run comes to. -/
theorem copy_run {P : Program} (w : World) (dT sT ty elem : TypeId) (hu : P.underlying dT = some (.slice elem)) (hsz : (P.info? elem).map (·.size) = some 1)
    (dp sp : Option Addr) (dLen dCap sLen sCap g off : Nat) (cur : List Value) (t : TypeId) (hg : w.heap[g]? = some (.cells cur.toArray t (0, 0))) (cs : List Value) (hn : cs.length = Nat.min sLen dLen)
    (hpos : 0 < cs.length → dp = some ⟨g, off, none⟩ ∧ ∃ ad, sp = some ad ∧ ∀ j v, cs[j]? = some v → w.cell? (ad.add j) = some v)
    (hfit : off + cs.length ≤ cur.length) (ho : ∀ v ∈ cs, v.oneCell' = true) :
    ∃ w', (Builtin.copy_ #[dT, sT] ty #[.slice dp dLen dCap, .slice sp sLen sCap]).run P w = .ok (goInt cs.length) w' ∧
      w'.heap[g]? = some (.cells (splice cur off cs).toArray t (0, 0)) ∧ Below g w w' := by
  by_cases h0 : cs.length = 0
  · obtain rfl : cs = [] := List.eq_nil_of_length_eq_zero h0
    exact ⟨w, run_copy_none (P := P) w dT sT ty elem dp sp dLen dCap sLen sCap hu hsz (by simpa using hn.symm), by simpa [splice] using hg, Below.refl _ _⟩
  · obtain ⟨rfl, ad, rfl, hsrc⟩ := hpos (by omega)
    exact ⟨_, run_copy_row (P := P) w dT sT ty elem g off dLen dCap ad sLen sCap cur.toArray t cs hu hsz hg hn hsrc (by simpa using hfit) ho,
      by simpa [splice] using setRow_heap w g _ _ t _ hg, below_setRow (Below.refl _ _) (Nat.le_refl _) _⟩

theorem heap_new (w : World) (o : Obj) : (w.alloc o).heap[w.heap.size]? = some o := by show (w.heap.push o)[w.heap.size]? = _; simp

theorem heap_new2 (w : World) (o p : Obj) : ((w.alloc o).alloc p).heap[w.heap.size + 1]? = some p := by have := heap_new (w.alloc o) p; simpa using this

theorem splice_one {α : Type} (Z A : List α) (h : Z.length = A.length) : splice Z 0 A = A := by simp [splice]; omega

theorem splice_two {α : Type} (Z A B : List α) (h : Z.length = A.length + B.length) : splice (splice Z 0 A) A.length B = A ++ B := by
  simp [splice]; omega

/-- A list of ints as the cells hold it. -/
def cellsOf (l : List Int) : List Value := l.map (Value.int .i64)
theorem cellsOf_len (l : List Int) : (cellsOf l).length = l.length := by simp [cellsOf]
theorem cellsOf_app (l k : List Int) : cellsOf l ++ cellsOf k = cellsOf (l ++ k) := by simp [cellsOf]
theorem cellsOf_one (l : List Int) : ∀ v ∈ cellsOf l, v.oneCell' = true := by
  intro v hv
  simp [cellsOf] at hv
  obtain ⟨x, _, rfl⟩ := hv
  rfl
theorem cellsOf_get (l : List Int) (i : Nat) (hi : i < l.length) : (cellsOf l)[i]? = some (.int .i64 (l.getD i 0)) := by
  simp [cellsOf, List.getD, hi]

theorem addr_add (b off i : Nat) : (⟨b, off, none⟩ : Addr).add i = ⟨b, off + i, none⟩ := by unfold Addr.add; split <;> simp_all

/-- The cells of a slice that is known, as 'copy' asks for them. -/
theorem Ints.src {w : World} {a : Option Addr} {n c : Nat} {l : List Int} (h : Ints w a n c l) (hp : 0 < n) : ∃ ad, a = some ad ∧ ∀ j v, (cellsOf l)[j]? = some v → w.cell? (ad.add j) = some v := by
  rcases h.row with h0 | ⟨b, off, ha, hlt, hc⟩
  · omega
  · refine ⟨_, ha, fun j v hv => ?_⟩
    have hj : j < l.length := by have := (List.getElem?_eq_some_iff.1 hv).1; rwa [cellsOf_len] at this
    rw [cellsOf_get l j hj] at hv
    rw [addr_add, hc j (by rw [← h.len]; exact hj)]
    exact hv

/-- A row of new memory as a slice of ints. -/
theorem Ints.of_row {w : World} {g : Nat} {l : List Int} {t : TypeId} {fr : Nat × Nat} (hg : w.heap[g]? = some (.cells (cellsOf l).toArray t fr)) (hmax : l.length ≤ 9223372036854775807)
    (hwf : ∀ x ∈ l, -9223372036854775808 ≤ x ∧ x ≤ 9223372036854775807) {n : Nat} (hn : l.length = n) : Ints w (some ⟨g, 0, none⟩) n n l := by
  subst hn
  refine ⟨rfl, Nat.le_refl _, hmax, fun h => (by cases h), .inr ⟨g, 0, rfl, (Array.getElem?_eq_some_iff.1 hg).1, fun i hi => ?_⟩, hwf⟩
  rw [cell_of_row w g _ _ t fr hg, Nat.zero_add]
  simpa using cellsOf_get l i hi

theorem Ints.app_wf {w w' : World} {a b : Option Addr} {n c m d : Nat} {l k : List Int} (h : Ints w a n c l) (h' : Ints w' b m d k) : ∀ x ∈ l ++ k, -9223372036854775808 ≤ x ∧ x ≤ 9223372036854775807 := by
  intro x hx
  rcases List.mem_append.1 hx with hx | hx
  · exact h.wf x hx
  · exact h'.wf x hx

/-- w' is w, but that the cell p holds v. -/
structure Put (w w' : World) (p : Addr) (v : Value) : Prop where
  here : w'.cell? p = some v
  other : ∀ q, q ≠ p → w'.cell? q = w.cell? q
  ice : ∀ q, w'.frozen? q = w.frozen? q
  size : w'.heap.size = w.heap.size
  below : Below p.block w w'

theorem Put.refl {w : World} {p : Addr} {v : Value} (h : w.cell? p = some v) : Put w w p v := ⟨h, fun _ _ => rfl, fun _ => rfl, rfl, Below.refl _ _⟩
theorem Put.set {w w' : World} {p : Addr} {u : Value} (h : Put w w' p u) (v : Value) : Put w (w'.setCell p v) p v :=
  ⟨World.cell?_setCell_same _ _ _ h.here, fun q hq => by rw [World.cell?_setCell_other _ _ _ _ (Ne.symm hq), h.other q hq], fun q => by rw [World.frozen?_setCell, h.ice], by simp [World.setCell, h.size], h.below.setCell (Nat.le_refl _) _⟩

theorem Ints.put {w w' : World} {a : Option Addr} {n c : Nat} {l : List Int} (h : Ints w a n c l) {p : Addr} {v : Value} (hp : Put w w' p v) (hne : ∀ x, a = some x → x.block ≠ p.block) : Ints w' a n c l := by
  refine ⟨h.len, h.le, h.max, h.nil, ?_, h.wf⟩
  rcases h.row with h0 | ⟨b, off, ha, hlt, hc⟩
  · exact .inl h0
  · refine .inr ⟨b, off, ha, by rw [hp.size]; exact hlt, fun i hi => ?_⟩
    rw [hp.other _ (fun e => hne _ ha (by rw [← e]))]; exact hc i hi

theorem Ints.setCell {w : World} {a : Option Addr} {n c : Nat} {l : List Int} (h : Ints w a n c l) (p : Addr) (v : Value) (hne : ∀ x, a = some x → x.block ≠ p.block) : Ints (w.setCell p v) a n c l := by
  refine ⟨h.len, h.le, h.max, h.nil, ?_, h.wf⟩
  rcases h.row with h0 | ⟨b, off, ha, hlt, hc⟩
  · exact .inl h0
  · refine .inr ⟨b, off, ha, by simpa [World.setCell] using hlt, fun i hi => ?_⟩
    rw [World.cell?_setCell_other _ _ _ _ (fun e => hne _ ha (by rw [e]))]; exact hc i hi

end Go.Proofs.YtcmladgldjcdmaaDoor

/- How the arguments of the laws read: a slice of ints, a zone; no condition. -/
namespace Go.Proofs.YtcmladgldjcdmaaDoor
open Go.ChangeShapes Go.WideShapes Go.ChangeAt Go.RowKit Go.Joins
set_option linter.unusedVariables false
set_option maxRecDepth 100000
set_option linter.unusedSimpArgs false

theorem own : ownKnob Tryd.prog.godebug = none := by kernel_rfl
theorem laidOut : laidOutB Tryd.prog = true := by kernel_rfl

theorem wf_bounds {x : Int} (h : (Lit.int .i64 x).wf = true) : -9223372036854775808 ≤ x ∧ x ≤ 9223372036854775807 := by
  have := bounds_i64 h
  omega

set_option maxRecDepth 100000 in
theorem ints_of {H : Type} {enc : TypeId × Value → H} {W : World} {fuel : Nat} {v : Value} {y : DataW H × List MemPlace}
    (h : DataW.trod enc Tryd.prog W 0 (fun _ => true) true fuel 23 [v] = some y) : ∃ a n c l, v = .slice a n c ∧ Ints W a n c l := by
  rcases open_ints Tryd.underlying23 Tryd.underlying3 (by kernel_rfl) h with ⟨hcs, _⟩ | ⟨x, len, cap, zs, hcs, _, hl, hm, hz, _, hcell, hwz⟩
  · simp at hcs
    subst hcs
    exact ⟨none, 0, 0, [], rfl, Ints.nilSlice W⟩
  · simp at hcs
    subst hcs
    simp at hz
    refine ⟨some x, len, cap, zs.take len, rfl, ?_⟩
    refine ⟨by simp; omega, hl, hm, fun e => (by cases e), ?_, fun n hn => wf_bounds (hwz n (List.mem_of_mem_take hn))⟩
    by_cases h0 : len = 0
    · exact .inl h0
    · obtain ⟨b, off, spot⟩ := x
      have hc0 := hcell 0 (by omega)
      have hspot : spot = none := by simpa [Addr.add] using World.cell?_spot hc0
      subst hspot
      refine .inr ⟨b, off, rfl, World.block_lt_of_cell? W ⟨b, off, none⟩ (by simpa [Addr.add] using hc0), fun i hi => ?_⟩
      rw [← addr_add, hcell i (by omega)]
      simp [List.getD, List.getElem?_take, hi]

theorem cellsZone : Tryd.prog.cellsOf 61 = 2 := by kernel_rfl

end Go.Proofs.YtcmladgldjcdmaaDoor

/- The contracts of the small functions: each call returns what the plain function says, in whatever world; no condition. -/
namespace Go.Proofs.YtcmladgldjcdmaaDoor
open Go.RowKit
set_option linter.unusedVariables false
set_option maxRecDepth 100000

def inB (n a b : Int) : Bool := decide (a ≤ n) && decide (n ≤ b)

def fitsB (s b : Int) : Bool := if s = 4 then true else if s = 0 then b == 0 else if s = 3 then decide (0 < b) && decide (b < 8) else decide (b < 8)

theorem fits_c (s b : Int) (w : World) : Calls Tryd.prog 66 #[.int .i64 s, .int .i64 b] w fun e w' => e = .returned (.bool (fitsB s b)) ∧ w' = w := by
  go_enter Tryd.func66, Tryd.ntmps66
  go_wp2
  all_goals (go_ret; exact ⟨ret_bool (by unfold fitsB; rw [Bool.eq_iff_iff]; simp_all; try omega), rfl⟩)

theorem outside_c (a b : Int) (w : World) : Calls Tryd.prog 65 #[.int .i64 a, .int .i64 b] w fun e w' => e = .returned (.func (Fn.func 76) #[] #[.pointer (some ⟨w.heap.size, 0, none⟩), .pointer (some ⟨w.heap.size + 1, 0, none⟩)]) ∧ w' = (w.alloc (.cells #[.int .i64 a] 3)).alloc (.cells #[.int .i64 b] 3) := by
  go_enter Tryd.func65, Tryd.ntmps65
  go_wp2
  go_ret
  exact ⟨rfl, rfl⟩

def outB (a b v : Int) : Bool := decide (v < a) || decide (b < v)

theorem outside1_c (v a b : Int) (g h : Nat) (w : World) (hg : w.cell? ⟨g, 0, none⟩ = some (.int .i64 a)) (hh : w.cell? ⟨h, 0, none⟩ = some (.int .i64 b)) :
    Calls Tryd.prog 76 #[.int .i64 v, .pointer (some ⟨g, 0, none⟩), .pointer (some ⟨h, 0, none⟩)] w fun e w' => e = .returned (.bool (outB a b v)) ∧ w' = w := by
  go_enter Tryd.func76, Tryd.ntmps76
  go_wp2
  all_goals (go_ret; exact ⟨ret_bool (by unfold outB; first | (simp_all; done) | (rw [Bool.eq_iff_iff]; simp_all; omega)), rfl⟩)

set_option maxHeartbeats 400000 in
theorem Equal_some (b1 o1 b2 o2 n1 c1 c2 : Nat) (l1 l2 : List Int) (w : World) (hl1 : l1.length = n1) (hl2 : l2.length = n1) (hm1 : n1 ≤ 9223372036854775807)
    (hr1 : ∀ i, i < n1 → w.cell? ⟨b1, o1 + i, none⟩ = some (.int .i64 (l1.getD i 0))) (hr2 : ∀ i, i < n1 → w.cell? ⟨b2, o2 + i, none⟩ = some (.int .i64 (l2.getD i 0))) :
    Calls Tryd.prog 22 #[.slice (some ⟨b1, o1, none⟩) n1 c1, .slice (some ⟨b2, o2, none⟩) n1 c2] w fun e w' => e = .returned (.bool (decide (l1 = l2))) ∧ ∃ n, w' = w.drewN n := by
  go_enter Tryd.func22, Tryd.ntmps22
  go_wp2
  go_loopw [13] (fun i wr => ∃ k n : Nat, k ≤ n1 ∧ i = .int .i64 k ∧ l1.take k = l2.take k ∧ wr = w.drewN n) (fun i _ => n1 - (intOf i).toNat)
  case atStart => exact ⟨0, 0, by omega, rfl, by simp, rfl⟩
  case round =>
    obtain ⟨k, n, hk, rfl, ht, rfl⟩ := hrel
    by_cases hlt : k < n1
    · have hi1 := hr1 k hlt
      have hi2 := hr2 k hlt
      have hlt' : (k : Int) < (n1 : Int) := by omega
      have HT := hide ht
      clear ht hr1 hr2
      generalize hx : l1.getD k 0 = x at hi1
      generalize hy : l2.getD k 0 = y at hi2
      have HX := hide hx
      have HY := hide hy
      clear hx hy
      go_wp2
      go_quiet (fail)
      go_wp2
      · rename_i hxy
        go_ret
        exact ⟨ret_bool (decide_eq_false (ne_of_getD l1 l2 k (by rw [HX.out, HY.out]; simpa using hxy))).symm, n + nq, by simp⟩
      · rename_i hxy
        exact ⟨⟨k + 1, _, by omega, by go_num, take_eq_step l1 l2 k (by omega) (by omega) HT.out (by rw [HX.out, HY.out]; simpa using hxy), rfl⟩, by simp [intOf]; omega⟩
    · go_wp2
      go_ret
      exact ⟨ret_bool (by rw [List.take_of_length_le (by omega), List.take_of_length_le (by omega)] at ht; simp [ht]), _, rfl⟩

theorem Equal_none (a1 a2 : Option Addr) (n1 n2 c1 c2 : Nat) (w : World) (hz : n1 = 0 ∨ n2 = 0) (hm1 : n1 ≤ 9223372036854775807) (hm2 : n2 ≤ 9223372036854775807) :
    Calls Tryd.prog 22 #[.slice a1 n1 c1, .slice a2 n2 c2] w fun e w' => e = .returned (.bool (decide (n1 = n2))) ∧ ∃ n, w' = w.drewN n := by
  by_cases hn : n1 = n2
  · subst hn
    obtain rfl : n1 = 0 := by omega
    go_enter Tryd.func22, Tryd.ntmps22
    go_wp2
    refine wp_loop_rounds 1 ?_; rw [rounds_succ]
    go_wp2
    go_ret
    exact ⟨rfl, 0, rfl⟩
  · have hne : ((n1 : Int) != (n2 : Int)) = true := by simp; omega
    go_enter Tryd.func22, Tryd.ntmps22
    go_wp2
    go_ret
    exact ⟨ret_bool (by simp [hn]), 0, rfl⟩

theorem Equal_ne (a1 a2 : Option Addr) (n1 n2 c1 c2 : Nat) (w : World) (hn : n1 ≠ n2) (hm1 : n1 ≤ 9223372036854775807) (hm2 : n2 ≤ 9223372036854775807) :
    Calls Tryd.prog 22 #[.slice a1 n1 c1, .slice a2 n2 c2] w fun e w' => e = .returned (.bool false) ∧ ∃ n, w' = w.drewN n := by
  have hne : ((n1 : Int) != (n2 : Int)) = true := by simp; omega
  go_enter Tryd.func22, Tryd.ntmps22
  go_wp2
  go_ret
  exact ⟨rfl, 0, rfl⟩

/-- slices.Equal: are the two lists one? -/
theorem Equal_c (a1 a2 : Option Addr) (n1 n2 c1 c2 : Nat) (l1 l2 : List Int) (w : World) (h1 : Ints w a1 n1 c1 l1) (h2 : Ints w a2 n2 c2 l2) :
    Calls Tryd.prog 22 #[.slice a1 n1 c1, .slice a2 n2 c2] w fun e w' => e = .returned (.bool (decide (l1 = l2))) ∧ ∃ n, w' = w.drewN n := by
  obtain ⟨hl1, hc1, hm1, hn1, hr1, hw1⟩ := h1
  obtain ⟨hl2, hc2, hm2, hn2, hr2, hw2⟩ := h2
  by_cases hn : n1 = n2
  · subst hn
    rcases hr1 with h0 | ⟨b1, o1, rfl, _, hr1⟩
    · refine (Equal_none a1 a2 n1 n1 c1 c2 w (.inl h0) (by omega) (by omega)).mono fun e w' h => ⟨?_, h.2⟩
      rw [h.1]; subst h0
      exact ret_bool (by rw [List.length_eq_zero_iff] at hl1 hl2; simp [hl1, hl2])
    · rcases hr2 with h0 | ⟨b2, o2, rfl, _, hr2⟩
      · refine (Equal_none _ a2 n1 n1 c1 c2 w (.inl h0) (by omega) (by omega)).mono fun e w' h => ⟨?_, h.2⟩
        rw [h.1]; subst h0
        exact ret_bool (by rw [List.length_eq_zero_iff] at hl1 hl2; simp [hl1, hl2])
      · exact Equal_some b1 o1 b2 o2 n1 c1 c2 l1 l2 w hl1 hl2 (by omega) hr1 hr2
  · refine (Equal_ne a1 a2 n1 n2 c1 c2 w hn (by omega) (by omega)).mono fun e w' h => ⟨?_, h.2⟩
    rw [h.1]
    exact ret_bool (by simp; intro h; subst h; omega)

end Go.Proofs.YtcmladgldjcdmaaDoor

/- The contracts of the searches over a slice of ints, and of the law's own 'at': each call returns what the plain function says; no condition but that the slice reads as the list. -/
namespace Go.Proofs.YtcmladgldjcdmaaDoor
open Go.RowKit
set_option linter.unusedVariables false
set_option maxRecDepth 100000

set_option maxHeartbeats 400000 in
theorem IndexFunc_some (b1 o1 n1 c1 : Nat) (l1 : List Int) (a b : Int) (g h : Nat) (w : World) (hl1 : l1.length = n1) (hm1 : n1 ≤ 9223372036854775807)
    (hr1 : ∀ i, i < n1 → w.cell? ⟨b1, o1 + i, none⟩ = some (.int .i64 (l1.getD i 0)))
    (hg : w.cell? ⟨g, 0, none⟩ = some (.int .i64 a)) (hh : w.cell? ⟨h, 0, none⟩ = some (.int .i64 b)) :
    Calls Tryd.prog 69 #[.slice (some ⟨b1, o1, none⟩) n1 c1, .func (Fn.func 76) #[] #[.pointer (some ⟨g, 0, none⟩), .pointer (some ⟨h, 0, none⟩)]] w
      fun e w' => (∃ r, e = .returned (.int .i64 r) ∧ decide (0 ≤ r) = l1.any (outB a b)) ∧ w' = w := by
  go_enter Tryd.func69, Tryd.ntmps69
  go_wp2
  go_loop [8] (fun i => ∃ k : Nat, k ≤ n1 ∧ i = .int .i64 k ∧ (l1.take k).any (outB a b) = false) (fun i => n1 - (intOf i).toNat)
  case atStart => exact ⟨0, by omega, rfl, by simp⟩
  case round =>
    obtain ⟨k, hk, rfl, ht⟩ := hrel
    by_cases hlt : k < n1
    · have hi1 := hr1 k hlt
      have hlt' : (k : Int) < (n1 : Int) := by omega
      have HT := hide ht
      clear ht hr1
      generalize hx : l1.getD k 0 = x at hi1
      have HX := hide hx
      clear hx
      go_wp2_with (go_at_call 76; refine (outside1_c x a b g h _ hg hh).mono ?_; rintro e w' ⟨rfl, rfl⟩)
      · rename_i hxy
        go_ret
        exact ⟨⟨k, rfl, by rw [any_of_getD _ l1 k (by omega) (by rw [HX.out]; exact hxy)]; simp⟩, rfl⟩
      · rename_i hxy
        exact ⟨⟨k + 1, by omega, by go_num, any_take_step _ l1 k (by omega) HT.out (by rw [HX.out]; exact hxy)⟩, by simp [intOf]; omega⟩
    · go_wp2
      go_ret
      rw [List.take_of_length_le (by omega)] at ht
      exact ⟨⟨-1, rfl, by rw [ht]; rfl⟩, rfl⟩

theorem IndexFunc_none (a1 : Option Addr) (c1 : Nat) (a b : Int) (g h : Nat) (w : World) :
    Calls Tryd.prog 69 #[.slice a1 0 c1, .func (Fn.func 76) #[] #[.pointer (some ⟨g, 0, none⟩), .pointer (some ⟨h, 0, none⟩)]] w
      fun e w' => (∃ r, e = .returned (.int .i64 r) ∧ decide (0 ≤ r) = false) ∧ w' = w := by
  go_enter Tryd.func69, Tryd.ntmps69
  go_wp2
  refine wp_loop_rounds 1 ?_; rw [rounds_succ]
  go_wp2
  go_ret
  exact ⟨⟨-1, rfl, rfl⟩, rfl⟩

theorem IndexFunc_c (a1 : Option Addr) (n1 c1 : Nat) (l1 : List Int) (a b : Int) (g h : Nat) (w : World) (h1 : Ints w a1 n1 c1 l1)
    (hg : w.cell? ⟨g, 0, none⟩ = some (.int .i64 a)) (hh : w.cell? ⟨h, 0, none⟩ = some (.int .i64 b)) :
    Calls Tryd.prog 69 #[.slice a1 n1 c1, .func (Fn.func 76) #[] #[.pointer (some ⟨g, 0, none⟩), .pointer (some ⟨h, 0, none⟩)]] w
      fun e w' => (∃ r, e = .returned (.int .i64 r) ∧ decide (0 ≤ r) = l1.any (outB a b)) ∧ w' = w := by
  obtain ⟨hl1, hc1, hm1, hn1, hr1, hw1⟩ := h1
  rcases hr1 with h0 | ⟨b1, o1, rfl, _, hr1⟩
  · subst h0
    rw [List.length_eq_zero_iff] at hl1
    subst hl1
    exact IndexFunc_none a1 c1 a b g h w
  · exact IndexFunc_some b1 o1 n1 c1 l1 a b g h w hl1 (by omega) hr1 hg hh

theorem ContainsFunc_c (a1 : Option Addr) (n1 c1 : Nat) (l1 : List Int) (a b : Int) (g h : Nat) (w : World) (h1 : Ints w a1 n1 c1 l1)
    (hg : w.cell? ⟨g, 0, none⟩ = some (.int .i64 a)) (hh : w.cell? ⟨h, 0, none⟩ = some (.int .i64 b)) :
    Calls Tryd.prog 56 #[.slice a1 n1 c1, .func (Fn.func 76) #[] #[.pointer (some ⟨g, 0, none⟩), .pointer (some ⟨h, 0, none⟩)]] w
      fun e w' => e = .returned (.bool (l1.any (outB a b))) ∧ w' = w := by
  go_enter Tryd.func56, Tryd.ntmps56
  go_wp2_with fail
  refine (IndexFunc_c a1 n1 c1 l1 a b g h _ h1 hg hh).mono ?_
  rintro e w' ⟨⟨r, rfl, hr⟩, rfl⟩
  have HR := hide hr
  clear hr
  go_wp2
  go_ret
  exact ⟨ret_bool HR.out, rfl⟩

end Go.Proofs.YtcmladgldjcdmaaDoor

/- The contracts of zone.Check, zone.Same and of the document's own answers to them; no condition but that the zone reads as its state and list. -/
namespace Go.Proofs.YtcmladgldjcdmaaDoor
open Go.RowKit
set_option linter.unusedVariables false
set_option maxRecDepth 100000
set_option linter.unusedSimpArgs false

/-- What Check answers: plain. -/
def checkZ (s : Int) (l : List Int) : Int :=
  if outB 0 4 s then 4 else if 8 < l.length then 2 else if l.any (outB 0 999) then 3 else if fitsB s l.length then 0 else 4

theorem checkZ_1 {s : Int} {l : List Int} (h1 : outB 0 4 s = true) : 4 = checkZ s l := by simp [checkZ, h1]
theorem checkZ_2 {s : Int} {l : List Int} (h1 : outB 0 4 s = false) (h2 : 8 < l.length) : 2 = checkZ s l := by simp [checkZ, h1, h2]
theorem checkZ_3 {s : Int} {l : List Int} (h1 : outB 0 4 s = false) (h2 : ¬ 8 < l.length) (h3 : l.any (outB 0 999) = true) : 3 = checkZ s l := by simp only [checkZ, h1, h2, h3]; simp
theorem checkZ_4 {s : Int} {l : List Int} (h1 : outB 0 4 s = false) (h2 : ¬ 8 < l.length) (h3 : l.any (outB 0 999) = false) (h4 : fitsB s l.length = false) : 4 = checkZ s l := by simp only [checkZ, h1, h2, h3, h4]; simp
theorem checkZ_0 {s : Int} {l : List Int} (h1 : outB 0 4 s = false) (h2 : ¬ 8 < l.length) (h3 : l.any (outB 0 999) = false) (h4 : fitsB s l.length = true) : 0 = checkZ s l := by simp only [checkZ, h1, h2, h3, h4]; simp

theorem inB_outB (x a b : Int) : inB x a b = !outB a b x := by unfold inB outB; rw [Bool.eq_iff_iff]; simp
set_option maxHeartbeats 1000000 in
theorem Check_c (s : Int) (a : Option Addr) (n c : Nat) (l : List Int) (w : World) (h : Ints w a n c l) :
    Calls Tryd.prog 48 #[.agg #[.int .i64 s, .slice a n c]] w fun e w' => e = .returned (.int .i64 (checkZ s l)) ∧ Below w.heap.size w w' := by
  have hlen := hide h.len
  have hmax := h.max
  have hle := h.le
  go_enter Tryd.func48, Tryd.ntmps48
  go_wp2
  go_region_held3 (fun w' => w'.cell? ⟨w.heap.size, 0, none⟩ = some (.int .i64 s) ∧ w'.cell? ⟨w.heap.size, 1, none⟩ = some (.slice a n c)) (go_keep)
    (first | (go_at_call 65; refine (outside_c _ _ _).mono ?_; rintro e w' ⟨rfl, rfl⟩) | (go_at_call 76; refine (outside1_c _ 0 4 _ _ _ ?hg ?hh).mono ?hm; (case hg => (first | (go_simp; done) | (simp [*, World.cell?_alloc_at, World.cell?_alloc_past, World.cell?_alloc_some, World.cell?_setCell_far]; done))); (case hh => (first | (go_simp; done) | (simp [*, World.cell?_alloc_at, World.cell?_alloc_past, World.cell?_alloc_some, World.cell?_setCell_far]; done))); rintro e w' ⟨rfl, rfl⟩))
  go_wp2
  · go_ret
    exact ⟨ret_int (checkZ_1 ‹_›), by (repeat first | exact bel0 | assumption | refine bel1 ?_ | refine bel2 ?_ | refine bel3 ?_ | refine belowT ?_ (by assumption) | refine bel5 ?_ (by simp; try omega))⟩
  · have hl := hlen.out
    go_ret
    exact ⟨ret_int (checkZ_2 ‹_› (by omega)), by (repeat first | exact bel0 | assumption | refine bel1 ?_ | refine bel2 ?_ | refine bel3 ?_ | refine belowT ?_ (by assumption) | refine bel5 ?_ (by simp; try omega))⟩
  · go_region_held3 (fun w' => w'.cell? ⟨w.heap.size, 0, none⟩ = some (.int .i64 s) ∧ w'.cell? ⟨w.heap.size, 1, none⟩ = some (.slice a n c)) (first | (go_simp; done) | (simp [*, World.cell?_alloc_at, World.cell?_alloc_past, World.cell?_alloc_some, World.cell?_setCell_far]; done))
      (first | (go_at_call 65; refine (outside_c _ _ _).mono ?_; rintro e w' ⟨rfl, rfl⟩) | (go_at_call 56; refine (ContainsFunc_c a n c l 0 999 _ _ _ ?hi2 ?hg2 ?hh2).mono ?hm2; (case hi2 => refine h.below (B := w.heap.size) ?_ (Nat.le_refl _); (repeat first | exact bel0 | assumption | refine bel1 ?_ | refine bel2 ?_ | refine bel3 ?_ | refine belowT ?_ (by assumption) | refine bel5 ?_ (by simp; try omega))); (case hg2 => (first | (go_simp; done) | (simp [*, World.cell?_alloc_at, World.cell?_alloc_past, World.cell?_alloc_some, World.cell?_setCell_far]; done))); (case hh2 => (first | (go_simp; done) | (simp [*, World.cell?_alloc_at, World.cell?_alloc_past, World.cell?_alloc_some, World.cell?_setCell_far]; done))); rintro e w' ⟨rfl, rfl⟩))
    go_wp2_with (go_at_call 66; refine (fits_c _ _ _).mono ?_; rintro e w' ⟨rfl, rfl⟩)
    · have hl := hlen.out
      go_ret
      exact ⟨ret_int (checkZ_3 ‹_› (by omega) ‹_›), by (repeat first | exact bel0 | assumption | refine bel1 ?_ | refine bel2 ?_ | refine bel3 ?_ | refine belowT ?_ (by assumption) | refine bel5 ?_ (by simp; try omega))⟩
    · have hl := hlen.out
      go_ret
      exact ⟨ret_int (checkZ_4 ‹_› (by omega) ‹_› (by rw [hl]; simpa using ‹(!fitsB s n) = true›)), by (repeat first | exact bel0 | assumption | refine bel1 ?_ | refine bel2 ?_ | refine bel3 ?_ | refine belowT ?_ (by assumption) | refine bel5 ?_ (by simp; try omega))⟩
    · have hl := hlen.out
      go_ret
      exact ⟨ret_int (checkZ_0 ‹_› (by omega) ‹_› (by rw [hl]; simpa using ‹(!fitsB s n) = false›)), by (repeat first | exact bel0 | assumption | refine bel1 ?_ | refine bel2 ?_ | refine bel3 ?_ | refine belowT ?_ (by assumption) | refine bel5 ?_ (by simp; try omega))⟩

theorem Same_c (s t : Int) (a b : Option Addr) (n c m d : Nat) (l k : List Int) (w : World) (h1 : Ints w a n c l) (h2 : Ints w b m d k) :
    Calls Tryd.prog 47 #[.agg #[.int .i64 s, .slice a n c], .agg #[.int .i64 t, .slice b m d]] w fun e w' => e = .returned (.bool (decide (s = t ∧ l = k))) ∧ Below w.heap.size w w' := by
  by_cases hst : s = t
  · have hb : (s == t) = true := by simp [hst]
    have HST := hide hst
    clear hst
    go_enter Tryd.func47, Tryd.ntmps47
    go_wp2_with (go_at_call 22; refine (Equal_c a b n m c d l k _ ?h1 ?h2).mono ?hm; (case h1 => refine h1.below (B := w.heap.size) ?_ (Nat.le_refl _); (repeat first | exact bel0 | assumption | refine bel1 ?_ | refine bel2 ?_ | refine bel3 ?_ | refine belowT ?_ (by assumption) | refine bel5 ?_ (by simp; try omega))); (case h2 => refine h2.below (B := w.heap.size) ?_ (Nat.le_refl _); (repeat first | exact bel0 | assumption | refine bel1 ?_ | refine bel2 ?_ | refine bel3 ?_ | refine belowT ?_ (by assumption) | refine bel5 ?_ (by simp; try omega))); rintro e w' ⟨rfl, q, rfl⟩)
    go_ret
    exact ⟨ret_bool (by simp [HST.out]), by (repeat first | exact bel0 | assumption | refine bel1 ?_ | refine bel2 ?_ | refine bel3 ?_ | refine belowT ?_ (by assumption) | refine bel5 ?_ (by simp; try omega))⟩
  · have hb : (s == t) = false := by simp [hst]
    have HST := hide hst
    clear hst
    go_enter Tryd.func47, Tryd.ntmps47
    go_wp2
    go_ret
    exact ⟨ret_bool (by simp [HST.out]), by (repeat first | exact bel0 | assumption | refine bel1 ?_ | refine bel2 ?_ | refine bel3 ?_ | refine belowT ?_ (by assumption) | refine bel5 ?_ (by simp; try omega))⟩

end Go.Proofs.YtcmladgldjcdmaaDoor
