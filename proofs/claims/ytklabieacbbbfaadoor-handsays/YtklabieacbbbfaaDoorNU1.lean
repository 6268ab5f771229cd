/- What a slice of ints is in a world, and small facts on it; plain mathematics, no condition. -/
import Derived.WalkKit
import Derived.Deep.Draws
import Derived.Laws.CopyOwn
import Derived.Deep.OwnRows
import Derived.Test.YtklabieacbbbfaaDoorRows
import Derived.ProofKit
import Derived.OpenShut
import Derived.ShutString
import Derived.ChangeOld
import Derived.Below
import Derived.Lib.SmallJoins
import Derived.Test.YtklabieacbbbfaaDoorProg
import Derived.BigQuiet
import Derived.Deep.QuietTactic
import Derived.WalkSpells
import Derived.Deep.RegionHeld3
import Derived.Deep.Light
import Derived.Deep.Slices
import Derived.Lib.ItoaMem
import Derived.Lib.ParseIntB
import Derived.Lib.IndexMore
import Derived.ChangeMaps5
import Derived.KernelRfl
import Derived.Lib.AppendZeros
import Derived.Deep.DeepCutAuto
namespace Go.Proofs.YtklabieacbbbfaaDoor
open Go.RowKit
set_option linter.unusedVariables false
set_option maxRecDepth 100000

/-- A slice value's numbers in a world: the first 'n' cells hold 'l'. -/
structure Ints (w : World) (a : Option Addr) (n c : Nat) (l : List Int) : Prop where
  len : l.length = n
  le : n ≤ c
  max : c ≤ 9223372036854775807
  nil : a = none → c = 0
  row : n = 0 ∨ ∃ b off, a = some ⟨b, off, none⟩ ∧ b < w.heap.size ∧ ∀ i, i < n → w.cell? ⟨b, off + i, none⟩ = some (.int .i64 (l.getD i 0))
  wf : ∀ x ∈ l, -9223372036854775808 ≤ x ∧ x ≤ 9223372036854775807

theorem Ints.below {w w' : World} {a : Option Addr} {n c : Nat} {l : List Int} (h : Ints w a n c l) {B : Nat} (hb : Below B w w') (hB : w.heap.size ≤ B) : Ints w' a n c l := by
  refine ⟨h.len, h.le, h.max, h.nil, ?_, h.wf⟩
  rcases h.row with h0 | ⟨b, off, ha, hlt, hc⟩
  · exact .inl h0
  · refine .inr ⟨b, off, ha, Nat.lt_of_lt_of_le hlt hb.size, fun i hi => ?_⟩
    rw [hb.cell (p := ⟨b, off + i, none⟩) (Nat.lt_of_lt_of_le hlt hB)]; exact hc i hi

theorem Ints.drewN {w : World} {a : Option Addr} {n c : Nat} {l : List Int} (h : Ints w a n c l) (k : Nat) : Ints (w.drewN k) a n c l :=
  ⟨h.len, h.le, h.max, h.nil, h.row, h.wf⟩

theorem Ints.nilSlice (w : World) : Ints w none 0 0 [] := ⟨rfl, Nat.le_refl _, by omega, fun _ => rfl, .inl rfl, by simp⟩

theorem below_drewN {B : Nat} {a w : World} (h : Below B a w) (n : Nat) : Below B a (w.drewN n) := ⟨h.os, h.tape, h.output, h.size, h.block⟩

theorem belowA {a w : World} (h : Below a.heap.size a w) (o : Obj) : Below a.heap.size a (w.alloc o) := h.alloc h.size o

theorem belowT {a b c : World} (h : Below a.heap.size a b) (k : Below b.heap.size b c) : Below a.heap.size a c := h.trans (k.mono h.size)

/-- The steps of what lies below, under short names. -/
theorem bel0 {B : Nat} {w : World} : Below B w w := Below.refl B w
theorem bel1 {B : Nat} {a w : World} (h : Below B a w) : Below B a w.drew := h.drew
theorem bel2 {B n : Nat} {a w : World} (h : Below B a w) : Below B a (w.drewN n) := below_drewN h n
theorem bel3 {a w : World} {o : Obj} (h : Below a.heap.size a w) : Below a.heap.size a (w.alloc o) := belowA h o
theorem bel5 {B : Nat} {a w : World} {p : Addr} {u : Value} (h : Below B a w) (hp : B ≤ p.block) : Below B a (w.setCell p u) := h.setCell hp u
theorem keepc {W w' : World} (hb : Below W.heap.size W w') {p : Addr} {u : Value} (h : W.cell? p = some u) : w'.cell? p = some u := by
  rw [hb.cell (World.block_lt_of_cell? W p h)]; exact h
theorem keepf {W w' : World} (hb : Below W.heap.size W w') {p : Addr} {u : Value} (h : W.cell? p = some u) {b : Bool} (hf : W.frozen? p = b) : w'.frozen? p = b := by
  rw [hb.frozen (World.block_lt_of_cell? W p h)]; exact hf

theorem past1 {w : World} {p : Addr} {v : Value} (h : w.cell? p = some v) (o : Obj) : (w.alloc o).cell? p = some v := by
  have hlt : p.block < w.heap.size := World.block_lt_of_cell? w p h
  rw [World.cell?_alloc_lt w o p hlt, h]
theorem pastf1 {w : World} {p : Addr} {v : Value} (h : w.cell? p = some v) {b : Bool} (hf : w.frozen? p = b) (o : Obj) : (w.alloc o).frozen? p = b := by
  have hlt : p.block < w.heap.size := World.block_lt_of_cell? w p h
  rw [World.frozen?_alloc_old w o p (Nat.ne_of_lt hlt), hf]
theorem hide {p : Prop} (h : p) : Hid p := h

theorem take_succ_getD (l : List Int) (k : Nat) (h : k < l.length) : l.take (k + 1) = l.take k ++ [l.getD k 0] := by
  rw [List.take_succ_eq_append_getElem h]; simp [List.getD, h]

theorem take_eq_step (l m : List Int) (k : Nat) (hl : k < l.length) (hm : k < m.length) (h : l.take k = m.take k) (hx : l.getD k 0 = m.getD k 0) : l.take (k + 1) = m.take (k + 1) := by
  rw [take_succ_getD l k hl, take_succ_getD m k hm, h, hx]

theorem ne_of_getD (l m : List Int) (k : Nat) (hx : l.getD k 0 ≠ m.getD k 0) : l ≠ m := fun h => hx (by rw [h])

theorem ret_bool {a b : Bool} (h : a = b) : Ending.returned (.bool a) = .returned (.bool b) := by rw [h]
theorem ret_int {k : IntKind} {a b : Int} (h : a = b) : Ending.returned (.int k a) = .returned (.int k b) := by rw [h]

theorem any_take_step (p : Int → Bool) (l : List Int) (k : Nat) (hk : k < l.length) (h : (l.take k).any p = false) (hx : p (l.getD k 0) = false) : (l.take (k + 1)).any p = false := by
  rw [take_succ_getD l k hk]; generalize l.getD k 0 = x at hx; simp [h, hx]

theorem any_of_getD (p : Int → Bool) (l : List Int) (k : Nat) (hk : k < l.length) (hx : p (l.getD k 0) = true) : l.any p = true := by
  rw [List.any_eq_true]; exact ⟨l.getD k 0, by simp [List.getD, hk], hx⟩

theorem all_take_step (p : Int → Bool) (l : List Int) (k : Nat) (hk : k < l.length) (h : (l.take k).all p = true) (hx : p (l.getD k 0) = true) : (l.take (k + 1)).all p = true := by
  rw [take_succ_getD l k hk]; generalize l.getD k 0 = x at hx; simp [h, hx]

theorem not_all_of_getD (p : Int → Bool) (l : List Int) (k : Nat) (hk : k < l.length) (hx : p (l.getD k 0) = false) : l.all p = false := by
  rw [List.all_eq_false]; exact ⟨l.getD k 0, by simp [List.getD, hk], fun h => by rw [hx] at h; cases h⟩

/-- 'copy' into a row that is known whole: what its run comes to. -/
theorem copy_run {P : Program} (w : World) (dT sT ty elem : TypeId) (hu : P.underlying dT = some (.slice elem)) (hsz : (P.info? elem).map (·.size) = some 1)
    (dp sp : Option Addr) (dLen dCap sLen sCap g off : Nat) (cur : List Value) (t : TypeId) (hg : w.heap[g]? = some (.cells cur.toArray t (0, 0))) (cs : List Value) (hn : cs.length = Nat.min sLen dLen)
    (hpos : 0 < cs.length → dp = some ⟨g, off, none⟩ ∧ ∃ ad, sp = some ad ∧ ∀ j v, cs[j]? = some v → w.cell? (ad.add j) = some v)
    (hfit : off + cs.length ≤ cur.length) (ho : ∀ v ∈ cs, v.oneCell' = true) :
    ∃ w', (Builtin.copy_ #[dT, sT] ty #[.slice dp dLen dCap, .slice sp sLen sCap]).run P w = .ok (goInt cs.length) w' ∧
      w'.heap[g]? = some (.cells (splice cur off cs).toArray t (0, 0)) ∧ Below g w w' := by
  by_cases h0 : cs.length = 0
  · obtain rfl : cs = [] := List.eq_nil_of_length_eq_zero h0
    exact ⟨w, run_copy_none (P := P) w dT sT ty elem dp sp dLen dCap sLen sCap hu hsz (by simpa using hn.symm), by simpa [splice] using hg, Below.refl _ _⟩
  · obtain ⟨rfl, ad, rfl, hsrc⟩ := hpos (by omega)
    exact ⟨_, run_copy_row (P := P) w dT sT ty elem g off dLen dCap ad sLen sCap cur.toArray t cs hu hsz hg hn hsrc (by simpa using hfit) ho,
      by simpa [splice] using setRow_heap w g _ _ t _ hg, below_setRow (Below.refl _ _) (Nat.le_refl _) _⟩

theorem heap_new (w : World) (o : Obj) : (w.alloc o).heap[w.heap.size]? = some o := by show (w.heap.push o)[w.heap.size]? = _; simp

theorem splice_one {α : Type} (Z A : List α) (h : Z.length = A.length) : splice Z 0 A = A := by simp [splice]; omega

/-- A list of ints as the cells hold it. -/
def cellsOf (l : List Int) : List Value := l.map (Value.int .i64)
theorem cellsOf_len (l : List Int) : (cellsOf l).length = l.length := by simp [cellsOf]
theorem cellsOf_app (l k : List Int) : cellsOf l ++ cellsOf k = cellsOf (l ++ k) := by simp [cellsOf]
theorem cellsOf_one (l : List Int) : ∀ v ∈ cellsOf l, v.oneCell' = true := by
  intro v hv
  simp [cellsOf] at hv
  obtain ⟨x, _, rfl⟩ := hv
  rfl
theorem cellsOf_get (l : List Int) (i : Nat) (hi : i < l.length) : (cellsOf l)[i]? = some (.int .i64 (l.getD i 0)) := by
  simp [cellsOf, List.getD, hi]

theorem addr_add (b off i : Nat) : (⟨b, off, none⟩ : Addr).add i = ⟨b, off + i, none⟩ := by unfold Addr.add; split <;> simp_all

/-- The cells of a slice that is known, as 'copy' asks for them. -/
theorem Ints.src {w : World} {a : Option Addr} {n c : Nat} {l : List Int} (h : Ints w a n c l) (hp : 0 < n) : ∃ ad, a = some ad ∧ ∀ j v, (cellsOf l)[j]? = some v → w.cell? (ad.add j) = some v := by
  rcases h.row with h0 | ⟨b, off, ha, hlt, hc⟩
  · omega
  · refine ⟨_, ha, fun j v hv => ?_⟩
    have hj : j < l.length := by have := (List.getElem?_eq_some_iff.1 hv).1; rwa [cellsOf_len] at this
    rw [cellsOf_get l j hj] at hv
    rw [addr_add, hc j (by rw [← h.len]; exact hj)]
    exact hv

/-- A row of new memory as a slice of ints. -/
theorem Ints.of_row {w : World} {g : Nat} {l : List Int} {t : TypeId} {fr : Nat × Nat} (hg : w.heap[g]? = some (.cells (cellsOf l).toArray t fr)) (hmax : l.length ≤ 9223372036854775807)
    (hwf : ∀ x ∈ l, -9223372036854775808 ≤ x ∧ x ≤ 9223372036854775807) {n : Nat} (hn : l.length = n) : Ints w (some ⟨g, 0, none⟩) n n l := by
  subst hn
  refine ⟨rfl, Nat.le_refl _, hmax, fun h => (by cases h), .inr ⟨g, 0, rfl, (Array.getElem?_eq_some_iff.1 hg).1, fun i hi => ?_⟩, hwf⟩
  rw [cell_of_row w g _ _ t fr hg, Nat.zero_add]
  simpa using cellsOf_get l i hi

/-- w' is w, but that the cell p holds v. -/
structure Put (w w' : World) (p : Addr) (v : Value) : Prop where
  here : w'.cell? p = some v
  other : ∀ q, q ≠ p → w'.cell? q = w.cell? q
  ice : ∀ q, w'.frozen? q = w.frozen? q
  size : w'.heap.size = w.heap.size
  below : Below p.block w w'

theorem Put.refl {w : World} {p : Addr} {v : Value} (h : w.cell? p = some v) : Put w w p v := ⟨h, fun _ _ => rfl, fun _ => rfl, rfl, Below.refl _ _⟩
theorem Put.set {w w' : World} {p : Addr} {u : Value} (h : Put w w' p u) (v : Value) : Put w (w'.setCell p v) p v :=
  ⟨World.cell?_setCell_same _ _ _ h.here, fun q hq => by rw [World.cell?_setCell_other _ _ _ _ (Ne.symm hq), h.other q hq], fun q => by rw [World.frozen?_setCell, h.ice], by simp [World.setCell, h.size], h.below.setCell (Nat.le_refl _) _⟩

theorem Ints.put {w w' : World} {a : Option Addr} {n c : Nat} {l : List Int} (h : Ints w a n c l) {p : Addr} {v : Value} (hp : Put w w' p v) (hne : ∀ x, a = some x → x.block ≠ p.block) : Ints w' a n c l := by
  refine ⟨h.len, h.le, h.max, h.nil, ?_, h.wf⟩
  rcases h.row with h0 | ⟨b, off, ha, hlt, hc⟩
  · exact .inl h0
  · refine .inr ⟨b, off, ha, by rw [hp.size]; exact hlt, fun i hi => ?_⟩
    rw [hp.other _ (fun e => hne _ ha (by rw [← e]))]; exact hc i hi

theorem Ints.setCell {w : World} {a : Option Addr} {n c : Nat} {l : List Int} (h : Ints w a n c l) (p : Addr) (v : Value) (hne : ∀ x, a = some x → x.block ≠ p.block) : Ints (w.setCell p v) a n c l := by
  refine ⟨h.len, h.le, h.max, h.nil, ?_, h.wf⟩
  rcases h.row with h0 | ⟨b, off, ha, hlt, hc⟩
  · exact .inl h0
  · refine .inr ⟨b, off, ha, by simpa [World.setCell] using hlt, fun i hi => ?_⟩
    rw [World.cell?_setCell_other _ _ _ _ (fun e => hne _ ha (by rw [e]))]; exact hc i hi

end Go.Proofs.YtklabieacbbbfaaDoor

/- How the arguments of the laws read: a slice of ints, a zone; no condition. -/
namespace Go.Proofs.YtklabieacbbbfaaDoor
open Go.ChangeShapes Go.WideShapes Go.ChangeAt Go.RowKit Go.Joins
set_option linter.unusedVariables false
set_option maxRecDepth 100000
set_option linter.unusedSimpArgs false

theorem own : ownKnob Tryd.prog.godebug = none := by kernel_rfl
theorem laidOut : laidOutB Tryd.prog = true := by kernel_rfl

theorem wf_bounds {x : Int} (h : (Lit.int .i64 x).wf = true) : -9223372036854775808 ≤ x ∧ x ≤ 9223372036854775807 := by
  have := bounds_i64 h
  omega

set_option maxRecDepth 100000 in
theorem ints_of {H : Type} {enc : TypeId × Value → H} {W : World} {fuel : Nat} {v : Value} {y : DataW H × List MemPlace}
    (h : DataW.trod enc Tryd.prog W 0 (fun _ => true) true fuel 22 [v] = some y) : ∃ a n c l, v = .slice a n c ∧ Ints W a n c l := by
  rcases open_ints Tryd.underlying22 Tryd.underlying3 (by kernel_rfl) h with ⟨hcs, _⟩ | ⟨x, len, cap, zs, hcs, _, hl, hm, hz, _, hcell, hwz⟩
  · simp at hcs
    subst hcs
    exact ⟨none, 0, 0, [], rfl, Ints.nilSlice W⟩
  · simp at hcs
    subst hcs
    simp at hz
    refine ⟨some x, len, cap, zs.take len, rfl, ?_⟩
    refine ⟨by simp; omega, hl, hm, fun e => (by cases e), ?_, fun n hn => wf_bounds (hwz n (List.mem_of_mem_take hn))⟩
    by_cases h0 : len = 0
    · exact .inl h0
    · obtain ⟨b, off, spot⟩ := x
      have hc0 := hcell 0 (by omega)
      have hspot : spot = none := by simpa [Addr.add] using World.cell?_spot hc0
      subst hspot
      refine .inr ⟨b, off, rfl, World.block_lt_of_cell? W ⟨b, off, none⟩ (by simpa [Addr.add] using hc0), fun i hi => ?_⟩
      rw [← addr_add, hcell i (by omega)]
      simp [List.getD, List.getElem?_take, hi]

set_option maxRecDepth 100000 in
theorem int_arg {H : Type} {enc : TypeId × Value → H} {W : World} {base : Nat} {v : Value} {d : DataW H} {p : List MemPlace} (hv : Value.okWide Tryd.prog W .any base 3 v)
    (h : DataW.Trod enc Tryd.prog W 0 (fun _ => true) true 3 v d p) : ∃ x, v = .int .i64 x ∧ (-9223372036854775808 ≤ x ∧ x ≤ 9223372036854775807) := by
  obtain ⟨x, rfl, rfl, rfl, wx⟩ := open_int Tryd.underlying3 hv h
  exact ⟨x, rfl, wf_bounds wx⟩

end Go.Proofs.YtklabieacbbbfaaDoor

/- The contracts of the small functions: each call returns what the plain function says, in whatever world; no condition. -/
namespace Go.Proofs.YtklabieacbbbfaaDoor
open Go.RowKit
set_option linter.unusedVariables false
set_option maxRecDepth 100000

def inB (n a b : Int) : Bool := decide (a ≤ n) && decide (n ≤ b)

theorem in_c (n a b : Int) (w : World) : Calls Tryd.prog 29 #[.int .i64 n, .int .i64 a, .int .i64 b] w fun e w' => e = .returned (.bool (inB n a b)) ∧ w' = w := by
  go_enter Tryd.func29, Tryd.ntmps29
  go_wp2
  all_goals (go_ret; exact ⟨ret_bool (by unfold inB; rw [Bool.eq_iff_iff]; simp; try omega), rfl⟩)

def fitsB (s b : Int) : Bool := if s = 4 then true else if s = 0 then b == 0 else if s = 3 then decide (0 < b) && decide (b < 8) else decide (b < 8)

def outB (a b v : Int) : Bool := decide (v < a) || decide (b < v)

set_option maxHeartbeats 400000 in
theorem Equal_some (b1 o1 b2 o2 n1 c1 c2 : Nat) (l1 l2 : List Int) (w : World) (hl1 : l1.length = n1) (hl2 : l2.length = n1) (hm1 : n1 ≤ 9223372036854775807)
    (hr1 : ∀ i, i < n1 → w.cell? ⟨b1, o1 + i, none⟩ = some (.int .i64 (l1.getD i 0))) (hr2 : ∀ i, i < n1 → w.cell? ⟨b2, o2 + i, none⟩ = some (.int .i64 (l2.getD i 0))) :
    Calls Tryd.prog 39 #[.slice (some ⟨b1, o1, none⟩) n1 c1, .slice (some ⟨b2, o2, none⟩) n1 c2] w fun e w' => e = .returned (.bool (decide (l1 = l2))) ∧ ∃ n, w' = w.drewN n := by
  go_enter Tryd.func39, Tryd.ntmps39
  go_wp2
  go_loopw [13] (fun i wr => ∃ k n : Nat, k ≤ n1 ∧ i = .int .i64 k ∧ l1.take k = l2.take k ∧ wr = w.drewN n) (fun i _ => n1 - (intOf i).toNat)
  case atStart => exact ⟨0, 0, by omega, rfl, by simp, rfl⟩
  case round =>
    obtain ⟨k, n, hk, rfl, ht, rfl⟩ := hrel
    by_cases hlt : k < n1
    · have hi1 := hr1 k hlt
      have hi2 := hr2 k hlt
      have hlt' : (k : Int) < (n1 : Int) := by omega
      have HT := hide ht
      clear ht hr1 hr2
      generalize hx : l1.getD k 0 = x at hi1
      generalize hy : l2.getD k 0 = y at hi2
      have HX := hide hx
      have HY := hide hy
      clear hx hy
      go_wp2
      go_quiet (fail)
      go_wp2
      · rename_i hxy
        go_ret
        exact ⟨ret_bool (decide_eq_false (ne_of_getD l1 l2 k (by rw [HX.out, HY.out]; simpa using hxy))).symm, n + nq, by simp⟩
      · rename_i hxy
        exact ⟨⟨k + 1, _, by omega, by go_num, take_eq_step l1 l2 k (by omega) (by omega) HT.out (by rw [HX.out, HY.out]; simpa using hxy), rfl⟩, by simp [intOf]; omega⟩
    · go_wp2
      go_ret
      exact ⟨ret_bool (by rw [List.take_of_length_le (by omega), List.take_of_length_le (by omega)] at ht; simp [ht]), _, rfl⟩

theorem Equal_none (a1 a2 : Option Addr) (n1 n2 c1 c2 : Nat) (w : World) (hz : n1 = 0 ∨ n2 = 0) (hm1 : n1 ≤ 9223372036854775807) (hm2 : n2 ≤ 9223372036854775807) :
    Calls Tryd.prog 39 #[.slice a1 n1 c1, .slice a2 n2 c2] w fun e w' => e = .returned (.bool (decide (n1 = n2))) ∧ ∃ n, w' = w.drewN n := by
  by_cases hn : n1 = n2
  · subst hn
    obtain rfl : n1 = 0 := by omega
    go_enter Tryd.func39, Tryd.ntmps39
    go_wp2
    refine wp_loop_rounds 1 ?_; rw [rounds_succ]
    go_wp2
    go_ret
    exact ⟨rfl, 0, rfl⟩
  · have hne : ((n1 : Int) != (n2 : Int)) = true := by simp; omega
    go_enter Tryd.func39, Tryd.ntmps39
    go_wp2
    go_ret
    exact ⟨ret_bool (by simp [hn]), 0, rfl⟩

theorem Equal_ne (a1 a2 : Option Addr) (n1 n2 c1 c2 : Nat) (w : World) (hn : n1 ≠ n2) (hm1 : n1 ≤ 9223372036854775807) (hm2 : n2 ≤ 9223372036854775807) :
    Calls Tryd.prog 39 #[.slice a1 n1 c1, .slice a2 n2 c2] w fun e w' => e = .returned (.bool false) ∧ ∃ n, w' = w.drewN n := by
  have hne : ((n1 : Int) != (n2 : Int)) = true := by simp; omega
  go_enter Tryd.func39, Tryd.ntmps39
  go_wp2
  go_ret
  exact ⟨rfl, 0, rfl⟩

/-- slices.Equal: are the two lists one? -/
theorem Equal_c (a1 a2 : Option Addr) (n1 n2 c1 c2 : Nat) (l1 l2 : List Int) (w : World) (h1 : Ints w a1 n1 c1 l1) (h2 : Ints w a2 n2 c2 l2) :
    Calls Tryd.prog 39 #[.slice a1 n1 c1, .slice a2 n2 c2] w fun e w' => e = .returned (.bool (decide (l1 = l2))) ∧ ∃ n, w' = w.drewN n := by
  obtain ⟨hl1, hc1, hm1, hn1, hr1, hw1⟩ := h1
  obtain ⟨hl2, hc2, hm2, hn2, hr2, hw2⟩ := h2
  by_cases hn : n1 = n2
  · subst hn
    rcases hr1 with h0 | ⟨b1, o1, rfl, _, hr1⟩
    · refine (Equal_none a1 a2 n1 n1 c1 c2 w (.inl h0) (by omega) (by omega)).mono fun e w' h => ⟨?_, h.2⟩
      rw [h.1]; subst h0
      exact ret_bool (by rw [List.length_eq_zero_iff] at hl1 hl2; simp [hl1, hl2])
    · rcases hr2 with h0 | ⟨b2, o2, rfl, _, hr2⟩
      · refine (Equal_none _ a2 n1 n1 c1 c2 w (.inl h0) (by omega) (by omega)).mono fun e w' h => ⟨?_, h.2⟩
        rw [h.1]; subst h0
        exact ret_bool (by rw [List.length_eq_zero_iff] at hl1 hl2; simp [hl1, hl2])
      · exact Equal_some b1 o1 b2 o2 n1 c1 c2 l1 l2 w hl1 hl2 (by omega) hr1 hr2
  · refine (Equal_ne a1 a2 n1 n2 c1 c2 w hn (by omega) (by omega)).mono fun e w' h => ⟨?_, h.2⟩
    rw [h.1]
    exact ret_bool (by simp; intro h; subst h; omega)

end Go.Proofs.YtklabieacbbbfaaDoor

/- The contracts of the searches over a slice of ints, and of the law's own 'at': each call returns what the plain function says; no condition but that the slice reads as the list. -/
namespace Go.Proofs.YtklabieacbbbfaaDoor
open Go.RowKit
set_option linter.unusedVariables false
set_option maxRecDepth 100000

set_option maxHeartbeats 400000 in
theorem all_some (b1 o1 n1 c1 : Nat) (l1 : List Int) (a b : Int) (w : World) (hl1 : l1.length = n1) (hm1 : n1 ≤ 9223372036854775807)
    (hr1 : ∀ i, i < n1 → w.cell? ⟨b1, o1 + i, none⟩ = some (.int .i64 (l1.getD i 0))) :
    Calls Tryd.prog 44 #[.slice (some ⟨b1, o1, none⟩) n1 c1, .int .i64 a, .int .i64 b] w
      fun e w' => e = .returned (.bool (l1.all fun x => inB x a b)) ∧ w' = w := by
  go_enter Tryd.func44, Tryd.ntmps44
  go_wp2
  go_loop [11] (fun i => ∃ k : Nat, k ≤ n1 ∧ i = .int .i64 k ∧ ((l1.take k).all fun x => inB x a b) = true) (fun i => n1 - (intOf i).toNat)
  case atStart => exact ⟨0, by omega, rfl, by simp⟩
  case round =>
    obtain ⟨k, hk, rfl, ht⟩ := hrel
    by_cases hlt : k < n1
    · have hi1 := hr1 k hlt
      have hlt' : (k : Int) < (n1 : Int) := by omega
      have HT := hide ht
      clear ht hr1
      generalize hx : l1.getD k 0 = x at hi1
      have HX := hide hx
      clear hx
      go_wp2_with (go_at_call 29; refine (in_c x a b _).mono ?_; rintro e w' ⟨rfl, rfl⟩)
      · rename_i hxy
        go_ret
        exact ⟨ret_bool (not_all_of_getD (fun x => inB x a b) l1 k (by omega) (by rw [HX.out]; simpa using hxy)).symm, rfl⟩
      · rename_i hxy
        exact ⟨⟨k + 1, by omega, by go_num, all_take_step (fun x => inB x a b) l1 k (by omega) HT.out (by rw [HX.out]; simpa using hxy)⟩, by simp [intOf]; omega⟩
    · go_wp2
      go_ret
      rw [List.take_of_length_le (by omega)] at ht
      exact ⟨ret_bool ht.symm, rfl⟩

theorem all_none (a1 : Option Addr) (c1 : Nat) (a b : Int) (w : World) :
    Calls Tryd.prog 44 #[.slice a1 0 c1, .int .i64 a, .int .i64 b] w fun e w' => e = .returned (.bool true) ∧ w' = w := by
  go_enter Tryd.func44, Tryd.ntmps44
  go_wp2
  refine wp_loop_rounds 1 ?_; rw [rounds_succ]
  go_wp2
  go_ret
  exact ⟨rfl, rfl⟩

theorem all_c (a1 : Option Addr) (n1 c1 : Nat) (l1 : List Int) (a b : Int) (w : World) (h1 : Ints w a1 n1 c1 l1) :
    Calls Tryd.prog 44 #[.slice a1 n1 c1, .int .i64 a, .int .i64 b] w fun e w' => e = .returned (.bool (l1.all fun x => inB x a b)) ∧ w' = w := by
  obtain ⟨hl1, hc1, hm1, hn1, hr1, hw1⟩ := h1
  rcases hr1 with h0 | ⟨b1, o1, rfl, _, hr1⟩
  · subst h0
    rw [List.length_eq_zero_iff] at hl1
    subst hl1
    exact all_none a1 c1 a b w
  · exact all_some b1 o1 n1 c1 l1 a b w hl1 (by omega) hr1

end Go.Proofs.YtklabieacbbbfaaDoor

/- The contracts of zone.Check, zone.Same and of the document's own answers to them; no condition but that the zone reads as its state and list. -/
namespace Go.Proofs.YtklabieacbbbfaaDoor
open Go.RowKit
set_option linter.unusedVariables false
set_option maxRecDepth 100000
set_option linter.unusedSimpArgs false

/-- What Check answers: plain. -/
def checkZ (s : Int) (l : List Int) : Int :=
  if outB 0 4 s then 4 else if 8 < l.length then 2 else if l.any (outB 0 999) then 3 else if fitsB s l.length then 0 else 4

theorem inB_outB (x a b : Int) : inB x a b = !outB a b x := by unfold inB outB; rw [Bool.eq_iff_iff]; simp
theorem all_any (l : List Int) (a b : Int) : (l.all fun x => inB x a b) = !l.any (outB a b) := by
  induction l with
  | nil => rfl
  | cons x l ih => rw [List.all_cons, List.any_cons, ih, inB_outB, Bool.not_or]

end Go.Proofs.YtklabieacbbbfaaDoor

/- What a slice of zones is in a world, and plain facts on it; no condition. -/
namespace Go.Proofs.YtklabieacbbbfaaDoor
open Go.RowKit
set_option linter.unusedVariables false
set_option maxRecDepth 100000
set_option linter.unusedSimpArgs false

/-- A zone's value: its state, its slice, the blocks that the slice reads as. -/
structure ZV where
  s : Int
  a : Option Addr
  n : Nat
  c : Nat
  l : List Int

/-- The zone as plain data. -/
def ZV.p (z : ZV) : Int × List Int := (z.s, z.l)
def ZV.ok (w : World) (z : ZV) : Prop := Ints w z.a z.n z.c z.l

/-- A slice value's zones in a world. -/
structure Zones (w : World) (a : Option Addr) (n c : Nat) (Z : List ZV) : Prop where
  len : Z.length = n
  le : n ≤ c
  max : c ≤ 9223372036854775807
  nil : a = none → c = 0
  row : n = 0 ∨ ∃ b off, a = some ⟨b, off, none⟩ ∧ b < w.heap.size ∧ ∀ i z, Z[i]? = some z → w.cell? ⟨b, off + i * 2, none⟩ = some (.int .i64 z.s) ∧ w.cell? ⟨b, off + i * 2 + 1, none⟩ = some (.slice z.a z.n z.c)
  ok : ∀ z ∈ Z, z.ok w

theorem Zones.below {w w' : World} {a : Option Addr} {n c : Nat} {Z : List ZV} (h : Zones w a n c Z) {B : Nat} (hb : Below B w w') (hB : w.heap.size ≤ B) : Zones w' a n c Z := by
  refine ⟨h.len, h.le, h.max, h.nil, ?_, fun z hz => (h.ok z hz).below hb hB⟩
  rcases h.row with h0 | ⟨b, off, ha, hlt, hc⟩
  · exact .inl h0
  · refine .inr ⟨b, off, ha, Nat.lt_of_lt_of_le hlt hb.size, fun i z hz => ?_⟩
    rw [hb.cell (p := ⟨b, off + i * 2, none⟩) (Nat.lt_of_lt_of_le hlt hB), hb.cell (p := ⟨b, off + i * 2 + 1, none⟩) (Nat.lt_of_lt_of_le hlt hB)]
    exact hc i z hz

end Go.Proofs.YtklabieacbbbfaaDoor

/- How the arguments of the laws read: a slice of zones, a bool; no condition. -/
namespace Go.Proofs.YtklabieacbbbfaaDoor
open Go.ChangeShapes Go.WideShapes Go.ChangeAt Go.RowKit Go.Joins
set_option linter.unusedVariables false
set_option maxRecDepth 100000
set_option linter.unusedSimpArgs false

end Go.Proofs.YtklabieacbbbfaaDoor

/- Books as plain data, and what the document's calls make of them; plain mathematics, no condition. -/
namespace Go.Proofs.YtklabieacbbbfaaDoor
open Go.RowKit
set_option linter.unusedVariables false
set_option maxRecDepth 100000
set_option linter.unusedSimpArgs false

/-- A book: keys, holder, type. -/
structure PB where
  k : List Int
  h : Int
  t : Int

def zeroB : PB := ⟨[], 0, 0⟩
theorem three {l : List Int} (h : l.length = 3) : ∃ x y z, l = [x, y, z] := by
  match l, h with
  | [x, y, z], _ => exact ⟨x, y, z, rfl⟩

theorem Ints.three {w : World} {a : Option Addr} {c : Nat} {x y z : Int} (h : Ints w a 3 c [x, y, z]) : ∃ g off, a = some ⟨g, off, none⟩ ∧ w.cell? ⟨g, off, none⟩ = some (.int .i64 x) ∧ w.cell? ⟨g, off + 1, none⟩ = some (.int .i64 y) ∧ w.cell? ⟨g, off + 2, none⟩ = some (.int .i64 z) := by
  rcases h.row with h0 | ⟨g, off, ha, _, hc⟩
  · omega
  · exact ⟨g, off, ha, hc 0 (by omega), hc 1 (by omega), hc 2 (by omega)⟩

end Go.Proofs.YtklabieacbbbfaaDoor

/- How the arguments of the laws read: a book; no condition. -/
namespace Go.Proofs.YtklabieacbbbfaaDoor
open Go.ChangeShapes Go.WideShapes Go.ChangeAt Go.RowKit Go.Joins
set_option linter.unusedVariables false
set_option maxRecDepth 100000
set_option linter.unusedSimpArgs false

end Go.Proofs.YtklabieacbbbfaaDoor

/- Numbers as texts: what is written is read, and is written so alone; plain mathematics, no condition. -/
namespace Go.Proofs.YtklabieacbbbfaaDoor
open Go.Lib
set_option linter.unusedVariables false
set_option maxRecDepth 100000
set_option linter.unusedSimpArgs false

end Go.Proofs.YtklabieacbbbfaaDoor

/- Commands as plain data, and what the document's calls make of them; plain mathematics, no condition. -/
namespace Go.Proofs.YtklabieacbbbfaaDoor
open Go.RowKit
set_option linter.unusedVariables false
set_option maxRecDepth 100000
set_option linter.unusedSimpArgs false

/-- A command: its fields in Go's order. -/
structure PC where
  k : Int
  z : Int
  n : Int
  at' : Int
  d : List Int

def cmdV (a : Option Addr) (n c : Nat) (b : PC) : Value := .agg #[.int .i64 b.k, .int .i64 b.z, .int .i64 b.n, .int .i64 b.at', .slice a n c]
def zeroC : PC := ⟨0, 0, 0, 0, []⟩
def hasZ (k : Int) : Bool := decide (1 ≤ k) && decide (k ≤ 7)
def hasA (k : Int) : Bool := k == 6 || k == 7
def hasN (k : Int) : Bool := k == 7 || k == 8 || k == 9 || k == 11
def hasD (k : Int) : Bool := k == 5 || k == 6
/-- What Check answers. -/
def checkC (b : PC) : Int :=
  if outB 1 12 b.k then 4
  else if (b.z ≠ 0 ∧ hasZ b.k = false) ∨ (b.at' ≠ 0 ∧ hasA b.k = false) ∨ (b.n ≠ 0 ∧ hasN b.k = false) then 4
  else if hasD b.k = decide (b.d = []) then 4
  else if 8 < b.d.length then 2
  else if outB 0 999 b.z ∨ outB 0 999 b.at' ∨ outB 0 999 b.n ∨ b.d.any (outB 0 999) then 3 else 0
def sameC (a b : PC) : Bool := decide (a.k = b.k ∧ a.z = b.z ∧ a.at' = b.at' ∧ a.n = b.n ∧ a.d = b.d)

end Go.Proofs.YtklabieacbbbfaaDoor

/- How the arguments of the laws read: a command, a text; no condition. -/
namespace Go.Proofs.YtklabieacbbbfaaDoor
open Go.ChangeShapes Go.WideShapes Go.ChangeAt Go.RowKit Go.Joins Go.ChangeMaps
set_option linter.unusedVariables false
set_option maxRecDepth 100000
set_option linter.unusedSimpArgs false

theorem array5 {α : Type} {cs : Array α} (h : cs.size = 5) : ∃ c0 c1 c2 c3 c4, cs = #[c0, c1, c2, c3, c4] := by
  obtain ⟨l⟩ := cs
  match l, h with
  | [c0, c1, c2, c3, c4], _ => exact ⟨c0, c1, c2, c3, c4, rfl⟩

theorem list5 {α : Type} {xs : List α} (h : xs.length = 5) : ∃ c0 c1 c2 c3 c4, xs = [c0, c1, c2, c3, c4] := by
  match xs, h with
  | [c0, c1, c2, c3, c4], _ => exact ⟨c0, c1, c2, c3, c4, rfl⟩

theorem cellsCmd : Tryd.prog.cellsOf 24 = 5 := by kernel_rfl

set_option maxRecDepth 100000 in
theorem cmd_arg {H : Type} {enc : TypeId × Value → H} {W : World} {base : Nat} {v : Value} {d : DataW H} {p : List MemPlace} (hv : Value.okWide Tryd.prog W .any base 24 v)
    (h : DataW.Trod enc Tryd.prog W 0 (fun _ => true) true 24 v d p) : ∃ a n c b, v = cmdV a n c b ∧ Ints W a n c b.d := by
  obtain ⟨cs, rfl, hsz⟩ := okWide_struct Tryd.underlying24 hv
  obtain ⟨v0, v1, v2, v3, v4, rfl⟩ := array5 (hsz.trans cellsCmd)
  obtain ⟨fuel, hf⟩ := h
  obtain ⟨xs, n, _, _, _, hlen, hfs⟩ := DataW.trod_struct Tryd.underlying24 hf
  obtain ⟨y0, y1, y2, y3, y4, rfl⟩ := list5 hlen
  have g0 := hfs 0 _ rfl
  have g1 := hfs 1 _ rfl
  have g2 := hfs 2 _ rfl
  have g3 := hfs 3 _ rfl
  have g4 := hfs 4 _ rfl
  have c3 : Tryd.prog.cellsOf 3 = 1 := by kernel_rfl
  have c22 : Tryd.prog.cellsOf 22 = 1 := by kernel_rfl
  simp [Value.cells, c3, c22] at g0 g1 g2 g3 g4
  obtain ⟨k, e0, _, _⟩ := DataW.trod_int Tryd.underlying3 g0
  obtain ⟨z, e1, _, _⟩ := DataW.trod_int Tryd.underlying3 g1
  obtain ⟨nn, e2, _, _⟩ := DataW.trod_int Tryd.underlying3 g2
  obtain ⟨t, e3, _, _⟩ := DataW.trod_int Tryd.underlying3 g3
  simp at e0 e1 e2 e3
  subst e0 e1 e2 e3
  obtain ⟨a, n, c, l, rfl, hi⟩ := ints_of g4
  exact ⟨a, n, c, ⟨k, z, nn, t, l⟩, rfl, hi⟩

end Go.Proofs.YtklabieacbbbfaaDoor

/- The contracts of zone.Write, zone.Read and what they call; no condition but that the zone reads as its state and list. -/
namespace Go.Proofs.YtklabieacbbbfaaDoor
open Go.RowKit
set_option linter.unusedVariables false
set_option maxRecDepth 100000
set_option linter.unusedSimpArgs false

/-- What is wrong with writing k behind l in a zone of state s: plain. -/
def writeE (s : Int) (l k : List Int) : Int :=
  if checkZ s l ≠ 0 then checkZ s l else if outB 1 8 k.length then 2 else if k.any (outB 0 999) then 3 else if s = 4 ∨ 8 < l.length + k.length then 7 else 0

theorem infoInt : (Tryd.prog.info? 3).map (fun i => (i.zero, i.size, i.bytes)) = some (some (.int .i64 0), 1, 8) := by kernel_rfl
theorem sizeInt : (Tryd.prog.info? 3).map (·.size) = some 1 := by kernel_rfl

end Go.Proofs.YtklabieacbbbfaaDoor

/- The contracts of slices.Grow on nil, and of slices.Concat of two lists; under conditions on their lengths alone. -/
namespace Go.Proofs.YtklabieacbbbfaaDoor
open Go.RowKit
set_option linter.unusedVariables false
set_option maxRecDepth 100000
set_option linter.unusedSimpArgs false

/-- An owned list of ints. -/
def OwnI (w : World) (base : Nat) (v : Value) (l : List Int) : Prop := w.ownsRow base 3 1 v l.length (cellsOf l)

theorem OwnI.ints {w : World} {base : Nat} {v : Value} {l : List Int} (h : OwnI w base v l) (hwf : ∀ x ∈ l, -9223372036854775808 ≤ x ∧ x ≤ 9223372036854775807) :
    ∃ a c, v = .slice a l.length c ∧ Ints w a l.length c l ∧ ∀ x, a = some x → base ≤ x.block := by
  obtain ⟨hlen, h⟩ := h
  rcases h with ⟨rfl, h0⟩ | ⟨g, cap, cur, rfl, hb, hg, hn, hm, hs, hc⟩
  · rw [List.length_eq_zero_iff] at h0
    subst h0
    exact ⟨none, 0, rfl, Ints.nilSlice w, fun x h => by cases h⟩
  · refine ⟨_, cap, rfl, ?_, fun x h => by cases h; exact hb⟩
    refine ⟨rfl, hn, by simp [maxLen] at hm; omega, fun e => (by cases e), .inr ⟨g, 0, rfl, (Array.getElem?_eq_some_iff.1 hg).1, fun i hi => ?_⟩, hwf⟩
    rw [cell_of_row w g _ _ _ _ hg, Nat.zero_add]
    have := congrArg (fun L => L[i]?) hc
    simp only [Nat.mul_one, List.getElem?_take, hi, if_true] at this
    rw [cellsOf_get l i hi] at this
    simpa using this

theorem OwnI.base {w : World} {base q n cap : Nat} {l : List Int} (h : OwnI w base (.slice (some ⟨q, 0, none⟩) n cap) l) : base ≤ q := by
  obtain ⟨_, h⟩ := h
  rcases h with ⟨e, _⟩ | ⟨g, cap, cur, e, hb, _⟩
  · cases e
  · cases e; exact hb

end Go.Proofs.YtklabieacbbbfaaDoor

/- The contract of zone.wake; no condition but that the pointer leads to a zone. -/
namespace Go.Proofs.YtklabieacbbbfaaDoor
open Go.RowKit
set_option linter.unusedVariables false
set_option maxRecDepth 100000
set_option linter.unusedSimpArgs false

/-- The state of a zone of state s behind a write that makes it n blocks long. -/
def writeS (s : Int) (n : Nat) : Int := if n = 8 then 4 else if s = 2 then 2 else 1

end Go.Proofs.YtklabieacbbbfaaDoor

/- The contracts of zone.Write and zone.Read; no condition but that the zone reads as its state and list. -/
namespace Go.Proofs.YtklabieacbbbfaaDoor
open Go.RowKit
set_option linter.unusedVariables false
set_option maxRecDepth 100000
set_option linter.unusedSimpArgs false

end Go.Proofs.YtklabieacbbbfaaDoor

/- The contracts of zone.Read and what it calls; no condition but that the zone reads as its state and list. -/
namespace Go.Proofs.YtklabieacbbbfaaDoor
open Go.RowKit
set_option linter.unusedVariables false
set_option maxRecDepth 100000
set_option linter.unusedSimpArgs false

end Go.Proofs.YtklabieacbbbfaaDoor

/- The contracts of the document's own answers WriteZone and ReadZone; no condition but that the zone reads as its state and list. -/
namespace Go.Proofs.YtklabieacbbbfaaDoor
open Go.RowKit
set_option linter.unusedVariables false
set_option maxRecDepth 100000
set_option linter.unusedSimpArgs false

end Go.Proofs.YtklabieacbbbfaaDoor

/- The contracts of the document's own answers on zones; no condition but that the slice reads as the zones. -/
namespace Go.Proofs.YtklabieacbbbfaaDoor
open Go.RowKit
set_option linter.unusedVariables false
set_option maxRecDepth 100000
set_option linter.unusedSimpArgs false

end Go.Proofs.YtklabieacbbbfaaDoor
