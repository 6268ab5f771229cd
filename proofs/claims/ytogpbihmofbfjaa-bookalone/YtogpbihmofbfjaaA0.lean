/- What a slice of ints is in a world, and small facts on it; plain mathematics, no condition. -/
import Derived.WalkKit
import Derived.Deep.Draws
import Derived.Laws.CopyOwn
import Derived.Deep.OwnRows
namespace Go.Proofs.Ytogpbihmofbfjaa
open Go.RowKit
set_option linter.unusedVariables false
set_option maxRecDepth 100000

/-- A slice value's numbers in a world: the first 'n' cells hold 'l'. -/
structure Ints (w : World) (a : Option Addr) (n c : Nat) (l : List Int) : Prop where
  len : l.length = n
  le : n ≤ c
  max : c ≤ 9223372036854775807
  nil : a = none → c = 0
  row : n = 0 ∨ ∃ b off, a = some ⟨b, off, none⟩ ∧ b < w.heap.size ∧ ∀ i, i < n → w.cell? ⟨b, off + i, none⟩ = some (.int .i64 (l.getD i 0))
  wf : ∀ x ∈ l, -9223372036854775808 ≤ x ∧ x ≤ 9223372036854775807

theorem Ints.below {w w' : World} {a : Option Addr} {n c : Nat} {l : List Int} (h : Ints w a n c l) {B : Nat} (hb : Below B w w') (hB : w.heap.size ≤ B) : Ints w' a n c l := by
  refine ⟨h.len, h.le, h.max, h.nil, ?_, h.wf⟩
  rcases h.row with h0 | ⟨b, off, ha, hlt, hc⟩
  · exact .inl h0
  · refine .inr ⟨b, off, ha, Nat.lt_of_lt_of_le hlt hb.size, fun i hi => ?_⟩
    rw [hb.cell (p := ⟨b, off + i, none⟩) (Nat.lt_of_lt_of_le hlt hB)]; exact hc i hi

theorem Ints.drewN {w : World} {a : Option Addr} {n c : Nat} {l : List Int} (h : Ints w a n c l) (k : Nat) : Ints (w.drewN k) a n c l :=
  ⟨h.len, h.le, h.max, h.nil, h.row, h.wf⟩

theorem Ints.nilSlice (w : World) : Ints w none 0 0 [] := ⟨rfl, Nat.le_refl _, by omega, fun _ => rfl, .inl rfl, by simp⟩

theorem bcell {W w1 : World} {B : Nat} (hb : Below B W w1) : (∀ b o, b < B → w1.cell? ⟨b, o, none⟩ = W.cell? ⟨b, o, none⟩) ∧ (∀ b o, b < B → w1.frozen? ⟨b, o, none⟩ = W.frozen? ⟨b, o, none⟩) :=
  ⟨fun b o h => hb.cell (p := ⟨b, o, none⟩) h, fun b o h => hb.frozen (p := ⟨b, o, none⟩) h⟩

theorem below_drewN {B : Nat} {a w : World} (h : Below B a w) (n : Nat) : Below B a (w.drewN n) := ⟨h.os, h.tape, h.output, h.size, h.block⟩

theorem belowA {a w : World} (h : Below a.heap.size a w) (o : Obj) : Below a.heap.size a (w.alloc o) := h.alloc h.size o

theorem belowT {a b c : World} (h : Below a.heap.size a b) (k : Below b.heap.size b c) : Below a.heap.size a c := h.trans (k.mono h.size)

/-- The steps of what lies below, under short names. -/
theorem bel0 {B : Nat} {w : World} : Below B w w := Below.refl B w
theorem bel1 {B : Nat} {a w : World} (h : Below B a w) : Below B a w.drew := h.drew
theorem bel2 {B n : Nat} {a w : World} (h : Below B a w) : Below B a (w.drewN n) := below_drewN h n
theorem bel3 {a w : World} {o : Obj} (h : Below a.heap.size a w) : Below a.heap.size a (w.alloc o) := belowA h o
theorem bel5 {B : Nat} {a w : World} {p : Addr} {u : Value} (h : Below B a w) (hp : B ≤ p.block) : Below B a (w.setCell p u) := h.setCell hp u
theorem keepc {W w' : World} (hb : Below W.heap.size W w') {p : Addr} {u : Value} (h : W.cell? p = some u) : w'.cell? p = some u := by
  rw [hb.cell (World.block_lt_of_cell? W p h)]; exact h
theorem keepf {W w' : World} (hb : Below W.heap.size W w') {p : Addr} {u : Value} (h : W.cell? p = some u) {b : Bool} (hf : W.frozen? p = b) : w'.frozen? p = b := by
  rw [hb.frozen (World.block_lt_of_cell? W p h)]; exact hf

theorem past1 {w : World} {p : Addr} {v : Value} (h : w.cell? p = some v) (o : Obj) : (w.alloc o).cell? p = some v := by
  have hlt : p.block < w.heap.size := World.block_lt_of_cell? w p h
  rw [World.cell?_alloc_lt w o p hlt, h]
theorem pastf1 {w : World} {p : Addr} {v : Value} (h : w.cell? p = some v) {b : Bool} (hf : w.frozen? p = b) (o : Obj) : (w.alloc o).frozen? p = b := by
  have hlt : p.block < w.heap.size := World.block_lt_of_cell? w p h
  rw [World.frozen?_alloc_old w o p (Nat.ne_of_lt hlt), hf]
theorem past2 {w : World} {p : Addr} {v : Value} (h : w.cell? p = some v) (o1 o2 : Obj) : ((w.alloc o1).alloc o2).cell? p = some v := past1 (past1 h o1) o2
theorem past3 {w : World} {p : Addr} {v : Value} (h : w.cell? p = some v) (o1 o2 o3 : Obj) : (((w.alloc o1).alloc o2).alloc o3).cell? p = some v := past1 (past2 h o1 o2) o3
theorem past4 {w : World} {p : Addr} {v : Value} (h : w.cell? p = some v) (o1 o2 o3 o4 : Obj) : ((((w.alloc o1).alloc o2).alloc o3).alloc o4).cell? p = some v := past1 (past3 h o1 o2 o3) o4

theorem hide {p : Prop} (h : p) : Hid p := h

theorem take_succ_getD (l : List Int) (k : Nat) (h : k < l.length) : l.take (k + 1) = l.take k ++ [l.getD k 0] := by
  rw [List.take_succ_eq_append_getElem h]; simp [List.getD, h]

theorem take_eq_step (l m : List Int) (k : Nat) (hl : k < l.length) (hm : k < m.length) (h : l.take k = m.take k) (hx : l.getD k 0 = m.getD k 0) : l.take (k + 1) = m.take (k + 1) := by
  rw [take_succ_getD l k hl, take_succ_getD m k hm, h, hx]

theorem ne_of_getD (l m : List Int) (k : Nat) (hx : l.getD k 0 ≠ m.getD k 0) : l ≠ m := fun h => hx (by rw [h])

theorem ret_bool {a b : Bool} (h : a = b) : Ending.returned (.bool a) = .returned (.bool b) := by rw [h]
theorem ret_vi {v : Value} {k : IntKind} {a b : Int} (h : a = b) : Ending.returned (.tuple #[v, .int k a]) = .returned (.tuple #[v, .int k b]) := by rw [h]
theorem ret_int {k : IntKind} {a b : Int} (h : a = b) : Ending.returned (.int k a) = .returned (.int k b) := by rw [h]

theorem any_take_step (p : Int → Bool) (l : List Int) (k : Nat) (hk : k < l.length) (h : (l.take k).any p = false) (hx : p (l.getD k 0) = false) : (l.take (k + 1)).any p = false := by
  rw [take_succ_getD l k hk]; generalize l.getD k 0 = x at hx; simp [h, hx]

theorem any_of_getD (p : Int → Bool) (l : List Int) (k : Nat) (hk : k < l.length) (hx : p (l.getD k 0) = true) : l.any p = true := by
  rw [List.any_eq_true]; exact ⟨l.getD k 0, by simp [List.getD, hk], hx⟩

theorem all_take_step (p : Int → Bool) (l : List Int) (k : Nat) (hk : k < l.length) (h : (l.take k).all p = true) (hx : p (l.getD k 0) = true) : (l.take (k + 1)).all p = true := by
  rw [take_succ_getD l k hk]; generalize l.getD k 0 = x at hx; simp [h, hx]

theorem not_all_of_getD (p : Int → Bool) (l : List Int) (k : Nat) (hk : k < l.length) (hx : p (l.getD k 0) = false) : l.all p = false := by
  rw [List.all_eq_false]; exact ⟨l.getD k 0, by simp [List.getD, hk], fun h => by rw [hx] at h; cases h⟩

/-- 'copy' into a row that is known whole: what its run comes to. -/
theorem copy_run {P : Program} (w : World) (dT sT ty elem : TypeId) (hu : P.underlying dT = some (.slice elem)) (hsz : (P.info? elem).map (·.size) = some 1)
    (dp sp : Option Addr) (dLen dCap sLen sCap g off : Nat) (cur : List Value) (t : TypeId) (hg : w.heap[g]? = some (.cells cur.toArray t (0, 0))) (cs : List Value) (hn : cs.length = Nat.min sLen dLen)
    (hpos : 0 < cs.length → dp = some ⟨g, off, none⟩ ∧ ∃ ad, sp = some ad ∧ ∀ j v, cs[j]? = some v → w.cell? (ad.add j) = some v)
    (hfit : off + cs.length ≤ cur.length) (ho : ∀ v ∈ cs, v.oneCell' = true) :
    ∃ w', (Builtin.copy_ #[dT, sT] ty #[.slice dp dLen dCap, .slice sp sLen sCap]).run P w = .ok (goInt cs.length) w' ∧
      w'.heap[g]? = some (.cells (splice cur off cs).toArray t (0, 0)) ∧ Below g w w' := by
  by_cases h0 : cs.length = 0
  · obtain rfl : cs = [] := List.eq_nil_of_length_eq_zero h0
    exact ⟨w, run_copy_none (P := P) w dT sT ty elem dp sp dLen dCap sLen sCap hu hsz (by simpa using hn.symm), by simpa [splice] using hg, Below.refl _ _⟩
  · obtain ⟨rfl, ad, rfl, hsrc⟩ := hpos (by omega)
    exact ⟨_, run_copy_row (P := P) w dT sT ty elem g off dLen dCap ad sLen sCap cur.toArray t cs hu hsz hg hn hsrc (by simpa using hfit) ho,
      by simpa [splice] using setRow_heap w g _ _ t _ hg, below_setRow (Below.refl _ _) (Nat.le_refl _) _⟩

theorem heap_new (w : World) (o : Obj) : (w.alloc o).heap[w.heap.size]? = some o := by show (w.heap.push o)[w.heap.size]? = _; simp

theorem heap_new1 (w : World) (o p : Obj) : ((w.alloc o).alloc p).heap[w.heap.size]? = some o := by show ((w.heap.push o).push p)[w.heap.size]? = _; rw [Array.getElem?_push, if_neg (by simp)]; simp
theorem heap_new2 (w : World) (o p : Obj) : ((w.alloc o).alloc p).heap[w.heap.size + 1]? = some p := by have := heap_new (w.alloc o) p; simpa using this

theorem splice_one {α : Type} (Z A : List α) (h : Z.length = A.length) : splice Z 0 A = A := by simp [splice]; omega

theorem splice_two {α : Type} (Z A B : List α) (h : Z.length = A.length + B.length) : splice (splice Z 0 A) A.length B = A ++ B := by
  simp [splice]; omega

/-- A list of ints as the cells hold it. -/
def cellsOf (l : List Int) : List Value := l.map (Value.int .i64)
theorem cellsOf_len (l : List Int) : (cellsOf l).length = l.length := by simp [cellsOf]
theorem cellsOf_app (l k : List Int) : cellsOf l ++ cellsOf k = cellsOf (l ++ k) := by simp [cellsOf]
theorem cellsOf_one (l : List Int) : ∀ v ∈ cellsOf l, v.oneCell' = true := by
  intro v hv
  simp [cellsOf] at hv
  obtain ⟨x, _, rfl⟩ := hv
  rfl
theorem cellsOf_get (l : List Int) (i : Nat) (hi : i < l.length) : (cellsOf l)[i]? = some (.int .i64 (l.getD i 0)) := by
  simp [cellsOf, List.getD, hi]

theorem addr_add (b off i : Nat) : (⟨b, off, none⟩ : Addr).add i = ⟨b, off + i, none⟩ := by unfold Addr.add; split <;> simp_all

/-- The cells of a slice that is known, as 'copy' asks for them. -/
theorem Ints.src {w : World} {a : Option Addr} {n c : Nat} {l : List Int} (h : Ints w a n c l) (hp : 0 < n) : ∃ ad, a = some ad ∧ ∀ j v, (cellsOf l)[j]? = some v → w.cell? (ad.add j) = some v := by
  rcases h.row with h0 | ⟨b, off, ha, hlt, hc⟩
  · omega
  · refine ⟨_, ha, fun j v hv => ?_⟩
    have hj : j < l.length := by have := (List.getElem?_eq_some_iff.1 hv).1; rwa [cellsOf_len] at this
    rw [cellsOf_get l j hj] at hv
    rw [addr_add, hc j (by rw [← h.len]; exact hj)]
    exact hv

theorem Ints.srcs {w : World} {a : Option Addr} {n c : Nat} {l : List Int} (h : Ints w a n c l) : ∀ ad, a = some ad → ∀ j v, (cellsOf l)[j]? = some v → w.cell? (ad.add j) = some v := by
  intro ad e j v hv
  have hj : j < l.length := by have := (List.getElem?_eq_some_iff.1 hv).1; rwa [cellsOf_len] at this
  obtain ⟨ad', e', hs⟩ := h.src (by rw [← h.len]; omega)
  rw [e] at e'
  cases e'
  exact hs j v hv
theorem Ints.nils {w : World} {a : Option Addr} {n c : Nat} {l : List Int} (h : Ints w a n c l) (e : a = none) : n = 0 ∧ c = 0 := by
  have h1 := h.nil e
  have h2 := h.le
  omega

/-- A row of new memory as a slice of ints. -/
theorem Ints.of_row {w : World} {g : Nat} {l : List Int} {t : TypeId} {fr : Nat × Nat} (hg : w.heap[g]? = some (.cells (cellsOf l).toArray t fr)) (hmax : l.length ≤ 9223372036854775807)
    (hwf : ∀ x ∈ l, -9223372036854775808 ≤ x ∧ x ≤ 9223372036854775807) {n : Nat} (hn : l.length = n) : Ints w (some ⟨g, 0, none⟩) n n l := by
  subst hn
  refine ⟨rfl, Nat.le_refl _, hmax, fun h => (by cases h), .inr ⟨g, 0, rfl, (Array.getElem?_eq_some_iff.1 hg).1, fun i hi => ?_⟩, hwf⟩
  rw [cell_of_row w g _ _ t fr hg, Nat.zero_add]
  simpa using cellsOf_get l i hi

theorem Ints.app_wf {w w' : World} {a b : Option Addr} {n c m d : Nat} {l k : List Int} (h : Ints w a n c l) (h' : Ints w' b m d k) : ∀ x ∈ l ++ k, -9223372036854775808 ≤ x ∧ x ≤ 9223372036854775807 := by
  intro x hx
  rcases List.mem_append.1 hx with hx | hx
  · exact h.wf x hx
  · exact h'.wf x hx

/-- w' is w, but that the cell p holds v. -/
structure Put (w w' : World) (p : Addr) (v : Value) : Prop where
  here : w'.cell? p = some v
  other : ∀ q, q ≠ p → w'.cell? q = w.cell? q
  ice : ∀ q, w'.frozen? q = w.frozen? q
  size : w'.heap.size = w.heap.size
  below : Below p.block w w'

theorem Put.refl {w : World} {p : Addr} {v : Value} (h : w.cell? p = some v) : Put w w p v := ⟨h, fun _ _ => rfl, fun _ => rfl, rfl, Below.refl _ _⟩
theorem Put.set {w w' : World} {p : Addr} {u : Value} (h : Put w w' p u) (v : Value) : Put w (w'.setCell p v) p v :=
  ⟨World.cell?_setCell_same _ _ _ h.here, fun q hq => by rw [World.cell?_setCell_other _ _ _ _ (Ne.symm hq), h.other q hq], fun q => by rw [World.frozen?_setCell, h.ice], by simp [World.setCell, h.size], h.below.setCell (Nat.le_refl _) _⟩

theorem Ints.put {w w' : World} {a : Option Addr} {n c : Nat} {l : List Int} (h : Ints w a n c l) {p : Addr} {v : Value} (hp : Put w w' p v) (hne : ∀ x, a = some x → x.block ≠ p.block) : Ints w' a n c l := by
  refine ⟨h.len, h.le, h.max, h.nil, ?_, h.wf⟩
  rcases h.row with h0 | ⟨b, off, ha, hlt, hc⟩
  · exact .inl h0
  · refine .inr ⟨b, off, ha, by rw [hp.size]; exact hlt, fun i hi => ?_⟩
    rw [hp.other _ (fun e => hne _ ha (by rw [← e]))]; exact hc i hi

theorem Ints.setCell {w : World} {a : Option Addr} {n c : Nat} {l : List Int} (h : Ints w a n c l) (p : Addr) (v : Value) (hne : ∀ x, a = some x → x.block ≠ p.block) : Ints (w.setCell p v) a n c l := by
  refine ⟨h.len, h.le, h.max, h.nil, ?_, h.wf⟩
  rcases h.row with h0 | ⟨b, off, ha, hlt, hc⟩
  · exact .inl h0
  · refine .inr ⟨b, off, ha, by simpa [World.setCell] using hlt, fun i hi => ?_⟩
    rw [World.cell?_setCell_other _ _ _ _ (fun e => hne _ ha (by rw [e]))]; exact hc i hi

end Go.Proofs.Ytogpbihmofbfjaa
