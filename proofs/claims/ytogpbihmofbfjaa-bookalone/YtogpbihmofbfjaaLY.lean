/- A block's cells, and worlds that part at one block alone; plain mathematics, no condition. -/
import Derived.Test.YtogpbihmofbfjaaA0
namespace Go.Proofs.Ytogpbihmofbfjaa
open Go.RowKit
set_option linter.unusedVariables false
set_option maxRecDepth 100000
set_option linter.unusedSimpArgs false

/-- w' is w, but that block g may hold other cells, and there may be more memory. -/
structure But (g : Nat) (w w' : World) : Prop where
  low : Below g w w'
  size : w.heap.size ≤ w'.heap.size
  cell : ∀ q : Addr, q.block < w.heap.size → q.block ≠ g → w'.cell? q = w.cell? q

theorem But.refl (g : Nat) (w : World) : But g w w := ⟨Below.refl _ _, Nat.le_refl _, fun _ _ _ => rfl⟩
theorem But.trans {g : Nat} {a b c : World} (h : But g a b) (k : But g b c) : But g a c :=
  ⟨h.low.trans k.low, Nat.le_trans h.size k.size, fun q hq hg => by rw [k.cell q (Nat.lt_of_lt_of_le hq h.size) hg, h.cell q hq hg]⟩
theorem But.of_below {g : Nat} {w w' : World} (h : Below w.heap.size w w') (hg : g ≤ w.heap.size) : But g w w' :=
  ⟨h.mono hg, h.size, fun q hq _ => h.cell hq⟩
theorem But.of_put {g j : Nat} {w w' : World} {v : Value} (h : Put w w' ⟨g, j, none⟩ v) : But g w w' :=
  ⟨h.below, Nat.le_of_eq h.size.symm, fun q _ hg => h.other q (fun e => hg (by rw [e]))⟩
theorem But.of_set {g j : Nat} {w : World} {u : Value} (h : w.cell? ⟨g, j, none⟩ = some u) (v : Value) : But g w (w.setCell ⟨g, j, none⟩ v) := But.of_put ((Put.refl h).set v)

theorem Ints.but {w w' : World} {g : Nat} {a : Option Addr} {n c : Nat} {l : List Int} (h : Ints w a n c l) (hb : But g w w') (hne : n = 0 ∨ ∀ x, a = some x → x.block ≠ g) : Ints w' a n c l := by
  refine ⟨h.len, h.le, h.max, h.nil, ?_, h.wf⟩
  rcases hne with h0 | hne
  · exact .inl h0
  · rcases h.row with h0 | ⟨b, off, ha, hlt, hc⟩
    · exact .inl h0
    · refine .inr ⟨b, off, ha, Nat.lt_of_lt_of_le hlt hb.size, fun i hi => ?_⟩
      rw [hb.cell ⟨b, off + i, none⟩ hlt (by have := hne _ ha; exact this)]; exact hc i hi

theorem keepb {g : Nat} {w w' : World} (hb : But g w w') {p : Addr} {u : Value} (h : w.cell? p = some u) (hg : p.block ≠ g) : w'.cell? p = some u := by
  rw [hb.cell p (World.block_lt_of_cell? w p h) hg]; exact h

theorem But.step {g : Nat} {w w' : World} (h : But g w w') (j : Nat) (v : Value) : But g w (w'.setCell ⟨g, j, none⟩ v) :=
  ⟨h.low.setCell (Nat.le_refl _) v, by simpa [World.setCell] using h.size, fun q hq hg => by rw [World.cell?_setCell_other _ _ _ _ (fun e => hg (by rw [← e]))]; exact h.cell q hq hg⟩

/-- The cells of a block that may be written. -/
structure Lay (w : World) (B : Nat) (vs : List Value) : Prop where
  cell : ∀ i v, vs[i]? = some v → w.cell? ⟨B, i, none⟩ = some v
  ice : ∀ i, w.frozen? ⟨B, i, none⟩ = false
  lt : B < w.heap.size
theorem Lay.below {w w' : World} {B : Nat} {vs : List Value} (h : Lay w B vs) (hb : Below w.heap.size w w') : Lay w' B vs :=
  ⟨fun i v hv => keepc hb (h.cell i v hv), fun i => by rw [hb.frozen (by exact h.lt)]; exact h.ice i, Nat.lt_of_lt_of_le h.lt hb.size⟩
theorem Lay.made (w : World) (vs : List Value) (t : TypeId) : Lay (w.alloc (.cells vs.toArray t (0, 0))) w.heap.size vs :=
  ⟨fun i v hv => by rw [cell_of_row _ _ _ _ _ _ (heap_new w _)]; simpa using hv, fun i => by unfold World.frozen?; rw [show (w.alloc (.cells vs.toArray t (0, 0))).heap[(⟨w.heap.size, i, none⟩ : Addr).block]? = _ from heap_new w _]; simp, by simp⟩
theorem Lay.drew {w : World} {B : Nat} {vs : List Value} (h : Lay w B vs) : Lay w.drew B vs := ⟨h.cell, h.ice, h.lt⟩
theorem Lay.made1 (w : World) (o : Obj) (vs : List Value) (t : TypeId) : Lay ((w.alloc o).alloc (.cells vs.toArray t (0, 0))) (w.heap.size + 1) vs := by
  have h := Lay.made (w.alloc o) vs t
  simpa only [World.size_alloc] using h
theorem Lay.but {w w' : World} {B g : Nat} {vs : List Value} (h : Lay w B vs) (hb : But g w w') (hi : ∀ q : Addr, q.block < w.heap.size → w'.frozen? q = w.frozen? q) (hg : B ≠ g) : Lay w' B vs :=
  ⟨fun i v hv => keepb hb (h.cell i v hv) hg, fun i => by rw [hi _ h.lt]; exact h.ice i, Nat.lt_of_lt_of_le h.lt hb.size⟩
theorem Lay.set {w : World} {B : Nat} {vs : List Value} (h : Lay w B vs) (i : Nat) (v : Value) : Lay (w.setCell ⟨B, i, none⟩ v) B (vs.set i v) := by
  refine ⟨fun j u hu => ?_, fun j => by rw [World.frozen?_setCell]; exact h.ice j, by simpa [World.setCell] using h.lt⟩
  by_cases e : i = j
  · subst e
    have hi : i < vs.length := by have := (List.getElem?_eq_some_iff.1 hu).1; simpa using this
    rw [List.getElem?_set_self hi] at hu
    cases hu
    exact World.cell?_setCell_same _ _ _ (h.cell i vs[i] (by simp [hi]))
  · rw [List.getElem?_set_ne e] at hu
    rw [World.cell?_setCell_other _ _ _ _ (by simp [e])]
    exact h.cell j u hu
theorem Lay.far {w : World} {B : Nat} {vs : List Value} (h : Lay w B vs) (p : Addr) (v : Value) (hp : p.block ≠ B) : Lay (w.setCell p v) B vs :=
  ⟨fun i u hu => by rw [World.cell?_setCell_other _ _ _ _ (fun e => hp (by rw [e]))]; exact h.cell i u hu, fun i => by rw [World.frozen?_setCell]; exact h.ice i, by simpa [World.setCell] using h.lt⟩

theorem Ints.offs {w : World} {a : Option Addr} {n c : Nat} {l : List Int} (h : Ints w a n c l) {R : Nat} (hR : w.heap.size ≤ R) : n = 0 ∨ ∀ x, a = some x → x.block ≠ R := by
  rcases h.row with h0 | ⟨b, off, ha, hlt, _⟩
  · exact .inl h0
  · exact .inr fun x e => by rw [ha] at e; cases e; simp; omega
/-- w' is w, but that block g may hold other cells, and there may be more memory; what may be written may be as before. -/
structure ButI (g : Nat) (w w' : World) : Prop where
  but : But g w w'
  ice : ∀ q : Addr, q.block < w.heap.size → w'.frozen? q = w.frozen? q
theorem ButI.refl (g : Nat) (w : World) : ButI g w w := ⟨But.refl g w, fun _ _ => rfl⟩
theorem ButI.trans {g : Nat} {a b c : World} (h : ButI g a b) (k : ButI g b c) : ButI g a c := ⟨h.but.trans k.but, fun q hq => by rw [k.ice q (Nat.lt_of_lt_of_le hq h.but.size), h.ice q hq]⟩
theorem ButI.step {g : Nat} {w w' : World} (h : ButI g w w') (j : Nat) (v : Value) : ButI g w (w'.setCell ⟨g, j, none⟩ v) := ⟨h.but.step j v, fun q hq => by rw [World.frozen?_setCell]; exact h.ice q hq⟩
theorem ButI.of_below {g : Nat} {w w' : World} (h : Below w.heap.size w w') (hg : g ≤ w.heap.size) : ButI g w w' := ⟨But.of_below h hg, fun q hq => h.frozen hq⟩
/-- A block that was not there changed: nothing that was there did. -/
theorem ButI.below {g : Nat} {w w' : World} (h : ButI g w w') {B : Nat} (hB : B ≤ g) : Below B w w' := h.but.low.mono hB
theorem Lay.butI {w w' : World} {B g : Nat} {vs : List Value} (h : Lay w B vs) (hb : ButI g w w') (hg : B ≠ g) : Lay w' B vs := h.but hb.but hb.ice hg
/-- A block of the call's own changed last: seen from where the call began, only g did. -/
theorem ButI.own {g R : Nat} {w a b : World} (h : ButI g w a) (k : ButI R a b) (hR : w.heap.size ≤ R) (hg : g ≤ w.heap.size) : ButI g w b := by
  refine ⟨⟨h.but.low.trans (k.but.low.mono (by omega)), Nat.le_trans h.but.size k.but.size, fun q hq hne => ?_⟩, fun q hq => ?_⟩
  · rw [k.but.cell q (Nat.lt_of_lt_of_le hq h.but.size) (by omega), h.but.cell q hq hne]
  · rw [k.ice q (Nat.lt_of_lt_of_le hq h.but.size), h.ice q hq]


end Go.Proofs.Ytogpbihmofbfjaa
