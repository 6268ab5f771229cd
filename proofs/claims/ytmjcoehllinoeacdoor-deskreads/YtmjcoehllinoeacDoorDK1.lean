/- What stays as it was where cells of one block change; a struct's box, cell by cell; plain mathematics, no condition. -/
import Derived.Test.YtmjcoehllinoeacDoorDK0
import Derived.Test.YtmjcoehllinoeacDoorY1a
namespace Go.Proofs.YtmjcoehllinoeacDoor
open Go.RowKit
set_option linter.unusedVariables false
set_option maxRecDepth 100000
set_option linter.unusedSimpArgs false

theorem But.step {g : Nat} {w w' : World} (h : But g w w') (j : Nat) (v : Value) : But g w (w'.setCell ⟨g, j, none⟩ v) :=
  ⟨h.low.setCell (Nat.le_refl _) v, by simpa [World.setCell] using h.size, fun q hq hg => by rw [World.cell?_setCell_other _ _ _ _ (fun e => hg (by rw [← e]))]; exact h.cell q hq hg⟩

/-- The cells of a block that may be written. -/
structure Lay (w : World) (B : Nat) (vs : List Value) : Prop where
  cell : ∀ i v, vs[i]? = some v → w.cell? ⟨B, i, none⟩ = some v
  ice : ∀ i, w.frozen? ⟨B, i, none⟩ = false
  lt : B < w.heap.size
theorem Lay.below {w w' : World} {B : Nat} {vs : List Value} (h : Lay w B vs) (hb : Below w.heap.size w w') : Lay w' B vs :=
  ⟨fun i v hv => keepc hb (h.cell i v hv), fun i => by rw [hb.frozen (by exact h.lt)]; exact h.ice i, Nat.lt_of_lt_of_le h.lt hb.size⟩
theorem Lay.made (w : World) (vs : List Value) (t : TypeId) : Lay (w.alloc (.cells vs.toArray t (0, 0))) w.heap.size vs :=
  ⟨fun i v hv => by rw [cell_of_row _ _ _ _ _ _ (heap_new w _)]; simpa using hv, fun i => frozen_row (heap_new w _), by simp⟩
theorem Lay.drew {w : World} {B : Nat} {vs : List Value} (h : Lay w B vs) : Lay w.drew B vs := ⟨h.cell, h.ice, h.lt⟩
theorem Lay.made1 (w : World) (o : Obj) (vs : List Value) (t : TypeId) : Lay ((w.alloc o).alloc (.cells vs.toArray t (0, 0))) (w.heap.size + 1) vs := by
  have h := Lay.made (w.alloc o) vs t
  simpa only [World.size_alloc] using h
theorem Lay.but {w w' : World} {B g : Nat} {vs : List Value} (h : Lay w B vs) (hb : But g w w') (hi : ∀ q : Addr, q.block < w.heap.size → w'.frozen? q = w.frozen? q) (hg : B ≠ g) : Lay w' B vs :=
  ⟨fun i v hv => keepb hb (h.cell i v hv) hg, fun i => by rw [hi _ h.lt]; exact h.ice i, Nat.lt_of_lt_of_le h.lt hb.size⟩
theorem Lay.set {w : World} {B : Nat} {vs : List Value} (h : Lay w B vs) (i : Nat) (v : Value) : Lay (w.setCell ⟨B, i, none⟩ v) B (vs.set i v) := by
  refine ⟨fun j u hu => ?_, fun j => by rw [World.frozen?_setCell]; exact h.ice j, by simpa [World.setCell] using h.lt⟩
  by_cases e : i = j
  · subst e
    have hi : i < vs.length := by have := (List.getElem?_eq_some_iff.1 hu).1; simpa using this
    rw [List.getElem?_set_self hi] at hu
    cases hu
    exact World.cell?_setCell_same _ _ _ (h.cell i vs[i] (by simp [hi]))
  · rw [List.getElem?_set_ne e] at hu
    rw [World.cell?_setCell_other _ _ _ _ (by simp [e])]
    exact h.cell j u hu
theorem Lay.far {w : World} {B : Nat} {vs : List Value} (h : Lay w B vs) (p : Addr) (v : Value) (hp : p.block ≠ B) : Lay (w.setCell p v) B vs :=
  ⟨fun i u hu => by rw [World.cell?_setCell_other _ _ _ _ (fun e => hp (by rw [e]))]; exact h.cell i u hu, fun i => by rw [World.frozen?_setCell]; exact h.ice i, by simpa [World.setCell] using h.lt⟩

theorem Zones.but {w w' : World} {g : Nat} {a : Option Addr} {n c : Nat} {Z : List ZV} (h : Zones w a n c Z) (hb : But g w w') (hne : n = 0 ∨ ∀ x, a = some x → x.block ≠ g) (hl : ∀ z ∈ Z, z.off g) : Zones w' a n c Z := by
  refine ⟨h.len, h.le, h.max, h.nil, ?_, fun z hz => Ints.but (h.ok z hz) hb (hl z hz)⟩
  rcases hne with h0 | hne
  · exact .inl h0
  · rcases h.row with h0 | ⟨b, off, ha, hlt, hc⟩
    · exact .inl h0
    · have hg : b ≠ g := hne _ ha
      refine .inr ⟨b, off, ha, Nat.lt_of_lt_of_le hlt hb.size, fun i z hz => ?_⟩
      obtain ⟨h1, h2⟩ := hc i z hz
      exact ⟨keepb hb h1 hg, keepb hb h2 hg⟩

/-- None of the desk's lists lies in block R. -/
structure DV.off (R : Nat) (d : DV) : Prop where
  z : d.zn = 0 ∨ ∀ x, d.za = some x → x.block ≠ R
  l : ∀ z ∈ d.Z, z.off R
  k : d.kn = 0 ∨ ∀ x, d.ka = some x → x.block ≠ R
/-- All of the desk's lists lie from B on. -/
def DV.new (B : Nat) (d : DV) : Prop := ∀ R, R < B → d.off R
theorem DV.ok.but {w w' : World} {g : Nat} {d : DV} (h : d.ok w) (hb : But g w w') (ho : d.off g) : d.ok w' := ⟨h.z.but hb ho.z ho.l, h.k.but hb ho.k⟩
theorem Ints.offs {w : World} {a : Option Addr} {n c : Nat} {l : List Int} (h : Ints w a n c l) {R : Nat} (hR : w.heap.size ≤ R) : n = 0 ∨ ∀ x, a = some x → x.block ≠ R := by
  rcases h.row with h0 | ⟨b, off, ha, hlt, _⟩
  · exact .inl h0
  · exact .inr fun x e => by rw [ha] at e; cases e; simp; omega
theorem DV.ok.off {w : World} {d : DV} (h : d.ok w) {R : Nat} (hR : w.heap.size ≤ R) : d.off R := by
  refine ⟨?_, fun z hz => Ints.offs (h.z.ok z hz) hR, h.k.offs hR⟩
  rcases h.z.row with h0 | ⟨b, off, ha, hlt, _⟩
  · exact .inl h0
  · exact .inr fun x e => by rw [ha] at e; cases e; simp; omega
theorem DV.new.mono {B B' : Nat} {d : DV} (h : d.new B) (hb : B' ≤ B) : d.new B' := fun R hR => h R (by omega)
theorem DV.zero_new (B : Nat) : DV.zero.new B := fun R _ => ⟨.inl rfl, fun z hz => (by cases hz), .inl rfl⟩
theorem DV.zero_off (R : Nat) : DV.zero.off R := ⟨.inl rfl, fun z hz => (by cases hz), .inl rfl⟩

def AV.off (R : Nat) (x : AV) : Prop := x.n = 0 ∨ ∀ y, x.a = some y → y.block ≠ R
def AV.new (B : Nat) (x : AV) : Prop := ∀ R, R < B → x.off R
theorem AV.ok.but {w w' : World} {g : Nat} {x : AV} (h : x.ok w) (hb : But g w w') (ho : x.off g) : x.ok w' := Ints.but h hb ho
theorem AV.ok.off {w : World} {x : AV} (h : x.ok w) {R : Nat} (hR : w.heap.size ≤ R) : x.off R := Ints.offs h hR
theorem AV.new.mono {B B' : Nat} {x : AV} (h : x.new B) (hb : B' ≤ B) : x.new B' := fun R hR => h R (by omega)
theorem AV.err_new (B : Nat) (e : Int) : (AV.err e).new B := fun R _ => .inl rfl

/-- w' is w, but that block g may hold other cells, and there may be more memory; what may be written may be as before. -/
structure ButI (g : Nat) (w w' : World) : Prop where
  but : But g w w'
  ice : ∀ q : Addr, q.block < w.heap.size → w'.frozen? q = w.frozen? q
theorem ButI.refl (g : Nat) (w : World) : ButI g w w := ⟨But.refl g w, fun _ _ => rfl⟩
theorem ButI.trans {g : Nat} {a b c : World} (h : ButI g a b) (k : ButI g b c) : ButI g a c := ⟨h.but.trans k.but, fun q hq => by rw [k.ice q (Nat.lt_of_lt_of_le hq h.but.size), h.ice q hq]⟩
theorem ButI.step {g : Nat} {w w' : World} (h : ButI g w w') (j : Nat) (v : Value) : ButI g w (w'.setCell ⟨g, j, none⟩ v) := ⟨h.but.step j v, fun q hq => by rw [World.frozen?_setCell]; exact h.ice q hq⟩
theorem ButI.of_below {g : Nat} {w w' : World} (h : Below w.heap.size w w') (hg : g ≤ w.heap.size) : ButI g w w' := ⟨But.of_below h hg, fun q hq => h.frozen hq⟩
/-- A block that was not there changed: nothing that was there did. -/
theorem ButI.below {g : Nat} {w w' : World} (h : ButI g w w') {B : Nat} (hB : B ≤ g) : Below B w w' := h.but.low.mono hB
theorem Lay.butI {w w' : World} {B g : Nat} {vs : List Value} (h : Lay w B vs) (hb : ButI g w w') (hg : B ≠ g) : Lay w' B vs := h.but hb.but hb.ice hg
/-- A block of the call's own changed last: seen from where the call began, only g did. -/
theorem ButI.own {g R : Nat} {w a b : World} (h : ButI g w a) (k : ButI R a b) (hR : w.heap.size ≤ R) (hg : g ≤ w.heap.size) : ButI g w b := by
  refine ⟨⟨h.but.low.trans (k.but.low.mono (by omega)), Nat.le_trans h.but.size k.but.size, fun q hq hne => ?_⟩, fun q hq => ?_⟩
  · rw [k.but.cell q (Nat.lt_of_lt_of_le hq h.but.size) (by omega), h.but.cell q hq hne]
  · rw [k.ice q (Nat.lt_of_lt_of_le hq h.but.size), h.ice q hq]

def DV.cells (d : DV) : List Value := [.slice d.za d.zn d.zc, .slice d.ka d.kn d.kc, .int .i64 d.b.h, .int .i64 d.b.t]

end Go.Proofs.YtmjcoehllinoeacDoor
