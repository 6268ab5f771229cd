/- What the table of kinds holds in a world, and that it stays so; plain mathematics, no condition. -/
import Derived.Test.YtmjcoehllinoeacGreatDoorDeskSaysG3
import Derived.Test.YtmjcoehllinoeacGreatDoorRows
import Derived.Stop.LaidErr
import Derived.Shelf.Vars
import Derived.MapViews
import Derived.DeepKeys2
import Derived.Lib.LaidTab
import Derived.Test.YtmjcoehllinoeacGreatDoorDeskSaysG8
import Derived.Test.YtmjcoehllinoeacGreatDoorDeskSaysG9
namespace Go.Proofs.YtmjcoehllinoeacGreatDoor
open Go.RowKit
set_option linter.unusedVariables false
set_option maxRecDepth 100000
set_option linter.unusedSimpArgs false

/-- The kinds' words. -/
def word (k : Nat) : ByteArray := match k with
  | 1 => ⟨#[111, 112, 101, 110]⟩
  | 2 => ⟨#[99, 108, 111, 115, 101]⟩
  | 3 => ⟨#[102, 105, 110, 105, 115, 104]⟩
  | 4 => ⟨#[114, 101, 115, 101, 116]⟩
  | 5 => ⟨#[97, 112, 112, 101, 110, 100]⟩
  | 6 => ⟨#[119, 114, 105, 116, 101]⟩
  | 7 => ⟨#[114, 101, 97, 100]⟩
  | 8 => ⟨#[114, 101, 103, 105, 115, 116, 101, 114]⟩
  | 9 => ⟨#[114, 101, 115, 101, 114, 118, 101]⟩
  | 10 => ⟨#[114, 101, 108, 101, 97, 115, 101]⟩
  | 11 => ⟨#[112, 114, 101, 101, 109, 112, 116]⟩
  | 12 => ⟨#[99, 108, 101, 97, 114]⟩
  | _ => ⟨#[]⟩

/-- The table of kinds, cell by cell. -/
structure Shapes (w : World) : Prop where
  wd : ∀ k : Nat, k ≤ 12 → w.cell? ⟨0, k * 5, none⟩ = some (.string (word k))
  hz : ∀ k : Nat, k ≤ 12 → w.cell? ⟨0, k * 5 + 1, none⟩ = some (.bool (hasZ k))
  ha : ∀ k : Nat, k ≤ 12 → w.cell? ⟨0, k * 5 + 2, none⟩ = some (.bool (hasA k))
  hn : ∀ k : Nat, k ≤ 12 → w.cell? ⟨0, k * 5 + 3, none⟩ = some (.bool (hasN k))
  hd : ∀ k : Nat, k ≤ 12 → w.cell? ⟨0, k * 5 + 4, none⟩ = some (.bool (hasD k))

theorem Shapes.below {w w' : World} (h : Shapes w) (hb : Below w.heap.size w w') : Shapes w' :=
  ⟨fun k hk => keepc hb (h.wd k hk), fun k hk => keepc hb (h.hz k hk), fun k hk => keepc hb (h.ha k hk), fun k hk => keepc hb (h.hn k hk), fun k hk => keepc hb (h.hd k hk)⟩

end Go.Proofs.YtmjcoehllinoeacGreatDoor

/- What a row's list gives of the table of kinds; no condition. -/
namespace Go.Proofs.YtmjcoehllinoeacGreatDoor
open Go.RowKit
set_option linter.unusedVariables false
set_option maxRecDepth 100000
set_option linter.unusedSimpArgs false

theorem laid_at {P : Program} {w : World} : ∀ {laid : List (String × DataW Unit)} {ps : List MemPlace}, DataW.LaidVars P w laid ps → ∀ {n : String} {d : DataW Unit}, (n, d) ∈ laid →
    ∃ g t cs fuel p, P.globalNamed n = some g ∧ (P.globals[g]?).map (·.type) = some t ∧ w.var? P n = some cs ∧ DataW.trod (fun _ => ()) P w 0 (fun _ => true) false fuel t cs.toList = some (d, p)
  | [], _, _, _, _, h => by cases h
  | (n, d) :: r, ps, hl, n', d', h => by
    obtain ⟨g, t, cs, fuel, p, q, h1, h2, h3, h4, h5, _⟩ := hl
    rcases List.mem_cons.1 h with e | h
    · cases e
      exact ⟨g, t, cs, fuel, p, h1, h2, h3, h4⟩
    · exact laid_at h5 h

theorem gShapes : Tryz.prog.globalNamed "quayhand/cmd.shapes" = some 0 := by kernel_rfl
theorem tShapes : (Tryz.prog.globals[0]?).map (·.type) = some 99 := by kernel_rfl

set_option maxRecDepth 100000 in
theorem shapes_cells : (Rows.laid_quayhand_cmd_shapes : DataW Unit).flat.map Lit.toCell = ((List.range 13).flatMap fun k => [.string (word k), .bool (hasZ k), .bool (hasA k), .bool (hasN k), .bool (hasD k)]) := by rfl

theorem flat_get (f : Nat → List Value) (h5 : ∀ k, (f k).length = 5) : ∀ (n k j : Nat), k < n → j < 5 → ((List.range n).flatMap f)[k * 5 + j]? = (f k)[j]?
  | 0, k, j, hk, _ => by omega
  | n + 1, k, j, hk, hj => by
    have hlen : ∀ m, ((List.range m).flatMap f).length = m * 5 := by
      intro m
      induction m with
      | zero => rfl
      | succ m ih => rw [List.range_succ, List.flatMap_append, List.length_append, ih]; simp [h5]; omega
    rw [List.range_succ, List.flatMap_append]
    by_cases hkn : k < n
    · rw [List.getElem?_append_left (by rw [hlen]; omega)]
      exact flat_get f h5 n k j hkn hj
    · obtain rfl : k = n := by omega
      rw [List.getElem?_append_right (by rw [hlen]; omega), hlen]
      simp

set_option maxRecDepth 100000 in
theorem shapes_of {W : World} {laid : List (String × DataW Unit)} (hL : laidMet Tryz.prog laid W) (m4 : ("quayhand/cmd.shapes", Rows.laid_quayhand_cmd_shapes) ∈ laid) : Shapes W := by
  obtain ⟨ps, hv, _, _⟩ := hL
  obtain ⟨g, t, cs, fuel, p, h1, h2, h3, h4⟩ := laid_at hv m4
  obtain rfl := Option.some.inj (gShapes.symm.trans h1)
  obtain rfl := Option.some.inj (tShapes.symm.trans h2)
  have h5 := (keyLits_of_trod 5 99 (by kernel_rfl) _ _ _ h4).1
  have h6 := cells_of_lits 5 99 (by kernel_rfl) _ _ _ h5
  rw [shapes_cells] at h6
  have hc : ∀ k j, k ≤ 12 → j < 5 → W.cell? ⟨0, k * 5 + j, none⟩ = ([.string (word k), .bool (hasZ k), .bool (hasA k), .bool (hasN k), .bool (hasD k)] : List Value)[j]? := by
    intro k j hk hj
    rw [World.var?_cell gShapes h3, ← Array.getElem?_toList, h6]
    exact flat_get _ (fun k => rfl) 13 k j (by omega) hj
  exact ⟨fun k hk => hc k 0 hk (by omega), fun k hk => hc k 1 hk (by omega), fun k hk => hc k 2 hk (by omega), fun k hk => hc k 3 hk (by omega), fun k hk => hc k 4 hk (by omega)⟩

end Go.Proofs.YtmjcoehllinoeacGreatDoor

/- Zones of the call's own of which a cell changes, and what stays as it was; plain mathematics, no condition. -/
namespace Go.Proofs.YtmjcoehllinoeacGreatDoor
open Go.RowKit
set_option linter.unusedVariables false
set_option maxRecDepth 100000
set_option linter.unusedSimpArgs false

/-- w' is w, but that block g may hold other cells, and there may be more memory. -/
structure But (g : Nat) (w w' : World) : Prop where
  low : Below g w w'
  size : w.heap.size ≤ w'.heap.size
  cell : ∀ q : Addr, q.block < w.heap.size → q.block ≠ g → w'.cell? q = w.cell? q

theorem But.refl (g : Nat) (w : World) : But g w w := ⟨Below.refl _ _, Nat.le_refl _, fun _ _ _ => rfl⟩
theorem But.trans {g : Nat} {a b c : World} (h : But g a b) (k : But g b c) : But g a c :=
  ⟨h.low.trans k.low, Nat.le_trans h.size k.size, fun q hq hg => by rw [k.cell q (Nat.lt_of_lt_of_le hq h.size) hg, h.cell q hq hg]⟩
theorem But.of_below {g : Nat} {w w' : World} (h : Below w.heap.size w w') (hg : g ≤ w.heap.size) : But g w w' :=
  ⟨h.mono hg, h.size, fun q hq _ => h.cell hq⟩
theorem But.of_put {g j : Nat} {w w' : World} {v : Value} (h : Put w w' ⟨g, j, none⟩ v) : But g w w' :=
  ⟨h.below, Nat.le_of_eq h.size.symm, fun q _ hg => h.other q (fun e => hg (by rw [e]))⟩
theorem But.of_set {g j : Nat} {w : World} {u : Value} (h : w.cell? ⟨g, j, none⟩ = some u) (v : Value) : But g w (w.setCell ⟨g, j, none⟩ v) := But.of_put ((Put.refl h).set v)

theorem Ints.but {w w' : World} {g : Nat} {a : Option Addr} {n c : Nat} {l : List Int} (h : Ints w a n c l) (hb : But g w w') (hne : n = 0 ∨ ∀ x, a = some x → x.block ≠ g) : Ints w' a n c l := by
  refine ⟨h.len, h.le, h.max, h.nil, ?_, h.wf⟩
  rcases hne with h0 | hne
  · exact .inl h0
  · rcases h.row with h0 | ⟨b, off, ha, hlt, hc⟩
    · exact .inl h0
    · refine .inr ⟨b, off, ha, Nat.lt_of_lt_of_le hlt hb.size, fun i hi => ?_⟩
      rw [hb.cell ⟨b, off + i, none⟩ hlt (by have := hne _ ha; exact this)]; exact hc i hi

theorem keepb {g : Nat} {w w' : World} (hb : But g w w') {p : Addr} {u : Value} (h : w.cell? p = some u) (hg : p.block ≠ g) : w'.cell? p = some u := by
  rw [hb.cell p (World.block_lt_of_cell? w p h) hg]; exact h

/-- A zone of another state. -/
def ZV.to (s : Int) (z : ZV) : ZV := ⟨s, z.a, z.n, z.c, z.l⟩

/-- The zones' blocks all lie from B on. -/
def NewL (B : Nat) (Z : List ZV) : Prop := ∀ z ∈ Z, ∀ x, z.a = some x → B ≤ x.block
theorem NewL.set {B : Nat} {Z : List ZV} (h : NewL B Z) (i : Nat) {u : ZV} (hu : ∀ x, u.a = some x → B ≤ x.block) : NewL B (Z.set i u) := fun z hz => by
  rcases List.mem_or_eq_of_mem_set hz with hz | rfl
  · exact h z hz
  · exact hu
theorem NewL.at {B : Nat} {Z : List ZV} (h : NewL B Z) {i : Nat} {z : ZV} (hz : Z[i]? = some z) : ∀ x, z.a = some x → B ≤ x.block := h z (List.mem_of_getElem? hz)
theorem NewL.to {B : Nat} {Z : List ZV} (h : NewL B Z) {i : Nat} {z : ZV} (hz : Z[i]? = some z) (s : Int) : NewL B (Z.set i (z.to s)) := h.set i (u := z.to s) (fun x e => h.at hz x e)
theorem NewL.mono {B B' : Nat} {Z : List ZV} (h : NewL B Z) (hb : B' ≤ B) : NewL B' Z := fun z hz x e => Nat.le_trans hb (h z hz x e)
theorem NewL.nil (B : Nat) : NewL B [] := fun z hz => by cases hz

theorem Mine.put {w w' : World} {base g n c : Nat} {Z : List ZV} (h : Mine w base g n c Z) {i : Nat} {z : ZV} (hz : Z[i]? = some z) {s : Int} (hp : Put w w' ⟨g, i * 2, none⟩ (.int .i64 s)) :
    Mine w' base g n c (Z.set i (z.to s)) := by
  have hlen := h.zs.len
  have hi : i < Z.length := (List.getElem?_eq_some_iff.1 hz).1
  obtain ⟨y0, y1⟩ := h.cells i z hz
  have hc : ∀ j u, (Z.set i (z.to s))[j]? = some u → w'.cell? ⟨g, j * 2, none⟩ = some (.int .i64 u.s) ∧ w'.cell? ⟨g, j * 2 + 1, none⟩ = some (.slice u.a u.n u.c) := by
    intro j u hu
    by_cases hij : i = j
    · subst hij
      rw [List.getElem?_set_self hi] at hu
      cases hu
      exact ⟨hp.here, by rw [hp.other _ (by simp)]; exact y1⟩
    · rw [List.getElem?_set_ne hij] at hu
      obtain ⟨u0, u1⟩ := h.cells j u hu
      refine ⟨?_, ?_⟩
      · rw [hp.other _ (by (first | (simp; done) | (simp; omega)))]; exact u0
      · rw [hp.other _ (by (first | (simp; done) | (simp; omega)))]; exact u1
  have hoff : ∀ u ∈ Z.set i (z.to s), u.off g := fun u hu => by
    rcases List.mem_or_eq_of_mem_set hu with hu | rfl
    · exact h.off u hu
    · exact h.off z (List.mem_of_getElem? hz)
  have hok : ∀ u ∈ Z.set i (z.to s), u.ok w' := fun u hu => by
    have hw : u.ok w := by
      rcases List.mem_or_eq_of_mem_set hu with hu | rfl
      · exact h.zs.ok u hu
      · exact h.zs.ok z (List.mem_of_getElem? hz)
    exact Ints.but hw (But.of_put hp) (hoff u hu)
  refine ⟨⟨by simp [hlen], h.zs.le, h.zs.max, fun e => (by cases e), .inr ⟨g, 0, rfl, by rw [hp.size]; exact h.lt, fun j u hu => by simpa using hc j u hu⟩, hok⟩, h.base, by rw [hp.size]; exact h.lt, hc, fun j hj => ?_, hoff⟩
  rw [hp.ice]
  exact h.soft j hj

/-- One zone is set, in whatever way; what else lies in the block stays. -/
theorem Mine.upd {w w' : World} {base g n c : Nat} {Z : List ZV} (h : Mine w base g n c Z) (i : Nat) (hi : i < n) (z : ZV) (hz : z.ok w') (ho : z.off g) (hb : But g w w')
    (c0 : w'.cell? ⟨g, i * 2, none⟩ = some (.int .i64 z.s)) (c1 : w'.cell? ⟨g, i * 2 + 1, none⟩ = some (.slice z.a z.n z.c))
    (hc : ∀ j, j ≠ i * 2 → j ≠ i * 2 + 1 → w'.cell? ⟨g, j, none⟩ = w.cell? ⟨g, j, none⟩) (hf : ∀ j, w'.frozen? ⟨g, j, none⟩ = w.frozen? ⟨g, j, none⟩) : Mine w' base g n c (Z.set i z) := by
  have hlen := h.zs.len
  have hcell : ∀ j u, (Z.set i z)[j]? = some u → w'.cell? ⟨g, j * 2, none⟩ = some (.int .i64 u.s) ∧ w'.cell? ⟨g, j * 2 + 1, none⟩ = some (.slice u.a u.n u.c) := by
    intro j u hu
    by_cases hij : i = j
    · subst hij
      rw [List.getElem?_set_self (by omega)] at hu
      cases hu
      exact ⟨c0, c1⟩
    · rw [List.getElem?_set_ne hij] at hu
      obtain ⟨u0, u1⟩ := h.cells j u hu
      rw [hc _ (by omega) (by omega), hc _ (by omega) (by omega)]
      exact ⟨u0, u1⟩
  have hoff : ∀ u ∈ Z.set i z, u.off g := fun u hu => by
    rcases List.mem_or_eq_of_mem_set hu with hu | rfl
    · exact h.off u hu
    · exact ho
  have hok : ∀ u ∈ Z.set i z, u.ok w' := fun u hu => by
    rcases List.mem_or_eq_of_mem_set hu with hu | rfl
    · exact Ints.but (h.zs.ok u hu) hb (h.off u hu)
    · exact hz
  have hlt : g < w'.heap.size := Nat.lt_of_lt_of_le h.lt hb.size
  refine ⟨⟨by simp [hlen], h.zs.le, h.zs.max, fun e => (by cases e), .inr ⟨g, 0, rfl, hlt, fun j u hu => by simpa using hcell j u hu⟩, hok⟩, h.base, hlt, hcell, fun j hj => ?_, hoff⟩
  rw [hf]
  exact h.soft j hj

theorem Mine.but {w : World} {base g n c : Nat} {Z : List ZV} (h : Mine w base g n c Z) {w' : World} (hb : Below w.heap.size w w') : But g w w' := But.of_below hb (Nat.le_of_lt h.lt)

theorem set_to_p (Z : List ZV) (i : Nat) (z : ZV) (s : Int) : (Z.set i (z.to s)).map ZV.p = (Z.map ZV.p).set i (s, z.l) := by rw [set_p]; rfl

/-- What shutting makes of a zone's state. -/
def shutS (l : List Int) : Int := if l = [] then 0 else 3
theorem shutS_p (z : ZV) : (shutS z.l, z.l) = shutP z.p := by
  unfold shutS shutP ZV.p
  split
  · rename_i h; simp [h]
  · rfl

end Go.Proofs.YtmjcoehllinoeacGreatDoor

/- What stays as it was where cells of one block change; a struct's box, cell by cell; plain mathematics, no condition. -/
namespace Go.Proofs.YtmjcoehllinoeacGreatDoor
open Go.RowKit
set_option linter.unusedVariables false
set_option maxRecDepth 100000
set_option linter.unusedSimpArgs false

theorem But.step {g : Nat} {w w' : World} (h : But g w w') (j : Nat) (v : Value) : But g w (w'.setCell ⟨g, j, none⟩ v) :=
  ⟨h.low.setCell (Nat.le_refl _) v, by simpa [World.setCell] using h.size, fun q hq hg => by rw [World.cell?_setCell_other _ _ _ _ (fun e => hg (by rw [← e]))]; exact h.cell q hq hg⟩

/-- The cells of a block that may be written. -/
structure Lay (w : World) (B : Nat) (vs : List Value) : Prop where
  cell : ∀ i v, vs[i]? = some v → w.cell? ⟨B, i, none⟩ = some v
  ice : ∀ i, w.frozen? ⟨B, i, none⟩ = false
  lt : B < w.heap.size
theorem Lay.below {w w' : World} {B : Nat} {vs : List Value} (h : Lay w B vs) (hb : Below w.heap.size w w') : Lay w' B vs :=
  ⟨fun i v hv => keepc hb (h.cell i v hv), fun i => by rw [hb.frozen (by exact h.lt)]; exact h.ice i, Nat.lt_of_lt_of_le h.lt hb.size⟩
theorem Lay.made (w : World) (vs : List Value) (t : TypeId) : Lay (w.alloc (.cells vs.toArray t (0, 0))) w.heap.size vs :=
  ⟨fun i v hv => by rw [cell_of_row _ _ _ _ _ _ (heap_new w _)]; simpa using hv, fun i => frozen_row (heap_new w _), by simp⟩
theorem Lay.drew {w : World} {B : Nat} {vs : List Value} (h : Lay w B vs) : Lay w.drew B vs := ⟨h.cell, h.ice, h.lt⟩
theorem Lay.made1 (w : World) (o : Obj) (vs : List Value) (t : TypeId) : Lay ((w.alloc o).alloc (.cells vs.toArray t (0, 0))) (w.heap.size + 1) vs := by
  have h := Lay.made (w.alloc o) vs t
  simpa only [World.size_alloc] using h
theorem Lay.but {w w' : World} {B g : Nat} {vs : List Value} (h : Lay w B vs) (hb : But g w w') (hi : ∀ q : Addr, q.block < w.heap.size → w'.frozen? q = w.frozen? q) (hg : B ≠ g) : Lay w' B vs :=
  ⟨fun i v hv => keepb hb (h.cell i v hv) hg, fun i => by rw [hi _ h.lt]; exact h.ice i, Nat.lt_of_lt_of_le h.lt hb.size⟩
theorem Lay.set {w : World} {B : Nat} {vs : List Value} (h : Lay w B vs) (i : Nat) (v : Value) : Lay (w.setCell ⟨B, i, none⟩ v) B (vs.set i v) := by
  refine ⟨fun j u hu => ?_, fun j => by rw [World.frozen?_setCell]; exact h.ice j, by simpa [World.setCell] using h.lt⟩
  by_cases e : i = j
  · subst e
    have hi : i < vs.length := by have := (List.getElem?_eq_some_iff.1 hu).1; simpa using this
    rw [List.getElem?_set_self hi] at hu
    cases hu
    exact World.cell?_setCell_same _ _ _ (h.cell i vs[i] (by simp [hi]))
  · rw [List.getElem?_set_ne e] at hu
    rw [World.cell?_setCell_other _ _ _ _ (by simp [e])]
    exact h.cell j u hu
theorem Lay.far {w : World} {B : Nat} {vs : List Value} (h : Lay w B vs) (p : Addr) (v : Value) (hp : p.block ≠ B) : Lay (w.setCell p v) B vs :=
  ⟨fun i u hu => by rw [World.cell?_setCell_other _ _ _ _ (fun e => hp (by rw [e]))]; exact h.cell i u hu, fun i => by rw [World.frozen?_setCell]; exact h.ice i, by simpa [World.setCell] using h.lt⟩

theorem Zones.but {w w' : World} {g : Nat} {a : Option Addr} {n c : Nat} {Z : List ZV} (h : Zones w a n c Z) (hb : But g w w') (hne : n = 0 ∨ ∀ x, a = some x → x.block ≠ g) (hl : ∀ z ∈ Z, z.off g) : Zones w' a n c Z := by
  refine ⟨h.len, h.le, h.max, h.nil, ?_, fun z hz => Ints.but (h.ok z hz) hb (hl z hz)⟩
  rcases hne with h0 | hne
  · exact .inl h0
  · rcases h.row with h0 | ⟨b, off, ha, hlt, hc⟩
    · exact .inl h0
    · have hg : b ≠ g := hne _ ha
      refine .inr ⟨b, off, ha, Nat.lt_of_lt_of_le hlt hb.size, fun i z hz => ?_⟩
      obtain ⟨h1, h2⟩ := hc i z hz
      exact ⟨keepb hb h1 hg, keepb hb h2 hg⟩

/-- None of the desk's lists lies in block R. -/
structure DV.off (R : Nat) (d : DV) : Prop where
  z : d.zn = 0 ∨ ∀ x, d.za = some x → x.block ≠ R
  l : ∀ z ∈ d.Z, z.off R
  k : d.kn = 0 ∨ ∀ x, d.ka = some x → x.block ≠ R
/-- All of the desk's lists lie from B on. -/
def DV.new (B : Nat) (d : DV) : Prop := ∀ R, R < B → d.off R
theorem DV.ok.but {w w' : World} {g : Nat} {d : DV} (h : d.ok w) (hb : But g w w') (ho : d.off g) : d.ok w' := ⟨h.z.but hb ho.z ho.l, h.k.but hb ho.k⟩
theorem Ints.offs {w : World} {a : Option Addr} {n c : Nat} {l : List Int} (h : Ints w a n c l) {R : Nat} (hR : w.heap.size ≤ R) : n = 0 ∨ ∀ x, a = some x → x.block ≠ R := by
  rcases h.row with h0 | ⟨b, off, ha, hlt, _⟩
  · exact .inl h0
  · exact .inr fun x e => by rw [ha] at e; cases e; simp; omega
theorem DV.ok.off {w : World} {d : DV} (h : d.ok w) {R : Nat} (hR : w.heap.size ≤ R) : d.off R := by
  refine ⟨?_, fun z hz => Ints.offs (h.z.ok z hz) hR, h.k.offs hR⟩
  rcases h.z.row with h0 | ⟨b, off, ha, hlt, _⟩
  · exact .inl h0
  · exact .inr fun x e => by rw [ha] at e; cases e; simp; omega
theorem DV.new.mono {B B' : Nat} {d : DV} (h : d.new B) (hb : B' ≤ B) : d.new B' := fun R hR => h R (by omega)
theorem DV.zero_new (B : Nat) : DV.zero.new B := fun R _ => ⟨.inl rfl, fun z hz => (by cases hz), .inl rfl⟩
theorem DV.zero_off (R : Nat) : DV.zero.off R := ⟨.inl rfl, fun z hz => (by cases hz), .inl rfl⟩

def AV.off (R : Nat) (x : AV) : Prop := x.n = 0 ∨ ∀ y, x.a = some y → y.block ≠ R
def AV.new (B : Nat) (x : AV) : Prop := ∀ R, R < B → x.off R
theorem AV.ok.but {w w' : World} {g : Nat} {x : AV} (h : x.ok w) (hb : But g w w') (ho : x.off g) : x.ok w' := Ints.but h hb ho
theorem AV.ok.off {w : World} {x : AV} (h : x.ok w) {R : Nat} (hR : w.heap.size ≤ R) : x.off R := Ints.offs h hR
theorem AV.new.mono {B B' : Nat} {x : AV} (h : x.new B) (hb : B' ≤ B) : x.new B' := fun R hR => h R (by omega)
theorem AV.err_new (B : Nat) (e : Int) : (AV.err e).new B := fun R _ => .inl rfl

/-- w' is w, but that block g may hold other cells, and there may be more memory; what may be written may be as before. -/
structure ButI (g : Nat) (w w' : World) : Prop where
  but : But g w w'
  ice : ∀ q : Addr, q.block < w.heap.size → w'.frozen? q = w.frozen? q
theorem ButI.refl (g : Nat) (w : World) : ButI g w w := ⟨But.refl g w, fun _ _ => rfl⟩
theorem ButI.trans {g : Nat} {a b c : World} (h : ButI g a b) (k : ButI g b c) : ButI g a c := ⟨h.but.trans k.but, fun q hq => by rw [k.ice q (Nat.lt_of_lt_of_le hq h.but.size), h.ice q hq]⟩
theorem ButI.step {g : Nat} {w w' : World} (h : ButI g w w') (j : Nat) (v : Value) : ButI g w (w'.setCell ⟨g, j, none⟩ v) := ⟨h.but.step j v, fun q hq => by rw [World.frozen?_setCell]; exact h.ice q hq⟩
theorem ButI.of_below {g : Nat} {w w' : World} (h : Below w.heap.size w w') (hg : g ≤ w.heap.size) : ButI g w w' := ⟨But.of_below h hg, fun q hq => h.frozen hq⟩
/-- A block that was not there changed: nothing that was there did. -/
theorem ButI.below {g : Nat} {w w' : World} (h : ButI g w w') {B : Nat} (hB : B ≤ g) : Below B w w' := h.but.low.mono hB
theorem Lay.butI {w w' : World} {B g : Nat} {vs : List Value} (h : Lay w B vs) (hb : ButI g w w') (hg : B ≠ g) : Lay w' B vs := h.but hb.but hb.ice hg
/-- A block of the call's own changed last: seen from where the call began, only g did. -/
theorem ButI.own {g R : Nat} {w a b : World} (h : ButI g w a) (k : ButI R a b) (hR : w.heap.size ≤ R) (hg : g ≤ w.heap.size) : ButI g w b := by
  refine ⟨⟨h.but.low.trans (k.but.low.mono (by omega)), Nat.le_trans h.but.size k.but.size, fun q hq hne => ?_⟩, fun q hq => ?_⟩
  · rw [k.but.cell q (Nat.lt_of_lt_of_le hq h.but.size) (by omega), h.but.cell q hq hne]
  · rw [k.ice q (Nat.lt_of_lt_of_le hq h.but.size), h.ice q hq]

def DV.cells (d : DV) : List Value := [.slice d.za d.zn d.zc, .slice d.ka d.kn d.kc, .int .i64 d.b.h, .int .i64 d.b.t]

end Go.Proofs.YtmjcoehllinoeacGreatDoor
