/- Zones of the call's own of which a cell changes, and what stays as it was; plain mathematics, no condition. -/
import Derived.Test.YtklabieacbbbfaaDoorNU2
import Derived.Test.YtklabieacbbbfaaDoorNU3
import Derived.Test.YtklabieacbbbfaaDoorNU1
import Derived.Deep.AppendLies
namespace Go.Proofs.YtklabieacbbbfaaDoor
open Go.RowKit
set_option linter.unusedVariables false
set_option maxRecDepth 100000
set_option linter.unusedSimpArgs false

/-- A zone of another state. -/
def ZV.to (s : Int) (z : ZV) : ZV := ⟨s, z.a, z.n, z.c, z.l⟩

/-- The zones' blocks all lie from B on. -/
def NewL (B : Nat) (Z : List ZV) : Prop := ∀ z ∈ Z, ∀ x, z.a = some x → B ≤ x.block
theorem NewL.set {B : Nat} {Z : List ZV} (h : NewL B Z) (i : Nat) {u : ZV} (hu : ∀ x, u.a = some x → B ≤ x.block) : NewL B (Z.set i u) := fun z hz => by
  rcases List.mem_or_eq_of_mem_set hz with hz | rfl
  · exact h z hz
  · exact hu
theorem NewL.at {B : Nat} {Z : List ZV} (h : NewL B Z) {i : Nat} {z : ZV} (hz : Z[i]? = some z) : ∀ x, z.a = some x → B ≤ x.block := h z (List.mem_of_getElem? hz)
theorem NewL.to {B : Nat} {Z : List ZV} (h : NewL B Z) {i : Nat} {z : ZV} (hz : Z[i]? = some z) (s : Int) : NewL B (Z.set i (z.to s)) := h.set i (u := z.to s) (fun x e => h.at hz x e)
theorem NewL.mono {B B' : Nat} {Z : List ZV} (h : NewL B Z) (hb : B' ≤ B) : NewL B' Z := fun z hz x e => Nat.le_trans hb (h z hz x e)
theorem NewL.nil (B : Nat) : NewL B [] := fun z hz => by cases hz

theorem Mine.put {w w' : World} {base g n c : Nat} {Z : List ZV} (h : Mine w base g n c Z) {i : Nat} {z : ZV} (hz : Z[i]? = some z) {s : Int} (hp : Put w w' ⟨g, i * 2, none⟩ (.int .i64 s)) :
    Mine w' base g n c (Z.set i (z.to s)) := by
  have hlen := h.zs.len
  have hi : i < Z.length := (List.getElem?_eq_some_iff.1 hz).1
  obtain ⟨y0, y1⟩ := h.cells i z hz
  have hc : ∀ j u, (Z.set i (z.to s))[j]? = some u → w'.cell? ⟨g, j * 2, none⟩ = some (.int .i64 u.s) ∧ w'.cell? ⟨g, j * 2 + 1, none⟩ = some (.slice u.a u.n u.c) := by
    intro j u hu
    by_cases hij : i = j
    · subst hij
      rw [List.getElem?_set_self hi] at hu
      cases hu
      exact ⟨hp.here, by rw [hp.other _ (by simp)]; exact y1⟩
    · rw [List.getElem?_set_ne hij] at hu
      obtain ⟨u0, u1⟩ := h.cells j u hu
      refine ⟨?_, ?_⟩
      · rw [hp.other _ (by (first | (simp; done) | (simp; omega)))]; exact u0
      · rw [hp.other _ (by (first | (simp; done) | (simp; omega)))]; exact u1
  have hoff : ∀ u ∈ Z.set i (z.to s), u.off g := fun u hu => by
    rcases List.mem_or_eq_of_mem_set hu with hu | rfl
    · exact h.off u hu
    · exact h.off z (List.mem_of_getElem? hz)
  have hok : ∀ u ∈ Z.set i (z.to s), u.ok w' := fun u hu => by
    have hw : u.ok w := by
      rcases List.mem_or_eq_of_mem_set hu with hu | rfl
      · exact h.zs.ok u hu
      · exact h.zs.ok z (List.mem_of_getElem? hz)
    exact Ints.but hw (But.of_put hp) (hoff u hu)
  refine ⟨⟨by simp [hlen], h.zs.le, h.zs.max, fun e => (by cases e), .inr ⟨g, 0, rfl, by rw [hp.size]; exact h.lt, fun j u hu => by simpa using hc j u hu⟩, hok⟩, h.base, by rw [hp.size]; exact h.lt, hc, fun j hj => ?_, hoff⟩
  rw [hp.ice]
  exact h.soft j hj

theorem Mine.but {w : World} {base g n c : Nat} {Z : List ZV} (h : Mine w base g n c Z) {w' : World} (hb : Below w.heap.size w w') : But g w w' := But.of_below hb (Nat.le_of_lt h.lt)

end Go.Proofs.YtklabieacbbbfaaDoor

/- What stays as it was where cells of one block change; a struct's box, cell by cell; plain mathematics, no condition. -/
namespace Go.Proofs.YtklabieacbbbfaaDoor
open Go.RowKit
set_option linter.unusedVariables false
set_option maxRecDepth 100000
set_option linter.unusedSimpArgs false

theorem Zones.but {w w' : World} {g : Nat} {a : Option Addr} {n c : Nat} {Z : List ZV} (h : Zones w a n c Z) (hb : But g w w') (hne : n = 0 ∨ ∀ x, a = some x → x.block ≠ g) (hl : ∀ z ∈ Z, z.off g) : Zones w' a n c Z := by
  refine ⟨h.len, h.le, h.max, h.nil, ?_, fun z hz => Ints.but (h.ok z hz) hb (hl z hz)⟩
  rcases hne with h0 | hne
  · exact .inl h0
  · rcases h.row with h0 | ⟨b, off, ha, hlt, hc⟩
    · exact .inl h0
    · have hg : b ≠ g := hne _ ha
      refine .inr ⟨b, off, ha, Nat.lt_of_lt_of_le hlt hb.size, fun i z hz => ?_⟩
      obtain ⟨h1, h2⟩ := hc i z hz
      exact ⟨keepb hb h1 hg, keepb hb h2 hg⟩

/-- None of the desk's lists lies in block R. -/
structure DV.off (R : Nat) (d : DV) : Prop where
  z : d.zn = 0 ∨ ∀ x, d.za = some x → x.block ≠ R
  l : ∀ z ∈ d.Z, z.off R
  k : d.kn = 0 ∨ ∀ x, d.ka = some x → x.block ≠ R
/-- All of the desk's lists lie from B on. -/
def DV.new (B : Nat) (d : DV) : Prop := ∀ R, R < B → d.off R
theorem DV.ok.but {w w' : World} {g : Nat} {d : DV} (h : d.ok w) (hb : But g w w') (ho : d.off g) : d.ok w' := ⟨h.z.but hb ho.z ho.l, h.k.but hb ho.k⟩
theorem DV.ok.off {w : World} {d : DV} (h : d.ok w) {R : Nat} (hR : w.heap.size ≤ R) : d.off R := by
  refine ⟨?_, fun z hz => Ints.offs (h.z.ok z hz) hR, h.k.offs hR⟩
  rcases h.z.row with h0 | ⟨b, off, ha, hlt, _⟩
  · exact .inl h0
  · exact .inr fun x e => by rw [ha] at e; cases e; simp; omega
theorem DV.new.mono {B B' : Nat} {d : DV} (h : d.new B) (hb : B' ≤ B) : d.new B' := fun R hR => h R (by omega)
theorem DV.zero_new (B : Nat) : DV.zero.new B := fun R _ => ⟨.inl rfl, fun z hz => (by cases hz), .inl rfl⟩
theorem DV.zero_off (R : Nat) : DV.zero.off R := ⟨.inl rfl, fun z hz => (by cases hz), .inl rfl⟩

def AV.off (R : Nat) (x : AV) : Prop := x.n = 0 ∨ ∀ y, x.a = some y → y.block ≠ R
def AV.new (B : Nat) (x : AV) : Prop := ∀ R, R < B → x.off R
theorem AV.ok.but {w w' : World} {g : Nat} {x : AV} (h : x.ok w) (hb : But g w w') (ho : x.off g) : x.ok w' := Ints.but h hb ho
theorem AV.ok.off {w : World} {x : AV} (h : x.ok w) {R : Nat} (hR : w.heap.size ≤ R) : x.off R := Ints.offs h hR
theorem AV.new.mono {B B' : Nat} {x : AV} (h : x.new B) (hb : B' ≤ B) : x.new B' := fun R hR => h R (by omega)
theorem AV.err_new (B : Nat) (e : Int) : (AV.err e).new B := fun R _ => .inl rfl

def DV.cells (d : DV) : List Value := [.slice d.za d.zn d.zc, .slice d.ka d.kn d.kc, .int .i64 d.b.h, .int .i64 d.b.t]

end Go.Proofs.YtklabieacbbbfaaDoor

/- Halls in memory: what each hand was answered last, as a list; plain mathematics, no condition. -/
namespace Go.Proofs.YtklabieacbbbfaaDoor
open Go.RowKit
set_option linter.unusedVariables false
set_option maxRecDepth 100000
set_option linter.unusedSimpArgs false

/-- The value of what a hand was answered last. -/
structure LV where
  s : Int
  x : AV
def LV.p (y : LV) : PL := ⟨y.s, y.x.p⟩
def LV.v (y : LV) : Value := .agg #[.int .i64 y.s, .int .i64 y.x.e, .int .i64 y.x.t, .slice y.x.a y.x.n y.x.c]
def LV.cells (y : LV) : List Value := [.int .i64 y.s, .int .i64 y.x.e, .int .i64 y.x.t, .slice y.x.a y.x.n y.x.c]
def LV.ok (w : World) (y : LV) : Prop := y.x.ok w
def LV.off (g : Nat) (y : LV) : Prop := y.x.n = 0 ∨ ∀ z, y.x.a = some z → z.block ≠ g
def LV.zero : LV := ⟨0, AV.err 0⟩
theorem LV.zero_ok (w : World) : LV.zero.ok w := AV.err_ok w 0
theorem LV.ok.below {w w' : World} {y : LV} (h : y.ok w) {B : Nat} (hb : Below B w w') (hB : w.heap.size ≤ B) : y.ok w' := Ints.below h hb hB
theorem LV.ok.but {w w' : World} {g : Nat} {y : LV} (h : y.ok w) (hb : But g w w') (ho : y.off g) : y.ok w' := Ints.but h hb ho
theorem LV.ok.off {w : World} {y : LV} (h : y.ok w) {R : Nat} (hR : w.heap.size ≤ R) : y.off R := Ints.offs h hR
theorem LV.cells_len (y : LV) : y.cells.length = 4 := rfl
theorem LV.cells_one (y : LV) : ∀ v ∈ y.cells, v.oneCell' = true := by
  intro v hx
  simp only [LV.cells, List.mem_cons, List.not_mem_nil, or_false] at hx
  rcases hx with rfl | rfl | rfl | rfl <;> rfl

def lcells (L : List LV) : List Value := L.flatMap LV.cells
theorem lcells_cons (y : LV) (L : List LV) : lcells (y :: L) = y.cells ++ lcells L := by simp [lcells]
theorem lcells_get : ∀ (L : List LV) (i : Nat) (y : LV), L[i]? = some y → ∀ j v, y.cells[j]? = some v → (lcells L)[i * 4 + j]? = some v
  | [], i, y, h, _, _, _ => by simp at h
  | z :: L, 0, y, h, j, v, hv => by
    have hj : j < 4 := (List.getElem?_eq_some_iff.1 hv).1
    simp at h
    subst h
    rw [lcells_cons, List.getElem?_append_left (by rw [LV.cells_len]; omega)]
    simpa using hv
  | z :: L, i + 1, y, h, j, v, hv => by
    rw [lcells_cons, List.getElem?_append_right (by rw [LV.cells_len]; omega), LV.cells_len, show (i + 1) * 4 + j - 4 = i * 4 + j by omega]
    exact lcells_get L i y (by simpa using h) j v hv
/-- A slice value's list of them. -/
structure Lasts (w : World) (a : Option Addr) (n c : Nat) (L : List LV) : Prop where
  len : L.length = n
  le : n ≤ c
  max : c ≤ 9223372036854775807
  nil : a = none → c = 0
  row : n = 0 ∨ ∃ b off, a = some ⟨b, off, none⟩ ∧ b < w.heap.size ∧ ∀ i y, L[i]? = some y → ∀ j v, y.cells[j]? = some v → w.cell? ⟨b, off + i * 4 + j, none⟩ = some v
  ok : ∀ y ∈ L, y.ok w
theorem Lasts.below {w w' : World} {a : Option Addr} {n c : Nat} {L : List LV} (h : Lasts w a n c L) {B : Nat} (hb : Below B w w') (hB : w.heap.size ≤ B) : Lasts w' a n c L := by
  refine ⟨h.len, h.le, h.max, h.nil, ?_, fun y hy => LV.ok.below (h.ok y hy) hb hB⟩
  rcases h.row with h0 | ⟨b, off, ha, hlt, hc⟩
  · exact .inl h0
  · refine .inr ⟨b, off, ha, Nat.lt_of_lt_of_le hlt hb.size, fun i y hy j v hv => ?_⟩
    rw [hb.cell (p := ⟨b, off + i * 4 + j, none⟩) (Nat.lt_of_lt_of_le hlt hB)]
    exact hc i y hy j v hv
theorem Lasts.nilSlice (w : World) : Lasts w none 0 0 [] := ⟨rfl, Nat.le_refl _, by omega, fun _ => rfl, .inl rfl, by simp⟩
/-- Neither the list nor the answers' data lie in block g. -/
structure OffL (g : Nat) (a : Option Addr) (n : Nat) (L : List LV) : Prop where
  a : n = 0 ∨ ∀ y, a = some y → y.block ≠ g
  d : ∀ y ∈ L, y.off g
theorem Lasts.but {w w' : World} {g : Nat} {a : Option Addr} {n c : Nat} {L : List LV} (h : Lasts w a n c L) (hb : But g w w') (hn : OffL g a n L) : Lasts w' a n c L := by
  refine ⟨h.len, h.le, h.max, h.nil, ?_, fun y hy => LV.ok.but (h.ok y hy) hb (hn.d y hy)⟩
  rcases hn.a with h0 | hne
  · exact .inl h0
  · rcases h.row with h0 | ⟨b, off, ha, hlt, hc⟩
    · exact .inl h0
    · refine .inr ⟨b, off, ha, Nat.lt_of_lt_of_le hlt hb.size, fun i y hy j v hv => ?_⟩
      have := hne _ ha
      rw [hb.cell ⟨b, off + i * 4 + j, none⟩ hlt this]
      exact hc i y hy j v hv
theorem Lasts.off {w : World} {a : Option Addr} {n c : Nat} {L : List LV} (h : Lasts w a n c L) {R : Nat} (hR : w.heap.size ≤ R) : OffL R a n L := by
  refine ⟨?_, fun y hy => LV.ok.off (h.ok y hy) hR⟩
  rcases h.row with h0 | ⟨b, off, ha, hlt, _⟩
  · exact .inl h0
  · exact .inr fun x e => by rw [ha] at e; cases e; simp; omega
/-- A row of new memory. -/
theorem Lasts.of_row {w : World} {g : Nat} {L : List LV} {t : TypeId} {fr : Nat × Nat} (hg : w.heap[g]? = some (.cells (lcells L).toArray t fr)) (hok : ∀ y ∈ L, y.ok w) {n : Nat} (hn : L.length = n) (hm : n ≤ 9223372036854775807) : Lasts w (some ⟨g, 0, none⟩) n n L := by
  subst hn
  refine ⟨rfl, Nat.le_refl _, hm, fun e => (by cases e), .inr ⟨g, 0, rfl, (Array.getElem?_eq_some_iff.1 hg).1, fun i y hy j v hv => ?_⟩, hok⟩
  rw [cell_of_row w g _ _ t fr hg, Nat.zero_add]
  simpa using lcells_get L i y hy j v hv
theorem Lasts.at {w : World} {a : Option Addr} {n c : Nat} {L : List LV} (h : Lasts w a n c L) {i : Nat} (hi : i < n) : ∃ b off y, a = some ⟨b, off, none⟩ ∧ L[i]? = some y ∧ y.ok w ∧ ∀ j v, y.cells[j]? = some v → w.cell? ⟨b, off + i * 4 + j, none⟩ = some v := by
  obtain ⟨y, hy⟩ : ∃ y, L[i]? = some y := ⟨L[i]'(by rw [h.len]; exact hi), by simp⟩
  rcases h.row with h0 | ⟨b, off, ha, hlt, hc⟩
  · omega
  · exact ⟨b, off, y, ha, hy, h.ok y (List.mem_of_getElem? hy), hc i y hy⟩

/-- A hall's value. -/
structure HV where
  d : DV
  a : Option Addr
  n : Nat
  c : Nat
  L : List LV
def HV.p (h : HV) : PH := ⟨h.d.p, h.L.map LV.p⟩
def HV.v (h : HV) : Value := .agg #[.slice h.d.za h.d.zn h.d.zc, .slice h.d.ka h.d.kn h.d.kc, .int .i64 h.d.b.h, .int .i64 h.d.b.t, .slice h.a h.n h.c]
def HV.cells (h : HV) : List Value := [.slice h.d.za h.d.zn h.d.zc, .slice h.d.ka h.d.kn h.d.kc, .int .i64 h.d.b.h, .int .i64 h.d.b.t, .slice h.a h.n h.c]
structure HV.ok (w : World) (h : HV) : Prop where
  d : h.d.ok w
  l : Lasts w h.a h.n h.c h.L
def HV.zero : HV := ⟨DV.zero, none, 0, 0, []⟩
theorem HV.zero_ok (w : World) : HV.zero.ok w := ⟨DV.zero_ok w, Lasts.nilSlice w⟩
theorem HV.ok.below {w w' : World} {h : HV} (k : h.ok w) {B : Nat} (hb : Below B w w') (hB : w.heap.size ≤ B) : h.ok w' := ⟨k.d.below hb hB, k.l.below hb hB⟩
/-- None of the hall's lists lies in block R. -/
structure HV.off (R : Nat) (h : HV) : Prop where
  d : h.d.off R
  l : OffL R h.a h.n h.L
/-- All of the hall's lists lie from B on. -/
def HV.new (B : Nat) (h : HV) : Prop := ∀ R, R < B → h.off R
theorem HV.ok.but {w w' : World} {g : Nat} {h : HV} (k : h.ok w) (hb : But g w w') (ho : h.off g) : h.ok w' := ⟨k.d.but hb ho.d, k.l.but hb ho.l⟩
theorem HV.ok.off {w : World} {h : HV} (k : h.ok w) {R : Nat} (hR : w.heap.size ≤ R) : h.off R := ⟨k.d.off hR, k.l.off hR⟩
theorem HV.new.mono {B B' : Nat} {h : HV} (k : h.new B) (hb : B' ≤ B) : h.new B' := fun R hR => k R (by omega)
theorem HV.zero_off (R : Nat) : HV.zero.off R := ⟨DV.zero_off R, .inl rfl, fun y hy => (by cases hy)⟩
theorem HV.zero_new (B : Nat) : HV.zero.new B := fun R _ => HV.zero_off R

end Go.Proofs.YtklabieacbbbfaaDoor

/- Lists of records in memory: read, and of the call's own; plain mathematics, no condition. -/
namespace Go.Proofs.YtklabieacbbbfaaDoor
open Go.RowKit
set_option linter.unusedVariables false
set_option maxRecDepth 100000
set_option linter.unusedSimpArgs false

theorem RV.cells_len (x : RV) : x.cells.length = 7 := rfl
theorem RV.cells_one (x : RV) : ∀ v ∈ x.cells, v.oneCell' = true := by
  intro v hx
  simp only [RV.cells, List.mem_cons, List.not_mem_nil, or_false] at hx
  rcases hx with rfl | rfl | rfl | rfl | rfl | rfl | rfl <;> rfl
/-- A slice value's records. -/
structure Recs (w : World) (a : Option Addr) (n c : Nat) (X : List RV) : Prop where
  len : X.length = n
  le : n ≤ c
  max : c ≤ 9223372036854775807
  nil : a = none → c = 0
  row : n = 0 ∨ ∃ b off, a = some ⟨b, off, none⟩ ∧ b < w.heap.size ∧ ∀ i x, X[i]? = some x → ∀ j v, x.cells[j]? = some v → w.cell? ⟨b, off + i * 7 + j, none⟩ = some v
  ok : ∀ x ∈ X, x.ok w
theorem Recs.below {w w' : World} {a : Option Addr} {n c : Nat} {X : List RV} (h : Recs w a n c X) {B : Nat} (hb : Below B w w') (hB : w.heap.size ≤ B) : Recs w' a n c X := by
  refine ⟨h.len, h.le, h.max, h.nil, ?_, fun x hx => (h.ok x hx).below hb hB⟩
  rcases h.row with h0 | ⟨b, off, ha, hlt, hc⟩
  · exact .inl h0
  · refine .inr ⟨b, off, ha, Nat.lt_of_lt_of_le hlt hb.size, fun i x hx j v hv => ?_⟩
    rw [hb.cell (p := ⟨b, off + i * 7 + j, none⟩) (Nat.lt_of_lt_of_le hlt hB)]
    exact hc i x hx j v hv
theorem Recs.nilSlice (w : World) : Recs w none 0 0 [] := ⟨rfl, Nat.le_refl _, by omega, fun _ => rfl, .inl rfl, by simp⟩
theorem Recs.take {w : World} {a : Option Addr} {n c : Nat} {X : List RV} (h : Recs w a n c X) {k : Nat} (hk : k ≤ n) : Recs w a k c (X.take k) := by
  refine ⟨by rw [List.length_take, h.len]; omega, Nat.le_trans hk h.le, h.max, h.nil, ?_, fun x hx => h.ok x (List.mem_of_mem_take hx)⟩
  rcases h.row with h0 | ⟨b, off, ha, hlt, hc⟩
  · exact .inl (by omega)
  · refine .inr ⟨b, off, ha, hlt, fun i x hx => hc i x ?_⟩
    have hi := (List.getElem?_eq_some_iff.1 hx).1
    rw [List.length_take] at hi
    rwa [List.getElem?_take_of_lt (by omega)] at hx
/-- The list and the records' data lie in memory from B on. -/
structure FreshR (B : Nat) (a : Option Addr) (X : List RV) : Prop where
  a : ∀ y, a = some y → B ≤ y.block
  d : ∀ x ∈ X, ∀ y, x.a = some y → B ≤ y.block
theorem FreshR.mono {B B' : Nat} {a : Option Addr} {X : List RV} (h : FreshR B a X) (hB : B' ≤ B) : FreshR B' a X := ⟨fun y e => Nat.le_trans hB (h.a y e), fun x hx y e => Nat.le_trans hB (h.d x hx y e)⟩
theorem FreshR.nil (B : Nat) : FreshR B none [] := ⟨fun y e => (by cases e), fun x hx => (by cases hx)⟩
theorem Recs.but {w w' : World} {g : Nat} {a : Option Addr} {n c : Nat} {X : List RV} (h : Recs w a n c X) (hb : But g w w') {B : Nat} (hn : FreshR B a X) (hg : g < B) : Recs w' a n c X := by
  refine ⟨h.len, h.le, h.max, h.nil, ?_, fun x hx => (h.ok x hx).but hb (.inr fun y e => by have := hn.d x hx y e; omega)⟩
  rcases h.row with h0 | ⟨b, off, ha, hlt, hc⟩
  · exact .inl h0
  · refine .inr ⟨b, off, ha, Nat.lt_of_lt_of_le hlt hb.size, fun i x hx j v hv => ?_⟩
    have := hn.a _ ha
    simp at this
    rw [hb.cell ⟨b, off + i * 7 + j, none⟩ hlt (by simp; omega)]
    exact hc i x hx j v hv

theorem Ints.grown {w w' : World} {row : Option Nat} {a : Option Addr} {n c : Nat} {l : List Int} (h : Ints w a n c l) (hg : w.grownBy w' row) (hne : n = 0 ∨ ∀ x, a = some x → some x.block ≠ row) : Ints w' a n c l := by
  refine ⟨h.len, h.le, h.max, h.nil, ?_, h.wf⟩
  rcases hne with h0 | hne
  · exact .inl h0
  · rcases h.row with h0 | ⟨b, off, ha, hlt, hc⟩
    · exact .inl h0
    · exact .inr ⟨b, off, ha, Nat.lt_of_lt_of_le hlt hg.size, fun i hi => hg.cell (hc i hi) (by have := hne _ ha; exact this)⟩

/-- The records' data lie in memory from B on. -/
def FromD (B : Nat) (X : List RV) : Prop := ∀ x ∈ X, ∀ y, x.a = some y → B ≤ y.block
theorem FromD.nil (B : Nat) : FromD B [] := fun x hx => by cases hx
theorem FromD.snoc {B : Nat} {X : List RV} {x : RV} (h : FromD B X) (hx : ∀ y, x.a = some y → B ≤ y.block) : FromD B (X ++ [x]) := by
  intro y hy
  rcases List.mem_append.1 hy with hy | hy
  · exact h y hy
  · obtain rfl : y = x := by simpa using hy
    exact hx
theorem FromD.mono {B B' : Nat} {X : List RV} (h : FromD B X) (hB : B' ≤ B) : FromD B' X := fun x hx y e => Nat.le_trans hB (h x hx y e)
theorem grown_below {w w' : World} (hb : Below w.heap.size w w') : w.grownBy w' none := ⟨hb.os, hb.tape, hb.output, hb.size, fun k hk _ => hb.block k hk⟩
end Go.Proofs.YtklabieacbbbfaaDoor

/- Lists of answers in memory: read, and of the call's own; plain mathematics, no condition. -/
namespace Go.Proofs.YtklabieacbbbfaaDoor
open Go.RowKit
set_option linter.unusedVariables false
set_option maxRecDepth 100000
set_option linter.unusedSimpArgs false

def AV.cells (x : AV) : List Value := [.int .i64 x.e, .int .i64 x.t, .slice x.a x.n x.c]
theorem ansInfo : ∃ i, Tryd.prog.info? 30 = some i ∧ i.zero = some (.agg #[.int .i64 0, .int .i64 0, .slice none 0 0]) ∧ i.size = 3 ∧ i.bytes = 40 := by
  have h : (Tryd.prog.info? 30).map (fun i => (i.zero, i.size, i.bytes)) = some (some (.agg #[.int .i64 0, .int .i64 0, .slice none 0 0]), 3, 40) := by kernel_rfl
  obtain ⟨i, hi, h⟩ := Option.map_eq_some_iff.1 h
  simp only [Prod.mk.injEq] at h
  exact ⟨i, hi, h.1, h.2.1, h.2.2⟩

/-- The cells of answers. -/
def acells (X : List AV) : List Value := X.flatMap AV.cells
theorem acells_cons (x : AV) (X : List AV) : acells (x :: X) = x.cells ++ acells X := by simp [acells]
theorem acells_snoc (X : List AV) (x : AV) : acells (X ++ [x]) = acells X ++ x.cells := by simp [acells]
theorem AV.cells_len (x : AV) : x.cells.length = 3 := rfl
theorem acells_len : ∀ X : List AV, (acells X).length = X.length * 3
  | [] => rfl
  | x :: X => by rw [acells_cons, List.length_append, acells_len X, x.cells_len, List.length_cons]; omega
theorem acells_get : ∀ (X : List AV) (i : Nat) (x : AV), X[i]? = some x → ∀ j v, x.cells[j]? = some v → (acells X)[i * 3 + j]? = some v
  | [], i, x, h, _, _, _ => by simp at h
  | y :: X, 0, x, h, j, v, hv => by
    have hj : j < 3 := (List.getElem?_eq_some_iff.1 hv).1
    simp at h
    subst h
    rw [acells_cons, List.getElem?_append_left (by rw [AV.cells_len]; omega)]
    simpa using hv
  | y :: X, i + 1, x, h, j, v, hv => by
    rw [acells_cons, List.getElem?_append_right (by rw [AV.cells_len]; omega), AV.cells_len, show (i + 1) * 3 + j - 3 = i * 3 + j by omega]
    exact acells_get X i x (by simpa using h) j v hv
theorem AV.cells_one (x : AV) : ∀ v ∈ x.cells, v.oneCell' = true := by
  intro v hx
  simp only [AV.cells, List.mem_cons, List.not_mem_nil, or_false] at hx
  rcases hx with rfl | rfl | rfl <;> rfl
theorem acells_one (X : List AV) : ∀ v ∈ acells X, v.oneCell' = true := by
  intro v hv
  simp only [acells, List.mem_flatMap] at hv
  obtain ⟨x, _, hx⟩ := hv
  exact x.cells_one v hx

/-- A slice value's answers. -/
structure Answers (w : World) (a : Option Addr) (n c : Nat) (X : List AV) : Prop where
  len : X.length = n
  le : n ≤ c
  max : c ≤ 9223372036854775807
  nil : a = none → c = 0
  row : n = 0 ∨ ∃ b off, a = some ⟨b, off, none⟩ ∧ b < w.heap.size ∧ ∀ i x, X[i]? = some x → ∀ j v, x.cells[j]? = some v → w.cell? ⟨b, off + i * 3 + j, none⟩ = some v
  ok : ∀ x ∈ X, x.ok w
theorem Answers.below {w w' : World} {a : Option Addr} {n c : Nat} {X : List AV} (h : Answers w a n c X) {B : Nat} (hb : Below B w w') (hB : w.heap.size ≤ B) : Answers w' a n c X := by
  refine ⟨h.len, h.le, h.max, h.nil, ?_, fun x hx => AV.ok.below (h.ok x hx) hb hB⟩
  rcases h.row with h0 | ⟨b, off, ha, hlt, hc⟩
  · exact .inl h0
  · refine .inr ⟨b, off, ha, Nat.lt_of_lt_of_le hlt hb.size, fun i x hx j v hv => ?_⟩
    rw [hb.cell (p := ⟨b, off + i * 3 + j, none⟩) (Nat.lt_of_lt_of_le hlt hB)]
    exact hc i x hx j v hv
theorem Answers.nilSlice (w : World) : Answers w none 0 0 [] := ⟨rfl, Nat.le_refl _, by omega, fun _ => rfl, .inl rfl, by simp⟩
theorem Answers.take {w : World} {a : Option Addr} {n c : Nat} {X : List AV} (h : Answers w a n c X) {k : Nat} (hk : k ≤ n) : Answers w a k c (X.take k) := by
  refine ⟨by rw [List.length_take, h.len]; omega, Nat.le_trans hk h.le, h.max, h.nil, ?_, fun x hx => h.ok x (List.mem_of_mem_take hx)⟩
  rcases h.row with h0 | ⟨b, off, ha, hlt, hc⟩
  · exact .inl (by omega)
  · refine .inr ⟨b, off, ha, hlt, fun i x hx => hc i x ?_⟩
    have hi := (List.getElem?_eq_some_iff.1 hx).1
    rw [List.length_take] at hi
    rwa [List.getElem?_take_of_lt (by omega)] at hx
/-- The list and the answers' data lie in memory from B on. -/
structure FreshA (B : Nat) (a : Option Addr) (X : List AV) : Prop where
  a : ∀ y, a = some y → B ≤ y.block
  d : ∀ x ∈ X, x.new B
theorem FreshA.mono {B B' : Nat} {a : Option Addr} {X : List AV} (h : FreshA B a X) (hB : B' ≤ B) : FreshA B' a X := ⟨fun y e => Nat.le_trans hB (h.a y e), fun x hx => AV.new.mono (h.d x hx) hB⟩
theorem FreshA.nil (B : Nat) : FreshA B none [] := ⟨fun y e => (by cases e), fun x hx => (by cases hx)⟩
theorem Answers.but {w w' : World} {g : Nat} {a : Option Addr} {n c : Nat} {X : List AV} (h : Answers w a n c X) (hb : But g w w') (ha : n = 0 ∨ ∀ y, a = some y → y.block ≠ g) (hd : ∀ x ∈ X, x.off g) : Answers w' a n c X := by
  refine ⟨h.len, h.le, h.max, h.nil, ?_, fun x hx => AV.ok.but (h.ok x hx) hb (hd x hx)⟩
  rcases ha with h0 | hne
  · exact .inl h0
  · rcases h.row with h0 | ⟨b, off, ha, hlt, hc⟩
    · exact .inl h0
    · refine .inr ⟨b, off, ha, Nat.lt_of_lt_of_le hlt hb.size, fun i x hx j v hv => ?_⟩
      have := hne _ ha
      rw [hb.cell ⟨b, off + i * 3 + j, none⟩ hlt this]
      exact hc i x hx j v hv

theorem grown_but {w w' : World} {g : Nat} (h : w.grownBy w' (some g)) (hg : g ≤ w.heap.size) : But g w w' :=
  ⟨⟨h.os, h.tape, h.output, h.size, fun k hk => h.block k (by omega) (fun e => by cases e; omega)⟩, h.size, fun q hq hne => h.cell_far q hq (fun e => hne (by cases e; rfl))⟩
theorem grown_none {w w' : World} (h : w.grownBy w' none) : Below w.heap.size w w' := ⟨h.os, h.tape, h.output, h.size, fun k hk => h.block k hk (by simp)⟩
theorem HV.ok.grown {w w' : World} {row : Option Nat} {h : HV} (k : h.ok w) (hg : w.grownBy w' row) (hr : ∀ g, row = some g → g ≤ w.heap.size ∧ h.off g) : h.ok w' := by
  cases row with
  | none => exact k.below (grown_none hg) (Nat.le_refl _)
  | some g => exact k.but (grown_but hg (hr g rfl).1) (hr g rfl).2
theorem AV.ok.grown {w w' : World} {row : Option Nat} {x : AV} (k : x.ok w) (hg : w.grownBy w' row) (hr : ∀ g, row = some g → g ≤ w.heap.size ∧ x.off g) : x.ok w' := by
  cases row with
  | none => exact AV.ok.below k (grown_none hg) (Nat.le_refl _)
  | some g => exact AV.ok.but k (grown_but hg (hr g rfl).1) (hr g rfl).2
theorem Lay.grownA {w w' : World} {B : Nat} {vs : List Value} {row : Option Nat} (h : Lay w B vs) (hg : w.grownBy w' row) (hne : some B ≠ row) : Lay w' B vs :=
  ⟨fun i v hv => hg.cell (h.cell i v hv) hne, fun i => by rw [hg.frozen_far ⟨B, i, none⟩ h.lt hne]; exact h.ice i, Nat.lt_of_lt_of_le h.lt hg.size⟩
theorem Ints.setOffA {w : World} {a : Option Addr} {n c : Nat} {l : List Int} (h : Ints w a n c l) (p : Addr) (v : Value) (hne : n = 0 ∨ ∀ x, a = some x → x.block ≠ p.block) : Ints (w.setCell p v) a n c l := by
  rcases hne with h0 | hne
  · exact ⟨h.len, h.le, h.max, h.nil, .inl h0, h.wf⟩
  · exact h.setCell p v hne

/-- An owned list of answers. -/
structure OwnA (w : World) (base : Nat) (v : Value) (X : List AV) : Prop where
  own : w.ownsRow base 30 3 v X.length (acells X)
  ok : ∀ x ∈ X, x.ok w
  off : ∀ x ∈ X, ∀ g, v.ownBlock = some g → x.off g
theorem OwnA.nil (w : World) (base : Nat) : OwnA w base (.slice none 0 0) [] := ⟨World.ownsRow_nil w base _ 3, by simp, by simp⟩
theorem OwnA.below {w w' : World} {base : Nat} {v : Value} {X : List AV} (h : OwnA w base v X) (hb : Below w.heap.size w w') : OwnA w' base v X :=
  ⟨h.own.kept (grown_below hb) (by cases v.ownBlock <;> simp), fun x hx => AV.ok.below (h.ok x hx) hb (Nat.le_refl _), h.off⟩
theorem OwnA.mono {w : World} {base base' : Nat} {v : Value} {X : List AV} (h : OwnA w base v X) (hb : base' ≤ base) : OwnA w base' v X := by
  refine ⟨⟨h.own.1, ?_⟩, h.ok, h.off⟩
  rcases h.own.2 with h | ⟨g, cap, cur, e, hg, r⟩
  · exact .inl h
  · exact .inr ⟨g, cap, cur, e, Nat.le_trans hb hg, r⟩
theorem OwnA.recs {w : World} {base : Nat} {v : Value} {X : List AV} (h : OwnA w base v X) : ∃ a c, v = .slice a X.length c ∧ Answers w a X.length c X ∧ ∀ y, a = some y → base ≤ y.block := by
  rcases h.own.2 with ⟨rfl, h0⟩ | ⟨g, cap, cur, rfl, hb, hg, hn, hm, hs, hc⟩
  · rw [List.length_eq_zero_iff] at h0
    subst h0
    exact ⟨none, 0, rfl, Answers.nilSlice w, fun y e => by cases e⟩
  · refine ⟨_, cap, rfl, ?_, fun x e => by cases e; exact hb⟩
    refine ⟨rfl, hn, by simp [maxLen] at hm; omega, fun e => (by cases e), .inr ⟨g, 0, rfl, (Array.getElem?_eq_some_iff.1 hg).1, fun i x hx j v hv => ?_⟩, h.ok⟩
    have hj : j < 3 := (List.getElem?_eq_some_iff.1 hv).1
    have hi := (List.getElem?_eq_some_iff.1 hx).1
    have hr := acells_get X i x hx j v hv
    rw [← hc, List.getElem?_take, if_pos (by omega)] at hr
    rw [cell_of_row w g _ _ _ _ hg, Nat.zero_add]
    simpa using hr
/-- One more answer. -/
theorem OwnA.snoc {w w' : World} {base : Nat} {v : Value} {X : List AV} {x : AV} {g cap : Nat} (h : OwnA w base v X) (hx : x.ok w) (ho : ∀ g, v.ownBlock = some g → x.off g)
    (hown : w'.ownsRow base 30 3 (.slice (some ⟨g, 0, none⟩) (X.length + 1) cap) (X.length + 1) (acells X ++ x.cells)) (hg : w.grownBy w' v.ownBlock) (hat : v.ownBlock = some g ∨ g = w.heap.size) :
    OwnA w' base (.slice (some ⟨g, 0, none⟩) (X.length + 1) cap) (X ++ [x]) := by
  have all : ∀ y ∈ X ++ [x], y.ok w ∧ (∀ k, v.ownBlock = some k → y.off k) := by
    intro y hy
    rcases List.mem_append.1 hy with hy | hy
    · exact ⟨h.ok y hy, h.off y hy⟩
    · obtain rfl : y = x := by simpa using hy
      exact ⟨hx, ho⟩
  refine ⟨by rw [List.length_append, acells_snoc]; exact hown, fun y hy => ?_, fun y hy k e => ?_⟩
  · obtain ⟨h1, h2⟩ := all y hy
    refine Ints.grown h1 hg ?_
    cases e : v.ownBlock with
    | none => exact .inr fun z _ q => by cases q
    | some k =>
      rcases h2 k e with h0 | h0
      · exact .inl h0
      · exact .inr fun z hz q => h0 z hz (by cases q; rfl)
  · obtain ⟨h1, h2⟩ := all y hy
    obtain rfl : g = k := by simpa [Value.ownBlock] using e
    rcases hat with hat | rfl
    · exact h2 _ hat
    · exact AV.ok.off h1 (Nat.le_refl _)
theorem OwnA.far {w : World} {base : Nat} {v : Value} {X : List AV} (h : OwnA w base v X) (p : Addr) (u : Value) (hp : p.block < base) (hX : ∀ x ∈ X, x.off p.block) : OwnA (w.setCell p u) base v X :=
  ⟨ownsRow_setCell_below h.own hp u, fun x hx => Ints.setOffA (h.ok x hx) p u (hX x hx), h.off⟩

end Go.Proofs.YtklabieacbbbfaaDoor

/- Hands in memory; plain mathematics, no condition. -/
namespace Go.Proofs.YtklabieacbbbfaaDoor
open Go.RowKit
set_option linter.unusedVariables false
set_option maxRecDepth 100000
set_option linter.unusedSimpArgs false

/-- A hand's value: its number, whether it waits, for what, and what it got. -/
structure NV where
  s : Int
  w : Bool
  c : PC
  ca : Option Addr
  cn : Nat
  cc : Nat
  ga : Option Addr
  gn : Nat
  gc : Nat
  G : List AV
def NV.p (h : NV) : PN := ⟨h.s, h.w, h.c, h.G.map AV.p⟩
def NV.cells (h : NV) : List Value := [.int .i64 h.s, .bool h.w, .int .i64 h.c.k, .int .i64 h.c.z, .int .i64 h.c.n, .int .i64 h.c.at', .slice h.ca h.cn h.cc, .slice h.ga h.gn h.gc]
def NV.v (h : NV) : Value := .agg #[.int .i64 h.s, .bool h.w, .int .i64 h.c.k, .int .i64 h.c.z, .int .i64 h.c.n, .int .i64 h.c.at', .slice h.ca h.cn h.cc, .slice h.ga h.gn h.gc]
structure NV.ok (w : World) (h : NV) : Prop where
  c : Ints w h.ca h.cn h.cc h.c.d
  g : Answers w h.ga h.gn h.gc h.G
def NV.zero : NV := ⟨0, false, zeroC, none, 0, 0, none, 0, 0, []⟩
theorem NV.zero_ok (w : World) : NV.zero.ok w := ⟨Ints.nilSlice w, Answers.nilSlice w⟩
theorem NV.ok.below {w w' : World} {h : NV} (k : h.ok w) {B : Nat} (hb : Below B w w') (hB : w.heap.size ≤ B) : h.ok w' := ⟨k.c.below hb hB, k.g.below hb hB⟩
/-- Nothing of a hand lies in block R. -/
structure NV.off (R : Nat) (h : NV) : Prop where
  c : h.cn = 0 ∨ ∀ y, h.ca = some y → y.block ≠ R
  a : h.gn = 0 ∨ ∀ y, h.ga = some y → y.block ≠ R
  g : ∀ x ∈ h.G, x.off R
def NV.new (B : Nat) (h : NV) : Prop := ∀ R, R < B → h.off R
theorem NV.ok.but {w w' : World} {g : Nat} {h : NV} (k : h.ok w) (hb : But g w w') (ho : h.off g) : h.ok w' := ⟨k.c.but hb ho.c, k.g.but hb ho.a ho.g⟩
theorem Answers.off {w : World} {a : Option Addr} {n c : Nat} {X : List AV} (h : Answers w a n c X) {R : Nat} (hR : w.heap.size ≤ R) : (n = 0 ∨ ∀ y, a = some y → y.block ≠ R) ∧ ∀ x ∈ X, x.off R := by
  refine ⟨?_, fun x hx => AV.ok.off (h.ok x hx) hR⟩
  rcases h.row with h0 | ⟨b, off, rfl, hlt, _⟩
  · exact .inl h0
  · exact .inr fun y e => by cases e; simp; omega
theorem NV.ok.off {w : World} {h : NV} (k : h.ok w) {R : Nat} (hR : w.heap.size ≤ R) : h.off R := ⟨Ints.offs k.c hR, (k.g.off hR).1, (k.g.off hR).2⟩
theorem NV.new.mono {B B' : Nat} {h : NV} (k : h.new B) (hb : B' ≤ B) : h.new B' := fun R hR => k R (by omega)
theorem NV.zero_off (R : Nat) : NV.zero.off R := ⟨.inl rfl, .inl rfl, fun x hx => (by cases hx)⟩
theorem NV.zero_new (B : Nat) : NV.zero.new B := fun R _ => NV.zero_off R

theorem Answers.at {w : World} {a : Option Addr} {n c : Nat} {X : List AV} (h : Answers w a n c X) {i : Nat} (hi : i < n) : ∃ b off x, a = some ⟨b, off, none⟩ ∧ X[i]? = some x ∧ x.ok w ∧ b < w.heap.size ∧ ∀ j v, x.cells[j]? = some v → w.cell? ⟨b, off + i * 3 + j, none⟩ = some v := by
  obtain ⟨b, off, e, hlt, hc⟩ := h.row.resolve_left (by omega)
  obtain ⟨x, hx⟩ : ∃ x, X[i]? = some x := ⟨_, List.getElem?_eq_getElem (by rw [h.len]; exact hi)⟩
  exact ⟨b, off, x, e, hx, h.ok x (List.mem_of_getElem? hx), hlt, hc i x hx⟩

end Go.Proofs.YtklabieacbbbfaaDoor
