/- Halls in memory: what each hand was answered last, as a list; plain mathematics, no condition. -/
import Derived.Test.YtcmladgldjcdmaaDoorHU7
import Derived.Test.YtcmladgldjcdmaaDoorHU4
import Derived.Test.YtcmladgldjcdmaaDoorHU5
import Derived.Test.YtcmladgldjcdmaaDoorHU2
import Derived.Deep.AppendLies
import Derived.Test.YtcmladgldjcdmaaDoorRows
import Derived.Stop.LaidErr
import Derived.Shelf.Vars
import Derived.MapViews
import Derived.DeepKeys2
import Derived.Lib.LaidTab
namespace Go.Proofs.YtcmladgldjcdmaaDoor
open Go.RowKit
set_option linter.unusedVariables false
set_option maxRecDepth 100000
set_option linter.unusedSimpArgs false

/-- The value of what a hand was answered last. -/
structure LV where
  s : Int
  x : AV
def LV.p (y : LV) : PL := ⟨y.s, y.x.p⟩
def LV.v (y : LV) : Value := .agg #[.int .i64 y.s, .int .i64 y.x.e, .int .i64 y.x.t, .slice y.x.a y.x.n y.x.c]
def LV.cells (y : LV) : List Value := [.int .i64 y.s, .int .i64 y.x.e, .int .i64 y.x.t, .slice y.x.a y.x.n y.x.c]
def LV.ok (w : World) (y : LV) : Prop := y.x.ok w
def LV.off (g : Nat) (y : LV) : Prop := y.x.n = 0 ∨ ∀ z, y.x.a = some z → z.block ≠ g
def LV.zero : LV := ⟨0, AV.err 0⟩
theorem LV.zero_ok (w : World) : LV.zero.ok w := AV.err_ok w 0
theorem LV.ok.below {w w' : World} {y : LV} (h : y.ok w) {B : Nat} (hb : Below B w w') (hB : w.heap.size ≤ B) : y.ok w' := Ints.below h hb hB
theorem LV.ok.but {w w' : World} {g : Nat} {y : LV} (h : y.ok w) (hb : But g w w') (ho : y.off g) : y.ok w' := Ints.but h hb ho
theorem LV.ok.off {w : World} {y : LV} (h : y.ok w) {R : Nat} (hR : w.heap.size ≤ R) : y.off R := Ints.offs h hR
theorem LV.cells_len (y : LV) : y.cells.length = 4 := rfl
theorem LV.cells_one (y : LV) : ∀ v ∈ y.cells, v.oneCell' = true := by
  intro v hx
  simp only [LV.cells, List.mem_cons, List.not_mem_nil, or_false] at hx
  rcases hx with rfl | rfl | rfl | rfl <;> rfl

def lcells (L : List LV) : List Value := L.flatMap LV.cells
theorem lcells_cons (y : LV) (L : List LV) : lcells (y :: L) = y.cells ++ lcells L := by simp [lcells]
theorem lcells_get : ∀ (L : List LV) (i : Nat) (y : LV), L[i]? = some y → ∀ j v, y.cells[j]? = some v → (lcells L)[i * 4 + j]? = some v
  | [], i, y, h, _, _, _ => by simp at h
  | z :: L, 0, y, h, j, v, hv => by
    have hj : j < 4 := (List.getElem?_eq_some_iff.1 hv).1
    simp at h
    subst h
    rw [lcells_cons, List.getElem?_append_left (by rw [LV.cells_len]; omega)]
    simpa using hv
  | z :: L, i + 1, y, h, j, v, hv => by
    rw [lcells_cons, List.getElem?_append_right (by rw [LV.cells_len]; omega), LV.cells_len, show (i + 1) * 4 + j - 4 = i * 4 + j by omega]
    exact lcells_get L i y (by simpa using h) j v hv
/-- A slice value's list of them. -/
structure Lasts (w : World) (a : Option Addr) (n c : Nat) (L : List LV) : Prop where
  len : L.length = n
  le : n ≤ c
  max : c ≤ 9223372036854775807
  nil : a = none → c = 0
  row : n = 0 ∨ ∃ b off, a = some ⟨b, off, none⟩ ∧ b < w.heap.size ∧ ∀ i y, L[i]? = some y → ∀ j v, y.cells[j]? = some v → w.cell? ⟨b, off + i * 4 + j, none⟩ = some v
  ok : ∀ y ∈ L, y.ok w
theorem Lasts.below {w w' : World} {a : Option Addr} {n c : Nat} {L : List LV} (h : Lasts w a n c L) {B : Nat} (hb : Below B w w') (hB : w.heap.size ≤ B) : Lasts w' a n c L := by
  refine ⟨h.len, h.le, h.max, h.nil, ?_, fun y hy => LV.ok.below (h.ok y hy) hb hB⟩
  rcases h.row with h0 | ⟨b, off, ha, hlt, hc⟩
  · exact .inl h0
  · refine .inr ⟨b, off, ha, Nat.lt_of_lt_of_le hlt hb.size, fun i y hy j v hv => ?_⟩
    rw [hb.cell (p := ⟨b, off + i * 4 + j, none⟩) (Nat.lt_of_lt_of_le hlt hB)]
    exact hc i y hy j v hv
theorem Lasts.nilSlice (w : World) : Lasts w none 0 0 [] := ⟨rfl, Nat.le_refl _, by omega, fun _ => rfl, .inl rfl, by simp⟩
/-- Neither the list nor the answers' data lie in block g. -/
structure OffL (g : Nat) (a : Option Addr) (n : Nat) (L : List LV) : Prop where
  a : n = 0 ∨ ∀ y, a = some y → y.block ≠ g
  d : ∀ y ∈ L, y.off g
theorem Lasts.but {w w' : World} {g : Nat} {a : Option Addr} {n c : Nat} {L : List LV} (h : Lasts w a n c L) (hb : But g w w') (hn : OffL g a n L) : Lasts w' a n c L := by
  refine ⟨h.len, h.le, h.max, h.nil, ?_, fun y hy => LV.ok.but (h.ok y hy) hb (hn.d y hy)⟩
  rcases hn.a with h0 | hne
  · exact .inl h0
  · rcases h.row with h0 | ⟨b, off, ha, hlt, hc⟩
    · exact .inl h0
    · refine .inr ⟨b, off, ha, Nat.lt_of_lt_of_le hlt hb.size, fun i y hy j v hv => ?_⟩
      have := hne _ ha
      rw [hb.cell ⟨b, off + i * 4 + j, none⟩ hlt this]
      exact hc i y hy j v hv
theorem Lasts.off {w : World} {a : Option Addr} {n c : Nat} {L : List LV} (h : Lasts w a n c L) {R : Nat} (hR : w.heap.size ≤ R) : OffL R a n L := by
  refine ⟨?_, fun y hy => LV.ok.off (h.ok y hy) hR⟩
  rcases h.row with h0 | ⟨b, off, ha, hlt, _⟩
  · exact .inl h0
  · exact .inr fun x e => by rw [ha] at e; cases e; simp; omega
/-- A block of the call's own that holds them. -/
theorem Lasts.of_lay {w : World} {g : Nat} {L : List LV} (h : Lay w g (lcells L)) (hok : ∀ y ∈ L, y.ok w) {n : Nat} (hn : L.length = n) (hm : n ≤ 9223372036854775807) : Lasts w (some ⟨g, 0, none⟩) n n L := by
  subst hn
  refine ⟨rfl, Nat.le_refl _, hm, fun e => (by cases e), .inr ⟨g, 0, rfl, h.lt, fun i y hy j v hv => ?_⟩, hok⟩
  have := h.cell _ _ (lcells_get L i y hy j v hv)
  simpa using this
/-- One of them is set. -/
theorem lcells_set : ∀ (L : List LV) (i : Nat) (y : LV), i < L.length → ((((lcells L).set (i * 4) (.int .i64 y.s)).set (i * 4 + 1) (.int .i64 y.x.e)).set (i * 4 + 2) (.int .i64 y.x.t)).set (i * 4 + 3) (.slice y.x.a y.x.n y.x.c) = lcells (L.set i y)
  | [], i, y, h => by simp at h
  | z :: L, 0, y, _ => by simp [lcells_cons, LV.cells]
  | z :: L, i + 1, y, h => by
    have ih := lcells_set L i y (by simpa using h)
    rw [List.set_cons_succ, lcells_cons, lcells_cons, ← ih]
    simp only [LV.cells, List.cons_append, List.nil_append, show (i + 1) * 4 = i * 4 + 1 + 1 + 1 + 1 by omega, show i * 4 + 1 + 1 + 1 + 1 + 1 = (i * 4 + 1) + 1 + 1 + 1 + 1 by omega, show i * 4 + 1 + 1 + 1 + 1 + 2 = (i * 4 + 2) + 1 + 1 + 1 + 1 by omega, show i * 4 + 1 + 1 + 1 + 1 + 3 = (i * 4 + 3) + 1 + 1 + 1 + 1 by omega, List.set_cons_succ]
/-- A row of new memory. -/
theorem Lasts.of_row {w : World} {g : Nat} {L : List LV} {t : TypeId} {fr : Nat × Nat} (hg : w.heap[g]? = some (.cells (lcells L).toArray t fr)) (hok : ∀ y ∈ L, y.ok w) {n : Nat} (hn : L.length = n) (hm : n ≤ 9223372036854775807) : Lasts w (some ⟨g, 0, none⟩) n n L := by
  subst hn
  refine ⟨rfl, Nat.le_refl _, hm, fun e => (by cases e), .inr ⟨g, 0, rfl, (Array.getElem?_eq_some_iff.1 hg).1, fun i y hy j v hv => ?_⟩, hok⟩
  rw [cell_of_row w g _ _ t fr hg, Nat.zero_add]
  simpa using lcells_get L i y hy j v hv
theorem Lasts.at {w : World} {a : Option Addr} {n c : Nat} {L : List LV} (h : Lasts w a n c L) {i : Nat} (hi : i < n) : ∃ b off y, a = some ⟨b, off, none⟩ ∧ L[i]? = some y ∧ y.ok w ∧ ∀ j v, y.cells[j]? = some v → w.cell? ⟨b, off + i * 4 + j, none⟩ = some v := by
  obtain ⟨y, hy⟩ : ∃ y, L[i]? = some y := ⟨L[i]'(by rw [h.len]; exact hi), by simp⟩
  rcases h.row with h0 | ⟨b, off, ha, hlt, hc⟩
  · omega
  · exact ⟨b, off, y, ha, hy, h.ok y (List.mem_of_getElem? hy), hc i y hy⟩

/-- A hall's value. -/
structure HV where
  d : DV
  a : Option Addr
  n : Nat
  c : Nat
  L : List LV
def HV.p (h : HV) : PH := ⟨h.d.p, h.L.map LV.p⟩
def HV.v (h : HV) : Value := .agg #[.slice h.d.za h.d.zn h.d.zc, .slice h.d.ka h.d.kn h.d.kc, .int .i64 h.d.b.h, .int .i64 h.d.b.t, .slice h.a h.n h.c]
def HV.cells (h : HV) : List Value := [.slice h.d.za h.d.zn h.d.zc, .slice h.d.ka h.d.kn h.d.kc, .int .i64 h.d.b.h, .int .i64 h.d.b.t, .slice h.a h.n h.c]
structure HV.ok (w : World) (h : HV) : Prop where
  d : h.d.ok w
  l : Lasts w h.a h.n h.c h.L
def HV.zero : HV := ⟨DV.zero, none, 0, 0, []⟩
theorem HV.zero_ok (w : World) : HV.zero.ok w := ⟨DV.zero_ok w, Lasts.nilSlice w⟩
theorem HV.ok.below {w w' : World} {h : HV} (k : h.ok w) {B : Nat} (hb : Below B w w') (hB : w.heap.size ≤ B) : h.ok w' := ⟨k.d.below hb hB, k.l.below hb hB⟩
/-- None of the hall's lists lies in block R. -/
structure HV.off (R : Nat) (h : HV) : Prop where
  d : h.d.off R
  l : OffL R h.a h.n h.L
/-- All of the hall's lists lie from B on. -/
def HV.new (B : Nat) (h : HV) : Prop := ∀ R, R < B → h.off R
theorem HV.ok.but {w w' : World} {g : Nat} {h : HV} (k : h.ok w) (hb : But g w w') (ho : h.off g) : h.ok w' := ⟨k.d.but hb ho.d, k.l.but hb ho.l⟩
theorem HV.ok.off {w : World} {h : HV} (k : h.ok w) {R : Nat} (hR : w.heap.size ≤ R) : h.off R := ⟨k.d.off hR, k.l.off hR⟩
theorem HV.new.mono {B B' : Nat} {h : HV} (k : h.new B) (hb : B' ≤ B) : h.new B' := fun R hR => k R (by omega)
theorem HV.zero_off (R : Nat) : HV.zero.off R := ⟨DV.zero_off R, .inl rfl, fun y hy => (by cases hy)⟩
theorem HV.zero_new (B : Nat) : HV.zero.new B := fun R _ => HV.zero_off R

end Go.Proofs.YtcmladgldjcdmaaDoor

/- How the arguments of the laws read: a hall; no condition. -/
namespace Go.Proofs.YtcmladgldjcdmaaDoor
open Go.ChangeShapes Go.WideShapes Go.ChangeAt Go.RowKit Go.Joins Go.ChangeMaps
set_option linter.unusedVariables false
set_option maxRecDepth 100000
set_option linter.unusedSimpArgs false

theorem cellsLast : Tryd.prog.cellsOf 47 = 4 := by kernel_rfl
theorem cellsHall : Tryd.prog.cellsOf 30 = 5 := by kernel_rfl

set_option maxRecDepth 100000 in
/-- The cells of an answer, read. -/
theorem answer_of {H : Type} {enc : TypeId × Value → H} {W : World} {fuel : Nat} {cs : List Value} {y : DataW H × List MemPlace}
    (h : DataW.trod enc Tryd.prog W 0 (fun _ => true) true fuel 38 cs = some y) : ∃ x : AV, cs = [.int .i64 x.e, .int .i64 x.t, .slice x.a x.n x.c] ∧ x.ok W := by
  obtain ⟨y0, y1, y2, n, _, hl, h0, h1, h2⟩ := Go.Deep.trod_struct3 Tryd.underlying38 h
  rw [cellsAnswer] at hl
  match cs, hl with
  | [v0, v1, v2], _ =>
    have k0 : DataW.trod enc Tryd.prog W 0 (fun _ => true) true n 36 [v0] = some y0 := h0
    have k1 : DataW.trod enc Tryd.prog W 0 (fun _ => true) true n 3 [v1] = some y1 := h1
    have k2 : DataW.trod enc Tryd.prog W 0 (fun _ => true) true n 23 [v2] = some y2 := h2
    obtain ⟨e, e0, _, _⟩ := DataW.trod_int Tryd.underlying36 k0
    obtain ⟨t, e1, _, _⟩ := DataW.trod_int Tryd.underlying3 k1
    simp at e0 e1
    subst e0 e1
    obtain ⟨a, n, c, l, rfl, hi⟩ := ints_of k2
    exact ⟨⟨e, t, a, n, c, l⟩, rfl, hi⟩

set_option maxRecDepth 100000 in
/-- The cells of what a hand was answered last, read. -/
theorem last_of {H : Type} {enc : TypeId × Value → H} {W : World} {fuel : Nat} {cs : List Value} {y : DataW H × List MemPlace}
    (h : DataW.trod enc Tryd.prog W 0 (fun _ => true) true fuel 47 cs = some y) : ∃ x : LV, cs = x.cells ∧ x.ok W := by
  obtain ⟨y0, y1, n, _, hl, h0, h1⟩ := trod_struct2 Tryd.underlying47 h
  rw [cellsLast] at hl
  match cs, hl with
  | [v0, v1, v2, v3], _ =>
    have k0 : DataW.trod enc Tryd.prog W 0 (fun _ => true) true n 3 [v0] = some y0 := h0
    have k1 : DataW.trod enc Tryd.prog W 0 (fun _ => true) true n 38 [v1, v2, v3] = some y1 := h1
    obtain ⟨s, e0, _, _⟩ := DataW.trod_int Tryd.underlying3 k0
    simp at e0
    subst e0
    obtain ⟨x, e, hx⟩ := answer_of k1
    exact ⟨⟨s, x⟩, by rw [e]; rfl, hx⟩

set_option maxRecDepth 100000 in
theorem lasts_of {H : Type} {enc : TypeId × Value → H} {W : World} {fuel : Nat} {v : Value} {y : DataW H × List MemPlace}
    (h : DataW.trod enc Tryd.prog W 0 (fun _ => true) true fuel 28 [v] = some y) : ∃ a n c X, v = .slice a n c ∧ Lasts W a n c X := by
  rcases Go.Deep.open_slice Tryd.underlying28 h with ⟨hcs, _⟩ | ⟨x, len, cap, m, n, D, Pl, hcs, _, hl, hm, hmm, _, hel⟩
  · simp at hcs
    subst hcs
    exact ⟨none, 0, 0, [], rfl, Lasts.nilSlice W⟩
  · simp at hcs
    subst hcs
    have hm' : m = cap := by simpa using hmm
    subst hm'
    have hz : ∀ i, i < len → ∃ z : LV, z.ok W ∧ ∀ j v, z.cells[j]? = some v → W.cell? ((x.add (i * 4)).add j) = some v := by
      intro i hi
      obtain ⟨cs', h1, h2⟩ := hel i (by omega)
      rw [cellsLast] at h1
      obtain ⟨z, rfl, hz⟩ := last_of h2
      obtain ⟨_, _, hc⟩ := World.cells?_some h1
      refine ⟨z, hz, fun j v hv => ?_⟩
      have hj : j < 4 := (List.getElem?_eq_some_iff.1 hv).1
      have := hc j hj
      rw [this]
      exact hv
    have dft : Inhabited LV := ⟨LV.zero⟩
    obtain ⟨f, hf⟩ := Go.Deep.choose_lt hz
    refine ⟨some x, len, m, (List.range len).map f, rfl, ⟨by simp, hl, hm, fun e => (by cases e), ?_, ?_⟩⟩
    · by_cases h0 : len = 0
      · exact .inl h0
      · obtain ⟨b, off, spot⟩ := x
        have hc0 := (hf 0 (by omega)).2 0 _ rfl
        have hspot : spot = none := by simpa [Addr.add] using World.cell?_spot hc0
        subst hspot
        refine .inr ⟨b, off, rfl, World.block_lt_of_cell? W ⟨b, off, none⟩ (by simpa [Addr.add] using hc0), fun i z hz j v hv => ?_⟩
        have hi : i < len := by have := (List.getElem?_eq_some_iff.1 hz).1; simpa using this
        rw [List.getElem?_map, List.getElem?_range hi] at hz
        simp at hz
        subst hz
        have h1 := (hf i hi).2 j v hv
        rw [addr_add, addr_add] at h1
        exact h1
    · intro z hz
      simp at hz
      obtain ⟨i, hi, rfl⟩ := hz
      exact (hf i hi).1

set_option maxRecDepth 100000 in
theorem hall_of {H : Type} {enc : TypeId × Value → H} {W : World} {fuel : Nat} {cs : List Value} {y : DataW H × List MemPlace}
    (h : DataW.trod enc Tryd.prog W 0 (fun _ => true) true fuel 30 cs = some y) : ∃ x : HV, cs = x.cells ∧ x.ok W := by
  obtain ⟨y0, y1, n, _, hl, h0, h1⟩ := trod_struct2 Tryd.underlying30 h
  rw [cellsHall] at hl
  match cs, hl with
  | [v0, v1, v2, v3, v4], _ =>
    have k0 : DataW.trod enc Tryd.prog W 0 (fun _ => true) true n 27 [v0, v1, v2, v3] = some y0 := h0
    have k1 : DataW.trod enc Tryd.prog W 0 (fun _ => true) true n 28 [v4] = some y1 := h1
    obtain ⟨d, e0, hd⟩ := desk_of k0
    obtain ⟨a, n, c, X, rfl, hx⟩ := lasts_of k1
    simp at e0
    obtain ⟨rfl, rfl, rfl, rfl⟩ := e0
    exact ⟨⟨d, a, n, c, X⟩, rfl, ⟨hd, hx⟩⟩

theorem hall_arg {H : Type} {enc : TypeId × Value → H} {W : World} {base : Nat} {v : Value} {d : DataW H} {p : List MemPlace} (hv : Value.okWide Tryd.prog W .any base 30 v)
    (h : DataW.Trod enc Tryd.prog W 0 (fun _ => true) true 30 v d p) : ∃ x : HV, v = x.v ∧ x.ok W := by
  obtain ⟨cs, rfl, hsz⟩ := okWide_struct Tryd.underlying30 hv
  obtain ⟨v0, v1, v2, v3, v4, rfl⟩ := array5 (hsz.trans cellsHall)
  obtain ⟨fuel, hf⟩ := h
  obtain ⟨x, e, hx⟩ := hall_of (by simpa [Value.cells] using hf)
  simp [HV.cells] at e
  obtain ⟨rfl, rfl, rfl, rfl, rfl⟩ := e
  exact ⟨x, rfl, hx⟩

end Go.Proofs.YtcmladgldjcdmaaDoor

/- Lists of records in memory: read, and of the call's own; plain mathematics, no condition. -/
namespace Go.Proofs.YtcmladgldjcdmaaDoor
open Go.RowKit
set_option linter.unusedVariables false
set_option maxRecDepth 100000
set_option linter.unusedSimpArgs false

/-- The cells of records. -/
def rcells (X : List RV) : List Value := X.flatMap RV.cells
theorem rcells_cons (x : RV) (X : List RV) : rcells (x :: X) = x.cells ++ rcells X := by simp [rcells]
theorem RV.cells_len (x : RV) : x.cells.length = 7 := rfl
theorem rcells_get : ∀ (X : List RV) (i : Nat) (x : RV), X[i]? = some x → ∀ j v, x.cells[j]? = some v → (rcells X)[i * 7 + j]? = some v
  | [], i, x, h, _, _, _ => by simp at h
  | y :: X, 0, x, h, j, v, hv => by
    have hj : j < 7 := (List.getElem?_eq_some_iff.1 hv).1
    simp at h
    subst h
    rw [rcells_cons, List.getElem?_append_left (by rw [RV.cells_len]; omega)]
    simpa using hv
  | y :: X, i + 1, x, h, j, v, hv => by
    rw [rcells_cons, List.getElem?_append_right (by rw [RV.cells_len]; omega), RV.cells_len, show (i + 1) * 7 + j - 7 = i * 7 + j by omega]
    exact rcells_get X i x (by simpa using h) j v hv
theorem RV.cells_one (x : RV) : ∀ v ∈ x.cells, v.oneCell' = true := by
  intro v hx
  simp only [RV.cells, List.mem_cons, List.not_mem_nil, or_false] at hx
  rcases hx with rfl | rfl | rfl | rfl | rfl | rfl | rfl <;> rfl
/-- A slice value's records. -/
structure Recs (w : World) (a : Option Addr) (n c : Nat) (X : List RV) : Prop where
  len : X.length = n
  le : n ≤ c
  max : c ≤ 9223372036854775807
  nil : a = none → c = 0
  row : n = 0 ∨ ∃ b off, a = some ⟨b, off, none⟩ ∧ b < w.heap.size ∧ ∀ i x, X[i]? = some x → ∀ j v, x.cells[j]? = some v → w.cell? ⟨b, off + i * 7 + j, none⟩ = some v
  ok : ∀ x ∈ X, x.ok w
theorem Recs.below {w w' : World} {a : Option Addr} {n c : Nat} {X : List RV} (h : Recs w a n c X) {B : Nat} (hb : Below B w w') (hB : w.heap.size ≤ B) : Recs w' a n c X := by
  refine ⟨h.len, h.le, h.max, h.nil, ?_, fun x hx => (h.ok x hx).below hb hB⟩
  rcases h.row with h0 | ⟨b, off, ha, hlt, hc⟩
  · exact .inl h0
  · refine .inr ⟨b, off, ha, Nat.lt_of_lt_of_le hlt hb.size, fun i x hx j v hv => ?_⟩
    rw [hb.cell (p := ⟨b, off + i * 7 + j, none⟩) (Nat.lt_of_lt_of_le hlt hB)]
    exact hc i x hx j v hv
theorem Recs.nilSlice (w : World) : Recs w none 0 0 [] := ⟨rfl, Nat.le_refl _, by omega, fun _ => rfl, .inl rfl, by simp⟩
theorem Recs.take {w : World} {a : Option Addr} {n c : Nat} {X : List RV} (h : Recs w a n c X) {k : Nat} (hk : k ≤ n) : Recs w a k c (X.take k) := by
  refine ⟨by rw [List.length_take, h.len]; omega, Nat.le_trans hk h.le, h.max, h.nil, ?_, fun x hx => h.ok x (List.mem_of_mem_take hx)⟩
  rcases h.row with h0 | ⟨b, off, ha, hlt, hc⟩
  · exact .inl (by omega)
  · refine .inr ⟨b, off, ha, hlt, fun i x hx => hc i x ?_⟩
    have hi := (List.getElem?_eq_some_iff.1 hx).1
    rw [List.length_take] at hi
    rwa [List.getElem?_take_of_lt (by omega)] at hx
/-- The list and the records' data lie in memory from B on. -/
structure FreshR (B : Nat) (a : Option Addr) (X : List RV) : Prop where
  a : ∀ y, a = some y → B ≤ y.block
  d : ∀ x ∈ X, ∀ y, x.a = some y → B ≤ y.block
theorem FreshR.mono {B B' : Nat} {a : Option Addr} {X : List RV} (h : FreshR B a X) (hB : B' ≤ B) : FreshR B' a X := ⟨fun y e => Nat.le_trans hB (h.a y e), fun x hx y e => Nat.le_trans hB (h.d x hx y e)⟩
theorem FreshR.nil (B : Nat) : FreshR B none [] := ⟨fun y e => (by cases e), fun x hx => (by cases hx)⟩
theorem Recs.but {w w' : World} {g : Nat} {a : Option Addr} {n c : Nat} {X : List RV} (h : Recs w a n c X) (hb : But g w w') {B : Nat} (hn : FreshR B a X) (hg : g < B) : Recs w' a n c X := by
  refine ⟨h.len, h.le, h.max, h.nil, ?_, fun x hx => (h.ok x hx).but hb (.inr fun y e => by have := hn.d x hx y e; omega)⟩
  rcases h.row with h0 | ⟨b, off, ha, hlt, hc⟩
  · exact .inl h0
  · refine .inr ⟨b, off, ha, Nat.lt_of_lt_of_le hlt hb.size, fun i x hx j v hv => ?_⟩
    have := hn.a _ ha
    simp at this
    rw [hb.cell ⟨b, off + i * 7 + j, none⟩ hlt (by simp; omega)]
    exact hc i x hx j v hv

/-- An owned list of records. -/
structure OwnR (w : World) (base : Nat) (v : Value) (X : List RV) : Prop where
  own : w.ownsRow base 34 7 v X.length (rcells X)
  ok : ∀ x ∈ X, x.ok w
  off : ∀ x ∈ X, ∀ g, v.ownBlock = some g → x.off g
theorem OwnR.nil (w : World) (base : Nat) : OwnR w base (.slice none 0 0) [] := ⟨World.ownsRow_nil w base _ 7, by simp, by simp⟩
/-- The records' data lie in memory from B on. -/
def FromD (B : Nat) (X : List RV) : Prop := ∀ x ∈ X, ∀ y, x.a = some y → B ≤ y.block
theorem FromD.nil (B : Nat) : FromD B [] := fun x hx => by cases hx
theorem FromD.mono {B B' : Nat} {X : List RV} (h : FromD B X) (hB : B' ≤ B) : FromD B' X := fun x hx y e => Nat.le_trans hB (h x hx y e)
theorem grown_below {w w' : World} (hb : Below w.heap.size w w') : w.grownBy w' none := ⟨hb.os, hb.tape, hb.output, hb.size, fun k hk _ => hb.block k hk⟩
theorem OwnR.below {w w' : World} {base : Nat} {v : Value} {X : List RV} (h : OwnR w base v X) (hb : Below w.heap.size w w') : OwnR w' base v X :=
  ⟨h.own.kept (grown_below hb) (by cases v.ownBlock <;> simp), fun x hx => (h.ok x hx).below hb (Nat.le_refl _), h.off⟩
theorem OwnR.mono {w : World} {base base' : Nat} {v : Value} {X : List RV} (h : OwnR w base v X) (hb : base' ≤ base) : OwnR w base' v X := by
  refine ⟨⟨h.own.1, ?_⟩, h.ok, h.off⟩
  rcases h.own.2 with h | ⟨g, cap, cur, e, hg, r⟩
  · exact .inl h
  · exact .inr ⟨g, cap, cur, e, Nat.le_trans hb hg, r⟩
/-- A record that is newer than the list lies elsewhere. -/
theorem OwnR.apart {w : World} {base : Nat} {v : Value} {X : List RV} (h : OwnR w base v X) {x : RV} {B : Nat} (hB : w.heap.size ≤ B) (hn : ∀ y, x.a = some y → B ≤ y.block) : ∀ g, v.ownBlock = some g → x.off g := by
  intro g e
  have := (h.own.lt g e).2
  exact .inr fun y hy => by have := hn y hy; omega

end Go.Proofs.YtcmladgldjcdmaaDoor

/- How the arguments of the laws read: a list of records; no condition. -/
namespace Go.Proofs.YtcmladgldjcdmaaDoor
open Go.ChangeShapes Go.WideShapes Go.ChangeAt Go.RowKit Go.Joins Go.ChangeMaps
set_option linter.unusedVariables false
set_option maxRecDepth 100000
set_option linter.unusedSimpArgs false

set_option maxRecDepth 100000 in
theorem recs_of {H : Type} {enc : TypeId × Value → H} {W : World} {fuel : Nat} {v : Value} {y : DataW H × List MemPlace}
    (h : DataW.trod enc Tryd.prog W 0 (fun _ => true) true fuel 35 [v] = some y) : ∃ a n c X, v = .slice a n c ∧ Recs W a n c X := by
  rcases Go.Deep.open_slice Tryd.underlying35 h with ⟨hcs, _⟩ | ⟨x, len, cap, m, n, D, Pl, hcs, _, hl, hm, hmm, _, hel⟩
  · simp at hcs
    subst hcs
    exact ⟨none, 0, 0, [], rfl, Recs.nilSlice W⟩
  · simp at hcs
    subst hcs
    have hm' : m = cap := by simpa using hmm
    subst hm'
    have hz : ∀ i, i < len → ∃ z : RV, z.ok W ∧ ∀ j v, z.cells[j]? = some v → W.cell? ((x.add (i * 7)).add j) = some v := by
      intro i hi
      obtain ⟨cs', h1, h2⟩ := hel i (by omega)
      rw [cellsRec] at h1
      obtain ⟨z, rfl, hz⟩ := rec_of h2
      obtain ⟨_, _, hc⟩ := World.cells?_some h1
      refine ⟨z, hz, fun j v hv => ?_⟩
      have hj : j < 7 := (List.getElem?_eq_some_iff.1 hv).1
      have := hc j hj
      rw [this]
      exact hv
    have dft : Inhabited RV := ⟨RV.zero⟩
    obtain ⟨f, hf⟩ := Go.Deep.choose_lt hz
    refine ⟨some x, len, m, (List.range len).map f, rfl, ⟨by simp, hl, hm, fun e => (by cases e), ?_, ?_⟩⟩
    · by_cases h0 : len = 0
      · exact .inl h0
      · obtain ⟨b, off, spot⟩ := x
        have hc0 := (hf 0 (by omega)).2 0 _ rfl
        have hspot : spot = none := by simpa [Addr.add] using World.cell?_spot hc0
        subst hspot
        refine .inr ⟨b, off, rfl, World.block_lt_of_cell? W ⟨b, off, none⟩ (by simpa [Addr.add] using hc0), fun i z hz j v hv => ?_⟩
        have hi : i < len := by have := (List.getElem?_eq_some_iff.1 hz).1; simpa using this
        rw [List.getElem?_map, List.getElem?_range hi] at hz
        simp at hz
        subst hz
        have h1 := (hf i hi).2 j v hv
        rw [addr_add, addr_add] at h1
        exact h1
    · intro z hz
      simp at hz
      obtain ⟨i, hi, rfl⟩ := hz
      exact (hf i hi).1

theorem recs_arg {H : Type} {enc : TypeId × Value → H} {W : World} {base : Nat} {v : Value} {d : DataW H} {p : List MemPlace} (hv : Value.okWide Tryd.prog W .any base 35 v)
    (h : DataW.Trod enc Tryd.prog W 0 (fun _ => true) true 35 v d p) : ∃ a n c X, v = .slice a n c ∧ Recs W a n c X := by
  obtain ⟨a, n, c, rfl⟩ := okWide_slice Tryd.underlying35 hv
  obtain ⟨fuel, hf⟩ := h
  exact recs_of (by simpa [Value.cells] using hf)

end Go.Proofs.YtcmladgldjcdmaaDoor

/- What a row's list gives of the table of kinds; no condition. -/
namespace Go.Proofs.YtcmladgldjcdmaaDoor
open Go.RowKit
set_option linter.unusedVariables false
set_option maxRecDepth 100000
set_option linter.unusedSimpArgs false

theorem laid_at {P : Program} {w : World} : ∀ {laid : List (String × DataW Unit)} {ps : List MemPlace}, DataW.LaidVars P w laid ps → ∀ {n : String} {d : DataW Unit}, (n, d) ∈ laid →
    ∃ g t cs fuel p, P.globalNamed n = some g ∧ (P.globals[g]?).map (·.type) = some t ∧ w.var? P n = some cs ∧ DataW.trod (fun _ => ()) P w 0 (fun _ => true) false fuel t cs.toList = some (d, p)
  | [], _, _, _, _, h => by cases h
  | (n, d) :: r, ps, hl, n', d', h => by
    obtain ⟨g, t, cs, fuel, p, q, h1, h2, h3, h4, h5, _⟩ := hl
    rcases List.mem_cons.1 h with e | h
    · cases e
      exact ⟨g, t, cs, fuel, p, h1, h2, h3, h4⟩
    · exact laid_at h5 h

theorem gShapes : Tryd.prog.globalNamed "quayhand/cmd.shapes" = some 0 := by kernel_rfl
theorem tShapes : (Tryd.prog.globals[0]?).map (·.type) = some 99 := by kernel_rfl

set_option maxRecDepth 100000 in
theorem shapes_cells : (Rows.laid_quayhand_cmd_shapes : DataW Unit).flat.map Lit.toCell = ((List.range 13).flatMap fun k => [.string (word k), .bool (hasZ k), .bool (hasA k), .bool (hasN k), .bool (hasD k)]) := by rfl

theorem flat_get (f : Nat → List Value) (h5 : ∀ k, (f k).length = 5) : ∀ (n k j : Nat), k < n → j < 5 → ((List.range n).flatMap f)[k * 5 + j]? = (f k)[j]?
  | 0, k, j, hk, _ => by omega
  | n + 1, k, j, hk, hj => by
    have hlen : ∀ m, ((List.range m).flatMap f).length = m * 5 := by
      intro m
      induction m with
      | zero => rfl
      | succ m ih => rw [List.range_succ, List.flatMap_append, List.length_append, ih]; simp [h5]; omega
    rw [List.range_succ, List.flatMap_append]
    by_cases hkn : k < n
    · rw [List.getElem?_append_left (by rw [hlen]; omega)]
      exact flat_get f h5 n k j hkn hj
    · obtain rfl : k = n := by omega
      rw [List.getElem?_append_right (by rw [hlen]; omega), hlen]
      simp

set_option maxRecDepth 100000 in
theorem shapes_of {W : World} {laid : List (String × DataW Unit)} (hL : laidMet Tryd.prog laid W) (m4 : ("quayhand/cmd.shapes", Rows.laid_quayhand_cmd_shapes) ∈ laid) : Shapes W := by
  obtain ⟨ps, hv, _, _⟩ := hL
  obtain ⟨g, t, cs, fuel, p, h1, h2, h3, h4⟩ := laid_at hv m4
  obtain rfl := Option.some.inj (gShapes.symm.trans h1)
  obtain rfl := Option.some.inj (tShapes.symm.trans h2)
  have h5 := (keyLits_of_trod 5 99 (by kernel_rfl) _ _ _ h4).1
  have h6 := cells_of_lits 5 99 (by kernel_rfl) _ _ _ h5
  rw [shapes_cells] at h6
  have hc : ∀ k j, k ≤ 12 → j < 5 → W.cell? ⟨0, k * 5 + j, none⟩ = ([.string (word k), .bool (hasZ k), .bool (hasA k), .bool (hasN k), .bool (hasD k)] : List Value)[j]? := by
    intro k j hk hj
    rw [World.var?_cell gShapes h3, ← Array.getElem?_toList, h6]
    exact flat_get _ (fun k => rfl) 13 k j (by omega) hj
  exact ⟨fun k hk => hc k 0 hk (by omega), fun k hk => hc k 1 hk (by omega), fun k hk => hc k 2 hk (by omega), fun k hk => hc k 3 hk (by omega), fun k hk => hc k 4 hk (by omega)⟩

end Go.Proofs.YtcmladgldjcdmaaDoor

/- The contract of plain.list over ints: a copy in new memory; no condition but that the list reads, and is no greater than a machine bears. -/
namespace Go.Proofs.YtcmladgldjcdmaaDoor
open Go.RowKit
set_option linter.unusedVariables false
set_option maxRecDepth 100000
set_option linter.unusedSimpArgs false

theorem Lay.of_row {w : World} {q : Nat} {L : List Value} {t : TypeId} (h : w.heap[q]? = some (.cells L.toArray t (0, 0))) : Lay w q L :=
  ⟨fun i v hv => by rw [cell_of_row w q _ _ t _ h]; simpa using hv, fun j => by simp [World.frozen?, h], (Array.getElem?_eq_some_iff.1 h).1⟩
set_option maxHeartbeats 1000000 in
theorem plistL_c (a : Option Addr) (n c : Nat) (l : List Int) (w : World) (h : Ints w a n c l) (hn : n ≤ 100000) :
    Calls Tryd.prog 31 #[.slice a n c] w fun e w' => (∃ q, e = .returned (.slice (some ⟨q, 0, none⟩) n n) ∧ Ints w' (some ⟨q, 0, none⟩) n n l ∧ w.heap.size ≤ q ∧ Lay w' q (cellsOf l)) ∧ Below w.heap.size w w' := by
  have n2 : (n : Int) ≤ 100000 := by omega
  have hmk := run_make_row' (P := Tryd.prog) 23 3 (.int .i64 0) 8 Tryd.underlying23 infoInt rfl .i64 .i64 n (by omega) (by omega)
  go_enter Tryd.func31, Tryd.ntmps31
  go_wp2_with fail
  obtain ⟨w2, r2, g2, b2⟩ := copy_run (P := Tryd.prog) (w.alloc (.cells (madeCells #[.int .i64 0] n) 3)) 23 23 3 3 Tryd.underlying23 sizeInt (some ⟨w.heap.size, 0, none⟩) a n n n c w.heap.size 0
    (madeCells #[.int .i64 0] n).toList 3 (heap_new _ _) (cellsOf l) (by rw [cellsOf_len, h.len]; exact (Nat.min_self n).symm) (fun hp => ⟨rfl, (h.below (B := w.heap.size) (by (repeat first | exact bel0 | assumption | refine bel1 ?_ | refine bel2 ?_ | refine bel3 ?_ | refine belowT ?_ (by assumption) | refine bel5 ?_ (by simp; try omega))) (Nat.le_refl _)).src (by rw [cellsOf_len, h.len] at hp; exact hp)⟩) (by simp [size_madeCells, cellsOf_len, h.len]) (cellsOf_one l)
  rw [r2]
  have G2 := hide g2
  clear g2 r2
  go_wp2
  go_ret
  have g2 := G2.out
  rw [splice_one _ _ (by simp [size_madeCells, cellsOf_len, h.len])] at g2
  exact ⟨⟨_, rfl, Ints.of_row g2 (by rw [h.len]; omega) h.wf h.len, Nat.le_refl _, Lay.of_row g2⟩, (belowA (Below.refl _ _) _).trans b2⟩
theorem plist_c (a : Option Addr) (n c : Nat) (l : List Int) (w : World) (h : Ints w a n c l) (hn : n ≤ 100000) :
    Calls Tryd.prog 31 #[.slice a n c] w fun e w' => (∃ q, e = .returned (.slice (some ⟨q, 0, none⟩) n n) ∧ Ints w' (some ⟨q, 0, none⟩) n n l ∧ w.heap.size ≤ q ∧ q < w'.heap.size) ∧ Below w.heap.size w w' :=
  (plistL_c a n c l w h hn).mono fun e w' ⟨⟨q, h1, h2, h3, h4⟩, h5⟩ => ⟨⟨q, h1, h2, h3, h4.lt⟩, h5⟩

end Go.Proofs.YtcmladgldjcdmaaDoor

/- Two boxes, newly made; plain mathematics, no condition. -/
namespace Go.Proofs.YtcmladgldjcdmaaDoor
open Go.RowKit
set_option linter.unusedVariables false
set_option maxRecDepth 100000
set_option linter.unusedSimpArgs false

/-- A desk's box and an answer's, newly made. -/
theorem two_boxes (w : World) (D A : List Value) (s t : TypeId) : Lay ((w.alloc (.cells D.toArray s)).alloc (.cells A.toArray t)) w.heap.size D ∧ Lay ((w.alloc (.cells D.toArray s)).alloc (.cells A.toArray t)) (w.heap.size + 1) A ∧ Below w.heap.size w ((w.alloc (.cells D.toArray s)).alloc (.cells A.toArray t)) :=
  ⟨(Lay.made w D s).below (belowA (Below.refl _ _) _), Lay.made1 w _ A t, by (repeat first | exact bel0 | assumption | refine bel1 ?_ | refine bel2 ?_ | refine bel3 ?_ | refine belowT ?_ (by assumption) | refine bel5 ?_ (by simp; try omega))⟩

end Go.Proofs.YtcmladgldjcdmaaDoor

/- Three boxes, newly made; plain mathematics, no condition. -/
namespace Go.Proofs.YtcmladgldjcdmaaDoor
open Go.RowKit
set_option linter.unusedVariables false
set_option maxRecDepth 100000
set_option linter.unusedSimpArgs false

theorem three_boxes (w : World) (H R G : List Value) (s t u : TypeId) :
    Lay (((w.alloc (.cells H.toArray s)).alloc (.cells R.toArray t)).alloc (.cells G.toArray u)) w.heap.size H ∧ Lay (((w.alloc (.cells H.toArray s)).alloc (.cells R.toArray t)).alloc (.cells G.toArray u)) (w.heap.size + 1) R ∧ Lay (((w.alloc (.cells H.toArray s)).alloc (.cells R.toArray t)).alloc (.cells G.toArray u)) (w.heap.size + 1 + 1) G ∧ Below w.heap.size w (((w.alloc (.cells H.toArray s)).alloc (.cells R.toArray t)).alloc (.cells G.toArray u)) := by
  have h0 := (Lay.made w H s).below (belowA (belowA (Below.refl _ _) (.cells R.toArray t)) (.cells G.toArray u))
  have h1 := (Lay.made1 w (.cells H.toArray s) R t).below (belowA (Below.refl _ _) (.cells G.toArray u))
  have h2 := Lay.made1 (w.alloc (.cells H.toArray s)) (.cells R.toArray t) G u
  simp only [World.size_alloc] at h2
  exact ⟨h0, h1, h2, by (repeat first | exact bel0 | assumption | refine bel1 ?_ | refine bel2 ?_ | refine bel3 ?_ | refine belowT ?_ (by assumption) | refine bel5 ?_ (by simp; try omega))⟩

end Go.Proofs.YtcmladgldjcdmaaDoor
