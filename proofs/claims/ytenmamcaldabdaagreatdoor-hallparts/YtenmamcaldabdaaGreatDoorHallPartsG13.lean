/- What stays as it was where cells of one block change; a struct's box, cell by cell; plain mathematics, no condition. -/
import Derived.Test.YtenmamcaldabdaaGreatDoorHallPartsG11
import Derived.Test.YtenmamcaldabdaaGreatDoorHallPartsG12
import Derived.Test.YtenmamcaldabdaaGreatDoorHallPartsG3
import Derived.Test.YtenmamcaldabdaaGreatDoorHallPartsG10
namespace Go.Proofs.YtenmamcaldabdaaGreatDoor
open Go.RowKit
set_option linter.unusedVariables false
set_option maxRecDepth 100000
set_option linter.unusedSimpArgs false

theorem Zones.but {w w' : World} {g : Nat} {a : Option Addr} {n c : Nat} {Z : List ZV} (h : Zones w a n c Z) (hb : But g w w') (hne : n = 0 ∨ ∀ x, a = some x → x.block ≠ g) (hl : ∀ z ∈ Z, z.off g) : Zones w' a n c Z := by
  refine ⟨h.len, h.le, h.max, h.nil, ?_, fun z hz => Ints.but (h.ok z hz) hb (hl z hz)⟩
  rcases hne with h0 | hne
  · exact .inl h0
  · rcases h.row with h0 | ⟨b, off, ha, hlt, hc⟩
    · exact .inl h0
    · have hg : b ≠ g := hne _ ha
      refine .inr ⟨b, off, ha, Nat.lt_of_lt_of_le hlt hb.size, fun i z hz => ?_⟩
      obtain ⟨h1, h2⟩ := hc i z hz
      exact ⟨keepb hb h1 hg, keepb hb h2 hg⟩

/-- None of the desk's lists lies in block R. -/
structure DV.off (R : Nat) (d : DV) : Prop where
  z : d.zn = 0 ∨ ∀ x, d.za = some x → x.block ≠ R
  l : ∀ z ∈ d.Z, z.off R
  k : d.kn = 0 ∨ ∀ x, d.ka = some x → x.block ≠ R
/-- All of the desk's lists lie from B on. -/
def DV.new (B : Nat) (d : DV) : Prop := ∀ R, R < B → d.off R
theorem DV.ok.but {w w' : World} {g : Nat} {d : DV} (h : d.ok w) (hb : But g w w') (ho : d.off g) : d.ok w' := ⟨h.z.but hb ho.z ho.l, h.k.but hb ho.k⟩
theorem DV.ok.off {w : World} {d : DV} (h : d.ok w) {R : Nat} (hR : w.heap.size ≤ R) : d.off R := by
  refine ⟨?_, fun z hz => Ints.offs (h.z.ok z hz) hR, h.k.offs hR⟩
  rcases h.z.row with h0 | ⟨b, off, ha, hlt, _⟩
  · exact .inl h0
  · exact .inr fun x e => by rw [ha] at e; cases e; simp; omega
theorem DV.new.mono {B B' : Nat} {d : DV} (h : d.new B) (hb : B' ≤ B) : d.new B' := fun R hR => h R (by omega)
theorem DV.zero_new (B : Nat) : DV.zero.new B := fun R _ => ⟨.inl rfl, fun z hz => (by cases hz), .inl rfl⟩
theorem DV.zero_off (R : Nat) : DV.zero.off R := ⟨.inl rfl, fun z hz => (by cases hz), .inl rfl⟩

def AV.off (R : Nat) (x : AV) : Prop := x.n = 0 ∨ ∀ y, x.a = some y → y.block ≠ R
def AV.new (B : Nat) (x : AV) : Prop := ∀ R, R < B → x.off R
theorem AV.ok.but {w w' : World} {g : Nat} {x : AV} (h : x.ok w) (hb : But g w w') (ho : x.off g) : x.ok w' := Ints.but h hb ho
theorem AV.ok.off {w : World} {x : AV} (h : x.ok w) {R : Nat} (hR : w.heap.size ≤ R) : x.off R := Ints.offs h hR
theorem AV.new.mono {B B' : Nat} {x : AV} (h : x.new B) (hb : B' ≤ B) : x.new B' := fun R hR => h R (by omega)
theorem AV.err_new (B : Nat) (e : Int) : (AV.err e).new B := fun R _ => .inl rfl

def DV.cells (d : DV) : List Value := [.slice d.za d.zn d.zc, .slice d.ka d.kn d.kc, .int .i64 d.b.h, .int .i64 d.b.t]

end Go.Proofs.YtenmamcaldabdaaGreatDoor

/- Halls in memory: what each hand was answered last, as a list; plain mathematics, no condition. -/
namespace Go.Proofs.YtenmamcaldabdaaGreatDoor
open Go.RowKit
set_option linter.unusedVariables false
set_option maxRecDepth 100000
set_option linter.unusedSimpArgs false

/-- The value of what a hand was answered last. -/
structure LV where
  s : Int
  x : AV
def LV.p (y : LV) : PL := ⟨y.s, y.x.p⟩
def LV.v (y : LV) : Value := .agg #[.int .i64 y.s, .int .i64 y.x.e, .int .i64 y.x.t, .slice y.x.a y.x.n y.x.c]
def LV.cells (y : LV) : List Value := [.int .i64 y.s, .int .i64 y.x.e, .int .i64 y.x.t, .slice y.x.a y.x.n y.x.c]
def LV.ok (w : World) (y : LV) : Prop := y.x.ok w
def LV.off (g : Nat) (y : LV) : Prop := y.x.n = 0 ∨ ∀ z, y.x.a = some z → z.block ≠ g
def LV.zero : LV := ⟨0, AV.err 0⟩
theorem LV.zero_ok (w : World) : LV.zero.ok w := AV.err_ok w 0
theorem LV.ok.below {w w' : World} {y : LV} (h : y.ok w) {B : Nat} (hb : Below B w w') (hB : w.heap.size ≤ B) : y.ok w' := Ints.below h hb hB
theorem LV.ok.but {w w' : World} {g : Nat} {y : LV} (h : y.ok w) (hb : But g w w') (ho : y.off g) : y.ok w' := Ints.but h hb ho
theorem LV.ok.off {w : World} {y : LV} (h : y.ok w) {R : Nat} (hR : w.heap.size ≤ R) : y.off R := Ints.offs h hR
theorem LV.cells_len (y : LV) : y.cells.length = 4 := rfl
theorem LV.cells_one (y : LV) : ∀ v ∈ y.cells, v.oneCell' = true := by
  intro v hx
  simp only [LV.cells, List.mem_cons, List.not_mem_nil, or_false] at hx
  rcases hx with rfl | rfl | rfl | rfl <;> rfl

def lcells (L : List LV) : List Value := L.flatMap LV.cells
theorem lcells_cons (y : LV) (L : List LV) : lcells (y :: L) = y.cells ++ lcells L := by simp [lcells]
theorem lcells_get : ∀ (L : List LV) (i : Nat) (y : LV), L[i]? = some y → ∀ j v, y.cells[j]? = some v → (lcells L)[i * 4 + j]? = some v
  | [], i, y, h, _, _, _ => by simp at h
  | z :: L, 0, y, h, j, v, hv => by
    have hj : j < 4 := (List.getElem?_eq_some_iff.1 hv).1
    simp at h
    subst h
    rw [lcells_cons, List.getElem?_append_left (by rw [LV.cells_len]; omega)]
    simpa using hv
  | z :: L, i + 1, y, h, j, v, hv => by
    rw [lcells_cons, List.getElem?_append_right (by rw [LV.cells_len]; omega), LV.cells_len, show (i + 1) * 4 + j - 4 = i * 4 + j by omega]
    exact lcells_get L i y (by simpa using h) j v hv
/-- A slice value's list of them. -/
structure Lasts (w : World) (a : Option Addr) (n c : Nat) (L : List LV) : Prop where
  len : L.length = n
  le : n ≤ c
  max : c ≤ 9223372036854775807
  nil : a = none → c = 0
  row : n = 0 ∨ ∃ b off, a = some ⟨b, off, none⟩ ∧ b < w.heap.size ∧ ∀ i y, L[i]? = some y → ∀ j v, y.cells[j]? = some v → w.cell? ⟨b, off + i * 4 + j, none⟩ = some v
  ok : ∀ y ∈ L, y.ok w
theorem Lasts.below {w w' : World} {a : Option Addr} {n c : Nat} {L : List LV} (h : Lasts w a n c L) {B : Nat} (hb : Below B w w') (hB : w.heap.size ≤ B) : Lasts w' a n c L := by
  refine ⟨h.len, h.le, h.max, h.nil, ?_, fun y hy => LV.ok.below (h.ok y hy) hb hB⟩
  rcases h.row with h0 | ⟨b, off, ha, hlt, hc⟩
  · exact .inl h0
  · refine .inr ⟨b, off, ha, Nat.lt_of_lt_of_le hlt hb.size, fun i y hy j v hv => ?_⟩
    rw [hb.cell (p := ⟨b, off + i * 4 + j, none⟩) (Nat.lt_of_lt_of_le hlt hB)]
    exact hc i y hy j v hv
theorem Lasts.nilSlice (w : World) : Lasts w none 0 0 [] := ⟨rfl, Nat.le_refl _, by omega, fun _ => rfl, .inl rfl, by simp⟩
/-- Neither the list nor the answers' data lie in block g. -/
structure OffL (g : Nat) (a : Option Addr) (n : Nat) (L : List LV) : Prop where
  a : n = 0 ∨ ∀ y, a = some y → y.block ≠ g
  d : ∀ y ∈ L, y.off g
theorem Lasts.but {w w' : World} {g : Nat} {a : Option Addr} {n c : Nat} {L : List LV} (h : Lasts w a n c L) (hb : But g w w') (hn : OffL g a n L) : Lasts w' a n c L := by
  refine ⟨h.len, h.le, h.max, h.nil, ?_, fun y hy => LV.ok.but (h.ok y hy) hb (hn.d y hy)⟩
  rcases hn.a with h0 | hne
  · exact .inl h0
  · rcases h.row with h0 | ⟨b, off, ha, hlt, hc⟩
    · exact .inl h0
    · refine .inr ⟨b, off, ha, Nat.lt_of_lt_of_le hlt hb.size, fun i y hy j v hv => ?_⟩
      have := hne _ ha
      rw [hb.cell ⟨b, off + i * 4 + j, none⟩ hlt this]
      exact hc i y hy j v hv
theorem Lasts.off {w : World} {a : Option Addr} {n c : Nat} {L : List LV} (h : Lasts w a n c L) {R : Nat} (hR : w.heap.size ≤ R) : OffL R a n L := by
  refine ⟨?_, fun y hy => LV.ok.off (h.ok y hy) hR⟩
  rcases h.row with h0 | ⟨b, off, ha, hlt, _⟩
  · exact .inl h0
  · exact .inr fun x e => by rw [ha] at e; cases e; simp; omega
/-- A block of the call's own that holds them. -/
theorem Lasts.of_lay {w : World} {g : Nat} {L : List LV} (h : Lay w g (lcells L)) (hok : ∀ y ∈ L, y.ok w) {n : Nat} (hn : L.length = n) (hm : n ≤ 9223372036854775807) : Lasts w (some ⟨g, 0, none⟩) n n L := by
  subst hn
  refine ⟨rfl, Nat.le_refl _, hm, fun e => (by cases e), .inr ⟨g, 0, rfl, h.lt, fun i y hy j v hv => ?_⟩, hok⟩
  have := h.cell _ _ (lcells_get L i y hy j v hv)
  simpa using this
/-- One of them is set. -/
theorem lcells_set : ∀ (L : List LV) (i : Nat) (y : LV), i < L.length → ((((lcells L).set (i * 4) (.int .i64 y.s)).set (i * 4 + 1) (.int .i64 y.x.e)).set (i * 4 + 2) (.int .i64 y.x.t)).set (i * 4 + 3) (.slice y.x.a y.x.n y.x.c) = lcells (L.set i y)
  | [], i, y, h => by simp at h
  | z :: L, 0, y, _ => by simp [lcells_cons, LV.cells]
  | z :: L, i + 1, y, h => by
    have ih := lcells_set L i y (by simpa using h)
    rw [List.set_cons_succ, lcells_cons, lcells_cons, ← ih]
    simp only [LV.cells, List.cons_append, List.nil_append, show (i + 1) * 4 = i * 4 + 1 + 1 + 1 + 1 by omega, show i * 4 + 1 + 1 + 1 + 1 + 1 = (i * 4 + 1) + 1 + 1 + 1 + 1 by omega, show i * 4 + 1 + 1 + 1 + 1 + 2 = (i * 4 + 2) + 1 + 1 + 1 + 1 by omega, show i * 4 + 1 + 1 + 1 + 1 + 3 = (i * 4 + 3) + 1 + 1 + 1 + 1 by omega, List.set_cons_succ]
/-- A row of new memory. -/
theorem Lasts.of_row {w : World} {g : Nat} {L : List LV} {t : TypeId} {fr : Nat × Nat} (hg : w.heap[g]? = some (.cells (lcells L).toArray t fr)) (hok : ∀ y ∈ L, y.ok w) {n : Nat} (hn : L.length = n) (hm : n ≤ 9223372036854775807) : Lasts w (some ⟨g, 0, none⟩) n n L := by
  subst hn
  refine ⟨rfl, Nat.le_refl _, hm, fun e => (by cases e), .inr ⟨g, 0, rfl, (Array.getElem?_eq_some_iff.1 hg).1, fun i y hy j v hv => ?_⟩, hok⟩
  rw [cell_of_row w g _ _ t fr hg, Nat.zero_add]
  simpa using lcells_get L i y hy j v hv
theorem Lasts.at {w : World} {a : Option Addr} {n c : Nat} {L : List LV} (h : Lasts w a n c L) {i : Nat} (hi : i < n) : ∃ b off y, a = some ⟨b, off, none⟩ ∧ L[i]? = some y ∧ y.ok w ∧ ∀ j v, y.cells[j]? = some v → w.cell? ⟨b, off + i * 4 + j, none⟩ = some v := by
  obtain ⟨y, hy⟩ : ∃ y, L[i]? = some y := ⟨L[i]'(by rw [h.len]; exact hi), by simp⟩
  rcases h.row with h0 | ⟨b, off, ha, hlt, hc⟩
  · omega
  · exact ⟨b, off, y, ha, hy, h.ok y (List.mem_of_getElem? hy), hc i y hy⟩

/-- A hall's value. -/
structure HV where
  d : DV
  a : Option Addr
  n : Nat
  c : Nat
  L : List LV
def HV.p (h : HV) : PH := ⟨h.d.p, h.L.map LV.p⟩
def HV.v (h : HV) : Value := .agg #[.slice h.d.za h.d.zn h.d.zc, .slice h.d.ka h.d.kn h.d.kc, .int .i64 h.d.b.h, .int .i64 h.d.b.t, .slice h.a h.n h.c]
def HV.cells (h : HV) : List Value := [.slice h.d.za h.d.zn h.d.zc, .slice h.d.ka h.d.kn h.d.kc, .int .i64 h.d.b.h, .int .i64 h.d.b.t, .slice h.a h.n h.c]
structure HV.ok (w : World) (h : HV) : Prop where
  d : h.d.ok w
  l : Lasts w h.a h.n h.c h.L
def HV.zero : HV := ⟨DV.zero, none, 0, 0, []⟩
theorem HV.zero_ok (w : World) : HV.zero.ok w := ⟨DV.zero_ok w, Lasts.nilSlice w⟩
theorem HV.ok.below {w w' : World} {h : HV} (k : h.ok w) {B : Nat} (hb : Below B w w') (hB : w.heap.size ≤ B) : h.ok w' := ⟨k.d.below hb hB, k.l.below hb hB⟩
/-- None of the hall's lists lies in block R. -/
structure HV.off (R : Nat) (h : HV) : Prop where
  d : h.d.off R
  l : OffL R h.a h.n h.L
/-- All of the hall's lists lie from B on. -/
def HV.new (B : Nat) (h : HV) : Prop := ∀ R, R < B → h.off R
theorem HV.ok.but {w w' : World} {g : Nat} {h : HV} (k : h.ok w) (hb : But g w w') (ho : h.off g) : h.ok w' := ⟨k.d.but hb ho.d, k.l.but hb ho.l⟩
theorem HV.ok.off {w : World} {h : HV} (k : h.ok w) {R : Nat} (hR : w.heap.size ≤ R) : h.off R := ⟨k.d.off hR, k.l.off hR⟩
theorem HV.new.mono {B B' : Nat} {h : HV} (k : h.new B) (hb : B' ≤ B) : h.new B' := fun R hR => k R (by omega)
theorem HV.zero_off (R : Nat) : HV.zero.off R := ⟨DV.zero_off R, .inl rfl, fun y hy => (by cases hy)⟩
theorem HV.zero_new (B : Nat) : HV.zero.new B := fun R _ => HV.zero_off R

end Go.Proofs.YtenmamcaldabdaaGreatDoor

/- The contracts of slices.Contains at ints, of yard's questions and of its counts; no condition but that the slices read as lists and zones. -/
namespace Go.Proofs.YtenmamcaldabdaaGreatDoor
open Go.RowKit
set_option linter.unusedVariables false
set_option maxRecDepth 100000
set_option linter.unusedSimpArgs false

/-- Is s one of these? -/
def hasB (L : List Int) (s : Int) : Bool := L.any fun y => s == y
theorem has_O (s : Int) : hasB [1, 2] s = isO s := by simp [hasB, isO]
theorem has_A (s : Int) : hasB [1, 2, 3] s = isA s := by simp [hasB, isA, isO, Bool.or_assoc]
theorem has_1 (s : Int) : hasB [1] s = (s == 1) := by simp [hasB]

set_option maxHeartbeats 400000 in
theorem Index_some (b1 o1 n1 c1 : Nat) (l1 : List Int) (x : Int) (w : World) (hl1 : l1.length = n1) (hm1 : n1 ≤ 9223372036854775807)
    (hr1 : ∀ i, i < n1 → w.cell? ⟨b1, o1 + i, none⟩ = some (.int .i64 (l1.getD i 0))) :
    Calls Tryz.prog 178 #[.slice (some ⟨b1, o1, none⟩) n1 c1, .int .i64 x] w
      fun e w' => (∃ r, e = .returned (.int .i64 r) ∧ decide (0 ≤ r) = hasB l1 x) ∧ w' = w := by
  go_enter Tryz.func178, Tryz.ntmps178
  go_wp2
  go_loop [8] (fun i => ∃ k : Nat, k ≤ n1 ∧ i = .int .i64 k ∧ (l1.take k).any (fun y => x == y) = false) (fun i => n1 - (intOf i).toNat)
  case atStart => exact ⟨0, by omega, rfl, by simp⟩
  case round =>
    obtain ⟨k, hk, rfl, ht⟩ := hrel
    by_cases hlt : k < n1
    · have hi1 := hr1 k hlt
      have hlt' : (k : Int) < (n1 : Int) := by omega
      have HT := hide ht
      clear ht hr1
      generalize hy : l1.getD k 0 = y at hi1
      have HY := hide hy
      clear hy
      go_wp2
      · rename_i hxy
        go_ret
        exact ⟨⟨k, rfl, by unfold hasB; rw [any_of_getD _ l1 k (by omega) (by rw [HY.out]; exact ‹(x == y) = true›)]; simp⟩, rfl⟩
      · rename_i hxy
        exact ⟨⟨k + 1, by omega, by go_num, any_take_step _ l1 k (by omega) HT.out (by rw [HY.out]; simpa using hxy)⟩, by simp [intOf]; omega⟩
    · go_wp2
      go_ret
      rw [List.take_of_length_le (by omega)] at ht
      exact ⟨⟨-1, rfl, by unfold hasB; rw [ht]; rfl⟩, rfl⟩

theorem Index_none (a1 : Option Addr) (c1 : Nat) (x : Int) (w : World) :
    Calls Tryz.prog 178 #[.slice a1 0 c1, .int .i64 x] w fun e w' => e = .returned (.int .i64 (-1)) ∧ w' = w := by
  go_enter Tryz.func178, Tryz.ntmps178
  go_wp2
  refine wp_loop_rounds 1 ?_; rw [rounds_succ]
  go_wp2
  go_ret
  exact ⟨rfl, rfl⟩

theorem Contains_c (a1 : Option Addr) (n1 c1 : Nat) (l1 : List Int) (x : Int) (w : World) (h1 : Ints w a1 n1 c1 l1) :
    Calls Tryz.prog 146 #[.slice a1 n1 c1, .int .i64 x] w fun e w' => e = .returned (.bool (hasB l1 x)) ∧ w' = w := by
  obtain ⟨hl1, hc1, hm1, hn1, hr1, hw1⟩ := h1
  rcases hr1 with h0 | ⟨b1, o1, rfl, _, hr1⟩
  · subst h0
    rw [List.length_eq_zero_iff] at hl1
    subst hl1
    go_enter Tryz.func146, Tryz.ntmps146
    go_wp2_with fail
    refine (Index_none a1 c1 x _).mono ?_
    rintro e w' ⟨rfl, rfl⟩
    go_wp2
    go_ret
    exact ⟨rfl, rfl⟩
  · go_enter Tryz.func146, Tryz.ntmps146
    go_wp2_with fail
    refine (Index_some b1 o1 n1 c1 l1 x _ hl1 (by omega) hr1).mono ?_
    rintro e w' ⟨⟨r, rfl, hr⟩, rfl⟩
    have HR := hide hr
    clear hr
    go_wp2
    go_ret
    exact ⟨ret_bool HR.out, rfl⟩

theorem yin_c (a : Option Addr) (n c : Nat) (w : World) : Calls Tryz.prog 124 #[.slice a n c] w fun e w' => e = .returned (.func (Fn.func 145) #[] #[.pointer (some ⟨w.heap.size, 0, none⟩)]) ∧ w' = w.alloc (.cells #[.slice a n c] 23) := by
  go_enter Tryz.func124, Tryz.ntmps124
  go_wp2
  go_ret
  exact ⟨rfl, rfl⟩

theorem yin1_c (s : Int) (za : Option Addr) (zn zc : Nat) (g : Nat) (a : Option Addr) (n c : Nat) (L : List Int) (w : World) (hg : w.cell? ⟨g, 0, none⟩ = some (.slice a n c)) (hi : Ints w a n c L) :
    Calls Tryz.prog 145 #[.agg #[.int .i64 s, .slice za zn zc], .pointer (some ⟨g, 0, none⟩)] w fun e w' => e = .returned (.bool (hasB L s)) ∧ Below w.heap.size w w' := by
  have hg' := past1 hg
  have hi' := hi.below (B := w.heap.size) (belowA (Below.refl _ _) (.cells #[.int .i64 s, .slice za zn zc] 76)) (Nat.le_refl _)
  go_enter Tryz.func145, Tryz.ntmps145
  go_wp2_with (go_at_call 146; refine (Contains_c a n c L s _ hi').mono ?_; rintro e w' ⟨rfl, rfl⟩)
  go_ret
  exact ⟨rfl, by (repeat (first | exact Below.refl _ _ | assumption | refine Below.drew ?_ | refine below_drewN ?_ _ | refine belowA ?_ _ | refine belowT ?_ (by assumption) | refine Below.setCell ?_ (by first | (simp; done) | (simp; omega)) _))⟩

set_option maxHeartbeats 1000000 in
theorem count_some (b off n c : Nat) (Z : List ZV) (g : Nat) (a : Option Addr) (m d : Nat) (L : List Int) (w : World) (h : Zones w (some ⟨b, off, none⟩) n c Z)
    (hr : ∀ i z, Z[i]? = some z → w.cell? ⟨b, off + i * 2, none⟩ = some (.int .i64 z.s) ∧ w.cell? ⟨b, off + i * 2 + 1, none⟩ = some (.slice z.a z.n z.c))
    (hg : w.cell? ⟨g, 0, none⟩ = some (.slice a m d)) (hi : Ints w a m d L) :
    Calls Tryz.prog 123 #[.slice (some ⟨b, off, none⟩) n c, .func (Fn.func 145) #[] #[.pointer (some ⟨g, 0, none⟩)]] w fun e w' => e = .returned (.int .i64 (cnt (hasB L) Z)) ∧ Below w.heap.size w w' := by
  have hlen := h.len
  have hmax := h.max
  have hle := h.le
  go_enter Tryz.func123, Tryz.ntmps123
  go_wp2
  go_loopw [5, 10] (fun o i wr => ∃ k : Nat, k ≤ n ∧ i = .int .i64 k ∧ o = .int .i64 (cnt (hasB L) (Z.take k)) ∧ Below w.heap.size w wr) (fun _ i _ => n - (intOf i).toNat)
  case atStart => exact ⟨0, by omega, rfl, rfl, Below.refl _ _⟩
  case round =>
    obtain ⟨k, hk, rfl, rfl, hbr⟩ := hrel
    rename_i wr
    by_cases hlt : k < n
    · obtain ⟨z, hz⟩ : ∃ z, Z[k]? = some z := ⟨Z[k]'(by omega), by simp⟩
      obtain ⟨c0, c1⟩ := hr k z hz
      replace c0 := keepc hbr c0
      replace c1 := keepc hbr c1
      have hg1 := keepc hbr hg
      have hi1 := hi.below hbr (Nat.le_refl _)
      have hlt' : (k : Int) < (n : Int) := by omega
      have q1 := cnt_le (hasB L) (Z.take k)
      have q3 := List.length_take_le k Z
      have s1 := hide (cnt_snoc (hasB L) Z k z hz)
      generalize cnt (hasB L) (Z.take k) = x at *
      clear hr hz
      go_wp2_with (go_at_call 145; refine (yin1_c z.s z.a z.n z.c g a m d L _ (keepc (by (repeat (first | exact Below.refl _ _ | assumption | refine Below.drew ?_ | refine below_drewN ?_ _ | refine belowA ?_ _ | refine belowT ?_ (by assumption) | refine Below.setCell ?_ (by first | (simp; done) | (simp; omega)) _))) hg1) (by refine Ints.below hi1 (B := wr.heap.size) ?_ (Nat.le_refl _); (repeat (first | exact Below.refl _ _ | assumption | refine Below.drew ?_ | refine below_drewN ?_ _ | refine belowA ?_ _ | refine belowT ?_ (by assumption) | refine Below.setCell ?_ (by first | (simp; done) | (simp; omega)) _)))).mono ?_; rintro e w9 ⟨rfl, hb9⟩)
      all_goals
        refine ⟨⟨k + 1, by omega, by go_num, vint ?_, ?_⟩, by simp [intOf]; omega⟩
        · rw [s1.out]; simp [*]
        · (repeat (first | exact Below.refl _ _ | assumption | refine Below.drew ?_ | refine below_drewN ?_ _ | refine belowA ?_ _ | refine belowT ?_ (by assumption) | refine Below.setCell ?_ (by first | (simp; done) | (simp; omega)) _))
    · obtain rfl : k = n := by omega
      rw [List.take_of_length_le (by omega)]
      go_wp2
      go_ret
      exact ⟨rfl, hbr⟩

theorem count_c (a : Option Addr) (n c : Nat) (Z : List ZV) (g : Nat) (sa : Option Addr) (m d : Nat) (L : List Int) (w : World) (h : Zones w a n c Z) (hn : 0 < n)
    (hg : w.cell? ⟨g, 0, none⟩ = some (.slice sa m d)) (hi : Ints w sa m d L) :
    Calls Tryz.prog 123 #[.slice a n c, .func (Fn.func 145) #[] #[.pointer (some ⟨g, 0, none⟩)]] w fun e w' => e = .returned (.int .i64 (cnt (hasB L) Z)) ∧ Below w.heap.size w w' := by
  rcases h.row with h0 | ⟨b, off, rfl, hb, hr⟩
  · omega
  · exact count_some b off n c Z g sa m d L w h hr hg hi

theorem has_O' : hasB [1, 2] = isO := funext has_O
theorem has_A' : hasB [1, 2, 3] = isA := funext has_A

theorem yopened_c (a : Option Addr) (n c : Nat) (Z : List ZV) (w : World) (h : Zones w a n c Z) (hn : 0 < n) :
    Calls Tryz.prog 89 #[.slice a n c] w fun e w' => e = .returned (.int .i64 (cnt isO Z)) ∧ Below w.heap.size w w' := by
  have i0 : Ints (w.alloc (.cells #[.int .i64 1, .int .i64 2] 3)) (some ⟨w.heap.size, 0, none⟩) 2 2 [1, 2] := Ints.of_row (l := [1, 2]) (heap_new w _) (by decide) (by decide) rfl
  go_enter Tryz.func89, Tryz.ntmps89
  go_wp2_with fail
  refine (yin_c _ 2 2 _).mono ?_
  rintro e w1 ⟨rfl, rfl⟩
  go_wp2_with fail
  refine (count_c a n c Z _ _ 2 2 [1, 2] _ (h.below (B := w.heap.size) (by (repeat (first | exact Below.refl _ _ | assumption | refine Below.drew ?_ | refine below_drewN ?_ _ | refine belowA ?_ _ | refine belowT ?_ (by assumption) | refine Below.setCell ?_ (by first | (simp; done) | (simp; omega)) _))) (Nat.le_refl _)) hn (by simp) (i0.below (B := (w.alloc (.cells #[.int .i64 1, .int .i64 2] 3)).heap.size) (by (repeat (first | exact Below.refl _ _ | assumption | refine Below.drew ?_ | refine below_drewN ?_ _ | refine belowA ?_ _ | refine belowT ?_ (by assumption) | refine Below.setCell ?_ (by first | (simp; done) | (simp; omega)) _))) (Nat.le_refl _))).mono ?_
  rintro e w2 ⟨rfl, hb⟩
  rw [has_O']
  go_wp2
  go_ret
  exact ⟨rfl, by (repeat (first | exact Below.refl _ _ | assumption | refine Below.drew ?_ | refine below_drewN ?_ _ | refine belowA ?_ _ | refine belowT ?_ (by assumption) | refine Below.setCell ?_ (by first | (simp; done) | (simp; omega)) _))⟩

theorem yactive_c (a : Option Addr) (n c : Nat) (Z : List ZV) (w : World) (h : Zones w a n c Z) (hn : 0 < n) :
    Calls Tryz.prog 90 #[.slice a n c] w fun e w' => e = .returned (.int .i64 (cnt isA Z)) ∧ Below w.heap.size w w' := by
  have i0 : Ints (w.alloc (.cells #[.int .i64 1, .int .i64 2, .int .i64 3] 3)) (some ⟨w.heap.size, 0, none⟩) 3 3 [1, 2, 3] := Ints.of_row (l := [1, 2, 3]) (heap_new w _) (by decide) (by decide) rfl
  go_enter Tryz.func90, Tryz.ntmps90
  go_wp2_with fail
  refine (yin_c _ 3 3 _).mono ?_
  rintro e w1 ⟨rfl, rfl⟩
  go_wp2_with fail
  refine (count_c a n c Z _ _ 3 3 [1, 2, 3] _ (h.below (B := w.heap.size) (by (repeat (first | exact Below.refl _ _ | assumption | refine Below.drew ?_ | refine below_drewN ?_ _ | refine belowA ?_ _ | refine belowT ?_ (by assumption) | refine Below.setCell ?_ (by first | (simp; done) | (simp; omega)) _))) (Nat.le_refl _)) hn (by simp) (i0.below (B := (w.alloc (.cells #[.int .i64 1, .int .i64 2, .int .i64 3] 3)).heap.size) (by (repeat (first | exact Below.refl _ _ | assumption | refine Below.drew ?_ | refine below_drewN ?_ _ | refine belowA ?_ _ | refine belowT ?_ (by assumption) | refine Below.setCell ?_ (by first | (simp; done) | (simp; omega)) _))) (Nat.le_refl _))).mono ?_
  rintro e w2 ⟨rfl, hb⟩
  rw [has_A']
  go_wp2
  go_ret
  exact ⟨rfl, by (repeat (first | exact Below.refl _ _ | assumption | refine Below.drew ?_ | refine below_drewN ?_ _ | refine belowA ?_ _ | refine belowT ?_ (by assumption) | refine Below.setCell ?_ (by first | (simp; done) | (simp; omega)) _))⟩

set_option maxHeartbeats 2000000 in
theorem YCheck_four (b off c : Nat) (Z : List ZV) (w : World) (h : Zones w (some ⟨b, off, none⟩) 4 c Z)
    (hr : ∀ i z, Z[i]? = some z → w.cell? ⟨b, off + i * 2, none⟩ = some (.int .i64 z.s) ∧ w.cell? ⟨b, off + i * 2 + 1, none⟩ = some (.slice z.a z.n z.c)) :
    Calls Tryz.prog 59 #[.slice (some ⟨b, off, none⟩) 4 c] w fun e w' => e = .returned (.int .i64 (checkZs (Z.map ZV.p))) ∧ Below w.heap.size w w' := by
  have hlen := hide h.len
  have q1 := cnt_le isO Z
  have q2 := cnt_le isA Z
  rw [h.len] at q1 q2
  go_enter Tryz.func59, Tryz.ntmps59
  go_wp2
  go_loopw [11] (fun i wr => ∃ k : Nat, k ≤ 4 ∧ i = .int .i64 k ∧ firstE ((Z.take k).map ZV.p) = 0 ∧ Below w.heap.size w wr) (fun i _ => 4 - (intOf i).toNat)
  case atStart => exact ⟨0, by omega, rfl, rfl, Below.refl _ _⟩
  case round =>
    obtain ⟨k, hk, rfl, hf, hbr⟩ := hrel
    have HF := hide hf
    clear hf
    rename_i wr
    by_cases hlt : k < 4
    · obtain ⟨z, hz⟩ : ∃ z, Z[k]? = some z := ⟨Z[k]'(by rw [hlen.out]; exact hlt), by simp⟩
      obtain ⟨c0, c1⟩ := hr k z hz
      have iz := (h.ok z (List.mem_of_getElem? hz)).below hbr (Nat.le_refl _)
      replace c0 := keepc hbr c0
      replace c1 := keepc hbr c1
      have HZ := hide hz
      have hlt' : (k : Int) < 4 := by omega
      clear hz
      go_wp2_with (go_at_call 88; refine (Check_c z.s z.a z.n z.c z.l _ (by refine Ints.below iz (B := wr.heap.size) ?_ (Nat.le_refl _); (repeat (first | exact Below.refl _ _ | assumption | refine Below.drew ?_ | refine below_drewN ?_ _ | refine belowA ?_ _ | refine belowT ?_ (by assumption) | refine Below.setCell ?_ (by first | (simp; done) | (simp; omega)) _)))).mono ?_; rintro e w9 ⟨rfl, hb9⟩)
      · rename_i hne
        go_ret
        exact ⟨ret_int (checkZs_2 hlen.out (firstE_at Z k z HZ.out HF.out (by simpa using hne)) (by simpa using hne)), by (repeat (first | exact Below.refl _ _ | assumption | refine Below.drew ?_ | refine below_drewN ?_ _ | refine belowA ?_ _ | refine belowT ?_ (by assumption) | refine Below.setCell ?_ (by first | (simp; done) | (simp; omega)) _))⟩
      · rename_i heq
        exact ⟨⟨k + 1, by omega, by go_num, firstE_step Z k z HZ.out HF.out (by simpa using heq), by (repeat (first | exact Below.refl _ _ | assumption | refine Below.drew ?_ | refine below_drewN ?_ _ | refine belowA ?_ _ | refine belowT ?_ (by assumption) | refine Below.setCell ?_ (by first | (simp; done) | (simp; omega)) _))⟩, by simp [intOf]; omega⟩
    · obtain rfl : k = 4 := by omega
      have hf := HF.out
      rw [List.take_of_length_le (by rw [hlen.out]; omega)] at hf
      have HG := hide hf
      clear hf HF
      have hz := h.below (B := w.heap.size) hbr (Nat.le_refl _)
      go_wp2_with fail
      refine (yopened_c _ 4 c Z _ hz (by omega)).mono ?_
      rintro e w8 ⟨rfl, hb8⟩
      replace hz := hz.below hb8 (Nat.le_refl _)
      go_wp2_with (go_at_call 90; refine (yactive_c _ 4 c Z _ hz (by omega)).mono ?_; rintro e w9 ⟨rfl, hb9⟩)
      all_goals
        go_ret
        first
          | exact ⟨ret_int (checkZs_3 hlen.out HG.out (by omega)), by (repeat (first | exact Below.refl _ _ | assumption | refine Below.drew ?_ | refine below_drewN ?_ _ | refine belowA ?_ _ | refine belowT ?_ (by assumption) | refine Below.setCell ?_ (by first | (simp; done) | (simp; omega)) _))⟩
          | exact ⟨ret_int (checkZs_0 hlen.out HG.out (by omega)), by (repeat (first | exact Below.refl _ _ | assumption | refine Below.drew ?_ | refine below_drewN ?_ _ | refine belowA ?_ _ | refine belowT ?_ (by assumption) | refine Below.setCell ?_ (by first | (simp; done) | (simp; omega)) _))⟩

theorem YCheck_c (a : Option Addr) (n c : Nat) (Z : List ZV) (w : World) (h : Zones w a n c Z) :
    Calls Tryz.prog 59 #[.slice a n c] w fun e w' => e = .returned (.int .i64 (checkZs (Z.map ZV.p))) ∧ Below w.heap.size w w' := by
  have hm := h.max
  have hl := h.le
  by_cases h4 : n = 4
  · subst h4
    rcases h.row with h0 | ⟨b, off, rfl, hb, hr⟩
    · omega
    · exact YCheck_four b off c Z w h hr
  · have hne : ((n : Int) != 4) = true := by simp; omega
    have hz := checkZs_1 (Z := Z) (by rw [h.len]; exact h4)
    have HZ := hide hz
    clear hz
    go_enter Tryz.func59, Tryz.ntmps59
    go_wp2
    go_ret
    exact ⟨ret_int HZ.out, Below.refl _ _⟩

set_option maxHeartbeats 2000000 in
theorem EqualFuncY_some (b1 o1 m1 b2 o2 m2 n : Nat) (Z1 Z2 : List ZV) (w : World) (h1 : Zones w (some ⟨b1, o1, none⟩) n m1 Z1) (h2 : Zones w (some ⟨b2, o2, none⟩) n m2 Z2)
    (hr1 : ∀ i z, Z1[i]? = some z → w.cell? ⟨b1, o1 + i * 2, none⟩ = some (.int .i64 z.s) ∧ w.cell? ⟨b1, o1 + i * 2 + 1, none⟩ = some (.slice z.a z.n z.c))
    (hr2 : ∀ i z, Z2[i]? = some z → w.cell? ⟨b2, o2 + i * 2, none⟩ = some (.int .i64 z.s) ∧ w.cell? ⟨b2, o2 + i * 2 + 1, none⟩ = some (.slice z.a z.n z.c)) :
    Calls Tryz.prog 96 #[.slice (some ⟨b1, o1, none⟩) n m1, .slice (some ⟨b2, o2, none⟩) n m2, .func (Fn.func 97) #[] #[]] w fun e w' => e = .returned (.bool (decide (Z1.map ZV.p = Z2.map ZV.p))) ∧ Below w.heap.size w w' := by
  have hlen1 := hide h1.len
  have hlen2 := hide h2.len
  have hmax := h1.max
  have hle := h1.le
  go_enter Tryz.func96, Tryz.ntmps96
  go_wp2
  go_loopw [17] (fun i wr => ∃ k : Nat, k ≤ n ∧ i = .int .i64 k ∧ (Z1.take k).map ZV.p = (Z2.take k).map ZV.p ∧ Below w.heap.size w wr) (fun i _ => n - (intOf i).toNat)
  case atStart => exact ⟨0, by omega, rfl, by simp, Below.refl _ _⟩
  case round =>
    obtain ⟨k, hk, rfl, hp, hbr⟩ := hrel
    have HP := hide hp
    clear hp
    rename_i wr
    by_cases hlt : k < n
    · obtain ⟨z, hz⟩ : ∃ z, Z1[k]? = some z := ⟨Z1[k]'(by rw [hlen1.out]; exact hlt), by simp⟩
      obtain ⟨y, hy⟩ : ∃ z, Z2[k]? = some z := ⟨Z2[k]'(by rw [hlen2.out]; exact hlt), by simp⟩
      obtain ⟨c0, c1⟩ := hr1 k z hz
      obtain ⟨d0, d1⟩ := hr2 k y hy
      have iz := (h1.ok z (List.mem_of_getElem? hz)).below hbr (Nat.le_refl _)
      have iy := (h2.ok y (List.mem_of_getElem? hy)).below hbr (Nat.le_refl _)
      replace c0 := keepc hbr c0
      replace c1 := keepc hbr c1
      replace d0 := past1 (keepc hbr d0)
      replace d1 := past1 (keepc hbr d1)
      have HZ := hide hz
      have HY := hide hy
      have hlt' : (k : Int) < (n : Int) := by omega
      clear hz hy
      go_wp2_with (go_at_call 97; refine (Same_c z.s y.s z.a y.a z.n z.c y.n y.c z.l y.l _ (by refine Ints.below iz (B := wr.heap.size) ?_ (Nat.le_refl _); (repeat (first | exact Below.refl _ _ | assumption | refine Below.drew ?_ | refine below_drewN ?_ _ | refine belowA ?_ _ | refine belowT ?_ (by assumption) | refine Below.setCell ?_ (by first | (simp; done) | (simp; omega)) _))) (by refine Ints.below iy (B := wr.heap.size) ?_ (Nat.le_refl _); (repeat (first | exact Below.refl _ _ | assumption | refine Below.drew ?_ | refine below_drewN ?_ _ | refine belowA ?_ _ | refine belowT ?_ (by assumption) | refine Below.setCell ?_ (by first | (simp; done) | (simp; omega)) _)))).mono ?_; rintro e w9 ⟨rfl, hb9⟩)
      · rename_i hne
        go_ret
        exact ⟨ret_bool (decide_eq_false (map_ne Z1 Z2 k z y HZ.out HY.out (by simp at hne; rintro ⟨e1, e2⟩; rcases hne with h | h; exact h e1; exact h e2))).symm, by (repeat (first | exact Below.refl _ _ | assumption | refine Below.drew ?_ | refine below_drewN ?_ _ | refine belowA ?_ _ | refine belowT ?_ (by assumption) | refine Below.setCell ?_ (by first | (simp; done) | (simp; omega)) _))⟩
      · rename_i heq
        exact ⟨⟨k + 1, by omega, by go_num, map_take_step Z1 Z2 k z y HZ.out HY.out HP.out (by simpa using heq), by (repeat (first | exact Below.refl _ _ | assumption | refine Below.drew ?_ | refine below_drewN ?_ _ | refine belowA ?_ _ | refine belowT ?_ (by assumption) | refine Below.setCell ?_ (by first | (simp; done) | (simp; omega)) _))⟩, by simp [intOf]; omega⟩
    · obtain rfl : k = n := by omega
      go_wp2
      go_ret
      have hp := HP.out
      rw [List.take_of_length_le (by rw [hlen1.out]; omega), List.take_of_length_le (by rw [hlen2.out]; omega)] at hp
      exact ⟨ret_bool (by simp [hp]), hbr⟩

theorem EqualFuncY_ne (a1 a2 : Option Addr) (n1 n2 c1 c2 : Nat) (fv : Value) (w : World) (hne : n1 ≠ n2) (hm1 : n1 ≤ 9223372036854775807) (hm2 : n2 ≤ 9223372036854775807) :
    Calls Tryz.prog 96 #[.slice a1 n1 c1, .slice a2 n2 c2, fv] w fun e w' => e = .returned (.bool false) ∧ w' = w := by
  have hb : ((n1 : Int) != (n2 : Int)) = true := by simp; omega
  go_enter Tryz.func96, Tryz.ntmps96
  go_wp2
  go_ret
  exact ⟨rfl, rfl⟩

theorem EqualFuncY_zero (a1 a2 : Option Addr) (c1 c2 : Nat) (fv : Value) (w : World) :
    Calls Tryz.prog 96 #[.slice a1 0 c1, .slice a2 0 c2, fv] w fun e w' => e = .returned (.bool true) ∧ w' = w := by
  go_enter Tryz.func96, Tryz.ntmps96
  go_wp2
  refine wp_loop_rounds 1 ?_
  rw [rounds_succ]
  go_wp2
  go_ret
  exact ⟨rfl, rfl⟩

theorem EqualFuncY_c (a1 a2 : Option Addr) (n1 n2 c1 c2 : Nat) (Z1 Z2 : List ZV) (w : World) (h1 : Zones w a1 n1 c1 Z1) (h2 : Zones w a2 n2 c2 Z2) :
    Calls Tryz.prog 96 #[.slice a1 n1 c1, .slice a2 n2 c2, .func (Fn.func 97) #[] #[]] w fun e w' => e = .returned (.bool (decide (Z1.map ZV.p = Z2.map ZV.p))) ∧ Below w.heap.size w w' := by
  by_cases hn : n1 = n2
  · subst hn
    by_cases h0 : n1 = 0
    · subst h0
      have e1 := h1.len
      have e2 := h2.len
      rw [List.length_eq_zero_iff] at e1 e2
      subst e1 e2
      refine (EqualFuncY_zero a1 a2 c1 c2 _ w).mono ?_
      rintro e w' ⟨rfl, rfl⟩
      exact ⟨rfl, Below.refl _ _⟩
    · rcases h1.row with h | ⟨b1, o1, rfl, _, hr1⟩
      · omega
      · rcases h2.row with h | ⟨b2, o2, rfl, _, hr2⟩
        · omega
        · exact EqualFuncY_some b1 o1 c1 b2 o2 c2 n1 Z1 Z2 w h1 h2 hr1 hr2
  · have m1 := h1.max
    have m2 := h2.max
    have q1 := h1.le
    have q2 := h2.le
    refine (EqualFuncY_ne a1 a2 n1 n2 c1 c2 _ w hn (by omega) (by omega)).mono ?_
    rintro e w' ⟨rfl, rfl⟩
    exact ⟨ret_bool (decide_eq_false (map_len Z1 Z2 (by rw [h1.len, h2.len]; exact hn))).symm, Below.refl _ _⟩



theorem YSame_c (a1 a2 : Option Addr) (n1 n2 c1 c2 : Nat) (Z1 Z2 : List ZV) (w : World) (h1 : Zones w a1 n1 c1 Z1) (h2 : Zones w a2 n2 c2 Z2) :
    Calls Tryz.prog 65 #[.slice a1 n1 c1, .slice a2 n2 c2] w fun e w' => e = .returned (.bool (decide (Z1.map ZV.p = Z2.map ZV.p))) ∧ Below w.heap.size w w' := by
  go_enter Tryz.func65, Tryz.ntmps65
  go_wp2_with fail
  refine (EqualFuncY_c a1 a2 n1 n2 c1 c2 Z1 Z2 _ h1 h2).mono ?_
  rintro e w' ⟨rfl, hb⟩
  go_wp2
  go_ret
  exact ⟨rfl, hb⟩

end Go.Proofs.YtenmamcaldabdaaGreatDoor
