/- What stays as it was where cells of one block change; a struct's box, cell by cell; plain mathematics, no condition. -/
import Derived.Test.YtmjcoehllinoeacDoorDeskMayG5
import Derived.Test.YtmjcoehllinoeacDoorDeskMayG2
import Derived.Test.YtmjcoehllinoeacDoorDeskMayG4
namespace Go.Proofs.YtmjcoehllinoeacDoor
open Go.RowKit
set_option linter.unusedVariables false
set_option maxRecDepth 100000
set_option linter.unusedSimpArgs false

theorem But.step {g : Nat} {w w' : World} (h : But g w w') (j : Nat) (v : Value) : But g w (w'.setCell ⟨g, j, none⟩ v) :=
  ⟨h.low.setCell (Nat.le_refl _) v, by simpa [World.setCell] using h.size, fun q hq hg => by rw [World.cell?_setCell_other _ _ _ _ (fun e => hg (by rw [← e]))]; exact h.cell q hq hg⟩

/-- The cells of a block that may be written. -/
structure Lay (w : World) (B : Nat) (vs : List Value) : Prop where
  cell : ∀ i v, vs[i]? = some v → w.cell? ⟨B, i, none⟩ = some v
  ice : ∀ i, w.frozen? ⟨B, i, none⟩ = false
  lt : B < w.heap.size
theorem Lay.below {w w' : World} {B : Nat} {vs : List Value} (h : Lay w B vs) (hb : Below w.heap.size w w') : Lay w' B vs :=
  ⟨fun i v hv => keepc hb (h.cell i v hv), fun i => by rw [hb.frozen (by exact h.lt)]; exact h.ice i, Nat.lt_of_lt_of_le h.lt hb.size⟩
theorem Lay.made (w : World) (vs : List Value) (t : TypeId) : Lay (w.alloc (.cells vs.toArray t (0, 0))) w.heap.size vs :=
  ⟨fun i v hv => by rw [cell_of_row _ _ _ _ _ _ (heap_new w _)]; simpa using hv, fun i => frozen_row (heap_new w _), by simp⟩
theorem Lay.drew {w : World} {B : Nat} {vs : List Value} (h : Lay w B vs) : Lay w.drew B vs := ⟨h.cell, h.ice, h.lt⟩
theorem Lay.made1 (w : World) (o : Obj) (vs : List Value) (t : TypeId) : Lay ((w.alloc o).alloc (.cells vs.toArray t (0, 0))) (w.heap.size + 1) vs := by
  have h := Lay.made (w.alloc o) vs t
  simpa only [World.size_alloc] using h
theorem Lay.but {w w' : World} {B g : Nat} {vs : List Value} (h : Lay w B vs) (hb : But g w w') (hi : ∀ q : Addr, q.block < w.heap.size → w'.frozen? q = w.frozen? q) (hg : B ≠ g) : Lay w' B vs :=
  ⟨fun i v hv => keepb hb (h.cell i v hv) hg, fun i => by rw [hi _ h.lt]; exact h.ice i, Nat.lt_of_lt_of_le h.lt hb.size⟩
theorem Lay.set {w : World} {B : Nat} {vs : List Value} (h : Lay w B vs) (i : Nat) (v : Value) : Lay (w.setCell ⟨B, i, none⟩ v) B (vs.set i v) := by
  refine ⟨fun j u hu => ?_, fun j => by rw [World.frozen?_setCell]; exact h.ice j, by simpa [World.setCell] using h.lt⟩
  by_cases e : i = j
  · subst e
    have hi : i < vs.length := by have := (List.getElem?_eq_some_iff.1 hu).1; simpa using this
    rw [List.getElem?_set_self hi] at hu
    cases hu
    exact World.cell?_setCell_same _ _ _ (h.cell i vs[i] (by simp [hi]))
  · rw [List.getElem?_set_ne e] at hu
    rw [World.cell?_setCell_other _ _ _ _ (by simp [e])]
    exact h.cell j u hu
theorem Lay.far {w : World} {B : Nat} {vs : List Value} (h : Lay w B vs) (p : Addr) (v : Value) (hp : p.block ≠ B) : Lay (w.setCell p v) B vs :=
  ⟨fun i u hu => by rw [World.cell?_setCell_other _ _ _ _ (fun e => hp (by rw [e]))]; exact h.cell i u hu, fun i => by rw [World.frozen?_setCell]; exact h.ice i, by simpa [World.setCell] using h.lt⟩

theorem Zones.but {w w' : World} {g : Nat} {a : Option Addr} {n c : Nat} {Z : List ZV} (h : Zones w a n c Z) (hb : But g w w') (hne : n = 0 ∨ ∀ x, a = some x → x.block ≠ g) (hl : ∀ z ∈ Z, z.off g) : Zones w' a n c Z := by
  refine ⟨h.len, h.le, h.max, h.nil, ?_, fun z hz => Ints.but (h.ok z hz) hb (hl z hz)⟩
  rcases hne with h0 | hne
  · exact .inl h0
  · rcases h.row with h0 | ⟨b, off, ha, hlt, hc⟩
    · exact .inl h0
    · have hg : b ≠ g := hne _ ha
      refine .inr ⟨b, off, ha, Nat.lt_of_lt_of_le hlt hb.size, fun i z hz => ?_⟩
      obtain ⟨h1, h2⟩ := hc i z hz
      exact ⟨keepb hb h1 hg, keepb hb h2 hg⟩

/-- None of the desk's lists lies in block R. -/
structure DV.off (R : Nat) (d : DV) : Prop where
  z : d.zn = 0 ∨ ∀ x, d.za = some x → x.block ≠ R
  l : ∀ z ∈ d.Z, z.off R
  k : d.kn = 0 ∨ ∀ x, d.ka = some x → x.block ≠ R
/-- All of the desk's lists lie from B on. -/
def DV.new (B : Nat) (d : DV) : Prop := ∀ R, R < B → d.off R
theorem DV.ok.but {w w' : World} {g : Nat} {d : DV} (h : d.ok w) (hb : But g w w') (ho : d.off g) : d.ok w' := ⟨h.z.but hb ho.z ho.l, h.k.but hb ho.k⟩
theorem Ints.offs {w : World} {a : Option Addr} {n c : Nat} {l : List Int} (h : Ints w a n c l) {R : Nat} (hR : w.heap.size ≤ R) : n = 0 ∨ ∀ x, a = some x → x.block ≠ R := by
  rcases h.row with h0 | ⟨b, off, ha, hlt, _⟩
  · exact .inl h0
  · exact .inr fun x e => by rw [ha] at e; cases e; simp; omega
theorem DV.ok.off {w : World} {d : DV} (h : d.ok w) {R : Nat} (hR : w.heap.size ≤ R) : d.off R := by
  refine ⟨?_, fun z hz => Ints.offs (h.z.ok z hz) hR, h.k.offs hR⟩
  rcases h.z.row with h0 | ⟨b, off, ha, hlt, _⟩
  · exact .inl h0
  · exact .inr fun x e => by rw [ha] at e; cases e; simp; omega
theorem DV.new.mono {B B' : Nat} {d : DV} (h : d.new B) (hb : B' ≤ B) : d.new B' := fun R hR => h R (by omega)
theorem DV.zero_new (B : Nat) : DV.zero.new B := fun R _ => ⟨.inl rfl, fun z hz => (by cases hz), .inl rfl⟩
theorem DV.zero_off (R : Nat) : DV.zero.off R := ⟨.inl rfl, fun z hz => (by cases hz), .inl rfl⟩

def AV.off (R : Nat) (x : AV) : Prop := x.n = 0 ∨ ∀ y, x.a = some y → y.block ≠ R
def AV.new (B : Nat) (x : AV) : Prop := ∀ R, R < B → x.off R
theorem AV.ok.but {w w' : World} {g : Nat} {x : AV} (h : x.ok w) (hb : But g w w') (ho : x.off g) : x.ok w' := Ints.but h hb ho
theorem AV.ok.off {w : World} {x : AV} (h : x.ok w) {R : Nat} (hR : w.heap.size ≤ R) : x.off R := Ints.offs h hR
theorem AV.new.mono {B B' : Nat} {x : AV} (h : x.new B) (hb : B' ≤ B) : x.new B' := fun R hR => h R (by omega)
theorem AV.err_new (B : Nat) (e : Int) : (AV.err e).new B := fun R _ => .inl rfl

/-- w' is w, but that block g may hold other cells, and there may be more memory; what may be written may be as before. -/
structure ButI (g : Nat) (w w' : World) : Prop where
  but : But g w w'
  ice : ∀ q : Addr, q.block < w.heap.size → w'.frozen? q = w.frozen? q
theorem ButI.refl (g : Nat) (w : World) : ButI g w w := ⟨But.refl g w, fun _ _ => rfl⟩
theorem ButI.trans {g : Nat} {a b c : World} (h : ButI g a b) (k : ButI g b c) : ButI g a c := ⟨h.but.trans k.but, fun q hq => by rw [k.ice q (Nat.lt_of_lt_of_le hq h.but.size), h.ice q hq]⟩
theorem ButI.step {g : Nat} {w w' : World} (h : ButI g w w') (j : Nat) (v : Value) : ButI g w (w'.setCell ⟨g, j, none⟩ v) := ⟨h.but.step j v, fun q hq => by rw [World.frozen?_setCell]; exact h.ice q hq⟩
theorem ButI.of_below {g : Nat} {w w' : World} (h : Below w.heap.size w w') (hg : g ≤ w.heap.size) : ButI g w w' := ⟨But.of_below h hg, fun q hq => h.frozen hq⟩
/-- A block that was not there changed: nothing that was there did. -/
theorem ButI.below {g : Nat} {w w' : World} (h : ButI g w w') {B : Nat} (hB : B ≤ g) : Below B w w' := h.but.low.mono hB
theorem Lay.butI {w w' : World} {B g : Nat} {vs : List Value} (h : Lay w B vs) (hb : ButI g w w') (hg : B ≠ g) : Lay w' B vs := h.but hb.but hb.ice hg
/-- A block of the call's own changed last: seen from where the call began, only g did. -/
theorem ButI.own {g R : Nat} {w a b : World} (h : ButI g w a) (k : ButI R a b) (hR : w.heap.size ≤ R) (hg : g ≤ w.heap.size) : ButI g w b := by
  refine ⟨⟨h.but.low.trans (k.but.low.mono (by omega)), Nat.le_trans h.but.size k.but.size, fun q hq hne => ?_⟩, fun q hq => ?_⟩
  · rw [k.but.cell q (Nat.lt_of_lt_of_le hq h.but.size) (by omega), h.but.cell q hq hne]
  · rw [k.ice q (Nat.lt_of_lt_of_le hq h.but.size), h.ice q hq]

def DV.cells (d : DV) : List Value := [.slice d.za d.zn d.zc, .slice d.ka d.kn d.kc, .int .i64 d.b.h, .int .i64 d.b.t]

end Go.Proofs.YtmjcoehllinoeacDoor

/- The contracts of slices.Contains at ints, of yard's questions and of its counts; no condition but that the slices read as lists and zones. -/
namespace Go.Proofs.YtmjcoehllinoeacDoor
open Go.RowKit
set_option linter.unusedVariables false
set_option maxRecDepth 100000
set_option linter.unusedSimpArgs false

/-- Is s one of these? -/
def hasB (L : List Int) (s : Int) : Bool := L.any fun y => s == y
theorem has_O (s : Int) : hasB [1, 2] s = isO s := by simp [hasB, isO]
theorem has_A (s : Int) : hasB [1, 2, 3] s = isA s := by simp [hasB, isA, isO, Bool.or_assoc]
theorem has_1 (s : Int) : hasB [1] s = (s == 1) := by simp [hasB]

set_option maxHeartbeats 400000 in
theorem Index_some (b1 o1 n1 c1 : Nat) (l1 : List Int) (x : Int) (w : World) (hl1 : l1.length = n1) (hm1 : n1 ≤ 9223372036854775807)
    (hr1 : ∀ i, i < n1 → w.cell? ⟨b1, o1 + i, none⟩ = some (.int .i64 (l1.getD i 0))) :
    Calls Tryd.prog 125 #[.slice (some ⟨b1, o1, none⟩) n1 c1, .int .i64 x] w
      fun e w' => (∃ r, e = .returned (.int .i64 r) ∧ decide (0 ≤ r) = hasB l1 x) ∧ w' = w := by
  go_enter Tryd.func125, Tryd.ntmps125
  go_wp2
  go_loop [8] (fun i => ∃ k : Nat, k ≤ n1 ∧ i = .int .i64 k ∧ (l1.take k).any (fun y => x == y) = false) (fun i => n1 - (intOf i).toNat)
  case atStart => exact ⟨0, by omega, rfl, by simp⟩
  case round =>
    obtain ⟨k, hk, rfl, ht⟩ := hrel
    by_cases hlt : k < n1
    · have hi1 := hr1 k hlt
      have hlt' : (k : Int) < (n1 : Int) := by omega
      have HT := hide ht
      clear ht hr1
      generalize hy : l1.getD k 0 = y at hi1
      have HY := hide hy
      clear hy
      go_wp2
      · rename_i hxy
        go_ret
        exact ⟨⟨k, rfl, by unfold hasB; rw [any_of_getD _ l1 k (by omega) (by rw [HY.out]; exact ‹(x == y) = true›)]; simp⟩, rfl⟩
      · rename_i hxy
        exact ⟨⟨k + 1, by omega, by go_num, any_take_step _ l1 k (by omega) HT.out (by rw [HY.out]; simpa using hxy)⟩, by simp [intOf]; omega⟩
    · go_wp2
      go_ret
      rw [List.take_of_length_le (by omega)] at ht
      exact ⟨⟨-1, rfl, by unfold hasB; rw [ht]; rfl⟩, rfl⟩

theorem Index_none (a1 : Option Addr) (c1 : Nat) (x : Int) (w : World) :
    Calls Tryd.prog 125 #[.slice a1 0 c1, .int .i64 x] w fun e w' => e = .returned (.int .i64 (-1)) ∧ w' = w := by
  go_enter Tryd.func125, Tryd.ntmps125
  go_wp2
  refine wp_loop_rounds 1 ?_; rw [rounds_succ]
  go_wp2
  go_ret
  exact ⟨rfl, rfl⟩

theorem Contains_c (a1 : Option Addr) (n1 c1 : Nat) (l1 : List Int) (x : Int) (w : World) (h1 : Ints w a1 n1 c1 l1) :
    Calls Tryd.prog 100 #[.slice a1 n1 c1, .int .i64 x] w fun e w' => e = .returned (.bool (hasB l1 x)) ∧ w' = w := by
  obtain ⟨hl1, hc1, hm1, hn1, hr1, hw1⟩ := h1
  rcases hr1 with h0 | ⟨b1, o1, rfl, _, hr1⟩
  · subst h0
    rw [List.length_eq_zero_iff] at hl1
    subst hl1
    go_enter Tryd.func100, Tryd.ntmps100
    go_wp2_with fail
    refine (Index_none a1 c1 x _).mono ?_
    rintro e w' ⟨rfl, rfl⟩
    go_wp2
    go_ret
    exact ⟨rfl, rfl⟩
  · go_enter Tryd.func100, Tryd.ntmps100
    go_wp2_with fail
    refine (Index_some b1 o1 n1 c1 l1 x _ hl1 (by omega) hr1).mono ?_
    rintro e w' ⟨⟨r, rfl, hr⟩, rfl⟩
    have HR := hide hr
    clear hr
    go_wp2
    go_ret
    exact ⟨ret_bool HR.out, rfl⟩

theorem yin_c (a : Option Addr) (n c : Nat) (w : World) : Calls Tryd.prog 73 #[.slice a n c] w fun e w' => e = .returned (.func (Fn.func 99) #[] #[.pointer (some ⟨w.heap.size, 0, none⟩)]) ∧ w' = w.alloc (.cells #[.slice a n c] 22) := by
  go_enter Tryd.func73, Tryd.ntmps73
  go_wp2
  go_ret
  exact ⟨rfl, rfl⟩

theorem yin1_c (s : Int) (za : Option Addr) (zn zc : Nat) (g : Nat) (a : Option Addr) (n c : Nat) (L : List Int) (w : World) (hg : w.cell? ⟨g, 0, none⟩ = some (.slice a n c)) (hi : Ints w a n c L) :
    Calls Tryd.prog 99 #[.agg #[.int .i64 s, .slice za zn zc], .pointer (some ⟨g, 0, none⟩)] w fun e w' => e = .returned (.bool (hasB L s)) ∧ Below w.heap.size w w' := by
  have hg' := past1 hg
  have hi' := hi.below (B := w.heap.size) (belowA (Below.refl _ _) (.cells #[.int .i64 s, .slice za zn zc] 78)) (Nat.le_refl _)
  go_enter Tryd.func99, Tryd.ntmps99
  go_wp2_with (go_at_call 100; refine (Contains_c a n c L s _ hi').mono ?_; rintro e w' ⟨rfl, rfl⟩)
  go_ret
  exact ⟨rfl, by (repeat (first | exact Below.refl _ _ | assumption | refine Below.drew ?_ | refine below_drewN ?_ _ | refine belowA ?_ _ | refine belowT ?_ (by assumption) | refine Below.setCell ?_ (by first | (simp; done) | (simp; omega)) _))⟩

set_option maxHeartbeats 1000000 in
theorem count_some (b off n c : Nat) (Z : List ZV) (g : Nat) (a : Option Addr) (m d : Nat) (L : List Int) (w : World) (h : Zones w (some ⟨b, off, none⟩) n c Z)
    (hr : ∀ i z, Z[i]? = some z → w.cell? ⟨b, off + i * 2, none⟩ = some (.int .i64 z.s) ∧ w.cell? ⟨b, off + i * 2 + 1, none⟩ = some (.slice z.a z.n z.c))
    (hg : w.cell? ⟨g, 0, none⟩ = some (.slice a m d)) (hi : Ints w a m d L) :
    Calls Tryd.prog 72 #[.slice (some ⟨b, off, none⟩) n c, .func (Fn.func 99) #[] #[.pointer (some ⟨g, 0, none⟩)]] w fun e w' => e = .returned (.int .i64 (cnt (hasB L) Z)) ∧ Below w.heap.size w w' := by
  have hlen := h.len
  have hmax := h.max
  have hle := h.le
  go_enter Tryd.func72, Tryd.ntmps72
  go_wp2
  go_loopw [5, 10] (fun o i wr => ∃ k : Nat, k ≤ n ∧ i = .int .i64 k ∧ o = .int .i64 (cnt (hasB L) (Z.take k)) ∧ Below w.heap.size w wr) (fun _ i _ => n - (intOf i).toNat)
  case atStart => exact ⟨0, by omega, rfl, rfl, Below.refl _ _⟩
  case round =>
    obtain ⟨k, hk, rfl, rfl, hbr⟩ := hrel
    rename_i wr
    by_cases hlt : k < n
    · obtain ⟨z, hz⟩ : ∃ z, Z[k]? = some z := ⟨Z[k]'(by omega), by simp⟩
      obtain ⟨c0, c1⟩ := hr k z hz
      replace c0 := keepc hbr c0
      replace c1 := keepc hbr c1
      have hg1 := keepc hbr hg
      have hi1 := hi.below hbr (Nat.le_refl _)
      have hlt' : (k : Int) < (n : Int) := by omega
      have q1 := cnt_le (hasB L) (Z.take k)
      have q3 := List.length_take_le k Z
      have s1 := hide (cnt_snoc (hasB L) Z k z hz)
      generalize cnt (hasB L) (Z.take k) = x at *
      clear hr hz
      go_wp2_with (go_at_call 99; refine (yin1_c z.s z.a z.n z.c g a m d L _ (keepc (by (repeat (first | exact Below.refl _ _ | assumption | refine Below.drew ?_ | refine below_drewN ?_ _ | refine belowA ?_ _ | refine belowT ?_ (by assumption) | refine Below.setCell ?_ (by first | (simp; done) | (simp; omega)) _))) hg1) (by refine Ints.below hi1 (B := wr.heap.size) ?_ (Nat.le_refl _); (repeat (first | exact Below.refl _ _ | assumption | refine Below.drew ?_ | refine below_drewN ?_ _ | refine belowA ?_ _ | refine belowT ?_ (by assumption) | refine Below.setCell ?_ (by first | (simp; done) | (simp; omega)) _)))).mono ?_; rintro e w9 ⟨rfl, hb9⟩)
      all_goals
        refine ⟨⟨k + 1, by omega, by go_num, vint ?_, ?_⟩, by simp [intOf]; omega⟩
        · rw [s1.out]; simp [*]
        · (repeat (first | exact Below.refl _ _ | assumption | refine Below.drew ?_ | refine below_drewN ?_ _ | refine belowA ?_ _ | refine belowT ?_ (by assumption) | refine Below.setCell ?_ (by first | (simp; done) | (simp; omega)) _))
    · obtain rfl : k = n := by omega
      rw [List.take_of_length_le (by omega)]
      go_wp2
      go_ret
      exact ⟨rfl, hbr⟩

theorem count_c (a : Option Addr) (n c : Nat) (Z : List ZV) (g : Nat) (sa : Option Addr) (m d : Nat) (L : List Int) (w : World) (h : Zones w a n c Z) (hn : 0 < n)
    (hg : w.cell? ⟨g, 0, none⟩ = some (.slice sa m d)) (hi : Ints w sa m d L) :
    Calls Tryd.prog 72 #[.slice a n c, .func (Fn.func 99) #[] #[.pointer (some ⟨g, 0, none⟩)]] w fun e w' => e = .returned (.int .i64 (cnt (hasB L) Z)) ∧ Below w.heap.size w w' := by
  rcases h.row with h0 | ⟨b, off, rfl, hb, hr⟩
  · omega
  · exact count_some b off n c Z g sa m d L w h hr hg hi

theorem has_O' : hasB [1, 2] = isO := funext has_O
theorem has_A' : hasB [1, 2, 3] = isA := funext has_A

theorem yopened_c (a : Option Addr) (n c : Nat) (Z : List ZV) (w : World) (h : Zones w a n c Z) (hn : 0 < n) :
    Calls Tryd.prog 54 #[.slice a n c] w fun e w' => e = .returned (.int .i64 (cnt isO Z)) ∧ Below w.heap.size w w' := by
  have i0 : Ints (w.alloc (.cells #[.int .i64 1, .int .i64 2] 3)) (some ⟨w.heap.size, 0, none⟩) 2 2 [1, 2] := Ints.of_row (l := [1, 2]) (heap_new w _) (by decide) (by decide) rfl
  go_enter Tryd.func54, Tryd.ntmps54
  go_wp2_with fail
  refine (yin_c _ 2 2 _).mono ?_
  rintro e w1 ⟨rfl, rfl⟩
  go_wp2_with fail
  refine (count_c a n c Z _ _ 2 2 [1, 2] _ (h.below (B := w.heap.size) (by (repeat (first | exact Below.refl _ _ | assumption | refine Below.drew ?_ | refine below_drewN ?_ _ | refine belowA ?_ _ | refine belowT ?_ (by assumption) | refine Below.setCell ?_ (by first | (simp; done) | (simp; omega)) _))) (Nat.le_refl _)) hn (by simp) (i0.below (B := (w.alloc (.cells #[.int .i64 1, .int .i64 2] 3)).heap.size) (by (repeat (first | exact Below.refl _ _ | assumption | refine Below.drew ?_ | refine below_drewN ?_ _ | refine belowA ?_ _ | refine belowT ?_ (by assumption) | refine Below.setCell ?_ (by first | (simp; done) | (simp; omega)) _))) (Nat.le_refl _))).mono ?_
  rintro e w2 ⟨rfl, hb⟩
  rw [has_O']
  go_wp2
  go_ret
  exact ⟨rfl, by (repeat (first | exact Below.refl _ _ | assumption | refine Below.drew ?_ | refine below_drewN ?_ _ | refine belowA ?_ _ | refine belowT ?_ (by assumption) | refine Below.setCell ?_ (by first | (simp; done) | (simp; omega)) _))⟩

theorem yactive_c (a : Option Addr) (n c : Nat) (Z : List ZV) (w : World) (h : Zones w a n c Z) (hn : 0 < n) :
    Calls Tryd.prog 55 #[.slice a n c] w fun e w' => e = .returned (.int .i64 (cnt isA Z)) ∧ Below w.heap.size w w' := by
  have i0 : Ints (w.alloc (.cells #[.int .i64 1, .int .i64 2, .int .i64 3] 3)) (some ⟨w.heap.size, 0, none⟩) 3 3 [1, 2, 3] := Ints.of_row (l := [1, 2, 3]) (heap_new w _) (by decide) (by decide) rfl
  go_enter Tryd.func55, Tryd.ntmps55
  go_wp2_with fail
  refine (yin_c _ 3 3 _).mono ?_
  rintro e w1 ⟨rfl, rfl⟩
  go_wp2_with fail
  refine (count_c a n c Z _ _ 3 3 [1, 2, 3] _ (h.below (B := w.heap.size) (by (repeat (first | exact Below.refl _ _ | assumption | refine Below.drew ?_ | refine below_drewN ?_ _ | refine belowA ?_ _ | refine belowT ?_ (by assumption) | refine Below.setCell ?_ (by first | (simp; done) | (simp; omega)) _))) (Nat.le_refl _)) hn (by simp) (i0.below (B := (w.alloc (.cells #[.int .i64 1, .int .i64 2, .int .i64 3] 3)).heap.size) (by (repeat (first | exact Below.refl _ _ | assumption | refine Below.drew ?_ | refine below_drewN ?_ _ | refine belowA ?_ _ | refine belowT ?_ (by assumption) | refine Below.setCell ?_ (by first | (simp; done) | (simp; omega)) _))) (Nat.le_refl _))).mono ?_
  rintro e w2 ⟨rfl, hb⟩
  rw [has_A']
  go_wp2
  go_ret
  exact ⟨rfl, by (repeat (first | exact Below.refl _ _ | assumption | refine Below.drew ?_ | refine below_drewN ?_ _ | refine belowA ?_ _ | refine belowT ?_ (by assumption) | refine Below.setCell ?_ (by first | (simp; done) | (simp; omega)) _))⟩

set_option maxHeartbeats 2000000 in
theorem YCheck_four (b off c : Nat) (Z : List ZV) (w : World) (h : Zones w (some ⟨b, off, none⟩) 4 c Z)
    (hr : ∀ i z, Z[i]? = some z → w.cell? ⟨b, off + i * 2, none⟩ = some (.int .i64 z.s) ∧ w.cell? ⟨b, off + i * 2 + 1, none⟩ = some (.slice z.a z.n z.c)) :
    Calls Tryd.prog 30 #[.slice (some ⟨b, off, none⟩) 4 c] w fun e w' => e = .returned (.int .i64 (checkZs (Z.map ZV.p))) ∧ Below w.heap.size w w' := by
  have hlen := hide h.len
  have q1 := cnt_le isO Z
  have q2 := cnt_le isA Z
  rw [h.len] at q1 q2
  go_enter Tryd.func30, Tryd.ntmps30
  go_wp2
  go_loopw [11] (fun i wr => ∃ k : Nat, k ≤ 4 ∧ i = .int .i64 k ∧ firstE ((Z.take k).map ZV.p) = 0 ∧ Below w.heap.size w wr) (fun i _ => 4 - (intOf i).toNat)
  case atStart => exact ⟨0, by omega, rfl, rfl, Below.refl _ _⟩
  case round =>
    obtain ⟨k, hk, rfl, hf, hbr⟩ := hrel
    have HF := hide hf
    clear hf
    rename_i wr
    by_cases hlt : k < 4
    · obtain ⟨z, hz⟩ : ∃ z, Z[k]? = some z := ⟨Z[k]'(by rw [hlen.out]; exact hlt), by simp⟩
      obtain ⟨c0, c1⟩ := hr k z hz
      have iz := (h.ok z (List.mem_of_getElem? hz)).below hbr (Nat.le_refl _)
      replace c0 := keepc hbr c0
      replace c1 := keepc hbr c1
      have HZ := hide hz
      have hlt' : (k : Int) < 4 := by omega
      clear hz
      go_wp2_with (go_at_call 53; refine (Check_c z.s z.a z.n z.c z.l _ (by refine Ints.below iz (B := wr.heap.size) ?_ (Nat.le_refl _); (repeat (first | exact Below.refl _ _ | assumption | refine Below.drew ?_ | refine below_drewN ?_ _ | refine belowA ?_ _ | refine belowT ?_ (by assumption) | refine Below.setCell ?_ (by first | (simp; done) | (simp; omega)) _)))).mono ?_; rintro e w9 ⟨rfl, hb9⟩)
      · rename_i hne
        go_ret
        exact ⟨ret_int (checkZs_2 hlen.out (firstE_at Z k z HZ.out HF.out (by simpa using hne)) (by simpa using hne)), by (repeat (first | exact Below.refl _ _ | assumption | refine Below.drew ?_ | refine below_drewN ?_ _ | refine belowA ?_ _ | refine belowT ?_ (by assumption) | refine Below.setCell ?_ (by first | (simp; done) | (simp; omega)) _))⟩
      · rename_i heq
        exact ⟨⟨k + 1, by omega, by go_num, firstE_step Z k z HZ.out HF.out (by simpa using heq), by (repeat (first | exact Below.refl _ _ | assumption | refine Below.drew ?_ | refine below_drewN ?_ _ | refine belowA ?_ _ | refine belowT ?_ (by assumption) | refine Below.setCell ?_ (by first | (simp; done) | (simp; omega)) _))⟩, by simp [intOf]; omega⟩
    · obtain rfl : k = 4 := by omega
      have hf := HF.out
      rw [List.take_of_length_le (by rw [hlen.out]; omega)] at hf
      have HG := hide hf
      clear hf HF
      have hz := h.below (B := w.heap.size) hbr (Nat.le_refl _)
      go_wp2_with fail
      refine (yopened_c _ 4 c Z _ hz (by omega)).mono ?_
      rintro e w8 ⟨rfl, hb8⟩
      replace hz := hz.below hb8 (Nat.le_refl _)
      go_wp2_with (go_at_call 55; refine (yactive_c _ 4 c Z _ hz (by omega)).mono ?_; rintro e w9 ⟨rfl, hb9⟩)
      all_goals
        go_ret
        first
          | exact ⟨ret_int (checkZs_3 hlen.out HG.out (by omega)), by (repeat (first | exact Below.refl _ _ | assumption | refine Below.drew ?_ | refine below_drewN ?_ _ | refine belowA ?_ _ | refine belowT ?_ (by assumption) | refine Below.setCell ?_ (by first | (simp; done) | (simp; omega)) _))⟩
          | exact ⟨ret_int (checkZs_0 hlen.out HG.out (by omega)), by (repeat (first | exact Below.refl _ _ | assumption | refine Below.drew ?_ | refine below_drewN ?_ _ | refine belowA ?_ _ | refine belowT ?_ (by assumption) | refine Below.setCell ?_ (by first | (simp; done) | (simp; omega)) _))⟩

theorem YCheck_c (a : Option Addr) (n c : Nat) (Z : List ZV) (w : World) (h : Zones w a n c Z) :
    Calls Tryd.prog 30 #[.slice a n c] w fun e w' => e = .returned (.int .i64 (checkZs (Z.map ZV.p))) ∧ Below w.heap.size w w' := by
  have hm := h.max
  have hl := h.le
  by_cases h4 : n = 4
  · subst h4
    rcases h.row with h0 | ⟨b, off, rfl, hb, hr⟩
    · omega
    · exact YCheck_four b off c Z w h hr
  · have hne : ((n : Int) != 4) = true := by simp; omega
    have hz := checkZs_1 (Z := Z) (by rw [h.len]; exact h4)
    have HZ := hide hz
    clear hz
    go_enter Tryd.func30, Tryd.ntmps30
    go_wp2
    go_ret
    exact ⟨ret_int HZ.out, Below.refl _ _⟩

set_option maxHeartbeats 2000000 in
theorem EqualFuncY_some (b1 o1 m1 b2 o2 m2 n : Nat) (Z1 Z2 : List ZV) (w : World) (h1 : Zones w (some ⟨b1, o1, none⟩) n m1 Z1) (h2 : Zones w (some ⟨b2, o2, none⟩) n m2 Z2)
    (hr1 : ∀ i z, Z1[i]? = some z → w.cell? ⟨b1, o1 + i * 2, none⟩ = some (.int .i64 z.s) ∧ w.cell? ⟨b1, o1 + i * 2 + 1, none⟩ = some (.slice z.a z.n z.c))
    (hr2 : ∀ i z, Z2[i]? = some z → w.cell? ⟨b2, o2 + i * 2, none⟩ = some (.int .i64 z.s) ∧ w.cell? ⟨b2, o2 + i * 2 + 1, none⟩ = some (.slice z.a z.n z.c)) :
    Calls Tryd.prog 35 #[.slice (some ⟨b1, o1, none⟩) n m1, .slice (some ⟨b2, o2, none⟩) n m2, .func (Fn.func 36) #[] #[]] w fun e w' => e = .returned (.bool (decide (Z1.map ZV.p = Z2.map ZV.p))) ∧ Below w.heap.size w w' := by
  have hlen1 := hide h1.len
  have hlen2 := hide h2.len
  have hmax := h1.max
  have hle := h1.le
  go_enter Tryd.func35, Tryd.ntmps35
  go_wp2
  go_loopw [17] (fun i wr => ∃ k : Nat, k ≤ n ∧ i = .int .i64 k ∧ (Z1.take k).map ZV.p = (Z2.take k).map ZV.p ∧ Below w.heap.size w wr) (fun i _ => n - (intOf i).toNat)
  case atStart => exact ⟨0, by omega, rfl, by simp, Below.refl _ _⟩
  case round =>
    obtain ⟨k, hk, rfl, hp, hbr⟩ := hrel
    have HP := hide hp
    clear hp
    rename_i wr
    by_cases hlt : k < n
    · obtain ⟨z, hz⟩ : ∃ z, Z1[k]? = some z := ⟨Z1[k]'(by rw [hlen1.out]; exact hlt), by simp⟩
      obtain ⟨y, hy⟩ : ∃ z, Z2[k]? = some z := ⟨Z2[k]'(by rw [hlen2.out]; exact hlt), by simp⟩
      obtain ⟨c0, c1⟩ := hr1 k z hz
      obtain ⟨d0, d1⟩ := hr2 k y hy
      have iz := (h1.ok z (List.mem_of_getElem? hz)).below hbr (Nat.le_refl _)
      have iy := (h2.ok y (List.mem_of_getElem? hy)).below hbr (Nat.le_refl _)
      replace c0 := keepc hbr c0
      replace c1 := keepc hbr c1
      replace d0 := past1 (keepc hbr d0)
      replace d1 := past1 (keepc hbr d1)
      have HZ := hide hz
      have HY := hide hy
      have hlt' : (k : Int) < (n : Int) := by omega
      clear hz hy
      go_wp2_with (go_at_call 36; refine (Same_c z.s y.s z.a y.a z.n z.c y.n y.c z.l y.l _ (by refine Ints.below iz (B := wr.heap.size) ?_ (Nat.le_refl _); (repeat (first | exact Below.refl _ _ | assumption | refine Below.drew ?_ | refine below_drewN ?_ _ | refine belowA ?_ _ | refine belowT ?_ (by assumption) | refine Below.setCell ?_ (by first | (simp; done) | (simp; omega)) _))) (by refine Ints.below iy (B := wr.heap.size) ?_ (Nat.le_refl _); (repeat (first | exact Below.refl _ _ | assumption | refine Below.drew ?_ | refine below_drewN ?_ _ | refine belowA ?_ _ | refine belowT ?_ (by assumption) | refine Below.setCell ?_ (by first | (simp; done) | (simp; omega)) _)))).mono ?_; rintro e w9 ⟨rfl, hb9⟩)
      · rename_i hne
        go_ret
        exact ⟨ret_bool (decide_eq_false (map_ne Z1 Z2 k z y HZ.out HY.out (by simp at hne; rintro ⟨e1, e2⟩; rcases hne with h | h; exact h e1; exact h e2))).symm, by (repeat (first | exact Below.refl _ _ | assumption | refine Below.drew ?_ | refine below_drewN ?_ _ | refine belowA ?_ _ | refine belowT ?_ (by assumption) | refine Below.setCell ?_ (by first | (simp; done) | (simp; omega)) _))⟩
      · rename_i heq
        exact ⟨⟨k + 1, by omega, by go_num, map_take_step Z1 Z2 k z y HZ.out HY.out HP.out (by simpa using heq), by (repeat (first | exact Below.refl _ _ | assumption | refine Below.drew ?_ | refine below_drewN ?_ _ | refine belowA ?_ _ | refine belowT ?_ (by assumption) | refine Below.setCell ?_ (by first | (simp; done) | (simp; omega)) _))⟩, by simp [intOf]; omega⟩
    · obtain rfl : k = n := by omega
      go_wp2
      go_ret
      have hp := HP.out
      rw [List.take_of_length_le (by rw [hlen1.out]; omega), List.take_of_length_le (by rw [hlen2.out]; omega)] at hp
      exact ⟨ret_bool (by simp [hp]), hbr⟩

theorem EqualFuncY_ne (a1 a2 : Option Addr) (n1 n2 c1 c2 : Nat) (fv : Value) (w : World) (hne : n1 ≠ n2) (hm1 : n1 ≤ 9223372036854775807) (hm2 : n2 ≤ 9223372036854775807) :
    Calls Tryd.prog 35 #[.slice a1 n1 c1, .slice a2 n2 c2, fv] w fun e w' => e = .returned (.bool false) ∧ w' = w := by
  have hb : ((n1 : Int) != (n2 : Int)) = true := by simp; omega
  go_enter Tryd.func35, Tryd.ntmps35
  go_wp2
  go_ret
  exact ⟨rfl, rfl⟩

theorem EqualFuncY_zero (a1 a2 : Option Addr) (c1 c2 : Nat) (fv : Value) (w : World) :
    Calls Tryd.prog 35 #[.slice a1 0 c1, .slice a2 0 c2, fv] w fun e w' => e = .returned (.bool true) ∧ w' = w := by
  go_enter Tryd.func35, Tryd.ntmps35
  go_wp2
  refine wp_loop_rounds 1 ?_
  rw [rounds_succ]
  go_wp2
  go_ret
  exact ⟨rfl, rfl⟩

theorem EqualFuncY_c (a1 a2 : Option Addr) (n1 n2 c1 c2 : Nat) (Z1 Z2 : List ZV) (w : World) (h1 : Zones w a1 n1 c1 Z1) (h2 : Zones w a2 n2 c2 Z2) :
    Calls Tryd.prog 35 #[.slice a1 n1 c1, .slice a2 n2 c2, .func (Fn.func 36) #[] #[]] w fun e w' => e = .returned (.bool (decide (Z1.map ZV.p = Z2.map ZV.p))) ∧ Below w.heap.size w w' := by
  by_cases hn : n1 = n2
  · subst hn
    by_cases h0 : n1 = 0
    · subst h0
      have e1 := h1.len
      have e2 := h2.len
      rw [List.length_eq_zero_iff] at e1 e2
      subst e1 e2
      refine (EqualFuncY_zero a1 a2 c1 c2 _ w).mono ?_
      rintro e w' ⟨rfl, rfl⟩
      exact ⟨rfl, Below.refl _ _⟩
    · rcases h1.row with h | ⟨b1, o1, rfl, _, hr1⟩
      · omega
      · rcases h2.row with h | ⟨b2, o2, rfl, _, hr2⟩
        · omega
        · exact EqualFuncY_some b1 o1 c1 b2 o2 c2 n1 Z1 Z2 w h1 h2 hr1 hr2
  · have m1 := h1.max
    have m2 := h2.max
    have q1 := h1.le
    have q2 := h2.le
    refine (EqualFuncY_ne a1 a2 n1 n2 c1 c2 _ w hn (by omega) (by omega)).mono ?_
    rintro e w' ⟨rfl, rfl⟩
    exact ⟨ret_bool (decide_eq_false (map_len Z1 Z2 (by rw [h1.len, h2.len]; exact hn))).symm, Below.refl _ _⟩



theorem YSame_c (a1 a2 : Option Addr) (n1 n2 c1 c2 : Nat) (Z1 Z2 : List ZV) (w : World) (h1 : Zones w a1 n1 c1 Z1) (h2 : Zones w a2 n2 c2 Z2) :
    Calls Tryd.prog 17 #[.slice a1 n1 c1, .slice a2 n2 c2] w fun e w' => e = .returned (.bool (decide (Z1.map ZV.p = Z2.map ZV.p))) ∧ Below w.heap.size w w' := by
  go_enter Tryd.func17, Tryd.ntmps17
  go_wp2_with fail
  refine (EqualFuncY_c a1 a2 n1 n2 c1 c2 Z1 Z2 _ h1 h2).mono ?_
  rintro e w' ⟨rfl, hb⟩
  go_wp2
  go_ret
  exact ⟨rfl, hb⟩

end Go.Proofs.YtmjcoehllinoeacDoor
