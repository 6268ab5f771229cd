/- What a slice of zones is in a world, and plain facts on it; no condition. -/
import Derived.Test.YtcmladgldjcdmaaDoorHU1
import Derived.Deep.Slices
import Derived.Lib.ItoaMem
import Derived.Lib.ParseIntB
import Derived.Lib.IndexMore
import Derived.ChangeMaps5
import Derived.Laws.CopyOwn
import Derived.Deep.OwnRows
import Derived.KernelRfl
import Derived.Lib.AppendZeros
namespace Go.Proofs.YtcmladgldjcdmaaDoor
open Go.RowKit
set_option linter.unusedVariables false
set_option maxRecDepth 100000
set_option linter.unusedSimpArgs false

/-- A zone's value: its state, its slice, the blocks that the slice reads as. -/
structure ZV where
  s : Int
  a : Option Addr
  n : Nat
  c : Nat
  l : List Int

/-- The zone as plain data. -/
def ZV.p (z : ZV) : Int × List Int := (z.s, z.l)
def ZV.ok (w : World) (z : ZV) : Prop := Ints w z.a z.n z.c z.l

/-- A slice value's zones in a world. -/
structure Zones (w : World) (a : Option Addr) (n c : Nat) (Z : List ZV) : Prop where
  len : Z.length = n
  le : n ≤ c
  max : c ≤ 9223372036854775807
  nil : a = none → c = 0
  row : n = 0 ∨ ∃ b off, a = some ⟨b, off, none⟩ ∧ b < w.heap.size ∧ ∀ i z, Z[i]? = some z → w.cell? ⟨b, off + i * 2, none⟩ = some (.int .i64 z.s) ∧ w.cell? ⟨b, off + i * 2 + 1, none⟩ = some (.slice z.a z.n z.c)
  ok : ∀ z ∈ Z, z.ok w

theorem Zones.below {w w' : World} {a : Option Addr} {n c : Nat} {Z : List ZV} (h : Zones w a n c Z) {B : Nat} (hb : Below B w w') (hB : w.heap.size ≤ B) : Zones w' a n c Z := by
  refine ⟨h.len, h.le, h.max, h.nil, ?_, fun z hz => (h.ok z hz).below hb hB⟩
  rcases h.row with h0 | ⟨b, off, ha, hlt, hc⟩
  · exact .inl h0
  · refine .inr ⟨b, off, ha, Nat.lt_of_lt_of_le hlt hb.size, fun i z hz => ?_⟩
    rw [hb.cell (p := ⟨b, off + i * 2, none⟩) (Nat.lt_of_lt_of_le hlt hB), hb.cell (p := ⟨b, off + i * 2 + 1, none⟩) (Nat.lt_of_lt_of_le hlt hB)]
    exact hc i z hz

def isO (s : Int) : Bool := s == 1 || s == 2
def isA (s : Int) : Bool := isO s || s == 3
def cnt (f : Int → Bool) (Z : List ZV) : Nat := (Z.filter fun z => f z.s).length

theorem cnt_le (f : Int → Bool) (Z : List ZV) : cnt f Z ≤ Z.length := List.length_filter_le _ _
theorem take_snoc (Z : List ZV) (k : Nat) (z : ZV) (h : Z[k]? = some z) : Z.take (k + 1) = Z.take k ++ [z] := by
  obtain ⟨hk, rfl⟩ := List.getElem?_eq_some_iff.1 h
  exact List.take_succ_eq_append_getElem hk
theorem cnt_snoc (f : Int → Bool) (Z : List ZV) (k : Nat) (z : ZV) (h : Z[k]? = some z) : cnt f (Z.take (k + 1)) = cnt f (Z.take k) + if f z.s then 1 else 0 := by
  unfold cnt
  rw [take_snoc Z k z h, List.filter_append, List.length_append]
  cases hf : f z.s <;> simp [List.filter_cons, hf]

theorem map_take_step (Z Y : List ZV) (k : Nat) (z y : ZV) (hz : Z[k]? = some z) (hy : Y[k]? = some y) (h : (Z.take k).map ZV.p = (Y.take k).map ZV.p) (hx : z.s = y.s ∧ z.l = y.l) : (Z.take (k + 1)).map ZV.p = (Y.take (k + 1)).map ZV.p := by
  rw [take_snoc Z k z hz, take_snoc Y k y hy, List.map_append, List.map_append, h]
  simp [ZV.p, hx.1, hx.2]
theorem map_ne (Z Y : List ZV) (k : Nat) (z y : ZV) (hz : Z[k]? = some z) (hy : Y[k]? = some y) (hx : ¬ (z.s = y.s ∧ z.l = y.l)) : Z.map ZV.p ≠ Y.map ZV.p := by
  intro h
  have := congrArg (fun L => L[k]?) h
  simp [List.getElem?_map, hz, hy, ZV.p] at this
  exact hx this
theorem map_len (Z Y : List ZV) (h : Z.length ≠ Y.length) : Z.map ZV.p ≠ Y.map ZV.p := fun e => h (by have := congrArg List.length e; simpa using this)

/-- The first zone's error, one by one. -/
def firstE : List (Int × List Int) → Int
  | [] => 0
  | z :: r => if checkZ z.1 z.2 ≠ 0 then checkZ z.1 z.2 else firstE r
def cntP (f : Int → Bool) (P : List (Int × List Int)) : Nat := (P.filter fun z => f z.1).length
/-- What Check answers of zones: plain. -/
def checkZs (P : List (Int × List Int)) : Int :=
  if P.length ≠ 4 then 4 else if firstE P ≠ 0 then firstE P else if 2 < cntP isO P ∨ 3 < cntP isA P then 7 else 0

theorem cnt_map (f : Int → Bool) (Z : List ZV) : cnt f Z = cntP f (Z.map ZV.p) := by
  unfold cnt cntP
  rw [List.filter_map, List.length_map]
  rfl
theorem firstE_append (P Q : List (Int × List Int)) (h : firstE P = 0) : firstE (P ++ Q) = firstE Q := by
  induction P with
  | nil => rfl
  | cons z r ih =>
    simp only [firstE] at h
    by_cases hz : checkZ z.1 z.2 = 0
    · simp [hz] at h
      simp only [List.cons_append, firstE, hz]
      simpa using ih h
    · simp [hz] at h
theorem firstE_step (Z : List ZV) (k : Nat) (z : ZV) (hz : Z[k]? = some z) (h : firstE ((Z.take k).map ZV.p) = 0) (hc : checkZ z.s z.l = 0) : firstE ((Z.take (k + 1)).map ZV.p) = 0 := by
  rw [take_snoc Z k z hz, List.map_append, firstE_append _ _ h]
  simp [firstE, ZV.p, hc]
theorem firstE_at (Z : List ZV) (k : Nat) (z : ZV) (hz : Z[k]? = some z) (h : firstE ((Z.take k).map ZV.p) = 0) (hc : checkZ z.s z.l ≠ 0) : firstE (Z.map ZV.p) = checkZ z.s z.l := by
  have e : Z = Z.take k ++ z :: Z.drop (k + 1) := by
    obtain ⟨hk, rfl⟩ := List.getElem?_eq_some_iff.1 hz
    rw [List.getElem_cons_drop, List.take_append_drop]
  rw [e, List.map_append, firstE_append _ _ h]
  simp [firstE, ZV.p, hc]
theorem firstE_all (P : List (Int × List Int)) (h : firstE P = 0) : ∀ z ∈ P, checkZ z.1 z.2 = 0 := by
  induction P with
  | nil => simp
  | cons z r ih =>
    simp only [firstE] at h
    by_cases hz : checkZ z.1 z.2 = 0
    · simp [hz] at h
      intro y hy
      rcases List.mem_cons.1 hy with rfl | hy
      · exact hz
      · exact ih h y hy
    · simp [hz] at h
theorem checkZs_1 {Z : List ZV} (h : Z.length ≠ 4) : 4 = checkZs (Z.map ZV.p) := by simp [checkZs, h]
theorem checkZs_2 {Z : List ZV} (h : Z.length = 4) {x : Int} (hx : firstE (Z.map ZV.p) = x) (h0 : x ≠ 0) : x = checkZs (Z.map ZV.p) := by simp [checkZs, h, hx, h0]
theorem checkZs_3 {Z : List ZV} (h : Z.length = 4) (hx : firstE (Z.map ZV.p) = 0) (h0 : 2 < cnt isO Z ∨ 3 < cnt isA Z) : 7 = checkZs (Z.map ZV.p) := by
  rw [cnt_map, cnt_map] at h0
  simp [checkZs, h, hx, h0]
theorem checkZs_0 {Z : List ZV} (h : Z.length = 4) (hx : firstE (Z.map ZV.p) = 0) (h0 : ¬ (2 < cnt isO Z ∨ 3 < cnt isA Z)) : 0 = checkZs (Z.map ZV.p) := by
  rw [cnt_map, cnt_map] at h0
  simp only [checkZs, List.length_map, h, hx, h0]
  simp

end Go.Proofs.YtcmladgldjcdmaaDoor

/- How the arguments of the laws read: a slice of zones, a bool; no condition. -/
namespace Go.Proofs.YtcmladgldjcdmaaDoor
open Go.ChangeShapes Go.WideShapes Go.ChangeAt Go.RowKit Go.Joins
set_option linter.unusedVariables false
set_option maxRecDepth 100000
set_option linter.unusedSimpArgs false

/-- The cells of one zone, read. -/
theorem zone_of {H : Type} {enc : TypeId × Value → H} {W : World} {fuel : Nat} {cs : List Value} {y : DataW H × List MemPlace}
    (h : DataW.trod enc Tryd.prog W 0 (fun _ => true) true fuel 61 cs = some y) : ∃ z : ZV, cs = [.int .i64 z.s, .slice z.a z.n z.c] ∧ z.ok W := by
  obtain ⟨y0, y1, n, _, hl, h0, h1⟩ := trod_struct2 Tryd.underlying61 h
  rw [cellsZone] at hl
  match cs, hl with
  | [v0, v1], _ =>
    have k0 : DataW.trod enc Tryd.prog W 0 (fun _ => true) true n 3 [v0] = some y0 := h0
    have k1 : DataW.trod enc Tryd.prog W 0 (fun _ => true) true n 23 [v1] = some y1 := h1
    obtain ⟨s, e0, _, _⟩ := DataW.trod_int Tryd.underlying3 k0
    simp at e0
    subst e0
    obtain ⟨a, n, c, l, rfl, hi⟩ := ints_of k1
    exact ⟨⟨s, a, n, c, l⟩, rfl, hi⟩

theorem zones_of {H : Type} {enc : TypeId × Value → H} {W : World} {fuel : Nat} {v : Value} {y : DataW H × List MemPlace}
    (h : DataW.trod enc Tryd.prog W 0 (fun _ => true) true fuel 22 [v] = some y) : ∃ a n c Z, v = .slice a n c ∧ Zones W a n c Z := by
  rcases Go.Deep.open_slice Tryd.underlying22 h with ⟨hcs, _⟩ | ⟨x, len, cap, m, n, D, Pl, hcs, _, hl, hm, hmm, _, hel⟩
  · simp at hcs
    subst hcs
    exact ⟨none, 0, 0, [], rfl, ⟨rfl, Nat.le_refl _, by omega, fun _ => rfl, .inl rfl, by simp⟩⟩
  · simp at hcs
    subst hcs
    have hm' : m = cap := by simpa using hmm
    subst hm'
    have hz : ∀ i, i < len → ∃ z : ZV, z.ok W ∧ W.cell? (x.add (i * 2)) = some (.int .i64 z.s) ∧ W.cell? ((x.add (i * 2)).add 1) = some (.slice z.a z.n z.c) := by
      intro i hi
      obtain ⟨cs', h1, h2⟩ := hel i (by omega)
      rw [cellsZone] at h1
      obtain ⟨z, rfl, hz⟩ := zone_of h2
      obtain ⟨_, _, hc⟩ := World.cells?_some h1
      exact ⟨z, hz, by simpa [Addr.add] using hc 0 (by omega), by simpa using hc 1 (by omega)⟩
    have dft : Inhabited ZV := ⟨⟨0, none, 0, 0, []⟩⟩
    obtain ⟨f, hf⟩ := Go.Deep.choose_lt hz
    refine ⟨some x, len, m, (List.range len).map f, rfl, ⟨by simp, hl, hm, fun e => (by cases e), ?_, ?_⟩⟩
    · by_cases h0 : len = 0
      · exact .inl h0
      · obtain ⟨b, off, spot⟩ := x
        have hc0 := (hf 0 (by omega)).2.1
        have hspot : spot = none := by simpa [Addr.add] using World.cell?_spot hc0
        subst hspot
        refine .inr ⟨b, off, rfl, World.block_lt_of_cell? W ⟨b, off, none⟩ (by simpa [Addr.add] using hc0), fun i z hz => ?_⟩
        have hi : i < len := by have := (List.getElem?_eq_some_iff.1 hz).1; simpa using this
        rw [List.getElem?_map, List.getElem?_range hi] at hz
        simp at hz
        subst hz
        obtain ⟨_, h1, h2⟩ := hf i hi
        rw [addr_add] at h1 h2
        rw [addr_add] at h2
        exact ⟨h1, h2⟩
    · intro z hz
      simp at hz
      obtain ⟨i, hi, rfl⟩ := hz
      exact (hf i hi).1

end Go.Proofs.YtcmladgldjcdmaaDoor

/- Books as plain data, and what the document's calls make of them; plain mathematics, no condition. -/
namespace Go.Proofs.YtcmladgldjcdmaaDoor
open Go.RowKit
set_option linter.unusedVariables false
set_option maxRecDepth 100000
set_option linter.unusedSimpArgs false

/-- A book: keys, holder, type. -/
structure PB where
  k : List Int
  h : Int
  t : Int

def zeroB : PB := ⟨[], 0, 0⟩
def freshB : PB := ⟨[0, 0, 0], -1, 0⟩
def keyOf (b : PB) (i : Int) : Int := b.k.getD i.toNat 0
/-- What Check answers. -/
def checkB (b : PB) : Int :=
  if b.k.length ≠ 3 then 4
  else if b.k.any (outB 0 9) ∨ outB (-1) 2 b.h ∨ outB 0 4 b.t then 3
  else if b.h = -1 ∧ b.t ≠ 0 ∨ b.h ≠ -1 ∧ (b.t = 0 ∨ keyOf b b.h = 0) then 4 else 0
/-- What is wrong first: the book, or the hand. -/
def preB (b : PB) (who : Int) : Int := if checkB b ≠ 0 then checkB b else if inB who 0 2 then 0 else 5
def sameB (a b : PB) : Bool := decide (a.k = b.k ∧ a.h = b.h ∧ a.t = b.t)
def registerB (b : PB) (who key : Int) : PB × Int :=
  if preB b who ≠ 0 then (zeroB, preB b who)
  else if inB key 0 9 = false then (zeroB, 3)
  else if key = 0 ∧ b.h = who then (⟨b.k.set who.toNat key, -1, 0⟩, 0) else (⟨b.k.set who.toNat key, b.h, b.t⟩, 0)
def reserveB (b : PB) (who kind : Int) : PB × Int :=
  if preB b who ≠ 0 then (zeroB, preB b who)
  else if inB kind 1 4 = false then (zeroB, 3)
  else if keyOf b who = 0 ∨ b.h ≠ -1 ∧ ¬ (b.h = who ∧ b.t = kind) then (zeroB, 8) else (⟨b.k, who, kind⟩, 0)
def releaseB (b : PB) (who : Int) : PB × Int :=
  if preB b who ≠ 0 then (zeroB, preB b who)
  else if keyOf b who = 0 then (zeroB, 8)
  else if b.h = who then (⟨b.k, -1, 0⟩, 0) else (b, 0)
/-- The keys when all others with this key are struck. -/
def strike (l : List Int) (who key : Int) : List Int := l.mapIdx fun i x => if x = key ∧ (i : Int) ≠ who then 0 else x
def preemptB (b : PB) (who key : Int) : PB × Int :=
  if preB b who ≠ 0 then (zeroB, preB b who)
  else if inB key 1 9 = false then (zeroB, 3)
  else if keyOf b who = 0 then (zeroB, 8)
  else (⟨strike b.k who key, if b.h ≠ -1 ∧ b.h ≠ who ∧ keyOf b b.h = key then who else b.h, b.t⟩, 0)
def clearB (b : PB) (who : Int) : PB × Int :=
  if preB b who ≠ 0 then (zeroB, preB b who)
  else if keyOf b who = 0 then (zeroB, 8) else (freshB, 0)
def mightB (b : PB) (who : Int) (write : Bool) : Bool :=
  decide (b.h = -1 ∨ b.h = who ∨ (write = false ∧ (b.t = 1 ∨ b.t = 3)) ∨ ((b.t = 3 ∨ b.t = 4) ∧ keyOf b who ≠ 0))
def mayB (b : PB) (who : Int) (write : Bool) : Bool × Int :=
  if preB b who ≠ 0 then (false, preB b who) else (mightB b who write, 0)

/-- A book's value in a world. -/
def bookV (a : Option Addr) (n c : Nat) (b : PB) : Value := .agg #[.slice a n c, .int .i64 b.h, .int .i64 b.t]

theorem three {l : List Int} (h : l.length = 3) : ∃ x y z, l = [x, y, z] := by
  match l, h with
  | [x, y, z], _ => exact ⟨x, y, z, rfl⟩

/-- What is known of a right book. -/
theorem checkB_ok {b : PB} (h : checkB b = 0) : ∃ x y z, b.k = [x, y, z] ∧ (0 ≤ x ∧ x ≤ 9) ∧ (0 ≤ y ∧ y ≤ 9) ∧ (0 ≤ z ∧ z ≤ 9) ∧ (b.h = -1 ∧ b.t = 0 ∨ (b.h = 0 ∨ b.h = 1 ∨ b.h = 2) ∧ (1 ≤ b.t ∧ b.t ≤ 4) ∧ keyOf b b.h ≠ 0) := by
  unfold checkB at h
  by_cases h3 : b.k.length = 3
  · obtain ⟨x, y, z, e⟩ := three h3
    refine ⟨x, y, z, e, ?_⟩
    simp only [h3, ne_eq, not_true_eq_false, if_false] at h
    split at h
    · omega
    · rename_i h1
      split at h
      · omega
      · rename_i h2
        rw [e] at h1
        simp [outB] at h1
        omega
  · simp [h3] at h

theorem Ints.three {w : World} {a : Option Addr} {c : Nat} {x y z : Int} (h : Ints w a 3 c [x, y, z]) : ∃ g off, a = some ⟨g, off, none⟩ ∧ w.cell? ⟨g, off, none⟩ = some (.int .i64 x) ∧ w.cell? ⟨g, off + 1, none⟩ = some (.int .i64 y) ∧ w.cell? ⟨g, off + 2, none⟩ = some (.int .i64 z) := by
  rcases h.row with h0 | ⟨g, off, ha, _, hc⟩
  · omega
  · exact ⟨g, off, ha, hc 0 (by omega), hc 1 (by omega), hc 2 (by omega)⟩

theorem checkB_len {b : PB} (h : b.k.length ≠ 3) : checkB b = 4 := by simp [checkB, h]
theorem checkB_3 {b : PB} (h : b.k.length = 3) (h2 : b.k.any (outB 0 9) = true ∨ outB (-1) 2 b.h = true ∨ outB 0 4 b.t = true) : checkB b = 3 := by
  unfold checkB
  rw [if_neg (by simp [h]), if_pos h2]
theorem checkB_4 {b : PB} (h : b.k.length = 3) (h2 : ¬ (b.k.any (outB 0 9) = true ∨ outB (-1) 2 b.h = true ∨ outB 0 4 b.t = true)) (h3 : b.h = -1 ∧ b.t ≠ 0 ∨ b.h ≠ -1 ∧ (b.t = 0 ∨ keyOf b b.h = 0)) : checkB b = 4 := by
  unfold checkB
  rw [if_neg (by simp [h]), if_neg h2, if_pos h3]
theorem checkB_0 {b : PB} (h : b.k.length = 3) (h2 : ¬ (b.k.any (outB 0 9) = true ∨ outB (-1) 2 b.h = true ∨ outB 0 4 b.t = true)) (h3 : ¬ (b.h = -1 ∧ b.t ≠ 0 ∨ b.h ≠ -1 ∧ (b.t = 0 ∨ keyOf b b.h = 0))) : checkB b = 0 := by
  unfold checkB
  rw [if_neg (by simp [h]), if_neg h2, if_neg h3]

end Go.Proofs.YtcmladgldjcdmaaDoor

/- How the arguments of the laws read: a book; no condition. -/
namespace Go.Proofs.YtcmladgldjcdmaaDoor
open Go.ChangeShapes Go.WideShapes Go.ChangeAt Go.RowKit Go.Joins
set_option linter.unusedVariables false
set_option maxRecDepth 100000
set_option linter.unusedSimpArgs false

end Go.Proofs.YtcmladgldjcdmaaDoor

/- Numbers as texts: what is written is read, and is written so alone; plain mathematics, no condition. -/
namespace Go.Proofs.YtcmladgldjcdmaaDoor
open Go.Lib
set_option linter.unusedVariables false
set_option maxRecDepth 100000
set_option linter.unusedSimpArgs false

end Go.Proofs.YtcmladgldjcdmaaDoor

/- Commands as plain data, and what the document's calls make of them; plain mathematics, no condition. -/
namespace Go.Proofs.YtcmladgldjcdmaaDoor
open Go.RowKit
set_option linter.unusedVariables false
set_option maxRecDepth 100000
set_option linter.unusedSimpArgs false

/-- A command: its fields in Go's order. -/
structure PC where
  k : Int
  z : Int
  n : Int
  at' : Int
  d : List Int

def cmdV (a : Option Addr) (n c : Nat) (b : PC) : Value := .agg #[.int .i64 b.k, .int .i64 b.z, .int .i64 b.n, .int .i64 b.at', .slice a n c]
def zeroC : PC := ⟨0, 0, 0, 0, []⟩
def hasZ (k : Int) : Bool := decide (1 ≤ k) && decide (k ≤ 7)
def hasA (k : Int) : Bool := k == 6 || k == 7
def hasN (k : Int) : Bool := k == 7 || k == 8 || k == 9 || k == 11
def hasD (k : Int) : Bool := k == 5 || k == 6
/-- What Check answers. -/
def checkC (b : PC) : Int :=
  if outB 1 12 b.k then 4
  else if (b.z ≠ 0 ∧ hasZ b.k = false) ∨ (b.at' ≠ 0 ∧ hasA b.k = false) ∨ (b.n ≠ 0 ∧ hasN b.k = false) then 4
  else if hasD b.k = decide (b.d = []) then 4
  else if 8 < b.d.length then 2
  else if outB 0 999 b.z ∨ outB 0 999 b.at' ∨ outB 0 999 b.n ∨ b.d.any (outB 0 999) then 3 else 0
end Go.Proofs.YtcmladgldjcdmaaDoor

/- How the arguments of the laws read: a command, a text; no condition. -/
namespace Go.Proofs.YtcmladgldjcdmaaDoor
open Go.ChangeShapes Go.WideShapes Go.ChangeAt Go.RowKit Go.Joins Go.ChangeMaps
set_option linter.unusedVariables false
set_option maxRecDepth 100000
set_option linter.unusedSimpArgs false

theorem array5 {α : Type} {cs : Array α} (h : cs.size = 5) : ∃ c0 c1 c2 c3 c4, cs = #[c0, c1, c2, c3, c4] := by
  obtain ⟨l⟩ := cs
  match l, h with
  | [c0, c1, c2, c3, c4], _ => exact ⟨c0, c1, c2, c3, c4, rfl⟩

theorem list5 {α : Type} {xs : List α} (h : xs.length = 5) : ∃ c0 c1 c2 c3 c4, xs = [c0, c1, c2, c3, c4] := by
  match xs, h with
  | [c0, c1, c2, c3, c4], _ => exact ⟨c0, c1, c2, c3, c4, rfl⟩

theorem cellsCmd : Tryd.prog.cellsOf 32 = 5 := by kernel_rfl

end Go.Proofs.YtcmladgldjcdmaaDoor

/- The contracts of zone.Write, zone.Read and what they call; no condition but that the zone reads as its state and list. -/
namespace Go.Proofs.YtcmladgldjcdmaaDoor
open Go.RowKit
set_option linter.unusedVariables false
set_option maxRecDepth 100000
set_option linter.unusedSimpArgs false

/-- What is wrong with writing k behind l in a zone of state s: plain. -/
def writeE (s : Int) (l k : List Int) : Int :=
  if checkZ s l ≠ 0 then checkZ s l else if outB 1 8 k.length then 2 else if k.any (outB 0 999) then 3 else if s = 4 ∨ 8 < l.length + k.length then 7 else 0

theorem checkZ_len {s : Int} {l : List Int} (h : checkZ s l = 0) : 0 ≤ s ∧ s ≤ 4 ∧ l.length ≤ 8 ∧ l.any (outB 0 999) = false ∧ fitsB s l.length = true := by
  unfold checkZ at h
  by_cases h1 : outB 0 4 s = true
  · simp [h1] at h
  · have h5 : 0 ≤ s ∧ s ≤ 4 := by simp [outB] at h1; omega
    by_cases h2 : 8 < l.length
    · simp [h1, h2] at h
    · by_cases h3 : l.any (outB 0 999) = true
      · simp only [h1, h2, h3] at h; simp at h
      · by_cases h4 : fitsB s l.length = true
        · exact ⟨h5.1, h5.2, by omega, by simpa using h3, h4⟩
        · simp only [h1, h2, h3, h4] at h; simp at h

theorem writeE_eq {s : Int} {l k : List Int} {n m : Nat} {x : Int} (hx : checkZ s l = x) (g1 : l.length = n) (g2 : k.length = m) :
    writeE s l k = if (x != 0) = true then x else if outB 1 8 m = true then 2 else if k.any (outB 0 999) = true then 3 else if s = 4 ∨ 8 < wrap64 ((n : Int) + m) then 7 else 0 := by
  unfold writeE
  rw [g1, g2]
  by_cases h0 : x = 0
  · have hz := checkZ_len (hx.trans h0)
    by_cases h1 : outB 1 8 m = true
    · simp [hx, h0, h1]
    · have hm : m ≤ 8 := by simp [outB] at h1; omega
      rw [IntWalk.wrap64_in ((n : Int) + m) (by omega)]
      have e : (8 < n + m) = ((8 : Int) < (n : Int) + (m : Int)) := by apply propext; omega
      simp only [hx, h0, h1, e]
      simp
  · simp [hx, h0]

set_option maxHeartbeats 1000000 in
theorem checkWrite_c (s : Int) (a : Option Addr) (n c : Nat) (l : List Int) (b : Option Addr) (m d : Nat) (k : List Int) (w : World) (h1 : Ints w a n c l) (h2 : Ints w b m d k) :
    Calls Tryd.prog 98 #[.agg #[.int .i64 s, .slice a n c], .slice b m d] w fun e w' => e = .returned (.int .i64 (writeE s l k)) ∧ Below w.heap.size w w' := by
  have hl1 := hide h1.len
  have hl2 := hide h2.len
  have hm1 := h1.max
  have hm2 := h2.max
  have hc1 := h1.le
  have hc2 := h2.le
  go_enter Tryd.func98, Tryd.ntmps98
  go_wp2_with fail
  refine (Check_c s a n c l _ ?hi).mono ?hm
  case hi => refine h1.below (B := w.heap.size) ?_ (Nat.le_refl _); (repeat first | exact bel0 | assumption | refine bel1 ?_ | refine bel2 ?_ | refine bel3 ?_ | refine belowT ?_ (by assumption) | refine bel5 ?_ (by simp; try omega))
  rintro e w1 ⟨rfl, hb1⟩
  have c0 : w1.cell? ⟨w.heap.size, 0, none⟩ = some (.int .i64 s) := by rw [hb1.cell (by simp)]; go_simp
  have c1 : w1.cell? ⟨w.heap.size, 1, none⟩ = some (.slice a n c) := by rw [hb1.cell (by simp)]; go_simp
  have z1 : w.heap.size < w1.heap.size := by have := hb1.size; simp at this; omega
  have c04 := past4 c0
  have c14 := past4 c1
  generalize hchk : checkZ s l = x
  have HCHK := hide hchk
  clear hchk
  go_wp2_with (first | (go_at_call 65; refine (outside_c _ _ _).mono ?_; rintro e w' ⟨rfl, rfl⟩) | (go_at_call 76; refine (outside1_c _ 1 8 _ _ _ ?hg1 ?hh1).mono ?hm1; (case hg1 => (first | (go_simp; done) | (simp [*, World.cell?_alloc_at, World.cell?_alloc_past, World.cell?_alloc_some, World.cell?_setCell_far]; done))); (case hh1 => (first | (go_simp; done) | (simp [*, World.cell?_alloc_at, World.cell?_alloc_past, World.cell?_alloc_some, World.cell?_setCell_far]; done))); rintro e w' ⟨rfl, rfl⟩) | (go_at_call 56; refine (ContainsFunc_c b m d k 0 999 _ _ _ ?hi2 ?hg2 ?hh2).mono ?hm2; (case hi2 => refine h2.below (B := w.heap.size) ?_ (Nat.le_refl _); (repeat first | exact bel0 | assumption | refine bel1 ?_ | refine bel2 ?_ | refine bel3 ?_ | refine belowT ?_ (by assumption) | refine bel5 ?_ (by simp; try omega))); (case hg2 => (first | (go_simp; done) | (simp [*, World.cell?_alloc_at, World.cell?_alloc_past, World.cell?_alloc_some, World.cell?_setCell_far]; done))); (case hh2 => (first | (go_simp; done) | (simp [*, World.cell?_alloc_at, World.cell?_alloc_past, World.cell?_alloc_some, World.cell?_setCell_far]; done))); rintro e w' ⟨rfl, rfl⟩))
  all_goals
    have hw := writeE_eq HCHK.out hl1.out hl2.out
    go_ret
    refine ⟨ret_int ?_, by (repeat first | exact bel0 | assumption | refine bel1 ?_ | refine bel2 ?_ | refine bel3 ?_ | refine belowT ?_ (by assumption) | refine bel5 ?_ (by simp; try omega))⟩
    go_light
    rw [hw]
    clear hw hl1 hl2 h1 h2 HCHK
    generalize k.any (outB 0 999) = A at *
    generalize outB 1 8 (m : Int) = B at *
    (repeat' split) <;> first | rfl | (exfalso; simp_all; done) | (exfalso; simp_all; omega) | (exfalso; omega)

theorem infoInt : (Tryd.prog.info? 3).map (fun i => (i.zero, i.size, i.bytes)) = some (some (.int .i64 0), 1, 8) := by kernel_rfl
theorem sizeInt : (Tryd.prog.info? 3).map (·.size) = some 1 := by kernel_rfl

set_option maxHeartbeats 1000000 in
theorem join_none (a : Option Addr) (n c : Nat) (l : List Int) (b : Option Addr) (d : Nat) (w : World) (h1 : Ints w a n c l) (hnm : n ≤ 1000000) :
    Calls Tryd.prog 86 #[.slice a n c, .slice b 0 d] w fun e w' => (e = .returned (.slice (some ⟨w.heap.size, 0, none⟩) n n) ∧ Ints w' (some ⟨w.heap.size, 0, none⟩) n n l) ∧ Below w.heap.size w w' := by
  have hmk := run_make_row' (P := Tryd.prog) 23 3 (.int .i64 0) 8 Tryd.underlying23 infoInt rfl .i64 .i64 n (by omega) (by omega)
  go_enter Tryd.func86, Tryd.ntmps86
  go_wp2_with fail
  obtain ⟨w2, r2, g2, b2⟩ := copy_run (P := Tryd.prog) (w.alloc (.cells (madeCells #[.int .i64 0] n) 3)) 23 23 3 3 Tryd.underlying23 sizeInt (some ⟨w.heap.size, 0, none⟩) a n n n c w.heap.size 0
    (madeCells #[.int .i64 0] n).toList 3 (heap_new _ _) (cellsOf l) (by rw [cellsOf_len, h1.len]; exact (Nat.min_self n).symm) (fun hp => ⟨rfl, (h1.below (B := w.heap.size) (by (repeat first | exact bel0 | assumption | refine bel1 ?_ | refine bel2 ?_ | refine bel3 ?_ | refine belowT ?_ (by assumption) | refine bel5 ?_ (by simp; try omega))) (Nat.le_refl _)).src (by rw [cellsOf_len, h1.len] at hp; exact hp)⟩) (by simp [size_madeCells, cellsOf_len, h1.len]) (cellsOf_one l)
  rw [r2]
  have G2 := hide g2
  clear g2 r2
  go_wp2_with fail
  rw [run_copy_none (P := Tryd.prog) _ 23 23 3 3 _ _ _ _ _ _ Tryd.underlying23 sizeInt (by first | rfl | simp)]
  go_wp2
  go_ret
  have g2 := G2.out
  rw [splice_one _ _ (by simp [size_madeCells, cellsOf_len, h1.len])] at g2
  exact ⟨⟨rfl, Ints.of_row g2 (by rw [h1.len]; omega) h1.wf h1.len⟩, (belowA (Below.refl _ _) _).trans b2⟩

set_option maxHeartbeats 1000000 in
theorem join_some (a : Option Addr) (n c : Nat) (l : List Int) (b : Option Addr) (m d : Nat) (k : List Int) (w : World) (h1 : Ints w a n c l) (h2 : Ints w b m d k) (hnm : n + m ≤ 1000000) (hm : 0 < m) :
    Calls Tryd.prog 86 #[.slice a n c, .slice b m d] w fun e w' => (e = .returned (.slice (some ⟨w.heap.size, 0, none⟩) (n + m) (n + m)) ∧ Ints w' (some ⟨w.heap.size, 0, none⟩) (n + m) (n + m) (l ++ k)) ∧ Below w.heap.size w w' := by
  have hmk := run_make_row' (P := Tryd.prog) 23 3 (.int .i64 0) 8 Tryd.underlying23 infoInt rfl .i64 .i64 (n + m) (by omega) (by omega)
  rw [Int.natCast_add] at hmk
  go_enter Tryd.func86, Tryd.ntmps86
  go_wp2_with fail
  obtain ⟨w2, r2, g2, b2⟩ := copy_run (P := Tryd.prog) (w.alloc (.cells (madeCells #[.int .i64 0] (n + m)) 3)) 23 23 3 3 Tryd.underlying23 sizeInt (some ⟨w.heap.size, 0, none⟩) a (n + m) (n + m) n c w.heap.size 0
    (madeCells #[.int .i64 0] (n + m)).toList 3 (heap_new _ _) (cellsOf l) (by rw [cellsOf_len, h1.len]; exact (Nat.min_eq_left (by omega)).symm) (fun hp => ⟨rfl, (h1.below (B := w.heap.size) (by (repeat first | exact bel0 | assumption | refine bel1 ?_ | refine bel2 ?_ | refine bel3 ?_ | refine belowT ?_ (by assumption) | refine bel5 ?_ (by simp; try omega))) (Nat.le_refl _)).src (by rw [cellsOf_len, h1.len] at hp; exact hp)⟩) (by simp [size_madeCells, cellsOf_len, h1.len]) (cellsOf_one l)
  have bw2 : Below w.heap.size w w2 := (belowA (Below.refl _ _) _).trans b2
  obtain ⟨w3, r3, g3, b3⟩ := copy_run (P := Tryd.prog) w2 23 23 3 3 Tryd.underlying23 sizeInt (some ⟨w.heap.size, n, none⟩) b m m m d w.heap.size n
    _ 3 g2 (cellsOf k) (by rw [cellsOf_len, h2.len]; exact (Nat.min_self m).symm) (fun hp => ⟨rfl, (h2.below (B := w.heap.size) bw2 (Nat.le_refl _)).src hm⟩) (by rw [length_splice _ _ _ (by simp [size_madeCells, cellsOf_len, h1.len])]; simp [size_madeCells, cellsOf_len, h2.len]) (cellsOf_one k)
  rw [r2]
  have G3 := hide g3
  have R3 := hide r3
  clear g2 r2 g3 r3
  have hm0 : ¬ m = 0 := by omega
  go_wp2_with fail
  rw [R3.out]
  go_wp2
  go_ret
  have g3 := G3.out
  have hs := splice_two (madeCells #[.int .i64 0] (n + m)).toList (cellsOf l) (cellsOf k) (by simp [size_madeCells, cellsOf_len, h1.len, h2.len])
  rw [cellsOf_len, h1.len] at hs
  rw [hs, cellsOf_app] at g3
  exact ⟨⟨rfl, Ints.of_row g3 (by rw [List.length_append, h1.len, h2.len]; omega) (h1.app_wf h2) (by rw [List.length_append, h1.len, h2.len])⟩, bw2.trans b3⟩

theorem join_c (a : Option Addr) (n c : Nat) (l : List Int) (b : Option Addr) (m d : Nat) (k : List Int) (w : World) (h1 : Ints w a n c l) (h2 : Ints w b m d k) (hnm : n + m ≤ 1000000) :
    Calls Tryd.prog 86 #[.slice a n c, .slice b m d] w fun e w' => (e = .returned (.slice (some ⟨w.heap.size, 0, none⟩) (n + m) (n + m)) ∧ Ints w' (some ⟨w.heap.size, 0, none⟩) (n + m) (n + m) (l ++ k)) ∧ Below w.heap.size w w' := by
  rcases Nat.eq_zero_or_pos m with hm | hm
  · subst hm
    have hk := h2.len
    rw [List.length_eq_zero_iff] at hk
    subst hk
    rw [List.append_nil, Nat.add_zero]
    exact join_none a n c l b d w h1 (by omega)
  · exact join_some a n c l b m d k w h1 h2 hnm hm

end Go.Proofs.YtcmladgldjcdmaaDoor

/- The contracts of slices.Grow on nil, and of slices.Concat of two lists; under conditions on their lengths alone. -/
namespace Go.Proofs.YtcmladgldjcdmaaDoor
open Go.RowKit
set_option linter.unusedVariables false
set_option maxRecDepth 100000
set_option linter.unusedSimpArgs false

/-- An owned list of ints. -/
def OwnI (w : World) (base : Nat) (v : Value) (l : List Int) : Prop := w.ownsRow base 3 1 v l.length (cellsOf l)

theorem OwnI.ints {w : World} {base : Nat} {v : Value} {l : List Int} (h : OwnI w base v l) (hwf : ∀ x ∈ l, -9223372036854775808 ≤ x ∧ x ≤ 9223372036854775807) :
    ∃ a c, v = .slice a l.length c ∧ Ints w a l.length c l ∧ ∀ x, a = some x → base ≤ x.block := by
  obtain ⟨hlen, h⟩ := h
  rcases h with ⟨rfl, h0⟩ | ⟨g, cap, cur, rfl, hb, hg, hn, hm, hs, hc⟩
  · rw [List.length_eq_zero_iff] at h0
    subst h0
    exact ⟨none, 0, rfl, Ints.nilSlice w, fun x h => by cases h⟩
  · refine ⟨_, cap, rfl, ?_, fun x h => by cases h; exact hb⟩
    refine ⟨rfl, hn, by simp [maxLen] at hm; omega, fun e => (by cases e), .inr ⟨g, 0, rfl, (Array.getElem?_eq_some_iff.1 hg).1, fun i hi => ?_⟩, hwf⟩
    rw [cell_of_row w g _ _ _ _ hg, Nat.zero_add]
    have := congrArg (fun L => L[i]?) hc
    simp only [Nat.mul_one, List.getElem?_take, hi, if_true] at this
    rw [cellsOf_get l i hi] at this
    simpa using this

theorem OwnI.base {w : World} {base q n cap : Nat} {l : List Int} (h : OwnI w base (.slice (some ⟨q, 0, none⟩) n cap) l) : base ≤ q := by
  obtain ⟨_, h⟩ := h
  rcases h with ⟨e, _⟩ | ⟨g, cap, cur, e, hb, _⟩
  · cases e
  · cases e; exact hb

end Go.Proofs.YtcmladgldjcdmaaDoor

/- The contract of zone.wake; no condition but that the pointer leads to a zone. -/
namespace Go.Proofs.YtcmladgldjcdmaaDoor
open Go.RowKit
set_option linter.unusedVariables false
set_option maxRecDepth 100000
set_option linter.unusedSimpArgs false

/-- The state of a zone of state s behind a write that makes it n blocks long. -/
def writeS (s : Int) (n : Nat) : Int := if n = 8 then 4 else if s = 2 then 2 else 1

theorem writeS_1 {s : Int} {n : Nat} (h : ((n : Int) == 8) = true) : writeS s n = 4 := by simp at h; simp [writeS]; omega
theorem writeS_2 {s : Int} {n : Nat} (h : ((n : Int) == 8) = false) (hs : (s != 2) = true) : writeS s n = 1 := by simp at h hs; simp [writeS, hs]; omega
theorem writeS_3 {s : Int} {n : Nat} (h : ((n : Int) == 8) = false) (hs : (s != 2) = false) : writeS s n = s := by simp at h hs; simp [writeS, hs]; omega

theorem wake_c (g : Nat) (s : Int) (a : Option Addr) (n c : Nat) (w : World) (h0 : w.cell? ⟨g, 0, none⟩ = some (.int .i64 s)) (h1 : w.cell? ⟨g, 1, none⟩ = some (.slice a n c)) (f0 : w.frozen? ⟨g, 0, none⟩ = false) (hn : n ≤ 9223372036854775807) :
    Calls Tryd.prog 99 #[.pointer (some ⟨g, 0, none⟩)] w fun e w' => (∃ v, e = .returned v) ∧ Put w w' ⟨g, 0, none⟩ (.int .i64 (writeS s n)) := by
  have hp := Put.refl h0
  go_enter Tryd.func99, Tryd.ntmps99
  go_wp2
  · go_end0
    exact ⟨⟨_, rfl⟩, by rw [writeS_1 ‹_›]; exact (hp.set _).set _⟩
  · go_end0
    exact ⟨⟨_, rfl⟩, by rw [writeS_2 ‹_› ‹_›]; exact hp.set _⟩
  · go_end0
    exact ⟨⟨_, rfl⟩, by rw [writeS_1 ‹_›]; exact hp.set _⟩
  · go_end0
    exact ⟨⟨_, rfl⟩, by rw [writeS_3 ‹_› ‹_›]; exact hp⟩

end Go.Proofs.YtcmladgldjcdmaaDoor
