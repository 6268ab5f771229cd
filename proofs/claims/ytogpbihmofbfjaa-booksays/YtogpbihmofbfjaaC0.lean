/- What a slice of zones is in a world, and plain facts on it; no condition. -/
import Derived.Test.YtogpbihmofbfjaaA3
namespace Go.Proofs.Ytogpbihmofbfjaa
open Go.RowKit
set_option linter.unusedVariables false
set_option maxRecDepth 100000
set_option linter.unusedSimpArgs false

/-- A zone's value: its state, its slice, the blocks that the slice reads as. -/
structure ZV where
  s : Int
  a : Option Addr
  n : Nat
  c : Nat
  l : List Int

/-- The zone as plain data. -/
def ZV.p (z : ZV) : Int × List Int := (z.s, z.l)
def ZV.ok (w : World) (z : ZV) : Prop := Ints w z.a z.n z.c z.l

/-- A slice value's zones in a world. -/
structure Zones (w : World) (a : Option Addr) (n c : Nat) (Z : List ZV) : Prop where
  len : Z.length = n
  le : n ≤ c
  max : c ≤ 9223372036854775807
  nil : a = none → c = 0
  row : n = 0 ∨ ∃ b off, a = some ⟨b, off, none⟩ ∧ b < w.heap.size ∧ ∀ i z, Z[i]? = some z → w.cell? ⟨b, off + i * 2, none⟩ = some (.int .i64 z.s) ∧ w.cell? ⟨b, off + i * 2 + 1, none⟩ = some (.slice z.a z.n z.c)
  ok : ∀ z ∈ Z, z.ok w

theorem Zones.below {w w' : World} {a : Option Addr} {n c : Nat} {Z : List ZV} (h : Zones w a n c Z) {B : Nat} (hb : Below B w w') (hB : w.heap.size ≤ B) : Zones w' a n c Z := by
  refine ⟨h.len, h.le, h.max, h.nil, ?_, fun z hz => (h.ok z hz).below hb hB⟩
  rcases h.row with h0 | ⟨b, off, ha, hlt, hc⟩
  · exact .inl h0
  · refine .inr ⟨b, off, ha, Nat.lt_of_lt_of_le hlt hb.size, fun i z hz => ?_⟩
    rw [hb.cell (p := ⟨b, off + i * 2, none⟩) (Nat.lt_of_lt_of_le hlt hB), hb.cell (p := ⟨b, off + i * 2 + 1, none⟩) (Nat.lt_of_lt_of_le hlt hB)]
    exact hc i z hz

def isO (s : Int) : Bool := s == 1 || s == 2
def isA (s : Int) : Bool := isO s || s == 3
def cnt (f : Int → Bool) (Z : List ZV) : Nat := (Z.filter fun z => f z.s).length

theorem cnt_le (f : Int → Bool) (Z : List ZV) : cnt f Z ≤ Z.length := List.length_filter_le _ _
theorem take_snoc (Z : List ZV) (k : Nat) (z : ZV) (h : Z[k]? = some z) : Z.take (k + 1) = Z.take k ++ [z] := by
  obtain ⟨hk, rfl⟩ := List.getElem?_eq_some_iff.1 h
  exact List.take_succ_eq_append_getElem hk
theorem cnt_snoc (f : Int → Bool) (Z : List ZV) (k : Nat) (z : ZV) (h : Z[k]? = some z) : cnt f (Z.take (k + 1)) = cnt f (Z.take k) + if f z.s then 1 else 0 := by
  unfold cnt
  rw [take_snoc Z k z h, List.filter_append, List.length_append]
  cases hf : f z.s <;> simp [List.filter_cons, hf]

theorem map_take_step (Z Y : List ZV) (k : Nat) (z y : ZV) (hz : Z[k]? = some z) (hy : Y[k]? = some y) (h : (Z.take k).map ZV.p = (Y.take k).map ZV.p) (hx : z.s = y.s ∧ z.l = y.l) : (Z.take (k + 1)).map ZV.p = (Y.take (k + 1)).map ZV.p := by
  rw [take_snoc Z k z hz, take_snoc Y k y hy, List.map_append, List.map_append, h]
  simp [ZV.p, hx.1, hx.2]
theorem map_ne (Z Y : List ZV) (k : Nat) (z y : ZV) (hz : Z[k]? = some z) (hy : Y[k]? = some y) (hx : ¬ (z.s = y.s ∧ z.l = y.l)) : Z.map ZV.p ≠ Y.map ZV.p := by
  intro h
  have := congrArg (fun L => L[k]?) h
  simp [List.getElem?_map, hz, hy, ZV.p] at this
  exact hx this
theorem map_len (Z Y : List ZV) (h : Z.length ≠ Y.length) : Z.map ZV.p ≠ Y.map ZV.p := fun e => h (by have := congrArg List.length e; simpa using this)

/-- The first zone's error, one by one. -/
def firstE : List (Int × List Int) → Int
  | [] => 0
  | z :: r => if checkZ z.1 z.2 ≠ 0 then checkZ z.1 z.2 else firstE r
def cntP (f : Int → Bool) (P : List (Int × List Int)) : Nat := (P.filter fun z => f z.1).length
/-- What Check answers of zones: plain. -/
def checkZs (P : List (Int × List Int)) : Int :=
  if P.length ≠ 4 then 4 else if firstE P ≠ 0 then firstE P else if 2 < cntP isO P ∨ 3 < cntP isA P then 7 else 0

theorem cnt_map (f : Int → Bool) (Z : List ZV) : cnt f Z = cntP f (Z.map ZV.p) := by
  unfold cnt cntP
  rw [List.filter_map, List.length_map]
  rfl
theorem firstE_append (P Q : List (Int × List Int)) (h : firstE P = 0) : firstE (P ++ Q) = firstE Q := by
  induction P with
  | nil => rfl
  | cons z r ih =>
    simp only [firstE] at h
    by_cases hz : checkZ z.1 z.2 = 0
    · simp [hz] at h
      simp only [List.cons_append, firstE, hz]
      simpa using ih h
    · simp [hz] at h
theorem firstE_step (Z : List ZV) (k : Nat) (z : ZV) (hz : Z[k]? = some z) (h : firstE ((Z.take k).map ZV.p) = 0) (hc : checkZ z.s z.l = 0) : firstE ((Z.take (k + 1)).map ZV.p) = 0 := by
  rw [take_snoc Z k z hz, List.map_append, firstE_append _ _ h]
  simp [firstE, ZV.p, hc]
theorem firstE_at (Z : List ZV) (k : Nat) (z : ZV) (hz : Z[k]? = some z) (h : firstE ((Z.take k).map ZV.p) = 0) (hc : checkZ z.s z.l ≠ 0) : firstE (Z.map ZV.p) = checkZ z.s z.l := by
  have e : Z = Z.take k ++ z :: Z.drop (k + 1) := by
    obtain ⟨hk, rfl⟩ := List.getElem?_eq_some_iff.1 hz
    rw [List.getElem_cons_drop, List.take_append_drop]
  rw [e, List.map_append, firstE_append _ _ h]
  simp [firstE, ZV.p, hc]
theorem firstE_all (P : List (Int × List Int)) (h : firstE P = 0) : ∀ z ∈ P, checkZ z.1 z.2 = 0 := by
  induction P with
  | nil => simp
  | cons z r ih =>
    simp only [firstE] at h
    by_cases hz : checkZ z.1 z.2 = 0
    · simp [hz] at h
      intro y hy
      rcases List.mem_cons.1 hy with rfl | hy
      · exact hz
      · exact ih h y hy
    · simp [hz] at h
theorem checkZs_1 {Z : List ZV} (h : Z.length ≠ 4) : 4 = checkZs (Z.map ZV.p) := by simp [checkZs, h]
theorem checkZs_2 {Z : List ZV} (h : Z.length = 4) {x : Int} (hx : firstE (Z.map ZV.p) = x) (h0 : x ≠ 0) : x = checkZs (Z.map ZV.p) := by simp [checkZs, h, hx, h0]
theorem checkZs_3 {Z : List ZV} (h : Z.length = 4) (hx : firstE (Z.map ZV.p) = 0) (h0 : 2 < cnt isO Z ∨ 3 < cnt isA Z) : 7 = checkZs (Z.map ZV.p) := by
  rw [cnt_map, cnt_map] at h0
  simp [checkZs, h, hx, h0]
theorem checkZs_0 {Z : List ZV} (h : Z.length = 4) (hx : firstE (Z.map ZV.p) = 0) (h0 : ¬ (2 < cnt isO Z ∨ 3 < cnt isA Z)) : 0 = checkZs (Z.map ZV.p) := by
  rw [cnt_map, cnt_map] at h0
  simp only [checkZs, List.length_map, h, hx, h0]
  simp

end Go.Proofs.Ytogpbihmofbfjaa
