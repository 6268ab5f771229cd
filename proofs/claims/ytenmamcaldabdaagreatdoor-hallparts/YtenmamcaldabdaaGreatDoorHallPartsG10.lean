/- What is done to disks, plain, and what a crash leaves; plain mathematics, no condition. -/
import Derived.Test.YtenmamcaldabdaaGreatDoorHallPartsG9
import Derived.Test.YtenmamcaldabdaaGreatDoorHallPartsG2
import Derived.Test.YtenmamcaldabdaaGreatDoorHallPartsG3
import Derived.Test.YtenmamcaldabdaaGreatDoorHallPartsG8
import Derived.Test.YtenmamcaldabdaaGreatDoorHallPartsG4
namespace Go.Proofs.YtenmamcaldabdaaGreatDoor
open Go.RowKit
set_option linter.unusedVariables false
set_option maxRecDepth 100000
set_option linter.unusedSimpArgs false

/-- Of a beginning of right records' lines a beginning of the records is read. -/
theorem lines_take : ∀ (rs : List PR) (most n : Nat), (∀ r ∈ rs, checkR r = 0) → rs.length ≤ most →
    ∃ j, j ≤ rs.length ∧ (linesP most ((textL rs).take n)).1 = rs.take j ∧ (linesP most ((textL rs).take n)).2.1 = (textL (rs.take j)).length
  | [], most, n, _, _ => ⟨0, Nat.le_refl _, by simp [textL_nil, linesP_nil], by simp [textL_nil, linesP_nil]⟩
  | r :: rs, most, n, h, hm => by
    by_cases hn : n ≤ (textR r).length
    · have ht : (textL (r :: rs)).take n = (textR r).take n := by
        rw [textL_cons, List.take_append_of_le_length hn]
      refine ⟨0, Nat.zero_le _, ?_⟩
      rw [ht]
      by_cases he : (textR r).take n = []
      · rw [he]
        simp [linesP_nil, textL_nil]
      · rw [linesP_torn he (cutN_free _ (fun q => textR_no_lf r (List.mem_of_mem_take q)))]
        simp [textL_nil]
    · obtain ⟨m, rfl⟩ : ∃ m, n = (textR r).length + 1 + m := ⟨n - (textR r).length - 1, by omega⟩
      have ht : (textL (r :: rs)).take ((textR r).length + 1 + m) = textL [r] ++ (textL rs).take m := by
        rw [textL_cons, textL_cons, textL_nil, Nat.add_assoc, List.take_length_add_append, Nat.add_comm 1 m, List.take_succ_cons, List.append_assoc]
        rfl
      obtain ⟨j, hj, h1, h2⟩ := lines_take rs (most - 1) m (fun x hx => h x (by simp [hx])) (by simp at hm; omega)
      refine ⟨j + 1, by simpa using hj, ?_⟩
      rw [ht, lines_ahead [r] most _ (fun x hx => h x (by simp at hx; simp [hx])) (by simp at hm ⊢; omega)]
      simp only [List.length_singleton, h1, h2, List.take_succ_cons]
      refine ⟨rfl, ?_⟩
      simp [textL_cons, textL_nil]
      omega
/-- More bytes than all: all of them. -/
theorem textL_len : ∀ (rs : List PR), (∀ r ∈ rs, checkR r = 0) → (textL rs).length ≤ 101 * rs.length
  | [], _ => by simp [textL_nil]
  | r :: rs, h => by
    have h1 := textR_len (h r (by simp))
    have h2 := textL_len rs (fun x hx => h x (by simp [hx]))
    simp [textL_cons]
    omega

def checkK (d : PK) : Int := if 60000 < d.s.length + d.w.length then 2 else (linesP 80 d.s).2.2
def putK (d : PK) (r : PR) : PK × Int := if checkK d ≠ 0 then (zeroK, checkK d) else if checkR r ≠ 0 then (zeroK, checkR r)
  else if 60000 < d.s.length + d.w.length + (textR r).length + 1 then (zeroK, 2) else (⟨d.s, d.w ++ (textR r ++ [10])⟩, 0)
def syncK (d : PK) : PK × Int := if checkK d ≠ 0 then (zeroK, checkK d) else if checkK ⟨d.s ++ d.w, []⟩ ≠ 0 then (zeroK, checkK ⟨d.s ++ d.w, []⟩) else (⟨d.s ++ d.w, []⟩, 0)
def recK (d : PK) : PK × List PR × Int := if checkK d ≠ 0 then (zeroK, [], checkK d)
  else (⟨d.s ++ d.w.take (linesP (80 - (linesP 80 d.s).1.length) d.w).2.1, []⟩, (linesP 80 d.s).1 ++ (linesP (80 - (linesP 80 d.s).1.length) d.w).1, 0)

/-- A disk on which right records are safe. -/
theorem checkK_text {a : List PR} {w : List UInt8} (h : ∀ r ∈ a, checkR r = 0) (ha : a.length ≤ 80) (hl : (textL a).length + w.length ≤ 60000) : checkK ⟨textL a, w⟩ = 0 := by
  unfold checkK
  rw [if_neg (by simp only; omega)]
  simp only
  rw [lines_text a 80 h ha]
/-- A right record is put. -/
theorem putK_text {a b : List PR} {r : PR} (h : ∀ r ∈ a, checkR r = 0) (hb : ∀ r ∈ b, checkR r = 0) (ha : a.length + b.length < 80) (hr : checkR r = 0) : putK ⟨textL a, textL b⟩ r = (⟨textL a, textL (b ++ [r])⟩, 0) := by
  have l1 := textL_len a h
  have l2 := textL_len b hb
  have l3 := textR_len hr
  unfold putK
  rw [checkK_text h (by omega) (by omega), if_neg (by simp), hr, if_neg (by simp)]
  simp only
  rw [if_neg (by omega), textL_append]
  simp [textL]
/-- What waits is synced. -/
theorem syncK_text {a b : List PR} (h : ∀ r ∈ a, checkR r = 0) (hb : ∀ r ∈ b, checkR r = 0) (ha : a.length + b.length ≤ 80) : syncK ⟨textL a, textL b⟩ = (⟨textL (a ++ b), []⟩, 0) := by
  have l1 := textL_len a h
  have l2 := textL_len b hb
  have hab : ∀ r ∈ a ++ b, checkR r = 0 := fun r hr => (List.mem_append.1 hr).elim (h r) (hb r)
  have l3 := textL_len (a ++ b) hab
  rw [List.length_append] at l3
  unfold syncK
  rw [checkK_text h (by omega) (by omega), if_neg (by simp)]
  simp only
  rw [← textL_append, checkK_text hab (by rw [List.length_append]; omega) (by simp; omega), if_neg (by simp)]
/-- What is recovered: what was safe, and a beginning of what waited. -/
theorem recK_text {a b : List PR} (n : Nat) (h : ∀ r ∈ a, checkR r = 0) (hb : ∀ r ∈ b, checkR r = 0) (ha : a.length + b.length ≤ 80) :
    ∃ j, j ≤ b.length ∧ recK ⟨textL a, (textL b).take n⟩ = (⟨textL (a ++ b.take j), []⟩, a ++ b.take j, 0) := by
  have l1 := textL_len a h
  have l2 := textL_len b hb
  obtain ⟨j, hj, h1, h2⟩ := lines_take b (80 - a.length) n hb (by omega)
  obtain ⟨_, _, h3, h4, _⟩ := lines_facts _ (80 - a.length) ((textL b).take n) (Nat.le_refl _)
  refine ⟨j, hj, ?_⟩
  unfold recK
  rw [checkK_text h (by omega) (by rw [List.length_take]; omega), if_neg (by simp)]
  simp only
  rw [lines_text a 80 h (by omega)]
  simp only
  rw [h1]
  have ht : ((textL b).take n).take (linesP (80 - a.length) ((textL b).take n)).2.1 = textL (b.take j) := by
    rw [h2]
    rw [h1, h2] at h3
    generalize (textL b).take n = x at *
    generalize x.drop (textL (b.take j)).length = y at *
    rw [h3, List.take_left' rfl]
  rw [ht, textL_append]
/-- Recovered again it is the same. -/
theorem recK_again {a : List PR} (h : ∀ r ∈ a, checkR r = 0) (ha : a.length ≤ 80) : recK ⟨textL a, []⟩ = (⟨textL a, []⟩, a, 0) := by
  obtain ⟨j, hj, e⟩ := recK_text (b := []) 0 h (by simp) (by simpa using ha)
  simp [textL_nil] at e
  exact e

end Go.Proofs.YtenmamcaldabdaaGreatDoor

/- Records that were put on a disk and synced one by one; plain mathematics, no condition. -/
namespace Go.Proofs.YtenmamcaldabdaaGreatDoor
open Go.RowKit
set_option linter.unusedVariables false
set_option maxRecDepth 100000
set_option linter.unusedSimpArgs false

/-- Records that were put and synced one by one. -/
theorem sync_one {a : List PR} {r : PR} (h : ∀ x ∈ a, checkR x = 0) (hr : checkR r = 0) (hl : a.length < 80) : putK ⟨textL a, []⟩ r = (⟨textL a, textL [r]⟩, 0) ∧ syncK ⟨textL a, textL [r]⟩ = (⟨textL (a ++ [r]), []⟩, 0) :=
  ⟨putK_text (b := []) h (by simp) (by simpa using hl) hr, syncK_text (b := [r]) h (by simpa using hr) (by simp; omega)⟩

end Go.Proofs.YtenmamcaldabdaaGreatDoor

/- What a slice of zones is in a world, and plain facts on it; no condition. -/
namespace Go.Proofs.YtenmamcaldabdaaGreatDoor
open Go.RowKit
set_option linter.unusedVariables false
set_option maxRecDepth 100000
set_option linter.unusedSimpArgs false

/-- A zone's value: its state, its slice, the blocks that the slice reads as. -/
structure ZV where
  s : Int
  a : Option Addr
  n : Nat
  c : Nat
  l : List Int

/-- The zone as plain data. -/
def ZV.p (z : ZV) : Int × List Int := (z.s, z.l)
def ZV.ok (w : World) (z : ZV) : Prop := Ints w z.a z.n z.c z.l

/-- A slice value's zones in a world. -/
structure Zones (w : World) (a : Option Addr) (n c : Nat) (Z : List ZV) : Prop where
  len : Z.length = n
  le : n ≤ c
  max : c ≤ 9223372036854775807
  nil : a = none → c = 0
  row : n = 0 ∨ ∃ b off, a = some ⟨b, off, none⟩ ∧ b < w.heap.size ∧ ∀ i z, Z[i]? = some z → w.cell? ⟨b, off + i * 2, none⟩ = some (.int .i64 z.s) ∧ w.cell? ⟨b, off + i * 2 + 1, none⟩ = some (.slice z.a z.n z.c)
  ok : ∀ z ∈ Z, z.ok w

theorem Zones.below {w w' : World} {a : Option Addr} {n c : Nat} {Z : List ZV} (h : Zones w a n c Z) {B : Nat} (hb : Below B w w') (hB : w.heap.size ≤ B) : Zones w' a n c Z := by
  refine ⟨h.len, h.le, h.max, h.nil, ?_, fun z hz => (h.ok z hz).below hb hB⟩
  rcases h.row with h0 | ⟨b, off, ha, hlt, hc⟩
  · exact .inl h0
  · refine .inr ⟨b, off, ha, Nat.lt_of_lt_of_le hlt hb.size, fun i z hz => ?_⟩
    rw [hb.cell (p := ⟨b, off + i * 2, none⟩) (Nat.lt_of_lt_of_le hlt hB), hb.cell (p := ⟨b, off + i * 2 + 1, none⟩) (Nat.lt_of_lt_of_le hlt hB)]
    exact hc i z hz

def isO (s : Int) : Bool := s == 1 || s == 2
def isA (s : Int) : Bool := isO s || s == 3
def cnt (f : Int → Bool) (Z : List ZV) : Nat := (Z.filter fun z => f z.s).length

theorem cnt_le (f : Int → Bool) (Z : List ZV) : cnt f Z ≤ Z.length := List.length_filter_le _ _
theorem take_snoc (Z : List ZV) (k : Nat) (z : ZV) (h : Z[k]? = some z) : Z.take (k + 1) = Z.take k ++ [z] := by
  obtain ⟨hk, rfl⟩ := List.getElem?_eq_some_iff.1 h
  exact List.take_succ_eq_append_getElem hk
theorem cnt_snoc (f : Int → Bool) (Z : List ZV) (k : Nat) (z : ZV) (h : Z[k]? = some z) : cnt f (Z.take (k + 1)) = cnt f (Z.take k) + if f z.s then 1 else 0 := by
  unfold cnt
  rw [take_snoc Z k z h, List.filter_append, List.length_append]
  cases hf : f z.s <;> simp [List.filter_cons, hf]

theorem map_take_step (Z Y : List ZV) (k : Nat) (z y : ZV) (hz : Z[k]? = some z) (hy : Y[k]? = some y) (h : (Z.take k).map ZV.p = (Y.take k).map ZV.p) (hx : z.s = y.s ∧ z.l = y.l) : (Z.take (k + 1)).map ZV.p = (Y.take (k + 1)).map ZV.p := by
  rw [take_snoc Z k z hz, take_snoc Y k y hy, List.map_append, List.map_append, h]
  simp [ZV.p, hx.1, hx.2]
theorem map_ne (Z Y : List ZV) (k : Nat) (z y : ZV) (hz : Z[k]? = some z) (hy : Y[k]? = some y) (hx : ¬ (z.s = y.s ∧ z.l = y.l)) : Z.map ZV.p ≠ Y.map ZV.p := by
  intro h
  have := congrArg (fun L => L[k]?) h
  simp [List.getElem?_map, hz, hy, ZV.p] at this
  exact hx this
theorem map_len (Z Y : List ZV) (h : Z.length ≠ Y.length) : Z.map ZV.p ≠ Y.map ZV.p := fun e => h (by have := congrArg List.length e; simpa using this)

/-- The first zone's error, one by one. -/
def firstE : List (Int × List Int) → Int
  | [] => 0
  | z :: r => if checkZ z.1 z.2 ≠ 0 then checkZ z.1 z.2 else firstE r
def cntP (f : Int → Bool) (P : List (Int × List Int)) : Nat := (P.filter fun z => f z.1).length
/-- What Check answers of zones: plain. -/
def checkZs (P : List (Int × List Int)) : Int :=
  if P.length ≠ 4 then 4 else if firstE P ≠ 0 then firstE P else if 2 < cntP isO P ∨ 3 < cntP isA P then 7 else 0

theorem cnt_map (f : Int → Bool) (Z : List ZV) : cnt f Z = cntP f (Z.map ZV.p) := by
  unfold cnt cntP
  rw [List.filter_map, List.length_map]
  rfl
theorem firstE_append (P Q : List (Int × List Int)) (h : firstE P = 0) : firstE (P ++ Q) = firstE Q := by
  induction P with
  | nil => rfl
  | cons z r ih =>
    simp only [firstE] at h
    by_cases hz : checkZ z.1 z.2 = 0
    · simp [hz] at h
      simp only [List.cons_append, firstE, hz]
      simpa using ih h
    · simp [hz] at h
theorem firstE_step (Z : List ZV) (k : Nat) (z : ZV) (hz : Z[k]? = some z) (h : firstE ((Z.take k).map ZV.p) = 0) (hc : checkZ z.s z.l = 0) : firstE ((Z.take (k + 1)).map ZV.p) = 0 := by
  rw [take_snoc Z k z hz, List.map_append, firstE_append _ _ h]
  simp [firstE, ZV.p, hc]
theorem firstE_at (Z : List ZV) (k : Nat) (z : ZV) (hz : Z[k]? = some z) (h : firstE ((Z.take k).map ZV.p) = 0) (hc : checkZ z.s z.l ≠ 0) : firstE (Z.map ZV.p) = checkZ z.s z.l := by
  have e : Z = Z.take k ++ z :: Z.drop (k + 1) := by
    obtain ⟨hk, rfl⟩ := List.getElem?_eq_some_iff.1 hz
    rw [List.getElem_cons_drop, List.take_append_drop]
  rw [e, List.map_append, firstE_append _ _ h]
  simp [firstE, ZV.p, hc]
theorem firstE_all (P : List (Int × List Int)) (h : firstE P = 0) : ∀ z ∈ P, checkZ z.1 z.2 = 0 := by
  induction P with
  | nil => simp
  | cons z r ih =>
    simp only [firstE] at h
    by_cases hz : checkZ z.1 z.2 = 0
    · simp [hz] at h
      intro y hy
      rcases List.mem_cons.1 hy with rfl | hy
      · exact hz
      · exact ih h y hy
    · simp [hz] at h
theorem checkZs_1 {Z : List ZV} (h : Z.length ≠ 4) : 4 = checkZs (Z.map ZV.p) := by simp [checkZs, h]
theorem checkZs_2 {Z : List ZV} (h : Z.length = 4) {x : Int} (hx : firstE (Z.map ZV.p) = x) (h0 : x ≠ 0) : x = checkZs (Z.map ZV.p) := by simp [checkZs, h, hx, h0]
theorem checkZs_3 {Z : List ZV} (h : Z.length = 4) (hx : firstE (Z.map ZV.p) = 0) (h0 : 2 < cnt isO Z ∨ 3 < cnt isA Z) : 7 = checkZs (Z.map ZV.p) := by
  rw [cnt_map, cnt_map] at h0
  simp [checkZs, h, hx, h0]
theorem checkZs_0 {Z : List ZV} (h : Z.length = 4) (hx : firstE (Z.map ZV.p) = 0) (h0 : ¬ (2 < cnt isO Z ∨ 3 < cnt isA Z)) : 0 = checkZs (Z.map ZV.p) := by
  rw [cnt_map, cnt_map] at h0
  simp only [checkZs, List.length_map, h, hx, h0]
  simp

end Go.Proofs.YtenmamcaldabdaaGreatDoor

/- The contracts of the document's own answers on zones; no condition but that the slice reads as the zones. -/
namespace Go.Proofs.YtenmamcaldabdaaGreatDoor
open Go.RowKit
set_option linter.unusedVariables false
set_option maxRecDepth 100000
set_option linter.unusedSimpArgs false

theorem vint {a b : Int} (h : a = b) : Value.int .i64 a = Value.int .i64 b := by rw [h]

end Go.Proofs.YtenmamcaldabdaaGreatDoor

/- Zones in memory of the call's own: they are read, and one of them is set; no condition but what the predicate says. -/
namespace Go.Proofs.YtenmamcaldabdaaGreatDoor
open Go.RowKit
set_option linter.unusedVariables false
set_option maxRecDepth 100000
set_option linter.unusedSimpArgs false

/-- The zone's blocks don't lie in block g. -/
def ZV.off (g : Nat) (z : ZV) : Prop := z.n = 0 ∨ ∀ x, z.a = some x → x.block ≠ g

/-- Zones in block g, which is the call's own. -/
structure Mine (w : World) (base g n c : Nat) (Z : List ZV) : Prop where
  zs : Zones w (some ⟨g, 0, none⟩) n c Z
  base : base ≤ g
  lt : g < w.heap.size
  cells : ∀ i z, Z[i]? = some z → w.cell? ⟨g, i * 2, none⟩ = some (.int .i64 z.s) ∧ w.cell? ⟨g, i * 2 + 1, none⟩ = some (.slice z.a z.n z.c)
  soft : ∀ j, j < n * 2 → w.frozen? ⟨g, j, none⟩ = false
  off : ∀ z ∈ Z, z.off g

theorem Ints.setCell' {w : World} {a : Option Addr} {n c : Nat} {l : List Int} (h : Ints w a n c l) (p : Addr) (v : Value) (hne : n = 0 ∨ ∀ x, a = some x → x.block ≠ p.block) : Ints (w.setCell p v) a n c l := by
  rcases hne with h0 | hne
  · exact ⟨h.len, h.le, h.max, h.nil, .inl h0, h.wf⟩
  · exact h.setCell p v hne

theorem Mine.below {w w' : World} {base g n c : Nat} {Z : List ZV} (h : Mine w base g n c Z) (hb : Below w.heap.size w w') : Mine w' base g n c Z := by
  refine ⟨h.zs.below hb (Nat.le_refl _), h.base, Nat.lt_of_lt_of_le h.lt hb.size, fun i z hz => ?_, fun j hj => ?_, h.off⟩
  · rw [hb.cell (p := ⟨g, i * 2, none⟩) h.lt, hb.cell (p := ⟨g, i * 2 + 1, none⟩) h.lt]
    exact h.cells i z hz
  · rw [hb.frozen (p := ⟨g, j, none⟩) h.lt]
    exact h.soft j hj

theorem Mine.set {w : World} {base g n c : Nat} {Z : List ZV} (h : Mine w base g n c Z) (i : Nat) (hi : i < n) (z : ZV) (hz : z.ok w) (ho : z.off g) :
    Mine ((w.setCell ⟨g, i * 2, none⟩ (.int .i64 z.s)).setCell ⟨g, i * 2 + 1, none⟩ (.slice z.a z.n z.c)) base g n c (Z.set i z) := by
  have hlen := h.zs.len
  obtain ⟨y, hy⟩ : ∃ y, Z[i]? = some y := ⟨Z[i]'(by omega), by simp⟩
  obtain ⟨y0, y1⟩ := h.cells i y hy
  have hc : ∀ j u, (Z.set i z)[j]? = some u → ((w.setCell ⟨g, i * 2, none⟩ (.int .i64 z.s)).setCell ⟨g, i * 2 + 1, none⟩ (.slice z.a z.n z.c)).cell? ⟨g, j * 2, none⟩ = some (.int .i64 u.s) ∧ ((w.setCell ⟨g, i * 2, none⟩ (.int .i64 z.s)).setCell ⟨g, i * 2 + 1, none⟩ (.slice z.a z.n z.c)).cell? ⟨g, j * 2 + 1, none⟩ = some (.slice u.a u.n u.c) := by
    intro j u hu
    by_cases hij : i = j
    · subst hij
      rw [List.getElem?_set_self (by omega)] at hu
      cases hu
      refine ⟨?_, ?_⟩
      · rw [World.cell?_setCell_other _ _ _ _ (by simp)]
        exact World.cell?_setCell_same _ _ _ y0
      · exact World.cell?_setCell_same _ _ _ (by rw [World.cell?_setCell_other _ _ _ _ (by simp)]; exact y1)
    · rw [List.getElem?_set_ne hij] at hu
      obtain ⟨u0, u1⟩ := h.cells j u hu
      refine ⟨?_, ?_⟩
      · rw [World.cell?_setCell_other _ _ _ _ (by (first | (simp; done) | (simp; omega))), World.cell?_setCell_other _ _ _ _ (by (first | (simp; done) | (simp; omega)))]
        exact u0
      · rw [World.cell?_setCell_other _ _ _ _ (by (first | (simp; done) | (simp; omega))), World.cell?_setCell_other _ _ _ _ (by (first | (simp; done) | (simp; omega)))]
        exact u1
  have hoff : ∀ u ∈ Z.set i z, u.off g := fun u hu => by
    rcases List.mem_or_eq_of_mem_set hu with hu | rfl
    · exact h.off u hu
    · exact ho
  have hok : ∀ u ∈ Z.set i z, u.ok ((w.setCell ⟨g, i * 2, none⟩ (.int .i64 z.s)).setCell ⟨g, i * 2 + 1, none⟩ (.slice z.a z.n z.c)) := fun u hu => by
    have hw : u.ok w := by
      rcases List.mem_or_eq_of_mem_set hu with hu | rfl
      · exact h.zs.ok u hu
      · exact hz
    exact (Ints.setCell' hw ⟨g, i * 2, none⟩ _ (hoff u hu)).setCell' ⟨g, i * 2 + 1, none⟩ _ (hoff u hu)
  refine ⟨⟨by simp [hlen], h.zs.le, h.zs.max, fun e => (by cases e), .inr ⟨g, 0, rfl, by simpa [World.setCell] using h.lt, fun j u hu => by simpa using hc j u hu⟩, hok⟩, h.base, by simpa [World.setCell] using h.lt, hc, fun j hj => ?_, hoff⟩
  rw [World.frozen?_setCell, World.frozen?_setCell]
  exact h.soft j hj

theorem Mine.mono {w : World} {base base' g n c : Nat} {Z : List ZV} (h : Mine w base g n c Z) (hb : base' ≤ base) : Mine w base' g n c Z := ⟨h.zs, Nat.le_trans hb h.base, h.lt, h.cells, h.soft, h.off⟩

/-- The cells of zones. -/
def zcells : List ZV → List Value
  | [] => []
  | z :: r => .int .i64 z.s :: .slice z.a z.n z.c :: zcells r
theorem zcells_get (Z : List ZV) : ∀ i z, Z[i]? = some z → (zcells Z)[i * 2]? = some (.int .i64 z.s) ∧ (zcells Z)[i * 2 + 1]? = some (.slice z.a z.n z.c) := by
  induction Z with
  | nil => intro i z h; simp at h
  | cons y r ih =>
    intro i z h
    cases i with
    | zero => simp at h; subst h; simp [zcells]
    | succ i =>
      simp at h
      have := ih i z h
      simp [zcells, show (i + 1) * 2 = i * 2 + 1 + 1 by omega]
      exact this
theorem frozen_row {w : World} {g j : Nat} {cs : Array Value} {t : TypeId} (h : w.heap[g]? = some (.cells cs t (0, 0))) : w.frozen? ⟨g, j, none⟩ = false := by
  simp [World.frozen?, h]

end Go.Proofs.YtenmamcaldabdaaGreatDoor

/- The contracts of slices.Clone at zones and of the document's own shut; no condition but that the slice reads as the zones. -/
namespace Go.Proofs.YtenmamcaldabdaaGreatDoor
open Go.RowKit
set_option linter.unusedVariables false
set_option maxRecDepth 100000
set_option linter.unusedSimpArgs false

/-- A zone that is shut, plain. -/
def shutP (z : Int × List Int) : Int × List Int := if z.2 = [] then (0, []) else (3, z.2)
/-- .. and as a value. -/
def ZV.shut (z : ZV) : ZV := if z.l = [] then ⟨0, none, 0, 0, []⟩ else ⟨3, z.a, z.n, z.c, z.l⟩
theorem ZV.shut_p (z : ZV) : z.shut.p = shutP z.p := by unfold ZV.shut shutP ZV.p; split <;> rfl
end Go.Proofs.YtenmamcaldabdaaGreatDoor

/- The contract of the document's own roomFor; no condition but that the slice reads as four zones, and that the number is one of theirs. -/
namespace Go.Proofs.YtenmamcaldabdaaGreatDoor
open Go.RowKit
set_option linter.unusedVariables false
set_option maxRecDepth 100000
set_option linter.unusedSimpArgs false

/-- The first zone that is Open. -/
def fopen (Z : List ZV) : Option Nat := Z.findIdx? fun z => z.s == 1
/-- The zones when there is room for one of state s; none: there is none. -/
def roomZ (Z : List ZV) (s : Int) : Option (List ZV) :=
  if isO s then some Z
  else if s = 4 ∨ s = 0 ∧ 3 ≤ cnt isA Z then none
  else if cnt isO Z < 2 then some Z
  else match fopen Z with
    | none => none
    | some i => some (Z.modify i ZV.shut)

theorem modify_set {Z : List ZV} {i : Nat} {z : ZV} (h : Z[i]? = some z) : Z.modify i ZV.shut = Z.set i z.shut := by
  obtain ⟨hi, rfl⟩ := List.getElem?_eq_some_iff.1 h
  apply List.ext_getElem?
  intro j
  by_cases e : i = j
  · subst e; simp [List.getElem?_modify, hi]
  · simp [List.getElem?_modify, List.getElem?_set, e]

theorem roomZ_1 {Z : List ZV} {s : Int} (h : s = 1 ∨ s = 2) : roomZ Z s = some Z := by
  have : isO s = true := by rcases h with rfl | rfl <;> rfl
  simp [roomZ, this]
theorem roomZ_2 {Z : List ZV} {s : Int} (h : ¬ (s = 1 ∨ s = 2)) (h2 : s = 4 ∨ s = 0 ∧ 3 ≤ cnt isA Z) : roomZ Z s = none := by
  have : isO s = false := by simp [isO]; omega
  simp [roomZ, this, h2]
theorem roomZ_3 {Z : List ZV} {s : Int} (h : ¬ (s = 1 ∨ s = 2)) (h2 : ¬ (s = 4 ∨ s = 0 ∧ 3 ≤ cnt isA Z)) (h3 : cnt isO Z < 2) : roomZ Z s = some Z := by
  have : isO s = false := by simp [isO]; omega
  simp [roomZ, this, h2, h3]
theorem roomZ_4 {Z : List ZV} {s : Int} (h : ¬ (s = 1 ∨ s = 2)) (h2 : ¬ (s = 4 ∨ s = 0 ∧ 3 ≤ cnt isA Z)) (h3 : ¬ cnt isO Z < 2) (hf : fopen Z = none) : roomZ Z s = none := by
  have : isO s = false := by simp [isO]; omega
  simp [roomZ, this, h2, h3, hf]
theorem roomZ_5 {Z : List ZV} {s : Int} (h : ¬ (s = 1 ∨ s = 2)) (h2 : ¬ (s = 4 ∨ s = 0 ∧ 3 ≤ cnt isA Z)) (h3 : ¬ cnt isO Z < 2) {i : Nat} {z : ZV} (hf : fopen Z = some i) (hz : Z[i]? = some z) : roomZ Z s = some (Z.set i z.shut) := by
  have : isO s = false := by simp [isO]; omega
  simp [roomZ, this, h2, h3, hf, modify_set hz]

end Go.Proofs.YtenmamcaldabdaaGreatDoor

/- The contract of the document's own OnZones, kind by kind; no condition but that the slices read as zones and data. -/
namespace Go.Proofs.YtenmamcaldabdaaGreatDoor
open Go.RowKit
set_option linter.unusedVariables false
set_option maxRecDepth 100000
set_option linter.unusedSimpArgs false

theorem zs_four {w : World} {a : Option Addr} {n c : Nat} {Z : List ZV} (h : Zones w a n c Z) (hok : checkZs (Z.map ZV.p) = 0) :
    n = 4 ∧ ∃ b off, a = some ⟨b, off, none⟩ ∧ ∀ i z, Z[i]? = some z → w.cell? ⟨b, off + i * 2, none⟩ = some (.int .i64 z.s) ∧ w.cell? ⟨b, off + i * 2 + 1, none⟩ = some (.slice z.a z.n z.c) := by
  have h4 : n = 4 := by
    apply Decidable.byContradiction
    intro hn
    rw [← checkZs_1 (Z := Z) (by rw [h.len]; exact hn)] at hok
    omega
  refine ⟨h4, ?_⟩
  rcases h.row with h0 | ⟨b, off, ha, _, hr⟩
  · omega
  · exact ⟨b, off, ha, hr⟩

end Go.Proofs.YtenmamcaldabdaaGreatDoor

/- The contract of the document's own OnZones at Close and Open; no condition but that the slices read as zones and data. -/
namespace Go.Proofs.YtenmamcaldabdaaGreatDoor
open Go.RowKit
set_option linter.unusedVariables false
set_option maxRecDepth 100000
set_option linter.unusedSimpArgs false

end Go.Proofs.YtenmamcaldabdaaGreatDoor

/- The contract of the document's own OnZones at Open; no condition but that the slices read as zones and data. -/
namespace Go.Proofs.YtenmamcaldabdaaGreatDoor
open Go.RowKit
set_option linter.unusedVariables false
set_option maxRecDepth 100000
set_option linter.unusedSimpArgs false

end Go.Proofs.YtenmamcaldabdaaGreatDoor

/- The contracts of zone.Write and of the document's WriteZone, errors and all in one; no condition but that the arguments read as data. -/
namespace Go.Proofs.YtenmamcaldabdaaGreatDoor
open Go.RowKit
set_option linter.unusedVariables false
set_option maxRecDepth 100000
set_option linter.unusedSimpArgs false

/-- What Write answers: state, blocks. -/
def wS (s : Int) (l k : List Int) : Int := if writeE s l k = 0 then writeS s (l.length + k.length) else 0
def wL (s : Int) (l k : List Int) : List Int := if writeE s l k = 0 then l ++ k else []

theorem Write_u (s : Int) (a : Option Addr) (n c : Nat) (l : List Int) (b : Option Addr) (m d : Nat) (k : List Int) (w : World) (h1 : Ints w a n c l) (h2 : Ints w b m d k) :
    Calls Tryz.prog 168 #[.agg #[.int .i64 s, .slice a n c], .slice b m d] w fun e w' => (∃ a' n' c', e = .returned (.tuple #[.agg #[.int .i64 (wS s l k), .slice a' n' c'], .int .i64 (writeE s l k)]) ∧ Ints w' a' n' c' (wL s l k) ∧ ∀ x, a' = some x → w.heap.size ≤ x.block) ∧ Below w.heap.size w w' := by
  by_cases h : writeE s l k = 0
  · refine (Write_ok s a n c l b m d k w h1 h2 h).mono ?_
    rintro e w' ⟨⟨q, rfl, i, hq⟩, hb⟩
    rw [show wS s l k = writeS s (n + m) by simp [wS, h, h1.len, h2.len], show wL s l k = l ++ k by simp [wL, h], h]
    exact ⟨⟨_, _, _, rfl, i, fun x e => by cases e; exact hq⟩, hb⟩
  · refine (Write_bad s a n c l b m d k w h1 h2 h).mono ?_
    rintro e w' ⟨rfl, hb⟩
    rw [show wS s l k = 0 by simp [wS, h], show wL s l k = [] by simp [wL, h]]
    exact ⟨⟨_, _, _, rfl, Ints.nilSlice _, fun x e => by cases e⟩, hb⟩

end Go.Proofs.YtenmamcaldabdaaGreatDoor

/- The contract of the document's own OnZones at Append; no condition but that the slices read as zones and data. -/
namespace Go.Proofs.YtenmamcaldabdaaGreatDoor
open Go.RowKit
set_option linter.unusedVariables false
set_option maxRecDepth 100000
set_option linter.unusedSimpArgs false

end Go.Proofs.YtenmamcaldabdaaGreatDoor

/- What the yard's calls answer, plain; and the document's own OnZones gives just that; no condition but that the slices read as zones and data. -/
namespace Go.Proofs.YtenmamcaldabdaaGreatDoor
open Go.RowKit
set_option linter.unusedVariables false
set_option maxRecDepth 100000
set_option linter.unusedSimpArgs false

/-- A zone as plain data: state, blocks. -/
abbrev PZ := Int × List Int

def fopenP (P : List PZ) : Option Nat := P.findIdx? fun z => z.1 == 1
def roomP (P : List PZ) (s : Int) : Option (List PZ) :=
  if isO s then some P
  else if s = 4 ∨ s = 0 ∧ 3 ≤ cntP isA P then none
  else if cntP isO P < 2 then some P
  else match fopenP P with
    | none => none
    | some i => some (P.modify i shutP)
/-- What is wrong first: the zones, or the number. -/
def pre (P : List PZ) (k : Int) : Int := if checkZs P ≠ 0 then checkZs P else if inB k 0 3 then 0 else 5
def at' (P : List PZ) (k : Int) : PZ := P.getD k.toNat (0, [])
def holdP (P : List PZ) (k : Int) : List PZ × Int :=
  if pre P k ≠ 0 then ([], pre P k) else match roomP P (at' P k).1 with
    | none => ([], 7)
    | some Q => (Q.set k.toNat (2, (at' P k).2), 0)
def closeP (P : List PZ) (k : Int) : List PZ × Int :=
  if pre P k ≠ 0 then ([], pre P k) else if isO (at' P k).1 then (P.set k.toNat (shutP (at' P k)), 0) else ([], 6)
def finishP (P : List PZ) (k : Int) : List PZ × Int :=
  if pre P k ≠ 0 then ([], pre P k) else (P.set k.toNat (4, (at' P k).2), 0)
def resetP (P : List PZ) (k : Int) : List PZ × Int :=
  if pre P k ≠ 0 then ([], pre P k) else (P.set k.toNat (0, []), 0)
def writeP (P : List PZ) (k : Int) (data : List Int) : List PZ × Int × Int :=
  if pre P k ≠ 0 then ([], 0, pre P k)
  else if writeE (at' P k).1 (at' P k).2 data ≠ 0 then ([], 0, writeE (at' P k).1 (at' P k).2 data)
  else match roomP P (at' P k).1 with
    | none => ([], 0, 7)
    | some Q => (Q.set k.toNat (wS (at' P k).1 (at' P k).2 data, wL (at' P k).1 (at' P k).2 data), ((at' P k).2.length : Int), 0)

theorem fopen_p (Z : List ZV) : fopen Z = fopenP (Z.map ZV.p) := by
  unfold fopen fopenP
  rw [List.findIdx?_map]
  rfl
theorem modify_p (Z : List ZV) (i : Nat) : (Z.modify i ZV.shut).map ZV.p = (Z.map ZV.p).modify i shutP := by
  apply List.ext_getElem?
  intro j
  simp only [List.getElem?_map, List.getElem?_modify]
  cases Z[j]? with
  | none => simp
  | some z =>
    by_cases e : i = j
    · simp [e, ZV.shut_p]
    · simp [e]
theorem room_p (Z : List ZV) (s : Int) : (roomZ Z s).map (List.map ZV.p) = roomP (Z.map ZV.p) s := by
  unfold roomZ roomP
  rw [← cnt_map, ← cnt_map, ← fopen_p]
  split
  · rfl
  · split
    · rfl
    · split
      · rfl
      · cases fopen Z with
        | none => rfl
        | some i => simp [modify_p]
theorem room_none {Z : List ZV} {s : Int} (h : roomZ Z s = none) : roomP (Z.map ZV.p) s = none := by rw [← room_p, h]; rfl
theorem room_some {Z Z' : List ZV} {s : Int} (h : roomZ Z s = some Z') : roomP (Z.map ZV.p) s = some (Z'.map ZV.p) := by rw [← room_p, h]; rfl

/-- What is known of zones and a number with which nothing is wrong. -/
theorem pre_ok {w : World} {a : Option Addr} {n c : Nat} {Z : List ZV} (h : Zones w a n c Z) {k : Int} (hp : pre (Z.map ZV.p) k = 0) :
    checkZs (Z.map ZV.p) = 0 ∧ ∃ (j b off : Nat) (z : ZV), k = j ∧ j < 4 ∧ n = 4 ∧ a = some ⟨b, off, none⟩ ∧ Z[j]? = some z ∧ at' (Z.map ZV.p) k = z.p ∧
      ∀ i z, Z[i]? = some z → w.cell? ⟨b, off + i * 2, none⟩ = some (.int .i64 z.s) ∧ w.cell? ⟨b, off + i * 2 + 1, none⟩ = some (.slice z.a z.n z.c) := by
  unfold pre at hp
  by_cases hc : checkZs (Z.map ZV.p) = 0
  · simp [hc] at hp
    obtain ⟨h4, b, off, ha, hr⟩ := zs_four h hc
    have hk : 0 ≤ k ∧ k ≤ 3 := by simp [inB] at hp; omega
    obtain ⟨j, rfl⟩ := Int.eq_ofNat_of_zero_le hk.1
    have hj : j < Z.length := by rw [h.len]; omega
    refine ⟨hc, j, b, off, Z[j], rfl, by omega, h4, ha, by simp, ?_, hr⟩
    simp [at', List.getD, hj]
  · simp [hc] at hp

theorem set_p (Z : List ZV) (j : Nat) (u : ZV) : (Z.set j u).map ZV.p = (Z.map ZV.p).set j u.p := by rw [List.map_set]

/-- Zones of the call's own, or nothing. -/
theorem zs_nil (w : World) : Zones w none 0 0 [] := ⟨rfl, Nat.le_refl _, by omega, fun _ => rfl, .inl rfl, by simp⟩

/-- Of a block that was there, and in which none of the zones' blocks lie, neither the new list nor its zones' blocks are. -/
def Avoid (w : World) (Z : List ZV) (a' : Option Addr) (Z' : List ZV) : Prop := ∀ R, R < w.heap.size → (∀ z ∈ Z, z.off R) → (∀ x, a' = some x → x.block ≠ R) ∧ ∀ z ∈ Z', z.off R
theorem Avoid.none (w : World) (Z : List ZV) : Avoid w Z none [] := fun R _ _ => ⟨fun x e => (by cases e), fun z hz => by cases hz⟩
theorem Avoid.mk {w : World} {Z Z' : List ZV} {g : Nat} (hg : w.heap.size ≤ g) (h : ∀ R, R < w.heap.size → (∀ z ∈ Z, z.off R) → ∀ z ∈ Z', z.off R) : Avoid w Z (some ⟨g, 0, Option.none⟩) Z' :=
  fun R hR ho => ⟨fun x e => by cases e; simp; omega, h R hR ho⟩
end Go.Proofs.YtenmamcaldabdaaGreatDoor
