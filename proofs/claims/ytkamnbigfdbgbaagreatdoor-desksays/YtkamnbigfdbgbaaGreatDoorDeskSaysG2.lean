/- The contracts of zone.Check, zone.Same and of the document's own answers to them; no condition but that the zone reads as its state and list. -/
import Derived.Test.YtkamnbigfdbgbaaGreatDoorDeskSaysG1
import Derived.Deep.RegionHeld3
import Derived.Deep.Light
import Derived.Deep.Slices
import Derived.Lib.ItoaMem
import Derived.Lib.ParseIntB
import Derived.Lib.IndexMore
import Derived.ChangeMaps5
namespace Go.Proofs.YtkamnbigfdbgbaaGreatDoor
open Go.RowKit
set_option linter.unusedVariables false
set_option maxRecDepth 100000
set_option linter.unusedSimpArgs false

/-- What Check answers: plain. -/
def checkZ (s : Int) (l : List Int) : Int :=
  if outB 0 4 s then 4 else if 8 < l.length then 2 else if l.any (outB 0 999) then 3 else if fitsB s l.length then 0 else 4

theorem checkZ_1 {s : Int} {l : List Int} (h1 : outB 0 4 s = true) : 4 = checkZ s l := by simp [checkZ, h1]
theorem checkZ_2 {s : Int} {l : List Int} (h1 : outB 0 4 s = false) (h2 : 8 < l.length) : 2 = checkZ s l := by simp [checkZ, h1, h2]
theorem checkZ_3 {s : Int} {l : List Int} (h1 : outB 0 4 s = false) (h2 : ¬ 8 < l.length) (h3 : l.any (outB 0 999) = true) : 3 = checkZ s l := by simp only [checkZ, h1, h2, h3]; simp
theorem checkZ_4 {s : Int} {l : List Int} (h1 : outB 0 4 s = false) (h2 : ¬ 8 < l.length) (h3 : l.any (outB 0 999) = false) (h4 : fitsB s l.length = false) : 4 = checkZ s l := by simp only [checkZ, h1, h2, h3, h4]; simp
theorem checkZ_0 {s : Int} {l : List Int} (h1 : outB 0 4 s = false) (h2 : ¬ 8 < l.length) (h3 : l.any (outB 0 999) = false) (h4 : fitsB s l.length = true) : 0 = checkZ s l := by simp only [checkZ, h1, h2, h3, h4]; simp

theorem inB_outB (x a b : Int) : inB x a b = !outB a b x := by unfold inB outB; rw [Bool.eq_iff_iff]; simp
theorem all_any (l : List Int) (a b : Int) : (l.all fun x => inB x a b) = !l.any (outB a b) := by
  induction l with
  | nil => rfl
  | cons x l ih => rw [List.all_cons, List.any_cons, ih, inB_outB, Bool.not_or]

/-- Check's answer, in the document's own words. -/
theorem checkZ_ref {s : Int} {l : List Int} {n : Nat} (hl : l.length = n) :
    checkZ s l = if (!inB s 0 4) = true then 4 else if 8 < (n : Int) then 2 else if (!l.all fun x => inB x 0 999) = true then 3 else if s = 0 ∧ (n : Int) ≠ 0 ∨ s = 3 ∧ (n : Int) = 0 ∨ s ≠ 4 ∧ (n : Int) = 8 then 4 else 0 := by
  subst hl
  unfold checkZ
  rw [all_any, inB_outB]
  simp only [Bool.not_not]
  generalize l.any (outB 0 999) = A
  generalize l.length = n
  by_cases h1 : outB 0 4 s = true
  · simp only [if_pos h1]
  · simp only [if_neg h1]
    by_cases h2 : 8 < n
    · have h2' : (8 : Int) < (n : Int) := by omega
      simp only [if_pos h2, if_pos h2']
    · have h2' : ¬ (8 : Int) < (n : Int) := by omega
      simp only [if_neg h2, if_neg h2']
      cases A
      · have h5 : 0 ≤ s ∧ s ≤ 4 := by simp [outB] at h1; omega
        have h6 : (fitsB s n = true) ↔ ¬ (s = 0 ∧ (n : Int) ≠ 0 ∨ s = 3 ∧ (n : Int) = 0 ∨ s ≠ 4 ∧ (n : Int) = 8) := by
          unfold fitsB
          by_cases a : s = 4
          · simp [a]
          · by_cases b : s = 0
            · simp [b]
              omega
            · by_cases c : s = 3
              · simp [c]; omega
              · simp [a, b, c]; omega
        simp only [Bool.false_eq_true, if_false]
        by_cases h7 : fitsB s n = true
        · rw [if_pos h7, if_neg (h6.1 h7)]
        · rw [if_neg h7, if_pos (Decidable.not_not.1 (fun h => h7 (h6.2 h)))]
      · simp only [if_true]

set_option maxHeartbeats 1000000 in
theorem Check_c (s : Int) (a : Option Addr) (n c : Nat) (l : List Int) (w : World) (h : Ints w a n c l) :
    Calls Tryz.prog 51 #[.agg #[.int .i64 s, .slice a n c]] w fun e w' => e = .returned (.int .i64 (checkZ s l)) ∧ Below w.heap.size w w' := by
  have hlen := hide h.len
  have hmax := h.max
  have hle := h.le
  go_enter Tryz.func51, Tryz.ntmps51
  go_wp2
  go_region_held3 (fun w' => w'.cell? ⟨w.heap.size, 0, none⟩ = some (.int .i64 s) ∧ w'.cell? ⟨w.heap.size, 1, none⟩ = some (.slice a n c)) (go_keep)
    (first | (go_at_call 80; refine (outside_c _ _ _).mono ?_; rintro e w' ⟨rfl, rfl⟩) | (go_at_call 102; refine (outside1_c _ 0 4 _ _ _ ?hg ?hh).mono ?hm; (case hg => (first | (go_simp; done) | (simp [*, World.cell?_alloc_at, World.cell?_alloc_past, World.cell?_alloc_some, World.cell?_setCell_far]; done))); (case hh => (first | (go_simp; done) | (simp [*, World.cell?_alloc_at, World.cell?_alloc_past, World.cell?_alloc_some, World.cell?_setCell_far]; done))); rintro e w' ⟨rfl, rfl⟩))
  go_wp2
  · go_ret
    exact ⟨ret_int (checkZ_1 ‹_›), by (repeat first | exact bel0 | assumption | refine bel1 ?_ | refine bel2 ?_ | refine bel3 ?_ | refine belowT ?_ (by assumption) | refine bel5 ?_ (by simp; try omega))⟩
  · have hl := hlen.out
    go_ret
    exact ⟨ret_int (checkZ_2 ‹_› (by omega)), by (repeat first | exact bel0 | assumption | refine bel1 ?_ | refine bel2 ?_ | refine bel3 ?_ | refine belowT ?_ (by assumption) | refine bel5 ?_ (by simp; try omega))⟩
  · go_region_held3 (fun w' => w'.cell? ⟨w.heap.size, 0, none⟩ = some (.int .i64 s) ∧ w'.cell? ⟨w.heap.size, 1, none⟩ = some (.slice a n c)) (first | (go_simp; done) | (simp [*, World.cell?_alloc_at, World.cell?_alloc_past, World.cell?_alloc_some, World.cell?_setCell_far]; done))
      (first | (go_at_call 80; refine (outside_c _ _ _).mono ?_; rintro e w' ⟨rfl, rfl⟩) | (go_at_call 69; refine (ContainsFunc_c a n c l 0 999 _ _ _ ?hi2 ?hg2 ?hh2).mono ?hm2; (case hi2 => refine h.below (B := w.heap.size) ?_ (Nat.le_refl _); (repeat first | exact bel0 | assumption | refine bel1 ?_ | refine bel2 ?_ | refine bel3 ?_ | refine belowT ?_ (by assumption) | refine bel5 ?_ (by simp; try omega))); (case hg2 => (first | (go_simp; done) | (simp [*, World.cell?_alloc_at, World.cell?_alloc_past, World.cell?_alloc_some, World.cell?_setCell_far]; done))); (case hh2 => (first | (go_simp; done) | (simp [*, World.cell?_alloc_at, World.cell?_alloc_past, World.cell?_alloc_some, World.cell?_setCell_far]; done))); rintro e w' ⟨rfl, rfl⟩))
    go_wp2_with (go_at_call 81; refine (fits_c _ _ _).mono ?_; rintro e w' ⟨rfl, rfl⟩)
    · have hl := hlen.out
      go_ret
      exact ⟨ret_int (checkZ_3 ‹_› (by omega) ‹_›), by (repeat first | exact bel0 | assumption | refine bel1 ?_ | refine bel2 ?_ | refine bel3 ?_ | refine belowT ?_ (by assumption) | refine bel5 ?_ (by simp; try omega))⟩
    · have hl := hlen.out
      go_ret
      exact ⟨ret_int (checkZ_4 ‹_› (by omega) ‹_› (by rw [hl]; simpa using ‹(!fitsB s n) = true›)), by (repeat first | exact bel0 | assumption | refine bel1 ?_ | refine bel2 ?_ | refine bel3 ?_ | refine belowT ?_ (by assumption) | refine bel5 ?_ (by simp; try omega))⟩
    · have hl := hlen.out
      go_ret
      exact ⟨ret_int (checkZ_0 ‹_› (by omega) ‹_› (by rw [hl]; simpa using ‹(!fitsB s n) = false›)), by (repeat first | exact bel0 | assumption | refine bel1 ?_ | refine bel2 ?_ | refine bel3 ?_ | refine belowT ?_ (by assumption) | refine bel5 ?_ (by simp; try omega))⟩

theorem SameZone_c (s t : Int) (a b : Option Addr) (n c m d : Nat) (l k : List Int) (w : World) (h1 : Ints w a n c l) (h2 : Ints w b m d k) :
    Calls Tryz.prog 58 #[.agg #[.int .i64 s, .slice a n c], .agg #[.int .i64 t, .slice b m d]] w fun e w' => e = .returned (.bool (decide (s = t ∧ l = k))) ∧ Below w.heap.size w w' := by
  by_cases hst : s = t
  · have hb : (s == t) = true := by simp [hst]
    have HST := hide hst
    clear hst
    go_enter Tryz.func58, Tryz.ntmps58
    go_wp2_with (go_at_call 22; refine (Equal_c a b n m c d l k _ ?h1 ?h2).mono ?hm; (case h1 => refine h1.below (B := w.heap.size) ?_ (Nat.le_refl _); (repeat first | exact bel0 | assumption | refine bel1 ?_ | refine bel2 ?_ | refine bel3 ?_ | refine belowT ?_ (by assumption) | refine bel5 ?_ (by simp; try omega))); (case h2 => refine h2.below (B := w.heap.size) ?_ (Nat.le_refl _); (repeat first | exact bel0 | assumption | refine bel1 ?_ | refine bel2 ?_ | refine bel3 ?_ | refine belowT ?_ (by assumption) | refine bel5 ?_ (by simp; try omega))); rintro e w' ⟨rfl, q, rfl⟩)
    go_ret
    exact ⟨ret_bool (by simp [HST.out]), by (repeat first | exact bel0 | assumption | refine bel1 ?_ | refine bel2 ?_ | refine bel3 ?_ | refine belowT ?_ (by assumption) | refine bel5 ?_ (by simp; try omega))⟩
  · have hb : (s == t) = false := by simp [hst]
    have HST := hide hst
    clear hst
    go_enter Tryz.func58, Tryz.ntmps58
    go_wp2
    go_ret
    exact ⟨ret_bool (by simp [HST.out]), by (repeat first | exact bel0 | assumption | refine bel1 ?_ | refine bel2 ?_ | refine bel3 ?_ | refine belowT ?_ (by assumption) | refine bel5 ?_ (by simp; try omega))⟩

theorem Same_c (s t : Int) (a b : Option Addr) (n c m d : Nat) (l k : List Int) (w : World) (h1 : Ints w a n c l) (h2 : Ints w b m d k) :
    Calls Tryz.prog 57 #[.agg #[.int .i64 s, .slice a n c], .agg #[.int .i64 t, .slice b m d]] w fun e w' => e = .returned (.bool (decide (s = t ∧ l = k))) ∧ Below w.heap.size w w' := by
  by_cases hst : s = t
  · have hb : (s == t) = true := by simp [hst]
    have HST := hide hst
    clear hst
    go_enter Tryz.func57, Tryz.ntmps57
    go_wp2_with (go_at_call 22; refine (Equal_c a b n m c d l k _ ?h1 ?h2).mono ?hm; (case h1 => refine h1.below (B := w.heap.size) ?_ (Nat.le_refl _); (repeat first | exact bel0 | assumption | refine bel1 ?_ | refine bel2 ?_ | refine bel3 ?_ | refine belowT ?_ (by assumption) | refine bel5 ?_ (by simp; try omega))); (case h2 => refine h2.below (B := w.heap.size) ?_ (Nat.le_refl _); (repeat first | exact bel0 | assumption | refine bel1 ?_ | refine bel2 ?_ | refine bel3 ?_ | refine belowT ?_ (by assumption) | refine bel5 ?_ (by simp; try omega))); rintro e w' ⟨rfl, q, rfl⟩)
    go_ret
    exact ⟨ret_bool (by simp [HST.out]), by (repeat first | exact bel0 | assumption | refine bel1 ?_ | refine bel2 ?_ | refine bel3 ?_ | refine belowT ?_ (by assumption) | refine bel5 ?_ (by simp; try omega))⟩
  · have hb : (s == t) = false := by simp [hst]
    have HST := hide hst
    clear hst
    go_enter Tryz.func57, Tryz.ntmps57
    go_wp2
    go_ret
    exact ⟨ret_bool (by simp [HST.out]), by (repeat first | exact bel0 | assumption | refine bel1 ?_ | refine bel2 ?_ | refine bel3 ?_ | refine belowT ?_ (by assumption) | refine bel5 ?_ (by simp; try omega))⟩

set_option maxHeartbeats 1000000 in
theorem CheckZone_c (s : Int) (a : Option Addr) (n c : Nat) (l : List Int) (w : World) (h : Ints w a n c l) :
    Calls Tryz.prog 49 #[.agg #[.int .i64 s, .slice a n c]] w fun e w' => e = .returned (.int .i64 (checkZ s l)) ∧ Below w.heap.size w w' := by
  have hlen := hide h.len
  have hmax := h.max
  have hle := h.le
  go_enter Tryz.func49, Tryz.ntmps49
  go_wp2_with (first | (go_at_call 26; refine (in_c _ _ _ _).mono ?_; rintro e w' ⟨rfl, rfl⟩) | (go_at_call 27; refine (all_c a n c l _ _ _ ?hi).mono ?hm; (case hi => refine h.below (B := w.heap.size) ?_ (Nat.le_refl _); (repeat first | exact bel0 | assumption | refine bel1 ?_ | refine bel2 ?_ | refine bel3 ?_ | refine belowT ?_ (by assumption) | refine bel5 ?_ (by simp; try omega))); rintro e w' ⟨rfl, rfl⟩))
  all_goals
    have hl := checkZ_ref (s := s) hlen.out
    go_ret
    refine ⟨ret_int ?_, by (repeat first | exact bel0 | assumption | refine bel1 ?_ | refine bel2 ?_ | refine bel3 ?_ | refine belowT ?_ (by assumption) | refine bel5 ?_ (by simp; try omega))⟩
    go_light
    rw [hl]
    clear hl hlen h
    generalize (l.all fun x => inB x 0 999) = A at *
    generalize inB s 0 4 = B at *
    simp only [bne_iff_ne, beq_iff_eq, Bool.not_eq_true', Bool.not_eq_false', beq_eq_false_iff_ne, bne_eq_false_iff_eq] at *
    (repeat' split) <;> first | rfl | (exfalso; simp_all; done) | (exfalso; simp_all; omega) | (exfalso; omega)

end Go.Proofs.YtkamnbigfdbgbaaGreatDoor

/- What a slice of zones is in a world, and plain facts on it; no condition. -/
namespace Go.Proofs.YtkamnbigfdbgbaaGreatDoor
open Go.RowKit
set_option linter.unusedVariables false
set_option maxRecDepth 100000
set_option linter.unusedSimpArgs false

/-- A zone's value: its state, its slice, the blocks that the slice reads as. -/
structure ZV where
  s : Int
  a : Option Addr
  n : Nat
  c : Nat
  l : List Int

/-- The zone as plain data. -/
def ZV.p (z : ZV) : Int × List Int := (z.s, z.l)
def ZV.ok (w : World) (z : ZV) : Prop := Ints w z.a z.n z.c z.l

/-- A slice value's zones in a world. -/
structure Zones (w : World) (a : Option Addr) (n c : Nat) (Z : List ZV) : Prop where
  len : Z.length = n
  le : n ≤ c
  max : c ≤ 9223372036854775807
  nil : a = none → c = 0
  row : n = 0 ∨ ∃ b off, a = some ⟨b, off, none⟩ ∧ b < w.heap.size ∧ ∀ i z, Z[i]? = some z → w.cell? ⟨b, off + i * 2, none⟩ = some (.int .i64 z.s) ∧ w.cell? ⟨b, off + i * 2 + 1, none⟩ = some (.slice z.a z.n z.c)
  ok : ∀ z ∈ Z, z.ok w

theorem Zones.below {w w' : World} {a : Option Addr} {n c : Nat} {Z : List ZV} (h : Zones w a n c Z) {B : Nat} (hb : Below B w w') (hB : w.heap.size ≤ B) : Zones w' a n c Z := by
  refine ⟨h.len, h.le, h.max, h.nil, ?_, fun z hz => (h.ok z hz).below hb hB⟩
  rcases h.row with h0 | ⟨b, off, ha, hlt, hc⟩
  · exact .inl h0
  · refine .inr ⟨b, off, ha, Nat.lt_of_lt_of_le hlt hb.size, fun i z hz => ?_⟩
    rw [hb.cell (p := ⟨b, off + i * 2, none⟩) (Nat.lt_of_lt_of_le hlt hB), hb.cell (p := ⟨b, off + i * 2 + 1, none⟩) (Nat.lt_of_lt_of_le hlt hB)]
    exact hc i z hz

def isO (s : Int) : Bool := s == 1 || s == 2
def isA (s : Int) : Bool := isO s || s == 3
def cnt (f : Int → Bool) (Z : List ZV) : Nat := (Z.filter fun z => f z.s).length

theorem cnt_le (f : Int → Bool) (Z : List ZV) : cnt f Z ≤ Z.length := List.length_filter_le _ _
theorem take_snoc (Z : List ZV) (k : Nat) (z : ZV) (h : Z[k]? = some z) : Z.take (k + 1) = Z.take k ++ [z] := by
  obtain ⟨hk, rfl⟩ := List.getElem?_eq_some_iff.1 h
  exact List.take_succ_eq_append_getElem hk
theorem cnt_snoc (f : Int → Bool) (Z : List ZV) (k : Nat) (z : ZV) (h : Z[k]? = some z) : cnt f (Z.take (k + 1)) = cnt f (Z.take k) + if f z.s then 1 else 0 := by
  unfold cnt
  rw [take_snoc Z k z h, List.filter_append, List.length_append]
  cases hf : f z.s <;> simp [List.filter_cons, hf]

theorem map_take_step (Z Y : List ZV) (k : Nat) (z y : ZV) (hz : Z[k]? = some z) (hy : Y[k]? = some y) (h : (Z.take k).map ZV.p = (Y.take k).map ZV.p) (hx : z.s = y.s ∧ z.l = y.l) : (Z.take (k + 1)).map ZV.p = (Y.take (k + 1)).map ZV.p := by
  rw [take_snoc Z k z hz, take_snoc Y k y hy, List.map_append, List.map_append, h]
  simp [ZV.p, hx.1, hx.2]
theorem map_ne (Z Y : List ZV) (k : Nat) (z y : ZV) (hz : Z[k]? = some z) (hy : Y[k]? = some y) (hx : ¬ (z.s = y.s ∧ z.l = y.l)) : Z.map ZV.p ≠ Y.map ZV.p := by
  intro h
  have := congrArg (fun L => L[k]?) h
  simp [List.getElem?_map, hz, hy, ZV.p] at this
  exact hx this
theorem map_len (Z Y : List ZV) (h : Z.length ≠ Y.length) : Z.map ZV.p ≠ Y.map ZV.p := fun e => h (by have := congrArg List.length e; simpa using this)

/-- The first zone's error, one by one. -/
def firstE : List (Int × List Int) → Int
  | [] => 0
  | z :: r => if checkZ z.1 z.2 ≠ 0 then checkZ z.1 z.2 else firstE r
def cntP (f : Int → Bool) (P : List (Int × List Int)) : Nat := (P.filter fun z => f z.1).length
/-- What Check answers of zones: plain. -/
def checkZs (P : List (Int × List Int)) : Int :=
  if P.length ≠ 4 then 4 else if firstE P ≠ 0 then firstE P else if 2 < cntP isO P ∨ 3 < cntP isA P then 7 else 0

theorem cnt_map (f : Int → Bool) (Z : List ZV) : cnt f Z = cntP f (Z.map ZV.p) := by
  unfold cnt cntP
  rw [List.filter_map, List.length_map]
  rfl
theorem firstE_append (P Q : List (Int × List Int)) (h : firstE P = 0) : firstE (P ++ Q) = firstE Q := by
  induction P with
  | nil => rfl
  | cons z r ih =>
    simp only [firstE] at h
    by_cases hz : checkZ z.1 z.2 = 0
    · simp [hz] at h
      simp only [List.cons_append, firstE, hz]
      simpa using ih h
    · simp [hz] at h
theorem firstE_step (Z : List ZV) (k : Nat) (z : ZV) (hz : Z[k]? = some z) (h : firstE ((Z.take k).map ZV.p) = 0) (hc : checkZ z.s z.l = 0) : firstE ((Z.take (k + 1)).map ZV.p) = 0 := by
  rw [take_snoc Z k z hz, List.map_append, firstE_append _ _ h]
  simp [firstE, ZV.p, hc]
theorem firstE_at (Z : List ZV) (k : Nat) (z : ZV) (hz : Z[k]? = some z) (h : firstE ((Z.take k).map ZV.p) = 0) (hc : checkZ z.s z.l ≠ 0) : firstE (Z.map ZV.p) = checkZ z.s z.l := by
  have e : Z = Z.take k ++ z :: Z.drop (k + 1) := by
    obtain ⟨hk, rfl⟩ := List.getElem?_eq_some_iff.1 hz
    rw [List.getElem_cons_drop, List.take_append_drop]
  rw [e, List.map_append, firstE_append _ _ h]
  simp [firstE, ZV.p, hc]
theorem firstE_all (P : List (Int × List Int)) (h : firstE P = 0) : ∀ z ∈ P, checkZ z.1 z.2 = 0 := by
  induction P with
  | nil => simp
  | cons z r ih =>
    simp only [firstE] at h
    by_cases hz : checkZ z.1 z.2 = 0
    · simp [hz] at h
      intro y hy
      rcases List.mem_cons.1 hy with rfl | hy
      · exact hz
      · exact ih h y hy
    · simp [hz] at h
theorem checkZs_1 {Z : List ZV} (h : Z.length ≠ 4) : 4 = checkZs (Z.map ZV.p) := by simp [checkZs, h]
theorem checkZs_2 {Z : List ZV} (h : Z.length = 4) {x : Int} (hx : firstE (Z.map ZV.p) = x) (h0 : x ≠ 0) : x = checkZs (Z.map ZV.p) := by simp [checkZs, h, hx, h0]
theorem checkZs_3 {Z : List ZV} (h : Z.length = 4) (hx : firstE (Z.map ZV.p) = 0) (h0 : 2 < cnt isO Z ∨ 3 < cnt isA Z) : 7 = checkZs (Z.map ZV.p) := by
  rw [cnt_map, cnt_map] at h0
  simp [checkZs, h, hx, h0]
theorem checkZs_0 {Z : List ZV} (h : Z.length = 4) (hx : firstE (Z.map ZV.p) = 0) (h0 : ¬ (2 < cnt isO Z ∨ 3 < cnt isA Z)) : 0 = checkZs (Z.map ZV.p) := by
  rw [cnt_map, cnt_map] at h0
  simp only [checkZs, List.length_map, h, hx, h0]
  simp

end Go.Proofs.YtkamnbigfdbgbaaGreatDoor

/- How the arguments of the laws read: a slice of zones, a bool; no condition. -/
namespace Go.Proofs.YtkamnbigfdbgbaaGreatDoor
open Go.ChangeShapes Go.WideShapes Go.ChangeAt Go.RowKit Go.Joins
set_option linter.unusedVariables false
set_option maxRecDepth 100000
set_option linter.unusedSimpArgs false

/-- The cells of one zone, read. -/
theorem zone_of {H : Type} {enc : TypeId × Value → H} {W : World} {fuel : Nat} {cs : List Value} {y : DataW H × List MemPlace}
    (h : DataW.trod enc Tryz.prog W 0 (fun _ => true) true fuel 68 cs = some y) : ∃ z : ZV, cs = [.int .i64 z.s, .slice z.a z.n z.c] ∧ z.ok W := by
  obtain ⟨y0, y1, n, _, hl, h0, h1⟩ := trod_struct2 Tryz.underlying68 h
  rw [cellsZone] at hl
  match cs, hl with
  | [v0, v1], _ =>
    have k0 : DataW.trod enc Tryz.prog W 0 (fun _ => true) true n 3 [v0] = some y0 := h0
    have k1 : DataW.trod enc Tryz.prog W 0 (fun _ => true) true n 23 [v1] = some y1 := h1
    obtain ⟨s, e0, _, _⟩ := DataW.trod_int Tryz.underlying3 k0
    simp at e0
    subst e0
    obtain ⟨a, n, c, l, rfl, hi⟩ := ints_of k1
    exact ⟨⟨s, a, n, c, l⟩, rfl, hi⟩

theorem zones_of {H : Type} {enc : TypeId × Value → H} {W : World} {fuel : Nat} {v : Value} {y : DataW H × List MemPlace}
    (h : DataW.trod enc Tryz.prog W 0 (fun _ => true) true fuel 22 [v] = some y) : ∃ a n c Z, v = .slice a n c ∧ Zones W a n c Z := by
  rcases Go.Deep.open_slice Tryz.underlying22 h with ⟨hcs, _⟩ | ⟨x, len, cap, m, n, D, Pl, hcs, _, hl, hm, hmm, _, hel⟩
  · simp at hcs
    subst hcs
    exact ⟨none, 0, 0, [], rfl, ⟨rfl, Nat.le_refl _, by omega, fun _ => rfl, .inl rfl, by simp⟩⟩
  · simp at hcs
    subst hcs
    have hm' : m = cap := by simpa using hmm
    subst hm'
    have hz : ∀ i, i < len → ∃ z : ZV, z.ok W ∧ W.cell? (x.add (i * 2)) = some (.int .i64 z.s) ∧ W.cell? ((x.add (i * 2)).add 1) = some (.slice z.a z.n z.c) := by
      intro i hi
      obtain ⟨cs', h1, h2⟩ := hel i (by omega)
      rw [cellsZone] at h1
      obtain ⟨z, rfl, hz⟩ := zone_of h2
      obtain ⟨_, _, hc⟩ := World.cells?_some h1
      exact ⟨z, hz, by simpa [Addr.add] using hc 0 (by omega), by simpa using hc 1 (by omega)⟩
    have dft : Inhabited ZV := ⟨⟨0, none, 0, 0, []⟩⟩
    obtain ⟨f, hf⟩ := Go.Deep.choose_lt hz
    refine ⟨some x, len, m, (List.range len).map f, rfl, ⟨by simp, hl, hm, fun e => (by cases e), ?_, ?_⟩⟩
    · by_cases h0 : len = 0
      · exact .inl h0
      · obtain ⟨b, off, spot⟩ := x
        have hc0 := (hf 0 (by omega)).2.1
        have hspot : spot = none := by simpa [Addr.add] using World.cell?_spot hc0
        subst hspot
        refine .inr ⟨b, off, rfl, World.block_lt_of_cell? W ⟨b, off, none⟩ (by simpa [Addr.add] using hc0), fun i z hz => ?_⟩
        have hi : i < len := by have := (List.getElem?_eq_some_iff.1 hz).1; simpa using this
        rw [List.getElem?_map, List.getElem?_range hi] at hz
        simp at hz
        subst hz
        obtain ⟨_, h1, h2⟩ := hf i hi
        rw [addr_add] at h1 h2
        rw [addr_add] at h2
        exact ⟨h1, h2⟩
    · intro z hz
      simp at hz
      obtain ⟨i, hi, rfl⟩ := hz
      exact (hf i hi).1

end Go.Proofs.YtkamnbigfdbgbaaGreatDoor

/- Books as plain data, and what the document's calls make of them; plain mathematics, no condition. -/
namespace Go.Proofs.YtkamnbigfdbgbaaGreatDoor
open Go.RowKit
set_option linter.unusedVariables false
set_option maxRecDepth 100000
set_option linter.unusedSimpArgs false

/-- A book: keys, holder, type. -/
structure PB where
  k : List Int
  h : Int
  t : Int

def zeroB : PB := ⟨[], 0, 0⟩
def freshB : PB := ⟨[0, 0, 0], -1, 0⟩
def keyOf (b : PB) (i : Int) : Int := b.k.getD i.toNat 0
/-- What Check answers. -/
def checkB (b : PB) : Int :=
  if b.k.length ≠ 3 then 4
  else if b.k.any (outB 0 9) ∨ outB (-1) 2 b.h ∨ outB 0 4 b.t then 3
  else if b.h = -1 ∧ b.t ≠ 0 ∨ b.h ≠ -1 ∧ (b.t = 0 ∨ keyOf b b.h = 0) then 4 else 0
/-- What is wrong first: the book, or the hand. -/
def preB (b : PB) (who : Int) : Int := if checkB b ≠ 0 then checkB b else if inB who 0 2 then 0 else 5
def sameB (a b : PB) : Bool := decide (a.k = b.k ∧ a.h = b.h ∧ a.t = b.t)
def registerB (b : PB) (who key : Int) : PB × Int :=
  if preB b who ≠ 0 then (zeroB, preB b who)
  else if inB key 0 9 = false then (zeroB, 3)
  else if key = 0 ∧ b.h = who then (⟨b.k.set who.toNat key, -1, 0⟩, 0) else (⟨b.k.set who.toNat key, b.h, b.t⟩, 0)
def reserveB (b : PB) (who kind : Int) : PB × Int :=
  if preB b who ≠ 0 then (zeroB, preB b who)
  else if inB kind 1 4 = false then (zeroB, 3)
  else if keyOf b who = 0 ∨ b.h ≠ -1 ∧ ¬ (b.h = who ∧ b.t = kind) then (zeroB, 8) else (⟨b.k, who, kind⟩, 0)
def releaseB (b : PB) (who : Int) : PB × Int :=
  if preB b who ≠ 0 then (zeroB, preB b who)
  else if keyOf b who = 0 then (zeroB, 8)
  else if b.h = who then (⟨b.k, -1, 0⟩, 0) else (b, 0)
/-- The keys when all others with this key are struck. -/
def strike (l : List Int) (who key : Int) : List Int := l.mapIdx fun i x => if x = key ∧ (i : Int) ≠ who then 0 else x
def preemptB (b : PB) (who key : Int) : PB × Int :=
  if preB b who ≠ 0 then (zeroB, preB b who)
  else if inB key 1 9 = false then (zeroB, 3)
  else if keyOf b who = 0 then (zeroB, 8)
  else (⟨strike b.k who key, if b.h ≠ -1 ∧ b.h ≠ who ∧ keyOf b b.h = key then who else b.h, b.t⟩, 0)
def clearB (b : PB) (who : Int) : PB × Int :=
  if preB b who ≠ 0 then (zeroB, preB b who)
  else if keyOf b who = 0 then (zeroB, 8) else (freshB, 0)
def mightB (b : PB) (who : Int) (write : Bool) : Bool :=
  decide (b.h = -1 ∨ b.h = who ∨ (write = false ∧ (b.t = 1 ∨ b.t = 3)) ∨ ((b.t = 3 ∨ b.t = 4) ∧ keyOf b who ≠ 0))
def mayB (b : PB) (who : Int) (write : Bool) : Bool × Int :=
  if preB b who ≠ 0 then (false, preB b who) else (mightB b who write, 0)

/-- A book's value in a world. -/
def bookV (a : Option Addr) (n c : Nat) (b : PB) : Value := .agg #[.slice a n c, .int .i64 b.h, .int .i64 b.t]

theorem three {l : List Int} (h : l.length = 3) : ∃ x y z, l = [x, y, z] := by
  match l, h with
  | [x, y, z], _ => exact ⟨x, y, z, rfl⟩

/-- What is known of a right book. -/
theorem checkB_ok {b : PB} (h : checkB b = 0) : ∃ x y z, b.k = [x, y, z] ∧ (0 ≤ x ∧ x ≤ 9) ∧ (0 ≤ y ∧ y ≤ 9) ∧ (0 ≤ z ∧ z ≤ 9) ∧ (b.h = -1 ∧ b.t = 0 ∨ (b.h = 0 ∨ b.h = 1 ∨ b.h = 2) ∧ (1 ≤ b.t ∧ b.t ≤ 4) ∧ keyOf b b.h ≠ 0) := by
  unfold checkB at h
  by_cases h3 : b.k.length = 3
  · obtain ⟨x, y, z, e⟩ := three h3
    refine ⟨x, y, z, e, ?_⟩
    simp only [h3, ne_eq, not_true_eq_false, if_false] at h
    split at h
    · omega
    · rename_i h1
      split at h
      · omega
      · rename_i h2
        rw [e] at h1
        simp [outB] at h1
        omega
  · simp [h3] at h

theorem Ints.three {w : World} {a : Option Addr} {c : Nat} {x y z : Int} (h : Ints w a 3 c [x, y, z]) : ∃ g off, a = some ⟨g, off, none⟩ ∧ w.cell? ⟨g, off, none⟩ = some (.int .i64 x) ∧ w.cell? ⟨g, off + 1, none⟩ = some (.int .i64 y) ∧ w.cell? ⟨g, off + 2, none⟩ = some (.int .i64 z) := by
  rcases h.row with h0 | ⟨g, off, ha, _, hc⟩
  · omega
  · exact ⟨g, off, ha, hc 0 (by omega), hc 1 (by omega), hc 2 (by omega)⟩

theorem checkB_len {b : PB} (h : b.k.length ≠ 3) : checkB b = 4 := by simp [checkB, h]
theorem checkB_3 {b : PB} (h : b.k.length = 3) (h2 : b.k.any (outB 0 9) = true ∨ outB (-1) 2 b.h = true ∨ outB 0 4 b.t = true) : checkB b = 3 := by
  unfold checkB
  rw [if_neg (by simp [h]), if_pos h2]
theorem checkB_4 {b : PB} (h : b.k.length = 3) (h2 : ¬ (b.k.any (outB 0 9) = true ∨ outB (-1) 2 b.h = true ∨ outB 0 4 b.t = true)) (h3 : b.h = -1 ∧ b.t ≠ 0 ∨ b.h ≠ -1 ∧ (b.t = 0 ∨ keyOf b b.h = 0)) : checkB b = 4 := by
  unfold checkB
  rw [if_neg (by simp [h]), if_neg h2, if_pos h3]
theorem checkB_0 {b : PB} (h : b.k.length = 3) (h2 : ¬ (b.k.any (outB 0 9) = true ∨ outB (-1) 2 b.h = true ∨ outB 0 4 b.t = true)) (h3 : ¬ (b.h = -1 ∧ b.t ≠ 0 ∨ b.h ≠ -1 ∧ (b.t = 0 ∨ keyOf b b.h = 0))) : checkB b = 0 := by
  unfold checkB
  rw [if_neg (by simp [h]), if_neg h2, if_neg h3]

end Go.Proofs.YtkamnbigfdbgbaaGreatDoor

/- How the arguments of the laws read: a book; no condition. -/
namespace Go.Proofs.YtkamnbigfdbgbaaGreatDoor
open Go.ChangeShapes Go.WideShapes Go.ChangeAt Go.RowKit Go.Joins
set_option linter.unusedVariables false
set_option maxRecDepth 100000
set_option linter.unusedSimpArgs false

end Go.Proofs.YtkamnbigfdbgbaaGreatDoor

/- Numbers as texts: what is written is read, and is written so alone; plain mathematics, no condition. -/
namespace Go.Proofs.YtkamnbigfdbgbaaGreatDoor
open Go.Lib
set_option linter.unusedVariables false
set_option maxRecDepth 100000
set_option linter.unusedSimpArgs false

end Go.Proofs.YtkamnbigfdbgbaaGreatDoor

/- Commands as plain data, and what the document's calls make of them; plain mathematics, no condition. -/
namespace Go.Proofs.YtkamnbigfdbgbaaGreatDoor
open Go.RowKit
set_option linter.unusedVariables false
set_option maxRecDepth 100000
set_option linter.unusedSimpArgs false

/-- A command: its fields in Go's order. -/
structure PC where
  k : Int
  z : Int
  n : Int
  at' : Int
  d : List Int

def cmdV (a : Option Addr) (n c : Nat) (b : PC) : Value := .agg #[.int .i64 b.k, .int .i64 b.z, .int .i64 b.n, .int .i64 b.at', .slice a n c]
def hasZ (k : Int) : Bool := decide (1 ≤ k) && decide (k ≤ 7)
def hasA (k : Int) : Bool := k == 6 || k == 7
def hasN (k : Int) : Bool := k == 7 || k == 8 || k == 9 || k == 11
def hasD (k : Int) : Bool := k == 5 || k == 6
/-- What Check answers. -/
def checkC (b : PC) : Int :=
  if outB 1 12 b.k then 4
  else if (b.z ≠ 0 ∧ hasZ b.k = false) ∨ (b.at' ≠ 0 ∧ hasA b.k = false) ∨ (b.n ≠ 0 ∧ hasN b.k = false) then 4
  else if hasD b.k = decide (b.d = []) then 4
  else if 8 < b.d.length then 2
  else if outB 0 999 b.z ∨ outB 0 999 b.at' ∨ outB 0 999 b.n ∨ b.d.any (outB 0 999) then 3 else 0
end Go.Proofs.YtkamnbigfdbgbaaGreatDoor

/- How the arguments of the laws read: a command, a text; no condition. -/
namespace Go.Proofs.YtkamnbigfdbgbaaGreatDoor
open Go.ChangeShapes Go.WideShapes Go.ChangeAt Go.RowKit Go.Joins Go.ChangeMaps
set_option linter.unusedVariables false
set_option maxRecDepth 100000
set_option linter.unusedSimpArgs false

theorem array5 {α : Type} {cs : Array α} (h : cs.size = 5) : ∃ c0 c1 c2 c3 c4, cs = #[c0, c1, c2, c3, c4] := by
  obtain ⟨l⟩ := cs
  match l, h with
  | [c0, c1, c2, c3, c4], _ => exact ⟨c0, c1, c2, c3, c4, rfl⟩

theorem list5 {α : Type} {xs : List α} (h : xs.length = 5) : ∃ c0 c1 c2 c3 c4, xs = [c0, c1, c2, c3, c4] := by
  match xs, h with
  | [c0, c1, c2, c3, c4], _ => exact ⟨c0, c1, c2, c3, c4, rfl⟩

theorem cellsCmd : Tryz.prog.cellsOf 29 = 5 := by kernel_rfl

set_option maxRecDepth 100000 in
theorem cmd_arg {H : Type} {enc : TypeId × Value → H} {W : World} {base : Nat} {v : Value} {d : DataW H} {p : List MemPlace} (hv : Value.okWide Tryz.prog W .any base 29 v)
    (h : DataW.Trod enc Tryz.prog W 0 (fun _ => true) true 29 v d p) : ∃ a n c b, v = cmdV a n c b ∧ Ints W a n c b.d := by
  obtain ⟨cs, rfl, hsz⟩ := okWide_struct Tryz.underlying29 hv
  obtain ⟨v0, v1, v2, v3, v4, rfl⟩ := array5 (hsz.trans cellsCmd)
  obtain ⟨fuel, hf⟩ := h
  obtain ⟨xs, n, _, _, _, hlen, hfs⟩ := DataW.trod_struct Tryz.underlying29 hf
  obtain ⟨y0, y1, y2, y3, y4, rfl⟩ := list5 hlen
  have g0 := hfs 0 _ rfl
  have g1 := hfs 1 _ rfl
  have g2 := hfs 2 _ rfl
  have g3 := hfs 3 _ rfl
  have g4 := hfs 4 _ rfl
  have c3 : Tryz.prog.cellsOf 3 = 1 := by kernel_rfl
  have c22 : Tryz.prog.cellsOf 23 = 1 := by kernel_rfl
  simp [Value.cells, c3, c22] at g0 g1 g2 g3 g4
  obtain ⟨k, e0, _, _⟩ := DataW.trod_int Tryz.underlying3 g0
  obtain ⟨z, e1, _, _⟩ := DataW.trod_int Tryz.underlying3 g1
  obtain ⟨nn, e2, _, _⟩ := DataW.trod_int Tryz.underlying3 g2
  obtain ⟨t, e3, _, _⟩ := DataW.trod_int Tryz.underlying3 g3
  simp at e0 e1 e2 e3
  subst e0 e1 e2 e3
  obtain ⟨a, n, c, l, rfl, hi⟩ := ints_of g4
  exact ⟨a, n, c, ⟨k, z, nn, t, l⟩, rfl, hi⟩

end Go.Proofs.YtkamnbigfdbgbaaGreatDoor
