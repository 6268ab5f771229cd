/- The contracts of zone.Check, zone.Same and of the document's own answers to them; no condition but that the zone reads as its state and list. -/
import Derived.Test.YtaambknbbhjdnaaA2
import Derived.Deep.RegionHeld3
import Derived.Deep.Light
namespace Go.Proofs.Ytaambknbbhjdnaa
open Go.RowKit
set_option linter.unusedVariables false
set_option maxRecDepth 100000
set_option linter.unusedSimpArgs false

/-- What Check answers: plain. -/
def checkZ (s : Int) (l : List Int) : Int :=
  if outB 0 4 s then 4 else if 8 < l.length then 2 else if l.any (outB 0 999) then 3 else if fitsB s l.length then 0 else 4

theorem checkZ_1 {s : Int} {l : List Int} (h1 : outB 0 4 s = true) : 4 = checkZ s l := by simp [checkZ, h1]
theorem checkZ_2 {s : Int} {l : List Int} (h1 : outB 0 4 s = false) (h2 : 8 < l.length) : 2 = checkZ s l := by simp [checkZ, h1, h2]
theorem checkZ_3 {s : Int} {l : List Int} (h1 : outB 0 4 s = false) (h2 : ¬ 8 < l.length) (h3 : l.any (outB 0 999) = true) : 3 = checkZ s l := by simp only [checkZ, h1, h2, h3]; simp
theorem checkZ_4 {s : Int} {l : List Int} (h1 : outB 0 4 s = false) (h2 : ¬ 8 < l.length) (h3 : l.any (outB 0 999) = false) (h4 : fitsB s l.length = false) : 4 = checkZ s l := by simp only [checkZ, h1, h2, h3, h4]; simp
theorem checkZ_0 {s : Int} {l : List Int} (h1 : outB 0 4 s = false) (h2 : ¬ 8 < l.length) (h3 : l.any (outB 0 999) = false) (h4 : fitsB s l.length = true) : 0 = checkZ s l := by simp only [checkZ, h1, h2, h3, h4]; simp

theorem inB_outB (x a b : Int) : inB x a b = !outB a b x := by unfold inB outB; rw [Bool.eq_iff_iff]; simp
theorem all_any (l : List Int) (a b : Int) : (l.all fun x => inB x a b) = !l.any (outB a b) := by
  induction l with
  | nil => rfl
  | cons x l ih => rw [List.all_cons, List.any_cons, ih, inB_outB, Bool.not_or]

/-- Check's answer, in the document's own words. -/
theorem checkZ_ref {s : Int} {l : List Int} {n : Nat} (hl : l.length = n) :
    checkZ s l = if (!inB s 0 4) = true then 4 else if 8 < (n : Int) then 2 else if (!l.all fun x => inB x 0 999) = true then 3 else if s = 0 ∧ (n : Int) ≠ 0 ∨ s = 3 ∧ (n : Int) = 0 ∨ s ≠ 4 ∧ (n : Int) = 8 then 4 else 0 := by
  subst hl
  unfold checkZ
  rw [all_any, inB_outB]
  simp only [Bool.not_not]
  generalize l.any (outB 0 999) = A
  generalize l.length = n
  by_cases h1 : outB 0 4 s = true
  · simp only [if_pos h1]
  · simp only [if_neg h1]
    by_cases h2 : 8 < n
    · have h2' : (8 : Int) < (n : Int) := by omega
      simp only [if_pos h2, if_pos h2']
    · have h2' : ¬ (8 : Int) < (n : Int) := by omega
      simp only [if_neg h2, if_neg h2']
      cases A
      · have h5 : 0 ≤ s ∧ s ≤ 4 := by simp [outB] at h1; omega
        have h6 : (fitsB s n = true) ↔ ¬ (s = 0 ∧ (n : Int) ≠ 0 ∨ s = 3 ∧ (n : Int) = 0 ∨ s ≠ 4 ∧ (n : Int) = 8) := by
          unfold fitsB
          by_cases a : s = 4
          · simp [a]
          · by_cases b : s = 0
            · simp [b]
              omega
            · by_cases c : s = 3
              · simp [c]; omega
              · simp [a, b, c]; omega
        simp only [Bool.false_eq_true, if_false]
        by_cases h7 : fitsB s n = true
        · rw [if_pos h7, if_neg (h6.1 h7)]
        · rw [if_neg h7, if_pos (Decidable.not_not.1 (fun h => h7 (h6.2 h)))]
      · simp only [if_true]

set_option maxHeartbeats 1000000 in
theorem Check_c (s : Int) (a : Option Addr) (n c : Nat) (l : List Int) (w : World) (h : Ints w a n c l) :
    Calls Try.prog 34 #[.agg #[.int .i64 s, .slice a n c]] w fun e w' => e = .returned (.int .i64 (checkZ s l)) ∧ Below w.heap.size w w' := by
  have hlen := hide h.len
  have hmax := h.max
  have hle := h.le
  go_enter Try.func34, Try.ntmps34
  go_wp2
  go_region_held3 (fun w' => w'.cell? ⟨w.heap.size, 0, none⟩ = some (.int .i64 s) ∧ w'.cell? ⟨w.heap.size, 1, none⟩ = some (.slice a n c)) (go_keep)
    (first | (go_at_call 51; refine (outside_c _ _ _).mono ?_; rintro e w' ⟨rfl, rfl⟩) | (go_at_call 60; refine (outside1_c _ 0 4 _ _ _ ?hg ?hh).mono ?hm; (case hg => (first | (go_simp; done) | (simp [*, World.cell?_alloc_at, World.cell?_alloc_past, World.cell?_alloc_some, World.cell?_setCell_far]; done))); (case hh => (first | (go_simp; done) | (simp [*, World.cell?_alloc_at, World.cell?_alloc_past, World.cell?_alloc_some, World.cell?_setCell_far]; done))); rintro e w' ⟨rfl, rfl⟩))
  go_wp2
  · go_ret
    exact ⟨ret_int (checkZ_1 ‹_›), by (repeat first | exact bel0 | assumption | refine bel1 ?_ | refine bel2 ?_ | refine bel3 ?_ | refine belowT ?_ (by assumption) | refine bel5 ?_ (by simp; try omega))⟩
  · have hl := hlen.out
    go_ret
    exact ⟨ret_int (checkZ_2 ‹_› (by omega)), by (repeat first | exact bel0 | assumption | refine bel1 ?_ | refine bel2 ?_ | refine bel3 ?_ | refine belowT ?_ (by assumption) | refine bel5 ?_ (by simp; try omega))⟩
  · go_region_held3 (fun w' => w'.cell? ⟨w.heap.size, 0, none⟩ = some (.int .i64 s) ∧ w'.cell? ⟨w.heap.size, 1, none⟩ = some (.slice a n c)) (first | (go_simp; done) | (simp [*, World.cell?_alloc_at, World.cell?_alloc_past, World.cell?_alloc_some, World.cell?_setCell_far]; done))
      (first | (go_at_call 51; refine (outside_c _ _ _).mono ?_; rintro e w' ⟨rfl, rfl⟩) | (go_at_call 52; refine (ContainsFunc_c a n c l 0 999 _ _ _ ?hi2 ?hg2 ?hh2).mono ?hm2; (case hi2 => refine h.below (B := w.heap.size) ?_ (Nat.le_refl _); (repeat first | exact bel0 | assumption | refine bel1 ?_ | refine bel2 ?_ | refine bel3 ?_ | refine belowT ?_ (by assumption) | refine bel5 ?_ (by simp; try omega))); (case hg2 => (first | (go_simp; done) | (simp [*, World.cell?_alloc_at, World.cell?_alloc_past, World.cell?_alloc_some, World.cell?_setCell_far]; done))); (case hh2 => (first | (go_simp; done) | (simp [*, World.cell?_alloc_at, World.cell?_alloc_past, World.cell?_alloc_some, World.cell?_setCell_far]; done))); rintro e w' ⟨rfl, rfl⟩))
    go_wp2_with (go_at_call 53; refine (fits_c _ _ _).mono ?_; rintro e w' ⟨rfl, rfl⟩)
    · have hl := hlen.out
      go_ret
      exact ⟨ret_int (checkZ_3 ‹_› (by omega) ‹_›), by (repeat first | exact bel0 | assumption | refine bel1 ?_ | refine bel2 ?_ | refine bel3 ?_ | refine belowT ?_ (by assumption) | refine bel5 ?_ (by simp; try omega))⟩
    · have hl := hlen.out
      go_ret
      exact ⟨ret_int (checkZ_4 ‹_› (by omega) ‹_› (by rw [hl]; simpa using ‹(!fitsB s n) = true›)), by (repeat first | exact bel0 | assumption | refine bel1 ?_ | refine bel2 ?_ | refine bel3 ?_ | refine belowT ?_ (by assumption) | refine bel5 ?_ (by simp; try omega))⟩
    · have hl := hlen.out
      go_ret
      exact ⟨ret_int (checkZ_0 ‹_› (by omega) ‹_› (by rw [hl]; simpa using ‹(!fitsB s n) = false›)), by (repeat first | exact bel0 | assumption | refine bel1 ?_ | refine bel2 ?_ | refine bel3 ?_ | refine belowT ?_ (by assumption) | refine bel5 ?_ (by simp; try omega))⟩

theorem SameZone_c (s t : Int) (a b : Option Addr) (n c m d : Nat) (l k : List Int) (w : World) (h1 : Ints w a n c l) (h2 : Ints w b m d k) :
    Calls Try.prog 40 #[.agg #[.int .i64 s, .slice a n c], .agg #[.int .i64 t, .slice b m d]] w fun e w' => e = .returned (.bool (decide (s = t ∧ l = k))) ∧ Below w.heap.size w w' := by
  by_cases hst : s = t
  · have hb : (s == t) = true := by simp [hst]
    have HST := hide hst
    clear hst
    go_enter Try.func40, Try.ntmps40
    go_wp2_with (go_at_call 20; refine (Equal_c a b n m c d l k _ ?h1 ?h2).mono ?hm; (case h1 => refine h1.below (B := w.heap.size) ?_ (Nat.le_refl _); (repeat first | exact bel0 | assumption | refine bel1 ?_ | refine bel2 ?_ | refine bel3 ?_ | refine belowT ?_ (by assumption) | refine bel5 ?_ (by simp; try omega))); (case h2 => refine h2.below (B := w.heap.size) ?_ (Nat.le_refl _); (repeat first | exact bel0 | assumption | refine bel1 ?_ | refine bel2 ?_ | refine bel3 ?_ | refine belowT ?_ (by assumption) | refine bel5 ?_ (by simp; try omega))); rintro e w' ⟨rfl, q, rfl⟩)
    go_ret
    exact ⟨ret_bool (by simp [HST.out]), by (repeat first | exact bel0 | assumption | refine bel1 ?_ | refine bel2 ?_ | refine bel3 ?_ | refine belowT ?_ (by assumption) | refine bel5 ?_ (by simp; try omega))⟩
  · have hb : (s == t) = false := by simp [hst]
    have HST := hide hst
    clear hst
    go_enter Try.func40, Try.ntmps40
    go_wp2
    go_ret
    exact ⟨ret_bool (by simp [HST.out]), by (repeat first | exact bel0 | assumption | refine bel1 ?_ | refine bel2 ?_ | refine bel3 ?_ | refine belowT ?_ (by assumption) | refine bel5 ?_ (by simp; try omega))⟩

theorem Same_c (s t : Int) (a b : Option Addr) (n c m d : Nat) (l k : List Int) (w : World) (h1 : Ints w a n c l) (h2 : Ints w b m d k) :
    Calls Try.prog 22 #[.agg #[.int .i64 s, .slice a n c], .agg #[.int .i64 t, .slice b m d]] w fun e w' => e = .returned (.bool (decide (s = t ∧ l = k))) ∧ Below w.heap.size w w' := by
  by_cases hst : s = t
  · have hb : (s == t) = true := by simp [hst]
    have HST := hide hst
    clear hst
    go_enter Try.func22, Try.ntmps22
    go_wp2_with (go_at_call 20; refine (Equal_c a b n m c d l k _ ?h1 ?h2).mono ?hm; (case h1 => refine h1.below (B := w.heap.size) ?_ (Nat.le_refl _); (repeat first | exact bel0 | assumption | refine bel1 ?_ | refine bel2 ?_ | refine bel3 ?_ | refine belowT ?_ (by assumption) | refine bel5 ?_ (by simp; try omega))); (case h2 => refine h2.below (B := w.heap.size) ?_ (Nat.le_refl _); (repeat first | exact bel0 | assumption | refine bel1 ?_ | refine bel2 ?_ | refine bel3 ?_ | refine belowT ?_ (by assumption) | refine bel5 ?_ (by simp; try omega))); rintro e w' ⟨rfl, q, rfl⟩)
    go_ret
    exact ⟨ret_bool (by simp [HST.out]), by (repeat first | exact bel0 | assumption | refine bel1 ?_ | refine bel2 ?_ | refine bel3 ?_ | refine belowT ?_ (by assumption) | refine bel5 ?_ (by simp; try omega))⟩
  · have hb : (s == t) = false := by simp [hst]
    have HST := hide hst
    clear hst
    go_enter Try.func22, Try.ntmps22
    go_wp2
    go_ret
    exact ⟨ret_bool (by simp [HST.out]), by (repeat first | exact bel0 | assumption | refine bel1 ?_ | refine bel2 ?_ | refine bel3 ?_ | refine belowT ?_ (by assumption) | refine bel5 ?_ (by simp; try omega))⟩

set_option maxHeartbeats 1000000 in
theorem CheckZone_c (s : Int) (a : Option Addr) (n c : Nat) (l : List Int) (w : World) (h : Ints w a n c l) :
    Calls Try.prog 37 #[.agg #[.int .i64 s, .slice a n c]] w fun e w' => e = .returned (.int .i64 (checkZ s l)) ∧ Below w.heap.size w w' := by
  have hlen := hide h.len
  have hmax := h.max
  have hle := h.le
  go_enter Try.func37, Try.ntmps37
  go_wp2_with (first | (go_at_call 29; refine (in_c _ _ _ _).mono ?_; rintro e w' ⟨rfl, rfl⟩) | (go_at_call 49; refine (all_c a n c l _ _ _ ?hi).mono ?hm; (case hi => refine h.below (B := w.heap.size) ?_ (Nat.le_refl _); (repeat first | exact bel0 | assumption | refine bel1 ?_ | refine bel2 ?_ | refine bel3 ?_ | refine belowT ?_ (by assumption) | refine bel5 ?_ (by simp; try omega))); rintro e w' ⟨rfl, rfl⟩))
  all_goals
    have hl := checkZ_ref (s := s) hlen.out
    go_ret
    refine ⟨ret_int ?_, by (repeat first | exact bel0 | assumption | refine bel1 ?_ | refine bel2 ?_ | refine bel3 ?_ | refine belowT ?_ (by assumption) | refine bel5 ?_ (by simp; try omega))⟩
    go_light
    rw [hl]
    clear hl hlen h
    generalize (l.all fun x => inB x 0 999) = A at *
    generalize inB s 0 4 = B at *
    simp only [bne_iff_ne, beq_iff_eq, Bool.not_eq_true', Bool.not_eq_false', beq_eq_false_iff_ne, bne_eq_false_iff_eq] at *
    (repeat' split) <;> first | rfl | (exfalso; simp_all; done) | (exfalso; simp_all; omega) | (exfalso; omega)

end Go.Proofs.Ytaambknbbhjdnaa
