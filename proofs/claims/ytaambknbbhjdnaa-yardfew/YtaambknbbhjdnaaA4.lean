/- The contracts of zone.Write, zone.Read and what they call; no condition but that the zone reads as its state and list. -/
import Derived.Test.YtaambknbbhjdnaaA3
import Derived.Laws.CopyOwn
import Derived.Deep.OwnRows
import Derived.KernelRfl
namespace Go.Proofs.Ytaambknbbhjdnaa
open Go.RowKit
set_option linter.unusedVariables false
set_option maxRecDepth 100000
set_option linter.unusedSimpArgs false

/-- What is wrong with writing k behind l in a zone of state s: plain. -/
def writeE (s : Int) (l k : List Int) : Int :=
  if checkZ s l ≠ 0 then checkZ s l else if outB 1 8 k.length then 2 else if k.any (outB 0 999) then 3 else if s = 4 ∨ 8 < l.length + k.length then 7 else 0

theorem checkZ_len {s : Int} {l : List Int} (h : checkZ s l = 0) : 0 ≤ s ∧ s ≤ 4 ∧ l.length ≤ 8 ∧ l.any (outB 0 999) = false ∧ fitsB s l.length = true := by
  unfold checkZ at h
  by_cases h1 : outB 0 4 s = true
  · simp [h1] at h
  · have h5 : 0 ≤ s ∧ s ≤ 4 := by simp [outB] at h1; omega
    by_cases h2 : 8 < l.length
    · simp [h1, h2] at h
    · by_cases h3 : l.any (outB 0 999) = true
      · simp only [h1, h2, h3] at h; simp at h
      · by_cases h4 : fitsB s l.length = true
        · exact ⟨h5.1, h5.2, by omega, by simpa using h3, h4⟩
        · simp only [h1, h2, h3, h4] at h; simp at h

theorem writeE_eq {s : Int} {l k : List Int} {n m : Nat} {x : Int} (hx : checkZ s l = x) (g1 : l.length = n) (g2 : k.length = m) :
    writeE s l k = if (x != 0) = true then x else if outB 1 8 m = true then 2 else if k.any (outB 0 999) = true then 3 else if s = 4 ∨ 8 < wrap64 ((n : Int) + m) then 7 else 0 := by
  unfold writeE
  rw [g1, g2]
  by_cases h0 : x = 0
  · have hz := checkZ_len (hx.trans h0)
    by_cases h1 : outB 1 8 m = true
    · simp [hx, h0, h1]
    · have hm : m ≤ 8 := by simp [outB] at h1; omega
      rw [IntWalk.wrap64_in ((n : Int) + m) (by omega)]
      have e : (8 < n + m) = ((8 : Int) < (n : Int) + (m : Int)) := by apply propext; omega
      simp only [hx, h0, h1, e]
      simp
  · simp [hx, h0]

set_option maxHeartbeats 1000000 in
theorem checkWrite_c (s : Int) (a : Option Addr) (n c : Nat) (l : List Int) (b : Option Addr) (m d : Nat) (k : List Int) (w : World) (h1 : Ints w a n c l) (h2 : Ints w b m d k) :
    Calls Try.prog 47 #[.agg #[.int .i64 s, .slice a n c], .slice b m d] w fun e w' => e = .returned (.int .i64 (writeE s l k)) ∧ Below w.heap.size w w' := by
  have hl1 := hide h1.len
  have hl2 := hide h2.len
  have hm1 := h1.max
  have hm2 := h2.max
  have hc1 := h1.le
  have hc2 := h2.le
  go_enter Try.func47, Try.ntmps47
  go_wp2_with fail
  refine (Check_c s a n c l _ ?hi).mono ?hm
  case hi => refine h1.below (B := w.heap.size) ?_ (Nat.le_refl _); (repeat first | exact bel0 | assumption | refine bel1 ?_ | refine bel2 ?_ | refine bel3 ?_ | refine belowT ?_ (by assumption) | refine bel5 ?_ (by simp; try omega))
  rintro e w1 ⟨rfl, hb1⟩
  have c0 : w1.cell? ⟨w.heap.size, 0, none⟩ = some (.int .i64 s) := by rw [hb1.cell (by simp)]; go_simp
  have c1 : w1.cell? ⟨w.heap.size, 1, none⟩ = some (.slice a n c) := by rw [hb1.cell (by simp)]; go_simp
  have z1 : w.heap.size < w1.heap.size := by have := hb1.size; simp at this; omega
  have c04 := past4 c0
  have c14 := past4 c1
  generalize hchk : checkZ s l = x
  have HCHK := hide hchk
  clear hchk
  go_wp2_with (first | (go_at_call 51; refine (outside_c _ _ _).mono ?_; rintro e w' ⟨rfl, rfl⟩) | (go_at_call 60; refine (outside1_c _ 1 8 _ _ _ ?hg1 ?hh1).mono ?hm1; (case hg1 => (first | (go_simp; done) | (simp [*, World.cell?_alloc_at, World.cell?_alloc_past, World.cell?_alloc_some, World.cell?_setCell_far]; done))); (case hh1 => (first | (go_simp; done) | (simp [*, World.cell?_alloc_at, World.cell?_alloc_past, World.cell?_alloc_some, World.cell?_setCell_far]; done))); rintro e w' ⟨rfl, rfl⟩) | (go_at_call 52; refine (ContainsFunc_c b m d k 0 999 _ _ _ ?hi2 ?hg2 ?hh2).mono ?hm2; (case hi2 => refine h2.below (B := w.heap.size) ?_ (Nat.le_refl _); (repeat first | exact bel0 | assumption | refine bel1 ?_ | refine bel2 ?_ | refine bel3 ?_ | refine belowT ?_ (by assumption) | refine bel5 ?_ (by simp; try omega))); (case hg2 => (first | (go_simp; done) | (simp [*, World.cell?_alloc_at, World.cell?_alloc_past, World.cell?_alloc_some, World.cell?_setCell_far]; done))); (case hh2 => (first | (go_simp; done) | (simp [*, World.cell?_alloc_at, World.cell?_alloc_past, World.cell?_alloc_some, World.cell?_setCell_far]; done))); rintro e w' ⟨rfl, rfl⟩))
  all_goals
    have hw := writeE_eq HCHK.out hl1.out hl2.out
    go_ret
    refine ⟨ret_int ?_, by (repeat first | exact bel0 | assumption | refine bel1 ?_ | refine bel2 ?_ | refine bel3 ?_ | refine belowT ?_ (by assumption) | refine bel5 ?_ (by simp; try omega))⟩
    go_light
    rw [hw]
    clear hw hl1 hl2 h1 h2 HCHK
    generalize k.any (outB 0 999) = A at *
    generalize outB 1 8 (m : Int) = B at *
    (repeat' split) <;> first | rfl | (exfalso; simp_all; done) | (exfalso; simp_all; omega) | (exfalso; omega)

theorem infoInt : (Try.prog.info? 3).map (fun i => (i.zero, i.size, i.bytes)) = some (some (.int .i64 0), 1, 8) := by kernel_rfl
theorem sizeInt : (Try.prog.info? 3).map (·.size) = some 1 := by kernel_rfl

set_option maxHeartbeats 1000000 in
theorem join_none (a : Option Addr) (n c : Nat) (l : List Int) (b : Option Addr) (d : Nat) (w : World) (h1 : Ints w a n c l) (hnm : n ≤ 1000000) :
    Calls Try.prog 42 #[.slice a n c, .slice b 0 d] w fun e w' => (e = .returned (.slice (some ⟨w.heap.size, 0, none⟩) n n) ∧ Ints w' (some ⟨w.heap.size, 0, none⟩) n n l) ∧ Below w.heap.size w w' := by
  have hmk := run_make_row' (P := Try.prog) 23 3 (.int .i64 0) 8 Try.underlying23 infoInt rfl .i64 .i64 n (by omega) (by omega)
  go_enter Try.func42, Try.ntmps42
  go_wp2_with fail
  obtain ⟨w2, r2, g2, b2⟩ := copy_run (P := Try.prog) (w.alloc (.cells (madeCells #[.int .i64 0] n) 3)) 23 23 3 3 Try.underlying23 sizeInt (some ⟨w.heap.size, 0, none⟩) a n n n c w.heap.size 0
    (madeCells #[.int .i64 0] n).toList 3 (heap_new _ _) (cellsOf l) (by rw [cellsOf_len, h1.len]; exact (Nat.min_self n).symm) (fun hp => ⟨rfl, (h1.below (B := w.heap.size) (by (repeat first | exact bel0 | assumption | refine bel1 ?_ | refine bel2 ?_ | refine bel3 ?_ | refine belowT ?_ (by assumption) | refine bel5 ?_ (by simp; try omega))) (Nat.le_refl _)).src (by rw [cellsOf_len, h1.len] at hp; exact hp)⟩) (by simp [size_madeCells, cellsOf_len, h1.len]) (cellsOf_one l)
  rw [r2]
  have G2 := hide g2
  clear g2 r2
  go_wp2_with fail
  rw [run_copy_none (P := Try.prog) _ 23 23 3 3 _ _ _ _ _ _ Try.underlying23 sizeInt (by first | rfl | simp)]
  go_wp2
  go_ret
  have g2 := G2.out
  rw [splice_one _ _ (by simp [size_madeCells, cellsOf_len, h1.len])] at g2
  exact ⟨⟨rfl, Ints.of_row g2 (by rw [h1.len]; omega) h1.wf h1.len⟩, (belowA (Below.refl _ _) _).trans b2⟩

set_option maxHeartbeats 1000000 in
theorem join_some (a : Option Addr) (n c : Nat) (l : List Int) (b : Option Addr) (m d : Nat) (k : List Int) (w : World) (h1 : Ints w a n c l) (h2 : Ints w b m d k) (hnm : n + m ≤ 1000000) (hm : 0 < m) :
    Calls Try.prog 42 #[.slice a n c, .slice b m d] w fun e w' => (e = .returned (.slice (some ⟨w.heap.size, 0, none⟩) (n + m) (n + m)) ∧ Ints w' (some ⟨w.heap.size, 0, none⟩) (n + m) (n + m) (l ++ k)) ∧ Below w.heap.size w w' := by
  have hmk := run_make_row' (P := Try.prog) 23 3 (.int .i64 0) 8 Try.underlying23 infoInt rfl .i64 .i64 (n + m) (by omega) (by omega)
  rw [Int.natCast_add] at hmk
  go_enter Try.func42, Try.ntmps42
  go_wp2_with fail
  obtain ⟨w2, r2, g2, b2⟩ := copy_run (P := Try.prog) (w.alloc (.cells (madeCells #[.int .i64 0] (n + m)) 3)) 23 23 3 3 Try.underlying23 sizeInt (some ⟨w.heap.size, 0, none⟩) a (n + m) (n + m) n c w.heap.size 0
    (madeCells #[.int .i64 0] (n + m)).toList 3 (heap_new _ _) (cellsOf l) (by rw [cellsOf_len, h1.len]; exact (Nat.min_eq_left (by omega)).symm) (fun hp => ⟨rfl, (h1.below (B := w.heap.size) (by (repeat first | exact bel0 | assumption | refine bel1 ?_ | refine bel2 ?_ | refine bel3 ?_ | refine belowT ?_ (by assumption) | refine bel5 ?_ (by simp; try omega))) (Nat.le_refl _)).src (by rw [cellsOf_len, h1.len] at hp; exact hp)⟩) (by simp [size_madeCells, cellsOf_len, h1.len]) (cellsOf_one l)
  have bw2 : Below w.heap.size w w2 := (belowA (Below.refl _ _) _).trans b2
  obtain ⟨w3, r3, g3, b3⟩ := copy_run (P := Try.prog) w2 23 23 3 3 Try.underlying23 sizeInt (some ⟨w.heap.size, n, none⟩) b m m m d w.heap.size n
    _ 3 g2 (cellsOf k) (by rw [cellsOf_len, h2.len]; exact (Nat.min_self m).symm) (fun hp => ⟨rfl, (h2.below (B := w.heap.size) bw2 (Nat.le_refl _)).src hm⟩) (by rw [length_splice _ _ _ (by simp [size_madeCells, cellsOf_len, h1.len])]; simp [size_madeCells, cellsOf_len, h2.len]) (cellsOf_one k)
  rw [r2]
  have G3 := hide g3
  have R3 := hide r3
  clear g2 r2 g3 r3
  have hm0 : ¬ m = 0 := by omega
  go_wp2_with fail
  rw [R3.out]
  go_wp2
  go_ret
  have g3 := G3.out
  have hs := splice_two (madeCells #[.int .i64 0] (n + m)).toList (cellsOf l) (cellsOf k) (by simp [size_madeCells, cellsOf_len, h1.len, h2.len])
  rw [cellsOf_len, h1.len] at hs
  rw [hs, cellsOf_app] at g3
  exact ⟨⟨rfl, Ints.of_row g3 (by rw [List.length_append, h1.len, h2.len]; omega) (h1.app_wf h2) (by rw [List.length_append, h1.len, h2.len])⟩, bw2.trans b3⟩

theorem join_c (a : Option Addr) (n c : Nat) (l : List Int) (b : Option Addr) (m d : Nat) (k : List Int) (w : World) (h1 : Ints w a n c l) (h2 : Ints w b m d k) (hnm : n + m ≤ 1000000) :
    Calls Try.prog 42 #[.slice a n c, .slice b m d] w fun e w' => (e = .returned (.slice (some ⟨w.heap.size, 0, none⟩) (n + m) (n + m)) ∧ Ints w' (some ⟨w.heap.size, 0, none⟩) (n + m) (n + m) (l ++ k)) ∧ Below w.heap.size w w' := by
  rcases Nat.eq_zero_or_pos m with hm | hm
  · subst hm
    have hk := h2.len
    rw [List.length_eq_zero_iff] at hk
    subst hk
    rw [List.append_nil, Nat.add_zero]
    exact join_none a n c l b d w h1 (by omega)
  · exact join_some a n c l b m d k w h1 h2 hnm hm

end Go.Proofs.Ytaambknbbhjdnaa
