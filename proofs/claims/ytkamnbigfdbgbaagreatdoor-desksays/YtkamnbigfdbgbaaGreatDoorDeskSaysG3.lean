/- The contracts of zone.Write, zone.Read and what they call; no condition but that the zone reads as its state and list. -/
import Derived.Test.YtkamnbigfdbgbaaGreatDoorDeskSaysG2
import Derived.Laws.CopyOwn
import Derived.Deep.OwnRows
import Derived.KernelRfl
import Derived.Lib.AppendZeros
import Derived.Deep.DeepCutAuto
namespace Go.Proofs.YtkamnbigfdbgbaaGreatDoor
open Go.RowKit
set_option linter.unusedVariables false
set_option maxRecDepth 100000
set_option linter.unusedSimpArgs false

/-- What is wrong with writing k behind l in a zone of state s: plain. -/
def writeE (s : Int) (l k : List Int) : Int :=
  if checkZ s l ≠ 0 then checkZ s l else if outB 1 8 k.length then 2 else if k.any (outB 0 999) then 3 else if s = 4 ∨ 8 < l.length + k.length then 7 else 0

theorem checkZ_len {s : Int} {l : List Int} (h : checkZ s l = 0) : 0 ≤ s ∧ s ≤ 4 ∧ l.length ≤ 8 ∧ l.any (outB 0 999) = false ∧ fitsB s l.length = true := by
  unfold checkZ at h
  by_cases h1 : outB 0 4 s = true
  · simp [h1] at h
  · have h5 : 0 ≤ s ∧ s ≤ 4 := by simp [outB] at h1; omega
    by_cases h2 : 8 < l.length
    · simp [h1, h2] at h
    · by_cases h3 : l.any (outB 0 999) = true
      · simp only [h1, h2, h3] at h; simp at h
      · by_cases h4 : fitsB s l.length = true
        · exact ⟨h5.1, h5.2, by omega, by simpa using h3, h4⟩
        · simp only [h1, h2, h3, h4] at h; simp at h

theorem writeE_eq {s : Int} {l k : List Int} {n m : Nat} {x : Int} (hx : checkZ s l = x) (g1 : l.length = n) (g2 : k.length = m) :
    writeE s l k = if (x != 0) = true then x else if outB 1 8 m = true then 2 else if k.any (outB 0 999) = true then 3 else if s = 4 ∨ 8 < wrap64 ((n : Int) + m) then 7 else 0 := by
  unfold writeE
  rw [g1, g2]
  by_cases h0 : x = 0
  · have hz := checkZ_len (hx.trans h0)
    by_cases h1 : outB 1 8 m = true
    · simp [hx, h0, h1]
    · have hm : m ≤ 8 := by simp [outB] at h1; omega
      rw [IntWalk.wrap64_in ((n : Int) + m) (by omega)]
      have e : (8 < n + m) = ((8 : Int) < (n : Int) + (m : Int)) := by apply propext; omega
      simp only [hx, h0, h1, e]
      simp
  · simp [hx, h0]

set_option maxHeartbeats 1000000 in
theorem checkWrite_c (s : Int) (a : Option Addr) (n c : Nat) (l : List Int) (b : Option Addr) (m d : Nat) (k : List Int) (w : World) (h1 : Ints w a n c l) (h2 : Ints w b m d k) :
    Calls Tryz.prog 113 #[.agg #[.int .i64 s, .slice a n c], .slice b m d] w fun e w' => e = .returned (.int .i64 (writeE s l k)) ∧ Below w.heap.size w w' := by
  have hl1 := hide h1.len
  have hl2 := hide h2.len
  have hm1 := h1.max
  have hm2 := h2.max
  have hc1 := h1.le
  have hc2 := h2.le
  go_enter Tryz.func113, Tryz.ntmps113
  go_wp2_with fail
  refine (Check_c s a n c l _ ?hi).mono ?hm
  case hi => refine h1.below (B := w.heap.size) ?_ (Nat.le_refl _); (repeat first | exact bel0 | assumption | refine bel1 ?_ | refine bel2 ?_ | refine bel3 ?_ | refine belowT ?_ (by assumption) | refine bel5 ?_ (by simp; try omega))
  rintro e w1 ⟨rfl, hb1⟩
  have c0 : w1.cell? ⟨w.heap.size, 0, none⟩ = some (.int .i64 s) := by rw [hb1.cell (by simp)]; go_simp
  have c1 : w1.cell? ⟨w.heap.size, 1, none⟩ = some (.slice a n c) := by rw [hb1.cell (by simp)]; go_simp
  have z1 : w.heap.size < w1.heap.size := by have := hb1.size; simp at this; omega
  have c04 := past4 c0
  have c14 := past4 c1
  generalize hchk : checkZ s l = x
  have HCHK := hide hchk
  clear hchk
  go_wp2_with (first | (go_at_call 80; refine (outside_c _ _ _).mono ?_; rintro e w' ⟨rfl, rfl⟩) | (go_at_call 102; refine (outside1_c _ 1 8 _ _ _ ?hg1 ?hh1).mono ?hm1; (case hg1 => (first | (go_simp; done) | (simp [*, World.cell?_alloc_at, World.cell?_alloc_past, World.cell?_alloc_some, World.cell?_setCell_far]; done))); (case hh1 => (first | (go_simp; done) | (simp [*, World.cell?_alloc_at, World.cell?_alloc_past, World.cell?_alloc_some, World.cell?_setCell_far]; done))); rintro e w' ⟨rfl, rfl⟩) | (go_at_call 69; refine (ContainsFunc_c b m d k 0 999 _ _ _ ?hi2 ?hg2 ?hh2).mono ?hm2; (case hi2 => refine h2.below (B := w.heap.size) ?_ (Nat.le_refl _); (repeat first | exact bel0 | assumption | refine bel1 ?_ | refine bel2 ?_ | refine bel3 ?_ | refine belowT ?_ (by assumption) | refine bel5 ?_ (by simp; try omega))); (case hg2 => (first | (go_simp; done) | (simp [*, World.cell?_alloc_at, World.cell?_alloc_past, World.cell?_alloc_some, World.cell?_setCell_far]; done))); (case hh2 => (first | (go_simp; done) | (simp [*, World.cell?_alloc_at, World.cell?_alloc_past, World.cell?_alloc_some, World.cell?_setCell_far]; done))); rintro e w' ⟨rfl, rfl⟩))
  all_goals
    have hw := writeE_eq HCHK.out hl1.out hl2.out
    go_ret
    refine ⟨ret_int ?_, by (repeat first | exact bel0 | assumption | refine bel1 ?_ | refine bel2 ?_ | refine bel3 ?_ | refine belowT ?_ (by assumption) | refine bel5 ?_ (by simp; try omega))⟩
    go_light
    rw [hw]
    clear hw hl1 hl2 h1 h2 HCHK
    generalize k.any (outB 0 999) = A at *
    generalize outB 1 8 (m : Int) = B at *
    (repeat' split) <;> first | rfl | (exfalso; simp_all; done) | (exfalso; simp_all; omega) | (exfalso; omega)

theorem infoInt : (Tryz.prog.info? 3).map (fun i => (i.zero, i.size, i.bytes)) = some (some (.int .i64 0), 1, 8) := by kernel_rfl
theorem sizeInt : (Tryz.prog.info? 3).map (·.size) = some 1 := by kernel_rfl

set_option maxHeartbeats 1000000 in
theorem join_none (a : Option Addr) (n c : Nat) (l : List Int) (b : Option Addr) (d : Nat) (w : World) (h1 : Ints w a n c l) (hnm : n ≤ 1000000) :
    Calls Tryz.prog 94 #[.slice a n c, .slice b 0 d] w fun e w' => (e = .returned (.slice (some ⟨w.heap.size, 0, none⟩) n n) ∧ Ints w' (some ⟨w.heap.size, 0, none⟩) n n l) ∧ Below w.heap.size w w' := by
  have hmk := run_make_row' (P := Tryz.prog) 23 3 (.int .i64 0) 8 Tryz.underlying23 infoInt rfl .i64 .i64 n (by omega) (by omega)
  go_enter Tryz.func94, Tryz.ntmps94
  go_wp2_with fail
  obtain ⟨w2, r2, g2, b2⟩ := copy_run (P := Tryz.prog) (w.alloc (.cells (madeCells #[.int .i64 0] n) 3)) 23 23 3 3 Tryz.underlying23 sizeInt (some ⟨w.heap.size, 0, none⟩) a n n n c w.heap.size 0
    (madeCells #[.int .i64 0] n).toList 3 (heap_new _ _) (cellsOf l) (by rw [cellsOf_len, h1.len]; exact (Nat.min_self n).symm) (fun hp => ⟨rfl, (h1.below (B := w.heap.size) (by (repeat first | exact bel0 | assumption | refine bel1 ?_ | refine bel2 ?_ | refine bel3 ?_ | refine belowT ?_ (by assumption) | refine bel5 ?_ (by simp; try omega))) (Nat.le_refl _)).src (by rw [cellsOf_len, h1.len] at hp; exact hp)⟩) (by simp [size_madeCells, cellsOf_len, h1.len]) (cellsOf_one l)
  rw [r2]
  have G2 := hide g2
  clear g2 r2
  go_wp2_with fail
  rw [run_copy_none (P := Tryz.prog) _ 23 23 3 3 _ _ _ _ _ _ Tryz.underlying23 sizeInt (by first | rfl | simp)]
  go_wp2
  go_ret
  have g2 := G2.out
  rw [splice_one _ _ (by simp [size_madeCells, cellsOf_len, h1.len])] at g2
  exact ⟨⟨rfl, Ints.of_row g2 (by rw [h1.len]; omega) h1.wf h1.len⟩, (belowA (Below.refl _ _) _).trans b2⟩

set_option maxHeartbeats 1000000 in
theorem join_some (a : Option Addr) (n c : Nat) (l : List Int) (b : Option Addr) (m d : Nat) (k : List Int) (w : World) (h1 : Ints w a n c l) (h2 : Ints w b m d k) (hnm : n + m ≤ 1000000) (hm : 0 < m) :
    Calls Tryz.prog 94 #[.slice a n c, .slice b m d] w fun e w' => (e = .returned (.slice (some ⟨w.heap.size, 0, none⟩) (n + m) (n + m)) ∧ Ints w' (some ⟨w.heap.size, 0, none⟩) (n + m) (n + m) (l ++ k)) ∧ Below w.heap.size w w' := by
  have hmk := run_make_row' (P := Tryz.prog) 23 3 (.int .i64 0) 8 Tryz.underlying23 infoInt rfl .i64 .i64 (n + m) (by omega) (by omega)
  rw [Int.natCast_add] at hmk
  go_enter Tryz.func94, Tryz.ntmps94
  go_wp2_with fail
  obtain ⟨w2, r2, g2, b2⟩ := copy_run (P := Tryz.prog) (w.alloc (.cells (madeCells #[.int .i64 0] (n + m)) 3)) 23 23 3 3 Tryz.underlying23 sizeInt (some ⟨w.heap.size, 0, none⟩) a (n + m) (n + m) n c w.heap.size 0
    (madeCells #[.int .i64 0] (n + m)).toList 3 (heap_new _ _) (cellsOf l) (by rw [cellsOf_len, h1.len]; exact (Nat.min_eq_left (by omega)).symm) (fun hp => ⟨rfl, (h1.below (B := w.heap.size) (by (repeat first | exact bel0 | assumption | refine bel1 ?_ | refine bel2 ?_ | refine bel3 ?_ | refine belowT ?_ (by assumption) | refine bel5 ?_ (by simp; try omega))) (Nat.le_refl _)).src (by rw [cellsOf_len, h1.len] at hp; exact hp)⟩) (by simp [size_madeCells, cellsOf_len, h1.len]) (cellsOf_one l)
  have bw2 : Below w.heap.size w w2 := (belowA (Below.refl _ _) _).trans b2
  obtain ⟨w3, r3, g3, b3⟩ := copy_run (P := Tryz.prog) w2 23 23 3 3 Tryz.underlying23 sizeInt (some ⟨w.heap.size, n, none⟩) b m m m d w.heap.size n
    _ 3 g2 (cellsOf k) (by rw [cellsOf_len, h2.len]; exact (Nat.min_self m).symm) (fun hp => ⟨rfl, (h2.below (B := w.heap.size) bw2 (Nat.le_refl _)).src hm⟩) (by rw [length_splice _ _ _ (by simp [size_madeCells, cellsOf_len, h1.len])]; simp [size_madeCells, cellsOf_len, h2.len]) (cellsOf_one k)
  rw [r2]
  have G3 := hide g3
  have R3 := hide r3
  clear g2 r2 g3 r3
  have hm0 : ¬ m = 0 := by omega
  go_wp2_with fail
  rw [R3.out]
  go_wp2
  go_ret
  have g3 := G3.out
  have hs := splice_two (madeCells #[.int .i64 0] (n + m)).toList (cellsOf l) (cellsOf k) (by simp [size_madeCells, cellsOf_len, h1.len, h2.len])
  rw [cellsOf_len, h1.len] at hs
  rw [hs, cellsOf_app] at g3
  exact ⟨⟨rfl, Ints.of_row g3 (by rw [List.length_append, h1.len, h2.len]; omega) (h1.app_wf h2) (by rw [List.length_append, h1.len, h2.len])⟩, bw2.trans b3⟩

theorem join_c (a : Option Addr) (n c : Nat) (l : List Int) (b : Option Addr) (m d : Nat) (k : List Int) (w : World) (h1 : Ints w a n c l) (h2 : Ints w b m d k) (hnm : n + m ≤ 1000000) :
    Calls Tryz.prog 94 #[.slice a n c, .slice b m d] w fun e w' => (e = .returned (.slice (some ⟨w.heap.size, 0, none⟩) (n + m) (n + m)) ∧ Ints w' (some ⟨w.heap.size, 0, none⟩) (n + m) (n + m) (l ++ k)) ∧ Below w.heap.size w w' := by
  rcases Nat.eq_zero_or_pos m with hm | hm
  · subst hm
    have hk := h2.len
    rw [List.length_eq_zero_iff] at hk
    subst hk
    rw [List.append_nil, Nat.add_zero]
    exact join_none a n c l b d w h1 (by omega)
  · exact join_some a n c l b m d k w h1 h2 hnm hm

end Go.Proofs.YtkamnbigfdbgbaaGreatDoor

/- The contracts of slices.Grow on nil, and of slices.Concat of two lists; under conditions on their lengths alone. -/
namespace Go.Proofs.YtkamnbigfdbgbaaGreatDoor
open Go.RowKit
set_option linter.unusedVariables false
set_option maxRecDepth 100000
set_option linter.unusedSimpArgs false

/-- What is known of the type int. -/
theorem intInfo : ∃ i, Tryz.prog.info? 3 = some i ∧ i.zero = some (.int .i64 0) ∧ i.size = 1 ∧ i.bytes = 8 := by
  obtain ⟨i, hi, h⟩ := Option.map_eq_some_iff.1 infoInt
  simp only [Prod.mk.injEq] at h
  exact ⟨i, hi, h.1, h.2.1, h.2.2⟩

/-- An owned list of ints. -/
def OwnI (w : World) (base : Nat) (v : Value) (l : List Int) : Prop := w.ownsRow base 3 1 v l.length (cellsOf l)

theorem OwnI.ints {w : World} {base : Nat} {v : Value} {l : List Int} (h : OwnI w base v l) (hwf : ∀ x ∈ l, -9223372036854775808 ≤ x ∧ x ≤ 9223372036854775807) :
    ∃ a c, v = .slice a l.length c ∧ Ints w a l.length c l ∧ ∀ x, a = some x → base ≤ x.block := by
  obtain ⟨hlen, h⟩ := h
  rcases h with ⟨rfl, h0⟩ | ⟨g, cap, cur, rfl, hb, hg, hn, hm, hs, hc⟩
  · rw [List.length_eq_zero_iff] at h0
    subst h0
    exact ⟨none, 0, rfl, Ints.nilSlice w, fun x h => by cases h⟩
  · refine ⟨_, cap, rfl, ?_, fun x h => by cases h; exact hb⟩
    refine ⟨rfl, hn, by simp [maxLen] at hm; omega, fun e => (by cases e), .inr ⟨g, 0, rfl, (Array.getElem?_eq_some_iff.1 hg).1, fun i hi => ?_⟩, hwf⟩
    rw [cell_of_row w g _ _ _ _ hg, Nat.zero_add]
    have := congrArg (fun L => L[i]?) hc
    simp only [Nat.mul_one, List.getElem?_take, hi, if_true] at this
    rw [cellsOf_get l i hi] at this
    simpa using this

theorem OwnI.base {w : World} {base q n cap : Nat} {l : List Int} (h : OwnI w base (.slice (some ⟨q, 0, none⟩) n cap) l) : base ≤ q := by
  obtain ⟨_, h⟩ := h
  rcases h with ⟨e, _⟩ | ⟨g, cap, cur, e, hb, _⟩
  · cases e
  · cases e; exact hb

theorem nil_own (w : World) (base : Nat) : OwnI w base (.slice none 0 0) [] := ⟨rfl, .inl ⟨rfl, rfl⟩⟩

set_option maxHeartbeats 1000000 in
theorem Grow_c (n : Nat) (w : World) (hn : 0 < n) (hn2 : n ≤ 1000000) :
    Calls Tryz.prog 109 #[.slice none 0 0, .int .i64 n] w fun e w' => (∃ q cap, e = .returned (.slice (some ⟨q, 0, none⟩) 0 cap) ∧ n ≤ cap ∧ OwnI w' w.heap.size (.slice (some ⟨q, 0, none⟩) 0 cap) []) ∧ Below w.heap.size w w' := by
  obtain ⟨i, hi, hz, hs, hb⟩ := intInfo
  have hn' : (0 : Int) < (n : Int) := by omega
  go_enter Tryz.func109, Tryz.ntmps109
  go_wp2_with (at_builtin; go_loud (refine Lib.wpList_append_run _ rfl _ _ _ _ rfl _ _ rfl rfl _ _ (Lib.run_append_nil_zeros _ 23 3 _ 3 i (.int .i64 0) .i64 .i64 Tryz.underlying23 Tryz.underlying3 hi hz n hn (by omega) (by omega) (by rw [hb]; omega)) ?_))
  go_ret
  have hge := grownCap_ge w n 0 3
  have hle := grownCap_le_maxLen w n 0 3 (by simp [maxLen]; omega)
  generalize grownCap w n 0 3 = cap at *
  exact ⟨⟨_, cap, rfl, hge, ⟨rfl, .inr ⟨w.heap.size, cap, _, rfl, Nat.le_refl _, heap_new w _, Nat.zero_le _, hle, by simp [size_zeroCells]; omega, by simp [cellsOf]⟩⟩⟩, by (repeat first | exact bel0 | assumption | refine bel1 ?_ | refine bel2 ?_ | refine bel3 ?_ | refine belowT ?_ (by assumption) | refine bel5 ?_ (by simp; try omega))⟩

set_option maxHeartbeats 2000000 in
theorem Concat_c (g : Nat) (a : Option Addr) (n c : Nat) (l : List Int) (b : Option Addr) (m d : Nat) (k : List Int) (w : World) (h1 : Ints w a n c l) (h2 : Ints w b m d k) (h0 : 0 < n + m) (hnm : n + m ≤ 1000000)
    (hg0 : w.cell? ⟨g, 0, none⟩ = some (.slice a n c)) (hg1 : w.cell? ⟨g, 1, none⟩ = some (.slice b m d)) :
    Calls Tryz.prog 85 #[.slice (some ⟨g, 0, none⟩) 2 2] w fun e w' => (∃ v, e = .returned v ∧ OwnI w' w.heap.size v (l ++ k)) ∧ Below w.heap.size w w' := by
  obtain ⟨i, hi, hz, hs, hb⟩ := intInfo
  go_enter Tryz.func85, Tryz.ntmps85
  go_wp2
  refine wp_loop_rounds 3 ?_
  rw [rounds_succ]
  go_wp2
  rw [rounds_succ]
  go_wp2
  rw [rounds_succ]
  go_wp2_with fail
  rw [show (n : Int) + (m : Int) = ((n + m : Nat) : Int) by omega]
  refine (Grow_c (n + m) _ h0 hnm).mono ?_
  rintro e w1 ⟨⟨q, cap, rfl, hcap, ho⟩, hb1⟩
  have hq := ho.base
  have hq' : ∀ k, some q = some k → w.heap.size ≤ k := by intro k e; cases e; exact hq
  have hc0 := keepc hb1 hg0
  have i1 := h1.below hb1 (Nat.le_refl _)
  go_wp2_with fail
  refine wp_loop_rounds 3 ?_
  rw [rounds_succ]
  go_wp2_with (at_builtin; refine wpList_append_fits_any _ rfl _ _ 23 rfl w.heap.size 3 i 1 Tryz.underlying23 hi hs q 0 cap [] rfl ho a n c (cellsOf l) rfl ?ha1 ?ha2 ?ha3 (cellsOf_one l) ?ha4 ?ha5)
  case ha1 => rw [cellsOf_len, h1.len, Nat.mul_one]
  case ha2 => exact h1.nils
  case ha3 => exact i1.srcs
  case ha4 => omega
  case ha5 =>
    intro w2 ho2 hg2
    have b2 : Below w.heap.size w w2 := hb1.grown hg2 hb1.size hq'
    have hd1 := keepc b2 hg1
    have i2 := h2.below b2 (Nat.le_refl _)
    go_wp2
    rw [rounds_succ]
    go_wp2_with (at_builtin; refine wpList_append_fits_any _ rfl _ _ 23 rfl w.heap.size 3 i 1 Tryz.underlying23 hi hs q n cap (cellsOf l) rfl ho2 b m d (cellsOf k) rfl ?hb1 ?hb2 ?hb3 (cellsOf_one k) ?hb4 ?hb5)
    case hb1 => rw [cellsOf_len, h2.len, Nat.mul_one]
    case hb2 => exact h2.nils
    case hb3 => exact i2.srcs
    case hb4 => omega
    case hb5 =>
      intro w3 ho3 hg3
      have b3 : Below w.heap.size w w3 := b2.grown hg3 b2.size hq'
      go_wp2
      rw [rounds_succ]
      go_wp2
      go_ret
      refine ⟨⟨_, rfl, ?_⟩, b3⟩
      unfold OwnI
      rw [← cellsOf_app, List.length_append, h1.len, h2.len]
      exact ho3

end Go.Proofs.YtkamnbigfdbgbaaGreatDoor

/- The contract of zone.wake; no condition but that the pointer leads to a zone. -/
namespace Go.Proofs.YtkamnbigfdbgbaaGreatDoor
open Go.RowKit
set_option linter.unusedVariables false
set_option maxRecDepth 100000
set_option linter.unusedSimpArgs false

/-- The state of a zone of state s behind a write that makes it n blocks long. -/
def writeS (s : Int) (n : Nat) : Int := if n = 8 then 4 else if s = 2 then 2 else 1

theorem writeS_1 {s : Int} {n : Nat} (h : ((n : Int) == 8) = true) : writeS s n = 4 := by simp at h; simp [writeS]; omega
theorem writeS_2 {s : Int} {n : Nat} (h : ((n : Int) == 8) = false) (hs : (s != 2) = true) : writeS s n = 1 := by simp at h hs; simp [writeS, hs]; omega
theorem writeS_3 {s : Int} {n : Nat} (h : ((n : Int) == 8) = false) (hs : (s != 2) = false) : writeS s n = s := by simp at h hs; simp [writeS, hs]; omega

theorem wake_c (g : Nat) (s : Int) (a : Option Addr) (n c : Nat) (w : World) (h0 : w.cell? ⟨g, 0, none⟩ = some (.int .i64 s)) (h1 : w.cell? ⟨g, 1, none⟩ = some (.slice a n c)) (f0 : w.frozen? ⟨g, 0, none⟩ = false) (hn : n ≤ 9223372036854775807) :
    Calls Tryz.prog 114 #[.pointer (some ⟨g, 0, none⟩)] w fun e w' => (∃ v, e = .returned v) ∧ Put w w' ⟨g, 0, none⟩ (.int .i64 (writeS s n)) := by
  have hp := Put.refl h0
  go_enter Tryz.func114, Tryz.ntmps114
  go_wp2
  · go_end0
    exact ⟨⟨_, rfl⟩, by rw [writeS_1 ‹_›]; exact (hp.set _).set _⟩
  · go_end0
    exact ⟨⟨_, rfl⟩, by rw [writeS_2 ‹_› ‹_›]; exact hp.set _⟩
  · go_end0
    exact ⟨⟨_, rfl⟩, by rw [writeS_1 ‹_›]; exact hp.set _⟩
  · go_end0
    exact ⟨⟨_, rfl⟩, by rw [writeS_3 ‹_› ‹_›]; exact hp⟩

end Go.Proofs.YtkamnbigfdbgbaaGreatDoor

/- The contracts of zone.Write and zone.Read; no condition but that the zone reads as its state and list. -/
namespace Go.Proofs.YtkamnbigfdbgbaaGreatDoor
open Go.RowKit
set_option linter.unusedVariables false
set_option maxRecDepth 100000
set_option linter.unusedSimpArgs false

set_option maxHeartbeats 1000000 in
theorem Write_bad (s : Int) (a : Option Addr) (n c : Nat) (l : List Int) (b : Option Addr) (m d : Nat) (k : List Int) (w : World) (h1 : Ints w a n c l) (h2 : Ints w b m d k) (hbad : writeE s l k ≠ 0) :
    Calls Tryz.prog 96 #[.agg #[.int .i64 s, .slice a n c], .slice b m d] w fun e w' => e = .returned (.tuple #[.agg #[.int .i64 0, .slice none 0 0], .int .i64 (writeE s l k)]) ∧ Below w.heap.size w w' := by
  go_enter Tryz.func96, Tryz.ntmps96
  go_wp2_with fail
  refine (checkWrite_c s a n c l b m d k _ ?hi ?hj).mono ?hm
  case hi => refine h1.below (B := w.heap.size) ?_ (Nat.le_refl _); (repeat first | exact bel0 | assumption | refine bel1 ?_ | refine bel2 ?_ | refine bel3 ?_ | refine belowT ?_ (by assumption) | refine bel5 ?_ (by simp; try omega))
  case hj => refine h2.below (B := w.heap.size) ?_ (Nat.le_refl _); (repeat first | exact bel0 | assumption | refine bel1 ?_ | refine bel2 ?_ | refine bel3 ?_ | refine belowT ?_ (by assumption) | refine bel5 ?_ (by simp; try omega))
  rintro e w1 ⟨rfl, hb1⟩
  generalize hx : writeE s l k = x at *
  have HX := hide hx
  clear hx
  have hx : (x != 0) = true := by simpa using hbad
  clear hbad
  obtain ⟨hcl, hfr⟩ := bcell hb1
  have z1 : w.heap.size + 1 < w1.heap.size := by have := hb1.size; simp at this; omega
  go_wp2
  refine bodyPost_ret (v := .tuple #[.agg #[.int .i64 0, .slice none 0 0], .int .i64 x]) (by simp [results, Tryz.results96, go_sem, hcl, hfr]) rfl ⟨by rw [HX.out], ?_⟩
  (repeat first | exact bel0 | assumption | refine bel1 ?_ | refine bel2 ?_ | refine bel3 ?_ | refine belowT ?_ (by assumption) | refine bel5 ?_ (by simp; try omega))

theorem writeE_ok {s : Int} {l k : List Int} (h : writeE s l k = 0) : checkZ s l = 0 ∧ 1 ≤ k.length ∧ l.length + k.length ≤ 8 ∧ k.any (outB 0 999) = false ∧ s ≠ 4 := by
  unfold writeE at h
  by_cases h1 : checkZ s l = 0
  · by_cases h2 : outB 1 8 k.length = true
    · simp [h1, h2] at h
    · by_cases h3 : k.any (outB 0 999) = true
      · simp only [h1, h2, h3] at h; simp at h
      · by_cases h4 : s = 4 ∨ 8 < l.length + k.length
        · simp only [h1, h2, h3, h4] at h; simp at h
        · have h5 : 1 ≤ k.length := by simp [outB] at h2; omega
          exact ⟨h1, h5, by omega, by simpa using h3, by omega⟩
  · simp [h1] at h

set_option maxHeartbeats 1000000 in
theorem Write_ok (s : Int) (a : Option Addr) (n c : Nat) (l : List Int) (b : Option Addr) (m d : Nat) (k : List Int) (w : World) (h1 : Ints w a n c l) (h2 : Ints w b m d k) (hok : writeE s l k = 0) :
    Calls Tryz.prog 96 #[.agg #[.int .i64 s, .slice a n c], .slice b m d] w fun e w' => (∃ q, e = .returned (.tuple #[.agg #[.int .i64 (writeS s (n + m)), .slice (some ⟨q, 0, none⟩) (n + m) (n + m)], .int .i64 0]) ∧ Ints w' (some ⟨q, 0, none⟩) (n + m) (n + m) (l ++ k) ∧ w.heap.size ≤ q) ∧ Below w.heap.size w w' := by
  have hw := writeE_ok hok
  rw [h1.len, h2.len] at hw
  have hnm : n + m ≤ 8 := hw.2.2.1
  have hm1 : 1 ≤ m := hw.2.1
  clear hw
  have HOK := hide hok
  clear hok
  go_enter Tryz.func96, Tryz.ntmps96
  go_wp2_with fail
  refine (checkWrite_c s a n c l b m d k _ ?hi ?hj).mono ?hm
  case hi => refine h1.below (B := w.heap.size) ?_ (Nat.le_refl _); (repeat first | exact bel0 | assumption | refine bel1 ?_ | refine bel2 ?_ | refine bel3 ?_ | refine belowT ?_ (by assumption) | refine bel5 ?_ (by simp; try omega))
  case hj => refine h2.below (B := w.heap.size) ?_ (Nat.le_refl _); (repeat first | exact bel0 | assumption | refine bel1 ?_ | refine bel2 ?_ | refine bel3 ?_ | refine belowT ?_ (by assumption) | refine bel5 ?_ (by simp; try omega))
  rintro e w1 ⟨rfl, hb1⟩
  rw [HOK.out]
  have c0 : w1.cell? ⟨w.heap.size, 0, none⟩ = some (.int .i64 s) := by rw [hb1.cell (by (first | (simp; done) | (simp; omega)))]; go_simp
  have c1 : w1.cell? ⟨w.heap.size, 1, none⟩ = some (.slice a n c) := by rw [hb1.cell (by (first | (simp; done) | (simp; omega)))]; go_simp
  have r0 : w1.cell? ⟨w.heap.size + 1, 0, none⟩ = some (.int .i64 0) := by rw [hb1.cell (by (first | (simp; done) | (simp; omega)))]; go_simp
  have r1 : w1.cell? ⟨w.heap.size + 1, 1, none⟩ = some (.slice none 0 0) := by rw [hb1.cell (by (first | (simp; done) | (simp; omega)))]; go_simp
  have f0 : w1.frozen? ⟨w.heap.size + 1, 0, none⟩ = false := by rw [hb1.frozen (by (first | (simp; done) | (simp; omega)))]; go_simp
  have f1 : w1.frozen? ⟨w.heap.size + 1, 1, none⟩ = false := by rw [hb1.frozen (by (first | (simp; done) | (simp; omega)))]; go_simp
  have z1 : w.heap.size + 1 < w1.heap.size := by have := hb1.size; simp at this; omega
  have z0 : w.heap.size < w1.heap.size := by omega
  have z00 : w.heap.size < w1.heap.size + 1 := by omega
  have bw1 : Below w.heap.size w w1 := by (repeat first | exact bel0 | assumption | refine bel1 ?_ | refine bel2 ?_ | refine bel3 ?_ | refine belowT ?_ (by assumption) | refine bel5 ?_ (by simp; try omega))
  have i1 := h1.below bw1 (Nat.le_refl _)
  have i2 := h2.below bw1 (Nat.le_refl _)
  clear h1 h2 hb1
  go_upto_region 4 with fail
  go_cut [7] (fun v7 wx => ∃ g q, v7 = .pointer (some ⟨g, 0, none⟩) ∧ q ≠ g ∧ w.heap.size + 1 < q ∧ Ints wx (some ⟨q, 0, none⟩) (n + m) (n + m) (l ++ k) ∧ wx.cell? ⟨g, 0, none⟩ = some (.int .i64 s) ∧ wx.cell? ⟨g, 1, none⟩ = some (.slice (some ⟨q, 0, none⟩) (n + m) (n + m)) ∧ wx.frozen? ⟨g, 0, none⟩ = false ∧ w.heap.size + 1 < g ∧ Below w1.heap.size w1 wx)
  case first =>
    go_region_held3 (fun w' => w'.cell? ⟨w.heap.size, 0, none⟩ = some (.int .i64 s) ∧ w'.cell? ⟨w.heap.size, 1, none⟩ = some (.slice a n c)) ((first | (go_simp; done) | (simp [*, World.cell?_alloc_at, World.cell?_alloc_past, World.cell?_alloc_some, World.cell?_setCell_far]; done)))
      (first | (go_at_call 94; refine (join_c a n c l b m d k _ (by refine i1.below (B := w1.heap.size) ?_ (Nat.le_refl _); (repeat first | exact bel0 | assumption | refine bel1 ?_ | refine bel2 ?_ | refine bel3 ?_ | refine belowT ?_ (by assumption) | refine bel5 ?_ (by simp; try omega))) (by refine i2.below (B := w1.heap.size) ?_ (Nat.le_refl _); (repeat first | exact bel0 | assumption | refine bel1 ?_ | refine bel2 ?_ | refine bel3 ?_ | refine belowT ?_ (by assumption) | refine bel5 ?_ (by simp; try omega))) (by omega)).mono ?_; rintro e w2 ⟨⟨rfl, i3⟩, hb2⟩; (have e0 := hb2.cell (p := ⟨w.heap.size, 0, none⟩) (by (first | (simp; done) | (simp; omega)))); (have e1 := hb2.cell (p := ⟨w.heap.size, 1, none⟩) (by (first | (simp; done) | (simp; omega)))); (have e2 := hb2.cell (p := ⟨w1.heap.size, 0, none⟩)); (have e3 := hb2.cell (p := ⟨w1.heap.size, 1, none⟩)); (have e4 := hb2.frozen (p := ⟨w1.heap.size, 0, none⟩)); (have e5 := hb2.frozen (p := ⟨w1.heap.size, 1, none⟩))))
    · go_wp2_with fail
      go_meet
      case rel =>
        have hsz := hb2.size
        have hlt : w1.heap.size < w2.heap.size := by
          rcases i3.row with h | ⟨b', o', e', hl', _⟩
          · omega
          · simp at e'; omega
        exact ⟨_, _, rfl, by simp; omega, by simp; omega, i3.below (B := w2.heap.size) (by (repeat first | exact bel0 | assumption | refine bel1 ?_ | refine bel2 ?_ | refine bel3 ?_ | refine belowT ?_ (by assumption) | refine bel5 ?_ (by simp; try omega))) (Nat.le_refl _), by go_simp, by go_simp, by go_simp, by omega, by (repeat first | exact bel0 | assumption | refine bel1 ?_ | refine bel2 ?_ | refine bel3 ?_ | refine belowT ?_ (by assumption) | refine bel5 ?_ (by simp; try omega))⟩
    · go_wp2_with fail
      go_meet
      case rel =>
        have hsz := hb2.size
        simp at hsz
        exact ⟨_, _, rfl, by simp, by simp; omega, (i3.setCell _ _ (by intro x hx; cases hx; simp)).setCell _ _ (by intro x hx; cases hx; simp), by go_simp, by go_simp, by go_simp, by omega, by (repeat first | exact bel0 | assumption | refine bel1 ?_ | refine bel2 ?_ | refine bel3 ?_ | refine belowT ?_ (by assumption) | refine bel5 ?_ (by simp; try omega))⟩
  case rest =>
    obtain ⟨g, q, rfl, hqg, hq, i3, d0, d1, df, hg, hb2⟩ := hcut
    have r02 : wc.cell? ⟨w.heap.size + 1, 0, none⟩ = some (.int .i64 0) := by rw [hb2.cell (by (first | (simp; done) | (simp; omega)))]; exact r0
    have r12 : wc.cell? ⟨w.heap.size + 1, 1, none⟩ = some (.slice none 0 0) := by rw [hb2.cell (by (first | (simp; done) | (simp; omega)))]; exact r1
    have f02 : wc.frozen? ⟨w.heap.size + 1, 0, none⟩ = false := by rw [hb2.frozen (by (first | (simp; done) | (simp; omega)))]; exact f0
    have f12 : wc.frozen? ⟨w.heap.size + 1, 1, none⟩ = false := by rw [hb2.frozen (by (first | (simp; done) | (simp; omega)))]; exact f1
    have bwc : Below w.heap.size w wc := by (repeat first | exact bel0 | assumption | refine bel1 ?_ | refine bel2 ?_ | refine bel3 ?_ | refine belowT ?_ (by assumption) | refine bel5 ?_ (by simp; try omega))
    go_wp2_with fail
    refine (wake_c g s _ (n + m) (n + m) _ d0 d1 df (by omega)).mono ?_
    rintro e w3 ⟨⟨v, rfl⟩, hp⟩
    have p0 := hp.here
    have p1 : w3.cell? ⟨g, 1, none⟩ = some (.slice (some ⟨q, 0, none⟩) (n + m) (n + m)) := by rw [hp.other _ (by simp)]; exact d1
    have r03 : w3.cell? ⟨w.heap.size + 1, 0, none⟩ = some (.int .i64 0) := by rw [hp.other _ (by (first | (simp; done) | (simp; omega)))]; exact r02
    have r13 : w3.cell? ⟨w.heap.size + 1, 1, none⟩ = some (.slice none 0 0) := by rw [hp.other _ (by simp)]; exact r12
    have f03 : w3.frozen? ⟨w.heap.size + 1, 0, none⟩ = false := by rw [hp.ice]; exact f02
    have f13 : w3.frozen? ⟨w.heap.size + 1, 1, none⟩ = false := by rw [hp.ice]; exact f12
    have i4 := i3.put hp (by intro x hx; cases hx; exact hqg)
    have bw3 : Below w.heap.size w w3 := bwc.trans (hp.below.mono (by (first | (simp; done) | (simp; omega))))
    clear hp hb2 i1 i2 i3
    generalize hy : writeS s (n + m) = y at *
    have HY := hide hy
    clear hy
    go_wp2
    refine bodyPost_ret (v := .tuple #[.agg #[.int .i64 y, .slice (some ⟨q, 0, none⟩) (n + m) (n + m)], .int .i64 0]) (by simp [results, Tryz.results96, go_sem, r03, r13, f03, f13]) rfl ⟨⟨_, by rw [HY.out], ?_, by omega⟩, ?_⟩
    · exact (i4.setCell _ _ (by intro x hx; cases hx; simp; omega)).setCell _ _ (by intro x hx; cases hx; simp; omega)
    · (repeat first | exact bel0 | assumption | refine bel1 ?_ | refine bel2 ?_ | refine bel3 ?_ | refine belowT ?_ (by assumption) | refine bel5 ?_ (by simp; try omega))

end Go.Proofs.YtkamnbigfdbgbaaGreatDoor
