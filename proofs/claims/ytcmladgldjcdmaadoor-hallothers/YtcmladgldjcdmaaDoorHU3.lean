/- The contracts of zone.Write and zone.Read; no condition but that the zone reads as its state and list. -/
import Derived.Test.YtcmladgldjcdmaaDoorHU2
import Derived.Deep.DeepCutAuto
namespace Go.Proofs.YtcmladgldjcdmaaDoor
open Go.RowKit
set_option linter.unusedVariables false
set_option maxRecDepth 100000
set_option linter.unusedSimpArgs false

set_option maxHeartbeats 1000000 in
theorem Write_bad (s : Int) (a : Option Addr) (n c : Nat) (l : List Int) (b : Option Addr) (m d : Nat) (k : List Int) (w : World) (h1 : Ints w a n c l) (h2 : Ints w b m d k) (hbad : writeE s l k ≠ 0) :
    Calls Tryd.prog 88 #[.agg #[.int .i64 s, .slice a n c], .slice b m d] w fun e w' => e = .returned (.tuple #[.agg #[.int .i64 0, .slice none 0 0], .int .i64 (writeE s l k)]) ∧ Below w.heap.size w w' := by
  go_enter Tryd.func88, Tryd.ntmps88
  go_wp2_with fail
  refine (checkWrite_c s a n c l b m d k _ ?hi ?hj).mono ?hm
  case hi => refine h1.below (B := w.heap.size) ?_ (Nat.le_refl _); (repeat first | exact bel0 | assumption | refine bel1 ?_ | refine bel2 ?_ | refine bel3 ?_ | refine belowT ?_ (by assumption) | refine bel5 ?_ (by simp; try omega))
  case hj => refine h2.below (B := w.heap.size) ?_ (Nat.le_refl _); (repeat first | exact bel0 | assumption | refine bel1 ?_ | refine bel2 ?_ | refine bel3 ?_ | refine belowT ?_ (by assumption) | refine bel5 ?_ (by simp; try omega))
  rintro e w1 ⟨rfl, hb1⟩
  generalize hx : writeE s l k = x at *
  have HX := hide hx
  clear hx
  have hx : (x != 0) = true := by simpa using hbad
  clear hbad
  obtain ⟨hcl, hfr⟩ := bcell hb1
  have z1 : w.heap.size + 1 < w1.heap.size := by have := hb1.size; simp at this; omega
  go_wp2
  refine bodyPost_ret (v := .tuple #[.agg #[.int .i64 0, .slice none 0 0], .int .i64 x]) (by simp [results, Tryd.results88, go_sem, hcl, hfr]) rfl ⟨by rw [HX.out], ?_⟩
  (repeat first | exact bel0 | assumption | refine bel1 ?_ | refine bel2 ?_ | refine bel3 ?_ | refine belowT ?_ (by assumption) | refine bel5 ?_ (by simp; try omega))

theorem writeE_ok {s : Int} {l k : List Int} (h : writeE s l k = 0) : checkZ s l = 0 ∧ 1 ≤ k.length ∧ l.length + k.length ≤ 8 ∧ k.any (outB 0 999) = false ∧ s ≠ 4 := by
  unfold writeE at h
  by_cases h1 : checkZ s l = 0
  · by_cases h2 : outB 1 8 k.length = true
    · simp [h1, h2] at h
    · by_cases h3 : k.any (outB 0 999) = true
      · simp only [h1, h2, h3] at h; simp at h
      · by_cases h4 : s = 4 ∨ 8 < l.length + k.length
        · simp only [h1, h2, h3, h4] at h; simp at h
        · have h5 : 1 ≤ k.length := by simp [outB] at h2; omega
          exact ⟨h1, h5, by omega, by simpa using h3, by omega⟩
  · simp [h1] at h

set_option maxHeartbeats 1000000 in
theorem Write_ok (s : Int) (a : Option Addr) (n c : Nat) (l : List Int) (b : Option Addr) (m d : Nat) (k : List Int) (w : World) (h1 : Ints w a n c l) (h2 : Ints w b m d k) (hok : writeE s l k = 0) :
    Calls Tryd.prog 88 #[.agg #[.int .i64 s, .slice a n c], .slice b m d] w fun e w' => (∃ q, e = .returned (.tuple #[.agg #[.int .i64 (writeS s (n + m)), .slice (some ⟨q, 0, none⟩) (n + m) (n + m)], .int .i64 0]) ∧ Ints w' (some ⟨q, 0, none⟩) (n + m) (n + m) (l ++ k) ∧ w.heap.size ≤ q) ∧ Below w.heap.size w w' := by
  have hw := writeE_ok hok
  rw [h1.len, h2.len] at hw
  have hnm : n + m ≤ 8 := hw.2.2.1
  have hm1 : 1 ≤ m := hw.2.1
  clear hw
  have HOK := hide hok
  clear hok
  go_enter Tryd.func88, Tryd.ntmps88
  go_wp2_with fail
  refine (checkWrite_c s a n c l b m d k _ ?hi ?hj).mono ?hm
  case hi => refine h1.below (B := w.heap.size) ?_ (Nat.le_refl _); (repeat first | exact bel0 | assumption | refine bel1 ?_ | refine bel2 ?_ | refine bel3 ?_ | refine belowT ?_ (by assumption) | refine bel5 ?_ (by simp; try omega))
  case hj => refine h2.below (B := w.heap.size) ?_ (Nat.le_refl _); (repeat first | exact bel0 | assumption | refine bel1 ?_ | refine bel2 ?_ | refine bel3 ?_ | refine belowT ?_ (by assumption) | refine bel5 ?_ (by simp; try omega))
  rintro e w1 ⟨rfl, hb1⟩
  rw [HOK.out]
  have c0 : w1.cell? ⟨w.heap.size, 0, none⟩ = some (.int .i64 s) := by rw [hb1.cell (by (first | (simp; done) | (simp; omega)))]; go_simp
  have c1 : w1.cell? ⟨w.heap.size, 1, none⟩ = some (.slice a n c) := by rw [hb1.cell (by (first | (simp; done) | (simp; omega)))]; go_simp
  have r0 : w1.cell? ⟨w.heap.size + 1, 0, none⟩ = some (.int .i64 0) := by rw [hb1.cell (by (first | (simp; done) | (simp; omega)))]; go_simp
  have r1 : w1.cell? ⟨w.heap.size + 1, 1, none⟩ = some (.slice none 0 0) := by rw [hb1.cell (by (first | (simp; done) | (simp; omega)))]; go_simp
  have f0 : w1.frozen? ⟨w.heap.size + 1, 0, none⟩ = false := by rw [hb1.frozen (by (first | (simp; done) | (simp; omega)))]; go_simp
  have f1 : w1.frozen? ⟨w.heap.size + 1, 1, none⟩ = false := by rw [hb1.frozen (by (first | (simp; done) | (simp; omega)))]; go_simp
  have z1 : w.heap.size + 1 < w1.heap.size := by have := hb1.size; simp at this; omega
  have z0 : w.heap.size < w1.heap.size := by omega
  have z00 : w.heap.size < w1.heap.size + 1 := by omega
  have bw1 : Below w.heap.size w w1 := by (repeat first | exact bel0 | assumption | refine bel1 ?_ | refine bel2 ?_ | refine bel3 ?_ | refine belowT ?_ (by assumption) | refine bel5 ?_ (by simp; try omega))
  have i1 := h1.below bw1 (Nat.le_refl _)
  have i2 := h2.below bw1 (Nat.le_refl _)
  clear h1 h2 hb1
  go_upto_region 4 with fail
  go_cut [7] (fun v7 wx => ∃ g q, v7 = .pointer (some ⟨g, 0, none⟩) ∧ q ≠ g ∧ w.heap.size + 1 < q ∧ Ints wx (some ⟨q, 0, none⟩) (n + m) (n + m) (l ++ k) ∧ wx.cell? ⟨g, 0, none⟩ = some (.int .i64 s) ∧ wx.cell? ⟨g, 1, none⟩ = some (.slice (some ⟨q, 0, none⟩) (n + m) (n + m)) ∧ wx.frozen? ⟨g, 0, none⟩ = false ∧ w.heap.size + 1 < g ∧ Below w1.heap.size w1 wx)
  case first =>
    go_region_held3 (fun w' => w'.cell? ⟨w.heap.size, 0, none⟩ = some (.int .i64 s) ∧ w'.cell? ⟨w.heap.size, 1, none⟩ = some (.slice a n c)) ((first | (go_simp; done) | (simp [*, World.cell?_alloc_at, World.cell?_alloc_past, World.cell?_alloc_some, World.cell?_setCell_far]; done)))
      (first | (go_at_call 86; refine (join_c a n c l b m d k _ (by refine i1.below (B := w1.heap.size) ?_ (Nat.le_refl _); (repeat first | exact bel0 | assumption | refine bel1 ?_ | refine bel2 ?_ | refine bel3 ?_ | refine belowT ?_ (by assumption) | refine bel5 ?_ (by simp; try omega))) (by refine i2.below (B := w1.heap.size) ?_ (Nat.le_refl _); (repeat first | exact bel0 | assumption | refine bel1 ?_ | refine bel2 ?_ | refine bel3 ?_ | refine belowT ?_ (by assumption) | refine bel5 ?_ (by simp; try omega))) (by omega)).mono ?_; rintro e w2 ⟨⟨rfl, i3⟩, hb2⟩; (have e0 := hb2.cell (p := ⟨w.heap.size, 0, none⟩) (by (first | (simp; done) | (simp; omega)))); (have e1 := hb2.cell (p := ⟨w.heap.size, 1, none⟩) (by (first | (simp; done) | (simp; omega)))); (have e2 := hb2.cell (p := ⟨w1.heap.size, 0, none⟩)); (have e3 := hb2.cell (p := ⟨w1.heap.size, 1, none⟩)); (have e4 := hb2.frozen (p := ⟨w1.heap.size, 0, none⟩)); (have e5 := hb2.frozen (p := ⟨w1.heap.size, 1, none⟩))))
    · go_wp2_with fail
      go_meet
      case rel =>
        have hsz := hb2.size
        have hlt : w1.heap.size < w2.heap.size := by
          rcases i3.row with h | ⟨b', o', e', hl', _⟩
          · omega
          · simp at e'; omega
        exact ⟨_, _, rfl, by simp; omega, by simp; omega, i3.below (B := w2.heap.size) (by (repeat first | exact bel0 | assumption | refine bel1 ?_ | refine bel2 ?_ | refine bel3 ?_ | refine belowT ?_ (by assumption) | refine bel5 ?_ (by simp; try omega))) (Nat.le_refl _), by go_simp, by go_simp, by go_simp, by omega, by (repeat first | exact bel0 | assumption | refine bel1 ?_ | refine bel2 ?_ | refine bel3 ?_ | refine belowT ?_ (by assumption) | refine bel5 ?_ (by simp; try omega))⟩
    · go_wp2_with fail
      go_meet
      case rel =>
        have hsz := hb2.size
        simp at hsz
        exact ⟨_, _, rfl, by simp, by simp; omega, (i3.setCell _ _ (by intro x hx; cases hx; simp)).setCell _ _ (by intro x hx; cases hx; simp), by go_simp, by go_simp, by go_simp, by omega, by (repeat first | exact bel0 | assumption | refine bel1 ?_ | refine bel2 ?_ | refine bel3 ?_ | refine belowT ?_ (by assumption) | refine bel5 ?_ (by simp; try omega))⟩
  case rest =>
    obtain ⟨g, q, rfl, hqg, hq, i3, d0, d1, df, hg, hb2⟩ := hcut
    have r02 : wc.cell? ⟨w.heap.size + 1, 0, none⟩ = some (.int .i64 0) := by rw [hb2.cell (by (first | (simp; done) | (simp; omega)))]; exact r0
    have r12 : wc.cell? ⟨w.heap.size + 1, 1, none⟩ = some (.slice none 0 0) := by rw [hb2.cell (by (first | (simp; done) | (simp; omega)))]; exact r1
    have f02 : wc.frozen? ⟨w.heap.size + 1, 0, none⟩ = false := by rw [hb2.frozen (by (first | (simp; done) | (simp; omega)))]; exact f0
    have f12 : wc.frozen? ⟨w.heap.size + 1, 1, none⟩ = false := by rw [hb2.frozen (by (first | (simp; done) | (simp; omega)))]; exact f1
    have bwc : Below w.heap.size w wc := by (repeat first | exact bel0 | assumption | refine bel1 ?_ | refine bel2 ?_ | refine bel3 ?_ | refine belowT ?_ (by assumption) | refine bel5 ?_ (by simp; try omega))
    go_wp2_with fail
    refine (wake_c g s _ (n + m) (n + m) _ d0 d1 df (by omega)).mono ?_
    rintro e w3 ⟨⟨v, rfl⟩, hp⟩
    have p0 := hp.here
    have p1 : w3.cell? ⟨g, 1, none⟩ = some (.slice (some ⟨q, 0, none⟩) (n + m) (n + m)) := by rw [hp.other _ (by simp)]; exact d1
    have r03 : w3.cell? ⟨w.heap.size + 1, 0, none⟩ = some (.int .i64 0) := by rw [hp.other _ (by (first | (simp; done) | (simp; omega)))]; exact r02
    have r13 : w3.cell? ⟨w.heap.size + 1, 1, none⟩ = some (.slice none 0 0) := by rw [hp.other _ (by simp)]; exact r12
    have f03 : w3.frozen? ⟨w.heap.size + 1, 0, none⟩ = false := by rw [hp.ice]; exact f02
    have f13 : w3.frozen? ⟨w.heap.size + 1, 1, none⟩ = false := by rw [hp.ice]; exact f12
    have i4 := i3.put hp (by intro x hx; cases hx; exact hqg)
    have bw3 : Below w.heap.size w w3 := bwc.trans (hp.below.mono (by (first | (simp; done) | (simp; omega))))
    clear hp hb2 i1 i2 i3
    generalize hy : writeS s (n + m) = y at *
    have HY := hide hy
    clear hy
    go_wp2
    refine bodyPost_ret (v := .tuple #[.agg #[.int .i64 y, .slice (some ⟨q, 0, none⟩) (n + m) (n + m)], .int .i64 0]) (by simp [results, Tryd.results88, go_sem, r03, r13, f03, f13]) rfl ⟨⟨_, by rw [HY.out], ?_, by omega⟩, ?_⟩
    · exact (i4.setCell _ _ (by intro x hx; cases hx; simp; omega)).setCell _ _ (by intro x hx; cases hx; simp; omega)
    · (repeat first | exact bel0 | assumption | refine bel1 ?_ | refine bel2 ?_ | refine bel3 ?_ | refine belowT ?_ (by assumption) | refine bel5 ?_ (by simp; try omega))

end Go.Proofs.YtcmladgldjcdmaaDoor

/- The contracts of zone.Read and what it calls; no condition but that the zone reads as its state and list. -/
namespace Go.Proofs.YtcmladgldjcdmaaDoor
open Go.RowKit
set_option linter.unusedVariables false
set_option maxRecDepth 100000
set_option linter.unusedSimpArgs false

/-- What is wrong with reading n blocks from p on: plain. -/
def readE (s : Int) (l : List Int) (p n : Int) : Int :=
  if checkZ s l ≠ 0 then checkZ s l else if outB 0 8 p || outB 0 (8 - p) n then 3 else if (l.length : Int) < p + n then 6 else 0

set_option maxHeartbeats 1000000 in
theorem checkRead_c (s : Int) (a : Option Addr) (n c : Nat) (l : List Int) (p k : Int) (w : World) (h1 : Ints w a n c l) :
    Calls Tryd.prog 85 #[.agg #[.int .i64 s, .slice a n c], .int .i64 p, .int .i64 k] w fun e w' => e = .returned (.int .i64 (readE s l p k)) ∧ Below w.heap.size w w' := by
  have hl1 := hide h1.len
  have hm1 := h1.max
  have hc1 := h1.le
  go_enter Tryd.func85, Tryd.ntmps85
  go_wp2_with fail
  refine (Check_c s a n c l _ ?hi).mono ?hm
  case hi => refine h1.below (B := w.heap.size) ?_ (Nat.le_refl _); (repeat first | exact bel0 | assumption | refine bel1 ?_ | refine bel2 ?_ | refine bel3 ?_ | refine belowT ?_ (by assumption) | refine bel5 ?_ (by simp; try omega))
  rintro e w1 ⟨rfl, hb1⟩
  have c1 : w1.cell? ⟨w.heap.size, 1, none⟩ = some (.slice a n c) := by rw [hb1.cell (by (first | (simp; done) | (simp; omega)))]; go_simp
  have z1 : w.heap.size < w1.heap.size := by have := hb1.size; simp at this; omega
  have c14 := past4 c1
  have c12 := past2 c1
  generalize hchk : checkZ s l = x
  have HCHK := hide hchk
  clear hchk
  by_cases hx : (x != 0) = true
  · go_wp2
    go_ret
    exact ⟨ret_int (by have := HCHK.out; simp at hx; simp [readE, this, hx]), by (repeat first | exact bel0 | assumption | refine bel1 ?_ | refine bel2 ?_ | refine bel3 ?_ | refine belowT ?_ (by assumption) | refine bel5 ?_ (by simp; try omega))⟩
  · have hx0 : (x != 0) = false := by simpa using hx
    clear hx
    cases hq : outB 0 8 p
    · have hpp : 0 ≤ p ∧ p ≤ 8 := by simp [outB] at hq; omega
      obtain ⟨hp1, hp2⟩ := hpp
      go_wp2_with (first | (go_at_call 65; refine (outside_c _ _ _).mono ?_; rintro e w' ⟨rfl, rfl⟩) | (go_at_call_of 76 p; refine (outside1_c p 0 8 _ _ _ (by (first | (go_simp; done) | (simp [*, World.cell?_alloc_at, World.cell?_alloc_past, World.cell?_alloc_some, World.cell?_setCell_far]; done))) (by (first | (go_simp; done) | (simp [*, World.cell?_alloc_at, World.cell?_alloc_past, World.cell?_alloc_some, World.cell?_setCell_far]; done)))).mono ?_; rintro e w' ⟨rfl, rfl⟩))
      refine (outside1_c k 0 (8 - p) _ _ _ (by (first | (go_simp; done) | (simp [*, World.cell?_alloc_at, World.cell?_alloc_past, World.cell?_alloc_some, World.cell?_setCell_far]; done))) (by (first | (go_simp; done) | (simp [*, World.cell?_alloc_at, World.cell?_alloc_past, World.cell?_alloc_some, World.cell?_setCell_far]; done)))).mono ?_
      rintro e w' ⟨rfl, rfl⟩
      cases hr : outB 0 (8 - p) k
      · have hkk : 0 ≤ k ∧ k ≤ 8 - p := by simp [outB] at hr; omega
        obtain ⟨hk1, hk2⟩ := hkk
        go_wp2
        · go_ret
          exact ⟨ret_int (by have e1 := HCHK.out; have e2 := hl1.out; simp at hx0; simp [readE, e1, hx0, hq, hr]; omega), by (repeat first | exact bel0 | assumption | refine bel1 ?_ | refine bel2 ?_ | refine bel3 ?_ | refine belowT ?_ (by assumption) | refine bel5 ?_ (by simp; try omega))⟩
        · go_ret
          exact ⟨ret_int (by have e1 := HCHK.out; have e2 := hl1.out; simp at hx0; simp [readE, e1, hx0, hq, hr]; omega), by (repeat first | exact bel0 | assumption | refine bel1 ?_ | refine bel2 ?_ | refine bel3 ?_ | refine belowT ?_ (by assumption) | refine bel5 ?_ (by simp; try omega))⟩
      · go_wp2
        go_ret
        exact ⟨ret_int (by have e1 := HCHK.out; simp at hx0; simp [readE, e1, hx0, hq, hr]), by (repeat first | exact bel0 | assumption | refine bel1 ?_ | refine bel2 ?_ | refine bel3 ?_ | refine belowT ?_ (by assumption) | refine bel5 ?_ (by simp; try omega))⟩
    · go_wp2_with (first | (go_at_call 65; refine (outside_c _ _ _).mono ?_; rintro e w' ⟨rfl, rfl⟩) | (go_at_call 76; refine (outside1_c p 0 8 _ _ _ (by (first | (go_simp; done) | (simp [*, World.cell?_alloc_at, World.cell?_alloc_past, World.cell?_alloc_some, World.cell?_setCell_far]; done))) (by (first | (go_simp; done) | (simp [*, World.cell?_alloc_at, World.cell?_alloc_past, World.cell?_alloc_some, World.cell?_setCell_far]; done)))).mono ?_; rintro e w' ⟨rfl, rfl⟩))
      go_ret
      exact ⟨ret_int (by have := HCHK.out; simp at hx0; simp [readE, this, hx0, hq]), by (repeat first | exact bel0 | assumption | refine bel1 ?_ | refine bel2 ?_ | refine bel3 ?_ | refine belowT ?_ (by assumption) | refine bel5 ?_ (by simp; try omega))⟩

theorem readE_ok {s : Int} {l : List Int} {p n : Int} (h : readE s l p n = 0) : checkZ s l = 0 ∧ 0 ≤ p ∧ p ≤ 8 ∧ 0 ≤ n ∧ n ≤ 8 - p ∧ p + n ≤ l.length := by
  unfold readE at h
  by_cases h1 : checkZ s l = 0
  · cases h2 : outB 0 8 p
    · cases h3 : outB 0 (8 - p) n
      · by_cases h4 : (l.length : Int) < p + n
        · simp [h1, h2, h3, h4] at h
        · simp [outB] at h2 h3
          exact ⟨h1, by omega, by omega, by omega, by omega, by omega⟩
      · simp [h1, h2, h3] at h
    · simp [h1, h2] at h
  · simp [h1] at h

set_option maxHeartbeats 1000000 in
theorem Read_bad (s : Int) (a : Option Addr) (n c : Nat) (l : List Int) (p k : Int) (w : World) (h1 : Ints w a n c l) (hbad : readE s l p k ≠ 0) :
    Calls Tryd.prog 73 #[.agg #[.int .i64 s, .slice a n c], .int .i64 p, .int .i64 k] w fun e w' => e = .returned (.tuple #[.slice none 0 0, .int .i64 (readE s l p k)]) ∧ Below w.heap.size w w' := by
  go_enter Tryd.func73, Tryd.ntmps73
  go_wp2_with fail
  refine (checkRead_c s a n c l p k _ ?hi).mono ?hm
  case hi => refine h1.below (B := w.heap.size) ?_ (Nat.le_refl _); (repeat first | exact bel0 | assumption | refine bel1 ?_ | refine bel2 ?_ | refine bel3 ?_ | refine belowT ?_ (by assumption) | refine bel5 ?_ (by simp; try omega))
  rintro e w1 ⟨rfl, hb1⟩
  generalize hx : readE s l p k = x at *
  have HX := hide hx
  clear hx
  have hx : (x != 0) = true := by simpa using hbad
  clear hbad
  go_wp2
  go_ret2
  exact ⟨ret_vi HX.out.symm, by (repeat first | exact bel0 | assumption | refine bel1 ?_ | refine bel2 ?_ | refine bel3 ?_ | refine belowT ?_ (by assumption) | refine bel5 ?_ (by simp; try omega))⟩

/-- A piece of a slice of ints. -/
theorem Ints.cut {w : World} {a : Option Addr} {n c : Nat} {l : List Int} (h : Ints w a n c l) (i j : Nat) (hij : i + j ≤ n) (a' : Option Addr) (ha : c ≠ i → a' = a.map (·.add i)) : Ints w a' j (c - i) ((l.drop i).take j) := by
  have hl := h.len
  have hle := h.le
  refine ⟨by simp; omega, by omega, by have := h.max; omega, fun e => ?_, ?_, fun x hx => h.wf x (List.mem_of_mem_drop (List.mem_of_mem_take hx))⟩
  · by_cases hci : c = i
    · omega
    · have := ha hci
      rw [e] at this
      cases a with
      | none => have := h.nil rfl; omega
      | some x => simp at this
  · by_cases hj : j = 0
    · exact .inl hj
    · rcases h.row with h0 | ⟨b, off, ea, hlt, hc⟩
      · omega
      · refine .inr ⟨b, off + i, ?_, hlt, fun q hq => ?_⟩
        · rw [ha (by omega), ea]; simp [addr_add]
        · rw [Nat.add_assoc, hc (i + q) (by omega)]
          simp [List.getD, List.getElem?_take, hq]

set_option maxHeartbeats 1000000 in
theorem Read_ok (s : Int) (a : Option Addr) (n c : Nat) (l : List Int) (p k : Int) (w : World) (h1 : Ints w a n c l) (hok : readE s l p k = 0) :
    Calls Tryd.prog 73 #[.agg #[.int .i64 s, .slice a n c], .int .i64 p, .int .i64 k] w fun e w' => (∃ q, e = .returned (.tuple #[.slice (some ⟨q, 0, none⟩) k.toNat k.toNat, .int .i64 0]) ∧ Ints w' (some ⟨q, 0, none⟩) k.toNat k.toNat ((l.drop p.toNat).take k.toNat) ∧ w.heap.size ≤ q) ∧ Below w.heap.size w w' := by
  obtain ⟨_, hp1, hp2, hk1, hk2, hpk⟩ := readE_ok hok
  rw [h1.len] at hpk
  have HOK := hide hok
  have hle := h1.le
  clear hok
  obtain ⟨i, rfl⟩ := Int.eq_ofNat_of_zero_le hp1
  obtain ⟨j, rfl⟩ := Int.eq_ofNat_of_zero_le hk1
  rw [Int.toNat_natCast, Int.toNat_natCast]
  go_enter Tryd.func73, Tryd.ntmps73
  go_wp2_with fail
  refine (checkRead_c s a n c l i j _ ?hi).mono ?hm
  case hi => refine h1.below (B := w.heap.size) ?_ (Nat.le_refl _); (repeat first | exact bel0 | assumption | refine bel1 ?_ | refine bel2 ?_ | refine bel3 ?_ | refine belowT ?_ (by assumption) | refine bel5 ?_ (by simp; try omega))
  rintro e w1 ⟨rfl, hb1⟩
  rw [HOK.out]
  have c1 : w1.cell? ⟨w.heap.size, 1, none⟩ = some (.slice a n c) := by rw [hb1.cell (by (first | (simp; done) | (simp; omega)))]; go_simp
  have bw1 : Below w.heap.size w w1 := by (repeat first | exact bel0 | assumption | refine bel1 ?_ | refine bel2 ?_ | refine bel3 ?_ | refine belowT ?_ (by assumption) | refine bel5 ?_ (by simp; try omega))
  have i1 := h1.below bw1 (Nat.le_refl _)
  clear h1 hb1
  go_wp2_with fail
  · have i2 := i1.cut i j (by omega) a (fun h => absurd ‹c = i› h)
    rw [show c - i = 0 by have := ‹c = i›; omega] at i2
    refine (join_none a j 0 _ none 0 _ i2 (by omega)).mono ?_
    rintro e w2 ⟨⟨rfl, i3⟩, hb2⟩
    go_wp2
    go_ret2
    exact ⟨⟨_, rfl, i3, bw1.size⟩, by (repeat first | exact bel0 | assumption | refine bel1 ?_ | refine bel2 ?_ | refine bel3 ?_ | refine belowT ?_ (by assumption) | refine bel5 ?_ (by simp; try omega))⟩
  · have i2 := i1.cut i j (by omega) (Option.map (fun x => x.add i) a) (fun _ => rfl)
    refine (join_none _ j (c - i) _ none 0 _ i2 (by omega)).mono ?_
    rintro e w2 ⟨⟨rfl, i3⟩, hb2⟩
    go_wp2
    go_ret2
    exact ⟨⟨_, rfl, i3, bw1.size⟩, by (repeat first | exact bel0 | assumption | refine bel1 ?_ | refine bel2 ?_ | refine bel3 ?_ | refine belowT ?_ (by assumption) | refine bel5 ?_ (by simp; try omega))⟩

end Go.Proofs.YtcmladgldjcdmaaDoor

/- The contracts of the document's own answers WriteZone and ReadZone; no condition but that the zone reads as its state and list. -/
namespace Go.Proofs.YtcmladgldjcdmaaDoor
open Go.RowKit
set_option linter.unusedVariables false
set_option maxRecDepth 100000
set_option linter.unusedSimpArgs false

end Go.Proofs.YtcmladgldjcdmaaDoor

/- The contracts of the document's own answers on zones; no condition but that the slice reads as the zones. -/
namespace Go.Proofs.YtcmladgldjcdmaaDoor
open Go.RowKit
set_option linter.unusedVariables false
set_option maxRecDepth 100000
set_option linter.unusedSimpArgs false

theorem vint {a b : Int} (h : a = b) : Value.int .i64 a = Value.int .i64 b := by rw [h]

end Go.Proofs.YtcmladgldjcdmaaDoor

/- Zones in memory of the call's own: they are read, and one of them is set; no condition but what the predicate says. -/
namespace Go.Proofs.YtcmladgldjcdmaaDoor
open Go.RowKit
set_option linter.unusedVariables false
set_option maxRecDepth 100000
set_option linter.unusedSimpArgs false

/-- The zone's blocks don't lie in block g. -/
def ZV.off (g : Nat) (z : ZV) : Prop := z.n = 0 ∨ ∀ x, z.a = some x → x.block ≠ g

/-- Zones in block g, which is the call's own. -/
structure Mine (w : World) (base g n c : Nat) (Z : List ZV) : Prop where
  zs : Zones w (some ⟨g, 0, none⟩) n c Z
  base : base ≤ g
  lt : g < w.heap.size
  cells : ∀ i z, Z[i]? = some z → w.cell? ⟨g, i * 2, none⟩ = some (.int .i64 z.s) ∧ w.cell? ⟨g, i * 2 + 1, none⟩ = some (.slice z.a z.n z.c)
  soft : ∀ j, j < n * 2 → w.frozen? ⟨g, j, none⟩ = false
  off : ∀ z ∈ Z, z.off g

theorem Ints.setCell' {w : World} {a : Option Addr} {n c : Nat} {l : List Int} (h : Ints w a n c l) (p : Addr) (v : Value) (hne : n = 0 ∨ ∀ x, a = some x → x.block ≠ p.block) : Ints (w.setCell p v) a n c l := by
  rcases hne with h0 | hne
  · exact ⟨h.len, h.le, h.max, h.nil, .inl h0, h.wf⟩
  · exact h.setCell p v hne

theorem Mine.below {w w' : World} {base g n c : Nat} {Z : List ZV} (h : Mine w base g n c Z) (hb : Below w.heap.size w w') : Mine w' base g n c Z := by
  refine ⟨h.zs.below hb (Nat.le_refl _), h.base, Nat.lt_of_lt_of_le h.lt hb.size, fun i z hz => ?_, fun j hj => ?_, h.off⟩
  · rw [hb.cell (p := ⟨g, i * 2, none⟩) h.lt, hb.cell (p := ⟨g, i * 2 + 1, none⟩) h.lt]
    exact h.cells i z hz
  · rw [hb.frozen (p := ⟨g, j, none⟩) h.lt]
    exact h.soft j hj

theorem Mine.set {w : World} {base g n c : Nat} {Z : List ZV} (h : Mine w base g n c Z) (i : Nat) (hi : i < n) (z : ZV) (hz : z.ok w) (ho : z.off g) :
    Mine ((w.setCell ⟨g, i * 2, none⟩ (.int .i64 z.s)).setCell ⟨g, i * 2 + 1, none⟩ (.slice z.a z.n z.c)) base g n c (Z.set i z) := by
  have hlen := h.zs.len
  obtain ⟨y, hy⟩ : ∃ y, Z[i]? = some y := ⟨Z[i]'(by omega), by simp⟩
  obtain ⟨y0, y1⟩ := h.cells i y hy
  have hc : ∀ j u, (Z.set i z)[j]? = some u → ((w.setCell ⟨g, i * 2, none⟩ (.int .i64 z.s)).setCell ⟨g, i * 2 + 1, none⟩ (.slice z.a z.n z.c)).cell? ⟨g, j * 2, none⟩ = some (.int .i64 u.s) ∧ ((w.setCell ⟨g, i * 2, none⟩ (.int .i64 z.s)).setCell ⟨g, i * 2 + 1, none⟩ (.slice z.a z.n z.c)).cell? ⟨g, j * 2 + 1, none⟩ = some (.slice u.a u.n u.c) := by
    intro j u hu
    by_cases hij : i = j
    · subst hij
      rw [List.getElem?_set_self (by omega)] at hu
      cases hu
      refine ⟨?_, ?_⟩
      · rw [World.cell?_setCell_other _ _ _ _ (by simp)]
        exact World.cell?_setCell_same _ _ _ y0
      · exact World.cell?_setCell_same _ _ _ (by rw [World.cell?_setCell_other _ _ _ _ (by simp)]; exact y1)
    · rw [List.getElem?_set_ne hij] at hu
      obtain ⟨u0, u1⟩ := h.cells j u hu
      refine ⟨?_, ?_⟩
      · rw [World.cell?_setCell_other _ _ _ _ (by (first | (simp; done) | (simp; omega))), World.cell?_setCell_other _ _ _ _ (by (first | (simp; done) | (simp; omega)))]
        exact u0
      · rw [World.cell?_setCell_other _ _ _ _ (by (first | (simp; done) | (simp; omega))), World.cell?_setCell_other _ _ _ _ (by (first | (simp; done) | (simp; omega)))]
        exact u1
  have hoff : ∀ u ∈ Z.set i z, u.off g := fun u hu => by
    rcases List.mem_or_eq_of_mem_set hu with hu | rfl
    · exact h.off u hu
    · exact ho
  have hok : ∀ u ∈ Z.set i z, u.ok ((w.setCell ⟨g, i * 2, none⟩ (.int .i64 z.s)).setCell ⟨g, i * 2 + 1, none⟩ (.slice z.a z.n z.c)) := fun u hu => by
    have hw : u.ok w := by
      rcases List.mem_or_eq_of_mem_set hu with hu | rfl
      · exact h.zs.ok u hu
      · exact hz
    exact (Ints.setCell' hw ⟨g, i * 2, none⟩ _ (hoff u hu)).setCell' ⟨g, i * 2 + 1, none⟩ _ (hoff u hu)
  refine ⟨⟨by simp [hlen], h.zs.le, h.zs.max, fun e => (by cases e), .inr ⟨g, 0, rfl, by simpa [World.setCell] using h.lt, fun j u hu => by simpa using hc j u hu⟩, hok⟩, h.base, by simpa [World.setCell] using h.lt, hc, fun j hj => ?_, hoff⟩
  rw [World.frozen?_setCell, World.frozen?_setCell]
  exact h.soft j hj

theorem Mine.mono {w : World} {base base' g n c : Nat} {Z : List ZV} (h : Mine w base g n c Z) (hb : base' ≤ base) : Mine w base' g n c Z := ⟨h.zs, Nat.le_trans hb h.base, h.lt, h.cells, h.soft, h.off⟩

/-- The cells of zones. -/
def zcells : List ZV → List Value
  | [] => []
  | z :: r => .int .i64 z.s :: .slice z.a z.n z.c :: zcells r
theorem zcells_get (Z : List ZV) : ∀ i z, Z[i]? = some z → (zcells Z)[i * 2]? = some (.int .i64 z.s) ∧ (zcells Z)[i * 2 + 1]? = some (.slice z.a z.n z.c) := by
  induction Z with
  | nil => intro i z h; simp at h
  | cons y r ih =>
    intro i z h
    cases i with
    | zero => simp at h; subst h; simp [zcells]
    | succ i =>
      simp at h
      have := ih i z h
      simp [zcells, show (i + 1) * 2 = i * 2 + 1 + 1 by omega]
      exact this
theorem frozen_row {w : World} {g j : Nat} {cs : Array Value} {t : TypeId} (h : w.heap[g]? = some (.cells cs t (0, 0))) : w.frozen? ⟨g, j, none⟩ = false := by
  simp [World.frozen?, h]

end Go.Proofs.YtcmladgldjcdmaaDoor

/- The contracts of slices.Clone at zones and of the document's own shut; no condition but that the slice reads as the zones. -/
namespace Go.Proofs.YtcmladgldjcdmaaDoor
open Go.RowKit
set_option linter.unusedVariables false
set_option maxRecDepth 100000
set_option linter.unusedSimpArgs false

/-- A zone that is shut, plain. -/
def shutP (z : Int × List Int) : Int × List Int := if z.2 = [] then (0, []) else (3, z.2)
/-- .. and as a value. -/
def ZV.shut (z : ZV) : ZV := if z.l = [] then ⟨0, none, 0, 0, []⟩ else ⟨3, z.a, z.n, z.c, z.l⟩
theorem ZV.shut_p (z : ZV) : z.shut.p = shutP z.p := by unfold ZV.shut shutP ZV.p; split <;> rfl
end Go.Proofs.YtcmladgldjcdmaaDoor

/- The contract of the document's own roomFor; no condition but that the slice reads as four zones, and that the number is one of theirs. -/
namespace Go.Proofs.YtcmladgldjcdmaaDoor
open Go.RowKit
set_option linter.unusedVariables false
set_option maxRecDepth 100000
set_option linter.unusedSimpArgs false

/-- The first zone that is Open. -/
def fopen (Z : List ZV) : Option Nat := Z.findIdx? fun z => z.s == 1
/-- The zones when there is room for one of state s; none: there is none. -/
def roomZ (Z : List ZV) (s : Int) : Option (List ZV) :=
  if isO s then some Z
  else if s = 4 ∨ s = 0 ∧ 3 ≤ cnt isA Z then none
  else if cnt isO Z < 2 then some Z
  else match fopen Z with
    | none => none
    | some i => some (Z.modify i ZV.shut)

theorem modify_set {Z : List ZV} {i : Nat} {z : ZV} (h : Z[i]? = some z) : Z.modify i ZV.shut = Z.set i z.shut := by
  obtain ⟨hi, rfl⟩ := List.getElem?_eq_some_iff.1 h
  apply List.ext_getElem?
  intro j
  by_cases e : i = j
  · subst e; simp [List.getElem?_modify, hi]
  · simp [List.getElem?_modify, List.getElem?_set, e]

theorem roomZ_1 {Z : List ZV} {s : Int} (h : s = 1 ∨ s = 2) : roomZ Z s = some Z := by
  have : isO s = true := by rcases h with rfl | rfl <;> rfl
  simp [roomZ, this]
theorem roomZ_2 {Z : List ZV} {s : Int} (h : ¬ (s = 1 ∨ s = 2)) (h2 : s = 4 ∨ s = 0 ∧ 3 ≤ cnt isA Z) : roomZ Z s = none := by
  have : isO s = false := by simp [isO]; omega
  simp [roomZ, this, h2]
theorem roomZ_3 {Z : List ZV} {s : Int} (h : ¬ (s = 1 ∨ s = 2)) (h2 : ¬ (s = 4 ∨ s = 0 ∧ 3 ≤ cnt isA Z)) (h3 : cnt isO Z < 2) : roomZ Z s = some Z := by
  have : isO s = false := by simp [isO]; omega
  simp [roomZ, this, h2, h3]
theorem roomZ_4 {Z : List ZV} {s : Int} (h : ¬ (s = 1 ∨ s = 2)) (h2 : ¬ (s = 4 ∨ s = 0 ∧ 3 ≤ cnt isA Z)) (h3 : ¬ cnt isO Z < 2) (hf : fopen Z = none) : roomZ Z s = none := by
  have : isO s = false := by simp [isO]; omega
  simp [roomZ, this, h2, h3, hf]
theorem roomZ_5 {Z : List ZV} {s : Int} (h : ¬ (s = 1 ∨ s = 2)) (h2 : ¬ (s = 4 ∨ s = 0 ∧ 3 ≤ cnt isA Z)) (h3 : ¬ cnt isO Z < 2) {i : Nat} {z : ZV} (hf : fopen Z = some i) (hz : Z[i]? = some z) : roomZ Z s = some (Z.set i z.shut) := by
  have : isO s = false := by simp [isO]; omega
  simp [roomZ, this, h2, h3, hf, modify_set hz]

end Go.Proofs.YtcmladgldjcdmaaDoor

/- The contract of the document's own OnZones, kind by kind; no condition but that the slices read as zones and data. -/
namespace Go.Proofs.YtcmladgldjcdmaaDoor
open Go.RowKit
set_option linter.unusedVariables false
set_option maxRecDepth 100000
set_option linter.unusedSimpArgs false

theorem zs_four {w : World} {a : Option Addr} {n c : Nat} {Z : List ZV} (h : Zones w a n c Z) (hok : checkZs (Z.map ZV.p) = 0) :
    n = 4 ∧ ∃ b off, a = some ⟨b, off, none⟩ ∧ ∀ i z, Z[i]? = some z → w.cell? ⟨b, off + i * 2, none⟩ = some (.int .i64 z.s) ∧ w.cell? ⟨b, off + i * 2 + 1, none⟩ = some (.slice z.a z.n z.c) := by
  have h4 : n = 4 := by
    apply Decidable.byContradiction
    intro hn
    rw [← checkZs_1 (Z := Z) (by rw [h.len]; exact hn)] at hok
    omega
  refine ⟨h4, ?_⟩
  rcases h.row with h0 | ⟨b, off, ha, _, hr⟩
  · omega
  · exact ⟨b, off, ha, hr⟩

end Go.Proofs.YtcmladgldjcdmaaDoor

/- The contract of the document's own OnZones at Close and Open; no condition but that the slices read as zones and data. -/
namespace Go.Proofs.YtcmladgldjcdmaaDoor
open Go.RowKit
set_option linter.unusedVariables false
set_option maxRecDepth 100000
set_option linter.unusedSimpArgs false

end Go.Proofs.YtcmladgldjcdmaaDoor

/- The contract of the document's own OnZones at Open; no condition but that the slices read as zones and data. -/
namespace Go.Proofs.YtcmladgldjcdmaaDoor
open Go.RowKit
set_option linter.unusedVariables false
set_option maxRecDepth 100000
set_option linter.unusedSimpArgs false

end Go.Proofs.YtcmladgldjcdmaaDoor

/- The contracts of zone.Write and of the document's WriteZone, errors and all in one; no condition but that the arguments read as data. -/
namespace Go.Proofs.YtcmladgldjcdmaaDoor
open Go.RowKit
set_option linter.unusedVariables false
set_option maxRecDepth 100000
set_option linter.unusedSimpArgs false

/-- What Write answers: state, blocks. -/
def wS (s : Int) (l k : List Int) : Int := if writeE s l k = 0 then writeS s (l.length + k.length) else 0
def wL (s : Int) (l k : List Int) : List Int := if writeE s l k = 0 then l ++ k else []

theorem Write_u (s : Int) (a : Option Addr) (n c : Nat) (l : List Int) (b : Option Addr) (m d : Nat) (k : List Int) (w : World) (h1 : Ints w a n c l) (h2 : Ints w b m d k) :
    Calls Tryd.prog 88 #[.agg #[.int .i64 s, .slice a n c], .slice b m d] w fun e w' => (∃ a' n' c', e = .returned (.tuple #[.agg #[.int .i64 (wS s l k), .slice a' n' c'], .int .i64 (writeE s l k)]) ∧ Ints w' a' n' c' (wL s l k) ∧ ∀ x, a' = some x → w.heap.size ≤ x.block) ∧ Below w.heap.size w w' := by
  by_cases h : writeE s l k = 0
  · refine (Write_ok s a n c l b m d k w h1 h2 h).mono ?_
    rintro e w' ⟨⟨q, rfl, i, hq⟩, hb⟩
    rw [show wS s l k = writeS s (n + m) by simp [wS, h, h1.len, h2.len], show wL s l k = l ++ k by simp [wL, h], h]
    exact ⟨⟨_, _, _, rfl, i, fun x e => by cases e; exact hq⟩, hb⟩
  · refine (Write_bad s a n c l b m d k w h1 h2 h).mono ?_
    rintro e w' ⟨rfl, hb⟩
    rw [show wS s l k = 0 by simp [wS, h], show wL s l k = [] by simp [wL, h]]
    exact ⟨⟨_, _, _, rfl, Ints.nilSlice _, fun x e => by cases e⟩, hb⟩

end Go.Proofs.YtcmladgldjcdmaaDoor

/- The contract of the document's own OnZones at Append; no condition but that the slices read as zones and data. -/
namespace Go.Proofs.YtcmladgldjcdmaaDoor
open Go.RowKit
set_option linter.unusedVariables false
set_option maxRecDepth 100000
set_option linter.unusedSimpArgs false

end Go.Proofs.YtcmladgldjcdmaaDoor
