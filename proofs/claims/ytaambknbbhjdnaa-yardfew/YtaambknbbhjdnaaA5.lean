/- The contracts of zone.Write and zone.Read; no condition but that the zone reads as its state and list. -/
import Derived.Test.YtaambknbbhjdnaaA4b
import Derived.Deep.DeepCutAuto
namespace Go.Proofs.Ytaambknbbhjdnaa
open Go.RowKit
set_option linter.unusedVariables false
set_option maxRecDepth 100000
set_option linter.unusedSimpArgs false

set_option maxHeartbeats 1000000 in
theorem Write_bad (s : Int) (a : Option Addr) (n c : Nat) (l : List Int) (b : Option Addr) (m d : Nat) (k : List Int) (w : World) (h1 : Ints w a n c l) (h2 : Ints w b m d k) (hbad : writeE s l k ≠ 0) :
    Calls Try.prog 27 #[.agg #[.int .i64 s, .slice a n c], .slice b m d] w fun e w' => e = .returned (.tuple #[.agg #[.int .i64 0, .slice none 0 0], .int .i64 (writeE s l k)]) ∧ Below w.heap.size w w' := by
  go_enter Try.func27, Try.ntmps27
  go_wp2_with fail
  refine (checkWrite_c s a n c l b m d k _ ?hi ?hj).mono ?hm
  case hi => refine h1.below (B := w.heap.size) ?_ (Nat.le_refl _); (repeat first | exact bel0 | assumption | refine bel1 ?_ | refine bel2 ?_ | refine bel3 ?_ | refine belowT ?_ (by assumption) | refine bel5 ?_ (by simp; try omega))
  case hj => refine h2.below (B := w.heap.size) ?_ (Nat.le_refl _); (repeat first | exact bel0 | assumption | refine bel1 ?_ | refine bel2 ?_ | refine bel3 ?_ | refine belowT ?_ (by assumption) | refine bel5 ?_ (by simp; try omega))
  rintro e w1 ⟨rfl, hb1⟩
  generalize hx : writeE s l k = x at *
  have HX := hide hx
  clear hx
  have hx : (x != 0) = true := by simpa using hbad
  clear hbad
  obtain ⟨hcl, hfr⟩ := bcell hb1
  have z1 : w.heap.size + 1 < w1.heap.size := by have := hb1.size; simp at this; omega
  go_wp2
  refine bodyPost_ret (v := .tuple #[.agg #[.int .i64 0, .slice none 0 0], .int .i64 x]) (by simp [results, Try.results27, go_sem, hcl, hfr]) rfl ⟨by rw [HX.out], ?_⟩
  (repeat first | exact bel0 | assumption | refine bel1 ?_ | refine bel2 ?_ | refine bel3 ?_ | refine belowT ?_ (by assumption) | refine bel5 ?_ (by simp; try omega))

theorem writeE_ok {s : Int} {l k : List Int} (h : writeE s l k = 0) : checkZ s l = 0 ∧ 1 ≤ k.length ∧ l.length + k.length ≤ 8 ∧ k.any (outB 0 999) = false ∧ s ≠ 4 := by
  unfold writeE at h
  by_cases h1 : checkZ s l = 0
  · by_cases h2 : outB 1 8 k.length = true
    · simp [h1, h2] at h
    · by_cases h3 : k.any (outB 0 999) = true
      · simp only [h1, h2, h3] at h; simp at h
      · by_cases h4 : s = 4 ∨ 8 < l.length + k.length
        · simp only [h1, h2, h3, h4] at h; simp at h
        · have h5 : 1 ≤ k.length := by simp [outB] at h2; omega
          exact ⟨h1, h5, by omega, by simpa using h3, by omega⟩
  · simp [h1] at h

set_option maxHeartbeats 1000000 in
theorem Write_ok (s : Int) (a : Option Addr) (n c : Nat) (l : List Int) (b : Option Addr) (m d : Nat) (k : List Int) (w : World) (h1 : Ints w a n c l) (h2 : Ints w b m d k) (hok : writeE s l k = 0) :
    Calls Try.prog 27 #[.agg #[.int .i64 s, .slice a n c], .slice b m d] w fun e w' => (∃ q, e = .returned (.tuple #[.agg #[.int .i64 (writeS s (n + m)), .slice (some ⟨q, 0, none⟩) (n + m) (n + m)], .int .i64 0]) ∧ Ints w' (some ⟨q, 0, none⟩) (n + m) (n + m) (l ++ k) ∧ w.heap.size ≤ q) ∧ Below w.heap.size w w' := by
  have hw := writeE_ok hok
  rw [h1.len, h2.len] at hw
  have hnm : n + m ≤ 8 := hw.2.2.1
  have hm1 : 1 ≤ m := hw.2.1
  clear hw
  have HOK := hide hok
  clear hok
  go_enter Try.func27, Try.ntmps27
  go_wp2_with fail
  refine (checkWrite_c s a n c l b m d k _ ?hi ?hj).mono ?hm
  case hi => refine h1.below (B := w.heap.size) ?_ (Nat.le_refl _); (repeat first | exact bel0 | assumption | refine bel1 ?_ | refine bel2 ?_ | refine bel3 ?_ | refine belowT ?_ (by assumption) | refine bel5 ?_ (by simp; try omega))
  case hj => refine h2.below (B := w.heap.size) ?_ (Nat.le_refl _); (repeat first | exact bel0 | assumption | refine bel1 ?_ | refine bel2 ?_ | refine bel3 ?_ | refine belowT ?_ (by assumption) | refine bel5 ?_ (by simp; try omega))
  rintro e w1 ⟨rfl, hb1⟩
  rw [HOK.out]
  have c0 : w1.cell? ⟨w.heap.size, 0, none⟩ = some (.int .i64 s) := by rw [hb1.cell (by (first | (simp; done) | (simp; omega)))]; go_simp
  have c1 : w1.cell? ⟨w.heap.size, 1, none⟩ = some (.slice a n c) := by rw [hb1.cell (by (first | (simp; done) | (simp; omega)))]; go_simp
  have r0 : w1.cell? ⟨w.heap.size + 1, 0, none⟩ = some (.int .i64 0) := by rw [hb1.cell (by (first | (simp; done) | (simp; omega)))]; go_simp
  have r1 : w1.cell? ⟨w.heap.size + 1, 1, none⟩ = some (.slice none 0 0) := by rw [hb1.cell (by (first | (simp; done) | (simp; omega)))]; go_simp
  have f0 : w1.frozen? ⟨w.heap.size + 1, 0, none⟩ = false := by rw [hb1.frozen (by (first | (simp; done) | (simp; omega)))]; go_simp
  have f1 : w1.frozen? ⟨w.heap.size + 1, 1, none⟩ = false := by rw [hb1.frozen (by (first | (simp; done) | (simp; omega)))]; go_simp
  have z1 : w.heap.size + 1 < w1.heap.size := by have := hb1.size; simp at this; omega
  have z0 : w.heap.size < w1.heap.size := by omega
  have z00 : w.heap.size < w1.heap.size + 1 := by omega
  have bw1 : Below w.heap.size w w1 := by (repeat first | exact bel0 | assumption | refine bel1 ?_ | refine bel2 ?_ | refine bel3 ?_ | refine belowT ?_ (by assumption) | refine bel5 ?_ (by simp; try omega))
  have i1 := h1.below bw1 (Nat.le_refl _)
  have i2 := h2.below bw1 (Nat.le_refl _)
  clear h1 h2 hb1
  go_upto_region 4 with fail
  go_cut [7] (fun v7 wx => ∃ g q, v7 = .pointer (some ⟨g, 0, none⟩) ∧ q ≠ g ∧ w.heap.size + 1 < q ∧ Ints wx (some ⟨q, 0, none⟩) (n + m) (n + m) (l ++ k) ∧ wx.cell? ⟨g, 0, none⟩ = some (.int .i64 s) ∧ wx.cell? ⟨g, 1, none⟩ = some (.slice (some ⟨q, 0, none⟩) (n + m) (n + m)) ∧ wx.frozen? ⟨g, 0, none⟩ = false ∧ w.heap.size + 1 < g ∧ Below w1.heap.size w1 wx)
  case first =>
    go_region_held3 (fun w' => w'.cell? ⟨w.heap.size, 0, none⟩ = some (.int .i64 s) ∧ w'.cell? ⟨w.heap.size, 1, none⟩ = some (.slice a n c)) ((first | (go_simp; done) | (simp [*, World.cell?_alloc_at, World.cell?_alloc_past, World.cell?_alloc_some, World.cell?_setCell_far]; done)))
      (first | (go_at_call 42; refine (join_c a n c l b m d k _ (by refine i1.below (B := w1.heap.size) ?_ (Nat.le_refl _); (repeat first | exact bel0 | assumption | refine bel1 ?_ | refine bel2 ?_ | refine bel3 ?_ | refine belowT ?_ (by assumption) | refine bel5 ?_ (by simp; try omega))) (by refine i2.below (B := w1.heap.size) ?_ (Nat.le_refl _); (repeat first | exact bel0 | assumption | refine bel1 ?_ | refine bel2 ?_ | refine bel3 ?_ | refine belowT ?_ (by assumption) | refine bel5 ?_ (by simp; try omega))) (by omega)).mono ?_; rintro e w2 ⟨⟨rfl, i3⟩, hb2⟩; (have e0 := hb2.cell (p := ⟨w.heap.size, 0, none⟩) (by (first | (simp; done) | (simp; omega)))); (have e1 := hb2.cell (p := ⟨w.heap.size, 1, none⟩) (by (first | (simp; done) | (simp; omega)))); (have e2 := hb2.cell (p := ⟨w1.heap.size, 0, none⟩)); (have e3 := hb2.cell (p := ⟨w1.heap.size, 1, none⟩)); (have e4 := hb2.frozen (p := ⟨w1.heap.size, 0, none⟩)); (have e5 := hb2.frozen (p := ⟨w1.heap.size, 1, none⟩))))
    · go_wp2_with fail
      go_meet
      case rel =>
        have hsz := hb2.size
        have hlt : w1.heap.size < w2.heap.size := by
          rcases i3.row with h | ⟨b', o', e', hl', _⟩
          · omega
          · simp at e'; omega
        exact ⟨_, _, rfl, by simp; omega, by simp; omega, i3.below (B := w2.heap.size) (by (repeat first | exact bel0 | assumption | refine bel1 ?_ | refine bel2 ?_ | refine bel3 ?_ | refine belowT ?_ (by assumption) | refine bel5 ?_ (by simp; try omega))) (Nat.le_refl _), by go_simp, by go_simp, by go_simp, by omega, by (repeat first | exact bel0 | assumption | refine bel1 ?_ | refine bel2 ?_ | refine bel3 ?_ | refine belowT ?_ (by assumption) | refine bel5 ?_ (by simp; try omega))⟩
    · go_wp2_with fail
      go_meet
      case rel =>
        have hsz := hb2.size
        simp at hsz
        exact ⟨_, _, rfl, by simp, by simp; omega, (i3.setCell _ _ (by intro x hx; cases hx; simp)).setCell _ _ (by intro x hx; cases hx; simp), by go_simp, by go_simp, by go_simp, by omega, by (repeat first | exact bel0 | assumption | refine bel1 ?_ | refine bel2 ?_ | refine bel3 ?_ | refine belowT ?_ (by assumption) | refine bel5 ?_ (by simp; try omega))⟩
  case rest =>
    obtain ⟨g, q, rfl, hqg, hq, i3, d0, d1, df, hg, hb2⟩ := hcut
    have r02 : wc.cell? ⟨w.heap.size + 1, 0, none⟩ = some (.int .i64 0) := by rw [hb2.cell (by (first | (simp; done) | (simp; omega)))]; exact r0
    have r12 : wc.cell? ⟨w.heap.size + 1, 1, none⟩ = some (.slice none 0 0) := by rw [hb2.cell (by (first | (simp; done) | (simp; omega)))]; exact r1
    have f02 : wc.frozen? ⟨w.heap.size + 1, 0, none⟩ = false := by rw [hb2.frozen (by (first | (simp; done) | (simp; omega)))]; exact f0
    have f12 : wc.frozen? ⟨w.heap.size + 1, 1, none⟩ = false := by rw [hb2.frozen (by (first | (simp; done) | (simp; omega)))]; exact f1
    have bwc : Below w.heap.size w wc := by (repeat first | exact bel0 | assumption | refine bel1 ?_ | refine bel2 ?_ | refine bel3 ?_ | refine belowT ?_ (by assumption) | refine bel5 ?_ (by simp; try omega))
    go_wp2_with fail
    refine (wake_c g s _ (n + m) (n + m) _ d0 d1 df (by omega)).mono ?_
    rintro e w3 ⟨⟨v, rfl⟩, hp⟩
    have p0 := hp.here
    have p1 : w3.cell? ⟨g, 1, none⟩ = some (.slice (some ⟨q, 0, none⟩) (n + m) (n + m)) := by rw [hp.other _ (by simp)]; exact d1
    have r03 : w3.cell? ⟨w.heap.size + 1, 0, none⟩ = some (.int .i64 0) := by rw [hp.other _ (by (first | (simp; done) | (simp; omega)))]; exact r02
    have r13 : w3.cell? ⟨w.heap.size + 1, 1, none⟩ = some (.slice none 0 0) := by rw [hp.other _ (by simp)]; exact r12
    have f03 : w3.frozen? ⟨w.heap.size + 1, 0, none⟩ = false := by rw [hp.ice]; exact f02
    have f13 : w3.frozen? ⟨w.heap.size + 1, 1, none⟩ = false := by rw [hp.ice]; exact f12
    have i4 := i3.put hp (by intro x hx; cases hx; exact hqg)
    have bw3 : Below w.heap.size w w3 := bwc.trans (hp.below.mono (by (first | (simp; done) | (simp; omega))))
    clear hp hb2 i1 i2 i3
    generalize hy : writeS s (n + m) = y at *
    have HY := hide hy
    clear hy
    go_wp2
    refine bodyPost_ret (v := .tuple #[.agg #[.int .i64 y, .slice (some ⟨q, 0, none⟩) (n + m) (n + m)], .int .i64 0]) (by simp [results, Try.results27, go_sem, r03, r13, f03, f13]) rfl ⟨⟨_, by rw [HY.out], ?_, by omega⟩, ?_⟩
    · exact (i4.setCell _ _ (by intro x hx; cases hx; simp; omega)).setCell _ _ (by intro x hx; cases hx; simp; omega)
    · (repeat first | exact bel0 | assumption | refine bel1 ?_ | refine bel2 ?_ | refine bel3 ?_ | refine belowT ?_ (by assumption) | refine bel5 ?_ (by simp; try omega))

end Go.Proofs.Ytaambknbbhjdnaa
