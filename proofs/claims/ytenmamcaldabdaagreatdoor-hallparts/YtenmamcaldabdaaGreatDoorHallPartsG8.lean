/- The contracts of zone.Write and zone.Read; no condition but that the zone reads as its state and list. -/
import Derived.Test.YtenmamcaldabdaaGreatDoorHallPartsG7
import Derived.Deep.DeepCutAuto
import Derived.Test.YtenmamcaldabdaaGreatDoorHallPartsG4
import Derived.Laws.AppendOwnNone
namespace Go.Proofs.YtenmamcaldabdaaGreatDoor
open Go.RowKit
set_option linter.unusedVariables false
set_option maxRecDepth 100000
set_option linter.unusedSimpArgs false

set_option maxHeartbeats 1000000 in
theorem Write_bad (s : Int) (a : Option Addr) (n c : Nat) (l : List Int) (b : Option Addr) (m d : Nat) (k : List Int) (w : World) (h1 : Ints w a n c l) (h2 : Ints w b m d k) (hbad : writeE s l k ≠ 0) :
    Calls Tryz.prog 168 #[.agg #[.int .i64 s, .slice a n c], .slice b m d] w fun e w' => e = .returned (.tuple #[.agg #[.int .i64 0, .slice none 0 0], .int .i64 (writeE s l k)]) ∧ Below w.heap.size w w' := by
  go_enter Tryz.func168, Tryz.ntmps168
  go_wp2_with fail
  refine (checkWrite_c s a n c l b m d k _ ?hi ?hj).mono ?hm
  case hi => refine h1.below (B := w.heap.size) ?_ (Nat.le_refl _); (repeat (first | exact Below.refl _ _ | assumption | refine Below.drew ?_ | refine below_drewN ?_ _ | refine belowA ?_ _ | refine belowT ?_ (by assumption) | refine Below.setCell ?_ (by first | (simp; done) | (simp; omega)) _))
  case hj => refine h2.below (B := w.heap.size) ?_ (Nat.le_refl _); (repeat (first | exact Below.refl _ _ | assumption | refine Below.drew ?_ | refine below_drewN ?_ _ | refine belowA ?_ _ | refine belowT ?_ (by assumption) | refine Below.setCell ?_ (by first | (simp; done) | (simp; omega)) _))
  rintro e w1 ⟨rfl, hb1⟩
  generalize hx : writeE s l k = x at *
  have HX := hide hx
  clear hx
  have hx : (x != 0) = true := by simpa using hbad
  clear hbad
  obtain ⟨hcl, hfr⟩ := bcell hb1
  have z1 : w.heap.size + 1 < w1.heap.size := by have := hb1.size; simp at this; omega
  go_wp2
  refine bodyPost_ret (v := .tuple #[.agg #[.int .i64 0, .slice none 0 0], .int .i64 x]) (by simp [results, Tryz.results168, go_sem, hcl, hfr]) rfl ⟨by rw [HX.out], ?_⟩
  (repeat (first | exact Below.refl _ _ | assumption | refine Below.drew ?_ | refine below_drewN ?_ _ | refine belowA ?_ _ | refine belowT ?_ (by assumption) | refine Below.setCell ?_ (by first | (simp; done) | (simp; omega)) _))

theorem writeE_ok {s : Int} {l k : List Int} (h : writeE s l k = 0) : checkZ s l = 0 ∧ 1 ≤ k.length ∧ l.length + k.length ≤ 8 ∧ k.any (outB 0 999) = false ∧ s ≠ 4 := by
  unfold writeE at h
  by_cases h1 : checkZ s l = 0
  · by_cases h2 : outB 1 8 k.length = true
    · simp [h1, h2] at h
    · by_cases h3 : k.any (outB 0 999) = true
      · simp only [h1, h2, h3] at h; simp at h
      · by_cases h4 : s = 4 ∨ 8 < l.length + k.length
        · simp only [h1, h2, h3, h4] at h; simp at h
        · have h5 : 1 ≤ k.length := by simp [outB] at h2; omega
          exact ⟨h1, h5, by omega, by simpa using h3, by omega⟩
  · simp [h1] at h

set_option maxHeartbeats 1000000 in
theorem Write_ok (s : Int) (a : Option Addr) (n c : Nat) (l : List Int) (b : Option Addr) (m d : Nat) (k : List Int) (w : World) (h1 : Ints w a n c l) (h2 : Ints w b m d k) (hok : writeE s l k = 0) :
    Calls Tryz.prog 168 #[.agg #[.int .i64 s, .slice a n c], .slice b m d] w fun e w' => (∃ q, e = .returned (.tuple #[.agg #[.int .i64 (writeS s (n + m)), .slice (some ⟨q, 0, none⟩) (n + m) (n + m)], .int .i64 0]) ∧ Ints w' (some ⟨q, 0, none⟩) (n + m) (n + m) (l ++ k) ∧ w.heap.size ≤ q) ∧ Below w.heap.size w w' := by
  have hw := writeE_ok hok
  rw [h1.len, h2.len] at hw
  have hnm : n + m ≤ 8 := hw.2.2.1
  have hm1 : 1 ≤ m := hw.2.1
  clear hw
  have HOK := hide hok
  clear hok
  go_enter Tryz.func168, Tryz.ntmps168
  go_wp2_with fail
  refine (checkWrite_c s a n c l b m d k _ ?hi ?hj).mono ?hm
  case hi => refine h1.below (B := w.heap.size) ?_ (Nat.le_refl _); (repeat (first | exact Below.refl _ _ | assumption | refine Below.drew ?_ | refine below_drewN ?_ _ | refine belowA ?_ _ | refine belowT ?_ (by assumption) | refine Below.setCell ?_ (by first | (simp; done) | (simp; omega)) _))
  case hj => refine h2.below (B := w.heap.size) ?_ (Nat.le_refl _); (repeat (first | exact Below.refl _ _ | assumption | refine Below.drew ?_ | refine below_drewN ?_ _ | refine belowA ?_ _ | refine belowT ?_ (by assumption) | refine Below.setCell ?_ (by first | (simp; done) | (simp; omega)) _))
  rintro e w1 ⟨rfl, hb1⟩
  rw [HOK.out]
  have c0 : w1.cell? ⟨w.heap.size, 0, none⟩ = some (.int .i64 s) := by rw [hb1.cell (by (first | (simp; done) | (simp; omega)))]; go_simp
  have c1 : w1.cell? ⟨w.heap.size, 1, none⟩ = some (.slice a n c) := by rw [hb1.cell (by (first | (simp; done) | (simp; omega)))]; go_simp
  have r0 : w1.cell? ⟨w.heap.size + 1, 0, none⟩ = some (.int .i64 0) := by rw [hb1.cell (by (first | (simp; done) | (simp; omega)))]; go_simp
  have r1 : w1.cell? ⟨w.heap.size + 1, 1, none⟩ = some (.slice none 0 0) := by rw [hb1.cell (by (first | (simp; done) | (simp; omega)))]; go_simp
  have f0 : w1.frozen? ⟨w.heap.size + 1, 0, none⟩ = false := by rw [hb1.frozen (by (first | (simp; done) | (simp; omega)))]; go_simp
  have f1 : w1.frozen? ⟨w.heap.size + 1, 1, none⟩ = false := by rw [hb1.frozen (by (first | (simp; done) | (simp; omega)))]; go_simp
  have z1 : w.heap.size + 1 < w1.heap.size := by have := hb1.size; simp at this; omega
  have z0 : w.heap.size < w1.heap.size := by omega
  have z00 : w.heap.size < w1.heap.size + 1 := by omega
  have bw1 : Below w.heap.size w w1 := by (repeat (first | exact Below.refl _ _ | assumption | refine Below.drew ?_ | refine below_drewN ?_ _ | refine belowA ?_ _ | refine belowT ?_ (by assumption) | refine Below.setCell ?_ (by first | (simp; done) | (simp; omega)) _))
  have i1 := h1.below bw1 (Nat.le_refl _)
  have i2 := h2.below bw1 (Nat.le_refl _)
  clear h1 h2 hb1
  go_upto_region 4 with fail
  go_cut [7] (fun v7 wx => ∃ g q, v7 = .pointer (some ⟨g, 0, none⟩) ∧ q ≠ g ∧ w.heap.size + 1 < q ∧ Ints wx (some ⟨q, 0, none⟩) (n + m) (n + m) (l ++ k) ∧ wx.cell? ⟨g, 0, none⟩ = some (.int .i64 s) ∧ wx.cell? ⟨g, 1, none⟩ = some (.slice (some ⟨q, 0, none⟩) (n + m) (n + m)) ∧ wx.frozen? ⟨g, 0, none⟩ = false ∧ w.heap.size + 1 < g ∧ Below w1.heap.size w1 wx)
  case first =>
    go_region_held3 (fun w' => w'.cell? ⟨w.heap.size, 0, none⟩ = some (.int .i64 s) ∧ w'.cell? ⟨w.heap.size, 1, none⟩ = some (.slice a n c)) ((first | (go_simp; done) | (simp [*, World.cell?_alloc_at, World.cell?_alloc_past, World.cell?_alloc_some, World.cell?_setCell_far]; done)))
      (first | (go_at_call 166; refine (join_c a n c l b m d k _ (by refine i1.below (B := w1.heap.size) ?_ (Nat.le_refl _); (repeat (first | exact Below.refl _ _ | assumption | refine Below.drew ?_ | refine below_drewN ?_ _ | refine belowA ?_ _ | refine belowT ?_ (by assumption) | refine Below.setCell ?_ (by first | (simp; done) | (simp; omega)) _))) (by refine i2.below (B := w1.heap.size) ?_ (Nat.le_refl _); (repeat (first | exact Below.refl _ _ | assumption | refine Below.drew ?_ | refine below_drewN ?_ _ | refine belowA ?_ _ | refine belowT ?_ (by assumption) | refine Below.setCell ?_ (by first | (simp; done) | (simp; omega)) _))) (by omega)).mono ?_; rintro e w2 ⟨⟨rfl, i3⟩, hb2⟩; (have e0 := hb2.cell (p := ⟨w.heap.size, 0, none⟩) (by (first | (simp; done) | (simp; omega)))); (have e1 := hb2.cell (p := ⟨w.heap.size, 1, none⟩) (by (first | (simp; done) | (simp; omega)))); (have e2 := hb2.cell (p := ⟨w1.heap.size, 0, none⟩)); (have e3 := hb2.cell (p := ⟨w1.heap.size, 1, none⟩)); (have e4 := hb2.frozen (p := ⟨w1.heap.size, 0, none⟩)); (have e5 := hb2.frozen (p := ⟨w1.heap.size, 1, none⟩))))
    · go_wp2_with fail
      go_meet
      case rel =>
        have hsz := hb2.size
        have hlt : w1.heap.size < w2.heap.size := by rcases i3.row with h | ⟨b', o', e', hl', _⟩; · omega
                                                     · simp at e'; omega
        exact ⟨_, _, rfl, by simp; omega, by simp; omega, i3.below (B := w2.heap.size) (by (repeat (first | exact Below.refl _ _ | assumption | refine Below.drew ?_ | refine below_drewN ?_ _ | refine belowA ?_ _ | refine belowT ?_ (by assumption) | refine Below.setCell ?_ (by first | (simp; done) | (simp; omega)) _))) (Nat.le_refl _), by go_simp, by go_simp, by go_simp, by omega, by (repeat (first | exact Below.refl _ _ | assumption | refine Below.drew ?_ | refine below_drewN ?_ _ | refine belowA ?_ _ | refine belowT ?_ (by assumption) | refine Below.setCell ?_ (by first | (simp; done) | (simp; omega)) _))⟩
    · go_wp2_with fail
      go_meet
      case rel =>
        have hsz := hb2.size
        simp at hsz
        exact ⟨_, _, rfl, by simp, by simp; omega, (i3.setCell _ _ (by intro x hx; cases hx; simp)).setCell _ _ (by intro x hx; cases hx; simp), by go_simp, by go_simp, by go_simp, by omega, by (repeat (first | exact Below.refl _ _ | assumption | refine Below.drew ?_ | refine below_drewN ?_ _ | refine belowA ?_ _ | refine belowT ?_ (by assumption) | refine Below.setCell ?_ (by first | (simp; done) | (simp; omega)) _))⟩
  case rest =>
    obtain ⟨g, q, rfl, hqg, hq, i3, d0, d1, df, hg, hb2⟩ := hcut
    have r02 : wc.cell? ⟨w.heap.size + 1, 0, none⟩ = some (.int .i64 0) := by rw [hb2.cell (by (first | (simp; done) | (simp; omega)))]; exact r0
    have r12 : wc.cell? ⟨w.heap.size + 1, 1, none⟩ = some (.slice none 0 0) := by rw [hb2.cell (by (first | (simp; done) | (simp; omega)))]; exact r1
    have f02 : wc.frozen? ⟨w.heap.size + 1, 0, none⟩ = false := by rw [hb2.frozen (by (first | (simp; done) | (simp; omega)))]; exact f0
    have f12 : wc.frozen? ⟨w.heap.size + 1, 1, none⟩ = false := by rw [hb2.frozen (by (first | (simp; done) | (simp; omega)))]; exact f1
    have bwc : Below w.heap.size w wc := by (repeat (first | exact Below.refl _ _ | assumption | refine Below.drew ?_ | refine below_drewN ?_ _ | refine belowA ?_ _ | refine belowT ?_ (by assumption) | refine Below.setCell ?_ (by first | (simp; done) | (simp; omega)) _))
    go_wp2_with fail
    refine (wake_c g s _ (n + m) (n + m) _ d0 d1 df (by omega)).mono ?_
    rintro e w3 ⟨⟨v, rfl⟩, hp⟩
    have p0 := hp.here
    have p1 : w3.cell? ⟨g, 1, none⟩ = some (.slice (some ⟨q, 0, none⟩) (n + m) (n + m)) := by rw [hp.other _ (by simp)]; exact d1
    have r03 : w3.cell? ⟨w.heap.size + 1, 0, none⟩ = some (.int .i64 0) := by rw [hp.other _ (by (first | (simp; done) | (simp; omega)))]; exact r02
    have r13 : w3.cell? ⟨w.heap.size + 1, 1, none⟩ = some (.slice none 0 0) := by rw [hp.other _ (by simp)]; exact r12
    have f03 : w3.frozen? ⟨w.heap.size + 1, 0, none⟩ = false := by rw [hp.ice]; exact f02
    have f13 : w3.frozen? ⟨w.heap.size + 1, 1, none⟩ = false := by rw [hp.ice]; exact f12
    have i4 := i3.put hp (by intro x hx; cases hx; exact hqg)
    have bw3 : Below w.heap.size w w3 := bwc.trans (hp.below.mono (by (first | (simp; done) | (simp; omega))))
    clear hp hb2 i1 i2 i3
    generalize hy : writeS s (n + m) = y at *
    have HY := hide hy
    clear hy
    go_wp2
    refine bodyPost_ret (v := .tuple #[.agg #[.int .i64 y, .slice (some ⟨q, 0, none⟩) (n + m) (n + m)], .int .i64 0]) (by simp [results, Tryz.results168, go_sem, r03, r13, f03, f13]) rfl ⟨⟨_, by rw [HY.out], ?_, by omega⟩, ?_⟩
    · exact (i4.setCell _ _ (by intro x hx; cases hx; simp; omega)).setCell _ _ (by intro x hx; cases hx; simp; omega)
    · (repeat (first | exact Below.refl _ _ | assumption | refine Below.drew ?_ | refine below_drewN ?_ _ | refine belowA ?_ _ | refine belowT ?_ (by assumption) | refine Below.setCell ?_ (by first | (simp; done) | (simp; omega)) _))

end Go.Proofs.YtenmamcaldabdaaGreatDoor

/- The contracts of zone.Read and what it calls; no condition but that the zone reads as its state and list. -/
namespace Go.Proofs.YtenmamcaldabdaaGreatDoor
open Go.RowKit
set_option linter.unusedVariables false
set_option maxRecDepth 100000
set_option linter.unusedSimpArgs false

/-- What is wrong with reading n blocks from p on: plain. -/
def readE (s : Int) (l : List Int) (p n : Int) : Int :=
  if checkZ s l ≠ 0 then checkZ s l else if outB 0 8 p || outB 0 (8 - p) n then 3 else if (l.length : Int) < p + n then 6 else 0

set_option maxHeartbeats 1000000 in
theorem checkRead_c (s : Int) (a : Option Addr) (n c : Nat) (l : List Int) (p k : Int) (w : World) (h1 : Ints w a n c l) :
    Calls Tryz.prog 165 #[.agg #[.int .i64 s, .slice a n c], .int .i64 p, .int .i64 k] w fun e w' => e = .returned (.int .i64 (readE s l p k)) ∧ Below w.heap.size w w' := by
  have hl1 := hide h1.len
  have hm1 := h1.max
  have hc1 := h1.le
  go_enter Tryz.func165, Tryz.ntmps165
  go_wp2_with fail
  refine (Check_c s a n c l _ ?hi).mono ?hm
  case hi => refine h1.below (B := w.heap.size) ?_ (Nat.le_refl _); (repeat (first | exact Below.refl _ _ | assumption | refine Below.drew ?_ | refine below_drewN ?_ _ | refine belowA ?_ _ | refine belowT ?_ (by assumption) | refine Below.setCell ?_ (by first | (simp; done) | (simp; omega)) _))
  rintro e w1 ⟨rfl, hb1⟩
  have c1 : w1.cell? ⟨w.heap.size, 1, none⟩ = some (.slice a n c) := by rw [hb1.cell (by (first | (simp; done) | (simp; omega)))]; go_simp
  have z1 : w.heap.size < w1.heap.size := by have := hb1.size; simp at this; omega
  have c14 := past4 c1
  have c12 := past2 c1
  generalize hchk : checkZ s l = x
  have HCHK := hide hchk
  clear hchk
  by_cases hx : (x != 0) = true
  · go_wp2
    go_ret
    exact ⟨ret_int (by have := HCHK.out; simp at hx; simp [readE, this, hx]), by (repeat (first | exact Below.refl _ _ | assumption | refine Below.drew ?_ | refine below_drewN ?_ _ | refine belowA ?_ _ | refine belowT ?_ (by assumption) | refine Below.setCell ?_ (by first | (simp; done) | (simp; omega)) _))⟩
  · have hx0 : (x != 0) = false := by simpa using hx
    clear hx
    cases hq : outB 0 8 p
    · have hpp : 0 ≤ p ∧ p ≤ 8 := by simp [outB] at hq; omega
      obtain ⟨hp1, hp2⟩ := hpp
      go_wp2_with (first | (go_at_call 121; refine (outside_c _ _ _).mono ?_; rintro e w' ⟨rfl, rfl⟩) | (go_at_call_of 144 p; refine (outside1_c p 0 8 _ _ _ (by (first | (go_simp; done) | (simp [*, World.cell?_alloc_at, World.cell?_alloc_past, World.cell?_alloc_some, World.cell?_setCell_far]; done))) (by (first | (go_simp; done) | (simp [*, World.cell?_alloc_at, World.cell?_alloc_past, World.cell?_alloc_some, World.cell?_setCell_far]; done)))).mono ?_; rintro e w' ⟨rfl, rfl⟩))
      refine (outside1_c k 0 (8 - p) _ _ _ (by (first | (go_simp; done) | (simp [*, World.cell?_alloc_at, World.cell?_alloc_past, World.cell?_alloc_some, World.cell?_setCell_far]; done))) (by (first | (go_simp; done) | (simp [*, World.cell?_alloc_at, World.cell?_alloc_past, World.cell?_alloc_some, World.cell?_setCell_far]; done)))).mono ?_
      rintro e w' ⟨rfl, rfl⟩
      cases hr : outB 0 (8 - p) k
      · have hkk : 0 ≤ k ∧ k ≤ 8 - p := by simp [outB] at hr; omega
        obtain ⟨hk1, hk2⟩ := hkk
        go_wp2
        · go_ret
          exact ⟨ret_int (by have e1 := HCHK.out; have e2 := hl1.out; simp at hx0; simp [readE, e1, hx0, hq, hr]; omega), by (repeat (first | exact Below.refl _ _ | assumption | refine Below.drew ?_ | refine below_drewN ?_ _ | refine belowA ?_ _ | refine belowT ?_ (by assumption) | refine Below.setCell ?_ (by first | (simp; done) | (simp; omega)) _))⟩
        · go_ret
          exact ⟨ret_int (by have e1 := HCHK.out; have e2 := hl1.out; simp at hx0; simp [readE, e1, hx0, hq, hr]; omega), by (repeat (first | exact Below.refl _ _ | assumption | refine Below.drew ?_ | refine below_drewN ?_ _ | refine belowA ?_ _ | refine belowT ?_ (by assumption) | refine Below.setCell ?_ (by first | (simp; done) | (simp; omega)) _))⟩
      · go_wp2
        go_ret
        exact ⟨ret_int (by have e1 := HCHK.out; simp at hx0; simp [readE, e1, hx0, hq, hr]), by (repeat (first | exact Below.refl _ _ | assumption | refine Below.drew ?_ | refine below_drewN ?_ _ | refine belowA ?_ _ | refine belowT ?_ (by assumption) | refine Below.setCell ?_ (by first | (simp; done) | (simp; omega)) _))⟩
    · go_wp2_with (first | (go_at_call 121; refine (outside_c _ _ _).mono ?_; rintro e w' ⟨rfl, rfl⟩) | (go_at_call 144; refine (outside1_c p 0 8 _ _ _ (by (first | (go_simp; done) | (simp [*, World.cell?_alloc_at, World.cell?_alloc_past, World.cell?_alloc_some, World.cell?_setCell_far]; done))) (by (first | (go_simp; done) | (simp [*, World.cell?_alloc_at, World.cell?_alloc_past, World.cell?_alloc_some, World.cell?_setCell_far]; done)))).mono ?_; rintro e w' ⟨rfl, rfl⟩))
      go_ret
      exact ⟨ret_int (by have := HCHK.out; simp at hx0; simp [readE, this, hx0, hq]), by (repeat (first | exact Below.refl _ _ | assumption | refine Below.drew ?_ | refine below_drewN ?_ _ | refine belowA ?_ _ | refine belowT ?_ (by assumption) | refine Below.setCell ?_ (by first | (simp; done) | (simp; omega)) _))⟩

theorem readE_ok {s : Int} {l : List Int} {p n : Int} (h : readE s l p n = 0) : checkZ s l = 0 ∧ 0 ≤ p ∧ p ≤ 8 ∧ 0 ≤ n ∧ n ≤ 8 - p ∧ p + n ≤ l.length := by
  unfold readE at h
  by_cases h1 : checkZ s l = 0
  · cases h2 : outB 0 8 p
    · cases h3 : outB 0 (8 - p) n
      · by_cases h4 : (l.length : Int) < p + n
        · simp [h1, h2, h3, h4] at h
        · simp [outB] at h2 h3
          exact ⟨h1, by omega, by omega, by omega, by omega, by omega⟩
      · simp [h1, h2, h3] at h
    · simp [h1, h2] at h
  · simp [h1] at h

set_option maxHeartbeats 1000000 in
theorem Read_bad (s : Int) (a : Option Addr) (n c : Nat) (l : List Int) (p k : Int) (w : World) (h1 : Ints w a n c l) (hbad : readE s l p k ≠ 0) :
    Calls Tryz.prog 139 #[.agg #[.int .i64 s, .slice a n c], .int .i64 p, .int .i64 k] w fun e w' => e = .returned (.tuple #[.slice none 0 0, .int .i64 (readE s l p k)]) ∧ Below w.heap.size w w' := by
  go_enter Tryz.func139, Tryz.ntmps139
  go_wp2_with fail
  refine (checkRead_c s a n c l p k _ ?hi).mono ?hm
  case hi => refine h1.below (B := w.heap.size) ?_ (Nat.le_refl _); (repeat (first | exact Below.refl _ _ | assumption | refine Below.drew ?_ | refine below_drewN ?_ _ | refine belowA ?_ _ | refine belowT ?_ (by assumption) | refine Below.setCell ?_ (by first | (simp; done) | (simp; omega)) _))
  rintro e w1 ⟨rfl, hb1⟩
  generalize hx : readE s l p k = x at *
  have HX := hide hx
  clear hx
  have hx : (x != 0) = true := by simpa using hbad
  clear hbad
  go_wp2
  go_ret2
  exact ⟨ret_vi HX.out.symm, by (repeat (first | exact Below.refl _ _ | assumption | refine Below.drew ?_ | refine below_drewN ?_ _ | refine belowA ?_ _ | refine belowT ?_ (by assumption) | refine Below.setCell ?_ (by first | (simp; done) | (simp; omega)) _))⟩

/-- A piece of a slice of ints. -/
theorem Ints.cut {w : World} {a : Option Addr} {n c : Nat} {l : List Int} (h : Ints w a n c l) (i j : Nat) (hij : i + j ≤ n) (a' : Option Addr) (ha : c ≠ i → a' = a.map (·.add i)) : Ints w a' j (c - i) ((l.drop i).take j) := by
  have hl := h.len
  have hle := h.le
  refine ⟨by simp; omega, by omega, by have := h.max; omega, fun e => ?_, ?_, fun x hx => h.wf x (List.mem_of_mem_drop (List.mem_of_mem_take hx))⟩
  · by_cases hci : c = i
    · omega
    · have := ha hci
      rw [e] at this
      cases a with
      | none => have := h.nil rfl; omega
      | some x => simp at this
  · by_cases hj : j = 0
    · exact .inl hj
    · rcases h.row with h0 | ⟨b, off, ea, hlt, hc⟩
      · omega
      · refine .inr ⟨b, off + i, ?_, hlt, fun q hq => ?_⟩
        · rw [ha (by omega), ea]; simp [addr_add]
        · rw [Nat.add_assoc, hc (i + q) (by omega)]
          simp [List.getD, List.getElem?_take, hq]

set_option maxHeartbeats 1000000 in
theorem Read_ok (s : Int) (a : Option Addr) (n c : Nat) (l : List Int) (p k : Int) (w : World) (h1 : Ints w a n c l) (hok : readE s l p k = 0) :
    Calls Tryz.prog 139 #[.agg #[.int .i64 s, .slice a n c], .int .i64 p, .int .i64 k] w fun e w' => (∃ q, e = .returned (.tuple #[.slice (some ⟨q, 0, none⟩) k.toNat k.toNat, .int .i64 0]) ∧ Ints w' (some ⟨q, 0, none⟩) k.toNat k.toNat ((l.drop p.toNat).take k.toNat) ∧ w.heap.size ≤ q) ∧ Below w.heap.size w w' := by
  obtain ⟨_, hp1, hp2, hk1, hk2, hpk⟩ := readE_ok hok
  rw [h1.len] at hpk
  have HOK := hide hok
  have hle := h1.le
  clear hok
  obtain ⟨i, rfl⟩ := Int.eq_ofNat_of_zero_le hp1
  obtain ⟨j, rfl⟩ := Int.eq_ofNat_of_zero_le hk1
  rw [Int.toNat_natCast, Int.toNat_natCast]
  go_enter Tryz.func139, Tryz.ntmps139
  go_wp2_with fail
  refine (checkRead_c s a n c l i j _ ?hi).mono ?hm
  case hi => refine h1.below (B := w.heap.size) ?_ (Nat.le_refl _); (repeat (first | exact Below.refl _ _ | assumption | refine Below.drew ?_ | refine below_drewN ?_ _ | refine belowA ?_ _ | refine belowT ?_ (by assumption) | refine Below.setCell ?_ (by first | (simp; done) | (simp; omega)) _))
  rintro e w1 ⟨rfl, hb1⟩
  rw [HOK.out]
  have c1 : w1.cell? ⟨w.heap.size, 1, none⟩ = some (.slice a n c) := by rw [hb1.cell (by (first | (simp; done) | (simp; omega)))]; go_simp
  have bw1 : Below w.heap.size w w1 := by (repeat (first | exact Below.refl _ _ | assumption | refine Below.drew ?_ | refine below_drewN ?_ _ | refine belowA ?_ _ | refine belowT ?_ (by assumption) | refine Below.setCell ?_ (by first | (simp; done) | (simp; omega)) _))
  have i1 := h1.below bw1 (Nat.le_refl _)
  clear h1 hb1
  go_wp2_with fail
  · have i2 := i1.cut i j (by omega) a (fun h => absurd ‹c = i› h)
    rw [show c - i = 0 by have := ‹c = i›; omega] at i2
    refine (join_none a j 0 _ none 0 _ i2 (by omega)).mono ?_
    rintro e w2 ⟨⟨rfl, i3⟩, hb2⟩
    go_wp2
    go_ret2
    exact ⟨⟨_, rfl, i3, bw1.size⟩, by (repeat (first | exact Below.refl _ _ | assumption | refine Below.drew ?_ | refine below_drewN ?_ _ | refine belowA ?_ _ | refine belowT ?_ (by assumption) | refine Below.setCell ?_ (by first | (simp; done) | (simp; omega)) _))⟩
  · have i2 := i1.cut i j (by omega) (Option.map (fun x => x.add i) a) (fun _ => rfl)
    refine (join_none _ j (c - i) _ none 0 _ i2 (by omega)).mono ?_
    rintro e w2 ⟨⟨rfl, i3⟩, hb2⟩
    go_wp2
    go_ret2
    exact ⟨⟨_, rfl, i3, bw1.size⟩, by (repeat (first | exact Below.refl _ _ | assumption | refine Below.drew ?_ | refine below_drewN ?_ _ | refine belowA ?_ _ | refine belowT ?_ (by assumption) | refine Below.setCell ?_ (by first | (simp; done) | (simp; omega)) _))⟩

end Go.Proofs.YtenmamcaldabdaaGreatDoor

/- The contracts of the document's own answers WriteZone and ReadZone; no condition but that the zone reads as its state and list. -/
namespace Go.Proofs.YtenmamcaldabdaaGreatDoor
open Go.RowKit
set_option linter.unusedVariables false
set_option maxRecDepth 100000
set_option linter.unusedSimpArgs false

end Go.Proofs.YtenmamcaldabdaaGreatDoor

/- The contract of the document's own answer ReadZone; no condition but that the zone reads as its state and list. -/
namespace Go.Proofs.YtenmamcaldabdaaGreatDoor
open Go.RowKit
set_option linter.unusedVariables false
set_option maxRecDepth 100000
set_option linter.unusedSimpArgs false

theorem OwnI.alloc {w : World} {base : Nat} {v : Value} {l : List Int} (h : OwnI w base v l) (o : Obj) : OwnI (w.alloc o) base v l := World.ownsRow.alloc h o

theorem OwnI.own {w : World} {base : Nat} {v : Value} {l : List Int} (h : OwnI w base v l) : ∀ k, v.ownBlock = some k → base ≤ k := by
  intro k e
  obtain ⟨_, h⟩ := h
  rcases h with ⟨rfl, _⟩ | ⟨g, cap, cur, rfl, hb, _⟩
  · cases e
  · simp [Value.ownBlock] at e; omega

theorem OwnI.snoc {w : World} {base : Nat} {v : Value} {l : List Int} {x : Int} (h : w.ownsRow base 3 1 v (l.length + 1) (cellsOf l ++ [.int .i64 x])) : OwnI w base v (l ++ [x]) := by
  unfold OwnI
  rw [List.length_append, ← cellsOf_app]
  exact h

theorem OwnI.mono {w : World} {base base' : Nat} {v : Value} {l : List Int} (h : OwnI w base v l) (hb : base' ≤ base) : OwnI w base' v l := by
  obtain ⟨h1, h⟩ := h
  refine ⟨h1, ?_⟩
  rcases h with h | ⟨g, cap, cur, e, hg, r⟩
  · exact .inl h
  · exact .inr ⟨g, cap, cur, e, Nat.le_trans hb hg, r⟩

end Go.Proofs.YtenmamcaldabdaaGreatDoor

/- The contract of cmd.listed; no condition but that the data reads as a list, and the table is as its text lays it. -/
namespace Go.Proofs.YtenmamcaldabdaaGreatDoor
open Go.RowKit
set_option linter.unusedVariables false
set_option maxRecDepth 100000
set_option linter.unusedSimpArgs false

/-- What is listed of the single numbers, up to part i. -/
def pickN (hz ha hn : Bool) (z t n : Int) : Nat → List Int
  | 0 => []
  | 1 => if hz then [z] else []
  | 2 => (if hz then [z] else []) ++ (if ha then [t] else [])
  | _ => (if hz then [z] else []) ++ (if ha then [t] else []) ++ (if hn then [n] else [])
/-- The numbers of a command, in the order in which they are printed. -/
def listC (b : PC) : List Int := pickN (hasZ b.k) (hasA b.k) (hasN b.k) b.z b.at' b.n 3 ++ b.d

theorem pickN_len (hz ha hn : Bool) (z t n : Int) : ∀ i, (pickN hz ha hn z t n i).length ≤ 3
  | 0 => by simp [pickN]
  | 1 => by cases hz <;> simp [pickN]
  | 2 => by cases hz <;> cases ha <;> simp [pickN]
  | _ + 3 => by cases hz <;> cases ha <;> cases hn <;> simp [pickN]

theorem OwnI.append {w : World} {base : Nat} {v : Value} {l k : List Int} {m : Nat} (hm : k.length = m) (h : w.ownsRow base 3 1 v (l.length + m) (cellsOf l ++ cellsOf k)) : OwnI w base v (l ++ k) := by
  unfold OwnI
  rw [List.length_append, hm, ← cellsOf_app]
  exact h

set_option maxRecDepth 100000 in
set_option maxHeartbeats 2000000 in
theorem listed_c (a : Option Addr) (m c : Nat) (k : Nat) (z n t : Int) (d : List Int) (w : World) (hS : Shapes w) (h : Ints w a m c d) (hm : m ≤ 1000) (hk1 : 1 ≤ k) (hk2 : k ≤ 12) :
    Calls Tryz.prog 99 #[.agg #[.int .i64 k, .int .i64 z, .int .i64 n, .int .i64 t, .slice a m c]] w fun e w' => (∃ v, e = .returned v ∧ OwnI w' w.heap.size v (listC ⟨k, z, n, t, d⟩)) ∧ Below w.heap.size w w' := by
  obtain ⟨i, hi, hzr, hs, hb⟩ := intInfo
  have s1 := hS.hz k hk2
  have s2 : w.cell? ⟨0, k * 5 + 1 + 1, none⟩ = some (.bool (hasA k)) := hS.ha k hk2
  have s3 : w.cell? ⟨0, k * 5 + 1 + 2, none⟩ = some (.bool (hasN k)) := hS.hn k hk2
  have HL : Hid (listC ⟨k, z, n, t, d⟩ = pickN (hasZ k) (hasA k) (hasN k) z t n 3 ++ d) := hide rfl
  have k1 : (1 : Int) ≤ (k : Int) := by omega
  have k2 : (k : Int) < 13 := by omega
  have k0 : (0 : Int) ≤ (k : Int) := by omega
  clear hS
  generalize hasZ k = hz at *
  generalize hasA k = ha at *
  generalize hasN k = hn at *
  have i0 : ∀ w : World, (Instr.index 116 (.agg #[.int .i64 z, .int .i64 t, .int .i64 n]) (.int .i64 0)).run Tryz.prog w = .ok (.int .i64 z) w := fun w => by kernel_rfl
  have i1 : ∀ w : World, (Instr.index 116 (.agg #[.int .i64 z, .int .i64 t, .int .i64 n]) (.int .i64 1)).run Tryz.prog w = .ok (.int .i64 t) w := fun w => by kernel_rfl
  have i2 : ∀ w : World, (Instr.index 116 (.agg #[.int .i64 z, .int .i64 t, .int .i64 n]) (.int .i64 2)).run Tryz.prog w = .ok (.int .i64 n) w := fun w => by kernel_rfl
  go_enter Tryz.func99, Tryz.ntmps99
  go_wp2_with fail
  refine (singles_c _ _ _ _ _ _ _ _).mono ?_
  rintro e w1 ⟨rfl, hb1⟩
  have bw : Below w.heap.size w w1 := by (repeat (first | exact Below.refl _ _ | assumption | refine Below.drew ?_ | refine below_drewN ?_ _ | refine belowA ?_ _ | refine belowT ?_ (by assumption) | refine Below.setCell ?_ (by first | (simp; done) | (simp; omega)) _))
  have b0 := keepc hb1 (p := ⟨w.heap.size, 0, none⟩) (u := .int .i64 k) (by go_simp)
  have b4 := keepc hb1 (p := ⟨w.heap.size, 4, none⟩) (u := .slice a m c) (by go_simp)
  have j1 := h.below bw (Nat.le_refl _)
  replace s1 := keepc bw s1
  replace s2 := keepc bw s2
  replace s3 := keepc bw s3
  clear hb1
  go_wp2
  go_loopw [3, 8] (fun o x wr => ∃ j : Nat, j ≤ 3 ∧ x = .int .i64 j ∧ OwnI wr w1.heap.size o (pickN hz ha hn z t n j) ∧ Below w1.heap.size w1 wr) (fun _ x _ => 3 - (intOf x).toNat)
  case atStart => exact ⟨0, by omega, rfl, nil_own _ _, Below.refl _ _⟩
  case round =>
    obtain ⟨j, hj, rfl, hown, hbr⟩ := hrel
    rename_i wr
    have c0 := keepc hbr b0
    have hob := hown.own
    have hpl := pickN_len hz ha hn z t n j
    rcases (by omega : j = 0 ∨ j = 1 ∨ j = 2 ∨ j = 3) with rfl | rfl | rfl | rfl
    · replace s1 := keepc hbr s1
      cases hz
      · go_wp2
        exact ⟨⟨1, by omega, by go_num, by simpa [pickN] using hown, hbr⟩, by simp [intOf]⟩
      · generalize hL : pickN true ha hn z t n 0 = L at *
        have HPL := hide hL
        clear hL
        go_wp2_with (at_builtin; refine wpList_append_own _ rfl _ _ 23 rfl w1.heap.size 3 i (.int .i64 0) 1 8 Tryz.underlying23 hi hzr hs hb rfl (by decide) _ _ _ rfl (hown.alloc _) ⟨wr.heap.size, 0, none⟩ 1 1 [.int .i64 z] rfl rfl (cell_one_new _ _ _) ?hq1 ?hq2 ?hq3 ?hq4 ?hq5)
        case hq1 => intro u hu; simp at hu; subst hu; rfl
        case hq2 => simp [maxLen]; omega
        case hq3 => omega
        case hq4 => have := hbr.size; simp; omega
        case hq5 =>
          intro v' w3 hown3 hg3 _
          have b3 : Below w1.heap.size w1 w3 := (hbr.alloc hbr.size _).grown hg3 (by simp; have := hbr.size; omega) hob
          have o3 : OwnI w3 w1.heap.size v' (pickN true ha hn z t n 1) := by
            have := OwnI.snoc hown3
            rw [← HPL.out] at this
            simpa [pickN] using this
          go_wp2
          exact ⟨⟨1, by omega, by go_num, o3, b3⟩, by simp [intOf]⟩
    · replace s2 := keepc hbr s2
      cases ha
      · go_wp2
        exact ⟨⟨2, by omega, by go_num, by simpa [pickN] using hown, hbr⟩, by simp [intOf]⟩
      · generalize hL : pickN hz true hn z t n 1 = L at *
        have HPL := hide hL
        clear hL
        go_wp2_with (at_builtin; refine wpList_append_own _ rfl _ _ 23 rfl w1.heap.size 3 i (.int .i64 0) 1 8 Tryz.underlying23 hi hzr hs hb rfl (by decide) _ _ _ rfl (hown.alloc _) ⟨wr.heap.size, 0, none⟩ 1 1 [.int .i64 t] rfl rfl (cell_one_new _ _ _) ?hq1 ?hq2 ?hq3 ?hq4 ?hq5)
        case hq1 => intro u hu; simp at hu; subst hu; rfl
        case hq2 => simp [maxLen]; omega
        case hq3 => omega
        case hq4 => have := hbr.size; simp; omega
        case hq5 =>
          intro v' w3 hown3 hg3 _
          have b3 : Below w1.heap.size w1 w3 := (hbr.alloc hbr.size _).grown hg3 (by simp; have := hbr.size; omega) hob
          have o3 : OwnI w3 w1.heap.size v' (pickN hz true hn z t n 2) := by
            have := OwnI.snoc hown3
            rw [← HPL.out] at this
            simpa [pickN] using this
          go_wp2
          exact ⟨⟨2, by omega, by go_num, o3, b3⟩, by simp [intOf]⟩
    · replace s3 := keepc hbr s3
      cases hn
      · go_wp2
        exact ⟨⟨3, by omega, by go_num, by simpa [pickN] using hown, hbr⟩, by simp [intOf]⟩
      · generalize hL : pickN hz ha true z t n 2 = L at *
        have HPL := hide hL
        clear hL
        go_wp2_with (at_builtin; refine wpList_append_own _ rfl _ _ 23 rfl w1.heap.size 3 i (.int .i64 0) 1 8 Tryz.underlying23 hi hzr hs hb rfl (by decide) _ _ _ rfl (hown.alloc _) ⟨wr.heap.size, 0, none⟩ 1 1 [.int .i64 n] rfl rfl (cell_one_new _ _ _) ?hq1 ?hq2 ?hq3 ?hq4 ?hq5)
        case hq1 => intro u hu; simp at hu; subst hu; rfl
        case hq2 => simp [maxLen]; omega
        case hq3 => omega
        case hq4 => have := hbr.size; simp; omega
        case hq5 =>
          intro v' w3 hown3 hg3 _
          have b3 : Below w1.heap.size w1 w3 := (hbr.alloc hbr.size _).grown hg3 (by simp; have := hbr.size; omega) hob
          have o3 : OwnI w3 w1.heap.size v' (pickN hz ha true z t n 3) := by
            have := OwnI.snoc hown3
            rw [← HPL.out] at this
            simpa [pickN] using this
          go_wp2
          exact ⟨⟨3, by omega, by go_num, o3, b3⟩, by simp [intOf]⟩
    · replace b4 := keepc hbr b4
      replace j1 := j1.below hbr (Nat.le_refl _)
      have e1 := j1.len
      generalize pickN hz ha hn z t n 3 = L at *
      cases a with
      | none =>
        obtain ⟨rfl, rfl⟩ := j1.nils rfl
        obtain rfl : d = [] := List.eq_nil_of_length_eq_zero e1
        go_wp2_with (at_builtin; refine wpList_append_own_none rfl _ _ 23 rfl w1.heap.size 3 i 1 Tryz.underlying23 hi _ _ _ rfl hown rfl ?_)
        go_ret
        refine ⟨⟨_, rfl, ?_⟩, by (repeat (first | exact Below.refl _ _ | assumption | refine Below.drew ?_ | refine below_drewN ?_ _ | refine belowA ?_ _ | refine belowT ?_ (by assumption) | refine Below.setCell ?_ (by first | (simp; done) | (simp; omega)) _))⟩
        rw [HL.out]
        simpa using hown.mono bw.size
      | some ad =>
        go_wp2_with (at_builtin; refine wpList_append_own _ rfl _ _ 23 rfl w1.heap.size 3 i (.int .i64 0) 1 8 Tryz.underlying23 hi hzr hs hb rfl (by decide) _ _ _ rfl hown ad m c (cellsOf d) rfl ?hq0 (j1.srcs ad rfl) (cellsOf_one d) ?hq2 ?hq3 ?hq4 ?hq5)
        case hq0 => simp [cellsOf_len, e1]
        case hq2 => simp [maxLen]; omega
        case hq3 => omega
        case hq4 => exact hbr.size
        case hq5 =>
          intro v' w3 hown3 hg3 _
          have b3 : Below w1.heap.size w1 w3 := hbr.grown hg3 hbr.size hob
          have o3 : OwnI w3 w1.heap.size v' (L ++ d) := OwnI.append e1 hown3
          go_wp2
          go_ret
          refine ⟨⟨_, rfl, ?_⟩, by (repeat (first | exact Below.refl _ _ | assumption | refine Below.drew ?_ | refine below_drewN ?_ _ | refine belowA ?_ _ | refine belowT ?_ (by assumption) | refine Below.setCell ?_ (by first | (simp; done) | (simp; omega)) _))⟩
          rw [HL.out]
          exact o3.mono bw.size

end Go.Proofs.YtenmamcaldabdaaGreatDoor
