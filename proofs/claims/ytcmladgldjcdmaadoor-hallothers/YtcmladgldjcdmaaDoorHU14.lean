/- The contracts of book's calls where they answer an error of the book, the hand or the number; no condition but that the keys read as a list. -/
import Derived.Test.YtcmladgldjcdmaaDoorHU13
namespace Go.Proofs.YtcmladgldjcdmaaDoor
open Go.RowKit
set_option linter.unusedVariables false
set_option maxRecDepth 100000
set_option linter.unusedSimpArgs false

theorem none_ne (B : Nat) : ∀ x : Addr, (none : Option Addr) = some x → x.block ≠ B := fun x e => by cases e
theorem none_le (B : Nat) : ∀ x : Addr, (none : Option Addr) = some x → B ≤ x.block := fun x e => by cases e

theorem release_bad {b : PB} {who : Int} (h : regE b who ≠ 0) : releaseB b who = (zeroB, regE b who) := by
  unfold regE at h ⊢
  unfold releaseB
  by_cases hp : preB b who = 0
  · by_cases hk : keyOf b who = 0
    · simp [hp, hk]
    · simp [hp, hk] at h
  · simp [hp]
theorem clear_bad {b : PB} {who : Int} (h : regE b who ≠ 0) : clearB b who = (zeroB, regE b who) := by
  unfold regE at h ⊢
  unfold clearB
  by_cases hp : preB b who = 0
  · by_cases hk : keyOf b who = 0
    · simp [hp, hk]
    · simp [hp, hk] at h
  · simp [hp]

set_option maxHeartbeats 2000000 in
theorem BRegister_bad (a : Option Addr) (n c : Nat) (b : PB) (who key : Int) (w : World) (h : Ints w a n c b.k) (hp : preB b who ≠ 0) :
    Calls Tryd.prog 79 #[bookV a n c b, .int .i64 who, .int .i64 key] w fun e w' => (∃ a' n' c', e = .returned (.tuple #[bookV a' n' c' (registerB b who key).1, .int .i64 (registerB b who key).2]) ∧ Ints w' a' n' c' (registerB b who key).1.k ∧ ∀ x, a' = some x → w.heap.size ≤ x.block) ∧ Below w.heap.size w w' := by
  have HF := hide (show registerB b who key = (zeroB, preB b who) by simp [registerB, hp])
  have hx : (preB b who != 0) = true := by simpa using hp
  have hne := none_ne (w.heap.size + 1)
  have hfr := none_le w.heap.size
  clear hp
  unfold bookV
  go_enter Tryd.func79, Tryd.ntmps79
  go_wp2_with fail
  refine (checkHand_c _ _ _ b who _ (h.below (B := w.heap.size) (by (repeat first | exact bel0 | assumption | refine bel1 ?_ | refine bel2 ?_ | refine bel3 ?_ | refine belowT ?_ (by assumption) | refine bel5 ?_ (by simp; try omega))) (Nat.le_refl _))).mono ?_
  rintro e w1 ⟨rfl, hb1⟩
  obtain ⟨xP, xR, bw⟩ := boxes w a n c b
  replace xP := xP.below hb1
  replace xR := xR.below hb1
  replace bw := belowT bw hb1
  clear hb1
  obtain ⟨p0, p1, p2, _, _, _⟩ := id xP
  obtain ⟨r0, r1, r2, u0, u1, u2⟩ := id xR
  dsimp only at r1 r2
  generalize hy : preB b who = x at *
  clear hy
  go_wp2
  have zB := (xR).put (none) (0) (0) ⟨[], 0, 0⟩
  have bw9 := (((bw).setCell (p := ⟨w.heap.size + 1, 0, none⟩) (Nat.le_succ _) (.slice (none) (0) (0))).setCell (p := ⟨w.heap.size + 1, 1, none⟩) (Nat.le_succ _) (.int .i64 (0))).setCell (p := ⟨w.heap.size + 1, 2, none⟩) (Nat.le_succ _) (.int .i64 (0))
  have i9 := (((Ints.nilSlice w1).setCell ⟨w.heap.size + 1, 0, none⟩ (.slice (none) (0) (0)) hne).setCell ⟨w.heap.size + 1, 1, none⟩ (.int .i64 (0)) hne).setCell ⟨w.heap.size + 1, 2, none⟩ (.int .i64 (0)) hne
  dsimp only at zB
  generalize (((w1).setCell ⟨w.heap.size + 1, 0, none⟩ (.slice (none) (0) (0))).setCell ⟨w.heap.size + 1, 1, none⟩ (.int .i64 (0))).setCell ⟨w.heap.size + 1, 2, none⟩ (.int .i64 (0)) = w9 at *
  obtain ⟨z0, z1, z2, _, _, _⟩ := zB
  dsimp only at z1 z2
  exact bodyPost_ret (v := .tuple #[.agg #[.slice (none) (0) (0), .int .i64 (0), .int .i64 (0)], .int .i64 (x)]) (by simp [results, Tryd.results79, go_sem, z0, z1, z2]) rfl ⟨⟨none, 0, 0, by first | (rw [HF.out]; done) | (rw [HF.out]; rfl), by rw [HF.out]; exact i9, hfr⟩, bw9⟩


set_option maxHeartbeats 2000000 in
theorem BReserve_bad (a : Option Addr) (n c : Nat) (b : PB) (who key : Int) (w : World) (h : Ints w a n c b.k) (hp : preB b who ≠ 0) :
    Calls Tryd.prog 80 #[bookV a n c b, .int .i64 who, .int .i64 key] w fun e w' => (∃ a' n' c', e = .returned (.tuple #[bookV a' n' c' (reserveB b who key).1, .int .i64 (reserveB b who key).2]) ∧ Ints w' a' n' c' (reserveB b who key).1.k ∧ ∀ x, a' = some x → w.heap.size ≤ x.block) ∧ Below w.heap.size w w' := by
  have HF := hide (show reserveB b who key = (zeroB, preB b who) by simp [reserveB, hp])
  have hx : (preB b who != 0) = true := by simpa using hp
  have hne := none_ne (w.heap.size + 1)
  have hfr := none_le w.heap.size
  clear hp
  unfold bookV
  go_enter Tryd.func80, Tryd.ntmps80
  go_wp2_with fail
  refine (checkHand_c _ _ _ b who _ (h.below (B := w.heap.size) (by (repeat first | exact bel0 | assumption | refine bel1 ?_ | refine bel2 ?_ | refine bel3 ?_ | refine belowT ?_ (by assumption) | refine bel5 ?_ (by simp; try omega))) (Nat.le_refl _))).mono ?_
  rintro e w1 ⟨rfl, hb1⟩
  obtain ⟨xP, xR, bw⟩ := boxes w a n c b
  replace xP := xP.below hb1
  replace xR := xR.below hb1
  replace bw := belowT bw hb1
  clear hb1
  obtain ⟨p0, p1, p2, _, _, _⟩ := id xP
  obtain ⟨r0, r1, r2, u0, u1, u2⟩ := id xR
  dsimp only at r1 r2
  generalize hy : preB b who = x at *
  clear hy
  go_wp2
  have zB := (xR).put (none) (0) (0) ⟨[], 0, 0⟩
  have bw9 := (((bw).setCell (p := ⟨w.heap.size + 1, 0, none⟩) (Nat.le_succ _) (.slice (none) (0) (0))).setCell (p := ⟨w.heap.size + 1, 1, none⟩) (Nat.le_succ _) (.int .i64 (0))).setCell (p := ⟨w.heap.size + 1, 2, none⟩) (Nat.le_succ _) (.int .i64 (0))
  have i9 := (((Ints.nilSlice w1).setCell ⟨w.heap.size + 1, 0, none⟩ (.slice (none) (0) (0)) hne).setCell ⟨w.heap.size + 1, 1, none⟩ (.int .i64 (0)) hne).setCell ⟨w.heap.size + 1, 2, none⟩ (.int .i64 (0)) hne
  dsimp only at zB
  generalize (((w1).setCell ⟨w.heap.size + 1, 0, none⟩ (.slice (none) (0) (0))).setCell ⟨w.heap.size + 1, 1, none⟩ (.int .i64 (0))).setCell ⟨w.heap.size + 1, 2, none⟩ (.int .i64 (0)) = w9 at *
  obtain ⟨z0, z1, z2, _, _, _⟩ := zB
  dsimp only at z1 z2
  exact bodyPost_ret (v := .tuple #[.agg #[.slice (none) (0) (0), .int .i64 (0), .int .i64 (0)], .int .i64 (x)]) (by simp [results, Tryd.results80, go_sem, z0, z1, z2]) rfl ⟨⟨none, 0, 0, by first | (rw [HF.out]; done) | (rw [HF.out]; rfl), by rw [HF.out]; exact i9, hfr⟩, bw9⟩


set_option maxHeartbeats 2000000 in
theorem BPreempt_bad (a : Option Addr) (n c : Nat) (b : PB) (who key : Int) (w : World) (h : Ints w a n c b.k) (hp : preB b who ≠ 0) :
    Calls Tryd.prog 82 #[bookV a n c b, .int .i64 who, .int .i64 key] w fun e w' => (∃ a' n' c', e = .returned (.tuple #[bookV a' n' c' (preemptB b who key).1, .int .i64 (preemptB b who key).2]) ∧ Ints w' a' n' c' (preemptB b who key).1.k ∧ ∀ x, a' = some x → w.heap.size ≤ x.block) ∧ Below w.heap.size w w' := by
  have HF := hide (show preemptB b who key = (zeroB, preB b who) by simp [preemptB, hp])
  have hx : (preB b who != 0) = true := by simpa using hp
  have hne := none_ne (w.heap.size + 1)
  have hfr := none_le w.heap.size
  clear hp
  unfold bookV
  go_enter Tryd.func82, Tryd.ntmps82
  go_wp2_with fail
  refine (checkHand_c _ _ _ b who _ (h.below (B := w.heap.size) (by (repeat first | exact bel0 | assumption | refine bel1 ?_ | refine bel2 ?_ | refine bel3 ?_ | refine belowT ?_ (by assumption) | refine bel5 ?_ (by simp; try omega))) (Nat.le_refl _))).mono ?_
  rintro e w1 ⟨rfl, hb1⟩
  obtain ⟨xP, xR, bw⟩ := boxes w a n c b
  replace xP := xP.below hb1
  replace xR := xR.below hb1
  replace bw := belowT bw hb1
  clear hb1
  obtain ⟨p0, p1, p2, _, _, _⟩ := id xP
  obtain ⟨r0, r1, r2, u0, u1, u2⟩ := id xR
  dsimp only at r1 r2
  generalize hy : preB b who = x at *
  clear hy
  go_wp2
  have zB := (xR).put (none) (0) (0) ⟨[], 0, 0⟩
  have bw9 := (((bw).setCell (p := ⟨w.heap.size + 1, 0, none⟩) (Nat.le_succ _) (.slice (none) (0) (0))).setCell (p := ⟨w.heap.size + 1, 1, none⟩) (Nat.le_succ _) (.int .i64 (0))).setCell (p := ⟨w.heap.size + 1, 2, none⟩) (Nat.le_succ _) (.int .i64 (0))
  have i9 := (((Ints.nilSlice w1).setCell ⟨w.heap.size + 1, 0, none⟩ (.slice (none) (0) (0)) hne).setCell ⟨w.heap.size + 1, 1, none⟩ (.int .i64 (0)) hne).setCell ⟨w.heap.size + 1, 2, none⟩ (.int .i64 (0)) hne
  dsimp only at zB
  generalize (((w1).setCell ⟨w.heap.size + 1, 0, none⟩ (.slice (none) (0) (0))).setCell ⟨w.heap.size + 1, 1, none⟩ (.int .i64 (0))).setCell ⟨w.heap.size + 1, 2, none⟩ (.int .i64 (0)) = w9 at *
  obtain ⟨z0, z1, z2, _, _, _⟩ := zB
  dsimp only at z1 z2
  exact bodyPost_ret (v := .tuple #[.agg #[.slice (none) (0) (0), .int .i64 (0), .int .i64 (0)], .int .i64 (x)]) (by simp [results, Tryd.results82, go_sem, z0, z1, z2]) rfl ⟨⟨none, 0, 0, by first | (rw [HF.out]; done) | (rw [HF.out]; rfl), by rw [HF.out]; exact i9, hfr⟩, bw9⟩


set_option maxHeartbeats 2000000 in
theorem BRelease_bad (a : Option Addr) (n c : Nat) (b : PB) (who  : Int) (w : World) (h : Ints w a n c b.k) (hp : regE b who ≠ 0) :
    Calls Tryd.prog 81 #[bookV a n c b, .int .i64 who] w fun e w' => (∃ a' n' c', e = .returned (.tuple #[bookV a' n' c' (releaseB b who).1, .int .i64 (releaseB b who).2]) ∧ Ints w' a' n' c' (releaseB b who).1.k ∧ ∀ x, a' = some x → w.heap.size ≤ x.block) ∧ Below w.heap.size w w' := by
  have HF := hide (show releaseB b who = (zeroB, regE b who) by exact release_bad hp)
  have hx : (regE b who != 0) = true := by simpa using hp
  have hne := none_ne (w.heap.size + 1)
  have hfr := none_le w.heap.size
  clear hp
  unfold bookV
  go_enter Tryd.func81, Tryd.ntmps81
  go_wp2_with fail
  refine (checkRegistered_c _ _ _ b who _ (h.below (B := w.heap.size) (by (repeat first | exact bel0 | assumption | refine bel1 ?_ | refine bel2 ?_ | refine bel3 ?_ | refine belowT ?_ (by assumption) | refine bel5 ?_ (by simp; try omega))) (Nat.le_refl _))).mono ?_
  rintro e w1 ⟨rfl, hb1⟩
  obtain ⟨xP, xR, bw⟩ := boxes w a n c b
  replace xP := xP.below hb1
  replace xR := xR.below hb1
  replace bw := belowT bw hb1
  clear hb1
  obtain ⟨p0, p1, p2, _, _, _⟩ := id xP
  obtain ⟨r0, r1, r2, u0, u1, u2⟩ := id xR
  dsimp only at r1 r2
  generalize hy : regE b who = x at *
  clear hy
  go_wp2
  have zB := (xR).put (none) (0) (0) ⟨[], 0, 0⟩
  have bw9 := (((bw).setCell (p := ⟨w.heap.size + 1, 0, none⟩) (Nat.le_succ _) (.slice (none) (0) (0))).setCell (p := ⟨w.heap.size + 1, 1, none⟩) (Nat.le_succ _) (.int .i64 (0))).setCell (p := ⟨w.heap.size + 1, 2, none⟩) (Nat.le_succ _) (.int .i64 (0))
  have i9 := (((Ints.nilSlice w1).setCell ⟨w.heap.size + 1, 0, none⟩ (.slice (none) (0) (0)) hne).setCell ⟨w.heap.size + 1, 1, none⟩ (.int .i64 (0)) hne).setCell ⟨w.heap.size + 1, 2, none⟩ (.int .i64 (0)) hne
  dsimp only at zB
  generalize (((w1).setCell ⟨w.heap.size + 1, 0, none⟩ (.slice (none) (0) (0))).setCell ⟨w.heap.size + 1, 1, none⟩ (.int .i64 (0))).setCell ⟨w.heap.size + 1, 2, none⟩ (.int .i64 (0)) = w9 at *
  obtain ⟨z0, z1, z2, _, _, _⟩ := zB
  dsimp only at z1 z2
  exact bodyPost_ret (v := .tuple #[.agg #[.slice (none) (0) (0), .int .i64 (0), .int .i64 (0)], .int .i64 (x)]) (by simp [results, Tryd.results81, go_sem, z0, z1, z2]) rfl ⟨⟨none, 0, 0, by first | (rw [HF.out]; done) | (rw [HF.out]; rfl), by rw [HF.out]; exact i9, hfr⟩, bw9⟩


set_option maxHeartbeats 2000000 in
theorem BClear_bad (a : Option Addr) (n c : Nat) (b : PB) (who  : Int) (w : World) (h : Ints w a n c b.k) (hp : regE b who ≠ 0) :
    Calls Tryd.prog 83 #[bookV a n c b, .int .i64 who] w fun e w' => (∃ a' n' c', e = .returned (.tuple #[bookV a' n' c' (clearB b who).1, .int .i64 (clearB b who).2]) ∧ Ints w' a' n' c' (clearB b who).1.k ∧ ∀ x, a' = some x → w.heap.size ≤ x.block) ∧ Below w.heap.size w w' := by
  have HF := hide (show clearB b who = (zeroB, regE b who) by exact clear_bad hp)
  have hx : (regE b who != 0) = true := by simpa using hp
  have hne := none_ne (w.heap.size + 1)
  have hfr := none_le w.heap.size
  clear hp
  unfold bookV
  go_enter Tryd.func83, Tryd.ntmps83
  go_wp2_with fail
  refine (checkRegistered_c _ _ _ b who _ (h.below (B := w.heap.size) (by (repeat first | exact bel0 | assumption | refine bel1 ?_ | refine bel2 ?_ | refine bel3 ?_ | refine belowT ?_ (by assumption) | refine bel5 ?_ (by simp; try omega))) (Nat.le_refl _))).mono ?_
  rintro e w1 ⟨rfl, hb1⟩
  obtain ⟨xP, xR, bw⟩ := boxes w a n c b
  replace xP := xP.below hb1
  replace xR := xR.below hb1
  replace bw := belowT bw hb1
  clear hb1
  obtain ⟨p0, p1, p2, _, _, _⟩ := id xP
  obtain ⟨r0, r1, r2, u0, u1, u2⟩ := id xR
  dsimp only at r1 r2
  generalize hy : regE b who = x at *
  clear hy
  go_wp2
  have zB := (xR).put (none) (0) (0) ⟨[], 0, 0⟩
  have bw9 := (((bw).setCell (p := ⟨w.heap.size + 1, 0, none⟩) (Nat.le_succ _) (.slice (none) (0) (0))).setCell (p := ⟨w.heap.size + 1, 1, none⟩) (Nat.le_succ _) (.int .i64 (0))).setCell (p := ⟨w.heap.size + 1, 2, none⟩) (Nat.le_succ _) (.int .i64 (0))
  have i9 := (((Ints.nilSlice w1).setCell ⟨w.heap.size + 1, 0, none⟩ (.slice (none) (0) (0)) hne).setCell ⟨w.heap.size + 1, 1, none⟩ (.int .i64 (0)) hne).setCell ⟨w.heap.size + 1, 2, none⟩ (.int .i64 (0)) hne
  dsimp only at zB
  generalize (((w1).setCell ⟨w.heap.size + 1, 0, none⟩ (.slice (none) (0) (0))).setCell ⟨w.heap.size + 1, 1, none⟩ (.int .i64 (0))).setCell ⟨w.heap.size + 1, 2, none⟩ (.int .i64 (0)) = w9 at *
  obtain ⟨z0, z1, z2, _, _, _⟩ := zB
  dsimp only at z1 z2
  exact bodyPost_ret (v := .tuple #[.agg #[.slice (none) (0) (0), .int .i64 (0), .int .i64 (0)], .int .i64 (x)]) (by simp [results, Tryd.results83, go_sem, z0, z1, z2]) rfl ⟨⟨none, 0, 0, by first | (rw [HF.out]; done) | (rw [HF.out]; rfl), by rw [HF.out]; exact i9, hfr⟩, bw9⟩


set_option maxHeartbeats 2000000 in
theorem BRegister_rng (a : Option Addr) (n c : Nat) (b : PB) (who key : Int) (w : World) (h : Ints w a n c b.k) (hp : preB b who = 0) (hk : inB key 0 9 = false) :
    Calls Tryd.prog 79 #[bookV a n c b, .int .i64 who, .int .i64 key] w fun e w' => (∃ a' n' c', e = .returned (.tuple #[bookV a' n' c' (registerB b who key).1, .int .i64 (registerB b who key).2]) ∧ Ints w' a' n' c' (registerB b who key).1.k ∧ ∀ x, a' = some x → w.heap.size ≤ x.block) ∧ Below w.heap.size w w' := by
  have HF := hide (show registerB b who key = (zeroB, 3) by simp [registerB, hp, hk])
  have hne := none_ne (w.heap.size + 1)
  have hfr := none_le w.heap.size
  have HP := hide hp
  have HK := hide hk
  clear hp hk
  unfold bookV
  go_enter Tryd.func79, Tryd.ntmps79
  go_wp2_with fail
  refine (checkHand_c _ _ _ b who _ (h.below (B := w.heap.size) (by (repeat first | exact bel0 | assumption | refine bel1 ?_ | refine bel2 ?_ | refine bel3 ?_ | refine belowT ?_ (by assumption) | refine bel5 ?_ (by simp; try omega))) (Nat.le_refl _))).mono ?_
  rintro e w1 ⟨rfl, hb1⟩
  obtain ⟨xP, xR, bw⟩ := boxes w a n c b
  replace xP := xP.below hb1
  replace xR := xR.below hb1
  replace bw := belowT bw hb1
  clear hb1
  obtain ⟨p0, p1, p2, _, _, _⟩ := id xP
  obtain ⟨r0, r1, r2, u0, u1, u2⟩ := id xR
  dsimp only at r1 r2
  rw [HP.out]
  go_wp2_with (go_at_call 51; refine (bwithin_c _ _ _ _).mono ?_; rintro e w1 ⟨rfl, rfl⟩; rw [HK.out])
  have zB := (xR).put (none) (0) (0) ⟨[], 0, 0⟩
  have bw9 := (((bw).setCell (p := ⟨w.heap.size + 1, 0, none⟩) (Nat.le_succ _) (.slice (none) (0) (0))).setCell (p := ⟨w.heap.size + 1, 1, none⟩) (Nat.le_succ _) (.int .i64 (0))).setCell (p := ⟨w.heap.size + 1, 2, none⟩) (Nat.le_succ _) (.int .i64 (0))
  have i9 := (((Ints.nilSlice w1).setCell ⟨w.heap.size + 1, 0, none⟩ (.slice (none) (0) (0)) hne).setCell ⟨w.heap.size + 1, 1, none⟩ (.int .i64 (0)) hne).setCell ⟨w.heap.size + 1, 2, none⟩ (.int .i64 (0)) hne
  dsimp only at zB
  generalize (((w1).setCell ⟨w.heap.size + 1, 0, none⟩ (.slice (none) (0) (0))).setCell ⟨w.heap.size + 1, 1, none⟩ (.int .i64 (0))).setCell ⟨w.heap.size + 1, 2, none⟩ (.int .i64 (0)) = w9 at *
  obtain ⟨z0, z1, z2, _, _, _⟩ := zB
  dsimp only at z1 z2
  exact bodyPost_ret (v := .tuple #[.agg #[.slice (none) (0) (0), .int .i64 (0), .int .i64 (0)], .int .i64 (3)]) (by simp [results, Tryd.results79, go_sem, z0, z1, z2]) rfl ⟨⟨none, 0, 0, by first | (rw [HF.out]; done) | (rw [HF.out]; rfl), by rw [HF.out]; exact i9, hfr⟩, bw9⟩


set_option maxHeartbeats 2000000 in
theorem BReserve_rng (a : Option Addr) (n c : Nat) (b : PB) (who key : Int) (w : World) (h : Ints w a n c b.k) (hp : preB b who = 0) (hk : inB key 1 4 = false) :
    Calls Tryd.prog 80 #[bookV a n c b, .int .i64 who, .int .i64 key] w fun e w' => (∃ a' n' c', e = .returned (.tuple #[bookV a' n' c' (reserveB b who key).1, .int .i64 (reserveB b who key).2]) ∧ Ints w' a' n' c' (reserveB b who key).1.k ∧ ∀ x, a' = some x → w.heap.size ≤ x.block) ∧ Below w.heap.size w w' := by
  have HF := hide (show reserveB b who key = (zeroB, 3) by simp [reserveB, hp, hk])
  have hne := none_ne (w.heap.size + 1)
  have hfr := none_le w.heap.size
  have HP := hide hp
  have HK := hide hk
  clear hp hk
  unfold bookV
  go_enter Tryd.func80, Tryd.ntmps80
  go_wp2_with fail
  refine (checkHand_c _ _ _ b who _ (h.below (B := w.heap.size) (by (repeat first | exact bel0 | assumption | refine bel1 ?_ | refine bel2 ?_ | refine bel3 ?_ | refine belowT ?_ (by assumption) | refine bel5 ?_ (by simp; try omega))) (Nat.le_refl _))).mono ?_
  rintro e w1 ⟨rfl, hb1⟩
  obtain ⟨xP, xR, bw⟩ := boxes w a n c b
  replace xP := xP.below hb1
  replace xR := xR.below hb1
  replace bw := belowT bw hb1
  clear hb1
  obtain ⟨p0, p1, p2, _, _, _⟩ := id xP
  obtain ⟨r0, r1, r2, u0, u1, u2⟩ := id xR
  dsimp only at r1 r2
  rw [HP.out]
  go_wp2_with (go_at_call 51; refine (bwithin_c _ _ _ _).mono ?_; rintro e w1 ⟨rfl, rfl⟩; rw [HK.out])
  have zB := (xR).put (none) (0) (0) ⟨[], 0, 0⟩
  have bw9 := (((bw).setCell (p := ⟨w.heap.size + 1, 0, none⟩) (Nat.le_succ _) (.slice (none) (0) (0))).setCell (p := ⟨w.heap.size + 1, 1, none⟩) (Nat.le_succ _) (.int .i64 (0))).setCell (p := ⟨w.heap.size + 1, 2, none⟩) (Nat.le_succ _) (.int .i64 (0))
  have i9 := (((Ints.nilSlice w1).setCell ⟨w.heap.size + 1, 0, none⟩ (.slice (none) (0) (0)) hne).setCell ⟨w.heap.size + 1, 1, none⟩ (.int .i64 (0)) hne).setCell ⟨w.heap.size + 1, 2, none⟩ (.int .i64 (0)) hne
  dsimp only at zB
  generalize (((w1).setCell ⟨w.heap.size + 1, 0, none⟩ (.slice (none) (0) (0))).setCell ⟨w.heap.size + 1, 1, none⟩ (.int .i64 (0))).setCell ⟨w.heap.size + 1, 2, none⟩ (.int .i64 (0)) = w9 at *
  obtain ⟨z0, z1, z2, _, _, _⟩ := zB
  dsimp only at z1 z2
  exact bodyPost_ret (v := .tuple #[.agg #[.slice (none) (0) (0), .int .i64 (0), .int .i64 (0)], .int .i64 (3)]) (by simp [results, Tryd.results80, go_sem, z0, z1, z2]) rfl ⟨⟨none, 0, 0, by first | (rw [HF.out]; done) | (rw [HF.out]; rfl), by rw [HF.out]; exact i9, hfr⟩, bw9⟩


set_option maxHeartbeats 2000000 in
theorem BPreempt_rng (a : Option Addr) (n c : Nat) (b : PB) (who key : Int) (w : World) (h : Ints w a n c b.k) (hp : preB b who = 0) (hk : inB key 1 9 = false) :
    Calls Tryd.prog 82 #[bookV a n c b, .int .i64 who, .int .i64 key] w fun e w' => (∃ a' n' c', e = .returned (.tuple #[bookV a' n' c' (preemptB b who key).1, .int .i64 (preemptB b who key).2]) ∧ Ints w' a' n' c' (preemptB b who key).1.k ∧ ∀ x, a' = some x → w.heap.size ≤ x.block) ∧ Below w.heap.size w w' := by
  have HF := hide (show preemptB b who key = (zeroB, 3) by simp [preemptB, hp, hk])
  have hne := none_ne (w.heap.size + 1)
  have hfr := none_le w.heap.size
  have HP := hide hp
  have HK := hide hk
  clear hp hk
  unfold bookV
  go_enter Tryd.func82, Tryd.ntmps82
  go_wp2_with fail
  refine (checkHand_c _ _ _ b who _ (h.below (B := w.heap.size) (by (repeat first | exact bel0 | assumption | refine bel1 ?_ | refine bel2 ?_ | refine bel3 ?_ | refine belowT ?_ (by assumption) | refine bel5 ?_ (by simp; try omega))) (Nat.le_refl _))).mono ?_
  rintro e w1 ⟨rfl, hb1⟩
  obtain ⟨xP, xR, bw⟩ := boxes w a n c b
  replace xP := xP.below hb1
  replace xR := xR.below hb1
  replace bw := belowT bw hb1
  clear hb1
  obtain ⟨p0, p1, p2, _, _, _⟩ := id xP
  obtain ⟨r0, r1, r2, u0, u1, u2⟩ := id xR
  dsimp only at r1 r2
  rw [HP.out]
  go_wp2_with (go_at_call 51; refine (bwithin_c _ _ _ _).mono ?_; rintro e w1 ⟨rfl, rfl⟩; rw [HK.out])
  have zB := (xR).put (none) (0) (0) ⟨[], 0, 0⟩
  have bw9 := (((bw).setCell (p := ⟨w.heap.size + 1, 0, none⟩) (Nat.le_succ _) (.slice (none) (0) (0))).setCell (p := ⟨w.heap.size + 1, 1, none⟩) (Nat.le_succ _) (.int .i64 (0))).setCell (p := ⟨w.heap.size + 1, 2, none⟩) (Nat.le_succ _) (.int .i64 (0))
  have i9 := (((Ints.nilSlice w1).setCell ⟨w.heap.size + 1, 0, none⟩ (.slice (none) (0) (0)) hne).setCell ⟨w.heap.size + 1, 1, none⟩ (.int .i64 (0)) hne).setCell ⟨w.heap.size + 1, 2, none⟩ (.int .i64 (0)) hne
  dsimp only at zB
  generalize (((w1).setCell ⟨w.heap.size + 1, 0, none⟩ (.slice (none) (0) (0))).setCell ⟨w.heap.size + 1, 1, none⟩ (.int .i64 (0))).setCell ⟨w.heap.size + 1, 2, none⟩ (.int .i64 (0)) = w9 at *
  obtain ⟨z0, z1, z2, _, _, _⟩ := zB
  dsimp only at z1 z2
  exact bodyPost_ret (v := .tuple #[.agg #[.slice (none) (0) (0), .int .i64 (0), .int .i64 (0)], .int .i64 (3)]) (by simp [results, Tryd.results82, go_sem, z0, z1, z2]) rfl ⟨⟨none, 0, 0, by first | (rw [HF.out]; done) | (rw [HF.out]; rfl), by rw [HF.out]; exact i9, hfr⟩, bw9⟩


end Go.Proofs.YtcmladgldjcdmaaDoor
