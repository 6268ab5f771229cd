/- The contract of the document's own OnBook, errors and all in one, kind by kind; no condition but that the keys read as a list. -/
import Derived.Test.YtogpbihmofbfjaaK3
import Derived.Test.YtogpbihmofbfjaaK4
namespace Go.Proofs.Ytogpbihmofbfjaa
open Go.RowKit
set_option linter.unusedVariables false
set_option maxRecDepth 100000
set_option linter.unusedSimpArgs false

set_option maxRecDepth 100000 in
set_option maxHeartbeats 2000000 in
theorem OnB_bad (kd : Int) (a : Option Addr) (n c : Nat) (b : PB) (who key : Int) (w : World) (h : Ints w a n c b.k) (hp : preB b who ≠ 0) :
    Calls Try.prog 11 #[bookV a n c b, .int .i64 kd, .int .i64 who, .int .i64 key] w fun e w' => e = .returned (.tuple #[bookV none 0 0 zeroB, .int .i64 (preB b who)]) ∧ Below w.heap.size w w' := by
  by_cases hc : checkB b = 0
  · have hk : inB who 0 2 = false := by
      cases hk : inB who 0 2
      · rfl
      · exact absurd (by simp [preB, hc, hk]) hp
    have HP := hide (show preB b who = 5 by simp [preB, hc, hk])
    have HC := hide hc
    clear hp hc
    unfold bookV
    go_enter Try.func11, Try.ntmps11
    go_wp2_with fail
    refine (CheckBook_c a n c b _ (h.below (B := w.heap.size) (by (repeat first | exact bel0 | assumption | refine bel1 ?_ | refine bel2 ?_ | refine bel3 ?_ | refine belowT ?_ (by assumption) | refine bel5 ?_ (by simp; try omega))) (Nat.le_refl _))).mono ?_
    rintro e w1 ⟨rfl, hb1⟩
    rw [HC.out]
    have r0 := keepc hb1 (p := ⟨w.heap.size + 1, 0, none⟩) (u := .slice none 0 0) (by go_simp)
    have r1 := keepc hb1 (p := ⟨w.heap.size + 1, 1, none⟩) (u := .int .i64 0) (by go_simp)
    have r2 := keepc hb1 (p := ⟨w.heap.size + 1, 2, none⟩) (u := .int .i64 0) (by go_simp)
    have u0 := keepf hb1 (p := ⟨w.heap.size + 1, 0, none⟩) (u := .slice none 0 0) (by go_simp) (b := false) (by go_simp)
    have u1 := keepf hb1 (p := ⟨w.heap.size + 1, 1, none⟩) (u := .int .i64 0) (by go_simp) (b := false) (by go_simp)
    have u2 := keepf hb1 (p := ⟨w.heap.size + 1, 2, none⟩) (u := .int .i64 0) (by go_simp) (b := false) (by go_simp)
    have z1 : w.heap.size + 1 < w1.heap.size := World.block_lt_of_cell? _ _ r0
    have bw1 : Below w.heap.size w w1 := by (repeat first | exact bel0 | assumption | refine bel1 ?_ | refine bel2 ?_ | refine bel3 ?_ | refine belowT ?_ (by assumption) | refine bel5 ?_ (by simp; try omega))
    clear hb1
    go_wp2_with (first | (go_at_call 29; refine (in_c _ _ _ _).mono ?_; rintro e w1 ⟨rfl, rfl⟩) | (go_at_call 28; refine (badB_c _ _).mono ?_; rintro e w9 ⟨rfl, hb9⟩; (replace r0 := keepc hb9 (p := ⟨w.heap.size + 1, 0, none⟩) (u := .slice none 0 0) (by first | exact r0 | go_simp)); (replace r1 := keepc hb9 (p := ⟨w.heap.size + 1, 1, none⟩) (u := .int .i64 0) (by first | exact r1 | go_simp)); (replace r2 := keepc hb9 (p := ⟨w.heap.size + 1, 2, none⟩) (u := .int .i64 0) (by first | exact r2 | go_simp)); (replace u0 : w9.frozen? ⟨w.heap.size + 1, 0, none⟩ = false := (hb9.frozen (p := ⟨w.heap.size + 1, 0, none⟩) (by first | (simp; done) | (simp; omega) | (simp [World.setCell]; omega))).trans (by first | exact u0 | go_simp)); (replace u1 : w9.frozen? ⟨w.heap.size + 1, 1, none⟩ = false := (hb9.frozen (p := ⟨w.heap.size + 1, 1, none⟩) (by first | (simp; done) | (simp; omega) | (simp [World.setCell]; omega))).trans (by first | exact u1 | go_simp)); (replace u2 : w9.frozen? ⟨w.heap.size + 1, 2, none⟩ = false := (hb9.frozen (p := ⟨w.heap.size + 1, 2, none⟩) (by first | (simp; done) | (simp; omega) | (simp [World.setCell]; omega))).trans (by first | exact u2 | go_simp))))
    refine bodyPost_ret (v := .tuple #[.agg #[.slice none 0 0, .int .i64 0, .int .i64 0], .int .i64 5]) (by simp [results, Try.results11, go_sem, r0, r1, r2]) rfl ⟨by rw [HP.out]; rfl, ?_⟩
    repeat (refine Below.setCell ?_ (by first | exact Nat.le_refl _ | exact Nat.le_succ _) _)
    exact belowT bw1 hb9
  · have HP := hide (show preB b who = checkB b by simp [preB, hc])
    have hx : (checkB b != 0) = true := by simpa using hc
    clear hp hc
    unfold bookV
    go_enter Try.func11, Try.ntmps11
    go_wp2_with fail
    refine (CheckBook_c a n c b _ (h.below (B := w.heap.size) (by (repeat first | exact bel0 | assumption | refine bel1 ?_ | refine bel2 ?_ | refine bel3 ?_ | refine belowT ?_ (by assumption) | refine bel5 ?_ (by simp; try omega))) (Nat.le_refl _))).mono ?_
    rintro e w1 ⟨rfl, hb1⟩
    generalize hy : checkB b = y at *
    clear hy
    have r0 := keepc hb1 (p := ⟨w.heap.size + 1, 0, none⟩) (u := .slice none 0 0) (by go_simp)
    have r1 := keepc hb1 (p := ⟨w.heap.size + 1, 1, none⟩) (u := .int .i64 0) (by go_simp)
    have r2 := keepc hb1 (p := ⟨w.heap.size + 1, 2, none⟩) (u := .int .i64 0) (by go_simp)
    have u0 := keepf hb1 (p := ⟨w.heap.size + 1, 0, none⟩) (u := .slice none 0 0) (by go_simp) (b := false) (by go_simp)
    have u1 := keepf hb1 (p := ⟨w.heap.size + 1, 1, none⟩) (u := .int .i64 0) (by go_simp) (b := false) (by go_simp)
    have u2 := keepf hb1 (p := ⟨w.heap.size + 1, 2, none⟩) (u := .int .i64 0) (by go_simp) (b := false) (by go_simp)
    have z1 : w.heap.size + 1 < w1.heap.size := World.block_lt_of_cell? _ _ r0
    have bw1 : Below w.heap.size w w1 := by (repeat first | exact bel0 | assumption | refine bel1 ?_ | refine bel2 ?_ | refine bel3 ?_ | refine belowT ?_ (by assumption) | refine bel5 ?_ (by simp; try omega))
    clear hb1
    go_wp2_with (first | (go_at_call 28; refine (badB_c _ _).mono ?_; rintro e w9 ⟨rfl, hb9⟩; (replace r0 := keepc hb9 (p := ⟨w.heap.size + 1, 0, none⟩) (u := .slice none 0 0) (by first | exact r0 | go_simp)); (replace r1 := keepc hb9 (p := ⟨w.heap.size + 1, 1, none⟩) (u := .int .i64 0) (by first | exact r1 | go_simp)); (replace r2 := keepc hb9 (p := ⟨w.heap.size + 1, 2, none⟩) (u := .int .i64 0) (by first | exact r2 | go_simp)); (replace u0 : w9.frozen? ⟨w.heap.size + 1, 0, none⟩ = false := (hb9.frozen (p := ⟨w.heap.size + 1, 0, none⟩) (by first | (simp; done) | (simp; omega) | (simp [World.setCell]; omega))).trans (by first | exact u0 | go_simp)); (replace u1 : w9.frozen? ⟨w.heap.size + 1, 1, none⟩ = false := (hb9.frozen (p := ⟨w.heap.size + 1, 1, none⟩) (by first | (simp; done) | (simp; omega) | (simp [World.setCell]; omega))).trans (by first | exact u1 | go_simp)); (replace u2 : w9.frozen? ⟨w.heap.size + 1, 2, none⟩ = false := (hb9.frozen (p := ⟨w.heap.size + 1, 2, none⟩) (by first | (simp; done) | (simp; omega) | (simp [World.setCell]; omega))).trans (by first | exact u2 | go_simp))))
    refine bodyPost_ret (v := .tuple #[.agg #[.slice none 0 0, .int .i64 0, .int .i64 0], .int .i64 y]) (by simp [results, Try.results11, go_sem, r0, r1, r2]) rfl ⟨by rw [HP.out]; rfl, ?_⟩
    repeat (refine Below.setCell ?_ (by first | exact Nat.le_refl _ | exact Nat.le_succ _) _)
    exact belowT bw1 hb9

theorem preB_hand {b : PB} {who : Int} (h : preB b who = 0) : checkB b = 0 ∧ ∃ (j : Nat), who = j ∧ j < 3 := by
  unfold preB at h
  by_cases hc : checkB b = 0
  · simp [hc] at h
    refine ⟨hc, who.toNat, ?_, ?_⟩ <;> simp [inB] at h <;> omega
  · simp [hc] at h

theorem OnB_reg_f (a : Option Addr) (n c : Nat) (b : PB) (who key : Int) (w : World) (h : Ints w a n c b.k) :
    Calls Try.prog 11 #[bookV a n c b, .int .i64 8, .int .i64 who, .int .i64 key] w fun e w' =>
      (∃ a' n' c', e = .returned (.tuple #[bookV a' n' c' (registerB b who key).1, .int .i64 (registerB b who key).2]) ∧ Ints w' a' n' c' (registerB b who key).1.k ∧ ∀ x, a' = some x → w.heap.size ≤ x.block) ∧ Below w.heap.size w w' := by
  by_cases hp : preB b who = 0
  · obtain ⟨hok, j, rfl, hj⟩ := preB_hand hp
    obtain ⟨l, hh, tt⟩ := b
    obtain ⟨x, y, z, e, _⟩ := checkB_ok hok
    dsimp only at e h
    subst e
    obtain rfl : n = 3 := by rw [← h.len]; rfl
    exact OnB_reg a c x y z hh tt j key w h hok hj
  · refine (OnB_bad 8 a n c b who key w h hp).mono ?_
    rintro e w' ⟨rfl, hb⟩
    rw [show registerB b who key = (zeroB, preB b who) by simp [registerB, hp]]
    exact ⟨⟨none, 0, 0, rfl, Ints.nilSlice _, fun x e => by cases e⟩, hb⟩

theorem OnB_res_f (a : Option Addr) (n c : Nat) (b : PB) (who key : Int) (w : World) (h : Ints w a n c b.k) :
    Calls Try.prog 11 #[bookV a n c b, .int .i64 9, .int .i64 who, .int .i64 key] w fun e w' =>
      (∃ a' n' c', e = .returned (.tuple #[bookV a' n' c' (reserveB b who key).1, .int .i64 (reserveB b who key).2]) ∧ Ints w' a' n' c' (reserveB b who key).1.k ∧ ∀ x, a' = some x → w.heap.size ≤ x.block) ∧ Below w.heap.size w w' := by
  by_cases hp : preB b who = 0
  · obtain ⟨hok, j, rfl, hj⟩ := preB_hand hp
    obtain ⟨l, hh, tt⟩ := b
    obtain ⟨x, y, z, e, _⟩ := checkB_ok hok
    dsimp only at e h
    subst e
    obtain rfl : n = 3 := by rw [← h.len]; rfl
    exact OnB_res a c x y z hh tt j key w h hok hj
  · refine (OnB_bad 9 a n c b who key w h hp).mono ?_
    rintro e w' ⟨rfl, hb⟩
    rw [show reserveB b who key = (zeroB, preB b who) by simp [reserveB, hp]]
    exact ⟨⟨none, 0, 0, rfl, Ints.nilSlice _, fun x e => by cases e⟩, hb⟩

theorem OnB_rel_f (a : Option Addr) (n c : Nat) (b : PB) (who key : Int) (w : World) (h : Ints w a n c b.k) :
    Calls Try.prog 11 #[bookV a n c b, .int .i64 10, .int .i64 who, .int .i64 key] w fun e w' =>
      (∃ a' n' c', e = .returned (.tuple #[bookV a' n' c' (releaseB b who).1, .int .i64 (releaseB b who).2]) ∧ Ints w' a' n' c' (releaseB b who).1.k ∧ ∀ x, a' = some x → w.heap.size ≤ x.block) ∧ Below w.heap.size w w' := by
  by_cases hp : preB b who = 0
  · obtain ⟨hok, j, rfl, hj⟩ := preB_hand hp
    obtain ⟨l, hh, tt⟩ := b
    obtain ⟨x, y, z, e, _⟩ := checkB_ok hok
    dsimp only at e h
    subst e
    obtain rfl : n = 3 := by rw [← h.len]; rfl
    exact OnB_rel a c x y z hh tt j key w h hok hj
  · refine (OnB_bad 10 a n c b who key w h hp).mono ?_
    rintro e w' ⟨rfl, hb⟩
    rw [show releaseB b who = (zeroB, preB b who) by simp [releaseB, hp]]
    exact ⟨⟨none, 0, 0, rfl, Ints.nilSlice _, fun x e => by cases e⟩, hb⟩

theorem OnB_pre_f (a : Option Addr) (n c : Nat) (b : PB) (who key : Int) (w : World) (h : Ints w a n c b.k) :
    Calls Try.prog 11 #[bookV a n c b, .int .i64 11, .int .i64 who, .int .i64 key] w fun e w' =>
      (∃ a' n' c', e = .returned (.tuple #[bookV a' n' c' (preemptB b who key).1, .int .i64 (preemptB b who key).2]) ∧ Ints w' a' n' c' (preemptB b who key).1.k ∧ ∀ x, a' = some x → w.heap.size ≤ x.block) ∧ Below w.heap.size w w' := by
  by_cases hp : preB b who = 0
  · obtain ⟨hok, j, rfl, hj⟩ := preB_hand hp
    obtain ⟨l, hh, tt⟩ := b
    obtain ⟨x, y, z, e, _⟩ := checkB_ok hok
    dsimp only at e h
    subst e
    obtain rfl : n = 3 := by rw [← h.len]; rfl
    exact OnB_pre a c x y z hh tt j key w h hok hj
  · refine (OnB_bad 11 a n c b who key w h hp).mono ?_
    rintro e w' ⟨rfl, hb⟩
    rw [show preemptB b who key = (zeroB, preB b who) by simp [preemptB, hp]]
    exact ⟨⟨none, 0, 0, rfl, Ints.nilSlice _, fun x e => by cases e⟩, hb⟩

theorem OnB_clr_f (a : Option Addr) (n c : Nat) (b : PB) (who key : Int) (w : World) (h : Ints w a n c b.k) :
    Calls Try.prog 11 #[bookV a n c b, .int .i64 12, .int .i64 who, .int .i64 key] w fun e w' =>
      (∃ a' n' c', e = .returned (.tuple #[bookV a' n' c' (clearB b who).1, .int .i64 (clearB b who).2]) ∧ Ints w' a' n' c' (clearB b who).1.k ∧ ∀ x, a' = some x → w.heap.size ≤ x.block) ∧ Below w.heap.size w w' := by
  by_cases hp : preB b who = 0
  · obtain ⟨hok, j, rfl, hj⟩ := preB_hand hp
    obtain ⟨l, hh, tt⟩ := b
    obtain ⟨x, y, z, e, _⟩ := checkB_ok hok
    dsimp only at e h
    subst e
    obtain rfl : n = 3 := by rw [← h.len]; rfl
    exact OnB_clr a c x y z hh tt j key w h hok hj
  · refine (OnB_bad 12 a n c b who key w h hp).mono ?_
    rintro e w' ⟨rfl, hb⟩
    rw [show clearB b who = (zeroB, preB b who) by simp [clearB, hp]]
    exact ⟨⟨none, 0, 0, rfl, Ints.nilSlice _, fun x e => by cases e⟩, hb⟩

theorem OnB_reg_u (a : Option Addr) (n c : Nat) (b : PB) (who key : Int) (w : World) (h : Ints w a n c b.k) :
    Calls Try.prog 11 #[bookV a n c b, .int .i64 8, .int .i64 who, .int .i64 key] w fun e w' =>
      (∃ a' n' c', e = .returned (.tuple #[bookV a' n' c' (registerB b who key).1, .int .i64 (registerB b who key).2]) ∧ Ints w' a' n' c' (registerB b who key).1.k) ∧ Below w.heap.size w w' :=
  (OnB_reg_f a n c b who key w h).mono fun e w' ⟨⟨a', n', c', he, hi, _⟩, hb⟩ => ⟨⟨a', n', c', he, hi⟩, hb⟩

theorem OnB_res_u (a : Option Addr) (n c : Nat) (b : PB) (who key : Int) (w : World) (h : Ints w a n c b.k) :
    Calls Try.prog 11 #[bookV a n c b, .int .i64 9, .int .i64 who, .int .i64 key] w fun e w' =>
      (∃ a' n' c', e = .returned (.tuple #[bookV a' n' c' (reserveB b who key).1, .int .i64 (reserveB b who key).2]) ∧ Ints w' a' n' c' (reserveB b who key).1.k) ∧ Below w.heap.size w w' :=
  (OnB_res_f a n c b who key w h).mono fun e w' ⟨⟨a', n', c', he, hi, _⟩, hb⟩ => ⟨⟨a', n', c', he, hi⟩, hb⟩

theorem OnB_rel_u (a : Option Addr) (n c : Nat) (b : PB) (who key : Int) (w : World) (h : Ints w a n c b.k) :
    Calls Try.prog 11 #[bookV a n c b, .int .i64 10, .int .i64 who, .int .i64 key] w fun e w' =>
      (∃ a' n' c', e = .returned (.tuple #[bookV a' n' c' (releaseB b who).1, .int .i64 (releaseB b who).2]) ∧ Ints w' a' n' c' (releaseB b who).1.k) ∧ Below w.heap.size w w' :=
  (OnB_rel_f a n c b who key w h).mono fun e w' ⟨⟨a', n', c', he, hi, _⟩, hb⟩ => ⟨⟨a', n', c', he, hi⟩, hb⟩

theorem OnB_pre_u (a : Option Addr) (n c : Nat) (b : PB) (who key : Int) (w : World) (h : Ints w a n c b.k) :
    Calls Try.prog 11 #[bookV a n c b, .int .i64 11, .int .i64 who, .int .i64 key] w fun e w' =>
      (∃ a' n' c', e = .returned (.tuple #[bookV a' n' c' (preemptB b who key).1, .int .i64 (preemptB b who key).2]) ∧ Ints w' a' n' c' (preemptB b who key).1.k) ∧ Below w.heap.size w w' :=
  (OnB_pre_f a n c b who key w h).mono fun e w' ⟨⟨a', n', c', he, hi, _⟩, hb⟩ => ⟨⟨a', n', c', he, hi⟩, hb⟩

theorem OnB_clr_u (a : Option Addr) (n c : Nat) (b : PB) (who key : Int) (w : World) (h : Ints w a n c b.k) :
    Calls Try.prog 11 #[bookV a n c b, .int .i64 12, .int .i64 who, .int .i64 key] w fun e w' =>
      (∃ a' n' c', e = .returned (.tuple #[bookV a' n' c' (clearB b who).1, .int .i64 (clearB b who).2]) ∧ Ints w' a' n' c' (clearB b who).1.k) ∧ Below w.heap.size w w' :=
  (OnB_clr_f a n c b who key w h).mono fun e w' ⟨⟨a', n', c', he, hi, _⟩, hb⟩ => ⟨⟨a', n', c', he, hi⟩, hb⟩

end Go.Proofs.Ytogpbihmofbfjaa
