/- The contract of the document's own OnBook, errors and all in one, kind by kind; no condition but that the keys read as a list. -/
import Derived.Test.YtkamnbigfdbgbaaGreatDoorDeskSaysG26
import Derived.Test.YtkamnbigfdbgbaaGreatDoorDeskSaysG27
import Derived.Test.YtkamnbigfdbgbaaGreatDoorDeskSaysG23
import Derived.Test.YtkamnbigfdbgbaaGreatDoorDeskSaysG19
import Derived.Deep.DeepCutAuto
namespace Go.Proofs.YtkamnbigfdbgbaaGreatDoor
open Go.RowKit
set_option linter.unusedVariables false
set_option maxRecDepth 100000
set_option linter.unusedSimpArgs false

set_option maxRecDepth 100000 in
set_option maxHeartbeats 2000000 in
theorem OnB_bad (kd : Int) (a : Option Addr) (n c : Nat) (b : PB) (who key : Int) (w : World) (h : Ints w a n c b.k) (hp : preB b who ≠ 0) :
    Calls Tryz.prog 37 #[bookV a n c b, .int .i64 kd, .int .i64 who, .int .i64 key] w fun e w' => e = .returned (.tuple #[bookV none 0 0 zeroB, .int .i64 (preB b who)]) ∧ Below w.heap.size w w' := by
  by_cases hc : checkB b = 0
  · have hk : inB who 0 2 = false := by
      cases hk : inB who 0 2
      · rfl
      · exact absurd (by simp [preB, hc, hk]) hp
    have HP := hide (show preB b who = 5 by simp [preB, hc, hk])
    have HC := hide hc
    clear hp hc
    unfold bookV
    go_enter Tryz.func37, Tryz.ntmps37
    go_wp2_with fail
    refine (CheckBook_c a n c b _ (h.below (B := w.heap.size) (by (repeat first | exact bel0 | assumption | refine bel1 ?_ | refine bel2 ?_ | refine bel3 ?_ | refine belowT ?_ (by assumption) | refine bel5 ?_ (by simp; try omega))) (Nat.le_refl _))).mono ?_
    rintro e w1 ⟨rfl, hb1⟩
    rw [HC.out]
    have r0 := keepc hb1 (p := ⟨w.heap.size + 1, 0, none⟩) (u := .slice none 0 0) (by go_simp)
    have r1 := keepc hb1 (p := ⟨w.heap.size + 1, 1, none⟩) (u := .int .i64 0) (by go_simp)
    have r2 := keepc hb1 (p := ⟨w.heap.size + 1, 2, none⟩) (u := .int .i64 0) (by go_simp)
    have u0 := keepf hb1 (p := ⟨w.heap.size + 1, 0, none⟩) (u := .slice none 0 0) (by go_simp) (b := false) (by go_simp)
    have u1 := keepf hb1 (p := ⟨w.heap.size + 1, 1, none⟩) (u := .int .i64 0) (by go_simp) (b := false) (by go_simp)
    have u2 := keepf hb1 (p := ⟨w.heap.size + 1, 2, none⟩) (u := .int .i64 0) (by go_simp) (b := false) (by go_simp)
    have z1 : w.heap.size + 1 < w1.heap.size := World.block_lt_of_cell? _ _ r0
    have bw1 : Below w.heap.size w w1 := by (repeat first | exact bel0 | assumption | refine bel1 ?_ | refine bel2 ?_ | refine bel3 ?_ | refine belowT ?_ (by assumption) | refine bel5 ?_ (by simp; try omega))
    clear hb1
    go_wp2_with (first | (go_at_call 26; refine (in_c _ _ _ _).mono ?_; rintro e w1 ⟨rfl, rfl⟩) | (go_at_call 60; refine (badB_c _ _).mono ?_; rintro e w9 ⟨rfl, hb9⟩; (replace r0 := keepc hb9 (p := ⟨w.heap.size + 1, 0, none⟩) (u := .slice none 0 0) (by first | exact r0 | go_simp)); (replace r1 := keepc hb9 (p := ⟨w.heap.size + 1, 1, none⟩) (u := .int .i64 0) (by first | exact r1 | go_simp)); (replace r2 := keepc hb9 (p := ⟨w.heap.size + 1, 2, none⟩) (u := .int .i64 0) (by first | exact r2 | go_simp)); (replace u0 : w9.frozen? ⟨w.heap.size + 1, 0, none⟩ = false := (hb9.frozen (p := ⟨w.heap.size + 1, 0, none⟩) (by first | (simp; done) | (simp; omega) | (simp [World.setCell]; omega))).trans (by first | exact u0 | go_simp)); (replace u1 : w9.frozen? ⟨w.heap.size + 1, 1, none⟩ = false := (hb9.frozen (p := ⟨w.heap.size + 1, 1, none⟩) (by first | (simp; done) | (simp; omega) | (simp [World.setCell]; omega))).trans (by first | exact u1 | go_simp)); (replace u2 : w9.frozen? ⟨w.heap.size + 1, 2, none⟩ = false := (hb9.frozen (p := ⟨w.heap.size + 1, 2, none⟩) (by first | (simp; done) | (simp; omega) | (simp [World.setCell]; omega))).trans (by first | exact u2 | go_simp))))
    refine bodyPost_ret (v := .tuple #[.agg #[.slice none 0 0, .int .i64 0, .int .i64 0], .int .i64 5]) (by simp [results, Tryz.results37, go_sem, r0, r1, r2]) rfl ⟨by rw [HP.out]; rfl, ?_⟩
    repeat (refine Below.setCell ?_ (by first | exact Nat.le_refl _ | exact Nat.le_succ _) _)
    exact belowT bw1 hb9
  · have HP := hide (show preB b who = checkB b by simp [preB, hc])
    have hx : (checkB b != 0) = true := by simpa using hc
    clear hp hc
    unfold bookV
    go_enter Tryz.func37, Tryz.ntmps37
    go_wp2_with fail
    refine (CheckBook_c a n c b _ (h.below (B := w.heap.size) (by (repeat first | exact bel0 | assumption | refine bel1 ?_ | refine bel2 ?_ | refine bel3 ?_ | refine belowT ?_ (by assumption) | refine bel5 ?_ (by simp; try omega))) (Nat.le_refl _))).mono ?_
    rintro e w1 ⟨rfl, hb1⟩
    generalize hy : checkB b = y at *
    clear hy
    have r0 := keepc hb1 (p := ⟨w.heap.size + 1, 0, none⟩) (u := .slice none 0 0) (by go_simp)
    have r1 := keepc hb1 (p := ⟨w.heap.size + 1, 1, none⟩) (u := .int .i64 0) (by go_simp)
    have r2 := keepc hb1 (p := ⟨w.heap.size + 1, 2, none⟩) (u := .int .i64 0) (by go_simp)
    have u0 := keepf hb1 (p := ⟨w.heap.size + 1, 0, none⟩) (u := .slice none 0 0) (by go_simp) (b := false) (by go_simp)
    have u1 := keepf hb1 (p := ⟨w.heap.size + 1, 1, none⟩) (u := .int .i64 0) (by go_simp) (b := false) (by go_simp)
    have u2 := keepf hb1 (p := ⟨w.heap.size + 1, 2, none⟩) (u := .int .i64 0) (by go_simp) (b := false) (by go_simp)
    have z1 : w.heap.size + 1 < w1.heap.size := World.block_lt_of_cell? _ _ r0
    have bw1 : Below w.heap.size w w1 := by (repeat first | exact bel0 | assumption | refine bel1 ?_ | refine bel2 ?_ | refine bel3 ?_ | refine belowT ?_ (by assumption) | refine bel5 ?_ (by simp; try omega))
    clear hb1
    go_wp2_with (first | (go_at_call 60; refine (badB_c _ _).mono ?_; rintro e w9 ⟨rfl, hb9⟩; (replace r0 := keepc hb9 (p := ⟨w.heap.size + 1, 0, none⟩) (u := .slice none 0 0) (by first | exact r0 | go_simp)); (replace r1 := keepc hb9 (p := ⟨w.heap.size + 1, 1, none⟩) (u := .int .i64 0) (by first | exact r1 | go_simp)); (replace r2 := keepc hb9 (p := ⟨w.heap.size + 1, 2, none⟩) (u := .int .i64 0) (by first | exact r2 | go_simp)); (replace u0 : w9.frozen? ⟨w.heap.size + 1, 0, none⟩ = false := (hb9.frozen (p := ⟨w.heap.size + 1, 0, none⟩) (by first | (simp; done) | (simp; omega) | (simp [World.setCell]; omega))).trans (by first | exact u0 | go_simp)); (replace u1 : w9.frozen? ⟨w.heap.size + 1, 1, none⟩ = false := (hb9.frozen (p := ⟨w.heap.size + 1, 1, none⟩) (by first | (simp; done) | (simp; omega) | (simp [World.setCell]; omega))).trans (by first | exact u1 | go_simp)); (replace u2 : w9.frozen? ⟨w.heap.size + 1, 2, none⟩ = false := (hb9.frozen (p := ⟨w.heap.size + 1, 2, none⟩) (by first | (simp; done) | (simp; omega) | (simp [World.setCell]; omega))).trans (by first | exact u2 | go_simp))))
    refine bodyPost_ret (v := .tuple #[.agg #[.slice none 0 0, .int .i64 0, .int .i64 0], .int .i64 y]) (by simp [results, Tryz.results37, go_sem, r0, r1, r2]) rfl ⟨by rw [HP.out]; rfl, ?_⟩
    repeat (refine Below.setCell ?_ (by first | exact Nat.le_refl _ | exact Nat.le_succ _) _)
    exact belowT bw1 hb9

theorem preB_hand {b : PB} {who : Int} (h : preB b who = 0) : checkB b = 0 ∧ ∃ (j : Nat), who = j ∧ j < 3 := by
  unfold preB at h
  by_cases hc : checkB b = 0
  · simp [hc] at h
    refine ⟨hc, who.toNat, ?_, ?_⟩ <;> simp [inB] at h <;> omega
  · simp [hc] at h

theorem OnB_reg_f (a : Option Addr) (n c : Nat) (b : PB) (who key : Int) (w : World) (h : Ints w a n c b.k) :
    Calls Tryz.prog 37 #[bookV a n c b, .int .i64 8, .int .i64 who, .int .i64 key] w fun e w' =>
      (∃ a' n' c', e = .returned (.tuple #[bookV a' n' c' (registerB b who key).1, .int .i64 (registerB b who key).2]) ∧ Ints w' a' n' c' (registerB b who key).1.k ∧ ∀ x, a' = some x → w.heap.size ≤ x.block) ∧ Below w.heap.size w w' := by
  by_cases hp : preB b who = 0
  · obtain ⟨hok, j, rfl, hj⟩ := preB_hand hp
    obtain ⟨l, hh, tt⟩ := b
    obtain ⟨x, y, z, e, _⟩ := checkB_ok hok
    dsimp only at e h
    subst e
    obtain rfl : n = 3 := by rw [← h.len]; rfl
    exact OnB_reg a c x y z hh tt j key w h hok hj
  · refine (OnB_bad 8 a n c b who key w h hp).mono ?_
    rintro e w' ⟨rfl, hb⟩
    rw [show registerB b who key = (zeroB, preB b who) by simp [registerB, hp]]
    exact ⟨⟨none, 0, 0, rfl, Ints.nilSlice _, fun x e => by cases e⟩, hb⟩

theorem OnB_res_f (a : Option Addr) (n c : Nat) (b : PB) (who key : Int) (w : World) (h : Ints w a n c b.k) :
    Calls Tryz.prog 37 #[bookV a n c b, .int .i64 9, .int .i64 who, .int .i64 key] w fun e w' =>
      (∃ a' n' c', e = .returned (.tuple #[bookV a' n' c' (reserveB b who key).1, .int .i64 (reserveB b who key).2]) ∧ Ints w' a' n' c' (reserveB b who key).1.k ∧ ∀ x, a' = some x → w.heap.size ≤ x.block) ∧ Below w.heap.size w w' := by
  by_cases hp : preB b who = 0
  · obtain ⟨hok, j, rfl, hj⟩ := preB_hand hp
    obtain ⟨l, hh, tt⟩ := b
    obtain ⟨x, y, z, e, _⟩ := checkB_ok hok
    dsimp only at e h
    subst e
    obtain rfl : n = 3 := by rw [← h.len]; rfl
    exact OnB_res a c x y z hh tt j key w h hok hj
  · refine (OnB_bad 9 a n c b who key w h hp).mono ?_
    rintro e w' ⟨rfl, hb⟩
    rw [show reserveB b who key = (zeroB, preB b who) by simp [reserveB, hp]]
    exact ⟨⟨none, 0, 0, rfl, Ints.nilSlice _, fun x e => by cases e⟩, hb⟩

theorem OnB_rel_f (a : Option Addr) (n c : Nat) (b : PB) (who key : Int) (w : World) (h : Ints w a n c b.k) :
    Calls Tryz.prog 37 #[bookV a n c b, .int .i64 10, .int .i64 who, .int .i64 key] w fun e w' =>
      (∃ a' n' c', e = .returned (.tuple #[bookV a' n' c' (releaseB b who).1, .int .i64 (releaseB b who).2]) ∧ Ints w' a' n' c' (releaseB b who).1.k ∧ ∀ x, a' = some x → w.heap.size ≤ x.block) ∧ Below w.heap.size w w' := by
  by_cases hp : preB b who = 0
  · obtain ⟨hok, j, rfl, hj⟩ := preB_hand hp
    obtain ⟨l, hh, tt⟩ := b
    obtain ⟨x, y, z, e, _⟩ := checkB_ok hok
    dsimp only at e h
    subst e
    obtain rfl : n = 3 := by rw [← h.len]; rfl
    exact OnB_rel a c x y z hh tt j key w h hok hj
  · refine (OnB_bad 10 a n c b who key w h hp).mono ?_
    rintro e w' ⟨rfl, hb⟩
    rw [show releaseB b who = (zeroB, preB b who) by simp [releaseB, hp]]
    exact ⟨⟨none, 0, 0, rfl, Ints.nilSlice _, fun x e => by cases e⟩, hb⟩

theorem OnB_pre_f (a : Option Addr) (n c : Nat) (b : PB) (who key : Int) (w : World) (h : Ints w a n c b.k) :
    Calls Tryz.prog 37 #[bookV a n c b, .int .i64 11, .int .i64 who, .int .i64 key] w fun e w' =>
      (∃ a' n' c', e = .returned (.tuple #[bookV a' n' c' (preemptB b who key).1, .int .i64 (preemptB b who key).2]) ∧ Ints w' a' n' c' (preemptB b who key).1.k ∧ ∀ x, a' = some x → w.heap.size ≤ x.block) ∧ Below w.heap.size w w' := by
  by_cases hp : preB b who = 0
  · obtain ⟨hok, j, rfl, hj⟩ := preB_hand hp
    obtain ⟨l, hh, tt⟩ := b
    obtain ⟨x, y, z, e, _⟩ := checkB_ok hok
    dsimp only at e h
    subst e
    obtain rfl : n = 3 := by rw [← h.len]; rfl
    exact OnB_pre a c x y z hh tt j key w h hok hj
  · refine (OnB_bad 11 a n c b who key w h hp).mono ?_
    rintro e w' ⟨rfl, hb⟩
    rw [show preemptB b who key = (zeroB, preB b who) by simp [preemptB, hp]]
    exact ⟨⟨none, 0, 0, rfl, Ints.nilSlice _, fun x e => by cases e⟩, hb⟩

theorem OnB_clr_f (a : Option Addr) (n c : Nat) (b : PB) (who key : Int) (w : World) (h : Ints w a n c b.k) :
    Calls Tryz.prog 37 #[bookV a n c b, .int .i64 12, .int .i64 who, .int .i64 key] w fun e w' =>
      (∃ a' n' c', e = .returned (.tuple #[bookV a' n' c' (clearB b who).1, .int .i64 (clearB b who).2]) ∧ Ints w' a' n' c' (clearB b who).1.k ∧ ∀ x, a' = some x → w.heap.size ≤ x.block) ∧ Below w.heap.size w w' := by
  by_cases hp : preB b who = 0
  · obtain ⟨hok, j, rfl, hj⟩ := preB_hand hp
    obtain ⟨l, hh, tt⟩ := b
    obtain ⟨x, y, z, e, _⟩ := checkB_ok hok
    dsimp only at e h
    subst e
    obtain rfl : n = 3 := by rw [← h.len]; rfl
    exact OnB_clr a c x y z hh tt j key w h hok hj
  · refine (OnB_bad 12 a n c b who key w h hp).mono ?_
    rintro e w' ⟨rfl, hb⟩
    rw [show clearB b who = (zeroB, preB b who) by simp [clearB, hp]]
    exact ⟨⟨none, 0, 0, rfl, Ints.nilSlice _, fun x e => by cases e⟩, hb⟩

end Go.Proofs.YtkamnbigfdbgbaaGreatDoor

/- The contracts of the document's own FreshDesk, of OnBook and OnZones by the command's kind, and of Done; no condition but that the arguments read as data, and that Done is asked at a right desk by a right command of a hand that is there. -/
namespace Go.Proofs.YtkamnbigfdbgbaaGreatDoor
open Go.RowKit
set_option linter.unusedVariables false
set_option maxRecDepth 100000
set_option linter.unusedSimpArgs false

theorem OnB_any (a : Option Addr) (n c : Nat) (b : PB) (who : Int) (x : PC) (w : World) (h : Ints w a n c b.k) (hk : 8 ≤ x.k ∧ x.k ≤ 12) :
    Calls Tryz.prog 37 #[bookV a n c b, .int .i64 x.k, .int .i64 who, .int .i64 x.n] w fun e w' =>
      (∃ a' n' c', e = .returned (.tuple #[bookV a' n' c' (bookDo b who x).1, .int .i64 (bookDo b who x).2]) ∧ Ints w' a' n' c' (bookDo b who x).1.k ∧ ∀ y, a' = some y → w.heap.size ≤ y.block) ∧ Below w.heap.size w w' := by
  obtain ⟨xk, xz, xn, xt, xd⟩ := x
  dsimp only at *
  rcases (by omega : xk = 8 ∨ xk = 9 ∨ xk = 10 ∨ xk = 11 ∨ xk = 12) with rfl | rfl | rfl | rfl | rfl
  · exact OnB_reg_f a n c b who xn w h
  · exact OnB_res_f a n c b who xn w h
  · exact OnB_rel_f a n c b who xn w h
  · exact OnB_pre_f a n c b who xn w h
  · exact OnB_clr_f a n c b who xn w h

/-- What a command about a zone makes of the zones, and where. -/
def zonesDo (P : List PZ) (kd : Int) (z : Int) (d : List Int) : List PZ × Int × Int :=
  if kd = 5 then writeP P z d else ((zoneDo P ⟨kd, z, 0, 0, []⟩).1, 0, (zoneDo P ⟨kd, z, 0, 0, []⟩).2)

theorem OnZ_any (a : Option Addr) (n c : Nat) (Z : List ZV) (kd k : Int) (bd : Option Addr) (m d : Nat) (data : List Int) (w : World) (h : Zones w a n c Z) (hd : Ints w bd m d data) (hk : 1 ≤ kd ∧ kd ≤ 5) :
    Calls Tryz.prog 40 #[.slice a n c, .int .i64 kd, .int .i64 k, .slice bd m d] w fun e w' =>
      (∃ a' n' c' Z', e = .returned (.tuple #[.slice a' n' c', .int .i64 (zonesDo (Z.map ZV.p) kd k data).2.1, .int .i64 (zonesDo (Z.map ZV.p) kd k data).2.2]) ∧ Zones w' a' n' c' Z' ∧ Avoid w Z a' Z' ∧ Z'.map ZV.p = (zonesDo (Z.map ZV.p) kd k data).1) ∧ Below w.heap.size w w' := by
  rcases (by omega : kd = 1 ∨ kd = 2 ∨ kd = 3 ∨ kd = 4 ∨ kd = 5) with rfl | rfl | rfl | rfl | rfl
  · exact OnZ_hold_f a n c Z k bd m d w h
  · exact OnZ_close_f a n c Z k bd m d w h
  · exact OnZ_finish_f a n c Z k bd m d w h
  · exact OnZ_reset_f a n c Z k bd m d w h
  · exact OnZ_append_f a n c Z k bd m d data w h hd

theorem writeP_none {P : List PZ} {k : Int} {data : List Int} (h : (writeP P k data).2.2 ≠ 0) : (writeP P k data).2.1 = 0 := by
  unfold writeP at *
  split
  · rfl
  · rename_i h1
    rw [if_neg h1] at h
    split
    · rfl
    · rename_i h2
      rw [if_neg h2] at h
      cases hr : roomP P (at' P k).1 with
      | none => rfl
      | some Q => rw [hr] at h; exact absurd rfl h

set_option maxHeartbeats 4000000 in
theorem FreshDesk_f (w : World) : Calls Tryz.prog 13 #[] w fun e w' => (∃ d : DV, e = .returned d.v ∧ d.ok w' ∧ d.new w.heap.size ∧ d.p = freshD) ∧ Below w.heap.size w w' := by
  have hmk := mkz4
  have hm1 := fun w' => (Mine.fresh w')
  generalize hxs : (zcells zero4).toArray = xs at *
  clear hxs
  have xR := Lay.made w [.slice none 0 0, .slice none 0 0, .int .i64 0, .int .i64 0] 27
  have HZ := hide hm1
  have XR := hide xR
  clear hm1 xR
  go_enter Tryz.func13, Tryz.ntmps13
  go_wp2_with fail
  go_region_with (first | (go_at_call 34; refine (FreshBook_c _).mono ?_; rintro e w1 ⟨⟨a1, c1, rfl, i1, fr⟩, hb1⟩; (have xR1 := XR.out.below (w' := w1) (by (repeat first | exact bel0 | assumption | refine bel1 ?_ | refine bel2 ?_ | refine bel3 ?_ | refine belowT ?_ (by assumption) | refine bel5 ?_ (by simp; try omega)))); (have e0 := xR1.cell 0 _ rfl); (have e1 := xR1.cell 1 _ rfl); (have e2 := xR1.cell 2 _ rfl); (have e3 := xR1.cell 3 _ rfl); (have f0 := xR1.ice 0); (have f1 := xR1.ice 1); (have f2 := xR1.ice 2); (have f3 := xR1.ice 3); (have hl1 := xR1.lt); (have hn1 : w.heap.size ≠ w1.heap.size := by omega); (have hn2 : w1.heap.size ≠ w.heap.size := by omega); (have p0 := past1 e0); (have p1 := past1 e1); (have p2 := past1 e2); (have p3 := past1 e3); (have r0 := pastf1 e0 f0); (have r1 := pastf1 e1 f1); (have r2 := pastf1 e2 f2); (have r3 := pastf1 e3 f3); simp only [bookV, freshB] at i1 ⊢))
  all_goals go_wp2
  · have hm := HZ.out (w.alloc (.cells #[.slice none 0 0, .slice none 0 0, .int .i64 0, .int .i64 0] 27))
    simp only [World.size_alloc] at hm
    have hz1 := hm.zs.below (w' := w1) (B := ((w.alloc (.cells #[.slice none 0 0, .slice none 0 0, .int .i64 0, .int .i64 0] 27)).alloc (.cells xs 68)).heap.size) (by (repeat first | exact bel0 | assumption | refine bel1 ?_ | refine bel2 ?_ | refine bel3 ?_ | refine belowT ?_ (by assumption) | refine bel5 ?_ (by simp; try omega))) (Nat.le_refl _)
    simp at fr
    have hok : (⟨some ⟨w.heap.size + 1, 0, none⟩, 4, 4, zero4, a1, 3, c1, [0, 0, 0], -1, 0⟩ : DV).ok w1 := ⟨hz1, i1⟩
    have hoff : (⟨some ⟨w.heap.size + 1, 0, none⟩, 4, 4, zero4, a1, 3, c1, [0, 0, 0], -1, 0⟩ : DV).off w.heap.size := ⟨.inr fun x e => by cases e; simp, fun z hz => .inl (by simp [zero4] at hz; subst hz; rfl), .inr fun x e => by have := fr x e; omega⟩
    have zB := (((xR1.set 0 (.slice (some ⟨w.heap.size + 1, 0, none⟩) 4 4)).set 1 (.slice a1 3 c1)).set 2 (.int .i64 (-1))).set 3 (.int .i64 0)
    have hbut := ((((But.refl w.heap.size w1).step 0 (.slice (some ⟨w.heap.size + 1, 0, none⟩) 4 4)).step 1 (.slice a1 3 c1)).step 2 (.int .i64 (-1))).step 3 (.int .i64 0)
    have bw : Below w.heap.size w w1 := by (repeat first | exact bel0 | assumption | refine bel1 ?_ | refine bel2 ?_ | refine bel3 ?_ | refine belowT ?_ (by assumption) | refine bel5 ?_ (by simp; try omega))
    have o9 := hok.but hbut hoff
    generalize (((w1.setCell ⟨w.heap.size, 0, none⟩ (.slice (some ⟨w.heap.size + 1, 0, none⟩) 4 4)).setCell ⟨w.heap.size, 1, none⟩ (.slice a1 3 c1)).setCell ⟨w.heap.size, 2, none⟩ (.int .i64 (-1))).setCell ⟨w.heap.size, 3, none⟩ (.int .i64 0) = w9 at *
    have z0 := zB.cell 0 _ rfl
    have z1 := zB.cell 1 _ rfl
    have z2 := zB.cell 2 _ rfl
    have z3 := zB.cell 3 _ rfl
    exact bodyPost_ret (v := .agg #[.slice (some ⟨w.heap.size + 1, 0, none⟩) 4 4, .slice a1 3 c1, .int .i64 (-1), .int .i64 0]) (by simp [results, Tryz.results13, go_sem, z0, z1, z2, z3]) rfl
      ⟨⟨_, rfl, o9, fun R hR => ⟨.inr fun x e => by cases e; simp; omega, fun z hz => .inl (by simp [zero4] at hz; subst hz; rfl), .inr fun x e => by have := fr x e; omega⟩, rfl⟩, bw.trans hbut.low⟩
  · simp at fr
    have zB := (((xR1.set 0 (.slice (some ⟨w1.heap.size, 0, none⟩) 4 4)).set 1 (.slice a1 3 c1)).set 2 (.int .i64 (-1))).set 3 (.int .i64 0)
    have hbut := ((((But.refl w.heap.size w1).step 0 (.slice (some ⟨w1.heap.size, 0, none⟩) 4 4)).step 1 (.slice a1 3 c1)).step 2 (.int .i64 (-1))).step 3 (.int .i64 0)
    have bw : Below w.heap.size w w1 := by (repeat first | exact bel0 | assumption | refine bel1 ?_ | refine bel2 ?_ | refine bel3 ?_ | refine belowT ?_ (by assumption) | refine bel5 ?_ (by simp; try omega))
    have i9 := i1.but hbut (.inr fun x e => by have := fr x e; omega)
    have hs : ((((w1.setCell ⟨w.heap.size, 0, none⟩ (.slice (some ⟨w1.heap.size, 0, none⟩) 4 4)).setCell ⟨w.heap.size, 1, none⟩ (.slice a1 3 c1)).setCell ⟨w.heap.size, 2, none⟩ (.int .i64 (-1))).setCell ⟨w.heap.size, 3, none⟩ (.int .i64 0)).heap.size = w1.heap.size := by simp [World.setCell]
    generalize (((w1.setCell ⟨w.heap.size, 0, none⟩ (.slice (some ⟨w1.heap.size, 0, none⟩) 4 4)).setCell ⟨w.heap.size, 1, none⟩ (.slice a1 3 c1)).setCell ⟨w.heap.size, 2, none⟩ (.int .i64 (-1))).setCell ⟨w.heap.size, 3, none⟩ (.int .i64 0) = w8 at *
    have hm := HZ.out w8
    rw [hs] at hm
    have bn := belowA (Below.refl _ w8) (.cells xs 68)
    have zC := zB.below bn
    have o9 : (⟨some ⟨w1.heap.size, 0, none⟩, 4, 4, zero4, a1, 3, c1, [0, 0, 0], -1, 0⟩ : DV).ok (w8.alloc (.cells xs 68)) := ⟨hm.zs, i9.below bn (Nat.le_refl _)⟩
    have b9 : Below w.heap.size w (w8.alloc (.cells xs 68)) := belowT (bw.trans hbut.low) bn
    generalize w8.alloc (.cells xs 68) = w9 at *
    have z0 := zC.cell 0 _ rfl
    have z1 := zC.cell 1 _ rfl
    have z2 := zC.cell 2 _ rfl
    have z3 := zC.cell 3 _ rfl
    exact bodyPost_ret (v := .agg #[.slice (some ⟨w1.heap.size, 0, none⟩) 4 4, .slice a1 3 c1, .int .i64 (-1), .int .i64 0]) (by simp [results, Tryz.results13, go_sem, z0, z1, z2, z3]) rfl
      ⟨⟨_, rfl, o9, fun R hR => ⟨.inr fun x e => by cases e; simp; omega, fun z hz => .inl (by simp [zero4] at hz; subst hz; rfl), .inr fun x e => by have := fr x e; omega⟩, rfl⟩, b9⟩

theorem FreshDesk_c (w : World) : Calls Tryz.prog 13 #[] w fun e w' => (∃ d : DV, e = .returned d.v ∧ d.ok w' ∧ d.p = freshD) ∧ Below w.heap.size w w' :=
  (FreshDesk_f w).mono fun e w' ⟨⟨d, h1, h2, _, h4⟩, hb⟩ => ⟨⟨d, h1, h2, h4⟩, hb⟩

end Go.Proofs.YtkamnbigfdbgbaaGreatDoor
