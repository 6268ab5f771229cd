/- The contracts of the document's own answers on books: FreshBook, CheckBook, SameBook, Might; no condition but that the keys read as a list. -/
import Derived.Test.YtenmamcaldabdaaGreatDoorHallSaysG2
import Derived.Deep.Light
import Derived.Test.YtenmamcaldabdaaGreatDoorHallSaysG25
import Derived.Test.YtenmamcaldabdaaGreatDoorHallSaysG5
import Derived.Deep.RegionHeld3
import Derived.Test.YtenmamcaldabdaaGreatDoorHallSaysG1
import Derived.Maps.OwnOps
import Derived.RegionTactic
namespace Go.Proofs.YtenmamcaldabdaaGreatDoor
open Go.RowKit
set_option linter.unusedVariables false
set_option maxRecDepth 100000
set_option linter.unusedSimpArgs false

theorem FreshBook_c (w : World) : Calls Tryz.prog 71 #[] w fun e w' => (∃ a c, e = .returned (bookV a 3 c freshB) ∧ Ints w' a 3 c freshB.k ∧ ∀ x, a = some x → w.heap.size ≤ x.block) ∧ Below w.heap.size w w' := by
  go_enter Tryz.func71, Tryz.ntmps71
  go_wp2
  refine bodyPost_ret (v := bookV (some ⟨w.heap.size + 1, 0, none⟩) 3 3 freshB) (by simp [results, Tryz.results71, go_sem, bookV, freshB]) rfl ⟨⟨_, _, rfl, ?_, ?_⟩, ?_⟩
  · exact Ints.of_row (l := [0, 0, 0]) (heap_new2 w _ _) (by decide) (by decide) rfl
  · intro x e
    cases e
    simp
  · (repeat (first | exact Below.refl _ _ | assumption | refine Below.drew ?_ | refine below_drewN ?_ _ | refine belowA ?_ _ | refine belowT ?_ (by assumption) | refine Below.setCell ?_ (by first | (simp; done) | (simp; omega)) _))

theorem SameBook_c (a1 a2 : Option Addr) (n1 n2 c1 c2 : Nat) (b1 b2 : PB) (w : World) (h1 : Ints w a1 n1 c1 b1.k) (h2 : Ints w a2 n2 c2 b2.k) :
    Calls Tryz.prog 68 #[bookV a1 n1 c1 b1, bookV a2 n2 c2 b2] w fun e w' => e = .returned (.bool (sameB b1 b2)) ∧ Below w.heap.size w w' := by
  unfold bookV
  go_enter Tryz.func68, Tryz.ntmps68
  go_wp2_with fail
  refine (Equal_c a1 a2 n1 n2 c1 c2 b1.k b2.k _ (h1.below (B := w.heap.size) (by (repeat (first | exact Below.refl _ _ | assumption | refine Below.drew ?_ | refine below_drewN ?_ _ | refine belowA ?_ _ | refine belowT ?_ (by assumption) | refine Below.setCell ?_ (by first | (simp; done) | (simp; omega)) _))) (Nat.le_refl _)) (h2.below (B := w.heap.size) (by (repeat (first | exact Below.refl _ _ | assumption | refine Below.drew ?_ | refine below_drewN ?_ _ | refine belowA ?_ _ | refine belowT ?_ (by assumption) | refine Below.setCell ?_ (by first | (simp; done) | (simp; omega)) _))) (Nat.le_refl _))).mono ?_
  rintro e w1 ⟨rfl, q, rfl⟩
  obtain ⟨k1, x, r⟩ := b1
  obtain ⟨k2, y, s⟩ := b2
  dsimp only at *
  by_cases hk : k1 = k2
  · rw [decide_eq_true hk]
    have HK := hide hk
    clear hk
    cases hx : x == y
    · go_wp2
      go_ret
      exact ⟨ret_bool (by simp at hx; simp [sameB, hx]), by (repeat (first | exact Below.refl _ _ | assumption | refine Below.drew ?_ | refine below_drewN ?_ _ | refine belowA ?_ _ | refine belowT ?_ (by assumption) | refine Below.setCell ?_ (by first | (simp; done) | (simp; omega)) _))⟩
    · go_wp2
      go_ret
      exact ⟨ret_bool (by simp at hx; rw [Bool.eq_iff_iff]; simp [sameB, HK.out, hx]), by (repeat (first | exact Below.refl _ _ | assumption | refine Below.drew ?_ | refine below_drewN ?_ _ | refine belowA ?_ _ | refine belowT ?_ (by assumption) | refine Below.setCell ?_ (by first | (simp; done) | (simp; omega)) _))⟩
  · rw [decide_eq_false hk]
    have HK := hide hk
    clear hk
    go_wp2
    go_ret
    exact ⟨ret_bool (by simp [sameB, HK.out]), by (repeat (first | exact Below.refl _ _ | assumption | refine Below.drew ?_ | refine below_drewN ?_ _ | refine belowA ?_ _ | refine belowT ?_ (by assumption) | refine Below.setCell ?_ (by first | (simp; done) | (simp; omega)) _))⟩

set_option maxHeartbeats 1000000 in
theorem CheckBook_right (a : Option Addr) (c : Nat) (x y z hh tt : Int) (w : World) (h : Ints w a 3 c [x, y, z]) (h1 : ([x, y, z].all fun x => inB x 0 9) = true) (h2 : inB hh (-1) 2 = true) (h3 : inB tt 0 4 = true) :
    Calls Tryz.prog 63 #[bookV a 3 c ⟨[x, y, z], hh, tt⟩] w fun e w' => e = .returned (.int .i64 (checkB ⟨[x, y, z], hh, tt⟩)) ∧ Below w.heap.size w w' := by
  have hno : ¬ (([x, y, z] : List Int).any (outB 0 9) = true ∨ outB (-1) 2 hh = true ∨ outB 0 4 tt = true) := by
    rw [all_any] at h1
    rw [inB_outB] at h2 h3
    simp at h1 h2 h3
    simp [h1, h2, h3]
  have HNO := hide hno
  have h1' := hide h1
  clear hno h1
  unfold bookV
  obtain ⟨g, off, rfl, e0, e1, e2⟩ := h.three
  replace e0 := past1 e0
  replace e1 := past1 e1
  replace e2 := past1 e2
  have hv : hh = -1 ∨ hh = 0 ∨ hh = 1 ∨ hh = 2 := by simp [inB] at h2; omega
  rcases hv with rfl | rfl | rfl | rfl
  · cases ht : tt == 0
    all_goals
      go_enter Tryz.func63, Tryz.ntmps63
      go_wp2_with (first | (go_at_call 34; refine (in_c _ _ _ _).mono ?_; rintro e w' ⟨rfl, rfl⟩) | (go_at_call 64; refine (all_c _ 3 c [x, y, z] 0 9 _ (by refine h.below (B := w.heap.size) ?_ (Nat.le_refl _); (repeat (first | exact Below.refl _ _ | assumption | refine Below.drew ?_ | refine below_drewN ?_ _ | refine belowA ?_ _ | refine belowT ?_ (by assumption) | refine Below.setCell ?_ (by first | (simp; done) | (simp; omega)) _)))).mono ?_; rintro e w' ⟨rfl, rfl⟩; rw [h1'.out]))
      go_ret
      simp at ht
    · exact ⟨ret_int (checkB_4 (b := ⟨[x, y, z], -1, tt⟩) rfl HNO.out (.inl ⟨rfl, ht⟩)).symm, by (repeat (first | exact Below.refl _ _ | assumption | refine Below.drew ?_ | refine below_drewN ?_ _ | refine belowA ?_ _ | refine belowT ?_ (by assumption) | refine Below.setCell ?_ (by first | (simp; done) | (simp; omega)) _))⟩
    · exact ⟨ret_int (checkB_0 (b := ⟨[x, y, z], -1, tt⟩) rfl HNO.out (by simp [ht])).symm, by (repeat (first | exact Below.refl _ _ | assumption | refine Below.drew ?_ | refine below_drewN ?_ _ | refine belowA ?_ _ | refine belowT ?_ (by assumption) | refine Below.setCell ?_ (by first | (simp; done) | (simp; omega)) _))⟩
  all_goals
    cases ht : tt == 0
    all_goals
      go_enter Tryz.func63, Tryz.ntmps63
      go_wp2_with (first | (go_at_call 34; refine (in_c _ _ _ _).mono ?_; rintro e w' ⟨rfl, rfl⟩) | (go_at_call 64; refine (all_c _ 3 c [x, y, z] 0 9 _ (by refine h.below (B := w.heap.size) ?_ (Nat.le_refl _); (repeat (first | exact Below.refl _ _ | assumption | refine Below.drew ?_ | refine below_drewN ?_ _ | refine belowA ?_ _ | refine belowT ?_ (by assumption) | refine Below.setCell ?_ (by first | (simp; done) | (simp; omega)) _)))).mono ?_; rintro e w' ⟨rfl, rfl⟩; rw [h1'.out]))
      simp at ht
      all_goals
        go_ret
        first
          | exact ⟨ret_int (checkB_4 rfl HNO.out (by simp_all [keyOf])).symm, by (repeat (first | exact Below.refl _ _ | assumption | refine Below.drew ?_ | refine below_drewN ?_ _ | refine belowA ?_ _ | refine belowT ?_ (by assumption) | refine Below.setCell ?_ (by first | (simp; done) | (simp; omega)) _))⟩
          | exact ⟨ret_int (checkB_0 rfl HNO.out (by simp_all [keyOf])).symm, by (repeat (first | exact Below.refl _ _ | assumption | refine Below.drew ?_ | refine below_drewN ?_ _ | refine belowA ?_ _ | refine belowT ?_ (by assumption) | refine Below.setCell ?_ (by first | (simp; done) | (simp; omega)) _))⟩

set_option maxHeartbeats 1000000 in
theorem CheckBook_c (a : Option Addr) (n c : Nat) (b : PB) (w : World) (h : Ints w a n c b.k) :
    Calls Tryz.prog 63 #[bookV a n c b] w fun e w' => e = .returned (.int .i64 (checkB b)) ∧ Below w.heap.size w w' := by
  obtain ⟨l, hh, tt⟩ := b
  dsimp only at h
  have hlen := h.len
  have hmax := h.max
  have hle := h.le
  by_cases h3 : n = 3
  · subst h3
    cases hall : l.all fun x => inB x 0 9
    · have HC := hide (checkB_3 (b := ⟨l, hh, tt⟩) hlen (.inl (by rw [all_any] at hall; simpa using hall)))
      unfold bookV
      have HA := hide hall
      clear hall hlen
      go_enter Tryz.func63, Tryz.ntmps63
      go_wp2_with (go_at_call 64; refine (all_c a 3 c l 0 9 _ (by refine h.below (B := w.heap.size) ?_ (Nat.le_refl _); (repeat (first | exact Below.refl _ _ | assumption | refine Below.drew ?_ | refine below_drewN ?_ _ | refine belowA ?_ _ | refine belowT ?_ (by assumption) | refine Below.setCell ?_ (by first | (simp; done) | (simp; omega)) _)))).mono ?_; rintro e w' ⟨rfl, rfl⟩; rw [HA.out])
      go_ret
      exact ⟨ret_int HC.out.symm, by (repeat (first | exact Below.refl _ _ | assumption | refine Below.drew ?_ | refine below_drewN ?_ _ | refine belowA ?_ _ | refine belowT ?_ (by assumption) | refine Below.setCell ?_ (by first | (simp; done) | (simp; omega)) _))⟩
    · cases hin1 : inB hh (-1) 2
      · have HC := hide (checkB_3 (b := ⟨l, hh, tt⟩) hlen (.inr (.inl (by rw [inB_outB] at hin1; simpa using hin1))))
        unfold bookV
        have HA := hide hall
        clear hall hlen
        go_enter Tryz.func63, Tryz.ntmps63
        go_wp2_with (first | (go_at_call 34; refine (in_c _ _ _ _).mono ?_; rintro e w' ⟨rfl, rfl⟩) | (go_at_call 64; refine (all_c a 3 c l 0 9 _ (by refine h.below (B := w.heap.size) ?_ (Nat.le_refl _); (repeat (first | exact Below.refl _ _ | assumption | refine Below.drew ?_ | refine below_drewN ?_ _ | refine belowA ?_ _ | refine belowT ?_ (by assumption) | refine Below.setCell ?_ (by first | (simp; done) | (simp; omega)) _)))).mono ?_; rintro e w' ⟨rfl, rfl⟩; rw [HA.out]))
        go_ret
        exact ⟨ret_int HC.out.symm, by (repeat (first | exact Below.refl _ _ | assumption | refine Below.drew ?_ | refine below_drewN ?_ _ | refine belowA ?_ _ | refine belowT ?_ (by assumption) | refine Below.setCell ?_ (by first | (simp; done) | (simp; omega)) _))⟩
      · cases hin2 : inB tt 0 4
        · have HC := hide (checkB_3 (b := ⟨l, hh, tt⟩) hlen (.inr (.inr (by rw [inB_outB] at hin2; simpa using hin2))))
          unfold bookV
          have HA := hide hall
          clear hall hlen
          go_enter Tryz.func63, Tryz.ntmps63
          go_wp2_with (first | (go_at_call 34; refine (in_c _ _ _ _).mono ?_; rintro e w' ⟨rfl, rfl⟩) | (go_at_call 64; refine (all_c a 3 c l 0 9 _ (by refine h.below (B := w.heap.size) ?_ (Nat.le_refl _); (repeat (first | exact Below.refl _ _ | assumption | refine Below.drew ?_ | refine below_drewN ?_ _ | refine belowA ?_ _ | refine belowT ?_ (by assumption) | refine Below.setCell ?_ (by first | (simp; done) | (simp; omega)) _)))).mono ?_; rintro e w' ⟨rfl, rfl⟩; rw [HA.out]))
          go_ret
          exact ⟨ret_int HC.out.symm, by (repeat (first | exact Below.refl _ _ | assumption | refine Below.drew ?_ | refine below_drewN ?_ _ | refine belowA ?_ _ | refine belowT ?_ (by assumption) | refine Below.setCell ?_ (by first | (simp; done) | (simp; omega)) _))⟩
        · obtain ⟨x, y, z, rfl⟩ := three hlen
          exact CheckBook_right a c x y z hh tt w h hall hin1 hin2
  · have hne : ((n : Int) != 3) = true := by simp; omega
    have HC := hide (checkB_len (b := ⟨l, hh, tt⟩) (by simp only [hlen]; exact h3))
    unfold bookV
    go_enter Tryz.func63, Tryz.ntmps63
    go_wp2
    go_ret
    exact ⟨ret_int HC.out.symm, by (repeat (first | exact Below.refl _ _ | assumption | refine Below.drew ?_ | refine below_drewN ?_ _ | refine belowA ?_ _ | refine belowT ?_ (by assumption) | refine Below.setCell ?_ (by first | (simp; done) | (simp; omega)) _))⟩

set_option maxHeartbeats 1000000 in
theorem Might_c (a : Option Addr) (c : Nat) (x y z hh tt : Int) (who : Nat) (wr : Bool) (w : World) (h : Ints w a 3 c [x, y, z]) (hok : checkB ⟨[x, y, z], hh, tt⟩ = 0) (hw : who < 3) :
    Calls Tryz.prog 85 #[bookV a 3 c ⟨[x, y, z], hh, tt⟩, .int .i64 who, .bool wr] w fun e w' => e = .returned (.bool (mightB ⟨[x, y, z], hh, tt⟩ who wr)) ∧ Below w.heap.size w w' := by
  obtain ⟨x', y', z', e, hx, hy, hz, hs⟩ := checkB_ok hok
  simp at e
  obtain ⟨rfl, rfl, rfl⟩ := e
  obtain ⟨g, off, rfl, e0, e1, e2⟩ := h.three
  replace e0 := past1 e0
  replace e1 := past1 e1
  replace e2 := past1 e2
  have hx0 := hx.1
  have hy0 := hy.1
  have hz0 := hz.1
  dsimp only at hs
  have HS := hide hs
  clear hok hs hx hy hz
  unfold bookV
  have hw3 : who = 0 ∨ who = 1 ∨ who = 2 := by omega
  rcases hw3 with rfl | rfl | rfl
  all_goals
    cases wr
    all_goals
      go_enter Tryz.func85, Tryz.ntmps85
      go_wp2
      all_goals
        go_ret
        have hs := HS.out
        refine ⟨ret_bool ?_, by (repeat (first | exact Below.refl _ _ | assumption | refine Below.drew ?_ | refine below_drewN ?_ _ | refine belowA ?_ _ | refine belowT ?_ (by assumption) | refine Below.setCell ?_ (by first | (simp; done) | (simp; omega)) _))⟩
        rw [Bool.eq_iff_iff]
        simp_all [mightB, keyOf]
        try omega

end Go.Proofs.YtenmamcaldabdaaGreatDoor

/- The contracts of the document's own CheckDesk, SameDesk, CheckAnswer, SameAnswer and FreshDesk; no condition but that the arguments read as data. -/
namespace Go.Proofs.YtenmamcaldabdaaGreatDoor
open Go.RowKit
set_option linter.unusedVariables false
set_option maxRecDepth 100000
set_option linter.unusedSimpArgs false

theorem CheckDesk_c (d : DV) (w : World) (h : d.ok w) : Calls Tryz.prog 33 #[d.v] w fun e w' => e = .returned (.int .i64 (checkD d.p)) ∧ Below w.heap.size w w' := by
  obtain ⟨za, zn, zc, Z, ka, kn, kc, b⟩ := d
  obtain ⟨hz, hk⟩ := h
  dsimp only [DV.v, DV.p] at *
  have HC : Hid (checkD ⟨Z.map ZV.p, b⟩ = if checkZs (Z.map ZV.p) ≠ 0 then checkZs (Z.map ZV.p) else checkB b) := hide rfl
  go_enter Tryz.func33, Tryz.ntmps33
  go_wp2_with fail
  refine (CheckZones_c za zn zc Z _ (hz.below (B := w.heap.size) (by (repeat (first | exact Below.refl _ _ | assumption | refine Below.drew ?_ | refine below_drewN ?_ _ | refine belowA ?_ _ | refine belowT ?_ (by assumption) | refine Below.setCell ?_ (by first | (simp; done) | (simp; omega)) _))) (Nat.le_refl _))).mono ?_
  rintro e w1 ⟨rfl, hb1⟩
  have c1 := keepc hb1 (p := ⟨w.heap.size, 1, none⟩) (u := .slice ka kn kc) (by go_simp)
  have c2 := keepc hb1 (p := ⟨w.heap.size, 2, none⟩) (u := .int .i64 b.h) (by go_simp)
  have c3 := keepc hb1 (p := ⟨w.heap.size, 3, none⟩) (u := .int .i64 b.t) (by go_simp)
  have bw : Below w.heap.size w w1 := by (repeat (first | exact Below.refl _ _ | assumption | refine Below.drew ?_ | refine below_drewN ?_ _ | refine belowA ?_ _ | refine belowT ?_ (by assumption) | refine Below.setCell ?_ (by first | (simp; done) | (simp; omega)) _))
  clear hb1
  generalize hx : checkZs (Z.map ZV.p) = x at *
  clear hx
  cases h0 : x != 0
  · go_wp2_with fail
    refine (CheckBook_c ka kn kc b _ (hk.below bw (Nat.le_refl _))).mono ?_
    rintro e w2 ⟨rfl, hb2⟩
    go_wp2
    go_ret
    exact ⟨ret_int (by rw [HC.out]; simp at h0; simp [h0]), by (repeat (first | exact Below.refl _ _ | assumption | refine Below.drew ?_ | refine below_drewN ?_ _ | refine belowA ?_ _ | refine belowT ?_ (by assumption) | refine Below.setCell ?_ (by first | (simp; done) | (simp; omega)) _))⟩
  · go_wp2
    go_ret
    exact ⟨ret_int (by rw [HC.out]; simp at h0; simp [h0]), bw⟩

theorem SameDesk_c (d f : DV) (w : World) (h : d.ok w) (k : f.ok w) : Calls Tryz.prog 40 #[d.v, f.v] w fun e w' => e = .returned (.bool (sameD d.p f.p)) ∧ Below w.heap.size w w' := by
  obtain ⟨za, zn, zc, Z, ka, kn, kc, b⟩ := d
  obtain ⟨ya, yn, yc, Y, la, ln, lc, f⟩ := f
  obtain ⟨hz, hk⟩ := h
  obtain ⟨hy, hl⟩ := k
  dsimp only [DV.v, DV.p] at *
  have HS : Hid (sameD ⟨Z.map ZV.p, b⟩ ⟨Y.map ZV.p, f⟩ = (decide (Z.map ZV.p = Y.map ZV.p) && sameB b f)) := hide rfl
  go_enter Tryz.func40, Tryz.ntmps40
  go_wp2_with fail
  refine (SameZones_c za ya zn yn zc yc Z Y _ (hz.below (B := w.heap.size) (by (repeat (first | exact Below.refl _ _ | assumption | refine Below.drew ?_ | refine below_drewN ?_ _ | refine belowA ?_ _ | refine belowT ?_ (by assumption) | refine Below.setCell ?_ (by first | (simp; done) | (simp; omega)) _))) (Nat.le_refl _)) (hy.below (B := w.heap.size) (by (repeat (first | exact Below.refl _ _ | assumption | refine Below.drew ?_ | refine below_drewN ?_ _ | refine belowA ?_ _ | refine belowT ?_ (by assumption) | refine Below.setCell ?_ (by first | (simp; done) | (simp; omega)) _))) (Nat.le_refl _))).mono ?_
  rintro e w1 ⟨rfl, hb1⟩
  have c1 := keepc hb1 (p := ⟨w.heap.size, 1, none⟩) (u := .slice ka kn kc) (by go_simp)
  have c2 := keepc hb1 (p := ⟨w.heap.size, 2, none⟩) (u := .int .i64 b.h) (by go_simp)
  have c3 := keepc hb1 (p := ⟨w.heap.size, 3, none⟩) (u := .int .i64 b.t) (by go_simp)
  have d1 := keepc hb1 (p := ⟨w.heap.size + 1, 1, none⟩) (u := .slice la ln lc) (by go_simp)
  have d2 := keepc hb1 (p := ⟨w.heap.size + 1, 2, none⟩) (u := .int .i64 f.h) (by go_simp)
  have d3 := keepc hb1 (p := ⟨w.heap.size + 1, 3, none⟩) (u := .int .i64 f.t) (by go_simp)
  have bw : Below w.heap.size w w1 := by (repeat (first | exact Below.refl _ _ | assumption | refine Below.drew ?_ | refine below_drewN ?_ _ | refine belowA ?_ _ | refine belowT ?_ (by assumption) | refine Below.setCell ?_ (by first | (simp; done) | (simp; omega)) _))
  clear hb1
  generalize decide (Z.map ZV.p = Y.map ZV.p) = x at *
  cases x
  · go_wp2
    go_ret
    exact ⟨ret_bool (by rw [HS.out]; rfl), bw⟩
  · go_wp2_with fail
    refine (SameBook_c ka la kn ln kc lc b f _ (hk.below bw (Nat.le_refl _)) (hl.below bw (Nat.le_refl _))).mono ?_
    rintro e w2 ⟨rfl, hb2⟩
    go_wp2
    go_ret
    exact ⟨ret_bool (by rw [HS.out]; simp), by (repeat (first | exact Below.refl _ _ | assumption | refine Below.drew ?_ | refine below_drewN ?_ _ | refine belowA ?_ _ | refine belowT ?_ (by assumption) | refine Below.setCell ?_ (by first | (simp; done) | (simp; omega)) _))⟩

theorem SameAnswerR_c (x y : AV) (w : World) (hx : x.ok w) (hy : y.ok w) : Calls Tryz.prog 16 #[x.v, y.v] w fun e w' => e = .returned (.bool (sameA x.p y.p)) ∧ Below w.heap.size w w' := by
  obtain ⟨e1, t1, a1, n1, c1, l1⟩ := x
  obtain ⟨e2, t2, a2, n2, c2, l2⟩ := y
  dsimp only [AV.v, AV.p]
  have h1 : Ints w a1 n1 c1 l1 := hx
  have h2 : Ints w a2 n2 c2 l2 := hy
  have HS : Hid (sameA ⟨e1, t1, l1⟩ ⟨e2, t2, l2⟩ = (e1 == e2 && (t1 == t2 && decide (l1 = l2)))) := hide (by rw [Bool.eq_iff_iff]; simp [sameA])
  cases he : e1 == e2
  · go_enter Tryz.func16, Tryz.ntmps16
    go_wp2
    go_ret
    exact ⟨ret_bool (by rw [HS.out, he]; rfl), by (repeat (first | exact Below.refl _ _ | assumption | refine Below.drew ?_ | refine below_drewN ?_ _ | refine belowA ?_ _ | refine belowT ?_ (by assumption) | refine Below.setCell ?_ (by first | (simp; done) | (simp; omega)) _))⟩
  · cases ht : t1 == t2
    · go_enter Tryz.func16, Tryz.ntmps16
      go_wp2
      go_ret
      exact ⟨ret_bool (by rw [HS.out, he, ht]; rfl), by (repeat (first | exact Below.refl _ _ | assumption | refine Below.drew ?_ | refine below_drewN ?_ _ | refine belowA ?_ _ | refine belowT ?_ (by assumption) | refine Below.setCell ?_ (by first | (simp; done) | (simp; omega)) _))⟩
    · go_enter Tryz.func16, Tryz.ntmps16
      go_wp2_with fail
      refine (Equal_c a1 a2 n1 n2 c1 c2 l1 l2 _ (h1.below (B := w.heap.size) (by (repeat (first | exact Below.refl _ _ | assumption | refine Below.drew ?_ | refine below_drewN ?_ _ | refine belowA ?_ _ | refine belowT ?_ (by assumption) | refine Below.setCell ?_ (by first | (simp; done) | (simp; omega)) _))) (Nat.le_refl _)) (h2.below (B := w.heap.size) (by (repeat (first | exact Below.refl _ _ | assumption | refine Below.drew ?_ | refine below_drewN ?_ _ | refine belowA ?_ _ | refine belowT ?_ (by assumption) | refine Below.setCell ?_ (by first | (simp; done) | (simp; omega)) _))) (Nat.le_refl _))).mono ?_
      rintro e w1 ⟨rfl, q, rfl⟩
      go_wp2
      go_ret
      exact ⟨ret_bool (by rw [HS.out, he, ht]; simp), by (repeat (first | exact Below.refl _ _ | assumption | refine Below.drew ?_ | refine below_drewN ?_ _ | refine belowA ?_ _ | refine belowT ?_ (by assumption) | refine Below.setCell ?_ (by first | (simp; done) | (simp; omega)) _))⟩


set_option maxHeartbeats 2000000 in
theorem CheckAnswerR_c (x : AV) (w : World) (h : x.ok w) : Calls Tryz.prog 35 #[x.v] w fun e w' => e = .returned (.int .i64 (checkA x.p)) ∧ Below w.heap.size w w' := by
  obtain ⟨ee, tt, a, n, c, l⟩ := x
  have hI : Ints w a n c l := h
  dsimp only [AV.v, AV.p]
  have hlen := hI.len
  have hmax := hI.max
  have hle := hI.le
  cases h1 : inB ee 0 9
  · have HC : Hid (checkA ⟨ee, tt, l⟩ = 3) := hide (by unfold checkA; exact if_pos (.inl (by rw [inB_outB] at h1; simpa using h1)))
    have H1 := hide h1
    clear h1
    go_enter Tryz.func35, Tryz.ntmps35
    go_wp2_with (go_at_call 34; refine (in_c _ _ _ _).mono ?_; rintro e w1 ⟨rfl, rfl⟩; rw [H1.out])
    go_ret
    exact ⟨ret_int HC.out.symm, by (repeat (first | exact Below.refl _ _ | assumption | refine Below.drew ?_ | refine below_drewN ?_ _ | refine belowA ?_ _ | refine belowT ?_ (by assumption) | refine Below.setCell ?_ (by first | (simp; done) | (simp; omega)) _))⟩
  · cases h2 : inB tt 0 7
    · have HC : Hid (checkA ⟨ee, tt, l⟩ = 3) := hide (by unfold checkA; exact if_pos (.inr (by rw [inB_outB] at h2; simpa using h2)))
      have H1 := hide h1
      have H2 := hide h2
      clear h1 h2
      go_enter Tryz.func35, Tryz.ntmps35
      go_wp2_with fail
      refine (in_c _ _ _ _).mono ?_
      rintro e w1 ⟨rfl, rfl⟩
      rw [H1.out]
      go_wp2_with fail
      refine (in_c _ _ _ _).mono ?_
      rintro e w1 ⟨rfl, rfl⟩
      rw [H2.out]
      go_wp2
      go_ret
      exact ⟨ret_int HC.out.symm, by (repeat (first | exact Below.refl _ _ | assumption | refine Below.drew ?_ | refine below_drewN ?_ _ | refine belowA ?_ _ | refine belowT ?_ (by assumption) | refine Below.setCell ?_ (by first | (simp; done) | (simp; omega)) _))⟩
    · have hb1 : 0 ≤ ee ∧ ee ≤ 9 := by simp [inB] at h1; omega
      have hb2 : 0 ≤ tt ∧ tt ≤ 7 := by simp [inB] at h2; omega
      have HC : Hid (checkA ⟨ee, tt, l⟩ = if 8 < l.length then 2 else if l.any (outB 0 999) then 3 else if ee ≠ 0 ∧ (tt ≠ 0 ∨ l ≠ []) then 4 else 0) := hide (by
        unfold checkA
        exact if_neg (by rw [inB_outB] at h1 h2; simp only [Bool.not_eq_true'] at h1 h2; rw [h1, h2]; simp))
      have H1 := hide h1
      have H2 := hide h2
      have HB := hide (And.intro hb1 hb2)
      clear h1 h2 hb1 hb2
      go_enter Tryz.func35, Tryz.ntmps35
      go_wp2_with fail
      refine (in_c _ _ _ _).mono ?_
      rintro e w1 ⟨rfl, rfl⟩
      rw [H1.out]
      go_wp2_with fail
      refine (in_c _ _ _ _).mono ?_
      rintro e w1 ⟨rfl, rfl⟩
      rw [H2.out]
      by_cases h8 : 8 < n
      · have h8' : (8 : Int) < (n : Int) := by omega
        go_wp2
        go_ret
        exact ⟨ret_int (by rw [HC.out, hlen, if_pos h8]), by (repeat (first | exact Below.refl _ _ | assumption | refine Below.drew ?_ | refine below_drewN ?_ _ | refine belowA ?_ _ | refine belowT ?_ (by assumption) | refine Below.setCell ?_ (by first | (simp; done) | (simp; omega)) _))⟩
      · have h8' : ¬ (8 : Int) < (n : Int) := by omega
        go_wp2_with fail
        refine (all_c a n c l 0 999 _ (hI.below (B := w.heap.size) (by (repeat (first | exact Below.refl _ _ | assumption | refine Below.drew ?_ | refine below_drewN ?_ _ | refine belowA ?_ _ | refine belowT ?_ (by assumption) | refine Below.setCell ?_ (by first | (simp; done) | (simp; omega)) _))) (Nat.le_refl _))).mono ?_
        rintro e w1 ⟨rfl, rfl⟩
        rw [all_any]
        cases hany : l.any (outB 0 999)
        · by_cases e0 : 0 < ee
          · by_cases t0 : 0 < tt
            · go_wp2
              go_ret
              exact ⟨ret_int (by rw [HC.out, hlen, if_neg h8, hany, if_neg (by simp), if_pos ⟨by omega, .inl (by omega)⟩]), by (repeat (first | exact Below.refl _ _ | assumption | refine Below.drew ?_ | refine below_drewN ?_ _ | refine belowA ?_ _ | refine belowT ?_ (by assumption) | refine Below.setCell ?_ (by first | (simp; done) | (simp; omega)) _))⟩
            · by_cases hn0 : 0 < n
              · have hn0' : (0 : Int) < (n : Int) := by omega
                go_wp2
                go_ret
                have hl : l ≠ [] := fun e => by rw [e] at hlen; simp at hlen; omega
                exact ⟨ret_int (by rw [HC.out, hlen, if_neg h8, hany, if_neg (by simp), if_pos ⟨by omega, .inr hl⟩]), by (repeat (first | exact Below.refl _ _ | assumption | refine Below.drew ?_ | refine below_drewN ?_ _ | refine belowA ?_ _ | refine belowT ?_ (by assumption) | refine Below.setCell ?_ (by first | (simp; done) | (simp; omega)) _))⟩
              · have hn0' : ¬ (0 : Int) < (n : Int) := by omega
                go_wp2
                go_ret
                have hl : l = [] := List.eq_nil_of_length_eq_zero (by omega)
                have hB := HB.out
                exact ⟨ret_int (by rw [HC.out, hlen, if_neg h8, hany, if_neg (by simp), if_neg (by rw [hl]; simp; omega)]), by (repeat (first | exact Below.refl _ _ | assumption | refine Below.drew ?_ | refine below_drewN ?_ _ | refine belowA ?_ _ | refine belowT ?_ (by assumption) | refine Below.setCell ?_ (by first | (simp; done) | (simp; omega)) _))⟩
          · go_wp2
            go_ret
            have hB := HB.out
            exact ⟨ret_int (by rw [HC.out, hlen, if_neg h8, hany, if_neg (by simp), if_neg (by omega)]), by (repeat (first | exact Below.refl _ _ | assumption | refine Below.drew ?_ | refine below_drewN ?_ _ | refine belowA ?_ _ | refine belowT ?_ (by assumption) | refine Below.setCell ?_ (by first | (simp; done) | (simp; omega)) _))⟩
        · go_wp2
          go_ret
          exact ⟨ret_int (by rw [HC.out, hlen, if_neg h8, hany]; rfl), by (repeat (first | exact Below.refl _ _ | assumption | refine Below.drew ?_ | refine below_drewN ?_ _ | refine belowA ?_ _ | refine belowT ?_ (by assumption) | refine Below.setCell ?_ (by first | (simp; done) | (simp; omega)) _))⟩

end Go.Proofs.YtenmamcaldabdaaGreatDoor

/- A region whose operations come in any order, by an invariant over what has come; and small maps of ints that a call makes; plain, no condition. -/
namespace Go.Proofs.YtenmamcaldabdaaGreatDoor
open Go.RowKit
open Go.Maps (Keyed)
set_option linter.unusedVariables false
set_option maxRecDepth 100000
set_option linter.unusedSimpArgs false

/-- How many operations have not come yet. -/
def unlisted (L : Array Bool) : Nat := L.toList.countP (fun b => !b)

theorem unlisted_set {L : Array Bool} {i : Nat} (h : L.getD i true = false) : unlisted (L.setIfInBounds i true) + 1 = unlisted L := by
  have hi : i < L.size := by
    rcases Nat.lt_or_ge i L.size with h' | h'
    · exact h'
    · simp [Array.getElem?_eq_none h'] at h
  have hx : L.toList[i]'(by simpa using hi) = false := by simpa [hi] using h
  unfold unlisted
  rw [Array.toList_setIfInBounds, List.countP_set (by simpa using hi), hx]
  have : 0 < L.toList.countP (fun b => !b) := List.countP_pos_iff.2 ⟨false, by rw [← hx]; exact List.getElem_mem _, rfl⟩
  simp only [Bool.not_false, Bool.not_true, if_true]
  rw [if_neg (by simp)]
  omega

theorem wpAny_inv {P : Program} {md : Region.Mode} {ops : Array Oper} {Q : Exit → Act → World → Prop} (Inv : Array Bool → Act → World → Prop)
    (hdone : ∀ L a w, Inv L a w → Region.ready md ops L = [] → Q .normal a w)
    (hstep : ∀ L a w, Inv L a w → ∀ i o, ops[i]? = some o → L.getD i true = false → (∀ e ∈ o.after, Region.binds md e = true → L.getD e.on false = true) → wpOp P ops Q i (Inv (L.setIfInBounds i true)) a w) :
    ∀ (fuel : Nat) (L : Array Bool) (a : Act) (w : World), unlisted L ≤ fuel → Inv L a w → wpAny P md ops Q fuel L a w := by
  intro fuel
  induction fuel with
  | zero =>
    intro L a w hf hI
    have hr : Region.ready md ops L = [] := by
      apply List.eq_nil_iff_forall_not_mem.2
      intro i hi
      have := unlisted_set (mem_ready.1 hi).1
      omega
    exact ⟨hr, hdone L a w hI hr⟩
  | succ fuel ih =>
    intro L a w hf hI
    refine ⟨fun hr => hdone L a w hI hr, fun i hi => ?_⟩
    obtain ⟨h0, o, ho, hall⟩ := mem_ready.1 hi
    refine wpOp_mono (fun a' w' h => ih _ _ _ ?_ h) (hstep L a w hI i o ho h0 hall)
    have := unlisted_set h0
    omega

theorem bit_ne {L : Array Bool} {i j : Nat} (h : i ≠ j) (d : Bool) : (L.setIfInBounds i true).getD j d = L.getD j d := getD_set_ne d h
theorem bit_no {L : Array Bool} {i : Nat} (h : L.getD i true = false) : L.getD i false = false := by
  rcases Nat.lt_or_ge i L.size with h' | h'
  · simpa [h'] using h
  · simp [Array.getElem?_eq_none h'] at h

/-- What is ready comes: where nothing is, an operation all of whose forerunners have come has come too. -/
theorem bit_done {md : Region.Mode} {ops : Array Oper} {L : Array Bool} (hr : Region.ready md ops L = []) (i : Nat) (o : Oper) (ho : ops[i]? = some o) (hs : L.size = ops.size)
    (h : ∀ e ∈ o.after, Region.binds md e = true → L.getD e.on false = true) : L.getD i false = true := by
  have hi : i < L.size := by rw [hs]; exact (Array.getElem?_eq_some_iff.1 ho).1
  cases hb : L.getD i false with
  | true => rfl
  | false =>
    have : i ∈ Region.ready md ops L := mem_ready.2 ⟨by simpa [hi] using hb, o, ho, h⟩
    rw [hr] at this
    cases this

end Go.Proofs.YtenmamcaldabdaaGreatDoor
