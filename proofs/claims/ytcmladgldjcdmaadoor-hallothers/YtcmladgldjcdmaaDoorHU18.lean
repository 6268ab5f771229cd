/- The contracts of desk's reserved and read; no condition but that the arguments read as data, and where a right desk is said so. -/
import Derived.Test.YtcmladgldjcdmaaDoorHU17
import Derived.Deep.RegionHeld3
namespace Go.Proofs.YtcmladgldjcdmaaDoor
open Go.RowKit
set_option linter.unusedVariables false
set_option maxRecDepth 100000
set_option linter.unusedSimpArgs false

set_option maxHeartbeats 1000000 in
theorem reserved_c (a : Option Addr) (n c : Nat) (b : PB) (who : Int) (ca : Option Addr) (cn cc : Nat) (x : PC) (w : World) (h : Ints w a n c b.k) :
    Calls Tryd.prog 70 #[bookV a n c b, .int .i64 who, cmdV ca cn cc x] w fun e w' => (∃ a' n' c', e = .returned (.tuple #[bookV a' n' c' (bookDo b who x).1, .int .i64 (bookDo b who x).2]) ∧ Ints w' a' n' c' (bookDo b who x).1.k ∧ ∀ y, a' = some y → w.heap.size ≤ y.block) ∧ Below w.heap.size w w' := by
  obtain ⟨xk, xz, xn, xt, xd⟩ := x
  have G1 := hide (fun w' h' => BRegister_c a n c b who xn w' h')
  have G2 := hide (fun w' h' => BReserve_c a n c b who xn w' h')
  have G3 := hide (fun w' h' => BRelease_c a n c b who w' h')
  have G4 := hide (fun w' h' => BPreempt_c a n c b who xn w' h')
  have G5 := hide (fun w' h' => BClear_c a n c b who w' h')
  unfold cmdV
  unfold bookV at *
  dsimp only
  by_cases h1 : xk = 8
  · subst h1
    rw [show bookDo b who ⟨8, xz, xn, xt, xd⟩ = registerB b who xn from rfl]
    go_enter Tryd.func70, Tryd.ntmps70
    go_wp2_with fail
    refine (G1.out _ (h.below (B := w.heap.size) (by (repeat first | exact bel0 | assumption | refine bel1 ?_ | refine bel2 ?_ | refine bel3 ?_ | refine belowT ?_ (by assumption) | refine bel5 ?_ (by simp; try omega))) (Nat.le_refl _))).mono ?_
    rintro e w1 ⟨⟨a1, n1, c1, rfl, i1, fr⟩, hb1⟩
    have xR := Lay.made ((w.alloc (.cells #[.slice a n c, .int .i64 b.h, .int .i64 b.t] 25)).alloc (.cells #[.int .i64 (8), .int .i64 xz, .int .i64 xn, .int .i64 xt, .slice ca cn cc] 32)) [.slice none 0 0, .int .i64 0, .int .i64 0] 25
    simp only [World.size_alloc] at xR
    replace xR := xR.below hb1
    have bw : Below w.heap.size w w1 := by (repeat first | exact bel0 | assumption | refine bel1 ?_ | refine bel2 ?_ | refine bel3 ?_ | refine belowT ?_ (by assumption) | refine bel5 ?_ (by simp; try omega))
    simp only [World.size_alloc] at fr
    have FR := hide fr
    clear fr hb1
    generalize hfn : registerB b who xn = r at *
    have HF := hide hfn
    clear hfn
    obtain ⟨⟨rk, rh, rt⟩, re⟩ := r
    dsimp only at i1 ⊢
    have e0 := xR.cell 0 _ rfl
    have e1 := xR.cell 1 _ rfl
    have e2 := xR.cell 2 _ rfl
    have f0 := xR.ice 0
    have f1 := xR.ice 1
    have f2 := xR.ice 2
    go_wp2
    have hoff : ∀ R, R ≤ w.heap.size + 1 + 1 → (n1 = 0 ∨ ∀ x, a1 = some x → x.block ≠ R) := fun R hR => .inr fun x e => by have := FR.out x e; omega
    have zB := ((xR.set 0 (.slice a1 n1 c1)).set 1 (.int .i64 rh)).set 2 (.int .i64 rt)
    have hbut := (((ButI.refl (w.heap.size + 1 + 1) w1).step 0 (.slice a1 n1 c1)).step 1 (.int .i64 rh)).step 2 (.int .i64 rt)
    generalize ((w1.setCell ⟨w.heap.size + 1 + 1, 0, none⟩ (.slice a1 n1 c1)).setCell ⟨w.heap.size + 1 + 1, 1, none⟩ (.int .i64 rh)).setCell ⟨w.heap.size + 1 + 1, 2, none⟩ (.int .i64 rt) = w9 at *
    have z0 := zB.cell 0 _ rfl
    have z1 := zB.cell 1 _ rfl
    have z2 := zB.cell 2 _ rfl
    exact bodyPost_ret (v := .tuple #[.agg #[.slice a1 n1 c1, .int .i64 rh, .int .i64 rt], .int .i64 re]) (by simp [results, Tryd.results70, go_sem, z0, z1, z2]) rfl
      ⟨⟨a1, n1, c1, by first | (rw [HF.out]; done) | (rw [HF.out]; rfl), by rw [HF.out]; exact i1.but hbut.but (hoff _ (Nat.le_refl _)), fun x e => by have := FR.out x e; omega⟩, bw.trans (hbut.below (B := w.heap.size) (by omega))⟩
  · have t1 : (xk == 8) = false := by simpa using h1
    by_cases h2 : xk = 9
    · subst h2
      rw [show bookDo b who ⟨9, xz, xn, xt, xd⟩ = reserveB b who xn from rfl]
      go_enter Tryd.func70, Tryd.ntmps70
      go_wp2_with fail
      refine (G2.out _ (h.below (B := w.heap.size) (by (repeat first | exact bel0 | assumption | refine bel1 ?_ | refine bel2 ?_ | refine bel3 ?_ | refine belowT ?_ (by assumption) | refine bel5 ?_ (by simp; try omega))) (Nat.le_refl _))).mono ?_
      rintro e w1 ⟨⟨a1, n1, c1, rfl, i1, fr⟩, hb1⟩
      have xR := Lay.made ((w.alloc (.cells #[.slice a n c, .int .i64 b.h, .int .i64 b.t] 25)).alloc (.cells #[.int .i64 (9), .int .i64 xz, .int .i64 xn, .int .i64 xt, .slice ca cn cc] 32)) [.slice none 0 0, .int .i64 0, .int .i64 0] 25
      simp only [World.size_alloc] at xR
      replace xR := xR.below hb1
      have bw : Below w.heap.size w w1 := by (repeat first | exact bel0 | assumption | refine bel1 ?_ | refine bel2 ?_ | refine bel3 ?_ | refine belowT ?_ (by assumption) | refine bel5 ?_ (by simp; try omega))
      simp only [World.size_alloc] at fr
      have FR := hide fr
      clear fr hb1
      generalize hfn : reserveB b who xn = r at *
      have HF := hide hfn
      clear hfn
      obtain ⟨⟨rk, rh, rt⟩, re⟩ := r
      dsimp only at i1 ⊢
      have e0 := xR.cell 0 _ rfl
      have e1 := xR.cell 1 _ rfl
      have e2 := xR.cell 2 _ rfl
      have f0 := xR.ice 0
      have f1 := xR.ice 1
      have f2 := xR.ice 2
      go_wp2
      have hoff : ∀ R, R ≤ w.heap.size + 1 + 1 → (n1 = 0 ∨ ∀ x, a1 = some x → x.block ≠ R) := fun R hR => .inr fun x e => by have := FR.out x e; omega
      have zB := ((xR.set 0 (.slice a1 n1 c1)).set 1 (.int .i64 rh)).set 2 (.int .i64 rt)
      have hbut := (((ButI.refl (w.heap.size + 1 + 1) w1).step 0 (.slice a1 n1 c1)).step 1 (.int .i64 rh)).step 2 (.int .i64 rt)
      generalize ((w1.setCell ⟨w.heap.size + 1 + 1, 0, none⟩ (.slice a1 n1 c1)).setCell ⟨w.heap.size + 1 + 1, 1, none⟩ (.int .i64 rh)).setCell ⟨w.heap.size + 1 + 1, 2, none⟩ (.int .i64 rt) = w9 at *
      have z0 := zB.cell 0 _ rfl
      have z1 := zB.cell 1 _ rfl
      have z2 := zB.cell 2 _ rfl
      exact bodyPost_ret (v := .tuple #[.agg #[.slice a1 n1 c1, .int .i64 rh, .int .i64 rt], .int .i64 re]) (by simp [results, Tryd.results70, go_sem, z0, z1, z2]) rfl
        ⟨⟨a1, n1, c1, by first | (rw [HF.out]; done) | (rw [HF.out]; rfl), by rw [HF.out]; exact i1.but hbut.but (hoff _ (Nat.le_refl _)), fun x e => by have := FR.out x e; omega⟩, bw.trans (hbut.below (B := w.heap.size) (by omega))⟩
    · have t2 : (xk == 9) = false := by simpa using h2
      by_cases h3 : xk = 10
      · subst h3
        rw [show bookDo b who ⟨10, xz, xn, xt, xd⟩ = releaseB b who from rfl]
        go_enter Tryd.func70, Tryd.ntmps70
        go_wp2_with fail
        refine (G3.out _ (h.below (B := w.heap.size) (by (repeat first | exact bel0 | assumption | refine bel1 ?_ | refine bel2 ?_ | refine bel3 ?_ | refine belowT ?_ (by assumption) | refine bel5 ?_ (by simp; try omega))) (Nat.le_refl _))).mono ?_
        rintro e w1 ⟨⟨a1, n1, c1, rfl, i1, fr⟩, hb1⟩
        have xR := Lay.made ((w.alloc (.cells #[.slice a n c, .int .i64 b.h, .int .i64 b.t] 25)).alloc (.cells #[.int .i64 (10), .int .i64 xz, .int .i64 xn, .int .i64 xt, .slice ca cn cc] 32)) [.slice none 0 0, .int .i64 0, .int .i64 0] 25
        simp only [World.size_alloc] at xR
        replace xR := xR.below hb1
        have bw : Below w.heap.size w w1 := by (repeat first | exact bel0 | assumption | refine bel1 ?_ | refine bel2 ?_ | refine bel3 ?_ | refine belowT ?_ (by assumption) | refine bel5 ?_ (by simp; try omega))
        simp only [World.size_alloc] at fr
        have FR := hide fr
        clear fr hb1
        generalize hfn : releaseB b who = r at *
        have HF := hide hfn
        clear hfn
        obtain ⟨⟨rk, rh, rt⟩, re⟩ := r
        dsimp only at i1 ⊢
        have e0 := xR.cell 0 _ rfl
        have e1 := xR.cell 1 _ rfl
        have e2 := xR.cell 2 _ rfl
        have f0 := xR.ice 0
        have f1 := xR.ice 1
        have f2 := xR.ice 2
        go_wp2
        have hoff : ∀ R, R ≤ w.heap.size + 1 + 1 → (n1 = 0 ∨ ∀ x, a1 = some x → x.block ≠ R) := fun R hR => .inr fun x e => by have := FR.out x e; omega
        have zB := ((xR.set 0 (.slice a1 n1 c1)).set 1 (.int .i64 rh)).set 2 (.int .i64 rt)
        have hbut := (((ButI.refl (w.heap.size + 1 + 1) w1).step 0 (.slice a1 n1 c1)).step 1 (.int .i64 rh)).step 2 (.int .i64 rt)
        generalize ((w1.setCell ⟨w.heap.size + 1 + 1, 0, none⟩ (.slice a1 n1 c1)).setCell ⟨w.heap.size + 1 + 1, 1, none⟩ (.int .i64 rh)).setCell ⟨w.heap.size + 1 + 1, 2, none⟩ (.int .i64 rt) = w9 at *
        have z0 := zB.cell 0 _ rfl
        have z1 := zB.cell 1 _ rfl
        have z2 := zB.cell 2 _ rfl
        exact bodyPost_ret (v := .tuple #[.agg #[.slice a1 n1 c1, .int .i64 rh, .int .i64 rt], .int .i64 re]) (by simp [results, Tryd.results70, go_sem, z0, z1, z2]) rfl
          ⟨⟨a1, n1, c1, by first | (rw [HF.out]; done) | (rw [HF.out]; rfl), by rw [HF.out]; exact i1.but hbut.but (hoff _ (Nat.le_refl _)), fun x e => by have := FR.out x e; omega⟩, bw.trans (hbut.below (B := w.heap.size) (by omega))⟩
      · have t3 : (xk == 10) = false := by simpa using h3
        by_cases h4 : xk = 11
        · subst h4
          rw [show bookDo b who ⟨11, xz, xn, xt, xd⟩ = preemptB b who xn from rfl]
          go_enter Tryd.func70, Tryd.ntmps70
          go_wp2_with fail
          refine (G4.out _ (h.below (B := w.heap.size) (by (repeat first | exact bel0 | assumption | refine bel1 ?_ | refine bel2 ?_ | refine bel3 ?_ | refine belowT ?_ (by assumption) | refine bel5 ?_ (by simp; try omega))) (Nat.le_refl _))).mono ?_
          rintro e w1 ⟨⟨a1, n1, c1, rfl, i1, fr⟩, hb1⟩
          have xR := Lay.made ((w.alloc (.cells #[.slice a n c, .int .i64 b.h, .int .i64 b.t] 25)).alloc (.cells #[.int .i64 (11), .int .i64 xz, .int .i64 xn, .int .i64 xt, .slice ca cn cc] 32)) [.slice none 0 0, .int .i64 0, .int .i64 0] 25
          simp only [World.size_alloc] at xR
          replace xR := xR.below hb1
          have bw : Below w.heap.size w w1 := by (repeat first | exact bel0 | assumption | refine bel1 ?_ | refine bel2 ?_ | refine bel3 ?_ | refine belowT ?_ (by assumption) | refine bel5 ?_ (by simp; try omega))
          simp only [World.size_alloc] at fr
          have FR := hide fr
          clear fr hb1
          generalize hfn : preemptB b who xn = r at *
          have HF := hide hfn
          clear hfn
          obtain ⟨⟨rk, rh, rt⟩, re⟩ := r
          dsimp only at i1 ⊢
          have e0 := xR.cell 0 _ rfl
          have e1 := xR.cell 1 _ rfl
          have e2 := xR.cell 2 _ rfl
          have f0 := xR.ice 0
          have f1 := xR.ice 1
          have f2 := xR.ice 2
          go_wp2
          have hoff : ∀ R, R ≤ w.heap.size + 1 + 1 → (n1 = 0 ∨ ∀ x, a1 = some x → x.block ≠ R) := fun R hR => .inr fun x e => by have := FR.out x e; omega
          have zB := ((xR.set 0 (.slice a1 n1 c1)).set 1 (.int .i64 rh)).set 2 (.int .i64 rt)
          have hbut := (((ButI.refl (w.heap.size + 1 + 1) w1).step 0 (.slice a1 n1 c1)).step 1 (.int .i64 rh)).step 2 (.int .i64 rt)
          generalize ((w1.setCell ⟨w.heap.size + 1 + 1, 0, none⟩ (.slice a1 n1 c1)).setCell ⟨w.heap.size + 1 + 1, 1, none⟩ (.int .i64 rh)).setCell ⟨w.heap.size + 1 + 1, 2, none⟩ (.int .i64 rt) = w9 at *
          have z0 := zB.cell 0 _ rfl
          have z1 := zB.cell 1 _ rfl
          have z2 := zB.cell 2 _ rfl
          exact bodyPost_ret (v := .tuple #[.agg #[.slice a1 n1 c1, .int .i64 rh, .int .i64 rt], .int .i64 re]) (by simp [results, Tryd.results70, go_sem, z0, z1, z2]) rfl
            ⟨⟨a1, n1, c1, by first | (rw [HF.out]; done) | (rw [HF.out]; rfl), by rw [HF.out]; exact i1.but hbut.but (hoff _ (Nat.le_refl _)), fun x e => by have := FR.out x e; omega⟩, bw.trans (hbut.below (B := w.heap.size) (by omega))⟩
        · have t4 : (xk == 11) = false := by simpa using h4
          rw [show bookDo b who ⟨xk, xz, xn, xt, xd⟩ = clearB b who by simp [bookDo, h1, h2, h3, h4]]
          clear h1 h2 h3 h4
          go_enter Tryd.func70, Tryd.ntmps70
          go_wp2_with fail
          refine (G5.out _ (h.below (B := w.heap.size) (by (repeat first | exact bel0 | assumption | refine bel1 ?_ | refine bel2 ?_ | refine bel3 ?_ | refine belowT ?_ (by assumption) | refine bel5 ?_ (by simp; try omega))) (Nat.le_refl _))).mono ?_
          rintro e w1 ⟨⟨a1, n1, c1, rfl, i1, fr⟩, hb1⟩
          have xR := Lay.made ((w.alloc (.cells #[.slice a n c, .int .i64 b.h, .int .i64 b.t] 25)).alloc (.cells #[.int .i64 (xk), .int .i64 xz, .int .i64 xn, .int .i64 xt, .slice ca cn cc] 32)) [.slice none 0 0, .int .i64 0, .int .i64 0] 25
          simp only [World.size_alloc] at xR
          replace xR := xR.below hb1
          have bw : Below w.heap.size w w1 := by (repeat first | exact bel0 | assumption | refine bel1 ?_ | refine bel2 ?_ | refine bel3 ?_ | refine belowT ?_ (by assumption) | refine bel5 ?_ (by simp; try omega))
          simp only [World.size_alloc] at fr
          have FR := hide fr
          clear fr hb1
          generalize hfn : clearB b who = r at *
          have HF := hide hfn
          clear hfn
          obtain ⟨⟨rk, rh, rt⟩, re⟩ := r
          dsimp only at i1 ⊢
          have e0 := xR.cell 0 _ rfl
          have e1 := xR.cell 1 _ rfl
          have e2 := xR.cell 2 _ rfl
          have f0 := xR.ice 0
          have f1 := xR.ice 1
          have f2 := xR.ice 2
          go_wp2
          have hoff : ∀ R, R ≤ w.heap.size + 1 + 1 → (n1 = 0 ∨ ∀ x, a1 = some x → x.block ≠ R) := fun R hR => .inr fun x e => by have := FR.out x e; omega
          have zB := ((xR.set 0 (.slice a1 n1 c1)).set 1 (.int .i64 rh)).set 2 (.int .i64 rt)
          have hbut := (((ButI.refl (w.heap.size + 1 + 1) w1).step 0 (.slice a1 n1 c1)).step 1 (.int .i64 rh)).step 2 (.int .i64 rt)
          generalize ((w1.setCell ⟨w.heap.size + 1 + 1, 0, none⟩ (.slice a1 n1 c1)).setCell ⟨w.heap.size + 1 + 1, 1, none⟩ (.int .i64 rh)).setCell ⟨w.heap.size + 1 + 1, 2, none⟩ (.int .i64 rt) = w9 at *
          have z0 := zB.cell 0 _ rfl
          have z1 := zB.cell 1 _ rfl
          have z2 := zB.cell 2 _ rfl
          exact bodyPost_ret (v := .tuple #[.agg #[.slice a1 n1 c1, .int .i64 rh, .int .i64 rt], .int .i64 re]) (by simp [results, Tryd.results70, go_sem, z0, z1, z2]) rfl
            ⟨⟨a1, n1, c1, by first | (rw [HF.out]; done) | (rw [HF.out]; rfl), by rw [HF.out]; exact i1.but hbut.but (hoff _ (Nat.le_refl _)), fun x e => by have := FR.out x e; omega⟩, bw.trans (hbut.below (B := w.heap.size) (by omega))⟩

set_option maxHeartbeats 2000000 in
theorem dread_c (a : Option Addr) (n c : Nat) (Z : List ZV) (ca : Option Addr) (cn cc : Nat) (x : PC) (w : World) (h : Zones w a n c Z) (hz : checkZs (Z.map ZV.p) = 0) :
    Calls Tryd.prog 62 #[.slice a n c, cmdV ca cn cc x] w fun e w' => (∃ y : AV, e = .returned y.v ∧ y.ok w' ∧ y.new w.heap.size ∧ y.p = readD (Z.map ZV.p) x) ∧ Below w.heap.size w w' := by
  obtain ⟨xk, xz, xn, xt, xd⟩ := x
  unfold cmdV
  dsimp only
  obtain ⟨h4, b, off, rfl, hr⟩ := zs_four h hz
  subst h4
  have xR := Lay.made (w.alloc (.cells #[.int .i64 xk, .int .i64 xz, .int .i64 xn, .int .i64 xt, .slice ca cn cc] 32)) [.int .i64 0, .int .i64 0, .slice none 0 0] 38
  simp only [World.size_alloc] at xR
  cases hin : inB xz 0 3
  · have HR := hide (show readD (Z.map ZV.p) ⟨xk, xz, xn, xt, xd⟩ = errA 5 by simp [readD, hin])
    have HI := hide hin
    clear hin
    go_enter Tryd.func62, Tryd.ntmps62
    clear xR
    go_wp2_with (go_at_call 72; refine (hasZone_c _ _ _ _ _ (by omega)).mono ?_; rintro e w1 ⟨rfl, rfl⟩; rw [show inB xz 0 (((4 : Nat) : Int) - 1) = false from HI.out])
    exact bodyPost_ret (v := .agg #[.int .i64 5, .int .i64 0, .slice none 0 0]) (by simp [results, Tryd.results62, go_sem]) rfl ⟨⟨AV.err 5, rfl, AV.err_ok _ _, AV.err_new _ _, by rw [HR.out]; rfl⟩, by (repeat first | exact bel0 | assumption | refine bel1 ?_ | refine bel2 ?_ | refine bel3 ?_ | refine belowT ?_ (by assumption) | refine bel5 ?_ (by simp; try omega))⟩
  · have hk : 0 ≤ xz ∧ xz ≤ 3 := by simp [inB] at hin; omega
    obtain ⟨j, rfl⟩ := Int.eq_ofNat_of_zero_le hk.1
    have hj : j < 4 := by omega
    have hj' : (j : Int) < 4 := by omega
    obtain ⟨z, hzz⟩ : ∃ z, Z[j]? = some z := ⟨Z[j]'(by rw [h.len]; omega), by simp⟩
    obtain ⟨y0, y1⟩ := hr j z hzz
    have iz := h.ok z (List.mem_of_getElem? hzz)
    have HR := hide (show readD (Z.map ZV.p) ⟨xk, j, xn, xt, xd⟩ = ⟨readE z.s z.l xt xn, 0, rL z.s z.l xt xn⟩ by
      have e : at' (Z.map ZV.p) (j : Int) = z.p := by simp [at', List.getD, hzz]
      simp only [readD, hin, e, ZV.p]
      simp)
    have HI := hide hin
    clear hin hk hr hzz
    replace y0 := past2 y0
    replace y1 := past2 y1
    go_enter Tryd.func62, Tryd.ntmps62
    have bw := belowA (belowA (Below.refl w.heap.size w) (.cells #[.int .i64 xk, .int .i64 j, .int .i64 xn, .int .i64 xt, .slice ca cn cc] 32)) (.cells #[.int .i64 0, .int .i64 0, .slice none 0 0] 38)
    go_upto_region 1 with fail
    go_wp2_with (go_at_call 72; refine (hasZone_c _ _ _ _ _ (by omega)).mono ?_; rintro e w1 ⟨rfl, rfl⟩; rw [show inB (j : Int) 0 (((4 : Nat) : Int) - 1) = true from HI.out])
    go_region_held3 (fun w' => w'.cell? ⟨w.heap.size, 0, none⟩ = some (.int .i64 xk) ∧ w'.cell? ⟨w.heap.size, 1, none⟩ = some (.int .i64 j) ∧ w'.cell? ⟨w.heap.size, 2, none⟩ = some (.int .i64 xn) ∧ w'.cell? ⟨w.heap.size, 3, none⟩ = some (.int .i64 xt) ∧ w'.cell? ⟨b, off + j * 2, none⟩ = some (.int .i64 z.s) ∧ w'.cell? ⟨b, off + j * 2 + 1, none⟩ = some (.slice z.a z.n z.c)) ((first | (go_simp; done) | (simp [*, World.cell?_alloc_at, World.cell?_alloc_past, World.cell?_alloc_some, World.cell?_setCell_far]; done))) (first | (go_at_call 73; refine (Read_f z.s z.a z.n z.c z.l xt xn _ (by refine Ints.below iz (B := w.heap.size) ?_ (Nat.le_refl _); (repeat first | exact bel0 | assumption | refine bel1 ?_ | refine bel2 ?_ | refine bel3 ?_ | refine belowT ?_ (by assumption) | refine bel5 ?_ (by simp; try omega)))).mono ?_; rintro e w1 ⟨⟨a1, n1, c1, rfl, i1, fr⟩, hb1⟩; (have g0 := keepc hb1 (p := ⟨w.heap.size, 0, none⟩) (u := .int .i64 xk) (by (first | (go_simp; done) | (simp [*, World.cell?_alloc_at, World.cell?_alloc_past, World.cell?_alloc_some, World.cell?_setCell_far]; done)))); (have g1 := keepc hb1 (p := ⟨w.heap.size, 1, none⟩) (u := .int .i64 j) (by (first | (go_simp; done) | (simp [*, World.cell?_alloc_at, World.cell?_alloc_past, World.cell?_alloc_some, World.cell?_setCell_far]; done)))); (have g2 := keepc hb1 (p := ⟨w.heap.size, 2, none⟩) (u := .int .i64 xn) (by (first | (go_simp; done) | (simp [*, World.cell?_alloc_at, World.cell?_alloc_past, World.cell?_alloc_some, World.cell?_setCell_far]; done)))); (have g3 := keepc hb1 (p := ⟨w.heap.size, 3, none⟩) (u := .int .i64 xt) (by (first | (go_simp; done) | (simp [*, World.cell?_alloc_at, World.cell?_alloc_past, World.cell?_alloc_some, World.cell?_setCell_far]; done)))); (have g4 := keepc hb1 (p := ⟨b, off + j * 2, none⟩) (u := .int .i64 z.s) (by (first | (go_simp; done) | (simp [*, World.cell?_alloc_at, World.cell?_alloc_past, World.cell?_alloc_some, World.cell?_setCell_far]; done)))); (have g5 := keepc hb1 (p := ⟨b, off + j * 2 + 1, none⟩) (u := .slice z.a z.n z.c) (by (first | (go_simp; done) | (simp [*, World.cell?_alloc_at, World.cell?_alloc_past, World.cell?_alloc_some, World.cell?_setCell_far]; done))))))
    have xR1 := xR.below (w' := w1) (by (repeat first | exact bel0 | assumption | refine bel1 ?_ | refine bel2 ?_ | refine bel3 ?_ | refine belowT ?_ (by assumption) | refine bel5 ?_ (by simp; try omega)))
    have bw1 : Below w.heap.size w w1 := by (repeat first | exact bel0 | assumption | refine bel1 ?_ | refine bel2 ?_ | refine bel3 ?_ | refine belowT ?_ (by assumption) | refine bel5 ?_ (by simp; try omega))
    simp at fr
    have FR := hide fr
    clear xR hb1 fr bw y0 y1
    have e0 := xR1.cell 0 _ rfl
    have e1 := xR1.cell 1 _ rfl
    have e2 := xR1.cell 2 _ rfl
    have f0 := xR1.ice 0
    have f1 := xR1.ice 1
    have f2 := xR1.ice 2
    have xR := xR1
    by_cases he : readE z.s z.l xt xn = 0
    · rw [he]
      have HE := hide he
      clear he
      go_wp2
      have zB := ((xR.set 0 (.int .i64 (0))).set 1 (.int .i64 (0))).set 2 (.slice a1 n1 c1)
      have hbut := (((ButI.refl (w.heap.size + 1) (w1)).step 0 (.int .i64 (0))).step 1 (.int .i64 (0))).step 2 (.slice a1 n1 c1)
      generalize (((w1).setCell ⟨w.heap.size + 1, 0, none⟩ (.int .i64 (0))).setCell ⟨w.heap.size + 1, 1, none⟩ (.int .i64 (0))).setCell ⟨w.heap.size + 1, 2, none⟩ (.slice a1 n1 c1) = w9 at *
      have z0 := zB.cell 0 _ rfl
      have z1 := zB.cell 1 _ rfl
      have z2 := zB.cell 2 _ rfl
      exact bodyPost_ret (v := .agg #[.int .i64 0, .int .i64 0, .slice a1 n1 c1]) (by simp [results, Tryd.results62, go_sem, z0, z1, z2]) rfl
        ⟨⟨⟨0, 0, a1, n1, c1, rL z.s z.l xt xn⟩, rfl, i1.but hbut.but (.inr fun x e => by have := FR.out x e; omega), fun R hR => .inr fun x e => by have := FR.out x e; omega, by rw [HR.out, HE.out]; rfl⟩, bw1.trans (hbut.below (B := w.heap.size) (by omega))⟩
    · have he' : (readE z.s z.l xt xn != 0) = true := by simpa using he
      have HE := hide he
      have HL := hide (show rL z.s z.l xt xn = [] by simp [rL, he])
      clear he
      generalize readE z.s z.l xt xn = re at *
      go_wp2
      have zB := ((xR.set 0 (.int .i64 (re))).set 1 (.int .i64 (0))).set 2 (.slice none 0 0)
      have hbut := (((ButI.refl (w.heap.size + 1) (w1)).step 0 (.int .i64 (re))).step 1 (.int .i64 (0))).step 2 (.slice none 0 0)
      generalize (((w1).setCell ⟨w.heap.size + 1, 0, none⟩ (.int .i64 (re))).setCell ⟨w.heap.size + 1, 1, none⟩ (.int .i64 (0))).setCell ⟨w.heap.size + 1, 2, none⟩ (.slice none 0 0) = w9 at *
      have z0 := zB.cell 0 _ rfl
      have z1 := zB.cell 1 _ rfl
      have z2 := zB.cell 2 _ rfl
      exact bodyPost_ret (v := .agg #[.int .i64 re, .int .i64 0, .slice none 0 0]) (by simp [results, Tryd.results62, go_sem, z0, z1, z2]) rfl
        ⟨⟨AV.err re, rfl, AV.err_ok _ _, AV.err_new _ _, by rw [HR.out, HL.out]; rfl⟩, bw1.trans (hbut.below (B := w.heap.size) (by omega))⟩

end Go.Proofs.YtcmladgldjcdmaaDoor
