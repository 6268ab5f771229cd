/- The contract of desk's work; no condition but that the box holds a right desk whose lists lie elsewhere, that the hand is there and the command a right one. -/
import Derived.Test.YtenmamcaldabdaaGreatDoorHallPartsG25
import Derived.Test.YtenmamcaldabdaaGreatDoorHallPartsG12
namespace Go.Proofs.YtenmamcaldabdaaGreatDoor
open Go.RowKit
set_option linter.unusedVariables false
set_option maxRecDepth 100000
set_option linter.unusedSimpArgs false

set_option maxHeartbeats 4000000 in
theorem work_c (B : Nat) (d : DV) (j : Nat) (ca : Option Addr) (cn cc : Nat) (x : PC) (w : World) (h : DBox w B d) (hx : Ints w ca cn cc x.d) (hd : checkD d.p = 0) (hj : j < 3) (hk : 1 ≤ x.k ∧ x.k ≤ 12) :
    Calls Tryz.prog 81 #[.pointer (some ⟨B, 0, none⟩), .int .i64 j, cmdV ca cn cc x] w fun e w' => Worked B d (doneD d.p j x) w e w' := by
  obtain ⟨za, zn, zc, Z, ka, kn, kc, bk, bh, bt⟩ := d
  obtain ⟨xk, xz, xn, xt, xd⟩ := x
  obtain ⟨hz, hb⟩ := checkD_ok hd
  have HM := hide (may_ok hb hj (xk != 7))
  have G1 := hide (fun w' h' => reserve_c B ⟨za, zn, zc, Z, ka, kn, kc, bk, bh, bt⟩ j ca cn cc ⟨xk, xz, xn, xt, xd⟩ w' h')
  have G2 := hide (fun w' h' => dmay_c ka kn kc ⟨bk, bh, bt⟩ j ca cn cc ⟨xk, xz, xn, xt, xd⟩ w' h')
  have G3 := hide (fun w' h' => dread_c za zn zc Z ca cn cc ⟨xk, xz, xn, xt, xd⟩ w' h' hz)
  have G4 := hide (fun w' h' i' => dwrite_c B ⟨za, zn, zc, Z, ka, kn, kc, bk, bh, bt⟩ ca cn cc ⟨xk, xz, xn, xt, xd⟩ w' h' i' hz)
  have G5 := hide (fun w' h' => turn_c B ⟨za, zn, zc, Z, ka, kn, kc, bk, bh, bt⟩ ca cn cc ⟨xk, xz, xn, xt, xd⟩ w' h')
  have hlt := h.lay.lt
  have y0 := h.lay.cell 0 _ rfl
  have y1 := h.lay.cell 1 _ rfl
  have y2 := h.lay.cell 2 _ rfl
  have y3 := h.lay.cell 3 _ rfl
  unfold cmdV bookV at *
  dsimp only [DV.p] at *
  obtain ⟨hk1, hk2⟩ := hk
  have HD : Hid (doneD ⟨Z.map ZV.p, ⟨bk, bh, bt⟩⟩ j ⟨xk, xz, xn, xt, xd⟩ = if 8 ≤ xk then (if (bookDo ⟨bk, bh, bt⟩ j ⟨xk, xz, xn, xt, xd⟩).2 ≠ 0 then (⟨Z.map ZV.p, ⟨bk, bh, bt⟩⟩, errA (bookDo ⟨bk, bh, bt⟩ j ⟨xk, xz, xn, xt, xd⟩).2) else (⟨Z.map ZV.p, (bookDo ⟨bk, bh, bt⟩ j ⟨xk, xz, xn, xt, xd⟩).1⟩, zeroA))
      else if mightB ⟨bk, bh, bt⟩ j (xk != 7) = false then (⟨Z.map ZV.p, ⟨bk, bh, bt⟩⟩, errA 8)
      else if xk = 7 then (⟨Z.map ZV.p, ⟨bk, bh, bt⟩⟩, readD (Z.map ZV.p) ⟨xk, xz, xn, xt, xd⟩)
      else if xk = 5 ∨ xk = 6 then writeD ⟨Z.map ZV.p, ⟨bk, bh, bt⟩⟩ ⟨xk, xz, xn, xt, xd⟩
      else if (zoneDo (Z.map ZV.p) ⟨xk, xz, xn, xt, xd⟩).2 ≠ 0 then (⟨Z.map ZV.p, ⟨bk, bh, bt⟩⟩, errA (zoneDo (Z.map ZV.p) ⟨xk, xz, xn, xt, xd⟩).2) else (⟨(zoneDo (Z.map ZV.p) ⟨xk, xz, xn, xt, xd⟩).1, ⟨bk, bh, bt⟩⟩, zeroA)) := hide rfl
  have HBD : Hid (bookedD ⟨Z.map ZV.p, ⟨bk, bh, bt⟩⟩ j ⟨xk, xz, xn, xt, xd⟩ = if (bookDo ⟨bk, bh, bt⟩ j ⟨xk, xz, xn, xt, xd⟩).2 = 0 then ⟨Z.map ZV.p, (bookDo ⟨bk, bh, bt⟩ j ⟨xk, xz, xn, xt, xd⟩).1⟩ else ⟨Z.map ZV.p, ⟨bk, bh, bt⟩⟩) := hide rfl
  have HZD : Hid (zoned ⟨Z.map ZV.p, ⟨bk, bh, bt⟩⟩ ⟨xk, xz, xn, xt, xd⟩ = if (zoneDo (Z.map ZV.p) ⟨xk, xz, xn, xt, xd⟩).2 = 0 then ⟨(zoneDo (Z.map ZV.p) ⟨xk, xz, xn, xt, xd⟩).1, ⟨bk, bh, bt⟩⟩ else ⟨Z.map ZV.p, ⟨bk, bh, bt⟩⟩) := hide rfl
  have xR := Lay.made1 w (.cells #[.int .i64 xk, .int .i64 xz, .int .i64 xn, .int .i64 xt, .slice ca cn cc] 32) [.int .i64 0, .int .i64 0, .slice none 0 0] 38
  have bw : Below w.heap.size w ((w.alloc (.cells #[.int .i64 xk, .int .i64 xz, .int .i64 xn, .int .i64 xt, .slice ca cn cc] 32)).alloc (.cells #[.int .i64 0, .int .i64 0, .slice none 0 0] 38)) := by (repeat (first | exact Below.refl _ _ | assumption | refine Below.drew ?_ | refine below_drewN ?_ _ | refine belowA ?_ _ | refine belowT ?_ (by assumption) | refine Below.setCell ?_ (by first | (simp; done) | (simp; omega)) _))
  have hoR : ∀ R, w.heap.size ≤ R → DV.off R ⟨za, zn, zc, Z, ka, kn, kc, bk, bh, bt⟩ := fun R hR => h.ok.off hR
  have hBR : B ≠ w.heap.size + 1 := by omega
  by_cases h8 : 8 ≤ xk
  · have hcs : (xk == 8) = true ∨ ((xk == 8) = false ∧ (xk == 9) = true) ∨ ((xk == 8) = false ∧ (xk == 9) = false ∧ (xk == 10) = true) ∨ ((xk == 8) = false ∧ (xk == 9) = false ∧ (xk == 10) = false ∧ (xk == 11) = true) ∨ ((xk == 8) = false ∧ (xk == 9) = false ∧ (xk == 10) = false ∧ (xk == 11) = false ∧ (xk == 12) = true) := by simp; omega
    have H8 := hide h8
    clear h8 hk1 hk2
    rcases hcs with t1 | ⟨t1, t2⟩ | ⟨t1, t2, t3⟩ | ⟨t1, t2, t3, t4⟩ | ⟨t1, t2, t3, t4, t5⟩
    all_goals
      go_enter Tryz.func81, Tryz.ntmps81
      go_wp2_with fail
      refine (G1.out _ (h.below bw)).mono ?_
      rintro e w1 ⟨⟨rfl, d', h1, hn, hp⟩, hb1⟩
      replace xR := xR.butI hb1 (by omega)
      have b1 := (ButI.of_below (g := B) bw (by omega)).trans hb1
      simp only [World.size_alloc] at hn
      have HNW := hide (show ∀ R, R < w.heap.size → DV.off R ⟨za, zn, zc, Z, ka, kn, kc, bk, bh, bt⟩ → d'.off R from fun R hR => hn R (by omega))
      have hoff := hn (w.heap.size + 1) (by omega) (hoR _ (by omega))
      rw [HBD.out] at hp
      have HP := hide hp
      clear hn hp hb1
      have e0 := xR.cell 0 _ rfl
      have e1 := xR.cell 1 _ rfl
      have e2 := xR.cell 2 _ rfl
      have f0 := xR.ice 0
      have f1 := xR.ice 1
      have f2 := xR.ice 2
      generalize hfn : bookDo ⟨bk, bh, bt⟩ j ⟨xk, xz, xn, xt, xd⟩ = r at *
      obtain ⟨rb, re⟩ := r
      clear hfn
      dsimp only at *
      go_wp2
      have zB := ((xR.set 0 (.int .i64 (re))).set 1 (.int .i64 (0))).set 2 (.slice none 0 0)
      have hbut := (((ButI.refl (w.heap.size + 1) (w1)).step 0 (.int .i64 (re))).step 1 (.int .i64 (0))).step 2 (.slice none 0 0)
      generalize (((w1).setCell ⟨w.heap.size + 1, 0, none⟩ (.int .i64 (re))).setCell ⟨w.heap.size + 1, 1, none⟩ (.int .i64 (0))).setCell ⟨w.heap.size + 1, 2, none⟩ (.slice none 0 0) = w9 at *
      have z0 := zB.cell 0 _ rfl
      have z1 := zB.cell 1 _ rfl
      have z2 := zB.cell 2 _ rfl
      refine bodyPost_ret (v := .agg #[.int .i64 re, .int .i64 0, .slice none 0 0]) (by simp [results, Tryz.results81, go_sem, z0, z1, z2]) rfl
        ⟨⟨d', AV.err re, rfl, h1.butI hbut hBR hoff, HNW.out, AV.err_ok _ _, AV.err_new _ _, ?_, ?_⟩, b1.own hbut (by omega) (by omega)⟩
      · rw [HD.out, if_pos (show 8 ≤ xk by have := H8.out; omega), show d'.p = _ from HP.out]
        by_cases he : re = 0 <;> simp [he]
      · rw [HD.out, if_pos (by have := H8.out; omega), AV.err_p]
        by_cases he : re = 0 <;> simp [he, errA, zeroA]
  · have t1 : (xk == 8) = false := by simp; omega
    have t2 : (xk == 9) = false := by simp; omega
    have t3 : (xk == 10) = false := by simp; omega
    have t4 : (xk == 11) = false := by simp; omega
    have t5 : (xk == 12) = false := by simp; omega
    have H8 := hide h8
    have hk7 : xk ≤ 7 := by omega
    clear h8 hk2
    have hoB := h.off
    replace y0 := past2 y0
    replace y1 := past2 y1
    replace y2 := past2 y2
    replace y3 := past2 y3
    go_enter Tryz.func81, Tryz.ntmps81
    go_wp2_with fail
    go_cut [27] (fun v wx => v = .bool (!mightB ⟨bk, bh, bt⟩ j (xk != 7)) ∧ Below ((w.alloc (.cells #[.int .i64 xk, .int .i64 xz, .int .i64 xn, .int .i64 xt, .slice ca cn cc] 32)).alloc (.cells #[.int .i64 0, .int .i64 0, .slice none 0 0] 38)).heap.size ((w.alloc (.cells #[.int .i64 xk, .int .i64 xz, .int .i64 xn, .int .i64 xt, .slice ca cn cc] 32)).alloc (.cells #[.int .i64 0, .int .i64 0, .slice none 0 0] 38)) wx)
    case first =>
      go_region_held3 (fun w' => w'.cell? ⟨B, 1, none⟩ = some (.slice ka kn kc) ∧ w'.cell? ⟨B, 2, none⟩ = some (.int .i64 bh) ∧ w'.cell? ⟨B, 3, none⟩ = some (.int .i64 bt) ∧ w'.cell? ⟨w.heap.size, 0, none⟩ = some (.int .i64 xk) ∧ w'.cell? ⟨w.heap.size, 1, none⟩ = some (.int .i64 xz) ∧ w'.cell? ⟨w.heap.size, 2, none⟩ = some (.int .i64 xn) ∧ w'.cell? ⟨w.heap.size, 3, none⟩ = some (.int .i64 xt) ∧ w'.cell? ⟨w.heap.size, 4, none⟩ = some (.slice ca cn cc)) ((first | (go_simp; done) | (simp [*, World.cell?_alloc_at, World.cell?_alloc_past, World.cell?_alloc_some, World.cell?_setCell_far]; done))) (first | (go_at_call 109; refine (G2.out _ (by refine Ints.below h.ok.k (B := w.heap.size) ?_ (Nat.le_refl _); (repeat (first | exact Below.refl _ _ | assumption | refine Below.drew ?_ | refine below_drewN ?_ _ | refine belowA ?_ _ | refine belowT ?_ (by assumption) | refine Below.setCell ?_ (by first | (simp; done) | (simp; omega)) _)))).mono ?_; rintro e w1 ⟨rfl, hb1⟩; rw [HM.out]; (have g0 := keepc hb1 (p := ⟨B, 1, none⟩) (u := .slice ka kn kc) (by (first | (go_simp; done) | (simp [*, World.cell?_alloc_at, World.cell?_alloc_past, World.cell?_alloc_some, World.cell?_setCell_far]; done)))); (have g1 := keepc hb1 (p := ⟨B, 2, none⟩) (u := .int .i64 bh) (by (first | (go_simp; done) | (simp [*, World.cell?_alloc_at, World.cell?_alloc_past, World.cell?_alloc_some, World.cell?_setCell_far]; done)))); (have g2 := keepc hb1 (p := ⟨B, 3, none⟩) (u := .int .i64 bt) (by (first | (go_simp; done) | (simp [*, World.cell?_alloc_at, World.cell?_alloc_past, World.cell?_alloc_some, World.cell?_setCell_far]; done)))); (have g3 := keepc hb1 (p := ⟨w.heap.size, 0, none⟩) (u := .int .i64 xk) (by (first | (go_simp; done) | (simp [*, World.cell?_alloc_at, World.cell?_alloc_past, World.cell?_alloc_some, World.cell?_setCell_far]; done)))); (have g4 := keepc hb1 (p := ⟨w.heap.size, 1, none⟩) (u := .int .i64 xz) (by (first | (go_simp; done) | (simp [*, World.cell?_alloc_at, World.cell?_alloc_past, World.cell?_alloc_some, World.cell?_setCell_far]; done)))); (have g5 := keepc hb1 (p := ⟨w.heap.size, 2, none⟩) (u := .int .i64 xn) (by (first | (go_simp; done) | (simp [*, World.cell?_alloc_at, World.cell?_alloc_past, World.cell?_alloc_some, World.cell?_setCell_far]; done)))); (have g6 := keepc hb1 (p := ⟨w.heap.size, 3, none⟩) (u := .int .i64 xt) (by (first | (go_simp; done) | (simp [*, World.cell?_alloc_at, World.cell?_alloc_past, World.cell?_alloc_some, World.cell?_setCell_far]; done)))); (have g7 := keepc hb1 (p := ⟨w.heap.size, 4, none⟩) (u := .slice ca cn cc) (by (first | (go_simp; done) | (simp [*, World.cell?_alloc_at, World.cell?_alloc_past, World.cell?_alloc_some, World.cell?_setCell_far]; done))))))
      go_wp2_with fail
      go_meet
      case rel => exact ⟨rfl, by (repeat (first | exact Below.refl _ _ | assumption | refine Below.drew ?_ | refine below_drewN ?_ _ | refine belowA ?_ _ | refine belowT ?_ (by assumption) | refine Below.setCell ?_ (by first | (simp; done) | (simp; omega)) _))⟩
    case rest =>
      obtain ⟨rfl, hbc⟩ := hcut
      replace xR := xR.below hbc
      replace bw := belowT bw hbc
      have h1 := h.below bw
      have hx1 := hx.below bw (Nat.le_refl _)
      have k0 := keepc hbc (p := ⟨w.heap.size, 0, none⟩) (u := .int .i64 xk) (by go_simp)
      have k1 := keepc hbc (p := ⟨w.heap.size, 1, none⟩) (u := .int .i64 xz) (by go_simp)
      have k2 := keepc hbc (p := ⟨w.heap.size, 2, none⟩) (u := .int .i64 xn) (by go_simp)
      have k3 := keepc hbc (p := ⟨w.heap.size, 3, none⟩) (u := .int .i64 xt) (by go_simp)
      have k4 := keepc hbc (p := ⟨w.heap.size, 4, none⟩) (u := .slice ca cn cc) (by go_simp)
      replace y0 := keepc hbc (y0 _ _)
      have hs := hbc.size
      simp only [World.size_alloc] at hs
      clear hbc y1 y2 y3
      have e0 := xR.cell 0 _ rfl
      have e1 := xR.cell 1 _ rfl
      have e2 := xR.cell 2 _ rfl
      have f0 := xR.ice 0
      have f1 := xR.ice 1
      have f2 := xR.ice 2
      have bB := ButI.of_below (g := B) bw (by omega)
      cases hm : mightB ⟨bk, bh, bt⟩ j (xk != 7)
      · have HMB := hide hm
        clear hm
        go_wp2
        have zB := ((xR.set 0 (.int .i64 (8))).set 1 (.int .i64 (0))).set 2 (.slice none 0 0)
        have hbut := (((ButI.refl (w.heap.size + 1) (wc)).step 0 (.int .i64 (8))).step 1 (.int .i64 (0))).step 2 (.slice none 0 0)
        generalize (((wc).setCell ⟨w.heap.size + 1, 0, none⟩ (.int .i64 (8))).setCell ⟨w.heap.size + 1, 1, none⟩ (.int .i64 (0))).setCell ⟨w.heap.size + 1, 2, none⟩ (.slice none 0 0) = w9 at *
        have z0 := zB.cell 0 _ rfl
        have z1 := zB.cell 1 _ rfl
        have z2 := zB.cell 2 _ rfl
        refine bodyPost_ret (v := .agg #[.int .i64 8, .int .i64 0, .slice none 0 0]) (by simp [results, Tryz.results81, go_sem, z0, z1, z2]) rfl
          ⟨⟨_, AV.err 8, rfl, h1.butI hbut hBR (hoR _ (by omega)), fun R _ ho => ho, AV.err_ok _ _, AV.err_new _ _, ?_, ?_⟩, bB.own hbut (by omega) (by omega)⟩
        · rw [HD.out, if_neg (by have := H8.out; omega), if_pos HMB.out]
          rfl
        · rw [HD.out, if_neg (by have := H8.out; omega), if_pos HMB.out]
          rfl
      · have HMB := hide (show ¬ mightB ⟨bk, bh, bt⟩ j (xk != 7) = false by rw [hm]; simp)
        clear hm
        by_cases h7 : xk = 7
        · have t7 : (xk == 7) = true := by simpa using h7
          have HR := hide (show doneD ⟨Z.map ZV.p, ⟨bk, bh, bt⟩⟩ j ⟨xk, xz, xn, xt, xd⟩ = (⟨Z.map ZV.p, ⟨bk, bh, bt⟩⟩, readD (Z.map ZV.p) ⟨xk, xz, xn, xt, xd⟩) by rw [HD.out, if_neg (by have := H8.out; omega), if_neg HMB.out, if_pos h7])
          clear h7 HD
          go_upto_region 12 with fail
          go_cut [6] (fun v wx => v = .pointer (some ⟨w.heap.size + 1, 0, none⟩) ∧ ∃ y : AV, y.ok wx ∧ y.new w.heap.size ∧ y.p = readD (Z.map ZV.p) ⟨xk, xz, xn, xt, xd⟩ ∧ Lay wx (w.heap.size + 1) [.int .i64 y.e, .int .i64 y.t, .slice y.a y.n y.c] ∧ DBox wx B ⟨za, zn, zc, Z, ka, kn, kc, bk, bh, bt⟩ ∧ ButI B w wx)
          case first =>
            go_region_held3 (fun w' => w'.cell? ⟨B, 0, none⟩ = some (.slice za zn zc) ∧ w'.cell? ⟨w.heap.size, 0, none⟩ = some (.int .i64 xk) ∧ w'.cell? ⟨w.heap.size, 1, none⟩ = some (.int .i64 xz) ∧ w'.cell? ⟨w.heap.size, 2, none⟩ = some (.int .i64 xn) ∧ w'.cell? ⟨w.heap.size, 3, none⟩ = some (.int .i64 xt) ∧ w'.cell? ⟨w.heap.size, 4, none⟩ = some (.slice ca cn cc)) ((first | (go_simp; done) | (simp [*, World.cell?_alloc_at, World.cell?_alloc_past, World.cell?_alloc_some, World.cell?_setCell_far]; done))) (first | (go_at_call 110; refine (G3.out _ (by refine Zones.below h1.ok.z (B := wc.heap.size) ?_ (Nat.le_refl _); (repeat (first | exact Below.refl _ _ | assumption | refine Below.drew ?_ | refine below_drewN ?_ _ | refine belowA ?_ _ | refine belowT ?_ (by assumption) | refine Below.setCell ?_ (by first | (simp; done) | (simp; omega)) _)))).mono ?_; rintro e w1 ⟨⟨⟨ye, yt, ya, yn, yc, yd⟩, rfl, yok, ynew, yp⟩, hb1⟩; (have g0 := keepc hb1 (p := ⟨B, 0, none⟩) (u := .slice za zn zc) (by (first | (go_simp; done) | (simp [*, World.cell?_alloc_at, World.cell?_alloc_past, World.cell?_alloc_some, World.cell?_setCell_far]; done)))); (have g1 := keepc hb1 (p := ⟨w.heap.size, 0, none⟩) (u := .int .i64 xk) (by (first | (go_simp; done) | (simp [*, World.cell?_alloc_at, World.cell?_alloc_past, World.cell?_alloc_some, World.cell?_setCell_far]; done)))); (have g2 := keepc hb1 (p := ⟨w.heap.size, 1, none⟩) (u := .int .i64 xz) (by (first | (go_simp; done) | (simp [*, World.cell?_alloc_at, World.cell?_alloc_past, World.cell?_alloc_some, World.cell?_setCell_far]; done)))); (have g3 := keepc hb1 (p := ⟨w.heap.size, 2, none⟩) (u := .int .i64 xn) (by (first | (go_simp; done) | (simp [*, World.cell?_alloc_at, World.cell?_alloc_past, World.cell?_alloc_some, World.cell?_setCell_far]; done)))); (have g4 := keepc hb1 (p := ⟨w.heap.size, 3, none⟩) (u := .int .i64 xt) (by (first | (go_simp; done) | (simp [*, World.cell?_alloc_at, World.cell?_alloc_past, World.cell?_alloc_some, World.cell?_setCell_far]; done)))); (have g5 := keepc hb1 (p := ⟨w.heap.size, 4, none⟩) (u := .slice ca cn cc) (by (first | (go_simp; done) | (simp [*, World.cell?_alloc_at, World.cell?_alloc_past, World.cell?_alloc_some, World.cell?_setCell_far]; done)))); (have xR1 := xR.below (w' := w1) (by (repeat (first | exact Below.refl _ _ | assumption | refine Below.drew ?_ | refine below_drewN ?_ _ | refine belowA ?_ _ | refine belowT ?_ (by assumption) | refine Below.setCell ?_ (by first | (simp; done) | (simp; omega)) _)))); (have e0 := xR1.cell 0 _ rfl); (have e1 := xR1.cell 1 _ rfl); (have e2 := xR1.cell 2 _ rfl); (have f0 := xR1.ice 0); (have f1 := xR1.ice 1); (have f2 := xR1.ice 2); unfold AV.v; dsimp only))
            have bc1 : Below wc.heap.size wc w1 := by (repeat (first | exact Below.refl _ _ | assumption | refine Below.drew ?_ | refine below_drewN ?_ _ | refine belowA ?_ _ | refine belowT ?_ (by assumption) | refine Below.setCell ?_ (by first | (simp; done) | (simp; omega)) _))
            have hs1 := hb1.size
            go_wp2_with fail
            go_meet
            case rel =>
              have zB := ((xR1.set 0 (.int .i64 ye)).set 1 (.int .i64 yt)).set 2 (.slice ya yn yc)
              have hbut := (((ButI.refl (w.heap.size + 1) w1).step 0 (.int .i64 ye)).step 1 (.int .i64 yt)).step 2 (.slice ya yn yc)
              exact ⟨rfl, ⟨ye, yt, ya, yn, yc, yd⟩, AV.ok.but yok hbut.but (ynew _ (by first | exact hs | (simp; exact hs) | (simp; omega))), AV.new.mono ynew (by first | omega | (simp; omega)), yp, zB, (h1.below bc1).butI hbut hBR (hoR _ (by omega)), (bB.trans (ButI.of_below bc1 (by omega))).own hbut (by omega) (by omega)⟩
          case rest =>
            obtain ⟨rfl, y, yok, ynew, yp, zB, hbx, hbt⟩ := hcut
            have z0 := zB.cell 0 _ rfl
            have z1 := zB.cell 1 _ rfl
            have z2 := zB.cell 2 _ rfl
            have YP := hide yp
            clear yp
            go_wp2
            exact bodyPost_ret (v := y.v) (by simp [results, Tryz.results81, go_sem, AV.v, z0, z1, z2]) rfl
              ⟨⟨_, y, rfl, hbx, fun R _ ho => ho, yok, ynew, by rw [HR.out]; rfl, by rw [HR.out, YP.out]⟩, hbt⟩
        · have t7 : (xk == 7) = false := by simpa using h7
          by_cases h56 : xk = 5 ∨ xk = 6
          · have HR := hide (show doneD ⟨Z.map ZV.p, ⟨bk, bh, bt⟩⟩ j ⟨xk, xz, xn, xt, xd⟩ = writeD ⟨Z.map ZV.p, ⟨bk, bh, bt⟩⟩ ⟨xk, xz, xn, xt, xd⟩ by rw [HD.out, if_neg (by have := H8.out; omega), if_neg HMB.out, if_neg h7, if_pos h56])
            have hcs : (xk == 5) = true ∨ (xk == 5) = false ∧ (xk == 6) = true := by simp; omega
            clear h7 h56 HD
            rcases hcs with u1 | ⟨u1, u2⟩
            all_goals
              go_wp2_with fail
              refine (G4.out _ h1 hx1).mono ?_
              rintro e w1 ⟨⟨d', ⟨ye, yt, ya, yn, yc, yd⟩, rfl, h2, hn, yok, ynew, dp, yp⟩, hb1⟩
              replace xR := xR.butI hb1 (by omega)
              have b1 := bB.trans hb1
              have HNW := hide (show ∀ R, R < w.heap.size → DV.off R ⟨za, zn, zc, Z, ka, kn, kc, bk, bh, bt⟩ → d'.off R from fun R hR => hn R (by omega))
              have hoff := hn (w.heap.size + 1) (by omega) (hoR _ (by omega))
              have DPH := hide dp
              have YPH := hide yp
              clear hn dp yp hb1 e0 e1 e2 f0 f1 f2
              unfold AV.v
              dsimp only
              have e0 := xR.cell 0 _ rfl
              have e1 := xR.cell 1 _ rfl
              have e2 := xR.cell 2 _ rfl
              have f0 := xR.ice 0
              have f1 := xR.ice 1
              have f2 := xR.ice 2
              go_wp2
              have zB := ((xR.set 0 (.int .i64 (ye))).set 1 (.int .i64 (yt))).set 2 (.slice ya yn yc)
              have hbut := (((ButI.refl (w.heap.size + 1) (w1)).step 0 (.int .i64 (ye))).step 1 (.int .i64 (yt))).step 2 (.slice ya yn yc)
              generalize (((w1).setCell ⟨w.heap.size + 1, 0, none⟩ (.int .i64 (ye))).setCell ⟨w.heap.size + 1, 1, none⟩ (.int .i64 (yt))).setCell ⟨w.heap.size + 1, 2, none⟩ (.slice ya yn yc) = w9 at *
              have z0 := zB.cell 0 _ rfl
              have z1 := zB.cell 1 _ rfl
              have z2 := zB.cell 2 _ rfl
              exact bodyPost_ret (v := .agg #[.int .i64 ye, .int .i64 yt, .slice ya yn yc]) (by simp [results, Tryz.results81, go_sem, z0, z1, z2]) rfl
                ⟨⟨d', ⟨ye, yt, ya, yn, yc, yd⟩, rfl, h2.butI hbut hBR hoff, HNW.out, AV.ok.but yok hbut.but (ynew _ (by omega)), AV.new.mono ynew (by omega), by rw [HR.out]; exact DPH.out, by rw [HR.out]; exact YPH.out⟩, b1.own hbut (by omega) (by omega)⟩
          · have HR := hide (show doneD ⟨Z.map ZV.p, ⟨bk, bh, bt⟩⟩ j ⟨xk, xz, xn, xt, xd⟩ = if (zoneDo (Z.map ZV.p) ⟨xk, xz, xn, xt, xd⟩).2 ≠ 0 then (⟨Z.map ZV.p, ⟨bk, bh, bt⟩⟩, errA (zoneDo (Z.map ZV.p) ⟨xk, xz, xn, xt, xd⟩).2) else (⟨(zoneDo (Z.map ZV.p) ⟨xk, xz, xn, xt, xd⟩).1, ⟨bk, bh, bt⟩⟩, zeroA) by rw [HD.out, if_neg (by have := H8.out; omega), if_neg HMB.out, if_neg h7, if_neg h56])
            have u1 : (xk == 5) = false := by simp; omega
            have u2 : (xk == 6) = false := by simp; omega
            clear h7 h56 HD
            go_wp2_with fail
            refine (G5.out _ h1).mono ?_
            rintro e w1 ⟨⟨rfl, d', h2, hn, hp⟩, hb1⟩
            replace xR := xR.butI hb1 (by omega)
            have b1 := bB.trans hb1
            have HNW := hide (show ∀ R, R < w.heap.size → DV.off R ⟨za, zn, zc, Z, ka, kn, kc, bk, bh, bt⟩ → d'.off R from fun R hR => hn R (by omega))
            have hoff := hn (w.heap.size + 1) (by omega) (hoR _ (by omega))
            rw [HZD.out] at hp
            have HP := hide hp
            clear hn hp hb1 e0 e1 e2 f0 f1 f2
            have e0 := xR.cell 0 _ rfl
            have e1 := xR.cell 1 _ rfl
            have e2 := xR.cell 2 _ rfl
            have f0 := xR.ice 0
            have f1 := xR.ice 1
            have f2 := xR.ice 2
            generalize hfn : zoneDo (Z.map ZV.p) ⟨xk, xz, xn, xt, xd⟩ = r at *
            obtain ⟨rb, re⟩ := r
            clear hfn
            dsimp only at *
            go_wp2
            have zB := ((xR.set 0 (.int .i64 (re))).set 1 (.int .i64 (0))).set 2 (.slice none 0 0)
            have hbut := (((ButI.refl (w.heap.size + 1) (w1)).step 0 (.int .i64 (re))).step 1 (.int .i64 (0))).step 2 (.slice none 0 0)
            generalize (((w1).setCell ⟨w.heap.size + 1, 0, none⟩ (.int .i64 (re))).setCell ⟨w.heap.size + 1, 1, none⟩ (.int .i64 (0))).setCell ⟨w.heap.size + 1, 2, none⟩ (.slice none 0 0) = w9 at *
            have z0 := zB.cell 0 _ rfl
            have z1 := zB.cell 1 _ rfl
            have z2 := zB.cell 2 _ rfl
            refine bodyPost_ret (v := .agg #[.int .i64 re, .int .i64 0, .slice none 0 0]) (by simp [results, Tryz.results81, go_sem, z0, z1, z2]) rfl
              ⟨⟨d', AV.err re, rfl, h2.butI hbut hBR hoff, HNW.out, AV.err_ok _ _, AV.err_new _ _, ?_, ?_⟩, b1.own hbut (by omega) (by omega)⟩
            · rw [show d'.p = _ from HP.out, HR.out]
              by_cases he : re = 0 <;> simp [he]
            · rw [HR.out, AV.err_p]
              by_cases he : re = 0 <;> simp [he, errA, zeroA]

end Go.Proofs.YtenmamcaldabdaaGreatDoor
