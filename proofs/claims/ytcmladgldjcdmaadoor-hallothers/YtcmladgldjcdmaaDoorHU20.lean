/- The contract of desk's work; no condition but that the box holds a right desk whose lists lie elsewhere, that the hand is there and the command a right one. -/
import Derived.Test.YtcmladgldjcdmaaDoorHU19
import Derived.Test.YtcmladgldjcdmaaDoorHU7
import Derived.Test.YtcmladgldjcdmaaDoorHU10
import Derived.Test.YtcmladgldjcdmaaDoorHU13
import Derived.Deep.RegionHeld3
namespace Go.Proofs.YtcmladgldjcdmaaDoor
open Go.RowKit
set_option linter.unusedVariables false
set_option maxRecDepth 100000
set_option linter.unusedSimpArgs false

set_option maxHeartbeats 4000000 in
theorem work_c (B : Nat) (d : DV) (j : Nat) (ca : Option Addr) (cn cc : Nat) (x : PC) (w : World) (h : DBox w B d) (hx : Ints w ca cn cc x.d) (hd : checkD d.p = 0) (hj : j < 3) (hk : 1 ≤ x.k ∧ x.k ≤ 12) :
    Calls Tryd.prog 43 #[.pointer (some ⟨B, 0, none⟩), .int .i64 j, cmdV ca cn cc x] w fun e w' => Worked B d (doneD d.p j x) w e w' := by
  obtain ⟨za, zn, zc, Z, ka, kn, kc, bk, bh, bt⟩ := d
  obtain ⟨xk, xz, xn, xt, xd⟩ := x
  obtain ⟨hz, hb⟩ := checkD_ok hd
  have HM := hide (may_ok hb hj (xk != 7))
  have G1 := hide (fun w' h' => reserve_c B ⟨za, zn, zc, Z, ka, kn, kc, bk, bh, bt⟩ j ca cn cc ⟨xk, xz, xn, xt, xd⟩ w' h')
  have G2 := hide (fun w' h' => dmay_c ka kn kc ⟨bk, bh, bt⟩ j ca cn cc ⟨xk, xz, xn, xt, xd⟩ w' h')
  have G3 := hide (fun w' h' => dread_c za zn zc Z ca cn cc ⟨xk, xz, xn, xt, xd⟩ w' h' hz)
  have G4 := hide (fun w' h' i' => dwrite_c B ⟨za, zn, zc, Z, ka, kn, kc, bk, bh, bt⟩ ca cn cc ⟨xk, xz, xn, xt, xd⟩ w' h' i' hz)
  have G5 := hide (fun w' h' => turn_c B ⟨za, zn, zc, Z, ka, kn, kc, bk, bh, bt⟩ ca cn cc ⟨xk, xz, xn, xt, xd⟩ w' h')
  have hlt := h.lay.lt
  have y0 := h.lay.cell 0 _ rfl
  have y1 := h.lay.cell 1 _ rfl
  have y2 := h.lay.cell 2 _ rfl
  have y3 := h.lay.cell 3 _ rfl
  unfold cmdV bookV at *
  dsimp only [DV.p] at *
  obtain ⟨hk1, hk2⟩ := hk
  have HD : Hid (doneD ⟨Z.map ZV.p, ⟨bk, bh, bt⟩⟩ j ⟨xk, xz, xn, xt, xd⟩ = if 8 ≤ xk then (if (bookDo ⟨bk, bh, bt⟩ j ⟨xk, xz, xn, xt, xd⟩).2 ≠ 0 then (⟨Z.map ZV.p, ⟨bk, bh, bt⟩⟩, errA (bookDo ⟨bk, bh, bt⟩ j ⟨xk, xz, xn, xt, xd⟩).2) else (⟨Z.map ZV.p, (bookDo ⟨bk, bh, bt⟩ j ⟨xk, xz, xn, xt, xd⟩).1⟩, zeroA))
      else if mightB ⟨bk, bh, bt⟩ j (xk != 7) = false then (⟨Z.map ZV.p, ⟨bk, bh, bt⟩⟩, errA 8)
      else if xk = 7 then (⟨Z.map ZV.p, ⟨bk, bh, bt⟩⟩, readD (Z.map ZV.p) ⟨xk, xz, xn, xt, xd⟩)
      else if xk = 5 ∨ xk = 6 then writeD ⟨Z.map ZV.p, ⟨bk, bh, bt⟩⟩ ⟨xk, xz, xn, xt, xd⟩
      else if (zoneDo (Z.map ZV.p) ⟨xk, xz, xn, xt, xd⟩).2 ≠ 0 then (⟨Z.map ZV.p, ⟨bk, bh, bt⟩⟩, errA (zoneDo (Z.map ZV.p) ⟨xk, xz, xn, xt, xd⟩).2) else (⟨(zoneDo (Z.map ZV.p) ⟨xk, xz, xn, xt, xd⟩).1, ⟨bk, bh, bt⟩⟩, zeroA)) := hide rfl
  have HBD : Hid (bookedD ⟨Z.map ZV.p, ⟨bk, bh, bt⟩⟩ j ⟨xk, xz, xn, xt, xd⟩ = if (bookDo ⟨bk, bh, bt⟩ j ⟨xk, xz, xn, xt, xd⟩).2 = 0 then ⟨Z.map ZV.p, (bookDo ⟨bk, bh, bt⟩ j ⟨xk, xz, xn, xt, xd⟩).1⟩ else ⟨Z.map ZV.p, ⟨bk, bh, bt⟩⟩) := hide rfl
  have HZD : Hid (zoned ⟨Z.map ZV.p, ⟨bk, bh, bt⟩⟩ ⟨xk, xz, xn, xt, xd⟩ = if (zoneDo (Z.map ZV.p) ⟨xk, xz, xn, xt, xd⟩).2 = 0 then ⟨(zoneDo (Z.map ZV.p) ⟨xk, xz, xn, xt, xd⟩).1, ⟨bk, bh, bt⟩⟩ else ⟨Z.map ZV.p, ⟨bk, bh, bt⟩⟩) := hide rfl
  have xR := Lay.made1 w (.cells #[.int .i64 xk, .int .i64 xz, .int .i64 xn, .int .i64 xt, .slice ca cn cc] 32) [.int .i64 0, .int .i64 0, .slice none 0 0] 38
  have bw : Below w.heap.size w ((w.alloc (.cells #[.int .i64 xk, .int .i64 xz, .int .i64 xn, .int .i64 xt, .slice ca cn cc] 32)).alloc (.cells #[.int .i64 0, .int .i64 0, .slice none 0 0] 38)) := by (repeat first | exact bel0 | assumption | refine bel1 ?_ | refine bel2 ?_ | refine bel3 ?_ | refine belowT ?_ (by assumption) | refine bel5 ?_ (by simp; try omega))
  have hoR : ∀ R, w.heap.size ≤ R → DV.off R ⟨za, zn, zc, Z, ka, kn, kc, bk, bh, bt⟩ := fun R hR => h.ok.off hR
  have hBR : B ≠ w.heap.size + 1 := by omega
  by_cases h8 : 8 ≤ xk
  · have hcs : (xk == 8) = true ∨ ((xk == 8) = false ∧ (xk == 9) = true) ∨ ((xk == 8) = false ∧ (xk == 9) = false ∧ (xk == 10) = true) ∨ ((xk == 8) = false ∧ (xk == 9) = false ∧ (xk == 10) = false ∧ (xk == 11) = true) ∨ ((xk == 8) = false ∧ (xk == 9) = false ∧ (xk == 10) = false ∧ (xk == 11) = false ∧ (xk == 12) = true) := by simp; omega
    have H8 := hide h8
    clear h8 hk1 hk2
    rcases hcs with t1 | ⟨t1, t2⟩ | ⟨t1, t2, t3⟩ | ⟨t1, t2, t3, t4⟩ | ⟨t1, t2, t3, t4, t5⟩
    all_goals
      go_enter Tryd.func43, Tryd.ntmps43
      go_wp2_with fail
      refine (G1.out _ (h.below bw)).mono ?_
      rintro e w1 ⟨⟨rfl, d', h1, hn, hp⟩, hb1⟩
      replace xR := xR.butI hb1 (by omega)
      have b1 := (ButI.of_below (g := B) bw (by omega)).trans hb1
      simp only [World.size_alloc] at hn
      have HNW := hide (show ∀ R, R < w.heap.size → DV.off R ⟨za, zn, zc, Z, ka, kn, kc, bk, bh, bt⟩ → d'.off R from fun R hR => hn R (by omega))
      have hoff := hn (w.heap.size + 1) (by omega) (hoR _ (by omega))
      rw [HBD.out] at hp
      have HP := hide hp
      clear hn hp hb1
      have e0 := xR.cell 0 _ rfl
      have e1 := xR.cell 1 _ rfl
      have e2 := xR.cell 2 _ rfl
      have f0 := xR.ice 0
      have f1 := xR.ice 1
      have f2 := xR.ice 2
      generalize hfn : bookDo ⟨bk, bh, bt⟩ j ⟨xk, xz, xn, xt, xd⟩ = r at *
      obtain ⟨rb, re⟩ := r
      clear hfn
      dsimp only at *
      go_wp2
      have zB := ((xR.set 0 (.int .i64 (re))).set 1 (.int .i64 (0))).set 2 (.slice none 0 0)
      have hbut := (((ButI.refl (w.heap.size + 1) (w1)).step 0 (.int .i64 (re))).step 1 (.int .i64 (0))).step 2 (.slice none 0 0)
      generalize (((w1).setCell ⟨w.heap.size + 1, 0, none⟩ (.int .i64 (re))).setCell ⟨w.heap.size + 1, 1, none⟩ (.int .i64 (0))).setCell ⟨w.heap.size + 1, 2, none⟩ (.slice none 0 0) = w9 at *
      have z0 := zB.cell 0 _ rfl
      have z1 := zB.cell 1 _ rfl
      have z2 := zB.cell 2 _ rfl
      refine bodyPost_ret (v := .agg #[.int .i64 re, .int .i64 0, .slice none 0 0]) (by simp [results, Tryd.results43, go_sem, z0, z1, z2]) rfl
        ⟨⟨d', AV.err re, rfl, h1.butI hbut hBR hoff, HNW.out, AV.err_ok _ _, AV.err_new _ _, ?_, ?_⟩, b1.own hbut (by omega) (by omega)⟩
      · rw [HD.out, if_pos (show 8 ≤ xk by have := H8.out; omega), show d'.p = _ from HP.out]
        by_cases he : re = 0 <;> simp [he]
      · rw [HD.out, if_pos (by have := H8.out; omega), AV.err_p]
        by_cases he : re = 0 <;> simp [he, errA, zeroA]
  · have t1 : (xk == 8) = false := by simp; omega
    have t2 : (xk == 9) = false := by simp; omega
    have t3 : (xk == 10) = false := by simp; omega
    have t4 : (xk == 11) = false := by simp; omega
    have t5 : (xk == 12) = false := by simp; omega
    have H8 := hide h8
    have hk7 : xk ≤ 7 := by omega
    clear h8 hk2
    have hoB := h.off
    replace y0 := past2 y0
    replace y1 := past2 y1
    replace y2 := past2 y2
    replace y3 := past2 y3
    go_enter Tryd.func43, Tryd.ntmps43
    go_wp2_with fail
    go_cut [27] (fun v wx => v = .bool (!mightB ⟨bk, bh, bt⟩ j (xk != 7)) ∧ Below ((w.alloc (.cells #[.int .i64 xk, .int .i64 xz, .int .i64 xn, .int .i64 xt, .slice ca cn cc] 32)).alloc (.cells #[.int .i64 0, .int .i64 0, .slice none 0 0] 38)).heap.size ((w.alloc (.cells #[.int .i64 xk, .int .i64 xz, .int .i64 xn, .int .i64 xt, .slice ca cn cc] 32)).alloc (.cells #[.int .i64 0, .int .i64 0, .slice none 0 0] 38)) wx)
    case first =>
      go_region_held3 (fun w' => w'.cell? ⟨B, 1, none⟩ = some (.slice ka kn kc) ∧ w'.cell? ⟨B, 2, none⟩ = some (.int .i64 bh) ∧ w'.cell? ⟨B, 3, none⟩ = some (.int .i64 bt) ∧ w'.cell? ⟨w.heap.size, 0, none⟩ = some (.int .i64 xk) ∧ w'.cell? ⟨w.heap.size, 1, none⟩ = some (.int .i64 xz) ∧ w'.cell? ⟨w.heap.size, 2, none⟩ = some (.int .i64 xn) ∧ w'.cell? ⟨w.heap.size, 3, none⟩ = some (.int .i64 xt) ∧ w'.cell? ⟨w.heap.size, 4, none⟩ = some (.slice ca cn cc)) ((first | (go_simp; done) | (simp [*, World.cell?_alloc_at, World.cell?_alloc_past, World.cell?_alloc_some, World.cell?_setCell_far]; done))) (first | (go_at_call 61; refine (G2.out _ (by refine Ints.below h.ok.k (B := w.heap.size) ?_ (Nat.le_refl _); (repeat first | exact bel0 | assumption | refine bel1 ?_ | refine bel2 ?_ | refine bel3 ?_ | refine belowT ?_ (by assumption) | refine bel5 ?_ (by simp; try omega)))).mono ?_; rintro e w1 ⟨rfl, hb1⟩; rw [HM.out]; (have g0 := keepc hb1 (p := ⟨B, 1, none⟩) (u := .slice ka kn kc) (by (first | (go_simp; done) | (simp [*, World.cell?_alloc_at, World.cell?_alloc_past, World.cell?_alloc_some, World.cell?_setCell_far]; done)))); (have g1 := keepc hb1 (p := ⟨B, 2, none⟩) (u := .int .i64 bh) (by (first | (go_simp; done) | (simp [*, World.cell?_alloc_at, World.cell?_alloc_past, World.cell?_alloc_some, World.cell?_setCell_far]; done)))); (have g2 := keepc hb1 (p := ⟨B, 3, none⟩) (u := .int .i64 bt) (by (first | (go_simp; done) | (simp [*, World.cell?_alloc_at, World.cell?_alloc_past, World.cell?_alloc_some, World.cell?_setCell_far]; done)))); (have g3 := keepc hb1 (p := ⟨w.heap.size, 0, none⟩) (u := .int .i64 xk) (by (first | (go_simp; done) | (simp [*, World.cell?_alloc_at, World.cell?_alloc_past, World.cell?_alloc_some, World.cell?_setCell_far]; done)))); (have g4 := keepc hb1 (p := ⟨w.heap.size, 1, none⟩) (u := .int .i64 xz) (by (first | (go_simp; done) | (simp [*, World.cell?_alloc_at, World.cell?_alloc_past, World.cell?_alloc_some, World.cell?_setCell_far]; done)))); (have g5 := keepc hb1 (p := ⟨w.heap.size, 2, none⟩) (u := .int .i64 xn) (by (first | (go_simp; done) | (simp [*, World.cell?_alloc_at, World.cell?_alloc_past, World.cell?_alloc_some, World.cell?_setCell_far]; done)))); (have g6 := keepc hb1 (p := ⟨w.heap.size, 3, none⟩) (u := .int .i64 xt) (by (first | (go_simp; done) | (simp [*, World.cell?_alloc_at, World.cell?_alloc_past, World.cell?_alloc_some, World.cell?_setCell_far]; done)))); (have g7 := keepc hb1 (p := ⟨w.heap.size, 4, none⟩) (u := .slice ca cn cc) (by (first | (go_simp; done) | (simp [*, World.cell?_alloc_at, World.cell?_alloc_past, World.cell?_alloc_some, World.cell?_setCell_far]; done))))))
      go_wp2_with fail
      go_meet
      case rel => exact ⟨rfl, by (repeat first | exact bel0 | assumption | refine bel1 ?_ | refine bel2 ?_ | refine bel3 ?_ | refine belowT ?_ (by assumption) | refine bel5 ?_ (by simp; try omega))⟩
    case rest =>
      obtain ⟨rfl, hbc⟩ := hcut
      replace xR := xR.below hbc
      replace bw := belowT bw hbc
      have h1 := h.below bw
      have hx1 := hx.below bw (Nat.le_refl _)
      have k0 := keepc hbc (p := ⟨w.heap.size, 0, none⟩) (u := .int .i64 xk) (by go_simp)
      have k1 := keepc hbc (p := ⟨w.heap.size, 1, none⟩) (u := .int .i64 xz) (by go_simp)
      have k2 := keepc hbc (p := ⟨w.heap.size, 2, none⟩) (u := .int .i64 xn) (by go_simp)
      have k3 := keepc hbc (p := ⟨w.heap.size, 3, none⟩) (u := .int .i64 xt) (by go_simp)
      have k4 := keepc hbc (p := ⟨w.heap.size, 4, none⟩) (u := .slice ca cn cc) (by go_simp)
      replace y0 := keepc hbc (y0 _ _)
      have hs := hbc.size
      simp only [World.size_alloc] at hs
      clear hbc y1 y2 y3
      have e0 := xR.cell 0 _ rfl
      have e1 := xR.cell 1 _ rfl
      have e2 := xR.cell 2 _ rfl
      have f0 := xR.ice 0
      have f1 := xR.ice 1
      have f2 := xR.ice 2
      have bB := ButI.of_below (g := B) bw (by omega)
      cases hm : mightB ⟨bk, bh, bt⟩ j (xk != 7)
      · have HMB := hide hm
        clear hm
        go_wp2
        have zB := ((xR.set 0 (.int .i64 (8))).set 1 (.int .i64 (0))).set 2 (.slice none 0 0)
        have hbut := (((ButI.refl (w.heap.size + 1) (wc)).step 0 (.int .i64 (8))).step 1 (.int .i64 (0))).step 2 (.slice none 0 0)
        generalize (((wc).setCell ⟨w.heap.size + 1, 0, none⟩ (.int .i64 (8))).setCell ⟨w.heap.size + 1, 1, none⟩ (.int .i64 (0))).setCell ⟨w.heap.size + 1, 2, none⟩ (.slice none 0 0) = w9 at *
        have z0 := zB.cell 0 _ rfl
        have z1 := zB.cell 1 _ rfl
        have z2 := zB.cell 2 _ rfl
        refine bodyPost_ret (v := .agg #[.int .i64 8, .int .i64 0, .slice none 0 0]) (by simp [results, Tryd.results43, go_sem, z0, z1, z2]) rfl
          ⟨⟨_, AV.err 8, rfl, h1.butI hbut hBR (hoR _ (by omega)), fun R _ ho => ho, AV.err_ok _ _, AV.err_new _ _, ?_, ?_⟩, bB.own hbut (by omega) (by omega)⟩
        · rw [HD.out, if_neg (by have := H8.out; omega), if_pos HMB.out]
          rfl
        · rw [HD.out, if_neg (by have := H8.out; omega), if_pos HMB.out]
          rfl
      · have HMB := hide (show ¬ mightB ⟨bk, bh, bt⟩ j (xk != 7) = false by rw [hm]; simp)
        clear hm
        by_cases h7 : xk = 7
        · have t7 : (xk == 7) = true := by simpa using h7
          have HR := hide (show doneD ⟨Z.map ZV.p, ⟨bk, bh, bt⟩⟩ j ⟨xk, xz, xn, xt, xd⟩ = (⟨Z.map ZV.p, ⟨bk, bh, bt⟩⟩, readD (Z.map ZV.p) ⟨xk, xz, xn, xt, xd⟩) by rw [HD.out, if_neg (by have := H8.out; omega), if_neg HMB.out, if_pos h7])
          clear h7 HD
          go_upto_region 12 with fail
          go_cut [6] (fun v wx => v = .pointer (some ⟨w.heap.size + 1, 0, none⟩) ∧ ∃ y : AV, y.ok wx ∧ y.new w.heap.size ∧ y.p = readD (Z.map ZV.p) ⟨xk, xz, xn, xt, xd⟩ ∧ Lay wx (w.heap.size + 1) [.int .i64 y.e, .int .i64 y.t, .slice y.a y.n y.c] ∧ DBox wx B ⟨za, zn, zc, Z, ka, kn, kc, bk, bh, bt⟩ ∧ ButI B w wx)
          case first =>
            go_region_held3 (fun w' => w'.cell? ⟨B, 0, none⟩ = some (.slice za zn zc) ∧ w'.cell? ⟨w.heap.size, 0, none⟩ = some (.int .i64 xk) ∧ w'.cell? ⟨w.heap.size, 1, none⟩ = some (.int .i64 xz) ∧ w'.cell? ⟨w.heap.size, 2, none⟩ = some (.int .i64 xn) ∧ w'.cell? ⟨w.heap.size, 3, none⟩ = some (.int .i64 xt) ∧ w'.cell? ⟨w.heap.size, 4, none⟩ = some (.slice ca cn cc)) ((first | (go_simp; done) | (simp [*, World.cell?_alloc_at, World.cell?_alloc_past, World.cell?_alloc_some, World.cell?_setCell_far]; done))) (first | (go_at_call 62; refine (G3.out _ (by refine Zones.below h1.ok.z (B := wc.heap.size) ?_ (Nat.le_refl _); (repeat first | exact bel0 | assumption | refine bel1 ?_ | refine bel2 ?_ | refine bel3 ?_ | refine belowT ?_ (by assumption) | refine bel5 ?_ (by simp; try omega)))).mono ?_; rintro e w1 ⟨⟨⟨ye, yt, ya, yn, yc, yd⟩, rfl, yok, ynew, yp⟩, hb1⟩; (have g0 := keepc hb1 (p := ⟨B, 0, none⟩) (u := .slice za zn zc) (by (first | (go_simp; done) | (simp [*, World.cell?_alloc_at, World.cell?_alloc_past, World.cell?_alloc_some, World.cell?_setCell_far]; done)))); (have g1 := keepc hb1 (p := ⟨w.heap.size, 0, none⟩) (u := .int .i64 xk) (by (first | (go_simp; done) | (simp [*, World.cell?_alloc_at, World.cell?_alloc_past, World.cell?_alloc_some, World.cell?_setCell_far]; done)))); (have g2 := keepc hb1 (p := ⟨w.heap.size, 1, none⟩) (u := .int .i64 xz) (by (first | (go_simp; done) | (simp [*, World.cell?_alloc_at, World.cell?_alloc_past, World.cell?_alloc_some, World.cell?_setCell_far]; done)))); (have g3 := keepc hb1 (p := ⟨w.heap.size, 2, none⟩) (u := .int .i64 xn) (by (first | (go_simp; done) | (simp [*, World.cell?_alloc_at, World.cell?_alloc_past, World.cell?_alloc_some, World.cell?_setCell_far]; done)))); (have g4 := keepc hb1 (p := ⟨w.heap.size, 3, none⟩) (u := .int .i64 xt) (by (first | (go_simp; done) | (simp [*, World.cell?_alloc_at, World.cell?_alloc_past, World.cell?_alloc_some, World.cell?_setCell_far]; done)))); (have g5 := keepc hb1 (p := ⟨w.heap.size, 4, none⟩) (u := .slice ca cn cc) (by (first | (go_simp; done) | (simp [*, World.cell?_alloc_at, World.cell?_alloc_past, World.cell?_alloc_some, World.cell?_setCell_far]; done)))); (have xR1 := xR.below (w' := w1) (by (repeat first | exact bel0 | assumption | refine bel1 ?_ | refine bel2 ?_ | refine bel3 ?_ | refine belowT ?_ (by assumption) | refine bel5 ?_ (by simp; try omega)))); (have e0 := xR1.cell 0 _ rfl); (have e1 := xR1.cell 1 _ rfl); (have e2 := xR1.cell 2 _ rfl); (have f0 := xR1.ice 0); (have f1 := xR1.ice 1); (have f2 := xR1.ice 2); unfold AV.v; dsimp only))
            have bc1 : Below wc.heap.size wc w1 := by (repeat first | exact bel0 | assumption | refine bel1 ?_ | refine bel2 ?_ | refine bel3 ?_ | refine belowT ?_ (by assumption) | refine bel5 ?_ (by simp; try omega))
            have hs1 := hb1.size
            go_wp2_with fail
            go_meet
            case rel =>
              have zB := ((xR1.set 0 (.int .i64 ye)).set 1 (.int .i64 yt)).set 2 (.slice ya yn yc)
              have hbut := (((ButI.refl (w.heap.size + 1) w1).step 0 (.int .i64 ye)).step 1 (.int .i64 yt)).step 2 (.slice ya yn yc)
              exact ⟨rfl, ⟨ye, yt, ya, yn, yc, yd⟩, AV.ok.but yok hbut.but (ynew _ (by first | exact hs | (simp; exact hs) | (simp; omega))), AV.new.mono ynew (by first | omega | (simp; omega)), yp, zB, (h1.below bc1).butI hbut hBR (hoR _ (by omega)), (bB.trans (ButI.of_below bc1 (by omega))).own hbut (by omega) (by omega)⟩
          case rest =>
            obtain ⟨rfl, y, yok, ynew, yp, zB, hbx, hbt⟩ := hcut
            have z0 := zB.cell 0 _ rfl
            have z1 := zB.cell 1 _ rfl
            have z2 := zB.cell 2 _ rfl
            have YP := hide yp
            clear yp
            go_wp2
            exact bodyPost_ret (v := y.v) (by simp [results, Tryd.results43, go_sem, AV.v, z0, z1, z2]) rfl
              ⟨⟨_, y, rfl, hbx, fun R _ ho => ho, yok, ynew, by rw [HR.out]; rfl, by rw [HR.out, YP.out]⟩, hbt⟩
        · have t7 : (xk == 7) = false := by simpa using h7
          by_cases h56 : xk = 5 ∨ xk = 6
          · have HR := hide (show doneD ⟨Z.map ZV.p, ⟨bk, bh, bt⟩⟩ j ⟨xk, xz, xn, xt, xd⟩ = writeD ⟨Z.map ZV.p, ⟨bk, bh, bt⟩⟩ ⟨xk, xz, xn, xt, xd⟩ by rw [HD.out, if_neg (by have := H8.out; omega), if_neg HMB.out, if_neg h7, if_pos h56])
            have hcs : (xk == 5) = true ∨ (xk == 5) = false ∧ (xk == 6) = true := by simp; omega
            clear h7 h56 HD
            rcases hcs with u1 | ⟨u1, u2⟩
            all_goals
              go_wp2_with fail
              refine (G4.out _ h1 hx1).mono ?_
              rintro e w1 ⟨⟨d', ⟨ye, yt, ya, yn, yc, yd⟩, rfl, h2, hn, yok, ynew, dp, yp⟩, hb1⟩
              replace xR := xR.butI hb1 (by omega)
              have b1 := bB.trans hb1
              have HNW := hide (show ∀ R, R < w.heap.size → DV.off R ⟨za, zn, zc, Z, ka, kn, kc, bk, bh, bt⟩ → d'.off R from fun R hR => hn R (by omega))
              have hoff := hn (w.heap.size + 1) (by omega) (hoR _ (by omega))
              have DPH := hide dp
              have YPH := hide yp
              clear hn dp yp hb1 e0 e1 e2 f0 f1 f2
              unfold AV.v
              dsimp only
              have e0 := xR.cell 0 _ rfl
              have e1 := xR.cell 1 _ rfl
              have e2 := xR.cell 2 _ rfl
              have f0 := xR.ice 0
              have f1 := xR.ice 1
              have f2 := xR.ice 2
              go_wp2
              have zB := ((xR.set 0 (.int .i64 (ye))).set 1 (.int .i64 (yt))).set 2 (.slice ya yn yc)
              have hbut := (((ButI.refl (w.heap.size + 1) (w1)).step 0 (.int .i64 (ye))).step 1 (.int .i64 (yt))).step 2 (.slice ya yn yc)
              generalize (((w1).setCell ⟨w.heap.size + 1, 0, none⟩ (.int .i64 (ye))).setCell ⟨w.heap.size + 1, 1, none⟩ (.int .i64 (yt))).setCell ⟨w.heap.size + 1, 2, none⟩ (.slice ya yn yc) = w9 at *
              have z0 := zB.cell 0 _ rfl
              have z1 := zB.cell 1 _ rfl
              have z2 := zB.cell 2 _ rfl
              exact bodyPost_ret (v := .agg #[.int .i64 ye, .int .i64 yt, .slice ya yn yc]) (by simp [results, Tryd.results43, go_sem, z0, z1, z2]) rfl
                ⟨⟨d', ⟨ye, yt, ya, yn, yc, yd⟩, rfl, h2.butI hbut hBR hoff, HNW.out, AV.ok.but yok hbut.but (ynew _ (by omega)), AV.new.mono ynew (by omega), by rw [HR.out]; exact DPH.out, by rw [HR.out]; exact YPH.out⟩, b1.own hbut (by omega) (by omega)⟩
          · have HR := hide (show doneD ⟨Z.map ZV.p, ⟨bk, bh, bt⟩⟩ j ⟨xk, xz, xn, xt, xd⟩ = if (zoneDo (Z.map ZV.p) ⟨xk, xz, xn, xt, xd⟩).2 ≠ 0 then (⟨Z.map ZV.p, ⟨bk, bh, bt⟩⟩, errA (zoneDo (Z.map ZV.p) ⟨xk, xz, xn, xt, xd⟩).2) else (⟨(zoneDo (Z.map ZV.p) ⟨xk, xz, xn, xt, xd⟩).1, ⟨bk, bh, bt⟩⟩, zeroA) by rw [HD.out, if_neg (by have := H8.out; omega), if_neg HMB.out, if_neg h7, if_neg h56])
            have u1 : (xk == 5) = false := by simp; omega
            have u2 : (xk == 6) = false := by simp; omega
            clear h7 h56 HD
            go_wp2_with fail
            refine (G5.out _ h1).mono ?_
            rintro e w1 ⟨⟨rfl, d', h2, hn, hp⟩, hb1⟩
            replace xR := xR.butI hb1 (by omega)
            have b1 := bB.trans hb1
            have HNW := hide (show ∀ R, R < w.heap.size → DV.off R ⟨za, zn, zc, Z, ka, kn, kc, bk, bh, bt⟩ → d'.off R from fun R hR => hn R (by omega))
            have hoff := hn (w.heap.size + 1) (by omega) (hoR _ (by omega))
            rw [HZD.out] at hp
            have HP := hide hp
            clear hn hp hb1 e0 e1 e2 f0 f1 f2
            have e0 := xR.cell 0 _ rfl
            have e1 := xR.cell 1 _ rfl
            have e2 := xR.cell 2 _ rfl
            have f0 := xR.ice 0
            have f1 := xR.ice 1
            have f2 := xR.ice 2
            generalize hfn : zoneDo (Z.map ZV.p) ⟨xk, xz, xn, xt, xd⟩ = r at *
            obtain ⟨rb, re⟩ := r
            clear hfn
            dsimp only at *
            go_wp2
            have zB := ((xR.set 0 (.int .i64 (re))).set 1 (.int .i64 (0))).set 2 (.slice none 0 0)
            have hbut := (((ButI.refl (w.heap.size + 1) (w1)).step 0 (.int .i64 (re))).step 1 (.int .i64 (0))).step 2 (.slice none 0 0)
            generalize (((w1).setCell ⟨w.heap.size + 1, 0, none⟩ (.int .i64 (re))).setCell ⟨w.heap.size + 1, 1, none⟩ (.int .i64 (0))).setCell ⟨w.heap.size + 1, 2, none⟩ (.slice none 0 0) = w9 at *
            have z0 := zB.cell 0 _ rfl
            have z1 := zB.cell 1 _ rfl
            have z2 := zB.cell 2 _ rfl
            refine bodyPost_ret (v := .agg #[.int .i64 re, .int .i64 0, .slice none 0 0]) (by simp [results, Tryd.results43, go_sem, z0, z1, z2]) rfl
              ⟨⟨d', AV.err re, rfl, h2.butI hbut hBR hoff, HNW.out, AV.err_ok _ _, AV.err_new _ _, ?_, ?_⟩, b1.own hbut (by omega) (by omega)⟩
            · rw [show d'.p = _ from HP.out, HR.out]
              by_cases he : re = 0 <;> simp [he]
            · rw [HR.out, AV.err_p]
              by_cases he : re = 0 <;> simp [he, errA, zeroA]

end Go.Proofs.YtcmladgldjcdmaaDoor

/- The contract of plain.CopyDesk; no condition but that the desk reads as data, and is no greater than a machine bears; and what a right desk is. -/
namespace Go.Proofs.YtcmladgldjcdmaaDoor
open Go.RowKit
set_option linter.unusedVariables false
set_option maxRecDepth 100000
set_option linter.unusedSimpArgs false

set_option maxHeartbeats 4000000 in
theorem pdesk_c (d : DV) (w : World) (h : d.ok w) (h1 : d.zn ≤ 1000000) (h2 : ∀ z ∈ d.Z, z.n ≤ 100000) (h3 : d.kn ≤ 100000) :
    Calls Tryd.prog 27 #[d.v] w fun e w' => (∃ d' : DV, e = .returned d'.v ∧ d'.ok w' ∧ d'.new w.heap.size ∧ d'.p = d.p) ∧ Below w.heap.size w w' := by
  obtain ⟨za, zn, zc, Z, ka, kn, kc, bk, bh, bt⟩ := d
  obtain ⟨hz, hk⟩ := h
  dsimp only [DV.v, DV.p] at *
  obtain ⟨x0, xR, bw⟩ := two_boxes w [.slice za zn zc, .slice ka kn kc, .int .i64 bh, .int .i64 bt] [.slice none 0 0, .slice none 0 0, .int .i64 0, .int .i64 0] 27 27
  replace hz := hz.below bw (Nat.le_refl _)
  replace hk := hk.below bw (Nat.le_refl _)
  go_enter Tryd.func27, Tryd.ntmps27
  go_upto_region 1 with fail
  generalize (w.alloc (.cells [.slice za zn zc, .slice ka kn kc, .int .i64 bh, .int .i64 bt].toArray 27)).alloc (.cells [.slice none 0 0, .slice none 0 0, .int .i64 0, .int .i64 0].toArray 27) = w0 at *
  have c0 := x0.cell 0 _ rfl
  have c1 := x0.cell 1 _ rfl
  have c2 := x0.cell 2 _ rfl
  have c3 := x0.cell 3 _ rfl
  have hgl := xR.lt
  go_region_held3 (fun w' => w'.cell? ⟨w.heap.size, 0, none⟩ = some (.slice za zn zc) ∧ w'.cell? ⟨w.heap.size, 1, none⟩ = some (.slice ka kn kc) ∧ w'.cell? ⟨w.heap.size, 2, none⟩ = some (.int .i64 bh) ∧ w'.cell? ⟨w.heap.size, 3, none⟩ = some (.int .i64 bt)) ((first | (go_simp; done) | (simp [*, World.cell?_alloc_at, World.cell?_alloc_past, World.cell?_alloc_some, World.cell?_setCell_far]; done))) (first
    | (go_at_call 40; refine (pcopyZones_c za zn zc Z _ (by refine Zones.below hz (B := w0.heap.size) ?_ (Nat.le_refl _); clear bw; (repeat first | exact bel0 | assumption | refine bel1 ?_ | refine bel2 ?_ | refine bel3 ?_ | refine belowT ?_ (by assumption) | refine bel5 ?_ (by simp; try omega))) h1 h2).mono ?_; rintro e w1 ⟨⟨g, Y, rfl, hm, hl, hp, hg, hyn⟩, hb1⟩; (have g0 := keepc hb1 (p := ⟨w.heap.size, 0, none⟩) (u := .slice za zn zc) (by (first | (go_simp; done) | (simp [*, World.cell?_alloc_at, World.cell?_alloc_past, World.cell?_alloc_some, World.cell?_setCell_far]; done)))); (have g1 := keepc hb1 (p := ⟨w.heap.size, 1, none⟩) (u := .slice ka kn kc) (by (first | (go_simp; done) | (simp [*, World.cell?_alloc_at, World.cell?_alloc_past, World.cell?_alloc_some, World.cell?_setCell_far]; done)))); (have g2 := keepc hb1 (p := ⟨w.heap.size, 2, none⟩) (u := .int .i64 bh) (by (first | (go_simp; done) | (simp [*, World.cell?_alloc_at, World.cell?_alloc_past, World.cell?_alloc_some, World.cell?_setCell_far]; done)))); (have g3 := keepc hb1 (p := ⟨w.heap.size, 3, none⟩) (u := .int .i64 bt) (by (first | (go_simp; done) | (simp [*, World.cell?_alloc_at, World.cell?_alloc_past, World.cell?_alloc_some, World.cell?_setCell_far]; done)))))
    | (go_at_call 41; refine (pbook_c ka kn kc ⟨bk, bh, bt⟩ _ (by refine Ints.below hk (B := w0.heap.size) ?_ (Nat.le_refl _); clear bw; (repeat first | exact bel0 | assumption | refine bel1 ?_ | refine bel2 ?_ | refine bel3 ?_ | refine belowT ?_ (by assumption) | refine bel5 ?_ (by simp; try omega))) h3).mono ?_; rintro e w2 ⟨⟨q, rfl, iq, hq, lq⟩, hb2⟩; (dsimp only [bookV]); (have k0 := keepc hb2 (p := ⟨w.heap.size, 0, none⟩) (u := .slice za zn zc) (by (first | (go_simp; done) | (simp [*, World.cell?_alloc_at, World.cell?_alloc_past, World.cell?_alloc_some, World.cell?_setCell_far]; done)))); (have k1 := keepc hb2 (p := ⟨w.heap.size, 1, none⟩) (u := .slice ka kn kc) (by (first | (go_simp; done) | (simp [*, World.cell?_alloc_at, World.cell?_alloc_past, World.cell?_alloc_some, World.cell?_setCell_far]; done)))); (have k2 := keepc hb2 (p := ⟨w.heap.size, 2, none⟩) (u := .int .i64 bh) (by (first | (go_simp; done) | (simp [*, World.cell?_alloc_at, World.cell?_alloc_past, World.cell?_alloc_some, World.cell?_setCell_far]; done)))); (have k3 := keepc hb2 (p := ⟨w.heap.size, 3, none⟩) (u := .int .i64 bt) (by (first | (go_simp; done) | (simp [*, World.cell?_alloc_at, World.cell?_alloc_past, World.cell?_alloc_some, World.cell?_setCell_far]; done)))); (have xR2 := xR.below (w' := w2) (by clear bw; (repeat first | exact bel0 | assumption | refine bel1 ?_ | refine bel2 ?_ | refine bel3 ?_ | refine belowT ?_ (by assumption) | refine bel5 ?_ (by simp; try omega)))); (have e0 := xR2.cell 0 _ rfl); (have e1 := xR2.cell 1 _ rfl); (have e2 := xR2.cell 2 _ rfl); (have e3 := xR2.cell 3 _ rfl); (have f0 := xR2.ice 0); (have f1 := xR2.ice 1); (have f2 := xR2.ice 2); (have f3 := xR2.ice 3)))
  have b12 : Below w1.heap.size w1 w2 := by clear bw; (repeat first | exact bel0 | assumption | refine bel1 ?_ | refine bel2 ?_ | refine bel3 ?_ | refine belowT ?_ (by assumption) | refine bel5 ?_ (by simp; try omega))
  have b02 : Below w0.heap.size w0 w2 := by clear bw b12; (repeat first | exact bel0 | assumption | refine bel1 ?_ | refine bel2 ?_ | refine bel3 ?_ | refine belowT ?_ (by assumption) | refine bel5 ?_ (by simp; try omega))
  have hq1 := hb2.size
  have hs1 := hb1.size
  simp at hq hg hq1 hs1
  have bw2 := belowT bw b02
  have hg1 := hm.lay.lt
  replace hm := (hm.below b12).mine hl (by omega) hyn
  clear hb1 hb2 c0 c1 c2 c3 xR bw b12 b02 hz hk x0
  go_wp2
  have zB := (((xR2.set 0 (.slice (some ⟨g, 0, none⟩) zn zn)).set 1 (.slice (some ⟨q, 0, none⟩) kn kn)).set 2 (.int .i64 bh)).set 3 (.int .i64 bt)
  have hbut := ((((ButI.refl (w.heap.size + 1) w2).step 0 (.slice (some ⟨g, 0, none⟩) zn zn)).step 1 (.slice (some ⟨q, 0, none⟩) kn kn)).step 2 (.int .i64 bh)).step 3 (.int .i64 bt)
  generalize (((w2.setCell ⟨w.heap.size + 1, 0, none⟩ (.slice (some ⟨g, 0, none⟩) zn zn)).setCell ⟨w.heap.size + 1, 1, none⟩ (.slice (some ⟨q, 0, none⟩) kn kn)).setCell ⟨w.heap.size + 1, 2, none⟩ (.int .i64 bh)).setCell ⟨w.heap.size + 1, 3, none⟩ (.int .i64 bt) = w9 at *
  have z0 := zB.cell 0 _ rfl
  have z1 := zB.cell 1 _ rfl
  have z2 := zB.cell 2 _ rfl
  have z3 := zB.cell 3 _ rfl
  have hoff : ∀ R, R < g → (⟨some ⟨g, 0, none⟩, zn, zn, Y, some ⟨q, 0, none⟩, kn, kn, ⟨bk, bh, bt⟩⟩ : DV).off R := fun R hR =>
    ⟨.inr fun x e => by cases e; simp; omega, fun z hz => zoneN.off (hyn z hz) (by omega), .inr fun x e => by cases e; simp; omega⟩
  exact bodyPost_ret (v := .agg #[.slice (some ⟨g, 0, none⟩) zn zn, .slice (some ⟨q, 0, none⟩) kn kn, .int .i64 bh, .int .i64 bt]) (by simp [results, Tryd.results27, go_sem, z0, z1, z2, z3]) rfl
    ⟨⟨⟨some ⟨g, 0, none⟩, zn, zn, Y, some ⟨q, 0, none⟩, kn, kn, ⟨bk, bh, bt⟩⟩, rfl, DV.ok.but ⟨hm.zs, iq⟩ hbut.but (hoff _ (by omega)), fun R hR => hoff R (by omega), by simp [hp]⟩, bw2.trans (hbut.below (B := w.heap.size) (by omega))⟩

theorem desk_small {d : DV} {w : World} (h : d.ok w) (hd : checkD d.p = 0) : d.zn ≤ 1000000 ∧ (∀ z ∈ d.Z, z.n ≤ 100000) ∧ d.kn ≤ 100000 := by
  obtain ⟨hcz, hcb⟩ := checkD_ok hd
  obtain ⟨h4, _, _, _, _⟩ := zs_four h.z hcz
  have e := h.k.len
  obtain ⟨x, y, z, hh⟩ := checkB_ok hcb
  have e2 : d.b.k = [x, y, z] := hh.1
  rw [e2] at e
  refine ⟨by omega, fun z hz => ?_, by simp at e; omega⟩
  have e8 := checkZs_few hcz z hz
  have := (h.z.ok z hz).len
  omega
theorem dwhole_c (d : DV) (w : World) (h : d.ok w) (hd : checkD d.p = 0) :
    Calls Tryd.prog 27 #[d.v] w fun e w' => (∃ d' : DV, e = .returned d'.v ∧ d'.ok w' ∧ d'.new w.heap.size ∧ d'.p = d.p) ∧ Below w.heap.size w w' := by
  obtain ⟨h1, h2, h3⟩ := desk_small h hd
  exact pdesk_c d w h h1 h2 h3

end Go.Proofs.YtcmladgldjcdmaaDoor
