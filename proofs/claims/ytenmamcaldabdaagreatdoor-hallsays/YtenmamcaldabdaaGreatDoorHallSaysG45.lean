/- HallSays answers true for every hall, record, list of records and other hall, and leaves all that was there as it was; no condition but that the package's table is as its text lays it. -/
import Derived.Test.YtenmamcaldabdaaGreatDoorHallSaysG42
import Derived.Test.YtenmamcaldabdaaGreatDoorHallSaysG44
namespace Go.Proofs.YtenmamcaldabdaaGreatDoor
open Go.RowKit
set_option linter.unusedVariables false
set_option maxRecDepth 100000
set_option linter.unusedSimpArgs false

theorem SH_true (h f : HV) (e : h.p = f.p) (w : World) (hk : h.ok w) (hf : f.ok w) : Calls Tryz.prog 13 #[h.v, f.v] w fun e w' => e = .returned (.bool true) ∧ Below w.heap.size w w' := by
  have := SameHall_c h f w hk hf
  rw [(sameH_iff _ _).2 e] at this
  exact this
theorem SA_true (x y : AV) (e : x.p = y.p) (w : World) (hk : x.ok w) (hf : y.ok w) : Calls Tryz.prog 16 #[x.v, y.v] w fun e w' => e = .returned (.bool true) ∧ Below w.heap.size w w' := by
  have := SameAnswerR_c x y w hk hf
  rw [(sameA_iff _ _).2 e] at this
  exact this
theorem hs_boxes (w : World) (H R G : List Value) (s t : TypeId) :
    Lay (((w.alloc (.cells H.toArray s)).alloc (.cells R.toArray t)).alloc (.cells G.toArray s)) w.heap.size H ∧ Lay (((w.alloc (.cells H.toArray s)).alloc (.cells R.toArray t)).alloc (.cells G.toArray s)) (w.heap.size + 1) R ∧ Lay (((w.alloc (.cells H.toArray s)).alloc (.cells R.toArray t)).alloc (.cells G.toArray s)) (w.heap.size + 1 + 1) G ∧ Below w.heap.size w (((w.alloc (.cells H.toArray s)).alloc (.cells R.toArray t)).alloc (.cells G.toArray s)) := by
  have h0 := (Lay.made w H s).below (belowA (belowA (Below.refl _ _) (.cells R.toArray t)) (.cells G.toArray s))
  have h1 := (Lay.made1 w (.cells H.toArray s) R t).below (belowA (Below.refl _ _) (.cells G.toArray s))
  have h2 := Lay.made1 (w.alloc (.cells H.toArray s)) (.cells R.toArray t) G s
  simp only [World.size_alloc] at h2
  exact ⟨h0, h1, h2, by (repeat (first | exact Below.refl _ _ | assumption | refine Below.drew ?_ | refine below_drewN ?_ _ | refine belowA ?_ _ | refine belowT ?_ (by assumption) | refine Below.setCell ?_ (by first | (simp; done) | (simp; omega)) _))⟩

set_option maxRecDepth 100000 in
set_option maxHeartbeats 32000000 in
theorem HallSays_c (h : HV) (r : RV) (la : Option Addr) (ln lc : Nat) (X : List RV) (g : HV) (w : World) (hS : Shapes w) (hk : h.ok w) (hr : r.ok w) (hX : Recs w la ln lc X) (hg : g.ok w) : Calls Tryz.prog 3 #[h.v, r.v, .slice la ln lc, g.v] w fun e w' => e = .returned (.bool true) ∧ Below w.heap.size w w' := by
  have G1 := hide (fun w' hS' h' k' => Next_c h r w' hS' h' k')
  have G2 := hide (fun w' hS' h' => Replay_c la ln lc X w' hS' h')
  have G3 := hide (fun w' h' k' => Nexted_c h r w' h' k')
  have G4 := hide (fun w' h' => HallOf_c la ln lc X w' h')
  have G5 := hide (fun w' hS' => once_c w' hS')
  have G6 := hide (fun w' h' => HCheck_c h w' h')
  have G7 := hide (fun w' h' => CheckHall_c h w' h')
  have G8 := hide (fun w' h1 h2 => HSame_c h g w' h1 h2)
  have G9 := hide (fun w' h1 h2 => SameHall_c h g w' h1 h2)
  have HRR := hide (hallOf_replay (X.map RV.p))
  generalize nextH h.p r.p = nh at *
  generalize hallOf (X.map RV.p) = ho at *
  generalize replayH (X.map RV.p) = rr at *
  generalize checkH h.p = ch at *
  generalize sameH h.p g.p = sm at *
  obtain ⟨lh, lr, lg, bw⟩ := hs_boxes w h.cells r.cells g.cells 30 34
  have okh := hk.below bw (Nat.le_refl _)
  have okg := hg.below bw (Nat.le_refl _)
  have okr := RV.ok.below hr bw (Nat.le_refl _)
  have hSw := hS.below bw
  replace hX := hX.below bw (Nat.le_refl _)
  clear hk hg hr hS
  rw [show h.v = .agg h.cells.toArray from rfl, show g.v = .agg g.cells.toArray from rfl, show r.v = .agg r.cells.toArray from rfl] at *
  obtain ⟨⟨za, zn, zc, Z, ka, kn, kc, bk, bh, bt⟩, a, n, c, L⟩ := h
  obtain ⟨⟨ua, un, uc, U, va, vn, vc, uk, uh, ut⟩, ub, uo, up, UL⟩ := g
  obtain ⟨⟨rq, rs, ⟨k1, z1, u1, t1, d1⟩⟩, ra, rn, rc⟩ := r
  dsimp only [HV.cells, RV.cells] at *
  go_enter Tryz.func3, Tryz.ntmps3
  go_upto_region 1 with fail
  generalize ((w.alloc (.cells [.slice za zn zc, .slice ka kn kc, .int .i64 bh, .int .i64 bt, .slice a n c].toArray 30)).alloc (.cells [.int .i64 rq, .int .i64 rs, .int .i64 k1, .int .i64 z1, .int .i64 u1, .int .i64 t1, .slice ra rn rc].toArray 34)).alloc (.cells [.slice ua un uc, .slice va vn vc, .int .i64 uh, .int .i64 ut, .slice ub uo up].toArray 30) = w1 at *
  have t1' : (ch == ch) = true := by simp
  have t2' : (sm == sm) = true := by simp
  have t3' : (nh.2.2 == nh.2.2) = true := by simp
  have t4' : (rr.2 == rr.2) = true := by simp
  have b0 := lh.cell 0 _ rfl
  have b1 := lh.cell 1 _ rfl
  have b2 := lh.cell 2 _ rfl
  have b3 := lh.cell 3 _ rfl
  have b4 := lh.cell 4 _ rfl
  have q0 := lr.cell 0 _ rfl
  have q1 := lr.cell 1 _ rfl
  have q2 := lr.cell 2 _ rfl
  have q3 := lr.cell 3 _ rfl
  have q4 := lr.cell 4 _ rfl
  have q5 := lr.cell 5 _ rfl
  have q6 := lr.cell 6 _ rfl
  go_wp2_with fail
  refine (G1.out _ hSw okh okr).mono ?_
  rintro e v2 ⟨⟨⟨⟨xa, xn, xc, xZ, xd, xe, xf, xk, xh, xt⟩, xb, xo, xp, xL⟩, ⟨ye, yt, ya, yn, yc, yd⟩, rfl, okx, oky, _, _, px, py⟩, hb⟩
  have PX := hide px
  have PY := hide py
  clear px py G1 b0 b1 b2 b3 b4 q0 q1 q2 q3 q4 q5 q6
  dsimp only [HV.v, AV.v]
  go_upto_region 2 with fail
  obtain ⟨lx, ly, bn⟩ := two_boxes v2 [.slice xa xn xc, .slice xd xe xf, .int .i64 xh, .int .i64 xt, .slice xb xo xp] [.int .i64 ye, .int .i64 yt, .slice ya yn yc] 30 38
  have bv := belowT hb bn
  replace lh := lh.below bv
  replace lr := lr.below bv
  replace lg := lg.below bv
  replace okh := okh.below bv (Nat.le_refl _)
  replace okg := okg.below bv (Nat.le_refl _)
  replace okr := RV.ok.below okr bv (Nat.le_refl _)
  replace hX := hX.below bv (Nat.le_refl _)
  replace hSw := hSw.below bv
  replace bw := belowT bw bv
  replace okx := okx.below bn (Nat.le_refl _)
  replace oky := AV.ok.below oky bn (Nat.le_refl _)
  clear bn bv hb
  generalize v2.heap.size = B2 at *
  generalize (v2.alloc (.cells [.slice xa xn xc, .slice xd xe xf, .int .i64 xh, .int .i64 xt, .slice xb xo xp].toArray 30)).alloc (.cells [.int .i64 ye, .int .i64 yt, .slice ya yn yc].toArray 38) = w2 at *
  go_wp2_with fail
  refine (G2.out _ hSw hX).mono ?_
  rintro e v3 ⟨⟨⟨⟨pa, pn, pc, pZ, pd, pe, pf, pk, ph, pt⟩, pb, po, pp, pL⟩, rfl, okp, _, pp'⟩, hb⟩
  have PP := hide pp'
  clear pp' G2
  dsimp only [HV.v]
  go_upto_region 3 with fail
  have lp := Lay.made v3 [.slice pa pn pc, .slice pd pe pf, .int .i64 ph, .int .i64 pt, .slice pb po pp] 30
  have bn := belowA (Below.refl _ v3) (.cells [.slice pa pn pc, .slice pd pe pf, .int .i64 ph, .int .i64 pt, .slice pb po pp].toArray 30)
  have bv := belowT hb bn
  replace lh := lh.below bv
  replace lr := lr.below bv
  replace lg := lg.below bv
  replace lx := lx.below bv
  replace ly := ly.below bv
  replace okh := okh.below bv (Nat.le_refl _)
  replace okg := okg.below bv (Nat.le_refl _)
  replace okr := RV.ok.below okr bv (Nat.le_refl _)
  replace hX := hX.below bv (Nat.le_refl _)
  replace hSw := hSw.below bv
  replace okx := okx.below bv (Nat.le_refl _)
  replace oky := AV.ok.below oky bv (Nat.le_refl _)
  replace bw := belowT bw bv
  replace okp := okp.below bn (Nat.le_refl _)
  clear bn bv hb
  generalize v3.heap.size = B3 at *
  generalize v3.alloc (.cells [.slice pa pn pc, .slice pd pe pf, .int .i64 ph, .int .i64 pt, .slice pb po pp].toArray 30) = w3 at *
  have b0 := lh.cell 0 _ rfl
  have b1 := lh.cell 1 _ rfl
  have b2 := lh.cell 2 _ rfl
  have b3 := lh.cell 3 _ rfl
  have b4 := lh.cell 4 _ rfl
  have q0 := lr.cell 0 _ rfl
  have q1 := lr.cell 1 _ rfl
  have q2 := lr.cell 2 _ rfl
  have q3 := lr.cell 3 _ rfl
  have q4 := lr.cell 4 _ rfl
  have q5 := lr.cell 5 _ rfl
  have q6 := lr.cell 6 _ rfl
  go_wp2_with fail
  refine (G3.out _ okh okr).mono ?_
  rintro e v4 ⟨⟨⟨⟨sa, sn, sc, sZ, sd, se, sf, sk, sh, st⟩, sb, so, sp, sL⟩, ⟨we, wt, wa, wn, wc, wd⟩, rfl, oks, okw, _, ps', pw⟩, hb⟩
  have PS := hide ps'
  have PW := hide pw
  clear ps' pw G3 b0 b1 b2 b3 b4 q0 q1 q2 q3 q4 q5 q6
  dsimp only [HV.v, AV.v]
  go_upto_region 4 with fail
  obtain ⟨ls, lw, bn⟩ := two_boxes v4 [.slice sa sn sc, .slice sd se sf, .int .i64 sh, .int .i64 st, .slice sb so sp] [.int .i64 we, .int .i64 wt, .slice wa wn wc] 30 38
  have bv := belowT hb bn
  replace lh := lh.below bv
  replace lr := lr.below bv
  replace lg := lg.below bv
  replace lx := lx.below bv
  replace ly := ly.below bv
  replace lp := lp.below bv
  replace okh := okh.below bv (Nat.le_refl _)
  replace okg := okg.below bv (Nat.le_refl _)
  replace okr := RV.ok.below okr bv (Nat.le_refl _)
  replace hX := hX.below bv (Nat.le_refl _)
  replace hSw := hSw.below bv
  replace okx := okx.below bv (Nat.le_refl _)
  replace oky := AV.ok.below oky bv (Nat.le_refl _)
  replace okp := okp.below bv (Nat.le_refl _)
  replace bw := belowT bw bv
  replace oks := oks.below bn (Nat.le_refl _)
  replace okw := AV.ok.below okw bn (Nat.le_refl _)
  clear bn bv hb
  generalize v4.heap.size = B4 at *
  generalize (v4.alloc (.cells [.slice sa sn sc, .slice sd se sf, .int .i64 sh, .int .i64 st, .slice sb so sp].toArray 30)).alloc (.cells [.int .i64 we, .int .i64 wt, .slice wa wn wc].toArray 38) = w4 at *
  go_wp2_with fail
  refine (G4.out _ hX).mono ?_
  rintro e v5 ⟨⟨⟨⟨ma, mn, mc, mZ, md, me, mf, mk, mh, mt⟩, mb, mo, mp, mL⟩, ta, tn, tc, TA, rfl, okm, _, _, _, pm, _⟩, hb⟩
  rw [HRR.out.1] at pm
  rw [HRR.out.2]
  have PM := hide pm
  clear pm G4
  dsimp only [HV.v]
  go_upto_region 5 with fail
  have lm := Lay.made v5 [.slice ma mn mc, .slice md me mf, .int .i64 mh, .int .i64 mt, .slice mb mo mp] 30
  have bn := belowA (Below.refl _ v5) (.cells [.slice ma mn mc, .slice md me mf, .int .i64 mh, .int .i64 mt, .slice mb mo mp].toArray 30)
  have bv := belowT hb bn
  replace lh := lh.below bv
  replace lr := lr.below bv
  replace lg := lg.below bv
  replace lx := lx.below bv
  replace ly := ly.below bv
  replace lp := lp.below bv
  replace ls := ls.below bv
  replace lw := lw.below bv
  replace okh := okh.below bv (Nat.le_refl _)
  replace okg := okg.below bv (Nat.le_refl _)
  replace okr := RV.ok.below okr bv (Nat.le_refl _)
  replace hX := hX.below bv (Nat.le_refl _)
  replace hSw := hSw.below bv
  replace okx := okx.below bv (Nat.le_refl _)
  replace oky := AV.ok.below oky bv (Nat.le_refl _)
  replace okp := okp.below bv (Nat.le_refl _)
  replace oks := oks.below bv (Nat.le_refl _)
  replace okw := AV.ok.below okw bv (Nat.le_refl _)
  replace bw := belowT bw bv
  replace okm := okm.below bn (Nat.le_refl _)
  clear bn bv hb
  generalize v5.heap.size = B5 at *
  generalize v5.alloc (.cells [.slice ma mn mc, .slice md me mf, .int .i64 mh, .int .i64 mt, .slice mb mo mp].toArray 30) = w5 at *
  have J1 := hide (fun w' h1 h2 => SH_true ⟨⟨xa, xn, xc, xZ, xd, xe, xf, xk, xh, xt⟩, xb, xo, xp, xL⟩ ⟨⟨sa, sn, sc, sZ, sd, se, sf, sk, sh, st⟩, sb, so, sp, sL⟩ (PX.out.trans PS.out.symm) w' h1 h2)
  have J2 := hide (fun w' h1 h2 => SH_true ⟨⟨pa, pn, pc, pZ, pd, pe, pf, pk, ph, pt⟩, pb, po, pp, pL⟩ ⟨⟨ma, mn, mc, mZ, md, me, mf, mk, mh, mt⟩, mb, mo, mp, mL⟩ (PP.out.trans PM.out.symm) w' h1 h2)
  have J3 := hide (fun w' h1 h2 => SA_true ⟨ye, yt, ya, yn, yc, yd⟩ ⟨we, wt, wa, wn, wc, wd⟩ (PY.out.trans PW.out.symm) w' h1 h2)
  clear PX PS PP PM PY PW HRR
  dsimp only [HV.v, AV.v] at J1 J2 J3
  have s0 := lh.cell 0 _ rfl
  have s1 := lh.cell 1 _ rfl
  have s2 := lh.cell 2 _ rfl
  have s3 := lh.cell 3 _ rfl
  have s4 := lh.cell 4 _ rfl
  have s5 := lg.cell 0 _ rfl
  have s6 := lg.cell 1 _ rfl
  have s7 := lg.cell 2 _ rfl
  have s8 := lg.cell 3 _ rfl
  have s9 := lg.cell 4 _ rfl
  have s10 := lx.cell 0 _ rfl
  have s11 := lx.cell 1 _ rfl
  have s12 := lx.cell 2 _ rfl
  have s13 := lx.cell 3 _ rfl
  have s14 := lx.cell 4 _ rfl
  have s15 := ls.cell 0 _ rfl
  have s16 := ls.cell 1 _ rfl
  have s17 := ls.cell 2 _ rfl
  have s18 := ls.cell 3 _ rfl
  have s19 := ls.cell 4 _ rfl
  have s20 := ly.cell 0 _ rfl
  have s21 := ly.cell 1 _ rfl
  have s22 := ly.cell 2 _ rfl
  have s23 := lw.cell 0 _ rfl
  have s24 := lw.cell 1 _ rfl
  have s25 := lw.cell 2 _ rfl
  have s26 := lp.cell 0 _ rfl
  have s27 := lp.cell 1 _ rfl
  have s28 := lp.cell 2 _ rfl
  have s29 := lp.cell 3 _ rfl
  have s30 := lp.cell 4 _ rfl
  have s31 := lm.cell 0 _ rfl
  have s32 := lm.cell 1 _ rfl
  have s33 := lm.cell 2 _ rfl
  have s34 := lm.cell 3 _ rfl
  have s35 := lm.cell 4 _ rfl
  go_region_held3 (fun w' => w'.cell? ⟨w.heap.size, 0, none⟩ = some (.slice za zn zc) ∧ w'.cell? ⟨w.heap.size, 1, none⟩ = some (.slice ka kn kc) ∧ w'.cell? ⟨w.heap.size, 2, none⟩ = some (.int .i64 bh) ∧ w'.cell? ⟨w.heap.size, 3, none⟩ = some (.int .i64 bt) ∧ w'.cell? ⟨w.heap.size, 4, none⟩ = some (.slice a n c) ∧ w'.cell? ⟨w.heap.size + 1 + 1, 0, none⟩ = some (.slice ua un uc) ∧ w'.cell? ⟨w.heap.size + 1 + 1, 1, none⟩ = some (.slice va vn vc) ∧ w'.cell? ⟨w.heap.size + 1 + 1, 2, none⟩ = some (.int .i64 uh) ∧ w'.cell? ⟨w.heap.size + 1 + 1, 3, none⟩ = some (.int .i64 ut) ∧ w'.cell? ⟨w.heap.size + 1 + 1, 4, none⟩ = some (.slice ub uo up) ∧ w'.cell? ⟨B2, 0, none⟩ = some (.slice xa xn xc) ∧ w'.cell? ⟨B2, 1, none⟩ = some (.slice xd xe xf) ∧ w'.cell? ⟨B2, 2, none⟩ = some (.int .i64 xh) ∧ w'.cell? ⟨B2, 3, none⟩ = some (.int .i64 xt) ∧ w'.cell? ⟨B2, 4, none⟩ = some (.slice xb xo xp) ∧ w'.cell? ⟨B4, 0, none⟩ = some (.slice sa sn sc) ∧ w'.cell? ⟨B4, 1, none⟩ = some (.slice sd se sf) ∧ w'.cell? ⟨B4, 2, none⟩ = some (.int .i64 sh) ∧ w'.cell? ⟨B4, 3, none⟩ = some (.int .i64 st) ∧ w'.cell? ⟨B4, 4, none⟩ = some (.slice sb so sp) ∧ w'.cell? ⟨B2 + 1, 0, none⟩ = some (.int .i64 ye) ∧ w'.cell? ⟨B2 + 1, 1, none⟩ = some (.int .i64 yt) ∧ w'.cell? ⟨B2 + 1, 2, none⟩ = some (.slice ya yn yc) ∧ w'.cell? ⟨B4 + 1, 0, none⟩ = some (.int .i64 we) ∧ w'.cell? ⟨B4 + 1, 1, none⟩ = some (.int .i64 wt) ∧ w'.cell? ⟨B4 + 1, 2, none⟩ = some (.slice wa wn wc) ∧ w'.cell? ⟨B3, 0, none⟩ = some (.slice pa pn pc) ∧ w'.cell? ⟨B3, 1, none⟩ = some (.slice pd pe pf) ∧ w'.cell? ⟨B3, 2, none⟩ = some (.int .i64 ph) ∧ w'.cell? ⟨B3, 3, none⟩ = some (.int .i64 pt) ∧ w'.cell? ⟨B3, 4, none⟩ = some (.slice pb po pp) ∧ w'.cell? ⟨B5, 0, none⟩ = some (.slice ma mn mc) ∧ w'.cell? ⟨B5, 1, none⟩ = some (.slice md me mf) ∧ w'.cell? ⟨B5, 2, none⟩ = some (.int .i64 mh) ∧ w'.cell? ⟨B5, 3, none⟩ = some (.int .i64 mt) ∧ w'.cell? ⟨B5, 4, none⟩ = some (.slice mb mo mp)) ((first | (go_simp; done) | (simp [*, World.cell?_alloc_at, World.cell?_alloc_past, World.cell?_alloc_some, World.cell?_setCell_far]; done)))
    (first
      | (go_at_call 9; refine (G5.out _ (by refine hSw.below ?_; clear bw; (repeat (first | exact Below.refl _ _ | assumption | refine Below.drew ?_ | refine below_drewN ?_ _ | refine belowA ?_ _ | refine belowT ?_ (by assumption) | refine Below.setCell ?_ (by first | (simp; done) | (simp; omega)) _)))).mono ?_; rintro e w9 ⟨rfl, hb9⟩; (have b9 : Below w5.heap.size w5 w9 := by clear bw; (repeat (first | exact Below.refl _ _ | assumption | refine Below.drew ?_ | refine below_drewN ?_ _ | refine belowA ?_ _ | refine belowT ?_ (by assumption) | refine Below.setCell ?_ (by first | (simp; done) | (simp; omega)) _))); (clear s0 s1 s2 s3 s4 s5 s6 s7 s8 s9 s10 s11 s12 s13 s14 s15 s16 s17 s18 s19 s20 s21 s22 s23 s24 s25 s26 s27 s28 s29 s30 s31 s32 s33 s34 s35); (have s0 := (lh.below b9).cell 0 _ rfl); (have s1 := (lh.below b9).cell 1 _ rfl); (have s2 := (lh.below b9).cell 2 _ rfl); (have s3 := (lh.below b9).cell 3 _ rfl); (have s4 := (lh.below b9).cell 4 _ rfl); (have s5 := (lg.below b9).cell 0 _ rfl); (have s6 := (lg.below b9).cell 1 _ rfl); (have s7 := (lg.below b9).cell 2 _ rfl); (have s8 := (lg.below b9).cell 3 _ rfl); (have s9 := (lg.below b9).cell 4 _ rfl); (have s10 := (lx.below b9).cell 0 _ rfl); (have s11 := (lx.below b9).cell 1 _ rfl); (have s12 := (lx.below b9).cell 2 _ rfl); (have s13 := (lx.below b9).cell 3 _ rfl); (have s14 := (lx.below b9).cell 4 _ rfl); (have s15 := (ls.below b9).cell 0 _ rfl); (have s16 := (ls.below b9).cell 1 _ rfl); (have s17 := (ls.below b9).cell 2 _ rfl); (have s18 := (ls.below b9).cell 3 _ rfl); (have s19 := (ls.below b9).cell 4 _ rfl); (have s20 := (ly.below b9).cell 0 _ rfl); (have s21 := (ly.below b9).cell 1 _ rfl); (have s22 := (ly.below b9).cell 2 _ rfl); (have s23 := (lw.below b9).cell 0 _ rfl); (have s24 := (lw.below b9).cell 1 _ rfl); (have s25 := (lw.below b9).cell 2 _ rfl); (have s26 := (lp.below b9).cell 0 _ rfl); (have s27 := (lp.below b9).cell 1 _ rfl); (have s28 := (lp.below b9).cell 2 _ rfl); (have s29 := (lp.below b9).cell 3 _ rfl); (have s30 := (lp.below b9).cell 4 _ rfl); (have s31 := (lm.below b9).cell 0 _ rfl); (have s32 := (lm.below b9).cell 1 _ rfl); (have s33 := (lm.below b9).cell 2 _ rfl); (have s34 := (lm.below b9).cell 3 _ rfl); (have s35 := (lm.below b9).cell 4 _ rfl))
      | (go_at_call 10; refine (G6.out _ (by refine HV.ok.below okh (B := w5.heap.size) ?_ (Nat.le_refl _); clear bw; (repeat (first | exact Below.refl _ _ | assumption | refine Below.drew ?_ | refine below_drewN ?_ _ | refine belowA ?_ _ | refine belowT ?_ (by assumption) | refine Below.setCell ?_ (by first | (simp; done) | (simp; omega)) _)))).mono ?_; rintro e w9 ⟨rfl, hb9⟩; (have b9 : Below w5.heap.size w5 w9 := by clear bw; (repeat (first | exact Below.refl _ _ | assumption | refine Below.drew ?_ | refine below_drewN ?_ _ | refine belowA ?_ _ | refine belowT ?_ (by assumption) | refine Below.setCell ?_ (by first | (simp; done) | (simp; omega)) _))); (clear s0 s1 s2 s3 s4 s5 s6 s7 s8 s9 s10 s11 s12 s13 s14 s15 s16 s17 s18 s19 s20 s21 s22 s23 s24 s25 s26 s27 s28 s29 s30 s31 s32 s33 s34 s35); (have s0 := (lh.below b9).cell 0 _ rfl); (have s1 := (lh.below b9).cell 1 _ rfl); (have s2 := (lh.below b9).cell 2 _ rfl); (have s3 := (lh.below b9).cell 3 _ rfl); (have s4 := (lh.below b9).cell 4 _ rfl); (have s5 := (lg.below b9).cell 0 _ rfl); (have s6 := (lg.below b9).cell 1 _ rfl); (have s7 := (lg.below b9).cell 2 _ rfl); (have s8 := (lg.below b9).cell 3 _ rfl); (have s9 := (lg.below b9).cell 4 _ rfl); (have s10 := (lx.below b9).cell 0 _ rfl); (have s11 := (lx.below b9).cell 1 _ rfl); (have s12 := (lx.below b9).cell 2 _ rfl); (have s13 := (lx.below b9).cell 3 _ rfl); (have s14 := (lx.below b9).cell 4 _ rfl); (have s15 := (ls.below b9).cell 0 _ rfl); (have s16 := (ls.below b9).cell 1 _ rfl); (have s17 := (ls.below b9).cell 2 _ rfl); (have s18 := (ls.below b9).cell 3 _ rfl); (have s19 := (ls.below b9).cell 4 _ rfl); (have s20 := (ly.below b9).cell 0 _ rfl); (have s21 := (ly.below b9).cell 1 _ rfl); (have s22 := (ly.below b9).cell 2 _ rfl); (have s23 := (lw.below b9).cell 0 _ rfl); (have s24 := (lw.below b9).cell 1 _ rfl); (have s25 := (lw.below b9).cell 2 _ rfl); (have s26 := (lp.below b9).cell 0 _ rfl); (have s27 := (lp.below b9).cell 1 _ rfl); (have s28 := (lp.below b9).cell 2 _ rfl); (have s29 := (lp.below b9).cell 3 _ rfl); (have s30 := (lp.below b9).cell 4 _ rfl); (have s31 := (lm.below b9).cell 0 _ rfl); (have s32 := (lm.below b9).cell 1 _ rfl); (have s33 := (lm.below b9).cell 2 _ rfl); (have s34 := (lm.below b9).cell 3 _ rfl); (have s35 := (lm.below b9).cell 4 _ rfl))
      | (go_at_call 11; refine (G7.out _ (by refine HV.ok.below okh (B := w5.heap.size) ?_ (Nat.le_refl _); clear bw; (repeat (first | exact Below.refl _ _ | assumption | refine Below.drew ?_ | refine below_drewN ?_ _ | refine belowA ?_ _ | refine belowT ?_ (by assumption) | refine Below.setCell ?_ (by first | (simp; done) | (simp; omega)) _)))).mono ?_; rintro e w9 ⟨rfl, hb9⟩; (have b9 : Below w5.heap.size w5 w9 := by clear bw; (repeat (first | exact Below.refl _ _ | assumption | refine Below.drew ?_ | refine below_drewN ?_ _ | refine belowA ?_ _ | refine belowT ?_ (by assumption) | refine Below.setCell ?_ (by first | (simp; done) | (simp; omega)) _))); (clear s0 s1 s2 s3 s4 s5 s6 s7 s8 s9 s10 s11 s12 s13 s14 s15 s16 s17 s18 s19 s20 s21 s22 s23 s24 s25 s26 s27 s28 s29 s30 s31 s32 s33 s34 s35); (have s0 := (lh.below b9).cell 0 _ rfl); (have s1 := (lh.below b9).cell 1 _ rfl); (have s2 := (lh.below b9).cell 2 _ rfl); (have s3 := (lh.below b9).cell 3 _ rfl); (have s4 := (lh.below b9).cell 4 _ rfl); (have s5 := (lg.below b9).cell 0 _ rfl); (have s6 := (lg.below b9).cell 1 _ rfl); (have s7 := (lg.below b9).cell 2 _ rfl); (have s8 := (lg.below b9).cell 3 _ rfl); (have s9 := (lg.below b9).cell 4 _ rfl); (have s10 := (lx.below b9).cell 0 _ rfl); (have s11 := (lx.below b9).cell 1 _ rfl); (have s12 := (lx.below b9).cell 2 _ rfl); (have s13 := (lx.below b9).cell 3 _ rfl); (have s14 := (lx.below b9).cell 4 _ rfl); (have s15 := (ls.below b9).cell 0 _ rfl); (have s16 := (ls.below b9).cell 1 _ rfl); (have s17 := (ls.below b9).cell 2 _ rfl); (have s18 := (ls.below b9).cell 3 _ rfl); (have s19 := (ls.below b9).cell 4 _ rfl); (have s20 := (ly.below b9).cell 0 _ rfl); (have s21 := (ly.below b9).cell 1 _ rfl); (have s22 := (ly.below b9).cell 2 _ rfl); (have s23 := (lw.below b9).cell 0 _ rfl); (have s24 := (lw.below b9).cell 1 _ rfl); (have s25 := (lw.below b9).cell 2 _ rfl); (have s26 := (lp.below b9).cell 0 _ rfl); (have s27 := (lp.below b9).cell 1 _ rfl); (have s28 := (lp.below b9).cell 2 _ rfl); (have s29 := (lp.below b9).cell 3 _ rfl); (have s30 := (lp.below b9).cell 4 _ rfl); (have s31 := (lm.below b9).cell 0 _ rfl); (have s32 := (lm.below b9).cell 1 _ rfl); (have s33 := (lm.below b9).cell 2 _ rfl); (have s34 := (lm.below b9).cell 3 _ rfl); (have s35 := (lm.below b9).cell 4 _ rfl))
      | (go_at_call 12; refine (G8.out _ (by refine HV.ok.below okh (B := w5.heap.size) ?_ (Nat.le_refl _); clear bw; (repeat (first | exact Below.refl _ _ | assumption | refine Below.drew ?_ | refine below_drewN ?_ _ | refine belowA ?_ _ | refine belowT ?_ (by assumption) | refine Below.setCell ?_ (by first | (simp; done) | (simp; omega)) _))) (by refine HV.ok.below okg (B := w5.heap.size) ?_ (Nat.le_refl _); clear bw; (repeat (first | exact Below.refl _ _ | assumption | refine Below.drew ?_ | refine below_drewN ?_ _ | refine belowA ?_ _ | refine belowT ?_ (by assumption) | refine Below.setCell ?_ (by first | (simp; done) | (simp; omega)) _)))).mono ?_; rintro e w9 ⟨rfl, hb9⟩; (have b9 : Below w5.heap.size w5 w9 := by clear bw; (repeat (first | exact Below.refl _ _ | assumption | refine Below.drew ?_ | refine below_drewN ?_ _ | refine belowA ?_ _ | refine belowT ?_ (by assumption) | refine Below.setCell ?_ (by first | (simp; done) | (simp; omega)) _))); (clear s0 s1 s2 s3 s4 s5 s6 s7 s8 s9 s10 s11 s12 s13 s14 s15 s16 s17 s18 s19 s20 s21 s22 s23 s24 s25 s26 s27 s28 s29 s30 s31 s32 s33 s34 s35); (have s0 := (lh.below b9).cell 0 _ rfl); (have s1 := (lh.below b9).cell 1 _ rfl); (have s2 := (lh.below b9).cell 2 _ rfl); (have s3 := (lh.below b9).cell 3 _ rfl); (have s4 := (lh.below b9).cell 4 _ rfl); (have s5 := (lg.below b9).cell 0 _ rfl); (have s6 := (lg.below b9).cell 1 _ rfl); (have s7 := (lg.below b9).cell 2 _ rfl); (have s8 := (lg.below b9).cell 3 _ rfl); (have s9 := (lg.below b9).cell 4 _ rfl); (have s10 := (lx.below b9).cell 0 _ rfl); (have s11 := (lx.below b9).cell 1 _ rfl); (have s12 := (lx.below b9).cell 2 _ rfl); (have s13 := (lx.below b9).cell 3 _ rfl); (have s14 := (lx.below b9).cell 4 _ rfl); (have s15 := (ls.below b9).cell 0 _ rfl); (have s16 := (ls.below b9).cell 1 _ rfl); (have s17 := (ls.below b9).cell 2 _ rfl); (have s18 := (ls.below b9).cell 3 _ rfl); (have s19 := (ls.below b9).cell 4 _ rfl); (have s20 := (ly.below b9).cell 0 _ rfl); (have s21 := (ly.below b9).cell 1 _ rfl); (have s22 := (ly.below b9).cell 2 _ rfl); (have s23 := (lw.below b9).cell 0 _ rfl); (have s24 := (lw.below b9).cell 1 _ rfl); (have s25 := (lw.below b9).cell 2 _ rfl); (have s26 := (lp.below b9).cell 0 _ rfl); (have s27 := (lp.below b9).cell 1 _ rfl); (have s28 := (lp.below b9).cell 2 _ rfl); (have s29 := (lp.below b9).cell 3 _ rfl); (have s30 := (lp.below b9).cell 4 _ rfl); (have s31 := (lm.below b9).cell 0 _ rfl); (have s32 := (lm.below b9).cell 1 _ rfl); (have s33 := (lm.below b9).cell 2 _ rfl); (have s34 := (lm.below b9).cell 3 _ rfl); (have s35 := (lm.below b9).cell 4 _ rfl))
      | (go_at_call_of 13 (Value.slice ub uo up); refine (G9.out _ (by refine HV.ok.below okh (B := w5.heap.size) ?_ (Nat.le_refl _); clear bw; (repeat (first | exact Below.refl _ _ | assumption | refine Below.drew ?_ | refine below_drewN ?_ _ | refine belowA ?_ _ | refine belowT ?_ (by assumption) | refine Below.setCell ?_ (by first | (simp; done) | (simp; omega)) _))) (by refine HV.ok.below okg (B := w5.heap.size) ?_ (Nat.le_refl _); clear bw; (repeat (first | exact Below.refl _ _ | assumption | refine Below.drew ?_ | refine below_drewN ?_ _ | refine belowA ?_ _ | refine belowT ?_ (by assumption) | refine Below.setCell ?_ (by first | (simp; done) | (simp; omega)) _)))).mono ?_; rintro e w9 ⟨rfl, hb9⟩; (have b9 : Below w5.heap.size w5 w9 := by clear bw; (repeat (first | exact Below.refl _ _ | assumption | refine Below.drew ?_ | refine below_drewN ?_ _ | refine belowA ?_ _ | refine belowT ?_ (by assumption) | refine Below.setCell ?_ (by first | (simp; done) | (simp; omega)) _))); (clear s0 s1 s2 s3 s4 s5 s6 s7 s8 s9 s10 s11 s12 s13 s14 s15 s16 s17 s18 s19 s20 s21 s22 s23 s24 s25 s26 s27 s28 s29 s30 s31 s32 s33 s34 s35); (have s0 := (lh.below b9).cell 0 _ rfl); (have s1 := (lh.below b9).cell 1 _ rfl); (have s2 := (lh.below b9).cell 2 _ rfl); (have s3 := (lh.below b9).cell 3 _ rfl); (have s4 := (lh.below b9).cell 4 _ rfl); (have s5 := (lg.below b9).cell 0 _ rfl); (have s6 := (lg.below b9).cell 1 _ rfl); (have s7 := (lg.below b9).cell 2 _ rfl); (have s8 := (lg.below b9).cell 3 _ rfl); (have s9 := (lg.below b9).cell 4 _ rfl); (have s10 := (lx.below b9).cell 0 _ rfl); (have s11 := (lx.below b9).cell 1 _ rfl); (have s12 := (lx.below b9).cell 2 _ rfl); (have s13 := (lx.below b9).cell 3 _ rfl); (have s14 := (lx.below b9).cell 4 _ rfl); (have s15 := (ls.below b9).cell 0 _ rfl); (have s16 := (ls.below b9).cell 1 _ rfl); (have s17 := (ls.below b9).cell 2 _ rfl); (have s18 := (ls.below b9).cell 3 _ rfl); (have s19 := (ls.below b9).cell 4 _ rfl); (have s20 := (ly.below b9).cell 0 _ rfl); (have s21 := (ly.below b9).cell 1 _ rfl); (have s22 := (ly.below b9).cell 2 _ rfl); (have s23 := (lw.below b9).cell 0 _ rfl); (have s24 := (lw.below b9).cell 1 _ rfl); (have s25 := (lw.below b9).cell 2 _ rfl); (have s26 := (lp.below b9).cell 0 _ rfl); (have s27 := (lp.below b9).cell 1 _ rfl); (have s28 := (lp.below b9).cell 2 _ rfl); (have s29 := (lp.below b9).cell 3 _ rfl); (have s30 := (lp.below b9).cell 4 _ rfl); (have s31 := (lm.below b9).cell 0 _ rfl); (have s32 := (lm.below b9).cell 1 _ rfl); (have s33 := (lm.below b9).cell 2 _ rfl); (have s34 := (lm.below b9).cell 3 _ rfl); (have s35 := (lm.below b9).cell 4 _ rfl))
      | (go_at_call_of 13 (Value.slice sb so sp); refine (J1.out _ (by refine HV.ok.below okx (B := w5.heap.size) ?_ (Nat.le_refl _); clear bw; (repeat (first | exact Below.refl _ _ | assumption | refine Below.drew ?_ | refine below_drewN ?_ _ | refine belowA ?_ _ | refine belowT ?_ (by assumption) | refine Below.setCell ?_ (by first | (simp; done) | (simp; omega)) _))) (by refine HV.ok.below oks (B := w5.heap.size) ?_ (Nat.le_refl _); clear bw; (repeat (first | exact Below.refl _ _ | assumption | refine Below.drew ?_ | refine below_drewN ?_ _ | refine belowA ?_ _ | refine belowT ?_ (by assumption) | refine Below.setCell ?_ (by first | (simp; done) | (simp; omega)) _)))).mono ?_; rintro e w9 ⟨rfl, hb9⟩; (have b9 : Below w5.heap.size w5 w9 := by clear bw; (repeat (first | exact Below.refl _ _ | assumption | refine Below.drew ?_ | refine below_drewN ?_ _ | refine belowA ?_ _ | refine belowT ?_ (by assumption) | refine Below.setCell ?_ (by first | (simp; done) | (simp; omega)) _))); (clear s0 s1 s2 s3 s4 s5 s6 s7 s8 s9 s10 s11 s12 s13 s14 s15 s16 s17 s18 s19 s20 s21 s22 s23 s24 s25 s26 s27 s28 s29 s30 s31 s32 s33 s34 s35); (have s0 := (lh.below b9).cell 0 _ rfl); (have s1 := (lh.below b9).cell 1 _ rfl); (have s2 := (lh.below b9).cell 2 _ rfl); (have s3 := (lh.below b9).cell 3 _ rfl); (have s4 := (lh.below b9).cell 4 _ rfl); (have s5 := (lg.below b9).cell 0 _ rfl); (have s6 := (lg.below b9).cell 1 _ rfl); (have s7 := (lg.below b9).cell 2 _ rfl); (have s8 := (lg.below b9).cell 3 _ rfl); (have s9 := (lg.below b9).cell 4 _ rfl); (have s10 := (lx.below b9).cell 0 _ rfl); (have s11 := (lx.below b9).cell 1 _ rfl); (have s12 := (lx.below b9).cell 2 _ rfl); (have s13 := (lx.below b9).cell 3 _ rfl); (have s14 := (lx.below b9).cell 4 _ rfl); (have s15 := (ls.below b9).cell 0 _ rfl); (have s16 := (ls.below b9).cell 1 _ rfl); (have s17 := (ls.below b9).cell 2 _ rfl); (have s18 := (ls.below b9).cell 3 _ rfl); (have s19 := (ls.below b9).cell 4 _ rfl); (have s20 := (ly.below b9).cell 0 _ rfl); (have s21 := (ly.below b9).cell 1 _ rfl); (have s22 := (ly.below b9).cell 2 _ rfl); (have s23 := (lw.below b9).cell 0 _ rfl); (have s24 := (lw.below b9).cell 1 _ rfl); (have s25 := (lw.below b9).cell 2 _ rfl); (have s26 := (lp.below b9).cell 0 _ rfl); (have s27 := (lp.below b9).cell 1 _ rfl); (have s28 := (lp.below b9).cell 2 _ rfl); (have s29 := (lp.below b9).cell 3 _ rfl); (have s30 := (lp.below b9).cell 4 _ rfl); (have s31 := (lm.below b9).cell 0 _ rfl); (have s32 := (lm.below b9).cell 1 _ rfl); (have s33 := (lm.below b9).cell 2 _ rfl); (have s34 := (lm.below b9).cell 3 _ rfl); (have s35 := (lm.below b9).cell 4 _ rfl))
      | (go_at_call_of 13 (Value.slice mb mo mp); refine (J2.out _ (by refine HV.ok.below okp (B := w5.heap.size) ?_ (Nat.le_refl _); clear bw; (repeat (first | exact Below.refl _ _ | assumption | refine Below.drew ?_ | refine below_drewN ?_ _ | refine belowA ?_ _ | refine belowT ?_ (by assumption) | refine Below.setCell ?_ (by first | (simp; done) | (simp; omega)) _))) (by refine HV.ok.below okm (B := w5.heap.size) ?_ (Nat.le_refl _); clear bw; (repeat (first | exact Below.refl _ _ | assumption | refine Below.drew ?_ | refine below_drewN ?_ _ | refine belowA ?_ _ | refine belowT ?_ (by assumption) | refine Below.setCell ?_ (by first | (simp; done) | (simp; omega)) _)))).mono ?_; rintro e w9 ⟨rfl, hb9⟩; (have b9 : Below w5.heap.size w5 w9 := by clear bw; (repeat (first | exact Below.refl _ _ | assumption | refine Below.drew ?_ | refine below_drewN ?_ _ | refine belowA ?_ _ | refine belowT ?_ (by assumption) | refine Below.setCell ?_ (by first | (simp; done) | (simp; omega)) _))); (clear s0 s1 s2 s3 s4 s5 s6 s7 s8 s9 s10 s11 s12 s13 s14 s15 s16 s17 s18 s19 s20 s21 s22 s23 s24 s25 s26 s27 s28 s29 s30 s31 s32 s33 s34 s35); (have s0 := (lh.below b9).cell 0 _ rfl); (have s1 := (lh.below b9).cell 1 _ rfl); (have s2 := (lh.below b9).cell 2 _ rfl); (have s3 := (lh.below b9).cell 3 _ rfl); (have s4 := (lh.below b9).cell 4 _ rfl); (have s5 := (lg.below b9).cell 0 _ rfl); (have s6 := (lg.below b9).cell 1 _ rfl); (have s7 := (lg.below b9).cell 2 _ rfl); (have s8 := (lg.below b9).cell 3 _ rfl); (have s9 := (lg.below b9).cell 4 _ rfl); (have s10 := (lx.below b9).cell 0 _ rfl); (have s11 := (lx.below b9).cell 1 _ rfl); (have s12 := (lx.below b9).cell 2 _ rfl); (have s13 := (lx.below b9).cell 3 _ rfl); (have s14 := (lx.below b9).cell 4 _ rfl); (have s15 := (ls.below b9).cell 0 _ rfl); (have s16 := (ls.below b9).cell 1 _ rfl); (have s17 := (ls.below b9).cell 2 _ rfl); (have s18 := (ls.below b9).cell 3 _ rfl); (have s19 := (ls.below b9).cell 4 _ rfl); (have s20 := (ly.below b9).cell 0 _ rfl); (have s21 := (ly.below b9).cell 1 _ rfl); (have s22 := (ly.below b9).cell 2 _ rfl); (have s23 := (lw.below b9).cell 0 _ rfl); (have s24 := (lw.below b9).cell 1 _ rfl); (have s25 := (lw.below b9).cell 2 _ rfl); (have s26 := (lp.below b9).cell 0 _ rfl); (have s27 := (lp.below b9).cell 1 _ rfl); (have s28 := (lp.below b9).cell 2 _ rfl); (have s29 := (lp.below b9).cell 3 _ rfl); (have s30 := (lp.below b9).cell 4 _ rfl); (have s31 := (lm.below b9).cell 0 _ rfl); (have s32 := (lm.below b9).cell 1 _ rfl); (have s33 := (lm.below b9).cell 2 _ rfl); (have s34 := (lm.below b9).cell 3 _ rfl); (have s35 := (lm.below b9).cell 4 _ rfl))
      | (go_at_call 16; refine (J3.out _ (by refine AV.ok.below oky (B := w5.heap.size) ?_ (Nat.le_refl _); clear bw; (repeat (first | exact Below.refl _ _ | assumption | refine Below.drew ?_ | refine below_drewN ?_ _ | refine belowA ?_ _ | refine belowT ?_ (by assumption) | refine Below.setCell ?_ (by first | (simp; done) | (simp; omega)) _))) (by refine AV.ok.below okw (B := w5.heap.size) ?_ (Nat.le_refl _); clear bw; (repeat (first | exact Below.refl _ _ | assumption | refine Below.drew ?_ | refine below_drewN ?_ _ | refine belowA ?_ _ | refine belowT ?_ (by assumption) | refine Below.setCell ?_ (by first | (simp; done) | (simp; omega)) _)))).mono ?_; rintro e w9 ⟨rfl, hb9⟩; (have b9 : Below w5.heap.size w5 w9 := by clear bw; (repeat (first | exact Below.refl _ _ | assumption | refine Below.drew ?_ | refine below_drewN ?_ _ | refine belowA ?_ _ | refine belowT ?_ (by assumption) | refine Below.setCell ?_ (by first | (simp; done) | (simp; omega)) _))); (clear s0 s1 s2 s3 s4 s5 s6 s7 s8 s9 s10 s11 s12 s13 s14 s15 s16 s17 s18 s19 s20 s21 s22 s23 s24 s25 s26 s27 s28 s29 s30 s31 s32 s33 s34 s35); (have s0 := (lh.below b9).cell 0 _ rfl); (have s1 := (lh.below b9).cell 1 _ rfl); (have s2 := (lh.below b9).cell 2 _ rfl); (have s3 := (lh.below b9).cell 3 _ rfl); (have s4 := (lh.below b9).cell 4 _ rfl); (have s5 := (lg.below b9).cell 0 _ rfl); (have s6 := (lg.below b9).cell 1 _ rfl); (have s7 := (lg.below b9).cell 2 _ rfl); (have s8 := (lg.below b9).cell 3 _ rfl); (have s9 := (lg.below b9).cell 4 _ rfl); (have s10 := (lx.below b9).cell 0 _ rfl); (have s11 := (lx.below b9).cell 1 _ rfl); (have s12 := (lx.below b9).cell 2 _ rfl); (have s13 := (lx.below b9).cell 3 _ rfl); (have s14 := (lx.below b9).cell 4 _ rfl); (have s15 := (ls.below b9).cell 0 _ rfl); (have s16 := (ls.below b9).cell 1 _ rfl); (have s17 := (ls.below b9).cell 2 _ rfl); (have s18 := (ls.below b9).cell 3 _ rfl); (have s19 := (ls.below b9).cell 4 _ rfl); (have s20 := (ly.below b9).cell 0 _ rfl); (have s21 := (ly.below b9).cell 1 _ rfl); (have s22 := (ly.below b9).cell 2 _ rfl); (have s23 := (lw.below b9).cell 0 _ rfl); (have s24 := (lw.below b9).cell 1 _ rfl); (have s25 := (lw.below b9).cell 2 _ rfl); (have s26 := (lp.below b9).cell 0 _ rfl); (have s27 := (lp.below b9).cell 1 _ rfl); (have s28 := (lp.below b9).cell 2 _ rfl); (have s29 := (lp.below b9).cell 3 _ rfl); (have s30 := (lp.below b9).cell 4 _ rfl); (have s31 := (lm.below b9).cell 0 _ rfl); (have s32 := (lm.below b9).cell 1 _ rfl); (have s33 := (lm.below b9).cell 2 _ rfl); (have s34 := (lm.below b9).cell 3 _ rfl); (have s35 := (lm.below b9).cell 4 _ rfl))
      | (go_at_call 14; refine (HNew_c _).mono ?_; rintro e w9 ⟨⟨dN, rfl, oN, _, pN⟩, hb9⟩; (have b9 : Below w5.heap.size w5 w9 := by clear bw; (repeat (first | exact Below.refl _ _ | assumption | refine Below.drew ?_ | refine below_drewN ?_ _ | refine belowA ?_ _ | refine belowT ?_ (by assumption) | refine Below.setCell ?_ (by first | (simp; done) | (simp; omega)) _))); (clear s0 s1 s2 s3 s4 s5 s6 s7 s8 s9 s10 s11 s12 s13 s14 s15 s16 s17 s18 s19 s20 s21 s22 s23 s24 s25 s26 s27 s28 s29 s30 s31 s32 s33 s34 s35); (have s0 := (lh.below b9).cell 0 _ rfl); (have s1 := (lh.below b9).cell 1 _ rfl); (have s2 := (lh.below b9).cell 2 _ rfl); (have s3 := (lh.below b9).cell 3 _ rfl); (have s4 := (lh.below b9).cell 4 _ rfl); (have s5 := (lg.below b9).cell 0 _ rfl); (have s6 := (lg.below b9).cell 1 _ rfl); (have s7 := (lg.below b9).cell 2 _ rfl); (have s8 := (lg.below b9).cell 3 _ rfl); (have s9 := (lg.below b9).cell 4 _ rfl); (have s10 := (lx.below b9).cell 0 _ rfl); (have s11 := (lx.below b9).cell 1 _ rfl); (have s12 := (lx.below b9).cell 2 _ rfl); (have s13 := (lx.below b9).cell 3 _ rfl); (have s14 := (lx.below b9).cell 4 _ rfl); (have s15 := (ls.below b9).cell 0 _ rfl); (have s16 := (ls.below b9).cell 1 _ rfl); (have s17 := (ls.below b9).cell 2 _ rfl); (have s18 := (ls.below b9).cell 3 _ rfl); (have s19 := (ls.below b9).cell 4 _ rfl); (have s20 := (ly.below b9).cell 0 _ rfl); (have s21 := (ly.below b9).cell 1 _ rfl); (have s22 := (ly.below b9).cell 2 _ rfl); (have s23 := (lw.below b9).cell 0 _ rfl); (have s24 := (lw.below b9).cell 1 _ rfl); (have s25 := (lw.below b9).cell 2 _ rfl); (have s26 := (lp.below b9).cell 0 _ rfl); (have s27 := (lp.below b9).cell 1 _ rfl); (have s28 := (lp.below b9).cell 2 _ rfl); (have s29 := (lp.below b9).cell 3 _ rfl); (have s30 := (lp.below b9).cell 4 _ rfl); (have s31 := (lm.below b9).cell 0 _ rfl); (have s32 := (lm.below b9).cell 1 _ rfl); (have s33 := (lm.below b9).cell 2 _ rfl); (have s34 := (lm.below b9).cell 3 _ rfl); (have s35 := (lm.below b9).cell 4 _ rfl); (have PN := hide pN); (clear pN); (try (have oF := HV.ok.below oF hb9 (Nat.le_refl _))))
      | (go_at_call 15; refine (FreshHall_c _).mono ?_; rintro e w9 ⟨⟨dF, rfl, oF, _, pF⟩, hb9⟩; (have b9 : Below w5.heap.size w5 w9 := by clear bw; (repeat (first | exact Below.refl _ _ | assumption | refine Below.drew ?_ | refine below_drewN ?_ _ | refine belowA ?_ _ | refine belowT ?_ (by assumption) | refine Below.setCell ?_ (by first | (simp; done) | (simp; omega)) _))); (clear s0 s1 s2 s3 s4 s5 s6 s7 s8 s9 s10 s11 s12 s13 s14 s15 s16 s17 s18 s19 s20 s21 s22 s23 s24 s25 s26 s27 s28 s29 s30 s31 s32 s33 s34 s35); (have s0 := (lh.below b9).cell 0 _ rfl); (have s1 := (lh.below b9).cell 1 _ rfl); (have s2 := (lh.below b9).cell 2 _ rfl); (have s3 := (lh.below b9).cell 3 _ rfl); (have s4 := (lh.below b9).cell 4 _ rfl); (have s5 := (lg.below b9).cell 0 _ rfl); (have s6 := (lg.below b9).cell 1 _ rfl); (have s7 := (lg.below b9).cell 2 _ rfl); (have s8 := (lg.below b9).cell 3 _ rfl); (have s9 := (lg.below b9).cell 4 _ rfl); (have s10 := (lx.below b9).cell 0 _ rfl); (have s11 := (lx.below b9).cell 1 _ rfl); (have s12 := (lx.below b9).cell 2 _ rfl); (have s13 := (lx.below b9).cell 3 _ rfl); (have s14 := (lx.below b9).cell 4 _ rfl); (have s15 := (ls.below b9).cell 0 _ rfl); (have s16 := (ls.below b9).cell 1 _ rfl); (have s17 := (ls.below b9).cell 2 _ rfl); (have s18 := (ls.below b9).cell 3 _ rfl); (have s19 := (ls.below b9).cell 4 _ rfl); (have s20 := (ly.below b9).cell 0 _ rfl); (have s21 := (ly.below b9).cell 1 _ rfl); (have s22 := (ly.below b9).cell 2 _ rfl); (have s23 := (lw.below b9).cell 0 _ rfl); (have s24 := (lw.below b9).cell 1 _ rfl); (have s25 := (lw.below b9).cell 2 _ rfl); (have s26 := (lp.below b9).cell 0 _ rfl); (have s27 := (lp.below b9).cell 1 _ rfl); (have s28 := (lp.below b9).cell 2 _ rfl); (have s29 := (lp.below b9).cell 3 _ rfl); (have s30 := (lp.below b9).cell 4 _ rfl); (have s31 := (lm.below b9).cell 0 _ rfl); (have s32 := (lm.below b9).cell 1 _ rfl); (have s33 := (lm.below b9).cell 2 _ rfl); (have s34 := (lm.below b9).cell 3 _ rfl); (have s35 := (lm.below b9).cell 4 _ rfl); (have PF := hide pF); (clear pF); (try (have oN := HV.ok.below oN hb9 (Nat.le_refl _))))
      | (go_at_call 13; refine (SH_true dN dF (PN.out.trans PF.out.symm) _ (by first | exact oN | (refine HV.ok.below oN ?_ (Nat.le_refl _); (repeat (first | exact Below.refl _ _ | assumption | refine Below.drew ?_ | refine below_drewN ?_ _ | refine belowA ?_ _ | refine belowT ?_ (by assumption) | refine Below.setCell ?_ (by first | (simp; done) | (simp; omega)) _)))) (by first | exact oF | (refine HV.ok.below oF ?_ (Nat.le_refl _); (repeat (first | exact Below.refl _ _ | assumption | refine Below.drew ?_ | refine below_drewN ?_ _ | refine belowA ?_ _ | refine belowT ?_ (by assumption) | refine Below.setCell ?_ (by first | (simp; done) | (simp; omega)) _))))).mono ?_; rintro e w9 ⟨rfl, hb9⟩; (have b9 : Below w5.heap.size w5 w9 := by clear bw; (repeat (first | exact Below.refl _ _ | assumption | refine Below.drew ?_ | refine below_drewN ?_ _ | refine belowA ?_ _ | refine belowT ?_ (by assumption) | refine Below.setCell ?_ (by first | (simp; done) | (simp; omega)) _))); (clear s0 s1 s2 s3 s4 s5 s6 s7 s8 s9 s10 s11 s12 s13 s14 s15 s16 s17 s18 s19 s20 s21 s22 s23 s24 s25 s26 s27 s28 s29 s30 s31 s32 s33 s34 s35); (have s0 := (lh.below b9).cell 0 _ rfl); (have s1 := (lh.below b9).cell 1 _ rfl); (have s2 := (lh.below b9).cell 2 _ rfl); (have s3 := (lh.below b9).cell 3 _ rfl); (have s4 := (lh.below b9).cell 4 _ rfl); (have s5 := (lg.below b9).cell 0 _ rfl); (have s6 := (lg.below b9).cell 1 _ rfl); (have s7 := (lg.below b9).cell 2 _ rfl); (have s8 := (lg.below b9).cell 3 _ rfl); (have s9 := (lg.below b9).cell 4 _ rfl); (have s10 := (lx.below b9).cell 0 _ rfl); (have s11 := (lx.below b9).cell 1 _ rfl); (have s12 := (lx.below b9).cell 2 _ rfl); (have s13 := (lx.below b9).cell 3 _ rfl); (have s14 := (lx.below b9).cell 4 _ rfl); (have s15 := (ls.below b9).cell 0 _ rfl); (have s16 := (ls.below b9).cell 1 _ rfl); (have s17 := (ls.below b9).cell 2 _ rfl); (have s18 := (ls.below b9).cell 3 _ rfl); (have s19 := (ls.below b9).cell 4 _ rfl); (have s20 := (ly.below b9).cell 0 _ rfl); (have s21 := (ly.below b9).cell 1 _ rfl); (have s22 := (ly.below b9).cell 2 _ rfl); (have s23 := (lw.below b9).cell 0 _ rfl); (have s24 := (lw.below b9).cell 1 _ rfl); (have s25 := (lw.below b9).cell 2 _ rfl); (have s26 := (lp.below b9).cell 0 _ rfl); (have s27 := (lp.below b9).cell 1 _ rfl); (have s28 := (lp.below b9).cell 2 _ rfl); (have s29 := (lp.below b9).cell 3 _ rfl); (have s30 := (lp.below b9).cell 4 _ rfl); (have s31 := (lm.below b9).cell 0 _ rfl); (have s32 := (lm.below b9).cell 1 _ rfl); (have s33 := (lm.below b9).cell 2 _ rfl); (have s34 := (lm.below b9).cell 3 _ rfl); (have s35 := (lm.below b9).cell 4 _ rfl)))
  all_goals
    go_wp2
    go_ret
    exact ⟨rfl, belowT bw b9⟩

end Go.Proofs.YtenmamcaldabdaaGreatDoor
