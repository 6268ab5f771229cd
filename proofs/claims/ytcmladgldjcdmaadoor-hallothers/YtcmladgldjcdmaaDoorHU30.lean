/- HallOthers' walk: a command of one hand leaves what others were answered last; no condition but that the arguments read as data and the package's table is as its text lays it. -/
import Derived.Test.YtcmladgldjcdmaaDoorHU29
namespace Go.Proofs.YtcmladgldjcdmaaDoor
open Go.RowKit
set_option linter.unusedVariables false
set_option maxRecDepth 100000
set_option linter.unusedSimpArgs false

/-- What stands in the two halls for a hand. -/
theorem others_at {h : PH} {r : PR} {j : Nat} (k : (nextH h r).2.2 = 0) (hj : j < 3) {y z : PL} (hy : h.l[j]? = some y) (hz : (nextH h r).1.l[j]? = some z) : (r.w ≠ (j : Int) → z = y) ∧ (r.w = (j : Int) → z = ⟨r.s, (nextH h r).2.1⟩) := by
  have e := next_last k hj
  have e1 : lastH h (j : Int) = y := by simp [lastH, List.getD, hy]
  have e2 : lastH (nextH h r).1 (j : Int) = z := by simp [lastH, List.getD, hz]
  rw [e1, e2] at e
  exact ⟨fun n => by rw [e, if_neg n], fun n => by rw [e, if_pos n]⟩

set_option maxRecDepth 100000 in
set_option maxHeartbeats 4000000 in
theorem HallOthers_c (h : HV) (r : RV) (w : World) (hS : Shapes w) (hk : h.ok w) (hr : r.ok w) :
    Calls Tryd.prog 4 #[h.v, r.v] w fun e w' => e = .returned (.bool true) ∧ Below w.heap.size w w' := by
  have HN := hide (fun w' (hS' : Shapes w') (h' : h.ok w') (k' : r.ok w') => Next_c h r w' hS' h' k')
  have HST : Hid ((nextH h.p r.p).2.2 = 0 → h.p.l.length = 3 ∧ (nextH h.p r.p).1.l.length = 3) := hide (fun e => ⟨(checkH_ok (nextH_ok e).1).2.1, (checkH_ok (next_right e)).2.1⟩)
  have HOA := hide (fun e (j : Nat) hj y z hy hz => others_at (h := h.p) (r := r.p) (j := j) e hj (y := y) (z := z) hy hz)
  generalize nextH h.p r.p = nh at *
  obtain ⟨x0, x1, bw⟩ := two_boxes w h.cells r.cells 30 34
  have hok := hk.below bw (Nat.le_refl _)
  have hrk := RV.ok.below hr bw (Nat.le_refl _)
  have hSw := hS.below bw
  have hlp : h.p.l = h.L.map LV.p := rfl
  rw [show h.v = .agg h.cells.toArray from rfl, show r.v = .agg r.cells.toArray from rfl] at *
  rw [hlp] at HST HOA
  clear hk hr hlp
  obtain ⟨⟨za, zn, zc, Z, ka, kn, kc, bk, bh, bt⟩, a, n, c, L⟩ := h
  obtain ⟨⟨rq, rs, ⟨k1, z1, u1, t1, d1⟩⟩, ra, rn, rc⟩ := r
  dsimp only [HV.cells, RV.cells] at *
  go_enter Tryd.func4, Tryd.ntmps4
  go_wp2_with fail
  refine (HN.out _ hSw hok hrk).mono ?_
  rintro e w2 ⟨⟨⟨⟨ya, yn, yc, Y, yk, ym, yl, yj, yh, yt⟩, yb, yo, yp, M⟩, ⟨ae, at', aa, an, ac, ad⟩, rfl, ok2, oka, _, _, p2, pa2⟩, hb2⟩
  replace x0 := x0.below hb2
  replace x1 := x1.below hb2
  replace hok := hok.below hb2 (Nat.le_refl _)
  replace hSw := hSw.below hb2
  replace bw := belowT bw hb2
  have HP := hide (And.intro p2 pa2)
  clear hb2 HN p2 pa2 hrk
  dsimp only [HV.v, AV.v]
  go_upto_region 2 with fail
  obtain ⟨xH, xA, bn⟩ := two_boxes w2 [.slice ya yn yc, .slice yk ym yl, .int .i64 yh, .int .i64 yt, .slice yb yo yp] [.int .i64 ae, .int .i64 at', .slice aa an ac] 30 38
  replace x0 := x0.below bn
  replace x1 := x1.below bn
  replace hok := hok.below bn (Nat.le_refl _)
  replace hSw := hSw.below bn
  replace ok2 := ok2.below bn (Nat.le_refl _)
  replace oka := AV.ok.below oka bn (Nat.le_refl _)
  replace bw := belowT bw bn
  clear bn
  generalize w2.heap.size = H at *
  generalize (w2.alloc (.cells [.slice ya yn yc, .slice yk ym yl, .int .i64 yh, .int .i64 yt, .slice yb yo yp].toArray 30)).alloc (.cells [.int .i64 ae, .int .i64 at', .slice aa an ac].toArray 38) = w3 at *
  go_wp2_with fail
  refine (once_c _ hSw).mono ?_
  rintro e w4 ⟨rfl, hb4⟩
  replace x0 := x0.below hb4
  replace x1 := x1.below hb4
  replace xH := xH.below hb4
  replace xA := xA.below hb4
  replace hok := hok.below hb4 (Nat.le_refl _)
  replace hSw := hSw.below hb4
  replace ok2 := ok2.below hb4 (Nat.le_refl _)
  replace oka := AV.ok.below oka hb4 (Nat.le_refl _)
  replace bw := belowT bw hb4
  clear hb4
  cases hb : nh.2.2 != 0
  · have h0 : nh.2.2 = 0 := by simpa using hb
    obtain ⟨l1, l2⟩ := HST.out h0
    have hpl : nh.1.l = M.map LV.p := by rw [← HP.out.1]; rfl
    have hpa : nh.2.1 = ⟨ae, at', ad⟩ := by rw [← HP.out.2]; rfl
    rw [hpl] at l2
    rw [List.length_map] at l1 l2
    have e1 := hok.l.len
    have e2 := ok2.l.len
    dsimp only at e1 e2
    obtain rfl : n = 3 := by omega
    obtain rfl : yo = 3 := by omega
    obtain ⟨b1, o1, rfl, _, hr1⟩ := hok.l.row.resolve_left (by dsimp only; omega)
    obtain ⟨b2, o2, rfl, _, hr2⟩ := ok2.l.row.resolve_left (by dsimp only; omega)
    have HO : Hid (∀ (j : Nat) (y z : LV), j < 3 → L[j]? = some y → M[j]? = some z → (rq ≠ (j : Int) → z.p = y.p) ∧ (rq = (j : Int) → z.p = ⟨rs, ⟨ae, at', ad⟩⟩)) := hide (fun j y z hj hy hz => by
      have := HOA.out h0 j hj y.p z.p (by rw [List.getElem?_map, hy]; rfl) (by rw [hpl, List.getElem?_map, hz]; rfl)
      rw [hpa] at this
      exact this)
    have HL1 := hide l1
    have HL2 := hide l2
    clear HST HOA HP h0 hpl hpa l1 l2 e1 e2
    go_wp2_with fail
    go_loopw [25] (fun i wr => ∃ j : Nat, j ≤ 3 ∧ i = .int .i64 (j : Nat) ∧ Below w4.heap.size w4 wr) (fun i _ => 3 - (intOf i).toNat)
    case atStart => exact ⟨0, by omega, rfl, Below.refl _ _⟩
    case round =>
      obtain ⟨j, hj, rfl, hbr⟩ := hrel
      rename_i wr
      by_cases hlt : j < 3
      · obtain ⟨y, hy⟩ : ∃ z, L[j]? = some z := ⟨L[j]'(by rw [HL1.out]; exact hlt), by simp⟩
        obtain ⟨z, hz⟩ : ∃ z, M[j]? = some z := ⟨M[j]'(by rw [HL2.out]; exact hlt), by simp⟩
        have kz := hr2 j z hz
        have ky := hr1 j y hy
        have iy := LV.ok.below (hok.l.ok y (List.mem_of_getElem? hy)) hbr (Nat.le_refl _)
        have iz := LV.ok.below (ok2.l.ok z (List.mem_of_getElem? hz)) hbr (Nat.le_refl _)
        have ia := AV.ok.below oka hbr (Nat.le_refl _)
        have HJ := hide (HO.out j y z hlt hy hz)
        have hlt' : (j : Int) < 3 := by omega
        have hj0 : ¬ ((j : Int) < 0) := by omega
        have HS1 := hide (fun w' h1 h2 => lsameA_c z.x y.x w' h1 h2)
        have HS2 := hide (fun w' h1 h2 => lsameA_c z.x ⟨ae, at', aa, an, ac, ad⟩ w' h1 h2)
        obtain ⟨ys, ⟨ye, yt', ya', yn', yc', yd⟩⟩ := y
        obtain ⟨zs, ⟨ze, zt, za', zn', zc', zd⟩⟩ := z
        have x0r := x0.below hbr
        have x1r := x1.below hbr
        have xHr := xH.below hbr
        have xAr := xA.below hbr
        have c0 := keepc hbr (ky 0 _ rfl)
        have c1 := keepc hbr (ky 1 _ rfl)
        have c2 := keepc hbr (ky 2 _ rfl)
        have c3 := keepc hbr (ky 3 _ rfl)
        have d0 := keepc hbr (kz 0 _ rfl)
        have d1' := keepc hbr (kz 1 _ rfl)
        have d2 := keepc hbr (kz 2 _ rfl)
        have d3 := keepc hbr (kz 3 _ rfl)
        rw [Nat.add_zero] at c0 d0
        have g4 := x0r.cell 4 _ rfl
        have f4 := xHr.cell 4 _ rfl
        dsimp only [LV.p, AV.p, AV.v] at *
        clear ky kz hy hz
        go_upto_region 7 with fail
        go_cut [9, 10] (fun v9 v10 wx => ∃ B C, v9 = .pointer (some ⟨B, 0, none⟩) ∧ v10 = .pointer (some ⟨C, 0, none⟩) ∧ Lay wx B [.int .i64 ys, .int .i64 ye, .int .i64 yt', .slice ya' yn' yc'] ∧ Lay wx C [.int .i64 zs, .int .i64 ze, .int .i64 zt, .slice za' zn' zc'] ∧ Below wr.heap.size wr wx)
        case first =>
          go_region_held3 (fun w' => w'.cell? ⟨w.heap.size, 4, none⟩ = some (.slice (some ⟨b1, o1, none⟩) 3 c) ∧ w'.cell? ⟨H, 4, none⟩ = some (.slice (some ⟨b2, o2, none⟩) 3 yp) ∧ w'.cell? ⟨b1, o1 + j * 4, none⟩ = some (.int .i64 ys) ∧ w'.cell? ⟨b1, o1 + j * 4 + 1, none⟩ = some (.int .i64 ye) ∧ w'.cell? ⟨b1, o1 + j * 4 + 2, none⟩ = some (.int .i64 yt') ∧ w'.cell? ⟨b1, o1 + j * 4 + 3, none⟩ = some (.slice ya' yn' yc') ∧ w'.cell? ⟨b2, o2 + j * 4, none⟩ = some (.int .i64 zs) ∧ w'.cell? ⟨b2, o2 + j * 4 + 1, none⟩ = some (.int .i64 ze) ∧ w'.cell? ⟨b2, o2 + j * 4 + 2, none⟩ = some (.int .i64 zt) ∧ w'.cell? ⟨b2, o2 + j * 4 + 3, none⟩ = some (.slice za' zn' zc')) ((first | (go_simp; done) | (simp [*, World.cell?_alloc_at, World.cell?_alloc_past, World.cell?_alloc_some, World.cell?_setCell_far]; done))) (fail)
          all_goals
            go_wp2_with fail
            go_meet
          all_goals
            case rel =>
              obtain ⟨s1, s2, s3⟩ := two_boxes wr [.int .i64 ys, .int .i64 ye, .int .i64 yt', .slice ya' yn' yc'] [.int .i64 zs, .int .i64 ze, .int .i64 zt, .slice za' zn' zc'] 47 47
              obtain ⟨s4, s5, s6⟩ := two_boxes wr [.int .i64 zs, .int .i64 ze, .int .i64 zt, .slice za' zn' zc'] [.int .i64 ys, .int .i64 ye, .int .i64 yt', .slice ya' yn' yc'] 47 47
              first
                | with_reducible exact ⟨_, _, rfl, rfl, s1.drew, s2.drew, Below.drew s3⟩
                | with_reducible exact ⟨_, _, rfl, rfl, s5.drew, s4.drew, Below.drew s6⟩
        case rest =>
          obtain ⟨B, C, rfl, rfl, xB, xC, bx⟩ := hcut
          have x1c := x1r.below bx
          have xAc := xAr.below bx
          have iyc := LV.ok.below iy bx (Nat.le_refl _)
          have izc := LV.ok.below iz bx (Nat.le_refl _)
          have iac := AV.ok.below ia bx (Nat.le_refl _)
          have bc := belowT hbr bx
          clear c0 c1 c2 c3 d0 d1' d2 d3 g4 f4 x0r x1r xHr xAr iy iz ia bx hbr
          have r0 := x1c.cell 0 _ rfl
          have r1 := x1c.cell 1 _ rfl
          have p0 := xB.cell 0 _ rfl
          have p1 := xB.cell 1 _ rfl
          have p2 := xB.cell 2 _ rfl
          have p3 := xB.cell 3 _ rfl
          have q0 := xC.cell 0 _ rfl
          have q1 := xC.cell 1 _ rfl
          have q2 := xC.cell 2 _ rfl
          have q3 := xC.cell 3 _ rfl
          have s0 := xAc.cell 0 _ rfl
          have s1 := xAc.cell 1 _ rfl
          have s2 := xAc.cell 2 _ rfl
          by_cases he : rq = (j : Int)
          · have hz := HJ.out.2 he
            have hs : sameA ⟨ze, zt, zd⟩ ⟨ae, at', ad⟩ = true := (sameA_iff _ _).2 (by simpa using congrArg PL.a hz)
            obtain rfl : zs = rs := by simpa using congrArg PL.s hz
            rw [hs] at HS2
            subst he
            clear hz hs HJ HS1
            go_wp2_with fail
            refine (HS2.out _ izc iac).mono ?_
            rintro e w9 ⟨rfl, hb9⟩
            have b9 := belowT bc hb9
            clear hb9
            go_wp2
            exact ⟨⟨j + 1, by omega, by go_num, b9⟩, by simp [intOf]; omega⟩
          · have hz := HJ.out.1 he
            have hs : sameA ⟨ze, zt, zd⟩ ⟨ye, yt', yd⟩ = true := (sameA_iff _ _).2 (by simpa using congrArg PL.a hz)
            obtain rfl : zs = ys := by simpa using congrArg PL.s hz
            rw [hs] at HS1
            have he1 : ((j : Int) != rq) = true := by simp; omega
            have he2 : ((j : Int) == rq) = false := by simp; omega
            have he3 : ¬ ((j : Int) = rq) := by omega
            clear hz hs HJ HS2
            go_wp2_with fail
            refine (HS1.out _ izc iyc).mono ?_
            rintro e w9 ⟨rfl, hb9⟩
            have b9 := belowT bc hb9
            have r2 := keepc hb9 r0
            have r3 := keepc hb9 r1
            clear hb9
            go_wp2
            exact ⟨⟨j + 1, by omega, by go_num, b9⟩, by simp [intOf]; omega⟩
      · obtain rfl : j = 3 := by omega
        go_wp2
        go_ret
        exact ⟨rfl, belowT bw hbr⟩
  · go_wp2_with fail
    refine (once_c _ hSw).mono ?_
    rintro e w5 ⟨rfl, hb5⟩
    go_wp2
    go_ret
    exact ⟨rfl, belowT bw hb5⟩

end Go.Proofs.YtcmladgldjcdmaaDoor
