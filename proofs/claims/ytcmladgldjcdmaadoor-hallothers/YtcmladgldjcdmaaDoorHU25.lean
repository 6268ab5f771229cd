/- The contract of hall.Next: it answers what the plain functions say, in new memory, and leaves what was there as it was; no condition but that the arguments read as data and the package's table is as its text lays it. -/
import Derived.Test.YtcmladgldjcdmaaDoorHU22
import Derived.Test.YtcmladgldjcdmaaDoorHU24
namespace Go.Proofs.YtcmladgldjcdmaaDoor
open Go.RowKit
set_option linter.unusedVariables false
set_option maxRecDepth 100000
set_option linter.unusedSimpArgs false

theorem nextH_bad {h : PH} {r : PR} (hb : nextE h r ≠ 0) : nextH h r = (zeroH, zeroA, nextE h r) := by
  have e := nextE_eq h r
  unfold nextH at e ⊢
  split
  · rename_i q
    rw [if_pos q] at e
    rw [← e]
  · rename_i q
    rw [if_neg q] at e
    split
    · rename_i q2
      rw [if_pos q2] at e
      rw [← e]
    · rename_i q2
      rw [if_neg q2] at e
      split
      · rename_i q3
        rw [if_pos q3] at e
        exact absurd e.symm hb
      · rename_i q3
        rw [if_neg q3] at e
        split
        · rename_i q4
          rw [if_pos q4] at e
          rw [← e]
        · rename_i q4
          rw [if_neg q4] at e
          exact absurd e.symm hb

set_option maxRecDepth 100000 in
set_option maxHeartbeats 2000000 in
theorem Next_good (h : HV) (r : RV) (w : World) (hS : Shapes w) (hk : h.ok w) (hr : r.ok w) (hgood : nextE h.p r.p = 0) : Calls Tryd.prog 5 #[h.v, r.v] w fun e w' => Nexts (nextH h.p r.p) w e w' := by
  obtain ⟨hch, hcr, hor⟩ := nextH_ok (show (nextH h.p r.p).2.2 = 0 by rw [nextE_eq]; exact hgood)
  obtain ⟨hcd, h3, hys, -⟩ := hall_right hk hch
  obtain ⟨j, hj, hj3⟩ := rec_who hcr
  obtain ⟨-, -, hcc⟩ := checkR_facts hcr
  have hright := done_right (c := r.p.c) (j := j) hcd hj3 hcc
  rw [← hj] at hright
  have hda := checkA_few hright.ans
  have H1 := hide (fun w' (hS' : Shapes w') (h' : h.ok w') (k' : r.ok w') => checkNext_c h r w' hS' h' k')
  rw [hgood] at H1
  have H5 := hide (fun w' => behind_c h 1 w')
  have H6 : Hid (∀ G M (w' : World), h.ok w' → Lay w' G h.cells → Lay w' M [.int .i64 1] → Calls Tryd.prog 26 #[r.v, .pointer (some ⟨G, 0, none⟩), .pointer (some ⟨M, 0, none⟩)] w' fun e w'' => e = .returned (.bool (r.p.s == (lastH h.p r.p.w).s + 1)) ∧ Below w'.heap.size w' w'') := hide (fun G M w' h' hG hM => by
    have := behind1_c h r 1 G M j w' h' hG hM h3 hj hj3 (by omega) (fun y hy => (hys y hy).1)
    rw [← hj] at this
    exact this)
  have H7 := hide (fun w' (h' : h.ok w') => hwhole_c h w' h' hch)
  have H8 := hide (fun N g (d : DV) (L : List LV) w' hS' hG hd hL h3' hr' hne (e : d.p = h.d.p) hGd => hwork_c N g d L r j w' hS' hG hd hL h3' hr' hj hj3 hne (by rw [e]; exact hcd) hcc hGd)
  have HY := hide hys
  have HDA := hide hda
  clear hda hright hch hcr hcd hcc hys hgood
  have hlp : h.L.map LV.p = h.p.l := rfl
  have hdp : h.d.p = h.p.d := rfl
  have hln : h.p.l.length = 3 := by rw [← hlp, List.length_map, hk.l.len, h3]
  have hlast : ∀ y, (h.p.l)[j]? = some y → lastH h.p j = y := fun y e => by simp [lastH, List.getD, e]
  rw [hlp, hdp] at H7
  rw [hdp] at H8 HDA
  have HM : Hid (∀ y ∈ h.p.l, y.a.d.length ≤ 8) := hide (fun y hy => by
    rw [← hlp] at hy
    obtain ⟨z, hz, rfl⟩ := List.mem_map.1 hy
    have := (HY.out z hz).2
    rw [← (hk.l.ok z hz).len] at this
    exact this)
  obtain ⟨x0, x1, x2, x3, bw⟩ := next_boxes w h.cells r.cells 30 34 38
  have hok := hk.below bw (Nat.le_refl _)
  have hrk := RV.ok.below hr bw (Nat.le_refl _)
  have hSw := hS.below bw
  rw [show h.v = .agg h.cells.toArray from rfl, show r.v = .agg r.cells.toArray from rfl] at *
  generalize nextH h.p r.p = nh at *
  generalize h.p = hp at *
  clear HY hlp hdp
  obtain ⟨⟨za, zn, zc, Z, ka, kn, kc, bk, bh, bt⟩, a, n, c, L⟩ := h
  obtain ⟨⟨rq, rs, ⟨k1, z1, u1, t1, d1⟩⟩, ra, rn, rc⟩ := r
  dsimp only [HV.cells, RV.cells] at *
  subst hj
  have HOR := hide hor
  have HLA := hide hlast
  clear hor hlast hln
  subst h3
  go_enter Tryd.func5, Tryd.ntmps5
  go_wp2_with fail
  refine (H1.out _ hSw hok hrk).mono ?_
  rintro e w1 ⟨rfl, hb1⟩
  replace x1 := x1.below hb1
  replace x2 := x2.below hb1
  replace x3 := x3.below hb1
  replace hok := hok.below hb1 (Nat.le_refl _)
  replace hrk := RV.ok.below hrk hb1 (Nat.le_refl _)
  replace hSw := hSw.below hb1
  replace bw := belowT bw hb1
  replace x0 := x0.below hb1
  clear hb1 H1
  have q0 := x0.cell 0 _ rfl
  have q1 := x0.cell 1 _ rfl
  have q2 := x0.cell 2 _ rfl
  have q3 := x0.cell 3 _ rfl
  have q4 := x0.cell 4 _ rfl
  go_wp2_with fail
  refine (H5.out _).mono ?_
  rintro e w2 ⟨rfl, lG, lM, hb2⟩
  have hs2 := x3.lt
  replace x1 := x1.below hb2
  replace x2 := x2.below hb2
  replace x3 := x3.below hb2
  replace hok := hok.below hb2 (Nat.le_refl _)
  replace hrk := RV.ok.below hrk hb2 (Nat.le_refl _)
  replace hSw := hSw.below hb2
  replace bw := belowT bw hb2
  replace x0 := x0.below hb2
  clear hb2 H5 q0 q1 q2 q3 q4
  generalize w1.heap.size = G1 at *
  have q0 := x0.cell 0 _ rfl
  have q1 := x0.cell 1 _ rfl
  have q2 := x0.cell 2 _ rfl
  have q3 := x0.cell 3 _ rfl
  have q4 := x0.cell 4 _ rfl
  go_wp2_with fail
  refine (H7.out _ hok).mono ?_
  rintro e w3 ⟨⟨⟨za', zn', zc', Z', ka', kn', kc', bk', bh', bt'⟩, g, L', rfl, od, hM, hL3, nd, dg, hgg, pd, pL⟩, hb3⟩
  have hs3 := x3.lt
  have nd4 := nd.mono (show w.heap.size + 1 + 1 + 1 + 1 ≤ _ by omega)
  replace x1 := x1.below hb3
  replace x2 := x2.below hb3
  replace x3 := x3.below hb3
  replace hok := hok.below hb3 (Nat.le_refl _)
  replace hrk := RV.ok.below hrk hb3 (Nat.le_refl _)
  replace hSw := hSw.below hb3
  replace bw := belowT bw hb3
  replace lG := lG.below hb3
  replace lM := lM.below hb3
  clear hb3 H7 q0 q1 q2 q3 q4 x0
  dsimp only [HV.v] at *
  go_upto_region 6 with fail
  have xN := Lay.made w3 [.slice za' zn' zc', .slice ka' kn' kc', .int .i64 bh', .int .i64 bt', .slice (some ⟨g, 0, none⟩) 3 3] 30
  have hgl := hM.lay.lt
  have bn := belowA (Below.refl _ w3) (.cells [.slice za' zn' zc', .slice ka' kn' kc', .int .i64 bh', .int .i64 bt', .slice (some ⟨g, 0, none⟩) 3 3].toArray 30)
  have hs4 := x3.lt
  have ydN := fun y hy => LV.ok.off (hM.ok y hy) (Nat.le_refl w3.heap.size)
  replace x1 := x1.below bn
  replace x2 := x2.below bn
  replace x3 := x3.below bn
  replace hok := hok.below bn (Nat.le_refl _)
  replace hrk := RV.ok.below hrk bn (Nat.le_refl _)
  replace hSw := hSw.below bn
  replace bw := belowT bw bn
  replace lG := lG.below bn
  replace lM := lM.below bn
  replace od := od.below bn (Nat.le_refl _)
  replace hM := hM.below bn
  generalize w3.heap.size = N at *
  generalize w3.alloc (.cells [.slice za' zn' zc', .slice ka' kn' kc', .int .i64 bh', .int .i64 bt', .slice (some ⟨g, 0, none⟩) 3 3].toArray 30) = w4 at *
  clear bn
  have r0 := x1.cell 0 _ rfl
  have r1 := x1.cell 1 _ rfl
  have r2 := x1.cell 2 _ rfl
  have r3 := x1.cell 3 _ rfl
  have r4 := x1.cell 4 _ rfl
  have r5 := x1.cell 5 _ rfl
  have r6 := x1.cell 6 _ rfl
  go_wp2_with fail
  refine (H6.out _ _ _ hok lG lM).mono ?_
  rintro e w5 ⟨rfl, hb5⟩
  replace x1 := x1.below hb5
  replace x2 := x2.below hb5
  replace x3 := x3.below hb5
  replace hok := hok.below hb5 (Nat.le_refl _)
  replace hrk := RV.ok.below hrk hb5 (Nat.le_refl _)
  replace hSw := hSw.below hb5
  replace bw := belowT bw hb5
  replace od := od.below hb5 (Nat.le_refl _)
  replace hM := hM.below hb5
  replace xN := xN.below hb5
  clear hb5 H6 r0 r1 r2 r3 r4 r5 r6 hok lG lM
  have hNg : w.heap.size + 1 + 1 + 1 < N ∧ w.heap.size + 1 + 1 + 1 < g ∧ g < N := ⟨hs4, by omega, hgl⟩
  clear hs2 hs3 hs4 hgg hgl
  rcases HOR.out with ⟨e1, e2⟩ | ⟨e1, e2⟩
  · have hb : (rs == (lastH hp (j : Int)).s + 1) = false := by simp; omega
    have HP1 : Hid ((⟨⟨Z'.map ZV.p, ⟨bk', bh', bt'⟩⟩, L'.map LV.p⟩ : PH) = nh.1) := hide (by
      rw [e2, pL]
      dsimp only [DV.p] at pd
      rw [pd])
    have HP2 : Hid (∀ y, L'[j]? = some y → y.x.p = nh.2.1) := hide (fun y hy => by
      rw [e2]
      have := HLA.out y.p (by rw [← pL, List.getElem?_map, hy]; rfl)
      dsimp only
      rw [this]
      rfl)
    have HP3 : Hid (nh.2.2 = 0) := hide (by rw [e2])
    have hyb : ∀ y ∈ L', y.x.n ≤ 8 := fun y hy => by
      have h8 := HM.out y.p (by rw [← pL]; exact List.mem_map.2 ⟨y, hy, rfl⟩)
      have := (hM.ok y hy).len
      rw [← this]
      exact h8
    rw [hb]
    clear e1 e2 hb H8 HM HDA pd pL nd ydN HLA HOR
    have xr := x1
    go_wp2
    obtain ⟨y, hy⟩ : ∃ z, (L')[j]? = some z := ⟨_, List.getElem?_eq_getElem (by rw [hL3]; exact hj3)⟩
    have hyk := hM.ok y (List.mem_of_getElem? hy)
    have hyf := hM.new y (List.mem_of_getElem? hy)
    have HYL := hide hy
    have hyn : y.x.n ≤ 100000 := by have := hyb y (List.mem_of_getElem? hy); omega
    have cg1 := hM.lay.cell _ _ (lcells_get (L') j y hy 1 _ rfl)
    have cg2 := hM.lay.cell _ _ (lcells_get (L') j y hy 2 _ rfl)
    have cg3 := hM.lay.cell _ _ (lcells_get (L') j y hy 3 _ rfl)
    have hW := fun (w' : World) (h' : y.x.ok w') => hwholeA_c y.x w' h' hyn
    obtain ⟨ys, ⟨ye, yt, ya, yn, yc, yl⟩⟩ := y
    have iy : Ints w5 ya yn yc yl := hyk
    dsimp only [AV.v] at hW cg1 cg2 cg3 hyn
    have HW := hide hW
    clear hW hy hyk
    have cn0 := xN.cell 0 _ rfl
    have cn1 := xN.cell 1 _ rfl
    have cn2 := xN.cell 2 _ rfl
    have cn3 := xN.cell 3 _ rfl
    have cn4 := xN.cell 4 _ rfl
    have cr0 := xr.cell 0 _ rfl
    have hj' : (j : Int) < 3 := by omega
    have hjz : ¬ ((j : Int) < 0) := by omega
    have hgl := hM.lay.lt
    have hNl := xN.lt
    have h2l := x2.lt
    have h3l := x3.lt
    go_upto_region 8 with fail
    go_region_held3 (fun w' => w'.cell? ⟨N, 0, none⟩ = some (.slice za' zn' zc') ∧ w'.cell? ⟨N, 1, none⟩ = some (.slice ka' kn' kc') ∧ w'.cell? ⟨N, 2, none⟩ = some (.int .i64 bh') ∧ w'.cell? ⟨N, 3, none⟩ = some (.int .i64 bt') ∧ w'.cell? ⟨N, 4, none⟩ = some (.slice (some ⟨g, 0, none⟩) 3 3) ∧ w'.cell? ⟨w.heap.size + 1, 0, none⟩ = some (.int .i64 j) ∧ w'.cell? ⟨g, j * 4 + 1, none⟩ = some (.int .i64 ye) ∧ w'.cell? ⟨g, j * 4 + 2, none⟩ = some (.int .i64 yt) ∧ w'.cell? ⟨g, j * 4 + 3, none⟩ = some (.slice ya yn yc)) ((first | (go_simp; done) | (simp [*, World.cell?_alloc_at, World.cell?_alloc_past, World.cell?_alloc_some, World.cell?_setCell_far]; done))) (first | (go_at_call 14; refine (HW.out _ (by refine Ints.below iy (B := w5.heap.size) ?_ (Nat.le_refl _); (repeat first | exact bel0 | assumption | refine bel1 ?_ | refine bel2 ?_ | refine bel3 ?_ | refine belowT ?_ (by assumption) | refine bel5 ?_ (by simp; try omega)))).mono ?_; rintro e w8 ⟨⟨q, rfl, i8, hq8⟩, hb8⟩; (have g0 := keepc hb8 (p := ⟨N, 0, none⟩) (u := .slice za' zn' zc') (by (first | (go_simp; done) | (simp [*, World.cell?_alloc_at, World.cell?_alloc_past, World.cell?_alloc_some, World.cell?_setCell_far]; done)))); (have g1 := keepc hb8 (p := ⟨N, 1, none⟩) (u := .slice ka' kn' kc') (by (first | (go_simp; done) | (simp [*, World.cell?_alloc_at, World.cell?_alloc_past, World.cell?_alloc_some, World.cell?_setCell_far]; done)))); (have g2 := keepc hb8 (p := ⟨N, 2, none⟩) (u := .int .i64 bh') (by (first | (go_simp; done) | (simp [*, World.cell?_alloc_at, World.cell?_alloc_past, World.cell?_alloc_some, World.cell?_setCell_far]; done)))); (have g3 := keepc hb8 (p := ⟨N, 3, none⟩) (u := .int .i64 bt') (by (first | (go_simp; done) | (simp [*, World.cell?_alloc_at, World.cell?_alloc_past, World.cell?_alloc_some, World.cell?_setCell_far]; done)))); (have g4 := keepc hb8 (p := ⟨N, 4, none⟩) (u := .slice (some ⟨g, 0, none⟩) 3 3) (by (first | (go_simp; done) | (simp [*, World.cell?_alloc_at, World.cell?_alloc_past, World.cell?_alloc_some, World.cell?_setCell_far]; done)))); (have g5 := keepc hb8 (p := ⟨w.heap.size + 1, 0, none⟩) (u := .int .i64 j) (by (first | (go_simp; done) | (simp [*, World.cell?_alloc_at, World.cell?_alloc_past, World.cell?_alloc_some, World.cell?_setCell_far]; done)))); (have g6 := keepc hb8 (p := ⟨g, j * 4 + 1, none⟩) (u := .int .i64 ye) (by (first | (go_simp; done) | (simp [*, World.cell?_alloc_at, World.cell?_alloc_past, World.cell?_alloc_some, World.cell?_setCell_far]; done)))); (have g7 := keepc hb8 (p := ⟨g, j * 4 + 2, none⟩) (u := .int .i64 yt) (by (first | (go_simp; done) | (simp [*, World.cell?_alloc_at, World.cell?_alloc_past, World.cell?_alloc_some, World.cell?_setCell_far]; done)))); (have g8 := keepc hb8 (p := ⟨g, j * 4 + 3, none⟩) (u := .slice ya yn yc) (by (first | (go_simp; done) | (simp [*, World.cell?_alloc_at, World.cell?_alloc_past, World.cell?_alloc_some, World.cell?_setCell_far]; done)))); (have y2 := x2.below (w' := w8) (by (repeat first | exact bel0 | assumption | refine bel1 ?_ | refine bel2 ?_ | refine bel3 ?_ | refine belowT ?_ (by assumption) | refine bel5 ?_ (by simp; try omega)))); (have y3 := x3.below (w' := w8) (by (repeat first | exact bel0 | assumption | refine bel1 ?_ | refine bel2 ?_ | refine bel3 ?_ | refine belowT ?_ (by assumption) | refine bel5 ?_ (by simp; try omega)))); (have p0 := y2.cell 0 _ rfl); (have p1 := y2.cell 1 _ rfl); (have p2 := y2.cell 2 _ rfl); (have p3 := y2.cell 3 _ rfl); (have p4 := y2.cell 4 _ rfl); (have s0 := y2.ice 0); (have s1 := y2.ice 1); (have s2 := y2.ice 2); (have s3 := y2.ice 3); (have s4 := y2.ice 4); (have o0 := y3.cell 0 _ rfl); (have o1 := y3.cell 1 _ rfl); (have o2 := y3.cell 2 _ rfl); (have u0 := y3.ice 0); (have u1 := y3.ice 1); (have u2 := y3.ice 2)))
    have b8 : Below w5.heap.size w5 w8 := by (repeat first | exact bel0 | assumption | refine bel1 ?_ | refine bel2 ?_ | refine bel3 ?_ | refine belowT ?_ (by assumption) | refine bel5 ?_ (by simp; try omega))
    have hq9 : w5.heap.size ≤ q := by simpa using hq8
    have o8 := od.below b8 (Nat.le_refl _)
    have m8 := hM.below b8
    have c8 := belowT bw b8
    clear g0 g1 g2 g3 g4 g5 g6 g7 g8 hb8 hq8 cn0 cn1 cn2 cn3 cn4 cr0 cg1 cg2 cg3 p0 p1 p2 p3 p4 s0 s1 s2 s3 s4 o0 o1 o2 u0 u1 u2
    go_wp2
    have zB := ((((y2.set 0 (.slice za' zn' zc')).set 1 (.slice ka' kn' kc')).set 2 (.int .i64 bh')).set 3 (.int .i64 bt')).set 4 (.slice (some ⟨g, 0, none⟩) 3 3)
    have hbut := (((((ButI.refl (w.heap.size + 1 + 1) w8).step 0 (.slice za' zn' zc')).step 1 (.slice ka' kn' kc')).step 2 (.int .i64 bh')).step 3 (.int .i64 bt')).step 4 (.slice (some ⟨g, 0, none⟩) 3 3)
    generalize ((((w8.setCell ⟨w.heap.size + 1 + 1, 0, none⟩ (.slice za' zn' zc')).setCell ⟨w.heap.size + 1 + 1, 1, none⟩ (.slice ka' kn' kc')).setCell ⟨w.heap.size + 1 + 1, 2, none⟩ (.int .i64 bh')).setCell ⟨w.heap.size + 1 + 1, 3, none⟩ (.int .i64 bt')).setCell ⟨w.heap.size + 1 + 1, 4, none⟩ (.slice (some ⟨g, 0, none⟩) 3 3) = w9 at *
    have z0 := zB.cell 0 _ rfl
    have z1 := zB.cell 1 _ rfl
    have z2 := zB.cell 2 _ rfl
    have z3 := zB.cell 3 _ rfl
    have z4 := zB.cell 4 _ rfl
    replace y3 := y3.butI hbut (by omega)
    replace o8 := o8.but hbut.but (nd4 _ (by omega))
    replace m8 := m8.far hbut (by omega)
    replace i8 := i8.but hbut.but (.inr fun x e => by cases e; simp; omega)
    replace c8 := c8.trans (hbut.below (B := w.heap.size) (by omega))
    clear z0 z1 z2 z3 z4 hbut y2
    have zA := ((y3.set 0 (.int .i64 ye)).set 1 (.int .i64 yt)).set 2 (.slice (some ⟨q, 0, none⟩) yn yn)
    have hbu := (((ButI.refl (w.heap.size + 1 + 1 + 1) w9).step 0 (.int .i64 ye)).step 1 (.int .i64 yt)).step 2 (.slice (some ⟨q, 0, none⟩) yn yn)
    replace zB := zB.butI hbu (by omega)
    replace o8 := o8.but hbu.but (nd4 _ (by omega))
    replace m8 := m8.far hbu (by omega)
    replace i8 := i8.but hbu.but (.inr fun x e => by cases e; simp; omega)
    replace c8 := c8.trans (hbu.below (B := w.heap.size) (by omega))
    clear y3 hbu
    generalize ((w9.setCell ⟨w.heap.size + 1 + 1 + 1, 0, none⟩ (.int .i64 ye)).setCell ⟨w.heap.size + 1 + 1 + 1, 1, none⟩ (.int .i64 yt)).setCell ⟨w.heap.size + 1 + 1 + 1, 2, none⟩ (.slice (some ⟨q, 0, none⟩) yn yn) = w10 at *
    have z0 := zB.cell 0 _ rfl
    have z1 := zB.cell 1 _ rfl
    have z2 := zB.cell 2 _ rfl
    have z3 := zB.cell 3 _ rfl
    have z4 := zB.cell 4 _ rfl
    have v0 := zA.cell 0 _ rfl
    have v1 := zA.cell 1 _ rfl
    have v2 := zA.cell 2 _ rfl
    exact bodyPost_ret (v := .tuple #[.agg #[.slice za' zn' zc', .slice ka' kn' kc', .int .i64 bh', .int .i64 bt', .slice (some ⟨g, 0, none⟩) 3 3], .agg #[.int .i64 ye, .int .i64 yt, .slice (some ⟨q, 0, none⟩) yn yn], .int .i64 0]) (by simp [results, Tryd.results5, go_sem, z0, z1, z2, z3, z4, v0, v1, v2]) rfl
      ⟨⟨⟨⟨za', zn', zc', Z', ka', kn', kc', ⟨bk', bh', bt'⟩⟩, some ⟨g, 0, none⟩, 3, 3, L'⟩, ⟨ye, yt, some ⟨q, 0, none⟩, yn, yn, yl⟩, by rw [HP3.out]; rfl, ⟨o8, m8.lasts (n := 3) hL3 (by omega)⟩, i8, fun R hR => ⟨nd4 R (by omega), .inr fun x e => by cases e; simp; omega, fun y hy => (m8.new y hy).off (by omega)⟩, fun R hR => .inr fun x e => by cases e; simp; omega, HP1.out, HP2.out _ HYL.out⟩, c8⟩
  · have hb : (rs == (lastH hp (j : Int)).s + 1) = true := by simp [e1]
    have E2 := hide e2
    rw [hb]
    clear e1 e2 hb
    have r0 := x1.cell 0 _ rfl
    have r1 := x1.cell 1 _ rfl
    have r2 := x1.cell 2 _ rfl
    have r3 := x1.cell 3 _ rfl
    have r4 := x1.cell 4 _ rfl
    have r5 := x1.cell 5 _ rfl
    have r6 := x1.cell 6 _ rfl
    go_wp2_with fail
    refine (H8.out N g ⟨za', zn', zc', Z', ka', kn', kc', bk', bh', bt'⟩ L' _ hSw xN od hM hL3 hrk (by omega) pd ydN).mono ?_
    have hw5 := xN.lt
    have hMo := hM.ok
    clear od nd4
    rintro e w6 ⟨⟨v, rfl⟩, ⟨⟨za', zn', zc', Z', ka', kn', kc', bk', bh', bt'⟩, a2, xN2, od, hM2, nd, na2, pd2, pa2⟩, hJ⟩
    have nd4 := nd.mono (show w.heap.size + 1 + 1 + 1 + 1 ≤ _ by omega)
    rw [pd] at pd2 pa2
    have HP1 : Hid ((⟨⟨Z'.map ZV.p, ⟨bk', bh', bt'⟩⟩, (L'.set j ⟨rs, a2⟩).map LV.p⟩ : PH) = nh.1) := hide (by
      rw [E2.out]
      dsimp only [DV.p] at pd2
      rw [pd2, List.map_set, pL]
      dsimp only [LV.p]
      rw [pa2, Int.toNat_natCast])
    have HP2 : Hid (∀ y, (L'.set j ⟨rs, a2⟩)[j]? = some y → y.x.p = nh.2.1) := hide (fun y hy => by
      rw [List.getElem?_set_self (by omega)] at hy
      cases hy
      rw [E2.out, pa2])
    have HP3 : Hid (nh.2.2 = 0) := hide (by rw [E2.out])
    have hyb : ∀ y ∈ L'.set j ⟨rs, a2⟩, y.x.n ≤ 8 := fun y hy => by
      rcases List.mem_or_eq_of_mem_set hy with hm | rfl
      · have h8 := HM.out y.p (by rw [← pL]; exact List.mem_map.2 ⟨y, hm, rfl⟩)
        have := (hMo y hm).len
        rw [← this]
        exact h8
      · have h8 := HDA.out
        rw [← pa2] at h8
        have := (hM2.ok _ hy).len
        dsimp only at this ⊢
        rw [← this]
        exact h8
    replace x1 := x1.butJ hJ (by omega) (by omega)
    replace x2 := x2.butJ hJ (by omega) (by omega)
    replace x3 := x3.butJ hJ (by omega) (by omega)
    replace bw := bw.trans (hJ.low w.heap.size (by omega) (by omega))
    replace hL3 : (L'.set j ⟨rs, a2⟩).length = 3 := by simp [hL3]
    clear E2 H8 HM HDA pd pL pd2 pa2 na2 nd ydN HLA HOR r0 r1 r2 r3 r4 r5 r6 xN hM hMo hJ hSw hrk hw5
    have xr := x1
    have xN := xN2
    have hM := hM2
    clear xN2 hM2
    dsimp only [HV.cells] at xN
    go_wp2
    obtain ⟨y, hy⟩ : ∃ z, (L'.set j ⟨rs, a2⟩)[j]? = some z := ⟨_, List.getElem?_eq_getElem (by rw [hL3]; exact hj3)⟩
    have hyk := hM.ok y (List.mem_of_getElem? hy)
    have hyf := hM.new y (List.mem_of_getElem? hy)
    have HYL := hide hy
    have hyn : y.x.n ≤ 100000 := by have := hyb y (List.mem_of_getElem? hy); omega
    have cg1 := hM.lay.cell _ _ (lcells_get (L'.set j ⟨rs, a2⟩) j y hy 1 _ rfl)
    have cg2 := hM.lay.cell _ _ (lcells_get (L'.set j ⟨rs, a2⟩) j y hy 2 _ rfl)
    have cg3 := hM.lay.cell _ _ (lcells_get (L'.set j ⟨rs, a2⟩) j y hy 3 _ rfl)
    have hW := fun (w' : World) (h' : y.x.ok w') => hwholeA_c y.x w' h' hyn
    obtain ⟨ys, ⟨ye, yt, ya, yn, yc, yl⟩⟩ := y
    have iy : Ints w6 ya yn yc yl := hyk
    dsimp only [AV.v] at hW cg1 cg2 cg3 hyn
    have HW := hide hW
    clear hW hy hyk
    have cn0 := xN.cell 0 _ rfl
    have cn1 := xN.cell 1 _ rfl
    have cn2 := xN.cell 2 _ rfl
    have cn3 := xN.cell 3 _ rfl
    have cn4 := xN.cell 4 _ rfl
    have cr0 := xr.cell 0 _ rfl
    have hj' : (j : Int) < 3 := by omega
    have hjz : ¬ ((j : Int) < 0) := by omega
    have hgl := hM.lay.lt
    have hNl := xN.lt
    have h2l := x2.lt
    have h3l := x3.lt
    go_upto_region 8 with fail
    go_region_held3 (fun w' => w'.cell? ⟨N, 0, none⟩ = some (.slice za' zn' zc') ∧ w'.cell? ⟨N, 1, none⟩ = some (.slice ka' kn' kc') ∧ w'.cell? ⟨N, 2, none⟩ = some (.int .i64 bh') ∧ w'.cell? ⟨N, 3, none⟩ = some (.int .i64 bt') ∧ w'.cell? ⟨N, 4, none⟩ = some (.slice (some ⟨g, 0, none⟩) 3 3) ∧ w'.cell? ⟨w.heap.size + 1, 0, none⟩ = some (.int .i64 j) ∧ w'.cell? ⟨g, j * 4 + 1, none⟩ = some (.int .i64 ye) ∧ w'.cell? ⟨g, j * 4 + 2, none⟩ = some (.int .i64 yt) ∧ w'.cell? ⟨g, j * 4 + 3, none⟩ = some (.slice ya yn yc)) ((first | (go_simp; done) | (simp [*, World.cell?_alloc_at, World.cell?_alloc_past, World.cell?_alloc_some, World.cell?_setCell_far]; done))) (first | (go_at_call 14; refine (HW.out _ (by refine Ints.below iy (B := w6.heap.size) ?_ (Nat.le_refl _); (repeat first | exact bel0 | assumption | refine bel1 ?_ | refine bel2 ?_ | refine bel3 ?_ | refine belowT ?_ (by assumption) | refine bel5 ?_ (by simp; try omega)))).mono ?_; rintro e w8 ⟨⟨q, rfl, i8, hq8⟩, hb8⟩; (have g0 := keepc hb8 (p := ⟨N, 0, none⟩) (u := .slice za' zn' zc') (by (first | (go_simp; done) | (simp [*, World.cell?_alloc_at, World.cell?_alloc_past, World.cell?_alloc_some, World.cell?_setCell_far]; done)))); (have g1 := keepc hb8 (p := ⟨N, 1, none⟩) (u := .slice ka' kn' kc') (by (first | (go_simp; done) | (simp [*, World.cell?_alloc_at, World.cell?_alloc_past, World.cell?_alloc_some, World.cell?_setCell_far]; done)))); (have g2 := keepc hb8 (p := ⟨N, 2, none⟩) (u := .int .i64 bh') (by (first | (go_simp; done) | (simp [*, World.cell?_alloc_at, World.cell?_alloc_past, World.cell?_alloc_some, World.cell?_setCell_far]; done)))); (have g3 := keepc hb8 (p := ⟨N, 3, none⟩) (u := .int .i64 bt') (by (first | (go_simp; done) | (simp [*, World.cell?_alloc_at, World.cell?_alloc_past, World.cell?_alloc_some, World.cell?_setCell_far]; done)))); (have g4 := keepc hb8 (p := ⟨N, 4, none⟩) (u := .slice (some ⟨g, 0, none⟩) 3 3) (by (first | (go_simp; done) | (simp [*, World.cell?_alloc_at, World.cell?_alloc_past, World.cell?_alloc_some, World.cell?_setCell_far]; done)))); (have g5 := keepc hb8 (p := ⟨w.heap.size + 1, 0, none⟩) (u := .int .i64 j) (by (first | (go_simp; done) | (simp [*, World.cell?_alloc_at, World.cell?_alloc_past, World.cell?_alloc_some, World.cell?_setCell_far]; done)))); (have g6 := keepc hb8 (p := ⟨g, j * 4 + 1, none⟩) (u := .int .i64 ye) (by (first | (go_simp; done) | (simp [*, World.cell?_alloc_at, World.cell?_alloc_past, World.cell?_alloc_some, World.cell?_setCell_far]; done)))); (have g7 := keepc hb8 (p := ⟨g, j * 4 + 2, none⟩) (u := .int .i64 yt) (by (first | (go_simp; done) | (simp [*, World.cell?_alloc_at, World.cell?_alloc_past, World.cell?_alloc_some, World.cell?_setCell_far]; done)))); (have g8 := keepc hb8 (p := ⟨g, j * 4 + 3, none⟩) (u := .slice ya yn yc) (by (first | (go_simp; done) | (simp [*, World.cell?_alloc_at, World.cell?_alloc_past, World.cell?_alloc_some, World.cell?_setCell_far]; done)))); (have y2 := x2.below (w' := w8) (by (repeat first | exact bel0 | assumption | refine bel1 ?_ | refine bel2 ?_ | refine bel3 ?_ | refine belowT ?_ (by assumption) | refine bel5 ?_ (by simp; try omega)))); (have y3 := x3.below (w' := w8) (by (repeat first | exact bel0 | assumption | refine bel1 ?_ | refine bel2 ?_ | refine bel3 ?_ | refine belowT ?_ (by assumption) | refine bel5 ?_ (by simp; try omega)))); (have p0 := y2.cell 0 _ rfl); (have p1 := y2.cell 1 _ rfl); (have p2 := y2.cell 2 _ rfl); (have p3 := y2.cell 3 _ rfl); (have p4 := y2.cell 4 _ rfl); (have s0 := y2.ice 0); (have s1 := y2.ice 1); (have s2 := y2.ice 2); (have s3 := y2.ice 3); (have s4 := y2.ice 4); (have o0 := y3.cell 0 _ rfl); (have o1 := y3.cell 1 _ rfl); (have o2 := y3.cell 2 _ rfl); (have u0 := y3.ice 0); (have u1 := y3.ice 1); (have u2 := y3.ice 2)))
    have b8 : Below w6.heap.size w6 w8 := by (repeat first | exact bel0 | assumption | refine bel1 ?_ | refine bel2 ?_ | refine bel3 ?_ | refine belowT ?_ (by assumption) | refine bel5 ?_ (by simp; try omega))
    have hq9 : w6.heap.size ≤ q := by simpa using hq8
    have o8 := od.below b8 (Nat.le_refl _)
    have m8 := hM.below b8
    have c8 := belowT bw b8
    clear g0 g1 g2 g3 g4 g5 g6 g7 g8 hb8 hq8 cn0 cn1 cn2 cn3 cn4 cr0 cg1 cg2 cg3 p0 p1 p2 p3 p4 s0 s1 s2 s3 s4 o0 o1 o2 u0 u1 u2
    go_wp2
    have zB := ((((y2.set 0 (.slice za' zn' zc')).set 1 (.slice ka' kn' kc')).set 2 (.int .i64 bh')).set 3 (.int .i64 bt')).set 4 (.slice (some ⟨g, 0, none⟩) 3 3)
    have hbut := (((((ButI.refl (w.heap.size + 1 + 1) w8).step 0 (.slice za' zn' zc')).step 1 (.slice ka' kn' kc')).step 2 (.int .i64 bh')).step 3 (.int .i64 bt')).step 4 (.slice (some ⟨g, 0, none⟩) 3 3)
    generalize ((((w8.setCell ⟨w.heap.size + 1 + 1, 0, none⟩ (.slice za' zn' zc')).setCell ⟨w.heap.size + 1 + 1, 1, none⟩ (.slice ka' kn' kc')).setCell ⟨w.heap.size + 1 + 1, 2, none⟩ (.int .i64 bh')).setCell ⟨w.heap.size + 1 + 1, 3, none⟩ (.int .i64 bt')).setCell ⟨w.heap.size + 1 + 1, 4, none⟩ (.slice (some ⟨g, 0, none⟩) 3 3) = w9 at *
    have z0 := zB.cell 0 _ rfl
    have z1 := zB.cell 1 _ rfl
    have z2 := zB.cell 2 _ rfl
    have z3 := zB.cell 3 _ rfl
    have z4 := zB.cell 4 _ rfl
    replace y3 := y3.butI hbut (by omega)
    replace o8 := o8.but hbut.but (nd4 _ (by omega))
    replace m8 := m8.far hbut (by omega)
    replace i8 := i8.but hbut.but (.inr fun x e => by cases e; simp; omega)
    replace c8 := c8.trans (hbut.below (B := w.heap.size) (by omega))
    clear z0 z1 z2 z3 z4 hbut y2
    have zA := ((y3.set 0 (.int .i64 ye)).set 1 (.int .i64 yt)).set 2 (.slice (some ⟨q, 0, none⟩) yn yn)
    have hbu := (((ButI.refl (w.heap.size + 1 + 1 + 1) w9).step 0 (.int .i64 ye)).step 1 (.int .i64 yt)).step 2 (.slice (some ⟨q, 0, none⟩) yn yn)
    replace zB := zB.butI hbu (by omega)
    replace o8 := o8.but hbu.but (nd4 _ (by omega))
    replace m8 := m8.far hbu (by omega)
    replace i8 := i8.but hbu.but (.inr fun x e => by cases e; simp; omega)
    replace c8 := c8.trans (hbu.below (B := w.heap.size) (by omega))
    clear y3 hbu
    generalize ((w9.setCell ⟨w.heap.size + 1 + 1 + 1, 0, none⟩ (.int .i64 ye)).setCell ⟨w.heap.size + 1 + 1 + 1, 1, none⟩ (.int .i64 yt)).setCell ⟨w.heap.size + 1 + 1 + 1, 2, none⟩ (.slice (some ⟨q, 0, none⟩) yn yn) = w10 at *
    have z0 := zB.cell 0 _ rfl
    have z1 := zB.cell 1 _ rfl
    have z2 := zB.cell 2 _ rfl
    have z3 := zB.cell 3 _ rfl
    have z4 := zB.cell 4 _ rfl
    have v0 := zA.cell 0 _ rfl
    have v1 := zA.cell 1 _ rfl
    have v2 := zA.cell 2 _ rfl
    exact bodyPost_ret (v := .tuple #[.agg #[.slice za' zn' zc', .slice ka' kn' kc', .int .i64 bh', .int .i64 bt', .slice (some ⟨g, 0, none⟩) 3 3], .agg #[.int .i64 ye, .int .i64 yt, .slice (some ⟨q, 0, none⟩) yn yn], .int .i64 0]) (by simp [results, Tryd.results5, go_sem, z0, z1, z2, z3, z4, v0, v1, v2]) rfl
      ⟨⟨⟨⟨za', zn', zc', Z', ka', kn', kc', ⟨bk', bh', bt'⟩⟩, some ⟨g, 0, none⟩, 3, 3, L'.set j ⟨rs, a2⟩⟩, ⟨ye, yt, some ⟨q, 0, none⟩, yn, yn, yl⟩, by rw [HP3.out]; rfl, ⟨o8, m8.lasts (n := 3) hL3 (by omega)⟩, i8, fun R hR => ⟨nd4 R (by omega), .inr fun x e => by cases e; simp; omega, fun y hy => (m8.new y hy).off (by omega)⟩, fun R hR => .inr fun x e => by cases e; simp; omega, HP1.out, HP2.out _ HYL.out⟩, c8⟩

theorem Next_c (h : HV) (r : RV) (w : World) (hS : Shapes w) (hk : h.ok w) (hr : r.ok w) : Calls Tryd.prog 5 #[h.v, r.v] w fun e w' => Nexts (nextH h.p r.p) w e w' := by
  by_cases hb : nextE h.p r.p = 0
  · exact Next_good h r w hS hk hr hb
  · have e : nextH h.p r.p = (zeroH, zeroA, nextE h.p r.p) := nextH_bad hb
    rw [e]
    exact Next_bad h r w hS hk hr hb

end Go.Proofs.YtcmladgldjcdmaaDoor
