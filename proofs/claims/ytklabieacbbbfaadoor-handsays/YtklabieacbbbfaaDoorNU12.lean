/- The contracts of hand's checkHear and Hear; no condition but that the arguments read as data and the package's table is as its text lays it. -/
import Derived.Test.YtklabieacbbbfaaDoorNU11
import Derived.Deep.AppendLies
import Derived.Deep.RegionLaw
import Derived.Test.YtklabieacbbbfaaDoorNU3
import Derived.Test.YtklabieacbbbfaaDoorNU1
namespace Go.Proofs.YtklabieacbbbfaaDoor
open Go.RowKit
set_option linter.unusedVariables false
set_option maxRecDepth 100000
set_option linter.unusedSimpArgs false

set_option maxHeartbeats 2000000 in
theorem jcheckHear_c (h : NV) (y : AV) (w : World) (hS : Shapes w) (hk : h.ok w) (hy : y.ok w) : Calls Tryd.prog 22 #[h.v, y.v] w fun e w' => e = .returned (.int .i64 (if checkN h.p ≠ 0 then checkN h.p else checkA y.p)) ∧ Below w.heap.size w w' := by
  have HK := hide (fun w' hS' h' => JCheck_c h w' hS' h')
  have HC := hide (fun w' h' => DCheckAnswer_c y w' h')
  obtain ⟨x0, x1, bw⟩ := two_boxes w h.cells y.cells 27 30
  replace hk := hk.below bw (Nat.le_refl _)
  replace hy := AV.ok.below hy bw (Nat.le_refl _)
  replace hS := hS.below bw
  generalize checkN h.p = ch at *
  generalize checkA y.p = cy at *
  rw [show h.v = .agg h.cells.toArray from rfl, show y.v = .agg y.cells.toArray from rfl] at *
  obtain ⟨s, v, ⟨k, z, u, t, d⟩, ca, cn, cc, ga, gn, gc, G⟩ := h
  obtain ⟨ye, yt, ya, yn, yc, yd⟩ := y
  dsimp only [NV.cells, AV.cells] at *
  obtain ⟨c0, c1, c2, c3, c4, c5, c6, c7⟩ := x0.eight
  go_enter Tryd.func22, Tryd.ntmps22
  go_wp2_with fail
  refine (HK.out _ hS hk).mono ?_
  rintro e w1 ⟨rfl, hb1⟩
  replace x1 := x1.below hb1
  replace hy := AV.ok.below hy hb1 (Nat.le_refl _)
  replace bw := belowT bw hb1
  clear hb1 c0 c1 c2 c3 c4 c5 c6 c7 HK hk x0
  cases h0 : ch != 0
  · have HZ : Hid (ch = 0) := hide (by simpa using h0)
    have r0 := x1.cell 0 _ rfl
    have r1 := x1.cell 1 _ rfl
    have r2 := x1.cell 2 _ rfl
    go_wp2_with fail
    refine (HC.out _ hy).mono ?_
    rintro e w2 ⟨rfl, hb2⟩
    go_wp2
    go_ret
    exact ⟨rfl, belowT bw hb2⟩
  · have HZ : Hid (ch ≠ 0) := hide (by simpa using h0)
    go_wp2
    go_ret
    exact ⟨rfl, bw⟩

set_option maxRecDepth 100000 in
set_option maxHeartbeats 8000000 in
theorem JHear_c (h : NV) (sq : Int) (y : AV) (w : World) (hS : Shapes w) (hk : h.ok w) (hy : y.ok w) : Calls Tryd.prog 7 #[h.v, .int .i64 sq, y.v] w fun e w' => HandNew (hearN h.p sq y.p) w e w' := by
  have HK := hide (fun w' hS' h' k' => jcheckHear_c h y w' hS' h' k')
  have HW := hide (fun w' h' hc' => jwhole_c h w' h' hc')
  have HA : Hid (hearN h.p sq y.p = if checkN h.p ≠ 0 then (zeroN, checkN h.p) else if checkA y.p ≠ 0 then (zeroN, checkA y.p) else if h.w = false ∨ h.s ≠ sq then (h.p, 0) else (⟨sq, false, zeroC, h.G.map AV.p ++ [y.p]⟩, 0)) := hide rfl
  have HP : Hid (h.p = ⟨h.s, h.w, h.c, h.G.map AV.p⟩) := hide rfl
  have HGX : Hid (h.gn ≤ 9223372036854775807) := hide (Nat.le_trans hk.g.le hk.g.max)
  have HS40 : Hid (checkN h.p = 0 → h.gn ≤ 40) := hide (fun e => (hand_small hk e).2.1)
  have HY8 : Hid (checkA y.p = 0 → y.n ≤ 8) := hide (fun e => by rw [← (show Ints w y.a y.n y.c y.d from hy).len]; exact checkA_few e)
  obtain ⟨x0, x1, x2, bw⟩ := three_boxes w h.cells y.cells NV.zero.cells 27 30 27
  have hok := hk.below bw (Nat.le_refl _)
  have hyk := AV.ok.below hy bw (Nat.le_refl _)
  have hSk := hS.below bw
  have HWA := hide (fun (w' : World) (h' : y.ok w') (hn : y.n ≤ 100000) => pwholeA_c y w' h' hn)
  generalize hearN h.p sq y.p = na at *
  generalize hhp : h.p = hp at *
  generalize hyp : y.p = yp at *
  rw [show h.v = .agg h.cells.toArray from rfl, show y.v = .agg y.cells.toArray from rfl] at *
  obtain ⟨s, v, ⟨k, z, u, t, d⟩, ca, cn, cc, ga, gn, gc, G⟩ := h
  obtain ⟨ye, yt, ya, yn, yc, yd⟩ := y
  dsimp only [NV.cells, AV.cells, NV.zero, zeroC] at *
  have HYP := hide hyp
  clear hhp hyp
  obtain ⟨c0, c1, c2, c3, c4, c5, c6, c7⟩ := x0.eight
  have r0 := x1.cell 0 _ rfl
  have r1 := x1.cell 1 _ rfl
  have r2 := x1.cell 2 _ rfl
  go_enter Tryd.func7, Tryd.ntmps7
  go_wp2_with fail
  refine (HK.out _ hSk hok hyk).mono ?_
  rintro e w1 ⟨rfl, hb1⟩
  replace x0 := x0.below hb1
  replace x1 := x1.below hb1
  replace x2 := x2.below hb1
  replace hok := hok.below hb1 (Nat.le_refl _)
  replace hyk := AV.ok.below hyk hb1 (Nat.le_refl _)
  replace bw := belowT bw hb1
  clear hb1 c0 c1 c2 c3 c4 c5 c6 c7 r0 r1 r2 HK hSk
  generalize hgc : checkN hp = ch at *
  generalize checkA yp = cy at *
  obtain ⟨er, her⟩ : ∃ m : Int, (if ch ≠ 0 then ch else cy) = m := ⟨_, rfl⟩
  rw [her]
  cases h0 : er != 0
  · have hz : ch = 0 ∧ cy = 0 := by
      have h0' : er = 0 := by simpa using h0
      by_cases e : ch = 0
      · exact ⟨e, by rw [if_neg (by simp [e])] at her; rw [her]; exact h0'⟩
      · rw [if_pos e] at her; exact absurd (her.trans h0') e
    obtain ⟨hz1, hz2⟩ := hz
    have G1 : Hid (ch = 0) := hide hz1
    have H40 := hide (HS40.out hz1)
    have H8 := hide (HY8.out hz2)
    have HE : Hid (na = if v = false ∨ s ≠ sq then (hp, 0) else (⟨sq, false, zeroC, G.map AV.p ++ [yp]⟩, 0)) := hide (by rw [HA.out, if_neg (by simp [hz1]), if_neg (by simp [hz2])]; rfl)
    clear hz1 hz2 hgc her HA HS40 HY8
    obtain ⟨c0, c1, c2, c3, c4, c5, c6, c7⟩ := x0.eight
    go_wp2_with fail
    refine (HW.out _ hok G1.out).mono ?_
    rintro e w2 ⟨⟨q, g, X', rfl, iq, hq, hqg, hM, hXl, hXp⟩, hb2⟩
    dsimp only [NV.v] at *
    have hx1 := x2.lt
    have HXL := hide hXl
    have HXP := hide hXp
    clear hXl hXp c0 c1 c2 c3 c4 c5 c6 c7 x0
    replace x1 := x1.below hb2
    replace x2 := x2.below hb2
    replace hyk := AV.ok.below hyk hb2 (Nat.le_refl _)
    replace bw := belowT bw hb2
    have hx2 := x2.lt
    have hs12 := hb2.size
    have hgm := hM.lay.lt
    have HM0 := hide hM
    have hy0 := hyk
    have hq2 : q < w2.heap.size := by omega
    have hwq : w.heap.size + 1 + 1 < q := by omega
    clear hb2 HW
    go_upto_region 5 with fail
    have xn := Lay.made w2 [.int .i64 s, .bool v, .int .i64 k, .int .i64 z, .int .i64 u, .int .i64 t, .slice (some ⟨q, 0, none⟩) cn cn, .slice (some ⟨g, 0, none⟩) gn gn] 27
    have bn := belowA (Below.refl _ w2) (.cells [.int .i64 s, .bool v, .int .i64 k, .int .i64 z, .int .i64 u, .int .i64 t, .slice (some ⟨q, 0, none⟩) cn cn, .slice (some ⟨g, 0, none⟩) gn gn].toArray 27)
    replace x1 := x1.below bn
    replace x2 := x2.below bn
    replace hyk := AV.ok.below hyk bn (Nat.le_refl _)
    replace hM := hM.below bn
    replace bw := belowT bw bn
    replace iq := iq.below bn (Nat.le_refl _)
    have HXO : Hid (∀ x ∈ X', x.off w2.heap.size) := hide (fun x hx => AV.ok.off (HM0.out.ok x hx) (Nat.le_refl _))
    have HYO : Hid (AV.off w2.heap.size ⟨ye, yt, ya, yn, yc, yd⟩) := hide (AV.ok.off hy0 (Nat.le_refl _))
    clear bn HM0 hy0
    generalize hN : w2.heap.size = N at *
    clear hN
    generalize w2.alloc (.cells [.int .i64 s, .bool v, .int .i64 k, .int .i64 z, .int .i64 u, .int .i64 t, .slice (some ⟨q, 0, none⟩) cn cn, .slice (some ⟨g, 0, none⟩) gn gn].toArray 27) = w3 at *
    obtain ⟨a0, a1, a2, a3, a4, a5, a6, a7⟩ := xn.eight
    cases v
    · have HE' : Hid (na = (hp, 0)) := hide (by rw [HE.out, if_pos (.inl rfl)])
      have okh : NV.ok w3 ⟨s, false, ⟨k, z, u, t, d⟩, some ⟨q, 0, none⟩, cn, cn, some ⟨g, 0, none⟩, gn, gn, X'⟩ := ⟨iq, hM.answers HXL.out HGX.out⟩
      have offh : ∀ R, R ≤ w.heap.size + 1 + 1 → NV.off R ⟨s, false, ⟨k, z, u, t, d⟩, some ⟨q, 0, none⟩, cn, cn, some ⟨g, 0, none⟩, gn, gn, X'⟩ := fun R hR => ⟨.inr fun x e => by cases e; simp; omega, .inr fun x e => by cases e; simp; omega, fun x hx => hM.new x hx R (by omega)⟩
      have e0 := x2.cell 0 _ rfl
      have e1 := x2.cell 1 _ rfl
      have e2 := x2.cell 2 _ rfl
      have e3 := x2.cell 3 _ rfl
      have e4 := x2.cell 4 _ rfl
      have e5 := x2.cell 5 _ rfl
      have e6 := x2.cell 6 _ rfl
      have e7 := x2.cell 7 _ rfl
      have f0 := x2.ice 0
      have f1 := x2.ice 1
      have f2 := x2.ice 2
      have f3 := x2.ice 3
      have f4 := x2.ice 4
      have f5 := x2.ice 5
      have f6 := x2.ice 6
      have f7 := x2.ice 7
      go_wp2
      have zB := ((((((((x2.set 0 (.int .i64 s)).set 1 (.bool false)).set 2 (.int .i64 k)).set 3 (.int .i64 z)).set 4 (.int .i64 u)).set 5 (.int .i64 t)).set 6 (.slice (some ⟨q, 0, none⟩) cn cn)).set 7 (.slice (some ⟨g, 0, none⟩) gn gn))
      have hbut := (((((((((ButI.refl (w.heap.size + 1 + 1) w3).step 0 (.int .i64 s)).step 1 (.bool false)).step 2 (.int .i64 k)).step 3 (.int .i64 z)).step 4 (.int .i64 u)).step 5 (.int .i64 t)).step 6 (.slice (some ⟨q, 0, none⟩) cn cn)).step 7 (.slice (some ⟨g, 0, none⟩) gn gn))
      generalize ((((((((w3.setCell ⟨w.heap.size + 1 + 1, 0, none⟩ (.int .i64 s)).setCell ⟨w.heap.size + 1 + 1, 1, none⟩ (.bool false)).setCell ⟨w.heap.size + 1 + 1, 2, none⟩ (.int .i64 k)).setCell ⟨w.heap.size + 1 + 1, 3, none⟩ (.int .i64 z)).setCell ⟨w.heap.size + 1 + 1, 4, none⟩ (.int .i64 u)).setCell ⟨w.heap.size + 1 + 1, 5, none⟩ (.int .i64 t)).setCell ⟨w.heap.size + 1 + 1, 6, none⟩ (.slice (some ⟨q, 0, none⟩) cn cn)).setCell ⟨w.heap.size + 1 + 1, 7, none⟩ (.slice (some ⟨g, 0, none⟩) gn gn)) = w99 at *
      have z0 := zB.cell 0 _ rfl
      have z1 := zB.cell 1 _ rfl
      have z2 := zB.cell 2 _ rfl
      have z3 := zB.cell 3 _ rfl
      have z4 := zB.cell 4 _ rfl
      have z5 := zB.cell 5 _ rfl
      have z6 := zB.cell 6 _ rfl
      have z7 := zB.cell 7 _ rfl
      have o9 := okh.but hbut.but (offh _ (Nat.le_refl _))
      refine bodyPost_ret (v := .tuple #[.agg #[.int .i64 s, .bool false, .int .i64 k, .int .i64 z, .int .i64 u, .int .i64 t, .slice (some ⟨q, 0, none⟩) cn cn, .slice (some ⟨g, 0, none⟩) gn gn], .int .i64 0]) (by simp [results, Tryd.results7, go_sem, z0, z1, z2, z3, z4, z5, z6, z7]) rfl ⟨⟨⟨s, false, ⟨k, z, u, t, d⟩, some ⟨q, 0, none⟩, cn, cn, some ⟨g, 0, none⟩, gn, gn, X'⟩, ?_, o9, fun R hR => offh R (by omega), ?_⟩, bw.trans (hbut.below (B := w.heap.size) (by omega))⟩
      · rw [HE'.out]; rfl
      · rw [HE'.out, HP.out]
        simp only [NV.p]
        rw [HXP.out]
    · cases hs : s == sq
      · have HE' : Hid (na = (hp, 0)) := hide (by rw [HE.out, if_pos (.inr (by simpa using hs))])
        have okh : NV.ok w3 ⟨s, true, ⟨k, z, u, t, d⟩, some ⟨q, 0, none⟩, cn, cn, some ⟨g, 0, none⟩, gn, gn, X'⟩ := ⟨iq, hM.answers HXL.out HGX.out⟩
        have offh : ∀ R, R ≤ w.heap.size + 1 + 1 → NV.off R ⟨s, true, ⟨k, z, u, t, d⟩, some ⟨q, 0, none⟩, cn, cn, some ⟨g, 0, none⟩, gn, gn, X'⟩ := fun R hR => ⟨.inr fun x e => by cases e; simp; omega, .inr fun x e => by cases e; simp; omega, fun x hx => hM.new x hx R (by omega)⟩
        have e0 := x2.cell 0 _ rfl
        have e1 := x2.cell 1 _ rfl
        have e2 := x2.cell 2 _ rfl
        have e3 := x2.cell 3 _ rfl
        have e4 := x2.cell 4 _ rfl
        have e5 := x2.cell 5 _ rfl
        have e6 := x2.cell 6 _ rfl
        have e7 := x2.cell 7 _ rfl
        have f0 := x2.ice 0
        have f1 := x2.ice 1
        have f2 := x2.ice 2
        have f3 := x2.ice 3
        have f4 := x2.ice 4
        have f5 := x2.ice 5
        have f6 := x2.ice 6
        have f7 := x2.ice 7
        go_wp2
        have zB := ((((((((x2.set 0 (.int .i64 s)).set 1 (.bool true)).set 2 (.int .i64 k)).set 3 (.int .i64 z)).set 4 (.int .i64 u)).set 5 (.int .i64 t)).set 6 (.slice (some ⟨q, 0, none⟩) cn cn)).set 7 (.slice (some ⟨g, 0, none⟩) gn gn))
        have hbut := (((((((((ButI.refl (w.heap.size + 1 + 1) w3).step 0 (.int .i64 s)).step 1 (.bool true)).step 2 (.int .i64 k)).step 3 (.int .i64 z)).step 4 (.int .i64 u)).step 5 (.int .i64 t)).step 6 (.slice (some ⟨q, 0, none⟩) cn cn)).step 7 (.slice (some ⟨g, 0, none⟩) gn gn))
        generalize ((((((((w3.setCell ⟨w.heap.size + 1 + 1, 0, none⟩ (.int .i64 s)).setCell ⟨w.heap.size + 1 + 1, 1, none⟩ (.bool true)).setCell ⟨w.heap.size + 1 + 1, 2, none⟩ (.int .i64 k)).setCell ⟨w.heap.size + 1 + 1, 3, none⟩ (.int .i64 z)).setCell ⟨w.heap.size + 1 + 1, 4, none⟩ (.int .i64 u)).setCell ⟨w.heap.size + 1 + 1, 5, none⟩ (.int .i64 t)).setCell ⟨w.heap.size + 1 + 1, 6, none⟩ (.slice (some ⟨q, 0, none⟩) cn cn)).setCell ⟨w.heap.size + 1 + 1, 7, none⟩ (.slice (some ⟨g, 0, none⟩) gn gn)) = w99 at *
        have z0 := zB.cell 0 _ rfl
        have z1 := zB.cell 1 _ rfl
        have z2 := zB.cell 2 _ rfl
        have z3 := zB.cell 3 _ rfl
        have z4 := zB.cell 4 _ rfl
        have z5 := zB.cell 5 _ rfl
        have z6 := zB.cell 6 _ rfl
        have z7 := zB.cell 7 _ rfl
        have o9 := okh.but hbut.but (offh _ (Nat.le_refl _))
        refine bodyPost_ret (v := .tuple #[.agg #[.int .i64 s, .bool true, .int .i64 k, .int .i64 z, .int .i64 u, .int .i64 t, .slice (some ⟨q, 0, none⟩) cn cn, .slice (some ⟨g, 0, none⟩) gn gn], .int .i64 0]) (by simp [results, Tryd.results7, go_sem, z0, z1, z2, z3, z4, z5, z6, z7]) rfl ⟨⟨⟨s, true, ⟨k, z, u, t, d⟩, some ⟨q, 0, none⟩, cn, cn, some ⟨g, 0, none⟩, gn, gn, X'⟩, ?_, o9, fun R hR => offh R (by omega), ?_⟩, bw.trans (hbut.below (B := w.heap.size) (by omega))⟩
        · rw [HE'.out]; rfl
        · rw [HE'.out, HP.out]
          simp only [NV.p]
          rw [HXP.out]
      · have hsq : s = sq := by simpa using hs
        subst hsq
        have HE' : Hid (na = (⟨s, false, zeroC, G.map AV.p ++ [yp]⟩, 0)) := hide (by rw [HE.out, if_neg (by simp)])
        clear HE iq hwq
        have i1 := xn.ice 1
        have i2 := xn.ice 2
        have i3 := xn.ice 3
        have i4 := xn.ice 4
        have i5 := xn.ice 5
        have i6 := xn.ice 6
        go_upto_region 7 with fail
        have hbu := ((((((ButI.refl N w3).step 1 (.bool false)).step 2 (.int .i64 0)).step 3 (.int .i64 0)).step 4 (.int .i64 0)).step 5 (.int .i64 0)).step 6 (.slice none 0 0)
        have yn1 : Lay _ _ [.int .i64 s, .bool false, .int .i64 0, .int .i64 0, .int .i64 0, .int .i64 0, .slice none 0 0, .slice (some ⟨g, 0, none⟩) gn gn] := (((((xn.set 1 (.bool false)).set 2 (.int .i64 0)).set 3 (.int .i64 0)).set 4 (.int .i64 0)).set 5 (.int .i64 0)).set 6 (.slice none 0 0)
        replace x1 := x1.butI hbu (by omega)
        replace x2 := x2.butI hbu (by omega)
        replace hyk := AV.ok.but hyk hbu.but HYO.out
        replace bw := bw.trans (hbu.below (B := w.heap.size) (by omega))
        replace hM := (((((hM.farB ⟨N, 1, none⟩ (.bool false) (by simp; omega) HXO.out).farB ⟨N, 2, none⟩ (.int .i64 0) (by simp; omega) HXO.out).farB ⟨N, 3, none⟩ (.int .i64 0) (by simp; omega) HXO.out).farB ⟨N, 4, none⟩ (.int .i64 0) (by simp; omega) HXO.out).farB ⟨N, 5, none⟩ (.int .i64 0) (by simp; omega) HXO.out).farB ⟨N, 6, none⟩ (.slice none 0 0) (by simp; omega) HXO.out
        clear a0 a1 a2 a3 a4 a5 a6 a7 i1 i2 i3 i4 i5 i6 xn hbu HYO
        generalize (((((w3.setCell ⟨N, 1, none⟩ (.bool false)).setCell ⟨N, 2, none⟩ (.int .i64 0)).setCell ⟨N, 3, none⟩ (.int .i64 0)).setCell ⟨N, 4, none⟩ (.int .i64 0)).setCell ⟨N, 5, none⟩ (.int .i64 0)).setCell ⟨N, 6, none⟩ (.slice none 0 0) = w4 at *
        have hN4 := yn1.lt
        have hl40 : X'.length ≤ 40 := by rw [HXL.out]; exact H40.out
        have HNEW := hide hM.new
        have own : OwnA w4 g (.slice (some ⟨g, 0, none⟩) gn gn) X' := by
          have o := hM.own (by simp only [maxLen]; omega)
          rw [HXL.out] at o
          exact o
        clear hM
        obtain ⟨ai, hi, hzz, hsz, hby⟩ := ansInfo
        have h63 : X'.length + 1 ≤ maxLen := by simp only [maxLen]; omega
        have h72 : (X'.length + 1) * 40 ≤ 140737488355328 := by omega
        have hnN : some N ≠ Value.ownBlock (.slice (some ⟨g, 0, none⟩) gn gn) := fun e => by simp [Value.ownBlock] at e; omega
        have hn1 : some (w.heap.size + 1) ≠ Value.ownBlock (.slice (some ⟨g, 0, none⟩) gn gn) := fun e => by simp [Value.ownBlock] at e; omega
        have hn2 : some (w.heap.size + 1 + 1) ≠ Value.ownBlock (.slice (some ⟨g, 0, none⟩) gn gn) := fun e => by simp [Value.ownBlock] at e; omega
        have r0 := x1.cell 0 _ rfl
        have r1 := x1.cell 1 _ rfl
        have r2 := x1.cell 2 _ rfl
        have r7 := yn1.cell 7 _ rfl
        have H8' := hide (Nat.le_trans H8.out (by decide : 8 ≤ 100000))
        go_region_law (first
          | (go_simp; go_at_call 23; refine (HWA.out _ (by refine AV.ok.below hyk (B := w4.heap.size) ?_ (Nat.le_refl _); clear bw; (repeat first | exact bel0 | assumption | refine bel1 ?_ | refine bel2 ?_ | refine bel3 ?_ | refine belowT ?_ (by assumption) | refine bel5 ?_ (by simp; try omega))) H8'.out).mono ?_; rintro e w5 ⟨⟨q5, rfl, i5, hq5, hq6⟩, hb5⟩; (have b5 : Below w4.heap.size w4 w5 := by clear bw; (repeat first | exact bel0 | assumption | refine bel1 ?_ | refine bel2 ?_ | refine bel3 ?_ | refine belowT ?_ (by assumption) | refine bel5 ?_ (by simp; try omega))); (have own5 := OwnA.below own b5); (have x15 := x1.below b5); (have xn5 := yn1.below b5); (have x25 := x2.below b5); (have s5 := b5.size); (have r0 := x15.cell 0 _ rfl); (have r1 := x15.cell 1 _ rfl); (have r2 := x15.cell 2 _ rfl); (have r7 := xn5.cell 7 _ rfl); (have r7p := past1 r7); (have f7 := xn5.ice 7); (have f7p := pastf1 r7 f7); go_wp2_with fail)
          | (refine step_append_lies _ rfl _ _ 25 rfl g 30 ai (.agg #[.int .i64 0, .int .i64 0, .slice none 0 0]) 3 40 Tryd.underlying25 hi hzz hsz hby rfl (by decide) _ _ _ rfl (OwnA.below own5 (by clear bw b5; (repeat first | exact bel0 | assumption | refine bel1 ?_ | refine bel2 ?_ | refine bel3 ?_ | refine belowT ?_ (by assumption) | refine bel5 ?_ (by simp; try omega)))).own ⟨w5.heap.size, 0, none⟩ 1 1 (AV.cells ⟨ye, yt, some ⟨q5, 0, none⟩, yn, yn, yd⟩) rfl rfl (fun j u hu => by rw [addr_add, Nat.zero_add]; exact (Lay.made w5.drew [.int .i64 ye, .int .i64 yt, .slice (some ⟨q5, 0, none⟩) yn yn] 30).cell j u hu) (AV.cells_one _) (by decide) h63 h72 (Nat.le_trans (Nat.le_trans (show g ≤ w4.heap.size by omega) s5) (by first | exact Nat.le_refl _ | (simp; done) | (simp; omega))) _ rfl ?_; intro g6 cap6 w7 hown6 hg6 hat6 hlt6; (have hbY : Below w5.heap.size w5 (w5.drew.alloc (.cells [.int .i64 ye, .int .i64 yt, .slice (some ⟨q5, 0, none⟩) yn yn].toArray 30)) := by clear bw b5; (repeat first | exact bel0 | assumption | refine bel1 ?_ | refine bel2 ?_ | refine bel3 ?_ | refine belowT ?_ (by assumption) | refine bel5 ?_ (by simp; try omega))); (have xn7 := Lay.grownA (xn5.below hbY) hg6 hnN); (have x27 := Lay.grownA (x25.below hbY) hg6 hn2); (have x17 := Lay.grownA (x15.below hbY) hg6 hn1); (have r0 := x17.cell 0 _ rfl); (have r1 := x17.cell 1 _ rfl); (have r2 := x17.cell 2 _ rfl); (have e7 := xn7.cell 7 _ rfl); (have f7 := xn7.ice 7))
          | (refine step_append_lies _ rfl _ _ 25 rfl g 30 ai (.agg #[.int .i64 0, .int .i64 0, .slice none 0 0]) 3 40 Tryd.underlying25 hi hzz hsz hby rfl (by decide) _ _ _ rfl (OwnA.below own5 (by clear bw b5; (repeat first | exact bel0 | assumption | refine bel1 ?_ | refine bel2 ?_ | refine bel3 ?_ | refine belowT ?_ (by assumption) | refine bel5 ?_ (by simp; try omega)))).own ⟨w5.heap.size, 0, none⟩ 1 1 (AV.cells ⟨ye, yt, some ⟨q5, 0, none⟩, yn, yn, yd⟩) rfl rfl (fun j u hu => by rw [addr_add, Nat.zero_add]; exact (Lay.made w5 [.int .i64 ye, .int .i64 yt, .slice (some ⟨q5, 0, none⟩) yn yn] 30).cell j u hu) (AV.cells_one _) (by decide) h63 h72 (Nat.le_trans (Nat.le_trans (show g ≤ w4.heap.size by omega) s5) (by first | exact Nat.le_refl _ | (simp; done) | (simp; omega))) _ rfl ?_; intro g6 cap6 w7 hown6 hg6 hat6 hlt6; (have hbY : Below w5.heap.size w5 (w5.alloc (.cells [.int .i64 ye, .int .i64 yt, .slice (some ⟨q5, 0, none⟩) yn yn].toArray 30)) := by clear bw b5; (repeat first | exact bel0 | assumption | refine bel1 ?_ | refine bel2 ?_ | refine bel3 ?_ | refine belowT ?_ (by assumption) | refine bel5 ?_ (by simp; try omega))); (have xn7 := Lay.grownA (xn5.below hbY) hg6 hnN); (have x27 := Lay.grownA (x25.below hbY) hg6 hn2); (have x17 := Lay.grownA (x15.below hbY) hg6 hn1); (have r0 := x17.cell 0 _ rfl); (have r1 := x17.cell 1 _ rfl); (have r2 := x17.cell 2 _ rfl); (have e7 := xn7.cell 7 _ rfl); (have f7 := xn7.ice 7)))
        all_goals
          have sY := hbY.size
          have hq5' : w4.heap.size ≤ q5 := hq5
          have oN := (OwnA.below own5 hbY).snoc (x := ⟨ye, yt, some ⟨q5, 0, none⟩, yn, yn, yd⟩) (Ints.below i5 hbY (Nat.le_refl _)) (fun k e => .inr fun x e' => by cases e'; simp [Value.ownBlock] at e; simp at hq5 ⊢; omega) hown6 hg6 hat6
          have hg6b : g6 ≠ N ∧ w.heap.size + 1 + 1 < g6 := by
            rcases hat6 with e | e
            · have e' : some g = some g6 := e
              simp only [Option.some.injEq] at e'
              omega
            · have e' : g6 = w5.heap.size + 1 := by simpa using e
              omega
          have b7 : Below w.heap.size w w7 := Below.grown (belowT bw (belowT b5 hbY)) hg6 (by omega) (fun k e => by have e' : some g = some k := e; simp only [Option.some.injEq] at e'; omega)
          obtain ⟨a7, c7, e7', Ra7, _⟩ := oN.recs
          simp only [Value.slice.injEq, List.length_append, List.length_singleton] at e7'
          obtain ⟨e71, e72, e73⟩ := e7'
          rw [← e71, ← e73] at Ra7
          have hbu := (ButI.refl N w7).step 7 (.slice (some ⟨g6, 0, none⟩) (X'.length + 1) cap6)
          have yn7 : Lay _ _ [.int .i64 s, .bool false, .int .i64 0, .int .i64 0, .int .i64 0, .int .i64 0, .slice none 0 0, .slice (some ⟨g6, 0, none⟩) (X'.length + 1) cap6] := xn7.set 7 (.slice (some ⟨g6, 0, none⟩) (X'.length + 1) cap6)
          have x28 := x27.butI hbu (by omega)
          have Rb : Answers (w7.setCell ⟨N, 7, none⟩ (.slice (some ⟨g6, 0, none⟩) (X'.length + 1) cap6)) (some ⟨g6, 0, none⟩) (X'.length + 1) cap6 (X' ++ [⟨ye, yt, some ⟨q5, 0, none⟩, yn, yn, yd⟩]) := by
            have R := Ra7.but hbu.but (.inr fun x e => by cases e; exact hg6b.1) (fun x hx => by
              rcases List.mem_append.1 hx with hx | hx
              · exact HXO.out x hx
              · obtain rfl : x = _ := by simpa using hx
                exact .inr fun x e => by cases e; simp at hq5 ⊢; omega)
            simpa using R
          have b8 := b7.trans (hbu.below (B := w.heap.size) (by omega))
          have offh : ∀ R, R ≤ w.heap.size + 1 + 1 → NV.off R ⟨s, false, zeroC, none, 0, 0, some ⟨g6, 0, none⟩, X'.length + 1, cap6, X' ++ [⟨ye, yt, some ⟨q5, 0, none⟩, yn, yn, yd⟩]⟩ := fun R hR => ⟨.inl rfl, .inr fun x e => by cases e; simp; omega, fun x hx => by
            rcases List.mem_append.1 hx with hx | hx
            · exact HNEW.out x hx R (by omega)
            · obtain rfl : x = _ := by simpa using hx
              exact .inr fun x e => by cases e; simp at hq5 ⊢; omega⟩
          clear e7 f7 xn7 x27 oN Ra7 e71 e72 e73 hown6 hg6 hat6 hlt6 hbY b5 own own5 hb5 bw x15 xn5 x25 x1 x2 x17 hn1 yn1 r0 r1 r2 r7 b7 hbu hnN hn2
          generalize w7.setCell ⟨N, 7, none⟩ (.slice (some ⟨g6, 0, none⟩) (X'.length + 1) cap6) = w8 at *
          have okh : NV.ok w8 ⟨s, false, zeroC, none, 0, 0, some ⟨g6, 0, none⟩, X'.length + 1, cap6, X' ++ [⟨ye, yt, some ⟨q5, 0, none⟩, yn, yn, yd⟩]⟩ := ⟨Ints.nilSlice w8, Rb⟩
          have bw := b8
          have x2 := x28
          obtain ⟨a0, a1, a2, a3, a4, a5, a6, a7'⟩ := yn7.eight
          have e0 := x2.cell 0 _ rfl
          have e1 := x2.cell 1 _ rfl
          have e2 := x2.cell 2 _ rfl
          have e3 := x2.cell 3 _ rfl
          have e4 := x2.cell 4 _ rfl
          have e5 := x2.cell 5 _ rfl
          have e6 := x2.cell 6 _ rfl
          have e7 := x2.cell 7 _ rfl
          have f0 := x2.ice 0
          have f1 := x2.ice 1
          have f2 := x2.ice 2
          have f3 := x2.ice 3
          have f4 := x2.ice 4
          have f5 := x2.ice 5
          have f6 := x2.ice 6
          have f7 := x2.ice 7
          go_wp2
          have zB := ((((((((x2.set 0 (.int .i64 s)).set 1 (.bool false)).set 2 (.int .i64 0)).set 3 (.int .i64 0)).set 4 (.int .i64 0)).set 5 (.int .i64 0)).set 6 (.slice none 0 0)).set 7 (.slice (some ⟨g6, 0, none⟩) (X'.length + 1) cap6))
          have hbut := (((((((((ButI.refl (w.heap.size + 1 + 1) w8).step 0 (.int .i64 s)).step 1 (.bool false)).step 2 (.int .i64 0)).step 3 (.int .i64 0)).step 4 (.int .i64 0)).step 5 (.int .i64 0)).step 6 (.slice none 0 0)).step 7 (.slice (some ⟨g6, 0, none⟩) (X'.length + 1) cap6))
          generalize ((((((((w8.setCell ⟨w.heap.size + 1 + 1, 0, none⟩ (.int .i64 s)).setCell ⟨w.heap.size + 1 + 1, 1, none⟩ (.bool false)).setCell ⟨w.heap.size + 1 + 1, 2, none⟩ (.int .i64 0)).setCell ⟨w.heap.size + 1 + 1, 3, none⟩ (.int .i64 0)).setCell ⟨w.heap.size + 1 + 1, 4, none⟩ (.int .i64 0)).setCell ⟨w.heap.size + 1 + 1, 5, none⟩ (.int .i64 0)).setCell ⟨w.heap.size + 1 + 1, 6, none⟩ (.slice none 0 0)).setCell ⟨w.heap.size + 1 + 1, 7, none⟩ (.slice (some ⟨g6, 0, none⟩) (X'.length + 1) cap6)) = w99 at *
          have z0 := zB.cell 0 _ rfl
          have z1 := zB.cell 1 _ rfl
          have z2 := zB.cell 2 _ rfl
          have z3 := zB.cell 3 _ rfl
          have z4 := zB.cell 4 _ rfl
          have z5 := zB.cell 5 _ rfl
          have z6 := zB.cell 6 _ rfl
          have z7 := zB.cell 7 _ rfl
          have o9 := okh.but hbut.but (offh _ (Nat.le_refl _))
          refine bodyPost_ret (v := .tuple #[.agg #[.int .i64 s, .bool false, .int .i64 0, .int .i64 0, .int .i64 0, .int .i64 0, .slice none 0 0, .slice (some ⟨g6, 0, none⟩) (X'.length + 1) cap6], .int .i64 0]) (by simp [results, Tryd.results7, go_sem, z0, z1, z2, z3, z4, z5, z6, z7]) rfl ⟨⟨⟨s, false, zeroC, none, 0, 0, some ⟨g6, 0, none⟩, X'.length + 1, cap6, X' ++ [⟨ye, yt, some ⟨q5, 0, none⟩, yn, yn, yd⟩]⟩, ?_, o9, fun R hR => offh R (by omega), ?_⟩, bw.trans (hbut.below (B := w.heap.size) (by omega))⟩
          · rw [HE'.out]; rfl
          · rw [HE'.out, ← HYP.out]
            simp only [NV.p, List.map_append]
            rw [HXP.out]
            rfl
  · have HE : Hid (na = (zeroN, er)) := hide (by
      have h0' : er ≠ 0 := by simpa using h0
      rw [HA.out]
      by_cases e : ch = 0
      · rw [if_neg (by simp [e])] at her ⊢
        rw [if_pos (by rw [her]; exact h0'), her]
      · rw [if_pos e] at her ⊢
        rw [her])
    have okh := NV.zero_ok w1
    have offh : ∀ R, R ≤ w.heap.size + 1 + 1 → NV.off R NV.zero := fun R _ => NV.zero_off R
    have e0 := x2.cell 0 _ rfl
    have e1 := x2.cell 1 _ rfl
    have e2 := x2.cell 2 _ rfl
    have e3 := x2.cell 3 _ rfl
    have e4 := x2.cell 4 _ rfl
    have e5 := x2.cell 5 _ rfl
    have e6 := x2.cell 6 _ rfl
    have e7 := x2.cell 7 _ rfl
    have f0 := x2.ice 0
    have f1 := x2.ice 1
    have f2 := x2.ice 2
    have f3 := x2.ice 3
    have f4 := x2.ice 4
    have f5 := x2.ice 5
    have f6 := x2.ice 6
    have f7 := x2.ice 7
    go_wp2
    have zB := ((((((((x2.set 0 (.int .i64 0)).set 1 (.bool false)).set 2 (.int .i64 0)).set 3 (.int .i64 0)).set 4 (.int .i64 0)).set 5 (.int .i64 0)).set 6 (.slice none 0 0)).set 7 (.slice none 0 0))
    have hbut := (((((((((ButI.refl (w.heap.size + 1 + 1) w1).step 0 (.int .i64 0)).step 1 (.bool false)).step 2 (.int .i64 0)).step 3 (.int .i64 0)).step 4 (.int .i64 0)).step 5 (.int .i64 0)).step 6 (.slice none 0 0)).step 7 (.slice none 0 0))
    generalize ((((((((w1.setCell ⟨w.heap.size + 1 + 1, 0, none⟩ (.int .i64 0)).setCell ⟨w.heap.size + 1 + 1, 1, none⟩ (.bool false)).setCell ⟨w.heap.size + 1 + 1, 2, none⟩ (.int .i64 0)).setCell ⟨w.heap.size + 1 + 1, 3, none⟩ (.int .i64 0)).setCell ⟨w.heap.size + 1 + 1, 4, none⟩ (.int .i64 0)).setCell ⟨w.heap.size + 1 + 1, 5, none⟩ (.int .i64 0)).setCell ⟨w.heap.size + 1 + 1, 6, none⟩ (.slice none 0 0)).setCell ⟨w.heap.size + 1 + 1, 7, none⟩ (.slice none 0 0)) = w99 at *
    have z0 := zB.cell 0 _ rfl
    have z1 := zB.cell 1 _ rfl
    have z2 := zB.cell 2 _ rfl
    have z3 := zB.cell 3 _ rfl
    have z4 := zB.cell 4 _ rfl
    have z5 := zB.cell 5 _ rfl
    have z6 := zB.cell 6 _ rfl
    have z7 := zB.cell 7 _ rfl
    have o9 := okh.but hbut.but (offh _ (Nat.le_refl _))
    refine bodyPost_ret (v := .tuple #[.agg #[.int .i64 0, .bool false, .int .i64 0, .int .i64 0, .int .i64 0, .int .i64 0, .slice none 0 0, .slice none 0 0], .int .i64 er]) (by simp [results, Tryd.results7, go_sem, z0, z1, z2, z3, z4, z5, z6, z7]) rfl ⟨⟨NV.zero, ?_, o9, fun R hR => offh R (by omega), ?_⟩, bw.trans (hbut.below (B := w.heap.size) (by omega))⟩
    · rw [HE.out]; rfl
    · rw [HE.out]; rfl

end Go.Proofs.YtklabieacbbbfaaDoor

/- The contract of puts; no condition. -/
namespace Go.Proofs.YtklabieacbbbfaaDoor
open Go.RowKit
set_option linter.unusedVariables false
set_option maxRecDepth 100000
set_option linter.unusedSimpArgs false

def cP (n : Int) : PC := ⟨5, 1, 0, 0, [n]⟩
theorem puts_c (n : Int) (hn : -9223372036854775808 ≤ n ∧ n ≤ 9223372036854775807) (w : World) : Calls Tryd.prog 27 #[.int .i64 n] w fun e w' => (∃ q, e = .returned (.agg #[.int .i64 5, .int .i64 1, .int .i64 0, .int .i64 0, .slice (some ⟨q, 0, none⟩) 1 1]) ∧ Ints w' (some ⟨q, 0, none⟩) 1 1 [n] ∧ w.heap.size ≤ q) ∧ Below w.heap.size w w' := by
  go_enter Tryd.func27, Tryd.ntmps27
  go_wp2
  have zB := (Lay.made w [.int .i64 5, .int .i64 1, .int .i64 0, .int .i64 0, .slice (some ⟨w.heap.size + 1, 0, none⟩) 1 1] 24).below (belowA (Below.refl _ _) (.cells #[.int .i64 n] 3))
  have i := Ints.of_row (l := [n]) (heap_new (w.alloc (.cells [.int .i64 5, .int .i64 1, .int .i64 0, .int .i64 0, .slice (some ⟨w.heap.size + 1, 0, none⟩) 1 1].toArray 24)) (.cells #[.int .i64 n] 3)) (by simp) (by simpa using hn) (n := 1) rfl
  simp only [World.size_alloc] at i
  have z0 := zB.cell 0 _ rfl
  have z1 := zB.cell 1 _ rfl
  have z2 := zB.cell 2 _ rfl
  have z3 := zB.cell 3 _ rfl
  have z4 := zB.cell 4 _ rfl
  exact bodyPost_ret (v := .agg #[.int .i64 5, .int .i64 1, .int .i64 0, .int .i64 0, .slice (some ⟨w.heap.size + 1, 0, none⟩) 1 1]) (by simp [results, Tryd.results27, go_sem, z0, z1, z2, z3, z4]) rfl
    ⟨⟨w.heap.size + 1, rfl, i, by omega⟩, by (repeat first | exact bel0 | assumption | refine bel1 ?_ | refine bel2 ?_ | refine bel3 ?_ | refine belowT ?_ (by assumption) | refine bel5 ?_ (by simp; try omega))⟩

end Go.Proofs.YtklabieacbbbfaaDoor
