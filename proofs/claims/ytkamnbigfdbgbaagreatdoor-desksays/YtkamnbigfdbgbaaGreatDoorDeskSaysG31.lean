/- DeskSays answers true for every desk, hand, command, answer and other desk, and leaves all that was there as it was; no condition but that the package's table is as its text lays it. -/
import Derived.Test.YtkamnbigfdbgbaaGreatDoorDeskSaysG29
import Derived.Test.YtkamnbigfdbgbaaGreatDoorDeskSaysG30
import Derived.Deep.RegionHeld3
import Derived.Deep.DeepCutAuto
namespace Go.Proofs.YtkamnbigfdbgbaaGreatDoor
open Go.RowKit
set_option linter.unusedVariables false
set_option maxRecDepth 100000
set_option linter.unusedSimpArgs false

/-- The boxes of the law's call. -/
theorem says_boxes (w : World) (D C A F : List Value) (s t u : TypeId) :
    let v := (((w.alloc (.cells D.toArray s)).alloc (.cells C.toArray t)).alloc (.cells A.toArray u)).alloc (.cells F.toArray s)
    Lay v w.heap.size D ∧ Lay v (w.heap.size + 1) C ∧ Lay v (w.heap.size + 1 + 1) A ∧ Lay v (w.heap.size + 1 + 1 + 1) F ∧ Below w.heap.size w v := by
  intro v
  have h0 := Lay.made w D s
  have h1 := Lay.made1 w (.cells D.toArray s) C t
  have h2 := Lay.made1 (w.alloc (.cells D.toArray s)) (.cells C.toArray t) A u
  have h3 := Lay.made1 ((w.alloc (.cells D.toArray s)).alloc (.cells C.toArray t)) (.cells A.toArray u) F s
  simp only [World.size_alloc] at h2 h3
  exact ⟨h0.below (w' := v) (by (repeat first | exact bel0 | assumption | refine bel1 ?_ | refine bel2 ?_ | refine bel3 ?_ | refine belowT ?_ (by assumption) | refine bel5 ?_ (by simp; try omega))), h1.below (w' := v) (by (repeat first | exact bel0 | assumption | refine bel1 ?_ | refine bel2 ?_ | refine bel3 ?_ | refine belowT ?_ (by assumption) | refine bel5 ?_ (by simp; try omega))), h2.below (w' := v) (by (repeat first | exact bel0 | assumption | refine bel1 ?_ | refine bel2 ?_ | refine bel3 ?_ | refine belowT ?_ (by assumption) | refine bel5 ?_ (by simp; try omega))), h3, by (repeat first | exact bel0 | assumption | refine bel1 ?_ | refine bel2 ?_ | refine bel3 ?_ | refine belowT ?_ (by assumption) | refine bel5 ?_ (by simp; try omega))⟩

set_option maxHeartbeats 32000000 in
theorem DeskSays_c (d : DV) (who : Int) (ca : Option Addr) (cn cc : Nat) (x : PC) (g : AV) (f : DV) (w : World) (hS : Shapes w) (h : d.ok w) (hx : Ints w ca cn cc x.d) (hg : g.ok w) (hf : f.ok w) :
    Calls Tryz.prog 3 #[d.v, .int .i64 who, cmdV ca cn cc x, g.v, f.v] w fun e w' => e = .returned (.bool true) ∧ Below w.heap.size w w' := by
  have G1 := hide (fun w' hS' (h' : d.ok w') hx' => Do_c d who ca cn cc x w' hS' h' hx')
  have G2 := hide (fun w' (h' : d.ok w') => CheckDesk_c d w' h')
  have G3 := hide (fun w' (h' : d.ok w') => DCheck_c d w' h')
  have G4 := hide (fun w' (h' : g.ok w') => DCheckAnswer_c g w' h')
  have G5 := hide (fun w' (h' : g.ok w') => CheckAnswerR_c g w' h')
  have G6 := hide (fun w' (h1 : d.ok w') (h2 : f.ok w') => DSame_c d f w' h1 h2)
  have G7 := hide (fun w' (h1 : d.ok w') (h2 : f.ok w') => SameDesk_c d f w' h1 h2)
  have G8 := hide (fun w' hx' => CheckCmd_c ca cn cc x w' hx')
  have G9 := hide (fun w' (h' : d.ok w') hx' (hd : checkD d.p = 0) j (hj : j < 3) (hc : checkC x = 0) => Done_c d j ca cn cc x w' h' hx' hd hj hc)
  have HE : Hid (doE d.p who x = if checkD d.p ≠ 0 then checkD d.p else if inB who 0 2 = false then 5 else checkC x) := hide rfl
  have HB := hide (fun (hb : doE d.p who x ≠ 0) => show doD d.p who x = (zeroD, zeroA, doE d.p who x) by simp [doD, hb])
  have HG := hide (fun (hb : doE d.p who x = 0) => show doD d.p who x = ((doneD d.p who x).1, (doneD d.p who x).2, 0) by simp [doD, hb])
  have HSrv := hide (fun w' hS' => served_c w' hS')
  generalize hpd : d.p = pd at *
  generalize hpg : checkA g.p = cg at *
  generalize hsm : sameD pd f.p = sm at *
  obtain ⟨za, zn, zc, Z, ka, kn, kc, bk, bh, bt⟩ := d
  obtain ⟨ya, yn, yc, Y, la, ln, lc, lk, lh, lt⟩ := f
  obtain ⟨ge, gt, ga, gn, gc, gd⟩ := g
  obtain ⟨xk, xz, xn, xt, xd⟩ := x
  dsimp only [DV.v, AV.v, cmdV] at *
  obtain ⟨xD, xC, xA, xF, bw⟩ := says_boxes w [.slice za zn zc, .slice ka kn kc, .int .i64 bh, .int .i64 bt] [.int .i64 xk, .int .i64 xz, .int .i64 xn, .int .i64 xt, .slice ca cn cc] [.int .i64 ge, .int .i64 gt, .slice ga gn gc] [.slice ya yn yc, .slice la ln lc, .int .i64 lh, .int .i64 lt] 27 29 32
  go_enter Tryz.func3, Tryz.ntmps3
  go_upto_region 1 with fail
  have ok1 := h.below bw (Nat.le_refl _)
  have ok2 := hf.below bw (Nat.le_refl _)
  have ak1 := AV.ok.below hg bw (Nat.le_refl _)
  have hx1 := hx.below bw (Nat.le_refl _)
  have S1 := hS.below bw
  clear h hf hg hx hS
  generalize (((w.alloc (.cells [.slice za zn zc, .slice ka kn kc, .int .i64 bh, .int .i64 bt].toArray 27)).alloc (.cells [.int .i64 xk, .int .i64 xz, .int .i64 xn, .int .i64 xt, .slice ca cn cc].toArray 29)).alloc (.cells [.int .i64 ge, .int .i64 gt, .slice ga gn gc].toArray 32)).alloc (.cells [.slice ya yn yc, .slice la ln lc, .int .i64 lh, .int .i64 lt].toArray 27) = w1 at *
  have b0 := xD.cell 0 _ rfl
  have b1 := xD.cell 1 _ rfl
  have b2 := xD.cell 2 _ rfl
  have b3 := xD.cell 3 _ rfl
  have q0 := xC.cell 0 _ rfl
  have q1 := xC.cell 1 _ rfl
  have q2 := xC.cell 2 _ rfl
  have q3 := xC.cell 3 _ rfl
  have q4 := xC.cell 4 _ rfl
  go_wp2_with fail
  refine (G1.out _ S1 ok1 hx1).mono ?_
  rintro e v2 ⟨⟨⟨pa, pn, pc, P4, qa, qn, qc, qk, qh, qt⟩, ⟨ee, et, ea, en, ec, ed⟩, rfl, ok3, ak3, _, _, dp, ap⟩, hb⟩
  have DPH := hide dp
  have APH := hide ap
  clear dp ap G1
  unfold DV.v AV.v
  dsimp only
  go_upto_region 2 with fail
  obtain ⟨z3, y3, bn⟩ := two_boxes v2 [.slice pa pn pc, .slice qa qn qc, .int .i64 qh, .int .i64 qt] [.int .i64 ee, .int .i64 et, .slice ea en ec] 27 32
  have bvn := belowT hb bn
  replace ok1 := ok1.below bvn (Nat.le_refl _)
  replace ok2 := ok2.below bvn (Nat.le_refl _)
  replace ak1 := AV.ok.below ak1 bvn (Nat.le_refl _)
  replace hx1 := hx1.below bvn (Nat.le_refl _)
  replace S1 := S1.below bvn
  replace xD := xD.below bvn
  replace xC := xC.below bvn
  replace xA := xA.below bvn
  replace xF := xF.below bvn
  replace bw := belowT bw bvn
  replace ok3 := ok3.below bn (Nat.le_refl _)
  replace ak3 := AV.ok.below ak3 bn (Nat.le_refl _)
  clear bn bvn hb b0 b1 b2 b3 q0 q1 q2 q3 q4
  generalize v2.heap.size = B3 at *
  generalize (v2.alloc (.cells [.slice pa pn pc, .slice qa qn qc, .int .i64 qh, .int .i64 qt].toArray 27)).alloc (.cells [.int .i64 ee, .int .i64 et, .slice ea en ec].toArray 32) = w2 at *
  generalize hrr : doD pd who ⟨xk, xz, xn, xt, xd⟩ = rr at *
  obtain ⟨rD, rA, re⟩ := rr
  dsimp only at *
  have b0 := xD.cell 0 _ rfl
  have b1 := xD.cell 1 _ rfl
  have b2 := xD.cell 2 _ rfl
  have b3 := xD.cell 3 _ rfl
  go_wp2_with fail
  refine (G2.out _ ok1).mono ?_
  rintro e w3 ⟨rfl, hb3⟩
  replace ok1 := ok1.below hb3 (Nat.le_refl _)
  replace ok2 := ok2.below hb3 (Nat.le_refl _)
  replace ok3 := ok3.below hb3 (Nat.le_refl _)
  replace ak1 := AV.ok.below ak1 hb3 (Nat.le_refl _)
  replace ak3 := AV.ok.below ak3 hb3 (Nat.le_refl _)
  replace hx1 := hx1.below hb3 (Nat.le_refl _)
  replace S1 := S1.below hb3
  replace xD := xD.below hb3
  replace xC := xC.below hb3
  replace xA := xA.below hb3
  replace xF := xF.below hb3
  replace z3 := z3.below hb3
  replace y3 := y3.below hb3
  replace bw := belowT bw hb3
  clear hb3 b0 b1 b2 b3 G2
  have b0 := xD.cell 0 _ rfl
  have b1 := xD.cell 1 _ rfl
  have b2 := xD.cell 2 _ rfl
  have b3 := xD.cell 3 _ rfl
  have p0 := xA.cell 0 _ rfl
  have p1 := xA.cell 1 _ rfl
  have p2 := xA.cell 2 _ rfl
  have q0 := xF.cell 0 _ rfl
  have q1 := xF.cell 1 _ rfl
  have q2 := xF.cell 2 _ rfl
  have q3 := xF.cell 3 _ rfl
  generalize hcd : checkD pd = cd at *
  have t1 : (cd != cd) = false := by simp
  have t2 : (cg != cg) = false := by simp
  have t3 : (sm != sm) = false := by simp
  go_upto_region 3 with fail
  go_cut [56] (fun v wx => v = .bool false ∧ Below w3.heap.size w3 wx)
  case first =>
    go_region_held3 (fun w' => w'.cell? ⟨w.heap.size, 0, none⟩ = some (.slice za zn zc) ∧ w'.cell? ⟨w.heap.size, 1, none⟩ = some (.slice ka kn kc) ∧ w'.cell? ⟨w.heap.size, 2, none⟩ = some (.int .i64 bh) ∧ w'.cell? ⟨w.heap.size, 3, none⟩ = some (.int .i64 bt) ∧ w'.cell? ⟨w.heap.size + 1 + 1, 0, none⟩ = some (.int .i64 ge) ∧ w'.cell? ⟨w.heap.size + 1 + 1, 1, none⟩ = some (.int .i64 gt) ∧ w'.cell? ⟨w.heap.size + 1 + 1, 2, none⟩ = some (.slice ga gn gc) ∧ w'.cell? ⟨w.heap.size + 1 + 1 + 1, 0, none⟩ = some (.slice ya yn yc) ∧ w'.cell? ⟨w.heap.size + 1 + 1 + 1, 1, none⟩ = some (.slice la ln lc) ∧ w'.cell? ⟨w.heap.size + 1 + 1 + 1, 2, none⟩ = some (.int .i64 lh) ∧ w'.cell? ⟨w.heap.size + 1 + 1 + 1, 3, none⟩ = some (.int .i64 lt)) ((first | (go_simp; done) | (simp [*, World.cell?_alloc_at, World.cell?_alloc_past, World.cell?_alloc_some, World.cell?_setCell_far]; done)))
      (first
        | (go_at_call 6; refine (HSrv.out _ (by refine S1.below ?_; (repeat first | exact bel0 | assumption | refine bel1 ?_ | refine bel2 ?_ | refine bel3 ?_ | refine belowT ?_ (by assumption) | refine bel5 ?_ (by simp; try omega)))).mono ?_; rintro e w9 ⟨rfl, hb9⟩; (have s0 := keepc hb9 (p := ⟨w.heap.size, 0, none⟩) (u := .slice za zn zc) (by (first | (go_simp; done) | (simp [*, World.cell?_alloc_at, World.cell?_alloc_past, World.cell?_alloc_some, World.cell?_setCell_far]; done)))); (have s1 := keepc hb9 (p := ⟨w.heap.size, 1, none⟩) (u := .slice ka kn kc) (by (first | (go_simp; done) | (simp [*, World.cell?_alloc_at, World.cell?_alloc_past, World.cell?_alloc_some, World.cell?_setCell_far]; done)))); (have s2 := keepc hb9 (p := ⟨w.heap.size, 2, none⟩) (u := .int .i64 bh) (by (first | (go_simp; done) | (simp [*, World.cell?_alloc_at, World.cell?_alloc_past, World.cell?_alloc_some, World.cell?_setCell_far]; done)))); (have s3 := keepc hb9 (p := ⟨w.heap.size, 3, none⟩) (u := .int .i64 bt) (by (first | (go_simp; done) | (simp [*, World.cell?_alloc_at, World.cell?_alloc_past, World.cell?_alloc_some, World.cell?_setCell_far]; done)))); (have s4 := keepc hb9 (p := ⟨w.heap.size + 1 + 1, 0, none⟩) (u := .int .i64 ge) (by (first | (go_simp; done) | (simp [*, World.cell?_alloc_at, World.cell?_alloc_past, World.cell?_alloc_some, World.cell?_setCell_far]; done)))); (have s5 := keepc hb9 (p := ⟨w.heap.size + 1 + 1, 1, none⟩) (u := .int .i64 gt) (by (first | (go_simp; done) | (simp [*, World.cell?_alloc_at, World.cell?_alloc_past, World.cell?_alloc_some, World.cell?_setCell_far]; done)))); (have s6 := keepc hb9 (p := ⟨w.heap.size + 1 + 1, 2, none⟩) (u := .slice ga gn gc) (by (first | (go_simp; done) | (simp [*, World.cell?_alloc_at, World.cell?_alloc_past, World.cell?_alloc_some, World.cell?_setCell_far]; done)))); (have s7 := keepc hb9 (p := ⟨w.heap.size + 1 + 1 + 1, 0, none⟩) (u := .slice ya yn yc) (by (first | (go_simp; done) | (simp [*, World.cell?_alloc_at, World.cell?_alloc_past, World.cell?_alloc_some, World.cell?_setCell_far]; done)))); (have s8 := keepc hb9 (p := ⟨w.heap.size + 1 + 1 + 1, 1, none⟩) (u := .slice la ln lc) (by (first | (go_simp; done) | (simp [*, World.cell?_alloc_at, World.cell?_alloc_past, World.cell?_alloc_some, World.cell?_setCell_far]; done)))); (have s9 := keepc hb9 (p := ⟨w.heap.size + 1 + 1 + 1, 2, none⟩) (u := .int .i64 lh) (by (first | (go_simp; done) | (simp [*, World.cell?_alloc_at, World.cell?_alloc_past, World.cell?_alloc_some, World.cell?_setCell_far]; done)))); (have s10 := keepc hb9 (p := ⟨w.heap.size + 1 + 1 + 1, 3, none⟩) (u := .int .i64 lt) (by (first | (go_simp; done) | (simp [*, World.cell?_alloc_at, World.cell?_alloc_past, World.cell?_alloc_some, World.cell?_setCell_far]; done)))))
        | (go_at_call 7; refine (G3.out _ (by refine DV.ok.below ok1 (B := w3.heap.size) ?_ (Nat.le_refl _); (repeat first | exact bel0 | assumption | refine bel1 ?_ | refine bel2 ?_ | refine bel3 ?_ | refine belowT ?_ (by assumption) | refine bel5 ?_ (by simp; try omega)))).mono ?_; rintro e w9 ⟨rfl, hb9⟩; (have s0 := keepc hb9 (p := ⟨w.heap.size, 0, none⟩) (u := .slice za zn zc) (by (first | (go_simp; done) | (simp [*, World.cell?_alloc_at, World.cell?_alloc_past, World.cell?_alloc_some, World.cell?_setCell_far]; done)))); (have s1 := keepc hb9 (p := ⟨w.heap.size, 1, none⟩) (u := .slice ka kn kc) (by (first | (go_simp; done) | (simp [*, World.cell?_alloc_at, World.cell?_alloc_past, World.cell?_alloc_some, World.cell?_setCell_far]; done)))); (have s2 := keepc hb9 (p := ⟨w.heap.size, 2, none⟩) (u := .int .i64 bh) (by (first | (go_simp; done) | (simp [*, World.cell?_alloc_at, World.cell?_alloc_past, World.cell?_alloc_some, World.cell?_setCell_far]; done)))); (have s3 := keepc hb9 (p := ⟨w.heap.size, 3, none⟩) (u := .int .i64 bt) (by (first | (go_simp; done) | (simp [*, World.cell?_alloc_at, World.cell?_alloc_past, World.cell?_alloc_some, World.cell?_setCell_far]; done)))); (have s4 := keepc hb9 (p := ⟨w.heap.size + 1 + 1, 0, none⟩) (u := .int .i64 ge) (by (first | (go_simp; done) | (simp [*, World.cell?_alloc_at, World.cell?_alloc_past, World.cell?_alloc_some, World.cell?_setCell_far]; done)))); (have s5 := keepc hb9 (p := ⟨w.heap.size + 1 + 1, 1, none⟩) (u := .int .i64 gt) (by (first | (go_simp; done) | (simp [*, World.cell?_alloc_at, World.cell?_alloc_past, World.cell?_alloc_some, World.cell?_setCell_far]; done)))); (have s6 := keepc hb9 (p := ⟨w.heap.size + 1 + 1, 2, none⟩) (u := .slice ga gn gc) (by (first | (go_simp; done) | (simp [*, World.cell?_alloc_at, World.cell?_alloc_past, World.cell?_alloc_some, World.cell?_setCell_far]; done)))); (have s7 := keepc hb9 (p := ⟨w.heap.size + 1 + 1 + 1, 0, none⟩) (u := .slice ya yn yc) (by (first | (go_simp; done) | (simp [*, World.cell?_alloc_at, World.cell?_alloc_past, World.cell?_alloc_some, World.cell?_setCell_far]; done)))); (have s8 := keepc hb9 (p := ⟨w.heap.size + 1 + 1 + 1, 1, none⟩) (u := .slice la ln lc) (by (first | (go_simp; done) | (simp [*, World.cell?_alloc_at, World.cell?_alloc_past, World.cell?_alloc_some, World.cell?_setCell_far]; done)))); (have s9 := keepc hb9 (p := ⟨w.heap.size + 1 + 1 + 1, 2, none⟩) (u := .int .i64 lh) (by (first | (go_simp; done) | (simp [*, World.cell?_alloc_at, World.cell?_alloc_past, World.cell?_alloc_some, World.cell?_setCell_far]; done)))); (have s10 := keepc hb9 (p := ⟨w.heap.size + 1 + 1 + 1, 3, none⟩) (u := .int .i64 lt) (by (first | (go_simp; done) | (simp [*, World.cell?_alloc_at, World.cell?_alloc_past, World.cell?_alloc_some, World.cell?_setCell_far]; done)))))
        | (go_at_call 8; refine (G4.out _ (by refine AV.ok.below ak1 (B := w3.heap.size) ?_ (Nat.le_refl _); (repeat first | exact bel0 | assumption | refine bel1 ?_ | refine bel2 ?_ | refine bel3 ?_ | refine belowT ?_ (by assumption) | refine bel5 ?_ (by simp; try omega)))).mono ?_; rintro e w9 ⟨rfl, hb9⟩; (have s0 := keepc hb9 (p := ⟨w.heap.size, 0, none⟩) (u := .slice za zn zc) (by (first | (go_simp; done) | (simp [*, World.cell?_alloc_at, World.cell?_alloc_past, World.cell?_alloc_some, World.cell?_setCell_far]; done)))); (have s1 := keepc hb9 (p := ⟨w.heap.size, 1, none⟩) (u := .slice ka kn kc) (by (first | (go_simp; done) | (simp [*, World.cell?_alloc_at, World.cell?_alloc_past, World.cell?_alloc_some, World.cell?_setCell_far]; done)))); (have s2 := keepc hb9 (p := ⟨w.heap.size, 2, none⟩) (u := .int .i64 bh) (by (first | (go_simp; done) | (simp [*, World.cell?_alloc_at, World.cell?_alloc_past, World.cell?_alloc_some, World.cell?_setCell_far]; done)))); (have s3 := keepc hb9 (p := ⟨w.heap.size, 3, none⟩) (u := .int .i64 bt) (by (first | (go_simp; done) | (simp [*, World.cell?_alloc_at, World.cell?_alloc_past, World.cell?_alloc_some, World.cell?_setCell_far]; done)))); (have s4 := keepc hb9 (p := ⟨w.heap.size + 1 + 1, 0, none⟩) (u := .int .i64 ge) (by (first | (go_simp; done) | (simp [*, World.cell?_alloc_at, World.cell?_alloc_past, World.cell?_alloc_some, World.cell?_setCell_far]; done)))); (have s5 := keepc hb9 (p := ⟨w.heap.size + 1 + 1, 1, none⟩) (u := .int .i64 gt) (by (first | (go_simp; done) | (simp [*, World.cell?_alloc_at, World.cell?_alloc_past, World.cell?_alloc_some, World.cell?_setCell_far]; done)))); (have s6 := keepc hb9 (p := ⟨w.heap.size + 1 + 1, 2, none⟩) (u := .slice ga gn gc) (by (first | (go_simp; done) | (simp [*, World.cell?_alloc_at, World.cell?_alloc_past, World.cell?_alloc_some, World.cell?_setCell_far]; done)))); (have s7 := keepc hb9 (p := ⟨w.heap.size + 1 + 1 + 1, 0, none⟩) (u := .slice ya yn yc) (by (first | (go_simp; done) | (simp [*, World.cell?_alloc_at, World.cell?_alloc_past, World.cell?_alloc_some, World.cell?_setCell_far]; done)))); (have s8 := keepc hb9 (p := ⟨w.heap.size + 1 + 1 + 1, 1, none⟩) (u := .slice la ln lc) (by (first | (go_simp; done) | (simp [*, World.cell?_alloc_at, World.cell?_alloc_past, World.cell?_alloc_some, World.cell?_setCell_far]; done)))); (have s9 := keepc hb9 (p := ⟨w.heap.size + 1 + 1 + 1, 2, none⟩) (u := .int .i64 lh) (by (first | (go_simp; done) | (simp [*, World.cell?_alloc_at, World.cell?_alloc_past, World.cell?_alloc_some, World.cell?_setCell_far]; done)))); (have s10 := keepc hb9 (p := ⟨w.heap.size + 1 + 1 + 1, 3, none⟩) (u := .int .i64 lt) (by (first | (go_simp; done) | (simp [*, World.cell?_alloc_at, World.cell?_alloc_past, World.cell?_alloc_some, World.cell?_setCell_far]; done)))))
        | (go_at_call 9; refine (G5.out _ (by refine AV.ok.below ak1 (B := w3.heap.size) ?_ (Nat.le_refl _); (repeat first | exact bel0 | assumption | refine bel1 ?_ | refine bel2 ?_ | refine bel3 ?_ | refine belowT ?_ (by assumption) | refine bel5 ?_ (by simp; try omega)))).mono ?_; rintro e w9 ⟨rfl, hb9⟩; (have s0 := keepc hb9 (p := ⟨w.heap.size, 0, none⟩) (u := .slice za zn zc) (by (first | (go_simp; done) | (simp [*, World.cell?_alloc_at, World.cell?_alloc_past, World.cell?_alloc_some, World.cell?_setCell_far]; done)))); (have s1 := keepc hb9 (p := ⟨w.heap.size, 1, none⟩) (u := .slice ka kn kc) (by (first | (go_simp; done) | (simp [*, World.cell?_alloc_at, World.cell?_alloc_past, World.cell?_alloc_some, World.cell?_setCell_far]; done)))); (have s2 := keepc hb9 (p := ⟨w.heap.size, 2, none⟩) (u := .int .i64 bh) (by (first | (go_simp; done) | (simp [*, World.cell?_alloc_at, World.cell?_alloc_past, World.cell?_alloc_some, World.cell?_setCell_far]; done)))); (have s3 := keepc hb9 (p := ⟨w.heap.size, 3, none⟩) (u := .int .i64 bt) (by (first | (go_simp; done) | (simp [*, World.cell?_alloc_at, World.cell?_alloc_past, World.cell?_alloc_some, World.cell?_setCell_far]; done)))); (have s4 := keepc hb9 (p := ⟨w.heap.size + 1 + 1, 0, none⟩) (u := .int .i64 ge) (by (first | (go_simp; done) | (simp [*, World.cell?_alloc_at, World.cell?_alloc_past, World.cell?_alloc_some, World.cell?_setCell_far]; done)))); (have s5 := keepc hb9 (p := ⟨w.heap.size + 1 + 1, 1, none⟩) (u := .int .i64 gt) (by (first | (go_simp; done) | (simp [*, World.cell?_alloc_at, World.cell?_alloc_past, World.cell?_alloc_some, World.cell?_setCell_far]; done)))); (have s6 := keepc hb9 (p := ⟨w.heap.size + 1 + 1, 2, none⟩) (u := .slice ga gn gc) (by (first | (go_simp; done) | (simp [*, World.cell?_alloc_at, World.cell?_alloc_past, World.cell?_alloc_some, World.cell?_setCell_far]; done)))); (have s7 := keepc hb9 (p := ⟨w.heap.size + 1 + 1 + 1, 0, none⟩) (u := .slice ya yn yc) (by (first | (go_simp; done) | (simp [*, World.cell?_alloc_at, World.cell?_alloc_past, World.cell?_alloc_some, World.cell?_setCell_far]; done)))); (have s8 := keepc hb9 (p := ⟨w.heap.size + 1 + 1 + 1, 1, none⟩) (u := .slice la ln lc) (by (first | (go_simp; done) | (simp [*, World.cell?_alloc_at, World.cell?_alloc_past, World.cell?_alloc_some, World.cell?_setCell_far]; done)))); (have s9 := keepc hb9 (p := ⟨w.heap.size + 1 + 1 + 1, 2, none⟩) (u := .int .i64 lh) (by (first | (go_simp; done) | (simp [*, World.cell?_alloc_at, World.cell?_alloc_past, World.cell?_alloc_some, World.cell?_setCell_far]; done)))); (have s10 := keepc hb9 (p := ⟨w.heap.size + 1 + 1 + 1, 3, none⟩) (u := .int .i64 lt) (by (first | (go_simp; done) | (simp [*, World.cell?_alloc_at, World.cell?_alloc_past, World.cell?_alloc_some, World.cell?_setCell_far]; done)))))
        | (go_at_call 10; refine (G6.out _ (by refine DV.ok.below ok1 (B := w3.heap.size) ?_ (Nat.le_refl _); (repeat first | exact bel0 | assumption | refine bel1 ?_ | refine bel2 ?_ | refine bel3 ?_ | refine belowT ?_ (by assumption) | refine bel5 ?_ (by simp; try omega))) (by refine DV.ok.below ok2 (B := w3.heap.size) ?_ (Nat.le_refl _); (repeat first | exact bel0 | assumption | refine bel1 ?_ | refine bel2 ?_ | refine bel3 ?_ | refine belowT ?_ (by assumption) | refine bel5 ?_ (by simp; try omega)))).mono ?_; rintro e w9 ⟨rfl, hb9⟩; (have s0 := keepc hb9 (p := ⟨w.heap.size, 0, none⟩) (u := .slice za zn zc) (by (first | (go_simp; done) | (simp [*, World.cell?_alloc_at, World.cell?_alloc_past, World.cell?_alloc_some, World.cell?_setCell_far]; done)))); (have s1 := keepc hb9 (p := ⟨w.heap.size, 1, none⟩) (u := .slice ka kn kc) (by (first | (go_simp; done) | (simp [*, World.cell?_alloc_at, World.cell?_alloc_past, World.cell?_alloc_some, World.cell?_setCell_far]; done)))); (have s2 := keepc hb9 (p := ⟨w.heap.size, 2, none⟩) (u := .int .i64 bh) (by (first | (go_simp; done) | (simp [*, World.cell?_alloc_at, World.cell?_alloc_past, World.cell?_alloc_some, World.cell?_setCell_far]; done)))); (have s3 := keepc hb9 (p := ⟨w.heap.size, 3, none⟩) (u := .int .i64 bt) (by (first | (go_simp; done) | (simp [*, World.cell?_alloc_at, World.cell?_alloc_past, World.cell?_alloc_some, World.cell?_setCell_far]; done)))); (have s4 := keepc hb9 (p := ⟨w.heap.size + 1 + 1, 0, none⟩) (u := .int .i64 ge) (by (first | (go_simp; done) | (simp [*, World.cell?_alloc_at, World.cell?_alloc_past, World.cell?_alloc_some, World.cell?_setCell_far]; done)))); (have s5 := keepc hb9 (p := ⟨w.heap.size + 1 + 1, 1, none⟩) (u := .int .i64 gt) (by (first | (go_simp; done) | (simp [*, World.cell?_alloc_at, World.cell?_alloc_past, World.cell?_alloc_some, World.cell?_setCell_far]; done)))); (have s6 := keepc hb9 (p := ⟨w.heap.size + 1 + 1, 2, none⟩) (u := .slice ga gn gc) (by (first | (go_simp; done) | (simp [*, World.cell?_alloc_at, World.cell?_alloc_past, World.cell?_alloc_some, World.cell?_setCell_far]; done)))); (have s7 := keepc hb9 (p := ⟨w.heap.size + 1 + 1 + 1, 0, none⟩) (u := .slice ya yn yc) (by (first | (go_simp; done) | (simp [*, World.cell?_alloc_at, World.cell?_alloc_past, World.cell?_alloc_some, World.cell?_setCell_far]; done)))); (have s8 := keepc hb9 (p := ⟨w.heap.size + 1 + 1 + 1, 1, none⟩) (u := .slice la ln lc) (by (first | (go_simp; done) | (simp [*, World.cell?_alloc_at, World.cell?_alloc_past, World.cell?_alloc_some, World.cell?_setCell_far]; done)))); (have s9 := keepc hb9 (p := ⟨w.heap.size + 1 + 1 + 1, 2, none⟩) (u := .int .i64 lh) (by (first | (go_simp; done) | (simp [*, World.cell?_alloc_at, World.cell?_alloc_past, World.cell?_alloc_some, World.cell?_setCell_far]; done)))); (have s10 := keepc hb9 (p := ⟨w.heap.size + 1 + 1 + 1, 3, none⟩) (u := .int .i64 lt) (by (first | (go_simp; done) | (simp [*, World.cell?_alloc_at, World.cell?_alloc_past, World.cell?_alloc_some, World.cell?_setCell_far]; done)))))
        | (go_at_call_of 11 (Value.slice ya yn yc); refine (G7.out _ (by refine DV.ok.below ok1 (B := w3.heap.size) ?_ (Nat.le_refl _); (repeat first | exact bel0 | assumption | refine bel1 ?_ | refine bel2 ?_ | refine bel3 ?_ | refine belowT ?_ (by assumption) | refine bel5 ?_ (by simp; try omega))) (by refine DV.ok.below ok2 (B := w3.heap.size) ?_ (Nat.le_refl _); (repeat first | exact bel0 | assumption | refine bel1 ?_ | refine bel2 ?_ | refine bel3 ?_ | refine belowT ?_ (by assumption) | refine bel5 ?_ (by simp; try omega)))).mono ?_; rintro e w9 ⟨rfl, hb9⟩; (have s0 := keepc hb9 (p := ⟨w.heap.size, 0, none⟩) (u := .slice za zn zc) (by (first | (go_simp; done) | (simp [*, World.cell?_alloc_at, World.cell?_alloc_past, World.cell?_alloc_some, World.cell?_setCell_far]; done)))); (have s1 := keepc hb9 (p := ⟨w.heap.size, 1, none⟩) (u := .slice ka kn kc) (by (first | (go_simp; done) | (simp [*, World.cell?_alloc_at, World.cell?_alloc_past, World.cell?_alloc_some, World.cell?_setCell_far]; done)))); (have s2 := keepc hb9 (p := ⟨w.heap.size, 2, none⟩) (u := .int .i64 bh) (by (first | (go_simp; done) | (simp [*, World.cell?_alloc_at, World.cell?_alloc_past, World.cell?_alloc_some, World.cell?_setCell_far]; done)))); (have s3 := keepc hb9 (p := ⟨w.heap.size, 3, none⟩) (u := .int .i64 bt) (by (first | (go_simp; done) | (simp [*, World.cell?_alloc_at, World.cell?_alloc_past, World.cell?_alloc_some, World.cell?_setCell_far]; done)))); (have s4 := keepc hb9 (p := ⟨w.heap.size + 1 + 1, 0, none⟩) (u := .int .i64 ge) (by (first | (go_simp; done) | (simp [*, World.cell?_alloc_at, World.cell?_alloc_past, World.cell?_alloc_some, World.cell?_setCell_far]; done)))); (have s5 := keepc hb9 (p := ⟨w.heap.size + 1 + 1, 1, none⟩) (u := .int .i64 gt) (by (first | (go_simp; done) | (simp [*, World.cell?_alloc_at, World.cell?_alloc_past, World.cell?_alloc_some, World.cell?_setCell_far]; done)))); (have s6 := keepc hb9 (p := ⟨w.heap.size + 1 + 1, 2, none⟩) (u := .slice ga gn gc) (by (first | (go_simp; done) | (simp [*, World.cell?_alloc_at, World.cell?_alloc_past, World.cell?_alloc_some, World.cell?_setCell_far]; done)))); (have s7 := keepc hb9 (p := ⟨w.heap.size + 1 + 1 + 1, 0, none⟩) (u := .slice ya yn yc) (by (first | (go_simp; done) | (simp [*, World.cell?_alloc_at, World.cell?_alloc_past, World.cell?_alloc_some, World.cell?_setCell_far]; done)))); (have s8 := keepc hb9 (p := ⟨w.heap.size + 1 + 1 + 1, 1, none⟩) (u := .slice la ln lc) (by (first | (go_simp; done) | (simp [*, World.cell?_alloc_at, World.cell?_alloc_past, World.cell?_alloc_some, World.cell?_setCell_far]; done)))); (have s9 := keepc hb9 (p := ⟨w.heap.size + 1 + 1 + 1, 2, none⟩) (u := .int .i64 lh) (by (first | (go_simp; done) | (simp [*, World.cell?_alloc_at, World.cell?_alloc_past, World.cell?_alloc_some, World.cell?_setCell_far]; done)))); (have s10 := keepc hb9 (p := ⟨w.heap.size + 1 + 1 + 1, 3, none⟩) (u := .int .i64 lt) (by (first | (go_simp; done) | (simp [*, World.cell?_alloc_at, World.cell?_alloc_past, World.cell?_alloc_some, World.cell?_setCell_far]; done)))))
        | (go_at_call 12; refine (DNew_c _).mono ?_; rintro e w9 ⟨⟨dN, rfl, oN, _, pN⟩, hb9⟩; (have s0 := keepc hb9 (p := ⟨w.heap.size, 0, none⟩) (u := .slice za zn zc) (by (first | (go_simp; done) | (simp [*, World.cell?_alloc_at, World.cell?_alloc_past, World.cell?_alloc_some, World.cell?_setCell_far]; done)))); (have s1 := keepc hb9 (p := ⟨w.heap.size, 1, none⟩) (u := .slice ka kn kc) (by (first | (go_simp; done) | (simp [*, World.cell?_alloc_at, World.cell?_alloc_past, World.cell?_alloc_some, World.cell?_setCell_far]; done)))); (have s2 := keepc hb9 (p := ⟨w.heap.size, 2, none⟩) (u := .int .i64 bh) (by (first | (go_simp; done) | (simp [*, World.cell?_alloc_at, World.cell?_alloc_past, World.cell?_alloc_some, World.cell?_setCell_far]; done)))); (have s3 := keepc hb9 (p := ⟨w.heap.size, 3, none⟩) (u := .int .i64 bt) (by (first | (go_simp; done) | (simp [*, World.cell?_alloc_at, World.cell?_alloc_past, World.cell?_alloc_some, World.cell?_setCell_far]; done)))); (have s4 := keepc hb9 (p := ⟨w.heap.size + 1 + 1, 0, none⟩) (u := .int .i64 ge) (by (first | (go_simp; done) | (simp [*, World.cell?_alloc_at, World.cell?_alloc_past, World.cell?_alloc_some, World.cell?_setCell_far]; done)))); (have s5 := keepc hb9 (p := ⟨w.heap.size + 1 + 1, 1, none⟩) (u := .int .i64 gt) (by (first | (go_simp; done) | (simp [*, World.cell?_alloc_at, World.cell?_alloc_past, World.cell?_alloc_some, World.cell?_setCell_far]; done)))); (have s6 := keepc hb9 (p := ⟨w.heap.size + 1 + 1, 2, none⟩) (u := .slice ga gn gc) (by (first | (go_simp; done) | (simp [*, World.cell?_alloc_at, World.cell?_alloc_past, World.cell?_alloc_some, World.cell?_setCell_far]; done)))); (have s7 := keepc hb9 (p := ⟨w.heap.size + 1 + 1 + 1, 0, none⟩) (u := .slice ya yn yc) (by (first | (go_simp; done) | (simp [*, World.cell?_alloc_at, World.cell?_alloc_past, World.cell?_alloc_some, World.cell?_setCell_far]; done)))); (have s8 := keepc hb9 (p := ⟨w.heap.size + 1 + 1 + 1, 1, none⟩) (u := .slice la ln lc) (by (first | (go_simp; done) | (simp [*, World.cell?_alloc_at, World.cell?_alloc_past, World.cell?_alloc_some, World.cell?_setCell_far]; done)))); (have s9 := keepc hb9 (p := ⟨w.heap.size + 1 + 1 + 1, 2, none⟩) (u := .int .i64 lh) (by (first | (go_simp; done) | (simp [*, World.cell?_alloc_at, World.cell?_alloc_past, World.cell?_alloc_some, World.cell?_setCell_far]; done)))); (have s10 := keepc hb9 (p := ⟨w.heap.size + 1 + 1 + 1, 3, none⟩) (u := .int .i64 lt) (by (first | (go_simp; done) | (simp [*, World.cell?_alloc_at, World.cell?_alloc_past, World.cell?_alloc_some, World.cell?_setCell_far]; done)))); (have PN := hide pN); (clear pN))
        | (go_at_call 13; refine (FreshDesk_c _).mono ?_; rintro e w9 ⟨⟨dF, rfl, oF, pF⟩, hb9⟩; (have s0 := keepc hb9 (p := ⟨w.heap.size, 0, none⟩) (u := .slice za zn zc) (by (first | (go_simp; done) | (simp [*, World.cell?_alloc_at, World.cell?_alloc_past, World.cell?_alloc_some, World.cell?_setCell_far]; done)))); (have s1 := keepc hb9 (p := ⟨w.heap.size, 1, none⟩) (u := .slice ka kn kc) (by (first | (go_simp; done) | (simp [*, World.cell?_alloc_at, World.cell?_alloc_past, World.cell?_alloc_some, World.cell?_setCell_far]; done)))); (have s2 := keepc hb9 (p := ⟨w.heap.size, 2, none⟩) (u := .int .i64 bh) (by (first | (go_simp; done) | (simp [*, World.cell?_alloc_at, World.cell?_alloc_past, World.cell?_alloc_some, World.cell?_setCell_far]; done)))); (have s3 := keepc hb9 (p := ⟨w.heap.size, 3, none⟩) (u := .int .i64 bt) (by (first | (go_simp; done) | (simp [*, World.cell?_alloc_at, World.cell?_alloc_past, World.cell?_alloc_some, World.cell?_setCell_far]; done)))); (have s4 := keepc hb9 (p := ⟨w.heap.size + 1 + 1, 0, none⟩) (u := .int .i64 ge) (by (first | (go_simp; done) | (simp [*, World.cell?_alloc_at, World.cell?_alloc_past, World.cell?_alloc_some, World.cell?_setCell_far]; done)))); (have s5 := keepc hb9 (p := ⟨w.heap.size + 1 + 1, 1, none⟩) (u := .int .i64 gt) (by (first | (go_simp; done) | (simp [*, World.cell?_alloc_at, World.cell?_alloc_past, World.cell?_alloc_some, World.cell?_setCell_far]; done)))); (have s6 := keepc hb9 (p := ⟨w.heap.size + 1 + 1, 2, none⟩) (u := .slice ga gn gc) (by (first | (go_simp; done) | (simp [*, World.cell?_alloc_at, World.cell?_alloc_past, World.cell?_alloc_some, World.cell?_setCell_far]; done)))); (have s7 := keepc hb9 (p := ⟨w.heap.size + 1 + 1 + 1, 0, none⟩) (u := .slice ya yn yc) (by (first | (go_simp; done) | (simp [*, World.cell?_alloc_at, World.cell?_alloc_past, World.cell?_alloc_some, World.cell?_setCell_far]; done)))); (have s8 := keepc hb9 (p := ⟨w.heap.size + 1 + 1 + 1, 1, none⟩) (u := .slice la ln lc) (by (first | (go_simp; done) | (simp [*, World.cell?_alloc_at, World.cell?_alloc_past, World.cell?_alloc_some, World.cell?_setCell_far]; done)))); (have s9 := keepc hb9 (p := ⟨w.heap.size + 1 + 1 + 1, 2, none⟩) (u := .int .i64 lh) (by (first | (go_simp; done) | (simp [*, World.cell?_alloc_at, World.cell?_alloc_past, World.cell?_alloc_some, World.cell?_setCell_far]; done)))); (have s10 := keepc hb9 (p := ⟨w.heap.size + 1 + 1 + 1, 3, none⟩) (u := .int .i64 lt) (by (first | (go_simp; done) | (simp [*, World.cell?_alloc_at, World.cell?_alloc_past, World.cell?_alloc_some, World.cell?_setCell_far]; done)))); (have PF := hide pF); (clear pF); (try (have oN := DV.ok.below oN hb9 (Nat.le_refl _))))
        | (go_at_call 11; refine (SameDesk_c dN dF _ (by first | exact oN | (refine DV.ok.below oN ?_ (Nat.le_refl _); (repeat first | exact bel0 | assumption | refine bel1 ?_ | refine bel2 ?_ | refine bel3 ?_ | refine belowT ?_ (by assumption) | refine bel5 ?_ (by simp; try omega)))) (by first | exact oF | (refine DV.ok.below oF ?_ (Nat.le_refl _); (repeat first | exact bel0 | assumption | refine bel1 ?_ | refine bel2 ?_ | refine bel3 ?_ | refine belowT ?_ (by assumption) | refine bel5 ?_ (by simp; try omega))))).mono ?_; rintro e w9 ⟨rfl, hb9⟩; (have s0 := keepc hb9 (p := ⟨w.heap.size, 0, none⟩) (u := .slice za zn zc) (by (first | (go_simp; done) | (simp [*, World.cell?_alloc_at, World.cell?_alloc_past, World.cell?_alloc_some, World.cell?_setCell_far]; done)))); (have s1 := keepc hb9 (p := ⟨w.heap.size, 1, none⟩) (u := .slice ka kn kc) (by (first | (go_simp; done) | (simp [*, World.cell?_alloc_at, World.cell?_alloc_past, World.cell?_alloc_some, World.cell?_setCell_far]; done)))); (have s2 := keepc hb9 (p := ⟨w.heap.size, 2, none⟩) (u := .int .i64 bh) (by (first | (go_simp; done) | (simp [*, World.cell?_alloc_at, World.cell?_alloc_past, World.cell?_alloc_some, World.cell?_setCell_far]; done)))); (have s3 := keepc hb9 (p := ⟨w.heap.size, 3, none⟩) (u := .int .i64 bt) (by (first | (go_simp; done) | (simp [*, World.cell?_alloc_at, World.cell?_alloc_past, World.cell?_alloc_some, World.cell?_setCell_far]; done)))); (have s4 := keepc hb9 (p := ⟨w.heap.size + 1 + 1, 0, none⟩) (u := .int .i64 ge) (by (first | (go_simp; done) | (simp [*, World.cell?_alloc_at, World.cell?_alloc_past, World.cell?_alloc_some, World.cell?_setCell_far]; done)))); (have s5 := keepc hb9 (p := ⟨w.heap.size + 1 + 1, 1, none⟩) (u := .int .i64 gt) (by (first | (go_simp; done) | (simp [*, World.cell?_alloc_at, World.cell?_alloc_past, World.cell?_alloc_some, World.cell?_setCell_far]; done)))); (have s6 := keepc hb9 (p := ⟨w.heap.size + 1 + 1, 2, none⟩) (u := .slice ga gn gc) (by (first | (go_simp; done) | (simp [*, World.cell?_alloc_at, World.cell?_alloc_past, World.cell?_alloc_some, World.cell?_setCell_far]; done)))); (have s7 := keepc hb9 (p := ⟨w.heap.size + 1 + 1 + 1, 0, none⟩) (u := .slice ya yn yc) (by (first | (go_simp; done) | (simp [*, World.cell?_alloc_at, World.cell?_alloc_past, World.cell?_alloc_some, World.cell?_setCell_far]; done)))); (have s8 := keepc hb9 (p := ⟨w.heap.size + 1 + 1 + 1, 1, none⟩) (u := .slice la ln lc) (by (first | (go_simp; done) | (simp [*, World.cell?_alloc_at, World.cell?_alloc_past, World.cell?_alloc_some, World.cell?_setCell_far]; done)))); (have s9 := keepc hb9 (p := ⟨w.heap.size + 1 + 1 + 1, 2, none⟩) (u := .int .i64 lh) (by (first | (go_simp; done) | (simp [*, World.cell?_alloc_at, World.cell?_alloc_past, World.cell?_alloc_some, World.cell?_setCell_far]; done)))); (have s10 := keepc hb9 (p := ⟨w.heap.size + 1 + 1 + 1, 3, none⟩) (u := .int .i64 lt) (by (first | (go_simp; done) | (simp [*, World.cell?_alloc_at, World.cell?_alloc_past, World.cell?_alloc_some, World.cell?_setCell_far]; done)))); rw [show sameD dN.p dF.p = true by rw [PN.out, PF.out]; exact sameD_self _]))
    all_goals
      go_wp2_with fail
      go_meet
      case rel => exact ⟨rfl, by (repeat first | exact bel0 | assumption | refine bel1 ?_ | refine bel2 ?_ | refine bel3 ?_ | refine belowT ?_ (by assumption) | refine bel5 ?_ (by simp; try omega))⟩
  case rest =>
    obtain ⟨rfl, hbc⟩ := hcut
    replace ok1 := ok1.below hbc (Nat.le_refl _)
    replace ok3 := ok3.below hbc (Nat.le_refl _)
    replace ak3 := AV.ok.below ak3 hbc (Nat.le_refl _)
    replace hx1 := hx1.below hbc (Nat.le_refl _)
    replace xD := xD.below hbc
    replace xC := xC.below hbc
    replace z3 := z3.below hbc
    replace y3 := y3.below hbc
    replace bw := belowT bw hbc
    clear hbc b0 b1 b2 b3 p0 p1 p2 q0 q1 q2 q3 xA xF ok2 ak1 S1 G3 G4 G5 G6 G7 HSrv
    by_cases h0 : cd = 0
    · subst h0
      have HCD := hide hcd
      by_cases hw : who < 0 ∨ 2 < who
      · have HBE := hide (show doE pd who ⟨xk, xz, xn, xt, xd⟩ = 5 by
          rw [HE.out]
          have : inB who 0 2 = false := by simp [inB]; omega
          simp [this])
        have hbad : doE pd who ⟨xk, xz, xn, xt, xd⟩ ≠ 0 := by rw [HBE.out]; decide
        clear G8 G9
        rcases hw with hw | hw
        · have hw' := hw
          have hb8 := HB.out hbad
          simp only [Prod.mk.injEq] at hb8
          obtain ⟨hr1, hr2, hr3⟩ := hb8
          have DZ := hide (show sameD (DV.p ⟨pa, pn, pc, P4, qa, qn, qc, qk, qh, qt⟩) DV.zero.p = true from (sameD_iff _ _).2 (by rw [DPH.out, hr1]; rfl))
          have AZ := hide (show sameA (AV.p ⟨ee, et, ea, en, ec, ed⟩) (AV.err 0).p = true from (sameA_iff _ _).2 (by rw [APH.out, hr2]; rfl))
          have J1 := hide (fun w' h1 h2 => SameDesk_c ⟨pa, pn, pc, P4, qa, qn, qc, qk, qh, qt⟩ DV.zero w' h1 h2)
          have J2 := hide (fun w' h1 h2 => SameAnswerR_c ⟨ee, et, ea, en, ec, ed⟩ (AV.err 0) w' h1 h2)
          have hre : re = 5 := by rw [hr3]; exact HBE.out
          have hreq : (re == 5) = true := by simp [hre]
          clear hr1 hr2 hr3 hre hrr hbad
          dsimp only [DV.v, AV.v, DV.zero, AV.err, zeroB] at J1 J2
          have b0 := z3.cell 0 _ rfl
          have b1 := z3.cell 1 _ rfl
          have b2 := z3.cell 2 _ rfl
          have b3 := z3.cell 3 _ rfl
          go_wp2_with fail
          refine (J1.out _ ok3 (DV.zero_ok _)).mono ?_
          rintro e w5 ⟨rfl, hb5⟩
          rw [show sameD (DV.p ⟨pa, pn, pc, P4, qa, qn, qc, qk, qh, qt⟩) (DV.p ⟨none, 0, 0, [], none, 0, 0, ⟨[], 0, 0⟩⟩) = true from DZ.out]
          replace ak3 := AV.ok.below ak3 hb5 (Nat.le_refl _)
          replace y3 := y3.below hb5
          replace bw := belowT bw hb5
          clear hb5 b0 b1 b2 b3
          have b0 := y3.cell 0 _ rfl
          have b1 := y3.cell 1 _ rfl
          have b2 := y3.cell 2 _ rfl
          go_wp2_with fail
          refine (J2.out _ ak3 (AV.err_ok _ _)).mono ?_
          rintro e w6 ⟨rfl, hb6⟩
          rw [show sameA (AV.p ⟨ee, et, ea, en, ec, ed⟩) (AV.p ⟨0, 0, none, 0, 0, []⟩) = true from AZ.out]
          go_wp2
          go_ret
          exact ⟨rfl, belowT bw hb6⟩
        · have hw' : ¬ who < 0 := by omega
          have hb8 := HB.out hbad
          simp only [Prod.mk.injEq] at hb8
          obtain ⟨hr1, hr2, hr3⟩ := hb8
          have DZ := hide (show sameD (DV.p ⟨pa, pn, pc, P4, qa, qn, qc, qk, qh, qt⟩) DV.zero.p = true from (sameD_iff _ _).2 (by rw [DPH.out, hr1]; rfl))
          have AZ := hide (show sameA (AV.p ⟨ee, et, ea, en, ec, ed⟩) (AV.err 0).p = true from (sameA_iff _ _).2 (by rw [APH.out, hr2]; rfl))
          have J1 := hide (fun w' h1 h2 => SameDesk_c ⟨pa, pn, pc, P4, qa, qn, qc, qk, qh, qt⟩ DV.zero w' h1 h2)
          have J2 := hide (fun w' h1 h2 => SameAnswerR_c ⟨ee, et, ea, en, ec, ed⟩ (AV.err 0) w' h1 h2)
          have hre : re = 5 := by rw [hr3]; exact HBE.out
          have hreq : (re == 5) = true := by simp [hre]
          clear hr1 hr2 hr3 hre hrr hbad
          dsimp only [DV.v, AV.v, DV.zero, AV.err, zeroB] at J1 J2
          have b0 := z3.cell 0 _ rfl
          have b1 := z3.cell 1 _ rfl
          have b2 := z3.cell 2 _ rfl
          have b3 := z3.cell 3 _ rfl
          go_wp2_with fail
          refine (J1.out _ ok3 (DV.zero_ok _)).mono ?_
          rintro e w5 ⟨rfl, hb5⟩
          rw [show sameD (DV.p ⟨pa, pn, pc, P4, qa, qn, qc, qk, qh, qt⟩) (DV.p ⟨none, 0, 0, [], none, 0, 0, ⟨[], 0, 0⟩⟩) = true from DZ.out]
          replace ak3 := AV.ok.below ak3 hb5 (Nat.le_refl _)
          replace y3 := y3.below hb5
          replace bw := belowT bw hb5
          clear hb5 b0 b1 b2 b3
          have b0 := y3.cell 0 _ rfl
          have b1 := y3.cell 1 _ rfl
          have b2 := y3.cell 2 _ rfl
          go_wp2_with fail
          refine (J2.out _ ak3 (AV.err_ok _ _)).mono ?_
          rintro e w6 ⟨rfl, hb6⟩
          rw [show sameA (AV.p ⟨ee, et, ea, en, ec, ed⟩) (AV.p ⟨0, 0, none, 0, 0, []⟩) = true from AZ.out]
          go_wp2
          go_ret
          exact ⟨rfl, belowT bw hb6⟩
      · have hw1 : ¬ who < 0 := by omega
        have hw2 : ¬ 2 < who := by omega
        obtain ⟨j, rfl⟩ := Int.eq_ofNat_of_zero_le (show 0 ≤ who by omega)
        have hj3 : j < 3 := by omega
        have HBE0 := hide (show doE pd j ⟨xk, xz, xn, xt, xd⟩ = checkC ⟨xk, xz, xn, xt, xd⟩ by
          rw [HE.out]
          have : inB (j : Int) 0 2 = true := by simp [inB]; omega
          simp [this])
        have q0 := xC.cell 0 _ rfl
        have q1 := xC.cell 1 _ rfl
        have q2 := xC.cell 2 _ rfl
        have q3 := xC.cell 3 _ rfl
        have q4 := xC.cell 4 _ rfl
        go_wp2_with fail
        refine (G8.out _ hx1).mono ?_
        rintro e w4 ⟨rfl, hb4⟩
        replace ok1 := ok1.below hb4 (Nat.le_refl _)
        replace ok3 := ok3.below hb4 (Nat.le_refl _)
        replace ak3 := AV.ok.below ak3 hb4 (Nat.le_refl _)
        replace hx1 := hx1.below hb4 (Nat.le_refl _)
        replace xD := xD.below hb4
        replace xC := xC.below hb4
        replace z3 := z3.below hb4
        replace y3 := y3.below hb4
        replace bw := belowT bw hb4
        clear hb4 q0 q1 q2 q3 q4 G8 hw
        by_cases hk : checkC ⟨xk, xz, xn, xt, xd⟩ = 0
        · have hE0 : doE pd j ⟨xk, xz, xn, xt, xd⟩ = 0 := by rw [HBE0.out]; exact hk
          have hg8 := HG.out hE0
          simp only [Prod.mk.injEq] at hg8
          obtain ⟨hr1, hr2, rfl⟩ := hg8
          have G10 := hide (fun w' h' hx' => G9.out w' h' hx' (by first | exact HCD.out | trivial) j hj3 hk)
          rw [hk]
          clear hE0 hk hrr HBE0 HE HB HG
          have HR1 := hide hr1
          have HR2 := hide hr2
          clear hr1 hr2 G9
          have b0 := xD.cell 0 _ rfl
          have b1 := xD.cell 1 _ rfl
          have b2 := xD.cell 2 _ rfl
          have b3 := xD.cell 3 _ rfl
          have q0 := xC.cell 0 _ rfl
          have q1 := xC.cell 1 _ rfl
          have q2 := xC.cell 2 _ rfl
          have q3 := xC.cell 3 _ rfl
          have q4 := xC.cell 4 _ rfl
          go_wp2_with fail
          refine (G10.out _ ok1 hx1).mono ?_
          rintro e v5 ⟨⟨⟨sa, sn, sc, S4, ta, tn, tc, tk, th, tt⟩, ⟨ue, ut, ua, un, uc, ud⟩, rfl, ok5, ak5, dp5, ap5⟩, hb5⟩
          have DP5 := hide dp5
          have AP5 := hide ap5
          clear dp5 ap5
          dsimp only
          go_upto_region 12 with fail
          obtain ⟨z5, y5, bn⟩ := two_boxes v5 [.slice sa sn sc, .slice ta tn tc, .int .i64 th, .int .i64 tt] [.int .i64 ue, .int .i64 ut, .slice ua un uc] 27 32
          have bvn := belowT hb5 bn
          replace ok3 := ok3.below bvn (Nat.le_refl _)
          replace ak3 := AV.ok.below ak3 bvn (Nat.le_refl _)
          replace z3 := z3.below bvn
          replace y3 := y3.below bvn
          replace bw := belowT bw bvn
          replace ok5 := ok5.below bn (Nat.le_refl _)
          replace ak5 := AV.ok.below ak5 bn (Nat.le_refl _)
          clear bn bvn hb5 b0 b1 b2 b3 q0 q1 q2 q3 q4 xD xC ok1 hx1 G10
          generalize v5.heap.size = B5 at *
          generalize (v5.alloc (.cells [.slice sa sn sc, .slice ta tn tc, .int .i64 th, .int .i64 tt].toArray 27)).alloc (.cells [.int .i64 ue, .int .i64 ut, .slice ua un uc].toArray 32) = w5 at *
          have DZ := hide (show sameD (DV.p ⟨pa, pn, pc, P4, qa, qn, qc, qk, qh, qt⟩) (DV.p ⟨sa, sn, sc, S4, ta, tn, tc, tk, th, tt⟩) = true from (sameD_iff _ _).2 (by rw [DPH.out, HR1.out, DP5.out]))
          have AZ := hide (show sameA (AV.p ⟨ee, et, ea, en, ec, ed⟩) (AV.p ⟨ue, ut, ua, un, uc, ud⟩) = true from (sameA_iff _ _).2 (by rw [APH.out, HR2.out, AP5.out]))
          have J1 := hide (fun w' h1 h2 => SameDesk_c ⟨pa, pn, pc, P4, qa, qn, qc, qk, qh, qt⟩ ⟨sa, sn, sc, S4, ta, tn, tc, tk, th, tt⟩ w' h1 h2)
          have J2 := hide (fun w' h1 h2 => SameAnswerR_c ⟨ee, et, ea, en, ec, ed⟩ ⟨ue, ut, ua, un, uc, ud⟩ w' h1 h2)
          dsimp only [DV.v, AV.v] at J1 J2
          have b0 := z3.cell 0 _ rfl
          have b1 := z3.cell 1 _ rfl
          have b2 := z3.cell 2 _ rfl
          have b3 := z3.cell 3 _ rfl
          have q0 := z5.cell 0 _ rfl
          have q1 := z5.cell 1 _ rfl
          have q2 := z5.cell 2 _ rfl
          have q3 := z5.cell 3 _ rfl
          go_wp2_with fail
          refine (J1.out _ ok3 ok5).mono ?_
          rintro e w6 ⟨rfl, hb6⟩
          rw [DZ.out]
          replace ak3 := AV.ok.below ak3 hb6 (Nat.le_refl _)
          replace ak5 := AV.ok.below ak5 hb6 (Nat.le_refl _)
          replace y3 := y3.below hb6
          replace y5 := y5.below hb6
          replace bw := belowT bw hb6
          clear hb6 b0 b1 b2 b3 q0 q1 q2 q3
          have b0 := y3.cell 0 _ rfl
          have b1 := y3.cell 1 _ rfl
          have b2 := y3.cell 2 _ rfl
          have q0 := y5.cell 0 _ rfl
          have q1 := y5.cell 1 _ rfl
          have q2 := y5.cell 2 _ rfl
          go_wp2_with fail
          refine (J2.out _ ak3 ak5).mono ?_
          rintro e w7 ⟨rfl, hb7⟩
          rw [AZ.out]
          go_wp2
          go_ret
          exact ⟨rfl, belowT bw hb7⟩
        · have hkn : (checkC ⟨xk, xz, xn, xt, xd⟩ != 0) = true := by simpa using hk
          have HBE := HBE0
          have hbad : doE pd j ⟨xk, xz, xn, xt, xd⟩ ≠ 0 := by rw [HBE.out]; exact hk
          clear hk G9
          generalize checkC ⟨xk, xz, xn, xt, xd⟩ = kk at *
          have hb8 := HB.out hbad
          simp only [Prod.mk.injEq] at hb8
          obtain ⟨hr1, hr2, hr3⟩ := hb8
          have DZ := hide (show sameD (DV.p ⟨pa, pn, pc, P4, qa, qn, qc, qk, qh, qt⟩) DV.zero.p = true from (sameD_iff _ _).2 (by rw [DPH.out, hr1]; rfl))
          have AZ := hide (show sameA (AV.p ⟨ee, et, ea, en, ec, ed⟩) (AV.err 0).p = true from (sameA_iff _ _).2 (by rw [APH.out, hr2]; rfl))
          have J1 := hide (fun w' h1 h2 => SameDesk_c ⟨pa, pn, pc, P4, qa, qn, qc, qk, qh, qt⟩ DV.zero w' h1 h2)
          have J2 := hide (fun w' h1 h2 => SameAnswerR_c ⟨ee, et, ea, en, ec, ed⟩ (AV.err 0) w' h1 h2)
          have hre : re = kk := by rw [hr3]; exact HBE.out
          have hreq : (re == kk) = true := by simp [hre]
          clear hr1 hr2 hr3 hre hrr hbad
          dsimp only [DV.v, AV.v, DV.zero, AV.err, zeroB] at J1 J2
          have b0 := z3.cell 0 _ rfl
          have b1 := z3.cell 1 _ rfl
          have b2 := z3.cell 2 _ rfl
          have b3 := z3.cell 3 _ rfl
          go_wp2_with fail
          refine (J1.out _ ok3 (DV.zero_ok _)).mono ?_
          rintro e w5 ⟨rfl, hb5⟩
          rw [show sameD (DV.p ⟨pa, pn, pc, P4, qa, qn, qc, qk, qh, qt⟩) (DV.p ⟨none, 0, 0, [], none, 0, 0, ⟨[], 0, 0⟩⟩) = true from DZ.out]
          replace ak3 := AV.ok.below ak3 hb5 (Nat.le_refl _)
          replace y3 := y3.below hb5
          replace bw := belowT bw hb5
          clear hb5 b0 b1 b2 b3
          have b0 := y3.cell 0 _ rfl
          have b1 := y3.cell 1 _ rfl
          have b2 := y3.cell 2 _ rfl
          go_wp2_with fail
          refine (J2.out _ ak3 (AV.err_ok _ _)).mono ?_
          rintro e w6 ⟨rfl, hb6⟩
          rw [show sameA (AV.p ⟨ee, et, ea, en, ec, ed⟩) (AV.p ⟨0, 0, none, 0, 0, []⟩) = true from AZ.out]
          go_wp2
          go_ret
          exact ⟨rfl, belowT bw hb6⟩
    · have h0' : (cd == 0) = false := by simpa using h0
      have h0n : (cd != 0) = true := by simpa using h0
      have HBE := hide (show doE pd who ⟨xk, xz, xn, xt, xd⟩ = cd by rw [HE.out]; simp [h0])
      have hbad : doE pd who ⟨xk, xz, xn, xt, xd⟩ ≠ 0 := by rw [HBE.out]; exact h0
      clear h0 G8 G9
      have hb8 := HB.out hbad
      simp only [Prod.mk.injEq] at hb8
      obtain ⟨hr1, hr2, hr3⟩ := hb8
      have DZ := hide (show sameD (DV.p ⟨pa, pn, pc, P4, qa, qn, qc, qk, qh, qt⟩) DV.zero.p = true from (sameD_iff _ _).2 (by rw [DPH.out, hr1]; rfl))
      have AZ := hide (show sameA (AV.p ⟨ee, et, ea, en, ec, ed⟩) (AV.err 0).p = true from (sameA_iff _ _).2 (by rw [APH.out, hr2]; rfl))
      have J1 := hide (fun w' h1 h2 => SameDesk_c ⟨pa, pn, pc, P4, qa, qn, qc, qk, qh, qt⟩ DV.zero w' h1 h2)
      have J2 := hide (fun w' h1 h2 => SameAnswerR_c ⟨ee, et, ea, en, ec, ed⟩ (AV.err 0) w' h1 h2)
      have hre : re = cd := by rw [hr3]; exact HBE.out
      have hreq : (re == cd) = true := by simp [hre]
      clear hr1 hr2 hr3 hre hrr hbad
      dsimp only [DV.v, AV.v, DV.zero, AV.err, zeroB] at J1 J2
      have b0 := z3.cell 0 _ rfl
      have b1 := z3.cell 1 _ rfl
      have b2 := z3.cell 2 _ rfl
      have b3 := z3.cell 3 _ rfl
      go_wp2_with fail
      refine (J1.out _ ok3 (DV.zero_ok _)).mono ?_
      rintro e w5 ⟨rfl, hb5⟩
      rw [show sameD (DV.p ⟨pa, pn, pc, P4, qa, qn, qc, qk, qh, qt⟩) (DV.p ⟨none, 0, 0, [], none, 0, 0, ⟨[], 0, 0⟩⟩) = true from DZ.out]
      replace ak3 := AV.ok.below ak3 hb5 (Nat.le_refl _)
      replace y3 := y3.below hb5
      replace bw := belowT bw hb5
      clear hb5 b0 b1 b2 b3
      have b0 := y3.cell 0 _ rfl
      have b1 := y3.cell 1 _ rfl
      have b2 := y3.cell 2 _ rfl
      go_wp2_with fail
      refine (J2.out _ ak3 (AV.err_ok _ _)).mono ?_
      rintro e w6 ⟨rfl, hb6⟩
      rw [show sameA (AV.p ⟨ee, et, ea, en, ec, ed⟩) (AV.p ⟨0, 0, none, 0, 0, []⟩) = true from AZ.out]
      go_wp2
      go_ret
      exact ⟨rfl, belowT bw hb6⟩

end Go.Proofs.YtkamnbigfdbgbaaGreatDoor
