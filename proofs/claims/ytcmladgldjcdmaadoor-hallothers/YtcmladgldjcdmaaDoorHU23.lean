/- The contract of desk.Do: it answers what the plain functions say, in new memory, and leaves what was there as it was; no condition but that the arguments read as data and the package's table is as its text lays it. -/
import Derived.Test.YtcmladgldjcdmaaDoorHU20
namespace Go.Proofs.YtcmladgldjcdmaaDoor
open Go.RowKit
set_option linter.unusedVariables false
set_option maxRecDepth 100000
set_option linter.unusedSimpArgs false

/-- What Do leaves. -/
def Did (r : PD × PA × Int) (w : World) (e : Ending) (w' : World) : Prop :=
  (∃ (d' : DV) (a' : AV), e = .returned (.tuple #[d'.v, a'.v, .int .i64 r.2.2]) ∧ d'.ok w' ∧ a'.ok w' ∧ d'.new w.heap.size ∧ a'.new w.heap.size ∧ d'.p = r.1 ∧ a'.p = r.2.1) ∧ Below w.heap.size w w'

/-- The four boxes of a call of Do. -/
theorem do_boxes (w : World) (A B : Obj) : Lay (((w.alloc A).alloc B).alloc (.cells #[.slice none 0 0, .slice none 0 0, .int .i64 0, .int .i64 0] 27)|>.alloc (.cells #[.int .i64 0, .int .i64 0, .slice none 0 0] 38)) (w.heap.size + 1 + 1) [.slice none 0 0, .slice none 0 0, .int .i64 0, .int .i64 0] ∧
    Lay (((w.alloc A).alloc B).alloc (.cells #[.slice none 0 0, .slice none 0 0, .int .i64 0, .int .i64 0] 27)|>.alloc (.cells #[.int .i64 0, .int .i64 0, .slice none 0 0] 38)) (w.heap.size + 1 + 1 + 1) [.int .i64 0, .int .i64 0, .slice none 0 0] := by
  have h1 := Lay.made1 (w.alloc A) B [.slice none 0 0, .slice none 0 0, .int .i64 0, .int .i64 0] 27
  have h2 := Lay.made (((w.alloc A).alloc B).alloc (.cells #[.slice none 0 0, .slice none 0 0, .int .i64 0, .int .i64 0] 27)) [.int .i64 0, .int .i64 0, .slice none 0 0] 38
  simp only [World.size_alloc] at h1 h2
  exact ⟨h1.below (belowA (Below.refl _ _) _), h2⟩

set_option maxHeartbeats 4000000 in
theorem Do_bad (d : DV) (who : Int) (ca : Option Addr) (cn cc : Nat) (x : PC) (w : World) (hS : Shapes w) (h : d.ok w) (hx : Ints w ca cn cc x.d) (hbad : doE d.p who x ≠ 0) :
    Calls Tryd.prog 30 #[d.v, .int .i64 who, cmdV ca cn cc x] w fun e w' => Did (doD d.p who x) w e w' := by
  have HR := hide (show doD d.p who x = (zeroD, zeroA, doE d.p who x) by simp [doD, hbad])
  have HC := hide (fun w' hS' (h' : d.ok w') hx' => DCheckDo_c d who ca cn cc x w' hS' h' hx')
  have hne : (doE d.p who x != 0) = true := by simpa using hbad
  obtain ⟨za, zn, zc, Z, ka, kn, kc, bk, bh, bt⟩ := d
  obtain ⟨xk, xz, xn, xt, xd⟩ := x
  clear hbad
  dsimp only [DV.v, cmdV] at *
  obtain ⟨x2, x3⟩ := do_boxes w (.cells #[.slice za zn zc, .slice ka kn kc, .int .i64 bh, .int .i64 bt] 27) (.cells #[.int .i64 xk, .int .i64 xz, .int .i64 xn, .int .i64 xt, .slice ca cn cc] 32)
  generalize doE _ who _ = ee at *
  go_enter Tryd.func30, Tryd.ntmps30
  go_wp2_with fail
  refine (HC.out _ (hS.below (by (repeat first | exact bel0 | assumption | refine bel1 ?_ | refine bel2 ?_ | refine bel3 ?_ | refine belowT ?_ (by assumption) | refine bel5 ?_ (by simp; try omega)))) (h.below (B := w.heap.size) (by (repeat first | exact bel0 | assumption | refine bel1 ?_ | refine bel2 ?_ | refine bel3 ?_ | refine belowT ?_ (by assumption) | refine bel5 ?_ (by simp; try omega))) (Nat.le_refl _)) (hx.below (B := w.heap.size) (by (repeat first | exact bel0 | assumption | refine bel1 ?_ | refine bel2 ?_ | refine bel3 ?_ | refine belowT ?_ (by assumption) | refine bel5 ?_ (by simp; try omega))) (Nat.le_refl _))).mono ?_
  rintro e w1 ⟨rfl, hb1⟩
  replace x2 := x2.below hb1
  replace x3 := x3.below hb1
  have bw : Below w.heap.size w w1 := by (repeat first | exact bel0 | assumption | refine bel1 ?_ | refine bel2 ?_ | refine bel3 ?_ | refine belowT ?_ (by assumption) | refine bel5 ?_ (by simp; try omega))
  clear hb1
  have e0 := x2.cell 0 _ rfl
  have e1 := x2.cell 1 _ rfl
  have e2 := x2.cell 2 _ rfl
  have e3 := x2.cell 3 _ rfl
  have f0 := x2.ice 0
  have f1 := x2.ice 1
  have f2 := x2.ice 2
  have f3 := x2.ice 3
  have g0 := x3.cell 0 _ rfl
  have g1 := x3.cell 1 _ rfl
  have g2 := x3.cell 2 _ rfl
  have k0 := x3.ice 0
  have k1 := x3.ice 1
  have k2 := x3.ice 2
  go_wp2
  have zD := (((x2.set 0 (.slice none 0 0)).set 1 (.slice none 0 0)).set 2 (.int .i64 0)).set 3 (.int .i64 0)
  have y3 := (((x3.far ⟨w.heap.size + 1 + 1, 0, none⟩ (.slice none 0 0) (by simp)).far ⟨w.heap.size + 1 + 1, 1, none⟩ (.slice none 0 0) (by simp)).far ⟨w.heap.size + 1 + 1, 2, none⟩ (.int .i64 0) (by simp)).far ⟨w.heap.size + 1 + 1, 3, none⟩ (.int .i64 0) (by simp)
  have hb2 := ((((But.refl (w.heap.size + 1 + 1) w1).step 0 (.slice none 0 0)).step 1 (.slice none 0 0)).step 2 (.int .i64 0)).step 3 (.int .i64 0)
  generalize (((w1.setCell ⟨w.heap.size + 1 + 1, 0, none⟩ (.slice none 0 0)).setCell ⟨w.heap.size + 1 + 1, 1, none⟩ (.slice none 0 0)).setCell ⟨w.heap.size + 1 + 1, 2, none⟩ (.int .i64 0)).setCell ⟨w.heap.size + 1 + 1, 3, none⟩ (.int .i64 0) = w2 at *
  have zA := ((y3.set 0 (.int .i64 0)).set 1 (.int .i64 0)).set 2 (.slice none 0 0)
  have zE := ((zD.far ⟨w.heap.size + 1 + 1 + 1, 0, none⟩ (.int .i64 0) (by simp)).far ⟨w.heap.size + 1 + 1 + 1, 1, none⟩ (.int .i64 0) (by simp)).far ⟨w.heap.size + 1 + 1 + 1, 2, none⟩ (.slice none 0 0) (by simp)
  have hb3 := (((But.refl (w.heap.size + 1 + 1 + 1) w2).step 0 (.int .i64 0)).step 1 (.int .i64 0)).step 2 (.slice none 0 0)
  generalize ((w2.setCell ⟨w.heap.size + 1 + 1 + 1, 0, none⟩ (.int .i64 0)).setCell ⟨w.heap.size + 1 + 1 + 1, 1, none⟩ (.int .i64 0)).setCell ⟨w.heap.size + 1 + 1 + 1, 2, none⟩ (.slice none 0 0) = w9 at *
  have z0 := zE.cell 0 _ rfl
  have z1 := zE.cell 1 _ rfl
  have z2 := zE.cell 2 _ rfl
  have z3 := zE.cell 3 _ rfl
  have a0 := zA.cell 0 _ rfl
  have a1 := zA.cell 1 _ rfl
  have a2 := zA.cell 2 _ rfl
  exact bodyPost_ret (v := .tuple #[.agg #[.slice none 0 0, .slice none 0 0, .int .i64 0, .int .i64 0], .agg #[.int .i64 0, .int .i64 0, .slice none 0 0], .int .i64 ee]) (by simp [results, Tryd.results30, go_sem, z0, z1, z2, z3, a0, a1, a2]) rfl
    ⟨⟨DV.zero, AV.err 0, by rw [HR.out]; rfl, DV.zero_ok _, AV.err_ok _ _, DV.zero_new _, AV.err_new _ _, by rw [HR.out]; rfl, by rw [HR.out]; rfl⟩, (bw.trans (hb2.low.mono (show w.heap.size ≤ w.heap.size + 1 + 1 by omega))).trans (hb3.low.mono (show w.heap.size ≤ w.heap.size + 1 + 1 + 1 by omega))⟩

set_option maxHeartbeats 4000000 in
theorem Do_good (d : DV) (j : Nat) (ca : Option Addr) (cn cc : Nat) (x : PC) (w : World) (hS : Shapes w) (h : d.ok w) (hx : Ints w ca cn cc x.d) (hok : doE d.p j x = 0) (hd : checkD d.p = 0) (hj : j < 3) (hk : 1 ≤ x.k ∧ x.k ≤ 12) :
    Calls Tryd.prog 30 #[d.v, .int .i64 j, cmdV ca cn cc x] w fun e w' => Did (doD d.p j x) w e w' := by
  have HR := hide (show doD d.p j x = ((doneD d.p j x).1, (doneD d.p j x).2, 0) by simp [doD, hok])
  have HC := hide (fun w' hS' (h' : d.ok w') hx' => DCheckDo_c d j ca cn cc x w' hS' h' hx')
  have HW := hide (fun w' (h' : d.ok w') => dwhole_c d w' h' hd)
  have HK := hide (fun B (d2 : DV) w' (h' : DBox w' B d2) hx' (hp : d2.p = d.p) => work_c B d2 j ca cn cc x w' h' hx' (by rw [hp]; exact hd) hj hk)
  have HOK := hide hok
  clear hok hd hj hk
  generalize hpd : d.p = pd at *
  obtain ⟨za, zn, zc, Z, ka, kn, kc, bk, bh, bt⟩ := d
  obtain ⟨xk, xz, xn, xt, xd⟩ := x
  dsimp only [DV.v, cmdV] at *
  obtain ⟨x2, x3⟩ := do_boxes w (.cells #[.slice za zn zc, .slice ka kn kc, .int .i64 bh, .int .i64 bt] 27) (.cells #[.int .i64 xk, .int .i64 xz, .int .i64 xn, .int .i64 xt, .slice ca cn cc] 32)
  go_enter Tryd.func30, Tryd.ntmps30
  go_wp2_with fail
  refine (HC.out _ (hS.below (by (repeat first | exact bel0 | assumption | refine bel1 ?_ | refine bel2 ?_ | refine bel3 ?_ | refine belowT ?_ (by assumption) | refine bel5 ?_ (by simp; try omega)))) (h.below (B := w.heap.size) (by (repeat first | exact bel0 | assumption | refine bel1 ?_ | refine bel2 ?_ | refine bel3 ?_ | refine belowT ?_ (by assumption) | refine bel5 ?_ (by simp; try omega))) (Nat.le_refl _)) (hx.below (B := w.heap.size) (by (repeat first | exact bel0 | assumption | refine bel1 ?_ | refine bel2 ?_ | refine bel3 ?_ | refine belowT ?_ (by assumption) | refine bel5 ?_ (by simp; try omega))) (Nat.le_refl _))).mono ?_
  rintro e w1 ⟨rfl, hb1⟩
  rw [HOK.out]
  have d0 := keepc hb1 (p := ⟨w.heap.size, 0, none⟩) (u := .slice za zn zc) (by go_simp)
  have d1 := keepc hb1 (p := ⟨w.heap.size, 1, none⟩) (u := .slice ka kn kc) (by go_simp)
  have d2 := keepc hb1 (p := ⟨w.heap.size, 2, none⟩) (u := .int .i64 bh) (by go_simp)
  have d3 := keepc hb1 (p := ⟨w.heap.size, 3, none⟩) (u := .int .i64 bt) (by go_simp)
  have c0 := keepc hb1 (p := ⟨w.heap.size + 1, 0, none⟩) (u := .int .i64 xk) (by go_simp)
  have c1 := keepc hb1 (p := ⟨w.heap.size + 1, 1, none⟩) (u := .int .i64 xz) (by go_simp)
  have c2 := keepc hb1 (p := ⟨w.heap.size + 1, 2, none⟩) (u := .int .i64 xn) (by go_simp)
  have c3 := keepc hb1 (p := ⟨w.heap.size + 1, 3, none⟩) (u := .int .i64 xt) (by go_simp)
  have c4 := keepc hb1 (p := ⟨w.heap.size + 1, 4, none⟩) (u := .slice ca cn cc) (by go_simp)
  replace x2 := x2.below hb1
  replace x3 := x3.below hb1
  have bw : Below w.heap.size w w1 := by (repeat first | exact bel0 | assumption | refine bel1 ?_ | refine bel2 ?_ | refine bel3 ?_ | refine belowT ?_ (by assumption) | refine bel5 ?_ (by simp; try omega))
  clear hb1
  go_wp2_with fail
  refine (HW.out _ (h.below bw (Nat.le_refl _))).mono ?_
  rintro e w2 ⟨⟨⟨ya, yn, yc, Y, la, ln, lc, lk, lh, lt⟩, rfl, hok2, hnew2, hp2⟩, hb2⟩
  have HP2 := hide hp2
  have hl3 := x3.lt
  have N2 := hide (DV.new.mono hnew2 hl3)
  replace x2 := x2.below hb2
  replace x3 := x3.below hb2
  replace c0 := keepc hb2 c0
  replace c1 := keepc hb2 c1
  replace c2 := keepc hb2 c2
  replace c3 := keepc hb2 c3
  replace c4 := keepc hb2 c4
  replace bw := belowT bw hb2
  clear hb2 hp2 hnew2 d0 d1 d2 d3
  dsimp only
  have hbx := Lay.made w2 [.slice ya yn yc, .slice la ln lc, .int .i64 lh, .int .i64 lt] 27
  have bn := belowA (Below.refl _ w2) (.cells #[.slice ya yn yc, .slice la ln lc, .int .i64 lh, .int .i64 lt] 27)
  have hDB : DBox (w2.alloc (.cells #[.slice ya yn yc, .slice la ln lc, .int .i64 lh, .int .i64 lt] 27)) w2.heap.size ⟨ya, yn, yc, Y, la, ln, lc, lk, lh, lt⟩ := ⟨hbx, hok2.below bn (Nat.le_refl _), hok2.off (Nat.le_refl _)⟩
  have hl2 := x3.lt
  have hsB := bw.size
  go_upto_region 5 with fail
  replace x2 := x2.below bn
  replace x3 := x3.below bn
  replace c0 := keepc bn c0
  replace c1 := keepc bn c1
  replace c2 := keepc bn c2
  replace c3 := keepc bn c3
  replace c4 := keepc bn c4
  replace bw := belowT bw bn
  clear bn hbx
  generalize hB : w2.heap.size = B at *
  generalize w2.alloc (.cells #[.slice ya yn yc, .slice la ln lc, .int .i64 lh, .int .i64 lt] 27) = w3 at *
  go_wp2_with fail
  refine (HK.out B ⟨ya, yn, yc, Y, la, ln, lc, lk, lh, lt⟩ _ hDB (hx.below bw (Nat.le_refl _)) HP2.out).mono ?_
  rintro e w4 ⟨⟨⟨pa, pn, pc, P4, qa, qn, qc, qk, qh, qt⟩, ⟨ee, et, ea, en, ec, ed⟩, rfl, hD4, hn4, aok, anew, dp, ap⟩, hb4⟩
  have DPH := hide dp
  have APH := hide ap
  have hB3 : w.heap.size + 1 + 1 + 1 < B := hl2
  have hBlt := hDB.lay.lt
  have N4 := hide (show ∀ R, R ≤ w.heap.size + 1 + 1 + 1 → DV.off R ⟨pa, pn, pc, P4, qa, qn, qc, qk, qh, qt⟩ from fun R hR => hn4 R (by omega) (N2.out R (by omega)))
  have A4 := hide (show ∀ R, R ≤ w.heap.size + 1 + 1 + 1 → AV.off R ⟨ee, et, ea, en, ec, ed⟩ from fun R hR => anew R (by omega))
  replace x2 := x2.butI hb4 (by omega)
  replace x3 := x3.butI hb4 (by omega)
  replace bw : Below w.heap.size w w4 := bw.trans (hb4.below (by omega))
  clear dp ap hn4 anew hb4 hDB c0 c1 c2 c3 c4 N2
  unfold AV.v
  dsimp only
  go_upto_region 6 with fail
  have hbe := Lay.made w4 [.int .i64 ee, .int .i64 et, .slice ea en ec] 38
  have bn := belowA (Below.refl _ w4) (.cells #[.int .i64 ee, .int .i64 et, .slice ea en ec] 38)
  have hlB := hD4.lay.lt
  have b0 := past1 (hD4.lay.cell 0 _ rfl)
  have b1 := past1 (hD4.lay.cell 1 _ rfl)
  have b2 := past1 (hD4.lay.cell 2 _ rfl)
  have b3 := past1 (hD4.lay.cell 3 _ rfl)
  have q0 := hbe.cell 0 _ rfl
  have q1 := hbe.cell 1 _ rfl
  have q2 := hbe.cell 2 _ rfl
  replace x2 := x2.below bn
  replace x3 := x3.below bn
  replace bw := belowT bw bn
  have hok4 := hD4.ok.below bn (Nat.le_refl _)
  have aok4 := AV.ok.below aok bn (Nat.le_refl _)
  have hq : w4.heap.size ≠ w.heap.size + 1 + 1 := by omega
  have hq' : w4.heap.size ≠ w.heap.size + 1 + 1 + 1 := by omega
  generalize hQ : w4.heap.size = Q at *
  replace b0 := b0 (.cells #[.int .i64 ee, .int .i64 et, .slice ea en ec] 38)
  replace b1 := b1 (.cells #[.int .i64 ee, .int .i64 et, .slice ea en ec] 38)
  replace b2 := b2 (.cells #[.int .i64 ee, .int .i64 et, .slice ea en ec] 38)
  replace b3 := b3 (.cells #[.int .i64 ee, .int .i64 et, .slice ea en ec] 38)
  generalize w4.alloc (.cells #[.int .i64 ee, .int .i64 et, .slice ea en ec] 38) = w5 at *
  clear bn hbe hD4 aok
  dsimp only at b0 b1 b2 b3
  have e0 := x2.cell 0 _ rfl
  have e1 := x2.cell 1 _ rfl
  have e2 := x2.cell 2 _ rfl
  have e3 := x2.cell 3 _ rfl
  have f0 := x2.ice 0
  have f1 := x2.ice 1
  have f2 := x2.ice 2
  have f3 := x2.ice 3
  have g0 := x3.cell 0 _ rfl
  have g1 := x3.cell 1 _ rfl
  have g2 := x3.cell 2 _ rfl
  have k0 := x3.ice 0
  have k1 := x3.ice 1
  have k2 := x3.ice 2
  have hB2 : B ≠ w.heap.size + 1 + 1 := by omega
  have hB3' : B ≠ w.heap.size + 1 + 1 + 1 := by omega
  go_cut [8] (fun v wx => v = .int .i64 0 ∧ Lay wx (w.heap.size + 1 + 1) [.slice pa pn pc, .slice qa qn qc, .int .i64 qh, .int .i64 qt] ∧ Lay wx (w.heap.size + 1 + 1 + 1) [.int .i64 ee, .int .i64 et, .slice ea en ec] ∧ DV.ok wx ⟨pa, pn, pc, P4, qa, qn, qc, qk, qh, qt⟩ ∧ AV.ok wx ⟨ee, et, ea, en, ec, ed⟩ ∧ Below w.heap.size w wx)
  case first =>
    go_region
    all_goals
      go_wp2_with fail
      go_meet
    all_goals
      case rel =>
        have zD := (((x2.set 0 (.slice pa pn pc)).set 1 (.slice qa qn qc)).set 2 (.int .i64 qh)).set 3 (.int .i64 qt)
        have y3 := (((x3.far ⟨w.heap.size + 1 + 1, 0, none⟩ (.slice pa pn pc) (by simp)).far ⟨w.heap.size + 1 + 1, 1, none⟩ (.slice qa qn qc) (by simp)).far ⟨w.heap.size + 1 + 1, 2, none⟩ (.int .i64 qh) (by simp)).far ⟨w.heap.size + 1 + 1, 3, none⟩ (.int .i64 qt) (by simp)
        have hb2 := ((((But.refl (w.heap.size + 1 + 1) w5).step 0 (.slice pa pn pc)).step 1 (.slice qa qn qc)).step 2 (.int .i64 qh)).step 3 (.int .i64 qt)
        generalize (((w5.setCell ⟨w.heap.size + 1 + 1, 0, none⟩ (.slice pa pn pc)).setCell ⟨w.heap.size + 1 + 1, 1, none⟩ (.slice qa qn qc)).setCell ⟨w.heap.size + 1 + 1, 2, none⟩ (.int .i64 qh)).setCell ⟨w.heap.size + 1 + 1, 3, none⟩ (.int .i64 qt) = w6 at *
        have zA := ((y3.set 0 (.int .i64 ee)).set 1 (.int .i64 et)).set 2 (.slice ea en ec)
        have zE := ((zD.far ⟨w.heap.size + 1 + 1 + 1, 0, none⟩ (.int .i64 ee) (by simp)).far ⟨w.heap.size + 1 + 1 + 1, 1, none⟩ (.int .i64 et) (by simp)).far ⟨w.heap.size + 1 + 1 + 1, 2, none⟩ (.slice ea en ec) (by simp)
        have hb3 := (((But.refl (w.heap.size + 1 + 1 + 1) w6).step 0 (.int .i64 ee)).step 1 (.int .i64 et)).step 2 (.slice ea en ec)
        have o9 := (hok4.but hb2 (N4.out _ (by omega))).but hb3 (N4.out _ (by omega))
        have a9 := AV.ok.but (AV.ok.but aok4 hb2 (A4.out _ (by omega))) hb3 (A4.out _ (by omega))
        have b9 := (bw.trans (hb2.low.mono (show w.heap.size ≤ w.heap.size + 1 + 1 by omega))).trans (hb3.low.mono (show w.heap.size ≤ w.heap.size + 1 + 1 + 1 by omega))
        exact ⟨rfl, zE.drew, zA.drew, o9.below (Below.refl _ _).drew (Nat.le_refl _), AV.ok.below a9 (Below.refl _ _).drew (Nat.le_refl _), b9.drew⟩
  case rest =>
    obtain ⟨rfl, zD, zA, hok9, aok9, bw9⟩ := hcut
    have z0 := zD.cell 0 _ rfl
    have z1 := zD.cell 1 _ rfl
    have z2 := zD.cell 2 _ rfl
    have z3 := zD.cell 3 _ rfl
    have a0 := zA.cell 0 _ rfl
    have a1 := zA.cell 1 _ rfl
    have a2 := zA.cell 2 _ rfl
    go_wp2
    exact bodyPost_ret (v := .tuple #[.agg #[.slice pa pn pc, .slice qa qn qc, .int .i64 qh, .int .i64 qt], .agg #[.int .i64 ee, .int .i64 et, .slice ea en ec], .int .i64 0]) (by simp [results, Tryd.results30, go_sem, z0, z1, z2, z3, a0, a1, a2]) rfl
      ⟨⟨⟨pa, pn, pc, P4, qa, qn, qc, qk, qh, qt⟩, ⟨ee, et, ea, en, ec, ed⟩, by rw [HR.out]; rfl, hok9, aok9, fun R hR => N4.out R (by omega), fun R hR => A4.out R (by omega), by rw [HR.out, ← HP2.out]; exact DPH.out, by rw [HR.out, ← HP2.out]; exact APH.out⟩, bw9⟩

theorem Do_c (d : DV) (who : Int) (ca : Option Addr) (cn cc : Nat) (x : PC) (w : World) (hS : Shapes w) (h : d.ok w) (hx : Ints w ca cn cc x.d) :
    Calls Tryd.prog 30 #[d.v, .int .i64 who, cmdV ca cn cc x] w fun e w' => Did (doD d.p who x) w e w' := by
  by_cases hb : doE d.p who x = 0
  · obtain ⟨hd, ⟨j, rfl, hj⟩, hc⟩ := doE_ok hb
    exact Do_good d j ca cn cc x w hS h hx hb hd hj (cmd_facts hc).1
  · exact Do_bad d who ca cn cc x w hS h hx hb

end Go.Proofs.YtcmladgldjcdmaaDoor
