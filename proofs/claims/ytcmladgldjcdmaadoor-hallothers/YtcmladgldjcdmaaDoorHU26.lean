/- The contract of hall.Replay: it answers what the plain functions say, in new memory, and leaves what was there as it was; no condition but that the arguments read as data and the package's table is as its text lays it. -/
import Derived.Test.YtcmladgldjcdmaaDoorHU25
import Derived.Test.YtcmladgldjcdmaaDoorHU8
import Derived.Test.YtcmladgldjcdmaaDoorHU17
import Derived.Test.YtcmladgldjcdmaaDoorHU5
import Derived.Test.YtcmladgldjcdmaaDoorHU2
namespace Go.Proofs.YtcmladgldjcdmaaDoor
open Go.RowKit
set_option linter.unusedVariables false
set_option maxRecDepth 100000
set_option linter.unusedSimpArgs false

theorem replay_step {X : List PR} {k : Nat} {r : PR} {hp : PH} (hr : X[k]? = some r) (h : replayF freshH (X.take k) = (hp, 0)) (e : (nextH hp r).2.2 = 0) : replayF freshH (X.take (k + 1)) = ((nextH hp r).1, 0) := by
  obtain ⟨g1, g2⟩ := List.getElem?_eq_some_iff.1 hr
  rw [List.take_succ_eq_append_getElem g1, replay_app _ _ _ (by rw [h]), h, g2, replay_cons, if_neg (by simp [e]), replay_nil]
theorem replay_fail {X : List PR} {k : Nat} {r : PR} {hp : PH} (hr : X[k]? = some r) (h : replayF freshH (X.take k) = (hp, 0)) (e : (nextH hp r).2.2 ≠ 0) : replayF freshH X = (zeroH, (nextH hp r).2.2) := by
  obtain ⟨g1, g2⟩ := List.getElem?_eq_some_iff.1 hr
  have hx : X = X.take k ++ r :: X.drop (k + 1) := by
    rw [← g2]
    simp
  rw [hx, replay_app _ _ _ (by rw [h]), h, replay_cons, if_pos e]

/-- What Replay leaves. -/
def Replays (r : PH × Int) (w : World) (e : Ending) (w' : World) : Prop :=
  (∃ h' : HV, e = .returned (.tuple #[h'.v, .int .i64 r.2]) ∧ h'.ok w' ∧ h'.new w.heap.size ∧ h'.p = r.1) ∧ Below w.heap.size w w'

set_option maxRecDepth 100000 in
set_option maxHeartbeats 4000000 in
theorem Replay_c (la : Option Addr) (ln lc : Nat) (X : List RV) (w : World) (hS : Shapes w) (hX : Recs w la ln lc X) : Calls Tryd.prog 17 #[.slice la ln lc] w fun e w' => Replays (replayH (X.map RV.p)) w e w' := by
  have hlen := hX.len
  have hmax := hX.max
  have hle := hX.le
  have x2 := Lay.made w [.slice none 0 0, .slice none 0 0, .int .i64 0, .int .i64 0, .slice none 0 0] 30
  have bw : Below w.heap.size w (w.alloc (.cells [.slice none 0 0, .slice none 0 0, .int .i64 0, .int .i64 0, .slice none 0 0].toArray 30)) := by (repeat first | exact bel0 | assumption | refine bel1 ?_ | refine bel2 ?_ | refine bel3 ?_ | refine belowT ?_ (by assumption) | refine bel5 ?_ (by simp; try omega))
  by_cases h80 : 80 < ln
  · have HR : Hid (replayH (X.map RV.p) = (zeroH, 2)) := hide (by unfold replayH; rw [if_pos (by rw [List.length_map, hlen]; exact h80)])
    generalize replayH _ = rr at *
    have h8' : (80 : Int) < (ln : Int) := by omega
    have e0 := x2.cell 0 _ rfl
    have e1 := x2.cell 1 _ rfl
    have e2 := x2.cell 2 _ rfl
    have e3 := x2.cell 3 _ rfl
    have e4 := x2.cell 4 _ rfl
    have f0 := x2.ice 0
    have f1 := x2.ice 1
    have f2 := x2.ice 2
    have f3 := x2.ice 3
    have f4 := x2.ice 4
    go_enter Tryd.func17, Tryd.ntmps17
    go_wp2
    have z0 := (Lay.made w [.slice none 0 0, .slice none 0 0, .int .i64 0, .int .i64 0, .slice none 0 0] 30)
    exact bodyPost_ret (v := .tuple #[.agg #[.slice none 0 0, .slice none 0 0, .int .i64 0, .int .i64 0, .slice none 0 0], .int .i64 2]) (by simp [results, Tryd.results17, go_sem, e0, e1, e2, e3, e4]) rfl
      ⟨⟨HV.zero, by rw [HR.out]; rfl, HV.zero_ok _, HV.zero_new _, by rw [HR.out]; rfl⟩, bw⟩
  · have HR : Hid (replayH (X.map RV.p) = replayF freshH (X.map RV.p)) := hide (by unfold replayH; rw [if_neg (by rw [List.length_map, hlen]; exact h80)])
    generalize replayH _ = rr at *
    have h8' : ¬ (80 : Int) < (ln : Int) := by omega
    have HLN := hide hlen
    clear hlen
    go_enter Tryd.func17, Tryd.ntmps17
    go_wp2_with fail
    refine (HNew_c _).mono ?_
    rintro e w1 ⟨⟨h0, rfl, hok, hnew, hp0⟩, hb1⟩
    replace x2 := x2.below hb1
    replace bw := belowT bw hb1
    clear hb1
    have hnew1 := hnew.mono (show w.heap.size + 1 ≤ _ by simp)
    have hoff0 := hok.off (Nat.le_refl _)
    have hst : replayF freshH ((X.map RV.p).take 0) = (h0.p, 0) := by rw [hp0]; rfl
    have HST := hide hst
    obtain ⟨⟨za, zn, zc, Z, ka, kn, kc, bk, bh, bt⟩, a, n, c, L⟩ := h0
    dsimp only [HV.v] at *
    clear hst hp0 hnew
    go_upto_region 4 with fail
    have xH := Lay.made w1 [.slice za zn zc, .slice ka kn kc, .int .i64 bh, .int .i64 bt, .slice a n c] 30
    have bn := belowA (Below.refl _ w1) (.cells [.slice za zn zc, .slice ka kn kc, .int .i64 bh, .int .i64 bt, .slice a n c].toArray 30)
    have hlt2 := x2.lt
    replace x2 := x2.below bn
    replace hok := hok.below bn (Nat.le_refl _)
    replace bw := belowT bw bn
    generalize w1.heap.size = H at *
    generalize w1.alloc (.cells [.slice za zn zc, .slice ka kn kc, .int .i64 bh, .int .i64 bt, .slice a n c].toArray 30) = w2 at *
    clear bn
    go_wp2_with fail
    go_loopw [17] (fun i wr => ∃ (k : Nat) (hv : HV), k ≤ ln ∧ i = .int .i64 (k : Nat) ∧ Lay wr w.heap.size [.slice none 0 0, .slice none 0 0, .int .i64 0, .int .i64 0, .slice none 0 0] ∧ Lay wr H hv.cells ∧ hv.ok wr ∧ hv.new (w.heap.size + 1) ∧ hv.off H ∧ replayF freshH ((X.map RV.p).take k) = (hv.p, 0) ∧ Below w.heap.size w wr) (fun i _ => ln - (intOf i).toNat)
    case atStart => exact ⟨0, ⟨⟨za, zn, zc, Z, ka, kn, kc, bk, bh, bt⟩, a, n, c, L⟩, by omega, rfl, x2, xH, hok, hnew1, hoff0, HST.out, bw⟩
    case round =>
      clear x2 xH hok hnew1 hoff0 HST bw
      obtain ⟨k, hv, hk, rfl, x2, xH, hok, hnew1, hoffH, hst, bw⟩ := hrel
      rename_i wr
      have HST := hide hst
      clear hst
      by_cases hlt : k < ln
      · obtain ⟨x, hx⟩ : ∃ z, X[k]? = some z := ⟨X[k]'(by rw [HLN.out]; exact hlt), by simp⟩
        obtain ⟨lb, lo, rfl, hlb, hcl⟩ := hX.row.resolve_left (by omega)
        have kx := hcl k x hx
        have hxk := RV.ok.below (hX.ok x (List.mem_of_getElem? hx)) bw (Nat.le_refl _)
        have hxp : (X.map RV.p)[k]? = some x.p := by rw [List.getElem?_map, hx]; rfl
        have HN := hide (fun w' hS' h' k' => Next_c hv x w' hS' h' k')
        have HS1 : Hid ((nextH hv.p x.p).2.2 = 0 → replayF freshH ((X.map RV.p).take (k + 1)) = ((nextH hv.p x.p).1, 0)) := hide (fun e => replay_step hxp HST.out e)
        have HS2 : Hid ((nextH hv.p x.p).2.2 ≠ 0 → rr = (zeroH, (nextH hv.p x.p).2.2)) := hide (fun e => by rw [HR.out]; exact replay_fail hxp HST.out e)
        generalize nextH hv.p x.p = nh at *
        rw [show hv.v = .agg hv.cells.toArray from rfl, show x.v = .agg x.cells.toArray from rfl] at HN
        clear hx hxp HST
        obtain ⟨⟨za, zn, zc, Z, ka, kn, kc, bk, bh, bt⟩, a, n, c, L⟩ := hv
        obtain ⟨⟨rq, rs, ⟨k1, z1, u1, t1, d1⟩⟩, ra, rn, rc⟩ := x
        dsimp only [HV.cells, RV.cells] at *
        have c0 := keepc bw (kx 0 _ rfl)
        have c1 := keepc bw (kx 1 _ rfl)
        have c2 := keepc bw (kx 2 _ rfl)
        have c3 := keepc bw (kx 3 _ rfl)
        have c4 := keepc bw (kx 4 _ rfl)
        have c5 := keepc bw (kx 5 _ rfl)
        have c6 := keepc bw (kx 6 _ rfl)
        rw [Nat.add_zero] at c0
        have q0 := past1 (xH.cell 0 _ rfl)
        have q1 := past1 (xH.cell 1 _ rfl)
        have q2 := past1 (xH.cell 2 _ rfl)
        have q3 := past1 (xH.cell 3 _ rfl)
        have q4 := past1 (xH.cell 4 _ rfl)
        have hlt' : (k : Int) < (ln : Int) := by omega
        clear kx hcl
        go_wp2_with fail
        refine (HN.out _ (hS.below (by (repeat first | exact bel0 | assumption | refine bel1 ?_ | refine bel2 ?_ | refine bel3 ?_ | refine belowT ?_ (by assumption) | refine bel5 ?_ (by simp; try omega)))) (hok.below (B := wr.heap.size) (by (repeat first | exact bel0 | assumption | refine bel1 ?_ | refine bel2 ?_ | refine bel3 ?_ | refine belowT ?_ (by assumption) | refine bel5 ?_ (by simp; try omega))) (Nat.le_refl _)) (RV.ok.below hxk (B := wr.heap.size) (by (repeat first | exact bel0 | assumption | refine bel1 ?_ | refine bel2 ?_ | refine bel3 ?_ | refine belowT ?_ (by assumption) | refine bel5 ?_ (by simp; try omega))) (Nat.le_refl _))).mono ?_
        rintro e w3 ⟨⟨⟨⟨ya, yn, yc, Y, yk, ym, yl, yj, yh, yt⟩, yb, yo, yp, M⟩, ⟨ae, at', aa, an, ac, ad⟩, rfl, ok3, oka, new3, _, p3, _⟩, hb3⟩
        have b3 : Below wr.heap.size wr w3 := by (repeat first | exact bel0 | assumption | refine bel1 ?_ | refine bel2 ?_ | refine bel3 ?_ | refine belowT ?_ (by assumption) | refine bel5 ?_ (by simp; try omega))
        have hHl := xH.lt
        have h2l := x2.lt
        replace x2 := x2.below b3
        replace xH := xH.below b3
        replace bw := belowT bw b3
        have newW := new3.mono (show wr.heap.size ≤ _ by simp)
        have P3 := hide p3
        clear q0 q1 q2 q3 q4 c0 c1 c2 c3 c4 c5 c6 hb3 HN oka p3 new3 hok hoffH hnew1 hxk
        dsimp only [HV.v, AV.v]
        go_upto_region 8 with fail
        obtain ⟨y7, _, bn⟩ := two_boxes w3 [.slice ya yn yc, .slice yk ym yl, .int .i64 yh, .int .i64 yt, .slice yb yo yp] [.int .i64 ae, .int .i64 at', .slice aa an ac] 30 38
        replace x2 := x2.below bn
        replace xH := xH.below bn
        replace ok3 := ok3.below bn (Nat.le_refl _)
        replace bw := belowT bw bn
        have hs3 := b3.size
        have hne7 : w3.heap.size ≠ H := by omega
        clear bn
        generalize w3.heap.size = B7 at *
        generalize (w3.alloc (.cells [.slice ya yn yc, .slice yk ym yl, .int .i64 yh, .int .i64 yt, .slice yb yo yp].toArray 30)).alloc (.cells [.int .i64 ae, .int .i64 at', .slice aa an ac].toArray 38) = w4 at *
        clear b3
        cases hb : nh.2.2 != 0
        · have H0 := hide (HS1.out (by simpa using hb))
          clear HS1 HS2
          have e0 := xH.cell 0 _ rfl
          have e1 := xH.cell 1 _ rfl
          have e2 := xH.cell 2 _ rfl
          have e3 := xH.cell 3 _ rfl
          have e4 := xH.cell 4 _ rfl
          have f0 := xH.ice 0
          have f1 := xH.ice 1
          have f2 := xH.ice 2
          have f3 := xH.ice 3
          have f4 := xH.ice 4
          have q0 := y7.cell 0 _ rfl
          have q1 := y7.cell 1 _ rfl
          have q2 := y7.cell 2 _ rfl
          have q3 := y7.cell 3 _ rfl
          have q4 := y7.cell 4 _ rfl
          go_wp2
          have zB := ((((xH.set 0 (.slice ya yn yc)).set 1 (.slice yk ym yl)).set 2 (.int .i64 yh)).set 3 (.int .i64 yt)).set 4 (.slice yb yo yp)
          have hbut := (((((ButI.refl (H) w4).step 0 (.slice ya yn yc)).step 1 (.slice yk ym yl)).step 2 (.int .i64 yh)).step 3 (.int .i64 yt)).step 4 (.slice yb yo yp)
          generalize ((((w4.setCell ⟨H, 0, none⟩ (.slice ya yn yc)).setCell ⟨H, 1, none⟩ (.slice yk ym yl)).setCell ⟨H, 2, none⟩ (.int .i64 yh)).setCell ⟨H, 3, none⟩ (.int .i64 yt)).setCell ⟨H, 4, none⟩ (.slice yb yo yp) = w5 at *
          have z0 := zB.cell 0 _ rfl
          have z1 := zB.cell 1 _ rfl
          have z2 := zB.cell 2 _ rfl
          have z3 := zB.cell 3 _ rfl
          have z4 := zB.cell 4 _ rfl
          exact ⟨⟨k + 1, ⟨⟨ya, yn, yc, Y, yk, ym, yl, yj, yh, yt⟩, yb, yo, yp, M⟩, by omega, by go_num, x2.butI hbut (by omega), zB, ok3.but hbut.but (newW _ (by omega)), newW.mono (by omega), newW _ (by omega), by rw [P3.out]; exact H0.out, bw.trans (hbut.below (B := w.heap.size) (by omega))⟩, by simp [intOf]; omega⟩
        · have H0 := hide (HS2.out (by simpa using hb))
          clear HS1 HS2
          have e0 := x2.cell 0 _ rfl
          have e1 := x2.cell 1 _ rfl
          have e2 := x2.cell 2 _ rfl
          have e3 := x2.cell 3 _ rfl
          have e4 := x2.cell 4 _ rfl
          have f0 := x2.ice 0
          have f1 := x2.ice 1
          have f2 := x2.ice 2
          have f3 := x2.ice 3
          have f4 := x2.ice 4
          go_wp2
          have zB := ((((x2.set 0 (.slice none 0 0)).set 1 (.slice none 0 0)).set 2 (.int .i64 0)).set 3 (.int .i64 0)).set 4 (.slice none 0 0)
          have hbut := (((((ButI.refl (w.heap.size) w4).step 0 (.slice none 0 0)).step 1 (.slice none 0 0)).step 2 (.int .i64 0)).step 3 (.int .i64 0)).step 4 (.slice none 0 0)
          generalize ((((w4.setCell ⟨w.heap.size, 0, none⟩ (.slice none 0 0)).setCell ⟨w.heap.size, 1, none⟩ (.slice none 0 0)).setCell ⟨w.heap.size, 2, none⟩ (.int .i64 0)).setCell ⟨w.heap.size, 3, none⟩ (.int .i64 0)).setCell ⟨w.heap.size, 4, none⟩ (.slice none 0 0) = w5 at *
          have z0 := zB.cell 0 _ rfl
          have z1 := zB.cell 1 _ rfl
          have z2 := zB.cell 2 _ rfl
          have z3 := zB.cell 3 _ rfl
          have z4 := zB.cell 4 _ rfl
          exact bodyPost_ret (v := .tuple #[.agg #[.slice none 0 0, .slice none 0 0, .int .i64 0, .int .i64 0, .slice none 0 0], .int .i64 nh.2.2]) (by simp [results, Tryd.results17, go_sem, z0, z1, z2, z3, z4]) rfl
            ⟨⟨HV.zero, by rw [H0.out]; rfl, HV.zero_ok _, HV.zero_new _, by rw [H0.out]; rfl⟩, bw.trans (hbut.below (B := w.heap.size) (by omega))⟩
      · obtain rfl : k = ln := by omega
        have hst := HST.out
        rw [List.take_of_length_le (by rw [List.length_map, HLN.out]; omega)] at hst
        have H0 : Hid (rr = (hv.p, 0)) := hide (by rw [HR.out, hst])
        clear hst HST
        obtain ⟨⟨za, zn, zc, Z, ka, kn, kc, bk, bh, bt⟩, a, n, c, L⟩ := hv
        dsimp only [HV.cells] at *
        have e0 := x2.cell 0 _ rfl
        have e1 := x2.cell 1 _ rfl
        have e2 := x2.cell 2 _ rfl
        have e3 := x2.cell 3 _ rfl
        have e4 := x2.cell 4 _ rfl
        have f0 := x2.ice 0
        have f1 := x2.ice 1
        have f2 := x2.ice 2
        have f3 := x2.ice 3
        have f4 := x2.ice 4
        have q0 := xH.cell 0 _ rfl
        have q1 := xH.cell 1 _ rfl
        have q2 := xH.cell 2 _ rfl
        have q3 := xH.cell 3 _ rfl
        have q4 := xH.cell 4 _ rfl
        go_wp2
        have zB := ((((x2.set 0 (.slice za zn zc)).set 1 (.slice ka kn kc)).set 2 (.int .i64 bh)).set 3 (.int .i64 bt)).set 4 (.slice a n c)
        have hbut := (((((ButI.refl (w.heap.size) wr).step 0 (.slice za zn zc)).step 1 (.slice ka kn kc)).step 2 (.int .i64 bh)).step 3 (.int .i64 bt)).step 4 (.slice a n c)
        generalize ((((wr.setCell ⟨w.heap.size, 0, none⟩ (.slice za zn zc)).setCell ⟨w.heap.size, 1, none⟩ (.slice ka kn kc)).setCell ⟨w.heap.size, 2, none⟩ (.int .i64 bh)).setCell ⟨w.heap.size, 3, none⟩ (.int .i64 bt)).setCell ⟨w.heap.size, 4, none⟩ (.slice a n c) = w5 at *
        have z0 := zB.cell 0 _ rfl
        have z1 := zB.cell 1 _ rfl
        have z2 := zB.cell 2 _ rfl
        have z3 := zB.cell 3 _ rfl
        have z4 := zB.cell 4 _ rfl
        exact bodyPost_ret (v := .tuple #[.agg #[.slice za zn zc, .slice ka kn kc, .int .i64 bh, .int .i64 bt, .slice a n c], .int .i64 0]) (by simp [results, Tryd.results17, go_sem, z0, z1, z2, z3, z4]) rfl
          ⟨⟨⟨⟨za, zn, zc, Z, ka, kn, kc, bk, bh, bt⟩, a, n, c, L⟩, by rw [H0.out]; rfl, hok.but hbut.but (hnew1 _ (by omega)), hnew1.mono (by omega), by rw [H0.out]⟩, bw.trans (hbut.below (B := w.heap.size) (by omega))⟩

end Go.Proofs.YtcmladgldjcdmaaDoor

/- The contract of hall.Same; no condition but that the arguments read as data. -/
namespace Go.Proofs.YtcmladgldjcdmaaDoor
open Go.RowKit
set_option linter.unusedVariables false
set_option maxRecDepth 100000
set_option linter.unusedSimpArgs false

theorem sameL_eq (x y : PL) : sameL x y = (x.s == y.s && sameA x.a y.a) := by
  have e : decide (x.s = y.s) = (x.s == y.s) := by rw [Bool.eq_iff_iff]; simp
  unfold sameL
  rw [e]

theorem hsame1_c (x y : LV) (w : World) (hx : x.ok w) (hy : y.ok w) : Calls Tryd.prog 20 #[x.v, y.v] w fun e w' => e = .returned (.bool (sameL x.p y.p)) ∧ Below w.heap.size w w' := by
  have HA := hide (fun w' (h1 : x.x.ok w') (h2 : y.x.ok w') => psameA_c x.x y.x w' h1 h2)
  have HS : Hid (sameL x.p y.p = (x.s == y.s && sameA x.x.p y.x.p)) := hide (sameL_eq x.p y.p)
  obtain ⟨s1, ⟨e1, t1, a1, n1, c1, l1⟩⟩ := x
  obtain ⟨s2, ⟨e2, t2, a2, n2, c2, l2⟩⟩ := y
  generalize sameL _ _ = r at *
  generalize sameA _ _ = sa at *
  dsimp only [LV.v, AV.v] at *
  cases he : s1 == s2
  · go_enter Tryd.func20, Tryd.ntmps20
    go_wp2
    go_ret
    exact ⟨ret_bool (by rw [HS.out, he]; rfl), by (repeat first | exact bel0 | assumption | refine bel1 ?_ | refine bel2 ?_ | refine bel3 ?_ | refine belowT ?_ (by assumption) | refine bel5 ?_ (by simp; try omega))⟩
  · go_enter Tryd.func20, Tryd.ntmps20
    go_wp2_with fail
    refine (HA.out _ (AV.ok.below hx (B := w.heap.size) (by (repeat first | exact bel0 | assumption | refine bel1 ?_ | refine bel2 ?_ | refine bel3 ?_ | refine belowT ?_ (by assumption) | refine bel5 ?_ (by simp; try omega))) (Nat.le_refl _)) (AV.ok.below hy (B := w.heap.size) (by (repeat first | exact bel0 | assumption | refine bel1 ?_ | refine bel2 ?_ | refine bel3 ?_ | refine belowT ?_ (by assumption) | refine bel5 ?_ (by simp; try omega))) (Nat.le_refl _))).mono ?_
    rintro e w1 ⟨rfl, hb1⟩
    go_wp2
    go_ret
    exact ⟨ret_bool (by rw [HS.out, he]; rfl), by (repeat first | exact bel0 | assumption | refine bel1 ?_ | refine bel2 ?_ | refine bel3 ?_ | refine belowT ?_ (by assumption) | refine bel5 ?_ (by simp; try omega))⟩


set_option maxRecDepth 100000 in
set_option maxHeartbeats 4000000 in
theorem EqL_some (b1 o1 m1 b2 o2 m2 n : Nat) (X Y : List LV) (w : World) (h1 : Lasts w (some ⟨b1, o1, none⟩) n m1 X) (h2 : Lasts w (some ⟨b2, o2, none⟩) n m2 Y)
    (hr1 : ∀ i x, X[i]? = some x → ∀ j v, x.cells[j]? = some v → w.cell? ⟨b1, o1 + i * 4 + j, none⟩ = some v)
    (hr2 : ∀ i x, Y[i]? = some x → ∀ j v, x.cells[j]? = some v → w.cell? ⟨b2, o2 + i * 4 + j, none⟩ = some v) :
    Calls Tryd.prog 19 #[.slice (some ⟨b1, o1, none⟩) n m1, .slice (some ⟨b2, o2, none⟩) n m2, .func (Fn.func 20) #[] #[]] w fun e w' => e = .returned (.bool (sameLs (X.map LV.p) (Y.map LV.p))) ∧ Below w.heap.size w w' := by
  have hlen1 := hide h1.len
  have hlen2 := hide h2.len
  have hmax := h1.max
  have hle := h1.le
  go_enter Tryd.func19, Tryd.ntmps19
  go_wp2
  go_loopw [17] (fun i wr => ∃ k : Nat, k ≤ n ∧ i = .int .i64 k ∧ (X.take k).map LV.p = (Y.take k).map LV.p ∧ Below w.heap.size w wr) (fun i _ => n - (intOf i).toNat)
  case atStart => exact ⟨0, by omega, rfl, by simp, Below.refl _ _⟩
  case round =>
    obtain ⟨k, hk, rfl, hp, hbr⟩ := hrel
    have HP := hide hp
    clear hp
    rename_i wr
    by_cases hlt : k < n
    · obtain ⟨x, hx⟩ : ∃ z, X[k]? = some z := ⟨X[k]'(by rw [hlen1.out]; exact hlt), by simp⟩
      obtain ⟨y, hy⟩ : ∃ z, Y[k]? = some z := ⟨Y[k]'(by rw [hlen2.out]; exact hlt), by simp⟩
      have ix := LV.ok.below (h1.ok x (List.mem_of_getElem? hx)) hbr (Nat.le_refl _)
      have iy := LV.ok.below (h2.ok y (List.mem_of_getElem? hy)) hbr (Nat.le_refl _)
      have HZ := hide hx
      have HY := hide hy
      have HS := hide (fun w' h k => hsame1_c x y w' h k)
      have HT : Hid (sameL x.p y.p = true → x.p = y.p) := hide (sameL_iff _ _).1
      have HF : Hid (sameL x.p y.p = false → x.p ≠ y.p) := hide (fun h e => by rw [(sameL_iff _ _).2 e] at h; cases h)
      have kx := hr1 k x hx
      have ky := hr2 k y hy
      clear hx hy
      generalize hsm : sameL x.p y.p = sm at *
      clear hsm
      obtain ⟨s1, ⟨e1, t1, a1, n1, c1, d1⟩⟩ := x
      obtain ⟨s2, ⟨e2, t2, a2, n2, c2, d2⟩⟩ := y
      dsimp only [LV.v] at HS
      have x0 := keepc hbr (kx 0 _ rfl)
      have x1 := keepc hbr (kx 1 _ rfl)
      have x2 := keepc hbr (kx 2 _ rfl)
      have x3 := keepc hbr (kx 3 _ rfl)
      have y0 := past1 (keepc hbr (ky 0 _ rfl))
      have y1 := past1 (keepc hbr (ky 1 _ rfl))
      have y2 := past1 (keepc hbr (ky 2 _ rfl))
      have y3 := past1 (keepc hbr (ky 3 _ rfl))
      rw [Nat.add_zero] at x0 y0
      clear kx ky
      have hlt' : (k : Int) < (n : Int) := by omega
      go_wp2_with fail
      refine (HS.out _ (LV.ok.below ix (B := wr.heap.size) (by (repeat first | exact bel0 | assumption | refine bel1 ?_ | refine bel2 ?_ | refine bel3 ?_ | refine belowT ?_ (by assumption) | refine bel5 ?_ (by simp; try omega))) (Nat.le_refl _)) (LV.ok.below iy (B := wr.heap.size) (by (repeat first | exact bel0 | assumption | refine bel1 ?_ | refine bel2 ?_ | refine bel3 ?_ | refine belowT ?_ (by assumption) | refine bel5 ?_ (by simp; try omega))) (Nat.le_refl _))).mono ?_
      rintro e w9 ⟨rfl, hb9⟩
      have b9 : Below w.heap.size w w9 := by (repeat first | exact bel0 | assumption | refine bel1 ?_ | refine bel2 ?_ | refine bel3 ?_ | refine belowT ?_ (by assumption) | refine bel5 ?_ (by simp; try omega))
      clear hb9
      cases sm
      · have HNE := hide (HF.out rfl)
        clear HF HT
        go_wp2
        go_ret
        refine ⟨ret_bool (sameLs_f fun e => ?_).symm, b9⟩
        have := congrArg (fun L => L[k]?) e
        simp only [List.getElem?_map, HZ.out, HY.out, Option.map_some, Option.some.injEq] at this
        exact HNE.out this
      · have HEQ := hide (HT.out rfl)
        clear HF HT
        go_wp2
        have e := HEQ.out
        refine ⟨⟨k + 1, by omega, by go_num, ?_, b9⟩, by simp [intOf]; omega⟩
        obtain ⟨g1, g2⟩ := List.getElem?_eq_some_iff.1 HZ.out
        obtain ⟨g3, g4⟩ := List.getElem?_eq_some_iff.1 HY.out
        rw [List.take_succ_eq_append_getElem g1, List.take_succ_eq_append_getElem g3, List.map_append, List.map_append, HP.out, g2, g4]
        simpa using e
    · obtain rfl : k = n := by omega
      go_wp2
      go_ret
      have hp := HP.out
      rw [List.take_of_length_le (by rw [hlen1.out]; omega), List.take_of_length_le (by rw [hlen2.out]; omega)] at hp
      exact ⟨ret_bool (sameLs_t hp).symm, hbr⟩

theorem EqL_ne (a1 a2 : Option Addr) (n1 n2 c1 c2 : Nat) (fv : Value) (w : World) (hne : n1 ≠ n2) (hm1 : n1 ≤ 9223372036854775807) (hm2 : n2 ≤ 9223372036854775807) :
    Calls Tryd.prog 19 #[.slice a1 n1 c1, .slice a2 n2 c2, fv] w fun e w' => e = .returned (.bool false) ∧ w' = w := by
  have hb : ((n1 : Int) != (n2 : Int)) = true := by simp; omega
  go_enter Tryd.func19, Tryd.ntmps19
  go_wp2
  go_ret
  exact ⟨rfl, rfl⟩

theorem EqL_zero (a1 a2 : Option Addr) (c1 c2 : Nat) (fv : Value) (w : World) :
    Calls Tryd.prog 19 #[.slice a1 0 c1, .slice a2 0 c2, fv] w fun e w' => e = .returned (.bool true) ∧ w' = w := by
  go_enter Tryd.func19, Tryd.ntmps19
  go_wp2
  refine wp_loop_rounds 1 ?_
  rw [rounds_succ]
  go_wp2
  go_ret
  exact ⟨rfl, rfl⟩

theorem EqL_c (a1 a2 : Option Addr) (n1 n2 c1 c2 : Nat) (X Y : List LV) (w : World) (h1 : Lasts w a1 n1 c1 X) (h2 : Lasts w a2 n2 c2 Y) :
    Calls Tryd.prog 19 #[.slice a1 n1 c1, .slice a2 n2 c2, .func (Fn.func 20) #[] #[]] w fun e w' => e = .returned (.bool (sameLs (X.map LV.p) (Y.map LV.p))) ∧ Below w.heap.size w w' := by
  by_cases hn : n1 = n2
  · subst hn
    by_cases h0 : n1 = 0
    · subst h0
      have e1 := h1.len
      have e2 := h2.len
      rw [List.length_eq_zero_iff] at e1 e2
      subst e1 e2
      refine (EqL_zero a1 a2 c1 c2 _ w).mono ?_
      rintro e w' ⟨rfl, rfl⟩
      exact ⟨rfl, Below.refl _ _⟩
    · rcases h1.row with h | ⟨b1, o1, rfl, _, hr1⟩
      · omega
      · rcases h2.row with h | ⟨b2, o2, rfl, _, hr2⟩
        · omega
        · exact EqL_some b1 o1 c1 b2 o2 c2 n1 X Y w h1 h2 hr1 hr2
  · have m1 := h1.max
    have m2 := h2.max
    have q1 := h1.le
    have q2 := h2.le
    refine (EqL_ne a1 a2 n1 n2 c1 c2 _ w hn (by omega) (by omega)).mono ?_
    rintro e w' ⟨rfl, rfl⟩
    refine ⟨ret_bool (sameLs_f fun e => hn ?_).symm, Below.refl _ _⟩
    have := congrArg List.length e
    rw [List.length_map, List.length_map, h1.len, h2.len] at this
    exact this


set_option maxHeartbeats 1000000 in
theorem HSame_c (h f : HV) (w : World) (hk : h.ok w) (hf : f.ok w) : Calls Tryd.prog 7 #[h.v, f.v] w fun e w' => e = .returned (.bool (sameH h.p f.p)) ∧ Below w.heap.size w w' := by
  have HD := hide (fun w' (h1 : h.d.ok w') (h2 : f.d.ok w') => DSame_c h.d f.d w' h1 h2)
  have HL := hide (fun w' h1 h2 => EqL_c h.a f.a h.n f.n h.c f.c h.L f.L w' h1 h2)
  have HS : Hid (sameH h.p f.p = (sameD h.d.p f.d.p && sameLs (h.L.map LV.p) (f.L.map LV.p))) := hide rfl
  obtain ⟨x0, x1, bw⟩ := two_boxes w h.cells f.cells 30 30
  have hok := hk.below bw (Nat.le_refl _)
  have fok := hf.below bw (Nat.le_refl _)
  generalize sameH _ _ = r at *
  generalize sameD _ _ = sd at *
  generalize sameLs _ _ = sl at *
  rw [show h.v = .agg h.cells.toArray from rfl, show f.v = .agg f.cells.toArray from rfl] at *
  obtain ⟨⟨za, zn, zc, Z, ka, kn, kc, bk, bh, bt⟩, a, n, c, L⟩ := h
  obtain ⟨⟨ya, yn, yc, Y, la, ln, lc, fk, fh, ft⟩, b, m, d, M⟩ := f
  dsimp only [HV.cells, DV.v] at *
  go_enter Tryd.func7, Tryd.ntmps7
  go_wp2_with fail
  refine (HD.out _ hok.d fok.d).mono ?_
  rintro e w1 ⟨rfl, hb1⟩
  have c1 := keepc hb1 (x0.cell 4 _ rfl)
  have c2 := keepc hb1 (x1.cell 4 _ rfl)
  replace hok := hok.below hb1 (Nat.le_refl _)
  replace fok := fok.below hb1 (Nat.le_refl _)
  replace bw := belowT bw hb1
  clear hb1 x0 x1
  cases sd
  · go_wp2
    go_ret
    exact ⟨ret_bool (by rw [HS.out]; rfl), bw⟩
  · go_wp2_with fail
    refine (HL.out _ hok.l fok.l).mono ?_
    rintro e w2 ⟨rfl, hb2⟩
    go_wp2
    go_ret
    exact ⟨ret_bool (by rw [HS.out]; simp), belowT bw hb2⟩


end Go.Proofs.YtcmladgldjcdmaaDoor

/- The contract of puts; no condition. -/
namespace Go.Proofs.YtcmladgldjcdmaaDoor
open Go.RowKit
set_option linter.unusedVariables false
set_option maxRecDepth 100000
set_option linter.unusedSimpArgs false

def cP (n : Int) : PC := ⟨5, 1, 0, 0, [n]⟩
theorem puts_c (n : Int) (hn : -9223372036854775808 ≤ n ∧ n ≤ 9223372036854775807) (w : World) : Calls Tryd.prog 15 #[.int .i64 n] w fun e w' => (∃ q, e = .returned (.agg #[.int .i64 5, .int .i64 1, .int .i64 0, .int .i64 0, .slice (some ⟨q, 0, none⟩) 1 1]) ∧ Ints w' (some ⟨q, 0, none⟩) 1 1 [n] ∧ w.heap.size ≤ q) ∧ Below w.heap.size w w' := by
  go_enter Tryd.func15, Tryd.ntmps15
  go_wp2
  have zB := (Lay.made w [.int .i64 5, .int .i64 1, .int .i64 0, .int .i64 0, .slice (some ⟨w.heap.size + 1, 0, none⟩) 1 1] 32).below (belowA (Below.refl _ _) (.cells #[.int .i64 n] 3))
  have i := Ints.of_row (l := [n]) (heap_new (w.alloc (.cells [.int .i64 5, .int .i64 1, .int .i64 0, .int .i64 0, .slice (some ⟨w.heap.size + 1, 0, none⟩) 1 1].toArray 32)) (.cells #[.int .i64 n] 3)) (by simp) (by simpa using hn) (n := 1) rfl
  simp only [World.size_alloc] at i
  have z0 := zB.cell 0 _ rfl
  have z1 := zB.cell 1 _ rfl
  have z2 := zB.cell 2 _ rfl
  have z3 := zB.cell 3 _ rfl
  have z4 := zB.cell 4 _ rfl
  exact bodyPost_ret (v := .agg #[.int .i64 5, .int .i64 1, .int .i64 0, .int .i64 0, .slice (some ⟨w.heap.size + 1, 0, none⟩) 1 1]) (by simp [results, Tryd.results15, go_sem, z0, z1, z2, z3, z4]) rfl
    ⟨⟨w.heap.size + 1, rfl, i, by omega⟩, by (repeat first | exact bel0 | assumption | refine bel1 ?_ | refine bel2 ?_ | refine bel3 ?_ | refine belowT ?_ (by assumption) | refine bel5 ?_ (by simp; try omega))⟩

end Go.Proofs.YtcmladgldjcdmaaDoor

/- What the law's closed fact on halls comes to, in plain words; the contract of puts; no condition. -/
namespace Go.Proofs.YtcmladgldjcdmaaDoor
open Go.RowKit
set_option linter.unusedVariables false
set_option maxRecDepth 100000
set_option linter.unusedSimpArgs false

def hO1 : PH := ⟨⟨[(0, []), (1, [5]), (0, []), (0, [])], freshB⟩, [zeroL, ⟨1, ⟨0, 0, []⟩⟩, zeroL]⟩
def hO2 : PH := ⟨⟨[(0, []), (1, [5, 6]), (0, []), (0, [])], freshB⟩, [zeroL, ⟨2, ⟨0, 1, []⟩⟩, zeroL]⟩
def hO3 : PH := ⟨⟨[(0, []), (1, [5, 6]), (0, []), (0, [])], freshB⟩, [⟨1, ⟨0, 1, []⟩⟩, ⟨1, ⟨0, 0, []⟩⟩, zeroL]⟩
theorem onc1 : nextH freshH ⟨1, 1, cP 5⟩ = (hO1, ⟨0, 0, []⟩, 0) := by rfl
theorem onc2 : nextH hO1 ⟨1, 1, cP 5⟩ = (hO1, ⟨0, 0, []⟩, 0) := by rfl
theorem onc3 : nextH hO1 ⟨1, 2, cP 6⟩ = (hO2, ⟨0, 1, []⟩, 0) := by rfl
theorem onc4 : nextH hO1 ⟨1, 3, cP 6⟩ = (zeroH, zeroA, 6) := by rfl
theorem onc5 : replayH [⟨1, 1, cP 5⟩, ⟨0, 1, cP 6⟩] = (hO3, 0) := by rfl
theorem onc6 : checkH hO3 = 0 := by rfl

/-- Next in plain words. -/
theorem Next_k (h : HV) (r : RV) {P : PH} {R : PR} {X : PH × PA × Int} (hp : h.p = P) (rp : r.p = R) (e : nextH P R = X) (w : World) (hS : Shapes w) (hk : h.ok w) (hr : r.ok w) :
    Calls Tryd.prog 5 #[.agg #[.slice h.d.za h.d.zn h.d.zc, .slice h.d.ka h.d.kn h.d.kc, .int .i64 h.d.b.h, .int .i64 h.d.b.t, .slice h.a h.n h.c], .agg #[.int .i64 r.p.w, .int .i64 r.p.s, .int .i64 r.p.c.k, .int .i64 r.p.c.z, .int .i64 r.p.c.n, .int .i64 r.p.c.at', .slice r.a r.n r.c]] w fun e w' => Nexts X w e w' := by
  have q := Next_c h r w hS hk hr
  rw [hp, rp, e] at q
  exact q

/-- A block of the call's own that holds records. -/
theorem Recs.of_lay {w : World} {g : Nat} {X : List RV} (h : Lay w g (rcells X)) (hok : ∀ x ∈ X, x.ok w) {n : Nat} (hn : X.length = n) (hm : n ≤ 9223372036854775807) : Recs w (some ⟨g, 0, none⟩) n n X := by
  subst hn
  refine ⟨rfl, Nat.le_refl _, hm, fun e => (by cases e), .inr ⟨g, 0, rfl, h.lt, fun i y hy j v hv => ?_⟩, hok⟩
  have := h.cell _ _ (rcells_get X i y hy j v hv)
  simpa using this
theorem recs6 {w : World} {q5 q6 g : Nat} (h : Lay w g [.int .i64 1, .int .i64 1, .int .i64 5, .int .i64 1, .int .i64 0, .int .i64 0, .slice (some ⟨q5, 0, none⟩) 1 1, .int .i64 0, .int .i64 1, .int .i64 5, .int .i64 1, .int .i64 0, .int .i64 0, .slice (some ⟨q6, 0, none⟩) 1 1]) (h5 : Ints w (some ⟨q5, 0, none⟩) 1 1 [5]) (h6 : Ints w (some ⟨q6, 0, none⟩) 1 1 [6]) : Recs w (some ⟨g, 0, none⟩) 2 2 [⟨⟨1, 1, cP 5⟩, some ⟨q5, 0, none⟩, 1, 1⟩, ⟨⟨0, 1, cP 6⟩, some ⟨q6, 0, none⟩, 1, 1⟩] :=
  Recs.of_lay (X := [⟨⟨1, 1, cP 5⟩, some ⟨q5, 0, none⟩, 1, 1⟩, ⟨⟨0, 1, cP 6⟩, some ⟨q6, 0, none⟩, 1, 1⟩]) h (fun x hx => by
    simp only [List.mem_cons, List.not_mem_nil, or_false] at hx
    rcases hx with rfl | rfl
    · exact h5
    · exact h6) rfl (by omega)
theorem Replay_k (la : Option Addr) (ln lc : Nat) (X : List RV) {R : List PR} {Y : PH × Int} (hr : X.map RV.p = R) (e : replayH R = Y) (w : World) (hS : Shapes w) (hX : Recs w la ln lc X) : Calls Tryd.prog 17 #[.slice la ln lc] w fun e w' => Replays Y w e w' := by
  have q := Replay_c la ln lc X w hS hX
  rw [hr, e] at q
  exact q
/-- The second zone of what was replayed. -/
theorem zone1 {h : HV} {w : World} (hk : h.ok w) (hp : h.p = hO3) : ∃ b off z, h.d.za = some ⟨b, off, none⟩ ∧ h.d.zn = 4 ∧ w.cell? ⟨b, off + 2 + 1, none⟩ = some (.slice (ZV.a z) 2 z.c) := by
  have hz : h.d.Z.map ZV.p = [(0, []), (1, [5, 6]), (0, []), (0, [])] := congrArg (fun x => x.d.P) hp
  have hl := congrArg List.length hz
  rw [List.length_map] at hl
  have h4 : h.d.zn = 4 := by rw [← hk.d.z.len, hl]; rfl
  obtain ⟨b, off, ha, _, hr⟩ := hk.d.z.row.resolve_left (by omega)
  obtain ⟨z, hz1⟩ : ∃ z, h.d.Z[1]? = some z := ⟨_, List.getElem?_eq_getElem (by rw [hl]; decide)⟩
  have e : z.p = (1, [5, 6]) := by
    have := congrArg (fun l => l[1]?) hz
    simpa [hz1] using this
  have hn : z.n = 2 := by
    rw [← (hk.d.z.ok z (List.mem_of_getElem? hz1)).len]
    have : z.l = [5, 6] := congrArg Prod.snd e
    rw [this]
    rfl
  have := (hr 1 z hz1).2
  rw [hn] at this
  exact ⟨b, off, z, ha, h4, by simpa using this⟩

end Go.Proofs.YtcmladgldjcdmaaDoor
