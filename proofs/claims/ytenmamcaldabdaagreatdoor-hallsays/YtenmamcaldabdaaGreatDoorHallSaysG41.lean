/- The contract of hall.Replay: it answers what the plain functions say, in new memory, and leaves what was there as it was; no condition but that the arguments read as data and the package's table is as its text lays it. -/
import Derived.Test.YtenmamcaldabdaaGreatDoorHallSaysG40
import Derived.Test.YtenmamcaldabdaaGreatDoorHallSaysG12
import Derived.Test.YtenmamcaldabdaaGreatDoorHallSaysG20
import Derived.Test.YtenmamcaldabdaaGreatDoorHallSaysG35
namespace Go.Proofs.YtenmamcaldabdaaGreatDoor
open Go.RowKit
set_option linter.unusedVariables false
set_option maxRecDepth 100000
set_option linter.unusedSimpArgs false

theorem replay_step {X : List PR} {k : Nat} {r : PR} {hp : PH} (hr : X[k]? = some r) (h : replayF freshH (X.take k) = (hp, 0)) (e : (nextH hp r).2.2 = 0) : replayF freshH (X.take (k + 1)) = ((nextH hp r).1, 0) := by
  obtain ⟨g1, g2⟩ := List.getElem?_eq_some_iff.1 hr
  rw [List.take_succ_eq_append_getElem g1, replay_app _ _ _ (by rw [h]), h, g2, replay_cons, if_neg (by simp [e]), replay_nil]
theorem replay_fail {X : List PR} {k : Nat} {r : PR} {hp : PH} (hr : X[k]? = some r) (h : replayF freshH (X.take k) = (hp, 0)) (e : (nextH hp r).2.2 ≠ 0) : replayF freshH X = (zeroH, (nextH hp r).2.2) := by
  obtain ⟨g1, g2⟩ := List.getElem?_eq_some_iff.1 hr
  have hx : X = X.take k ++ r :: X.drop (k + 1) := by
    rw [← g2]
    simp
  rw [hx, replay_app _ _ _ (by rw [h]), h, replay_cons, if_pos e]

/-- What Replay leaves. -/
def Replays (r : PH × Int) (w : World) (e : Ending) (w' : World) : Prop :=
  (∃ h' : HV, e = .returned (.tuple #[h'.v, .int .i64 r.2]) ∧ h'.ok w' ∧ h'.new w.heap.size ∧ h'.p = r.1) ∧ Below w.heap.size w w'

set_option maxRecDepth 100000 in
set_option maxHeartbeats 4000000 in
theorem Replay_c (la : Option Addr) (ln lc : Nat) (X : List RV) (w : World) (hS : Shapes w) (hX : Recs w la ln lc X) : Calls Tryz.prog 6 #[.slice la ln lc] w fun e w' => Replays (replayH (X.map RV.p)) w e w' := by
  have hlen := hX.len
  have hmax := hX.max
  have hle := hX.le
  have x2 := Lay.made w [.slice none 0 0, .slice none 0 0, .int .i64 0, .int .i64 0, .slice none 0 0] 30
  have bw : Below w.heap.size w (w.alloc (.cells [.slice none 0 0, .slice none 0 0, .int .i64 0, .int .i64 0, .slice none 0 0].toArray 30)) := by (repeat (first | exact Below.refl _ _ | assumption | refine Below.drew ?_ | refine below_drewN ?_ _ | refine belowA ?_ _ | refine belowT ?_ (by assumption) | refine Below.setCell ?_ (by first | (simp; done) | (simp; omega)) _))
  by_cases h80 : 80 < ln
  · have HR : Hid (replayH (X.map RV.p) = (zeroH, 2)) := hide (by unfold replayH; rw [if_pos (by rw [List.length_map, hlen]; exact h80)])
    generalize replayH _ = rr at *
    have h8' : (80 : Int) < (ln : Int) := by omega
    have e0 := x2.cell 0 _ rfl
    have e1 := x2.cell 1 _ rfl
    have e2 := x2.cell 2 _ rfl
    have e3 := x2.cell 3 _ rfl
    have e4 := x2.cell 4 _ rfl
    have f0 := x2.ice 0
    have f1 := x2.ice 1
    have f2 := x2.ice 2
    have f3 := x2.ice 3
    have f4 := x2.ice 4
    go_enter Tryz.func6, Tryz.ntmps6
    go_wp2
    have z0 := (Lay.made w [.slice none 0 0, .slice none 0 0, .int .i64 0, .int .i64 0, .slice none 0 0] 30)
    exact bodyPost_ret (v := .tuple #[.agg #[.slice none 0 0, .slice none 0 0, .int .i64 0, .int .i64 0, .slice none 0 0], .int .i64 2]) (by simp [results, Tryz.results6, go_sem, e0, e1, e2, e3, e4]) rfl
      ⟨⟨HV.zero, by rw [HR.out]; rfl, HV.zero_ok _, HV.zero_new _, by rw [HR.out]; rfl⟩, bw⟩
  · have HR : Hid (replayH (X.map RV.p) = replayF freshH (X.map RV.p)) := hide (by unfold replayH; rw [if_neg (by rw [List.length_map, hlen]; exact h80)])
    generalize replayH _ = rr at *
    have h8' : ¬ (80 : Int) < (ln : Int) := by omega
    have HLN := hide hlen
    clear hlen
    go_enter Tryz.func6, Tryz.ntmps6
    go_wp2_with fail
    refine (HNew_c _).mono ?_
    rintro e w1 ⟨⟨h0, rfl, hok, hnew, hp0⟩, hb1⟩
    replace x2 := x2.below hb1
    replace bw := belowT bw hb1
    clear hb1
    have hnew1 := hnew.mono (show w.heap.size + 1 ≤ _ by simp)
    have hoff0 := hok.off (Nat.le_refl _)
    have hst : replayF freshH ((X.map RV.p).take 0) = (h0.p, 0) := by rw [hp0]; rfl
    have HST := hide hst
    obtain ⟨⟨za, zn, zc, Z, ka, kn, kc, bk, bh, bt⟩, a, n, c, L⟩ := h0
    dsimp only [HV.v] at *
    clear hst hp0 hnew
    go_upto_region 4 with fail
    have xH := Lay.made w1 [.slice za zn zc, .slice ka kn kc, .int .i64 bh, .int .i64 bt, .slice a n c] 30
    have bn := belowA (Below.refl _ w1) (.cells [.slice za zn zc, .slice ka kn kc, .int .i64 bh, .int .i64 bt, .slice a n c].toArray 30)
    have hlt2 := x2.lt
    replace x2 := x2.below bn
    replace hok := hok.below bn (Nat.le_refl _)
    replace bw := belowT bw bn
    generalize w1.heap.size = H at *
    generalize w1.alloc (.cells [.slice za zn zc, .slice ka kn kc, .int .i64 bh, .int .i64 bt, .slice a n c].toArray 30) = w2 at *
    clear bn
    go_wp2_with fail
    go_loopw [17] (fun i wr => ∃ (k : Nat) (hv : HV), k ≤ ln ∧ i = .int .i64 (k : Nat) ∧ Lay wr w.heap.size [.slice none 0 0, .slice none 0 0, .int .i64 0, .int .i64 0, .slice none 0 0] ∧ Lay wr H hv.cells ∧ hv.ok wr ∧ hv.new (w.heap.size + 1) ∧ hv.off H ∧ replayF freshH ((X.map RV.p).take k) = (hv.p, 0) ∧ Below w.heap.size w wr) (fun i _ => ln - (intOf i).toNat)
    case atStart => exact ⟨0, ⟨⟨za, zn, zc, Z, ka, kn, kc, bk, bh, bt⟩, a, n, c, L⟩, by omega, rfl, x2, xH, hok, hnew1, hoff0, HST.out, bw⟩
    case round =>
      clear x2 xH hok hnew1 hoff0 HST bw
      obtain ⟨k, hv, hk, rfl, x2, xH, hok, hnew1, hoffH, hst, bw⟩ := hrel
      rename_i wr
      have HST := hide hst
      clear hst
      by_cases hlt : k < ln
      · obtain ⟨x, hx⟩ : ∃ z, X[k]? = some z := ⟨X[k]'(by rw [HLN.out]; exact hlt), by simp⟩
        obtain ⟨lb, lo, rfl, hlb, hcl⟩ := hX.row.resolve_left (by omega)
        have kx := hcl k x hx
        have hxk := RV.ok.below (hX.ok x (List.mem_of_getElem? hx)) bw (Nat.le_refl _)
        have hxp : (X.map RV.p)[k]? = some x.p := by rw [List.getElem?_map, hx]; rfl
        have HN := hide (fun w' hS' h' k' => Next_c hv x w' hS' h' k')
        have HS1 : Hid ((nextH hv.p x.p).2.2 = 0 → replayF freshH ((X.map RV.p).take (k + 1)) = ((nextH hv.p x.p).1, 0)) := hide (fun e => replay_step hxp HST.out e)
        have HS2 : Hid ((nextH hv.p x.p).2.2 ≠ 0 → rr = (zeroH, (nextH hv.p x.p).2.2)) := hide (fun e => by rw [HR.out]; exact replay_fail hxp HST.out e)
        generalize nextH hv.p x.p = nh at *
        rw [show hv.v = .agg hv.cells.toArray from rfl, show x.v = .agg x.cells.toArray from rfl] at HN
        clear hx hxp HST
        obtain ⟨⟨za, zn, zc, Z, ka, kn, kc, bk, bh, bt⟩, a, n, c, L⟩ := hv
        obtain ⟨⟨rq, rs, ⟨k1, z1, u1, t1, d1⟩⟩, ra, rn, rc⟩ := x
        dsimp only [HV.cells, RV.cells] at *
        have c0 := keepc bw (kx 0 _ rfl)
        have c1 := keepc bw (kx 1 _ rfl)
        have c2 := keepc bw (kx 2 _ rfl)
        have c3 := keepc bw (kx 3 _ rfl)
        have c4 := keepc bw (kx 4 _ rfl)
        have c5 := keepc bw (kx 5 _ rfl)
        have c6 := keepc bw (kx 6 _ rfl)
        rw [Nat.add_zero] at c0
        have q0 := past1 (xH.cell 0 _ rfl)
        have q1 := past1 (xH.cell 1 _ rfl)
        have q2 := past1 (xH.cell 2 _ rfl)
        have q3 := past1 (xH.cell 3 _ rfl)
        have q4 := past1 (xH.cell 4 _ rfl)
        have hlt' : (k : Int) < (ln : Int) := by omega
        clear kx hcl
        go_wp2_with fail
        refine (HN.out _ (hS.below (by (repeat (first | exact Below.refl _ _ | assumption | refine Below.drew ?_ | refine below_drewN ?_ _ | refine belowA ?_ _ | refine belowT ?_ (by assumption) | refine Below.setCell ?_ (by first | (simp; done) | (simp; omega)) _)))) (hok.below (B := wr.heap.size) (by (repeat (first | exact Below.refl _ _ | assumption | refine Below.drew ?_ | refine below_drewN ?_ _ | refine belowA ?_ _ | refine belowT ?_ (by assumption) | refine Below.setCell ?_ (by first | (simp; done) | (simp; omega)) _))) (Nat.le_refl _)) (RV.ok.below hxk (B := wr.heap.size) (by (repeat (first | exact Below.refl _ _ | assumption | refine Below.drew ?_ | refine below_drewN ?_ _ | refine belowA ?_ _ | refine belowT ?_ (by assumption) | refine Below.setCell ?_ (by first | (simp; done) | (simp; omega)) _))) (Nat.le_refl _))).mono ?_
        rintro e w3 ⟨⟨⟨⟨ya, yn, yc, Y, yk, ym, yl, yj, yh, yt⟩, yb, yo, yp, M⟩, ⟨ae, at', aa, an, ac, ad⟩, rfl, ok3, oka, new3, _, p3, _⟩, hb3⟩
        have b3 : Below wr.heap.size wr w3 := by (repeat (first | exact Below.refl _ _ | assumption | refine Below.drew ?_ | refine below_drewN ?_ _ | refine belowA ?_ _ | refine belowT ?_ (by assumption) | refine Below.setCell ?_ (by first | (simp; done) | (simp; omega)) _))
        have hHl := xH.lt
        have h2l := x2.lt
        replace x2 := x2.below b3
        replace xH := xH.below b3
        replace bw := belowT bw b3
        have newW := new3.mono (show wr.heap.size ≤ _ by simp)
        have P3 := hide p3
        clear q0 q1 q2 q3 q4 c0 c1 c2 c3 c4 c5 c6 hb3 HN oka p3 new3 hok hoffH hnew1 hxk
        dsimp only [HV.v, AV.v]
        go_upto_region 8 with fail
        obtain ⟨y7, _, bn⟩ := two_boxes w3 [.slice ya yn yc, .slice yk ym yl, .int .i64 yh, .int .i64 yt, .slice yb yo yp] [.int .i64 ae, .int .i64 at', .slice aa an ac] 30 38
        replace x2 := x2.below bn
        replace xH := xH.below bn
        replace ok3 := ok3.below bn (Nat.le_refl _)
        replace bw := belowT bw bn
        have hs3 := b3.size
        have hne7 : w3.heap.size ≠ H := by omega
        clear bn
        generalize w3.heap.size = B7 at *
        generalize (w3.alloc (.cells [.slice ya yn yc, .slice yk ym yl, .int .i64 yh, .int .i64 yt, .slice yb yo yp].toArray 30)).alloc (.cells [.int .i64 ae, .int .i64 at', .slice aa an ac].toArray 38) = w4 at *
        clear b3
        cases hb : nh.2.2 != 0
        · have H0 := hide (HS1.out (by simpa using hb))
          clear HS1 HS2
          have e0 := xH.cell 0 _ rfl
          have e1 := xH.cell 1 _ rfl
          have e2 := xH.cell 2 _ rfl
          have e3 := xH.cell 3 _ rfl
          have e4 := xH.cell 4 _ rfl
          have f0 := xH.ice 0
          have f1 := xH.ice 1
          have f2 := xH.ice 2
          have f3 := xH.ice 3
          have f4 := xH.ice 4
          have q0 := y7.cell 0 _ rfl
          have q1 := y7.cell 1 _ rfl
          have q2 := y7.cell 2 _ rfl
          have q3 := y7.cell 3 _ rfl
          have q4 := y7.cell 4 _ rfl
          go_wp2
          have zB := ((((xH.set 0 (.slice ya yn yc)).set 1 (.slice yk ym yl)).set 2 (.int .i64 yh)).set 3 (.int .i64 yt)).set 4 (.slice yb yo yp)
          have hbut := (((((ButI.refl (H) w4).step 0 (.slice ya yn yc)).step 1 (.slice yk ym yl)).step 2 (.int .i64 yh)).step 3 (.int .i64 yt)).step 4 (.slice yb yo yp)
          generalize ((((w4.setCell ⟨H, 0, none⟩ (.slice ya yn yc)).setCell ⟨H, 1, none⟩ (.slice yk ym yl)).setCell ⟨H, 2, none⟩ (.int .i64 yh)).setCell ⟨H, 3, none⟩ (.int .i64 yt)).setCell ⟨H, 4, none⟩ (.slice yb yo yp) = w5 at *
          have z0 := zB.cell 0 _ rfl
          have z1 := zB.cell 1 _ rfl
          have z2 := zB.cell 2 _ rfl
          have z3 := zB.cell 3 _ rfl
          have z4 := zB.cell 4 _ rfl
          exact ⟨⟨k + 1, ⟨⟨ya, yn, yc, Y, yk, ym, yl, yj, yh, yt⟩, yb, yo, yp, M⟩, by omega, by go_num, x2.butI hbut (by omega), zB, ok3.but hbut.but (newW _ (by omega)), newW.mono (by omega), newW _ (by omega), by rw [P3.out]; exact H0.out, bw.trans (hbut.below (B := w.heap.size) (by omega))⟩, by simp [intOf]; omega⟩
        · have H0 := hide (HS2.out (by simpa using hb))
          clear HS1 HS2
          have e0 := x2.cell 0 _ rfl
          have e1 := x2.cell 1 _ rfl
          have e2 := x2.cell 2 _ rfl
          have e3 := x2.cell 3 _ rfl
          have e4 := x2.cell 4 _ rfl
          have f0 := x2.ice 0
          have f1 := x2.ice 1
          have f2 := x2.ice 2
          have f3 := x2.ice 3
          have f4 := x2.ice 4
          go_wp2
          have zB := ((((x2.set 0 (.slice none 0 0)).set 1 (.slice none 0 0)).set 2 (.int .i64 0)).set 3 (.int .i64 0)).set 4 (.slice none 0 0)
          have hbut := (((((ButI.refl (w.heap.size) w4).step 0 (.slice none 0 0)).step 1 (.slice none 0 0)).step 2 (.int .i64 0)).step 3 (.int .i64 0)).step 4 (.slice none 0 0)
          generalize ((((w4.setCell ⟨w.heap.size, 0, none⟩ (.slice none 0 0)).setCell ⟨w.heap.size, 1, none⟩ (.slice none 0 0)).setCell ⟨w.heap.size, 2, none⟩ (.int .i64 0)).setCell ⟨w.heap.size, 3, none⟩ (.int .i64 0)).setCell ⟨w.heap.size, 4, none⟩ (.slice none 0 0) = w5 at *
          have z0 := zB.cell 0 _ rfl
          have z1 := zB.cell 1 _ rfl
          have z2 := zB.cell 2 _ rfl
          have z3 := zB.cell 3 _ rfl
          have z4 := zB.cell 4 _ rfl
          exact bodyPost_ret (v := .tuple #[.agg #[.slice none 0 0, .slice none 0 0, .int .i64 0, .int .i64 0, .slice none 0 0], .int .i64 nh.2.2]) (by simp [results, Tryz.results6, go_sem, z0, z1, z2, z3, z4]) rfl
            ⟨⟨HV.zero, by rw [H0.out]; rfl, HV.zero_ok _, HV.zero_new _, by rw [H0.out]; rfl⟩, bw.trans (hbut.below (B := w.heap.size) (by omega))⟩
      · obtain rfl : k = ln := by omega
        have hst := HST.out
        rw [List.take_of_length_le (by rw [List.length_map, HLN.out]; omega)] at hst
        have H0 : Hid (rr = (hv.p, 0)) := hide (by rw [HR.out, hst])
        clear hst HST
        obtain ⟨⟨za, zn, zc, Z, ka, kn, kc, bk, bh, bt⟩, a, n, c, L⟩ := hv
        dsimp only [HV.cells] at *
        have e0 := x2.cell 0 _ rfl
        have e1 := x2.cell 1 _ rfl
        have e2 := x2.cell 2 _ rfl
        have e3 := x2.cell 3 _ rfl
        have e4 := x2.cell 4 _ rfl
        have f0 := x2.ice 0
        have f1 := x2.ice 1
        have f2 := x2.ice 2
        have f3 := x2.ice 3
        have f4 := x2.ice 4
        have q0 := xH.cell 0 _ rfl
        have q1 := xH.cell 1 _ rfl
        have q2 := xH.cell 2 _ rfl
        have q3 := xH.cell 3 _ rfl
        have q4 := xH.cell 4 _ rfl
        go_wp2
        have zB := ((((x2.set 0 (.slice za zn zc)).set 1 (.slice ka kn kc)).set 2 (.int .i64 bh)).set 3 (.int .i64 bt)).set 4 (.slice a n c)
        have hbut := (((((ButI.refl (w.heap.size) wr).step 0 (.slice za zn zc)).step 1 (.slice ka kn kc)).step 2 (.int .i64 bh)).step 3 (.int .i64 bt)).step 4 (.slice a n c)
        generalize ((((wr.setCell ⟨w.heap.size, 0, none⟩ (.slice za zn zc)).setCell ⟨w.heap.size, 1, none⟩ (.slice ka kn kc)).setCell ⟨w.heap.size, 2, none⟩ (.int .i64 bh)).setCell ⟨w.heap.size, 3, none⟩ (.int .i64 bt)).setCell ⟨w.heap.size, 4, none⟩ (.slice a n c) = w5 at *
        have z0 := zB.cell 0 _ rfl
        have z1 := zB.cell 1 _ rfl
        have z2 := zB.cell 2 _ rfl
        have z3 := zB.cell 3 _ rfl
        have z4 := zB.cell 4 _ rfl
        exact bodyPost_ret (v := .tuple #[.agg #[.slice za zn zc, .slice ka kn kc, .int .i64 bh, .int .i64 bt, .slice a n c], .int .i64 0]) (by simp [results, Tryz.results6, go_sem, z0, z1, z2, z3, z4]) rfl
          ⟨⟨⟨⟨za, zn, zc, Z, ka, kn, kc, bk, bh, bt⟩, a, n, c, L⟩, by rw [H0.out]; rfl, hok.but hbut.but (hnew1 _ (by omega)), hnew1.mono (by omega), by rw [H0.out]⟩, bw.trans (hbut.below (B := w.heap.size) (by omega))⟩

end Go.Proofs.YtenmamcaldabdaaGreatDoor

/- Lists of answers in memory: read, and of the call's own; plain mathematics, no condition. -/
namespace Go.Proofs.YtenmamcaldabdaaGreatDoor
open Go.RowKit
set_option linter.unusedVariables false
set_option maxRecDepth 100000
set_option linter.unusedSimpArgs false

def AV.cells (x : AV) : List Value := [.int .i64 x.e, .int .i64 x.t, .slice x.a x.n x.c]
theorem ansInfo : ∃ i, Tryz.prog.info? 38 = some i ∧ i.zero = some (.agg #[.int .i64 0, .int .i64 0, .slice none 0 0]) ∧ i.size = 3 ∧ i.bytes = 40 := by
  have h : (Tryz.prog.info? 38).map (fun i => (i.zero, i.size, i.bytes)) = some (some (.agg #[.int .i64 0, .int .i64 0, .slice none 0 0]), 3, 40) := by kernel_rfl
  obtain ⟨i, hi, h⟩ := Option.map_eq_some_iff.1 h
  simp only [Prod.mk.injEq] at h
  exact ⟨i, hi, h.1, h.2.1, h.2.2⟩

/-- The cells of answers. -/
def acells (X : List AV) : List Value := X.flatMap AV.cells
theorem acells_cons (x : AV) (X : List AV) : acells (x :: X) = x.cells ++ acells X := by simp [acells]
theorem acells_snoc (X : List AV) (x : AV) : acells (X ++ [x]) = acells X ++ x.cells := by simp [acells]
theorem AV.cells_len (x : AV) : x.cells.length = 3 := rfl
theorem acells_get : ∀ (X : List AV) (i : Nat) (x : AV), X[i]? = some x → ∀ j v, x.cells[j]? = some v → (acells X)[i * 3 + j]? = some v
  | [], i, x, h, _, _, _ => by simp at h
  | y :: X, 0, x, h, j, v, hv => by
    have hj : j < 3 := (List.getElem?_eq_some_iff.1 hv).1
    simp at h
    subst h
    rw [acells_cons, List.getElem?_append_left (by rw [AV.cells_len]; omega)]
    simpa using hv
  | y :: X, i + 1, x, h, j, v, hv => by
    rw [acells_cons, List.getElem?_append_right (by rw [AV.cells_len]; omega), AV.cells_len, show (i + 1) * 3 + j - 3 = i * 3 + j by omega]
    exact acells_get X i x (by simpa using h) j v hv
theorem AV.cells_one (x : AV) : ∀ v ∈ x.cells, v.oneCell' = true := by
  intro v hx
  simp only [AV.cells, List.mem_cons, List.not_mem_nil, or_false] at hx
  rcases hx with rfl | rfl | rfl <;> rfl
/-- A slice value's answers. -/
structure Answers (w : World) (a : Option Addr) (n c : Nat) (X : List AV) : Prop where
  len : X.length = n
  le : n ≤ c
  max : c ≤ 9223372036854775807
  nil : a = none → c = 0
  row : n = 0 ∨ ∃ b off, a = some ⟨b, off, none⟩ ∧ b < w.heap.size ∧ ∀ i x, X[i]? = some x → ∀ j v, x.cells[j]? = some v → w.cell? ⟨b, off + i * 3 + j, none⟩ = some v
  ok : ∀ x ∈ X, x.ok w
theorem Answers.below {w w' : World} {a : Option Addr} {n c : Nat} {X : List AV} (h : Answers w a n c X) {B : Nat} (hb : Below B w w') (hB : w.heap.size ≤ B) : Answers w' a n c X := by
  refine ⟨h.len, h.le, h.max, h.nil, ?_, fun x hx => AV.ok.below (h.ok x hx) hb hB⟩
  rcases h.row with h0 | ⟨b, off, ha, hlt, hc⟩
  · exact .inl h0
  · refine .inr ⟨b, off, ha, Nat.lt_of_lt_of_le hlt hb.size, fun i x hx j v hv => ?_⟩
    rw [hb.cell (p := ⟨b, off + i * 3 + j, none⟩) (Nat.lt_of_lt_of_le hlt hB)]
    exact hc i x hx j v hv
theorem Answers.nilSlice (w : World) : Answers w none 0 0 [] := ⟨rfl, Nat.le_refl _, by omega, fun _ => rfl, .inl rfl, by simp⟩
theorem Answers.take {w : World} {a : Option Addr} {n c : Nat} {X : List AV} (h : Answers w a n c X) {k : Nat} (hk : k ≤ n) : Answers w a k c (X.take k) := by
  refine ⟨by rw [List.length_take, h.len]; omega, Nat.le_trans hk h.le, h.max, h.nil, ?_, fun x hx => h.ok x (List.mem_of_mem_take hx)⟩
  rcases h.row with h0 | ⟨b, off, ha, hlt, hc⟩
  · exact .inl (by omega)
  · refine .inr ⟨b, off, ha, hlt, fun i x hx => hc i x ?_⟩
    have hi := (List.getElem?_eq_some_iff.1 hx).1
    rw [List.length_take] at hi
    rwa [List.getElem?_take_of_lt (by omega)] at hx
/-- The list and the answers' data lie in memory from B on. -/
structure FreshA (B : Nat) (a : Option Addr) (X : List AV) : Prop where
  a : ∀ y, a = some y → B ≤ y.block
  d : ∀ x ∈ X, x.new B
theorem FreshA.mono {B B' : Nat} {a : Option Addr} {X : List AV} (h : FreshA B a X) (hB : B' ≤ B) : FreshA B' a X := ⟨fun y e => Nat.le_trans hB (h.a y e), fun x hx => AV.new.mono (h.d x hx) hB⟩
theorem FreshA.nil (B : Nat) : FreshA B none [] := ⟨fun y e => (by cases e), fun x hx => (by cases hx)⟩
theorem Answers.but {w w' : World} {g : Nat} {a : Option Addr} {n c : Nat} {X : List AV} (h : Answers w a n c X) (hb : But g w w') (ha : n = 0 ∨ ∀ y, a = some y → y.block ≠ g) (hd : ∀ x ∈ X, x.off g) : Answers w' a n c X := by
  refine ⟨h.len, h.le, h.max, h.nil, ?_, fun x hx => AV.ok.but (h.ok x hx) hb (hd x hx)⟩
  rcases ha with h0 | hne
  · exact .inl h0
  · rcases h.row with h0 | ⟨b, off, ha, hlt, hc⟩
    · exact .inl h0
    · refine .inr ⟨b, off, ha, Nat.lt_of_lt_of_le hlt hb.size, fun i x hx j v hv => ?_⟩
      have := hne _ ha
      rw [hb.cell ⟨b, off + i * 3 + j, none⟩ hlt this]
      exact hc i x hx j v hv

theorem grown_but {w w' : World} {g : Nat} (h : w.grownBy w' (some g)) (hg : g ≤ w.heap.size) : But g w w' :=
  ⟨⟨h.os, h.tape, h.output, h.size, fun k hk => h.block k (by omega) (fun e => by cases e; omega)⟩, h.size, fun q hq hne => h.cell_far q hq (fun e => hne (by cases e; rfl))⟩
theorem grown_none {w w' : World} (h : w.grownBy w' none) : Below w.heap.size w w' := ⟨h.os, h.tape, h.output, h.size, fun k hk => h.block k hk (by simp)⟩
theorem HV.ok.grown {w w' : World} {row : Option Nat} {h : HV} (k : h.ok w) (hg : w.grownBy w' row) (hr : ∀ g, row = some g → g ≤ w.heap.size ∧ h.off g) : h.ok w' := by
  cases row with
  | none => exact k.below (grown_none hg) (Nat.le_refl _)
  | some g => exact k.but (grown_but hg (hr g rfl).1) (hr g rfl).2
theorem AV.ok.grown {w w' : World} {row : Option Nat} {x : AV} (k : x.ok w) (hg : w.grownBy w' row) (hr : ∀ g, row = some g → g ≤ w.heap.size ∧ x.off g) : x.ok w' := by
  cases row with
  | none => exact AV.ok.below k (grown_none hg) (Nat.le_refl _)
  | some g => exact AV.ok.but k (grown_but hg (hr g rfl).1) (hr g rfl).2
theorem Lay.grownA {w w' : World} {B : Nat} {vs : List Value} {row : Option Nat} (h : Lay w B vs) (hg : w.grownBy w' row) (hne : some B ≠ row) : Lay w' B vs :=
  ⟨fun i v hv => hg.cell (h.cell i v hv) hne, fun i => by rw [hg.frozen_far ⟨B, i, none⟩ h.lt hne]; exact h.ice i, Nat.lt_of_lt_of_le h.lt hg.size⟩
theorem Ints.setOffA {w : World} {a : Option Addr} {n c : Nat} {l : List Int} (h : Ints w a n c l) (p : Addr) (v : Value) (hne : n = 0 ∨ ∀ x, a = some x → x.block ≠ p.block) : Ints (w.setCell p v) a n c l := by
  rcases hne with h0 | hne
  · exact ⟨h.len, h.le, h.max, h.nil, .inl h0, h.wf⟩
  · exact h.setCell p v hne

/-- An owned list of answers. -/
structure OwnA (w : World) (base : Nat) (v : Value) (X : List AV) : Prop where
  own : w.ownsRow base 38 3 v X.length (acells X)
  ok : ∀ x ∈ X, x.ok w
  off : ∀ x ∈ X, ∀ g, v.ownBlock = some g → x.off g
theorem OwnA.nil (w : World) (base : Nat) : OwnA w base (.slice none 0 0) [] := ⟨World.ownsRow_nil w base _ 3, by simp, by simp⟩
theorem OwnA.below {w w' : World} {base : Nat} {v : Value} {X : List AV} (h : OwnA w base v X) (hb : Below w.heap.size w w') : OwnA w' base v X :=
  ⟨h.own.kept (grown_below hb) (by cases v.ownBlock <;> simp), fun x hx => AV.ok.below (h.ok x hx) hb (Nat.le_refl _), h.off⟩
theorem OwnA.mono {w : World} {base base' : Nat} {v : Value} {X : List AV} (h : OwnA w base v X) (hb : base' ≤ base) : OwnA w base' v X := by
  refine ⟨⟨h.own.1, ?_⟩, h.ok, h.off⟩
  rcases h.own.2 with h | ⟨g, cap, cur, e, hg, r⟩
  · exact .inl h
  · exact .inr ⟨g, cap, cur, e, Nat.le_trans hb hg, r⟩
theorem OwnA.recs {w : World} {base : Nat} {v : Value} {X : List AV} (h : OwnA w base v X) : ∃ a c, v = .slice a X.length c ∧ Answers w a X.length c X ∧ ∀ y, a = some y → base ≤ y.block := by
  rcases h.own.2 with ⟨rfl, h0⟩ | ⟨g, cap, cur, rfl, hb, hg, hn, hm, hs, hc⟩
  · rw [List.length_eq_zero_iff] at h0
    subst h0
    exact ⟨none, 0, rfl, Answers.nilSlice w, fun y e => by cases e⟩
  · refine ⟨_, cap, rfl, ?_, fun x e => by cases e; exact hb⟩
    refine ⟨rfl, hn, by simp [maxLen] at hm; omega, fun e => (by cases e), .inr ⟨g, 0, rfl, (Array.getElem?_eq_some_iff.1 hg).1, fun i x hx j v hv => ?_⟩, h.ok⟩
    have hj : j < 3 := (List.getElem?_eq_some_iff.1 hv).1
    have hi := (List.getElem?_eq_some_iff.1 hx).1
    have hr := acells_get X i x hx j v hv
    rw [← hc, List.getElem?_take, if_pos (by omega)] at hr
    rw [cell_of_row w g _ _ _ _ hg, Nat.zero_add]
    simpa using hr
/-- One more answer. -/
theorem OwnA.snoc {w w' : World} {base : Nat} {v : Value} {X : List AV} {x : AV} {g cap : Nat} (h : OwnA w base v X) (hx : x.ok w) (ho : ∀ g, v.ownBlock = some g → x.off g)
    (hown : w'.ownsRow base 38 3 (.slice (some ⟨g, 0, none⟩) (X.length + 1) cap) (X.length + 1) (acells X ++ x.cells)) (hg : w.grownBy w' v.ownBlock) (hat : v.ownBlock = some g ∨ g = w.heap.size) :
    OwnA w' base (.slice (some ⟨g, 0, none⟩) (X.length + 1) cap) (X ++ [x]) := by
  have all : ∀ y ∈ X ++ [x], y.ok w ∧ (∀ k, v.ownBlock = some k → y.off k) := by
    intro y hy
    rcases List.mem_append.1 hy with hy | hy
    · exact ⟨h.ok y hy, h.off y hy⟩
    · obtain rfl : y = x := by simpa using hy
      exact ⟨hx, ho⟩
  refine ⟨by rw [List.length_append, acells_snoc]; exact hown, fun y hy => ?_, fun y hy k e => ?_⟩
  · obtain ⟨h1, h2⟩ := all y hy
    refine Ints.grown h1 hg ?_
    cases e : v.ownBlock with
    | none => exact .inr fun z _ q => by cases q
    | some k =>
      rcases h2 k e with h0 | h0
      · exact .inl h0
      · exact .inr fun z hz q => h0 z hz (by cases q; rfl)
  · obtain ⟨h1, h2⟩ := all y hy
    obtain rfl : g = k := by simpa [Value.ownBlock] using e
    rcases hat with hat | rfl
    · exact h2 _ hat
    · exact AV.ok.off h1 (Nat.le_refl _)
theorem OwnA.far {w : World} {base : Nat} {v : Value} {X : List AV} (h : OwnA w base v X) (p : Addr) (u : Value) (hp : p.block < base) (hX : ∀ x ∈ X, x.off p.block) : OwnA (w.setCell p u) base v X :=
  ⟨ownsRow_setCell_below h.own hp u, fun x hx => Ints.setOffA (h.ok x hx) p u (hX x hx), h.off⟩

end Go.Proofs.YtenmamcaldabdaaGreatDoor

/- What each record of a list is answered; plain mathematics, no condition. -/
namespace Go.Proofs.YtenmamcaldabdaaGreatDoor
open Go.RowKit
set_option linter.unusedVariables false
set_option maxRecDepth 100000
set_option linter.unusedSimpArgs false

/-- What each record is answered. -/
def toldF : PH → List PR → List PA
  | h, [] => []
  | h, r :: rs => (nextH h r).2.1 :: toldF (nextH h r).1 rs
def hallOf (l : List PR) : PH × List PA × Int := if 80 < l.length then (zeroH, [], 2) else if (replayF freshH l).2 ≠ 0 then (zeroH, [], (replayF freshH l).2) else ((replayF freshH l).1, toldF freshH l, 0)
theorem replay_zero : ∀ (l : List PR) (h : PH), (replayF h l).2 ≠ 0 → (replayF h l).1 = zeroH
  | [], h, k => absurd rfl k
  | r :: l, h, k => by
    rw [replay_cons] at k ⊢
    split
    · rfl
    · rename_i q
      rw [if_neg q] at k
      exact replay_zero l _ k
theorem hallOf_replay (l : List PR) : (hallOf l).1 = (replayH l).1 ∧ (hallOf l).2.2 = (replayH l).2 := by
  unfold hallOf replayH
  split
  · exact ⟨rfl, rfl⟩
  · split
    · rename_i q
      exact ⟨(replay_zero l _ q).symm, rfl⟩
    · rename_i q
      exact ⟨rfl, by simpa using Eq.symm (by simpa using q)⟩
theorem told_app : ∀ (a : List PR) (r : PR) (h : PH), (replayF h a).2 = 0 → toldF h (a ++ [r]) = toldF h a ++ [(nextH (replayF h a).1 r).2.1]
  | [], r, h, _ => rfl
  | x :: a, r, h, k => by
    rw [replay_cons] at k
    split at k
    · rename_i q; exact absurd k q
    · rename_i q
      rw [List.cons_append]
      simp only [toldF]
      rw [told_app a r _ k, replay_cons, if_neg q]
      rfl
theorem told_step {X : List PR} {k : Nat} {r : PR} {hp : PH} (hr : X[k]? = some r) (h : replayF freshH (X.take k) = (hp, 0)) : toldF freshH (X.take (k + 1)) = toldF freshH (X.take k) ++ [(nextH hp r).2.1] := by
  obtain ⟨g1, g2⟩ := List.getElem?_eq_some_iff.1 hr
  rw [List.take_succ_eq_append_getElem g1, told_app _ _ _ (by rw [h]), h, g2]

end Go.Proofs.YtenmamcaldabdaaGreatDoor
