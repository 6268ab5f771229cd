/- The contract of the law's sameAnswer; no condition but that the arguments read as data. -/
import Derived.Test.YtcmladgldjcdmaaDoorHU4
import Derived.Test.YtcmladgldjcdmaaDoorHU1
import Derived.Test.YtcmladgldjcdmaaDoorHU28
namespace Go.Proofs.YtcmladgldjcdmaaDoor
open Go.RowKit
set_option linter.unusedVariables false
set_option maxRecDepth 100000
set_option linter.unusedSimpArgs false

theorem lsameA_c (x y : AV) (w : World) (hx : x.ok w) (hy : y.ok w) : Calls Tryd.prog 8 #[x.v, y.v] w fun e w' => e = .returned (.bool (sameA x.p y.p)) ∧ Below w.heap.size w w' := by
  obtain ⟨e1, t1, a1, n1, c1, l1⟩ := x
  obtain ⟨e2, t2, a2, n2, c2, l2⟩ := y
  dsimp only [AV.v, AV.p]
  have h1 : Ints w a1 n1 c1 l1 := hx
  have h2 : Ints w a2 n2 c2 l2 := hy
  have HS : Hid (sameA ⟨e1, t1, l1⟩ ⟨e2, t2, l2⟩ = (e1 == e2 && (t1 == t2 && decide (l1 = l2)))) := hide (by rw [Bool.eq_iff_iff]; simp [sameA])
  cases he : e1 == e2
  · go_enter Tryd.func8, Tryd.ntmps8
    go_wp2
    go_ret
    exact ⟨ret_bool (by rw [HS.out, he]; rfl), by (repeat first | exact bel0 | assumption | refine bel1 ?_ | refine bel2 ?_ | refine bel3 ?_ | refine belowT ?_ (by assumption) | refine bel5 ?_ (by simp; try omega))⟩
  · cases ht : t1 == t2
    · go_enter Tryd.func8, Tryd.ntmps8
      go_wp2
      go_ret
      exact ⟨ret_bool (by rw [HS.out, he, ht]; rfl), by (repeat first | exact bel0 | assumption | refine bel1 ?_ | refine bel2 ?_ | refine bel3 ?_ | refine belowT ?_ (by assumption) | refine bel5 ?_ (by simp; try omega))⟩
    · go_enter Tryd.func8, Tryd.ntmps8
      go_wp2_with fail
      refine (Equal_c a1 a2 n1 n2 c1 c2 l1 l2 _ (h1.below (B := w.heap.size) (by (repeat first | exact bel0 | assumption | refine bel1 ?_ | refine bel2 ?_ | refine bel3 ?_ | refine belowT ?_ (by assumption) | refine bel5 ?_ (by simp; try omega))) (Nat.le_refl _)) (h2.below (B := w.heap.size) (by (repeat first | exact bel0 | assumption | refine bel1 ?_ | refine bel2 ?_ | refine bel3 ?_ | refine belowT ?_ (by assumption) | refine bel5 ?_ (by simp; try omega))) (Nat.le_refl _))).mono ?_
      rintro e w1 ⟨rfl, q, rfl⟩
      go_wp2
      go_ret
      exact ⟨ret_bool (by rw [HS.out, he, ht]; simp), by (repeat first | exact bel0 | assumption | refine bel1 ?_ | refine bel2 ?_ | refine bel3 ?_ | refine belowT ?_ (by assumption) | refine bel5 ?_ (by simp; try omega))⟩


end Go.Proofs.YtcmladgldjcdmaaDoor

/- HallOnce's walk: a command that comes again is answered as it was, and not done again; no condition but that the arguments read as data and the package's table is as its text lays it. -/
namespace Go.Proofs.YtcmladgldjcdmaaDoor
open Go.RowKit
set_option linter.unusedVariables false
set_option maxRecDepth 100000
set_option linter.unusedSimpArgs false

/-- What HallOnce keeps: the hall is right, and the answer stands in it. -/
def Stood (hp : PH) (r : PR) (a : PA) : Prop := checkH hp = 0 ∧ checkR r = 0 ∧ lastH hp r.w = ⟨r.s, a⟩
theorem Stood.try {hp : PH} {r m : PR} {a : PA} (h : Stood hp r a) : Stood (tryH hp r m) r a := by
  obtain ⟨h1, h2, h3⟩ := h
  obtain ⟨g1, g2⟩ := try_keeps (m := m) h1 h2 h3
  exact ⟨g1, h2, g2⟩
theorem Stood.next {hp : PH} {r m : PR} {a : PA} (h : Stood hp r a) (hw : m.w ≠ r.w) (e : (nextH hp m).2.2 = 0) : Stood (nextH hp m).1 r a := by
  have := h.try (m := m)
  unfold tryH at this
  rwa [if_neg hw, if_pos e] at this

set_option maxRecDepth 100000 in
set_option maxHeartbeats 4000000 in
theorem HallOnce_c (h : HV) (r : RV) (la : Option Addr) (ln lc : Nat) (X : List RV) (w : World) (hS : Shapes w) (hk : h.ok w) (hr : r.ok w) (hX : Recs w la ln lc X) :
    Calls Tryd.prog 3 #[h.v, r.v, .slice la ln lc] w fun e w' => e = .returned (.bool true) ∧ Below w.heap.size w w' := by
  have HN := hide (fun w' (hS' : Shapes w') (h' : h.ok w') (k' : r.ok w') => Next_c h r w' hS' h' k')
  have HST : Hid ((nextH h.p r.p).2.2 = 0 → Stood (nextH h.p r.p).1 r.p (nextH h.p r.p).2.1) := hide (fun e => next_stands e)
  have HRN := hide (fun (g : HV) w' (hS' : Shapes w') (h' : g.ok w') (k' : r.ok w') => Next_c g r w' hS' h' k')
  generalize nextH h.p r.p = nh at *
  have hlm := hX.max
  have hll := hX.le
  have hXl := hX.len
  obtain ⟨x0, x1, bw⟩ := two_boxes w h.cells r.cells 30 34
  have hok := hk.below bw (Nat.le_refl _)
  have hrk := RV.ok.below hr bw (Nat.le_refl _)
  have hSw := hS.below bw
  rw [show h.v = .agg h.cells.toArray from rfl, show r.v = .agg r.cells.toArray from rfl] at *
  clear hk hr
  obtain ⟨⟨za, zn, zc, Z, ka, kn, kc, bk, bh, bt⟩, a, n, c, L⟩ := h
  obtain ⟨⟨rq, rs, ⟨k1, z1, u1, t1, d1⟩⟩, ra, rn, rc⟩ := r
  dsimp only [HV.cells, RV.cells] at *
  go_enter Tryd.func3, Tryd.ntmps3
  go_wp2_with fail
  refine (HN.out _ hSw hok hrk).mono ?_
  rintro e w2 ⟨⟨⟨⟨ya, yn, yc, Y, yk, ym, yl, yj, yh, yt⟩, yb, yo, yp, M⟩, ⟨ae, at', aa, an, ac, ad⟩, rfl, ok2, oka, new2, newa, p2, pa2⟩, hb2⟩
  replace x1 := x1.below hb2
  replace hrk := RV.ok.below hrk hb2 (Nat.le_refl _)
  replace hSw := hSw.below hb2
  replace bw := belowT bw hb2
  have hoA := AV.ok.off oka (Nat.le_refl w2.heap.size)
  have hoH := ok2.off (Nat.le_refl w2.heap.size)
  have hoR := RV.ok.off hrk (Nat.le_refl w2.heap.size)
  have HP := hide (And.intro p2 pa2)
  clear hb2 HN x0 hok new2 newa p2 pa2
  dsimp only [HV.v, AV.v]
  go_upto_region 2 with fail
  obtain ⟨xH, xA, bn⟩ := two_boxes w2 [.slice ya yn yc, .slice yk ym yl, .int .i64 yh, .int .i64 yt, .slice yb yo yp] [.int .i64 ae, .int .i64 at', .slice aa an ac] 30 38
  have h1l := x1.lt
  replace x1 := x1.below bn
  replace hrk := RV.ok.below hrk bn (Nat.le_refl _)
  replace hSw := hSw.below bn
  replace ok2 := ok2.below bn (Nat.le_refl _)
  replace oka := AV.ok.below oka bn (Nat.le_refl _)
  replace bw := belowT bw bn
  clear bn
  generalize w2.heap.size = H at *
  generalize (w2.alloc (.cells [.slice ya yn yc, .slice yk ym yl, .int .i64 yh, .int .i64 yt, .slice yb yo yp].toArray 30)).alloc (.cells [.int .i64 ae, .int .i64 at', .slice aa an ac].toArray 38) = w3 at *
  go_wp2_with fail
  refine (once_c _ hSw).mono ?_
  rintro e w4 ⟨rfl, hb4⟩
  replace x1 := x1.below hb4
  replace xH := xH.below hb4
  replace xA := xA.below hb4
  replace hrk := RV.ok.below hrk hb4 (Nat.le_refl _)
  replace hSw := hSw.below hb4
  replace ok2 := ok2.below hb4 (Nat.le_refl _)
  replace oka := AV.ok.below oka hb4 (Nat.le_refl _)
  replace bw := belowT bw hb4
  clear hb4
  cases hb : nh.2.2 != 0
  · have h0 : nh.2.2 = 0 := by simpa using hb
    have hst := HST.out h0
    rw [← HP.out.1, ← HP.out.2] at hst
    have HS := hide hst
    have HAP : Hid (AV.p ⟨ae, at', aa, an, ac, ad⟩ = ⟨ae, at', ad⟩) := hide rfl
    clear hst HST h0 HP HAP
    generalize hap : AV.p ⟨ae, at', aa, an, ac, ad⟩ = pa at *
    have HAP := hide hap
    clear hap
    by_cases h10 : 10 < ln
    · have h10' : (10 : Int) < (ln : Int) := by omega
      have h11 : 10 ≤ lc := by omega
      have h12 : (10 : Int) ≤ (lc : Int) := by omega
      have h13 : ¬ ((lc : Int) < 10) := by omega
      go_wp2_with fail
      go_loopw [37] (fun i wr => ∃ (j : Nat) (hv : HV), j ≤ 10 ∧ i = .int .i64 (j : Nat) ∧ Lay wr H hv.cells ∧ hv.ok wr ∧ hv.off H ∧ Stood hv.p ⟨rq, rs, ⟨k1, z1, u1, t1, d1⟩⟩ pa ∧ Lay wr (w.heap.size + 1) [.int .i64 rq, .int .i64 rs, .int .i64 k1, .int .i64 z1, .int .i64 u1, .int .i64 t1, .slice ra rn rc] ∧ Lay wr (H + 1) [.int .i64 ae, .int .i64 at', .slice aa an ac] ∧ RV.ok wr ⟨⟨rq, rs, ⟨k1, z1, u1, t1, d1⟩⟩, ra, rn, rc⟩ ∧ AV.ok wr ⟨ae, at', aa, an, ac, ad⟩ ∧ Below w.heap.size w wr) (fun i _ => 10 - (intOf i).toNat)
      case atStart => exact ⟨0, ⟨⟨ya, yn, yc, Y, yk, ym, yl, yj, yh, yt⟩, yb, yo, yp, M⟩, by omega, rfl, xH, ok2, hoH, HS.out, x1, xA, hrk, oka, bw⟩
      case round =>
        clear xH ok2 hoH HS x1 xA hrk oka bw hSw
        obtain ⟨j, hv, hj, rfl, xH, hok, hoH, hst, x1, xA, hrk, oka, bw⟩ := hrel
        have HS := hide hst
        clear hst
        rename_i wr
        have hSw := hS.below bw
        by_cases hlt : j < 10
        · obtain ⟨x, hx⟩ : ∃ z, X[j]? = some z := ⟨X[j]'(by omega), by simp⟩
          obtain ⟨lb, lo, rfl, hlb, hcl⟩ := hX.row.resolve_left (by omega)
          have kx := hcl j x hx
          have hxk := RV.ok.below (hX.ok x (List.mem_of_getElem? hx)) bw (Nat.le_refl _)
          have HN := hide (fun w' hS' h' k' => Next_c hv x w' hS' h' k')
          have HS1 : Hid (x.p.w ≠ rq → (nextH hv.p x.p).2.2 = 0 → Stood (nextH hv.p x.p).1 ⟨rq, rs, ⟨k1, z1, u1, t1, d1⟩⟩ pa) := hide (fun e f => HS.out.next e f)
          generalize nextH hv.p x.p = nx at *
          rw [show hv.v = .agg hv.cells.toArray from rfl, show x.v = .agg x.cells.toArray from rfl] at HN
          clear hx
          obtain ⟨⟨xq, xs, ⟨xk, xz, xu, xt, xd⟩⟩, xa, xn, xc⟩ := x
          dsimp only [RV.cells] at *
          have c0 := keepc bw (kx 0 _ rfl)
          have c1 := keepc bw (kx 1 _ rfl)
          have c2 := keepc bw (kx 2 _ rfl)
          have c3 := keepc bw (kx 3 _ rfl)
          have c4 := keepc bw (kx 4 _ rfl)
          have c5 := keepc bw (kx 5 _ rfl)
          have c6 := keepc bw (kx 6 _ rfl)
          rw [Nat.add_zero] at c0
          have hlt' : (j : Int) < ((10 : Nat) : Int) := by omega
          have r0 := past1 (x1.cell 0 _ rfl)
          clear kx hcl
          cases hq : xq == rq
          · have hne : xq ≠ rq := by simpa using hq
            have HNE := hide hne
            clear hne
            obtain ⟨⟨za, zn, zc, Z, ka, kn, kc, bk, bh, bt⟩, a, n, c, L⟩ := hv
            dsimp only [HV.cells] at *
            have q0 := past1 (xH.cell 0 _ rfl)
            have q1 := past1 (xH.cell 1 _ rfl)
            have q2 := past1 (xH.cell 2 _ rfl)
            have q3 := past1 (xH.cell 3 _ rfl)
            have q4 := past1 (xH.cell 4 _ rfl)
            go_wp2_with fail
            refine (HN.out _ (hSw.below (by (repeat first | exact bel0 | assumption | refine bel1 ?_ | refine bel2 ?_ | refine bel3 ?_ | refine belowT ?_ (by assumption) | refine bel5 ?_ (by simp; try omega)))) (hok.below (B := wr.heap.size) (by (repeat first | exact bel0 | assumption | refine bel1 ?_ | refine bel2 ?_ | refine bel3 ?_ | refine belowT ?_ (by assumption) | refine bel5 ?_ (by simp; try omega))) (Nat.le_refl _)) (RV.ok.below hxk (B := wr.heap.size) (by (repeat first | exact bel0 | assumption | refine bel1 ?_ | refine bel2 ?_ | refine bel3 ?_ | refine belowT ?_ (by assumption) | refine bel5 ?_ (by simp; try omega))) (Nat.le_refl _))).mono ?_
            rintro e w5 ⟨⟨⟨⟨ga, gn, gc, G, gk, gm, gl, gj, gh, gt⟩, gb, go, gp, GM⟩, ⟨be, bt', ba, bn', bc, bd⟩, rfl, ok5, _, new5, _, p5, _⟩, hb5⟩
            have b5 : Below wr.heap.size wr w5 := by (repeat first | exact bel0 | assumption | refine bel1 ?_ | refine bel2 ?_ | refine bel3 ?_ | refine belowT ?_ (by assumption) | refine bel5 ?_ (by simp; try omega))
            have hHl := xH.lt
            have newW := new5.mono (show wr.heap.size ≤ _ by simp)
            replace xH := xH.below b5
            replace x1 := x1.below b5
            replace xA := xA.below b5
            replace hrk := RV.ok.below hrk b5 (Nat.le_refl _)
            replace oka := AV.ok.below oka b5 (Nat.le_refl _)
            replace hok := hok.below b5 (Nat.le_refl _)
            replace bw := belowT bw b5
            have P5 := hide p5
            have hs5 := b5.size
            clear q0 q1 q2 q3 q4 c0 c1 c2 c3 c4 c5 c6 r0 hb5 HN p5 new5 hSw hxk
            dsimp only [HV.v, AV.v]
            go_upto_region 9 with fail
            obtain ⟨y7, _, bn⟩ := two_boxes w5 [.slice ga gn gc, .slice gk gm gl, .int .i64 gh, .int .i64 gt, .slice gb go gp] [.int .i64 be, .int .i64 bt', .slice ba bn' bc] 30 38
            replace x1 := x1.below bn
            replace xH := xH.below bn
            replace xA := xA.below bn
            replace hrk := RV.ok.below hrk bn (Nat.le_refl _)
            replace oka := AV.ok.below oka bn (Nat.le_refl _)
            replace hok := hok.below bn (Nat.le_refl _)
            replace ok5 := ok5.below bn (Nat.le_refl _)
            replace bw := belowT bw bn
            have hne7 : w5.heap.size ≠ H := by omega
            clear bn b5
            generalize w5.heap.size = B7 at *
            generalize (w5.alloc (.cells [.slice ga gn gc, .slice gk gm gl, .int .i64 gh, .int .i64 gt, .slice gb go gp].toArray 30)).alloc (.cells [.int .i64 be, .int .i64 bt', .slice ba bn' bc].toArray 38) = w6 at *
            cases he : nx.2.2 == 0
            · go_wp2
              exact ⟨⟨j + 1, ⟨⟨za, zn, zc, Z, ka, kn, kc, bk, bh, bt⟩, a, n, c, L⟩, by omega, by go_num, xH, hok, hoH, HS.out, x1, xA, hrk, oka, bw⟩, by simp [intOf]; omega⟩
            · have H0 := hide (HS1.out HNE.out (by simpa using he))
              clear HS1
              have e0 := xH.cell 0 _ rfl
              have e1 := xH.cell 1 _ rfl
              have e2 := xH.cell 2 _ rfl
              have e3 := xH.cell 3 _ rfl
              have e4 := xH.cell 4 _ rfl
              have f0 := xH.ice 0
              have f1 := xH.ice 1
              have f2 := xH.ice 2
              have f3 := xH.ice 3
              have f4 := xH.ice 4
              have q0 := y7.cell 0 _ rfl
              have q1 := y7.cell 1 _ rfl
              have q2 := y7.cell 2 _ rfl
              have q3 := y7.cell 3 _ rfl
              have q4 := y7.cell 4 _ rfl
              go_wp2
              have zB := ((((xH.set 0 (.slice ga gn gc)).set 1 (.slice gk gm gl)).set 2 (.int .i64 gh)).set 3 (.int .i64 gt)).set 4 (.slice gb go gp)
              have hbut := (((((ButI.refl (H) w6).step 0 (.slice ga gn gc)).step 1 (.slice gk gm gl)).step 2 (.int .i64 gh)).step 3 (.int .i64 gt)).step 4 (.slice gb go gp)
              generalize ((((w6.setCell ⟨H, 0, none⟩ (.slice ga gn gc)).setCell ⟨H, 1, none⟩ (.slice gk gm gl)).setCell ⟨H, 2, none⟩ (.int .i64 gh)).setCell ⟨H, 3, none⟩ (.int .i64 gt)).setCell ⟨H, 4, none⟩ (.slice gb go gp) = w7 at *
              have z0 := zB.cell 0 _ rfl
              have z1 := zB.cell 1 _ rfl
              have z2 := zB.cell 2 _ rfl
              have z3 := zB.cell 3 _ rfl
              have z4 := zB.cell 4 _ rfl
              exact ⟨⟨j + 1, ⟨⟨ga, gn, gc, G, gk, gm, gl, gj, gh, gt⟩, gb, go, gp, GM⟩, by omega, by go_num, zB, ok5.but hbut.but (newW _ (by omega)), newW _ (by omega), by rw [P5.out]; exact H0.out, x1.butI hbut (by omega), xA.butI hbut (by omega), RV.ok.but hrk hbut.but hoR, AV.ok.but oka hbut.but hoA, bw.trans (hbut.below (B := w.heap.size) (by omega))⟩, by simp [intOf]; omega⟩
          · go_wp2
            exact ⟨⟨j + 1, hv, by omega, by go_num, xH.below (by (repeat first | exact bel0 | assumption | refine bel1 ?_ | refine bel2 ?_ | refine bel3 ?_ | refine belowT ?_ (by assumption) | refine bel5 ?_ (by simp; try omega))), hok.below (B := wr.heap.size) (by (repeat first | exact bel0 | assumption | refine bel1 ?_ | refine bel2 ?_ | refine bel3 ?_ | refine belowT ?_ (by assumption) | refine bel5 ?_ (by simp; try omega))) (Nat.le_refl _), hoH, HS.out, x1.below (by (repeat first | exact bel0 | assumption | refine bel1 ?_ | refine bel2 ?_ | refine bel3 ?_ | refine belowT ?_ (by assumption) | refine bel5 ?_ (by simp; try omega))), xA.below (by (repeat first | exact bel0 | assumption | refine bel1 ?_ | refine bel2 ?_ | refine bel3 ?_ | refine belowT ?_ (by assumption) | refine bel5 ?_ (by simp; try omega))), RV.ok.below hrk (B := wr.heap.size) (by (repeat first | exact bel0 | assumption | refine bel1 ?_ | refine bel2 ?_ | refine bel3 ?_ | refine belowT ?_ (by assumption) | refine bel5 ?_ (by simp; try omega))) (Nat.le_refl _), AV.ok.below oka (B := wr.heap.size) (by (repeat first | exact bel0 | assumption | refine bel1 ?_ | refine bel2 ?_ | refine bel3 ?_ | refine belowT ?_ (by assumption) | refine bel5 ?_ (by simp; try omega))) (Nat.le_refl _), by (repeat first | exact bel0 | assumption | refine bel1 ?_ | refine bel2 ?_ | refine bel3 ?_ | refine belowT ?_ (by assumption) | refine bel5 ?_ (by simp; try omega))⟩, by simp [intOf]; omega⟩
        · obtain rfl : j = 10 := by omega
          have hag := next_again HS.out.1 HS.out.2.1 HS.out.2.2
          have HN := hide (fun w' hS' h' k' => HRN.out hv w' hS' h' k')
          rw [show nextH hv.p (RV.p ⟨⟨rq, rs, ⟨k1, z1, u1, t1, d1⟩⟩, ra, rn, rc⟩) = (hv.p, pa, 0) from hag] at HN
          have HSM := hide (fun (g : HV) w' h1 h2 => HSame_c hv g w' h1 h2)
          have HCK := hide (fun w' h1 => HCheck_c hv w' h1)
          rw [HS.out.1] at HCK
          have HSA := hide (fun (g : AV) w' h1 h2 => lsameA_c ⟨ae, at', aa, an, ac, ad⟩ g w' h1 h2)
          rw [HAP.out] at HSA
          generalize hv.p = hp at *
          rw [show hv.v = .agg hv.cells.toArray from rfl] at *
          clear hag HS
          obtain ⟨⟨za, zn, zc, Z, ka, kn, kc, bk, bh, bt⟩, a, n, c, L⟩ := hv
          dsimp only [HV.cells] at *
          have q0 := xH.cell 0 _ rfl
          have q1 := xH.cell 1 _ rfl
          have q2 := xH.cell 2 _ rfl
          have q3 := xH.cell 3 _ rfl
          have q4 := xH.cell 4 _ rfl
          have r0 := x1.cell 0 _ rfl
          have r1 := x1.cell 1 _ rfl
          have r2 := x1.cell 2 _ rfl
          have r3 := x1.cell 3 _ rfl
          have r4 := x1.cell 4 _ rfl
          have r5 := x1.cell 5 _ rfl
          have r6 := x1.cell 6 _ rfl
          go_wp2_with fail
          refine (HN.out _ hSw hok hrk).mono ?_
          rintro e w5 ⟨⟨⟨⟨ga, gn, gc, G, gk, gm, gl, gj, gh, gt⟩, gb, go, gp, GM⟩, ⟨be, bt', ba, bn', bc, bd⟩, rfl, ok5, oka5, _, _, p5, pa5⟩, hb5⟩
          have P5 := hide (And.intro p5 pa5)
          replace xH := xH.below hb5
          replace xA := xA.below hb5
          replace hok := hok.below hb5 (Nat.le_refl _)
          replace oka := AV.ok.below oka hb5 (Nat.le_refl _)
          replace bw := belowT bw hb5
          clear q0 q1 q2 q3 q4 r0 r1 r2 r3 r4 r5 r6 hb5 HN p5 pa5 hSw hrk x1
          dsimp only [HV.v, AV.v]
          go_upto_region 13 with fail
          obtain ⟨y7, y8, bn⟩ := two_boxes w5 [.slice ga gn gc, .slice gk gm gl, .int .i64 gh, .int .i64 gt, .slice gb go gp] [.int .i64 be, .int .i64 bt', .slice ba bn' bc] 30 38
          replace xH := xH.below bn
          replace xA := xA.below bn
          replace oka := AV.ok.below oka bn (Nat.le_refl _)
          replace hok := hok.below bn (Nat.le_refl _)
          replace ok5 := ok5.below bn (Nat.le_refl _)
          replace oka5 := AV.ok.below oka5 bn (Nat.le_refl _)
          replace bw := belowT bw bn
          clear bn
          generalize w5.heap.size = B7 at *
          generalize (w5.alloc (.cells [.slice ga gn gc, .slice gk gm gl, .int .i64 gh, .int .i64 gt, .slice gb go gp].toArray 30)).alloc (.cells [.int .i64 be, .int .i64 bt', .slice ba bn' bc].toArray 38) = w6 at *
          have hM : sameH hp (HV.p ⟨⟨ga, gn, gc, G, gk, gm, gl, gj, gh, gt⟩, gb, go, gp, GM⟩) = true := (sameH_iff _ _).2 P5.out.1.symm
          have hA : sameA pa (AV.p ⟨be, bt', ba, bn', bc, bd⟩) = true := (sameA_iff _ _).2 P5.out.2.symm
          have HM := hide (fun w' h1 h2 => HSM.out ⟨⟨ga, gn, gc, G, gk, gm, gl, gj, gh, gt⟩, gb, go, gp, GM⟩ w' h1 h2)
          have HA := hide (fun w' h1 h2 => HSA.out ⟨be, bt', ba, bn', bc, bd⟩ w' h1 h2)
          rw [hM] at HM
          rw [hA] at HA
          dsimp only [HV.v, AV.v] at HM HA
          clear hM hA HSM HSA
          have q0 := xH.cell 0 _ rfl
          have q1 := xH.cell 1 _ rfl
          have q2 := xH.cell 2 _ rfl
          have q3 := xH.cell 3 _ rfl
          have q4 := xH.cell 4 _ rfl
          have g0 := y7.cell 0 _ rfl
          have g1 := y7.cell 1 _ rfl
          have g2 := y7.cell 2 _ rfl
          have g3 := y7.cell 3 _ rfl
          have g4 := y7.cell 4 _ rfl
          go_wp2_with fail
          refine (HM.out _ hok ok5).mono ?_
          rintro e w7 ⟨rfl, hb7⟩
          replace xH := xH.below hb7
          replace xA := xA.below hb7
          replace y8 := y8.below hb7
          replace oka := AV.ok.below oka hb7 (Nat.le_refl _)
          replace hok := hok.below hb7 (Nat.le_refl _)
          replace oka5 := AV.ok.below oka5 hb7 (Nat.le_refl _)
          replace bw := belowT bw hb7
          clear hb7 q0 q1 q2 q3 q4 g0 g1 g2 g3 g4
          have q0 := xA.cell 0 _ rfl
          have q1 := xA.cell 1 _ rfl
          have q2 := xA.cell 2 _ rfl
          have g0 := y8.cell 0 _ rfl
          have g1 := y8.cell 1 _ rfl
          have g2 := y8.cell 2 _ rfl
          go_wp2_with fail
          refine (HA.out _ oka oka5).mono ?_
          rintro e w8 ⟨rfl, hb8⟩
          replace xH := xH.below hb8
          replace hok := hok.below hb8 (Nat.le_refl _)
          replace bw := belowT bw hb8
          clear hb8 q0 q1 q2 g0 g1 g2
          have q0 := xH.cell 0 _ rfl
          have q1 := xH.cell 1 _ rfl
          have q2 := xH.cell 2 _ rfl
          have q3 := xH.cell 3 _ rfl
          have q4 := xH.cell 4 _ rfl
          go_wp2_with fail
          refine (HCK.out _ hok).mono ?_
          rintro e w9 ⟨rfl, hb9⟩
          go_wp2
          go_ret
          exact ⟨rfl, belowT bw hb9⟩
    · have h10' : ¬ (10 : Int) < (ln : Int) := by omega
      have h12 : (ln : Int) ≤ (lc : Int) := by omega
      have h13 : ¬ ((lc : Int) < (ln : Int)) := by omega
      have h14 : ¬ ((ln : Int) < 0) := by omega
      go_wp2_with fail
      go_loopw [37] (fun i wr => ∃ (j : Nat) (hv : HV), j ≤ ln ∧ i = .int .i64 (j : Nat) ∧ Lay wr H hv.cells ∧ hv.ok wr ∧ hv.off H ∧ Stood hv.p ⟨rq, rs, ⟨k1, z1, u1, t1, d1⟩⟩ pa ∧ Lay wr (w.heap.size + 1) [.int .i64 rq, .int .i64 rs, .int .i64 k1, .int .i64 z1, .int .i64 u1, .int .i64 t1, .slice ra rn rc] ∧ Lay wr (H + 1) [.int .i64 ae, .int .i64 at', .slice aa an ac] ∧ RV.ok wr ⟨⟨rq, rs, ⟨k1, z1, u1, t1, d1⟩⟩, ra, rn, rc⟩ ∧ AV.ok wr ⟨ae, at', aa, an, ac, ad⟩ ∧ Below w.heap.size w wr) (fun i _ => ln - (intOf i).toNat)
      case atStart => exact ⟨0, ⟨⟨ya, yn, yc, Y, yk, ym, yl, yj, yh, yt⟩, yb, yo, yp, M⟩, by omega, rfl, xH, ok2, hoH, HS.out, x1, xA, hrk, oka, bw⟩
      case round =>
        clear xH ok2 hoH HS x1 xA hrk oka bw hSw
        obtain ⟨j, hv, hj, rfl, xH, hok, hoH, hst, x1, xA, hrk, oka, bw⟩ := hrel
        have HS := hide hst
        clear hst
        rename_i wr
        have hSw := hS.below bw
        by_cases hlt : j < ln
        · obtain ⟨x, hx⟩ : ∃ z, X[j]? = some z := ⟨X[j]'(by omega), by simp⟩
          obtain ⟨lb, lo, rfl, hlb, hcl⟩ := hX.row.resolve_left (by omega)
          have kx := hcl j x hx
          have hxk := RV.ok.below (hX.ok x (List.mem_of_getElem? hx)) bw (Nat.le_refl _)
          have HN := hide (fun w' hS' h' k' => Next_c hv x w' hS' h' k')
          have HS1 : Hid (x.p.w ≠ rq → (nextH hv.p x.p).2.2 = 0 → Stood (nextH hv.p x.p).1 ⟨rq, rs, ⟨k1, z1, u1, t1, d1⟩⟩ pa) := hide (fun e f => HS.out.next e f)
          generalize nextH hv.p x.p = nx at *
          rw [show hv.v = .agg hv.cells.toArray from rfl, show x.v = .agg x.cells.toArray from rfl] at HN
          clear hx
          obtain ⟨⟨xq, xs, ⟨xk, xz, xu, xt, xd⟩⟩, xa, xn, xc⟩ := x
          dsimp only [RV.cells] at *
          have c0 := keepc bw (kx 0 _ rfl)
          have c1 := keepc bw (kx 1 _ rfl)
          have c2 := keepc bw (kx 2 _ rfl)
          have c3 := keepc bw (kx 3 _ rfl)
          have c4 := keepc bw (kx 4 _ rfl)
          have c5 := keepc bw (kx 5 _ rfl)
          have c6 := keepc bw (kx 6 _ rfl)
          rw [Nat.add_zero] at c0
          have hlt' : (j : Int) < ((ln : Nat) : Int) := by omega
          have r0 := past1 (x1.cell 0 _ rfl)
          clear kx hcl
          cases hq : xq == rq
          · have hne : xq ≠ rq := by simpa using hq
            have HNE := hide hne
            clear hne
            obtain ⟨⟨za, zn, zc, Z, ka, kn, kc, bk, bh, bt⟩, a, n, c, L⟩ := hv
            dsimp only [HV.cells] at *
            have q0 := past1 (xH.cell 0 _ rfl)
            have q1 := past1 (xH.cell 1 _ rfl)
            have q2 := past1 (xH.cell 2 _ rfl)
            have q3 := past1 (xH.cell 3 _ rfl)
            have q4 := past1 (xH.cell 4 _ rfl)
            go_wp2_with fail
            refine (HN.out _ (hSw.below (by (repeat first | exact bel0 | assumption | refine bel1 ?_ | refine bel2 ?_ | refine bel3 ?_ | refine belowT ?_ (by assumption) | refine bel5 ?_ (by simp; try omega)))) (hok.below (B := wr.heap.size) (by (repeat first | exact bel0 | assumption | refine bel1 ?_ | refine bel2 ?_ | refine bel3 ?_ | refine belowT ?_ (by assumption) | refine bel5 ?_ (by simp; try omega))) (Nat.le_refl _)) (RV.ok.below hxk (B := wr.heap.size) (by (repeat first | exact bel0 | assumption | refine bel1 ?_ | refine bel2 ?_ | refine bel3 ?_ | refine belowT ?_ (by assumption) | refine bel5 ?_ (by simp; try omega))) (Nat.le_refl _))).mono ?_
            rintro e w5 ⟨⟨⟨⟨ga, gn, gc, G, gk, gm, gl, gj, gh, gt⟩, gb, go, gp, GM⟩, ⟨be, bt', ba, bn', bc, bd⟩, rfl, ok5, _, new5, _, p5, _⟩, hb5⟩
            have b5 : Below wr.heap.size wr w5 := by (repeat first | exact bel0 | assumption | refine bel1 ?_ | refine bel2 ?_ | refine bel3 ?_ | refine belowT ?_ (by assumption) | refine bel5 ?_ (by simp; try omega))
            have hHl := xH.lt
            have newW := new5.mono (show wr.heap.size ≤ _ by simp)
            replace xH := xH.below b5
            replace x1 := x1.below b5
            replace xA := xA.below b5
            replace hrk := RV.ok.below hrk b5 (Nat.le_refl _)
            replace oka := AV.ok.below oka b5 (Nat.le_refl _)
            replace hok := hok.below b5 (Nat.le_refl _)
            replace bw := belowT bw b5
            have P5 := hide p5
            have hs5 := b5.size
            clear q0 q1 q2 q3 q4 c0 c1 c2 c3 c4 c5 c6 r0 hb5 HN p5 new5 hSw hxk
            dsimp only [HV.v, AV.v]
            go_upto_region 9 with fail
            obtain ⟨y7, _, bn⟩ := two_boxes w5 [.slice ga gn gc, .slice gk gm gl, .int .i64 gh, .int .i64 gt, .slice gb go gp] [.int .i64 be, .int .i64 bt', .slice ba bn' bc] 30 38
            replace x1 := x1.below bn
            replace xH := xH.below bn
            replace xA := xA.below bn
            replace hrk := RV.ok.below hrk bn (Nat.le_refl _)
            replace oka := AV.ok.below oka bn (Nat.le_refl _)
            replace hok := hok.below bn (Nat.le_refl _)
            replace ok5 := ok5.below bn (Nat.le_refl _)
            replace bw := belowT bw bn
            have hne7 : w5.heap.size ≠ H := by omega
            clear bn b5
            generalize w5.heap.size = B7 at *
            generalize (w5.alloc (.cells [.slice ga gn gc, .slice gk gm gl, .int .i64 gh, .int .i64 gt, .slice gb go gp].toArray 30)).alloc (.cells [.int .i64 be, .int .i64 bt', .slice ba bn' bc].toArray 38) = w6 at *
            cases he : nx.2.2 == 0
            · go_wp2
              exact ⟨⟨j + 1, ⟨⟨za, zn, zc, Z, ka, kn, kc, bk, bh, bt⟩, a, n, c, L⟩, by omega, by go_num, xH, hok, hoH, HS.out, x1, xA, hrk, oka, bw⟩, by simp [intOf]; omega⟩
            · have H0 := hide (HS1.out HNE.out (by simpa using he))
              clear HS1
              have e0 := xH.cell 0 _ rfl
              have e1 := xH.cell 1 _ rfl
              have e2 := xH.cell 2 _ rfl
              have e3 := xH.cell 3 _ rfl
              have e4 := xH.cell 4 _ rfl
              have f0 := xH.ice 0
              have f1 := xH.ice 1
              have f2 := xH.ice 2
              have f3 := xH.ice 3
              have f4 := xH.ice 4
              have q0 := y7.cell 0 _ rfl
              have q1 := y7.cell 1 _ rfl
              have q2 := y7.cell 2 _ rfl
              have q3 := y7.cell 3 _ rfl
              have q4 := y7.cell 4 _ rfl
              go_wp2
              have zB := ((((xH.set 0 (.slice ga gn gc)).set 1 (.slice gk gm gl)).set 2 (.int .i64 gh)).set 3 (.int .i64 gt)).set 4 (.slice gb go gp)
              have hbut := (((((ButI.refl (H) w6).step 0 (.slice ga gn gc)).step 1 (.slice gk gm gl)).step 2 (.int .i64 gh)).step 3 (.int .i64 gt)).step 4 (.slice gb go gp)
              generalize ((((w6.setCell ⟨H, 0, none⟩ (.slice ga gn gc)).setCell ⟨H, 1, none⟩ (.slice gk gm gl)).setCell ⟨H, 2, none⟩ (.int .i64 gh)).setCell ⟨H, 3, none⟩ (.int .i64 gt)).setCell ⟨H, 4, none⟩ (.slice gb go gp) = w7 at *
              have z0 := zB.cell 0 _ rfl
              have z1 := zB.cell 1 _ rfl
              have z2 := zB.cell 2 _ rfl
              have z3 := zB.cell 3 _ rfl
              have z4 := zB.cell 4 _ rfl
              exact ⟨⟨j + 1, ⟨⟨ga, gn, gc, G, gk, gm, gl, gj, gh, gt⟩, gb, go, gp, GM⟩, by omega, by go_num, zB, ok5.but hbut.but (newW _ (by omega)), newW _ (by omega), by rw [P5.out]; exact H0.out, x1.butI hbut (by omega), xA.butI hbut (by omega), RV.ok.but hrk hbut.but hoR, AV.ok.but oka hbut.but hoA, bw.trans (hbut.below (B := w.heap.size) (by omega))⟩, by simp [intOf]; omega⟩
          · go_wp2
            exact ⟨⟨j + 1, hv, by omega, by go_num, xH.below (by (repeat first | exact bel0 | assumption | refine bel1 ?_ | refine bel2 ?_ | refine bel3 ?_ | refine belowT ?_ (by assumption) | refine bel5 ?_ (by simp; try omega))), hok.below (B := wr.heap.size) (by (repeat first | exact bel0 | assumption | refine bel1 ?_ | refine bel2 ?_ | refine bel3 ?_ | refine belowT ?_ (by assumption) | refine bel5 ?_ (by simp; try omega))) (Nat.le_refl _), hoH, HS.out, x1.below (by (repeat first | exact bel0 | assumption | refine bel1 ?_ | refine bel2 ?_ | refine bel3 ?_ | refine belowT ?_ (by assumption) | refine bel5 ?_ (by simp; try omega))), xA.below (by (repeat first | exact bel0 | assumption | refine bel1 ?_ | refine bel2 ?_ | refine bel3 ?_ | refine belowT ?_ (by assumption) | refine bel5 ?_ (by simp; try omega))), RV.ok.below hrk (B := wr.heap.size) (by (repeat first | exact bel0 | assumption | refine bel1 ?_ | refine bel2 ?_ | refine bel3 ?_ | refine belowT ?_ (by assumption) | refine bel5 ?_ (by simp; try omega))) (Nat.le_refl _), AV.ok.below oka (B := wr.heap.size) (by (repeat first | exact bel0 | assumption | refine bel1 ?_ | refine bel2 ?_ | refine bel3 ?_ | refine belowT ?_ (by assumption) | refine bel5 ?_ (by simp; try omega))) (Nat.le_refl _), by (repeat first | exact bel0 | assumption | refine bel1 ?_ | refine bel2 ?_ | refine bel3 ?_ | refine belowT ?_ (by assumption) | refine bel5 ?_ (by simp; try omega))⟩, by simp [intOf]; omega⟩
        · obtain rfl : j = ln := by omega
          have hag := next_again HS.out.1 HS.out.2.1 HS.out.2.2
          have HN := hide (fun w' hS' h' k' => HRN.out hv w' hS' h' k')
          rw [show nextH hv.p (RV.p ⟨⟨rq, rs, ⟨k1, z1, u1, t1, d1⟩⟩, ra, rn, rc⟩) = (hv.p, pa, 0) from hag] at HN
          have HSM := hide (fun (g : HV) w' h1 h2 => HSame_c hv g w' h1 h2)
          have HCK := hide (fun w' h1 => HCheck_c hv w' h1)
          rw [HS.out.1] at HCK
          have HSA := hide (fun (g : AV) w' h1 h2 => lsameA_c ⟨ae, at', aa, an, ac, ad⟩ g w' h1 h2)
          rw [HAP.out] at HSA
          generalize hv.p = hp at *
          rw [show hv.v = .agg hv.cells.toArray from rfl] at *
          clear hag HS
          obtain ⟨⟨za, zn, zc, Z, ka, kn, kc, bk, bh, bt⟩, a, n, c, L⟩ := hv
          dsimp only [HV.cells] at *
          have q0 := xH.cell 0 _ rfl
          have q1 := xH.cell 1 _ rfl
          have q2 := xH.cell 2 _ rfl
          have q3 := xH.cell 3 _ rfl
          have q4 := xH.cell 4 _ rfl
          have r0 := x1.cell 0 _ rfl
          have r1 := x1.cell 1 _ rfl
          have r2 := x1.cell 2 _ rfl
          have r3 := x1.cell 3 _ rfl
          have r4 := x1.cell 4 _ rfl
          have r5 := x1.cell 5 _ rfl
          have r6 := x1.cell 6 _ rfl
          go_wp2_with fail
          refine (HN.out _ hSw hok hrk).mono ?_
          rintro e w5 ⟨⟨⟨⟨ga, gn, gc, G, gk, gm, gl, gj, gh, gt⟩, gb, go, gp, GM⟩, ⟨be, bt', ba, bn', bc, bd⟩, rfl, ok5, oka5, _, _, p5, pa5⟩, hb5⟩
          have P5 := hide (And.intro p5 pa5)
          replace xH := xH.below hb5
          replace xA := xA.below hb5
          replace hok := hok.below hb5 (Nat.le_refl _)
          replace oka := AV.ok.below oka hb5 (Nat.le_refl _)
          replace bw := belowT bw hb5
          clear q0 q1 q2 q3 q4 r0 r1 r2 r3 r4 r5 r6 hb5 HN p5 pa5 hSw hrk x1
          dsimp only [HV.v, AV.v]
          go_upto_region 13 with fail
          obtain ⟨y7, y8, bn⟩ := two_boxes w5 [.slice ga gn gc, .slice gk gm gl, .int .i64 gh, .int .i64 gt, .slice gb go gp] [.int .i64 be, .int .i64 bt', .slice ba bn' bc] 30 38
          replace xH := xH.below bn
          replace xA := xA.below bn
          replace oka := AV.ok.below oka bn (Nat.le_refl _)
          replace hok := hok.below bn (Nat.le_refl _)
          replace ok5 := ok5.below bn (Nat.le_refl _)
          replace oka5 := AV.ok.below oka5 bn (Nat.le_refl _)
          replace bw := belowT bw bn
          clear bn
          generalize w5.heap.size = B7 at *
          generalize (w5.alloc (.cells [.slice ga gn gc, .slice gk gm gl, .int .i64 gh, .int .i64 gt, .slice gb go gp].toArray 30)).alloc (.cells [.int .i64 be, .int .i64 bt', .slice ba bn' bc].toArray 38) = w6 at *
          have hM : sameH hp (HV.p ⟨⟨ga, gn, gc, G, gk, gm, gl, gj, gh, gt⟩, gb, go, gp, GM⟩) = true := (sameH_iff _ _).2 P5.out.1.symm
          have hA : sameA pa (AV.p ⟨be, bt', ba, bn', bc, bd⟩) = true := (sameA_iff _ _).2 P5.out.2.symm
          have HM := hide (fun w' h1 h2 => HSM.out ⟨⟨ga, gn, gc, G, gk, gm, gl, gj, gh, gt⟩, gb, go, gp, GM⟩ w' h1 h2)
          have HA := hide (fun w' h1 h2 => HSA.out ⟨be, bt', ba, bn', bc, bd⟩ w' h1 h2)
          rw [hM] at HM
          rw [hA] at HA
          dsimp only [HV.v, AV.v] at HM HA
          clear hM hA HSM HSA
          have q0 := xH.cell 0 _ rfl
          have q1 := xH.cell 1 _ rfl
          have q2 := xH.cell 2 _ rfl
          have q3 := xH.cell 3 _ rfl
          have q4 := xH.cell 4 _ rfl
          have g0 := y7.cell 0 _ rfl
          have g1 := y7.cell 1 _ rfl
          have g2 := y7.cell 2 _ rfl
          have g3 := y7.cell 3 _ rfl
          have g4 := y7.cell 4 _ rfl
          go_wp2_with fail
          refine (HM.out _ hok ok5).mono ?_
          rintro e w7 ⟨rfl, hb7⟩
          replace xH := xH.below hb7
          replace xA := xA.below hb7
          replace y8 := y8.below hb7
          replace oka := AV.ok.below oka hb7 (Nat.le_refl _)
          replace hok := hok.below hb7 (Nat.le_refl _)
          replace oka5 := AV.ok.below oka5 hb7 (Nat.le_refl _)
          replace bw := belowT bw hb7
          clear hb7 q0 q1 q2 q3 q4 g0 g1 g2 g3 g4
          have q0 := xA.cell 0 _ rfl
          have q1 := xA.cell 1 _ rfl
          have q2 := xA.cell 2 _ rfl
          have g0 := y8.cell 0 _ rfl
          have g1 := y8.cell 1 _ rfl
          have g2 := y8.cell 2 _ rfl
          go_wp2_with fail
          refine (HA.out _ oka oka5).mono ?_
          rintro e w8 ⟨rfl, hb8⟩
          replace xH := xH.below hb8
          replace hok := hok.below hb8 (Nat.le_refl _)
          replace bw := belowT bw hb8
          clear hb8 q0 q1 q2 g0 g1 g2
          have q0 := xH.cell 0 _ rfl
          have q1 := xH.cell 1 _ rfl
          have q2 := xH.cell 2 _ rfl
          have q3 := xH.cell 3 _ rfl
          have q4 := xH.cell 4 _ rfl
          go_wp2_with fail
          refine (HCK.out _ hok).mono ?_
          rintro e w9 ⟨rfl, hb9⟩
          go_wp2
          go_ret
          exact ⟨rfl, belowT bw hb9⟩
  · go_wp2_with fail
    refine (once_c _ hSw).mono ?_
    rintro e w5 ⟨rfl, hb5⟩
    go_wp2
    go_ret
    exact ⟨rfl, belowT bw hb5⟩

end Go.Proofs.YtcmladgldjcdmaaDoor
