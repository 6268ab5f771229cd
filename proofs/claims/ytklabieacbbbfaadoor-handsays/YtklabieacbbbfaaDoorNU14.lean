/- HandTurns answers true for every hand, list of commands and answer, and leaves all that was there as it was; no condition but that the package's table is as its text lays it. -/
import Derived.Test.YtklabieacbbbfaaDoorNU9
import Derived.Test.YtklabieacbbbfaaDoorNU13
import Derived.Test.YtklabieacbbbfaaDoorNU3
import Derived.Test.YtklabieacbbbfaaDoorNU10
import Derived.Test.YtklabieacbbbfaaDoorNU6
namespace Go.Proofs.YtklabieacbbbfaaDoor
open Go.RowKit
set_option linter.unusedVariables false
set_option maxRecDepth 100000
set_option linter.unusedSimpArgs false

/-- When Ask answers without an error. -/
theorem ask_next {h : PN} {c : PC} (k : (askN h c).2 = 0) : h.w = false ∧ askN h c = (⟨h.s + 1, true, c, h.g⟩, 0) ∧ checkN ⟨h.s + 1, true, c, h.g⟩ = 0 ∧ checkC c = 0 ∧ h.g.length ≤ 40 := by
  obtain ⟨a1, a2, a3, a4⟩ := ask_some k
  obtain ⟨e1, e2⟩ := ask_ok a1 a3 a2 a4
  obtain ⟨h1, _, h3, _⟩ := checkN_ok a1
  simp only [formN, a3, Bool.false_eq_true, if_false, Bool.and_eq_true, decide_eq_true_eq] at h3
  exact ⟨a3, e1, e2, a2, by omega⟩

set_option maxRecDepth 100000 in
set_option maxHeartbeats 16000000 in
theorem HandTurns_c (h : NV) (la' : Option Addr) (ln lc' : Nat) (X : List BV) (y : AV) (w : World) (hS : Shapes w) (hk : h.ok w) (hX : Cmds w la' ln lc' X) (hy : y.ok w) : Calls Tryd.prog 4 #[h.v, .slice la' ln lc', y.v] w fun e w' => e = .returned (.bool true) ∧ Below w.heap.size w w' := by
  have hXm := hX.max
  have hXl := hX.le
  have Y1 := hide (fun w' hS' h' => JCheck_c h w' hS' h')
  have Y2 := hide (fun w' h' => DCheckAnswer_c y w' h')
  have Y3 := hide (fun w' hS' h' y' => JHear_c h h.s y w' hS' h' y')
  have hoA0 : AV.off w.heap.size y := AV.ok.off hy (Nat.le_refl _)
  obtain ⟨l0, la, bw⟩ := two_boxes w h.cells y.cells 27 30
  have ok0 := hk.below bw (Nat.le_refl _)
  have oka := AV.ok.below hy bw (Nat.le_refl _)
  have hSw := hS.below bw
  clear hk hy
  have HCK0 : Hid (checkN h.p = checkN h.p) := hide rfl
  have HAK0 : Hid (checkA y.p = checkA y.p) := hide rfl
  generalize hch : checkN h.p = ch at *
  generalize hca : checkA y.p = cy at *
  have HCH := hide hch
  have HCA := hide hca
  clear hch hca HCK0 HAK0
  rw [show h.v = .agg h.cells.toArray from rfl, show y.v = .agg y.cells.toArray from rfl] at *
  obtain ⟨s0, v0, ⟨k0, z0, u0, t0, d0⟩, ca0, cn0, cc0, ga0, gn0, gc0, G0⟩ := h
  obtain ⟨ae, at', aa, an, ac, ad⟩ := y
  dsimp only [NV.cells, AV.cells] at *
  go_enter Tryd.func4, Tryd.ntmps4
  go_wp2_with fail
  generalize (w.alloc (.cells [.int .i64 s0, .bool v0, .int .i64 k0, .int .i64 z0, .int .i64 u0, .int .i64 t0, .slice ca0 cn0 cc0, .slice ga0 gn0 gc0].toArray 27)).alloc (.cells [.int .i64 ae, .int .i64 at', .slice aa an ac].toArray 30) = w1 at *
  refine (answered_c _ hSw).mono ?_
  rintro e w3 ⟨rfl, hb3⟩
  replace l0 := l0.below hb3
  replace la := la.below hb3
  replace ok0 := ok0.below hb3 (Nat.le_refl _)
  replace oka := AV.ok.below oka hb3 (Nat.le_refl _)
  replace hSw := hSw.below hb3
  replace bw := belowT bw hb3
  clear hb3
  obtain ⟨q0, q1, q2, q3, q4, q5, q6, q7⟩ := l0.eight
  go_wp2_with fail
  refine (Y1.out _ hSw ok0).mono ?_
  rintro e w4 ⟨rfl, hb3⟩
  clear q0 q1 q2 q3 q4 q5 q6 q7 Y1
  replace l0 := l0.below hb3
  replace la := la.below hb3
  replace ok0 := ok0.below hb3 (Nat.le_refl _)
  replace oka := AV.ok.below oka hb3 (Nat.le_refl _)
  replace hSw := hSw.below hb3
  replace bw := belowT bw hb3
  clear hb3
  have fin : ∀ W : World, Shapes W → Below w.heap.size w W → Calls Tryd.prog 10 #[] W fun e w' => e = .returned (.bool true) ∧ Below w.heap.size w w' := fun W s b => (answered_c W s).mono (by rintro e w' ⟨rfl, hb⟩; exact ⟨rfl, belowT b hb⟩)
  cases h0 : ch != 0
  · obtain rfl : ch = 0 := by simpa using h0
    have r0 := la.cell 0 _ rfl
    have r1 := la.cell 1 _ rfl
    have r2 := la.cell 2 _ rfl
    go_wp2_with fail
    refine (Y2.out _ oka).mono ?_
    rintro e w5' ⟨rfl, hb3⟩
    clear r0 r1 r2 Y2
    replace l0 := l0.below hb3
    replace la := la.below hb3
    replace ok0 := ok0.below hb3 (Nat.le_refl _)
    replace oka := AV.ok.below oka hb3 (Nat.le_refl _)
    replace hSw := hSw.below hb3
    replace bw := belowT bw hb3
    clear hb3
    cases h1 : cy != 0
    · obtain rfl : cy = 0 := by simpa using h1
      have HAOK : Hid (checkA (AV.p ⟨ae, at', aa, an, ac, ad⟩) = 0) := hide HCA.out
      have r9 := l0.cell 1 _ rfl
      go_upto_if 29 with fail
      go_cut [7] (fun v7 wx => ∃ hv : NV, Lay wx w.heap.size hv.cells ∧ hv.ok wx ∧ checkN hv.p = 0 ∧ hv.w = false ∧ Lay wx (w.heap.size + 1) [.int .i64 ae, .int .i64 at', .slice aa an ac] ∧ AV.ok wx ⟨ae, at', aa, an, ac, ad⟩ ∧ Below w.heap.size w wx)
      case first =>
        cases v0
        · go_wp2_with fail
          go_meet
          case rel => exact ⟨⟨s0, false, ⟨k0, z0, u0, t0, d0⟩, ca0, cn0, cc0, ga0, gn0, gc0, G0⟩, l0, ok0, HCH.out, rfl, la, oka, bw⟩
        · have hh := hear_ok (h := NV.p ⟨s0, true, ⟨k0, z0, u0, t0, d0⟩, ca0, cn0, cc0, ga0, gn0, gc0, G0⟩) (a := AV.p ⟨ae, at', aa, an, ac, ad⟩) HCH.out rfl HAOK.out
          rw [show hearN (NV.p ⟨s0, true, ⟨k0, z0, u0, t0, d0⟩, ca0, cn0, cc0, ga0, gn0, gc0, G0⟩) s0 (AV.p ⟨ae, at', aa, an, ac, ad⟩) = _ from hh.1] at Y3
          have HR := hide hh.2
          clear hh
          obtain ⟨q0, q1, q2, q3, q4, q5, q6, q7⟩ := l0.eight
          have r0 := la.cell 0 _ rfl
          have r1 := la.cell 1 _ rfl
          have r2 := la.cell 2 _ rfl
          go_wp2_with fail
          refine (Y3.out _ hSw ok0 oka).mono ?_
          rintro e w6 ⟨⟨⟨s1, v1, ⟨k1, z1, u1, t1, d1⟩, ca1, cn1, cc1, ga1, gn1, gc1, G1⟩, rfl, ok1, new1, p1⟩, hb⟩
          have new1' := new1 w.heap.size (by have := l0.lt; omega)
          have P1 := hide p1
          clear p1 Y3 new1 q0 q1 q2 q3 q4 q5 q6 q7 r0 r1 r2
          dsimp only [NV.v]
          replace l0 := l0.below hb
          replace la := la.below hb
          replace oka := AV.ok.below oka hb (Nat.le_refl _)
          replace bw := belowT bw hb
          clear hb
          obtain ⟨c0, c1, c2, c3, c4, c5, c6, c7⟩ := l0.eight
          have f0 := l0.ice 0
          have f1 := l0.ice 1
          have f2 := l0.ice 2
          have f3 := l0.ice 3
          have f4 := l0.ice 4
          have f5 := l0.ice 5
          have f6 := l0.ice 6
          have f7 := l0.ice 7
          go_wp2_with fail
          go_meet
          case rel =>
            have zB := ((((((((l0.set 0 (.int .i64 s1)).set 1 (.bool v1)).set 2 (.int .i64 k1)).set 3 (.int .i64 z1)).set 4 (.int .i64 u1)).set 5 (.int .i64 t1)).set 6 (.slice ca1 cn1 cc1)).set 7 (.slice ga1 gn1 gc1))
            have hbut := (((((((((ButI.refl (w.heap.size) w6).step 0 (.int .i64 s1)).step 1 (.bool v1)).step 2 (.int .i64 k1)).step 3 (.int .i64 z1)).step 4 (.int .i64 u1)).step 5 (.int .i64 t1)).step 6 (.slice ca1 cn1 cc1)).step 7 (.slice ga1 gn1 gc1))
            generalize ((((((((w6.setCell ⟨w.heap.size, 0, none⟩ (.int .i64 s1)).setCell ⟨w.heap.size, 1, none⟩ (.bool v1)).setCell ⟨w.heap.size, 2, none⟩ (.int .i64 k1)).setCell ⟨w.heap.size, 3, none⟩ (.int .i64 z1)).setCell ⟨w.heap.size, 4, none⟩ (.int .i64 u1)).setCell ⟨w.heap.size, 5, none⟩ (.int .i64 t1)).setCell ⟨w.heap.size, 6, none⟩ (.slice ca1 cn1 cc1)).setCell ⟨w.heap.size, 7, none⟩ (.slice ga1 gn1 gc1)) = w7 at *
            have p1 := P1.out
            exact ⟨⟨s1, v1, ⟨k1, z1, u1, t1, d1⟩, ca1, cn1, cc1, ga1, gn1, gc1, G1⟩, zB, ok1.but hbut.but new1', by rw [p1]; exact HR.out, congrArg PN.w p1, la.butI hbut (by omega), AV.ok.but oka hbut.but hoA0, bw.trans (hbut.below (B := w.heap.size) (Nat.le_refl _))⟩
      case rest =>
        clear l0 la ok0 oka bw HCH HCA Y3 hSw r9
        obtain ⟨⟨s0, v0, ⟨k0, z0, u0, t0, d0⟩, ca0, cn0, cc0, ga0, gn0, gc0, G0⟩, l0, ok0, hck, hwf, la, oka, bw⟩ := hcut
        have HCK := hide hck
        have HWF := hide hwf
        clear hck hwf
        dsimp only [NV.cells] at l0
        by_cases h10 : 10 < ln
        · have h10' : (10 : Int) < (ln : Int) := by omega
          have h11 : 10 ≤ lc' := by omega
          have h12 : (10 : Int) ≤ (lc' : Int) := by omega
          have h13 : ¬ ((lc' : Int) < 10) := by omega
          go_wp2_with fail
          go_loopw [46] (fun i wr => ∃ wz : World, wz = wr ∧ ∃ (j : Nat) (hv : NV), j ≤ 10 ∧ i = .int .i64 (j : Nat) ∧ Lay wz w.heap.size hv.cells ∧ hv.ok wz ∧ checkN hv.p = 0 ∧ hv.w = false ∧ Lay wz (w.heap.size + 1) [.int .i64 ae, .int .i64 at', .slice aa an ac] ∧ AV.ok wz ⟨ae, at', aa, an, ac, ad⟩ ∧ Below w.heap.size w wz) (fun i _ => 10 - (intOf i).toNat)
          case atStart => exact ⟨_, rfl, 0, ⟨s0, v0, ⟨k0, z0, u0, t0, d0⟩, ca0, cn0, cc0, ga0, gn0, gc0, G0⟩, by omega, rfl, l0, ok0, HCK.out, HWF.out, la, oka, bw⟩
          case round =>
            clear l0 ok0 HCK HWF la oka bw
            obtain ⟨wr, rfl, j, hv, hj, rfl, l0, ok0, hck, hwf, la, oka, bw⟩ := hrel
            have hSw := hS.below bw
            by_cases hlt : j < 10
            · obtain ⟨b, off, x, rfl, hx, hxk, hblt, kx⟩ := hX.at (i := j) (by omega)
              have hB0 := l0.lt
              have hcx := BV.ok.below hxk bw (Nat.le_refl _)
              have hoA : AV.off w.heap.size ⟨ae, at', aa, an, ac, ad⟩ := hoA0
              have YA := hide (fun w' hS' h' b' => JAsk_c hv x.a x.n x.c x.p w' hS' h' b')
              have YC := hide (fun w' hS' b' => cmdCheck_c x.a x.n x.c x.p w' hS' b')
              have HE1 : Hid ((askN hv.p x.p).2 ≠ 0 → ¬ (checkC x.p = 0 ∧ hv.s < 40)) := hide (fun e q => e (by rw [(ask_ok hck hwf q.1 q.2).1]))
              have HE2 := hide (fun (e : (askN hv.p x.p).2 = 0) => ask_next e)
              have HG : Hid (hv.p.g.length = hv.gn) := hide (by show (hv.G.map AV.p).length = _; rw [List.length_map]; exact ok0.g.len)
              have HCK := hide hck
              have HWF := hide hwf
              clear hck hwf hx
              generalize askN hv.p x.p = na at *
              generalize checkC x.p = cx at *
              rw [show hv.v = .agg hv.cells.toArray from rfl] at YA
              obtain ⟨⟨xk, xz, xu, xt, xd⟩, xa, xn, xc⟩ := x
              have hhv : hv.p.g.length = hv.gn := HG.out
              generalize hhp : hv.p = hp at *
              have HHP := hide hhp
              clear hhp
              obtain ⟨s0, v0, ⟨k0, z0, u0, t0, d0⟩, ca0, cn0, cc0, ga0, gn0, gc0, G0⟩ := hv
              dsimp only [NV.cells, BV.cells, BV.ok, cmdV] at *
              obtain rfl : v0 = false := HWF.out
              have x0 := keepc bw (kx 0 _ rfl)
              have x1 := keepc bw (kx 1 _ rfl)
              have x2 := keepc bw (kx 2 _ rfl)
              have x3 := keepc bw (kx 3 _ rfl)
              have x4 := keepc bw (kx 4 _ rfl)
              rw [Nat.add_zero] at x0
              have hlt' : (j : Int) < ((10 : Nat) : Int) := by omega
              clear kx
              go_upto_region 11 with fail
              have lc := Lay.made wr [.int .i64 xk, .int .i64 xz, .int .i64 xu, .int .i64 xt, .slice xa xn xc] 24
              have bn' := belowA (Below.refl _ wr) (.cells [.int .i64 xk, .int .i64 xz, .int .i64 xu, .int .i64 xt, .slice xa xn xc].toArray 24)
              replace l0 := l0.below bn'
              replace la := la.below bn'
              replace ok0 := ok0.below bn' (Nat.le_refl _)
              replace oka := AV.ok.below oka bn' (Nat.le_refl _)
              replace hcx := Ints.below hcx bn' (Nat.le_refl _)
              replace hSw := hSw.below bn'
              replace bw := belowT bw bn'
              clear bn' x0 x1 x2 x3 x4
              generalize wr.heap.size = BC at *
              generalize wr.alloc (.cells [.int .i64 xk, .int .i64 xz, .int .i64 xu, .int .i64 xt, .slice xa xn xc].toArray 24) = w5 at *
              obtain ⟨q0, q1, q2, q3, q4, q5, q6, q7⟩ := l0.eight
              have r0 := lc.cell 0 _ rfl
              have r1 := lc.cell 1 _ rfl
              have r2 := lc.cell 2 _ rfl
              have r3 := lc.cell 3 _ rfl
              have r4 := lc.cell 4 _ rfl
              go_wp2_with fail
              refine (YA.out _ hSw ok0 hcx).mono ?_
              rintro e v2' ⟨⟨⟨s1, v1, ⟨k1, z1, u1, t1, d1⟩, ca1, cn1, cc1, ga1, gn1, gc1, G1⟩, rfl, ok1, _, p1⟩, hb⟩
              have P1 := hide p1
              clear p1 YA q0 q1 q2 q3 q4 q5 q6 q7 r0 r1 r2 r3 r4
              dsimp only [NV.v]
              go_upto_region 13 with fail
              have l1 := Lay.made v2' [.int .i64 s1, .bool v1, .int .i64 k1, .int .i64 z1, .int .i64 u1, .int .i64 t1, .slice ca1 cn1 cc1, .slice ga1 gn1 gc1] 27
              have bn' := belowA (Below.refl _ v2') (.cells [.int .i64 s1, .bool v1, .int .i64 k1, .int .i64 z1, .int .i64 u1, .int .i64 t1, .slice ca1 cn1 cc1, .slice ga1 gn1 gc1].toArray 27)
              replace ok1 := ok1.below bn' (Nat.le_refl _)
              have bv := belowT hb bn'
              replace l0 := l0.below bv
              replace la := la.below bv
              replace lc := lc.below bv
              replace ok0 := ok0.below bv (Nat.le_refl _)
              replace oka := AV.ok.below oka bv (Nat.le_refl _)
              replace hcx := Ints.below hcx bv (Nat.le_refl _)
              replace hSw := hSw.below bv
              replace bw := belowT bw bv
              clear bn' bv hb
              generalize v2'.heap.size = B1 at *
              generalize v2'.alloc (.cells [.int .i64 s1, .bool v1, .int .i64 k1, .int .i64 z1, .int .i64 u1, .int .i64 t1, .slice ca1 cn1 cc1, .slice ga1 gn1 gc1].toArray 27) = w6 at *
              cases he : na.2 != 0
              · have HX := hide (HE2.out (by simpa using he))
                obtain ⟨h1, h2, h3, h4, h5⟩ := HX.out
                have p1 := P1.out
                have hx1w : v1 = true := by have := congrArg PN.w p1; rw [h2] at this; exact this
                have hx1g : G1.map AV.p = hp.g := by have := congrArg PN.g p1; rw [h2] at this; exact this
                have hck1 : checkN (NV.p ⟨s1, v1, ⟨k1, z1, u1, t1, d1⟩, ca1, cn1, cc1, ga1, gn1, gc1, G1⟩) = 0 := by rw [p1, h2]; exact h3
                have hg1 : gn1 = gn0 := by have e1 := congrArg List.length hx1g; rw [List.length_map, hhv] at e1; have e2 : G1.length = gn1 := ok1.g.len; omega
                have he1 := hear_ok (h := NV.p ⟨s1, v1, ⟨k1, z1, u1, t1, d1⟩, ca1, cn1, cc1, ga1, gn1, gc1, G1⟩) (a := AV.p ⟨ae, at', aa, an, ac, ad⟩) hck1 hx1w HAOK.out
                have Y2 := hide (fun w' hS' h' y' => JHear_c ⟨s1, v1, ⟨k1, z1, u1, t1, d1⟩, ca1, cn1, cc1, ga1, gn1, gc1, G1⟩ s1 ⟨ae, at', aa, an, ac, ad⟩ w' hS' h' y')
                rw [show hearN (NV.p ⟨s1, v1, ⟨k1, z1, u1, t1, d1⟩, ca1, cn1, cc1, ga1, gn1, gc1, G1⟩) s1 (AV.p ⟨ae, at', aa, an, ac, ad⟩) = _ from he1.1] at Y2
                have HC2 := hide he1.2
                have hgl : gn0 ≤ 40 := by rw [← hhv]; exact h5
                clear P1 p1 h1 h2 h3 h4 h5 hx1g hck1 he1 HX HE1 HE2
                subst hx1w hg1
                dsimp only [NV.v, AV.v] at Y2
                have HLN : Hid (G1.length = gn1) := hide ok1.g.len
                obtain ⟨q0, q1, q2, q3, q4, q5, q6, q7⟩ := l1.eight
                have r0 := la.cell 0 _ rfl
                have r1 := la.cell 1 _ rfl
                have r2 := la.cell 2 _ rfl
                go_wp2_with fail
                refine (Y2.out _ hSw ok1 oka).mono ?_
                rintro e v3' ⟨⟨⟨s2, v2, ⟨k2, z2, u2, t2, d2⟩, ca2, cn2, cc2, ga2, gn2, gc2, G2⟩, rfl, ok2, new2, p2⟩, hb⟩
                have new2' := new2 w.heap.size (by have := l0.lt; omega)
                have P2 := hide p2
                clear p2 Y2 new2 q0 q1 q2 q3 q4 q5 q6 q7 r0 r1 r2
                dsimp only [NV.v]
                go_upto_region 17 with fail
                have l2 := Lay.made v3' [.int .i64 s2, .bool v2, .int .i64 k2, .int .i64 z2, .int .i64 u2, .int .i64 t2, .slice ca2 cn2 cc2, .slice ga2 gn2 gc2] 27
                have bn' := belowA (Below.refl _ v3') (.cells [.int .i64 s2, .bool v2, .int .i64 k2, .int .i64 z2, .int .i64 u2, .int .i64 t2, .slice ca2 cn2 cc2, .slice ga2 gn2 gc2].toArray 27)
                replace ok2 := ok2.below bn' (Nat.le_refl _)
                have bv := belowT hb bn'
                replace l0 := l0.below bv
                replace la := la.below bv
                replace l1 := l1.below bv
                replace oka := AV.ok.below oka bv (Nat.le_refl _)
                replace hSw := hSw.below bv
                replace bw := belowT bw bv
                clear bn' bv hb
                generalize v3'.heap.size = B2 at *
                generalize v3'.alloc (.cells [.int .i64 s2, .bool v2, .int .i64 k2, .int .i64 z2, .int .i64 u2, .int .i64 t2, .slice ca2 cn2 cc2, .slice ga2 gn2 gc2].toArray 27) = w7 at *
                have p2 := P2.out
                have hy2w : v2 = false := congrArg PN.w p2
                have hck2 : checkN (NV.p ⟨s2, v2, ⟨k2, z2, u2, t2, d2⟩, ca2, cn2, cc2, ga2, gn2, gc2, G2⟩) = 0 := by rw [p2]; exact HC2.out
                have hg2 : gn2 = gn1 + 1 := by
                  have e1 := congrArg List.length (congrArg PN.g p2)
                  have e2 : G2.length = gn2 := ok2.g.len
                  simp only [NV.p, List.length_map, List.length_append, List.length_singleton, HLN.out] at e1
                  omega
                have HG2 := hide hg2
                clear hg2
                have Y3 := hide (fun w' hS' h' y' => JHear_c ⟨s2, v2, ⟨k2, z2, u2, t2, d2⟩, ca2, cn2, cc2, ga2, gn2, gc2, G2⟩ s1 ⟨ae, at', aa, an, ac, ad⟩ w' hS' h' y')
                rw [show hearN (NV.p ⟨s2, v2, ⟨k2, z2, u2, t2, d2⟩, ca2, cn2, cc2, ga2, gn2, gc2, G2⟩) s1 (AV.p ⟨ae, at', aa, an, ac, ad⟩) = (NV.p ⟨s2, v2, ⟨k2, z2, u2, t2, d2⟩, ca2, cn2, cc2, ga2, gn2, gc2, G2⟩, 0) from hear_deaf hck2 HAOK.out (.inl hy2w)] at Y3
                have Y4 := hide (fun w' hS' h' => JCheck_c ⟨s2, v2, ⟨k2, z2, u2, t2, d2⟩, ca2, cn2, cc2, ga2, gn2, gc2, G2⟩ w' hS' h')
                rw [hck2] at Y4
                have HCK2 := hide hck2
                have HW2 : Hid (NV.w ⟨s2, v2, ⟨k2, z2, u2, t2, d2⟩, ca2, cn2, cc2, ga2, gn2, gc2, G2⟩ = false) := hide hy2w
                clear P2 p2 hck2 HC2 HLN
                subst hy2w
                dsimp only [NV.v, AV.v] at Y3 Y4
                obtain ⟨q0, q1, q2, q3, q4, q5, q6, q7⟩ := l2.eight
                have t0' := l1.cell 0 _ rfl
                have r0 := la.cell 0 _ rfl
                have r1 := la.cell 1 _ rfl
                have r2 := la.cell 2 _ rfl
                go_wp2_with fail
                refine (Y3.out _ hSw ok2 oka).mono ?_
                rintro e v4' ⟨⟨⟨s3, v3, ⟨k3, z3, u3, t3, d3⟩, ca3, cn3, cc3, ga3, gn3, gc3, G3⟩, rfl, ok3, _, p3⟩, hb⟩
                have P3 := hide p3
                clear p3 Y3 q0 q1 q2 q3 q4 q5 q6 q7 r0 r1 r2 t0'
                dsimp only [NV.v]
                go_upto_region 20 with fail
                have l3 := Lay.made v4' [.int .i64 s3, .bool v3, .int .i64 k3, .int .i64 z3, .int .i64 u3, .int .i64 t3, .slice ca3 cn3 cc3, .slice ga3 gn3 gc3] 27
                have bn' := belowA (Below.refl _ v4') (.cells [.int .i64 s3, .bool v3, .int .i64 k3, .int .i64 z3, .int .i64 u3, .int .i64 t3, .slice ca3 cn3 cc3, .slice ga3 gn3 gc3].toArray 27)
                replace ok3 := ok3.below bn' (Nat.le_refl _)
                have bv := belowT hb bn'
                replace l0 := l0.below bv
                replace la := la.below bv
                replace l2 := l2.below bv
                replace ok2 := ok2.below bv (Nat.le_refl _)
                replace oka := AV.ok.below oka bv (Nat.le_refl _)
                replace hSw := hSw.below bv
                replace bw := belowT bw bv
                clear bn' bv hb
                generalize v4'.heap.size = B3 at *
                generalize v4'.alloc (.cells [.int .i64 s3, .bool v3, .int .i64 k3, .int .i64 z3, .int .i64 u3, .int .i64 t3, .slice ca3 cn3 cc3, .slice ga3 gn3 gc3].toArray 27) = w8 at *
                have YS := hide (fun w' h1 h2 => JSame_c ⟨s2, false, ⟨k2, z2, u2, t2, d2⟩, ca2, cn2, cc2, ga2, gn2, gc2, G2⟩ ⟨s3, v3, ⟨k3, z3, u3, t3, d3⟩, ca3, cn3, cc3, ga3, gn3, gc3, G3⟩ w' h1 h2)
                rw [(sameN_iff _ _).2 P3.out.symm] at YS
                dsimp only [NV.v] at YS
                have hwr : IntKind.i64.wrap ((gn1 : Int) + 1) = (gn1 : Int) + 1 := IntWalk.i64_in _ ⟨by omega, by omega⟩
                have hgc : ((gn2 : Int) != (gn1 : Int) + 1) = false := by have := HG2.out; simp; omega
                clear P3 hgl
                obtain ⟨q0, q1, q2, q3, q4, q5, q6, q7⟩ := l2.eight
                obtain ⟨e0, e1, e2, e3, e4, e5, e6, e7⟩ := l3.eight
                go_wp2_with fail
                refine (YS.out _ ok2 ok3).mono ?_
                rintro e w9 ⟨rfl, hb9⟩
                clear q0 q1 q2 q3 q4 q5 q6 q7 e0 e1 e2 e3 e4 e5 e6 e7 YS
                replace l0 := l0.below hb9
                replace la := la.below hb9
                replace l2 := l2.below hb9
                replace ok2 := ok2.below hb9 (Nat.le_refl _)
                replace oka := AV.ok.below oka hb9 (Nat.le_refl _)
                replace hSw := hSw.below hb9
                replace bw := belowT bw hb9
                clear hb9
                obtain ⟨q0, q1, q2, q3, q4, q5, q6, q7⟩ := l2.eight
                go_wp2_with fail
                refine (Y4.out _ hSw ok2).mono ?_
                rintro e w10 ⟨rfl, hb9⟩
                clear q0 q1 q2 q3 q4 q5 q6 q7 Y4
                replace l0 := l0.below hb9
                replace la := la.below hb9
                replace l2 := l2.below hb9
                replace ok2 := ok2.below hb9 (Nat.le_refl _)
                replace oka := AV.ok.below oka hb9 (Nat.le_refl _)
                replace bw := belowT bw hb9
                clear hb9
                obtain ⟨q0, q1, q2, q3, q4, q5, q6, q7⟩ := l2.eight
                obtain ⟨c0, c1, c2, c3, c4, c5, c6, c7⟩ := l0.eight
                have f0 := l0.ice 0
                have f1 := l0.ice 1
                have f2 := l0.ice 2
                have f3 := l0.ice 3
                have f4 := l0.ice 4
                have f5 := l0.ice 5
                have f6 := l0.ice 6
                have f7 := l0.ice 7
                go_wp2
                have zB := ((((((((l0.set 0 (.int .i64 s2)).set 1 (.bool false)).set 2 (.int .i64 k2)).set 3 (.int .i64 z2)).set 4 (.int .i64 u2)).set 5 (.int .i64 t2)).set 6 (.slice ca2 cn2 cc2)).set 7 (.slice ga2 gn2 gc2))
                have hbut := (((((((((ButI.refl (w.heap.size) w10).step 0 (.int .i64 s2)).step 1 (.bool false)).step 2 (.int .i64 k2)).step 3 (.int .i64 z2)).step 4 (.int .i64 u2)).step 5 (.int .i64 t2)).step 6 (.slice ca2 cn2 cc2)).step 7 (.slice ga2 gn2 gc2))
                generalize ((((((((w10.setCell ⟨w.heap.size, 0, none⟩ (.int .i64 s2)).setCell ⟨w.heap.size, 1, none⟩ (.bool false)).setCell ⟨w.heap.size, 2, none⟩ (.int .i64 k2)).setCell ⟨w.heap.size, 3, none⟩ (.int .i64 z2)).setCell ⟨w.heap.size, 4, none⟩ (.int .i64 u2)).setCell ⟨w.heap.size, 5, none⟩ (.int .i64 t2)).setCell ⟨w.heap.size, 6, none⟩ (.slice ca2 cn2 cc2)).setCell ⟨w.heap.size, 7, none⟩ (.slice ga2 gn2 gc2)) = w11 at *
                exact ⟨⟨_, rfl, j + 1, ⟨s2, false, ⟨k2, z2, u2, t2, d2⟩, ca2, cn2, cc2, ga2, gn2, gc2, G2⟩, by omega, by go_num, zB, ok2.but hbut.but new2', HCK2.out, rfl, la.butI hbut (by omega), AV.ok.but oka hbut.but hoA, bw.trans (hbut.below (B := w.heap.size) (Nat.le_refl _))⟩, by simp [intOf]; omega⟩
              · have hne := HE1.out (by simpa using he)
                clear P1 HE1 HE2
                have r0 := lc.cell 0 _ rfl
                have r1 := lc.cell 1 _ rfl
                have r2 := lc.cell 2 _ rfl
                have r3 := lc.cell 3 _ rfl
                have r4 := lc.cell 4 _ rfl
                go_wp2_with fail
                refine (YC.out _ hSw hcx).mono ?_
                rintro e w9 ⟨rfl, hb9⟩
                clear r0 r1 r2 r3 r4 YC
                replace l0 := l0.below hb9
                replace la := la.below hb9
                replace ok0 := ok0.below hb9 (Nat.le_refl _)
                replace oka := AV.ok.below oka hb9 (Nat.le_refl _)
                replace bw := belowT bw hb9
                clear hb9
                have q0 := l0.cell 0 _ rfl
                cases hc : cx == 0
                · go_wp2
                  exact ⟨⟨_, rfl, j + 1, ⟨s0, false, ⟨k0, z0, u0, t0, d0⟩, ca0, cn0, cc0, ga0, gn0, gc0, G0⟩, by omega, by go_num, l0, ok0, by rw [HHP.out]; exact HCK.out, rfl, la, oka, bw⟩, by simp [intOf]; omega⟩
                · have h40 : ¬ s0 < 40 := fun h => hne ⟨by simpa using hc, h⟩
                  clear hne
                  go_wp2
                  exact ⟨⟨_, rfl, j + 1, ⟨s0, false, ⟨k0, z0, u0, t0, d0⟩, ca0, cn0, cc0, ga0, gn0, gc0, G0⟩, by omega, by go_num, l0, ok0, by rw [HHP.out]; exact HCK.out, rfl, la, oka, bw⟩, by simp [intOf]; omega⟩
            · obtain rfl : j = 10 := by omega
              go_wp2
              go_ret
              exact ⟨rfl, bw⟩
        · have h10' : ¬ (10 : Int) < (ln : Int) := by omega
          have h12 : (ln : Int) ≤ (lc' : Int) := by omega
          have h13 : ¬ ((lc' : Int) < (ln : Int)) := by omega
          have h14 : ¬ ((ln : Int) < 0) := by omega
          go_wp2_with fail
          go_loopw [46] (fun i wr => ∃ wz : World, wz = wr ∧ ∃ (j : Nat) (hv : NV), j ≤ ln ∧ i = .int .i64 (j : Nat) ∧ Lay wz w.heap.size hv.cells ∧ hv.ok wz ∧ checkN hv.p = 0 ∧ hv.w = false ∧ Lay wz (w.heap.size + 1) [.int .i64 ae, .int .i64 at', .slice aa an ac] ∧ AV.ok wz ⟨ae, at', aa, an, ac, ad⟩ ∧ Below w.heap.size w wz) (fun i _ => ln - (intOf i).toNat)
          case atStart => exact ⟨_, rfl, 0, ⟨s0, v0, ⟨k0, z0, u0, t0, d0⟩, ca0, cn0, cc0, ga0, gn0, gc0, G0⟩, by omega, rfl, l0, ok0, HCK.out, HWF.out, la, oka, bw⟩
          case round =>
            clear l0 ok0 HCK HWF la oka bw
            obtain ⟨wr, rfl, j, hv, hj, rfl, l0, ok0, hck, hwf, la, oka, bw⟩ := hrel
            have hSw := hS.below bw
            by_cases hlt : j < ln
            · obtain ⟨b, off, x, rfl, hx, hxk, hblt, kx⟩ := hX.at (i := j) (by omega)
              have hB0 := l0.lt
              have hcx := BV.ok.below hxk bw (Nat.le_refl _)
              have hoA : AV.off w.heap.size ⟨ae, at', aa, an, ac, ad⟩ := hoA0
              have YA := hide (fun w' hS' h' b' => JAsk_c hv x.a x.n x.c x.p w' hS' h' b')
              have YC := hide (fun w' hS' b' => cmdCheck_c x.a x.n x.c x.p w' hS' b')
              have HE1 : Hid ((askN hv.p x.p).2 ≠ 0 → ¬ (checkC x.p = 0 ∧ hv.s < 40)) := hide (fun e q => e (by rw [(ask_ok hck hwf q.1 q.2).1]))
              have HE2 := hide (fun (e : (askN hv.p x.p).2 = 0) => ask_next e)
              have HG : Hid (hv.p.g.length = hv.gn) := hide (by show (hv.G.map AV.p).length = _; rw [List.length_map]; exact ok0.g.len)
              have HCK := hide hck
              have HWF := hide hwf
              clear hck hwf hx
              generalize askN hv.p x.p = na at *
              generalize checkC x.p = cx at *
              rw [show hv.v = .agg hv.cells.toArray from rfl] at YA
              obtain ⟨⟨xk, xz, xu, xt, xd⟩, xa, xn, xc⟩ := x
              have hhv : hv.p.g.length = hv.gn := HG.out
              generalize hhp : hv.p = hp at *
              have HHP := hide hhp
              clear hhp
              obtain ⟨s0, v0, ⟨k0, z0, u0, t0, d0⟩, ca0, cn0, cc0, ga0, gn0, gc0, G0⟩ := hv
              dsimp only [NV.cells, BV.cells, BV.ok, cmdV] at *
              obtain rfl : v0 = false := HWF.out
              have x0 := keepc bw (kx 0 _ rfl)
              have x1 := keepc bw (kx 1 _ rfl)
              have x2 := keepc bw (kx 2 _ rfl)
              have x3 := keepc bw (kx 3 _ rfl)
              have x4 := keepc bw (kx 4 _ rfl)
              rw [Nat.add_zero] at x0
              have hlt' : (j : Int) < ((ln : Nat) : Int) := by omega
              clear kx
              go_upto_region 11 with fail
              have lc := Lay.made wr [.int .i64 xk, .int .i64 xz, .int .i64 xu, .int .i64 xt, .slice xa xn xc] 24
              have bn' := belowA (Below.refl _ wr) (.cells [.int .i64 xk, .int .i64 xz, .int .i64 xu, .int .i64 xt, .slice xa xn xc].toArray 24)
              replace l0 := l0.below bn'
              replace la := la.below bn'
              replace ok0 := ok0.below bn' (Nat.le_refl _)
              replace oka := AV.ok.below oka bn' (Nat.le_refl _)
              replace hcx := Ints.below hcx bn' (Nat.le_refl _)
              replace hSw := hSw.below bn'
              replace bw := belowT bw bn'
              clear bn' x0 x1 x2 x3 x4
              generalize wr.heap.size = BC at *
              generalize wr.alloc (.cells [.int .i64 xk, .int .i64 xz, .int .i64 xu, .int .i64 xt, .slice xa xn xc].toArray 24) = w5 at *
              obtain ⟨q0, q1, q2, q3, q4, q5, q6, q7⟩ := l0.eight
              have r0 := lc.cell 0 _ rfl
              have r1 := lc.cell 1 _ rfl
              have r2 := lc.cell 2 _ rfl
              have r3 := lc.cell 3 _ rfl
              have r4 := lc.cell 4 _ rfl
              go_wp2_with fail
              refine (YA.out _ hSw ok0 hcx).mono ?_
              rintro e v2' ⟨⟨⟨s1, v1, ⟨k1, z1, u1, t1, d1⟩, ca1, cn1, cc1, ga1, gn1, gc1, G1⟩, rfl, ok1, _, p1⟩, hb⟩
              have P1 := hide p1
              clear p1 YA q0 q1 q2 q3 q4 q5 q6 q7 r0 r1 r2 r3 r4
              dsimp only [NV.v]
              go_upto_region 13 with fail
              have l1 := Lay.made v2' [.int .i64 s1, .bool v1, .int .i64 k1, .int .i64 z1, .int .i64 u1, .int .i64 t1, .slice ca1 cn1 cc1, .slice ga1 gn1 gc1] 27
              have bn' := belowA (Below.refl _ v2') (.cells [.int .i64 s1, .bool v1, .int .i64 k1, .int .i64 z1, .int .i64 u1, .int .i64 t1, .slice ca1 cn1 cc1, .slice ga1 gn1 gc1].toArray 27)
              replace ok1 := ok1.below bn' (Nat.le_refl _)
              have bv := belowT hb bn'
              replace l0 := l0.below bv
              replace la := la.below bv
              replace lc := lc.below bv
              replace ok0 := ok0.below bv (Nat.le_refl _)
              replace oka := AV.ok.below oka bv (Nat.le_refl _)
              replace hcx := Ints.below hcx bv (Nat.le_refl _)
              replace hSw := hSw.below bv
              replace bw := belowT bw bv
              clear bn' bv hb
              generalize v2'.heap.size = B1 at *
              generalize v2'.alloc (.cells [.int .i64 s1, .bool v1, .int .i64 k1, .int .i64 z1, .int .i64 u1, .int .i64 t1, .slice ca1 cn1 cc1, .slice ga1 gn1 gc1].toArray 27) = w6 at *
              cases he : na.2 != 0
              · have HX := hide (HE2.out (by simpa using he))
                obtain ⟨h1, h2, h3, h4, h5⟩ := HX.out
                have p1 := P1.out
                have hx1w : v1 = true := by have := congrArg PN.w p1; rw [h2] at this; exact this
                have hx1g : G1.map AV.p = hp.g := by have := congrArg PN.g p1; rw [h2] at this; exact this
                have hck1 : checkN (NV.p ⟨s1, v1, ⟨k1, z1, u1, t1, d1⟩, ca1, cn1, cc1, ga1, gn1, gc1, G1⟩) = 0 := by rw [p1, h2]; exact h3
                have hg1 : gn1 = gn0 := by have e1 := congrArg List.length hx1g; rw [List.length_map, hhv] at e1; have e2 : G1.length = gn1 := ok1.g.len; omega
                have he1 := hear_ok (h := NV.p ⟨s1, v1, ⟨k1, z1, u1, t1, d1⟩, ca1, cn1, cc1, ga1, gn1, gc1, G1⟩) (a := AV.p ⟨ae, at', aa, an, ac, ad⟩) hck1 hx1w HAOK.out
                have Y2 := hide (fun w' hS' h' y' => JHear_c ⟨s1, v1, ⟨k1, z1, u1, t1, d1⟩, ca1, cn1, cc1, ga1, gn1, gc1, G1⟩ s1 ⟨ae, at', aa, an, ac, ad⟩ w' hS' h' y')
                rw [show hearN (NV.p ⟨s1, v1, ⟨k1, z1, u1, t1, d1⟩, ca1, cn1, cc1, ga1, gn1, gc1, G1⟩) s1 (AV.p ⟨ae, at', aa, an, ac, ad⟩) = _ from he1.1] at Y2
                have HC2 := hide he1.2
                have hgl : gn0 ≤ 40 := by rw [← hhv]; exact h5
                clear P1 p1 h1 h2 h3 h4 h5 hx1g hck1 he1 HX HE1 HE2
                subst hx1w hg1
                dsimp only [NV.v, AV.v] at Y2
                have HLN : Hid (G1.length = gn1) := hide ok1.g.len
                obtain ⟨q0, q1, q2, q3, q4, q5, q6, q7⟩ := l1.eight
                have r0 := la.cell 0 _ rfl
                have r1 := la.cell 1 _ rfl
                have r2 := la.cell 2 _ rfl
                go_wp2_with fail
                refine (Y2.out _ hSw ok1 oka).mono ?_
                rintro e v3' ⟨⟨⟨s2, v2, ⟨k2, z2, u2, t2, d2⟩, ca2, cn2, cc2, ga2, gn2, gc2, G2⟩, rfl, ok2, new2, p2⟩, hb⟩
                have new2' := new2 w.heap.size (by have := l0.lt; omega)
                have P2 := hide p2
                clear p2 Y2 new2 q0 q1 q2 q3 q4 q5 q6 q7 r0 r1 r2
                dsimp only [NV.v]
                go_upto_region 17 with fail
                have l2 := Lay.made v3' [.int .i64 s2, .bool v2, .int .i64 k2, .int .i64 z2, .int .i64 u2, .int .i64 t2, .slice ca2 cn2 cc2, .slice ga2 gn2 gc2] 27
                have bn' := belowA (Below.refl _ v3') (.cells [.int .i64 s2, .bool v2, .int .i64 k2, .int .i64 z2, .int .i64 u2, .int .i64 t2, .slice ca2 cn2 cc2, .slice ga2 gn2 gc2].toArray 27)
                replace ok2 := ok2.below bn' (Nat.le_refl _)
                have bv := belowT hb bn'
                replace l0 := l0.below bv
                replace la := la.below bv
                replace l1 := l1.below bv
                replace oka := AV.ok.below oka bv (Nat.le_refl _)
                replace hSw := hSw.below bv
                replace bw := belowT bw bv
                clear bn' bv hb
                generalize v3'.heap.size = B2 at *
                generalize v3'.alloc (.cells [.int .i64 s2, .bool v2, .int .i64 k2, .int .i64 z2, .int .i64 u2, .int .i64 t2, .slice ca2 cn2 cc2, .slice ga2 gn2 gc2].toArray 27) = w7 at *
                have p2 := P2.out
                have hy2w : v2 = false := congrArg PN.w p2
                have hck2 : checkN (NV.p ⟨s2, v2, ⟨k2, z2, u2, t2, d2⟩, ca2, cn2, cc2, ga2, gn2, gc2, G2⟩) = 0 := by rw [p2]; exact HC2.out
                have hg2 : gn2 = gn1 + 1 := by
                  have e1 := congrArg List.length (congrArg PN.g p2)
                  have e2 : G2.length = gn2 := ok2.g.len
                  simp only [NV.p, List.length_map, List.length_append, List.length_singleton, HLN.out] at e1
                  omega
                have HG2 := hide hg2
                clear hg2
                have Y3 := hide (fun w' hS' h' y' => JHear_c ⟨s2, v2, ⟨k2, z2, u2, t2, d2⟩, ca2, cn2, cc2, ga2, gn2, gc2, G2⟩ s1 ⟨ae, at', aa, an, ac, ad⟩ w' hS' h' y')
                rw [show hearN (NV.p ⟨s2, v2, ⟨k2, z2, u2, t2, d2⟩, ca2, cn2, cc2, ga2, gn2, gc2, G2⟩) s1 (AV.p ⟨ae, at', aa, an, ac, ad⟩) = (NV.p ⟨s2, v2, ⟨k2, z2, u2, t2, d2⟩, ca2, cn2, cc2, ga2, gn2, gc2, G2⟩, 0) from hear_deaf hck2 HAOK.out (.inl hy2w)] at Y3
                have Y4 := hide (fun w' hS' h' => JCheck_c ⟨s2, v2, ⟨k2, z2, u2, t2, d2⟩, ca2, cn2, cc2, ga2, gn2, gc2, G2⟩ w' hS' h')
                rw [hck2] at Y4
                have HCK2 := hide hck2
                have HW2 : Hid (NV.w ⟨s2, v2, ⟨k2, z2, u2, t2, d2⟩, ca2, cn2, cc2, ga2, gn2, gc2, G2⟩ = false) := hide hy2w
                clear P2 p2 hck2 HC2 HLN
                subst hy2w
                dsimp only [NV.v, AV.v] at Y3 Y4
                obtain ⟨q0, q1, q2, q3, q4, q5, q6, q7⟩ := l2.eight
                have t0' := l1.cell 0 _ rfl
                have r0 := la.cell 0 _ rfl
                have r1 := la.cell 1 _ rfl
                have r2 := la.cell 2 _ rfl
                go_wp2_with fail
                refine (Y3.out _ hSw ok2 oka).mono ?_
                rintro e v4' ⟨⟨⟨s3, v3, ⟨k3, z3, u3, t3, d3⟩, ca3, cn3, cc3, ga3, gn3, gc3, G3⟩, rfl, ok3, _, p3⟩, hb⟩
                have P3 := hide p3
                clear p3 Y3 q0 q1 q2 q3 q4 q5 q6 q7 r0 r1 r2 t0'
                dsimp only [NV.v]
                go_upto_region 20 with fail
                have l3 := Lay.made v4' [.int .i64 s3, .bool v3, .int .i64 k3, .int .i64 z3, .int .i64 u3, .int .i64 t3, .slice ca3 cn3 cc3, .slice ga3 gn3 gc3] 27
                have bn' := belowA (Below.refl _ v4') (.cells [.int .i64 s3, .bool v3, .int .i64 k3, .int .i64 z3, .int .i64 u3, .int .i64 t3, .slice ca3 cn3 cc3, .slice ga3 gn3 gc3].toArray 27)
                replace ok3 := ok3.below bn' (Nat.le_refl _)
                have bv := belowT hb bn'
                replace l0 := l0.below bv
                replace la := la.below bv
                replace l2 := l2.below bv
                replace ok2 := ok2.below bv (Nat.le_refl _)
                replace oka := AV.ok.below oka bv (Nat.le_refl _)
                replace hSw := hSw.below bv
                replace bw := belowT bw bv
                clear bn' bv hb
                generalize v4'.heap.size = B3 at *
                generalize v4'.alloc (.cells [.int .i64 s3, .bool v3, .int .i64 k3, .int .i64 z3, .int .i64 u3, .int .i64 t3, .slice ca3 cn3 cc3, .slice ga3 gn3 gc3].toArray 27) = w8 at *
                have YS := hide (fun w' h1 h2 => JSame_c ⟨s2, false, ⟨k2, z2, u2, t2, d2⟩, ca2, cn2, cc2, ga2, gn2, gc2, G2⟩ ⟨s3, v3, ⟨k3, z3, u3, t3, d3⟩, ca3, cn3, cc3, ga3, gn3, gc3, G3⟩ w' h1 h2)
                rw [(sameN_iff _ _).2 P3.out.symm] at YS
                dsimp only [NV.v] at YS
                have hwr : IntKind.i64.wrap ((gn1 : Int) + 1) = (gn1 : Int) + 1 := IntWalk.i64_in _ ⟨by omega, by omega⟩
                have hgc : ((gn2 : Int) != (gn1 : Int) + 1) = false := by have := HG2.out; simp; omega
                clear P3 hgl
                obtain ⟨q0, q1, q2, q3, q4, q5, q6, q7⟩ := l2.eight
                obtain ⟨e0, e1, e2, e3, e4, e5, e6, e7⟩ := l3.eight
                go_wp2_with fail
                refine (YS.out _ ok2 ok3).mono ?_
                rintro e w9 ⟨rfl, hb9⟩
                clear q0 q1 q2 q3 q4 q5 q6 q7 e0 e1 e2 e3 e4 e5 e6 e7 YS
                replace l0 := l0.below hb9
                replace la := la.below hb9
                replace l2 := l2.below hb9
                replace ok2 := ok2.below hb9 (Nat.le_refl _)
                replace oka := AV.ok.below oka hb9 (Nat.le_refl _)
                replace hSw := hSw.below hb9
                replace bw := belowT bw hb9
                clear hb9
                obtain ⟨q0, q1, q2, q3, q4, q5, q6, q7⟩ := l2.eight
                go_wp2_with fail
                refine (Y4.out _ hSw ok2).mono ?_
                rintro e w10 ⟨rfl, hb9⟩
                clear q0 q1 q2 q3 q4 q5 q6 q7 Y4
                replace l0 := l0.below hb9
                replace la := la.below hb9
                replace l2 := l2.below hb9
                replace ok2 := ok2.below hb9 (Nat.le_refl _)
                replace oka := AV.ok.below oka hb9 (Nat.le_refl _)
                replace bw := belowT bw hb9
                clear hb9
                obtain ⟨q0, q1, q2, q3, q4, q5, q6, q7⟩ := l2.eight
                obtain ⟨c0, c1, c2, c3, c4, c5, c6, c7⟩ := l0.eight
                have f0 := l0.ice 0
                have f1 := l0.ice 1
                have f2 := l0.ice 2
                have f3 := l0.ice 3
                have f4 := l0.ice 4
                have f5 := l0.ice 5
                have f6 := l0.ice 6
                have f7 := l0.ice 7
                go_wp2
                have zB := ((((((((l0.set 0 (.int .i64 s2)).set 1 (.bool false)).set 2 (.int .i64 k2)).set 3 (.int .i64 z2)).set 4 (.int .i64 u2)).set 5 (.int .i64 t2)).set 6 (.slice ca2 cn2 cc2)).set 7 (.slice ga2 gn2 gc2))
                have hbut := (((((((((ButI.refl (w.heap.size) w10).step 0 (.int .i64 s2)).step 1 (.bool false)).step 2 (.int .i64 k2)).step 3 (.int .i64 z2)).step 4 (.int .i64 u2)).step 5 (.int .i64 t2)).step 6 (.slice ca2 cn2 cc2)).step 7 (.slice ga2 gn2 gc2))
                generalize ((((((((w10.setCell ⟨w.heap.size, 0, none⟩ (.int .i64 s2)).setCell ⟨w.heap.size, 1, none⟩ (.bool false)).setCell ⟨w.heap.size, 2, none⟩ (.int .i64 k2)).setCell ⟨w.heap.size, 3, none⟩ (.int .i64 z2)).setCell ⟨w.heap.size, 4, none⟩ (.int .i64 u2)).setCell ⟨w.heap.size, 5, none⟩ (.int .i64 t2)).setCell ⟨w.heap.size, 6, none⟩ (.slice ca2 cn2 cc2)).setCell ⟨w.heap.size, 7, none⟩ (.slice ga2 gn2 gc2)) = w11 at *
                exact ⟨⟨_, rfl, j + 1, ⟨s2, false, ⟨k2, z2, u2, t2, d2⟩, ca2, cn2, cc2, ga2, gn2, gc2, G2⟩, by omega, by go_num, zB, ok2.but hbut.but new2', HCK2.out, rfl, la.butI hbut (by omega), AV.ok.but oka hbut.but hoA, bw.trans (hbut.below (B := w.heap.size) (Nat.le_refl _))⟩, by simp [intOf]; omega⟩
              · have hne := HE1.out (by simpa using he)
                clear P1 HE1 HE2
                have r0 := lc.cell 0 _ rfl
                have r1 := lc.cell 1 _ rfl
                have r2 := lc.cell 2 _ rfl
                have r3 := lc.cell 3 _ rfl
                have r4 := lc.cell 4 _ rfl
                go_wp2_with fail
                refine (YC.out _ hSw hcx).mono ?_
                rintro e w9 ⟨rfl, hb9⟩
                clear r0 r1 r2 r3 r4 YC
                replace l0 := l0.below hb9
                replace la := la.below hb9
                replace ok0 := ok0.below hb9 (Nat.le_refl _)
                replace oka := AV.ok.below oka hb9 (Nat.le_refl _)
                replace bw := belowT bw hb9
                clear hb9
                have q0 := l0.cell 0 _ rfl
                cases hc : cx == 0
                · go_wp2
                  exact ⟨⟨_, rfl, j + 1, ⟨s0, false, ⟨k0, z0, u0, t0, d0⟩, ca0, cn0, cc0, ga0, gn0, gc0, G0⟩, by omega, by go_num, l0, ok0, by rw [HHP.out]; exact HCK.out, rfl, la, oka, bw⟩, by simp [intOf]; omega⟩
                · have h40 : ¬ s0 < 40 := fun h => hne ⟨by simpa using hc, h⟩
                  clear hne
                  go_wp2
                  exact ⟨⟨_, rfl, j + 1, ⟨s0, false, ⟨k0, z0, u0, t0, d0⟩, ca0, cn0, cc0, ga0, gn0, gc0, G0⟩, by omega, by go_num, l0, ok0, by rw [HHP.out]; exact HCK.out, rfl, la, oka, bw⟩, by simp [intOf]; omega⟩
            · obtain rfl : j = ln := by omega
              go_wp2
              go_ret
              exact ⟨rfl, bw⟩
    · go_wp2_with fail
      refine (fin _ hSw bw).mono ?_
      rintro e w5 ⟨rfl, hb5⟩
      go_wp2
      go_ret
      exact ⟨rfl, hb5⟩
  · go_wp2_with fail
    refine (fin _ hSw bw).mono ?_
    rintro e w5 ⟨rfl, hb5⟩
    go_wp2
    go_ret
    exact ⟨rfl, hb5⟩

end Go.Proofs.YtklabieacbbbfaaDoor
