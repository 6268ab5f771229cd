/- DeskMay answers true, where the call itself is right; no condition but that the package's table is as its text lays it. -/
import Derived.Test.YtkamnbigfdbgbaaDoorDeskMayG20
namespace Go.Proofs.YtkamnbigfdbgbaaDoor
open Go.RowKit
set_option linter.unusedVariables false
set_option maxRecDepth 100000
set_option linter.unusedSimpArgs false

/-- A write that was done was one that who did it might do. -/
theorem wrote_may {d : PD} {j : Nat} {c : PC} (hk : c.k = 5 ∨ c.k = 6) (he : (doneD d j c).2.e = 0) : mightB d.b j true = true := by
  unfold doneD at he
  rw [if_neg (by omega), show (c.k != 7) = true by simp; omega] at he
  cases hm : mightB d.b j true
  · rw [hm] at he
    simp [errA] at he
  · rfl

set_option maxHeartbeats 16000000 in
theorem DeskMay_good (d : DV) (who : Int) (i j : Nat) (ca : Option Addr) (cn cc : Nat) (x : PC) (rd : Int) (w : World) (hS : Shapes w) (h : d.ok w) (hx : Ints w ca cn cc x.d) (hw : -9223372036854775808 ≤ who ∧ who ≤ 9223372036854775807) (hr : -9223372036854775808 ≤ rd ∧ rd ≤ 9223372036854775807)
    (hi : who % 3 = i) (hi3 : i < 3) (hj : rd % 3 = j) (hj3 : j < 3) (hok : doE d.p i x = 0) :
    Calls Tryd.prog 3 #[d.v, .int .i64 who, cmdV ca cn cc x, .int .i64 rd] w fun e w' => e = .returned (.bool true) ∧ Below w.heap.size w w' := by
  obtain ⟨hcd, _, hcc⟩ := doE_ok hok
  have hR := done_right hcd hi3 hcc
  have hWB := fun hk he => wrote_back (r := j) hcd hi3 hj3 hcc hk he
  have hWM := fun hk he => wrote_may (d := d.p) (j := i) (c := x) hk he
  have H1 := hide (fun w' hS' (h' : d.ok w') hx' => Do_c d i ca cn cc x w' hS' h' hx')
  have hdD := doD_done hok
  generalize hX : (doneD d.p i x).1 = X at *
  generalize hA : (doneD d.p i x).2 = A at *
  have HD := hide (show doD d.p i x = (X, A, 0) from hdD)
  clear hdD hX hA
  have A1 := hide (fun w' => at_c who 3 w' (by omega) (by omega) hw)
  have A2 := hide (fun w' => at_c rd 3 w' (by omega) (by omega) hr)
  rw [hi] at A1
  rw [hj] at A2
  obtain ⟨hcz, hcb⟩ := checkD_ok hcd
  have HM1 := hide (may_ok hcb hi3 true)
  have hlenx := hx.len
  have hmaxx := hx.max
  have hlex := hx.le
  obtain ⟨za, zn, zc, Z, ka, kn, kc, bk, bh, bt⟩ := d
  obtain ⟨xk, xz, xn, xt, xd⟩ := x
  obtain ⟨P', b'⟩ := X
  obtain ⟨ae, at1, al⟩ := A
  obtain ⟨qk, qh, qt⟩ := b'
  obtain ⟨hcx, hca, herr, hmay⟩ := hR
  obtain ⟨hcz', hcb'⟩ := checkD_ok hcx
  have HM2 := hide (may_ok hcb' hj3 false)
  dsimp only [DV.v, DV.p, cmdV] at *
  have HCX := hide hcx
  have HCA := hide hca
  have HER := hide herr
  have HMY := hide hmay
  have HWB := hide hWB
  have HWM := hide hWM
  clear hw hr hi hj hok hcd hcc hcz hcb hcx hca herr hmay hcz' hcb' hWB hWM
  have hSrv := hide (fun w' hS' => served_c w' hS')
  have x0 := (Lay.made w [.slice za zn zc, .slice ka kn kc, .int .i64 bh, .int .i64 bt] 27).below (belowA (Below.refl _ _) (.cells #[.int .i64 xk, .int .i64 xz, .int .i64 xn, .int .i64 xt, .slice ca cn cc] 29))
  have x1 := Lay.made1 w (.cells #[.slice za zn zc, .slice ka kn kc, .int .i64 bh, .int .i64 bt] 27) [.int .i64 xk, .int .i64 xz, .int .i64 xn, .int .i64 xt, .slice ca cn cc] 29
  have bw : Below w.heap.size w ((w.alloc (.cells #[.slice za zn zc, .slice ka kn kc, .int .i64 bh, .int .i64 bt] 27)).alloc (.cells #[.int .i64 xk, .int .i64 xz, .int .i64 xn, .int .i64 xt, .slice ca cn cc] 29)) := by (repeat first | exact bel0 | assumption | refine bel1 ?_ | refine bel2 ?_ | refine bel3 ?_ | refine belowT ?_ (by assumption) | refine bel5 ?_ (by simp; try omega))
  go_enter Tryd.func3, Tryd.ntmps3
  go_wp2_with fail
  refine (A1.out _).mono ?_
  rintro e w1 ⟨rfl, rfl⟩
  go_wp2_with fail
  refine (A2.out _).mono ?_
  rintro e w1 ⟨rfl, rfl⟩
  go_upto_region 2 with fail
  have ok0 := h.below bw (Nat.le_refl _)
  replace hx := hx.below bw (Nat.le_refl _)
  have S2 := hS.below bw
  generalize (w.alloc (.cells #[.slice za zn zc, .slice ka kn kc, .int .i64 bh, .int .i64 bt] 27)).alloc (.cells #[.int .i64 xk, .int .i64 xz, .int .i64 xn, .int .i64 xt, .slice ca cn cc] 29) = w1 at *
  clear A1 A2 hS h
  have b0 := x0.cell 0 _ rfl
  have b1 := x0.cell 1 _ rfl
  have b2 := x0.cell 2 _ rfl
  have b3 := x0.cell 3 _ rfl
  have q0 := x1.cell 0 _ rfl
  have q1 := x1.cell 1 _ rfl
  have q2 := x1.cell 2 _ rfl
  have q3 := x1.cell 3 _ rfl
  have q4 := x1.cell 4 _ rfl
  go_wp2_with fail
  refine (H1.out _ S2 ok0 hx).mono ?_
  rw [HD.out]
  rintro e v3 ⟨⟨⟨a3, n3, c3, Z3, k3, m3, l3, gk, gh, gt⟩, ⟨be, bat, ea3, en3, ec3, bl⟩, rfl, ok3, ak3, _, _, dp, ap⟩, hb⟩
  simp only [DV.p, AV.p, PD.mk.injEq, PB.mk.injEq, PA.mk.injEq] at dp ap
  obtain ⟨dp, rfl, rfl, rfl⟩ := dp
  obtain ⟨rfl, rfl, rfl⟩ := ap
  have DPH := hide dp
  clear dp H1 HD
  unfold DV.v AV.v
  dsimp only
  replace bw := belowT bw hb
  go_upto_region 3 with fail
  obtain ⟨z3, y3, bn⟩ := two_boxes v3 [.slice a3 n3 c3, .slice k3 m3 l3, .int .i64 gh, .int .i64 gt] [.int .i64 be, .int .i64 bat, .slice ea3 en3 ec3] 27 33
  have bvn := belowT hb bn
  replace ok0 := ok0.below bvn (Nat.le_refl _)
  replace hx := hx.below bvn (Nat.le_refl _)
  replace x0 := x0.below bvn
  replace x1 := x1.below bvn
  replace S2 := S2.below bvn
  replace ok3 := ok3.below bn (Nat.le_refl _)
  replace ak3 := AV.ok.below ak3 bn (Nat.le_refl _)
  replace bw := belowT bw bn
  clear bvn bn hb b0 b1 b2 b3 q0 q1 q2 q3 q4
  generalize v3.heap.size = B3 at *
  generalize (v3.alloc (.cells [.slice a3 n3 c3, .slice k3 m3 l3, .int .i64 gh, .int .i64 gt].toArray 27)).alloc (.cells [.int .i64 be, .int .i64 bat, .slice ea3 en3 ec3].toArray 33) = w3 at *
  go_wp2_with fail
  refine (hSrv.out _ S2).mono ?_
  rintro e w4 ⟨rfl, hb4⟩
  replace ok0 := ok0.below hb4 (Nat.le_refl _)
  replace ok3 := ok3.below hb4 (Nat.le_refl _)
  replace ak3 := AV.ok.below ak3 hb4 (Nat.le_refl _)
  replace hx := hx.below hb4 (Nat.le_refl _)
  replace x0 := x0.below hb4
  replace x1 := x1.below hb4
  replace z3 := z3.below hb4
  replace y3 := y3.below hb4
  replace S2 := S2.below hb4
  replace bw := belowT bw hb4
  clear hb4
  have C1 := fun w' h' => DCheck_c ⟨a3, n3, c3, Z3, k3, m3, l3, gk, gh, gt⟩ w' h'
  rw [show (⟨a3, n3, c3, Z3, k3, m3, l3, gk, gh, gt⟩ : DV).p = ⟨P', gk, gh, gt⟩ by simp [DV.p, DPH.out], HCX.out] at C1
  have C2 := fun w' h' => DCheckAnswer_c ⟨be, bat, ea3, en3, ec3, bl⟩ w' h'
  rw [show checkA (AV.p ⟨be, bat, ea3, en3, ec3, bl⟩) = 0 from HCA.out] at C2
  have C3 := fun w' h1 h2 => DSame_c ⟨a3, n3, c3, Z3, k3, m3, l3, gk, gh, gt⟩ ⟨za, zn, zc, Z, ka, kn, kc, bk, bh, bt⟩ w' h1 h2
  rw [show (⟨a3, n3, c3, Z3, k3, m3, l3, gk, gh, gt⟩ : DV).p = ⟨P', gk, gh, gt⟩ by simp [DV.p, DPH.out]] at C3
  have C4 := fun w' h' => BMay_c ka kn kc ⟨bk, bh, bt⟩ i true w' h'
  rw [HM1.out] at C4
  have C5 := fun w' h' => BMay_c k3 m3 l3 ⟨gk, gh, gt⟩ j false w' h'
  rw [HM2.out] at C5
  have C6 := fun w' h1 h2 => YSame_c a3 za n3 zn c3 zc Z3 Z w' h1 h2
  dsimp only [DV.v, AV.v, bookV] at C1 C2 C3 C4 C5 C6
  have D1 := hide C1
  have D2 := hide C2
  have D3 := hide C3
  have D4 := hide C4
  have D5 := hide C5
  have D6 := hide C6
  clear C1 C2 C3 C4 C5 C6
  have b0 := z3.cell 0 _ rfl
  have b1 := z3.cell 1 _ rfl
  have b2 := z3.cell 2 _ rfl
  have b3 := z3.cell 3 _ rfl
  go_wp2_with fail
  refine (D1.out _ ok3).mono ?_
  rintro e w5 ⟨rfl, hb5⟩
  replace ok0 := ok0.below hb5 (Nat.le_refl _)
  replace ok3 := ok3.below hb5 (Nat.le_refl _)
  replace ak3 := AV.ok.below ak3 hb5 (Nat.le_refl _)
  replace hx := hx.below hb5 (Nat.le_refl _)
  replace x0 := x0.below hb5
  replace x1 := x1.below hb5
  replace z3 := z3.below hb5
  replace y3 := y3.below hb5
  replace S2 := S2.below hb5
  replace bw := belowT bw hb5
  clear hb5
  clear b0 b1 b2 b3
  have b0 := y3.cell 0 _ rfl
  have b1 := y3.cell 1 _ rfl
  have b2 := y3.cell 2 _ rfl
  go_wp2_with fail
  refine (D2.out _ ak3).mono ?_
  rintro e w6 ⟨rfl, hb6⟩
  replace ok0 := ok0.below hb6 (Nat.le_refl _)
  replace ok3 := ok3.below hb6 (Nat.le_refl _)
  replace ak3 := AV.ok.below ak3 hb6 (Nat.le_refl _)
  replace hx := hx.below hb6 (Nat.le_refl _)
  replace x0 := x0.below hb6
  replace x1 := x1.below hb6
  replace z3 := z3.below hb6
  replace y3 := y3.below hb6
  replace S2 := S2.below hb6
  replace bw := belowT bw hb6
  clear hb6
  clear b0 b1 b2
  have a0 := y3.cell 0 _ rfl
  have a1 := y3.cell 1 _ rfl
  have a2 := y3.cell 2 _ rfl
  have b0 := z3.cell 0 _ rfl
  have b1 := z3.cell 1 _ rfl
  have b2 := z3.cell 2 _ rfl
  have b3 := z3.cell 3 _ rfl
  have q0 := x0.cell 0 _ rfl
  have q1 := x0.cell 1 _ rfl
  have q2 := x0.cell 2 _ rfl
  have q3 := x0.cell 3 _ rfl
  by_cases he : be = 0
  · subst he
    go_wp2_with fail
    refine (D4.out _ ok0.k).mono ?_
    rintro e w7 ⟨rfl, hb7⟩
    replace ok0 := ok0.below hb7 (Nat.le_refl _)
    replace ok3 := ok3.below hb7 (Nat.le_refl _)
    replace ak3 := AV.ok.below ak3 hb7 (Nat.le_refl _)
    replace hx := hx.below hb7 (Nat.le_refl _)
    replace x0 := x0.below hb7
    replace x1 := x1.below hb7
    replace z3 := z3.below hb7
    replace y3 := y3.below hb7
    replace S2 := S2.below hb7
    replace bw := belowT bw hb7
    clear hb7
    clear a0 a1 a2 b0 b1 b2 b3 q0 q1 q2 q3
    have a0 := y3.cell 0 _ rfl
    have a1 := y3.cell 1 _ rfl
    have a2 := y3.cell 2 _ rfl
    have b0 := z3.cell 0 _ rfl
    have b1 := z3.cell 1 _ rfl
    have b2 := z3.cell 2 _ rfl
    have b3 := z3.cell 3 _ rfl
    have q0 := x0.cell 0 _ rfl
    have q1 := x0.cell 1 _ rfl
    have q2 := x0.cell 2 _ rfl
    have q3 := x0.cell 3 _ rfl
    have s0 := x1.cell 0 _ rfl
    have s1 := x1.cell 1 _ rfl
    have s2 := x1.cell 2 _ rfl
    have s3 := x1.cell 3 _ rfl
    have s4 := x1.cell 4 _ rfl
    cases hm : mightB ⟨bk, bh, bt⟩ i true
    · have hk5 : (xk != 5) = true := by
        simp
        intro e
        have := HWM.out (.inl e) (by simp)
        rw [hm] at this
        cases this
      have hk6 : (xk != 6) = true := by
        simp
        intro e
        have := HWM.out (.inr e) (by simp)
        rw [hm] at this
        cases this
      have hp := HMY.out hm
      have HPP := hide (show decide (Z3.map ZV.p = Z.map ZV.p) = true from decide_eq_true (by rw [DPH.out, hp]))
      clear hp hm
      go_wp2_with fail
      refine (D6.out _ ok3.z ok0.z).mono ?_
      rintro e w8 ⟨rfl, hb8⟩
      rw [HPP.out]
      replace ok0 := ok0.below hb8 (Nat.le_refl _)
      replace ok3 := ok3.below hb8 (Nat.le_refl _)
      replace ak3 := AV.ok.below ak3 hb8 (Nat.le_refl _)
      replace hx := hx.below hb8 (Nat.le_refl _)
      replace x0 := x0.below hb8
      replace x1 := x1.below hb8
      replace z3 := z3.below hb8
      replace y3 := y3.below hb8
      replace S2 := S2.below hb8
      replace bw := belowT bw hb8
      clear hb8
      clear a0 a1 a2 b0 b1 b2 b3 q0 q1 q2 q3 s0 s1 s2 s3 s4
      have a0 := y3.cell 0 _ rfl
      have s0 := x1.cell 0 _ rfl
      go_wp2
      go_ret
      exact ⟨rfl, bw⟩
    · clear hm
      by_cases hk : xk = 5 ∨ xk = 6
      · obtain ⟨hE, hDn⟩ := HWB.out hk (by simp)
        have hcs : (xk != 5) = false ∨ (xk != 5) = true ∧ (xk != 6) = false := by simp; omega
        have G2 := fun w' hS' hz hk hx => Do_k a3 n3 c3 Z3 k3 m3 l3 gk gh gt j none 0 0 7 xz cn bat [] w' hS' hz hk hx (⟨P', gk, gh, gt⟩, (if mightB ⟨gk, gh, gt⟩ j false = true then ⟨0, 0, xd⟩ else ⟨8, 0, []⟩), 0) (by
          rw [DPH.out]
          simp only [backC] at hE hDn
          rw [hlenx] at hE hDn
          rw [doD_done hE, hDn]
          rfl)
        have HG2 := hide G2
        clear hk hE hDn G2
        have K := hide (show mightB ⟨gk, gh, gt⟩ j false = true ∨ mightB ⟨gk, gh, gt⟩ j false = false by cases mightB ⟨gk, gh, gt⟩ j false <;> simp)
        rcases hcs with u1 | ⟨u1, u2⟩
        all_goals
          rcases K.out with hcan | hcan
          · have hG := HG2.out
            rw [if_pos hcan] at hG
            have HG := hide hG
            clear hG
            rw [hcan] at D5
            go_wp2_with fail
            refine (HG.out _ S2 ok3.z ok3.k (Ints.nilSlice _)).mono ?_
            rintro e v8 ⟨⟨a8, n8, c8, Z8, k8, m8, l8, ea8, en8, ec8, rfl, hz8, p8, hk8, hd8, _, _⟩, hb⟩
            dsimp only at *
            have P8 := hide p8
            clear p8
            go_upto_region 13 with fail
            obtain ⟨z8, y8, bn⟩ := two_boxes v8 [.slice a8 n8 c8, .slice k8 m8 l8, .int .i64 gh, .int .i64 gt] [.int .i64 0, .int .i64 0, .slice ea8 en8 ec8] 27 33
            have bvn := belowT hb bn
            replace ok0 := ok0.below bvn (Nat.le_refl _)
            replace ok3 := ok3.below bvn (Nat.le_refl _)
            replace ak3 := AV.ok.below ak3 bvn (Nat.le_refl _)
            replace hx := hx.below bvn (Nat.le_refl _)
            replace x0 := x0.below bvn
            replace x1 := x1.below bvn
            replace z3 := z3.below bvn
            replace y3 := y3.below bvn
            replace S2 := S2.below bvn
            replace bw := belowT bw bvn
            clear bvn
            have ok8 : DV.ok _ ⟨a8, n8, c8, Z8, k8, m8, l8, gk, gh, gt⟩ := DV.ok.below ⟨hz8, hk8⟩ bn (Nat.le_refl _)
            replace hd8 := hd8.below bn (Nat.le_refl _)
            clear bn hb a0 a1 a2 b0 b1 b2 b3 q0 q1 q2 q3 s0 s1 s2 s3 s4 hz8 hk8
            generalize v8.heap.size = B8 at *
            generalize (v8.alloc (.cells [.slice a8 n8 c8, .slice k8 m8 l8, .int .i64 gh, .int .i64 gt].toArray 27)).alloc (.cells [.int .i64 0, .int .i64 0, .slice ea8 en8 ec8].toArray 33) = w8 at *
            have b0 := z3.cell 0 _ rfl
            have b1 := z3.cell 1 _ rfl
            have b2 := z3.cell 2 _ rfl
            have b3 := z3.cell 3 _ rfl
            go_wp2_with fail
            refine (D5.out _ ok3.k).mono ?_
            rintro e w9 ⟨rfl, hb9⟩
            replace ok8 := ok8.below hb9 (Nat.le_refl _)
            replace hd8 := hd8.below hb9 (Nat.le_refl _)
            replace z8 := z8.below hb9
            replace y8 := y8.below hb9
            replace ok0 := ok0.below hb9 (Nat.le_refl _)
            replace ok3 := ok3.below hb9 (Nat.le_refl _)
            replace ak3 := AV.ok.below ak3 hb9 (Nat.le_refl _)
            replace hx := hx.below hb9 (Nat.le_refl _)
            replace x0 := x0.below hb9
            replace x1 := x1.below hb9
            replace z3 := z3.below hb9
            replace y3 := y3.below hb9
            replace S2 := S2.below hb9
            replace bw := belowT bw hb9
            clear hb9
            clear b0 b1 b2 b3
            have b0 := z3.cell 0 _ rfl
            have b1 := z3.cell 1 _ rfl
            have b2 := z3.cell 2 _ rfl
            have b3 := z3.cell 3 _ rfl
            have q0 := z8.cell 0 _ rfl
            have q1 := z8.cell 1 _ rfl
            have q2 := z8.cell 2 _ rfl
            have q3 := z8.cell 3 _ rfl
            have D7 := hide (fun w' h1 h2 => DSame_c ⟨a3, n3, c3, Z3, k3, m3, l3, gk, gh, gt⟩ ⟨a8, n8, c8, Z8, k8, m8, l8, gk, gh, gt⟩ w' h1 h2)
            have HS7 := hide (show sameD (DV.p ⟨a3, n3, c3, Z3, k3, m3, l3, gk, gh, gt⟩) (DV.p ⟨a8, n8, c8, Z8, k8, m8, l8, gk, gh, gt⟩) = true from (sameD_iff _ _).2 (by simp [DV.p, DPH.out, P8.out]))
            dsimp only [DV.v] at D7
            go_wp2_with fail
            refine (D7.out _ ok3 ok8).mono ?_
            rintro e w10 ⟨rfl, hb10⟩
            rw [HS7.out]
            replace hd8 := hd8.below hb10 (Nat.le_refl _)
            replace y8 := y8.below hb10
            replace ok0 := ok0.below hb10 (Nat.le_refl _)
            replace ok3 := ok3.below hb10 (Nat.le_refl _)
            replace ak3 := AV.ok.below ak3 hb10 (Nat.le_refl _)
            replace hx := hx.below hb10 (Nat.le_refl _)
            replace x0 := x0.below hb10
            replace x1 := x1.below hb10
            replace z3 := z3.below hb10
            replace y3 := y3.below hb10
            replace S2 := S2.below hb10
            replace bw := belowT bw hb10
            clear hb10
            clear b0 b1 b2 b3 q0 q1 q2 q3
            have b0 := y8.cell 0 _ rfl
            have b1 := y8.cell 1 _ rfl
            have b2 := y8.cell 2 _ rfl
            have s4 := x1.cell 4 _ rfl
            go_wp2_with fail
            refine (Equal_c ea8 ca en8 cn ec8 cc xd xd _ hd8 hx).mono ?_
            rintro e w11 ⟨rfl, q, rfl⟩
            rw [show decide (xd = xd) = true by simp]
            go_wp2
            go_ret
            exact ⟨rfl, by (repeat first | exact bel0 | assumption | refine bel1 ?_ | refine bel2 ?_ | refine bel3 ?_ | refine belowT ?_ (by assumption) | refine bel5 ?_ (by simp; try omega))⟩
          · have hG := HG2.out
            rw [if_neg (by rw [hcan]; simp)] at hG
            have HG := hide hG
            clear hG
            rw [hcan] at D5
            go_wp2_with fail
            refine (HG.out _ S2 ok3.z ok3.k (Ints.nilSlice _)).mono ?_
            rintro e v8 ⟨⟨a8, n8, c8, Z8, k8, m8, l8, ea8, en8, ec8, rfl, hz8, p8, hk8, hd8, _, _⟩, hb⟩
            dsimp only at *
            have P8 := hide p8
            clear p8
            go_upto_region 13 with fail
            obtain ⟨z8, y8, bn⟩ := two_boxes v8 [.slice a8 n8 c8, .slice k8 m8 l8, .int .i64 gh, .int .i64 gt] [.int .i64 8, .int .i64 0, .slice ea8 en8 ec8] 27 33
            have bvn := belowT hb bn
            replace ok0 := ok0.below bvn (Nat.le_refl _)
            replace ok3 := ok3.below bvn (Nat.le_refl _)
            replace ak3 := AV.ok.below ak3 bvn (Nat.le_refl _)
            replace hx := hx.below bvn (Nat.le_refl _)
            replace x0 := x0.below bvn
            replace x1 := x1.below bvn
            replace z3 := z3.below bvn
            replace y3 := y3.below bvn
            replace S2 := S2.below bvn
            replace bw := belowT bw bvn
            clear bvn
            have ok8 : DV.ok _ ⟨a8, n8, c8, Z8, k8, m8, l8, gk, gh, gt⟩ := DV.ok.below ⟨hz8, hk8⟩ bn (Nat.le_refl _)
            clear bn hb a0 a1 a2 b0 b1 b2 b3 q0 q1 q2 q3 s0 s1 s2 s3 s4 hz8 hk8
            generalize v8.heap.size = B8 at *
            generalize (v8.alloc (.cells [.slice a8 n8 c8, .slice k8 m8 l8, .int .i64 gh, .int .i64 gt].toArray 27)).alloc (.cells [.int .i64 8, .int .i64 0, .slice ea8 en8 ec8].toArray 33) = w8 at *
            have b0 := z3.cell 0 _ rfl
            have b1 := z3.cell 1 _ rfl
            have b2 := z3.cell 2 _ rfl
            have b3 := z3.cell 3 _ rfl
            go_wp2_with fail
            refine (D5.out _ ok3.k).mono ?_
            rintro e w9 ⟨rfl, hb9⟩
            replace ok8 := ok8.below hb9 (Nat.le_refl _)
            replace z8 := z8.below hb9
            replace y8 := y8.below hb9
            replace ok0 := ok0.below hb9 (Nat.le_refl _)
            replace ok3 := ok3.below hb9 (Nat.le_refl _)
            replace ak3 := AV.ok.below ak3 hb9 (Nat.le_refl _)
            replace hx := hx.below hb9 (Nat.le_refl _)
            replace x0 := x0.below hb9
            replace x1 := x1.below hb9
            replace z3 := z3.below hb9
            replace y3 := y3.below hb9
            replace S2 := S2.below hb9
            replace bw := belowT bw hb9
            clear hb9
            clear b0 b1 b2 b3
            have b0 := z3.cell 0 _ rfl
            have b1 := z3.cell 1 _ rfl
            have b2 := z3.cell 2 _ rfl
            have b3 := z3.cell 3 _ rfl
            have q0 := z8.cell 0 _ rfl
            have q1 := z8.cell 1 _ rfl
            have q2 := z8.cell 2 _ rfl
            have q3 := z8.cell 3 _ rfl
            have D7 := hide (fun w' h1 h2 => DSame_c ⟨a3, n3, c3, Z3, k3, m3, l3, gk, gh, gt⟩ ⟨a8, n8, c8, Z8, k8, m8, l8, gk, gh, gt⟩ w' h1 h2)
            have HS7 := hide (show sameD (DV.p ⟨a3, n3, c3, Z3, k3, m3, l3, gk, gh, gt⟩) (DV.p ⟨a8, n8, c8, Z8, k8, m8, l8, gk, gh, gt⟩) = true from (sameD_iff _ _).2 (by simp [DV.p, DPH.out, P8.out]))
            dsimp only [DV.v] at D7
            go_wp2_with fail
            refine (D7.out _ ok3 ok8).mono ?_
            rintro e w10 ⟨rfl, hb10⟩
            rw [HS7.out]
            replace y8 := y8.below hb10
            replace ok0 := ok0.below hb10 (Nat.le_refl _)
            replace ok3 := ok3.below hb10 (Nat.le_refl _)
            replace ak3 := AV.ok.below ak3 hb10 (Nat.le_refl _)
            replace hx := hx.below hb10 (Nat.le_refl _)
            replace x0 := x0.below hb10
            replace x1 := x1.below hb10
            replace z3 := z3.below hb10
            replace y3 := y3.below hb10
            replace S2 := S2.below hb10
            replace bw := belowT bw hb10
            clear hb10
            clear b0 b1 b2 b3 q0 q1 q2 q3
            have b0 := y8.cell 0 _ rfl
            have b1 := y8.cell 1 _ rfl
            have b2 := y8.cell 2 _ rfl
            go_wp2
            go_ret
            exact ⟨rfl, bw⟩
      · have hk5 : (xk != 5) = true := by simp; omega
        have hk6 : (xk != 6) = true := by simp; omega
        clear hk
        go_wp2
        go_ret
        exact ⟨rfl, bw⟩
  · have hne : (be != 0) = true := by simpa using he
    have hS3 := D3.out
    rw [show sameD ⟨P', gk, gh, gt⟩ (DV.p ⟨za, zn, zc, Z, ka, kn, kc, bk, bh, bt⟩) = true from (sameD_iff _ _).2 (by rw [HER.out he]; rfl)] at hS3
    have D8 := hide hS3
    clear hS3 he
    go_wp2_with fail
    refine (D8.out _ ok3 ok0).mono ?_
    rintro e w7 ⟨rfl, hb7⟩
    replace ok0 := ok0.below hb7 (Nat.le_refl _)
    replace ok3 := ok3.below hb7 (Nat.le_refl _)
    replace ak3 := AV.ok.below ak3 hb7 (Nat.le_refl _)
    replace hx := hx.below hb7 (Nat.le_refl _)
    replace x0 := x0.below hb7
    replace x1 := x1.below hb7
    replace z3 := z3.below hb7
    replace y3 := y3.below hb7
    replace S2 := S2.below hb7
    replace bw := belowT bw hb7
    clear hb7
    clear a0 a1 a2 b0 b1 b2 b3 q0 q1 q2 q3
    have q0 := x0.cell 0 _ rfl
    have q1 := x0.cell 1 _ rfl
    have q2 := x0.cell 2 _ rfl
    have q3 := x0.cell 3 _ rfl
    go_wp2_with fail
    refine (D4.out _ ok0.k).mono ?_
    rintro e w8 ⟨rfl, hb8⟩
    replace ok0 := ok0.below hb8 (Nat.le_refl _)
    replace ok3 := ok3.below hb8 (Nat.le_refl _)
    replace ak3 := AV.ok.below ak3 hb8 (Nat.le_refl _)
    replace hx := hx.below hb8 (Nat.le_refl _)
    replace x0 := x0.below hb8
    replace x1 := x1.below hb8
    replace z3 := z3.below hb8
    replace y3 := y3.below hb8
    replace S2 := S2.below hb8
    replace bw := belowT bw hb8
    clear hb8
    clear q0 q1 q2 q3
    have a0 := y3.cell 0 _ rfl
    have a1 := y3.cell 1 _ rfl
    have a2 := y3.cell 2 _ rfl
    have b0 := z3.cell 0 _ rfl
    have b1 := z3.cell 1 _ rfl
    have b2 := z3.cell 2 _ rfl
    have b3 := z3.cell 3 _ rfl
    have q0 := x0.cell 0 _ rfl
    have q1 := x0.cell 1 _ rfl
    have q2 := x0.cell 2 _ rfl
    have q3 := x0.cell 3 _ rfl
    cases hm : mightB ⟨bk, bh, bt⟩ i true
    · have hp := HMY.out hm
      have HPP := hide (show decide (Z3.map ZV.p = Z.map ZV.p) = true from decide_eq_true (by rw [DPH.out, hp]))
      clear hp hm
      go_wp2_with fail
      refine (D6.out _ ok3.z ok0.z).mono ?_
      rintro e w9 ⟨rfl, hb9⟩
      rw [HPP.out]
      replace ok0 := ok0.below hb9 (Nat.le_refl _)
      replace ok3 := ok3.below hb9 (Nat.le_refl _)
      replace ak3 := AV.ok.below ak3 hb9 (Nat.le_refl _)
      replace hx := hx.below hb9 (Nat.le_refl _)
      replace x0 := x0.below hb9
      replace x1 := x1.below hb9
      replace z3 := z3.below hb9
      replace y3 := y3.below hb9
      replace S2 := S2.below hb9
      replace bw := belowT bw hb9
      clear hb9
      clear a0 a1 a2 b0 b1 b2 b3 q0 q1 q2 q3
      have a0 := y3.cell 0 _ rfl
      go_wp2
      go_ret
      exact ⟨rfl, bw⟩
    · clear hm
      go_wp2
      go_ret
      exact ⟨rfl, bw⟩

theorem DeskMay_c (d : DV) (who : Int) (ca : Option Addr) (cn cc : Nat) (x : PC) (rd : Int) (w : World) (hS : Shapes w) (h : d.ok w) (hx : Ints w ca cn cc x.d) (hw : -9223372036854775808 ≤ who ∧ who ≤ 9223372036854775807) (hr : -9223372036854775808 ≤ rd ∧ rd ≤ 9223372036854775807) :
    Calls Tryd.prog 3 #[d.v, .int .i64 who, cmdV ca cn cc x, .int .i64 rd] w fun e w' => e = .returned (.bool true) ∧ Below w.heap.size w w' := by
  obtain ⟨i, hi, hi3⟩ : ∃ i : Nat, who % 3 = i ∧ i < 3 := ⟨(who % 3).toNat, by omega, by omega⟩
  obtain ⟨j, hj, hj3⟩ : ∃ i : Nat, rd % 3 = i ∧ i < 3 := ⟨(rd % 3).toNat, by omega, by omega⟩
  by_cases hb : doE d.p (who % 3) x = 0
  · exact DeskMay_good d who i j ca cn cc x rd w hS h hx hw hr hi hi3 hj hj3 (by rw [← hi]; exact hb)
  · exact DeskMay_bad d who ca cn cc x rd w hS h hx hw hr hb

end Go.Proofs.YtkamnbigfdbgbaaDoor
