/- DeskReads answers true for every desk and numbers, and leaves all that was there as it was; no condition but that the package's table is as its text lays it. -/
import Derived.Test.YtkamnbigfdbgbaaDoorDeskReadsG18
namespace Go.Proofs.YtkamnbigfdbgbaaDoor
open Go.RowKit
set_option linter.unusedVariables false
set_option maxRecDepth 100000
set_option linter.unusedSimpArgs false

theorem sameAnswer_c (x y : AV) (w : World) (hx : x.ok w) (hy : y.ok w) : Calls Tryd.prog 14 #[x.v, y.v] w fun e w' => e = .returned (.bool (sameA x.p y.p)) ∧ Below w.heap.size w w' := by
  obtain ⟨e1, t1, a1, n1, c1, l1⟩ := x
  obtain ⟨e2, t2, a2, n2, c2, l2⟩ := y
  dsimp only [AV.v, AV.p]
  have h1 : Ints w a1 n1 c1 l1 := hx
  have h2 : Ints w a2 n2 c2 l2 := hy
  have HS : Hid (sameA ⟨e1, t1, l1⟩ ⟨e2, t2, l2⟩ = (e1 == e2 && (t1 == t2 && decide (l1 = l2)))) := hide (by rw [Bool.eq_iff_iff]; simp [sameA])
  cases he : e1 == e2
  · go_enter Tryd.func14, Tryd.ntmps14
    go_wp2
    go_ret
    exact ⟨ret_bool (by rw [HS.out, he]; rfl), by (repeat first | exact bel0 | assumption | refine bel1 ?_ | refine bel2 ?_ | refine bel3 ?_ | refine belowT ?_ (by assumption) | refine bel5 ?_ (by simp; try omega))⟩
  · cases ht : t1 == t2
    · go_enter Tryd.func14, Tryd.ntmps14
      go_wp2
      go_ret
      exact ⟨ret_bool (by rw [HS.out, he, ht]; rfl), by (repeat first | exact bel0 | assumption | refine bel1 ?_ | refine bel2 ?_ | refine bel3 ?_ | refine belowT ?_ (by assumption) | refine bel5 ?_ (by simp; try omega))⟩
    · go_enter Tryd.func14, Tryd.ntmps14
      go_wp2_with fail
      refine (Equal_c a1 a2 n1 n2 c1 c2 l1 l2 _ (h1.below (B := w.heap.size) (by (repeat first | exact bel0 | assumption | refine bel1 ?_ | refine bel2 ?_ | refine bel3 ?_ | refine belowT ?_ (by assumption) | refine bel5 ?_ (by simp; try omega))) (Nat.le_refl _)) (h2.below (B := w.heap.size) (by (repeat first | exact bel0 | assumption | refine bel1 ?_ | refine bel2 ?_ | refine bel3 ?_ | refine belowT ?_ (by assumption) | refine bel5 ?_ (by simp; try omega))) (Nat.le_refl _))).mono ?_
      rintro e w1 ⟨rfl, q, rfl⟩
      go_wp2
      go_ret
      exact ⟨ret_bool (by rw [HS.out, he, ht]; simp), by (repeat first | exact bel0 | assumption | refine bel1 ?_ | refine bel2 ?_ | refine bel3 ?_ | refine belowT ?_ (by assumption) | refine bel5 ?_ (by simp; try omega))⟩


theorem doD_bad {pd : PD} {who : Int} {c : PC} (h : checkD pd ≠ 0) : doD pd who c = (⟨[], ⟨[], 0, 0⟩⟩, ⟨0, 0, []⟩, checkD pd) := by simp [doD, doE, h, zeroD, zeroB, zeroA]
theorem doD_read {pd : PD} {i : Nat} {z n t : Int} (h : checkD pd = 0) (hi : i < 3) (hq : checkC ⟨7, z, n, t, []⟩ = 0) : doD pd i ⟨7, z, n, t, []⟩ = (pd, if mightB pd.b i false = false then ⟨8, 0, []⟩ else readD pd.P ⟨7, z, n, t, []⟩, 0) := by
  simp only [doD, doE_mk h hi hq, doneD]
  rw [if_neg (by simp), if_neg (by omega), show ((7 : Int) != 7) = false from rfl]
  cases mightB pd.b i false <;> simp [errA]
theorem checkC_read {z n t : Int} (hz : 0 ≤ z ∧ z ≤ 999) (hn : 0 ≤ n ∧ n ≤ 999) (ht : 0 ≤ t ∧ t ≤ 999) : checkC ⟨7, z, n, t, []⟩ = 0 := by
  unfold checkC
  simp only
  have e1 : outB 0 999 z = false := by simp [outB]; omega
  have e2 : outB 0 999 t = false := by simp [outB]; omega
  have e3 : outB 0 999 n = false := by simp [outB]; omega
  rw [if_neg (by decide), if_neg (by simp [hasZ, hasA, hasN]), if_neg (by simp [hasD]), if_neg (by simp), if_neg (by rw [e1, e2, e3]; simp)]

set_option maxHeartbeats 8000000 in
theorem DeskReads_c (d : DV) (a b k f n : Int) (w : World) (hS : Shapes w) (h : d.ok w) (ha : -9223372036854775808 ≤ a ∧ a ≤ 9223372036854775807) (hb0 : -9223372036854775808 ≤ b ∧ b ≤ 9223372036854775807) (hk : -9223372036854775808 ≤ k ∧ k ≤ 9223372036854775807) (hf : -9223372036854775808 ≤ f ∧ f ≤ 9223372036854775807) (hn : -9223372036854775808 ≤ n ∧ n ≤ 9223372036854775807) :
    Calls Tryd.prog 4 #[d.v, .int .i64 a, .int .i64 b, .int .i64 k, .int .i64 f, .int .i64 n] w fun e w' => e = .returned (.bool true) ∧ Below w.heap.size w w' := by
  obtain ⟨za, zn, zc, Z, ka, kn, kc, bk, bh, bt⟩ := d
  obtain ⟨hz, hkk⟩ := h
  obtain ⟨i, hi, hi3⟩ : ∃ i : Nat, a % 3 = i ∧ i < 3 := ⟨(a % 3).toNat, by omega, by omega⟩
  obtain ⟨j, hj, hj3⟩ : ∃ i : Nat, b % 3 = i ∧ i < 3 := ⟨(b % 3).toNat, by omega, by omega⟩
  have HQ := hide (checkC_read (z := k % 4) (n := n % 9) (t := f % 9) (by omega) (by omega) (by omega))
  have A1 := hide (fun w' => at_c a 3 w' (by omega) (by omega) ha)
  have A2 := hide (fun w' => at_c b 3 w' (by omega) (by omega) hb0)
  have A3 := hide (fun w' => at_c k 4 w' (by omega) (by omega) hk)
  have A4 := hide (fun w' => at_c f 9 w' (by omega) (by omega) hf)
  have A5 := hide (fun w' => at_c n 9 w' (by omega) (by omega) hn)
  generalize k % 4 = z at *
  generalize f % 9 = t at *
  generalize n % 9 = m at *
  rw [hi] at A1
  rw [hj] at A2
  dsimp only [DV.v] at *
  have x0 := Lay.made w [.slice za zn zc, .slice ka kn kc, .int .i64 bh, .int .i64 bt] 27
  have bw := belowA (Below.refl _ w) (.cells [.slice za zn zc, .slice ka kn kc, .int .i64 bh, .int .i64 bt].toArray 27)
  clear ha hb0 hk hf hn hi hj
  go_enter Tryd.func4, Tryd.ntmps4
  go_wp2_with fail
  refine (A1.out _).mono ?_
  rintro e w1 ⟨rfl, rfl⟩
  go_wp2_with fail
  refine (A2.out _).mono ?_
  rintro e w1 ⟨rfl, rfl⟩
  go_wp2_with fail
  refine (A3.out _).mono ?_
  rintro e w1 ⟨rfl, rfl⟩
  go_wp2_with fail
  refine (A4.out _).mono ?_
  rintro e w1 ⟨rfl, rfl⟩
  go_wp2_with fail
  refine (A5.out _).mono ?_
  rintro e w1 ⟨rfl, rfl⟩
  go_upto_region 3 with fail
  have x1 := Lay.made1 w (.cells [.slice za zn zc, .slice ka kn kc, .int .i64 bh, .int .i64 bt].toArray 27) [.int .i64 7, .int .i64 z, .int .i64 m, .int .i64 t, .slice none 0 0] 29
  have bn := belowA (Below.refl _ (w.alloc (.cells [.slice za zn zc, .slice ka kn kc, .int .i64 bh, .int .i64 bt].toArray 27))) (.cells [.int .i64 7, .int .i64 z, .int .i64 m, .int .i64 t, .slice none 0 0].toArray 29)
  replace x0 := x0.below bn
  replace bw := belowT bw bn
  clear bn A1 A2 A3 A4 A5
  replace hz := hz.below bw (Nat.le_refl _)
  replace hkk := hkk.below bw (Nat.le_refl _)
  generalize (w.alloc (.cells [.slice za zn zc, .slice ka kn kc, .int .i64 bh, .int .i64 bt].toArray 27)).alloc (.cells [.int .i64 7, .int .i64 z, .int .i64 m, .int .i64 t, .slice none 0 0].toArray 29) = w2 at *
  have S2 := hS.below bw
  have hSrv := hide (fun w' hS' => served_c w' hS')
  have b0 := x0.cell 0 _ rfl
  have b1 := x0.cell 1 _ rfl
  have b2 := x0.cell 2 _ rfl
  have b3 := x0.cell 3 _ rfl
  have q0 := x1.cell 0 _ rfl
  have q1 := x1.cell 1 _ rfl
  have q2 := x1.cell 2 _ rfl
  have q3 := x1.cell 3 _ rfl
  have q4 := x1.cell 4 _ rfl
  by_cases hc : checkD ⟨Z.map ZV.p, ⟨bk, bh, bt⟩⟩ = 0
  · obtain ⟨⟨e1, t1, l1⟩, hA1⟩ : ∃ A, A = (if mightB ⟨bk, bh, bt⟩ i false = false then ⟨8, 0, []⟩ else readD (Z.map ZV.p) ⟨7, z, m, t, []⟩ : PA) := ⟨_, rfl⟩
    obtain ⟨⟨e2, t2, l2⟩, hA2⟩ : ∃ A, A = (if mightB ⟨bk, bh, bt⟩ j false = false then ⟨8, 0, []⟩ else readD (Z.map ZV.p) ⟨7, z, m, t, []⟩ : PA) := ⟨_, rfl⟩
    have H1 := hide (fun w' hS' hz hk hx => Do_k za zn zc Z ka kn kc bk bh bt i none 0 0 7 z m t [] w' hS' hz hk hx (⟨Z.map ZV.p, ⟨bk, bh, bt⟩⟩, ⟨e1, t1, l1⟩, 0) (by rw [hA1]; exact doD_read hc hi3 HQ.out))
    have H2 := hide (fun w' hS' hz hk hx => Do_k za zn zc Z ka kn kc bk bh bt j none 0 0 7 z m t [] w' hS' hz hk hx (⟨Z.map ZV.p, ⟨bk, bh, bt⟩⟩, ⟨e2, t2, l2⟩, 0) (by rw [hA2]; exact doD_read hc hj3 HQ.out))
    have HAA := hide (show e1 = 8 ∨ e2 = 8 ∨ ((⟨e1, t1, l1⟩ : PA) = ⟨e2, t2, l2⟩) by
      cases hm1 : mightB ⟨bk, bh, bt⟩ i false
      · rw [hm1] at hA1
        simp at hA1
        exact .inl hA1.1
      · cases hm2 : mightB ⟨bk, bh, bt⟩ j false
        · rw [hm2] at hA2
          simp at hA2
          exact .inr (.inl hA2.1)
        · rw [hm1] at hA1
          rw [hm2] at hA2
          exact .inr (.inr (by rw [hA1, hA2])))
    clear hA1 hA2 hc
    go_wp2_with fail
    refine (H1.out _ (S2) hz hkk (Ints.nilSlice _)).mono ?_
    rintro e v3 ⟨⟨a3, n3, c3, Z3, k3, m3, l3, ea3, en3, ec3, rfl, hz3, p3, hk3, hd3, _, _⟩, hb⟩
    dsimp only at *
    have bv : Below w2.heap.size w2 v3 := by (repeat first | exact bel0 | assumption | refine bel1 ?_ | refine bel2 ?_ | refine bel3 ?_ | refine belowT ?_ (by assumption) | refine bel5 ?_ (by simp; try omega))
    replace bw := belowT bw bv
    clear hb
    go_upto_region 4 with fail
    obtain ⟨z3, y3, bn⟩ := two_boxes v3 [.slice a3 n3 c3, .slice k3 m3 l3, .int .i64 (bh), .int .i64 (bt)] [.int .i64 (e1), .int .i64 (t1), .slice ea3 en3 ec3] 27 33
    have bvn := belowT bv bn
    replace hz3 := hz3.below bn (Nat.le_refl _)
    replace hk3 := hk3.below bn (Nat.le_refl _)
    replace hd3 := hd3.below bn (Nat.le_refl _)
    replace bw := belowT bw bn
    clear bn bv
    generalize v3.heap.size = B3 at *
    generalize (v3.alloc (.cells [.slice a3 n3 c3, .slice k3 m3 l3, .int .i64 (bh), .int .i64 (bt)].toArray 27)).alloc (.cells [.int .i64 (e1), .int .i64 (t1), .slice ea3 en3 ec3].toArray 33) = w3 at *
    replace x0 := x0.below bvn
    replace x1 := x1.below bvn
    replace hz := hz.below bvn (Nat.le_refl _)
    replace hkk := hkk.below bvn (Nat.le_refl _)
    have P3 := hide p3
    replace S2 := S2.below bvn
    clear p3 bvn b0 b1 b2 b3 q0 q1 q2 q3 q4
    have b0 := x0.cell 0 _ rfl
    have b1 := x0.cell 1 _ rfl
    have b2 := x0.cell 2 _ rfl
    have b3 := x0.cell 3 _ rfl
    have q0 := x1.cell 0 _ rfl
    have q1 := x1.cell 1 _ rfl
    have q2 := x1.cell 2 _ rfl
    have q3 := x1.cell 3 _ rfl
    have q4 := x1.cell 4 _ rfl
    go_wp2_with fail
    refine (H2.out _ S2 hz hkk (Ints.nilSlice _)).mono ?_
    rintro e v4 ⟨⟨a4, n4, c4, Z4, k4, m4, l4, ea4, en4, ec4, rfl, hz4, p4, hk4, hd4, _, _⟩, hb⟩
    dsimp only at *
    have bv : Below w3.heap.size w3 v4 := by (repeat first | exact bel0 | assumption | refine bel1 ?_ | refine bel2 ?_ | refine bel3 ?_ | refine belowT ?_ (by assumption) | refine bel5 ?_ (by simp; try omega))
    replace bw := belowT bw bv
    clear hb
    go_upto_region 5 with fail
    obtain ⟨z4, y4, bn⟩ := two_boxes v4 [.slice a4 n4 c4, .slice k4 m4 l4, .int .i64 (bh), .int .i64 (bt)] [.int .i64 (e2), .int .i64 (t2), .slice ea4 en4 ec4] 27 33
    have bvn := belowT bv bn
    replace hz4 := hz4.below bn (Nat.le_refl _)
    replace hk4 := hk4.below bn (Nat.le_refl _)
    replace hd4 := hd4.below bn (Nat.le_refl _)
    replace bw := belowT bw bn
    clear bn bv
    generalize v4.heap.size = B4 at *
    generalize (v4.alloc (.cells [.slice a4 n4 c4, .slice k4 m4 l4, .int .i64 (bh), .int .i64 (bt)].toArray 27)).alloc (.cells [.int .i64 (e2), .int .i64 (t2), .slice ea4 en4 ec4].toArray 33) = w4 at *
    have P4 := hide p4
    have ok0 : DV.ok w4 ⟨za, zn, zc, Z, ka, kn, kc, bk, bh, bt⟩ := ⟨hz.below bvn (Nat.le_refl _), hkk.below bvn (Nat.le_refl _)⟩
    have ok3 : DV.ok w4 ⟨a3, n3, c3, Z3, k3, m3, l3, bk, bh, bt⟩ := ⟨hz3.below bvn (Nat.le_refl _), hk3.below bvn (Nat.le_refl _)⟩
    have ok4 : DV.ok w4 ⟨a4, n4, c4, Z4, k4, m4, l4, bk, bh, bt⟩ := ⟨hz4, hk4⟩
    have ak3 : AV.ok w4 ⟨e1, t1, ea3, en3, ec3, l1⟩ := hd3.below bvn (Nat.le_refl _)
    have ak4 : AV.ok w4 ⟨e2, t2, ea4, en4, ec4, l2⟩ := hd4
    replace x0 := x0.below bvn
    replace z3 := z3.below bvn
    replace y3 := y3.below bvn
    replace S2 := S2.below bvn
    have C3 := fun w' h1 h2 => DSame_c ⟨a3, n3, c3, Z3, k3, m3, l3, bk, bh, bt⟩ ⟨za, zn, zc, Z, ka, kn, kc, bk, bh, bt⟩ w' h1 h2
    have C4 := fun w' h1 h2 => DSame_c ⟨a4, n4, c4, Z4, k4, m4, l4, bk, bh, bt⟩ ⟨za, zn, zc, Z, ka, kn, kc, bk, bh, bt⟩ w' h1 h2
    have C5 := fun w' h1 h2 => sameAnswer_c ⟨e1, t1, ea3, en3, ec3, l1⟩ ⟨e2, t2, ea4, en4, ec4, l2⟩ w' h1 h2
    rw [show (⟨a3, n3, c3, Z3, k3, m3, l3, bk, bh, bt⟩ : DV).p = (⟨za, zn, zc, Z, ka, kn, kc, bk, bh, bt⟩ : DV).p by simp [DV.p, P3.out], sameD_self] at C3
    rw [show (⟨a4, n4, c4, Z4, k4, m4, l4, bk, bh, bt⟩ : DV).p = (⟨za, zn, zc, Z, ka, kn, kc, bk, bh, bt⟩ : DV).p by simp [DV.p, P4.out], sameD_self] at C4
    dsimp only [DV.v, AV.v] at C3 C4 C5
    have D3 := hide C3
    have D4 := hide C4
    have D5 := hide C5
    clear C3 C4 C5 p4 bvn b0 b1 b2 b3 q0 q1 q2 q3 q4 hz hkk hz3 hk3 hd3 hz4 hk4 hd4 x1
    go_wp2_with fail
    refine (hSrv.out _ S2).mono ?_
    rintro e w5 ⟨rfl, hb5⟩
    replace ok0 := ok0.below hb5 (Nat.le_refl _)
    replace ok3 := ok3.below hb5 (Nat.le_refl _)
    replace ok4 := ok4.below hb5 (Nat.le_refl _)
    replace ak3 := AV.ok.below ak3 hb5 (Nat.le_refl _)
    replace ak4 := AV.ok.below ak4 hb5 (Nat.le_refl _)
    replace x0 := x0.below hb5
    replace z3 := z3.below hb5
    replace y3 := y3.below hb5
    replace z4 := z4.below hb5
    replace y4 := y4.below hb5
    replace bw := belowT bw hb5
    clear hb5
    have b0 := x0.cell 0 _ rfl
    have b1 := x0.cell 1 _ rfl
    have b2 := x0.cell 2 _ rfl
    have b3 := x0.cell 3 _ rfl
    have q0 := z3.cell 0 _ rfl
    have q1 := z3.cell 1 _ rfl
    have q2 := z3.cell 2 _ rfl
    have q3 := z3.cell 3 _ rfl
    go_wp2_with fail
    refine (D3.out _ ok3 ok0).mono ?_
    rintro e w6 ⟨rfl, hb6⟩
    replace ok0 := ok0.below hb6 (Nat.le_refl _)
    replace ok4 := ok4.below hb6 (Nat.le_refl _)
    replace ak3 := AV.ok.below ak3 hb6 (Nat.le_refl _)
    replace ak4 := AV.ok.below ak4 hb6 (Nat.le_refl _)
    replace x0 := x0.below hb6
    replace y3 := y3.below hb6
    replace z4 := z4.below hb6
    replace y4 := y4.below hb6
    replace bw := belowT bw hb6
    clear hb6 b0 b1 b2 b3 q0 q1 q2 q3 z3
    have b0 := x0.cell 0 _ rfl
    have b1 := x0.cell 1 _ rfl
    have b2 := x0.cell 2 _ rfl
    have b3 := x0.cell 3 _ rfl
    have q0 := z4.cell 0 _ rfl
    have q1 := z4.cell 1 _ rfl
    have q2 := z4.cell 2 _ rfl
    have q3 := z4.cell 3 _ rfl
    go_wp2_with fail
    refine (D4.out _ ok4 ok0).mono ?_
    rintro e w7 ⟨rfl, hb7⟩
    replace ak3 := AV.ok.below ak3 hb7 (Nat.le_refl _)
    replace ak4 := AV.ok.below ak4 hb7 (Nat.le_refl _)
    replace y3 := y3.below hb7
    replace y4 := y4.below hb7
    replace bw := belowT bw hb7
    clear hb7 b0 b1 b2 b3 q0 q1 q2 q3 z4 x0
    have q0 := y3.cell 0 _ rfl
    have q1 := y3.cell 1 _ rfl
    have q2 := y3.cell 2 _ rfl
    have r0 := y4.cell 0 _ rfl
    have r1 := y4.cell 1 _ rfl
    have r2 := y4.cell 2 _ rfl
    cases h8 : e1 == 8
    · cases h9 : e2 == 8
      · have hs : sameA (AV.p ⟨e1, t1, ea3, en3, ec3, l1⟩) (AV.p ⟨e2, t2, ea4, en4, ec4, l2⟩) = true := by
          simp at h8 h9
          rcases HAA.out with q | q | q
          · exact absurd q h8
          · exact absurd q h9
          · exact (sameA_iff _ _).2 q
        have HS9 := hide hs
        clear hs
        go_wp2_with fail
        refine (D5.out _ ak3 ak4).mono ?_
        rintro e w8 ⟨rfl, hb8⟩
        rw [HS9.out]
        go_wp2
        go_ret
        exact ⟨rfl, by (repeat first | exact bel0 | assumption | refine bel1 ?_ | refine bel2 ?_ | refine bel3 ?_ | refine belowT ?_ (by assumption) | refine bel5 ?_ (by simp; try omega))⟩
      · go_wp2
        go_ret
        exact ⟨rfl, bw⟩
    · go_wp2
      go_ret
      exact ⟨rfl, bw⟩
  · have H1 := hide (fun w' hS' hz hk hx => Do_k za zn zc Z ka kn kc bk bh bt i none 0 0 7 z m t [] w' hS' hz hk hx (⟨[], ⟨[], 0, 0⟩⟩, ⟨0, 0, []⟩, checkD ⟨Z.map ZV.p, ⟨bk, bh, bt⟩⟩) (doD_bad hc))
    have H2 := hide (fun w' hS' hz hk hx => Do_k za zn zc Z ka kn kc bk bh bt j none 0 0 7 z m t [] w' hS' hz hk hx (⟨[], ⟨[], 0, 0⟩⟩, ⟨0, 0, []⟩, checkD ⟨Z.map ZV.p, ⟨bk, bh, bt⟩⟩) (doD_bad hc))
    have hne : (checkD ⟨Z.map ZV.p, ⟨bk, bh, bt⟩⟩ != 0) = true := by simpa using hc
    clear hc
    generalize checkD ⟨Z.map ZV.p, ⟨bk, bh, bt⟩⟩ = ee at *
    have hee : (ee == ee) = true := by simp
    go_wp2_with fail
    refine (H1.out _ (S2) hz hkk (Ints.nilSlice _)).mono ?_
    rintro e v3 ⟨⟨a3, n3, c3, Z3, k3, m3, l3, ea3, en3, ec3, rfl, hz3, p3, hk3, hd3, _, _⟩, hb⟩
    dsimp only at *
    have bv : Below w2.heap.size w2 v3 := by (repeat first | exact bel0 | assumption | refine bel1 ?_ | refine bel2 ?_ | refine bel3 ?_ | refine belowT ?_ (by assumption) | refine bel5 ?_ (by simp; try omega))
    replace bw := belowT bw bv
    clear hb
    go_upto_region 4 with fail
    obtain ⟨z3, y3, bn⟩ := two_boxes v3 [.slice a3 n3 c3, .slice k3 m3 l3, .int .i64 (0), .int .i64 (0)] [.int .i64 (0), .int .i64 (0), .slice ea3 en3 ec3] 27 33
    have bvn := belowT bv bn
    replace hz3 := hz3.below bn (Nat.le_refl _)
    replace hk3 := hk3.below bn (Nat.le_refl _)
    replace hd3 := hd3.below bn (Nat.le_refl _)
    replace bw := belowT bw bn
    clear bn bv
    generalize v3.heap.size = B3 at *
    generalize (v3.alloc (.cells [.slice a3 n3 c3, .slice k3 m3 l3, .int .i64 (0), .int .i64 (0)].toArray 27)).alloc (.cells [.int .i64 (0), .int .i64 (0), .slice ea3 en3 ec3].toArray 33) = w3 at *
    replace x0 := x0.below bvn
    replace x1 := x1.below bvn
    replace hz := hz.below bvn (Nat.le_refl _)
    replace hkk := hkk.below bvn (Nat.le_refl _)
    replace S2 := S2.below bvn
    clear p3 bvn b0 b1 b2 b3 q0 q1 q2 q3 q4
    have b0 := x0.cell 0 _ rfl
    have b1 := x0.cell 1 _ rfl
    have b2 := x0.cell 2 _ rfl
    have b3 := x0.cell 3 _ rfl
    have q0 := x1.cell 0 _ rfl
    have q1 := x1.cell 1 _ rfl
    have q2 := x1.cell 2 _ rfl
    have q3 := x1.cell 3 _ rfl
    have q4 := x1.cell 4 _ rfl
    go_wp2_with fail
    refine (H2.out _ S2 hz hkk (Ints.nilSlice _)).mono ?_
    rintro e v4 ⟨⟨a4, n4, c4, Z4, k4, m4, l4, ea4, en4, ec4, rfl, hz4, p4, hk4, hd4, _, _⟩, hb⟩
    dsimp only at *
    have bv : Below w3.heap.size w3 v4 := by (repeat first | exact bel0 | assumption | refine bel1 ?_ | refine bel2 ?_ | refine bel3 ?_ | refine belowT ?_ (by assumption) | refine bel5 ?_ (by simp; try omega))
    replace bw := belowT bw bv
    clear hb
    go_upto_region 5 with fail
    obtain ⟨z4, y4, bn⟩ := two_boxes v4 [.slice a4 n4 c4, .slice k4 m4 l4, .int .i64 (0), .int .i64 (0)] [.int .i64 (0), .int .i64 (0), .slice ea4 en4 ec4] 27 33
    have bvn := belowT bv bn
    replace hz4 := hz4.below bn (Nat.le_refl _)
    replace hk4 := hk4.below bn (Nat.le_refl _)
    replace hd4 := hd4.below bn (Nat.le_refl _)
    replace bw := belowT bw bn
    clear bn bv
    generalize v4.heap.size = B4 at *
    generalize (v4.alloc (.cells [.slice a4 n4 c4, .slice k4 m4 l4, .int .i64 (0), .int .i64 (0)].toArray 27)).alloc (.cells [.int .i64 (0), .int .i64 (0), .slice ea4 en4 ec4].toArray 33) = w4 at *
    replace S2 := S2.below bvn
    go_wp2_with fail
    refine (hSrv.out _ S2).mono ?_
    rintro e w5 ⟨rfl, hb5⟩
    replace bw := belowT bw hb5
    replace S2 := S2.below hb5
    go_wp2_with fail
    refine (hSrv.out _ S2).mono ?_
    rintro e w6 ⟨rfl, hb6⟩
    go_wp2
    go_ret
    exact ⟨rfl, belowT bw hb6⟩

end Go.Proofs.YtkamnbigfdbgbaaDoor
