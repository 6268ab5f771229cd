/- HandSays answers true for every hand, command, number, answer and other hand, and leaves all that was there as it was; no condition but that the package's table is as its text lays it. -/
import Derived.Test.YtklabieacbbbfaaDoorNU16
import Derived.Test.YtklabieacbbbfaaDoorNU13
import Derived.Test.YtklabieacbbbfaaDoorNU10
namespace Go.Proofs.YtklabieacbbbfaaDoor
open Go.RowKit
set_option linter.unusedVariables false
set_option maxRecDepth 100000
set_option linter.unusedSimpArgs false

theorem SN_true (h f : NV) (e : h.p = f.p) (w : World) (hk : h.ok w) (hf : f.ok w) : Calls Tryd.prog 14 #[h.v, f.v] w fun e w' => e = .returned (.bool true) ∧ Below w.heap.size w w' := by
  have := SameHandR_c h f w hk hf
  rw [(sameN_iff _ _).2 e] at this
  exact this
theorem four_boxes (w : World) (H R G K : List Value) (s t u v : TypeId) :
    Lay ((((w.alloc (.cells H.toArray s)).alloc (.cells R.toArray t)).alloc (.cells G.toArray u)).alloc (.cells K.toArray v)) w.heap.size H ∧ Lay ((((w.alloc (.cells H.toArray s)).alloc (.cells R.toArray t)).alloc (.cells G.toArray u)).alloc (.cells K.toArray v)) (w.heap.size + 1) R ∧ Lay ((((w.alloc (.cells H.toArray s)).alloc (.cells R.toArray t)).alloc (.cells G.toArray u)).alloc (.cells K.toArray v)) (w.heap.size + 1 + 1) G ∧ Lay ((((w.alloc (.cells H.toArray s)).alloc (.cells R.toArray t)).alloc (.cells G.toArray u)).alloc (.cells K.toArray v)) (w.heap.size + 1 + 1 + 1) K ∧ Below w.heap.size w ((((w.alloc (.cells H.toArray s)).alloc (.cells R.toArray t)).alloc (.cells G.toArray u)).alloc (.cells K.toArray v)) := by
  obtain ⟨h0, h1, h2, b⟩ := three_boxes w H R G s t u
  have bn := belowA (Below.refl _ (((w.alloc (.cells H.toArray s)).alloc (.cells R.toArray t)).alloc (.cells G.toArray u))) (.cells K.toArray v)
  have h3 := Lay.made1 ((w.alloc (.cells H.toArray s)).alloc (.cells R.toArray t)) (.cells G.toArray u) K v
  simp only [World.size_alloc] at h3
  exact ⟨h0.below bn, h1.below bn, h2.below bn, h3, belowT b bn⟩

set_option maxRecDepth 100000 in
set_option maxHeartbeats 32000000 in
theorem HandSays_c (h : NV) (ba : Option Addr) (bn bc : Nat) (b : PC) (sq : Int) (y : AV) (g : NV) (w : World) (hS : Shapes w) (hk : h.ok w) (hb : Ints w ba bn bc b.d) (hy : y.ok w) (hg : g.ok w) : Calls Tryd.prog 3 #[h.v, cmdV ba bn bc b, .int .i64 sq, y.v, g.v] w fun e w' => e = .returned (.bool true) ∧ Below w.heap.size w w' := by
  have Y1 := hide (fun w' hS' h' b' => JAsk_c h ba bn bc b w' hS' h' b')
  have Y2 := hide (fun w' hS' h' y' => JHear_c h sq y w' hS' h' y')
  have Y3 := hide (fun w' h' b' => AsksR_c h ba bn bc b w' h' b')
  have Y4 := hide (fun w' h' y' => HearsR_c h sq y w' h' y')
  have Y5 := hide (fun w' hS' => answered_c w' hS')
  have Y6 := hide (fun w' hS' h' => JCheck_c h w' hS' h')
  have Y7 := hide (fun w' h' => CheckHandR_c h w' h')
  have Y8 := hide (fun w' h1 h2 => JSame_c h g w' h1 h2)
  have Y9 := hide (fun w' h1 h2 => SameHandR_c h g w' h1 h2)
  generalize askN h.p b = na at *
  generalize hearN h.p sq y.p = nh at *
  generalize checkN h.p = ch at *
  generalize sameN h.p g.p = sm at *
  obtain ⟨l0, lb, la, l5, bw⟩ := four_boxes w h.cells [.int .i64 b.k, .int .i64 b.z, .int .i64 b.n, .int .i64 b.at', .slice ba bn bc] y.cells g.cells 27 24 30 27
  have ok0 := hk.below bw (Nat.le_refl _)
  have ok5 := hg.below bw (Nat.le_refl _)
  have okb := hb.below bw (Nat.le_refl _)
  have oka := AV.ok.below hy bw (Nat.le_refl _)
  have hSw := hS.below bw
  clear hk hg hb hy hS
  rw [show h.v = .agg h.cells.toArray from rfl, show g.v = .agg g.cells.toArray from rfl, show y.v = .agg y.cells.toArray from rfl] at *
  obtain ⟨s0, v0, ⟨k0, z0, u0, t0, d0⟩, ca0, cn0, cc0, ga0, gn0, gc0, G0⟩ := h
  obtain ⟨s5, v5, ⟨k5, z5, u5, t5, d5⟩, ca5, cn5, cc5, ga5, gn5, gc5, G5⟩ := g
  obtain ⟨kb, zb, ub, tb, db⟩ := b
  obtain ⟨ae, at', aa, an, ac, ad⟩ := y
  dsimp only [NV.cells, AV.cells, cmdV] at *
  go_enter Tryd.func3, Tryd.ntmps3
  go_upto_region 1 with fail
  generalize ((((w.alloc (.cells [.int .i64 s0, .bool v0, .int .i64 k0, .int .i64 z0, .int .i64 u0, .int .i64 t0, .slice ca0 cn0 cc0, .slice ga0 gn0 gc0].toArray 27)).alloc (.cells [.int .i64 kb, .int .i64 zb, .int .i64 ub, .int .i64 tb, .slice ba bn bc].toArray 24)).alloc (.cells [.int .i64 ae, .int .i64 at', .slice aa an ac].toArray 30)).alloc (.cells [.int .i64 s5, .bool v5, .int .i64 k5, .int .i64 z5, .int .i64 u5, .int .i64 t5, .slice ca5 cn5 cc5, .slice ga5 gn5 gc5].toArray 27)) = w1 at *
  have t1' : (ch == ch) = true := by simp
  have t2' : (sm == sm) = true := by simp
  have t3' : (na.2 == na.2) = true := by simp
  have t4' : (nh.2 == nh.2) = true := by simp
  have q0 := l0.cell 0 _ rfl
  have q1 := l0.cell 1 _ rfl
  have q2 := l0.cell 2 _ rfl
  have q3 := l0.cell 3 _ rfl
  have q4 := l0.cell 4 _ rfl
  have q5 := l0.cell 5 _ rfl
  have q6 := l0.cell 6 _ rfl
  have q7 := l0.cell 7 _ rfl
  have r0 := lb.cell 0 _ rfl
  have r1 := lb.cell 1 _ rfl
  have r2 := lb.cell 2 _ rfl
  have r3 := lb.cell 3 _ rfl
  have r4 := lb.cell 4 _ rfl
  go_wp2_with fail
  refine (Y1.out _ hSw ok0 okb).mono ?_
  rintro e v2' ⟨⟨⟨s1, v1, ⟨k1, z1, u1, t1, d1⟩, ca1, cn1, cc1, ga1, gn1, gc1, G1⟩, rfl, ok1, _, p1⟩, hb⟩
  have P1 := hide p1
  clear p1 Y1 q0 q1 q2 q3 q4 q5 q6 q7 r0 r1 r2 r3 r4
  dsimp only [NV.v]
  go_upto_region 2 with fail
  have l1 := Lay.made v2' [.int .i64 s1, .bool v1, .int .i64 k1, .int .i64 z1, .int .i64 u1, .int .i64 t1, .slice ca1 cn1 cc1, .slice ga1 gn1 gc1] 27
  have bn' := belowA (Below.refl _ v2') (.cells [.int .i64 s1, .bool v1, .int .i64 k1, .int .i64 z1, .int .i64 u1, .int .i64 t1, .slice ca1 cn1 cc1, .slice ga1 gn1 gc1].toArray 27)
  replace ok1 := ok1.below bn' (Nat.le_refl _)
  have bv := belowT hb bn'
  replace l0 := l0.below bv
  replace lb := lb.below bv
  replace la := la.below bv
  replace l5 := l5.below bv
  replace ok0 := ok0.below bv (Nat.le_refl _)
  replace ok5 := ok5.below bv (Nat.le_refl _)
  replace okb := okb.below bv (Nat.le_refl _)
  replace oka := AV.ok.below oka bv (Nat.le_refl _)
  replace hSw := hSw.below bv
  replace bw := belowT bw bv
  clear bn' bv hb
  generalize v2'.heap.size = B1 at *
  generalize v2'.alloc (.cells [.int .i64 s1, .bool v1, .int .i64 k1, .int .i64 z1, .int .i64 u1, .int .i64 t1, .slice ca1 cn1 cc1, .slice ga1 gn1 gc1].toArray 27) = w2 at *
  have q0 := l0.cell 0 _ rfl
  have q1 := l0.cell 1 _ rfl
  have q2 := l0.cell 2 _ rfl
  have q3 := l0.cell 3 _ rfl
  have q4 := l0.cell 4 _ rfl
  have q5 := l0.cell 5 _ rfl
  have q6 := l0.cell 6 _ rfl
  have q7 := l0.cell 7 _ rfl
  have r0 := la.cell 0 _ rfl
  have r1 := la.cell 1 _ rfl
  have r2 := la.cell 2 _ rfl
  go_wp2_with fail
  refine (Y2.out _ hSw ok0 oka).mono ?_
  rintro e v3' ⟨⟨⟨s2, v2, ⟨k2, z2, u2, t2, d2⟩, ca2, cn2, cc2, ga2, gn2, gc2, G2⟩, rfl, ok2, _, p2⟩, hb⟩
  have P2 := hide p2
  clear p2 Y2 q0 q1 q2 q3 q4 q5 q6 q7 r0 r1 r2
  dsimp only [NV.v]
  go_upto_region 3 with fail
  have l2 := Lay.made v3' [.int .i64 s2, .bool v2, .int .i64 k2, .int .i64 z2, .int .i64 u2, .int .i64 t2, .slice ca2 cn2 cc2, .slice ga2 gn2 gc2] 27
  have bn' := belowA (Below.refl _ v3') (.cells [.int .i64 s2, .bool v2, .int .i64 k2, .int .i64 z2, .int .i64 u2, .int .i64 t2, .slice ca2 cn2 cc2, .slice ga2 gn2 gc2].toArray 27)
  replace ok2 := ok2.below bn' (Nat.le_refl _)
  have bv := belowT hb bn'
  replace l0 := l0.below bv
  replace lb := lb.below bv
  replace la := la.below bv
  replace l5 := l5.below bv
  replace l1 := l1.below bv
  replace ok0 := ok0.below bv (Nat.le_refl _)
  replace ok5 := ok5.below bv (Nat.le_refl _)
  replace okb := okb.below bv (Nat.le_refl _)
  replace oka := AV.ok.below oka bv (Nat.le_refl _)
  replace ok1 := ok1.below bv (Nat.le_refl _)
  replace hSw := hSw.below bv
  replace bw := belowT bw bv
  clear bn' bv hb
  generalize v3'.heap.size = B2 at *
  generalize v3'.alloc (.cells [.int .i64 s2, .bool v2, .int .i64 k2, .int .i64 z2, .int .i64 u2, .int .i64 t2, .slice ca2 cn2 cc2, .slice ga2 gn2 gc2].toArray 27) = w3 at *
  have q0 := l0.cell 0 _ rfl
  have q1 := l0.cell 1 _ rfl
  have q2 := l0.cell 2 _ rfl
  have q3 := l0.cell 3 _ rfl
  have q4 := l0.cell 4 _ rfl
  have q5 := l0.cell 5 _ rfl
  have q6 := l0.cell 6 _ rfl
  have q7 := l0.cell 7 _ rfl
  have r0 := lb.cell 0 _ rfl
  have r1 := lb.cell 1 _ rfl
  have r2 := lb.cell 2 _ rfl
  have r3 := lb.cell 3 _ rfl
  have r4 := lb.cell 4 _ rfl
  go_wp2_with fail
  refine (Y3.out _ ok0 okb).mono ?_
  rintro e v4' ⟨⟨⟨s3, v3, ⟨k3, z3, u3, t3, d3⟩, ca3, cn3, cc3, ga3, gn3, gc3, G3⟩, rfl, ok3, _, p3⟩, hb⟩
  have P3 := hide p3
  clear p3 Y3 q0 q1 q2 q3 q4 q5 q6 q7 r0 r1 r2 r3 r4
  dsimp only [NV.v]
  go_upto_region 4 with fail
  have l3 := Lay.made v4' [.int .i64 s3, .bool v3, .int .i64 k3, .int .i64 z3, .int .i64 u3, .int .i64 t3, .slice ca3 cn3 cc3, .slice ga3 gn3 gc3] 27
  have bn' := belowA (Below.refl _ v4') (.cells [.int .i64 s3, .bool v3, .int .i64 k3, .int .i64 z3, .int .i64 u3, .int .i64 t3, .slice ca3 cn3 cc3, .slice ga3 gn3 gc3].toArray 27)
  replace ok3 := ok3.below bn' (Nat.le_refl _)
  have bv := belowT hb bn'
  replace l0 := l0.below bv
  replace lb := lb.below bv
  replace la := la.below bv
  replace l5 := l5.below bv
  replace l1 := l1.below bv
  replace l2 := l2.below bv
  replace ok0 := ok0.below bv (Nat.le_refl _)
  replace ok5 := ok5.below bv (Nat.le_refl _)
  replace okb := okb.below bv (Nat.le_refl _)
  replace oka := AV.ok.below oka bv (Nat.le_refl _)
  replace ok1 := ok1.below bv (Nat.le_refl _)
  replace ok2 := ok2.below bv (Nat.le_refl _)
  replace hSw := hSw.below bv
  replace bw := belowT bw bv
  clear bn' bv hb
  generalize v4'.heap.size = B3 at *
  generalize v4'.alloc (.cells [.int .i64 s3, .bool v3, .int .i64 k3, .int .i64 z3, .int .i64 u3, .int .i64 t3, .slice ca3 cn3 cc3, .slice ga3 gn3 gc3].toArray 27) = w4 at *
  have q0 := l0.cell 0 _ rfl
  have q1 := l0.cell 1 _ rfl
  have q2 := l0.cell 2 _ rfl
  have q3 := l0.cell 3 _ rfl
  have q4 := l0.cell 4 _ rfl
  have q5 := l0.cell 5 _ rfl
  have q6 := l0.cell 6 _ rfl
  have q7 := l0.cell 7 _ rfl
  have r0 := la.cell 0 _ rfl
  have r1 := la.cell 1 _ rfl
  have r2 := la.cell 2 _ rfl
  go_wp2_with fail
  refine (Y4.out _ ok0 oka).mono ?_
  rintro e v5' ⟨⟨⟨s4, v4, ⟨k4, z4, u4, t4, d4⟩, ca4, cn4, cc4, ga4, gn4, gc4, G4⟩, rfl, ok4, _, p4⟩, hb⟩
  have P4 := hide p4
  clear p4 Y4 q0 q1 q2 q3 q4 q5 q6 q7 r0 r1 r2
  dsimp only [NV.v]
  go_upto_region 5 with fail
  have l4 := Lay.made v5' [.int .i64 s4, .bool v4, .int .i64 k4, .int .i64 z4, .int .i64 u4, .int .i64 t4, .slice ca4 cn4 cc4, .slice ga4 gn4 gc4] 27
  have bn' := belowA (Below.refl _ v5') (.cells [.int .i64 s4, .bool v4, .int .i64 k4, .int .i64 z4, .int .i64 u4, .int .i64 t4, .slice ca4 cn4 cc4, .slice ga4 gn4 gc4].toArray 27)
  replace ok4 := ok4.below bn' (Nat.le_refl _)
  have bv := belowT hb bn'
  replace l0 := l0.below bv
  replace lb := lb.below bv
  replace la := la.below bv
  replace l5 := l5.below bv
  replace l1 := l1.below bv
  replace l2 := l2.below bv
  replace l3 := l3.below bv
  replace ok0 := ok0.below bv (Nat.le_refl _)
  replace ok5 := ok5.below bv (Nat.le_refl _)
  replace okb := okb.below bv (Nat.le_refl _)
  replace oka := AV.ok.below oka bv (Nat.le_refl _)
  replace ok1 := ok1.below bv (Nat.le_refl _)
  replace ok2 := ok2.below bv (Nat.le_refl _)
  replace ok3 := ok3.below bv (Nat.le_refl _)
  replace hSw := hSw.below bv
  replace bw := belowT bw bv
  clear bn' bv hb
  generalize v5'.heap.size = B4 at *
  generalize v5'.alloc (.cells [.int .i64 s4, .bool v4, .int .i64 k4, .int .i64 z4, .int .i64 u4, .int .i64 t4, .slice ca4 cn4 cc4, .slice ga4 gn4 gc4].toArray 27) = w5 at *
  have J1 := hide (fun w' h1 h2 => SN_true ⟨s1, v1, ⟨k1, z1, u1, t1, d1⟩, ca1, cn1, cc1, ga1, gn1, gc1, G1⟩ ⟨s3, v3, ⟨k3, z3, u3, t3, d3⟩, ca3, cn3, cc3, ga3, gn3, gc3, G3⟩ (P1.out.trans P3.out.symm) w' h1 h2)
  have J2 := hide (fun w' h1 h2 => SN_true ⟨s2, v2, ⟨k2, z2, u2, t2, d2⟩, ca2, cn2, cc2, ga2, gn2, gc2, G2⟩ ⟨s4, v4, ⟨k4, z4, u4, t4, d4⟩, ca4, cn4, cc4, ga4, gn4, gc4, G4⟩ (P2.out.trans P4.out.symm) w' h1 h2)
  clear P1 P2 P3 P4
  dsimp only [NV.v] at J1 J2
  have c0 := l0.cell 0 _ rfl
  have c1 := l0.cell 1 _ rfl
  have c2 := l0.cell 2 _ rfl
  have c3 := l0.cell 3 _ rfl
  have c4 := l0.cell 4 _ rfl
  have c5 := l0.cell 5 _ rfl
  have c6 := l0.cell 6 _ rfl
  have c7 := l0.cell 7 _ rfl
  have c8 := l5.cell 0 _ rfl
  have c9 := l5.cell 1 _ rfl
  have c10 := l5.cell 2 _ rfl
  have c11 := l5.cell 3 _ rfl
  have c12 := l5.cell 4 _ rfl
  have c13 := l5.cell 5 _ rfl
  have c14 := l5.cell 6 _ rfl
  have c15 := l5.cell 7 _ rfl
  have c16 := l1.cell 0 _ rfl
  have c17 := l1.cell 1 _ rfl
  have c18 := l1.cell 2 _ rfl
  have c19 := l1.cell 3 _ rfl
  have c20 := l1.cell 4 _ rfl
  have c21 := l1.cell 5 _ rfl
  have c22 := l1.cell 6 _ rfl
  have c23 := l1.cell 7 _ rfl
  have c24 := l2.cell 0 _ rfl
  have c25 := l2.cell 1 _ rfl
  have c26 := l2.cell 2 _ rfl
  have c27 := l2.cell 3 _ rfl
  have c28 := l2.cell 4 _ rfl
  have c29 := l2.cell 5 _ rfl
  have c30 := l2.cell 6 _ rfl
  have c31 := l2.cell 7 _ rfl
  have c32 := l3.cell 0 _ rfl
  have c33 := l3.cell 1 _ rfl
  have c34 := l3.cell 2 _ rfl
  have c35 := l3.cell 3 _ rfl
  have c36 := l3.cell 4 _ rfl
  have c37 := l3.cell 5 _ rfl
  have c38 := l3.cell 6 _ rfl
  have c39 := l3.cell 7 _ rfl
  have c40 := l4.cell 0 _ rfl
  have c41 := l4.cell 1 _ rfl
  have c42 := l4.cell 2 _ rfl
  have c43 := l4.cell 3 _ rfl
  have c44 := l4.cell 4 _ rfl
  have c45 := l4.cell 5 _ rfl
  have c46 := l4.cell 6 _ rfl
  have c47 := l4.cell 7 _ rfl
  go_region_held3 (fun w' => w'.cell? ⟨w.heap.size, 0, none⟩ = some (.int .i64 s0) ∧ w'.cell? ⟨w.heap.size, 1, none⟩ = some (.bool v0) ∧ w'.cell? ⟨w.heap.size, 2, none⟩ = some (.int .i64 k0) ∧ w'.cell? ⟨w.heap.size, 3, none⟩ = some (.int .i64 z0) ∧ w'.cell? ⟨w.heap.size, 4, none⟩ = some (.int .i64 u0) ∧ w'.cell? ⟨w.heap.size, 5, none⟩ = some (.int .i64 t0) ∧ w'.cell? ⟨w.heap.size, 6, none⟩ = some (.slice ca0 cn0 cc0) ∧ w'.cell? ⟨w.heap.size, 7, none⟩ = some (.slice ga0 gn0 gc0) ∧ w'.cell? ⟨w.heap.size + 1 + 1 + 1, 0, none⟩ = some (.int .i64 s5) ∧ w'.cell? ⟨w.heap.size + 1 + 1 + 1, 1, none⟩ = some (.bool v5) ∧ w'.cell? ⟨w.heap.size + 1 + 1 + 1, 2, none⟩ = some (.int .i64 k5) ∧ w'.cell? ⟨w.heap.size + 1 + 1 + 1, 3, none⟩ = some (.int .i64 z5) ∧ w'.cell? ⟨w.heap.size + 1 + 1 + 1, 4, none⟩ = some (.int .i64 u5) ∧ w'.cell? ⟨w.heap.size + 1 + 1 + 1, 5, none⟩ = some (.int .i64 t5) ∧ w'.cell? ⟨w.heap.size + 1 + 1 + 1, 6, none⟩ = some (.slice ca5 cn5 cc5) ∧ w'.cell? ⟨w.heap.size + 1 + 1 + 1, 7, none⟩ = some (.slice ga5 gn5 gc5) ∧ w'.cell? ⟨B1, 0, none⟩ = some (.int .i64 s1) ∧ w'.cell? ⟨B1, 1, none⟩ = some (.bool v1) ∧ w'.cell? ⟨B1, 2, none⟩ = some (.int .i64 k1) ∧ w'.cell? ⟨B1, 3, none⟩ = some (.int .i64 z1) ∧ w'.cell? ⟨B1, 4, none⟩ = some (.int .i64 u1) ∧ w'.cell? ⟨B1, 5, none⟩ = some (.int .i64 t1) ∧ w'.cell? ⟨B1, 6, none⟩ = some (.slice ca1 cn1 cc1) ∧ w'.cell? ⟨B1, 7, none⟩ = some (.slice ga1 gn1 gc1) ∧ w'.cell? ⟨B2, 0, none⟩ = some (.int .i64 s2) ∧ w'.cell? ⟨B2, 1, none⟩ = some (.bool v2) ∧ w'.cell? ⟨B2, 2, none⟩ = some (.int .i64 k2) ∧ w'.cell? ⟨B2, 3, none⟩ = some (.int .i64 z2) ∧ w'.cell? ⟨B2, 4, none⟩ = some (.int .i64 u2) ∧ w'.cell? ⟨B2, 5, none⟩ = some (.int .i64 t2) ∧ w'.cell? ⟨B2, 6, none⟩ = some (.slice ca2 cn2 cc2) ∧ w'.cell? ⟨B2, 7, none⟩ = some (.slice ga2 gn2 gc2) ∧ w'.cell? ⟨B3, 0, none⟩ = some (.int .i64 s3) ∧ w'.cell? ⟨B3, 1, none⟩ = some (.bool v3) ∧ w'.cell? ⟨B3, 2, none⟩ = some (.int .i64 k3) ∧ w'.cell? ⟨B3, 3, none⟩ = some (.int .i64 z3) ∧ w'.cell? ⟨B3, 4, none⟩ = some (.int .i64 u3) ∧ w'.cell? ⟨B3, 5, none⟩ = some (.int .i64 t3) ∧ w'.cell? ⟨B3, 6, none⟩ = some (.slice ca3 cn3 cc3) ∧ w'.cell? ⟨B3, 7, none⟩ = some (.slice ga3 gn3 gc3) ∧ w'.cell? ⟨B4, 0, none⟩ = some (.int .i64 s4) ∧ w'.cell? ⟨B4, 1, none⟩ = some (.bool v4) ∧ w'.cell? ⟨B4, 2, none⟩ = some (.int .i64 k4) ∧ w'.cell? ⟨B4, 3, none⟩ = some (.int .i64 z4) ∧ w'.cell? ⟨B4, 4, none⟩ = some (.int .i64 u4) ∧ w'.cell? ⟨B4, 5, none⟩ = some (.int .i64 t4) ∧ w'.cell? ⟨B4, 6, none⟩ = some (.slice ca4 cn4 cc4) ∧ w'.cell? ⟨B4, 7, none⟩ = some (.slice ga4 gn4 gc4)) ((first | (go_simp; done) | (simp [*, World.cell?_alloc_at, World.cell?_alloc_past, World.cell?_alloc_some, World.cell?_setCell_far]; done)))
    (first | ((first
      | (go_at_call 10; refine (Y5.out _ (by refine hSw.below ?_; clear bw; (repeat first | exact bel0 | assumption | refine bel1 ?_ | refine bel2 ?_ | refine bel3 ?_ | refine belowT ?_ (by assumption) | refine bel5 ?_ (by simp; try omega)))).mono ?_)
      | (go_at_call 11; refine (Y6.out _ (by refine hSw.below ?_; clear bw; (repeat first | exact bel0 | assumption | refine bel1 ?_ | refine bel2 ?_ | refine bel3 ?_ | refine belowT ?_ (by assumption) | refine bel5 ?_ (by simp; try omega))) (by refine NV.ok.below ok0 (B := w5.heap.size) ?_ (Nat.le_refl _); clear bw; (repeat first | exact bel0 | assumption | refine bel1 ?_ | refine bel2 ?_ | refine bel3 ?_ | refine belowT ?_ (by assumption) | refine bel5 ?_ (by simp; try omega)))).mono ?_)
      | (go_at_call 12; refine (Y7.out _ (by refine NV.ok.below ok0 (B := w5.heap.size) ?_ (Nat.le_refl _); clear bw; (repeat first | exact bel0 | assumption | refine bel1 ?_ | refine bel2 ?_ | refine bel3 ?_ | refine belowT ?_ (by assumption) | refine bel5 ?_ (by simp; try omega)))).mono ?_)
      | (go_at_call 13; refine (Y8.out _ (by refine NV.ok.below ok0 (B := w5.heap.size) ?_ (Nat.le_refl _); clear bw; (repeat first | exact bel0 | assumption | refine bel1 ?_ | refine bel2 ?_ | refine bel3 ?_ | refine belowT ?_ (by assumption) | refine bel5 ?_ (by simp; try omega))) (by refine NV.ok.below ok5 (B := w5.heap.size) ?_ (Nat.le_refl _); clear bw; (repeat first | exact bel0 | assumption | refine bel1 ?_ | refine bel2 ?_ | refine bel3 ?_ | refine belowT ?_ (by assumption) | refine bel5 ?_ (by simp; try omega)))).mono ?_)
      | (go_at_call_of 14 (Value.slice ga5 gn5 gc5); refine (Y9.out _ (by refine NV.ok.below ok0 (B := w5.heap.size) ?_ (Nat.le_refl _); clear bw; (repeat first | exact bel0 | assumption | refine bel1 ?_ | refine bel2 ?_ | refine bel3 ?_ | refine belowT ?_ (by assumption) | refine bel5 ?_ (by simp; try omega))) (by refine NV.ok.below ok5 (B := w5.heap.size) ?_ (Nat.le_refl _); clear bw; (repeat first | exact bel0 | assumption | refine bel1 ?_ | refine bel2 ?_ | refine bel3 ?_ | refine belowT ?_ (by assumption) | refine bel5 ?_ (by simp; try omega)))).mono ?_)
      | (go_at_call_of 14 (Value.slice ga3 gn3 gc3); refine (J1.out _ (by refine NV.ok.below ok1 (B := w5.heap.size) ?_ (Nat.le_refl _); clear bw; (repeat first | exact bel0 | assumption | refine bel1 ?_ | refine bel2 ?_ | refine bel3 ?_ | refine belowT ?_ (by assumption) | refine bel5 ?_ (by simp; try omega))) (by refine NV.ok.below ok3 (B := w5.heap.size) ?_ (Nat.le_refl _); clear bw; (repeat first | exact bel0 | assumption | refine bel1 ?_ | refine bel2 ?_ | refine bel3 ?_ | refine belowT ?_ (by assumption) | refine bel5 ?_ (by simp; try omega)))).mono ?_)
      | (go_at_call_of 14 (Value.slice ga4 gn4 gc4); refine (J2.out _ (by refine NV.ok.below ok2 (B := w5.heap.size) ?_ (Nat.le_refl _); clear bw; (repeat first | exact bel0 | assumption | refine bel1 ?_ | refine bel2 ?_ | refine bel3 ?_ | refine belowT ?_ (by assumption) | refine bel5 ?_ (by simp; try omega))) (by refine NV.ok.below ok4 (B := w5.heap.size) ?_ (Nat.le_refl _); clear bw; (repeat first | exact bel0 | assumption | refine bel1 ?_ | refine bel2 ?_ | refine bel3 ?_ | refine belowT ?_ (by assumption) | refine bel5 ?_ (by simp; try omega)))).mono ?_)); rintro e w9 ⟨rfl, hb9⟩; (have b9 : Below w5.heap.size w5 w9 := by clear bw; (repeat first | exact bel0 | assumption | refine bel1 ?_ | refine bel2 ?_ | refine bel3 ?_ | refine belowT ?_ (by assumption) | refine bel5 ?_ (by simp; try omega))); (clear c0 c1 c2 c3 c4 c5 c6 c7 c8 c9 c10 c11 c12 c13 c14 c15 c16 c17 c18 c19 c20 c21 c22 c23 c24 c25 c26 c27 c28 c29 c30 c31 c32 c33 c34 c35 c36 c37 c38 c39 c40 c41 c42 c43 c44 c45 c46 c47); (obtain ⟨c0, c1, c2, c3, c4, c5, c6, c7⟩ := (l0.below b9).eight); (obtain ⟨c8, c9, c10, c11, c12, c13, c14, c15⟩ := (l5.below b9).eight); (obtain ⟨c16, c17, c18, c19, c20, c21, c22, c23⟩ := (l1.below b9).eight); (obtain ⟨c24, c25, c26, c27, c28, c29, c30, c31⟩ := (l2.below b9).eight); (obtain ⟨c32, c33, c34, c35, c36, c37, c38, c39⟩ := (l3.below b9).eight); (obtain ⟨c40, c41, c42, c43, c44, c45, c46, c47⟩ := (l4.below b9).eight)))
  all_goals
    go_wp2
    go_ret
    exact ⟨rfl, belowT bw b9⟩

end Go.Proofs.YtklabieacbbbfaaDoor
