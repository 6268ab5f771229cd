/- The contract of desk.Do in plain words, and the law's closed fact on desks; no condition but that the package's table is as its text lays it. -/
import Derived.Test.YtkamnbigfdbgbaaDoorDeskMayG19
import Derived.Test.YtkamnbigfdbgbaaDoorDeskMayG6
namespace Go.Proofs.YtkamnbigfdbgbaaDoor
open Go.RowKit
set_option linter.unusedVariables false
set_option maxRecDepth 100000
set_option linter.unusedSimpArgs false

theorem Do_k (za : Option Addr) (zn zc : Nat) (Z : List ZV) (ka : Option Addr) (kn kc : Nat) (bk : List Int) (bh bt : Int) (who : Int) (ca : Option Addr) (cn cc : Nat) (k z n t : Int) (d : List Int) (w : World) (hS : Shapes w)
    (hz : Zones w za zn zc Z) (hk : Ints w ka kn kc bk) (hx : Ints w ca cn cc d) (r : PD × PA × Int) (hr : doD ⟨Z.map ZV.p, ⟨bk, bh, bt⟩⟩ who ⟨k, z, n, t, d⟩ = r) :
    Calls Tryd.prog 6 #[.agg #[.slice za zn zc, .slice ka kn kc, .int .i64 bh, .int .i64 bt], .int .i64 who, .agg #[.int .i64 k, .int .i64 z, .int .i64 n, .int .i64 t, .slice ca cn cc]] w fun e w' =>
      (∃ za' zn' zc' Z' ka' kn' kc' ea en ec, e = .returned (.tuple #[.agg #[.slice za' zn' zc', .slice ka' kn' kc', .int .i64 r.1.b.h, .int .i64 r.1.b.t], .agg #[.int .i64 r.2.1.e, .int .i64 r.2.1.t, .slice ea en ec], .int .i64 r.2.2]) ∧ Zones w' za' zn' zc' Z' ∧ Z'.map ZV.p = r.1.P ∧ Ints w' ka' kn' kc' r.1.b.k ∧ Ints w' ea en ec r.2.1.d ∧ DV.new w.heap.size ⟨za', zn', zc', Z', ka', kn', kc', r.1.b⟩ ∧ AV.new w.heap.size ⟨r.2.1.e, r.2.1.t, ea, en, ec, r.2.1.d⟩) ∧ Below w.heap.size w w' := by
  refine (Do_c ⟨za, zn, zc, Z, ka, kn, kc, bk, bh, bt⟩ who ca cn cc ⟨k, z, n, t, d⟩ w hS ⟨hz, hk⟩ hx).mono ?_
  rintro e w' ⟨⟨⟨za', zn', zc', Z', ka', kn', kc', b'⟩, ⟨ee, et, ea, en, ec, ed⟩, rfl, h1, h2, h3, h4, hp, hq⟩, hb⟩
  rw [show (⟨za, zn, zc, Z, ka, kn, kc, bk, bh, bt⟩ : DV).p = ⟨Z.map ZV.p, ⟨bk, bh, bt⟩⟩ from rfl, hr] at hp hq ⊢
  obtain ⟨⟨P, rb⟩, ⟨re, rt, rd⟩, rx⟩ := r
  simp only [DV.p, AV.p, PD.mk.injEq, PA.mk.injEq] at hp hq
  obtain ⟨hp1, rfl⟩ := hp
  obtain ⟨rfl, rfl, rfl⟩ := hq
  exact ⟨⟨za', zn', zc', Z', ka', kn', kc', ea, en, ec, rfl, h1.z, hp1, h1.k, h2, h3, h4⟩, hb⟩

theorem srv1 : doD freshD 0 ⟨5, 1, 0, 0, [5, 6]⟩ = (⟨[(0, []), (1, [5, 6]), (0, []), (0, [])], freshB⟩, ⟨0, 0, []⟩, 0) := by rfl
theorem srv2 : doD ⟨[(0, []), (1, [5, 6]), (0, []), (0, [])], freshB⟩ 1 ⟨5, 1, 0, 0, [7]⟩ = (⟨[(0, []), (1, [5, 6, 7]), (0, []), (0, [])], freshB⟩, ⟨0, 2, []⟩, 0) := by rfl
theorem srv3 : doD ⟨[(0, []), (1, [5, 6, 7]), (0, []), (0, [])], freshB⟩ 2 ⟨7, 1, 2, 1, []⟩ = (⟨[(0, []), (1, [5, 6, 7]), (0, []), (0, [])], freshB⟩, ⟨0, 0, [6, 7]⟩, 0) := by rfl
theorem srv4 : doD ⟨[(0, []), (1, [5, 6, 7]), (0, []), (0, [])], freshB⟩ 2 ⟨6, 1, 0, 2, [1]⟩ = (⟨[(0, []), (1, [5, 6, 7]), (0, []), (0, [])], freshB⟩, ⟨6, 0, []⟩, 0) := by rfl
theorem srv5 : doD ⟨[(0, []), (1, [5, 6, 7]), (0, []), (0, [])], freshB⟩ 2 ⟨9, 0, 1, 0, []⟩ = (⟨[(0, []), (1, [5, 6, 7]), (0, []), (0, [])], freshB⟩, ⟨8, 0, []⟩, 0) := by rfl

set_option maxHeartbeats 8000000 in
theorem served_c (w : World) (hS : Shapes w) : Calls Tryd.prog 7 #[] w fun e w' => e = .returned (.bool true) ∧ Below w.heap.size w w' := by
  go_enter Tryd.func7, Tryd.ntmps7
  go_wp2_with fail
  refine (DNew_c _).mono ?_
  rintro e w1 ⟨⟨⟨a0, n0, c0, Z0, k0, m0, l0, b0⟩, rfl, h0, _, p0⟩, hb1⟩
  simp only [DV.p, freshD, PD.mk.injEq] at p0
  obtain ⟨p0, rfl⟩ := p0
  have H1 := hide (fun ca w' hS' hz hk hx => Do_k a0 n0 c0 Z0 k0 m0 l0 [0, 0, 0] (-1) 0 0 ca 2 2 5 1 0 0 [5, 6] w' hS' hz hk hx (⟨[(0, []), (1, [5, 6]), (0, []), (0, [])], ⟨[0, 0, 0], -1, 0⟩⟩, ⟨0, 0, []⟩, 0) (by rw [p0]; exact srv1))
  dsimp only [freshB, DV.v] at *
  obtain ⟨hz0, hk0⟩ := h0
  clear p0
  go_wp2_with fail
  refine (H1.out _ _ (hS.below (by (repeat first | exact bel0 | assumption | refine bel1 ?_ | refine bel2 ?_ | refine bel3 ?_ | refine belowT ?_ (by assumption) | refine bel5 ?_ (by simp; try omega)))) (hz0.below (B := w1.heap.size) (by (repeat first | exact bel0 | assumption | refine bel1 ?_ | refine bel2 ?_ | refine bel3 ?_ | refine belowT ?_ (by assumption) | refine bel5 ?_ (by simp; try omega))) (Nat.le_refl _)) (hk0.below (B := w1.heap.size) (by (repeat first | exact bel0 | assumption | refine bel1 ?_ | refine bel2 ?_ | refine bel3 ?_ | refine belowT ?_ (by assumption) | refine bel5 ?_ (by simp; try omega))) (Nat.le_refl _)) (Ints.of_row (l := [5, 6]) (heap_new w1 _) (by decide) (by decide) rfl)).mono ?_
  rintro e w2 ⟨⟨a1, n1, c1, Z1, k1, m1, l1, ea1, en1, ec1, rfl, hz1, p1, hk1, hd1, _, _⟩, hb2⟩
  have bw : Below w.heap.size w w2 := by (repeat first | exact bel0 | assumption | refine bel1 ?_ | refine bel2 ?_ | refine bel3 ?_ | refine belowT ?_ (by assumption) | refine bel5 ?_ (by simp; try omega))
  clear hb1 hb2 hz0 hk0 hd1 H1
  dsimp only [freshB] at *
  have H2 := hide (fun ca w' hS' hz hk hx => Do_k a1 n1 c1 Z1 k1 m1 l1 [0, 0, 0] (-1) 0 1 ca 1 1 5 1 0 0 [7] w' hS' hz hk hx (⟨[(0, []), (1, [5, 6, 7]), (0, []), (0, [])], ⟨[0, 0, 0], -1, 0⟩⟩, ⟨0, 2, []⟩, 0) (by rw [p1]; exact srv2))
  clear p1
  go_upto_region 2 with fail
  obtain ⟨xD, xA, bn⟩ := two_boxes w2 [.slice a1 n1 c1, .slice k1 m1 l1, .int .i64 (-1), .int .i64 0] [.int .i64 0, .int .i64 0, .slice ea1 en1 ec1] 27 33
  replace hz1 := hz1.below bn (Nat.le_refl _)
  replace hk1 := hk1.below bn (Nat.le_refl _)
  have bw0 := bw
  replace bw := belowT bw bn
  clear bn
  have HwB := hide (show w.heap.size ≤ w2.heap.size from bw0.size)
  clear bw0
  generalize hB : w2.heap.size = B at *
  generalize (w2.alloc (.cells [.slice a1 n1 c1, .slice k1 m1 l1, .int .i64 (-1), .int .i64 0].toArray 27)).alloc (.cells [.int .i64 0, .int .i64 0, .slice ea1 en1 ec1].toArray 33) = w3 at *
  have d0 := xD.cell 0 _ rfl
  have d1 := xD.cell 1 _ rfl
  have d2 := xD.cell 2 _ rfl
  have d3 := xD.cell 3 _ rfl
  go_wp2_with fail
  refine (H2.out _ _ (hS.below (by (repeat first | exact bel0 | assumption | refine bel1 ?_ | refine bel2 ?_ | refine bel3 ?_ | refine belowT ?_ (by assumption) | refine bel5 ?_ (by simp; try omega)))) (hz1.below (B := w3.heap.size) (by (repeat first | exact bel0 | assumption | refine bel1 ?_ | refine bel2 ?_ | refine bel3 ?_ | refine belowT ?_ (by assumption) | refine bel5 ?_ (by simp; try omega))) (Nat.le_refl _)) (hk1.below (B := w3.heap.size) (by (repeat first | exact bel0 | assumption | refine bel1 ?_ | refine bel2 ?_ | refine bel3 ?_ | refine belowT ?_ (by assumption) | refine bel5 ?_ (by simp; try omega))) (Nat.le_refl _)) (Ints.of_row (l := [7]) (heap_new w3 _) (by decide) (by decide) rfl)).mono ?_
  rintro e w4 ⟨⟨a2, n2, c2, Z2, k2, m2, l2, ea2, en2, ec2, rfl, hz2, p2, hk2, hd2, hn2, _⟩, hb4⟩
  dsimp only at *
  have hlt := xD.lt
  have hoB := hn2 B (by simp; omega)
  have b34 : Below w3.heap.size w3 w4 := by (repeat first | exact bel0 | assumption | refine bel1 ?_ | refine bel2 ?_ | refine bel3 ?_ | refine belowT ?_ (by assumption) | refine bel5 ?_ (by simp; try omega))
  replace xD := xD.below b34
  replace xA := xA.below b34
  replace bw := belowT bw b34
  clear hb4 b34 hz1 hk1 d0 d1 d2 d3 hn2 hd2 H2
  have d0 := xD.cell 0 _ rfl
  have d1 := xD.cell 1 _ rfl
  have d2 := xD.cell 2 _ rfl
  have d3 := xD.cell 3 _ rfl
  have f0 := xD.ice 0
  have f1 := xD.ice 1
  have f2 := xD.ice 2
  have f3 := xD.ice 3
  have hl4 := xD.lt
  have hB4 : B ≠ w4.heap.size := by omega
  go_upto_region 3 with fail
  have o2 : DV.ok w4 ⟨a2, n2, c2, Z2, k2, m2, l2, [0, 0, 0], -1, 0⟩ := ⟨hz2, hk2⟩
  have zD := (((xD.set 0 (.slice a2 n2 c2)).set 1 (.slice k2 m2 l2)).set 2 (.int .i64 (-1))).set 3 (.int .i64 0)
  have hbB := ((((But.refl B w4).step 0 (.slice a2 n2 c2)).step 1 (.slice k2 m2 l2)).step 2 (.int .i64 (-1))).step 3 (.int .i64 0)
  have zA := (((xA.far ⟨B, 0, none⟩ (.slice a2 n2 c2) (by simp)).far ⟨B, 1, none⟩ (.slice k2 m2 l2) (by simp)).far ⟨B, 2, none⟩ (.int .i64 (-1)) (by simp)).far ⟨B, 3, none⟩ (.int .i64 0) (by simp)
  replace o2 := o2.but hbB hoB
  have hwB : w.heap.size ≤ B := HwB.out
  replace bw := bw.trans (hbB.low.mono hwB)
  clear xD xA hbB d0 d1 d2 d3 f0 f1 f2 f3 hz2 hk2
  have hs5 : ((((w4.setCell ⟨B, 0, none⟩ (.slice a2 n2 c2)).setCell ⟨B, 1, none⟩ (.slice k2 m2 l2)).setCell ⟨B, 2, none⟩ (.int .i64 (-1))).setCell ⟨B, 3, none⟩ (.int .i64 0)).heap.size = w4.heap.size := by simp [World.setCell]
  generalize (((w4.setCell ⟨B, 0, none⟩ (.slice a2 n2 c2)).setCell ⟨B, 1, none⟩ (.slice k2 m2 l2)).setCell ⟨B, 2, none⟩ (.int .i64 (-1))).setCell ⟨B, 3, none⟩ (.int .i64 0) = w5 at *
  have zB := Lay.made w5 [.int .i64 0, .int .i64 2, .slice ea2 en2 ec2] 33
  have bn := belowA (Below.refl _ w5) (.cells [.int .i64 0, .int .i64 2, .slice ea2 en2 ec2].toArray 33)
  replace zD := zD.below bn
  replace zA := zA.below bn
  replace o2 := o2.below bn (Nat.le_refl _)
  replace bw := belowT bw bn
  rw [hs5] at zB
  clear hs5 hB4
  generalize w4.heap.size = B4 at *
  generalize w5.alloc (.cells [.int .i64 0, .int .i64 2, .slice ea2 en2 ec2].toArray 33) = w6 at *
  clear bn
  have P2 := hide p2
  clear p2
  have H7 := hide (fun ca w' hS' hz hk hx => Do_k a2 n2 c2 Z2 k2 m2 l2 [0, 0, 0] (-1) 0 2 ca 0 0 7 1 2 1 [] w' hS' hz hk hx (⟨[(0, []), (1, [5, 6, 7]), (0, []), (0, [])], ⟨[0, 0, 0], -1, 0⟩⟩, ⟨0, 0, [6, 7]⟩, 0) (by rw [P2.out]; exact srv3))
  have d0 := zD.cell 0 _ rfl
  have d1 := zD.cell 1 _ rfl
  have d2 := zD.cell 2 _ rfl
  have d3 := zD.cell 3 _ rfl
  go_wp2_with fail
  refine (H7.out _ _ (hS.below (by (repeat first | exact bel0 | assumption | refine bel1 ?_ | refine bel2 ?_ | refine bel3 ?_ | refine belowT ?_ (by assumption) | refine bel5 ?_ (by simp; try omega)))) (o2.z.below (B := w6.heap.size) (by (repeat first | exact bel0 | assumption | refine bel1 ?_ | refine bel2 ?_ | refine bel3 ?_ | refine belowT ?_ (by assumption) | refine bel5 ?_ (by simp; try omega))) (Nat.le_refl _)) (o2.k.below (B := w6.heap.size) (by (repeat first | exact bel0 | assumption | refine bel1 ?_ | refine bel2 ?_ | refine bel3 ?_ | refine belowT ?_ (by assumption) | refine bel5 ?_ (by simp; try omega))) (Nat.le_refl _)) (Ints.nilSlice _)).mono ?_
  rintro e v7 ⟨⟨a7, n7, c7, Z7, k7, m7, l7, ea7, en7, ec7, rfl, _, _, _, hd7, _, _⟩, hb⟩
  dsimp only at *
  have bv : Below w6.heap.size w6 v7 := by (repeat first | exact bel0 | assumption | refine bel1 ?_ | refine bel2 ?_ | refine bel3 ?_ | refine belowT ?_ (by assumption) | refine bel5 ?_ (by simp; try omega))
  replace zD := zD.below bv
  replace zA := zA.below bv
  replace zB := zB.below bv
  replace o2 := o2.below bv (Nat.le_refl _)
  replace bw := belowT bw bv
  clear hb bv d0 d1 d2 d3 H7
  go_upto_region 4 with fail
  obtain ⟨_, z7, bn⟩ := two_boxes v7 [.slice a7 n7 c7, .slice k7 m7 l7, .int .i64 (-1), .int .i64 0] [.int .i64 0, .int .i64 0, .slice ea7 en7 ec7] 27 33
  replace zD := zD.below bn
  replace zA := zA.below bn
  replace zB := zB.below bn
  replace hd7 := hd7.below bn (Nat.le_refl _)
  replace o2 := o2.below bn (Nat.le_refl _)
  replace bw := belowT bw bn
  clear bn
  generalize v7.heap.size = B7 at *
  generalize (v7.alloc (.cells [.slice a7 n7 c7, .slice k7 m7 l7, .int .i64 (-1), .int .i64 0].toArray 27)).alloc (.cells [.int .i64 0, .int .i64 0, .slice ea7 en7 ec7].toArray 33) = w7 at *
  have H8 := hide (fun ca w' hS' hz hk hx => Do_k a2 n2 c2 Z2 k2 m2 l2 [0, 0, 0] (-1) 0 2 ca 1 1 6 1 0 2 [1] w' hS' hz hk hx (⟨[(0, []), (1, [5, 6, 7]), (0, []), (0, [])], ⟨[0, 0, 0], -1, 0⟩⟩, ⟨6, 0, []⟩, 0) (by rw [P2.out]; exact srv4))
  have d0 := zD.cell 0 _ rfl
  have d1 := zD.cell 1 _ rfl
  have d2 := zD.cell 2 _ rfl
  have d3 := zD.cell 3 _ rfl
  go_wp2_with fail
  refine (H8.out _ _ (hS.below (by (repeat first | exact bel0 | assumption | refine bel1 ?_ | refine bel2 ?_ | refine bel3 ?_ | refine belowT ?_ (by assumption) | refine bel5 ?_ (by simp; try omega)))) (o2.z.below (B := w7.heap.size) (by (repeat first | exact bel0 | assumption | refine bel1 ?_ | refine bel2 ?_ | refine bel3 ?_ | refine belowT ?_ (by assumption) | refine bel5 ?_ (by simp; try omega))) (Nat.le_refl _)) (o2.k.below (B := w7.heap.size) (by (repeat first | exact bel0 | assumption | refine bel1 ?_ | refine bel2 ?_ | refine bel3 ?_ | refine belowT ?_ (by assumption) | refine bel5 ?_ (by simp; try omega))) (Nat.le_refl _)) (Ints.of_row (l := [1]) (heap_new w7 _) (by decide) (by decide) rfl)).mono ?_
  rintro e v8 ⟨⟨a8, n8, c8, Z8, k8, m8, l8, ea8, en8, ec8, rfl, _, _, _, hd8, _, _⟩, hb⟩
  dsimp only at *
  have bv : Below w7.heap.size w7 v8 := by (repeat first | exact bel0 | assumption | refine bel1 ?_ | refine bel2 ?_ | refine bel3 ?_ | refine belowT ?_ (by assumption) | refine bel5 ?_ (by simp; try omega))
  replace zD := zD.below bv
  replace zA := zA.below bv
  replace zB := zB.below bv
  replace z7 := z7.below bv
  replace hd7 := hd7.below bv (Nat.le_refl _)
  replace o2 := o2.below bv (Nat.le_refl _)
  replace bw := belowT bw bv
  clear hb bv d0 d1 d2 d3 H8
  go_upto_region 5 with fail
  obtain ⟨_, z8, bn⟩ := two_boxes v8 [.slice a8 n8 c8, .slice k8 m8 l8, .int .i64 (-1), .int .i64 0] [.int .i64 6, .int .i64 0, .slice ea8 en8 ec8] 27 33
  replace zD := zD.below bn
  replace zA := zA.below bn
  replace zB := zB.below bn
  replace z7 := z7.below bn
  replace hd7 := hd7.below bn (Nat.le_refl _)
  replace hd8 := hd8.below bn (Nat.le_refl _)
  replace o2 := o2.below bn (Nat.le_refl _)
  replace bw := belowT bw bn
  clear bn
  generalize v8.heap.size = B8 at *
  generalize (v8.alloc (.cells [.slice a8 n8 c8, .slice k8 m8 l8, .int .i64 (-1), .int .i64 0].toArray 27)).alloc (.cells [.int .i64 6, .int .i64 0, .slice ea8 en8 ec8].toArray 33) = w8 at *
  have H9 := hide (fun ca w' hS' hz hk hx => Do_k a2 n2 c2 Z2 k2 m2 l2 [0, 0, 0] (-1) 0 2 ca 0 0 9 0 1 0 [] w' hS' hz hk hx (⟨[(0, []), (1, [5, 6, 7]), (0, []), (0, [])], ⟨[0, 0, 0], -1, 0⟩⟩, ⟨8, 0, []⟩, 0) (by rw [P2.out]; exact srv5))
  have d0 := zD.cell 0 _ rfl
  have d1 := zD.cell 1 _ rfl
  have d2 := zD.cell 2 _ rfl
  have d3 := zD.cell 3 _ rfl
  go_wp2_with fail
  refine (H9.out _ _ (hS.below (by (repeat first | exact bel0 | assumption | refine bel1 ?_ | refine bel2 ?_ | refine bel3 ?_ | refine belowT ?_ (by assumption) | refine bel5 ?_ (by simp; try omega)))) (o2.z.below (B := w8.heap.size) (by (repeat first | exact bel0 | assumption | refine bel1 ?_ | refine bel2 ?_ | refine bel3 ?_ | refine belowT ?_ (by assumption) | refine bel5 ?_ (by simp; try omega))) (Nat.le_refl _)) (o2.k.below (B := w8.heap.size) (by (repeat first | exact bel0 | assumption | refine bel1 ?_ | refine bel2 ?_ | refine bel3 ?_ | refine belowT ?_ (by assumption) | refine bel5 ?_ (by simp; try omega))) (Nat.le_refl _)) (Ints.nilSlice _)).mono ?_
  rintro e v9 ⟨⟨a9, n9, c9, Z9, k9, m9, l9, ea9, en9, ec9, rfl, _, _, _, hd9, _, _⟩, hb⟩
  dsimp only at *
  have bv : Below w8.heap.size w8 v9 := by (repeat first | exact bel0 | assumption | refine bel1 ?_ | refine bel2 ?_ | refine bel3 ?_ | refine belowT ?_ (by assumption) | refine bel5 ?_ (by simp; try omega))
  replace zD := zD.below bv
  replace zA := zA.below bv
  replace zB := zB.below bv
  replace z7 := z7.below bv
  replace z8 := z8.below bv
  replace hd7 := hd7.below bv (Nat.le_refl _)
  replace o2 := o2.below bv (Nat.le_refl _)
  replace bw := belowT bw bv
  clear hb bv d0 d1 d2 d3 H9
  go_upto_region 6 with fail
  obtain ⟨_, z9, bn⟩ := two_boxes v9 [.slice a9 n9 c9, .slice k9 m9 l9, .int .i64 (-1), .int .i64 0] [.int .i64 8, .int .i64 0, .slice ea9 en9 ec9] 27 33
  replace zD := zD.below bn
  replace zA := zA.below bn
  replace zB := zB.below bn
  replace z7 := z7.below bn
  replace z8 := z8.below bn
  replace hd7 := hd7.below bn (Nat.le_refl _)
  replace hd9 := hd9.below bn (Nat.le_refl _)
  replace o2 := o2.below bn (Nat.le_refl _)
  replace bw := belowT bw bn
  clear bn
  generalize v9.heap.size = B9 at *
  generalize (v9.alloc (.cells [.slice a9 n9 c9, .slice k9 m9 l9, .int .i64 (-1), .int .i64 0].toArray 27)).alloc (.cells [.int .i64 8, .int .i64 0, .slice ea9 en9 ec9].toArray 33) = w9 at *
  have d0 := zD.cell 0 _ rfl
  have d1 := zD.cell 1 _ rfl
  have d2 := zD.cell 2 _ rfl
  have d3 := zD.cell 3 _ rfl
  have g1 := zA.cell 1 _ rfl
  have g2 := zB.cell 1 _ rfl
  have y0 := z7.cell 0 _ rfl
  have y1 := z7.cell 1 _ rfl
  have y2 := z7.cell 2 _ rfl
  have g8 := z8.cell 0 _ rfl
  have g9 := z9.cell 0 _ rfl
  have q0 := past1 d0
  have q1 := past1 d1
  have q2 := past1 d2
  have q3 := past1 d3
  have q4 := past1 y0
  have q5 := past1 y1
  have q6 := past1 y2
  have q7 := past1 g8
  have q8 := past1 g9
  have C7 := hide (fun w' h' => DCheck_c ⟨a2, n2, c2, Z2, k2, m2, l2, [0, 0, 0], -1, 0⟩ w' h')
  have C8 := hide (fun w' h' => DCheckAnswer_c ⟨0, 0, ea7, en7, ec7, [6, 7]⟩ w' h')
  have C9 := hide (fun w' h1 h2 => DSame_c ⟨a2, n2, c2, Z2, k2, m2, l2, [0, 0, 0], -1, 0⟩ ⟨a2, n2, c2, Z2, k2, m2, l2, [0, 0, 0], -1, 0⟩ w' h1 h2)
  have hC7 := C7.out
  have hC8 := C8.out
  have hC9 := C9.out
  rw [show (⟨a2, n2, c2, Z2, k2, m2, l2, [0, 0, 0], -1, 0⟩ : DV).p = ⟨[(0, []), (1, [5, 6, 7]), (0, []), (0, [])], ⟨[0, 0, 0], -1, 0⟩⟩ by simp [DV.p, P2.out]] at hC7 hC9
  rw [sameD_self] at hC9
  rw [show checkD ⟨[(0, []), (1, [5, 6, 7]), (0, []), (0, [])], ⟨[0, 0, 0], -1, 0⟩⟩ = 0 by rfl] at hC7
  rw [show checkA (AV.p ⟨0, 0, ea7, en7, ec7, [6, 7]⟩) = 0 by rfl] at hC8
  dsimp only [DV.v, AV.v] at hC7 hC8 hC9
  have D7 := hide hC7
  have D8 := hide hC8
  have D9 := hide hC9
  clear C7 C8 C9 hC7 hC8 hC9
  go_wp2_with fail
  refine (Equal_c ea7 (some ⟨w9.heap.size, 0, none⟩) en7 2 ec7 2 [6, 7] [6, 7] _ (hd7.below (B := w9.heap.size) (by (repeat first | exact bel0 | assumption | refine bel1 ?_ | refine bel2 ?_ | refine bel3 ?_ | refine belowT ?_ (by assumption) | refine bel5 ?_ (by simp; try omega))) (Nat.le_refl _)) (Ints.of_row (l := [6, 7]) (heap_new w9 _) (by decide) (by decide) rfl)).mono ?_
  rintro e u1 ⟨rfl, q, rfl⟩
  rw [show decide (([6, 7] : List Int) = [6, 7]) = true from rfl]
  have b1 : Below w9.heap.size w9 ((w9.alloc (.cells #[.int .i64 6, .int .i64 7] 3)).drewN q) := by (repeat first | exact bel0 | assumption | refine bel1 ?_ | refine bel2 ?_ | refine bel3 ?_ | refine belowT ?_ (by assumption) | refine bel5 ?_ (by simp; try omega))
  have o3 := o2.below b1 (Nat.le_refl _)
  have hd8' := hd7.below b1 (Nat.le_refl _)
  replace zD := zD.below b1
  replace z7 := z7.below b1
  replace bw := belowT bw b1
  go_wp2_with fail
  refine (D7.out _ o3).mono ?_
  rintro e u2 ⟨rfl, hb2⟩
  replace zD := zD.below hb2
  replace z7 := z7.below hb2
  replace o3 := o3.below hb2 (Nat.le_refl _)
  replace hd8' := hd8'.below hb2 (Nat.le_refl _)
  replace bw := belowT bw hb2
  clear q0 q1 q2 q3 q4 q5 q6 q7 q8 d0 d1 d2 d3 y0 y1 y2 g1 g2 g8 g9 hb2 b1
  have d0 := zD.cell 0 _ rfl
  have d1 := zD.cell 1 _ rfl
  have d2 := zD.cell 2 _ rfl
  have d3 := zD.cell 3 _ rfl
  have y0 := z7.cell 0 _ rfl
  have y1 := z7.cell 1 _ rfl
  have y2 := z7.cell 2 _ rfl
  go_wp2_with fail
  refine (D8.out _ hd8').mono ?_
  rintro e u3 ⟨rfl, hb3⟩
  replace zD := zD.below hb3
  replace o3 := o3.below hb3 (Nat.le_refl _)
  replace bw := belowT bw hb3
  clear d0 d1 d2 d3 y0 y1 y2 hb3
  have d0 := zD.cell 0 _ rfl
  have d1 := zD.cell 1 _ rfl
  have d2 := zD.cell 2 _ rfl
  have d3 := zD.cell 3 _ rfl
  go_wp2_with fail
  refine (D9.out _ o3 o3).mono ?_
  rintro e u4 ⟨rfl, hb4⟩
  go_wp2
  go_ret
  exact ⟨rfl, by (repeat first | exact bel0 | assumption | refine bel1 ?_ | refine bel2 ?_ | refine bel3 ?_ | refine belowT ?_ (by assumption) | refine bel5 ?_ (by simp; try omega))⟩

end Go.Proofs.YtkamnbigfdbgbaaDoor

/- DeskMay answers true for every desk, hands and command, and leaves all that was there as it was; no condition but that the package's table is as its text lays it. -/
namespace Go.Proofs.YtkamnbigfdbgbaaDoor
open Go.RowKit
set_option linter.unusedVariables false
set_option maxRecDepth 100000
set_option linter.unusedSimpArgs false

theorem doD_fault {pd : PD} {who : Int} {c : PC} (h : doE pd who c ≠ 0) : doD pd who c = (⟨[], ⟨[], 0, 0⟩⟩, ⟨0, 0, []⟩, doE pd who c) := by simp [doD, h, zeroD, zeroB, zeroA]
theorem doD_done {pd : PD} {who : Int} {c : PC} (h : doE pd who c = 0) : doD pd who c = ((doneD pd who c).1, (doneD pd who c).2, 0) := by simp [doD, h]

set_option maxHeartbeats 8000000 in
theorem DeskMay_bad (d : DV) (who : Int) (ca : Option Addr) (cn cc : Nat) (x : PC) (rd : Int) (w : World) (hS : Shapes w) (h : d.ok w) (hx : Ints w ca cn cc x.d) (hw : -9223372036854775808 ≤ who ∧ who ≤ 9223372036854775807) (hr : -9223372036854775808 ≤ rd ∧ rd ≤ 9223372036854775807) (hbad : doE d.p (who % 3) x ≠ 0) :
    Calls Tryd.prog 3 #[d.v, .int .i64 who, cmdV ca cn cc x, .int .i64 rd] w fun e w' => e = .returned (.bool true) ∧ Below w.heap.size w w' := by
  obtain ⟨za, zn, zc, Z, ka, kn, kc, bk, bh, bt⟩ := d
  obtain ⟨xk, xz, xn, xt, xd⟩ := x
  obtain ⟨hz, hkk⟩ := h
  have A1 := hide (fun w' => at_c who 3 w' (by omega) (by omega) hw)
  have A2 := hide (fun w' => at_c rd 3 w' (by omega) (by omega) hr)
  have H1 := hide (fun w' hS' hz hk hx => Do_k za zn zc Z ka kn kc bk bh bt (who % 3) ca cn cc xk xz xn xt xd w' hS' hz hk hx _ (doD_fault hbad))
  have hne : (doE (DV.p ⟨za, zn, zc, Z, ka, kn, kc, bk, bh, bt⟩) (who % 3) ⟨xk, xz, xn, xt, xd⟩ != 0) = true := by simpa using hbad
  dsimp only [DV.v, DV.p, cmdV] at *
  clear hbad hw hr
  generalize who % 3 = i at *
  generalize rd % 3 = j at *
  generalize doE _ i _ = ee at *
  have hSrv := hide (fun w' hS' => served_c w' hS')
  go_enter Tryd.func3, Tryd.ntmps3
  go_wp2_with fail
  refine (A1.out _).mono ?_
  rintro e w1 ⟨rfl, rfl⟩
  go_wp2_with fail
  refine (A2.out _).mono ?_
  rintro e w1 ⟨rfl, rfl⟩
  go_wp2_with fail
  refine (H1.out _ (hS.below (by (repeat first | exact bel0 | assumption | refine bel1 ?_ | refine bel2 ?_ | refine bel3 ?_ | refine belowT ?_ (by assumption) | refine bel5 ?_ (by simp; try omega)))) (hz.below (B := w.heap.size) (by (repeat first | exact bel0 | assumption | refine bel1 ?_ | refine bel2 ?_ | refine bel3 ?_ | refine belowT ?_ (by assumption) | refine bel5 ?_ (by simp; try omega))) (Nat.le_refl _)) (hkk.below (B := w.heap.size) (by (repeat first | exact bel0 | assumption | refine bel1 ?_ | refine bel2 ?_ | refine bel3 ?_ | refine belowT ?_ (by assumption) | refine bel5 ?_ (by simp; try omega))) (Nat.le_refl _)) (hx.below (B := w.heap.size) (by (repeat first | exact bel0 | assumption | refine bel1 ?_ | refine bel2 ?_ | refine bel3 ?_ | refine belowT ?_ (by assumption) | refine bel5 ?_ (by simp; try omega))) (Nat.le_refl _))).mono ?_
  rintro e w2 ⟨⟨a3, n3, c3, Z3, k3, m3, l3, ea3, en3, ec3, rfl, hz3, p3, hk3, hd3, _, _⟩, hb⟩
  dsimp only at *
  have bw : Below w.heap.size w w2 := by (repeat first | exact bel0 | assumption | refine bel1 ?_ | refine bel2 ?_ | refine bel3 ?_ | refine belowT ?_ (by assumption) | refine bel5 ?_ (by simp; try omega))
  go_wp2_with fail
  refine (hSrv.out _ (hS.below (by (repeat first | exact bel0 | assumption | refine bel1 ?_ | refine bel2 ?_ | refine bel3 ?_ | refine belowT ?_ (by assumption) | refine bel5 ?_ (by simp; try omega))))).mono ?_
  rintro e w3 ⟨rfl, hb3⟩
  have bw3 : Below w.heap.size w w3 := by (repeat first | exact bel0 | assumption | refine bel1 ?_ | refine bel2 ?_ | refine bel3 ?_ | refine belowT ?_ (by assumption) | refine bel5 ?_ (by simp; try omega))
  go_wp2_with fail
  refine (hSrv.out _ (hS.below bw3)).mono ?_
  rintro e w4 ⟨rfl, hb4⟩
  go_wp2
  go_ret
  exact ⟨rfl, belowT bw3 hb4⟩

end Go.Proofs.YtkamnbigfdbgbaaDoor
