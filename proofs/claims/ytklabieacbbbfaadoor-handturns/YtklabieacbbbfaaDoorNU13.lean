/- The law's closed fact on hands; no condition but that the package's table is as its text lays it. -/
import Derived.Test.YtklabieacbbbfaaDoorNU12
import Derived.Test.YtklabieacbbbfaaDoorNU6
import Derived.Deep.RegionHeld3
namespace Go.Proofs.YtklabieacbbbfaaDoor
open Go.RowKit
set_option linter.unusedVariables false
set_option maxRecDepth 100000
set_option linter.unusedSimpArgs false

def nA1 : PN := ⟨1, true, cP 5, []⟩
def nA2 : PN := ⟨1, false, zeroC, [⟨0, 3, []⟩]⟩
theorem ans1 : askN zeroN (cP 5) = (nA1, 0) := by rfl
theorem ans2 : askN nA1 (cP 6) = (zeroN, 6) := by rfl
theorem ans3 : hearN nA1 2 zeroA = (nA1, 0) := by rfl
theorem ans4 : hearN nA1 1 ⟨0, 3, []⟩ = (nA2, 0) := by rfl
theorem ans5 : checkN nA2 = 0 := by rfl

/-- Ask and Hear in plain words. -/
theorem Ask_k (h : NV) (a : Option Addr) (n c : Nat) (b : PC) {P : PN} {X : PN × Int} (hp : h.p = P) (e : askN P b = X) (w : World) (hS : Shapes w) (hk : h.ok w) (hb : Ints w a n c b.d) :
    Calls Tryd.prog 6 #[.agg #[.int .i64 h.s, .bool h.w, .int .i64 h.c.k, .int .i64 h.c.z, .int .i64 h.c.n, .int .i64 h.c.at', .slice h.ca h.cn h.cc, .slice h.ga h.gn h.gc], .agg #[.int .i64 b.k, .int .i64 b.z, .int .i64 b.n, .int .i64 b.at', .slice a n c]] w fun e w' => HandNew X w e w' := by
  have q := JAsk_c h a n c b w hS hk hb
  rw [hp, e] at q
  exact q
theorem Hear_k (h : NV) (sq : Int) (y : AV) {P : PN} {Y : PA} {X : PN × Int} (hp : h.p = P) (yp : y.p = Y) (e : hearN P sq Y = X) (w : World) (hS : Shapes w) (hk : h.ok w) (hy : y.ok w) :
    Calls Tryd.prog 7 #[.agg #[.int .i64 h.s, .bool h.w, .int .i64 h.c.k, .int .i64 h.c.z, .int .i64 h.c.n, .int .i64 h.c.at', .slice h.ca h.cn h.cc, .slice h.ga h.gn h.gc], .int .i64 sq, .agg #[.int .i64 y.e, .int .i64 y.t, .slice y.a y.n y.c]] w fun e w' => HandNew X w e w' := by
  have q := JHear_c h sq y w hS hk hy
  rw [hp, yp, e] at q
  exact q

set_option maxRecDepth 100000 in
set_option maxHeartbeats 8000000 in
theorem answered_c (w : World) (hS : Shapes w) : Calls Tryd.prog 10 #[] w fun e w' => e = .returned (.bool true) ∧ Below w.heap.size w w' := by
  go_enter Tryd.func10, Tryd.ntmps10
  go_wp2_with fail
  refine (puts_c 5 (by omega) _).mono ?_
  rintro e w1 ⟨⟨q5, rfl, i5, hq⟩, bw⟩
  clear hq
  go_wp2_with fail
  refine (Ask_k NV.zero (some ⟨q5, 0, none⟩) 1 1 (cP 5) rfl ans1 _ (hS.below bw) (NV.zero_ok _) i5).mono ?_
  rintro e w2 ⟨⟨⟨s1, v1, ⟨k1, z1, u1, t1, d1⟩, ca1, cn1, cc1, ga1, gn1, gc1, G1⟩, rfl, ok1, _, p1⟩, hb2⟩
  replace bw := belowT bw hb2
  clear hb2 i5
  dsimp only [NV.v]
  go_upto_region 2 with fail
  have xH := Lay.made w2 [.int .i64 s1, .bool v1, .int .i64 k1, .int .i64 z1, .int .i64 u1, .int .i64 t1, .slice ca1 cn1 cc1, .slice ga1 gn1 gc1] 27
  have bn := belowA (Below.refl _ w2) (.cells [.int .i64 s1, .bool v1, .int .i64 k1, .int .i64 z1, .int .i64 u1, .int .i64 t1, .slice ca1 cn1 cc1, .slice ga1 gn1 gc1].toArray 27)
  replace ok1 := ok1.below bn (Nat.le_refl _)
  replace bw := belowT bw bn
  clear bn
  generalize w2.heap.size = H0 at *
  generalize w2.alloc (.cells [.int .i64 s1, .bool v1, .int .i64 k1, .int .i64 z1, .int .i64 u1, .int .i64 t1, .slice ca1 cn1 cc1, .slice ga1 gn1 gc1].toArray 27) = wS at *
  have hSS := hS.below bw
  have hH0 := xH.lt
  have P1 := hide p1
  clear p1
  have r0 := xH.cell 0 _ rfl
  have r1 := xH.cell 1 _ rfl
  have r2 := xH.cell 2 _ rfl
  have r3 := xH.cell 3 _ rfl
  have r4 := xH.cell 4 _ rfl
  have r5 := xH.cell 5 _ rfl
  have r6 := xH.cell 6 _ rfl
  have r7 := xH.cell 7 _ rfl
  have n0 : H0 ≠ wS.heap.size := by omega
  have n1 : wS.heap.size ≠ H0 := by omega
  have n2 : H0 ≠ wS.heap.size + 1 := by omega
  have n3 : wS.heap.size + 1 ≠ H0 := by omega
  go_cut [3, 4] (fun v3 v4 wx => v4 = .int .i64 6 ∧ Below wS.heap.size wS wx)
  case first =>
    go_region_held3 (fun w' => w'.cell? ⟨H0, 0, none⟩ = some (.int .i64 s1) ∧ w'.cell? ⟨H0, 1, none⟩ = some (.bool v1) ∧ w'.cell? ⟨H0, 2, none⟩ = some (.int .i64 k1) ∧ w'.cell? ⟨H0, 3, none⟩ = some (.int .i64 z1) ∧ w'.cell? ⟨H0, 4, none⟩ = some (.int .i64 u1) ∧ w'.cell? ⟨H0, 5, none⟩ = some (.int .i64 t1) ∧ w'.cell? ⟨H0, 6, none⟩ = some (.slice ca1 cn1 cc1) ∧ w'.cell? ⟨H0, 7, none⟩ = some (.slice ga1 gn1 gc1)) ((first | (go_simp; done) | (simp [*, World.cell?_alloc_at, World.cell?_alloc_past, World.cell?_alloc_some, World.cell?_setCell_far]; done))) (first
      | (go_at_call 27; refine (puts_c 6 (by omega) _).mono ?_; rintro e wa ⟨⟨q6, rfl, i6, hq6⟩, hb1⟩; (have bA : Below wS.heap.size wS wa := by (repeat first | exact bel0 | assumption | refine bel1 ?_ | refine bel2 ?_ | refine bel3 ?_ | refine belowT ?_ (by assumption) | refine bel5 ?_ (by simp; try omega))); (have hsA := bA.size); (first | (have xB := Lay.below (Lay.drew (Lay.made wS NV.zero.cells 27)) hb1) | (have xB := Lay.below (Lay.made wS NV.zero.cells 27) hb1) | skip); (have g0 := keepc hb1 (p := ⟨H0, 0, none⟩) (u := .int .i64 s1) (by (first | (go_simp; done) | (simp [*, World.cell?_alloc_at, World.cell?_alloc_past, World.cell?_alloc_some, World.cell?_setCell_far]; done)))); (have g1 := keepc hb1 (p := ⟨H0, 1, none⟩) (u := .bool v1) (by (first | (go_simp; done) | (simp [*, World.cell?_alloc_at, World.cell?_alloc_past, World.cell?_alloc_some, World.cell?_setCell_far]; done)))); (have g2 := keepc hb1 (p := ⟨H0, 2, none⟩) (u := .int .i64 k1) (by (first | (go_simp; done) | (simp [*, World.cell?_alloc_at, World.cell?_alloc_past, World.cell?_alloc_some, World.cell?_setCell_far]; done)))); (have g3 := keepc hb1 (p := ⟨H0, 3, none⟩) (u := .int .i64 z1) (by (first | (go_simp; done) | (simp [*, World.cell?_alloc_at, World.cell?_alloc_past, World.cell?_alloc_some, World.cell?_setCell_far]; done)))); (have g4 := keepc hb1 (p := ⟨H0, 4, none⟩) (u := .int .i64 u1) (by (first | (go_simp; done) | (simp [*, World.cell?_alloc_at, World.cell?_alloc_past, World.cell?_alloc_some, World.cell?_setCell_far]; done)))); (have g5 := keepc hb1 (p := ⟨H0, 5, none⟩) (u := .int .i64 t1) (by (first | (go_simp; done) | (simp [*, World.cell?_alloc_at, World.cell?_alloc_past, World.cell?_alloc_some, World.cell?_setCell_far]; done)))); (have g6 := keepc hb1 (p := ⟨H0, 6, none⟩) (u := .slice ca1 cn1 cc1) (by (first | (go_simp; done) | (simp [*, World.cell?_alloc_at, World.cell?_alloc_past, World.cell?_alloc_some, World.cell?_setCell_far]; done)))); (have g7 := keepc hb1 (p := ⟨H0, 7, none⟩) (u := .slice ga1 gn1 gc1) (by (first | (go_simp; done) | (simp [*, World.cell?_alloc_at, World.cell?_alloc_past, World.cell?_alloc_some, World.cell?_setCell_far]; done)))))
      | (go_at_call 6; refine (Ask_k ⟨s1, v1, ⟨k1, z1, u1, t1, d1⟩, ca1, cn1, cc1, ga1, gn1, gc1, G1⟩ (some ⟨q6, 0, none⟩) 1 1 (cP 6) P1.out ans2 _ (by refine hSS.below ?_; (repeat first | exact bel0 | assumption | refine bel1 ?_ | refine bel2 ?_ | refine bel3 ?_ | refine belowT ?_ (by assumption) | refine bel5 ?_ (by simp; try omega))) (by refine NV.ok.below ok1 (B := wS.heap.size) ?_ (Nat.le_refl _); (repeat first | exact bel0 | assumption | refine bel1 ?_ | refine bel2 ?_ | refine bel3 ?_ | refine belowT ?_ (by assumption) | refine bel5 ?_ (by simp; try omega))) (by refine Ints.below i6 (B := wa.heap.size) ?_ (Nat.le_refl _); (repeat first | exact bel0 | assumption | refine bel1 ?_ | refine bel2 ?_ | refine bel3 ?_ | refine belowT ?_ (by assumption) | refine bel5 ?_ (by simp; try omega)))).mono ?_; rintro e wb ⟨⟨⟨s2, v2, ⟨k2, z2, u2, t2, d2⟩, ca2, cn2, cc2, ga2, gn2, gc2, G2⟩, rfl, _, _, _⟩, hb2⟩; dsimp only [NV.v]; (have bB : Below wa.heap.size wa wb := by (repeat first | exact bel0 | assumption | refine bel1 ?_ | refine bel2 ?_ | refine bel3 ?_ | refine belowT ?_ (by assumption) | refine bel5 ?_ (by simp; try omega))); (try replace xB := xB.below bB); (first | (have xB := Lay.below (Lay.drew (Lay.made wa NV.zero.cells 27)) hb2) | (have xB := Lay.below (Lay.made wa NV.zero.cells 27) hb2) | skip); (have p0 := keepc hb2 (p := ⟨H0, 0, none⟩) (u := .int .i64 s1) (by (first | (go_simp; done) | (simp [*, World.cell?_alloc_at, World.cell?_alloc_past, World.cell?_alloc_some, World.cell?_setCell_far]; done)))); (have p1 := keepc hb2 (p := ⟨H0, 1, none⟩) (u := .bool v1) (by (first | (go_simp; done) | (simp [*, World.cell?_alloc_at, World.cell?_alloc_past, World.cell?_alloc_some, World.cell?_setCell_far]; done)))); (have p2 := keepc hb2 (p := ⟨H0, 2, none⟩) (u := .int .i64 k1) (by (first | (go_simp; done) | (simp [*, World.cell?_alloc_at, World.cell?_alloc_past, World.cell?_alloc_some, World.cell?_setCell_far]; done)))); (have p3 := keepc hb2 (p := ⟨H0, 3, none⟩) (u := .int .i64 z1) (by (first | (go_simp; done) | (simp [*, World.cell?_alloc_at, World.cell?_alloc_past, World.cell?_alloc_some, World.cell?_setCell_far]; done)))); (have p4 := keepc hb2 (p := ⟨H0, 4, none⟩) (u := .int .i64 u1) (by (first | (go_simp; done) | (simp [*, World.cell?_alloc_at, World.cell?_alloc_past, World.cell?_alloc_some, World.cell?_setCell_far]; done)))); (have p5 := keepc hb2 (p := ⟨H0, 5, none⟩) (u := .int .i64 t1) (by (first | (go_simp; done) | (simp [*, World.cell?_alloc_at, World.cell?_alloc_past, World.cell?_alloc_some, World.cell?_setCell_far]; done)))); (have p6 := keepc hb2 (p := ⟨H0, 6, none⟩) (u := .slice ca1 cn1 cc1) (by (first | (go_simp; done) | (simp [*, World.cell?_alloc_at, World.cell?_alloc_past, World.cell?_alloc_some, World.cell?_setCell_far]; done)))); (have p7 := keepc hb2 (p := ⟨H0, 7, none⟩) (u := .slice ga1 gn1 gc1) (by (first | (go_simp; done) | (simp [*, World.cell?_alloc_at, World.cell?_alloc_past, World.cell?_alloc_some, World.cell?_setCell_far]; done)))); (have hsB := bB.size); (try have xBc0 := xB.cell 0 _ rfl); (try have xBi0 := xB.ice 0); (try have xBc1 := xB.cell 1 _ rfl); (try have xBi1 := xB.ice 1); (try have xBc2 := xB.cell 2 _ rfl); (try have xBi2 := xB.ice 2); (try have xBc3 := xB.cell 3 _ rfl); (try have xBi3 := xB.ice 3); (try have xBc4 := xB.cell 4 _ rfl); (try have xBi4 := xB.ice 4); (try have xBc5 := xB.cell 5 _ rfl); (try have xBi5 := xB.ice 5); (try have xBc6 := xB.cell 6 _ rfl); (try have xBi6 := xB.ice 6); (try have xBc7 := xB.cell 7 _ rfl); (try have xBi7 := xB.ice 7); (have rr0 : H0 ≠ wa.heap.size := by omega); (have rr1 : wa.heap.size ≠ H0 := by omega); (have rr2 : H0 ≠ wb.heap.size := by omega); (have rr3 : wb.heap.size ≠ H0 := by omega)))
    all_goals
      go_wp2_with fail
      go_meet
    all_goals
      case rel =>
        have lw : Below wS.heap.size wS wb := bA.trans (bB.mono bA.size)
        refine ⟨rfl, ?_⟩
        first
          | with_reducible exact belowA lw _
          | (with_reducible refine Below.setCell (Below.setCell (Below.setCell (Below.setCell (Below.setCell (Below.setCell (Below.setCell (Below.setCell lw ?_ _) ?_ _) ?_ _) ?_ _) ?_ _) ?_ _) ?_ _) ?_ _ <;> first | exact Nat.le_refl _ | exact hsA)
  case rest =>
    obtain ⟨rfl, bx⟩ := hcut
    replace xH := xH.below bx
    replace ok1 := ok1.below bx (Nat.le_refl _)
    replace hSS := hSS.below bx
    replace bw := belowT bw bx
    clear r0 r1 r2 r3 r4 r5 r6 r7 n0 n1 n2 n3 hH0 bx
    generalize wc = wS at *
    have r0 := xH.cell 0 _ rfl
    have r1 := xH.cell 1 _ rfl
    have r2 := xH.cell 2 _ rfl
    have r3 := xH.cell 3 _ rfl
    have r4 := xH.cell 4 _ rfl
    have r5 := xH.cell 5 _ rfl
    have r6 := xH.cell 6 _ rfl
    have r7 := xH.cell 7 _ rfl
    go_wp2_with fail
    refine (Hear_k ⟨s1, v1, ⟨k1, z1, u1, t1, d1⟩, ca1, cn1, cc1, ga1, gn1, gc1, G1⟩ 2 (AV.err 0) (P := nA1) (Y := zeroA) (X := (nA1, 0)) P1.out rfl ans3 _ hSS ok1 (Ints.nilSlice _)).mono ?_
    rintro e w3 ⟨⟨⟨s3, v3, ⟨k3, z3, u3, t3, d3⟩, ca3, cn3, cc3, ga3, gn3, gc3, G3⟩, rfl, ok3, _, p3⟩, hb3⟩
    clear r0 r1 r2 r3 r4 r5 r6 r7
    dsimp only [NV.v]
    go_upto_region 4 with fail
    have x3 := Lay.made w3 [.int .i64 s3, .bool v3, .int .i64 k3, .int .i64 z3, .int .i64 u3, .int .i64 t3, .slice ca3 cn3 cc3, .slice ga3 gn3 gc3] 27
    have bn := belowA (Below.refl _ w3) (.cells [.int .i64 s3, .bool v3, .int .i64 k3, .int .i64 z3, .int .i64 u3, .int .i64 t3, .slice ca3 cn3 cc3, .slice ga3 gn3 gc3].toArray 27)
    replace ok3 := ok3.below bn (Nat.le_refl _)
    have bb := belowT hb3 bn
    replace xH := xH.below bb
    replace ok1 := ok1.below bb (Nat.le_refl _)
    replace hSS := hSS.below bb
    replace bw := belowT bw bb
    clear bn bb hb3
    generalize w3.heap.size = H3 at *
    generalize w3.alloc (.cells [.int .i64 s3, .bool v3, .int .i64 k3, .int .i64 z3, .int .i64 u3, .int .i64 t3, .slice ca3 cn3 cc3, .slice ga3 gn3 gc3].toArray 27) = w4 at *
    have P3 := hide p3
    clear p3
    have r0 := xH.cell 0 _ rfl
    have r1 := xH.cell 1 _ rfl
    have r2 := xH.cell 2 _ rfl
    have r3 := xH.cell 3 _ rfl
    have r4 := xH.cell 4 _ rfl
    have r5 := xH.cell 5 _ rfl
    have r6 := xH.cell 6 _ rfl
    have r7 := xH.cell 7 _ rfl
    go_wp2_with fail
    refine (Hear_k ⟨s1, v1, ⟨k1, z1, u1, t1, d1⟩, ca1, cn1, cc1, ga1, gn1, gc1, G1⟩ 1 ⟨0, 3, none, 0, 0, []⟩ (P := nA1) (Y := ⟨0, 3, []⟩) (X := (nA2, 0)) P1.out rfl ans4 _ hSS ok1 (Ints.nilSlice _)).mono ?_
    rintro e w5 ⟨⟨⟨s4, v4, ⟨k4, z4, u4, t4, d4⟩, ca4, cn4, cc4, ga4, gn4, gc4, G4⟩, rfl, ok4, _, p4⟩, hb4⟩
    clear r0 r1 r2 r3 r4 r5 r6 r7
    dsimp only [NV.v]
    go_upto_region 5 with fail
    have x4 := Lay.made w5 [.int .i64 s4, .bool v4, .int .i64 k4, .int .i64 z4, .int .i64 u4, .int .i64 t4, .slice ca4 cn4 cc4, .slice ga4 gn4 gc4] 27
    have bn := belowA (Below.refl _ w5) (.cells [.int .i64 s4, .bool v4, .int .i64 k4, .int .i64 z4, .int .i64 u4, .int .i64 t4, .slice ca4 cn4 cc4, .slice ga4 gn4 gc4].toArray 27)
    replace ok4 := ok4.below bn (Nat.le_refl _)
    have bb := belowT hb4 bn
    replace xH := xH.below bb
    replace ok1 := ok1.below bb (Nat.le_refl _)
    replace hSS := hSS.below bb
    replace bw := belowT bw bb
    replace x3 := x3.below bb
    replace ok3 := ok3.below bb (Nat.le_refl _)
    clear bn bb hb4
    generalize w5.heap.size = H4 at *
    generalize w5.alloc (.cells [.int .i64 s4, .bool v4, .int .i64 k4, .int .i64 z4, .int .i64 u4, .int .i64 t4, .slice ca4 cn4 cc4, .slice ga4 gn4 gc4].toArray 27) = w6 at *
    have P4 := hide p4
    clear p4
    have HSM : Hid (∀ w' : World, NV.ok w' ⟨s3, v3, ⟨k3, z3, u3, t3, d3⟩, ca3, cn3, cc3, ga3, gn3, gc3, G3⟩ → NV.ok w' ⟨s1, v1, ⟨k1, z1, u1, t1, d1⟩, ca1, cn1, cc1, ga1, gn1, gc1, G1⟩ → Calls Tryd.prog 13 #[.agg #[.int .i64 s3, .bool v3, .int .i64 k3, .int .i64 z3, .int .i64 u3, .int .i64 t3, .slice ca3 cn3 cc3, .slice ga3 gn3 gc3], .agg #[.int .i64 s1, .bool v1, .int .i64 k1, .int .i64 z1, .int .i64 u1, .int .i64 t1, .slice ca1 cn1 cc1, .slice ga1 gn1 gc1]] w' fun e w'' => e = .returned (.bool true) ∧ Below w'.heap.size w' w'') := hide (fun w' h1 h2 => by
      have q := JSame_c ⟨s3, v3, ⟨k3, z3, u3, t3, d3⟩, ca3, cn3, cc3, ga3, gn3, gc3, G3⟩ ⟨s1, v1, ⟨k1, z1, u1, t1, d1⟩, ca1, cn1, cc1, ga1, gn1, gc1, G1⟩ w' h1 h2
      rw [P3.out, P1.out, (sameN_iff _ _).2 rfl] at q
      exact q)
    have p4 := P4.out
    obtain rfl : s4 = 1 := congrArg PN.s p4
    obtain rfl : v4 = false := congrArg PN.w p4
    have hG : G4.map AV.p = [⟨0, 3, []⟩] := congrArg PN.g p4
    obtain ⟨y4, rfl, hy4⟩ := List.map_eq_singleton_iff.1 hG
    have hy3 : y4.t = 3 := congrArg PA.t hy4
    have hgn : gn4 = 1 := ok4.g.len.symm
    subst hgn
    obtain ⟨b4, o4, y5, rfl, hy5, _, hb4, hc4⟩ := ok4.g.at (i := 0) Nat.one_pos
    obtain rfl : y4 = y5 := by simpa using hy5
    have hc1 : w6.cell? ⟨b4, o4 + 1, none⟩ = some (.int .i64 3) := by rw [← hy3]; simpa using hc4 1 _ rfl
    have HCK := hide (fun w' h1 h2 => JCheck_c ⟨1, false, ⟨k4, z4, u4, t4, d4⟩, ca4, cn4, cc4, some ⟨b4, o4, none⟩, 1, gc4, [y4]⟩ w' h1 h2)
    rw [p4, ans5] at HCK
    dsimp only [NV.v] at HCK
    clear p4 hG hy4 hy3 hy5 hc4 P3 P1 P4
    have e0 := x3.cell 0 _ rfl
    have e1 := x3.cell 1 _ rfl
    have e2 := x3.cell 2 _ rfl
    have e3 := x3.cell 3 _ rfl
    have e4 := x3.cell 4 _ rfl
    have e5 := x3.cell 5 _ rfl
    have e6 := x3.cell 6 _ rfl
    have e7 := x3.cell 7 _ rfl
    have r0 := xH.cell 0 _ rfl
    have r1 := xH.cell 1 _ rfl
    have r2 := xH.cell 2 _ rfl
    have r3 := xH.cell 3 _ rfl
    have r4 := xH.cell 4 _ rfl
    have r5 := xH.cell 5 _ rfl
    have r6 := xH.cell 6 _ rfl
    have r7 := xH.cell 7 _ rfl
    go_wp2_with fail
    refine (HSM.out _ ok3 ok1).mono ?_
    rintro e w7 ⟨rfl, hb7⟩
    clear e0 e1 e2 e3 e4 e5 e6 e7 r0 r1 r2 r3 r4 r5 r6 r7
    replace x4 := x4.below hb7
    replace ok4 := ok4.below hb7 (Nat.le_refl _)
    replace hSS := hSS.below hb7
    replace hc1 := keepc hb7 hc1
    replace bw := belowT bw hb7
    clear hb7 HSM
    have e0 := x4.cell 0 _ rfl
    have e1 := x4.cell 1 _ rfl
    have e2 := x4.cell 2 _ rfl
    have e3 := x4.cell 3 _ rfl
    have e4 := x4.cell 4 _ rfl
    have e5 := x4.cell 5 _ rfl
    have e6 := x4.cell 6 _ rfl
    have e7 := x4.cell 7 _ rfl
    go_wp2_with fail
    refine (HCK.out _ hSS ok4).mono ?_
    rintro e w8 ⟨rfl, hb8⟩
    go_wp2
    go_ret
    exact ⟨rfl, belowT bw hb8⟩

end Go.Proofs.YtklabieacbbbfaaDoor
