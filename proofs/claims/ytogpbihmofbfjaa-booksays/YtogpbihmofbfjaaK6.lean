/- The law's own closed fact 'booked': it answers true in whatever world; no condition. -/
import Derived.Test.YtogpbihmofbfjaaKB
import Derived.Deep.RegionHeld3
namespace Go.Proofs.Ytogpbihmofbfjaa
open Go.RowKit
set_option linter.unusedVariables false
set_option maxRecDepth 100000
set_option linter.unusedSimpArgs false

set_option maxRecDepth 100000 in
set_option maxHeartbeats 8000000 in
theorem booked_c (w : World) : Calls Try.prog 15 #[] w fun e w' => e = .returned (.bool true) ∧ Below w.heap.size w w' := by
  go_enter Try.func15, Try.ntmps15
  go_wp2_with fail
  refine (BNew_c _).mono ?_
  rintro e w0 ⟨⟨a0, c0, rfl, i0, _⟩, bw⟩
  simp only [bookV, freshB] at i0 ⊢
  go_wp2_with fail
  refine (BRegister_c a0 3 c0 ⟨[0, 0, 0], -1, 0⟩ 0 5 _ i0).mono ?_
  rintro e w1 ⟨⟨a1, n1, c1, rfl, i1, _⟩, hb⟩
  rw [show registerB ⟨[0, 0, 0], -1, 0⟩ 0 5 = (⟨[5, 0, 0], -1, 0⟩, 0) from rfl] at i1 ⊢
  simp only [bookV] at i1 ⊢
  replace bw := belowT bw hb
  clear hb i0
  go_wp2_with fail
  have lB := bw.size
  have xB := Box.made w1 a1 n1 c1 ⟨[5, 0, 0], -1, 0⟩
  have hn := belowA (Below.refl w1.heap.size w1) (.cells #[.slice a1 n1 c1, .int .i64 (-1), .int .i64 0] 24)
  replace i1 := i1.below hn (Nat.le_refl _)
  replace bw := belowT bw hn
  clear hn
  dsimp only at xB
  generalize w1.alloc (.cells #[.slice a1 n1 c1, .int .i64 (-1), .int .i64 0] 24) = v1 at *
  generalize w1.heap.size = B at *
  refine (BRegister_c a1 n1 c1 ⟨[5, 0, 0], -1, 0⟩ 1 6 _ i1).mono ?_
  rintro e w2 ⟨⟨a2, n2, c2, rfl, i2, q2⟩, hb⟩
  rw [show registerB ⟨[5, 0, 0], -1, 0⟩ 1 6 = (⟨[5, 6, 0], -1, 0⟩, 0) from rfl] at i2 ⊢
  simp only [bookV] at i2 ⊢
  replace bw := belowT bw hb
  have hlt := xB.lt
  replace xB := xB.below hb
  clear hb i1
  obtain ⟨x0, x1, x2, y0, y1, y2⟩ := id xB
  go_wp2_with fail
  have hne : ∀ x, a2 = some x → x.block ≠ B := fun x e => by have := q2 x e; omega
  replace i2 := ((i2.setCell ⟨B, 0, none⟩ (.slice a2 n2 c2) hne).setCell ⟨B, 1, none⟩ (.int .i64 (-1)) hne).setCell ⟨B, 2, none⟩ (.int .i64 0) hne
  replace bw := ((bw.setCell (p := ⟨B, 0, none⟩) lB (.slice a2 n2 c2)).setCell (p := ⟨B, 1, none⟩) lB (.int .i64 (-1))).setCell (p := ⟨B, 2, none⟩) lB (.int .i64 0)
  clear hne q2 x0 x1 x2 y0 y1 y2 xB
  generalize ((w2.setCell ⟨B, 0, none⟩ (.slice a2 n2 c2)).setCell ⟨B, 1, none⟩ (.int .i64 (-1))).setCell ⟨B, 2, none⟩ (.int .i64 0) = v2 at *
  refine (BReserve_c a2 n2 c2 ⟨[5, 6, 0], -1, 0⟩ 0 1 _ i2).mono ?_
  rintro e w3 ⟨⟨a3, n3, c3, rfl, i3, _⟩, hb⟩
  rw [show reserveB ⟨[5, 6, 0], -1, 0⟩ 0 1 = (⟨[5, 6, 0], 0, 1⟩, 0) from rfl] at i3 ⊢
  simp only [bookV] at i3 ⊢
  replace bw := belowT bw hb
  clear hb i2
  go_wp2_with fail
  have xC := Box.made w3 a3 n3 c3 ⟨[5, 6, 0], 0, 1⟩
  have hn := belowA (Below.refl w3.heap.size w3) (.cells #[.slice a3 n3 c3, .int .i64 0, .int .i64 1] 24)
  replace i3 := i3.below hn (Nat.le_refl _)
  replace bw := belowT bw hn
  clear hn
  dsimp only at xC
  generalize w3.alloc (.cells #[.slice a3 n3 c3, .int .i64 0, .int .i64 1] 24) = v3 at *
  generalize w3.heap.size = C at *
  refine (BReserve_c a3 n3 c3 ⟨[5, 6, 0], 0, 1⟩ 1 1 _ i3).mono ?_
  rintro e w4 ⟨⟨a4, n4, c4, rfl, i4, _⟩, hb⟩
  rw [show reserveB ⟨[5, 6, 0], 0, 1⟩ 1 1 = (zeroB, 8) from rfl]
  simp only [bookV, zeroB]
  replace bw := belowT bw hb
  replace xC := xC.below hb
  replace i3 := i3.below hb (Nat.le_refl _)
  have hn := belowA (Below.refl w4.heap.size w4) (.cells #[.slice a4 n4 c4, .int .i64 0, .int .i64 0] 24)
  have x0 := past1 xC.c0
  have x1 := past1 xC.c1
  have x2 := past1 xC.c2
  clear hb i4
  go_wp2_with fail
  replace bw := belowT bw hn
  replace xC := xC.below hn
  replace i3 := i3.below hn (Nat.le_refl _)
  generalize w4.alloc (.cells #[.slice a4 n4 c4, .int .i64 0, .int .i64 0] 24) = v4 at *
  refine (BMay_c a3 n3 c3 ⟨[5, 6, 0], 0, 1⟩ 1 true _ i3).mono ?_
  rintro e w5 ⟨rfl, hb⟩
  rw [show mayB ⟨[5, 6, 0], 0, 1⟩ 1 true = (false, 0) from rfl]
  replace bw := belowT bw hb
  replace xC := xC.below hb
  replace i3 := i3.below hb (Nat.le_refl _)
  clear hb x0 x1 x2 hn
  obtain ⟨x0, x1, x2, y0, y1, y2⟩ := id xC
  go_wp2_with fail
  refine (BMay_c a3 n3 c3 ⟨[5, 6, 0], 0, 1⟩ 2 false _ i3).mono ?_
  rintro e w6 ⟨rfl, hb⟩
  rw [show mayB ⟨[5, 6, 0], 0, 1⟩ 2 false = (true, 0) from rfl]
  replace bw := belowT bw hb
  replace xC := xC.below hb
  replace i3 := i3.below hb (Nat.le_refl _)
  clear hb x0 x1 x2 y0 y1 y2
  obtain ⟨x0, x1, x2, y0, y1, y2⟩ := id xC
  go_wp2_with fail
  refine (BPreempt_c a3 n3 c3 ⟨[5, 6, 0], 0, 1⟩ 1 5 _ i3).mono ?_
  rintro e w7 ⟨⟨a7, n7, c7, rfl, i7, _⟩, hb⟩
  rw [show preemptB ⟨[5, 6, 0], 0, 1⟩ 1 5 = (⟨[0, 6, 0], 1, 1⟩, 0) from rfl] at i7 ⊢
  simp only [bookV] at i7 ⊢
  replace bw := belowT bw hb
  clear hb x0 x1 x2 y0 y1 y2 xC i3
  go_wp2_with fail
  have xD := Box.made w7 a7 n7 c7 ⟨[0, 6, 0], 1, 1⟩
  have hn := belowA (Below.refl w7.heap.size w7) (.cells #[.slice a7 n7 c7, .int .i64 1, .int .i64 1] 24)
  replace i7 := i7.below hn (Nat.le_refl _)
  replace bw := belowT bw hn
  clear hn
  dsimp only at xD
  generalize w7.alloc (.cells #[.slice a7 n7 c7, .int .i64 1, .int .i64 1] 24) = v7 at *
  generalize w7.heap.size = D at *
  refine (BRelease_c a7 n7 c7 ⟨[0, 6, 0], 1, 1⟩ 1 _ i7).mono ?_
  rintro e w8 ⟨⟨a8, n8, c8, rfl, i8, _⟩, hb⟩
  rw [show releaseB ⟨[0, 6, 0], 1, 1⟩ 1 = (⟨[0, 6, 0], -1, 0⟩, 0) from rfl] at i8 ⊢
  simp only [bookV] at i8 ⊢
  replace bw := belowT bw hb
  replace xD := xD.below hb
  replace i7 := i7.below hb (Nat.le_refl _)
  have x0 := past1 xD.c0
  have x1 := past1 xD.c1
  have x2 := past1 xD.c2
  clear hb i8
  go_wp2_with fail
  have xR := Box.made w8 a8 n8 c8 ⟨[0, 6, 0], -1, 0⟩
  have hn := belowA (Below.refl w8.heap.size w8) (.cells #[.slice a8 n8 c8, .int .i64 (-1), .int .i64 0] 24)
  replace i7 := i7.below hn (Nat.le_refl _)
  replace xD := xD.below hn
  replace bw := belowT bw hn
  clear hn x0 x1 x2
  dsimp only at xR
  generalize w8.alloc (.cells #[.slice a8 n8 c8, .int .i64 (-1), .int .i64 0] 24) = v8 at *
  generalize w8.heap.size = R at *
  refine (BClear_c a7 n7 c7 ⟨[0, 6, 0], 1, 1⟩ 1 _ i7).mono ?_
  rintro e w9 ⟨⟨a9, n9, c9, rfl, i9, _⟩, hb⟩
  rw [show clearB ⟨[0, 6, 0], 1, 1⟩ 1 = (freshB, 0) from rfl] at i9 ⊢
  simp only [bookV, freshB] at i9 ⊢
  replace bw := belowT bw hb
  replace xD := xD.below hb
  replace xR := xR.below hb
  replace i7 := i7.below hb (Nat.le_refl _)
  clear hb
  have x0 := past1 xD.c0
  have x1 := past1 xD.c1
  have x2 := past1 xD.c2
  have s0 := past1 xR.c0
  have s1 := past1 xR.c1
  have s2 := past1 xR.c2
  obtain rfl : n7 = 3 := i7.len.symm
  obtain ⟨g7, o7, rfl, k0, _, _⟩ := i7.three
  replace k0 := past1 k0
  go_wp2_with fail
  have xN := Box.made w9 a9 n9 c9 ⟨[0, 0, 0], -1, 0⟩
  have hn := belowA (Below.refl w9.heap.size w9) (.cells #[.slice a9 n9 c9, .int .i64 (-1), .int .i64 0] 24)
  replace i7 := i7.below hn (Nat.le_refl _)
  replace i9 := i9.below hn (Nat.le_refl _)
  replace xD := xD.below hn
  replace xR := xR.below hn
  replace k0 := k0 (.cells #[.slice a9 n9 c9, .int .i64 (-1), .int .i64 0] 24)
  replace bw := belowT bw hn
  clear hn x0 x1 x2 s0 s1 s2
  dsimp only at xN
  generalize w9.alloc (.cells #[.slice a9 n9 c9, .int .i64 (-1), .int .i64 0] 24) = v9 at *
  generalize w9.heap.size = N at *
  obtain ⟨x0, x1, x2, _, _, _⟩ := xD
  obtain ⟨s0, s1, s2, _, _, _⟩ := xR
  obtain ⟨z0, z1, z2, _, _, _⟩ := xN
  dsimp only at x1 x2 s1 s2 z1 z2
  go_region_held3 (fun w' => w'.cell? ⟨D, 0, none⟩ = some (.slice (some ⟨g7, o7, none⟩) 3 c7) ∧ w'.cell? ⟨D, 1, none⟩ = some (.int .i64 1) ∧ w'.cell? ⟨D, 2, none⟩ = some (.int .i64 1) ∧ w'.cell? ⟨R, 1, none⟩ = some (.int .i64 (-1)) ∧ w'.cell? ⟨R, 2, none⟩ = some (.int .i64 0) ∧ w'.cell? ⟨N, 0, none⟩ = some (.slice a9 n9 c9) ∧ w'.cell? ⟨N, 1, none⟩ = some (.int .i64 (-1)) ∧ w'.cell? ⟨N, 2, none⟩ = some (.int .i64 0) ∧ w'.cell? ⟨g7, o7, none⟩ = some (.int .i64 0)) ((first | (go_simp; done) | (simp [*, World.cell?_alloc_at, World.cell?_alloc_past, World.cell?_alloc_some, World.cell?_setCell_far]; done)))
    (first
      | (go_at_call 18; refine (BNew_c _).mono ?_; rintro e wn ⟨⟨an, cn, rfl, iN, _⟩, hbn⟩; simp only [bookV, freshB] at iN ⊢; (have m0 := keepc hbn (p := ⟨D, 0, none⟩) (u := .slice (some ⟨g7, o7, none⟩) 3 c7) (by (first | (go_simp; done) | (simp [*, World.cell?_alloc_at, World.cell?_alloc_past, World.cell?_alloc_some, World.cell?_setCell_far]; done)))); (have m1 := keepc hbn (p := ⟨D, 1, none⟩) (u := .int .i64 1) (by (first | (go_simp; done) | (simp [*, World.cell?_alloc_at, World.cell?_alloc_past, World.cell?_alloc_some, World.cell?_setCell_far]; done)))); (have m2 := keepc hbn (p := ⟨D, 2, none⟩) (u := .int .i64 1) (by (first | (go_simp; done) | (simp [*, World.cell?_alloc_at, World.cell?_alloc_past, World.cell?_alloc_some, World.cell?_setCell_far]; done)))); (have m3 := keepc hbn (p := ⟨R, 1, none⟩) (u := .int .i64 (-1)) (by (first | (go_simp; done) | (simp [*, World.cell?_alloc_at, World.cell?_alloc_past, World.cell?_alloc_some, World.cell?_setCell_far]; done)))); (have m4 := keepc hbn (p := ⟨R, 2, none⟩) (u := .int .i64 0) (by (first | (go_simp; done) | (simp [*, World.cell?_alloc_at, World.cell?_alloc_past, World.cell?_alloc_some, World.cell?_setCell_far]; done)))); (have m5 := keepc hbn (p := ⟨N, 0, none⟩) (u := .slice a9 n9 c9) (by (first | (go_simp; done) | (simp [*, World.cell?_alloc_at, World.cell?_alloc_past, World.cell?_alloc_some, World.cell?_setCell_far]; done)))); (have m6 := keepc hbn (p := ⟨N, 1, none⟩) (u := .int .i64 (-1)) (by (first | (go_simp; done) | (simp [*, World.cell?_alloc_at, World.cell?_alloc_past, World.cell?_alloc_some, World.cell?_setCell_far]; done)))); (have m7 := keepc hbn (p := ⟨N, 2, none⟩) (u := .int .i64 0) (by (first | (go_simp; done) | (simp [*, World.cell?_alloc_at, World.cell?_alloc_past, World.cell?_alloc_some, World.cell?_setCell_far]; done)))); (have m9 := keepc hbn (p := ⟨g7, o7, none⟩) (u := .int .i64 0) (by (first | (go_simp; done) | (simp [*, World.cell?_alloc_at, World.cell?_alloc_past, World.cell?_alloc_some, World.cell?_setCell_far]; done)))))
      | (go_at_call 17; refine (BSame_c a9 an n9 3 c9 cn ⟨[0, 0, 0], -1, 0⟩ ⟨[0, 0, 0], -1, 0⟩ _ (by refine Ints.below i9 (B := v9.heap.size) ?_ (Nat.le_refl _); (repeat first | exact bel0 | assumption | refine bel1 ?_ | refine bel2 ?_ | refine bel3 ?_ | refine belowT ?_ (by assumption) | refine bel5 ?_ (by simp; try omega))) iN).mono ?_; rintro e ws ⟨rfl, hbs⟩; rw [show sameB ⟨[0, 0, 0], -1, 0⟩ ⟨[0, 0, 0], -1, 0⟩ = true from rfl]; (have m0 := keepc hbs (p := ⟨D, 0, none⟩) (u := .slice (some ⟨g7, o7, none⟩) 3 c7) (by (first | (go_simp; done) | (simp [*, World.cell?_alloc_at, World.cell?_alloc_past, World.cell?_alloc_some, World.cell?_setCell_far]; done)))); (have m1 := keepc hbs (p := ⟨D, 1, none⟩) (u := .int .i64 1) (by (first | (go_simp; done) | (simp [*, World.cell?_alloc_at, World.cell?_alloc_past, World.cell?_alloc_some, World.cell?_setCell_far]; done)))); (have m2 := keepc hbs (p := ⟨D, 2, none⟩) (u := .int .i64 1) (by (first | (go_simp; done) | (simp [*, World.cell?_alloc_at, World.cell?_alloc_past, World.cell?_alloc_some, World.cell?_setCell_far]; done)))); (have m3 := keepc hbs (p := ⟨R, 1, none⟩) (u := .int .i64 (-1)) (by (first | (go_simp; done) | (simp [*, World.cell?_alloc_at, World.cell?_alloc_past, World.cell?_alloc_some, World.cell?_setCell_far]; done)))); (have m4 := keepc hbs (p := ⟨R, 2, none⟩) (u := .int .i64 0) (by (first | (go_simp; done) | (simp [*, World.cell?_alloc_at, World.cell?_alloc_past, World.cell?_alloc_some, World.cell?_setCell_far]; done)))); (have m5 := keepc hbs (p := ⟨N, 0, none⟩) (u := .slice a9 n9 c9) (by (first | (go_simp; done) | (simp [*, World.cell?_alloc_at, World.cell?_alloc_past, World.cell?_alloc_some, World.cell?_setCell_far]; done)))); (have m6 := keepc hbs (p := ⟨N, 1, none⟩) (u := .int .i64 (-1)) (by (first | (go_simp; done) | (simp [*, World.cell?_alloc_at, World.cell?_alloc_past, World.cell?_alloc_some, World.cell?_setCell_far]; done)))); (have m7 := keepc hbs (p := ⟨N, 2, none⟩) (u := .int .i64 0) (by (first | (go_simp; done) | (simp [*, World.cell?_alloc_at, World.cell?_alloc_past, World.cell?_alloc_some, World.cell?_setCell_far]; done)))); (have m9 := keepc hbs (p := ⟨g7, o7, none⟩) (u := .int .i64 0) (by (first | (go_simp; done) | (simp [*, World.cell?_alloc_at, World.cell?_alloc_past, World.cell?_alloc_some, World.cell?_setCell_far]; done)))))
      | (go_at_call 16; refine (BCheck_c _ 3 c7 ⟨[0, 6, 0], 1, 1⟩ _ (by refine Ints.below i7 (B := v9.heap.size) ?_ (Nat.le_refl _); (repeat first | exact bel0 | assumption | refine bel1 ?_ | refine bel2 ?_ | refine bel3 ?_ | refine belowT ?_ (by assumption) | refine bel5 ?_ (by simp; try omega)))).mono ?_; rintro e wk ⟨rfl, hbk⟩; rw [show checkB ⟨[0, 6, 0], 1, 1⟩ = 0 from rfl]; (have m0 := keepc hbk (p := ⟨D, 0, none⟩) (u := .slice (some ⟨g7, o7, none⟩) 3 c7) (by (first | (go_simp; done) | (simp [*, World.cell?_alloc_at, World.cell?_alloc_past, World.cell?_alloc_some, World.cell?_setCell_far]; done)))); (have m1 := keepc hbk (p := ⟨D, 1, none⟩) (u := .int .i64 1) (by (first | (go_simp; done) | (simp [*, World.cell?_alloc_at, World.cell?_alloc_past, World.cell?_alloc_some, World.cell?_setCell_far]; done)))); (have m2 := keepc hbk (p := ⟨D, 2, none⟩) (u := .int .i64 1) (by (first | (go_simp; done) | (simp [*, World.cell?_alloc_at, World.cell?_alloc_past, World.cell?_alloc_some, World.cell?_setCell_far]; done)))); (have m3 := keepc hbk (p := ⟨R, 1, none⟩) (u := .int .i64 (-1)) (by (first | (go_simp; done) | (simp [*, World.cell?_alloc_at, World.cell?_alloc_past, World.cell?_alloc_some, World.cell?_setCell_far]; done)))); (have m4 := keepc hbk (p := ⟨R, 2, none⟩) (u := .int .i64 0) (by (first | (go_simp; done) | (simp [*, World.cell?_alloc_at, World.cell?_alloc_past, World.cell?_alloc_some, World.cell?_setCell_far]; done)))); (have m5 := keepc hbk (p := ⟨N, 0, none⟩) (u := .slice a9 n9 c9) (by (first | (go_simp; done) | (simp [*, World.cell?_alloc_at, World.cell?_alloc_past, World.cell?_alloc_some, World.cell?_setCell_far]; done)))); (have m6 := keepc hbk (p := ⟨N, 1, none⟩) (u := .int .i64 (-1)) (by (first | (go_simp; done) | (simp [*, World.cell?_alloc_at, World.cell?_alloc_past, World.cell?_alloc_some, World.cell?_setCell_far]; done)))); (have m7 := keepc hbk (p := ⟨N, 2, none⟩) (u := .int .i64 0) (by (first | (go_simp; done) | (simp [*, World.cell?_alloc_at, World.cell?_alloc_past, World.cell?_alloc_some, World.cell?_setCell_far]; done)))); (have m9 := keepc hbk (p := ⟨g7, o7, none⟩) (u := .int .i64 0) (by (first | (go_simp; done) | (simp [*, World.cell?_alloc_at, World.cell?_alloc_past, World.cell?_alloc_some, World.cell?_setCell_far]; done))))))
  go_wp2
  go_ret
  exact ⟨rfl, by (repeat first | exact bel0 | assumption | refine bel1 ?_ | refine bel2 ?_ | refine bel3 ?_ | refine belowT ?_ (by assumption) | refine bel5 ?_ (by simp; try omega))⟩

end Go.Proofs.Ytogpbihmofbfjaa
