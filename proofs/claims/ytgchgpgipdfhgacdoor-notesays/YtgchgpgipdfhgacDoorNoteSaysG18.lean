/- The law NoteSays returns true, wherever its arguments read and the package-level variables are as their texts lay them. -/
import Derived.Test.YtgchgpgipdfhgacDoorNoteSaysG14
import Derived.Test.YtgchgpgipdfhgacDoorNoteSaysG17
namespace Go.Proofs.YtgchgpgipdfhgacDoor
open Go.RowKit
set_option linter.unusedVariables false
set_option maxRecDepth 100000
set_option linter.unusedSimpArgs false

theorem printR_2 (r : PR) : (printR r).2 = checkR r := by
  unfold printR
  split
  · rename_i h; exact h.symm
  · rfl

set_option maxRecDepth 100000 in
set_option maxHeartbeats 4000000 in
theorem NoteSays_c (x y : RV) (s : ByteArray) (w : World) (hE : Env w) (h1 : x.ok w) (h2 : y.ok w) (hs : s.size ≤ 9223372036854775807) :
    Calls Tryd.prog 6 #[x.v, y.v, .string s] w fun e w' => e = .returned (.bool true) ∧ Below w.heap.size w w' := by
  have HP1 := hide (fun w' hE h => NPrint_c x w' hE h)
  have HT1 := hide (fun w' hE h => RecText_c x w' hE h)
  have HK1 := hide (fun w' hS h => NCheck_c x w' hS h)
  have HS1 := hide (fun w' h1 h2 => NSame_c x y w' h1 h2)
  have HS2 := hide (fun w' h1 h2 => SameRec_c x y w' h1 h2)
  obtain ⟨⟨q1, s1, ⟨k1, z1, m1, t1, d1⟩⟩, a1, n1, c1⟩ := x
  obtain ⟨⟨q2, s2, ⟨k2, z2, m2, t2, d2⟩⟩, a2, n2, c2⟩ := y
  dsimp only [RV.v, RV.ok] at *
  rw [printR_2] at HP1 HT1
  have HLG : Hid (60000 < s.size → parseR s.data.toList = (zeroR, 2)) := hide (fun h => by unfold parseR; rw [if_pos (by rw [Lib.size_eq] at h; exact h)])
  generalize sameR ⟨q1, s1, ⟨k1, z1, m1, t1, d1⟩⟩ ⟨q2, s2, ⟨k2, z2, m2, t2, d2⟩⟩ = sm at *
  generalize checkR ⟨q1, s1, ⟨k1, z1, m1, t1, d1⟩⟩ = cb at *
  unfold textV at HP1 HT1
  generalize (⟨(printR ⟨q1, s1, ⟨k1, z1, m1, t1, d1⟩⟩).1.toArray⟩ : ByteArray) = TT at *
  go_enter Tryd.func6, Tryd.ntmps6
  go_wp2_with fail
  refine (HP1.out _ (hE.below (by (repeat (first | exact Below.refl _ _ | assumption | refine Below.drew ?_ | refine below_drewN ?_ _ | refine belowA ?_ _ | refine belowT ?_ (by assumption) | refine Below.setCell ?_ (by first | (simp; done) | (simp; omega)) _)))) (h1.below (B := w.heap.size) (by (repeat (first | exact Below.refl _ _ | assumption | refine Below.drew ?_ | refine below_drewN ?_ _ | refine belowA ?_ _ | refine belowT ?_ (by assumption) | refine Below.setCell ?_ (by first | (simp; done) | (simp; omega)) _))) (Nat.le_refl _))).mono ?_
  rintro e w1 ⟨rfl, hb1⟩
  have bw1 : Below w.heap.size w w1 := by (repeat (first | exact Below.refl _ _ | assumption | refine Below.drew ?_ | refine below_drewN ?_ _ | refine belowA ?_ _ | refine belowT ?_ (by assumption) | refine Below.setCell ?_ (by first | (simp; done) | (simp; omega)) _))
  have u0 := keepc hb1 (p := ⟨w.heap.size, 0, none⟩) (u := .int .i64 q1) (by (first | (go_simp; done) | (simp [*, World.cell?_alloc_at, World.cell?_alloc_past, World.cell?_alloc_some, World.cell?_setCell_far]; done)))
  have u1 := keepc hb1 (p := ⟨w.heap.size, 1, none⟩) (u := .int .i64 s1) (by (first | (go_simp; done) | (simp [*, World.cell?_alloc_at, World.cell?_alloc_past, World.cell?_alloc_some, World.cell?_setCell_far]; done)))
  have u2 := keepc hb1 (p := ⟨w.heap.size, 2, none⟩) (u := .int .i64 k1) (by (first | (go_simp; done) | (simp [*, World.cell?_alloc_at, World.cell?_alloc_past, World.cell?_alloc_some, World.cell?_setCell_far]; done)))
  have u3 := keepc hb1 (p := ⟨w.heap.size, 3, none⟩) (u := .int .i64 z1) (by (first | (go_simp; done) | (simp [*, World.cell?_alloc_at, World.cell?_alloc_past, World.cell?_alloc_some, World.cell?_setCell_far]; done)))
  have u4 := keepc hb1 (p := ⟨w.heap.size, 4, none⟩) (u := .int .i64 m1) (by (first | (go_simp; done) | (simp [*, World.cell?_alloc_at, World.cell?_alloc_past, World.cell?_alloc_some, World.cell?_setCell_far]; done)))
  have u5 := keepc hb1 (p := ⟨w.heap.size, 5, none⟩) (u := .int .i64 t1) (by (first | (go_simp; done) | (simp [*, World.cell?_alloc_at, World.cell?_alloc_past, World.cell?_alloc_some, World.cell?_setCell_far]; done)))
  have u6 := keepc hb1 (p := ⟨w.heap.size, 6, none⟩) (u := .slice a1 n1 c1) (by (first | (go_simp; done) | (simp [*, World.cell?_alloc_at, World.cell?_alloc_past, World.cell?_alloc_some, World.cell?_setCell_far]; done)))
  have u7 := keepc hb1 (p := ⟨w.heap.size + 1, 0, none⟩) (u := .int .i64 q2) (by (first | (go_simp; done) | (simp [*, World.cell?_alloc_at, World.cell?_alloc_past, World.cell?_alloc_some, World.cell?_setCell_far]; done)))
  have u8 := keepc hb1 (p := ⟨w.heap.size + 1, 1, none⟩) (u := .int .i64 s2) (by (first | (go_simp; done) | (simp [*, World.cell?_alloc_at, World.cell?_alloc_past, World.cell?_alloc_some, World.cell?_setCell_far]; done)))
  have u9 := keepc hb1 (p := ⟨w.heap.size + 1, 2, none⟩) (u := .int .i64 k2) (by (first | (go_simp; done) | (simp [*, World.cell?_alloc_at, World.cell?_alloc_past, World.cell?_alloc_some, World.cell?_setCell_far]; done)))
  have u10 := keepc hb1 (p := ⟨w.heap.size + 1, 3, none⟩) (u := .int .i64 z2) (by (first | (go_simp; done) | (simp [*, World.cell?_alloc_at, World.cell?_alloc_past, World.cell?_alloc_some, World.cell?_setCell_far]; done)))
  have u11 := keepc hb1 (p := ⟨w.heap.size + 1, 4, none⟩) (u := .int .i64 m2) (by (first | (go_simp; done) | (simp [*, World.cell?_alloc_at, World.cell?_alloc_past, World.cell?_alloc_some, World.cell?_setCell_far]; done)))
  have u12 := keepc hb1 (p := ⟨w.heap.size + 1, 5, none⟩) (u := .int .i64 t2) (by (first | (go_simp; done) | (simp [*, World.cell?_alloc_at, World.cell?_alloc_past, World.cell?_alloc_some, World.cell?_setCell_far]; done)))
  have u13 := keepc hb1 (p := ⟨w.heap.size + 1, 6, none⟩) (u := .slice a2 n2 c2) (by (first | (go_simp; done) | (simp [*, World.cell?_alloc_at, World.cell?_alloc_past, World.cell?_alloc_some, World.cell?_setCell_far]; done)))
  clear hb1 HP1
  go_wp2_with fail
  refine (NParse_c s _ (hE.below bw1) hs).mono ?_
  rintro e w2 ⟨⟨⟨pX, aX, nX, cX⟩, rfl, ePX, iX, _⟩, hb2⟩
  have bw2 : Below w.heap.size w w2 := by (repeat (first | exact Below.refl _ _ | assumption | refine Below.drew ?_ | refine below_drewN ?_ _ | refine belowA ?_ _ | refine belowT ?_ (by assumption) | refine Below.setCell ?_ (by first | (simp; done) | (simp; omega)) _))
  have v0 := keepc hb2 (p := ⟨w.heap.size, 0, none⟩) (u := .int .i64 q1) (by (first | (go_simp; done) | (simp [*, World.cell?_alloc_at, World.cell?_alloc_past, World.cell?_alloc_some, World.cell?_setCell_far]; done)))
  have v1 := keepc hb2 (p := ⟨w.heap.size, 1, none⟩) (u := .int .i64 s1) (by (first | (go_simp; done) | (simp [*, World.cell?_alloc_at, World.cell?_alloc_past, World.cell?_alloc_some, World.cell?_setCell_far]; done)))
  have v2 := keepc hb2 (p := ⟨w.heap.size, 2, none⟩) (u := .int .i64 k1) (by (first | (go_simp; done) | (simp [*, World.cell?_alloc_at, World.cell?_alloc_past, World.cell?_alloc_some, World.cell?_setCell_far]; done)))
  have v3 := keepc hb2 (p := ⟨w.heap.size, 3, none⟩) (u := .int .i64 z1) (by (first | (go_simp; done) | (simp [*, World.cell?_alloc_at, World.cell?_alloc_past, World.cell?_alloc_some, World.cell?_setCell_far]; done)))
  have v4 := keepc hb2 (p := ⟨w.heap.size, 4, none⟩) (u := .int .i64 m1) (by (first | (go_simp; done) | (simp [*, World.cell?_alloc_at, World.cell?_alloc_past, World.cell?_alloc_some, World.cell?_setCell_far]; done)))
  have v5 := keepc hb2 (p := ⟨w.heap.size, 5, none⟩) (u := .int .i64 t1) (by (first | (go_simp; done) | (simp [*, World.cell?_alloc_at, World.cell?_alloc_past, World.cell?_alloc_some, World.cell?_setCell_far]; done)))
  have v6 := keepc hb2 (p := ⟨w.heap.size, 6, none⟩) (u := .slice a1 n1 c1) (by (first | (go_simp; done) | (simp [*, World.cell?_alloc_at, World.cell?_alloc_past, World.cell?_alloc_some, World.cell?_setCell_far]; done)))
  have v7 := keepc hb2 (p := ⟨w.heap.size + 1, 0, none⟩) (u := .int .i64 q2) (by (first | (go_simp; done) | (simp [*, World.cell?_alloc_at, World.cell?_alloc_past, World.cell?_alloc_some, World.cell?_setCell_far]; done)))
  have v8 := keepc hb2 (p := ⟨w.heap.size + 1, 1, none⟩) (u := .int .i64 s2) (by (first | (go_simp; done) | (simp [*, World.cell?_alloc_at, World.cell?_alloc_past, World.cell?_alloc_some, World.cell?_setCell_far]; done)))
  have v9 := keepc hb2 (p := ⟨w.heap.size + 1, 2, none⟩) (u := .int .i64 k2) (by (first | (go_simp; done) | (simp [*, World.cell?_alloc_at, World.cell?_alloc_past, World.cell?_alloc_some, World.cell?_setCell_far]; done)))
  have v10 := keepc hb2 (p := ⟨w.heap.size + 1, 3, none⟩) (u := .int .i64 z2) (by (first | (go_simp; done) | (simp [*, World.cell?_alloc_at, World.cell?_alloc_past, World.cell?_alloc_some, World.cell?_setCell_far]; done)))
  have v11 := keepc hb2 (p := ⟨w.heap.size + 1, 4, none⟩) (u := .int .i64 m2) (by (first | (go_simp; done) | (simp [*, World.cell?_alloc_at, World.cell?_alloc_past, World.cell?_alloc_some, World.cell?_setCell_far]; done)))
  have v12 := keepc hb2 (p := ⟨w.heap.size + 1, 5, none⟩) (u := .int .i64 t2) (by (first | (go_simp; done) | (simp [*, World.cell?_alloc_at, World.cell?_alloc_past, World.cell?_alloc_some, World.cell?_setCell_far]; done)))
  have v13 := keepc hb2 (p := ⟨w.heap.size + 1, 6, none⟩) (u := .slice a2 n2 c2) (by (first | (go_simp; done) | (simp [*, World.cell?_alloc_at, World.cell?_alloc_past, World.cell?_alloc_some, World.cell?_setCell_far]; done)))
  clear hb2 bw1 u0 u1 u2 u3 u4 u5 u6 u7 u8 u9 u10 u11 u12 u13
  have HYR := hide (fun w' hE hh => RecRead_c s w' hE hh)
  generalize parseR s.data.toList = R at *
  obtain ⟨yy, yr⟩ := R
  dsimp only [RV.ok] at ePX iX HLG
  subst ePX
  obtain ⟨qx, sx, ⟨kx, zx, mx, tx, dx⟩⟩ := pX
  dsimp only [RV.v] at iX ⊢
  go_upto_region 3 with fail
  have xX := Lay.made w2 [.int .i64 qx, .int .i64 sx, .int .i64 kx, .int .i64 zx, .int .i64 mx, .int .i64 tx, .slice aX nX cX] 54
  have hb3 : Below w2.heap.size w2 (w2.alloc (.cells [.int .i64 qx, .int .i64 sx, .int .i64 kx, .int .i64 zx, .int .i64 mx, .int .i64 tx, .slice aX nX cX].toArray 54)) := belowA (Below.refl _ _) _
  generalize w2.alloc (.cells [.int .i64 qx, .int .i64 sx, .int .i64 kx, .int .i64 zx, .int .i64 mx, .int .i64 tx, .slice aX nX cX].toArray 54) = w3 at *
  have bw3 : Below w.heap.size w w3 := by (repeat (first | exact Below.refl _ _ | assumption | refine Below.drew ?_ | refine below_drewN ?_ _ | refine belowA ?_ _ | refine belowT ?_ (by assumption) | refine Below.setCell ?_ (by first | (simp; done) | (simp; omega)) _))
  have jX := iX.below hb3 (Nat.le_refl _)
  have u0 := keepc hb3 (p := ⟨w.heap.size, 0, none⟩) (u := .int .i64 q1) (by (first | (go_simp; done) | (simp [*, World.cell?_alloc_at, World.cell?_alloc_past, World.cell?_alloc_some, World.cell?_setCell_far]; done)))
  have u1 := keepc hb3 (p := ⟨w.heap.size, 1, none⟩) (u := .int .i64 s1) (by (first | (go_simp; done) | (simp [*, World.cell?_alloc_at, World.cell?_alloc_past, World.cell?_alloc_some, World.cell?_setCell_far]; done)))
  have u2 := keepc hb3 (p := ⟨w.heap.size, 2, none⟩) (u := .int .i64 k1) (by (first | (go_simp; done) | (simp [*, World.cell?_alloc_at, World.cell?_alloc_past, World.cell?_alloc_some, World.cell?_setCell_far]; done)))
  have u3 := keepc hb3 (p := ⟨w.heap.size, 3, none⟩) (u := .int .i64 z1) (by (first | (go_simp; done) | (simp [*, World.cell?_alloc_at, World.cell?_alloc_past, World.cell?_alloc_some, World.cell?_setCell_far]; done)))
  have u4 := keepc hb3 (p := ⟨w.heap.size, 4, none⟩) (u := .int .i64 m1) (by (first | (go_simp; done) | (simp [*, World.cell?_alloc_at, World.cell?_alloc_past, World.cell?_alloc_some, World.cell?_setCell_far]; done)))
  have u5 := keepc hb3 (p := ⟨w.heap.size, 5, none⟩) (u := .int .i64 t1) (by (first | (go_simp; done) | (simp [*, World.cell?_alloc_at, World.cell?_alloc_past, World.cell?_alloc_some, World.cell?_setCell_far]; done)))
  have u6 := keepc hb3 (p := ⟨w.heap.size, 6, none⟩) (u := .slice a1 n1 c1) (by (first | (go_simp; done) | (simp [*, World.cell?_alloc_at, World.cell?_alloc_past, World.cell?_alloc_some, World.cell?_setCell_far]; done)))
  have u7 := keepc hb3 (p := ⟨w.heap.size + 1, 0, none⟩) (u := .int .i64 q2) (by (first | (go_simp; done) | (simp [*, World.cell?_alloc_at, World.cell?_alloc_past, World.cell?_alloc_some, World.cell?_setCell_far]; done)))
  have u8 := keepc hb3 (p := ⟨w.heap.size + 1, 1, none⟩) (u := .int .i64 s2) (by (first | (go_simp; done) | (simp [*, World.cell?_alloc_at, World.cell?_alloc_past, World.cell?_alloc_some, World.cell?_setCell_far]; done)))
  have u9 := keepc hb3 (p := ⟨w.heap.size + 1, 2, none⟩) (u := .int .i64 k2) (by (first | (go_simp; done) | (simp [*, World.cell?_alloc_at, World.cell?_alloc_past, World.cell?_alloc_some, World.cell?_setCell_far]; done)))
  have u10 := keepc hb3 (p := ⟨w.heap.size + 1, 3, none⟩) (u := .int .i64 z2) (by (first | (go_simp; done) | (simp [*, World.cell?_alloc_at, World.cell?_alloc_past, World.cell?_alloc_some, World.cell?_setCell_far]; done)))
  have u11 := keepc hb3 (p := ⟨w.heap.size + 1, 4, none⟩) (u := .int .i64 m2) (by (first | (go_simp; done) | (simp [*, World.cell?_alloc_at, World.cell?_alloc_past, World.cell?_alloc_some, World.cell?_setCell_far]; done)))
  have u12 := keepc hb3 (p := ⟨w.heap.size + 1, 5, none⟩) (u := .int .i64 t2) (by (first | (go_simp; done) | (simp [*, World.cell?_alloc_at, World.cell?_alloc_past, World.cell?_alloc_some, World.cell?_setCell_far]; done)))
  have u13 := keepc hb3 (p := ⟨w.heap.size + 1, 6, none⟩) (u := .slice a2 n2 c2) (by (first | (go_simp; done) | (simp [*, World.cell?_alloc_at, World.cell?_alloc_past, World.cell?_alloc_some, World.cell?_setCell_far]; done)))
  clear hb3 iX bw2 v0 v1 v2 v3 v4 v5 v6 v7 v8 v9 v10 v11 v12 v13
  generalize w2.heap.size = X at *
  go_wp2_with fail
  refine (HT1.out _ (hE.below bw3) (h1.below bw3 (Nat.le_refl _))).mono ?_
  rintro e w5 ⟨rfl, hb5⟩
  have bw5 : Below w.heap.size w w5 := by (repeat (first | exact Below.refl _ _ | assumption | refine Below.drew ?_ | refine below_drewN ?_ _ | refine belowA ?_ _ | refine belowT ?_ (by assumption) | refine Below.setCell ?_ (by first | (simp; done) | (simp; omega)) _))
  have v0 := keepc hb5 (p := ⟨w.heap.size, 0, none⟩) (u := .int .i64 q1) (by (first | (go_simp; done) | (simp [*, World.cell?_alloc_at, World.cell?_alloc_past, World.cell?_alloc_some, World.cell?_setCell_far]; done)))
  have v1 := keepc hb5 (p := ⟨w.heap.size, 1, none⟩) (u := .int .i64 s1) (by (first | (go_simp; done) | (simp [*, World.cell?_alloc_at, World.cell?_alloc_past, World.cell?_alloc_some, World.cell?_setCell_far]; done)))
  have v2 := keepc hb5 (p := ⟨w.heap.size, 2, none⟩) (u := .int .i64 k1) (by (first | (go_simp; done) | (simp [*, World.cell?_alloc_at, World.cell?_alloc_past, World.cell?_alloc_some, World.cell?_setCell_far]; done)))
  have v3 := keepc hb5 (p := ⟨w.heap.size, 3, none⟩) (u := .int .i64 z1) (by (first | (go_simp; done) | (simp [*, World.cell?_alloc_at, World.cell?_alloc_past, World.cell?_alloc_some, World.cell?_setCell_far]; done)))
  have v4 := keepc hb5 (p := ⟨w.heap.size, 4, none⟩) (u := .int .i64 m1) (by (first | (go_simp; done) | (simp [*, World.cell?_alloc_at, World.cell?_alloc_past, World.cell?_alloc_some, World.cell?_setCell_far]; done)))
  have v5 := keepc hb5 (p := ⟨w.heap.size, 5, none⟩) (u := .int .i64 t1) (by (first | (go_simp; done) | (simp [*, World.cell?_alloc_at, World.cell?_alloc_past, World.cell?_alloc_some, World.cell?_setCell_far]; done)))
  have v6 := keepc hb5 (p := ⟨w.heap.size, 6, none⟩) (u := .slice a1 n1 c1) (by (first | (go_simp; done) | (simp [*, World.cell?_alloc_at, World.cell?_alloc_past, World.cell?_alloc_some, World.cell?_setCell_far]; done)))
  have v7 := keepc hb5 (p := ⟨w.heap.size + 1, 0, none⟩) (u := .int .i64 q2) (by (first | (go_simp; done) | (simp [*, World.cell?_alloc_at, World.cell?_alloc_past, World.cell?_alloc_some, World.cell?_setCell_far]; done)))
  have v8 := keepc hb5 (p := ⟨w.heap.size + 1, 1, none⟩) (u := .int .i64 s2) (by (first | (go_simp; done) | (simp [*, World.cell?_alloc_at, World.cell?_alloc_past, World.cell?_alloc_some, World.cell?_setCell_far]; done)))
  have v9 := keepc hb5 (p := ⟨w.heap.size + 1, 2, none⟩) (u := .int .i64 k2) (by (first | (go_simp; done) | (simp [*, World.cell?_alloc_at, World.cell?_alloc_past, World.cell?_alloc_some, World.cell?_setCell_far]; done)))
  have v10 := keepc hb5 (p := ⟨w.heap.size + 1, 3, none⟩) (u := .int .i64 z2) (by (first | (go_simp; done) | (simp [*, World.cell?_alloc_at, World.cell?_alloc_past, World.cell?_alloc_some, World.cell?_setCell_far]; done)))
  have v11 := keepc hb5 (p := ⟨w.heap.size + 1, 4, none⟩) (u := .int .i64 m2) (by (first | (go_simp; done) | (simp [*, World.cell?_alloc_at, World.cell?_alloc_past, World.cell?_alloc_some, World.cell?_setCell_far]; done)))
  have v12 := keepc hb5 (p := ⟨w.heap.size + 1, 5, none⟩) (u := .int .i64 t2) (by (first | (go_simp; done) | (simp [*, World.cell?_alloc_at, World.cell?_alloc_past, World.cell?_alloc_some, World.cell?_setCell_far]; done)))
  have v13 := keepc hb5 (p := ⟨w.heap.size + 1, 6, none⟩) (u := .slice a2 n2 c2) (by (first | (go_simp; done) | (simp [*, World.cell?_alloc_at, World.cell?_alloc_past, World.cell?_alloc_some, World.cell?_setCell_far]; done)))
  replace xX := xX.below hb5
  replace jX := jX.below hb5 (Nat.le_refl _)
  clear hb5 bw3 u0 u1 u2 u3 u4 u5 u6 u7 u8 u9 u10 u11 u12 u13 HT1
  go_upto_region 4 with fail
  go_region_held3 (fun w' => w'.cell? ⟨w.heap.size, 0, none⟩ = some (.int .i64 q1) ∧ w'.cell? ⟨w.heap.size, 1, none⟩ = some (.int .i64 s1) ∧ w'.cell? ⟨w.heap.size, 2, none⟩ = some (.int .i64 k1) ∧ w'.cell? ⟨w.heap.size, 3, none⟩ = some (.int .i64 z1) ∧ w'.cell? ⟨w.heap.size, 4, none⟩ = some (.int .i64 m1) ∧ w'.cell? ⟨w.heap.size, 5, none⟩ = some (.int .i64 t1) ∧ w'.cell? ⟨w.heap.size, 6, none⟩ = some (.slice a1 n1 c1) ∧ w'.cell? ⟨w.heap.size + 1, 0, none⟩ = some (.int .i64 q2) ∧ w'.cell? ⟨w.heap.size + 1, 1, none⟩ = some (.int .i64 s2) ∧ w'.cell? ⟨w.heap.size + 1, 2, none⟩ = some (.int .i64 k2) ∧ w'.cell? ⟨w.heap.size + 1, 3, none⟩ = some (.int .i64 z2) ∧ w'.cell? ⟨w.heap.size + 1, 4, none⟩ = some (.int .i64 m2) ∧ w'.cell? ⟨w.heap.size + 1, 5, none⟩ = some (.int .i64 t2) ∧ w'.cell? ⟨w.heap.size + 1, 6, none⟩ = some (.slice a2 n2 c2)) ((first | (go_simp; done) | (simp [*, World.cell?_alloc_at, World.cell?_alloc_past, World.cell?_alloc_some, World.cell?_setCell_far]; done))) (first
    | (go_at_call 25; refine (lined_c _ (by refine hE.below ?_; (repeat (first | exact Below.refl _ _ | assumption | refine Below.drew ?_ | refine below_drewN ?_ _ | refine belowA ?_ _ | refine belowT ?_ (by assumption) | refine Below.setCell ?_ (by first | (simp; done) | (simp; omega)) _)))).mono ?_; rintro e w9 ⟨rfl, hb9⟩; (have f0 := keepc hb9 (p := ⟨w.heap.size, 0, none⟩) (u := .int .i64 q1) (by (first | (go_simp; done) | (simp [*, World.cell?_alloc_at, World.cell?_alloc_past, World.cell?_alloc_some, World.cell?_setCell_far]; done)))); (have f1 := keepc hb9 (p := ⟨w.heap.size, 1, none⟩) (u := .int .i64 s1) (by (first | (go_simp; done) | (simp [*, World.cell?_alloc_at, World.cell?_alloc_past, World.cell?_alloc_some, World.cell?_setCell_far]; done)))); (have f2 := keepc hb9 (p := ⟨w.heap.size, 2, none⟩) (u := .int .i64 k1) (by (first | (go_simp; done) | (simp [*, World.cell?_alloc_at, World.cell?_alloc_past, World.cell?_alloc_some, World.cell?_setCell_far]; done)))); (have f3 := keepc hb9 (p := ⟨w.heap.size, 3, none⟩) (u := .int .i64 z1) (by (first | (go_simp; done) | (simp [*, World.cell?_alloc_at, World.cell?_alloc_past, World.cell?_alloc_some, World.cell?_setCell_far]; done)))); (have f4 := keepc hb9 (p := ⟨w.heap.size, 4, none⟩) (u := .int .i64 m1) (by (first | (go_simp; done) | (simp [*, World.cell?_alloc_at, World.cell?_alloc_past, World.cell?_alloc_some, World.cell?_setCell_far]; done)))); (have f5 := keepc hb9 (p := ⟨w.heap.size, 5, none⟩) (u := .int .i64 t1) (by (first | (go_simp; done) | (simp [*, World.cell?_alloc_at, World.cell?_alloc_past, World.cell?_alloc_some, World.cell?_setCell_far]; done)))); (have f6 := keepc hb9 (p := ⟨w.heap.size, 6, none⟩) (u := .slice a1 n1 c1) (by (first | (go_simp; done) | (simp [*, World.cell?_alloc_at, World.cell?_alloc_past, World.cell?_alloc_some, World.cell?_setCell_far]; done)))); (have f7 := keepc hb9 (p := ⟨w.heap.size + 1, 0, none⟩) (u := .int .i64 q2) (by (first | (go_simp; done) | (simp [*, World.cell?_alloc_at, World.cell?_alloc_past, World.cell?_alloc_some, World.cell?_setCell_far]; done)))); (have f8 := keepc hb9 (p := ⟨w.heap.size + 1, 1, none⟩) (u := .int .i64 s2) (by (first | (go_simp; done) | (simp [*, World.cell?_alloc_at, World.cell?_alloc_past, World.cell?_alloc_some, World.cell?_setCell_far]; done)))); (have f9 := keepc hb9 (p := ⟨w.heap.size + 1, 2, none⟩) (u := .int .i64 k2) (by (first | (go_simp; done) | (simp [*, World.cell?_alloc_at, World.cell?_alloc_past, World.cell?_alloc_some, World.cell?_setCell_far]; done)))); (have f10 := keepc hb9 (p := ⟨w.heap.size + 1, 3, none⟩) (u := .int .i64 z2) (by (first | (go_simp; done) | (simp [*, World.cell?_alloc_at, World.cell?_alloc_past, World.cell?_alloc_some, World.cell?_setCell_far]; done)))); (have f11 := keepc hb9 (p := ⟨w.heap.size + 1, 4, none⟩) (u := .int .i64 m2) (by (first | (go_simp; done) | (simp [*, World.cell?_alloc_at, World.cell?_alloc_past, World.cell?_alloc_some, World.cell?_setCell_far]; done)))); (have f12 := keepc hb9 (p := ⟨w.heap.size + 1, 5, none⟩) (u := .int .i64 t2) (by (first | (go_simp; done) | (simp [*, World.cell?_alloc_at, World.cell?_alloc_past, World.cell?_alloc_some, World.cell?_setCell_far]; done)))); (have f13 := keepc hb9 (p := ⟨w.heap.size + 1, 6, none⟩) (u := .slice a2 n2 c2) (by (first | (go_simp; done) | (simp [*, World.cell?_alloc_at, World.cell?_alloc_past, World.cell?_alloc_some, World.cell?_setCell_far]; done)))))
    | (go_at_call 26; refine (HK1.out _ (by refine hE.shp.below ?_; (repeat (first | exact Below.refl _ _ | assumption | refine Below.drew ?_ | refine below_drewN ?_ _ | refine belowA ?_ _ | refine belowT ?_ (by assumption) | refine Below.setCell ?_ (by first | (simp; done) | (simp; omega)) _))) (by refine Ints.below h1 (B := w.heap.size) ?_ (Nat.le_refl _); (repeat (first | exact Below.refl _ _ | assumption | refine Below.drew ?_ | refine below_drewN ?_ _ | refine belowA ?_ _ | refine belowT ?_ (by assumption) | refine Below.setCell ?_ (by first | (simp; done) | (simp; omega)) _)))).mono ?_; rintro e w8 ⟨rfl, hb8⟩; (have g0 := keepc hb8 (p := ⟨w.heap.size, 0, none⟩) (u := .int .i64 q1) (by (first | (go_simp; done) | (simp [*, World.cell?_alloc_at, World.cell?_alloc_past, World.cell?_alloc_some, World.cell?_setCell_far]; done)))); (have g1 := keepc hb8 (p := ⟨w.heap.size, 1, none⟩) (u := .int .i64 s1) (by (first | (go_simp; done) | (simp [*, World.cell?_alloc_at, World.cell?_alloc_past, World.cell?_alloc_some, World.cell?_setCell_far]; done)))); (have g2 := keepc hb8 (p := ⟨w.heap.size, 2, none⟩) (u := .int .i64 k1) (by (first | (go_simp; done) | (simp [*, World.cell?_alloc_at, World.cell?_alloc_past, World.cell?_alloc_some, World.cell?_setCell_far]; done)))); (have g3 := keepc hb8 (p := ⟨w.heap.size, 3, none⟩) (u := .int .i64 z1) (by (first | (go_simp; done) | (simp [*, World.cell?_alloc_at, World.cell?_alloc_past, World.cell?_alloc_some, World.cell?_setCell_far]; done)))); (have g4 := keepc hb8 (p := ⟨w.heap.size, 4, none⟩) (u := .int .i64 m1) (by (first | (go_simp; done) | (simp [*, World.cell?_alloc_at, World.cell?_alloc_past, World.cell?_alloc_some, World.cell?_setCell_far]; done)))); (have g5 := keepc hb8 (p := ⟨w.heap.size, 5, none⟩) (u := .int .i64 t1) (by (first | (go_simp; done) | (simp [*, World.cell?_alloc_at, World.cell?_alloc_past, World.cell?_alloc_some, World.cell?_setCell_far]; done)))); (have g6 := keepc hb8 (p := ⟨w.heap.size, 6, none⟩) (u := .slice a1 n1 c1) (by (first | (go_simp; done) | (simp [*, World.cell?_alloc_at, World.cell?_alloc_past, World.cell?_alloc_some, World.cell?_setCell_far]; done)))); (have g7 := keepc hb8 (p := ⟨w.heap.size + 1, 0, none⟩) (u := .int .i64 q2) (by (first | (go_simp; done) | (simp [*, World.cell?_alloc_at, World.cell?_alloc_past, World.cell?_alloc_some, World.cell?_setCell_far]; done)))); (have g8 := keepc hb8 (p := ⟨w.heap.size + 1, 1, none⟩) (u := .int .i64 s2) (by (first | (go_simp; done) | (simp [*, World.cell?_alloc_at, World.cell?_alloc_past, World.cell?_alloc_some, World.cell?_setCell_far]; done)))); (have g9 := keepc hb8 (p := ⟨w.heap.size + 1, 2, none⟩) (u := .int .i64 k2) (by (first | (go_simp; done) | (simp [*, World.cell?_alloc_at, World.cell?_alloc_past, World.cell?_alloc_some, World.cell?_setCell_far]; done)))); (have g10 := keepc hb8 (p := ⟨w.heap.size + 1, 3, none⟩) (u := .int .i64 z2) (by (first | (go_simp; done) | (simp [*, World.cell?_alloc_at, World.cell?_alloc_past, World.cell?_alloc_some, World.cell?_setCell_far]; done)))); (have g11 := keepc hb8 (p := ⟨w.heap.size + 1, 4, none⟩) (u := .int .i64 m2) (by (first | (go_simp; done) | (simp [*, World.cell?_alloc_at, World.cell?_alloc_past, World.cell?_alloc_some, World.cell?_setCell_far]; done)))); (have g12 := keepc hb8 (p := ⟨w.heap.size + 1, 5, none⟩) (u := .int .i64 t2) (by (first | (go_simp; done) | (simp [*, World.cell?_alloc_at, World.cell?_alloc_past, World.cell?_alloc_some, World.cell?_setCell_far]; done)))); (have g13 := keepc hb8 (p := ⟨w.heap.size + 1, 6, none⟩) (u := .slice a2 n2 c2) (by (first | (go_simp; done) | (simp [*, World.cell?_alloc_at, World.cell?_alloc_past, World.cell?_alloc_some, World.cell?_setCell_far]; done)))))
    | (go_at_call 27; refine (HS1.out _ (by refine Ints.below h1 (B := w.heap.size) ?_ (Nat.le_refl _); (repeat (first | exact Below.refl _ _ | assumption | refine Below.drew ?_ | refine below_drewN ?_ _ | refine belowA ?_ _ | refine belowT ?_ (by assumption) | refine Below.setCell ?_ (by first | (simp; done) | (simp; omega)) _))) (by refine Ints.below h2 (B := w.heap.size) ?_ (Nat.le_refl _); (repeat (first | exact Below.refl _ _ | assumption | refine Below.drew ?_ | refine below_drewN ?_ _ | refine belowA ?_ _ | refine belowT ?_ (by assumption) | refine Below.setCell ?_ (by first | (simp; done) | (simp; omega)) _)))).mono ?_; rintro e w7 ⟨rfl, hb7⟩; (have i0 := keepc hb7 (p := ⟨w.heap.size, 0, none⟩) (u := .int .i64 q1) (by (first | (go_simp; done) | (simp [*, World.cell?_alloc_at, World.cell?_alloc_past, World.cell?_alloc_some, World.cell?_setCell_far]; done)))); (have i1 := keepc hb7 (p := ⟨w.heap.size, 1, none⟩) (u := .int .i64 s1) (by (first | (go_simp; done) | (simp [*, World.cell?_alloc_at, World.cell?_alloc_past, World.cell?_alloc_some, World.cell?_setCell_far]; done)))); (have i2 := keepc hb7 (p := ⟨w.heap.size, 2, none⟩) (u := .int .i64 k1) (by (first | (go_simp; done) | (simp [*, World.cell?_alloc_at, World.cell?_alloc_past, World.cell?_alloc_some, World.cell?_setCell_far]; done)))); (have i3 := keepc hb7 (p := ⟨w.heap.size, 3, none⟩) (u := .int .i64 z1) (by (first | (go_simp; done) | (simp [*, World.cell?_alloc_at, World.cell?_alloc_past, World.cell?_alloc_some, World.cell?_setCell_far]; done)))); (have i4 := keepc hb7 (p := ⟨w.heap.size, 4, none⟩) (u := .int .i64 m1) (by (first | (go_simp; done) | (simp [*, World.cell?_alloc_at, World.cell?_alloc_past, World.cell?_alloc_some, World.cell?_setCell_far]; done)))); (have i5 := keepc hb7 (p := ⟨w.heap.size, 5, none⟩) (u := .int .i64 t1) (by (first | (go_simp; done) | (simp [*, World.cell?_alloc_at, World.cell?_alloc_past, World.cell?_alloc_some, World.cell?_setCell_far]; done)))); (have i6 := keepc hb7 (p := ⟨w.heap.size, 6, none⟩) (u := .slice a1 n1 c1) (by (first | (go_simp; done) | (simp [*, World.cell?_alloc_at, World.cell?_alloc_past, World.cell?_alloc_some, World.cell?_setCell_far]; done)))); (have i7 := keepc hb7 (p := ⟨w.heap.size + 1, 0, none⟩) (u := .int .i64 q2) (by (first | (go_simp; done) | (simp [*, World.cell?_alloc_at, World.cell?_alloc_past, World.cell?_alloc_some, World.cell?_setCell_far]; done)))); (have i8 := keepc hb7 (p := ⟨w.heap.size + 1, 1, none⟩) (u := .int .i64 s2) (by (first | (go_simp; done) | (simp [*, World.cell?_alloc_at, World.cell?_alloc_past, World.cell?_alloc_some, World.cell?_setCell_far]; done)))); (have i9 := keepc hb7 (p := ⟨w.heap.size + 1, 2, none⟩) (u := .int .i64 k2) (by (first | (go_simp; done) | (simp [*, World.cell?_alloc_at, World.cell?_alloc_past, World.cell?_alloc_some, World.cell?_setCell_far]; done)))); (have i10 := keepc hb7 (p := ⟨w.heap.size + 1, 3, none⟩) (u := .int .i64 z2) (by (first | (go_simp; done) | (simp [*, World.cell?_alloc_at, World.cell?_alloc_past, World.cell?_alloc_some, World.cell?_setCell_far]; done)))); (have i11 := keepc hb7 (p := ⟨w.heap.size + 1, 4, none⟩) (u := .int .i64 m2) (by (first | (go_simp; done) | (simp [*, World.cell?_alloc_at, World.cell?_alloc_past, World.cell?_alloc_some, World.cell?_setCell_far]; done)))); (have i12 := keepc hb7 (p := ⟨w.heap.size + 1, 5, none⟩) (u := .int .i64 t2) (by (first | (go_simp; done) | (simp [*, World.cell?_alloc_at, World.cell?_alloc_past, World.cell?_alloc_some, World.cell?_setCell_far]; done)))); (have i13 := keepc hb7 (p := ⟨w.heap.size + 1, 6, none⟩) (u := .slice a2 n2 c2) (by (first | (go_simp; done) | (simp [*, World.cell?_alloc_at, World.cell?_alloc_past, World.cell?_alloc_some, World.cell?_setCell_far]; done)))))
    | (go_at_call 28; refine (HS2.out _ (by refine Ints.below h1 (B := w.heap.size) ?_ (Nat.le_refl _); (repeat (first | exact Below.refl _ _ | assumption | refine Below.drew ?_ | refine below_drewN ?_ _ | refine belowA ?_ _ | refine belowT ?_ (by assumption) | refine Below.setCell ?_ (by first | (simp; done) | (simp; omega)) _))) (by refine Ints.below h2 (B := w.heap.size) ?_ (Nat.le_refl _); (repeat (first | exact Below.refl _ _ | assumption | refine Below.drew ?_ | refine below_drewN ?_ _ | refine belowA ?_ _ | refine belowT ?_ (by assumption) | refine Below.setCell ?_ (by first | (simp; done) | (simp; omega)) _)))).mono ?_; rintro e w6 ⟨rfl, hb6⟩; (have j0 := keepc hb6 (p := ⟨w.heap.size, 0, none⟩) (u := .int .i64 q1) (by (first | (go_simp; done) | (simp [*, World.cell?_alloc_at, World.cell?_alloc_past, World.cell?_alloc_some, World.cell?_setCell_far]; done)))); (have j1 := keepc hb6 (p := ⟨w.heap.size, 1, none⟩) (u := .int .i64 s1) (by (first | (go_simp; done) | (simp [*, World.cell?_alloc_at, World.cell?_alloc_past, World.cell?_alloc_some, World.cell?_setCell_far]; done)))); (have j2 := keepc hb6 (p := ⟨w.heap.size, 2, none⟩) (u := .int .i64 k1) (by (first | (go_simp; done) | (simp [*, World.cell?_alloc_at, World.cell?_alloc_past, World.cell?_alloc_some, World.cell?_setCell_far]; done)))); (have j3 := keepc hb6 (p := ⟨w.heap.size, 3, none⟩) (u := .int .i64 z1) (by (first | (go_simp; done) | (simp [*, World.cell?_alloc_at, World.cell?_alloc_past, World.cell?_alloc_some, World.cell?_setCell_far]; done)))); (have j4 := keepc hb6 (p := ⟨w.heap.size, 4, none⟩) (u := .int .i64 m1) (by (first | (go_simp; done) | (simp [*, World.cell?_alloc_at, World.cell?_alloc_past, World.cell?_alloc_some, World.cell?_setCell_far]; done)))); (have j5 := keepc hb6 (p := ⟨w.heap.size, 5, none⟩) (u := .int .i64 t1) (by (first | (go_simp; done) | (simp [*, World.cell?_alloc_at, World.cell?_alloc_past, World.cell?_alloc_some, World.cell?_setCell_far]; done)))); (have j6 := keepc hb6 (p := ⟨w.heap.size, 6, none⟩) (u := .slice a1 n1 c1) (by (first | (go_simp; done) | (simp [*, World.cell?_alloc_at, World.cell?_alloc_past, World.cell?_alloc_some, World.cell?_setCell_far]; done)))); (have j7 := keepc hb6 (p := ⟨w.heap.size + 1, 0, none⟩) (u := .int .i64 q2) (by (first | (go_simp; done) | (simp [*, World.cell?_alloc_at, World.cell?_alloc_past, World.cell?_alloc_some, World.cell?_setCell_far]; done)))); (have j8 := keepc hb6 (p := ⟨w.heap.size + 1, 1, none⟩) (u := .int .i64 s2) (by (first | (go_simp; done) | (simp [*, World.cell?_alloc_at, World.cell?_alloc_past, World.cell?_alloc_some, World.cell?_setCell_far]; done)))); (have j9 := keepc hb6 (p := ⟨w.heap.size + 1, 2, none⟩) (u := .int .i64 k2) (by (first | (go_simp; done) | (simp [*, World.cell?_alloc_at, World.cell?_alloc_past, World.cell?_alloc_some, World.cell?_setCell_far]; done)))); (have j10 := keepc hb6 (p := ⟨w.heap.size + 1, 3, none⟩) (u := .int .i64 z2) (by (first | (go_simp; done) | (simp [*, World.cell?_alloc_at, World.cell?_alloc_past, World.cell?_alloc_some, World.cell?_setCell_far]; done)))); (have j11 := keepc hb6 (p := ⟨w.heap.size + 1, 4, none⟩) (u := .int .i64 m2) (by (first | (go_simp; done) | (simp [*, World.cell?_alloc_at, World.cell?_alloc_past, World.cell?_alloc_some, World.cell?_setCell_far]; done)))); (have j12 := keepc hb6 (p := ⟨w.heap.size + 1, 5, none⟩) (u := .int .i64 t2) (by (first | (go_simp; done) | (simp [*, World.cell?_alloc_at, World.cell?_alloc_past, World.cell?_alloc_some, World.cell?_setCell_far]; done)))); (have j13 := keepc hb6 (p := ⟨w.heap.size + 1, 6, none⟩) (u := .slice a2 n2 c2) (by (first | (go_simp; done) | (simp [*, World.cell?_alloc_at, World.cell?_alloc_past, World.cell?_alloc_some, World.cell?_setCell_far]; done))))))
  have b56 : Below w5.heap.size w5 w6 := by (repeat (first | exact Below.refl _ _ | assumption | refine Below.drew ?_ | refine below_drewN ?_ _ | refine belowA ?_ _ | refine belowT ?_ (by assumption) | refine Below.setCell ?_ (by first | (simp; done) | (simp; omega)) _))
  have bw6 : Below w.heap.size w w6 := bw5.trans (b56.mono bw5.size)
  replace xX := xX.below b56
  replace jX := jX.below b56 (Nat.le_refl _)
  clear HS1 HS2 HK1 b56
  by_cases hl : 60000 < s.size
  · have hz := HLG.out hl
    obtain ⟨hz1, rfl⟩ := Prod.mk.inj hz
    have hl' : (60000 : Int) < (s.size : Int) := by omega
    have HSZ := hide (fun w' h1 h2 => SameRec_c ⟨⟨qx, sx, ⟨kx, zx, mx, tx, dx⟩⟩, aX, nX, cX⟩ RV.zero w' h1 h2)
    rw [show sameR (RV.p ⟨⟨qx, sx, ⟨kx, zx, mx, tx, dx⟩⟩, aX, nX, cX⟩) RV.zero.p = true from (sameR_iff _ _).2 hz1] at HSZ
    dsimp only [RV.v, RV.ok, RV.zero, zeroR, zeroC] at HSZ
    have e0 := xX.cell 0 _ rfl
    have e1 := xX.cell 1 _ rfl
    have e2 := xX.cell 2 _ rfl
    have e3 := xX.cell 3 _ rfl
    have e4 := xX.cell 4 _ rfl
    have e5 := xX.cell 5 _ rfl
    have e6 := xX.cell 6 _ rfl
    have f0 := xX.ice 0
    have f1 := xX.ice 1
    have f2 := xX.ice 2
    have f3 := xX.ice 3
    have f4 := xX.ice 4
    have f5 := xX.ice 5
    have f6 := xX.ice 6
    clear hz hz1
    go_wp2_with fail
    refine (HSZ.out _ jX (Ints.nilSlice _)).mono ?_
    rintro e wE ⟨rfl, hbE⟩
    go_wp2
    go_ret
    exact ⟨rfl, by (repeat (first | exact Below.refl _ _ | assumption | refine Below.drew ?_ | refine below_drewN ?_ _ | refine belowA ?_ _ | refine belowT ?_ (by assumption) | refine Below.setCell ?_ (by first | (simp; done) | (simp; omega)) _))⟩
  · have hl' : ¬ (60000 : Int) < (s.size : Int) := by omega
    have HY2 := hide (fun w' hE => HYR.out w' hE (by omega))
    clear HYR HLG
    go_wp2_with fail
    refine (HY2.out _ (hE.below bw6)).mono ?_
    rintro e wA ⟨⟨⟨pY, aY, nY, cY⟩, rfl, ePY, iY, _⟩, hbA⟩
    dsimp only [RV.ok] at ePY iY
    subst ePY
    replace xX := xX.below hbA
    have kX := jX.below hbA (Nat.le_refl _)
    have bwA : Below w.heap.size w wA := bw6.trans (hbA.mono bw6.size)
    have HSY := hide (fun w' h1 h2 => SameRec_c ⟨⟨qx, sx, ⟨kx, zx, mx, tx, dx⟩⟩, aX, nX, cX⟩ ⟨⟨qx, sx, ⟨kx, zx, mx, tx, dx⟩⟩, aY, nY, cY⟩ w' h1 h2)
    dsimp only [RV.v, RV.ok] at HSY iY ⊢
    rw [(sameR_iff _ _).2 rfl] at HSY
    go_upto_region 9 with fail
    have xY := Lay.made wA [.int .i64 qx, .int .i64 sx, .int .i64 kx, .int .i64 zx, .int .i64 mx, .int .i64 tx, .slice aY nY cY] 54
    have hbB : Below wA.heap.size wA (wA.alloc (.cells [.int .i64 qx, .int .i64 sx, .int .i64 kx, .int .i64 zx, .int .i64 mx, .int .i64 tx, .slice aY nY cY].toArray 54)) := belowA (Below.refl _ _) _
    generalize wA.alloc (.cells [.int .i64 qx, .int .i64 sx, .int .i64 kx, .int .i64 zx, .int .i64 mx, .int .i64 tx, .slice aY nY cY].toArray 54) = wB at *
    have bwB : Below w.heap.size w wB := bwA.trans (hbB.mono bwA.size)
    replace xX := xX.below hbB
    replace kX := kX.below hbB (Nat.le_refl _)
    replace iY := iY.below hbB (Nat.le_refl _)
    clear hbB HY2 hbA jX
    have e0 := xX.cell 0 _ rfl
    have e1 := xX.cell 1 _ rfl
    have e2 := xX.cell 2 _ rfl
    have e3 := xX.cell 3 _ rfl
    have e4 := xX.cell 4 _ rfl
    have e5 := xX.cell 5 _ rfl
    have e6 := xX.cell 6 _ rfl
    have f0 := xX.ice 0
    have f1 := xX.ice 1
    have f2 := xX.ice 2
    have f3 := xX.ice 3
    have f4 := xX.ice 4
    have f5 := xX.ice 5
    have f6 := xX.ice 6
    have g0 := xY.cell 0 _ rfl
    have g1 := xY.cell 1 _ rfl
    have g2 := xY.cell 2 _ rfl
    have g3 := xY.cell 3 _ rfl
    have g4 := xY.cell 4 _ rfl
    have g5 := xY.cell 5 _ rfl
    have g6 := xY.cell 6 _ rfl
    have r0 := xY.ice 0
    have r1 := xY.ice 1
    have r2 := xY.ice 2
    have r3 := xY.ice 3
    have r4 := xY.ice 4
    have r5 := xY.ice 5
    have r6 := xY.ice 6
    go_wp2_with fail
    refine (HSY.out _ kX iY).mono ?_
    rintro e wE ⟨rfl, hbE⟩
    go_wp2
    go_ret
    exact ⟨rfl, by (repeat (first | exact Below.refl _ _ | assumption | refine Below.drew ?_ | refine below_drewN ?_ _ | refine belowA ?_ _ | refine belowT ?_ (by assumption) | refine Below.setCell ?_ (by first | (simp; done) | (simp; omega)) _))⟩

end Go.Proofs.YtgchgpgipdfhgacDoor
