/- The law NoteBack returns true, wherever its arguments read and the package-level variables are as their texts lay them. -/
import Derived.Test.YtgchgpgipdfhgacDoorNoteBackG14
namespace Go.Proofs.YtgchgpgipdfhgacDoor
open Go.RowKit
set_option linter.unusedVariables false
set_option maxRecDepth 100000
set_option linter.unusedSimpArgs false

set_option maxRecDepth 100000 in
set_option maxHeartbeats 4000000 in
theorem NoteBack_c (x y : RV) (s : ByteArray) (w : World) (hE : Env w) (h1 : x.ok w) (h2 : y.ok w) (hs : s.size ≤ 9223372036854775807) :
    Calls Tryd.prog 7 #[x.v, y.v, .string s] w fun e w' => e = .returned (.bool true) ∧ Below w.heap.size w w' := by
  have HP1 := hide (fun w' hE h => NPrint_c x w' hE h)
  have HP2 := hide (fun w' hE h => NPrint_c y w' hE h)
  have HSM := hide (fun w' h1 h2 => NSame_c x y w' h1 h2)
  obtain ⟨⟨q1, s1, ⟨k1, z1, m1, t1, d1⟩⟩, a1, n1, c1⟩ := x
  obtain ⟨⟨q2, s2, ⟨k2, z2, m2, t2, d2⟩⟩, a2, n2, c2⟩ := y
  dsimp only [RV.v, RV.ok] at *
  go_enter Tryd.func7, Tryd.ntmps7
  go_wp2_with fail
  refine (HP1.out _ (hE.below (by (repeat (first | exact Below.refl _ _ | assumption | refine Below.drew ?_ | refine below_drewN ?_ _ | refine belowA ?_ _ | refine belowT ?_ (by assumption) | refine Below.setCell ?_ (by first | (simp; done) | (simp; omega)) _)))) (h1.below (B := w.heap.size) (by (repeat (first | exact Below.refl _ _ | assumption | refine Below.drew ?_ | refine below_drewN ?_ _ | refine belowA ?_ _ | refine belowT ?_ (by assumption) | refine Below.setCell ?_ (by first | (simp; done) | (simp; omega)) _))) (Nat.le_refl _))).mono ?_
  rintro e w1 ⟨rfl, hb1⟩
  have bw1 : Below w.heap.size w w1 := by (repeat (first | exact Below.refl _ _ | assumption | refine Below.drew ?_ | refine below_drewN ?_ _ | refine belowA ?_ _ | refine belowT ?_ (by assumption) | refine Below.setCell ?_ (by first | (simp; done) | (simp; omega)) _))
  have u0 := keepc hb1 (p := ⟨w.heap.size, 0, none⟩) (u := .int .i64 q1) (by (first | (go_simp; done) | (simp [*, World.cell?_alloc_at, World.cell?_alloc_past, World.cell?_alloc_some, World.cell?_setCell_far]; done)))
  have u1 := keepc hb1 (p := ⟨w.heap.size, 1, none⟩) (u := .int .i64 s1) (by (first | (go_simp; done) | (simp [*, World.cell?_alloc_at, World.cell?_alloc_past, World.cell?_alloc_some, World.cell?_setCell_far]; done)))
  have u2 := keepc hb1 (p := ⟨w.heap.size, 2, none⟩) (u := .int .i64 k1) (by (first | (go_simp; done) | (simp [*, World.cell?_alloc_at, World.cell?_alloc_past, World.cell?_alloc_some, World.cell?_setCell_far]; done)))
  have u3 := keepc hb1 (p := ⟨w.heap.size, 3, none⟩) (u := .int .i64 z1) (by (first | (go_simp; done) | (simp [*, World.cell?_alloc_at, World.cell?_alloc_past, World.cell?_alloc_some, World.cell?_setCell_far]; done)))
  have u4 := keepc hb1 (p := ⟨w.heap.size, 4, none⟩) (u := .int .i64 m1) (by (first | (go_simp; done) | (simp [*, World.cell?_alloc_at, World.cell?_alloc_past, World.cell?_alloc_some, World.cell?_setCell_far]; done)))
  have u5 := keepc hb1 (p := ⟨w.heap.size, 5, none⟩) (u := .int .i64 t1) (by (first | (go_simp; done) | (simp [*, World.cell?_alloc_at, World.cell?_alloc_past, World.cell?_alloc_some, World.cell?_setCell_far]; done)))
  have u6 := keepc hb1 (p := ⟨w.heap.size, 6, none⟩) (u := .slice a1 n1 c1) (by (first | (go_simp; done) | (simp [*, World.cell?_alloc_at, World.cell?_alloc_past, World.cell?_alloc_some, World.cell?_setCell_far]; done)))
  have u7 := keepc hb1 (p := ⟨w.heap.size + 1, 0, none⟩) (u := .int .i64 q2) (by (first | (go_simp; done) | (simp [*, World.cell?_alloc_at, World.cell?_alloc_past, World.cell?_alloc_some, World.cell?_setCell_far]; done)))
  have u8 := keepc hb1 (p := ⟨w.heap.size + 1, 1, none⟩) (u := .int .i64 s2) (by (first | (go_simp; done) | (simp [*, World.cell?_alloc_at, World.cell?_alloc_past, World.cell?_alloc_some, World.cell?_setCell_far]; done)))
  have u9 := keepc hb1 (p := ⟨w.heap.size + 1, 2, none⟩) (u := .int .i64 k2) (by (first | (go_simp; done) | (simp [*, World.cell?_alloc_at, World.cell?_alloc_past, World.cell?_alloc_some, World.cell?_setCell_far]; done)))
  have u10 := keepc hb1 (p := ⟨w.heap.size + 1, 3, none⟩) (u := .int .i64 z2) (by (first | (go_simp; done) | (simp [*, World.cell?_alloc_at, World.cell?_alloc_past, World.cell?_alloc_some, World.cell?_setCell_far]; done)))
  have u11 := keepc hb1 (p := ⟨w.heap.size + 1, 4, none⟩) (u := .int .i64 m2) (by (first | (go_simp; done) | (simp [*, World.cell?_alloc_at, World.cell?_alloc_past, World.cell?_alloc_some, World.cell?_setCell_far]; done)))
  have u12 := keepc hb1 (p := ⟨w.heap.size + 1, 5, none⟩) (u := .int .i64 t2) (by (first | (go_simp; done) | (simp [*, World.cell?_alloc_at, World.cell?_alloc_past, World.cell?_alloc_some, World.cell?_setCell_far]; done)))
  have u13 := keepc hb1 (p := ⟨w.heap.size + 1, 6, none⟩) (u := .slice a2 n2 c2) (by (first | (go_simp; done) | (simp [*, World.cell?_alloc_at, World.cell?_alloc_past, World.cell?_alloc_some, World.cell?_setCell_far]; done)))
  clear hb1
  go_wp2_with fail
  refine (HP2.out _ (hE.below bw1) (h2.below bw1 (Nat.le_refl _))).mono ?_
  rintro e w2 ⟨rfl, hb2⟩
  have bw2 : Below w.heap.size w w2 := by (repeat (first | exact Below.refl _ _ | assumption | refine Below.drew ?_ | refine below_drewN ?_ _ | refine belowA ?_ _ | refine belowT ?_ (by assumption) | refine Below.setCell ?_ (by first | (simp; done) | (simp; omega)) _))
  have v0 := keepc hb2 (p := ⟨w.heap.size, 0, none⟩) (u := .int .i64 q1) (by (first | (go_simp; done) | (simp [*, World.cell?_alloc_at, World.cell?_alloc_past, World.cell?_alloc_some, World.cell?_setCell_far]; done)))
  have v1 := keepc hb2 (p := ⟨w.heap.size, 1, none⟩) (u := .int .i64 s1) (by (first | (go_simp; done) | (simp [*, World.cell?_alloc_at, World.cell?_alloc_past, World.cell?_alloc_some, World.cell?_setCell_far]; done)))
  have v2 := keepc hb2 (p := ⟨w.heap.size, 2, none⟩) (u := .int .i64 k1) (by (first | (go_simp; done) | (simp [*, World.cell?_alloc_at, World.cell?_alloc_past, World.cell?_alloc_some, World.cell?_setCell_far]; done)))
  have v3 := keepc hb2 (p := ⟨w.heap.size, 3, none⟩) (u := .int .i64 z1) (by (first | (go_simp; done) | (simp [*, World.cell?_alloc_at, World.cell?_alloc_past, World.cell?_alloc_some, World.cell?_setCell_far]; done)))
  have v4 := keepc hb2 (p := ⟨w.heap.size, 4, none⟩) (u := .int .i64 m1) (by (first | (go_simp; done) | (simp [*, World.cell?_alloc_at, World.cell?_alloc_past, World.cell?_alloc_some, World.cell?_setCell_far]; done)))
  have v5 := keepc hb2 (p := ⟨w.heap.size, 5, none⟩) (u := .int .i64 t1) (by (first | (go_simp; done) | (simp [*, World.cell?_alloc_at, World.cell?_alloc_past, World.cell?_alloc_some, World.cell?_setCell_far]; done)))
  have v6 := keepc hb2 (p := ⟨w.heap.size, 6, none⟩) (u := .slice a1 n1 c1) (by (first | (go_simp; done) | (simp [*, World.cell?_alloc_at, World.cell?_alloc_past, World.cell?_alloc_some, World.cell?_setCell_far]; done)))
  have v7 := keepc hb2 (p := ⟨w.heap.size + 1, 0, none⟩) (u := .int .i64 q2) (by (first | (go_simp; done) | (simp [*, World.cell?_alloc_at, World.cell?_alloc_past, World.cell?_alloc_some, World.cell?_setCell_far]; done)))
  have v8 := keepc hb2 (p := ⟨w.heap.size + 1, 1, none⟩) (u := .int .i64 s2) (by (first | (go_simp; done) | (simp [*, World.cell?_alloc_at, World.cell?_alloc_past, World.cell?_alloc_some, World.cell?_setCell_far]; done)))
  have v9 := keepc hb2 (p := ⟨w.heap.size + 1, 2, none⟩) (u := .int .i64 k2) (by (first | (go_simp; done) | (simp [*, World.cell?_alloc_at, World.cell?_alloc_past, World.cell?_alloc_some, World.cell?_setCell_far]; done)))
  have v10 := keepc hb2 (p := ⟨w.heap.size + 1, 3, none⟩) (u := .int .i64 z2) (by (first | (go_simp; done) | (simp [*, World.cell?_alloc_at, World.cell?_alloc_past, World.cell?_alloc_some, World.cell?_setCell_far]; done)))
  have v11 := keepc hb2 (p := ⟨w.heap.size + 1, 4, none⟩) (u := .int .i64 m2) (by (first | (go_simp; done) | (simp [*, World.cell?_alloc_at, World.cell?_alloc_past, World.cell?_alloc_some, World.cell?_setCell_far]; done)))
  have v12 := keepc hb2 (p := ⟨w.heap.size + 1, 5, none⟩) (u := .int .i64 t2) (by (first | (go_simp; done) | (simp [*, World.cell?_alloc_at, World.cell?_alloc_past, World.cell?_alloc_some, World.cell?_setCell_far]; done)))
  have v13 := keepc hb2 (p := ⟨w.heap.size + 1, 6, none⟩) (u := .slice a2 n2 c2) (by (first | (go_simp; done) | (simp [*, World.cell?_alloc_at, World.cell?_alloc_past, World.cell?_alloc_some, World.cell?_setCell_far]; done)))
  clear hb2 bw1 u0 u1 u2 u3 u4 u5 u6 u7 u8 u9 u10 u11 u12 u13
  go_wp2_with fail
  refine (lined_c _ (hE.below bw2)).mono ?_
  rintro e w3 ⟨rfl, hb3⟩
  have bw3 : Below w.heap.size w w3 := by (repeat (first | exact Below.refl _ _ | assumption | refine Below.drew ?_ | refine below_drewN ?_ _ | refine belowA ?_ _ | refine belowT ?_ (by assumption) | refine Below.setCell ?_ (by first | (simp; done) | (simp; omega)) _))
  have u0 := keepc hb3 (p := ⟨w.heap.size, 0, none⟩) (u := .int .i64 q1) (by (first | (go_simp; done) | (simp [*, World.cell?_alloc_at, World.cell?_alloc_past, World.cell?_alloc_some, World.cell?_setCell_far]; done)))
  have u1 := keepc hb3 (p := ⟨w.heap.size, 1, none⟩) (u := .int .i64 s1) (by (first | (go_simp; done) | (simp [*, World.cell?_alloc_at, World.cell?_alloc_past, World.cell?_alloc_some, World.cell?_setCell_far]; done)))
  have u2 := keepc hb3 (p := ⟨w.heap.size, 2, none⟩) (u := .int .i64 k1) (by (first | (go_simp; done) | (simp [*, World.cell?_alloc_at, World.cell?_alloc_past, World.cell?_alloc_some, World.cell?_setCell_far]; done)))
  have u3 := keepc hb3 (p := ⟨w.heap.size, 3, none⟩) (u := .int .i64 z1) (by (first | (go_simp; done) | (simp [*, World.cell?_alloc_at, World.cell?_alloc_past, World.cell?_alloc_some, World.cell?_setCell_far]; done)))
  have u4 := keepc hb3 (p := ⟨w.heap.size, 4, none⟩) (u := .int .i64 m1) (by (first | (go_simp; done) | (simp [*, World.cell?_alloc_at, World.cell?_alloc_past, World.cell?_alloc_some, World.cell?_setCell_far]; done)))
  have u5 := keepc hb3 (p := ⟨w.heap.size, 5, none⟩) (u := .int .i64 t1) (by (first | (go_simp; done) | (simp [*, World.cell?_alloc_at, World.cell?_alloc_past, World.cell?_alloc_some, World.cell?_setCell_far]; done)))
  have u6 := keepc hb3 (p := ⟨w.heap.size, 6, none⟩) (u := .slice a1 n1 c1) (by (first | (go_simp; done) | (simp [*, World.cell?_alloc_at, World.cell?_alloc_past, World.cell?_alloc_some, World.cell?_setCell_far]; done)))
  have u7 := keepc hb3 (p := ⟨w.heap.size + 1, 0, none⟩) (u := .int .i64 q2) (by (first | (go_simp; done) | (simp [*, World.cell?_alloc_at, World.cell?_alloc_past, World.cell?_alloc_some, World.cell?_setCell_far]; done)))
  have u8 := keepc hb3 (p := ⟨w.heap.size + 1, 1, none⟩) (u := .int .i64 s2) (by (first | (go_simp; done) | (simp [*, World.cell?_alloc_at, World.cell?_alloc_past, World.cell?_alloc_some, World.cell?_setCell_far]; done)))
  have u9 := keepc hb3 (p := ⟨w.heap.size + 1, 2, none⟩) (u := .int .i64 k2) (by (first | (go_simp; done) | (simp [*, World.cell?_alloc_at, World.cell?_alloc_past, World.cell?_alloc_some, World.cell?_setCell_far]; done)))
  have u10 := keepc hb3 (p := ⟨w.heap.size + 1, 3, none⟩) (u := .int .i64 z2) (by (first | (go_simp; done) | (simp [*, World.cell?_alloc_at, World.cell?_alloc_past, World.cell?_alloc_some, World.cell?_setCell_far]; done)))
  have u11 := keepc hb3 (p := ⟨w.heap.size + 1, 4, none⟩) (u := .int .i64 m2) (by (first | (go_simp; done) | (simp [*, World.cell?_alloc_at, World.cell?_alloc_past, World.cell?_alloc_some, World.cell?_setCell_far]; done)))
  have u12 := keepc hb3 (p := ⟨w.heap.size + 1, 5, none⟩) (u := .int .i64 t2) (by (first | (go_simp; done) | (simp [*, World.cell?_alloc_at, World.cell?_alloc_past, World.cell?_alloc_some, World.cell?_setCell_far]; done)))
  have u13 := keepc hb3 (p := ⟨w.heap.size + 1, 6, none⟩) (u := .slice a2 n2 c2) (by (first | (go_simp; done) | (simp [*, World.cell?_alloc_at, World.cell?_alloc_past, World.cell?_alloc_some, World.cell?_setCell_far]; done)))
  clear hb3 bw2 v0 v1 v2 v3 v4 v5 v6 v7 v8 v9 v10 v11 v12 v13
  have hE0 := hE
  have h10 := h1
  replace hE := hE.below bw3
  replace h1 := h1.below bw3 (Nat.le_refl _)
  replace h2 := h2.below bw3 (Nat.le_refl _)
  clear HP1 HP2
  by_cases e1 : checkR ⟨q1, s1, ⟨k1, z1, m1, t1, d1⟩⟩ = 0
  · have f1 : printR ⟨q1, s1, ⟨k1, z1, m1, t1, d1⟩⟩ = (textR ⟨q1, s1, ⟨k1, z1, m1, t1, d1⟩⟩, 0) := by unfold printR; rw [if_pos e1]
    rw [f1]
    by_cases e2 : checkR ⟨q2, s2, ⟨k2, z2, m2, t2, d2⟩⟩ = 0
    · have f2 : printR ⟨q2, s2, ⟨k2, z2, m2, t2, d2⟩⟩ = (textR ⟨q2, s2, ⟨k2, z2, m2, t2, d2⟩⟩, 0) := by unfold printR; rw [if_pos e2]
      rw [f2]
      unfold textV
      dsimp only
      have hst : ((⟨(textR ⟨q1, s1, ⟨k1, z1, m1, t1, d1⟩⟩).toArray⟩ : ByteArray) == ⟨(textR ⟨q2, s2, ⟨k2, z2, m2, t2, d2⟩⟩).toArray⟩) = sameR ⟨q1, s1, ⟨k1, z1, m1, t1, d1⟩⟩ ⟨q2, s2, ⟨k2, z2, m2, t2, d2⟩⟩ := by
        cases hsm : sameR ⟨q1, s1, ⟨k1, z1, m1, t1, d1⟩⟩ ⟨q2, s2, ⟨k2, z2, m2, t2, d2⟩⟩
        · refine beq_f (fun e => ?_)
          have : textR ⟨q1, s1, ⟨k1, z1, m1, t1, d1⟩⟩ = textR ⟨q2, s2, ⟨k2, z2, m2, t2, d2⟩⟩ := by
            have := congrArg (fun x : ByteArray => x.data.toList) e
            simpa using this
          have := (textR_inj e1 e2).1 this
          rw [(sameR_iff _ _).2 this] at hsm
          cases hsm
        · refine beq_t ?_
          rw [(sameR_iff _ _).1 hsm]
      have hst2 : ((⟨(textR ⟨q1, s1, ⟨k1, z1, m1, t1, d1⟩⟩).toArray⟩ : ByteArray).toList == (⟨(textR ⟨q2, s2, ⟨k2, z2, m2, t2, d2⟩⟩).toArray⟩ : ByteArray).toList) = sameR ⟨q1, s1, ⟨k1, z1, m1, t1, d1⟩⟩ ⟨q2, s2, ⟨k2, z2, m2, t2, d2⟩⟩ := by rw [← beq_toListBytes]; exact hst
      have hst3 : (textR ⟨q1, s1, ⟨k1, z1, m1, t1, d1⟩⟩ == textR ⟨q2, s2, ⟨k2, z2, m2, t2, d2⟩⟩) = sameR ⟨q1, s1, ⟨k1, z1, m1, t1, d1⟩⟩ ⟨q2, s2, ⟨k2, z2, m2, t2, d2⟩⟩ := by rw [← hst, beq_toListBytes, ByteArray.toList_eq, ByteArray.toList_eq]
      have hne : ∀ x : Bool, (x != x) = false := fun x => by cases x <;> rfl
      generalize sameR ⟨q1, s1, ⟨k1, z1, m1, t1, d1⟩⟩ ⟨q2, s2, ⟨k2, z2, m2, t2, d2⟩⟩ = sm at *
      go_wp2_with fail
      refine (HSM.out _ h1 h2).mono ?_
      rintro e w4 ⟨rfl, hb4⟩
      have bw4 : Below w.heap.size w w4 := by (repeat (first | exact Below.refl _ _ | assumption | refine Below.drew ?_ | refine below_drewN ?_ _ | refine belowA ?_ _ | refine belowT ?_ (by assumption) | refine Below.setCell ?_ (by first | (simp; done) | (simp; omega)) _))
      have v0 := keepc hb4 (p := ⟨w.heap.size, 0, none⟩) (u := .int .i64 q1) (by (first | (go_simp; done) | (simp [*, World.cell?_alloc_at, World.cell?_alloc_past, World.cell?_alloc_some, World.cell?_setCell_far]; done)))
      have v1 := keepc hb4 (p := ⟨w.heap.size, 1, none⟩) (u := .int .i64 s1) (by (first | (go_simp; done) | (simp [*, World.cell?_alloc_at, World.cell?_alloc_past, World.cell?_alloc_some, World.cell?_setCell_far]; done)))
      have v2 := keepc hb4 (p := ⟨w.heap.size, 2, none⟩) (u := .int .i64 k1) (by (first | (go_simp; done) | (simp [*, World.cell?_alloc_at, World.cell?_alloc_past, World.cell?_alloc_some, World.cell?_setCell_far]; done)))
      have v3 := keepc hb4 (p := ⟨w.heap.size, 3, none⟩) (u := .int .i64 z1) (by (first | (go_simp; done) | (simp [*, World.cell?_alloc_at, World.cell?_alloc_past, World.cell?_alloc_some, World.cell?_setCell_far]; done)))
      have v4 := keepc hb4 (p := ⟨w.heap.size, 4, none⟩) (u := .int .i64 m1) (by (first | (go_simp; done) | (simp [*, World.cell?_alloc_at, World.cell?_alloc_past, World.cell?_alloc_some, World.cell?_setCell_far]; done)))
      have v5 := keepc hb4 (p := ⟨w.heap.size, 5, none⟩) (u := .int .i64 t1) (by (first | (go_simp; done) | (simp [*, World.cell?_alloc_at, World.cell?_alloc_past, World.cell?_alloc_some, World.cell?_setCell_far]; done)))
      have v6 := keepc hb4 (p := ⟨w.heap.size, 6, none⟩) (u := .slice a1 n1 c1) (by (first | (go_simp; done) | (simp [*, World.cell?_alloc_at, World.cell?_alloc_past, World.cell?_alloc_some, World.cell?_setCell_far]; done)))
      have v7 := keepc hb4 (p := ⟨w.heap.size + 1, 0, none⟩) (u := .int .i64 q2) (by (first | (go_simp; done) | (simp [*, World.cell?_alloc_at, World.cell?_alloc_past, World.cell?_alloc_some, World.cell?_setCell_far]; done)))
      have v8 := keepc hb4 (p := ⟨w.heap.size + 1, 1, none⟩) (u := .int .i64 s2) (by (first | (go_simp; done) | (simp [*, World.cell?_alloc_at, World.cell?_alloc_past, World.cell?_alloc_some, World.cell?_setCell_far]; done)))
      have v9 := keepc hb4 (p := ⟨w.heap.size + 1, 2, none⟩) (u := .int .i64 k2) (by (first | (go_simp; done) | (simp [*, World.cell?_alloc_at, World.cell?_alloc_past, World.cell?_alloc_some, World.cell?_setCell_far]; done)))
      have v10 := keepc hb4 (p := ⟨w.heap.size + 1, 3, none⟩) (u := .int .i64 z2) (by (first | (go_simp; done) | (simp [*, World.cell?_alloc_at, World.cell?_alloc_past, World.cell?_alloc_some, World.cell?_setCell_far]; done)))
      have v11 := keepc hb4 (p := ⟨w.heap.size + 1, 4, none⟩) (u := .int .i64 m2) (by (first | (go_simp; done) | (simp [*, World.cell?_alloc_at, World.cell?_alloc_past, World.cell?_alloc_some, World.cell?_setCell_far]; done)))
      have v12 := keepc hb4 (p := ⟨w.heap.size + 1, 5, none⟩) (u := .int .i64 t2) (by (first | (go_simp; done) | (simp [*, World.cell?_alloc_at, World.cell?_alloc_past, World.cell?_alloc_some, World.cell?_setCell_far]; done)))
      have v13 := keepc hb4 (p := ⟨w.heap.size + 1, 6, none⟩) (u := .slice a2 n2 c2) (by (first | (go_simp; done) | (simp [*, World.cell?_alloc_at, World.cell?_alloc_past, World.cell?_alloc_some, World.cell?_setCell_far]; done)))
      clear hb4 bw3 u0 u1 u2 u3 u4 u5 u6 u7 u8 u9 u10 u11 u12 u13
      have hPT := NParse_c ⟨(textR ⟨q1, s1, ⟨k1, z1, m1, t1, d1⟩⟩).toArray⟩
      rw [show (⟨(textR ⟨q1, s1, ⟨k1, z1, m1, t1, d1⟩⟩).toArray⟩ : ByteArray).data.toList = textR ⟨q1, s1, ⟨k1, z1, m1, t1, d1⟩⟩ by simp, parse_textR e1] at hPT
      have hlen1 := textR_len e1
      have HPT := hide (fun w' h => hPT w' h (by rw [Lib.size_eq]; simp; omega))
      clear hPT
      go_wp2_with fail
      refine (HPT.out _ (hE0.below bw4)).mono ?_
      rintro e wM ⟨⟨⟨pM, aM, nM, cM⟩, rfl, eM, iM, _⟩, hbM⟩
      have bM : Below w.heap.size w wM := by (repeat (first | exact Below.refl _ _ | assumption | refine Below.drew ?_ | refine below_drewN ?_ _ | refine belowA ?_ _ | refine belowT ?_ (by assumption) | refine Below.setCell ?_ (by first | (simp; done) | (simp; omega)) _))
      have p0 := fun o => past1 (keepc hbM (p := ⟨w.heap.size, 0, none⟩) (u := .int .i64 q1) (by (first | (go_simp; done) | (simp [*, World.cell?_alloc_at, World.cell?_alloc_past, World.cell?_alloc_some, World.cell?_setCell_far]; done)))) o
      have p1 := fun o => past1 (keepc hbM (p := ⟨w.heap.size, 1, none⟩) (u := .int .i64 s1) (by (first | (go_simp; done) | (simp [*, World.cell?_alloc_at, World.cell?_alloc_past, World.cell?_alloc_some, World.cell?_setCell_far]; done)))) o
      have p2 := fun o => past1 (keepc hbM (p := ⟨w.heap.size, 2, none⟩) (u := .int .i64 k1) (by (first | (go_simp; done) | (simp [*, World.cell?_alloc_at, World.cell?_alloc_past, World.cell?_alloc_some, World.cell?_setCell_far]; done)))) o
      have p3 := fun o => past1 (keepc hbM (p := ⟨w.heap.size, 3, none⟩) (u := .int .i64 z1) (by (first | (go_simp; done) | (simp [*, World.cell?_alloc_at, World.cell?_alloc_past, World.cell?_alloc_some, World.cell?_setCell_far]; done)))) o
      have p4 := fun o => past1 (keepc hbM (p := ⟨w.heap.size, 4, none⟩) (u := .int .i64 m1) (by (first | (go_simp; done) | (simp [*, World.cell?_alloc_at, World.cell?_alloc_past, World.cell?_alloc_some, World.cell?_setCell_far]; done)))) o
      have p5 := fun o => past1 (keepc hbM (p := ⟨w.heap.size, 5, none⟩) (u := .int .i64 t1) (by (first | (go_simp; done) | (simp [*, World.cell?_alloc_at, World.cell?_alloc_past, World.cell?_alloc_some, World.cell?_setCell_far]; done)))) o
      have p6 := fun o => past1 (keepc hbM (p := ⟨w.heap.size, 6, none⟩) (u := .slice a1 n1 c1) (by (first | (go_simp; done) | (simp [*, World.cell?_alloc_at, World.cell?_alloc_past, World.cell?_alloc_some, World.cell?_setCell_far]; done)))) o
      clear hbM HPT
      dsimp only at eM
      subst eM
      have HSS := hide (fun w' h1 h2 => NSame_c ⟨⟨q1, s1, ⟨k1, z1, m1, t1, d1⟩⟩, aM, nM, cM⟩ ⟨⟨q1, s1, ⟨k1, z1, m1, t1, d1⟩⟩, a1, n1, c1⟩ w' h1 h2)
      dsimp only [RV.v, RV.ok] at HSS iM ⊢
      rw [(sameR_iff _ _).2 rfl] at HSS
      have jM := h10.below bM (Nat.le_refl _)
      go_wp2_with fail
      refine (HSS.out _ (iM.below (B := wM.heap.size) (by (repeat (first | exact Below.refl _ _ | assumption | refine Below.drew ?_ | refine below_drewN ?_ _ | refine belowA ?_ _ | refine belowT ?_ (by assumption) | refine Below.setCell ?_ (by first | (simp; done) | (simp; omega)) _))) (Nat.le_refl _)) (jM.below (B := wM.heap.size) (by (repeat (first | exact Below.refl _ _ | assumption | refine Below.drew ?_ | refine below_drewN ?_ _ | refine belowA ?_ _ | refine belowT ?_ (by assumption) | refine Below.setCell ?_ (by first | (simp; done) | (simp; omega)) _))) (Nat.le_refl _))).mono ?_
      rintro e wN ⟨rfl, hbN⟩
      have bN : Below w.heap.size w wN := by (repeat (first | exact Below.refl _ _ | assumption | refine Below.drew ?_ | refine below_drewN ?_ _ | refine belowA ?_ _ | refine belowT ?_ (by assumption) | refine Below.setCell ?_ (by first | (simp; done) | (simp; omega)) _))
      clear hbN HSS jM iM
      have ET := hE0.below bN
      go_wp2_with fail
      refine (NParse_c s _ ET hs).mono ?_
      rintro e wT ⟨⟨⟨pX, aX, nX, cX⟩, rfl, ePX, iX, _⟩, hbT⟩
      have bT : Below w.heap.size w wT := by (repeat (first | exact Below.refl _ _ | assumption | refine Below.drew ?_ | refine below_drewN ?_ _ | refine belowA ?_ _ | refine belowT ?_ (by assumption) | refine Below.setCell ?_ (by first | (simp; done) | (simp; omega)) _))
      have EX := ET.below hbT
      clear hbT ET
      have HT := hide (fun h => text_parseR (s := s.data.toList) h)
      generalize parseR s.data.toList = R at *
      obtain ⟨y, r⟩ := R
      dsimp only [RV.ok] at *
      subst ePX
      by_cases hr : r = 0
      · subst hr
        obtain ⟨hy1, hy2⟩ := HT.out rfl
        have HPY := hide (fun w' hE h => NPrint_c ⟨pX, aX, nX, cX⟩ w' hE h)
        have hpy : printR pX = (s.data.toList, 0) := by unfold printR; rw [if_pos hy1, hy2]
        dsimp only at HPY
        rw [hpy] at HPY
        obtain ⟨qx, sx, ⟨kx, zx, mx, tx, dx⟩⟩ := pX
        unfold textV at HPY
        dsimp only [RV.v, RV.ok] at HPY iX ⊢
        clear HT hpy hy1 hy2
        go_wp2_with fail
        refine (HPY.out _ (EX.below (by (repeat (first | exact Below.refl _ _ | assumption | refine Below.drew ?_ | refine below_drewN ?_ _ | refine belowA ?_ _ | refine belowT ?_ (by assumption) | refine Below.setCell ?_ (by first | (simp; done) | (simp; omega)) _)))) (iX.below (B := wT.heap.size) (by (repeat (first | exact Below.refl _ _ | assumption | refine Below.drew ?_ | refine below_drewN ?_ _ | refine belowA ?_ _ | refine belowT ?_ (by assumption) | refine Below.setCell ?_ (by first | (simp; done) | (simp; omega)) _))) (Nat.le_refl _))).mono ?_
        rintro e wU ⟨rfl, hbU⟩
        have q1 : ((⟨s.data.toList.toArray⟩ : ByteArray) == s) = true := beq_t rfl
        go_wp2
        go_ret
        exact ⟨rfl, by (repeat (first | exact Below.refl _ _ | assumption | refine Below.drew ?_ | refine below_drewN ?_ _ | refine belowA ?_ _ | refine belowT ?_ (by assumption) | refine Below.setCell ?_ (by first | (simp; done) | (simp; omega)) _))⟩
      · have hr' : (r != 0) = true := by simpa using hr
        obtain ⟨qx, sx, ⟨kx, zx, mx, tx, dx⟩⟩ := pX
        dsimp only [RV.v] at *
        go_wp2
        go_ret
        exact ⟨rfl, by (repeat (first | exact Below.refl _ _ | assumption | refine Below.drew ?_ | refine below_drewN ?_ _ | refine belowA ?_ _ | refine belowT ?_ (by assumption) | refine Below.setCell ?_ (by first | (simp; done) | (simp; omega)) _))⟩
    · have f2 : printR ⟨q2, s2, ⟨k2, z2, m2, t2, d2⟩⟩ = ([], checkR ⟨q2, s2, ⟨k2, z2, m2, t2, d2⟩⟩) := by unfold printR; rw [if_neg e2]
      rw [f2]
      unfold textV
      dsimp only
      have g2 : (checkR ⟨q2, s2, ⟨k2, z2, m2, t2, d2⟩⟩ == 0) = false := by simpa using e2
      generalize checkR ⟨q2, s2, ⟨k2, z2, m2, t2, d2⟩⟩ = cb2 at *
      have hPT := NParse_c ⟨(textR ⟨q1, s1, ⟨k1, z1, m1, t1, d1⟩⟩).toArray⟩
      rw [show (⟨(textR ⟨q1, s1, ⟨k1, z1, m1, t1, d1⟩⟩).toArray⟩ : ByteArray).data.toList = textR ⟨q1, s1, ⟨k1, z1, m1, t1, d1⟩⟩ by simp, parse_textR e1] at hPT
      have hlen1 := textR_len e1
      have HPT := hide (fun w' h => hPT w' h (by rw [Lib.size_eq]; simp; omega))
      clear hPT
      go_wp2_with fail
      refine (HPT.out _ (hE0.below bw3)).mono ?_
      rintro e wM ⟨⟨⟨pM, aM, nM, cM⟩, rfl, eM, iM, _⟩, hbM⟩
      have bM : Below w.heap.size w wM := by (repeat (first | exact Below.refl _ _ | assumption | refine Below.drew ?_ | refine below_drewN ?_ _ | refine belowA ?_ _ | refine belowT ?_ (by assumption) | refine Below.setCell ?_ (by first | (simp; done) | (simp; omega)) _))
      have p0 := fun o => past1 (keepc hbM (p := ⟨w.heap.size, 0, none⟩) (u := .int .i64 q1) (by (first | (go_simp; done) | (simp [*, World.cell?_alloc_at, World.cell?_alloc_past, World.cell?_alloc_some, World.cell?_setCell_far]; done)))) o
      have p1 := fun o => past1 (keepc hbM (p := ⟨w.heap.size, 1, none⟩) (u := .int .i64 s1) (by (first | (go_simp; done) | (simp [*, World.cell?_alloc_at, World.cell?_alloc_past, World.cell?_alloc_some, World.cell?_setCell_far]; done)))) o
      have p2 := fun o => past1 (keepc hbM (p := ⟨w.heap.size, 2, none⟩) (u := .int .i64 k1) (by (first | (go_simp; done) | (simp [*, World.cell?_alloc_at, World.cell?_alloc_past, World.cell?_alloc_some, World.cell?_setCell_far]; done)))) o
      have p3 := fun o => past1 (keepc hbM (p := ⟨w.heap.size, 3, none⟩) (u := .int .i64 z1) (by (first | (go_simp; done) | (simp [*, World.cell?_alloc_at, World.cell?_alloc_past, World.cell?_alloc_some, World.cell?_setCell_far]; done)))) o
      have p4 := fun o => past1 (keepc hbM (p := ⟨w.heap.size, 4, none⟩) (u := .int .i64 m1) (by (first | (go_simp; done) | (simp [*, World.cell?_alloc_at, World.cell?_alloc_past, World.cell?_alloc_some, World.cell?_setCell_far]; done)))) o
      have p5 := fun o => past1 (keepc hbM (p := ⟨w.heap.size, 5, none⟩) (u := .int .i64 t1) (by (first | (go_simp; done) | (simp [*, World.cell?_alloc_at, World.cell?_alloc_past, World.cell?_alloc_some, World.cell?_setCell_far]; done)))) o
      have p6 := fun o => past1 (keepc hbM (p := ⟨w.heap.size, 6, none⟩) (u := .slice a1 n1 c1) (by (first | (go_simp; done) | (simp [*, World.cell?_alloc_at, World.cell?_alloc_past, World.cell?_alloc_some, World.cell?_setCell_far]; done)))) o
      clear hbM HPT
      dsimp only at eM
      subst eM
      have HSS := hide (fun w' h1 h2 => NSame_c ⟨⟨q1, s1, ⟨k1, z1, m1, t1, d1⟩⟩, aM, nM, cM⟩ ⟨⟨q1, s1, ⟨k1, z1, m1, t1, d1⟩⟩, a1, n1, c1⟩ w' h1 h2)
      dsimp only [RV.v, RV.ok] at HSS iM ⊢
      rw [(sameR_iff _ _).2 rfl] at HSS
      have jM := h10.below bM (Nat.le_refl _)
      go_wp2_with fail
      refine (HSS.out _ (iM.below (B := wM.heap.size) (by (repeat (first | exact Below.refl _ _ | assumption | refine Below.drew ?_ | refine below_drewN ?_ _ | refine belowA ?_ _ | refine belowT ?_ (by assumption) | refine Below.setCell ?_ (by first | (simp; done) | (simp; omega)) _))) (Nat.le_refl _)) (jM.below (B := wM.heap.size) (by (repeat (first | exact Below.refl _ _ | assumption | refine Below.drew ?_ | refine below_drewN ?_ _ | refine belowA ?_ _ | refine belowT ?_ (by assumption) | refine Below.setCell ?_ (by first | (simp; done) | (simp; omega)) _))) (Nat.le_refl _))).mono ?_
      rintro e wN ⟨rfl, hbN⟩
      have bN : Below w.heap.size w wN := by (repeat (first | exact Below.refl _ _ | assumption | refine Below.drew ?_ | refine below_drewN ?_ _ | refine belowA ?_ _ | refine belowT ?_ (by assumption) | refine Below.setCell ?_ (by first | (simp; done) | (simp; omega)) _))
      clear hbN HSS jM iM
      have ET := hE0.below bN
      go_wp2_with fail
      refine (NParse_c s _ ET hs).mono ?_
      rintro e wT ⟨⟨⟨pX, aX, nX, cX⟩, rfl, ePX, iX, _⟩, hbT⟩
      have bT : Below w.heap.size w wT := by (repeat (first | exact Below.refl _ _ | assumption | refine Below.drew ?_ | refine below_drewN ?_ _ | refine belowA ?_ _ | refine belowT ?_ (by assumption) | refine Below.setCell ?_ (by first | (simp; done) | (simp; omega)) _))
      have EX := ET.below hbT
      clear hbT ET
      have HT := hide (fun h => text_parseR (s := s.data.toList) h)
      generalize parseR s.data.toList = R at *
      obtain ⟨y, r⟩ := R
      dsimp only [RV.ok] at *
      subst ePX
      by_cases hr : r = 0
      · subst hr
        obtain ⟨hy1, hy2⟩ := HT.out rfl
        have HPY := hide (fun w' hE h => NPrint_c ⟨pX, aX, nX, cX⟩ w' hE h)
        have hpy : printR pX = (s.data.toList, 0) := by unfold printR; rw [if_pos hy1, hy2]
        dsimp only at HPY
        rw [hpy] at HPY
        obtain ⟨qx, sx, ⟨kx, zx, mx, tx, dx⟩⟩ := pX
        unfold textV at HPY
        dsimp only [RV.v, RV.ok] at HPY iX ⊢
        clear HT hpy hy1 hy2
        go_wp2_with fail
        refine (HPY.out _ (EX.below (by (repeat (first | exact Below.refl _ _ | assumption | refine Below.drew ?_ | refine below_drewN ?_ _ | refine belowA ?_ _ | refine belowT ?_ (by assumption) | refine Below.setCell ?_ (by first | (simp; done) | (simp; omega)) _)))) (iX.below (B := wT.heap.size) (by (repeat (first | exact Below.refl _ _ | assumption | refine Below.drew ?_ | refine below_drewN ?_ _ | refine belowA ?_ _ | refine belowT ?_ (by assumption) | refine Below.setCell ?_ (by first | (simp; done) | (simp; omega)) _))) (Nat.le_refl _))).mono ?_
        rintro e wU ⟨rfl, hbU⟩
        have q1 : ((⟨s.data.toList.toArray⟩ : ByteArray) == s) = true := beq_t rfl
        go_wp2
        go_ret
        exact ⟨rfl, by (repeat (first | exact Below.refl _ _ | assumption | refine Below.drew ?_ | refine below_drewN ?_ _ | refine belowA ?_ _ | refine belowT ?_ (by assumption) | refine Below.setCell ?_ (by first | (simp; done) | (simp; omega)) _))⟩
      · have hr' : (r != 0) = true := by simpa using hr
        obtain ⟨qx, sx, ⟨kx, zx, mx, tx, dx⟩⟩ := pX
        dsimp only [RV.v] at *
        go_wp2
        go_ret
        exact ⟨rfl, by (repeat (first | exact Below.refl _ _ | assumption | refine Below.drew ?_ | refine below_drewN ?_ _ | refine belowA ?_ _ | refine belowT ?_ (by assumption) | refine Below.setCell ?_ (by first | (simp; done) | (simp; omega)) _))⟩
  · have f1 : printR ⟨q1, s1, ⟨k1, z1, m1, t1, d1⟩⟩ = ([], checkR ⟨q1, s1, ⟨k1, z1, m1, t1, d1⟩⟩) := by unfold printR; rw [if_neg e1]
    rw [f1]
    unfold textV
    dsimp only
    have g1 : (checkR ⟨q1, s1, ⟨k1, z1, m1, t1, d1⟩⟩ == 0) = false := by simpa using e1
    generalize checkR ⟨q1, s1, ⟨k1, z1, m1, t1, d1⟩⟩ = cb1 at *
    have ET := hE0.below bw3
    go_wp2_with fail
    refine (NParse_c s _ ET hs).mono ?_
    rintro e wT ⟨⟨⟨pX, aX, nX, cX⟩, rfl, ePX, iX, _⟩, hbT⟩
    have bT : Below w.heap.size w wT := by (repeat (first | exact Below.refl _ _ | assumption | refine Below.drew ?_ | refine below_drewN ?_ _ | refine belowA ?_ _ | refine belowT ?_ (by assumption) | refine Below.setCell ?_ (by first | (simp; done) | (simp; omega)) _))
    have EX := ET.below hbT
    clear hbT ET
    have HT := hide (fun h => text_parseR (s := s.data.toList) h)
    generalize parseR s.data.toList = R at *
    obtain ⟨y, r⟩ := R
    dsimp only [RV.ok] at *
    subst ePX
    by_cases hr : r = 0
    · subst hr
      obtain ⟨hy1, hy2⟩ := HT.out rfl
      have HPY := hide (fun w' hE h => NPrint_c ⟨pX, aX, nX, cX⟩ w' hE h)
      have hpy : printR pX = (s.data.toList, 0) := by unfold printR; rw [if_pos hy1, hy2]
      dsimp only at HPY
      rw [hpy] at HPY
      obtain ⟨qx, sx, ⟨kx, zx, mx, tx, dx⟩⟩ := pX
      unfold textV at HPY
      dsimp only [RV.v, RV.ok] at HPY iX ⊢
      clear HT hpy hy1 hy2
      go_wp2_with fail
      refine (HPY.out _ (EX.below (by (repeat (first | exact Below.refl _ _ | assumption | refine Below.drew ?_ | refine below_drewN ?_ _ | refine belowA ?_ _ | refine belowT ?_ (by assumption) | refine Below.setCell ?_ (by first | (simp; done) | (simp; omega)) _)))) (iX.below (B := wT.heap.size) (by (repeat (first | exact Below.refl _ _ | assumption | refine Below.drew ?_ | refine below_drewN ?_ _ | refine belowA ?_ _ | refine belowT ?_ (by assumption) | refine Below.setCell ?_ (by first | (simp; done) | (simp; omega)) _))) (Nat.le_refl _))).mono ?_
      rintro e wU ⟨rfl, hbU⟩
      have q1 : ((⟨s.data.toList.toArray⟩ : ByteArray) == s) = true := beq_t rfl
      go_wp2
      go_ret
      exact ⟨rfl, by (repeat (first | exact Below.refl _ _ | assumption | refine Below.drew ?_ | refine below_drewN ?_ _ | refine belowA ?_ _ | refine belowT ?_ (by assumption) | refine Below.setCell ?_ (by first | (simp; done) | (simp; omega)) _))⟩
    · have hr' : (r != 0) = true := by simpa using hr
      obtain ⟨qx, sx, ⟨kx, zx, mx, tx, dx⟩⟩ := pX
      dsimp only [RV.v] at *
      go_wp2
      go_ret
      exact ⟨rfl, by (repeat (first | exact Below.refl _ _ | assumption | refine Below.drew ?_ | refine below_drewN ?_ _ | refine belowA ?_ _ | refine belowT ?_ (by assumption) | refine Below.setCell ?_ (by first | (simp; done) | (simp; omega)) _))⟩

end Go.Proofs.YtgchgpgipdfhgacDoor
