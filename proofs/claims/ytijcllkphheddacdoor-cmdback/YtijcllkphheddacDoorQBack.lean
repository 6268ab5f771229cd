/- The law CmdBack returns true, wherever its arguments read and the package-level variables are as their texts lay them. -/
import Derived.Test.YtijcllkphheddacDoorQS
namespace Go.Proofs.YtijcllkphheddacDoor
open Go.RowKit
set_option linter.unusedVariables false
set_option linter.unusedSimpArgs false

set_option maxRecDepth 100000 in
set_option maxHeartbeats 4000000 in
theorem CmdBack_c (a1 a2 : Option Addr) (n1 c1 n2 c2 : Nat) (b1 b2 : PC) (s : ByteArray) (w : World) (hE : Env w) (h1 : Ints w a1 n1 c1 b1.d) (h2 : Ints w a2 n2 c2 b2.d) (hs : s.size ≤ 9223372036854775807) :
    Calls Tryd.prog 3 #[cmdV a1 n1 c1 b1, cmdV a2 n2 c2 b2, .string s] w fun e w' => e = .returned (.bool true) ∧ Below w.heap.size w w' := by
  have HP1 := hide (fun w' hE h => Print_c a1 n1 c1 b1 w' hE h)
  have HP2 := hide (fun w' hE h => Print_c a2 n2 c2 b2 w' hE h)
  have HSM := hide (fun w' h1 h2 => cmdSame_c a1 a2 n1 n2 c1 c2 b1 b2 w' h1 h2)
  unfold cmdV at *
  go_enter Tryd.func3, Tryd.ntmps3
  go_wp2_with fail
  refine (HP1.out _ (hE.below (by (repeat (first | exact Below.refl _ _ | assumption | refine Below.drew ?_ | refine below_drewN ?_ _ | refine belowA ?_ _ | refine belowT ?_ (by assumption) | refine Below.setCell ?_ (by first | (simp; done) | (simp; omega)) _)))) (h1.below (B := w.heap.size) (by (repeat (first | exact Below.refl _ _ | assumption | refine Below.drew ?_ | refine below_drewN ?_ _ | refine belowA ?_ _ | refine belowT ?_ (by assumption) | refine Below.setCell ?_ (by first | (simp; done) | (simp; omega)) _))) (Nat.le_refl _))).mono ?_
  rintro e w1 ⟨rfl, hb1⟩
  have bw1 : Below w.heap.size w w1 := by (repeat (first | exact Below.refl _ _ | assumption | refine Below.drew ?_ | refine below_drewN ?_ _ | refine belowA ?_ _ | refine belowT ?_ (by assumption) | refine Below.setCell ?_ (by first | (simp; done) | (simp; omega)) _))
  have u0 := keepc hb1 (p := ⟨w.heap.size, 0, none⟩) (u := .int .i64 b1.k) (by (first | (go_simp; done) | (simp [*, World.cell?_alloc_at, World.cell?_alloc_past, World.cell?_alloc_some, World.cell?_setCell_far]; done)))
  have u1 := keepc hb1 (p := ⟨w.heap.size, 1, none⟩) (u := .int .i64 b1.z) (by (first | (go_simp; done) | (simp [*, World.cell?_alloc_at, World.cell?_alloc_past, World.cell?_alloc_some, World.cell?_setCell_far]; done)))
  have u2 := keepc hb1 (p := ⟨w.heap.size, 2, none⟩) (u := .int .i64 b1.n) (by (first | (go_simp; done) | (simp [*, World.cell?_alloc_at, World.cell?_alloc_past, World.cell?_alloc_some, World.cell?_setCell_far]; done)))
  have u3 := keepc hb1 (p := ⟨w.heap.size, 3, none⟩) (u := .int .i64 b1.at') (by (first | (go_simp; done) | (simp [*, World.cell?_alloc_at, World.cell?_alloc_past, World.cell?_alloc_some, World.cell?_setCell_far]; done)))
  have u4 := keepc hb1 (p := ⟨w.heap.size, 4, none⟩) (u := .slice a1 n1 c1) (by (first | (go_simp; done) | (simp [*, World.cell?_alloc_at, World.cell?_alloc_past, World.cell?_alloc_some, World.cell?_setCell_far]; done)))
  have u5 := keepc hb1 (p := ⟨w.heap.size + 1, 0, none⟩) (u := .int .i64 b2.k) (by (first | (go_simp; done) | (simp [*, World.cell?_alloc_at, World.cell?_alloc_past, World.cell?_alloc_some, World.cell?_setCell_far]; done)))
  have u6 := keepc hb1 (p := ⟨w.heap.size + 1, 1, none⟩) (u := .int .i64 b2.z) (by (first | (go_simp; done) | (simp [*, World.cell?_alloc_at, World.cell?_alloc_past, World.cell?_alloc_some, World.cell?_setCell_far]; done)))
  have u7 := keepc hb1 (p := ⟨w.heap.size + 1, 2, none⟩) (u := .int .i64 b2.n) (by (first | (go_simp; done) | (simp [*, World.cell?_alloc_at, World.cell?_alloc_past, World.cell?_alloc_some, World.cell?_setCell_far]; done)))
  have u8 := keepc hb1 (p := ⟨w.heap.size + 1, 3, none⟩) (u := .int .i64 b2.at') (by (first | (go_simp; done) | (simp [*, World.cell?_alloc_at, World.cell?_alloc_past, World.cell?_alloc_some, World.cell?_setCell_far]; done)))
  have u9 := keepc hb1 (p := ⟨w.heap.size + 1, 4, none⟩) (u := .slice a2 n2 c2) (by (first | (go_simp; done) | (simp [*, World.cell?_alloc_at, World.cell?_alloc_past, World.cell?_alloc_some, World.cell?_setCell_far]; done)))
  clear hb1
  go_wp2_with fail
  refine (HP2.out _ (hE.below bw1) (h2.below bw1 (Nat.le_refl _))).mono ?_
  rintro e w2 ⟨rfl, hb2⟩
  have bw2 : Below w.heap.size w w2 := by (repeat (first | exact Below.refl _ _ | assumption | refine Below.drew ?_ | refine below_drewN ?_ _ | refine belowA ?_ _ | refine belowT ?_ (by assumption) | refine Below.setCell ?_ (by first | (simp; done) | (simp; omega)) _))
  have v0 := keepc hb2 (p := ⟨w.heap.size, 0, none⟩) (u := .int .i64 b1.k) (by (first | (go_simp; done) | (simp [*, World.cell?_alloc_at, World.cell?_alloc_past, World.cell?_alloc_some, World.cell?_setCell_far]; done)))
  have v1 := keepc hb2 (p := ⟨w.heap.size, 1, none⟩) (u := .int .i64 b1.z) (by (first | (go_simp; done) | (simp [*, World.cell?_alloc_at, World.cell?_alloc_past, World.cell?_alloc_some, World.cell?_setCell_far]; done)))
  have v2 := keepc hb2 (p := ⟨w.heap.size, 2, none⟩) (u := .int .i64 b1.n) (by (first | (go_simp; done) | (simp [*, World.cell?_alloc_at, World.cell?_alloc_past, World.cell?_alloc_some, World.cell?_setCell_far]; done)))
  have v3 := keepc hb2 (p := ⟨w.heap.size, 3, none⟩) (u := .int .i64 b1.at') (by (first | (go_simp; done) | (simp [*, World.cell?_alloc_at, World.cell?_alloc_past, World.cell?_alloc_some, World.cell?_setCell_far]; done)))
  have v4 := keepc hb2 (p := ⟨w.heap.size, 4, none⟩) (u := .slice a1 n1 c1) (by (first | (go_simp; done) | (simp [*, World.cell?_alloc_at, World.cell?_alloc_past, World.cell?_alloc_some, World.cell?_setCell_far]; done)))
  have v5 := keepc hb2 (p := ⟨w.heap.size + 1, 0, none⟩) (u := .int .i64 b2.k) (by (first | (go_simp; done) | (simp [*, World.cell?_alloc_at, World.cell?_alloc_past, World.cell?_alloc_some, World.cell?_setCell_far]; done)))
  have v6 := keepc hb2 (p := ⟨w.heap.size + 1, 1, none⟩) (u := .int .i64 b2.z) (by (first | (go_simp; done) | (simp [*, World.cell?_alloc_at, World.cell?_alloc_past, World.cell?_alloc_some, World.cell?_setCell_far]; done)))
  have v7 := keepc hb2 (p := ⟨w.heap.size + 1, 2, none⟩) (u := .int .i64 b2.n) (by (first | (go_simp; done) | (simp [*, World.cell?_alloc_at, World.cell?_alloc_past, World.cell?_alloc_some, World.cell?_setCell_far]; done)))
  have v8 := keepc hb2 (p := ⟨w.heap.size + 1, 3, none⟩) (u := .int .i64 b2.at') (by (first | (go_simp; done) | (simp [*, World.cell?_alloc_at, World.cell?_alloc_past, World.cell?_alloc_some, World.cell?_setCell_far]; done)))
  have v9 := keepc hb2 (p := ⟨w.heap.size + 1, 4, none⟩) (u := .slice a2 n2 c2) (by (first | (go_simp; done) | (simp [*, World.cell?_alloc_at, World.cell?_alloc_past, World.cell?_alloc_some, World.cell?_setCell_far]; done)))
  clear hb2 bw1 u0 u1 u2 u3 u4 u5 u6 u7 u8 u9
  go_wp2_with fail
  refine (spoken_c _ (hE.below bw2)).mono ?_
  rintro e w3 ⟨rfl, hb3⟩
  have bw3 : Below w.heap.size w w3 := by (repeat (first | exact Below.refl _ _ | assumption | refine Below.drew ?_ | refine below_drewN ?_ _ | refine belowA ?_ _ | refine belowT ?_ (by assumption) | refine Below.setCell ?_ (by first | (simp; done) | (simp; omega)) _))
  have u0 := keepc hb3 (p := ⟨w.heap.size, 0, none⟩) (u := .int .i64 b1.k) (by (first | (go_simp; done) | (simp [*, World.cell?_alloc_at, World.cell?_alloc_past, World.cell?_alloc_some, World.cell?_setCell_far]; done)))
  have u1 := keepc hb3 (p := ⟨w.heap.size, 1, none⟩) (u := .int .i64 b1.z) (by (first | (go_simp; done) | (simp [*, World.cell?_alloc_at, World.cell?_alloc_past, World.cell?_alloc_some, World.cell?_setCell_far]; done)))
  have u2 := keepc hb3 (p := ⟨w.heap.size, 2, none⟩) (u := .int .i64 b1.n) (by (first | (go_simp; done) | (simp [*, World.cell?_alloc_at, World.cell?_alloc_past, World.cell?_alloc_some, World.cell?_setCell_far]; done)))
  have u3 := keepc hb3 (p := ⟨w.heap.size, 3, none⟩) (u := .int .i64 b1.at') (by (first | (go_simp; done) | (simp [*, World.cell?_alloc_at, World.cell?_alloc_past, World.cell?_alloc_some, World.cell?_setCell_far]; done)))
  have u4 := keepc hb3 (p := ⟨w.heap.size, 4, none⟩) (u := .slice a1 n1 c1) (by (first | (go_simp; done) | (simp [*, World.cell?_alloc_at, World.cell?_alloc_past, World.cell?_alloc_some, World.cell?_setCell_far]; done)))
  have u5 := keepc hb3 (p := ⟨w.heap.size + 1, 0, none⟩) (u := .int .i64 b2.k) (by (first | (go_simp; done) | (simp [*, World.cell?_alloc_at, World.cell?_alloc_past, World.cell?_alloc_some, World.cell?_setCell_far]; done)))
  have u6 := keepc hb3 (p := ⟨w.heap.size + 1, 1, none⟩) (u := .int .i64 b2.z) (by (first | (go_simp; done) | (simp [*, World.cell?_alloc_at, World.cell?_alloc_past, World.cell?_alloc_some, World.cell?_setCell_far]; done)))
  have u7 := keepc hb3 (p := ⟨w.heap.size + 1, 2, none⟩) (u := .int .i64 b2.n) (by (first | (go_simp; done) | (simp [*, World.cell?_alloc_at, World.cell?_alloc_past, World.cell?_alloc_some, World.cell?_setCell_far]; done)))
  have u8 := keepc hb3 (p := ⟨w.heap.size + 1, 3, none⟩) (u := .int .i64 b2.at') (by (first | (go_simp; done) | (simp [*, World.cell?_alloc_at, World.cell?_alloc_past, World.cell?_alloc_some, World.cell?_setCell_far]; done)))
  have u9 := keepc hb3 (p := ⟨w.heap.size + 1, 4, none⟩) (u := .slice a2 n2 c2) (by (first | (go_simp; done) | (simp [*, World.cell?_alloc_at, World.cell?_alloc_past, World.cell?_alloc_some, World.cell?_setCell_far]; done)))
  clear hb3 bw2 v0 v1 v2 v3 v4 v5 v6 v7 v8 v9
  have hE0 := hE
  have h10 := h1
  replace hE := hE.below bw3
  replace h1 := h1.below bw3 (Nat.le_refl _)
  replace h2 := h2.below bw3 (Nat.le_refl _)
  clear HP1 HP2
  by_cases e1 : checkC b1 = 0
  · have f1 : printC b1 = (textC b1, 0) := by unfold printC; rw [if_pos e1]
    rw [f1]
    by_cases e2 : checkC b2 = 0
    · have f2 : printC b2 = (textC b2, 0) := by unfold printC; rw [if_pos e2]
      rw [f2]
      unfold textV
      dsimp only
      have hst : ((⟨(textC b1).toArray⟩ : ByteArray) == ⟨(textC b2).toArray⟩) = sameC b1 b2 := by
        cases hsm : sameC b1 b2
        · refine beq_f (fun e => ?_)
          have : textC b1 = textC b2 := by
            have := congrArg (fun x : ByteArray => x.data.toList) e
            simpa using this
          have := (text_inj e1 e2).1 this
          rw [(sameC_iff b1 b2).2 this] at hsm
          cases hsm
        · refine beq_t ?_
          rw [(sameC_iff b1 b2).1 hsm]
      have hst2 : ((⟨(textC b1).toArray⟩ : ByteArray).toList == (⟨(textC b2).toArray⟩ : ByteArray).toList) = sameC b1 b2 := by rw [← beq_toListBytes]; exact hst
      have hst3 : (textC b1 == textC b2) = sameC b1 b2 := by rw [← hst, beq_toListBytes, ByteArray.toList_eq, ByteArray.toList_eq]
      have hne : ∀ x : Bool, (x != x) = false := fun x => by cases x <;> rfl
      generalize sameC b1 b2 = sm at *
      go_wp2_with fail
      refine (HSM.out _ h1 h2).mono ?_
      rintro e w4 ⟨rfl, hb4⟩
      have bw4 : Below w.heap.size w w4 := by (repeat (first | exact Below.refl _ _ | assumption | refine Below.drew ?_ | refine below_drewN ?_ _ | refine belowA ?_ _ | refine belowT ?_ (by assumption) | refine Below.setCell ?_ (by first | (simp; done) | (simp; omega)) _))
      have v0 := keepc hb4 (p := ⟨w.heap.size, 0, none⟩) (u := .int .i64 b1.k) (by (first | (go_simp; done) | (simp [*, World.cell?_alloc_at, World.cell?_alloc_past, World.cell?_alloc_some, World.cell?_setCell_far]; done)))
      have v1 := keepc hb4 (p := ⟨w.heap.size, 1, none⟩) (u := .int .i64 b1.z) (by (first | (go_simp; done) | (simp [*, World.cell?_alloc_at, World.cell?_alloc_past, World.cell?_alloc_some, World.cell?_setCell_far]; done)))
      have v2 := keepc hb4 (p := ⟨w.heap.size, 2, none⟩) (u := .int .i64 b1.n) (by (first | (go_simp; done) | (simp [*, World.cell?_alloc_at, World.cell?_alloc_past, World.cell?_alloc_some, World.cell?_setCell_far]; done)))
      have v3 := keepc hb4 (p := ⟨w.heap.size, 3, none⟩) (u := .int .i64 b1.at') (by (first | (go_simp; done) | (simp [*, World.cell?_alloc_at, World.cell?_alloc_past, World.cell?_alloc_some, World.cell?_setCell_far]; done)))
      have v4 := keepc hb4 (p := ⟨w.heap.size, 4, none⟩) (u := .slice a1 n1 c1) (by (first | (go_simp; done) | (simp [*, World.cell?_alloc_at, World.cell?_alloc_past, World.cell?_alloc_some, World.cell?_setCell_far]; done)))
      have v5 := keepc hb4 (p := ⟨w.heap.size + 1, 0, none⟩) (u := .int .i64 b2.k) (by (first | (go_simp; done) | (simp [*, World.cell?_alloc_at, World.cell?_alloc_past, World.cell?_alloc_some, World.cell?_setCell_far]; done)))
      have v6 := keepc hb4 (p := ⟨w.heap.size + 1, 1, none⟩) (u := .int .i64 b2.z) (by (first | (go_simp; done) | (simp [*, World.cell?_alloc_at, World.cell?_alloc_past, World.cell?_alloc_some, World.cell?_setCell_far]; done)))
      have v7 := keepc hb4 (p := ⟨w.heap.size + 1, 2, none⟩) (u := .int .i64 b2.n) (by (first | (go_simp; done) | (simp [*, World.cell?_alloc_at, World.cell?_alloc_past, World.cell?_alloc_some, World.cell?_setCell_far]; done)))
      have v8 := keepc hb4 (p := ⟨w.heap.size + 1, 3, none⟩) (u := .int .i64 b2.at') (by (first | (go_simp; done) | (simp [*, World.cell?_alloc_at, World.cell?_alloc_past, World.cell?_alloc_some, World.cell?_setCell_far]; done)))
      have v9 := keepc hb4 (p := ⟨w.heap.size + 1, 4, none⟩) (u := .slice a2 n2 c2) (by (first | (go_simp; done) | (simp [*, World.cell?_alloc_at, World.cell?_alloc_past, World.cell?_alloc_some, World.cell?_setCell_far]; done)))
      clear hb4 bw3 u0 u1 u2 u3 u4 u5 u6 u7 u8 u9
      have hPT := Parse_c ⟨(textC b1).toArray⟩
      rw [parse_text e1] at hPT
      have hlen1 := textC_len e1
      have HPT := hide (fun w' h => hPT w' h (by rw [Lib.size_eq]; simp; omega))
      clear hPT
      go_wp2_with fail
      refine (HPT.out _ (hE0.below bw4)).mono ?_
      rintro e wM ⟨⟨aM, nM, rfl, iM, xM⟩, hbM⟩
      have bM : Below w.heap.size w wM := by (repeat (first | exact Below.refl _ _ | assumption | refine Below.drew ?_ | refine below_drewN ?_ _ | refine belowA ?_ _ | refine belowT ?_ (by assumption) | refine Below.setCell ?_ (by first | (simp; done) | (simp; omega)) _))
      have p0 := fun o => past1 (keepc hbM (p := ⟨w.heap.size, 0, none⟩) (u := .int .i64 b1.k) (by (first | (go_simp; done) | (simp [*, World.cell?_alloc_at, World.cell?_alloc_past, World.cell?_alloc_some, World.cell?_setCell_far]; done)))) o
      have p1 := fun o => past1 (keepc hbM (p := ⟨w.heap.size, 1, none⟩) (u := .int .i64 b1.z) (by (first | (go_simp; done) | (simp [*, World.cell?_alloc_at, World.cell?_alloc_past, World.cell?_alloc_some, World.cell?_setCell_far]; done)))) o
      have p2 := fun o => past1 (keepc hbM (p := ⟨w.heap.size, 2, none⟩) (u := .int .i64 b1.n) (by (first | (go_simp; done) | (simp [*, World.cell?_alloc_at, World.cell?_alloc_past, World.cell?_alloc_some, World.cell?_setCell_far]; done)))) o
      have p3 := fun o => past1 (keepc hbM (p := ⟨w.heap.size, 3, none⟩) (u := .int .i64 b1.at') (by (first | (go_simp; done) | (simp [*, World.cell?_alloc_at, World.cell?_alloc_past, World.cell?_alloc_some, World.cell?_setCell_far]; done)))) o
      have p4 := fun o => past1 (keepc hbM (p := ⟨w.heap.size, 4, none⟩) (u := .slice a1 n1 c1) (by (first | (go_simp; done) | (simp [*, World.cell?_alloc_at, World.cell?_alloc_past, World.cell?_alloc_some, World.cell?_setCell_far]; done)))) o
      clear hbM HPT
      have HSS := hide (fun w' h1 h2 => cmdSame_c aM a1 nM n1 nM c1 b1 b1 w' h1 h2)
      rw [(sameC_iff b1 b1).2 rfl] at HSS
      unfold cmdV at HSS
      unfold cmdV
      dsimp only at iM HSS ⊢
      have jM := h10.below bM (Nat.le_refl _)
      go_wp2_with fail
      refine (HSS.out _ (iM.below (B := wM.heap.size) (by (repeat (first | exact Below.refl _ _ | assumption | refine Below.drew ?_ | refine below_drewN ?_ _ | refine belowA ?_ _ | refine belowT ?_ (by assumption) | refine Below.setCell ?_ (by first | (simp; done) | (simp; omega)) _))) (Nat.le_refl _)) (jM.below (B := wM.heap.size) (by (repeat (first | exact Below.refl _ _ | assumption | refine Below.drew ?_ | refine below_drewN ?_ _ | refine belowA ?_ _ | refine belowT ?_ (by assumption) | refine Below.setCell ?_ (by first | (simp; done) | (simp; omega)) _))) (Nat.le_refl _))).mono ?_
      rintro e wN ⟨rfl, hbN⟩
      have bN : Below w.heap.size w wN := by (repeat (first | exact Below.refl _ _ | assumption | refine Below.drew ?_ | refine below_drewN ?_ _ | refine belowA ?_ _ | refine belowT ?_ (by assumption) | refine Below.setCell ?_ (by first | (simp; done) | (simp; omega)) _))
      clear hbN HSS jM iM
      have ET := hE0.below bN
      go_wp2_with fail
      refine (Parse_c s _ ET hs).mono ?_
      rintro e wT ⟨⟨aX, nX, rfl, iX, xX⟩, hbT⟩
      have bT : Below w.heap.size w wT := by (repeat (first | exact Below.refl _ _ | assumption | refine Below.drew ?_ | refine below_drewN ?_ _ | refine belowA ?_ _ | refine belowT ?_ (by assumption) | refine Below.setCell ?_ (by first | (simp; done) | (simp; omega)) _))
      have EX := ET.below hbT
      clear hbT ET
      have HT := hide (fun h => text_parse (s := s) h)
      unfold cmdV
      generalize parseC s = R at *
      obtain ⟨y, r⟩ := R
      dsimp only at *
      by_cases hr : r = 0
      · subst hr
        obtain ⟨hy1, hy2⟩ := HT.out rfl
        have HPY := hide (fun w' hE h => Print_c aX nX nX y w' hE h)
        have hpy : printC y = (s.data.toList, 0) := by unfold printC; rw [if_pos hy1, hy2]
        rw [hpy] at HPY
        unfold cmdV textV at HPY
        dsimp only at HPY
        clear HT hpy
        go_wp2_with fail
        refine (HPY.out _ (EX.below (by (repeat (first | exact Below.refl _ _ | assumption | refine Below.drew ?_ | refine below_drewN ?_ _ | refine belowA ?_ _ | refine belowT ?_ (by assumption) | refine Below.setCell ?_ (by first | (simp; done) | (simp; omega)) _)))) (iX.below (B := wT.heap.size) (by (repeat (first | exact Below.refl _ _ | assumption | refine Below.drew ?_ | refine below_drewN ?_ _ | refine belowA ?_ _ | refine belowT ?_ (by assumption) | refine Below.setCell ?_ (by first | (simp; done) | (simp; omega)) _))) (Nat.le_refl _))).mono ?_
        rintro e wU ⟨rfl, hbU⟩
        have q1 : ((⟨s.data.toList.toArray⟩ : ByteArray) == s) = true := beq_t rfl
        go_wp2
        go_ret
        exact ⟨rfl, by (repeat (first | exact Below.refl _ _ | assumption | refine Below.drew ?_ | refine below_drewN ?_ _ | refine belowA ?_ _ | refine belowT ?_ (by assumption) | refine Below.setCell ?_ (by first | (simp; done) | (simp; omega)) _))⟩
      · have hr' : (r != 0) = true := by simpa using hr
        go_wp2
        go_ret
        exact ⟨rfl, by (repeat (first | exact Below.refl _ _ | assumption | refine Below.drew ?_ | refine below_drewN ?_ _ | refine belowA ?_ _ | refine belowT ?_ (by assumption) | refine Below.setCell ?_ (by first | (simp; done) | (simp; omega)) _))⟩
    · have f2 : printC b2 = ([], checkC b2) := by unfold printC; rw [if_neg e2]
      rw [f2]
      unfold textV
      dsimp only
      have g2 : (checkC b2 == 0) = false := by simpa using e2
      generalize checkC b2 = cb2 at *
      have hPT := Parse_c ⟨(textC b1).toArray⟩
      rw [parse_text e1] at hPT
      have hlen1 := textC_len e1
      have HPT := hide (fun w' h => hPT w' h (by rw [Lib.size_eq]; simp; omega))
      clear hPT
      go_wp2_with fail
      refine (HPT.out _ (hE0.below bw3)).mono ?_
      rintro e wM ⟨⟨aM, nM, rfl, iM, xM⟩, hbM⟩
      have bM : Below w.heap.size w wM := by (repeat (first | exact Below.refl _ _ | assumption | refine Below.drew ?_ | refine below_drewN ?_ _ | refine belowA ?_ _ | refine belowT ?_ (by assumption) | refine Below.setCell ?_ (by first | (simp; done) | (simp; omega)) _))
      have p0 := fun o => past1 (keepc hbM (p := ⟨w.heap.size, 0, none⟩) (u := .int .i64 b1.k) (by (first | (go_simp; done) | (simp [*, World.cell?_alloc_at, World.cell?_alloc_past, World.cell?_alloc_some, World.cell?_setCell_far]; done)))) o
      have p1 := fun o => past1 (keepc hbM (p := ⟨w.heap.size, 1, none⟩) (u := .int .i64 b1.z) (by (first | (go_simp; done) | (simp [*, World.cell?_alloc_at, World.cell?_alloc_past, World.cell?_alloc_some, World.cell?_setCell_far]; done)))) o
      have p2 := fun o => past1 (keepc hbM (p := ⟨w.heap.size, 2, none⟩) (u := .int .i64 b1.n) (by (first | (go_simp; done) | (simp [*, World.cell?_alloc_at, World.cell?_alloc_past, World.cell?_alloc_some, World.cell?_setCell_far]; done)))) o
      have p3 := fun o => past1 (keepc hbM (p := ⟨w.heap.size, 3, none⟩) (u := .int .i64 b1.at') (by (first | (go_simp; done) | (simp [*, World.cell?_alloc_at, World.cell?_alloc_past, World.cell?_alloc_some, World.cell?_setCell_far]; done)))) o
      have p4 := fun o => past1 (keepc hbM (p := ⟨w.heap.size, 4, none⟩) (u := .slice a1 n1 c1) (by (first | (go_simp; done) | (simp [*, World.cell?_alloc_at, World.cell?_alloc_past, World.cell?_alloc_some, World.cell?_setCell_far]; done)))) o
      clear hbM HPT
      have HSS := hide (fun w' h1 h2 => cmdSame_c aM a1 nM n1 nM c1 b1 b1 w' h1 h2)
      rw [(sameC_iff b1 b1).2 rfl] at HSS
      unfold cmdV at HSS
      unfold cmdV
      dsimp only at iM HSS ⊢
      have jM := h10.below bM (Nat.le_refl _)
      go_wp2_with fail
      refine (HSS.out _ (iM.below (B := wM.heap.size) (by (repeat (first | exact Below.refl _ _ | assumption | refine Below.drew ?_ | refine below_drewN ?_ _ | refine belowA ?_ _ | refine belowT ?_ (by assumption) | refine Below.setCell ?_ (by first | (simp; done) | (simp; omega)) _))) (Nat.le_refl _)) (jM.below (B := wM.heap.size) (by (repeat (first | exact Below.refl _ _ | assumption | refine Below.drew ?_ | refine below_drewN ?_ _ | refine belowA ?_ _ | refine belowT ?_ (by assumption) | refine Below.setCell ?_ (by first | (simp; done) | (simp; omega)) _))) (Nat.le_refl _))).mono ?_
      rintro e wN ⟨rfl, hbN⟩
      have bN : Below w.heap.size w wN := by (repeat (first | exact Below.refl _ _ | assumption | refine Below.drew ?_ | refine below_drewN ?_ _ | refine belowA ?_ _ | refine belowT ?_ (by assumption) | refine Below.setCell ?_ (by first | (simp; done) | (simp; omega)) _))
      clear hbN HSS jM iM
      have ET := hE0.below bN
      go_wp2_with fail
      refine (Parse_c s _ ET hs).mono ?_
      rintro e wT ⟨⟨aX, nX, rfl, iX, xX⟩, hbT⟩
      have bT : Below w.heap.size w wT := by (repeat (first | exact Below.refl _ _ | assumption | refine Below.drew ?_ | refine below_drewN ?_ _ | refine belowA ?_ _ | refine belowT ?_ (by assumption) | refine Below.setCell ?_ (by first | (simp; done) | (simp; omega)) _))
      have EX := ET.below hbT
      clear hbT ET
      have HT := hide (fun h => text_parse (s := s) h)
      unfold cmdV
      generalize parseC s = R at *
      obtain ⟨y, r⟩ := R
      dsimp only at *
      by_cases hr : r = 0
      · subst hr
        obtain ⟨hy1, hy2⟩ := HT.out rfl
        have HPY := hide (fun w' hE h => Print_c aX nX nX y w' hE h)
        have hpy : printC y = (s.data.toList, 0) := by unfold printC; rw [if_pos hy1, hy2]
        rw [hpy] at HPY
        unfold cmdV textV at HPY
        dsimp only at HPY
        clear HT hpy
        go_wp2_with fail
        refine (HPY.out _ (EX.below (by (repeat (first | exact Below.refl _ _ | assumption | refine Below.drew ?_ | refine below_drewN ?_ _ | refine belowA ?_ _ | refine belowT ?_ (by assumption) | refine Below.setCell ?_ (by first | (simp; done) | (simp; omega)) _)))) (iX.below (B := wT.heap.size) (by (repeat (first | exact Below.refl _ _ | assumption | refine Below.drew ?_ | refine below_drewN ?_ _ | refine belowA ?_ _ | refine belowT ?_ (by assumption) | refine Below.setCell ?_ (by first | (simp; done) | (simp; omega)) _))) (Nat.le_refl _))).mono ?_
        rintro e wU ⟨rfl, hbU⟩
        have q1 : ((⟨s.data.toList.toArray⟩ : ByteArray) == s) = true := beq_t rfl
        go_wp2
        go_ret
        exact ⟨rfl, by (repeat (first | exact Below.refl _ _ | assumption | refine Below.drew ?_ | refine below_drewN ?_ _ | refine belowA ?_ _ | refine belowT ?_ (by assumption) | refine Below.setCell ?_ (by first | (simp; done) | (simp; omega)) _))⟩
      · have hr' : (r != 0) = true := by simpa using hr
        go_wp2
        go_ret
        exact ⟨rfl, by (repeat (first | exact Below.refl _ _ | assumption | refine Below.drew ?_ | refine below_drewN ?_ _ | refine belowA ?_ _ | refine belowT ?_ (by assumption) | refine Below.setCell ?_ (by first | (simp; done) | (simp; omega)) _))⟩
  · have f1 : printC b1 = ([], checkC b1) := by unfold printC; rw [if_neg e1]
    rw [f1]
    unfold textV
    dsimp only
    have g1 : (checkC b1 == 0) = false := by simpa using e1
    generalize checkC b1 = cb1 at *
    have ET := hE0.below bw3
    go_wp2_with fail
    refine (Parse_c s _ ET hs).mono ?_
    rintro e wT ⟨⟨aX, nX, rfl, iX, xX⟩, hbT⟩
    have bT : Below w.heap.size w wT := by (repeat (first | exact Below.refl _ _ | assumption | refine Below.drew ?_ | refine below_drewN ?_ _ | refine belowA ?_ _ | refine belowT ?_ (by assumption) | refine Below.setCell ?_ (by first | (simp; done) | (simp; omega)) _))
    have EX := ET.below hbT
    clear hbT ET
    have HT := hide (fun h => text_parse (s := s) h)
    unfold cmdV
    generalize parseC s = R at *
    obtain ⟨y, r⟩ := R
    dsimp only at *
    by_cases hr : r = 0
    · subst hr
      obtain ⟨hy1, hy2⟩ := HT.out rfl
      have HPY := hide (fun w' hE h => Print_c aX nX nX y w' hE h)
      have hpy : printC y = (s.data.toList, 0) := by unfold printC; rw [if_pos hy1, hy2]
      rw [hpy] at HPY
      unfold cmdV textV at HPY
      dsimp only at HPY
      clear HT hpy
      go_wp2_with fail
      refine (HPY.out _ (EX.below (by (repeat (first | exact Below.refl _ _ | assumption | refine Below.drew ?_ | refine below_drewN ?_ _ | refine belowA ?_ _ | refine belowT ?_ (by assumption) | refine Below.setCell ?_ (by first | (simp; done) | (simp; omega)) _)))) (iX.below (B := wT.heap.size) (by (repeat (first | exact Below.refl _ _ | assumption | refine Below.drew ?_ | refine below_drewN ?_ _ | refine belowA ?_ _ | refine belowT ?_ (by assumption) | refine Below.setCell ?_ (by first | (simp; done) | (simp; omega)) _))) (Nat.le_refl _))).mono ?_
      rintro e wU ⟨rfl, hbU⟩
      have q1 : ((⟨s.data.toList.toArray⟩ : ByteArray) == s) = true := beq_t rfl
      go_wp2
      go_ret
      exact ⟨rfl, by (repeat (first | exact Below.refl _ _ | assumption | refine Below.drew ?_ | refine below_drewN ?_ _ | refine belowA ?_ _ | refine belowT ?_ (by assumption) | refine Below.setCell ?_ (by first | (simp; done) | (simp; omega)) _))⟩
    · have hr' : (r != 0) = true := by simpa using hr
      go_wp2
      go_ret
      exact ⟨rfl, by (repeat (first | exact Below.refl _ _ | assumption | refine Below.drew ?_ | refine below_drewN ?_ _ | refine belowA ?_ _ | refine belowT ?_ (by assumption) | refine Below.setCell ?_ (by first | (simp; done) | (simp; omega)) _))⟩

end Go.Proofs.YtijcllkphheddacDoor
