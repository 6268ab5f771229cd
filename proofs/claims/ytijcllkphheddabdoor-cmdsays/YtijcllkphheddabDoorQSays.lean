/- The law CmdSays returns true, wherever its arguments read and the package-level variables are as their texts lay them. -/
import Derived.Test.YtijcllkphheddabDoorQS
import Derived.Test.YtijcllkphheddabDoorLC5
namespace Go.Proofs.YtijcllkphheddabDoor
open Go.RowKit
set_option linter.unusedVariables false
set_option linter.unusedSimpArgs false

set_option maxRecDepth 100000 in
set_option maxHeartbeats 4000000 in
theorem CmdSays_c (a1 a2 : Option Addr) (n1 c1 n2 c2 : Nat) (b1 b2 : PC) (s : ByteArray) (w : World) (hE : Env w) (h1 : Ints w a1 n1 c1 b1.d) (h2 : Ints w a2 n2 c2 b2.d) (hs : s.size ≤ 9223372036854775807) :
    Calls Tryd.prog 3 #[cmdV a1 n1 c1 b1, cmdV a2 n2 c2 b2, .string s] w fun e w' => e = .returned (.bool true) ∧ Below w.heap.size w w' := by
  have HP1 := hide (fun w' hE h => Print_c a1 n1 c1 b1 w' hE h)
  have HK1 := hide (fun w' hS h => cmdCheck_c a1 n1 c1 b1 w' hS h)
  have HR1 := hide (fun w' h => CheckCmd_c a1 n1 c1 b1 w' h)
  have HT1 := hide (fun w' hE h hck => CmdText_c a1 n1 c1 b1 w' hE h hck)
  have HS1 := hide (fun w' h1 h2 => cmdSame_c a1 a2 n1 n2 c1 c2 b1 b2 w' h1 h2)
  have HS2 := hide (fun w' h1 h2 => SameCmd_c a1 a2 n1 n2 c1 c2 b1 b2 w' h1 h2)
  unfold cmdV at *
  have HPC : Hid (printC b1 = if checkC b1 = 0 then (textC b1, 0) else ([], checkC b1)) := hide rfl
  have HLG : Hid (60000 < s.size → parseC s = (zeroC, 2)) := hide (fun h => by unfold parseC; rw [if_pos h])
  generalize sameC b1 b2 = sm at *
  go_enter Tryd.func3, Tryd.ntmps3
  go_wp2_with fail
  refine (HP1.out _ (hE.below (by (repeat (first | exact Below.refl _ _ | assumption | refine Below.drew ?_ | refine below_drewN ?_ _ | refine belowA ?_ _ | refine belowT ?_ (by assumption) | refine Below.setCell ?_ (by first | (simp; done) | (simp; omega)) _)))) (h1.below (B := w.heap.size) (by (repeat (first | exact Below.refl _ _ | assumption | refine Below.drew ?_ | refine below_drewN ?_ _ | refine belowA ?_ _ | refine belowT ?_ (by assumption) | refine Below.setCell ?_ (by first | (simp; done) | (simp; omega)) _))) (Nat.le_refl _))).mono ?_
  rintro e w1 ⟨rfl, hb1⟩
  have bw1 : Below w.heap.size w w1 := by (repeat (first | exact Below.refl _ _ | assumption | refine Below.drew ?_ | refine below_drewN ?_ _ | refine belowA ?_ _ | refine belowT ?_ (by assumption) | refine Below.setCell ?_ (by first | (simp; done) | (simp; omega)) _))
  have u0 := keepc hb1 (p := ⟨w.heap.size, 0, none⟩) (u := .int .i64 b1.k) (by (first | (go_simp; done) | (simp [*, World.cell?_alloc_at, World.cell?_alloc_past, World.cell?_alloc_some, World.cell?_setCell_far]; done)))
  have u1 := keepc hb1 (p := ⟨w.heap.size, 1, none⟩) (u := .int .i64 b1.z) (by (first | (go_simp; done) | (simp [*, World.cell?_alloc_at, World.cell?_alloc_past, World.cell?_alloc_some, World.cell?_setCell_far]; done)))
  have u2 := keepc hb1 (p := ⟨w.heap.size, 2, none⟩) (u := .int .i64 b1.n) (by (first | (go_simp; done) | (simp [*, World.cell?_alloc_at, World.cell?_alloc_past, World.cell?_alloc_some, World.cell?_setCell_far]; done)))
  have u3 := keepc hb1 (p := ⟨w.heap.size, 3, none⟩) (u := .int .i64 b1.at') (by (first | (go_simp; done) | (simp [*, World.cell?_alloc_at, World.cell?_alloc_past, World.cell?_alloc_some, World.cell?_setCell_far]; done)))
  have u4 := keepc hb1 (p := ⟨w.heap.size, 4, none⟩) (u := .slice a1 n1 c1) (by (first | (go_simp; done) | (simp [*, World.cell?_alloc_at, World.cell?_alloc_past, World.cell?_alloc_some, World.cell?_setCell_far]; done)))
  have u5 := keepc hb1 (p := ⟨w.heap.size + 1, 0, none⟩) (u := .int .i64 b2.k) (by (first | (go_simp; done) | (simp [*, World.cell?_alloc_at, World.cell?_alloc_past, World.cell?_alloc_some, World.cell?_setCell_far]; done)))
  have u6 := keepc hb1 (p := ⟨w.heap.size + 1, 1, none⟩) (u := .int .i64 b2.z) (by (first | (go_simp; done) | (simp [*, World.cell?_alloc_at, World.cell?_alloc_past, World.cell?_alloc_some, World.cell?_setCell_far]; done)))
  have u7 := keepc hb1 (p := ⟨w.heap.size + 1, 2, none⟩) (u := .int .i64 b2.n) (by (first | (go_simp; done) | (simp [*, World.cell?_alloc_at, World.cell?_alloc_past, World.cell?_alloc_some, World.cell?_setCell_far]; done)))
  have u8 := keepc hb1 (p := ⟨w.heap.size + 1, 3, none⟩) (u := .int .i64 b2.at') (by (first | (go_simp; done) | (simp [*, World.cell?_alloc_at, World.cell?_alloc_past, World.cell?_alloc_some, World.cell?_setCell_far]; done)))
  have u9 := keepc hb1 (p := ⟨w.heap.size + 1, 4, none⟩) (u := .slice a2 n2 c2) (by (first | (go_simp; done) | (simp [*, World.cell?_alloc_at, World.cell?_alloc_past, World.cell?_alloc_some, World.cell?_setCell_far]; done)))
  clear hb1
  go_wp2_with fail
  refine (Parse_c s _ (hE.below bw1) hs).mono ?_
  rintro e w2 ⟨⟨aX, nX, rfl, iX, xX⟩, hb2⟩
  have bw2 : Below w.heap.size w w2 := by (repeat (first | exact Below.refl _ _ | assumption | refine Below.drew ?_ | refine below_drewN ?_ _ | refine belowA ?_ _ | refine belowT ?_ (by assumption) | refine Below.setCell ?_ (by first | (simp; done) | (simp; omega)) _))
  have v0 := keepc hb2 (p := ⟨w.heap.size, 0, none⟩) (u := .int .i64 b1.k) (by (first | (go_simp; done) | (simp [*, World.cell?_alloc_at, World.cell?_alloc_past, World.cell?_alloc_some, World.cell?_setCell_far]; done)))
  have v1 := keepc hb2 (p := ⟨w.heap.size, 1, none⟩) (u := .int .i64 b1.z) (by (first | (go_simp; done) | (simp [*, World.cell?_alloc_at, World.cell?_alloc_past, World.cell?_alloc_some, World.cell?_setCell_far]; done)))
  have v2 := keepc hb2 (p := ⟨w.heap.size, 2, none⟩) (u := .int .i64 b1.n) (by (first | (go_simp; done) | (simp [*, World.cell?_alloc_at, World.cell?_alloc_past, World.cell?_alloc_some, World.cell?_setCell_far]; done)))
  have v3 := keepc hb2 (p := ⟨w.heap.size, 3, none⟩) (u := .int .i64 b1.at') (by (first | (go_simp; done) | (simp [*, World.cell?_alloc_at, World.cell?_alloc_past, World.cell?_alloc_some, World.cell?_setCell_far]; done)))
  have v4 := keepc hb2 (p := ⟨w.heap.size, 4, none⟩) (u := .slice a1 n1 c1) (by (first | (go_simp; done) | (simp [*, World.cell?_alloc_at, World.cell?_alloc_past, World.cell?_alloc_some, World.cell?_setCell_far]; done)))
  have v5 := keepc hb2 (p := ⟨w.heap.size + 1, 0, none⟩) (u := .int .i64 b2.k) (by (first | (go_simp; done) | (simp [*, World.cell?_alloc_at, World.cell?_alloc_past, World.cell?_alloc_some, World.cell?_setCell_far]; done)))
  have v6 := keepc hb2 (p := ⟨w.heap.size + 1, 1, none⟩) (u := .int .i64 b2.z) (by (first | (go_simp; done) | (simp [*, World.cell?_alloc_at, World.cell?_alloc_past, World.cell?_alloc_some, World.cell?_setCell_far]; done)))
  have v7 := keepc hb2 (p := ⟨w.heap.size + 1, 2, none⟩) (u := .int .i64 b2.n) (by (first | (go_simp; done) | (simp [*, World.cell?_alloc_at, World.cell?_alloc_past, World.cell?_alloc_some, World.cell?_setCell_far]; done)))
  have v8 := keepc hb2 (p := ⟨w.heap.size + 1, 3, none⟩) (u := .int .i64 b2.at') (by (first | (go_simp; done) | (simp [*, World.cell?_alloc_at, World.cell?_alloc_past, World.cell?_alloc_some, World.cell?_setCell_far]; done)))
  have v9 := keepc hb2 (p := ⟨w.heap.size + 1, 4, none⟩) (u := .slice a2 n2 c2) (by (first | (go_simp; done) | (simp [*, World.cell?_alloc_at, World.cell?_alloc_past, World.cell?_alloc_some, World.cell?_setCell_far]; done)))
  clear hb2 bw1 u0 u1 u2 u3 u4 u5 u6 u7 u8 u9
  have HYR := hide (fun w' hE hh => CmdRead_c s w' hE hh)
  generalize parseC s = R at *
  obtain ⟨y, yr⟩ := R
  dsimp only at iX
  unfold cmdV
  dsimp only
  go_upto_region 3 with fail
  have rX : (w2.alloc (.cells #[.int .i64 y.k, .int .i64 y.z, .int .i64 y.n, .int .i64 y.at', .slice aX nX nX] 24)).heap[w2.heap.size]? = some (.cells #[.int .i64 y.k, .int .i64 y.z, .int .i64 y.n, .int .i64 y.at', .slice aX nX nX] 24 (0, 0)) := heap_new _ _
  have hb3 : Below w2.heap.size w2 (w2.alloc (.cells #[.int .i64 y.k, .int .i64 y.z, .int .i64 y.n, .int .i64 y.at', .slice aX nX nX] 24)) := belowA (Below.refl _ _) _
  generalize w2.alloc (.cells #[.int .i64 y.k, .int .i64 y.z, .int .i64 y.n, .int .i64 y.at', .slice aX nX nX] 24) = w3 at *
  have bw3 : Below w.heap.size w w3 := by (repeat (first | exact Below.refl _ _ | assumption | refine Below.drew ?_ | refine below_drewN ?_ _ | refine belowA ?_ _ | refine belowT ?_ (by assumption) | refine Below.setCell ?_ (by first | (simp; done) | (simp; omega)) _))
  have jX := iX.below hb3 (Nat.le_refl _)
  have u0 := keepc hb3 (p := ⟨w.heap.size, 0, none⟩) (u := .int .i64 b1.k) (by (first | (go_simp; done) | (simp [*, World.cell?_alloc_at, World.cell?_alloc_past, World.cell?_alloc_some, World.cell?_setCell_far]; done)))
  have u1 := keepc hb3 (p := ⟨w.heap.size, 1, none⟩) (u := .int .i64 b1.z) (by (first | (go_simp; done) | (simp [*, World.cell?_alloc_at, World.cell?_alloc_past, World.cell?_alloc_some, World.cell?_setCell_far]; done)))
  have u2 := keepc hb3 (p := ⟨w.heap.size, 2, none⟩) (u := .int .i64 b1.n) (by (first | (go_simp; done) | (simp [*, World.cell?_alloc_at, World.cell?_alloc_past, World.cell?_alloc_some, World.cell?_setCell_far]; done)))
  have u3 := keepc hb3 (p := ⟨w.heap.size, 3, none⟩) (u := .int .i64 b1.at') (by (first | (go_simp; done) | (simp [*, World.cell?_alloc_at, World.cell?_alloc_past, World.cell?_alloc_some, World.cell?_setCell_far]; done)))
  have u4 := keepc hb3 (p := ⟨w.heap.size, 4, none⟩) (u := .slice a1 n1 c1) (by (first | (go_simp; done) | (simp [*, World.cell?_alloc_at, World.cell?_alloc_past, World.cell?_alloc_some, World.cell?_setCell_far]; done)))
  have u5 := keepc hb3 (p := ⟨w.heap.size + 1, 0, none⟩) (u := .int .i64 b2.k) (by (first | (go_simp; done) | (simp [*, World.cell?_alloc_at, World.cell?_alloc_past, World.cell?_alloc_some, World.cell?_setCell_far]; done)))
  have u6 := keepc hb3 (p := ⟨w.heap.size + 1, 1, none⟩) (u := .int .i64 b2.z) (by (first | (go_simp; done) | (simp [*, World.cell?_alloc_at, World.cell?_alloc_past, World.cell?_alloc_some, World.cell?_setCell_far]; done)))
  have u7 := keepc hb3 (p := ⟨w.heap.size + 1, 2, none⟩) (u := .int .i64 b2.n) (by (first | (go_simp; done) | (simp [*, World.cell?_alloc_at, World.cell?_alloc_past, World.cell?_alloc_some, World.cell?_setCell_far]; done)))
  have u8 := keepc hb3 (p := ⟨w.heap.size + 1, 3, none⟩) (u := .int .i64 b2.at') (by (first | (go_simp; done) | (simp [*, World.cell?_alloc_at, World.cell?_alloc_past, World.cell?_alloc_some, World.cell?_setCell_far]; done)))
  have u9 := keepc hb3 (p := ⟨w.heap.size + 1, 4, none⟩) (u := .slice a2 n2 c2) (by (first | (go_simp; done) | (simp [*, World.cell?_alloc_at, World.cell?_alloc_past, World.cell?_alloc_some, World.cell?_setCell_far]; done)))
  clear hb3 iX bw2 v0 v1 v2 v3 v4 v5 v6 v7 v8 v9
  generalize w2.heap.size = X at *
  have RX := hide rX
  clear rX
  go_wp2_with fail
  refine (HR1.out _ (h1.below bw3 (Nat.le_refl _))).mono ?_
  rintro e w4 ⟨rfl, hb4⟩
  have bw4 : Below w.heap.size w w4 := by (repeat (first | exact Below.refl _ _ | assumption | refine Below.drew ?_ | refine below_drewN ?_ _ | refine belowA ?_ _ | refine belowT ?_ (by assumption) | refine Below.setCell ?_ (by first | (simp; done) | (simp; omega)) _))
  have v0 := keepc hb4 (p := ⟨w.heap.size, 0, none⟩) (u := .int .i64 b1.k) (by (first | (go_simp; done) | (simp [*, World.cell?_alloc_at, World.cell?_alloc_past, World.cell?_alloc_some, World.cell?_setCell_far]; done)))
  have v1 := keepc hb4 (p := ⟨w.heap.size, 1, none⟩) (u := .int .i64 b1.z) (by (first | (go_simp; done) | (simp [*, World.cell?_alloc_at, World.cell?_alloc_past, World.cell?_alloc_some, World.cell?_setCell_far]; done)))
  have v2 := keepc hb4 (p := ⟨w.heap.size, 2, none⟩) (u := .int .i64 b1.n) (by (first | (go_simp; done) | (simp [*, World.cell?_alloc_at, World.cell?_alloc_past, World.cell?_alloc_some, World.cell?_setCell_far]; done)))
  have v3 := keepc hb4 (p := ⟨w.heap.size, 3, none⟩) (u := .int .i64 b1.at') (by (first | (go_simp; done) | (simp [*, World.cell?_alloc_at, World.cell?_alloc_past, World.cell?_alloc_some, World.cell?_setCell_far]; done)))
  have v4 := keepc hb4 (p := ⟨w.heap.size, 4, none⟩) (u := .slice a1 n1 c1) (by (first | (go_simp; done) | (simp [*, World.cell?_alloc_at, World.cell?_alloc_past, World.cell?_alloc_some, World.cell?_setCell_far]; done)))
  have v5 := keepc hb4 (p := ⟨w.heap.size + 1, 0, none⟩) (u := .int .i64 b2.k) (by (first | (go_simp; done) | (simp [*, World.cell?_alloc_at, World.cell?_alloc_past, World.cell?_alloc_some, World.cell?_setCell_far]; done)))
  have v6 := keepc hb4 (p := ⟨w.heap.size + 1, 1, none⟩) (u := .int .i64 b2.z) (by (first | (go_simp; done) | (simp [*, World.cell?_alloc_at, World.cell?_alloc_past, World.cell?_alloc_some, World.cell?_setCell_far]; done)))
  have v7 := keepc hb4 (p := ⟨w.heap.size + 1, 2, none⟩) (u := .int .i64 b2.n) (by (first | (go_simp; done) | (simp [*, World.cell?_alloc_at, World.cell?_alloc_past, World.cell?_alloc_some, World.cell?_setCell_far]; done)))
  have v8 := keepc hb4 (p := ⟨w.heap.size + 1, 3, none⟩) (u := .int .i64 b2.at') (by (first | (go_simp; done) | (simp [*, World.cell?_alloc_at, World.cell?_alloc_past, World.cell?_alloc_some, World.cell?_setCell_far]; done)))
  have v9 := keepc hb4 (p := ⟨w.heap.size + 1, 4, none⟩) (u := .slice a2 n2 c2) (by (first | (go_simp; done) | (simp [*, World.cell?_alloc_at, World.cell?_alloc_past, World.cell?_alloc_some, World.cell?_setCell_far]; done)))
  have RX4 : Hid (w4.heap[X]? = _) := hide ((hb4.block _ ((Array.getElem?_eq_some_iff.1 RX.out).1)).trans RX.out)
  replace jX := jX.below hb4 (Nat.le_refl _)
  clear hb4 bw3 u0 u1 u2 u3 u4 u5 u6 u7 u8 u9 RX
  by_cases hck : checkC b1 = 0
  · have f1 : printC b1 = (textC b1, 0) := by rw [HPC.out, if_pos hck]
    have HT2 := hide (fun w' hE h => HT1.out w' hE h hck)
    rw [hck] at HK1
    rw [hck, f1]
    clear HPC HT1 HP1 HR1 f1 hck
    dsimp only
    go_wp2_with fail
    refine (HT2.out _ (hE.below bw4) (h1.below bw4 (Nat.le_refl _))).mono ?_
    rintro e w5 ⟨rfl, hb5⟩
    have bw5 : Below w.heap.size w w5 := by (repeat (first | exact Below.refl _ _ | assumption | refine Below.drew ?_ | refine below_drewN ?_ _ | refine belowA ?_ _ | refine belowT ?_ (by assumption) | refine Below.setCell ?_ (by first | (simp; done) | (simp; omega)) _))
    have u0 := keepc hb5 (p := ⟨w.heap.size, 0, none⟩) (u := .int .i64 b1.k) (by (first | (go_simp; done) | (simp [*, World.cell?_alloc_at, World.cell?_alloc_past, World.cell?_alloc_some, World.cell?_setCell_far]; done)))
    have u1 := keepc hb5 (p := ⟨w.heap.size, 1, none⟩) (u := .int .i64 b1.z) (by (first | (go_simp; done) | (simp [*, World.cell?_alloc_at, World.cell?_alloc_past, World.cell?_alloc_some, World.cell?_setCell_far]; done)))
    have u2 := keepc hb5 (p := ⟨w.heap.size, 2, none⟩) (u := .int .i64 b1.n) (by (first | (go_simp; done) | (simp [*, World.cell?_alloc_at, World.cell?_alloc_past, World.cell?_alloc_some, World.cell?_setCell_far]; done)))
    have u3 := keepc hb5 (p := ⟨w.heap.size, 3, none⟩) (u := .int .i64 b1.at') (by (first | (go_simp; done) | (simp [*, World.cell?_alloc_at, World.cell?_alloc_past, World.cell?_alloc_some, World.cell?_setCell_far]; done)))
    have u4 := keepc hb5 (p := ⟨w.heap.size, 4, none⟩) (u := .slice a1 n1 c1) (by (first | (go_simp; done) | (simp [*, World.cell?_alloc_at, World.cell?_alloc_past, World.cell?_alloc_some, World.cell?_setCell_far]; done)))
    have u5 := keepc hb5 (p := ⟨w.heap.size + 1, 0, none⟩) (u := .int .i64 b2.k) (by (first | (go_simp; done) | (simp [*, World.cell?_alloc_at, World.cell?_alloc_past, World.cell?_alloc_some, World.cell?_setCell_far]; done)))
    have u6 := keepc hb5 (p := ⟨w.heap.size + 1, 1, none⟩) (u := .int .i64 b2.z) (by (first | (go_simp; done) | (simp [*, World.cell?_alloc_at, World.cell?_alloc_past, World.cell?_alloc_some, World.cell?_setCell_far]; done)))
    have u7 := keepc hb5 (p := ⟨w.heap.size + 1, 2, none⟩) (u := .int .i64 b2.n) (by (first | (go_simp; done) | (simp [*, World.cell?_alloc_at, World.cell?_alloc_past, World.cell?_alloc_some, World.cell?_setCell_far]; done)))
    have u8 := keepc hb5 (p := ⟨w.heap.size + 1, 3, none⟩) (u := .int .i64 b2.at') (by (first | (go_simp; done) | (simp [*, World.cell?_alloc_at, World.cell?_alloc_past, World.cell?_alloc_some, World.cell?_setCell_far]; done)))
    have u9 := keepc hb5 (p := ⟨w.heap.size + 1, 4, none⟩) (u := .slice a2 n2 c2) (by (first | (go_simp; done) | (simp [*, World.cell?_alloc_at, World.cell?_alloc_past, World.cell?_alloc_some, World.cell?_setCell_far]; done)))
    have RX5 : Hid (w5.heap[X]? = _) := hide ((hb5.block _ ((Array.getElem?_eq_some_iff.1 RX4.out).1)).trans RX4.out)
    replace jX := jX.below hb5 (Nat.le_refl _)
    clear hb5 bw4 v0 v1 v2 v3 v4 v5 v6 v7 v8 v9 RX4 HT2
    unfold textV
    generalize (⟨(textC b1).toArray⟩ : ByteArray) = TT
    go_upto_region 7 with fail
    go_region_held3 (fun w' => w'.cell? ⟨w.heap.size, 0, none⟩ = some (.int .i64 b1.k) ∧ w'.cell? ⟨w.heap.size, 1, none⟩ = some (.int .i64 b1.z) ∧ w'.cell? ⟨w.heap.size, 2, none⟩ = some (.int .i64 b1.n) ∧ w'.cell? ⟨w.heap.size, 3, none⟩ = some (.int .i64 b1.at') ∧ w'.cell? ⟨w.heap.size, 4, none⟩ = some (.slice a1 n1 c1) ∧ w'.cell? ⟨w.heap.size + 1, 0, none⟩ = some (.int .i64 b2.k) ∧ w'.cell? ⟨w.heap.size + 1, 1, none⟩ = some (.int .i64 b2.z) ∧ w'.cell? ⟨w.heap.size + 1, 2, none⟩ = some (.int .i64 b2.n) ∧ w'.cell? ⟨w.heap.size + 1, 3, none⟩ = some (.int .i64 b2.at') ∧ w'.cell? ⟨w.heap.size + 1, 4, none⟩ = some (.slice a2 n2 c2)) ((first | (go_simp; done) | (simp [*, World.cell?_alloc_at, World.cell?_alloc_past, World.cell?_alloc_some, World.cell?_setCell_far]; done))) (first
      | (go_at_call 8; refine (spoken_c _ (by refine hE.below ?_; (repeat (first | exact Below.refl _ _ | assumption | refine Below.drew ?_ | refine below_drewN ?_ _ | refine belowA ?_ _ | refine belowT ?_ (by assumption) | refine Below.setCell ?_ (by first | (simp; done) | (simp; omega)) _)))).mono ?_; rintro e w9 ⟨rfl, hb9⟩; (have f0 := keepc hb9 (p := ⟨w.heap.size, 0, none⟩) (u := .int .i64 b1.k) (by (first | (go_simp; done) | (simp [*, World.cell?_alloc_at, World.cell?_alloc_past, World.cell?_alloc_some, World.cell?_setCell_far]; done)))); (have f1 := keepc hb9 (p := ⟨w.heap.size, 1, none⟩) (u := .int .i64 b1.z) (by (first | (go_simp; done) | (simp [*, World.cell?_alloc_at, World.cell?_alloc_past, World.cell?_alloc_some, World.cell?_setCell_far]; done)))); (have f2 := keepc hb9 (p := ⟨w.heap.size, 2, none⟩) (u := .int .i64 b1.n) (by (first | (go_simp; done) | (simp [*, World.cell?_alloc_at, World.cell?_alloc_past, World.cell?_alloc_some, World.cell?_setCell_far]; done)))); (have f3 := keepc hb9 (p := ⟨w.heap.size, 3, none⟩) (u := .int .i64 b1.at') (by (first | (go_simp; done) | (simp [*, World.cell?_alloc_at, World.cell?_alloc_past, World.cell?_alloc_some, World.cell?_setCell_far]; done)))); (have f4 := keepc hb9 (p := ⟨w.heap.size, 4, none⟩) (u := .slice a1 n1 c1) (by (first | (go_simp; done) | (simp [*, World.cell?_alloc_at, World.cell?_alloc_past, World.cell?_alloc_some, World.cell?_setCell_far]; done)))); (have f5 := keepc hb9 (p := ⟨w.heap.size + 1, 0, none⟩) (u := .int .i64 b2.k) (by (first | (go_simp; done) | (simp [*, World.cell?_alloc_at, World.cell?_alloc_past, World.cell?_alloc_some, World.cell?_setCell_far]; done)))); (have f6 := keepc hb9 (p := ⟨w.heap.size + 1, 1, none⟩) (u := .int .i64 b2.z) (by (first | (go_simp; done) | (simp [*, World.cell?_alloc_at, World.cell?_alloc_past, World.cell?_alloc_some, World.cell?_setCell_far]; done)))); (have f7 := keepc hb9 (p := ⟨w.heap.size + 1, 2, none⟩) (u := .int .i64 b2.n) (by (first | (go_simp; done) | (simp [*, World.cell?_alloc_at, World.cell?_alloc_past, World.cell?_alloc_some, World.cell?_setCell_far]; done)))); (have f8 := keepc hb9 (p := ⟨w.heap.size + 1, 3, none⟩) (u := .int .i64 b2.at') (by (first | (go_simp; done) | (simp [*, World.cell?_alloc_at, World.cell?_alloc_past, World.cell?_alloc_some, World.cell?_setCell_far]; done)))); (have f9 := keepc hb9 (p := ⟨w.heap.size + 1, 4, none⟩) (u := .slice a2 n2 c2) (by (first | (go_simp; done) | (simp [*, World.cell?_alloc_at, World.cell?_alloc_past, World.cell?_alloc_some, World.cell?_setCell_far]; done)))))
      | (go_at_call 9; refine (HK1.out _ (by refine hE.shp.below ?_; (repeat (first | exact Below.refl _ _ | assumption | refine Below.drew ?_ | refine below_drewN ?_ _ | refine belowA ?_ _ | refine belowT ?_ (by assumption) | refine Below.setCell ?_ (by first | (simp; done) | (simp; omega)) _))) (by refine Ints.below h1 (B := w.heap.size) ?_ (Nat.le_refl _); (repeat (first | exact Below.refl _ _ | assumption | refine Below.drew ?_ | refine below_drewN ?_ _ | refine belowA ?_ _ | refine belowT ?_ (by assumption) | refine Below.setCell ?_ (by first | (simp; done) | (simp; omega)) _)))).mono ?_; rintro e w8 ⟨rfl, hb8⟩; (have g0 := keepc hb8 (p := ⟨w.heap.size, 0, none⟩) (u := .int .i64 b1.k) (by (first | (go_simp; done) | (simp [*, World.cell?_alloc_at, World.cell?_alloc_past, World.cell?_alloc_some, World.cell?_setCell_far]; done)))); (have g1 := keepc hb8 (p := ⟨w.heap.size, 1, none⟩) (u := .int .i64 b1.z) (by (first | (go_simp; done) | (simp [*, World.cell?_alloc_at, World.cell?_alloc_past, World.cell?_alloc_some, World.cell?_setCell_far]; done)))); (have g2 := keepc hb8 (p := ⟨w.heap.size, 2, none⟩) (u := .int .i64 b1.n) (by (first | (go_simp; done) | (simp [*, World.cell?_alloc_at, World.cell?_alloc_past, World.cell?_alloc_some, World.cell?_setCell_far]; done)))); (have g3 := keepc hb8 (p := ⟨w.heap.size, 3, none⟩) (u := .int .i64 b1.at') (by (first | (go_simp; done) | (simp [*, World.cell?_alloc_at, World.cell?_alloc_past, World.cell?_alloc_some, World.cell?_setCell_far]; done)))); (have g4 := keepc hb8 (p := ⟨w.heap.size, 4, none⟩) (u := .slice a1 n1 c1) (by (first | (go_simp; done) | (simp [*, World.cell?_alloc_at, World.cell?_alloc_past, World.cell?_alloc_some, World.cell?_setCell_far]; done)))); (have g5 := keepc hb8 (p := ⟨w.heap.size + 1, 0, none⟩) (u := .int .i64 b2.k) (by (first | (go_simp; done) | (simp [*, World.cell?_alloc_at, World.cell?_alloc_past, World.cell?_alloc_some, World.cell?_setCell_far]; done)))); (have g6 := keepc hb8 (p := ⟨w.heap.size + 1, 1, none⟩) (u := .int .i64 b2.z) (by (first | (go_simp; done) | (simp [*, World.cell?_alloc_at, World.cell?_alloc_past, World.cell?_alloc_some, World.cell?_setCell_far]; done)))); (have g7 := keepc hb8 (p := ⟨w.heap.size + 1, 2, none⟩) (u := .int .i64 b2.n) (by (first | (go_simp; done) | (simp [*, World.cell?_alloc_at, World.cell?_alloc_past, World.cell?_alloc_some, World.cell?_setCell_far]; done)))); (have g8 := keepc hb8 (p := ⟨w.heap.size + 1, 3, none⟩) (u := .int .i64 b2.at') (by (first | (go_simp; done) | (simp [*, World.cell?_alloc_at, World.cell?_alloc_past, World.cell?_alloc_some, World.cell?_setCell_far]; done)))); (have g9 := keepc hb8 (p := ⟨w.heap.size + 1, 4, none⟩) (u := .slice a2 n2 c2) (by (first | (go_simp; done) | (simp [*, World.cell?_alloc_at, World.cell?_alloc_past, World.cell?_alloc_some, World.cell?_setCell_far]; done)))))
      | (go_at_call 10; refine (HS1.out _ (by refine Ints.below h1 (B := w.heap.size) ?_ (Nat.le_refl _); (repeat (first | exact Below.refl _ _ | assumption | refine Below.drew ?_ | refine below_drewN ?_ _ | refine belowA ?_ _ | refine belowT ?_ (by assumption) | refine Below.setCell ?_ (by first | (simp; done) | (simp; omega)) _))) (by refine Ints.below h2 (B := w.heap.size) ?_ (Nat.le_refl _); (repeat (first | exact Below.refl _ _ | assumption | refine Below.drew ?_ | refine below_drewN ?_ _ | refine belowA ?_ _ | refine belowT ?_ (by assumption) | refine Below.setCell ?_ (by first | (simp; done) | (simp; omega)) _)))).mono ?_; rintro e w7 ⟨rfl, hb7⟩; (have k0 := keepc hb7 (p := ⟨w.heap.size, 0, none⟩) (u := .int .i64 b1.k) (by (first | (go_simp; done) | (simp [*, World.cell?_alloc_at, World.cell?_alloc_past, World.cell?_alloc_some, World.cell?_setCell_far]; done)))); (have k1 := keepc hb7 (p := ⟨w.heap.size, 1, none⟩) (u := .int .i64 b1.z) (by (first | (go_simp; done) | (simp [*, World.cell?_alloc_at, World.cell?_alloc_past, World.cell?_alloc_some, World.cell?_setCell_far]; done)))); (have k2 := keepc hb7 (p := ⟨w.heap.size, 2, none⟩) (u := .int .i64 b1.n) (by (first | (go_simp; done) | (simp [*, World.cell?_alloc_at, World.cell?_alloc_past, World.cell?_alloc_some, World.cell?_setCell_far]; done)))); (have k3 := keepc hb7 (p := ⟨w.heap.size, 3, none⟩) (u := .int .i64 b1.at') (by (first | (go_simp; done) | (simp [*, World.cell?_alloc_at, World.cell?_alloc_past, World.cell?_alloc_some, World.cell?_setCell_far]; done)))); (have k4 := keepc hb7 (p := ⟨w.heap.size, 4, none⟩) (u := .slice a1 n1 c1) (by (first | (go_simp; done) | (simp [*, World.cell?_alloc_at, World.cell?_alloc_past, World.cell?_alloc_some, World.cell?_setCell_far]; done)))); (have k5 := keepc hb7 (p := ⟨w.heap.size + 1, 0, none⟩) (u := .int .i64 b2.k) (by (first | (go_simp; done) | (simp [*, World.cell?_alloc_at, World.cell?_alloc_past, World.cell?_alloc_some, World.cell?_setCell_far]; done)))); (have k6 := keepc hb7 (p := ⟨w.heap.size + 1, 1, none⟩) (u := .int .i64 b2.z) (by (first | (go_simp; done) | (simp [*, World.cell?_alloc_at, World.cell?_alloc_past, World.cell?_alloc_some, World.cell?_setCell_far]; done)))); (have k7 := keepc hb7 (p := ⟨w.heap.size + 1, 2, none⟩) (u := .int .i64 b2.n) (by (first | (go_simp; done) | (simp [*, World.cell?_alloc_at, World.cell?_alloc_past, World.cell?_alloc_some, World.cell?_setCell_far]; done)))); (have k8 := keepc hb7 (p := ⟨w.heap.size + 1, 3, none⟩) (u := .int .i64 b2.at') (by (first | (go_simp; done) | (simp [*, World.cell?_alloc_at, World.cell?_alloc_past, World.cell?_alloc_some, World.cell?_setCell_far]; done)))); (have k9 := keepc hb7 (p := ⟨w.heap.size + 1, 4, none⟩) (u := .slice a2 n2 c2) (by (first | (go_simp; done) | (simp [*, World.cell?_alloc_at, World.cell?_alloc_past, World.cell?_alloc_some, World.cell?_setCell_far]; done)))))
      | (go_at_call 11; refine (HS2.out _ (by refine Ints.below h1 (B := w.heap.size) ?_ (Nat.le_refl _); (repeat (first | exact Below.refl _ _ | assumption | refine Below.drew ?_ | refine below_drewN ?_ _ | refine belowA ?_ _ | refine belowT ?_ (by assumption) | refine Below.setCell ?_ (by first | (simp; done) | (simp; omega)) _))) (by refine Ints.below h2 (B := w.heap.size) ?_ (Nat.le_refl _); (repeat (first | exact Below.refl _ _ | assumption | refine Below.drew ?_ | refine below_drewN ?_ _ | refine belowA ?_ _ | refine belowT ?_ (by assumption) | refine Below.setCell ?_ (by first | (simp; done) | (simp; omega)) _)))).mono ?_; rintro e w6 ⟨rfl, hb6⟩; (have m0 := keepc hb6 (p := ⟨w.heap.size, 0, none⟩) (u := .int .i64 b1.k) (by (first | (go_simp; done) | (simp [*, World.cell?_alloc_at, World.cell?_alloc_past, World.cell?_alloc_some, World.cell?_setCell_far]; done)))); (have m1 := keepc hb6 (p := ⟨w.heap.size, 1, none⟩) (u := .int .i64 b1.z) (by (first | (go_simp; done) | (simp [*, World.cell?_alloc_at, World.cell?_alloc_past, World.cell?_alloc_some, World.cell?_setCell_far]; done)))); (have m2 := keepc hb6 (p := ⟨w.heap.size, 2, none⟩) (u := .int .i64 b1.n) (by (first | (go_simp; done) | (simp [*, World.cell?_alloc_at, World.cell?_alloc_past, World.cell?_alloc_some, World.cell?_setCell_far]; done)))); (have m3 := keepc hb6 (p := ⟨w.heap.size, 3, none⟩) (u := .int .i64 b1.at') (by (first | (go_simp; done) | (simp [*, World.cell?_alloc_at, World.cell?_alloc_past, World.cell?_alloc_some, World.cell?_setCell_far]; done)))); (have m4 := keepc hb6 (p := ⟨w.heap.size, 4, none⟩) (u := .slice a1 n1 c1) (by (first | (go_simp; done) | (simp [*, World.cell?_alloc_at, World.cell?_alloc_past, World.cell?_alloc_some, World.cell?_setCell_far]; done)))); (have m5 := keepc hb6 (p := ⟨w.heap.size + 1, 0, none⟩) (u := .int .i64 b2.k) (by (first | (go_simp; done) | (simp [*, World.cell?_alloc_at, World.cell?_alloc_past, World.cell?_alloc_some, World.cell?_setCell_far]; done)))); (have m6 := keepc hb6 (p := ⟨w.heap.size + 1, 1, none⟩) (u := .int .i64 b2.z) (by (first | (go_simp; done) | (simp [*, World.cell?_alloc_at, World.cell?_alloc_past, World.cell?_alloc_some, World.cell?_setCell_far]; done)))); (have m7 := keepc hb6 (p := ⟨w.heap.size + 1, 2, none⟩) (u := .int .i64 b2.n) (by (first | (go_simp; done) | (simp [*, World.cell?_alloc_at, World.cell?_alloc_past, World.cell?_alloc_some, World.cell?_setCell_far]; done)))); (have m8 := keepc hb6 (p := ⟨w.heap.size + 1, 3, none⟩) (u := .int .i64 b2.at') (by (first | (go_simp; done) | (simp [*, World.cell?_alloc_at, World.cell?_alloc_past, World.cell?_alloc_some, World.cell?_setCell_far]; done)))); (have m9 := keepc hb6 (p := ⟨w.heap.size + 1, 4, none⟩) (u := .slice a2 n2 c2) (by (first | (go_simp; done) | (simp [*, World.cell?_alloc_at, World.cell?_alloc_past, World.cell?_alloc_some, World.cell?_setCell_far]; done))))))
    have b56 : Below w5.heap.size w5 w6 := by (repeat (first | exact Below.refl _ _ | assumption | refine Below.drew ?_ | refine below_drewN ?_ _ | refine belowA ?_ _ | refine belowT ?_ (by assumption) | refine Below.setCell ?_ (by first | (simp; done) | (simp; omega)) _))
    have bw6 : Below w.heap.size w w6 := bw5.trans (b56.mono bw5.size)
    have r6 : w6.heap[X]? = _ := (b56.block _ ((Array.getElem?_eq_some_iff.1 RX5.out).1)).trans RX5.out
    replace jX := jX.below b56 (Nat.le_refl _)
    have R6 := hide r6
    clear HS1 HS2 HK1 b56 r6
    by_cases hl : 60000 < s.size
    · have hz := HLG.out hl
      obtain ⟨rfl, rfl⟩ := Prod.mk.inj hz
      have hl' : (60000 : Int) < (s.size : Int) := by omega
      have c6 : ∀ i, w6.cell? ⟨X, i, none⟩ = _ := fun i => cell_of_row _ _ _ _ _ _ R6.out
      have HSZ := hide (fun w' h1 h2 => SameCmd_c aX none nX 0 nX 0 zeroC zeroC w' h1 h2)
      rw [(sameC_iff zeroC zeroC).2 rfl] at HSZ
      unfold cmdV zeroC at HSZ
      unfold zeroC at c6 jX
      unfold zeroC
      dsimp only at c6 jX HSZ ⊢
      clear hz
      go_wp2_with fail
      refine (HSZ.out _ jX (Ints.nilSlice _)).mono ?_
      rintro e wE ⟨rfl, hbE⟩
      go_wp2
      go_ret
      exact ⟨rfl, by (repeat (first | exact Below.refl _ _ | assumption | refine Below.drew ?_ | refine below_drewN ?_ _ | refine belowA ?_ _ | refine belowT ?_ (by assumption) | refine Below.setCell ?_ (by first | (simp; done) | (simp; omega)) _))⟩
    · have hl' : ¬ (60000 : Int) < (s.size : Int) := by omega
      have HY2 := hide (fun w' hE => HYR.out w' hE (by omega))
      clear HYR
      go_wp2_with fail
      refine (HY2.out _ (hE.below bw6)).mono ?_
      rintro e wA ⟨⟨aY, nY, cY, rfl, iY⟩, hbA⟩
      have rA : wA.heap[X]? = _ := (hbA.block _ ((Array.getElem?_eq_some_iff.1 R6.out).1)).trans R6.out
      have kX := jX.below hbA (Nat.le_refl _)
      have bwA : Below w.heap.size w wA := bw6.trans (hbA.mono bw6.size)
      have lA : X < wA.heap.size := (Array.getElem?_eq_some_iff.1 rA).1
      have HSY := hide (fun w' h1 h2 => SameCmd_c aX aY nX nY nX cY y y w' h1 h2)
      rw [(sameC_iff y y).2 rfl] at HSY
      unfold cmdV at HSY
      unfold cmdV
      dsimp only at iY HSY ⊢
      go_upto_region 12 with fail
      have rB : (wA.alloc (.cells #[.int .i64 y.k, .int .i64 y.z, .int .i64 y.n, .int .i64 y.at', .slice aY nY cY] 24)).heap[X]? = _ := (Below.heap_alloc _ _ _ lA).trans rA
      have rC : (wA.alloc (.cells #[.int .i64 y.k, .int .i64 y.z, .int .i64 y.n, .int .i64 y.at', .slice aY nY cY] 24)).heap[wA.heap.size]? = _ := heap_new _ _
      have hbB : Below wA.heap.size wA (wA.alloc (.cells #[.int .i64 y.k, .int .i64 y.z, .int .i64 y.n, .int .i64 y.at', .slice aY nY cY] 24)) := belowA (Below.refl _ _) _
      generalize wA.alloc (.cells #[.int .i64 y.k, .int .i64 y.z, .int .i64 y.n, .int .i64 y.at', .slice aY nY cY] 24) = wB at *
      have cB : ∀ i, wB.cell? ⟨X, i, none⟩ = _ := fun i => cell_of_row _ _ _ _ _ _ rB
      have cC : ∀ i, wB.cell? ⟨wA.heap.size, i, none⟩ = _ := fun i => cell_of_row _ _ _ _ _ _ rC
      have bwB : Below w.heap.size w wB := bwA.trans (hbB.mono bwA.size)
      replace kX := kX.below hbB (Nat.le_refl _)
      replace iY := iY.below hbB (Nat.le_refl _)
      clear rA rB rC hbB HY2 hbA
      go_wp2_with fail
      refine (HSY.out _ kX iY).mono ?_
      rintro e wE ⟨rfl, hbE⟩
      go_wp2
      go_ret
      exact ⟨rfl, by (repeat (first | exact Below.refl _ _ | assumption | refine Below.drew ?_ | refine below_drewN ?_ _ | refine belowA ?_ _ | refine belowT ?_ (by assumption) | refine Below.setCell ?_ (by first | (simp; done) | (simp; omega)) _))⟩
  · have f1 : printC b1 = ([], checkC b1) := by rw [HPC.out, if_neg hck]
    rw [f1]
    have hcb : (checkC b1 == 0) = false := by simpa using hck
    clear HPC HT1 HP1 HR1 f1 hck
    generalize checkC b1 = cb at *
    have RX5 := RX4
    clear RX4
    unfold textV
    dsimp only
    go_upto_region 7 with fail
    go_region_held3 (fun w' => w'.cell? ⟨w.heap.size, 0, none⟩ = some (.int .i64 b1.k) ∧ w'.cell? ⟨w.heap.size, 1, none⟩ = some (.int .i64 b1.z) ∧ w'.cell? ⟨w.heap.size, 2, none⟩ = some (.int .i64 b1.n) ∧ w'.cell? ⟨w.heap.size, 3, none⟩ = some (.int .i64 b1.at') ∧ w'.cell? ⟨w.heap.size, 4, none⟩ = some (.slice a1 n1 c1) ∧ w'.cell? ⟨w.heap.size + 1, 0, none⟩ = some (.int .i64 b2.k) ∧ w'.cell? ⟨w.heap.size + 1, 1, none⟩ = some (.int .i64 b2.z) ∧ w'.cell? ⟨w.heap.size + 1, 2, none⟩ = some (.int .i64 b2.n) ∧ w'.cell? ⟨w.heap.size + 1, 3, none⟩ = some (.int .i64 b2.at') ∧ w'.cell? ⟨w.heap.size + 1, 4, none⟩ = some (.slice a2 n2 c2)) ((first | (go_simp; done) | (simp [*, World.cell?_alloc_at, World.cell?_alloc_past, World.cell?_alloc_some, World.cell?_setCell_far]; done))) (first
      | (go_at_call 8; refine (spoken_c _ (by refine hE.below ?_; (repeat (first | exact Below.refl _ _ | assumption | refine Below.drew ?_ | refine below_drewN ?_ _ | refine belowA ?_ _ | refine belowT ?_ (by assumption) | refine Below.setCell ?_ (by first | (simp; done) | (simp; omega)) _)))).mono ?_; rintro e w9 ⟨rfl, hb9⟩; (have f0 := keepc hb9 (p := ⟨w.heap.size, 0, none⟩) (u := .int .i64 b1.k) (by (first | (go_simp; done) | (simp [*, World.cell?_alloc_at, World.cell?_alloc_past, World.cell?_alloc_some, World.cell?_setCell_far]; done)))); (have f1 := keepc hb9 (p := ⟨w.heap.size, 1, none⟩) (u := .int .i64 b1.z) (by (first | (go_simp; done) | (simp [*, World.cell?_alloc_at, World.cell?_alloc_past, World.cell?_alloc_some, World.cell?_setCell_far]; done)))); (have f2 := keepc hb9 (p := ⟨w.heap.size, 2, none⟩) (u := .int .i64 b1.n) (by (first | (go_simp; done) | (simp [*, World.cell?_alloc_at, World.cell?_alloc_past, World.cell?_alloc_some, World.cell?_setCell_far]; done)))); (have f3 := keepc hb9 (p := ⟨w.heap.size, 3, none⟩) (u := .int .i64 b1.at') (by (first | (go_simp; done) | (simp [*, World.cell?_alloc_at, World.cell?_alloc_past, World.cell?_alloc_some, World.cell?_setCell_far]; done)))); (have f4 := keepc hb9 (p := ⟨w.heap.size, 4, none⟩) (u := .slice a1 n1 c1) (by (first | (go_simp; done) | (simp [*, World.cell?_alloc_at, World.cell?_alloc_past, World.cell?_alloc_some, World.cell?_setCell_far]; done)))); (have f5 := keepc hb9 (p := ⟨w.heap.size + 1, 0, none⟩) (u := .int .i64 b2.k) (by (first | (go_simp; done) | (simp [*, World.cell?_alloc_at, World.cell?_alloc_past, World.cell?_alloc_some, World.cell?_setCell_far]; done)))); (have f6 := keepc hb9 (p := ⟨w.heap.size + 1, 1, none⟩) (u := .int .i64 b2.z) (by (first | (go_simp; done) | (simp [*, World.cell?_alloc_at, World.cell?_alloc_past, World.cell?_alloc_some, World.cell?_setCell_far]; done)))); (have f7 := keepc hb9 (p := ⟨w.heap.size + 1, 2, none⟩) (u := .int .i64 b2.n) (by (first | (go_simp; done) | (simp [*, World.cell?_alloc_at, World.cell?_alloc_past, World.cell?_alloc_some, World.cell?_setCell_far]; done)))); (have f8 := keepc hb9 (p := ⟨w.heap.size + 1, 3, none⟩) (u := .int .i64 b2.at') (by (first | (go_simp; done) | (simp [*, World.cell?_alloc_at, World.cell?_alloc_past, World.cell?_alloc_some, World.cell?_setCell_far]; done)))); (have f9 := keepc hb9 (p := ⟨w.heap.size + 1, 4, none⟩) (u := .slice a2 n2 c2) (by (first | (go_simp; done) | (simp [*, World.cell?_alloc_at, World.cell?_alloc_past, World.cell?_alloc_some, World.cell?_setCell_far]; done)))))
      | (go_at_call 9; refine (HK1.out _ (by refine hE.shp.below ?_; (repeat (first | exact Below.refl _ _ | assumption | refine Below.drew ?_ | refine below_drewN ?_ _ | refine belowA ?_ _ | refine belowT ?_ (by assumption) | refine Below.setCell ?_ (by first | (simp; done) | (simp; omega)) _))) (by refine Ints.below h1 (B := w.heap.size) ?_ (Nat.le_refl _); (repeat (first | exact Below.refl _ _ | assumption | refine Below.drew ?_ | refine below_drewN ?_ _ | refine belowA ?_ _ | refine belowT ?_ (by assumption) | refine Below.setCell ?_ (by first | (simp; done) | (simp; omega)) _)))).mono ?_; rintro e w8 ⟨rfl, hb8⟩; (have g0 := keepc hb8 (p := ⟨w.heap.size, 0, none⟩) (u := .int .i64 b1.k) (by (first | (go_simp; done) | (simp [*, World.cell?_alloc_at, World.cell?_alloc_past, World.cell?_alloc_some, World.cell?_setCell_far]; done)))); (have g1 := keepc hb8 (p := ⟨w.heap.size, 1, none⟩) (u := .int .i64 b1.z) (by (first | (go_simp; done) | (simp [*, World.cell?_alloc_at, World.cell?_alloc_past, World.cell?_alloc_some, World.cell?_setCell_far]; done)))); (have g2 := keepc hb8 (p := ⟨w.heap.size, 2, none⟩) (u := .int .i64 b1.n) (by (first | (go_simp; done) | (simp [*, World.cell?_alloc_at, World.cell?_alloc_past, World.cell?_alloc_some, World.cell?_setCell_far]; done)))); (have g3 := keepc hb8 (p := ⟨w.heap.size, 3, none⟩) (u := .int .i64 b1.at') (by (first | (go_simp; done) | (simp [*, World.cell?_alloc_at, World.cell?_alloc_past, World.cell?_alloc_some, World.cell?_setCell_far]; done)))); (have g4 := keepc hb8 (p := ⟨w.heap.size, 4, none⟩) (u := .slice a1 n1 c1) (by (first | (go_simp; done) | (simp [*, World.cell?_alloc_at, World.cell?_alloc_past, World.cell?_alloc_some, World.cell?_setCell_far]; done)))); (have g5 := keepc hb8 (p := ⟨w.heap.size + 1, 0, none⟩) (u := .int .i64 b2.k) (by (first | (go_simp; done) | (simp [*, World.cell?_alloc_at, World.cell?_alloc_past, World.cell?_alloc_some, World.cell?_setCell_far]; done)))); (have g6 := keepc hb8 (p := ⟨w.heap.size + 1, 1, none⟩) (u := .int .i64 b2.z) (by (first | (go_simp; done) | (simp [*, World.cell?_alloc_at, World.cell?_alloc_past, World.cell?_alloc_some, World.cell?_setCell_far]; done)))); (have g7 := keepc hb8 (p := ⟨w.heap.size + 1, 2, none⟩) (u := .int .i64 b2.n) (by (first | (go_simp; done) | (simp [*, World.cell?_alloc_at, World.cell?_alloc_past, World.cell?_alloc_some, World.cell?_setCell_far]; done)))); (have g8 := keepc hb8 (p := ⟨w.heap.size + 1, 3, none⟩) (u := .int .i64 b2.at') (by (first | (go_simp; done) | (simp [*, World.cell?_alloc_at, World.cell?_alloc_past, World.cell?_alloc_some, World.cell?_setCell_far]; done)))); (have g9 := keepc hb8 (p := ⟨w.heap.size + 1, 4, none⟩) (u := .slice a2 n2 c2) (by (first | (go_simp; done) | (simp [*, World.cell?_alloc_at, World.cell?_alloc_past, World.cell?_alloc_some, World.cell?_setCell_far]; done)))))
      | (go_at_call 10; refine (HS1.out _ (by refine Ints.below h1 (B := w.heap.size) ?_ (Nat.le_refl _); (repeat (first | exact Below.refl _ _ | assumption | refine Below.drew ?_ | refine below_drewN ?_ _ | refine belowA ?_ _ | refine belowT ?_ (by assumption) | refine Below.setCell ?_ (by first | (simp; done) | (simp; omega)) _))) (by refine Ints.below h2 (B := w.heap.size) ?_ (Nat.le_refl _); (repeat (first | exact Below.refl _ _ | assumption | refine Below.drew ?_ | refine below_drewN ?_ _ | refine belowA ?_ _ | refine belowT ?_ (by assumption) | refine Below.setCell ?_ (by first | (simp; done) | (simp; omega)) _)))).mono ?_; rintro e w7 ⟨rfl, hb7⟩; (have k0 := keepc hb7 (p := ⟨w.heap.size, 0, none⟩) (u := .int .i64 b1.k) (by (first | (go_simp; done) | (simp [*, World.cell?_alloc_at, World.cell?_alloc_past, World.cell?_alloc_some, World.cell?_setCell_far]; done)))); (have k1 := keepc hb7 (p := ⟨w.heap.size, 1, none⟩) (u := .int .i64 b1.z) (by (first | (go_simp; done) | (simp [*, World.cell?_alloc_at, World.cell?_alloc_past, World.cell?_alloc_some, World.cell?_setCell_far]; done)))); (have k2 := keepc hb7 (p := ⟨w.heap.size, 2, none⟩) (u := .int .i64 b1.n) (by (first | (go_simp; done) | (simp [*, World.cell?_alloc_at, World.cell?_alloc_past, World.cell?_alloc_some, World.cell?_setCell_far]; done)))); (have k3 := keepc hb7 (p := ⟨w.heap.size, 3, none⟩) (u := .int .i64 b1.at') (by (first | (go_simp; done) | (simp [*, World.cell?_alloc_at, World.cell?_alloc_past, World.cell?_alloc_some, World.cell?_setCell_far]; done)))); (have k4 := keepc hb7 (p := ⟨w.heap.size, 4, none⟩) (u := .slice a1 n1 c1) (by (first | (go_simp; done) | (simp [*, World.cell?_alloc_at, World.cell?_alloc_past, World.cell?_alloc_some, World.cell?_setCell_far]; done)))); (have k5 := keepc hb7 (p := ⟨w.heap.size + 1, 0, none⟩) (u := .int .i64 b2.k) (by (first | (go_simp; done) | (simp [*, World.cell?_alloc_at, World.cell?_alloc_past, World.cell?_alloc_some, World.cell?_setCell_far]; done)))); (have k6 := keepc hb7 (p := ⟨w.heap.size + 1, 1, none⟩) (u := .int .i64 b2.z) (by (first | (go_simp; done) | (simp [*, World.cell?_alloc_at, World.cell?_alloc_past, World.cell?_alloc_some, World.cell?_setCell_far]; done)))); (have k7 := keepc hb7 (p := ⟨w.heap.size + 1, 2, none⟩) (u := .int .i64 b2.n) (by (first | (go_simp; done) | (simp [*, World.cell?_alloc_at, World.cell?_alloc_past, World.cell?_alloc_some, World.cell?_setCell_far]; done)))); (have k8 := keepc hb7 (p := ⟨w.heap.size + 1, 3, none⟩) (u := .int .i64 b2.at') (by (first | (go_simp; done) | (simp [*, World.cell?_alloc_at, World.cell?_alloc_past, World.cell?_alloc_some, World.cell?_setCell_far]; done)))); (have k9 := keepc hb7 (p := ⟨w.heap.size + 1, 4, none⟩) (u := .slice a2 n2 c2) (by (first | (go_simp; done) | (simp [*, World.cell?_alloc_at, World.cell?_alloc_past, World.cell?_alloc_some, World.cell?_setCell_far]; done)))))
      | (go_at_call 11; refine (HS2.out _ (by refine Ints.below h1 (B := w.heap.size) ?_ (Nat.le_refl _); (repeat (first | exact Below.refl _ _ | assumption | refine Below.drew ?_ | refine below_drewN ?_ _ | refine belowA ?_ _ | refine belowT ?_ (by assumption) | refine Below.setCell ?_ (by first | (simp; done) | (simp; omega)) _))) (by refine Ints.below h2 (B := w.heap.size) ?_ (Nat.le_refl _); (repeat (first | exact Below.refl _ _ | assumption | refine Below.drew ?_ | refine below_drewN ?_ _ | refine belowA ?_ _ | refine belowT ?_ (by assumption) | refine Below.setCell ?_ (by first | (simp; done) | (simp; omega)) _)))).mono ?_; rintro e w6 ⟨rfl, hb6⟩; (have m0 := keepc hb6 (p := ⟨w.heap.size, 0, none⟩) (u := .int .i64 b1.k) (by (first | (go_simp; done) | (simp [*, World.cell?_alloc_at, World.cell?_alloc_past, World.cell?_alloc_some, World.cell?_setCell_far]; done)))); (have m1 := keepc hb6 (p := ⟨w.heap.size, 1, none⟩) (u := .int .i64 b1.z) (by (first | (go_simp; done) | (simp [*, World.cell?_alloc_at, World.cell?_alloc_past, World.cell?_alloc_some, World.cell?_setCell_far]; done)))); (have m2 := keepc hb6 (p := ⟨w.heap.size, 2, none⟩) (u := .int .i64 b1.n) (by (first | (go_simp; done) | (simp [*, World.cell?_alloc_at, World.cell?_alloc_past, World.cell?_alloc_some, World.cell?_setCell_far]; done)))); (have m3 := keepc hb6 (p := ⟨w.heap.size, 3, none⟩) (u := .int .i64 b1.at') (by (first | (go_simp; done) | (simp [*, World.cell?_alloc_at, World.cell?_alloc_past, World.cell?_alloc_some, World.cell?_setCell_far]; done)))); (have m4 := keepc hb6 (p := ⟨w.heap.size, 4, none⟩) (u := .slice a1 n1 c1) (by (first | (go_simp; done) | (simp [*, World.cell?_alloc_at, World.cell?_alloc_past, World.cell?_alloc_some, World.cell?_setCell_far]; done)))); (have m5 := keepc hb6 (p := ⟨w.heap.size + 1, 0, none⟩) (u := .int .i64 b2.k) (by (first | (go_simp; done) | (simp [*, World.cell?_alloc_at, World.cell?_alloc_past, World.cell?_alloc_some, World.cell?_setCell_far]; done)))); (have m6 := keepc hb6 (p := ⟨w.heap.size + 1, 1, none⟩) (u := .int .i64 b2.z) (by (first | (go_simp; done) | (simp [*, World.cell?_alloc_at, World.cell?_alloc_past, World.cell?_alloc_some, World.cell?_setCell_far]; done)))); (have m7 := keepc hb6 (p := ⟨w.heap.size + 1, 2, none⟩) (u := .int .i64 b2.n) (by (first | (go_simp; done) | (simp [*, World.cell?_alloc_at, World.cell?_alloc_past, World.cell?_alloc_some, World.cell?_setCell_far]; done)))); (have m8 := keepc hb6 (p := ⟨w.heap.size + 1, 3, none⟩) (u := .int .i64 b2.at') (by (first | (go_simp; done) | (simp [*, World.cell?_alloc_at, World.cell?_alloc_past, World.cell?_alloc_some, World.cell?_setCell_far]; done)))); (have m9 := keepc hb6 (p := ⟨w.heap.size + 1, 4, none⟩) (u := .slice a2 n2 c2) (by (first | (go_simp; done) | (simp [*, World.cell?_alloc_at, World.cell?_alloc_past, World.cell?_alloc_some, World.cell?_setCell_far]; done))))))
    have b56 : Below w4.heap.size w4 w6 := by (repeat (first | exact Below.refl _ _ | assumption | refine Below.drew ?_ | refine below_drewN ?_ _ | refine belowA ?_ _ | refine belowT ?_ (by assumption) | refine Below.setCell ?_ (by first | (simp; done) | (simp; omega)) _))
    have bw6 : Below w.heap.size w w6 := bw4.trans (b56.mono bw4.size)
    have r6 : w6.heap[X]? = _ := (b56.block _ ((Array.getElem?_eq_some_iff.1 RX5.out).1)).trans RX5.out
    replace jX := jX.below b56 (Nat.le_refl _)
    have R6 := hide r6
    clear HS1 HS2 HK1 b56 r6
    by_cases hl : 60000 < s.size
    · have hz := HLG.out hl
      obtain ⟨rfl, rfl⟩ := Prod.mk.inj hz
      have hl' : (60000 : Int) < (s.size : Int) := by omega
      have c6 : ∀ i, w6.cell? ⟨X, i, none⟩ = _ := fun i => cell_of_row _ _ _ _ _ _ R6.out
      have HSZ := hide (fun w' h1 h2 => SameCmd_c aX none nX 0 nX 0 zeroC zeroC w' h1 h2)
      rw [(sameC_iff zeroC zeroC).2 rfl] at HSZ
      unfold cmdV zeroC at HSZ
      unfold zeroC at c6 jX
      unfold zeroC
      dsimp only at c6 jX HSZ ⊢
      clear hz
      go_wp2_with fail
      refine (HSZ.out _ jX (Ints.nilSlice _)).mono ?_
      rintro e wE ⟨rfl, hbE⟩
      go_wp2
      go_ret
      exact ⟨rfl, by (repeat (first | exact Below.refl _ _ | assumption | refine Below.drew ?_ | refine below_drewN ?_ _ | refine belowA ?_ _ | refine belowT ?_ (by assumption) | refine Below.setCell ?_ (by first | (simp; done) | (simp; omega)) _))⟩
    · have hl' : ¬ (60000 : Int) < (s.size : Int) := by omega
      have HY2 := hide (fun w' hE => HYR.out w' hE (by omega))
      clear HYR
      go_wp2_with fail
      refine (HY2.out _ (hE.below bw6)).mono ?_
      rintro e wA ⟨⟨aY, nY, cY, rfl, iY⟩, hbA⟩
      have rA : wA.heap[X]? = _ := (hbA.block _ ((Array.getElem?_eq_some_iff.1 R6.out).1)).trans R6.out
      have kX := jX.below hbA (Nat.le_refl _)
      have bwA : Below w.heap.size w wA := bw6.trans (hbA.mono bw6.size)
      have lA : X < wA.heap.size := (Array.getElem?_eq_some_iff.1 rA).1
      have HSY := hide (fun w' h1 h2 => SameCmd_c aX aY nX nY nX cY y y w' h1 h2)
      rw [(sameC_iff y y).2 rfl] at HSY
      unfold cmdV at HSY
      unfold cmdV
      dsimp only at iY HSY ⊢
      go_upto_region 12 with fail
      have rB : (wA.alloc (.cells #[.int .i64 y.k, .int .i64 y.z, .int .i64 y.n, .int .i64 y.at', .slice aY nY cY] 24)).heap[X]? = _ := (Below.heap_alloc _ _ _ lA).trans rA
      have rC : (wA.alloc (.cells #[.int .i64 y.k, .int .i64 y.z, .int .i64 y.n, .int .i64 y.at', .slice aY nY cY] 24)).heap[wA.heap.size]? = _ := heap_new _ _
      have hbB : Below wA.heap.size wA (wA.alloc (.cells #[.int .i64 y.k, .int .i64 y.z, .int .i64 y.n, .int .i64 y.at', .slice aY nY cY] 24)) := belowA (Below.refl _ _) _
      generalize wA.alloc (.cells #[.int .i64 y.k, .int .i64 y.z, .int .i64 y.n, .int .i64 y.at', .slice aY nY cY] 24) = wB at *
      have cB : ∀ i, wB.cell? ⟨X, i, none⟩ = _ := fun i => cell_of_row _ _ _ _ _ _ rB
      have cC : ∀ i, wB.cell? ⟨wA.heap.size, i, none⟩ = _ := fun i => cell_of_row _ _ _ _ _ _ rC
      have bwB : Below w.heap.size w wB := bwA.trans (hbB.mono bwA.size)
      replace kX := kX.below hbB (Nat.le_refl _)
      replace iY := iY.below hbB (Nat.le_refl _)
      clear rA rB rC hbB HY2 hbA
      go_wp2_with fail
      refine (HSY.out _ kX iY).mono ?_
      rintro e wE ⟨rfl, hbE⟩
      go_wp2
      go_ret
      exact ⟨rfl, by (repeat (first | exact Below.refl _ _ | assumption | refine Below.drew ?_ | refine below_drewN ?_ _ | refine belowA ?_ _ | refine belowT ?_ (by assumption) | refine Below.setCell ?_ (by first | (simp; done) | (simp; omega)) _))⟩

end Go.Proofs.YtijcllkphheddabDoor
