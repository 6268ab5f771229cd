/- The contract of the document's own RecRead; no condition but that the text is short enough, and the package-level variables are as their texts lay them. -/
import Derived.Test.YtcbgkjmcdjpgcaaGreatDoorDiskSaysG19
namespace Go.Proofs.YtcbgkjmcdjpgcaaGreatDoor
open Go.RowKit
set_option linter.unusedVariables false
set_option maxRecDepth 100000
set_option linter.unusedSimpArgs false

theorem IdxC_c (s : ByteArray) (hs : s.size ≤ 60000) (w : World) (hE : Env w) : Calls Tryz.prog 53 #[.string s, .string ⟨#[58, 32]⟩] w fun e w' => e = .returned (.int .i64 (Lib.index s.data.toList [58, 32])) ∧ w' = w := by
  obtain ⟨m, hm⟩ := hE.max
  exact Tryz.strings_Index s ⟨#[58, 32]⟩ m w (by omega) hm
theorem IdxB_c (s : ByteArray) (w : World) : Calls Tryz.prog 54 #[.string s, .int .u8 32] w fun e w' => e = .returned (.int .i64 (Lib.indexByte s.data.toList 32)) ∧ w' = w := Tryz.strings_IndexByte s 32 w

theorem ext_list (s : ByteArray) (a b : Nat) : (s.extract a b).data.toList = (s.data.toList.take b).drop a := by
  rw [ByteArray.data_extract, Array.toList_extract, List.extract_eq_take_drop, List.drop_take]
theorem ext_size (s : ByteArray) (a b : Nat) : (s.extract a b).size ≤ s.size := by
  rw [ByteArray.size_extract]
  omega

/-- Hand and number out of two words. -/
def headOf (a b t : List UInt8) : Option (Int × Int × List UInt8) := match num a, num b with
  | some v, some u => some (v, u, t)
  | _, _ => none
theorem headOf_some {a b t : List UInt8} {v u : Int} (h1 : num a = some v) (h2 : num b = some u) : headOf a b t = some (v, u, t) := by simp [headOf, h1, h2]
theorem headOf_a {a b t : List UInt8} (h : num a = none) : headOf a b t = none := by simp [headOf, h]
theorem headOf_b {a b t : List UInt8} (h : num b = none) : headOf a b t = none := by
  unfold headOf
  rw [h]
  cases num a <;> rfl

/-- Where the colon and the blank stand, and what that makes of the text. -/
theorem recPlan (s : ByteArray) : (headS s.data.toList = none ∧ Lib.index s.data.toList [58, 32] = -1) ∨ ∃ L : Nat, Lib.index s.data.toList [58, 32] = L ∧ L + 2 ≤ s.size ∧
    ((headS s.data.toList = none ∧ Lib.indexByte (s.extract 0 L).data.toList 32 = -1) ∨ ∃ A : Nat, Lib.indexByte (s.extract 0 L).data.toList 32 = A ∧ A + 1 ≤ L ∧
      headS s.data.toList = headOf (s.extract 0 A).data.toList (s.extract (A + 1) L).data.toList (s.extract (L + 2) s.size).data.toList) := by
  rcases index_C s.data.toList with ⟨hc, hx⟩ | ⟨h, t, hc, hx⟩
  · exact .inl ⟨by simp [headS, hc], hx⟩
  · have hsl := cutC_some hc
    have hz : s.size = h.length + 2 + t.length := by
      rw [Lib.size_eq, hsl]
      simp only [List.length_append, List.length_cons]
      omega
    have eh : (s.extract 0 h.length).data.toList = h := by rw [ext_list, hsl]; simp
    refine .inr ⟨h.length, hx, by omega, ?_⟩
    rw [eh]
    rcases indexByte_B h with ⟨hb, hy⟩ | ⟨a, b, hb, hy⟩
    · exact .inl ⟨by simp [headS, hc, headR, hb], hy⟩
    · have hhl := cutB_some hb
      have hz2 : h.length = a.length + 1 + b.length := by
        rw [hhl]
        simp only [List.length_append, List.length_cons]
        omega
      have ea : (s.extract 0 a.length).data.toList = a := by rw [ext_list, hsl, hhl]; simp
      have eb : (s.extract (a.length + 1) h.length).data.toList = b := by
        rw [ext_list, hsl, List.take_left' rfl]
        conv => lhs; rw [hhl]
        simp
      have et : (s.extract (h.length + 2) s.size).data.toList = t := by
        rw [ext_list, List.take_of_length_le (by rw [Lib.size_eq]; exact Nat.le_refl _), hsl]
        simp
      refine .inr ⟨a.length, hy, by omega, ?_⟩
      rw [ea, eb, et]
      simp only [headS, hc, headR, hb, headOf]
      cases num a <;> cases num b <;> rfl

set_option maxRecDepth 100000 in
set_option maxHeartbeats 4000000 in
theorem RecRead_c (s : ByteArray) (w : World) (hE : Env w) (hs : s.size ≤ 60000) :
    Calls Tryz.prog 38 #[.string s] w fun e w' => NParseRes w.heap.size w' e (parseR s.data.toList) ∧ Below w.heap.size w w' := by
  have hl : s.data.toList.length ≤ 60000 := by rw [Lib.size_eq] at hs; exact hs
  have xR := Lay.made w [.int .i64 0, .int .i64 0, .int .i64 0, .int .i64 0, .int .i64 0, .int .i64 0, .slice none 0 0] 29
  have bw : Below w.heap.size w (w.alloc (.cells [.int .i64 0, .int .i64 0, .int .i64 0, .int .i64 0, .int .i64 0, .int .i64 0, .slice none 0 0].toArray 29)) := by (repeat (first | exact Below.refl _ _ | assumption | refine Below.drew ?_ | refine below_drewN ?_ _ | refine belowA ?_ _ | refine belowT ?_ (by assumption) | refine Below.setCell ?_ (by first | (simp; done) | (simp; omega)) _))
  go_enter Tryz.func38, Tryz.ntmps38
  go_upto_region 1 with fail
  generalize w.alloc (.cells [.int .i64 0, .int .i64 0, .int .i64 0, .int .i64 0, .int .i64 0, .int .i64 0, .slice none 0 0].toArray 29) = w1 at *
  go_wp2_with fail
  refine (IdxC_c s hs _ (hE.below bw)).mono ?_
  rintro e w1 ⟨rfl, rfl⟩
  rcases recPlan s with ⟨hh, hx⟩ | ⟨L, hx, hL, hr⟩
  · rw [hx]
    have HP := hide (parseR_none hl hh)
    clear hh hx hl
    have e0 := xR.cell 0 _ rfl
    have e1 := xR.cell 1 _ rfl
    have e2 := xR.cell 2 _ rfl
    have e3 := xR.cell 3 _ rfl
    have e4 := xR.cell 4 _ rfl
    have e5 := xR.cell 5 _ rfl
    have e6 := xR.cell 6 _ rfl
    have f0 := xR.ice 0
    have f1 := xR.ice 1
    have f2 := xR.ice 2
    have f3 := xR.ice 3
    have f4 := xR.ice 4
    have f5 := xR.ice 5
    have f6 := xR.ice 6
    go_wp2
    have zB := ((((((xR.set 0 (.int .i64 (0))).set 1 (.int .i64 (0))).set 2 (.int .i64 (0))).set 3 (.int .i64 (0))).set 4 (.int .i64 (0))).set 5 (.int .i64 (0))).set 6 (.slice none 0 0)
    have hbut := (((((((ButI.refl (w.heap.size) (w1)).step 0 (.int .i64 (0))).step 1 (.int .i64 (0))).step 2 (.int .i64 (0))).step 3 (.int .i64 (0))).step 4 (.int .i64 (0))).step 5 (.int .i64 (0))).step 6 (.slice none 0 0)
    generalize (((((((w1).setCell ⟨w.heap.size, 0, none⟩ (.int .i64 (0))).setCell ⟨w.heap.size, 1, none⟩ (.int .i64 (0))).setCell ⟨w.heap.size, 2, none⟩ (.int .i64 (0))).setCell ⟨w.heap.size, 3, none⟩ (.int .i64 (0))).setCell ⟨w.heap.size, 4, none⟩ (.int .i64 (0))).setCell ⟨w.heap.size, 5, none⟩ (.int .i64 (0))).setCell ⟨w.heap.size, 6, none⟩ (.slice none 0 0) = w99 at *
    have y0 := zB.cell 0 _ rfl
    have y1 := zB.cell 1 _ rfl
    have y2 := zB.cell 2 _ rfl
    have y3 := zB.cell 3 _ rfl
    have y4 := zB.cell 4 _ rfl
    have y5 := zB.cell 5 _ rfl
    have y6 := zB.cell 6 _ rfl
    refine bodyPost_ret (v := .tuple #[RV.zero.v, .int .i64 1]) (by simp [results, Tryz.results38, go_sem, RV.v, RV.zero, zeroR, zeroC, y0, y1, y2, y3, y4, y5, y6]) rfl ⟨?_, bw.trans hbut.but.low⟩
    rw [HP.out]
    exact .zero rfl
  · rw [hx]
    have k0 : ¬ ((L : Int) < 0) := by omega
    have k1 : (0 : Int) ≤ (L : Int) := by omega
    have k2 : (L : Int) ≤ (s.size : Int) := by omega
    have HR := hide hr
    clear hr hx
    go_wp2_with fail
    refine (IdxB_c _ _).mono ?_
    rintro e w1 ⟨rfl, rfl⟩
    rcases HR.out with ⟨hh, hy⟩ | ⟨A, hy, hA, hh⟩
    · rw [hy]
      have HP := hide (parseR_none hl hh)
      clear hh hy hl HR
      have e0 := xR.cell 0 _ rfl
      have e1 := xR.cell 1 _ rfl
      have e2 := xR.cell 2 _ rfl
      have e3 := xR.cell 3 _ rfl
      have e4 := xR.cell 4 _ rfl
      have e5 := xR.cell 5 _ rfl
      have e6 := xR.cell 6 _ rfl
      have f0 := xR.ice 0
      have f1 := xR.ice 1
      have f2 := xR.ice 2
      have f3 := xR.ice 3
      have f4 := xR.ice 4
      have f5 := xR.ice 5
      have f6 := xR.ice 6
      go_wp2
      have zB := ((((((xR.set 0 (.int .i64 (0))).set 1 (.int .i64 (0))).set 2 (.int .i64 (0))).set 3 (.int .i64 (0))).set 4 (.int .i64 (0))).set 5 (.int .i64 (0))).set 6 (.slice none 0 0)
      have hbut := (((((((ButI.refl (w.heap.size) (w1)).step 0 (.int .i64 (0))).step 1 (.int .i64 (0))).step 2 (.int .i64 (0))).step 3 (.int .i64 (0))).step 4 (.int .i64 (0))).step 5 (.int .i64 (0))).step 6 (.slice none 0 0)
      generalize (((((((w1).setCell ⟨w.heap.size, 0, none⟩ (.int .i64 (0))).setCell ⟨w.heap.size, 1, none⟩ (.int .i64 (0))).setCell ⟨w.heap.size, 2, none⟩ (.int .i64 (0))).setCell ⟨w.heap.size, 3, none⟩ (.int .i64 (0))).setCell ⟨w.heap.size, 4, none⟩ (.int .i64 (0))).setCell ⟨w.heap.size, 5, none⟩ (.int .i64 (0))).setCell ⟨w.heap.size, 6, none⟩ (.slice none 0 0) = w99 at *
      have y0 := zB.cell 0 _ rfl
      have y1 := zB.cell 1 _ rfl
      have y2 := zB.cell 2 _ rfl
      have y3 := zB.cell 3 _ rfl
      have y4 := zB.cell 4 _ rfl
      have y5 := zB.cell 5 _ rfl
      have y6 := zB.cell 6 _ rfl
      refine bodyPost_ret (v := .tuple #[RV.zero.v, .int .i64 1]) (by simp [results, Tryz.results38, go_sem, RV.v, RV.zero, zeroR, zeroC, y0, y1, y2, y3, y4, y5, y6]) rfl ⟨?_, bw.trans hbut.but.low⟩
      rw [HP.out]
      exact .zero rfl
    · rw [hy]
      have za := ext_size s 0 A
      have zb := ext_size s (A + 1) L
      have zt := ext_size s (L + 2) s.size
      have i0 : ¬ ((A : Int) < 0) := by omega
      have i1 : (0 : Int) ≤ (A : Int) := by omega
      have i2 : (A : Int) ≤ (s.size : Int) := by omega
      have HH := hide hh
      clear hh hy HR
      go_wp2_with fail
      refine (rwhole_c _ (by omega) _ (hE.below bw)).mono ?_
      rintro e w2 ⟨⟨v, f, rfl, hf1, hf0⟩, hb2⟩
      replace xR := xR.below hb2
      replace bw := belowT bw hb2
      have HF1 := hide hf1
      have HF0 := hide hf0
      clear hf1 hf0 hb2
      have j0 : (A : Int) + 1 ≤ (L : Int) := by omega
      have j1 : (0 : Int) ≤ (A : Int) + 1 := by omega
      go_wp2_with fail
      refine (rwhole_c _ (by omega) _ (hE.below bw)).mono ?_
      rintro e w3 ⟨⟨u, g, rfl, hg1, hg0⟩, hb3⟩
      replace xR := xR.below hb3
      replace bw := belowT bw hb3
      have HG1 := hide hg1
      have HG0 := hide hg0
      clear hg1 hg0 hb3
      cases f
      · have HP := hide (parseR_none hl (HH.out.trans (headOf_a (HF0.out rfl))))
        have e0 := xR.cell 0 _ rfl
        have e1 := xR.cell 1 _ rfl
        have e2 := xR.cell 2 _ rfl
        have e3 := xR.cell 3 _ rfl
        have e4 := xR.cell 4 _ rfl
        have e5 := xR.cell 5 _ rfl
        have e6 := xR.cell 6 _ rfl
        have f0 := xR.ice 0
        have f1 := xR.ice 1
        have f2 := xR.ice 2
        have f3 := xR.ice 3
        have f4 := xR.ice 4
        have f5 := xR.ice 5
        have f6 := xR.ice 6
        go_wp2
        have zB := ((((((xR.set 0 (.int .i64 (0))).set 1 (.int .i64 (0))).set 2 (.int .i64 (0))).set 3 (.int .i64 (0))).set 4 (.int .i64 (0))).set 5 (.int .i64 (0))).set 6 (.slice none 0 0)
        have hbut := (((((((ButI.refl (w.heap.size) (w3)).step 0 (.int .i64 (0))).step 1 (.int .i64 (0))).step 2 (.int .i64 (0))).step 3 (.int .i64 (0))).step 4 (.int .i64 (0))).step 5 (.int .i64 (0))).step 6 (.slice none 0 0)
        generalize (((((((w3).setCell ⟨w.heap.size, 0, none⟩ (.int .i64 (0))).setCell ⟨w.heap.size, 1, none⟩ (.int .i64 (0))).setCell ⟨w.heap.size, 2, none⟩ (.int .i64 (0))).setCell ⟨w.heap.size, 3, none⟩ (.int .i64 (0))).setCell ⟨w.heap.size, 4, none⟩ (.int .i64 (0))).setCell ⟨w.heap.size, 5, none⟩ (.int .i64 (0))).setCell ⟨w.heap.size, 6, none⟩ (.slice none 0 0) = w99 at *
        have y0 := zB.cell 0 _ rfl
        have y1 := zB.cell 1 _ rfl
        have y2 := zB.cell 2 _ rfl
        have y3 := zB.cell 3 _ rfl
        have y4 := zB.cell 4 _ rfl
        have y5 := zB.cell 5 _ rfl
        have y6 := zB.cell 6 _ rfl
        refine bodyPost_ret (v := .tuple #[RV.zero.v, .int .i64 1]) (by simp [results, Tryz.results38, go_sem, RV.v, RV.zero, zeroR, zeroC, y0, y1, y2, y3, y4, y5, y6]) rfl ⟨?_, bw.trans hbut.but.low⟩
        rw [HP.out]
        exact .zero rfl
      · cases g
        · have HP := hide (parseR_none hl (HH.out.trans (headOf_b (HG0.out rfl))))
          have e0 := xR.cell 0 _ rfl
          have e1 := xR.cell 1 _ rfl
          have e2 := xR.cell 2 _ rfl
          have e3 := xR.cell 3 _ rfl
          have e4 := xR.cell 4 _ rfl
          have e5 := xR.cell 5 _ rfl
          have e6 := xR.cell 6 _ rfl
          have f0 := xR.ice 0
          have f1 := xR.ice 1
          have f2 := xR.ice 2
          have f3 := xR.ice 3
          have f4 := xR.ice 4
          have f5 := xR.ice 5
          have f6 := xR.ice 6
          go_wp2
          have zB := ((((((xR.set 0 (.int .i64 (0))).set 1 (.int .i64 (0))).set 2 (.int .i64 (0))).set 3 (.int .i64 (0))).set 4 (.int .i64 (0))).set 5 (.int .i64 (0))).set 6 (.slice none 0 0)
          have hbut := (((((((ButI.refl (w.heap.size) (w3)).step 0 (.int .i64 (0))).step 1 (.int .i64 (0))).step 2 (.int .i64 (0))).step 3 (.int .i64 (0))).step 4 (.int .i64 (0))).step 5 (.int .i64 (0))).step 6 (.slice none 0 0)
          generalize (((((((w3).setCell ⟨w.heap.size, 0, none⟩ (.int .i64 (0))).setCell ⟨w.heap.size, 1, none⟩ (.int .i64 (0))).setCell ⟨w.heap.size, 2, none⟩ (.int .i64 (0))).setCell ⟨w.heap.size, 3, none⟩ (.int .i64 (0))).setCell ⟨w.heap.size, 4, none⟩ (.int .i64 (0))).setCell ⟨w.heap.size, 5, none⟩ (.int .i64 (0))).setCell ⟨w.heap.size, 6, none⟩ (.slice none 0 0) = w99 at *
          have y0 := zB.cell 0 _ rfl
          have y1 := zB.cell 1 _ rfl
          have y2 := zB.cell 2 _ rfl
          have y3 := zB.cell 3 _ rfl
          have y4 := zB.cell 4 _ rfl
          have y5 := zB.cell 5 _ rfl
          have y6 := zB.cell 6 _ rfl
          refine bodyPost_ret (v := .tuple #[RV.zero.v, .int .i64 1]) (by simp [results, Tryz.results38, go_sem, RV.v, RV.zero, zeroR, zeroC, y0, y1, y2, y3, y4, y5, y6]) rfl ⟨?_, bw.trans hbut.but.low⟩
          rw [HP.out]
          exact .zero rfl
        · have hp := parseR_some hl (HH.out.trans (headOf_some (HF1.out rfl) (HG1.out rfl)))
          rw [show (⟨(s.extract (L + 2) s.size).data.toList.toArray⟩ : ByteArray) = s.extract (L + 2) s.size from rfl] at hp
          have HP := hide hp
          clear hp HH HF1 HF0 HG1 HG0
          have l0 : (L : Int) + 2 ≤ (s.size : Int) := by omega
          have l1 : (0 : Int) ≤ (L : Int) + 2 := by omega
          go_wp2_with fail
          refine (CmdRead_c _ _ (hE.below bw) (by omega)).mono ?_
          rintro e w5 ⟨⟨aX, nX, cX, rfl, iX, nwX⟩, hb5⟩
          have hlt := xR.lt
          replace xR := xR.below hb5
          replace bw := belowT bw hb5
          have NW := hide nwX
          clear hb5 nwX
          generalize parseC (s.extract (L + 2) s.size) = pr at *
          obtain ⟨⟨k, z, m, tt, d⟩, er⟩ := pr
          unfold cmdV
          dsimp only at *
          go_upto_region 12 with fail
          have xC := Lay.made w5 [.int .i64 k, .int .i64 z, .int .i64 m, .int .i64 tt, .slice aX nX cX] 27
          have hb6 : Below w5.heap.size w5 (w5.alloc (.cells [.int .i64 k, .int .i64 z, .int .i64 m, .int .i64 tt, .slice aX nX cX].toArray 27)) := by (repeat (first | exact Below.refl _ _ | assumption | refine Below.drew ?_ | refine below_drewN ?_ _ | refine belowA ?_ _ | refine belowT ?_ (by assumption) | refine Below.setCell ?_ (by first | (simp; done) | (simp; omega)) _))
          replace xR := xR.below hb6
          replace bw := belowT bw hb6
          replace iX := iX.below hb6 (Nat.le_refl _)
          clear hb6
          generalize w5.alloc (.cells [.int .i64 k, .int .i64 z, .int .i64 m, .int .i64 tt, .slice aX nX cX].toArray 27) = w6 at *
          by_cases her : er = 0
          · subst her
            have HK := hide (fun w' h' => CheckRec_c ⟨⟨v, u, ⟨k, z, m, tt, d⟩⟩, aX, nX, cX⟩ w' h')
            dsimp only [RV.v, RV.ok] at HK
            have c0 := xC.cell 0 _ rfl
            have c1 := xC.cell 1 _ rfl
            have c2 := xC.cell 2 _ rfl
            have c3 := xC.cell 3 _ rfl
            have c4 := xC.cell 4 _ rfl
            go_upto_region 15 with fail
            have xV := Lay.made w6 [.int .i64 v, .int .i64 u, .int .i64 k, .int .i64 z, .int .i64 m, .int .i64 tt, .slice aX nX cX] 29
            have hb7 : Below w6.heap.size w6 (w6.alloc (.cells [.int .i64 v, .int .i64 u, .int .i64 k, .int .i64 z, .int .i64 m, .int .i64 tt, .slice aX nX cX].toArray 29)) := by (repeat (first | exact Below.refl _ _ | assumption | refine Below.drew ?_ | refine below_drewN ?_ _ | refine belowA ?_ _ | refine belowT ?_ (by assumption) | refine Below.setCell ?_ (by first | (simp; done) | (simp; omega)) _))
            replace xR := xR.below hb7
            replace bw := belowT bw hb7
            replace iX := iX.below hb7 (Nat.le_refl _)
            clear hb7 c0 c1 c2 c3 c4 xC
            generalize w6.alloc (.cells [.int .i64 v, .int .i64 u, .int .i64 k, .int .i64 z, .int .i64 m, .int .i64 tt, .slice aX nX cX].toArray 29) = w7 at *
            have g0 := xV.cell 0 _ rfl
            have g1 := xV.cell 1 _ rfl
            have g2 := xV.cell 2 _ rfl
            have g3 := xV.cell 3 _ rfl
            have g4 := xV.cell 4 _ rfl
            have g5 := xV.cell 5 _ rfl
            have g6 := xV.cell 6 _ rfl
            go_wp2_with fail
            refine (HK.out _ iX).mono ?_
            rintro e w8 ⟨rfl, hb8⟩
            replace xR := xR.below hb8
            replace xV := xV.below hb8
            replace bw := belowT bw hb8
            replace iX := iX.below hb8 (Nat.le_refl _)
            clear hb8 HK g0 g1 g2 g3 g4 g5 g6
            simp only [ne_eq, not_true_eq_false, if_false] at HP
            by_cases hck : checkR ⟨v, u, ⟨k, z, m, tt, d⟩⟩ = 0
            · rw [hck] at HP ⊢
              simp only [not_true_eq_false, if_false] at HP
              have g0 := xV.cell 0 _ rfl
              have g1 := xV.cell 1 _ rfl
              have g2 := xV.cell 2 _ rfl
              have g3 := xV.cell 3 _ rfl
              have g4 := xV.cell 4 _ rfl
              have g5 := xV.cell 5 _ rfl
              have g6 := xV.cell 6 _ rfl
              have e0 := xR.cell 0 _ rfl
              have e1 := xR.cell 1 _ rfl
              have e2 := xR.cell 2 _ rfl
              have e3 := xR.cell 3 _ rfl
              have e4 := xR.cell 4 _ rfl
              have e5 := xR.cell 5 _ rfl
              have e6 := xR.cell 6 _ rfl
              have f0 := xR.ice 0
              have f1 := xR.ice 1
              have f2 := xR.ice 2
              have f3 := xR.ice 3
              have f4 := xR.ice 4
              have f5 := xR.ice 5
              have f6 := xR.ice 6
              go_wp2
              have zB := ((((((xR.set 0 (.int .i64 (v))).set 1 (.int .i64 (u))).set 2 (.int .i64 (k))).set 3 (.int .i64 (z))).set 4 (.int .i64 (m))).set 5 (.int .i64 (tt))).set 6 (.slice aX nX cX)
              have hbut := (((((((ButI.refl (w.heap.size) (w8)).step 0 (.int .i64 (v))).step 1 (.int .i64 (u))).step 2 (.int .i64 (k))).step 3 (.int .i64 (z))).step 4 (.int .i64 (m))).step 5 (.int .i64 (tt))).step 6 (.slice aX nX cX)
              generalize (((((((w8).setCell ⟨w.heap.size, 0, none⟩ (.int .i64 (v))).setCell ⟨w.heap.size, 1, none⟩ (.int .i64 (u))).setCell ⟨w.heap.size, 2, none⟩ (.int .i64 (k))).setCell ⟨w.heap.size, 3, none⟩ (.int .i64 (z))).setCell ⟨w.heap.size, 4, none⟩ (.int .i64 (m))).setCell ⟨w.heap.size, 5, none⟩ (.int .i64 (tt))).setCell ⟨w.heap.size, 6, none⟩ (.slice aX nX cX) = w99 at *
              have y0 := zB.cell 0 _ rfl
              have y1 := zB.cell 1 _ rfl
              have y2 := zB.cell 2 _ rfl
              have y3 := zB.cell 3 _ rfl
              have y4 := zB.cell 4 _ rfl
              have y5 := zB.cell 5 _ rfl
              have y6 := zB.cell 6 _ rfl
              refine bodyPost_ret (v := .tuple #[.agg #[.int .i64 v, .int .i64 u, .int .i64 k, .int .i64 z, .int .i64 m, .int .i64 tt, .slice aX nX cX], .int .i64 0]) (by simp [results, Tryz.results38, go_sem, y0, y1, y2, y3, y4, y5, y6]) rfl ⟨?_, bw.trans hbut.but.low⟩
              rw [HP.out]
              exact ⟨⟨⟨v, u, ⟨k, z, m, tt, d⟩⟩, aX, nX, cX⟩, rfl, rfl, Ints.but iX hbut.but (.inr fun x e => by have := NW.out x e; omega), fun x e => by have := NW.out x e; omega⟩
            · have hcb : (checkR ⟨v, u, ⟨k, z, m, tt, d⟩⟩ != 0) = true := by simpa using hck
              rw [if_pos hck] at HP
              generalize checkR ⟨v, u, ⟨k, z, m, tt, d⟩⟩ = cb at *
              have e0 := xR.cell 0 _ rfl
              have e1 := xR.cell 1 _ rfl
              have e2 := xR.cell 2 _ rfl
              have e3 := xR.cell 3 _ rfl
              have e4 := xR.cell 4 _ rfl
              have e5 := xR.cell 5 _ rfl
              have e6 := xR.cell 6 _ rfl
              have f0 := xR.ice 0
              have f1 := xR.ice 1
              have f2 := xR.ice 2
              have f3 := xR.ice 3
              have f4 := xR.ice 4
              have f5 := xR.ice 5
              have f6 := xR.ice 6
              go_wp2
              have zB := ((((((xR.set 0 (.int .i64 (0))).set 1 (.int .i64 (0))).set 2 (.int .i64 (0))).set 3 (.int .i64 (0))).set 4 (.int .i64 (0))).set 5 (.int .i64 (0))).set 6 (.slice none 0 0)
              have hbut := (((((((ButI.refl (w.heap.size) (w8)).step 0 (.int .i64 (0))).step 1 (.int .i64 (0))).step 2 (.int .i64 (0))).step 3 (.int .i64 (0))).step 4 (.int .i64 (0))).step 5 (.int .i64 (0))).step 6 (.slice none 0 0)
              generalize (((((((w8).setCell ⟨w.heap.size, 0, none⟩ (.int .i64 (0))).setCell ⟨w.heap.size, 1, none⟩ (.int .i64 (0))).setCell ⟨w.heap.size, 2, none⟩ (.int .i64 (0))).setCell ⟨w.heap.size, 3, none⟩ (.int .i64 (0))).setCell ⟨w.heap.size, 4, none⟩ (.int .i64 (0))).setCell ⟨w.heap.size, 5, none⟩ (.int .i64 (0))).setCell ⟨w.heap.size, 6, none⟩ (.slice none 0 0) = w99 at *
              have y0 := zB.cell 0 _ rfl
              have y1 := zB.cell 1 _ rfl
              have y2 := zB.cell 2 _ rfl
              have y3 := zB.cell 3 _ rfl
              have y4 := zB.cell 4 _ rfl
              have y5 := zB.cell 5 _ rfl
              have y6 := zB.cell 6 _ rfl
              refine bodyPost_ret (v := .tuple #[RV.zero.v, .int .i64 cb]) (by simp [results, Tryz.results38, go_sem, RV.v, RV.zero, zeroR, zeroC, y0, y1, y2, y3, y4, y5, y6]) rfl ⟨?_, bw.trans hbut.but.low⟩
              rw [HP.out]
              exact .zero rfl
          · have hcb : (er != 0) = true := by simpa using her
            simp only [ne_eq, her, not_false_eq_true, if_true] at HP
            have e0 := xR.cell 0 _ rfl
            have e1 := xR.cell 1 _ rfl
            have e2 := xR.cell 2 _ rfl
            have e3 := xR.cell 3 _ rfl
            have e4 := xR.cell 4 _ rfl
            have e5 := xR.cell 5 _ rfl
            have e6 := xR.cell 6 _ rfl
            have f0 := xR.ice 0
            have f1 := xR.ice 1
            have f2 := xR.ice 2
            have f3 := xR.ice 3
            have f4 := xR.ice 4
            have f5 := xR.ice 5
            have f6 := xR.ice 6
            go_wp2
            have zB := ((((((xR.set 0 (.int .i64 (0))).set 1 (.int .i64 (0))).set 2 (.int .i64 (0))).set 3 (.int .i64 (0))).set 4 (.int .i64 (0))).set 5 (.int .i64 (0))).set 6 (.slice none 0 0)
            have hbut := (((((((ButI.refl (w.heap.size) (w6)).step 0 (.int .i64 (0))).step 1 (.int .i64 (0))).step 2 (.int .i64 (0))).step 3 (.int .i64 (0))).step 4 (.int .i64 (0))).step 5 (.int .i64 (0))).step 6 (.slice none 0 0)
            generalize (((((((w6).setCell ⟨w.heap.size, 0, none⟩ (.int .i64 (0))).setCell ⟨w.heap.size, 1, none⟩ (.int .i64 (0))).setCell ⟨w.heap.size, 2, none⟩ (.int .i64 (0))).setCell ⟨w.heap.size, 3, none⟩ (.int .i64 (0))).setCell ⟨w.heap.size, 4, none⟩ (.int .i64 (0))).setCell ⟨w.heap.size, 5, none⟩ (.int .i64 (0))).setCell ⟨w.heap.size, 6, none⟩ (.slice none 0 0) = w99 at *
            have y0 := zB.cell 0 _ rfl
            have y1 := zB.cell 1 _ rfl
            have y2 := zB.cell 2 _ rfl
            have y3 := zB.cell 3 _ rfl
            have y4 := zB.cell 4 _ rfl
            have y5 := zB.cell 5 _ rfl
            have y6 := zB.cell 6 _ rfl
            refine bodyPost_ret (v := .tuple #[RV.zero.v, .int .i64 er]) (by simp [results, Tryz.results38, go_sem, RV.v, RV.zero, zeroR, zeroC, y0, y1, y2, y3, y4, y5, y6]) rfl ⟨?_, bw.trans hbut.but.low⟩
            rw [HP.out]
            exact .zero rfl

end Go.Proofs.YtcbgkjmcdjpgcaaGreatDoor
