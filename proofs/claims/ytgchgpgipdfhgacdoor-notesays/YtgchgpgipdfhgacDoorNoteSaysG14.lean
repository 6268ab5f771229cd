/- The contract of note.Parse; no condition but that the package-level variables are as their texts lay them. -/
import Derived.Test.YtgchgpgipdfhgacDoorNoteSaysG13
namespace Go.Proofs.YtgchgpgipdfhgacDoor
open Go.RowKit
set_option linter.unusedVariables false
set_option maxRecDepth 100000
set_option linter.unusedSimpArgs false

/-- What Parse answers. -/
def NParseRes (B : Nat) (w' : World) (e : Ending) (r : PR × Int) : Prop := ∃ x : RV, e = .returned (.tuple #[x.v, .int .i64 r.2]) ∧ x.p = r.1 ∧ x.ok w' ∧ ∀ y, x.a = some y → B ≤ y.block
theorem NParseRes.zero {B : Nat} {w' : World} {e : Ending} {i : Int} (h : e = .returned (.tuple #[RV.zero.v, .int .i64 i])) : NParseRes B w' e (zeroR, i) :=
  ⟨RV.zero, h, rfl, RV.zero_ok _, fun y e => by cases e⟩

set_option maxRecDepth 100000 in
set_option maxHeartbeats 4000000 in
theorem NParse_c (s : ByteArray) (w : World) (hE : Env w) (hs : s.size ≤ 9223372036854775807) :
    Calls Tryd.prog 23 #[.string s] w fun e w' => NParseRes w.heap.size w' e (parseR s.data.toList) ∧ Below w.heap.size w w' := by
  by_cases hlong : 60000 < s.size
  · have HR : Hid (parseR s.data.toList = (zeroR, 2)) := hide (by unfold parseR; rw [if_pos (by rw [Lib.size_eq] at hlong; exact hlong)])
    have h1 : (60000 : Int) < (s.size : Int) := by omega
    go_enter Tryd.func23, Tryd.ntmps23
    go_wp2
    refine bodyPost_ret (v := .tuple #[RV.zero.v, .int .i64 2]) (by simp [results, Tryd.results23, go_sem, RV.v, RV.zero, zeroR, zeroC]) rfl ⟨?_, ?_⟩
    · rw [HR.out]
      exact .zero rfl
    · (repeat (first | exact Below.refl _ _ | assumption | refine Below.drew ?_ | refine below_drewN ?_ _ | refine belowA ?_ _ | refine belowT ?_ (by assumption) | refine Below.setCell ?_ (by first | (simp; done) | (simp; omega)) _))
  · have h1 : ¬ (60000 : Int) < (s.size : Int) := by omega
    have hl : s.data.toList.length ≤ 60000 := by rw [Lib.size_eq] at hlong; omega
    have xR := Lay.made w [.int .i64 0, .int .i64 0, .int .i64 0, .int .i64 0, .int .i64 0, .int .i64 0, .slice none 0 0] 54
    have bw : Below w.heap.size w (w.alloc (.cells [.int .i64 0, .int .i64 0, .int .i64 0, .int .i64 0, .int .i64 0, .int .i64 0, .slice none 0 0].toArray 54)) := by (repeat (first | exact Below.refl _ _ | assumption | refine Below.drew ?_ | refine below_drewN ?_ _ | refine belowA ?_ _ | refine belowT ?_ (by assumption) | refine Below.setCell ?_ (by first | (simp; done) | (simp; omega)) _))
    go_enter Tryd.func23, Tryd.ntmps23
    go_wp2_with fail
    refine (head_c s (by omega) _ (hE.below bw)).mono ?_
    rintro e w1 ⟨hres, hb1⟩
    replace xR := xR.below hb1
    replace bw := belowT bw hb1
    clear hb1
    have hlt := xR.lt
    rcases hres with ⟨v, u, t, hh, ht, rfl⟩ | ⟨hh, rfl⟩
    · have HP := hide (parseR_some hl hh)
      clear hh hl
      unfold headV
      go_upto_region 4 with fail
      have xV := Lay.made w1 [.int .i64 v, .int .i64 u, .int .i64 0, .int .i64 0, .int .i64 0, .int .i64 0, .slice none 0 0] 54
      have hb2 : Below w1.heap.size w1 (w1.alloc (.cells [.int .i64 v, .int .i64 u, .int .i64 0, .int .i64 0, .int .i64 0, .int .i64 0, .slice none 0 0].toArray 54)) := by (repeat (first | exact Below.refl _ _ | assumption | refine Below.drew ?_ | refine below_drewN ?_ _ | refine belowA ?_ _ | refine belowT ?_ (by assumption) | refine Below.setCell ?_ (by first | (simp; done) | (simp; omega)) _))
      replace xR := xR.below hb2
      replace bw := belowT bw hb2
      clear hb2
      generalize w1.alloc (.cells [.int .i64 v, .int .i64 u, .int .i64 0, .int .i64 0, .int .i64 0, .int .i64 0, .slice none 0 0].toArray 54) = w2 at *
      go_wp2_with fail
      refine (Parse_c t _ (hE.below bw) (by omega)).mono ?_
      rintro e w3 ⟨⟨aX, nX, rfl, iX, nwX⟩, hb3⟩
      have hV2 := xV.lt
      replace xR := xR.below hb3
      replace xV := xV.below hb3
      replace bw := belowT bw hb3
      have NW := hide nwX
      clear hb3 nwX
      rw [show (⟨t.data.toList.toArray⟩ : ByteArray) = t from rfl] at HP
      generalize parseC t = pr at *
      obtain ⟨⟨k, z, m, tt, d⟩, er⟩ := pr
      unfold cmdV
      dsimp only at *
      have v0 := xV.cell 0 _ rfl
      have v1 := xV.cell 1 _ rfl
      have v2 := xV.cell 2 _ rfl
      have v3 := xV.cell 3 _ rfl
      have v4 := xV.cell 4 _ rfl
      have v5 := xV.cell 5 _ rfl
      have v6 := xV.cell 6 _ rfl
      have i0 := xV.ice 0
      have i1 := xV.ice 1
      have i2 := xV.ice 2
      have i3 := xV.ice 3
      have i4 := xV.ice 4
      have i5 := xV.ice 5
      have i6 := xV.ice 6
      go_upto_region 8 with fail
      have zV := ((((xV.set 2 (.int .i64 k)).set 3 (.int .i64 z)).set 4 (.int .i64 m)).set 5 (.int .i64 tt)).set 6 (.slice aX nX nX)
      have hbV := (((((ButI.refl w1.heap.size w3).step 2 (.int .i64 k)).step 3 (.int .i64 z)).step 4 (.int .i64 m)).step 5 (.int .i64 tt)).step 6 (.slice aX nX nX)
      generalize ((((w3.setCell ⟨w1.heap.size, 2, none⟩ (.int .i64 k)).setCell ⟨w1.heap.size, 3, none⟩ (.int .i64 z)).setCell ⟨w1.heap.size, 4, none⟩ (.int .i64 m)).setCell ⟨w1.heap.size, 5, none⟩ (.int .i64 tt)).setCell ⟨w1.heap.size, 6, none⟩ (.slice aX nX nX) = w4 at *
      clear xV v0 v1 v2 v3 v4 v5 v6 i0 i1 i2 i3 i4 i5 i6
      replace xR := xR.butI hbV (by omega)
      replace bw := bw.trans (hbV.below (Nat.le_of_lt hlt))
      replace iX := Ints.but iX hbV.but (.inr fun x e => by have := NW.out x e; omega)
      clear hbV
      have hxR : Hid (Lay w4 w.heap.size [.int .i64 0, .int .i64 0, .int .i64 0, .int .i64 0, .int .i64 0, .int .i64 0, .slice none 0 0]) := hide xR
      have e0 := xR.cell 0 _ rfl
      have e1 := xR.cell 1 _ rfl
      have e2 := xR.cell 2 _ rfl
      have e3 := xR.cell 3 _ rfl
      have e4 := xR.cell 4 _ rfl
      have e5 := xR.cell 5 _ rfl
      have e6 := xR.cell 6 _ rfl
      have f0 := xR.ice 0
      have f1 := xR.ice 1
      have f2 := xR.ice 2
      have f3 := xR.ice 3
      have f4 := xR.ice 4
      have f5 := xR.ice 5
      have f6 := xR.ice 6
      by_cases her : er = 0
      · subst her
        have HK := hide (fun w' hS h' => NCheck_c ⟨⟨v, u, ⟨k, z, m, tt, d⟩⟩, aX, nX, nX⟩ w' hS h')
        dsimp only [RV.v, RV.ok] at HK
        clear e0 e1 e2 e3 e4 e5 e6 f0 f1 f2 f3 f4 f5 f6
        have g0 := zV.cell 0 _ rfl
        have g1 := zV.cell 1 _ rfl
        have g2 := zV.cell 2 _ rfl
        have g3 := zV.cell 3 _ rfl
        have g4 := zV.cell 4 _ rfl
        have g5 := zV.cell 5 _ rfl
        have g6 := zV.cell 6 _ rfl
        go_wp2_with fail
        refine (HK.out _ (hE.shp.below bw) iX).mono ?_
        rintro e w5 ⟨rfl, hb5⟩
        replace xR := xR.below hb5
        replace zV := zV.below hb5
        replace bw := belowT bw hb5
        replace iX := iX.below hb5 (Nat.le_refl _)
        clear hb5 HK g0 g1 g2 g3 g4 g5 g6
        simp only [ne_eq, not_true_eq_false, if_false] at HP
        by_cases hck : checkR ⟨v, u, ⟨k, z, m, tt, d⟩⟩ = 0
        · rw [hck] at HP ⊢
          simp only [not_true_eq_false, if_false] at HP
          have g0 := zV.cell 0 _ rfl
          have g1 := zV.cell 1 _ rfl
          have g2 := zV.cell 2 _ rfl
          have g3 := zV.cell 3 _ rfl
          have g4 := zV.cell 4 _ rfl
          have g5 := zV.cell 5 _ rfl
          have g6 := zV.cell 6 _ rfl
          have e0 := xR.cell 0 _ rfl
          have e1 := xR.cell 1 _ rfl
          have e2 := xR.cell 2 _ rfl
          have e3 := xR.cell 3 _ rfl
          have e4 := xR.cell 4 _ rfl
          have e5 := xR.cell 5 _ rfl
          have e6 := xR.cell 6 _ rfl
          have f0 := xR.ice 0
          have f1 := xR.ice 1
          have f2 := xR.ice 2
          have f3 := xR.ice 3
          have f4 := xR.ice 4
          have f5 := xR.ice 5
          have f6 := xR.ice 6
          go_wp2
          have zB := ((((((xR.set 0 (.int .i64 (v))).set 1 (.int .i64 (u))).set 2 (.int .i64 (k))).set 3 (.int .i64 (z))).set 4 (.int .i64 (m))).set 5 (.int .i64 (tt))).set 6 (.slice aX nX nX)
          have hbut := (((((((ButI.refl (w.heap.size) (w5)).step 0 (.int .i64 (v))).step 1 (.int .i64 (u))).step 2 (.int .i64 (k))).step 3 (.int .i64 (z))).step 4 (.int .i64 (m))).step 5 (.int .i64 (tt))).step 6 (.slice aX nX nX)
          generalize (((((((w5).setCell ⟨w.heap.size, 0, none⟩ (.int .i64 (v))).setCell ⟨w.heap.size, 1, none⟩ (.int .i64 (u))).setCell ⟨w.heap.size, 2, none⟩ (.int .i64 (k))).setCell ⟨w.heap.size, 3, none⟩ (.int .i64 (z))).setCell ⟨w.heap.size, 4, none⟩ (.int .i64 (m))).setCell ⟨w.heap.size, 5, none⟩ (.int .i64 (tt))).setCell ⟨w.heap.size, 6, none⟩ (.slice aX nX nX) = w99 at *
          have y0 := zB.cell 0 _ rfl
          have y1 := zB.cell 1 _ rfl
          have y2 := zB.cell 2 _ rfl
          have y3 := zB.cell 3 _ rfl
          have y4 := zB.cell 4 _ rfl
          have y5 := zB.cell 5 _ rfl
          have y6 := zB.cell 6 _ rfl
          refine bodyPost_ret (v := .tuple #[.agg #[.int .i64 v, .int .i64 u, .int .i64 k, .int .i64 z, .int .i64 m, .int .i64 tt, .slice aX nX nX], .int .i64 0]) (by simp [results, Tryd.results23, go_sem, y0, y1, y2, y3, y4, y5, y6]) rfl ⟨?_, bw.trans hbut.but.low⟩
          rw [HP.out]
          exact ⟨⟨⟨v, u, ⟨k, z, m, tt, d⟩⟩, aX, nX, nX⟩, rfl, rfl, Ints.but iX hbut.but (.inr fun x e => by have := NW.out x e; omega), fun x e => by have := NW.out x e; omega⟩
        · have hcb : (checkR ⟨v, u, ⟨k, z, m, tt, d⟩⟩ != 0) = true := by simpa using hck
          rw [if_pos hck] at HP
          generalize checkR ⟨v, u, ⟨k, z, m, tt, d⟩⟩ = cb at *
          have e0 := xR.cell 0 _ rfl
          have e1 := xR.cell 1 _ rfl
          have e2 := xR.cell 2 _ rfl
          have e3 := xR.cell 3 _ rfl
          have e4 := xR.cell 4 _ rfl
          have e5 := xR.cell 5 _ rfl
          have e6 := xR.cell 6 _ rfl
          have f0 := xR.ice 0
          have f1 := xR.ice 1
          have f2 := xR.ice 2
          have f3 := xR.ice 3
          have f4 := xR.ice 4
          have f5 := xR.ice 5
          have f6 := xR.ice 6
          go_wp2
          have zB := ((((((xR.set 0 (.int .i64 (0))).set 1 (.int .i64 (0))).set 2 (.int .i64 (0))).set 3 (.int .i64 (0))).set 4 (.int .i64 (0))).set 5 (.int .i64 (0))).set 6 (.slice none 0 0)
          have hbut := (((((((ButI.refl (w.heap.size) (w5)).step 0 (.int .i64 (0))).step 1 (.int .i64 (0))).step 2 (.int .i64 (0))).step 3 (.int .i64 (0))).step 4 (.int .i64 (0))).step 5 (.int .i64 (0))).step 6 (.slice none 0 0)
          generalize (((((((w5).setCell ⟨w.heap.size, 0, none⟩ (.int .i64 (0))).setCell ⟨w.heap.size, 1, none⟩ (.int .i64 (0))).setCell ⟨w.heap.size, 2, none⟩ (.int .i64 (0))).setCell ⟨w.heap.size, 3, none⟩ (.int .i64 (0))).setCell ⟨w.heap.size, 4, none⟩ (.int .i64 (0))).setCell ⟨w.heap.size, 5, none⟩ (.int .i64 (0))).setCell ⟨w.heap.size, 6, none⟩ (.slice none 0 0) = w99 at *
          have y0 := zB.cell 0 _ rfl
          have y1 := zB.cell 1 _ rfl
          have y2 := zB.cell 2 _ rfl
          have y3 := zB.cell 3 _ rfl
          have y4 := zB.cell 4 _ rfl
          have y5 := zB.cell 5 _ rfl
          have y6 := zB.cell 6 _ rfl
          refine bodyPost_ret (v := .tuple #[RV.zero.v, .int .i64 cb]) (by simp [results, Tryd.results23, go_sem, RV.v, RV.zero, zeroR, zeroC, y0, y1, y2, y3, y4, y5, y6]) rfl ⟨?_, bw.trans hbut.but.low⟩
          rw [HP.out]
          exact .zero rfl
      · have hcb : (er != 0) = true := by simpa using her
        simp only [ne_eq, her, not_false_eq_true, if_true] at HP
        go_wp2
        have zB := ((((((xR.set 0 (.int .i64 (0))).set 1 (.int .i64 (0))).set 2 (.int .i64 (0))).set 3 (.int .i64 (0))).set 4 (.int .i64 (0))).set 5 (.int .i64 (0))).set 6 (.slice none 0 0)
        have hbut := (((((((ButI.refl (w.heap.size) (w4)).step 0 (.int .i64 (0))).step 1 (.int .i64 (0))).step 2 (.int .i64 (0))).step 3 (.int .i64 (0))).step 4 (.int .i64 (0))).step 5 (.int .i64 (0))).step 6 (.slice none 0 0)
        generalize (((((((w4).setCell ⟨w.heap.size, 0, none⟩ (.int .i64 (0))).setCell ⟨w.heap.size, 1, none⟩ (.int .i64 (0))).setCell ⟨w.heap.size, 2, none⟩ (.int .i64 (0))).setCell ⟨w.heap.size, 3, none⟩ (.int .i64 (0))).setCell ⟨w.heap.size, 4, none⟩ (.int .i64 (0))).setCell ⟨w.heap.size, 5, none⟩ (.int .i64 (0))).setCell ⟨w.heap.size, 6, none⟩ (.slice none 0 0) = w99 at *
        have y0 := zB.cell 0 _ rfl
        have y1 := zB.cell 1 _ rfl
        have y2 := zB.cell 2 _ rfl
        have y3 := zB.cell 3 _ rfl
        have y4 := zB.cell 4 _ rfl
        have y5 := zB.cell 5 _ rfl
        have y6 := zB.cell 6 _ rfl
        refine bodyPost_ret (v := .tuple #[RV.zero.v, .int .i64 er]) (by simp [results, Tryd.results23, go_sem, RV.v, RV.zero, zeroR, zeroC, y0, y1, y2, y3, y4, y5, y6]) rfl ⟨?_, bw.trans hbut.but.low⟩
        rw [HP.out]
        exact .zero rfl
    · have HP := hide (parseR_none hl hh)
      clear hh hl
      unfold headV
      go_upto_region 4 with fail
      have hb2 : Below w1.heap.size w1 (w1.alloc (.cells #[.int .i64 0, .int .i64 0, .int .i64 0, .int .i64 0, .int .i64 0, .int .i64 0, .slice none 0 0] 54)) := by (repeat (first | exact Below.refl _ _ | assumption | refine Below.drew ?_ | refine below_drewN ?_ _ | refine belowA ?_ _ | refine belowT ?_ (by assumption) | refine Below.setCell ?_ (by first | (simp; done) | (simp; omega)) _))
      replace xR := xR.below hb2
      replace bw := belowT bw hb2
      clear hb2
      generalize w1.alloc (.cells #[.int .i64 0, .int .i64 0, .int .i64 0, .int .i64 0, .int .i64 0, .int .i64 0, .slice none 0 0] 54) = w2 at *
      have e0 := xR.cell 0 _ rfl
      have e1 := xR.cell 1 _ rfl
      have e2 := xR.cell 2 _ rfl
      have e3 := xR.cell 3 _ rfl
      have e4 := xR.cell 4 _ rfl
      have e5 := xR.cell 5 _ rfl
      have e6 := xR.cell 6 _ rfl
      have f0 := xR.ice 0
      have f1 := xR.ice 1
      have f2 := xR.ice 2
      have f3 := xR.ice 3
      have f4 := xR.ice 4
      have f5 := xR.ice 5
      have f6 := xR.ice 6
      go_wp2
      have zB := ((((((xR.set 0 (.int .i64 (0))).set 1 (.int .i64 (0))).set 2 (.int .i64 (0))).set 3 (.int .i64 (0))).set 4 (.int .i64 (0))).set 5 (.int .i64 (0))).set 6 (.slice none 0 0)
      have hbut := (((((((ButI.refl (w.heap.size) (w2)).step 0 (.int .i64 (0))).step 1 (.int .i64 (0))).step 2 (.int .i64 (0))).step 3 (.int .i64 (0))).step 4 (.int .i64 (0))).step 5 (.int .i64 (0))).step 6 (.slice none 0 0)
      generalize (((((((w2).setCell ⟨w.heap.size, 0, none⟩ (.int .i64 (0))).setCell ⟨w.heap.size, 1, none⟩ (.int .i64 (0))).setCell ⟨w.heap.size, 2, none⟩ (.int .i64 (0))).setCell ⟨w.heap.size, 3, none⟩ (.int .i64 (0))).setCell ⟨w.heap.size, 4, none⟩ (.int .i64 (0))).setCell ⟨w.heap.size, 5, none⟩ (.int .i64 (0))).setCell ⟨w.heap.size, 6, none⟩ (.slice none 0 0) = w99 at *
      have y0 := zB.cell 0 _ rfl
      have y1 := zB.cell 1 _ rfl
      have y2 := zB.cell 2 _ rfl
      have y3 := zB.cell 3 _ rfl
      have y4 := zB.cell 4 _ rfl
      have y5 := zB.cell 5 _ rfl
      have y6 := zB.cell 6 _ rfl
      refine bodyPost_ret (v := .tuple #[RV.zero.v, .int .i64 1]) (by simp [results, Tryd.results23, go_sem, RV.v, RV.zero, zeroR, zeroC, y0, y1, y2, y3, y4, y5, y6]) rfl ⟨?_, bw.trans hbut.but.low⟩
      rw [HP.out]
      exact .zero rfl

end Go.Proofs.YtgchgpgipdfhgacDoor

/- The law's closed fact on records as texts holds, wherever the package-level variables are as their texts lay them. -/
namespace Go.Proofs.YtgchgpgipdfhgacDoor
open Go.RowKit
set_option linter.unusedVariables false
set_option maxRecDepth 100000
set_option linter.unusedSimpArgs false

theorem textR_l : textR ⟨1, 3, ⟨5, 2, 0, 0, [7]⟩⟩ = [49, 32, 51, 58, 32, 97, 112, 112, 101, 110, 100, 32, 50, 32, 55] := by decide +kernel
theorem printR_l : printR ⟨1, 3, ⟨5, 2, 0, 0, [7]⟩⟩ = ([49, 32, 51, 58, 32, 97, 112, 112, 101, 110, 100, 32, 50, 32, 55], 0) := by
  unfold printR
  rw [if_pos (by decide), textR_l]
theorem parseR_l : parseR (⟨#[49, 32, 51, 58, 32, 97, 112, 112, 101, 110, 100, 32, 50, 32, 55]⟩ : ByteArray).data.toList = (⟨1, 3, ⟨5, 2, 0, 0, [7]⟩⟩, 0) := by
  have h := parse_textR (r := ⟨1, 3, ⟨5, 2, 0, 0, [7]⟩⟩) (by decide)
  rw [textR_l] at h
  exact h
theorem parseR_z : parseR (⟨#[49, 32, 48, 58, 32, 99, 108, 101, 97, 114]⟩ : ByteArray).data.toList = (zeroR, 3) := by
  have hp : parseC ⟨([99, 108, 101, 97, 114] : List UInt8).toArray⟩ = (⟨12, 0, 0, 0, []⟩, 0) := by
    have h := parse_text (b := ⟨12, 0, 0, 0, []⟩) (by decide)
    rw [show textC ⟨12, 0, 0, 0, []⟩ = [99, 108, 101, 97, 114] by decide +kernel] at h
    exact h
  rw [parseR_some (t := [99, 108, 101, 97, 114]) (v := 1) (u := 0) (by decide) (by decide +kernel), hp, if_neg (by simp), if_pos (by decide)]
  rfl

set_option maxRecDepth 100000 in
set_option maxHeartbeats 2000000 in
theorem lined_c (w : World) (hE : Env w) : Calls Tryd.prog 25 #[] w fun e w' => e = .returned (.bool true) ∧ Below w.heap.size w w' := by
  have hP := fun a n c w' hE h => NPrint_c ⟨⟨1, 3, ⟨5, 2, 0, 0, [7]⟩⟩, a, n, c⟩ w' hE h
  have hR1 := fun w' hE => NParse_c ⟨#[49, 32, 51, 58, 32, 97, 112, 112, 101, 110, 100, 32, 50, 32, 55]⟩ w' hE (by decide)
  have hR2 := fun w' hE => NParse_c ⟨#[49, 32, 48, 58, 32, 99, 108, 101, 97, 114]⟩ w' hE (by decide)
  have hS := fun a1 n1 c1 a2 n2 c2 w' h1 h2 => NSame_c ⟨⟨1, 3, ⟨5, 2, 0, 0, [7]⟩⟩, a1, n1, c1⟩ ⟨⟨1, 3, ⟨5, 2, 0, 0, [7]⟩⟩, a2, n2, c2⟩ w' h1 h2
  dsimp only [RV.v, RV.ok] at hP hS
  rw [printR_l] at hP
  rw [parseR_l] at hR1
  rw [parseR_z] at hR2
  rw [(sameR_iff _ _).2 rfl] at hS
  unfold textV at hP
  dsimp only at hP
  have HP := hide hP
  have HR1 := hide hR1
  have HR2 := hide hR2
  have HS := hide hS
  clear hP hR1 hR2 hS
  go_enter Tryd.func25, Tryd.ntmps25
  go_upto_region 2 with fail
  have xV := Lay.made1 w (.cells #[.int .i64 7] 3) [.int .i64 1, .int .i64 3, .int .i64 5, .int .i64 2, .int .i64 0, .int .i64 0, .slice (some ⟨w.heap.size, 0, none⟩) 1 1] 54
  have bw : Below w.heap.size w ((w.alloc (.cells #[.int .i64 7] 3)).alloc (.cells [.int .i64 1, .int .i64 3, .int .i64 5, .int .i64 2, .int .i64 0, .int .i64 0, .slice (some ⟨w.heap.size, 0, none⟩) 1 1].toArray 54)) := by (repeat (first | exact Below.refl _ _ | assumption | refine Below.drew ?_ | refine below_drewN ?_ _ | refine belowA ?_ _ | refine belowT ?_ (by assumption) | refine Below.setCell ?_ (by first | (simp; done) | (simp; omega)) _))
  have i0 : Ints ((w.alloc (.cells #[.int .i64 7] 3)).alloc (.cells [.int .i64 1, .int .i64 3, .int .i64 5, .int .i64 2, .int .i64 0, .int .i64 0, .slice (some ⟨w.heap.size, 0, none⟩) 1 1].toArray 54)) (some ⟨w.heap.size, 0, none⟩) 1 1 [7] :=
    Ints.below (Ints.of_row (l := [7]) (heap_new w _) (by decide) (by decide) rfl) (B := (w.alloc (.cells #[.int .i64 7] 3)).heap.size) (by (repeat (first | exact Below.refl _ _ | assumption | refine Below.drew ?_ | refine below_drewN ?_ _ | refine belowA ?_ _ | refine belowT ?_ (by assumption) | refine Below.setCell ?_ (by first | (simp; done) | (simp; omega)) _))) (Nat.le_refl _)
  generalize (w.alloc (.cells #[.int .i64 7] 3)).alloc (.cells [.int .i64 1, .int .i64 3, .int .i64 5, .int .i64 2, .int .i64 0, .int .i64 0, .slice (some ⟨w.heap.size, 0, none⟩) 1 1].toArray 54) = w0 at *
  have e0 := xV.cell 0 _ rfl
  have e1 := xV.cell 1 _ rfl
  have e2 := xV.cell 2 _ rfl
  have e3 := xV.cell 3 _ rfl
  have e4 := xV.cell 4 _ rfl
  have e5 := xV.cell 5 _ rfl
  have e6 := xV.cell 6 _ rfl
  have f0 := xV.ice 0
  have f1 := xV.ice 1
  have f2 := xV.ice 2
  have f3 := xV.ice 3
  have f4 := xV.ice 4
  have f5 := xV.ice 5
  have f6 := xV.ice 6
  go_wp2_with fail
  refine (HP.out _ _ _ _ (hE.below bw) i0).mono ?_
  rintro e w1 ⟨rfl, hb1⟩
  replace xV := xV.below hb1
  replace bw := belowT bw hb1
  replace i0 := i0.below hb1 (Nat.le_refl _)
  clear hb1 e0 e1 e2 e3 e4 e5 e6 f0 f1 f2 f3 f4 f5 f6
  go_wp2_with fail
  refine (HR1.out _ (hE.below bw)).mono ?_
  rintro e w2 ⟨⟨⟨px, ax, nx, cx⟩, rfl, pX, iX, _⟩, hb2⟩
  dsimp only at pX
  subst pX
  dsimp only [RV.v, RV.ok] at iX ⊢
  replace xV := xV.below hb2
  replace bw := belowT bw hb2
  replace i0 := i0.below hb2 (Nat.le_refl _)
  clear hb2
  go_upto_region 4 with fail
  have xX := Lay.made w2 [.int .i64 1, .int .i64 3, .int .i64 5, .int .i64 2, .int .i64 0, .int .i64 0, .slice ax nx cx] 54
  have hb3 : Below w2.heap.size w2 (w2.alloc (.cells [.int .i64 1, .int .i64 3, .int .i64 5, .int .i64 2, .int .i64 0, .int .i64 0, .slice ax nx cx].toArray 54)) := by (repeat (first | exact Below.refl _ _ | assumption | refine Below.drew ?_ | refine below_drewN ?_ _ | refine belowA ?_ _ | refine belowT ?_ (by assumption) | refine Below.setCell ?_ (by first | (simp; done) | (simp; omega)) _))
  replace xV := xV.below hb3
  replace bw := belowT bw hb3
  replace i0 := i0.below hb3 (Nat.le_refl _)
  replace iX := iX.below hb3 (Nat.le_refl _)
  clear hb3
  generalize w2.alloc (.cells [.int .i64 1, .int .i64 3, .int .i64 5, .int .i64 2, .int .i64 0, .int .i64 0, .slice ax nx cx].toArray 54) = w3 at *
  go_wp2_with fail
  refine (HR2.out _ (hE.below bw)).mono ?_
  rintro e w4 ⟨⟨⟨pz, az, nz, cz⟩, rfl, pZ, iZ, _⟩, hb4⟩
  dsimp only at pZ
  subst pZ
  dsimp only [RV.v, zeroR, zeroC] at iZ ⊢
  replace xV := xV.below hb4
  replace xX := xX.below hb4
  replace bw := belowT bw hb4
  replace i0 := i0.below hb4 (Nat.le_refl _)
  replace iX := iX.below hb4 (Nat.le_refl _)
  clear hb4 iZ
  go_upto_region 5 with fail
  have hb5 : Below w4.heap.size w4 (w4.alloc (.cells #[.int .i64 0, .int .i64 0, .int .i64 0, .int .i64 0, .int .i64 0, .int .i64 0, .slice az nz cz] 54)) := by (repeat (first | exact Below.refl _ _ | assumption | refine Below.drew ?_ | refine below_drewN ?_ _ | refine belowA ?_ _ | refine belowT ?_ (by assumption) | refine Below.setCell ?_ (by first | (simp; done) | (simp; omega)) _))
  replace xV := xV.below hb5
  replace xX := xX.below hb5
  replace bw := belowT bw hb5
  replace i0 := i0.below hb5 (Nat.le_refl _)
  replace iX := iX.below hb5 (Nat.le_refl _)
  clear hb5
  generalize w4.alloc (.cells #[.int .i64 0, .int .i64 0, .int .i64 0, .int .i64 0, .int .i64 0, .int .i64 0, .slice az nz cz] 54) = w5 at *
  have e0 := xV.cell 0 _ rfl
  have e1 := xV.cell 1 _ rfl
  have e2 := xV.cell 2 _ rfl
  have e3 := xV.cell 3 _ rfl
  have e4 := xV.cell 4 _ rfl
  have e5 := xV.cell 5 _ rfl
  have e6 := xV.cell 6 _ rfl
  have f0 := xV.ice 0
  have f1 := xV.ice 1
  have f2 := xV.ice 2
  have f3 := xV.ice 3
  have f4 := xV.ice 4
  have f5 := xV.ice 5
  have f6 := xV.ice 6
  have g0 := xX.cell 0 _ rfl
  have g1 := xX.cell 1 _ rfl
  have g2 := xX.cell 2 _ rfl
  have g3 := xX.cell 3 _ rfl
  have g4 := xX.cell 4 _ rfl
  have g5 := xX.cell 5 _ rfl
  have g6 := xX.cell 6 _ rfl
  have r0 := xX.ice 0
  have r1 := xX.ice 1
  have r2 := xX.ice 2
  have r3 := xX.ice 3
  have r4 := xX.ice 4
  have r5 := xX.ice 5
  have r6 := xX.ice 6
  have q1 : ((⟨#[49, 32, 51, 58, 32, 97, 112, 112, 101, 110, 100, 32, 50, 32, 55]⟩ : ByteArray) == ⟨#[49, 32, 51, 58, 32, 97, 112, 112, 101, 110, 100, 32, 50, 32, 55]⟩) = true := beq_t rfl
  go_wp2_with fail
  refine (HS.out _ _ _ _ _ _ _ iX i0).mono ?_
  rintro e w7 ⟨rfl, hb7⟩
  go_wp2
  go_ret
  exact ⟨rfl, by (repeat (first | exact Below.refl _ _ | assumption | refine Below.drew ?_ | refine below_drewN ?_ _ | refine belowA ?_ _ | refine belowT ?_ (by assumption) | refine Below.setCell ?_ (by first | (simp; done) | (simp; omega)) _))⟩

end Go.Proofs.YtgchgpgipdfhgacDoor
