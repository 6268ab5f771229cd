/- The contract of the document's own Asks; no condition but that the arguments read as data. -/
import Derived.Test.YtklabieacbbbfaaDoorNU8
import Derived.Test.YtklabieacbbbfaaDoorNU6
import Derived.Test.YtklabieacbbbfaaDoorNU4
import Derived.Test.YtklabieacbbbfaaDoorNU2
import Derived.Test.YtklabieacbbbfaaDoorNU5
import Derived.Deep.RegionHeld3
import Derived.Test.YtklabieacbbbfaaDoorNU1
namespace Go.Proofs.YtklabieacbbbfaaDoor
open Go.RowKit
set_option linter.unusedVariables false
set_option maxRecDepth 100000
set_option linter.unusedSimpArgs false

/-- What a call answers: a hand, an error; what was there may be shared. -/
def Handed (o : Nat → Prop) (r : PN × Int) (w : World) (e : Ending) (w' : World) : Prop :=
  (∃ h' : NV, e = .returned (.tuple #[h'.v, .int .i64 r.2]) ∧ h'.ok w' ∧ (∀ R, R < w.heap.size → o R → h'.off R) ∧ h'.p = r.1) ∧ Below w.heap.size w w'
/-- A slice that doesn't lie in block R. -/
def farS (n : Nat) (a : Option Addr) (R : Nat) : Prop := n = 0 ∨ ∀ y, a = some y → y.block ≠ R

set_option maxRecDepth 100000 in
set_option maxHeartbeats 4000000 in
theorem AsksR_c (h : NV) (a : Option Addr) (n c : Nat) (b : PC) (w : World) (hk : h.ok w) (hb : Ints w a n c b.d) : Calls Tryd.prog 8 #[h.v, cmdV a n c b] w fun e w' => Handed (fun R => h.off R ∧ farS n a R) (askN h.p b) w e w' := by
  have HK := hide (fun w' h' => CheckHandR_c h w' h')
  have HC := hide (fun w' h' => CheckCmd_c a n c b w' h')
  have HA : Hid (askN h.p b = if checkN h.p ≠ 0 then (zeroN, checkN h.p) else if checkC b ≠ 0 then (zeroN, checkC b) else if h.w then (zeroN, 6) else if 40 ≤ h.s then (zeroN, 2) else (⟨h.s + 1, true, b, h.G.map AV.p⟩, 0)) := hide rfl
  have HB : Hid (checkN h.p = 0 → 0 ≤ h.s ∧ h.s ≤ 40) := hide (fun e => (checkN_ok e).1)
  obtain ⟨x0, x1, x2, bw⟩ := three_boxes w h.cells [.int .i64 b.k, .int .i64 b.z, .int .i64 b.n, .int .i64 b.at', .slice a n c] NV.zero.cells 27 24 27
  have hok := hk.below bw (Nat.le_refl _)
  have hbk := hb.below bw (Nat.le_refl _)
  have hoR : ∀ R, w.heap.size ≤ R → h.off R ∧ farS n a R := fun R hR => ⟨hk.off hR, Ints.offs hb hR⟩
  generalize askN h.p b = na at *
  generalize checkN h.p = ch at *
  generalize checkC b = cb at *
  rw [show h.v = .agg h.cells.toArray from rfl] at *
  obtain ⟨s, v, ⟨k, z, u, t, d⟩, ca, cn, cc, ga, gn, gc, G⟩ := h
  obtain ⟨k', z', u', t', d'⟩ := b
  dsimp only [NV.cells, cmdV, NV.zero, zeroC] at *
  have q0 := x0.cell 0 _ rfl
  have q1 := x0.cell 1 _ rfl
  have q2 := x0.cell 2 _ rfl
  have q3 := x0.cell 3 _ rfl
  have q4 := x0.cell 4 _ rfl
  have q5 := x0.cell 5 _ rfl
  have q6 := x0.cell 6 _ rfl
  have q7 := x0.cell 7 _ rfl
  have p0 := x0.ice 0
  have p1 := x0.ice 1
  have p2 := x0.ice 2
  have p3 := x0.ice 3
  have p4 := x0.ice 4
  have p5 := x0.ice 5
  have p6 := x0.ice 6
  have p7 := x0.ice 7
  go_enter Tryd.func8, Tryd.ntmps8
  go_wp2_with fail
  refine (HK.out _ hok).mono ?_
  rintro e w1 ⟨rfl, hb1⟩
  replace x0 := x0.below hb1
  replace x1 := x1.below hb1
  replace x2 := x2.below hb1
  replace hok := hok.below hb1 (Nat.le_refl _)
  replace hbk := hbk.below hb1 (Nat.le_refl _)
  replace bw := belowT bw hb1
  clear hb1 q0 q1 q2 q3 q4 q5 q6 q7 p0 p1 p2 p3 p4 p5 p6 p7 HK
  cases h0 : ch != 0
  · have hc0 : Hid (ch = 0) := hide (by simpa using h0)
    have r0 := x1.cell 0 _ rfl
    have r1 := x1.cell 1 _ rfl
    have r2 := x1.cell 2 _ rfl
    have r3 := x1.cell 3 _ rfl
    have r4 := x1.cell 4 _ rfl
    have h0' : (ch == 0) = true := by simpa using h0
    go_wp2_with fail
    refine (HC.out _ hbk).mono ?_
    rintro e w2 ⟨rfl, hb2⟩
    replace x0 := x0.below hb2
    replace x1 := x1.below hb2
    replace x2 := x2.below hb2
    replace hok := hok.below hb2 (Nat.le_refl _)
    replace hbk := hbk.below hb2 (Nat.le_refl _)
    replace bw := belowT bw hb2
    clear hb2 r0 r1 r2 r3 r4 HC
    cases h1 : cb != 0
    · have hc1 : Hid (cb = 0) := hide (by simpa using h1)
      have q0 := x0.cell 0 _ rfl
      have q1 := x0.cell 1 _ rfl
      have q2 := x0.cell 2 _ rfl
      have q3 := x0.cell 3 _ rfl
      have q4 := x0.cell 4 _ rfl
      have q5 := x0.cell 5 _ rfl
      have q6 := x0.cell 6 _ rfl
      have q7 := x0.cell 7 _ rfl
      have p0 := x0.ice 0
      have p1 := x0.ice 1
      have p2 := x0.ice 2
      have p3 := x0.ice 3
      have p4 := x0.ice 4
      have p5 := x0.ice 5
      have p6 := x0.ice 6
      have p7 := x0.ice 7
      cases v
      · by_cases h40 : 40 ≤ s
        · have HE : Hid (na = (zeroN, 2)) := hide (by rw [HA.out, if_neg (by simp [hc0.out]), if_neg (by simp [hc1.out]), if_neg (by simp), if_pos h40])
          have okh := NV.zero_ok w2
          have offh : ∀ R, R ≤ w.heap.size + 1 + 1 → NV.off R ⟨s, false, ⟨k, z, u, t, d⟩, ca, cn, cc, ga, gn, gc, G⟩ ∧ farS n a R → NV.off R NV.zero := fun R _ _ => NV.zero_off R
          have e0 := x2.cell 0 _ rfl
          have e1 := x2.cell 1 _ rfl
          have e2 := x2.cell 2 _ rfl
          have e3 := x2.cell 3 _ rfl
          have e4 := x2.cell 4 _ rfl
          have e5 := x2.cell 5 _ rfl
          have e6 := x2.cell 6 _ rfl
          have e7 := x2.cell 7 _ rfl
          have f0 := x2.ice 0
          have f1 := x2.ice 1
          have f2 := x2.ice 2
          have f3 := x2.ice 3
          have f4 := x2.ice 4
          have f5 := x2.ice 5
          have f6 := x2.ice 6
          have f7 := x2.ice 7
          go_wp2
          have zB := ((((((((x2.set 0 (.int .i64 0)).set 1 (.bool false)).set 2 (.int .i64 0)).set 3 (.int .i64 0)).set 4 (.int .i64 0)).set 5 (.int .i64 0)).set 6 (.slice none 0 0)).set 7 (.slice none 0 0))
          have hbut := (((((((((ButI.refl (w.heap.size + 1 + 1) w2).step 0 (.int .i64 0)).step 1 (.bool false)).step 2 (.int .i64 0)).step 3 (.int .i64 0)).step 4 (.int .i64 0)).step 5 (.int .i64 0)).step 6 (.slice none 0 0)).step 7 (.slice none 0 0))
          generalize ((((((((w2.setCell ⟨w.heap.size + 1 + 1, 0, none⟩ (.int .i64 0)).setCell ⟨w.heap.size + 1 + 1, 1, none⟩ (.bool false)).setCell ⟨w.heap.size + 1 + 1, 2, none⟩ (.int .i64 0)).setCell ⟨w.heap.size + 1 + 1, 3, none⟩ (.int .i64 0)).setCell ⟨w.heap.size + 1 + 1, 4, none⟩ (.int .i64 0)).setCell ⟨w.heap.size + 1 + 1, 5, none⟩ (.int .i64 0)).setCell ⟨w.heap.size + 1 + 1, 6, none⟩ (.slice none 0 0)).setCell ⟨w.heap.size + 1 + 1, 7, none⟩ (.slice none 0 0)) = w99 at *
          have z0 := zB.cell 0 _ rfl
          have z1 := zB.cell 1 _ rfl
          have z2 := zB.cell 2 _ rfl
          have z3 := zB.cell 3 _ rfl
          have z4 := zB.cell 4 _ rfl
          have z5 := zB.cell 5 _ rfl
          have z6 := zB.cell 6 _ rfl
          have z7 := zB.cell 7 _ rfl
          have o9 := okh.but hbut.but (offh _ (by omega) (hoR _ (by omega)))
          refine bodyPost_ret (v := .tuple #[.agg #[.int .i64 0, .bool false, .int .i64 0, .int .i64 0, .int .i64 0, .int .i64 0, .slice none 0 0, .slice none 0 0], .int .i64 2]) (by simp [results, Tryd.results8, go_sem, z0, z1, z2, z3, z4, z5, z6, z7]) rfl ⟨⟨NV.zero, ?_, o9, fun R hR ho => offh R (by omega) ho, ?_⟩, bw.trans (hbut.below (B := w.heap.size) (by omega))⟩
          · rw [HE.out]; rfl
          · rw [HE.out]; rfl
        · have HE : Hid (na = (⟨s + 1, true, ⟨k', z', u', t', d'⟩, G.map AV.p⟩, 0)) := hide (by rw [HA.out, if_neg (by simp [hc0.out]), if_neg (by simp [hc1.out]), if_neg (by simp), if_neg h40])
          have hbs := HB.out hc0.out
          have hwr : IntKind.i64.wrap (s + 1) = s + 1 := IntWalk.i64_in _ ⟨by omega, by omega⟩
          have h40' : ¬ (40 : Int) ≤ s := h40
          clear hbs
          have okh : NV.ok w2 ⟨s + 1, true, ⟨k', z', u', t', d'⟩, a, n, c, ga, gn, gc, G⟩ := ⟨hbk, hok.g⟩
          have offh : ∀ R, R ≤ w.heap.size + 1 + 1 → NV.off R ⟨s, false, ⟨k, z, u, t, d⟩, ca, cn, cc, ga, gn, gc, G⟩ ∧ farS n a R → NV.off R ⟨s + 1, true, ⟨k', z', u', t', d'⟩, a, n, c, ga, gn, gc, G⟩ := fun R _ o => ⟨o.2, o.1.a, o.1.g⟩
          have r0 := x1.cell 0 _ rfl
          have r1 := x1.cell 1 _ rfl
          have r2 := x1.cell 2 _ rfl
          have r3 := x1.cell 3 _ rfl
          have r4 := x1.cell 4 _ rfl
          have e0 := x2.cell 0 _ rfl
          have e1 := x2.cell 1 _ rfl
          have e2 := x2.cell 2 _ rfl
          have e3 := x2.cell 3 _ rfl
          have e4 := x2.cell 4 _ rfl
          have e5 := x2.cell 5 _ rfl
          have e6 := x2.cell 6 _ rfl
          have e7 := x2.cell 7 _ rfl
          have f0 := x2.ice 0
          have f1 := x2.ice 1
          have f2 := x2.ice 2
          have f3 := x2.ice 3
          have f4 := x2.ice 4
          have f5 := x2.ice 5
          have f6 := x2.ice 6
          have f7 := x2.ice 7
          go_wp2
          have zB := ((((((((x2.set 0 (.int .i64 (s + 1))).set 1 (.bool true)).set 2 (.int .i64 k')).set 3 (.int .i64 z')).set 4 (.int .i64 u')).set 5 (.int .i64 t')).set 6 (.slice a n c)).set 7 (.slice ga gn gc))
          have hbut := (((((((((ButI.refl (w.heap.size + 1 + 1) w2).step 0 (.int .i64 (s + 1))).step 1 (.bool true)).step 2 (.int .i64 k')).step 3 (.int .i64 z')).step 4 (.int .i64 u')).step 5 (.int .i64 t')).step 6 (.slice a n c)).step 7 (.slice ga gn gc))
          generalize ((((((((w2.setCell ⟨w.heap.size + 1 + 1, 0, none⟩ (.int .i64 (s + 1))).setCell ⟨w.heap.size + 1 + 1, 1, none⟩ (.bool true)).setCell ⟨w.heap.size + 1 + 1, 2, none⟩ (.int .i64 k')).setCell ⟨w.heap.size + 1 + 1, 3, none⟩ (.int .i64 z')).setCell ⟨w.heap.size + 1 + 1, 4, none⟩ (.int .i64 u')).setCell ⟨w.heap.size + 1 + 1, 5, none⟩ (.int .i64 t')).setCell ⟨w.heap.size + 1 + 1, 6, none⟩ (.slice a n c)).setCell ⟨w.heap.size + 1 + 1, 7, none⟩ (.slice ga gn gc)) = w99 at *
          have z0 := zB.cell 0 _ rfl
          have z1 := zB.cell 1 _ rfl
          have z2 := zB.cell 2 _ rfl
          have z3 := zB.cell 3 _ rfl
          have z4 := zB.cell 4 _ rfl
          have z5 := zB.cell 5 _ rfl
          have z6 := zB.cell 6 _ rfl
          have z7 := zB.cell 7 _ rfl
          have o9 := okh.but hbut.but (offh _ (by omega) (hoR _ (by omega)))
          refine bodyPost_ret (v := .tuple #[.agg #[.int .i64 (s + 1), .bool true, .int .i64 k', .int .i64 z', .int .i64 u', .int .i64 t', .slice a n c, .slice ga gn gc], .int .i64 0]) (by simp [results, Tryd.results8, go_sem, z0, z1, z2, z3, z4, z5, z6, z7]) rfl ⟨⟨⟨s + 1, true, ⟨k', z', u', t', d'⟩, a, n, c, ga, gn, gc, G⟩, ?_, o9, fun R hR ho => offh R (by omega) ho, ?_⟩, bw.trans (hbut.below (B := w.heap.size) (by omega))⟩
          · rw [HE.out]; rfl
          · rw [HE.out]; rfl
      · have HE : Hid (na = (zeroN, 6)) := hide (by rw [HA.out, if_neg (by simp [hc0.out]), if_neg (by simp [hc1.out]), if_pos rfl])
        have okh := NV.zero_ok w2
        have offh : ∀ R, R ≤ w.heap.size + 1 + 1 → NV.off R ⟨s, true, ⟨k, z, u, t, d⟩, ca, cn, cc, ga, gn, gc, G⟩ ∧ farS n a R → NV.off R NV.zero := fun R _ _ => NV.zero_off R
        have e0 := x2.cell 0 _ rfl
        have e1 := x2.cell 1 _ rfl
        have e2 := x2.cell 2 _ rfl
        have e3 := x2.cell 3 _ rfl
        have e4 := x2.cell 4 _ rfl
        have e5 := x2.cell 5 _ rfl
        have e6 := x2.cell 6 _ rfl
        have e7 := x2.cell 7 _ rfl
        have f0 := x2.ice 0
        have f1 := x2.ice 1
        have f2 := x2.ice 2
        have f3 := x2.ice 3
        have f4 := x2.ice 4
        have f5 := x2.ice 5
        have f6 := x2.ice 6
        have f7 := x2.ice 7
        go_wp2
        have zB := ((((((((x2.set 0 (.int .i64 0)).set 1 (.bool false)).set 2 (.int .i64 0)).set 3 (.int .i64 0)).set 4 (.int .i64 0)).set 5 (.int .i64 0)).set 6 (.slice none 0 0)).set 7 (.slice none 0 0))
        have hbut := (((((((((ButI.refl (w.heap.size + 1 + 1) w2).step 0 (.int .i64 0)).step 1 (.bool false)).step 2 (.int .i64 0)).step 3 (.int .i64 0)).step 4 (.int .i64 0)).step 5 (.int .i64 0)).step 6 (.slice none 0 0)).step 7 (.slice none 0 0))
        generalize ((((((((w2.setCell ⟨w.heap.size + 1 + 1, 0, none⟩ (.int .i64 0)).setCell ⟨w.heap.size + 1 + 1, 1, none⟩ (.bool false)).setCell ⟨w.heap.size + 1 + 1, 2, none⟩ (.int .i64 0)).setCell ⟨w.heap.size + 1 + 1, 3, none⟩ (.int .i64 0)).setCell ⟨w.heap.size + 1 + 1, 4, none⟩ (.int .i64 0)).setCell ⟨w.heap.size + 1 + 1, 5, none⟩ (.int .i64 0)).setCell ⟨w.heap.size + 1 + 1, 6, none⟩ (.slice none 0 0)).setCell ⟨w.heap.size + 1 + 1, 7, none⟩ (.slice none 0 0)) = w99 at *
        have z0 := zB.cell 0 _ rfl
        have z1 := zB.cell 1 _ rfl
        have z2 := zB.cell 2 _ rfl
        have z3 := zB.cell 3 _ rfl
        have z4 := zB.cell 4 _ rfl
        have z5 := zB.cell 5 _ rfl
        have z6 := zB.cell 6 _ rfl
        have z7 := zB.cell 7 _ rfl
        have o9 := okh.but hbut.but (offh _ (by omega) (hoR _ (by omega)))
        refine bodyPost_ret (v := .tuple #[.agg #[.int .i64 0, .bool false, .int .i64 0, .int .i64 0, .int .i64 0, .int .i64 0, .slice none 0 0, .slice none 0 0], .int .i64 6]) (by simp [results, Tryd.results8, go_sem, z0, z1, z2, z3, z4, z5, z6, z7]) rfl ⟨⟨NV.zero, ?_, o9, fun R hR ho => offh R (by omega) ho, ?_⟩, bw.trans (hbut.below (B := w.heap.size) (by omega))⟩
        · rw [HE.out]; rfl
        · rw [HE.out]; rfl
    · have HE : Hid (na = (zeroN, cb)) := hide (by rw [HA.out, if_neg (by simp [hc0.out]), if_pos (by simpa using h1)])
      have okh := NV.zero_ok w2
      have offh : ∀ R, R ≤ w.heap.size + 1 + 1 → NV.off R ⟨s, v, ⟨k, z, u, t, d⟩, ca, cn, cc, ga, gn, gc, G⟩ ∧ farS n a R → NV.off R NV.zero := fun R _ _ => NV.zero_off R
      have e0 := x2.cell 0 _ rfl
      have e1 := x2.cell 1 _ rfl
      have e2 := x2.cell 2 _ rfl
      have e3 := x2.cell 3 _ rfl
      have e4 := x2.cell 4 _ rfl
      have e5 := x2.cell 5 _ rfl
      have e6 := x2.cell 6 _ rfl
      have e7 := x2.cell 7 _ rfl
      have f0 := x2.ice 0
      have f1 := x2.ice 1
      have f2 := x2.ice 2
      have f3 := x2.ice 3
      have f4 := x2.ice 4
      have f5 := x2.ice 5
      have f6 := x2.ice 6
      have f7 := x2.ice 7
      go_wp2
      have zB := ((((((((x2.set 0 (.int .i64 0)).set 1 (.bool false)).set 2 (.int .i64 0)).set 3 (.int .i64 0)).set 4 (.int .i64 0)).set 5 (.int .i64 0)).set 6 (.slice none 0 0)).set 7 (.slice none 0 0))
      have hbut := (((((((((ButI.refl (w.heap.size + 1 + 1) w2).step 0 (.int .i64 0)).step 1 (.bool false)).step 2 (.int .i64 0)).step 3 (.int .i64 0)).step 4 (.int .i64 0)).step 5 (.int .i64 0)).step 6 (.slice none 0 0)).step 7 (.slice none 0 0))
      generalize ((((((((w2.setCell ⟨w.heap.size + 1 + 1, 0, none⟩ (.int .i64 0)).setCell ⟨w.heap.size + 1 + 1, 1, none⟩ (.bool false)).setCell ⟨w.heap.size + 1 + 1, 2, none⟩ (.int .i64 0)).setCell ⟨w.heap.size + 1 + 1, 3, none⟩ (.int .i64 0)).setCell ⟨w.heap.size + 1 + 1, 4, none⟩ (.int .i64 0)).setCell ⟨w.heap.size + 1 + 1, 5, none⟩ (.int .i64 0)).setCell ⟨w.heap.size + 1 + 1, 6, none⟩ (.slice none 0 0)).setCell ⟨w.heap.size + 1 + 1, 7, none⟩ (.slice none 0 0)) = w99 at *
      have z0 := zB.cell 0 _ rfl
      have z1 := zB.cell 1 _ rfl
      have z2 := zB.cell 2 _ rfl
      have z3 := zB.cell 3 _ rfl
      have z4 := zB.cell 4 _ rfl
      have z5 := zB.cell 5 _ rfl
      have z6 := zB.cell 6 _ rfl
      have z7 := zB.cell 7 _ rfl
      have o9 := okh.but hbut.but (offh _ (by omega) (hoR _ (by omega)))
      refine bodyPost_ret (v := .tuple #[.agg #[.int .i64 0, .bool false, .int .i64 0, .int .i64 0, .int .i64 0, .int .i64 0, .slice none 0 0, .slice none 0 0], .int .i64 cb]) (by simp [results, Tryd.results8, go_sem, z0, z1, z2, z3, z4, z5, z6, z7]) rfl ⟨⟨NV.zero, ?_, o9, fun R hR ho => offh R (by omega) ho, ?_⟩, bw.trans (hbut.below (B := w.heap.size) (by omega))⟩
      · rw [HE.out]; rfl
      · rw [HE.out]; rfl
  · have HE : Hid (na = (zeroN, ch)) := hide (by rw [HA.out, if_pos (by simpa using h0)])
    have okh := NV.zero_ok w1
    have offh : ∀ R, R ≤ w.heap.size + 1 + 1 → NV.off R ⟨s, v, ⟨k, z, u, t, d⟩, ca, cn, cc, ga, gn, gc, G⟩ ∧ farS n a R → NV.off R NV.zero := fun R _ _ => NV.zero_off R
    have h0' : (ch == 0) = false := by simpa using h0
    have e0 := x2.cell 0 _ rfl
    have e1 := x2.cell 1 _ rfl
    have e2 := x2.cell 2 _ rfl
    have e3 := x2.cell 3 _ rfl
    have e4 := x2.cell 4 _ rfl
    have e5 := x2.cell 5 _ rfl
    have e6 := x2.cell 6 _ rfl
    have e7 := x2.cell 7 _ rfl
    have f0 := x2.ice 0
    have f1 := x2.ice 1
    have f2 := x2.ice 2
    have f3 := x2.ice 3
    have f4 := x2.ice 4
    have f5 := x2.ice 5
    have f6 := x2.ice 6
    have f7 := x2.ice 7
    go_wp2
    have zB := ((((((((x2.set 0 (.int .i64 0)).set 1 (.bool false)).set 2 (.int .i64 0)).set 3 (.int .i64 0)).set 4 (.int .i64 0)).set 5 (.int .i64 0)).set 6 (.slice none 0 0)).set 7 (.slice none 0 0))
    have hbut := (((((((((ButI.refl (w.heap.size + 1 + 1) w1).step 0 (.int .i64 0)).step 1 (.bool false)).step 2 (.int .i64 0)).step 3 (.int .i64 0)).step 4 (.int .i64 0)).step 5 (.int .i64 0)).step 6 (.slice none 0 0)).step 7 (.slice none 0 0))
    generalize ((((((((w1.setCell ⟨w.heap.size + 1 + 1, 0, none⟩ (.int .i64 0)).setCell ⟨w.heap.size + 1 + 1, 1, none⟩ (.bool false)).setCell ⟨w.heap.size + 1 + 1, 2, none⟩ (.int .i64 0)).setCell ⟨w.heap.size + 1 + 1, 3, none⟩ (.int .i64 0)).setCell ⟨w.heap.size + 1 + 1, 4, none⟩ (.int .i64 0)).setCell ⟨w.heap.size + 1 + 1, 5, none⟩ (.int .i64 0)).setCell ⟨w.heap.size + 1 + 1, 6, none⟩ (.slice none 0 0)).setCell ⟨w.heap.size + 1 + 1, 7, none⟩ (.slice none 0 0)) = w99 at *
    have z0 := zB.cell 0 _ rfl
    have z1 := zB.cell 1 _ rfl
    have z2 := zB.cell 2 _ rfl
    have z3 := zB.cell 3 _ rfl
    have z4 := zB.cell 4 _ rfl
    have z5 := zB.cell 5 _ rfl
    have z6 := zB.cell 6 _ rfl
    have z7 := zB.cell 7 _ rfl
    have o9 := okh.but hbut.but (offh _ (by omega) (hoR _ (by omega)))
    refine bodyPost_ret (v := .tuple #[.agg #[.int .i64 0, .bool false, .int .i64 0, .int .i64 0, .int .i64 0, .int .i64 0, .slice none 0 0, .slice none 0 0], .int .i64 ch]) (by simp [results, Tryd.results8, go_sem, z0, z1, z2, z3, z4, z5, z6, z7]) rfl ⟨⟨NV.zero, ?_, o9, fun R hR ho => offh R (by omega) ho, ?_⟩, bw.trans (hbut.below (B := w.heap.size) (by omega))⟩
    · rw [HE.out]; rfl
    · rw [HE.out]; rfl

end Go.Proofs.YtklabieacbbbfaaDoor

/- What the calls of package hand answer; plain mathematics, no condition. -/
namespace Go.Proofs.YtklabieacbbbfaaDoor
open Go.RowKit
set_option linter.unusedVariables false
set_option maxRecDepth 100000
set_option linter.unusedSimpArgs false

/-- What a call answers: a hand in new memory, an error. -/
def HandNew (r : PN × Int) (w : World) (e : Ending) (w' : World) : Prop :=
  (∃ h' : NV, e = .returned (.tuple #[h'.v, .int .i64 r.2]) ∧ h'.ok w' ∧ h'.new w.heap.size ∧ h'.p = r.1) ∧ Below w.heap.size w w'

end Go.Proofs.YtklabieacbbbfaaDoor

/- The contracts of plain.CopyAnswer and plain.SameAnswer; no condition but that the arguments read as data, and are no greater than a machine bears. -/
namespace Go.Proofs.YtklabieacbbbfaaDoor
open Go.RowKit
set_option linter.unusedVariables false
set_option maxRecDepth 100000
set_option linter.unusedSimpArgs false

set_option maxHeartbeats 2000000 in
theorem pwholeA_c (x : AV) (w : World) (h : x.ok w) (hn : x.n ≤ 100000) :
    Calls Tryd.prog 23 #[x.v] w fun e w' => (∃ q, e = .returned (.agg #[.int .i64 x.e, .int .i64 x.t, .slice (some ⟨q, 0, none⟩) x.n x.n]) ∧ Ints w' (some ⟨q, 0, none⟩) x.n x.n x.d ∧ w.heap.size ≤ q ∧ q < w'.heap.size) ∧ Below w.heap.size w w' := by
  obtain ⟨ee, tt, a, n, c, l⟩ := x
  have hI : Ints w a n c l := h
  dsimp only [AV.v] at *
  obtain ⟨x0, x1, x2, bw⟩ := three_boxes w [.int .i64 ee, .int .i64 tt, .slice a n c] [.int .i64 0, .int .i64 0, .slice none 0 0] [.int .i64 ee, .int .i64 tt, .slice a n c] 30 30 30
  replace hI := hI.below bw (Nat.le_refl _)
  go_enter Tryd.func23, Tryd.ntmps23
  go_upto_region 2 with fail
  generalize ((w.alloc (.cells [.int .i64 ee, .int .i64 tt, .slice a n c].toArray 30)).alloc (.cells [.int .i64 0, .int .i64 0, .slice none 0 0].toArray 30)).alloc (.cells [.int .i64 ee, .int .i64 tt, .slice a n c].toArray 30) = w1 at *
  have c2 := x0.cell 2 _ rfl
  go_wp2_with fail
  refine (plist_c a n c l _ hI hn).mono ?_
  rintro e w2 ⟨⟨q, rfl, iq, hq, hq2⟩, hb2⟩
  have hqw : w.heap.size + 1 + 1 < q := by have := x2.lt; omega
  clear c2 hq x0
  replace x1 := x1.below hb2
  replace x2 := x2.below hb2
  replace bw := belowT bw hb2
  clear hb2
  have e2 := x2.cell 2 _ rfl
  have f2 := x2.ice 2
  go_upto_region 3 with fail
  have hbu := (ButI.refl (w.heap.size + 1 + 1) w2).step 2 (.slice (some ⟨q, 0, none⟩) n n)
  have y2 : Lay _ _ [.int .i64 ee, .int .i64 tt, .slice (some ⟨q, 0, none⟩) n n] := x2.set 2 (.slice (some ⟨q, 0, none⟩) n n)
  have xR := x1.butI hbu (by omega)
  replace iq := iq.but hbu.but (.inr fun x e => by cases e; simp; omega)
  replace bw := bw.trans (hbu.below (B := w.heap.size) (by omega))
  have hsz := hbu.but.size
  clear e2 f2 x2 x1 hbu
  generalize w2.setCell ⟨w.heap.size + 1 + 1, 2, none⟩ (.slice (some ⟨q, 0, none⟩) n n) = w3 at *
  have a0 := y2.cell 0 _ rfl
  have a1 := y2.cell 1 _ rfl
  have a2 := y2.cell 2 _ rfl
  have e0 := xR.cell 0 _ rfl
  have e1 := xR.cell 1 _ rfl
  have e2 := xR.cell 2 _ rfl
  have f0 := xR.ice 0
  have f1 := xR.ice 1
  have f2 := xR.ice 2
  go_wp2
  have zB := ((xR.set 0 (.int .i64 (ee))).set 1 (.int .i64 (tt))).set 2 (.slice (some ⟨q, 0, none⟩) n n)
  have hbut := (((ButI.refl (w.heap.size + 1) (w3)).step 0 (.int .i64 (ee))).step 1 (.int .i64 (tt))).step 2 (.slice (some ⟨q, 0, none⟩) n n)
  generalize (((w3).setCell ⟨w.heap.size + 1, 0, none⟩ (.int .i64 (ee))).setCell ⟨w.heap.size + 1, 1, none⟩ (.int .i64 (tt))).setCell ⟨w.heap.size + 1, 2, none⟩ (.slice (some ⟨q, 0, none⟩) n n) = w9 at *
  have z0 := zB.cell 0 _ rfl
  have z1 := zB.cell 1 _ rfl
  have z2 := zB.cell 2 _ rfl
  exact bodyPost_ret (v := .agg #[.int .i64 ee, .int .i64 tt, .slice (some ⟨q, 0, none⟩) n n]) (by simp [results, Tryd.results23, go_sem, z0, z1, z2]) rfl
    ⟨⟨q, rfl, iq.but hbut.but (.inr fun x e => by cases e; simp; omega), by omega, by have := hbut.but.size; omega⟩, bw.trans (hbut.below (B := w.heap.size) (by omega))⟩


theorem psameA_c (x y : AV) (w : World) (hx : x.ok w) (hy : y.ok w) : Calls Tryd.prog 32 #[x.v, y.v] w fun e w' => e = .returned (.bool (sameA x.p y.p)) ∧ Below w.heap.size w w' := by
  obtain ⟨e1, t1, a1, n1, c1, l1⟩ := x
  obtain ⟨e2, t2, a2, n2, c2, l2⟩ := y
  dsimp only [AV.v, AV.p]
  have h1 : Ints w a1 n1 c1 l1 := hx
  have h2 : Ints w a2 n2 c2 l2 := hy
  have HS : Hid (sameA ⟨e1, t1, l1⟩ ⟨e2, t2, l2⟩ = (e1 == e2 && (t1 == t2 && decide (l1 = l2)))) := hide (by rw [Bool.eq_iff_iff]; simp [sameA])
  cases he : e1 == e2
  · go_enter Tryd.func32, Tryd.ntmps32
    go_wp2
    go_ret
    exact ⟨ret_bool (by rw [HS.out, he]; rfl), by (repeat first | exact bel0 | assumption | refine bel1 ?_ | refine bel2 ?_ | refine bel3 ?_ | refine belowT ?_ (by assumption) | refine bel5 ?_ (by simp; try omega))⟩
  · cases ht : t1 == t2
    · go_enter Tryd.func32, Tryd.ntmps32
      go_wp2
      go_ret
      exact ⟨ret_bool (by rw [HS.out, he, ht]; rfl), by (repeat first | exact bel0 | assumption | refine bel1 ?_ | refine bel2 ?_ | refine bel3 ?_ | refine belowT ?_ (by assumption) | refine bel5 ?_ (by simp; try omega))⟩
    · go_enter Tryd.func32, Tryd.ntmps32
      go_wp2_with fail
      refine (Equal_c a1 a2 n1 n2 c1 c2 l1 l2 _ (h1.below (B := w.heap.size) (by (repeat first | exact bel0 | assumption | refine bel1 ?_ | refine bel2 ?_ | refine bel3 ?_ | refine belowT ?_ (by assumption) | refine bel5 ?_ (by simp; try omega))) (Nat.le_refl _)) (h2.below (B := w.heap.size) (by (repeat first | exact bel0 | assumption | refine bel1 ?_ | refine bel2 ?_ | refine bel3 ?_ | refine belowT ?_ (by assumption) | refine bel5 ?_ (by simp; try omega))) (Nat.le_refl _))).mono ?_
      rintro e w1 ⟨rfl, q, rfl⟩
      go_wp2
      go_ret
      exact ⟨ret_bool (by rw [HS.out, he, ht]; simp), by (repeat first | exact bel0 | assumption | refine bel1 ?_ | refine bel2 ?_ | refine bel3 ?_ | refine belowT ?_ (by assumption) | refine bel5 ?_ (by simp; try omega))⟩


end Go.Proofs.YtklabieacbbbfaaDoor

/- The contract of plain.CopyCmd; no condition but that the command reads as data, and is no greater than a machine bears. -/
namespace Go.Proofs.YtklabieacbbbfaaDoor
open Go.RowKit
set_option linter.unusedVariables false
set_option maxRecDepth 100000
set_option linter.unusedSimpArgs false

set_option maxHeartbeats 2000000 in
theorem pwholeC_c (a : Option Addr) (n c : Nat) (b : PC) (w : World) (h : Ints w a n c b.d) (hn : n ≤ 100000) :
    Calls Tryd.prog 21 #[cmdV a n c b] w fun e w' => (∃ q, e = .returned (cmdV (some ⟨q, 0, none⟩) n n b) ∧ Ints w' (some ⟨q, 0, none⟩) n n b.d ∧ w.heap.size ≤ q ∧ q < w'.heap.size) ∧ Below w.heap.size w w' := by
  obtain ⟨k, z, u, t, l⟩ := b
  unfold cmdV
  dsimp only at *
  obtain ⟨x0, x1, x2, bw⟩ := three_boxes w [.int .i64 k, .int .i64 z, .int .i64 u, .int .i64 t, .slice a n c] [.int .i64 0, .int .i64 0, .int .i64 0, .int .i64 0, .slice none 0 0] [.int .i64 k, .int .i64 z, .int .i64 u, .int .i64 t, .slice a n c] 24 24 24
  replace h := h.below bw (Nat.le_refl _)
  go_enter Tryd.func21, Tryd.ntmps21
  go_upto_region 2 with fail
  generalize ((w.alloc (.cells [.int .i64 k, .int .i64 z, .int .i64 u, .int .i64 t, .slice a n c].toArray 24)).alloc (.cells [.int .i64 0, .int .i64 0, .int .i64 0, .int .i64 0, .slice none 0 0].toArray 24)).alloc (.cells [.int .i64 k, .int .i64 z, .int .i64 u, .int .i64 t, .slice a n c].toArray 24) = w1 at *
  have c4 := x0.cell 4 _ rfl
  go_wp2_with fail
  refine (plist_c a n c l _ h hn).mono ?_
  rintro e w2 ⟨⟨q, rfl, iq, hq, hq2⟩, hb2⟩
  have hqw : w.heap.size + 1 + 1 < q := by have := x2.lt; omega
  clear c4 hq x0
  replace x1 := x1.below hb2
  replace x2 := x2.below hb2
  replace bw := belowT bw hb2
  clear hb2
  have e4 := x2.cell 4 _ rfl
  have f4 := x2.ice 4
  go_upto_region 3 with fail
  have hbu := (ButI.refl (w.heap.size + 1 + 1) w2).step 4 (.slice (some ⟨q, 0, none⟩) n n)
  have y2 : Lay _ _ [.int .i64 k, .int .i64 z, .int .i64 u, .int .i64 t, .slice (some ⟨q, 0, none⟩) n n] := x2.set 4 (.slice (some ⟨q, 0, none⟩) n n)
  have xR := x1.butI hbu (by omega)
  replace iq := iq.but hbu.but (.inr fun x e => by cases e; simp; omega)
  replace bw := bw.trans (hbu.below (B := w.heap.size) (by omega))
  have hsz := hbu.but.size
  clear e4 f4 x2 x1 hbu
  generalize w2.setCell ⟨w.heap.size + 1 + 1, 4, none⟩ (.slice (some ⟨q, 0, none⟩) n n) = w3 at *
  have a0 := y2.cell 0 _ rfl
  have a1 := y2.cell 1 _ rfl
  have a2 := y2.cell 2 _ rfl
  have a3 := y2.cell 3 _ rfl
  have a4 := y2.cell 4 _ rfl
  have e0 := xR.cell 0 _ rfl
  have e1 := xR.cell 1 _ rfl
  have e2 := xR.cell 2 _ rfl
  have e3 := xR.cell 3 _ rfl
  have e4 := xR.cell 4 _ rfl
  have f0 := xR.ice 0
  have f1 := xR.ice 1
  have f2 := xR.ice 2
  have f3 := xR.ice 3
  have f4 := xR.ice 4
  go_wp2
  have zB := ((((xR.set 0 (.int .i64 k)).set 1 (.int .i64 z)).set 2 (.int .i64 u)).set 3 (.int .i64 t)).set 4 (.slice (some ⟨q, 0, none⟩) n n)
  have hbut := (((((ButI.refl (w.heap.size + 1) w3).step 0 (.int .i64 k)).step 1 (.int .i64 z)).step 2 (.int .i64 u)).step 3 (.int .i64 t)).step 4 (.slice (some ⟨q, 0, none⟩) n n)
  generalize ((((w3.setCell ⟨w.heap.size + 1, 0, none⟩ (.int .i64 k)).setCell ⟨w.heap.size + 1, 1, none⟩ (.int .i64 z)).setCell ⟨w.heap.size + 1, 2, none⟩ (.int .i64 u)).setCell ⟨w.heap.size + 1, 3, none⟩ (.int .i64 t)).setCell ⟨w.heap.size + 1, 4, none⟩ (.slice (some ⟨q, 0, none⟩) n n) = w9 at *
  have z0 := zB.cell 0 _ rfl
  have z1 := zB.cell 1 _ rfl
  have z2 := zB.cell 2 _ rfl
  have z3 := zB.cell 3 _ rfl
  have z4 := zB.cell 4 _ rfl
  exact bodyPost_ret (v := .agg #[.int .i64 k, .int .i64 z, .int .i64 u, .int .i64 t, .slice (some ⟨q, 0, none⟩) n n]) (by simp [results, Tryd.results21, go_sem, z0, z1, z2, z3, z4]) rfl
    ⟨⟨q, rfl, iq.but hbut.but (.inr fun x e => by cases e; simp; omega), by omega, by have := hbut.but.size; omega⟩, bw.trans (hbut.below (B := w.heap.size) (by omega))⟩


end Go.Proofs.YtklabieacbbbfaaDoor
