/- The contract of the document's own Asks; no condition but that the arguments read as data. -/
import Derived.Test.YtcpfnbbeinpanaaDoorHandSaysG7
import Derived.Test.YtcpfnbbeinpanaaDoorHandSaysG4
namespace Go.Proofs.YtcpfnbbeinpanaaDoor
open Go.RowKit
set_option linter.unusedVariables false
set_option maxRecDepth 100000
set_option linter.unusedSimpArgs false

/-- What a call answers: a hand, an error; what was there may be shared. -/
def Handed (o : Nat → Prop) (r : PN × Int) (w : World) (e : Ending) (w' : World) : Prop :=
  (∃ h' : NV, e = .returned (.tuple #[h'.v, .int .i64 r.2]) ∧ h'.ok w' ∧ (∀ R, R < w.heap.size → o R → h'.off R) ∧ h'.p = r.1) ∧ Below w.heap.size w w'
/-- A slice that doesn't lie in block R. -/
def farS (n : Nat) (a : Option Addr) (R : Nat) : Prop := n = 0 ∨ ∀ y, a = some y → y.block ≠ R

set_option maxRecDepth 100000 in
set_option maxHeartbeats 4000000 in
theorem AsksR_c (h : NV) (a : Option Addr) (n c : Nat) (b : PC) (w : World) (hk : h.ok w) (hb : Ints w a n c b.d) : Calls Tryd.prog 8 #[h.v, cmdV a n c b] w fun e w' => Handed (fun R => h.off R ∧ farS n a R) (askN h.p b) w e w' := by
  have HK := hide (fun w' h' => CheckHandR_c h w' h')
  have HC := hide (fun w' h' => CheckCmd_c a n c b w' h')
  have HA : Hid (askN h.p b = if checkN h.p ≠ 0 then (zeroN, checkN h.p) else if checkC b ≠ 0 then (zeroN, checkC b) else if h.w then (zeroN, 6) else if 40 ≤ h.s then (zeroN, 2) else (⟨h.s + 1, true, b, h.G.map AV.p⟩, 0)) := hide rfl
  have HB : Hid (checkN h.p = 0 → 0 ≤ h.s ∧ h.s ≤ 40) := hide (fun e => (checkN_ok e).1)
  obtain ⟨x0, x1, x2, bw⟩ := three_boxes w h.cells [.int .i64 b.k, .int .i64 b.z, .int .i64 b.n, .int .i64 b.at', .slice a n c] NV.zero.cells 27 24 27
  have hok := hk.below bw (Nat.le_refl _)
  have hbk := hb.below bw (Nat.le_refl _)
  have hoR : ∀ R, w.heap.size ≤ R → h.off R ∧ farS n a R := fun R hR => ⟨hk.off hR, Ints.offs hb hR⟩
  generalize askN h.p b = na at *
  generalize checkN h.p = ch at *
  generalize checkC b = cb at *
  rw [show h.v = .agg h.cells.toArray from rfl] at *
  obtain ⟨s, v, ⟨k, z, u, t, d⟩, ca, cn, cc, ga, gn, gc, G⟩ := h
  obtain ⟨k', z', u', t', d'⟩ := b
  dsimp only [NV.cells, cmdV, NV.zero, zeroC] at *
  have q0 := x0.cell 0 _ rfl
  have q1 := x0.cell 1 _ rfl
  have q2 := x0.cell 2 _ rfl
  have q3 := x0.cell 3 _ rfl
  have q4 := x0.cell 4 _ rfl
  have q5 := x0.cell 5 _ rfl
  have q6 := x0.cell 6 _ rfl
  have q7 := x0.cell 7 _ rfl
  have p0 := x0.ice 0
  have p1 := x0.ice 1
  have p2 := x0.ice 2
  have p3 := x0.ice 3
  have p4 := x0.ice 4
  have p5 := x0.ice 5
  have p6 := x0.ice 6
  have p7 := x0.ice 7
  go_enter Tryd.func8, Tryd.ntmps8
  go_wp2_with fail
  refine (HK.out _ hok).mono ?_
  rintro e w1 ⟨rfl, hb1⟩
  replace x0 := x0.below hb1
  replace x1 := x1.below hb1
  replace x2 := x2.below hb1
  replace hok := hok.below hb1 (Nat.le_refl _)
  replace hbk := hbk.below hb1 (Nat.le_refl _)
  replace bw := belowT bw hb1
  clear hb1 q0 q1 q2 q3 q4 q5 q6 q7 p0 p1 p2 p3 p4 p5 p6 p7 HK
  cases h0 : ch != 0
  · have hc0 : Hid (ch = 0) := hide (by simpa using h0)
    have r0 := x1.cell 0 _ rfl
    have r1 := x1.cell 1 _ rfl
    have r2 := x1.cell 2 _ rfl
    have r3 := x1.cell 3 _ rfl
    have r4 := x1.cell 4 _ rfl
    have h0' : (ch == 0) = true := by simpa using h0
    go_wp2_with fail
    refine (HC.out _ hbk).mono ?_
    rintro e w2 ⟨rfl, hb2⟩
    replace x0 := x0.below hb2
    replace x1 := x1.below hb2
    replace x2 := x2.below hb2
    replace hok := hok.below hb2 (Nat.le_refl _)
    replace hbk := hbk.below hb2 (Nat.le_refl _)
    replace bw := belowT bw hb2
    clear hb2 r0 r1 r2 r3 r4 HC
    cases h1 : cb != 0
    · have hc1 : Hid (cb = 0) := hide (by simpa using h1)
      have q0 := x0.cell 0 _ rfl
      have q1 := x0.cell 1 _ rfl
      have q2 := x0.cell 2 _ rfl
      have q3 := x0.cell 3 _ rfl
      have q4 := x0.cell 4 _ rfl
      have q5 := x0.cell 5 _ rfl
      have q6 := x0.cell 6 _ rfl
      have q7 := x0.cell 7 _ rfl
      have p0 := x0.ice 0
      have p1 := x0.ice 1
      have p2 := x0.ice 2
      have p3 := x0.ice 3
      have p4 := x0.ice 4
      have p5 := x0.ice 5
      have p6 := x0.ice 6
      have p7 := x0.ice 7
      cases v
      · by_cases h40 : 40 ≤ s
        · have HE : Hid (na = (zeroN, 2)) := hide (by rw [HA.out, if_neg (by simp [hc0.out]), if_neg (by simp [hc1.out]), if_neg (by simp), if_pos h40])
          have okh := NV.zero_ok w2
          have offh : ∀ R, R ≤ w.heap.size + 1 + 1 → NV.off R ⟨s, false, ⟨k, z, u, t, d⟩, ca, cn, cc, ga, gn, gc, G⟩ ∧ farS n a R → NV.off R NV.zero := fun R _ _ => NV.zero_off R
          have e0 := x2.cell 0 _ rfl
          have e1 := x2.cell 1 _ rfl
          have e2 := x2.cell 2 _ rfl
          have e3 := x2.cell 3 _ rfl
          have e4 := x2.cell 4 _ rfl
          have e5 := x2.cell 5 _ rfl
          have e6 := x2.cell 6 _ rfl
          have e7 := x2.cell 7 _ rfl
          have f0 := x2.ice 0
          have f1 := x2.ice 1
          have f2 := x2.ice 2
          have f3 := x2.ice 3
          have f4 := x2.ice 4
          have f5 := x2.ice 5
          have f6 := x2.ice 6
          have f7 := x2.ice 7
          go_wp2
          have zB := ((((((((x2.set 0 (.int .i64 0)).set 1 (.bool false)).set 2 (.int .i64 0)).set 3 (.int .i64 0)).set 4 (.int .i64 0)).set 5 (.int .i64 0)).set 6 (.slice none 0 0)).set 7 (.slice none 0 0))
          have hbut := (((((((((ButI.refl (w.heap.size + 1 + 1) w2).step 0 (.int .i64 0)).step 1 (.bool false)).step 2 (.int .i64 0)).step 3 (.int .i64 0)).step 4 (.int .i64 0)).step 5 (.int .i64 0)).step 6 (.slice none 0 0)).step 7 (.slice none 0 0))
          generalize ((((((((w2.setCell ⟨w.heap.size + 1 + 1, 0, none⟩ (.int .i64 0)).setCell ⟨w.heap.size + 1 + 1, 1, none⟩ (.bool false)).setCell ⟨w.heap.size + 1 + 1, 2, none⟩ (.int .i64 0)).setCell ⟨w.heap.size + 1 + 1, 3, none⟩ (.int .i64 0)).setCell ⟨w.heap.size + 1 + 1, 4, none⟩ (.int .i64 0)).setCell ⟨w.heap.size + 1 + 1, 5, none⟩ (.int .i64 0)).setCell ⟨w.heap.size + 1 + 1, 6, none⟩ (.slice none 0 0)).setCell ⟨w.heap.size + 1 + 1, 7, none⟩ (.slice none 0 0)) = w99 at *
          have z0 := zB.cell 0 _ rfl
          have z1 := zB.cell 1 _ rfl
          have z2 := zB.cell 2 _ rfl
          have z3 := zB.cell 3 _ rfl
          have z4 := zB.cell 4 _ rfl
          have z5 := zB.cell 5 _ rfl
          have z6 := zB.cell 6 _ rfl
          have z7 := zB.cell 7 _ rfl
          have o9 := okh.but hbut.but (offh _ (by omega) (hoR _ (by omega)))
          refine bodyPost_ret (v := .tuple #[.agg #[.int .i64 0, .bool false, .int .i64 0, .int .i64 0, .int .i64 0, .int .i64 0, .slice none 0 0, .slice none 0 0], .int .i64 2]) (by simp [results, Tryd.results8, go_sem, z0, z1, z2, z3, z4, z5, z6, z7]) rfl ⟨⟨NV.zero, ?_, o9, fun R hR ho => offh R (by omega) ho, ?_⟩, bw.trans (hbut.below (B := w.heap.size) (by omega))⟩
          · rw [HE.out]; rfl
          · rw [HE.out]; rfl
        · have HE : Hid (na = (⟨s + 1, true, ⟨k', z', u', t', d'⟩, G.map AV.p⟩, 0)) := hide (by rw [HA.out, if_neg (by simp [hc0.out]), if_neg (by simp [hc1.out]), if_neg (by simp), if_neg h40])
          have hbs := HB.out hc0.out
          have hwr : IntKind.i64.wrap (s + 1) = s + 1 := IntWalk.i64_in _ ⟨by omega, by omega⟩
          have h40' : ¬ (40 : Int) ≤ s := h40
          clear hbs
          have okh : NV.ok w2 ⟨s + 1, true, ⟨k', z', u', t', d'⟩, a, n, c, ga, gn, gc, G⟩ := ⟨hbk, hok.g⟩
          have offh : ∀ R, R ≤ w.heap.size + 1 + 1 → NV.off R ⟨s, false, ⟨k, z, u, t, d⟩, ca, cn, cc, ga, gn, gc, G⟩ ∧ farS n a R → NV.off R ⟨s + 1, true, ⟨k', z', u', t', d'⟩, a, n, c, ga, gn, gc, G⟩ := fun R _ o => ⟨o.2, o.1.a, o.1.g⟩
          have r0 := x1.cell 0 _ rfl
          have r1 := x1.cell 1 _ rfl
          have r2 := x1.cell 2 _ rfl
          have r3 := x1.cell 3 _ rfl
          have r4 := x1.cell 4 _ rfl
          have e0 := x2.cell 0 _ rfl
          have e1 := x2.cell 1 _ rfl
          have e2 := x2.cell 2 _ rfl
          have e3 := x2.cell 3 _ rfl
          have e4 := x2.cell 4 _ rfl
          have e5 := x2.cell 5 _ rfl
          have e6 := x2.cell 6 _ rfl
          have e7 := x2.cell 7 _ rfl
          have f0 := x2.ice 0
          have f1 := x2.ice 1
          have f2 := x2.ice 2
          have f3 := x2.ice 3
          have f4 := x2.ice 4
          have f5 := x2.ice 5
          have f6 := x2.ice 6
          have f7 := x2.ice 7
          go_wp2
          have zB := ((((((((x2.set 0 (.int .i64 (s + 1))).set 1 (.bool true)).set 2 (.int .i64 k')).set 3 (.int .i64 z')).set 4 (.int .i64 u')).set 5 (.int .i64 t')).set 6 (.slice a n c)).set 7 (.slice ga gn gc))
          have hbut := (((((((((ButI.refl (w.heap.size + 1 + 1) w2).step 0 (.int .i64 (s + 1))).step 1 (.bool true)).step 2 (.int .i64 k')).step 3 (.int .i64 z')).step 4 (.int .i64 u')).step 5 (.int .i64 t')).step 6 (.slice a n c)).step 7 (.slice ga gn gc))
          generalize ((((((((w2.setCell ⟨w.heap.size + 1 + 1, 0, none⟩ (.int .i64 (s + 1))).setCell ⟨w.heap.size + 1 + 1, 1, none⟩ (.bool true)).setCell ⟨w.heap.size + 1 + 1, 2, none⟩ (.int .i64 k')).setCell ⟨w.heap.size + 1 + 1, 3, none⟩ (.int .i64 z')).setCell ⟨w.heap.size + 1 + 1, 4, none⟩ (.int .i64 u')).setCell ⟨w.heap.size + 1 + 1, 5, none⟩ (.int .i64 t')).setCell ⟨w.heap.size + 1 + 1, 6, none⟩ (.slice a n c)).setCell ⟨w.heap.size + 1 + 1, 7, none⟩ (.slice ga gn gc)) = w99 at *
          have z0 := zB.cell 0 _ rfl
          have z1 := zB.cell 1 _ rfl
          have z2 := zB.cell 2 _ rfl
          have z3 := zB.cell 3 _ rfl
          have z4 := zB.cell 4 _ rfl
          have z5 := zB.cell 5 _ rfl
          have z6 := zB.cell 6 _ rfl
          have z7 := zB.cell 7 _ rfl
          have o9 := okh.but hbut.but (offh _ (by omega) (hoR _ (by omega)))
          refine bodyPost_ret (v := .tuple #[.agg #[.int .i64 (s + 1), .bool true, .int .i64 k', .int .i64 z', .int .i64 u', .int .i64 t', .slice a n c, .slice ga gn gc], .int .i64 0]) (by simp [results, Tryd.results8, go_sem, z0, z1, z2, z3, z4, z5, z6, z7]) rfl ⟨⟨⟨s + 1, true, ⟨k', z', u', t', d'⟩, a, n, c, ga, gn, gc, G⟩, ?_, o9, fun R hR ho => offh R (by omega) ho, ?_⟩, bw.trans (hbut.below (B := w.heap.size) (by omega))⟩
          · rw [HE.out]; rfl
          · rw [HE.out]; rfl
      · have HE : Hid (na = (zeroN, 6)) := hide (by rw [HA.out, if_neg (by simp [hc0.out]), if_neg (by simp [hc1.out]), if_pos rfl])
        have okh := NV.zero_ok w2
        have offh : ∀ R, R ≤ w.heap.size + 1 + 1 → NV.off R ⟨s, true, ⟨k, z, u, t, d⟩, ca, cn, cc, ga, gn, gc, G⟩ ∧ farS n a R → NV.off R NV.zero := fun R _ _ => NV.zero_off R
        have e0 := x2.cell 0 _ rfl
        have e1 := x2.cell 1 _ rfl
        have e2 := x2.cell 2 _ rfl
        have e3 := x2.cell 3 _ rfl
        have e4 := x2.cell 4 _ rfl
        have e5 := x2.cell 5 _ rfl
        have e6 := x2.cell 6 _ rfl
        have e7 := x2.cell 7 _ rfl
        have f0 := x2.ice 0
        have f1 := x2.ice 1
        have f2 := x2.ice 2
        have f3 := x2.ice 3
        have f4 := x2.ice 4
        have f5 := x2.ice 5
        have f6 := x2.ice 6
        have f7 := x2.ice 7
        go_wp2
        have zB := ((((((((x2.set 0 (.int .i64 0)).set 1 (.bool false)).set 2 (.int .i64 0)).set 3 (.int .i64 0)).set 4 (.int .i64 0)).set 5 (.int .i64 0)).set 6 (.slice none 0 0)).set 7 (.slice none 0 0))
        have hbut := (((((((((ButI.refl (w.heap.size + 1 + 1) w2).step 0 (.int .i64 0)).step 1 (.bool false)).step 2 (.int .i64 0)).step 3 (.int .i64 0)).step 4 (.int .i64 0)).step 5 (.int .i64 0)).step 6 (.slice none 0 0)).step 7 (.slice none 0 0))
        generalize ((((((((w2.setCell ⟨w.heap.size + 1 + 1, 0, none⟩ (.int .i64 0)).setCell ⟨w.heap.size + 1 + 1, 1, none⟩ (.bool false)).setCell ⟨w.heap.size + 1 + 1, 2, none⟩ (.int .i64 0)).setCell ⟨w.heap.size + 1 + 1, 3, none⟩ (.int .i64 0)).setCell ⟨w.heap.size + 1 + 1, 4, none⟩ (.int .i64 0)).setCell ⟨w.heap.size + 1 + 1, 5, none⟩ (.int .i64 0)).setCell ⟨w.heap.size + 1 + 1, 6, none⟩ (.slice none 0 0)).setCell ⟨w.heap.size + 1 + 1, 7, none⟩ (.slice none 0 0)) = w99 at *
        have z0 := zB.cell 0 _ rfl
        have z1 := zB.cell 1 _ rfl
        have z2 := zB.cell 2 _ rfl
        have z3 := zB.cell 3 _ rfl
        have z4 := zB.cell 4 _ rfl
        have z5 := zB.cell 5 _ rfl
        have z6 := zB.cell 6 _ rfl
        have z7 := zB.cell 7 _ rfl
        have o9 := okh.but hbut.but (offh _ (by omega) (hoR _ (by omega)))
        refine bodyPost_ret (v := .tuple #[.agg #[.int .i64 0, .bool false, .int .i64 0, .int .i64 0, .int .i64 0, .int .i64 0, .slice none 0 0, .slice none 0 0], .int .i64 6]) (by simp [results, Tryd.results8, go_sem, z0, z1, z2, z3, z4, z5, z6, z7]) rfl ⟨⟨NV.zero, ?_, o9, fun R hR ho => offh R (by omega) ho, ?_⟩, bw.trans (hbut.below (B := w.heap.size) (by omega))⟩
        · rw [HE.out]; rfl
        · rw [HE.out]; rfl
    · have HE : Hid (na = (zeroN, cb)) := hide (by rw [HA.out, if_neg (by simp [hc0.out]), if_pos (by simpa using h1)])
      have okh := NV.zero_ok w2
      have offh : ∀ R, R ≤ w.heap.size + 1 + 1 → NV.off R ⟨s, v, ⟨k, z, u, t, d⟩, ca, cn, cc, ga, gn, gc, G⟩ ∧ farS n a R → NV.off R NV.zero := fun R _ _ => NV.zero_off R
      have e0 := x2.cell 0 _ rfl
      have e1 := x2.cell 1 _ rfl
      have e2 := x2.cell 2 _ rfl
      have e3 := x2.cell 3 _ rfl
      have e4 := x2.cell 4 _ rfl
      have e5 := x2.cell 5 _ rfl
      have e6 := x2.cell 6 _ rfl
      have e7 := x2.cell 7 _ rfl
      have f0 := x2.ice 0
      have f1 := x2.ice 1
      have f2 := x2.ice 2
      have f3 := x2.ice 3
      have f4 := x2.ice 4
      have f5 := x2.ice 5
      have f6 := x2.ice 6
      have f7 := x2.ice 7
      go_wp2
      have zB := ((((((((x2.set 0 (.int .i64 0)).set 1 (.bool false)).set 2 (.int .i64 0)).set 3 (.int .i64 0)).set 4 (.int .i64 0)).set 5 (.int .i64 0)).set 6 (.slice none 0 0)).set 7 (.slice none 0 0))
      have hbut := (((((((((ButI.refl (w.heap.size + 1 + 1) w2).step 0 (.int .i64 0)).step 1 (.bool false)).step 2 (.int .i64 0)).step 3 (.int .i64 0)).step 4 (.int .i64 0)).step 5 (.int .i64 0)).step 6 (.slice none 0 0)).step 7 (.slice none 0 0))
      generalize ((((((((w2.setCell ⟨w.heap.size + 1 + 1, 0, none⟩ (.int .i64 0)).setCell ⟨w.heap.size + 1 + 1, 1, none⟩ (.bool false)).setCell ⟨w.heap.size + 1 + 1, 2, none⟩ (.int .i64 0)).setCell ⟨w.heap.size + 1 + 1, 3, none⟩ (.int .i64 0)).setCell ⟨w.heap.size + 1 + 1, 4, none⟩ (.int .i64 0)).setCell ⟨w.heap.size + 1 + 1, 5, none⟩ (.int .i64 0)).setCell ⟨w.heap.size + 1 + 1, 6, none⟩ (.slice none 0 0)).setCell ⟨w.heap.size + 1 + 1, 7, none⟩ (.slice none 0 0)) = w99 at *
      have z0 := zB.cell 0 _ rfl
      have z1 := zB.cell 1 _ rfl
      have z2 := zB.cell 2 _ rfl
      have z3 := zB.cell 3 _ rfl
      have z4 := zB.cell 4 _ rfl
      have z5 := zB.cell 5 _ rfl
      have z6 := zB.cell 6 _ rfl
      have z7 := zB.cell 7 _ rfl
      have o9 := okh.but hbut.but (offh _ (by omega) (hoR _ (by omega)))
      refine bodyPost_ret (v := .tuple #[.agg #[.int .i64 0, .bool false, .int .i64 0, .int .i64 0, .int .i64 0, .int .i64 0, .slice none 0 0, .slice none 0 0], .int .i64 cb]) (by simp [results, Tryd.results8, go_sem, z0, z1, z2, z3, z4, z5, z6, z7]) rfl ⟨⟨NV.zero, ?_, o9, fun R hR ho => offh R (by omega) ho, ?_⟩, bw.trans (hbut.below (B := w.heap.size) (by omega))⟩
      · rw [HE.out]; rfl
      · rw [HE.out]; rfl
  · have HE : Hid (na = (zeroN, ch)) := hide (by rw [HA.out, if_pos (by simpa using h0)])
    have okh := NV.zero_ok w1
    have offh : ∀ R, R ≤ w.heap.size + 1 + 1 → NV.off R ⟨s, v, ⟨k, z, u, t, d⟩, ca, cn, cc, ga, gn, gc, G⟩ ∧ farS n a R → NV.off R NV.zero := fun R _ _ => NV.zero_off R
    have h0' : (ch == 0) = false := by simpa using h0
    have e0 := x2.cell 0 _ rfl
    have e1 := x2.cell 1 _ rfl
    have e2 := x2.cell 2 _ rfl
    have e3 := x2.cell 3 _ rfl
    have e4 := x2.cell 4 _ rfl
    have e5 := x2.cell 5 _ rfl
    have e6 := x2.cell 6 _ rfl
    have e7 := x2.cell 7 _ rfl
    have f0 := x2.ice 0
    have f1 := x2.ice 1
    have f2 := x2.ice 2
    have f3 := x2.ice 3
    have f4 := x2.ice 4
    have f5 := x2.ice 5
    have f6 := x2.ice 6
    have f7 := x2.ice 7
    go_wp2
    have zB := ((((((((x2.set 0 (.int .i64 0)).set 1 (.bool false)).set 2 (.int .i64 0)).set 3 (.int .i64 0)).set 4 (.int .i64 0)).set 5 (.int .i64 0)).set 6 (.slice none 0 0)).set 7 (.slice none 0 0))
    have hbut := (((((((((ButI.refl (w.heap.size + 1 + 1) w1).step 0 (.int .i64 0)).step 1 (.bool false)).step 2 (.int .i64 0)).step 3 (.int .i64 0)).step 4 (.int .i64 0)).step 5 (.int .i64 0)).step 6 (.slice none 0 0)).step 7 (.slice none 0 0))
    generalize ((((((((w1.setCell ⟨w.heap.size + 1 + 1, 0, none⟩ (.int .i64 0)).setCell ⟨w.heap.size + 1 + 1, 1, none⟩ (.bool false)).setCell ⟨w.heap.size + 1 + 1, 2, none⟩ (.int .i64 0)).setCell ⟨w.heap.size + 1 + 1, 3, none⟩ (.int .i64 0)).setCell ⟨w.heap.size + 1 + 1, 4, none⟩ (.int .i64 0)).setCell ⟨w.heap.size + 1 + 1, 5, none⟩ (.int .i64 0)).setCell ⟨w.heap.size + 1 + 1, 6, none⟩ (.slice none 0 0)).setCell ⟨w.heap.size + 1 + 1, 7, none⟩ (.slice none 0 0)) = w99 at *
    have z0 := zB.cell 0 _ rfl
    have z1 := zB.cell 1 _ rfl
    have z2 := zB.cell 2 _ rfl
    have z3 := zB.cell 3 _ rfl
    have z4 := zB.cell 4 _ rfl
    have z5 := zB.cell 5 _ rfl
    have z6 := zB.cell 6 _ rfl
    have z7 := zB.cell 7 _ rfl
    have o9 := okh.but hbut.but (offh _ (by omega) (hoR _ (by omega)))
    refine bodyPost_ret (v := .tuple #[.agg #[.int .i64 0, .bool false, .int .i64 0, .int .i64 0, .int .i64 0, .int .i64 0, .slice none 0 0, .slice none 0 0], .int .i64 ch]) (by simp [results, Tryd.results8, go_sem, z0, z1, z2, z3, z4, z5, z6, z7]) rfl ⟨⟨NV.zero, ?_, o9, fun R hR ho => offh R (by omega) ho, ?_⟩, bw.trans (hbut.below (B := w.heap.size) (by omega))⟩
    · rw [HE.out]; rfl
    · rw [HE.out]; rfl

end Go.Proofs.YtcpfnbbeinpanaaDoor

/- The contract of slices.Clone at answers; no condition but that the slice reads so. -/
namespace Go.Proofs.YtcpfnbbeinpanaaDoor
open Go.RowKit
set_option linter.unusedVariables false
set_option maxRecDepth 100000
set_option linter.unusedSimpArgs false

theorem acells_src {w : World} {b off : Nat} {L : List AV} (hr : ∀ i y, L[i]? = some y → ∀ j v, y.cells[j]? = some v → w.cell? ⟨b, off + i * 3 + j, none⟩ = some v) :
    ∀ j u, (acells L)[j]? = some u → w.cell? ((⟨b, off, none⟩ : Addr).add j) = some u := by
  intro j u hu
  have hj : j < L.length * 3 := by rw [← acells_len]; exact (List.getElem?_eq_some_iff.1 hu).1
  obtain ⟨y, hy⟩ : ∃ y, L[j / 3]? = some y := ⟨L[j / 3]'(by omega), by simp⟩
  obtain ⟨v, hv⟩ : ∃ v, y.cells[j % 3]? = some v := ⟨_, List.getElem?_eq_getElem (by rw [y.cells_len]; omega)⟩
  have g := acells_get L (j / 3) y hy (j % 3) v hv
  rw [show j / 3 * 3 + j % 3 = j by omega] at g
  rw [g] at hu
  obtain rfl : v = u := by simpa using hu
  have := hr (j / 3) y hy (j % 3) _ hv
  rw [addr_add, show off + j = off + j / 3 * 3 + j % 3 by omega]
  exact this

/-- What is owned is in new memory, and shares nothing with what the answers hold. -/
theorem OwnA.of_row {w w' : World} {v : Value} {X : List AV} {n : Nat} (h : w'.ownsRow w.heap.size 30 3 v n (acells X)) (hn : X.length = n) (hb : Below w.heap.size w w') (hX : ∀ x ∈ X, x.ok w) : OwnA w' w.heap.size v X := by
  subst hn
  refine ⟨h, fun x hx => AV.ok.below (hX x hx) hb (Nat.le_refl _), fun x hx g e => AV.ok.off (hX x hx) (h.lt g e).1⟩

set_option maxHeartbeats 2000000 in
theorem CloneA_c (a : Option Addr) (n c : Nat) (X : List AV) (w : World) (h : Answers w a n c X) (hn2 : n ≤ 1000000) :
    Calls Tryd.prog 26 #[.slice a n c] w fun e w' => (∃ v, e = .returned v ∧ OwnA w' w.heap.size v X) ∧ Below w.heap.size w w' := by
  obtain ⟨i, hi, hz, hs, hb⟩ := ansInfo
  cases a with
  | none =>
    have hc := h.nil rfl
    have hle := h.le
    have hl := h.len
    obtain rfl : c = 0 := hc
    obtain rfl : n = 0 := by omega
    rw [List.length_eq_zero_iff] at hl
    subst hl
    have hnil := fun (W : World) => Lib.run_eql_slice_nil (P := Tryd.prog) W 25 30 none 0 0 0 0 Tryd.underlying25
    go_enter Tryd.func26, Tryd.ntmps26
    go_wp2
    go_ret
    exact ⟨⟨_, rfl, OwnA.nil _ _⟩, by (repeat (first | exact Below.refl _ _ | assumption | refine Below.drew ?_ | refine below_drewN ?_ _ | refine belowA ?_ _ | refine belowT ?_ (by assumption) | refine Below.setCell ?_ (by first | (simp; done) | (simp; omega)) _))⟩
  | some x =>
    have hnil := fun (W : World) (y : Addr) => Lib.run_eql_slice_nil (P := Tryd.prog) W 25 30 (some y) n c 0 0 Tryd.underlying25
    have hsrc : n = 0 ∨ ∀ j u, (acells X)[j]? = some u → w.cell? (x.add j) = some u := by
      rcases h.row with h0 | ⟨b, off, e, _, hr⟩
      · exact .inl h0
      · cases e
        exact .inr (acells_src hr)
    go_enter Tryd.func26, Tryd.ntmps26
    go_wp2_with (at_builtin; refine wpList_append_own _ rfl _ _ 25 rfl w.heap.size 30 i (.agg #[.int .i64 0, .int .i64 0, .slice none 0 0]) 3 40 Tryd.underlying25 hi hz hs hb rfl (by decide) _ 0 [] rfl ?ho x n c (acells X) rfl ?h1 ?h2 (acells_one X) ?h3 ?h4 ?h5 ?h6)
    case ho => exact ⟨rfl, .inr ⟨w.heap.size, 0, #[], rfl, Nat.le_refl _, heap_new w _, Nat.le_refl _, Nat.zero_le _, rfl, by simp⟩⟩
    case h1 => rw [acells_len, h.len]
    case h2 =>
      intro j u hu
      rcases hsrc with h0 | hr
      · have := (List.getElem?_eq_some_iff.1 hu).1
        rw [acells_len, h.len] at this
        omega
      · exact past1 (hr j u hu) _
    case h3 => simp [maxLen]; omega
    case h4 => omega
    case h5 => simp
    case h6 =>
      intro v' w' ho hg hne
      have hb' : Below w.heap.size w w' := (belowA (Below.refl _ _) _).grown hg (by simp) (by intro k e; simp [Value.ownBlock] at e; omega)
      have hO : OwnA w' w.heap.size v' X := OwnA.of_row (n := n) (by simpa using ho) h.len hb' h.ok
      clear ho hg hne
      go_wp2
      go_ret
      exact ⟨⟨_, rfl, hO⟩, hb'⟩

end Go.Proofs.YtcpfnbbeinpanaaDoor
