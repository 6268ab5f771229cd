/- The contract of the document's own Hears; no condition but that the arguments read as data. -/
import Derived.Test.YtklabieacbbbfaaDoorNU9
import Derived.Test.YtklabieacbbbfaaDoorNU15
import Derived.Deep.RegionHeld3
namespace Go.Proofs.YtklabieacbbbfaaDoor
open Go.RowKit
set_option linter.unusedVariables false
set_option maxRecDepth 100000
set_option linter.unusedSimpArgs false

set_option maxRecDepth 100000 in
set_option maxHeartbeats 4000000 in
theorem HearsR_c (h : NV) (sq : Int) (y : AV) (w : World) (hk : h.ok w) (hy : y.ok w) : Calls Tryd.prog 9 #[h.v, .int .i64 sq, y.v] w fun e w' => Handed (fun R => h.off R ∧ y.off R) (hearN h.p sq y.p) w e w' := by
  have HK := hide (fun w' h' => CheckHandR_c h w' h')
  have HC := hide (fun w' h' => CheckAnswerR_c y w' h')
  have HA : Hid (hearN h.p sq y.p = if checkN h.p ≠ 0 then (zeroN, checkN h.p) else if checkA y.p ≠ 0 then (zeroN, checkA y.p) else if h.w = false ∨ h.s ≠ sq then (h.p, 0) else (⟨sq, false, zeroC, h.G.map AV.p ++ [y.p]⟩, 0)) := hide rfl
  have HB : Hid (checkN h.p = 0 → h.w = true → h.gn ≤ 40) := hide (fun e f => by
    obtain ⟨h1, _, h3, _⟩ := checkN_ok e
    have hl := hk.g.len
    simp only [formN, NV.p, f, if_true, decide_eq_true_eq, List.length_map, hl] at h1 h3
    omega)
  have HP : Hid (h.p = ⟨h.s, h.w, h.c, h.G.map AV.p⟩) := hide rfl
  obtain ⟨x0, x1, x2, bw⟩ := three_boxes w h.cells y.cells NV.zero.cells 27 30 27
  have hok := hk.below bw (Nat.le_refl _)
  have hyk := AV.ok.below hy bw (Nat.le_refl _)
  have hoR : ∀ R, w.heap.size ≤ R → h.off R ∧ y.off R := fun R hR => ⟨hk.off hR, AV.ok.off hy hR⟩
  generalize hearN h.p sq y.p = na at *
  generalize checkN h.p = ch at *
  generalize checkA y.p = cy at *
  generalize hhp : h.p = hp at *
  clear hhp
  rw [show h.v = .agg h.cells.toArray from rfl, show y.v = .agg y.cells.toArray from rfl] at *
  obtain ⟨s, v, ⟨k, z, u, t, d⟩, ca, cn, cc, ga, gn, gc, G⟩ := h
  obtain ⟨ye, yt, ya, yn, yc, yd⟩ := y
  dsimp only [NV.cells, AV.cells, NV.zero, zeroC] at *
  have q0 := x0.cell 0 _ rfl
  have q1 := x0.cell 1 _ rfl
  have q2 := x0.cell 2 _ rfl
  have q3 := x0.cell 3 _ rfl
  have q4 := x0.cell 4 _ rfl
  have q5 := x0.cell 5 _ rfl
  have q6 := x0.cell 6 _ rfl
  have q7 := x0.cell 7 _ rfl
  have p0 := x0.ice 0
  have p1 := x0.ice 1
  have p2 := x0.ice 2
  have p3 := x0.ice 3
  have p4 := x0.ice 4
  have p5 := x0.ice 5
  have p6 := x0.ice 6
  have p7 := x0.ice 7
  go_enter Tryd.func9, Tryd.ntmps9
  go_wp2_with fail
  refine (HK.out _ hok).mono ?_
  rintro e w1 ⟨rfl, hb1⟩
  replace x0 := x0.below hb1
  replace x1 := x1.below hb1
  replace x2 := x2.below hb1
  replace hok := hok.below hb1 (Nat.le_refl _)
  replace hyk := AV.ok.below hyk hb1 (Nat.le_refl _)
  replace bw := belowT bw hb1
  clear hb1 q0 q1 q2 q3 q4 q5 q6 q7 p0 p1 p2 p3 p4 p5 p6 p7 HK
  cases h0 : ch != 0
  · have hc0 : Hid (ch = 0) := hide (by simpa using h0)
    have r0 := x1.cell 0 _ rfl
    have r1 := x1.cell 1 _ rfl
    have r2 := x1.cell 2 _ rfl
    have h0' : (ch == 0) = true := by simpa using h0
    go_wp2_with fail
    refine (HC.out _ hyk).mono ?_
    rintro e w2 ⟨rfl, hb2⟩
    replace x0 := x0.below hb2
    replace x1 := x1.below hb2
    replace x2 := x2.below hb2
    replace hok := hok.below hb2 (Nat.le_refl _)
    replace hyk := AV.ok.below hyk hb2 (Nat.le_refl _)
    replace bw := belowT bw hb2
    clear hb2 r0 r1 r2 HC
    cases h1 : cy != 0
    · have hc1 : Hid (cy = 0) := hide (by simpa using h1)
      have q0 := x0.cell 0 _ rfl
      have q1 := x0.cell 1 _ rfl
      have q2 := x0.cell 2 _ rfl
      have q3 := x0.cell 3 _ rfl
      have q4 := x0.cell 4 _ rfl
      have q5 := x0.cell 5 _ rfl
      have q6 := x0.cell 6 _ rfl
      have q7 := x0.cell 7 _ rfl
      have p0 := x0.ice 0
      have p1 := x0.ice 1
      have p2 := x0.ice 2
      have p3 := x0.ice 3
      have p4 := x0.ice 4
      have p5 := x0.ice 5
      have p6 := x0.ice 6
      have p7 := x0.ice 7
      cases v
      · have HE : Hid (na = (hp, 0)) := hide (by rw [HA.out, if_neg (by simp [hc0.out]), if_neg (by simp [hc1.out]), if_pos (.inl rfl)])
        have okh := hok
        have offh : ∀ R, R ≤ w.heap.size + 1 + 1 → NV.off R ⟨s, false, ⟨k, z, u, t, d⟩, ca, cn, cc, ga, gn, gc, G⟩ ∧ AV.off R ⟨ye, yt, ya, yn, yc, yd⟩ → NV.off R ⟨s, false, ⟨k, z, u, t, d⟩, ca, cn, cc, ga, gn, gc, G⟩ := fun R _ o => o.1
        have e0 := x2.cell 0 _ rfl
        have e1 := x2.cell 1 _ rfl
        have e2 := x2.cell 2 _ rfl
        have e3 := x2.cell 3 _ rfl
        have e4 := x2.cell 4 _ rfl
        have e5 := x2.cell 5 _ rfl
        have e6 := x2.cell 6 _ rfl
        have e7 := x2.cell 7 _ rfl
        have f0 := x2.ice 0
        have f1 := x2.ice 1
        have f2 := x2.ice 2
        have f3 := x2.ice 3
        have f4 := x2.ice 4
        have f5 := x2.ice 5
        have f6 := x2.ice 6
        have f7 := x2.ice 7
        go_wp2
        have zB := ((((((((x2.set 0 (.int .i64 s)).set 1 (.bool false)).set 2 (.int .i64 k)).set 3 (.int .i64 z)).set 4 (.int .i64 u)).set 5 (.int .i64 t)).set 6 (.slice ca cn cc)).set 7 (.slice ga gn gc))
        have hbut := (((((((((ButI.refl (w.heap.size + 1 + 1) w2).step 0 (.int .i64 s)).step 1 (.bool false)).step 2 (.int .i64 k)).step 3 (.int .i64 z)).step 4 (.int .i64 u)).step 5 (.int .i64 t)).step 6 (.slice ca cn cc)).step 7 (.slice ga gn gc))
        generalize ((((((((w2.setCell ⟨w.heap.size + 1 + 1, 0, none⟩ (.int .i64 s)).setCell ⟨w.heap.size + 1 + 1, 1, none⟩ (.bool false)).setCell ⟨w.heap.size + 1 + 1, 2, none⟩ (.int .i64 k)).setCell ⟨w.heap.size + 1 + 1, 3, none⟩ (.int .i64 z)).setCell ⟨w.heap.size + 1 + 1, 4, none⟩ (.int .i64 u)).setCell ⟨w.heap.size + 1 + 1, 5, none⟩ (.int .i64 t)).setCell ⟨w.heap.size + 1 + 1, 6, none⟩ (.slice ca cn cc)).setCell ⟨w.heap.size + 1 + 1, 7, none⟩ (.slice ga gn gc)) = w99 at *
        have z0 := zB.cell 0 _ rfl
        have z1 := zB.cell 1 _ rfl
        have z2 := zB.cell 2 _ rfl
        have z3 := zB.cell 3 _ rfl
        have z4 := zB.cell 4 _ rfl
        have z5 := zB.cell 5 _ rfl
        have z6 := zB.cell 6 _ rfl
        have z7 := zB.cell 7 _ rfl
        have o9 := okh.but hbut.but (offh _ (by omega) (hoR _ (by omega)))
        refine bodyPost_ret (v := .tuple #[.agg #[.int .i64 s, .bool false, .int .i64 k, .int .i64 z, .int .i64 u, .int .i64 t, .slice ca cn cc, .slice ga gn gc], .int .i64 0]) (by simp [results, Tryd.results9, go_sem, z0, z1, z2, z3, z4, z5, z6, z7]) rfl ⟨⟨⟨s, false, ⟨k, z, u, t, d⟩, ca, cn, cc, ga, gn, gc, G⟩, ?_, o9, fun R hR ho => offh R (by omega) ho, ?_⟩, bw.trans (hbut.below (B := w.heap.size) (by omega))⟩
        · rw [HE.out]; rfl
        · rw [HE.out, HP.out]; rfl
      · cases hs : s != sq
        · have hs' : s = sq := by simpa using hs
          have HE : Hid (na = (⟨sq, false, zeroC, G.map AV.p ++ [AV.p ⟨ye, yt, ya, yn, yc, yd⟩]⟩, 0)) := hide (by rw [HA.out, if_neg (by simp [hc0.out]), if_neg (by simp [hc1.out]), if_neg (by simp [hs'])]; rfl)
          have hg40 := HB.out hc0.out rfl
          clear hs' HA HB HP
          go_upto_region 8 with fail
          obtain ⟨ai, hi, hz, hsz, hby⟩ := ansInfo
          have hGl : G.length = gn := hok.g.len
          have h63 : G.length + 1 ≤ maxLen := by simp only [maxLen]; omega
          have h72 : (G.length + 1) * 40 ≤ 140737488355328 := by omega
          have x2l := x2.lt
          have HGL := hide hGl
          clear hGl
          have r0 := x1.cell 0 _ rfl
          have r1 := x1.cell 1 _ rfl
          have r2 := x1.cell 2 _ rfl
          go_region_held3 (fun w' => w'.cell? ⟨w.heap.size, 7, none⟩ = some (.slice ga gn gc) ∧ w'.cell? ⟨w.heap.size + 1, 0, none⟩ = some (.int .i64 ye) ∧ w'.cell? ⟨w.heap.size + 1, 1, none⟩ = some (.int .i64 yt) ∧ w'.cell? ⟨w.heap.size + 1, 2, none⟩ = some (.slice ya yn yc)) ((first | (go_simp; done) | (simp [*, World.cell?_alloc_at, World.cell?_alloc_past, World.cell?_alloc_some, World.cell?_setCell_far]; done))) (first
            | (go_at_call 26; refine (CloneA_c ga gn gc G _ (by refine Answers.below hok.g (B := w2.heap.size) ?_ (Nat.le_refl _); clear bw; (repeat first | exact bel0 | assumption | refine bel1 ?_ | refine bel2 ?_ | refine bel3 ?_ | refine belowT ?_ (by assumption) | refine bel5 ?_ (by simp; try omega))) (by omega)).mono ?_; rintro e w3 ⟨⟨v3, rfl, own3⟩, hb3⟩; (have b3 : Below w2.heap.size w2 w3 := by clear bw; (repeat first | exact bel0 | assumption | refine bel1 ?_ | refine bel2 ?_ | refine bel3 ?_ | refine belowT ?_ (by assumption) | refine bel5 ?_ (by simp; try omega))); (replace own3 := OwnA.mono own3 (base' := w2.heap.size) (by first | exact Nat.le_refl _ | (simp; done) | (simp; omega))); (obtain ⟨a3, c3, rfl, _, _⟩ := own3.recs); (have x13 := x1.below b3); (have x23 := x2.below b3); (have yk3 := AV.ok.below hyk b3 (Nat.le_refl _)); (have r7 := (x0.below b3).cell 7 _ rfl); (have s3 := b3.size); (have l3 := own3.own.lt); (have hy3 : ∀ g, Value.ownBlock (.slice a3 G.length c3) = some g → AV.off g ⟨ye, yt, ya, yn, yc, yd⟩ := fun g e => AV.ok.off hyk (l3 g e).1); (have hn3 : some (w.heap.size + 1 + 1) ≠ Value.ownBlock (.slice a3 G.length c3) := fun e => by have := (l3 _ e.symm).1; omega); (have hn1 : some (w.heap.size + 1) ≠ Value.ownBlock (.slice a3 G.length c3) := fun e => by have := (l3 _ e.symm).1; omega); (have hn0 : some w.heap.size ≠ Value.ownBlock (.slice a3 G.length c3) := fun e => by have := (l3 _ e.symm).1; omega); (have x03 := x0.below b3); (first | (have xs := Lay.below (Lay.made w2.drew [.int .i64 ye, .int .i64 yt, .slice ya yn yc] 30) hb3) | (have xs := Lay.below (Lay.made w2 [.int .i64 ye, .int .i64 yt, .slice ya yn yc] 30) hb3) | skip); (have r0 := x13.cell 0 _ rfl); (have r1 := x13.cell 1 _ rfl); (have r2 := x13.cell 2 _ rfl))
            | (refine step_append_lies _ rfl _ _ 25 rfl w2.heap.size 30 ai (.agg #[.int .i64 0, .int .i64 0, .slice none 0 0]) 3 40 Tryd.underlying25 hi hz hsz hby rfl (by decide) _ _ _ rfl (OwnA.below own3 (by clear bw b3; (repeat first | exact bel0 | assumption | refine bel1 ?_ | refine bel2 ?_ | refine bel3 ?_ | refine belowT ?_ (by assumption) | refine bel5 ?_ (by simp; try omega)))).own ⟨w3.heap.size, 0, none⟩ 1 1 (AV.cells ⟨ye, yt, ya, yn, yc, yd⟩) rfl rfl (fun j u hu => by rw [addr_add, Nat.zero_add]; exact (Lay.made w3.drew [.int .i64 ye, .int .i64 yt, .slice ya yn yc] 30).cell j u hu) (AV.cells_one _) (by decide) h63 h72 (by refine Nat.le_trans s3 ?_; first | exact Nat.le_refl _ | (simp; done) | (simp; omega)) _ rfl ?_; intro g5 cap5 w7 hown5 hg5 hat5 hlt5; (have hbY : Below w3.heap.size w3 (w3.drew.alloc (.cells [.int .i64 ye, .int .i64 yt, .slice ya yn yc].toArray 30)) := by clear bw b3; (repeat first | exact bel0 | assumption | refine bel1 ?_ | refine bel2 ?_ | refine bel3 ?_ | refine belowT ?_ (by assumption) | refine bel5 ?_ (by simp; try omega))); (have x27 := Lay.grownA (x23.below hbY) hg5 hn3); (have r7 := (Lay.grownA (x03.below hbY) hg5 hn0).cell 7 _ rfl); (have x17 := Lay.grownA (x13.below hbY) hg5 hn1); (have r0 := x17.cell 0 _ rfl); (have r1 := x17.cell 1 _ rfl); (have r2 := x17.cell 2 _ rfl); (have e0 := x27.cell 0 _ rfl); (have e1 := x27.cell 1 _ rfl); (have e2 := x27.cell 2 _ rfl); (have e3 := x27.cell 3 _ rfl); (have e4 := x27.cell 4 _ rfl); (have e5 := x27.cell 5 _ rfl); (have e6 := x27.cell 6 _ rfl); (have e7 := x27.cell 7 _ rfl); (have f0 := x27.ice 0); (have f1 := x27.ice 1); (have f2 := x27.ice 2); (have f3 := x27.ice 3); (have f4 := x27.ice 4); (have f5 := x27.ice 5); (have f6 := x27.ice 6); (have f7 := x27.ice 7))
            | (refine step_append_lies _ rfl _ _ 25 rfl w2.heap.size 30 ai (.agg #[.int .i64 0, .int .i64 0, .slice none 0 0]) 3 40 Tryd.underlying25 hi hz hsz hby rfl (by decide) _ _ _ rfl (OwnA.below own3 (by clear bw b3; (repeat first | exact bel0 | assumption | refine bel1 ?_ | refine bel2 ?_ | refine bel3 ?_ | refine belowT ?_ (by assumption) | refine bel5 ?_ (by simp; try omega)))).own ⟨w3.heap.size, 0, none⟩ 1 1 (AV.cells ⟨ye, yt, ya, yn, yc, yd⟩) rfl rfl (fun j u hu => by rw [addr_add, Nat.zero_add]; exact (Lay.made w3 [.int .i64 ye, .int .i64 yt, .slice ya yn yc] 30).cell j u hu) (AV.cells_one _) (by decide) h63 h72 (by refine Nat.le_trans s3 ?_; first | exact Nat.le_refl _ | (simp; done) | (simp; omega)) _ rfl ?_; intro g5 cap5 w7 hown5 hg5 hat5 hlt5; (have hbY : Below w3.heap.size w3 (w3.alloc (.cells [.int .i64 ye, .int .i64 yt, .slice ya yn yc].toArray 30)) := by clear bw b3; (repeat first | exact bel0 | assumption | refine bel1 ?_ | refine bel2 ?_ | refine bel3 ?_ | refine belowT ?_ (by assumption) | refine bel5 ?_ (by simp; try omega))); (have x27 := Lay.grownA (x23.below hbY) hg5 hn3); (have r7 := (Lay.grownA (x03.below hbY) hg5 hn0).cell 7 _ rfl); (have x17 := Lay.grownA (x13.below hbY) hg5 hn1); (have r0 := x17.cell 0 _ rfl); (have r1 := x17.cell 1 _ rfl); (have r2 := x17.cell 2 _ rfl); (have e0 := x27.cell 0 _ rfl); (have e1 := x27.cell 1 _ rfl); (have e2 := x27.cell 2 _ rfl); (have e3 := x27.cell 3 _ rfl); (have e4 := x27.cell 4 _ rfl); (have e5 := x27.cell 5 _ rfl); (have e6 := x27.cell 6 _ rfl); (have e7 := x27.cell 7 _ rfl); (have f0 := x27.ice 0); (have f1 := x27.ice 1); (have f2 := x27.ice 2); (have f3 := x27.ice 3); (have f4 := x27.ice 4); (have f5 := x27.ice 5); (have f6 := x27.ice 6); (have f7 := x27.ice 7))
            | (refine step_append_lies _ rfl _ _ 25 rfl w2.heap.size 30 ai (.agg #[.int .i64 0, .int .i64 0, .slice none 0 0]) 3 40 Tryd.underlying25 hi hz hsz hby rfl (by decide) _ _ _ rfl (OwnA.below own3 (by clear bw b3; (repeat first | exact bel0 | assumption | refine bel1 ?_ | refine bel2 ?_ | refine bel3 ?_ | refine belowT ?_ (by assumption) | refine bel5 ?_ (by simp; try omega)))).own ⟨w2.heap.size, 0, none⟩ 1 1 (AV.cells ⟨ye, yt, ya, yn, yc, yd⟩) rfl rfl (fun j u hu => by rw [addr_add, Nat.zero_add]; exact xs.drew.cell j u hu) (AV.cells_one _) (by decide) h63 h72 (by refine Nat.le_trans s3 ?_; first | exact Nat.le_refl _ | (simp; done) | (simp; omega)) _ rfl ?_; intro g5 cap5 w7 hown5 hg5 hat5 hlt5; (have hbY : Below w3.heap.size w3 w3.drew := by clear bw b3; (repeat first | exact bel0 | assumption | refine bel1 ?_ | refine bel2 ?_ | refine bel3 ?_ | refine belowT ?_ (by assumption) | refine bel5 ?_ (by simp; try omega))); (have x27 := Lay.grownA (x23.below hbY) hg5 hn3); (have r7 := (Lay.grownA (x03.below hbY) hg5 hn0).cell 7 _ rfl); (have x17 := Lay.grownA (x13.below hbY) hg5 hn1); (have r0 := x17.cell 0 _ rfl); (have r1 := x17.cell 1 _ rfl); (have r2 := x17.cell 2 _ rfl); (have e0 := x27.cell 0 _ rfl); (have e1 := x27.cell 1 _ rfl); (have e2 := x27.cell 2 _ rfl); (have e3 := x27.cell 3 _ rfl); (have e4 := x27.cell 4 _ rfl); (have e5 := x27.cell 5 _ rfl); (have e6 := x27.cell 6 _ rfl); (have e7 := x27.cell 7 _ rfl); (have f0 := x27.ice 0); (have f1 := x27.ice 1); (have f2 := x27.ice 2); (have f3 := x27.ice 3); (have f4 := x27.ice 4); (have f5 := x27.ice 5); (have f6 := x27.ice 6); (have f7 := x27.ice 7))
            | (refine step_append_lies _ rfl _ _ 25 rfl w2.heap.size 30 ai (.agg #[.int .i64 0, .int .i64 0, .slice none 0 0]) 3 40 Tryd.underlying25 hi hz hsz hby rfl (by decide) _ _ _ rfl (OwnA.below own3 (by clear bw b3; (repeat first | exact bel0 | assumption | refine bel1 ?_ | refine bel2 ?_ | refine bel3 ?_ | refine belowT ?_ (by assumption) | refine bel5 ?_ (by simp; try omega)))).own ⟨w2.heap.size, 0, none⟩ 1 1 (AV.cells ⟨ye, yt, ya, yn, yc, yd⟩) rfl rfl (fun j u hu => by rw [addr_add, Nat.zero_add]; exact xs.cell j u hu) (AV.cells_one _) (by decide) h63 h72 (by refine Nat.le_trans s3 ?_; first | exact Nat.le_refl _ | (simp; done) | (simp; omega)) _ rfl ?_; intro g5 cap5 w7 hown5 hg5 hat5 hlt5; (have hbY : Below w3.heap.size w3 w3 := by clear bw b3; (repeat first | exact bel0 | assumption | refine bel1 ?_ | refine bel2 ?_ | refine bel3 ?_ | refine belowT ?_ (by assumption) | refine bel5 ?_ (by simp; try omega))); (have x27 := Lay.grownA (x23.below hbY) hg5 hn3); (have r7 := (Lay.grownA (x03.below hbY) hg5 hn0).cell 7 _ rfl); (have x17 := Lay.grownA (x13.below hbY) hg5 hn1); (have r0 := x17.cell 0 _ rfl); (have r1 := x17.cell 1 _ rfl); (have r2 := x17.cell 2 _ rfl); (have e0 := x27.cell 0 _ rfl); (have e1 := x27.cell 1 _ rfl); (have e2 := x27.cell 2 _ rfl); (have e3 := x27.cell 3 _ rfl); (have e4 := x27.cell 4 _ rfl); (have e5 := x27.cell 5 _ rfl); (have e6 := x27.cell 6 _ rfl); (have e7 := x27.cell 7 _ rfl); (have f0 := x27.ice 0); (have f1 := x27.ice 1); (have f2 := x27.ice 2); (have f3 := x27.ice 3); (have f4 := x27.ice 4); (have f5 := x27.ice 5); (have f6 := x27.ice 6); (have f7 := x27.ice 7)))
          all_goals
            have oN := (OwnA.below own3 hbY).snoc (x := ⟨ye, yt, ya, yn, yc, yd⟩) (AV.ok.below yk3 hbY (Nat.le_refl _)) hy3 hown5 hg5 hat5
            have sY := hbY.size
            have b7 : Below w.heap.size w w7 := Below.grown (belowT bw (belowT b3 hbY)) hg5 (by omega) (fun k e => by have := (l3 k e).1; omega)
            obtain ⟨a7, c7, e7, Ra7, ha7⟩ := oN.recs
            simp only [Value.slice.injEq] at e7
            obtain ⟨e71, e72, e73⟩ := e7
            rw [← e71, ← e72, ← e73] at Ra7
            have hg5b := ha7 _ e71.symm
            have okh : NV.ok w7 ⟨sq, false, zeroC, none, 0, 0, some ⟨g5, 0, none⟩, G.length + 1, cap5, G ++ [⟨ye, yt, ya, yn, yc, yd⟩]⟩ := ⟨Ints.nilSlice w7, Ra7⟩
            have offh : ∀ R, R ≤ w.heap.size + 1 + 1 → NV.off R ⟨s, true, ⟨k, z, u, t, d⟩, ca, cn, cc, ga, gn, gc, G⟩ ∧ AV.off R ⟨ye, yt, ya, yn, yc, yd⟩ → NV.off R ⟨sq, false, zeroC, none, 0, 0, some ⟨g5, 0, none⟩, G.length + 1, cap5, G ++ [⟨ye, yt, ya, yn, yc, yd⟩]⟩ := fun R hR o => ⟨.inl rfl, .inr (fun z e => by cases e; simp only at hg5b ⊢; omega), fun x hx => by
              rcases List.mem_append.1 hx with hx | hx
              · exact o.1.g x hx
              · obtain rfl : x = _ := by simpa using hx
                exact o.2⟩
            clear e71 e72 e73 ha7 Ra7 oN hown5 hg5 hat5 x2 x23 x13 x17 x03 own3 bw b3 hbY
            have bw := b7
            have x2 := x27
            clear b7 x27
            have e0 := x2.cell 0 _ rfl
            have e1 := x2.cell 1 _ rfl
            have e2 := x2.cell 2 _ rfl
            have e3 := x2.cell 3 _ rfl
            have e4 := x2.cell 4 _ rfl
            have e5 := x2.cell 5 _ rfl
            have e6 := x2.cell 6 _ rfl
            have e7 := x2.cell 7 _ rfl
            have f0 := x2.ice 0
            have f1 := x2.ice 1
            have f2 := x2.ice 2
            have f3 := x2.ice 3
            have f4 := x2.ice 4
            have f5 := x2.ice 5
            have f6 := x2.ice 6
            have f7 := x2.ice 7
            go_wp2
            have zB := ((((((((x2.set 0 (.int .i64 sq)).set 1 (.bool false)).set 2 (.int .i64 0)).set 3 (.int .i64 0)).set 4 (.int .i64 0)).set 5 (.int .i64 0)).set 6 (.slice none 0 0)).set 7 (.slice (some ⟨g5, 0, none⟩) (G.length + 1) cap5))
            have hbut := (((((((((ButI.refl (w.heap.size + 1 + 1) w7).step 0 (.int .i64 sq)).step 1 (.bool false)).step 2 (.int .i64 0)).step 3 (.int .i64 0)).step 4 (.int .i64 0)).step 5 (.int .i64 0)).step 6 (.slice none 0 0)).step 7 (.slice (some ⟨g5, 0, none⟩) (G.length + 1) cap5))
            generalize ((((((((w7.setCell ⟨w.heap.size + 1 + 1, 0, none⟩ (.int .i64 sq)).setCell ⟨w.heap.size + 1 + 1, 1, none⟩ (.bool false)).setCell ⟨w.heap.size + 1 + 1, 2, none⟩ (.int .i64 0)).setCell ⟨w.heap.size + 1 + 1, 3, none⟩ (.int .i64 0)).setCell ⟨w.heap.size + 1 + 1, 4, none⟩ (.int .i64 0)).setCell ⟨w.heap.size + 1 + 1, 5, none⟩ (.int .i64 0)).setCell ⟨w.heap.size + 1 + 1, 6, none⟩ (.slice none 0 0)).setCell ⟨w.heap.size + 1 + 1, 7, none⟩ (.slice (some ⟨g5, 0, none⟩) (G.length + 1) cap5)) = w99 at *
            have z0 := zB.cell 0 _ rfl
            have z1 := zB.cell 1 _ rfl
            have z2 := zB.cell 2 _ rfl
            have z3 := zB.cell 3 _ rfl
            have z4 := zB.cell 4 _ rfl
            have z5 := zB.cell 5 _ rfl
            have z6 := zB.cell 6 _ rfl
            have z7 := zB.cell 7 _ rfl
            have o9 := okh.but hbut.but (offh _ (by omega) (hoR _ (by omega)))
            refine bodyPost_ret (v := .tuple #[.agg #[.int .i64 sq, .bool false, .int .i64 0, .int .i64 0, .int .i64 0, .int .i64 0, .slice none 0 0, .slice (some ⟨g5, 0, none⟩) (G.length + 1) cap5], .int .i64 0]) (by simp [results, Tryd.results9, go_sem, z0, z1, z2, z3, z4, z5, z6, z7]) rfl ⟨⟨⟨sq, false, zeroC, none, 0, 0, some ⟨g5, 0, none⟩, G.length + 1, cap5, G ++ [⟨ye, yt, ya, yn, yc, yd⟩]⟩, ?_, o9, fun R hR ho => offh R (by omega) ho, ?_⟩, bw.trans (hbut.below (B := w.heap.size) (by omega))⟩
            · rw [HE.out]; rfl
            · rw [HE.out]; simp [NV.p]
        · have HE : Hid (na = (hp, 0)) := hide (by rw [HA.out, if_neg (by simp [hc0.out]), if_neg (by simp [hc1.out]), if_pos (.inr (by simpa using hs))])
          have okh := hok
          have offh : ∀ R, R ≤ w.heap.size + 1 + 1 → NV.off R ⟨s, true, ⟨k, z, u, t, d⟩, ca, cn, cc, ga, gn, gc, G⟩ ∧ AV.off R ⟨ye, yt, ya, yn, yc, yd⟩ → NV.off R ⟨s, true, ⟨k, z, u, t, d⟩, ca, cn, cc, ga, gn, gc, G⟩ := fun R _ o => o.1
          have e0 := x2.cell 0 _ rfl
          have e1 := x2.cell 1 _ rfl
          have e2 := x2.cell 2 _ rfl
          have e3 := x2.cell 3 _ rfl
          have e4 := x2.cell 4 _ rfl
          have e5 := x2.cell 5 _ rfl
          have e6 := x2.cell 6 _ rfl
          have e7 := x2.cell 7 _ rfl
          have f0 := x2.ice 0
          have f1 := x2.ice 1
          have f2 := x2.ice 2
          have f3 := x2.ice 3
          have f4 := x2.ice 4
          have f5 := x2.ice 5
          have f6 := x2.ice 6
          have f7 := x2.ice 7
          go_wp2
          have zB := ((((((((x2.set 0 (.int .i64 s)).set 1 (.bool true)).set 2 (.int .i64 k)).set 3 (.int .i64 z)).set 4 (.int .i64 u)).set 5 (.int .i64 t)).set 6 (.slice ca cn cc)).set 7 (.slice ga gn gc))
          have hbut := (((((((((ButI.refl (w.heap.size + 1 + 1) w2).step 0 (.int .i64 s)).step 1 (.bool true)).step 2 (.int .i64 k)).step 3 (.int .i64 z)).step 4 (.int .i64 u)).step 5 (.int .i64 t)).step 6 (.slice ca cn cc)).step 7 (.slice ga gn gc))
          generalize ((((((((w2.setCell ⟨w.heap.size + 1 + 1, 0, none⟩ (.int .i64 s)).setCell ⟨w.heap.size + 1 + 1, 1, none⟩ (.bool true)).setCell ⟨w.heap.size + 1 + 1, 2, none⟩ (.int .i64 k)).setCell ⟨w.heap.size + 1 + 1, 3, none⟩ (.int .i64 z)).setCell ⟨w.heap.size + 1 + 1, 4, none⟩ (.int .i64 u)).setCell ⟨w.heap.size + 1 + 1, 5, none⟩ (.int .i64 t)).setCell ⟨w.heap.size + 1 + 1, 6, none⟩ (.slice ca cn cc)).setCell ⟨w.heap.size + 1 + 1, 7, none⟩ (.slice ga gn gc)) = w99 at *
          have z0 := zB.cell 0 _ rfl
          have z1 := zB.cell 1 _ rfl
          have z2 := zB.cell 2 _ rfl
          have z3 := zB.cell 3 _ rfl
          have z4 := zB.cell 4 _ rfl
          have z5 := zB.cell 5 _ rfl
          have z6 := zB.cell 6 _ rfl
          have z7 := zB.cell 7 _ rfl
          have o9 := okh.but hbut.but (offh _ (by omega) (hoR _ (by omega)))
          refine bodyPost_ret (v := .tuple #[.agg #[.int .i64 s, .bool true, .int .i64 k, .int .i64 z, .int .i64 u, .int .i64 t, .slice ca cn cc, .slice ga gn gc], .int .i64 0]) (by simp [results, Tryd.results9, go_sem, z0, z1, z2, z3, z4, z5, z6, z7]) rfl ⟨⟨⟨s, true, ⟨k, z, u, t, d⟩, ca, cn, cc, ga, gn, gc, G⟩, ?_, o9, fun R hR ho => offh R (by omega) ho, ?_⟩, bw.trans (hbut.below (B := w.heap.size) (by omega))⟩
          · rw [HE.out]; rfl
          · rw [HE.out, HP.out]; rfl
    · have HE : Hid (na = (zeroN, cy)) := hide (by rw [HA.out, if_neg (by simp [hc0.out]), if_pos (by simpa using h1)])
      have okh := NV.zero_ok w2
      have offh : ∀ R, R ≤ w.heap.size + 1 + 1 → NV.off R ⟨s, v, ⟨k, z, u, t, d⟩, ca, cn, cc, ga, gn, gc, G⟩ ∧ AV.off R ⟨ye, yt, ya, yn, yc, yd⟩ → NV.off R NV.zero := fun R _ _ => NV.zero_off R
      have e0 := x2.cell 0 _ rfl
      have e1 := x2.cell 1 _ rfl
      have e2 := x2.cell 2 _ rfl
      have e3 := x2.cell 3 _ rfl
      have e4 := x2.cell 4 _ rfl
      have e5 := x2.cell 5 _ rfl
      have e6 := x2.cell 6 _ rfl
      have e7 := x2.cell 7 _ rfl
      have f0 := x2.ice 0
      have f1 := x2.ice 1
      have f2 := x2.ice 2
      have f3 := x2.ice 3
      have f4 := x2.ice 4
      have f5 := x2.ice 5
      have f6 := x2.ice 6
      have f7 := x2.ice 7
      go_wp2
      have zB := ((((((((x2.set 0 (.int .i64 0)).set 1 (.bool false)).set 2 (.int .i64 0)).set 3 (.int .i64 0)).set 4 (.int .i64 0)).set 5 (.int .i64 0)).set 6 (.slice none 0 0)).set 7 (.slice none 0 0))
      have hbut := (((((((((ButI.refl (w.heap.size + 1 + 1) w2).step 0 (.int .i64 0)).step 1 (.bool false)).step 2 (.int .i64 0)).step 3 (.int .i64 0)).step 4 (.int .i64 0)).step 5 (.int .i64 0)).step 6 (.slice none 0 0)).step 7 (.slice none 0 0))
      generalize ((((((((w2.setCell ⟨w.heap.size + 1 + 1, 0, none⟩ (.int .i64 0)).setCell ⟨w.heap.size + 1 + 1, 1, none⟩ (.bool false)).setCell ⟨w.heap.size + 1 + 1, 2, none⟩ (.int .i64 0)).setCell ⟨w.heap.size + 1 + 1, 3, none⟩ (.int .i64 0)).setCell ⟨w.heap.size + 1 + 1, 4, none⟩ (.int .i64 0)).setCell ⟨w.heap.size + 1 + 1, 5, none⟩ (.int .i64 0)).setCell ⟨w.heap.size + 1 + 1, 6, none⟩ (.slice none 0 0)).setCell ⟨w.heap.size + 1 + 1, 7, none⟩ (.slice none 0 0)) = w99 at *
      have z0 := zB.cell 0 _ rfl
      have z1 := zB.cell 1 _ rfl
      have z2 := zB.cell 2 _ rfl
      have z3 := zB.cell 3 _ rfl
      have z4 := zB.cell 4 _ rfl
      have z5 := zB.cell 5 _ rfl
      have z6 := zB.cell 6 _ rfl
      have z7 := zB.cell 7 _ rfl
      have o9 := okh.but hbut.but (offh _ (by omega) (hoR _ (by omega)))
      refine bodyPost_ret (v := .tuple #[.agg #[.int .i64 0, .bool false, .int .i64 0, .int .i64 0, .int .i64 0, .int .i64 0, .slice none 0 0, .slice none 0 0], .int .i64 cy]) (by simp [results, Tryd.results9, go_sem, z0, z1, z2, z3, z4, z5, z6, z7]) rfl ⟨⟨NV.zero, ?_, o9, fun R hR ho => offh R (by omega) ho, ?_⟩, bw.trans (hbut.below (B := w.heap.size) (by omega))⟩
      · rw [HE.out]; rfl
      · rw [HE.out]; rfl
  · have HE : Hid (na = (zeroN, ch)) := hide (by rw [HA.out, if_pos (by simpa using h0)])
    have okh := NV.zero_ok w1
    have offh : ∀ R, R ≤ w.heap.size + 1 + 1 → NV.off R ⟨s, v, ⟨k, z, u, t, d⟩, ca, cn, cc, ga, gn, gc, G⟩ ∧ AV.off R ⟨ye, yt, ya, yn, yc, yd⟩ → NV.off R NV.zero := fun R _ _ => NV.zero_off R
    have h0' : (ch == 0) = false := by simpa using h0
    have e0 := x2.cell 0 _ rfl
    have e1 := x2.cell 1 _ rfl
    have e2 := x2.cell 2 _ rfl
    have e3 := x2.cell 3 _ rfl
    have e4 := x2.cell 4 _ rfl
    have e5 := x2.cell 5 _ rfl
    have e6 := x2.cell 6 _ rfl
    have e7 := x2.cell 7 _ rfl
    have f0 := x2.ice 0
    have f1 := x2.ice 1
    have f2 := x2.ice 2
    have f3 := x2.ice 3
    have f4 := x2.ice 4
    have f5 := x2.ice 5
    have f6 := x2.ice 6
    have f7 := x2.ice 7
    go_wp2
    have zB := ((((((((x2.set 0 (.int .i64 0)).set 1 (.bool false)).set 2 (.int .i64 0)).set 3 (.int .i64 0)).set 4 (.int .i64 0)).set 5 (.int .i64 0)).set 6 (.slice none 0 0)).set 7 (.slice none 0 0))
    have hbut := (((((((((ButI.refl (w.heap.size + 1 + 1) w1).step 0 (.int .i64 0)).step 1 (.bool false)).step 2 (.int .i64 0)).step 3 (.int .i64 0)).step 4 (.int .i64 0)).step 5 (.int .i64 0)).step 6 (.slice none 0 0)).step 7 (.slice none 0 0))
    generalize ((((((((w1.setCell ⟨w.heap.size + 1 + 1, 0, none⟩ (.int .i64 0)).setCell ⟨w.heap.size + 1 + 1, 1, none⟩ (.bool false)).setCell ⟨w.heap.size + 1 + 1, 2, none⟩ (.int .i64 0)).setCell ⟨w.heap.size + 1 + 1, 3, none⟩ (.int .i64 0)).setCell ⟨w.heap.size + 1 + 1, 4, none⟩ (.int .i64 0)).setCell ⟨w.heap.size + 1 + 1, 5, none⟩ (.int .i64 0)).setCell ⟨w.heap.size + 1 + 1, 6, none⟩ (.slice none 0 0)).setCell ⟨w.heap.size + 1 + 1, 7, none⟩ (.slice none 0 0)) = w99 at *
    have z0 := zB.cell 0 _ rfl
    have z1 := zB.cell 1 _ rfl
    have z2 := zB.cell 2 _ rfl
    have z3 := zB.cell 3 _ rfl
    have z4 := zB.cell 4 _ rfl
    have z5 := zB.cell 5 _ rfl
    have z6 := zB.cell 6 _ rfl
    have z7 := zB.cell 7 _ rfl
    have o9 := okh.but hbut.but (offh _ (by omega) (hoR _ (by omega)))
    refine bodyPost_ret (v := .tuple #[.agg #[.int .i64 0, .bool false, .int .i64 0, .int .i64 0, .int .i64 0, .int .i64 0, .slice none 0 0, .slice none 0 0], .int .i64 ch]) (by simp [results, Tryd.results9, go_sem, z0, z1, z2, z3, z4, z5, z6, z7]) rfl ⟨⟨NV.zero, ?_, o9, fun R hR ho => offh R (by omega) ho, ?_⟩, bw.trans (hbut.below (B := w.heap.size) (by omega))⟩
    · rw [HE.out]; rfl
    · rw [HE.out]; rfl

end Go.Proofs.YtklabieacbbbfaaDoor
