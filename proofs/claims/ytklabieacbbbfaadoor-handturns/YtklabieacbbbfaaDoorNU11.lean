/- The contracts of plain.CopyHand; no condition but that the hand reads as data, and is no greater than a machine bears. -/
import Derived.Test.YtklabieacbbbfaaDoorNU5
import Derived.Test.YtklabieacbbbfaaDoorNU9
import Derived.Test.YtklabieacbbbfaaDoorNU10
namespace Go.Proofs.YtklabieacbbbfaaDoor
open Go.RowKit
set_option linter.unusedVariables false
set_option maxRecDepth 100000
set_option linter.unusedSimpArgs false

def ansK : Kin AV where
  k := 3
  cs := AV.cells
  ok w x := x.ok w
  off R x := x.off R
  len _ := rfl
  one x := x.cells_one
  below h _ hb hB := Ints.below h hb hB
  but h hb ho := AV.ok.but h hb ho
  far h hR := AV.ok.off h hR
def ansN : NewK ansK where
  new B x := x.new B
  off h hR := h _ hR
  mono h hb := AV.new.mono h hb
  zero := AV.err 0
  zero_new B := AV.err_new B 0
  zero_ok w := AV.err_ok w 0
theorem AV.lay {w : World} {b o : Nat} {x : AV} (h : ∀ j v, (ansK.cs x)[j]? = some v → w.cell? ⟨b, o + j, none⟩ = some v) : w.cell? ⟨b, o, none⟩ = some (.int .i64 x.e) ∧ w.cell? ⟨b, o + 1, none⟩ = some (.int .i64 x.t) ∧ w.cell? ⟨b, o + 2, none⟩ = some (.slice x.a x.n x.c) :=
  ⟨h 0 _ rfl, h 1 _ rfl, h 2 _ rfl⟩
theorem Answers.rows' {w : World} {a : Option Addr} {n c : Nat} {X : List AV} (h : Answers w a n c X) : Rows' ansK w a n c X := ⟨h.len, h.le, h.max, h.nil, h.row, h.ok⟩
theorem pans_c (x : AV) (w : World) (h : x.ok w) (hn : x.n ≤ 100000) : Calls Tryd.prog 23 #[x.v] w (Copy1 ansK AV.v AV.p ansN x w) :=
  (pwholeA_c x w h hn).mono fun e w' ⟨⟨q, h1, h2, h3, _⟩, h4⟩ => ⟨⟨⟨x.e, x.t, some ⟨q, 0, none⟩, x.n, x.n, x.d⟩, h1, h2, fun R hR => .inr fun y e => by cases e; simp; omega, rfl⟩, h4⟩

theorem panss_info : ∃ i, Tryd.prog.info? 30 = some i ∧ i.zero = some (.agg #[.int .i64 0, .int .i64 0, .slice none 0 0]) ∧ i.size = 3 ∧ i.bytes ≤ 1000 := by
  have h : (Tryd.prog.info? 30).map (fun i => (i.zero, i.size, Nat.ble i.bytes 1000)) = some (some (.agg #[.int .i64 0, .int .i64 0, .slice none 0 0]), 3, true) := by kernel_rfl
  obtain ⟨i, hi, h⟩ := Option.map_eq_some_iff.1 h
  simp only [Prod.mk.injEq] at h
  exact ⟨i, hi, h.1, h.2.1, Nat.le_of_ble_eq_true h.2.2⟩
theorem panss_mk (n : Nat) (hn : n ≤ 1000000) (w : World) : (Instr.makeSlice 25 (.int .i64 (n : Int)) (.int .i64 (n : Int))).run Tryd.prog w = .ok (.slice (some ⟨w.heap.size, 0, none⟩) n n) (w.alloc (.cells (ansK.cells (List.replicate n ansN.zero)).toArray 30)) := by
  obtain ⟨i, hi, hz, hs, hb⟩ := panss_info
  exact mkR ansK (P := Tryd.prog) ansN.zero Tryd.underlying25 hi hz rfl rfl hs hb (by decide) n hn w
set_option maxRecDepth 100000 in
set_option maxHeartbeats 4000000 in
theorem panss_c (a : Option Addr) (n c : Nat) (X : List AV) (w : World) (h : Rows' ansK w a n c X) (hn : n ≤ 1000000) (hF : ∀ x ∈ X, ∀ w' : World, ansK.ok w' x → Calls Tryd.prog 23 #[x.v] w' (Copy1 ansK AV.v AV.p ansN x w')) :
    Calls Tryd.prog 40 #[.slice a n c, .func (Fn.func 23) #[] #[]] w (Copied ansK 30 AV.p ansN w n X) := by
  have hmk := panss_mk n hn
  have HM := hide (fun w' => MineR.made ansK 30 ansN.zero ansN.zero_ok n w')
  generalize (ansK.cells (List.replicate n ansN.zero)).toArray = xs at *
  have hlen := hide h.len
  have hmax := h.max
  have hle := h.le
  have HF := hide hF
  clear hF
  go_enter Tryd.func40, Tryd.ntmps40
  go_wp2
  go_loopw [13] (fun i wr => ∃ wz : World, wz = wr ∧ ∃ (j : Nat) (Y : List AV), j ≤ n ∧ i = .int .i64 (j : Nat) ∧ MineR ansK 30 wz w.heap.size Y ∧ Y.length = n ∧ (Y.take j).map AV.p = (X.take j).map AV.p ∧ (∀ y ∈ Y, ansN.new (w.heap.size + 1) y) ∧ Below w.heap.size w wz) (fun i _ => n - (intOf i).toNat)
  case atStart => exact ⟨_, rfl, 0, _, by omega, rfl, HM.out w, by simp, by simp, fun y hy => by rw [List.eq_of_mem_replicate hy]; exact ansN.zero_new _, by (repeat first | exact bel0 | assumption | refine bel1 ?_ | refine bel2 ?_ | refine bel3 ?_ | refine belowT ?_ (by assumption) | refine bel5 ?_ (by simp; try omega))⟩
  case round =>
    obtain ⟨wr, rfl, j, Y, hj, rfl, hm, hl, hp, hnw, hbr⟩ := hrel
    have HP := hide hp
    have HL := hide hl
    have HN := hide hnw
    clear hp hl hnw hmk
    by_cases hlt : j < n
    · obtain ⟨b, off, x, rfl, hx, hxk, hb, kx⟩ := h.at hlt
      have HX := hide hx
      have HW := hide (HF.out x (List.mem_of_getElem? hx))
      have hxr := ansK.below hxk hbr (Nat.le_refl _)
      have LX := AV.lay (b := b) (o := off + j * 3) (fun i v h => keepc hbr (kx i v h))
      have hlt' : (j : Int) < (n : Int) := by omega
      have HG := hide hm.lay.lt
      clear hx kx hxk
      dsimp only [AV.v] at HW
      obtain ⟨c0, c1, c2⟩ := LX
      go_wp2_with fail
      refine (HW.out _ (ansK.below hxr (B := wr.heap.size) (by (repeat first | exact bel0 | assumption | refine bel1 ?_ | refine bel2 ?_ | refine bel3 ?_ | refine belowT ?_ (by assumption) | refine bel5 ?_ (by simp; try omega))) (Nat.le_refl _))).mono ?_
      rintro e w2 ⟨⟨y, rfl, hyk, hyn, hyp⟩, hb2⟩
      have b2 : Below wr.heap.size wr w2 := by (repeat first | exact bel0 | assumption | refine bel1 ?_ | refine bel2 ?_ | refine bel3 ?_ | refine belowT ?_ (by assumption) | refine bel5 ?_ (by simp; try omega))
      replace hm := hm.below b2
      have hgl := hm.lay.lt
      have hgs := HG.out
      have bw2 := belowT hbr b2
      have hjY : j < Y.length := by rw [HL.out]; exact hlt
      simp only [World.size_alloc] at hyn
      clear hb2 b2 HW hxr c0 c1 c2
      obtain ⟨u0, y0⟩ : ∃ u, w2.cell? ⟨w.heap.size, j * 3, none⟩ = some u := hm.at (j := 0) hjY (by decide)
      have s0 := hm.lay.ice (j * 3)
      obtain ⟨u1, y1⟩ : ∃ u, w2.cell? ⟨w.heap.size, j * 3 + 1, none⟩ = some u := hm.at (j := 1) hjY (by decide)
      have s1 := hm.lay.ice (j * 3 + 1)
      obtain ⟨u2, y2⟩ : ∃ u, w2.cell? ⟨w.heap.size, j * 3 + 2, none⟩ = some u := hm.at (j := 2) hjY (by decide)
      have s2 := hm.lay.ice (j * 3 + 2)
      dsimp only [AV.v]
      go_wp2
      have hoff : ∀ z ∈ Y, ansK.off w.heap.size z := fun z hz => ansN.off (HN.out z hz) (by omega)
      have hput := hm.put hjY hyk hoff (ansN.off hyn (by omega))
      have bput := (putAll_but w.heap.size (ansK.cs y) w2 (j * ansK.k)).below (B := w.heap.size) (Nat.le_refl _)
      exact ⟨⟨_, rfl, j + 1, _, by omega, by go_num, hput, by rw [List.length_set]; exact HL.out, take_setK HX.out hjY HP.out hyp, fun z hz => by
        rcases List.mem_or_eq_of_mem_set hz with hz | rfl
        · exact HN.out z hz
        · exact ansN.mono hyn (by omega), bw2.trans bput⟩, by simp [intOf]; omega⟩
    · obtain rfl : j = n := by omega
      go_wp2
      go_ret
      have hp := HP.out
      rw [List.take_of_length_le (by rw [HL.out]; omega), List.take_of_length_le (by rw [hlen.out]; omega)] at hp
      exact ⟨⟨_, _, rfl, hm, HL.out, hp, Nat.le_refl _, HN.out⟩, hbr⟩


set_option maxRecDepth 100000 in
set_option maxHeartbeats 8000000 in
theorem phand_c (h : NV) (w : World) (hk : h.ok w) (hcn : h.cn ≤ 100000) (hgn : h.gn ≤ 1000000) (hxs : ∀ x ∈ h.G, x.n ≤ 100000) :
    Calls Tryd.prog 20 #[h.v] w fun e w' => (∃ q g X', e = .returned (NV.v ⟨h.s, h.w, h.c, some ⟨q, 0, none⟩, h.cn, h.cn, some ⟨g, 0, none⟩, h.gn, h.gn, X'⟩) ∧ Ints w' (some ⟨q, 0, none⟩) h.cn h.cn h.c.d ∧ w.heap.size ≤ q ∧ q < g ∧ MineA w' g X' ∧ X'.length = h.gn ∧ X'.map AV.p = h.G.map AV.p) ∧ Below w.heap.size w w' := by
  have HL := hide (fun w' h' => panss_c h.ga h.gn h.gc h.G w' h' hgn (fun x hx w'' h'' => pans_c x w'' h'' (hxs x hx)))
  obtain ⟨x0, x1, x2, bw⟩ := three_boxes w h.cells NV.zero.cells h.cells 27 27 27
  have hok := hk.below bw (Nat.le_refl _)
  rw [show h.v = .agg h.cells.toArray from rfl] at *
  obtain ⟨s, v, ⟨k, z, u, t, d⟩, ca, cn, cc, ga, gn, gc, G⟩ := h
  dsimp only [NV.cells, NV.zero, zeroC] at *
  go_enter Tryd.func20, Tryd.ntmps20
  go_upto_region 2 with fail
  generalize ((w.alloc (.cells [.int .i64 s, .bool v, .int .i64 k, .int .i64 z, .int .i64 u, .int .i64 t, .slice ca cn cc, .slice ga gn gc].toArray 27)).alloc (.cells [.int .i64 0, .bool false, .int .i64 0, .int .i64 0, .int .i64 0, .int .i64 0, .slice none 0 0, .slice none 0 0].toArray 27)).alloc (.cells [.int .i64 s, .bool v, .int .i64 k, .int .i64 z, .int .i64 u, .int .i64 t, .slice ca cn cc, .slice ga gn gc].toArray 27) = w1 at *
  obtain ⟨c0, c1, c2, c3, c4, c5, c6, c7⟩ := x0.eight
  go_wp2_with fail
  refine (pwholeC_c ca cn cc ⟨k, z, u, t, d⟩ _ hok.c (by omega)).mono ?_
  rintro e w2 ⟨⟨q, rfl, iq, hq, hq2⟩, hb2⟩
  have hqw : w.heap.size + 1 + 1 < q := by have := x2.lt; omega
  clear c0 c1 c2 c3 c4 c5 c6 c7 hq
  dsimp only [cmdV] at *
  replace x0 := x0.below hb2
  replace x1 := x1.below hb2
  replace x2 := x2.below hb2
  replace hok := hok.below hb2 (Nat.le_refl _)
  replace bw := belowT bw hb2
  clear hb2
  obtain ⟨e0, e1, e2, e3, e4, e5, e6, e7⟩ := x2.eight
  have f0 := x2.ice 0
  have f1 := x2.ice 1
  have f2 := x2.ice 2
  have f3 := x2.ice 3
  have f4 := x2.ice 4
  have f5 := x2.ice 5
  have f6 := x2.ice 6
  have f7 := x2.ice 7
  go_upto_region 3 with fail
  have hbut := (((((ButI.refl (w.heap.size + 1 + 1) w2).step 2 (.int .i64 k)).step 3 (.int .i64 z)).step 4 (.int .i64 u)).step 5 (.int .i64 t)).step 6 (.slice (some ⟨q, 0, none⟩) cn cn)
  have y2 : Lay _ _ [.int .i64 s, .bool v, .int .i64 k, .int .i64 z, .int .i64 u, .int .i64 t, .slice (some ⟨q, 0, none⟩) cn cn, .slice ga gn gc] := ((((x2.set 2 (.int .i64 k)).set 3 (.int .i64 z)).set 4 (.int .i64 u)).set 5 (.int .i64 t)).set 6 (.slice (some ⟨q, 0, none⟩) cn cn)
  replace x0 := x0.butI hbut (by omega)
  replace x1 := x1.butI hbut (by omega)
  have hgo : ∀ R, w.heap.size ≤ R → NV.off R ⟨s, v, ⟨k, z, u, t, d⟩, ca, cn, cc, ga, gn, gc, G⟩ := fun R hR => hk.off hR
  replace hok := hok.but hbut.but (hgo _ (by omega))
  replace iq := iq.but hbut.but (.inr fun x e => by cases e; simp; omega)
  replace bw := bw.trans (hbut.below (B := w.heap.size) (by omega))
  have hsz := hbut.but.size
  clear x2 e0 e1 e2 e3 e4 e5 e6 e7 f0 f1 f2 f3 f4 f5 f6 f7 hbut
  generalize ((((w2.setCell ⟨w.heap.size + 1 + 1, 2, none⟩ (.int .i64 k)).setCell ⟨w.heap.size + 1 + 1, 3, none⟩ (.int .i64 z)).setCell ⟨w.heap.size + 1 + 1, 4, none⟩ (.int .i64 u)).setCell ⟨w.heap.size + 1 + 1, 5, none⟩ (.int .i64 t)).setCell ⟨w.heap.size + 1 + 1, 6, none⟩ (.slice (some ⟨q, 0, none⟩) cn cn) = w3 at *
  have hqs : q < w3.heap.size := by omega
  have h7 := x0.cell 7 _ rfl
  go_wp2_with fail
  refine (HL.out _ (Answers.rows' hok.g)).mono ?_
  rintro e w4 ⟨⟨g, X', rfl, hm0, hl, hp, hg, hyn⟩, hb4⟩
  have hgB : w.heap.size + 1 + 1 < g := by have := y2.lt; omega
  have hqg : q < g := by omega
  replace x1 := x1.below hb4
  replace y2 := y2.below hb4
  replace iq := iq.below hb4 (Nat.le_refl _)
  replace bw := belowT bw hb4
  have hm : MineA w4 g X' := ⟨hm0.lay, hm0.ok, hyn, hm0.row⟩
  clear h7 hb4 hm0 x0
  have n7 := y2.cell 7 _ rfl
  have m7 := y2.ice 7
  go_upto_region 4 with fail
  have c2 := (ButI.refl (w.heap.size + 1 + 1) w4).step 7 (.slice (some ⟨g, 0, none⟩) gn gn)
  replace iq := iq.but c2.but (.inr fun x e => by cases e; simp; omega)
  replace x1 := x1.butI c2 (by omega)
  have x2 : Lay _ _ [.int .i64 s, .bool v, .int .i64 k, .int .i64 z, .int .i64 u, .int .i64 t, .slice (some ⟨q, 0, none⟩) cn cn, .slice (some ⟨g, 0, none⟩) gn gn] := y2.set 7 (.slice (some ⟨g, 0, none⟩) gn gn)
  replace hm := hm.far1 ⟨w.heap.size + 1 + 1, 7, none⟩ (.slice (some ⟨g, 0, none⟩) gn gn) (by simp; omega)
  replace bw := bw.trans (c2.below (B := w.heap.size) (by omega))
  generalize w4.setCell ⟨w.heap.size + 1 + 1, 7, none⟩ (.slice (some ⟨g, 0, none⟩) gn gn) = w5 at *
  clear c2 y2 n7 m7
  obtain ⟨e0, e1, e2, e3, e4, e5, e6, e7⟩ := x1.eight
  have f0 := x1.ice 0
  have f1 := x1.ice 1
  have f2 := x1.ice 2
  have f3 := x1.ice 3
  have f4 := x1.ice 4
  have f5 := x1.ice 5
  have f6 := x1.ice 6
  have f7 := x1.ice 7
  obtain ⟨a0, a1, a2, a3, a4, a5, a6, a7⟩ := x2.eight
  go_wp2
  have zB := ((((((((x1.set 0 (.int .i64 s)).set 1 (.bool v)).set 2 (.int .i64 k)).set 3 (.int .i64 z)).set 4 (.int .i64 u)).set 5 (.int .i64 t)).set 6 (.slice (some ⟨q, 0, none⟩) cn cn)).set 7 (.slice (some ⟨g, 0, none⟩) gn gn))
  have hbut := (((((((((ButI.refl (w.heap.size + 1) w5).step 0 (.int .i64 s)).step 1 (.bool v)).step 2 (.int .i64 k)).step 3 (.int .i64 z)).step 4 (.int .i64 u)).step 5 (.int .i64 t)).step 6 (.slice (some ⟨q, 0, none⟩) cn cn)).step 7 (.slice (some ⟨g, 0, none⟩) gn gn))
  have hm9 := (((((((hm.far1 ⟨w.heap.size + 1, 0, none⟩ (.int .i64 s) (by simp; omega)).far1 ⟨w.heap.size + 1, 1, none⟩ (.bool v) (by simp; omega)).far1 ⟨w.heap.size + 1, 2, none⟩ (.int .i64 k) (by simp; omega)).far1 ⟨w.heap.size + 1, 3, none⟩ (.int .i64 z) (by simp; omega)).far1 ⟨w.heap.size + 1, 4, none⟩ (.int .i64 u) (by simp; omega)).far1 ⟨w.heap.size + 1, 5, none⟩ (.int .i64 t) (by simp; omega)).far1 ⟨w.heap.size + 1, 6, none⟩ (.slice (some ⟨q, 0, none⟩) cn cn) (by simp; omega)).far1 ⟨w.heap.size + 1, 7, none⟩ (.slice (some ⟨g, 0, none⟩) gn gn) (by simp; omega)
  generalize ((((((((w5.setCell ⟨w.heap.size + 1, 0, none⟩ (.int .i64 s)).setCell ⟨w.heap.size + 1, 1, none⟩ (.bool v)).setCell ⟨w.heap.size + 1, 2, none⟩ (.int .i64 k)).setCell ⟨w.heap.size + 1, 3, none⟩ (.int .i64 z)).setCell ⟨w.heap.size + 1, 4, none⟩ (.int .i64 u)).setCell ⟨w.heap.size + 1, 5, none⟩ (.int .i64 t)).setCell ⟨w.heap.size + 1, 6, none⟩ (.slice (some ⟨q, 0, none⟩) cn cn)).setCell ⟨w.heap.size + 1, 7, none⟩ (.slice (some ⟨g, 0, none⟩) gn gn)) = w9 at *
  obtain ⟨r0, r1, r2, r3, r4, r5, r6, r7⟩ := zB.eight
  exact bodyPost_ret (v := .agg #[.int .i64 s, .bool v, .int .i64 k, .int .i64 z, .int .i64 u, .int .i64 t, .slice (some ⟨q, 0, none⟩) cn cn, .slice (some ⟨g, 0, none⟩) gn gn]) (by simp [results, Tryd.results20, go_sem, r0, r1, r2, r3, r4, r5, r6, r7]) rfl
    ⟨⟨q, g, X', rfl, iq.but hbut.but (.inr fun x e => by cases e; simp; omega), by omega, by omega, hm9, hl, hp⟩, bw.trans (hbut.below (B := w.heap.size) (by omega))⟩

end Go.Proofs.YtklabieacbbbfaaDoor

/- The contract of hand's whole copy; no condition but that the hand is a right one. -/
namespace Go.Proofs.YtklabieacbbbfaaDoor
open Go.RowKit
set_option linter.unusedVariables false
set_option maxRecDepth 100000
set_option linter.unusedSimpArgs false

/-- What a right hand holds is small. -/
theorem hand_small {h : NV} {w : World} (hk : h.ok w) (hc : checkN h.p = 0) : h.cn ≤ 8 ∧ h.gn ≤ 40 ∧ ∀ x ∈ h.G, x.n ≤ 8 := by
  obtain ⟨h1, h2, h3, h4⟩ := checkN_ok hc
  have hl := hk.g.len
  have hcl := hk.c.len
  have e1 : h.p.s = h.s := rfl
  have e2 : h.p.g.length = h.gn := by simp [NV.p, hl]
  refine ⟨?_, ?_, fun x hx => ?_⟩
  · cases hw : h.w with
    | true =>
      have := (cmd_facts (h4 hw)).2.2.2.2.1
      rw [← hcl]
      exact this
    | false =>
      have hw' : h.p.w = false := hw
      simp only [formN, hw', Bool.false_eq_true, if_false, Bool.and_eq_true] at h3
      have : h.c = zeroC := (sameC_iff _ _).1 h3.2
      rw [← hcl, this]
      simp [zeroC]
  · unfold formN at h3
    rw [e1] at h1
    split at h3
    · simp only [decide_eq_true_eq] at h3; rw [e1, e2] at h3; omega
    · simp only [Bool.and_eq_true, decide_eq_true_eq] at h3; rw [e1, e2] at h3; omega
  · have := checkA_few (firstA_all h2 x.p (by simp only [NV.p]; exact List.mem_map.2 ⟨x, hx, rfl⟩))
    have e := (hk.g.ok x hx).len
    rw [← e]
    exact this

theorem jwhole_c (h : NV) (w : World) (hk : h.ok w) (hc : checkN h.p = 0) :
    Calls Tryd.prog 20 #[h.v] w fun e w' => (∃ q g X', e = .returned (NV.v ⟨h.s, h.w, h.c, some ⟨q, 0, none⟩, h.cn, h.cn, some ⟨g, 0, none⟩, h.gn, h.gn, X'⟩) ∧ Ints w' (some ⟨q, 0, none⟩) h.cn h.cn h.c.d ∧ w.heap.size ≤ q ∧ q < g ∧ MineA w' g X' ∧ X'.length = h.gn ∧ X'.map AV.p = h.G.map AV.p) ∧ Below w.heap.size w w' := by
  obtain ⟨hcn, hgn, hxs⟩ := hand_small hk hc
  exact phand_c h w hk (by omega) (by omega) (fun x hx => by have := hxs x hx; omega)

end Go.Proofs.YtklabieacbbbfaaDoor

/- The contracts of hand's checkAsk and Ask; no condition but that the arguments read as data and the package's table is as its text lays it. -/
namespace Go.Proofs.YtklabieacbbbfaaDoor
open Go.RowKit
set_option linter.unusedVariables false
set_option maxRecDepth 100000
set_option linter.unusedSimpArgs false

set_option maxHeartbeats 2000000 in
theorem jcheckAsk_c (h : NV) (a : Option Addr) (n c : Nat) (b : PC) (w : World) (hS : Shapes w) (hk : h.ok w) (hb : Ints w a n c b.d) : Calls Tryd.prog 19 #[h.v, cmdV a n c b] w fun e w' => e = .returned (.int .i64 (askN h.p b).2) ∧ Below w.heap.size w w' := by
  have HK := hide (fun w' hS' h' => JCheck_c h w' hS' h')
  have HC := hide (fun w' hS' h' => cmdCheck_c a n c b w' hS' h')
  have HA : Hid ((askN h.p b).2 = if checkN h.p ≠ 0 then checkN h.p else if checkC b ≠ 0 then checkC b else if h.w then 6 else if 40 ≤ h.s then 2 else 0) := hide (by
    unfold askN
    rw [show h.p.w = h.w from rfl, show h.p.s = h.s from rfl]
    (repeat' split) <;> rfl)
  have HB : Hid (checkN h.p = 0 → 0 ≤ h.s ∧ h.s ≤ 40) := hide (fun e => (checkN_ok e).1)
  obtain ⟨x0, x1, bw⟩ := two_boxes w h.cells [.int .i64 b.k, .int .i64 b.z, .int .i64 b.n, .int .i64 b.at', .slice a n c] 27 24
  replace hk := hk.below bw (Nat.le_refl _)
  replace hb := hb.below bw (Nat.le_refl _)
  replace hS := hS.below bw
  generalize (askN h.p b).2 = r at *
  generalize checkN h.p = ch at *
  generalize checkC b = cb at *
  rw [show h.v = .agg h.cells.toArray from rfl] at *
  obtain ⟨s, v, ⟨k, z, u, t, d⟩, ca, cn, cc, ga, gn, gc, G⟩ := h
  obtain ⟨k', z', u', t', d'⟩ := b
  dsimp only [NV.cells, cmdV] at *
  obtain ⟨c0, c1, c2, c3, c4, c5, c6, c7⟩ := x0.eight
  go_enter Tryd.func19, Tryd.ntmps19
  go_wp2_with fail
  refine (HK.out _ hS hk).mono ?_
  rintro e w1 ⟨rfl, hb1⟩
  replace x0 := x0.below hb1
  replace x1 := x1.below hb1
  replace hb := hb.below hb1 (Nat.le_refl _)
  replace hS := hS.below hb1
  replace bw := belowT bw hb1
  clear hb1 c0 c1 c2 c3 c4 c5 c6 c7 HK hk
  cases h0 : ch != 0
  · have hc0 : Hid (ch = 0) := hide (by simpa using h0)
    have r0 := x1.cell 0 _ rfl
    have r1 := x1.cell 1 _ rfl
    have r2 := x1.cell 2 _ rfl
    have r3 := x1.cell 3 _ rfl
    have r4 := x1.cell 4 _ rfl
    go_wp2_with fail
    refine (HC.out _ hS hb).mono ?_
    rintro e w2 ⟨rfl, hb2⟩
    replace x0 := x0.below hb2
    replace bw := belowT bw hb2
    clear hb2 r0 r1 r2 r3 r4 HC x1
    have c0 := x0.cell 0 _ rfl
    have c1 := x0.cell 1 _ rfl
    cases h1 : cb != 0
    · have hc1 : Hid (cb = 0) := hide (by simpa using h1)
      cases v
      · have hs := HB.out hc0.out
        cases h2 : s == 40
        · have hn : ¬ 40 ≤ s := by simp at h2; omega
          have HR : Hid (r = 0) := hide (by rw [HA.out, if_neg (by simp [hc0.out]), if_neg (by simp [hc1.out]), if_neg (by simp), if_neg hn])
          clear hn hs
          go_wp2
          go_ret
          exact ⟨ret_int HR.out.symm, bw⟩
        · have hn : 40 ≤ s := by simp at h2; omega
          have HR : Hid (r = 2) := hide (by rw [HA.out, if_neg (by simp [hc0.out]), if_neg (by simp [hc1.out]), if_neg (by simp), if_pos hn])
          clear hn hs
          go_wp2
          go_ret
          exact ⟨ret_int HR.out.symm, bw⟩
      · have HR : Hid (r = 6) := hide (by rw [HA.out, if_neg (by simp [hc0.out]), if_neg (by simp [hc1.out]), if_pos rfl])
        go_wp2
        go_ret
        exact ⟨ret_int HR.out.symm, bw⟩
    · have HR : Hid (r = cb) := hide (by rw [HA.out, if_neg (by simp [hc0.out]), if_pos (by simpa using h1)])
      go_wp2
      go_ret
      exact ⟨ret_int HR.out.symm, bw⟩
  · have HR : Hid (r = ch) := hide (by rw [HA.out, if_pos (by simpa using h0)])
    go_wp2
    go_ret
    exact ⟨ret_int HR.out.symm, bw⟩

theorem ask_first {h : PN} {c : PC} (k : (askN h c).2 ≠ 0) : askN h c = (zeroN, (askN h c).2) := by
  unfold askN at k ⊢
  (repeat' split) <;> first | rfl | (exfalso; simp_all; done)

set_option maxRecDepth 100000 in
set_option maxHeartbeats 8000000 in
theorem JAsk_c (h : NV) (a : Option Addr) (n c : Nat) (b : PC) (w : World) (hS : Shapes w) (hk : h.ok w) (hb : Ints w a n c b.d) : Calls Tryd.prog 6 #[h.v, cmdV a n c b] w fun e w' => HandNew (askN h.p b) w e w' := by
  have HK := hide (fun w' hS' h' k' => jcheckAsk_c h a n c b w' hS' h' k')
  have HW := hide (fun w' h' hc' => jwhole_c h w' h' hc')
  have HF := hide (fun k => ask_first (h := h.p) (c := b) k)
  have HO := hide (fun k => ask_some (h := h.p) (c := b) k)
  have HR := hide (fun e1 e2 e3 e4 => (ask_ok (h := h.p) (c := b) e1 e2 e3 e4).1)
  have hbl := hb.len
  have hgl := hk.g.len
  have HGX : Hid (h.gn ≤ 9223372036854775807) := hide (Nat.le_trans hk.g.le hk.g.max)
  obtain ⟨x0, x1, x2, bw⟩ := three_boxes w h.cells [.int .i64 b.k, .int .i64 b.z, .int .i64 b.n, .int .i64 b.at', .slice a n c] NV.zero.cells 27 24 27
  have hok := hk.below bw (Nat.le_refl _)
  have hbk := hb.below bw (Nat.le_refl _)
  have hSk := hS.below bw
  have HP : Hid (h.p = ⟨h.s, h.w, h.c, h.G.map AV.p⟩) := hide rfl
  generalize askN h.p b = na at *
  generalize hhp : h.p = hp at *
  clear hhp
  rw [show h.v = .agg h.cells.toArray from rfl] at *
  obtain ⟨s, v, ⟨k, z, u, t, d⟩, ca, cn, cc, ga, gn, gc, G⟩ := h
  obtain ⟨k', z', u', t', d'⟩ := b
  dsimp only [NV.cells, cmdV, NV.zero, zeroC] at *
  obtain ⟨c0, c1, c2, c3, c4, c5, c6, c7⟩ := x0.eight
  have r0 := x1.cell 0 _ rfl
  have r1 := x1.cell 1 _ rfl
  have r2 := x1.cell 2 _ rfl
  have r3 := x1.cell 3 _ rfl
  have r4 := x1.cell 4 _ rfl
  go_enter Tryd.func6, Tryd.ntmps6
  go_wp2_with fail
  refine (HK.out _ hSk hok hbk).mono ?_
  rintro e w1 ⟨rfl, hb1⟩
  replace x0 := x0.below hb1
  replace x1 := x1.below hb1
  replace x2 := x2.below hb1
  replace hok := hok.below hb1 (Nat.le_refl _)
  replace hbk := hbk.below hb1 (Nat.le_refl _)
  replace bw := belowT bw hb1
  clear hb1 c0 c1 c2 c3 c4 c5 c6 c7 r0 r1 r2 r3 r4 HK hSk
  cases h0 : na.2 != 0
  · have hz : na.2 = 0 := by simpa using h0
    obtain ⟨g1, g2, g3, g4⟩ := HO.out hz
    have HE := hide (HR.out g1 g3 g2 g4)
    have hbd := (checkN_ok g1).1
    have hn8 := (cmd_facts g2).2.2.2.2.1
    have ep := HP.out
    subst ep
    dsimp only at g3 g4 hbd HE
    subst g3
    obtain ⟨c0, c1, c2, c3, c4, c5, c6, c7⟩ := x0.eight
    have G1 := hide g1
    clear g1 g2 HR HO HF HP hz hgl
    go_wp2_with fail
    refine (HW.out _ hok G1.out).mono ?_
    rintro e w2 ⟨⟨q, g, X', rfl, iq, hq, hqg, hM, hXl, hXp⟩, hb2⟩
    dsimp only [NV.v] at *
    have hx1 := x2.lt
    have HXL := hide hXl
    have HXP := hide hXp
    clear hXl hXp c0 c1 c2 c3 c4 c5 c6 c7 x0
    replace x1 := x1.below hb2
    replace x2 := x2.below hb2
    replace hbk := hbk.below hb2 (Nat.le_refl _)
    replace bw := belowT bw hb2
    have hx2 := x2.lt
    have hs12 := hb2.size
    have hgm := hM.lay.lt
    have HM0 := hide hM
    have hbk0 := hbk
    have hq2 : q < w2.heap.size := by omega
    have hwq : w.heap.size + 1 + 1 < q := by omega
    clear hb2 HW
    go_upto_region 5 with fail
    have xn := Lay.made w2 [.int .i64 s, .bool false, .int .i64 k, .int .i64 z, .int .i64 u, .int .i64 t, .slice (some ⟨q, 0, none⟩) cn cn, .slice (some ⟨g, 0, none⟩) gn gn] 27
    have bn := belowA (Below.refl _ w2) (.cells [.int .i64 s, .bool false, .int .i64 k, .int .i64 z, .int .i64 u, .int .i64 t, .slice (some ⟨q, 0, none⟩) cn cn, .slice (some ⟨g, 0, none⟩) gn gn].toArray 27)
    replace x1 := x1.below bn
    replace x2 := x2.below bn
    replace hbk := hbk.below bn (Nat.le_refl _)
    replace hM := hM.below bn
    replace bw := belowT bw bn
    have hgN := hgm
    have HXO : Hid (∀ x ∈ X', x.off w2.heap.size) := hide (fun x hx => AV.ok.off (HM0.out.ok x hx) (Nat.le_refl _))
    have hqN := hq2
    have hbO : n = 0 ∨ ∀ x, a = some x → x.block ≠ w2.heap.size := Ints.offs hbk0 (Nat.le_refl _)
    have iq3 := iq.below bn (Nat.le_refl _)
    clear bn iq hbk0 HM0
    generalize hN : w2.heap.size = N at *
    clear hN
    generalize w2.alloc (.cells [.int .i64 s, .bool false, .int .i64 k, .int .i64 z, .int .i64 u, .int .i64 t, .slice (some ⟨q, 0, none⟩) cn cn, .slice (some ⟨g, 0, none⟩) gn gn].toArray 27) = w3 at *
    have n0 := xn.cell 0 _ rfl
    have i0 := xn.ice 0
    have hwr : IntKind.i64.wrap (s + 1) = s + 1 := IntWalk.i64_in _ ⟨by omega, by omega⟩
    go_upto_region 6 with fail
    have hbu := (ButI.refl N w3).step 0 (.int .i64 (s + 1))
    replace xn := xn.set 0 (.int .i64 (s + 1))
    dsimp only [List.set] at xn
    replace x1 := x1.butI hbu (by omega)
    replace x2 := x2.butI hbu (by omega)
    replace hbk := hbk.but hbu.but hbO
    replace bw := bw.trans (hbu.below (B := w.heap.size) (by omega))
    replace hM := hM.farB ⟨N, 0, none⟩ (.int .i64 (s + 1)) (by simp; omega) HXO.out
    clear n0 i0 hbu
    generalize w3.setCell ⟨N, 0, none⟩ (.int .i64 (s + 1)) = w4 at *
    have r0 := x1.cell 0 _ rfl
    have r1 := x1.cell 1 _ rfl
    have r2 := x1.cell 2 _ rfl
    have r3 := x1.cell 3 _ rfl
    have r4 := x1.cell 4 _ rfl
    go_wp2_with fail
    refine (pwholeC_c a n c ⟨k', z', u', t', d'⟩ _ hbk (by omega)).mono ?_
    rintro e w5 ⟨⟨q5, rfl, i5, hq5, hq6⟩, hb5⟩
    dsimp only [cmdV] at *
    have h45 := xn.lt
    clear r0 r1 r2 r3 r4 x1 hbk
    replace xn := xn.below hb5
    replace x2 := x2.below hb5
    replace hM := hM.below hb5
    replace bw := belowT bw hb5
    clear hb5
    have n1 := xn.cell 1 _ rfl
    have n2 := xn.cell 2 _ rfl
    have n3 := xn.cell 3 _ rfl
    have n4 := xn.cell 4 _ rfl
    have n5 := xn.cell 5 _ rfl
    have n6 := xn.cell 6 _ rfl
    have i1 := xn.ice 1
    have i2 := xn.ice 2
    have i3 := xn.ice 3
    have i4 := xn.ice 4
    have i6 := xn.ice 6
    have i5' := xn.ice 5
    go_upto_region 7 with fail
    have hbu := ((((((ButI.refl N w5).step 1 (.bool true)).step 2 (.int .i64 k')).step 3 (.int .i64 z')).step 4 (.int .i64 u')).step 5 (.int .i64 t')).step 6 (.slice (some ⟨q5, 0, none⟩) n n)
    have yn : Lay _ _ [.int .i64 (s + 1), .bool true, .int .i64 k', .int .i64 z', .int .i64 u', .int .i64 t', .slice (some ⟨q5, 0, none⟩) n n, .slice (some ⟨g, 0, none⟩) gn gn] := (((((xn.set 1 (.bool true)).set 2 (.int .i64 k')).set 3 (.int .i64 z')).set 4 (.int .i64 u')).set 5 (.int .i64 t')).set 6 (.slice (some ⟨q5, 0, none⟩) n n)
    replace x2 := x2.butI hbu (by omega)
    replace i5 := i5.but hbu.but (.inr fun x e => by cases e; simp; omega)
    replace bw := bw.trans (hbu.below (B := w.heap.size) (by omega))
    replace hM := (((((hM.farB ⟨N, 1, none⟩ (.bool true) (by simp; omega) HXO.out).farB ⟨N, 2, none⟩ (.int .i64 k') (by simp; omega) HXO.out).farB ⟨N, 3, none⟩ (.int .i64 z') (by simp; omega) HXO.out).farB ⟨N, 4, none⟩ (.int .i64 u') (by simp; omega) HXO.out).farB ⟨N, 5, none⟩ (.int .i64 t') (by simp; omega) HXO.out).farB ⟨N, 6, none⟩ (.slice (some ⟨q5, 0, none⟩) n n) (by simp; omega) HXO.out
    clear n1 n2 n3 n4 n5 n6 i1 i2 i3 i4 i6 i5' xn hbu iq3 HXO
    generalize (((((w5.setCell ⟨N, 1, none⟩ (.bool true)).setCell ⟨N, 2, none⟩ (.int .i64 k')).setCell ⟨N, 3, none⟩ (.int .i64 z')).setCell ⟨N, 4, none⟩ (.int .i64 u')).setCell ⟨N, 5, none⟩ (.int .i64 t')).setCell ⟨N, 6, none⟩ (.slice (some ⟨q5, 0, none⟩) n n) = w6 at *
    obtain ⟨a0, a1, a2, a3, a4, a5, a6, a7⟩ := yn.eight
    have okh : NV.ok w6 ⟨s + 1, true, ⟨k', z', u', t', d'⟩, some ⟨q5, 0, none⟩, n, n, some ⟨g, 0, none⟩, gn, gn, X'⟩ := ⟨i5, hM.answers HXL.out HGX.out⟩
    have offh : ∀ R, R ≤ w.heap.size + 1 + 1 → NV.off R ⟨s + 1, true, ⟨k', z', u', t', d'⟩, some ⟨q5, 0, none⟩, n, n, some ⟨g, 0, none⟩, gn, gn, X'⟩ := fun R hR => ⟨.inr fun x e => by cases e; simp; omega, .inr fun x e => by cases e; simp; omega, fun x hx => hM.new x hx R (by omega)⟩
    clear hM i5
    have e0 := x2.cell 0 _ rfl
    have e1 := x2.cell 1 _ rfl
    have e2 := x2.cell 2 _ rfl
    have e3 := x2.cell 3 _ rfl
    have e4 := x2.cell 4 _ rfl
    have e5 := x2.cell 5 _ rfl
    have e6 := x2.cell 6 _ rfl
    have e7 := x2.cell 7 _ rfl
    have f0 := x2.ice 0
    have f1 := x2.ice 1
    have f2 := x2.ice 2
    have f3 := x2.ice 3
    have f4 := x2.ice 4
    have f5 := x2.ice 5
    have f6 := x2.ice 6
    have f7 := x2.ice 7
    go_wp2
    have zB := ((((((((x2.set 0 (.int .i64 (s + 1))).set 1 (.bool true)).set 2 (.int .i64 k')).set 3 (.int .i64 z')).set 4 (.int .i64 u')).set 5 (.int .i64 t')).set 6 (.slice (some ⟨q5, 0, none⟩) n n)).set 7 (.slice (some ⟨g, 0, none⟩) gn gn))
    have hbut := (((((((((ButI.refl (w.heap.size + 1 + 1) w6).step 0 (.int .i64 (s + 1))).step 1 (.bool true)).step 2 (.int .i64 k')).step 3 (.int .i64 z')).step 4 (.int .i64 u')).step 5 (.int .i64 t')).step 6 (.slice (some ⟨q5, 0, none⟩) n n)).step 7 (.slice (some ⟨g, 0, none⟩) gn gn))
    generalize ((((((((w6.setCell ⟨w.heap.size + 1 + 1, 0, none⟩ (.int .i64 (s + 1))).setCell ⟨w.heap.size + 1 + 1, 1, none⟩ (.bool true)).setCell ⟨w.heap.size + 1 + 1, 2, none⟩ (.int .i64 k')).setCell ⟨w.heap.size + 1 + 1, 3, none⟩ (.int .i64 z')).setCell ⟨w.heap.size + 1 + 1, 4, none⟩ (.int .i64 u')).setCell ⟨w.heap.size + 1 + 1, 5, none⟩ (.int .i64 t')).setCell ⟨w.heap.size + 1 + 1, 6, none⟩ (.slice (some ⟨q5, 0, none⟩) n n)).setCell ⟨w.heap.size + 1 + 1, 7, none⟩ (.slice (some ⟨g, 0, none⟩) gn gn)) = w99 at *
    have z0 := zB.cell 0 _ rfl
    have z1 := zB.cell 1 _ rfl
    have z2 := zB.cell 2 _ rfl
    have z3 := zB.cell 3 _ rfl
    have z4 := zB.cell 4 _ rfl
    have z5 := zB.cell 5 _ rfl
    have z6 := zB.cell 6 _ rfl
    have z7 := zB.cell 7 _ rfl
    have o9 := okh.but hbut.but (offh _ (Nat.le_refl _))
    refine bodyPost_ret (v := .tuple #[.agg #[.int .i64 (s + 1), .bool true, .int .i64 k', .int .i64 z', .int .i64 u', .int .i64 t', .slice (some ⟨q5, 0, none⟩) n n, .slice (some ⟨g, 0, none⟩) gn gn], .int .i64 0]) (by simp [results, Tryd.results6, go_sem, z0, z1, z2, z3, z4, z5, z6, z7]) rfl ⟨⟨⟨s + 1, true, ⟨k', z', u', t', d'⟩, some ⟨q5, 0, none⟩, n, n, some ⟨g, 0, none⟩, gn, gn, X'⟩, ?_, o9, fun R hR => offh R (by omega), ?_⟩, bw.trans (hbut.below (B := w.heap.size) (by omega))⟩
    · rw [HE.out]; rfl
    · rw [HE.out]
      simp only [NV.p]
      rw [HXP.out]
  · have HE := hide (HF.out (by simpa using h0))
    have okh := NV.zero_ok w1
    have offh : ∀ R, R ≤ w.heap.size + 1 + 1 → NV.off R NV.zero := fun R _ => NV.zero_off R
    generalize hne : na.2 = ne at *
    have e0 := x2.cell 0 _ rfl
    have e1 := x2.cell 1 _ rfl
    have e2 := x2.cell 2 _ rfl
    have e3 := x2.cell 3 _ rfl
    have e4 := x2.cell 4 _ rfl
    have e5 := x2.cell 5 _ rfl
    have e6 := x2.cell 6 _ rfl
    have e7 := x2.cell 7 _ rfl
    have f0 := x2.ice 0
    have f1 := x2.ice 1
    have f2 := x2.ice 2
    have f3 := x2.ice 3
    have f4 := x2.ice 4
    have f5 := x2.ice 5
    have f6 := x2.ice 6
    have f7 := x2.ice 7
    go_wp2
    have zB := ((((((((x2.set 0 (.int .i64 0)).set 1 (.bool false)).set 2 (.int .i64 0)).set 3 (.int .i64 0)).set 4 (.int .i64 0)).set 5 (.int .i64 0)).set 6 (.slice none 0 0)).set 7 (.slice none 0 0))
    have hbut := (((((((((ButI.refl (w.heap.size + 1 + 1) w1).step 0 (.int .i64 0)).step 1 (.bool false)).step 2 (.int .i64 0)).step 3 (.int .i64 0)).step 4 (.int .i64 0)).step 5 (.int .i64 0)).step 6 (.slice none 0 0)).step 7 (.slice none 0 0))
    generalize ((((((((w1.setCell ⟨w.heap.size + 1 + 1, 0, none⟩ (.int .i64 0)).setCell ⟨w.heap.size + 1 + 1, 1, none⟩ (.bool false)).setCell ⟨w.heap.size + 1 + 1, 2, none⟩ (.int .i64 0)).setCell ⟨w.heap.size + 1 + 1, 3, none⟩ (.int .i64 0)).setCell ⟨w.heap.size + 1 + 1, 4, none⟩ (.int .i64 0)).setCell ⟨w.heap.size + 1 + 1, 5, none⟩ (.int .i64 0)).setCell ⟨w.heap.size + 1 + 1, 6, none⟩ (.slice none 0 0)).setCell ⟨w.heap.size + 1 + 1, 7, none⟩ (.slice none 0 0)) = w99 at *
    have z0 := zB.cell 0 _ rfl
    have z1 := zB.cell 1 _ rfl
    have z2 := zB.cell 2 _ rfl
    have z3 := zB.cell 3 _ rfl
    have z4 := zB.cell 4 _ rfl
    have z5 := zB.cell 5 _ rfl
    have z6 := zB.cell 6 _ rfl
    have z7 := zB.cell 7 _ rfl
    have o9 := okh.but hbut.but (offh _ (Nat.le_refl _))
    refine bodyPost_ret (v := .tuple #[.agg #[.int .i64 0, .bool false, .int .i64 0, .int .i64 0, .int .i64 0, .int .i64 0, .slice none 0 0, .slice none 0 0], .int .i64 ne]) (by simp [results, Tryd.results6, go_sem, z0, z1, z2, z3, z4, z5, z6, z7]) rfl ⟨⟨NV.zero, ?_, o9, fun R hR => offh R (by omega), ?_⟩, bw.trans (hbut.below (B := w.heap.size) (by omega))⟩
    · rw [hne]; rfl
    · rw [HE.out]; rfl

end Go.Proofs.YtklabieacbbbfaaDoor
