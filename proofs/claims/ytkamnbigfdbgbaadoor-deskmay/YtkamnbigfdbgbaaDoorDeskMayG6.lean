/- The contract of plain.CopyZones; no condition but that the zones read as data, and are no greater than a machine bears. -/
import Derived.Test.YtkamnbigfdbgbaaDoorDeskMayG5
import Derived.Deep.RegionHeld3
import Derived.Test.YtkamnbigfdbgbaaDoorDeskMayG4
import Derived.Test.YtkamnbigfdbgbaaDoorDeskMayG2
namespace Go.Proofs.YtkamnbigfdbgbaaDoor
open Go.RowKit
set_option linter.unusedVariables false
set_option maxRecDepth 100000
set_option linter.unusedSimpArgs false

abbrev ZV.v (z : ZV) : Value := .agg #[.int .i64 z.s, .slice z.a z.n z.c]
def zoneK : Kin ZV where
  k := 2
  cs z := [.int .i64 z.s, .slice z.a z.n z.c]
  ok w z := z.ok w
  off R z := z.off R
  len _ := rfl
  one x := fun v hv => List.all_eq_true.1 (show ([.int .i64 x.s, .slice x.a x.n x.c] : List Value).all (fun v => v.oneCell') = true from rfl) v hv
  below h _ hb hB := Ints.below h hb hB
  but h hb ho := Ints.but h hb ho
  far h hR := Ints.offs h hR
def zoneN : NewK zoneK where
  new B z := ∀ x, z.a = some x → B ≤ x.block
  off h hR := .inr fun x e => by have := h x e; omega
  mono h hb := fun x e => Nat.le_trans hb (h x e)
  zero := ⟨0, none, 0, 0, []⟩
  zero_new _ := fun x e => by cases e
  zero_ok w := Ints.nilSlice w
theorem ZV.lay {w : World} {b o : Nat} {z : ZV} (h : ∀ j v, (zoneK.cs z)[j]? = some v → w.cell? ⟨b, o + j, none⟩ = some v) : w.cell? ⟨b, o, none⟩ = some (.int .i64 z.s) ∧ w.cell? ⟨b, o + 1, none⟩ = some (.slice z.a z.n z.c) :=
  ⟨h 0 _ rfl, h 1 _ rfl⟩
theorem Zones.rows' {w : World} {a : Option Addr} {n c : Nat} {Z : List ZV} (h : Zones w a n c Z) : Rows' zoneK w a n c Z := by
  refine ⟨h.len, h.le, h.max, h.nil, ?_, h.ok⟩
  rcases h.row with h0 | ⟨b, off, ha, hlt, hc⟩
  · exact .inl h0
  · refine .inr ⟨b, off, ha, hlt, fun i x hx j v hv => ?_⟩
    obtain ⟨h1, h2⟩ := hc i x hx
    match j, hv with
    | 0, hv => cases hv; exact h1
    | 1, hv => cases hv; exact h2
theorem MineR.mine {t : TypeId} {w : World} {g n : Nat} {Z : List ZV} (h : MineR zoneK t w g Z) (hn : Z.length = n) (hm : n ≤ 9223372036854775807) (ho : ∀ z ∈ Z, zoneN.new (g + 1) z) : Mine w g g n n Z := by
  have hc : ∀ i z, Z[i]? = some z → w.cell? ⟨g, i * 2, none⟩ = some (.int .i64 z.s) ∧ w.cell? ⟨g, i * 2 + 1, none⟩ = some (.slice z.a z.n z.c) := fun i z hz =>
    ⟨h.lay.cell _ _ (Kin.cells_get Z i z hz 0 _ rfl), h.lay.cell _ _ (Kin.cells_get Z i z hz 1 _ rfl)⟩
  exact ⟨⟨hn, Nat.le_refl _, hm, fun e => (by cases e), .inr ⟨g, 0, rfl, h.lay.lt, fun i z hz => by simpa using hc i z hz⟩, h.ok⟩, Nat.le_refl _, h.lay.lt, hc, fun j _ => h.lay.ice j, fun z hz => zoneN.off (ho z hz) (by omega)⟩

set_option maxHeartbeats 1000000 in
theorem pzone_c (z : ZV) (w : World) (h : z.ok w) (hn : z.n ≤ 100000) : Calls Tryd.prog 46 #[z.v] w (Copy1 zoneK ZV.v ZV.p zoneN z w) := by
  obtain ⟨s, a, n, c, l⟩ := z
  have hI : Ints w a n c l := h
  dsimp only [ZV.v] at *
  have xR := Lay.made1 w (.cells #[.int .i64 s, .slice a n c] 59) [.int .i64 0, .slice none 0 0] 59
  go_enter Tryd.func46, Tryd.ntmps46
  go_upto_region 1 with fail
  go_region_held3 (fun w' => w'.cell? ⟨w.heap.size, 0, none⟩ = some (.int .i64 s) ∧ w'.cell? ⟨w.heap.size, 1, none⟩ = some (.slice a n c)) ((first | (go_simp; done) | (simp [*, World.cell?_alloc_at, World.cell?_alloc_past, World.cell?_alloc_some, World.cell?_setCell_far]; done))) (first | (go_at_call 47; refine (plist_c a n c l _ (by refine Ints.below hI (B := w.heap.size) ?_ (Nat.le_refl _); (repeat first | exact bel0 | assumption | refine bel1 ?_ | refine bel2 ?_ | refine bel3 ?_ | refine belowT ?_ (by assumption) | refine bel5 ?_ (by simp; try omega))) hn).mono ?_; rintro e w1 ⟨⟨q, rfl, i1, hq, hq2⟩, hb1⟩; (have g0 := keepc hb1 (p := ⟨w.heap.size, 0, none⟩) (u := .int .i64 s) (by (first | (go_simp; done) | (simp [*, World.cell?_alloc_at, World.cell?_alloc_past, World.cell?_alloc_some, World.cell?_setCell_far]; done)))); (have g1 := keepc hb1 (p := ⟨w.heap.size, 1, none⟩) (u := .slice a n c) (by (first | (go_simp; done) | (simp [*, World.cell?_alloc_at, World.cell?_alloc_past, World.cell?_alloc_some, World.cell?_setCell_far]; done)))); (have xR1 := xR.below (w' := w1) (by (repeat first | exact bel0 | assumption | refine bel1 ?_ | refine bel2 ?_ | refine bel3 ?_ | refine belowT ?_ (by assumption) | refine bel5 ?_ (by simp; try omega)))); (have e0 := xR1.cell 0 _ rfl); (have e1 := xR1.cell 1 _ rfl); (have f0 := xR1.ice 0); (have f1 := xR1.ice 1)))
  have bw : Below w.heap.size w w1 := by (repeat first | exact bel0 | assumption | refine bel1 ?_ | refine bel2 ?_ | refine bel3 ?_ | refine belowT ?_ (by assumption) | refine bel5 ?_ (by simp; try omega))
  simp at hq
  clear hb1 g0 g1 xR
  go_wp2
  have zB := (xR1.set 0 (.int .i64 s)).set 1 (.slice (some ⟨q, 0, none⟩) n n)
  have hbut := ((ButI.refl (w.heap.size + 1) w1).step 0 (.int .i64 s)).step 1 (.slice (some ⟨q, 0, none⟩) n n)
  generalize (w1.setCell ⟨w.heap.size + 1, 0, none⟩ (.int .i64 s)).setCell ⟨w.heap.size + 1, 1, none⟩ (.slice (some ⟨q, 0, none⟩) n n) = w9 at *
  have z0 := zB.cell 0 _ rfl
  have z1 := zB.cell 1 _ rfl
  exact bodyPost_ret (v := .agg #[.int .i64 s, .slice (some ⟨q, 0, none⟩) n n]) (by simp [results, Tryd.results46, go_sem, z0, z1]) rfl
    ⟨⟨⟨s, some ⟨q, 0, none⟩, n, n, l⟩, rfl, i1.but hbut.but (.inr fun x e => by cases e; simp; omega), fun x e => by cases e; simp; omega, rfl⟩, bw.trans (hbut.below (B := w.heap.size) (by omega))⟩

theorem pzones_info : ∃ i, Tryd.prog.info? 59 = some i ∧ i.zero = some (.agg #[.int .i64 0, .slice none 0 0]) ∧ i.size = 2 ∧ i.bytes ≤ 1000 := by
  have h : (Tryd.prog.info? 59).map (fun i => (i.zero, i.size, Nat.ble i.bytes 1000)) = some (some (.agg #[.int .i64 0, .slice none 0 0]), 2, true) := by kernel_rfl
  obtain ⟨i, hi, h⟩ := Option.map_eq_some_iff.1 h
  simp only [Prod.mk.injEq] at h
  exact ⟨i, hi, h.1, h.2.1, Nat.le_of_ble_eq_true h.2.2⟩
theorem pzones_mk (n : Nat) (hn : n ≤ 1000000) (w : World) : (Instr.makeSlice 22 (.int .i64 (n : Int)) (.int .i64 (n : Int))).run Tryd.prog w = .ok (.slice (some ⟨w.heap.size, 0, none⟩) n n) (w.alloc (.cells (zoneK.cells (List.replicate n zoneN.zero)).toArray 59)) := by
  obtain ⟨i, hi, hz, hs, hb⟩ := pzones_info
  exact mkR zoneK (P := Tryd.prog) zoneN.zero Tryd.underlying22 hi hz rfl rfl hs hb (by decide) n hn w
set_option maxRecDepth 100000 in
set_option maxHeartbeats 4000000 in
theorem pzones_c (a : Option Addr) (n c : Nat) (X : List ZV) (w : World) (h : Rows' zoneK w a n c X) (hn : n ≤ 1000000) (hF : ∀ x ∈ X, ∀ w' : World, zoneK.ok w' x → Calls Tryd.prog 46 #[x.v] w' (Copy1 zoneK ZV.v ZV.p zoneN x w')) :
    Calls Tryd.prog 45 #[.slice a n c, .func (Fn.func 46) #[] #[]] w (Copied zoneK 59 ZV.p zoneN w n X) := by
  have hmk := pzones_mk n hn
  have HM := hide (fun w' => MineR.made zoneK 59 zoneN.zero zoneN.zero_ok n w')
  generalize (zoneK.cells (List.replicate n zoneN.zero)).toArray = xs at *
  have hlen := hide h.len
  have hmax := h.max
  have hle := h.le
  have HF := hide hF
  clear hF
  go_enter Tryd.func45, Tryd.ntmps45
  go_wp2
  go_loopw [13] (fun i wr => ∃ wz : World, wz = wr ∧ ∃ (j : Nat) (Y : List ZV), j ≤ n ∧ i = .int .i64 (j : Nat) ∧ MineR zoneK 59 wz w.heap.size Y ∧ Y.length = n ∧ (Y.take j).map ZV.p = (X.take j).map ZV.p ∧ (∀ y ∈ Y, zoneN.new (w.heap.size + 1) y) ∧ Below w.heap.size w wz) (fun i _ => n - (intOf i).toNat)
  case atStart => exact ⟨_, rfl, 0, _, by omega, rfl, HM.out w, by simp, by simp, fun y hy => by rw [List.eq_of_mem_replicate hy]; exact zoneN.zero_new _, by (repeat first | exact bel0 | assumption | refine bel1 ?_ | refine bel2 ?_ | refine bel3 ?_ | refine belowT ?_ (by assumption) | refine bel5 ?_ (by simp; try omega))⟩
  case round =>
    obtain ⟨wr, rfl, j, Y, hj, rfl, hm, hl, hp, hnw, hbr⟩ := hrel
    have HP := hide hp
    have HL := hide hl
    have HN := hide hnw
    clear hp hl hnw hmk
    by_cases hlt : j < n
    · obtain ⟨b, off, x, rfl, hx, hxk, hb, kx⟩ := h.at hlt
      have HX := hide hx
      have HW := hide (HF.out x (List.mem_of_getElem? hx))
      have hxr := zoneK.below hxk hbr (Nat.le_refl _)
      have LX := ZV.lay (b := b) (o := off + j * 2) (fun i v h => keepc hbr (kx i v h))
      have hlt' : (j : Int) < (n : Int) := by omega
      have HG := hide hm.lay.lt
      clear hx kx hxk
      dsimp only [ZV.v] at HW
      obtain ⟨c0, c1⟩ := LX
      go_wp2_with fail
      refine (HW.out _ (zoneK.below hxr (B := wr.heap.size) (by (repeat first | exact bel0 | assumption | refine bel1 ?_ | refine bel2 ?_ | refine bel3 ?_ | refine belowT ?_ (by assumption) | refine bel5 ?_ (by simp; try omega))) (Nat.le_refl _))).mono ?_
      rintro e w2 ⟨⟨y, rfl, hyk, hyn, hyp⟩, hb2⟩
      have b2 : Below wr.heap.size wr w2 := by (repeat first | exact bel0 | assumption | refine bel1 ?_ | refine bel2 ?_ | refine bel3 ?_ | refine belowT ?_ (by assumption) | refine bel5 ?_ (by simp; try omega))
      replace hm := hm.below b2
      have hgl := hm.lay.lt
      have hgs := HG.out
      have bw2 := belowT hbr b2
      have hjY : j < Y.length := by rw [HL.out]; exact hlt
      simp only [World.size_alloc] at hyn
      clear hb2 b2 HW hxr c0 c1
      obtain ⟨u0, y0⟩ : ∃ u, w2.cell? ⟨w.heap.size, j * 2, none⟩ = some u := hm.at (j := 0) hjY (by decide)
      have s0 := hm.lay.ice (j * 2)
      obtain ⟨u1, y1⟩ : ∃ u, w2.cell? ⟨w.heap.size, j * 2 + 1, none⟩ = some u := hm.at (j := 1) hjY (by decide)
      have s1 := hm.lay.ice (j * 2 + 1)
      dsimp only [ZV.v]
      go_wp2
      have hoff : ∀ z ∈ Y, zoneK.off w.heap.size z := fun z hz => zoneN.off (HN.out z hz) (by omega)
      have hput := hm.put hjY hyk hoff (zoneN.off hyn (by omega))
      have bput := (putAll_but w.heap.size (zoneK.cs y) w2 (j * zoneK.k)).below (B := w.heap.size) (Nat.le_refl _)
      exact ⟨⟨_, rfl, j + 1, _, by omega, by go_num, hput, by rw [List.length_set]; exact HL.out, take_setK HX.out hjY HP.out hyp, fun z hz => by
        rcases List.mem_or_eq_of_mem_set hz with hz | rfl
        · exact HN.out z hz
        · exact zoneN.mono hyn (by omega), bw2.trans bput⟩, by simp [intOf]; omega⟩
    · obtain rfl : j = n := by omega
      go_wp2
      go_ret
      have hp := HP.out
      rw [List.take_of_length_le (by rw [HL.out]; omega), List.take_of_length_le (by rw [hlen.out]; omega)] at hp
      exact ⟨⟨_, _, rfl, hm, HL.out, hp, Nat.le_refl _, HN.out⟩, hbr⟩


theorem pcopyZones_c (a : Option Addr) (n c : Nat) (Z : List ZV) (w : World) (h : Zones w a n c Z) (hn : n ≤ 1000000) (h8 : ∀ z ∈ Z, z.n ≤ 100000) :
    Calls Tryd.prog 27 #[.slice a n c] w (Copied zoneK 59 ZV.p zoneN w n Z) := by
  go_enter Tryd.func27, Tryd.ntmps27
  go_wp2_with fail
  refine (pzones_c a n c Z _ h.rows' hn (fun x hx w' h' => pzone_c x w' h' (h8 x hx))).mono ?_
  rintro e w1 ⟨⟨g, Y, rfl, hm, hl, hp, hg, hn⟩, hb⟩
  go_wp2
  go_ret
  exact ⟨⟨g, Y, rfl, hm, hl, hp, hg, hn⟩, hb⟩

end Go.Proofs.YtkamnbigfdbgbaaDoor

/- Two boxes, newly made; plain mathematics, no condition. -/
namespace Go.Proofs.YtkamnbigfdbgbaaDoor
open Go.RowKit
set_option linter.unusedVariables false
set_option maxRecDepth 100000
set_option linter.unusedSimpArgs false

/-- A desk's box and an answer's, newly made. -/
theorem two_boxes (w : World) (D A : List Value) (s t : TypeId) : Lay ((w.alloc (.cells D.toArray s)).alloc (.cells A.toArray t)) w.heap.size D ∧ Lay ((w.alloc (.cells D.toArray s)).alloc (.cells A.toArray t)) (w.heap.size + 1) A ∧ Below w.heap.size w ((w.alloc (.cells D.toArray s)).alloc (.cells A.toArray t)) :=
  ⟨(Lay.made w D s).below (belowA (Below.refl _ _) _), Lay.made1 w _ A t, by (repeat first | exact bel0 | assumption | refine bel1 ?_ | refine bel2 ?_ | refine bel3 ?_ | refine belowT ?_ (by assumption) | refine bel5 ?_ (by simp; try omega))⟩

end Go.Proofs.YtkamnbigfdbgbaaDoor

/- Three boxes, newly made; plain mathematics, no condition. -/
namespace Go.Proofs.YtkamnbigfdbgbaaDoor
open Go.RowKit
set_option linter.unusedVariables false
set_option maxRecDepth 100000
set_option linter.unusedSimpArgs false

theorem three_boxes (w : World) (H R G : List Value) (s t u : TypeId) :
    Lay (((w.alloc (.cells H.toArray s)).alloc (.cells R.toArray t)).alloc (.cells G.toArray u)) w.heap.size H ∧ Lay (((w.alloc (.cells H.toArray s)).alloc (.cells R.toArray t)).alloc (.cells G.toArray u)) (w.heap.size + 1) R ∧ Lay (((w.alloc (.cells H.toArray s)).alloc (.cells R.toArray t)).alloc (.cells G.toArray u)) (w.heap.size + 1 + 1) G ∧ Below w.heap.size w (((w.alloc (.cells H.toArray s)).alloc (.cells R.toArray t)).alloc (.cells G.toArray u)) := by
  have h0 := (Lay.made w H s).below (belowA (belowA (Below.refl _ _) (.cells R.toArray t)) (.cells G.toArray u))
  have h1 := (Lay.made1 w (.cells H.toArray s) R t).below (belowA (Below.refl _ _) (.cells G.toArray u))
  have h2 := Lay.made1 (w.alloc (.cells H.toArray s)) (.cells R.toArray t) G u
  simp only [World.size_alloc] at h2
  exact ⟨h0, h1, h2, by (repeat first | exact bel0 | assumption | refine bel1 ?_ | refine bel2 ?_ | refine bel3 ?_ | refine belowT ?_ (by assumption) | refine bel5 ?_ (by simp; try omega))⟩

end Go.Proofs.YtkamnbigfdbgbaaDoor

/- The contract of plain.CopyBook; no condition but that the keys read as data, and are no more than a machine bears. -/
namespace Go.Proofs.YtkamnbigfdbgbaaDoor
open Go.RowKit
set_option linter.unusedVariables false
set_option maxRecDepth 100000
set_option linter.unusedSimpArgs false

set_option maxHeartbeats 2000000 in
theorem pbook_c (a : Option Addr) (n c : Nat) (b : PB) (w : World) (h : Ints w a n c b.k) (hn : n ≤ 100000) :
    Calls Tryd.prog 28 #[bookV a n c b] w fun e w' => (∃ q, e = .returned (bookV (some ⟨q, 0, none⟩) n n b) ∧ Ints w' (some ⟨q, 0, none⟩) n n b.k ∧ w.heap.size ≤ q ∧ Lay w' q (cellsOf b.k)) ∧ Below w.heap.size w w' := by
  obtain ⟨l, hh, tt⟩ := b
  unfold bookV
  dsimp only at *
  obtain ⟨x0, x1, x2, bw⟩ := three_boxes w [.slice a n c, .int .i64 hh, .int .i64 tt] [.slice none 0 0, .int .i64 0, .int .i64 0] [.slice a n c, .int .i64 hh, .int .i64 tt] 25 25 25
  replace h := h.below bw (Nat.le_refl _)
  go_enter Tryd.func28, Tryd.ntmps28
  go_upto_region 2 with fail
  generalize ((w.alloc (.cells [.slice a n c, .int .i64 hh, .int .i64 tt].toArray 25)).alloc (.cells [.slice none 0 0, .int .i64 0, .int .i64 0].toArray 25)).alloc (.cells [.slice a n c, .int .i64 hh, .int .i64 tt].toArray 25) = w1 at *
  have c0 := x0.cell 0 _ rfl
  go_wp2_with fail
  refine (plistL_c a n c l _ h hn).mono ?_
  rintro e w2 ⟨⟨q, rfl, iq, hq, lq⟩, hb2⟩
  have hqw : w.heap.size + 1 + 1 < q := by have := x2.lt; omega
  clear c0 hq x0
  replace x1 := x1.below hb2
  replace x2 := x2.below hb2
  replace bw := belowT bw hb2
  clear hb2
  have e0 := x2.cell 0 _ rfl
  have f0 := x2.ice 0
  go_upto_region 3 with fail
  have hbu := (ButI.refl (w.heap.size + 1 + 1) w2).step 0 (.slice (some ⟨q, 0, none⟩) n n)
  have y2 : Lay _ _ [.slice (some ⟨q, 0, none⟩) n n, .int .i64 hh, .int .i64 tt] := x2.set 0 (.slice (some ⟨q, 0, none⟩) n n)
  have xR := x1.butI hbu (by omega)
  replace lq := lq.butI hbu (by omega)
  replace iq := iq.but hbu.but (.inr fun x e => by cases e; simp; omega)
  replace bw := bw.trans (hbu.below (B := w.heap.size) (by omega))
  clear e0 f0 x2 x1 hbu
  generalize w2.setCell ⟨w.heap.size + 1 + 1, 0, none⟩ (.slice (some ⟨q, 0, none⟩) n n) = w3 at *
  have a0 := y2.cell 0 _ rfl
  have a1 := y2.cell 1 _ rfl
  have a2 := y2.cell 2 _ rfl
  have e0 := xR.cell 0 _ rfl
  have e1 := xR.cell 1 _ rfl
  have e2 := xR.cell 2 _ rfl
  have f0 := xR.ice 0
  have f1 := xR.ice 1
  have f2 := xR.ice 2
  go_wp2
  have zB := ((xR.set 0 (.slice (some ⟨q, 0, none⟩) n n)).set 1 (.int .i64 hh)).set 2 (.int .i64 tt)
  have hbut := (((ButI.refl (w.heap.size + 1) w3).step 0 (.slice (some ⟨q, 0, none⟩) n n)).step 1 (.int .i64 hh)).step 2 (.int .i64 tt)
  generalize ((w3.setCell ⟨w.heap.size + 1, 0, none⟩ (.slice (some ⟨q, 0, none⟩) n n)).setCell ⟨w.heap.size + 1, 1, none⟩ (.int .i64 hh)).setCell ⟨w.heap.size + 1, 2, none⟩ (.int .i64 tt) = w9 at *
  have z0 := zB.cell 0 _ rfl
  have z1 := zB.cell 1 _ rfl
  have z2 := zB.cell 2 _ rfl
  exact bodyPost_ret (v := .agg #[.slice (some ⟨q, 0, none⟩) n n, .int .i64 hh, .int .i64 tt]) (by simp [results, Tryd.results28, go_sem, z0, z1, z2]) rfl
    ⟨⟨q, rfl, iq.but hbut.but (.inr fun x e => by cases e; simp; omega), by omega, lq.butI hbut (by omega)⟩, bw.trans (hbut.below (B := w.heap.size) (by omega))⟩

end Go.Proofs.YtkamnbigfdbgbaaDoor

/- What stays as it was where cells of one block change; a struct's box, cell by cell; plain mathematics, no condition. -/
namespace Go.Proofs.YtkamnbigfdbgbaaDoor
open Go.RowKit
set_option linter.unusedVariables false
set_option maxRecDepth 100000
set_option linter.unusedSimpArgs false

theorem Zones.but {w w' : World} {g : Nat} {a : Option Addr} {n c : Nat} {Z : List ZV} (h : Zones w a n c Z) (hb : But g w w') (hne : n = 0 ∨ ∀ x, a = some x → x.block ≠ g) (hl : ∀ z ∈ Z, z.off g) : Zones w' a n c Z := by
  refine ⟨h.len, h.le, h.max, h.nil, ?_, fun z hz => Ints.but (h.ok z hz) hb (hl z hz)⟩
  rcases hne with h0 | hne
  · exact .inl h0
  · rcases h.row with h0 | ⟨b, off, ha, hlt, hc⟩
    · exact .inl h0
    · have hg : b ≠ g := hne _ ha
      refine .inr ⟨b, off, ha, Nat.lt_of_lt_of_le hlt hb.size, fun i z hz => ?_⟩
      obtain ⟨h1, h2⟩ := hc i z hz
      exact ⟨keepb hb h1 hg, keepb hb h2 hg⟩

/-- None of the desk's lists lies in block R. -/
structure DV.off (R : Nat) (d : DV) : Prop where
  z : d.zn = 0 ∨ ∀ x, d.za = some x → x.block ≠ R
  l : ∀ z ∈ d.Z, z.off R
  k : d.kn = 0 ∨ ∀ x, d.ka = some x → x.block ≠ R
/-- All of the desk's lists lie from B on. -/
def DV.new (B : Nat) (d : DV) : Prop := ∀ R, R < B → d.off R
theorem DV.ok.but {w w' : World} {g : Nat} {d : DV} (h : d.ok w) (hb : But g w w') (ho : d.off g) : d.ok w' := ⟨h.z.but hb ho.z ho.l, h.k.but hb ho.k⟩
theorem DV.ok.off {w : World} {d : DV} (h : d.ok w) {R : Nat} (hR : w.heap.size ≤ R) : d.off R := by
  refine ⟨?_, fun z hz => Ints.offs (h.z.ok z hz) hR, h.k.offs hR⟩
  rcases h.z.row with h0 | ⟨b, off, ha, hlt, _⟩
  · exact .inl h0
  · exact .inr fun x e => by rw [ha] at e; cases e; simp; omega
theorem DV.new.mono {B B' : Nat} {d : DV} (h : d.new B) (hb : B' ≤ B) : d.new B' := fun R hR => h R (by omega)
theorem DV.zero_new (B : Nat) : DV.zero.new B := fun R _ => ⟨.inl rfl, fun z hz => (by cases hz), .inl rfl⟩
def AV.off (R : Nat) (x : AV) : Prop := x.n = 0 ∨ ∀ y, x.a = some y → y.block ≠ R
def AV.new (B : Nat) (x : AV) : Prop := ∀ R, R < B → x.off R
theorem AV.ok.but {w w' : World} {g : Nat} {x : AV} (h : x.ok w) (hb : But g w w') (ho : x.off g) : x.ok w' := Ints.but h hb ho
theorem AV.ok.off {w : World} {x : AV} (h : x.ok w) {R : Nat} (hR : w.heap.size ≤ R) : x.off R := Ints.offs h hR
theorem AV.new.mono {B B' : Nat} {x : AV} (h : x.new B) (hb : B' ≤ B) : x.new B' := fun R hR => h R (by omega)
theorem AV.err_new (B : Nat) (e : Int) : (AV.err e).new B := fun R _ => .inl rfl

def DV.cells (d : DV) : List Value := [.slice d.za d.zn d.zc, .slice d.ka d.kn d.kc, .int .i64 d.b.h, .int .i64 d.b.t]

end Go.Proofs.YtkamnbigfdbgbaaDoor
