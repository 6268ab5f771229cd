/- The contract of plain.CopyZones; no condition but that the zones read as data, and are no greater than a machine bears. -/
import Derived.Test.YtaambknbbhjdnaaX9
import Derived.Test.YtaambknbbhjdnaaPL0
import Derived.Test.YtaambknbbhjdnaaY1a
import Derived.Deep.RegionHeld3
namespace Go.Proofs.Ytaambknbbhjdnaa
open Go.RowKit
set_option linter.unusedVariables false
set_option maxRecDepth 100000
set_option linter.unusedSimpArgs false

abbrev ZV.v (z : ZV) : Value := .agg #[.int .i64 z.s, .slice z.a z.n z.c]
def zoneK : Kin ZV where
  k := 2
  cs z := [.int .i64 z.s, .slice z.a z.n z.c]
  ok w z := z.ok w
  off R z := z.off R
  len _ := rfl
  one x := fun v hv => List.all_eq_true.1 (show ([.int .i64 x.s, .slice x.a x.n x.c] : List Value).all (fun v => v.oneCell') = true from rfl) v hv
  below h _ hb hB := Ints.below h hb hB
  but h hb ho := Ints.but h hb ho
  far h hR := Ints.offs h hR
def zoneN : NewK zoneK where
  new B z := ∀ x, z.a = some x → B ≤ x.block
  off h hR := .inr fun x e => by have := h x e; omega
  mono h hb := fun x e => Nat.le_trans hb (h x e)
  zero := ⟨0, none, 0, 0, []⟩
  zero_new _ := fun x e => by cases e
  zero_ok w := Ints.nilSlice w
theorem ZV.lay {w : World} {b o : Nat} {z : ZV} (h : ∀ j v, (zoneK.cs z)[j]? = some v → w.cell? ⟨b, o + j, none⟩ = some v) : w.cell? ⟨b, o, none⟩ = some (.int .i64 z.s) ∧ w.cell? ⟨b, o + 1, none⟩ = some (.slice z.a z.n z.c) :=
  ⟨h 0 _ rfl, h 1 _ rfl⟩
theorem Zones.rows' {w : World} {a : Option Addr} {n c : Nat} {Z : List ZV} (h : Zones w a n c Z) : Rows' zoneK w a n c Z := by
  refine ⟨h.len, h.le, h.max, h.nil, ?_, h.ok⟩
  rcases h.row with h0 | ⟨b, off, ha, hlt, hc⟩
  · exact .inl h0
  · refine .inr ⟨b, off, ha, hlt, fun i x hx j v hv => ?_⟩
    obtain ⟨h1, h2⟩ := hc i x hx
    match j, hv with
    | 0, hv => cases hv; exact h1
    | 1, hv => cases hv; exact h2
theorem MineR.mine {t : TypeId} {w : World} {g n : Nat} {Z : List ZV} (h : MineR zoneK t w g Z) (hn : Z.length = n) (hm : n ≤ 9223372036854775807) (ho : ∀ z ∈ Z, zoneN.new (g + 1) z) : Mine w g g n n Z := by
  have hc : ∀ i z, Z[i]? = some z → w.cell? ⟨g, i * 2, none⟩ = some (.int .i64 z.s) ∧ w.cell? ⟨g, i * 2 + 1, none⟩ = some (.slice z.a z.n z.c) := fun i z hz =>
    ⟨h.lay.cell _ _ (Kin.cells_get Z i z hz 0 _ rfl), h.lay.cell _ _ (Kin.cells_get Z i z hz 1 _ rfl)⟩
  exact ⟨⟨hn, Nat.le_refl _, hm, fun e => (by cases e), .inr ⟨g, 0, rfl, h.lay.lt, fun i z hz => by simpa using hc i z hz⟩, h.ok⟩, Nat.le_refl _, h.lay.lt, hc, fun j _ => h.lay.ice j, fun z hz => zoneN.off (ho z hz) (by omega)⟩

set_option maxHeartbeats 1000000 in
theorem pzone_c (z : ZV) (w : World) (h : z.ok w) (hn : z.n ≤ 100000) : Calls Try.prog 56 #[z.v] w (Copy1 zoneK ZV.v ZV.p zoneN z w) := by
  obtain ⟨s, a, n, c, l⟩ := z
  have hI : Ints w a n c l := h
  dsimp only [ZV.v] at *
  have xR := Lay.made1 w (.cells #[.int .i64 s, .slice a n c] 37) [.int .i64 0, .slice none 0 0] 37
  go_enter Try.func56, Try.ntmps56
  go_upto_region 1 with fail
  go_region_held3 (fun w' => w'.cell? ⟨w.heap.size, 0, none⟩ = some (.int .i64 s) ∧ w'.cell? ⟨w.heap.size, 1, none⟩ = some (.slice a n c)) ((first | (go_simp; done) | (simp [*, World.cell?_alloc_at, World.cell?_alloc_past, World.cell?_alloc_some, World.cell?_setCell_far]; done))) (first | (go_at_call 57; refine (plist_c a n c l _ (by refine Ints.below hI (B := w.heap.size) ?_ (Nat.le_refl _); (repeat first | exact bel0 | assumption | refine bel1 ?_ | refine bel2 ?_ | refine bel3 ?_ | refine belowT ?_ (by assumption) | refine bel5 ?_ (by simp; try omega))) hn).mono ?_; rintro e w1 ⟨⟨q, rfl, i1, hq, hq2⟩, hb1⟩; (have g0 := keepc hb1 (p := ⟨w.heap.size, 0, none⟩) (u := .int .i64 s) (by (first | (go_simp; done) | (simp [*, World.cell?_alloc_at, World.cell?_alloc_past, World.cell?_alloc_some, World.cell?_setCell_far]; done)))); (have g1 := keepc hb1 (p := ⟨w.heap.size, 1, none⟩) (u := .slice a n c) (by (first | (go_simp; done) | (simp [*, World.cell?_alloc_at, World.cell?_alloc_past, World.cell?_alloc_some, World.cell?_setCell_far]; done)))); (have xR1 := xR.below (w' := w1) (by (repeat first | exact bel0 | assumption | refine bel1 ?_ | refine bel2 ?_ | refine bel3 ?_ | refine belowT ?_ (by assumption) | refine bel5 ?_ (by simp; try omega)))); (have e0 := xR1.cell 0 _ rfl); (have e1 := xR1.cell 1 _ rfl); (have f0 := xR1.ice 0); (have f1 := xR1.ice 1)))
  have bw : Below w.heap.size w w1 := by (repeat first | exact bel0 | assumption | refine bel1 ?_ | refine bel2 ?_ | refine bel3 ?_ | refine belowT ?_ (by assumption) | refine bel5 ?_ (by simp; try omega))
  simp at hq
  clear hb1 g0 g1 xR
  go_wp2
  have zB := (xR1.set 0 (.int .i64 s)).set 1 (.slice (some ⟨q, 0, none⟩) n n)
  have hbut := ((ButI.refl (w.heap.size + 1) w1).step 0 (.int .i64 s)).step 1 (.slice (some ⟨q, 0, none⟩) n n)
  generalize (w1.setCell ⟨w.heap.size + 1, 0, none⟩ (.int .i64 s)).setCell ⟨w.heap.size + 1, 1, none⟩ (.slice (some ⟨q, 0, none⟩) n n) = w9 at *
  have z0 := zB.cell 0 _ rfl
  have z1 := zB.cell 1 _ rfl
  exact bodyPost_ret (v := .agg #[.int .i64 s, .slice (some ⟨q, 0, none⟩) n n]) (by simp [results, Try.results56, go_sem, z0, z1]) rfl
    ⟨⟨⟨s, some ⟨q, 0, none⟩, n, n, l⟩, rfl, i1.but hbut.but (.inr fun x e => by cases e; simp; omega), fun x e => by cases e; simp; omega, rfl⟩, bw.trans (hbut.below (B := w.heap.size) (by omega))⟩

theorem pzones_info : ∃ i, Try.prog.info? 37 = some i ∧ i.zero = some (.agg #[.int .i64 0, .slice none 0 0]) ∧ i.size = 2 ∧ i.bytes ≤ 1000 := by
  have h : (Try.prog.info? 37).map (fun i => (i.zero, i.size, Nat.ble i.bytes 1000)) = some (some (.agg #[.int .i64 0, .slice none 0 0]), 2, true) := by kernel_rfl
  obtain ⟨i, hi, h⟩ := Option.map_eq_some_iff.1 h
  simp only [Prod.mk.injEq] at h
  exact ⟨i, hi, h.1, h.2.1, Nat.le_of_ble_eq_true h.2.2⟩
theorem pzones_mk (n : Nat) (hn : n ≤ 1000000) (w : World) : (Instr.makeSlice 22 (.int .i64 (n : Int)) (.int .i64 (n : Int))).run Try.prog w = .ok (.slice (some ⟨w.heap.size, 0, none⟩) n n) (w.alloc (.cells (zoneK.cells (List.replicate n zoneN.zero)).toArray 37)) := by
  obtain ⟨i, hi, hz, hs, hb⟩ := pzones_info
  exact mkR zoneK (P := Try.prog) zoneN.zero Try.underlying22 hi hz rfl rfl hs hb (by decide) n hn w
set_option maxRecDepth 100000 in
set_option maxHeartbeats 4000000 in
theorem pzones_c (a : Option Addr) (n c : Nat) (X : List ZV) (w : World) (h : Rows' zoneK w a n c X) (hn : n ≤ 1000000) (hF : ∀ x ∈ X, ∀ w' : World, zoneK.ok w' x → Calls Try.prog 56 #[x.v] w' (Copy1 zoneK ZV.v ZV.p zoneN x w')) :
    Calls Try.prog 55 #[.slice a n c, .func (Fn.func 56) #[] #[]] w (Copied zoneK 37 ZV.p zoneN w n X) := by
  have hmk := pzones_mk n hn
  have HM := hide (fun w' => MineR.made zoneK 37 zoneN.zero zoneN.zero_ok n w')
  generalize (zoneK.cells (List.replicate n zoneN.zero)).toArray = xs at *
  have hlen := hide h.len
  have hmax := h.max
  have hle := h.le
  have HF := hide hF
  clear hF
  go_enter Try.func55, Try.ntmps55
  go_wp2
  go_loopw [13] (fun i wr => ∃ wz : World, wz = wr ∧ ∃ (j : Nat) (Y : List ZV), j ≤ n ∧ i = .int .i64 (j : Nat) ∧ MineR zoneK 37 wz w.heap.size Y ∧ Y.length = n ∧ (Y.take j).map ZV.p = (X.take j).map ZV.p ∧ (∀ y ∈ Y, zoneN.new (w.heap.size + 1) y) ∧ Below w.heap.size w wz) (fun i _ => n - (intOf i).toNat)
  case atStart => exact ⟨_, rfl, 0, _, by omega, rfl, HM.out w, by simp, by simp, fun y hy => by rw [List.eq_of_mem_replicate hy]; exact zoneN.zero_new _, by (repeat first | exact bel0 | assumption | refine bel1 ?_ | refine bel2 ?_ | refine bel3 ?_ | refine belowT ?_ (by assumption) | refine bel5 ?_ (by simp; try omega))⟩
  case round =>
    obtain ⟨wr, rfl, j, Y, hj, rfl, hm, hl, hp, hnw, hbr⟩ := hrel
    have HP := hide hp
    have HL := hide hl
    have HN := hide hnw
    clear hp hl hnw hmk
    by_cases hlt : j < n
    · obtain ⟨b, off, x, rfl, hx, hxk, hb, kx⟩ := h.at hlt
      have HX := hide hx
      have HW := hide (HF.out x (List.mem_of_getElem? hx))
      have hxr := zoneK.below hxk hbr (Nat.le_refl _)
      have LX := ZV.lay (b := b) (o := off + j * 2) (fun i v h => keepc hbr (kx i v h))
      have hlt' : (j : Int) < (n : Int) := by omega
      have HG := hide hm.lay.lt
      clear hx kx hxk
      dsimp only [ZV.v] at HW
      obtain ⟨c0, c1⟩ := LX
      go_wp2_with fail
      refine (HW.out _ (zoneK.below hxr (B := wr.heap.size) (by (repeat first | exact bel0 | assumption | refine bel1 ?_ | refine bel2 ?_ | refine bel3 ?_ | refine belowT ?_ (by assumption) | refine bel5 ?_ (by simp; try omega))) (Nat.le_refl _))).mono ?_
      rintro e w2 ⟨⟨y, rfl, hyk, hyn, hyp⟩, hb2⟩
      have b2 : Below wr.heap.size wr w2 := by (repeat first | exact bel0 | assumption | refine bel1 ?_ | refine bel2 ?_ | refine bel3 ?_ | refine belowT ?_ (by assumption) | refine bel5 ?_ (by simp; try omega))
      replace hm := hm.below b2
      have hgl := hm.lay.lt
      have hgs := HG.out
      have bw2 := belowT hbr b2
      have hjY : j < Y.length := by rw [HL.out]; exact hlt
      simp only [World.size_alloc] at hyn
      clear hb2 b2 HW hxr c0 c1
      obtain ⟨u0, y0⟩ : ∃ u, w2.cell? ⟨w.heap.size, j * 2, none⟩ = some u := hm.at (j := 0) hjY (by decide)
      have s0 := hm.lay.ice (j * 2)
      obtain ⟨u1, y1⟩ : ∃ u, w2.cell? ⟨w.heap.size, j * 2 + 1, none⟩ = some u := hm.at (j := 1) hjY (by decide)
      have s1 := hm.lay.ice (j * 2 + 1)
      dsimp only [ZV.v]
      go_wp2
      have hoff : ∀ z ∈ Y, zoneK.off w.heap.size z := fun z hz => zoneN.off (HN.out z hz) (by omega)
      have hput := hm.put hjY hyk hoff (zoneN.off hyn (by omega))
      have bput := (putAll_but w.heap.size (zoneK.cs y) w2 (j * zoneK.k)).below (B := w.heap.size) (Nat.le_refl _)
      exact ⟨⟨_, rfl, j + 1, _, by omega, by go_num, hput, by rw [List.length_set]; exact HL.out, take_setK HX.out hjY HP.out hyp, fun z hz => by
        rcases List.mem_or_eq_of_mem_set hz with hz | rfl
        · exact HN.out z hz
        · exact zoneN.mono hyn (by omega), bw2.trans bput⟩, by simp [intOf]; omega⟩
    · obtain rfl : j = n := by omega
      go_wp2
      go_ret
      have hp := HP.out
      rw [List.take_of_length_le (by rw [HL.out]; omega), List.take_of_length_le (by rw [hlen.out]; omega)] at hp
      exact ⟨⟨_, _, rfl, hm, HL.out, hp, Nat.le_refl _, HN.out⟩, hbr⟩


theorem pcopyZones_c (a : Option Addr) (n c : Nat) (Z : List ZV) (w : World) (h : Zones w a n c Z) (hn : n ≤ 1000000) (h8 : ∀ z ∈ Z, z.n ≤ 100000) :
    Calls Try.prog 43 #[.slice a n c] w (Copied zoneK 37 ZV.p zoneN w n Z) := by
  go_enter Try.func43, Try.ntmps43
  go_wp2_with fail
  refine (pzones_c a n c Z _ h.rows' hn (fun x hx w' h' => pzone_c x w' h' (h8 x hx))).mono ?_
  rintro e w1 ⟨⟨g, Y, rfl, hm, hl, hp, hg, hn⟩, hb⟩
  go_wp2
  go_ret
  exact ⟨⟨g, Y, rfl, hm, hl, hp, hg, hn⟩, hb⟩

end Go.Proofs.Ytaambknbbhjdnaa
