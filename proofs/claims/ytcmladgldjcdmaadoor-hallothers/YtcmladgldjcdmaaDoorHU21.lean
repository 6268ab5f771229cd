/- The contract of plain.CopyHall; no condition but that the hall reads as data, and is no greater than a machine bears. -/
import Derived.Test.YtcmladgldjcdmaaDoorHU9
import Derived.Test.YtcmladgldjcdmaaDoorHU8
import Derived.Test.YtcmladgldjcdmaaDoorHU20
import Derived.Deep.RegionHeld3
import Derived.Test.YtcmladgldjcdmaaDoorHU17
import Derived.Test.YtcmladgldjcdmaaDoorHU7
namespace Go.Proofs.YtcmladgldjcdmaaDoor
open Go.RowKit
set_option linter.unusedVariables false
set_option maxRecDepth 100000
set_option linter.unusedSimpArgs false

def lastK : Kin LV where
  k := 4
  cs := LV.cells
  ok w y := y.ok w
  off R y := y.off R
  len _ := rfl
  one y := y.cells_one
  below h _ hb hB := LV.ok.below h hb hB
  but h hb ho := LV.ok.but h hb ho
  far h hR := LV.ok.off h hR
def lastN : NewK lastK where
  new B y := ∀ R, R < B → y.off R
  off h hR := h _ hR
  mono h hb := fun R hR => h R (by omega)
  zero := LV.zero
  zero_new _ := fun R _ => .inl rfl
  zero_ok w := LV.zero_ok w
theorem LV.lay {w : World} {b o : Nat} {y : LV} (h : ∀ j v, (lastK.cs y)[j]? = some v → w.cell? ⟨b, o + j, none⟩ = some v) : w.cell? ⟨b, o, none⟩ = some (.int .i64 y.s) ∧ w.cell? ⟨b, o + 1, none⟩ = some (.int .i64 y.x.e) ∧ w.cell? ⟨b, o + 2, none⟩ = some (.int .i64 y.x.t) ∧ w.cell? ⟨b, o + 3, none⟩ = some (.slice y.x.a y.x.n y.x.c) :=
  ⟨h 0 _ rfl, h 1 _ rfl, h 2 _ rfl, h 3 _ rfl⟩
theorem Lasts.rows' {w : World} {a : Option Addr} {n c : Nat} {L : List LV} (h : Lasts w a n c L) : Rows' lastK w a n c L := ⟨h.len, h.le, h.max, h.nil, h.row, h.ok⟩

set_option maxHeartbeats 1000000 in
theorem plast_c (y : LV) (w : World) (h : y.ok w) (hn : y.x.n ≤ 100000) : Calls Tryd.prog 29 #[y.v] w (Copy1 lastK LV.v LV.p lastN y w) := by
  obtain ⟨s, ⟨ee, tt, a, n, c, l⟩⟩ := y
  have hI : Ints w a n c l := h
  have HA := hide (fun w' h' => pwholeA_c ⟨ee, tt, a, n, c, l⟩ w' h' hn)
  dsimp only [LV.v, AV.v] at *
  have xR := Lay.made1 w (.cells #[.int .i64 s, .int .i64 ee, .int .i64 tt, .slice a n c] 47) [.int .i64 0, .int .i64 0, .int .i64 0, .slice none 0 0] 47
  clear h
  go_enter Tryd.func29, Tryd.ntmps29
  go_upto_region 1 with fail
  go_region_held3 (fun w' => w'.cell? ⟨w.heap.size, 0, none⟩ = some (.int .i64 s) ∧ w'.cell? ⟨w.heap.size, 1, none⟩ = some (.int .i64 ee) ∧ w'.cell? ⟨w.heap.size, 2, none⟩ = some (.int .i64 tt) ∧ w'.cell? ⟨w.heap.size, 3, none⟩ = some (.slice a n c)) ((first | (go_simp; done) | (simp [*, World.cell?_alloc_at, World.cell?_alloc_past, World.cell?_alloc_some, World.cell?_setCell_far]; done))) (first | (go_at_call 14; refine (HA.out _ (by refine Ints.below hI (B := w.heap.size) ?_ (Nat.le_refl _); (repeat first | exact bel0 | assumption | refine bel1 ?_ | refine bel2 ?_ | refine bel3 ?_ | refine belowT ?_ (by assumption) | refine bel5 ?_ (by simp; try omega)))).mono ?_; rintro e w1 ⟨⟨q, rfl, i1, hq, hq2⟩, hb1⟩; (have g0 := keepc hb1 (p := ⟨w.heap.size, 0, none⟩) (u := .int .i64 s) (by (first | (go_simp; done) | (simp [*, World.cell?_alloc_at, World.cell?_alloc_past, World.cell?_alloc_some, World.cell?_setCell_far]; done)))); (have g1 := keepc hb1 (p := ⟨w.heap.size, 1, none⟩) (u := .int .i64 ee) (by (first | (go_simp; done) | (simp [*, World.cell?_alloc_at, World.cell?_alloc_past, World.cell?_alloc_some, World.cell?_setCell_far]; done)))); (have g2 := keepc hb1 (p := ⟨w.heap.size, 2, none⟩) (u := .int .i64 tt) (by (first | (go_simp; done) | (simp [*, World.cell?_alloc_at, World.cell?_alloc_past, World.cell?_alloc_some, World.cell?_setCell_far]; done)))); (have g3 := keepc hb1 (p := ⟨w.heap.size, 3, none⟩) (u := .slice a n c) (by (first | (go_simp; done) | (simp [*, World.cell?_alloc_at, World.cell?_alloc_past, World.cell?_alloc_some, World.cell?_setCell_far]; done)))); (have xR1 := xR.below (w' := w1) (by (repeat first | exact bel0 | assumption | refine bel1 ?_ | refine bel2 ?_ | refine bel3 ?_ | refine belowT ?_ (by assumption) | refine bel5 ?_ (by simp; try omega)))); (have e0 := xR1.cell 0 _ rfl); (have e1 := xR1.cell 1 _ rfl); (have e2 := xR1.cell 2 _ rfl); (have e3 := xR1.cell 3 _ rfl); (have f0 := xR1.ice 0); (have f1 := xR1.ice 1); (have f2 := xR1.ice 2); (have f3 := xR1.ice 3)))
  have bw : Below w.heap.size w w1 := by (repeat first | exact bel0 | assumption | refine bel1 ?_ | refine bel2 ?_ | refine bel3 ?_ | refine belowT ?_ (by assumption) | refine bel5 ?_ (by simp; try omega))
  simp at hq
  clear hb1 g0 g1 g2 g3 xR
  go_wp2
  have zB := (((xR1.set 0 (.int .i64 s)).set 1 (.int .i64 ee)).set 2 (.int .i64 tt)).set 3 (.slice (some ⟨q, 0, none⟩) n n)
  have hbut := ((((ButI.refl (w.heap.size + 1) w1).step 0 (.int .i64 s)).step 1 (.int .i64 ee)).step 2 (.int .i64 tt)).step 3 (.slice (some ⟨q, 0, none⟩) n n)
  generalize (((w1.setCell ⟨w.heap.size + 1, 0, none⟩ (.int .i64 s)).setCell ⟨w.heap.size + 1, 1, none⟩ (.int .i64 ee)).setCell ⟨w.heap.size + 1, 2, none⟩ (.int .i64 tt)).setCell ⟨w.heap.size + 1, 3, none⟩ (.slice (some ⟨q, 0, none⟩) n n) = w9 at *
  have z0 := zB.cell 0 _ rfl
  have z1 := zB.cell 1 _ rfl
  have z2 := zB.cell 2 _ rfl
  have z3 := zB.cell 3 _ rfl
  exact bodyPost_ret (v := .agg #[.int .i64 s, .int .i64 ee, .int .i64 tt, .slice (some ⟨q, 0, none⟩) n n]) (by simp [results, Tryd.results29, go_sem, z0, z1, z2, z3]) rfl
    ⟨⟨⟨s, ⟨ee, tt, some ⟨q, 0, none⟩, n, n, l⟩⟩, rfl, Ints.but i1 hbut.but (.inr fun x e => by cases e; simp; omega), fun R hR => .inr fun x e => by cases e; simp; omega, rfl⟩, bw.trans (hbut.below (B := w.heap.size) (by omega))⟩

theorem plasts_info : ∃ i, Tryd.prog.info? 47 = some i ∧ i.zero = some (.agg #[.int .i64 0, .int .i64 0, .int .i64 0, .slice none 0 0]) ∧ i.size = 4 ∧ i.bytes ≤ 1000 := by
  have h : (Tryd.prog.info? 47).map (fun i => (i.zero, i.size, Nat.ble i.bytes 1000)) = some (some (.agg #[.int .i64 0, .int .i64 0, .int .i64 0, .slice none 0 0]), 4, true) := by kernel_rfl
  obtain ⟨i, hi, h⟩ := Option.map_eq_some_iff.1 h
  simp only [Prod.mk.injEq] at h
  exact ⟨i, hi, h.1, h.2.1, Nat.le_of_ble_eq_true h.2.2⟩
theorem plasts_mk (n : Nat) (hn : n ≤ 1000000) (w : World) : (Instr.makeSlice 28 (.int .i64 (n : Int)) (.int .i64 (n : Int))).run Tryd.prog w = .ok (.slice (some ⟨w.heap.size, 0, none⟩) n n) (w.alloc (.cells (lastK.cells (List.replicate n lastN.zero)).toArray 47)) := by
  obtain ⟨i, hi, hz, hs, hb⟩ := plasts_info
  exact mkR lastK (P := Tryd.prog) lastN.zero Tryd.underlying28 hi hz rfl rfl hs hb (by decide) n hn w
set_option maxRecDepth 100000 in
set_option maxHeartbeats 4000000 in
theorem plasts_c (a : Option Addr) (n c : Nat) (X : List LV) (w : World) (h : Rows' lastK w a n c X) (hn : n ≤ 1000000) (hF : ∀ x ∈ X, ∀ w' : World, lastK.ok w' x → Calls Tryd.prog 29 #[x.v] w' (Copy1 lastK LV.v LV.p lastN x w')) :
    Calls Tryd.prog 28 #[.slice a n c, .func (Fn.func 29) #[] #[]] w (Copied lastK 47 LV.p lastN w n X) := by
  have hmk := plasts_mk n hn
  have HM := hide (fun w' => MineR.made lastK 47 lastN.zero lastN.zero_ok n w')
  generalize (lastK.cells (List.replicate n lastN.zero)).toArray = xs at *
  have hlen := hide h.len
  have hmax := h.max
  have hle := h.le
  have HF := hide hF
  clear hF
  go_enter Tryd.func28, Tryd.ntmps28
  go_wp2
  go_loopw [13] (fun i wr => ∃ wz : World, wz = wr ∧ ∃ (j : Nat) (Y : List LV), j ≤ n ∧ i = .int .i64 (j : Nat) ∧ MineR lastK 47 wz w.heap.size Y ∧ Y.length = n ∧ (Y.take j).map LV.p = (X.take j).map LV.p ∧ (∀ y ∈ Y, lastN.new (w.heap.size + 1) y) ∧ Below w.heap.size w wz) (fun i _ => n - (intOf i).toNat)
  case atStart => exact ⟨_, rfl, 0, _, by omega, rfl, HM.out w, by simp, by simp, fun y hy => by rw [List.eq_of_mem_replicate hy]; exact lastN.zero_new _, by (repeat first | exact bel0 | assumption | refine bel1 ?_ | refine bel2 ?_ | refine bel3 ?_ | refine belowT ?_ (by assumption) | refine bel5 ?_ (by simp; try omega))⟩
  case round =>
    obtain ⟨wr, rfl, j, Y, hj, rfl, hm, hl, hp, hnw, hbr⟩ := hrel
    have HP := hide hp
    have HL := hide hl
    have HN := hide hnw
    clear hp hl hnw hmk
    by_cases hlt : j < n
    · obtain ⟨b, off, x, rfl, hx, hxk, hb, kx⟩ := h.at hlt
      have HX := hide hx
      have HW := hide (HF.out x (List.mem_of_getElem? hx))
      have hxr := lastK.below hxk hbr (Nat.le_refl _)
      have LX := LV.lay (b := b) (o := off + j * 4) (fun i v h => keepc hbr (kx i v h))
      have hlt' : (j : Int) < (n : Int) := by omega
      have HG := hide hm.lay.lt
      clear hx kx hxk
      dsimp only [LV.v] at HW
      obtain ⟨c0, c1, c2, c3⟩ := LX
      go_wp2_with fail
      refine (HW.out _ (lastK.below hxr (B := wr.heap.size) (by (repeat first | exact bel0 | assumption | refine bel1 ?_ | refine bel2 ?_ | refine bel3 ?_ | refine belowT ?_ (by assumption) | refine bel5 ?_ (by simp; try omega))) (Nat.le_refl _))).mono ?_
      rintro e w2 ⟨⟨y, rfl, hyk, hyn, hyp⟩, hb2⟩
      have b2 : Below wr.heap.size wr w2 := by (repeat first | exact bel0 | assumption | refine bel1 ?_ | refine bel2 ?_ | refine bel3 ?_ | refine belowT ?_ (by assumption) | refine bel5 ?_ (by simp; try omega))
      replace hm := hm.below b2
      have hgl := hm.lay.lt
      have hgs := HG.out
      have bw2 := belowT hbr b2
      have hjY : j < Y.length := by rw [HL.out]; exact hlt
      simp only [World.size_alloc] at hyn
      clear hb2 b2 HW hxr c0 c1 c2 c3
      obtain ⟨u0, y0⟩ : ∃ u, w2.cell? ⟨w.heap.size, j * 4, none⟩ = some u := hm.at (j := 0) hjY (by decide)
      have s0 := hm.lay.ice (j * 4)
      obtain ⟨u1, y1⟩ : ∃ u, w2.cell? ⟨w.heap.size, j * 4 + 1, none⟩ = some u := hm.at (j := 1) hjY (by decide)
      have s1 := hm.lay.ice (j * 4 + 1)
      obtain ⟨u2, y2⟩ : ∃ u, w2.cell? ⟨w.heap.size, j * 4 + 2, none⟩ = some u := hm.at (j := 2) hjY (by decide)
      have s2 := hm.lay.ice (j * 4 + 2)
      obtain ⟨u3, y3⟩ : ∃ u, w2.cell? ⟨w.heap.size, j * 4 + 3, none⟩ = some u := hm.at (j := 3) hjY (by decide)
      have s3 := hm.lay.ice (j * 4 + 3)
      dsimp only [LV.v]
      go_wp2
      have hoff : ∀ z ∈ Y, lastK.off w.heap.size z := fun z hz => lastN.off (HN.out z hz) (by omega)
      have hput := hm.put hjY hyk hoff (lastN.off hyn (by omega))
      have bput := (putAll_but w.heap.size (lastK.cs y) w2 (j * lastK.k)).below (B := w.heap.size) (Nat.le_refl _)
      exact ⟨⟨_, rfl, j + 1, _, by omega, by go_num, hput, by rw [List.length_set]; exact HL.out, take_setK HX.out hjY HP.out hyp, fun z hz => by
        rcases List.mem_or_eq_of_mem_set hz with hz | rfl
        · exact HN.out z hz
        · exact lastN.mono hyn (by omega), bw2.trans bput⟩, by simp [intOf]; omega⟩
    · obtain rfl : j = n := by omega
      go_wp2
      go_ret
      have hp := HP.out
      rw [List.take_of_length_le (by rw [HL.out]; omega), List.take_of_length_le (by rw [hlen.out]; omega)] at hp
      exact ⟨⟨_, _, rfl, hm, HL.out, hp, Nat.le_refl _, HN.out⟩, hbr⟩


set_option maxHeartbeats 4000000 in
theorem phall_c (h : HV) (w : World) (hk : h.ok w) (h1 : h.d.zn ≤ 1000000) (h2 : ∀ z ∈ h.d.Z, z.n ≤ 100000) (h3 : h.d.kn ≤ 100000) (h4 : h.n ≤ 1000000) (h5 : ∀ y ∈ h.L, y.x.n ≤ 100000) :
    Calls Tryd.prog 12 #[h.v] w fun e w' => (∃ (d' : DV) (g : Nat) (L' : List LV), e = .returned (HV.v ⟨d', some ⟨g, 0, none⟩, h.n, h.n, L'⟩) ∧ d'.ok w' ∧ MineR lastK 47 w' g L' ∧ L'.length = h.n ∧ d'.new w.heap.size ∧ d'.off g ∧ w.heap.size ≤ g ∧ d'.p = h.d.p ∧ L'.map LV.p = h.L.map LV.p ∧ ∀ y ∈ L', lastN.new (g + 1) y) ∧ Below w.heap.size w w' := by
  obtain ⟨x0, xR, bw⟩ := two_boxes w h.cells [.slice none 0 0, .slice none 0 0, .int .i64 0, .int .i64 0, .slice none 0 0] 30 30
  replace hk := hk.below bw (Nat.le_refl _)
  have HD := hide (fun w' h' => pdesk_c h.d w' h' h1 h2 h3)
  have HL := hide (fun w' h' => plasts_c h.a h.n h.c h.L w' h' h4 (fun x hx w'' h'' => plast_c x w'' h'' (h5 x hx)))
  dsimp only [HV.v, DV.v, HV.cells] at *
  go_enter Tryd.func12, Tryd.ntmps12
  go_upto_region 1 with fail
  generalize (w.alloc (.cells [.slice h.d.za h.d.zn h.d.zc, .slice h.d.ka h.d.kn h.d.kc, .int .i64 h.d.b.h, .int .i64 h.d.b.t, .slice h.a h.n h.c].toArray 30)).alloc (.cells [.slice none 0 0, .slice none 0 0, .int .i64 0, .int .i64 0, .slice none 0 0].toArray 30) = w0 at *
  have c0 := x0.cell 0 _ rfl
  have c1 := x0.cell 1 _ rfl
  have c2 := x0.cell 2 _ rfl
  have c3 := x0.cell 3 _ rfl
  have c4 := x0.cell 4 _ rfl
  have hgl := xR.lt
  go_region_held3 (fun w' => w'.cell? ⟨w.heap.size, 0, none⟩ = some (.slice h.d.za h.d.zn h.d.zc) ∧ w'.cell? ⟨w.heap.size, 1, none⟩ = some (.slice h.d.ka h.d.kn h.d.kc) ∧ w'.cell? ⟨w.heap.size, 2, none⟩ = some (.int .i64 h.d.b.h) ∧ w'.cell? ⟨w.heap.size, 3, none⟩ = some (.int .i64 h.d.b.t) ∧ w'.cell? ⟨w.heap.size, 4, none⟩ = some (.slice h.a h.n h.c)) ((first | (go_simp; done) | (simp [*, World.cell?_alloc_at, World.cell?_alloc_past, World.cell?_alloc_some, World.cell?_setCell_far]; done))) (first
    | (go_at_call 27; refine (HD.out _ (by refine DV.ok.below hk.d (B := w0.heap.size) ?_ (Nat.le_refl _); clear bw; (repeat first | exact bel0 | assumption | refine bel1 ?_ | refine bel2 ?_ | refine bel3 ?_ | refine belowT ?_ (by assumption) | refine bel5 ?_ (by simp; try omega)))).mono ?_; rintro e w1 ⟨⟨d', rfl, hd, hdn, hdp⟩, hb1⟩; (dsimp only [DV.v]); (have g0 := keepc hb1 (p := ⟨w.heap.size, 0, none⟩) (u := .slice h.d.za h.d.zn h.d.zc) (by (first | (go_simp; done) | (simp [*, World.cell?_alloc_at, World.cell?_alloc_past, World.cell?_alloc_some, World.cell?_setCell_far]; done)))); (have g1 := keepc hb1 (p := ⟨w.heap.size, 1, none⟩) (u := .slice h.d.ka h.d.kn h.d.kc) (by (first | (go_simp; done) | (simp [*, World.cell?_alloc_at, World.cell?_alloc_past, World.cell?_alloc_some, World.cell?_setCell_far]; done)))); (have g2 := keepc hb1 (p := ⟨w.heap.size, 2, none⟩) (u := .int .i64 h.d.b.h) (by (first | (go_simp; done) | (simp [*, World.cell?_alloc_at, World.cell?_alloc_past, World.cell?_alloc_some, World.cell?_setCell_far]; done)))); (have g3 := keepc hb1 (p := ⟨w.heap.size, 3, none⟩) (u := .int .i64 h.d.b.t) (by (first | (go_simp; done) | (simp [*, World.cell?_alloc_at, World.cell?_alloc_past, World.cell?_alloc_some, World.cell?_setCell_far]; done)))); (have g4 := keepc hb1 (p := ⟨w.heap.size, 4, none⟩) (u := .slice h.a h.n h.c) (by (first | (go_simp; done) | (simp [*, World.cell?_alloc_at, World.cell?_alloc_past, World.cell?_alloc_some, World.cell?_setCell_far]; done)))))
    | (go_at_call 28; refine (HL.out _ (by refine Rows'.below (Lasts.rows' hk.l) (B := w0.heap.size) ?_ (Nat.le_refl _); clear bw; (repeat first | exact bel0 | assumption | refine bel1 ?_ | refine bel2 ?_ | refine bel3 ?_ | refine belowT ?_ (by assumption) | refine bel5 ?_ (by simp; try omega)))).mono ?_; rintro e w2 ⟨⟨g, L', rfl, hm, hl, hp, hg, hyn⟩, hb2⟩; (have k0 := keepc hb2 (p := ⟨w.heap.size, 0, none⟩) (u := .slice h.d.za h.d.zn h.d.zc) (by (first | (go_simp; done) | (simp [*, World.cell?_alloc_at, World.cell?_alloc_past, World.cell?_alloc_some, World.cell?_setCell_far]; done)))); (have k1 := keepc hb2 (p := ⟨w.heap.size, 1, none⟩) (u := .slice h.d.ka h.d.kn h.d.kc) (by (first | (go_simp; done) | (simp [*, World.cell?_alloc_at, World.cell?_alloc_past, World.cell?_alloc_some, World.cell?_setCell_far]; done)))); (have k2 := keepc hb2 (p := ⟨w.heap.size, 2, none⟩) (u := .int .i64 h.d.b.h) (by (first | (go_simp; done) | (simp [*, World.cell?_alloc_at, World.cell?_alloc_past, World.cell?_alloc_some, World.cell?_setCell_far]; done)))); (have k3 := keepc hb2 (p := ⟨w.heap.size, 3, none⟩) (u := .int .i64 h.d.b.t) (by (first | (go_simp; done) | (simp [*, World.cell?_alloc_at, World.cell?_alloc_past, World.cell?_alloc_some, World.cell?_setCell_far]; done)))); (have k4 := keepc hb2 (p := ⟨w.heap.size, 4, none⟩) (u := .slice h.a h.n h.c) (by (first | (go_simp; done) | (simp [*, World.cell?_alloc_at, World.cell?_alloc_past, World.cell?_alloc_some, World.cell?_setCell_far]; done)))); (have xR2 := xR.below (w' := w2) (by clear bw; (repeat first | exact bel0 | assumption | refine bel1 ?_ | refine bel2 ?_ | refine bel3 ?_ | refine belowT ?_ (by assumption) | refine bel5 ?_ (by simp; try omega)))); (have e0 := xR2.cell 0 _ rfl); (have e1 := xR2.cell 1 _ rfl); (have e2 := xR2.cell 2 _ rfl); (have e3 := xR2.cell 3 _ rfl); (have e4 := xR2.cell 4 _ rfl); (have f0 := xR2.ice 0); (have f1 := xR2.ice 1); (have f2 := xR2.ice 2); (have f3 := xR2.ice 3); (have f4 := xR2.ice 4)))
  have b12 : Below w1.heap.size w1 w2 := by clear bw; (repeat first | exact bel0 | assumption | refine bel1 ?_ | refine bel2 ?_ | refine bel3 ?_ | refine belowT ?_ (by assumption) | refine bel5 ?_ (by simp; try omega))
  have b02 : Below w0.heap.size w0 w2 := by clear bw b12; (repeat first | exact bel0 | assumption | refine bel1 ?_ | refine bel2 ?_ | refine bel3 ?_ | refine belowT ?_ (by assumption) | refine bel5 ?_ (by simp; try omega))
  have hs1 := hb1.size
  simp at hg hs1 hdn
  have hdg := hd.off hg
  have bw2 := belowT bw b02
  replace hd := hd.below b12 (Nat.le_refl _)
  clear hb1 hb2 c0 c1 c2 c3 c4 xR bw b12 b02 hk x0
  go_wp2
  have zB := ((((xR2.set 0 (.slice d'.za d'.zn d'.zc)).set 1 (.slice d'.ka d'.kn d'.kc)).set 2 (.int .i64 d'.b.h)).set 3 (.int .i64 d'.b.t)).set 4 (.slice (some ⟨g, 0, none⟩) h.n h.n)
  have hbut := (((((ButI.refl (w.heap.size + 1) w2).step 0 (.slice d'.za d'.zn d'.zc)).step 1 (.slice d'.ka d'.kn d'.kc)).step 2 (.int .i64 d'.b.h)).step 3 (.int .i64 d'.b.t)).step 4 (.slice (some ⟨g, 0, none⟩) h.n h.n)
  have hbb := hbut.but
  have hm9 := hm.away (k := w.heap.size + 1) [.slice d'.za d'.zn d'.zc, .slice d'.ka d'.kn d'.kc, .int .i64 d'.b.h, .int .i64 d'.b.t, .slice (some ⟨g, 0, none⟩) h.n h.n] 0 (by omega) (fun y hy => lastN.off (hyn y hy) (by omega))
  dsimp only [putAll, Nat.reduceAdd] at hm9
  generalize ((((w2.setCell ⟨w.heap.size + 1, 0, none⟩ (.slice d'.za d'.zn d'.zc)).setCell ⟨w.heap.size + 1, 1, none⟩ (.slice d'.ka d'.kn d'.kc)).setCell ⟨w.heap.size + 1, 2, none⟩ (.int .i64 d'.b.h)).setCell ⟨w.heap.size + 1, 3, none⟩ (.int .i64 d'.b.t)).setCell ⟨w.heap.size + 1, 4, none⟩ (.slice (some ⟨g, 0, none⟩) h.n h.n) = w9 at *
  have z0 := zB.cell 0 _ rfl
  have z1 := zB.cell 1 _ rfl
  have z2 := zB.cell 2 _ rfl
  have z3 := zB.cell 3 _ rfl
  have z4 := zB.cell 4 _ rfl
  exact bodyPost_ret (v := .agg #[.slice d'.za d'.zn d'.zc, .slice d'.ka d'.kn d'.kc, .int .i64 d'.b.h, .int .i64 d'.b.t, .slice (some ⟨g, 0, none⟩) h.n h.n]) (by simp [results, Tryd.results12, go_sem, z0, z1, z2, z3, z4]) rfl
    ⟨⟨d', g, L', rfl, hd.but hbb (hdn _ (by omega)), hm9, hl, fun R hR => hdn R (by omega), hdg, by omega, hdp, hp, hyn⟩, bw2.trans (hbut.below (B := w.heap.size) (by omega))⟩

end Go.Proofs.YtcmladgldjcdmaaDoor

/- The contract of hall's whole copy; no condition but that the hall is a right one. -/
namespace Go.Proofs.YtcmladgldjcdmaaDoor
open Go.RowKit
set_option linter.unusedVariables false
set_option maxRecDepth 100000
set_option linter.unusedSimpArgs false

/-- The answer's data lies from B on. -/
def LV.from (B : Nat) (y : LV) : Prop := ∀ R, R < B → y.off R
theorem LV.from.off {B R : Nat} {y : LV} (h : y.from B) (hR : R < B) : y.off R := h R hR
theorem LV.from.mono {B B' : Nat} {y : LV} (h : y.from B) (hb : B' ≤ B) : y.from B' := fun R hR => h R (by omega)
/-- Lasts of the call's own, in block g. -/
structure MineL (w : World) (g : Nat) (L : List LV) : Prop where
  lay : Lay w g (lcells L)
  ok : ∀ y ∈ L, y.ok w
  new : ∀ y ∈ L, y.from (g + 1)
theorem MineL.below {w w' : World} {g : Nat} {L : List LV} (h : MineL w g L) (hb : Below w.heap.size w w') : MineL w' g L := ⟨h.lay.below hb, fun y hy => (h.ok y hy).below hb (Nat.le_refl _), h.new⟩
theorem MineL.far {w : World} {g : Nat} {L : List LV} (h : MineL w g L) {w' : World} {R : Nat} (hb : ButI R w w') (hR : R < g) : MineL w' g L :=
  ⟨h.lay.butI hb (by omega), fun y hy => (h.ok y hy).but hb.but ((h.new y hy).off (by omega)), h.new⟩
theorem MineL.set {w : World} {g : Nat} {L : List LV} (h : MineL w g L) {i : Nat} (hi : i < L.length) {y : LV} (hy : y.ok w) (hn : y.from (g + 1)) :
    MineL ((((w.setCell ⟨g, i * 4, none⟩ (.int .i64 y.s)).setCell ⟨g, i * 4 + 1, none⟩ (.int .i64 y.x.e)).setCell ⟨g, i * 4 + 2, none⟩ (.int .i64 y.x.t)).setCell ⟨g, i * 4 + 3, none⟩ (.slice y.x.a y.x.n y.x.c)) g (L.set i y) := by
  have hb := ((((But.refl g w).step (i * 4) (.int .i64 y.s)).step (i * 4 + 1) (.int .i64 y.x.e)).step (i * 4 + 2) (.int .i64 y.x.t)).step (i * 4 + 3) (.slice y.x.a y.x.n y.x.c)
  refine ⟨by rw [← lcells_set L i y hi]; exact (((h.lay.set _ _).set _ _).set _ _).set _ _, fun z hz => ?_, fun z hz => ?_⟩
  · rcases List.mem_or_eq_of_mem_set hz with hz | rfl
    · exact (h.ok z hz).but hb ((h.new z hz).off (by omega))
    · exact hy.but hb (hn.off (by omega))
  · rcases List.mem_or_eq_of_mem_set hz with hz | rfl
    · exact h.new z hz
    · exact hn
theorem MineL.lasts {w : World} {g : Nat} {L : List LV} (h : MineL w g L) {n : Nat} (hn : L.length = n) (hm : n ≤ 9223372036854775807) : Lasts w (some ⟨g, 0, none⟩) n n L := Lasts.of_lay h.lay h.ok hn hm
/-- What a right hall holds. -/
theorem hall_right {h : HV} {w : World} (hk : h.ok w) (hc : checkH h.p = 0) : checkD h.d.p = 0 ∧ h.n = 3 ∧ (∀ y ∈ h.L, (0 ≤ y.s ∧ y.s ≤ 40) ∧ y.x.n ≤ 8) ∧ h.d.kn = 3 := by
  obtain ⟨h1, h2, h3⟩ := checkH_ok hc
  have h1' : checkD h.d.p = 0 := h1
  refine ⟨h1', ?_, fun y hy => ?_, ?_⟩
  · have := hk.l.len
    simp only [HV.p, List.length_map] at h2
    omega
  · obtain ⟨g1, _, g3, _⟩ := checkL_facts (h3 y.p (by simp only [HV.p]; exact List.mem_map.2 ⟨y, hy, rfl⟩))
    have e := (hk.l.ok y hy).len
    exact ⟨g1, by rw [← e]; exact g3⟩
  · have e := hk.d.k.len
    obtain ⟨x, y, z, hh⟩ := checkB_ok (checkD_ok h1').2
    have e2 := hh.1
    dsimp only [DV.p] at e2
    rw [e2] at e
    simpa using e.symm

theorem hwhole_c (h : HV) (w : World) (hk : h.ok w) (hc : checkH h.p = 0) :
    Calls Tryd.prog 12 #[h.v] w fun e w' => (∃ (d' : DV) (g : Nat) (L' : List LV), e = .returned (HV.v ⟨d', some ⟨g, 0, none⟩, 3, 3, L'⟩) ∧ d'.ok w' ∧ MineL w' g L' ∧ L'.length = 3 ∧ d'.new w.heap.size ∧ d'.off g ∧ w.heap.size ≤ g ∧ d'.p = h.d.p ∧ L'.map LV.p = h.L.map LV.p) ∧ Below w.heap.size w w' := by
  obtain ⟨hcd, hn3, hys, hkn⟩ := hall_right hk hc
  obtain ⟨h1, h2, h3⟩ := desk_small hk.d hcd
  refine (phall_c h w hk h1 h2 h3 (by omega) (fun y hy => by have := (hys y hy).2; omega)).mono ?_
  rintro e w' ⟨⟨d', g, L', rfl, k1, k2, k3, k4, k5, k6, k7, k8, k9⟩, k10⟩
  rw [hn3] at k3 ⊢
  exact ⟨⟨d', g, L', rfl, k1, ⟨k2.lay, k2.ok, k9⟩, k3, k4, k5, k6, k7, k8⟩, k10⟩

end Go.Proofs.YtcmladgldjcdmaaDoor

/- The contract of hall.checkNext; no condition but that the arguments read as data, and the package's table is as its text lays it. -/
namespace Go.Proofs.YtcmladgldjcdmaaDoor
open Go.RowKit
set_option linter.unusedVariables false
set_option maxRecDepth 100000
set_option linter.unusedSimpArgs false

/-- What is wrong with a call of Next. -/
def nextE (h : PH) (r : PR) : Int := if checkH h ≠ 0 then checkH h else if checkR r ≠ 0 then checkR r else if r.s = (lastH h r.w).s ∨ r.s = (lastH h r.w).s + 1 then 0 else 6
theorem nextE_eq (h : PH) (r : PR) : (nextH h r).2.2 = nextE h r := by
  unfold nextH nextE
  split
  · rfl
  · split
    · rfl
    · split
      · rename_i e; rw [if_pos (.inl e)]
      · rename_i e
        split
        · rename_i f
          rw [if_neg (by rintro (q | q); exact e q; exact f q)]
        · rename_i f
          rw [if_pos (.inr (by simpa using f))]

set_option maxRecDepth 100000 in
set_option maxHeartbeats 4000000 in
theorem checkNext_c (h : HV) (r : RV) (w : World) (hS : Shapes w) (hk : h.ok w) (hr : r.ok w) : Calls Tryd.prog 10 #[h.v, r.v] w fun e w' => e = .returned (.int .i64 (nextE h.p r.p)) ∧ Below w.heap.size w w' := by
  have H1 := hide (fun w' (h' : h.ok w') => HCheck_c h w' h')
  have H2 := hide (fun w' (hS' : Shapes w') (h' : r.ok w') => NCheck_c r w' hS' h')
  have HE : Hid (nextE h.p r.p = if checkH h.p ≠ 0 then checkH h.p else if checkR r.p ≠ 0 then checkR r.p else if r.p.s = (lastH h.p r.p.w).s ∨ r.p.s = (lastH h.p r.p.w).s + 1 then 0 else 6) := hide rfl
  have HR : Hid (checkH h.p = 0 → h.n = 3 ∧ ∀ y ∈ h.L, 0 ≤ y.s ∧ y.s ≤ 40) := hide (fun hc => ⟨(hall_right hk hc).2.1, fun y hy => ((hall_right hk hc).2.2.1 y hy).1⟩)
  have HW : Hid (checkR r.p = 0 → ∃ j : Nat, r.p.w = j ∧ j < 3) := hide rec_who
  have H5 := hide (fun m w' => behind_c h m w')
  have H6 := hide (fun m G M j w' => behind1_c h r m G M j w')
  have hkr := And.intro hk hr
  have HK := hide hkr
  clear hkr hk hr
  generalize nextE h.p r.p = ne at *
  generalize checkH h.p = ch at *
  generalize checkR r.p = cr at *
  have xh := (Lay.made w h.cells 30).below (belowA (Below.refl _ _) (.cells r.cells.toArray 34))
  have xr := Lay.made1 w (.cells h.cells.toArray 30) r.cells 34
  have bw : Below w.heap.size w ((w.alloc (.cells h.cells.toArray 30)).alloc (.cells r.cells.toArray 34)) := by (repeat first | exact bel0 | assumption | refine bel1 ?_ | refine bel2 ?_ | refine bel3 ?_ | refine belowT ?_ (by assumption) | refine bel5 ?_ (by simp; try omega))
  have hok := HK.out.1.below bw (Nat.le_refl _)
  have hrk := RV.ok.below HK.out.2 bw (Nat.le_refl _)
  have hSw := hS.below bw
  rw [show h.v = .agg h.cells.toArray from rfl, show r.v = .agg r.cells.toArray from rfl] at *
  obtain ⟨⟨za, zn, zc, Z, ka, kn, kc, bk, bh, bt⟩, a, n, c, L⟩ := h
  obtain ⟨⟨rq, rs, ⟨k1, z1, u1, t1, d1⟩⟩, ra, rn, rc⟩ := r
  dsimp only [HV.cells, RV.cells] at *
  go_enter Tryd.func10, Tryd.ntmps10
  go_wp2_with fail
  refine (H1.out _ hok).mono ?_
  rintro e w1 ⟨rfl, hb1⟩
  replace xh := xh.below hb1
  replace xr := xr.below hb1
  replace hok := hok.below hb1 (Nat.le_refl _)
  replace hrk := RV.ok.below hrk hb1 (Nat.le_refl _)
  replace hSw := hSw.below hb1
  replace bw := belowT bw hb1
  clear hb1
  have r0 := xr.cell 0 _ rfl
  have r1 := xr.cell 1 _ rfl
  have r2 := xr.cell 2 _ rfl
  have r3 := xr.cell 3 _ rfl
  have r4 := xr.cell 4 _ rfl
  have r5 := xr.cell 5 _ rfl
  have r6 := xr.cell 6 _ rfl
  cases h0 : ch != 0
  · go_wp2_with fail
    refine (H2.out _ hSw hrk).mono ?_
    rintro e w2 ⟨rfl, hb2⟩
    replace xh := xh.below hb2
    replace xr := xr.below hb2
    replace hok := hok.below hb2 (Nat.le_refl _)
    replace bw := belowT bw hb2
    clear hb2 r0 r1 r2 r3 r4 r5 r6 hrk hSw
    cases h9 : cr != 0
    · have e0 : ch = 0 := by simpa using h0
      have e9 : cr = 0 := by simpa using h9
      obtain ⟨h3, hs⟩ := HR.out e0
      obtain ⟨j, hj, hj3⟩ := HW.out e9
      have hcs : Hid (∀ m G M (w' : World), HV.ok w' ⟨⟨za, zn, zc, Z, ka, kn, kc, bk, bh, bt⟩, a, n, c, L⟩ → Lay w' G [.slice za zn zc, .slice ka kn kc, .int .i64 bh, .int .i64 bt, .slice a n c] → Lay w' M [.int .i64 m] → 0 ≤ m ∧ m ≤ 1 → Calls Tryd.prog 26 #[.agg #[.int .i64 rq, .int .i64 rs, .int .i64 k1, .int .i64 z1, .int .i64 u1, .int .i64 t1, .slice ra rn rc], .pointer (some ⟨G, 0, none⟩), .pointer (some ⟨M, 0, none⟩)] w' fun e w'' => e = .returned (.bool (rs == (lastH (HV.p ⟨⟨za, zn, zc, Z, ka, kn, kc, bk, bh, bt⟩, a, n, c, L⟩) rq).s + m)) ∧ Below w'.heap.size w' w'') := hide (fun m G M w' h' hG hM hm => by
        have := H6.out m G M j w' h' hG hM h3 hj hj3 hm hs
        rw [← hj] at this
        exact this)
      have HE2 : Hid (ne = if rs = (lastH (HV.p ⟨⟨za, zn, zc, Z, ka, kn, kc, bk, bh, bt⟩, a, n, c, L⟩) rq).s ∨ rs = (lastH (HV.p ⟨⟨za, zn, zc, Z, ka, kn, kc, bk, bh, bt⟩, a, n, c, L⟩) rq).s + 1 then 0 else 6) := hide (by rw [HE.out, if_neg (by simp [e0]), if_neg (by simp [e9])])
      generalize (lastH _ rq).s = ls at *
      clear HE HR HW H6 hs h3 hj hj3 e0 e9
      have q0 := xh.cell 0 _ rfl
      have q1 := xh.cell 1 _ rfl
      have q2 := xh.cell 2 _ rfl
      have q3 := xh.cell 3 _ rfl
      have q4 := xh.cell 4 _ rfl
      have mk1 : Hid (n = n) := hide rfl
      go_upto_region 7 with fail
      go_cut [7, 8] (fun v7 v8 wx => ∃ G0 M0 G1 M1, v7 = .func (Fn.func 26) #[] #[.pointer (some ⟨G0, 0, none⟩), .pointer (some ⟨M0, 0, none⟩)] ∧ v8 = .func (Fn.func 26) #[] #[.pointer (some ⟨G1, 0, none⟩), .pointer (some ⟨M1, 0, none⟩)] ∧ Lay wx G0 [.slice za zn zc, .slice ka kn kc, .int .i64 bh, .int .i64 bt, .slice a n c] ∧ Lay wx M0 [.int .i64 0] ∧ Lay wx G1 [.slice za zn zc, .slice ka kn kc, .int .i64 bh, .int .i64 bt, .slice a n c] ∧ Lay wx M1 [.int .i64 1] ∧ Below w2.heap.size w2 wx)
      case first =>
        go_region_held3 (fun w' => w'.cell? ⟨w.heap.size, 0, none⟩ = some (.slice za zn zc) ∧ w'.cell? ⟨w.heap.size, 1, none⟩ = some (.slice ka kn kc) ∧ w'.cell? ⟨w.heap.size, 2, none⟩ = some (.int .i64 bh) ∧ w'.cell? ⟨w.heap.size, 3, none⟩ = some (.int .i64 bt) ∧ w'.cell? ⟨w.heap.size, 4, none⟩ = some (.slice a n c)) ((first | (go_simp; done) | (simp [*, World.cell?_alloc_at, World.cell?_alloc_past, World.cell?_alloc_some, World.cell?_setCell_far]; done))) (first | (go_at_call 11; clear mk1; refine (H5.out _ _).mono ?_; rintro e wa ⟨rfl, l0, l1, hba⟩; (have g0 := keepc hba (p := ⟨w.heap.size, 0, none⟩) (u := .slice za zn zc) (by (first | (go_simp; done) | (simp [*, World.cell?_alloc_at, World.cell?_alloc_past, World.cell?_alloc_some, World.cell?_setCell_far]; done)))); (have g1 := keepc hba (p := ⟨w.heap.size, 1, none⟩) (u := .slice ka kn kc) (by (first | (go_simp; done) | (simp [*, World.cell?_alloc_at, World.cell?_alloc_past, World.cell?_alloc_some, World.cell?_setCell_far]; done)))); (have g2 := keepc hba (p := ⟨w.heap.size, 2, none⟩) (u := .int .i64 bh) (by (first | (go_simp; done) | (simp [*, World.cell?_alloc_at, World.cell?_alloc_past, World.cell?_alloc_some, World.cell?_setCell_far]; done)))); (have g3 := keepc hba (p := ⟨w.heap.size, 3, none⟩) (u := .int .i64 bt) (by (first | (go_simp; done) | (simp [*, World.cell?_alloc_at, World.cell?_alloc_past, World.cell?_alloc_some, World.cell?_setCell_far]; done)))); (have g4 := keepc hba (p := ⟨w.heap.size, 4, none⟩) (u := .slice a n c) (by (first | (go_simp; done) | (simp [*, World.cell?_alloc_at, World.cell?_alloc_past, World.cell?_alloc_some, World.cell?_setCell_far]; done))))) | (go_at_call 11; refine (H5.out _ _).mono ?_; rintro e wb ⟨rfl, l2, l3, hbb⟩; (have p0 := keepc hbb (p := ⟨w.heap.size, 0, none⟩) (u := .slice za zn zc) (by (first | (go_simp; done) | (simp [*, World.cell?_alloc_at, World.cell?_alloc_past, World.cell?_alloc_some, World.cell?_setCell_far]; done)))); (have p1 := keepc hbb (p := ⟨w.heap.size, 1, none⟩) (u := .slice ka kn kc) (by (first | (go_simp; done) | (simp [*, World.cell?_alloc_at, World.cell?_alloc_past, World.cell?_alloc_some, World.cell?_setCell_far]; done)))); (have p2 := keepc hbb (p := ⟨w.heap.size, 2, none⟩) (u := .int .i64 bh) (by (first | (go_simp; done) | (simp [*, World.cell?_alloc_at, World.cell?_alloc_past, World.cell?_alloc_some, World.cell?_setCell_far]; done)))); (have p3 := keepc hbb (p := ⟨w.heap.size, 3, none⟩) (u := .int .i64 bt) (by (first | (go_simp; done) | (simp [*, World.cell?_alloc_at, World.cell?_alloc_past, World.cell?_alloc_some, World.cell?_setCell_far]; done)))); (have p4 := keepc hbb (p := ⟨w.heap.size, 4, none⟩) (u := .slice a n c) (by (first | (go_simp; done) | (simp [*, World.cell?_alloc_at, World.cell?_alloc_past, World.cell?_alloc_some, World.cell?_setCell_far]; done)))); (have l4 := l0.below hbb); (have l5 := l1.below hbb)))
        all_goals
          go_wp2_with fail
          go_meet
        all_goals
          case rel =>
            first
              | exact ⟨_, _, _, _, rfl, rfl, l4, l5, l2, l3, by (repeat first | exact bel0 | assumption | refine bel1 ?_ | refine bel2 ?_ | refine bel3 ?_ | refine belowT ?_ (by assumption) | refine bel5 ?_ (by simp; try omega))⟩
              | exact ⟨_, _, _, _, rfl, rfl, l2, l3, l4, l5, by (repeat first | exact bel0 | assumption | refine bel1 ?_ | refine bel2 ?_ | refine bel3 ?_ | refine belowT ?_ (by assumption) | refine bel5 ?_ (by simp; try omega))⟩
      case rest =>
        obtain ⟨G0, M0, G1, M1, rfl, rfl, l0, l1, l2, l3, bx⟩ := hcut
        rename_i wx
        replace xr := xr.below bx
        replace hok := hok.below bx (Nat.le_refl _)
        replace bw := belowT bw bx
        clear bx q0 q1 q2 q3 q4 mk1
        have r0 := xr.cell 0 _ rfl
        have r1 := xr.cell 1 _ rfl
        have r2 := xr.cell 2 _ rfl
        have r3 := xr.cell 3 _ rfl
        have r4 := xr.cell 4 _ rfl
        have r5 := xr.cell 5 _ rfl
        have r6 := xr.cell 6 _ rfl
        go_wp2_with fail
        refine (hcs.out 0 G0 M0 _ hok l0 l1 (by omega)).mono ?_
        rintro e w3 ⟨rfl, hb3⟩
        replace xr := xr.below hb3
        replace hok := hok.below hb3 (Nat.le_refl _)
        replace bw := belowT bw hb3
        replace l2 := l2.below hb3
        replace l3 := l3.below hb3
        clear hb3 r0 r1 r2 r3 r4 r5 r6
        have r0 := xr.cell 0 _ rfl
        have r1 := xr.cell 1 _ rfl
        have r2 := xr.cell 2 _ rfl
        have r3 := xr.cell 3 _ rfl
        have r4 := xr.cell 4 _ rfl
        have r5 := xr.cell 5 _ rfl
        have r6 := xr.cell 6 _ rfl
        cases b0 : rs == ls + 0
        · have B0 : Hid (¬ rs = ls) := hide (by simpa using b0)
          go_wp2_with fail
          refine (hcs.out 1 G1 M1 _ hok l2 l3 (by omega)).mono ?_
          rintro e w4 ⟨rfl, hb4⟩
          replace bw := belowT bw hb4
          clear hb4
          cases b1 : rs == ls + 1
          · have B1 : Hid (¬ rs = ls + 1) := hide (by simpa using b1)
            go_wp2
            go_ret
            exact ⟨ret_int (by rw [HE2.out, if_neg (by rintro (q | q); exact B0.out q; exact B1.out q)]), bw⟩
          · have B1 : Hid (rs = ls + 1) := hide (by simpa using b1)
            go_wp2
            go_ret
            exact ⟨ret_int (by rw [HE2.out, if_pos (.inr B1.out)]), bw⟩
        · have B0 : Hid (rs = ls) := hide (by simpa using b0)
          go_wp2
          go_ret
          exact ⟨ret_int (by rw [HE2.out, if_pos (.inl B0.out)]), bw⟩
    · go_wp2
      go_ret
      simp at h0 h9
      exact ⟨ret_int (by rw [HE.out, if_neg (by simp [h0]), if_pos (by simp [h9])]), bw⟩
  · go_wp2
    go_ret
    simp at h0
    exact ⟨ret_int (by rw [HE.out, if_pos (by simp [h0])]), bw⟩

end Go.Proofs.YtcmladgldjcdmaaDoor
