/- The contract of hall's whole copy; no condition but that the hall is a right one. -/
import Derived.Test.YtenmamcaldabdaaGreatDoorHallPartsG21
import Derived.Test.YtenmamcaldabdaaGreatDoorHallPartsG20
import Derived.Test.YtenmamcaldabdaaGreatDoorHallPartsG12
import Derived.Deep.RegionHeld3
namespace Go.Proofs.YtenmamcaldabdaaGreatDoor
open Go.RowKit
set_option linter.unusedVariables false
set_option maxRecDepth 100000
set_option linter.unusedSimpArgs false

/-- The answer's data lies from B on. -/
def LV.from (B : Nat) (y : LV) : Prop := ∀ R, R < B → y.off R
theorem LV.from.off {B R : Nat} {y : LV} (h : y.from B) (hR : R < B) : y.off R := h R hR
theorem LV.from.mono {B B' : Nat} {y : LV} (h : y.from B) (hb : B' ≤ B) : y.from B' := fun R hR => h R (by omega)
/-- Lasts of the call's own, in block g. -/
structure MineL (w : World) (g : Nat) (L : List LV) : Prop where
  lay : Lay w g (lcells L)
  ok : ∀ y ∈ L, y.ok w
  new : ∀ y ∈ L, y.from (g + 1)
theorem MineL.below {w w' : World} {g : Nat} {L : List LV} (h : MineL w g L) (hb : Below w.heap.size w w') : MineL w' g L := ⟨h.lay.below hb, fun y hy => (h.ok y hy).below hb (Nat.le_refl _), h.new⟩
theorem MineL.far {w : World} {g : Nat} {L : List LV} (h : MineL w g L) {w' : World} {R : Nat} (hb : ButI R w w') (hR : R < g) : MineL w' g L :=
  ⟨h.lay.butI hb (by omega), fun y hy => (h.ok y hy).but hb.but ((h.new y hy).off (by omega)), h.new⟩
theorem MineL.set {w : World} {g : Nat} {L : List LV} (h : MineL w g L) {i : Nat} (hi : i < L.length) {y : LV} (hy : y.ok w) (hn : y.from (g + 1)) :
    MineL ((((w.setCell ⟨g, i * 4, none⟩ (.int .i64 y.s)).setCell ⟨g, i * 4 + 1, none⟩ (.int .i64 y.x.e)).setCell ⟨g, i * 4 + 2, none⟩ (.int .i64 y.x.t)).setCell ⟨g, i * 4 + 3, none⟩ (.slice y.x.a y.x.n y.x.c)) g (L.set i y) := by
  have hb := ((((But.refl g w).step (i * 4) (.int .i64 y.s)).step (i * 4 + 1) (.int .i64 y.x.e)).step (i * 4 + 2) (.int .i64 y.x.t)).step (i * 4 + 3) (.slice y.x.a y.x.n y.x.c)
  refine ⟨by rw [← lcells_set L i y hi]; exact (((h.lay.set _ _).set _ _).set _ _).set _ _, fun z hz => ?_, fun z hz => ?_⟩
  · rcases List.mem_or_eq_of_mem_set hz with hz | rfl
    · exact (h.ok z hz).but hb ((h.new z hz).off (by omega))
    · exact hy.but hb (hn.off (by omega))
  · rcases List.mem_or_eq_of_mem_set hz with hz | rfl
    · exact h.new z hz
    · exact hn
theorem MineL.lasts {w : World} {g : Nat} {L : List LV} (h : MineL w g L) {n : Nat} (hn : L.length = n) (hm : n ≤ 9223372036854775807) : Lasts w (some ⟨g, 0, none⟩) n n L := Lasts.of_lay h.lay h.ok hn hm
theorem zero3_mine {w : World} {g : Nat} (h : Lay w g (lcells zero3)) : MineL w g zero3 := ⟨h, zero3_ok w, fun y hy => by rw [zero3_mem hy]; exact fun R _ => .inl rfl⟩
theorem take_setL {L L' : List LV} {k : Nat} {z u : LV} (hz : L[k]? = some z) (hk : k < L'.length) (h : (L'.take k).map LV.p = (L.take k).map LV.p) (hu : u.p = z.p) : ((L'.set k u).take (k + 1)).map LV.p = (L.take (k + 1)).map LV.p := by
  obtain ⟨g1, g2⟩ := List.getElem?_eq_some_iff.1 hz
  rw [List.take_succ_eq_append_getElem g1, List.take_succ_eq_append_getElem (by simpa using hk), List.map_append, List.map_append, List.take_set_of_le (Nat.le_refl k), h, g2]
  simp [hu]

/-- What a right hall holds. -/
theorem hall_right {h : HV} {w : World} (hk : h.ok w) (hc : checkH h.p = 0) : checkD h.d.p = 0 ∧ h.n = 3 ∧ (∀ y ∈ h.L, (0 ≤ y.s ∧ y.s ≤ 40) ∧ y.x.n ≤ 8) ∧ h.d.kn = 3 := by
  obtain ⟨h1, h2, h3⟩ := checkH_ok hc
  have h1' : checkD h.d.p = 0 := h1
  refine ⟨h1', ?_, fun y hy => ?_, ?_⟩
  · have := hk.l.len
    simp only [HV.p, List.length_map] at h2
    omega
  · obtain ⟨g1, _, g3, _⟩ := checkL_facts (h3 y.p (by simp only [HV.p]; exact List.mem_map.2 ⟨y, hy, rfl⟩))
    have e := (hk.l.ok y hy).len
    exact ⟨g1, by rw [← e]; exact g3⟩
  · have e := hk.d.k.len
    obtain ⟨x, y, z, hh⟩ := checkB_ok (checkD_ok h1').2
    have e2 := hh.1
    dsimp only [DV.p] at e2
    rw [e2] at e
    simpa using e.symm

set_option maxHeartbeats 8000000 in
theorem hwhole_c (h : HV) (w : World) (hk : h.ok w) (hc : checkH h.p = 0) :
    Calls Tryz.prog 25 #[h.v] w fun e w' => (∃ (d' : DV) (g : Nat) (L' : List LV), e = .returned (HV.v ⟨d', some ⟨g, 0, none⟩, 3, 3, L'⟩) ∧ d'.ok w' ∧ MineL w' g L' ∧ L'.length = 3 ∧ d'.new w.heap.size ∧ d'.off g ∧ w.heap.size ≤ g ∧ d'.p = h.d.p ∧ L'.map LV.p = h.L.map LV.p) ∧ Below w.heap.size w w' := by
  obtain ⟨hcd, hn3, hys, hkn⟩ := hall_right hk hc
  obtain ⟨⟨za, zn, zc, Z, ka, kn, kc, bk, bh, bt⟩, a, n, c, L⟩ := h
  obtain ⟨hd, hl⟩ := hk
  obtain ⟨hcz, hcb⟩ := checkD_ok hcd
  dsimp only [HV.v, HV.p, DV.p] at *
  subst hn3 hkn
  obtain ⟨h4, zb, off, rfl, hr⟩ := zs_four hd.z hcz
  subst h4
  obtain ⟨lb, lo, rfl, hllt, hlr⟩ := hl.row.resolve_left (by omega)
  have hll := hide hl.len
  have hzl : Hid (Z.length = 4) := hide hd.z.len
  have h8 : ∀ z ∈ Z, z.n ≤ 8 := fun z hz => by rw [← (hd.z.ok z hz).len]; exact checkZs_few hcz z hz
  clear hc hcd hcz hcb
  have hmk := mkz4
  have hml := mkl3
  have HM0 := hide (fun w' => Mine.fresh w')
  have HL0 : Hid (∀ w' : World, Lay (w'.alloc (.cells (lcells zero3).toArray 72)) w'.heap.size (lcells zero3)) := hide fun w' => Lay.made w' _ _
  generalize (zcells zero4).toArray = xs at *
  generalize (lcells zero3).toArray = ls at *
  have x1 := Lay.made1 w (.cells #[.slice (some ⟨zb, off, none⟩) 4 zc, .slice ka 3 kc, .int .i64 bh, .int .i64 bt, .slice (some ⟨lb, lo, none⟩) 3 c] 30) [.slice none 0 0, .slice none 0 0, .int .i64 0, .int .i64 0, .slice none 0 0] 30
  have x0 := (Lay.made w [.slice (some ⟨zb, off, none⟩) 4 zc, .slice ka 3 kc, .int .i64 bh, .int .i64 bt, .slice (some ⟨lb, lo, none⟩) 3 c] 30).below (belowA (Below.refl _ _) (.cells #[.slice none 0 0, .slice none 0 0, .int .i64 0, .int .i64 0, .slice none 0 0] 30))
  have bw : Below w.heap.size w ((w.alloc (.cells #[.slice (some ⟨zb, off, none⟩) 4 zc, .slice ka 3 kc, .int .i64 bh, .int .i64 bt, .slice (some ⟨lb, lo, none⟩) 3 c] 30)).alloc (.cells #[.slice none 0 0, .slice none 0 0, .int .i64 0, .int .i64 0, .slice none 0 0] 30)) := by (repeat (first | exact Below.refl _ _ | assumption | refine Below.drew ?_ | refine below_drewN ?_ _ | refine belowA ?_ _ | refine belowT ?_ (by assumption) | refine Below.setCell ?_ (by first | (simp; done) | (simp; omega)) _))
  go_enter Tryz.func25, Tryz.ntmps25
  go_wp2
  have x2 := Lay.made ((w.alloc (.cells #[.slice (some ⟨zb, off, none⟩) 4 zc, .slice ka 3 kc, .int .i64 bh, .int .i64 bt, .slice (some ⟨lb, lo, none⟩) 3 c] 30)).alloc (.cells #[.slice none 0 0, .slice none 0 0, .int .i64 0, .int .i64 0, .slice none 0 0] 30)) [.slice (some ⟨w.heap.size + 1 + 1 + 1, 0, none⟩) 4 4, .slice ka 3 kc, .int .i64 bh, .int .i64 bt, .slice (some ⟨lb, lo, none⟩) 3 c] 30
  have hb2 := belowA (Below.refl _ ((w.alloc (.cells #[.slice (some ⟨zb, off, none⟩) 4 zc, .slice ka 3 kc, .int .i64 bh, .int .i64 bt, .slice (some ⟨lb, lo, none⟩) 3 c] 30)).alloc (.cells #[.slice none 0 0, .slice none 0 0, .int .i64 0, .int .i64 0, .slice none 0 0] 30))) (.cells [.slice (some ⟨w.heap.size + 1 + 1 + 1, 0, none⟩) 4 4, .slice ka 3 kc, .int .i64 bh, .int .i64 bt, .slice (some ⟨lb, lo, none⟩) 3 c].toArray 30)
  replace x1 := x1.below hb2
  replace x0 := x0.below hb2
  replace bw := belowT bw hb2
  simp only [World.size_alloc] at x2
  generalize hw3 : ((w.alloc (.cells #[.slice (some ⟨zb, off, none⟩) 4 zc, .slice ka 3 kc, .int .i64 bh, .int .i64 bt, .slice (some ⟨lb, lo, none⟩) 3 c] 30)).alloc (.cells #[.slice none 0 0, .slice none 0 0, .int .i64 0, .int .i64 0, .slice none 0 0] 30)).alloc (.cells [.slice (some ⟨w.heap.size + 1 + 1 + 1, 0, none⟩) 4 4, .slice ka 3 kc, .int .i64 bh, .int .i64 bt, .slice (some ⟨lb, lo, none⟩) 3 c].toArray 30) = w3 at *
  have hs3 : w3.heap.size = w.heap.size + 1 + 1 + 1 := by rw [← hw3]; simp
  clear hw3 hb2
  have hm0 := HM0.out w3
  have hb3 := belowA (Below.refl _ w3) (.cells xs 76)
  rw [hs3] at hm0
  replace x0 := x0.below hb3
  replace x1 := x1.below hb3
  replace x2 := x2.below hb3
  replace bw := belowT bw hb3
  generalize hgg : w.heap.size + 1 + 1 + 1 = g at *
  have hm1 := hm0.mono (base' := w.heap.size) (by omega)
  generalize w3.alloc (.cells xs 76) = w4 at *
  clear hb3 hm0 hmk hs3 HM0
  go_loopw [20] (fun i wr => ∃ k Z', k ≤ 4 ∧ i = .int .i64 (k : Nat) ∧ Mine wr w.heap.size g 4 4 Z' ∧ (Z'.take k).map ZV.p = (Z.take k).map ZV.p ∧ NewL g Z' ∧ Lay wr w.heap.size [.slice (some ⟨zb, off, none⟩) 4 zc, .slice ka 3 kc, .int .i64 bh, .int .i64 bt, .slice (some ⟨lb, lo, none⟩) 3 c] ∧ Lay wr (w.heap.size + 1) [.slice none 0 0, .slice none 0 0, .int .i64 0, .int .i64 0, .slice none 0 0] ∧ Lay wr (w.heap.size + 1 + 1) [.slice (some ⟨g, 0, none⟩) 4 4, .slice ka 3 kc, .int .i64 bh, .int .i64 bt, .slice (some ⟨lb, lo, none⟩) 3 c] ∧ Below w.heap.size w wr) (fun i _ => 4 - (intOf i).toNat)
  case atStart => exact ⟨0, zero4, by omega, rfl, hm1, rfl, (by intro z hz x e; simp [zero4] at hz; subst hz; cases e), x0, x1, x2, bw⟩
  case round =>
    clear x0 x1 x2 bw hm1
    obtain ⟨k, Z', hk, rfl, hm, hp, hnl, x0, x1, x2, hbr⟩ := hrel
    have HP := hide hp
    have HN := hide hnl
    clear hp hnl
    rename_i wr
    by_cases hlt : k < 4
    · obtain ⟨z, hz⟩ : ∃ z, Z[k]? = some z := ⟨Z[k]'(by rw [hzl.out]; exact hlt), by simp⟩
      obtain ⟨y, hy⟩ : ∃ z, Z'[k]? = some z := ⟨Z'[k]'(by rw [hm.zs.len]; exact hlt), by simp⟩
      obtain ⟨c0, c1⟩ := hr k z hz
      obtain ⟨y0, y1⟩ := hm.cells k y hy
      have s0 := hm.soft (k * 2) (by omega)
      have s1 := hm.soft (k * 2 + 1) (by omega)
      have hgl := hm.lt
      have iz := (hd.z.ok z (List.mem_of_getElem? hz)).below hbr (Nat.le_refl _)
      have hz8 := h8 z (List.mem_of_getElem? hz)
      have n0 := past1 (x2.cell 0 _ rfl)
      replace c0 := keepc hbr c0
      replace c1 := keepc hbr c1
      have HZ := hide hz
      have hlt' : (k : Int) < 4 := by omega
      have y0' := past1 y0
      have y1' := past1 y1
      have s0' := pastf1 y0 s0
      have s1' := pastf1 y1 s1
      clear hz hy
      go_upto_region 6 with fail
      go_region_held3 (fun w' => w'.cell? ⟨w.heap.size + 1 + 1, 0, none⟩ = some (.slice (some ⟨g, 0, none⟩) 4 4) ∧ w'.cell? ⟨wr.heap.size, 0, none⟩ = some (.int .i64 z.s) ∧ w'.cell? ⟨wr.heap.size, 1, none⟩ = some (.slice z.a z.n z.c)) ((first | (go_simp; done) | (simp [*, World.cell?_alloc_at, World.cell?_alloc_past, World.cell?_alloc_some, World.cell?_setCell_far]; done))) (first | (go_at_call 54; refine (hlist_c z.a z.n z.c z.l _ (by refine Ints.below iz (B := wr.heap.size) ?_ (Nat.le_refl _); (repeat (first | exact Below.refl _ _ | assumption | refine Below.drew ?_ | refine below_drewN ?_ _ | refine belowA ?_ _ | refine belowT ?_ (by assumption) | refine Below.setCell ?_ (by first | (simp; done) | (simp; omega)) _))) (by omega)).mono ?_; rintro e w1 ⟨⟨q, rfl, i1, hq⟩, hb1⟩; (have v0 := keepc hb1 (p := ⟨w.heap.size + 1 + 1, 0, none⟩) (u := .slice (some ⟨g, 0, none⟩) 4 4) (by (first | (go_simp; done) | (simp [*, World.cell?_alloc_at, World.cell?_alloc_past, World.cell?_alloc_some, World.cell?_setCell_far]; done)))); (have v1 := keepc hb1 (p := ⟨wr.heap.size, 0, none⟩) (u := .int .i64 z.s) (by (first | (go_simp; done) | (simp [*, World.cell?_alloc_at, World.cell?_alloc_past, World.cell?_alloc_some, World.cell?_setCell_far]; done)))); (have v2 := keepc hb1 (p := ⟨wr.heap.size, 1, none⟩) (u := .slice z.a z.n z.c) (by (first | (go_simp; done) | (simp [*, World.cell?_alloc_at, World.cell?_alloc_past, World.cell?_alloc_some, World.cell?_setCell_far]; done)))); (have u0 := keepc hb1 (p := ⟨g, k * 2, none⟩) (u := .int .i64 y.s) (by (first | (go_simp; done) | (simp [*, World.cell?_alloc_at, World.cell?_alloc_past, World.cell?_alloc_some, World.cell?_setCell_far]; done)))); (have u1 := keepc hb1 (p := ⟨g, k * 2 + 1, none⟩) (u := .slice y.a y.n y.c) (by (first | (go_simp; done) | (simp [*, World.cell?_alloc_at, World.cell?_alloc_past, World.cell?_alloc_some, World.cell?_setCell_far]; done)))); (have u2 := keepf hb1 (p := ⟨g, k * 2, none⟩) (u := .int .i64 y.s) (by (first | (go_simp; done) | (simp [*, World.cell?_alloc_at, World.cell?_alloc_past, World.cell?_alloc_some, World.cell?_setCell_far]; done))) (b := false) (by go_simp)); (have u3 := keepf hb1 (p := ⟨g, k * 2 + 1, none⟩) (u := .slice y.a y.n y.c) (by (first | (go_simp; done) | (simp [*, World.cell?_alloc_at, World.cell?_alloc_past, World.cell?_alloc_some, World.cell?_setCell_far]; done))) (b := false) (by go_simp))))
      have br1 : Below wr.heap.size wr w1 := by (repeat (first | exact Below.refl _ _ | assumption | refine Below.drew ?_ | refine below_drewN ?_ _ | refine belowA ?_ _ | refine belowT ?_ (by assumption) | refine Below.setCell ?_ (by first | (simp; done) | (simp; omega)) _))
      have hs1 := hb1.size
      simp at hq hs1
      replace hm := hm.below br1
      replace x0 := x0.below br1
      replace x1 := x1.below br1
      replace x2 := x2.below br1
      have bw1 := belowT hbr br1
      have hbase := hm.base
      have hset := hm.set k hlt ⟨z.s, some ⟨q, 0, none⟩, z.n, z.n, z.l⟩ i1 (.inr fun x e => by cases e; simp; omega)
      have bset := (((But.refl g w1).step (k * 2) (.int .i64 z.s)).step (k * 2 + 1) (.slice (some ⟨q, 0, none⟩) z.n z.n)).low.mono hbase
      have f0 := (x0.far ⟨g, k * 2, none⟩ (.int .i64 z.s) (by simp; omega)).far ⟨g, k * 2 + 1, none⟩ (.slice (some ⟨q, 0, none⟩) z.n z.n) (by simp; omega)
      have f1 := (x1.far ⟨g, k * 2, none⟩ (.int .i64 z.s) (by simp; omega)).far ⟨g, k * 2 + 1, none⟩ (.slice (some ⟨q, 0, none⟩) z.n z.n) (by simp; omega)
      have f2 := (x2.far ⟨g, k * 2, none⟩ (.int .i64 z.s) (by simp; omega)).far ⟨g, k * 2 + 1, none⟩ (.slice (some ⟨q, 0, none⟩) z.n z.n) (by simp; omega)
      have hlen := hm.zs.len
      clear hb1 v0 v1 v2 n0 y0 y1 y0' y1' s0 s1 s0' s1' c0 c1
      go_wp2
      exact ⟨⟨k + 1, _, by omega, by go_num, hset, take_set_step HZ.out (by rw [hlen]; exact hlt) HP.out rfl, HN.out.set k (fun x e => by cases e; simp; omega), f0, f1, f2, bw1.trans bset⟩, by simp [intOf]; omega⟩
    · obtain rfl : k = 4 := by omega
      have hp := HP.out
      rw [List.take_of_length_le (by rw [hm.zs.len]; omega), List.take_of_length_le (by rw [hzl.out]; omega)] at hp
      have HQ := hide hp
      clear hp HP
      have k1 := x0.cell 1 _ rfl
      have n1 := x2.cell 1 _ rfl
      have m1 := x2.ice 1
      go_wp2_with fail
      refine (hlist_c ka 3 kc bk _ (hd.k.below hbr (Nat.le_refl _)) (by omega)).mono ?_
      rintro e w5 ⟨⟨q, rfl, i5, hq⟩, hb5⟩
      have hgl := hm.lt
      replace hm := hm.below hb5
      replace x0 := x0.below hb5
      replace x1 := x1.below hb5
      replace x2 := x2.below hb5
      have bw5 := belowT hbr hb5
      clear hb5 k1 n1 m1
      have hq5 : q < w5.heap.size := by
        rcases i5.row with h0 | ⟨b', o', e', hlt', _⟩
        · omega
        · cases e'; exact hlt'
      have hoff : ∀ R, R < g → (⟨some ⟨g, 0, none⟩, 4, 4, Z', some ⟨q, 0, none⟩, 3, 3, ⟨bk, bh, bt⟩⟩ : DV).off R := fun R hR =>
        ⟨.inr fun x e => by cases e; simp; omega, fun z hz => .inr fun x e => by have := HN.out z hz x e; omega, .inr fun x e => by cases e; simp; omega⟩
      have hok : (⟨some ⟨g, 0, none⟩, 4, 4, Z', some ⟨q, 0, none⟩, 3, 3, ⟨bk, bh, bt⟩⟩ : DV).ok w5 := ⟨hm.zs, i5⟩
      have n1 := x2.cell 1 _ rfl
      have m1 := x2.ice 1
      go_upto_region 9 with fail
      clear n1 m1
      have c1 := (ButI.refl (w.heap.size + 1 + 1) w5).step 1 (.slice (some ⟨q, 0, none⟩) 3 3)
      have hok1 := hok.but c1.but (hoff _ (by omega))
      replace x0 := x0.butI c1 (by omega)
      replace x1 := x1.butI c1 (by omega)
      replace x2 := x2.set 1 (.slice (some ⟨q, 0, none⟩) 3 3)
      have bw6 := bw5.trans (c1.below (B := w.heap.size) (by omega))
      have hg6 := c1.but.size
      clear hok hm i5 bw5 hbr c1
      generalize w5.setCell ⟨w.heap.size + 1 + 1, 1, none⟩ (.slice (some ⟨q, 0, none⟩) 3 3) = w6 at *
      have h4 := x0.cell 4 _ rfl
      have h4' := past1 h4
      have n4 := past1 (x2.cell 4 _ rfl)
      have m4 := pastf1 (x2.cell 4 _ rfl) (x2.ice 4)
      go_wp2
      have hL := HL0.out w6
      have hb7 := belowA (Below.refl _ w6) (.cells ls 72)
      replace x1 := x1.below hb7
      replace x2 := x2.below hb7
      have hoff2 := hok1.off (Nat.le_refl _)
      replace hok1 := hok1.below hb7 (Nat.le_refl _)
      have bw7 := belowT bw6 hb7
      have hg7 : g < w6.heap.size := by omega
      have hq7 : q < w6.heap.size := by omega
      generalize w6.heap.size = g2 at *
      generalize w6.alloc (.cells ls 72) = w7 at *
      clear h4 h4' n4 m4 hb7 bw6 x0 hml
      have c2 := (ButI.refl (w.heap.size + 1 + 1) w7).step 4 (.slice (some ⟨g2, 0, none⟩) 3 3)
      replace hok1 := hok1.but c2.but (hoff _ (by omega))
      replace x1 := x1.butI c2 (by omega)
      replace x2 := x2.set 4 (.slice (some ⟨g2, 0, none⟩) 3 3)
      replace hL := hL.butI c2 (by omega)
      have bw8 := bw7.trans (c2.below (B := w.heap.size) (by omega))
      have hM := zero3_mine hL
      generalize w7.setCell ⟨w.heap.size + 1 + 1, 4, none⟩ (.slice (some ⟨g2, 0, none⟩) 3 3) = w8 at *
      clear c2 hL bw7 HL0
      go_loopw [53] (fun i wr => ∃ k L', k ≤ 3 ∧ i = .int .i64 (k : Nat) ∧ MineL wr g2 L' ∧ L'.length = 3 ∧ (L'.take k).map LV.p = (L.take k).map LV.p ∧ Lay wr (w.heap.size + 1) [.slice none 0 0, .slice none 0 0, .int .i64 0, .int .i64 0, .slice none 0 0] ∧ Lay wr (w.heap.size + 1 + 1) [.slice (some ⟨g, 0, none⟩) 4 4, .slice (some ⟨q, 0, none⟩) 3 3, .int .i64 bh, .int .i64 bt, .slice (some ⟨g2, 0, none⟩) 3 3] ∧ DV.ok wr ⟨some ⟨g, 0, none⟩, 4, 4, Z', some ⟨q, 0, none⟩, 3, 3, ⟨bk, bh, bt⟩⟩ ∧ Below w.heap.size w wr) (fun i _ => 3 - (intOf i).toNat)
      case atStart => exact ⟨0, zero3, by omega, rfl, hM, rfl, rfl, x1, x2, hok1, bw8⟩
      case round =>
        clear x1 x2 bw8 hM hok1
        obtain ⟨k, L', hk, rfl, hm, hL3, hp, x1, x2, hok1, hbr⟩ := hrel
        have HP := hide hp
        have H3 := hide hL3
        clear hp hL3
        rename_i wr
        by_cases hlt : k < 3
        · obtain ⟨y, hy⟩ : ∃ z, L[k]? = some z := ⟨L[k]'(by rw [hll.out]; exact hlt), by simp⟩
          obtain ⟨u, hu⟩ : ∃ z, L'[k]? = some z := ⟨L'[k]'(by rw [H3.out]; exact hlt), by simp⟩
          have ky := hlr k y hy
          have iy := LV.ok.below (hl.ok y (List.mem_of_getElem? hy)) hbr (Nat.le_refl _)
          have hy8 := (hys y (List.mem_of_getElem? hy)).2
          have HY := hide hy
          have hW := fun (w' : World) (h' : y.x.ok w') => hwholeA_c y.x w' h' (by omega)
          obtain ⟨ys, ⟨ye, yt, ya, yn, yc, yl⟩⟩ := y
          have iy' : Ints wr ya yn yc yl := iy
          dsimp only [AV.v] at hW
          have HW := hide hW
          clear hW iy
          have c0 := keepc hbr (ky 0 _ rfl)
          have c1 := keepc hbr (ky 1 _ rfl)
          have c2 := keepc hbr (ky 2 _ rfl)
          have c3 := keepc hbr (ky 3 _ rfl)
          rw [Nat.add_zero] at c0
          have y0 := hm.lay.cell _ _ (lcells_get L' k u hu 0 _ rfl)
          have y1 := hm.lay.cell _ _ (lcells_get L' k u hu 1 _ rfl)
          have y2 := hm.lay.cell _ _ (lcells_get L' k u hu 2 _ rfl)
          have y3 := hm.lay.cell _ _ (lcells_get L' k u hu 3 _ rfl)
          rw [Nat.add_zero] at y0
          have s0 := hm.lay.ice (k * 4)
          have s1 := hm.lay.ice (k * 4 + 1)
          have s2 := hm.lay.ice (k * 4 + 2)
          have s3 := hm.lay.ice (k * 4 + 3)
          have hgl := hm.lay.lt
          have n0 := past1 (x2.cell 4 _ rfl)
          have hlt' : (k : Int) < 3 := by omega
          have y0' := past1 y0
          have y1' := past1 y1
          have y2' := past1 y2
          have y3' := past1 y3
          have s0' := pastf1 y0 s0
          have s1' := pastf1 y1 s1
          have s2' := pastf1 y2 s2
          have s3' := pastf1 y3 s3
          clear hy hu ky
          go_upto_region 13 with fail
          go_region_held3 (fun w' => w'.cell? ⟨w.heap.size + 1 + 1, 4, none⟩ = some (.slice (some ⟨g2, 0, none⟩) 3 3) ∧ w'.cell? ⟨wr.heap.size, 0, none⟩ = some (.int .i64 ys) ∧ w'.cell? ⟨wr.heap.size, 1, none⟩ = some (.int .i64 ye) ∧ w'.cell? ⟨wr.heap.size, 2, none⟩ = some (.int .i64 yt) ∧ w'.cell? ⟨wr.heap.size, 3, none⟩ = some (.slice ya yn yc)) ((first | (go_simp; done) | (simp [*, World.cell?_alloc_at, World.cell?_alloc_past, World.cell?_alloc_some, World.cell?_setCell_far]; done))) (first | (go_at_call 27; refine (HW.out _ (by refine Ints.below iy' (B := wr.heap.size) ?_ (Nat.le_refl _); (repeat (first | exact Below.refl _ _ | assumption | refine Below.drew ?_ | refine below_drewN ?_ _ | refine belowA ?_ _ | refine belowT ?_ (by assumption) | refine Below.setCell ?_ (by first | (simp; done) | (simp; omega)) _)))).mono ?_; rintro e w1 ⟨⟨q', rfl, i1, hq'⟩, hb1⟩; (have v0 := keepc hb1 (p := ⟨w.heap.size + 1 + 1, 4, none⟩) (u := .slice (some ⟨g2, 0, none⟩) 3 3) (by (first | (go_simp; done) | (simp [*, World.cell?_alloc_at, World.cell?_alloc_past, World.cell?_alloc_some, World.cell?_setCell_far]; done)))); (have v1 := keepc hb1 (p := ⟨wr.heap.size, 0, none⟩) (u := .int .i64 ys) (by (first | (go_simp; done) | (simp [*, World.cell?_alloc_at, World.cell?_alloc_past, World.cell?_alloc_some, World.cell?_setCell_far]; done)))); (have v2 := keepc hb1 (p := ⟨wr.heap.size, 1, none⟩) (u := .int .i64 ye) (by (first | (go_simp; done) | (simp [*, World.cell?_alloc_at, World.cell?_alloc_past, World.cell?_alloc_some, World.cell?_setCell_far]; done)))); (have v3 := keepc hb1 (p := ⟨wr.heap.size, 2, none⟩) (u := .int .i64 yt) (by (first | (go_simp; done) | (simp [*, World.cell?_alloc_at, World.cell?_alloc_past, World.cell?_alloc_some, World.cell?_setCell_far]; done)))); (have v4 := keepc hb1 (p := ⟨wr.heap.size, 3, none⟩) (u := .slice ya yn yc) (by (first | (go_simp; done) | (simp [*, World.cell?_alloc_at, World.cell?_alloc_past, World.cell?_alloc_some, World.cell?_setCell_far]; done)))); (have u0 := keepc hb1 (p := ⟨g2, k * 4, none⟩) (u := .int .i64 u.s) (by (first | (go_simp; done) | (simp [*, World.cell?_alloc_at, World.cell?_alloc_past, World.cell?_alloc_some, World.cell?_setCell_far]; done)))); (have u1 := keepc hb1 (p := ⟨g2, k * 4 + 1, none⟩) (u := .int .i64 u.x.e) (by (first | (go_simp; done) | (simp [*, World.cell?_alloc_at, World.cell?_alloc_past, World.cell?_alloc_some, World.cell?_setCell_far]; done)))); (have u2 := keepc hb1 (p := ⟨g2, k * 4 + 2, none⟩) (u := .int .i64 u.x.t) (by (first | (go_simp; done) | (simp [*, World.cell?_alloc_at, World.cell?_alloc_past, World.cell?_alloc_some, World.cell?_setCell_far]; done)))); (have u3 := keepc hb1 (p := ⟨g2, k * 4 + 3, none⟩) (u := .slice u.x.a u.x.n u.x.c) (by (first | (go_simp; done) | (simp [*, World.cell?_alloc_at, World.cell?_alloc_past, World.cell?_alloc_some, World.cell?_setCell_far]; done)))); (have u4 := keepf hb1 (p := ⟨g2, k * 4, none⟩) (u := .int .i64 u.s) (by (first | (go_simp; done) | (simp [*, World.cell?_alloc_at, World.cell?_alloc_past, World.cell?_alloc_some, World.cell?_setCell_far]; done))) (b := false) (by go_simp)); (have u5 := keepf hb1 (p := ⟨g2, k * 4 + 1, none⟩) (u := .int .i64 u.x.e) (by (first | (go_simp; done) | (simp [*, World.cell?_alloc_at, World.cell?_alloc_past, World.cell?_alloc_some, World.cell?_setCell_far]; done))) (b := false) (by go_simp)); (have u6 := keepf hb1 (p := ⟨g2, k * 4 + 2, none⟩) (u := .int .i64 u.x.t) (by (first | (go_simp; done) | (simp [*, World.cell?_alloc_at, World.cell?_alloc_past, World.cell?_alloc_some, World.cell?_setCell_far]; done))) (b := false) (by go_simp)); (have u7 := keepf hb1 (p := ⟨g2, k * 4 + 3, none⟩) (u := .slice u.x.a u.x.n u.x.c) (by (first | (go_simp; done) | (simp [*, World.cell?_alloc_at, World.cell?_alloc_past, World.cell?_alloc_some, World.cell?_setCell_far]; done))) (b := false) (by go_simp))))
          have br1 : Below wr.heap.size wr w1 := by (repeat (first | exact Below.refl _ _ | assumption | refine Below.drew ?_ | refine below_drewN ?_ _ | refine belowA ?_ _ | refine belowT ?_ (by assumption) | refine Below.setCell ?_ (by first | (simp; done) | (simp; omega)) _))
          have hs1 := hb1.size
          simp at hq' hs1
          replace hm := hm.below br1
          replace x1 := x1.below br1
          replace x2 := x2.below br1
          replace hok1 := hok1.below br1 (Nat.le_refl _)
          have bw1 := belowT hbr br1
          have hset := hm.set (i := k) (by rw [H3.out]; exact hlt) (y := ⟨ys, ⟨ye, yt, some ⟨q', 0, none⟩, yn, yn, yl⟩⟩) i1 (fun R hR => .inr fun x e => by cases e; simp; omega)
          have bset := ((((ButI.refl g2 w1).step (k * 4) (.int .i64 ys)).step (k * 4 + 1) (.int .i64 ye)).step (k * 4 + 2) (.int .i64 yt)).step (k * 4 + 3) (.slice (some ⟨q', 0, none⟩) yn yn)
          have f1 := x1.butI bset (by omega)
          have f2 := x2.butI bset (by omega)
          have fok := hok1.but bset.but hoff2
          clear hb1 v0 v1 v2 v3 v4 n0 y0 y1 y2 y3 y0' y1' y2' y3' s0 s1 s2 s3 s0' s1' s2' s3' c0 c1 c2 c3
          go_wp2
          exact ⟨⟨k + 1, _, by omega, by go_num, hset, by simp [H3.out], take_setL HY.out (by rw [H3.out]; exact hlt) HP.out rfl, f1, f2, fok, bw1.trans (bset.below (B := w.heap.size) (by omega))⟩, by simp [intOf]; omega⟩
        · obtain rfl : k = 3 := by omega
          have hp := HP.out
          rw [List.take_of_length_le (by rw [H3.out]; omega), List.take_of_length_le (by rw [hll.out]; omega)] at hp
          have HE := hide hp
          clear hp HP
          have e0 := x1.cell 0 _ rfl
          have e1 := x1.cell 1 _ rfl
          have e2 := x1.cell 2 _ rfl
          have e3 := x1.cell 3 _ rfl
          have e4 := x1.cell 4 _ rfl
          have f0 := x1.ice 0
          have f1 := x1.ice 1
          have f2 := x1.ice 2
          have f3 := x1.ice 3
          have f4 := x1.ice 4
          have a0 := x2.cell 0 _ rfl
          have a1 := x2.cell 1 _ rfl
          have a2 := x2.cell 2 _ rfl
          have a3 := x2.cell 3 _ rfl
          have a4 := x2.cell 4 _ rfl
          go_wp2
          have zB := ((((x1.set 0 (.slice (some ⟨g, 0, none⟩) 4 4)).set 1 (.slice (some ⟨q, 0, none⟩) 3 3)).set 2 (.int .i64 bh)).set 3 (.int .i64 bt)).set 4 (.slice (some ⟨g2, 0, none⟩) 3 3)
          have hbut := (((((ButI.refl (w.heap.size + 1) wr).step 0 (.slice (some ⟨g, 0, none⟩) 4 4)).step 1 (.slice (some ⟨q, 0, none⟩) 3 3)).step 2 (.int .i64 bh)).step 3 (.int .i64 bt)).step 4 (.slice (some ⟨g2, 0, none⟩) 3 3)
          generalize ((((wr.setCell ⟨w.heap.size + 1, 0, none⟩ (.slice (some ⟨g, 0, none⟩) 4 4)).setCell ⟨w.heap.size + 1, 1, none⟩ (.slice (some ⟨q, 0, none⟩) 3 3)).setCell ⟨w.heap.size + 1, 2, none⟩ (.int .i64 bh)).setCell ⟨w.heap.size + 1, 3, none⟩ (.int .i64 bt)).setCell ⟨w.heap.size + 1, 4, none⟩ (.slice (some ⟨g2, 0, none⟩) 3 3) = w9 at *
          have z0 := zB.cell 0 _ rfl
          have z1 := zB.cell 1 _ rfl
          have z2 := zB.cell 2 _ rfl
          have z3 := zB.cell 3 _ rfl
          have z4 := zB.cell 4 _ rfl
          exact bodyPost_ret (v := .agg #[.slice (some ⟨g, 0, none⟩) 4 4, .slice (some ⟨q, 0, none⟩) 3 3, .int .i64 bh, .int .i64 bt, .slice (some ⟨g2, 0, none⟩) 3 3]) (by simp [results, Tryz.results25, go_sem, z0, z1, z2, z3, z4]) rfl
            ⟨⟨⟨some ⟨g, 0, none⟩, 4, 4, Z', some ⟨q, 0, none⟩, 3, 3, ⟨bk, bh, bt⟩⟩, g2, L', rfl, hok1.but hbut.but (hoff _ (by omega)), hm.far hbut (by omega), H3.out, fun R hR => hoff R (by omega), hoff2, by omega, by simp [HQ.out], HE.out⟩, hbr.trans (hbut.below (B := w.heap.size) (by omega))⟩

end Go.Proofs.YtenmamcaldabdaaGreatDoor
