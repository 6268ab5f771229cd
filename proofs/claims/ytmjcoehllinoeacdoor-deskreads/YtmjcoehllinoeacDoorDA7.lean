/- The contract of desk's whole copy; no condition but that the desk is a right one. -/
import Derived.Test.YtmjcoehllinoeacDoorDA6
import Derived.Deep.RegionHeld3
namespace Go.Proofs.YtmjcoehllinoeacDoor
open Go.RowKit
set_option linter.unusedVariables false
set_option maxRecDepth 100000
set_option linter.unusedSimpArgs false

set_option maxHeartbeats 4000000 in
theorem dwhole_c (d : DV) (w : World) (h : d.ok w) (hd : checkD d.p = 0) :
    Calls Tryd.prog 27 #[d.v] w fun e w' => (∃ d' : DV, e = .returned d'.v ∧ d'.ok w' ∧ d'.new w.heap.size ∧ d'.p = d.p) ∧ Below w.heap.size w w' := by
  obtain ⟨za, zn, zc, Z, ka, kn, kc, bk, bh, bt⟩ := d
  obtain ⟨hcz, hcb⟩ := checkD_ok hd
  dsimp only [DV.v, DV.p] at *
  obtain ⟨h4, zb, off, rfl, hr⟩ := zs_four h.z hcz
  subst h4
  have hzl : Hid (Z.length = 4) := hide h.z.len
  have h8 : ∀ z ∈ Z, z.n ≤ 8 := fun z hz => by rw [← (h.z.ok z hz).len]; exact checkZs_few hcz z hz
  have hkn : kn = 3 := by
    have e := h.k.len
    obtain ⟨x, y, z, hh⟩ := checkB_ok hcb
    have e2 := hh.1
    dsimp only at e e2
    rw [e2] at e
    simpa using e.symm
  subst hkn
  have hmk := mkz4
  generalize hxs : (zcells zero4).toArray = xs at *
  have x1 := Lay.made1 w (.cells #[.slice (some ⟨zb, off, none⟩) 4 zc, .slice ka 3 kc, .int .i64 bh, .int .i64 bt] 37) [.slice none 0 0, .slice none 0 0, .int .i64 0, .int .i64 0] 37
  have x0 := (Lay.made w [.slice (some ⟨zb, off, none⟩) 4 zc, .slice ka 3 kc, .int .i64 bh, .int .i64 bt] 37).below (belowA (Below.refl _ _) (.cells #[.slice none 0 0, .slice none 0 0, .int .i64 0, .int .i64 0] 37))
  have bw : Below w.heap.size w ((w.alloc (.cells #[.slice (some ⟨zb, off, none⟩) 4 zc, .slice ka 3 kc, .int .i64 bh, .int .i64 bt] 37)).alloc (.cells #[.slice none 0 0, .slice none 0 0, .int .i64 0, .int .i64 0] 37)) := by (repeat (first | exact Below.refl _ _ | assumption | refine Below.drew ?_ | refine below_drewN ?_ _ | refine belowA ?_ _ | refine belowT ?_ (by assumption) | refine Below.setCell ?_ (by first | (simp; done) | (simp; omega)) _))
  go_enter Tryd.func27, Tryd.ntmps27
  go_wp2
  have x2 := Lay.made ((w.alloc (.cells #[.slice (some ⟨zb, off, none⟩) 4 zc, .slice ka 3 kc, .int .i64 bh, .int .i64 bt] 37)).alloc (.cells #[.slice none 0 0, .slice none 0 0, .int .i64 0, .int .i64 0] 37)) [.slice (some ⟨w.heap.size + 1 + 1 + 1, 0, none⟩) 4 4, .slice ka 3 kc, .int .i64 bh, .int .i64 bt] 37
  have hb2 := belowA (Below.refl _ ((w.alloc (.cells #[.slice (some ⟨zb, off, none⟩) 4 zc, .slice ka 3 kc, .int .i64 bh, .int .i64 bt] 37)).alloc (.cells #[.slice none 0 0, .slice none 0 0, .int .i64 0, .int .i64 0] 37))) (.cells [.slice (some ⟨w.heap.size + 1 + 1 + 1, 0, none⟩) 4 4, .slice ka 3 kc, .int .i64 bh, .int .i64 bt].toArray 37)
  replace x1 := x1.below hb2
  replace x0 := x0.below hb2
  replace bw := belowT bw hb2
  simp only [World.size_alloc] at x2
  generalize hw3 : ((w.alloc (.cells #[.slice (some ⟨zb, off, none⟩) 4 zc, .slice ka 3 kc, .int .i64 bh, .int .i64 bt] 37)).alloc (.cells #[.slice none 0 0, .slice none 0 0, .int .i64 0, .int .i64 0] 37)).alloc (.cells [.slice (some ⟨w.heap.size + 1 + 1 + 1, 0, none⟩) 4 4, .slice ka 3 kc, .int .i64 bh, .int .i64 bt].toArray 37) = w3 at *
  have hs3 : w3.heap.size = w.heap.size + 1 + 1 + 1 := by rw [← hw3]; simp
  clear hw3 hb2
  have hm0 := Mine.fresh w3
  have hb3 := belowA (Below.refl _ w3) (.cells (zcells zero4).toArray 78)
  rw [hxs] at hm0 hb3
  rw [hs3] at hm0
  replace x0 := x0.below hb3
  replace x1 := x1.below hb3
  replace x2 := x2.below hb3
  replace bw := belowT bw hb3
  generalize hgg : w.heap.size + 1 + 1 + 1 = g at *
  have hm1 := hm0.mono (base' := w.heap.size) (by omega)
  generalize w3.alloc (.cells xs 78) = w4 at *
  clear hb3 hm0 hxs hmk hs3
  go_loopw [15] (fun i wr => ∃ k Z', k ≤ 4 ∧ i = .int .i64 (k : Nat) ∧ Mine wr w.heap.size g 4 4 Z' ∧ (Z'.take k).map ZV.p = (Z.take k).map ZV.p ∧ NewL g Z' ∧ Lay wr w.heap.size [.slice (some ⟨zb, off, none⟩) 4 zc, .slice ka 3 kc, .int .i64 bh, .int .i64 bt] ∧ Lay wr (w.heap.size + 1) [.slice none 0 0, .slice none 0 0, .int .i64 0, .int .i64 0] ∧ Lay wr (w.heap.size + 1 + 1) [.slice (some ⟨g, 0, none⟩) 4 4, .slice ka 3 kc, .int .i64 bh, .int .i64 bt] ∧ Below w.heap.size w wr) (fun i _ => 4 - (intOf i).toNat)
  case atStart => exact ⟨0, zero4, by omega, rfl, hm1, rfl, (by intro z hz x e; simp [zero4] at hz; subst hz; cases e), x0, x1, x2, bw⟩
  case round =>
    clear x0 x1 x2 bw hm1
    obtain ⟨k, Z', hk, rfl, hm, hp, hnl, x0, x1, x2, hbr⟩ := hrel
    have HP := hide hp
    have HN := hide hnl
    clear hp hnl
    rename_i wr
    by_cases hlt : k < 4
    · obtain ⟨z, hz⟩ : ∃ z, Z[k]? = some z := ⟨Z[k]'(by rw [hzl.out]; exact hlt), by simp⟩
      obtain ⟨y, hy⟩ : ∃ z, Z'[k]? = some z := ⟨Z'[k]'(by rw [hm.zs.len]; exact hlt), by simp⟩
      obtain ⟨c0, c1⟩ := hr k z hz
      obtain ⟨y0, y1⟩ := hm.cells k y hy
      have s0 := hm.soft (k * 2) (by omega)
      have s1 := hm.soft (k * 2 + 1) (by omega)
      have hgl := hm.lt
      have iz := (h.z.ok z (List.mem_of_getElem? hz)).below hbr (Nat.le_refl _)
      have hz8 := h8 z (List.mem_of_getElem? hz)
      have n0 := past1 (x2.cell 0 _ rfl)
      replace c0 := keepc hbr c0
      replace c1 := keepc hbr c1
      have HZ := hide hz
      have hlt' : (k : Int) < 4 := by omega
      have y0' := past1 y0
      have y1' := past1 y1
      have s0' := pastf1 y0 s0
      have s1' := pastf1 y1 s1
      clear hz hy
      go_upto_region 6 with fail
      go_region_held3 (fun w' => w'.cell? ⟨w.heap.size + 1 + 1, 0, none⟩ = some (.slice (some ⟨g, 0, none⟩) 4 4) ∧ w'.cell? ⟨wr.heap.size, 0, none⟩ = some (.int .i64 z.s) ∧ w'.cell? ⟨wr.heap.size, 1, none⟩ = some (.slice z.a z.n z.c)) ((first | (go_simp; done) | (simp [*, World.cell?_alloc_at, World.cell?_alloc_past, World.cell?_alloc_some, World.cell?_setCell_far]; done))) (first | (go_at_call 45; refine (dlist_c z.a z.n z.c z.l _ (by refine Ints.below iz (B := wr.heap.size) ?_ (Nat.le_refl _); (repeat (first | exact Below.refl _ _ | assumption | refine Below.drew ?_ | refine below_drewN ?_ _ | refine belowA ?_ _ | refine belowT ?_ (by assumption) | refine Below.setCell ?_ (by first | (simp; done) | (simp; omega)) _))) (by omega)).mono ?_; rintro e w1 ⟨⟨q, rfl, i1, hq⟩, hb1⟩; (have v0 := keepc hb1 (p := ⟨w.heap.size + 1 + 1, 0, none⟩) (u := .slice (some ⟨g, 0, none⟩) 4 4) (by (first | (go_simp; done) | (simp [*, World.cell?_alloc_at, World.cell?_alloc_past, World.cell?_alloc_some, World.cell?_setCell_far]; done)))); (have v1 := keepc hb1 (p := ⟨wr.heap.size, 0, none⟩) (u := .int .i64 z.s) (by (first | (go_simp; done) | (simp [*, World.cell?_alloc_at, World.cell?_alloc_past, World.cell?_alloc_some, World.cell?_setCell_far]; done)))); (have v2 := keepc hb1 (p := ⟨wr.heap.size, 1, none⟩) (u := .slice z.a z.n z.c) (by (first | (go_simp; done) | (simp [*, World.cell?_alloc_at, World.cell?_alloc_past, World.cell?_alloc_some, World.cell?_setCell_far]; done)))); (have u0 := keepc hb1 (p := ⟨g, k * 2, none⟩) (u := .int .i64 y.s) (by (first | (go_simp; done) | (simp [*, World.cell?_alloc_at, World.cell?_alloc_past, World.cell?_alloc_some, World.cell?_setCell_far]; done)))); (have u1 := keepc hb1 (p := ⟨g, k * 2 + 1, none⟩) (u := .slice y.a y.n y.c) (by (first | (go_simp; done) | (simp [*, World.cell?_alloc_at, World.cell?_alloc_past, World.cell?_alloc_some, World.cell?_setCell_far]; done)))); (have u2 := keepf hb1 (p := ⟨g, k * 2, none⟩) (u := .int .i64 y.s) (by (first | (go_simp; done) | (simp [*, World.cell?_alloc_at, World.cell?_alloc_past, World.cell?_alloc_some, World.cell?_setCell_far]; done))) (b := false) (by go_simp)); (have u3 := keepf hb1 (p := ⟨g, k * 2 + 1, none⟩) (u := .slice y.a y.n y.c) (by (first | (go_simp; done) | (simp [*, World.cell?_alloc_at, World.cell?_alloc_past, World.cell?_alloc_some, World.cell?_setCell_far]; done))) (b := false) (by go_simp))))
      have br1 : Below wr.heap.size wr w1 := by (repeat (first | exact Below.refl _ _ | assumption | refine Below.drew ?_ | refine below_drewN ?_ _ | refine belowA ?_ _ | refine belowT ?_ (by assumption) | refine Below.setCell ?_ (by first | (simp; done) | (simp; omega)) _))
      have hs1 := hb1.size
      simp at hq hs1
      replace hm := hm.below br1
      replace x0 := x0.below br1
      replace x1 := x1.below br1
      replace x2 := x2.below br1
      have bw1 := belowT hbr br1
      have hbase := hm.base
      have hset := hm.set k hlt ⟨z.s, some ⟨q, 0, none⟩, z.n, z.n, z.l⟩ i1 (.inr fun x e => by cases e; simp; omega)
      have bset := (((But.refl g w1).step (k * 2) (.int .i64 z.s)).step (k * 2 + 1) (.slice (some ⟨q, 0, none⟩) z.n z.n)).low.mono hbase
      have f0 := (x0.far ⟨g, k * 2, none⟩ (.int .i64 z.s) (by simp; omega)).far ⟨g, k * 2 + 1, none⟩ (.slice (some ⟨q, 0, none⟩) z.n z.n) (by simp; omega)
      have f1 := (x1.far ⟨g, k * 2, none⟩ (.int .i64 z.s) (by simp; omega)).far ⟨g, k * 2 + 1, none⟩ (.slice (some ⟨q, 0, none⟩) z.n z.n) (by simp; omega)
      have f2 := (x2.far ⟨g, k * 2, none⟩ (.int .i64 z.s) (by simp; omega)).far ⟨g, k * 2 + 1, none⟩ (.slice (some ⟨q, 0, none⟩) z.n z.n) (by simp; omega)
      have hlen := hm.zs.len
      clear hb1 v0 v1 v2 n0 y0 y1 y0' y1' s0 s1 s0' s1' c0 c1
      go_wp2
      exact ⟨⟨k + 1, _, by omega, by go_num, hset, take_set_step HZ.out (by rw [hlen]; exact hlt) HP.out rfl, HN.out.set k (fun x e => by cases e; simp; omega), f0, f1, f2, bw1.trans bset⟩, by simp [intOf]; omega⟩
    · obtain rfl : k = 4 := by omega
      have hp := HP.out
      rw [List.take_of_length_le (by rw [hm.zs.len]; omega), List.take_of_length_le (by rw [hzl.out]; omega)] at hp
      have HQ := hide hp
      clear hp HP
      have k1 := x0.cell 1 _ rfl
      have n1 := x2.cell 1 _ rfl
      have m1 := x2.ice 1
      go_wp2_with fail
      refine (dlist_c ka 3 kc bk _ (h.k.below hbr (Nat.le_refl _)) (by omega)).mono ?_
      rintro e w5 ⟨⟨q, rfl, i5, hq⟩, hb5⟩
      have hgl := hm.lt
      replace hm := hm.below hb5
      replace x1 := x1.below hb5
      replace x2 := x2.below hb5
      have bw5 := belowT hbr hb5
      clear hb5 k1 n1 m1 x0
      have e0 := x1.cell 0 _ rfl
      have e1 := x1.cell 1 _ rfl
      have e2 := x1.cell 2 _ rfl
      have e3 := x1.cell 3 _ rfl
      have f0 := x1.ice 0
      have f1 := x1.ice 1
      have f2 := x1.ice 2
      have f3 := x1.ice 3
      have a0 := x2.cell 0 _ rfl
      have a1 := x2.cell 1 _ rfl
      have a2 := x2.cell 2 _ rfl
      have a3 := x2.cell 3 _ rfl
      have b1 := x2.ice 1
      go_wp2
      have hoff : ∀ R, R < g → (⟨some ⟨g, 0, none⟩, 4, 4, Z', some ⟨q, 0, none⟩, 3, 3, ⟨bk, bh, bt⟩⟩ : DV).off R := fun R hR =>
        ⟨.inr fun x e => by cases e; simp; omega, fun z hz => .inr fun x e => by have := HN.out z hz x e; omega, .inr fun x e => by cases e; simp; omega⟩
      have hok : (⟨some ⟨g, 0, none⟩, 4, 4, Z', some ⟨q, 0, none⟩, 3, 3, ⟨bk, bh, bt⟩⟩ : DV).ok w5 := ⟨hm.zs, i5⟩
      have c1 := (But.refl (w.heap.size + 1 + 1) w5).step 1 (.slice (some ⟨q, 0, none⟩) 3 3)
      have hok1 := hok.but c1 (hoff _ (by omega))
      have x1' := x1.far ⟨w.heap.size + 1 + 1, 1, none⟩ (.slice (some ⟨q, 0, none⟩) 3 3) (by simp)
      have bw6 := bw5.trans (c1.low.mono (show w.heap.size ≤ w.heap.size + 1 + 1 by omega))
      generalize w5.setCell ⟨w.heap.size + 1 + 1, 1, none⟩ (.slice (some ⟨q, 0, none⟩) 3 3) = w6 at *
      have zB := (((x1'.set 0 (.slice (some ⟨g, 0, none⟩) 4 4)).set 1 (.slice (some ⟨q, 0, none⟩) 3 3)).set 2 (.int .i64 bh)).set 3 (.int .i64 bt)
      have hbut := ((((But.refl (w.heap.size + 1) w6).step 0 (.slice (some ⟨g, 0, none⟩) 4 4)).step 1 (.slice (some ⟨q, 0, none⟩) 3 3)).step 2 (.int .i64 bh)).step 3 (.int .i64 bt)
      have hok9 := hok1.but hbut (hoff _ (by omega))
      have bw9 := bw6.trans (hbut.low.mono (show w.heap.size ≤ w.heap.size + 1 by omega))
      generalize (((w6.setCell ⟨w.heap.size + 1, 0, none⟩ (.slice (some ⟨g, 0, none⟩) 4 4)).setCell ⟨w.heap.size + 1, 1, none⟩ (.slice (some ⟨q, 0, none⟩) 3 3)).setCell ⟨w.heap.size + 1, 2, none⟩ (.int .i64 bh)).setCell ⟨w.heap.size + 1, 3, none⟩ (.int .i64 bt) = w9 at *
      have z0 := zB.cell 0 _ rfl
      have z1 := zB.cell 1 _ rfl
      have z2 := zB.cell 2 _ rfl
      have z3 := zB.cell 3 _ rfl
      exact bodyPost_ret (v := .agg #[.slice (some ⟨g, 0, none⟩) 4 4, .slice (some ⟨q, 0, none⟩) 3 3, .int .i64 bh, .int .i64 bt]) (by simp [results, Tryd.results27, go_sem, z0, z1, z2, z3]) rfl
        ⟨⟨⟨some ⟨g, 0, none⟩, 4, 4, Z', some ⟨q, 0, none⟩, 3, 3, ⟨bk, bh, bt⟩⟩, rfl, hok9, fun R hR => hoff R (by omega), by simp [HQ.out]⟩, bw9⟩

end Go.Proofs.YtmjcoehllinoeacDoor
