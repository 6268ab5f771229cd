/- The contract of plain.CopyZones; no condition but that the zones read as data, and are no greater than a machine bears. -/
import Derived.Test.YtcmladgldjcdmaaDoorHU9
import Derived.Test.YtcmladgldjcdmaaDoorHU8
import Derived.Test.YtcmladgldjcdmaaDoorHU7
import Derived.Deep.RegionHeld3
import Derived.Test.YtcmladgldjcdmaaDoorHU1
import Derived.Test.YtcmladgldjcdmaaDoorHU3
namespace Go.Proofs.YtcmladgldjcdmaaDoor
open Go.RowKit
set_option linter.unusedVariables false
set_option maxRecDepth 100000
set_option linter.unusedSimpArgs false

abbrev ZV.v (z : ZV) : Value := .agg #[.int .i64 z.s, .slice z.a z.n z.c]
def zoneK : Kin ZV where
  k := 2
  cs z := [.int .i64 z.s, .slice z.a z.n z.c]
  ok w z := z.ok w
  off R z := z.off R
  len _ := rfl
  one x := fun v hv => List.all_eq_true.1 (show ([.int .i64 x.s, .slice x.a x.n x.c] : List Value).all (fun v => v.oneCell') = true from rfl) v hv
  below h _ hb hB := Ints.below h hb hB
  but h hb ho := Ints.but h hb ho
  far h hR := Ints.offs h hR
def zoneN : NewK zoneK where
  new B z := ∀ x, z.a = some x → B ≤ x.block
  off h hR := .inr fun x e => by have := h x e; omega
  mono h hb := fun x e => Nat.le_trans hb (h x e)
  zero := ⟨0, none, 0, 0, []⟩
  zero_new _ := fun x e => by cases e
  zero_ok w := Ints.nilSlice w
theorem ZV.lay {w : World} {b o : Nat} {z : ZV} (h : ∀ j v, (zoneK.cs z)[j]? = some v → w.cell? ⟨b, o + j, none⟩ = some v) : w.cell? ⟨b, o, none⟩ = some (.int .i64 z.s) ∧ w.cell? ⟨b, o + 1, none⟩ = some (.slice z.a z.n z.c) :=
  ⟨h 0 _ rfl, h 1 _ rfl⟩
theorem Zones.rows' {w : World} {a : Option Addr} {n c : Nat} {Z : List ZV} (h : Zones w a n c Z) : Rows' zoneK w a n c Z := by
  refine ⟨h.len, h.le, h.max, h.nil, ?_, h.ok⟩
  rcases h.row with h0 | ⟨b, off, ha, hlt, hc⟩
  · exact .inl h0
  · refine .inr ⟨b, off, ha, hlt, fun i x hx j v hv => ?_⟩
    obtain ⟨h1, h2⟩ := hc i x hx
    match j, hv with
    | 0, hv => cases hv; exact h1
    | 1, hv => cases hv; exact h2
theorem MineR.mine {t : TypeId} {w : World} {g n : Nat} {Z : List ZV} (h : MineR zoneK t w g Z) (hn : Z.length = n) (hm : n ≤ 9223372036854775807) (ho : ∀ z ∈ Z, zoneN.new (g + 1) z) : Mine w g g n n Z := by
  have hc : ∀ i z, Z[i]? = some z → w.cell? ⟨g, i * 2, none⟩ = some (.int .i64 z.s) ∧ w.cell? ⟨g, i * 2 + 1, none⟩ = some (.slice z.a z.n z.c) := fun i z hz =>
    ⟨h.lay.cell _ _ (Kin.cells_get Z i z hz 0 _ rfl), h.lay.cell _ _ (Kin.cells_get Z i z hz 1 _ rfl)⟩
  exact ⟨⟨hn, Nat.le_refl _, hm, fun e => (by cases e), .inr ⟨g, 0, rfl, h.lay.lt, fun i z hz => by simpa using hc i z hz⟩, h.ok⟩, Nat.le_refl _, h.lay.lt, hc, fun j _ => h.lay.ice j, fun z hz => zoneN.off (ho z hz) (by omega)⟩

set_option maxHeartbeats 1000000 in
theorem pzone_c (z : ZV) (w : World) (h : z.ok w) (hn : z.n ≤ 100000) : Calls Tryd.prog 59 #[z.v] w (Copy1 zoneK ZV.v ZV.p zoneN z w) := by
  obtain ⟨s, a, n, c, l⟩ := z
  have hI : Ints w a n c l := h
  dsimp only [ZV.v] at *
  have xR := Lay.made1 w (.cells #[.int .i64 s, .slice a n c] 61) [.int .i64 0, .slice none 0 0] 61
  go_enter Tryd.func59, Tryd.ntmps59
  go_upto_region 1 with fail
  go_region_held3 (fun w' => w'.cell? ⟨w.heap.size, 0, none⟩ = some (.int .i64 s) ∧ w'.cell? ⟨w.heap.size, 1, none⟩ = some (.slice a n c)) ((first | (go_simp; done) | (simp [*, World.cell?_alloc_at, World.cell?_alloc_past, World.cell?_alloc_some, World.cell?_setCell_far]; done))) (first | (go_at_call 31; refine (plist_c a n c l _ (by refine Ints.below hI (B := w.heap.size) ?_ (Nat.le_refl _); (repeat first | exact bel0 | assumption | refine bel1 ?_ | refine bel2 ?_ | refine bel3 ?_ | refine belowT ?_ (by assumption) | refine bel5 ?_ (by simp; try omega))) hn).mono ?_; rintro e w1 ⟨⟨q, rfl, i1, hq, hq2⟩, hb1⟩; (have g0 := keepc hb1 (p := ⟨w.heap.size, 0, none⟩) (u := .int .i64 s) (by (first | (go_simp; done) | (simp [*, World.cell?_alloc_at, World.cell?_alloc_past, World.cell?_alloc_some, World.cell?_setCell_far]; done)))); (have g1 := keepc hb1 (p := ⟨w.heap.size, 1, none⟩) (u := .slice a n c) (by (first | (go_simp; done) | (simp [*, World.cell?_alloc_at, World.cell?_alloc_past, World.cell?_alloc_some, World.cell?_setCell_far]; done)))); (have xR1 := xR.below (w' := w1) (by (repeat first | exact bel0 | assumption | refine bel1 ?_ | refine bel2 ?_ | refine bel3 ?_ | refine belowT ?_ (by assumption) | refine bel5 ?_ (by simp; try omega)))); (have e0 := xR1.cell 0 _ rfl); (have e1 := xR1.cell 1 _ rfl); (have f0 := xR1.ice 0); (have f1 := xR1.ice 1)))
  have bw : Below w.heap.size w w1 := by (repeat first | exact bel0 | assumption | refine bel1 ?_ | refine bel2 ?_ | refine bel3 ?_ | refine belowT ?_ (by assumption) | refine bel5 ?_ (by simp; try omega))
  simp at hq
  clear hb1 g0 g1 xR
  go_wp2
  have zB := (xR1.set 0 (.int .i64 s)).set 1 (.slice (some ⟨q, 0, none⟩) n n)
  have hbut := ((ButI.refl (w.heap.size + 1) w1).step 0 (.int .i64 s)).step 1 (.slice (some ⟨q, 0, none⟩) n n)
  generalize (w1.setCell ⟨w.heap.size + 1, 0, none⟩ (.int .i64 s)).setCell ⟨w.heap.size + 1, 1, none⟩ (.slice (some ⟨q, 0, none⟩) n n) = w9 at *
  have z0 := zB.cell 0 _ rfl
  have z1 := zB.cell 1 _ rfl
  exact bodyPost_ret (v := .agg #[.int .i64 s, .slice (some ⟨q, 0, none⟩) n n]) (by simp [results, Tryd.results59, go_sem, z0, z1]) rfl
    ⟨⟨⟨s, some ⟨q, 0, none⟩, n, n, l⟩, rfl, i1.but hbut.but (.inr fun x e => by cases e; simp; omega), fun x e => by cases e; simp; omega, rfl⟩, bw.trans (hbut.below (B := w.heap.size) (by omega))⟩

theorem pzones_info : ∃ i, Tryd.prog.info? 61 = some i ∧ i.zero = some (.agg #[.int .i64 0, .slice none 0 0]) ∧ i.size = 2 ∧ i.bytes ≤ 1000 := by
  have h : (Tryd.prog.info? 61).map (fun i => (i.zero, i.size, Nat.ble i.bytes 1000)) = some (some (.agg #[.int .i64 0, .slice none 0 0]), 2, true) := by kernel_rfl
  obtain ⟨i, hi, h⟩ := Option.map_eq_some_iff.1 h
  simp only [Prod.mk.injEq] at h
  exact ⟨i, hi, h.1, h.2.1, Nat.le_of_ble_eq_true h.2.2⟩
theorem pzones_mk (n : Nat) (hn : n ≤ 1000000) (w : World) : (Instr.makeSlice 22 (.int .i64 (n : Int)) (.int .i64 (n : Int))).run Tryd.prog w = .ok (.slice (some ⟨w.heap.size, 0, none⟩) n n) (w.alloc (.cells (zoneK.cells (List.replicate n zoneN.zero)).toArray 61)) := by
  obtain ⟨i, hi, hz, hs, hb⟩ := pzones_info
  exact mkR zoneK (P := Tryd.prog) zoneN.zero Tryd.underlying22 hi hz rfl rfl hs hb (by decide) n hn w
set_option maxRecDepth 100000 in
set_option maxHeartbeats 4000000 in
theorem pzones_c (a : Option Addr) (n c : Nat) (X : List ZV) (w : World) (h : Rows' zoneK w a n c X) (hn : n ≤ 1000000) (hF : ∀ x ∈ X, ∀ w' : World, zoneK.ok w' x → Calls Tryd.prog 59 #[x.v] w' (Copy1 zoneK ZV.v ZV.p zoneN x w')) :
    Calls Tryd.prog 58 #[.slice a n c, .func (Fn.func 59) #[] #[]] w (Copied zoneK 61 ZV.p zoneN w n X) := by
  have hmk := pzones_mk n hn
  have HM := hide (fun w' => MineR.made zoneK 61 zoneN.zero zoneN.zero_ok n w')
  generalize (zoneK.cells (List.replicate n zoneN.zero)).toArray = xs at *
  have hlen := hide h.len
  have hmax := h.max
  have hle := h.le
  have HF := hide hF
  clear hF
  go_enter Tryd.func58, Tryd.ntmps58
  go_wp2
  go_loopw [13] (fun i wr => ∃ wz : World, wz = wr ∧ ∃ (j : Nat) (Y : List ZV), j ≤ n ∧ i = .int .i64 (j : Nat) ∧ MineR zoneK 61 wz w.heap.size Y ∧ Y.length = n ∧ (Y.take j).map ZV.p = (X.take j).map ZV.p ∧ (∀ y ∈ Y, zoneN.new (w.heap.size + 1) y) ∧ Below w.heap.size w wz) (fun i _ => n - (intOf i).toNat)
  case atStart => exact ⟨_, rfl, 0, _, by omega, rfl, HM.out w, by simp, by simp, fun y hy => by rw [List.eq_of_mem_replicate hy]; exact zoneN.zero_new _, by (repeat first | exact bel0 | assumption | refine bel1 ?_ | refine bel2 ?_ | refine bel3 ?_ | refine belowT ?_ (by assumption) | refine bel5 ?_ (by simp; try omega))⟩
  case round =>
    obtain ⟨wr, rfl, j, Y, hj, rfl, hm, hl, hp, hnw, hbr⟩ := hrel
    have HP := hide hp
    have HL := hide hl
    have HN := hide hnw
    clear hp hl hnw hmk
    by_cases hlt : j < n
    · obtain ⟨b, off, x, rfl, hx, hxk, hb, kx⟩ := h.at hlt
      have HX := hide hx
      have HW := hide (HF.out x (List.mem_of_getElem? hx))
      have hxr := zoneK.below hxk hbr (Nat.le_refl _)
      have LX := ZV.lay (b := b) (o := off + j * 2) (fun i v h => keepc hbr (kx i v h))
      have hlt' : (j : Int) < (n : Int) := by omega
      have HG := hide hm.lay.lt
      clear hx kx hxk
      dsimp only [ZV.v] at HW
      obtain ⟨c0, c1⟩ := LX
      go_wp2_with fail
      refine (HW.out _ (zoneK.below hxr (B := wr.heap.size) (by (repeat first | exact bel0 | assumption | refine bel1 ?_ | refine bel2 ?_ | refine bel3 ?_ | refine belowT ?_ (by assumption) | refine bel5 ?_ (by simp; try omega))) (Nat.le_refl _))).mono ?_
      rintro e w2 ⟨⟨y, rfl, hyk, hyn, hyp⟩, hb2⟩
      have b2 : Below wr.heap.size wr w2 := by (repeat first | exact bel0 | assumption | refine bel1 ?_ | refine bel2 ?_ | refine bel3 ?_ | refine belowT ?_ (by assumption) | refine bel5 ?_ (by simp; try omega))
      replace hm := hm.below b2
      have hgl := hm.lay.lt
      have hgs := HG.out
      have bw2 := belowT hbr b2
      have hjY : j < Y.length := by rw [HL.out]; exact hlt
      simp only [World.size_alloc] at hyn
      clear hb2 b2 HW hxr c0 c1
      obtain ⟨u0, y0⟩ : ∃ u, w2.cell? ⟨w.heap.size, j * 2, none⟩ = some u := hm.at (j := 0) hjY (by decide)
      have s0 := hm.lay.ice (j * 2)
      obtain ⟨u1, y1⟩ : ∃ u, w2.cell? ⟨w.heap.size, j * 2 + 1, none⟩ = some u := hm.at (j := 1) hjY (by decide)
      have s1 := hm.lay.ice (j * 2 + 1)
      dsimp only [ZV.v]
      go_wp2
      have hoff : ∀ z ∈ Y, zoneK.off w.heap.size z := fun z hz => zoneN.off (HN.out z hz) (by omega)
      have hput := hm.put hjY hyk hoff (zoneN.off hyn (by omega))
      have bput := (putAll_but w.heap.size (zoneK.cs y) w2 (j * zoneK.k)).below (B := w.heap.size) (Nat.le_refl _)
      exact ⟨⟨_, rfl, j + 1, _, by omega, by go_num, hput, by rw [List.length_set]; exact HL.out, take_setK HX.out hjY HP.out hyp, fun z hz => by
        rcases List.mem_or_eq_of_mem_set hz with hz | rfl
        · exact HN.out z hz
        · exact zoneN.mono hyn (by omega), bw2.trans bput⟩, by simp [intOf]; omega⟩
    · obtain rfl : j = n := by omega
      go_wp2
      go_ret
      have hp := HP.out
      rw [List.take_of_length_le (by rw [HL.out]; omega), List.take_of_length_le (by rw [hlen.out]; omega)] at hp
      exact ⟨⟨_, _, rfl, hm, HL.out, hp, Nat.le_refl _, HN.out⟩, hbr⟩


theorem pcopyZones_c (a : Option Addr) (n c : Nat) (Z : List ZV) (w : World) (h : Zones w a n c Z) (hn : n ≤ 1000000) (h8 : ∀ z ∈ Z, z.n ≤ 100000) :
    Calls Tryd.prog 40 #[.slice a n c] w (Copied zoneK 61 ZV.p zoneN w n Z) := by
  go_enter Tryd.func40, Tryd.ntmps40
  go_wp2_with fail
  refine (pzones_c a n c Z _ h.rows' hn (fun x hx w' h' => pzone_c x w' h' (h8 x hx))).mono ?_
  rintro e w1 ⟨⟨g, Y, rfl, hm, hl, hp, hg, hn⟩, hb⟩
  go_wp2
  go_ret
  exact ⟨⟨g, Y, rfl, hm, hl, hp, hg, hn⟩, hb⟩

end Go.Proofs.YtcmladgldjcdmaaDoor

/- The contracts of slices.Contains at ints, of yard's questions and of its counts; no condition but that the slices read as lists and zones. -/
namespace Go.Proofs.YtcmladgldjcdmaaDoor
open Go.RowKit
set_option linter.unusedVariables false
set_option maxRecDepth 100000
set_option linter.unusedSimpArgs false

/-- Is s one of these? -/
def hasB (L : List Int) (s : Int) : Bool := L.any fun y => s == y
theorem has_O (s : Int) : hasB [1, 2] s = isO s := by simp [hasB, isO]
theorem has_A (s : Int) : hasB [1, 2, 3] s = isA s := by simp [hasB, isA, isO, Bool.or_assoc]
theorem has_1 (s : Int) : hasB [1] s = (s == 1) := by simp [hasB]

set_option maxHeartbeats 400000 in
theorem Index_some (b1 o1 n1 c1 : Nat) (l1 : List Int) (x : Int) (w : World) (hl1 : l1.length = n1) (hm1 : n1 ≤ 9223372036854775807)
    (hr1 : ∀ i, i < n1 → w.cell? ⟨b1, o1 + i, none⟩ = some (.int .i64 (l1.getD i 0))) :
    Calls Tryd.prog 94 #[.slice (some ⟨b1, o1, none⟩) n1 c1, .int .i64 x] w
      fun e w' => (∃ r, e = .returned (.int .i64 r) ∧ decide (0 ≤ r) = hasB l1 x) ∧ w' = w := by
  go_enter Tryd.func94, Tryd.ntmps94
  go_wp2
  go_loop [8] (fun i => ∃ k : Nat, k ≤ n1 ∧ i = .int .i64 k ∧ (l1.take k).any (fun y => x == y) = false) (fun i => n1 - (intOf i).toNat)
  case atStart => exact ⟨0, by omega, rfl, by simp⟩
  case round =>
    obtain ⟨k, hk, rfl, ht⟩ := hrel
    by_cases hlt : k < n1
    · have hi1 := hr1 k hlt
      have hlt' : (k : Int) < (n1 : Int) := by omega
      have HT := hide ht
      clear ht hr1
      generalize hy : l1.getD k 0 = y at hi1
      have HY := hide hy
      clear hy
      go_wp2
      · rename_i hxy
        go_ret
        exact ⟨⟨k, rfl, by unfold hasB; rw [any_of_getD _ l1 k (by omega) (by rw [HY.out]; exact ‹(x == y) = true›)]; simp⟩, rfl⟩
      · rename_i hxy
        exact ⟨⟨k + 1, by omega, by go_num, any_take_step _ l1 k (by omega) HT.out (by rw [HY.out]; simpa using hxy)⟩, by simp [intOf]; omega⟩
    · go_wp2
      go_ret
      rw [List.take_of_length_le (by omega)] at ht
      exact ⟨⟨-1, rfl, by unfold hasB; rw [ht]; rfl⟩, rfl⟩

theorem Index_none (a1 : Option Addr) (c1 : Nat) (x : Int) (w : World) :
    Calls Tryd.prog 94 #[.slice a1 0 c1, .int .i64 x] w fun e w' => e = .returned (.int .i64 (-1)) ∧ w' = w := by
  go_enter Tryd.func94, Tryd.ntmps94
  go_wp2
  refine wp_loop_rounds 1 ?_; rw [rounds_succ]
  go_wp2
  go_ret
  exact ⟨rfl, rfl⟩

theorem Contains_c (a1 : Option Addr) (n1 c1 : Nat) (l1 : List Int) (x : Int) (w : World) (h1 : Ints w a1 n1 c1 l1) :
    Calls Tryd.prog 78 #[.slice a1 n1 c1, .int .i64 x] w fun e w' => e = .returned (.bool (hasB l1 x)) ∧ w' = w := by
  obtain ⟨hl1, hc1, hm1, hn1, hr1, hw1⟩ := h1
  rcases hr1 with h0 | ⟨b1, o1, rfl, _, hr1⟩
  · subst h0
    rw [List.length_eq_zero_iff] at hl1
    subst hl1
    go_enter Tryd.func78, Tryd.ntmps78
    go_wp2_with fail
    refine (Index_none a1 c1 x _).mono ?_
    rintro e w' ⟨rfl, rfl⟩
    go_wp2
    go_ret
    exact ⟨rfl, rfl⟩
  · go_enter Tryd.func78, Tryd.ntmps78
    go_wp2_with fail
    refine (Index_some b1 o1 n1 c1 l1 x _ hl1 (by omega) hr1).mono ?_
    rintro e w' ⟨⟨r, rfl, hr⟩, rfl⟩
    have HR := hide hr
    clear hr
    go_wp2
    go_ret
    exact ⟨ret_bool HR.out, rfl⟩

theorem yin_c (a : Option Addr) (n c : Nat) (w : World) : Calls Tryd.prog 68 #[.slice a n c] w fun e w' => e = .returned (.func (Fn.func 77) #[] #[.pointer (some ⟨w.heap.size, 0, none⟩)]) ∧ w' = w.alloc (.cells #[.slice a n c] 23) := by
  go_enter Tryd.func68, Tryd.ntmps68
  go_wp2
  go_ret
  exact ⟨rfl, rfl⟩

theorem yin1_c (s : Int) (za : Option Addr) (zn zc : Nat) (g : Nat) (a : Option Addr) (n c : Nat) (L : List Int) (w : World) (hg : w.cell? ⟨g, 0, none⟩ = some (.slice a n c)) (hi : Ints w a n c L) :
    Calls Tryd.prog 77 #[.agg #[.int .i64 s, .slice za zn zc], .pointer (some ⟨g, 0, none⟩)] w fun e w' => e = .returned (.bool (hasB L s)) ∧ Below w.heap.size w w' := by
  have hg' := past1 hg
  have hi' := hi.below (B := w.heap.size) (belowA (Below.refl _ _) (.cells #[.int .i64 s, .slice za zn zc] 61)) (Nat.le_refl _)
  go_enter Tryd.func77, Tryd.ntmps77
  go_wp2_with (go_at_call 78; refine (Contains_c a n c L s _ hi').mono ?_; rintro e w' ⟨rfl, rfl⟩)
  go_ret
  exact ⟨rfl, by (repeat first | exact bel0 | assumption | refine bel1 ?_ | refine bel2 ?_ | refine bel3 ?_ | refine belowT ?_ (by assumption) | refine bel5 ?_ (by simp; try omega))⟩

set_option maxHeartbeats 1000000 in
theorem count_some (b off n c : Nat) (Z : List ZV) (g : Nat) (a : Option Addr) (m d : Nat) (L : List Int) (w : World) (h : Zones w (some ⟨b, off, none⟩) n c Z)
    (hr : ∀ i z, Z[i]? = some z → w.cell? ⟨b, off + i * 2, none⟩ = some (.int .i64 z.s) ∧ w.cell? ⟨b, off + i * 2 + 1, none⟩ = some (.slice z.a z.n z.c))
    (hg : w.cell? ⟨g, 0, none⟩ = some (.slice a m d)) (hi : Ints w a m d L) :
    Calls Tryd.prog 67 #[.slice (some ⟨b, off, none⟩) n c, .func (Fn.func 77) #[] #[.pointer (some ⟨g, 0, none⟩)]] w fun e w' => e = .returned (.int .i64 (cnt (hasB L) Z)) ∧ Below w.heap.size w w' := by
  have hlen := h.len
  have hmax := h.max
  have hle := h.le
  go_enter Tryd.func67, Tryd.ntmps67
  go_wp2
  go_loopw [5, 10] (fun o i wr => ∃ k : Nat, k ≤ n ∧ i = .int .i64 k ∧ o = .int .i64 (cnt (hasB L) (Z.take k)) ∧ Below w.heap.size w wr) (fun _ i _ => n - (intOf i).toNat)
  case atStart => exact ⟨0, by omega, rfl, rfl, Below.refl _ _⟩
  case round =>
    obtain ⟨k, hk, rfl, rfl, hbr⟩ := hrel
    rename_i wr
    by_cases hlt : k < n
    · obtain ⟨z, hz⟩ : ∃ z, Z[k]? = some z := ⟨Z[k]'(by omega), by simp⟩
      obtain ⟨c0, c1⟩ := hr k z hz
      replace c0 := keepc hbr c0
      replace c1 := keepc hbr c1
      have hg1 := keepc hbr hg
      have hi1 := hi.below hbr (Nat.le_refl _)
      have hlt' : (k : Int) < (n : Int) := by omega
      have q1 := cnt_le (hasB L) (Z.take k)
      have q3 := List.length_take_le k Z
      have s1 := hide (cnt_snoc (hasB L) Z k z hz)
      generalize cnt (hasB L) (Z.take k) = x at *
      clear hr hz
      go_wp2_with (go_at_call 77; refine (yin1_c z.s z.a z.n z.c g a m d L _ (keepc (by (repeat first | exact bel0 | assumption | refine bel1 ?_ | refine bel2 ?_ | refine bel3 ?_ | refine belowT ?_ (by assumption) | refine bel5 ?_ (by simp; try omega))) hg1) (by refine Ints.below hi1 (B := wr.heap.size) ?_ (Nat.le_refl _); (repeat first | exact bel0 | assumption | refine bel1 ?_ | refine bel2 ?_ | refine bel3 ?_ | refine belowT ?_ (by assumption) | refine bel5 ?_ (by simp; try omega)))).mono ?_; rintro e w9 ⟨rfl, hb9⟩)
      all_goals
        refine ⟨⟨k + 1, by omega, by go_num, vint ?_, ?_⟩, by simp [intOf]; omega⟩
        · rw [s1.out]; simp [*]
        · (repeat first | exact bel0 | assumption | refine bel1 ?_ | refine bel2 ?_ | refine bel3 ?_ | refine belowT ?_ (by assumption) | refine bel5 ?_ (by simp; try omega))
    · obtain rfl : k = n := by omega
      rw [List.take_of_length_le (by omega)]
      go_wp2
      go_ret
      exact ⟨rfl, hbr⟩

theorem count_c (a : Option Addr) (n c : Nat) (Z : List ZV) (g : Nat) (sa : Option Addr) (m d : Nat) (L : List Int) (w : World) (h : Zones w a n c Z) (hn : 0 < n)
    (hg : w.cell? ⟨g, 0, none⟩ = some (.slice sa m d)) (hi : Ints w sa m d L) :
    Calls Tryd.prog 67 #[.slice a n c, .func (Fn.func 77) #[] #[.pointer (some ⟨g, 0, none⟩)]] w fun e w' => e = .returned (.int .i64 (cnt (hasB L) Z)) ∧ Below w.heap.size w w' := by
  rcases h.row with h0 | ⟨b, off, rfl, hb, hr⟩
  · omega
  · exact count_some b off n c Z g sa m d L w h hr hg hi

theorem has_O' : hasB [1, 2] = isO := funext has_O
theorem has_A' : hasB [1, 2, 3] = isA := funext has_A

theorem yopened_c (a : Option Addr) (n c : Nat) (Z : List ZV) (w : World) (h : Zones w a n c Z) (hn : 0 < n) :
    Calls Tryd.prog 49 #[.slice a n c] w fun e w' => e = .returned (.int .i64 (cnt isO Z)) ∧ Below w.heap.size w w' := by
  have i0 : Ints (w.alloc (.cells #[.int .i64 1, .int .i64 2] 3)) (some ⟨w.heap.size, 0, none⟩) 2 2 [1, 2] := Ints.of_row (l := [1, 2]) (heap_new w _) (by decide) (by decide) rfl
  go_enter Tryd.func49, Tryd.ntmps49
  go_wp2_with fail
  refine (yin_c _ 2 2 _).mono ?_
  rintro e w1 ⟨rfl, rfl⟩
  go_wp2_with fail
  refine (count_c a n c Z _ _ 2 2 [1, 2] _ (h.below (B := w.heap.size) (by (repeat first | exact bel0 | assumption | refine bel1 ?_ | refine bel2 ?_ | refine bel3 ?_ | refine belowT ?_ (by assumption) | refine bel5 ?_ (by simp; try omega))) (Nat.le_refl _)) hn (by simp) (i0.below (B := (w.alloc (.cells #[.int .i64 1, .int .i64 2] 3)).heap.size) (by (repeat first | exact bel0 | assumption | refine bel1 ?_ | refine bel2 ?_ | refine bel3 ?_ | refine belowT ?_ (by assumption) | refine bel5 ?_ (by simp; try omega))) (Nat.le_refl _))).mono ?_
  rintro e w2 ⟨rfl, hb⟩
  rw [has_O']
  go_wp2
  go_ret
  exact ⟨rfl, by (repeat first | exact bel0 | assumption | refine bel1 ?_ | refine bel2 ?_ | refine bel3 ?_ | refine belowT ?_ (by assumption) | refine bel5 ?_ (by simp; try omega))⟩

theorem yactive_c (a : Option Addr) (n c : Nat) (Z : List ZV) (w : World) (h : Zones w a n c Z) (hn : 0 < n) :
    Calls Tryd.prog 50 #[.slice a n c] w fun e w' => e = .returned (.int .i64 (cnt isA Z)) ∧ Below w.heap.size w w' := by
  have i0 : Ints (w.alloc (.cells #[.int .i64 1, .int .i64 2, .int .i64 3] 3)) (some ⟨w.heap.size, 0, none⟩) 3 3 [1, 2, 3] := Ints.of_row (l := [1, 2, 3]) (heap_new w _) (by decide) (by decide) rfl
  go_enter Tryd.func50, Tryd.ntmps50
  go_wp2_with fail
  refine (yin_c _ 3 3 _).mono ?_
  rintro e w1 ⟨rfl, rfl⟩
  go_wp2_with fail
  refine (count_c a n c Z _ _ 3 3 [1, 2, 3] _ (h.below (B := w.heap.size) (by (repeat first | exact bel0 | assumption | refine bel1 ?_ | refine bel2 ?_ | refine bel3 ?_ | refine belowT ?_ (by assumption) | refine bel5 ?_ (by simp; try omega))) (Nat.le_refl _)) hn (by simp) (i0.below (B := (w.alloc (.cells #[.int .i64 1, .int .i64 2, .int .i64 3] 3)).heap.size) (by (repeat first | exact bel0 | assumption | refine bel1 ?_ | refine bel2 ?_ | refine bel3 ?_ | refine belowT ?_ (by assumption) | refine bel5 ?_ (by simp; try omega))) (Nat.le_refl _))).mono ?_
  rintro e w2 ⟨rfl, hb⟩
  rw [has_A']
  go_wp2
  go_ret
  exact ⟨rfl, by (repeat first | exact bel0 | assumption | refine bel1 ?_ | refine bel2 ?_ | refine bel3 ?_ | refine belowT ?_ (by assumption) | refine bel5 ?_ (by simp; try omega))⟩

set_option maxHeartbeats 2000000 in
theorem YCheck_four (b off c : Nat) (Z : List ZV) (w : World) (h : Zones w (some ⟨b, off, none⟩) 4 c Z)
    (hr : ∀ i z, Z[i]? = some z → w.cell? ⟨b, off + i * 2, none⟩ = some (.int .i64 z.s) ∧ w.cell? ⟨b, off + i * 2 + 1, none⟩ = some (.slice z.a z.n z.c)) :
    Calls Tryd.prog 35 #[.slice (some ⟨b, off, none⟩) 4 c] w fun e w' => e = .returned (.int .i64 (checkZs (Z.map ZV.p))) ∧ Below w.heap.size w w' := by
  have hlen := hide h.len
  have q1 := cnt_le isO Z
  have q2 := cnt_le isA Z
  rw [h.len] at q1 q2
  go_enter Tryd.func35, Tryd.ntmps35
  go_wp2
  go_loopw [11] (fun i wr => ∃ k : Nat, k ≤ 4 ∧ i = .int .i64 k ∧ firstE ((Z.take k).map ZV.p) = 0 ∧ Below w.heap.size w wr) (fun i _ => 4 - (intOf i).toNat)
  case atStart => exact ⟨0, by omega, rfl, rfl, Below.refl _ _⟩
  case round =>
    obtain ⟨k, hk, rfl, hf, hbr⟩ := hrel
    have HF := hide hf
    clear hf
    rename_i wr
    by_cases hlt : k < 4
    · obtain ⟨z, hz⟩ : ∃ z, Z[k]? = some z := ⟨Z[k]'(by rw [hlen.out]; exact hlt), by simp⟩
      obtain ⟨c0, c1⟩ := hr k z hz
      have iz := (h.ok z (List.mem_of_getElem? hz)).below hbr (Nat.le_refl _)
      replace c0 := keepc hbr c0
      replace c1 := keepc hbr c1
      have HZ := hide hz
      have hlt' : (k : Int) < 4 := by omega
      clear hz
      go_wp2_with (go_at_call 48; refine (Check_c z.s z.a z.n z.c z.l _ (by refine Ints.below iz (B := wr.heap.size) ?_ (Nat.le_refl _); (repeat first | exact bel0 | assumption | refine bel1 ?_ | refine bel2 ?_ | refine bel3 ?_ | refine belowT ?_ (by assumption) | refine bel5 ?_ (by simp; try omega)))).mono ?_; rintro e w9 ⟨rfl, hb9⟩)
      · rename_i hne
        go_ret
        exact ⟨ret_int (checkZs_2 hlen.out (firstE_at Z k z HZ.out HF.out (by simpa using hne)) (by simpa using hne)), by (repeat first | exact bel0 | assumption | refine bel1 ?_ | refine bel2 ?_ | refine bel3 ?_ | refine belowT ?_ (by assumption) | refine bel5 ?_ (by simp; try omega))⟩
      · rename_i heq
        exact ⟨⟨k + 1, by omega, by go_num, firstE_step Z k z HZ.out HF.out (by simpa using heq), by (repeat first | exact bel0 | assumption | refine bel1 ?_ | refine bel2 ?_ | refine bel3 ?_ | refine belowT ?_ (by assumption) | refine bel5 ?_ (by simp; try omega))⟩, by simp [intOf]; omega⟩
    · obtain rfl : k = 4 := by omega
      have hf := HF.out
      rw [List.take_of_length_le (by rw [hlen.out]; omega)] at hf
      have HG := hide hf
      clear hf HF
      have hz := h.below (B := w.heap.size) hbr (Nat.le_refl _)
      go_wp2_with fail
      refine (yopened_c _ 4 c Z _ hz (by omega)).mono ?_
      rintro e w8 ⟨rfl, hb8⟩
      replace hz := hz.below hb8 (Nat.le_refl _)
      go_wp2_with (go_at_call 50; refine (yactive_c _ 4 c Z _ hz (by omega)).mono ?_; rintro e w9 ⟨rfl, hb9⟩)
      all_goals
        go_ret
        first
          | exact ⟨ret_int (checkZs_3 hlen.out HG.out (by omega)), by (repeat first | exact bel0 | assumption | refine bel1 ?_ | refine bel2 ?_ | refine bel3 ?_ | refine belowT ?_ (by assumption) | refine bel5 ?_ (by simp; try omega))⟩
          | exact ⟨ret_int (checkZs_0 hlen.out HG.out (by omega)), by (repeat first | exact bel0 | assumption | refine bel1 ?_ | refine bel2 ?_ | refine bel3 ?_ | refine belowT ?_ (by assumption) | refine bel5 ?_ (by simp; try omega))⟩

theorem YCheck_c (a : Option Addr) (n c : Nat) (Z : List ZV) (w : World) (h : Zones w a n c Z) :
    Calls Tryd.prog 35 #[.slice a n c] w fun e w' => e = .returned (.int .i64 (checkZs (Z.map ZV.p))) ∧ Below w.heap.size w w' := by
  have hm := h.max
  have hl := h.le
  by_cases h4 : n = 4
  · subst h4
    rcases h.row with h0 | ⟨b, off, rfl, hb, hr⟩
    · omega
    · exact YCheck_four b off c Z w h hr
  · have hne : ((n : Int) != 4) = true := by simp; omega
    have hz := checkZs_1 (Z := Z) (by rw [h.len]; exact h4)
    have HZ := hide hz
    clear hz
    go_enter Tryd.func35, Tryd.ntmps35
    go_wp2
    go_ret
    exact ⟨ret_int HZ.out, Below.refl _ _⟩

set_option maxHeartbeats 2000000 in
theorem EqualFuncY_some (b1 o1 m1 b2 o2 m2 n : Nat) (Z1 Z2 : List ZV) (w : World) (h1 : Zones w (some ⟨b1, o1, none⟩) n m1 Z1) (h2 : Zones w (some ⟨b2, o2, none⟩) n m2 Z2)
    (hr1 : ∀ i z, Z1[i]? = some z → w.cell? ⟨b1, o1 + i * 2, none⟩ = some (.int .i64 z.s) ∧ w.cell? ⟨b1, o1 + i * 2 + 1, none⟩ = some (.slice z.a z.n z.c))
    (hr2 : ∀ i z, Z2[i]? = some z → w.cell? ⟨b2, o2 + i * 2, none⟩ = some (.int .i64 z.s) ∧ w.cell? ⟨b2, o2 + i * 2 + 1, none⟩ = some (.slice z.a z.n z.c)) :
    Calls Tryd.prog 46 #[.slice (some ⟨b1, o1, none⟩) n m1, .slice (some ⟨b2, o2, none⟩) n m2, .func (Fn.func 47) #[] #[]] w fun e w' => e = .returned (.bool (decide (Z1.map ZV.p = Z2.map ZV.p))) ∧ Below w.heap.size w w' := by
  have hlen1 := hide h1.len
  have hlen2 := hide h2.len
  have hmax := h1.max
  have hle := h1.le
  go_enter Tryd.func46, Tryd.ntmps46
  go_wp2
  go_loopw [17] (fun i wr => ∃ k : Nat, k ≤ n ∧ i = .int .i64 k ∧ (Z1.take k).map ZV.p = (Z2.take k).map ZV.p ∧ Below w.heap.size w wr) (fun i _ => n - (intOf i).toNat)
  case atStart => exact ⟨0, by omega, rfl, by simp, Below.refl _ _⟩
  case round =>
    obtain ⟨k, hk, rfl, hp, hbr⟩ := hrel
    have HP := hide hp
    clear hp
    rename_i wr
    by_cases hlt : k < n
    · obtain ⟨z, hz⟩ : ∃ z, Z1[k]? = some z := ⟨Z1[k]'(by rw [hlen1.out]; exact hlt), by simp⟩
      obtain ⟨y, hy⟩ : ∃ z, Z2[k]? = some z := ⟨Z2[k]'(by rw [hlen2.out]; exact hlt), by simp⟩
      obtain ⟨c0, c1⟩ := hr1 k z hz
      obtain ⟨d0, d1⟩ := hr2 k y hy
      have iz := (h1.ok z (List.mem_of_getElem? hz)).below hbr (Nat.le_refl _)
      have iy := (h2.ok y (List.mem_of_getElem? hy)).below hbr (Nat.le_refl _)
      replace c0 := keepc hbr c0
      replace c1 := keepc hbr c1
      replace d0 := past1 (keepc hbr d0)
      replace d1 := past1 (keepc hbr d1)
      have HZ := hide hz
      have HY := hide hy
      have hlt' : (k : Int) < (n : Int) := by omega
      clear hz hy
      go_wp2_with (go_at_call 47; refine (Same_c z.s y.s z.a y.a z.n z.c y.n y.c z.l y.l _ (by refine Ints.below iz (B := wr.heap.size) ?_ (Nat.le_refl _); (repeat first | exact bel0 | assumption | refine bel1 ?_ | refine bel2 ?_ | refine bel3 ?_ | refine belowT ?_ (by assumption) | refine bel5 ?_ (by simp; try omega))) (by refine Ints.below iy (B := wr.heap.size) ?_ (Nat.le_refl _); (repeat first | exact bel0 | assumption | refine bel1 ?_ | refine bel2 ?_ | refine bel3 ?_ | refine belowT ?_ (by assumption) | refine bel5 ?_ (by simp; try omega)))).mono ?_; rintro e w9 ⟨rfl, hb9⟩)
      · rename_i hne
        go_ret
        exact ⟨ret_bool (decide_eq_false (map_ne Z1 Z2 k z y HZ.out HY.out (by simp at hne; rintro ⟨e1, e2⟩; rcases hne with h | h; exact h e1; exact h e2))).symm, by (repeat first | exact bel0 | assumption | refine bel1 ?_ | refine bel2 ?_ | refine bel3 ?_ | refine belowT ?_ (by assumption) | refine bel5 ?_ (by simp; try omega))⟩
      · rename_i heq
        exact ⟨⟨k + 1, by omega, by go_num, map_take_step Z1 Z2 k z y HZ.out HY.out HP.out (by simpa using heq), by (repeat first | exact bel0 | assumption | refine bel1 ?_ | refine bel2 ?_ | refine bel3 ?_ | refine belowT ?_ (by assumption) | refine bel5 ?_ (by simp; try omega))⟩, by simp [intOf]; omega⟩
    · obtain rfl : k = n := by omega
      go_wp2
      go_ret
      have hp := HP.out
      rw [List.take_of_length_le (by rw [hlen1.out]; omega), List.take_of_length_le (by rw [hlen2.out]; omega)] at hp
      exact ⟨ret_bool (by simp [hp]), hbr⟩

theorem EqualFuncY_ne (a1 a2 : Option Addr) (n1 n2 c1 c2 : Nat) (fv : Value) (w : World) (hne : n1 ≠ n2) (hm1 : n1 ≤ 9223372036854775807) (hm2 : n2 ≤ 9223372036854775807) :
    Calls Tryd.prog 46 #[.slice a1 n1 c1, .slice a2 n2 c2, fv] w fun e w' => e = .returned (.bool false) ∧ w' = w := by
  have hb : ((n1 : Int) != (n2 : Int)) = true := by simp; omega
  go_enter Tryd.func46, Tryd.ntmps46
  go_wp2
  go_ret
  exact ⟨rfl, rfl⟩

theorem EqualFuncY_zero (a1 a2 : Option Addr) (c1 c2 : Nat) (fv : Value) (w : World) :
    Calls Tryd.prog 46 #[.slice a1 0 c1, .slice a2 0 c2, fv] w fun e w' => e = .returned (.bool true) ∧ w' = w := by
  go_enter Tryd.func46, Tryd.ntmps46
  go_wp2
  refine wp_loop_rounds 1 ?_
  rw [rounds_succ]
  go_wp2
  go_ret
  exact ⟨rfl, rfl⟩

theorem EqualFuncY_c (a1 a2 : Option Addr) (n1 n2 c1 c2 : Nat) (Z1 Z2 : List ZV) (w : World) (h1 : Zones w a1 n1 c1 Z1) (h2 : Zones w a2 n2 c2 Z2) :
    Calls Tryd.prog 46 #[.slice a1 n1 c1, .slice a2 n2 c2, .func (Fn.func 47) #[] #[]] w fun e w' => e = .returned (.bool (decide (Z1.map ZV.p = Z2.map ZV.p))) ∧ Below w.heap.size w w' := by
  by_cases hn : n1 = n2
  · subst hn
    by_cases h0 : n1 = 0
    · subst h0
      have e1 := h1.len
      have e2 := h2.len
      rw [List.length_eq_zero_iff] at e1 e2
      subst e1 e2
      refine (EqualFuncY_zero a1 a2 c1 c2 _ w).mono ?_
      rintro e w' ⟨rfl, rfl⟩
      exact ⟨rfl, Below.refl _ _⟩
    · rcases h1.row with h | ⟨b1, o1, rfl, _, hr1⟩
      · omega
      · rcases h2.row with h | ⟨b2, o2, rfl, _, hr2⟩
        · omega
        · exact EqualFuncY_some b1 o1 c1 b2 o2 c2 n1 Z1 Z2 w h1 h2 hr1 hr2
  · have m1 := h1.max
    have m2 := h2.max
    have q1 := h1.le
    have q2 := h2.le
    refine (EqualFuncY_ne a1 a2 n1 n2 c1 c2 _ w hn (by omega) (by omega)).mono ?_
    rintro e w' ⟨rfl, rfl⟩
    exact ⟨ret_bool (decide_eq_false (map_len Z1 Z2 (by rw [h1.len, h2.len]; exact hn))).symm, Below.refl _ _⟩



theorem YSame_c (a1 a2 : Option Addr) (n1 n2 c1 c2 : Nat) (Z1 Z2 : List ZV) (w : World) (h1 : Zones w a1 n1 c1 Z1) (h2 : Zones w a2 n2 c2 Z2) :
    Calls Tryd.prog 33 #[.slice a1 n1 c1, .slice a2 n2 c2] w fun e w' => e = .returned (.bool (decide (Z1.map ZV.p = Z2.map ZV.p))) ∧ Below w.heap.size w w' := by
  go_enter Tryd.func33, Tryd.ntmps33
  go_wp2_with fail
  refine (EqualFuncY_c a1 a2 n1 n2 c1 c2 Z1 Z2 _ h1 h2).mono ?_
  rintro e w' ⟨rfl, hb⟩
  go_wp2
  go_ret
  exact ⟨rfl, hb⟩

end Go.Proofs.YtcmladgldjcdmaaDoor

/- The contract of the whole copy of zones; no condition but that the slice reads as four zones of few blocks. -/
namespace Go.Proofs.YtcmladgldjcdmaaDoor
open Go.RowKit
set_option linter.unusedVariables false
set_option maxRecDepth 100000
set_option linter.unusedSimpArgs false

/-- Four zones that nobody has written yet. -/
def zero4 : List ZV := [⟨0, none, 0, 0, []⟩, ⟨0, none, 0, 0, []⟩, ⟨0, none, 0, 0, []⟩, ⟨0, none, 0, 0, []⟩]

theorem Mine.fresh (w : World) : Mine (w.alloc (.cells (zcells zero4).toArray 61)) w.heap.size w.heap.size 4 4 zero4 := by
  have hc : ∀ i z, zero4[i]? = some z → (w.alloc (.cells (zcells zero4).toArray 61)).cell? ⟨w.heap.size, i * 2, none⟩ = some (.int .i64 z.s) ∧ (w.alloc (.cells (zcells zero4).toArray 61)).cell? ⟨w.heap.size, i * 2 + 1, none⟩ = some (.slice z.a z.n z.c) := by
    intro i z hz
    obtain ⟨z0, z1⟩ := zcells_get zero4 i z hz
    rw [cell_of_row _ _ _ _ _ _ (heap_new w _), cell_of_row _ _ _ _ _ _ (heap_new w _)]
    exact ⟨by simpa using z0, by simpa using z1⟩
  have hz : ∀ z ∈ zero4, z = ⟨0, none, 0, 0, []⟩ := by simp [zero4]
  exact ⟨⟨rfl, Nat.le_refl _, by omega, fun e => (by cases e), .inr ⟨_, 0, rfl, by simp, fun i z hz => by simpa using hc i z hz⟩, fun z h => by rw [hz z h]; exact Ints.nilSlice _⟩,
    Nat.le_refl _, by simp, hc, fun j _ => frozen_row (heap_new w _), fun z h => by rw [hz z h]; exact .inl rfl⟩

theorem mkz4 (w : World) : (Instr.makeSlice 22 (.int .i64 4) (.int .i64 4)).run Tryd.prog w = .ok (.slice (some ⟨w.heap.size, 0, none⟩) 4 4) (w.alloc (.cells (zcells zero4).toArray 61)) := by kernel_rfl

theorem whole_c (b off c : Nat) (Z : List ZV) (w : World) (h : Zones w (some ⟨b, off, none⟩) 4 c Z) (h8 : ∀ z ∈ Z, z.n ≤ 8)
    (hr : ∀ i z, Z[i]? = some z → w.cell? ⟨b, off + i * 2, none⟩ = some (.int .i64 z.s) ∧ w.cell? ⟨b, off + i * 2 + 1, none⟩ = some (.slice z.a z.n z.c)) :
    Calls Tryd.prog 40 #[.slice (some ⟨b, off, none⟩) 4 c] w fun e w' => (∃ g Z', e = .returned (.slice (some ⟨g, 0, none⟩) 4 4) ∧ Mine w' w.heap.size g 4 4 Z' ∧ Z'.map ZV.p = Z.map ZV.p ∧ NewL w.heap.size Z') ∧ Below w.heap.size w w' :=
  (pcopyZones_c _ 4 c Z w h (by omega) (fun z hz => by have := h8 z hz; omega)).mono fun e w' ⟨⟨g, Y, h1, h2, h3, h4, h5, h6⟩, h7⟩ =>
    ⟨⟨g, Y, h1, (h2.mine h3 (by omega) h6).mono h5, h4, fun z hz x e => by have := h6 z hz x e; omega⟩, h7⟩

end Go.Proofs.YtcmladgldjcdmaaDoor
