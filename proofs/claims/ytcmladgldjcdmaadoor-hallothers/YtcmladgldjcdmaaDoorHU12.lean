/- The contracts of the package yard: each call answers what the plain functions say, in new memory, and leaves what was there as it was; no condition but that the arguments read as zones and data. -/
import Derived.Test.YtcmladgldjcdmaaDoorHU11
import Derived.Test.YtcmladgldjcdmaaDoorHU6
import Derived.Test.YtcmladgldjcdmaaDoorHU2
import Derived.Test.YtcmladgldjcdmaaDoorHU1
import Derived.Deep.Light
namespace Go.Proofs.YtcmladgldjcdmaaDoor
open Go.RowKit
set_option linter.unusedVariables false
set_option maxRecDepth 100000
set_option linter.unusedSimpArgs false

/-- The list, and all zones' blocks, lie from B on. -/
def NewZ (B : Nat) (a : Option Addr) (Z : List ZV) : Prop := (∀ x, a = some x → B ≤ x.block) ∧ NewL B Z
theorem NewZ.nil (B : Nat) : NewZ B none [] := ⟨fun x e => (by cases e), NewL.nil B⟩

theorem YNew_f (w : World) : Calls Tryd.prog 44 #[] w fun e w' => (∃ a c Z, e = .returned (.slice a 4 c) ∧ Zones w' a 4 c Z ∧ NewZ w.heap.size a Z ∧ Z.map ZV.p = [(0, []), (0, []), (0, []), (0, [])]) ∧ Below w.heap.size w w' := by
  have hmk := mkz4
  have hm := (Mine.fresh w).zs
  generalize hx : (zcells zero4).toArray = xs at *
  clear hx
  go_enter Tryd.func44, Tryd.ntmps44
  go_wp2
  go_ret
  exact ⟨⟨_, 4, zero4, rfl, hm, ⟨fun x e => by cases e; exact Nat.le_refl _, by intro z hz x e; simp [zero4] at hz; subst hz; cases e⟩, rfl⟩, by (repeat first | exact bel0 | assumption | refine bel1 ?_ | refine bel2 ?_ | refine bel3 ?_ | refine belowT ?_ (by assumption) | refine bel5 ?_ (by simp; try omega))⟩
/-- What is known of a number with which nothing is wrong. -/
theorem pre_k {w : World} {a : Option Addr} {n c : Nat} {Z : List ZV} (h : Zones w a n c Z) {k : Int} (hp : pre (Z.map ZV.p) k = 0) {Z' : List ZV} (hq : Z'.map ZV.p = Z.map ZV.p) :
    ∃ (j : Nat) (z : ZV), k = j ∧ j < 4 ∧ Z'[j]? = some z ∧ at' (Z.map ZV.p) k = z.p := by
  obtain ⟨hc, j, b, off, z, rfl, hj, h4, _, hz, hat, _⟩ := pre_ok h hp
  have hl : Z'.length = 4 := by have e := congrArg List.length hq; simp [h.len] at e; omega
  refine ⟨j, Z'[j]'(by omega), rfl, hj, by simp, ?_⟩
  have e := congrArg (fun L => L[j]?) hq
  simp [List.getElem?_map, hz, show j < Z'.length by omega] at e
  rw [hat, e]

set_option maxHeartbeats 2000000 in
theorem YFinish_f (a : Option Addr) (n c : Nat) (Z : List ZV) (k : Int) (w : World) (h : Zones w a n c Z) :
    Calls Tryd.prog 92 #[.slice a n c, .int .i64 k] w fun e w' => (∃ a' n' c' Z', e = .returned (.tuple #[.slice a' n' c', .int .i64 (finishP (Z.map ZV.p) k).2]) ∧ Zones w' a' n' c' Z' ∧ NewZ w.heap.size a' Z' ∧ Z'.map ZV.p = (finishP (Z.map ZV.p) k).1) ∧ Below w.heap.size w w' := by
  go_enter Tryd.func92, Tryd.ntmps92
  go_wp2_with fail
  refine (begin_c a n c Z k _ h).mono ?_
  rintro e w1 ⟨⟨hp, rfl⟩ | ⟨hp, g, Z', rfl, hm, hq, hnl⟩, hb1⟩
  · have hx : (pre (Z.map ZV.p) k != 0) = true := by simpa using hp
    have HF := hide (show finishP (Z.map ZV.p) k = ([], pre (Z.map ZV.p) k) by simp [finishP, hp])
    clear hp
    generalize pre (Z.map ZV.p) k = x at *
    go_wp2
    go_ret2
    rw [HF.out]
    exact ⟨⟨none, 0, 0, [], rfl, zs_nil _, NewZ.nil _, rfl⟩, hb1⟩
  · obtain ⟨j, z, rfl, hj, hz, hat⟩ := pre_k h hp hq
    have HN := hide hnl
    have HZN := hide (hnl.at hz)
    clear hnl
    have HF := hide (show finishP (Z.map ZV.p) j = ((Z.map ZV.p).set j (4, z.l), 0) by simp [finishP, hp, hat, ZV.p])
    have HQ := hide hq
    have hj' : (j : Int) < 4 := by omega
    obtain ⟨c0, c1⟩ := hm.cells j z hz
    have s0 := hm.soft (j * 2) (by omega)
    have hm2 := hm.put hz ((Put.refl c0).set (.int .i64 4))
    have b2 : Below w.heap.size w (w1.setCell ⟨g, j * 2, none⟩ (.int .i64 4)) := hb1.trans ((But.of_set c0 _).low.mono hm.base)
    clear hp hq hz hat
    go_wp2
    go_ret2
    rw [HF.out]
    exact ⟨⟨_, 4, 4, _, rfl, hm2.zs, ⟨fun x e => by cases e; exact hm.base, HN.out.set j (u := z.to 4) HZN.out⟩, by rw [set_to_p, HQ.out]⟩, b2⟩

set_option maxHeartbeats 2000000 in
theorem YReset_f (a : Option Addr) (n c : Nat) (Z : List ZV) (k : Int) (w : World) (h : Zones w a n c Z) :
    Calls Tryd.prog 93 #[.slice a n c, .int .i64 k] w fun e w' => (∃ a' n' c' Z', e = .returned (.tuple #[.slice a' n' c', .int .i64 (resetP (Z.map ZV.p) k).2]) ∧ Zones w' a' n' c' Z' ∧ NewZ w.heap.size a' Z' ∧ Z'.map ZV.p = (resetP (Z.map ZV.p) k).1) ∧ Below w.heap.size w w' := by
  go_enter Tryd.func93, Tryd.ntmps93
  go_wp2_with fail
  refine (begin_c a n c Z k _ h).mono ?_
  rintro e w1 ⟨⟨hp, rfl⟩ | ⟨hp, g, Z', rfl, hm, hq, hnl⟩, hb1⟩
  · have hx : (pre (Z.map ZV.p) k != 0) = true := by simpa using hp
    have HF := hide (show resetP (Z.map ZV.p) k = ([], pre (Z.map ZV.p) k) by simp [resetP, hp])
    clear hp
    generalize pre (Z.map ZV.p) k = x at *
    go_wp2
    go_ret2
    rw [HF.out]
    exact ⟨⟨none, 0, 0, [], rfl, zs_nil _, NewZ.nil _, rfl⟩, hb1⟩
  · obtain ⟨j, z, rfl, hj, hz, hat⟩ := pre_k h hp hq
    have HN := hide hnl
    have HZN := hide (hnl.at hz)
    clear hnl
    have HF := hide (show resetP (Z.map ZV.p) j = ((Z.map ZV.p).set j (0, []), 0) by simp [resetP, hp])
    have HQ := hide hq
    have hj' : (j : Int) < 4 := by omega
    obtain ⟨c0, c1⟩ := hm.cells j z hz
    have s0 := hm.soft (j * 2) (by omega)
    have s1 := hm.soft (j * 2 + 1) (by omega)
    have hm2 := hm.set j hj ⟨0, none, 0, 0, []⟩ (Ints.nilSlice _) (.inl rfl)
    have hgb := hm.base
    have c1' : (w1.setCell ⟨g, j * 2, none⟩ (.int .i64 0)).cell? ⟨g, j * 2 + 1, none⟩ = some (.slice z.a z.n z.c) := by rw [World.cell?_setCell_other _ _ _ _ (by simp)]; exact c1
    have b2 : Below w.heap.size w ((w1.setCell ⟨g, j * 2, none⟩ (.int .i64 0)).setCell ⟨g, j * 2 + 1, none⟩ (.slice none 0 0)) := hb1.trans (((But.of_set c0 _).trans (But.of_set c1' _)).low.mono hgb)
    clear hp hq hz hat
    go_wp2
    go_ret2
    rw [HF.out]
    exact ⟨⟨_, 4, 4, _, rfl, hm2.zs, ⟨fun x e => by cases e; exact hgb, HN.out.set j (u := ⟨0, none, 0, 0, []⟩) (fun x e => by cases e)⟩, by rw [set_p, HQ.out]; rfl⟩, b2⟩

set_option maxHeartbeats 2000000 in
theorem YClose_f (a : Option Addr) (n c : Nat) (Z : List ZV) (k : Int) (w : World) (h : Zones w a n c Z) :
    Calls Tryd.prog 91 #[.slice a n c, .int .i64 k] w fun e w' => (∃ a' n' c' Z', e = .returned (.tuple #[.slice a' n' c', .int .i64 (closeP (Z.map ZV.p) k).2]) ∧ Zones w' a' n' c' Z' ∧ NewZ w.heap.size a' Z' ∧ Z'.map ZV.p = (closeP (Z.map ZV.p) k).1) ∧ Below w.heap.size w w' := by
  go_enter Tryd.func91, Tryd.ntmps91
  go_wp2_with fail
  refine (begin_c a n c Z k _ h).mono ?_
  rintro e w1 ⟨⟨hp, rfl⟩ | ⟨hp, g, Z', rfl, hm, hq, hnl⟩, hb1⟩
  · have hx : (pre (Z.map ZV.p) k != 0) = true := by simpa using hp
    have HF := hide (show closeP (Z.map ZV.p) k = ([], pre (Z.map ZV.p) k) by simp [closeP, hp])
    clear hp
    generalize pre (Z.map ZV.p) k = x at *
    go_wp2
    go_ret2
    rw [HF.out]
    exact ⟨⟨none, 0, 0, [], rfl, zs_nil _, NewZ.nil _, rfl⟩, hb1⟩
  · obtain ⟨j, z, rfl, hj, hz, hat⟩ := pre_k h hp hq
    have HN := hide hnl
    have HZN := hide (hnl.at hz)
    clear hnl
    have HQ := hide hq
    have hj' : (j : Int) < 4 := by omega
    have i0 : Ints (w1.alloc (.cells #[.int .i64 1, .int .i64 2] 3)) (some ⟨w1.heap.size, 0, none⟩) 2 2 [1, 2] := Ints.of_row (l := [1, 2]) (heap_new w1 _) (by decide) (by decide) rfl
    have HH := hide (And.intro hp hat)
    have HZ := hide hz
    clear hp hq hz hat
    obtain ⟨c0, c1⟩ := hm.cells j z HZ.out
    have s0 := hm.soft (j * 2) (by omega)
    go_wp2_with fail
    go_region_held3 (fun w' => w'.cell? ⟨g, j * 2, none⟩ = some (.int .i64 z.s) ∧ w'.cell? ⟨g, j * 2 + 1, none⟩ = some (.slice z.a z.n z.c)) ((first | (go_simp; done) | (simp [*, World.cell?_alloc_at, World.cell?_alloc_past, World.cell?_alloc_some, World.cell?_setCell_far]; done)))
      (first | (go_at_call 68; refine (yin_c _ 2 2 _).mono ?_; rintro e w2 ⟨rfl, rfl⟩) | (go_at_call 77; refine (yin1_c z.s z.a z.n z.c _ (some ⟨w1.heap.size, 0, none⟩) 2 2 [1, 2] _ (by (first | (go_simp; done) | (simp [*, World.cell?_alloc_at, World.cell?_alloc_past, World.cell?_alloc_some, World.cell?_setCell_far]; done))) (by refine Ints.below i0 (B := (w1.alloc (.cells #[.int .i64 1, .int .i64 2] 3)).heap.size) ?_ (Nat.le_refl _); (repeat first | exact bel0 | assumption | refine bel1 ?_ | refine bel2 ?_ | refine bel3 ?_ | refine belowT ?_ (by assumption) | refine bel5 ?_ (by simp; try omega)))).mono ?_; rintro e w9 ⟨rfl, hb9⟩; (have f0 := keepc hb9 (p := ⟨g, j * 2, none⟩) (u := .int .i64 z.s) (by (first | (go_simp; done) | (simp [*, World.cell?_alloc_at, World.cell?_alloc_past, World.cell?_alloc_some, World.cell?_setCell_far]; done)))); (have f1 := keepc hb9 (p := ⟨g, j * 2 + 1, none⟩) (u := .slice z.a z.n z.c) (by (first | (go_simp; done) | (simp [*, World.cell?_alloc_at, World.cell?_alloc_past, World.cell?_alloc_some, World.cell?_setCell_far]; done))))))
    have b19 : Below w1.heap.size w1 w9 := by (repeat first | exact bel0 | assumption | refine bel1 ?_ | refine bel2 ?_ | refine bel3 ?_ | refine belowT ?_ (by assumption) | refine bel5 ?_ (by simp; try omega))
    have t0 := keepf b19 c0 s0
    have hm9 := hm.below b19
    have iz := hm9.zs.ok z (List.mem_of_getElem? HZ.out)
    have zl := hide iz.len
    have zm := iz.max
    have zc := iz.le
    clear hb9 i0 iz
    rw [has_O]
    cases hs : isO z.s
    · have HF := hide (show closeP (Z.map ZV.p) j = ([], 6) by simp [closeP, HH.out.1, HH.out.2, show isO z.p.1 = false from hs])
      clear hs
      go_wp2
      go_ret2
      rw [HF.out]
      exact ⟨⟨none, 0, 0, [], rfl, zs_nil _, NewZ.nil _, rfl⟩, belowT hb1 b19⟩
    · have HF := hide (show closeP (Z.map ZV.p) j = ((Z.map ZV.p).set j (shutP z.p), 0) by simp [closeP, HH.out.1, HH.out.2, show isO z.p.1 = true from hs])
      clear hs
      go_wp2_with fail
      refine (shut_c g (j * 2) z _ f0 f1 t0 zl.out (by omega)).mono ?_
      rintro e w4 ⟨⟨v, rfl⟩, hp⟩
      have hm4 := hm9.put HZ.out hp
      have b4 : Below w.heap.size w w4 := (belowT hb1 b19).trans ((But.of_put hp).low.mono hm.base)
      clear hp
      go_wp2
      go_ret2
      rw [HF.out]
      exact ⟨⟨_, 4, 4, _, rfl, hm4.zs, ⟨fun x e => by cases e; exact hm.base, HN.out.set j (u := z.to (shutS z.l)) HZN.out⟩, by rw [set_to_p, HQ.out, shutS_p]⟩, b4⟩

set_option maxHeartbeats 2000000 in
theorem YHold_f (a : Option Addr) (n c : Nat) (Z : List ZV) (k : Int) (w : World) (h : Zones w a n c Z) :
    Calls Tryd.prog 90 #[.slice a n c, .int .i64 k] w fun e w' => (∃ a' n' c' Z', e = .returned (.tuple #[.slice a' n' c', .int .i64 (holdP (Z.map ZV.p) k).2]) ∧ Zones w' a' n' c' Z' ∧ NewZ w.heap.size a' Z' ∧ Z'.map ZV.p = (holdP (Z.map ZV.p) k).1) ∧ Below w.heap.size w w' := by
  go_enter Tryd.func90, Tryd.ntmps90
  go_wp2_with fail
  refine (begin_c a n c Z k _ h).mono ?_
  rintro e w1 ⟨⟨hp, rfl⟩ | ⟨hp, g, Z', rfl, hm, hq, hnl⟩, hb1⟩
  · have hx : (pre (Z.map ZV.p) k != 0) = true := by simpa using hp
    have HF := hide (show holdP (Z.map ZV.p) k = ([], pre (Z.map ZV.p) k) by simp [holdP, hp])
    clear hp
    generalize pre (Z.map ZV.p) k = x at *
    go_wp2
    go_ret2
    rw [HF.out]
    exact ⟨⟨none, 0, 0, [], rfl, zs_nil _, NewZ.nil _, rfl⟩, hb1⟩
  · obtain ⟨j, z, rfl, hj, hz, hat⟩ := pre_k h hp hq
    have HN := hide hnl
    have HZN := hide (hnl.at hz)
    clear hnl
    have HQ := hide hq
    have hj' : (j : Int) < 4 := by omega
    have HH := hide (And.intro hp hat)
    clear hp hq hat
    go_wp2_with fail
    refine (makeRoom_c w.heap.size g 4 Z' j z _ hm hj hz).mono ?_
    rintro e w2 ⟨⟨hr, rfl⟩ | ⟨Q, u, hr, rfl, hm2, hu, hul, hnq⟩, hb2⟩
    · rw [HQ.out] at hr
      have e1 : (at' (Z.map ZV.p) j).1 = z.s := by rw [HH.out.2]; rfl
      have HF := hide (show holdP (Z.map ZV.p) j = ([], 7) by simp [holdP, HH.out.1, e1, hr])
      clear e1
      have b2 : Below w.heap.size w w2 := hb1.trans (hb2.low.mono hm.base)
      clear hr hz
      go_wp2
      go_ret2
      rw [HF.out]
      exact ⟨⟨none, 0, 0, [], rfl, zs_nil _, NewZ.nil _, rfl⟩, b2⟩
    · rw [HQ.out] at hr
      have e1 : (at' (Z.map ZV.p) j).1 = z.s := by rw [HH.out.2]; rfl
      have e2 : (at' (Z.map ZV.p) j).2 = u.l := by rw [HH.out.2, hul]; rfl
      have HF := hide (show holdP (Z.map ZV.p) j = ((Q.map ZV.p).set j (2, u.l), 0) by simp [holdP, HH.out.1, e1, e2, hr])
      clear e1 e2
      obtain ⟨c0, c1⟩ := hm2.cells j u hu
      have s0 := hm2.soft (j * 2) (by omega)
      have HNQ := hide (hnq _ HN.out)
      have HUN := hide ((hnq _ HN.out).at hu)
      clear hnq
      have hm3 := hm2.put hu ((Put.refl c0).set (.int .i64 2))
      have b3 : Below w.heap.size w (w2.setCell ⟨g, j * 2, none⟩ (.int .i64 2)) := hb1.trans ((hb2.trans (But.of_set c0 _)).low.mono hm.base)
      clear hr hz hu hul
      go_wp2
      go_ret2
      rw [HF.out]
      exact ⟨⟨_, 4, 4, _, rfl, hm3.zs, ⟨fun x e => by cases e; exact hm.base, HNQ.out.set j (u := u.to 2) HUN.out⟩, set_to_p _ _ _ _⟩, b3⟩

set_option maxHeartbeats 2000000 in
theorem YWrite_f (a : Option Addr) (n c : Nat) (Z : List ZV) (k : Int) (bd : Option Addr) (m d : Nat) (data : List Int) (w : World) (h : Zones w a n c Z) (hd : Ints w bd m d data) :
    Calls Tryd.prog 74 #[.slice a n c, .int .i64 k, .slice bd m d] w fun e w' => (∃ a' n' c' Z', e = .returned (.tuple #[.slice a' n' c', .int .i64 (writeP (Z.map ZV.p) k data).2.1, .int .i64 (writeP (Z.map ZV.p) k data).2.2]) ∧ Zones w' a' n' c' Z' ∧ NewZ w.heap.size a' Z' ∧ Z'.map ZV.p = (writeP (Z.map ZV.p) k data).1) ∧ Below w.heap.size w w' := by
  go_enter Tryd.func74, Tryd.ntmps74
  go_wp2_with fail
  refine (begin_c a n c Z k _ h).mono ?_
  rintro e w1 ⟨⟨hp, rfl⟩ | ⟨hp, g, Z', rfl, hm, hq, hnl⟩, hb1⟩
  · have hx : (pre (Z.map ZV.p) k != 0) = true := by simpa using hp
    have HF := hide (show writeP (Z.map ZV.p) k data = ([], 0, pre (Z.map ZV.p) k) by simp [writeP, hp])
    clear hp
    generalize pre (Z.map ZV.p) k = x at *
    go_wp2
    go_ret3
    rw [HF.out]
    exact ⟨⟨none, 0, 0, [], rfl, zs_nil _, NewZ.nil _, rfl⟩, hb1⟩
  · obtain ⟨j, z, rfl, hj, hz, hat⟩ := pre_k h hp hq
    have HN := hide hnl
    have HZN := hide (hnl.at hz)
    clear hnl
    have HQ := hide hq
    have hj' : (j : Int) < 4 := by omega
    have HH := hide (And.intro hp hat)
    have iz := hm.zs.ok z (List.mem_of_getElem? hz)
    obtain ⟨c0, c1⟩ := hm.cells j z hz
    have d1 := hd.below hb1 (Nat.le_refl _)
    clear hp hq hat
    go_wp2_with fail
    refine (Write_u z.s z.a z.n z.c z.l bd m d data _ iz d1).mono ?_
    rintro e w2 ⟨⟨a3, n3, c3, rfl, i3, hfr⟩, hb2⟩
    by_cases hwe : writeE z.s z.l data = 0
    · have HWE := hide hwe
      rw [hwe]
      replace hm := hm.below hb2
      have bw2 := belowT hb1 hb2
      have HFB := hide (show ∀ x, a3 = some x → w.heap.size ≤ x.block from fun x e => by have := hfr x e; have := hb1.size; omega)
      have HFR := hide (show ∀ x, a3 = some x → x.block ≠ g from fun x e => by have := hfr x e; have := World.block_lt_of_cell? _ _ c0; simp at this; omega)
      generalize hws : wS z.s z.l data = sg at *
      have HWS := hide hws
      clear hwe hws hb1 hb2 iz d1 c0 c1 hfr
      go_wp2_with fail
      have bn : Below w2.heap.size w2 (w2.alloc (.cells #[.int .i64 sg, .slice a3 n3 c3] 61)) := by (repeat first | exact bel0 | assumption | refine bel1 ?_ | refine bel2 ?_ | refine bel3 ?_ | refine belowT ?_ (by assumption) | refine bel5 ?_ (by simp; try omega))
      have x0 : (w2.alloc (.cells #[.int .i64 sg, .slice a3 n3 c3] 61)).cell? ⟨w2.heap.size, 0, none⟩ = some (.int .i64 sg) := by go_simp
      have x1 : (w2.alloc (.cells #[.int .i64 sg, .slice a3 n3 c3] 61)).cell? ⟨w2.heap.size, 1, none⟩ = some (.slice a3 n3 c3) := by go_simp
      have hgl := hm.lt
      have hgb := hm.base
      have hgne : w2.heap.size ≠ g := by omega
      replace hm := hm.below bn
      replace i3 := i3.below bn (Nat.le_refl _)
      replace bw2 := belowT bw2 bn
      refine (makeRoom_c w.heap.size g 4 Z' j z _ hm hj hz).mono ?_
      generalize w2.alloc (.cells #[.int .i64 sg, .slice a3 n3 c3] 61) = wx at *
      rintro e w4 ⟨⟨hr, rfl⟩ | ⟨Q, u, hr, rfl, hm2, hu, hul, hnq⟩, hb4⟩
      · rw [HQ.out] at hr
        have e1 : (at' (Z.map ZV.p) j).1 = z.s := by rw [HH.out.2]; rfl
        have e2 : writeE (at' (Z.map ZV.p) j).1 (at' (Z.map ZV.p) j).2 data = 0 := by rw [HH.out.2]; exact HWE.out
        have HF := hide (show writeP (Z.map ZV.p) j data = ([], 0, 7) by simp only [writeP, HH.out.1, e2]; simp [e1, hr])
        have b4 : Below w.heap.size w w4 := bw2.trans (hb4.low.mono hgb)
        clear hr hz e1 e2
        go_wp2
        go_ret3
        rw [HF.out]
        exact ⟨⟨none, 0, 0, [], rfl, zs_nil _, NewZ.nil _, rfl⟩, b4⟩
      · rw [HQ.out] at hr
        have e1 : (at' (Z.map ZV.p) j).1 = z.s := by rw [HH.out.2]; rfl
        have e2 : writeE (at' (Z.map ZV.p) j).1 (at' (Z.map ZV.p) j).2 data = 0 := by rw [HH.out.2]; exact HWE.out
        have e3 : (at' (Z.map ZV.p) j) = (z.s, z.l) := by rw [HH.out.2]; rfl
        have HF := hide (show writeP (Z.map ZV.p) j data = ((Q.map ZV.p).set j (sg, wL z.s z.l data), (u.n : Int), 0) by
          simp only [writeP, HH.out.1, e2]
          have el : u.l.length = u.n := (hm2.zs.ok u (List.mem_of_getElem? hu)).len
          rw [← HWS.out]
          simp [e3, hr, ← hul, el])
        obtain ⟨c0, c1⟩ := hm2.cells j u hu
        have s0 := hm2.soft (j * 2) (by omega)
        have s1 := hm2.soft (j * 2 + 1) (by omega)
        have i4 := i3.but hb4 (.inr HFR.out)
        replace x0 := keepb hb4 x0 hgne
        replace x1 := keepb hb4 x1 hgne
        have HNQ := hide (hnq _ HN.out)
        clear hnq
        have hm3 := hm2.set j hj ⟨sg, a3, n3, c3, wL z.s z.l data⟩ i4 (.inr HFR.out)
        have c1' : (w4.setCell ⟨g, j * 2, none⟩ (.int .i64 sg)).cell? ⟨g, j * 2 + 1, none⟩ = some (.slice u.a u.n u.c) := by rw [World.cell?_setCell_other _ _ _ _ (by simp)]; exact c1
        have b5 : Below w.heap.size w ((w4.setCell ⟨g, j * 2, none⟩ (.int .i64 sg)).setCell ⟨g, j * 2 + 1, none⟩ (.slice a3 n3 c3)) := bw2.trans ((hb4.trans ((But.of_set c0 _).trans (But.of_set c1' _))).low.mono hgb)
        have ul := (hm2.zs.ok u (List.mem_of_getElem? hu)).le
        have um := (hm2.zs.ok u (List.mem_of_getElem? hu)).max
        clear hr hz hu hul e1 e2 e3 c1' i3 i4
        go_wp2
        go_ret3
        rw [HF.out]
        exact ⟨⟨_, 4, 4, _, rfl, hm3.zs, ⟨fun x e => by cases e; exact hgb, HNQ.out.set j (u := ⟨sg, a3, n3, c3, wL z.s z.l data⟩) HFB.out⟩, set_p _ _ _⟩, b5⟩
    · have hx : (writeE z.s z.l data != 0) = true := by simpa using hwe
      have HF := hide (show writeP (Z.map ZV.p) j data = ([], 0, writeE z.s z.l data) by simp [writeP, HH.out.1, HH.out.2, ZV.p, hwe])
      clear hwe hz
      generalize writeE z.s z.l data = x at *
      go_wp2
      go_ret3
      rw [HF.out]
      exact ⟨⟨none, 0, 0, [], rfl, zs_nil _, NewZ.nil _, rfl⟩, by (repeat first | exact bel0 | assumption | refine bel1 ?_ | refine bel2 ?_ | refine bel3 ?_ | refine belowT ?_ (by assumption) | refine bel5 ?_ (by simp; try omega))⟩

end Go.Proofs.YtcmladgldjcdmaaDoor

/- The contracts of book's questions: within, agrees, Check, Same, checkHand, checkRegistered; no condition but that the keys read as a list. -/
namespace Go.Proofs.YtcmladgldjcdmaaDoor
open Go.RowKit
set_option linter.unusedVariables false
set_option maxRecDepth 100000
set_option linter.unusedSimpArgs false

theorem bwithin_c (n a b : Int) (w : World) : Calls Tryd.prog 51 #[.int .i64 n, .int .i64 a, .int .i64 b] w fun e w' => e = .returned (.bool (inB n a b)) ∧ w' = w := by
  go_enter Tryd.func51, Tryd.ntmps51
  go_wp2
  all_goals (go_ret; exact ⟨ret_bool (by unfold inB; rw [Bool.eq_iff_iff]; simp; try omega), rfl⟩)

/-- Do holder, type and key belong together? -/
def agreesB (b : PB) : Bool := if b.h = -1 then decide (b.t = 0) else decide (b.t ≠ 0) && decide (keyOf b b.h ≠ 0)

set_option maxHeartbeats 1000000 in
theorem agrees_c (a : Option Addr) (c : Nat) (x y z hh tt : Int) (w : World) (h : Ints w a 3 c [x, y, z]) (h2 : inB hh (-1) 2 = true) :
    Calls Tryd.prog 52 #[bookV a 3 c ⟨[x, y, z], hh, tt⟩] w fun e w' => e = .returned (.bool (agreesB ⟨[x, y, z], hh, tt⟩)) ∧ Below w.heap.size w w' := by
  unfold bookV
  obtain ⟨g, off, rfl, e0, e1, e2⟩ := h.three
  replace e0 := past1 e0
  replace e1 := past1 e1
  replace e2 := past1 e2
  have hv : hh = -1 ∨ hh = 0 ∨ hh = 1 ∨ hh = 2 := by simp [inB] at h2; omega
  clear h2
  rcases hv with rfl | rfl | rfl | rfl
  all_goals
    cases ht : tt == 0
    all_goals
      go_enter Tryd.func52, Tryd.ntmps52
      go_wp2
      all_goals
        go_ret
        refine ⟨ret_bool ?_, by (repeat first | exact bel0 | assumption | refine bel1 ?_ | refine bel2 ?_ | refine bel3 ?_ | refine belowT ?_ (by assumption) | refine bel5 ?_ (by simp; try omega))⟩
        simp at ht
        rw [Bool.eq_iff_iff]
        simp_all [agreesB, keyOf]

theorem checkB_agrees {b : PB} (h : b.k.length = 3) (h2 : ¬ (b.k.any (outB 0 9) = true ∨ outB (-1) 2 b.h = true ∨ outB 0 4 b.t = true)) : checkB b = if agreesB b = true then 0 else 4 := by
  by_cases h3 : b.h = -1 ∧ b.t ≠ 0 ∨ b.h ≠ -1 ∧ (b.t = 0 ∨ keyOf b b.h = 0)
  · rw [checkB_4 h h2 h3, if_neg]
    unfold agreesB
    rcases h3 with ⟨h3, h4⟩ | ⟨h3, h4⟩
    · simp [h3, h4]
    · rw [if_neg h3]
      rcases h4 with h4 | h4 <;> simp [h4]
  · rw [checkB_0 h h2 h3, if_pos]
    unfold agreesB
    by_cases h4 : b.h = -1
    · simp [h4] at h3 ⊢
      exact h3
    · simp [h4] at h3 ⊢
      exact h3

set_option maxHeartbeats 2000000 in
theorem BCheck_three (g off c : Nat) (l : List Int) (hh tt : Int) (w : World) (h : Ints w (some ⟨g, off, none⟩) 3 c l) (hr : ∀ i, i < 3 → w.cell? ⟨g, off + i, none⟩ = some (.int .i64 (l.getD i 0))) :
    Calls Tryd.prog 36 #[bookV (some ⟨g, off, none⟩) 3 c ⟨l, hh, tt⟩] w fun e w' => e = .returned (.int .i64 (checkB ⟨l, hh, tt⟩)) ∧ Below w.heap.size w w' := by
  have hlen := hide h.len
  unfold bookV
  go_enter Tryd.func36, Tryd.ntmps36
  go_wp2
  go_loop [12] (fun i => ∃ k : Nat, k ≤ 3 ∧ i = .int .i64 k ∧ (l.take k).any (outB 0 9) = false) (fun i => 3 - (intOf i).toNat)
  case atStart => exact ⟨0, by omega, rfl, by simp⟩
  case round =>
    obtain ⟨k, hk, rfl, ht⟩ := hrel
    by_cases hlt : k < 3
    · have hi := past1 (hr k hlt)
      have hlt' : (k : Int) < 3 := by omega
      have HT := hide ht
      clear ht hr
      generalize hy : l.getD k 0 = y at hi
      have HY := hide hy
      clear hy
      go_wp2_with (go_at_call 51; refine (bwithin_c _ _ _ _).mono ?_; rintro e w' ⟨rfl, rfl⟩)
      · rename_i hxy
        go_ret
        exact ⟨ret_int (checkB_3 (b := ⟨l, hh, tt⟩) hlen.out (.inl (any_of_getD _ l k (by rw [hlen.out]; omega) (by rw [HY.out]; simpa [inB_outB] using hxy)))).symm, by (repeat first | exact bel0 | assumption | refine bel1 ?_ | refine bel2 ?_ | refine bel3 ?_ | refine belowT ?_ (by assumption) | refine bel5 ?_ (by simp; try omega))⟩
      · rename_i hxy
        exact ⟨⟨k + 1, by omega, by go_num, any_take_step _ l k (by rw [hlen.out]; omega) HT.out (by rw [HY.out]; simpa [inB_outB] using hxy)⟩, by simp [intOf]; omega⟩
    · obtain rfl : k = 3 := by omega
      rw [List.take_of_length_le (by rw [hlen.out]; omega)] at ht
      have HT := hide ht
      obtain ⟨x, y, z, rfl⟩ := three hlen.out
      clear ht hr
      cases hin1 : inB hh (-1) 2
      · have HI := hide hin1
        clear hin1
        go_wp2_with (go_at_call 51; refine (bwithin_c _ _ _ _).mono ?_; rintro e w' ⟨rfl, rfl⟩; rw [HI.out])
        go_ret
        exact ⟨ret_int (checkB_3 (b := ⟨[x, y, z], hh, tt⟩) rfl (.inr (.inl (by have := HI.out; rw [inB_outB] at this; simpa using this)))).symm, by (repeat first | exact bel0 | assumption | refine bel1 ?_ | refine bel2 ?_ | refine bel3 ?_ | refine belowT ?_ (by assumption) | refine bel5 ?_ (by simp; try omega))⟩
      · have HI := hide hin1
        cases hin2 : inB tt 0 4
        · have HJ := hide hin2
          clear hin1 hin2
          go_wp2_with (go_at_call 51; refine (bwithin_c _ _ _ _).mono ?_; rintro e w' ⟨rfl, rfl⟩; first | rw [HI.out] | rw [HJ.out])
          go_ret
          exact ⟨ret_int (checkB_3 (b := ⟨[x, y, z], hh, tt⟩) rfl (.inr (.inr (by have := HJ.out; rw [inB_outB] at this; simpa using this)))).symm, by (repeat first | exact bel0 | assumption | refine bel1 ?_ | refine bel2 ?_ | refine bel3 ?_ | refine belowT ?_ (by assumption) | refine bel5 ?_ (by simp; try omega))⟩
        · have HJ := hide hin2
          have HC := hide (checkB_agrees (b := ⟨[x, y, z], hh, tt⟩) rfl (by
            rw [inB_outB] at hin1 hin2
            simp at hin1 hin2
            rw [HT.out]
            simp [hin1, hin2]))
          clear hin1 hin2
          go_wp2_with (first | (go_at_call 51; refine (bwithin_c _ _ _ _).mono ?_; rintro e w' ⟨rfl, rfl⟩; first | rw [HI.out] | rw [HJ.out]) | (go_at_call 52; refine (agrees_c _ c x y z hh tt _ (by refine h.below (B := w.heap.size) ?_ (Nat.le_refl _); (repeat first | exact bel0 | assumption | refine bel1 ?_ | refine bel2 ?_ | refine bel3 ?_ | refine belowT ?_ (by assumption) | refine bel5 ?_ (by simp; try omega))) HI.out).mono ?_; rintro e w1 ⟨rfl, hb1⟩))
          all_goals
            rename_i hag
            go_ret
            rw [HC.out]
            exact ⟨ret_int (by simp at hag; simp [hag]), by (repeat first | exact bel0 | assumption | refine bel1 ?_ | refine bel2 ?_ | refine bel3 ?_ | refine belowT ?_ (by assumption) | refine bel5 ?_ (by simp; try omega))⟩

theorem BCheck_c (a : Option Addr) (n c : Nat) (b : PB) (w : World) (h : Ints w a n c b.k) :
    Calls Tryd.prog 36 #[bookV a n c b] w fun e w' => e = .returned (.int .i64 (checkB b)) ∧ Below w.heap.size w w' := by
  obtain ⟨l, hh, tt⟩ := b
  dsimp only at h
  have hlen := h.len
  have hmax := h.max
  have hle := h.le
  by_cases h3 : n = 3
  · subst h3
    rcases h.row with h0 | ⟨g, off, rfl, _, hr⟩
    · omega
    · exact BCheck_three g off c l hh tt w h hr
  · have hne : ((n : Int) != 3) = true := by simp; omega
    have HC := hide (checkB_len (b := ⟨l, hh, tt⟩) (by simp only [hlen]; exact h3))
    unfold bookV
    go_enter Tryd.func36, Tryd.ntmps36
    go_wp2
    go_ret
    exact ⟨ret_int HC.out.symm, by (repeat first | exact bel0 | assumption | refine bel1 ?_ | refine bel2 ?_ | refine bel3 ?_ | refine belowT ?_ (by assumption) | refine bel5 ?_ (by simp; try omega))⟩

theorem BSame_c (a1 a2 : Option Addr) (n1 n2 c1 c2 : Nat) (b1 b2 : PB) (w : World) (h1 : Ints w a1 n1 c1 b1.k) (h2 : Ints w a2 n2 c2 b2.k) :
    Calls Tryd.prog 34 #[bookV a1 n1 c1 b1, bookV a2 n2 c2 b2] w fun e w' => e = .returned (.bool (sameB b1 b2)) ∧ Below w.heap.size w w' := by
  unfold bookV
  go_enter Tryd.func34, Tryd.ntmps34
  go_wp2_with fail
  refine (Equal_c a1 a2 n1 n2 c1 c2 b1.k b2.k _ (h1.below (B := w.heap.size) (by (repeat first | exact bel0 | assumption | refine bel1 ?_ | refine bel2 ?_ | refine bel3 ?_ | refine belowT ?_ (by assumption) | refine bel5 ?_ (by simp; try omega))) (Nat.le_refl _)) (h2.below (B := w.heap.size) (by (repeat first | exact bel0 | assumption | refine bel1 ?_ | refine bel2 ?_ | refine bel3 ?_ | refine belowT ?_ (by assumption) | refine bel5 ?_ (by simp; try omega))) (Nat.le_refl _))).mono ?_
  rintro e w1 ⟨rfl, q, rfl⟩
  obtain ⟨k1, x, r⟩ := b1
  obtain ⟨k2, y, s⟩ := b2
  dsimp only at *
  by_cases hk : k1 = k2
  · rw [decide_eq_true hk]
    have HK := hide hk
    clear hk
    cases hx : x == y
    · go_wp2
      go_ret
      exact ⟨ret_bool (by simp at hx; simp [sameB, hx]), by (repeat first | exact bel0 | assumption | refine bel1 ?_ | refine bel2 ?_ | refine bel3 ?_ | refine belowT ?_ (by assumption) | refine bel5 ?_ (by simp; try omega))⟩
    · go_wp2
      go_ret
      exact ⟨ret_bool (by simp at hx; rw [Bool.eq_iff_iff]; simp [sameB, HK.out, hx]), by (repeat first | exact bel0 | assumption | refine bel1 ?_ | refine bel2 ?_ | refine bel3 ?_ | refine belowT ?_ (by assumption) | refine bel5 ?_ (by simp; try omega))⟩
  · rw [decide_eq_false hk]
    have HK := hide hk
    clear hk
    go_wp2
    go_ret
    exact ⟨ret_bool (by simp [sameB, HK.out]), by (repeat first | exact bel0 | assumption | refine bel1 ?_ | refine bel2 ?_ | refine bel3 ?_ | refine belowT ?_ (by assumption) | refine bel5 ?_ (by simp; try omega))⟩

theorem checkHand_c (a : Option Addr) (n c : Nat) (b : PB) (who : Int) (w : World) (h : Ints w a n c b.k) :
    Calls Tryd.prog 84 #[bookV a n c b, .int .i64 who] w fun e w' => e = .returned (.int .i64 (preB b who)) ∧ Below w.heap.size w w' := by
  have hq : preB b who = if checkB b ≠ 0 then checkB b else if inB who 0 2 then 0 else 5 := rfl
  have HP := hide hq
  clear hq
  unfold bookV
  go_enter Tryd.func84, Tryd.ntmps84
  go_wp2_with fail
  refine (BCheck_c a n c b _ (h.below (B := w.heap.size) (by (repeat first | exact bel0 | assumption | refine bel1 ?_ | refine bel2 ?_ | refine bel3 ?_ | refine belowT ?_ (by assumption) | refine bel5 ?_ (by simp; try omega))) (Nat.le_refl _))).mono ?_
  rintro e w1 ⟨rfl, hb1⟩
  generalize hy : checkB b = x at *
  clear hy
  go_wp2_with (go_at_call 51; refine (bwithin_c _ _ _ _).mono ?_; rintro e w' ⟨rfl, rfl⟩)
  all_goals
    go_ret
    refine ⟨ret_int ?_, by (repeat first | exact bel0 | assumption | refine bel1 ?_ | refine bel2 ?_ | refine bel3 ?_ | refine belowT ?_ (by assumption) | refine bel5 ?_ (by simp; try omega))⟩
    rw [HP.out]
    simp_all

def regE (b : PB) (who : Int) : Int := if preB b who ≠ 0 then preB b who else if keyOf b who = 0 then 8 else 0

theorem preB_ok {b : PB} {who : Int} (h : preB b who = 0) : checkB b = 0 ∧ (who = 0 ∨ who = 1 ∨ who = 2) := by
  unfold preB at h
  split at h
  · exact absurd h ‹_›
  · rename_i h1
    refine ⟨Decidable.not_not.1 h1, ?_⟩
    split at h
    · rename_i h2
      simp [inB] at h2
      omega
    · omega

/-- The key of a hand that is there, in its cell. -/
theorem key_cell {w : World} {a : Option Addr} {n c : Nat} {b : PB} {who : Int} (h : Ints w a n c b.k) (hp : preB b who = 0) :
    n = 3 ∧ ∃ g off, a = some ⟨g, off, none⟩ ∧ w.cell? ⟨g, off + who.toNat, none⟩ = some (.int .i64 (keyOf b who)) := by
  obtain ⟨hc, hw⟩ := preB_ok hp
  obtain ⟨x, y, z, hk, _⟩ := checkB_ok hc
  obtain ⟨l, hh, tt⟩ := b
  dsimp only at hk h
  subst hk
  obtain rfl : n = 3 := h.len.symm
  obtain ⟨g, off, rfl, e0, e1, e2⟩ := h.three
  refine ⟨rfl, g, off, rfl, ?_⟩
  rcases hw with rfl | rfl | rfl
  · simpa [keyOf] using e0
  · simpa [keyOf] using e1
  · simpa [keyOf] using e2

theorem checkRegistered_c (a : Option Addr) (n c : Nat) (b : PB) (who : Int) (w : World) (h : Ints w a n c b.k) :
    Calls Tryd.prog 96 #[bookV a n c b, .int .i64 who] w fun e w' => e = .returned (.int .i64 (regE b who)) ∧ Below w.heap.size w w' := by
  have hq : regE b who = if preB b who ≠ 0 then preB b who else if keyOf b who = 0 then 8 else 0 := rfl
  have HP := hide hq
  clear hq
  by_cases hp : preB b who = 0
  · obtain ⟨rfl, g, off, rfl, hk⟩ := key_cell h hp
    have hw := (preB_ok hp).2
    replace hk := past1 hk
    generalize keyOf b who = x at *
    have HQ := hide hp
    clear hp
    unfold bookV
    rcases hw with rfl | rfl | rfl
    all_goals
      simp only [Int.toNat_zero, Int.toNat_one, Int.reduceToNat, Nat.add_zero] at hk
      go_enter Tryd.func96, Tryd.ntmps96
      go_wp2_with fail
      refine (checkHand_c _ 3 c b _ _ (h.below (B := w.heap.size) (by (repeat first | exact bel0 | assumption | refine bel1 ?_ | refine bel2 ?_ | refine bel3 ?_ | refine belowT ?_ (by assumption) | refine bel5 ?_ (by simp; try omega))) (Nat.le_refl _))).mono ?_
      rintro e w1 ⟨rfl, hb1⟩
      have hk1 := keepc hb1 (hk _)
      have x0 := keepc hb1 (p := ⟨w.heap.size, 0, none⟩) (u := .slice (some ⟨g, off, none⟩) 3 c) (by (first | (go_simp; done) | (simp [*, World.cell?_alloc_at, World.cell?_alloc_past, World.cell?_alloc_some, World.cell?_setCell_far]; done)))
      rw [HQ.out]
      go_wp2
      all_goals
        go_ret
        refine ⟨ret_int ?_, by (repeat first | exact bel0 | assumption | refine bel1 ?_ | refine bel2 ?_ | refine bel3 ?_ | refine belowT ?_ (by assumption) | refine bel5 ?_ (by simp; try omega))⟩
        rw [HP.out, HQ.out]
        simp_all
  · have HQ := hide hp
    have hx : (preB b who != 0) = true := by simpa using hp
    clear hp
    unfold bookV
    go_enter Tryd.func96, Tryd.ntmps96
    go_wp2_with fail
    refine (checkHand_c _ n c b who _ (h.below (B := w.heap.size) (by (repeat first | exact bel0 | assumption | refine bel1 ?_ | refine bel2 ?_ | refine bel3 ?_ | refine belowT ?_ (by assumption) | refine bel5 ?_ (by simp; try omega))) (Nat.le_refl _))).mono ?_
    rintro e w1 ⟨rfl, hb1⟩
    generalize hy : preB b who = x at *
    clear hy
    go_wp2
    go_ret
    exact ⟨ret_int (by rw [HP.out, if_pos HQ.out]), by (repeat first | exact bel0 | assumption | refine bel1 ?_ | refine bel2 ?_ | refine bel3 ?_ | refine belowT ?_ (by assumption) | refine bel5 ?_ (by simp; try omega))⟩

end Go.Proofs.YtcmladgldjcdmaaDoor
