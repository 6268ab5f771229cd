/- The contract of the document's own OnZones at Append; no condition but that the slices read as zones and data. -/
import Derived.Test.YtaambknbbhjdnaaC7
import Derived.Test.YtaambknbbhjdnaaU1
namespace Go.Proofs.Ytaambknbbhjdnaa
open Go.RowKit
set_option linter.unusedVariables false
set_option maxRecDepth 100000
set_option linter.unusedSimpArgs false

set_option maxHeartbeats 8000000 in
theorem OnZ_append (b off c : Nat) (Z : List ZV) (k : Nat) (z : ZV) (bd : Option Addr) (m d : Nat) (data : List Int) (w : World) (h : Zones w (some ⟨b, off, none⟩) 4 c Z) (hd : Ints w bd m d data) (hok : checkZs (Z.map ZV.p) = 0) (hk : k < 4) (hz : Z[k]? = some z)
    (hr : ∀ i z, Z[i]? = some z → w.cell? ⟨b, off + i * 2, none⟩ = some (.int .i64 z.s) ∧ w.cell? ⟨b, off + i * 2 + 1, none⟩ = some (.slice z.a z.n z.c)) :
    Calls Try.prog 12 #[.slice (some ⟨b, off, none⟩) 4 c, .int .i64 5, .int .i64 k, .slice bd m d] w fun e w' =>
      ((writeE z.s z.l data ≠ 0 ∧ e = .returned (.tuple #[.slice none 0 0, .int .i64 0, .int .i64 (writeE z.s z.l data)])) ∨
       (writeE z.s z.l data = 0 ∧ roomZ Z z.s = none ∧ e = .returned (.tuple #[.slice none 0 0, .int .i64 0, .int .i64 7])) ∨
       (writeE z.s z.l data = 0 ∧ ∃ Z' g cap u, roomZ Z z.s = some Z' ∧ e = .returned (.tuple #[.slice (some ⟨g, 0, none⟩) 4 cap, .int .i64 z.l.length, .int .i64 0]) ∧ u.p = (wS z.s z.l data, wL z.s z.l data) ∧ Mine w' w.heap.size g 4 cap (Z'.set k u) ∧ ∀ x, u.a = some x → w.heap.size ≤ x.block)) ∧ Below w.heap.size w w' := by
  have HX := hide hok
  have hk' : (k : Int) < 4 := by omega
  have hin : inB (k : Int) 0 3 = true := by simp [inB]; omega
  clear hok
  go_enter Try.func12, Try.ntmps12
  go_wp2_with fail
  refine (CheckZones_c _ 4 c Z _ h).mono ?_
  rintro e w1 ⟨rfl, hb1⟩
  rw [HX.out]
  have hzok := (h.ok z (List.mem_of_getElem? hz)).below hb1 (Nat.le_refl _)
  have hzl := hide hzok.len
  obtain ⟨c0, c1⟩ := hr k z hz
  replace c0 := keepc hb1 c0
  replace c1 := keepc hb1 c1
  replace h := h.below hb1 (Nat.le_refl _)
  replace hd := hd.below hb1 (Nat.le_refl _)
  replace hr := fun i z hz => (⟨keepc hb1 (hr i z hz).1, keepc hb1 (hr i z hz).2⟩ : _ ∧ _)
  have HZ := hide hz
  clear hz
  have HR := hide hr
  clear hr
  go_wp2_with (first | (go_at_call 29; refine (in_c _ _ _ _).mono ?_; rintro e w1 ⟨rfl, rfl⟩))
  refine (WriteZone_u z.s z.a z.n z.c z.l bd m d data _ (Ints.below hzok (B := w1.heap.size) (by (repeat first | exact bel0 | assumption | refine bel1 ?_ | refine bel2 ?_ | refine bel3 ?_ | refine belowT ?_ (by assumption) | refine bel5 ?_ (by simp; try omega))) (Nat.le_refl _)) (hd.below (B := w1.heap.size) (by (repeat first | exact bel0 | assumption | refine bel1 ?_ | refine bel2 ?_ | refine bel3 ?_ | refine belowT ?_ (by assumption) | refine bel5 ?_ (by simp; try omega))) (Nat.le_refl _))).mono ?_
  rintro e w3 ⟨⟨a3, n3, c3, rfl, i3, hfr⟩, hb3⟩
  have b3 : Below w1.heap.size w1 w3 := by (repeat first | exact bel0 | assumption | refine bel1 ?_ | refine bel2 ?_ | refine bel3 ?_ | refine belowT ?_ (by assumption) | refine bel5 ?_ (by simp; try omega))
  have x0 := keepc hb3 (p := ⟨w1.heap.size, 0, none⟩) (u := .int .i64 z.s) (by go_simp)
  have x1 := keepc hb3 (p := ⟨w1.heap.size, 1, none⟩) (u := .slice z.a z.n z.c) (by go_simp)
  have f0 := keepf hb3 (p := ⟨w1.heap.size, 0, none⟩) (u := .int .i64 z.s) (by go_simp) (b := false) (by go_simp)
  have f1 := keepf hb3 (p := ⟨w1.heap.size, 1, none⟩) (u := .slice z.a z.n z.c) (by go_simp) (b := false) (by go_simp)
  clear hb3
  generalize hws : wS z.s z.l data = sg at *
  have HWS := hide hws
  clear hws
  by_cases hwe : writeE z.s z.l data = 0
  · have HWE := hide hwe
    rw [hwe]
    clear hwe
    have x0' := past1 x0
    have x1' := past1 x1
    have f0' := pastf1 x0 f0
    have f1' := pastf1 x1 f1
    have z1 : w1.heap.size < w3.heap.size := World.block_lt_of_cell? _ _ x0
    go_wp2_with fail
    simp at hfr
    have HFA := hide (show ∀ x, a3 = some x → w.heap.size ≤ x.block from fun x e => by have := hfr x e; have := hb1.size; omega)
    have hne : n3 = 0 ∨ ∀ x, a3 = some x → x.block ≠ w1.heap.size := .inr fun x e => by have := hfr x e; omega
    have i4 := (Ints.setCell' i3 ⟨w1.heap.size, 0, none⟩ (.int .i64 sg) hne).setCell' ⟨w1.heap.size, 1, none⟩ (.slice a3 n3 c3) hne
    have bx : Below w1.heap.size w1 ((w3.setCell ⟨w1.heap.size, 0, none⟩ (.int .i64 sg)).setCell ⟨w1.heap.size, 1, none⟩ (.slice a3 n3 c3)) := by (repeat first | exact bel0 | assumption | refine bel1 ?_ | refine bel2 ?_ | refine bel3 ?_ | refine belowT ?_ (by assumption) | refine bel5 ?_ (by simp; try omega))
    have y0 : ((w3.setCell ⟨w1.heap.size, 0, none⟩ (.int .i64 sg)).setCell ⟨w1.heap.size, 1, none⟩ (.slice a3 n3 c3)).cell? ⟨w1.heap.size, 0, none⟩ = some (.int .i64 sg) := by
      rw [World.cell?_setCell_other _ _ _ _ (by simp)]; exact World.cell?_setCell_same _ _ _ x0
    have y1 : ((w3.setCell ⟨w1.heap.size, 0, none⟩ (.int .i64 sg)).setCell ⟨w1.heap.size, 1, none⟩ (.slice a3 n3 c3)).cell? ⟨w1.heap.size, 1, none⟩ = some (.slice a3 n3 c3) := by
      exact World.cell?_setCell_same _ _ _ (by rw [World.cell?_setCell_other _ _ _ _ (by simp)]; exact x1)
    clear x0' x1' f0' f1' x0 x1 f0 f1 i3
    generalize (w3.setCell ⟨w1.heap.size, 0, none⟩ (.int .i64 sg)).setCell ⟨w1.heap.size, 1, none⟩ (.slice a3 n3 c3) = wx at *
    refine (roomFor_c b off c Z k z _ (h.below (B := w1.heap.size) (by (repeat first | exact bel0 | assumption | refine bel1 ?_ | refine bel2 ?_ | refine bel3 ?_ | refine belowT ?_ (by assumption) | refine bel5 ?_ (by simp; try omega))) (Nat.le_refl _)) hk HZ.out (fun i z hz => ⟨keepc (by (repeat first | exact bel0 | assumption | refine bel1 ?_ | refine bel2 ?_ | refine bel3 ?_ | refine belowT ?_ (by assumption) | refine bel5 ?_ (by simp; try omega))) (HR.out i z hz).1, keepc (by (repeat first | exact bel0 | assumption | refine bel1 ?_ | refine bel2 ?_ | refine bel3 ?_ | refine belowT ?_ (by assumption) | refine bel5 ?_ (by simp; try omega))) (HR.out i z hz).2⟩)).mono ?_
    rintro e w5 ⟨hres, hb5⟩
    have b5 : Below wx.heap.size wx w5 := by (repeat first | exact bel0 | assumption | refine bel1 ?_ | refine bel2 ?_ | refine bel3 ?_ | refine belowT ?_ (by assumption) | refine bel5 ?_ (by simp; try omega))
    have b15 : Below w1.heap.size w1 w5 := belowT bx b5
    rcases hres with ⟨hrz, rfl⟩ | ⟨Z', g3, cap3, hrz, rfl, hm3⟩
    · have HRZ := hide hrz
      clear hrz
      go_wp2_with (go_at_call 28; refine (bad_c _ _).mono ?_; rintro e w5 ⟨rfl, rfl⟩)
      go_ret3
      exact ⟨.inr (.inl ⟨HWE.out, HRZ.out, rfl⟩), by (repeat first | exact bel0 | assumption | refine bel1 ?_ | refine bel2 ?_ | refine bel3 ?_ | refine belowT ?_ (by assumption) | refine bel5 ?_ (by simp; try omega))⟩
    · obtain ⟨u, hu⟩ := roomZ_get hrz k z HZ.out
      have HRZ := hide hrz
      have HU := hide hu
      clear hrz hu
      replace y0 := keepc b5 y0
      replace y1 := keepc b5 y1
      clear hb5
      go_wp2_with fail
      refine (CloneZ_c g3 0 cap3 4 Z' _ hm3.zs (by omega) (by omega) (fun i z hz => by simpa using hm3.cells i z hz)).mono ?_
      rintro e w2 ⟨⟨g, cap, rfl, hm⟩, hb2⟩
      replace y0 := keepc hb2 y0
      replace y1 := keepc hb2 y1
      have s0 := hm.soft (k * 2) (by omega)
      have s1 := hm.soft (k * 2 + 1) (by omega)
      obtain ⟨v0, v1⟩ := hm.cells k u HU.out
      have b2 : Below w1.heap.size w1 w2 := belowT b15 hb2
      have hx2 := belowT b5 hb2
      have hb12 := hb1.size
      have hb13 := b15.size
      have hmg := hm.base
      have hset := (hm.mono (base' := w.heap.size) (by omega)).set k hk ⟨sg, a3, n3, c3, wL z.s z.l data⟩ (Ints.below i4 hx2 (Nat.le_refl _)) (ZV.off_new (w := wx) (z := ⟨sg, a3, n3, c3, wL z.s z.l data⟩) i4 (by have := b5.size; omega))
      have bw2 : Below w.heap.size w w2 := belowT hb1 b2
      clear hb2 hm
      go_wp2
      go_ret3
      refine ⟨.inr (.inr ⟨HWE.out, Z', g, cap, _, HRZ.out, ?_, ?_, hset, HFA.out⟩), by (repeat first | exact bel0 | assumption | refine bel1 ?_ | refine bel2 ?_ | refine bel3 ?_ | refine belowT ?_ (by assumption) | refine bel5 ?_ (by simp; try omega))⟩
      · rw [hzl.out]; rfl
      · rw [HWS.out]; rfl
  · have hx : (writeE z.s z.l data != 0) = true := by simpa using hwe
    have HWE := hide hwe
    clear hwe
    go_wp2_with (go_at_call 28; refine (bad_c _ _).mono ?_; rintro e w9 ⟨rfl, rfl⟩)
    go_ret3
    exact ⟨.inl ⟨HWE.out, rfl⟩, by (repeat first | exact bel0 | assumption | refine bel1 ?_ | refine bel2 ?_ | refine bel3 ?_ | refine belowT ?_ (by assumption) | refine bel5 ?_ (by simp; try omega))⟩

end Go.Proofs.Ytaambknbbhjdnaa
