/- The contract of the document's own OnZones at Close and Open; no condition but that the slices read as zones and data. -/
import Derived.Test.YtaambknbbhjdnaaC5
namespace Go.Proofs.Ytaambknbbhjdnaa
open Go.RowKit
set_option linter.unusedVariables false
set_option maxRecDepth 100000
set_option linter.unusedSimpArgs false

set_option maxHeartbeats 4000000 in
theorem OnZ_close_no (b off c : Nat) (Z : List ZV) (k : Nat) (z : ZV) (bd : Option Addr) (m d : Nat) (w : World) (h : Zones w (some ⟨b, off, none⟩) 4 c Z) (hok : checkZs (Z.map ZV.p) = 0) (hk : k < 4) (hz : Z[k]? = some z) (hs : isO z.s = false)
    (hr : ∀ i z, Z[i]? = some z → w.cell? ⟨b, off + i * 2, none⟩ = some (.int .i64 z.s) ∧ w.cell? ⟨b, off + i * 2 + 1, none⟩ = some (.slice z.a z.n z.c)) :
    Calls Try.prog 12 #[.slice (some ⟨b, off, none⟩) 4 c, .int .i64 2, .int .i64 k, .slice bd m d] w fun e w' => e = .returned (.tuple #[.slice none 0 0, .int .i64 0, .int .i64 6]) ∧ Below w.heap.size w w' := by
  have HX := hide hok
  have hk' : (k : Int) < 4 := by omega
  have hin : inB (k : Int) 0 3 = true := by simp [inB]; omega
  have hs1 : (z.s != 1) = true := by simp [isO] at hs; simp; omega
  have hs2 : (z.s != 2) = true := by simp [isO] at hs; simp; omega
  clear hok hs
  go_enter Try.func12, Try.ntmps12
  go_wp2_with fail
  refine (CheckZones_c _ 4 c Z _ h).mono ?_
  rintro e w1 ⟨rfl, hb1⟩
  rw [HX.out]
  obtain ⟨c0, c1⟩ := hr k z hz
  replace c0 := keepc hb1 c0
  replace c1 := keepc hb1 c1
  clear hz hr
  go_wp2_with (first | (go_at_call 29; refine (in_c _ _ _ _).mono ?_; rintro e w1 ⟨rfl, rfl⟩) | (go_at_call 28; refine (bad_c _ _).mono ?_; rintro e w2 ⟨rfl, rfl⟩))
  go_ret3
  exact ⟨rfl, by (repeat first | exact bel0 | assumption | refine bel1 ?_ | refine bel2 ?_ | refine bel3 ?_ | refine belowT ?_ (by assumption) | refine bel5 ?_ (by simp; try omega))⟩

set_option maxHeartbeats 4000000 in
theorem OnZ_close (b off c : Nat) (Z : List ZV) (k : Nat) (z : ZV) (bd : Option Addr) (m d : Nat) (w : World) (h : Zones w (some ⟨b, off, none⟩) 4 c Z) (hok : checkZs (Z.map ZV.p) = 0) (hk : k < 4) (hz : Z[k]? = some z) (hs : isO z.s = true)
    (hr : ∀ i z, Z[i]? = some z → w.cell? ⟨b, off + i * 2, none⟩ = some (.int .i64 z.s) ∧ w.cell? ⟨b, off + i * 2 + 1, none⟩ = some (.slice z.a z.n z.c)) :
    Calls Try.prog 12 #[.slice (some ⟨b, off, none⟩) 4 c, .int .i64 2, .int .i64 k, .slice bd m d] w fun e w' => (∃ g cap, e = .returned (.tuple #[.slice (some ⟨g, 0, none⟩) 4 cap, .int .i64 0, .int .i64 0]) ∧ Mine w' w.heap.size g 4 cap (Z.set k z.shut)) ∧ Below w.heap.size w w' := by
  have HX := hide hok
  have hk' : (k : Int) < 4 := by omega
  have hin : inB (k : Int) 0 3 = true := by simp [inB]; omega
  have hs1 : (z.s != 1) = true ∧ (z.s != 2) = false ∨ (z.s != 1) = false := by
    simp [isO] at hs
    rcases hs with e | e <;> simp [e]
  clear hok hs
  rcases hs1 with ⟨hs1, hs2⟩ | hs1
  all_goals
    go_enter Try.func12, Try.ntmps12
    go_wp2_with fail
    refine (CheckZones_c _ 4 c Z _ h).mono ?_
    rintro e w1 ⟨rfl, hb1⟩
    rw [HX.out]
    have hzok := (h.ok z (List.mem_of_getElem? hz)).below hb1 (Nat.le_refl _)
    obtain ⟨c0, c1⟩ := hr k z hz
    replace c0 := keepc hb1 c0
    replace c1 := keepc hb1 c1
    replace h := h.below hb1 (Nat.le_refl _)
    replace hr := fun i z hz => (⟨keepc hb1 (hr i z hz).1, keepc hb1 (hr i z hz).2⟩ : _ ∧ _)
    have HZ := hide hz
    clear hz
    have HR := hide hr
    clear hr
    go_wp2_with (first | (go_at_call 29; refine (in_c _ _ _ _).mono ?_; rintro e w1 ⟨rfl, rfl⟩))
    refine (shutR_c z _ (Ints.below hzok (B := w1.heap.size) (by (repeat first | exact bel0 | assumption | refine bel1 ?_ | refine bel2 ?_ | refine bel3 ?_ | refine belowT ?_ (by assumption) | refine bel5 ?_ (by simp; try omega))) (Nat.le_refl _))).mono ?_
    rintro e w3 ⟨rfl, hb3⟩
    have x0 := keepc hb3 (p := ⟨w1.heap.size, 0, none⟩) (u := .int .i64 z.s) (by go_simp)
    have x1 := keepc hb3 (p := ⟨w1.heap.size, 1, none⟩) (u := .slice z.a z.n z.c) (by go_simp)
    have f0 := keepf hb3 (p := ⟨w1.heap.size, 0, none⟩) (u := .int .i64 z.s) (by go_simp) (b := false) (by go_simp)
    have f1 := keepf hb3 (p := ⟨w1.heap.size, 1, none⟩) (u := .slice z.a z.n z.c) (by go_simp) (b := false) (by go_simp)
    have b3 : Below w1.heap.size w1 w3 := by (repeat first | exact bel0 | assumption | refine bel1 ?_ | refine bel2 ?_ | refine bel3 ?_ | refine belowT ?_ (by assumption) | refine bel5 ?_ (by simp; try omega))
    clear hb3
    go_wp2_with fail
    refine (CloneZ_c b off c 4 Z _ (h.below (B := w1.heap.size) (by (repeat first | exact bel0 | assumption | refine bel1 ?_ | refine bel2 ?_ | refine bel3 ?_ | refine belowT ?_ (by assumption) | refine bel5 ?_ (by simp; try omega))) (Nat.le_refl _)) (by omega) (by omega) (fun i z hz => ⟨keepc (by (repeat first | exact bel0 | assumption | refine bel1 ?_ | refine bel2 ?_ | refine bel3 ?_ | refine belowT ?_ (by assumption) | refine bel5 ?_ (by simp; try omega))) (HR.out i z hz).1, keepc (by (repeat first | exact bel0 | assumption | refine bel1 ?_ | refine bel2 ?_ | refine bel3 ?_ | refine belowT ?_ (by assumption) | refine bel5 ?_ (by simp; try omega))) (HR.out i z hz).2⟩)).mono ?_
    rintro e w2 ⟨⟨g, cap, rfl, hm⟩, hb2⟩
    replace x0 := keepc hb2 (p := ⟨w1.heap.size, 0, none⟩) (u := .int .i64 z.shut.s) (by go_simp)
    replace x1 := keepc hb2 (p := ⟨w1.heap.size, 1, none⟩) (u := .slice z.shut.a z.shut.n z.shut.c) (by go_simp)
    have s0 := hm.soft (k * 2) (by omega)
    have s1 := hm.soft (k * 2 + 1) (by omega)
    obtain ⟨y0, y1⟩ := hm.cells k z HZ.out
    have b2 : Below w1.heap.size w1 w2 := by (repeat first | exact bel0 | assumption | refine bel1 ?_ | refine bel2 ?_ | refine bel3 ?_ | refine belowT ?_ (by assumption) | refine bel5 ?_ (by simp; try omega))
    have hb12 := hb1.size
    have hb13 := b3.size
    have hmg := hm.base
    simp [World.setCell] at hmg
    have hset := (hm.mono (base' := w.heap.size) (by simp [World.setCell]; omega)).set k hk z.shut (ZV.shut_ok (Ints.below hzok b2 (Nat.le_refl _))) (ZV.shut_off (ZV.off_new hzok (by omega)))
    have bw2 : Below w.heap.size w w2 := belowT hb1 b2
    clear hb2 hm
    go_wp2
    go_ret3
    exact ⟨⟨g, cap, rfl, hset⟩, by (repeat first | exact bel0 | assumption | refine bel1 ?_ | refine bel2 ?_ | refine bel3 ?_ | refine belowT ?_ (by assumption) | refine bel5 ?_ (by simp; try omega))⟩

end Go.Proofs.Ytaambknbbhjdnaa
