/- The contract of the document's own OnZones, kind by kind; no condition but that the slices read as zones and data. -/
import Derived.Test.YtaambknbbhjdnaaC4
namespace Go.Proofs.Ytaambknbbhjdnaa
open Go.RowKit
set_option linter.unusedVariables false
set_option maxRecDepth 100000
set_option linter.unusedSimpArgs false

theorem ret_3 {u v : Value} {k : IntKind} {a b : Int} (h : a = b) : Ending.returned (.tuple #[u, v, .int k a]) = .returned (.tuple #[u, v, .int k b]) := by rw [h]

theorem bad_c (x : Int) (w : World) : Calls Try.prog 28 #[.int .i64 x] w fun e w' => e = .returned (.tuple #[.slice none 0 0, .int .i64 0, .int .i64 x]) ∧ w' = w := by
  go_enter Try.func28, Try.ntmps28
  go_wp2
  go_ret3
  exact ⟨rfl, rfl⟩

set_option maxHeartbeats 2000000 in
theorem OnZ_bad (kd : Int) (a : Option Addr) (n c : Nat) (Z : List ZV) (k : Int) (b : Option Addr) (m d : Nat) (w : World) (h : Zones w a n c Z) (hbad : checkZs (Z.map ZV.p) ≠ 0) :
    Calls Try.prog 12 #[.slice a n c, .int .i64 kd, .int .i64 k, .slice b m d] w fun e w' => e = .returned (.tuple #[.slice none 0 0, .int .i64 0, .int .i64 (checkZs (Z.map ZV.p))]) ∧ Below w.heap.size w w' := by
  go_enter Try.func12, Try.ntmps12
  go_wp2_with fail
  refine (CheckZones_c a n c Z _ h).mono ?_
  rintro e w1 ⟨rfl, hb1⟩
  generalize hx : checkZs (Z.map ZV.p) = x at *
  have HX := hide hx
  clear hx
  have hx : (x != 0) = true := by simpa using hbad
  go_wp2_with (go_at_call 28; refine (bad_c _ _).mono ?_; rintro e w1 ⟨rfl, rfl⟩)
  go_ret3
  exact ⟨ret_3 HX.out.symm, by (repeat first | exact bel0 | assumption | refine bel1 ?_ | refine bel2 ?_ | refine bel3 ?_ | refine belowT ?_ (by assumption) | refine bel5 ?_ (by simp; try omega))⟩

set_option maxHeartbeats 2000000 in
theorem OnZ_who (kd : Int) (a : Option Addr) (n c : Nat) (Z : List ZV) (k : Int) (b : Option Addr) (m d : Nat) (w : World) (h : Zones w a n c Z) (hok : checkZs (Z.map ZV.p) = 0) (hk : inB k 0 3 = false) :
    Calls Try.prog 12 #[.slice a n c, .int .i64 kd, .int .i64 k, .slice b m d] w fun e w' => e = .returned (.tuple #[.slice none 0 0, .int .i64 0, .int .i64 5]) ∧ Below w.heap.size w w' := by
  have HX := hide hok
  clear hok
  go_enter Try.func12, Try.ntmps12
  go_wp2_with fail
  refine (CheckZones_c a n c Z _ h).mono ?_
  rintro e w1 ⟨rfl, hb1⟩
  rw [HX.out]
  go_wp2_with (first | (go_at_call 29; refine (in_c _ _ _ _).mono ?_; rintro e w1 ⟨rfl, rfl⟩) | (go_at_call 28; refine (bad_c _ _).mono ?_; rintro e w1 ⟨rfl, rfl⟩))
  go_ret3
  exact ⟨rfl, by (repeat first | exact bel0 | assumption | refine bel1 ?_ | refine bel2 ?_ | refine bel3 ?_ | refine belowT ?_ (by assumption) | refine bel5 ?_ (by simp; try omega))⟩

theorem zs_four {w : World} {a : Option Addr} {n c : Nat} {Z : List ZV} (h : Zones w a n c Z) (hok : checkZs (Z.map ZV.p) = 0) :
    n = 4 ∧ ∃ b off, a = some ⟨b, off, none⟩ ∧ ∀ i z, Z[i]? = some z → w.cell? ⟨b, off + i * 2, none⟩ = some (.int .i64 z.s) ∧ w.cell? ⟨b, off + i * 2 + 1, none⟩ = some (.slice z.a z.n z.c) := by
  have h4 : n = 4 := by
    apply Decidable.byContradiction
    intro hn
    rw [← checkZs_1 (Z := Z) (by rw [h.len]; exact hn)] at hok
    omega
  refine ⟨h4, ?_⟩
  rcases h.row with h0 | ⟨b, off, ha, _, hr⟩
  · omega
  · exact ⟨b, off, ha, hr⟩

set_option maxHeartbeats 4000000 in
theorem OnZ_finish (b off c : Nat) (Z : List ZV) (k : Nat) (z : ZV) (bd : Option Addr) (m d : Nat) (w : World) (h : Zones w (some ⟨b, off, none⟩) 4 c Z) (hok : checkZs (Z.map ZV.p) = 0) (hk : k < 4) (hz : Z[k]? = some z)
    (hr : ∀ i z, Z[i]? = some z → w.cell? ⟨b, off + i * 2, none⟩ = some (.int .i64 z.s) ∧ w.cell? ⟨b, off + i * 2 + 1, none⟩ = some (.slice z.a z.n z.c)) :
    Calls Try.prog 12 #[.slice (some ⟨b, off, none⟩) 4 c, .int .i64 3, .int .i64 k, .slice bd m d] w fun e w' => (∃ g cap, e = .returned (.tuple #[.slice (some ⟨g, 0, none⟩) 4 cap, .int .i64 0, .int .i64 0]) ∧ Mine w' w.heap.size g 4 cap (Z.set k ⟨4, z.a, z.n, z.c, z.l⟩)) ∧ Below w.heap.size w w' := by
  have HX := hide hok
  have hk' : (k : Int) < 4 := by omega
  have hin : inB (k : Int) 0 3 = true := by simp [inB]; omega
  clear hok
  go_enter Try.func12, Try.ntmps12
  go_wp2_with fail
  refine (CheckZones_c _ 4 c Z _ h).mono ?_
  rintro e w1 ⟨rfl, hb1⟩
  rw [HX.out]
  have hzok := (h.ok z (List.mem_of_getElem? hz)).below hb1 (Nat.le_refl _)
  obtain ⟨c0, c1⟩ := hr k z hz
  replace c0 := keepc hb1 c0
  replace c1 := keepc hb1 c1
  replace h := h.below hb1 (Nat.le_refl _)
  replace hr := fun i z hz => (⟨keepc hb1 (hr i z hz).1, keepc hb1 (hr i z hz).2⟩ : _ ∧ _)
  have HZ := hide hz
  clear hz
  have HR := hide hr
  clear hr
  go_wp2_with (first | (go_at_call 29; refine (in_c _ _ _ _).mono ?_; rintro e w1 ⟨rfl, rfl⟩))
  refine (CloneZ_c b off c 4 Z _ (h.below (B := w1.heap.size) (by (repeat first | exact bel0 | assumption | refine bel1 ?_ | refine bel2 ?_ | refine bel3 ?_ | refine belowT ?_ (by assumption) | refine bel5 ?_ (by simp; try omega))) (Nat.le_refl _)) (by omega) (by omega) (fun i z hz => ⟨past1 (HR.out i z hz).1 _, past1 (HR.out i z hz).2 _⟩)).mono ?_
  rintro e w2 ⟨⟨g, cap, rfl, hm⟩, hb2⟩
  have x0 := keepc hb2 (p := ⟨w1.heap.size, 0, none⟩) (u := .int .i64 (4)) (by go_simp)
  have x1 := keepc hb2 (p := ⟨w1.heap.size, 1, none⟩) (u := .slice z.a z.n z.c) (by go_simp)
  have s0 := hm.soft (k * 2) (by omega)
  have s1 := hm.soft (k * 2 + 1) (by omega)
  obtain ⟨y0, y1⟩ := hm.cells k z HZ.out
  have b2 : Below w1.heap.size w1 w2 := by (repeat first | exact bel0 | assumption | refine bel1 ?_ | refine bel2 ?_ | refine bel3 ?_ | refine belowT ?_ (by assumption) | refine bel5 ?_ (by simp; try omega))
  have hb12 := hb1.size
  have hmg := hm.base
  simp at hmg
  have hset := (hm.mono (base' := w.heap.size) (by simp; omega)).set k hk ⟨4, z.a, z.n, z.c, z.l⟩ (Ints.below hzok b2 (Nat.le_refl _)) (ZV.off_new (z := ⟨4, z.a, z.n, z.c, z.l⟩) hzok (by omega))
  have bw2 : Below w.heap.size w w2 := belowT hb1 b2
  clear hb2 hm
  go_wp2
  go_ret3
  exact ⟨⟨g, cap, rfl, hset⟩, by (repeat first | exact bel0 | assumption | refine bel1 ?_ | refine bel2 ?_ | refine bel3 ?_ | refine belowT ?_ (by assumption) | refine bel5 ?_ (by simp; try omega))⟩

set_option maxHeartbeats 4000000 in
theorem OnZ_reset (b off c : Nat) (Z : List ZV) (k : Nat) (z : ZV) (bd : Option Addr) (m d : Nat) (w : World) (h : Zones w (some ⟨b, off, none⟩) 4 c Z) (hok : checkZs (Z.map ZV.p) = 0) (hk : k < 4) (hz : Z[k]? = some z)
    (hr : ∀ i z, Z[i]? = some z → w.cell? ⟨b, off + i * 2, none⟩ = some (.int .i64 z.s) ∧ w.cell? ⟨b, off + i * 2 + 1, none⟩ = some (.slice z.a z.n z.c)) :
    Calls Try.prog 12 #[.slice (some ⟨b, off, none⟩) 4 c, .int .i64 4, .int .i64 k, .slice bd m d] w fun e w' => (∃ g cap, e = .returned (.tuple #[.slice (some ⟨g, 0, none⟩) 4 cap, .int .i64 0, .int .i64 0]) ∧ Mine w' w.heap.size g 4 cap (Z.set k ⟨0, none, 0, 0, []⟩)) ∧ Below w.heap.size w w' := by
  have HX := hide hok
  have hk' : (k : Int) < 4 := by omega
  have hin : inB (k : Int) 0 3 = true := by simp [inB]; omega
  clear hok
  go_enter Try.func12, Try.ntmps12
  go_wp2_with fail
  refine (CheckZones_c _ 4 c Z _ h).mono ?_
  rintro e w1 ⟨rfl, hb1⟩
  rw [HX.out]
  have hzok := (h.ok z (List.mem_of_getElem? hz)).below hb1 (Nat.le_refl _)
  obtain ⟨c0, c1⟩ := hr k z hz
  replace c0 := keepc hb1 c0
  replace c1 := keepc hb1 c1
  replace h := h.below hb1 (Nat.le_refl _)
  replace hr := fun i z hz => (⟨keepc hb1 (hr i z hz).1, keepc hb1 (hr i z hz).2⟩ : _ ∧ _)
  have HZ := hide hz
  clear hz
  have HR := hide hr
  clear hr
  go_wp2_with (first | (go_at_call 29; refine (in_c _ _ _ _).mono ?_; rintro e w1 ⟨rfl, rfl⟩))
  refine (CloneZ_c b off c 4 Z _ (h.below (B := w1.heap.size) (by (repeat first | exact bel0 | assumption | refine bel1 ?_ | refine bel2 ?_ | refine bel3 ?_ | refine belowT ?_ (by assumption) | refine bel5 ?_ (by simp; try omega))) (Nat.le_refl _)) (by omega) (by omega) (fun i z hz => ⟨past1 (HR.out i z hz).1 _, past1 (HR.out i z hz).2 _⟩)).mono ?_
  rintro e w2 ⟨⟨g, cap, rfl, hm⟩, hb2⟩
  have x0 := keepc hb2 (p := ⟨w1.heap.size, 0, none⟩) (u := .int .i64 (0)) (by go_simp)
  have x1 := keepc hb2 (p := ⟨w1.heap.size, 1, none⟩) (u := .slice none 0 0) (by go_simp)
  have s0 := hm.soft (k * 2) (by omega)
  have s1 := hm.soft (k * 2 + 1) (by omega)
  obtain ⟨y0, y1⟩ := hm.cells k z HZ.out
  have b2 : Below w1.heap.size w1 w2 := by (repeat first | exact bel0 | assumption | refine bel1 ?_ | refine bel2 ?_ | refine bel3 ?_ | refine belowT ?_ (by assumption) | refine bel5 ?_ (by simp; try omega))
  have hb12 := hb1.size
  have hmg := hm.base
  simp at hmg
  have hset := (hm.mono (base' := w.heap.size) (by simp; omega)).set k hk ⟨0, none, 0, 0, []⟩ (Ints.nilSlice _) (.inl rfl)
  have bw2 : Below w.heap.size w w2 := belowT hb1 b2
  clear hb2 hm
  go_wp2
  go_ret3
  exact ⟨⟨g, cap, rfl, hset⟩, by (repeat first | exact bel0 | assumption | refine bel1 ?_ | refine bel2 ?_ | refine bel3 ?_ | refine belowT ?_ (by assumption) | refine bel5 ?_ (by simp; try omega))⟩

end Go.Proofs.Ytaambknbbhjdnaa
