/- The contract of the document's own OnZones, kind by kind; no condition but that the slices read as zones and data. -/
import Derived.Test.YtenmamcaldabdaaGreatDoorHallSaysG6
import Derived.Test.YtenmamcaldabdaaGreatDoorHallSaysG5
import Derived.Test.YtenmamcaldabdaaGreatDoorHallSaysG4
namespace Go.Proofs.YtenmamcaldabdaaGreatDoor
open Go.RowKit
set_option linter.unusedVariables false
set_option maxRecDepth 100000
set_option linter.unusedSimpArgs false

theorem ret_3 {u v : Value} {k : IntKind} {a b : Int} (h : a = b) : Ending.returned (.tuple #[u, v, .int k a]) = .returned (.tuple #[u, v, .int k b]) := by rw [h]

theorem bad_c (x : Int) (w : World) : Calls Tryz.prog 116 #[.int .i64 x] w fun e w' => e = .returned (.tuple #[.slice none 0 0, .int .i64 0, .int .i64 x]) ∧ w' = w := by
  go_enter Tryz.func116, Tryz.ntmps116
  go_wp2
  go_ret3
  exact ⟨rfl, rfl⟩

set_option maxHeartbeats 2000000 in
theorem OnZ_bad (kd : Int) (a : Option Addr) (n c : Nat) (Z : List ZV) (k : Int) (b : Option Addr) (m d : Nat) (w : World) (h : Zones w a n c Z) (hbad : checkZs (Z.map ZV.p) ≠ 0) :
    Calls Tryz.prog 87 #[.slice a n c, .int .i64 kd, .int .i64 k, .slice b m d] w fun e w' => e = .returned (.tuple #[.slice none 0 0, .int .i64 0, .int .i64 (checkZs (Z.map ZV.p))]) ∧ Below w.heap.size w w' := by
  go_enter Tryz.func87, Tryz.ntmps87
  go_wp2_with fail
  refine (CheckZones_c a n c Z _ h).mono ?_
  rintro e w1 ⟨rfl, hb1⟩
  generalize hx : checkZs (Z.map ZV.p) = x at *
  have HX := hide hx
  clear hx
  have hx : (x != 0) = true := by simpa using hbad
  go_wp2_with (go_at_call 116; refine (bad_c _ _).mono ?_; rintro e w1 ⟨rfl, rfl⟩)
  go_ret3
  exact ⟨ret_3 HX.out.symm, by (repeat (first | exact Below.refl _ _ | assumption | refine Below.drew ?_ | refine below_drewN ?_ _ | refine belowA ?_ _ | refine belowT ?_ (by assumption) | refine Below.setCell ?_ (by first | (simp; done) | (simp; omega)) _))⟩

set_option maxHeartbeats 2000000 in
theorem OnZ_who (kd : Int) (a : Option Addr) (n c : Nat) (Z : List ZV) (k : Int) (b : Option Addr) (m d : Nat) (w : World) (h : Zones w a n c Z) (hok : checkZs (Z.map ZV.p) = 0) (hk : inB k 0 3 = false) :
    Calls Tryz.prog 87 #[.slice a n c, .int .i64 kd, .int .i64 k, .slice b m d] w fun e w' => e = .returned (.tuple #[.slice none 0 0, .int .i64 0, .int .i64 5]) ∧ Below w.heap.size w w' := by
  have HX := hide hok
  clear hok
  go_enter Tryz.func87, Tryz.ntmps87
  go_wp2_with fail
  refine (CheckZones_c a n c Z _ h).mono ?_
  rintro e w1 ⟨rfl, hb1⟩
  rw [HX.out]
  go_wp2_with (first | (go_at_call 34; refine (in_c _ _ _ _).mono ?_; rintro e w1 ⟨rfl, rfl⟩) | (go_at_call 116; refine (bad_c _ _).mono ?_; rintro e w1 ⟨rfl, rfl⟩))
  go_ret3
  exact ⟨rfl, by (repeat (first | exact Below.refl _ _ | assumption | refine Below.drew ?_ | refine below_drewN ?_ _ | refine belowA ?_ _ | refine belowT ?_ (by assumption) | refine Below.setCell ?_ (by first | (simp; done) | (simp; omega)) _))⟩

theorem zs_four {w : World} {a : Option Addr} {n c : Nat} {Z : List ZV} (h : Zones w a n c Z) (hok : checkZs (Z.map ZV.p) = 0) :
    n = 4 ∧ ∃ b off, a = some ⟨b, off, none⟩ ∧ ∀ i z, Z[i]? = some z → w.cell? ⟨b, off + i * 2, none⟩ = some (.int .i64 z.s) ∧ w.cell? ⟨b, off + i * 2 + 1, none⟩ = some (.slice z.a z.n z.c) := by
  have h4 : n = 4 := by
    apply Decidable.byContradiction
    intro hn
    rw [← checkZs_1 (Z := Z) (by rw [h.len]; exact hn)] at hok
    omega
  refine ⟨h4, ?_⟩
  rcases h.row with h0 | ⟨b, off, ha, _, hr⟩
  · omega
  · exact ⟨b, off, ha, hr⟩

set_option maxHeartbeats 4000000 in
theorem OnZ_finish (b off c : Nat) (Z : List ZV) (k : Nat) (z : ZV) (bd : Option Addr) (m d : Nat) (w : World) (h : Zones w (some ⟨b, off, none⟩) 4 c Z) (hok : checkZs (Z.map ZV.p) = 0) (hk : k < 4) (hz : Z[k]? = some z)
    (hr : ∀ i z, Z[i]? = some z → w.cell? ⟨b, off + i * 2, none⟩ = some (.int .i64 z.s) ∧ w.cell? ⟨b, off + i * 2 + 1, none⟩ = some (.slice z.a z.n z.c)) :
    Calls Tryz.prog 87 #[.slice (some ⟨b, off, none⟩) 4 c, .int .i64 3, .int .i64 k, .slice bd m d] w fun e w' => (∃ g cap, e = .returned (.tuple #[.slice (some ⟨g, 0, none⟩) 4 cap, .int .i64 0, .int .i64 0]) ∧ Mine w' w.heap.size g 4 cap (Z.set k ⟨4, z.a, z.n, z.c, z.l⟩)) ∧ Below w.heap.size w w' := by
  have HX := hide hok
  have hk' : (k : Int) < 4 := by omega
  have hin : inB (k : Int) 0 3 = true := by simp [inB]; omega
  clear hok
  go_enter Tryz.func87, Tryz.ntmps87
  go_wp2_with fail
  refine (CheckZones_c _ 4 c Z _ h).mono ?_
  rintro e w1 ⟨rfl, hb1⟩
  rw [HX.out]
  have hzok := (h.ok z (List.mem_of_getElem? hz)).below hb1 (Nat.le_refl _)
  obtain ⟨c0, c1⟩ := hr k z hz
  replace c0 := keepc hb1 c0
  replace c1 := keepc hb1 c1
  replace h := h.below hb1 (Nat.le_refl _)
  replace hr := fun i z hz => (⟨keepc hb1 (hr i z hz).1, keepc hb1 (hr i z hz).2⟩ : _ ∧ _)
  have HZ := hide hz
  clear hz
  have HR := hide hr
  clear hr
  go_wp2_with (first | (go_at_call 34; refine (in_c _ _ _ _).mono ?_; rintro e w1 ⟨rfl, rfl⟩))
  refine (CloneZ_c b off c 4 Z _ (h.below (B := w1.heap.size) (by (repeat (first | exact Below.refl _ _ | assumption | refine Below.drew ?_ | refine below_drewN ?_ _ | refine belowA ?_ _ | refine belowT ?_ (by assumption) | refine Below.setCell ?_ (by first | (simp; done) | (simp; omega)) _))) (Nat.le_refl _)) (by omega) (by omega) (fun i z hz => ⟨past1 (HR.out i z hz).1 _, past1 (HR.out i z hz).2 _⟩)).mono ?_
  rintro e w2 ⟨⟨g, cap, rfl, hm⟩, hb2⟩
  have x0 := keepc hb2 (p := ⟨w1.heap.size, 0, none⟩) (u := .int .i64 (4)) (by go_simp)
  have x1 := keepc hb2 (p := ⟨w1.heap.size, 1, none⟩) (u := .slice z.a z.n z.c) (by go_simp)
  have s0 := hm.soft (k * 2) (by omega)
  have s1 := hm.soft (k * 2 + 1) (by omega)
  obtain ⟨y0, y1⟩ := hm.cells k z HZ.out
  have b2 : Below w1.heap.size w1 w2 := by (repeat (first | exact Below.refl _ _ | assumption | refine Below.drew ?_ | refine below_drewN ?_ _ | refine belowA ?_ _ | refine belowT ?_ (by assumption) | refine Below.setCell ?_ (by first | (simp; done) | (simp; omega)) _))
  have hb12 := hb1.size
  have hmg := hm.base
  simp at hmg
  have hset := (hm.mono (base' := w.heap.size) (by simp; omega)).set k hk ⟨4, z.a, z.n, z.c, z.l⟩ (Ints.below hzok b2 (Nat.le_refl _)) (ZV.off_new (z := ⟨4, z.a, z.n, z.c, z.l⟩) hzok (by omega))
  have bw2 : Below w.heap.size w w2 := belowT hb1 b2
  clear hb2 hm
  go_wp2
  go_ret3
  exact ⟨⟨g, cap, rfl, hset⟩, by (repeat (first | exact Below.refl _ _ | assumption | refine Below.drew ?_ | refine below_drewN ?_ _ | refine belowA ?_ _ | refine belowT ?_ (by assumption) | refine Below.setCell ?_ (by first | (simp; done) | (simp; omega)) _))⟩

set_option maxHeartbeats 4000000 in
theorem OnZ_reset (b off c : Nat) (Z : List ZV) (k : Nat) (z : ZV) (bd : Option Addr) (m d : Nat) (w : World) (h : Zones w (some ⟨b, off, none⟩) 4 c Z) (hok : checkZs (Z.map ZV.p) = 0) (hk : k < 4) (hz : Z[k]? = some z)
    (hr : ∀ i z, Z[i]? = some z → w.cell? ⟨b, off + i * 2, none⟩ = some (.int .i64 z.s) ∧ w.cell? ⟨b, off + i * 2 + 1, none⟩ = some (.slice z.a z.n z.c)) :
    Calls Tryz.prog 87 #[.slice (some ⟨b, off, none⟩) 4 c, .int .i64 4, .int .i64 k, .slice bd m d] w fun e w' => (∃ g cap, e = .returned (.tuple #[.slice (some ⟨g, 0, none⟩) 4 cap, .int .i64 0, .int .i64 0]) ∧ Mine w' w.heap.size g 4 cap (Z.set k ⟨0, none, 0, 0, []⟩)) ∧ Below w.heap.size w w' := by
  have HX := hide hok
  have hk' : (k : Int) < 4 := by omega
  have hin : inB (k : Int) 0 3 = true := by simp [inB]; omega
  clear hok
  go_enter Tryz.func87, Tryz.ntmps87
  go_wp2_with fail
  refine (CheckZones_c _ 4 c Z _ h).mono ?_
  rintro e w1 ⟨rfl, hb1⟩
  rw [HX.out]
  have hzok := (h.ok z (List.mem_of_getElem? hz)).below hb1 (Nat.le_refl _)
  obtain ⟨c0, c1⟩ := hr k z hz
  replace c0 := keepc hb1 c0
  replace c1 := keepc hb1 c1
  replace h := h.below hb1 (Nat.le_refl _)
  replace hr := fun i z hz => (⟨keepc hb1 (hr i z hz).1, keepc hb1 (hr i z hz).2⟩ : _ ∧ _)
  have HZ := hide hz
  clear hz
  have HR := hide hr
  clear hr
  go_wp2_with (first | (go_at_call 34; refine (in_c _ _ _ _).mono ?_; rintro e w1 ⟨rfl, rfl⟩))
  refine (CloneZ_c b off c 4 Z _ (h.below (B := w1.heap.size) (by (repeat (first | exact Below.refl _ _ | assumption | refine Below.drew ?_ | refine below_drewN ?_ _ | refine belowA ?_ _ | refine belowT ?_ (by assumption) | refine Below.setCell ?_ (by first | (simp; done) | (simp; omega)) _))) (Nat.le_refl _)) (by omega) (by omega) (fun i z hz => ⟨past1 (HR.out i z hz).1 _, past1 (HR.out i z hz).2 _⟩)).mono ?_
  rintro e w2 ⟨⟨g, cap, rfl, hm⟩, hb2⟩
  have x0 := keepc hb2 (p := ⟨w1.heap.size, 0, none⟩) (u := .int .i64 (0)) (by go_simp)
  have x1 := keepc hb2 (p := ⟨w1.heap.size, 1, none⟩) (u := .slice none 0 0) (by go_simp)
  have s0 := hm.soft (k * 2) (by omega)
  have s1 := hm.soft (k * 2 + 1) (by omega)
  obtain ⟨y0, y1⟩ := hm.cells k z HZ.out
  have b2 : Below w1.heap.size w1 w2 := by (repeat (first | exact Below.refl _ _ | assumption | refine Below.drew ?_ | refine below_drewN ?_ _ | refine belowA ?_ _ | refine belowT ?_ (by assumption) | refine Below.setCell ?_ (by first | (simp; done) | (simp; omega)) _))
  have hb12 := hb1.size
  have hmg := hm.base
  simp at hmg
  have hset := (hm.mono (base' := w.heap.size) (by simp; omega)).set k hk ⟨0, none, 0, 0, []⟩ (Ints.nilSlice _) (.inl rfl)
  have bw2 : Below w.heap.size w w2 := belowT hb1 b2
  clear hb2 hm
  go_wp2
  go_ret3
  exact ⟨⟨g, cap, rfl, hset⟩, by (repeat (first | exact Below.refl _ _ | assumption | refine Below.drew ?_ | refine below_drewN ?_ _ | refine belowA ?_ _ | refine belowT ?_ (by assumption) | refine Below.setCell ?_ (by first | (simp; done) | (simp; omega)) _))⟩

end Go.Proofs.YtenmamcaldabdaaGreatDoor

/- The contract of the document's own OnZones at Close and Open; no condition but that the slices read as zones and data. -/
namespace Go.Proofs.YtenmamcaldabdaaGreatDoor
open Go.RowKit
set_option linter.unusedVariables false
set_option maxRecDepth 100000
set_option linter.unusedSimpArgs false

set_option maxHeartbeats 4000000 in
theorem OnZ_close_no (b off c : Nat) (Z : List ZV) (k : Nat) (z : ZV) (bd : Option Addr) (m d : Nat) (w : World) (h : Zones w (some ⟨b, off, none⟩) 4 c Z) (hok : checkZs (Z.map ZV.p) = 0) (hk : k < 4) (hz : Z[k]? = some z) (hs : isO z.s = false)
    (hr : ∀ i z, Z[i]? = some z → w.cell? ⟨b, off + i * 2, none⟩ = some (.int .i64 z.s) ∧ w.cell? ⟨b, off + i * 2 + 1, none⟩ = some (.slice z.a z.n z.c)) :
    Calls Tryz.prog 87 #[.slice (some ⟨b, off, none⟩) 4 c, .int .i64 2, .int .i64 k, .slice bd m d] w fun e w' => e = .returned (.tuple #[.slice none 0 0, .int .i64 0, .int .i64 6]) ∧ Below w.heap.size w w' := by
  have HX := hide hok
  have hk' : (k : Int) < 4 := by omega
  have hin : inB (k : Int) 0 3 = true := by simp [inB]; omega
  have hs1 : (z.s != 1) = true := by simp [isO] at hs; simp; omega
  have hs2 : (z.s != 2) = true := by simp [isO] at hs; simp; omega
  clear hok hs
  go_enter Tryz.func87, Tryz.ntmps87
  go_wp2_with fail
  refine (CheckZones_c _ 4 c Z _ h).mono ?_
  rintro e w1 ⟨rfl, hb1⟩
  rw [HX.out]
  obtain ⟨c0, c1⟩ := hr k z hz
  replace c0 := keepc hb1 c0
  replace c1 := keepc hb1 c1
  clear hz hr
  go_wp2_with (first | (go_at_call 34; refine (in_c _ _ _ _).mono ?_; rintro e w1 ⟨rfl, rfl⟩) | (go_at_call 116; refine (bad_c _ _).mono ?_; rintro e w2 ⟨rfl, rfl⟩))
  go_ret3
  exact ⟨rfl, by (repeat (first | exact Below.refl _ _ | assumption | refine Below.drew ?_ | refine below_drewN ?_ _ | refine belowA ?_ _ | refine belowT ?_ (by assumption) | refine Below.setCell ?_ (by first | (simp; done) | (simp; omega)) _))⟩

set_option maxHeartbeats 4000000 in
theorem OnZ_close (b off c : Nat) (Z : List ZV) (k : Nat) (z : ZV) (bd : Option Addr) (m d : Nat) (w : World) (h : Zones w (some ⟨b, off, none⟩) 4 c Z) (hok : checkZs (Z.map ZV.p) = 0) (hk : k < 4) (hz : Z[k]? = some z) (hs : isO z.s = true)
    (hr : ∀ i z, Z[i]? = some z → w.cell? ⟨b, off + i * 2, none⟩ = some (.int .i64 z.s) ∧ w.cell? ⟨b, off + i * 2 + 1, none⟩ = some (.slice z.a z.n z.c)) :
    Calls Tryz.prog 87 #[.slice (some ⟨b, off, none⟩) 4 c, .int .i64 2, .int .i64 k, .slice bd m d] w fun e w' => (∃ g cap, e = .returned (.tuple #[.slice (some ⟨g, 0, none⟩) 4 cap, .int .i64 0, .int .i64 0]) ∧ Mine w' w.heap.size g 4 cap (Z.set k z.shut)) ∧ Below w.heap.size w w' := by
  have HX := hide hok
  have hk' : (k : Int) < 4 := by omega
  have hin : inB (k : Int) 0 3 = true := by simp [inB]; omega
  have hs1 : (z.s != 1) = true ∧ (z.s != 2) = false ∨ (z.s != 1) = false := by
    simp [isO] at hs
    rcases hs with e | e <;> simp [e]
  clear hok hs
  rcases hs1 with ⟨hs1, hs2⟩ | hs1
  all_goals
    go_enter Tryz.func87, Tryz.ntmps87
    go_wp2_with fail
    refine (CheckZones_c _ 4 c Z _ h).mono ?_
    rintro e w1 ⟨rfl, hb1⟩
    rw [HX.out]
    have hzok := (h.ok z (List.mem_of_getElem? hz)).below hb1 (Nat.le_refl _)
    obtain ⟨c0, c1⟩ := hr k z hz
    replace c0 := keepc hb1 c0
    replace c1 := keepc hb1 c1
    replace h := h.below hb1 (Nat.le_refl _)
    replace hr := fun i z hz => (⟨keepc hb1 (hr i z hz).1, keepc hb1 (hr i z hz).2⟩ : _ ∧ _)
    have HZ := hide hz
    clear hz
    have HR := hide hr
    clear hr
    go_wp2_with (first | (go_at_call 34; refine (in_c _ _ _ _).mono ?_; rintro e w1 ⟨rfl, rfl⟩))
    refine (shutR_c z _ (Ints.below hzok (B := w1.heap.size) (by (repeat (first | exact Below.refl _ _ | assumption | refine Below.drew ?_ | refine below_drewN ?_ _ | refine belowA ?_ _ | refine belowT ?_ (by assumption) | refine Below.setCell ?_ (by first | (simp; done) | (simp; omega)) _))) (Nat.le_refl _))).mono ?_
    rintro e w3 ⟨rfl, hb3⟩
    have x0 := keepc hb3 (p := ⟨w1.heap.size, 0, none⟩) (u := .int .i64 z.s) (by go_simp)
    have x1 := keepc hb3 (p := ⟨w1.heap.size, 1, none⟩) (u := .slice z.a z.n z.c) (by go_simp)
    have f0 := keepf hb3 (p := ⟨w1.heap.size, 0, none⟩) (u := .int .i64 z.s) (by go_simp) (b := false) (by go_simp)
    have f1 := keepf hb3 (p := ⟨w1.heap.size, 1, none⟩) (u := .slice z.a z.n z.c) (by go_simp) (b := false) (by go_simp)
    have b3 : Below w1.heap.size w1 w3 := by (repeat (first | exact Below.refl _ _ | assumption | refine Below.drew ?_ | refine below_drewN ?_ _ | refine belowA ?_ _ | refine belowT ?_ (by assumption) | refine Below.setCell ?_ (by first | (simp; done) | (simp; omega)) _))
    clear hb3
    go_wp2_with fail
    refine (CloneZ_c b off c 4 Z _ (h.below (B := w1.heap.size) (by (repeat (first | exact Below.refl _ _ | assumption | refine Below.drew ?_ | refine below_drewN ?_ _ | refine belowA ?_ _ | refine belowT ?_ (by assumption) | refine Below.setCell ?_ (by first | (simp; done) | (simp; omega)) _))) (Nat.le_refl _)) (by omega) (by omega) (fun i z hz => ⟨keepc (by (repeat (first | exact Below.refl _ _ | assumption | refine Below.drew ?_ | refine below_drewN ?_ _ | refine belowA ?_ _ | refine belowT ?_ (by assumption) | refine Below.setCell ?_ (by first | (simp; done) | (simp; omega)) _))) (HR.out i z hz).1, keepc (by (repeat (first | exact Below.refl _ _ | assumption | refine Below.drew ?_ | refine below_drewN ?_ _ | refine belowA ?_ _ | refine belowT ?_ (by assumption) | refine Below.setCell ?_ (by first | (simp; done) | (simp; omega)) _))) (HR.out i z hz).2⟩)).mono ?_
    rintro e w2 ⟨⟨g, cap, rfl, hm⟩, hb2⟩
    replace x0 := keepc hb2 (p := ⟨w1.heap.size, 0, none⟩) (u := .int .i64 z.shut.s) (by go_simp)
    replace x1 := keepc hb2 (p := ⟨w1.heap.size, 1, none⟩) (u := .slice z.shut.a z.shut.n z.shut.c) (by go_simp)
    have s0 := hm.soft (k * 2) (by omega)
    have s1 := hm.soft (k * 2 + 1) (by omega)
    obtain ⟨y0, y1⟩ := hm.cells k z HZ.out
    have b2 : Below w1.heap.size w1 w2 := by (repeat (first | exact Below.refl _ _ | assumption | refine Below.drew ?_ | refine below_drewN ?_ _ | refine belowA ?_ _ | refine belowT ?_ (by assumption) | refine Below.setCell ?_ (by first | (simp; done) | (simp; omega)) _))
    have hb12 := hb1.size
    have hb13 := b3.size
    have hmg := hm.base
    simp [World.setCell] at hmg
    have hset := (hm.mono (base' := w.heap.size) (by simp [World.setCell]; omega)).set k hk z.shut (ZV.shut_ok (Ints.below hzok b2 (Nat.le_refl _))) (ZV.shut_off (ZV.off_new hzok (by omega)))
    have bw2 : Below w.heap.size w w2 := belowT hb1 b2
    clear hb2 hm
    go_wp2
    go_ret3
    exact ⟨⟨g, cap, rfl, hset⟩, by (repeat (first | exact Below.refl _ _ | assumption | refine Below.drew ?_ | refine below_drewN ?_ _ | refine belowA ?_ _ | refine belowT ?_ (by assumption) | refine Below.setCell ?_ (by first | (simp; done) | (simp; omega)) _))⟩

end Go.Proofs.YtenmamcaldabdaaGreatDoor

/- The contract of the document's own OnZones at Open; no condition but that the slices read as zones and data. -/
namespace Go.Proofs.YtenmamcaldabdaaGreatDoor
open Go.RowKit
set_option linter.unusedVariables false
set_option maxRecDepth 100000
set_option linter.unusedSimpArgs false

theorem roomZ_get {Z Z' : List ZV} {s : Int} (h : roomZ Z s = some Z') (k : Nat) (z : ZV) (hz : Z[k]? = some z) : ∃ u, Z'[k]? = some u := by
  have hk : k < Z.length := (List.getElem?_eq_some_iff.1 hz).1
  have hl : Z'.length = Z.length := by
    unfold roomZ at h
    split at h
    · cases h; rfl
    · split at h
      · cases h
      · split at h
        · cases h; rfl
        · split at h
          · cases h
          · cases h; simp
  exact ⟨Z'[k]'(by omega), by simp⟩

set_option maxHeartbeats 4000000 in
theorem OnZ_open (b off c : Nat) (Z : List ZV) (k : Nat) (z : ZV) (bd : Option Addr) (m d : Nat) (w : World) (h : Zones w (some ⟨b, off, none⟩) 4 c Z) (hok : checkZs (Z.map ZV.p) = 0) (hk : k < 4) (hz : Z[k]? = some z)
    (hr : ∀ i z, Z[i]? = some z → w.cell? ⟨b, off + i * 2, none⟩ = some (.int .i64 z.s) ∧ w.cell? ⟨b, off + i * 2 + 1, none⟩ = some (.slice z.a z.n z.c)) :
    Calls Tryz.prog 87 #[.slice (some ⟨b, off, none⟩) 4 c, .int .i64 1, .int .i64 k, .slice bd m d] w fun e w' =>
      ((roomZ Z z.s = none ∧ e = .returned (.tuple #[.slice none 0 0, .int .i64 0, .int .i64 7])) ∨ (∃ Z' g cap, roomZ Z z.s = some Z' ∧ e = .returned (.tuple #[.slice (some ⟨g, 0, none⟩) 4 cap, .int .i64 0, .int .i64 0]) ∧ Mine w' w.heap.size g 4 cap (Z'.set k ⟨2, z.a, z.n, z.c, z.l⟩))) ∧ Below w.heap.size w w' := by
  have HX := hide hok
  have hk' : (k : Int) < 4 := by omega
  have hin : inB (k : Int) 0 3 = true := by simp [inB]; omega
  clear hok
  go_enter Tryz.func87, Tryz.ntmps87
  go_wp2_with fail
  refine (CheckZones_c _ 4 c Z _ h).mono ?_
  rintro e w1 ⟨rfl, hb1⟩
  rw [HX.out]
  have hzok := (h.ok z (List.mem_of_getElem? hz)).below hb1 (Nat.le_refl _)
  obtain ⟨c0, c1⟩ := hr k z hz
  replace c0 := keepc hb1 c0
  replace c1 := keepc hb1 c1
  replace h := h.below hb1 (Nat.le_refl _)
  replace hr := fun i z hz => (⟨keepc hb1 (hr i z hz).1, keepc hb1 (hr i z hz).2⟩ : _ ∧ _)
  have HZ := hide hz
  clear hz
  have HR := hide hr
  clear hr
  go_wp2_with (first | (go_at_call 34; refine (in_c _ _ _ _).mono ?_; rintro e w1 ⟨rfl, rfl⟩))
  refine (roomFor_c b off c Z k z _ (h.below (B := w1.heap.size) (by (repeat (first | exact Below.refl _ _ | assumption | refine Below.drew ?_ | refine below_drewN ?_ _ | refine belowA ?_ _ | refine belowT ?_ (by assumption) | refine Below.setCell ?_ (by first | (simp; done) | (simp; omega)) _))) (Nat.le_refl _)) hk HZ.out (fun i z hz => ⟨past1 (HR.out i z hz).1 _, past1 (HR.out i z hz).2 _⟩)).mono ?_
  rintro e w3 ⟨hres, hb3⟩
  have b3 : Below w1.heap.size w1 w3 := by (repeat (first | exact Below.refl _ _ | assumption | refine Below.drew ?_ | refine below_drewN ?_ _ | refine belowA ?_ _ | refine belowT ?_ (by assumption) | refine Below.setCell ?_ (by first | (simp; done) | (simp; omega)) _))
  rcases hres with ⟨hrz, rfl⟩ | ⟨Z', g3, cap3, hrz, rfl, hm3⟩
  · have HRZ := hide hrz
    clear hrz
    go_wp2_with (go_at_call 116; refine (bad_c _ _).mono ?_; rintro e w3 ⟨rfl, rfl⟩)
    go_ret3
    exact ⟨.inl ⟨HRZ.out, rfl⟩, by (repeat (first | exact Below.refl _ _ | assumption | refine Below.drew ?_ | refine below_drewN ?_ _ | refine belowA ?_ _ | refine belowT ?_ (by assumption) | refine Below.setCell ?_ (by first | (simp; done) | (simp; omega)) _))⟩
  · obtain ⟨u, hu⟩ := roomZ_get hrz k z HZ.out
    have HRZ := hide hrz
    have HU := hide hu
    clear hrz hu
    have x0 := keepc hb3 (p := ⟨w1.heap.size, 0, none⟩) (u := .int .i64 2) (by go_simp)
    have x1 := keepc hb3 (p := ⟨w1.heap.size, 1, none⟩) (u := .slice z.a z.n z.c) (by go_simp)
    clear hb3
    go_wp2_with fail
    refine (CloneZ_c g3 0 cap3 4 Z' _ hm3.zs (by omega) (by omega) (fun i z hz => by simpa using hm3.cells i z hz)).mono ?_
    rintro e w2 ⟨⟨g, cap, rfl, hm⟩, hb2⟩
    replace x0 := keepc hb2 x0
    replace x1 := keepc hb2 x1
    have s0 := hm.soft (k * 2) (by omega)
    have s1 := hm.soft (k * 2 + 1) (by omega)
    obtain ⟨y0, y1⟩ := hm.cells k u HU.out
    have b2 : Below w1.heap.size w1 w2 := belowT b3 hb2
    have hb12 := hb1.size
    have hb13 := b3.size
    have hmg := hm.base
    have hset := (hm.mono (base' := w.heap.size) (by omega)).set k hk ⟨2, z.a, z.n, z.c, z.l⟩ (Ints.below hzok b2 (Nat.le_refl _)) (ZV.off_new (z := ⟨2, z.a, z.n, z.c, z.l⟩) hzok (by omega))
    have bw2 : Below w.heap.size w w2 := belowT hb1 b2
    clear hb2 hm
    go_wp2
    go_ret3
    exact ⟨.inr ⟨Z', g, cap, HRZ.out, rfl, hset⟩, by (repeat (first | exact Below.refl _ _ | assumption | refine Below.drew ?_ | refine below_drewN ?_ _ | refine belowA ?_ _ | refine belowT ?_ (by assumption) | refine Below.setCell ?_ (by first | (simp; done) | (simp; omega)) _))⟩

end Go.Proofs.YtenmamcaldabdaaGreatDoor

/- The contracts of zone.Write and of the document's WriteZone, errors and all in one; no condition but that the arguments read as data. -/
namespace Go.Proofs.YtenmamcaldabdaaGreatDoor
open Go.RowKit
set_option linter.unusedVariables false
set_option maxRecDepth 100000
set_option linter.unusedSimpArgs false

/-- What Write answers: state, blocks. -/
def wS (s : Int) (l k : List Int) : Int := if writeE s l k = 0 then writeS s (l.length + k.length) else 0
def wL (s : Int) (l k : List Int) : List Int := if writeE s l k = 0 then l ++ k else []

theorem Write_u (s : Int) (a : Option Addr) (n c : Nat) (l : List Int) (b : Option Addr) (m d : Nat) (k : List Int) (w : World) (h1 : Ints w a n c l) (h2 : Ints w b m d k) :
    Calls Tryz.prog 168 #[.agg #[.int .i64 s, .slice a n c], .slice b m d] w fun e w' => (∃ a' n' c', e = .returned (.tuple #[.agg #[.int .i64 (wS s l k), .slice a' n' c'], .int .i64 (writeE s l k)]) ∧ Ints w' a' n' c' (wL s l k) ∧ ∀ x, a' = some x → w.heap.size ≤ x.block) ∧ Below w.heap.size w w' := by
  by_cases h : writeE s l k = 0
  · refine (Write_ok s a n c l b m d k w h1 h2 h).mono ?_
    rintro e w' ⟨⟨q, rfl, i, hq⟩, hb⟩
    rw [show wS s l k = writeS s (n + m) by simp [wS, h, h1.len, h2.len], show wL s l k = l ++ k by simp [wL, h], h]
    exact ⟨⟨_, _, _, rfl, i, fun x e => by cases e; exact hq⟩, hb⟩
  · refine (Write_bad s a n c l b m d k w h1 h2 h).mono ?_
    rintro e w' ⟨rfl, hb⟩
    rw [show wS s l k = 0 by simp [wS, h], show wL s l k = [] by simp [wL, h]]
    exact ⟨⟨_, _, _, rfl, Ints.nilSlice _, fun x e => by cases e⟩, hb⟩

theorem WriteZone_u (s : Int) (a : Option Addr) (n c : Nat) (l : List Int) (b : Option Addr) (m d : Nat) (k : List Int) (w : World) (h1 : Ints w a n c l) (h2 : Ints w b m d k) :
    Calls Tryz.prog 118 #[.agg #[.int .i64 s, .slice a n c], .slice b m d] w fun e w' => (∃ a' n' c', e = .returned (.tuple #[.agg #[.int .i64 (wS s l k), .slice a' n' c'], .int .i64 (writeE s l k)]) ∧ Ints w' a' n' c' (wL s l k) ∧ ∀ x, a' = some x → w.heap.size ≤ x.block) ∧ Below w.heap.size w w' := by
  by_cases h : writeE s l k = 0
  · refine (WriteZone_ok s a n c l b m d k w h1 h2 h).mono ?_
    rintro e w' ⟨⟨a', c', rfl, i, hq⟩, hb⟩
    rw [show wS s l k = writeS s (n + m) by simp [wS, h, h1.len, h2.len], show wL s l k = l ++ k by simp [wL, h], h]
    exact ⟨⟨_, _, _, rfl, i, hq⟩, hb⟩
  · refine (WriteZone_bad s a n c l b m d k w h1 h2 h).mono ?_
    rintro e w' ⟨rfl, hb⟩
    rw [show wS s l k = 0 by simp [wS, h], show wL s l k = [] by simp [wL, h]]
    exact ⟨⟨_, _, _, rfl, Ints.nilSlice _, fun x e => by cases e⟩, hb⟩

end Go.Proofs.YtenmamcaldabdaaGreatDoor

/- The contract of the document's own OnZones at Append; no condition but that the slices read as zones and data. -/
namespace Go.Proofs.YtenmamcaldabdaaGreatDoor
open Go.RowKit
set_option linter.unusedVariables false
set_option maxRecDepth 100000
set_option linter.unusedSimpArgs false

set_option maxHeartbeats 8000000 in
theorem OnZ_append (b off c : Nat) (Z : List ZV) (k : Nat) (z : ZV) (bd : Option Addr) (m d : Nat) (data : List Int) (w : World) (h : Zones w (some ⟨b, off, none⟩) 4 c Z) (hd : Ints w bd m d data) (hok : checkZs (Z.map ZV.p) = 0) (hk : k < 4) (hz : Z[k]? = some z)
    (hr : ∀ i z, Z[i]? = some z → w.cell? ⟨b, off + i * 2, none⟩ = some (.int .i64 z.s) ∧ w.cell? ⟨b, off + i * 2 + 1, none⟩ = some (.slice z.a z.n z.c)) :
    Calls Tryz.prog 87 #[.slice (some ⟨b, off, none⟩) 4 c, .int .i64 5, .int .i64 k, .slice bd m d] w fun e w' =>
      ((writeE z.s z.l data ≠ 0 ∧ e = .returned (.tuple #[.slice none 0 0, .int .i64 0, .int .i64 (writeE z.s z.l data)])) ∨
       (writeE z.s z.l data = 0 ∧ roomZ Z z.s = none ∧ e = .returned (.tuple #[.slice none 0 0, .int .i64 0, .int .i64 7])) ∨
       (writeE z.s z.l data = 0 ∧ ∃ Z' g cap u, roomZ Z z.s = some Z' ∧ e = .returned (.tuple #[.slice (some ⟨g, 0, none⟩) 4 cap, .int .i64 z.l.length, .int .i64 0]) ∧ u.p = (wS z.s z.l data, wL z.s z.l data) ∧ Mine w' w.heap.size g 4 cap (Z'.set k u) ∧ ∀ x, u.a = some x → w.heap.size ≤ x.block)) ∧ Below w.heap.size w w' := by
  have HX := hide hok
  have hk' : (k : Int) < 4 := by omega
  have hin : inB (k : Int) 0 3 = true := by simp [inB]; omega
  clear hok
  go_enter Tryz.func87, Tryz.ntmps87
  go_wp2_with fail
  refine (CheckZones_c _ 4 c Z _ h).mono ?_
  rintro e w1 ⟨rfl, hb1⟩
  rw [HX.out]
  have hzok := (h.ok z (List.mem_of_getElem? hz)).below hb1 (Nat.le_refl _)
  have hzl := hide hzok.len
  obtain ⟨c0, c1⟩ := hr k z hz
  replace c0 := keepc hb1 c0
  replace c1 := keepc hb1 c1
  replace h := h.below hb1 (Nat.le_refl _)
  replace hd := hd.below hb1 (Nat.le_refl _)
  replace hr := fun i z hz => (⟨keepc hb1 (hr i z hz).1, keepc hb1 (hr i z hz).2⟩ : _ ∧ _)
  have HZ := hide hz
  clear hz
  have HR := hide hr
  clear hr
  go_wp2_with (first | (go_at_call 34; refine (in_c _ _ _ _).mono ?_; rintro e w1 ⟨rfl, rfl⟩))
  refine (WriteZone_u z.s z.a z.n z.c z.l bd m d data _ (Ints.below hzok (B := w1.heap.size) (by (repeat (first | exact Below.refl _ _ | assumption | refine Below.drew ?_ | refine below_drewN ?_ _ | refine belowA ?_ _ | refine belowT ?_ (by assumption) | refine Below.setCell ?_ (by first | (simp; done) | (simp; omega)) _))) (Nat.le_refl _)) (hd.below (B := w1.heap.size) (by (repeat (first | exact Below.refl _ _ | assumption | refine Below.drew ?_ | refine below_drewN ?_ _ | refine belowA ?_ _ | refine belowT ?_ (by assumption) | refine Below.setCell ?_ (by first | (simp; done) | (simp; omega)) _))) (Nat.le_refl _))).mono ?_
  rintro e w3 ⟨⟨a3, n3, c3, rfl, i3, hfr⟩, hb3⟩
  have b3 : Below w1.heap.size w1 w3 := by (repeat (first | exact Below.refl _ _ | assumption | refine Below.drew ?_ | refine below_drewN ?_ _ | refine belowA ?_ _ | refine belowT ?_ (by assumption) | refine Below.setCell ?_ (by first | (simp; done) | (simp; omega)) _))
  have x0 := keepc hb3 (p := ⟨w1.heap.size, 0, none⟩) (u := .int .i64 z.s) (by go_simp)
  have x1 := keepc hb3 (p := ⟨w1.heap.size, 1, none⟩) (u := .slice z.a z.n z.c) (by go_simp)
  have f0 := keepf hb3 (p := ⟨w1.heap.size, 0, none⟩) (u := .int .i64 z.s) (by go_simp) (b := false) (by go_simp)
  have f1 := keepf hb3 (p := ⟨w1.heap.size, 1, none⟩) (u := .slice z.a z.n z.c) (by go_simp) (b := false) (by go_simp)
  clear hb3
  generalize hws : wS z.s z.l data = sg at *
  have HWS := hide hws
  clear hws
  by_cases hwe : writeE z.s z.l data = 0
  · have HWE := hide hwe
    rw [hwe]
    clear hwe
    have x0' := past1 x0
    have x1' := past1 x1
    have f0' := pastf1 x0 f0
    have f1' := pastf1 x1 f1
    have z1 : w1.heap.size < w3.heap.size := World.block_lt_of_cell? _ _ x0
    go_wp2_with fail
    simp at hfr
    have HFA := hide (show ∀ x, a3 = some x → w.heap.size ≤ x.block from fun x e => by have := hfr x e; have := hb1.size; omega)
    have hne : n3 = 0 ∨ ∀ x, a3 = some x → x.block ≠ w1.heap.size := .inr fun x e => by have := hfr x e; omega
    have i4 := (Ints.setCell' i3 ⟨w1.heap.size, 0, none⟩ (.int .i64 sg) hne).setCell' ⟨w1.heap.size, 1, none⟩ (.slice a3 n3 c3) hne
    have bx : Below w1.heap.size w1 ((w3.setCell ⟨w1.heap.size, 0, none⟩ (.int .i64 sg)).setCell ⟨w1.heap.size, 1, none⟩ (.slice a3 n3 c3)) := by (repeat (first | exact Below.refl _ _ | assumption | refine Below.drew ?_ | refine below_drewN ?_ _ | refine belowA ?_ _ | refine belowT ?_ (by assumption) | refine Below.setCell ?_ (by first | (simp; done) | (simp; omega)) _))
    have y0 : ((w3.setCell ⟨w1.heap.size, 0, none⟩ (.int .i64 sg)).setCell ⟨w1.heap.size, 1, none⟩ (.slice a3 n3 c3)).cell? ⟨w1.heap.size, 0, none⟩ = some (.int .i64 sg) := by
      rw [World.cell?_setCell_other _ _ _ _ (by simp)]; exact World.cell?_setCell_same _ _ _ x0
    have y1 : ((w3.setCell ⟨w1.heap.size, 0, none⟩ (.int .i64 sg)).setCell ⟨w1.heap.size, 1, none⟩ (.slice a3 n3 c3)).cell? ⟨w1.heap.size, 1, none⟩ = some (.slice a3 n3 c3) := by
      exact World.cell?_setCell_same _ _ _ (by rw [World.cell?_setCell_other _ _ _ _ (by simp)]; exact x1)
    clear x0' x1' f0' f1' x0 x1 f0 f1 i3
    generalize (w3.setCell ⟨w1.heap.size, 0, none⟩ (.int .i64 sg)).setCell ⟨w1.heap.size, 1, none⟩ (.slice a3 n3 c3) = wx at *
    refine (roomFor_c b off c Z k z _ (h.below (B := w1.heap.size) (by (repeat (first | exact Below.refl _ _ | assumption | refine Below.drew ?_ | refine below_drewN ?_ _ | refine belowA ?_ _ | refine belowT ?_ (by assumption) | refine Below.setCell ?_ (by first | (simp; done) | (simp; omega)) _))) (Nat.le_refl _)) hk HZ.out (fun i z hz => ⟨keepc (by (repeat (first | exact Below.refl _ _ | assumption | refine Below.drew ?_ | refine below_drewN ?_ _ | refine belowA ?_ _ | refine belowT ?_ (by assumption) | refine Below.setCell ?_ (by first | (simp; done) | (simp; omega)) _))) (HR.out i z hz).1, keepc (by (repeat (first | exact Below.refl _ _ | assumption | refine Below.drew ?_ | refine below_drewN ?_ _ | refine belowA ?_ _ | refine belowT ?_ (by assumption) | refine Below.setCell ?_ (by first | (simp; done) | (simp; omega)) _))) (HR.out i z hz).2⟩)).mono ?_
    rintro e w5 ⟨hres, hb5⟩
    have b5 : Below wx.heap.size wx w5 := by (repeat (first | exact Below.refl _ _ | assumption | refine Below.drew ?_ | refine below_drewN ?_ _ | refine belowA ?_ _ | refine belowT ?_ (by assumption) | refine Below.setCell ?_ (by first | (simp; done) | (simp; omega)) _))
    have b15 : Below w1.heap.size w1 w5 := belowT bx b5
    rcases hres with ⟨hrz, rfl⟩ | ⟨Z', g3, cap3, hrz, rfl, hm3⟩
    · have HRZ := hide hrz
      clear hrz
      go_wp2_with (go_at_call 116; refine (bad_c _ _).mono ?_; rintro e w5 ⟨rfl, rfl⟩)
      go_ret3
      exact ⟨.inr (.inl ⟨HWE.out, HRZ.out, rfl⟩), by (repeat (first | exact Below.refl _ _ | assumption | refine Below.drew ?_ | refine below_drewN ?_ _ | refine belowA ?_ _ | refine belowT ?_ (by assumption) | refine Below.setCell ?_ (by first | (simp; done) | (simp; omega)) _))⟩
    · obtain ⟨u, hu⟩ := roomZ_get hrz k z HZ.out
      have HRZ := hide hrz
      have HU := hide hu
      clear hrz hu
      replace y0 := keepc b5 y0
      replace y1 := keepc b5 y1
      clear hb5
      go_wp2_with fail
      refine (CloneZ_c g3 0 cap3 4 Z' _ hm3.zs (by omega) (by omega) (fun i z hz => by simpa using hm3.cells i z hz)).mono ?_
      rintro e w2 ⟨⟨g, cap, rfl, hm⟩, hb2⟩
      replace y0 := keepc hb2 y0
      replace y1 := keepc hb2 y1
      have s0 := hm.soft (k * 2) (by omega)
      have s1 := hm.soft (k * 2 + 1) (by omega)
      obtain ⟨v0, v1⟩ := hm.cells k u HU.out
      have b2 : Below w1.heap.size w1 w2 := belowT b15 hb2
      have hx2 := belowT b5 hb2
      have hb12 := hb1.size
      have hb13 := b15.size
      have hmg := hm.base
      have hset := (hm.mono (base' := w.heap.size) (by omega)).set k hk ⟨sg, a3, n3, c3, wL z.s z.l data⟩ (Ints.below i4 hx2 (Nat.le_refl _)) (ZV.off_new (w := wx) (z := ⟨sg, a3, n3, c3, wL z.s z.l data⟩) i4 (by have := b5.size; omega))
      have bw2 : Below w.heap.size w w2 := belowT hb1 b2
      clear hb2 hm
      go_wp2
      go_ret3
      refine ⟨.inr (.inr ⟨HWE.out, Z', g, cap, _, HRZ.out, ?_, ?_, hset, HFA.out⟩), by (repeat (first | exact Below.refl _ _ | assumption | refine Below.drew ?_ | refine below_drewN ?_ _ | refine belowA ?_ _ | refine belowT ?_ (by assumption) | refine Below.setCell ?_ (by first | (simp; done) | (simp; omega)) _))⟩
      · rw [hzl.out]; rfl
      · rw [HWS.out]; rfl
  · have hx : (writeE z.s z.l data != 0) = true := by simpa using hwe
    have HWE := hide hwe
    clear hwe
    go_wp2_with (go_at_call 116; refine (bad_c _ _).mono ?_; rintro e w9 ⟨rfl, rfl⟩)
    go_ret3
    exact ⟨.inl ⟨HWE.out, rfl⟩, by (repeat (first | exact Below.refl _ _ | assumption | refine Below.drew ?_ | refine below_drewN ?_ _ | refine belowA ?_ _ | refine belowT ?_ (by assumption) | refine Below.setCell ?_ (by first | (simp; done) | (simp; omega)) _))⟩

end Go.Proofs.YtenmamcaldabdaaGreatDoor
