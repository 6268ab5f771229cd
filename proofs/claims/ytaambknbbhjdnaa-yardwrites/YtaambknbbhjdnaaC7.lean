/- The contract of the document's own OnZones at Open; no condition but that the slices read as zones and data. -/
import Derived.Test.YtaambknbbhjdnaaC6
namespace Go.Proofs.Ytaambknbbhjdnaa
open Go.RowKit
set_option linter.unusedVariables false
set_option maxRecDepth 100000
set_option linter.unusedSimpArgs false

theorem roomZ_get {Z Z' : List ZV} {s : Int} (h : roomZ Z s = some Z') (k : Nat) (z : ZV) (hz : Z[k]? = some z) : ∃ u, Z'[k]? = some u := by
  have hk : k < Z.length := (List.getElem?_eq_some_iff.1 hz).1
  have hl : Z'.length = Z.length := by
    unfold roomZ at h
    split at h
    · cases h; rfl
    · split at h
      · cases h
      · split at h
        · cases h; rfl
        · split at h
          · cases h
          · cases h; simp
  exact ⟨Z'[k]'(by omega), by simp⟩

set_option maxHeartbeats 4000000 in
theorem OnZ_open (b off c : Nat) (Z : List ZV) (k : Nat) (z : ZV) (bd : Option Addr) (m d : Nat) (w : World) (h : Zones w (some ⟨b, off, none⟩) 4 c Z) (hok : checkZs (Z.map ZV.p) = 0) (hk : k < 4) (hz : Z[k]? = some z)
    (hr : ∀ i z, Z[i]? = some z → w.cell? ⟨b, off + i * 2, none⟩ = some (.int .i64 z.s) ∧ w.cell? ⟨b, off + i * 2 + 1, none⟩ = some (.slice z.a z.n z.c)) :
    Calls Try.prog 12 #[.slice (some ⟨b, off, none⟩) 4 c, .int .i64 1, .int .i64 k, .slice bd m d] w fun e w' =>
      ((roomZ Z z.s = none ∧ e = .returned (.tuple #[.slice none 0 0, .int .i64 0, .int .i64 7])) ∨ (∃ Z' g cap, roomZ Z z.s = some Z' ∧ e = .returned (.tuple #[.slice (some ⟨g, 0, none⟩) 4 cap, .int .i64 0, .int .i64 0]) ∧ Mine w' w.heap.size g 4 cap (Z'.set k ⟨2, z.a, z.n, z.c, z.l⟩))) ∧ Below w.heap.size w w' := by
  have HX := hide hok
  have hk' : (k : Int) < 4 := by omega
  have hin : inB (k : Int) 0 3 = true := by simp [inB]; omega
  clear hok
  go_enter Try.func12, Try.ntmps12
  go_wp2_with fail
  refine (CheckZones_c _ 4 c Z _ h).mono ?_
  rintro e w1 ⟨rfl, hb1⟩
  rw [HX.out]
  have hzok := (h.ok z (List.mem_of_getElem? hz)).below hb1 (Nat.le_refl _)
  obtain ⟨c0, c1⟩ := hr k z hz
  replace c0 := keepc hb1 c0
  replace c1 := keepc hb1 c1
  replace h := h.below hb1 (Nat.le_refl _)
  replace hr := fun i z hz => (⟨keepc hb1 (hr i z hz).1, keepc hb1 (hr i z hz).2⟩ : _ ∧ _)
  have HZ := hide hz
  clear hz
  have HR := hide hr
  clear hr
  go_wp2_with (first | (go_at_call 29; refine (in_c _ _ _ _).mono ?_; rintro e w1 ⟨rfl, rfl⟩))
  refine (roomFor_c b off c Z k z _ (h.below (B := w1.heap.size) (by (repeat first | exact bel0 | assumption | refine bel1 ?_ | refine bel2 ?_ | refine bel3 ?_ | refine belowT ?_ (by assumption) | refine bel5 ?_ (by simp; try omega))) (Nat.le_refl _)) hk HZ.out (fun i z hz => ⟨past1 (HR.out i z hz).1 _, past1 (HR.out i z hz).2 _⟩)).mono ?_
  rintro e w3 ⟨hres, hb3⟩
  have b3 : Below w1.heap.size w1 w3 := by (repeat first | exact bel0 | assumption | refine bel1 ?_ | refine bel2 ?_ | refine bel3 ?_ | refine belowT ?_ (by assumption) | refine bel5 ?_ (by simp; try omega))
  rcases hres with ⟨hrz, rfl⟩ | ⟨Z', g3, cap3, hrz, rfl, hm3⟩
  · have HRZ := hide hrz
    clear hrz
    go_wp2_with (go_at_call 28; refine (bad_c _ _).mono ?_; rintro e w3 ⟨rfl, rfl⟩)
    go_ret3
    exact ⟨.inl ⟨HRZ.out, rfl⟩, by (repeat first | exact bel0 | assumption | refine bel1 ?_ | refine bel2 ?_ | refine bel3 ?_ | refine belowT ?_ (by assumption) | refine bel5 ?_ (by simp; try omega))⟩
  · obtain ⟨u, hu⟩ := roomZ_get hrz k z HZ.out
    have HRZ := hide hrz
    have HU := hide hu
    clear hrz hu
    have x0 := keepc hb3 (p := ⟨w1.heap.size, 0, none⟩) (u := .int .i64 2) (by go_simp)
    have x1 := keepc hb3 (p := ⟨w1.heap.size, 1, none⟩) (u := .slice z.a z.n z.c) (by go_simp)
    clear hb3
    go_wp2_with fail
    refine (CloneZ_c g3 0 cap3 4 Z' _ hm3.zs (by omega) (by omega) (fun i z hz => by simpa using hm3.cells i z hz)).mono ?_
    rintro e w2 ⟨⟨g, cap, rfl, hm⟩, hb2⟩
    replace x0 := keepc hb2 x0
    replace x1 := keepc hb2 x1
    have s0 := hm.soft (k * 2) (by omega)
    have s1 := hm.soft (k * 2 + 1) (by omega)
    obtain ⟨y0, y1⟩ := hm.cells k u HU.out
    have b2 : Below w1.heap.size w1 w2 := belowT b3 hb2
    have hb12 := hb1.size
    have hb13 := b3.size
    have hmg := hm.base
    have hset := (hm.mono (base' := w.heap.size) (by omega)).set k hk ⟨2, z.a, z.n, z.c, z.l⟩ (Ints.below hzok b2 (Nat.le_refl _)) (ZV.off_new (z := ⟨2, z.a, z.n, z.c, z.l⟩) hzok (by omega))
    have bw2 : Below w.heap.size w w2 := belowT hb1 b2
    clear hb2 hm
    go_wp2
    go_ret3
    exact ⟨.inr ⟨Z', g, cap, HRZ.out, rfl, hset⟩, by (repeat first | exact bel0 | assumption | refine bel1 ?_ | refine bel2 ?_ | refine bel3 ?_ | refine belowT ?_ (by assumption) | refine bel5 ?_ (by simp; try omega))⟩

end Go.Proofs.Ytaambknbbhjdnaa
