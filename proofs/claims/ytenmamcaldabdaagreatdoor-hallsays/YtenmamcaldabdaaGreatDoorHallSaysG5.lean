/- The contracts of the document's own answers WriteZone and ReadZone; no condition but that the zone reads as its state and list. -/
import Derived.Test.YtenmamcaldabdaaGreatDoorHallSaysG3
import Derived.Test.YtenmamcaldabdaaGreatDoorHallSaysG4
import Derived.Test.YtenmamcaldabdaaGreatDoorHallSaysG2
namespace Go.Proofs.YtenmamcaldabdaaGreatDoor
open Go.RowKit
set_option linter.unusedVariables false
set_option maxRecDepth 100000
set_option linter.unusedSimpArgs false

/-- The ways in which a write fails, in the document's own words. -/
theorem writeE_ways {s : Int} {l k : List Int} {n m : Nat} {x : Int} (hx : checkZ s l = x) (g1 : l.length = n) (g2 : k.length = m) (hbad : writeE s l k ≠ 0) :
    ((x != 0) = true ∧ writeE s l k = x) ∨
    ((x != 0) = false ∧ inB m 1 8 = false ∧ writeE s l k = 2) ∨
    ((x != 0) = false ∧ inB m 1 8 = true ∧ (k.all fun x => inB x 0 999) = false ∧ writeE s l k = 3) ∨
    ((x != 0) = false ∧ inB m 1 8 = true ∧ (k.all fun x => inB x 0 999) = true ∧ (s == 4) = true ∧ writeE s l k = 7) ∨
    ((x != 0) = false ∧ inB m 1 8 = true ∧ (k.all fun x => inB x 0 999) = true ∧ (s == 4) = false ∧ n ≤ 8 ∧ m ≤ 8 ∧ 8 < n + m ∧ writeE s l k = 7) := by
  have hw := writeE_eq hx g1 g2
  rw [all_any, inB_outB]
  by_cases h0 : x = 0
  · have hz := checkZ_len (hx.trans h0)
    rw [g1] at hz
    cases h1 : outB 1 8 m
    · have hm : m ≤ 8 := by simp [outB] at h1; omega
      rw [IntWalk.wrap64_in ((n : Int) + m) (by omega)] at hw
      cases h2 : k.any (outB 0 999)
      · by_cases h3 : s = 4
        · right; right; right; left
          subst h3
          rw [hw]
          simp [h0, h1, h2]
        · by_cases h4 : 8 < n + m
          · right; right; right; right
            rw [hw]
            have h4' : (8 : Int) < (n : Int) + m := by omega
            simp [h0, h1, h2, h3, h4, h4', hz, hm]
          · exfalso
            apply hbad
            rw [hw]
            have h4' : ¬ (8 : Int) < (n : Int) + m := by omega
            simp [h0, h1, h2, h3, h4']
      · right; right; left
        rw [hw]
        simp [h0, h1, h2]
    · right; left
      rw [hw]
      simp [h0, h1]
  · left
    rw [hw]
    simp [h0]

theorem writeE_yes {s : Int} {l k : List Int} {n m : Nat} (g1 : l.length = n) (g2 : k.length = m) (hok : writeE s l k = 0) :
    checkZ s l = 0 ∧ inB m 1 8 = true ∧ (k.all fun x => inB x 0 999) = true ∧ (s == 4) = false ∧ 0 < m ∧ n + m ≤ 8 := by
  obtain ⟨h1, h2, h3, h4, h5⟩ := writeE_ok hok
  rw [g1, g2] at h3
  rw [g2] at h2
  exact ⟨h1, by simp [inB]; omega, by rw [all_any, h4]; rfl, by simpa using h5, by omega, h3⟩

set_option maxHeartbeats 4000000 in
theorem WriteZone_bad (s : Int) (a : Option Addr) (n c : Nat) (l : List Int) (b : Option Addr) (m d : Nat) (k : List Int) (w : World) (h1 : Ints w a n c l) (h2 : Ints w b m d k) (hbad : writeE s l k ≠ 0) :
    Calls Tryz.prog 118 #[.agg #[.int .i64 s, .slice a n c], .slice b m d] w fun e w' => e = .returned (.tuple #[.agg #[.int .i64 0, .slice none 0 0], .int .i64 (writeE s l k)]) ∧ Below w.heap.size w w' := by
  have hm1 := h1.max
  have hm2 := h2.max
  have hc1 := h1.le
  have hc2 := h2.le
  generalize hx : checkZ s l = x
  have hways := writeE_ways hx h1.len h2.len hbad
  have HX := hide hx
  clear hx hbad
  rcases hways with ⟨v1, he⟩ | ⟨v1, v2, he⟩ | ⟨v1, v2, v3, he⟩ | ⟨v1, v2, v3, v4, he⟩ | ⟨v1, v2, v3, v4, v5, v6, v7, he⟩
  all_goals
    have HE := hide he
    clear he
    go_enter Tryz.func118, Tryz.ntmps118
    go_wp2_with fail
    refine (CheckZone_c s a n c l _ (h1.below (B := w.heap.size) (by (repeat (first | exact Below.refl _ _ | assumption | refine Below.drew ?_ | refine below_drewN ?_ _ | refine belowA ?_ _ | refine belowT ?_ (by assumption) | refine Below.setCell ?_ (by first | (simp; done) | (simp; omega)) _))) (Nat.le_refl _))).mono ?_
    rintro e w1 ⟨rfl, hb1⟩
    rw [HX.out]
    have c0 := keepc hb1 (p := ⟨w.heap.size, 0, none⟩) (u := .int .i64 s) (by go_simp)
    have c1 := keepc hb1 (p := ⟨w.heap.size, 1, none⟩) (u := .slice a n c) (by go_simp)
    obtain ⟨hcl, hfr⟩ := bcell hb1
    have z1 : w.heap.size + 1 < w1.heap.size := by have := hb1.size; simp at this; omega
    have j2 := h2.below (B := w.heap.size) (show Below w.heap.size w w1 by (repeat (first | exact Below.refl _ _ | assumption | refine Below.drew ?_ | refine below_drewN ?_ _ | refine belowA ?_ _ | refine belowT ?_ (by assumption) | refine Below.setCell ?_ (by first | (simp; done) | (simp; omega)) _))) (Nat.le_refl _)
    go_wp2_with (first | (go_at_call 34; refine (in_c _ _ _ _).mono ?_; rintro e w' ⟨rfl, rfl⟩) | (go_at_call 64; refine (all_c b m d k _ _ _ j2).mono ?_; rintro e w' ⟨rfl, rfl⟩))
  · refine bodyPost_ret (v := .tuple #[.agg #[.int .i64 0, .slice none 0 0], .int .i64 x]) (by simp [results, Tryz.results118, go_sem, hcl, hfr]) rfl ⟨by rw [HE.out], ?_⟩
    (repeat (first | exact Below.refl _ _ | assumption | refine Below.drew ?_ | refine below_drewN ?_ _ | refine belowA ?_ _ | refine belowT ?_ (by assumption) | refine Below.setCell ?_ (by first | (simp; done) | (simp; omega)) _))
  · refine bodyPost_ret (v := .tuple #[.agg #[.int .i64 0, .slice none 0 0], .int .i64 2]) (by simp [results, Tryz.results118, go_sem, hcl, hfr]) rfl ⟨by rw [HE.out], ?_⟩
    (repeat (first | exact Below.refl _ _ | assumption | refine Below.drew ?_ | refine below_drewN ?_ _ | refine belowA ?_ _ | refine belowT ?_ (by assumption) | refine Below.setCell ?_ (by first | (simp; done) | (simp; omega)) _))
  · refine bodyPost_ret (v := .tuple #[.agg #[.int .i64 0, .slice none 0 0], .int .i64 3]) (by simp [results, Tryz.results118, go_sem, hcl, hfr]) rfl ⟨by rw [HE.out], ?_⟩
    (repeat (first | exact Below.refl _ _ | assumption | refine Below.drew ?_ | refine below_drewN ?_ _ | refine belowA ?_ _ | refine belowT ?_ (by assumption) | refine Below.setCell ?_ (by first | (simp; done) | (simp; omega)) _))
  · refine bodyPost_ret (v := .tuple #[.agg #[.int .i64 0, .slice none 0 0], .int .i64 7]) (by simp [results, Tryz.results118, go_sem, hcl, hfr]) rfl ⟨by rw [HE.out], ?_⟩
    (repeat (first | exact Below.refl _ _ | assumption | refine Below.drew ?_ | refine below_drewN ?_ _ | refine belowA ?_ _ | refine belowT ?_ (by assumption) | refine Below.setCell ?_ (by first | (simp; done) | (simp; omega)) _))
  · refine bodyPost_ret (v := .tuple #[.agg #[.int .i64 0, .slice none 0 0], .int .i64 7]) (by simp [results, Tryz.results118, go_sem, hcl, hfr]) rfl ⟨by rw [HE.out], ?_⟩
    (repeat (first | exact Below.refl _ _ | assumption | refine Below.drew ?_ | refine below_drewN ?_ _ | refine belowA ?_ _ | refine belowT ?_ (by assumption) | refine Below.setCell ?_ (by first | (simp; done) | (simp; omega)) _))

theorem set2_0 {w : World} {g : Nat} {u0 : Value} (h0 : w.cell? ⟨g, 0, none⟩ = some u0) (v0 v1 : Value) (o : Obj) : (((w.setCell ⟨g, 0, none⟩ v0).setCell ⟨g, 1, none⟩ v1).alloc o).cell? ⟨g, 0, none⟩ = some v0 :=
  past1 (by rw [World.cell?_setCell_other _ _ _ _ (by simp)]; exact World.cell?_setCell_same _ _ _ h0) o
theorem set2_1 {w : World} {g : Nat} {u1 : Value} (h1 : w.cell? ⟨g, 1, none⟩ = some u1) (v0 v1 : Value) (o : Obj) : (((w.setCell ⟨g, 0, none⟩ v0).setCell ⟨g, 1, none⟩ v1).alloc o).cell? ⟨g, 1, none⟩ = some v1 :=
  past1 (World.cell?_setCell_same _ _ _ (by rw [World.cell?_setCell_other _ _ _ _ (by simp)]; exact h1)) o

theorem writeS_n1 {s : Int} {n m : Nat} (h : (n : Int) + m = 8) : writeS s (n + m) = 4 := by simp [writeS]; omega
theorem writeS_n2 {s : Int} {n m : Nat} (h : ¬ (n : Int) + m = 8) (hs : (s == 2) = true) : writeS s (n + m) = 2 := by simp at hs; simp [writeS, hs]; omega
theorem writeS_n3 {s : Int} {n m : Nat} (h : ¬ (n : Int) + m = 8) (hs : (s == 2) = false) : writeS s (n + m) = 1 := by simp at hs; simp [writeS, hs]; omega

set_option maxHeartbeats 4000000 in
theorem WriteZone_ok (s : Int) (a : Option Addr) (n c : Nat) (l : List Int) (b : Option Addr) (m d : Nat) (k : List Int) (w : World) (h1 : Ints w a n c l) (h2 : Ints w b m d k) (hok : writeE s l k = 0) :
    Calls Tryz.prog 118 #[.agg #[.int .i64 s, .slice a n c], .slice b m d] w fun e w' => (∃ a' c', e = .returned (.tuple #[.agg #[.int .i64 (writeS s (n + m)), .slice a' (n + m) c'], .int .i64 0]) ∧ Ints w' a' (n + m) c' (l ++ k) ∧ ∀ x, a' = some x → w.heap.size ≤ x.block) ∧ Below w.heap.size w w' := by
  obtain ⟨hx, v2, v3, v4, hmp, hnm⟩ := writeE_yes h1.len h2.len hok
  have HX := hide hx
  clear hx hok
  have v5 : ¬ (8 : Int) < (n : Int) + m := by omega
  go_enter Tryz.func118, Tryz.ntmps118
  go_wp2_with fail
  refine (CheckZone_c s a n c l _ (h1.below (B := w.heap.size) (by (repeat (first | exact Below.refl _ _ | assumption | refine Below.drew ?_ | refine below_drewN ?_ _ | refine belowA ?_ _ | refine belowT ?_ (by assumption) | refine Below.setCell ?_ (by first | (simp; done) | (simp; omega)) _))) (Nat.le_refl _))).mono ?_
  rintro e w1 ⟨rfl, hb1⟩
  rw [HX.out]
  have c0 := keepc hb1 (p := ⟨w.heap.size, 0, none⟩) (u := .int .i64 s) (by go_simp)
  have c1 := keepc hb1 (p := ⟨w.heap.size, 1, none⟩) (u := .slice a n c) (by go_simp)
  have r0 := keepc hb1 (p := ⟨w.heap.size + 1, 0, none⟩) (u := .int .i64 0) (by go_simp)
  have r1 := keepc hb1 (p := ⟨w.heap.size + 1, 1, none⟩) (u := .slice none 0 0) (by go_simp)
  have f0 := keepf hb1 (p := ⟨w.heap.size + 1, 0, none⟩) (u := .int .i64 0) (by go_simp) (b := false) (by go_simp)
  have f1 := keepf hb1 (p := ⟨w.heap.size + 1, 1, none⟩) (u := .slice none 0 0) (by go_simp) (b := false) (by go_simp)
  have bw1 : Below w.heap.size w w1 := by (repeat (first | exact Below.refl _ _ | assumption | refine Below.drew ?_ | refine below_drewN ?_ _ | refine belowA ?_ _ | refine belowT ?_ (by assumption) | refine Below.setCell ?_ (by first | (simp; done) | (simp; omega)) _))
  have z1 : w.heap.size + 1 < w1.heap.size := World.block_lt_of_cell? _ _ r0
  have j1 := h1.below bw1 (Nat.le_refl _)
  have j2 := h2.below bw1 (Nat.le_refl _)
  go_wp2_with (first | (go_at_call 34; refine (in_c _ _ _ _).mono ?_; rintro e w1 ⟨rfl, rfl⟩) | (go_at_call 64; refine (all_c b m d k _ _ _ j2).mono ?_; rintro e w1 ⟨rfl, rfl⟩))
  refine (Concat_c _ a n c l b m d k _ (j1.below (B := w1.heap.size) (by (repeat (first | exact Below.refl _ _ | assumption | refine Below.drew ?_ | refine below_drewN ?_ _ | refine belowA ?_ _ | refine belowT ?_ (by assumption) | refine Below.setCell ?_ (by first | (simp; done) | (simp; omega)) _))) (Nat.le_refl _)) (j2.below (B := w1.heap.size) (by (repeat (first | exact Below.refl _ _ | assumption | refine Below.drew ?_ | refine below_drewN ?_ _ | refine belowA ?_ _ | refine belowT ?_ (by assumption) | refine Below.setCell ?_ (by first | (simp; done) | (simp; omega)) _))) (Nat.le_refl _)) (by omega) (by omega) (by go_simp) (by go_simp)).mono ?_
  rintro e w2 ⟨⟨v, rfl, ho⟩, hb2⟩
  obtain ⟨a2, c2, hv, i2, hfresh⟩ := ho.ints (h1.app_wf h2)
  rw [hv, List.length_append, h1.len, h2.len]
  rw [List.length_append, h1.len, h2.len] at i2
  clear hv ho
  replace c0 := keepc hb2 (past1 c0 _)
  replace f0 := keepf hb2 (past1 r0 _) (pastf1 r0 f0 _)
  replace f1 := keepf hb2 (past1 r1 _) (pastf1 r1 f1 _)
  replace r0 := keepc hb2 (past1 r0 _)
  replace r1 := keepc hb2 (past1 r1 _)
  have c0' := past1 c0
  have r0' := past1 r0
  have r1' := past1 r1
  have f0' := pastf1 r0 f0
  have f1' := pastf1 r1 f1
  have hne : ∀ x, a2 = some x → x.block ≠ w.heap.size + 1 := fun x e => by have h5 := hfresh x e; simp at h5; omega
  have hfr2 : ∀ x, a2 = some x → w.heap.size ≤ x.block := fun x e => by have h5 := hfresh x e; have h6 := bw1.size; simp at h5; omega
  have z2 : w.heap.size + 1 < w2.heap.size := World.block_lt_of_cell? _ _ r0
  go_wp2
  · refine bodyPost_ret (v := .tuple #[.agg #[.int .i64 4, .slice a2 (n + m) c2], .int .i64 0]) (by simp [results, Tryz.results118, go_sem, set2_0 r0, set2_1 r1]) rfl ⟨⟨a2, c2, by rw [writeS_n1 (by simpa using ‹((n : Int) + (m : Int) == 8) = true›)], ?_, hfr2⟩, ?_⟩
    · exact ((i2.setCell _ _ hne).setCell _ _ hne).below (belowA (Below.refl _ _) _) (Nat.le_refl _)
    · (repeat (first | exact Below.refl _ _ | assumption | refine Below.drew ?_ | refine below_drewN ?_ _ | refine belowA ?_ _ | refine belowT ?_ (by assumption) | refine Below.setCell ?_ (by first | (simp; done) | (simp; omega)) _))
  · refine bodyPost_ret (v := .tuple #[.agg #[.int .i64 2, .slice a2 (n + m) c2], .int .i64 0]) (by simp [results, Tryz.results118, go_sem, set2_0 r0, set2_1 r1]) rfl ⟨⟨a2, c2, by rw [writeS_n2 (by simpa using ‹((n : Int) + (m : Int) == 8) = false›) ‹_›], ?_, hfr2⟩, ?_⟩
    · exact ((i2.setCell _ _ hne).setCell _ _ hne).below (belowA (Below.refl _ _) _) (Nat.le_refl _)
    · (repeat (first | exact Below.refl _ _ | assumption | refine Below.drew ?_ | refine below_drewN ?_ _ | refine belowA ?_ _ | refine belowT ?_ (by assumption) | refine Below.setCell ?_ (by first | (simp; done) | (simp; omega)) _))
  · refine bodyPost_ret (v := .tuple #[.agg #[.int .i64 4, .slice a2 (n + m) c2], .int .i64 0]) (by simp [results, Tryz.results118, go_sem, set2_0 r0, set2_1 r1]) rfl ⟨⟨a2, c2, by rw [writeS_n1 (by simpa using ‹((n : Int) + (m : Int) == 8) = true›)], ?_, hfr2⟩, ?_⟩
    · exact ((i2.setCell _ _ hne).setCell _ _ hne).below (belowA (Below.refl _ _) _) (Nat.le_refl _)
    · (repeat (first | exact Below.refl _ _ | assumption | refine Below.drew ?_ | refine below_drewN ?_ _ | refine belowA ?_ _ | refine belowT ?_ (by assumption) | refine Below.setCell ?_ (by first | (simp; done) | (simp; omega)) _))
  · refine bodyPost_ret (v := .tuple #[.agg #[.int .i64 1, .slice a2 (n + m) c2], .int .i64 0]) (by simp [results, Tryz.results118, go_sem, set2_0 r0, set2_1 r1]) rfl ⟨⟨a2, c2, by rw [writeS_n3 (by simpa using ‹((n : Int) + (m : Int) == 8) = false›) ‹_›], ?_, hfr2⟩, ?_⟩
    · exact ((i2.setCell _ _ hne).setCell _ _ hne).below (belowA (Below.refl _ _) _) (Nat.le_refl _)
    · (repeat (first | exact Below.refl _ _ | assumption | refine Below.drew ?_ | refine below_drewN ?_ _ | refine belowA ?_ _ | refine belowT ?_ (by assumption) | refine Below.setCell ?_ (by first | (simp; done) | (simp; omega)) _))

end Go.Proofs.YtenmamcaldabdaaGreatDoor

/- The contracts of the document's own answers on zones; no condition but that the slice reads as the zones. -/
namespace Go.Proofs.YtenmamcaldabdaaGreatDoor
open Go.RowKit
set_option linter.unusedVariables false
set_option maxRecDepth 100000
set_option linter.unusedSimpArgs false

theorem vint {a b : Int} (h : a = b) : Value.int .i64 a = Value.int .i64 b := by rw [h]

set_option maxHeartbeats 2000000 in
theorem opened_some (b off n c : Nat) (Z : List ZV) (w : World) (h : Zones w (some ⟨b, off, none⟩) n c Z) (hb : b < w.heap.size)
    (hr : ∀ i z, Z[i]? = some z → w.cell? ⟨b, off + i * 2, none⟩ = some (.int .i64 z.s) ∧ w.cell? ⟨b, off + i * 2 + 1, none⟩ = some (.slice z.a z.n z.c)) :
    Calls Tryz.prog 95 #[.slice (some ⟨b, off, none⟩) n c] w fun e w' => e = .returned (.tuple #[.int .i64 (cnt isO Z), .int .i64 (cnt isA Z)]) ∧ Below w.heap.size w w' := by
  have hlen := h.len
  have hmax := h.max
  have hle := h.le
  go_enter Tryz.func95, Tryz.ntmps95
  go_wp2
  go_loopw [2, 3, 8] (fun o ac i wr => ∃ k : Nat, k ≤ n ∧ i = .int .i64 k ∧ o = .int .i64 (cnt isO (Z.take k)) ∧ ac = .int .i64 (cnt isA (Z.take k)) ∧ Below w.heap.size w wr) (fun _ _ i _ => n - (intOf i).toNat)
  case atStart => exact ⟨0, by omega, rfl, rfl, rfl, Below.refl _ _⟩
  case round =>
    obtain ⟨k, hk, rfl, rfl, rfl, hbr⟩ := hrel
    rename_i wr
    by_cases hlt : k < n
    · obtain ⟨z, hz⟩ : ∃ z, Z[k]? = some z := ⟨Z[k]'(by omega), by simp⟩
      obtain ⟨c0, c1⟩ := hr k z hz
      replace c0 := keepc hbr c0
      replace c1 := keepc hbr c1
      have hlt' : (k : Int) < (n : Int) := by omega
      have q1 := cnt_le isO (Z.take k)
      have q2 := cnt_le isA (Z.take k)
      have q3 := List.length_take_le k Z
      have s1 := hide (cnt_snoc isO Z k z hz)
      have s2 := hide (cnt_snoc isA Z k z hz)
      generalize cnt isO (Z.take k) = x at *
      generalize cnt isA (Z.take k) = y at *
      go_wp2
      all_goals
        refine ⟨⟨k + 1, by omega, by go_num, vint ?_, vint ?_, ?_⟩, by simp [intOf]; omega⟩
        · rw [s1.out]; simp [isO, *]
        · rw [s2.out]; simp [isA, isO, *]
        · (repeat (first | exact Below.refl _ _ | assumption | refine Below.drew ?_ | refine below_drewN ?_ _ | refine belowA ?_ _ | refine belowT ?_ (by assumption) | refine Below.setCell ?_ (by first | (simp; done) | (simp; omega)) _))
    · obtain rfl : k = n := by omega
      rw [List.take_of_length_le (by omega)]
      go_wp2
      go_ret2
      exact ⟨rfl, hbr⟩

set_option maxHeartbeats 2000000 in
theorem EqualFuncR_some (b1 o1 m1 b2 o2 m2 n : Nat) (Z1 Z2 : List ZV) (w : World) (h1 : Zones w (some ⟨b1, o1, none⟩) n m1 Z1) (h2 : Zones w (some ⟨b2, o2, none⟩) n m2 Z2)
    (hr1 : ∀ i z, Z1[i]? = some z → w.cell? ⟨b1, o1 + i * 2, none⟩ = some (.int .i64 z.s) ∧ w.cell? ⟨b1, o1 + i * 2 + 1, none⟩ = some (.slice z.a z.n z.c))
    (hr2 : ∀ i z, Z2[i]? = some z → w.cell? ⟨b2, o2 + i * 2, none⟩ = some (.int .i64 z.s) ∧ w.cell? ⟨b2, o2 + i * 2 + 1, none⟩ = some (.slice z.a z.n z.c)) :
    Calls Tryz.prog 96 #[.slice (some ⟨b1, o1, none⟩) n m1, .slice (some ⟨b2, o2, none⟩) n m2, .func (Fn.func 98) #[] #[]] w fun e w' => e = .returned (.bool (decide (Z1.map ZV.p = Z2.map ZV.p))) ∧ Below w.heap.size w w' := by
  have hlen1 := hide h1.len
  have hlen2 := hide h2.len
  have hmax := h1.max
  have hle := h1.le
  go_enter Tryz.func96, Tryz.ntmps96
  go_wp2
  go_loopw [17] (fun i wr => ∃ k : Nat, k ≤ n ∧ i = .int .i64 k ∧ (Z1.take k).map ZV.p = (Z2.take k).map ZV.p ∧ Below w.heap.size w wr) (fun i _ => n - (intOf i).toNat)
  case atStart => exact ⟨0, by omega, rfl, by simp, Below.refl _ _⟩
  case round =>
    obtain ⟨k, hk, rfl, hp, hbr⟩ := hrel
    have HP := hide hp
    clear hp
    rename_i wr
    by_cases hlt : k < n
    · obtain ⟨z, hz⟩ : ∃ z, Z1[k]? = some z := ⟨Z1[k]'(by rw [hlen1.out]; exact hlt), by simp⟩
      obtain ⟨y, hy⟩ : ∃ z, Z2[k]? = some z := ⟨Z2[k]'(by rw [hlen2.out]; exact hlt), by simp⟩
      obtain ⟨c0, c1⟩ := hr1 k z hz
      obtain ⟨d0, d1⟩ := hr2 k y hy
      have iz := (h1.ok z (List.mem_of_getElem? hz)).below hbr (Nat.le_refl _)
      have iy := (h2.ok y (List.mem_of_getElem? hy)).below hbr (Nat.le_refl _)
      replace c0 := keepc hbr c0
      replace c1 := keepc hbr c1
      replace d0 := past1 (keepc hbr d0)
      replace d1 := past1 (keepc hbr d1)
      have HZ := hide hz
      have HY := hide hy
      have hlt' : (k : Int) < (n : Int) := by omega
      clear hz hy
      go_wp2_with (go_at_call 98; refine (SameZone_c z.s y.s z.a y.a z.n z.c y.n y.c z.l y.l _ (by refine Ints.below iz (B := wr.heap.size) ?_ (Nat.le_refl _); (repeat (first | exact Below.refl _ _ | assumption | refine Below.drew ?_ | refine below_drewN ?_ _ | refine belowA ?_ _ | refine belowT ?_ (by assumption) | refine Below.setCell ?_ (by first | (simp; done) | (simp; omega)) _))) (by refine Ints.below iy (B := wr.heap.size) ?_ (Nat.le_refl _); (repeat (first | exact Below.refl _ _ | assumption | refine Below.drew ?_ | refine below_drewN ?_ _ | refine belowA ?_ _ | refine belowT ?_ (by assumption) | refine Below.setCell ?_ (by first | (simp; done) | (simp; omega)) _)))).mono ?_; rintro e w9 ⟨rfl, hb9⟩)
      · rename_i hne
        go_ret
        exact ⟨ret_bool (decide_eq_false (map_ne Z1 Z2 k z y HZ.out HY.out (by simp at hne; rintro ⟨e1, e2⟩; rcases hne with h | h; exact h e1; exact h e2))).symm, by (repeat (first | exact Below.refl _ _ | assumption | refine Below.drew ?_ | refine below_drewN ?_ _ | refine belowA ?_ _ | refine belowT ?_ (by assumption) | refine Below.setCell ?_ (by first | (simp; done) | (simp; omega)) _))⟩
      · rename_i heq
        exact ⟨⟨k + 1, by omega, by go_num, map_take_step Z1 Z2 k z y HZ.out HY.out HP.out (by simpa using heq), by (repeat (first | exact Below.refl _ _ | assumption | refine Below.drew ?_ | refine below_drewN ?_ _ | refine belowA ?_ _ | refine belowT ?_ (by assumption) | refine Below.setCell ?_ (by first | (simp; done) | (simp; omega)) _))⟩, by simp [intOf]; omega⟩
    · obtain rfl : k = n := by omega
      go_wp2
      go_ret
      have hp := HP.out
      rw [List.take_of_length_le (by rw [hlen1.out]; omega), List.take_of_length_le (by rw [hlen2.out]; omega)] at hp
      exact ⟨ret_bool (by simp [hp]), hbr⟩

theorem EqualFuncR_ne (a1 a2 : Option Addr) (n1 n2 c1 c2 : Nat) (fv : Value) (w : World) (hne : n1 ≠ n2) (hm1 : n1 ≤ 9223372036854775807) (hm2 : n2 ≤ 9223372036854775807) :
    Calls Tryz.prog 96 #[.slice a1 n1 c1, .slice a2 n2 c2, fv] w fun e w' => e = .returned (.bool false) ∧ w' = w := by
  have hb : ((n1 : Int) != (n2 : Int)) = true := by simp; omega
  go_enter Tryz.func96, Tryz.ntmps96
  go_wp2
  go_ret
  exact ⟨rfl, rfl⟩

theorem EqualFuncR_zero (a1 a2 : Option Addr) (c1 c2 : Nat) (fv : Value) (w : World) :
    Calls Tryz.prog 96 #[.slice a1 0 c1, .slice a2 0 c2, fv] w fun e w' => e = .returned (.bool true) ∧ w' = w := by
  go_enter Tryz.func96, Tryz.ntmps96
  go_wp2
  refine wp_loop_rounds 1 ?_
  rw [rounds_succ]
  go_wp2
  go_ret
  exact ⟨rfl, rfl⟩

theorem EqualFuncR_c (a1 a2 : Option Addr) (n1 n2 c1 c2 : Nat) (Z1 Z2 : List ZV) (w : World) (h1 : Zones w a1 n1 c1 Z1) (h2 : Zones w a2 n2 c2 Z2) :
    Calls Tryz.prog 96 #[.slice a1 n1 c1, .slice a2 n2 c2, .func (Fn.func 98) #[] #[]] w fun e w' => e = .returned (.bool (decide (Z1.map ZV.p = Z2.map ZV.p))) ∧ Below w.heap.size w w' := by
  by_cases hn : n1 = n2
  · subst hn
    by_cases h0 : n1 = 0
    · subst h0
      have e1 := h1.len
      have e2 := h2.len
      rw [List.length_eq_zero_iff] at e1 e2
      subst e1 e2
      refine (EqualFuncR_zero a1 a2 c1 c2 _ w).mono ?_
      rintro e w' ⟨rfl, rfl⟩
      exact ⟨rfl, Below.refl _ _⟩
    · rcases h1.row with h | ⟨b1, o1, rfl, _, hr1⟩
      · omega
      · rcases h2.row with h | ⟨b2, o2, rfl, _, hr2⟩
        · omega
        · exact EqualFuncR_some b1 o1 c1 b2 o2 c2 n1 Z1 Z2 w h1 h2 hr1 hr2
  · have m1 := h1.max
    have m2 := h2.max
    have q1 := h1.le
    have q2 := h2.le
    refine (EqualFuncR_ne a1 a2 n1 n2 c1 c2 _ w hn (by omega) (by omega)).mono ?_
    rintro e w' ⟨rfl, rfl⟩
    exact ⟨ret_bool (decide_eq_false (map_len Z1 Z2 (by rw [h1.len, h2.len]; exact hn))).symm, Below.refl _ _⟩



theorem opened_c (a : Option Addr) (n c : Nat) (Z : List ZV) (w : World) (h : Zones w a n c Z) (hn : 0 < n) :
    Calls Tryz.prog 95 #[.slice a n c] w fun e w' => e = .returned (.tuple #[.int .i64 (cnt isO Z), .int .i64 (cnt isA Z)]) ∧ Below w.heap.size w w' := by
  rcases h.row with h0 | ⟨b, off, rfl, hb, hr⟩
  · omega
  · exact opened_some b off n c Z w h hb hr

theorem SameZones_c (a1 a2 : Option Addr) (n1 n2 c1 c2 : Nat) (Z1 Z2 : List ZV) (w : World) (h1 : Zones w a1 n1 c1 Z1) (h2 : Zones w a2 n2 c2 Z2) :
    Calls Tryz.prog 67 #[.slice a1 n1 c1, .slice a2 n2 c2] w fun e w' => e = .returned (.bool (decide (Z1.map ZV.p = Z2.map ZV.p))) ∧ Below w.heap.size w w' := by
  go_enter Tryz.func67, Tryz.ntmps67
  go_wp2_with fail
  refine (EqualFuncR_c a1 a2 n1 n2 c1 c2 Z1 Z2 _ h1 h2).mono ?_
  rintro e w' ⟨rfl, hb⟩
  go_wp2
  go_ret
  exact ⟨rfl, hb⟩

set_option maxHeartbeats 2000000 in
theorem CheckZones_four (b off c : Nat) (Z : List ZV) (w : World) (h : Zones w (some ⟨b, off, none⟩) 4 c Z)
    (hr : ∀ i z, Z[i]? = some z → w.cell? ⟨b, off + i * 2, none⟩ = some (.int .i64 z.s) ∧ w.cell? ⟨b, off + i * 2 + 1, none⟩ = some (.slice z.a z.n z.c)) :
    Calls Tryz.prog 62 #[.slice (some ⟨b, off, none⟩) 4 c] w fun e w' => e = .returned (.int .i64 (checkZs (Z.map ZV.p))) ∧ Below w.heap.size w w' := by
  have hlen := hide h.len
  go_enter Tryz.func62, Tryz.ntmps62
  go_wp2
  go_loopw [13] (fun i wr => ∃ k : Nat, k ≤ 4 ∧ i = .int .i64 k ∧ firstE ((Z.take k).map ZV.p) = 0 ∧ Below w.heap.size w wr) (fun i _ => 4 - (intOf i).toNat)
  case atStart => exact ⟨0, by omega, rfl, rfl, Below.refl _ _⟩
  case round =>
    obtain ⟨k, hk, rfl, hf, hbr⟩ := hrel
    have HF := hide hf
    clear hf
    rename_i wr
    by_cases hlt : k < 4
    · obtain ⟨z, hz⟩ : ∃ z, Z[k]? = some z := ⟨Z[k]'(by rw [hlen.out]; exact hlt), by simp⟩
      obtain ⟨c0, c1⟩ := hr k z hz
      have iz := (h.ok z (List.mem_of_getElem? hz)).below hbr (Nat.le_refl _)
      replace c0 := keepc hbr c0
      replace c1 := keepc hbr c1
      have HZ := hide hz
      have hlt' : (k : Int) < 4 := by omega
      clear hz
      go_wp2_with (go_at_call 94; refine (CheckZone_c z.s z.a z.n z.c z.l _ (by refine Ints.below iz (B := wr.heap.size) ?_ (Nat.le_refl _); (repeat (first | exact Below.refl _ _ | assumption | refine Below.drew ?_ | refine below_drewN ?_ _ | refine belowA ?_ _ | refine belowT ?_ (by assumption) | refine Below.setCell ?_ (by first | (simp; done) | (simp; omega)) _)))).mono ?_; rintro e w9 ⟨rfl, hb9⟩)
      · rename_i hne
        go_ret
        exact ⟨ret_int (checkZs_2 hlen.out (firstE_at Z k z HZ.out HF.out (by simpa using hne)) (by simpa using hne)), by (repeat (first | exact Below.refl _ _ | assumption | refine Below.drew ?_ | refine below_drewN ?_ _ | refine belowA ?_ _ | refine belowT ?_ (by assumption) | refine Below.setCell ?_ (by first | (simp; done) | (simp; omega)) _))⟩
      · rename_i heq
        exact ⟨⟨k + 1, by omega, by go_num, firstE_step Z k z HZ.out HF.out (by simpa using heq), by (repeat (first | exact Below.refl _ _ | assumption | refine Below.drew ?_ | refine below_drewN ?_ _ | refine belowA ?_ _ | refine belowT ?_ (by assumption) | refine Below.setCell ?_ (by first | (simp; done) | (simp; omega)) _))⟩, by simp [intOf]; omega⟩
    · obtain rfl : k = 4 := by omega
      have hf := HF.out
      rw [List.take_of_length_le (by rw [hlen.out]; omega)] at hf
      have HG := hide hf
      clear hf HF
      go_wp2_with fail
      refine (opened_c _ 4 c Z _ (h.below (B := w.heap.size) hbr (Nat.le_refl _)) (by omega)).mono ?_
      rintro e w9 ⟨rfl, hb9⟩
      have q0 := cnt_le isO Z
      go_wp2
      · go_ret
        exact ⟨ret_int (checkZs_3 hlen.out HG.out (by omega)), by (repeat (first | exact Below.refl _ _ | assumption | refine Below.drew ?_ | refine below_drewN ?_ _ | refine belowA ?_ _ | refine belowT ?_ (by assumption) | refine Below.setCell ?_ (by first | (simp; done) | (simp; omega)) _))⟩
      · go_ret
        exact ⟨ret_int (checkZs_0 hlen.out HG.out (by omega)), by (repeat (first | exact Below.refl _ _ | assumption | refine Below.drew ?_ | refine below_drewN ?_ _ | refine belowA ?_ _ | refine belowT ?_ (by assumption) | refine Below.setCell ?_ (by first | (simp; done) | (simp; omega)) _))⟩
      · go_ret
        exact ⟨ret_int (checkZs_3 hlen.out HG.out (by omega)), by (repeat (first | exact Below.refl _ _ | assumption | refine Below.drew ?_ | refine below_drewN ?_ _ | refine belowA ?_ _ | refine belowT ?_ (by assumption) | refine Below.setCell ?_ (by first | (simp; done) | (simp; omega)) _))⟩

theorem CheckZones_c (a : Option Addr) (n c : Nat) (Z : List ZV) (w : World) (h : Zones w a n c Z) :
    Calls Tryz.prog 62 #[.slice a n c] w fun e w' => e = .returned (.int .i64 (checkZs (Z.map ZV.p))) ∧ Below w.heap.size w w' := by
  have hm := h.max
  have hl := h.le
  by_cases h4 : n = 4
  · subst h4
    rcases h.row with h0 | ⟨b, off, rfl, hb, hr⟩
    · omega
    · exact CheckZones_four b off c Z w h hr
  · have hne : ((n : Int) != 4) = true := by simp; omega
    have hz := checkZs_1 (Z := Z) (by rw [h.len]; exact h4)
    have HZ := hide hz
    clear hz
    go_enter Tryz.func62, Tryz.ntmps62
    go_wp2
    go_ret
    exact ⟨ret_int HZ.out, Below.refl _ _⟩

end Go.Proofs.YtenmamcaldabdaaGreatDoor
