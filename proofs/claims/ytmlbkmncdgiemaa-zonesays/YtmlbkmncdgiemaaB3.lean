/- The contract of the document's own answer ReadZone; no condition but that the zone reads as its state and list. -/
import Derived.Test.YtmlbkmncdgiemaaB2
namespace Go.Proofs.Ytmlbkmncdgiemaa
open Go.RowKit
set_option linter.unusedVariables false
set_option linter.unusedSimpArgs false

theorem OwnI.alloc {w : World} {base : Nat} {v : Value} {l : List Int} (h : OwnI w base v l) (o : Obj) : OwnI (w.alloc o) base v l := World.ownsRow.alloc h o

theorem OwnI.own {w : World} {base : Nat} {v : Value} {l : List Int} (h : OwnI w base v l) : ∀ k, v.ownBlock = some k → base ≤ k := by
  intro k e
  obtain ⟨_, h⟩ := h
  rcases h with ⟨rfl, _⟩ | ⟨g, cap, cur, rfl, hb, _⟩
  · cases e
  · simp [Value.ownBlock] at e; omega

theorem OwnI.snoc {w : World} {base : Nat} {v : Value} {l : List Int} {x : Int} (h : w.ownsRow base 3 1 v (l.length + 1) (cellsOf l ++ [.int .i64 x])) : OwnI w base v (l ++ [x]) := by
  unfold OwnI
  rw [List.length_append, ← cellsOf_app]
  exact h

theorem OwnI.mono {w : World} {base base' : Nat} {v : Value} {l : List Int} (h : OwnI w base v l) (hb : base' ≤ base) : OwnI w base' v l := by
  obtain ⟨h1, h⟩ := h
  refine ⟨h1, ?_⟩
  rcases h with h | ⟨g, cap, cur, e, hg, r⟩
  · exact .inl h
  · exact .inr ⟨g, cap, cur, e, Nat.le_trans hb hg, r⟩

theorem take_drop_snoc (l : List Int) (i j : Nat) (h : i + j < l.length) : (l.drop i).take (j + 1) = (l.drop i).take j ++ [l.getD (i + j) 0] := by
  rw [take_succ_getD _ j (by simp; omega)]
  simp [List.getD]

set_option maxHeartbeats 2000000 in
theorem ReadZone_bad (s : Int) (a : Option Addr) (n c : Nat) (l : List Int) (p k : Int) (w : World) (h1 : Ints w a n c l) (hbad : checkZ s l ≠ 0) :
    Calls Try.prog 11 #[.agg #[.int .i64 s, .slice a n c], .int .i64 p, .int .i64 k] w fun e w' => e = .returned (.tuple #[.slice none 0 0, .int .i64 (checkZ s l)]) ∧ Below w.heap.size w w' := by
  go_enter Try.func11, Try.ntmps11
  go_wp2_with fail
  refine (CheckZone_c s a n c l _ (h1.below (B := w.heap.size) (by (repeat (first | exact Below.refl _ _ | assumption | refine Below.drew ?_ | refine below_drewN ?_ _ | refine belowA ?_ _ | refine belowT ?_ (by assumption) | refine Below.setCell ?_ (by simp) _))) (Nat.le_refl _))).mono ?_
  rintro e w1 ⟨rfl, hb1⟩
  generalize hx : checkZ s l = x at *
  have HX := hide hx
  clear hx
  have hx : (x != 0) = true := by simpa using hbad
  clear hbad
  go_wp2
  go_ret2
  exact ⟨ret_vi HX.out.symm, by (repeat (first | exact Below.refl _ _ | assumption | refine Below.drew ?_ | refine below_drewN ?_ _ | refine belowA ?_ _ | refine belowT ?_ (by assumption) | refine Below.setCell ?_ (by simp) _))⟩

set_option maxHeartbeats 2000000 in
theorem ReadZone_out (s : Int) (a : Option Addr) (n c : Nat) (l : List Int) (p k : Int) (w : World) (h1 : Ints w a n c l) (hc : checkZ s l = 0) (ho : inB p 0 8 = false ∨ inB p 0 8 = true ∧ inB k 0 (8 - p) = false) :
    Calls Try.prog 11 #[.agg #[.int .i64 s, .slice a n c], .int .i64 p, .int .i64 k] w fun e w' => e = .returned (.tuple #[.slice none 0 0, .int .i64 3]) ∧ Below w.heap.size w w' := by
  have HC := hide hc
  clear hc
  rcases ho with ho | ⟨ho, ho2⟩
  · go_enter Try.func11, Try.ntmps11
    go_wp2_with fail
    refine (CheckZone_c s a n c l _ (h1.below (B := w.heap.size) (by (repeat (first | exact Below.refl _ _ | assumption | refine Below.drew ?_ | refine below_drewN ?_ _ | refine belowA ?_ _ | refine belowT ?_ (by assumption) | refine Below.setCell ?_ (by simp) _))) (Nat.le_refl _))).mono ?_
    rintro e w1 ⟨rfl, hb1⟩
    rw [HC.out]
    go_wp2_with (go_at_call 22; refine (in_c _ _ _ _).mono ?_; rintro e w1 ⟨rfl, rfl⟩)
    go_ret2
    exact ⟨rfl, by (repeat (first | exact Below.refl _ _ | assumption | refine Below.drew ?_ | refine below_drewN ?_ _ | refine belowA ?_ _ | refine belowT ?_ (by assumption) | refine Below.setCell ?_ (by simp) _))⟩
  · have hp : 0 ≤ p ∧ p ≤ 8 := by simp [inB] at ho; omega
    obtain ⟨hp1, hp2⟩ := hp
    go_enter Try.func11, Try.ntmps11
    go_wp2_with fail
    refine (CheckZone_c s a n c l _ (h1.below (B := w.heap.size) (by (repeat (first | exact Below.refl _ _ | assumption | refine Below.drew ?_ | refine below_drewN ?_ _ | refine belowA ?_ _ | refine belowT ?_ (by assumption) | refine Below.setCell ?_ (by simp) _))) (Nat.le_refl _))).mono ?_
    rintro e w1 ⟨rfl, hb1⟩
    rw [HC.out]
    go_wp2_with (go_at_call 22; refine (in_c _ _ _ _).mono ?_; rintro e w1 ⟨rfl, rfl⟩)
    go_ret2
    exact ⟨rfl, by (repeat (first | exact Below.refl _ _ | assumption | refine Below.drew ?_ | refine below_drewN ?_ _ | refine belowA ?_ _ | refine belowT ?_ (by assumption) | refine Below.setCell ?_ (by simp) _))⟩

set_option maxHeartbeats 4000000 in
theorem ReadZone_ok0 (s : Int) (a : Option Addr) (n c : Nat) (l : List Int) (p : Nat) (w : World) (h1 : Ints w a n c l) (hc : checkZ s l = 0) (hp8 : p ≤ 8) (hpk : p ≤ n) :
    Calls Try.prog 11 #[.agg #[.int .i64 s, .slice a n c], .int .i64 p, .int .i64 0] w fun e w' => e = .returned (.tuple #[.slice none 0 0, .int .i64 0]) ∧ Below w.heap.size w w' := by
  have HC := hide hc
  have hn8 := (checkZ_len hc).2.2.1
  rw [h1.len] at hn8
  clear hc
  have ho : inB (p : Int) 0 8 = true := by simp [inB]; omega
  have ho2 : inB 0 0 (8 - (p : Int)) = true := by simp [inB]; omega
  have hpk' : ¬ (n : Int) < (p : Int) := by omega
  go_enter Try.func11, Try.ntmps11
  go_wp2_with fail
  refine (CheckZone_c s a n c l _ (h1.below (B := w.heap.size) (by (repeat (first | exact Below.refl _ _ | assumption | refine Below.drew ?_ | refine below_drewN ?_ _ | refine belowA ?_ _ | refine belowT ?_ (by assumption) | refine Below.setCell ?_ (by simp) _))) (Nat.le_refl _))).mono ?_
  rintro e w1 ⟨rfl, hb1⟩
  rw [HC.out]
  have c1 := keepc hb1 (p := ⟨w.heap.size, 1, none⟩) (u := .slice a n c) (by go_simp)
  have bw1 : Below w.heap.size w w1 := by (repeat (first | exact Below.refl _ _ | assumption | refine Below.drew ?_ | refine below_drewN ?_ _ | refine belowA ?_ _ | refine belowT ?_ (by assumption) | refine Below.setCell ?_ (by simp) _))
  clear hb1
  go_wp2_with (go_at_call 22; refine (in_c _ _ _ _).mono ?_; rintro e w1 ⟨rfl, rfl⟩)
  refine wp_loop_rounds 1 ?_
  rw [rounds_succ]
  go_wp2
  go_ret2
  exact ⟨rfl, by (repeat (first | exact Below.refl _ _ | assumption | refine Below.drew ?_ | refine below_drewN ?_ _ | refine belowA ?_ _ | refine belowT ?_ (by assumption) | refine Below.setCell ?_ (by simp) _))⟩

set_option maxHeartbeats 4000000 in
theorem ReadZone_okS (s : Int) (b0 off : Nat) (n c : Nat) (l : List Int) (p k : Nat) (w : World) (h1 : Ints w (some ⟨b0, off, none⟩) n c l) (hc : checkZ s l = 0) (hk8 : p + k ≤ 8) (hpk : p + k ≤ n) :
    Calls Try.prog 11 #[.agg #[.int .i64 s, .slice (some ⟨b0, off, none⟩) n c], .int .i64 p, .int .i64 k] w fun e w' => (∃ v, e = .returned (.tuple #[v, .int .i64 0]) ∧ OwnI w' w.heap.size v ((l.drop p).take k)) ∧ Below w.heap.size w w' := by
  have HC := hide hc
  have hn8 := (checkZ_len hc).2.2.1
  rw [h1.len] at hn8
  clear hc
  obtain ⟨i, hi, hz, hs, hb⟩ := intInfo
  have ho : inB (p : Int) 0 8 = true := by simp [inB]; omega
  have ho2 : inB (k : Int) 0 (8 - (p : Int)) = true := by simp [inB]; omega
  go_enter Try.func11, Try.ntmps11
  go_wp2_with fail
  refine (CheckZone_c s _ n c l _ (h1.below (B := w.heap.size) (by (repeat (first | exact Below.refl _ _ | assumption | refine Below.drew ?_ | refine below_drewN ?_ _ | refine belowA ?_ _ | refine belowT ?_ (by assumption) | refine Below.setCell ?_ (by simp) _))) (Nat.le_refl _))).mono ?_
  rintro e w1 ⟨rfl, hb1⟩
  rw [HC.out]
  have c1 := keepc hb1 (p := ⟨w.heap.size, 1, none⟩) (u := .slice (some ⟨b0, off, none⟩) n c) (by go_simp)
  have bw1 : Below w.heap.size w w1 := by (repeat (first | exact Below.refl _ _ | assumption | refine Below.drew ?_ | refine below_drewN ?_ _ | refine belowA ?_ _ | refine belowT ?_ (by assumption) | refine Below.setCell ?_ (by simp) _))
  have j1 := h1.below bw1 (Nat.le_refl _)
  clear hb1
  go_wp2_with (go_at_call 22; refine (in_c _ _ _ _).mono ?_; rintro e w1 ⟨rfl, rfl⟩)
  go_loopw [9, 27] (fun o x wr => ∃ j : Nat, j ≤ k ∧ x = .int .i64 j ∧ OwnI wr w1.heap.size o ((l.drop p).take j) ∧ Below w1.heap.size w1 wr) (fun _ x _ => k - (intOf x).toNat)
  case atStart => exact ⟨0, by omega, rfl, by simpa using nil_own _ _, Below.refl _ _⟩
  case round =>
    obtain ⟨j, hj, rfl, hown, hbr⟩ := hrel
    rename_i wr
    have d1 := keepc hbr c1
    by_cases hlt : j < k
    · have hlt' : (j : Int) < (k : Int) := by omega
      have hge : ¬ (n : Int) ≤ (p : Int) + (j : Int) := by omega
      have hcell : wr.cell? ⟨b0, off + (p + j), none⟩ = some (.int .i64 (l.getD (p + j) 0)) := by
        have j2 := j1.below hbr (Nat.le_refl _)
        rcases j2.row with h0 | ⟨b', off', e', _, hcs⟩
        · omega
        · cases e'; exact hcs (p + j) (by omega)
      generalize hx : l.getD (p + j) 0 = x at hcell
      have HX := hide hx
      have hcell' := past1 hcell
      clear hx
      have hlen : ((l.drop p).take j).length = j := by simp; rw [h1.len]; omega
      generalize hL : (l.drop p).take j = L at hown hlen
      have HL := hide hL
      have HLEN := hide hlen
      have hob := hown.own
      clear hL hlen
      go_wp2_with (at_builtin; refine wpList_append_own _ rfl _ _ 24 rfl w1.heap.size 3 i (.int .i64 0) 1 8 Try.underlying24 hi hz hs hb rfl (by decide) _ _ _ rfl (hown.alloc _) ⟨wr.heap.size, 0, none⟩ 1 1 [.int .i64 x] rfl rfl (cell_one_new _ _ _) ?hq1 ?hq2 ?hq3 ?hq4 ?hq5)
      case hq1 => rfl
      case hq2 => have := HLEN.out; simp [maxLen]; omega
      case hq3 => have := HLEN.out; omega
      case hq4 => have := hbr.size; omega
      case hq5 =>
        intro v' w3 hown3 hg3 _
        have b3 : Below w1.heap.size w1 w3 := (hbr.alloc hbr.size _).grown hg3 (by simp; have := hbr.size; omega) hob
        have o3 : OwnI w3 w1.heap.size v' ((l.drop p).take (j + 1)) := by
          rw [take_drop_snoc l p j (by rw [h1.len]; omega), HL.out, HX.out]
          exact OwnI.snoc hown3
        go_wp2
        exact ⟨⟨j + 1, by omega, by go_num, o3, b3⟩, by simp [intOf]; omega⟩
    · obtain rfl : j = k := by omega
      have hpk' : ¬ (n : Int) < (p : Int) := by omega
      go_wp2
      go_ret2
      exact ⟨⟨_, rfl, hown.mono bw1.size⟩, by (repeat (first | exact Below.refl _ _ | assumption | refine Below.drew ?_ | refine below_drewN ?_ _ | refine belowA ?_ _ | refine belowT ?_ (by assumption) | refine Below.setCell ?_ (by simp) _))⟩

set_option maxHeartbeats 4000000 in
theorem ReadZone_late0 (s : Int) (a : Option Addr) (n c : Nat) (l : List Int) (p k : Nat) (w : World) (h1 : Ints w a n c l) (hc : checkZ s l = 0) (hk8 : p + k ≤ 8) (hnp : n ≤ p) (hpk : n < p + k) :
    Calls Try.prog 11 #[.agg #[.int .i64 s, .slice a n c], .int .i64 p, .int .i64 k] w fun e w' => e = .returned (.tuple #[.slice none 0 0, .int .i64 6]) ∧ Below w.heap.size w w' := by
  have HC := hide hc
  clear hc
  have ho : inB (p : Int) 0 8 = true := by simp [inB]; omega
  have ho2 : inB (k : Int) 0 (8 - (p : Int)) = true := by simp [inB]; omega
  have hnp' : (n : Int) ≤ (p : Int) := by omega
  by_cases hk : k = 0
  · subst hk
    rw [show ((0 : Nat) : Int) = 0 from rfl] at *
    have hpk' : (n : Int) < (p : Int) := by omega
    go_enter Try.func11, Try.ntmps11
    go_wp2_with fail
    refine (CheckZone_c s a n c l _ (h1.below (B := w.heap.size) (by (repeat (first | exact Below.refl _ _ | assumption | refine Below.drew ?_ | refine below_drewN ?_ _ | refine belowA ?_ _ | refine belowT ?_ (by assumption) | refine Below.setCell ?_ (by simp) _))) (Nat.le_refl _))).mono ?_
    rintro e w1 ⟨rfl, hb1⟩
    rw [HC.out]
    have c1 := keepc hb1 (p := ⟨w.heap.size, 1, none⟩) (u := .slice a n c) (by go_simp)
    have bw1 : Below w.heap.size w w1 := by (repeat (first | exact Below.refl _ _ | assumption | refine Below.drew ?_ | refine below_drewN ?_ _ | refine belowA ?_ _ | refine belowT ?_ (by assumption) | refine Below.setCell ?_ (by simp) _))
    clear hb1
    go_wp2_with (go_at_call 22; refine (in_c _ _ _ _).mono ?_; rintro e w1 ⟨rfl, rfl⟩)
    refine wp_loop_rounds 1 ?_
    rw [rounds_succ]
    go_wp2
    go_ret2
    exact ⟨rfl, by (repeat (first | exact Below.refl _ _ | assumption | refine Below.drew ?_ | refine below_drewN ?_ _ | refine belowA ?_ _ | refine belowT ?_ (by assumption) | refine Below.setCell ?_ (by simp) _))⟩
  · have hk' : (0 : Int) < (k : Int) := by omega
    go_enter Try.func11, Try.ntmps11
    go_wp2_with fail
    refine (CheckZone_c s a n c l _ (h1.below (B := w.heap.size) (by (repeat (first | exact Below.refl _ _ | assumption | refine Below.drew ?_ | refine below_drewN ?_ _ | refine belowA ?_ _ | refine belowT ?_ (by assumption) | refine Below.setCell ?_ (by simp) _))) (Nat.le_refl _))).mono ?_
    rintro e w1 ⟨rfl, hb1⟩
    rw [HC.out]
    have c1 := keepc hb1 (p := ⟨w.heap.size, 1, none⟩) (u := .slice a n c) (by go_simp)
    have bw1 : Below w.heap.size w w1 := by (repeat (first | exact Below.refl _ _ | assumption | refine Below.drew ?_ | refine below_drewN ?_ _ | refine belowA ?_ _ | refine belowT ?_ (by assumption) | refine Below.setCell ?_ (by simp) _))
    clear hb1
    go_wp2_with (go_at_call 22; refine (in_c _ _ _ _).mono ?_; rintro e w1 ⟨rfl, rfl⟩)
    refine wp_loop_rounds 1 ?_
    rw [rounds_succ]
    go_wp2
    go_ret2
    exact ⟨rfl, by (repeat (first | exact Below.refl _ _ | assumption | refine Below.drew ?_ | refine below_drewN ?_ _ | refine belowA ?_ _ | refine belowT ?_ (by assumption) | refine Below.setCell ?_ (by simp) _))⟩

set_option maxHeartbeats 4000000 in
theorem ReadZone_lateS (s : Int) (b0 off : Nat) (n c : Nat) (l : List Int) (p k : Nat) (w : World) (h1 : Ints w (some ⟨b0, off, none⟩) n c l) (hc : checkZ s l = 0) (hk8 : p + k ≤ 8) (hnp : p < n) (hpk : n < p + k) :
    Calls Try.prog 11 #[.agg #[.int .i64 s, .slice (some ⟨b0, off, none⟩) n c], .int .i64 p, .int .i64 k] w fun e w' => e = .returned (.tuple #[.slice none 0 0, .int .i64 6]) ∧ Below w.heap.size w w' := by
  have HC := hide hc
  have hn8 := (checkZ_len hc).2.2.1
  rw [h1.len] at hn8
  clear hc
  obtain ⟨i, hi, hz, hs, hb⟩ := intInfo
  have ho : inB (p : Int) 0 8 = true := by simp [inB]; omega
  have ho2 : inB (k : Int) 0 (8 - (p : Int)) = true := by simp [inB]; omega
  go_enter Try.func11, Try.ntmps11
  go_wp2_with fail
  refine (CheckZone_c s _ n c l _ (h1.below (B := w.heap.size) (by (repeat (first | exact Below.refl _ _ | assumption | refine Below.drew ?_ | refine below_drewN ?_ _ | refine belowA ?_ _ | refine belowT ?_ (by assumption) | refine Below.setCell ?_ (by simp) _))) (Nat.le_refl _))).mono ?_
  rintro e w1 ⟨rfl, hb1⟩
  rw [HC.out]
  have c1 := keepc hb1 (p := ⟨w.heap.size, 1, none⟩) (u := .slice (some ⟨b0, off, none⟩) n c) (by go_simp)
  have bw1 : Below w.heap.size w w1 := by (repeat (first | exact Below.refl _ _ | assumption | refine Below.drew ?_ | refine below_drewN ?_ _ | refine belowA ?_ _ | refine belowT ?_ (by assumption) | refine Below.setCell ?_ (by simp) _))
  have j1 := h1.below bw1 (Nat.le_refl _)
  clear hb1
  go_wp2_with (go_at_call 22; refine (in_c _ _ _ _).mono ?_; rintro e w1 ⟨rfl, rfl⟩)
  go_loopw [9, 27] (fun o x wr => ∃ j : Nat, j ≤ k ∧ p + j ≤ n ∧ x = .int .i64 j ∧ OwnI wr w1.heap.size o ((l.drop p).take j) ∧ Below w1.heap.size w1 wr) (fun _ x _ => k - (intOf x).toNat)
  case atStart => exact ⟨0, by omega, by omega, rfl, by simpa using nil_own _ _, Below.refl _ _⟩
  case round =>
    obtain ⟨j, hj, hpj, rfl, hown, hbr⟩ := hrel
    rename_i wr
    have d1 := keepc hbr c1
    have hlt' : (j : Int) < (k : Int) := by omega
    by_cases hlt : p + j < n
    · have hge : ¬ (n : Int) ≤ (p : Int) + (j : Int) := by omega
      have hcell : wr.cell? ⟨b0, off + (p + j), none⟩ = some (.int .i64 (l.getD (p + j) 0)) := by
        have j2 := j1.below hbr (Nat.le_refl _)
        rcases j2.row with h0 | ⟨b', off', e', _, hcs⟩
        · omega
        · cases e'; exact hcs (p + j) (by omega)
      generalize hx : l.getD (p + j) 0 = x at hcell
      have HX := hide hx
      have hcell' := past1 hcell
      clear hx
      have hlen : ((l.drop p).take j).length = j := by simp; rw [h1.len]; omega
      generalize hL : (l.drop p).take j = L at hown hlen
      have HL := hide hL
      have HLEN := hide hlen
      have hob := hown.own
      clear hL hlen
      go_wp2_with (at_builtin; refine wpList_append_own _ rfl _ _ 24 rfl w1.heap.size 3 i (.int .i64 0) 1 8 Try.underlying24 hi hz hs hb rfl (by decide) _ _ _ rfl (hown.alloc _) ⟨wr.heap.size, 0, none⟩ 1 1 [.int .i64 x] rfl rfl (cell_one_new _ _ _) ?hq1 ?hq2 ?hq3 ?hq4 ?hq5)
      case hq1 => rfl
      case hq2 => have := HLEN.out; simp [maxLen]; omega
      case hq3 => have := HLEN.out; omega
      case hq4 => have := hbr.size; omega
      case hq5 =>
        intro v' w3 hown3 hg3 _
        have b3 : Below w1.heap.size w1 w3 := (hbr.alloc hbr.size _).grown hg3 (by simp; have := hbr.size; omega) hob
        have o3 : OwnI w3 w1.heap.size v' ((l.drop p).take (j + 1)) := by
          rw [take_drop_snoc l p j (by rw [h1.len]; omega), HL.out, HX.out]
          exact OwnI.snoc hown3
        go_wp2
        exact ⟨⟨j + 1, by omega, by omega, by go_num, o3, b3⟩, by simp [intOf]; omega⟩
    · have hge : (n : Int) ≤ (p : Int) + (j : Int) := by omega
      go_wp2
      go_ret2
      exact ⟨rfl, by (repeat (first | exact Below.refl _ _ | assumption | refine Below.drew ?_ | refine below_drewN ?_ _ | refine belowA ?_ _ | refine belowT ?_ (by assumption) | refine Below.setCell ?_ (by simp) _))⟩

/-- ReadZone, where something is wrong: as Read. -/
theorem ReadZone_no (s : Int) (a : Option Addr) (n c : Nat) (l : List Int) (p k : Int) (w : World) (h1 : Ints w a n c l) (hbad : readE s l p k ≠ 0) :
    Calls Try.prog 11 #[.agg #[.int .i64 s, .slice a n c], .int .i64 p, .int .i64 k] w fun e w' => e = .returned (.tuple #[.slice none 0 0, .int .i64 (readE s l p k)]) ∧ Below w.heap.size w w' := by
  by_cases hc : checkZ s l = 0
  · cases h2 : outB 0 8 p
    · cases h3 : outB 0 (8 - p) k
      · have h4 : (l.length : Int) < p + k := by
          apply Decidable.byContradiction
          intro h4
          exact hbad (by simp [readE, hc, h2, h3, h4])
        rw [show readE s l p k = 6 by simp [readE, hc, h2, h3, h4]]
        have hp : 0 ≤ p ∧ p ≤ 8 := by simp [outB] at h2; omega
        have hk : 0 ≤ k ∧ k ≤ 8 - p := by simp [outB] at h3; omega
        obtain ⟨p, rfl⟩ := Int.eq_ofNat_of_zero_le hp.1
        obtain ⟨k, rfl⟩ := Int.eq_ofNat_of_zero_le hk.1
        rw [h1.len] at h4
        by_cases hnp : n ≤ p
        · exact ReadZone_late0 s a n c l p k w h1 hc (by omega) hnp (by omega)
        · rcases h1.row with h0 | ⟨b0, off, rfl, _⟩
          · omega
          · exact ReadZone_lateS s b0 off n c l p k w h1 hc (by omega) (by omega) (by omega)
      · rw [show readE s l p k = 3 by simp [readE, hc, h2, h3]]
        exact ReadZone_out s a n c l p k w h1 hc (.inr ⟨by rw [inB_outB, h2]; rfl, by rw [inB_outB, h3]; rfl⟩)
    · rw [show readE s l p k = 3 by simp [readE, hc, h2]]
      exact ReadZone_out s a n c l p k w h1 hc (.inl (by rw [inB_outB, h2]; rfl))
  · rw [show readE s l p k = checkZ s l by simp [readE, hc]]
    exact ReadZone_bad s a n c l p k w h1 hc

/-- ReadZone, where nothing is wrong: the piece. -/
theorem ReadZone_yes (s : Int) (a : Option Addr) (n c : Nat) (l : List Int) (p k : Int) (w : World) (h1 : Ints w a n c l) (hok : readE s l p k = 0) :
    Calls Try.prog 11 #[.agg #[.int .i64 s, .slice a n c], .int .i64 p, .int .i64 k] w fun e w' => (∃ a' c', e = .returned (.tuple #[.slice a' k.toNat c', .int .i64 0]) ∧ Ints w' a' k.toNat c' ((l.drop p.toNat).take k.toNat)) ∧ Below w.heap.size w w' := by
  obtain ⟨hc, hp1, hp2, hk1, hk2, hpk⟩ := readE_ok hok
  rw [h1.len] at hpk
  obtain ⟨p, rfl⟩ := Int.eq_ofNat_of_zero_le hp1
  obtain ⟨k, rfl⟩ := Int.eq_ofNat_of_zero_le hk1
  rw [Int.toNat_natCast, Int.toNat_natCast]
  rcases h1.row with h0 | ⟨b0, off, rfl, _⟩
  · obtain rfl : k = 0 := by omega
    refine (ReadZone_ok0 s a n c l p w h1 hc (by omega) (by omega)).mono ?_
    rintro e w' ⟨rfl, hb⟩
    exact ⟨⟨none, 0, rfl, by simpa using Ints.nilSlice w'⟩, hb⟩
  · refine (ReadZone_okS s b0 off n c l p k w h1 hc (by omega) (by omega)).mono ?_
    rintro e w' ⟨⟨v, rfl, ho⟩, hb⟩
    have hlen : ((l.drop p).take k).length = k := by simp; rw [h1.len]; omega
    obtain ⟨a', c', rfl, i', _⟩ := ho.ints (fun x hx => h1.wf x (List.mem_of_mem_drop (List.mem_of_mem_take hx)))
    rw [hlen] at i' ⊢
    exact ⟨⟨a', c', rfl, i'⟩, hb⟩

end Go.Proofs.Ytmlbkmncdgiemaa
