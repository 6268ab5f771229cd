/- The contract of the document's own answer ReadZone; no condition but that the zone reads as its state and list. -/
import Derived.Test.YtkamnbigfdbgbaaGreatDoorDeskSaysG4
import Derived.Test.YtkamnbigfdbgbaaGreatDoorDeskSaysG7
import Derived.Test.YtkamnbigfdbgbaaGreatDoorDeskSaysG2
import Derived.Deep.Strs
namespace Go.Proofs.YtkamnbigfdbgbaaGreatDoor
open Go.RowKit
set_option linter.unusedVariables false
set_option maxRecDepth 100000
set_option linter.unusedSimpArgs false

theorem OwnI.alloc {w : World} {base : Nat} {v : Value} {l : List Int} (h : OwnI w base v l) (o : Obj) : OwnI (w.alloc o) base v l := World.ownsRow.alloc h o

theorem OwnI.own {w : World} {base : Nat} {v : Value} {l : List Int} (h : OwnI w base v l) : ∀ k, v.ownBlock = some k → base ≤ k := by
  intro k e
  obtain ⟨_, h⟩ := h
  rcases h with ⟨rfl, _⟩ | ⟨g, cap, cur, rfl, hb, _⟩
  · cases e
  · simp [Value.ownBlock] at e; omega

theorem OwnI.snoc {w : World} {base : Nat} {v : Value} {l : List Int} {x : Int} (h : w.ownsRow base 3 1 v (l.length + 1) (cellsOf l ++ [.int .i64 x])) : OwnI w base v (l ++ [x]) := by
  unfold OwnI
  rw [List.length_append, ← cellsOf_app]
  exact h

theorem OwnI.mono {w : World} {base base' : Nat} {v : Value} {l : List Int} (h : OwnI w base v l) (hb : base' ≤ base) : OwnI w base' v l := by
  obtain ⟨h1, h⟩ := h
  refine ⟨h1, ?_⟩
  rcases h with h | ⟨g, cap, cur, e, hg, r⟩
  · exact .inl h
  · exact .inr ⟨g, cap, cur, e, Nat.le_trans hb hg, r⟩

theorem take_drop_snoc (l : List Int) (i j : Nat) (h : i + j < l.length) : (l.drop i).take (j + 1) = (l.drop i).take j ++ [l.getD (i + j) 0] := by
  rw [take_succ_getD _ j (by simp; omega)]
  simp [List.getD]

set_option maxHeartbeats 2000000 in
theorem ReadZone_bad (s : Int) (a : Option Addr) (n c : Nat) (l : List Int) (p k : Int) (w : World) (h1 : Ints w a n c l) (hbad : checkZ s l ≠ 0) :
    Calls Tryz.prog 39 #[.agg #[.int .i64 s, .slice a n c], .int .i64 p, .int .i64 k] w fun e w' => e = .returned (.tuple #[.slice none 0 0, .int .i64 (checkZ s l)]) ∧ Below w.heap.size w w' := by
  go_enter Tryz.func39, Tryz.ntmps39
  go_wp2_with fail
  refine (CheckZone_c s a n c l _ (h1.below (B := w.heap.size) (by (repeat first | exact bel0 | assumption | refine bel1 ?_ | refine bel2 ?_ | refine bel3 ?_ | refine belowT ?_ (by assumption) | refine bel5 ?_ (by simp; try omega))) (Nat.le_refl _))).mono ?_
  rintro e w1 ⟨rfl, hb1⟩
  generalize hx : checkZ s l = x at *
  have HX := hide hx
  clear hx
  have hx : (x != 0) = true := by simpa using hbad
  clear hbad
  go_wp2
  go_ret2
  exact ⟨ret_vi HX.out.symm, by (repeat first | exact bel0 | assumption | refine bel1 ?_ | refine bel2 ?_ | refine bel3 ?_ | refine belowT ?_ (by assumption) | refine bel5 ?_ (by simp; try omega))⟩

set_option maxHeartbeats 2000000 in
theorem ReadZone_out (s : Int) (a : Option Addr) (n c : Nat) (l : List Int) (p k : Int) (w : World) (h1 : Ints w a n c l) (hc : checkZ s l = 0) (ho : inB p 0 8 = false ∨ inB p 0 8 = true ∧ inB k 0 (8 - p) = false) :
    Calls Tryz.prog 39 #[.agg #[.int .i64 s, .slice a n c], .int .i64 p, .int .i64 k] w fun e w' => e = .returned (.tuple #[.slice none 0 0, .int .i64 3]) ∧ Below w.heap.size w w' := by
  have HC := hide hc
  clear hc
  rcases ho with ho | ⟨ho, ho2⟩
  · go_enter Tryz.func39, Tryz.ntmps39
    go_wp2_with fail
    refine (CheckZone_c s a n c l _ (h1.below (B := w.heap.size) (by (repeat first | exact bel0 | assumption | refine bel1 ?_ | refine bel2 ?_ | refine bel3 ?_ | refine belowT ?_ (by assumption) | refine bel5 ?_ (by simp; try omega))) (Nat.le_refl _))).mono ?_
    rintro e w1 ⟨rfl, hb1⟩
    rw [HC.out]
    go_wp2_with (go_at_call 26; refine (in_c _ _ _ _).mono ?_; rintro e w1 ⟨rfl, rfl⟩)
    go_ret2
    exact ⟨rfl, by (repeat first | exact bel0 | assumption | refine bel1 ?_ | refine bel2 ?_ | refine bel3 ?_ | refine belowT ?_ (by assumption) | refine bel5 ?_ (by simp; try omega))⟩
  · have hp : 0 ≤ p ∧ p ≤ 8 := by simp [inB] at ho; omega
    obtain ⟨hp1, hp2⟩ := hp
    go_enter Tryz.func39, Tryz.ntmps39
    go_wp2_with fail
    refine (CheckZone_c s a n c l _ (h1.below (B := w.heap.size) (by (repeat first | exact bel0 | assumption | refine bel1 ?_ | refine bel2 ?_ | refine bel3 ?_ | refine belowT ?_ (by assumption) | refine bel5 ?_ (by simp; try omega))) (Nat.le_refl _))).mono ?_
    rintro e w1 ⟨rfl, hb1⟩
    rw [HC.out]
    go_wp2_with (go_at_call 26; refine (in_c _ _ _ _).mono ?_; rintro e w1 ⟨rfl, rfl⟩)
    go_ret2
    exact ⟨rfl, by (repeat first | exact bel0 | assumption | refine bel1 ?_ | refine bel2 ?_ | refine bel3 ?_ | refine belowT ?_ (by assumption) | refine bel5 ?_ (by simp; try omega))⟩

set_option maxHeartbeats 4000000 in
theorem ReadZone_ok0 (s : Int) (a : Option Addr) (n c : Nat) (l : List Int) (p : Nat) (w : World) (h1 : Ints w a n c l) (hc : checkZ s l = 0) (hp8 : p ≤ 8) (hpk : p ≤ n) :
    Calls Tryz.prog 39 #[.agg #[.int .i64 s, .slice a n c], .int .i64 p, .int .i64 0] w fun e w' => e = .returned (.tuple #[.slice none 0 0, .int .i64 0]) ∧ Below w.heap.size w w' := by
  have HC := hide hc
  have hn8 := (checkZ_len hc).2.2.1
  rw [h1.len] at hn8
  clear hc
  have ho : inB (p : Int) 0 8 = true := by simp [inB]; omega
  have ho2 : inB 0 0 (8 - (p : Int)) = true := by simp [inB]; omega
  have hpk' : ¬ (n : Int) < (p : Int) := by omega
  go_enter Tryz.func39, Tryz.ntmps39
  go_wp2_with fail
  refine (CheckZone_c s a n c l _ (h1.below (B := w.heap.size) (by (repeat first | exact bel0 | assumption | refine bel1 ?_ | refine bel2 ?_ | refine bel3 ?_ | refine belowT ?_ (by assumption) | refine bel5 ?_ (by simp; try omega))) (Nat.le_refl _))).mono ?_
  rintro e w1 ⟨rfl, hb1⟩
  rw [HC.out]
  have c1 := keepc hb1 (p := ⟨w.heap.size, 1, none⟩) (u := .slice a n c) (by go_simp)
  have bw1 : Below w.heap.size w w1 := by (repeat first | exact bel0 | assumption | refine bel1 ?_ | refine bel2 ?_ | refine bel3 ?_ | refine belowT ?_ (by assumption) | refine bel5 ?_ (by simp; try omega))
  clear hb1
  go_wp2_with (go_at_call 26; refine (in_c _ _ _ _).mono ?_; rintro e w1 ⟨rfl, rfl⟩)
  refine wp_loop_rounds 1 ?_
  rw [rounds_succ]
  go_wp2
  go_ret2
  exact ⟨rfl, by (repeat first | exact bel0 | assumption | refine bel1 ?_ | refine bel2 ?_ | refine bel3 ?_ | refine belowT ?_ (by assumption) | refine bel5 ?_ (by simp; try omega))⟩

set_option maxHeartbeats 4000000 in
theorem ReadZone_okS (s : Int) (b0 off : Nat) (n c : Nat) (l : List Int) (p k : Nat) (w : World) (h1 : Ints w (some ⟨b0, off, none⟩) n c l) (hc : checkZ s l = 0) (hk8 : p + k ≤ 8) (hpk : p + k ≤ n) :
    Calls Tryz.prog 39 #[.agg #[.int .i64 s, .slice (some ⟨b0, off, none⟩) n c], .int .i64 p, .int .i64 k] w fun e w' => (∃ v, e = .returned (.tuple #[v, .int .i64 0]) ∧ OwnI w' w.heap.size v ((l.drop p).take k)) ∧ Below w.heap.size w w' := by
  have HC := hide hc
  have hn8 := (checkZ_len hc).2.2.1
  rw [h1.len] at hn8
  clear hc
  obtain ⟨i, hi, hz, hs, hb⟩ := intInfo
  have ho : inB (p : Int) 0 8 = true := by simp [inB]; omega
  have ho2 : inB (k : Int) 0 (8 - (p : Int)) = true := by simp [inB]; omega
  go_enter Tryz.func39, Tryz.ntmps39
  go_wp2_with fail
  refine (CheckZone_c s _ n c l _ (h1.below (B := w.heap.size) (by (repeat first | exact bel0 | assumption | refine bel1 ?_ | refine bel2 ?_ | refine bel3 ?_ | refine belowT ?_ (by assumption) | refine bel5 ?_ (by simp; try omega))) (Nat.le_refl _))).mono ?_
  rintro e w1 ⟨rfl, hb1⟩
  rw [HC.out]
  have c1 := keepc hb1 (p := ⟨w.heap.size, 1, none⟩) (u := .slice (some ⟨b0, off, none⟩) n c) (by go_simp)
  have bw1 : Below w.heap.size w w1 := by (repeat first | exact bel0 | assumption | refine bel1 ?_ | refine bel2 ?_ | refine bel3 ?_ | refine belowT ?_ (by assumption) | refine bel5 ?_ (by simp; try omega))
  have j1 := h1.below bw1 (Nat.le_refl _)
  clear hb1
  go_wp2_with (go_at_call 26; refine (in_c _ _ _ _).mono ?_; rintro e w1 ⟨rfl, rfl⟩)
  go_loopw [9, 27] (fun o x wr => ∃ j : Nat, j ≤ k ∧ x = .int .i64 j ∧ OwnI wr w1.heap.size o ((l.drop p).take j) ∧ Below w1.heap.size w1 wr) (fun _ x _ => k - (intOf x).toNat)
  case atStart => exact ⟨0, by omega, rfl, by simpa using nil_own _ _, Below.refl _ _⟩
  case round =>
    obtain ⟨j, hj, rfl, hown, hbr⟩ := hrel
    rename_i wr
    have d1 := keepc hbr c1
    by_cases hlt : j < k
    · have hlt' : (j : Int) < (k : Int) := by omega
      have hge : ¬ (n : Int) ≤ (p : Int) + (j : Int) := by omega
      have hcell : wr.cell? ⟨b0, off + (p + j), none⟩ = some (.int .i64 (l.getD (p + j) 0)) := by
        have j2 := j1.below hbr (Nat.le_refl _)
        rcases j2.row with h0 | ⟨b', off', e', _, hcs⟩
        · omega
        · cases e'; exact hcs (p + j) (by omega)
      generalize hx : l.getD (p + j) 0 = x at hcell
      have HX := hide hx
      have hcell' := past1 hcell
      clear hx
      have hlen : ((l.drop p).take j).length = j := by simp; rw [h1.len]; omega
      generalize hL : (l.drop p).take j = L at hown hlen
      have HL := hide hL
      have HLEN := hide hlen
      have hob := hown.own
      clear hL hlen
      go_wp2_with (at_builtin; refine wpList_append_own _ rfl _ _ 23 rfl w1.heap.size 3 i (.int .i64 0) 1 8 Tryz.underlying23 hi hz hs hb rfl (by decide) _ _ _ rfl (hown.alloc _) ⟨wr.heap.size, 0, none⟩ 1 1 [.int .i64 x] rfl rfl (cell_one_new _ _ _) ?hq1 ?hq2 ?hq3 ?hq4 ?hq5)
      case hq1 => rfl
      case hq2 => have := HLEN.out; simp [maxLen]; omega
      case hq3 => have := HLEN.out; omega
      case hq4 => have := hbr.size; omega
      case hq5 =>
        intro v' w3 hown3 hg3 _
        have b3 : Below w1.heap.size w1 w3 := (hbr.alloc hbr.size _).grown hg3 (by simp; have := hbr.size; omega) hob
        have o3 : OwnI w3 w1.heap.size v' ((l.drop p).take (j + 1)) := by
          rw [take_drop_snoc l p j (by rw [h1.len]; omega), HL.out, HX.out]
          exact OwnI.snoc hown3
        go_wp2
        exact ⟨⟨j + 1, by omega, by go_num, o3, b3⟩, by simp [intOf]; omega⟩
    · obtain rfl : j = k := by omega
      have hpk' : ¬ (n : Int) < (p : Int) := by omega
      go_wp2
      go_ret2
      exact ⟨⟨_, rfl, hown.mono bw1.size⟩, by (repeat first | exact bel0 | assumption | refine bel1 ?_ | refine bel2 ?_ | refine bel3 ?_ | refine belowT ?_ (by assumption) | refine bel5 ?_ (by simp; try omega))⟩

set_option maxHeartbeats 4000000 in
theorem ReadZone_late0 (s : Int) (a : Option Addr) (n c : Nat) (l : List Int) (p k : Nat) (w : World) (h1 : Ints w a n c l) (hc : checkZ s l = 0) (hk8 : p + k ≤ 8) (hnp : n ≤ p) (hpk : n < p + k) :
    Calls Tryz.prog 39 #[.agg #[.int .i64 s, .slice a n c], .int .i64 p, .int .i64 k] w fun e w' => e = .returned (.tuple #[.slice none 0 0, .int .i64 6]) ∧ Below w.heap.size w w' := by
  have HC := hide hc
  clear hc
  have ho : inB (p : Int) 0 8 = true := by simp [inB]; omega
  have ho2 : inB (k : Int) 0 (8 - (p : Int)) = true := by simp [inB]; omega
  have hnp' : (n : Int) ≤ (p : Int) := by omega
  by_cases hk : k = 0
  · subst hk
    rw [show ((0 : Nat) : Int) = 0 from rfl] at *
    have hpk' : (n : Int) < (p : Int) := by omega
    go_enter Tryz.func39, Tryz.ntmps39
    go_wp2_with fail
    refine (CheckZone_c s a n c l _ (h1.below (B := w.heap.size) (by (repeat first | exact bel0 | assumption | refine bel1 ?_ | refine bel2 ?_ | refine bel3 ?_ | refine belowT ?_ (by assumption) | refine bel5 ?_ (by simp; try omega))) (Nat.le_refl _))).mono ?_
    rintro e w1 ⟨rfl, hb1⟩
    rw [HC.out]
    have c1 := keepc hb1 (p := ⟨w.heap.size, 1, none⟩) (u := .slice a n c) (by go_simp)
    have bw1 : Below w.heap.size w w1 := by (repeat first | exact bel0 | assumption | refine bel1 ?_ | refine bel2 ?_ | refine bel3 ?_ | refine belowT ?_ (by assumption) | refine bel5 ?_ (by simp; try omega))
    clear hb1
    go_wp2_with (go_at_call 26; refine (in_c _ _ _ _).mono ?_; rintro e w1 ⟨rfl, rfl⟩)
    refine wp_loop_rounds 1 ?_
    rw [rounds_succ]
    go_wp2
    go_ret2
    exact ⟨rfl, by (repeat first | exact bel0 | assumption | refine bel1 ?_ | refine bel2 ?_ | refine bel3 ?_ | refine belowT ?_ (by assumption) | refine bel5 ?_ (by simp; try omega))⟩
  · have hk' : (0 : Int) < (k : Int) := by omega
    go_enter Tryz.func39, Tryz.ntmps39
    go_wp2_with fail
    refine (CheckZone_c s a n c l _ (h1.below (B := w.heap.size) (by (repeat first | exact bel0 | assumption | refine bel1 ?_ | refine bel2 ?_ | refine bel3 ?_ | refine belowT ?_ (by assumption) | refine bel5 ?_ (by simp; try omega))) (Nat.le_refl _))).mono ?_
    rintro e w1 ⟨rfl, hb1⟩
    rw [HC.out]
    have c1 := keepc hb1 (p := ⟨w.heap.size, 1, none⟩) (u := .slice a n c) (by go_simp)
    have bw1 : Below w.heap.size w w1 := by (repeat first | exact bel0 | assumption | refine bel1 ?_ | refine bel2 ?_ | refine bel3 ?_ | refine belowT ?_ (by assumption) | refine bel5 ?_ (by simp; try omega))
    clear hb1
    go_wp2_with (go_at_call 26; refine (in_c _ _ _ _).mono ?_; rintro e w1 ⟨rfl, rfl⟩)
    refine wp_loop_rounds 1 ?_
    rw [rounds_succ]
    go_wp2
    go_ret2
    exact ⟨rfl, by (repeat first | exact bel0 | assumption | refine bel1 ?_ | refine bel2 ?_ | refine bel3 ?_ | refine belowT ?_ (by assumption) | refine bel5 ?_ (by simp; try omega))⟩

set_option maxHeartbeats 4000000 in
theorem ReadZone_lateS (s : Int) (b0 off : Nat) (n c : Nat) (l : List Int) (p k : Nat) (w : World) (h1 : Ints w (some ⟨b0, off, none⟩) n c l) (hc : checkZ s l = 0) (hk8 : p + k ≤ 8) (hnp : p < n) (hpk : n < p + k) :
    Calls Tryz.prog 39 #[.agg #[.int .i64 s, .slice (some ⟨b0, off, none⟩) n c], .int .i64 p, .int .i64 k] w fun e w' => e = .returned (.tuple #[.slice none 0 0, .int .i64 6]) ∧ Below w.heap.size w w' := by
  have HC := hide hc
  have hn8 := (checkZ_len hc).2.2.1
  rw [h1.len] at hn8
  clear hc
  obtain ⟨i, hi, hz, hs, hb⟩ := intInfo
  have ho : inB (p : Int) 0 8 = true := by simp [inB]; omega
  have ho2 : inB (k : Int) 0 (8 - (p : Int)) = true := by simp [inB]; omega
  go_enter Tryz.func39, Tryz.ntmps39
  go_wp2_with fail
  refine (CheckZone_c s _ n c l _ (h1.below (B := w.heap.size) (by (repeat first | exact bel0 | assumption | refine bel1 ?_ | refine bel2 ?_ | refine bel3 ?_ | refine belowT ?_ (by assumption) | refine bel5 ?_ (by simp; try omega))) (Nat.le_refl _))).mono ?_
  rintro e w1 ⟨rfl, hb1⟩
  rw [HC.out]
  have c1 := keepc hb1 (p := ⟨w.heap.size, 1, none⟩) (u := .slice (some ⟨b0, off, none⟩) n c) (by go_simp)
  have bw1 : Below w.heap.size w w1 := by (repeat first | exact bel0 | assumption | refine bel1 ?_ | refine bel2 ?_ | refine bel3 ?_ | refine belowT ?_ (by assumption) | refine bel5 ?_ (by simp; try omega))
  have j1 := h1.below bw1 (Nat.le_refl _)
  clear hb1
  go_wp2_with (go_at_call 26; refine (in_c _ _ _ _).mono ?_; rintro e w1 ⟨rfl, rfl⟩)
  go_loopw [9, 27] (fun o x wr => ∃ j : Nat, j ≤ k ∧ p + j ≤ n ∧ x = .int .i64 j ∧ OwnI wr w1.heap.size o ((l.drop p).take j) ∧ Below w1.heap.size w1 wr) (fun _ x _ => k - (intOf x).toNat)
  case atStart => exact ⟨0, by omega, by omega, rfl, by simpa using nil_own _ _, Below.refl _ _⟩
  case round =>
    obtain ⟨j, hj, hpj, rfl, hown, hbr⟩ := hrel
    rename_i wr
    have d1 := keepc hbr c1
    have hlt' : (j : Int) < (k : Int) := by omega
    by_cases hlt : p + j < n
    · have hge : ¬ (n : Int) ≤ (p : Int) + (j : Int) := by omega
      have hcell : wr.cell? ⟨b0, off + (p + j), none⟩ = some (.int .i64 (l.getD (p + j) 0)) := by
        have j2 := j1.below hbr (Nat.le_refl _)
        rcases j2.row with h0 | ⟨b', off', e', _, hcs⟩
        · omega
        · cases e'; exact hcs (p + j) (by omega)
      generalize hx : l.getD (p + j) 0 = x at hcell
      have HX := hide hx
      have hcell' := past1 hcell
      clear hx
      have hlen : ((l.drop p).take j).length = j := by simp; rw [h1.len]; omega
      generalize hL : (l.drop p).take j = L at hown hlen
      have HL := hide hL
      have HLEN := hide hlen
      have hob := hown.own
      clear hL hlen
      go_wp2_with (at_builtin; refine wpList_append_own _ rfl _ _ 23 rfl w1.heap.size 3 i (.int .i64 0) 1 8 Tryz.underlying23 hi hz hs hb rfl (by decide) _ _ _ rfl (hown.alloc _) ⟨wr.heap.size, 0, none⟩ 1 1 [.int .i64 x] rfl rfl (cell_one_new _ _ _) ?hq1 ?hq2 ?hq3 ?hq4 ?hq5)
      case hq1 => rfl
      case hq2 => have := HLEN.out; simp [maxLen]; omega
      case hq3 => have := HLEN.out; omega
      case hq4 => have := hbr.size; omega
      case hq5 =>
        intro v' w3 hown3 hg3 _
        have b3 : Below w1.heap.size w1 w3 := (hbr.alloc hbr.size _).grown hg3 (by simp; have := hbr.size; omega) hob
        have o3 : OwnI w3 w1.heap.size v' ((l.drop p).take (j + 1)) := by
          rw [take_drop_snoc l p j (by rw [h1.len]; omega), HL.out, HX.out]
          exact OwnI.snoc hown3
        go_wp2
        exact ⟨⟨j + 1, by omega, by omega, by go_num, o3, b3⟩, by simp [intOf]; omega⟩
    · have hge : (n : Int) ≤ (p : Int) + (j : Int) := by omega
      go_wp2
      go_ret2
      exact ⟨rfl, by (repeat first | exact bel0 | assumption | refine bel1 ?_ | refine bel2 ?_ | refine bel3 ?_ | refine belowT ?_ (by assumption) | refine bel5 ?_ (by simp; try omega))⟩

/-- ReadZone, where something is wrong: as Read. -/
theorem ReadZone_no (s : Int) (a : Option Addr) (n c : Nat) (l : List Int) (p k : Int) (w : World) (h1 : Ints w a n c l) (hbad : readE s l p k ≠ 0) :
    Calls Tryz.prog 39 #[.agg #[.int .i64 s, .slice a n c], .int .i64 p, .int .i64 k] w fun e w' => e = .returned (.tuple #[.slice none 0 0, .int .i64 (readE s l p k)]) ∧ Below w.heap.size w w' := by
  by_cases hc : checkZ s l = 0
  · cases h2 : outB 0 8 p
    · cases h3 : outB 0 (8 - p) k
      · have h4 : (l.length : Int) < p + k := by
          apply Decidable.byContradiction
          intro h4
          exact hbad (by simp [readE, hc, h2, h3, h4])
        rw [show readE s l p k = 6 by simp [readE, hc, h2, h3, h4]]
        have hp : 0 ≤ p ∧ p ≤ 8 := by simp [outB] at h2; omega
        have hk : 0 ≤ k ∧ k ≤ 8 - p := by simp [outB] at h3; omega
        obtain ⟨p, rfl⟩ := Int.eq_ofNat_of_zero_le hp.1
        obtain ⟨k, rfl⟩ := Int.eq_ofNat_of_zero_le hk.1
        rw [h1.len] at h4
        by_cases hnp : n ≤ p
        · exact ReadZone_late0 s a n c l p k w h1 hc (by omega) hnp (by omega)
        · rcases h1.row with h0 | ⟨b0, off, rfl, _⟩
          · omega
          · exact ReadZone_lateS s b0 off n c l p k w h1 hc (by omega) (by omega) (by omega)
      · rw [show readE s l p k = 3 by simp [readE, hc, h2, h3]]
        exact ReadZone_out s a n c l p k w h1 hc (.inr ⟨by rw [inB_outB, h2]; rfl, by rw [inB_outB, h3]; rfl⟩)
    · rw [show readE s l p k = 3 by simp [readE, hc, h2]]
      exact ReadZone_out s a n c l p k w h1 hc (.inl (by rw [inB_outB, h2]; rfl))
  · rw [show readE s l p k = checkZ s l by simp [readE, hc]]
    exact ReadZone_bad s a n c l p k w h1 hc

/-- ReadZone, where nothing is wrong: the piece. -/
theorem ReadZone_yesf (s : Int) (a : Option Addr) (n c : Nat) (l : List Int) (p k : Int) (w : World) (h1 : Ints w a n c l) (hok : readE s l p k = 0) :
    Calls Tryz.prog 39 #[.agg #[.int .i64 s, .slice a n c], .int .i64 p, .int .i64 k] w fun e w' => (∃ a' c', e = .returned (.tuple #[.slice a' k.toNat c', .int .i64 0]) ∧ Ints w' a' k.toNat c' ((l.drop p.toNat).take k.toNat) ∧ ∀ x, a' = some x → w.heap.size ≤ x.block) ∧ Below w.heap.size w w' := by
  obtain ⟨hc, hp1, hp2, hk1, hk2, hpk⟩ := readE_ok hok
  rw [h1.len] at hpk
  obtain ⟨p, rfl⟩ := Int.eq_ofNat_of_zero_le hp1
  obtain ⟨k, rfl⟩ := Int.eq_ofNat_of_zero_le hk1
  rw [Int.toNat_natCast, Int.toNat_natCast]
  rcases h1.row with h0 | ⟨b0, off, rfl, _⟩
  · obtain rfl : k = 0 := by omega
    refine (ReadZone_ok0 s a n c l p w h1 hc (by omega) (by omega)).mono ?_
    rintro e w' ⟨rfl, hb⟩
    exact ⟨⟨none, 0, rfl, by simpa using Ints.nilSlice w', fun x e => by cases e⟩, hb⟩
  · refine (ReadZone_okS s b0 off n c l p k w h1 hc (by omega) (by omega)).mono ?_
    rintro e w' ⟨⟨v, rfl, ho⟩, hb⟩
    have hlen : ((l.drop p).take k).length = k := by simp; rw [h1.len]; omega
    obtain ⟨a', c', rfl, i', hf'⟩ := ho.ints (fun x hx => h1.wf x (List.mem_of_mem_drop (List.mem_of_mem_take hx)))
    rw [hlen] at i' ⊢
    exact ⟨⟨a', c', rfl, i', hf'⟩, hb⟩
end Go.Proofs.YtkamnbigfdbgbaaGreatDoor

/- The contracts of zone.Read and of the document's ReadZone, errors and all in one; no condition but that the arguments read as data. -/
namespace Go.Proofs.YtkamnbigfdbgbaaGreatDoor
open Go.RowKit
set_option linter.unusedVariables false
set_option maxRecDepth 100000
set_option linter.unusedSimpArgs false

/-- What Read answers: blocks. -/
def rL (s : Int) (l : List Int) (p k : Int) : List Int := if readE s l p k = 0 then (l.drop p.toNat).take k.toNat else []

theorem Read_f (s : Int) (a : Option Addr) (n c : Nat) (l : List Int) (p k : Int) (w : World) (h1 : Ints w a n c l) :
    Calls Tryz.prog 77 #[.agg #[.int .i64 s, .slice a n c], .int .i64 p, .int .i64 k] w fun e w' => (∃ a' n' c', e = .returned (.tuple #[.slice a' n' c', .int .i64 (readE s l p k)]) ∧ Ints w' a' n' c' (rL s l p k) ∧ ∀ x, a' = some x → w.heap.size ≤ x.block) ∧ Below w.heap.size w w' := by
  by_cases h : readE s l p k = 0
  · refine (Read_ok s a n c l p k w h1 h).mono ?_
    rintro e w' ⟨⟨q, rfl, i, hq⟩, hb⟩
    rw [show rL s l p k = (l.drop p.toNat).take k.toNat by simp [rL, h], h]
    exact ⟨⟨_, _, _, rfl, i, fun x e => by cases e; exact hq⟩, hb⟩
  · refine (Read_bad s a n c l p k w h1 h).mono ?_
    rintro e w' ⟨rfl, hb⟩
    rw [show rL s l p k = [] by simp [rL, h]]
    exact ⟨⟨_, _, _, rfl, Ints.nilSlice _, fun x e => by cases e⟩, hb⟩
theorem ReadZone_f (s : Int) (a : Option Addr) (n c : Nat) (l : List Int) (p k : Int) (w : World) (h1 : Ints w a n c l) :
    Calls Tryz.prog 39 #[.agg #[.int .i64 s, .slice a n c], .int .i64 p, .int .i64 k] w fun e w' => (∃ a' n' c', e = .returned (.tuple #[.slice a' n' c', .int .i64 (readE s l p k)]) ∧ Ints w' a' n' c' (rL s l p k) ∧ ∀ x, a' = some x → w.heap.size ≤ x.block) ∧ Below w.heap.size w w' := by
  by_cases h : readE s l p k = 0
  · refine (ReadZone_yesf s a n c l p k w h1 h).mono ?_
    rintro e w' ⟨⟨a', c', rfl, i, hq⟩, hb⟩
    rw [show rL s l p k = (l.drop p.toNat).take k.toNat by simp [rL, h], h]
    exact ⟨⟨_, _, _, rfl, i, hq⟩, hb⟩
  · refine (ReadZone_no s a n c l p k w h1 h).mono ?_
    rintro e w' ⟨rfl, hb⟩
    rw [show rL s l p k = [] by simp [rL, h]]
    exact ⟨⟨_, _, _, rfl, Ints.nilSlice _, fun x e => by cases e⟩, hb⟩

end Go.Proofs.YtkamnbigfdbgbaaGreatDoor

/- Desks and answers as plain data, what the document's calls make of them, and how they lie in a world; plain mathematics, no condition. -/
namespace Go.Proofs.YtkamnbigfdbgbaaGreatDoor
open Go.RowKit
set_option linter.unusedVariables false
set_option maxRecDepth 100000
set_option linter.unusedSimpArgs false

/-- A desk: zones, book. -/
structure PD where
  P : List PZ
  b : PB
/-- An answer: error, place, blocks. -/
structure PA where
  e : Int
  t : Int
  d : List Int

def zeroD : PD := ⟨[], zeroB⟩
def freshD : PD := ⟨[(0, []), (0, []), (0, []), (0, [])], freshB⟩
def zeroA : PA := ⟨0, 0, []⟩
def errA (e : Int) : PA := ⟨e, 0, []⟩
def checkD (d : PD) : Int := if checkZs d.P ≠ 0 then checkZs d.P else checkB d.b
def sameD (a b : PD) : Bool := decide (a.P = b.P) && sameB a.b b.b
def checkA (a : PA) : Int :=
  if outB 0 9 a.e ∨ outB 0 7 a.t then 3
  else if 8 < a.d.length then 2
  else if a.d.any (outB 0 999) then 3
  else if a.e ≠ 0 ∧ (a.t ≠ 0 ∨ a.d ≠ []) then 4 else 0
def sameA (a b : PA) : Bool := decide (a.e = b.e ∧ a.t = b.t ∧ a.d = b.d)
/-- What a command about the book makes of it. -/
def bookDo (b : PB) (who : Int) (c : PC) : PB × Int :=
  if c.k = 8 then registerB b who c.n else if c.k = 9 then reserveB b who c.n else if c.k = 10 then releaseB b who else if c.k = 11 then preemptB b who c.n else clearB b who
/-- What a command about a zone's state makes of the zones. -/
def zoneDo (P : List PZ) (c : PC) : List PZ × Int :=
  if c.k = 1 then holdP P c.z else if c.k = 2 then closeP P c.z else if c.k = 3 then finishP P c.z else resetP P c.z
def readD (P : List PZ) (c : PC) : PA :=
  if inB c.z 0 3 = false then errA 5 else ⟨readE (at' P c.z).1 (at' P c.z).2 c.at' c.n, 0, rL (at' P c.z).1 (at' P c.z).2 c.at' c.n⟩
def writeD (d : PD) (c : PC) : PD × PA :=
  if c.k = 6 ∧ inB c.z 0 3 = true ∧ c.at' ≠ (at' d.P c.z).2.length then (d, errA 6)
  else if (writeP d.P c.z c.d).2.2 ≠ 0 then (d, errA (writeP d.P c.z c.d).2.2)
  else (⟨(writeP d.P c.z c.d).1, d.b⟩, ⟨0, (writeP d.P c.z c.d).2.1, []⟩)
/-- What a right command of a hand does at a right desk. -/
def doneD (d : PD) (who : Int) (c : PC) : PD × PA :=
  if 8 ≤ c.k then (if (bookDo d.b who c).2 ≠ 0 then (d, errA (bookDo d.b who c).2) else (⟨d.P, (bookDo d.b who c).1⟩, zeroA))
  else if mightB d.b who (c.k != 7) = false then (d, errA 8)
  else if c.k = 7 then (d, readD d.P c)
  else if c.k = 5 ∨ c.k = 6 then writeD d c
  else if (zoneDo d.P c).2 ≠ 0 then (d, errA (zoneDo d.P c).2) else (⟨(zoneDo d.P c).1, d.b⟩, zeroA)
/-- What is wrong with the call itself. -/
def doE (d : PD) (who : Int) (c : PC) : Int := if checkD d ≠ 0 then checkD d else if inB who 0 2 = false then 5 else checkC c
def doD (d : PD) (who : Int) (c : PC) : PD × PA × Int :=
  if doE d who c ≠ 0 then (zeroD, zeroA, doE d who c) else ((doneD d who c).1, (doneD d who c).2, 0)

/-- A desk's value: zones' slice, keys' slice, and what they read as. -/
structure DV where
  za : Option Addr
  zn : Nat
  zc : Nat
  Z : List ZV
  ka : Option Addr
  kn : Nat
  kc : Nat
  b : PB
def DV.p (d : DV) : PD := ⟨d.Z.map ZV.p, d.b⟩
def DV.v (d : DV) : Value := .agg #[.slice d.za d.zn d.zc, .slice d.ka d.kn d.kc, .int .i64 d.b.h, .int .i64 d.b.t]
def DV.zero : DV := ⟨none, 0, 0, [], none, 0, 0, zeroB⟩
structure DV.ok (w : World) (d : DV) : Prop where
  z : Zones w d.za d.zn d.zc d.Z
  k : Ints w d.ka d.kn d.kc d.b.k
theorem DV.ok.below {w w' : World} {d : DV} (h : d.ok w) {B : Nat} (hb : Below B w w') (hB : w.heap.size ≤ B) : d.ok w' := ⟨h.z.below hb hB, h.k.below hb hB⟩
theorem DV.zero_ok (w : World) : DV.zero.ok w := ⟨zs_nil w, Ints.nilSlice w⟩
/-- An answer's value. -/
structure AV where
  e : Int
  t : Int
  a : Option Addr
  n : Nat
  c : Nat
  d : List Int
def AV.p (x : AV) : PA := ⟨x.e, x.t, x.d⟩
def AV.v (x : AV) : Value := .agg #[.int .i64 x.e, .int .i64 x.t, .slice x.a x.n x.c]
def AV.ok (w : World) (x : AV) : Prop := Ints w x.a x.n x.c x.d
def AV.err (e : Int) : AV := ⟨e, 0, none, 0, 0, []⟩
theorem AV.ok.below {w w' : World} {x : AV} (h : x.ok w) {B : Nat} (hb : Below B w w') (hB : w.heap.size ≤ B) : x.ok w' := Ints.below h hb hB
theorem AV.err_ok (w : World) (e : Int) : (AV.err e).ok w := Ints.nilSlice w
theorem AV.err_p (e : Int) : (AV.err e).p = errA e := rfl

theorem sameB_iff (a b : PB) : sameB a b = true ↔ a = b := by
  obtain ⟨k, h, t⟩ := a
  obtain ⟨k', h', t'⟩ := b
  simp [sameB]
theorem sameD_iff (a b : PD) : sameD a b = true ↔ a = b := by
  obtain ⟨P, b1⟩ := a
  obtain ⟨Q, b2⟩ := b
  simp [sameD, sameB_iff]
theorem sameD_self (a : PD) : sameD a a = true := (sameD_iff a a).2 rfl
theorem sameA_iff (a b : PA) : sameA a b = true ↔ a = b := by
  obtain ⟨e, t, d⟩ := a
  obtain ⟨e', t', d'⟩ := b
  simp [sameA]
end Go.Proofs.YtkamnbigfdbgbaaGreatDoor

/- How the arguments of the laws read: a desk, an answer; no condition. -/
namespace Go.Proofs.YtkamnbigfdbgbaaGreatDoor
open Go.ChangeShapes Go.WideShapes Go.ChangeAt Go.RowKit Go.Joins Go.ChangeMaps
set_option linter.unusedVariables false
set_option maxRecDepth 100000
set_option linter.unusedSimpArgs false

theorem array4 {α : Type} {cs : Array α} (h : cs.size = 4) : ∃ c0 c1 c2 c3, cs = #[c0, c1, c2, c3] := by
  obtain ⟨l⟩ := cs
  match l, h with
  | [c0, c1, c2, c3], _ => exact ⟨c0, c1, c2, c3, rfl⟩

theorem cellsDesk : Tryz.prog.cellsOf 27 = 4 := by kernel_rfl

set_option maxRecDepth 100000 in
/-- The cells of a desk, read. -/
theorem desk_of {H : Type} {enc : TypeId × Value → H} {W : World} {fuel : Nat} {cs : List Value} {y : DataW H × List MemPlace}
    (h : DataW.trod enc Tryz.prog W 0 (fun _ => true) true fuel 27 cs = some y) : ∃ d : DV, cs = [.slice d.za d.zn d.zc, .slice d.ka d.kn d.kc, .int .i64 d.b.h, .int .i64 d.b.t] ∧ d.ok W := by
  obtain ⟨y0, y1, n, _, hl, h0, h1⟩ := trod_struct2 Tryz.underlying27 h
  rw [cellsDesk] at hl
  match cs, hl with
  | [v0, v1, v2, v3], _ =>
    have c1 : Tryz.prog.cellsOf 22 = 1 := by kernel_rfl
    have k0 : DataW.trod enc Tryz.prog W 0 (fun _ => true) true n 22 [v0] = some y0 := h0
    have k1 : DataW.trod enc Tryz.prog W 0 (fun _ => true) true n 25 [v1, v2, v3] = some y1 := h1
    obtain ⟨x0, x1, x2, m, _, _, g0, g1, g2⟩ := Go.Deep.trod_struct3 Tryz.underlying25 k1
    have q0 : DataW.trod enc Tryz.prog W 0 (fun _ => true) true m 23 [v1] = some x0 := g0
    have q1 : DataW.trod enc Tryz.prog W 0 (fun _ => true) true m 3 [v2] = some x1 := g1
    have q2 : DataW.trod enc Tryz.prog W 0 (fun _ => true) true m 3 [v3] = some x2 := g2
    obtain ⟨za, zn, zc, Z, rfl, hz⟩ := zones_of k0
    obtain ⟨ka, kn, kc, l, rfl, hk⟩ := ints_of q0
    obtain ⟨hh, e1, _, _⟩ := DataW.trod_int Tryz.underlying3 q1
    obtain ⟨tt, e2, _, _⟩ := DataW.trod_int Tryz.underlying3 q2
    simp at e1 e2
    subst e1 e2
    exact ⟨⟨za, zn, zc, Z, ka, kn, kc, ⟨l, hh, tt⟩⟩, rfl, hz, hk⟩

theorem desk_arg {H : Type} {enc : TypeId × Value → H} {W : World} {base : Nat} {v : Value} {d : DataW H} {p : List MemPlace} (hv : Value.okWide Tryz.prog W .any base 27 v)
    (h : DataW.Trod enc Tryz.prog W 0 (fun _ => true) true 27 v d p) : ∃ x : DV, v = x.v ∧ x.ok W := by
  obtain ⟨cs, rfl, hsz⟩ := okWide_struct Tryz.underlying27 hv
  obtain ⟨v0, v1, v2, v3, rfl⟩ := array4 (hsz.trans cellsDesk)
  obtain ⟨fuel, hf⟩ := h
  obtain ⟨x, e, hx⟩ := desk_of (by simpa [Value.cells] using hf)
  simp at e
  obtain ⟨rfl, rfl, rfl, rfl⟩ := e
  exact ⟨x, rfl, hx⟩

theorem cellsAnswer : Tryz.prog.cellsOf 32 = 3 := by kernel_rfl

set_option maxRecDepth 100000 in
theorem answer_arg {H : Type} {enc : TypeId × Value → H} {W : World} {base : Nat} {v : Value} {d : DataW H} {p : List MemPlace} (hv : Value.okWide Tryz.prog W .any base 32 v)
    (h : DataW.Trod enc Tryz.prog W 0 (fun _ => true) true 32 v d p) : ∃ x : AV, v = x.v ∧ x.ok W := by
  obtain ⟨v0, v1, v2, y0, y1, y2, m, rfl, _, _, h0, h1, h2⟩ := open_agg3 Tryz.underlying32 (by kernel_rfl) cellsAnswer hv h
  obtain ⟨e, e0, _, _⟩ := DataW.trod_int Tryz.underlying30 h0
  obtain ⟨t, e1, _, _⟩ := DataW.trod_int Tryz.underlying3 h1
  simp at e0 e1
  subst e0 e1
  obtain ⟨a, n, c, l, rfl, hi⟩ := ints_of h2
  exact ⟨⟨e, t, a, n, c, l⟩, rfl, hi⟩

end Go.Proofs.YtkamnbigfdbgbaaGreatDoor

/- What the table of kinds holds in a world, and that it stays so; plain mathematics, no condition. -/
namespace Go.Proofs.YtkamnbigfdbgbaaGreatDoor
open Go.RowKit
set_option linter.unusedVariables false
set_option maxRecDepth 100000
set_option linter.unusedSimpArgs false

/-- The kinds' words. -/
def word (k : Nat) : ByteArray := match k with
  | 1 => ⟨#[111, 112, 101, 110]⟩
  | 2 => ⟨#[99, 108, 111, 115, 101]⟩
  | 3 => ⟨#[102, 105, 110, 105, 115, 104]⟩
  | 4 => ⟨#[114, 101, 115, 101, 116]⟩
  | 5 => ⟨#[97, 112, 112, 101, 110, 100]⟩
  | 6 => ⟨#[119, 114, 105, 116, 101]⟩
  | 7 => ⟨#[114, 101, 97, 100]⟩
  | 8 => ⟨#[114, 101, 103, 105, 115, 116, 101, 114]⟩
  | 9 => ⟨#[114, 101, 115, 101, 114, 118, 101]⟩
  | 10 => ⟨#[114, 101, 108, 101, 97, 115, 101]⟩
  | 11 => ⟨#[112, 114, 101, 101, 109, 112, 116]⟩
  | 12 => ⟨#[99, 108, 101, 97, 114]⟩
  | _ => ⟨#[]⟩

/-- The table of kinds, cell by cell. -/
structure Shapes (w : World) : Prop where
  wd : ∀ k : Nat, k ≤ 12 → w.cell? ⟨0, k * 5, none⟩ = some (.string (word k))
  hz : ∀ k : Nat, k ≤ 12 → w.cell? ⟨0, k * 5 + 1, none⟩ = some (.bool (hasZ k))
  ha : ∀ k : Nat, k ≤ 12 → w.cell? ⟨0, k * 5 + 2, none⟩ = some (.bool (hasA k))
  hn : ∀ k : Nat, k ≤ 12 → w.cell? ⟨0, k * 5 + 3, none⟩ = some (.bool (hasN k))
  hd : ∀ k : Nat, k ≤ 12 → w.cell? ⟨0, k * 5 + 4, none⟩ = some (.bool (hasD k))

theorem Shapes.below {w w' : World} (h : Shapes w) (hb : Below w.heap.size w w') : Shapes w' :=
  ⟨fun k hk => keepc hb (h.wd k hk), fun k hk => keepc hb (h.hz k hk), fun k hk => keepc hb (h.ha k hk), fun k hk => keepc hb (h.hn k hk), fun k hk => keepc hb (h.hd k hk)⟩

end Go.Proofs.YtkamnbigfdbgbaaGreatDoor
