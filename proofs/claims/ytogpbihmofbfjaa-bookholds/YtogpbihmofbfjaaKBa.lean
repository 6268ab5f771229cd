/- The contracts of book's questions: within, agrees, Check, Same, checkHand, checkRegistered; no condition but that the keys read as a list. -/
import Derived.Test.YtogpbihmofbfjaaK0
import Derived.Test.YtogpbihmofbfjaaA3
import Derived.Deep.Light
namespace Go.Proofs.Ytogpbihmofbfjaa
open Go.RowKit
set_option linter.unusedVariables false
set_option maxRecDepth 100000
set_option linter.unusedSimpArgs false

theorem bwithin_c (n a b : Int) (w : World) : Calls Try.prog 23 #[.int .i64 n, .int .i64 a, .int .i64 b] w fun e w' => e = .returned (.bool (inB n a b)) ∧ w' = w := by
  go_enter Try.func23, Try.ntmps23
  go_wp2
  all_goals (go_ret; exact ⟨ret_bool (by unfold inB; rw [Bool.eq_iff_iff]; simp; try omega), rfl⟩)

/-- Do holder, type and key belong together? -/
def agreesB (b : PB) : Bool := if b.h = -1 then decide (b.t = 0) else decide (b.t ≠ 0) && decide (keyOf b b.h ≠ 0)

set_option maxHeartbeats 1000000 in
theorem agrees_c (a : Option Addr) (c : Nat) (x y z hh tt : Int) (w : World) (h : Ints w a 3 c [x, y, z]) (h2 : inB hh (-1) 2 = true) :
    Calls Try.prog 33 #[bookV a 3 c ⟨[x, y, z], hh, tt⟩] w fun e w' => e = .returned (.bool (agreesB ⟨[x, y, z], hh, tt⟩)) ∧ Below w.heap.size w w' := by
  unfold bookV
  obtain ⟨g, off, rfl, e0, e1, e2⟩ := h.three
  replace e0 := past1 e0
  replace e1 := past1 e1
  replace e2 := past1 e2
  have hv : hh = -1 ∨ hh = 0 ∨ hh = 1 ∨ hh = 2 := by simp [inB] at h2; omega
  clear h2
  rcases hv with rfl | rfl | rfl | rfl
  all_goals
    cases ht : tt == 0
    all_goals
      go_enter Try.func33, Try.ntmps33
      go_wp2
      all_goals
        go_ret
        refine ⟨ret_bool ?_, by (repeat first | exact bel0 | assumption | refine bel1 ?_ | refine bel2 ?_ | refine bel3 ?_ | refine belowT ?_ (by assumption) | refine bel5 ?_ (by simp; try omega))⟩
        simp at ht
        rw [Bool.eq_iff_iff]
        simp_all [agreesB, keyOf]

theorem checkB_agrees {b : PB} (h : b.k.length = 3) (h2 : ¬ (b.k.any (outB 0 9) = true ∨ outB (-1) 2 b.h = true ∨ outB 0 4 b.t = true)) : checkB b = if agreesB b = true then 0 else 4 := by
  by_cases h3 : b.h = -1 ∧ b.t ≠ 0 ∨ b.h ≠ -1 ∧ (b.t = 0 ∨ keyOf b b.h = 0)
  · rw [checkB_4 h h2 h3, if_neg]
    unfold agreesB
    rcases h3 with ⟨h3, h4⟩ | ⟨h3, h4⟩
    · simp [h3, h4]
    · rw [if_neg h3]
      rcases h4 with h4 | h4 <;> simp [h4]
  · rw [checkB_0 h h2 h3, if_pos]
    unfold agreesB
    by_cases h4 : b.h = -1
    · simp [h4] at h3 ⊢
      exact h3
    · simp [h4] at h3 ⊢
      exact h3

set_option maxHeartbeats 2000000 in
theorem BCheck_three (g off c : Nat) (l : List Int) (hh tt : Int) (w : World) (h : Ints w (some ⟨g, off, none⟩) 3 c l) (hr : ∀ i, i < 3 → w.cell? ⟨g, off + i, none⟩ = some (.int .i64 (l.getD i 0))) :
    Calls Try.prog 16 #[bookV (some ⟨g, off, none⟩) 3 c ⟨l, hh, tt⟩] w fun e w' => e = .returned (.int .i64 (checkB ⟨l, hh, tt⟩)) ∧ Below w.heap.size w w' := by
  have hlen := hide h.len
  unfold bookV
  go_enter Try.func16, Try.ntmps16
  go_wp2
  go_loop [12] (fun i => ∃ k : Nat, k ≤ 3 ∧ i = .int .i64 k ∧ (l.take k).any (outB 0 9) = false) (fun i => 3 - (intOf i).toNat)
  case atStart => exact ⟨0, by omega, rfl, by simp⟩
  case round =>
    obtain ⟨k, hk, rfl, ht⟩ := hrel
    by_cases hlt : k < 3
    · have hi := past1 (hr k hlt)
      have hlt' : (k : Int) < 3 := by omega
      have HT := hide ht
      clear ht hr
      generalize hy : l.getD k 0 = y at hi
      have HY := hide hy
      clear hy
      go_wp2_with (go_at_call 23; refine (bwithin_c _ _ _ _).mono ?_; rintro e w' ⟨rfl, rfl⟩)
      · rename_i hxy
        go_ret
        exact ⟨ret_int (checkB_3 (b := ⟨l, hh, tt⟩) hlen.out (.inl (any_of_getD _ l k (by rw [hlen.out]; omega) (by rw [HY.out]; simpa [inB_outB] using hxy)))).symm, by (repeat first | exact bel0 | assumption | refine bel1 ?_ | refine bel2 ?_ | refine bel3 ?_ | refine belowT ?_ (by assumption) | refine bel5 ?_ (by simp; try omega))⟩
      · rename_i hxy
        exact ⟨⟨k + 1, by omega, by go_num, any_take_step _ l k (by rw [hlen.out]; omega) HT.out (by rw [HY.out]; simpa [inB_outB] using hxy)⟩, by simp [intOf]; omega⟩
    · obtain rfl : k = 3 := by omega
      rw [List.take_of_length_le (by rw [hlen.out]; omega)] at ht
      have HT := hide ht
      obtain ⟨x, y, z, rfl⟩ := three hlen.out
      clear ht hr
      cases hin1 : inB hh (-1) 2
      · have HI := hide hin1
        clear hin1
        go_wp2_with (go_at_call 23; refine (bwithin_c _ _ _ _).mono ?_; rintro e w' ⟨rfl, rfl⟩; rw [HI.out])
        go_ret
        exact ⟨ret_int (checkB_3 (b := ⟨[x, y, z], hh, tt⟩) rfl (.inr (.inl (by have := HI.out; rw [inB_outB] at this; simpa using this)))).symm, by (repeat first | exact bel0 | assumption | refine bel1 ?_ | refine bel2 ?_ | refine bel3 ?_ | refine belowT ?_ (by assumption) | refine bel5 ?_ (by simp; try omega))⟩
      · have HI := hide hin1
        cases hin2 : inB tt 0 4
        · have HJ := hide hin2
          clear hin1 hin2
          go_wp2_with (go_at_call 23; refine (bwithin_c _ _ _ _).mono ?_; rintro e w' ⟨rfl, rfl⟩; first | rw [HI.out] | rw [HJ.out])
          go_ret
          exact ⟨ret_int (checkB_3 (b := ⟨[x, y, z], hh, tt⟩) rfl (.inr (.inr (by have := HJ.out; rw [inB_outB] at this; simpa using this)))).symm, by (repeat first | exact bel0 | assumption | refine bel1 ?_ | refine bel2 ?_ | refine bel3 ?_ | refine belowT ?_ (by assumption) | refine bel5 ?_ (by simp; try omega))⟩
        · have HJ := hide hin2
          have HC := hide (checkB_agrees (b := ⟨[x, y, z], hh, tt⟩) rfl (by
            rw [inB_outB] at hin1 hin2
            simp at hin1 hin2
            rw [HT.out]
            simp [hin1, hin2]))
          clear hin1 hin2
          go_wp2_with (first | (go_at_call 23; refine (bwithin_c _ _ _ _).mono ?_; rintro e w' ⟨rfl, rfl⟩; first | rw [HI.out] | rw [HJ.out]) | (go_at_call 33; refine (agrees_c _ c x y z hh tt _ (by refine h.below (B := w.heap.size) ?_ (Nat.le_refl _); (repeat first | exact bel0 | assumption | refine bel1 ?_ | refine bel2 ?_ | refine bel3 ?_ | refine belowT ?_ (by assumption) | refine bel5 ?_ (by simp; try omega))) HI.out).mono ?_; rintro e w1 ⟨rfl, hb1⟩))
          all_goals
            rename_i hag
            go_ret
            rw [HC.out]
            exact ⟨ret_int (by simp at hag; simp [hag]), by (repeat first | exact bel0 | assumption | refine bel1 ?_ | refine bel2 ?_ | refine bel3 ?_ | refine belowT ?_ (by assumption) | refine bel5 ?_ (by simp; try omega))⟩

theorem BCheck_c (a : Option Addr) (n c : Nat) (b : PB) (w : World) (h : Ints w a n c b.k) :
    Calls Try.prog 16 #[bookV a n c b] w fun e w' => e = .returned (.int .i64 (checkB b)) ∧ Below w.heap.size w w' := by
  obtain ⟨l, hh, tt⟩ := b
  dsimp only at h
  have hlen := h.len
  have hmax := h.max
  have hle := h.le
  by_cases h3 : n = 3
  · subst h3
    rcases h.row with h0 | ⟨g, off, rfl, _, hr⟩
    · omega
    · exact BCheck_three g off c l hh tt w h hr
  · have hne : ((n : Int) != 3) = true := by simp; omega
    have HC := hide (checkB_len (b := ⟨l, hh, tt⟩) (by simp only [hlen]; exact h3))
    unfold bookV
    go_enter Try.func16, Try.ntmps16
    go_wp2
    go_ret
    exact ⟨ret_int HC.out.symm, by (repeat first | exact bel0 | assumption | refine bel1 ?_ | refine bel2 ?_ | refine bel3 ?_ | refine belowT ?_ (by assumption) | refine bel5 ?_ (by simp; try omega))⟩

theorem BSame_c (a1 a2 : Option Addr) (n1 n2 c1 c2 : Nat) (b1 b2 : PB) (w : World) (h1 : Ints w a1 n1 c1 b1.k) (h2 : Ints w a2 n2 c2 b2.k) :
    Calls Try.prog 17 #[bookV a1 n1 c1 b1, bookV a2 n2 c2 b2] w fun e w' => e = .returned (.bool (sameB b1 b2)) ∧ Below w.heap.size w w' := by
  unfold bookV
  go_enter Try.func17, Try.ntmps17
  go_wp2_with fail
  refine (Equal_c a1 a2 n1 n2 c1 c2 b1.k b2.k _ (h1.below (B := w.heap.size) (by (repeat first | exact bel0 | assumption | refine bel1 ?_ | refine bel2 ?_ | refine bel3 ?_ | refine belowT ?_ (by assumption) | refine bel5 ?_ (by simp; try omega))) (Nat.le_refl _)) (h2.below (B := w.heap.size) (by (repeat first | exact bel0 | assumption | refine bel1 ?_ | refine bel2 ?_ | refine bel3 ?_ | refine belowT ?_ (by assumption) | refine bel5 ?_ (by simp; try omega))) (Nat.le_refl _))).mono ?_
  rintro e w1 ⟨rfl, q, rfl⟩
  obtain ⟨k1, x, r⟩ := b1
  obtain ⟨k2, y, s⟩ := b2
  dsimp only at *
  by_cases hk : k1 = k2
  · rw [decide_eq_true hk]
    have HK := hide hk
    clear hk
    cases hx : x == y
    · go_wp2
      go_ret
      exact ⟨ret_bool (by simp at hx; simp [sameB, hx]), by (repeat first | exact bel0 | assumption | refine bel1 ?_ | refine bel2 ?_ | refine bel3 ?_ | refine belowT ?_ (by assumption) | refine bel5 ?_ (by simp; try omega))⟩
    · go_wp2
      go_ret
      exact ⟨ret_bool (by simp at hx; rw [Bool.eq_iff_iff]; simp [sameB, HK.out, hx]), by (repeat first | exact bel0 | assumption | refine bel1 ?_ | refine bel2 ?_ | refine bel3 ?_ | refine belowT ?_ (by assumption) | refine bel5 ?_ (by simp; try omega))⟩
  · rw [decide_eq_false hk]
    have HK := hide hk
    clear hk
    go_wp2
    go_ret
    exact ⟨ret_bool (by simp [sameB, HK.out]), by (repeat first | exact bel0 | assumption | refine bel1 ?_ | refine bel2 ?_ | refine bel3 ?_ | refine belowT ?_ (by assumption) | refine bel5 ?_ (by simp; try omega))⟩

theorem checkHand_c (a : Option Addr) (n c : Nat) (b : PB) (who : Int) (w : World) (h : Ints w a n c b.k) :
    Calls Try.prog 22 #[bookV a n c b, .int .i64 who] w fun e w' => e = .returned (.int .i64 (preB b who)) ∧ Below w.heap.size w w' := by
  have hq : preB b who = if checkB b ≠ 0 then checkB b else if inB who 0 2 then 0 else 5 := rfl
  have HP := hide hq
  clear hq
  unfold bookV
  go_enter Try.func22, Try.ntmps22
  go_wp2_with fail
  refine (BCheck_c a n c b _ (h.below (B := w.heap.size) (by (repeat first | exact bel0 | assumption | refine bel1 ?_ | refine bel2 ?_ | refine bel3 ?_ | refine belowT ?_ (by assumption) | refine bel5 ?_ (by simp; try omega))) (Nat.le_refl _))).mono ?_
  rintro e w1 ⟨rfl, hb1⟩
  generalize hy : checkB b = x at *
  clear hy
  go_wp2_with (go_at_call 23; refine (bwithin_c _ _ _ _).mono ?_; rintro e w' ⟨rfl, rfl⟩)
  all_goals
    go_ret
    refine ⟨ret_int ?_, by (repeat first | exact bel0 | assumption | refine bel1 ?_ | refine bel2 ?_ | refine bel3 ?_ | refine belowT ?_ (by assumption) | refine bel5 ?_ (by simp; try omega))⟩
    rw [HP.out]
    simp_all

def regE (b : PB) (who : Int) : Int := if preB b who ≠ 0 then preB b who else if keyOf b who = 0 then 8 else 0

theorem preB_ok {b : PB} {who : Int} (h : preB b who = 0) : checkB b = 0 ∧ (who = 0 ∨ who = 1 ∨ who = 2) := by
  unfold preB at h
  split at h
  · exact absurd h ‹_›
  · rename_i h1
    refine ⟨Decidable.not_not.1 h1, ?_⟩
    split at h
    · rename_i h2
      simp [inB] at h2
      omega
    · omega

/-- The key of a hand that is there, in its cell. -/
theorem key_cell {w : World} {a : Option Addr} {n c : Nat} {b : PB} {who : Int} (h : Ints w a n c b.k) (hp : preB b who = 0) :
    n = 3 ∧ ∃ g off, a = some ⟨g, off, none⟩ ∧ w.cell? ⟨g, off + who.toNat, none⟩ = some (.int .i64 (keyOf b who)) := by
  obtain ⟨hc, hw⟩ := preB_ok hp
  obtain ⟨x, y, z, hk, _⟩ := checkB_ok hc
  obtain ⟨l, hh, tt⟩ := b
  dsimp only at hk h
  subst hk
  obtain rfl : n = 3 := h.len.symm
  obtain ⟨g, off, rfl, e0, e1, e2⟩ := h.three
  refine ⟨rfl, g, off, rfl, ?_⟩
  rcases hw with rfl | rfl | rfl
  · simpa [keyOf] using e0
  · simpa [keyOf] using e1
  · simpa [keyOf] using e2

theorem checkRegistered_c (a : Option Addr) (n c : Nat) (b : PB) (who : Int) (w : World) (h : Ints w a n c b.k) :
    Calls Try.prog 26 #[bookV a n c b, .int .i64 who] w fun e w' => e = .returned (.int .i64 (regE b who)) ∧ Below w.heap.size w w' := by
  have hq : regE b who = if preB b who ≠ 0 then preB b who else if keyOf b who = 0 then 8 else 0 := rfl
  have HP := hide hq
  clear hq
  by_cases hp : preB b who = 0
  · obtain ⟨rfl, g, off, rfl, hk⟩ := key_cell h hp
    have hw := (preB_ok hp).2
    replace hk := past1 hk
    generalize keyOf b who = x at *
    have HQ := hide hp
    clear hp
    unfold bookV
    rcases hw with rfl | rfl | rfl
    all_goals
      simp only [Int.toNat_zero, Int.toNat_one, Int.reduceToNat, Nat.add_zero] at hk
      go_enter Try.func26, Try.ntmps26
      go_wp2_with fail
      refine (checkHand_c _ 3 c b _ _ (h.below (B := w.heap.size) (by (repeat first | exact bel0 | assumption | refine bel1 ?_ | refine bel2 ?_ | refine bel3 ?_ | refine belowT ?_ (by assumption) | refine bel5 ?_ (by simp; try omega))) (Nat.le_refl _))).mono ?_
      rintro e w1 ⟨rfl, hb1⟩
      have hk1 := keepc hb1 (hk _)
      have x0 := keepc hb1 (p := ⟨w.heap.size, 0, none⟩) (u := .slice (some ⟨g, off, none⟩) 3 c) (by (first | (go_simp; done) | (simp [*, World.cell?_alloc_at, World.cell?_alloc_past, World.cell?_alloc_some, World.cell?_setCell_far]; done)))
      rw [HQ.out]
      go_wp2
      all_goals
        go_ret
        refine ⟨ret_int ?_, by (repeat first | exact bel0 | assumption | refine bel1 ?_ | refine bel2 ?_ | refine bel3 ?_ | refine belowT ?_ (by assumption) | refine bel5 ?_ (by simp; try omega))⟩
        rw [HP.out, HQ.out]
        simp_all
  · have HQ := hide hp
    have hx : (preB b who != 0) = true := by simpa using hp
    clear hp
    unfold bookV
    go_enter Try.func26, Try.ntmps26
    go_wp2_with fail
    refine (checkHand_c _ n c b who _ (h.below (B := w.heap.size) (by (repeat first | exact bel0 | assumption | refine bel1 ?_ | refine bel2 ?_ | refine bel3 ?_ | refine belowT ?_ (by assumption) | refine bel5 ?_ (by simp; try omega))) (Nat.le_refl _))).mono ?_
    rintro e w1 ⟨rfl, hb1⟩
    generalize hy : preB b who = x at *
    clear hy
    go_wp2
    go_ret
    exact ⟨ret_int (by rw [HP.out, if_pos HQ.out]), by (repeat first | exact bel0 | assumption | refine bel1 ?_ | refine bel2 ?_ | refine bel3 ?_ | refine belowT ?_ (by assumption) | refine bel5 ?_ (by simp; try omega))⟩

end Go.Proofs.Ytogpbihmofbfjaa
