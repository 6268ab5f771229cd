/- The contracts of the small functions: each call returns what the plain function says, in whatever world; no condition. -/
import Derived.Test.YtogpbihmofbfjaaProg
import Derived.Test.YtogpbihmofbfjaaA0
import Derived.BigQuiet
import Derived.Deep.QuietTactic
import Derived.WalkSpells
namespace Go.Proofs.Ytogpbihmofbfjaa
open Go.RowKit
set_option linter.unusedVariables false
set_option maxRecDepth 100000

def inB (n a b : Int) : Bool := decide (a ≤ n) && decide (n ≤ b)

theorem in_c (n a b : Int) (w : World) : Calls Try.prog 29 #[.int .i64 n, .int .i64 a, .int .i64 b] w fun e w' => e = .returned (.bool (inB n a b)) ∧ w' = w := by
  go_enter Try.func29, Try.ntmps29
  go_wp2
  all_goals (go_ret; exact ⟨ret_bool (by unfold inB; rw [Bool.eq_iff_iff]; simp; try omega), rfl⟩)

def fitsB (s b : Int) : Bool := if s = 4 then true else if s = 0 then b == 0 else if s = 3 then decide (0 < b) && decide (b < 8) else decide (b < 8)

def outB (a b v : Int) : Bool := decide (v < a) || decide (b < v)

set_option maxHeartbeats 400000 in
theorem Equal_some (b1 o1 b2 o2 n1 c1 c2 : Nat) (l1 l2 : List Int) (w : World) (hl1 : l1.length = n1) (hl2 : l2.length = n1) (hm1 : n1 ≤ 9223372036854775807)
    (hr1 : ∀ i, i < n1 → w.cell? ⟨b1, o1 + i, none⟩ = some (.int .i64 (l1.getD i 0))) (hr2 : ∀ i, i < n1 → w.cell? ⟨b2, o2 + i, none⟩ = some (.int .i64 (l2.getD i 0))) :
    Calls Try.prog 31 #[.slice (some ⟨b1, o1, none⟩) n1 c1, .slice (some ⟨b2, o2, none⟩) n1 c2] w fun e w' => e = .returned (.bool (decide (l1 = l2))) ∧ ∃ n, w' = w.drewN n := by
  go_enter Try.func31, Try.ntmps31
  go_wp2
  go_loopw [13] (fun i wr => ∃ k n : Nat, k ≤ n1 ∧ i = .int .i64 k ∧ l1.take k = l2.take k ∧ wr = w.drewN n) (fun i _ => n1 - (intOf i).toNat)
  case atStart => exact ⟨0, 0, by omega, rfl, by simp, rfl⟩
  case round =>
    obtain ⟨k, n, hk, rfl, ht, rfl⟩ := hrel
    by_cases hlt : k < n1
    · have hi1 := hr1 k hlt
      have hi2 := hr2 k hlt
      have hlt' : (k : Int) < (n1 : Int) := by omega
      have HT := hide ht
      clear ht hr1 hr2
      generalize hx : l1.getD k 0 = x at hi1
      generalize hy : l2.getD k 0 = y at hi2
      have HX := hide hx
      have HY := hide hy
      clear hx hy
      go_wp2
      go_quiet (fail)
      go_wp2
      · rename_i hxy
        go_ret
        exact ⟨ret_bool (decide_eq_false (ne_of_getD l1 l2 k (by rw [HX.out, HY.out]; simpa using hxy))).symm, n + nq, by simp⟩
      · rename_i hxy
        exact ⟨⟨k + 1, _, by omega, by go_num, take_eq_step l1 l2 k (by omega) (by omega) HT.out (by rw [HX.out, HY.out]; simpa using hxy), rfl⟩, by simp [intOf]; omega⟩
    · go_wp2
      go_ret
      exact ⟨ret_bool (by rw [List.take_of_length_le (by omega), List.take_of_length_le (by omega)] at ht; simp [ht]), _, rfl⟩

theorem Equal_none (a1 a2 : Option Addr) (n1 n2 c1 c2 : Nat) (w : World) (hz : n1 = 0 ∨ n2 = 0) (hm1 : n1 ≤ 9223372036854775807) (hm2 : n2 ≤ 9223372036854775807) :
    Calls Try.prog 31 #[.slice a1 n1 c1, .slice a2 n2 c2] w fun e w' => e = .returned (.bool (decide (n1 = n2))) ∧ ∃ n, w' = w.drewN n := by
  by_cases hn : n1 = n2
  · subst hn
    obtain rfl : n1 = 0 := by omega
    go_enter Try.func31, Try.ntmps31
    go_wp2
    refine wp_loop_rounds 1 ?_; rw [rounds_succ]
    go_wp2
    go_ret
    exact ⟨rfl, 0, rfl⟩
  · have hne : ((n1 : Int) != (n2 : Int)) = true := by simp; omega
    go_enter Try.func31, Try.ntmps31
    go_wp2
    go_ret
    exact ⟨ret_bool (by simp [hn]), 0, rfl⟩

theorem Equal_ne (a1 a2 : Option Addr) (n1 n2 c1 c2 : Nat) (w : World) (hn : n1 ≠ n2) (hm1 : n1 ≤ 9223372036854775807) (hm2 : n2 ≤ 9223372036854775807) :
    Calls Try.prog 31 #[.slice a1 n1 c1, .slice a2 n2 c2] w fun e w' => e = .returned (.bool false) ∧ ∃ n, w' = w.drewN n := by
  have hne : ((n1 : Int) != (n2 : Int)) = true := by simp; omega
  go_enter Try.func31, Try.ntmps31
  go_wp2
  go_ret
  exact ⟨rfl, 0, rfl⟩

/-- slices.Equal: are the two lists one? -/
theorem Equal_c (a1 a2 : Option Addr) (n1 n2 c1 c2 : Nat) (l1 l2 : List Int) (w : World) (h1 : Ints w a1 n1 c1 l1) (h2 : Ints w a2 n2 c2 l2) :
    Calls Try.prog 31 #[.slice a1 n1 c1, .slice a2 n2 c2] w fun e w' => e = .returned (.bool (decide (l1 = l2))) ∧ ∃ n, w' = w.drewN n := by
  obtain ⟨hl1, hc1, hm1, hn1, hr1, hw1⟩ := h1
  obtain ⟨hl2, hc2, hm2, hn2, hr2, hw2⟩ := h2
  by_cases hn : n1 = n2
  · subst hn
    rcases hr1 with h0 | ⟨b1, o1, rfl, _, hr1⟩
    · refine (Equal_none a1 a2 n1 n1 c1 c2 w (.inl h0) (by omega) (by omega)).mono fun e w' h => ⟨?_, h.2⟩
      rw [h.1]; subst h0
      exact ret_bool (by rw [List.length_eq_zero_iff] at hl1 hl2; simp [hl1, hl2])
    · rcases hr2 with h0 | ⟨b2, o2, rfl, _, hr2⟩
      · refine (Equal_none _ a2 n1 n1 c1 c2 w (.inl h0) (by omega) (by omega)).mono fun e w' h => ⟨?_, h.2⟩
        rw [h.1]; subst h0
        exact ret_bool (by rw [List.length_eq_zero_iff] at hl1 hl2; simp [hl1, hl2])
      · exact Equal_some b1 o1 b2 o2 n1 c1 c2 l1 l2 w hl1 hl2 (by omega) hr1 hr2
  · refine (Equal_ne a1 a2 n1 n2 c1 c2 w hn (by omega) (by omega)).mono fun e w' h => ⟨?_, h.2⟩
    rw [h.1]
    exact ret_bool (by simp; intro h; subst h; omega)

end Go.Proofs.Ytogpbihmofbfjaa
