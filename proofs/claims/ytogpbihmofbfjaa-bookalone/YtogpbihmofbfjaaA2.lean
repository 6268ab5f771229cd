/- The contracts of the searches over a slice of ints, and of the law's own 'at': each call returns what the plain function says; no condition but that the slice reads as the list. -/
import Derived.Test.YtogpbihmofbfjaaA1
namespace Go.Proofs.Ytogpbihmofbfjaa
open Go.RowKit
set_option linter.unusedVariables false
set_option maxRecDepth 100000

set_option maxHeartbeats 400000 in
theorem all_some (b1 o1 n1 c1 : Nat) (l1 : List Int) (a b : Int) (w : World) (hl1 : l1.length = n1) (hm1 : n1 ≤ 9223372036854775807)
    (hr1 : ∀ i, i < n1 → w.cell? ⟨b1, o1 + i, none⟩ = some (.int .i64 (l1.getD i 0))) :
    Calls Try.prog 32 #[.slice (some ⟨b1, o1, none⟩) n1 c1, .int .i64 a, .int .i64 b] w
      fun e w' => e = .returned (.bool (l1.all fun x => inB x a b)) ∧ w' = w := by
  go_enter Try.func32, Try.ntmps32
  go_wp2
  go_loop [11] (fun i => ∃ k : Nat, k ≤ n1 ∧ i = .int .i64 k ∧ ((l1.take k).all fun x => inB x a b) = true) (fun i => n1 - (intOf i).toNat)
  case atStart => exact ⟨0, by omega, rfl, by simp⟩
  case round =>
    obtain ⟨k, hk, rfl, ht⟩ := hrel
    by_cases hlt : k < n1
    · have hi1 := hr1 k hlt
      have hlt' : (k : Int) < (n1 : Int) := by omega
      have HT := hide ht
      clear ht hr1
      generalize hx : l1.getD k 0 = x at hi1
      have HX := hide hx
      clear hx
      go_wp2_with (go_at_call 29; refine (in_c x a b _).mono ?_; rintro e w' ⟨rfl, rfl⟩)
      · rename_i hxy
        go_ret
        exact ⟨ret_bool (not_all_of_getD (fun x => inB x a b) l1 k (by omega) (by rw [HX.out]; simpa using hxy)).symm, rfl⟩
      · rename_i hxy
        exact ⟨⟨k + 1, by omega, by go_num, all_take_step (fun x => inB x a b) l1 k (by omega) HT.out (by rw [HX.out]; simpa using hxy)⟩, by simp [intOf]; omega⟩
    · go_wp2
      go_ret
      rw [List.take_of_length_le (by omega)] at ht
      exact ⟨ret_bool ht.symm, rfl⟩

theorem all_none (a1 : Option Addr) (c1 : Nat) (a b : Int) (w : World) :
    Calls Try.prog 32 #[.slice a1 0 c1, .int .i64 a, .int .i64 b] w fun e w' => e = .returned (.bool true) ∧ w' = w := by
  go_enter Try.func32, Try.ntmps32
  go_wp2
  refine wp_loop_rounds 1 ?_; rw [rounds_succ]
  go_wp2
  go_ret
  exact ⟨rfl, rfl⟩

theorem all_c (a1 : Option Addr) (n1 c1 : Nat) (l1 : List Int) (a b : Int) (w : World) (h1 : Ints w a1 n1 c1 l1) :
    Calls Try.prog 32 #[.slice a1 n1 c1, .int .i64 a, .int .i64 b] w fun e w' => e = .returned (.bool (l1.all fun x => inB x a b)) ∧ w' = w := by
  obtain ⟨hl1, hc1, hm1, hn1, hr1, hw1⟩ := h1
  rcases hr1 with h0 | ⟨b1, o1, rfl, _, hr1⟩
  · subst h0
    rw [List.length_eq_zero_iff] at hl1
    subst hl1
    exact all_none a1 c1 a b w
  · exact all_some b1 o1 n1 c1 l1 a b w hl1 (by omega) hr1

theorem tmod_fix (k n : Int) (hn : 0 < n) : (k.tmod n < 0 → k.tmod n + n = k % n) ∧ (0 ≤ k.tmod n → k.tmod n = k % n) := by
  have h1 := Int.emod_nonneg k (by omega : n ≠ 0)
  have h2 := Int.emod_lt_of_pos k hn
  rw [Int.tmod_eq_emod]
  split <;> constructor <;> intro h <;> omega

/-- 'at': a number brought within bounds: what is left of it. -/
theorem at_c (k n : Int) (w : World) (hn : 0 < n) (hn2 : n ≤ 1000000) (hk : -9223372036854775808 ≤ k ∧ k ≤ 9223372036854775807) :
    Calls Try.prog 21 #[.int .i64 k, .int .i64 n] w fun e w' => e = .returned (.int .i64 (k % n)) ∧ w' = w := by
  have hnz : (n == 0) = false := by simp; omega
  have h1 := Int.tmod_lt_of_pos k hn
  have h2 := Int.lt_tmod_of_pos k hn
  obtain ⟨f1, f2⟩ := tmod_fix k n hn
  have F1 := hide f1
  have F2 := hide f2
  clear f1 f2
  go_enter Try.func21, Try.ntmps21
  go_wp2
  · rename_i h
    go_ret
    exact ⟨ret_int (F1.out h), rfl⟩
  · rename_i h
    go_ret
    exact ⟨ret_int (F2.out h), rfl⟩

end Go.Proofs.Ytogpbihmofbfjaa
