/- The contracts of package book; no condition but that the keys read as a list. -/
import Derived.Test.YtogpbihmofbfjaaKBe
namespace Go.Proofs.Ytogpbihmofbfjaa
open Go.RowKit
set_option linter.unusedVariables false
set_option maxRecDepth 100000
set_option linter.unusedSimpArgs false

/-- A hand that is there, as a number from 0 on. -/
theorem hand_nat {b : PB} {who : Int} (hp : preB b who = 0) : ∃ k : Nat, k < 3 ∧ who = k := by
  rcases (preB_ok hp).2 with rfl | rfl | rfl
  · exact ⟨0, by omega, rfl⟩
  · exact ⟨1, by omega, rfl⟩
  · exact ⟨2, by omega, rfl⟩

theorem BRegister_c (a : Option Addr) (n c : Nat) (b : PB) (who key : Int) (w : World) (h : Ints w a n c b.k) :
    Calls Try.prog 6 #[bookV a n c b, .int .i64 who, .int .i64 key] w fun e w' => (∃ a' n' c', e = .returned (.tuple #[bookV a' n' c' (registerB b who key).1, .int .i64 (registerB b who key).2]) ∧ Ints w' a' n' c' (registerB b who key).1.k ∧ ∀ x, a' = some x → w.heap.size ≤ x.block) ∧ Below w.heap.size w w' := by
  by_cases hp : preB b who = 0
  · cases hk : inB key 0 9
    · exact BRegister_rng a n c b who key w h hp hk
    · obtain ⟨rfl, g, off, rfl, hc⟩ := key_cell h hp
      obtain ⟨k, hk3, rfl⟩ := hand_nat hp
      exact BRegister_good g off c b k key w h hp hk3 hk
  · exact BRegister_bad a n c b who key w h hp

theorem BReserve_c (a : Option Addr) (n c : Nat) (b : PB) (who key : Int) (w : World) (h : Ints w a n c b.k) :
    Calls Try.prog 7 #[bookV a n c b, .int .i64 who, .int .i64 key] w fun e w' => (∃ a' n' c', e = .returned (.tuple #[bookV a' n' c' (reserveB b who key).1, .int .i64 (reserveB b who key).2]) ∧ Ints w' a' n' c' (reserveB b who key).1.k ∧ ∀ x, a' = some x → w.heap.size ≤ x.block) ∧ Below w.heap.size w w' := by
  by_cases hp : preB b who = 0
  · cases hk : inB key 1 4
    · exact BReserve_rng a n c b who key w h hp hk
    · obtain ⟨rfl, g, off, rfl, hc⟩ := key_cell h hp
      obtain ⟨k, hk3, rfl⟩ := hand_nat hp
      exact BReserve_good g off c b k key w h hp hk3 hk _ rfl (by simpa using hc)
  · exact BReserve_bad a n c b who key w h hp

theorem BPreempt_c (a : Option Addr) (n c : Nat) (b : PB) (who key : Int) (w : World) (h : Ints w a n c b.k) :
    Calls Try.prog 9 #[bookV a n c b, .int .i64 who, .int .i64 key] w fun e w' => (∃ a' n' c', e = .returned (.tuple #[bookV a' n' c' (preemptB b who key).1, .int .i64 (preemptB b who key).2]) ∧ Ints w' a' n' c' (preemptB b who key).1.k ∧ ∀ x, a' = some x → w.heap.size ≤ x.block) ∧ Below w.heap.size w w' := by
  by_cases hp : preB b who = 0
  · cases hk : inB key 1 9
    · exact BPreempt_rng a n c b who key w h hp hk
    · obtain ⟨rfl, g, off, rfl, hc⟩ := key_cell h hp
      obtain ⟨k, hk3, rfl⟩ := hand_nat hp
      exact BPreempt_good g off c b k key w h hp hk3 hk _ rfl (by simpa using hc)
  · exact BPreempt_bad a n c b who key w h hp

theorem regE_pre {b : PB} {who : Int} (h : regE b who = 0) : preB b who = 0 := by
  unfold regE at h
  split at h
  · exact h
  · rename_i h1
    exact Decidable.not_not.1 h1

theorem BRelease_c (a : Option Addr) (n c : Nat) (b : PB) (who : Int) (w : World) (h : Ints w a n c b.k) :
    Calls Try.prog 8 #[bookV a n c b, .int .i64 who] w fun e w' => (∃ a' n' c', e = .returned (.tuple #[bookV a' n' c' (releaseB b who).1, .int .i64 (releaseB b who).2]) ∧ Ints w' a' n' c' (releaseB b who).1.k ∧ ∀ x, a' = some x → w.heap.size ≤ x.block) ∧ Below w.heap.size w w' := by
  by_cases hp : regE b who = 0
  · obtain ⟨rfl, g, off, rfl, hc⟩ := key_cell h (regE_pre hp)
    exact BRelease_good g off c b who w h hp
  · exact BRelease_bad a n c b who w h hp

theorem BClear_c (a : Option Addr) (n c : Nat) (b : PB) (who : Int) (w : World) (h : Ints w a n c b.k) :
    Calls Try.prog 10 #[bookV a n c b, .int .i64 who] w fun e w' => (∃ a' n' c', e = .returned (.tuple #[bookV a' n' c' (clearB b who).1, .int .i64 (clearB b who).2]) ∧ Ints w' a' n' c' (clearB b who).1.k ∧ ∀ x, a' = some x → w.heap.size ≤ x.block) ∧ Below w.heap.size w w' := by
  by_cases hp : regE b who = 0
  · obtain ⟨rfl, g, off, rfl, hc⟩ := key_cell h (regE_pre hp)
    exact BClear_good g off c b who w h hp
  · exact BClear_bad a n c b who w h hp

theorem BMay_c (a : Option Addr) (n c : Nat) (b : PB) (who : Int) (wr : Bool) (w : World) (h : Ints w a n c b.k) :
    Calls Try.prog 13 #[bookV a n c b, .int .i64 who, .bool wr] w fun e w' => e = .returned (.tuple #[.bool (mayB b who wr).1, .int .i64 (mayB b who wr).2]) ∧ Below w.heap.size w w' := by
  by_cases hp : preB b who = 0
  · obtain ⟨rfl, g, off, rfl, hc⟩ := key_cell h hp
    obtain ⟨k, hk3, rfl⟩ := hand_nat hp
    have hm : mayB b k wr = (mightB b k wr, 0) := by simp [mayB, hp]
    rw [hm]
    exact BMay_good g off c b k wr w h hp hk3 _ rfl (by simpa using hc)
  · have hm : mayB b who wr = (false, preB b who) := by simp [mayB, hp]
    rw [hm]
    exact BMay_bad a n c b who wr w h hp

end Go.Proofs.Ytogpbihmofbfjaa
