/- The contracts of cmd.kindOf and cmd.whole; no condition but that the table is as its text lays it, and that the list reads. -/
import Derived.Test.YtijcllkphheddabDoorQ2
import Derived.MapKept
import Derived.Lib.SlicesS
namespace Go.Proofs.YtijcllkphheddabDoor
open Go.RowKit
set_option linter.unusedVariables false
set_option linter.unusedSimpArgs false

/-- The kind that has this word. -/
def kindFrom (s : ByteArray) : Nat → Nat → Option Nat
  | 0, _ => none
  | f + 1, k => if word k = s then some k else kindFrom s f (k + 1)
def kindOfS (s : ByteArray) : Option Nat := kindFrom s 12 1

theorem kindFrom_hit (s : ByteArray) : ∀ (f k : Nat) {r : Nat}, kindFrom s f k = some r → word r = s ∧ k ≤ r ∧ r < k + f
  | 0, k, r, h => by cases h
  | f + 1, k, r, h => by
    unfold kindFrom at h
    split at h
    · cases h
      exact ⟨‹_›, by omega, by omega⟩
    · have := kindFrom_hit s f (k + 1) h
      exact ⟨this.1, by omega, by omega⟩
theorem kindFrom_at (s : ByteArray) : ∀ (f k i : Nat), (∀ j, j < i → word (k + j) ≠ s) → i < f → word (k + i) = s → kindFrom s f k = some (k + i)
  | 0, k, i, _, hi, _ => by omega
  | f + 1, k, 0, _, _, hw => by unfold kindFrom; rw [if_pos (show word k = s from hw)]; rfl
  | f + 1, k, i + 1, hn, hi, hw => by
    unfold kindFrom
    rw [if_neg (show ¬ word k = s from hn 0 (by omega))]
    have := kindFrom_at s f (k + 1) i (fun j hj => by have := hn (j + 1) (by omega); rwa [show k + 1 + j = k + (j + 1) by omega]) (by omega) (by rwa [show k + 1 + i = k + (i + 1) by omega])
    rw [this]
    congr 1
    omega
theorem kindFrom_none (s : ByteArray) : ∀ (f k : Nat), (∀ j, j < f → word (k + j) ≠ s) → kindFrom s f k = none
  | 0, _, _ => rfl
  | f + 1, k, hn => by
    unfold kindFrom
    rw [if_neg (show ¬ word k = s from hn 0 (by omega))]
    exact kindFrom_none s f (k + 1) (fun j hj => by have := hn (j + 1) (by omega); rwa [show k + 1 + j = k + (j + 1) by omega])

theorem beq_t {u s : ByteArray} (h : u = s) : (u == s) = true := (MapKept.bytes_beq u s).2 h
theorem beq_f {u s : ByteArray} (h : u ≠ s) : (u == s) = false := by
  cases e : u == s
  · rfl
  · exact absurd ((MapKept.bytes_beq u s).1 e) h

def kindV (r : Option Nat) : Value := match r with
  | some k => .tuple #[.int .i64 k, .bool true]
  | none => .tuple #[.int .i64 0, .bool false]

set_option maxRecDepth 100000 in
set_option maxHeartbeats 4000000 in
theorem kindOf_c (s : ByteArray) (w : World) (hS : Shapes w) : Calls Tryd.prog 35 #[.string s] w fun e w' => e = .returned (kindV (kindOfS s)) ∧ w' = w := by
  go_enter Tryd.func35, Tryd.ntmps35
  go_wp2
  go_loop [4] (fun x => ∃ k : Nat, 1 ≤ k ∧ k ≤ 13 ∧ x = .int .i64 k ∧ ∀ j, j < k - 1 → word (1 + j) ≠ s) (fun x => 13 - (intOf x).toNat)
  case atStart => exact ⟨1, by omega, by omega, rfl, fun j hj => by omega⟩
  case round =>
    obtain ⟨k, hk1, hk2, rfl, hno⟩ := hrel
    have HNO := hide hno
    clear hno
    by_cases hlt : k ≤ 12
    · have k1 : (0 : Int) ≤ (k : Int) := by omega
      have k2 : (k : Int) < 13 := by omega
      have s1 := hS.wd k hlt
      by_cases hw : word k = s
      · have e1 := beq_t hw
        have e2 := (Lib.bytes_beq_iff _ _).2 hw
        have HR : Hid (kindOfS s = some k) := hide (by
          have := kindFrom_at s 12 1 (k - 1) HNO.out (by omega) (by rw [show 1 + (k - 1) = k by omega]; exact hw)
          rw [kindOfS, this]
          congr 1
          omega)
        clear hw
        generalize word k = u at *
        go_wp2
        exact bodyPost_ret (v := .tuple #[.int .i64 k, .bool true]) (by simp [results, Tryd.results35, go_sem]) rfl ⟨by rw [HR.out]; rfl, rfl⟩
      · have e1 := beq_f hw
        have e2 := (Lib.bytes_beq_false_iff _ _).2 hw
        have HW := hide hw
        clear hw
        generalize hu : word k = u at *
        have HU := hide hu
        clear hu
        go_wp2
        refine ⟨⟨k + 1, by omega, by omega, by go_num, fun j hj => ?_⟩, by simp [intOf]; omega⟩
        by_cases hj2 : j < k - 1
        · exact HNO.out j hj2
        · obtain rfl : k = 1 + j := by omega
          rw [HU.out]
          exact HW.out
    · obtain rfl : k = 13 := by omega
      have HR : Hid (kindOfS s = none) := hide (kindFrom_none s 12 1 HNO.out)
      go_wp2
      exact bodyPost_ret (v := .tuple #[.int .i64 0, .bool false]) (by simp [results, Tryd.results35, go_sem]) rfl ⟨by rw [HR.out]; rfl, rfl⟩

theorem kindOfS_some {s : ByteArray} {k : Nat} (h : kindOfS s = some k) : word k = s ∧ 1 ≤ k ∧ k ≤ 12 := by
  have := kindFrom_hit s 12 1 h
  exact ⟨this.1, by omega, by omega⟩
theorem kindOfS_word (k : Nat) (h1 : 1 ≤ k) (h2 : k ≤ 12) : kindOfS (word k) = some k := by
  rcases (by omega : k = 1 ∨ k = 2 ∨ k = 3 ∨ k = 4 ∨ k = 5 ∨ k = 6 ∨ k = 7 ∨ k = 8 ∨ k = 9 ∨ k = 10 ∨ k = 11 ∨ k = 12) with rfl | rfl | rfl | rfl | rfl | rfl | rfl | rfl | rfl | rfl | rfl | rfl <;> decide +kernel

end Go.Proofs.YtijcllkphheddabDoor
