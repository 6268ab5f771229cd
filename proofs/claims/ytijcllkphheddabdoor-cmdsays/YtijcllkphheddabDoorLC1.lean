/- The contracts of the document's own answers on commands: has, SameCmd, CheckCmd; no condition but that the data reads as a list. -/
import Derived.Test.YtijcllkphheddabDoorLC0
import Derived.Test.YtijcllkphheddabDoorShelf
namespace Go.Proofs.YtijcllkphheddabDoor
open Go.RowKit
set_option linter.unusedVariables false
set_option linter.unusedSimpArgs false

/-- What a kind of command has, by letters. -/
def hasS (k : Nat) : ByteArray := match k with
  | 1 | 2 | 3 | 4 => ⟨#[122]⟩
  | 5 => ⟨#[122, 100]⟩
  | 6 => ⟨#[122, 97, 100]⟩
  | 7 => ⟨#[122, 97, 110]⟩
  | 8 | 9 | 11 => ⟨#[110]⟩
  | _ => ⟨#[]⟩

set_option maxHeartbeats 1000000 in
theorem has_c (k : Nat) (w : World) (hk : k ≤ 12) : Calls Tryd.prog 18 #[.int .i64 k] w fun e w' => e = .returned (.string (hasS k)) ∧ Below w.heap.size w w' := by
  rcases (by omega : k = 0 ∨ k = 1 ∨ k = 2 ∨ k = 3 ∨ k = 4 ∨ k = 5 ∨ k = 6 ∨ k = 7 ∨ k = 8 ∨ k = 9 ∨ k = 10 ∨ k = 11 ∨ k = 12) with rfl | rfl | rfl | rfl | rfl | rfl | rfl | rfl | rfl | rfl | rfl | rfl | rfl
  all_goals
    go_enter Tryd.func18, Tryd.ntmps18
    go_wp2
    go_ret
    exact ⟨rfl, by (repeat (first | exact Below.refl _ _ | assumption | refine Below.drew ?_ | refine below_drewN ?_ _ | refine belowA ?_ _ | refine belowT ?_ (by assumption) | refine Below.setCell ?_ (by first | (simp; done) | (simp; omega)) _))⟩

set_option maxHeartbeats 1000000 in
theorem SameCmd_c (a1 a2 : Option Addr) (n1 n2 c1 c2 : Nat) (b1 b2 : PC) (w : World) (h1 : Ints w a1 n1 c1 b1.d) (h2 : Ints w a2 n2 c2 b2.d) :
    Calls Tryd.prog 11 #[cmdV a1 n1 c1 b1, cmdV a2 n2 c2 b2] w fun e w' => e = .returned (.bool (sameC b1 b2)) ∧ Below w.heap.size w w' := by
  obtain ⟨k1, z1, m1, t1, d1⟩ := b1
  obtain ⟨k2, z2, m2, t2, d2⟩ := b2
  unfold cmdV
  dsimp only at *
  have hs : sameC ⟨k1, z1, m1, t1, d1⟩ ⟨k2, z2, m2, t2, d2⟩ = (k1 == k2 && z1 == z2 && t1 == t2 && m1 == m2 && decide (d1 = d2)) := by
    rw [Bool.eq_iff_iff]
    simp [sameC, and_assoc]
  have HS := hide hs
  clear hs
  go_enter Tryd.func11, Tryd.ntmps11
  cases e1 : k1 == k2
  · go_wp2
    go_ret
    exact ⟨ret_bool (by rw [HS.out, e1]; rfl), by (repeat (first | exact Below.refl _ _ | assumption | refine Below.drew ?_ | refine below_drewN ?_ _ | refine belowA ?_ _ | refine belowT ?_ (by assumption) | refine Below.setCell ?_ (by first | (simp; done) | (simp; omega)) _))⟩
  · cases e2 : z1 == z2
    · go_wp2
      go_ret
      exact ⟨ret_bool (by rw [HS.out, e1, e2]; rfl), by (repeat (first | exact Below.refl _ _ | assumption | refine Below.drew ?_ | refine below_drewN ?_ _ | refine belowA ?_ _ | refine belowT ?_ (by assumption) | refine Below.setCell ?_ (by first | (simp; done) | (simp; omega)) _))⟩
    · cases e3 : t1 == t2
      · go_wp2
        go_ret
        exact ⟨ret_bool (by rw [HS.out, e1, e2, e3]; rfl), by (repeat (first | exact Below.refl _ _ | assumption | refine Below.drew ?_ | refine below_drewN ?_ _ | refine belowA ?_ _ | refine belowT ?_ (by assumption) | refine Below.setCell ?_ (by first | (simp; done) | (simp; omega)) _))⟩
      · cases e4 : m1 == m2
        · go_wp2
          go_ret
          exact ⟨ret_bool (by rw [HS.out, e1, e2, e3, e4]; rfl), by (repeat (first | exact Below.refl _ _ | assumption | refine Below.drew ?_ | refine below_drewN ?_ _ | refine belowA ?_ _ | refine belowT ?_ (by assumption) | refine Below.setCell ?_ (by first | (simp; done) | (simp; omega)) _))⟩
        · go_wp2_with (go_at_call 26; refine (Equal_c a1 a2 n1 n2 c1 c2 d1 d2 _ (by refine h1.below (B := w.heap.size) ?_ (Nat.le_refl _); (repeat (first | exact Below.refl _ _ | assumption | refine Below.drew ?_ | refine below_drewN ?_ _ | refine belowA ?_ _ | refine belowT ?_ (by assumption) | refine Below.setCell ?_ (by first | (simp; done) | (simp; omega)) _))) (by refine h2.below (B := w.heap.size) ?_ (Nat.le_refl _); (repeat (first | exact Below.refl _ _ | assumption | refine Below.drew ?_ | refine below_drewN ?_ _ | refine belowA ?_ _ | refine belowT ?_ (by assumption) | refine Below.setCell ?_ (by first | (simp; done) | (simp; omega)) _)))).mono ?_; rintro e w' ⟨rfl, q, rfl⟩)
          go_ret
          exact ⟨ret_bool (by rw [HS.out, e1, e2, e3, e4]; rfl), by (repeat (first | exact Below.refl _ _ | assumption | refine Below.drew ?_ | refine below_drewN ?_ _ | refine belowA ?_ _ | refine belowT ?_ (by assumption) | refine Below.setCell ?_ (by first | (simp; done) | (simp; omega)) _))⟩

theorem hasS_z (k : Nat) (hk : k ≤ 12) : decide (0 ≤ Lib.indexByte (hasS k).data.toList 122) = hasZ k := by
  rcases (by omega : k = 0 ∨ k = 1 ∨ k = 2 ∨ k = 3 ∨ k = 4 ∨ k = 5 ∨ k = 6 ∨ k = 7 ∨ k = 8 ∨ k = 9 ∨ k = 10 ∨ k = 11 ∨ k = 12) with rfl | rfl | rfl | rfl | rfl | rfl | rfl | rfl | rfl | rfl | rfl | rfl | rfl <;> decide
theorem hasS_a (k : Nat) (hk : k ≤ 12) : decide (0 ≤ Lib.indexByte (hasS k).data.toList 97) = hasA k := by
  rcases (by omega : k = 0 ∨ k = 1 ∨ k = 2 ∨ k = 3 ∨ k = 4 ∨ k = 5 ∨ k = 6 ∨ k = 7 ∨ k = 8 ∨ k = 9 ∨ k = 10 ∨ k = 11 ∨ k = 12) with rfl | rfl | rfl | rfl | rfl | rfl | rfl | rfl | rfl | rfl | rfl | rfl | rfl <;> decide
theorem hasS_n (k : Nat) (hk : k ≤ 12) : decide (0 ≤ Lib.indexByte (hasS k).data.toList 110) = hasN k := by
  rcases (by omega : k = 0 ∨ k = 1 ∨ k = 2 ∨ k = 3 ∨ k = 4 ∨ k = 5 ∨ k = 6 ∨ k = 7 ∨ k = 8 ∨ k = 9 ∨ k = 10 ∨ k = 11 ∨ k = 12) with rfl | rfl | rfl | rfl | rfl | rfl | rfl | rfl | rfl | rfl | rfl | rfl | rfl <;> decide
theorem hasS_d (k : Nat) (hk : k ≤ 12) : decide (0 ≤ Lib.indexByte (hasS k).data.toList 100) = hasD k := by
  rcases (by omega : k = 0 ∨ k = 1 ∨ k = 2 ∨ k = 3 ∨ k = 4 ∨ k = 5 ∨ k = 6 ∨ k = 7 ∨ k = 8 ∨ k = 9 ∨ k = 10 ∨ k = 11 ∨ k = 12) with rfl | rfl | rfl | rfl | rfl | rfl | rfl | rfl | rfl | rfl | rfl | rfl | rfl <;> decide

end Go.Proofs.YtijcllkphheddabDoor
