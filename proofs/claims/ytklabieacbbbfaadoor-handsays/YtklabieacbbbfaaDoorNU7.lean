/- The contracts of the document's own CheckDesk, SameDesk, CheckAnswer, SameAnswer and FreshDesk; no condition but that the arguments read as data. -/
import Derived.Test.YtklabieacbbbfaaDoorNU6
import Derived.Test.YtklabieacbbbfaaDoorNU1
import Derived.Deep.RegionHeld3
import Derived.Shelf.Strings.Search1
import Derived.Shelf.Strings.Search2
import Derived.Shelf.Strings.Search3
import Derived.Shelf.LaysM
import Derived.Shelf.Strings.Shaped
import Derived.Shelf.Slices.Equal
import Derived.Shelf.Slices.Empties2
import Derived.Test.YtklabieacbbbfaaDoorProg
import Derived.Test.YtklabieacbbbfaaDoorNU4
namespace Go.Proofs.YtklabieacbbbfaaDoor
open Go.RowKit
set_option linter.unusedVariables false
set_option maxRecDepth 100000
set_option linter.unusedSimpArgs false

theorem SameAnswerR_c (x y : AV) (w : World) (hx : x.ok w) (hy : y.ok w) : Calls Tryd.prog 33 #[x.v, y.v] w fun e w' => e = .returned (.bool (sameA x.p y.p)) ∧ Below w.heap.size w w' := by
  obtain ⟨e1, t1, a1, n1, c1, l1⟩ := x
  obtain ⟨e2, t2, a2, n2, c2, l2⟩ := y
  dsimp only [AV.v, AV.p]
  have h1 : Ints w a1 n1 c1 l1 := hx
  have h2 : Ints w a2 n2 c2 l2 := hy
  have HS : Hid (sameA ⟨e1, t1, l1⟩ ⟨e2, t2, l2⟩ = (e1 == e2 && (t1 == t2 && decide (l1 = l2)))) := hide (by rw [Bool.eq_iff_iff]; simp [sameA])
  cases he : e1 == e2
  · go_enter Tryd.func33, Tryd.ntmps33
    go_wp2
    go_ret
    exact ⟨ret_bool (by rw [HS.out, he]; rfl), by (repeat first | exact bel0 | assumption | refine bel1 ?_ | refine bel2 ?_ | refine bel3 ?_ | refine belowT ?_ (by assumption) | refine bel5 ?_ (by simp; try omega))⟩
  · cases ht : t1 == t2
    · go_enter Tryd.func33, Tryd.ntmps33
      go_wp2
      go_ret
      exact ⟨ret_bool (by rw [HS.out, he, ht]; rfl), by (repeat first | exact bel0 | assumption | refine bel1 ?_ | refine bel2 ?_ | refine bel3 ?_ | refine belowT ?_ (by assumption) | refine bel5 ?_ (by simp; try omega))⟩
    · go_enter Tryd.func33, Tryd.ntmps33
      go_wp2_with fail
      refine (Equal_c a1 a2 n1 n2 c1 c2 l1 l2 _ (h1.below (B := w.heap.size) (by (repeat first | exact bel0 | assumption | refine bel1 ?_ | refine bel2 ?_ | refine bel3 ?_ | refine belowT ?_ (by assumption) | refine bel5 ?_ (by simp; try omega))) (Nat.le_refl _)) (h2.below (B := w.heap.size) (by (repeat first | exact bel0 | assumption | refine bel1 ?_ | refine bel2 ?_ | refine bel3 ?_ | refine belowT ?_ (by assumption) | refine bel5 ?_ (by simp; try omega))) (Nat.le_refl _))).mono ?_
      rintro e w1 ⟨rfl, q, rfl⟩
      go_wp2
      go_ret
      exact ⟨ret_bool (by rw [HS.out, he, ht]; simp), by (repeat first | exact bel0 | assumption | refine bel1 ?_ | refine bel2 ?_ | refine bel3 ?_ | refine belowT ?_ (by assumption) | refine bel5 ?_ (by simp; try omega))⟩


set_option maxHeartbeats 2000000 in
theorem CheckAnswerR_c (x : AV) (w : World) (h : x.ok w) : Calls Tryd.prog 25 #[x.v] w fun e w' => e = .returned (.int .i64 (checkA x.p)) ∧ Below w.heap.size w w' := by
  obtain ⟨ee, tt, a, n, c, l⟩ := x
  have hI : Ints w a n c l := h
  dsimp only [AV.v, AV.p]
  have hlen := hI.len
  have hmax := hI.max
  have hle := hI.le
  cases h1 : inB ee 0 9
  · have HC : Hid (checkA ⟨ee, tt, l⟩ = 3) := hide (by unfold checkA; exact if_pos (.inl (by rw [inB_outB] at h1; simpa using h1)))
    have H1 := hide h1
    clear h1
    go_enter Tryd.func25, Tryd.ntmps25
    go_wp2_with (go_at_call 29; refine (in_c _ _ _ _).mono ?_; rintro e w1 ⟨rfl, rfl⟩; rw [H1.out])
    go_ret
    exact ⟨ret_int HC.out.symm, by (repeat first | exact bel0 | assumption | refine bel1 ?_ | refine bel2 ?_ | refine bel3 ?_ | refine belowT ?_ (by assumption) | refine bel5 ?_ (by simp; try omega))⟩
  · cases h2 : inB tt 0 7
    · have HC : Hid (checkA ⟨ee, tt, l⟩ = 3) := hide (by unfold checkA; exact if_pos (.inr (by rw [inB_outB] at h2; simpa using h2)))
      have H1 := hide h1
      have H2 := hide h2
      clear h1 h2
      go_enter Tryd.func25, Tryd.ntmps25
      go_wp2_with fail
      refine (in_c _ _ _ _).mono ?_
      rintro e w1 ⟨rfl, rfl⟩
      rw [H1.out]
      go_wp2_with fail
      refine (in_c _ _ _ _).mono ?_
      rintro e w1 ⟨rfl, rfl⟩
      rw [H2.out]
      go_wp2
      go_ret
      exact ⟨ret_int HC.out.symm, by (repeat first | exact bel0 | assumption | refine bel1 ?_ | refine bel2 ?_ | refine bel3 ?_ | refine belowT ?_ (by assumption) | refine bel5 ?_ (by simp; try omega))⟩
    · have hb1 : 0 ≤ ee ∧ ee ≤ 9 := by simp [inB] at h1; omega
      have hb2 : 0 ≤ tt ∧ tt ≤ 7 := by simp [inB] at h2; omega
      have HC : Hid (checkA ⟨ee, tt, l⟩ = if 8 < l.length then 2 else if l.any (outB 0 999) then 3 else if ee ≠ 0 ∧ (tt ≠ 0 ∨ l ≠ []) then 4 else 0) := hide (by
        unfold checkA
        exact if_neg (by rw [inB_outB] at h1 h2; simp only [Bool.not_eq_true'] at h1 h2; rw [h1, h2]; simp))
      have H1 := hide h1
      have H2 := hide h2
      have HB := hide (And.intro hb1 hb2)
      clear h1 h2 hb1 hb2
      go_enter Tryd.func25, Tryd.ntmps25
      go_wp2_with fail
      refine (in_c _ _ _ _).mono ?_
      rintro e w1 ⟨rfl, rfl⟩
      rw [H1.out]
      go_wp2_with fail
      refine (in_c _ _ _ _).mono ?_
      rintro e w1 ⟨rfl, rfl⟩
      rw [H2.out]
      by_cases h8 : 8 < n
      · have h8' : (8 : Int) < (n : Int) := by omega
        go_wp2
        go_ret
        exact ⟨ret_int (by rw [HC.out, hlen, if_pos h8]), by (repeat first | exact bel0 | assumption | refine bel1 ?_ | refine bel2 ?_ | refine bel3 ?_ | refine belowT ?_ (by assumption) | refine bel5 ?_ (by simp; try omega))⟩
      · have h8' : ¬ (8 : Int) < (n : Int) := by omega
        go_wp2_with fail
        refine (all_c a n c l 0 999 _ (hI.below (B := w.heap.size) (by (repeat first | exact bel0 | assumption | refine bel1 ?_ | refine bel2 ?_ | refine bel3 ?_ | refine belowT ?_ (by assumption) | refine bel5 ?_ (by simp; try omega))) (Nat.le_refl _))).mono ?_
        rintro e w1 ⟨rfl, rfl⟩
        rw [all_any]
        cases hany : l.any (outB 0 999)
        · by_cases e0 : 0 < ee
          · by_cases t0 : 0 < tt
            · go_wp2
              go_ret
              exact ⟨ret_int (by rw [HC.out, hlen, if_neg h8, hany, if_neg (by simp), if_pos ⟨by omega, .inl (by omega)⟩]), by (repeat first | exact bel0 | assumption | refine bel1 ?_ | refine bel2 ?_ | refine bel3 ?_ | refine belowT ?_ (by assumption) | refine bel5 ?_ (by simp; try omega))⟩
            · by_cases hn0 : 0 < n
              · have hn0' : (0 : Int) < (n : Int) := by omega
                go_wp2
                go_ret
                have hl : l ≠ [] := fun e => by rw [e] at hlen; simp at hlen; omega
                exact ⟨ret_int (by rw [HC.out, hlen, if_neg h8, hany, if_neg (by simp), if_pos ⟨by omega, .inr hl⟩]), by (repeat first | exact bel0 | assumption | refine bel1 ?_ | refine bel2 ?_ | refine bel3 ?_ | refine belowT ?_ (by assumption) | refine bel5 ?_ (by simp; try omega))⟩
              · have hn0' : ¬ (0 : Int) < (n : Int) := by omega
                go_wp2
                go_ret
                have hl : l = [] := List.eq_nil_of_length_eq_zero (by omega)
                have hB := HB.out
                exact ⟨ret_int (by rw [HC.out, hlen, if_neg h8, hany, if_neg (by simp), if_neg (by rw [hl]; simp; omega)]), by (repeat first | exact bel0 | assumption | refine bel1 ?_ | refine bel2 ?_ | refine bel3 ?_ | refine belowT ?_ (by assumption) | refine bel5 ?_ (by simp; try omega))⟩
          · go_wp2
            go_ret
            have hB := HB.out
            exact ⟨ret_int (by rw [HC.out, hlen, if_neg h8, hany, if_neg (by simp), if_neg (by omega)]), by (repeat first | exact bel0 | assumption | refine bel1 ?_ | refine bel2 ?_ | refine bel3 ?_ | refine belowT ?_ (by assumption) | refine bel5 ?_ (by simp; try omega))⟩
        · go_wp2
          go_ret
          exact ⟨ret_int (by rw [HC.out, hlen, if_neg h8, hany]; rfl), by (repeat first | exact bel0 | assumption | refine bel1 ?_ | refine bel2 ?_ | refine bel3 ?_ | refine belowT ?_ (by assumption) | refine bel5 ?_ (by simp; try omega))⟩

end Go.Proofs.YtklabieacbbbfaaDoor

/-
  DERIVED: THE SHELF's CONTRACTS AT THIS DUMP, IN PLAIN WORDS (tools/lay-plain.mjs out of 'TrydShelf.lean', which tools/lay-shelf.mjs wrote): THE SAME DECLARATIONS UNDER THE SAME NAMES: 'import', 'namespace', 'open', 'def', 'theorem' AND NOTHING ELSE: no command of the shelf's: FOR A HAND-IN. Each laying: the table of numbers ('.._ren') and one theorem, a field a fact of the dump's own or the kernel's comparison; each contract: ONE APPLICATION.
-/
namespace Go.Proofs
open Go.Shelf
def Tryd.lays144_ren : Go.Shelf.Ren := ⟨fun | 144 => 43 | 143 => 46 | 219 => 47 | 217 => 48 | 225 => 49 | 224 => 50 | 267 => 51 | 266 => 52 | 314 => 53 | n => n, fun | 9 => 9 | 4 => 4 | 3 => 3 | 5 => 5 | 46 => 77 | 146 => 79 | 51 => 78 | n => n, fun | 1 => 1 | n => n⟩
theorem Tryd.lays144 : Go.Proofs.Lays.n144 Tryd.prog Tryd.lays144_ren := {
  mixed := by kernel_rfl
  f143 := Tryd.func46.trans (congrArg some (by kernel_rfl))
  f144 := Tryd.func43.trans (congrArg some (by kernel_rfl))
  f217 := Tryd.func48.trans (congrArg some (by kernel_rfl))
  f219 := Tryd.func47.trans (congrArg some (by kernel_rfl))
  f224 := Tryd.func50.trans (congrArg some (by kernel_rfl))
  f225 := Tryd.func49.trans (congrArg some (by kernel_rfl))
  f266 := Tryd.func52.trans (congrArg some (by kernel_rfl))
  f267 := Tryd.func51.trans (congrArg some (by kernel_rfl))
  f314 := Tryd.func53.trans (congrArg some (by kernel_rfl))
  t3 := Tryd.underlying3
  a3 := Tryd.isAgg3
  z3 := Tryd.sizeOf3
  v3 := Tryd.zeroValue3
  t4 := Tryd.underlying4
  a4 := Tryd.isAgg4
  z4 := Tryd.sizeOf4
  v4 := Tryd.zeroValue4
  t5 := Tryd.underlying5
  a5 := Tryd.isAgg5
  z5 := Tryd.sizeOf5
  v5 := Tryd.zeroValue5
  t9 := Tryd.underlying9
  a9 := Tryd.isAgg9
  z9 := Tryd.sizeOf9
  v9 := Tryd.zeroValue9
  t46 := Tryd.underlying77
  a46 := Tryd.isAgg77
  z46 := Tryd.sizeOf77
  v46 := Tryd.zeroValue77
  t51 := Tryd.underlying78
  a51 := Tryd.isAgg78
  z51 := Tryd.sizeOf78
  v51 := Tryd.zeroValue78
  t146 := Tryd.underlying79
  a146 := Tryd.isAgg79
  z146 := Tryd.sizeOf79
  v146 := Tryd.zeroValue79
  g1 := by kernel_rfl }
open Go.RowKit Go.Lib in
/-- strings.Contains: "Contains reports whether substr is within s.": AT A substr OF ONE BYTE c: IT RETURNS 'decide (0 ≤ Lib.indexByte s c)'; the world is as it was. (LAID: no walk: one application.) -/
theorem Tryd.strings_Contains_one (s : ByteArray) (c : UInt8) (w : World) :
    Calls Tryd.prog 43 #[.string s, .string ⟨#[c]⟩] w fun e w' => e = .returned (.bool (decide (0 ≤ Lib.indexByte s.data.toList c))) ∧ w' = w := Any.strings_Contains_one Tryd.lays144 s c w
end Go.Proofs

/- The contracts of the document's own answers on commands: has, SameCmd, CheckCmd; no condition but that the data reads as a list. -/
namespace Go.Proofs.YtklabieacbbbfaaDoor
open Go.RowKit
set_option linter.unusedVariables false
set_option maxRecDepth 100000
set_option linter.unusedSimpArgs false

/-- What a kind of command has, by letters. -/
def hasS (k : Nat) : ByteArray := match k with
  | 1 | 2 | 3 | 4 => ⟨#[122]⟩
  | 5 => ⟨#[122, 100]⟩
  | 6 => ⟨#[122, 97, 100]⟩
  | 7 => ⟨#[122, 97, 110]⟩
  | 8 | 9 | 11 => ⟨#[110]⟩
  | _ => ⟨#[]⟩

set_option maxHeartbeats 1000000 in
theorem has_c (k : Nat) (w : World) (hk : k ≤ 12) : Calls Tryd.prog 42 #[.int .i64 k] w fun e w' => e = .returned (.string (hasS k)) ∧ Below w.heap.size w w' := by
  rcases (by omega : k = 0 ∨ k = 1 ∨ k = 2 ∨ k = 3 ∨ k = 4 ∨ k = 5 ∨ k = 6 ∨ k = 7 ∨ k = 8 ∨ k = 9 ∨ k = 10 ∨ k = 11 ∨ k = 12) with rfl | rfl | rfl | rfl | rfl | rfl | rfl | rfl | rfl | rfl | rfl | rfl | rfl
  all_goals
    go_enter Tryd.func42, Tryd.ntmps42
    go_wp2
    go_ret
    exact ⟨rfl, by (repeat first | exact bel0 | assumption | refine bel1 ?_ | refine bel2 ?_ | refine bel3 ?_ | refine belowT ?_ (by assumption) | refine bel5 ?_ (by simp; try omega))⟩

set_option maxHeartbeats 1000000 in
theorem SameCmd_c (a1 a2 : Option Addr) (n1 n2 c1 c2 : Nat) (b1 b2 : PC) (w : World) (h1 : Ints w a1 n1 c1 b1.d) (h2 : Ints w a2 n2 c2 b2.d) :
    Calls Tryd.prog 30 #[cmdV a1 n1 c1 b1, cmdV a2 n2 c2 b2] w fun e w' => e = .returned (.bool (sameC b1 b2)) ∧ Below w.heap.size w w' := by
  obtain ⟨k1, z1, m1, t1, d1⟩ := b1
  obtain ⟨k2, z2, m2, t2, d2⟩ := b2
  unfold cmdV
  dsimp only at *
  have hs : sameC ⟨k1, z1, m1, t1, d1⟩ ⟨k2, z2, m2, t2, d2⟩ = (k1 == k2 && z1 == z2 && t1 == t2 && m1 == m2 && decide (d1 = d2)) := by
    rw [Bool.eq_iff_iff]
    simp [sameC, and_assoc]
  have HS := hide hs
  clear hs
  go_enter Tryd.func30, Tryd.ntmps30
  cases e1 : k1 == k2
  · go_wp2
    go_ret
    exact ⟨ret_bool (by rw [HS.out, e1]; rfl), by (repeat first | exact bel0 | assumption | refine bel1 ?_ | refine bel2 ?_ | refine bel3 ?_ | refine belowT ?_ (by assumption) | refine bel5 ?_ (by simp; try omega))⟩
  · cases e2 : z1 == z2
    · go_wp2
      go_ret
      exact ⟨ret_bool (by rw [HS.out, e1, e2]; rfl), by (repeat first | exact bel0 | assumption | refine bel1 ?_ | refine bel2 ?_ | refine bel3 ?_ | refine belowT ?_ (by assumption) | refine bel5 ?_ (by simp; try omega))⟩
    · cases e3 : t1 == t2
      · go_wp2
        go_ret
        exact ⟨ret_bool (by rw [HS.out, e1, e2, e3]; rfl), by (repeat first | exact bel0 | assumption | refine bel1 ?_ | refine bel2 ?_ | refine bel3 ?_ | refine belowT ?_ (by assumption) | refine bel5 ?_ (by simp; try omega))⟩
      · cases e4 : m1 == m2
        · go_wp2
          go_ret
          exact ⟨ret_bool (by rw [HS.out, e1, e2, e3, e4]; rfl), by (repeat first | exact bel0 | assumption | refine bel1 ?_ | refine bel2 ?_ | refine bel3 ?_ | refine belowT ?_ (by assumption) | refine bel5 ?_ (by simp; try omega))⟩
        · go_wp2_with (go_at_call 39; refine (Equal_c a1 a2 n1 n2 c1 c2 d1 d2 _ (by refine h1.below (B := w.heap.size) ?_ (Nat.le_refl _); (repeat first | exact bel0 | assumption | refine bel1 ?_ | refine bel2 ?_ | refine bel3 ?_ | refine belowT ?_ (by assumption) | refine bel5 ?_ (by simp; try omega))) (by refine h2.below (B := w.heap.size) ?_ (Nat.le_refl _); (repeat first | exact bel0 | assumption | refine bel1 ?_ | refine bel2 ?_ | refine bel3 ?_ | refine belowT ?_ (by assumption) | refine bel5 ?_ (by simp; try omega)))).mono ?_; rintro e w' ⟨rfl, q, rfl⟩)
          go_ret
          exact ⟨ret_bool (by rw [HS.out, e1, e2, e3, e4]; rfl), by (repeat first | exact bel0 | assumption | refine bel1 ?_ | refine bel2 ?_ | refine bel3 ?_ | refine belowT ?_ (by assumption) | refine bel5 ?_ (by simp; try omega))⟩

theorem hasS_z (k : Nat) (hk : k ≤ 12) : decide (0 ≤ Lib.indexByte (hasS k).data.toList 122) = hasZ k := by
  rcases (by omega : k = 0 ∨ k = 1 ∨ k = 2 ∨ k = 3 ∨ k = 4 ∨ k = 5 ∨ k = 6 ∨ k = 7 ∨ k = 8 ∨ k = 9 ∨ k = 10 ∨ k = 11 ∨ k = 12) with rfl | rfl | rfl | rfl | rfl | rfl | rfl | rfl | rfl | rfl | rfl | rfl | rfl <;> decide
theorem hasS_a (k : Nat) (hk : k ≤ 12) : decide (0 ≤ Lib.indexByte (hasS k).data.toList 97) = hasA k := by
  rcases (by omega : k = 0 ∨ k = 1 ∨ k = 2 ∨ k = 3 ∨ k = 4 ∨ k = 5 ∨ k = 6 ∨ k = 7 ∨ k = 8 ∨ k = 9 ∨ k = 10 ∨ k = 11 ∨ k = 12) with rfl | rfl | rfl | rfl | rfl | rfl | rfl | rfl | rfl | rfl | rfl | rfl | rfl <;> decide
theorem hasS_n (k : Nat) (hk : k ≤ 12) : decide (0 ≤ Lib.indexByte (hasS k).data.toList 110) = hasN k := by
  rcases (by omega : k = 0 ∨ k = 1 ∨ k = 2 ∨ k = 3 ∨ k = 4 ∨ k = 5 ∨ k = 6 ∨ k = 7 ∨ k = 8 ∨ k = 9 ∨ k = 10 ∨ k = 11 ∨ k = 12) with rfl | rfl | rfl | rfl | rfl | rfl | rfl | rfl | rfl | rfl | rfl | rfl | rfl <;> decide
theorem hasS_d (k : Nat) (hk : k ≤ 12) : decide (0 ≤ Lib.indexByte (hasS k).data.toList 100) = hasD k := by
  rcases (by omega : k = 0 ∨ k = 1 ∨ k = 2 ∨ k = 3 ∨ k = 4 ∨ k = 5 ∨ k = 6 ∨ k = 7 ∨ k = 8 ∨ k = 9 ∨ k = 10 ∨ k = 11 ∨ k = 12) with rfl | rfl | rfl | rfl | rfl | rfl | rfl | rfl | rfl | rfl | rfl | rfl | rfl <;> decide

end Go.Proofs.YtklabieacbbbfaaDoor

/- The contracts of the document's own SameHand, and of slices.EqualFunc on answers by SameAnswer; no condition but that the arguments read as data. -/
namespace Go.Proofs.YtklabieacbbbfaaDoor
open Go.RowKit
set_option linter.unusedVariables false
set_option maxRecDepth 100000
set_option linter.unusedSimpArgs false

set_option maxRecDepth 100000 in
set_option maxHeartbeats 4000000 in
theorem EqAR_some (b1 o1 m1 b2 o2 m2 n : Nat) (X Y : List AV) (w : World) (h1 : Answers w (some ⟨b1, o1, none⟩) n m1 X) (h2 : Answers w (some ⟨b2, o2, none⟩) n m2 Y)
    (hr1 : ∀ i x, X[i]? = some x → ∀ j v, x.cells[j]? = some v → w.cell? ⟨b1, o1 + i * 3 + j, none⟩ = some v)
    (hr2 : ∀ i x, Y[i]? = some x → ∀ j v, x.cells[j]? = some v → w.cell? ⟨b2, o2 + i * 3 + j, none⟩ = some v) :
    Calls Tryd.prog 31 #[.slice (some ⟨b1, o1, none⟩) n m1, .slice (some ⟨b2, o2, none⟩) n m2, .func (Fn.func 33) #[] #[]] w fun e w' => e = .returned (.bool (sameAs (X.map AV.p) (Y.map AV.p))) ∧ Below w.heap.size w w' := by
  have hlen1 := hide h1.len
  have hlen2 := hide h2.len
  have hmax := h1.max
  have hle := h1.le
  go_enter Tryd.func31, Tryd.ntmps31
  go_wp2
  go_loopw [17] (fun i wr => ∃ k : Nat, k ≤ n ∧ i = .int .i64 k ∧ (X.take k).map AV.p = (Y.take k).map AV.p ∧ Below w.heap.size w wr) (fun i _ => n - (intOf i).toNat)
  case atStart => exact ⟨0, by omega, rfl, by simp, Below.refl _ _⟩
  case round =>
    obtain ⟨k, hk, rfl, hp, hbr⟩ := hrel
    have HP := hide hp
    clear hp
    rename_i wr
    by_cases hlt : k < n
    · obtain ⟨x, hx⟩ : ∃ z, X[k]? = some z := ⟨X[k]'(by rw [hlen1.out]; exact hlt), by simp⟩
      obtain ⟨y, hy⟩ : ∃ z, Y[k]? = some z := ⟨Y[k]'(by rw [hlen2.out]; exact hlt), by simp⟩
      have ix := AV.ok.below (h1.ok x (List.mem_of_getElem? hx)) hbr (Nat.le_refl _)
      have iy := AV.ok.below (h2.ok y (List.mem_of_getElem? hy)) hbr (Nat.le_refl _)
      have HZ := hide hx
      have HY := hide hy
      have HS := hide (fun w' h k => SameAnswerR_c x y w' h k)
      have HT : Hid (sameA x.p y.p = true → x.p = y.p) := hide (sameA_iff _ _).1
      have HF : Hid (sameA x.p y.p = false → x.p ≠ y.p) := hide (fun h e => by rw [(sameA_iff _ _).2 e] at h; cases h)
      have kx := hr1 k x hx
      have ky := hr2 k y hy
      clear hx hy
      generalize hsm : sameA x.p y.p = sm at *
      clear hsm
      obtain ⟨e1, t1, a1, n1, c1, d1⟩ := x
      obtain ⟨e2, t2, a2, n2, c2, d2⟩ := y
      dsimp only [AV.v] at HS
      have x0 := keepc hbr (kx 0 _ rfl)
      have x1 := keepc hbr (kx 1 _ rfl)
      have x2 := keepc hbr (kx 2 _ rfl)
      have y0 := past1 (keepc hbr (ky 0 _ rfl))
      have y1 := past1 (keepc hbr (ky 1 _ rfl))
      have y2 := past1 (keepc hbr (ky 2 _ rfl))
      rw [Nat.add_zero] at x0 y0
      clear kx ky
      have hlt' : (k : Int) < (n : Int) := by omega
      go_wp2_with fail
      refine (HS.out _ (AV.ok.below ix (B := wr.heap.size) (by (repeat first | exact bel0 | assumption | refine bel1 ?_ | refine bel2 ?_ | refine bel3 ?_ | refine belowT ?_ (by assumption) | refine bel5 ?_ (by simp; try omega))) (Nat.le_refl _)) (AV.ok.below iy (B := wr.heap.size) (by (repeat first | exact bel0 | assumption | refine bel1 ?_ | refine bel2 ?_ | refine bel3 ?_ | refine belowT ?_ (by assumption) | refine bel5 ?_ (by simp; try omega))) (Nat.le_refl _))).mono ?_
      rintro e w9 ⟨rfl, hb9⟩
      have b9 : Below w.heap.size w w9 := by (repeat first | exact bel0 | assumption | refine bel1 ?_ | refine bel2 ?_ | refine bel3 ?_ | refine belowT ?_ (by assumption) | refine bel5 ?_ (by simp; try omega))
      clear hb9
      cases sm
      · have HNE := hide (HF.out rfl)
        clear HF HT
        go_wp2
        go_ret
        refine ⟨ret_bool (sameAs_f fun e => ?_).symm, b9⟩
        have := congrArg (fun L => L[k]?) e
        simp only [List.getElem?_map, HZ.out, HY.out, Option.map_some, Option.some.injEq] at this
        exact HNE.out this
      · have HEQ := hide (HT.out rfl)
        clear HF HT
        go_wp2
        have e := HEQ.out
        refine ⟨⟨k + 1, by omega, by go_num, ?_, b9⟩, by simp [intOf]; omega⟩
        obtain ⟨g1, g2⟩ := List.getElem?_eq_some_iff.1 HZ.out
        obtain ⟨g3, g4⟩ := List.getElem?_eq_some_iff.1 HY.out
        rw [List.take_succ_eq_append_getElem g1, List.take_succ_eq_append_getElem g3, List.map_append, List.map_append, HP.out, g2, g4]
        simpa using e
    · obtain rfl : k = n := by omega
      go_wp2
      go_ret
      have hp := HP.out
      rw [List.take_of_length_le (by rw [hlen1.out]; omega), List.take_of_length_le (by rw [hlen2.out]; omega)] at hp
      exact ⟨ret_bool (sameAs_t hp).symm, hbr⟩

theorem EqAR_ne (a1 a2 : Option Addr) (n1 n2 c1 c2 : Nat) (fv : Value) (w : World) (hne : n1 ≠ n2) (hm1 : n1 ≤ 9223372036854775807) (hm2 : n2 ≤ 9223372036854775807) :
    Calls Tryd.prog 31 #[.slice a1 n1 c1, .slice a2 n2 c2, fv] w fun e w' => e = .returned (.bool false) ∧ w' = w := by
  have hb : ((n1 : Int) != (n2 : Int)) = true := by simp; omega
  go_enter Tryd.func31, Tryd.ntmps31
  go_wp2
  go_ret
  exact ⟨rfl, rfl⟩

theorem EqAR_zero (a1 a2 : Option Addr) (c1 c2 : Nat) (fv : Value) (w : World) :
    Calls Tryd.prog 31 #[.slice a1 0 c1, .slice a2 0 c2, fv] w fun e w' => e = .returned (.bool true) ∧ w' = w := by
  go_enter Tryd.func31, Tryd.ntmps31
  go_wp2
  refine wp_loop_rounds 1 ?_
  rw [rounds_succ]
  go_wp2
  go_ret
  exact ⟨rfl, rfl⟩

theorem EqAR_c (a1 a2 : Option Addr) (n1 n2 c1 c2 : Nat) (X Y : List AV) (w : World) (h1 : Answers w a1 n1 c1 X) (h2 : Answers w a2 n2 c2 Y) :
    Calls Tryd.prog 31 #[.slice a1 n1 c1, .slice a2 n2 c2, .func (Fn.func 33) #[] #[]] w fun e w' => e = .returned (.bool (sameAs (X.map AV.p) (Y.map AV.p))) ∧ Below w.heap.size w w' := by
  by_cases hn : n1 = n2
  · subst hn
    by_cases h0 : n1 = 0
    · subst h0
      have e1 := h1.len
      have e2 := h2.len
      rw [List.length_eq_zero_iff] at e1 e2
      subst e1 e2
      refine (EqAR_zero a1 a2 c1 c2 _ w).mono ?_
      rintro e w' ⟨rfl, rfl⟩
      exact ⟨rfl, Below.refl _ _⟩
    · rcases h1.row with h | ⟨b1, o1, rfl, _, hr1⟩
      · omega
      · rcases h2.row with h | ⟨b2, o2, rfl, _, hr2⟩
        · omega
        · exact EqAR_some b1 o1 c1 b2 o2 c2 n1 X Y w h1 h2 hr1 hr2
  · have m1 := h1.max
    have m2 := h2.max
    have q1 := h1.le
    have q2 := h2.le
    refine (EqAR_ne a1 a2 n1 n2 c1 c2 _ w hn (by omega) (by omega)).mono ?_
    rintro e w' ⟨rfl, rfl⟩
    refine ⟨ret_bool (sameAs_f fun e => hn ?_).symm, Below.refl _ _⟩
    have := congrArg List.length e
    rw [List.length_map, List.length_map, h1.len, h2.len] at this
    exact this


set_option maxHeartbeats 1000000 in
theorem SameHandR_c (h f : NV) (w : World) (hk : h.ok w) (hf : f.ok w) : Calls Tryd.prog 14 #[h.v, f.v] w fun e w' => e = .returned (.bool (sameN h.p f.p)) ∧ Below w.heap.size w w' := by
  have HC := hide (fun w' (h1 : Ints w' h.ca h.cn h.cc h.c.d) (h2 : Ints w' f.ca f.cn f.cc f.c.d) => SameCmd_c h.ca f.ca h.cn f.cn h.cc f.cc h.c f.c w' h1 h2)
  have HL := hide (fun w' h1 h2 => EqAR_c h.ga f.ga h.gn f.gn h.gc f.gc h.G f.G w' h1 h2)
  have HS : Hid (sameN h.p f.p = (h.s == f.s && (h.w == f.w) && sameC h.c f.c && sameAs (h.G.map AV.p) (f.G.map AV.p))) := hide (by
    have e : decide (h.s = f.s) = (h.s == f.s) := by rw [Bool.eq_iff_iff]; simp
    show (decide (h.s = f.s) && (h.w == f.w) && sameC h.c f.c && sameAs (h.G.map AV.p) (f.G.map AV.p)) = _
    rw [e])
  obtain ⟨x0, x1, bw⟩ := two_boxes w h.cells f.cells 27 27
  have hok := hk.below bw (Nat.le_refl _)
  have fok := hf.below bw (Nat.le_refl _)
  generalize sameN _ _ = r at *
  generalize sameC _ _ = sc at *
  generalize sameAs _ _ = sl at *
  rw [show h.v = .agg h.cells.toArray from rfl, show f.v = .agg f.cells.toArray from rfl] at *
  obtain ⟨s, v, ⟨k, z, n, t, d⟩, ca, cn, cc, ga, gn, gc, G⟩ := h
  obtain ⟨s', v', ⟨k', z', n', t', d'⟩, ca', cn', cc', ga', gn', gc', G'⟩ := f
  dsimp only [NV.cells, cmdV] at *
  have u1 := x0.cell 7 _ rfl
  have u2 := x1.cell 7 _ rfl
  cases h1 : s == s'
  · go_enter Tryd.func14, Tryd.ntmps14
    go_wp2
    go_ret
    exact ⟨ret_bool (by rw [HS.out, h1]; rfl), bw⟩
  · cases h2 : v == v'
    · go_enter Tryd.func14, Tryd.ntmps14
      go_wp2
      go_ret
      exact ⟨ret_bool (by rw [HS.out, h1, h2]; rfl), bw⟩
    · go_enter Tryd.func14, Tryd.ntmps14
      go_wp2_with fail
      refine (HC.out _ hok.c fok.c).mono ?_
      rintro e w1 ⟨rfl, hb1⟩
      replace u1 := keepc hb1 u1
      replace u2 := keepc hb1 u2
      replace hok := hok.below hb1 (Nat.le_refl _)
      replace fok := fok.below hb1 (Nat.le_refl _)
      replace bw := belowT bw hb1
      clear hb1 x0 x1
      cases sc
      · go_wp2
        go_ret
        exact ⟨ret_bool (by rw [HS.out, h1, h2]; rfl), bw⟩
      · go_wp2_with fail
        refine (HL.out _ hok.g fok.g).mono ?_
        rintro e w2 ⟨rfl, hb2⟩
        go_wp2
        go_ret
        exact ⟨ret_bool (by rw [HS.out, h1, h2]; simp), belowT bw hb2⟩


end Go.Proofs.YtklabieacbbbfaaDoor
