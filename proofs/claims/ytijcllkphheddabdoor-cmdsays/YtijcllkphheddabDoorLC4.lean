/- Texts cut at their first blank, words by their places; plain mathematics, no condition. -/
import Derived.Test.YtijcllkphheddabDoorLC3
import Derived.Lib.SlicesS
namespace Go.Proofs.YtijcllkphheddabDoor
open Go.RowKit
set_option linter.unusedVariables false
set_option linter.unusedSimpArgs false

theorem index_cons_ne {b : UInt8} {l : List UInt8} (h : b ≠ 32) : Lib.index (b :: l) [32] = if Lib.index l [32] == -1 then -1 else Lib.index l [32] + 1 := by
  have hp : ([32] : List UInt8).isPrefixOf (b :: l) = false := by simp [List.isPrefixOf, Ne.symm h]
  rw [Lib.index, hp]
  simp
theorem index_cons_eq (l : List UInt8) : Lib.index (32 :: l) [32] = 0 := by rw [Lib.index]; simp [List.isPrefixOf]

/-- What Cut makes of a text: its first word, and the others, if there are any. -/
theorem cut_toks : ∀ l : List UInt8, toks l = (Lib.cut l [32]).1 :: (if (Lib.cut l [32]).2.2 then toks (Lib.cut l [32]).2.1 else []) ∧ (Lib.cut l [32]).2.1.length ≤ l.length ∧ (Lib.cut l [32]).1.length ≤ l.length
  | [] => by simp [Lib.cut, Lib.index, toks]
  | b :: l => by
    obtain ⟨ih, ih2, ih3⟩ := cut_toks l
    by_cases hb : b = 32
    · subst hb
      unfold Lib.cut
      rw [index_cons_eq]
      simp [toks]
    · unfold Lib.cut
      rw [index_cons_ne hb]
      by_cases hm : Lib.index l [32] = -1
      · unfold Lib.cut at ih
        simp [hm] at ih ⊢
        simp [toks, hb, ih]
      · have hge := Lib.index_ge l [32]
        obtain ⟨j, hj⟩ : ∃ j : Nat, Lib.index l [32] = j := ⟨(Lib.index l [32]).toNat, by omega⟩
        unfold Lib.cut at ih ih2 ih3
        rw [hj] at ih ih2 ih3 ⊢
        have n1 : ¬ ((j : Int) = -1) := by omega
        have n2 : (0 : Int) ≤ (j : Int) := by omega
        have n3 : (0 : Int) ≤ (j : Int) + 1 := by omega
        have n4 : ((j : Int) + 1).toNat = j + 1 := by omega
        simp only [n2, if_true, Int.toNat_natCast, beq_iff_eq, n1, if_false, n3, n4] at ih ih2 ih3 ⊢
        refine ⟨?_, by simp; omega, by simp; omega⟩
        simp only [toks, hb, if_false, ih]
        simp

theorem idx_words (x : ByteArray) : ∀ (f k : Nat), Lib.idxFromS ((List.range' k f).map word) x k = match kindFrom x f k with
    | some r => (r : Int)
    | none => -1
  | 0, k => rfl
  | f + 1, k => by
    rw [List.range'_succ, List.map_cons]
    unfold Lib.idxFromS kindFrom
    by_cases h : word k = x
    · rw [if_pos h, if_pos h]
    · rw [if_neg h, if_neg h]
      exact idx_words x f (k + 1)

/-- The place of a word. -/
theorem idx_kind (x : ByteArray) : (∃ k, kindOfS x = some k ∧ Lib.idxOfS wordsL x = (k : Int)) ∨ (kindOfS x = none ∧ Lib.idxOfS wordsL x < 1) := by
  have hw : wordsL = word 0 :: (List.range' 1 12).map word := rfl
  unfold Lib.idxOfS
  rw [hw]
  unfold Lib.idxFromS
  by_cases h : word 0 = x
  · right
    rw [if_pos h]
    refine ⟨?_, by decide⟩
    subst h
    decide +kernel
  · rw [if_neg h, idx_words]
    unfold kindOfS
    cases kindFrom x 12 1 with
    | none => right; exact ⟨rfl, by decide⟩
    | some k => left; exact ⟨k, rfl, rfl⟩

end Go.Proofs.YtijcllkphheddabDoor
