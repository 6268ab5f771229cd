/- Plain facts on the zone's functions: a zone that was written is one; a piece that is written is read; no Go here. -/
import Derived.Test.YtmlbkmncdgiemaaA6
namespace Go.Proofs.Ytmlbkmncdgiemaa
open Go.RowKit
set_option linter.unusedVariables false
set_option linter.unusedSimpArgs false

theorem checkZ_mk {s : Int} {l : List Int} (h0 : 0 ≤ s) (h4 : s ≤ 4) (hl : l.length ≤ 8) (ha : l.any (outB 0 999) = false) (hf : fitsB s l.length = true) : checkZ s l = 0 :=
  (checkZ_0 (by simp [outB]; omega) (by omega) ha hf).symm

theorem check_write {s : Int} {l k : List Int} (h : writeE s l k = 0) : checkZ (writeS s (l.length + k.length)) (l ++ k) = 0 := by
  obtain ⟨h1, h2, h3, h4, h5⟩ := writeE_ok h
  obtain ⟨z1, z2, z3, z4, z5⟩ := checkZ_len h1
  have hs : writeS s (l.length + k.length) = 4 ∧ l.length + k.length = 8 ∨ (writeS s (l.length + k.length) = 2 ∨ writeS s (l.length + k.length) = 1) ∧ l.length + k.length < 8 := by
    unfold writeS
    split
    · exact .inl ⟨rfl, by assumption⟩
    · refine .inr ⟨?_, by omega⟩
      split
      · exact .inl rfl
      · exact .inr rfl
  refine checkZ_mk ?_ ?_ (by simp; omega) (by simp only [List.any_append, z4, h4]; rfl) ?_
  · omega
  · omega
  · rw [List.length_append]
    rcases hs with ⟨e, _⟩ | ⟨e | e, hlt⟩ <;> rw [e] <;> simp [fitsB] <;> omega

theorem readE_zero {s : Int} {l : List Int} {p n : Int} (hc : checkZ s l = 0) (hp : 0 ≤ p) (hn : 0 ≤ n) (hpn : p + n ≤ l.length) : readE s l p n = 0 := by
  have hz := checkZ_len hc
  have h1 : outB 0 8 p = false := by simp [outB]; omega
  have h2 : outB 0 (8 - p) n = false := by simp [outB]; omega
  unfold readE
  simp [hc, h1, h2]
  omega

theorem drop_take_new (l k : List Int) : ((l ++ k).drop l.length).take k.length = k := by simp

theorem drop_take_old (l k : List Int) (p r : Nat) (h : p + r ≤ l.length) : ((l ++ k).drop p).take r = (l.drop p).take r := by
  rw [List.drop_append_of_le_length (by omega), List.take_append_of_le_length (by simp; omega)]

end Go.Proofs.Ytmlbkmncdgiemaa
