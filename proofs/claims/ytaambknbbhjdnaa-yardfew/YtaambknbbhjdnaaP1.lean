/- Plain facts on the zone's functions: a zone that was written is one; a piece that is written is read; no Go here. -/
import Derived.Test.YtaambknbbhjdnaaA6
namespace Go.Proofs.Ytaambknbbhjdnaa
open Go.RowKit
set_option linter.unusedVariables false
set_option maxRecDepth 100000
set_option linter.unusedSimpArgs false

theorem checkZ_mk {s : Int} {l : List Int} (h0 : 0 ≤ s) (h4 : s ≤ 4) (hl : l.length ≤ 8) (ha : l.any (outB 0 999) = false) (hf : fitsB s l.length = true) : checkZ s l = 0 :=
  (checkZ_0 (by simp [outB]; omega) (by omega) ha hf).symm

theorem check_write {s : Int} {l k : List Int} (h : writeE s l k = 0) : checkZ (writeS s (l.length + k.length)) (l ++ k) = 0 := by
  obtain ⟨h1, h2, h3, h4, h5⟩ := writeE_ok h
  obtain ⟨z1, z2, z3, z4, z5⟩ := checkZ_len h1
  have hs : writeS s (l.length + k.length) = 4 ∧ l.length + k.length = 8 ∨ (writeS s (l.length + k.length) = 2 ∨ writeS s (l.length + k.length) = 1) ∧ l.length + k.length < 8 := by
    unfold writeS
    split
    · exact .inl ⟨rfl, by assumption⟩
    · refine .inr ⟨?_, by omega⟩
      split
      · exact .inl rfl
      · exact .inr rfl
  refine checkZ_mk ?_ ?_ (by simp; omega) (by simp only [List.any_append, z4, h4]; rfl) ?_
  · omega
  · omega
  · rw [List.length_append]
    rcases hs with ⟨e, _⟩ | ⟨e | e, hlt⟩ <;> rw [e] <;> simp [fitsB] <;> omega

theorem readE_zero {s : Int} {l : List Int} {p n : Int} (hc : checkZ s l = 0) (hp : 0 ≤ p) (hn : 0 ≤ n) (hpn : p + n ≤ l.length) : readE s l p n = 0 := by
  have hz := checkZ_len hc
  have h1 : outB 0 8 p = false := by simp [outB]; omega
  have h2 : outB 0 (8 - p) n = false := by simp [outB]; omega
  unfold readE
  simp [hc, h1, h2]
  omega

theorem writeE_mk {s : Int} {l k : List Int} (h1 : checkZ s l = 0) (h2 : 1 ≤ k.length) (h3 : l.length + k.length ≤ 8) (h4 : k.any (outB 0 999) = false) (h5 : s ≠ 4) : writeE s l k = 0 := by
  have h6 : outB 1 8 k.length = false := by simp [outB]; omega
  have h7 : ¬ (s = 4 ∨ 8 < l.length + k.length) := by omega
  unfold writeE
  simp only [h1, h6, h4, h7]
  simp

theorem any_take_false (l : List Int) (p : Nat) (f : Int → Bool) (h : l.any f = false) : (l.take p).any f = false := by
  rw [List.any_eq_false] at *
  exact fun x hx => h x (List.mem_of_mem_take hx)
theorem any_drop_false (l : List Int) (p : Nat) (f : Int → Bool) (h : l.any f = false) : (l.drop p).any f = false := by
  rw [List.any_eq_false] at *
  exact fun x hx => h x (List.mem_of_mem_drop hx)

/-- Blocks that are written in two parts: each part may be written, and the state comes to the same. -/
theorem parts_ok {s : Int} {l k : List Int} (h : writeE s l k = 0) (p : Nat) (hp : 1 ≤ p) (hpk : p < k.length) :
    writeE s l (k.take p) = 0 ∧ writeE (writeS s (l.length + p)) (l ++ k.take p) (k.drop p) = 0 ∧ writeS (writeS s (l.length + p)) (l.length + p + (k.length - p)) = writeS s (l.length + k.length) := by
  obtain ⟨h1, h2, h3, h4, h5⟩ := writeE_ok h
  have e1 : (k.take p).length = p := by simp; omega
  have e2 : (k.drop p).length = k.length - p := by simp
  have w1 : writeE s l (k.take p) = 0 := writeE_mk h1 (by omega) (by omega) (any_take_false k p _ h4) h5
  have c1 := check_write w1
  rw [e1] at c1
  have hs : writeS s (l.length + p) ≠ 4 := by
    unfold writeS
    rw [if_neg (by omega)]
    split <;> omega
  refine ⟨w1, writeE_mk c1 (by omega) (by rw [List.length_append, e1, e2]; omega) (any_drop_false k p _ h4) hs, ?_⟩
  rw [show l.length + p + (k.length - p) = l.length + k.length by omega]
  unfold writeS
  rw [if_neg (show ¬ l.length + p = 8 by omega)]
  by_cases h2 : s = 2 <;> simp [h2]

theorem Ints.head {w : World} {a : Option Addr} {n c : Nat} {l : List Int} (h : Ints w a n c l) (p : Nat) (hp : p ≤ n) : Ints w a p c (l.take p) := by
  have := h.cut 0 p (by omega) a (fun _ => by cases a <;> simp [Addr.add])
  simpa using this

theorem Ints.tail {w : World} {a : Option Addr} {n c : Nat} {l : List Int} (h : Ints w a n c l) (p : Nat) (hp : p ≤ n) : Ints w (a.map fun x => x.add p) (n - p) (c - p) (l.drop p) := by
  have := h.cut p (n - p) (by omega) (a.map fun x => x.add p) (fun _ => rfl)
  rwa [List.take_of_length_le (by simp; have := h.len; omega)] at this

theorem drop_take_new (l k : List Int) : ((l ++ k).drop l.length).take k.length = k := by simp

theorem drop_take_old (l k : List Int) (p r : Nat) (h : p + r ≤ l.length) : ((l ++ k).drop p).take r = (l.drop p).take r := by
  rw [List.drop_append_of_le_length (by omega), List.take_append_of_le_length (by simp; omega)]

end Go.Proofs.Ytaambknbbhjdnaa
