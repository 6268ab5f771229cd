/- Numbers as texts: what is written is read, and is written so alone; plain mathematics, no condition. -/
import Derived.Lib.ItoaMem
import Derived.Lib.ParseIntB
import Derived.Lib.IndexMore
namespace Go.Proofs.YtmjcoehllinoeacDoor
open Go.Lib
set_option linter.unusedVariables false
set_option maxRecDepth 100000
set_option linter.unusedSimpArgs false

theorem parseUintM_snoc (M : Nat) (c : UInt8) : ∀ (l : List UInt8) (acc : Nat), parseUintM M acc (l ++ [c]) = match parseUintM M acc l with
    | .ok a => parseUintM M a [c]
    | .syntax => .syntax
    | .range => .range
  | [], acc => rfl
  | d :: r, acc => by
    simp only [List.cons_append, parseUintM]
    split
    · split
      · rfl
      · split
        · rfl
        · exact parseUintM_snoc M c r _
    · rfl

theorem digit_toNat (d : Nat) (h : d < 10) : (UInt8.ofNat (48 + d)).toNat = 48 + d := by
  rw [UInt8.toNat_ofNat']
  omega

theorem parse_digits (M : Nat) (hM : M ≤ 18446744073709551615) : ∀ u : Nat, u ≤ M → parseUintM M 0 (decDigits u) = .ok u := by
  intro u
  induction u using Nat.strongRecOn with
  | ind u ih =>
    intro hu
    rw [decDigits]
    split
    · rename_i h
      have e := digit_toNat u h
      simp only [parseUintM, e]
      rw [if_pos (by omega), if_neg (by omega), if_neg (by omega)]
      simp
    · rename_i h
      rw [parseUintM_snoc, ih (u / 10) (by omega) (by omega)]
      have e := digit_toNat (u % 10) (by omega)
      simp only [parseUintM, e]
      rw [if_pos (by omega), if_neg (by omega), if_neg (by omega)]
      congr 1
      omega

theorem digits_ne_nil (u : Nat) : decDigits u ≠ [] := by
  rw [decDigits]
  split <;> simp

/-- The bytes of a numeral are digits. -/
theorem digits_range : ∀ u : Nat, ∀ c ∈ decDigits u, 48 ≤ c.toNat ∧ c.toNat ≤ 57 := by
  intro u
  induction u using Nat.strongRecOn with
  | ind u ih =>
    intro c hc
    rw [decDigits] at hc
    split at hc
    · rename_i h
      obtain rfl := List.mem_singleton.1 hc
      rw [digit_toNat u h]
      omega
    · rename_i h
      rcases List.mem_append.1 hc with hc | hc
      · exact ih (u / 10) (by omega) c hc
      · obtain rfl := List.mem_singleton.1 hc
        rw [digit_toNat (u % 10) (by omega)]
        omega

/-- What Itoa writes ParseInt reads. -/
theorem parse_itoa (v : Int) (h0 : -9223372036854775808 ≤ v) (h1 : v ≤ 9223372036854775807) : parseIntB 64 (itoa v) = .ok v := by
  unfold itoa
  split
  · rename_i hn
    have hp := parse_digits (2 ^ 64 - 1) (by decide) v.natAbs (by omega)
    simp only [parseIntB, parseUintB]
    rw [show (45 : UInt8).toNat = 45 from rfl]
    simp only [or_true, if_true]
    rw [if_neg (digits_ne_nil _), hp]
    simp only [not_true_eq_false, false_and, if_false, true_and, if_true]
    rw [if_neg (by omega)]
    congr 1
    omega
  · rename_i hn
    have hp := parse_digits (2 ^ 64 - 1) (by decide) v.toNat (by omega)
    have hd := digits_range v.toNat
    have hne := digits_ne_nil v.toNat
    cases hl : decDigits v.toNat with
    | nil => exact absurd hl hne
    | cons c r =>
      have hc := hd c (by rw [hl]; simp)
      have hc1 : ¬ (c.toNat = 43 ∨ c.toNat = 45) := by omega
      have hc2 : ¬ c.toNat = 45 := by omega
      simp only [parseIntB, parseUintB]
      rw [if_neg hc1, if_neg (by simp), ← hl, hp]
      simp only [hc2, not_false_eq_true, true_and, false_and, if_false]
      rw [if_neg (by omega)]
      congr 1
      omega

/-- A number's text holds no blank, and something. -/
theorem itoa_no_blank (v : Int) : (32 : UInt8) ∉ itoa v := by
  unfold itoa
  intro h
  split at h
  · rcases List.mem_cons.1 h with e | h
    · cases e
    · have := digits_range _ _ h
      have e : (32 : UInt8).toNat = 32 := rfl
      omega
  · have := digits_range _ _ h
    have e : (32 : UInt8).toNat = 32 := rfl
    omega
theorem itoa_ne_nil (v : Int) : itoa v ≠ [] := by
  unfold itoa
  split
  · simp
  · exact digits_ne_nil _
theorem itoa_inj {v u : Int} (h0 : -9223372036854775808 ≤ v) (h1 : v ≤ 9223372036854775807) (g0 : -9223372036854775808 ≤ u) (g1 : u ≤ 9223372036854775807) (h : itoa v = itoa u) : v = u := by
  have a := parse_itoa v h0 h1
  rw [h, parse_itoa u g0 g1] at a
  cases a
  rfl

/-- A word that is a number, written as it must be. -/
def num (t : List UInt8) : Option Int := match parseIntB 64 t with
  | .ok v => if itoa v = t then some v else none
  | .syntax => none
  | .range => none

theorem num_itoa (v : Int) (h0 : -9223372036854775808 ≤ v) (h1 : v ≤ 9223372036854775807) : num (itoa v) = some v := by
  simp [num, parse_itoa v h0 h1]
theorem num_some {t : List UInt8} {v : Int} (h : num t = some v) : itoa v = t := by
  unfold num at h
  split at h
  · split at h
    · cases h
      assumption
    · cases h
  · cases h
  · cases h

/-- Words between blanks. -/
def toks : List UInt8 → List (List UInt8)
  | [] => [[]]
  | c :: r => if c = 32 then [] :: toks r else match toks r with
    | [] => [[c]]
    | t :: ts => (c :: t) :: ts

theorem toks_ne_nil : ∀ l, toks l ≠ []
  | [] => by simp [toks]
  | c :: r => by
    unfold toks
    split
    · simp
    · split <;> simp
theorem toks_word : ∀ (l r : List UInt8), (32 : UInt8) ∉ l → toks (l ++ 32 :: r) = l :: toks r
  | [], r, _ => by simp [toks]
  | c :: l, r, h => by
    have hc : ¬ c = 32 := fun e => h (by simp [e])
    have hl : (32 : UInt8) ∉ l := fun e => h (by simp [e])
    simp [toks, hc, toks_word l r hl]
theorem toks_end : ∀ (l : List UInt8), (32 : UInt8) ∉ l → toks l = [l]
  | [], _ => rfl
  | c :: l, h => by
    have hc : ¬ c = 32 := fun e => h (by simp [e])
    have hl : (32 : UInt8) ∉ l := fun e => h (by simp [e])
    simp [toks, hc, toks_end l hl]
theorem toks_blank : ∀ (l : List UInt8) (t : List UInt8), t ∈ toks l → (32 : UInt8) ∉ t
  | [], t, h => by simp [toks] at h; subst h; simp
  | c :: r, t, h => by
    unfold toks at h
    split at h
    · rcases List.mem_cons.1 h with rfl | h
      · simp
      · exact toks_blank r t h
    · rename_i hc
      have ih := toks_blank r
      split at h
      · simp at h
        subst h
        simp [Ne.symm hc]
      · rename_i u us hu
        rcases List.mem_cons.1 h with rfl | h
        · intro hm
          rcases List.mem_cons.1 hm with e | hm
          · exact hc e.symm
          · exact ih u (by rw [hu]; simp) hm
        · exact ih t (by rw [hu]; simp [h])
/-- The words, blanks between: the text again. -/
def glue : List (List UInt8) → List UInt8
  | [] => []
  | [t] => t
  | t :: u :: r => t ++ 32 :: glue (u :: r)
theorem glue_cons (c : UInt8) (t : List UInt8) (ts : List (List UInt8)) : glue ((c :: t) :: ts) = c :: glue (t :: ts) := by cases ts <;> rfl
theorem glue_toks : ∀ l, glue (toks l) = l
  | [] => rfl
  | c :: r => by
    have ih := glue_toks r
    have hn := toks_ne_nil r
    unfold toks
    split
    · rename_i hc
      subst hc
      cases ht : toks r with
      | nil => exact absurd ht hn
      | cons t ts => rw [ht] at ih; simp [glue, ih]
    · cases ht : toks r with
      | nil => exact absurd ht hn
      | cons t ts => rw [ht] at ih; simp only; rw [glue_cons, ih]
theorem toks_glue : ∀ ts : List (List UInt8), ts ≠ [] → (∀ t ∈ ts, (32 : UInt8) ∉ t) → toks (glue ts) = ts
  | [], h, _ => absurd rfl h
  | [t], _, h => toks_end t (h t (by simp))
  | t :: u :: r, _, h => by
    rw [glue, toks_word t _ (h t (by simp)), toks_glue (u :: r) (by simp) (fun x hx => h x (by simp at hx ⊢; right; exact hx))]

end Go.Proofs.YtmjcoehllinoeacDoor
