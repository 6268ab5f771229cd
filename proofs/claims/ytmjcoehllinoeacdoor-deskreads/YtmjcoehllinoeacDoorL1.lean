/- Texts parted at blanks, as the library parts them; plain mathematics, no condition. -/
import Derived.Test.YtmjcoehllinoeacDoorL0
import Derived.Lib.SplitLaws
import Derived.Lib.ParseIntBTie
namespace Go.Proofs.YtmjcoehllinoeacDoor
open Go.Lib
set_option linter.unusedVariables false
set_option maxRecDepth 100000
set_option linter.unusedSimpArgs false

theorem split_toks : ∀ s : List UInt8, splitK [32] 0 (count s [32]) s = toks s
  | [] => by rw [count_one]; rfl
  | b :: l => by
    have ih := split_toks l
    by_cases hb : b = 32
    · subst hb
      rw [count_cons_eq, Nat.add_comm 1]
      have hix : index (32 :: l) [32] = 0 := by rw [index]; simp [List.isPrefixOf]
      simp [splitK, hix, toks, ih]
    · rw [count_cons_ne b 32 l hb]
      have hp : ([32] : List UInt8).isPrefixOf (b :: l) = false := by simp [List.isPrefixOf, Ne.symm hb]
      have hix : index (b :: l) [32] = if index l [32] == -1 then -1 else index l [32] + 1 := by rw [index, hp]; simp
      have hge := index_ge l [32]
      cases hc : count l [32] with
      | zero =>
        rw [hc] at ih
        simp only [splitK] at ih ⊢
        simp [toks, hb, ← ih]
      | succ k =>
        rw [hc] at ih
        have hm : index l [32] ≠ -1 := by
          intro e
          rw [count_miss e] at hc
          cases hc
        obtain ⟨j, hj⟩ : ∃ j : Nat, index l [32] = j := ⟨(index l [32]).toNat, by omega⟩
        have hix' : index (b :: l) [32] = ((j + 1 : Nat) : Int) := by rw [hix, if_neg (fun e => hm (beq_iff_eq.1 e)), hj]; omega
        have n1 : ¬ ((j : Int) = -1) := by omega
        have n2 : ¬ (((j + 1 : Nat) : Int) = -1) := by omega
        simp only [splitK, hj, beq_iff_eq, n1, if_false] at ih
        simp only [splitK, hix', beq_iff_eq, n2, if_false, toks, hb, ← ih]
        simp

theorem splitB_toks (s : ByteArray) : (splitB ⟨#[32]⟩ 0 (countB s ⟨#[32]⟩) s).map (·.data.toList) = toks s.data.toList := by
  rw [splitB_data, ← split_toks]
theorem splitB_len (s : ByteArray) : (splitB ⟨#[32]⟩ 0 (countB s ⟨#[32]⟩) s).length = countB s ⟨#[32]⟩ + 1 := splitB_all _ (by decide) 0 _ s rfl

theorem num_eq (t : List UInt8) : num t = match atoiAll t with
  | .ok v => if itoa v = t then some v else none
  | .syntax => none
  | .range => none := by
  unfold num
  rw [parseIntB_64]
  cases atoiAll t <;> rfl

/-- The words as numbers, if all of them are. -/
def nums : List (List UInt8) → Option (List Int)
  | [] => some []
  | t :: ts => match num t, nums ts with
    | some v, some l => some (v :: l)
    | _, _ => none

theorem nums_len : ∀ {ts : List (List UInt8)} {l : List Int}, nums ts = some l → l.length = ts.length
  | [], l, h => by simp [nums] at h; subst h; rfl
  | t :: ts, l, h => by
    unfold nums at h
    split at h
    · rename_i v m hv hm
      cases h
      simp [nums_len hm]
    · cases h
theorem nums_itoa : ∀ {ts : List (List UInt8)} {l : List Int}, nums ts = some l → ts = l.map itoa
  | [], l, h => by simp [nums] at h; subst h; rfl
  | t :: ts, l, h => by
    unfold nums at h
    split at h
    · rename_i v m hv hm
      cases h
      simp [← nums_itoa hm, num_some hv]
    · cases h
theorem nums_of : ∀ (l : List Int), (∀ v ∈ l, -9223372036854775808 ≤ v ∧ v ≤ 9223372036854775807) → nums (l.map itoa) = some l
  | [], _ => rfl
  | v :: l, h => by
    have h1 := h v (by simp)
    simp [nums, num_itoa v h1.1 h1.2, nums_of l (fun x hx => h x (by simp [hx]))]
theorem num_wf {t : List UInt8} {v : Int} (h : num t = some v) : -9223372036854775808 ≤ v ∧ v ≤ 9223372036854775807 := by
  unfold num at h
  split at h
  · rename_i u hu
    split at h
    · cases h
      have := parseIntB_bounds hu
      simp at this
      omega
    · cases h
  · cases h
  · cases h
theorem nums_wf : ∀ {ts : List (List UInt8)} {l : List Int}, nums ts = some l → ∀ x ∈ l, -9223372036854775808 ≤ x ∧ x ≤ 9223372036854775807
  | [], l, h => by simp [nums] at h; subst h; simp
  | t :: ts, l, h => by
    unfold nums at h
    split at h
    · rename_i v m hv hm
      cases h
      intro x hx
      rcases List.mem_cons.1 hx with rfl | hx
      · exact num_wf hv
      · exact nums_wf hm x hx
    · cases h
theorem nums_append : ∀ (a b : List (List UInt8)), nums (a ++ b) = match nums a, nums b with
    | some l, some m => some (l ++ m)
    | _, _ => none
  | [], b => by
    simp only [List.nil_append, nums]
    cases nums b <;> rfl
  | t :: a, b => by
    simp only [List.cons_append, nums, nums_append a b]
    cases num t <;> cases nums a <;> cases nums b <;> rfl
/-- One more word. -/
theorem nums_snoc {a : List (List UInt8)} {l : List Int} (h : nums a = some l) (t : List UInt8) {v : Int} (hv : num t = some v) : nums (a ++ [t]) = some (l ++ [v]) := by
  rw [nums_append, h]
  simp [nums, hv]
theorem nums_bad {a b : List (List UInt8)} {t : List UInt8} (hv : num t = none) : nums (a ++ t :: b) = none := by
  rw [nums_append]
  simp only [nums, hv]
  cases nums a <;> rfl

theorem glue_flat : ∀ (t : List UInt8) (ts : List (List UInt8)), glue (t :: ts) = t ++ ts.flatMap (fun u => 32 :: u)
  | t, [] => by simp [glue]
  | t, u :: r => by rw [glue, glue_flat u r]; simp

end Go.Proofs.YtmjcoehllinoeacDoor
