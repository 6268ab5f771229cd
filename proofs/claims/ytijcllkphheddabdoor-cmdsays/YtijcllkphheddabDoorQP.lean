/- Plain laws of commands and their texts: what is printed is read, what is read is printed, unlike commands have unlike texts; no condition. -/
import Derived.Test.YtijcllkphheddabDoorQ10
namespace Go.Proofs.YtijcllkphheddabDoor
open Go.RowKit
set_option linter.unusedVariables false
set_option linter.unusedSimpArgs false

theorem bytes_eq {a b : ByteArray} (h : a.data.toList = b.data.toList) : a = b := by
  rw [ByteArray.ext_iff]
  exact Array.toList_inj.1 h

theorem pieces_toks (s : ByteArray) : (pieces s).map (·.data.toList) = toks s.data.toList := splitB_toks s

theorem lay3_pick (hz ha hn : Bool) (z t n : Int) (d : List Int) : lay3 [hz, ha, hn] (pickN hz ha hn z t n 3 ++ d) = some ([if hz then z else 0, if ha then t else 0, if hn then n else 0], d) := by
  cases hz <;> cases ha <;> cases hn <;> simp [lay3, pickN]
theorem lay3_inv {hz ha hn : Bool} {l s r : List Int} (h : lay3 [hz, ha, hn] l = some (s, r)) : l = pickN hz ha hn (s.getD 0 0) (s.getD 1 0) (s.getD 2 0) 3 ++ r := by
  cases hz <;> cases ha <;> cases hn <;> rcases l with _ | ⟨x, _ | ⟨y, _ | ⟨u, l⟩⟩⟩ <;> simp [lay3] at h <;> obtain ⟨rfl, rfl⟩ := h <;> simp [pickN]

/-- What a right command has not is zero. -/
theorem checkC_zero {b : PC} (h : checkC b = 0) : (hasZ b.k = false → b.z = 0) ∧ (hasA b.k = false → b.at' = 0) ∧ (hasN b.k = false → b.n = 0) ∧ hasD b.k = decide (b.d ≠ []) := by
  unfold checkC at h
  split at h
  · cases h
  · split at h
    · cases h
    · rename_i hno
      split at h
      · cases h
      · rename_i hd
        refine ⟨fun e => ?_, fun e => ?_, fun e => ?_, ?_⟩
        · exact Decidable.byContradiction fun hz => hno (.inl ⟨hz, e⟩)
        · exact Decidable.byContradiction fun hz => hno (.inr (.inl ⟨hz, e⟩))
        · exact Decidable.byContradiction fun hz => hno (.inr (.inr ⟨hz, e⟩))
        · cases hh : hasD b.k <;> by_cases e : b.d = [] <;> simp [hh, e] at hd ⊢

theorem hasL_eq (k : Nat) : hasL k = [hasZ k, hasA k, hasN k] := rfl

theorem lay_list {b : PC} (h : checkC b = 0) : layC b.k.toNat (listC b) = some b := by
  obtain ⟨k1, k2, _, _⟩ := checkC_ok h
  obtain ⟨hz, ha, hn, hd⟩ := checkC_zero h
  obtain ⟨k, z, n, t, d⟩ := b
  dsimp only at *
  obtain ⟨i, rfl⟩ : ∃ i : Nat, k = i := ⟨k.toNat, by omega⟩
  unfold layC listC
  rw [hasL_eq, show ((i : Int).toNat) = i from rfl]
  dsimp only
  rw [lay3_pick]
  dsimp only
  rw [if_pos hd]
  congr 2
  · cases e : hasZ i
    · simp [hz e]
    · simp
  · cases e : hasN i
    · simp [hn e]
    · simp
  · cases e : hasA i
    · simp [ha e]
    · simp

theorem list_lay {k : Nat} {l : List Int} {b : PC} (h : layC k l = some b) : b.k = k ∧ listC b = l := by
  unfold layC at h
  split at h
  · cases h
  · rename_i s r hl
    split at h
    · cases h
      refine ⟨rfl, ?_⟩
      unfold listC
      dsimp only
      exact (lay3_inv hl).symm
    · cases h

theorem word_no_blank (k : Nat) : (32 : UInt8) ∉ (word k).data.toList := by
  unfold word
  split <;> decide

theorem text_glue (b : PC) : textC b = glue ((word b.k.toNat).data.toList :: (listC b).map Lib.itoa) := by
  rw [glue_flat]
  unfold textC
  congr 1
  induction listC b with
  | nil => rfl
  | cons x l ih => simp [ih]

theorem toks_text (b : PC) : toks (textC b) = (word b.k.toNat).data.toList :: (listC b).map Lib.itoa := by
  rw [text_glue]
  refine toks_glue _ (by simp) (fun t ht => ?_)
  rcases List.mem_cons.1 ht with rfl | ht
  · exact word_no_blank _
  · obtain ⟨v, _, rfl⟩ := List.mem_map.1 ht
    exact itoa_no_blank v

theorem readC_text {s : ByteArray} {b : PC} (h : checkC b = 0) (hs : s.data.toList = textC b) : readC (pieces s) = some b := by
  have ht := pieces_toks s
  rw [hs, toks_text] at ht
  obtain ⟨k1, k2, _, _⟩ := checkC_ok h
  cases hp : pieces s with
  | nil => rw [hp] at ht; simp at ht
  | cons t ts =>
    rw [hp] at ht
    simp only [List.map_cons, List.cons.injEq] at ht
    have e1 : t = word b.k.toNat := bytes_eq ht.1
    subst e1
    simp only [readC]
    rw [kindOfS_word _ (by omega) (by omega)]
    dsimp only
    rw [ht.2, nums_of _ (fun v hv => by have := listC_wf h v hv; omega)]
    exact lay_list h

theorem textC_len {b : PC} (h : checkC b = 0) : (textC b).length ≤ 60 := by
  have h1 := flat_len (listC b) (listC_wf h)
  have h2 := listC_len h
  have h3 := word_len b.k.toNat
  rw [Lib.size_eq] at h3
  unfold textC
  rw [List.length_append]
  omega

/-- What is printed is read. -/
theorem parse_text {b : PC} (h : checkC b = 0) : parseC ⟨(textC b).toArray⟩ = (b, 0) := by
  have hl := textC_len h
  unfold parseC
  rw [if_neg (by rw [Lib.size_eq]; simp; omega), readC_text h (by simp)]
  simp [h]

theorem checkC_zeroC : checkC zeroC = 4 := by decide

/-- What is read is printed as it was. -/
theorem text_parse {s : ByteArray} (h : (parseC s).2 = 0) : checkC (parseC s).1 = 0 ∧ textC (parseC s).1 = s.data.toList := by
  unfold parseC at h ⊢
  split at h
  · cases h
  · rename_i hlong
    rw [if_neg hlong]
    cases hr : readC (pieces s) with
    | none => rw [hr] at h; cases h
    | some b =>
      rw [hr] at h
      dsimp only at h ⊢
      by_cases hc : checkC b = 0
      · rw [if_pos hc]
        refine ⟨hc, ?_⟩
        dsimp only
        have ht := pieces_toks s
        rw [text_glue]
        cases hp : pieces s with
        | nil => rw [hp] at hr; cases hr
        | cons t ts =>
          rw [hp] at hr ht
          simp only [readC] at hr
          cases hk : kindOfS t with
          | none => rw [hk] at hr; cases hr
          | some k =>
            rw [hk] at hr
            dsimp only at hr
            cases hn : nums (ts.map (·.data.toList)) with
            | none => rw [hn] at hr; cases hr
            | some l =>
              rw [hn] at hr
              dsimp only at hr
              obtain ⟨e1, e2⟩ := list_lay hr
              have e3 := nums_itoa hn
              have e4 := (kindOfS_some hk).1
              rw [e1, e2, ← e3, show ((k : Int).toNat) = k from rfl, e4]
              rw [← glue_toks s.data.toList, ← ht]
              rfl
      · rw [if_neg hc] at h
        exact absurd h hc

theorem sameC_iff (a b : PC) : sameC a b = true ↔ a = b := by
  obtain ⟨k1, z1, n1, t1, d1⟩ := a
  obtain ⟨k2, z2, n2, t2, d2⟩ := b
  unfold sameC
  rw [decide_eq_true_iff]
  constructor
  · rintro ⟨rfl, rfl, rfl, rfl, rfl⟩
    rfl
  · intro h
    cases h
    exact ⟨rfl, rfl, rfl, rfl, rfl⟩

/-- Unlike commands have unlike texts. -/
theorem text_inj {a b : PC} (ha : checkC a = 0) (hb : checkC b = 0) : textC a = textC b ↔ a = b := by
  constructor
  · intro h
    have h1 := parse_text ha
    have h2 := parse_text hb
    rw [h, h2] at h1
    exact (Prod.mk.inj h1).1.symm
  · rintro rfl
    rfl

theorem printC_w : printC ⟨6, 1, 0, 2, [3, 4]⟩ = ([119, 114, 105, 116, 101, 32, 49, 32, 50, 32, 51, 32, 52], 0) := by decide +kernel
theorem printC_c : printC ⟨12, 0, 0, 0, []⟩ = ([99, 108, 101, 97, 114], 0) := by decide +kernel

end Go.Proofs.YtijcllkphheddabDoor
