/- Numbers as texts: what is written is read, and is written so alone; plain mathematics, no condition. -/
import Derived.Lib.ItoaMem
import Derived.Lib.ParseIntB
import Derived.Lib.IndexMore
import Derived.Test.YtgchgpgipdfhgacDoorNoteSaysG1
import Derived.ChangeMaps5
import Derived.Lib.SplitLaws
import Derived.Lib.ParseIntBTie
namespace Go.Proofs.YtgchgpgipdfhgacDoor
open Go.Lib
set_option linter.unusedVariables false
set_option maxRecDepth 100000
set_option linter.unusedSimpArgs false

theorem parseUintM_snoc (M : Nat) (c : UInt8) : ∀ (l : List UInt8) (acc : Nat), parseUintM M acc (l ++ [c]) = match parseUintM M acc l with
    | .ok a => parseUintM M a [c]
    | .syntax => .syntax
    | .range => .range
  | [], acc => rfl
  | d :: r, acc => by
    simp only [List.cons_append, parseUintM]
    split
    · split
      · rfl
      · split
        · rfl
        · exact parseUintM_snoc M c r _
    · rfl

theorem digit_toNat (d : Nat) (h : d < 10) : (UInt8.ofNat (48 + d)).toNat = 48 + d := by
  rw [UInt8.toNat_ofNat']
  omega

theorem parse_digits (M : Nat) (hM : M ≤ 18446744073709551615) : ∀ u : Nat, u ≤ M → parseUintM M 0 (decDigits u) = .ok u := by
  intro u
  induction u using Nat.strongRecOn with
  | ind u ih =>
    intro hu
    rw [decDigits]
    split
    · rename_i h
      have e := digit_toNat u h
      simp only [parseUintM, e]
      rw [if_pos (by omega), if_neg (by omega), if_neg (by omega)]
      simp
    · rename_i h
      rw [parseUintM_snoc, ih (u / 10) (by omega) (by omega)]
      have e := digit_toNat (u % 10) (by omega)
      simp only [parseUintM, e]
      rw [if_pos (by omega), if_neg (by omega), if_neg (by omega)]
      congr 1
      omega

theorem digits_ne_nil (u : Nat) : decDigits u ≠ [] := by
  rw [decDigits]
  split <;> simp

/-- The bytes of a numeral are digits. -/
theorem digits_range : ∀ u : Nat, ∀ c ∈ decDigits u, 48 ≤ c.toNat ∧ c.toNat ≤ 57 := by
  intro u
  induction u using Nat.strongRecOn with
  | ind u ih =>
    intro c hc
    rw [decDigits] at hc
    split at hc
    · rename_i h
      obtain rfl := List.mem_singleton.1 hc
      rw [digit_toNat u h]
      omega
    · rename_i h
      rcases List.mem_append.1 hc with hc | hc
      · exact ih (u / 10) (by omega) c hc
      · obtain rfl := List.mem_singleton.1 hc
        rw [digit_toNat (u % 10) (by omega)]
        omega

/-- What Itoa writes ParseInt reads. -/
theorem parse_itoa (v : Int) (h0 : -9223372036854775808 ≤ v) (h1 : v ≤ 9223372036854775807) : parseIntB 64 (itoa v) = .ok v := by
  unfold itoa
  split
  · rename_i hn
    have hp := parse_digits (2 ^ 64 - 1) (by decide) v.natAbs (by omega)
    simp only [parseIntB, parseUintB]
    rw [show (45 : UInt8).toNat = 45 from rfl]
    simp only [or_true, if_true]
    rw [if_neg (digits_ne_nil _), hp]
    simp only [not_true_eq_false, false_and, if_false, true_and, if_true]
    rw [if_neg (by omega)]
    congr 1
    omega
  · rename_i hn
    have hp := parse_digits (2 ^ 64 - 1) (by decide) v.toNat (by omega)
    have hd := digits_range v.toNat
    have hne := digits_ne_nil v.toNat
    cases hl : decDigits v.toNat with
    | nil => exact absurd hl hne
    | cons c r =>
      have hc := hd c (by rw [hl]; simp)
      have hc1 : ¬ (c.toNat = 43 ∨ c.toNat = 45) := by omega
      have hc2 : ¬ c.toNat = 45 := by omega
      simp only [parseIntB, parseUintB]
      rw [if_neg hc1, if_neg (by simp), ← hl, hp]
      simp only [hc2, not_false_eq_true, true_and, false_and, if_false]
      rw [if_neg (by omega)]
      congr 1
      omega

/-- A number's text holds no blank, and something. -/
theorem itoa_no_blank (v : Int) : (32 : UInt8) ∉ itoa v := by
  unfold itoa
  intro h
  split at h
  · rcases List.mem_cons.1 h with e | h
    · cases e
    · have := digits_range _ _ h
      have e : (32 : UInt8).toNat = 32 := rfl
      omega
  · have := digits_range _ _ h
    have e : (32 : UInt8).toNat = 32 := rfl
    omega
theorem itoa_ne_nil (v : Int) : itoa v ≠ [] := by
  unfold itoa
  split
  · simp
  · exact digits_ne_nil _
theorem itoa_inj {v u : Int} (h0 : -9223372036854775808 ≤ v) (h1 : v ≤ 9223372036854775807) (g0 : -9223372036854775808 ≤ u) (g1 : u ≤ 9223372036854775807) (h : itoa v = itoa u) : v = u := by
  have a := parse_itoa v h0 h1
  rw [h, parse_itoa u g0 g1] at a
  cases a
  rfl

/-- A word that is a number, written as it must be. -/
def num (t : List UInt8) : Option Int := match parseIntB 64 t with
  | .ok v => if itoa v = t then some v else none
  | .syntax => none
  | .range => none

theorem num_itoa (v : Int) (h0 : -9223372036854775808 ≤ v) (h1 : v ≤ 9223372036854775807) : num (itoa v) = some v := by
  simp [num, parse_itoa v h0 h1]
theorem num_some {t : List UInt8} {v : Int} (h : num t = some v) : itoa v = t := by
  unfold num at h
  split at h
  · split at h
    · cases h
      assumption
    · cases h
  · cases h
  · cases h

/-- Words between blanks. -/
def toks : List UInt8 → List (List UInt8)
  | [] => [[]]
  | c :: r => if c = 32 then [] :: toks r else match toks r with
    | [] => [[c]]
    | t :: ts => (c :: t) :: ts

theorem toks_ne_nil : ∀ l, toks l ≠ []
  | [] => by simp [toks]
  | c :: r => by
    unfold toks
    split
    · simp
    · split <;> simp
theorem toks_word : ∀ (l r : List UInt8), (32 : UInt8) ∉ l → toks (l ++ 32 :: r) = l :: toks r
  | [], r, _ => by simp [toks]
  | c :: l, r, h => by
    have hc : ¬ c = 32 := fun e => h (by simp [e])
    have hl : (32 : UInt8) ∉ l := fun e => h (by simp [e])
    simp [toks, hc, toks_word l r hl]
theorem toks_end : ∀ (l : List UInt8), (32 : UInt8) ∉ l → toks l = [l]
  | [], _ => rfl
  | c :: l, h => by
    have hc : ¬ c = 32 := fun e => h (by simp [e])
    have hl : (32 : UInt8) ∉ l := fun e => h (by simp [e])
    simp [toks, hc, toks_end l hl]
theorem toks_blank : ∀ (l : List UInt8) (t : List UInt8), t ∈ toks l → (32 : UInt8) ∉ t
  | [], t, h => by simp [toks] at h; subst h; simp
  | c :: r, t, h => by
    unfold toks at h
    split at h
    · rcases List.mem_cons.1 h with rfl | h
      · simp
      · exact toks_blank r t h
    · rename_i hc
      have ih := toks_blank r
      split at h
      · simp at h
        subst h
        simp [Ne.symm hc]
      · rename_i u us hu
        rcases List.mem_cons.1 h with rfl | h
        · intro hm
          rcases List.mem_cons.1 hm with e | hm
          · exact hc e.symm
          · exact ih u (by rw [hu]; simp) hm
        · exact ih t (by rw [hu]; simp [h])
/-- The words, blanks between: the text again. -/
def glue : List (List UInt8) → List UInt8
  | [] => []
  | [t] => t
  | t :: u :: r => t ++ 32 :: glue (u :: r)
theorem glue_cons (c : UInt8) (t : List UInt8) (ts : List (List UInt8)) : glue ((c :: t) :: ts) = c :: glue (t :: ts) := by cases ts <;> rfl
theorem glue_toks : ∀ l, glue (toks l) = l
  | [] => rfl
  | c :: r => by
    have ih := glue_toks r
    have hn := toks_ne_nil r
    unfold toks
    split
    · rename_i hc
      subst hc
      cases ht : toks r with
      | nil => exact absurd ht hn
      | cons t ts => rw [ht] at ih; simp [glue, ih]
    · cases ht : toks r with
      | nil => exact absurd ht hn
      | cons t ts => rw [ht] at ih; simp only; rw [glue_cons, ih]
theorem toks_glue : ∀ ts : List (List UInt8), ts ≠ [] → (∀ t ∈ ts, (32 : UInt8) ∉ t) → toks (glue ts) = ts
  | [], h, _ => absurd rfl h
  | [t], _, h => toks_end t (h t (by simp))
  | t :: u :: r, _, h => by
    rw [glue, toks_word t _ (h t (by simp)), toks_glue (u :: r) (by simp) (fun x hx => h x (by simp at hx ⊢; right; exact hx))]

end Go.Proofs.YtgchgpgipdfhgacDoor

/- Commands as plain data, and what the document's calls make of them; plain mathematics, no condition. -/
namespace Go.Proofs.YtgchgpgipdfhgacDoor
open Go.RowKit
set_option linter.unusedVariables false
set_option maxRecDepth 100000
set_option linter.unusedSimpArgs false

/-- A command: its fields in Go's order. -/
structure PC where
  k : Int
  z : Int
  n : Int
  at' : Int
  d : List Int

def cmdV (a : Option Addr) (n c : Nat) (b : PC) : Value := .agg #[.int .i64 b.k, .int .i64 b.z, .int .i64 b.n, .int .i64 b.at', .slice a n c]
def zeroC : PC := ⟨0, 0, 0, 0, []⟩
def hasZ (k : Int) : Bool := decide (1 ≤ k) && decide (k ≤ 7)
def hasA (k : Int) : Bool := k == 6 || k == 7
def hasN (k : Int) : Bool := k == 7 || k == 8 || k == 9 || k == 11
def hasD (k : Int) : Bool := k == 5 || k == 6
/-- What Check answers. -/
def checkC (b : PC) : Int :=
  if outB 1 12 b.k then 4
  else if (b.z ≠ 0 ∧ hasZ b.k = false) ∨ (b.at' ≠ 0 ∧ hasA b.k = false) ∨ (b.n ≠ 0 ∧ hasN b.k = false) then 4
  else if hasD b.k = decide (b.d = []) then 4
  else if 8 < b.d.length then 2
  else if outB 0 999 b.z ∨ outB 0 999 b.at' ∨ outB 0 999 b.n ∨ b.d.any (outB 0 999) then 3 else 0
def sameC (a b : PC) : Bool := decide (a.k = b.k ∧ a.z = b.z ∧ a.at' = b.at' ∧ a.n = b.n ∧ a.d = b.d)

end Go.Proofs.YtgchgpgipdfhgacDoor

/- How the arguments of the laws read: a command, a text; no condition. -/
namespace Go.Proofs.YtgchgpgipdfhgacDoor
open Go.ChangeShapes Go.WideShapes Go.ChangeAt Go.RowKit Go.Joins Go.ChangeMaps
set_option linter.unusedVariables false
set_option maxRecDepth 100000
set_option linter.unusedSimpArgs false

theorem array5 {α : Type} {cs : Array α} (h : cs.size = 5) : ∃ c0 c1 c2 c3 c4, cs = #[c0, c1, c2, c3, c4] := by
  obtain ⟨l⟩ := cs
  match l, h with
  | [c0, c1, c2, c3, c4], _ => exact ⟨c0, c1, c2, c3, c4, rfl⟩

theorem list5 {α : Type} {xs : List α} (h : xs.length = 5) : ∃ c0 c1 c2 c3 c4, xs = [c0, c1, c2, c3, c4] := by
  match xs, h with
  | [c0, c1, c2, c3, c4], _ => exact ⟨c0, c1, c2, c3, c4, rfl⟩

theorem cellsCmd : Tryd.prog.cellsOf 24 = 5 := by kernel_rfl

set_option maxRecDepth 100000 in
theorem cmd_arg {H : Type} {enc : TypeId × Value → H} {W : World} {base : Nat} {v : Value} {d : DataW H} {p : List MemPlace} (hv : Value.okWide Tryd.prog W .any base 24 v)
    (h : DataW.Trod enc Tryd.prog W 0 (fun _ => true) true 24 v d p) : ∃ a n c b, v = cmdV a n c b ∧ Ints W a n c b.d := by
  obtain ⟨cs, rfl, hsz⟩ := okWide_struct Tryd.underlying24 hv
  obtain ⟨v0, v1, v2, v3, v4, rfl⟩ := array5 (hsz.trans cellsCmd)
  obtain ⟨fuel, hf⟩ := h
  obtain ⟨xs, n, _, _, _, hlen, hfs⟩ := DataW.trod_struct Tryd.underlying24 hf
  obtain ⟨y0, y1, y2, y3, y4, rfl⟩ := list5 hlen
  have g0 := hfs 0 _ rfl
  have g1 := hfs 1 _ rfl
  have g2 := hfs 2 _ rfl
  have g3 := hfs 3 _ rfl
  have g4 := hfs 4 _ rfl
  have c3 : Tryd.prog.cellsOf 3 = 1 := by kernel_rfl
  have c22 : Tryd.prog.cellsOf 22 = 1 := by kernel_rfl
  simp [Value.cells, c3, c22] at g0 g1 g2 g3 g4
  obtain ⟨k, e0, _, _⟩ := DataW.trod_int Tryd.underlying3 g0
  obtain ⟨z, e1, _, _⟩ := DataW.trod_int Tryd.underlying3 g1
  obtain ⟨nn, e2, _, _⟩ := DataW.trod_int Tryd.underlying3 g2
  obtain ⟨t, e3, _, _⟩ := DataW.trod_int Tryd.underlying3 g3
  simp at e0 e1 e2 e3
  subst e0 e1 e2 e3
  obtain ⟨a, n, c, l, rfl, hi⟩ := ints_of g4
  exact ⟨a, n, c, ⟨k, z, nn, t, l⟩, rfl, hi⟩

set_option maxRecDepth 100000 in
theorem str_arg {H : Type} {enc : TypeId × Value → H} {W : World} {base : Nat} {v : Value} {d : DataW H} {p : List MemPlace} (hv : Value.okWide Tryd.prog W .any base 9 v)
    (h : DataW.Trod enc Tryd.prog W 0 (fun _ => true) true 9 v d p) : ∃ s, v = .string s ∧ s.size ≤ 9223372036854775807 := by
  obtain ⟨s, rfl, _, _, hs⟩ := open_string Tryd.underlying9 hv h
  exact ⟨s, rfl, by simpa [maxLen] using hs⟩

end Go.Proofs.YtgchgpgipdfhgacDoor

/- What the table of kinds holds in a world, and that it stays so; plain mathematics, no condition. -/
namespace Go.Proofs.YtgchgpgipdfhgacDoor
open Go.RowKit
set_option linter.unusedVariables false
set_option maxRecDepth 100000
set_option linter.unusedSimpArgs false

/-- The kinds' words. -/
def word (k : Nat) : ByteArray := match k with
  | 1 => ⟨#[111, 112, 101, 110]⟩
  | 2 => ⟨#[99, 108, 111, 115, 101]⟩
  | 3 => ⟨#[102, 105, 110, 105, 115, 104]⟩
  | 4 => ⟨#[114, 101, 115, 101, 116]⟩
  | 5 => ⟨#[97, 112, 112, 101, 110, 100]⟩
  | 6 => ⟨#[119, 114, 105, 116, 101]⟩
  | 7 => ⟨#[114, 101, 97, 100]⟩
  | 8 => ⟨#[114, 101, 103, 105, 115, 116, 101, 114]⟩
  | 9 => ⟨#[114, 101, 115, 101, 114, 118, 101]⟩
  | 10 => ⟨#[114, 101, 108, 101, 97, 115, 101]⟩
  | 11 => ⟨#[112, 114, 101, 101, 109, 112, 116]⟩
  | 12 => ⟨#[99, 108, 101, 97, 114]⟩
  | _ => ⟨#[]⟩

/-- The table of kinds, cell by cell. -/
structure Shapes (w : World) : Prop where
  wd : ∀ k : Nat, k ≤ 12 → w.cell? ⟨0, k * 5, none⟩ = some (.string (word k))
  hz : ∀ k : Nat, k ≤ 12 → w.cell? ⟨0, k * 5 + 1, none⟩ = some (.bool (hasZ k))
  ha : ∀ k : Nat, k ≤ 12 → w.cell? ⟨0, k * 5 + 2, none⟩ = some (.bool (hasA k))
  hn : ∀ k : Nat, k ≤ 12 → w.cell? ⟨0, k * 5 + 3, none⟩ = some (.bool (hasN k))
  hd : ∀ k : Nat, k ≤ 12 → w.cell? ⟨0, k * 5 + 4, none⟩ = some (.bool (hasD k))

theorem Shapes.below {w w' : World} (h : Shapes w) (hb : Below w.heap.size w w') : Shapes w' :=
  ⟨fun k hk => keepc hb (h.wd k hk), fun k hk => keepc hb (h.hz k hk), fun k hk => keepc hb (h.ha k hk), fun k hk => keepc hb (h.hn k hk), fun k hk => keepc hb (h.hd k hk)⟩

end Go.Proofs.YtgchgpgipdfhgacDoor

/- Texts parted at blanks, as the library parts them; plain mathematics, no condition. -/
namespace Go.Proofs.YtgchgpgipdfhgacDoor
open Go.Lib
set_option linter.unusedVariables false
set_option maxRecDepth 100000
set_option linter.unusedSimpArgs false

theorem split_toks : ∀ s : List UInt8, splitK [32] 0 (count s [32]) s = toks s
  | [] => by rw [count_one]; rfl
  | b :: l => by
    have ih := split_toks l
    by_cases hb : b = 32
    · subst hb
      rw [count_cons_eq, Nat.add_comm 1]
      have hix : index (32 :: l) [32] = 0 := by rw [index]; simp [List.isPrefixOf]
      simp [splitK, hix, toks, ih]
    · rw [count_cons_ne b 32 l hb]
      have hp : ([32] : List UInt8).isPrefixOf (b :: l) = false := by simp [List.isPrefixOf, Ne.symm hb]
      have hix : index (b :: l) [32] = if index l [32] == -1 then -1 else index l [32] + 1 := by rw [index, hp]; simp
      have hge := index_ge l [32]
      cases hc : count l [32] with
      | zero =>
        rw [hc] at ih
        simp only [splitK] at ih ⊢
        simp [toks, hb, ← ih]
      | succ k =>
        rw [hc] at ih
        have hm : index l [32] ≠ -1 := by
          intro e
          rw [count_miss e] at hc
          cases hc
        obtain ⟨j, hj⟩ : ∃ j : Nat, index l [32] = j := ⟨(index l [32]).toNat, by omega⟩
        have hix' : index (b :: l) [32] = ((j + 1 : Nat) : Int) := by rw [hix, if_neg (fun e => hm (beq_iff_eq.1 e)), hj]; omega
        have n1 : ¬ ((j : Int) = -1) := by omega
        have n2 : ¬ (((j + 1 : Nat) : Int) = -1) := by omega
        simp only [splitK, hj, beq_iff_eq, n1, if_false] at ih
        simp only [splitK, hix', beq_iff_eq, n2, if_false, toks, hb, ← ih]
        simp

theorem splitB_toks (s : ByteArray) : (splitB ⟨#[32]⟩ 0 (countB s ⟨#[32]⟩) s).map (·.data.toList) = toks s.data.toList := by
  rw [splitB_data, ← split_toks]
theorem splitB_len (s : ByteArray) : (splitB ⟨#[32]⟩ 0 (countB s ⟨#[32]⟩) s).length = countB s ⟨#[32]⟩ + 1 := splitB_all _ (by decide) 0 _ s rfl

theorem num_eq (t : List UInt8) : num t = match atoiAll t with
  | .ok v => if itoa v = t then some v else none
  | .syntax => none
  | .range => none := by
  have h := parseIntB_64 t
  unfold num
  revert h
  generalize parseIntB 64 t = a
  generalize atoiAll t = b
  rintro rfl
  cases a <;> rfl

/-- The words as numbers, if all of them are. -/
def nums : List (List UInt8) → Option (List Int)
  | [] => some []
  | t :: ts => match num t, nums ts with
    | some v, some l => some (v :: l)
    | _, _ => none

theorem nums_len : ∀ {ts : List (List UInt8)} {l : List Int}, nums ts = some l → l.length = ts.length
  | [], l, h => by simp [nums] at h; subst h; rfl
  | t :: ts, l, h => by
    unfold nums at h
    split at h
    · rename_i v m hv hm
      cases h
      simp [nums_len hm]
    · cases h
theorem nums_itoa : ∀ {ts : List (List UInt8)} {l : List Int}, nums ts = some l → ts = l.map itoa
  | [], l, h => by simp [nums] at h; subst h; rfl
  | t :: ts, l, h => by
    unfold nums at h
    split at h
    · rename_i v m hv hm
      cases h
      simp [← nums_itoa hm, num_some hv]
    · cases h
theorem nums_of : ∀ (l : List Int), (∀ v ∈ l, -9223372036854775808 ≤ v ∧ v ≤ 9223372036854775807) → nums (l.map itoa) = some l
  | [], _ => rfl
  | v :: l, h => by
    have h1 := h v (by simp)
    simp [nums, num_itoa v h1.1 h1.2, nums_of l (fun x hx => h x (by simp [hx]))]
theorem num_wf {t : List UInt8} {v : Int} (h : num t = some v) : -9223372036854775808 ≤ v ∧ v ≤ 9223372036854775807 := by
  unfold num at h
  split at h
  · rename_i u hu
    split at h
    · cases h
      have := parseIntB_bounds hu
      simp at this
      omega
    · cases h
  · cases h
  · cases h
theorem nums_wf : ∀ {ts : List (List UInt8)} {l : List Int}, nums ts = some l → ∀ x ∈ l, -9223372036854775808 ≤ x ∧ x ≤ 9223372036854775807
  | [], l, h => by simp [nums] at h; subst h; simp
  | t :: ts, l, h => by
    unfold nums at h
    split at h
    · rename_i v m hv hm
      cases h
      intro x hx
      rcases List.mem_cons.1 hx with rfl | hx
      · exact num_wf hv
      · exact nums_wf hm x hx
    · cases h
theorem nums_append : ∀ (a b : List (List UInt8)), nums (a ++ b) = match nums a, nums b with
    | some l, some m => some (l ++ m)
    | _, _ => none
  | [], b => by
    simp only [List.nil_append, nums]
    cases nums b <;> rfl
  | t :: a, b => by
    simp only [List.cons_append, nums, nums_append a b]
    cases num t <;> cases nums a <;> cases nums b <;> rfl
/-- One more word. -/
theorem nums_snoc {a : List (List UInt8)} {l : List Int} (h : nums a = some l) (t : List UInt8) {v : Int} (hv : num t = some v) : nums (a ++ [t]) = some (l ++ [v]) := by
  rw [nums_append, h]
  simp [nums, hv]
theorem nums_bad {a b : List (List UInt8)} {t : List UInt8} (hv : num t = none) : nums (a ++ t :: b) = none := by
  rw [nums_append]
  simp only [nums, hv]
  cases nums a <;> rfl

theorem glue_flat : ∀ (t : List UInt8) (ts : List (List UInt8)), glue (t :: ts) = t ++ ts.flatMap (fun u => 32 :: u)
  | t, [] => by simp [glue]
  | t, u :: r => by rw [glue, glue_flat u r]; simp

end Go.Proofs.YtgchgpgipdfhgacDoor
