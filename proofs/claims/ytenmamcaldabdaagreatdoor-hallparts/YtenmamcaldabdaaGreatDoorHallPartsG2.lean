/- Records as plain data; plain mathematics, no condition. -/
import Derived.Test.YtenmamcaldabdaaGreatDoorHallPartsG1
import Derived.Lib.SplitLaws
import Derived.Lib.ParseIntBTie
import Derived.Deep.Light
import Derived.Deep.RegionHeld3
namespace Go.Proofs.YtenmamcaldabdaaGreatDoor
open Go.RowKit
set_option linter.unusedVariables false
set_option maxRecDepth 100000
set_option linter.unusedSimpArgs false

theorem sameC_iff (a b : PC) : sameC a b = true ↔ a = b := by
  obtain ⟨k1, z1, n1, t1, d1⟩ := a
  obtain ⟨k2, z2, n2, t2, d2⟩ := b
  unfold sameC
  rw [decide_eq_true_iff]
  constructor
  · rintro ⟨rfl, rfl, rfl, rfl, rfl⟩
    rfl
  · intro h
    cases h
    exact ⟨rfl, rfl, rfl, rfl, rfl⟩

/-- A record: hand, number, command. -/
structure PR where
  w : Int
  s : Int
  c : PC

def zeroR : PR := ⟨0, 0, zeroC⟩
def checkR (r : PR) : Int := if inB r.w 0 2 = false ∨ inB r.s 1 40 = false then 3 else checkC r.c
def sameR (a b : PR) : Bool := decide (a.w = b.w ∧ a.s = b.s) && sameC a.c b.c
theorem checkR_facts {r : PR} (h : checkR r = 0) : (0 ≤ r.w ∧ r.w ≤ 2) ∧ (1 ≤ r.s ∧ r.s ≤ 40) ∧ checkC r.c = 0 := by
  unfold checkR at h
  split at h
  · omega
  · rename_i q
    simp only [not_or, Bool.not_eq_false] at q
    refine ⟨?_, ?_, h⟩
    · have := q.1; simp [inB] at this; omega
    · have := q.2; simp [inB] at this; omega

theorem sameR_iff (a b : PR) : sameR a b = true ↔ a = b := by
  obtain ⟨w, s, c⟩ := a
  obtain ⟨w', s', c'⟩ := b
  simp [sameR, sameC_iff, and_assoc]

end Go.Proofs.YtenmamcaldabdaaGreatDoor

/- What the table of kinds holds in a world, and that it stays so; plain mathematics, no condition. -/
namespace Go.Proofs.YtenmamcaldabdaaGreatDoor
open Go.RowKit
set_option linter.unusedVariables false
set_option maxRecDepth 100000
set_option linter.unusedSimpArgs false

/-- The kinds' words. -/
def word (k : Nat) : ByteArray := match k with
  | 1 => ⟨#[111, 112, 101, 110]⟩
  | 2 => ⟨#[99, 108, 111, 115, 101]⟩
  | 3 => ⟨#[102, 105, 110, 105, 115, 104]⟩
  | 4 => ⟨#[114, 101, 115, 101, 116]⟩
  | 5 => ⟨#[97, 112, 112, 101, 110, 100]⟩
  | 6 => ⟨#[119, 114, 105, 116, 101]⟩
  | 7 => ⟨#[114, 101, 97, 100]⟩
  | 8 => ⟨#[114, 101, 103, 105, 115, 116, 101, 114]⟩
  | 9 => ⟨#[114, 101, 115, 101, 114, 118, 101]⟩
  | 10 => ⟨#[114, 101, 108, 101, 97, 115, 101]⟩
  | 11 => ⟨#[112, 114, 101, 101, 109, 112, 116]⟩
  | 12 => ⟨#[99, 108, 101, 97, 114]⟩
  | _ => ⟨#[]⟩

/-- The table of kinds, cell by cell. -/
structure Shapes (w : World) : Prop where
  wd : ∀ k : Nat, k ≤ 12 → w.cell? ⟨0, k * 5, none⟩ = some (.string (word k))
  hz : ∀ k : Nat, k ≤ 12 → w.cell? ⟨0, k * 5 + 1, none⟩ = some (.bool (hasZ k))
  ha : ∀ k : Nat, k ≤ 12 → w.cell? ⟨0, k * 5 + 2, none⟩ = some (.bool (hasA k))
  hn : ∀ k : Nat, k ≤ 12 → w.cell? ⟨0, k * 5 + 3, none⟩ = some (.bool (hasN k))
  hd : ∀ k : Nat, k ≤ 12 → w.cell? ⟨0, k * 5 + 4, none⟩ = some (.bool (hasD k))

theorem Shapes.below {w w' : World} (h : Shapes w) (hb : Below w.heap.size w w') : Shapes w' :=
  ⟨fun k hk => keepc hb (h.wd k hk), fun k hk => keepc hb (h.hz k hk), fun k hk => keepc hb (h.ha k hk), fun k hk => keepc hb (h.hn k hk), fun k hk => keepc hb (h.hd k hk)⟩

end Go.Proofs.YtenmamcaldabdaaGreatDoor

/- Texts parted at blanks, as the library parts them; plain mathematics, no condition. -/
namespace Go.Proofs.YtenmamcaldabdaaGreatDoor
open Go.Lib
set_option linter.unusedVariables false
set_option maxRecDepth 100000
set_option linter.unusedSimpArgs false

theorem split_toks : ∀ s : List UInt8, splitK [32] 0 (count s [32]) s = toks s
  | [] => by rw [count_one]; rfl
  | b :: l => by
    have ih := split_toks l
    by_cases hb : b = 32
    · subst hb
      rw [count_cons_eq, Nat.add_comm 1]
      have hix : index (32 :: l) [32] = 0 := by rw [index]; simp [List.isPrefixOf]
      simp [splitK, hix, toks, ih]
    · rw [count_cons_ne b 32 l hb]
      have hp : ([32] : List UInt8).isPrefixOf (b :: l) = false := by simp [List.isPrefixOf, Ne.symm hb]
      have hix : index (b :: l) [32] = if index l [32] == -1 then -1 else index l [32] + 1 := by rw [index, hp]; simp
      have hge := index_ge l [32]
      cases hc : count l [32] with
      | zero =>
        rw [hc] at ih
        simp only [splitK] at ih ⊢
        simp [toks, hb, ← ih]
      | succ k =>
        rw [hc] at ih
        have hm : index l [32] ≠ -1 := by
          intro e
          rw [count_miss e] at hc
          cases hc
        obtain ⟨j, hj⟩ : ∃ j : Nat, index l [32] = j := ⟨(index l [32]).toNat, by omega⟩
        have hix' : index (b :: l) [32] = ((j + 1 : Nat) : Int) := by rw [hix, if_neg (fun e => hm (beq_iff_eq.1 e)), hj]; omega
        have n1 : ¬ ((j : Int) = -1) := by omega
        have n2 : ¬ (((j + 1 : Nat) : Int) = -1) := by omega
        simp only [splitK, hj, beq_iff_eq, n1, if_false] at ih
        simp only [splitK, hix', beq_iff_eq, n2, if_false, toks, hb, ← ih]
        simp

theorem splitB_toks (s : ByteArray) : (splitB ⟨#[32]⟩ 0 (countB s ⟨#[32]⟩) s).map (·.data.toList) = toks s.data.toList := by
  rw [splitB_data, ← split_toks]
theorem splitB_len (s : ByteArray) : (splitB ⟨#[32]⟩ 0 (countB s ⟨#[32]⟩) s).length = countB s ⟨#[32]⟩ + 1 := splitB_all _ (by decide) 0 _ s rfl

theorem num_eq (t : List UInt8) : num t = match atoiAll t with
  | .ok v => if itoa v = t then some v else none
  | .syntax => none
  | .range => none := by
  have h := parseIntB_64 t
  unfold num
  revert h
  generalize parseIntB 64 t = a
  generalize atoiAll t = b
  rintro rfl
  cases a <;> rfl

/-- The words as numbers, if all of them are. -/
def nums : List (List UInt8) → Option (List Int)
  | [] => some []
  | t :: ts => match num t, nums ts with
    | some v, some l => some (v :: l)
    | _, _ => none

theorem nums_itoa : ∀ {ts : List (List UInt8)} {l : List Int}, nums ts = some l → ts = l.map itoa
  | [], l, h => by simp [nums] at h; subst h; rfl
  | t :: ts, l, h => by
    unfold nums at h
    split at h
    · rename_i v m hv hm
      cases h
      simp [← nums_itoa hm, num_some hv]
    · cases h
theorem nums_of : ∀ (l : List Int), (∀ v ∈ l, -9223372036854775808 ≤ v ∧ v ≤ 9223372036854775807) → nums (l.map itoa) = some l
  | [], _ => rfl
  | v :: l, h => by
    have h1 := h v (by simp)
    simp [nums, num_itoa v h1.1 h1.2, nums_of l (fun x hx => h x (by simp [hx]))]
theorem num_wf {t : List UInt8} {v : Int} (h : num t = some v) : -9223372036854775808 ≤ v ∧ v ≤ 9223372036854775807 := by
  unfold num at h
  split at h
  · rename_i u hu
    split at h
    · cases h
      have := parseIntB_bounds hu
      simp at this
      omega
    · cases h
  · cases h
  · cases h
theorem nums_wf : ∀ {ts : List (List UInt8)} {l : List Int}, nums ts = some l → ∀ x ∈ l, -9223372036854775808 ≤ x ∧ x ≤ 9223372036854775807
  | [], l, h => by simp [nums] at h; subst h; simp
  | t :: ts, l, h => by
    unfold nums at h
    split at h
    · rename_i v m hv hm
      cases h
      intro x hx
      rcases List.mem_cons.1 hx with rfl | hx
      · exact num_wf hv
      · exact nums_wf hm x hx
    · cases h
theorem nums_append : ∀ (a b : List (List UInt8)), nums (a ++ b) = match nums a, nums b with
    | some l, some m => some (l ++ m)
    | _, _ => none
  | [], b => by
    simp only [List.nil_append, nums]
    cases nums b <;> rfl
  | t :: a, b => by
    simp only [List.cons_append, nums, nums_append a b]
    cases num t <;> cases nums a <;> cases nums b <;> rfl
/-- One more word. -/
theorem nums_snoc {a : List (List UInt8)} {l : List Int} (h : nums a = some l) (t : List UInt8) {v : Int} (hv : num t = some v) : nums (a ++ [t]) = some (l ++ [v]) := by
  rw [nums_append, h]
  simp [nums, hv]
theorem nums_bad {a b : List (List UInt8)} {t : List UInt8} (hv : num t = none) : nums (a ++ t :: b) = none := by
  rw [nums_append]
  simp only [nums, hv]
  cases nums a <;> rfl

theorem glue_flat : ∀ (t : List UInt8) (ts : List (List UInt8)), glue (t :: ts) = t ++ ts.flatMap (fun u => 32 :: u)
  | t, [] => by simp [glue]
  | t, u :: r => by rw [glue, glue_flat u r]; simp

end Go.Proofs.YtenmamcaldabdaaGreatDoor

/- The contracts of package cmd's small functions: singles, outside, ContainsFunc, fits, Same; no condition but that the data reads as a list. -/
namespace Go.Proofs.YtenmamcaldabdaaGreatDoor
open Go.RowKit
set_option linter.unusedVariables false
set_option maxRecDepth 100000
set_option linter.unusedSimpArgs false

theorem cmdOutside_c (v : Int) (w : World) : Calls Tryz.prog 106 #[.int .i64 v] w fun e w' => e = .returned (.bool (outB 0 999 v)) ∧ w' = w := by
  go_enter Tryz.func106, Tryz.ntmps106
  go_wp2
  all_goals (go_ret; exact ⟨ret_bool (by unfold outB; simp_all), rfl⟩)

theorem singles_c (a : Option Addr) (m c : Nat) (k z n t : Int) (w : World) :
    Calls Tryz.prog 76 #[.agg #[.int .i64 k, .int .i64 z, .int .i64 n, .int .i64 t, .slice a m c]] w fun e w' => e = .returned (.agg #[.int .i64 z, .int .i64 t, .int .i64 n]) ∧ Below w.heap.size w w' := by
  go_enter Tryz.func76, Tryz.ntmps76
  go_wp2
  refine bodyPost_ret (v := .agg #[.int .i64 z, .int .i64 t, .int .i64 n]) (by simp [results, Tryz.results76, go_sem]) rfl ⟨rfl, ?_⟩
  (repeat (first | exact Below.refl _ _ | assumption | refine Below.drew ?_ | refine below_drewN ?_ _ | refine belowA ?_ _ | refine belowT ?_ (by assumption) | refine Below.setCell ?_ (by first | (simp; done) | (simp; omega)) _))

set_option maxHeartbeats 400000 in
theorem cmdIndexFunc_some (b1 o1 n1 c1 : Nat) (l1 : List Int) (w : World) (hl1 : l1.length = n1) (hm1 : n1 ≤ 9223372036854775807)
    (hr1 : ∀ i, i < n1 → w.cell? ⟨b1, o1 + i, none⟩ = some (.int .i64 (l1.getD i 0))) :
    Calls Tryz.prog 135 #[.slice (some ⟨b1, o1, none⟩) n1 c1, .func (Fn.func 106) #[] #[]] w
      fun e w' => (∃ r, e = .returned (.int .i64 r) ∧ decide (0 ≤ r) = l1.any (outB 0 999)) ∧ w' = w := by
  go_enter Tryz.func135, Tryz.ntmps135
  go_wp2
  go_loop [8] (fun i => ∃ k : Nat, k ≤ n1 ∧ i = .int .i64 k ∧ (l1.take k).any (outB 0 999) = false) (fun i => n1 - (intOf i).toNat)
  case atStart => exact ⟨0, by omega, rfl, by simp⟩
  case round =>
    obtain ⟨k, hk, rfl, ht⟩ := hrel
    by_cases hlt : k < n1
    · have hi1 := hr1 k hlt
      have hlt' : (k : Int) < (n1 : Int) := by omega
      have HT := hide ht
      clear ht hr1
      generalize hx : l1.getD k 0 = x at hi1
      have HX := hide hx
      clear hx
      go_wp2_with (go_at_call 106; refine (cmdOutside_c x _).mono ?_; rintro e w' ⟨rfl, rfl⟩)
      · rename_i hxy
        go_ret
        exact ⟨⟨k, rfl, by rw [any_of_getD _ l1 k (by omega) (by rw [HX.out]; exact hxy)]; simp⟩, rfl⟩
      · rename_i hxy
        exact ⟨⟨k + 1, by omega, by go_num, any_take_step _ l1 k (by omega) HT.out (by rw [HX.out]; exact hxy)⟩, by simp [intOf]; omega⟩
    · go_wp2
      go_ret
      rw [List.take_of_length_le (by omega)] at ht
      exact ⟨⟨-1, rfl, by rw [ht]; rfl⟩, rfl⟩

theorem cmdIndexFunc_none (a1 : Option Addr) (c1 : Nat) (w : World) :
    Calls Tryz.prog 135 #[.slice a1 0 c1, .func (Fn.func 106) #[] #[]] w
      fun e w' => (∃ r, e = .returned (.int .i64 r) ∧ decide (0 ≤ r) = false) ∧ w' = w := by
  go_enter Tryz.func135, Tryz.ntmps135
  go_wp2
  refine wp_loop_rounds 1 ?_; rw [rounds_succ]
  go_wp2
  go_ret
  exact ⟨⟨-1, rfl, rfl⟩, rfl⟩

theorem cmdContainsFunc_c (a1 : Option Addr) (n1 c1 : Nat) (l1 : List Int) (w : World) (h1 : Ints w a1 n1 c1 l1) :
    Calls Tryz.prog 105 #[.slice a1 n1 c1, .func (Fn.func 106) #[] #[]] w
      fun e w' => e = .returned (.bool (l1.any (outB 0 999))) ∧ w' = w := by
  have hI : Calls Tryz.prog 135 #[.slice a1 n1 c1, .func (Fn.func 106) #[] #[]] w
      fun e w' => (∃ r, e = .returned (.int .i64 r) ∧ decide (0 ≤ r) = l1.any (outB 0 999)) ∧ w' = w := by
    obtain ⟨hl1, hc1, hm1, hn1, hr1, hw1⟩ := h1
    rcases hr1 with h0 | ⟨b1, o1, rfl, _, hr1⟩
    · subst h0
      rw [List.length_eq_zero_iff] at hl1
      subst hl1
      exact cmdIndexFunc_none a1 c1 w
    · exact cmdIndexFunc_some b1 o1 n1 c1 l1 w hl1 (by omega) hr1
  have HI := hide hI
  clear hI
  go_enter Tryz.func105, Tryz.ntmps105
  go_wp2_with fail
  refine HI.out.mono ?_
  rintro e w' ⟨⟨r, rfl, hr⟩, rfl⟩
  have HR := hide hr
  clear hr
  go_wp2
  go_ret
  exact ⟨ret_bool HR.out, rfl⟩

/-- What 'fits' answers. -/
def fitsC (z t n : Int) (d : List Int) (hz ha hn hd : Bool) : Bool := !((z != 0 && !hz) || (t != 0 && !ha) || (n != 0 && !hn)) && (hd == decide (d ≠ []))

set_option maxRecDepth 100000 in
set_option maxHeartbeats 4000000 in
theorem cmdFits_c (a : Option Addr) (m c : Nat) (k z n t : Int) (d : List Int) (hz ha hn hd : Bool) (w : World) (h : Ints w a m c d) :
    Calls Tryz.prog 104 #[cmdV a m c ⟨k, z, n, t, d⟩, .agg #[.bool hz, .bool ha, .bool hn, .bool hd]] w fun e w' => e = .returned (.bool (fitsC z t n d hz ha hn hd)) ∧ Below w.heap.size w w' := by
  have hlen := h.len
  have hmax := h.max
  have hle := h.le
  have i0 : ∀ w : World, (Instr.index 116 (.agg #[.int .i64 z, .int .i64 t, .int .i64 n]) (.int .i64 0)).run Tryz.prog w = .ok (.int .i64 z) w := fun w => by kernel_rfl
  have i1 : ∀ w : World, (Instr.index 116 (.agg #[.int .i64 z, .int .i64 t, .int .i64 n]) (.int .i64 1)).run Tryz.prog w = .ok (.int .i64 t) w := fun w => by kernel_rfl
  have i2 : ∀ w : World, (Instr.index 116 (.agg #[.int .i64 z, .int .i64 t, .int .i64 n]) (.int .i64 2)).run Tryz.prog w = .ok (.int .i64 n) w := fun w => by kernel_rfl
  unfold cmdV
  go_enter Tryz.func104, Tryz.ntmps104
  go_wp2_with fail
  refine (singles_c _ _ _ _ _ _ _ _).mono ?_
  rintro e w1 ⟨rfl, hb1⟩
  have bw : Below w.heap.size w w1 := by (repeat (first | exact Below.refl _ _ | assumption | refine Below.drew ?_ | refine below_drewN ?_ _ | refine belowA ?_ _ | refine belowT ?_ (by assumption) | refine Below.setCell ?_ (by first | (simp; done) | (simp; omega)) _))
  have b4 := keepc hb1 (p := ⟨w.heap.size, 4, none⟩) (u := .slice a m c) (by go_simp)
  have c0 := keepc hb1 (p := ⟨w.heap.size + 1, 0, none⟩) (u := .bool hz) (by go_simp)
  have c1 := keepc hb1 (p := ⟨w.heap.size + 1, 1, none⟩) (u := .bool ha) (by go_simp)
  have c2 := keepc hb1 (p := ⟨w.heap.size + 1, 2, none⟩) (u := .bool hn) (by go_simp)
  have c3 := keepc hb1 (p := ⟨w.heap.size + 1, 3, none⟩) (u := .bool hd) (by go_simp)
  clear hb1
  have hd0 : decide (0 < (m : Int)) = decide (d ≠ []) := by
    rw [Bool.eq_iff_iff]
    simp
    rw [← hlen, List.length_pos_iff]
  have HF : Hid (fitsC z t n d hz ha hn hd = (!((z != 0 && !hz) || (t != 0 && !ha) || (n != 0 && !hn)) && (hd == decide (d ≠ [])))) := hide rfl
  generalize decide (d ≠ []) = dd at hd0 HF
  clear hlen hmax hle h
  go_wp2
  go_loop [9] (fun x => ∃ i : Nat, i ≤ 3 ∧ x = .int .i64 i ∧ ((0 < i → (z != 0 && !hz) = false) ∧ (1 < i → (t != 0 && !ha) = false) ∧ (2 < i → (n != 0 && !hn) = false))) (fun x => 3 - (intOf x).toNat)
  case atStart => exact ⟨0, by omega, rfl, ⟨by omega, by omega, by omega⟩⟩
  case round =>
    obtain ⟨i, hi, rfl, hno⟩ := hrel
    have HNO := hide hno
    clear hno
    rcases (by omega : i = 0 ∨ i = 1 ∨ i = 2 ∨ i = 3) with rfl | rfl | rfl | rfl
    · cases hq : z != 0 <;> cases hz
      all_goals go_wp2
      · exact ⟨⟨1, by omega, by go_num, ⟨fun _ => by simp [hq], by omega, by omega⟩⟩, by simp [intOf]⟩
      · exact ⟨⟨1, by omega, by go_num, ⟨fun _ => by simp [hq], by omega, by omega⟩⟩, by simp [intOf]⟩
      · go_ret
        exact ⟨ret_bool (by rw [HF.out, hq]; simp), bw⟩
      · exact ⟨⟨1, by omega, by go_num, ⟨fun _ => by simp [hq], by omega, by omega⟩⟩, by simp [intOf]⟩
    · cases hq : t != 0 <;> cases ha
      all_goals go_wp2
      · exact ⟨⟨2, by omega, by go_num, ⟨fun _ => HNO.out.1 (by omega), fun _ => by simp [hq], by omega⟩⟩, by simp [intOf]⟩
      · exact ⟨⟨2, by omega, by go_num, ⟨fun _ => HNO.out.1 (by omega), fun _ => by simp [hq], by omega⟩⟩, by simp [intOf]⟩
      · go_ret
        exact ⟨ret_bool (by rw [HF.out, hq]; simp), bw⟩
      · exact ⟨⟨2, by omega, by go_num, ⟨fun _ => HNO.out.1 (by omega), fun _ => by simp [hq], by omega⟩⟩, by simp [intOf]⟩
    · cases hq : n != 0 <;> cases hn
      all_goals go_wp2
      · exact ⟨⟨3, by omega, by go_num, ⟨fun _ => HNO.out.1 (by omega), fun _ => HNO.out.2.1 (by omega), fun _ => by simp [hq]⟩⟩, by simp [intOf]⟩
      · exact ⟨⟨3, by omega, by go_num, ⟨fun _ => HNO.out.1 (by omega), fun _ => HNO.out.2.1 (by omega), fun _ => by simp [hq]⟩⟩, by simp [intOf]⟩
      · go_ret
        exact ⟨ret_bool (by rw [HF.out, hq]; simp), bw⟩
      · exact ⟨⟨3, by omega, by go_num, ⟨fun _ => HNO.out.1 (by omega), fun _ => HNO.out.2.1 (by omega), fun _ => by simp [hq]⟩⟩, by simp [intOf]⟩
    · go_wp2
      go_ret
      refine ⟨ret_bool ?_, bw⟩
      rw [HF.out, HNO.out.1 (by omega), HNO.out.2.1 (by omega), HNO.out.2.2 (by omega)]
      have hm : decide (0 < m) = dd := by simpa using hd0
      rw [hm]
      simp

theorem eqArr (a b c x y z : Int) (w : World) : (Op.equalIn 10000 116 (.agg #[.int .i64 a, .int .i64 b, .int .i64 c]) (.agg #[.int .i64 x, .int .i64 y, .int .i64 z])).run Tryz.prog w = .ok (a == x && (b == y && c == z)) w := by
  have u3 := Tryz.underlying3
  have a3 := Tryz.isAgg3
  have z3 := Tryz.sizeOf3
  rw [show (10000 : Nat) = 9999 + 1 from rfl, Op.equalIn]
  simp only [Sem.run_bind, run_underlying Tryz.underlying116, Result.andThen_ok]
  simp only [Std.Legacy.Range.forIn_eq_forIn_range', Std.Legacy.Range.size, Nat.sub_zero, Nat.add_sub_cancel, Nat.div_one, List.range'_succ, List.range'_zero, List.forIn_cons, List.forIn_nil]
  go_simp
  by_cases h1 : a = x <;> by_cases h2 : b = y <;> by_cases h3 : c = z <;> simp [h1, h2, h3]

set_option maxRecDepth 100000 in
set_option maxHeartbeats 4000000 in
theorem cmdSame_c (a1 a2 : Option Addr) (n1 n2 c1 c2 : Nat) (b1 b2 : PC) (w : World) (h1 : Ints w a1 n1 c1 b1.d) (h2 : Ints w a2 n2 c2 b2.d) :
    Calls Tryz.prog 51 #[cmdV a1 n1 c1 b1, cmdV a2 n2 c2 b2] w fun e w' => e = .returned (.bool (sameC b1 b2)) ∧ Below w.heap.size w w' := by
  obtain ⟨k1, z1, m1, t1, d1⟩ := b1
  obtain ⟨k2, z2, m2, t2, d2⟩ := b2
  dsimp only at *
  unfold cmdV at *
  have HS : Hid (sameC ⟨k1, z1, m1, t1, d1⟩ ⟨k2, z2, m2, t2, d2⟩ = (k1 == k2 && (z1 == z2 && (t1 == t2 && m1 == m2)) && decide (d1 = d2))) := hide (by
    rw [Bool.eq_iff_iff]
    simp [sameC, and_assoc])
  have HE : Hid (∀ w' : World, (Op.equalIn 10000 116 (.agg #[.int .i64 z1, .int .i64 t1, .int .i64 m1]) (.agg #[.int .i64 z2, .int .i64 t2, .int .i64 m2])).run Tryz.prog w' = .ok (z1 == z2 && (t1 == t2 && m1 == m2)) w') := hide (fun w' => eqArr z1 t1 m1 z2 t2 m2 w')
  generalize (z1 == z2 && (t1 == t2 && m1 == m2)) = ee at HS HE
  go_enter Tryz.func51, Tryz.ntmps51
  have he := HE.out
  cases e1 : k1 == k2
  · go_wp2
    go_quiet (fail)
    go_wp2
    go_ret
    exact ⟨ret_bool (by rw [HS.out, e1]; rfl), by (repeat (first | exact Below.refl _ _ | assumption | refine Below.drew ?_ | refine below_drewN ?_ _ | refine belowA ?_ _ | refine belowT ?_ (by assumption) | refine Below.setCell ?_ (by first | (simp; done) | (simp; omega)) _))⟩
  · cases ee
    · go_wp2
      first
        | (go_region_with (first | (go_at_call 76; refine (singles_c _ _ _ _ _ _ _ _).mono ?_; rintro e w9 ⟨rfl, hb9⟩; (have f0 := keepc hb9 (p := ⟨w.heap.size, 0, none⟩) (u := .int .i64 k1) (by (first | (go_simp; done) | (simp [*, World.cell?_alloc_at, World.cell?_alloc_past, World.cell?_alloc_some, World.cell?_setCell_far]; done)))); (have f1 := keepc hb9 (p := ⟨w.heap.size, 1, none⟩) (u := .int .i64 z1) (by (first | (go_simp; done) | (simp [*, World.cell?_alloc_at, World.cell?_alloc_past, World.cell?_alloc_some, World.cell?_setCell_far]; done)))); (have f2 := keepc hb9 (p := ⟨w.heap.size, 2, none⟩) (u := .int .i64 m1) (by (first | (go_simp; done) | (simp [*, World.cell?_alloc_at, World.cell?_alloc_past, World.cell?_alloc_some, World.cell?_setCell_far]; done)))); (have f3 := keepc hb9 (p := ⟨w.heap.size, 3, none⟩) (u := .int .i64 t1) (by (first | (go_simp; done) | (simp [*, World.cell?_alloc_at, World.cell?_alloc_past, World.cell?_alloc_some, World.cell?_setCell_far]; done)))); (have f4 := keepc hb9 (p := ⟨w.heap.size, 4, none⟩) (u := .slice a1 n1 c1) (by (first | (go_simp; done) | (simp [*, World.cell?_alloc_at, World.cell?_alloc_past, World.cell?_alloc_some, World.cell?_setCell_far]; done)))); (have f5 := keepc hb9 (p := ⟨w.heap.size + 1, 0, none⟩) (u := .int .i64 k2) (by (first | (go_simp; done) | (simp [*, World.cell?_alloc_at, World.cell?_alloc_past, World.cell?_alloc_some, World.cell?_setCell_far]; done)))); (have f6 := keepc hb9 (p := ⟨w.heap.size + 1, 1, none⟩) (u := .int .i64 z2) (by (first | (go_simp; done) | (simp [*, World.cell?_alloc_at, World.cell?_alloc_past, World.cell?_alloc_some, World.cell?_setCell_far]; done)))); (have f7 := keepc hb9 (p := ⟨w.heap.size + 1, 2, none⟩) (u := .int .i64 m2) (by (first | (go_simp; done) | (simp [*, World.cell?_alloc_at, World.cell?_alloc_past, World.cell?_alloc_some, World.cell?_setCell_far]; done)))); (have f8 := keepc hb9 (p := ⟨w.heap.size + 1, 3, none⟩) (u := .int .i64 t2) (by (first | (go_simp; done) | (simp [*, World.cell?_alloc_at, World.cell?_alloc_past, World.cell?_alloc_some, World.cell?_setCell_far]; done)))); (have f9 := keepc hb9 (p := ⟨w.heap.size + 1, 4, none⟩) (u := .slice a2 n2 c2) (by (first | (go_simp; done) | (simp [*, World.cell?_alloc_at, World.cell?_alloc_past, World.cell?_alloc_some, World.cell?_setCell_far]; done)))))))
        | fail
      all_goals go_wp2
      all_goals go_ret
      all_goals exact ⟨ret_bool (by rw [HS.out, e1]; rfl), by (repeat (first | exact Below.refl _ _ | assumption | refine Below.drew ?_ | refine below_drewN ?_ _ | refine belowA ?_ _ | refine belowT ?_ (by assumption) | refine Below.setCell ?_ (by first | (simp; done) | (simp; omega)) _))⟩
    · go_wp2
      go_region_held3 (fun w' => w'.cell? ⟨w.heap.size, 0, none⟩ = some (.int .i64 k1) ∧ w'.cell? ⟨w.heap.size, 1, none⟩ = some (.int .i64 z1) ∧ w'.cell? ⟨w.heap.size, 2, none⟩ = some (.int .i64 m1) ∧ w'.cell? ⟨w.heap.size, 3, none⟩ = some (.int .i64 t1) ∧ w'.cell? ⟨w.heap.size, 4, none⟩ = some (.slice a1 n1 c1) ∧ w'.cell? ⟨w.heap.size + 1, 0, none⟩ = some (.int .i64 k2) ∧ w'.cell? ⟨w.heap.size + 1, 1, none⟩ = some (.int .i64 z2) ∧ w'.cell? ⟨w.heap.size + 1, 2, none⟩ = some (.int .i64 m2) ∧ w'.cell? ⟨w.heap.size + 1, 3, none⟩ = some (.int .i64 t2) ∧ w'.cell? ⟨w.heap.size + 1, 4, none⟩ = some (.slice a2 n2 c2)) ((first | (go_simp; done) | (simp [*, World.cell?_alloc_at, World.cell?_alloc_past, World.cell?_alloc_some, World.cell?_setCell_far]; done))) (first | (go_at_call 76; refine (singles_c _ _ _ _ _ _ _ _).mono ?_; rintro e w9 ⟨rfl, hb9⟩; (have f0 := keepc hb9 (p := ⟨w.heap.size, 0, none⟩) (u := .int .i64 k1) (by (first | (go_simp; done) | (simp [*, World.cell?_alloc_at, World.cell?_alloc_past, World.cell?_alloc_some, World.cell?_setCell_far]; done)))); (have f1 := keepc hb9 (p := ⟨w.heap.size, 1, none⟩) (u := .int .i64 z1) (by (first | (go_simp; done) | (simp [*, World.cell?_alloc_at, World.cell?_alloc_past, World.cell?_alloc_some, World.cell?_setCell_far]; done)))); (have f2 := keepc hb9 (p := ⟨w.heap.size, 2, none⟩) (u := .int .i64 m1) (by (first | (go_simp; done) | (simp [*, World.cell?_alloc_at, World.cell?_alloc_past, World.cell?_alloc_some, World.cell?_setCell_far]; done)))); (have f3 := keepc hb9 (p := ⟨w.heap.size, 3, none⟩) (u := .int .i64 t1) (by (first | (go_simp; done) | (simp [*, World.cell?_alloc_at, World.cell?_alloc_past, World.cell?_alloc_some, World.cell?_setCell_far]; done)))); (have f4 := keepc hb9 (p := ⟨w.heap.size, 4, none⟩) (u := .slice a1 n1 c1) (by (first | (go_simp; done) | (simp [*, World.cell?_alloc_at, World.cell?_alloc_past, World.cell?_alloc_some, World.cell?_setCell_far]; done)))); (have f5 := keepc hb9 (p := ⟨w.heap.size + 1, 0, none⟩) (u := .int .i64 k2) (by (first | (go_simp; done) | (simp [*, World.cell?_alloc_at, World.cell?_alloc_past, World.cell?_alloc_some, World.cell?_setCell_far]; done)))); (have f6 := keepc hb9 (p := ⟨w.heap.size + 1, 1, none⟩) (u := .int .i64 z2) (by (first | (go_simp; done) | (simp [*, World.cell?_alloc_at, World.cell?_alloc_past, World.cell?_alloc_some, World.cell?_setCell_far]; done)))); (have f7 := keepc hb9 (p := ⟨w.heap.size + 1, 2, none⟩) (u := .int .i64 m2) (by (first | (go_simp; done) | (simp [*, World.cell?_alloc_at, World.cell?_alloc_past, World.cell?_alloc_some, World.cell?_setCell_far]; done)))); (have f8 := keepc hb9 (p := ⟨w.heap.size + 1, 3, none⟩) (u := .int .i64 t2) (by (first | (go_simp; done) | (simp [*, World.cell?_alloc_at, World.cell?_alloc_past, World.cell?_alloc_some, World.cell?_setCell_far]; done)))); (have f9 := keepc hb9 (p := ⟨w.heap.size + 1, 4, none⟩) (u := .slice a2 n2 c2) (by (first | (go_simp; done) | (simp [*, World.cell?_alloc_at, World.cell?_alloc_past, World.cell?_alloc_some, World.cell?_setCell_far]; done))))) | (go_at_call 44; refine (Equal_c a1 a2 n1 n2 c1 c2 d1 d2 _ (by refine Ints.below h1 (B := w.heap.size) ?_ (Nat.le_refl _); (repeat (first | exact Below.refl _ _ | assumption | refine Below.drew ?_ | refine below_drewN ?_ _ | refine belowA ?_ _ | refine belowT ?_ (by assumption) | refine Below.setCell ?_ (by first | (simp; done) | (simp; omega)) _))) (by refine Ints.below h2 (B := w.heap.size) ?_ (Nat.le_refl _); (repeat (first | exact Below.refl _ _ | assumption | refine Below.drew ?_ | refine below_drewN ?_ _ | refine belowA ?_ _ | refine belowT ?_ (by assumption) | refine Below.setCell ?_ (by first | (simp; done) | (simp; omega)) _)))).mono ?_; rintro e w' ⟨rfl, q, rfl⟩))
      go_wp2
      go_ret
      exact ⟨ret_bool (by rw [HS.out, e1]; rfl), by (repeat (first | exact Below.refl _ _ | assumption | refine Below.drew ?_ | refine below_drewN ?_ _ | refine belowA ?_ _ | refine belowT ?_ (by assumption) | refine Below.setCell ?_ (by first | (simp; done) | (simp; omega)) _))⟩

end Go.Proofs.YtenmamcaldabdaaGreatDoor
