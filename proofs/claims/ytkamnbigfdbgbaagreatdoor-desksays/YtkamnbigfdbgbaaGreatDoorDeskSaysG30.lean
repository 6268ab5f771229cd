/-
  DERIVED: THE SHELF's CONTRACTS AT THIS DUMP, IN PLAIN WORDS (tools/lay-plain.mjs out of 'TryzShelf.lean', which tools/lay-shelf.mjs wrote): THE SAME DECLARATIONS UNDER THE SAME NAMES: 'import', 'namespace', 'open', 'def', 'theorem' AND NOTHING ELSE: no command of the shelf's: FOR A HAND-IN. Each laying: the table of numbers ('.._ren') and one theorem, a field a fact of the dump's own or the kernel's comparison; each contract: ONE APPLICATION.
-/
import Derived.Shelf.Strings.Search1
import Derived.Shelf.Strings.Search2
import Derived.Shelf.Strings.Search3
import Derived.Shelf.LaysM
import Derived.Shelf.Strings.Shaped
import Derived.Shelf.Slices.Turned
import Derived.Shelf.Slices.Equal
import Derived.Ground.Names2Prog
import Derived.Shelf.Slices.Clone
import Derived.Shelf.Slices.Empties2
import Derived.Ground.SlgnProg
import Derived.Shelf.SlicesE.Clone
import Derived.Test.YtkamnbigfdbgbaaGreatDoorProg
import Derived.Test.YtkamnbigfdbgbaaGreatDoorDeskSaysG2
import Derived.Test.YtkamnbigfdbgbaaGreatDoorDeskSaysG17
import Derived.Deep.Light
import Derived.BigQuiet
namespace Go.Proofs
open Go.Shelf
def Tryz.lays144_ren : Go.Shelf.Ren := ⟨fun | 144 => 36 | 143 => 59 | 219 => 84 | 217 => 105 | 225 => 106 | 224 => 107 | 267 => 108 | 266 => 118 | 314 => 119 | n => n, fun | 9 => 9 | 4 => 4 | 3 => 3 | 5 => 5 | 46 => 128 | 146 => 139 | 51 => 138 | n => n, fun | 1 => 1 | n => n⟩
theorem Tryz.lays144 : Go.Proofs.Lays.n144 Tryz.prog Tryz.lays144_ren := {
  mixed := by kernel_rfl
  f143 := Tryz.func59.trans (congrArg some (by kernel_rfl))
  f144 := Tryz.func36.trans (congrArg some (by kernel_rfl))
  f217 := Tryz.func105.trans (congrArg some (by kernel_rfl))
  f219 := Tryz.func84.trans (congrArg some (by kernel_rfl))
  f224 := Tryz.func107.trans (congrArg some (by kernel_rfl))
  f225 := Tryz.func106.trans (congrArg some (by kernel_rfl))
  f266 := Tryz.func118.trans (congrArg some (by kernel_rfl))
  f267 := Tryz.func108.trans (congrArg some (by kernel_rfl))
  f314 := Tryz.func119.trans (congrArg some (by kernel_rfl))
  t3 := Tryz.underlying3
  a3 := Tryz.isAgg3
  z3 := Tryz.sizeOf3
  v3 := Tryz.zeroValue3
  t4 := Tryz.underlying4
  a4 := Tryz.isAgg4
  z4 := Tryz.sizeOf4
  v4 := Tryz.zeroValue4
  t5 := Tryz.underlying5
  a5 := Tryz.isAgg5
  z5 := Tryz.sizeOf5
  v5 := Tryz.zeroValue5
  t9 := Tryz.underlying9
  a9 := Tryz.isAgg9
  z9 := Tryz.sizeOf9
  v9 := Tryz.zeroValue9
  t46 := Tryz.underlying128
  a46 := Tryz.isAgg128
  z46 := Tryz.sizeOf128
  v46 := Tryz.zeroValue128
  t51 := Tryz.underlying138
  a51 := Tryz.isAgg138
  z51 := Tryz.sizeOf138
  v51 := Tryz.zeroValue138
  t146 := Tryz.underlying139
  a146 := Tryz.isAgg139
  z146 := Tryz.sizeOf139
  v146 := Tryz.zeroValue139
  g1 := by kernel_rfl }
open Go.RowKit Go.Lib in
/-- strings.Contains: "Contains reports whether substr is within s.": AT A substr OF ONE BYTE c: IT RETURNS 'decide (0 ≤ Lib.indexByte s c)'; the world is as it was. (LAID: no walk: one application.) -/
theorem Tryz.strings_Contains_one (s : ByteArray) (c : UInt8) (w : World) :
    Calls Tryz.prog 36 #[.string s, .string ⟨#[c]⟩] w fun e w' => e = .returned (.bool (decide (0 ≤ Lib.indexByte s.data.toList c))) ∧ w' = w := Any.strings_Contains_one Tryz.lays144 s c w
end Go.Proofs

/- The contracts of the document's own answers on commands: has, SameCmd, CheckCmd; no condition but that the data reads as a list. -/
namespace Go.Proofs.YtkamnbigfdbgbaaGreatDoor
open Go.RowKit
set_option linter.unusedVariables false
set_option maxRecDepth 100000
set_option linter.unusedSimpArgs false

/-- What a kind of command has, by letters. -/
def hasS (k : Nat) : ByteArray := match k with
  | 1 | 2 | 3 | 4 => ⟨#[122]⟩
  | 5 => ⟨#[122, 100]⟩
  | 6 => ⟨#[122, 97, 100]⟩
  | 7 => ⟨#[122, 97, 110]⟩
  | 8 | 9 | 11 => ⟨#[110]⟩
  | _ => ⟨#[]⟩

set_option maxHeartbeats 1000000 in
theorem has_c (k : Nat) (w : World) (hk : k ≤ 12) : Calls Tryz.prog 35 #[.int .i64 k] w fun e w' => e = .returned (.string (hasS k)) ∧ Below w.heap.size w w' := by
  rcases (by omega : k = 0 ∨ k = 1 ∨ k = 2 ∨ k = 3 ∨ k = 4 ∨ k = 5 ∨ k = 6 ∨ k = 7 ∨ k = 8 ∨ k = 9 ∨ k = 10 ∨ k = 11 ∨ k = 12) with rfl | rfl | rfl | rfl | rfl | rfl | rfl | rfl | rfl | rfl | rfl | rfl | rfl
  all_goals
    go_enter Tryz.func35, Tryz.ntmps35
    go_wp2
    go_ret
    exact ⟨rfl, by (repeat first | exact bel0 | assumption | refine bel1 ?_ | refine bel2 ?_ | refine bel3 ?_ | refine belowT ?_ (by assumption) | refine bel5 ?_ (by simp; try omega))⟩

theorem hasS_z (k : Nat) (hk : k ≤ 12) : decide (0 ≤ Lib.indexByte (hasS k).data.toList 122) = hasZ k := by
  rcases (by omega : k = 0 ∨ k = 1 ∨ k = 2 ∨ k = 3 ∨ k = 4 ∨ k = 5 ∨ k = 6 ∨ k = 7 ∨ k = 8 ∨ k = 9 ∨ k = 10 ∨ k = 11 ∨ k = 12) with rfl | rfl | rfl | rfl | rfl | rfl | rfl | rfl | rfl | rfl | rfl | rfl | rfl <;> decide
theorem hasS_a (k : Nat) (hk : k ≤ 12) : decide (0 ≤ Lib.indexByte (hasS k).data.toList 97) = hasA k := by
  rcases (by omega : k = 0 ∨ k = 1 ∨ k = 2 ∨ k = 3 ∨ k = 4 ∨ k = 5 ∨ k = 6 ∨ k = 7 ∨ k = 8 ∨ k = 9 ∨ k = 10 ∨ k = 11 ∨ k = 12) with rfl | rfl | rfl | rfl | rfl | rfl | rfl | rfl | rfl | rfl | rfl | rfl | rfl <;> decide
theorem hasS_n (k : Nat) (hk : k ≤ 12) : decide (0 ≤ Lib.indexByte (hasS k).data.toList 110) = hasN k := by
  rcases (by omega : k = 0 ∨ k = 1 ∨ k = 2 ∨ k = 3 ∨ k = 4 ∨ k = 5 ∨ k = 6 ∨ k = 7 ∨ k = 8 ∨ k = 9 ∨ k = 10 ∨ k = 11 ∨ k = 12) with rfl | rfl | rfl | rfl | rfl | rfl | rfl | rfl | rfl | rfl | rfl | rfl | rfl <;> decide
theorem hasS_d (k : Nat) (hk : k ≤ 12) : decide (0 ≤ Lib.indexByte (hasS k).data.toList 100) = hasD k := by
  rcases (by omega : k = 0 ∨ k = 1 ∨ k = 2 ∨ k = 3 ∨ k = 4 ∨ k = 5 ∨ k = 6 ∨ k = 7 ∨ k = 8 ∨ k = 9 ∨ k = 10 ∨ k = 11 ∨ k = 12) with rfl | rfl | rfl | rfl | rfl | rfl | rfl | rfl | rfl | rfl | rfl | rfl | rfl <;> decide

end Go.Proofs.YtkamnbigfdbgbaaGreatDoor

/- The contract of the document's own CheckCmd; no condition but that the data reads as a list. -/
namespace Go.Proofs.YtkamnbigfdbgbaaGreatDoor
open Go.RowKit
set_option linter.unusedVariables false
set_option maxRecDepth 100000
set_option linter.unusedSimpArgs false

set_option maxRecDepth 100000 in
set_option maxHeartbeats 4000000 in
theorem CheckCmd_k (a : Option Addr) (m c : Nat) (k : Nat) (z n t : Int) (d : List Int) (w : World) (h : Ints w a m c d) (hk1 : 1 ≤ k) (hk2 : k ≤ 12) :
    Calls Tryz.prog 14 #[cmdV a m c ⟨k, z, n, t, d⟩] w fun e w' => e = .returned (.int .i64 (checkC ⟨k, z, n, t, d⟩)) ∧ Below w.heap.size w w' := by
  have hin : inB (k : Int) 1 12 = true := by simp [inB]; omega
  have hlen := h.len
  have hmax := h.max
  have hle := h.le
  unfold cmdV
  go_enter Tryz.func14, Tryz.ntmps14
  go_wp2_with (go_at_call 26; refine (in_c _ _ _ _).mono ?_; rintro e w' ⟨rfl, rfl⟩)
  refine (has_c k _ hk2).mono ?_
  rintro e w1 ⟨rfl, hb1⟩
  have b0 := keepc hb1 (p := ⟨w.heap.size, 0, none⟩) (u := .int .i64 k) (by go_simp)
  have b1 := keepc hb1 (p := ⟨w.heap.size, 1, none⟩) (u := .int .i64 z) (by go_simp)
  have b2 := keepc hb1 (p := ⟨w.heap.size, 2, none⟩) (u := .int .i64 n) (by go_simp)
  have b3 := keepc hb1 (p := ⟨w.heap.size, 3, none⟩) (u := .int .i64 t) (by go_simp)
  have b4 := keepc hb1 (p := ⟨w.heap.size, 4, none⟩) (u := .slice a m c) (by go_simp)
  have bw : Below w.heap.size w w1 := by (repeat first | exact bel0 | assumption | refine bel1 ?_ | refine bel2 ?_ | refine bel3 ?_ | refine belowT ?_ (by assumption) | refine bel5 ?_ (by simp; try omega))
  have hz := hasS_z k hk2
  have ha := hasS_a k hk2
  have hn := hasS_n k hk2
  have hd := hasS_d k hk2
  generalize hasS k = hs at *
  have HZ := hide hz
  have HA := hide ha
  have HN := hide hn
  have HD := hide hd
  clear hb1 hz ha hn hd
  go_wp2
  have c0 : (w1.alloc (.cells #[.string ⟨#[122]⟩, .bool (z != 0), .string ⟨#[97]⟩, .bool (t != 0), .string ⟨#[110]⟩, .bool (n != 0)] 59)).heap[w1.heap.size]? = _ := heap_new w1 _
  replace b0 := past1 b0 (.cells #[.string ⟨#[122]⟩, .bool (z != 0), .string ⟨#[97]⟩, .bool (t != 0), .string ⟨#[110]⟩, .bool (n != 0)] 59)
  replace b1 := past1 b1 (.cells #[.string ⟨#[122]⟩, .bool (z != 0), .string ⟨#[97]⟩, .bool (t != 0), .string ⟨#[110]⟩, .bool (n != 0)] 59)
  replace b2 := past1 b2 (.cells #[.string ⟨#[122]⟩, .bool (z != 0), .string ⟨#[97]⟩, .bool (t != 0), .string ⟨#[110]⟩, .bool (n != 0)] 59)
  replace b3 := past1 b3 (.cells #[.string ⟨#[122]⟩, .bool (z != 0), .string ⟨#[97]⟩, .bool (t != 0), .string ⟨#[110]⟩, .bool (n != 0)] 59)
  replace b4 := past1 b4 (.cells #[.string ⟨#[122]⟩, .bool (z != 0), .string ⟨#[97]⟩, .bool (t != 0), .string ⟨#[110]⟩, .bool (n != 0)] 59)
  replace bw := belowA bw (.cells #[.string ⟨#[122]⟩, .bool (z != 0), .string ⟨#[97]⟩, .bool (t != 0), .string ⟨#[110]⟩, .bool (n != 0)] 59)
  generalize w1.alloc (.cells #[.string ⟨#[122]⟩, .bool (z != 0), .string ⟨#[97]⟩, .bool (t != 0), .string ⟨#[110]⟩, .bool (n != 0)] 59) = v1 at *
  generalize w1.heap.size = L at *
  have d0 : v1.cell? ⟨L, 0, none⟩ = some (.string ⟨#[122]⟩) := by rw [cell_of_row _ _ _ _ _ _ c0]; rfl
  have d1 : v1.cell? ⟨L, 1, none⟩ = some (.bool (z != 0)) := by rw [cell_of_row _ _ _ _ _ _ c0]; rfl
  have d2 : v1.cell? ⟨L, 2, none⟩ = some (.string ⟨#[97]⟩) := by rw [cell_of_row _ _ _ _ _ _ c0]; rfl
  have d3 : v1.cell? ⟨L, 3, none⟩ = some (.bool (t != 0)) := by rw [cell_of_row _ _ _ _ _ _ c0]; rfl
  have d4 : v1.cell? ⟨L, 4, none⟩ = some (.string ⟨#[110]⟩) := by rw [cell_of_row _ _ _ _ _ _ c0]; rfl
  have d5 : v1.cell? ⟨L, 5, none⟩ = some (.bool (n != 0)) := by rw [cell_of_row _ _ _ _ _ _ c0]; rfl
  clear c0
  go_loopw [27] (fun x wr => ∃ i : Nat, i ≤ 3 ∧ x = .int .i64 i ∧ ((0 < i → ¬ (z ≠ 0 ∧ hasZ k = false)) ∧ (1 < i → ¬ (t ≠ 0 ∧ hasA k = false)) ∧ (2 < i → ¬ (n ≠ 0 ∧ hasN k = false))) ∧ Below v1.heap.size v1 wr) (fun x _ => 3 - (intOf x).toNat)
  case atStart => exact ⟨0, by omega, rfl, ⟨by omega, by omega, by omega⟩, Below.refl _ _⟩
  case round =>
    obtain ⟨i, hi, rfl, hno, hbr⟩ := hrel
    rename_i wr
    have HNO := hide hno
    clear hno
    rcases (by omega : i = 0 ∨ i = 1 ∨ i = 2 ∨ i = 3) with rfl | rfl | rfl | rfl
    · replace d0 := keepc hbr d0
      replace d1 := keepc hbr d1
      clear d2 d3 d4 d5 b0 b1 b2 b3 b4
      cases hq : z != 0
      · rw [hq] at d1
        go_wp2
        exact ⟨⟨1, by omega, by go_num, ⟨fun _ h => by simp at hq; exact h.1 hq, by omega, by omega⟩, by (repeat first | exact bel0 | assumption | refine bel1 ?_ | refine bel2 ?_ | refine bel3 ?_ | refine belowT ?_ (by assumption) | refine bel5 ?_ (by simp; try omega))⟩, by simp [intOf]⟩
      · rw [hq] at d1
        cases hh : hasZ k
        all_goals
          go_wp2_with (go_at_call 36; refine (Tryz.strings_Contains_one hs 122 _).mono ?_; rintro e w9 ⟨rfl, rfl⟩; rw [HZ.out, hh])
        · go_ret
          refine ⟨ret_int ?_, by (repeat first | exact bel0 | assumption | refine bel1 ?_ | refine bel2 ?_ | refine bel3 ?_ | refine belowT ?_ (by assumption) | refine bel5 ?_ (by simp; try omega))⟩
          have ho : outB 1 12 (k : Int) = false := by rw [inB_outB] at hin; simpa using hin
          simp at hq
          simp [checkC, ho, hq, hh]
        · exact ⟨⟨1, by omega, by go_num, ⟨fun _ h => by simp [hh] at h, by omega, by omega⟩, by (repeat first | exact bel0 | assumption | refine bel1 ?_ | refine bel2 ?_ | refine bel3 ?_ | refine belowT ?_ (by assumption) | refine bel5 ?_ (by simp; try omega))⟩, by simp [intOf]⟩
    · replace d2 := keepc hbr d2
      replace d3 := keepc hbr d3
      clear d0 d1 d4 d5 b0 b1 b2 b3 b4
      cases hq : t != 0
      · rw [hq] at d3
        go_wp2
        exact ⟨⟨2, by omega, by go_num, ⟨fun _ => HNO.out.1 (by omega), fun _ h => by simp at hq; exact h.1 hq, by omega⟩, by (repeat first | exact bel0 | assumption | refine bel1 ?_ | refine bel2 ?_ | refine bel3 ?_ | refine belowT ?_ (by assumption) | refine bel5 ?_ (by simp; try omega))⟩, by simp [intOf]⟩
      · rw [hq] at d3
        cases hh : hasA k
        all_goals
          go_wp2_with (go_at_call 36; refine (Tryz.strings_Contains_one hs 97 _).mono ?_; rintro e w9 ⟨rfl, rfl⟩; rw [HA.out, hh])
        · go_ret
          refine ⟨ret_int ?_, by (repeat first | exact bel0 | assumption | refine bel1 ?_ | refine bel2 ?_ | refine bel3 ?_ | refine belowT ?_ (by assumption) | refine bel5 ?_ (by simp; try omega))⟩
          have ho : outB 1 12 (k : Int) = false := by rw [inB_outB] at hin; simpa using hin
          simp at hq
          simp [checkC, ho, hq, hh]
        · exact ⟨⟨2, by omega, by go_num, ⟨fun _ => HNO.out.1 (by omega), fun _ h => by simp [hh] at h, by omega⟩, by (repeat first | exact bel0 | assumption | refine bel1 ?_ | refine bel2 ?_ | refine bel3 ?_ | refine belowT ?_ (by assumption) | refine bel5 ?_ (by simp; try omega))⟩, by simp [intOf]⟩
    · replace d4 := keepc hbr d4
      replace d5 := keepc hbr d5
      clear d0 d1 d2 d3 b0 b1 b2 b3 b4
      cases hq : n != 0
      · rw [hq] at d5
        go_wp2
        exact ⟨⟨3, by omega, by go_num, ⟨fun _ => HNO.out.1 (by omega), fun _ => HNO.out.2.1 (by omega), fun _ h => by simp at hq; exact h.1 hq⟩, by (repeat first | exact bel0 | assumption | refine bel1 ?_ | refine bel2 ?_ | refine bel3 ?_ | refine belowT ?_ (by assumption) | refine bel5 ?_ (by simp; try omega))⟩, by simp [intOf]⟩
      · rw [hq] at d5
        cases hh : hasN k
        all_goals
          go_wp2_with (go_at_call 36; refine (Tryz.strings_Contains_one hs 110 _).mono ?_; rintro e w9 ⟨rfl, rfl⟩; rw [HN.out, hh])
        · go_ret
          refine ⟨ret_int ?_, by (repeat first | exact bel0 | assumption | refine bel1 ?_ | refine bel2 ?_ | refine bel3 ?_ | refine belowT ?_ (by assumption) | refine bel5 ?_ (by simp; try omega))⟩
          have ho : outB 1 12 (k : Int) = false := by rw [inB_outB] at hin; simpa using hin
          simp at hq
          simp [checkC, ho, hq, hh]
        · exact ⟨⟨3, by omega, by go_num, ⟨fun _ => HNO.out.1 (by omega), fun _ => HNO.out.2.1 (by omega), fun _ h => by simp [hh] at h⟩, by (repeat first | exact bel0 | assumption | refine bel1 ?_ | refine bel2 ?_ | refine bel3 ?_ | refine belowT ?_ (by assumption) | refine bel5 ?_ (by simp; try omega))⟩, by simp [intOf]⟩
    · replace b1 := keepc hbr b1
      replace b2 := keepc hbr b2
      replace b3 := keepc hbr b3
      replace b4 := keepc hbr b4
      have bwr : Below w.heap.size w wr := by (repeat first | exact bel0 | assumption | refine bel1 ?_ | refine bel2 ?_ | refine bel3 ?_ | refine belowT ?_ (by assumption) | refine bel5 ?_ (by simp; try omega))
      have ir := h.below bwr (Nat.le_refl _)
      clear d0 d1 d2 d3 d4 d5 b0 hbr bw
      have hK : checkC ⟨k, z, n, t, d⟩ = if hasD k = decide (d = []) then 4 else if 8 < d.length then 2 else if [z, t, n].any (outB 0 999) || d.any (outB 0 999) then 3 else 0 := by
        have ho : outB 1 12 (k : Int) = false := by rw [inB_outB] at hin; simpa using hin
        have h1 := HNO.out.1 (by omega)
        have h2 := HNO.out.2.1 (by omega)
        have h3 := HNO.out.2.2 (by omega)
        unfold checkC
        dsimp only
        rw [if_neg (by simp [ho]), if_neg (by rintro (e | e | e); exact h1 e; exact h2 e; exact h3 e)]
        simp [or_assoc]
      have HK := hide hK
      have hdm : decide (d = []) = ((m : Int) == 0) := by
        rw [Bool.eq_iff_iff]
        simp
        rw [← hlen, List.length_eq_zero_iff]
      clear hK HNO HZ HA HN
      rw [hdm] at HK
      clear hdm
      go_wp2_with fail
      go_region_held3 (fun w' => w'.cell? ⟨w.heap.size, 4, none⟩ = some (.slice a m c) ∧ w'.cell? ⟨w.heap.size, 1, none⟩ = some (.int .i64 z) ∧ w'.cell? ⟨w.heap.size, 2, none⟩ = some (.int .i64 n) ∧ w'.cell? ⟨w.heap.size, 3, none⟩ = some (.int .i64 t)) ((first | (go_simp; done) | (simp [*, World.cell?_alloc_at, World.cell?_alloc_past, World.cell?_alloc_some, World.cell?_setCell_far]; done))) (first | (go_at_call 36; refine (Tryz.strings_Contains_one hs 100 _).mono ?_; rintro e w9 ⟨rfl, rfl⟩; rw [HD.out]))
      generalize hasD k = hdk at *
      cases hd4 : hdk == ((m : Int) == 0)
      · have hne : ¬ (hdk = ((m : Int) == 0)) := by intro e; rw [e] at hd4; simp at hd4
        by_cases h8 : 8 < m
        · have h8' : (8 : Int) < (m : Int) := by omega
          go_wp2
          go_ret
          exact ⟨ret_int (by rw [HK.out, if_neg hne, hlen, if_pos h8]), by (repeat first | exact bel0 | assumption | refine bel1 ?_ | refine bel2 ?_ | refine bel3 ?_ | refine belowT ?_ (by assumption) | refine bel5 ?_ (by simp; try omega))⟩
        · have h8' : ¬ (8 : Int) < (m : Int) := by omega
          have H3 : ∀ w' g, w'.cell? ⟨g, 0, none⟩ = some (.int .i64 z) → w'.cell? ⟨g, 1, none⟩ = some (.int .i64 t) → w'.cell? ⟨g, 2, none⟩ = some (.int .i64 n) → Calls Tryz.prog 27 #[.slice (some ⟨g, 0, none⟩) 3 3, .int .i64 0, .int .i64 999] w' fun e w2 => e = .returned (.bool (!([z, t, n].any (outB 0 999)))) ∧ w2 = w' := by
            intro w' g g0 g1 g2
            have := all_some g 0 3 3 [z, t, n] 0 999 w' rfl (by decide) (fun i hi => by
              rcases (by omega : i = 0 ∨ i = 1 ∨ i = 2) with rfl | rfl | rfl <;> assumption)
            rw [all_any] at this
            exact this
          have HA2 := hide (fun w' hw' => all_c a m c d 0 999 w' hw')
          generalize [z, t, n].any (outB 0 999) = b3 at HK H3
          have H3' := hide H3
          clear H3
          have b4' := fun o => past1 b4 o
          go_wp2_with fail
          refine (H3'.out _ _ (by go_simp) (by go_simp) (by go_simp)).mono ?_
          rintro e w' ⟨rfl, rfl⟩
          cases b3
          · go_wp2_with fail
            refine (HA2.out _ (by refine Ints.below ir (B := wr.heap.size) ?_ (Nat.le_refl _); (repeat first | exact bel0 | assumption | refine bel1 ?_ | refine bel2 ?_ | refine bel3 ?_ | refine belowT ?_ (by assumption) | refine bel5 ?_ (by simp; try omega)))).mono ?_
            rintro e w' ⟨rfl, rfl⟩
            rw [all_any]
            cases hda : d.any (outB 0 999)
            all_goals
              go_wp2
              go_ret
              exact ⟨ret_int (by rw [HK.out, if_neg hne, hlen, if_neg h8, hda]; rfl), by (repeat first | exact bel0 | assumption | refine bel1 ?_ | refine bel2 ?_ | refine bel3 ?_ | refine belowT ?_ (by assumption) | refine bel5 ?_ (by simp; try omega))⟩
          · go_wp2
            go_ret
            exact ⟨ret_int (by rw [HK.out, if_neg hne, hlen, if_neg h8]; rfl), by (repeat first | exact bel0 | assumption | refine bel1 ?_ | refine bel2 ?_ | refine bel3 ?_ | refine belowT ?_ (by assumption) | refine bel5 ?_ (by simp; try omega))⟩
      · have he : hdk = ((m : Int) == 0) := by simpa using hd4
        go_wp2
        go_ret
        exact ⟨ret_int (by rw [HK.out, if_pos he]), by (repeat first | exact bel0 | assumption | refine bel1 ?_ | refine bel2 ?_ | refine bel3 ?_ | refine belowT ?_ (by assumption) | refine bel5 ?_ (by simp; try omega))⟩

set_option maxRecDepth 100000 in
theorem CheckCmd_c (a : Option Addr) (m c : Nat) (b : PC) (w : World) (h : Ints w a m c b.d) :
    Calls Tryz.prog 14 #[cmdV a m c b] w fun e w' => e = .returned (.int .i64 (checkC b)) ∧ Below w.heap.size w w' := by
  obtain ⟨k, z, n, t, d⟩ := b
  cases hk : outB 1 12 k
  · obtain ⟨i, rfl⟩ : ∃ i : Nat, k = i := ⟨k.toNat, by simp [outB] at hk; omega⟩
    simp [outB] at hk
    exact CheckCmd_k a m c i z n t d w h (by omega) (by omega)
  · have HK : Hid (checkC ⟨k, z, n, t, d⟩ = 4) := hide (by rw [checkC_fits, if_pos hk])
    have hin : inB k 1 12 = false := by rw [inB_outB, hk]; rfl
    clear hk
    unfold cmdV
    go_enter Tryz.func14, Tryz.ntmps14
    go_wp2_with (go_at_call 26; refine (in_c _ _ _ _).mono ?_; rintro e w' ⟨rfl, rfl⟩; rw [hin])
    go_ret
    exact ⟨ret_int HK.out.symm, by (repeat first | exact bel0 | assumption | refine bel1 ?_ | refine bel2 ?_ | refine bel3 ?_ | refine belowT ?_ (by assumption) | refine bel5 ?_ (by simp; try omega))⟩

end Go.Proofs.YtkamnbigfdbgbaaGreatDoor
