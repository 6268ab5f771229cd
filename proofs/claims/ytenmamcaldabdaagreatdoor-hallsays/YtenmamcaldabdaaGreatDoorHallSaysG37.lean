/- The contracts of the document's own answers on commands: has, SameCmd, CheckCmd; no condition but that the data reads as a list. -/
import Derived.Test.YtenmamcaldabdaaGreatDoorHallSaysG2
import Derived.Test.YtenmamcaldabdaaGreatDoorHallSaysG36
import Derived.Test.YtenmamcaldabdaaGreatDoorHallSaysG9
import Derived.Deep.Light
import Derived.BigQuiet
namespace Go.Proofs.YtenmamcaldabdaaGreatDoor
open Go.RowKit
set_option linter.unusedVariables false
set_option maxRecDepth 100000
set_option linter.unusedSimpArgs false

/-- What a kind of command has, by letters. -/
def hasS (k : Nat) : ByteArray := match k with
  | 1 | 2 | 3 | 4 => ⟨#[122]⟩
  | 5 => ⟨#[122, 100]⟩
  | 6 => ⟨#[122, 97, 100]⟩
  | 7 => ⟨#[122, 97, 110]⟩
  | 8 | 9 | 11 => ⟨#[110]⟩
  | _ => ⟨#[]⟩

set_option maxHeartbeats 1000000 in
theorem has_c (k : Nat) (w : World) (hk : k ≤ 12) : Calls Tryz.prog 82 #[.int .i64 k] w fun e w' => e = .returned (.string (hasS k)) ∧ Below w.heap.size w w' := by
  rcases (by omega : k = 0 ∨ k = 1 ∨ k = 2 ∨ k = 3 ∨ k = 4 ∨ k = 5 ∨ k = 6 ∨ k = 7 ∨ k = 8 ∨ k = 9 ∨ k = 10 ∨ k = 11 ∨ k = 12) with rfl | rfl | rfl | rfl | rfl | rfl | rfl | rfl | rfl | rfl | rfl | rfl | rfl
  all_goals
    go_enter Tryz.func82, Tryz.ntmps82
    go_wp2
    go_ret
    exact ⟨rfl, by (repeat (first | exact Below.refl _ _ | assumption | refine Below.drew ?_ | refine below_drewN ?_ _ | refine belowA ?_ _ | refine belowT ?_ (by assumption) | refine Below.setCell ?_ (by first | (simp; done) | (simp; omega)) _))⟩

theorem hasS_z (k : Nat) (hk : k ≤ 12) : decide (0 ≤ Lib.indexByte (hasS k).data.toList 122) = hasZ k := by
  rcases (by omega : k = 0 ∨ k = 1 ∨ k = 2 ∨ k = 3 ∨ k = 4 ∨ k = 5 ∨ k = 6 ∨ k = 7 ∨ k = 8 ∨ k = 9 ∨ k = 10 ∨ k = 11 ∨ k = 12) with rfl | rfl | rfl | rfl | rfl | rfl | rfl | rfl | rfl | rfl | rfl | rfl | rfl <;> decide
theorem hasS_a (k : Nat) (hk : k ≤ 12) : decide (0 ≤ Lib.indexByte (hasS k).data.toList 97) = hasA k := by
  rcases (by omega : k = 0 ∨ k = 1 ∨ k = 2 ∨ k = 3 ∨ k = 4 ∨ k = 5 ∨ k = 6 ∨ k = 7 ∨ k = 8 ∨ k = 9 ∨ k = 10 ∨ k = 11 ∨ k = 12) with rfl | rfl | rfl | rfl | rfl | rfl | rfl | rfl | rfl | rfl | rfl | rfl | rfl <;> decide
theorem hasS_n (k : Nat) (hk : k ≤ 12) : decide (0 ≤ Lib.indexByte (hasS k).data.toList 110) = hasN k := by
  rcases (by omega : k = 0 ∨ k = 1 ∨ k = 2 ∨ k = 3 ∨ k = 4 ∨ k = 5 ∨ k = 6 ∨ k = 7 ∨ k = 8 ∨ k = 9 ∨ k = 10 ∨ k = 11 ∨ k = 12) with rfl | rfl | rfl | rfl | rfl | rfl | rfl | rfl | rfl | rfl | rfl | rfl | rfl <;> decide
theorem hasS_d (k : Nat) (hk : k ≤ 12) : decide (0 ≤ Lib.indexByte (hasS k).data.toList 100) = hasD k := by
  rcases (by omega : k = 0 ∨ k = 1 ∨ k = 2 ∨ k = 3 ∨ k = 4 ∨ k = 5 ∨ k = 6 ∨ k = 7 ∨ k = 8 ∨ k = 9 ∨ k = 10 ∨ k = 11 ∨ k = 12) with rfl | rfl | rfl | rfl | rfl | rfl | rfl | rfl | rfl | rfl | rfl | rfl | rfl <;> decide

end Go.Proofs.YtenmamcaldabdaaGreatDoor

/- The contract of the document's own CheckCmd; no condition but that the data reads as a list. -/
namespace Go.Proofs.YtenmamcaldabdaaGreatDoor
open Go.RowKit
set_option linter.unusedVariables false
set_option maxRecDepth 100000
set_option linter.unusedSimpArgs false

set_option maxRecDepth 100000 in
set_option maxHeartbeats 4000000 in
theorem CheckCmd_k (a : Option Addr) (m c : Nat) (k : Nat) (z n t : Int) (d : List Int) (w : World) (h : Ints w a m c d) (hk1 : 1 ≤ k) (hk2 : k ≤ 12) :
    Calls Tryz.prog 56 #[cmdV a m c ⟨k, z, n, t, d⟩] w fun e w' => e = .returned (.int .i64 (checkC ⟨k, z, n, t, d⟩)) ∧ Below w.heap.size w w' := by
  have hin : inB (k : Int) 1 12 = true := by simp [inB]; omega
  have hlen := h.len
  have hmax := h.max
  have hle := h.le
  unfold cmdV
  go_enter Tryz.func56, Tryz.ntmps56
  go_wp2_with (go_at_call 34; refine (in_c _ _ _ _).mono ?_; rintro e w' ⟨rfl, rfl⟩)
  refine (has_c k _ hk2).mono ?_
  rintro e w1 ⟨rfl, hb1⟩
  have b0 := keepc hb1 (p := ⟨w.heap.size, 0, none⟩) (u := .int .i64 k) (by go_simp)
  have b1 := keepc hb1 (p := ⟨w.heap.size, 1, none⟩) (u := .int .i64 z) (by go_simp)
  have b2 := keepc hb1 (p := ⟨w.heap.size, 2, none⟩) (u := .int .i64 n) (by go_simp)
  have b3 := keepc hb1 (p := ⟨w.heap.size, 3, none⟩) (u := .int .i64 t) (by go_simp)
  have b4 := keepc hb1 (p := ⟨w.heap.size, 4, none⟩) (u := .slice a m c) (by go_simp)
  have bw : Below w.heap.size w w1 := by (repeat (first | exact Below.refl _ _ | assumption | refine Below.drew ?_ | refine below_drewN ?_ _ | refine belowA ?_ _ | refine belowT ?_ (by assumption) | refine Below.setCell ?_ (by first | (simp; done) | (simp; omega)) _))
  have hz := hasS_z k hk2
  have ha := hasS_a k hk2
  have hn := hasS_n k hk2
  have hd := hasS_d k hk2
  generalize hasS k = hs at *
  have HZ := hide hz
  have HA := hide ha
  have HN := hide hn
  have HD := hide hd
  clear hb1 hz ha hn hd
  go_wp2
  have c0 : (w1.alloc (.cells #[.string ⟨#[122]⟩, .bool (z != 0), .string ⟨#[97]⟩, .bool (t != 0), .string ⟨#[110]⟩, .bool (n != 0)] 122)).heap[w1.heap.size]? = _ := heap_new w1 _
  replace b0 := past1 b0 (.cells #[.string ⟨#[122]⟩, .bool (z != 0), .string ⟨#[97]⟩, .bool (t != 0), .string ⟨#[110]⟩, .bool (n != 0)] 122)
  replace b1 := past1 b1 (.cells #[.string ⟨#[122]⟩, .bool (z != 0), .string ⟨#[97]⟩, .bool (t != 0), .string ⟨#[110]⟩, .bool (n != 0)] 122)
  replace b2 := past1 b2 (.cells #[.string ⟨#[122]⟩, .bool (z != 0), .string ⟨#[97]⟩, .bool (t != 0), .string ⟨#[110]⟩, .bool (n != 0)] 122)
  replace b3 := past1 b3 (.cells #[.string ⟨#[122]⟩, .bool (z != 0), .string ⟨#[97]⟩, .bool (t != 0), .string ⟨#[110]⟩, .bool (n != 0)] 122)
  replace b4 := past1 b4 (.cells #[.string ⟨#[122]⟩, .bool (z != 0), .string ⟨#[97]⟩, .bool (t != 0), .string ⟨#[110]⟩, .bool (n != 0)] 122)
  replace bw := belowA bw (.cells #[.string ⟨#[122]⟩, .bool (z != 0), .string ⟨#[97]⟩, .bool (t != 0), .string ⟨#[110]⟩, .bool (n != 0)] 122)
  generalize w1.alloc (.cells #[.string ⟨#[122]⟩, .bool (z != 0), .string ⟨#[97]⟩, .bool (t != 0), .string ⟨#[110]⟩, .bool (n != 0)] 122) = v1 at *
  generalize w1.heap.size = L at *
  have d0 : v1.cell? ⟨L, 0, none⟩ = some (.string ⟨#[122]⟩) := by rw [cell_of_row _ _ _ _ _ _ c0]; rfl
  have d1 : v1.cell? ⟨L, 1, none⟩ = some (.bool (z != 0)) := by rw [cell_of_row _ _ _ _ _ _ c0]; rfl
  have d2 : v1.cell? ⟨L, 2, none⟩ = some (.string ⟨#[97]⟩) := by rw [cell_of_row _ _ _ _ _ _ c0]; rfl
  have d3 : v1.cell? ⟨L, 3, none⟩ = some (.bool (t != 0)) := by rw [cell_of_row _ _ _ _ _ _ c0]; rfl
  have d4 : v1.cell? ⟨L, 4, none⟩ = some (.string ⟨#[110]⟩) := by rw [cell_of_row _ _ _ _ _ _ c0]; rfl
  have d5 : v1.cell? ⟨L, 5, none⟩ = some (.bool (n != 0)) := by rw [cell_of_row _ _ _ _ _ _ c0]; rfl
  clear c0
  go_loopw [27] (fun x wr => ∃ i : Nat, i ≤ 3 ∧ x = .int .i64 i ∧ ((0 < i → ¬ (z ≠ 0 ∧ hasZ k = false)) ∧ (1 < i → ¬ (t ≠ 0 ∧ hasA k = false)) ∧ (2 < i → ¬ (n ≠ 0 ∧ hasN k = false))) ∧ Below v1.heap.size v1 wr) (fun x _ => 3 - (intOf x).toNat)
  case atStart => exact ⟨0, by omega, rfl, ⟨by omega, by omega, by omega⟩, Below.refl _ _⟩
  case round =>
    obtain ⟨i, hi, rfl, hno, hbr⟩ := hrel
    rename_i wr
    have HNO := hide hno
    clear hno
    rcases (by omega : i = 0 ∨ i = 1 ∨ i = 2 ∨ i = 3) with rfl | rfl | rfl | rfl
    · replace d0 := keepc hbr d0
      replace d1 := keepc hbr d1
      clear d2 d3 d4 d5 b0 b1 b2 b3 b4
      cases hq : z != 0
      · rw [hq] at d1
        go_wp2
        exact ⟨⟨1, by omega, by go_num, ⟨fun _ h => by simp at hq; exact h.1 hq, by omega, by omega⟩, by (repeat (first | exact Below.refl _ _ | assumption | refine Below.drew ?_ | refine below_drewN ?_ _ | refine belowA ?_ _ | refine belowT ?_ (by assumption) | refine Below.setCell ?_ (by first | (simp; done) | (simp; omega)) _))⟩, by simp [intOf]⟩
      · rw [hq] at d1
        cases hh : hasZ k
        all_goals
          go_wp2_with (go_at_call 83; refine (Tryz.strings_Contains_one hs 122 _).mono ?_; rintro e w9 ⟨rfl, rfl⟩; rw [HZ.out, hh])
        · go_ret
          refine ⟨ret_int ?_, by (repeat (first | exact Below.refl _ _ | assumption | refine Below.drew ?_ | refine below_drewN ?_ _ | refine belowA ?_ _ | refine belowT ?_ (by assumption) | refine Below.setCell ?_ (by first | (simp; done) | (simp; omega)) _))⟩
          have ho : outB 1 12 (k : Int) = false := by rw [inB_outB] at hin; simpa using hin
          simp at hq
          simp [checkC, ho, hq, hh]
        · exact ⟨⟨1, by omega, by go_num, ⟨fun _ h => by simp [hh] at h, by omega, by omega⟩, by (repeat (first | exact Below.refl _ _ | assumption | refine Below.drew ?_ | refine below_drewN ?_ _ | refine belowA ?_ _ | refine belowT ?_ (by assumption) | refine Below.setCell ?_ (by first | (simp; done) | (simp; omega)) _))⟩, by simp [intOf]⟩
    · replace d2 := keepc hbr d2
      replace d3 := keepc hbr d3
      clear d0 d1 d4 d5 b0 b1 b2 b3 b4
      cases hq : t != 0
      · rw [hq] at d3
        go_wp2
        exact ⟨⟨2, by omega, by go_num, ⟨fun _ => HNO.out.1 (by omega), fun _ h => by simp at hq; exact h.1 hq, by omega⟩, by (repeat (first | exact Below.refl _ _ | assumption | refine Below.drew ?_ | refine below_drewN ?_ _ | refine belowA ?_ _ | refine belowT ?_ (by assumption) | refine Below.setCell ?_ (by first | (simp; done) | (simp; omega)) _))⟩, by simp [intOf]⟩
      · rw [hq] at d3
        cases hh : hasA k
        all_goals
          go_wp2_with (go_at_call 83; refine (Tryz.strings_Contains_one hs 97 _).mono ?_; rintro e w9 ⟨rfl, rfl⟩; rw [HA.out, hh])
        · go_ret
          refine ⟨ret_int ?_, by (repeat (first | exact Below.refl _ _ | assumption | refine Below.drew ?_ | refine below_drewN ?_ _ | refine belowA ?_ _ | refine belowT ?_ (by assumption) | refine Below.setCell ?_ (by first | (simp; done) | (simp; omega)) _))⟩
          have ho : outB 1 12 (k : Int) = false := by rw [inB_outB] at hin; simpa using hin
          simp at hq
          simp [checkC, ho, hq, hh]
        · exact ⟨⟨2, by omega, by go_num, ⟨fun _ => HNO.out.1 (by omega), fun _ h => by simp [hh] at h, by omega⟩, by (repeat (first | exact Below.refl _ _ | assumption | refine Below.drew ?_ | refine below_drewN ?_ _ | refine belowA ?_ _ | refine belowT ?_ (by assumption) | refine Below.setCell ?_ (by first | (simp; done) | (simp; omega)) _))⟩, by simp [intOf]⟩
    · replace d4 := keepc hbr d4
      replace d5 := keepc hbr d5
      clear d0 d1 d2 d3 b0 b1 b2 b3 b4
      cases hq : n != 0
      · rw [hq] at d5
        go_wp2
        exact ⟨⟨3, by omega, by go_num, ⟨fun _ => HNO.out.1 (by omega), fun _ => HNO.out.2.1 (by omega), fun _ h => by simp at hq; exact h.1 hq⟩, by (repeat (first | exact Below.refl _ _ | assumption | refine Below.drew ?_ | refine below_drewN ?_ _ | refine belowA ?_ _ | refine belowT ?_ (by assumption) | refine Below.setCell ?_ (by first | (simp; done) | (simp; omega)) _))⟩, by simp [intOf]⟩
      · rw [hq] at d5
        cases hh : hasN k
        all_goals
          go_wp2_with (go_at_call 83; refine (Tryz.strings_Contains_one hs 110 _).mono ?_; rintro e w9 ⟨rfl, rfl⟩; rw [HN.out, hh])
        · go_ret
          refine ⟨ret_int ?_, by (repeat (first | exact Below.refl _ _ | assumption | refine Below.drew ?_ | refine below_drewN ?_ _ | refine belowA ?_ _ | refine belowT ?_ (by assumption) | refine Below.setCell ?_ (by first | (simp; done) | (simp; omega)) _))⟩
          have ho : outB 1 12 (k : Int) = false := by rw [inB_outB] at hin; simpa using hin
          simp at hq
          simp [checkC, ho, hq, hh]
        · exact ⟨⟨3, by omega, by go_num, ⟨fun _ => HNO.out.1 (by omega), fun _ => HNO.out.2.1 (by omega), fun _ h => by simp [hh] at h⟩, by (repeat (first | exact Below.refl _ _ | assumption | refine Below.drew ?_ | refine below_drewN ?_ _ | refine belowA ?_ _ | refine belowT ?_ (by assumption) | refine Below.setCell ?_ (by first | (simp; done) | (simp; omega)) _))⟩, by simp [intOf]⟩
    · replace b1 := keepc hbr b1
      replace b2 := keepc hbr b2
      replace b3 := keepc hbr b3
      replace b4 := keepc hbr b4
      have bwr : Below w.heap.size w wr := by (repeat (first | exact Below.refl _ _ | assumption | refine Below.drew ?_ | refine below_drewN ?_ _ | refine belowA ?_ _ | refine belowT ?_ (by assumption) | refine Below.setCell ?_ (by first | (simp; done) | (simp; omega)) _))
      have ir := h.below bwr (Nat.le_refl _)
      clear d0 d1 d2 d3 d4 d5 b0 hbr bw
      have hK : checkC ⟨k, z, n, t, d⟩ = if hasD k = decide (d = []) then 4 else if 8 < d.length then 2 else if [z, t, n].any (outB 0 999) || d.any (outB 0 999) then 3 else 0 := by
        have ho : outB 1 12 (k : Int) = false := by rw [inB_outB] at hin; simpa using hin
        have h1 := HNO.out.1 (by omega)
        have h2 := HNO.out.2.1 (by omega)
        have h3 := HNO.out.2.2 (by omega)
        unfold checkC
        dsimp only
        rw [if_neg (by simp [ho]), if_neg (by rintro (e | e | e); exact h1 e; exact h2 e; exact h3 e)]
        simp [or_assoc]
      have HK := hide hK
      have hdm : decide (d = []) = ((m : Int) == 0) := by
        rw [Bool.eq_iff_iff]
        simp
        rw [← hlen, List.length_eq_zero_iff]
      clear hK HNO HZ HA HN
      rw [hdm] at HK
      clear hdm
      go_wp2_with fail
      go_region_held3 (fun w' => w'.cell? ⟨w.heap.size, 4, none⟩ = some (.slice a m c) ∧ w'.cell? ⟨w.heap.size, 1, none⟩ = some (.int .i64 z) ∧ w'.cell? ⟨w.heap.size, 2, none⟩ = some (.int .i64 n) ∧ w'.cell? ⟨w.heap.size, 3, none⟩ = some (.int .i64 t)) ((first | (go_simp; done) | (simp [*, World.cell?_alloc_at, World.cell?_alloc_past, World.cell?_alloc_some, World.cell?_setCell_far]; done))) (first | (go_at_call 83; refine (Tryz.strings_Contains_one hs 100 _).mono ?_; rintro e w9 ⟨rfl, rfl⟩; rw [HD.out]))
      generalize hasD k = hdk at *
      cases hd4 : hdk == ((m : Int) == 0)
      · have hne : ¬ (hdk = ((m : Int) == 0)) := by intro e; rw [e] at hd4; simp at hd4
        by_cases h8 : 8 < m
        · have h8' : (8 : Int) < (m : Int) := by omega
          go_wp2
          go_ret
          exact ⟨ret_int (by rw [HK.out, if_neg hne, hlen, if_pos h8]), by (repeat (first | exact Below.refl _ _ | assumption | refine Below.drew ?_ | refine below_drewN ?_ _ | refine belowA ?_ _ | refine belowT ?_ (by assumption) | refine Below.setCell ?_ (by first | (simp; done) | (simp; omega)) _))⟩
        · have h8' : ¬ (8 : Int) < (m : Int) := by omega
          have H3 : ∀ w' g, w'.cell? ⟨g, 0, none⟩ = some (.int .i64 z) → w'.cell? ⟨g, 1, none⟩ = some (.int .i64 t) → w'.cell? ⟨g, 2, none⟩ = some (.int .i64 n) → Calls Tryz.prog 64 #[.slice (some ⟨g, 0, none⟩) 3 3, .int .i64 0, .int .i64 999] w' fun e w2 => e = .returned (.bool (!([z, t, n].any (outB 0 999)))) ∧ w2 = w' := by
            intro w' g g0 g1 g2
            have := all_some g 0 3 3 [z, t, n] 0 999 w' rfl (by decide) (fun i hi => by
              rcases (by omega : i = 0 ∨ i = 1 ∨ i = 2) with rfl | rfl | rfl <;> assumption)
            rw [all_any] at this
            exact this
          have HA2 := hide (fun w' hw' => all_c a m c d 0 999 w' hw')
          generalize [z, t, n].any (outB 0 999) = b3 at HK H3
          have H3' := hide H3
          clear H3
          have b4' := fun o => past1 b4 o
          go_wp2_with fail
          refine (H3'.out _ _ (by go_simp) (by go_simp) (by go_simp)).mono ?_
          rintro e w' ⟨rfl, rfl⟩
          cases b3
          · go_wp2_with fail
            refine (HA2.out _ (by refine Ints.below ir (B := wr.heap.size) ?_ (Nat.le_refl _); (repeat (first | exact Below.refl _ _ | assumption | refine Below.drew ?_ | refine below_drewN ?_ _ | refine belowA ?_ _ | refine belowT ?_ (by assumption) | refine Below.setCell ?_ (by first | (simp; done) | (simp; omega)) _)))).mono ?_
            rintro e w' ⟨rfl, rfl⟩
            rw [all_any]
            cases hda : d.any (outB 0 999)
            all_goals
              go_wp2
              go_ret
              exact ⟨ret_int (by rw [HK.out, if_neg hne, hlen, if_neg h8, hda]; rfl), by (repeat (first | exact Below.refl _ _ | assumption | refine Below.drew ?_ | refine below_drewN ?_ _ | refine belowA ?_ _ | refine belowT ?_ (by assumption) | refine Below.setCell ?_ (by first | (simp; done) | (simp; omega)) _))⟩
          · go_wp2
            go_ret
            exact ⟨ret_int (by rw [HK.out, if_neg hne, hlen, if_neg h8]; rfl), by (repeat (first | exact Below.refl _ _ | assumption | refine Below.drew ?_ | refine below_drewN ?_ _ | refine belowA ?_ _ | refine belowT ?_ (by assumption) | refine Below.setCell ?_ (by first | (simp; done) | (simp; omega)) _))⟩
      · have he : hdk = ((m : Int) == 0) := by simpa using hd4
        go_wp2
        go_ret
        exact ⟨ret_int (by rw [HK.out, if_pos he]), by (repeat (first | exact Below.refl _ _ | assumption | refine Below.drew ?_ | refine below_drewN ?_ _ | refine belowA ?_ _ | refine belowT ?_ (by assumption) | refine Below.setCell ?_ (by first | (simp; done) | (simp; omega)) _))⟩

set_option maxRecDepth 100000 in
theorem CheckCmd_c (a : Option Addr) (m c : Nat) (b : PC) (w : World) (h : Ints w a m c b.d) :
    Calls Tryz.prog 56 #[cmdV a m c b] w fun e w' => e = .returned (.int .i64 (checkC b)) ∧ Below w.heap.size w w' := by
  obtain ⟨k, z, n, t, d⟩ := b
  cases hk : outB 1 12 k
  · obtain ⟨i, rfl⟩ : ∃ i : Nat, k = i := ⟨k.toNat, by simp [outB] at hk; omega⟩
    simp [outB] at hk
    exact CheckCmd_k a m c i z n t d w h (by omega) (by omega)
  · have HK : Hid (checkC ⟨k, z, n, t, d⟩ = 4) := hide (by rw [checkC_fits, if_pos hk])
    have hin : inB k 1 12 = false := by rw [inB_outB, hk]; rfl
    clear hk
    unfold cmdV
    go_enter Tryz.func56, Tryz.ntmps56
    go_wp2_with (go_at_call 34; refine (in_c _ _ _ _).mono ?_; rintro e w' ⟨rfl, rfl⟩; rw [hin])
    go_ret
    exact ⟨ret_int HK.out.symm, by (repeat (first | exact Below.refl _ _ | assumption | refine Below.drew ?_ | refine below_drewN ?_ _ | refine belowA ?_ _ | refine belowT ?_ (by assumption) | refine Below.setCell ?_ (by first | (simp; done) | (simp; omega)) _))⟩

end Go.Proofs.YtenmamcaldabdaaGreatDoor

/- The contract of the document's own CheckRec; no condition but that the argument reads as data. -/
namespace Go.Proofs.YtenmamcaldabdaaGreatDoor
open Go.RowKit
set_option linter.unusedVariables false
set_option maxRecDepth 100000
set_option linter.unusedSimpArgs false

set_option maxHeartbeats 1000000 in
theorem CheckRec_c (x : RV) (w : World) (h : x.ok w) : Calls Tryz.prog 28 #[x.v] w fun e w' => e = .returned (.int .i64 (checkR x.p)) ∧ Below w.heap.size w w' := by
  obtain ⟨⟨q, s, ⟨k, z, m, t, d⟩⟩, a, n, c⟩ := x
  dsimp only [RV.v, RV.ok] at *
  have HC := hide (fun w' h' => CheckCmd_c a n c ⟨k, z, m, t, d⟩ w' h')
  have HK : Hid (checkR ⟨q, s, ⟨k, z, m, t, d⟩⟩ = if inB q 0 2 = false ∨ inB s 1 40 = false then 3 else checkC ⟨k, z, m, t, d⟩) := hide rfl
  unfold cmdV at HC
  dsimp only at HC
  go_enter Tryz.func28, Tryz.ntmps28
  go_wp2_with fail
  refine (in_c _ _ _ _).mono ?_
  rintro e w1 ⟨rfl, rfl⟩
  cases h1 : inB q 0 2
  · go_wp2
    go_ret
    exact ⟨ret_int (by rw [HK.out]; simp [h1]), by (repeat (first | exact Below.refl _ _ | assumption | refine Below.drew ?_ | refine below_drewN ?_ _ | refine belowA ?_ _ | refine belowT ?_ (by assumption) | refine Below.setCell ?_ (by first | (simp; done) | (simp; omega)) _))⟩
  · go_wp2_with fail
    refine (in_c _ _ _ _).mono ?_
    rintro e w1 ⟨rfl, rfl⟩
    cases h2 : inB s 1 40
    · go_wp2
      go_ret
      exact ⟨ret_int (by rw [HK.out]; simp [h2]), by (repeat (first | exact Below.refl _ _ | assumption | refine Below.drew ?_ | refine below_drewN ?_ _ | refine belowA ?_ _ | refine belowT ?_ (by assumption) | refine Below.setCell ?_ (by first | (simp; done) | (simp; omega)) _))⟩
    · go_wp2_with fail
      refine (HC.out _ (h.below (B := w.heap.size) (by (repeat (first | exact Below.refl _ _ | assumption | refine Below.drew ?_ | refine below_drewN ?_ _ | refine belowA ?_ _ | refine belowT ?_ (by assumption) | refine Below.setCell ?_ (by first | (simp; done) | (simp; omega)) _))) (Nat.le_refl _))).mono ?_
      rintro e w3 ⟨rfl, hb3⟩
      go_wp2
      go_ret
      exact ⟨ret_int (by rw [HK.out]; simp [h1, h2]), by (repeat (first | exact Below.refl _ _ | assumption | refine Below.drew ?_ | refine below_drewN ?_ _ | refine belowA ?_ _ | refine belowT ?_ (by assumption) | refine Below.setCell ?_ (by first | (simp; done) | (simp; omega)) _))⟩

end Go.Proofs.YtenmamcaldabdaaGreatDoor

/- The contract of the document's own Nexted; no condition but that the arguments read as data. -/
namespace Go.Proofs.YtenmamcaldabdaaGreatDoor
open Go.RowKit
set_option linter.unusedVariables false
set_option maxRecDepth 100000
set_option linter.unusedSimpArgs false

set_option maxRecDepth 100000 in
set_option maxHeartbeats 4000000 in
theorem Nexted_c (h : HV) (r : RV) (w : World) (hk : h.ok w) (hr : r.ok w) : Calls Tryz.prog 7 #[h.v, r.v] w fun e w' => Nexteds h (nextH h.p r.p) w e w' := by
  have HC := hide (fun w' h' => CheckHall_c h w' h')
  have HR := hide (fun w' h' => CheckRec_c r w' h')
  have HX := hide (fun w' h1 h2 a b => nexted_c h r w' h1 h2 a b)
  have HN1 : Hid (checkH h.p ≠ 0 → nextH h.p r.p = (zeroH, zeroA, checkH h.p)) := hide (fun e => by unfold nextH; rw [if_pos e])
  have HN2 : Hid (checkH h.p = 0 → checkR r.p ≠ 0 → nextH h.p r.p = (zeroH, zeroA, checkR r.p)) := hide (fun e f => by unfold nextH; rw [if_neg (by simp [e]), if_pos f])
  generalize nextH h.p r.p = nh at *
  obtain ⟨x0, x1, x2, x3, bw⟩ := next_boxes w h.cells r.cells 30 34 38
  have hoR : ∀ R, w.heap.size ≤ R → HV.off R h := fun R hR => hk.off hR
  have hok := hk.below bw (Nat.le_refl _)
  have hrk := RV.ok.below hr bw (Nat.le_refl _)
  generalize checkH h.p = ch at *
  generalize checkR r.p = cr at *
  rw [show h.v = .agg h.cells.toArray from rfl, show r.v = .agg r.cells.toArray from rfl] at *
  obtain ⟨⟨za, zn, zc, Z, ka, kn, kc, bk, bh, bt⟩, a, n, c, L⟩ := h
  obtain ⟨⟨rq, rs, ⟨k1, z1, u1, t1, d1⟩⟩, ra, rn, rc⟩ := r
  dsimp only [HV.cells, RV.cells] at *
  have q0 := x0.cell 0 _ rfl
  have q1 := x0.cell 1 _ rfl
  have q2 := x0.cell 2 _ rfl
  have q3 := x0.cell 3 _ rfl
  have q4 := x0.cell 4 _ rfl
  have p0 := x0.ice 0
  have p1 := x0.ice 1
  have p2 := x0.ice 2
  have p3 := x0.ice 3
  have p4 := x0.ice 4
  go_enter Tryz.func7, Tryz.ntmps7
  go_wp2_with fail
  refine (HC.out _ hok).mono ?_
  rintro e w1 ⟨rfl, hb1⟩
  replace x0 := x0.below hb1
  replace x1 := x1.below hb1
  replace x2 := x2.below hb1
  replace x3 := x3.below hb1
  replace hok := hok.below hb1 (Nat.le_refl _)
  replace hrk := RV.ok.below hrk hb1 (Nat.le_refl _)
  replace bw := belowT bw hb1
  clear hb1 q0 q1 q2 q3 q4 p0 p1 p2 p3 p4 HC
  cases h0 : ch != 0
  · have hc0 : Hid (ch = 0) := hide (by simpa using h0)
    have r0 := x1.cell 0 _ rfl
    have r1 := x1.cell 1 _ rfl
    have r2 := x1.cell 2 _ rfl
    have r3 := x1.cell 3 _ rfl
    have r4 := x1.cell 4 _ rfl
    have r5 := x1.cell 5 _ rfl
    have r6 := x1.cell 6 _ rfl
    go_wp2_with fail
    refine (HR.out _ hrk).mono ?_
    rintro e w2 ⟨rfl, hb2⟩
    replace x0 := x0.below hb2
    replace x1 := x1.below hb2
    replace x2 := x2.below hb2
    replace x3 := x3.below hb2
    replace hok := hok.below hb2 (Nat.le_refl _)
    replace hrk := RV.ok.below hrk hb2 (Nat.le_refl _)
    replace bw := belowT bw hb2
    clear hb2 r0 r1 r2 r3 r4 r5 r6 HR
    cases h1 : cr != 0
    · have hc1 : Hid (cr = 0) := hide (by simpa using h1)
      have r0 := x1.cell 0 _ rfl
      have r1 := x1.cell 1 _ rfl
      have r2 := x1.cell 2 _ rfl
      have r3 := x1.cell 3 _ rfl
      have r4 := x1.cell 4 _ rfl
      have r5 := x1.cell 5 _ rfl
      have r6 := x1.cell 6 _ rfl
      have q0 := x0.cell 0 _ rfl
      have q1 := x0.cell 1 _ rfl
      have q2 := x0.cell 2 _ rfl
      have q3 := x0.cell 3 _ rfl
      have q4 := x0.cell 4 _ rfl
      have p0 := x0.ice 0
      have p1 := x0.ice 1
      have p2 := x0.ice 2
      have p3 := x0.ice 3
      have p4 := x0.ice 4
      go_wp2_with fail
      refine (HX.out _ hok hrk hc0.out hc1.out).mono ?_
      rintro e w3 ⟨⟨⟨⟨ya, yn, yc, Y, yk, ym, yl, yj, yh, yt⟩, yb, yo, yp, M⟩, ⟨ae, at', aa, an, ac, ad⟩, rfl, okh, oka, off3, p3, pa3⟩, hb3⟩
      have hlt := x3.lt
      replace x2 := x2.below hb3
      replace x3 := x3.below hb3
      replace bw := belowT bw hb3
      have P3 := hide p3
      have P4 := hide pa3
      clear hb3 r0 r1 r2 r3 r4 r5 r6 q0 q1 q2 q3 q4 p0 p1 p2 p3 p4 x0 x1 pa3 HX HN1 HN2
      dsimp only [HV.v, AV.v]
      have offh : ∀ R, R ≤ w.heap.size + 1 + 1 + 1 → HV.off R ⟨⟨za, zn, zc, Z, ka, kn, kc, bk, bh, bt⟩, a, n, c, L⟩ → HV.off R ⟨⟨ya, yn, yc, Y, yk, ym, yl, yj, yh, yt⟩, yb, yo, yp, M⟩ := fun R hR ho => (off3 R (by omega) ho).1
      have offa : ∀ R, R ≤ w.heap.size + 1 + 1 + 1 → HV.off R ⟨⟨za, zn, zc, Z, ka, kn, kc, bk, bh, bt⟩, a, n, c, L⟩ → AV.off R ⟨ae, at', aa, an, ac, ad⟩ := fun R hR ho => (off3 R (by omega) ho).2
      have e0 := x2.cell 0 _ rfl
      have e1 := x2.cell 1 _ rfl
      have e2 := x2.cell 2 _ rfl
      have e3 := x2.cell 3 _ rfl
      have e4 := x2.cell 4 _ rfl
      have f0 := x2.ice 0
      have f1 := x2.ice 1
      have f2 := x2.ice 2
      have f3 := x2.ice 3
      have f4 := x2.ice 4
      have g0 := x3.cell 0 _ rfl
      have g1 := x3.cell 1 _ rfl
      have g2 := x3.cell 2 _ rfl
      have i0 := x3.ice 0
      have i1 := x3.ice 1
      have i2 := x3.ice 2
      go_wp2
      have zB := ((((x2.set 0 (.slice ya yn yc)).set 1 (.slice yk ym yl)).set 2 (.int .i64 yh)).set 3 (.int .i64 yt)).set 4 (.slice yb yo yp)
      have hbut := (((((ButI.refl (w.heap.size + 1 + 1) w3).step 0 (.slice ya yn yc)).step 1 (.slice yk ym yl)).step 2 (.int .i64 yh)).step 3 (.int .i64 yt)).step 4 (.slice yb yo yp)
      generalize ((((w3.setCell ⟨w.heap.size + 1 + 1, 0, none⟩ (.slice ya yn yc)).setCell ⟨w.heap.size + 1 + 1, 1, none⟩ (.slice yk ym yl)).setCell ⟨w.heap.size + 1 + 1, 2, none⟩ (.int .i64 yh)).setCell ⟨w.heap.size + 1 + 1, 3, none⟩ (.int .i64 yt)).setCell ⟨w.heap.size + 1 + 1, 4, none⟩ (.slice yb yo yp) = w98 at *
      have z0 := zB.cell 0 _ rfl
      have z1 := zB.cell 1 _ rfl
      have z2 := zB.cell 2 _ rfl
      have z3 := zB.cell 3 _ rfl
      have z4 := zB.cell 4 _ rfl
      replace x3 := x3.butI hbut (by omega)
      have o8 := okh.but hbut.but (offh _ (by omega) (hoR _ (by omega)))
      have a8 := AV.ok.but oka hbut.but (offa _ (by omega) (hoR _ (by omega)))
      have b8 := bw.trans (hbut.below (B := w.heap.size) (by omega))
      clear z0 z1 z2 z3 z4 hbut
      have zA := ((x3.set 0 (.int .i64 ae)).set 1 (.int .i64 at')).set 2 (.slice aa an ac)
      have hbu := (((ButI.refl (w.heap.size + 1 + 1 + 1) w98).step 0 (.int .i64 ae)).step 1 (.int .i64 at')).step 2 (.slice aa an ac)
      replace zB := zB.butI hbu (by omega)
      replace o8 := o8.but hbu.but (offh _ (by omega) (hoR _ (by omega)))
      replace a8 := AV.ok.but a8 hbu.but (offa _ (by omega) (hoR _ (by omega)))
      replace b8 := b8.trans (hbu.below (B := w.heap.size) (by omega))
      generalize ((w98.setCell ⟨w.heap.size + 1 + 1 + 1, 0, none⟩ (.int .i64 ae)).setCell ⟨w.heap.size + 1 + 1 + 1, 1, none⟩ (.int .i64 at')).setCell ⟨w.heap.size + 1 + 1 + 1, 2, none⟩ (.slice aa an ac) = w99 at *
      have z0 := zB.cell 0 _ rfl
      have z1 := zB.cell 1 _ rfl
      have z2 := zB.cell 2 _ rfl
      have z3 := zB.cell 3 _ rfl
      have z4 := zB.cell 4 _ rfl
      have v0 := zA.cell 0 _ rfl
      have v1 := zA.cell 1 _ rfl
      have v2 := zA.cell 2 _ rfl
      skip
      refine bodyPost_ret (v := .tuple #[.agg #[.slice ya yn yc, .slice yk ym yl, .int .i64 yh, .int .i64 yt, .slice yb yo yp], .agg #[.int .i64 ae, .int .i64 at', .slice aa an ac], .int .i64 nh.2.2]) (by simp [results, Tryz.results7, go_sem, z0, z1, z2, z3, z4, v0, v1, v2]) rfl ⟨⟨⟨⟨ya, yn, yc, Y, yk, ym, yl, yj, yh, yt⟩, yb, yo, yp, M⟩, ⟨ae, at', aa, an, ac, ad⟩, ?_, o8, a8, fun R hR ho => ⟨offh R (by omega) ho, offa R (by omega) ho⟩, ?_, ?_⟩, b8⟩
      · rfl
      · exact P3.out
      · exact P4.out
    · have HE := hide (HN2.out hc0.out (by simpa using h1))
      clear HN1 HN2
      have okh := HV.zero_ok w2
      have oka := AV.err_ok w2 0
      have offh : ∀ R, R ≤ w.heap.size + 1 + 1 + 1 → HV.off R ⟨⟨za, zn, zc, Z, ka, kn, kc, bk, bh, bt⟩, a, n, c, L⟩ → HV.off R HV.zero := fun R _ _ => HV.zero_off R
      have offa : ∀ R, R ≤ w.heap.size + 1 + 1 + 1 → HV.off R ⟨⟨za, zn, zc, Z, ka, kn, kc, bk, bh, bt⟩, a, n, c, L⟩ → AV.off R (AV.err 0) := fun R _ _ => .inl rfl
      have e0 := x2.cell 0 _ rfl
      have e1 := x2.cell 1 _ rfl
      have e2 := x2.cell 2 _ rfl
      have e3 := x2.cell 3 _ rfl
      have e4 := x2.cell 4 _ rfl
      have f0 := x2.ice 0
      have f1 := x2.ice 1
      have f2 := x2.ice 2
      have f3 := x2.ice 3
      have f4 := x2.ice 4
      have g0 := x3.cell 0 _ rfl
      have g1 := x3.cell 1 _ rfl
      have g2 := x3.cell 2 _ rfl
      have i0 := x3.ice 0
      have i1 := x3.ice 1
      have i2 := x3.ice 2
      go_wp2
      have zB := ((((x2.set 0 (.slice none 0 0)).set 1 (.slice none 0 0)).set 2 (.int .i64 0)).set 3 (.int .i64 0)).set 4 (.slice none 0 0)
      have hbut := (((((ButI.refl (w.heap.size + 1 + 1) w2).step 0 (.slice none 0 0)).step 1 (.slice none 0 0)).step 2 (.int .i64 0)).step 3 (.int .i64 0)).step 4 (.slice none 0 0)
      generalize ((((w2.setCell ⟨w.heap.size + 1 + 1, 0, none⟩ (.slice none 0 0)).setCell ⟨w.heap.size + 1 + 1, 1, none⟩ (.slice none 0 0)).setCell ⟨w.heap.size + 1 + 1, 2, none⟩ (.int .i64 0)).setCell ⟨w.heap.size + 1 + 1, 3, none⟩ (.int .i64 0)).setCell ⟨w.heap.size + 1 + 1, 4, none⟩ (.slice none 0 0) = w98 at *
      have z0 := zB.cell 0 _ rfl
      have z1 := zB.cell 1 _ rfl
      have z2 := zB.cell 2 _ rfl
      have z3 := zB.cell 3 _ rfl
      have z4 := zB.cell 4 _ rfl
      replace x3 := x3.butI hbut (by omega)
      have o8 := okh.but hbut.but (offh _ (by omega) (hoR _ (by omega)))
      have a8 := AV.ok.but oka hbut.but (offa _ (by omega) (hoR _ (by omega)))
      have b8 := bw.trans (hbut.below (B := w.heap.size) (by omega))
      clear z0 z1 z2 z3 z4 hbut
      have zA := ((x3.set 0 (.int .i64 0)).set 1 (.int .i64 0)).set 2 (.slice none 0 0)
      have hbu := (((ButI.refl (w.heap.size + 1 + 1 + 1) w98).step 0 (.int .i64 0)).step 1 (.int .i64 0)).step 2 (.slice none 0 0)
      replace zB := zB.butI hbu (by omega)
      replace o8 := o8.but hbu.but (offh _ (by omega) (hoR _ (by omega)))
      replace a8 := AV.ok.but a8 hbu.but (offa _ (by omega) (hoR _ (by omega)))
      replace b8 := b8.trans (hbu.below (B := w.heap.size) (by omega))
      generalize ((w98.setCell ⟨w.heap.size + 1 + 1 + 1, 0, none⟩ (.int .i64 0)).setCell ⟨w.heap.size + 1 + 1 + 1, 1, none⟩ (.int .i64 0)).setCell ⟨w.heap.size + 1 + 1 + 1, 2, none⟩ (.slice none 0 0) = w99 at *
      have z0 := zB.cell 0 _ rfl
      have z1 := zB.cell 1 _ rfl
      have z2 := zB.cell 2 _ rfl
      have z3 := zB.cell 3 _ rfl
      have z4 := zB.cell 4 _ rfl
      have v0 := zA.cell 0 _ rfl
      have v1 := zA.cell 1 _ rfl
      have v2 := zA.cell 2 _ rfl
      skip
      refine bodyPost_ret (v := .tuple #[.agg #[.slice none 0 0, .slice none 0 0, .int .i64 0, .int .i64 0, .slice none 0 0], .agg #[.int .i64 0, .int .i64 0, .slice none 0 0], .int .i64 cr]) (by simp [results, Tryz.results7, go_sem, z0, z1, z2, z3, z4, v0, v1, v2]) rfl ⟨⟨HV.zero, AV.err 0, ?_, o8, a8, fun R hR ho => ⟨offh R (by omega) ho, offa R (by omega) ho⟩, ?_, ?_⟩, b8⟩
      · rw [HE.out]
        rfl
      · rw [HE.out]
        rfl
      · rw [HE.out]
        rfl
  · have HE := hide (HN1.out (by simpa using h0))
    clear HN1 HN2
    have okh := HV.zero_ok w1
    have oka := AV.err_ok w1 0
    have offh : ∀ R, R ≤ w.heap.size + 1 + 1 + 1 → HV.off R ⟨⟨za, zn, zc, Z, ka, kn, kc, bk, bh, bt⟩, a, n, c, L⟩ → HV.off R HV.zero := fun R _ _ => HV.zero_off R
    have offa : ∀ R, R ≤ w.heap.size + 1 + 1 + 1 → HV.off R ⟨⟨za, zn, zc, Z, ka, kn, kc, bk, bh, bt⟩, a, n, c, L⟩ → AV.off R (AV.err 0) := fun R _ _ => .inl rfl
    have e0 := x2.cell 0 _ rfl
    have e1 := x2.cell 1 _ rfl
    have e2 := x2.cell 2 _ rfl
    have e3 := x2.cell 3 _ rfl
    have e4 := x2.cell 4 _ rfl
    have f0 := x2.ice 0
    have f1 := x2.ice 1
    have f2 := x2.ice 2
    have f3 := x2.ice 3
    have f4 := x2.ice 4
    have g0 := x3.cell 0 _ rfl
    have g1 := x3.cell 1 _ rfl
    have g2 := x3.cell 2 _ rfl
    have i0 := x3.ice 0
    have i1 := x3.ice 1
    have i2 := x3.ice 2
    go_wp2
    have zB := ((((x2.set 0 (.slice none 0 0)).set 1 (.slice none 0 0)).set 2 (.int .i64 0)).set 3 (.int .i64 0)).set 4 (.slice none 0 0)
    have hbut := (((((ButI.refl (w.heap.size + 1 + 1) w1).step 0 (.slice none 0 0)).step 1 (.slice none 0 0)).step 2 (.int .i64 0)).step 3 (.int .i64 0)).step 4 (.slice none 0 0)
    generalize ((((w1.setCell ⟨w.heap.size + 1 + 1, 0, none⟩ (.slice none 0 0)).setCell ⟨w.heap.size + 1 + 1, 1, none⟩ (.slice none 0 0)).setCell ⟨w.heap.size + 1 + 1, 2, none⟩ (.int .i64 0)).setCell ⟨w.heap.size + 1 + 1, 3, none⟩ (.int .i64 0)).setCell ⟨w.heap.size + 1 + 1, 4, none⟩ (.slice none 0 0) = w98 at *
    have z0 := zB.cell 0 _ rfl
    have z1 := zB.cell 1 _ rfl
    have z2 := zB.cell 2 _ rfl
    have z3 := zB.cell 3 _ rfl
    have z4 := zB.cell 4 _ rfl
    replace x3 := x3.butI hbut (by omega)
    have o8 := okh.but hbut.but (offh _ (by omega) (hoR _ (by omega)))
    have a8 := AV.ok.but oka hbut.but (offa _ (by omega) (hoR _ (by omega)))
    have b8 := bw.trans (hbut.below (B := w.heap.size) (by omega))
    clear z0 z1 z2 z3 z4 hbut
    have zA := ((x3.set 0 (.int .i64 0)).set 1 (.int .i64 0)).set 2 (.slice none 0 0)
    have hbu := (((ButI.refl (w.heap.size + 1 + 1 + 1) w98).step 0 (.int .i64 0)).step 1 (.int .i64 0)).step 2 (.slice none 0 0)
    replace zB := zB.butI hbu (by omega)
    replace o8 := o8.but hbu.but (offh _ (by omega) (hoR _ (by omega)))
    replace a8 := AV.ok.but a8 hbu.but (offa _ (by omega) (hoR _ (by omega)))
    replace b8 := b8.trans (hbu.below (B := w.heap.size) (by omega))
    generalize ((w98.setCell ⟨w.heap.size + 1 + 1 + 1, 0, none⟩ (.int .i64 0)).setCell ⟨w.heap.size + 1 + 1 + 1, 1, none⟩ (.int .i64 0)).setCell ⟨w.heap.size + 1 + 1 + 1, 2, none⟩ (.slice none 0 0) = w99 at *
    have z0 := zB.cell 0 _ rfl
    have z1 := zB.cell 1 _ rfl
    have z2 := zB.cell 2 _ rfl
    have z3 := zB.cell 3 _ rfl
    have z4 := zB.cell 4 _ rfl
    have v0 := zA.cell 0 _ rfl
    have v1 := zA.cell 1 _ rfl
    have v2 := zA.cell 2 _ rfl
    skip
    refine bodyPost_ret (v := .tuple #[.agg #[.slice none 0 0, .slice none 0 0, .int .i64 0, .int .i64 0, .slice none 0 0], .agg #[.int .i64 0, .int .i64 0, .slice none 0 0], .int .i64 ch]) (by simp [results, Tryz.results7, go_sem, z0, z1, z2, z3, z4, v0, v1, v2]) rfl ⟨⟨HV.zero, AV.err 0, ?_, o8, a8, fun R hR ho => ⟨offh R (by omega) ho, offa R (by omega) ho⟩, ?_, ?_⟩, b8⟩
    · rw [HE.out]
      rfl
    · rw [HE.out]
      rfl
    · rw [HE.out]
      rfl

end Go.Proofs.YtenmamcaldabdaaGreatDoor
