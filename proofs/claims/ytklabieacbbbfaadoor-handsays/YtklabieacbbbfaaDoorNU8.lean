/- The contract of the document's own CheckCmd; no condition but that the data reads as a list. -/
import Derived.Test.YtklabieacbbbfaaDoorNU7
import Derived.Test.YtklabieacbbbfaaDoorNU3
import Derived.Test.YtklabieacbbbfaaDoorNU1
import Derived.Deep.Light
import Derived.BigQuiet
namespace Go.Proofs.YtklabieacbbbfaaDoor
open Go.RowKit
set_option linter.unusedVariables false
set_option maxRecDepth 100000
set_option linter.unusedSimpArgs false

set_option maxRecDepth 100000 in
set_option maxHeartbeats 4000000 in
theorem CheckCmd_k (a : Option Addr) (m c : Nat) (k : Nat) (z n t : Int) (d : List Int) (w : World) (h : Ints w a m c d) (hk1 : 1 ≤ k) (hk2 : k ≤ 12) :
    Calls Tryd.prog 24 #[cmdV a m c ⟨k, z, n, t, d⟩] w fun e w' => e = .returned (.int .i64 (checkC ⟨k, z, n, t, d⟩)) ∧ Below w.heap.size w w' := by
  have hin : inB (k : Int) 1 12 = true := by simp [inB]; omega
  have hlen := h.len
  have hmax := h.max
  have hle := h.le
  unfold cmdV
  go_enter Tryd.func24, Tryd.ntmps24
  go_wp2_with (go_at_call 29; refine (in_c _ _ _ _).mono ?_; rintro e w' ⟨rfl, rfl⟩)
  refine (has_c k _ hk2).mono ?_
  rintro e w1 ⟨rfl, hb1⟩
  have b0 := keepc hb1 (p := ⟨w.heap.size, 0, none⟩) (u := .int .i64 k) (by go_simp)
  have b1 := keepc hb1 (p := ⟨w.heap.size, 1, none⟩) (u := .int .i64 z) (by go_simp)
  have b2 := keepc hb1 (p := ⟨w.heap.size, 2, none⟩) (u := .int .i64 n) (by go_simp)
  have b3 := keepc hb1 (p := ⟨w.heap.size, 3, none⟩) (u := .int .i64 t) (by go_simp)
  have b4 := keepc hb1 (p := ⟨w.heap.size, 4, none⟩) (u := .slice a m c) (by go_simp)
  have bw : Below w.heap.size w w1 := by (repeat first | exact bel0 | assumption | refine bel1 ?_ | refine bel2 ?_ | refine bel3 ?_ | refine belowT ?_ (by assumption) | refine bel5 ?_ (by simp; try omega))
  have hz := hasS_z k hk2
  have ha := hasS_a k hk2
  have hn := hasS_n k hk2
  have hd := hasS_d k hk2
  generalize hasS k = hs at *
  have HZ := hide hz
  have HA := hide ha
  have HN := hide hn
  have HD := hide hd
  clear hb1 hz ha hn hd
  go_wp2
  have c0 : (w1.alloc (.cells #[.string ⟨#[122]⟩, .bool (z != 0), .string ⟨#[97]⟩, .bool (t != 0), .string ⟨#[110]⟩, .bool (n != 0)] 68)).heap[w1.heap.size]? = _ := heap_new w1 _
  replace b0 := past1 b0 (.cells #[.string ⟨#[122]⟩, .bool (z != 0), .string ⟨#[97]⟩, .bool (t != 0), .string ⟨#[110]⟩, .bool (n != 0)] 68)
  replace b1 := past1 b1 (.cells #[.string ⟨#[122]⟩, .bool (z != 0), .string ⟨#[97]⟩, .bool (t != 0), .string ⟨#[110]⟩, .bool (n != 0)] 68)
  replace b2 := past1 b2 (.cells #[.string ⟨#[122]⟩, .bool (z != 0), .string ⟨#[97]⟩, .bool (t != 0), .string ⟨#[110]⟩, .bool (n != 0)] 68)
  replace b3 := past1 b3 (.cells #[.string ⟨#[122]⟩, .bool (z != 0), .string ⟨#[97]⟩, .bool (t != 0), .string ⟨#[110]⟩, .bool (n != 0)] 68)
  replace b4 := past1 b4 (.cells #[.string ⟨#[122]⟩, .bool (z != 0), .string ⟨#[97]⟩, .bool (t != 0), .string ⟨#[110]⟩, .bool (n != 0)] 68)
  replace bw := belowA bw (.cells #[.string ⟨#[122]⟩, .bool (z != 0), .string ⟨#[97]⟩, .bool (t != 0), .string ⟨#[110]⟩, .bool (n != 0)] 68)
  generalize w1.alloc (.cells #[.string ⟨#[122]⟩, .bool (z != 0), .string ⟨#[97]⟩, .bool (t != 0), .string ⟨#[110]⟩, .bool (n != 0)] 68) = v1 at *
  generalize w1.heap.size = L at *
  have d0 : v1.cell? ⟨L, 0, none⟩ = some (.string ⟨#[122]⟩) := by rw [cell_of_row _ _ _ _ _ _ c0]; rfl
  have d1 : v1.cell? ⟨L, 1, none⟩ = some (.bool (z != 0)) := by rw [cell_of_row _ _ _ _ _ _ c0]; rfl
  have d2 : v1.cell? ⟨L, 2, none⟩ = some (.string ⟨#[97]⟩) := by rw [cell_of_row _ _ _ _ _ _ c0]; rfl
  have d3 : v1.cell? ⟨L, 3, none⟩ = some (.bool (t != 0)) := by rw [cell_of_row _ _ _ _ _ _ c0]; rfl
  have d4 : v1.cell? ⟨L, 4, none⟩ = some (.string ⟨#[110]⟩) := by rw [cell_of_row _ _ _ _ _ _ c0]; rfl
  have d5 : v1.cell? ⟨L, 5, none⟩ = some (.bool (n != 0)) := by rw [cell_of_row _ _ _ _ _ _ c0]; rfl
  clear c0
  go_loopw [27] (fun x wr => ∃ i : Nat, i ≤ 3 ∧ x = .int .i64 i ∧ ((0 < i → ¬ (z ≠ 0 ∧ hasZ k = false)) ∧ (1 < i → ¬ (t ≠ 0 ∧ hasA k = false)) ∧ (2 < i → ¬ (n ≠ 0 ∧ hasN k = false))) ∧ Below v1.heap.size v1 wr) (fun x _ => 3 - (intOf x).toNat)
  case atStart => exact ⟨0, by omega, rfl, ⟨by omega, by omega, by omega⟩, Below.refl _ _⟩
  case round =>
    obtain ⟨i, hi, rfl, hno, hbr⟩ := hrel
    rename_i wr
    have HNO := hide hno
    clear hno
    rcases (by omega : i = 0 ∨ i = 1 ∨ i = 2 ∨ i = 3) with rfl | rfl | rfl | rfl
    · replace d0 := keepc hbr d0
      replace d1 := keepc hbr d1
      clear d2 d3 d4 d5 b0 b1 b2 b3 b4
      cases hq : z != 0
      · rw [hq] at d1
        go_wp2
        exact ⟨⟨1, by omega, by go_num, ⟨fun _ h => by simp at hq; exact h.1 hq, by omega, by omega⟩, by (repeat first | exact bel0 | assumption | refine bel1 ?_ | refine bel2 ?_ | refine bel3 ?_ | refine belowT ?_ (by assumption) | refine bel5 ?_ (by simp; try omega))⟩, by simp [intOf]⟩
      · rw [hq] at d1
        cases hh : hasZ k
        all_goals
          go_wp2_with (go_at_call 43; refine (Tryd.strings_Contains_one hs 122 _).mono ?_; rintro e w9 ⟨rfl, rfl⟩; rw [HZ.out, hh])
        · go_ret
          refine ⟨ret_int ?_, by (repeat first | exact bel0 | assumption | refine bel1 ?_ | refine bel2 ?_ | refine bel3 ?_ | refine belowT ?_ (by assumption) | refine bel5 ?_ (by simp; try omega))⟩
          have ho : outB 1 12 (k : Int) = false := by rw [inB_outB] at hin; simpa using hin
          simp at hq
          simp [checkC, ho, hq, hh]
        · exact ⟨⟨1, by omega, by go_num, ⟨fun _ h => by simp [hh] at h, by omega, by omega⟩, by (repeat first | exact bel0 | assumption | refine bel1 ?_ | refine bel2 ?_ | refine bel3 ?_ | refine belowT ?_ (by assumption) | refine bel5 ?_ (by simp; try omega))⟩, by simp [intOf]⟩
    · replace d2 := keepc hbr d2
      replace d3 := keepc hbr d3
      clear d0 d1 d4 d5 b0 b1 b2 b3 b4
      cases hq : t != 0
      · rw [hq] at d3
        go_wp2
        exact ⟨⟨2, by omega, by go_num, ⟨fun _ => HNO.out.1 (by omega), fun _ h => by simp at hq; exact h.1 hq, by omega⟩, by (repeat first | exact bel0 | assumption | refine bel1 ?_ | refine bel2 ?_ | refine bel3 ?_ | refine belowT ?_ (by assumption) | refine bel5 ?_ (by simp; try omega))⟩, by simp [intOf]⟩
      · rw [hq] at d3
        cases hh : hasA k
        all_goals
          go_wp2_with (go_at_call 43; refine (Tryd.strings_Contains_one hs 97 _).mono ?_; rintro e w9 ⟨rfl, rfl⟩; rw [HA.out, hh])
        · go_ret
          refine ⟨ret_int ?_, by (repeat first | exact bel0 | assumption | refine bel1 ?_ | refine bel2 ?_ | refine bel3 ?_ | refine belowT ?_ (by assumption) | refine bel5 ?_ (by simp; try omega))⟩
          have ho : outB 1 12 (k : Int) = false := by rw [inB_outB] at hin; simpa using hin
          simp at hq
          simp [checkC, ho, hq, hh]
        · exact ⟨⟨2, by omega, by go_num, ⟨fun _ => HNO.out.1 (by omega), fun _ h => by simp [hh] at h, by omega⟩, by (repeat first | exact bel0 | assumption | refine bel1 ?_ | refine bel2 ?_ | refine bel3 ?_ | refine belowT ?_ (by assumption) | refine bel5 ?_ (by simp; try omega))⟩, by simp [intOf]⟩
    · replace d4 := keepc hbr d4
      replace d5 := keepc hbr d5
      clear d0 d1 d2 d3 b0 b1 b2 b3 b4
      cases hq : n != 0
      · rw [hq] at d5
        go_wp2
        exact ⟨⟨3, by omega, by go_num, ⟨fun _ => HNO.out.1 (by omega), fun _ => HNO.out.2.1 (by omega), fun _ h => by simp at hq; exact h.1 hq⟩, by (repeat first | exact bel0 | assumption | refine bel1 ?_ | refine bel2 ?_ | refine bel3 ?_ | refine belowT ?_ (by assumption) | refine bel5 ?_ (by simp; try omega))⟩, by simp [intOf]⟩
      · rw [hq] at d5
        cases hh : hasN k
        all_goals
          go_wp2_with (go_at_call 43; refine (Tryd.strings_Contains_one hs 110 _).mono ?_; rintro e w9 ⟨rfl, rfl⟩; rw [HN.out, hh])
        · go_ret
          refine ⟨ret_int ?_, by (repeat first | exact bel0 | assumption | refine bel1 ?_ | refine bel2 ?_ | refine bel3 ?_ | refine belowT ?_ (by assumption) | refine bel5 ?_ (by simp; try omega))⟩
          have ho : outB 1 12 (k : Int) = false := by rw [inB_outB] at hin; simpa using hin
          simp at hq
          simp [checkC, ho, hq, hh]
        · exact ⟨⟨3, by omega, by go_num, ⟨fun _ => HNO.out.1 (by omega), fun _ => HNO.out.2.1 (by omega), fun _ h => by simp [hh] at h⟩, by (repeat first | exact bel0 | assumption | refine bel1 ?_ | refine bel2 ?_ | refine bel3 ?_ | refine belowT ?_ (by assumption) | refine bel5 ?_ (by simp; try omega))⟩, by simp [intOf]⟩
    · replace b1 := keepc hbr b1
      replace b2 := keepc hbr b2
      replace b3 := keepc hbr b3
      replace b4 := keepc hbr b4
      have bwr : Below w.heap.size w wr := by (repeat first | exact bel0 | assumption | refine bel1 ?_ | refine bel2 ?_ | refine bel3 ?_ | refine belowT ?_ (by assumption) | refine bel5 ?_ (by simp; try omega))
      have ir := h.below bwr (Nat.le_refl _)
      clear d0 d1 d2 d3 d4 d5 b0 hbr bw
      have hK : checkC ⟨k, z, n, t, d⟩ = if hasD k = decide (d = []) then 4 else if 8 < d.length then 2 else if [z, t, n].any (outB 0 999) || d.any (outB 0 999) then 3 else 0 := by
        have ho : outB 1 12 (k : Int) = false := by rw [inB_outB] at hin; simpa using hin
        have h1 := HNO.out.1 (by omega)
        have h2 := HNO.out.2.1 (by omega)
        have h3 := HNO.out.2.2 (by omega)
        unfold checkC
        dsimp only
        rw [if_neg (by simp [ho]), if_neg (by rintro (e | e | e); exact h1 e; exact h2 e; exact h3 e)]
        simp [or_assoc]
      have HK := hide hK
      have hdm : decide (d = []) = ((m : Int) == 0) := by
        rw [Bool.eq_iff_iff]
        simp
        rw [← hlen, List.length_eq_zero_iff]
      clear hK HNO HZ HA HN
      rw [hdm] at HK
      clear hdm
      go_wp2_with fail
      go_region_held3 (fun w' => w'.cell? ⟨w.heap.size, 4, none⟩ = some (.slice a m c) ∧ w'.cell? ⟨w.heap.size, 1, none⟩ = some (.int .i64 z) ∧ w'.cell? ⟨w.heap.size, 2, none⟩ = some (.int .i64 n) ∧ w'.cell? ⟨w.heap.size, 3, none⟩ = some (.int .i64 t)) ((first | (go_simp; done) | (simp [*, World.cell?_alloc_at, World.cell?_alloc_past, World.cell?_alloc_some, World.cell?_setCell_far]; done))) (first | (go_at_call 43; refine (Tryd.strings_Contains_one hs 100 _).mono ?_; rintro e w9 ⟨rfl, rfl⟩; rw [HD.out]))
      generalize hasD k = hdk at *
      cases hd4 : hdk == ((m : Int) == 0)
      · have hne : ¬ (hdk = ((m : Int) == 0)) := by intro e; rw [e] at hd4; simp at hd4
        by_cases h8 : 8 < m
        · have h8' : (8 : Int) < (m : Int) := by omega
          go_wp2
          go_ret
          exact ⟨ret_int (by rw [HK.out, if_neg hne, hlen, if_pos h8]), by (repeat first | exact bel0 | assumption | refine bel1 ?_ | refine bel2 ?_ | refine bel3 ?_ | refine belowT ?_ (by assumption) | refine bel5 ?_ (by simp; try omega))⟩
        · have h8' : ¬ (8 : Int) < (m : Int) := by omega
          have H3 : ∀ w' g, w'.cell? ⟨g, 0, none⟩ = some (.int .i64 z) → w'.cell? ⟨g, 1, none⟩ = some (.int .i64 t) → w'.cell? ⟨g, 2, none⟩ = some (.int .i64 n) → Calls Tryd.prog 44 #[.slice (some ⟨g, 0, none⟩) 3 3, .int .i64 0, .int .i64 999] w' fun e w2 => e = .returned (.bool (!([z, t, n].any (outB 0 999)))) ∧ w2 = w' := by
            intro w' g g0 g1 g2
            have := all_some g 0 3 3 [z, t, n] 0 999 w' rfl (by decide) (fun i hi => by
              rcases (by omega : i = 0 ∨ i = 1 ∨ i = 2) with rfl | rfl | rfl <;> assumption)
            rw [all_any] at this
            exact this
          have HA2 := hide (fun w' hw' => all_c a m c d 0 999 w' hw')
          generalize [z, t, n].any (outB 0 999) = b3 at HK H3
          have H3' := hide H3
          clear H3
          have b4' := fun o => past1 b4 o
          go_wp2_with fail
          refine (H3'.out _ _ (by go_simp) (by go_simp) (by go_simp)).mono ?_
          rintro e w' ⟨rfl, rfl⟩
          cases b3
          · go_wp2_with fail
            refine (HA2.out _ (by refine Ints.below ir (B := wr.heap.size) ?_ (Nat.le_refl _); (repeat first | exact bel0 | assumption | refine bel1 ?_ | refine bel2 ?_ | refine bel3 ?_ | refine belowT ?_ (by assumption) | refine bel5 ?_ (by simp; try omega)))).mono ?_
            rintro e w' ⟨rfl, rfl⟩
            rw [all_any]
            cases hda : d.any (outB 0 999)
            all_goals
              go_wp2
              go_ret
              exact ⟨ret_int (by rw [HK.out, if_neg hne, hlen, if_neg h8, hda]; rfl), by (repeat first | exact bel0 | assumption | refine bel1 ?_ | refine bel2 ?_ | refine bel3 ?_ | refine belowT ?_ (by assumption) | refine bel5 ?_ (by simp; try omega))⟩
          · go_wp2
            go_ret
            exact ⟨ret_int (by rw [HK.out, if_neg hne, hlen, if_neg h8]; rfl), by (repeat first | exact bel0 | assumption | refine bel1 ?_ | refine bel2 ?_ | refine bel3 ?_ | refine belowT ?_ (by assumption) | refine bel5 ?_ (by simp; try omega))⟩
      · have he : hdk = ((m : Int) == 0) := by simpa using hd4
        go_wp2
        go_ret
        exact ⟨ret_int (by rw [HK.out, if_pos he]), by (repeat first | exact bel0 | assumption | refine bel1 ?_ | refine bel2 ?_ | refine bel3 ?_ | refine belowT ?_ (by assumption) | refine bel5 ?_ (by simp; try omega))⟩

set_option maxRecDepth 100000 in
theorem CheckCmd_c (a : Option Addr) (m c : Nat) (b : PC) (w : World) (h : Ints w a m c b.d) :
    Calls Tryd.prog 24 #[cmdV a m c b] w fun e w' => e = .returned (.int .i64 (checkC b)) ∧ Below w.heap.size w w' := by
  obtain ⟨k, z, n, t, d⟩ := b
  cases hk : outB 1 12 k
  · obtain ⟨i, rfl⟩ : ∃ i : Nat, k = i := ⟨k.toNat, by simp [outB] at hk; omega⟩
    simp [outB] at hk
    exact CheckCmd_k a m c i z n t d w h (by omega) (by omega)
  · have HK : Hid (checkC ⟨k, z, n, t, d⟩ = 4) := hide (by rw [checkC_fits, if_pos hk])
    have hin : inB k 1 12 = false := by rw [inB_outB, hk]; rfl
    clear hk
    unfold cmdV
    go_enter Tryd.func24, Tryd.ntmps24
    go_wp2_with (go_at_call 29; refine (in_c _ _ _ _).mono ?_; rintro e w' ⟨rfl, rfl⟩; rw [hin])
    go_ret
    exact ⟨ret_int HK.out.symm, by (repeat first | exact bel0 | assumption | refine bel1 ?_ | refine bel2 ?_ | refine bel3 ?_ | refine belowT ?_ (by assumption) | refine bel5 ?_ (by simp; try omega))⟩

end Go.Proofs.YtklabieacbbbfaaDoor

/- One more than a length; plain mathematics, no condition. -/
namespace Go.Proofs.YtklabieacbbbfaaDoor
open Go.RowKit
set_option linter.unusedVariables false
set_option maxRecDepth 100000
set_option linter.unusedSimpArgs false

/-- One more than a length, as the machine reckons it, is a small number only if it is that. -/
theorem len_more (n : Nat) (s : Int) (hn : n ≤ 9223372036854775807) (hs : inB s 0 40 = true) : ∃ m : Int, IntKind.i64.wrap ((n : Int) + 1) = m ∧ (s != m) = !decide (s = (n : Int) + 1) := by
  have hs' : 0 ≤ s ∧ s ≤ 40 := by simp [inB] at hs; omega
  by_cases h : n = 9223372036854775807
  · subst h
    refine ⟨-9223372036854775808, by decide, ?_⟩
    have e1 : (s != -9223372036854775808) = true := by simp; omega
    rw [e1, Bool.eq_iff_iff]
    simp
    omega
  · refine ⟨(n : Int) + 1, IntWalk.i64_in _ ⟨by omega, by omega⟩, ?_⟩
    rw [Bool.eq_iff_iff]
    simp

end Go.Proofs.YtklabieacbbbfaaDoor

/- The contract of the document's own CheckHand; no condition but that the argument reads as data. -/
namespace Go.Proofs.YtklabieacbbbfaaDoor
open Go.RowKit
set_option linter.unusedVariables false
set_option maxRecDepth 100000
set_option linter.unusedSimpArgs false

set_option maxHeartbeats 4000000 in
theorem CheckHandR_c (h : NV) (w : World) (hk : h.ok w) : Calls Tryd.prog 12 #[h.v] w fun e w' => e = .returned (.int .i64 (checkN h.p)) ∧ Below w.heap.size w w' := by
  have HSC := hide (fun w' (h1 : Ints w' h.ca h.cn h.cc h.c.d) => SameCmd_c h.ca none h.cn 0 h.cc 0 h.c zeroC w' h1 (Ints.nilSlice w'))
  have HCC := hide (fun w' (h1 : Ints w' h.ca h.cn h.cc h.c.d) => CheckCmd_c h.ca h.cn h.cc h.c w' h1)
  have HC : Hid (checkN h.p = if inB h.s 0 40 = false then 3 else if firstA (h.G.map AV.p) ≠ 0 then firstA (h.G.map AV.p) else if formN h.p = false then 4 else if h.w then checkC h.c else 0) := hide rfl
  have HL : Hid ((h.G.map AV.p).length = h.gn) := hide (by rw [List.length_map]; exact hk.g.len)
  have HF : Hid (formN h.p = if h.w then decide (h.s = (h.gn : Int) + 1) else decide (h.s = (h.gn : Int)) && sameC h.c zeroC) := hide (by
    unfold formN
    rw [← HL.out]
    rfl)
  have hmax := hk.g.max
  have hle := hk.g.le
  have x0 := Lay.made w h.cells 27
  have bw : Below w.heap.size w (w.alloc (.cells h.cells.toArray 27)) := by (repeat first | exact bel0 | assumption | refine bel1 ?_ | refine bel2 ?_ | refine bel3 ?_ | refine belowT ?_ (by assumption) | refine bel5 ?_ (by simp; try omega))
  have hok := hk.below bw (Nat.le_refl _)
  generalize checkN _ = r at *
  generalize formN _ = fm at *
  generalize checkC _ = cc0 at *
  generalize sameC _ _ = sc at *
  rw [show h.v = .agg h.cells.toArray from rfl] at *
  obtain ⟨s, v, ⟨k, z, u, t, d⟩, ca, cn, cc, ga, gn, gc, G⟩ := h
  dsimp only [NV.cells, cmdV, zeroC] at *
  cases hi : inB s 0 40
  · have HI := hide hi
    clear hi
    have c0 := x0.cell 0 _ rfl
    go_enter Tryd.func12, Tryd.ntmps12
    go_wp2_with fail
    refine (in_c _ _ _ _).mono ?_
    rintro e w9 ⟨rfl, rfl⟩
    rw [HI.out]
    go_wp2
    go_ret
    exact ⟨ret_int (by rw [HC.out, if_pos HI.out]), bw⟩
  · obtain ⟨gw, hgw, hcmp⟩ := len_more gn s (by omega) hi
    have HI : Hid (inB s 0 40 = true) := hide hi
    have HCMP := hide hcmp
    clear hi hcmp
    have c0 := x0.cell 0 _ rfl
    have c7 := x0.cell 7 _ rfl
    go_enter Tryd.func12, Tryd.ntmps12
    go_wp2_with fail
    refine (in_c _ _ _ _).mono ?_
    rintro e w1 ⟨rfl, rfl⟩
    rw [HI.out]
    go_wp2_with fail
    generalize w.alloc (.cells #[.int .i64 s, .bool v, .int .i64 k, .int .i64 z, .int .i64 u, .int .i64 t, .slice ca cn cc, .slice ga gn gc] 27) = w1 at *
    clear c0 c7
    go_loopw [13] (fun i wr => ∃ j : Nat, j ≤ gn ∧ i = .int .i64 j ∧ firstA ((G.map AV.p).take j) = 0 ∧ Below w1.heap.size w1 wr) (fun i _ => gn - (intOf i).toNat)
    case atStart => exact ⟨0, by omega, rfl, rfl, Below.refl _ _⟩
    case round =>
      obtain ⟨j, hj, rfl, hp, hbr⟩ := hrel
      have HP := hide hp
      clear hp
      rename_i wr
      by_cases hlt : j < gn
      · obtain ⟨b, off, y, rfl, hy, hyk, hblt, ky⟩ := hok.g.at hlt
        have iy := AV.ok.below hyk hbr (Nat.le_refl _)
        have HS := hide (fun w' h' => CheckAnswerR_c y w' h')
        have hyp : (G.map AV.p)[j]? = some y.p := by rw [List.getElem?_map, hy]; rfl
        have HBAD : Hid (checkA y.p ≠ 0 → r = checkA y.p) := hide (fun e => by
          have e1 := firstA_at hyp HP.out e
          rw [HC.out, if_neg (by simp [HI.out]), e1, if_pos e])
        have HNEXT : Hid (checkA y.p = 0 → firstA ((G.map AV.p).take (j + 1)) = 0) := hide (fun e => firstA_step hyp HP.out e)
        clear hy hyp
        generalize checkA y.p = cl at *
        obtain ⟨e1, t1, a1, n1, c1, d1⟩ := y
        dsimp only [AV.v, AV.cells] at HS ky
        have x0' := keepc hbr (ky 0 _ rfl)
        have x1' := keepc hbr (ky 1 _ rfl)
        have x2' := keepc hbr (ky 2 _ rfl)
        rw [Nat.add_zero] at x0'
        clear ky
        have hlt' : (j : Int) < (gn : Int) := by omega
        go_wp2_with fail
        refine (HS.out _ (AV.ok.below iy (B := wr.heap.size) (by (repeat first | exact bel0 | assumption | refine bel1 ?_ | refine bel2 ?_ | refine bel3 ?_ | refine belowT ?_ (by assumption) | refine bel5 ?_ (by simp; try omega))) (Nat.le_refl _))).mono ?_
        rintro e w9 ⟨rfl, hb9⟩
        have b9 : Below w1.heap.size w1 w9 := by (repeat first | exact bel0 | assumption | refine bel1 ?_ | refine bel2 ?_ | refine bel3 ?_ | refine belowT ?_ (by assumption) | refine bel5 ?_ (by simp; try omega))
        clear hb9
        cases h9 : cl != 0
        · go_wp2
          simp at h9
          exact ⟨⟨j + 1, by omega, by go_num, HNEXT.out h9, b9⟩, by simp [intOf]; omega⟩
        · go_wp2
          go_ret
          simp at h9
          exact ⟨ret_int (HBAD.out h9).symm, belowT bw b9⟩
      · obtain rfl : j = gn := by omega
        have hp := HP.out
        rw [List.take_of_length_le (by rw [HL.out]; omega)] at hp
        have HQ : Hid (r = if fm = false then 4 else if v then cc0 else 0) := hide (by rw [HC.out, if_neg (by simp [HI.out]), if_neg (by simp [hp])])
        clear hp
        have c0 := keepc hbr (x0.cell 0 _ rfl)
        have c1 := keepc hbr (x0.cell 1 _ rfl)
        have c2 := keepc hbr (x0.cell 2 _ rfl)
        have c3 := keepc hbr (x0.cell 3 _ rfl)
        have c4 := keepc hbr (x0.cell 4 _ rfl)
        have c5 := keepc hbr (x0.cell 5 _ rfl)
        have c6 := keepc hbr (x0.cell 6 _ rfl)
        have c7 := keepc hbr (x0.cell 7 _ rfl)
        replace hok := hok.below hbr (Nat.le_refl _)
        replace bw := belowT bw hbr
        clear x0 hbr
        have hci := hok.c
        cases v
        · cases hs : s != (j : Int)
          · have hs' : s = (j : Int) := by simpa using hs
            have HS' : Hid (fm = sc) := hide (by rw [HF.out, if_neg (by simp)]; simp [hs'])
            clear hs'
            go_wp2_with fail
            refine (HSC.out _ hci).mono ?_
            rintro e w9 ⟨rfl, hb9⟩
            cases sc
            · go_wp2
              go_ret
              exact ⟨ret_int (by rw [HQ.out, HS'.out]; rfl), belowT bw hb9⟩
            · replace c1 := keepc hb9 c1
              go_wp2
              go_ret
              exact ⟨ret_int (by rw [HQ.out, HS'.out]; rfl), belowT bw hb9⟩
          · have HS' : Hid (fm = false) := hide (by rw [HF.out, if_neg (by simp)]; simp at hs; simp [hs])
            go_wp2
            go_ret
            exact ⟨ret_int (by rw [HQ.out, HS'.out]; rfl), bw⟩
        · cases hs : decide (s = (j : Int) + 1)
          · have hs2 : (s != gw) = true := by rw [HCMP.out, hs]; rfl
            have HS' : Hid (fm = false) := hide (by rw [HF.out, if_pos rfl]; exact hs)
            clear hs
            go_wp2
            go_ret
            exact ⟨ret_int (by rw [HQ.out, HS'.out]; rfl), bw⟩
          · have hs2 : (s != gw) = false := by rw [HCMP.out, hs]; rfl
            have HS' : Hid (fm = true) := hide (by rw [HF.out, if_pos rfl]; exact hs)
            clear hs
            go_wp2_with fail
            refine (HCC.out _ hci).mono ?_
            rintro e w9 ⟨rfl, hb9⟩
            go_wp2
            go_ret
            exact ⟨ret_int (by rw [HQ.out, HS'.out]; rfl), belowT bw hb9⟩

end Go.Proofs.YtklabieacbbbfaaDoor
