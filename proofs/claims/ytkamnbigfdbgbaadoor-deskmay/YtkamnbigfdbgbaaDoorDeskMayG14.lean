/- The contracts of package cmd's small functions: singles, outside, ContainsFunc, fits, Same; no condition but that the data reads as a list. -/
import Derived.Test.YtkamnbigfdbgbaaDoorDeskMayG4
import Derived.Test.YtkamnbigfdbgbaaDoorDeskMayG13
import Derived.Deep.Light
import Derived.Deep.RegionHeld3
namespace Go.Proofs.YtkamnbigfdbgbaaDoor
open Go.RowKit
set_option linter.unusedVariables false
set_option maxRecDepth 100000
set_option linter.unusedSimpArgs false

theorem cmdOutside_c (v : Int) (w : World) : Calls Tryd.prog 44 #[.int .i64 v] w fun e w' => e = .returned (.bool (outB 0 999 v)) ∧ w' = w := by
  go_enter Tryd.func44, Tryd.ntmps44
  go_wp2
  all_goals (go_ret; exact ⟨ret_bool (by unfold outB; simp_all), rfl⟩)

theorem singles_c (a : Option Addr) (m c : Nat) (k z n t : Int) (w : World) :
    Calls Tryd.prog 42 #[.agg #[.int .i64 k, .int .i64 z, .int .i64 n, .int .i64 t, .slice a m c]] w fun e w' => e = .returned (.agg #[.int .i64 z, .int .i64 t, .int .i64 n]) ∧ Below w.heap.size w w' := by
  go_enter Tryd.func42, Tryd.ntmps42
  go_wp2
  refine bodyPost_ret (v := .agg #[.int .i64 z, .int .i64 t, .int .i64 n]) (by simp [results, Tryd.results42, go_sem]) rfl ⟨rfl, ?_⟩
  (repeat first | exact bel0 | assumption | refine bel1 ?_ | refine bel2 ?_ | refine bel3 ?_ | refine belowT ?_ (by assumption) | refine bel5 ?_ (by simp; try omega))

set_option maxHeartbeats 400000 in
theorem cmdIndexFunc_some (b1 o1 n1 c1 : Nat) (l1 : List Int) (w : World) (hl1 : l1.length = n1) (hm1 : n1 ≤ 9223372036854775807)
    (hr1 : ∀ i, i < n1 → w.cell? ⟨b1, o1 + i, none⟩ = some (.int .i64 (l1.getD i 0))) :
    Calls Tryd.prog 57 #[.slice (some ⟨b1, o1, none⟩) n1 c1, .func (Fn.func 44) #[] #[]] w
      fun e w' => (∃ r, e = .returned (.int .i64 r) ∧ decide (0 ≤ r) = l1.any (outB 0 999)) ∧ w' = w := by
  go_enter Tryd.func57, Tryd.ntmps57
  go_wp2
  go_loop [8] (fun i => ∃ k : Nat, k ≤ n1 ∧ i = .int .i64 k ∧ (l1.take k).any (outB 0 999) = false) (fun i => n1 - (intOf i).toNat)
  case atStart => exact ⟨0, by omega, rfl, by simp⟩
  case round =>
    obtain ⟨k, hk, rfl, ht⟩ := hrel
    by_cases hlt : k < n1
    · have hi1 := hr1 k hlt
      have hlt' : (k : Int) < (n1 : Int) := by omega
      have HT := hide ht
      clear ht hr1
      generalize hx : l1.getD k 0 = x at hi1
      have HX := hide hx
      clear hx
      go_wp2_with (go_at_call 44; refine (cmdOutside_c x _).mono ?_; rintro e w' ⟨rfl, rfl⟩)
      · rename_i hxy
        go_ret
        exact ⟨⟨k, rfl, by rw [any_of_getD _ l1 k (by omega) (by rw [HX.out]; exact hxy)]; simp⟩, rfl⟩
      · rename_i hxy
        exact ⟨⟨k + 1, by omega, by go_num, any_take_step _ l1 k (by omega) HT.out (by rw [HX.out]; exact hxy)⟩, by simp [intOf]; omega⟩
    · go_wp2
      go_ret
      rw [List.take_of_length_le (by omega)] at ht
      exact ⟨⟨-1, rfl, by rw [ht]; rfl⟩, rfl⟩

theorem cmdIndexFunc_none (a1 : Option Addr) (c1 : Nat) (w : World) :
    Calls Tryd.prog 57 #[.slice a1 0 c1, .func (Fn.func 44) #[] #[]] w
      fun e w' => (∃ r, e = .returned (.int .i64 r) ∧ decide (0 ≤ r) = false) ∧ w' = w := by
  go_enter Tryd.func57, Tryd.ntmps57
  go_wp2
  refine wp_loop_rounds 1 ?_; rw [rounds_succ]
  go_wp2
  go_ret
  exact ⟨⟨-1, rfl, rfl⟩, rfl⟩

theorem cmdContainsFunc_c (a1 : Option Addr) (n1 c1 : Nat) (l1 : List Int) (w : World) (h1 : Ints w a1 n1 c1 l1) :
    Calls Tryd.prog 43 #[.slice a1 n1 c1, .func (Fn.func 44) #[] #[]] w
      fun e w' => e = .returned (.bool (l1.any (outB 0 999))) ∧ w' = w := by
  have hI : Calls Tryd.prog 57 #[.slice a1 n1 c1, .func (Fn.func 44) #[] #[]] w
      fun e w' => (∃ r, e = .returned (.int .i64 r) ∧ decide (0 ≤ r) = l1.any (outB 0 999)) ∧ w' = w := by
    obtain ⟨hl1, hc1, hm1, hn1, hr1, hw1⟩ := h1
    rcases hr1 with h0 | ⟨b1, o1, rfl, _, hr1⟩
    · subst h0
      rw [List.length_eq_zero_iff] at hl1
      subst hl1
      exact cmdIndexFunc_none a1 c1 w
    · exact cmdIndexFunc_some b1 o1 n1 c1 l1 w hl1 (by omega) hr1
  have HI := hide hI
  clear hI
  go_enter Tryd.func43, Tryd.ntmps43
  go_wp2_with fail
  refine HI.out.mono ?_
  rintro e w' ⟨⟨r, rfl, hr⟩, rfl⟩
  have HR := hide hr
  clear hr
  go_wp2
  go_ret
  exact ⟨ret_bool HR.out, rfl⟩

/-- What 'fits' answers. -/
def fitsC (z t n : Int) (d : List Int) (hz ha hn hd : Bool) : Bool := !((z != 0 && !hz) || (t != 0 && !ha) || (n != 0 && !hn)) && (hd == decide (d ≠ []))

set_option maxRecDepth 100000 in
set_option maxHeartbeats 4000000 in
theorem cmdFits_c (a : Option Addr) (m c : Nat) (k z n t : Int) (d : List Int) (hz ha hn hd : Bool) (w : World) (h : Ints w a m c d) :
    Calls Tryd.prog 41 #[cmdV a m c ⟨k, z, n, t, d⟩, .agg #[.bool hz, .bool ha, .bool hn, .bool hd]] w fun e w' => e = .returned (.bool (fitsC z t n d hz ha hn hd)) ∧ Below w.heap.size w w' := by
  have hlen := h.len
  have hmax := h.max
  have hle := h.le
  have i0 : ∀ w : World, (Instr.index 79 (.agg #[.int .i64 z, .int .i64 t, .int .i64 n]) (.int .i64 0)).run Tryd.prog w = .ok (.int .i64 z) w := fun w => by kernel_rfl
  have i1 : ∀ w : World, (Instr.index 79 (.agg #[.int .i64 z, .int .i64 t, .int .i64 n]) (.int .i64 1)).run Tryd.prog w = .ok (.int .i64 t) w := fun w => by kernel_rfl
  have i2 : ∀ w : World, (Instr.index 79 (.agg #[.int .i64 z, .int .i64 t, .int .i64 n]) (.int .i64 2)).run Tryd.prog w = .ok (.int .i64 n) w := fun w => by kernel_rfl
  unfold cmdV
  go_enter Tryd.func41, Tryd.ntmps41
  go_wp2_with fail
  refine (singles_c _ _ _ _ _ _ _ _).mono ?_
  rintro e w1 ⟨rfl, hb1⟩
  have bw : Below w.heap.size w w1 := by (repeat first | exact bel0 | assumption | refine bel1 ?_ | refine bel2 ?_ | refine bel3 ?_ | refine belowT ?_ (by assumption) | refine bel5 ?_ (by simp; try omega))
  have b4 := keepc hb1 (p := ⟨w.heap.size, 4, none⟩) (u := .slice a m c) (by go_simp)
  have c0 := keepc hb1 (p := ⟨w.heap.size + 1, 0, none⟩) (u := .bool hz) (by go_simp)
  have c1 := keepc hb1 (p := ⟨w.heap.size + 1, 1, none⟩) (u := .bool ha) (by go_simp)
  have c2 := keepc hb1 (p := ⟨w.heap.size + 1, 2, none⟩) (u := .bool hn) (by go_simp)
  have c3 := keepc hb1 (p := ⟨w.heap.size + 1, 3, none⟩) (u := .bool hd) (by go_simp)
  clear hb1
  have hd0 : decide (0 < (m : Int)) = decide (d ≠ []) := by
    rw [Bool.eq_iff_iff]
    simp
    rw [← hlen, List.length_pos_iff]
  have HF : Hid (fitsC z t n d hz ha hn hd = (!((z != 0 && !hz) || (t != 0 && !ha) || (n != 0 && !hn)) && (hd == decide (d ≠ [])))) := hide rfl
  generalize decide (d ≠ []) = dd at hd0 HF
  clear hlen hmax hle h
  go_wp2
  go_loop [9] (fun x => ∃ i : Nat, i ≤ 3 ∧ x = .int .i64 i ∧ ((0 < i → (z != 0 && !hz) = false) ∧ (1 < i → (t != 0 && !ha) = false) ∧ (2 < i → (n != 0 && !hn) = false))) (fun x => 3 - (intOf x).toNat)
  case atStart => exact ⟨0, by omega, rfl, ⟨by omega, by omega, by omega⟩⟩
  case round =>
    obtain ⟨i, hi, rfl, hno⟩ := hrel
    have HNO := hide hno
    clear hno
    rcases (by omega : i = 0 ∨ i = 1 ∨ i = 2 ∨ i = 3) with rfl | rfl | rfl | rfl
    · cases hq : z != 0 <;> cases hz
      all_goals go_wp2
      · exact ⟨⟨1, by omega, by go_num, ⟨fun _ => by simp [hq], by omega, by omega⟩⟩, by simp [intOf]⟩
      · exact ⟨⟨1, by omega, by go_num, ⟨fun _ => by simp [hq], by omega, by omega⟩⟩, by simp [intOf]⟩
      · go_ret
        exact ⟨ret_bool (by rw [HF.out, hq]; simp), bw⟩
      · exact ⟨⟨1, by omega, by go_num, ⟨fun _ => by simp [hq], by omega, by omega⟩⟩, by simp [intOf]⟩
    · cases hq : t != 0 <;> cases ha
      all_goals go_wp2
      · exact ⟨⟨2, by omega, by go_num, ⟨fun _ => HNO.out.1 (by omega), fun _ => by simp [hq], by omega⟩⟩, by simp [intOf]⟩
      · exact ⟨⟨2, by omega, by go_num, ⟨fun _ => HNO.out.1 (by omega), fun _ => by simp [hq], by omega⟩⟩, by simp [intOf]⟩
      · go_ret
        exact ⟨ret_bool (by rw [HF.out, hq]; simp), bw⟩
      · exact ⟨⟨2, by omega, by go_num, ⟨fun _ => HNO.out.1 (by omega), fun _ => by simp [hq], by omega⟩⟩, by simp [intOf]⟩
    · cases hq : n != 0 <;> cases hn
      all_goals go_wp2
      · exact ⟨⟨3, by omega, by go_num, ⟨fun _ => HNO.out.1 (by omega), fun _ => HNO.out.2.1 (by omega), fun _ => by simp [hq]⟩⟩, by simp [intOf]⟩
      · exact ⟨⟨3, by omega, by go_num, ⟨fun _ => HNO.out.1 (by omega), fun _ => HNO.out.2.1 (by omega), fun _ => by simp [hq]⟩⟩, by simp [intOf]⟩
      · go_ret
        exact ⟨ret_bool (by rw [HF.out, hq]; simp), bw⟩
      · exact ⟨⟨3, by omega, by go_num, ⟨fun _ => HNO.out.1 (by omega), fun _ => HNO.out.2.1 (by omega), fun _ => by simp [hq]⟩⟩, by simp [intOf]⟩
    · go_wp2
      go_ret
      refine ⟨ret_bool ?_, bw⟩
      rw [HF.out, HNO.out.1 (by omega), HNO.out.2.1 (by omega), HNO.out.2.2 (by omega)]
      have hm : decide (0 < m) = dd := by simpa using hd0
      rw [hm]
      simp

end Go.Proofs.YtkamnbigfdbgbaaDoor

/- The contract of cmd.Check; no condition but that the data reads as a list and the package's table is as its text lays it. -/
namespace Go.Proofs.YtkamnbigfdbgbaaDoor
open Go.RowKit
set_option linter.unusedVariables false
set_option maxRecDepth 100000
set_option linter.unusedSimpArgs false

theorem cmdContainsFunc_three (g : Nat) (x y z : Int) (w : World) (h0 : w.cell? ⟨g, 0, none⟩ = some (.int .i64 x)) (h1 : w.cell? ⟨g, 1, none⟩ = some (.int .i64 y)) (h2 : w.cell? ⟨g, 2, none⟩ = some (.int .i64 z)) :
    Calls Tryd.prog 43 #[.slice (some ⟨g, 0, none⟩) 3 3, .func (Fn.func 44) #[] #[]] w
      fun e w' => e = .returned (.bool ([x, y, z].any (outB 0 999))) ∧ w' = w := by
  have HI := hide (cmdIndexFunc_some g 0 3 3 [x, y, z] w rfl (by decide) (fun i hi => by
    rcases (by omega : i = 0 ∨ i = 1 ∨ i = 2) with rfl | rfl | rfl <;> assumption))
  go_enter Tryd.func43, Tryd.ntmps43
  go_wp2_with fail
  refine HI.out.mono ?_
  rintro e w' ⟨⟨r, rfl, hr⟩, rfl⟩
  have HR := hide hr
  clear hr
  go_wp2
  go_ret
  exact ⟨ret_bool HR.out, rfl⟩

theorem checkC_fits (k z n t : Int) (d : List Int) : checkC ⟨k, z, n, t, d⟩ = if outB 1 12 k then 4 else if fitsC z t n d (hasZ k) (hasA k) (hasN k) (hasD k) = false then 4 else if 8 < d.length then 2 else if [z, t, n].any (outB 0 999) || d.any (outB 0 999) then 3 else 0 := by
  unfold checkC fitsC
  dsimp only
  split
  · rfl
  · rename_i ho
    cases hz : hasZ k <;> cases ha : hasA k <;> cases hn : hasN k <;> cases hd : hasD k <;> by_cases hzz : z = 0 <;> by_cases htt : t = 0 <;> by_cases hnn : n = 0 <;> by_cases hdd : d = [] <;> simp [hzz, htt, hnn, hdd, or_assoc]

set_option maxRecDepth 100000 in
set_option maxHeartbeats 4000000 in
theorem Check_out (a : Option Addr) (m c : Nat) (k z n t : Int) (d : List Int) (w : World) (h : Ints w a m c d) (hk : outB 1 12 k = true) :
    Calls Tryd.prog 26 #[cmdV a m c ⟨k, z, n, t, d⟩] w fun e w' => e = .returned (.int .i64 (checkC ⟨k, z, n, t, d⟩)) ∧ Below w.heap.size w w' := by
  unfold cmdV
  have HK : Hid (checkC ⟨k, z, n, t, d⟩ = 4) := hide (by rw [checkC_fits, if_pos hk])
  by_cases h1 : k < 1
  · clear hk
    go_enter Tryd.func26, Tryd.ntmps26
    go_wp2
    go_ret
    exact ⟨ret_int HK.out.symm, by (repeat first | exact bel0 | assumption | refine bel1 ?_ | refine bel2 ?_ | refine bel3 ?_ | refine belowT ?_ (by assumption) | refine bel5 ?_ (by simp; try omega))⟩
  · have h2 : 13 ≤ k := by simp [outB] at hk; omega
    clear hk
    go_enter Tryd.func26, Tryd.ntmps26
    go_wp2
    go_ret
    exact ⟨ret_int HK.out.symm, by (repeat first | exact bel0 | assumption | refine bel1 ?_ | refine bel2 ?_ | refine bel3 ?_ | refine belowT ?_ (by assumption) | refine bel5 ?_ (by simp; try omega))⟩

set_option maxRecDepth 100000 in
set_option maxHeartbeats 4000000 in
theorem Check_in (a : Option Addr) (m c : Nat) (k : Nat) (z n t : Int) (d : List Int) (w : World) (hS : Shapes w) (h : Ints w a m c d) (hk1 : 1 ≤ k) (hk2 : k ≤ 12) :
    Calls Tryd.prog 26 #[cmdV a m c ⟨k, z, n, t, d⟩] w fun e w' => e = .returned (.int .i64 (checkC ⟨k, z, n, t, d⟩)) ∧ Below w.heap.size w w' := by
  have hlen := h.len
  have hmax := h.max
  have hle := h.le
  have s1 := hS.hz k hk2
  have s2 : w.cell? ⟨0, k * 5 + 1 + 1, none⟩ = some (.bool (hasA k)) := hS.ha k hk2
  have s3 : w.cell? ⟨0, k * 5 + 1 + 2, none⟩ = some (.bool (hasN k)) := hS.hn k hk2
  have s4 : w.cell? ⟨0, k * 5 + 1 + 3, none⟩ = some (.bool (hasD k)) := hS.hd k hk2
  have HF := fun hz ha hn hd w' h' => cmdFits_c a m c k z n t d hz ha hn hd w' h'
  have HK : Hid (checkC ⟨k, z, n, t, d⟩ = if fitsC z t n d (hasZ k) (hasA k) (hasN k) (hasD k) = false then 4 else if 8 < d.length then 2 else if [z, t, n].any (outB 0 999) || d.any (outB 0 999) then 3 else 0) := hide (by rw [checkC_fits, if_neg (by simp [outB]; omega)])
  unfold cmdV at *
  have k1 : (1 : Int) ≤ (k : Int) := by omega
  have k2 : (k : Int) < 13 := by omega
  have k0 : (0 : Int) ≤ (k : Int) := by omega
  clear hS
  generalize hasZ k = hz at *
  generalize hasA k = ha at *
  generalize hasN k = hn at *
  generalize hasD k = hd at *
  replace s1 := fun o => past1 s1 o
  replace s2 := fun o => past1 s2 o
  replace s3 := fun o => past1 s3 o
  replace s4 := fun o => past1 s4 o
  go_enter Tryd.func26, Tryd.ntmps26
  go_wp2
  go_region_held3 (fun w' => w'.cell? ⟨w.heap.size, 0, none⟩ = some (.int .i64 k) ∧ w'.cell? ⟨w.heap.size, 1, none⟩ = some (.int .i64 z) ∧ w'.cell? ⟨w.heap.size, 2, none⟩ = some (.int .i64 n) ∧ w'.cell? ⟨w.heap.size, 3, none⟩ = some (.int .i64 t) ∧ w'.cell? ⟨w.heap.size, 4, none⟩ = some (.slice a m c) ∧ w'.cell? ⟨0, k * 5 + 1, none⟩ = some (.bool hz) ∧ w'.cell? ⟨0, k * 5 + 1 + 1, none⟩ = some (.bool ha) ∧ w'.cell? ⟨0, k * 5 + 1 + 2, none⟩ = some (.bool hn) ∧ w'.cell? ⟨0, k * 5 + 1 + 3, none⟩ = some (.bool hd)) ((first | (go_simp; done) | (simp [*, World.cell?_alloc_at, World.cell?_alloc_past, World.cell?_alloc_some, World.cell?_setCell_far]; done))) (first | (go_at_call 41; refine (HF _ _ _ _ _ (by refine Ints.below h (B := w.heap.size) ?_ (Nat.le_refl _); (repeat first | exact bel0 | assumption | refine bel1 ?_ | refine bel2 ?_ | refine bel3 ?_ | refine belowT ?_ (by assumption) | refine bel5 ?_ (by simp; try omega)))).mono ?_; rintro e w9 ⟨rfl, hb9⟩; (have f0 := keepc hb9 (p := ⟨w.heap.size, 0, none⟩) (u := .int .i64 k) (by (first | (go_simp; done) | (simp [*, World.cell?_alloc_at, World.cell?_alloc_past, World.cell?_alloc_some, World.cell?_setCell_far]; done)))); (have f1 := keepc hb9 (p := ⟨w.heap.size, 1, none⟩) (u := .int .i64 z) (by (first | (go_simp; done) | (simp [*, World.cell?_alloc_at, World.cell?_alloc_past, World.cell?_alloc_some, World.cell?_setCell_far]; done)))); (have f2 := keepc hb9 (p := ⟨w.heap.size, 2, none⟩) (u := .int .i64 n) (by (first | (go_simp; done) | (simp [*, World.cell?_alloc_at, World.cell?_alloc_past, World.cell?_alloc_some, World.cell?_setCell_far]; done)))); (have f3 := keepc hb9 (p := ⟨w.heap.size, 3, none⟩) (u := .int .i64 t) (by (first | (go_simp; done) | (simp [*, World.cell?_alloc_at, World.cell?_alloc_past, World.cell?_alloc_some, World.cell?_setCell_far]; done)))); (have f4 := keepc hb9 (p := ⟨w.heap.size, 4, none⟩) (u := .slice a m c) (by (first | (go_simp; done) | (simp [*, World.cell?_alloc_at, World.cell?_alloc_past, World.cell?_alloc_some, World.cell?_setCell_far]; done)))); (have f5 := keepc hb9 (p := ⟨0, k * 5 + 1, none⟩) (u := .bool hz) (by (first | (go_simp; done) | (simp [*, World.cell?_alloc_at, World.cell?_alloc_past, World.cell?_alloc_some, World.cell?_setCell_far]; done)))); (have f6 := keepc hb9 (p := ⟨0, k * 5 + 1 + 1, none⟩) (u := .bool ha) (by (first | (go_simp; done) | (simp [*, World.cell?_alloc_at, World.cell?_alloc_past, World.cell?_alloc_some, World.cell?_setCell_far]; done)))); (have f7 := keepc hb9 (p := ⟨0, k * 5 + 1 + 2, none⟩) (u := .bool hn) (by (first | (go_simp; done) | (simp [*, World.cell?_alloc_at, World.cell?_alloc_past, World.cell?_alloc_some, World.cell?_setCell_far]; done)))); (have f8 := keepc hb9 (p := ⟨0, k * 5 + 1 + 3, none⟩) (u := .bool hd) (by (first | (go_simp; done) | (simp [*, World.cell?_alloc_at, World.cell?_alloc_past, World.cell?_alloc_some, World.cell?_setCell_far]; done))))))
  have bw : Below w.heap.size w w9 := by (repeat first | exact bel0 | assumption | refine bel1 ?_ | refine bel2 ?_ | refine bel3 ?_ | refine belowT ?_ (by assumption) | refine bel5 ?_ (by simp; try omega))
  replace h := h.below bw (Nat.le_refl _)
  clear hb9 f5 f6 f7 f8 s1 s2 s3 s4 HF
  cases hf : fitsC z t n d hz ha hn hd
  · go_wp2
    go_ret
    exact ⟨ret_int (by rw [HK.out, hf]; rfl), bw⟩
  · by_cases h8 : 8 < m
    · have h8' : (8 : Int) < (m : Int) := by omega
      go_wp2
      go_ret
      exact ⟨ret_int (by rw [HK.out, hf, hlen, if_neg (by simp), if_pos h8]), bw⟩
    · have h8' : ¬ (8 : Int) < (m : Int) := by omega
      go_wp2_with fail
      refine (singles_c _ _ _ _ _ _ _ _).mono ?_
      rintro e w1 ⟨rfl, hb1⟩
      replace bw : Below w.heap.size w w1 := by (repeat first | exact bel0 | assumption | refine bel1 ?_ | refine bel2 ?_ | refine bel3 ?_ | refine belowT ?_ (by assumption) | refine bel5 ?_ (by simp; try omega))
      replace h := h.below hb1 (Nat.le_refl _)
      have b4 := fun o => past1 (keepc hb1 f4) o
      clear hb1 f0 f1 f2 f3 f4
      have H3 := fun w' h0 h1 h2 => cmdContainsFunc_three w1.heap.size z t n w' h0 h1 h2
      generalize [z, t, n].any (outB 0 999) = b3 at HK H3
      go_wp2_with fail
      refine (H3 _ (by go_simp) (by go_simp) (by go_simp)).mono ?_
      rintro e w' ⟨rfl, rfl⟩
      cases b3
      · go_wp2_with fail
        refine (cmdContainsFunc_c a m c d _ (by refine Ints.below h (B := w1.heap.size) ?_ (Nat.le_refl _); (repeat first | exact bel0 | assumption | refine bel1 ?_ | refine bel2 ?_ | refine bel3 ?_ | refine belowT ?_ (by assumption) | refine bel5 ?_ (by simp; try omega)))).mono ?_
        rintro e w' ⟨rfl, rfl⟩
        cases hda : d.any (outB 0 999)
        all_goals
          go_wp2
          go_ret
          exact ⟨ret_int (by rw [HK.out, hf, hlen, if_neg (by simp), if_neg h8, hda]; rfl), by (repeat first | exact bel0 | assumption | refine bel1 ?_ | refine bel2 ?_ | refine bel3 ?_ | refine belowT ?_ (by assumption) | refine bel5 ?_ (by simp; try omega))⟩
      · go_wp2
        go_ret
        exact ⟨ret_int (by rw [HK.out, hf, hlen, if_neg (by simp), if_neg h8]; rfl), by (repeat first | exact bel0 | assumption | refine bel1 ?_ | refine bel2 ?_ | refine bel3 ?_ | refine belowT ?_ (by assumption) | refine bel5 ?_ (by simp; try omega))⟩

theorem cmdCheck_c (a : Option Addr) (m c : Nat) (b : PC) (w : World) (hS : Shapes w) (h : Ints w a m c b.d) :
    Calls Tryd.prog 26 #[cmdV a m c b] w fun e w' => e = .returned (.int .i64 (checkC b)) ∧ Below w.heap.size w w' := by
  obtain ⟨k, z, n, t, d⟩ := b
  cases hk : outB 1 12 k
  · obtain ⟨i, rfl⟩ : ∃ i : Nat, k = i := ⟨k.toNat, by simp [outB] at hk; omega⟩
    simp [outB] at hk
    exact Check_in a m c i z n t d w hS h (by omega) (by omega)
  · exact Check_out a m c k z n t d w h hk

end Go.Proofs.YtkamnbigfdbgbaaDoor

/- The contracts of desk's CheckAnswer, checkDo, reserved, turned, may and read; no condition but that the arguments read as data, and where a right desk is said so. -/
namespace Go.Proofs.YtkamnbigfdbgbaaDoor
open Go.RowKit
set_option linter.unusedVariables false
set_option maxRecDepth 100000
set_option linter.unusedSimpArgs false

set_option maxHeartbeats 2000000 in
theorem DCheckAnswer_c (x : AV) (w : World) (h : x.ok w) : Calls Tryd.prog 9 #[x.v] w fun e w' => e = .returned (.int .i64 (checkA x.p)) ∧ Below w.heap.size w w' := by
  obtain ⟨ee, tt, a, n, c, l⟩ := x
  have hI : Ints w a n c l := h
  dsimp only [AV.v, AV.p]
  have hlen := hI.len
  have hmax := hI.max
  have hle := hI.le
  rcases (by omega : ee < 0 ∨ (0 ≤ ee ∧ 9 < ee) ∨ (0 ≤ ee ∧ ee ≤ 9)) with h1 | ⟨h0, h1⟩ | ⟨h0, h1⟩
  · have HC : Hid (checkA ⟨ee, tt, l⟩ = 3) := hide (by unfold checkA; exact if_pos (.inl (by simp [outB]; omega)))
    go_enter Tryd.func9, Tryd.ntmps9
    go_wp2
    go_ret
    exact ⟨ret_int HC.out.symm, by (repeat first | exact bel0 | assumption | refine bel1 ?_ | refine bel2 ?_ | refine bel3 ?_ | refine belowT ?_ (by assumption) | refine bel5 ?_ (by simp; try omega))⟩
  · have HC : Hid (checkA ⟨ee, tt, l⟩ = 3) := hide (by unfold checkA; exact if_pos (.inl (by simp [outB]; omega)))
    go_enter Tryd.func9, Tryd.ntmps9
    go_wp2
    go_ret
    exact ⟨ret_int HC.out.symm, by (repeat first | exact bel0 | assumption | refine bel1 ?_ | refine bel2 ?_ | refine bel3 ?_ | refine belowT ?_ (by assumption) | refine bel5 ?_ (by simp; try omega))⟩
  · cases ht : inB tt 0 7
    · have HC : Hid (checkA ⟨ee, tt, l⟩ = 3) := hide (by unfold checkA; exact if_pos (.inr (by rw [inB_outB] at ht; simpa using ht)))
      have HT := hide ht
      clear ht
      go_enter Tryd.func9, Tryd.ntmps9
      go_wp2_with (go_at_call 21; refine (dwithin_c _ _ _ _).mono ?_; rintro e w1 ⟨rfl, rfl⟩; rw [HT.out])
      go_ret
      exact ⟨ret_int HC.out.symm, by (repeat first | exact bel0 | assumption | refine bel1 ?_ | refine bel2 ?_ | refine bel3 ?_ | refine belowT ?_ (by assumption) | refine bel5 ?_ (by simp; try omega))⟩
    · have HC : Hid (checkA ⟨ee, tt, l⟩ = if 8 < l.length then 2 else if l.any (outB 0 999) then 3 else if ee ≠ 0 ∧ (tt ≠ 0 ∨ l ≠ []) then 4 else 0) := hide (by
        unfold checkA
        exact if_neg (by rw [inB_outB] at ht; simp only [Bool.not_eq_true'] at ht; rw [ht]; simp [outB]; omega))
      have HT := hide ht
      clear ht
      by_cases h8 : 8 < n
      · have h8' : (8 : Int) < (n : Int) := by omega
        go_enter Tryd.func9, Tryd.ntmps9
        go_wp2_with (go_at_call 21; refine (dwithin_c _ _ _ _).mono ?_; rintro e w1 ⟨rfl, rfl⟩; rw [HT.out])
        go_ret
        exact ⟨ret_int (by rw [HC.out, hlen, if_pos h8]), by (repeat first | exact bel0 | assumption | refine bel1 ?_ | refine bel2 ?_ | refine bel3 ?_ | refine belowT ?_ (by assumption) | refine bel5 ?_ (by simp; try omega))⟩
      · have h8' : ¬ (8 : Int) < (n : Int) := by omega
        go_enter Tryd.func9, Tryd.ntmps9
        go_wp2_with (go_at_call 21; refine (dwithin_c _ _ _ _).mono ?_; rintro e w1 ⟨rfl, rfl⟩; rw [HT.out])
        go_loop [26] (fun i => ∃ k : Nat, k ≤ n ∧ i = .int .i64 k ∧ (l.take k).any (outB 0 999) = false) (fun i => n - (intOf i).toNat)
        case atStart => exact ⟨0, by omega, rfl, by simp⟩
        case round =>
          obtain ⟨k, hk, rfl, hno⟩ := hrel
          have HN := hide hno
          clear hno
          by_cases hlt : k < n
          · have hlt' : (k : Int) < (n : Int) := by omega
            rcases hI.row with h00 | ⟨b1, o1, rfl, _, hr1⟩
            · omega
            · have hi1 := past1 (hr1 k hlt)
              generalize hx : l.getD k 0 = x at hi1
              have HX := hide hx
              clear hx hr1
              cases hin : inB x 0 999
              · have HIN := hide hin
                clear hin
                go_wp2_with (go_at_call 21; refine (dwithin_c _ _ _ _).mono ?_; rintro e w1 ⟨rfl, rfl⟩; rw [HIN.out])
                go_ret
                refine ⟨ret_int ?_, by (repeat first | exact bel0 | assumption | refine bel1 ?_ | refine bel2 ?_ | refine bel3 ?_ | refine belowT ?_ (by assumption) | refine bel5 ?_ (by simp; try omega))⟩
                have hin := HIN.out
                rw [inB_outB] at hin
                rw [HC.out, hlen, if_neg h8, any_of_getD _ l k (by omega) (by rw [HX.out]; simpa using hin)]
                rfl
              · have HIN := hide hin
                clear hin
                go_wp2_with (go_at_call 21; refine (dwithin_c _ _ _ _).mono ?_; rintro e w1 ⟨rfl, rfl⟩; rw [HIN.out])
                have hin := HIN.out
                rw [inB_outB] at hin
                exact ⟨⟨k + 1, by omega, by go_num, any_take_step _ l k (by omega) HN.out (by rw [HX.out]; simpa using hin)⟩, by simp [intOf]; omega⟩
          · obtain rfl : k = n := by omega
            have hno := HN.out
            rw [List.take_of_length_le (by omega)] at hno
            have HN2 := hide hno
            clear hno HN
            cases e0 : ee != 0
            · go_wp2
              go_ret
              exact ⟨ret_int (by simp at e0; rw [HC.out, hlen, if_neg h8, HN2.out]; simp [e0]), by (repeat first | exact bel0 | assumption | refine bel1 ?_ | refine bel2 ?_ | refine bel3 ?_ | refine belowT ?_ (by assumption) | refine bel5 ?_ (by simp; try omega))⟩
            · cases t0 : tt != 0
              · by_cases hk0 : 0 < k
                · have hk0' : (0 : Int) < (k : Int) := by omega
                  go_wp2
                  go_ret
                  have hl : l ≠ [] := fun e => by rw [e] at hlen; simp at hlen; omega
                  exact ⟨ret_int (by simp at e0; rw [HC.out, hlen, if_neg h8, HN2.out]; simp [e0, hl]), by (repeat first | exact bel0 | assumption | refine bel1 ?_ | refine bel2 ?_ | refine bel3 ?_ | refine belowT ?_ (by assumption) | refine bel5 ?_ (by simp; try omega))⟩
                · have hk0' : ¬ (0 : Int) < (k : Int) := by omega
                  go_wp2
                  go_ret
                  have hl : l = [] := List.eq_nil_of_length_eq_zero (by omega)
                  exact ⟨ret_int (by simp at t0; rw [HC.out, hlen, if_neg h8, HN2.out]; simp [t0, hl]), by (repeat first | exact bel0 | assumption | refine bel1 ?_ | refine bel2 ?_ | refine bel3 ?_ | refine belowT ?_ (by assumption) | refine bel5 ?_ (by simp; try omega))⟩
              · go_wp2
                go_ret
                exact ⟨ret_int (by simp at e0 t0; rw [HC.out, hlen, if_neg h8, HN2.out]; simp [e0, t0]), by (repeat first | exact bel0 | assumption | refine bel1 ?_ | refine bel2 ?_ | refine bel3 ?_ | refine belowT ?_ (by assumption) | refine bel5 ?_ (by simp; try omega))⟩

theorem DCheckDo_c (d : DV) (who : Int) (a : Option Addr) (m c : Nat) (x : PC) (w : World) (hS : Shapes w) (h : d.ok w) (hx : Ints w a m c x.d) :
    Calls Tryd.prog 15 #[d.v, .int .i64 who, cmdV a m c x] w fun e w' => e = .returned (.int .i64 (doE d.p who x)) ∧ Below w.heap.size w w' := by
  have HD := fun w' (hw : d.ok w') => DCheck_c d w' hw
  have HQ := fun w' hS' hx' => cmdCheck_c a m c x w' hS' hx'
  have HC : Hid (doE d.p who x = if checkD d.p ≠ 0 then checkD d.p else if inB who 0 2 = false then 5 else checkC x) := hide rfl
  obtain ⟨za, zn, zc, Z, ka, kn, kc, b⟩ := d
  obtain ⟨xk, xz, xn, xt, xd⟩ := x
  dsimp only [DV.v, cmdV] at *
  have H1 := hide HD
  have H2 := hide HQ
  clear HD HQ
  go_enter Tryd.func15, Tryd.ntmps15
  go_wp2_with fail
  refine (H1.out _ (h.below (B := w.heap.size) (by (repeat first | exact bel0 | assumption | refine bel1 ?_ | refine bel2 ?_ | refine bel3 ?_ | refine belowT ?_ (by assumption) | refine bel5 ?_ (by simp; try omega))) (Nat.le_refl _))).mono ?_
  rintro e w1 ⟨rfl, hb1⟩
  have c0 := keepc hb1 (p := ⟨w.heap.size + 1, 0, none⟩) (u := .int .i64 xk) (by go_simp)
  have c1 := keepc hb1 (p := ⟨w.heap.size + 1, 1, none⟩) (u := .int .i64 xz) (by go_simp)
  have c2 := keepc hb1 (p := ⟨w.heap.size + 1, 2, none⟩) (u := .int .i64 xn) (by go_simp)
  have c3 := keepc hb1 (p := ⟨w.heap.size + 1, 3, none⟩) (u := .int .i64 xt) (by go_simp)
  have c4 := keepc hb1 (p := ⟨w.heap.size + 1, 4, none⟩) (u := .slice a m c) (by go_simp)
  have bw : Below w.heap.size w w1 := by (repeat first | exact bel0 | assumption | refine bel1 ?_ | refine bel2 ?_ | refine bel3 ?_ | refine belowT ?_ (by assumption) | refine bel5 ?_ (by simp; try omega))
  clear hb1
  generalize checkD _ = x at *
  cases h0 : x != 0
  · cases hw : inB who 0 2
    · have HW := hide hw
      clear hw
      go_wp2_with (go_at_call 21; refine (dwithin_c _ _ _ _).mono ?_; rintro e w1 ⟨rfl, rfl⟩; rw [HW.out])
      go_ret
      exact ⟨ret_int (by rw [HC.out, HW.out]; simp at h0; simp [h0]), bw⟩
    · have HW := hide hw
      clear hw
      go_wp2_with (first | (go_at_call 21; refine (dwithin_c _ _ _ _).mono ?_; rintro e w1 ⟨rfl, rfl⟩; rw [HW.out]))
      refine (H2.out _ (hS.below bw) (hx.below bw (Nat.le_refl _))).mono ?_
      rintro e w2 ⟨rfl, hb2⟩
      go_wp2
      go_ret
      exact ⟨ret_int (by rw [HC.out, HW.out]; simp at h0; simp [h0]), by (repeat first | exact bel0 | assumption | refine bel1 ?_ | refine bel2 ?_ | refine bel3 ?_ | refine belowT ?_ (by assumption) | refine bel5 ?_ (by simp; try omega))⟩
  · go_wp2
    go_ret
    exact ⟨ret_int (by rw [HC.out]; simp at h0; simp [h0]), bw⟩

theorem turned_c (a : Option Addr) (n c : Nat) (Z : List ZV) (ca : Option Addr) (cn cc : Nat) (x : PC) (w : World) (h : Zones w a n c Z) :
    Calls Tryd.prog 52 #[.slice a n c, cmdV ca cn cc x] w fun e w' => (∃ a' n' c' Z', e = .returned (.tuple #[.slice a' n' c', .int .i64 (zoneDo (Z.map ZV.p) x).2]) ∧ Zones w' a' n' c' Z' ∧ NewZ w.heap.size a' Z' ∧ Z'.map ZV.p = (zoneDo (Z.map ZV.p) x).1) ∧ Below w.heap.size w w' := by
  obtain ⟨xk, xz, xn, xt, xd⟩ := x
  unfold cmdV
  dsimp only
  by_cases h1 : xk = 1
  · subst h1
    rw [show zoneDo (Z.map ZV.p) ⟨1, xz, xn, xt, xd⟩ = holdP (Z.map ZV.p) xz from rfl]
    go_enter Tryd.func52, Tryd.ntmps52
    go_wp2_with fail
    refine (YHold_f a n c Z xz _ (h.below (B := w.heap.size) (by (repeat first | exact bel0 | assumption | refine bel1 ?_ | refine bel2 ?_ | refine bel3 ?_ | refine belowT ?_ (by assumption) | refine bel5 ?_ (by simp; try omega))) (Nat.le_refl _))).mono ?_
    rintro e w1 ⟨⟨a1, n1, c1, Z1, rfl, i1, nz, p1⟩, hb1⟩
    have P1 := hide p1
    have N1 := hide (show NewZ w.heap.size a1 Z1 from ⟨fun x e => Nat.le_trans (by simp) (nz.1 x e), nz.2.mono (by simp)⟩)
    clear p1 nz
    go_wp2
    go_ret2
    exact ⟨⟨a1, n1, c1, Z1, rfl, i1, N1.out, P1.out⟩, by (repeat first | exact bel0 | assumption | refine bel1 ?_ | refine bel2 ?_ | refine bel3 ?_ | refine belowT ?_ (by assumption) | refine bel5 ?_ (by simp; try omega))⟩
  · have t1 : (xk == 1) = false := by simpa using h1
    by_cases h2 : xk = 2
    · subst h2
      rw [show zoneDo (Z.map ZV.p) ⟨2, xz, xn, xt, xd⟩ = closeP (Z.map ZV.p) xz from rfl]
      go_enter Tryd.func52, Tryd.ntmps52
      go_wp2_with fail
      refine (YClose_f a n c Z xz _ (h.below (B := w.heap.size) (by (repeat first | exact bel0 | assumption | refine bel1 ?_ | refine bel2 ?_ | refine bel3 ?_ | refine belowT ?_ (by assumption) | refine bel5 ?_ (by simp; try omega))) (Nat.le_refl _))).mono ?_
      rintro e w1 ⟨⟨a1, n1, c1, Z1, rfl, i1, nz, p1⟩, hb1⟩
      have P1 := hide p1
      have N1 := hide (show NewZ w.heap.size a1 Z1 from ⟨fun x e => Nat.le_trans (by simp) (nz.1 x e), nz.2.mono (by simp)⟩)
      clear p1 nz
      go_wp2
      go_ret2
      exact ⟨⟨a1, n1, c1, Z1, rfl, i1, N1.out, P1.out⟩, by (repeat first | exact bel0 | assumption | refine bel1 ?_ | refine bel2 ?_ | refine bel3 ?_ | refine belowT ?_ (by assumption) | refine bel5 ?_ (by simp; try omega))⟩
    · have t2 : (xk == 2) = false := by simpa using h2
      by_cases h3 : xk = 3
      · subst h3
        rw [show zoneDo (Z.map ZV.p) ⟨3, xz, xn, xt, xd⟩ = finishP (Z.map ZV.p) xz from rfl]
        go_enter Tryd.func52, Tryd.ntmps52
        go_wp2_with fail
        refine (YFinish_f a n c Z xz _ (h.below (B := w.heap.size) (by (repeat first | exact bel0 | assumption | refine bel1 ?_ | refine bel2 ?_ | refine bel3 ?_ | refine belowT ?_ (by assumption) | refine bel5 ?_ (by simp; try omega))) (Nat.le_refl _))).mono ?_
        rintro e w1 ⟨⟨a1, n1, c1, Z1, rfl, i1, nz, p1⟩, hb1⟩
        have P1 := hide p1
        have N1 := hide (show NewZ w.heap.size a1 Z1 from ⟨fun x e => Nat.le_trans (by simp) (nz.1 x e), nz.2.mono (by simp)⟩)
        clear p1 nz
        go_wp2
        go_ret2
        exact ⟨⟨a1, n1, c1, Z1, rfl, i1, N1.out, P1.out⟩, by (repeat first | exact bel0 | assumption | refine bel1 ?_ | refine bel2 ?_ | refine bel3 ?_ | refine belowT ?_ (by assumption) | refine bel5 ?_ (by simp; try omega))⟩
      · have t3 : (xk == 3) = false := by simpa using h3
        rw [show zoneDo (Z.map ZV.p) ⟨xk, xz, xn, xt, xd⟩ = resetP (Z.map ZV.p) xz by simp [zoneDo, h1, h2, h3]]
        clear h1 h2 h3
        go_enter Tryd.func52, Tryd.ntmps52
        go_wp2_with fail
        refine (YReset_f a n c Z xz _ (h.below (B := w.heap.size) (by (repeat first | exact bel0 | assumption | refine bel1 ?_ | refine bel2 ?_ | refine bel3 ?_ | refine belowT ?_ (by assumption) | refine bel5 ?_ (by simp; try omega))) (Nat.le_refl _))).mono ?_
        rintro e w1 ⟨⟨a1, n1, c1, Z1, rfl, i1, nz, p1⟩, hb1⟩
        have P1 := hide p1
        have N1 := hide (show NewZ w.heap.size a1 Z1 from ⟨fun x e => Nat.le_trans (by simp) (nz.1 x e), nz.2.mono (by simp)⟩)
        clear p1 nz
        go_wp2
        go_ret2
        exact ⟨⟨a1, n1, c1, Z1, rfl, i1, N1.out, P1.out⟩, by (repeat first | exact bel0 | assumption | refine bel1 ?_ | refine bel2 ?_ | refine bel3 ?_ | refine belowT ?_ (by assumption) | refine bel5 ?_ (by simp; try omega))⟩

theorem dmay_c (a : Option Addr) (n c : Nat) (b : PB) (who : Int) (ca : Option Addr) (cn cc : Nat) (x : PC) (w : World) (h : Ints w a n c b.k) :
    Calls Tryd.prog 30 #[bookV a n c b, .int .i64 who, cmdV ca cn cc x] w fun e w' => e = .returned (.bool (mayB b who (x.k != 7)).1) ∧ Below w.heap.size w w' := by
  obtain ⟨xk, xz, xn, xt, xd⟩ := x
  have HM := hide (fun w' h' => BMay_c a n c b who (xk != 7) w' h')
  unfold cmdV
  unfold bookV at *
  dsimp only
  generalize hm : mayB b who (xk != 7) = mb at *
  clear hm
  go_enter Tryd.func30, Tryd.ntmps30
  go_wp2_with fail
  refine (HM.out _ (h.below (B := w.heap.size) (by (repeat first | exact bel0 | assumption | refine bel1 ?_ | refine bel2 ?_ | refine bel3 ?_ | refine belowT ?_ (by assumption) | refine bel5 ?_ (by simp; try omega))) (Nat.le_refl _))).mono ?_
  rintro e w1 ⟨rfl, hb1⟩
  go_wp2
  go_ret
  exact ⟨rfl, by (repeat first | exact bel0 | assumption | refine bel1 ?_ | refine bel2 ?_ | refine bel3 ?_ | refine belowT ?_ (by assumption) | refine bel5 ?_ (by simp; try omega))⟩

end Go.Proofs.YtkamnbigfdbgbaaDoor
