/- The contract of cmd.Check; no condition but that the data reads as a list and the package's table is as its text lays it. -/
import Derived.Test.YtmjcoehllinoeacDoorQ1
namespace Go.Proofs.YtmjcoehllinoeacDoor
open Go.RowKit
set_option linter.unusedVariables false
set_option maxRecDepth 100000
set_option linter.unusedSimpArgs false

theorem cmdContainsFunc_three (g : Nat) (x y z : Int) (w : World) (h0 : w.cell? ⟨g, 0, none⟩ = some (.int .i64 x)) (h1 : w.cell? ⟨g, 1, none⟩ = some (.int .i64 y)) (h2 : w.cell? ⟨g, 2, none⟩ = some (.int .i64 z)) :
    Calls Tryd.prog 38 #[.slice (some ⟨g, 0, none⟩) 3 3, .func (Fn.func 39) #[] #[]] w
      fun e w' => e = .returned (.bool ([x, y, z].any (outB 0 999))) ∧ w' = w := by
  have HI := hide (cmdIndexFunc_some g 0 3 3 [x, y, z] w rfl (by decide) (fun i hi => by
    rcases (by omega : i = 0 ∨ i = 1 ∨ i = 2) with rfl | rfl | rfl <;> assumption))
  go_enter Tryd.func38, Tryd.ntmps38
  go_wp2_with fail
  refine HI.out.mono ?_
  rintro e w' ⟨⟨r, rfl, hr⟩, rfl⟩
  have HR := hide hr
  clear hr
  go_wp2
  go_ret
  exact ⟨ret_bool HR.out, rfl⟩

theorem checkC_fits (k z n t : Int) (d : List Int) : checkC ⟨k, z, n, t, d⟩ = if outB 1 12 k then 4 else if fitsC z t n d (hasZ k) (hasA k) (hasN k) (hasD k) = false then 4 else if 8 < d.length then 2 else if [z, t, n].any (outB 0 999) || d.any (outB 0 999) then 3 else 0 := by
  unfold checkC fitsC
  dsimp only
  split
  · rfl
  · rename_i ho
    cases hz : hasZ k <;> cases ha : hasA k <;> cases hn : hasN k <;> cases hd : hasD k <;> by_cases hzz : z = 0 <;> by_cases htt : t = 0 <;> by_cases hnn : n = 0 <;> by_cases hdd : d = [] <;> simp [hzz, htt, hnn, hdd, or_assoc]

set_option maxRecDepth 100000 in
set_option maxHeartbeats 4000000 in
theorem Check_out (a : Option Addr) (m c : Nat) (k z n t : Int) (d : List Int) (w : World) (h : Ints w a m c d) (hk : outB 1 12 k = true) :
    Calls Tryd.prog 20 #[cmdV a m c ⟨k, z, n, t, d⟩] w fun e w' => e = .returned (.int .i64 (checkC ⟨k, z, n, t, d⟩)) ∧ Below w.heap.size w w' := by
  unfold cmdV
  have HK : Hid (checkC ⟨k, z, n, t, d⟩ = 4) := hide (by rw [checkC_fits, if_pos hk])
  by_cases h1 : k < 1
  · clear hk
    go_enter Tryd.func20, Tryd.ntmps20
    go_wp2
    go_ret
    exact ⟨ret_int HK.out.symm, by (repeat (first | exact Below.refl _ _ | assumption | refine Below.drew ?_ | refine below_drewN ?_ _ | refine belowA ?_ _ | refine belowT ?_ (by assumption) | refine Below.setCell ?_ (by first | (simp; done) | (simp; omega)) _))⟩
  · have h2 : 13 ≤ k := by simp [outB] at hk; omega
    clear hk
    go_enter Tryd.func20, Tryd.ntmps20
    go_wp2
    go_ret
    exact ⟨ret_int HK.out.symm, by (repeat (first | exact Below.refl _ _ | assumption | refine Below.drew ?_ | refine below_drewN ?_ _ | refine belowA ?_ _ | refine belowT ?_ (by assumption) | refine Below.setCell ?_ (by first | (simp; done) | (simp; omega)) _))⟩

set_option maxRecDepth 100000 in
set_option maxHeartbeats 4000000 in
theorem Check_in (a : Option Addr) (m c : Nat) (k : Nat) (z n t : Int) (d : List Int) (w : World) (hS : Shapes w) (h : Ints w a m c d) (hk1 : 1 ≤ k) (hk2 : k ≤ 12) :
    Calls Tryd.prog 20 #[cmdV a m c ⟨k, z, n, t, d⟩] w fun e w' => e = .returned (.int .i64 (checkC ⟨k, z, n, t, d⟩)) ∧ Below w.heap.size w w' := by
  have hlen := h.len
  have hmax := h.max
  have hle := h.le
  have s1 := hS.hz k hk2
  have s2 : w.cell? ⟨0, k * 5 + 1 + 1, none⟩ = some (.bool (hasA k)) := hS.ha k hk2
  have s3 : w.cell? ⟨0, k * 5 + 1 + 2, none⟩ = some (.bool (hasN k)) := hS.hn k hk2
  have s4 : w.cell? ⟨0, k * 5 + 1 + 3, none⟩ = some (.bool (hasD k)) := hS.hd k hk2
  have HF := fun hz ha hn hd w' h' => cmdFits_c a m c k z n t d hz ha hn hd w' h'
  have HK : Hid (checkC ⟨k, z, n, t, d⟩ = if fitsC z t n d (hasZ k) (hasA k) (hasN k) (hasD k) = false then 4 else if 8 < d.length then 2 else if [z, t, n].any (outB 0 999) || d.any (outB 0 999) then 3 else 0) := hide (by rw [checkC_fits, if_neg (by simp [outB]; omega)])
  unfold cmdV at *
  have k1 : (1 : Int) ≤ (k : Int) := by omega
  have k2 : (k : Int) < 13 := by omega
  have k0 : (0 : Int) ≤ (k : Int) := by omega
  clear hS
  generalize hasZ k = hz at *
  generalize hasA k = ha at *
  generalize hasN k = hn at *
  generalize hasD k = hd at *
  replace s1 := fun o => past1 s1 o
  replace s2 := fun o => past1 s2 o
  replace s3 := fun o => past1 s3 o
  replace s4 := fun o => past1 s4 o
  go_enter Tryd.func20, Tryd.ntmps20
  go_wp2
  go_region_held3 (fun w' => w'.cell? ⟨w.heap.size, 0, none⟩ = some (.int .i64 k) ∧ w'.cell? ⟨w.heap.size, 1, none⟩ = some (.int .i64 z) ∧ w'.cell? ⟨w.heap.size, 2, none⟩ = some (.int .i64 n) ∧ w'.cell? ⟨w.heap.size, 3, none⟩ = some (.int .i64 t) ∧ w'.cell? ⟨w.heap.size, 4, none⟩ = some (.slice a m c) ∧ w'.cell? ⟨0, k * 5 + 1, none⟩ = some (.bool hz) ∧ w'.cell? ⟨0, k * 5 + 1 + 1, none⟩ = some (.bool ha) ∧ w'.cell? ⟨0, k * 5 + 1 + 2, none⟩ = some (.bool hn) ∧ w'.cell? ⟨0, k * 5 + 1 + 3, none⟩ = some (.bool hd)) ((first | (go_simp; done) | (simp [*, World.cell?_alloc_at, World.cell?_alloc_past, World.cell?_alloc_some, World.cell?_setCell_far]; done))) (first | (go_at_call 37; refine (HF _ _ _ _ _ (by refine Ints.below h (B := w.heap.size) ?_ (Nat.le_refl _); (repeat (first | exact Below.refl _ _ | assumption | refine Below.drew ?_ | refine below_drewN ?_ _ | refine belowA ?_ _ | refine belowT ?_ (by assumption) | refine Below.setCell ?_ (by first | (simp; done) | (simp; omega)) _)))).mono ?_; rintro e w9 ⟨rfl, hb9⟩; (have f0 := keepc hb9 (p := ⟨w.heap.size, 0, none⟩) (u := .int .i64 k) (by (first | (go_simp; done) | (simp [*, World.cell?_alloc_at, World.cell?_alloc_past, World.cell?_alloc_some, World.cell?_setCell_far]; done)))); (have f1 := keepc hb9 (p := ⟨w.heap.size, 1, none⟩) (u := .int .i64 z) (by (first | (go_simp; done) | (simp [*, World.cell?_alloc_at, World.cell?_alloc_past, World.cell?_alloc_some, World.cell?_setCell_far]; done)))); (have f2 := keepc hb9 (p := ⟨w.heap.size, 2, none⟩) (u := .int .i64 n) (by (first | (go_simp; done) | (simp [*, World.cell?_alloc_at, World.cell?_alloc_past, World.cell?_alloc_some, World.cell?_setCell_far]; done)))); (have f3 := keepc hb9 (p := ⟨w.heap.size, 3, none⟩) (u := .int .i64 t) (by (first | (go_simp; done) | (simp [*, World.cell?_alloc_at, World.cell?_alloc_past, World.cell?_alloc_some, World.cell?_setCell_far]; done)))); (have f4 := keepc hb9 (p := ⟨w.heap.size, 4, none⟩) (u := .slice a m c) (by (first | (go_simp; done) | (simp [*, World.cell?_alloc_at, World.cell?_alloc_past, World.cell?_alloc_some, World.cell?_setCell_far]; done)))); (have f5 := keepc hb9 (p := ⟨0, k * 5 + 1, none⟩) (u := .bool hz) (by (first | (go_simp; done) | (simp [*, World.cell?_alloc_at, World.cell?_alloc_past, World.cell?_alloc_some, World.cell?_setCell_far]; done)))); (have f6 := keepc hb9 (p := ⟨0, k * 5 + 1 + 1, none⟩) (u := .bool ha) (by (first | (go_simp; done) | (simp [*, World.cell?_alloc_at, World.cell?_alloc_past, World.cell?_alloc_some, World.cell?_setCell_far]; done)))); (have f7 := keepc hb9 (p := ⟨0, k * 5 + 1 + 2, none⟩) (u := .bool hn) (by (first | (go_simp; done) | (simp [*, World.cell?_alloc_at, World.cell?_alloc_past, World.cell?_alloc_some, World.cell?_setCell_far]; done)))); (have f8 := keepc hb9 (p := ⟨0, k * 5 + 1 + 3, none⟩) (u := .bool hd) (by (first | (go_simp; done) | (simp [*, World.cell?_alloc_at, World.cell?_alloc_past, World.cell?_alloc_some, World.cell?_setCell_far]; done))))))
  have bw : Below w.heap.size w w9 := by (repeat (first | exact Below.refl _ _ | assumption | refine Below.drew ?_ | refine below_drewN ?_ _ | refine belowA ?_ _ | refine belowT ?_ (by assumption) | refine Below.setCell ?_ (by first | (simp; done) | (simp; omega)) _))
  replace h := h.below bw (Nat.le_refl _)
  clear hb9 f5 f6 f7 f8 s1 s2 s3 s4 HF
  cases hf : fitsC z t n d hz ha hn hd
  · go_wp2
    go_ret
    exact ⟨ret_int (by rw [HK.out, hf]; rfl), bw⟩
  · by_cases h8 : 8 < m
    · have h8' : (8 : Int) < (m : Int) := by omega
      go_wp2
      go_ret
      exact ⟨ret_int (by rw [HK.out, hf, hlen, if_neg (by simp), if_pos h8]), bw⟩
    · have h8' : ¬ (8 : Int) < (m : Int) := by omega
      go_wp2_with fail
      refine (singles_c _ _ _ _ _ _ _ _).mono ?_
      rintro e w1 ⟨rfl, hb1⟩
      replace bw : Below w.heap.size w w1 := by (repeat (first | exact Below.refl _ _ | assumption | refine Below.drew ?_ | refine below_drewN ?_ _ | refine belowA ?_ _ | refine belowT ?_ (by assumption) | refine Below.setCell ?_ (by first | (simp; done) | (simp; omega)) _))
      replace h := h.below hb1 (Nat.le_refl _)
      have b4 := fun o => past1 (keepc hb1 f4) o
      clear hb1 f0 f1 f2 f3 f4
      have H3 := fun w' h0 h1 h2 => cmdContainsFunc_three w1.heap.size z t n w' h0 h1 h2
      generalize [z, t, n].any (outB 0 999) = b3 at HK H3
      go_wp2_with fail
      refine (H3 _ (by go_simp) (by go_simp) (by go_simp)).mono ?_
      rintro e w' ⟨rfl, rfl⟩
      cases b3
      · go_wp2_with fail
        refine (cmdContainsFunc_c a m c d _ (by refine Ints.below h (B := w1.heap.size) ?_ (Nat.le_refl _); (repeat (first | exact Below.refl _ _ | assumption | refine Below.drew ?_ | refine below_drewN ?_ _ | refine belowA ?_ _ | refine belowT ?_ (by assumption) | refine Below.setCell ?_ (by first | (simp; done) | (simp; omega)) _)))).mono ?_
        rintro e w' ⟨rfl, rfl⟩
        cases hda : d.any (outB 0 999)
        all_goals
          go_wp2
          go_ret
          exact ⟨ret_int (by rw [HK.out, hf, hlen, if_neg (by simp), if_neg h8, hda]; rfl), by (repeat (first | exact Below.refl _ _ | assumption | refine Below.drew ?_ | refine below_drewN ?_ _ | refine belowA ?_ _ | refine belowT ?_ (by assumption) | refine Below.setCell ?_ (by first | (simp; done) | (simp; omega)) _))⟩
      · go_wp2
        go_ret
        exact ⟨ret_int (by rw [HK.out, hf, hlen, if_neg (by simp), if_neg h8]; rfl), by (repeat (first | exact Below.refl _ _ | assumption | refine Below.drew ?_ | refine below_drewN ?_ _ | refine belowA ?_ _ | refine belowT ?_ (by assumption) | refine Below.setCell ?_ (by first | (simp; done) | (simp; omega)) _))⟩

theorem cmdCheck_c (a : Option Addr) (m c : Nat) (b : PC) (w : World) (hS : Shapes w) (h : Ints w a m c b.d) :
    Calls Tryd.prog 20 #[cmdV a m c b] w fun e w' => e = .returned (.int .i64 (checkC b)) ∧ Below w.heap.size w w' := by
  obtain ⟨k, z, n, t, d⟩ := b
  cases hk : outB 1 12 k
  · obtain ⟨i, rfl⟩ : ∃ i : Nat, k = i := ⟨k.toNat, by simp [outB] at hk; omega⟩
    simp [outB] at hk
    exact Check_in a m c i z n t d w hS h (by omega) (by omega)
  · exact Check_out a m c k z n t d w h hk

end Go.Proofs.YtmjcoehllinoeacDoor
