/- The contracts of hall.Check and of the question that behind makes; no condition but that the arguments read as data, and where a right hall is said so. -/
import Derived.Test.YtenmamcaldabdaaGreatDoorHallPartsG20
import Derived.Test.YtenmamcaldabdaaGreatDoorHallPartsG3
import Derived.Test.YtenmamcaldabdaaGreatDoorHallPartsG13
import Derived.Test.YtenmamcaldabdaaGreatDoorHallPartsG19
namespace Go.Proofs.YtenmamcaldabdaaGreatDoor
open Go.RowKit
set_option linter.unusedVariables false
set_option maxRecDepth 100000
set_option linter.unusedSimpArgs false

set_option maxHeartbeats 2000000 in
theorem HCheck_c (h : HV) (w : World) (hk : h.ok w) : Calls Tryz.prog 10 #[h.v] w fun e w' => e = .returned (.int .i64 (checkH h.p)) ∧ Below w.heap.size w w' := by
  obtain ⟨d, a, n, c, L⟩ := h
  obtain ⟨hd, hl⟩ := hk
  have HD := hide (fun w' (h' : d.ok w') => DCheck_c d w' h')
  have HC : Hid (checkH ⟨d.p, L.map LV.p⟩ = if checkD d.p ≠ 0 then checkD d.p else if (L.map LV.p).length ≠ 3 then 4 else firstL (L.map LV.p)) := hide rfl
  have HL : Hid ((L.map LV.p).length = n) := hide (by rw [List.length_map]; exact hl.len)
  rw [HL.out] at HC
  obtain ⟨za, zn, zc, Z, ka, kn, kc, bk, bh, bt⟩ := d
  dsimp only [HV.v, HV.p, DV.v] at *
  generalize checkD _ = cd at *
  generalize hr : checkH _ = r at *
  clear hr
  have hmax := hl.max
  have hle := hl.le
  go_enter Tryz.func10, Tryz.ntmps10
  go_wp2_with fail
  refine (HD.out _ (hd.below (B := w.heap.size) (by (repeat (first | exact Below.refl _ _ | assumption | refine Below.drew ?_ | refine below_drewN ?_ _ | refine belowA ?_ _ | refine belowT ?_ (by assumption) | refine Below.setCell ?_ (by first | (simp; done) | (simp; omega)) _))) (Nat.le_refl _))).mono ?_
  rintro e w1 ⟨rfl, hb1⟩
  have c4 := keepc hb1 (p := ⟨w.heap.size, 4, none⟩) (u := .slice a n c) (by go_simp)
  have bw : Below w.heap.size w w1 := by (repeat (first | exact Below.refl _ _ | assumption | refine Below.drew ?_ | refine below_drewN ?_ _ | refine belowA ?_ _ | refine belowT ?_ (by assumption) | refine Below.setCell ?_ (by first | (simp; done) | (simp; omega)) _))
  clear hb1
  cases h0 : cd != 0
  · by_cases h3 : n = 3
    · subst h3
      obtain ⟨b, off, rfl, hlt, hrow⟩ := hl.row.resolve_left (by omega)
      go_wp2_with fail
      go_loopw [20] (fun i wr => ∃ k : Nat, k ≤ 3 ∧ i = .int .i64 k ∧ firstL ((L.map LV.p).take k) = 0 ∧ Below w.heap.size w wr) (fun i _ => 3 - (intOf i).toNat)
      case atStart => exact ⟨0, by omega, rfl, rfl, bw⟩
      case round =>
        clear bw c4
        obtain ⟨k, hk, rfl, hp, hbr⟩ := hrel
        have HP := hide hp
        clear hp
        rename_i wr
        by_cases hlt3 : k < 3
        · obtain ⟨y, hy⟩ : ∃ z, L[k]? = some z := ⟨L[k]'(by rw [hl.len]; exact hlt3), by simp⟩
          have iy := LV.ok.below (hl.ok y (List.mem_of_getElem? hy)) hbr (Nat.le_refl _)
          have HS := hide (fun w' h' => hcheckLast_c y w' h')
          have HY : Hid ((L.map LV.p)[k]? = some y.p) := hide (by rw [List.getElem?_map, hy]; rfl)
          have ky := hrow k y hy
          clear hy
          generalize hcl : checkL y.p = cl at *
          have HCL := hide hcl
          clear hcl
          obtain ⟨s1, ⟨e1, t1, a1, n1, c1, d1⟩⟩ := y
          dsimp only [LV.v] at HS
          have x0 := keepc hbr (ky 0 _ rfl)
          have x1 := keepc hbr (ky 1 _ rfl)
          have x2 := keepc hbr (ky 2 _ rfl)
          have x3 := keepc hbr (ky 3 _ rfl)
          rw [Nat.add_zero] at x0
          clear ky
          have hlt' : (k : Int) < 3 := by omega
          go_wp2_with fail
          refine (HS.out _ (LV.ok.below iy (B := wr.heap.size) (by (repeat (first | exact Below.refl _ _ | assumption | refine Below.drew ?_ | refine below_drewN ?_ _ | refine belowA ?_ _ | refine belowT ?_ (by assumption) | refine Below.setCell ?_ (by first | (simp; done) | (simp; omega)) _))) (Nat.le_refl _))).mono ?_
          rintro e w9 ⟨rfl, hb9⟩
          have b9 : Below w.heap.size w w9 := by (repeat (first | exact Below.refl _ _ | assumption | refine Below.drew ?_ | refine below_drewN ?_ _ | refine belowA ?_ _ | refine belowT ?_ (by assumption) | refine Below.setCell ?_ (by first | (simp; done) | (simp; omega)) _))
          clear hb9
          cases h9 : cl != 0
          · go_wp2
            simp at h9
            exact ⟨⟨k + 1, by omega, by go_num, firstL_step HY.out HP.out (by rw [HCL.out]; exact h9), b9⟩, by simp [intOf]; omega⟩
          · go_wp2
            go_ret
            simp at h9 h0
            exact ⟨ret_int (by rw [HC.out, if_neg (by simp [h0]), if_neg (by simp), firstL_at HY.out HP.out (by rw [HCL.out]; exact h9), HCL.out]), b9⟩
        · obtain rfl : k = 3 := by omega
          have hp := HP.out
          rw [List.take_of_length_le (by rw [HL.out]; omega)] at hp
          have HQ := hide hp
          clear hp
          go_wp2
          go_ret
          simp at h0
          exact ⟨ret_int (by rw [HC.out, if_neg (by simp [h0]), if_neg (by simp), HQ.out]), hbr⟩
    · have h3' : ((n : Int) != 3) = true := by simp; omega
      go_wp2
      go_ret
      simp at h0
      exact ⟨ret_int (by rw [HC.out, if_neg (by simp [h0]), if_pos h3]), bw⟩
  · go_wp2
    go_ret
    simp at h0
    exact ⟨ret_int (by rw [HC.out, if_pos h0]), bw⟩

/-- The question that behind makes, in a world: which hall and how many it holds. -/
theorem behind_c (h : HV) (m : Int) (w : World) : Calls Tryz.prog 24 #[h.v, .int .i64 m] w fun e w' =>
    e = .returned (.func (Fn.func 53) #[] #[.pointer (some ⟨w.heap.size, 0, none⟩), .pointer (some ⟨w.heap.size + 1, 0, none⟩)]) ∧ Lay w' w.heap.size h.cells ∧ Lay w' (w.heap.size + 1) [.int .i64 m] ∧ Below w.heap.size w w' := by
  obtain ⟨⟨za, zn, zc, Z, ka, kn, kc, bk, bh, bt⟩, a, n, c, L⟩ := h
  dsimp only [HV.v, HV.cells]
  go_enter Tryz.func24, Tryz.ntmps24
  go_wp2
  go_ret
  exact ⟨rfl, (Lay.made w _ 30).below (belowA (Below.refl _ _) _), Lay.made1 w _ [.int .i64 m] 3, by (repeat (first | exact Below.refl _ _ | assumption | refine Below.drew ?_ | refine below_drewN ?_ _ | refine belowA ?_ _ | refine belowT ?_ (by assumption) | refine Below.setCell ?_ (by first | (simp; done) | (simp; omega)) _))⟩

set_option maxHeartbeats 1000000 in
theorem behind1_c (h : HV) (r : RV) (m : Int) (G M j : Nat) (w : World) (hk : h.ok w) (hG : Lay w G h.cells) (hM : Lay w M [.int .i64 m]) (h3 : h.n = 3) (hj : r.p.w = (j : Int)) (hj3 : j < 3) (hm : 0 ≤ m ∧ m ≤ 1) (hs : ∀ y ∈ h.L, 0 ≤ y.s ∧ y.s ≤ 40) :
    Calls Tryz.prog 53 #[r.v, .pointer (some ⟨G, 0, none⟩), .pointer (some ⟨M, 0, none⟩)] w fun e w' => e = .returned (.bool (r.p.s == (lastH h.p j).s + m)) ∧ Below w.heap.size w w' := by
  obtain ⟨b, off, y, ha, hy, _, hc⟩ := hk.l.at (i := j) (by omega)
  have hys := hs y (List.mem_of_getElem? hy)
  have HL : Hid (lastH h.p j = y.p) := hide (by simp [lastH, HV.p, List.getD, hy])
  have c0 := past1 (hc 0 _ rfl)
  rw [Nat.add_zero] at c0
  have g4 := past1 (hG.cell 4 _ rfl)
  have m0 := past1 (hM.cell 0 _ rfl)
  have hw : IntKind.i64.wrap (y.s + m) = y.s + m := IntWalk.i64_in _ (by omega)
  clear hc
  rw [HL.out]
  obtain ⟨⟨q, s, ⟨k1, z1, u1, t1, d1⟩⟩, ra, rn, rc⟩ := r
  dsimp only at hj
  subst hj
  obtain ⟨⟨za, zn, zc, Z, ka, kn, kc, bk, bh, bt⟩, a, n, c, L⟩ := h
  dsimp only [RV.v, LV.p] at *
  subst ha h3
  obtain ⟨ys, yx⟩ := y
  dsimp only at *
  have hj' : (j : Int) < 3 := by omega
  have hj0 : ¬ ((j : Int) < 0) := by omega
  go_enter Tryz.func53, Tryz.ntmps53
  go_upto_region 1 with fail
  go_region
  go_wp2
  go_ret
  exact ⟨rfl, by (repeat (first | exact Below.refl _ _ | assumption | refine Below.drew ?_ | refine below_drewN ?_ _ | refine belowA ?_ _ | refine belowT ?_ (by assumption) | refine Below.setCell ?_ (by first | (simp; done) | (simp; omega)) _))⟩

end Go.Proofs.YtenmamcaldabdaaGreatDoor

/- The contract of hall.New; no condition. -/
namespace Go.Proofs.YtenmamcaldabdaaGreatDoor
open Go.RowKit
set_option linter.unusedVariables false
set_option maxRecDepth 100000
set_option linter.unusedSimpArgs false

def zero3 : List LV := [LV.zero, LV.zero, LV.zero]
theorem zero3_mem {y : LV} (h : y ∈ zero3) : y = LV.zero := by simpa [zero3] using h
theorem zero3_ok (w : World) : ∀ y ∈ zero3, y.ok w := fun y h => by rw [zero3_mem h]; exact LV.zero_ok w
theorem zero3_off (R : Nat) : ∀ y ∈ zero3, y.off R := fun y h => by rw [zero3_mem h]; exact .inl rfl
theorem mkl3 (w : World) : (Instr.makeSlice 28 (.int .i64 3) (.int .i64 3)).run Tryz.prog w = .ok (.slice (some ⟨w.heap.size, 0, none⟩) 3 3) (w.alloc (.cells (lcells zero3).toArray 72)) := by kernel_rfl

set_option maxHeartbeats 4000000 in
theorem HNew_c (w : World) : Calls Tryz.prog 14 #[] w fun e w' => (∃ h : HV, e = .returned h.v ∧ h.ok w' ∧ h.new w.heap.size ∧ h.p = freshH) ∧ Below w.heap.size w w' := by
  have hmk := mkl3
  generalize hxs : (lcells zero3).toArray = xs at *
  have xR := Lay.made w [.slice none 0 0, .slice none 0 0, .int .i64 0, .int .i64 0, .slice none 0 0] 30
  have hL : ∀ w' : World, Lay (w'.alloc (.cells xs 72)) w'.heap.size (lcells zero3) := fun w' => by rw [← hxs]; exact Lay.made w' _ _
  have HL := hide hL
  have XR := hide xR
  clear hL xR hxs
  go_enter Tryz.func14, Tryz.ntmps14
  go_wp2_with fail
  go_region_with (first | (go_at_call 42; refine (DNew_c _).mono ?_; rintro e w1 ⟨⟨⟨za, zn, zc, Z, ka, kn, kc, b⟩, rfl, i1, fr, hp⟩, hb1⟩; (have xR1 := XR.out.below (w' := w1) (by (repeat (first | exact Below.refl _ _ | assumption | refine Below.drew ?_ | refine below_drewN ?_ _ | refine belowA ?_ _ | refine belowT ?_ (by assumption) | refine Below.setCell ?_ (by first | (simp; done) | (simp; omega)) _)))); (have e0 := xR1.cell 0 _ rfl); (have e1 := xR1.cell 1 _ rfl); (have e2 := xR1.cell 2 _ rfl); (have e3 := xR1.cell 3 _ rfl); (have e4 := xR1.cell 4 _ rfl); (have f0 := xR1.ice 0); (have f1 := xR1.ice 1); (have f2 := xR1.ice 2); (have f3 := xR1.ice 3); (have f4 := xR1.ice 4); (have hl1 := xR1.lt); (have hn1 : w.heap.size ≠ w1.heap.size := by omega); (have hn2 : w1.heap.size ≠ w.heap.size := by omega); (have p0 := past1 e0); (have p1 := past1 e1); (have p2 := past1 e2); (have p3 := past1 e3); (have p4 := past1 e4); (have r0 := pastf1 e0 f0); (have r1 := pastf1 e1 f1); (have r2 := pastf1 e2 f2); (have r3 := pastf1 e3 f3); (have r4 := pastf1 e4 f4); (have FR := hide fr); (have HP := hide hp); (clear fr hp); dsimp only [DV.v] at i1 ⊢))
  all_goals go_wp2
  · have fr := FR.out.mono (show w.heap.size + 1 ≤ _ by simp)
    have bw : Below w.heap.size w w1 := by (repeat (first | exact Below.refl _ _ | assumption | refine Below.drew ?_ | refine below_drewN ?_ _ | refine belowA ?_ _ | refine belowT ?_ (by assumption) | refine Below.setCell ?_ (by first | (simp; done) | (simp; omega)) _))
    have hs : (((((w1.setCell ⟨w.heap.size, 0, none⟩ (.slice za zn zc)).setCell ⟨w.heap.size, 1, none⟩ (.slice ka kn kc)).setCell ⟨w.heap.size, 2, none⟩ (.int .i64 b.h)).setCell ⟨w.heap.size, 3, none⟩ (.int .i64 b.t)).setCell ⟨w.heap.size, 4, none⟩ (.slice (some ⟨w1.heap.size, 0, none⟩) 3 3)).heap.size = w1.heap.size := by simp [World.setCell]
    have zB := ((((xR1.set 0 (.slice za zn zc)).set 1 (.slice ka kn kc)).set 2 (.int .i64 b.h)).set 3 (.int .i64 b.t)).set 4 (.slice (some ⟨w1.heap.size, 0, none⟩) 3 3)
    have hbut := (((((ButI.refl (w.heap.size) w1).step 0 (.slice za zn zc)).step 1 (.slice ka kn kc)).step 2 (.int .i64 b.h)).step 3 (.int .i64 b.t)).step 4 (.slice (some ⟨w1.heap.size, 0, none⟩) 3 3)
    generalize ((((w1.setCell ⟨w.heap.size, 0, none⟩ (.slice za zn zc)).setCell ⟨w.heap.size, 1, none⟩ (.slice ka kn kc)).setCell ⟨w.heap.size, 2, none⟩ (.int .i64 b.h)).setCell ⟨w.heap.size, 3, none⟩ (.int .i64 b.t)).setCell ⟨w.heap.size, 4, none⟩ (.slice (some ⟨w1.heap.size, 0, none⟩) 3 3) = w8 at *
    have z0 := zB.cell 0 _ rfl
    have z1 := zB.cell 1 _ rfl
    have z2 := zB.cell 2 _ rfl
    have z3 := zB.cell 3 _ rfl
    have z4 := zB.cell 4 _ rfl
    have i9 := DV.ok.but i1 hbut.but (fr _ (by omega))
    have hm := HL.out w8
    rw [hs] at hm
    have bn := belowA (Below.refl _ w8) (.cells xs 72)
    have zC := zB.below bn
    have o9 : HV.ok (w8.alloc (.cells xs 72)) ⟨⟨za, zn, zc, Z, ka, kn, kc, b⟩, some ⟨w1.heap.size, 0, none⟩, 3, 3, zero3⟩ := ⟨i9.below bn (Nat.le_refl _), Lasts.of_lay (n := 3) hm (zero3_ok _) rfl (by omega)⟩
    have b9 : Below w.heap.size w (w8.alloc (.cells xs 72)) := belowT (bw.trans hbut.but.low) bn
    clear z0 z1 z2 z3 z4
    generalize w8.alloc (.cells xs 72) = w9 at *
    have z0 := zC.cell 0 _ rfl
    have z1 := zC.cell 1 _ rfl
    have z2 := zC.cell 2 _ rfl
    have z3 := zC.cell 3 _ rfl
    have z4 := zC.cell 4 _ rfl
    exact bodyPost_ret (v := .agg #[.slice za zn zc, .slice ka kn kc, .int .i64 b.h, .int .i64 b.t, .slice (some ⟨w1.heap.size, 0, none⟩) 3 3]) (by simp [results, Tryz.results14, go_sem, z0, z1, z2, z3, z4]) rfl
      ⟨⟨_, rfl, o9, fun R hR => ⟨fr R (by omega), .inr fun x e => by cases e; simp; omega, zero3_off R⟩, by simp only [HV.p, HP.out]; rfl⟩, b9⟩
  · have hm := HL.out (w.alloc (.cells #[.slice none 0 0, .slice none 0 0, .int .i64 0, .int .i64 0, .slice none 0 0] 30))
    simp only [World.size_alloc] at hm
    have hm1 := hm.below (w' := w1) (by (repeat (first | exact Below.refl _ _ | assumption | refine Below.drew ?_ | refine below_drewN ?_ _ | refine belowA ?_ _ | refine belowT ?_ (by assumption) | refine Below.setCell ?_ (by first | (simp; done) | (simp; omega)) _)))
    have fr := FR.out.mono (show w.heap.size + 1 ≤ _ by simp)
    have hok : HV.ok w1 ⟨⟨za, zn, zc, Z, ka, kn, kc, b⟩, some ⟨w.heap.size + 1, 0, none⟩, 3, 3, zero3⟩ := ⟨i1, Lasts.of_lay (n := 3) hm1 (zero3_ok _) rfl (by omega)⟩
    have hoff : ∀ R, R ≤ w.heap.size → HV.off R ⟨⟨za, zn, zc, Z, ka, kn, kc, b⟩, some ⟨w.heap.size + 1, 0, none⟩, 3, 3, zero3⟩ := fun R hR => ⟨fr R (by omega), .inr fun x e => by cases e; simp; omega, zero3_off R⟩
    have bw : Below w.heap.size w w1 := by (repeat (first | exact Below.refl _ _ | assumption | refine Below.drew ?_ | refine below_drewN ?_ _ | refine belowA ?_ _ | refine belowT ?_ (by assumption) | refine Below.setCell ?_ (by first | (simp; done) | (simp; omega)) _))
    have zB := ((((xR1.set 0 (.slice za zn zc)).set 1 (.slice ka kn kc)).set 2 (.int .i64 b.h)).set 3 (.int .i64 b.t)).set 4 (.slice (some ⟨w.heap.size + 1, 0, none⟩) 3 3)
    have hbut := (((((ButI.refl (w.heap.size) w1).step 0 (.slice za zn zc)).step 1 (.slice ka kn kc)).step 2 (.int .i64 b.h)).step 3 (.int .i64 b.t)).step 4 (.slice (some ⟨w.heap.size + 1, 0, none⟩) 3 3)
    generalize ((((w1.setCell ⟨w.heap.size, 0, none⟩ (.slice za zn zc)).setCell ⟨w.heap.size, 1, none⟩ (.slice ka kn kc)).setCell ⟨w.heap.size, 2, none⟩ (.int .i64 b.h)).setCell ⟨w.heap.size, 3, none⟩ (.int .i64 b.t)).setCell ⟨w.heap.size, 4, none⟩ (.slice (some ⟨w.heap.size + 1, 0, none⟩) 3 3) = w9 at *
    have z0 := zB.cell 0 _ rfl
    have z1 := zB.cell 1 _ rfl
    have z2 := zB.cell 2 _ rfl
    have z3 := zB.cell 3 _ rfl
    have z4 := zB.cell 4 _ rfl
    have o9 := hok.but hbut.but (hoff _ (Nat.le_refl _))
    exact bodyPost_ret (v := .agg #[.slice za zn zc, .slice ka kn kc, .int .i64 b.h, .int .i64 b.t, .slice (some ⟨w.heap.size + 1, 0, none⟩) 3 3]) (by simp [results, Tryz.results14, go_sem, z0, z1, z2, z3, z4]) rfl
      ⟨⟨_, rfl, o9, fun R hR => hoff R (Nat.le_of_lt hR), by simp only [HV.p, HP.out]; rfl⟩, bw.trans hbut.but.low⟩


end Go.Proofs.YtenmamcaldabdaaGreatDoor
