/- YardSays answers true for every zones, number, data and other zones, and leaves all that was there as it was; no condition. -/
import Derived.Test.YtaambknbbhjdnaaY2
namespace Go.Proofs.Ytaambknbbhjdnaa
open Go.RowKit
set_option linter.unusedVariables false
set_option maxRecDepth 100000
set_option linter.unusedSimpArgs false

theorem mk4 (w : World) : (Instr.makeSlice 22 (.int .i64 4) (.int .i64 4)).run Try.prog w = .ok (.slice (some ⟨w.heap.size, 0, none⟩) 4 4) (w.alloc (.cells #[.int .i64 0, .slice none 0 0, .int .i64 0, .slice none 0 0, .int .i64 0, .slice none 0 0, .int .i64 0, .slice none 0 0] 37)) := by kernel_rfl

/-- Four new zones. -/
theorem zs_new (w : World) : Zones (w.alloc (.cells #[.int .i64 0, .slice none 0 0, .int .i64 0, .slice none 0 0, .int .i64 0, .slice none 0 0, .int .i64 0, .slice none 0 0] 37)) (some ⟨w.heap.size, 0, none⟩) 4 4 [⟨0, none, 0, 0, []⟩, ⟨0, none, 0, 0, []⟩, ⟨0, none, 0, 0, []⟩, ⟨0, none, 0, 0, []⟩] := by
  refine ⟨rfl, Nat.le_refl _, by omega, fun e => (by cases e), .inr ⟨w.heap.size, 0, rfl, by simp, fun i z hz => ?_⟩, fun z hz => ?_⟩
  · rw [World.cell?_alloc_new, World.cell?_alloc_new]
    have hi : i < 4 := (List.getElem?_eq_some_iff.1 hz).1
    rcases (by omega : i = 0 ∨ i = 1 ∨ i = 2 ∨ i = 3) with e | e | e | e <;> subst e <;> simp at hz <;> subst hz <;> exact ⟨rfl, rfl⟩
  · have : z = ⟨0, none, 0, 0, []⟩ := by simpa using hz
    subst this
    exact Ints.nilSlice _

set_option maxRecDepth 100000 in
set_option maxHeartbeats 16000000 in
theorem YardSays_c (a : Option Addr) (n c : Nat) (Z : List ZV) (x : Int) (b : Option Addr) (m d : Nat) (k : List Int) (aY : Option Addr) (nY cY : Nat) (ZY : List ZV) (w : World) (h : Zones w a n c Z) (hd : Ints w b m d k) (hY : Zones w aY nY cY ZY) :
    Calls Try.prog 3 #[.slice a n c, .int .i64 x, .slice b m d, .slice aY nY cY] w fun e w' => e = .returned (.bool true) ∧ Below w.heap.size w w' := by
  have hmk := mk4
  go_enter Try.func3, Try.ntmps3
  go_wp2_with fail
  refine (YHold_c a n c Z x _ h).mono ?_
  rintro e w1 ⟨⟨a1, n1, c1, Z1, rfl, i1, p1⟩, hb⟩
  have P1 := hide p1
  clear p1
  replace h := h.below hb (Nat.le_refl _)
  replace hd := hd.below hb (Nat.le_refl _)
  replace hY := hY.below hb (Nat.le_refl _)
  have bw1 : Below w.heap.size w w1 := hb
  clear hb
  go_wp2_with fail
  refine (YClose_c a n c Z x _ h).mono ?_
  rintro e w2 ⟨⟨a2, n2, c2, Z2, rfl, i2, p2⟩, hb⟩
  have P2 := hide p2
  clear p2
  replace h := h.below hb (Nat.le_refl _)
  replace hd := hd.below hb (Nat.le_refl _)
  replace hY := hY.below hb (Nat.le_refl _)
  replace i1 := i1.below hb (Nat.le_refl _)
  have bw2 : Below w.heap.size w w2 := belowT bw1 hb
  clear hb bw1
  go_wp2_with fail
  refine (YFinish_c a n c Z x _ h).mono ?_
  rintro e w3 ⟨⟨a3, n3, c3, Z3, rfl, i3, p3⟩, hb⟩
  have P3 := hide p3
  clear p3
  replace h := h.below hb (Nat.le_refl _)
  replace hd := hd.below hb (Nat.le_refl _)
  replace hY := hY.below hb (Nat.le_refl _)
  replace i1 := i1.below hb (Nat.le_refl _)
  replace i2 := i2.below hb (Nat.le_refl _)
  have bw3 : Below w.heap.size w w3 := belowT bw2 hb
  clear hb bw2
  go_wp2_with fail
  refine (YReset_c a n c Z x _ h).mono ?_
  rintro e w4 ⟨⟨a4, n4, c4, Z4, rfl, i4, p4⟩, hb⟩
  have P4 := hide p4
  clear p4
  replace h := h.below hb (Nat.le_refl _)
  replace hd := hd.below hb (Nat.le_refl _)
  replace hY := hY.below hb (Nat.le_refl _)
  replace i1 := i1.below hb (Nat.le_refl _)
  replace i2 := i2.below hb (Nat.le_refl _)
  replace i3 := i3.below hb (Nat.le_refl _)
  have bw4 : Below w.heap.size w w4 := belowT bw3 hb
  clear hb bw3
  go_wp2_with fail
  refine (YWrite_c a n c Z x b m d k _ h hd).mono ?_
  rintro e w5 ⟨⟨a5, n5, c5, Z5, rfl, i5, p5⟩, hb⟩
  have P5 := hide p5
  clear p5
  replace h := h.below hb (Nat.le_refl _)
  replace hd := hd.below hb (Nat.le_refl _)
  replace hY := hY.below hb (Nat.le_refl _)
  replace i1 := i1.below hb (Nat.le_refl _)
  replace i2 := i2.below hb (Nat.le_refl _)
  replace i3 := i3.below hb (Nat.le_refl _)
  replace i4 := i4.below hb (Nat.le_refl _)
  have bw5 : Below w.heap.size w w5 := belowT bw4 hb
  clear hb bw4
  go_wp2_with fail
  refine (OnZ_hold_u a n c Z x none 0 0 _ h).mono ?_
  rintro e w6 ⟨⟨a6, n6, c6, Z6, rfl, i6, p6⟩, hb⟩
  have P6 := hide p6
  clear p6
  replace h := h.below hb (Nat.le_refl _)
  replace hd := hd.below hb (Nat.le_refl _)
  replace hY := hY.below hb (Nat.le_refl _)
  replace i1 := i1.below hb (Nat.le_refl _)
  replace i2 := i2.below hb (Nat.le_refl _)
  replace i3 := i3.below hb (Nat.le_refl _)
  replace i4 := i4.below hb (Nat.le_refl _)
  replace i5 := i5.below hb (Nat.le_refl _)
  have bw6 : Below w.heap.size w w6 := belowT bw5 hb
  clear hb bw5
  go_wp2_with fail
  refine (OnZ_close_u a n c Z x none 0 0 _ h).mono ?_
  rintro e w7 ⟨⟨a7, n7, c7, Z7, rfl, i7, p7⟩, hb⟩
  have P7 := hide p7
  clear p7
  replace h := h.below hb (Nat.le_refl _)
  replace hd := hd.below hb (Nat.le_refl _)
  replace hY := hY.below hb (Nat.le_refl _)
  replace i1 := i1.below hb (Nat.le_refl _)
  replace i2 := i2.below hb (Nat.le_refl _)
  replace i3 := i3.below hb (Nat.le_refl _)
  replace i4 := i4.below hb (Nat.le_refl _)
  replace i5 := i5.below hb (Nat.le_refl _)
  replace i6 := i6.below hb (Nat.le_refl _)
  have bw7 : Below w.heap.size w w7 := belowT bw6 hb
  clear hb bw6
  go_wp2_with fail
  refine (OnZ_finish_u a n c Z x none 0 0 _ h).mono ?_
  rintro e w8 ⟨⟨a8, n8, c8, Z8, rfl, i8, p8⟩, hb⟩
  have P8 := hide p8
  clear p8
  replace h := h.below hb (Nat.le_refl _)
  replace hd := hd.below hb (Nat.le_refl _)
  replace hY := hY.below hb (Nat.le_refl _)
  replace i1 := i1.below hb (Nat.le_refl _)
  replace i2 := i2.below hb (Nat.le_refl _)
  replace i3 := i3.below hb (Nat.le_refl _)
  replace i4 := i4.below hb (Nat.le_refl _)
  replace i5 := i5.below hb (Nat.le_refl _)
  replace i6 := i6.below hb (Nat.le_refl _)
  replace i7 := i7.below hb (Nat.le_refl _)
  have bw8 : Below w.heap.size w w8 := belowT bw7 hb
  clear hb bw7
  go_wp2_with fail
  refine (OnZ_reset_u a n c Z x none 0 0 _ h).mono ?_
  rintro e w9 ⟨⟨a9, n9, c9, Z9, rfl, i9, p9⟩, hb⟩
  have P9 := hide p9
  clear p9
  replace h := h.below hb (Nat.le_refl _)
  replace hd := hd.below hb (Nat.le_refl _)
  replace hY := hY.below hb (Nat.le_refl _)
  replace i1 := i1.below hb (Nat.le_refl _)
  replace i2 := i2.below hb (Nat.le_refl _)
  replace i3 := i3.below hb (Nat.le_refl _)
  replace i4 := i4.below hb (Nat.le_refl _)
  replace i5 := i5.below hb (Nat.le_refl _)
  replace i6 := i6.below hb (Nat.le_refl _)
  replace i7 := i7.below hb (Nat.le_refl _)
  replace i8 := i8.below hb (Nat.le_refl _)
  have bw9 : Below w.heap.size w w9 := belowT bw8 hb
  clear hb bw8
  go_wp2_with fail
  refine (OnZ_append_u a n c Z x b m d k _ h hd).mono ?_
  rintro e w10 ⟨⟨a10, n10, c10, Z10, rfl, i10, p10⟩, hb⟩
  have P10 := hide p10
  clear p10
  replace h := h.below hb (Nat.le_refl _)
  replace hd := hd.below hb (Nat.le_refl _)
  replace hY := hY.below hb (Nat.le_refl _)
  replace i1 := i1.below hb (Nat.le_refl _)
  replace i2 := i2.below hb (Nat.le_refl _)
  replace i3 := i3.below hb (Nat.le_refl _)
  replace i4 := i4.below hb (Nat.le_refl _)
  replace i5 := i5.below hb (Nat.le_refl _)
  replace i6 := i6.below hb (Nat.le_refl _)
  replace i7 := i7.below hb (Nat.le_refl _)
  replace i8 := i8.below hb (Nat.le_refl _)
  replace i9 := i9.below hb (Nat.le_refl _)
  have bw10 : Below w.heap.size w w10 := belowT bw9 hb
  clear hb bw9
  generalize (holdP (Z.map ZV.p) x).2 = eH at *
  generalize (closeP (Z.map ZV.p) x).2 = eC at *
  generalize (finishP (Z.map ZV.p) x).2 = eF at *
  generalize (resetP (Z.map ZV.p) x).2 = eR at *
  generalize (writeP (Z.map ZV.p) x k).2.1 = eN at *
  generalize (writeP (Z.map ZV.p) x k).2.2 = eW at *
  have t1 : (checkZs (Z.map ZV.p) != checkZs (Z.map ZV.p)) = false := by simp
  have t2 : (decide (Z.map ZV.p = ZY.map ZV.p) != decide (Z.map ZV.p = ZY.map ZV.p)) = false := by simp
  go_upto_region 11 with fail
  go_cut [126] (fun v wx => v = .bool false ∧ Below w10.heap.size w10 wx)
  case first =>
    go_region_held3 (fun _ => True) (trivial)
      (first | (go_at_call 13; refine (crowded_c _).mono ?_; rintro e w9 ⟨rfl, hb9⟩) | (go_at_call 14; refine (YCheck_c a n c Z _ (by refine Zones.below h (B := w10.heap.size) ?_ (Nat.le_refl _); (repeat first | exact bel0 | assumption | refine bel1 ?_ | refine bel2 ?_ | refine bel3 ?_ | refine belowT ?_ (by assumption) | refine bel5 ?_ (by simp; try omega)))).mono ?_; rintro e w9 ⟨rfl, hb9⟩) | (go_at_call 15; refine (CheckZones_c a n c Z _ (by refine Zones.below h (B := w10.heap.size) ?_ (Nat.le_refl _); (repeat first | exact bel0 | assumption | refine bel1 ?_ | refine bel2 ?_ | refine bel3 ?_ | refine belowT ?_ (by assumption) | refine bel5 ?_ (by simp; try omega)))).mono ?_; rintro e w9 ⟨rfl, hb9⟩) | (go_at_call 16; refine (YSame_c a aY n nY c cY Z ZY _ (by refine Zones.below h (B := w10.heap.size) ?_ (Nat.le_refl _); (repeat first | exact bel0 | assumption | refine bel1 ?_ | refine bel2 ?_ | refine bel3 ?_ | refine belowT ?_ (by assumption) | refine bel5 ?_ (by simp; try omega))) (by refine Zones.below hY (B := w10.heap.size) ?_ (Nat.le_refl _); (repeat first | exact bel0 | assumption | refine bel1 ?_ | refine bel2 ?_ | refine bel3 ?_ | refine belowT ?_ (by assumption) | refine bel5 ?_ (by simp; try omega)))).mono ?_; rintro e w9 ⟨rfl, hb9⟩) | (go_at_call_of 17 (Value.slice aY nY cY); refine (SameZones_c a aY n nY c cY Z ZY _ (by refine Zones.below h (B := w10.heap.size) ?_ (Nat.le_refl _); (repeat first | exact bel0 | assumption | refine bel1 ?_ | refine bel2 ?_ | refine bel3 ?_ | refine belowT ?_ (by assumption) | refine bel5 ?_ (by simp; try omega))) (by refine Zones.below hY (B := w10.heap.size) ?_ (Nat.le_refl _); (repeat first | exact bel0 | assumption | refine bel1 ?_ | refine bel2 ?_ | refine bel3 ?_ | refine belowT ?_ (by assumption) | refine bel5 ?_ (by simp; try omega)))).mono ?_; rintro e w9 ⟨rfl, hb9⟩) | (go_at_call 18; refine (YNew_c _).mono ?_; rintro e w9 ⟨⟨aN, cN, ZN, rfl, iN, pN⟩, hb9⟩; (have PN := hide pN); (clear pN)) | (go_at_call 17; refine (SameZones_c aN _ 4 4 cN 4 ZN [⟨0, none, 0, 0, []⟩, ⟨0, none, 0, 0, []⟩, ⟨0, none, 0, 0, []⟩, ⟨0, none, 0, 0, []⟩] _ (by first | exact iN | exact iN.below (belowA (Below.refl _ _) _) (Nat.le_refl _)) (by first | exact zs_new _ | exact (zs_new _).below hb9 (Nat.le_refl _))).mono ?_; rintro e w9 ⟨rfl, hb9⟩; (rw [show decide (ZN.map ZV.p = List.map ZV.p [⟨0, none, 0, 0, []⟩, ⟨0, none, 0, 0, []⟩, ⟨0, none, 0, 0, []⟩, ⟨0, none, 0, 0, []⟩]) = true from decide_eq_true PN.out])))
    all_goals
      go_wp2_with fail
      go_meet
      case rel => exact ⟨rfl, by (repeat first | exact bel0 | assumption | refine bel1 ?_ | refine bel2 ?_ | refine bel3 ?_ | refine belowT ?_ (by assumption) | refine bel5 ?_ (by simp; try omega))⟩
  case rest =>
    obtain ⟨rfl, hbc⟩ := hcut
    have uH : (eH == eH) = true := by simp
    have uC : (eC == eC) = true := by simp
    have uF : (eF == eF) = true := by simp
    have uR : (eR == eR) = true := by simp
    have uN : (eN == eN) = true := by simp
    have uW : (eW == eW) = true := by simp
    go_wp2_with (first | (go_at_call_of 17 (Value.slice a1 n1 c1); refine (SameZones_c a1 a6 n1 n6 c1 c6 Z1 Z6 _ (by refine Zones.below i1 (B := w10.heap.size) ?_ (Nat.le_refl _); (repeat first | exact bel0 | assumption | refine bel1 ?_ | refine bel2 ?_ | refine bel3 ?_ | refine belowT ?_ (by assumption) | refine bel5 ?_ (by simp; try omega))) (by refine Zones.below i6 (B := w10.heap.size) ?_ (Nat.le_refl _); (repeat first | exact bel0 | assumption | refine bel1 ?_ | refine bel2 ?_ | refine bel3 ?_ | refine belowT ?_ (by assumption) | refine bel5 ?_ (by simp; try omega)))).mono ?_; rintro e w9 ⟨rfl, hb9⟩; (rw [show decide (Z1.map ZV.p = Z6.map ZV.p) = true from decide_eq_true (by rw [P1.out, P6.out])])) | (go_at_call_of 17 (Value.slice a2 n2 c2); refine (SameZones_c a2 a7 n2 n7 c2 c7 Z2 Z7 _ (by refine Zones.below i2 (B := w10.heap.size) ?_ (Nat.le_refl _); (repeat first | exact bel0 | assumption | refine bel1 ?_ | refine bel2 ?_ | refine bel3 ?_ | refine belowT ?_ (by assumption) | refine bel5 ?_ (by simp; try omega))) (by refine Zones.below i7 (B := w10.heap.size) ?_ (Nat.le_refl _); (repeat first | exact bel0 | assumption | refine bel1 ?_ | refine bel2 ?_ | refine bel3 ?_ | refine belowT ?_ (by assumption) | refine bel5 ?_ (by simp; try omega)))).mono ?_; rintro e w9 ⟨rfl, hb9⟩; (rw [show decide (Z2.map ZV.p = Z7.map ZV.p) = true from decide_eq_true (by rw [P2.out, P7.out])])) | (go_at_call_of 17 (Value.slice a3 n3 c3); refine (SameZones_c a3 a8 n3 n8 c3 c8 Z3 Z8 _ (by refine Zones.below i3 (B := w10.heap.size) ?_ (Nat.le_refl _); (repeat first | exact bel0 | assumption | refine bel1 ?_ | refine bel2 ?_ | refine bel3 ?_ | refine belowT ?_ (by assumption) | refine bel5 ?_ (by simp; try omega))) (by refine Zones.below i8 (B := w10.heap.size) ?_ (Nat.le_refl _); (repeat first | exact bel0 | assumption | refine bel1 ?_ | refine bel2 ?_ | refine bel3 ?_ | refine belowT ?_ (by assumption) | refine bel5 ?_ (by simp; try omega)))).mono ?_; rintro e w9 ⟨rfl, hb9⟩; (rw [show decide (Z3.map ZV.p = Z8.map ZV.p) = true from decide_eq_true (by rw [P3.out, P8.out])])) | (go_at_call_of 17 (Value.slice a4 n4 c4); refine (SameZones_c a4 a9 n4 n9 c4 c9 Z4 Z9 _ (by refine Zones.below i4 (B := w10.heap.size) ?_ (Nat.le_refl _); (repeat first | exact bel0 | assumption | refine bel1 ?_ | refine bel2 ?_ | refine bel3 ?_ | refine belowT ?_ (by assumption) | refine bel5 ?_ (by simp; try omega))) (by refine Zones.below i9 (B := w10.heap.size) ?_ (Nat.le_refl _); (repeat first | exact bel0 | assumption | refine bel1 ?_ | refine bel2 ?_ | refine bel3 ?_ | refine belowT ?_ (by assumption) | refine bel5 ?_ (by simp; try omega)))).mono ?_; rintro e w9 ⟨rfl, hb9⟩; (rw [show decide (Z4.map ZV.p = Z9.map ZV.p) = true from decide_eq_true (by rw [P4.out, P9.out])])) | (go_at_call_of 17 (Value.slice a5 n5 c5); refine (SameZones_c a5 a10 n5 n10 c5 c10 Z5 Z10 _ (by refine Zones.below i5 (B := w10.heap.size) ?_ (Nat.le_refl _); (repeat first | exact bel0 | assumption | refine bel1 ?_ | refine bel2 ?_ | refine bel3 ?_ | refine belowT ?_ (by assumption) | refine bel5 ?_ (by simp; try omega))) (by refine Zones.below i10 (B := w10.heap.size) ?_ (Nat.le_refl _); (repeat first | exact bel0 | assumption | refine bel1 ?_ | refine bel2 ?_ | refine bel3 ?_ | refine belowT ?_ (by assumption) | refine bel5 ?_ (by simp; try omega)))).mono ?_; rintro e w9 ⟨rfl, hb9⟩; (rw [show decide (Z5.map ZV.p = Z10.map ZV.p) = true from decide_eq_true (by rw [P5.out, P10.out])])))
    go_ret
    exact ⟨rfl, by (repeat first | exact bel0 | assumption | refine bel1 ?_ | refine bel2 ?_ | refine bel3 ?_ | refine belowT ?_ (by assumption) | refine bel5 ?_ (by simp; try omega))⟩

end Go.Proofs.Ytaambknbbhjdnaa
