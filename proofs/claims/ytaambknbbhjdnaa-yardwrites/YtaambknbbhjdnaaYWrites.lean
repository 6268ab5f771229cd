/- YardWrites answers true for every zones, number and data, and leaves all that was there as it was; no condition. -/
import Derived.Test.YtaambknbbhjdnaaY2
import Derived.Test.YtaambknbbhjdnaaD2
import Derived.Test.YtaambknbbhjdnaaA6
namespace Go.Proofs.Ytaambknbbhjdnaa
open Go.RowKit
set_option linter.unusedVariables false
set_option maxRecDepth 100000
set_option linter.unusedSimpArgs false

theorem write_bad {P : List PZ} {k : Int} {data : List Int} (h : checkZs P ≠ 0) : (writeP P k data).2.2 = checkZs P ∧ (finishP P k).2 = checkZs P := by
  have : pre P k = checkZs P := by simp [pre, h]
  simp [writeP, finishP, this, h]

set_option maxRecDepth 100000 in
set_option maxHeartbeats 16000000 in
theorem YardWrites_bad (a : Option Addr) (n c : Nat) (Z : List ZV) (x : Int) (b : Option Addr) (m d : Nat) (k : List Int) (w : World) (h : Zones w a n c Z) (hd : Ints w b m d k)
    (hx : -9223372036854775808 ≤ x ∧ x ≤ 9223372036854775807) (hbad : checkZs (Z.map ZV.p) ≠ 0) :
    Calls Try.prog 5 #[.slice a n c, .int .i64 x, .slice b m d] w fun e w' => e = .returned (.bool true) ∧ Below w.heap.size w w' := by
  go_enter Try.func5, Try.ntmps5
  go_wp2_with fail
  refine (at_c x 4 _ (by omega) (by omega) hx).mono ?_
  rintro e w1 ⟨rfl, rfl⟩
  generalize x % 4 = j
  go_wp2_with fail
  refine (YWrite_c a n c Z j b m d k _ h hd).mono ?_
  rintro e w2 ⟨⟨a2, n2, c2, Z2, rfl, i2, p2⟩, hb2⟩
  obtain ⟨f1, f2⟩ := write_bad (k := j) (data := k) hbad
  rw [f1]
  have F2 := hide f2
  clear f1 f2 p2
  generalize hzz : checkZs (Z.map ZV.p) = z at *
  have HZZ := hide hzz
  clear hzz
  have hz : (z == 0) = false := by simpa using hbad
  have hz' : (z != 0) = true := by simpa using hbad
  clear hbad
  replace h := h.below hb2 (Nat.le_refl _)
  go_wp2_with fail
  refine (crowded_c _).mono ?_
  rintro e w3 ⟨rfl, hb3⟩
  replace h := h.below hb3 (Nat.le_refl _)
  have b3 := belowT hb2 hb3
  clear hb2 hb3
  go_wp2_with fail
  refine (YFinish_c a n c Z j _ h).mono ?_
  rintro e w4 ⟨⟨a4, n4, c4, Z4, rfl, i4, p4⟩, hb4⟩
  rw [F2.out]
  clear p4 i4
  replace h := h.below hb4 (Nat.le_refl _)
  have b4 := belowT b3 hb4
  clear hb4 b3
  go_wp2_with fail
  refine (YCheck_c a n c Z _ h).mono ?_
  rintro e w5 ⟨rfl, hb5⟩
  rw [HZZ.out]
  go_wp2
  go_ret
  exact ⟨rfl, by (repeat first | exact bel0 | assumption | refine bel1 ?_ | refine bel2 ?_ | refine bel3 ?_ | refine belowT ?_ (by assumption) | refine bel5 ?_ (by simp; try omega))⟩

/-- A zone of zones that are known. -/
theorem zs_at {w : World} {a : Option Addr} {n c : Nat} {Z : List ZV} {R : List PZ} {j : Nat} {s : Int} {l : List Int} (h : Zones w a n c Z) (hp : Z.map ZV.p = R) (hj : R[j]? = some (s, l)) :
    j < n ∧ ∃ b off z, a = some ⟨b, off, none⟩ ∧ Z[j]? = some z ∧ z.s = s ∧ z.l = l ∧ w.cell? ⟨b, off + j * 2, none⟩ = some (.int .i64 z.s) ∧ w.cell? ⟨b, off + j * 2 + 1, none⟩ = some (.slice z.a z.n z.c) ∧ z.n = z.l.length := by
  subst hp
  rw [List.getElem?_map] at hj
  cases hz : Z[j]? with
  | none => rw [hz] at hj; cases hj
  | some z =>
    rw [hz] at hj
    simp [ZV.p] at hj
    have hjl : j < Z.length := (List.getElem?_eq_some_iff.1 hz).1
    have hn := h.len
    rcases h.row with h0 | ⟨b, off, ha, _, hr⟩
    · omega
    · obtain ⟨q0, q1⟩ := hr j z hz
      exact ⟨by omega, b, off, z, ha, rfl, hj.1, hj.2, q0, q1, (h.ok z (List.mem_of_getElem? hz)).len.symm⟩

/-- A zone that was finished: it is written no more, and can be reset. -/
theorem finished {P : List PZ} {j : Nat} (hc : checkZs P = 0) (hj : j < 4) :
    finishP P j = (P.set j (4, (at' P j).2), 0) ∧ (writeP (P.set j (4, (at' P j).2)) j [1]).2.2 = 7 ∧ resetP (P.set j (4, (at' P j).2)) j = ((P.set j (4, (at' P j).2)).set j (0, []), 0) ∧ ((P.set j (4, (at' P j).2)).set j (0, []))[j]? = some (0, []) := by
  have hp := pre_mk (P := P) hc hj
  have hf : finishP P j = (P.set j (4, (at' P j).2), 0) := by simp [finishP, hp]
  obtain ⟨hQ, _, hz⟩ := finish_law hf
  have hq := pre_mk (P := P.set j (4, (at' P j).2)) hQ hj
  have h4 := (checkZs_ok hc).1
  have hat : at' (P.set j (4, (at' P j).2)) j = (4, (at' P j).2) := by simp [at', List.getD, h4, hj]
  have hzc := (checkZs_ok hQ).2.1 _ (List.mem_of_getElem? hz)
  have hw : writeE 4 (at' P j).2 [1] = 7 := by
    have e1 : checkZ 4 (at' P j).2 = 0 := hzc
    have e2 : outB 1 8 (([1] : List Int).length : Int) = false := rfl
    have e3 : ([1] : List Int).any (outB 0 999) = false := rfl
    simp only [writeE, e1, e2, e3]
    simp
  refine ⟨hf, ?_, by simp [resetP, hq], by simp [h4, hj]⟩
  simp [writeP, hq, hat, hw]

set_option maxRecDepth 100000 in
set_option maxHeartbeats 16000000 in
theorem YardWrites_no (a : Option Addr) (n c : Nat) (Z : List ZV) (x : Int) (b : Option Addr) (m d : Nat) (k : List Int) (w : World) (h : Zones w a n c Z) (hd : Ints w b m d k)
    (hx : -9223372036854775808 ≤ x ∧ x ≤ 9223372036854775807) (hok : checkZs (Z.map ZV.p) = 0) (hno : (writeP (Z.map ZV.p) (x % 4) k).2.2 ≠ 0) :
    Calls Try.prog 5 #[.slice a n c, .int .i64 x, .slice b m d] w fun e w' => e = .returned (.bool true) ∧ Below w.heap.size w w' := by
  go_enter Try.func5, Try.ntmps5
  go_wp2_with fail
  refine (at_c x 4 _ (by omega) (by omega) hx).mono ?_
  rintro e w1 ⟨rfl, rfl⟩
  have hj0 := Int.emod_nonneg x (show (4 : Int) ≠ 0 by omega)
  have hj1 := Int.emod_lt_of_pos x (show (0 : Int) < 4 by omega)
  generalize x % 4 = j at *
  obtain ⟨j, rfl⟩ := Int.eq_ofNat_of_zero_le hj0
  obtain ⟨f1, f2, f3, f4⟩ := finished hok (show j < 4 by omega)
  have HF := hide f1
  have HW := hide f2
  have HS := hide f3
  have HJ := hide f4
  clear f1 f2 f3 f4
  go_wp2_with fail
  refine (YWrite_c a n c Z j b m d k _ h hd).mono ?_
  rintro e w2 ⟨⟨a2, n2, c2, Z2, rfl, i2, p2⟩, hb2⟩
  generalize (writeP (Z.map ZV.p) j k).2.2 = z at *
  have hz : (z == 0) = false := by simpa using hno
  clear hno p2 i2
  replace h := h.below hb2 (Nat.le_refl _)
  go_wp2_with fail
  refine (crowded_c _).mono ?_
  rintro e w3 ⟨rfl, hb3⟩
  replace h := h.below hb3 (Nat.le_refl _)
  have bT := belowT hb2 hb3
  clear hb2 hb3 hd
  go_wp2_with fail
  refine (YFinish_c _ n c Z j _ h).mono ?_
  rintro e w5 ⟨⟨a5, n5, c5, Z5, rfl, i5, p5⟩, hb5⟩
  rw [HF.out] at p5 ⊢
  have P5 := hide p5
  have b5 := belowT bT hb5
  clear p5 hb5 bT h
  go_wp2_with fail
  refine (YWrite_c a5 n5 c5 Z5 j _ 1 1 [1] _ (i5.below (B := w5.heap.size) (belowA (Below.refl _ _) _) (Nat.le_refl _)) (by refine Ints.of_row (l := [1]) (t := 3) (fr := (0, 0)) ?_ (by decide) (by decide) rfl; exact heap_new w5 _)).mono ?_
  rintro e w6 ⟨⟨a6, n6, c6, Z6, rfl, i6, p6⟩, hb6⟩
  rw [P5.out, HW.out]
  have b56 : Below w5.heap.size w5 w6 := by (repeat first | exact bel0 | assumption | refine bel1 ?_ | refine bel2 ?_ | refine bel3 ?_ | refine belowT ?_ (by assumption) | refine bel5 ?_ (by simp; try omega))
  replace i5 := i5.below b56 (Nat.le_refl _)
  have b6 := belowT b5 b56
  clear p6 i6 hb6 b56 b5
  go_wp2_with fail
  refine (YReset_c a5 n5 c5 Z5 j _ i5).mono ?_
  rintro e w7 ⟨⟨a7, n7, c7, Z7, rfl, i7, p7⟩, hb7⟩
  rw [P5.out, HS.out] at p7 ⊢
  have b7 := belowT b6 hb7
  obtain ⟨hn7, b0, off, z, ha7, hz7, hzs, hzl, q0, q1, hzn⟩ := zs_at i7 p7 HJ.out
  rw [ha7]
  rw [hzs] at q0
  have hzn0 : z.n = 0 := by rw [hzn, hzl]; rfl
  rw [hzn0] at q1
  have hj7 : (j : Int) < (n7 : Int) := by omega
  clear hz7 hzs hzl hzn hzn0 ha7 hb7 b6 p7 i7 i5
  go_wp2
  go_ret
  exact ⟨rfl, by (repeat first | exact bel0 | assumption | refine bel1 ?_ | refine bel2 ?_ | refine bel3 ?_ | refine belowT ?_ (by assumption) | refine bel5 ?_ (by simp; try omega))⟩


theorem triple {α β γ : Type} (t : α × β × γ) (c : γ) (h : t.2.2 = c) : t = (t.1, t.2.1, c) := by obtain ⟨a, b, d⟩ := t; simp at h; subst h; rfl

set_option maxRecDepth 100000 in
set_option maxHeartbeats 16000000 in
theorem YardWrites_yes (a : Option Addr) (n c : Nat) (Z : List ZV) (x : Int) (b : Option Addr) (m d : Nat) (k : List Int) (w : World) (h : Zones w a n c Z) (hd : Ints w b m d k)
    (hx : -9223372036854775808 ≤ x ∧ x ≤ 9223372036854775807) (hok : checkZs (Z.map ZV.p) = 0) (hyes : (writeP (Z.map ZV.p) (x % 4) k).2.2 = 0) :
    Calls Try.prog 5 #[.slice a n c, .int .i64 x, .slice b m d] w fun e w' => e = .returned (.bool true) ∧ Below w.heap.size w w' := by
  go_enter Try.func5, Try.ntmps5
  go_wp2_with fail
  refine (at_c x 4 _ (by omega) (by omega) hx).mono ?_
  rintro e w1 ⟨rfl, rfl⟩
  have hj0 := Int.emod_nonneg x (show (4 : Int) ≠ 0 by omega)
  have hj1 := Int.emod_lt_of_pos x (show (0 : Int) < 4 by omega)
  generalize x % 4 = j at *
  obtain ⟨j, rfl⟩ := Int.eq_ofNat_of_zero_le hj0
  obtain ⟨f1, f2, f3, f4⟩ := finished hok (show j < 4 by omega)
  have HF := hide f1
  have HW := hide f2
  have HS := hide f3
  have HJ := hide f4
  clear f1 f2 f3 f4
  obtain ⟨hQ, _, hn, hQj, hwe⟩ := write_law (triple _ _ hyes)
  obtain ⟨_, jj, hjj, _, hPj⟩ := pre_plain (pre_mk (P := Z.map ZV.p) hok (show j < 4 by omega))
  obtain rfl : j = jj := by omega
  have HN := hide hn
  have HY := hide hyes
  have HQJ := hide hQj
  have HPJ := hide hPj
  have hzc := hide ((checkZs_ok hQ).2.1 _ (List.mem_of_getElem? hQj))
  clear hn hyes hQj hPj hQ
  go_wp2_with fail
  refine (YWrite_c a n c Z j b m d k _ h hd).mono ?_
  rintro e w2 ⟨⟨a2, n2, c2, Z2, rfl, i2, p2⟩, hb2⟩
  rw [HY.out, HN.out]
  obtain ⟨hjn2, b2, o2, z, ha2, hz2, hzs, hzl, q0, q1, hzn⟩ := zs_at i2 p2 HQJ.out
  have hzok := i2.ok z (List.mem_of_getElem? hz2)
  rw [ha2]
  replace h := h.below hb2 (Nat.le_refl _)
  replace hd := hd.below hb2 (Nat.le_refl _)
  have HZS := hide hzs
  have HZL := hide hzl
  clear p2 i2 hz2 ha2 hzs hzl hzn
  go_wp2_with fail
  refine (crowded_c _).mono ?_
  rintro e w3 ⟨rfl, hb3⟩
  replace h := h.below hb3 (Nat.le_refl _)
  replace hd := hd.below hb3 (Nat.le_refl _)
  replace hzok : z.ok w3 := Ints.below hzok hb3 (Nat.le_refl _)
  replace q0 := keepc hb3 q0
  replace q1 := keepc hb3 q1
  have bT := belowT hb2 hb3
  clear hb2 hb3
  have hjn2' : (j : Int) < (n2 : Int) := by omega
  go_wp2_with fail
  have hlen : z.l.length = (at' (Z.map ZV.p) j).2.length + k.length := by rw [HZL.out, List.length_append]
  refine (Read_ok z.s z.a z.n z.c z.l ((at' (Z.map ZV.p) j).2.length : Nat) (m : Nat) _ hzok (readE_zero (by rw [HZS.out, HZL.out]; exact hzc.out) (by omega) (by omega) (by rw [hlen, hd.len]; omega))).mono ?_
  rintro e w4 ⟨⟨q4, rfl, i4, _⟩, hb4⟩
  rw [Int.toNat_natCast, Int.toNat_natCast, HZL.out, ← hd.len, drop_take_new, hd.len] at i4
  rw [Int.toNat_natCast]
  replace h := h.below hb4 (Nat.le_refl _)
  replace hd := hd.below hb4 (Nat.le_refl _)
  replace bT := belowT bT hb4
  clear hb4 q0 q1 hzok hlen
  go_wp2_with fail
  refine (Equal_c _ _ m m m d k k _ i4 hd).mono ?_
  rintro e w4 ⟨rfl, nq, rfl⟩
  rw [show decide (k = k) = true from decide_eq_true rfl]
  obtain ⟨hjn, b0, o0, y, ha, hy, hys, hyl, y0, y1, hyn⟩ := zs_at h rfl HPJ.out
  have hyL : (at' (Z.map ZV.p) j).2.length = y.n := by rw [hyn, hyl]; rfl
  rw [hyL, ha]
  have hne : ((y.n : Int) != (y.n : Int)) = false := by simp
  have hjn' : (j : Int) < (n : Int) := by omega
  rw [ha] at h
  replace h := h.below (B := w4.heap.size) (below_drewN (Below.refl _ _) nq) (Nat.le_refl _)
  replace bT := below_drewN bT nq
  clear hyL hyn hyl hys hy ha hd i4
  go_wp2_with fail
  refine (YFinish_c _ n c Z j _ h).mono ?_
  rintro e w5 ⟨⟨a5, n5, c5, Z5, rfl, i5, p5⟩, hb5⟩
  rw [HF.out] at p5 ⊢
  have P5 := hide p5
  have b5 := belowT bT hb5
  clear p5 hb5 bT h
  go_wp2_with fail
  refine (YWrite_c a5 n5 c5 Z5 j _ 1 1 [1] _ (i5.below (B := w5.heap.size) (belowA (Below.refl _ _) _) (Nat.le_refl _)) (by refine Ints.of_row (l := [1]) (t := 3) (fr := (0, 0)) ?_ (by decide) (by decide) rfl; exact heap_new w5 _)).mono ?_
  rintro e w6 ⟨⟨a6, n6, c6, Z6, rfl, i6, p6⟩, hb6⟩
  rw [P5.out, HW.out]
  have b56 : Below w5.heap.size w5 w6 := by (repeat first | exact bel0 | assumption | refine bel1 ?_ | refine bel2 ?_ | refine bel3 ?_ | refine belowT ?_ (by assumption) | refine bel5 ?_ (by simp; try omega))
  replace i5 := i5.below b56 (Nat.le_refl _)
  have b6 := belowT b5 b56
  clear p6 i6 hb6 b56 b5
  go_wp2_with fail
  refine (YReset_c a5 n5 c5 Z5 j _ i5).mono ?_
  rintro e w7 ⟨⟨a7, n7, c7, Z7, rfl, i7, p7⟩, hb7⟩
  rw [P5.out, HS.out] at p7 ⊢
  have b7 := belowT b6 hb7
  obtain ⟨hn7, b0, off, z, ha7, hz7, hzs, hzl, q0, q1, hzn⟩ := zs_at i7 p7 HJ.out
  rw [ha7]
  rw [hzs] at q0
  have hzn0 : z.n = 0 := by rw [hzn, hzl]; rfl
  rw [hzn0] at q1
  have hj7 : (j : Int) < (n7 : Int) := by omega
  clear hz7 hzs hzl hzn hzn0 ha7 hb7 b6 p7 i7 i5
  go_wp2
  go_ret
  exact ⟨rfl, by (repeat first | exact bel0 | assumption | refine bel1 ?_ | refine bel2 ?_ | refine bel3 ?_ | refine belowT ?_ (by assumption) | refine bel5 ?_ (by simp; try omega))⟩


theorem YardWrites_c (a : Option Addr) (n c : Nat) (Z : List ZV) (x : Int) (b : Option Addr) (m d : Nat) (k : List Int) (w : World) (h : Zones w a n c Z) (hd : Ints w b m d k)
    (hx : -9223372036854775808 ≤ x ∧ x ≤ 9223372036854775807) :
    Calls Try.prog 5 #[.slice a n c, .int .i64 x, .slice b m d] w fun e w' => e = .returned (.bool true) ∧ Below w.heap.size w w' := by
  by_cases hc : checkZs (Z.map ZV.p) = 0
  · by_cases hw : (writeP (Z.map ZV.p) (x % 4) k).2.2 = 0
    · exact YardWrites_yes a n c Z x b m d k w h hd hx hc hw
    · exact YardWrites_no a n c Z x b m d k w h hd hx hc hw
  · exact YardWrites_bad a n c Z x b m d k w h hd hx hc

end Go.Proofs.Ytaambknbbhjdnaa
