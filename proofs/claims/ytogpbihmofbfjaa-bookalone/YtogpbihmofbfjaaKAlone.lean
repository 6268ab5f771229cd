/- BookAlone answers true for every book and numbers, and leaves all that was there as it was; no condition. -/
import Derived.Test.YtogpbihmofbfjaaK6
import Derived.Test.YtogpbihmofbfjaaKP
import Derived.Deep.RegionHeld3
namespace Go.Proofs.Ytogpbihmofbfjaa
open Go.RowKit
set_option linter.unusedVariables false
set_option maxRecDepth 100000
set_option linter.unusedSimpArgs false

set_option maxRecDepth 100000 in
set_option maxHeartbeats 16000000 in
theorem BookAlone_c (a : Option Addr) (n c : Nat) (b : PB) (xw xk xy : Int) (w : World) (h : Ints w a n c b.k)
    (h1 : -9223372036854775808 ≤ xw ∧ xw ≤ 9223372036854775807) (h2 : -9223372036854775808 ≤ xy ∧ xy ≤ 9223372036854775807) :
    Calls Try.prog 5 #[bookV a n c b, .int .i64 xw, .int .i64 xk, .int .i64 xy] w fun e w' => e = .returned (.bool true) ∧ Below w.heap.size w w' := by
  unfold bookV
  go_enter Try.func5, Try.ntmps5
  go_wp2_with fail
  refine (at_c xw 3 _ (by omega) (by omega) h1).mono ?_
  rintro e w1 ⟨rfl, rfl⟩
  have hj0 := Int.emod_nonneg xw (show (3 : Int) ≠ 0 by omega)
  have hj1 := Int.emod_lt_of_pos xw (show (0 : Int) < 3 by omega)
  generalize xw % 3 = j at *
  obtain ⟨j, rfl⟩ := Int.eq_ofNat_of_zero_le hj0
  go_wp2_with fail
  refine (at_c xy 9 _ (by omega) (by omega) h2).mono ?_
  rintro e w1 ⟨rfl, rfl⟩
  have hk0 := Int.emod_nonneg xy (show (9 : Int) ≠ 0 by omega)
  have hk1 := Int.emod_lt_of_pos xy (show (0 : Int) < 9 by omega)
  generalize xy % 9 = ky at *
  clear h1 h2
  go_wp2_with fail
  refine (BReserve_c a n c b j xk _ (h.below (B := w.heap.size) (by (repeat first | exact bel0 | assumption | refine bel1 ?_ | refine bel2 ?_ | refine bel3 ?_ | refine belowT ?_ (by assumption) | refine bel5 ?_ (by simp; try omega))) (Nat.le_refl _))).mono ?_
  rintro e w2 ⟨⟨a2, n2, c2, rfl, i2, q2⟩, hb⟩
  have bw : Below w.heap.size w w2 := by (repeat first | exact bel0 | assumption | refine bel1 ?_ | refine bel2 ?_ | refine bel3 ?_ | refine belowT ?_ (by assumption) | refine bel5 ?_ (by simp; try omega))
  have hj3 : j < 3 := by omega
  clear hb q2
  by_cases hz : (reserveB b j xk).2 = 0
  · obtain ⟨x, y, z, hR, hc, hkd, _, hkey⟩ := reserve_ok hz
    rw [hR] at i2 ⊢
    simp only [bookV] at i2 ⊢
    clear hR hz h
    have HC := hide hc
    have HKD := hide hkd
    have HKEY := hide hkey
    clear hc hkd hkey
    go_wp2_with fail
    have xC := Box.made w2 a2 n2 c2 ⟨[x, y, z], j, xk⟩
    have hn := belowA (Below.refl w2.heap.size w2) (.cells #[.slice a2 n2 c2, .int .i64 j, .int .i64 xk] 24)
    replace i2 := i2.below hn (Nat.le_refl _)
    replace bw := belowT bw hn
    clear hn
    dsimp only at xC
    generalize w2.alloc (.cells #[.slice a2 n2 c2, .int .i64 j, .int .i64 xk] 24) = v2 at *
    generalize w2.heap.size = C at *
    refine (booked_c _).mono ?_
    rintro e w3 ⟨rfl, hb⟩
    replace i2 := i2.below hb (Nat.le_refl _)
    replace bw := belowT bw hb
    replace xC := xC.below hb
    clear hb
    obtain rfl : n2 = 3 := i2.len.symm
    obtain ⟨p0, p1, p2, -, -, -⟩ := id xC
    go_wp2
    go_loopw [36] (fun i wr => ∃ k : Nat, k ≤ 3 ∧ i = .int .i64 k ∧ Below w3.heap.size w3 wr) (fun i _ => 3 - (intOf i).toNat)
    case atStart => exact ⟨0, by omega, rfl, Below.refl _ _⟩
    case round =>
      obtain ⟨k, hk, rfl, hbr⟩ := hrel
      rename_i wr
      replace i2 := i2.below hbr (Nat.le_refl _)
      replace bw := belowT bw hbr
      replace xC := xC.below hbr
      clear p0 p1 p2
      obtain ⟨p0, p1, p2, -, -, -⟩ := id xC
      by_cases hlt : k < 3
      · have hlt' : (k : Int) < 3 := by omega
        obtain ⟨g, off, rfl, hcell⟩ : ∃ g off, a2 = some ⟨g, off, none⟩ ∧ wr.cell? ⟨g, off + k, none⟩ = some (.int .i64 ([x, y, z].getD k 0)) := by
          rcases i2.row with h0 | ⟨g', off', ha, _, hr⟩
          · omega
          · exact ⟨g', off', ha, hr k hlt⟩
        generalize hkv : [x, y, z].getD k 0 = kv at hcell
        go_wp2_with fail
        refine (BMay_c _ 3 c2 ⟨[x, y, z], j, xk⟩ k true _ i2).mono ?_
        rintro e w4 ⟨rfl, hb4⟩
        rw [may_ok HC.out hlt]
        replace p0 := keepc hb4 p0
        replace hcell := keepc hb4 hcell
        by_cases hkj : k = j
        · subst hkj
          have hnz : (kv == 0) = false := by have := HKEY.out; rw [hkv] at this; simpa using this
          rw [might_holder]
          clear hkv
          go_wp2
          exact ⟨⟨k + 1, by omega, by go_num, belowT hbr hb4⟩, by simp [intOf]; omega⟩
        · have hkj' : ((k : Int) == (j : Int)) = false := by simp; omega
          by_cases hz : kv = 0
          · rw [might_alone hkj (by rw [hkv]; exact hz)]
            subst hz
            clear hkv
            go_wp2
            exact ⟨⟨k + 1, by omega, by go_num, belowT hbr hb4⟩, by simp [intOf]; omega⟩
          · have hz' : (kv == 0) = false := by simpa using hz
            generalize mightB ⟨[x, y, z], j, xk⟩ k true = mb
            clear hkv hz
            go_wp2
            exact ⟨⟨k + 1, by omega, by go_num, belowT hbr hb4⟩, by simp [intOf]; omega⟩
      · obtain rfl : k = 3 := by omega
        clear hbr
        go_wp2_with fail
        refine (BReserve_c a2 3 c2 ⟨[x, y, z], j, xk⟩ j xk _ i2).mono ?_
        rintro e w5 ⟨⟨a5, n5, c5, rfl, i5, _⟩, hb5⟩
        rw [again_ok HC.out hj3 HKD.out HKEY.out] at i5 ⊢
        simp only [bookV] at i5 ⊢
        replace i2 := i2.below hb5 (Nat.le_refl _)
        replace bw := belowT bw hb5
        replace xC := xC.below hb5
        clear hb5 p0 p1 p2
        have p0 := past1 xC.c0
        have p1 := past1 xC.c1
        have p2 := past1 xC.c2
        go_wp2_with fail
        have xG := Box.made w5 a5 n5 c5 ⟨[x, y, z], j, xk⟩
        have hn := belowA (Below.refl w5.heap.size w5) (.cells #[.slice a5 n5 c5, .int .i64 j, .int .i64 xk] 24)
        replace i2 := i2.below hn (Nat.le_refl _)
        replace i5 := i5.below hn (Nat.le_refl _)
        replace xC := xC.below hn
        replace bw := belowT bw hn
        clear hn p0 p1 p2
        dsimp only at xG
        generalize w5.alloc (.cells #[.slice a5 n5 c5, .int .i64 j, .int .i64 xk] 24) = v5 at *
        generalize w5.heap.size = G at *
        refine (BRegister_c a2 3 c2 ⟨[x, y, z], j, xk⟩ j (1 + ky) _ i2).mono ?_
        rintro e w6 ⟨⟨a6, n6, c6, rfl, i6, _⟩, hb6⟩
        rw [reg_ok HC.out hj3 (by omega)] at i6 ⊢
        simp only [bookV] at i6 ⊢
        replace i2 := i2.below hb6 (Nat.le_refl _)
        replace i5 := i5.below hb6 (Nat.le_refl _)
        replace bw := belowT bw hb6
        replace xC := xC.below hb6
        replace xG := xG.below hb6
        clear hb6
        obtain rfl : n6 = 3 := by have := i6.len; simpa using this.symm
        obtain ⟨g6, o6, rfl, hcell⟩ : ∃ g off, a6 = some ⟨g, off, none⟩ ∧ w6.cell? ⟨g, off + j, none⟩ = some (.int .i64 (1 + ky)) := by
          rcases i6.row with h0 | ⟨g', off', ha, _, hr⟩
          · omega
          · refine ⟨g', off', ha, ?_⟩
            rw [hr j hj3]
            simp [List.getD, hj3]
        have p0 := past1 xC.c0
        have p1 := past1 xC.c1
        have p2 := past1 xC.c2
        have y0 := past1 xG.c0
        have y1 := past1 xG.c1
        have y2 := past1 xG.c2
        have hc1 := past1 hcell
        go_wp2_with fail
        refine (BSame_c a2 a5 3 n5 c2 c5 ⟨[x, y, z], j, xk⟩ ⟨[x, y, z], j, xk⟩ _ (i2.below (B := w6.heap.size) (by (repeat first | exact bel0 | assumption | refine bel1 ?_ | refine bel2 ?_ | refine bel3 ?_ | refine belowT ?_ (by assumption) | refine bel5 ?_ (by simp; try omega))) (Nat.le_refl _)) (i5.below (B := w6.heap.size) (by (repeat first | exact bel0 | assumption | refine bel1 ?_ | refine bel2 ?_ | refine bel3 ?_ | refine belowT ?_ (by assumption) | refine bel5 ?_ (by simp; try omega))) (Nat.le_refl _))).mono ?_
        rintro e ws ⟨rfl, hbs⟩
        rw [show sameB ⟨[x, y, z], j, xk⟩ ⟨[x, y, z], j, xk⟩ = true by simp [sameB]]
        have z0 := keepc hbs (p := ⟨w6.heap.size, 0, none⟩) (u := .slice (some ⟨g6, o6, none⟩) 3 c6) (by go_simp)
        have z1 := keepc hbs (p := ⟨w6.heap.size, 1, none⟩) (u := .int .i64 j) (by go_simp)
        have z2 := keepc hbs (p := ⟨w6.heap.size, 2, none⟩) (u := .int .i64 xk) (by go_simp)
        have z3 := keepc hbs (p := ⟨g6, o6 + j, none⟩) (u := .int .i64 (1 + ky)) (by go_simp)
        go_wp2
        go_ret
        exact ⟨rfl, by (repeat first | exact bel0 | assumption | refine bel1 ?_ | refine bel2 ?_ | refine bel3 ?_ | refine belowT ?_ (by assumption) | refine bel5 ?_ (by simp; try omega))⟩
  · have hx : ((reserveB b j xk).2 != 0) = true := by simpa using hz
    generalize reserveB b j xk = R at *
    simp only [bookV] at i2 ⊢
    clear hz
    go_wp2_with (go_at_call 15; refine (booked_c _).mono ?_; rintro e w9 ⟨rfl, hb9⟩)
    go_ret
    exact ⟨rfl, by (repeat first | exact bel0 | assumption | refine bel1 ?_ | refine bel2 ?_ | refine bel3 ?_ | refine belowT ?_ (by assumption) | refine bel5 ?_ (by simp; try omega))⟩

end Go.Proofs.Ytogpbihmofbfjaa
