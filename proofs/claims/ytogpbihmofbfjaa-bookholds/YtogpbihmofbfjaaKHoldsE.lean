/- BookHolds answers true for every book and numbers, kind by kind, on; no condition. -/
import Derived.Test.YtogpbihmofbfjaaKHolds
namespace Go.Proofs.Ytogpbihmofbfjaa
open Go.RowKit
set_option linter.unusedVariables false
set_option maxRecDepth 100000
set_option linter.unusedSimpArgs false

set_option maxRecDepth 100000 in
set_option maxHeartbeats 16000000 in
theorem BookHolds_4 (a : Option Addr) (n c : Nat) (b : PB) (xw xn xk : Int) (w : World) (h : Ints w a n c b.k)
    (h1 : -9223372036854775808 ≤ xw ∧ xw ≤ 9223372036854775807) (h2 : -9223372036854775808 ≤ xk ∧ xk ≤ 9223372036854775807) (hkd : xk % 5 = 4) :
    Calls Try.prog 4 #[bookV a n c b, .int .i64 xw, .int .i64 xn, .int .i64 xk] w fun e w' => e = .returned (.bool true) ∧ Below w.heap.size w w' := by
  unfold bookV
  have HKD := hide hkd
  clear hkd
  go_enter Try.func4, Try.ntmps4
  go_wp2_with fail
  have xB := Box.made w a n c b
  have bw := belowA (Below.refl w.heap.size w) (.cells #[.slice a n c, .int .i64 b.h, .int .i64 b.t] 24)
  replace h := h.below bw (Nat.le_refl _)
  generalize w.alloc (.cells #[.slice a n c, .int .i64 b.h, .int .i64 b.t] 24) = v0 at *
  refine (booked_c _).mono ?_
  rintro e w1 ⟨rfl, hb⟩
  replace bw := belowT bw hb
  replace h := h.below hb (Nat.le_refl _)
  replace xB := xB.below hb
  clear hb
  obtain ⟨p0, p1, p2, -, -, -⟩ := id xB
  go_wp2_with fail
  refine (BCheck_c a n c b _ h).mono ?_
  rintro e w2 ⟨rfl, hb⟩
  replace bw := belowT bw hb
  replace h := h.below hb (Nat.le_refl _)
  replace xB := xB.below hb
  clear hb p0 p1 p2
  obtain ⟨p0, p1, p2, -, -, -⟩ := id xB
  by_cases hc : checkB b = 0
  · rw [hc]
    have HC := hide hc
    clear hc
    go_wp2_with fail
    refine (at_c xw 3 _ (by omega) (by omega) h1).mono ?_
    rintro e w2 ⟨rfl, rfl⟩
    have hj0 := Int.emod_nonneg xw (show (3 : Int) ≠ 0 by omega)
    have hj1 := Int.emod_lt_of_pos xw (show (0 : Int) < 3 by omega)
    generalize xw % 3 = j at *
    obtain ⟨j, rfl⟩ := Int.eq_ofNat_of_zero_le hj0
    have hj3 : j < 3 := by omega
    go_wp2_with fail
    refine (at_c xk 5 _ (by omega) (by omega) h2).mono ?_
    rintro e w2 ⟨rfl, rfl⟩
    rw [HKD.out]
    clear h1 h2 hj0
    have o0 := past1 p0
    have o1 := past1 p1
    have o2 := past1 p2
    go_wp2_with fail
    have xC := Box.made w2 a n c b
    have hn := belowA (Below.refl w2.heap.size w2) (.cells #[.slice a n c, .int .i64 b.h, .int .i64 b.t] 24)
    replace h := h.below hn (Nat.le_refl _)
    have lC := bw.size
    have hPC : w.heap.size < w2.heap.size := xB.lt
    replace xB := xB.below hn
    replace bw := belowT bw hn
    clear hn p0 p1 p2 o0 o1 o2
    generalize w2.alloc (.cells #[.slice a n c, .int .i64 b.h, .int .i64 b.t] 24) = v2 at *
    generalize w2.heap.size = C at *
    refine (BClear_c a n c b j _ h).mono ?_
    rintro e w3 ⟨⟨a3, n3, c3, rfl, i3, q3⟩, hb⟩
    have hCl := xC.lt
    replace bw := belowT bw hb
    replace xC := xC.below hb
    replace xB := xB.below hb
    clear hb h
    obtain ⟨p0, p1, p2, -, -, -⟩ := id xB
    obtain ⟨s0, s1, s2, t0, t1, t2⟩ := id xC
    have hne : ∀ x, a3 = some x → x.block ≠ C := fun x e => by have := q3 x e; omega
    generalize hR : clearB b j = R at *
    simp only [bookV] at i3 ⊢
    by_cases he : R.2 = 0
    · have hkept : checkB R.1 = 0 ∧ (4 < 3 → 0 ≤ b.h → b.h ≠ j → R.1.h = b.h ∧ R.1.t = b.t) := by
        subst hR
        exact keptC (by decide) (clr_kept HC.out hj3 he)
      have HKT := hide hkept
      obtain ⟨x, y, z, hh, tt, eR, hx, hy, hz, hs⟩ := right_three hkept.1
      obtain ⟨R1, R2⟩ := R
      dsimp only at eR he hkept HKT i3 ⊢
      subst eR he
      have HS := hide hs
      have HX := hide (And.intro hx (And.intro hy hz))
      clear hkept hR hx hy hz hs
      dsimp only at i3 ⊢
      obtain rfl : n3 = 3 := i3.len.symm
      go_wp2_with fail
      replace i3 := ((i3.setCell ⟨C, 0, none⟩ (.slice a3 3 c3) hne).setCell ⟨C, 1, none⟩ (.int .i64 hh) hne).setCell ⟨C, 2, none⟩ (.int .i64 tt) hne
      replace bw := ((bw.setCell (p := ⟨C, 0, none⟩) lC (.slice a3 3 c3)).setCell (p := ⟨C, 1, none⟩) lC (.int .i64 hh)).setCell (p := ⟨C, 2, none⟩) lC (.int .i64 tt)
      replace xC := xC.put a3 3 c3 ⟨[x, y, z], hh, tt⟩
      replace xB := xB.far3 (show w.heap.size ≠ C by omega) a3 3 c3 hh tt
      clear p0 p1 p2 s0 s1 s2 t0 t1 t2 hne q3 hCl
      dsimp only at xC
      generalize ((w3.setCell ⟨C, 0, none⟩ (.slice a3 3 c3)).setCell ⟨C, 1, none⟩ (.int .i64 hh)).setCell ⟨C, 2, none⟩ (.int .i64 tt) = v3 at *
      refine (BCheck_c a3 3 c3 ⟨[x, y, z], hh, tt⟩ _ i3).mono ?_
      rintro e w4 ⟨rfl, hb⟩
      rw [HKT.out.1]
      replace bw := belowT bw hb
      replace i3 := i3.below hb (Nat.le_refl _)
      replace xC := xC.below hb
      replace xB := xB.below hb
      clear hb
      obtain ⟨p0, p1, p2, -, -, -⟩ := id xB
      obtain ⟨s0, s1, s2, -, -, -⟩ := id xC
      dsimp only at s1 s2
      generalize hbh : b.h = bh at *
      generalize hbt : b.t = bt at *
      have hcond : bh < 0 ∧ (True ∧ True) ∨ (0 ≤ bh ∧ (bh != (j : Int)) = false) ∧ (True ∧ True) ∨ (0 ≤ bh ∧ (bh != (j : Int)) = true) ∧ (True ∧ True) := by
        by_cases h0 : bh < 0
        · exact .inl ⟨h0, trivial, trivial⟩
        · by_cases h1 : bh = j
          · exact .inr (.inl ⟨⟨by omega, by simpa using h1⟩, trivial, trivial⟩)
          · refine .inr (.inr ⟨⟨by omega, by simpa using h1⟩, ?_⟩)
            exact ⟨trivial, trivial⟩
      have HCC := hide HKT.out.1
      clear hbh hbt HKT
      rcases hcond with ⟨h0, e1, e2⟩ | ⟨⟨h0, h1⟩, e1, e2⟩ | ⟨⟨h0, h1⟩, e1, e2⟩
      all_goals
        go_wp2
        go_loopw [105] (fun i wr => ∃ k : Nat, k ≤ 3 ∧ i = .int .i64 k ∧ Below w4.heap.size w4 wr) (fun i _ => 3 - (intOf i).toNat)
        case atStart => exact ⟨0, by omega, rfl, Below.refl _ _⟩
        case round =>
          obtain ⟨k, hk, rfl, hbr⟩ := hrel
          rename_i wr
          replace i3 := i3.below hbr (Nat.le_refl _)
          replace bw := belowT bw hbr
          replace xC := xC.below hbr
          clear p0 p1 p2 s0 s1 s2 xB
          obtain ⟨s0, s1, s2, -, -, -⟩ := id xC
          dsimp only at s1 s2
          by_cases hlt : k < 3
          · have hlt' : (k : Int) < 3 := by omega
            go_wp2_with fail
            refine (BMay_c a3 3 c3 ⟨[x, y, z], hh, tt⟩ k true _ i3).mono ?_
            rintro e w5 ⟨rfl, hb5⟩
            rw [may_ok HCC.out hlt]
            replace s0 := keepc hb5 s0
            replace s1 := keepc hb5 s1
            replace s2 := keepc hb5 s2
            go_wp2_with fail
            refine (BMay_c a3 3 c3 ⟨[x, y, z], hh, tt⟩ k false _ (i3.below hb5 (Nat.le_refl _))).mono ?_
            rintro e w6 ⟨rfl, hb6⟩
            rw [may_ok HCC.out hlt]
            replace s0 := keepc hb6 s0
            replace s1 := keepc hb6 s1
            replace s2 := keepc hb6 s2
            cases hm : mightB ⟨[x, y, z], hh, tt⟩ k true
            · have hq : ((k : Int) == hh) = false ∧ ¬ hh < 0 := by
                refine ⟨?_, ?_⟩
                · have : ¬ (k : Int) = hh := fun e => by rw [might_who (.inl e)] at hm; cases hm
                  simpa using this
                · have h1 : ¬ hh = -1 := fun e => by rw [might_who (.inr e)] at hm; cases hm
                  have h2 := HS.out
                  omega
              obtain ⟨hq1, hq2⟩ := hq
              generalize mightB ⟨[x, y, z], hh, tt⟩ k false = mr
              clear hm
              go_wp2
              exact ⟨⟨k + 1, by omega, by go_num, belowT (belowT hbr hb5) hb6⟩, by simp [intOf]; omega⟩
            · rw [might_read hm]
              clear hm
              go_wp2
              all_goals exact ⟨⟨k + 1, by omega, by go_num, belowT (belowT hbr hb5) hb6⟩, by simp [intOf]; omega⟩
          · obtain rfl : k = 3 := by omega
            obtain ⟨g3, o3, rfl, k0, k1, k2⟩ := i3.three
            have hs := HS.out
            have hx := HX.out
            clear hbr
            rcases hs with ⟨rfl, _⟩ | ⟨_, ⟨rfl, hq⟩ | ⟨rfl, hq⟩ | ⟨rfl, hq⟩⟩
            · go_wp2
              go_ret
              exact ⟨rfl, bw⟩
            · have hpos : 0 < x := by omega
              go_wp2
              go_ret
              exact ⟨rfl, bw⟩
            · have hpos : 0 < y := by omega
              go_wp2
              go_ret
              exact ⟨rfl, bw⟩
            · have hpos : 0 < z := by omega
              go_wp2
              go_ret
              exact ⟨rfl, bw⟩
    · have hx : (R.2 != 0) = true := by simpa using he
      clear he hR
      go_wp2
      go_ret
      exact ⟨rfl, by (repeat first | exact bel0 | assumption | refine bel1 ?_ | refine bel2 ?_ | refine bel3 ?_ | refine belowT ?_ (by assumption) | refine bel5 ?_ (by simp; try omega))⟩
  · have hx : (checkB b != 0) = true := by simpa using hc
    generalize checkB b = ck at *
    clear hc
    go_wp2_with (go_at_call 15; refine (booked_c _).mono ?_; rintro e w9 ⟨rfl, hb9⟩)
    go_ret
    exact ⟨rfl, by (repeat first | exact bel0 | assumption | refine bel1 ?_ | refine bel2 ?_ | refine bel3 ?_ | refine belowT ?_ (by assumption) | refine bel5 ?_ (by simp; try omega))⟩


end Go.Proofs.Ytogpbihmofbfjaa
