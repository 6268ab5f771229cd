/- The contracts of book's Preempt and May; no condition but that the keys read as a list. -/
import Derived.Test.YtcmladgldjcdmaaDoorHU15
import Derived.Test.YtcmladgldjcdmaaDoorHU7
import Derived.Test.YtcmladgldjcdmaaDoorHU12
namespace Go.Proofs.YtcmladgldjcdmaaDoor
open Go.RowKit
set_option linter.unusedVariables false
set_option maxRecDepth 100000
set_option linter.unusedSimpArgs false

/-- What one round of Preempt makes of the keys and the holder. -/
def strikeAt (who key : Int) (k : Nat) (s : List Int × Int) : List Int × Int := if (k : Int) ≠ who ∧ s.1.getD k 0 = key then (s.1.set k 0, if s.2 = k then who else s.2) else s
def strikes (who key : Int) (l : List Int) (h : Int) : Nat → List Int × Int
  | 0 => (l, h)
  | k + 1 => strikeAt who key k (strikes who key l h k)

theorem strikes_three (x y z hh : Int) (who : Nat) (key : Int) (hw : who < 3) (hk : inB key 1 9 = true) (hh' : hh = -1 ∨ hh = 0 ∨ hh = 1 ∨ hh = 2) :
    strikes who key [x, y, z] hh 3 = (strike [x, y, z] who key, if hh ≠ -1 ∧ hh ≠ who ∧ keyOf ⟨[x, y, z], hh, 0⟩ hh = key then (who : Int) else hh) := by
  have h3 : who = 0 ∨ who = 1 ∨ who = 2 := by omega
  simp [inB] at hk
  have hk0 : ¬ (0 : Int) = key := by omega
  rcases h3 with rfl | rfl | rfl
  all_goals
    rcases hh' with rfl | rfl | rfl | rfl
    all_goals
      simp only [strikes, strikeAt, strike, keyOf, List.getD]
      by_cases hx : x = key <;> by_cases hy : y = key <;> by_cases hz : z = key <;> simp [hx, hy, hz, hk0]

set_option maxHeartbeats 4000000 in
theorem BPreempt_good (g off c : Nat) (b : PB) (who : Nat) (key : Int) (w : World) (h : Ints w (some ⟨g, off, none⟩) 3 c b.k) (hp : preB b who = 0) (hw : who < 3) (hk : inB key 1 9 = true) (kw : Int) (hkw : keyOf b who = kw) (hc : w.cell? ⟨g, off + who, none⟩ = some (.int .i64 kw)) :
    Calls Tryd.prog 82 #[bookV (some ⟨g, off, none⟩) 3 c b, .int .i64 who, .int .i64 key] w fun e w' => (∃ a' n' c', e = .returned (.tuple #[bookV a' n' c' (preemptB b who key).1, .int .i64 (preemptB b who key).2]) ∧ Ints w' a' n' c' (preemptB b who key).1.k ∧ ∀ x, a' = some x → w.heap.size ≤ x.block) ∧ Below w.heap.size w w' := by
  have HP := hide hp
  have HK := hide hk
  have HW := hide hkw
  have hw' : (who : Int) < 3 := by omega
  clear hp hk hkw
  unfold bookV
  go_enter Tryd.func82, Tryd.ntmps82
  go_wp2_with fail
  refine (checkHand_c _ _ _ b who _ (h.below (B := w.heap.size) (by (repeat first | exact bel0 | assumption | refine bel1 ?_ | refine bel2 ?_ | refine bel3 ?_ | refine belowT ?_ (by assumption) | refine bel5 ?_ (by simp; try omega))) (Nat.le_refl _))).mono ?_
  rintro e w1 ⟨rfl, hb1⟩
  obtain ⟨xP, xR, bw⟩ := boxes w (some ⟨g, off, none⟩) 3 c b
  replace xP := xP.below hb1
  replace xR := xR.below hb1
  replace bw := belowT bw hb1
  clear hb1
  obtain ⟨p0, p1, p2, _, _, _⟩ := id xP
  obtain ⟨r0, r1, r2, u0, u1, u2⟩ := id xR
  dsimp only at r1 r2
  replace hc := keepc bw hc
  rw [HP.out]
  go_wp2_with fail
  refine (bwithin_c _ _ _ _).mono ?_
  rintro e w1 ⟨rfl, rfl⟩
  rw [HK.out]
  cases h1 : kw == 0
  · have hkz : ¬ kw = 0 := by simpa using h1
    have HF := hide (show preemptB b who key = (⟨(strikes who key b.k b.h 3).1, (strikes who key b.k b.h 3).2, b.t⟩, 0) by
      obtain ⟨x, y, z, e, _, _, _, hs⟩ := checkB_ok (preB_ok HP.out).1
      obtain ⟨l, hh, tt⟩ := b
      dsimp only at e hs ⊢
      subst e
      rw [strikes_three x y z hh who key hw HK.out (by omega)]
      simp only [preemptB, HP.out, HK.out, HW.out]
      rw [if_neg (by simp), if_neg (by simp), if_neg hkz]
      rfl)
    clear hkz
    go_wp2_with fail
    refine (bwhole_c g off c b.k b.h b.t _ (h.below bw (Nat.le_refl _))).mono ?_
    rintro e w2 ⟨⟨q, rfl, hq, hT⟩, hb2⟩
    have hqR : w.heap.size + 1 < q := Nat.lt_of_lt_of_le xR.lt hq
    replace xR := xR.below hb2
    replace bw := belowT bw hb2
    unfold bookV
    have hqB := hT.lt
    clear hb2 p0 p1 p2 r0 r1 r2 u0 u1 u2
    have hT3 := hT
    have xR3 := xR
    have bw3 := bw
    go_wp2_with fail
    have hs3 : w2.heap.size = w2.heap.size := rfl
    have xN := Box.made (w2) (some ⟨q, 0, none⟩) 3 3 ⟨b.k, b.h, b.t⟩
    have hn := belowA (Below.refl (w2).heap.size (w2)) (.cells #[.slice (some ⟨q, 0, none⟩) 3 3, .int .i64 (b.h), .int .i64 (b.t)] 25)
    have hT4 := hT3.below hn
    have xR4 := xR3.below hn
    have bw4 := belowT bw3 hn
    dsimp only at xN
    rw [hs3] at xN
    clear hn hT3 xR3 bw3
    generalize (w2).alloc (.cells #[.slice (some ⟨q, 0, none⟩) 3 3, .int .i64 (b.h), .int .i64 (b.t)] 25) = v at *
    clear hs3
    generalize hN : w2.heap.size = N at *
    clear hN
    go_loopw [34] (fun i wr => ∃ k : Nat, k ≤ 3 ∧ i = .int .i64 k ∧ Box wr N (some ⟨q, 0, none⟩) 3 3 ⟨(strikes who key b.k b.h k).1, (strikes who key b.k b.h k).2, b.t⟩ ∧ Trio wr q (strikes who key b.k b.h k).1 ∧ Apart N q v wr) (fun i _ => 3 - (intOf i).toNat)
    case atStart => exact ⟨0, by omega, rfl, xN, hT4, Apart.refl _ _ _⟩
    case round =>
      obtain ⟨k, hk, rfl, xNk, hTk, hA⟩ := hrel
      rename_i wr
      obtain ⟨n0, n1, n2, _, _, _⟩ := id xNk
      by_cases hlt : k < 3
      · have hstep : strikes who key b.k b.h (k + 1) = strikeAt who key k (strikes who key b.k b.h k) := rfl
        have HS := hide hstep
        have kc := hTk.cell k hlt
        have hlt' : (k : Int) < 3 := by omega
        clear hstep HF
        dsimp only at n1 n2
        generalize strikes who key b.k b.h k = s at *
        obtain ⟨l5, h5⟩ := s
        dsimp only at *
        generalize hx : l5.getD k 0 = x at kc
        have HX := hide hx
        clear hx
        cases ha : ((k : Int) != (who : Int))
        · go_wp2
          have hs : strikes who key b.k b.h (k + 1) = (l5, h5) := by
            rw [HS.out]
            simp at ha
            simp [strikeAt, ha]
          exact ⟨⟨k + 1, by omega, by go_num, by rw [hs]; exact xNk, by rw [hs]; exact hTk, hA⟩, by simp [intOf]; omega⟩
        · cases hb : x == key
          · go_wp2
            have hs : strikes who key b.k b.h (k + 1) = (l5, h5) := by
              rw [HS.out]
              simp at ha hb
              simp only [strikeAt, HX.out]
              simp [ha, hb]
            exact ⟨⟨k + 1, by omega, by go_num, by rw [hs]; exact xNk, by rw [hs]; exact hTk, hA⟩, by simp [intOf]; omega⟩
          · go_wp2_with fail
            refine (expel_c N q k 3 ⟨l5, h5, b.t⟩ who _ xNk hTk hlt (by omega)).mono ?_
            rintro e w9 ⟨⟨vv, rfl⟩, xN9, hT9, hA9⟩
            dsimp only at xN9 hT9
            go_wp2
            have hs : strikes who key b.k b.h (k + 1) = (l5.set k 0, if h5 = k then (who : Int) else h5) := by
              rw [HS.out]
              simp at ha hb
              simp only [strikeAt, HX.out]
              simp [ha, hb]
            exact ⟨⟨k + 1, by omega, by go_num, by rw [hs]; exact xN9, by rw [hs]; exact hT9, hA.trans hA9⟩, by simp [intOf]; omega⟩
      · obtain rfl : k = 3 := by omega
        clear hT4 xN
        have xN2 := xNk
        have hT4 := hTk
        replace xR4 := xR4.apart hA (by omega) (by omega)
        replace bw4 := bw4.trans (hA.low w.heap.size (by omega) (by omega))
        clear n0 n1 n2
        generalize strikes who key b.k b.h 3 = s at *
        obtain ⟨l5, h5⟩ := s
        dsimp only at xN2 hT4 HF
        obtain ⟨n0, n1, n2, _, _, _⟩ := id xN2
        obtain ⟨r0, r1, r2, u0, u1, u2⟩ := id xR4
        dsimp only at r1 r2 n1 n2
        have i4 := hT4.ints
        have hne : ∀ x : Addr, some (⟨q, 0, none⟩ : Addr) = some x → x.block ≠ w.heap.size + 1 := fun x e => by cases e; simp; omega
        have hfr : ∀ x : Addr, some (⟨q, 0, none⟩ : Addr) = some x → w.heap.size ≤ x.block := fun x e => by cases e; simp; omega
        go_wp2
        have zB := (xR4).put (some ⟨q, 0, none⟩) (3) (3) ⟨l5, h5, b.t⟩
        have bw9 := (((bw4).setCell (p := ⟨w.heap.size + 1, 0, none⟩) (Nat.le_succ _) (.slice (some ⟨q, 0, none⟩) (3) (3))).setCell (p := ⟨w.heap.size + 1, 1, none⟩) (Nat.le_succ _) (.int .i64 (h5))).setCell (p := ⟨w.heap.size + 1, 2, none⟩) (Nat.le_succ _) (.int .i64 (b.t))
        have i9 := (((i4).setCell ⟨w.heap.size + 1, 0, none⟩ (.slice (some ⟨q, 0, none⟩) (3) (3)) hne).setCell ⟨w.heap.size + 1, 1, none⟩ (.int .i64 (h5)) hne).setCell ⟨w.heap.size + 1, 2, none⟩ (.int .i64 (b.t)) hne
        dsimp only at zB
        generalize (((wr).setCell ⟨w.heap.size + 1, 0, none⟩ (.slice (some ⟨q, 0, none⟩) (3) (3))).setCell ⟨w.heap.size + 1, 1, none⟩ (.int .i64 (h5))).setCell ⟨w.heap.size + 1, 2, none⟩ (.int .i64 (b.t)) = w9 at *
        obtain ⟨z0, z1, z2, _, _, _⟩ := zB
        dsimp only at z1 z2
        exact bodyPost_ret (v := .tuple #[.agg #[.slice (some ⟨q, 0, none⟩) (3) (3), .int .i64 (h5), .int .i64 (b.t)], .int .i64 (0)]) (by simp [results, Tryd.results82, go_sem, z0, z1, z2]) rfl ⟨⟨some ⟨q, 0, none⟩, 3, 3, by first | (rw [HF.out]; done) | (rw [HF.out]; rfl), by rw [HF.out]; exact i9, hfr⟩, bw9⟩
  · have HF := hide (show preemptB b who key = (zeroB, 8) by simp at h1; simp only [preemptB, HP.out, HK.out, HW.out]; rw [if_neg (by simp), if_neg (by simp), if_pos h1])
    have hne := none_ne (w.heap.size + 1)
    have hfr := none_le w.heap.size
    go_wp2
    have zB := (xR).put (none) (0) (0) ⟨[], 0, 0⟩
    have bw9 := (((bw).setCell (p := ⟨w.heap.size + 1, 0, none⟩) (Nat.le_succ _) (.slice (none) (0) (0))).setCell (p := ⟨w.heap.size + 1, 1, none⟩) (Nat.le_succ _) (.int .i64 (0))).setCell (p := ⟨w.heap.size + 1, 2, none⟩) (Nat.le_succ _) (.int .i64 (0))
    have i9 := (((Ints.nilSlice w1).setCell ⟨w.heap.size + 1, 0, none⟩ (.slice (none) (0) (0)) hne).setCell ⟨w.heap.size + 1, 1, none⟩ (.int .i64 (0)) hne).setCell ⟨w.heap.size + 1, 2, none⟩ (.int .i64 (0)) hne
    dsimp only at zB
    generalize (((w1).setCell ⟨w.heap.size + 1, 0, none⟩ (.slice (none) (0) (0))).setCell ⟨w.heap.size + 1, 1, none⟩ (.int .i64 (0))).setCell ⟨w.heap.size + 1, 2, none⟩ (.int .i64 (0)) = w9 at *
    obtain ⟨z0, z1, z2, _, _, _⟩ := zB
    dsimp only at z1 z2
    exact bodyPost_ret (v := .tuple #[.agg #[.slice (none) (0) (0), .int .i64 (0), .int .i64 (0)], .int .i64 (8)]) (by simp [results, Tryd.results82, go_sem, z0, z1, z2]) rfl ⟨⟨none, 0, 0, by first | (rw [HF.out]; done) | (rw [HF.out]; rfl), by rw [HF.out]; exact i9, hfr⟩, bw9⟩

set_option maxHeartbeats 4000000 in
theorem BMay_good (g off c : Nat) (b : PB) (who : Nat) (wr : Bool) (w : World) (h : Ints w (some ⟨g, off, none⟩) 3 c b.k) (hp : preB b who = 0) (hw : who < 3) (kw : Int) (hkw : keyOf b who = kw) (hc : w.cell? ⟨g, off + who, none⟩ = some (.int .i64 kw)) :
    Calls Tryd.prog 71 #[bookV (some ⟨g, off, none⟩) 3 c b, .int .i64 who, .bool wr] w fun e w' => e = .returned (.tuple #[.bool (mightB b who wr), .int .i64 0]) ∧ Below w.heap.size w w' := by
  have HP := hide hp
  have hw' : (who : Int) < 3 := by omega
  have hq : mightB b who wr = decide (b.h = -1 ∨ b.h = who ∨ (wr = false ∧ (b.t = 1 ∨ b.t = 3)) ∨ ((b.t = 3 ∨ b.t = 4) ∧ kw ≠ 0)) := by rw [← hkw]; rfl
  have HQ := hide hq
  clear hp hkw hq
  unfold bookV
  go_enter Tryd.func71, Tryd.ntmps71
  go_wp2_with fail
  refine (checkHand_c _ _ _ b who _ (h.below (B := w.heap.size) (by (repeat first | exact bel0 | assumption | refine bel1 ?_ | refine bel2 ?_ | refine bel3 ?_ | refine belowT ?_ (by assumption) | refine bel5 ?_ (by simp; try omega))) (Nat.le_refl _))).mono ?_
  rintro e w1 ⟨rfl, hb1⟩
  have xP := (Box.made w (some ⟨g, off, none⟩) 3 c b).below hb1
  have bw : Below w.heap.size w w1 := by (repeat first | exact bel0 | assumption | refine bel1 ?_ | refine bel2 ?_ | refine bel3 ?_ | refine belowT ?_ (by assumption) | refine bel5 ?_ (by simp; try omega))
  obtain ⟨p0, p1, p2, _, _, _⟩ := id xP
  replace hc := keepc bw hc
  rw [HP.out]
  cases h1 : b.h == -1
  · cases h2 : b.h == (who : Int)
    · cases h3 : b.t == 1
      all_goals
        cases h4 : b.t == 3
        all_goals
          cases h5 : b.t == 4
          all_goals
            cases h6 : kw != 0
            all_goals
              cases wr
              all_goals
                go_wp2
                go_ret2
                exact ⟨by rw [HQ.out]; simp at h1 h2 h3 h4 h5 h6; first | (simp [h1, h2, h3, h4, h5, h6]; done) | omega, bw⟩
    · go_wp2
      go_ret2
      exact ⟨by rw [HQ.out]; simp at h2; simp [h2], bw⟩
  · go_wp2
    go_ret2
    exact ⟨by rw [HQ.out]; simp at h1; simp [h1], bw⟩

theorem BMay_bad (a : Option Addr) (n c : Nat) (b : PB) (who : Int) (wr : Bool) (w : World) (h : Ints w a n c b.k) (hp : preB b who ≠ 0) :
    Calls Tryd.prog 71 #[bookV a n c b, .int .i64 who, .bool wr] w fun e w' => e = .returned (.tuple #[.bool false, .int .i64 (preB b who)]) ∧ Below w.heap.size w w' := by
  have hx : (preB b who != 0) = true := by simpa using hp
  clear hp
  unfold bookV
  go_enter Tryd.func71, Tryd.ntmps71
  go_wp2_with fail
  refine (checkHand_c _ _ _ b who _ (h.below (B := w.heap.size) (by (repeat first | exact bel0 | assumption | refine bel1 ?_ | refine bel2 ?_ | refine bel3 ?_ | refine belowT ?_ (by assumption) | refine bel5 ?_ (by simp; try omega))) (Nat.le_refl _))).mono ?_
  rintro e w1 ⟨rfl, hb1⟩
  generalize hy : preB b who = x at *
  have HY := hide hy
  clear hy
  go_wp2
  go_ret2
  exact ⟨by first | rfl | (rw [HY.out]; rfl), by (repeat first | exact bel0 | assumption | refine bel1 ?_ | refine bel2 ?_ | refine bel3 ?_ | refine belowT ?_ (by assumption) | refine bel5 ?_ (by simp; try omega))⟩

end Go.Proofs.YtcmladgldjcdmaaDoor

/- The contracts of package book; no condition but that the keys read as a list. -/
namespace Go.Proofs.YtcmladgldjcdmaaDoor
open Go.RowKit
set_option linter.unusedVariables false
set_option maxRecDepth 100000
set_option linter.unusedSimpArgs false

/-- A hand that is there, as a number from 0 on. -/
theorem hand_nat {b : PB} {who : Int} (hp : preB b who = 0) : ∃ k : Nat, k < 3 ∧ who = k := by
  rcases (preB_ok hp).2 with rfl | rfl | rfl
  · exact ⟨0, by omega, rfl⟩
  · exact ⟨1, by omega, rfl⟩
  · exact ⟨2, by omega, rfl⟩

theorem BRegister_c (a : Option Addr) (n c : Nat) (b : PB) (who key : Int) (w : World) (h : Ints w a n c b.k) :
    Calls Tryd.prog 79 #[bookV a n c b, .int .i64 who, .int .i64 key] w fun e w' => (∃ a' n' c', e = .returned (.tuple #[bookV a' n' c' (registerB b who key).1, .int .i64 (registerB b who key).2]) ∧ Ints w' a' n' c' (registerB b who key).1.k ∧ ∀ x, a' = some x → w.heap.size ≤ x.block) ∧ Below w.heap.size w w' := by
  by_cases hp : preB b who = 0
  · cases hk : inB key 0 9
    · exact BRegister_rng a n c b who key w h hp hk
    · obtain ⟨rfl, g, off, rfl, hc⟩ := key_cell h hp
      obtain ⟨k, hk3, rfl⟩ := hand_nat hp
      exact BRegister_good g off c b k key w h hp hk3 hk
  · exact BRegister_bad a n c b who key w h hp

theorem BReserve_c (a : Option Addr) (n c : Nat) (b : PB) (who key : Int) (w : World) (h : Ints w a n c b.k) :
    Calls Tryd.prog 80 #[bookV a n c b, .int .i64 who, .int .i64 key] w fun e w' => (∃ a' n' c', e = .returned (.tuple #[bookV a' n' c' (reserveB b who key).1, .int .i64 (reserveB b who key).2]) ∧ Ints w' a' n' c' (reserveB b who key).1.k ∧ ∀ x, a' = some x → w.heap.size ≤ x.block) ∧ Below w.heap.size w w' := by
  by_cases hp : preB b who = 0
  · cases hk : inB key 1 4
    · exact BReserve_rng a n c b who key w h hp hk
    · obtain ⟨rfl, g, off, rfl, hc⟩ := key_cell h hp
      obtain ⟨k, hk3, rfl⟩ := hand_nat hp
      exact BReserve_good g off c b k key w h hp hk3 hk _ rfl (by simpa using hc)
  · exact BReserve_bad a n c b who key w h hp

theorem BPreempt_c (a : Option Addr) (n c : Nat) (b : PB) (who key : Int) (w : World) (h : Ints w a n c b.k) :
    Calls Tryd.prog 82 #[bookV a n c b, .int .i64 who, .int .i64 key] w fun e w' => (∃ a' n' c', e = .returned (.tuple #[bookV a' n' c' (preemptB b who key).1, .int .i64 (preemptB b who key).2]) ∧ Ints w' a' n' c' (preemptB b who key).1.k ∧ ∀ x, a' = some x → w.heap.size ≤ x.block) ∧ Below w.heap.size w w' := by
  by_cases hp : preB b who = 0
  · cases hk : inB key 1 9
    · exact BPreempt_rng a n c b who key w h hp hk
    · obtain ⟨rfl, g, off, rfl, hc⟩ := key_cell h hp
      obtain ⟨k, hk3, rfl⟩ := hand_nat hp
      exact BPreempt_good g off c b k key w h hp hk3 hk _ rfl (by simpa using hc)
  · exact BPreempt_bad a n c b who key w h hp

theorem regE_pre {b : PB} {who : Int} (h : regE b who = 0) : preB b who = 0 := by
  unfold regE at h
  split at h
  · exact h
  · rename_i h1
    exact Decidable.not_not.1 h1

theorem BRelease_c (a : Option Addr) (n c : Nat) (b : PB) (who : Int) (w : World) (h : Ints w a n c b.k) :
    Calls Tryd.prog 81 #[bookV a n c b, .int .i64 who] w fun e w' => (∃ a' n' c', e = .returned (.tuple #[bookV a' n' c' (releaseB b who).1, .int .i64 (releaseB b who).2]) ∧ Ints w' a' n' c' (releaseB b who).1.k ∧ ∀ x, a' = some x → w.heap.size ≤ x.block) ∧ Below w.heap.size w w' := by
  by_cases hp : regE b who = 0
  · obtain ⟨rfl, g, off, rfl, hc⟩ := key_cell h (regE_pre hp)
    exact BRelease_good g off c b who w h hp
  · exact BRelease_bad a n c b who w h hp

theorem BClear_c (a : Option Addr) (n c : Nat) (b : PB) (who : Int) (w : World) (h : Ints w a n c b.k) :
    Calls Tryd.prog 83 #[bookV a n c b, .int .i64 who] w fun e w' => (∃ a' n' c', e = .returned (.tuple #[bookV a' n' c' (clearB b who).1, .int .i64 (clearB b who).2]) ∧ Ints w' a' n' c' (clearB b who).1.k ∧ ∀ x, a' = some x → w.heap.size ≤ x.block) ∧ Below w.heap.size w w' := by
  by_cases hp : regE b who = 0
  · obtain ⟨rfl, g, off, rfl, hc⟩ := key_cell h (regE_pre hp)
    exact BClear_good g off c b who w h hp
  · exact BClear_bad a n c b who w h hp

theorem BMay_c (a : Option Addr) (n c : Nat) (b : PB) (who : Int) (wr : Bool) (w : World) (h : Ints w a n c b.k) :
    Calls Tryd.prog 71 #[bookV a n c b, .int .i64 who, .bool wr] w fun e w' => e = .returned (.tuple #[.bool (mayB b who wr).1, .int .i64 (mayB b who wr).2]) ∧ Below w.heap.size w w' := by
  by_cases hp : preB b who = 0
  · obtain ⟨rfl, g, off, rfl, hc⟩ := key_cell h hp
    obtain ⟨k, hk3, rfl⟩ := hand_nat hp
    have hm : mayB b k wr = (mightB b k wr, 0) := by simp [mayB, hp]
    rw [hm]
    exact BMay_good g off c b k wr w h hp hk3 _ rfl (by simpa using hc)
  · have hm : mayB b who wr = (false, preB b who) := by simp [mayB, hp]
    rw [hm]
    exact BMay_bad a n c b who wr w h hp

end Go.Proofs.YtcmladgldjcdmaaDoor

/- The contracts of desk's small functions: within, hasZone, Check, Same, CheckAnswer, New; no condition but that the arguments read as data. -/
namespace Go.Proofs.YtcmladgldjcdmaaDoor
open Go.RowKit
set_option linter.unusedVariables false
set_option maxRecDepth 100000
set_option linter.unusedSimpArgs false

theorem dwithin_c (n a b : Int) (w : World) : Calls Tryd.prog 53 #[.int .i64 n, .int .i64 a, .int .i64 b] w fun e w' => e = .returned (.bool (inB n a b)) ∧ w' = w := by
  go_enter Tryd.func53, Tryd.ntmps53
  go_wp2
  all_goals (go_ret; exact ⟨ret_bool (by unfold inB; rw [Bool.eq_iff_iff]; simp; try omega), rfl⟩)

theorem hasZone_c (a : Option Addr) (n c : Nat) (k : Int) (w : World) (hm : n ≤ 9223372036854775807) :
    Calls Tryd.prog 72 #[.slice a n c, .int .i64 k] w fun e w' => e = .returned (.bool (inB k 0 ((n : Int) - 1))) ∧ w' = w := by
  go_enter Tryd.func72, Tryd.ntmps72
  go_wp2_with (go_at_call 53; refine (dwithin_c _ _ _ _).mono ?_; rintro e w' ⟨rfl, rfl⟩)
  go_ret
  exact ⟨rfl, rfl⟩

theorem DCheck_c (d : DV) (w : World) (h : d.ok w) : Calls Tryd.prog 23 #[d.v] w fun e w' => e = .returned (.int .i64 (checkD d.p)) ∧ Below w.heap.size w w' := by
  obtain ⟨za, zn, zc, Z, ka, kn, kc, b⟩ := d
  obtain ⟨hz, hk⟩ := h
  dsimp only [DV.v, DV.p] at *
  have HC : Hid (checkD ⟨Z.map ZV.p, b⟩ = if checkZs (Z.map ZV.p) ≠ 0 then checkZs (Z.map ZV.p) else checkB b) := hide rfl
  go_enter Tryd.func23, Tryd.ntmps23
  go_wp2_with fail
  refine (YCheck_c za zn zc Z _ (hz.below (B := w.heap.size) (by (repeat first | exact bel0 | assumption | refine bel1 ?_ | refine bel2 ?_ | refine bel3 ?_ | refine belowT ?_ (by assumption) | refine bel5 ?_ (by simp; try omega))) (Nat.le_refl _))).mono ?_
  rintro e w1 ⟨rfl, hb1⟩
  have c1 := keepc hb1 (p := ⟨w.heap.size, 1, none⟩) (u := .slice ka kn kc) (by go_simp)
  have c2 := keepc hb1 (p := ⟨w.heap.size, 2, none⟩) (u := .int .i64 b.h) (by go_simp)
  have c3 := keepc hb1 (p := ⟨w.heap.size, 3, none⟩) (u := .int .i64 b.t) (by go_simp)
  have bw : Below w.heap.size w w1 := by (repeat first | exact bel0 | assumption | refine bel1 ?_ | refine bel2 ?_ | refine bel3 ?_ | refine belowT ?_ (by assumption) | refine bel5 ?_ (by simp; try omega))
  clear hb1
  generalize hx : checkZs (Z.map ZV.p) = x at *
  clear hx
  cases h0 : x != 0
  · go_wp2_with fail
    refine (BCheck_c ka kn kc b _ (hk.below bw (Nat.le_refl _))).mono ?_
    rintro e w2 ⟨rfl, hb2⟩
    go_wp2
    go_ret
    exact ⟨ret_int (by rw [HC.out]; simp at h0; simp [h0]), by (repeat first | exact bel0 | assumption | refine bel1 ?_ | refine bel2 ?_ | refine bel3 ?_ | refine belowT ?_ (by assumption) | refine bel5 ?_ (by simp; try omega))⟩
  · go_wp2
    go_ret
    exact ⟨ret_int (by rw [HC.out]; simp at h0; simp [h0]), bw⟩

theorem DSame_c (d f : DV) (w : World) (h : d.ok w) (k : f.ok w) : Calls Tryd.prog 18 #[d.v, f.v] w fun e w' => e = .returned (.bool (sameD d.p f.p)) ∧ Below w.heap.size w w' := by
  obtain ⟨za, zn, zc, Z, ka, kn, kc, b⟩ := d
  obtain ⟨ya, yn, yc, Y, la, ln, lc, f⟩ := f
  obtain ⟨hz, hk⟩ := h
  obtain ⟨hy, hl⟩ := k
  dsimp only [DV.v, DV.p] at *
  have HS : Hid (sameD ⟨Z.map ZV.p, b⟩ ⟨Y.map ZV.p, f⟩ = (decide (Z.map ZV.p = Y.map ZV.p) && sameB b f)) := hide rfl
  go_enter Tryd.func18, Tryd.ntmps18
  go_wp2_with fail
  refine (YSame_c za ya zn yn zc yc Z Y _ (hz.below (B := w.heap.size) (by (repeat first | exact bel0 | assumption | refine bel1 ?_ | refine bel2 ?_ | refine bel3 ?_ | refine belowT ?_ (by assumption) | refine bel5 ?_ (by simp; try omega))) (Nat.le_refl _)) (hy.below (B := w.heap.size) (by (repeat first | exact bel0 | assumption | refine bel1 ?_ | refine bel2 ?_ | refine bel3 ?_ | refine belowT ?_ (by assumption) | refine bel5 ?_ (by simp; try omega))) (Nat.le_refl _))).mono ?_
  rintro e w1 ⟨rfl, hb1⟩
  have c1 := keepc hb1 (p := ⟨w.heap.size, 1, none⟩) (u := .slice ka kn kc) (by go_simp)
  have c2 := keepc hb1 (p := ⟨w.heap.size, 2, none⟩) (u := .int .i64 b.h) (by go_simp)
  have c3 := keepc hb1 (p := ⟨w.heap.size, 3, none⟩) (u := .int .i64 b.t) (by go_simp)
  have d1 := keepc hb1 (p := ⟨w.heap.size + 1, 1, none⟩) (u := .slice la ln lc) (by go_simp)
  have d2 := keepc hb1 (p := ⟨w.heap.size + 1, 2, none⟩) (u := .int .i64 f.h) (by go_simp)
  have d3 := keepc hb1 (p := ⟨w.heap.size + 1, 3, none⟩) (u := .int .i64 f.t) (by go_simp)
  have bw : Below w.heap.size w w1 := by (repeat first | exact bel0 | assumption | refine bel1 ?_ | refine bel2 ?_ | refine bel3 ?_ | refine belowT ?_ (by assumption) | refine bel5 ?_ (by simp; try omega))
  clear hb1
  generalize decide (Z.map ZV.p = Y.map ZV.p) = x at *
  cases x
  · go_wp2
    go_ret
    exact ⟨ret_bool (by rw [HS.out]; rfl), bw⟩
  · go_wp2_with fail
    refine (BSame_c ka la kn ln kc lc b f _ (hk.below bw (Nat.le_refl _)) (hl.below bw (Nat.le_refl _))).mono ?_
    rintro e w2 ⟨rfl, hb2⟩
    go_wp2
    go_ret
    exact ⟨ret_bool (by rw [HS.out]; simp), by (repeat first | exact bel0 | assumption | refine bel1 ?_ | refine bel2 ?_ | refine bel3 ?_ | refine belowT ?_ (by assumption) | refine bel5 ?_ (by simp; try omega))⟩

theorem DNew_c (w : World) : Calls Tryd.prog 32 #[] w fun e w' => (∃ d : DV, e = .returned d.v ∧ d.ok w' ∧ d.new w.heap.size ∧ d.p = freshD) ∧ Below w.heap.size w w' := by
  go_enter Tryd.func32, Tryd.ntmps32
  have xR := Lay.made w [.slice none 0 0, .slice none 0 0, .int .i64 0, .int .i64 0] 27
  have bw : Below w.heap.size w (w.alloc (.cells [.slice none 0 0, .slice none 0 0, .int .i64 0, .int .i64 0].toArray 27)) := by (repeat first | exact bel0 | assumption | refine bel1 ?_ | refine bel2 ?_ | refine bel3 ?_ | refine belowT ?_ (by assumption) | refine bel5 ?_ (by simp; try omega))
  go_wp2_with fail
  refine (YNew_f _).mono ?_
  rintro e w1 ⟨⟨a1, c1, Z1, rfl, i1, n1, p1⟩, hb1⟩
  have P1 := hide p1
  replace xR := xR.below hb1
  replace bw := belowT bw hb1
  simp at n1
  have N1 := hide n1
  clear p1 n1 hb1
  go_wp2_with fail
  refine (BNew_c _).mono ?_
  rintro e w2 ⟨⟨a2, c2, rfl, i2, f2⟩, hb2⟩
  have hs1 := bw.size
  have hlt := xR.lt
  have F2 := hide f2
  replace xR := xR.below hb2
  replace bw := belowT bw hb2
  replace i1 := i1.below hb2 (Nat.le_refl _)
  clear f2 hb2
  simp only [bookV, freshB] at i2 ⊢
  have e0 := xR.cell 0 _ rfl
  have e1 := xR.cell 1 _ rfl
  have e2 := xR.cell 2 _ rfl
  have e3 := xR.cell 3 _ rfl
  have f0 := xR.ice 0
  have f1 := xR.ice 1
  have f2 := xR.ice 2
  have f3 := xR.ice 3
  go_wp2
  have hoff : ∀ R, R ≤ w.heap.size → (⟨a1, 4, c1, Z1, a2, 3, c2, freshB⟩ : DV).off R := fun R hR =>
    ⟨.inr fun x e => by have := N1.out.1 x e; omega, fun z hz => .inr fun x e => by have := N1.out.2 z hz x e; omega, .inr fun x e => by have := F2.out x e; omega⟩
  have hok : (⟨a1, 4, c1, Z1, a2, 3, c2, freshB⟩ : DV).ok w2 := ⟨i1, i2⟩
  have zB := (((xR.set 0 (.slice a1 4 c1)).set 1 (.slice a2 3 c2)).set 2 (.int .i64 (-1))).set 3 (.int .i64 0)
  have hbut := ((((But.refl w.heap.size w2).step 0 (.slice a1 4 c1)).step 1 (.slice a2 3 c2)).step 2 (.int .i64 (-1))).step 3 (.int .i64 0)
  have bw9 := bw.trans hbut.low
  have hok9 := hok.but hbut (hoff _ (Nat.le_refl _))
  generalize (((w2.setCell ⟨w.heap.size, 0, none⟩ (.slice a1 4 c1)).setCell ⟨w.heap.size, 1, none⟩ (.slice a2 3 c2)).setCell ⟨w.heap.size, 2, none⟩ (.int .i64 (-1))).setCell ⟨w.heap.size, 3, none⟩ (.int .i64 0) = w9 at *
  have z0 := zB.cell 0 _ rfl
  have z1 := zB.cell 1 _ rfl
  have z2 := zB.cell 2 _ rfl
  have z3 := zB.cell 3 _ rfl
  exact bodyPost_ret (v := .agg #[.slice a1 4 c1, .slice a2 3 c2, .int .i64 (-1), .int .i64 0]) (by simp [results, Tryd.results32, go_sem, z0, z1, z2, z3]) rfl
    ⟨⟨⟨a1, 4, c1, Z1, a2, 3, c2, freshB⟩, rfl, hok9, fun R hR => hoff R (Nat.le_of_lt hR), by simp [DV.p, P1.out, freshD]⟩, bw9⟩

end Go.Proofs.YtcmladgldjcdmaaDoor
