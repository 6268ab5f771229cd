/- The contracts of book's Register, Reserve, Release; no condition but that the keys read as a list. -/
import Derived.Test.YtcmladgldjcdmaaDoorHU14
namespace Go.Proofs.YtcmladgldjcdmaaDoor
open Go.RowKit
set_option linter.unusedVariables false
set_option maxRecDepth 100000
set_option linter.unusedSimpArgs false

set_option maxHeartbeats 4000000 in
theorem BRegister_good (g off c : Nat) (b : PB) (who : Nat) (key : Int) (w : World) (h : Ints w (some ⟨g, off, none⟩) 3 c b.k) (hp : preB b who = 0) (hw : who < 3) (hk : inB key 0 9 = true) :
    Calls Tryd.prog 79 #[bookV (some ⟨g, off, none⟩) 3 c b, .int .i64 who, .int .i64 key] w fun e w' => (∃ a' n' c', e = .returned (.tuple #[bookV a' n' c' (registerB b who key).1, .int .i64 (registerB b who key).2]) ∧ Ints w' a' n' c' (registerB b who key).1.k ∧ ∀ x, a' = some x → w.heap.size ≤ x.block) ∧ Below w.heap.size w w' := by
  have HF := hide (show registerB b who key = (if key = 0 then letB ⟨b.k.set who key, b.h, b.t⟩ who else ⟨b.k.set who key, b.h, b.t⟩, 0) by
    simp only [registerB, hp, hk, letB]
    by_cases h1 : key = 0 <;> by_cases h2 : b.h = who <;> simp [h1, h2])
  have HP := hide hp
  have HK := hide hk
  have hw' : (who : Int) < 3 := by omega
  have hkey : -9223372036854775808 ≤ key ∧ key ≤ 9223372036854775807 := by simp [inB] at hk; omega
  clear hp hk
  unfold bookV
  obtain ⟨who', hwho⟩ : ∃ x : Int, x = who := ⟨_, rfl⟩
  go_enter Tryd.func79, Tryd.ntmps79
  go_wp2_with fail
  refine (checkHand_c _ _ _ b who _ (h.below (B := w.heap.size) (by (repeat first | exact bel0 | assumption | refine bel1 ?_ | refine bel2 ?_ | refine bel3 ?_ | refine belowT ?_ (by assumption) | refine bel5 ?_ (by simp; try omega))) (Nat.le_refl _))).mono ?_
  rintro e w1 ⟨rfl, hb1⟩
  obtain ⟨xP, xR, bw⟩ := boxes w (some ⟨g, off, none⟩) 3 c b
  replace xP := xP.below hb1
  replace xR := xR.below hb1
  replace bw := belowT bw hb1
  clear hb1
  obtain ⟨p0, p1, p2, _, _, _⟩ := id xP
  obtain ⟨r0, r1, r2, u0, u1, u2⟩ := id xR
  dsimp only at r1 r2
  rw [HP.out]
  go_wp2_with fail
  refine (bwithin_c _ _ _ _).mono ?_
  rintro e w1 ⟨rfl, rfl⟩
  rw [HK.out]
  go_wp2_with fail
  refine (bwhole_c g off c b.k b.h b.t _ (h.below bw (Nat.le_refl _))).mono ?_
  rintro e w2 ⟨⟨q, rfl, hq, hT⟩, hb2⟩
  have hqR : w.heap.size + 1 < q := Nat.lt_of_lt_of_le xR.lt hq
  replace xR := xR.below hb2
  replace bw := belowT bw hb2
  unfold bookV
  have hqB := hT.lt
  clear hb2 p0 p1 p2 r0 r1 r2 u0 u1 u2
  have k0 := past1 (hT.cell who hw)
  have f0 := pastf1 (hT.cell who hw) (hT.ice who)
  go_upto_region 8 with fail
  have hT3 := hT.set who hw key hkey
  have xR3 := xR.far ⟨q, who, none⟩ (.int .i64 key) (by simp; omega)
  have bw3 := bw.setCell (p := ⟨q, who, none⟩) (by simp; omega) (.int .i64 key)
  have hs3 : (w2.setCell ⟨q, who, none⟩ (.int .i64 key)).heap.size = w2.heap.size := by simp [World.setCell]
  have xN := Box.made (w2.setCell ⟨q, who, none⟩ (.int .i64 key)) (some ⟨q, 0, none⟩) 3 3 ⟨b.k.set who key, b.h, b.t⟩
  have hn := belowA (Below.refl (w2.setCell ⟨q, who, none⟩ (.int .i64 key)).heap.size (w2.setCell ⟨q, who, none⟩ (.int .i64 key))) (.cells #[.slice (some ⟨q, 0, none⟩) 3 3, .int .i64 (b.h), .int .i64 (b.t)] 25)
  have hT4 := hT3.below hn
  have xR4 := xR3.below hn
  have bw4 := belowT bw3 hn
  dsimp only at xN
  rw [hs3] at xN
  clear hn hT3 xR3 bw3
  generalize (w2.setCell ⟨q, who, none⟩ (.int .i64 key)).alloc (.cells #[.slice (some ⟨q, 0, none⟩) 3 3, .int .i64 (b.h), .int .i64 (b.t)] 25) = v at *
  clear hs3
  by_cases hz : key = 0
  · have HZ := hide hz
    have hz' : (key == 0) = true := by simpa using hz
    clear hz
    go_wp2_with fail
    refine (letGo_c _ _ _ _ _ who _ xN).mono ?_
    rintro e v2 ⟨⟨v, rfl⟩, xN2, hA⟩
    replace xR4 := xR4.apart hA (by omega) (by omega)
    replace hT4 := hT4.apart hA (by omega) (by omega)
    replace bw4 := bw4.trans (hA.low w.heap.size (by omega) (by omega))
    rw [if_pos HZ.out] at HF
    have hkk : (letB ⟨b.k.set who key, b.h, b.t⟩ who).k = b.k.set who key := by unfold letB; split <;> rfl
    generalize letB ⟨b.k.set who key, b.h, b.t⟩ who = b5 at *
    rw [← hkk] at hT4
    obtain ⟨n0, n1, n2, _, _, _⟩ := id xN2
    obtain ⟨r0, r1, r2, u0, u1, u2⟩ := id xR4
    dsimp only at r1 r2 n1 n2
    have i4 := hT4.ints
    have hne : ∀ x : Addr, some (⟨q, 0, none⟩ : Addr) = some x → x.block ≠ w.heap.size + 1 := fun x e => by cases e; simp; omega
    have hfr : ∀ x : Addr, some (⟨q, 0, none⟩ : Addr) = some x → w.heap.size ≤ x.block := fun x e => by cases e; simp; omega
    go_wp2
    have zB := (xR4).put (some ⟨q, 0, none⟩) (3) (3) ⟨b5.k, b5.h, b5.t⟩
    have bw9 := (((bw4).setCell (p := ⟨w.heap.size + 1, 0, none⟩) (Nat.le_succ _) (.slice (some ⟨q, 0, none⟩) (3) (3))).setCell (p := ⟨w.heap.size + 1, 1, none⟩) (Nat.le_succ _) (.int .i64 (b5.h))).setCell (p := ⟨w.heap.size + 1, 2, none⟩) (Nat.le_succ _) (.int .i64 (b5.t))
    have i9 := (((i4).setCell ⟨w.heap.size + 1, 0, none⟩ (.slice (some ⟨q, 0, none⟩) (3) (3)) hne).setCell ⟨w.heap.size + 1, 1, none⟩ (.int .i64 (b5.h)) hne).setCell ⟨w.heap.size + 1, 2, none⟩ (.int .i64 (b5.t)) hne
    dsimp only at zB
    generalize (((v2).setCell ⟨w.heap.size + 1, 0, none⟩ (.slice (some ⟨q, 0, none⟩) (3) (3))).setCell ⟨w.heap.size + 1, 1, none⟩ (.int .i64 (b5.h))).setCell ⟨w.heap.size + 1, 2, none⟩ (.int .i64 (b5.t)) = w9 at *
    obtain ⟨z0, z1, z2, _, _, _⟩ := zB
    dsimp only at z1 z2
    exact bodyPost_ret (v := .tuple #[.agg #[.slice (some ⟨q, 0, none⟩) (3) (3), .int .i64 (b5.h), .int .i64 (b5.t)], .int .i64 (0)]) (by simp [results, Tryd.results79, go_sem, z0, z1, z2]) rfl ⟨⟨some ⟨q, 0, none⟩, 3, 3, by first | (rw [HF.out]; done) | (rw [HF.out]; rfl), by rw [HF.out]; exact i9, hfr⟩, bw9⟩
  · have HZ := hide hz
    have hz' : (key == 0) = false := by simpa using hz
    clear hz
    rw [if_neg HZ.out] at HF
    have xN2 := xN
    obtain ⟨n0, n1, n2, _, _, _⟩ := id xN2
    obtain ⟨r0, r1, r2, u0, u1, u2⟩ := id xR4
    dsimp only at r1 r2 n1 n2
    have i4 := hT4.ints
    have hne : ∀ x : Addr, some (⟨q, 0, none⟩ : Addr) = some x → x.block ≠ w.heap.size + 1 := fun x e => by cases e; simp; omega
    have hfr : ∀ x : Addr, some (⟨q, 0, none⟩ : Addr) = some x → w.heap.size ≤ x.block := fun x e => by cases e; simp; omega
    go_wp2
    have zB := (xR4).put (some ⟨q, 0, none⟩) (3) (3) ⟨b.k.set who key, b.h, b.t⟩
    have bw9 := (((bw4).setCell (p := ⟨w.heap.size + 1, 0, none⟩) (Nat.le_succ _) (.slice (some ⟨q, 0, none⟩) (3) (3))).setCell (p := ⟨w.heap.size + 1, 1, none⟩) (Nat.le_succ _) (.int .i64 (b.h))).setCell (p := ⟨w.heap.size + 1, 2, none⟩) (Nat.le_succ _) (.int .i64 (b.t))
    have i9 := (((i4).setCell ⟨w.heap.size + 1, 0, none⟩ (.slice (some ⟨q, 0, none⟩) (3) (3)) hne).setCell ⟨w.heap.size + 1, 1, none⟩ (.int .i64 (b.h)) hne).setCell ⟨w.heap.size + 1, 2, none⟩ (.int .i64 (b.t)) hne
    dsimp only at zB
    generalize (((v).setCell ⟨w.heap.size + 1, 0, none⟩ (.slice (some ⟨q, 0, none⟩) (3) (3))).setCell ⟨w.heap.size + 1, 1, none⟩ (.int .i64 (b.h))).setCell ⟨w.heap.size + 1, 2, none⟩ (.int .i64 (b.t)) = w9 at *
    obtain ⟨z0, z1, z2, _, _, _⟩ := zB
    dsimp only at z1 z2
    exact bodyPost_ret (v := .tuple #[.agg #[.slice (some ⟨q, 0, none⟩) (3) (3), .int .i64 (b.h), .int .i64 (b.t)], .int .i64 (0)]) (by simp [results, Tryd.results79, go_sem, z0, z1, z2]) rfl ⟨⟨some ⟨q, 0, none⟩, 3, 3, by first | (rw [HF.out]; done) | (rw [HF.out]; rfl), by rw [HF.out]; exact i9, hfr⟩, bw9⟩

set_option maxHeartbeats 4000000 in
theorem BReserve_good (g off c : Nat) (b : PB) (who : Nat) (key : Int) (w : World) (h : Ints w (some ⟨g, off, none⟩) 3 c b.k) (hp : preB b who = 0) (hw : who < 3) (hk : inB key 1 4 = true) (kw : Int) (hkw : keyOf b who = kw) (hc : w.cell? ⟨g, off + who, none⟩ = some (.int .i64 kw)) :
    Calls Tryd.prog 80 #[bookV (some ⟨g, off, none⟩) 3 c b, .int .i64 who, .int .i64 key] w fun e w' => (∃ a' n' c', e = .returned (.tuple #[bookV a' n' c' (reserveB b who key).1, .int .i64 (reserveB b who key).2]) ∧ Ints w' a' n' c' (reserveB b who key).1.k ∧ ∀ x, a' = some x → w.heap.size ≤ x.block) ∧ Below w.heap.size w w' := by
  have HP := hide hp
  have HK := hide hk
  have HW := hide hkw
  have hw' : (who : Int) < 3 := by omega
  clear hp hk hkw
  unfold bookV
  go_enter Tryd.func80, Tryd.ntmps80
  go_wp2_with fail
  refine (checkHand_c _ _ _ b who _ (h.below (B := w.heap.size) (by (repeat first | exact bel0 | assumption | refine bel1 ?_ | refine bel2 ?_ | refine bel3 ?_ | refine belowT ?_ (by assumption) | refine bel5 ?_ (by simp; try omega))) (Nat.le_refl _))).mono ?_
  rintro e w1 ⟨rfl, hb1⟩
  obtain ⟨xP, xR, bw⟩ := boxes w (some ⟨g, off, none⟩) 3 c b
  replace xP := xP.below hb1
  replace xR := xR.below hb1
  replace bw := belowT bw hb1
  clear hb1
  obtain ⟨p0, p1, p2, _, _, _⟩ := id xP
  obtain ⟨r0, r1, r2, u0, u1, u2⟩ := id xR
  dsimp only at r1 r2
  replace hc := keepc bw hc
  rw [HP.out]
  go_wp2_with fail
  refine (bwithin_c _ _ _ _).mono ?_
  rintro e w1 ⟨rfl, rfl⟩
  rw [HK.out]
  by_cases hbad : kw = 0 ∨ b.h ≠ -1 ∧ ¬ (b.h = who ∧ b.t = key)
  · have HF := hide (show reserveB b who key = (zeroB, 8) by simp only [reserveB, HP.out, HK.out, HW.out]; rw [if_neg (by simp), if_neg (by simp), if_pos hbad])
    have hne := none_ne (w.heap.size + 1)
    have hfr := none_le w.heap.size
    cases h1 : kw == 0
    · cases h2 : b.h != -1
      · simp_all
      · cases h3 : b.h == (who : Int)
        · clear hbad
          go_wp2
          have zB := (xR).put (none) (0) (0) ⟨[], 0, 0⟩
          have bw9 := (((bw).setCell (p := ⟨w.heap.size + 1, 0, none⟩) (Nat.le_succ _) (.slice (none) (0) (0))).setCell (p := ⟨w.heap.size + 1, 1, none⟩) (Nat.le_succ _) (.int .i64 (0))).setCell (p := ⟨w.heap.size + 1, 2, none⟩) (Nat.le_succ _) (.int .i64 (0))
          have i9 := (((Ints.nilSlice w1).setCell ⟨w.heap.size + 1, 0, none⟩ (.slice (none) (0) (0)) hne).setCell ⟨w.heap.size + 1, 1, none⟩ (.int .i64 (0)) hne).setCell ⟨w.heap.size + 1, 2, none⟩ (.int .i64 (0)) hne
          dsimp only at zB
          generalize (((w1).setCell ⟨w.heap.size + 1, 0, none⟩ (.slice (none) (0) (0))).setCell ⟨w.heap.size + 1, 1, none⟩ (.int .i64 (0))).setCell ⟨w.heap.size + 1, 2, none⟩ (.int .i64 (0)) = w9 at *
          obtain ⟨z0, z1, z2, _, _, _⟩ := zB
          dsimp only at z1 z2
          exact bodyPost_ret (v := .tuple #[.agg #[.slice (none) (0) (0), .int .i64 (0), .int .i64 (0)], .int .i64 (8)]) (by simp [results, Tryd.results80, go_sem, z0, z1, z2]) rfl ⟨⟨none, 0, 0, by first | (rw [HF.out]; done) | (rw [HF.out]; rfl), by rw [HF.out]; exact i9, hfr⟩, bw9⟩
        · cases h4 : b.t == key
          · clear hbad
            go_wp2
            have zB := (xR).put (none) (0) (0) ⟨[], 0, 0⟩
            have bw9 := (((bw).setCell (p := ⟨w.heap.size + 1, 0, none⟩) (Nat.le_succ _) (.slice (none) (0) (0))).setCell (p := ⟨w.heap.size + 1, 1, none⟩) (Nat.le_succ _) (.int .i64 (0))).setCell (p := ⟨w.heap.size + 1, 2, none⟩) (Nat.le_succ _) (.int .i64 (0))
            have i9 := (((Ints.nilSlice w1).setCell ⟨w.heap.size + 1, 0, none⟩ (.slice (none) (0) (0)) hne).setCell ⟨w.heap.size + 1, 1, none⟩ (.int .i64 (0)) hne).setCell ⟨w.heap.size + 1, 2, none⟩ (.int .i64 (0)) hne
            dsimp only at zB
            generalize (((w1).setCell ⟨w.heap.size + 1, 0, none⟩ (.slice (none) (0) (0))).setCell ⟨w.heap.size + 1, 1, none⟩ (.int .i64 (0))).setCell ⟨w.heap.size + 1, 2, none⟩ (.int .i64 (0)) = w9 at *
            obtain ⟨z0, z1, z2, _, _, _⟩ := zB
            dsimp only at z1 z2
            exact bodyPost_ret (v := .tuple #[.agg #[.slice (none) (0) (0), .int .i64 (0), .int .i64 (0)], .int .i64 (8)]) (by simp [results, Tryd.results80, go_sem, z0, z1, z2]) rfl ⟨⟨none, 0, 0, by first | (rw [HF.out]; done) | (rw [HF.out]; rfl), by rw [HF.out]; exact i9, hfr⟩, bw9⟩
          · simp_all
    · cases h3 : b.h == (who : Int)
      all_goals
        cases h4 : b.t == key
        all_goals
          clear hbad
          go_wp2
          have zB := (xR).put (none) (0) (0) ⟨[], 0, 0⟩
          have bw9 := (((bw).setCell (p := ⟨w.heap.size + 1, 0, none⟩) (Nat.le_succ _) (.slice (none) (0) (0))).setCell (p := ⟨w.heap.size + 1, 1, none⟩) (Nat.le_succ _) (.int .i64 (0))).setCell (p := ⟨w.heap.size + 1, 2, none⟩) (Nat.le_succ _) (.int .i64 (0))
          have i9 := (((Ints.nilSlice w1).setCell ⟨w.heap.size + 1, 0, none⟩ (.slice (none) (0) (0)) hne).setCell ⟨w.heap.size + 1, 1, none⟩ (.int .i64 (0)) hne).setCell ⟨w.heap.size + 1, 2, none⟩ (.int .i64 (0)) hne
          dsimp only at zB
          generalize (((w1).setCell ⟨w.heap.size + 1, 0, none⟩ (.slice (none) (0) (0))).setCell ⟨w.heap.size + 1, 1, none⟩ (.int .i64 (0))).setCell ⟨w.heap.size + 1, 2, none⟩ (.int .i64 (0)) = w9 at *
          obtain ⟨z0, z1, z2, _, _, _⟩ := zB
          dsimp only at z1 z2
          exact bodyPost_ret (v := .tuple #[.agg #[.slice (none) (0) (0), .int .i64 (0), .int .i64 (0)], .int .i64 (8)]) (by simp [results, Tryd.results80, go_sem, z0, z1, z2]) rfl ⟨⟨none, 0, 0, by first | (rw [HF.out]; done) | (rw [HF.out]; rfl), by rw [HF.out]; exact i9, hfr⟩, bw9⟩
  · have HF := hide (show reserveB b who key = (⟨b.k, who, key⟩, 0) by simp only [reserveB, HP.out, HK.out, HW.out]; rw [if_neg (by simp), if_neg (by simp), if_neg hbad])
    have h1 : (kw == 0) = false := by simp; exact fun e => hbad (.inl e)
    cases h2 : b.h != -1
    · clear hbad
      cases h3 : b.h == (who : Int)
      all_goals
        go_wp2_with fail
        refine (bwhole_c g off c b.k b.h b.t _ (h.below bw (Nat.le_refl _))).mono ?_
        rintro e w2 ⟨⟨q, rfl, hq, hT⟩, hb2⟩
        have hqR : w.heap.size + 1 < q := Nat.lt_of_lt_of_le xR.lt hq
        replace xR := xR.below hb2
        replace bw := belowT bw hb2
        unfold bookV
        have hqB := hT.lt
        clear hb2 p0 p1 p2 r0 r1 r2 u0 u1 u2
        have r0 := past1 xR.c0
        have r1 := past1 xR.c1
        have r2 := past1 xR.c2
        have u0 := pastf1 xR.c0 xR.f0
        have u1 := pastf1 xR.c1 xR.f1
        have u2 := pastf1 xR.c2 xR.f2
        dsimp only at r1 r2 u1 u2
        have hn := belowA (Below.refl w2.heap.size w2) (.cells #[.slice (some ⟨q, 0, none⟩) 3 3, .int .i64 (who), .int .i64 (key)] 25)
        have xR4 := xR.below hn
        have i4 := (hT.below hn).ints
        have bw4 := belowT bw hn
        have hne : ∀ x : Addr, some (⟨q, 0, none⟩ : Addr) = some x → x.block ≠ w.heap.size + 1 := fun x e => by cases e; simp; omega
        have hfr : ∀ x : Addr, some (⟨q, 0, none⟩ : Addr) = some x → w.heap.size ≤ x.block := fun x e => by cases e; simp; omega
        go_wp2
        have zB := (xR4).put (some ⟨q, 0, none⟩) (3) (3) ⟨b.k, who, key⟩
        have bw9 := (((bw4).setCell (p := ⟨w.heap.size + 1, 0, none⟩) (Nat.le_succ _) (.slice (some ⟨q, 0, none⟩) (3) (3))).setCell (p := ⟨w.heap.size + 1, 1, none⟩) (Nat.le_succ _) (.int .i64 (who))).setCell (p := ⟨w.heap.size + 1, 2, none⟩) (Nat.le_succ _) (.int .i64 (key))
        have i9 := (((i4).setCell ⟨w.heap.size + 1, 0, none⟩ (.slice (some ⟨q, 0, none⟩) (3) (3)) hne).setCell ⟨w.heap.size + 1, 1, none⟩ (.int .i64 (who)) hne).setCell ⟨w.heap.size + 1, 2, none⟩ (.int .i64 (key)) hne
        dsimp only at zB
        generalize (((w2.alloc (.cells #[.slice (some ⟨q, 0, none⟩) 3 3, .int .i64 (who), .int .i64 (key)] 25)).setCell ⟨w.heap.size + 1, 0, none⟩ (.slice (some ⟨q, 0, none⟩) (3) (3))).setCell ⟨w.heap.size + 1, 1, none⟩ (.int .i64 (who))).setCell ⟨w.heap.size + 1, 2, none⟩ (.int .i64 (key)) = w9 at *
        obtain ⟨z0, z1, z2, _, _, _⟩ := zB
        dsimp only at z1 z2
        exact bodyPost_ret (v := .tuple #[.agg #[.slice (some ⟨q, 0, none⟩) (3) (3), .int .i64 (who), .int .i64 (key)], .int .i64 (0)]) (by simp [results, Tryd.results80, go_sem, z0, z1, z2]) rfl ⟨⟨some ⟨q, 0, none⟩, 3, 3, by first | (rw [HF.out]; done) | (rw [HF.out]; rfl), by rw [HF.out]; exact i9, hfr⟩, bw9⟩
    · have h3 : (b.h == (who : Int)) = true := by simp at h2 ⊢; exact Decidable.byContradiction fun e => hbad (.inr ⟨h2, fun k => e k.1⟩)
      have h4 : (b.t == key) = true := by simp at h2 ⊢; exact Decidable.byContradiction fun e => hbad (.inr ⟨h2, fun k => e k.2⟩)
      clear hbad
      go_wp2_with fail
      refine (bwhole_c g off c b.k b.h b.t _ (h.below bw (Nat.le_refl _))).mono ?_
      rintro e w2 ⟨⟨q, rfl, hq, hT⟩, hb2⟩
      have hqR : w.heap.size + 1 < q := Nat.lt_of_lt_of_le xR.lt hq
      replace xR := xR.below hb2
      replace bw := belowT bw hb2
      unfold bookV
      have hqB := hT.lt
      clear hb2 p0 p1 p2 r0 r1 r2 u0 u1 u2
      have r0 := past1 xR.c0
      have r1 := past1 xR.c1
      have r2 := past1 xR.c2
      have u0 := pastf1 xR.c0 xR.f0
      have u1 := pastf1 xR.c1 xR.f1
      have u2 := pastf1 xR.c2 xR.f2
      dsimp only at r1 r2 u1 u2
      have hn := belowA (Below.refl w2.heap.size w2) (.cells #[.slice (some ⟨q, 0, none⟩) 3 3, .int .i64 (who), .int .i64 (key)] 25)
      have xR4 := xR.below hn
      have i4 := (hT.below hn).ints
      have bw4 := belowT bw hn
      have hne : ∀ x : Addr, some (⟨q, 0, none⟩ : Addr) = some x → x.block ≠ w.heap.size + 1 := fun x e => by cases e; simp; omega
      have hfr : ∀ x : Addr, some (⟨q, 0, none⟩ : Addr) = some x → w.heap.size ≤ x.block := fun x e => by cases e; simp; omega
      go_wp2
      have zB := (xR4).put (some ⟨q, 0, none⟩) (3) (3) ⟨b.k, who, key⟩
      have bw9 := (((bw4).setCell (p := ⟨w.heap.size + 1, 0, none⟩) (Nat.le_succ _) (.slice (some ⟨q, 0, none⟩) (3) (3))).setCell (p := ⟨w.heap.size + 1, 1, none⟩) (Nat.le_succ _) (.int .i64 (who))).setCell (p := ⟨w.heap.size + 1, 2, none⟩) (Nat.le_succ _) (.int .i64 (key))
      have i9 := (((i4).setCell ⟨w.heap.size + 1, 0, none⟩ (.slice (some ⟨q, 0, none⟩) (3) (3)) hne).setCell ⟨w.heap.size + 1, 1, none⟩ (.int .i64 (who)) hne).setCell ⟨w.heap.size + 1, 2, none⟩ (.int .i64 (key)) hne
      dsimp only at zB
      generalize (((w2.alloc (.cells #[.slice (some ⟨q, 0, none⟩) 3 3, .int .i64 (who), .int .i64 (key)] 25)).setCell ⟨w.heap.size + 1, 0, none⟩ (.slice (some ⟨q, 0, none⟩) (3) (3))).setCell ⟨w.heap.size + 1, 1, none⟩ (.int .i64 (who))).setCell ⟨w.heap.size + 1, 2, none⟩ (.int .i64 (key)) = w9 at *
      obtain ⟨z0, z1, z2, _, _, _⟩ := zB
      dsimp only at z1 z2
      exact bodyPost_ret (v := .tuple #[.agg #[.slice (some ⟨q, 0, none⟩) (3) (3), .int .i64 (who), .int .i64 (key)], .int .i64 (0)]) (by simp [results, Tryd.results80, go_sem, z0, z1, z2]) rfl ⟨⟨some ⟨q, 0, none⟩, 3, 3, by first | (rw [HF.out]; done) | (rw [HF.out]; rfl), by rw [HF.out]; exact i9, hfr⟩, bw9⟩

set_option maxHeartbeats 4000000 in
theorem BRelease_good (g off c : Nat) (b : PB) (who : Int) (w : World) (h : Ints w (some ⟨g, off, none⟩) 3 c b.k) (hp : regE b who = 0) :
    Calls Tryd.prog 81 #[bookV (some ⟨g, off, none⟩) 3 c b, .int .i64 who] w fun e w' => (∃ a' n' c', e = .returned (.tuple #[bookV a' n' c' (releaseB b who).1, .int .i64 (releaseB b who).2]) ∧ Ints w' a' n' c' (releaseB b who).1.k ∧ ∀ x, a' = some x → w.heap.size ≤ x.block) ∧ Below w.heap.size w w' := by
  have HF := hide (show releaseB b who = (letB b who, 0) by
    unfold regE at hp
    unfold releaseB letB
    by_cases h1 : preB b who = 0
    · by_cases h2 : keyOf b who = 0
      · simp [h1, h2] at hp
      · by_cases h3 : b.h = who <;> simp [h1, h2, h3]
    · simp [h1] at hp)
  have HP := hide hp
  clear hp
  unfold bookV
  go_enter Tryd.func81, Tryd.ntmps81
  go_wp2_with fail
  refine (checkRegistered_c _ _ _ b who _ (h.below (B := w.heap.size) (by (repeat first | exact bel0 | assumption | refine bel1 ?_ | refine bel2 ?_ | refine bel3 ?_ | refine belowT ?_ (by assumption) | refine bel5 ?_ (by simp; try omega))) (Nat.le_refl _))).mono ?_
  rintro e w1 ⟨rfl, hb1⟩
  obtain ⟨xP, xR, bw⟩ := boxes w (some ⟨g, off, none⟩) 3 c b
  replace xP := xP.below hb1
  replace xR := xR.below hb1
  replace bw := belowT bw hb1
  clear hb1
  obtain ⟨p0, p1, p2, _, _, _⟩ := id xP
  obtain ⟨r0, r1, r2, u0, u1, u2⟩ := id xR
  dsimp only at r1 r2
  rw [HP.out]
  go_wp2_with fail
  refine (bwhole_c g off c b.k b.h b.t _ (h.below bw (Nat.le_refl _))).mono ?_
  rintro e w2 ⟨⟨q, rfl, hq, hT⟩, hb2⟩
  have hqR : w.heap.size + 1 < q := Nat.lt_of_lt_of_le xR.lt hq
  replace xR := xR.below hb2
  replace bw := belowT bw hb2
  unfold bookV
  have hqB := hT.lt
  clear hb2 p0 p1 p2 r0 r1 r2 u0 u1 u2
  go_wp2_with fail
  have hT3 := hT
  have xR3 := xR
  have bw3 := bw
  have hs3 : w2.heap.size = w2.heap.size := rfl
  have xN := Box.made (w2) (some ⟨q, 0, none⟩) 3 3 ⟨b.k, b.h, b.t⟩
  have hn := belowA (Below.refl (w2).heap.size (w2)) (.cells #[.slice (some ⟨q, 0, none⟩) 3 3, .int .i64 (b.h), .int .i64 (b.t)] 25)
  have hT4 := hT3.below hn
  have xR4 := xR3.below hn
  have bw4 := belowT bw3 hn
  dsimp only at xN
  rw [hs3] at xN
  clear hn hT3 xR3 bw3
  generalize (w2).alloc (.cells #[.slice (some ⟨q, 0, none⟩) 3 3, .int .i64 (b.h), .int .i64 (b.t)] 25) = v at *
  clear hs3
  refine (letGo_c _ _ _ _ _ who _ xN).mono ?_
  rintro e v2 ⟨⟨v, rfl⟩, xN2, hA⟩
  replace xR4 := xR4.apart hA (by omega) (by omega)
  replace hT4 := hT4.apart hA (by omega) (by omega)
  replace bw4 := bw4.trans (hA.low w.heap.size (by omega) (by omega))
  have hkk : (letB b who).k = b.k := by unfold letB; split <;> rfl
  have hbb : letB ⟨b.k, b.h, b.t⟩ who = letB b who := rfl
  rw [hbb] at xN2
  generalize letB b who = b5 at *
  rw [← hkk] at hT4
  obtain ⟨n0, n1, n2, _, _, _⟩ := id xN2
  obtain ⟨r0, r1, r2, u0, u1, u2⟩ := id xR4
  dsimp only at r1 r2 n1 n2
  have i4 := hT4.ints
  have hne : ∀ x : Addr, some (⟨q, 0, none⟩ : Addr) = some x → x.block ≠ w.heap.size + 1 := fun x e => by cases e; simp; omega
  have hfr : ∀ x : Addr, some (⟨q, 0, none⟩ : Addr) = some x → w.heap.size ≤ x.block := fun x e => by cases e; simp; omega
  go_wp2
  have zB := (xR4).put (some ⟨q, 0, none⟩) (3) (3) ⟨b5.k, b5.h, b5.t⟩
  have bw9 := (((bw4).setCell (p := ⟨w.heap.size + 1, 0, none⟩) (Nat.le_succ _) (.slice (some ⟨q, 0, none⟩) (3) (3))).setCell (p := ⟨w.heap.size + 1, 1, none⟩) (Nat.le_succ _) (.int .i64 (b5.h))).setCell (p := ⟨w.heap.size + 1, 2, none⟩) (Nat.le_succ _) (.int .i64 (b5.t))
  have i9 := (((i4).setCell ⟨w.heap.size + 1, 0, none⟩ (.slice (some ⟨q, 0, none⟩) (3) (3)) hne).setCell ⟨w.heap.size + 1, 1, none⟩ (.int .i64 (b5.h)) hne).setCell ⟨w.heap.size + 1, 2, none⟩ (.int .i64 (b5.t)) hne
  dsimp only at zB
  generalize (((v2).setCell ⟨w.heap.size + 1, 0, none⟩ (.slice (some ⟨q, 0, none⟩) (3) (3))).setCell ⟨w.heap.size + 1, 1, none⟩ (.int .i64 (b5.h))).setCell ⟨w.heap.size + 1, 2, none⟩ (.int .i64 (b5.t)) = w9 at *
  obtain ⟨z0, z1, z2, _, _, _⟩ := zB
  dsimp only at z1 z2
  exact bodyPost_ret (v := .tuple #[.agg #[.slice (some ⟨q, 0, none⟩) (3) (3), .int .i64 (b5.h), .int .i64 (b5.t)], .int .i64 (0)]) (by simp [results, Tryd.results81, go_sem, z0, z1, z2]) rfl ⟨⟨some ⟨q, 0, none⟩, 3, 3, by first | (rw [HF.out]; done) | (rw [HF.out]; rfl), by rw [HF.out]; exact i9, hfr⟩, bw9⟩

set_option maxHeartbeats 4000000 in
theorem BClear_good (g off c : Nat) (b : PB) (who : Int) (w : World) (h : Ints w (some ⟨g, off, none⟩) 3 c b.k) (hp : regE b who = 0) :
    Calls Tryd.prog 83 #[bookV (some ⟨g, off, none⟩) 3 c b, .int .i64 who] w fun e w' => (∃ a' n' c', e = .returned (.tuple #[bookV a' n' c' (clearB b who).1, .int .i64 (clearB b who).2]) ∧ Ints w' a' n' c' (clearB b who).1.k ∧ ∀ x, a' = some x → w.heap.size ≤ x.block) ∧ Below w.heap.size w w' := by
  have HF := hide (show clearB b who = (freshB, 0) by
    unfold regE at hp
    unfold clearB
    by_cases h1 : preB b who = 0
    · by_cases h2 : keyOf b who = 0
      · simp [h1, h2] at hp
      · simp [h1, h2]
    · simp [h1] at hp)
  have HP := hide hp
  clear hp
  unfold bookV
  go_enter Tryd.func83, Tryd.ntmps83
  go_wp2_with fail
  refine (checkRegistered_c _ _ _ b who _ (h.below (B := w.heap.size) (by (repeat first | exact bel0 | assumption | refine bel1 ?_ | refine bel2 ?_ | refine bel3 ?_ | refine belowT ?_ (by assumption) | refine bel5 ?_ (by simp; try omega))) (Nat.le_refl _))).mono ?_
  rintro e w1 ⟨rfl, hb1⟩
  obtain ⟨xP, xR, bw⟩ := boxes w (some ⟨g, off, none⟩) 3 c b
  replace xP := xP.below hb1
  replace xR := xR.below hb1
  replace bw := belowT bw hb1
  clear hb1
  obtain ⟨p0, p1, p2, _, _, _⟩ := id xP
  obtain ⟨r0, r1, r2, u0, u1, u2⟩ := id xR
  dsimp only at r1 r2
  rw [HP.out]
  go_wp2_with fail
  refine (BNew_c _).mono ?_
  rintro e w2 ⟨⟨a2, c2, rfl, i2, hf2⟩, hb2⟩
  have hlt := xR.lt
  have hle := bw.size
  replace xR := xR.below hb2
  replace bw := belowT bw hb2
  unfold bookV freshB
  clear p0 p1 p2 r0 r1 r2 u0 u1 u2
  obtain ⟨r0, r1, r2, u0, u1, u2⟩ := id xR
  dsimp only at r1 r2
  have hne : ∀ x : Addr, a2 = some x → x.block ≠ w.heap.size + 1 := fun x e => by have := hf2 x e; omega
  have hfr : ∀ x : Addr, a2 = some x → w.heap.size ≤ x.block := fun x e => by have := hf2 x e; omega
  simp only [freshB] at i2
  go_wp2
  have zB := (xR).put (a2) (3) (c2) ⟨[0, 0, 0], -1, 0⟩
  have bw9 := (((bw).setCell (p := ⟨w.heap.size + 1, 0, none⟩) (Nat.le_succ _) (.slice (a2) (3) (c2))).setCell (p := ⟨w.heap.size + 1, 1, none⟩) (Nat.le_succ _) (.int .i64 (-1))).setCell (p := ⟨w.heap.size + 1, 2, none⟩) (Nat.le_succ _) (.int .i64 (0))
  have i9 := (((i2).setCell ⟨w.heap.size + 1, 0, none⟩ (.slice (a2) (3) (c2)) hne).setCell ⟨w.heap.size + 1, 1, none⟩ (.int .i64 (-1)) hne).setCell ⟨w.heap.size + 1, 2, none⟩ (.int .i64 (0)) hne
  dsimp only at zB
  generalize (((w2).setCell ⟨w.heap.size + 1, 0, none⟩ (.slice (a2) (3) (c2))).setCell ⟨w.heap.size + 1, 1, none⟩ (.int .i64 (-1))).setCell ⟨w.heap.size + 1, 2, none⟩ (.int .i64 (0)) = w9 at *
  obtain ⟨z0, z1, z2, _, _, _⟩ := zB
  dsimp only at z1 z2
  exact bodyPost_ret (v := .tuple #[.agg #[.slice (a2) (3) (c2), .int .i64 (-1), .int .i64 (0)], .int .i64 (0)]) (by simp [results, Tryd.results83, go_sem, z0, z1, z2]) rfl ⟨⟨a2, 3, c2, by first | (rw [HF.out]; done) | (rw [HF.out]; rfl), by rw [HF.out]; exact i9, hfr⟩, bw9⟩

end Go.Proofs.YtcmladgldjcdmaaDoor
