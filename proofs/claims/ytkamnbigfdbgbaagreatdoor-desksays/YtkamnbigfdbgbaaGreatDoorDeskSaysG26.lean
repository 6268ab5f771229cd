/- The contract of the document's own OnBook, kind by kind, on; no condition but that the keys read as a list. -/
import Derived.Test.YtkamnbigfdbgbaaGreatDoorDeskSaysG25
namespace Go.Proofs.YtkamnbigfdbgbaaGreatDoor
open Go.RowKit
set_option linter.unusedVariables false
set_option maxRecDepth 100000
set_option linter.unusedSimpArgs false

set_option maxRecDepth 100000 in
set_option maxHeartbeats 4000000 in
theorem OnB_res (a : Option Addr) (c : Nat) (x y z hh tt : Int) (who : Nat) (key : Int) (w : World) (h : Ints w a 3 c [x, y, z]) (hok : checkB ⟨[x, y, z], hh, tt⟩ = 0) (hw : who < 3) :
    Calls Tryz.prog 37 #[bookV a 3 c ⟨[x, y, z], hh, tt⟩, .int .i64 9, .int .i64 who, .int .i64 key] w fun e w' =>
      (∃ a' n' c', e = .returned (.tuple #[bookV a' n' c' (reserveB ⟨[x, y, z], hh, tt⟩ who key).1, .int .i64 (reserveB ⟨[x, y, z], hh, tt⟩ who key).2]) ∧ Ints w' a' n' c' (reserveB ⟨[x, y, z], hh, tt⟩ who key).1.k ∧ ∀ x, a' = some x → w.heap.size ≤ x.block) ∧ Below w.heap.size w w' := by
  have hpre : preB ⟨[x, y, z], hh, tt⟩ who = 0 := by simp [preB, hok, inB]; omega
  have HP := hide hpre
  clear hpre
  have HK := hide hok
  have hin : inB (who : Int) 0 2 = true := by simp [inB]; omega
  have hw' : (who : Int) < 3 := by omega
  unfold bookV
  obtain ⟨g, off, rfl, _, _, _⟩ := h.three
  have hcell : w.cell? ⟨g, off + who, none⟩ = some (.int .i64 ([x, y, z].getD who 0)) := by
    rcases h.row with h0 | ⟨g', off', ha, _, hr⟩
    · omega
    · cases ha; exact hr who hw
  generalize hkw : [x, y, z].getD who 0 = kw at hcell
  have HKW := hide (show keyOf ⟨[x, y, z], hh, tt⟩ who = kw from hkw)
  clear hkw
  go_enter Tryz.func37, Tryz.ntmps37
  go_wp2_with fail
  refine (CheckBook_c _ 3 c ⟨[x, y, z], hh, tt⟩ _ (h.below (B := w.heap.size) (by (repeat first | exact bel0 | assumption | refine bel1 ?_ | refine bel2 ?_ | refine bel3 ?_ | refine belowT ?_ (by assumption) | refine bel5 ?_ (by simp; try omega))) (Nat.le_refl _))).mono ?_
  rintro e w1 ⟨rfl, hb1⟩
  rw [HK.out]
  go_wp2_with (go_at_call 26; refine (in_c _ _ _ _).mono ?_; rintro e w1 ⟨rfl, rfl⟩)
  have b0 := keepc hb1 (p := ⟨w.heap.size, 0, none⟩) (u := .slice (some ⟨g, off, none⟩) 3 c) (by go_simp)
  have b1 := keepc hb1 (p := ⟨w.heap.size, 1, none⟩) (u := .int .i64 hh) (by go_simp)
  have b2 := keepc hb1 (p := ⟨w.heap.size, 2, none⟩) (u := .int .i64 tt) (by go_simp)
  have f0 := keepf hb1 (p := ⟨w.heap.size, 0, none⟩) (u := .slice (some ⟨g, off, none⟩) 3 c) (by go_simp) (b := false) (by go_simp)
  have f1 := keepf hb1 (p := ⟨w.heap.size, 1, none⟩) (u := .int .i64 hh) (by go_simp) (b := false) (by go_simp)
  have f2 := keepf hb1 (p := ⟨w.heap.size, 2, none⟩) (u := .int .i64 tt) (by go_simp) (b := false) (by go_simp)
  have r0 := keepc hb1 (p := ⟨w.heap.size + 1, 0, none⟩) (u := .slice none 0 0) (by go_simp)
  have r1 := keepc hb1 (p := ⟨w.heap.size + 1, 1, none⟩) (u := .int .i64 0) (by go_simp)
  have r2 := keepc hb1 (p := ⟨w.heap.size + 1, 2, none⟩) (u := .int .i64 0) (by go_simp)
  have u0 := keepf hb1 (p := ⟨w.heap.size + 1, 0, none⟩) (u := .slice none 0 0) (by go_simp) (b := false) (by go_simp)
  have u1 := keepf hb1 (p := ⟨w.heap.size + 1, 1, none⟩) (u := .int .i64 0) (by go_simp) (b := false) (by go_simp)
  have u2 := keepf hb1 (p := ⟨w.heap.size + 1, 2, none⟩) (u := .int .i64 0) (by go_simp) (b := false) (by go_simp)
  have bw1 : Below w.heap.size w w1 := by (repeat first | exact bel0 | assumption | refine bel1 ?_ | refine bel2 ?_ | refine bel3 ?_ | refine belowT ?_ (by assumption) | refine bel5 ?_ (by simp; try omega))
  have z1 : w.heap.size + 1 < w1.heap.size := World.block_lt_of_cell? _ _ r0
  clear hb1 hok
  go_cut [12, 13] (fun v12 v13 wx => v12 = .int .i64 1 ∧ v13 = .int .i64 4 ∧ Below w1.heap.size w1 wx)
  case first =>
    refine wp_region_any (by kernel_rfl) ?_
    refine book_maps (w0 := w1) (kd := 9) rfl (by simp) rfl ((Below.refl _ _).drew) ?hd ?hs
    case hs =>
      intro L a' w' hI i o ho h0 hall
      have hi : i < 15 := (Array.getElem?_eq_some_iff.1 ho).1
      rcases (by omega : i = 0 ∨ i = 1 ∨ i = 2 ∨ i = 3 ∨ i = 4 ∨ i = 5 ∨ i = 6 ∨ i = 7 ∨ i = 8 ∨ i = 9 ∨ i = 10 ∨ i = 11 ∨ i = 12 ∨ i = 13 ∨ i = 14) with rfl | rfl | rfl | rfl | rfl | rfl | rfl | rfl | rfl | rfl | rfl | rfl | rfl | rfl | rfl
      · cases (show some _ = some o from ho)
        exact step0 rfl rfl rfl rfl hI h0
      · cases (show some _ = some o from ho)
        exact step1 rfl rfl rfl rfl hI h0 (hall ⟨0, .data⟩ (by simp) rfl)
      · cases (show some _ = some o from ho)
        exact step2 rfl rfl rfl rfl hI h0 (hall ⟨0, .data⟩ (by simp) rfl)
      · cases (show some _ = some o from ho)
        exact step3 rfl rfl rfl rfl hI h0 (hall ⟨0, .data⟩ (by simp) rfl) (hall ⟨1, .data⟩ (by simp) rfl) (hall ⟨2, .data⟩ (by simp) rfl)
      · cases (show some _ = some o from ho)
        exact step4 rfl rfl rfl rfl hI h0
      · cases (show some _ = some o from ho)
        exact step5 rfl rfl rfl rfl (by decide) hI h0 (hall ⟨3, .data⟩ (by simp) rfl) (hall ⟨4, .data⟩ (by simp) rfl)
      · cases (show some _ = some o from ho)
        exact step6 rfl rfl rfl rfl hI h0
      · cases (show some _ = some o from ho)
        exact step7 rfl rfl rfl rfl hI h0 (hall ⟨6, .data⟩ (by simp) rfl)
      · cases (show some _ = some o from ho)
        exact step8 rfl rfl rfl rfl hI h0 (hall ⟨6, .data⟩ (by simp) rfl)
      · cases (show some _ = some o from ho)
        exact step9 rfl rfl rfl rfl hI h0 (hall ⟨6, .data⟩ (by simp) rfl)
      · cases (show some _ = some o from ho)
        exact step10 rfl rfl rfl rfl hI h0 (hall ⟨6, .data⟩ (by simp) rfl) (hall ⟨7, .data⟩ (by simp) rfl) (hall ⟨8, .data⟩ (by simp) rfl) (hall ⟨9, .data⟩ (by simp) rfl)
      · cases (show some _ = some o from ho)
        exact step11 rfl rfl rfl rfl hI h0
      · cases (show some _ = some o from ho)
        exact step12 rfl rfl rfl rfl (by decide) hI h0 (hall ⟨10, .data⟩ (by simp) rfl) (hall ⟨11, .data⟩ (by simp) rfl)
      · cases (show some _ = some o from ho)
        exact step13 rfl rfl rfl rfl hI h0 (hall ⟨5, .data⟩ (by simp) rfl)
      · cases (show some _ = some o from ho)
        exact step14 rfl rfl rfl rfl hI h0 (hall ⟨12, .data⟩ (by simp) rfl)
    case hd =>
      rintro L a' w' ⟨v, hI⟩ hr
      have hz := hI.sz
      have g0 : L.getD 0 false = true := bit_done hr 0 _ rfl hz (by intro e he hb; simp at he; try (rcases he with rfl | rfl | rfl | rfl | rfl | rfl | rfl | rfl | rfl | rfl | rfl | rfl | rfl | rfl | rfl | rfl <;> first | assumption | cases hb))
      have g1 : L.getD 1 false = true := bit_done hr 1 _ rfl hz (by intro e he hb; simp at he; try (rcases he with rfl | rfl | rfl | rfl | rfl | rfl | rfl | rfl | rfl | rfl | rfl | rfl | rfl | rfl | rfl | rfl <;> first | assumption | cases hb))
      have g2 : L.getD 2 false = true := bit_done hr 2 _ rfl hz (by intro e he hb; simp at he; try (rcases he with rfl | rfl | rfl | rfl | rfl | rfl | rfl | rfl | rfl | rfl | rfl | rfl | rfl | rfl | rfl | rfl <;> first | assumption | cases hb))
      have g3 : L.getD 3 false = true := bit_done hr 3 _ rfl hz (by intro e he hb; simp at he; try (rcases he with rfl | rfl | rfl | rfl | rfl | rfl | rfl | rfl | rfl | rfl | rfl | rfl | rfl | rfl | rfl | rfl <;> first | assumption | cases hb))
      have g4 : L.getD 4 false = true := bit_done hr 4 _ rfl hz (by intro e he hb; simp at he; try (rcases he with rfl | rfl | rfl | rfl | rfl | rfl | rfl | rfl | rfl | rfl | rfl | rfl | rfl | rfl | rfl | rfl <;> first | assumption | cases hb))
      have g5 : L.getD 5 false = true := bit_done hr 5 _ rfl hz (by intro e he hb; simp at he; try (rcases he with rfl | rfl | rfl | rfl | rfl | rfl | rfl | rfl | rfl | rfl | rfl | rfl | rfl | rfl | rfl | rfl <;> first | assumption | cases hb))
      have g6 : L.getD 6 false = true := bit_done hr 6 _ rfl hz (by intro e he hb; simp at he; try (rcases he with rfl | rfl | rfl | rfl | rfl | rfl | rfl | rfl | rfl | rfl | rfl | rfl | rfl | rfl | rfl | rfl <;> first | assumption | cases hb))
      have g7 : L.getD 7 false = true := bit_done hr 7 _ rfl hz (by intro e he hb; simp at he; try (rcases he with rfl | rfl | rfl | rfl | rfl | rfl | rfl | rfl | rfl | rfl | rfl | rfl | rfl | rfl | rfl | rfl <;> first | assumption | cases hb))
      have g8 : L.getD 8 false = true := bit_done hr 8 _ rfl hz (by intro e he hb; simp at he; try (rcases he with rfl | rfl | rfl | rfl | rfl | rfl | rfl | rfl | rfl | rfl | rfl | rfl | rfl | rfl | rfl | rfl <;> first | assumption | cases hb))
      have g9 : L.getD 9 false = true := bit_done hr 9 _ rfl hz (by intro e he hb; simp at he; try (rcases he with rfl | rfl | rfl | rfl | rfl | rfl | rfl | rfl | rfl | rfl | rfl | rfl | rfl | rfl | rfl | rfl <;> first | assumption | cases hb))
      have g10 : L.getD 10 false = true := bit_done hr 10 _ rfl hz (by intro e he hb; simp at he; try (rcases he with rfl | rfl | rfl | rfl | rfl | rfl | rfl | rfl | rfl | rfl | rfl | rfl | rfl | rfl | rfl | rfl <;> first | assumption | cases hb))
      have g11 : L.getD 11 false = true := bit_done hr 11 _ rfl hz (by intro e he hb; simp at he; try (rcases he with rfl | rfl | rfl | rfl | rfl | rfl | rfl | rfl | rfl | rfl | rfl | rfl | rfl | rfl | rfl | rfl <;> first | assumption | cases hb))
      have g12 : L.getD 12 false = true := bit_done hr 12 _ rfl hz (by intro e he hb; simp at he; try (rcases he with rfl | rfl | rfl | rfl | rfl | rfl | rfl | rfl | rfl | rfl | rfl | rfl | rfl | rfl | rfl | rfl <;> first | assumption | cases hb))
      have g13 : L.getD 13 false = true := bit_done hr 13 _ rfl hz (by intro e he hb; simp at he; try (rcases he with rfl | rfl | rfl | rfl | rfl | rfl | rfl | rfl | rfl | rfl | rfl | rfl | rfl | rfl | rfl | rfl <;> first | assumption | cases hb))
      have g14 : L.getD 14 false = true := bit_done hr 14 _ rfl hz (by intro e he hb; simp at he; try (rcases he with rfl | rfl | rfl | rfl | rfl | rfl | rfl | rfl | rfl | rfl | rfl | rfl | rfl | rfl | rfl | rfl <;> first | assumption | cases hb))
      have v12 : v 12 = .int .i64 1 := by rw [hI.b13 g13]; rfl
      have v13 : v 13 = .int .i64 4 := by rw [hI.b14 g14]; rfl
      have bl := hI.bel
      rw [hI.act]
      clear hI hr g0 g1 g2 g3 g4 g5 g6 g7 g8 g9 g10 g11 g12 g13 g14
      simp [laid, over, SB]
      rw [v12, v13]
      go_wp2_with fail
      go_meet
      case rel => exact ⟨rfl, rfl, bl⟩

  obtain ⟨rfl, rfl, hbc⟩ := hcut
  replace b0 := keepc hbc b0
  replace b1 := keepc hbc b1
  replace b2 := keepc hbc b2
  replace f0 : wc.frozen? _ = false := (hbc.frozen (p := ⟨w.heap.size, 0, none⟩) (by simp; omega)).trans f0
  replace f1 : wc.frozen? _ = false := (hbc.frozen (p := ⟨w.heap.size, 1, none⟩) (by simp; omega)).trans f1
  replace f2 : wc.frozen? _ = false := (hbc.frozen (p := ⟨w.heap.size, 2, none⟩) (by simp; omega)).trans f2
  replace u0 : wc.frozen? _ = false := (hbc.frozen (p := ⟨w.heap.size + 1, 0, none⟩) (by simp; omega)).trans u0
  replace u1 : wc.frozen? _ = false := (hbc.frozen (p := ⟨w.heap.size + 1, 1, none⟩) (by simp; omega)).trans u1
  replace u2 : wc.frozen? _ = false := (hbc.frozen (p := ⟨w.heap.size + 1, 2, none⟩) (by simp; omega)).trans u2
  replace r0 := keepc hbc r0
  replace r1 := keepc hbc r1
  replace r2 := keepc hbc r2
  replace bw1 := belowT bw1 hbc
  have ek := keepc bw1 hcell
  have zc : w.heap.size + 1 < wc.heap.size := World.block_lt_of_cell? _ _ r0
  clear hbc z1


  cases hk : inB key 1 4
  · have HF := hide (show reserveB ⟨[x, y, z], hh, tt⟩ who key = (zeroB, 3) by simp [reserveB, HP.out, hk])
    go_wp2_with (first | (go_at_call 26; refine (in_c _ _ _ _).mono ?_; rintro e wc ⟨rfl, rfl⟩) | (go_at_call 60; refine (badB_c _ _).mono ?_; rintro e w9 ⟨rfl, hb9⟩; (replace r0 := keepc hb9 (p := ⟨w.heap.size + 1, 0, none⟩) (u := .slice none 0 0) (by first | exact r0 | go_simp)); (replace r1 := keepc hb9 (p := ⟨w.heap.size + 1, 1, none⟩) (u := .int .i64 0) (by first | exact r1 | go_simp)); (replace r2 := keepc hb9 (p := ⟨w.heap.size + 1, 2, none⟩) (u := .int .i64 0) (by first | exact r2 | go_simp)); (replace u0 : w9.frozen? ⟨w.heap.size + 1, 0, none⟩ = false := (hb9.frozen (p := ⟨w.heap.size + 1, 0, none⟩) (by first | (simp; done) | (simp; omega) | (simp [World.setCell]; omega))).trans (by first | exact u0 | go_simp)); (replace u1 : w9.frozen? ⟨w.heap.size + 1, 1, none⟩ = false := (hb9.frozen (p := ⟨w.heap.size + 1, 1, none⟩) (by first | (simp; done) | (simp; omega) | (simp [World.setCell]; omega))).trans (by first | exact u1 | go_simp)); (replace u2 : w9.frozen? ⟨w.heap.size + 1, 2, none⟩ = false := (hb9.frozen (p := ⟨w.heap.size + 1, 2, none⟩) (by first | (simp; done) | (simp; omega) | (simp [World.setCell]; omega))).trans (by first | exact u2 | go_simp))))
    refine bodyPost_ret (v := .tuple #[.agg #[.slice none 0 0, .int .i64 0, .int .i64 0], .int .i64 3]) (by simp [results, Tryz.results37, go_sem, r0, r1, r2]) rfl ⟨⟨none, 0, 0, by rw [HF.out]; rfl, by rw [HF.out]; exact Ints.nilSlice _, fun x e => by cases e⟩, ?_⟩
    (repeat first | exact bel0 | assumption | refine bel1 ?_ | refine bel2 ?_ | refine bel3 ?_ | refine belowT ?_ (by assumption) | refine bel5 ?_ (by simp; try omega))
  · by_cases hkz : kw = 0
    · have HF := hide (show reserveB ⟨[x, y, z], hh, tt⟩ who key = (zeroB, 8) by simp [reserveB, HP.out, hk, HKW.out, hkz])
      subst hkz
      go_wp2_with (first | (go_at_call 26; refine (in_c _ _ _ _).mono ?_; rintro e wc ⟨rfl, rfl⟩) | (go_at_call 60; refine (badB_c _ _).mono ?_; rintro e w9 ⟨rfl, hb9⟩; (replace r0 := keepc hb9 (p := ⟨w.heap.size + 1, 0, none⟩) (u := .slice none 0 0) (by first | exact r0 | go_simp)); (replace r1 := keepc hb9 (p := ⟨w.heap.size + 1, 1, none⟩) (u := .int .i64 0) (by first | exact r1 | go_simp)); (replace r2 := keepc hb9 (p := ⟨w.heap.size + 1, 2, none⟩) (u := .int .i64 0) (by first | exact r2 | go_simp)); (replace u0 : w9.frozen? ⟨w.heap.size + 1, 0, none⟩ = false := (hb9.frozen (p := ⟨w.heap.size + 1, 0, none⟩) (by first | (simp; done) | (simp; omega) | (simp [World.setCell]; omega))).trans (by first | exact u0 | go_simp)); (replace u1 : w9.frozen? ⟨w.heap.size + 1, 1, none⟩ = false := (hb9.frozen (p := ⟨w.heap.size + 1, 1, none⟩) (by first | (simp; done) | (simp; omega) | (simp [World.setCell]; omega))).trans (by first | exact u1 | go_simp)); (replace u2 : w9.frozen? ⟨w.heap.size + 1, 2, none⟩ = false := (hb9.frozen (p := ⟨w.heap.size + 1, 2, none⟩) (by first | (simp; done) | (simp; omega) | (simp [World.setCell]; omega))).trans (by first | exact u2 | go_simp))))
      refine bodyPost_ret (v := .tuple #[.agg #[.slice none 0 0, .int .i64 0, .int .i64 0], .int .i64 8]) (by simp [results, Tryz.results37, go_sem, r0, r1, r2]) rfl ⟨⟨none, 0, 0, by rw [HF.out]; rfl, by rw [HF.out]; exact Ints.nilSlice _, fun x e => by cases e⟩, ?_⟩
      (repeat first | exact bel0 | assumption | refine bel1 ?_ | refine bel2 ?_ | refine bel3 ?_ | refine belowT ?_ (by assumption) | refine bel5 ?_ (by simp; try omega))
    · have hkz' : (kw == 0) = false := by simpa using hkz
      by_cases hfree : hh = -1
      · have HF := hide (show reserveB ⟨[x, y, z], hh, tt⟩ who key = (⟨[x, y, z], who, key⟩, 0) by simp only [reserveB, HP.out, HKW.out]; simp [hk, hkz, hfree])
        have hn1 : ((-1 : Int) == (who : Int)) = false := by (first | (simp; done) | (simp; omega))
        subst hfree
        clear hkz
        go_wp2_with (first | (go_at_call 26; refine (in_c _ _ _ _).mono ?_; rintro e wc ⟨rfl, rfl⟩) | (go_at_call 61; refine (CloneI_c g off c x y z _ (h.below bw1 (Nat.le_refl _))).mono ?_; rintro e w4 ⟨⟨g2, cap, rfl, hm⟩, hb4⟩; (replace b0 := keepc hb4 b0); (replace b1 := keepc hb4 b1); (replace b2 := keepc hb4 b2); (replace r0 := keepc hb4 r0); (replace r1 := keepc hb4 r1); (replace r2 := keepc hb4 r2); (replace f0 : w4.frozen? _ = false := (hb4.frozen (p := ⟨w.heap.size, 0, none⟩) (by (first | (simp; done) | (simp; omega)))).trans f0); (replace f1 : w4.frozen? _ = false := (hb4.frozen (p := ⟨w.heap.size, 1, none⟩) (by (first | (simp; done) | (simp; omega)))).trans f1); (replace f2 : w4.frozen? _ = false := (hb4.frozen (p := ⟨w.heap.size, 2, none⟩) (by (first | (simp; done) | (simp; omega)))).trans f2); (replace u0 : w4.frozen? _ = false := (hb4.frozen (p := ⟨w.heap.size + 1, 0, none⟩) (by (first | (simp; done) | (simp; omega)))).trans u0); (replace u1 : w4.frozen? _ = false := (hb4.frozen (p := ⟨w.heap.size + 1, 1, none⟩) (by (first | (simp; done) | (simp; omega)))).trans u1); (replace u2 : w4.frozen? _ = false := (hb4.frozen (p := ⟨w.heap.size + 1, 2, none⟩) (by (first | (simp; done) | (simp; omega)))).trans u2); (have m0 := hm.cells who hw); (have s0 := hm.soft who hw); (have hgb := hm.base); (have hgl := hm.lt); (have bw4 := belowT bw1 hb4); (have gn1 : g2 ≠ w.heap.size := by omega); (have gn2 : g2 ≠ w.heap.size + 1 := by omega); (have gn3 : w.heap.size ≠ g2 := by omega); (have gn4 : w.heap.size + 1 ≠ g2 := by omega); (have lg : w.heap.size ≤ g2 := by omega); (have z4 : w.heap.size + 1 < w4.heap.size := World.block_lt_of_cell? _ _ r0)))
        refine bodyPost_ret (v := .tuple #[.agg #[.slice (some ⟨g2, 0, none⟩) 3 cap, .int .i64 (who), .int .i64 (key)], .int .i64 0]) (by simp [results, Tryz.results37, go_sem, r0, r1, r2, b0, b1, b2, gn1, gn2, gn3, gn4]) rfl ⟨⟨some ⟨g2, 0, none⟩, 3, cap, by rw [HF.out], ?_, fun x e => by cases e; exact lg⟩, ?_⟩
        · rw [HF.out]
          exact ((((((hm.other w.heap.size 0 _ gn3).other w.heap.size 1 _ gn3).other w.heap.size 2 _ gn3).other (w.heap.size + 1) 0 _ gn4).other (w.heap.size + 1) 1 _ gn4).other (w.heap.size + 1) 2 _ gn4).at3 (by simp)
        · repeat (refine Below.setCell ?_ (by first | exact Nat.le_refl _ | exact Nat.le_succ _ | exact lg) _)
          exact bw4
      · have hfree' : (hh != -1) = true := by simpa using hfree
        cases hz : hh == (who : Int)
        · have HF := hide (show reserveB ⟨[x, y, z], hh, tt⟩ who key = (zeroB, 8) by simp at hz; simp only [reserveB, HP.out, HKW.out]; simp [hk, hkz, hfree, hz])
          clear hkz hfree
          go_wp2_with (first | (go_at_call 26; refine (in_c _ _ _ _).mono ?_; rintro e wc ⟨rfl, rfl⟩) | (go_at_call 60; refine (badB_c _ _).mono ?_; rintro e w9 ⟨rfl, hb9⟩; (replace r0 := keepc hb9 (p := ⟨w.heap.size + 1, 0, none⟩) (u := .slice none 0 0) (by first | exact r0 | go_simp)); (replace r1 := keepc hb9 (p := ⟨w.heap.size + 1, 1, none⟩) (u := .int .i64 0) (by first | exact r1 | go_simp)); (replace r2 := keepc hb9 (p := ⟨w.heap.size + 1, 2, none⟩) (u := .int .i64 0) (by first | exact r2 | go_simp)); (replace u0 : w9.frozen? ⟨w.heap.size + 1, 0, none⟩ = false := (hb9.frozen (p := ⟨w.heap.size + 1, 0, none⟩) (by first | (simp; done) | (simp; omega) | (simp [World.setCell]; omega))).trans (by first | exact u0 | go_simp)); (replace u1 : w9.frozen? ⟨w.heap.size + 1, 1, none⟩ = false := (hb9.frozen (p := ⟨w.heap.size + 1, 1, none⟩) (by first | (simp; done) | (simp; omega) | (simp [World.setCell]; omega))).trans (by first | exact u1 | go_simp)); (replace u2 : w9.frozen? ⟨w.heap.size + 1, 2, none⟩ = false := (hb9.frozen (p := ⟨w.heap.size + 1, 2, none⟩) (by first | (simp; done) | (simp; omega) | (simp [World.setCell]; omega))).trans (by first | exact u2 | go_simp))) | (go_at_call 61; refine (CloneI_c g off c x y z _ (h.below bw1 (Nat.le_refl _))).mono ?_; rintro e w4 ⟨⟨g2, cap, rfl, hm⟩, hb4⟩; (replace b0 := keepc hb4 b0); (replace b1 := keepc hb4 b1); (replace b2 := keepc hb4 b2); (replace r0 := keepc hb4 r0); (replace r1 := keepc hb4 r1); (replace r2 := keepc hb4 r2); (replace f0 : w4.frozen? _ = false := (hb4.frozen (p := ⟨w.heap.size, 0, none⟩) (by (first | (simp; done) | (simp; omega)))).trans f0); (replace f1 : w4.frozen? _ = false := (hb4.frozen (p := ⟨w.heap.size, 1, none⟩) (by (first | (simp; done) | (simp; omega)))).trans f1); (replace f2 : w4.frozen? _ = false := (hb4.frozen (p := ⟨w.heap.size, 2, none⟩) (by (first | (simp; done) | (simp; omega)))).trans f2); (replace u0 : w4.frozen? _ = false := (hb4.frozen (p := ⟨w.heap.size + 1, 0, none⟩) (by (first | (simp; done) | (simp; omega)))).trans u0); (replace u1 : w4.frozen? _ = false := (hb4.frozen (p := ⟨w.heap.size + 1, 1, none⟩) (by (first | (simp; done) | (simp; omega)))).trans u1); (replace u2 : w4.frozen? _ = false := (hb4.frozen (p := ⟨w.heap.size + 1, 2, none⟩) (by (first | (simp; done) | (simp; omega)))).trans u2); (have m0 := hm.cells who hw); (have s0 := hm.soft who hw); (have hgb := hm.base); (have hgl := hm.lt); (have bw4 := belowT bw1 hb4); (have gn1 : g2 ≠ w.heap.size := by omega); (have gn2 : g2 ≠ w.heap.size + 1 := by omega); (have gn3 : w.heap.size ≠ g2 := by omega); (have gn4 : w.heap.size + 1 ≠ g2 := by omega); (have lg : w.heap.size ≤ g2 := by omega); (have z4 : w.heap.size + 1 < w4.heap.size := World.block_lt_of_cell? _ _ r0)))
          refine bodyPost_ret (v := .tuple #[.agg #[.slice none 0 0, .int .i64 0, .int .i64 0], .int .i64 8]) (by simp [results, Tryz.results37, go_sem, r0, r1, r2]) rfl ⟨⟨none, 0, 0, by rw [HF.out]; rfl, by rw [HF.out]; exact Ints.nilSlice _, fun x e => by cases e⟩, ?_⟩
          (repeat first | exact bel0 | assumption | refine bel1 ?_ | refine bel2 ?_ | refine bel3 ?_ | refine belowT ?_ (by assumption) | refine bel5 ?_ (by simp; try omega))
        · cases ht : tt == key
          · have HF := hide (show reserveB ⟨[x, y, z], hh, tt⟩ who key = (zeroB, 8) by simp at hz ht; simp only [reserveB, HP.out, HKW.out]; simp [hk, hkz, hfree, ht])
            clear hkz hfree
            go_wp2_with (first | (go_at_call 26; refine (in_c _ _ _ _).mono ?_; rintro e wc ⟨rfl, rfl⟩) | (go_at_call 60; refine (badB_c _ _).mono ?_; rintro e w9 ⟨rfl, hb9⟩; (replace r0 := keepc hb9 (p := ⟨w.heap.size + 1, 0, none⟩) (u := .slice none 0 0) (by first | exact r0 | go_simp)); (replace r1 := keepc hb9 (p := ⟨w.heap.size + 1, 1, none⟩) (u := .int .i64 0) (by first | exact r1 | go_simp)); (replace r2 := keepc hb9 (p := ⟨w.heap.size + 1, 2, none⟩) (u := .int .i64 0) (by first | exact r2 | go_simp)); (replace u0 : w9.frozen? ⟨w.heap.size + 1, 0, none⟩ = false := (hb9.frozen (p := ⟨w.heap.size + 1, 0, none⟩) (by first | (simp; done) | (simp; omega) | (simp [World.setCell]; omega))).trans (by first | exact u0 | go_simp)); (replace u1 : w9.frozen? ⟨w.heap.size + 1, 1, none⟩ = false := (hb9.frozen (p := ⟨w.heap.size + 1, 1, none⟩) (by first | (simp; done) | (simp; omega) | (simp [World.setCell]; omega))).trans (by first | exact u1 | go_simp)); (replace u2 : w9.frozen? ⟨w.heap.size + 1, 2, none⟩ = false := (hb9.frozen (p := ⟨w.heap.size + 1, 2, none⟩) (by first | (simp; done) | (simp; omega) | (simp [World.setCell]; omega))).trans (by first | exact u2 | go_simp))) | (go_at_call 61; refine (CloneI_c g off c x y z _ (h.below bw1 (Nat.le_refl _))).mono ?_; rintro e w4 ⟨⟨g2, cap, rfl, hm⟩, hb4⟩; (replace b0 := keepc hb4 b0); (replace b1 := keepc hb4 b1); (replace b2 := keepc hb4 b2); (replace r0 := keepc hb4 r0); (replace r1 := keepc hb4 r1); (replace r2 := keepc hb4 r2); (replace f0 : w4.frozen? _ = false := (hb4.frozen (p := ⟨w.heap.size, 0, none⟩) (by (first | (simp; done) | (simp; omega)))).trans f0); (replace f1 : w4.frozen? _ = false := (hb4.frozen (p := ⟨w.heap.size, 1, none⟩) (by (first | (simp; done) | (simp; omega)))).trans f1); (replace f2 : w4.frozen? _ = false := (hb4.frozen (p := ⟨w.heap.size, 2, none⟩) (by (first | (simp; done) | (simp; omega)))).trans f2); (replace u0 : w4.frozen? _ = false := (hb4.frozen (p := ⟨w.heap.size + 1, 0, none⟩) (by (first | (simp; done) | (simp; omega)))).trans u0); (replace u1 : w4.frozen? _ = false := (hb4.frozen (p := ⟨w.heap.size + 1, 1, none⟩) (by (first | (simp; done) | (simp; omega)))).trans u1); (replace u2 : w4.frozen? _ = false := (hb4.frozen (p := ⟨w.heap.size + 1, 2, none⟩) (by (first | (simp; done) | (simp; omega)))).trans u2); (have m0 := hm.cells who hw); (have s0 := hm.soft who hw); (have hgb := hm.base); (have hgl := hm.lt); (have bw4 := belowT bw1 hb4); (have gn1 : g2 ≠ w.heap.size := by omega); (have gn2 : g2 ≠ w.heap.size + 1 := by omega); (have gn3 : w.heap.size ≠ g2 := by omega); (have gn4 : w.heap.size + 1 ≠ g2 := by omega); (have lg : w.heap.size ≤ g2 := by omega); (have z4 : w.heap.size + 1 < w4.heap.size := World.block_lt_of_cell? _ _ r0)))
            refine bodyPost_ret (v := .tuple #[.agg #[.slice none 0 0, .int .i64 0, .int .i64 0], .int .i64 8]) (by simp [results, Tryz.results37, go_sem, r0, r1, r2]) rfl ⟨⟨none, 0, 0, by rw [HF.out]; rfl, by rw [HF.out]; exact Ints.nilSlice _, fun x e => by cases e⟩, ?_⟩
            (repeat first | exact bel0 | assumption | refine bel1 ?_ | refine bel2 ?_ | refine bel3 ?_ | refine belowT ?_ (by assumption) | refine bel5 ?_ (by simp; try omega))
          · have HF := hide (show reserveB ⟨[x, y, z], hh, tt⟩ who key = (⟨[x, y, z], who, key⟩, 0) by simp at hz ht; simp only [reserveB, HP.out, HKW.out]; simp [hk, hkz, hz, ht])
            clear hkz hfree
            go_wp2_with (first | (go_at_call 26; refine (in_c _ _ _ _).mono ?_; rintro e wc ⟨rfl, rfl⟩) | (go_at_call 61; refine (CloneI_c g off c x y z _ (h.below bw1 (Nat.le_refl _))).mono ?_; rintro e w4 ⟨⟨g2, cap, rfl, hm⟩, hb4⟩; (replace b0 := keepc hb4 b0); (replace b1 := keepc hb4 b1); (replace b2 := keepc hb4 b2); (replace r0 := keepc hb4 r0); (replace r1 := keepc hb4 r1); (replace r2 := keepc hb4 r2); (replace f0 : w4.frozen? _ = false := (hb4.frozen (p := ⟨w.heap.size, 0, none⟩) (by (first | (simp; done) | (simp; omega)))).trans f0); (replace f1 : w4.frozen? _ = false := (hb4.frozen (p := ⟨w.heap.size, 1, none⟩) (by (first | (simp; done) | (simp; omega)))).trans f1); (replace f2 : w4.frozen? _ = false := (hb4.frozen (p := ⟨w.heap.size, 2, none⟩) (by (first | (simp; done) | (simp; omega)))).trans f2); (replace u0 : w4.frozen? _ = false := (hb4.frozen (p := ⟨w.heap.size + 1, 0, none⟩) (by (first | (simp; done) | (simp; omega)))).trans u0); (replace u1 : w4.frozen? _ = false := (hb4.frozen (p := ⟨w.heap.size + 1, 1, none⟩) (by (first | (simp; done) | (simp; omega)))).trans u1); (replace u2 : w4.frozen? _ = false := (hb4.frozen (p := ⟨w.heap.size + 1, 2, none⟩) (by (first | (simp; done) | (simp; omega)))).trans u2); (have m0 := hm.cells who hw); (have s0 := hm.soft who hw); (have hgb := hm.base); (have hgl := hm.lt); (have bw4 := belowT bw1 hb4); (have gn1 : g2 ≠ w.heap.size := by omega); (have gn2 : g2 ≠ w.heap.size + 1 := by omega); (have gn3 : w.heap.size ≠ g2 := by omega); (have gn4 : w.heap.size + 1 ≠ g2 := by omega); (have lg : w.heap.size ≤ g2 := by omega); (have z4 : w.heap.size + 1 < w4.heap.size := World.block_lt_of_cell? _ _ r0)))
            refine bodyPost_ret (v := .tuple #[.agg #[.slice (some ⟨g2, 0, none⟩) 3 cap, .int .i64 (who), .int .i64 (key)], .int .i64 0]) (by simp [results, Tryz.results37, go_sem, r0, r1, r2, b0, b1, b2, gn1, gn2, gn3, gn4]) rfl ⟨⟨some ⟨g2, 0, none⟩, 3, cap, by rw [HF.out], ?_, fun x e => by cases e; exact lg⟩, ?_⟩
            · rw [HF.out]
              exact ((((((hm.other w.heap.size 0 _ gn3).other w.heap.size 1 _ gn3).other w.heap.size 2 _ gn3).other (w.heap.size + 1) 0 _ gn4).other (w.heap.size + 1) 1 _ gn4).other (w.heap.size + 1) 2 _ gn4).at3 (by simp)
            · repeat (refine Below.setCell ?_ (by first | exact Nat.le_refl _ | exact Nat.le_succ _ | exact lg) _)
              exact bw4

set_option maxRecDepth 100000 in
set_option maxHeartbeats 4000000 in
theorem OnB_clr (a : Option Addr) (c : Nat) (x y z hh tt : Int) (who : Nat) (key : Int) (w : World) (h : Ints w a 3 c [x, y, z]) (hok : checkB ⟨[x, y, z], hh, tt⟩ = 0) (hw : who < 3) :
    Calls Tryz.prog 37 #[bookV a 3 c ⟨[x, y, z], hh, tt⟩, .int .i64 12, .int .i64 who, .int .i64 key] w fun e w' =>
      (∃ a' n' c', e = .returned (.tuple #[bookV a' n' c' (clearB ⟨[x, y, z], hh, tt⟩ who).1, .int .i64 (clearB ⟨[x, y, z], hh, tt⟩ who).2]) ∧ Ints w' a' n' c' (clearB ⟨[x, y, z], hh, tt⟩ who).1.k ∧ ∀ x, a' = some x → w.heap.size ≤ x.block) ∧ Below w.heap.size w w' := by
  have hpre : preB ⟨[x, y, z], hh, tt⟩ who = 0 := by simp [preB, hok, inB]; omega
  have HP := hide hpre
  clear hpre
  have HK := hide hok
  have hin : inB (who : Int) 0 2 = true := by simp [inB]; omega
  have hw' : (who : Int) < 3 := by omega
  unfold bookV
  obtain ⟨g, off, rfl, _, _, _⟩ := h.three
  have hcell : w.cell? ⟨g, off + who, none⟩ = some (.int .i64 ([x, y, z].getD who 0)) := by
    rcases h.row with h0 | ⟨g', off', ha, _, hr⟩
    · omega
    · cases ha; exact hr who hw
  generalize hkw : [x, y, z].getD who 0 = kw at hcell
  have HKW := hide (show keyOf ⟨[x, y, z], hh, tt⟩ who = kw from hkw)
  clear hkw
  go_enter Tryz.func37, Tryz.ntmps37
  go_wp2_with fail
  refine (CheckBook_c _ 3 c ⟨[x, y, z], hh, tt⟩ _ (h.below (B := w.heap.size) (by (repeat first | exact bel0 | assumption | refine bel1 ?_ | refine bel2 ?_ | refine bel3 ?_ | refine belowT ?_ (by assumption) | refine bel5 ?_ (by simp; try omega))) (Nat.le_refl _))).mono ?_
  rintro e w1 ⟨rfl, hb1⟩
  rw [HK.out]
  go_wp2_with (go_at_call 26; refine (in_c _ _ _ _).mono ?_; rintro e w1 ⟨rfl, rfl⟩)
  have b0 := keepc hb1 (p := ⟨w.heap.size, 0, none⟩) (u := .slice (some ⟨g, off, none⟩) 3 c) (by go_simp)
  have b1 := keepc hb1 (p := ⟨w.heap.size, 1, none⟩) (u := .int .i64 hh) (by go_simp)
  have b2 := keepc hb1 (p := ⟨w.heap.size, 2, none⟩) (u := .int .i64 tt) (by go_simp)
  have f0 := keepf hb1 (p := ⟨w.heap.size, 0, none⟩) (u := .slice (some ⟨g, off, none⟩) 3 c) (by go_simp) (b := false) (by go_simp)
  have f1 := keepf hb1 (p := ⟨w.heap.size, 1, none⟩) (u := .int .i64 hh) (by go_simp) (b := false) (by go_simp)
  have f2 := keepf hb1 (p := ⟨w.heap.size, 2, none⟩) (u := .int .i64 tt) (by go_simp) (b := false) (by go_simp)
  have r0 := keepc hb1 (p := ⟨w.heap.size + 1, 0, none⟩) (u := .slice none 0 0) (by go_simp)
  have r1 := keepc hb1 (p := ⟨w.heap.size + 1, 1, none⟩) (u := .int .i64 0) (by go_simp)
  have r2 := keepc hb1 (p := ⟨w.heap.size + 1, 2, none⟩) (u := .int .i64 0) (by go_simp)
  have u0 := keepf hb1 (p := ⟨w.heap.size + 1, 0, none⟩) (u := .slice none 0 0) (by go_simp) (b := false) (by go_simp)
  have u1 := keepf hb1 (p := ⟨w.heap.size + 1, 1, none⟩) (u := .int .i64 0) (by go_simp) (b := false) (by go_simp)
  have u2 := keepf hb1 (p := ⟨w.heap.size + 1, 2, none⟩) (u := .int .i64 0) (by go_simp) (b := false) (by go_simp)
  have bw1 : Below w.heap.size w w1 := by (repeat first | exact bel0 | assumption | refine bel1 ?_ | refine bel2 ?_ | refine bel3 ?_ | refine belowT ?_ (by assumption) | refine bel5 ?_ (by simp; try omega))
  have z1 : w.heap.size + 1 < w1.heap.size := World.block_lt_of_cell? _ _ r0
  clear hb1 hok
  go_cut [12, 13] (fun v12 v13 wx => v12 = .int .i64 0 ∧ v13 = .int .i64 0 ∧ Below w1.heap.size w1 wx)
  case first =>
    refine wp_region_any (by kernel_rfl) ?_
    refine book_maps (w0 := w1) (kd := 12) rfl (by simp) rfl ((Below.refl _ _).drew) ?hd ?hs
    case hs =>
      intro L a' w' hI i o ho h0 hall
      have hi : i < 15 := (Array.getElem?_eq_some_iff.1 ho).1
      rcases (by omega : i = 0 ∨ i = 1 ∨ i = 2 ∨ i = 3 ∨ i = 4 ∨ i = 5 ∨ i = 6 ∨ i = 7 ∨ i = 8 ∨ i = 9 ∨ i = 10 ∨ i = 11 ∨ i = 12 ∨ i = 13 ∨ i = 14) with rfl | rfl | rfl | rfl | rfl | rfl | rfl | rfl | rfl | rfl | rfl | rfl | rfl | rfl | rfl
      · cases (show some _ = some o from ho)
        exact step0 rfl rfl rfl rfl hI h0
      · cases (show some _ = some o from ho)
        exact step1 rfl rfl rfl rfl hI h0 (hall ⟨0, .data⟩ (by simp) rfl)
      · cases (show some _ = some o from ho)
        exact step2 rfl rfl rfl rfl hI h0 (hall ⟨0, .data⟩ (by simp) rfl)
      · cases (show some _ = some o from ho)
        exact step3 rfl rfl rfl rfl hI h0 (hall ⟨0, .data⟩ (by simp) rfl) (hall ⟨1, .data⟩ (by simp) rfl) (hall ⟨2, .data⟩ (by simp) rfl)
      · cases (show some _ = some o from ho)
        exact step4 rfl rfl rfl rfl hI h0
      · cases (show some _ = some o from ho)
        exact step5 rfl rfl rfl rfl (by decide) hI h0 (hall ⟨3, .data⟩ (by simp) rfl) (hall ⟨4, .data⟩ (by simp) rfl)
      · cases (show some _ = some o from ho)
        exact step6 rfl rfl rfl rfl hI h0
      · cases (show some _ = some o from ho)
        exact step7 rfl rfl rfl rfl hI h0 (hall ⟨6, .data⟩ (by simp) rfl)
      · cases (show some _ = some o from ho)
        exact step8 rfl rfl rfl rfl hI h0 (hall ⟨6, .data⟩ (by simp) rfl)
      · cases (show some _ = some o from ho)
        exact step9 rfl rfl rfl rfl hI h0 (hall ⟨6, .data⟩ (by simp) rfl)
      · cases (show some _ = some o from ho)
        exact step10 rfl rfl rfl rfl hI h0 (hall ⟨6, .data⟩ (by simp) rfl) (hall ⟨7, .data⟩ (by simp) rfl) (hall ⟨8, .data⟩ (by simp) rfl) (hall ⟨9, .data⟩ (by simp) rfl)
      · cases (show some _ = some o from ho)
        exact step11 rfl rfl rfl rfl hI h0
      · cases (show some _ = some o from ho)
        exact step12 rfl rfl rfl rfl (by decide) hI h0 (hall ⟨10, .data⟩ (by simp) rfl) (hall ⟨11, .data⟩ (by simp) rfl)
      · cases (show some _ = some o from ho)
        exact step13 rfl rfl rfl rfl hI h0 (hall ⟨5, .data⟩ (by simp) rfl)
      · cases (show some _ = some o from ho)
        exact step14 rfl rfl rfl rfl hI h0 (hall ⟨12, .data⟩ (by simp) rfl)
    case hd =>
      rintro L a' w' ⟨v, hI⟩ hr
      have hz := hI.sz
      have g0 : L.getD 0 false = true := bit_done hr 0 _ rfl hz (by intro e he hb; simp at he; try (rcases he with rfl | rfl | rfl | rfl | rfl | rfl | rfl | rfl | rfl | rfl | rfl | rfl | rfl | rfl | rfl | rfl <;> first | assumption | cases hb))
      have g1 : L.getD 1 false = true := bit_done hr 1 _ rfl hz (by intro e he hb; simp at he; try (rcases he with rfl | rfl | rfl | rfl | rfl | rfl | rfl | rfl | rfl | rfl | rfl | rfl | rfl | rfl | rfl | rfl <;> first | assumption | cases hb))
      have g2 : L.getD 2 false = true := bit_done hr 2 _ rfl hz (by intro e he hb; simp at he; try (rcases he with rfl | rfl | rfl | rfl | rfl | rfl | rfl | rfl | rfl | rfl | rfl | rfl | rfl | rfl | rfl | rfl <;> first | assumption | cases hb))
      have g3 : L.getD 3 false = true := bit_done hr 3 _ rfl hz (by intro e he hb; simp at he; try (rcases he with rfl | rfl | rfl | rfl | rfl | rfl | rfl | rfl | rfl | rfl | rfl | rfl | rfl | rfl | rfl | rfl <;> first | assumption | cases hb))
      have g4 : L.getD 4 false = true := bit_done hr 4 _ rfl hz (by intro e he hb; simp at he; try (rcases he with rfl | rfl | rfl | rfl | rfl | rfl | rfl | rfl | rfl | rfl | rfl | rfl | rfl | rfl | rfl | rfl <;> first | assumption | cases hb))
      have g5 : L.getD 5 false = true := bit_done hr 5 _ rfl hz (by intro e he hb; simp at he; try (rcases he with rfl | rfl | rfl | rfl | rfl | rfl | rfl | rfl | rfl | rfl | rfl | rfl | rfl | rfl | rfl | rfl <;> first | assumption | cases hb))
      have g6 : L.getD 6 false = true := bit_done hr 6 _ rfl hz (by intro e he hb; simp at he; try (rcases he with rfl | rfl | rfl | rfl | rfl | rfl | rfl | rfl | rfl | rfl | rfl | rfl | rfl | rfl | rfl | rfl <;> first | assumption | cases hb))
      have g7 : L.getD 7 false = true := bit_done hr 7 _ rfl hz (by intro e he hb; simp at he; try (rcases he with rfl | rfl | rfl | rfl | rfl | rfl | rfl | rfl | rfl | rfl | rfl | rfl | rfl | rfl | rfl | rfl <;> first | assumption | cases hb))
      have g8 : L.getD 8 false = true := bit_done hr 8 _ rfl hz (by intro e he hb; simp at he; try (rcases he with rfl | rfl | rfl | rfl | rfl | rfl | rfl | rfl | rfl | rfl | rfl | rfl | rfl | rfl | rfl | rfl <;> first | assumption | cases hb))
      have g9 : L.getD 9 false = true := bit_done hr 9 _ rfl hz (by intro e he hb; simp at he; try (rcases he with rfl | rfl | rfl | rfl | rfl | rfl | rfl | rfl | rfl | rfl | rfl | rfl | rfl | rfl | rfl | rfl <;> first | assumption | cases hb))
      have g10 : L.getD 10 false = true := bit_done hr 10 _ rfl hz (by intro e he hb; simp at he; try (rcases he with rfl | rfl | rfl | rfl | rfl | rfl | rfl | rfl | rfl | rfl | rfl | rfl | rfl | rfl | rfl | rfl <;> first | assumption | cases hb))
      have g11 : L.getD 11 false = true := bit_done hr 11 _ rfl hz (by intro e he hb; simp at he; try (rcases he with rfl | rfl | rfl | rfl | rfl | rfl | rfl | rfl | rfl | rfl | rfl | rfl | rfl | rfl | rfl | rfl <;> first | assumption | cases hb))
      have g12 : L.getD 12 false = true := bit_done hr 12 _ rfl hz (by intro e he hb; simp at he; try (rcases he with rfl | rfl | rfl | rfl | rfl | rfl | rfl | rfl | rfl | rfl | rfl | rfl | rfl | rfl | rfl | rfl <;> first | assumption | cases hb))
      have g13 : L.getD 13 false = true := bit_done hr 13 _ rfl hz (by intro e he hb; simp at he; try (rcases he with rfl | rfl | rfl | rfl | rfl | rfl | rfl | rfl | rfl | rfl | rfl | rfl | rfl | rfl | rfl | rfl <;> first | assumption | cases hb))
      have g14 : L.getD 14 false = true := bit_done hr 14 _ rfl hz (by intro e he hb; simp at he; try (rcases he with rfl | rfl | rfl | rfl | rfl | rfl | rfl | rfl | rfl | rfl | rfl | rfl | rfl | rfl | rfl | rfl <;> first | assumption | cases hb))
      have v12 : v 12 = .int .i64 0 := by rw [hI.b13 g13]; rfl
      have v13 : v 13 = .int .i64 0 := by rw [hI.b14 g14]; rfl
      have bl := hI.bel
      rw [hI.act]
      clear hI hr g0 g1 g2 g3 g4 g5 g6 g7 g8 g9 g10 g11 g12 g13 g14
      simp [laid, over, SB]
      rw [v12, v13]
      go_wp2_with fail
      go_meet
      case rel => exact ⟨rfl, rfl, bl⟩

  obtain ⟨rfl, rfl, hbc⟩ := hcut
  replace b0 := keepc hbc b0
  replace b1 := keepc hbc b1
  replace b2 := keepc hbc b2
  replace f0 : wc.frozen? _ = false := (hbc.frozen (p := ⟨w.heap.size, 0, none⟩) (by simp; omega)).trans f0
  replace f1 : wc.frozen? _ = false := (hbc.frozen (p := ⟨w.heap.size, 1, none⟩) (by simp; omega)).trans f1
  replace f2 : wc.frozen? _ = false := (hbc.frozen (p := ⟨w.heap.size, 2, none⟩) (by simp; omega)).trans f2
  replace u0 : wc.frozen? _ = false := (hbc.frozen (p := ⟨w.heap.size + 1, 0, none⟩) (by simp; omega)).trans u0
  replace u1 : wc.frozen? _ = false := (hbc.frozen (p := ⟨w.heap.size + 1, 1, none⟩) (by simp; omega)).trans u1
  replace u2 : wc.frozen? _ = false := (hbc.frozen (p := ⟨w.heap.size + 1, 2, none⟩) (by simp; omega)).trans u2
  replace r0 := keepc hbc r0
  replace r1 := keepc hbc r1
  replace r2 := keepc hbc r2
  replace bw1 := belowT bw1 hbc
  have ek := keepc bw1 hcell
  have zc : w.heap.size + 1 < wc.heap.size := World.block_lt_of_cell? _ _ r0
  clear hbc z1


  by_cases hkz : kw = 0
  · have HF := hide (show clearB ⟨[x, y, z], hh, tt⟩ who = (zeroB, 8) by simp [clearB, HP.out, HKW.out, hkz])
    subst hkz
    go_wp2_with (first | (go_at_call 60; refine (badB_c _ _).mono ?_; rintro e w9 ⟨rfl, hb9⟩; (replace r0 := keepc hb9 (p := ⟨w.heap.size + 1, 0, none⟩) (u := .slice none 0 0) (by first | exact r0 | go_simp)); (replace r1 := keepc hb9 (p := ⟨w.heap.size + 1, 1, none⟩) (u := .int .i64 0) (by first | exact r1 | go_simp)); (replace r2 := keepc hb9 (p := ⟨w.heap.size + 1, 2, none⟩) (u := .int .i64 0) (by first | exact r2 | go_simp)); (replace u0 : w9.frozen? ⟨w.heap.size + 1, 0, none⟩ = false := (hb9.frozen (p := ⟨w.heap.size + 1, 0, none⟩) (by first | (simp; done) | (simp; omega) | (simp [World.setCell]; omega))).trans (by first | exact u0 | go_simp)); (replace u1 : w9.frozen? ⟨w.heap.size + 1, 1, none⟩ = false := (hb9.frozen (p := ⟨w.heap.size + 1, 1, none⟩) (by first | (simp; done) | (simp; omega) | (simp [World.setCell]; omega))).trans (by first | exact u1 | go_simp)); (replace u2 : w9.frozen? ⟨w.heap.size + 1, 2, none⟩ = false := (hb9.frozen (p := ⟨w.heap.size + 1, 2, none⟩) (by first | (simp; done) | (simp; omega) | (simp [World.setCell]; omega))).trans (by first | exact u2 | go_simp))))
    refine bodyPost_ret (v := .tuple #[.agg #[.slice none 0 0, .int .i64 0, .int .i64 0], .int .i64 8]) (by simp [results, Tryz.results37, go_sem, r0, r1, r2]) rfl ⟨⟨none, 0, 0, by rw [HF.out]; rfl, by rw [HF.out]; exact Ints.nilSlice _, fun x e => by cases e⟩, ?_⟩
    (repeat first | exact bel0 | assumption | refine bel1 ?_ | refine bel2 ?_ | refine bel3 ?_ | refine belowT ?_ (by assumption) | refine bel5 ?_ (by simp; try omega))
  · have hkz' : (kw == 0) = false := by simpa using hkz
    have HF := hide (show clearB ⟨[x, y, z], hh, tt⟩ who = (freshB, 0) by simp [clearB, HP.out, HKW.out, hkz])
    clear hkz
    cases hz : hh == (who : Int)
    all_goals
      go_wp2_with (first | (go_at_call 61; refine (CloneI_c g off c x y z _ (h.below bw1 (Nat.le_refl _))).mono ?_; rintro e w4 ⟨⟨g2, cap, rfl, hm⟩, hb4⟩; (replace b0 := keepc hb4 b0); (replace b1 := keepc hb4 b1); (replace b2 := keepc hb4 b2); (replace r0 := keepc hb4 r0); (replace r1 := keepc hb4 r1); (replace r2 := keepc hb4 r2); (replace f0 : w4.frozen? _ = false := (hb4.frozen (p := ⟨w.heap.size, 0, none⟩) (by (first | (simp; done) | (simp; omega)))).trans f0); (replace f1 : w4.frozen? _ = false := (hb4.frozen (p := ⟨w.heap.size, 1, none⟩) (by (first | (simp; done) | (simp; omega)))).trans f1); (replace f2 : w4.frozen? _ = false := (hb4.frozen (p := ⟨w.heap.size, 2, none⟩) (by (first | (simp; done) | (simp; omega)))).trans f2); (replace u0 : w4.frozen? _ = false := (hb4.frozen (p := ⟨w.heap.size + 1, 0, none⟩) (by (first | (simp; done) | (simp; omega)))).trans u0); (replace u1 : w4.frozen? _ = false := (hb4.frozen (p := ⟨w.heap.size + 1, 1, none⟩) (by (first | (simp; done) | (simp; omega)))).trans u1); (replace u2 : w4.frozen? _ = false := (hb4.frozen (p := ⟨w.heap.size + 1, 2, none⟩) (by (first | (simp; done) | (simp; omega)))).trans u2); (have m0 := hm.cells who hw); (have s0 := hm.soft who hw); (have hgb := hm.base); (have hgl := hm.lt); (have bw4 := belowT bw1 hb4); (have gn1 : g2 ≠ w.heap.size := by omega); (have gn2 : g2 ≠ w.heap.size + 1 := by omega); (have gn3 : w.heap.size ≠ g2 := by omega); (have gn4 : w.heap.size + 1 ≠ g2 := by omega); (have lg : w.heap.size ≤ g2 := by omega); (have z4 : w.heap.size + 1 < w4.heap.size := World.block_lt_of_cell? _ _ r0)))
      refine (FreshBook_c _).mono ?_
      rintro e w5 ⟨⟨a5, c5, rfl, i5, hf5⟩, hb5⟩
      replace r0 := keepc hb5 (p := ⟨w.heap.size + 1, 0, none⟩) (u := .slice none 0 0) (by go_simp)
      replace r1 := keepc hb5 (p := ⟨w.heap.size + 1, 1, none⟩) (u := .int .i64 0) (by go_simp)
      replace r2 := keepc hb5 (p := ⟨w.heap.size + 1, 2, none⟩) (u := .int .i64 0) (by go_simp)
      replace u0 : w5.frozen? ⟨w.heap.size + 1, 0, none⟩ = false := (hb5.frozen (p := ⟨w.heap.size + 1, 0, none⟩) (by first | (simp; done) | (simp; omega) | (simp [World.setCell]; omega))).trans (by go_simp)
      replace u1 : w5.frozen? ⟨w.heap.size + 1, 1, none⟩ = false := (hb5.frozen (p := ⟨w.heap.size + 1, 1, none⟩) (by first | (simp; done) | (simp; omega) | (simp [World.setCell]; omega))).trans (by go_simp)
      replace u2 : w5.frozen? ⟨w.heap.size + 1, 2, none⟩ = false := (hb5.frozen (p := ⟨w.heap.size + 1, 2, none⟩) (by first | (simp; done) | (simp; omega) | (simp [World.setCell]; omega))).trans (by go_simp)
      have bw5 : Below w.heap.size w w5 := belowT (bw4.setCell (p := ⟨w.heap.size, 0, none⟩) (Nat.le_refl _) _) hb5
      have hne : ∀ q, a5 = some q → q.block ≠ w.heap.size + 1 := fun q e => by have h1 := hf5 q e; simp [World.setCell] at h1; omega
      have i6 := ((i5.setCell ⟨w.heap.size + 1, 0, none⟩ (.slice a5 3 c5) hne).setCell ⟨w.heap.size + 1, 1, none⟩ (.int .i64 (-1)) hne).setCell ⟨w.heap.size + 1, 2, none⟩ (.int .i64 0) hne
      have HF5 := hide (show ∀ q, a5 = some q → w.heap.size ≤ q.block from fun q e => by have h1 := hf5 q e; simp [World.setCell] at h1; omega)
      simp only [bookV, freshB]
      clear hb5 i5 hf5
      go_wp2
      refine bodyPost_ret (v := .tuple #[.agg #[.slice a5 3 c5, .int .i64 (-1), .int .i64 0], .int .i64 0]) (by simp [results, Tryz.results37, go_sem, r0, r1, r2]) rfl ⟨⟨a5, 3, c5, by rw [HF.out]; rfl, ?_, HF5.out⟩, ?_⟩
      · rw [HF.out]
        exact i6
      · repeat (refine Below.setCell ?_ (by first | exact Nat.le_refl _ | exact Nat.le_succ _ | exact lg) _)
        exact bw5

end Go.Proofs.YtkamnbigfdbgbaaGreatDoor
