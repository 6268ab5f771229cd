/- The contract of the document's own OnBook at Preempt; no condition but that the keys read as a list. -/
import Derived.Test.YtkamnbigfdbgbaaGreatDoorDeskSaysG25
namespace Go.Proofs.YtkamnbigfdbgbaaGreatDoor
open Go.RowKit
set_option linter.unusedVariables false
set_option maxRecDepth 100000
set_option linter.unusedSimpArgs false

/-- Key x of hand i, when the first k have been looked at. -/
def sk (who n : Int) (k i : Nat) (x : Int) : Int := if i < k ∧ x = n ∧ (i : Int) ≠ who then 0 else x
def S3 (who n x y z : Int) (k : Nat) : List Int := [sk who n k 0 x, sk who n k 1 y, sk who n k 2 z]
def ho3 (who n x y z hh : Int) (k : Nat) : Int := if (hh = 0 ∧ 0 < k ∧ x = n ∨ hh = 1 ∧ 1 < k ∧ y = n ∨ hh = 2 ∧ 2 < k ∧ z = n) ∧ hh ≠ who then who else hh

theorem S3_0 (who n x y z : Int) : S3 who n x y z 0 = [x, y, z] := by simp [S3, sk]
theorem S3_3 (who n x y z : Int) : S3 who n x y z 3 = strike [x, y, z] who n := by simp [S3, sk, strike, List.mapIdx_cons]
theorem ho3_0 (who n x y z hh : Int) : ho3 who n x y z hh 0 = hh := by simp [ho3]
theorem S3_at (who n x y z : Int) (k : Nat) (hk : k < 3) : (S3 who n x y z k).getD k 0 = [x, y, z].getD k 0 := by
  rcases (by omega : k = 0 ∨ k = 1 ∨ k = 2) with rfl | rfl | rfl <;> simp [S3, sk]
theorem S3_same (who n x y z : Int) (k : Nat) (hk : k < 3) (h : ¬ ([x, y, z].getD k 0 = n ∧ (k : Int) ≠ who)) : S3 who n x y z (k + 1) = S3 who n x y z k := by
  rcases (by omega : k = 0 ∨ k = 1 ∨ k = 2) with rfl | rfl | rfl <;> simp [S3, sk] at h ⊢ <;> grind
theorem S3_set (who n x y z : Int) (k : Nat) (hk : k < 3) (h : [x, y, z].getD k 0 = n) (h2 : (k : Int) ≠ who) : S3 who n x y z (k + 1) = (S3 who n x y z k).set k 0 := by
  rcases (by omega : k = 0 ∨ k = 1 ∨ k = 2) with rfl | rfl | rfl <;> simp [S3, sk] at h h2 ⊢ <;> grind
theorem ho3_same (who n x y z hh : Int) (k : Nat) (hk : k < 3) (h : ¬ ([x, y, z].getD k 0 = n ∧ (k : Int) ≠ who)) : ho3 who n x y z hh (k + 1) = ho3 who n x y z hh k := by
  rcases (by omega : k = 0 ∨ k = 1 ∨ k = 2) with rfl | rfl | rfl <;> simp [ho3] at h ⊢ <;> grind
theorem ho3_not (who n x y z hh : Int) (k : Nat) (hk : k < 3) (h : (k : Int) ≠ ho3 who n x y z hh k) (h2 : (k : Int) ≠ who) : ho3 who n x y z hh (k + 1) = ho3 who n x y z hh k := by
  rcases (by omega : k = 0 ∨ k = 1 ∨ k = 2) with rfl | rfl | rfl <;> simp [ho3] at h ⊢ <;> grind
theorem ho3_set (who n x y z hh : Int) (k : Nat) (hk : k < 3) (h : [x, y, z].getD k 0 = n) (h2 : (k : Int) ≠ who) (h3 : (k : Int) = ho3 who n x y z hh k) : ho3 who n x y z hh (k + 1) = who := by
  rcases (by omega : k = 0 ∨ k = 1 ∨ k = 2) with rfl | rfl | rfl <;> simp [ho3] at h h3 ⊢ <;> grind


/-- What the loop leaves as it was, and what it has done. -/
structure PI (s g2 cap : Nat) (l : List Int) (ho tt : Int) (wr : World) : Prop where
  km : KMine wr s g2 cap l
  b0 : wr.cell? ⟨s, 0, none⟩ = some (.slice (some ⟨g2, 0, none⟩) 3 cap)
  b1 : wr.cell? ⟨s, 1, none⟩ = some (.int .i64 ho)
  b2 : wr.cell? ⟨s, 2, none⟩ = some (.int .i64 tt)
  f0 : wr.frozen? ⟨s, 0, none⟩ = false
  f1 : wr.frozen? ⟨s, 1, none⟩ = false
  f2 : wr.frozen? ⟨s, 2, none⟩ = false
  r0 : wr.cell? ⟨s + 1, 0, none⟩ = some (.slice none 0 0)
  r1 : wr.cell? ⟨s + 1, 1, none⟩ = some (.int .i64 0)
  r2 : wr.cell? ⟨s + 1, 2, none⟩ = some (.int .i64 0)
  u0 : wr.frozen? ⟨s + 1, 0, none⟩ = false
  u1 : wr.frozen? ⟨s + 1, 1, none⟩ = false
  u2 : wr.frozen? ⟨s + 1, 2, none⟩ = false

theorem PI.key {s g2 cap : Nat} {l : List Int} {ho tt : Int} {wr : World} (h : PI s g2 cap l ho tt wr) (i : Nat) (hi : i < l.length) (x : Int) (hx : -9223372036854775808 ≤ x ∧ x ≤ 9223372036854775807) (h1 : s ≠ g2) (h2 : s + 1 ≠ g2) : PI s g2 cap (l.set i x) ho tt (wr.setCell ⟨g2, i, none⟩ (.int .i64 x)) := by
  have o : ∀ b j, b ≠ g2 → (wr.setCell ⟨g2, i, none⟩ (.int .i64 x)).cell? ⟨b, j, none⟩ = wr.cell? ⟨b, j, none⟩ := fun b j hb => World.cell?_setCell_other _ _ _ _ (by simp [Ne.symm hb])
  exact ⟨h.km.set i hi x hx, by rw [o _ _ h1]; exact h.b0, by rw [o _ _ h1]; exact h.b1, by rw [o _ _ h1]; exact h.b2, by rw [World.frozen?_setCell]; exact h.f0, by rw [World.frozen?_setCell]; exact h.f1, by rw [World.frozen?_setCell]; exact h.f2,
    by rw [o _ _ h2]; exact h.r0, by rw [o _ _ h2]; exact h.r1, by rw [o _ _ h2]; exact h.r2, by rw [World.frozen?_setCell]; exact h.u0, by rw [World.frozen?_setCell]; exact h.u1, by rw [World.frozen?_setCell]; exact h.u2⟩

theorem PI.holder {s g2 cap : Nat} {l : List Int} {ho tt : Int} {wr : World} (h : PI s g2 cap l ho tt wr) (x : Int) (h1 : s ≠ g2) : PI s g2 cap l x tt (wr.setCell ⟨s, 1, none⟩ (.int .i64 x)) := by
  have o : ∀ b j, ¬ (b = s ∧ j = 1) → (wr.setCell ⟨s, 1, none⟩ (.int .i64 x)).cell? ⟨b, j, none⟩ = wr.cell? ⟨b, j, none⟩ := fun b j hb => World.cell?_setCell_other _ _ _ _ (by simp; intro e1 e2; exact hb ⟨e1.symm, e2.symm⟩)
  exact ⟨h.km.other s 1 _ h1, by rw [o _ _ (by omega)]; exact h.b0, World.cell?_setCell_same _ _ _ h.b1, by rw [o _ _ (by omega)]; exact h.b2, by rw [World.frozen?_setCell]; exact h.f0, by rw [World.frozen?_setCell]; exact h.f1, by rw [World.frozen?_setCell]; exact h.f2,
    by rw [o _ _ (by omega)]; exact h.r0, by rw [o _ _ (by omega)]; exact h.r1, by rw [o _ _ (by omega)]; exact h.r2, by rw [World.frozen?_setCell]; exact h.u0, by rw [World.frozen?_setCell]; exact h.u1, by rw [World.frozen?_setCell]; exact h.u2⟩

set_option maxRecDepth 100000 in
set_option maxHeartbeats 4000000 in
theorem OnB_pre (a : Option Addr) (c : Nat) (x y z hh tt : Int) (who : Nat) (key : Int) (w : World) (h : Ints w a 3 c [x, y, z]) (hok : checkB ⟨[x, y, z], hh, tt⟩ = 0) (hw : who < 3) :
    Calls Tryz.prog 37 #[bookV a 3 c ⟨[x, y, z], hh, tt⟩, .int .i64 11, .int .i64 who, .int .i64 key] w fun e w' =>
      (∃ a' n' c', e = .returned (.tuple #[bookV a' n' c' (preemptB ⟨[x, y, z], hh, tt⟩ who key).1, .int .i64 (preemptB ⟨[x, y, z], hh, tt⟩ who key).2]) ∧ Ints w' a' n' c' (preemptB ⟨[x, y, z], hh, tt⟩ who key).1.k ∧ ∀ x, a' = some x → w.heap.size ≤ x.block) ∧ Below w.heap.size w w' := by
  have hpre : preB ⟨[x, y, z], hh, tt⟩ who = 0 := by simp [preB, hok, inB]; omega
  have HP := hide hpre
  clear hpre
  have HK := hide hok
  have hin : inB (who : Int) 0 2 = true := by simp [inB]; omega
  have hw' : (who : Int) < 3 := by omega
  unfold bookV
  obtain ⟨g, off, rfl, _, _, _⟩ := h.three
  have hcell : w.cell? ⟨g, off + who, none⟩ = some (.int .i64 ([x, y, z].getD who 0)) := by
    rcases h.row with h0 | ⟨g', off', ha, _, hr⟩
    · omega
    · cases ha; exact hr who hw
  generalize hkw : [x, y, z].getD who 0 = kw at hcell
  have HKW := hide (show keyOf ⟨[x, y, z], hh, tt⟩ who = kw from hkw)
  clear hkw
  go_enter Tryz.func37, Tryz.ntmps37
  go_wp2_with fail
  refine (CheckBook_c _ 3 c ⟨[x, y, z], hh, tt⟩ _ (h.below (B := w.heap.size) (by (repeat first | exact bel0 | assumption | refine bel1 ?_ | refine bel2 ?_ | refine bel3 ?_ | refine belowT ?_ (by assumption) | refine bel5 ?_ (by simp; try omega))) (Nat.le_refl _))).mono ?_
  rintro e w1 ⟨rfl, hb1⟩
  rw [HK.out]
  go_wp2_with (go_at_call 26; refine (in_c _ _ _ _).mono ?_; rintro e w1 ⟨rfl, rfl⟩)
  have b0 := keepc hb1 (p := ⟨w.heap.size, 0, none⟩) (u := .slice (some ⟨g, off, none⟩) 3 c) (by go_simp)
  have b1 := keepc hb1 (p := ⟨w.heap.size, 1, none⟩) (u := .int .i64 hh) (by go_simp)
  have b2 := keepc hb1 (p := ⟨w.heap.size, 2, none⟩) (u := .int .i64 tt) (by go_simp)
  have f0 := keepf hb1 (p := ⟨w.heap.size, 0, none⟩) (u := .slice (some ⟨g, off, none⟩) 3 c) (by go_simp) (b := false) (by go_simp)
  have f1 := keepf hb1 (p := ⟨w.heap.size, 1, none⟩) (u := .int .i64 hh) (by go_simp) (b := false) (by go_simp)
  have f2 := keepf hb1 (p := ⟨w.heap.size, 2, none⟩) (u := .int .i64 tt) (by go_simp) (b := false) (by go_simp)
  have r0 := keepc hb1 (p := ⟨w.heap.size + 1, 0, none⟩) (u := .slice none 0 0) (by go_simp)
  have r1 := keepc hb1 (p := ⟨w.heap.size + 1, 1, none⟩) (u := .int .i64 0) (by go_simp)
  have r2 := keepc hb1 (p := ⟨w.heap.size + 1, 2, none⟩) (u := .int .i64 0) (by go_simp)
  have u0 := keepf hb1 (p := ⟨w.heap.size + 1, 0, none⟩) (u := .slice none 0 0) (by go_simp) (b := false) (by go_simp)
  have u1 := keepf hb1 (p := ⟨w.heap.size + 1, 1, none⟩) (u := .int .i64 0) (by go_simp) (b := false) (by go_simp)
  have u2 := keepf hb1 (p := ⟨w.heap.size + 1, 2, none⟩) (u := .int .i64 0) (by go_simp) (b := false) (by go_simp)
  have bw1 : Below w.heap.size w w1 := by (repeat first | exact bel0 | assumption | refine bel1 ?_ | refine bel2 ?_ | refine bel3 ?_ | refine belowT ?_ (by assumption) | refine bel5 ?_ (by simp; try omega))
  have z1 : w.heap.size + 1 < w1.heap.size := World.block_lt_of_cell? _ _ r0
  clear hb1 hok
  go_cut [12, 13] (fun v12 v13 wx => v12 = .int .i64 1 ∧ v13 = .int .i64 9 ∧ Below w1.heap.size w1 wx)
  case first =>
    refine wp_region_any (by kernel_rfl) ?_
    refine book_maps (w0 := w1) (kd := 11) rfl (by simp) rfl ((Below.refl _ _).drew) ?hd ?hs
    case hs =>
      intro L a' w' hI i o ho h0 hall
      have hi : i < 15 := (Array.getElem?_eq_some_iff.1 ho).1
      rcases (by omega : i = 0 ∨ i = 1 ∨ i = 2 ∨ i = 3 ∨ i = 4 ∨ i = 5 ∨ i = 6 ∨ i = 7 ∨ i = 8 ∨ i = 9 ∨ i = 10 ∨ i = 11 ∨ i = 12 ∨ i = 13 ∨ i = 14) with rfl | rfl | rfl | rfl | rfl | rfl | rfl | rfl | rfl | rfl | rfl | rfl | rfl | rfl | rfl
      · cases (show some _ = some o from ho)
        exact step0 rfl rfl rfl rfl hI h0
      · cases (show some _ = some o from ho)
        exact step1 rfl rfl rfl rfl hI h0 (hall ⟨0, .data⟩ (by simp) rfl)
      · cases (show some _ = some o from ho)
        exact step2 rfl rfl rfl rfl hI h0 (hall ⟨0, .data⟩ (by simp) rfl)
      · cases (show some _ = some o from ho)
        exact step3 rfl rfl rfl rfl hI h0 (hall ⟨0, .data⟩ (by simp) rfl) (hall ⟨1, .data⟩ (by simp) rfl) (hall ⟨2, .data⟩ (by simp) rfl)
      · cases (show some _ = some o from ho)
        exact step4 rfl rfl rfl rfl hI h0
      · cases (show some _ = some o from ho)
        exact step5 rfl rfl rfl rfl (by decide) hI h0 (hall ⟨3, .data⟩ (by simp) rfl) (hall ⟨4, .data⟩ (by simp) rfl)
      · cases (show some _ = some o from ho)
        exact step6 rfl rfl rfl rfl hI h0
      · cases (show some _ = some o from ho)
        exact step7 rfl rfl rfl rfl hI h0 (hall ⟨6, .data⟩ (by simp) rfl)
      · cases (show some _ = some o from ho)
        exact step8 rfl rfl rfl rfl hI h0 (hall ⟨6, .data⟩ (by simp) rfl)
      · cases (show some _ = some o from ho)
        exact step9 rfl rfl rfl rfl hI h0 (hall ⟨6, .data⟩ (by simp) rfl)
      · cases (show some _ = some o from ho)
        exact step10 rfl rfl rfl rfl hI h0 (hall ⟨6, .data⟩ (by simp) rfl) (hall ⟨7, .data⟩ (by simp) rfl) (hall ⟨8, .data⟩ (by simp) rfl) (hall ⟨9, .data⟩ (by simp) rfl)
      · cases (show some _ = some o from ho)
        exact step11 rfl rfl rfl rfl hI h0
      · cases (show some _ = some o from ho)
        exact step12 rfl rfl rfl rfl (by decide) hI h0 (hall ⟨10, .data⟩ (by simp) rfl) (hall ⟨11, .data⟩ (by simp) rfl)
      · cases (show some _ = some o from ho)
        exact step13 rfl rfl rfl rfl hI h0 (hall ⟨5, .data⟩ (by simp) rfl)
      · cases (show some _ = some o from ho)
        exact step14 rfl rfl rfl rfl hI h0 (hall ⟨12, .data⟩ (by simp) rfl)
    case hd =>
      rintro L a' w' ⟨v, hI⟩ hr
      have hz := hI.sz
      have g0 : L.getD 0 false = true := bit_done hr 0 _ rfl hz (by intro e he hb; simp at he; try (rcases he with rfl | rfl | rfl | rfl | rfl | rfl | rfl | rfl | rfl | rfl | rfl | rfl | rfl | rfl | rfl | rfl <;> first | assumption | cases hb))
      have g1 : L.getD 1 false = true := bit_done hr 1 _ rfl hz (by intro e he hb; simp at he; try (rcases he with rfl | rfl | rfl | rfl | rfl | rfl | rfl | rfl | rfl | rfl | rfl | rfl | rfl | rfl | rfl | rfl <;> first | assumption | cases hb))
      have g2 : L.getD 2 false = true := bit_done hr 2 _ rfl hz (by intro e he hb; simp at he; try (rcases he with rfl | rfl | rfl | rfl | rfl | rfl | rfl | rfl | rfl | rfl | rfl | rfl | rfl | rfl | rfl | rfl <;> first | assumption | cases hb))
      have g3 : L.getD 3 false = true := bit_done hr 3 _ rfl hz (by intro e he hb; simp at he; try (rcases he with rfl | rfl | rfl | rfl | rfl | rfl | rfl | rfl | rfl | rfl | rfl | rfl | rfl | rfl | rfl | rfl <;> first | assumption | cases hb))
      have g4 : L.getD 4 false = true := bit_done hr 4 _ rfl hz (by intro e he hb; simp at he; try (rcases he with rfl | rfl | rfl | rfl | rfl | rfl | rfl | rfl | rfl | rfl | rfl | rfl | rfl | rfl | rfl | rfl <;> first | assumption | cases hb))
      have g5 : L.getD 5 false = true := bit_done hr 5 _ rfl hz (by intro e he hb; simp at he; try (rcases he with rfl | rfl | rfl | rfl | rfl | rfl | rfl | rfl | rfl | rfl | rfl | rfl | rfl | rfl | rfl | rfl <;> first | assumption | cases hb))
      have g6 : L.getD 6 false = true := bit_done hr 6 _ rfl hz (by intro e he hb; simp at he; try (rcases he with rfl | rfl | rfl | rfl | rfl | rfl | rfl | rfl | rfl | rfl | rfl | rfl | rfl | rfl | rfl | rfl <;> first | assumption | cases hb))
      have g7 : L.getD 7 false = true := bit_done hr 7 _ rfl hz (by intro e he hb; simp at he; try (rcases he with rfl | rfl | rfl | rfl | rfl | rfl | rfl | rfl | rfl | rfl | rfl | rfl | rfl | rfl | rfl | rfl <;> first | assumption | cases hb))
      have g8 : L.getD 8 false = true := bit_done hr 8 _ rfl hz (by intro e he hb; simp at he; try (rcases he with rfl | rfl | rfl | rfl | rfl | rfl | rfl | rfl | rfl | rfl | rfl | rfl | rfl | rfl | rfl | rfl <;> first | assumption | cases hb))
      have g9 : L.getD 9 false = true := bit_done hr 9 _ rfl hz (by intro e he hb; simp at he; try (rcases he with rfl | rfl | rfl | rfl | rfl | rfl | rfl | rfl | rfl | rfl | rfl | rfl | rfl | rfl | rfl | rfl <;> first | assumption | cases hb))
      have g10 : L.getD 10 false = true := bit_done hr 10 _ rfl hz (by intro e he hb; simp at he; try (rcases he with rfl | rfl | rfl | rfl | rfl | rfl | rfl | rfl | rfl | rfl | rfl | rfl | rfl | rfl | rfl | rfl <;> first | assumption | cases hb))
      have g11 : L.getD 11 false = true := bit_done hr 11 _ rfl hz (by intro e he hb; simp at he; try (rcases he with rfl | rfl | rfl | rfl | rfl | rfl | rfl | rfl | rfl | rfl | rfl | rfl | rfl | rfl | rfl | rfl <;> first | assumption | cases hb))
      have g12 : L.getD 12 false = true := bit_done hr 12 _ rfl hz (by intro e he hb; simp at he; try (rcases he with rfl | rfl | rfl | rfl | rfl | rfl | rfl | rfl | rfl | rfl | rfl | rfl | rfl | rfl | rfl | rfl <;> first | assumption | cases hb))
      have g13 : L.getD 13 false = true := bit_done hr 13 _ rfl hz (by intro e he hb; simp at he; try (rcases he with rfl | rfl | rfl | rfl | rfl | rfl | rfl | rfl | rfl | rfl | rfl | rfl | rfl | rfl | rfl | rfl <;> first | assumption | cases hb))
      have g14 : L.getD 14 false = true := bit_done hr 14 _ rfl hz (by intro e he hb; simp at he; try (rcases he with rfl | rfl | rfl | rfl | rfl | rfl | rfl | rfl | rfl | rfl | rfl | rfl | rfl | rfl | rfl | rfl <;> first | assumption | cases hb))
      have v12 : v 12 = .int .i64 1 := by rw [hI.b13 g13]; rfl
      have v13 : v 13 = .int .i64 9 := by rw [hI.b14 g14]; rfl
      have bl := hI.bel
      rw [hI.act]
      clear hI hr g0 g1 g2 g3 g4 g5 g6 g7 g8 g9 g10 g11 g12 g13 g14
      simp [laid, over, SB]
      rw [v12, v13]
      go_wp2_with fail
      go_meet
      case rel => exact ⟨rfl, rfl, bl⟩

  obtain ⟨rfl, rfl, hbc⟩ := hcut
  replace b0 := keepc hbc b0
  replace b1 := keepc hbc b1
  replace b2 := keepc hbc b2
  replace f0 : wc.frozen? _ = false := (hbc.frozen (p := ⟨w.heap.size, 0, none⟩) (by simp; omega)).trans f0
  replace f1 : wc.frozen? _ = false := (hbc.frozen (p := ⟨w.heap.size, 1, none⟩) (by simp; omega)).trans f1
  replace f2 : wc.frozen? _ = false := (hbc.frozen (p := ⟨w.heap.size, 2, none⟩) (by simp; omega)).trans f2
  replace u0 : wc.frozen? _ = false := (hbc.frozen (p := ⟨w.heap.size + 1, 0, none⟩) (by simp; omega)).trans u0
  replace u1 : wc.frozen? _ = false := (hbc.frozen (p := ⟨w.heap.size + 1, 1, none⟩) (by simp; omega)).trans u1
  replace u2 : wc.frozen? _ = false := (hbc.frozen (p := ⟨w.heap.size + 1, 2, none⟩) (by simp; omega)).trans u2
  replace r0 := keepc hbc r0
  replace r1 := keepc hbc r1
  replace r2 := keepc hbc r2
  replace bw1 := belowT bw1 hbc
  have ek := keepc bw1 hcell
  have zc : w.heap.size + 1 < wc.heap.size := World.block_lt_of_cell? _ _ r0
  clear hbc z1


  cases hk : inB key 1 9
  · have HF := hide (show preemptB ⟨[x, y, z], hh, tt⟩ who key = (zeroB, 3) by simp [preemptB, HP.out, hk])
    go_wp2_with (first | (go_at_call 26; refine (in_c _ _ _ _).mono ?_; rintro e wc ⟨rfl, rfl⟩) | (go_at_call 60; refine (badB_c _ _).mono ?_; rintro e w9 ⟨rfl, hb9⟩; (replace r0 := keepc hb9 (p := ⟨w.heap.size + 1, 0, none⟩) (u := .slice none 0 0) (by first | exact r0 | go_simp)); (replace r1 := keepc hb9 (p := ⟨w.heap.size + 1, 1, none⟩) (u := .int .i64 0) (by first | exact r1 | go_simp)); (replace r2 := keepc hb9 (p := ⟨w.heap.size + 1, 2, none⟩) (u := .int .i64 0) (by first | exact r2 | go_simp)); (replace u0 : w9.frozen? ⟨w.heap.size + 1, 0, none⟩ = false := (hb9.frozen (p := ⟨w.heap.size + 1, 0, none⟩) (by first | (simp; done) | (simp; omega) | (simp [World.setCell]; omega))).trans (by first | exact u0 | go_simp)); (replace u1 : w9.frozen? ⟨w.heap.size + 1, 1, none⟩ = false := (hb9.frozen (p := ⟨w.heap.size + 1, 1, none⟩) (by first | (simp; done) | (simp; omega) | (simp [World.setCell]; omega))).trans (by first | exact u1 | go_simp)); (replace u2 : w9.frozen? ⟨w.heap.size + 1, 2, none⟩ = false := (hb9.frozen (p := ⟨w.heap.size + 1, 2, none⟩) (by first | (simp; done) | (simp; omega) | (simp [World.setCell]; omega))).trans (by first | exact u2 | go_simp))))
    refine bodyPost_ret (v := .tuple #[.agg #[.slice none 0 0, .int .i64 0, .int .i64 0], .int .i64 3]) (by simp [results, Tryz.results37, go_sem, r0, r1, r2]) rfl ⟨⟨none, 0, 0, by rw [HF.out]; rfl, by rw [HF.out]; exact Ints.nilSlice _, fun x e => by cases e⟩, ?_⟩
    (repeat first | exact bel0 | assumption | refine bel1 ?_ | refine bel2 ?_ | refine bel3 ?_ | refine belowT ?_ (by assumption) | refine bel5 ?_ (by simp; try omega))
  · by_cases hkz : kw = 0
    · have HF := hide (show preemptB ⟨[x, y, z], hh, tt⟩ who key = (zeroB, 8) by simp [preemptB, HP.out, hk, HKW.out, hkz])
      subst hkz
      go_wp2_with (first | (go_at_call 26; refine (in_c _ _ _ _).mono ?_; rintro e wc ⟨rfl, rfl⟩) | (go_at_call 60; refine (badB_c _ _).mono ?_; rintro e w9 ⟨rfl, hb9⟩; (replace r0 := keepc hb9 (p := ⟨w.heap.size + 1, 0, none⟩) (u := .slice none 0 0) (by first | exact r0 | go_simp)); (replace r1 := keepc hb9 (p := ⟨w.heap.size + 1, 1, none⟩) (u := .int .i64 0) (by first | exact r1 | go_simp)); (replace r2 := keepc hb9 (p := ⟨w.heap.size + 1, 2, none⟩) (u := .int .i64 0) (by first | exact r2 | go_simp)); (replace u0 : w9.frozen? ⟨w.heap.size + 1, 0, none⟩ = false := (hb9.frozen (p := ⟨w.heap.size + 1, 0, none⟩) (by first | (simp; done) | (simp; omega) | (simp [World.setCell]; omega))).trans (by first | exact u0 | go_simp)); (replace u1 : w9.frozen? ⟨w.heap.size + 1, 1, none⟩ = false := (hb9.frozen (p := ⟨w.heap.size + 1, 1, none⟩) (by first | (simp; done) | (simp; omega) | (simp [World.setCell]; omega))).trans (by first | exact u1 | go_simp)); (replace u2 : w9.frozen? ⟨w.heap.size + 1, 2, none⟩ = false := (hb9.frozen (p := ⟨w.heap.size + 1, 2, none⟩) (by first | (simp; done) | (simp; omega) | (simp [World.setCell]; omega))).trans (by first | exact u2 | go_simp))))
      refine bodyPost_ret (v := .tuple #[.agg #[.slice none 0 0, .int .i64 0, .int .i64 0], .int .i64 8]) (by simp [results, Tryz.results37, go_sem, r0, r1, r2]) rfl ⟨⟨none, 0, 0, by rw [HF.out]; rfl, by rw [HF.out]; exact Ints.nilSlice _, fun x e => by cases e⟩, ?_⟩
      (repeat first | exact bel0 | assumption | refine bel1 ?_ | refine bel2 ?_ | refine bel3 ?_ | refine belowT ?_ (by assumption) | refine bel5 ?_ (by simp; try omega))
    · have hkz' : (kw == 0) = false := by simpa using hkz
      have hgot := checkB_ok HK.out
      obtain ⟨x', y', z', e3, _, _, _, hst⟩ := hgot
      simp at e3
      obtain ⟨rfl, rfl, rfl⟩ := e3
      dsimp only at hst
      have HF := hide (show preemptB ⟨[x, y, z], hh, tt⟩ who key = (⟨S3 who key x y z 3, ho3 who key x y z hh 3, tt⟩, 0) by
        simp only [preemptB, HP.out, HKW.out]
        rw [S3_3]
        simp [hk, hkz]
        unfold ho3 keyOf
        rcases hst with ⟨e, _⟩ | ⟨e | e | e, _⟩ <;> subst e <;> simp <;> grind)
      clear hkz hst
      go_wp2_with (first | (go_at_call 26; refine (in_c _ _ _ _).mono ?_; rintro e wc ⟨rfl, rfl⟩) | (go_at_call 61; refine (CloneI_c g off c x y z _ (h.below bw1 (Nat.le_refl _))).mono ?_; rintro e w4 ⟨⟨g2, cap, rfl, hm⟩, hb4⟩; (replace b0 := keepc hb4 b0); (replace b1 := keepc hb4 b1); (replace b2 := keepc hb4 b2); (replace r0 := keepc hb4 r0); (replace r1 := keepc hb4 r1); (replace r2 := keepc hb4 r2); (replace f0 : w4.frozen? _ = false := (hb4.frozen (p := ⟨w.heap.size, 0, none⟩) (by (first | (simp; done) | (simp; omega)))).trans f0); (replace f1 : w4.frozen? _ = false := (hb4.frozen (p := ⟨w.heap.size, 1, none⟩) (by (first | (simp; done) | (simp; omega)))).trans f1); (replace f2 : w4.frozen? _ = false := (hb4.frozen (p := ⟨w.heap.size, 2, none⟩) (by (first | (simp; done) | (simp; omega)))).trans f2); (replace u0 : w4.frozen? _ = false := (hb4.frozen (p := ⟨w.heap.size + 1, 0, none⟩) (by (first | (simp; done) | (simp; omega)))).trans u0); (replace u1 : w4.frozen? _ = false := (hb4.frozen (p := ⟨w.heap.size + 1, 1, none⟩) (by (first | (simp; done) | (simp; omega)))).trans u1); (replace u2 : w4.frozen? _ = false := (hb4.frozen (p := ⟨w.heap.size + 1, 2, none⟩) (by (first | (simp; done) | (simp; omega)))).trans u2); (have m0 := hm.cells who hw); (have s0 := hm.soft who hw); (have hgb := hm.base); (have hgl := hm.lt); (have bw4 := belowT bw1 hb4); (have gn1 : g2 ≠ w.heap.size := by omega); (have gn2 : g2 ≠ w.heap.size + 1 := by omega); (have gn3 : w.heap.size ≠ g2 := by omega); (have gn4 : w.heap.size + 1 ≠ g2 := by omega); (have lg : w.heap.size ≤ g2 := by omega); (have z4 : w.heap.size + 1 < w4.heap.size := World.block_lt_of_cell? _ _ r0)))
      have p0 : PI w.heap.size g2 cap [x, y, z] hh tt (w4.setCell ⟨w.heap.size, 0, none⟩ (.slice (some ⟨g2, 0, none⟩) 3 cap)) := by
        have o : ∀ b j, ¬ (b = w.heap.size ∧ j = 0) → (w4.setCell ⟨w.heap.size, 0, none⟩ (.slice (some ⟨g2, 0, none⟩) 3 cap)).cell? ⟨b, j, none⟩ = w4.cell? ⟨b, j, none⟩ := fun b j hb => World.cell?_setCell_other _ _ _ _ (by simp; intro e1 e2; exact hb ⟨e1.symm, e2.symm⟩)
        exact ⟨(hm.mono (by omega)).other _ 0 _ gn3, World.cell?_setCell_same _ _ _ b0, by rw [o _ _ (by omega)]; exact b1, by rw [o _ _ (by omega)]; exact b2, by rw [World.frozen?_setCell]; exact f0, by rw [World.frozen?_setCell]; exact f1, by rw [World.frozen?_setCell]; exact f2,
          by rw [o _ _ (by omega)]; exact r0, by rw [o _ _ (by omega)]; exact r1, by rw [o _ _ (by omega)]; exact r2, by rw [World.frozen?_setCell]; exact u0, by rw [World.frozen?_setCell]; exact u1, by rw [World.frozen?_setCell]; exact u2⟩
      have bw5 : Below w.heap.size w (w4.setCell ⟨w.heap.size, 0, none⟩ (.slice (some ⟨g2, 0, none⟩) 3 cap)) := bw4.setCell (Nat.le_refl _) _
      rw [← S3_0 who key x y z] at p0
      rw [← ho3_0 who key x y z hh] at p0
      clear m0 s0 hgb hgl hm hb4 b0 b1 b2 f0 f1 f2 r0 r1 r2 u0 u1 u2 bw1 ek zc z4 bw4
      generalize hhv : (hh == (who : Int)) = hhb
      clear hhv
      generalize w4.setCell ⟨w.heap.size, 0, none⟩ (.slice (some ⟨g2, 0, none⟩) 3 cap) = w5 at *
      go_loopw [124] (fun i wr => ∃ k : Nat, k ≤ 3 ∧ i = .int .i64 k ∧ PI w.heap.size g2 cap (S3 who key x y z k) (ho3 who key x y z hh k) tt wr ∧ Below w.heap.size w wr) (fun i _ => 3 - (intOf i).toNat)
      case atStart => exact ⟨0, by omega, rfl, p0, bw5⟩
      case round =>
        obtain ⟨k, hk3, rfl, pi, hbr⟩ := hrel
        rename_i wr
        clear p0 bw5
        obtain ⟨km, b0, b1, b2, f0, f1, f2, r0, r1, r2, u0, u1, u2⟩ := id pi
        by_cases hlt : k < 3
        · have hlt' : (k : Int) < 3 := by omega
          have m0 := km.cells k hlt
          have s0 := km.soft k hlt
          rw [S3_at who key x y z k hlt] at m0
          generalize hvk : [x, y, z].getD k 0 = vk at m0
          have HV := hide hvk
          generalize hhk : ho3 who key x y z hh k = hk' at b1
          have HH := hide hhk
          clear hvk hhk km
          cases hv : vk == key
          · have hno : ¬ ([x, y, z].getD k 0 = key ∧ (k : Int) ≠ who) := by rw [HV.out]; simp at hv; simp [hv]
            have e1 := hide (S3_same who key x y z k hlt hno)
            have e2 := hide (ho3_same who key x y z hh k hlt hno)
            clear hno
            go_wp2
            exact ⟨⟨k + 1, by omega, by go_num, by rw [e1.out, e2.out]; exact pi, hbr⟩, by simp [intOf]; omega⟩
          · cases hkw : (k : Int) != (who : Int)
            · have hno : ¬ ([x, y, z].getD k 0 = key ∧ (k : Int) ≠ who) := by simp at hkw; simp [hkw]
              have e1 := hide (S3_same who key x y z k hlt hno)
              have e2 := hide (ho3_same who key x y z hh k hlt hno)
              clear hno
              go_wp2
              exact ⟨⟨k + 1, by omega, by go_num, by rw [e1.out, e2.out]; exact pi, hbr⟩, by simp [intOf]; omega⟩
            · have hne : (k : Int) ≠ who := by simpa using hkw
              have hvk : [x, y, z].getD k 0 = key := by rw [HV.out]; simpa using hv
              have e1 := hide (S3_set who key x y z k hlt hvk hne)
              have p1 := pi.key k hlt 0 (by omega) gn3 gn4
              have b3 := hbr.setCell (p := ⟨g2, k, none⟩) lg (.int .i64 0)
              cases hq : (k : Int) == hk'
              · have e2 := hide (ho3_not who key x y z hh k hlt (by rw [HH.out]; simpa using hq) hne)
                clear hne hvk
                go_wp2
                exact ⟨⟨k + 1, by omega, by go_num, by rw [e1.out, e2.out]; exact p1, b3⟩, by simp [intOf]; omega⟩
              · have e2 := hide (ho3_set who key x y z hh k hlt hvk hne (by rw [HH.out]; simpa using hq))
                have p2 := p1.holder who gn3
                have b4 := b3.setCell (p := ⟨w.heap.size, 1, none⟩) (Nat.le_refl _) (.int .i64 who)
                clear hne hvk
                go_wp2
                exact ⟨⟨k + 1, by omega, by go_num, by rw [e1.out, e2.out]; exact p2, b4⟩, by simp [intOf]; omega⟩
        · obtain rfl : k = 3 := by omega
          generalize hhk : ho3 who key x y z hh 3 = hk' at *
          clear hhk
          go_wp2
          refine bodyPost_ret (v := .tuple #[.agg #[.slice (some ⟨g2, 0, none⟩) 3 cap, .int .i64 hk', .int .i64 tt], .int .i64 0]) (by simp [results, Tryz.results37, go_sem, r0, r1, r2, b0, b1, b2, gn1, gn2, gn3, gn4]) rfl ⟨⟨some ⟨g2, 0, none⟩, 3, cap, by rw [HF.out], ?_, fun x e => by cases e; exact lg⟩, ?_⟩
          · rw [HF.out]
            exact (((km.other (w.heap.size + 1) 0 _ gn4).other (w.heap.size + 1) 1 _ gn4).other (w.heap.size + 1) 2 _ gn4).at3 rfl
          · repeat (refine Below.setCell ?_ (by first | exact Nat.le_refl _ | exact Nat.le_succ _ | exact lg) _)
            exact hbr

end Go.Proofs.YtkamnbigfdbgbaaGreatDoor
