/- The contract of the document's own OnBook, kind by kind; no condition but that the keys read as a list. -/
import Derived.Test.YtkamnbigfdbgbaaGreatDoorDeskSaysG22
import Derived.Test.YtkamnbigfdbgbaaGreatDoorDeskSaysG3
import Derived.Test.YtkamnbigfdbgbaaGreatDoorDeskSaysG24
import Derived.Deep.RegionHeld3
import Derived.Deep.DeepCutAuto
namespace Go.Proofs.YtkamnbigfdbgbaaGreatDoor
open Go.RowKit
set_option linter.unusedVariables false
set_option maxRecDepth 100000
set_option linter.unusedSimpArgs false

theorem badB_c (x : Int) (w : World) : Calls Tryz.prog 60 #[.int .i64 x] w fun e w' => e = .returned (.tuple #[.agg #[.slice none 0 0, .int .i64 0, .int .i64 0], .int .i64 x]) ∧ Below w.heap.size w w' := by
  go_enter Tryz.func60, Tryz.ntmps60
  go_wp2
  refine bodyPost_ret (v := .tuple #[.agg #[.slice none 0 0, .int .i64 0, .int .i64 0], .int .i64 x]) (by simp [results, Tryz.results60, go_sem]) rfl ⟨rfl, ?_⟩
  (repeat first | exact bel0 | assumption | refine bel1 ?_ | refine bel2 ?_ | refine bel3 ?_ | refine belowT ?_ (by assumption) | refine bel5 ?_ (by simp; try omega))

/-- Keys in memory of the call's own. -/
structure KMine (w : World) (base g c : Nat) (l : List Int) : Prop where
  ints : Ints w (some ⟨g, 0, none⟩) l.length c l
  base : base ≤ g
  lt : g < w.heap.size
  cells : ∀ j, j < l.length → w.cell? ⟨g, j, none⟩ = some (.int .i64 (l.getD j 0))
  soft : ∀ j, j < l.length → w.frozen? ⟨g, j, none⟩ = false

theorem KMine.of_own {w : World} {base g n c : Nat} {l : List Int} (h : OwnI w base (.slice (some ⟨g, 0, none⟩) n c) l) (hl : l.length = n) (hwf : ∀ x ∈ l, -9223372036854775808 ≤ x ∧ x ≤ 9223372036854775807) : KMine w base g c l := by
  subst hl
  obtain ⟨a, c', e, hi, _⟩ := h.ints hwf
  cases e
  obtain ⟨_, h⟩ := h
  rcases h with ⟨e, _⟩ | ⟨g', cap, cur, e, hb, hg, hn, hm, hs, hc⟩
  · cases e
  · cases e
    refine ⟨hi, hb, (Array.getElem?_eq_some_iff.1 hg).1, fun j hj => ?_, fun j hj => by simp [World.frozen?, hg]⟩
    rcases hi.row with h0 | ⟨b, off, ha, _, hr⟩
    · omega
    · cases ha
      simpa using hr j hj

theorem KMine.below {w w' : World} {base g c : Nat} {l : List Int} (h : KMine w base g c l) (hb : Below w.heap.size w w') : KMine w' base g c l :=
  ⟨h.ints.below hb (Nat.le_refl _), h.base, Nat.lt_of_lt_of_le h.lt hb.size, fun j hj => by rw [hb.cell (p := ⟨g, j, none⟩) h.lt]; exact h.cells j hj, fun j hj => by rw [hb.frozen (p := ⟨g, j, none⟩) h.lt]; exact h.soft j hj⟩

theorem KMine.set {w : World} {base g c : Nat} {l : List Int} (h : KMine w base g c l) (i : Nat) (hi : i < l.length) (x : Int) (hx : -9223372036854775808 ≤ x ∧ x ≤ 9223372036854775807) : KMine (w.setCell ⟨g, i, none⟩ (.int .i64 x)) base g c (l.set i x) := by
  have hc : ∀ j, j < (l.set i x).length → (w.setCell ⟨g, i, none⟩ (.int .i64 x)).cell? ⟨g, j, none⟩ = some (.int .i64 ((l.set i x).getD j 0)) := by
    intro j hj
    rw [List.length_set] at hj
    by_cases e : i = j
    · subst e
      rw [World.cell?_setCell_same _ _ _ (h.cells i hi)]
      simp [List.getD, hi]
    · rw [World.cell?_setCell_other _ _ _ _ (by simp [e]), h.cells j hj]
      simp [List.getD, List.getElem?_set_ne e]
  refine ⟨⟨rfl, by rw [List.length_set]; exact h.ints.le, h.ints.max, fun e => (by cases e), .inr ⟨g, 0, rfl, by simpa [World.setCell] using h.lt, fun j hj => by simpa using hc j hj⟩, fun y hy => ?_⟩, h.base, by simpa [World.setCell] using h.lt, hc, fun j hj => ?_⟩
  · rcases List.mem_or_eq_of_mem_set hy with hy | rfl
    · exact h.ints.wf y hy
    · exact hx
  · rw [World.frozen?_setCell]
    exact h.soft j (by simpa using hj)

theorem KMine.at3 {w : World} {base g c : Nat} {l : List Int} (h : KMine w base g c l) (hl : l.length = 3) : Ints w (some ⟨g, 0, none⟩) 3 c l := hl ▸ h.ints
theorem KMine.mono {w : World} {base base' g c : Nat} {l : List Int} (h : KMine w base g c l) (hb : base' ≤ base) : KMine w base' g c l := ⟨h.ints, Nat.le_trans hb h.base, h.lt, h.cells, h.soft⟩

theorem KMine.other {w : World} {base g c : Nat} {l : List Int} (h : KMine w base g c l) (b i : Nat) (v : Value) (hb : b ≠ g) : KMine (w.setCell ⟨b, i, none⟩ v) base g c l :=
  ⟨h.ints.setCell _ _ (fun x e => by cases e; simpa using Ne.symm hb), h.base, by simpa [World.setCell] using h.lt, fun j hj => by rw [World.cell?_setCell_other _ _ _ _ (by simp [hb])]; exact h.cells j hj, fun j hj => by rw [World.frozen?_setCell]; exact h.soft j hj⟩

set_option maxHeartbeats 1000000 in
theorem CloneI_c (b off c : Nat) (x y z : Int) (w : World) (h : Ints w (some ⟨b, off, none⟩) 3 c [x, y, z]) :
    Calls Tryz.prog 61 #[.slice (some ⟨b, off, none⟩) 3 c] w fun e w' => (∃ g cap, e = .returned (.slice (some ⟨g, 0, none⟩) 3 cap) ∧ KMine w' w.heap.size g cap [x, y, z]) ∧ Below w.heap.size w w' := by
  obtain ⟨i, hi, hz, hs, hb⟩ := intInfo
  have hnil := fun (W : World) (q : Addr) => Lib.run_eql_slice_nil (P := Tryz.prog) W 23 3 (some q) 3 c 0 0 Tryz.underlying23
  go_enter Tryz.func61, Tryz.ntmps61
  go_wp2_with (at_builtin; refine wpList_append_own _ rfl _ _ 23 rfl w.heap.size 3 i (.int .i64 0) 1 8 Tryz.underlying23 hi hz hs hb rfl (by decide) _ 0 [] rfl ?ho ⟨b, off, none⟩ 3 c (cellsOf [x, y, z]) rfl ?h1 ?h2 (cellsOf_one _) ?h3 ?h4 ?h5 ?h6)
  case ho => exact ⟨rfl, .inr ⟨w.heap.size, 0, #[], rfl, Nat.le_refl _, heap_new w _, Nat.le_refl _, Nat.zero_le _, rfl, by simp⟩⟩
  case h1 => rfl
  case h2 => exact (h.below (B := w.heap.size) (by (repeat first | exact bel0 | assumption | refine bel1 ?_ | refine bel2 ?_ | refine bel3 ?_ | refine belowT ?_ (by assumption) | refine bel5 ?_ (by simp; try omega))) (Nat.le_refl _)).srcs _ rfl
  case h3 => simp [maxLen]
  case h4 => omega
  case h5 => simp
  case h6 =>
    intro v' w' ho hg hne
    have hv : ∃ g cap, v' = .slice (some ⟨g, 0, none⟩) 3 cap ∧ w.heap.size ≤ g := by
      rcases ho.2 with ⟨e, _⟩ | ⟨g, cap, cur, e, hb, _⟩
      · exact absurd e hne
      · exact ⟨g, cap, e, hb⟩
    obtain ⟨g, cap, rfl, hgb⟩ := hv
    have hb' : Below w.heap.size w w' := (belowA (Below.refl _ _) _).grown hg (by simp) (by intro k e; simp [Value.ownBlock] at e; omega)
    have hm : KMine w' w.heap.size g cap [x, y, z] := KMine.of_own (l := [x, y, z]) ho rfl h.wf
    clear ho hg hne
    go_wp2
    go_ret
    exact ⟨⟨g, cap, rfl, hm⟩, hb'⟩

set_option maxRecDepth 100000 in
set_option maxHeartbeats 4000000 in
theorem OnB_reg (a : Option Addr) (c : Nat) (x y z hh tt : Int) (who : Nat) (key : Int) (w : World) (h : Ints w a 3 c [x, y, z]) (hok : checkB ⟨[x, y, z], hh, tt⟩ = 0) (hw : who < 3) :
    Calls Tryz.prog 37 #[bookV a 3 c ⟨[x, y, z], hh, tt⟩, .int .i64 8, .int .i64 who, .int .i64 key] w fun e w' =>
      (∃ a' n' c', e = .returned (.tuple #[bookV a' n' c' (registerB ⟨[x, y, z], hh, tt⟩ who key).1, .int .i64 (registerB ⟨[x, y, z], hh, tt⟩ who key).2]) ∧ Ints w' a' n' c' (registerB ⟨[x, y, z], hh, tt⟩ who key).1.k ∧ ∀ x, a' = some x → w.heap.size ≤ x.block) ∧ Below w.heap.size w w' := by
  have hpre : preB ⟨[x, y, z], hh, tt⟩ who = 0 := by simp [preB, hok, inB]; omega
  have HP := hide hpre
  clear hpre
  have HK := hide hok
  have hin : inB (who : Int) 0 2 = true := by simp [inB]; omega
  have hw' : (who : Int) < 3 := by omega
  unfold bookV
  obtain ⟨g, off, rfl, _, _, _⟩ := h.three
  have hcell : w.cell? ⟨g, off + who, none⟩ = some (.int .i64 ([x, y, z].getD who 0)) := by
    rcases h.row with h0 | ⟨g', off', ha, _, hr⟩
    · omega
    · cases ha; exact hr who hw
  generalize hkw : [x, y, z].getD who 0 = kw at hcell
  have HKW := hide (show keyOf ⟨[x, y, z], hh, tt⟩ who = kw from hkw)
  clear hkw
  go_enter Tryz.func37, Tryz.ntmps37
  go_wp2_with fail
  refine (CheckBook_c _ 3 c ⟨[x, y, z], hh, tt⟩ _ (h.below (B := w.heap.size) (by (repeat first | exact bel0 | assumption | refine bel1 ?_ | refine bel2 ?_ | refine bel3 ?_ | refine belowT ?_ (by assumption) | refine bel5 ?_ (by simp; try omega))) (Nat.le_refl _))).mono ?_
  rintro e w1 ⟨rfl, hb1⟩
  rw [HK.out]
  go_wp2_with (go_at_call 26; refine (in_c _ _ _ _).mono ?_; rintro e w1 ⟨rfl, rfl⟩)
  have b0 := keepc hb1 (p := ⟨w.heap.size, 0, none⟩) (u := .slice (some ⟨g, off, none⟩) 3 c) (by go_simp)
  have b1 := keepc hb1 (p := ⟨w.heap.size, 1, none⟩) (u := .int .i64 hh) (by go_simp)
  have b2 := keepc hb1 (p := ⟨w.heap.size, 2, none⟩) (u := .int .i64 tt) (by go_simp)
  have f0 := keepf hb1 (p := ⟨w.heap.size, 0, none⟩) (u := .slice (some ⟨g, off, none⟩) 3 c) (by go_simp) (b := false) (by go_simp)
  have f1 := keepf hb1 (p := ⟨w.heap.size, 1, none⟩) (u := .int .i64 hh) (by go_simp) (b := false) (by go_simp)
  have f2 := keepf hb1 (p := ⟨w.heap.size, 2, none⟩) (u := .int .i64 tt) (by go_simp) (b := false) (by go_simp)
  have r0 := keepc hb1 (p := ⟨w.heap.size + 1, 0, none⟩) (u := .slice none 0 0) (by go_simp)
  have r1 := keepc hb1 (p := ⟨w.heap.size + 1, 1, none⟩) (u := .int .i64 0) (by go_simp)
  have r2 := keepc hb1 (p := ⟨w.heap.size + 1, 2, none⟩) (u := .int .i64 0) (by go_simp)
  have u0 := keepf hb1 (p := ⟨w.heap.size + 1, 0, none⟩) (u := .slice none 0 0) (by go_simp) (b := false) (by go_simp)
  have u1 := keepf hb1 (p := ⟨w.heap.size + 1, 1, none⟩) (u := .int .i64 0) (by go_simp) (b := false) (by go_simp)
  have u2 := keepf hb1 (p := ⟨w.heap.size + 1, 2, none⟩) (u := .int .i64 0) (by go_simp) (b := false) (by go_simp)
  have bw1 : Below w.heap.size w w1 := by (repeat first | exact bel0 | assumption | refine bel1 ?_ | refine bel2 ?_ | refine bel3 ?_ | refine belowT ?_ (by assumption) | refine bel5 ?_ (by simp; try omega))
  have z1 : w.heap.size + 1 < w1.heap.size := World.block_lt_of_cell? _ _ r0
  clear hb1 hok
  go_cut [12, 13] (fun v12 v13 wx => v12 = .int .i64 0 ∧ v13 = .int .i64 9 ∧ Below w1.heap.size w1 wx)
  case first =>
    refine wp_region_any (by kernel_rfl) ?_
    refine book_maps (w0 := w1) (kd := 8) rfl (by simp) rfl ((Below.refl _ _).drew) ?hd ?hs
    case hs =>
      intro L a' w' hI i o ho h0 hall
      have hi : i < 15 := (Array.getElem?_eq_some_iff.1 ho).1
      rcases (by omega : i = 0 ∨ i = 1 ∨ i = 2 ∨ i = 3 ∨ i = 4 ∨ i = 5 ∨ i = 6 ∨ i = 7 ∨ i = 8 ∨ i = 9 ∨ i = 10 ∨ i = 11 ∨ i = 12 ∨ i = 13 ∨ i = 14) with rfl | rfl | rfl | rfl | rfl | rfl | rfl | rfl | rfl | rfl | rfl | rfl | rfl | rfl | rfl
      · cases (show some _ = some o from ho)
        exact step0 rfl rfl rfl rfl hI h0
      · cases (show some _ = some o from ho)
        exact step1 rfl rfl rfl rfl hI h0 (hall ⟨0, .data⟩ (by simp) rfl)
      · cases (show some _ = some o from ho)
        exact step2 rfl rfl rfl rfl hI h0 (hall ⟨0, .data⟩ (by simp) rfl)
      · cases (show some _ = some o from ho)
        exact step3 rfl rfl rfl rfl hI h0 (hall ⟨0, .data⟩ (by simp) rfl) (hall ⟨1, .data⟩ (by simp) rfl) (hall ⟨2, .data⟩ (by simp) rfl)
      · cases (show some _ = some o from ho)
        exact step4 rfl rfl rfl rfl hI h0
      · cases (show some _ = some o from ho)
        exact step5 rfl rfl rfl rfl (by decide) hI h0 (hall ⟨3, .data⟩ (by simp) rfl) (hall ⟨4, .data⟩ (by simp) rfl)
      · cases (show some _ = some o from ho)
        exact step6 rfl rfl rfl rfl hI h0
      · cases (show some _ = some o from ho)
        exact step7 rfl rfl rfl rfl hI h0 (hall ⟨6, .data⟩ (by simp) rfl)
      · cases (show some _ = some o from ho)
        exact step8 rfl rfl rfl rfl hI h0 (hall ⟨6, .data⟩ (by simp) rfl)
      · cases (show some _ = some o from ho)
        exact step9 rfl rfl rfl rfl hI h0 (hall ⟨6, .data⟩ (by simp) rfl)
      · cases (show some _ = some o from ho)
        exact step10 rfl rfl rfl rfl hI h0 (hall ⟨6, .data⟩ (by simp) rfl) (hall ⟨7, .data⟩ (by simp) rfl) (hall ⟨8, .data⟩ (by simp) rfl) (hall ⟨9, .data⟩ (by simp) rfl)
      · cases (show some _ = some o from ho)
        exact step11 rfl rfl rfl rfl hI h0
      · cases (show some _ = some o from ho)
        exact step12 rfl rfl rfl rfl (by decide) hI h0 (hall ⟨10, .data⟩ (by simp) rfl) (hall ⟨11, .data⟩ (by simp) rfl)
      · cases (show some _ = some o from ho)
        exact step13 rfl rfl rfl rfl hI h0 (hall ⟨5, .data⟩ (by simp) rfl)
      · cases (show some _ = some o from ho)
        exact step14 rfl rfl rfl rfl hI h0 (hall ⟨12, .data⟩ (by simp) rfl)
    case hd =>
      rintro L a' w' ⟨v, hI⟩ hr
      have hz := hI.sz
      have g0 : L.getD 0 false = true := bit_done hr 0 _ rfl hz (by intro e he hb; simp at he; try (rcases he with rfl | rfl | rfl | rfl | rfl | rfl | rfl | rfl | rfl | rfl | rfl | rfl | rfl | rfl | rfl | rfl <;> first | assumption | cases hb))
      have g1 : L.getD 1 false = true := bit_done hr 1 _ rfl hz (by intro e he hb; simp at he; try (rcases he with rfl | rfl | rfl | rfl | rfl | rfl | rfl | rfl | rfl | rfl | rfl | rfl | rfl | rfl | rfl | rfl <;> first | assumption | cases hb))
      have g2 : L.getD 2 false = true := bit_done hr 2 _ rfl hz (by intro e he hb; simp at he; try (rcases he with rfl | rfl | rfl | rfl | rfl | rfl | rfl | rfl | rfl | rfl | rfl | rfl | rfl | rfl | rfl | rfl <;> first | assumption | cases hb))
      have g3 : L.getD 3 false = true := bit_done hr 3 _ rfl hz (by intro e he hb; simp at he; try (rcases he with rfl | rfl | rfl | rfl | rfl | rfl | rfl | rfl | rfl | rfl | rfl | rfl | rfl | rfl | rfl | rfl <;> first | assumption | cases hb))
      have g4 : L.getD 4 false = true := bit_done hr 4 _ rfl hz (by intro e he hb; simp at he; try (rcases he with rfl | rfl | rfl | rfl | rfl | rfl | rfl | rfl | rfl | rfl | rfl | rfl | rfl | rfl | rfl | rfl <;> first | assumption | cases hb))
      have g5 : L.getD 5 false = true := bit_done hr 5 _ rfl hz (by intro e he hb; simp at he; try (rcases he with rfl | rfl | rfl | rfl | rfl | rfl | rfl | rfl | rfl | rfl | rfl | rfl | rfl | rfl | rfl | rfl <;> first | assumption | cases hb))
      have g6 : L.getD 6 false = true := bit_done hr 6 _ rfl hz (by intro e he hb; simp at he; try (rcases he with rfl | rfl | rfl | rfl | rfl | rfl | rfl | rfl | rfl | rfl | rfl | rfl | rfl | rfl | rfl | rfl <;> first | assumption | cases hb))
      have g7 : L.getD 7 false = true := bit_done hr 7 _ rfl hz (by intro e he hb; simp at he; try (rcases he with rfl | rfl | rfl | rfl | rfl | rfl | rfl | rfl | rfl | rfl | rfl | rfl | rfl | rfl | rfl | rfl <;> first | assumption | cases hb))
      have g8 : L.getD 8 false = true := bit_done hr 8 _ rfl hz (by intro e he hb; simp at he; try (rcases he with rfl | rfl | rfl | rfl | rfl | rfl | rfl | rfl | rfl | rfl | rfl | rfl | rfl | rfl | rfl | rfl <;> first | assumption | cases hb))
      have g9 : L.getD 9 false = true := bit_done hr 9 _ rfl hz (by intro e he hb; simp at he; try (rcases he with rfl | rfl | rfl | rfl | rfl | rfl | rfl | rfl | rfl | rfl | rfl | rfl | rfl | rfl | rfl | rfl <;> first | assumption | cases hb))
      have g10 : L.getD 10 false = true := bit_done hr 10 _ rfl hz (by intro e he hb; simp at he; try (rcases he with rfl | rfl | rfl | rfl | rfl | rfl | rfl | rfl | rfl | rfl | rfl | rfl | rfl | rfl | rfl | rfl <;> first | assumption | cases hb))
      have g11 : L.getD 11 false = true := bit_done hr 11 _ rfl hz (by intro e he hb; simp at he; try (rcases he with rfl | rfl | rfl | rfl | rfl | rfl | rfl | rfl | rfl | rfl | rfl | rfl | rfl | rfl | rfl | rfl <;> first | assumption | cases hb))
      have g12 : L.getD 12 false = true := bit_done hr 12 _ rfl hz (by intro e he hb; simp at he; try (rcases he with rfl | rfl | rfl | rfl | rfl | rfl | rfl | rfl | rfl | rfl | rfl | rfl | rfl | rfl | rfl | rfl <;> first | assumption | cases hb))
      have g13 : L.getD 13 false = true := bit_done hr 13 _ rfl hz (by intro e he hb; simp at he; try (rcases he with rfl | rfl | rfl | rfl | rfl | rfl | rfl | rfl | rfl | rfl | rfl | rfl | rfl | rfl | rfl | rfl <;> first | assumption | cases hb))
      have g14 : L.getD 14 false = true := bit_done hr 14 _ rfl hz (by intro e he hb; simp at he; try (rcases he with rfl | rfl | rfl | rfl | rfl | rfl | rfl | rfl | rfl | rfl | rfl | rfl | rfl | rfl | rfl | rfl <;> first | assumption | cases hb))
      have v12 : v 12 = .int .i64 0 := by rw [hI.b13 g13]; rfl
      have v13 : v 13 = .int .i64 9 := by rw [hI.b14 g14]; rfl
      have bl := hI.bel
      rw [hI.act]
      clear hI hr g0 g1 g2 g3 g4 g5 g6 g7 g8 g9 g10 g11 g12 g13 g14
      simp [laid, over, SB]
      rw [v12, v13]
      go_wp2_with fail
      go_meet
      case rel => exact ⟨rfl, rfl, bl⟩

  obtain ⟨rfl, rfl, hbc⟩ := hcut
  replace b0 := keepc hbc b0
  replace b1 := keepc hbc b1
  replace b2 := keepc hbc b2
  replace f0 : wc.frozen? _ = false := (hbc.frozen (p := ⟨w.heap.size, 0, none⟩) (by simp; omega)).trans f0
  replace f1 : wc.frozen? _ = false := (hbc.frozen (p := ⟨w.heap.size, 1, none⟩) (by simp; omega)).trans f1
  replace f2 : wc.frozen? _ = false := (hbc.frozen (p := ⟨w.heap.size, 2, none⟩) (by simp; omega)).trans f2
  replace u0 : wc.frozen? _ = false := (hbc.frozen (p := ⟨w.heap.size + 1, 0, none⟩) (by simp; omega)).trans u0
  replace u1 : wc.frozen? _ = false := (hbc.frozen (p := ⟨w.heap.size + 1, 1, none⟩) (by simp; omega)).trans u1
  replace u2 : wc.frozen? _ = false := (hbc.frozen (p := ⟨w.heap.size + 1, 2, none⟩) (by simp; omega)).trans u2
  replace r0 := keepc hbc r0
  replace r1 := keepc hbc r1
  replace r2 := keepc hbc r2
  replace bw1 := belowT bw1 hbc
  have ek := keepc bw1 hcell
  have zc : w.heap.size + 1 < wc.heap.size := World.block_lt_of_cell? _ _ r0
  clear hbc z1


  cases hk : inB key 0 9
  · have HF := hide (show registerB ⟨[x, y, z], hh, tt⟩ who key = (zeroB, 3) by simp [registerB, HP.out, hk])
    go_wp2_with (first | (go_at_call 26; refine (in_c _ _ _ _).mono ?_; rintro e wc ⟨rfl, rfl⟩) | (go_at_call 60; refine (badB_c _ _).mono ?_; rintro e w9 ⟨rfl, hb9⟩; (replace r0 := keepc hb9 (p := ⟨w.heap.size + 1, 0, none⟩) (u := .slice none 0 0) (by first | exact r0 | go_simp)); (replace r1 := keepc hb9 (p := ⟨w.heap.size + 1, 1, none⟩) (u := .int .i64 0) (by first | exact r1 | go_simp)); (replace r2 := keepc hb9 (p := ⟨w.heap.size + 1, 2, none⟩) (u := .int .i64 0) (by first | exact r2 | go_simp)); (replace u0 : w9.frozen? ⟨w.heap.size + 1, 0, none⟩ = false := (hb9.frozen (p := ⟨w.heap.size + 1, 0, none⟩) (by first | (simp; done) | (simp; omega) | (simp [World.setCell]; omega))).trans (by first | exact u0 | go_simp)); (replace u1 : w9.frozen? ⟨w.heap.size + 1, 1, none⟩ = false := (hb9.frozen (p := ⟨w.heap.size + 1, 1, none⟩) (by first | (simp; done) | (simp; omega) | (simp [World.setCell]; omega))).trans (by first | exact u1 | go_simp)); (replace u2 : w9.frozen? ⟨w.heap.size + 1, 2, none⟩ = false := (hb9.frozen (p := ⟨w.heap.size + 1, 2, none⟩) (by first | (simp; done) | (simp; omega) | (simp [World.setCell]; omega))).trans (by first | exact u2 | go_simp))))
    refine bodyPost_ret (v := .tuple #[.agg #[.slice none 0 0, .int .i64 0, .int .i64 0], .int .i64 3]) (by simp [results, Tryz.results37, go_sem, r0, r1, r2]) rfl ⟨⟨none, 0, 0, by rw [HF.out]; rfl, by rw [HF.out]; exact Ints.nilSlice _, fun x e => by cases e⟩, ?_⟩
    (repeat first | exact bel0 | assumption | refine bel1 ?_ | refine bel2 ?_ | refine bel3 ?_ | refine belowT ?_ (by assumption) | refine bel5 ?_ (by simp; try omega))
  · have hkr : 0 ≤ key ∧ key ≤ 9 := by simp [inB] at hk; omega
    by_cases hz : key = 0 ∧ hh = who
    · have HF := hide (show registerB ⟨[x, y, z], hh, tt⟩ who key = (⟨[x, y, z].set who key, -1, 0⟩, 0) by unfold registerB; rw [HP.out, hk]; simp [hz])
      obtain ⟨rfl, rfl⟩ := hz
      go_wp2_with (first | (go_at_call 26; refine (in_c _ _ _ _).mono ?_; rintro e wc ⟨rfl, rfl⟩) | (go_at_call 61; refine (CloneI_c g off c x y z _ (h.below bw1 (Nat.le_refl _))).mono ?_; rintro e w4 ⟨⟨g2, cap, rfl, hm⟩, hb4⟩; (replace b0 := keepc hb4 b0); (replace b1 := keepc hb4 b1); (replace b2 := keepc hb4 b2); (replace r0 := keepc hb4 r0); (replace r1 := keepc hb4 r1); (replace r2 := keepc hb4 r2); (replace f0 : w4.frozen? _ = false := (hb4.frozen (p := ⟨w.heap.size, 0, none⟩) (by (first | (simp; done) | (simp; omega)))).trans f0); (replace f1 : w4.frozen? _ = false := (hb4.frozen (p := ⟨w.heap.size, 1, none⟩) (by (first | (simp; done) | (simp; omega)))).trans f1); (replace f2 : w4.frozen? _ = false := (hb4.frozen (p := ⟨w.heap.size, 2, none⟩) (by (first | (simp; done) | (simp; omega)))).trans f2); (replace u0 : w4.frozen? _ = false := (hb4.frozen (p := ⟨w.heap.size + 1, 0, none⟩) (by (first | (simp; done) | (simp; omega)))).trans u0); (replace u1 : w4.frozen? _ = false := (hb4.frozen (p := ⟨w.heap.size + 1, 1, none⟩) (by (first | (simp; done) | (simp; omega)))).trans u1); (replace u2 : w4.frozen? _ = false := (hb4.frozen (p := ⟨w.heap.size + 1, 2, none⟩) (by (first | (simp; done) | (simp; omega)))).trans u2); (have m0 := hm.cells who hw); (have s0 := hm.soft who hw); (have hgb := hm.base); (have hgl := hm.lt); (have bw4 := belowT bw1 hb4); (have gn1 : g2 ≠ w.heap.size := by omega); (have gn2 : g2 ≠ w.heap.size + 1 := by omega); (have gn3 : w.heap.size ≠ g2 := by omega); (have gn4 : w.heap.size + 1 ≠ g2 := by omega); (have lg : w.heap.size ≤ g2 := by omega); (have z4 : w.heap.size + 1 < w4.heap.size := World.block_lt_of_cell? _ _ r0)))
      refine bodyPost_ret (v := .tuple #[.agg #[.slice (some ⟨g2, 0, none⟩) 3 cap, .int .i64 (-1), .int .i64 (0)], .int .i64 0]) (by simp [results, Tryz.results37, go_sem, r0, r1, r2, b0, b1, b2, gn1, gn2, gn3, gn4]) rfl ⟨⟨some ⟨g2, 0, none⟩, 3, cap, by rw [HF.out], ?_, fun x e => by cases e; exact lg⟩, ?_⟩
      · rw [HF.out]
        exact (((((((hm.other w.heap.size 0 _ gn3).set who hw 0 (by omega)).other w.heap.size 1 _ gn3).other w.heap.size 2 _ gn3).other (w.heap.size + 1) 0 _ gn4).other (w.heap.size + 1) 1 _ gn4).other (w.heap.size + 1) 2 _ gn4).at3 (by simp)
      · repeat (refine Below.setCell ?_ (by first | exact Nat.le_refl _ | exact Nat.le_succ _ | exact lg) _)
        exact bw4
    · have HF := hide (show registerB ⟨[x, y, z], hh, tt⟩ who key = (⟨[x, y, z].set who key, hh, tt⟩, 0) by unfold registerB; rw [HP.out, hk]; simp [hz])
      rcases (by by_cases e : key = 0
                 · exact .inl ⟨e, fun h => hz ⟨e, h⟩⟩
                 · exact .inr e : key = 0 ∧ hh ≠ who ∨ key ≠ 0) with ⟨e1, e2⟩ | e1
      · subst e1
        have e2' : (hh == (who : Int)) = false := by simpa using e2
        clear hz e2
        go_wp2_with (first | (go_at_call 26; refine (in_c _ _ _ _).mono ?_; rintro e wc ⟨rfl, rfl⟩) | (go_at_call 61; refine (CloneI_c g off c x y z _ (h.below bw1 (Nat.le_refl _))).mono ?_; rintro e w4 ⟨⟨g2, cap, rfl, hm⟩, hb4⟩; (replace b0 := keepc hb4 b0); (replace b1 := keepc hb4 b1); (replace b2 := keepc hb4 b2); (replace r0 := keepc hb4 r0); (replace r1 := keepc hb4 r1); (replace r2 := keepc hb4 r2); (replace f0 : w4.frozen? _ = false := (hb4.frozen (p := ⟨w.heap.size, 0, none⟩) (by (first | (simp; done) | (simp; omega)))).trans f0); (replace f1 : w4.frozen? _ = false := (hb4.frozen (p := ⟨w.heap.size, 1, none⟩) (by (first | (simp; done) | (simp; omega)))).trans f1); (replace f2 : w4.frozen? _ = false := (hb4.frozen (p := ⟨w.heap.size, 2, none⟩) (by (first | (simp; done) | (simp; omega)))).trans f2); (replace u0 : w4.frozen? _ = false := (hb4.frozen (p := ⟨w.heap.size + 1, 0, none⟩) (by (first | (simp; done) | (simp; omega)))).trans u0); (replace u1 : w4.frozen? _ = false := (hb4.frozen (p := ⟨w.heap.size + 1, 1, none⟩) (by (first | (simp; done) | (simp; omega)))).trans u1); (replace u2 : w4.frozen? _ = false := (hb4.frozen (p := ⟨w.heap.size + 1, 2, none⟩) (by (first | (simp; done) | (simp; omega)))).trans u2); (have m0 := hm.cells who hw); (have s0 := hm.soft who hw); (have hgb := hm.base); (have hgl := hm.lt); (have bw4 := belowT bw1 hb4); (have gn1 : g2 ≠ w.heap.size := by omega); (have gn2 : g2 ≠ w.heap.size + 1 := by omega); (have gn3 : w.heap.size ≠ g2 := by omega); (have gn4 : w.heap.size + 1 ≠ g2 := by omega); (have lg : w.heap.size ≤ g2 := by omega); (have z4 : w.heap.size + 1 < w4.heap.size := World.block_lt_of_cell? _ _ r0)))
        refine bodyPost_ret (v := .tuple #[.agg #[.slice (some ⟨g2, 0, none⟩) 3 cap, .int .i64 (hh), .int .i64 (tt)], .int .i64 0]) (by simp [results, Tryz.results37, go_sem, r0, r1, r2, b0, b1, b2, gn1, gn2, gn3, gn4]) rfl ⟨⟨some ⟨g2, 0, none⟩, 3, cap, by rw [HF.out], ?_, fun x e => by cases e; exact lg⟩, ?_⟩
        · rw [HF.out]
          exact (((((hm.other w.heap.size 0 _ gn3).set who hw 0 (by omega)).other (w.heap.size + 1) 0 _ gn4).other (w.heap.size + 1) 1 _ gn4).other (w.heap.size + 1) 2 _ gn4).at3 (by simp)
        · repeat (refine Below.setCell ?_ (by first | exact Nat.le_refl _ | exact Nat.le_succ _ | exact lg) _)
          exact bw4
      · have e1' : (key == 0) = false := by simpa using e1
        clear hz e1
        go_wp2_with (first | (go_at_call 26; refine (in_c _ _ _ _).mono ?_; rintro e wc ⟨rfl, rfl⟩) | (go_at_call 61; refine (CloneI_c g off c x y z _ (h.below bw1 (Nat.le_refl _))).mono ?_; rintro e w4 ⟨⟨g2, cap, rfl, hm⟩, hb4⟩; (replace b0 := keepc hb4 b0); (replace b1 := keepc hb4 b1); (replace b2 := keepc hb4 b2); (replace r0 := keepc hb4 r0); (replace r1 := keepc hb4 r1); (replace r2 := keepc hb4 r2); (replace f0 : w4.frozen? _ = false := (hb4.frozen (p := ⟨w.heap.size, 0, none⟩) (by (first | (simp; done) | (simp; omega)))).trans f0); (replace f1 : w4.frozen? _ = false := (hb4.frozen (p := ⟨w.heap.size, 1, none⟩) (by (first | (simp; done) | (simp; omega)))).trans f1); (replace f2 : w4.frozen? _ = false := (hb4.frozen (p := ⟨w.heap.size, 2, none⟩) (by (first | (simp; done) | (simp; omega)))).trans f2); (replace u0 : w4.frozen? _ = false := (hb4.frozen (p := ⟨w.heap.size + 1, 0, none⟩) (by (first | (simp; done) | (simp; omega)))).trans u0); (replace u1 : w4.frozen? _ = false := (hb4.frozen (p := ⟨w.heap.size + 1, 1, none⟩) (by (first | (simp; done) | (simp; omega)))).trans u1); (replace u2 : w4.frozen? _ = false := (hb4.frozen (p := ⟨w.heap.size + 1, 2, none⟩) (by (first | (simp; done) | (simp; omega)))).trans u2); (have m0 := hm.cells who hw); (have s0 := hm.soft who hw); (have hgb := hm.base); (have hgl := hm.lt); (have bw4 := belowT bw1 hb4); (have gn1 : g2 ≠ w.heap.size := by omega); (have gn2 : g2 ≠ w.heap.size + 1 := by omega); (have gn3 : w.heap.size ≠ g2 := by omega); (have gn4 : w.heap.size + 1 ≠ g2 := by omega); (have lg : w.heap.size ≤ g2 := by omega); (have z4 : w.heap.size + 1 < w4.heap.size := World.block_lt_of_cell? _ _ r0)))
        refine bodyPost_ret (v := .tuple #[.agg #[.slice (some ⟨g2, 0, none⟩) 3 cap, .int .i64 (hh), .int .i64 (tt)], .int .i64 0]) (by simp [results, Tryz.results37, go_sem, r0, r1, r2, b0, b1, b2, gn1, gn2, gn3, gn4]) rfl ⟨⟨some ⟨g2, 0, none⟩, 3, cap, by rw [HF.out], ?_, fun x e => by cases e; exact lg⟩, ?_⟩
        · rw [HF.out]
          exact (((((hm.other w.heap.size 0 _ gn3).set who hw key (by omega)).other (w.heap.size + 1) 0 _ gn4).other (w.heap.size + 1) 1 _ gn4).other (w.heap.size + 1) 2 _ gn4).at3 (by simp)
        · repeat (refine Below.setCell ?_ (by first | exact Nat.le_refl _ | exact Nat.le_succ _ | exact lg) _)
          exact bw4

set_option maxRecDepth 100000 in
set_option maxHeartbeats 4000000 in
theorem OnB_rel (a : Option Addr) (c : Nat) (x y z hh tt : Int) (who : Nat) (key : Int) (w : World) (h : Ints w a 3 c [x, y, z]) (hok : checkB ⟨[x, y, z], hh, tt⟩ = 0) (hw : who < 3) :
    Calls Tryz.prog 37 #[bookV a 3 c ⟨[x, y, z], hh, tt⟩, .int .i64 10, .int .i64 who, .int .i64 key] w fun e w' =>
      (∃ a' n' c', e = .returned (.tuple #[bookV a' n' c' (releaseB ⟨[x, y, z], hh, tt⟩ who).1, .int .i64 (releaseB ⟨[x, y, z], hh, tt⟩ who).2]) ∧ Ints w' a' n' c' (releaseB ⟨[x, y, z], hh, tt⟩ who).1.k ∧ ∀ x, a' = some x → w.heap.size ≤ x.block) ∧ Below w.heap.size w w' := by
  have hpre : preB ⟨[x, y, z], hh, tt⟩ who = 0 := by simp [preB, hok, inB]; omega
  have HP := hide hpre
  clear hpre
  have HK := hide hok
  have hin : inB (who : Int) 0 2 = true := by simp [inB]; omega
  have hw' : (who : Int) < 3 := by omega
  unfold bookV
  obtain ⟨g, off, rfl, _, _, _⟩ := h.three
  have hcell : w.cell? ⟨g, off + who, none⟩ = some (.int .i64 ([x, y, z].getD who 0)) := by
    rcases h.row with h0 | ⟨g', off', ha, _, hr⟩
    · omega
    · cases ha; exact hr who hw
  generalize hkw : [x, y, z].getD who 0 = kw at hcell
  have HKW := hide (show keyOf ⟨[x, y, z], hh, tt⟩ who = kw from hkw)
  clear hkw
  go_enter Tryz.func37, Tryz.ntmps37
  go_wp2_with fail
  refine (CheckBook_c _ 3 c ⟨[x, y, z], hh, tt⟩ _ (h.below (B := w.heap.size) (by (repeat first | exact bel0 | assumption | refine bel1 ?_ | refine bel2 ?_ | refine bel3 ?_ | refine belowT ?_ (by assumption) | refine bel5 ?_ (by simp; try omega))) (Nat.le_refl _))).mono ?_
  rintro e w1 ⟨rfl, hb1⟩
  rw [HK.out]
  go_wp2_with (go_at_call 26; refine (in_c _ _ _ _).mono ?_; rintro e w1 ⟨rfl, rfl⟩)
  have b0 := keepc hb1 (p := ⟨w.heap.size, 0, none⟩) (u := .slice (some ⟨g, off, none⟩) 3 c) (by go_simp)
  have b1 := keepc hb1 (p := ⟨w.heap.size, 1, none⟩) (u := .int .i64 hh) (by go_simp)
  have b2 := keepc hb1 (p := ⟨w.heap.size, 2, none⟩) (u := .int .i64 tt) (by go_simp)
  have f0 := keepf hb1 (p := ⟨w.heap.size, 0, none⟩) (u := .slice (some ⟨g, off, none⟩) 3 c) (by go_simp) (b := false) (by go_simp)
  have f1 := keepf hb1 (p := ⟨w.heap.size, 1, none⟩) (u := .int .i64 hh) (by go_simp) (b := false) (by go_simp)
  have f2 := keepf hb1 (p := ⟨w.heap.size, 2, none⟩) (u := .int .i64 tt) (by go_simp) (b := false) (by go_simp)
  have r0 := keepc hb1 (p := ⟨w.heap.size + 1, 0, none⟩) (u := .slice none 0 0) (by go_simp)
  have r1 := keepc hb1 (p := ⟨w.heap.size + 1, 1, none⟩) (u := .int .i64 0) (by go_simp)
  have r2 := keepc hb1 (p := ⟨w.heap.size + 1, 2, none⟩) (u := .int .i64 0) (by go_simp)
  have u0 := keepf hb1 (p := ⟨w.heap.size + 1, 0, none⟩) (u := .slice none 0 0) (by go_simp) (b := false) (by go_simp)
  have u1 := keepf hb1 (p := ⟨w.heap.size + 1, 1, none⟩) (u := .int .i64 0) (by go_simp) (b := false) (by go_simp)
  have u2 := keepf hb1 (p := ⟨w.heap.size + 1, 2, none⟩) (u := .int .i64 0) (by go_simp) (b := false) (by go_simp)
  have bw1 : Below w.heap.size w w1 := by (repeat first | exact bel0 | assumption | refine bel1 ?_ | refine bel2 ?_ | refine bel3 ?_ | refine belowT ?_ (by assumption) | refine bel5 ?_ (by simp; try omega))
  have z1 : w.heap.size + 1 < w1.heap.size := World.block_lt_of_cell? _ _ r0
  clear hb1 hok
  go_cut [12, 13] (fun v12 v13 wx => v12 = .int .i64 0 ∧ v13 = .int .i64 0 ∧ Below w1.heap.size w1 wx)
  case first =>
    refine wp_region_any (by kernel_rfl) ?_
    refine book_maps (w0 := w1) (kd := 10) rfl (by simp) rfl ((Below.refl _ _).drew) ?hd ?hs
    case hs =>
      intro L a' w' hI i o ho h0 hall
      have hi : i < 15 := (Array.getElem?_eq_some_iff.1 ho).1
      rcases (by omega : i = 0 ∨ i = 1 ∨ i = 2 ∨ i = 3 ∨ i = 4 ∨ i = 5 ∨ i = 6 ∨ i = 7 ∨ i = 8 ∨ i = 9 ∨ i = 10 ∨ i = 11 ∨ i = 12 ∨ i = 13 ∨ i = 14) with rfl | rfl | rfl | rfl | rfl | rfl | rfl | rfl | rfl | rfl | rfl | rfl | rfl | rfl | rfl
      · cases (show some _ = some o from ho)
        exact step0 rfl rfl rfl rfl hI h0
      · cases (show some _ = some o from ho)
        exact step1 rfl rfl rfl rfl hI h0 (hall ⟨0, .data⟩ (by simp) rfl)
      · cases (show some _ = some o from ho)
        exact step2 rfl rfl rfl rfl hI h0 (hall ⟨0, .data⟩ (by simp) rfl)
      · cases (show some _ = some o from ho)
        exact step3 rfl rfl rfl rfl hI h0 (hall ⟨0, .data⟩ (by simp) rfl) (hall ⟨1, .data⟩ (by simp) rfl) (hall ⟨2, .data⟩ (by simp) rfl)
      · cases (show some _ = some o from ho)
        exact step4 rfl rfl rfl rfl hI h0
      · cases (show some _ = some o from ho)
        exact step5 rfl rfl rfl rfl (by decide) hI h0 (hall ⟨3, .data⟩ (by simp) rfl) (hall ⟨4, .data⟩ (by simp) rfl)
      · cases (show some _ = some o from ho)
        exact step6 rfl rfl rfl rfl hI h0
      · cases (show some _ = some o from ho)
        exact step7 rfl rfl rfl rfl hI h0 (hall ⟨6, .data⟩ (by simp) rfl)
      · cases (show some _ = some o from ho)
        exact step8 rfl rfl rfl rfl hI h0 (hall ⟨6, .data⟩ (by simp) rfl)
      · cases (show some _ = some o from ho)
        exact step9 rfl rfl rfl rfl hI h0 (hall ⟨6, .data⟩ (by simp) rfl)
      · cases (show some _ = some o from ho)
        exact step10 rfl rfl rfl rfl hI h0 (hall ⟨6, .data⟩ (by simp) rfl) (hall ⟨7, .data⟩ (by simp) rfl) (hall ⟨8, .data⟩ (by simp) rfl) (hall ⟨9, .data⟩ (by simp) rfl)
      · cases (show some _ = some o from ho)
        exact step11 rfl rfl rfl rfl hI h0
      · cases (show some _ = some o from ho)
        exact step12 rfl rfl rfl rfl (by decide) hI h0 (hall ⟨10, .data⟩ (by simp) rfl) (hall ⟨11, .data⟩ (by simp) rfl)
      · cases (show some _ = some o from ho)
        exact step13 rfl rfl rfl rfl hI h0 (hall ⟨5, .data⟩ (by simp) rfl)
      · cases (show some _ = some o from ho)
        exact step14 rfl rfl rfl rfl hI h0 (hall ⟨12, .data⟩ (by simp) rfl)
    case hd =>
      rintro L a' w' ⟨v, hI⟩ hr
      have hz := hI.sz
      have g0 : L.getD 0 false = true := bit_done hr 0 _ rfl hz (by intro e he hb; simp at he; try (rcases he with rfl | rfl | rfl | rfl | rfl | rfl | rfl | rfl | rfl | rfl | rfl | rfl | rfl | rfl | rfl | rfl <;> first | assumption | cases hb))
      have g1 : L.getD 1 false = true := bit_done hr 1 _ rfl hz (by intro e he hb; simp at he; try (rcases he with rfl | rfl | rfl | rfl | rfl | rfl | rfl | rfl | rfl | rfl | rfl | rfl | rfl | rfl | rfl | rfl <;> first | assumption | cases hb))
      have g2 : L.getD 2 false = true := bit_done hr 2 _ rfl hz (by intro e he hb; simp at he; try (rcases he with rfl | rfl | rfl | rfl | rfl | rfl | rfl | rfl | rfl | rfl | rfl | rfl | rfl | rfl | rfl | rfl <;> first | assumption | cases hb))
      have g3 : L.getD 3 false = true := bit_done hr 3 _ rfl hz (by intro e he hb; simp at he; try (rcases he with rfl | rfl | rfl | rfl | rfl | rfl | rfl | rfl | rfl | rfl | rfl | rfl | rfl | rfl | rfl | rfl <;> first | assumption | cases hb))
      have g4 : L.getD 4 false = true := bit_done hr 4 _ rfl hz (by intro e he hb; simp at he; try (rcases he with rfl | rfl | rfl | rfl | rfl | rfl | rfl | rfl | rfl | rfl | rfl | rfl | rfl | rfl | rfl | rfl <;> first | assumption | cases hb))
      have g5 : L.getD 5 false = true := bit_done hr 5 _ rfl hz (by intro e he hb; simp at he; try (rcases he with rfl | rfl | rfl | rfl | rfl | rfl | rfl | rfl | rfl | rfl | rfl | rfl | rfl | rfl | rfl | rfl <;> first | assumption | cases hb))
      have g6 : L.getD 6 false = true := bit_done hr 6 _ rfl hz (by intro e he hb; simp at he; try (rcases he with rfl | rfl | rfl | rfl | rfl | rfl | rfl | rfl | rfl | rfl | rfl | rfl | rfl | rfl | rfl | rfl <;> first | assumption | cases hb))
      have g7 : L.getD 7 false = true := bit_done hr 7 _ rfl hz (by intro e he hb; simp at he; try (rcases he with rfl | rfl | rfl | rfl | rfl | rfl | rfl | rfl | rfl | rfl | rfl | rfl | rfl | rfl | rfl | rfl <;> first | assumption | cases hb))
      have g8 : L.getD 8 false = true := bit_done hr 8 _ rfl hz (by intro e he hb; simp at he; try (rcases he with rfl | rfl | rfl | rfl | rfl | rfl | rfl | rfl | rfl | rfl | rfl | rfl | rfl | rfl | rfl | rfl <;> first | assumption | cases hb))
      have g9 : L.getD 9 false = true := bit_done hr 9 _ rfl hz (by intro e he hb; simp at he; try (rcases he with rfl | rfl | rfl | rfl | rfl | rfl | rfl | rfl | rfl | rfl | rfl | rfl | rfl | rfl | rfl | rfl <;> first | assumption | cases hb))
      have g10 : L.getD 10 false = true := bit_done hr 10 _ rfl hz (by intro e he hb; simp at he; try (rcases he with rfl | rfl | rfl | rfl | rfl | rfl | rfl | rfl | rfl | rfl | rfl | rfl | rfl | rfl | rfl | rfl <;> first | assumption | cases hb))
      have g11 : L.getD 11 false = true := bit_done hr 11 _ rfl hz (by intro e he hb; simp at he; try (rcases he with rfl | rfl | rfl | rfl | rfl | rfl | rfl | rfl | rfl | rfl | rfl | rfl | rfl | rfl | rfl | rfl <;> first | assumption | cases hb))
      have g12 : L.getD 12 false = true := bit_done hr 12 _ rfl hz (by intro e he hb; simp at he; try (rcases he with rfl | rfl | rfl | rfl | rfl | rfl | rfl | rfl | rfl | rfl | rfl | rfl | rfl | rfl | rfl | rfl <;> first | assumption | cases hb))
      have g13 : L.getD 13 false = true := bit_done hr 13 _ rfl hz (by intro e he hb; simp at he; try (rcases he with rfl | rfl | rfl | rfl | rfl | rfl | rfl | rfl | rfl | rfl | rfl | rfl | rfl | rfl | rfl | rfl <;> first | assumption | cases hb))
      have g14 : L.getD 14 false = true := bit_done hr 14 _ rfl hz (by intro e he hb; simp at he; try (rcases he with rfl | rfl | rfl | rfl | rfl | rfl | rfl | rfl | rfl | rfl | rfl | rfl | rfl | rfl | rfl | rfl <;> first | assumption | cases hb))
      have v12 : v 12 = .int .i64 0 := by rw [hI.b13 g13]; rfl
      have v13 : v 13 = .int .i64 0 := by rw [hI.b14 g14]; rfl
      have bl := hI.bel
      rw [hI.act]
      clear hI hr g0 g1 g2 g3 g4 g5 g6 g7 g8 g9 g10 g11 g12 g13 g14
      simp [laid, over, SB]
      rw [v12, v13]
      go_wp2_with fail
      go_meet
      case rel => exact ⟨rfl, rfl, bl⟩

  obtain ⟨rfl, rfl, hbc⟩ := hcut
  replace b0 := keepc hbc b0
  replace b1 := keepc hbc b1
  replace b2 := keepc hbc b2
  replace f0 : wc.frozen? _ = false := (hbc.frozen (p := ⟨w.heap.size, 0, none⟩) (by simp; omega)).trans f0
  replace f1 : wc.frozen? _ = false := (hbc.frozen (p := ⟨w.heap.size, 1, none⟩) (by simp; omega)).trans f1
  replace f2 : wc.frozen? _ = false := (hbc.frozen (p := ⟨w.heap.size, 2, none⟩) (by simp; omega)).trans f2
  replace u0 : wc.frozen? _ = false := (hbc.frozen (p := ⟨w.heap.size + 1, 0, none⟩) (by simp; omega)).trans u0
  replace u1 : wc.frozen? _ = false := (hbc.frozen (p := ⟨w.heap.size + 1, 1, none⟩) (by simp; omega)).trans u1
  replace u2 : wc.frozen? _ = false := (hbc.frozen (p := ⟨w.heap.size + 1, 2, none⟩) (by simp; omega)).trans u2
  replace r0 := keepc hbc r0
  replace r1 := keepc hbc r1
  replace r2 := keepc hbc r2
  replace bw1 := belowT bw1 hbc
  have ek := keepc bw1 hcell
  have zc : w.heap.size + 1 < wc.heap.size := World.block_lt_of_cell? _ _ r0
  clear hbc z1


  by_cases hkz : kw = 0
  · have HF := hide (show releaseB ⟨[x, y, z], hh, tt⟩ who = (zeroB, 8) by simp [releaseB, HP.out, HKW.out, hkz])
    subst hkz
    go_wp2_with (first | (go_at_call 60; refine (badB_c _ _).mono ?_; rintro e w9 ⟨rfl, hb9⟩; (replace r0 := keepc hb9 (p := ⟨w.heap.size + 1, 0, none⟩) (u := .slice none 0 0) (by first | exact r0 | go_simp)); (replace r1 := keepc hb9 (p := ⟨w.heap.size + 1, 1, none⟩) (u := .int .i64 0) (by first | exact r1 | go_simp)); (replace r2 := keepc hb9 (p := ⟨w.heap.size + 1, 2, none⟩) (u := .int .i64 0) (by first | exact r2 | go_simp)); (replace u0 : w9.frozen? ⟨w.heap.size + 1, 0, none⟩ = false := (hb9.frozen (p := ⟨w.heap.size + 1, 0, none⟩) (by first | (simp; done) | (simp; omega) | (simp [World.setCell]; omega))).trans (by first | exact u0 | go_simp)); (replace u1 : w9.frozen? ⟨w.heap.size + 1, 1, none⟩ = false := (hb9.frozen (p := ⟨w.heap.size + 1, 1, none⟩) (by first | (simp; done) | (simp; omega) | (simp [World.setCell]; omega))).trans (by first | exact u1 | go_simp)); (replace u2 : w9.frozen? ⟨w.heap.size + 1, 2, none⟩ = false := (hb9.frozen (p := ⟨w.heap.size + 1, 2, none⟩) (by first | (simp; done) | (simp; omega) | (simp [World.setCell]; omega))).trans (by first | exact u2 | go_simp))))
    refine bodyPost_ret (v := .tuple #[.agg #[.slice none 0 0, .int .i64 0, .int .i64 0], .int .i64 8]) (by simp [results, Tryz.results37, go_sem, r0, r1, r2]) rfl ⟨⟨none, 0, 0, by rw [HF.out]; rfl, by rw [HF.out]; exact Ints.nilSlice _, fun x e => by cases e⟩, ?_⟩
    (repeat first | exact bel0 | assumption | refine bel1 ?_ | refine bel2 ?_ | refine bel3 ?_ | refine belowT ?_ (by assumption) | refine bel5 ?_ (by simp; try omega))
  · have hkz' : (kw == 0) = false := by simpa using hkz
    cases hz : hh == (who : Int)
    · have HF := hide (show releaseB ⟨[x, y, z], hh, tt⟩ who = (⟨[x, y, z], hh, tt⟩, 0) by simp at hz; simp only [releaseB, HP.out, HKW.out]; simp [hkz, hz])
      clear hkz
      go_wp2_with (first | (go_at_call 61; refine (CloneI_c g off c x y z _ (h.below bw1 (Nat.le_refl _))).mono ?_; rintro e w4 ⟨⟨g2, cap, rfl, hm⟩, hb4⟩; (replace b0 := keepc hb4 b0); (replace b1 := keepc hb4 b1); (replace b2 := keepc hb4 b2); (replace r0 := keepc hb4 r0); (replace r1 := keepc hb4 r1); (replace r2 := keepc hb4 r2); (replace f0 : w4.frozen? _ = false := (hb4.frozen (p := ⟨w.heap.size, 0, none⟩) (by (first | (simp; done) | (simp; omega)))).trans f0); (replace f1 : w4.frozen? _ = false := (hb4.frozen (p := ⟨w.heap.size, 1, none⟩) (by (first | (simp; done) | (simp; omega)))).trans f1); (replace f2 : w4.frozen? _ = false := (hb4.frozen (p := ⟨w.heap.size, 2, none⟩) (by (first | (simp; done) | (simp; omega)))).trans f2); (replace u0 : w4.frozen? _ = false := (hb4.frozen (p := ⟨w.heap.size + 1, 0, none⟩) (by (first | (simp; done) | (simp; omega)))).trans u0); (replace u1 : w4.frozen? _ = false := (hb4.frozen (p := ⟨w.heap.size + 1, 1, none⟩) (by (first | (simp; done) | (simp; omega)))).trans u1); (replace u2 : w4.frozen? _ = false := (hb4.frozen (p := ⟨w.heap.size + 1, 2, none⟩) (by (first | (simp; done) | (simp; omega)))).trans u2); (have m0 := hm.cells who hw); (have s0 := hm.soft who hw); (have hgb := hm.base); (have hgl := hm.lt); (have bw4 := belowT bw1 hb4); (have gn1 : g2 ≠ w.heap.size := by omega); (have gn2 : g2 ≠ w.heap.size + 1 := by omega); (have gn3 : w.heap.size ≠ g2 := by omega); (have gn4 : w.heap.size + 1 ≠ g2 := by omega); (have lg : w.heap.size ≤ g2 := by omega); (have z4 : w.heap.size + 1 < w4.heap.size := World.block_lt_of_cell? _ _ r0)))
      refine bodyPost_ret (v := .tuple #[.agg #[.slice (some ⟨g2, 0, none⟩) 3 cap, .int .i64 (hh), .int .i64 (tt)], .int .i64 0]) (by simp [results, Tryz.results37, go_sem, r0, r1, r2, b0, b1, b2, gn1, gn2, gn3, gn4]) rfl ⟨⟨some ⟨g2, 0, none⟩, 3, cap, by rw [HF.out], ?_, fun x e => by cases e; exact lg⟩, ?_⟩
      · rw [HF.out]
        exact ((((hm.other w.heap.size 0 _ gn3).other (w.heap.size + 1) 0 _ gn4).other (w.heap.size + 1) 1 _ gn4).other (w.heap.size + 1) 2 _ gn4).at3 (by simp)
      · repeat (refine Below.setCell ?_ (by first | exact Nat.le_refl _ | exact Nat.le_succ _ | exact lg) _)
        exact bw4
    · have HF := hide (show releaseB ⟨[x, y, z], hh, tt⟩ who = (⟨[x, y, z], -1, 0⟩, 0) by simp at hz; simp only [releaseB, HP.out, HKW.out]; simp [hkz, hz])
      clear hkz
      go_wp2_with (first | (go_at_call 61; refine (CloneI_c g off c x y z _ (h.below bw1 (Nat.le_refl _))).mono ?_; rintro e w4 ⟨⟨g2, cap, rfl, hm⟩, hb4⟩; (replace b0 := keepc hb4 b0); (replace b1 := keepc hb4 b1); (replace b2 := keepc hb4 b2); (replace r0 := keepc hb4 r0); (replace r1 := keepc hb4 r1); (replace r2 := keepc hb4 r2); (replace f0 : w4.frozen? _ = false := (hb4.frozen (p := ⟨w.heap.size, 0, none⟩) (by (first | (simp; done) | (simp; omega)))).trans f0); (replace f1 : w4.frozen? _ = false := (hb4.frozen (p := ⟨w.heap.size, 1, none⟩) (by (first | (simp; done) | (simp; omega)))).trans f1); (replace f2 : w4.frozen? _ = false := (hb4.frozen (p := ⟨w.heap.size, 2, none⟩) (by (first | (simp; done) | (simp; omega)))).trans f2); (replace u0 : w4.frozen? _ = false := (hb4.frozen (p := ⟨w.heap.size + 1, 0, none⟩) (by (first | (simp; done) | (simp; omega)))).trans u0); (replace u1 : w4.frozen? _ = false := (hb4.frozen (p := ⟨w.heap.size + 1, 1, none⟩) (by (first | (simp; done) | (simp; omega)))).trans u1); (replace u2 : w4.frozen? _ = false := (hb4.frozen (p := ⟨w.heap.size + 1, 2, none⟩) (by (first | (simp; done) | (simp; omega)))).trans u2); (have m0 := hm.cells who hw); (have s0 := hm.soft who hw); (have hgb := hm.base); (have hgl := hm.lt); (have bw4 := belowT bw1 hb4); (have gn1 : g2 ≠ w.heap.size := by omega); (have gn2 : g2 ≠ w.heap.size + 1 := by omega); (have gn3 : w.heap.size ≠ g2 := by omega); (have gn4 : w.heap.size + 1 ≠ g2 := by omega); (have lg : w.heap.size ≤ g2 := by omega); (have z4 : w.heap.size + 1 < w4.heap.size := World.block_lt_of_cell? _ _ r0)))
      refine bodyPost_ret (v := .tuple #[.agg #[.slice (some ⟨g2, 0, none⟩) 3 cap, .int .i64 (-1), .int .i64 (0)], .int .i64 0]) (by simp [results, Tryz.results37, go_sem, r0, r1, r2, b0, b1, b2, gn1, gn2, gn3, gn4]) rfl ⟨⟨some ⟨g2, 0, none⟩, 3, cap, by rw [HF.out], ?_, fun x e => by cases e; exact lg⟩, ?_⟩
      · rw [HF.out]
        exact ((((((hm.other w.heap.size 0 _ gn3).other w.heap.size 1 _ gn3).other w.heap.size 2 _ gn3).other (w.heap.size + 1) 0 _ gn4).other (w.heap.size + 1) 1 _ gn4).other (w.heap.size + 1) 2 _ gn4).at3 (by simp)
      · repeat (refine Below.setCell ?_ (by first | exact Nat.le_refl _ | exact Nat.le_succ _ | exact lg) _)
        exact bw4

end Go.Proofs.YtkamnbigfdbgbaaGreatDoor
