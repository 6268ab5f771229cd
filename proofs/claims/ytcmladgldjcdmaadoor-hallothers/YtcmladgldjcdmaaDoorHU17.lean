/- The contracts of desk's CheckAnswer, checkDo, reserved, turned, may and read; no condition but that the arguments read as data, and where a right desk is said so. -/
import Derived.Test.YtcmladgldjcdmaaDoorHU16
import Derived.Test.YtcmladgldjcdmaaDoorHU5
import Derived.Deep.RegionHeld3
import Derived.Test.YtcmladgldjcdmaaDoorHU8
import Derived.Test.YtcmladgldjcdmaaDoorHU9
namespace Go.Proofs.YtcmladgldjcdmaaDoor
open Go.RowKit
set_option linter.unusedVariables false
set_option maxRecDepth 100000
set_option linter.unusedSimpArgs false

set_option maxHeartbeats 2000000 in
theorem DCheckAnswer_c (x : AV) (w : World) (h : x.ok w) : Calls Tryd.prog 37 #[x.v] w fun e w' => e = .returned (.int .i64 (checkA x.p)) ∧ Below w.heap.size w w' := by
  obtain ⟨ee, tt, a, n, c, l⟩ := x
  have hI : Ints w a n c l := h
  dsimp only [AV.v, AV.p]
  have hlen := hI.len
  have hmax := hI.max
  have hle := hI.le
  rcases (by omega : ee < 0 ∨ (0 ≤ ee ∧ 9 < ee) ∨ (0 ≤ ee ∧ ee ≤ 9)) with h1 | ⟨h0, h1⟩ | ⟨h0, h1⟩
  · have HC : Hid (checkA ⟨ee, tt, l⟩ = 3) := hide (by unfold checkA; exact if_pos (.inl (by simp [outB]; omega)))
    go_enter Tryd.func37, Tryd.ntmps37
    go_wp2
    go_ret
    exact ⟨ret_int HC.out.symm, by (repeat first | exact bel0 | assumption | refine bel1 ?_ | refine bel2 ?_ | refine bel3 ?_ | refine belowT ?_ (by assumption) | refine bel5 ?_ (by simp; try omega))⟩
  · have HC : Hid (checkA ⟨ee, tt, l⟩ = 3) := hide (by unfold checkA; exact if_pos (.inl (by simp [outB]; omega)))
    go_enter Tryd.func37, Tryd.ntmps37
    go_wp2
    go_ret
    exact ⟨ret_int HC.out.symm, by (repeat first | exact bel0 | assumption | refine bel1 ?_ | refine bel2 ?_ | refine bel3 ?_ | refine belowT ?_ (by assumption) | refine bel5 ?_ (by simp; try omega))⟩
  · cases ht : inB tt 0 7
    · have HC : Hid (checkA ⟨ee, tt, l⟩ = 3) := hide (by unfold checkA; exact if_pos (.inr (by rw [inB_outB] at ht; simpa using ht)))
      have HT := hide ht
      clear ht
      go_enter Tryd.func37, Tryd.ntmps37
      go_wp2_with (go_at_call 53; refine (dwithin_c _ _ _ _).mono ?_; rintro e w1 ⟨rfl, rfl⟩; rw [HT.out])
      go_ret
      exact ⟨ret_int HC.out.symm, by (repeat first | exact bel0 | assumption | refine bel1 ?_ | refine bel2 ?_ | refine bel3 ?_ | refine belowT ?_ (by assumption) | refine bel5 ?_ (by simp; try omega))⟩
    · have HC : Hid (checkA ⟨ee, tt, l⟩ = if 8 < l.length then 2 else if l.any (outB 0 999) then 3 else if ee ≠ 0 ∧ (tt ≠ 0 ∨ l ≠ []) then 4 else 0) := hide (by
        unfold checkA
        exact if_neg (by rw [inB_outB] at ht; simp only [Bool.not_eq_true'] at ht; rw [ht]; simp [outB]; omega))
      have HT := hide ht
      clear ht
      by_cases h8 : 8 < n
      · have h8' : (8 : Int) < (n : Int) := by omega
        go_enter Tryd.func37, Tryd.ntmps37
        go_wp2_with (go_at_call 53; refine (dwithin_c _ _ _ _).mono ?_; rintro e w1 ⟨rfl, rfl⟩; rw [HT.out])
        go_ret
        exact ⟨ret_int (by rw [HC.out, hlen, if_pos h8]), by (repeat first | exact bel0 | assumption | refine bel1 ?_ | refine bel2 ?_ | refine bel3 ?_ | refine belowT ?_ (by assumption) | refine bel5 ?_ (by simp; try omega))⟩
      · have h8' : ¬ (8 : Int) < (n : Int) := by omega
        go_enter Tryd.func37, Tryd.ntmps37
        go_wp2_with (go_at_call 53; refine (dwithin_c _ _ _ _).mono ?_; rintro e w1 ⟨rfl, rfl⟩; rw [HT.out])
        go_loop [26] (fun i => ∃ k : Nat, k ≤ n ∧ i = .int .i64 k ∧ (l.take k).any (outB 0 999) = false) (fun i => n - (intOf i).toNat)
        case atStart => exact ⟨0, by omega, rfl, by simp⟩
        case round =>
          obtain ⟨k, hk, rfl, hno⟩ := hrel
          have HN := hide hno
          clear hno
          by_cases hlt : k < n
          · have hlt' : (k : Int) < (n : Int) := by omega
            rcases hI.row with h00 | ⟨b1, o1, rfl, _, hr1⟩
            · omega
            · have hi1 := past1 (hr1 k hlt)
              generalize hx : l.getD k 0 = x at hi1
              have HX := hide hx
              clear hx hr1
              cases hin : inB x 0 999
              · have HIN := hide hin
                clear hin
                go_wp2_with (go_at_call 53; refine (dwithin_c _ _ _ _).mono ?_; rintro e w1 ⟨rfl, rfl⟩; rw [HIN.out])
                go_ret
                refine ⟨ret_int ?_, by (repeat first | exact bel0 | assumption | refine bel1 ?_ | refine bel2 ?_ | refine bel3 ?_ | refine belowT ?_ (by assumption) | refine bel5 ?_ (by simp; try omega))⟩
                have hin := HIN.out
                rw [inB_outB] at hin
                rw [HC.out, hlen, if_neg h8, any_of_getD _ l k (by omega) (by rw [HX.out]; simpa using hin)]
                rfl
              · have HIN := hide hin
                clear hin
                go_wp2_with (go_at_call 53; refine (dwithin_c _ _ _ _).mono ?_; rintro e w1 ⟨rfl, rfl⟩; rw [HIN.out])
                have hin := HIN.out
                rw [inB_outB] at hin
                exact ⟨⟨k + 1, by omega, by go_num, any_take_step _ l k (by omega) HN.out (by rw [HX.out]; simpa using hin)⟩, by simp [intOf]; omega⟩
          · obtain rfl : k = n := by omega
            have hno := HN.out
            rw [List.take_of_length_le (by omega)] at hno
            have HN2 := hide hno
            clear hno HN
            cases e0 : ee != 0
            · go_wp2
              go_ret
              exact ⟨ret_int (by simp at e0; rw [HC.out, hlen, if_neg h8, HN2.out]; simp [e0]), by (repeat first | exact bel0 | assumption | refine bel1 ?_ | refine bel2 ?_ | refine bel3 ?_ | refine belowT ?_ (by assumption) | refine bel5 ?_ (by simp; try omega))⟩
            · cases t0 : tt != 0
              · by_cases hk0 : 0 < k
                · have hk0' : (0 : Int) < (k : Int) := by omega
                  go_wp2
                  go_ret
                  have hl : l ≠ [] := fun e => by rw [e] at hlen; simp at hlen; omega
                  exact ⟨ret_int (by simp at e0; rw [HC.out, hlen, if_neg h8, HN2.out]; simp [e0, hl]), by (repeat first | exact bel0 | assumption | refine bel1 ?_ | refine bel2 ?_ | refine bel3 ?_ | refine belowT ?_ (by assumption) | refine bel5 ?_ (by simp; try omega))⟩
                · have hk0' : ¬ (0 : Int) < (k : Int) := by omega
                  go_wp2
                  go_ret
                  have hl : l = [] := List.eq_nil_of_length_eq_zero (by omega)
                  exact ⟨ret_int (by simp at t0; rw [HC.out, hlen, if_neg h8, HN2.out]; simp [t0, hl]), by (repeat first | exact bel0 | assumption | refine bel1 ?_ | refine bel2 ?_ | refine bel3 ?_ | refine belowT ?_ (by assumption) | refine bel5 ?_ (by simp; try omega))⟩
              · go_wp2
                go_ret
                exact ⟨ret_int (by simp at e0 t0; rw [HC.out, hlen, if_neg h8, HN2.out]; simp [e0, t0]), by (repeat first | exact bel0 | assumption | refine bel1 ?_ | refine bel2 ?_ | refine bel3 ?_ | refine belowT ?_ (by assumption) | refine bel5 ?_ (by simp; try omega))⟩

theorem DCheckDo_c (d : DV) (who : Int) (a : Option Addr) (m c : Nat) (x : PC) (w : World) (hS : Shapes w) (h : d.ok w) (hx : Ints w a m c x.d) :
    Calls Tryd.prog 42 #[d.v, .int .i64 who, cmdV a m c x] w fun e w' => e = .returned (.int .i64 (doE d.p who x)) ∧ Below w.heap.size w w' := by
  have HD := fun w' (hw : d.ok w') => DCheck_c d w' hw
  have HQ := fun w' hS' hx' => cmdCheck_c a m c x w' hS' hx'
  have HC : Hid (doE d.p who x = if checkD d.p ≠ 0 then checkD d.p else if inB who 0 2 = false then 5 else checkC x) := hide rfl
  obtain ⟨za, zn, zc, Z, ka, kn, kc, b⟩ := d
  obtain ⟨xk, xz, xn, xt, xd⟩ := x
  dsimp only [DV.v, cmdV] at *
  have H1 := hide HD
  have H2 := hide HQ
  clear HD HQ
  go_enter Tryd.func42, Tryd.ntmps42
  go_wp2_with fail
  refine (H1.out _ (h.below (B := w.heap.size) (by (repeat first | exact bel0 | assumption | refine bel1 ?_ | refine bel2 ?_ | refine bel3 ?_ | refine belowT ?_ (by assumption) | refine bel5 ?_ (by simp; try omega))) (Nat.le_refl _))).mono ?_
  rintro e w1 ⟨rfl, hb1⟩
  have c0 := keepc hb1 (p := ⟨w.heap.size + 1, 0, none⟩) (u := .int .i64 xk) (by go_simp)
  have c1 := keepc hb1 (p := ⟨w.heap.size + 1, 1, none⟩) (u := .int .i64 xz) (by go_simp)
  have c2 := keepc hb1 (p := ⟨w.heap.size + 1, 2, none⟩) (u := .int .i64 xn) (by go_simp)
  have c3 := keepc hb1 (p := ⟨w.heap.size + 1, 3, none⟩) (u := .int .i64 xt) (by go_simp)
  have c4 := keepc hb1 (p := ⟨w.heap.size + 1, 4, none⟩) (u := .slice a m c) (by go_simp)
  have bw : Below w.heap.size w w1 := by (repeat first | exact bel0 | assumption | refine bel1 ?_ | refine bel2 ?_ | refine bel3 ?_ | refine belowT ?_ (by assumption) | refine bel5 ?_ (by simp; try omega))
  clear hb1
  generalize checkD _ = x at *
  cases h0 : x != 0
  · cases hw : inB who 0 2
    · have HW := hide hw
      clear hw
      go_wp2_with (go_at_call 53; refine (dwithin_c _ _ _ _).mono ?_; rintro e w1 ⟨rfl, rfl⟩; rw [HW.out])
      go_ret
      exact ⟨ret_int (by rw [HC.out, HW.out]; simp at h0; simp [h0]), bw⟩
    · have HW := hide hw
      clear hw
      go_wp2_with (first | (go_at_call 53; refine (dwithin_c _ _ _ _).mono ?_; rintro e w1 ⟨rfl, rfl⟩; rw [HW.out]))
      refine (H2.out _ (hS.below bw) (hx.below bw (Nat.le_refl _))).mono ?_
      rintro e w2 ⟨rfl, hb2⟩
      go_wp2
      go_ret
      exact ⟨ret_int (by rw [HC.out, HW.out]; simp at h0; simp [h0]), by (repeat first | exact bel0 | assumption | refine bel1 ?_ | refine bel2 ?_ | refine bel3 ?_ | refine belowT ?_ (by assumption) | refine bel5 ?_ (by simp; try omega))⟩
  · go_wp2
    go_ret
    exact ⟨ret_int (by rw [HC.out]; simp at h0; simp [h0]), bw⟩

theorem turned_c (a : Option Addr) (n c : Nat) (Z : List ZV) (ca : Option Addr) (cn cc : Nat) (x : PC) (w : World) (h : Zones w a n c Z) :
    Calls Tryd.prog 75 #[.slice a n c, cmdV ca cn cc x] w fun e w' => (∃ a' n' c' Z', e = .returned (.tuple #[.slice a' n' c', .int .i64 (zoneDo (Z.map ZV.p) x).2]) ∧ Zones w' a' n' c' Z' ∧ NewZ w.heap.size a' Z' ∧ Z'.map ZV.p = (zoneDo (Z.map ZV.p) x).1) ∧ Below w.heap.size w w' := by
  obtain ⟨xk, xz, xn, xt, xd⟩ := x
  unfold cmdV
  dsimp only
  by_cases h1 : xk = 1
  · subst h1
    rw [show zoneDo (Z.map ZV.p) ⟨1, xz, xn, xt, xd⟩ = holdP (Z.map ZV.p) xz from rfl]
    go_enter Tryd.func75, Tryd.ntmps75
    go_wp2_with fail
    refine (YHold_f a n c Z xz _ (h.below (B := w.heap.size) (by (repeat first | exact bel0 | assumption | refine bel1 ?_ | refine bel2 ?_ | refine bel3 ?_ | refine belowT ?_ (by assumption) | refine bel5 ?_ (by simp; try omega))) (Nat.le_refl _))).mono ?_
    rintro e w1 ⟨⟨a1, n1, c1, Z1, rfl, i1, nz, p1⟩, hb1⟩
    have P1 := hide p1
    have N1 := hide (show NewZ w.heap.size a1 Z1 from ⟨fun x e => Nat.le_trans (by simp) (nz.1 x e), nz.2.mono (by simp)⟩)
    clear p1 nz
    go_wp2
    go_ret2
    exact ⟨⟨a1, n1, c1, Z1, rfl, i1, N1.out, P1.out⟩, by (repeat first | exact bel0 | assumption | refine bel1 ?_ | refine bel2 ?_ | refine bel3 ?_ | refine belowT ?_ (by assumption) | refine bel5 ?_ (by simp; try omega))⟩
  · have t1 : (xk == 1) = false := by simpa using h1
    by_cases h2 : xk = 2
    · subst h2
      rw [show zoneDo (Z.map ZV.p) ⟨2, xz, xn, xt, xd⟩ = closeP (Z.map ZV.p) xz from rfl]
      go_enter Tryd.func75, Tryd.ntmps75
      go_wp2_with fail
      refine (YClose_f a n c Z xz _ (h.below (B := w.heap.size) (by (repeat first | exact bel0 | assumption | refine bel1 ?_ | refine bel2 ?_ | refine bel3 ?_ | refine belowT ?_ (by assumption) | refine bel5 ?_ (by simp; try omega))) (Nat.le_refl _))).mono ?_
      rintro e w1 ⟨⟨a1, n1, c1, Z1, rfl, i1, nz, p1⟩, hb1⟩
      have P1 := hide p1
      have N1 := hide (show NewZ w.heap.size a1 Z1 from ⟨fun x e => Nat.le_trans (by simp) (nz.1 x e), nz.2.mono (by simp)⟩)
      clear p1 nz
      go_wp2
      go_ret2
      exact ⟨⟨a1, n1, c1, Z1, rfl, i1, N1.out, P1.out⟩, by (repeat first | exact bel0 | assumption | refine bel1 ?_ | refine bel2 ?_ | refine bel3 ?_ | refine belowT ?_ (by assumption) | refine bel5 ?_ (by simp; try omega))⟩
    · have t2 : (xk == 2) = false := by simpa using h2
      by_cases h3 : xk = 3
      · subst h3
        rw [show zoneDo (Z.map ZV.p) ⟨3, xz, xn, xt, xd⟩ = finishP (Z.map ZV.p) xz from rfl]
        go_enter Tryd.func75, Tryd.ntmps75
        go_wp2_with fail
        refine (YFinish_f a n c Z xz _ (h.below (B := w.heap.size) (by (repeat first | exact bel0 | assumption | refine bel1 ?_ | refine bel2 ?_ | refine bel3 ?_ | refine belowT ?_ (by assumption) | refine bel5 ?_ (by simp; try omega))) (Nat.le_refl _))).mono ?_
        rintro e w1 ⟨⟨a1, n1, c1, Z1, rfl, i1, nz, p1⟩, hb1⟩
        have P1 := hide p1
        have N1 := hide (show NewZ w.heap.size a1 Z1 from ⟨fun x e => Nat.le_trans (by simp) (nz.1 x e), nz.2.mono (by simp)⟩)
        clear p1 nz
        go_wp2
        go_ret2
        exact ⟨⟨a1, n1, c1, Z1, rfl, i1, N1.out, P1.out⟩, by (repeat first | exact bel0 | assumption | refine bel1 ?_ | refine bel2 ?_ | refine bel3 ?_ | refine belowT ?_ (by assumption) | refine bel5 ?_ (by simp; try omega))⟩
      · have t3 : (xk == 3) = false := by simpa using h3
        rw [show zoneDo (Z.map ZV.p) ⟨xk, xz, xn, xt, xd⟩ = resetP (Z.map ZV.p) xz by simp [zoneDo, h1, h2, h3]]
        clear h1 h2 h3
        go_enter Tryd.func75, Tryd.ntmps75
        go_wp2_with fail
        refine (YReset_f a n c Z xz _ (h.below (B := w.heap.size) (by (repeat first | exact bel0 | assumption | refine bel1 ?_ | refine bel2 ?_ | refine bel3 ?_ | refine belowT ?_ (by assumption) | refine bel5 ?_ (by simp; try omega))) (Nat.le_refl _))).mono ?_
        rintro e w1 ⟨⟨a1, n1, c1, Z1, rfl, i1, nz, p1⟩, hb1⟩
        have P1 := hide p1
        have N1 := hide (show NewZ w.heap.size a1 Z1 from ⟨fun x e => Nat.le_trans (by simp) (nz.1 x e), nz.2.mono (by simp)⟩)
        clear p1 nz
        go_wp2
        go_ret2
        exact ⟨⟨a1, n1, c1, Z1, rfl, i1, N1.out, P1.out⟩, by (repeat first | exact bel0 | assumption | refine bel1 ?_ | refine bel2 ?_ | refine bel3 ?_ | refine belowT ?_ (by assumption) | refine bel5 ?_ (by simp; try omega))⟩

theorem dmay_c (a : Option Addr) (n c : Nat) (b : PB) (who : Int) (ca : Option Addr) (cn cc : Nat) (x : PC) (w : World) (h : Ints w a n c b.k) :
    Calls Tryd.prog 61 #[bookV a n c b, .int .i64 who, cmdV ca cn cc x] w fun e w' => e = .returned (.bool (mayB b who (x.k != 7)).1) ∧ Below w.heap.size w w' := by
  obtain ⟨xk, xz, xn, xt, xd⟩ := x
  have HM := hide (fun w' h' => BMay_c a n c b who (xk != 7) w' h')
  unfold cmdV
  unfold bookV at *
  dsimp only
  generalize hm : mayB b who (xk != 7) = mb at *
  clear hm
  go_enter Tryd.func61, Tryd.ntmps61
  go_wp2_with fail
  refine (HM.out _ (h.below (B := w.heap.size) (by (repeat first | exact bel0 | assumption | refine bel1 ?_ | refine bel2 ?_ | refine bel3 ?_ | refine belowT ?_ (by assumption) | refine bel5 ?_ (by simp; try omega))) (Nat.le_refl _))).mono ?_
  rintro e w1 ⟨rfl, hb1⟩
  go_wp2
  go_ret
  exact ⟨rfl, by (repeat first | exact bel0 | assumption | refine bel1 ?_ | refine bel2 ?_ | refine bel3 ?_ | refine belowT ?_ (by assumption) | refine bel5 ?_ (by simp; try omega))⟩

end Go.Proofs.YtcmladgldjcdmaaDoor

/- The contracts of hall's copy of an answer, and of checkLast; no condition but that the arguments read as data. -/
namespace Go.Proofs.YtcmladgldjcdmaaDoor
open Go.RowKit
set_option linter.unusedVariables false
set_option maxRecDepth 100000
set_option linter.unusedSimpArgs false

theorem hwholeA_c (x : AV) (w : World) (h : x.ok w) (hn : x.n ≤ 100000) :
    Calls Tryd.prog 14 #[x.v] w fun e w' => (∃ q, e = .returned (.agg #[.int .i64 x.e, .int .i64 x.t, .slice (some ⟨q, 0, none⟩) x.n x.n]) ∧ Ints w' (some ⟨q, 0, none⟩) x.n x.n x.d ∧ w.heap.size ≤ q) ∧ Below w.heap.size w w' :=
  (pwholeA_c x w h hn).mono fun e w' ⟨⟨q, h1, h2, h3, _⟩, h4⟩ => ⟨⟨q, h1, h2, h3⟩, h4⟩

set_option maxHeartbeats 1000000 in
theorem hcheckLast_c (y : LV) (w : World) (h : y.ok w) : Calls Tryd.prog 24 #[y.v] w fun e w' => e = .returned (.int .i64 (checkL y.p)) ∧ Below w.heap.size w w' := by
  obtain ⟨s, ⟨ee, tt, a, n, c, l⟩⟩ := y
  have hI : Ints w a n c l := h
  have HA : Hid (∀ w' : World, Ints w' a n c l → Calls Tryd.prog 37 #[.agg #[.int .i64 ee, .int .i64 tt, .slice a n c]] w' fun e w'' => e = .returned (.int .i64 (checkA ⟨ee, tt, l⟩)) ∧ Below w'.heap.size w' w'') := hide (fun w' h' => DCheckAnswer_c ⟨ee, tt, a, n, c, l⟩ w' h')
  have HS : Hid (∀ w' : World, Ints w' a n c l → Calls Tryd.prog 21 #[.agg #[.int .i64 ee, .int .i64 tt, .slice a n c], .agg #[.int .i64 0, .int .i64 0, .slice none 0 0]] w' fun e w'' => e = .returned (.bool (sameA ⟨ee, tt, l⟩ zeroA)) ∧ Below w'.heap.size w' w'') := hide (fun w' h' => psameA_c ⟨ee, tt, a, n, c, l⟩ (AV.err 0) w' h' (AV.err_ok w' 0))
  have HC : Hid (checkL (LV.p ⟨s, ⟨ee, tt, a, n, c, l⟩⟩) = if inB s 0 40 = false then 3 else if checkA ⟨ee, tt, l⟩ ≠ 0 then checkA ⟨ee, tt, l⟩ else if s = 0 ∧ sameA ⟨ee, tt, l⟩ zeroA = false then 4 else 0) := hide rfl
  generalize checkL _ = r at *
  generalize checkA _ = ca at *
  generalize sameA _ _ = sa at *
  dsimp only [LV.v] at *
  clear h
  rcases (by omega : s < 0 ∨ (0 ≤ s ∧ 40 < s) ∨ (0 ≤ s ∧ s ≤ 40)) with h1 | ⟨h0, h1⟩ | ⟨h0, h1⟩
  · have HB : Hid (inB s 0 40 = false) := hide (by simp [inB]; omega)
    go_enter Tryd.func24, Tryd.ntmps24
    go_wp2
    go_ret
    exact ⟨ret_int (by rw [HC.out, if_pos HB.out]), by (repeat first | exact bel0 | assumption | refine bel1 ?_ | refine bel2 ?_ | refine bel3 ?_ | refine belowT ?_ (by assumption) | refine bel5 ?_ (by simp; try omega))⟩
  · have HB : Hid (inB s 0 40 = false) := hide (by simp [inB]; omega)
    go_enter Tryd.func24, Tryd.ntmps24
    go_wp2
    go_ret
    exact ⟨ret_int (by rw [HC.out, if_pos HB.out]), by (repeat first | exact bel0 | assumption | refine bel1 ?_ | refine bel2 ?_ | refine bel3 ?_ | refine belowT ?_ (by assumption) | refine bel5 ?_ (by simp; try omega))⟩
  · have HB : Hid (¬ (inB s 0 40 = false)) := hide (by simp [inB]; omega)
    go_enter Tryd.func24, Tryd.ntmps24
    go_wp2_with fail
    refine (HA.out _ (hI.below (B := w.heap.size) (by (repeat first | exact bel0 | assumption | refine bel1 ?_ | refine bel2 ?_ | refine bel3 ?_ | refine belowT ?_ (by assumption) | refine bel5 ?_ (by simp; try omega))) (Nat.le_refl _))).mono ?_
    rintro e w1 ⟨rfl, hb1⟩
    have c1 := keepc hb1 (p := ⟨w.heap.size, 0, none⟩) (u := .int .i64 s) (by go_simp)
    have c2 := keepc hb1 (p := ⟨w.heap.size, 1, none⟩) (u := .int .i64 ee) (by go_simp)
    have c3 := keepc hb1 (p := ⟨w.heap.size, 2, none⟩) (u := .int .i64 tt) (by go_simp)
    have c4 := keepc hb1 (p := ⟨w.heap.size, 3, none⟩) (u := .slice a n c) (by go_simp)
    have bw : Below w.heap.size w w1 := by (repeat first | exact bel0 | assumption | refine bel1 ?_ | refine bel2 ?_ | refine bel3 ?_ | refine belowT ?_ (by assumption) | refine bel5 ?_ (by simp; try omega))
    clear hb1
    cases e1 : ca != 0
    · cases e2 : s == 0
      · go_wp2
        go_ret
        exact ⟨ret_int (by simp at e1 e2; rw [HC.out, if_neg HB.out, if_neg (by simp [e1]), if_neg (by simp [e2])]), bw⟩
      · go_wp2_with fail
        refine (HS.out _ (hI.below (B := w.heap.size) (by (repeat first | exact bel0 | assumption | refine bel1 ?_ | refine bel2 ?_ | refine bel3 ?_ | refine belowT ?_ (by assumption) | refine bel5 ?_ (by simp; try omega))) (Nat.le_refl _))).mono ?_
        rintro e w2 ⟨rfl, hb2⟩
        have bw2 : Below w.heap.size w w2 := by (repeat first | exact bel0 | assumption | refine bel1 ?_ | refine bel2 ?_ | refine bel3 ?_ | refine belowT ?_ (by assumption) | refine bel5 ?_ (by simp; try omega))
        clear hb2
        cases sa
        · go_wp2
          go_ret
          exact ⟨ret_int (by simp at e1 e2; rw [HC.out, if_neg HB.out, if_neg (by simp [e1]), if_pos (by simp [e2])]), bw2⟩
        · go_wp2
          go_ret
          exact ⟨ret_int (by simp at e1 e2; rw [HC.out, if_neg HB.out, if_neg (by simp [e1]), if_neg (by simp)]), bw2⟩
    · go_wp2
      go_ret
      exact ⟨ret_int (by simp at e1; rw [HC.out, if_neg HB.out, if_pos (by simp [e1])]), bw⟩

end Go.Proofs.YtcmladgldjcdmaaDoor

/- The contracts of hall.Check and of the question that behind makes; no condition but that the arguments read as data, and where a right hall is said so. -/
namespace Go.Proofs.YtcmladgldjcdmaaDoor
open Go.RowKit
set_option linter.unusedVariables false
set_option maxRecDepth 100000
set_option linter.unusedSimpArgs false

set_option maxHeartbeats 2000000 in
theorem HCheck_c (h : HV) (w : World) (hk : h.ok w) : Calls Tryd.prog 9 #[h.v] w fun e w' => e = .returned (.int .i64 (checkH h.p)) ∧ Below w.heap.size w w' := by
  obtain ⟨d, a, n, c, L⟩ := h
  obtain ⟨hd, hl⟩ := hk
  have HD := hide (fun w' (h' : d.ok w') => DCheck_c d w' h')
  have HC : Hid (checkH ⟨d.p, L.map LV.p⟩ = if checkD d.p ≠ 0 then checkD d.p else if (L.map LV.p).length ≠ 3 then 4 else firstL (L.map LV.p)) := hide rfl
  have HL : Hid ((L.map LV.p).length = n) := hide (by rw [List.length_map]; exact hl.len)
  rw [HL.out] at HC
  obtain ⟨za, zn, zc, Z, ka, kn, kc, bk, bh, bt⟩ := d
  dsimp only [HV.v, HV.p, DV.v] at *
  generalize checkD _ = cd at *
  generalize hr : checkH _ = r at *
  clear hr
  have hmax := hl.max
  have hle := hl.le
  go_enter Tryd.func9, Tryd.ntmps9
  go_wp2_with fail
  refine (HD.out _ (hd.below (B := w.heap.size) (by (repeat first | exact bel0 | assumption | refine bel1 ?_ | refine bel2 ?_ | refine bel3 ?_ | refine belowT ?_ (by assumption) | refine bel5 ?_ (by simp; try omega))) (Nat.le_refl _))).mono ?_
  rintro e w1 ⟨rfl, hb1⟩
  have c4 := keepc hb1 (p := ⟨w.heap.size, 4, none⟩) (u := .slice a n c) (by go_simp)
  have bw : Below w.heap.size w w1 := by (repeat first | exact bel0 | assumption | refine bel1 ?_ | refine bel2 ?_ | refine bel3 ?_ | refine belowT ?_ (by assumption) | refine bel5 ?_ (by simp; try omega))
  clear hb1
  cases h0 : cd != 0
  · by_cases h3 : n = 3
    · subst h3
      obtain ⟨b, off, rfl, hlt, hrow⟩ := hl.row.resolve_left (by omega)
      go_wp2_with fail
      go_loopw [20] (fun i wr => ∃ k : Nat, k ≤ 3 ∧ i = .int .i64 k ∧ firstL ((L.map LV.p).take k) = 0 ∧ Below w.heap.size w wr) (fun i _ => 3 - (intOf i).toNat)
      case atStart => exact ⟨0, by omega, rfl, rfl, bw⟩
      case round =>
        clear bw c4
        obtain ⟨k, hk, rfl, hp, hbr⟩ := hrel
        have HP := hide hp
        clear hp
        rename_i wr
        by_cases hlt3 : k < 3
        · obtain ⟨y, hy⟩ : ∃ z, L[k]? = some z := ⟨L[k]'(by rw [hl.len]; exact hlt3), by simp⟩
          have iy := LV.ok.below (hl.ok y (List.mem_of_getElem? hy)) hbr (Nat.le_refl _)
          have HS := hide (fun w' h' => hcheckLast_c y w' h')
          have HY : Hid ((L.map LV.p)[k]? = some y.p) := hide (by rw [List.getElem?_map, hy]; rfl)
          have ky := hrow k y hy
          clear hy
          generalize hcl : checkL y.p = cl at *
          have HCL := hide hcl
          clear hcl
          obtain ⟨s1, ⟨e1, t1, a1, n1, c1, d1⟩⟩ := y
          dsimp only [LV.v] at HS
          have x0 := keepc hbr (ky 0 _ rfl)
          have x1 := keepc hbr (ky 1 _ rfl)
          have x2 := keepc hbr (ky 2 _ rfl)
          have x3 := keepc hbr (ky 3 _ rfl)
          rw [Nat.add_zero] at x0
          clear ky
          have hlt' : (k : Int) < 3 := by omega
          go_wp2_with fail
          refine (HS.out _ (LV.ok.below iy (B := wr.heap.size) (by (repeat first | exact bel0 | assumption | refine bel1 ?_ | refine bel2 ?_ | refine bel3 ?_ | refine belowT ?_ (by assumption) | refine bel5 ?_ (by simp; try omega))) (Nat.le_refl _))).mono ?_
          rintro e w9 ⟨rfl, hb9⟩
          have b9 : Below w.heap.size w w9 := by (repeat first | exact bel0 | assumption | refine bel1 ?_ | refine bel2 ?_ | refine bel3 ?_ | refine belowT ?_ (by assumption) | refine bel5 ?_ (by simp; try omega))
          clear hb9
          cases h9 : cl != 0
          · go_wp2
            simp at h9
            exact ⟨⟨k + 1, by omega, by go_num, firstL_step HY.out HP.out (by rw [HCL.out]; exact h9), b9⟩, by simp [intOf]; omega⟩
          · go_wp2
            go_ret
            simp at h9 h0
            exact ⟨ret_int (by rw [HC.out, if_neg (by simp [h0]), if_neg (by simp), firstL_at HY.out HP.out (by rw [HCL.out]; exact h9), HCL.out]), b9⟩
        · obtain rfl : k = 3 := by omega
          have hp := HP.out
          rw [List.take_of_length_le (by rw [HL.out]; omega)] at hp
          have HQ := hide hp
          clear hp
          go_wp2
          go_ret
          simp at h0
          exact ⟨ret_int (by rw [HC.out, if_neg (by simp [h0]), if_neg (by simp), HQ.out]), hbr⟩
    · have h3' : ((n : Int) != 3) = true := by simp; omega
      go_wp2
      go_ret
      simp at h0
      exact ⟨ret_int (by rw [HC.out, if_neg (by simp [h0]), if_pos h3]), bw⟩
  · go_wp2
    go_ret
    simp at h0
    exact ⟨ret_int (by rw [HC.out, if_pos h0]), bw⟩

/-- The question that behind makes, in a world: which hall and how many it holds. -/
theorem behind_c (h : HV) (m : Int) (w : World) : Calls Tryd.prog 11 #[h.v, .int .i64 m] w fun e w' =>
    e = .returned (.func (Fn.func 26) #[] #[.pointer (some ⟨w.heap.size, 0, none⟩), .pointer (some ⟨w.heap.size + 1, 0, none⟩)]) ∧ Lay w' w.heap.size h.cells ∧ Lay w' (w.heap.size + 1) [.int .i64 m] ∧ Below w.heap.size w w' := by
  obtain ⟨⟨za, zn, zc, Z, ka, kn, kc, bk, bh, bt⟩, a, n, c, L⟩ := h
  dsimp only [HV.v, HV.cells]
  go_enter Tryd.func11, Tryd.ntmps11
  go_wp2
  go_ret
  exact ⟨rfl, (Lay.made w _ 30).below (belowA (Below.refl _ _) _), Lay.made1 w _ [.int .i64 m] 3, by (repeat first | exact bel0 | assumption | refine bel1 ?_ | refine bel2 ?_ | refine bel3 ?_ | refine belowT ?_ (by assumption) | refine bel5 ?_ (by simp; try omega))⟩

set_option maxHeartbeats 1000000 in
theorem behind1_c (h : HV) (r : RV) (m : Int) (G M j : Nat) (w : World) (hk : h.ok w) (hG : Lay w G h.cells) (hM : Lay w M [.int .i64 m]) (h3 : h.n = 3) (hj : r.p.w = (j : Int)) (hj3 : j < 3) (hm : 0 ≤ m ∧ m ≤ 1) (hs : ∀ y ∈ h.L, 0 ≤ y.s ∧ y.s ≤ 40) :
    Calls Tryd.prog 26 #[r.v, .pointer (some ⟨G, 0, none⟩), .pointer (some ⟨M, 0, none⟩)] w fun e w' => e = .returned (.bool (r.p.s == (lastH h.p j).s + m)) ∧ Below w.heap.size w w' := by
  obtain ⟨b, off, y, ha, hy, _, hc⟩ := hk.l.at (i := j) (by omega)
  have hys := hs y (List.mem_of_getElem? hy)
  have HL : Hid (lastH h.p j = y.p) := hide (by simp [lastH, HV.p, List.getD, hy])
  have c0 := past1 (hc 0 _ rfl)
  rw [Nat.add_zero] at c0
  have g4 := past1 (hG.cell 4 _ rfl)
  have m0 := past1 (hM.cell 0 _ rfl)
  have hw : IntKind.i64.wrap (y.s + m) = y.s + m := IntWalk.i64_in _ (by omega)
  clear hc
  rw [HL.out]
  obtain ⟨⟨q, s, ⟨k1, z1, u1, t1, d1⟩⟩, ra, rn, rc⟩ := r
  dsimp only at hj
  subst hj
  obtain ⟨⟨za, zn, zc, Z, ka, kn, kc, bk, bh, bt⟩, a, n, c, L⟩ := h
  dsimp only [RV.v, LV.p] at *
  subst ha h3
  obtain ⟨ys, yx⟩ := y
  dsimp only at *
  have hj' : (j : Int) < 3 := by omega
  have hj0 : ¬ ((j : Int) < 0) := by omega
  go_enter Tryd.func26, Tryd.ntmps26
  go_upto_region 1 with fail
  go_region
  go_wp2
  go_ret
  exact ⟨rfl, by (repeat first | exact bel0 | assumption | refine bel1 ?_ | refine bel2 ?_ | refine bel3 ?_ | refine belowT ?_ (by assumption) | refine bel5 ?_ (by simp; try omega))⟩

end Go.Proofs.YtcmladgldjcdmaaDoor

/- The contract of hall.New; no condition. -/
namespace Go.Proofs.YtcmladgldjcdmaaDoor
open Go.RowKit
set_option linter.unusedVariables false
set_option maxRecDepth 100000
set_option linter.unusedSimpArgs false

def zero3 : List LV := [LV.zero, LV.zero, LV.zero]
theorem zero3_mem {y : LV} (h : y ∈ zero3) : y = LV.zero := by simpa [zero3] using h
theorem zero3_ok (w : World) : ∀ y ∈ zero3, y.ok w := fun y h => by rw [zero3_mem h]; exact LV.zero_ok w
theorem zero3_off (R : Nat) : ∀ y ∈ zero3, y.off R := fun y h => by rw [zero3_mem h]; exact .inl rfl
theorem mkl3 (w : World) : (Instr.makeSlice 28 (.int .i64 3) (.int .i64 3)).run Tryd.prog w = .ok (.slice (some ⟨w.heap.size, 0, none⟩) 3 3) (w.alloc (.cells (lcells zero3).toArray 47)) := by kernel_rfl

set_option maxHeartbeats 4000000 in
theorem HNew_c (w : World) : Calls Tryd.prog 16 #[] w fun e w' => (∃ h : HV, e = .returned h.v ∧ h.ok w' ∧ h.new w.heap.size ∧ h.p = freshH) ∧ Below w.heap.size w w' := by
  have hmk := mkl3
  generalize hxs : (lcells zero3).toArray = xs at *
  have xR := Lay.made w [.slice none 0 0, .slice none 0 0, .int .i64 0, .int .i64 0, .slice none 0 0] 30
  have hL : ∀ w' : World, Lay (w'.alloc (.cells xs 47)) w'.heap.size (lcells zero3) := fun w' => by rw [← hxs]; exact Lay.made w' _ _
  have HL := hide hL
  have XR := hide xR
  clear hL xR hxs
  go_enter Tryd.func16, Tryd.ntmps16
  go_wp2_with fail
  go_region_with (first | (go_at_call 32; refine (DNew_c _).mono ?_; rintro e w1 ⟨⟨⟨za, zn, zc, Z, ka, kn, kc, b⟩, rfl, i1, fr, hp⟩, hb1⟩; (have xR1 := XR.out.below (w' := w1) (by (repeat first | exact bel0 | assumption | refine bel1 ?_ | refine bel2 ?_ | refine bel3 ?_ | refine belowT ?_ (by assumption) | refine bel5 ?_ (by simp; try omega)))); (have e0 := xR1.cell 0 _ rfl); (have e1 := xR1.cell 1 _ rfl); (have e2 := xR1.cell 2 _ rfl); (have e3 := xR1.cell 3 _ rfl); (have e4 := xR1.cell 4 _ rfl); (have f0 := xR1.ice 0); (have f1 := xR1.ice 1); (have f2 := xR1.ice 2); (have f3 := xR1.ice 3); (have f4 := xR1.ice 4); (have hl1 := xR1.lt); (have hn1 : w.heap.size ≠ w1.heap.size := by omega); (have hn2 : w1.heap.size ≠ w.heap.size := by omega); (have p0 := past1 e0); (have p1 := past1 e1); (have p2 := past1 e2); (have p3 := past1 e3); (have p4 := past1 e4); (have r0 := pastf1 e0 f0); (have r1 := pastf1 e1 f1); (have r2 := pastf1 e2 f2); (have r3 := pastf1 e3 f3); (have r4 := pastf1 e4 f4); (have FR := hide fr); (have HP := hide hp); (clear fr hp); dsimp only [DV.v] at i1 ⊢))
  all_goals go_wp2
  · have fr := FR.out.mono (show w.heap.size + 1 ≤ _ by simp)
    have bw : Below w.heap.size w w1 := by (repeat first | exact bel0 | assumption | refine bel1 ?_ | refine bel2 ?_ | refine bel3 ?_ | refine belowT ?_ (by assumption) | refine bel5 ?_ (by simp; try omega))
    have hs : (((((w1.setCell ⟨w.heap.size, 0, none⟩ (.slice za zn zc)).setCell ⟨w.heap.size, 1, none⟩ (.slice ka kn kc)).setCell ⟨w.heap.size, 2, none⟩ (.int .i64 b.h)).setCell ⟨w.heap.size, 3, none⟩ (.int .i64 b.t)).setCell ⟨w.heap.size, 4, none⟩ (.slice (some ⟨w1.heap.size, 0, none⟩) 3 3)).heap.size = w1.heap.size := by simp [World.setCell]
    have zB := ((((xR1.set 0 (.slice za zn zc)).set 1 (.slice ka kn kc)).set 2 (.int .i64 b.h)).set 3 (.int .i64 b.t)).set 4 (.slice (some ⟨w1.heap.size, 0, none⟩) 3 3)
    have hbut := (((((ButI.refl (w.heap.size) w1).step 0 (.slice za zn zc)).step 1 (.slice ka kn kc)).step 2 (.int .i64 b.h)).step 3 (.int .i64 b.t)).step 4 (.slice (some ⟨w1.heap.size, 0, none⟩) 3 3)
    generalize ((((w1.setCell ⟨w.heap.size, 0, none⟩ (.slice za zn zc)).setCell ⟨w.heap.size, 1, none⟩ (.slice ka kn kc)).setCell ⟨w.heap.size, 2, none⟩ (.int .i64 b.h)).setCell ⟨w.heap.size, 3, none⟩ (.int .i64 b.t)).setCell ⟨w.heap.size, 4, none⟩ (.slice (some ⟨w1.heap.size, 0, none⟩) 3 3) = w8 at *
    have z0 := zB.cell 0 _ rfl
    have z1 := zB.cell 1 _ rfl
    have z2 := zB.cell 2 _ rfl
    have z3 := zB.cell 3 _ rfl
    have z4 := zB.cell 4 _ rfl
    have i9 := DV.ok.but i1 hbut.but (fr _ (by omega))
    have hm := HL.out w8
    rw [hs] at hm
    have bn := belowA (Below.refl _ w8) (.cells xs 47)
    have zC := zB.below bn
    have o9 : HV.ok (w8.alloc (.cells xs 47)) ⟨⟨za, zn, zc, Z, ka, kn, kc, b⟩, some ⟨w1.heap.size, 0, none⟩, 3, 3, zero3⟩ := ⟨i9.below bn (Nat.le_refl _), Lasts.of_lay (n := 3) hm (zero3_ok _) rfl (by omega)⟩
    have b9 : Below w.heap.size w (w8.alloc (.cells xs 47)) := belowT (bw.trans hbut.but.low) bn
    clear z0 z1 z2 z3 z4
    generalize w8.alloc (.cells xs 47) = w9 at *
    have z0 := zC.cell 0 _ rfl
    have z1 := zC.cell 1 _ rfl
    have z2 := zC.cell 2 _ rfl
    have z3 := zC.cell 3 _ rfl
    have z4 := zC.cell 4 _ rfl
    exact bodyPost_ret (v := .agg #[.slice za zn zc, .slice ka kn kc, .int .i64 b.h, .int .i64 b.t, .slice (some ⟨w1.heap.size, 0, none⟩) 3 3]) (by simp [results, Tryd.results16, go_sem, z0, z1, z2, z3, z4]) rfl
      ⟨⟨_, rfl, o9, fun R hR => ⟨fr R (by omega), .inr fun x e => by cases e; simp; omega, zero3_off R⟩, by simp only [HV.p, HP.out]; rfl⟩, b9⟩
  · have hm := HL.out (w.alloc (.cells #[.slice none 0 0, .slice none 0 0, .int .i64 0, .int .i64 0, .slice none 0 0] 30))
    simp only [World.size_alloc] at hm
    have hm1 := hm.below (w' := w1) (by (repeat first | exact bel0 | assumption | refine bel1 ?_ | refine bel2 ?_ | refine bel3 ?_ | refine belowT ?_ (by assumption) | refine bel5 ?_ (by simp; try omega)))
    have fr := FR.out.mono (show w.heap.size + 1 ≤ _ by simp)
    have hok : HV.ok w1 ⟨⟨za, zn, zc, Z, ka, kn, kc, b⟩, some ⟨w.heap.size + 1, 0, none⟩, 3, 3, zero3⟩ := ⟨i1, Lasts.of_lay (n := 3) hm1 (zero3_ok _) rfl (by omega)⟩
    have hoff : ∀ R, R ≤ w.heap.size → HV.off R ⟨⟨za, zn, zc, Z, ka, kn, kc, b⟩, some ⟨w.heap.size + 1, 0, none⟩, 3, 3, zero3⟩ := fun R hR => ⟨fr R (by omega), .inr fun x e => by cases e; simp; omega, zero3_off R⟩
    have bw : Below w.heap.size w w1 := by (repeat first | exact bel0 | assumption | refine bel1 ?_ | refine bel2 ?_ | refine bel3 ?_ | refine belowT ?_ (by assumption) | refine bel5 ?_ (by simp; try omega))
    have zB := ((((xR1.set 0 (.slice za zn zc)).set 1 (.slice ka kn kc)).set 2 (.int .i64 b.h)).set 3 (.int .i64 b.t)).set 4 (.slice (some ⟨w.heap.size + 1, 0, none⟩) 3 3)
    have hbut := (((((ButI.refl (w.heap.size) w1).step 0 (.slice za zn zc)).step 1 (.slice ka kn kc)).step 2 (.int .i64 b.h)).step 3 (.int .i64 b.t)).step 4 (.slice (some ⟨w.heap.size + 1, 0, none⟩) 3 3)
    generalize ((((w1.setCell ⟨w.heap.size, 0, none⟩ (.slice za zn zc)).setCell ⟨w.heap.size, 1, none⟩ (.slice ka kn kc)).setCell ⟨w.heap.size, 2, none⟩ (.int .i64 b.h)).setCell ⟨w.heap.size, 3, none⟩ (.int .i64 b.t)).setCell ⟨w.heap.size, 4, none⟩ (.slice (some ⟨w.heap.size + 1, 0, none⟩) 3 3) = w9 at *
    have z0 := zB.cell 0 _ rfl
    have z1 := zB.cell 1 _ rfl
    have z2 := zB.cell 2 _ rfl
    have z3 := zB.cell 3 _ rfl
    have z4 := zB.cell 4 _ rfl
    have o9 := hok.but hbut.but (hoff _ (Nat.le_refl _))
    exact bodyPost_ret (v := .agg #[.slice za zn zc, .slice ka kn kc, .int .i64 b.h, .int .i64 b.t, .slice (some ⟨w.heap.size + 1, 0, none⟩) 3 3]) (by simp [results, Tryd.results16, go_sem, z0, z1, z2, z3, z4]) rfl
      ⟨⟨_, rfl, o9, fun R hR => hoff R (Nat.le_of_lt hR), by simp only [HV.p, HP.out]; rfl⟩, bw.trans hbut.but.low⟩


end Go.Proofs.YtcmladgldjcdmaaDoor
