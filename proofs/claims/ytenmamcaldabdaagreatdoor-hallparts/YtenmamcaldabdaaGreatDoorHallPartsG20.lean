/- The contracts of desk's CheckAnswer, checkDo, reserved, turned, may and read; no condition but that the arguments read as data, and where a right desk is said so. -/
import Derived.Test.YtenmamcaldabdaaGreatDoorHallPartsG19
import Derived.Test.YtenmamcaldabdaaGreatDoorHallPartsG3
import Derived.Deep.RegionHeld3
import Derived.Test.YtenmamcaldabdaaGreatDoorHallPartsG13
namespace Go.Proofs.YtenmamcaldabdaaGreatDoor
open Go.RowKit
set_option linter.unusedVariables false
set_option maxRecDepth 100000
set_option linter.unusedSimpArgs false

set_option maxHeartbeats 2000000 in
theorem DCheckAnswer_c (x : AV) (w : World) (h : x.ok w) : Calls Tryz.prog 61 #[x.v] w fun e w' => e = .returned (.int .i64 (checkA x.p)) ∧ Below w.heap.size w w' := by
  obtain ⟨ee, tt, a, n, c, l⟩ := x
  have hI : Ints w a n c l := h
  dsimp only [AV.v, AV.p]
  have hlen := hI.len
  have hmax := hI.max
  have hle := hI.le
  rcases (by omega : ee < 0 ∨ (0 ≤ ee ∧ 9 < ee) ∨ (0 ≤ ee ∧ ee ≤ 9)) with h1 | ⟨h0, h1⟩ | ⟨h0, h1⟩
  · have HC : Hid (checkA ⟨ee, tt, l⟩ = 3) := hide (by unfold checkA; exact if_pos (.inl (by simp [outB]; omega)))
    go_enter Tryz.func61, Tryz.ntmps61
    go_wp2
    go_ret
    exact ⟨ret_int HC.out.symm, by (repeat (first | exact Below.refl _ _ | assumption | refine Below.drew ?_ | refine below_drewN ?_ _ | refine belowA ?_ _ | refine belowT ?_ (by assumption) | refine Below.setCell ?_ (by first | (simp; done) | (simp; omega)) _))⟩
  · have HC : Hid (checkA ⟨ee, tt, l⟩ = 3) := hide (by unfold checkA; exact if_pos (.inl (by simp [outB]; omega)))
    go_enter Tryz.func61, Tryz.ntmps61
    go_wp2
    go_ret
    exact ⟨ret_int HC.out.symm, by (repeat (first | exact Below.refl _ _ | assumption | refine Below.drew ?_ | refine below_drewN ?_ _ | refine belowA ?_ _ | refine belowT ?_ (by assumption) | refine Below.setCell ?_ (by first | (simp; done) | (simp; omega)) _))⟩
  · cases ht : inB tt 0 7
    · have HC : Hid (checkA ⟨ee, tt, l⟩ = 3) := hide (by unfold checkA; exact if_pos (.inr (by rw [inB_outB] at ht; simpa using ht)))
      have HT := hide ht
      clear ht
      go_enter Tryz.func61, Tryz.ntmps61
      go_wp2_with (go_at_call 93; refine (dwithin_c _ _ _ _).mono ?_; rintro e w1 ⟨rfl, rfl⟩; rw [HT.out])
      go_ret
      exact ⟨ret_int HC.out.symm, by (repeat (first | exact Below.refl _ _ | assumption | refine Below.drew ?_ | refine below_drewN ?_ _ | refine belowA ?_ _ | refine belowT ?_ (by assumption) | refine Below.setCell ?_ (by first | (simp; done) | (simp; omega)) _))⟩
    · have HC : Hid (checkA ⟨ee, tt, l⟩ = if 8 < l.length then 2 else if l.any (outB 0 999) then 3 else if ee ≠ 0 ∧ (tt ≠ 0 ∨ l ≠ []) then 4 else 0) := hide (by
        unfold checkA
        exact if_neg (by rw [inB_outB] at ht; simp only [Bool.not_eq_true'] at ht; rw [ht]; simp [outB]; omega))
      have HT := hide ht
      clear ht
      by_cases h8 : 8 < n
      · have h8' : (8 : Int) < (n : Int) := by omega
        go_enter Tryz.func61, Tryz.ntmps61
        go_wp2_with (go_at_call 93; refine (dwithin_c _ _ _ _).mono ?_; rintro e w1 ⟨rfl, rfl⟩; rw [HT.out])
        go_ret
        exact ⟨ret_int (by rw [HC.out, hlen, if_pos h8]), by (repeat (first | exact Below.refl _ _ | assumption | refine Below.drew ?_ | refine below_drewN ?_ _ | refine belowA ?_ _ | refine belowT ?_ (by assumption) | refine Below.setCell ?_ (by first | (simp; done) | (simp; omega)) _))⟩
      · have h8' : ¬ (8 : Int) < (n : Int) := by omega
        go_enter Tryz.func61, Tryz.ntmps61
        go_wp2_with (go_at_call 93; refine (dwithin_c _ _ _ _).mono ?_; rintro e w1 ⟨rfl, rfl⟩; rw [HT.out])
        go_loop [26] (fun i => ∃ k : Nat, k ≤ n ∧ i = .int .i64 k ∧ (l.take k).any (outB 0 999) = false) (fun i => n - (intOf i).toNat)
        case atStart => exact ⟨0, by omega, rfl, by simp⟩
        case round =>
          obtain ⟨k, hk, rfl, hno⟩ := hrel
          have HN := hide hno
          clear hno
          by_cases hlt : k < n
          · have hlt' : (k : Int) < (n : Int) := by omega
            rcases hI.row with h00 | ⟨b1, o1, rfl, _, hr1⟩
            · omega
            · have hi1 := past1 (hr1 k hlt)
              generalize hx : l.getD k 0 = x at hi1
              have HX := hide hx
              clear hx hr1
              cases hin : inB x 0 999
              · have HIN := hide hin
                clear hin
                go_wp2_with (go_at_call 93; refine (dwithin_c _ _ _ _).mono ?_; rintro e w1 ⟨rfl, rfl⟩; rw [HIN.out])
                go_ret
                refine ⟨ret_int ?_, by (repeat (first | exact Below.refl _ _ | assumption | refine Below.drew ?_ | refine below_drewN ?_ _ | refine belowA ?_ _ | refine belowT ?_ (by assumption) | refine Below.setCell ?_ (by first | (simp; done) | (simp; omega)) _))⟩
                have hin := HIN.out
                rw [inB_outB] at hin
                rw [HC.out, hlen, if_neg h8, any_of_getD _ l k (by omega) (by rw [HX.out]; simpa using hin)]
                rfl
              · have HIN := hide hin
                clear hin
                go_wp2_with (go_at_call 93; refine (dwithin_c _ _ _ _).mono ?_; rintro e w1 ⟨rfl, rfl⟩; rw [HIN.out])
                have hin := HIN.out
                rw [inB_outB] at hin
                exact ⟨⟨k + 1, by omega, by go_num, any_take_step _ l k (by omega) HN.out (by rw [HX.out]; simpa using hin)⟩, by simp [intOf]; omega⟩
          · obtain rfl : k = n := by omega
            have hno := HN.out
            rw [List.take_of_length_le (by omega)] at hno
            have HN2 := hide hno
            clear hno HN
            cases e0 : ee != 0
            · go_wp2
              go_ret
              exact ⟨ret_int (by simp at e0; rw [HC.out, hlen, if_neg h8, HN2.out]; simp [e0]), by (repeat (first | exact Below.refl _ _ | assumption | refine Below.drew ?_ | refine below_drewN ?_ _ | refine belowA ?_ _ | refine belowT ?_ (by assumption) | refine Below.setCell ?_ (by first | (simp; done) | (simp; omega)) _))⟩
            · cases t0 : tt != 0
              · by_cases hk0 : 0 < k
                · have hk0' : (0 : Int) < (k : Int) := by omega
                  go_wp2
                  go_ret
                  have hl : l ≠ [] := fun e => by rw [e] at hlen; simp at hlen; omega
                  exact ⟨ret_int (by simp at e0; rw [HC.out, hlen, if_neg h8, HN2.out]; simp [e0, hl]), by (repeat (first | exact Below.refl _ _ | assumption | refine Below.drew ?_ | refine below_drewN ?_ _ | refine belowA ?_ _ | refine belowT ?_ (by assumption) | refine Below.setCell ?_ (by first | (simp; done) | (simp; omega)) _))⟩
                · have hk0' : ¬ (0 : Int) < (k : Int) := by omega
                  go_wp2
                  go_ret
                  have hl : l = [] := List.eq_nil_of_length_eq_zero (by omega)
                  exact ⟨ret_int (by simp at t0; rw [HC.out, hlen, if_neg h8, HN2.out]; simp [t0, hl]), by (repeat (first | exact Below.refl _ _ | assumption | refine Below.drew ?_ | refine below_drewN ?_ _ | refine belowA ?_ _ | refine belowT ?_ (by assumption) | refine Below.setCell ?_ (by first | (simp; done) | (simp; omega)) _))⟩
              · go_wp2
                go_ret
                exact ⟨ret_int (by simp at e0 t0; rw [HC.out, hlen, if_neg h8, HN2.out]; simp [e0, t0]), by (repeat (first | exact Below.refl _ _ | assumption | refine Below.drew ?_ | refine below_drewN ?_ _ | refine belowA ?_ _ | refine belowT ?_ (by assumption) | refine Below.setCell ?_ (by first | (simp; done) | (simp; omega)) _))⟩

theorem DCheckDo_c (d : DV) (who : Int) (a : Option Addr) (m c : Nat) (x : PC) (w : World) (hS : Shapes w) (h : d.ok w) (hx : Ints w a m c x.d) :
    Calls Tryz.prog 79 #[d.v, .int .i64 who, cmdV a m c x] w fun e w' => e = .returned (.int .i64 (doE d.p who x)) ∧ Below w.heap.size w w' := by
  have HD := fun w' (hw : d.ok w') => DCheck_c d w' hw
  have HQ := fun w' hS' hx' => cmdCheck_c a m c x w' hS' hx'
  have HC : Hid (doE d.p who x = if checkD d.p ≠ 0 then checkD d.p else if inB who 0 2 = false then 5 else checkC x) := hide rfl
  obtain ⟨za, zn, zc, Z, ka, kn, kc, b⟩ := d
  obtain ⟨xk, xz, xn, xt, xd⟩ := x
  dsimp only [DV.v, cmdV] at *
  have H1 := hide HD
  have H2 := hide HQ
  clear HD HQ
  go_enter Tryz.func79, Tryz.ntmps79
  go_wp2_with fail
  refine (H1.out _ (h.below (B := w.heap.size) (by (repeat (first | exact Below.refl _ _ | assumption | refine Below.drew ?_ | refine below_drewN ?_ _ | refine belowA ?_ _ | refine belowT ?_ (by assumption) | refine Below.setCell ?_ (by first | (simp; done) | (simp; omega)) _))) (Nat.le_refl _))).mono ?_
  rintro e w1 ⟨rfl, hb1⟩
  have c0 := keepc hb1 (p := ⟨w.heap.size + 1, 0, none⟩) (u := .int .i64 xk) (by go_simp)
  have c1 := keepc hb1 (p := ⟨w.heap.size + 1, 1, none⟩) (u := .int .i64 xz) (by go_simp)
  have c2 := keepc hb1 (p := ⟨w.heap.size + 1, 2, none⟩) (u := .int .i64 xn) (by go_simp)
  have c3 := keepc hb1 (p := ⟨w.heap.size + 1, 3, none⟩) (u := .int .i64 xt) (by go_simp)
  have c4 := keepc hb1 (p := ⟨w.heap.size + 1, 4, none⟩) (u := .slice a m c) (by go_simp)
  have bw : Below w.heap.size w w1 := by (repeat (first | exact Below.refl _ _ | assumption | refine Below.drew ?_ | refine below_drewN ?_ _ | refine belowA ?_ _ | refine belowT ?_ (by assumption) | refine Below.setCell ?_ (by first | (simp; done) | (simp; omega)) _))
  clear hb1
  generalize checkD _ = x at *
  cases h0 : x != 0
  · cases hw : inB who 0 2
    · have HW := hide hw
      clear hw
      go_wp2_with (go_at_call 93; refine (dwithin_c _ _ _ _).mono ?_; rintro e w1 ⟨rfl, rfl⟩; rw [HW.out])
      go_ret
      exact ⟨ret_int (by rw [HC.out, HW.out]; simp at h0; simp [h0]), bw⟩
    · have HW := hide hw
      clear hw
      go_wp2_with (first | (go_at_call 93; refine (dwithin_c _ _ _ _).mono ?_; rintro e w1 ⟨rfl, rfl⟩; rw [HW.out]))
      refine (H2.out _ (hS.below bw) (hx.below bw (Nat.le_refl _))).mono ?_
      rintro e w2 ⟨rfl, hb2⟩
      go_wp2
      go_ret
      exact ⟨ret_int (by rw [HC.out, HW.out]; simp at h0; simp [h0]), by (repeat (first | exact Below.refl _ _ | assumption | refine Below.drew ?_ | refine below_drewN ?_ _ | refine belowA ?_ _ | refine belowT ?_ (by assumption) | refine Below.setCell ?_ (by first | (simp; done) | (simp; omega)) _))⟩
  · go_wp2
    go_ret
    exact ⟨ret_int (by rw [HC.out]; simp at h0; simp [h0]), bw⟩

theorem turned_c (a : Option Addr) (n c : Nat) (Z : List ZV) (ca : Option Addr) (cn cc : Nat) (x : PC) (w : World) (h : Zones w a n c Z) :
    Calls Tryz.prog 141 #[.slice a n c, cmdV ca cn cc x] w fun e w' => (∃ a' n' c' Z', e = .returned (.tuple #[.slice a' n' c', .int .i64 (zoneDo (Z.map ZV.p) x).2]) ∧ Zones w' a' n' c' Z' ∧ NewZ w.heap.size a' Z' ∧ Z'.map ZV.p = (zoneDo (Z.map ZV.p) x).1) ∧ Below w.heap.size w w' := by
  obtain ⟨xk, xz, xn, xt, xd⟩ := x
  unfold cmdV
  dsimp only
  by_cases h1 : xk = 1
  · subst h1
    rw [show zoneDo (Z.map ZV.p) ⟨1, xz, xn, xt, xd⟩ = holdP (Z.map ZV.p) xz from rfl]
    go_enter Tryz.func141, Tryz.ntmps141
    go_wp2_with fail
    refine (YHold_f a n c Z xz _ (h.below (B := w.heap.size) (by (repeat (first | exact Below.refl _ _ | assumption | refine Below.drew ?_ | refine below_drewN ?_ _ | refine belowA ?_ _ | refine belowT ?_ (by assumption) | refine Below.setCell ?_ (by first | (simp; done) | (simp; omega)) _))) (Nat.le_refl _))).mono ?_
    rintro e w1 ⟨⟨a1, n1, c1, Z1, rfl, i1, nz, p1⟩, hb1⟩
    have P1 := hide p1
    have N1 := hide (show NewZ w.heap.size a1 Z1 from ⟨fun x e => Nat.le_trans (by simp) (nz.1 x e), nz.2.mono (by simp)⟩)
    clear p1 nz
    go_wp2
    go_ret2
    exact ⟨⟨a1, n1, c1, Z1, rfl, i1, N1.out, P1.out⟩, by (repeat (first | exact Below.refl _ _ | assumption | refine Below.drew ?_ | refine below_drewN ?_ _ | refine belowA ?_ _ | refine belowT ?_ (by assumption) | refine Below.setCell ?_ (by first | (simp; done) | (simp; omega)) _))⟩
  · have t1 : (xk == 1) = false := by simpa using h1
    by_cases h2 : xk = 2
    · subst h2
      rw [show zoneDo (Z.map ZV.p) ⟨2, xz, xn, xt, xd⟩ = closeP (Z.map ZV.p) xz from rfl]
      go_enter Tryz.func141, Tryz.ntmps141
      go_wp2_with fail
      refine (YClose_f a n c Z xz _ (h.below (B := w.heap.size) (by (repeat (first | exact Below.refl _ _ | assumption | refine Below.drew ?_ | refine below_drewN ?_ _ | refine belowA ?_ _ | refine belowT ?_ (by assumption) | refine Below.setCell ?_ (by first | (simp; done) | (simp; omega)) _))) (Nat.le_refl _))).mono ?_
      rintro e w1 ⟨⟨a1, n1, c1, Z1, rfl, i1, nz, p1⟩, hb1⟩
      have P1 := hide p1
      have N1 := hide (show NewZ w.heap.size a1 Z1 from ⟨fun x e => Nat.le_trans (by simp) (nz.1 x e), nz.2.mono (by simp)⟩)
      clear p1 nz
      go_wp2
      go_ret2
      exact ⟨⟨a1, n1, c1, Z1, rfl, i1, N1.out, P1.out⟩, by (repeat (first | exact Below.refl _ _ | assumption | refine Below.drew ?_ | refine below_drewN ?_ _ | refine belowA ?_ _ | refine belowT ?_ (by assumption) | refine Below.setCell ?_ (by first | (simp; done) | (simp; omega)) _))⟩
    · have t2 : (xk == 2) = false := by simpa using h2
      by_cases h3 : xk = 3
      · subst h3
        rw [show zoneDo (Z.map ZV.p) ⟨3, xz, xn, xt, xd⟩ = finishP (Z.map ZV.p) xz from rfl]
        go_enter Tryz.func141, Tryz.ntmps141
        go_wp2_with fail
        refine (YFinish_f a n c Z xz _ (h.below (B := w.heap.size) (by (repeat (first | exact Below.refl _ _ | assumption | refine Below.drew ?_ | refine below_drewN ?_ _ | refine belowA ?_ _ | refine belowT ?_ (by assumption) | refine Below.setCell ?_ (by first | (simp; done) | (simp; omega)) _))) (Nat.le_refl _))).mono ?_
        rintro e w1 ⟨⟨a1, n1, c1, Z1, rfl, i1, nz, p1⟩, hb1⟩
        have P1 := hide p1
        have N1 := hide (show NewZ w.heap.size a1 Z1 from ⟨fun x e => Nat.le_trans (by simp) (nz.1 x e), nz.2.mono (by simp)⟩)
        clear p1 nz
        go_wp2
        go_ret2
        exact ⟨⟨a1, n1, c1, Z1, rfl, i1, N1.out, P1.out⟩, by (repeat (first | exact Below.refl _ _ | assumption | refine Below.drew ?_ | refine below_drewN ?_ _ | refine belowA ?_ _ | refine belowT ?_ (by assumption) | refine Below.setCell ?_ (by first | (simp; done) | (simp; omega)) _))⟩
      · have t3 : (xk == 3) = false := by simpa using h3
        rw [show zoneDo (Z.map ZV.p) ⟨xk, xz, xn, xt, xd⟩ = resetP (Z.map ZV.p) xz by simp [zoneDo, h1, h2, h3]]
        clear h1 h2 h3
        go_enter Tryz.func141, Tryz.ntmps141
        go_wp2_with fail
        refine (YReset_f a n c Z xz _ (h.below (B := w.heap.size) (by (repeat (first | exact Below.refl _ _ | assumption | refine Below.drew ?_ | refine below_drewN ?_ _ | refine belowA ?_ _ | refine belowT ?_ (by assumption) | refine Below.setCell ?_ (by first | (simp; done) | (simp; omega)) _))) (Nat.le_refl _))).mono ?_
        rintro e w1 ⟨⟨a1, n1, c1, Z1, rfl, i1, nz, p1⟩, hb1⟩
        have P1 := hide p1
        have N1 := hide (show NewZ w.heap.size a1 Z1 from ⟨fun x e => Nat.le_trans (by simp) (nz.1 x e), nz.2.mono (by simp)⟩)
        clear p1 nz
        go_wp2
        go_ret2
        exact ⟨⟨a1, n1, c1, Z1, rfl, i1, N1.out, P1.out⟩, by (repeat (first | exact Below.refl _ _ | assumption | refine Below.drew ?_ | refine below_drewN ?_ _ | refine belowA ?_ _ | refine belowT ?_ (by assumption) | refine Below.setCell ?_ (by first | (simp; done) | (simp; omega)) _))⟩

theorem dmay_c (a : Option Addr) (n c : Nat) (b : PB) (who : Int) (ca : Option Addr) (cn cc : Nat) (x : PC) (w : World) (h : Ints w a n c b.k) :
    Calls Tryz.prog 109 #[bookV a n c b, .int .i64 who, cmdV ca cn cc x] w fun e w' => e = .returned (.bool (mayB b who (x.k != 7)).1) ∧ Below w.heap.size w w' := by
  obtain ⟨xk, xz, xn, xt, xd⟩ := x
  have HM := hide (fun w' h' => BMay_c a n c b who (xk != 7) w' h')
  unfold cmdV
  unfold bookV at *
  dsimp only
  generalize hm : mayB b who (xk != 7) = mb at *
  clear hm
  go_enter Tryz.func109, Tryz.ntmps109
  go_wp2_with fail
  refine (HM.out _ (h.below (B := w.heap.size) (by (repeat (first | exact Below.refl _ _ | assumption | refine Below.drew ?_ | refine below_drewN ?_ _ | refine belowA ?_ _ | refine belowT ?_ (by assumption) | refine Below.setCell ?_ (by first | (simp; done) | (simp; omega)) _))) (Nat.le_refl _))).mono ?_
  rintro e w1 ⟨rfl, hb1⟩
  go_wp2
  go_ret
  exact ⟨rfl, by (repeat (first | exact Below.refl _ _ | assumption | refine Below.drew ?_ | refine below_drewN ?_ _ | refine belowA ?_ _ | refine belowT ?_ (by assumption) | refine Below.setCell ?_ (by first | (simp; done) | (simp; omega)) _))⟩

end Go.Proofs.YtenmamcaldabdaaGreatDoor

/- The contracts of hall's small functions: list, wholeAnswer, sameAnswer, checkLast; no condition but that the arguments read as data. -/
namespace Go.Proofs.YtenmamcaldabdaaGreatDoor
open Go.RowKit
set_option linter.unusedVariables false
set_option maxRecDepth 100000
set_option linter.unusedSimpArgs false

set_option maxHeartbeats 1000000 in
theorem hlist_c (a : Option Addr) (n c : Nat) (l : List Int) (w : World) (h : Ints w a n c l) (hn : n ≤ 100000) :
    Calls Tryz.prog 54 #[.slice a n c] w fun e w' => (∃ q, e = .returned (.slice (some ⟨q, 0, none⟩) n n) ∧ Ints w' (some ⟨q, 0, none⟩) n n l ∧ w.heap.size ≤ q) ∧ Below w.heap.size w w' := by
  have n2 : (n : Int) ≤ 100000 := by omega
  have hmk := run_make_row' (P := Tryz.prog) 23 3 (.int .i64 0) 8 Tryz.underlying23 infoInt rfl .i64 .i64 n (by omega) (by omega)
  go_enter Tryz.func54, Tryz.ntmps54
  go_wp2_with fail
  obtain ⟨w2, r2, g2, b2⟩ := copy_run (P := Tryz.prog) (w.alloc (.cells (madeCells #[.int .i64 0] n) 3)) 23 23 3 3 Tryz.underlying23 sizeInt (some ⟨w.heap.size, 0, none⟩) a n n n c w.heap.size 0
    (madeCells #[.int .i64 0] n).toList 3 (heap_new _ _) (cellsOf l) (by rw [cellsOf_len, h.len]; exact (Nat.min_self n).symm) (fun hp => ⟨rfl, (h.below (B := w.heap.size) (by (repeat (first | exact Below.refl _ _ | assumption | refine Below.drew ?_ | refine below_drewN ?_ _ | refine belowA ?_ _ | refine belowT ?_ (by assumption) | refine Below.setCell ?_ (by first | (simp; done) | (simp; omega)) _))) (Nat.le_refl _)).src (by rw [cellsOf_len, h.len] at hp; exact hp)⟩) (by simp [size_madeCells, cellsOf_len, h.len]) (cellsOf_one l)
  rw [r2]
  have G2 := hide g2
  clear g2 r2
  go_wp2
  go_ret
  have g2 := G2.out
  rw [splice_one _ _ (by simp [size_madeCells, cellsOf_len, h.len])] at g2
  exact ⟨⟨_, rfl, Ints.of_row g2 (by rw [h.len]; omega) h.wf h.len, Nat.le_refl _⟩, (belowA (Below.refl _ _) _).trans b2⟩

theorem hsameA_c (x y : AV) (w : World) (hx : x.ok w) (hy : y.ok w) : Calls Tryz.prog 39 #[x.v, y.v] w fun e w' => e = .returned (.bool (sameA x.p y.p)) ∧ Below w.heap.size w w' := by
  obtain ⟨e1, t1, a1, n1, c1, l1⟩ := x
  obtain ⟨e2, t2, a2, n2, c2, l2⟩ := y
  dsimp only [AV.v, AV.p]
  have h1 : Ints w a1 n1 c1 l1 := hx
  have h2 : Ints w a2 n2 c2 l2 := hy
  have HS : Hid (sameA ⟨e1, t1, l1⟩ ⟨e2, t2, l2⟩ = (e1 == e2 && (t1 == t2 && decide (l1 = l2)))) := hide (by rw [Bool.eq_iff_iff]; simp [sameA])
  cases he : e1 == e2
  · go_enter Tryz.func39, Tryz.ntmps39
    go_wp2
    go_ret
    exact ⟨ret_bool (by rw [HS.out, he]; rfl), by (repeat (first | exact Below.refl _ _ | assumption | refine Below.drew ?_ | refine below_drewN ?_ _ | refine belowA ?_ _ | refine belowT ?_ (by assumption) | refine Below.setCell ?_ (by first | (simp; done) | (simp; omega)) _))⟩
  · cases ht : t1 == t2
    · go_enter Tryz.func39, Tryz.ntmps39
      go_wp2
      go_ret
      exact ⟨ret_bool (by rw [HS.out, he, ht]; rfl), by (repeat (first | exact Below.refl _ _ | assumption | refine Below.drew ?_ | refine below_drewN ?_ _ | refine belowA ?_ _ | refine belowT ?_ (by assumption) | refine Below.setCell ?_ (by first | (simp; done) | (simp; omega)) _))⟩
    · go_enter Tryz.func39, Tryz.ntmps39
      go_wp2_with fail
      refine (Equal_c a1 a2 n1 n2 c1 c2 l1 l2 _ (h1.below (B := w.heap.size) (by (repeat (first | exact Below.refl _ _ | assumption | refine Below.drew ?_ | refine below_drewN ?_ _ | refine belowA ?_ _ | refine belowT ?_ (by assumption) | refine Below.setCell ?_ (by first | (simp; done) | (simp; omega)) _))) (Nat.le_refl _)) (h2.below (B := w.heap.size) (by (repeat (first | exact Below.refl _ _ | assumption | refine Below.drew ?_ | refine below_drewN ?_ _ | refine belowA ?_ _ | refine belowT ?_ (by assumption) | refine Below.setCell ?_ (by first | (simp; done) | (simp; omega)) _))) (Nat.le_refl _))).mono ?_
      rintro e w1 ⟨rfl, q, rfl⟩
      go_wp2
      go_ret
      exact ⟨ret_bool (by rw [HS.out, he, ht]; simp), by (repeat (first | exact Below.refl _ _ | assumption | refine Below.drew ?_ | refine below_drewN ?_ _ | refine belowA ?_ _ | refine belowT ?_ (by assumption) | refine Below.setCell ?_ (by first | (simp; done) | (simp; omega)) _))⟩


set_option maxHeartbeats 1000000 in
theorem hwholeA_c (x : AV) (w : World) (h : x.ok w) (hn : x.n ≤ 100000) :
    Calls Tryz.prog 27 #[x.v] w fun e w' => (∃ q, e = .returned (.agg #[.int .i64 x.e, .int .i64 x.t, .slice (some ⟨q, 0, none⟩) x.n x.n]) ∧ Ints w' (some ⟨q, 0, none⟩) x.n x.n x.d ∧ w.heap.size ≤ q) ∧ Below w.heap.size w w' := by
  obtain ⟨ee, tt, a, n, c, l⟩ := x
  have hI : Ints w a n c l := h
  dsimp only [AV.v] at *
  have xR := Lay.made1 w (.cells #[.int .i64 ee, .int .i64 tt, .slice a n c] 38) [.int .i64 0, .int .i64 0, .slice none 0 0] 38
  go_enter Tryz.func27, Tryz.ntmps27
  go_upto_region 1 with fail
  go_region_held3 (fun w' => w'.cell? ⟨w.heap.size, 0, none⟩ = some (.int .i64 ee) ∧ w'.cell? ⟨w.heap.size, 1, none⟩ = some (.int .i64 tt) ∧ w'.cell? ⟨w.heap.size, 2, none⟩ = some (.slice a n c)) ((first | (go_simp; done) | (simp [*, World.cell?_alloc_at, World.cell?_alloc_past, World.cell?_alloc_some, World.cell?_setCell_far]; done))) (first | (go_at_call 54; refine (hlist_c a n c l _ (by refine Ints.below hI (B := w.heap.size) ?_ (Nat.le_refl _); (repeat (first | exact Below.refl _ _ | assumption | refine Below.drew ?_ | refine below_drewN ?_ _ | refine belowA ?_ _ | refine belowT ?_ (by assumption) | refine Below.setCell ?_ (by first | (simp; done) | (simp; omega)) _))) hn).mono ?_; rintro e w1 ⟨⟨q, rfl, i1, hq⟩, hb1⟩; (have g0 := keepc hb1 (p := ⟨w.heap.size, 0, none⟩) (u := .int .i64 ee) (by (first | (go_simp; done) | (simp [*, World.cell?_alloc_at, World.cell?_alloc_past, World.cell?_alloc_some, World.cell?_setCell_far]; done)))); (have g1 := keepc hb1 (p := ⟨w.heap.size, 1, none⟩) (u := .int .i64 tt) (by (first | (go_simp; done) | (simp [*, World.cell?_alloc_at, World.cell?_alloc_past, World.cell?_alloc_some, World.cell?_setCell_far]; done)))); (have g2 := keepc hb1 (p := ⟨w.heap.size, 2, none⟩) (u := .slice a n c) (by (first | (go_simp; done) | (simp [*, World.cell?_alloc_at, World.cell?_alloc_past, World.cell?_alloc_some, World.cell?_setCell_far]; done)))); (have xR1 := xR.below (w' := w1) (by (repeat (first | exact Below.refl _ _ | assumption | refine Below.drew ?_ | refine below_drewN ?_ _ | refine belowA ?_ _ | refine belowT ?_ (by assumption) | refine Below.setCell ?_ (by first | (simp; done) | (simp; omega)) _)))); (have e0 := xR1.cell 0 _ rfl); (have e1 := xR1.cell 1 _ rfl); (have e2 := xR1.cell 2 _ rfl); (have f0 := xR1.ice 0); (have f1 := xR1.ice 1); (have f2 := xR1.ice 2)))
  have bw : Below w.heap.size w w1 := by (repeat (first | exact Below.refl _ _ | assumption | refine Below.drew ?_ | refine below_drewN ?_ _ | refine belowA ?_ _ | refine belowT ?_ (by assumption) | refine Below.setCell ?_ (by first | (simp; done) | (simp; omega)) _))
  simp at hq
  clear hb1 g0 g1 g2 xR
  go_wp2
  have xR := xR1
  have zB := ((xR.set 0 (.int .i64 (ee))).set 1 (.int .i64 (tt))).set 2 (.slice (some ⟨q, 0, none⟩) n n)
  have hbut := (((ButI.refl (w.heap.size + 1) (w1)).step 0 (.int .i64 (ee))).step 1 (.int .i64 (tt))).step 2 (.slice (some ⟨q, 0, none⟩) n n)
  generalize (((w1).setCell ⟨w.heap.size + 1, 0, none⟩ (.int .i64 (ee))).setCell ⟨w.heap.size + 1, 1, none⟩ (.int .i64 (tt))).setCell ⟨w.heap.size + 1, 2, none⟩ (.slice (some ⟨q, 0, none⟩) n n) = w9 at *
  have z0 := zB.cell 0 _ rfl
  have z1 := zB.cell 1 _ rfl
  have z2 := zB.cell 2 _ rfl
  exact bodyPost_ret (v := .agg #[.int .i64 ee, .int .i64 tt, .slice (some ⟨q, 0, none⟩) n n]) (by simp [results, Tryz.results27, go_sem, z0, z1, z2]) rfl
    ⟨⟨q, rfl, i1.but hbut.but (.inr fun x e => by cases e; simp; omega), by omega⟩, bw.trans (hbut.below (B := w.heap.size) (by omega))⟩

set_option maxHeartbeats 1000000 in
theorem hcheckLast_c (y : LV) (w : World) (h : y.ok w) : Calls Tryz.prog 32 #[y.v] w fun e w' => e = .returned (.int .i64 (checkL y.p)) ∧ Below w.heap.size w w' := by
  obtain ⟨s, ⟨ee, tt, a, n, c, l⟩⟩ := y
  have hI : Ints w a n c l := h
  have HA : Hid (∀ w' : World, Ints w' a n c l → Calls Tryz.prog 61 #[.agg #[.int .i64 ee, .int .i64 tt, .slice a n c]] w' fun e w'' => e = .returned (.int .i64 (checkA ⟨ee, tt, l⟩)) ∧ Below w'.heap.size w' w'') := hide (fun w' h' => DCheckAnswer_c ⟨ee, tt, a, n, c, l⟩ w' h')
  have HS : Hid (∀ w' : World, Ints w' a n c l → Calls Tryz.prog 39 #[.agg #[.int .i64 ee, .int .i64 tt, .slice a n c], .agg #[.int .i64 0, .int .i64 0, .slice none 0 0]] w' fun e w'' => e = .returned (.bool (sameA ⟨ee, tt, l⟩ zeroA)) ∧ Below w'.heap.size w' w'') := hide (fun w' h' => hsameA_c ⟨ee, tt, a, n, c, l⟩ (AV.err 0) w' h' (AV.err_ok w' 0))
  have HC : Hid (checkL (LV.p ⟨s, ⟨ee, tt, a, n, c, l⟩⟩) = if inB s 0 40 = false then 3 else if checkA ⟨ee, tt, l⟩ ≠ 0 then checkA ⟨ee, tt, l⟩ else if s = 0 ∧ sameA ⟨ee, tt, l⟩ zeroA = false then 4 else 0) := hide rfl
  generalize checkL _ = r at *
  generalize checkA _ = ca at *
  generalize sameA _ _ = sa at *
  dsimp only [LV.v] at *
  clear h
  rcases (by omega : s < 0 ∨ (0 ≤ s ∧ 40 < s) ∨ (0 ≤ s ∧ s ≤ 40)) with h1 | ⟨h0, h1⟩ | ⟨h0, h1⟩
  · have HB : Hid (inB s 0 40 = false) := hide (by simp [inB]; omega)
    go_enter Tryz.func32, Tryz.ntmps32
    go_wp2
    go_ret
    exact ⟨ret_int (by rw [HC.out, if_pos HB.out]), by (repeat (first | exact Below.refl _ _ | assumption | refine Below.drew ?_ | refine below_drewN ?_ _ | refine belowA ?_ _ | refine belowT ?_ (by assumption) | refine Below.setCell ?_ (by first | (simp; done) | (simp; omega)) _))⟩
  · have HB : Hid (inB s 0 40 = false) := hide (by simp [inB]; omega)
    go_enter Tryz.func32, Tryz.ntmps32
    go_wp2
    go_ret
    exact ⟨ret_int (by rw [HC.out, if_pos HB.out]), by (repeat (first | exact Below.refl _ _ | assumption | refine Below.drew ?_ | refine below_drewN ?_ _ | refine belowA ?_ _ | refine belowT ?_ (by assumption) | refine Below.setCell ?_ (by first | (simp; done) | (simp; omega)) _))⟩
  · have HB : Hid (¬ (inB s 0 40 = false)) := hide (by simp [inB]; omega)
    go_enter Tryz.func32, Tryz.ntmps32
    go_wp2_with fail
    refine (HA.out _ (hI.below (B := w.heap.size) (by (repeat (first | exact Below.refl _ _ | assumption | refine Below.drew ?_ | refine below_drewN ?_ _ | refine belowA ?_ _ | refine belowT ?_ (by assumption) | refine Below.setCell ?_ (by first | (simp; done) | (simp; omega)) _))) (Nat.le_refl _))).mono ?_
    rintro e w1 ⟨rfl, hb1⟩
    have c1 := keepc hb1 (p := ⟨w.heap.size, 0, none⟩) (u := .int .i64 s) (by go_simp)
    have c2 := keepc hb1 (p := ⟨w.heap.size, 1, none⟩) (u := .int .i64 ee) (by go_simp)
    have c3 := keepc hb1 (p := ⟨w.heap.size, 2, none⟩) (u := .int .i64 tt) (by go_simp)
    have c4 := keepc hb1 (p := ⟨w.heap.size, 3, none⟩) (u := .slice a n c) (by go_simp)
    have bw : Below w.heap.size w w1 := by (repeat (first | exact Below.refl _ _ | assumption | refine Below.drew ?_ | refine below_drewN ?_ _ | refine belowA ?_ _ | refine belowT ?_ (by assumption) | refine Below.setCell ?_ (by first | (simp; done) | (simp; omega)) _))
    clear hb1
    cases e1 : ca != 0
    · cases e2 : s == 0
      · go_wp2
        go_ret
        exact ⟨ret_int (by simp at e1 e2; rw [HC.out, if_neg HB.out, if_neg (by simp [e1]), if_neg (by simp [e2])]), bw⟩
      · go_wp2_with fail
        refine (HS.out _ (hI.below (B := w.heap.size) (by (repeat (first | exact Below.refl _ _ | assumption | refine Below.drew ?_ | refine below_drewN ?_ _ | refine belowA ?_ _ | refine belowT ?_ (by assumption) | refine Below.setCell ?_ (by first | (simp; done) | (simp; omega)) _))) (Nat.le_refl _))).mono ?_
        rintro e w2 ⟨rfl, hb2⟩
        have bw2 : Below w.heap.size w w2 := by (repeat (first | exact Below.refl _ _ | assumption | refine Below.drew ?_ | refine below_drewN ?_ _ | refine belowA ?_ _ | refine belowT ?_ (by assumption) | refine Below.setCell ?_ (by first | (simp; done) | (simp; omega)) _))
        clear hb2
        cases sa
        · go_wp2
          go_ret
          exact ⟨ret_int (by simp at e1 e2; rw [HC.out, if_neg HB.out, if_neg (by simp [e1]), if_pos (by simp [e2])]), bw2⟩
        · go_wp2
          go_ret
          exact ⟨ret_int (by simp at e1 e2; rw [HC.out, if_neg HB.out, if_neg (by simp [e1]), if_neg (by simp)]), bw2⟩
    · go_wp2
      go_ret
      exact ⟨ret_int (by simp at e1; rw [HC.out, if_neg HB.out, if_pos (by simp [e1])]), bw⟩

end Go.Proofs.YtenmamcaldabdaaGreatDoor
