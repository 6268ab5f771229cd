/- The contracts of the document's own SameHall, FreshHall, CheckHall and CheckRec; no condition but that the arguments read as data. -/
import Derived.Test.YtenmamcaldabdaaGreatDoorHallSaysG21
import Derived.Test.YtenmamcaldabdaaGreatDoorHallSaysG26
import Derived.Test.YtenmamcaldabdaaGreatDoorHallSaysG31
import Derived.Test.YtenmamcaldabdaaGreatDoorHallSaysG3
namespace Go.Proofs.YtenmamcaldabdaaGreatDoor
open Go.RowKit
set_option linter.unusedVariables false
set_option maxRecDepth 100000
set_option linter.unusedSimpArgs false

theorem rsame1_c (x y : LV) (w : World) (hx : x.ok w) (hy : y.ok w) : Calls Tryz.prog 41 #[x.v, y.v] w fun e w' => e = .returned (.bool (sameL x.p y.p)) ∧ Below w.heap.size w w' := by
  have HA := hide (fun w' (h1 : x.x.ok w') (h2 : y.x.ok w') => SameAnswerR_c x.x y.x w' h1 h2)
  have HS : Hid (sameL x.p y.p = (x.s == y.s && sameA x.x.p y.x.p)) := hide (sameL_eq x.p y.p)
  obtain ⟨s1, ⟨e1, t1, a1, n1, c1, l1⟩⟩ := x
  obtain ⟨s2, ⟨e2, t2, a2, n2, c2, l2⟩⟩ := y
  generalize sameL _ _ = r at *
  generalize sameA _ _ = sa at *
  dsimp only [LV.v, AV.v] at *
  cases he : s1 == s2
  · go_enter Tryz.func41, Tryz.ntmps41
    go_wp2
    go_ret
    exact ⟨ret_bool (by rw [HS.out, he]; rfl), by (repeat (first | exact Below.refl _ _ | assumption | refine Below.drew ?_ | refine below_drewN ?_ _ | refine belowA ?_ _ | refine belowT ?_ (by assumption) | refine Below.setCell ?_ (by first | (simp; done) | (simp; omega)) _))⟩
  · go_enter Tryz.func41, Tryz.ntmps41
    go_wp2_with fail
    refine (HA.out _ (AV.ok.below hx (B := w.heap.size) (by (repeat (first | exact Below.refl _ _ | assumption | refine Below.drew ?_ | refine below_drewN ?_ _ | refine belowA ?_ _ | refine belowT ?_ (by assumption) | refine Below.setCell ?_ (by first | (simp; done) | (simp; omega)) _))) (Nat.le_refl _)) (AV.ok.below hy (B := w.heap.size) (by (repeat (first | exact Below.refl _ _ | assumption | refine Below.drew ?_ | refine below_drewN ?_ _ | refine belowA ?_ _ | refine belowT ?_ (by assumption) | refine Below.setCell ?_ (by first | (simp; done) | (simp; omega)) _))) (Nat.le_refl _))).mono ?_
    rintro e w1 ⟨rfl, hb1⟩
    go_wp2
    go_ret
    exact ⟨ret_bool (by rw [HS.out, he]; rfl), by (repeat (first | exact Below.refl _ _ | assumption | refine Below.drew ?_ | refine below_drewN ?_ _ | refine belowA ?_ _ | refine belowT ?_ (by assumption) | refine Below.setCell ?_ (by first | (simp; done) | (simp; omega)) _))⟩


set_option maxRecDepth 100000 in
set_option maxHeartbeats 4000000 in
theorem EqLR_some (b1 o1 m1 b2 o2 m2 n : Nat) (X Y : List LV) (w : World) (h1 : Lasts w (some ⟨b1, o1, none⟩) n m1 X) (h2 : Lasts w (some ⟨b2, o2, none⟩) n m2 Y)
    (hr1 : ∀ i x, X[i]? = some x → ∀ j v, x.cells[j]? = some v → w.cell? ⟨b1, o1 + i * 4 + j, none⟩ = some v)
    (hr2 : ∀ i x, Y[i]? = some x → ∀ j v, x.cells[j]? = some v → w.cell? ⟨b2, o2 + i * 4 + j, none⟩ = some v) :
    Calls Tryz.prog 37 #[.slice (some ⟨b1, o1, none⟩) n m1, .slice (some ⟨b2, o2, none⟩) n m2, .func (Fn.func 41) #[] #[]] w fun e w' => e = .returned (.bool (sameLs (X.map LV.p) (Y.map LV.p))) ∧ Below w.heap.size w w' := by
  have hlen1 := hide h1.len
  have hlen2 := hide h2.len
  have hmax := h1.max
  have hle := h1.le
  go_enter Tryz.func37, Tryz.ntmps37
  go_wp2
  go_loopw [17] (fun i wr => ∃ k : Nat, k ≤ n ∧ i = .int .i64 k ∧ (X.take k).map LV.p = (Y.take k).map LV.p ∧ Below w.heap.size w wr) (fun i _ => n - (intOf i).toNat)
  case atStart => exact ⟨0, by omega, rfl, by simp, Below.refl _ _⟩
  case round =>
    obtain ⟨k, hk, rfl, hp, hbr⟩ := hrel
    have HP := hide hp
    clear hp
    rename_i wr
    by_cases hlt : k < n
    · obtain ⟨x, hx⟩ : ∃ z, X[k]? = some z := ⟨X[k]'(by rw [hlen1.out]; exact hlt), by simp⟩
      obtain ⟨y, hy⟩ : ∃ z, Y[k]? = some z := ⟨Y[k]'(by rw [hlen2.out]; exact hlt), by simp⟩
      have ix := LV.ok.below (h1.ok x (List.mem_of_getElem? hx)) hbr (Nat.le_refl _)
      have iy := LV.ok.below (h2.ok y (List.mem_of_getElem? hy)) hbr (Nat.le_refl _)
      have HZ := hide hx
      have HY := hide hy
      have HS := hide (fun w' h k => rsame1_c x y w' h k)
      have HT : Hid (sameL x.p y.p = true → x.p = y.p) := hide (sameL_iff _ _).1
      have HF : Hid (sameL x.p y.p = false → x.p ≠ y.p) := hide (fun h e => by rw [(sameL_iff _ _).2 e] at h; cases h)
      have kx := hr1 k x hx
      have ky := hr2 k y hy
      clear hx hy
      generalize hsm : sameL x.p y.p = sm at *
      clear hsm
      obtain ⟨s1, ⟨e1, t1, a1, n1, c1, d1⟩⟩ := x
      obtain ⟨s2, ⟨e2, t2, a2, n2, c2, d2⟩⟩ := y
      dsimp only [LV.v] at HS
      have x0 := keepc hbr (kx 0 _ rfl)
      have x1 := keepc hbr (kx 1 _ rfl)
      have x2 := keepc hbr (kx 2 _ rfl)
      have x3 := keepc hbr (kx 3 _ rfl)
      have y0 := past1 (keepc hbr (ky 0 _ rfl))
      have y1 := past1 (keepc hbr (ky 1 _ rfl))
      have y2 := past1 (keepc hbr (ky 2 _ rfl))
      have y3 := past1 (keepc hbr (ky 3 _ rfl))
      rw [Nat.add_zero] at x0 y0
      clear kx ky
      have hlt' : (k : Int) < (n : Int) := by omega
      go_wp2_with fail
      refine (HS.out _ (LV.ok.below ix (B := wr.heap.size) (by (repeat (first | exact Below.refl _ _ | assumption | refine Below.drew ?_ | refine below_drewN ?_ _ | refine belowA ?_ _ | refine belowT ?_ (by assumption) | refine Below.setCell ?_ (by first | (simp; done) | (simp; omega)) _))) (Nat.le_refl _)) (LV.ok.below iy (B := wr.heap.size) (by (repeat (first | exact Below.refl _ _ | assumption | refine Below.drew ?_ | refine below_drewN ?_ _ | refine belowA ?_ _ | refine belowT ?_ (by assumption) | refine Below.setCell ?_ (by first | (simp; done) | (simp; omega)) _))) (Nat.le_refl _))).mono ?_
      rintro e w9 ⟨rfl, hb9⟩
      have b9 : Below w.heap.size w w9 := by (repeat (first | exact Below.refl _ _ | assumption | refine Below.drew ?_ | refine below_drewN ?_ _ | refine belowA ?_ _ | refine belowT ?_ (by assumption) | refine Below.setCell ?_ (by first | (simp; done) | (simp; omega)) _))
      clear hb9
      cases sm
      · have HNE := hide (HF.out rfl)
        clear HF HT
        go_wp2
        go_ret
        refine ⟨ret_bool (sameLs_f fun e => ?_).symm, b9⟩
        have := congrArg (fun L => L[k]?) e
        simp only [List.getElem?_map, HZ.out, HY.out, Option.map_some, Option.some.injEq] at this
        exact HNE.out this
      · have HEQ := hide (HT.out rfl)
        clear HF HT
        go_wp2
        have e := HEQ.out
        refine ⟨⟨k + 1, by omega, by go_num, ?_, b9⟩, by simp [intOf]; omega⟩
        obtain ⟨g1, g2⟩ := List.getElem?_eq_some_iff.1 HZ.out
        obtain ⟨g3, g4⟩ := List.getElem?_eq_some_iff.1 HY.out
        rw [List.take_succ_eq_append_getElem g1, List.take_succ_eq_append_getElem g3, List.map_append, List.map_append, HP.out, g2, g4]
        simpa using e
    · obtain rfl : k = n := by omega
      go_wp2
      go_ret
      have hp := HP.out
      rw [List.take_of_length_le (by rw [hlen1.out]; omega), List.take_of_length_le (by rw [hlen2.out]; omega)] at hp
      exact ⟨ret_bool (sameLs_t hp).symm, hbr⟩

theorem EqLR_ne (a1 a2 : Option Addr) (n1 n2 c1 c2 : Nat) (fv : Value) (w : World) (hne : n1 ≠ n2) (hm1 : n1 ≤ 9223372036854775807) (hm2 : n2 ≤ 9223372036854775807) :
    Calls Tryz.prog 37 #[.slice a1 n1 c1, .slice a2 n2 c2, fv] w fun e w' => e = .returned (.bool false) ∧ w' = w := by
  have hb : ((n1 : Int) != (n2 : Int)) = true := by simp; omega
  go_enter Tryz.func37, Tryz.ntmps37
  go_wp2
  go_ret
  exact ⟨rfl, rfl⟩

theorem EqLR_zero (a1 a2 : Option Addr) (c1 c2 : Nat) (fv : Value) (w : World) :
    Calls Tryz.prog 37 #[.slice a1 0 c1, .slice a2 0 c2, fv] w fun e w' => e = .returned (.bool true) ∧ w' = w := by
  go_enter Tryz.func37, Tryz.ntmps37
  go_wp2
  refine wp_loop_rounds 1 ?_
  rw [rounds_succ]
  go_wp2
  go_ret
  exact ⟨rfl, rfl⟩

theorem EqLR_c (a1 a2 : Option Addr) (n1 n2 c1 c2 : Nat) (X Y : List LV) (w : World) (h1 : Lasts w a1 n1 c1 X) (h2 : Lasts w a2 n2 c2 Y) :
    Calls Tryz.prog 37 #[.slice a1 n1 c1, .slice a2 n2 c2, .func (Fn.func 41) #[] #[]] w fun e w' => e = .returned (.bool (sameLs (X.map LV.p) (Y.map LV.p))) ∧ Below w.heap.size w w' := by
  by_cases hn : n1 = n2
  · subst hn
    by_cases h0 : n1 = 0
    · subst h0
      have e1 := h1.len
      have e2 := h2.len
      rw [List.length_eq_zero_iff] at e1 e2
      subst e1 e2
      refine (EqLR_zero a1 a2 c1 c2 _ w).mono ?_
      rintro e w' ⟨rfl, rfl⟩
      exact ⟨rfl, Below.refl _ _⟩
    · rcases h1.row with h | ⟨b1, o1, rfl, _, hr1⟩
      · omega
      · rcases h2.row with h | ⟨b2, o2, rfl, _, hr2⟩
        · omega
        · exact EqLR_some b1 o1 c1 b2 o2 c2 n1 X Y w h1 h2 hr1 hr2
  · have m1 := h1.max
    have m2 := h2.max
    have q1 := h1.le
    have q2 := h2.le
    refine (EqLR_ne a1 a2 n1 n2 c1 c2 _ w hn (by omega) (by omega)).mono ?_
    rintro e w' ⟨rfl, rfl⟩
    refine ⟨ret_bool (sameLs_f fun e => hn ?_).symm, Below.refl _ _⟩
    have := congrArg List.length e
    rw [List.length_map, List.length_map, h1.len, h2.len] at this
    exact this


set_option maxHeartbeats 1000000 in
theorem SameHall_c (h f : HV) (w : World) (hk : h.ok w) (hf : f.ok w) : Calls Tryz.prog 13 #[h.v, f.v] w fun e w' => e = .returned (.bool (sameH h.p f.p)) ∧ Below w.heap.size w w' := by
  have HD := hide (fun w' (h1 : h.d.ok w') (h2 : f.d.ok w') => SameDesk_c h.d f.d w' h1 h2)
  have HL := hide (fun w' h1 h2 => EqLR_c h.a f.a h.n f.n h.c f.c h.L f.L w' h1 h2)
  have HS : Hid (sameH h.p f.p = (sameD h.d.p f.d.p && sameLs (h.L.map LV.p) (f.L.map LV.p))) := hide rfl
  obtain ⟨x0, x1, bw⟩ := two_boxes w h.cells f.cells 30 30
  have hok := hk.below bw (Nat.le_refl _)
  have fok := hf.below bw (Nat.le_refl _)
  generalize sameH _ _ = r at *
  generalize sameD _ _ = sd at *
  generalize sameLs _ _ = sl at *
  rw [show h.v = .agg h.cells.toArray from rfl, show f.v = .agg f.cells.toArray from rfl] at *
  obtain ⟨⟨za, zn, zc, Z, ka, kn, kc, bk, bh, bt⟩, a, n, c, L⟩ := h
  obtain ⟨⟨ya, yn, yc, Y, la, ln, lc, fk, fh, ft⟩, b, m, d, M⟩ := f
  dsimp only [HV.cells, DV.v] at *
  go_enter Tryz.func13, Tryz.ntmps13
  go_wp2_with fail
  refine (HD.out _ hok.d fok.d).mono ?_
  rintro e w1 ⟨rfl, hb1⟩
  have c1 := keepc hb1 (x0.cell 4 _ rfl)
  have c2 := keepc hb1 (x1.cell 4 _ rfl)
  replace hok := hok.below hb1 (Nat.le_refl _)
  replace fok := fok.below hb1 (Nat.le_refl _)
  replace bw := belowT bw hb1
  clear hb1 x0 x1
  cases sd
  · go_wp2
    go_ret
    exact ⟨ret_bool (by rw [HS.out]; rfl), bw⟩
  · go_wp2_with fail
    refine (HL.out _ hok.l fok.l).mono ?_
    rintro e w2 ⟨rfl, hb2⟩
    go_wp2
    go_ret
    exact ⟨ret_bool (by rw [HS.out]; simp), belowT bw hb2⟩


set_option maxHeartbeats 4000000 in
theorem FreshHall_c (w : World) : Calls Tryz.prog 15 #[] w fun e w' => (∃ h : HV, e = .returned h.v ∧ h.ok w' ∧ h.new w.heap.size ∧ h.p = freshH) ∧ Below w.heap.size w w' := by
  have hmk := mkl3
  generalize hxs : (lcells zero3).toArray = xs at *
  have xR := Lay.made w [.slice none 0 0, .slice none 0 0, .int .i64 0, .int .i64 0, .slice none 0 0] 30
  have hL : ∀ w' : World, Lay (w'.alloc (.cells xs 72)) w'.heap.size (lcells zero3) := fun w' => by rw [← hxs]; exact Lay.made w' _ _
  have HL := hide hL
  have XR := hide xR
  clear hL xR hxs
  go_enter Tryz.func15, Tryz.ntmps15
  go_wp2_with fail
  go_region_with (first | (go_at_call 43; refine (FreshDesk_f _).mono ?_; rintro e w1 ⟨⟨⟨za, zn, zc, Z, ka, kn, kc, b⟩, rfl, i1, fr, hp⟩, hb1⟩; (have xR1 := XR.out.below (w' := w1) (by (repeat (first | exact Below.refl _ _ | assumption | refine Below.drew ?_ | refine below_drewN ?_ _ | refine belowA ?_ _ | refine belowT ?_ (by assumption) | refine Below.setCell ?_ (by first | (simp; done) | (simp; omega)) _)))); (have e0 := xR1.cell 0 _ rfl); (have e1 := xR1.cell 1 _ rfl); (have e2 := xR1.cell 2 _ rfl); (have e3 := xR1.cell 3 _ rfl); (have e4 := xR1.cell 4 _ rfl); (have f0 := xR1.ice 0); (have f1 := xR1.ice 1); (have f2 := xR1.ice 2); (have f3 := xR1.ice 3); (have f4 := xR1.ice 4); (have hl1 := xR1.lt); (have hn1 : w.heap.size ≠ w1.heap.size := by omega); (have hn2 : w1.heap.size ≠ w.heap.size := by omega); (have p0 := past1 e0); (have p1 := past1 e1); (have p2 := past1 e2); (have p3 := past1 e3); (have p4 := past1 e4); (have r0 := pastf1 e0 f0); (have r1 := pastf1 e1 f1); (have r2 := pastf1 e2 f2); (have r3 := pastf1 e3 f3); (have r4 := pastf1 e4 f4); (have FR := hide fr); (have HP := hide hp); (clear fr hp); dsimp only [DV.v] at i1 ⊢))
  all_goals go_wp2
  · have fr := FR.out.mono (show w.heap.size + 1 ≤ _ by simp)
    have bw : Below w.heap.size w w1 := by (repeat (first | exact Below.refl _ _ | assumption | refine Below.drew ?_ | refine below_drewN ?_ _ | refine belowA ?_ _ | refine belowT ?_ (by assumption) | refine Below.setCell ?_ (by first | (simp; done) | (simp; omega)) _))
    have hs : (((((w1.setCell ⟨w.heap.size, 0, none⟩ (.slice za zn zc)).setCell ⟨w.heap.size, 1, none⟩ (.slice ka kn kc)).setCell ⟨w.heap.size, 2, none⟩ (.int .i64 b.h)).setCell ⟨w.heap.size, 3, none⟩ (.int .i64 b.t)).setCell ⟨w.heap.size, 4, none⟩ (.slice (some ⟨w1.heap.size, 0, none⟩) 3 3)).heap.size = w1.heap.size := by simp [World.setCell]
    have zB := ((((xR1.set 0 (.slice za zn zc)).set 1 (.slice ka kn kc)).set 2 (.int .i64 b.h)).set 3 (.int .i64 b.t)).set 4 (.slice (some ⟨w1.heap.size, 0, none⟩) 3 3)
    have hbut := (((((ButI.refl (w.heap.size) w1).step 0 (.slice za zn zc)).step 1 (.slice ka kn kc)).step 2 (.int .i64 b.h)).step 3 (.int .i64 b.t)).step 4 (.slice (some ⟨w1.heap.size, 0, none⟩) 3 3)
    generalize ((((w1.setCell ⟨w.heap.size, 0, none⟩ (.slice za zn zc)).setCell ⟨w.heap.size, 1, none⟩ (.slice ka kn kc)).setCell ⟨w.heap.size, 2, none⟩ (.int .i64 b.h)).setCell ⟨w.heap.size, 3, none⟩ (.int .i64 b.t)).setCell ⟨w.heap.size, 4, none⟩ (.slice (some ⟨w1.heap.size, 0, none⟩) 3 3) = w8 at *
    have z0 := zB.cell 0 _ rfl
    have z1 := zB.cell 1 _ rfl
    have z2 := zB.cell 2 _ rfl
    have z3 := zB.cell 3 _ rfl
    have z4 := zB.cell 4 _ rfl
    have i9 := DV.ok.but i1 hbut.but (fr _ (by omega))
    have hm := HL.out w8
    rw [hs] at hm
    have bn := belowA (Below.refl _ w8) (.cells xs 72)
    have zC := zB.below bn
    have o9 : HV.ok (w8.alloc (.cells xs 72)) ⟨⟨za, zn, zc, Z, ka, kn, kc, b⟩, some ⟨w1.heap.size, 0, none⟩, 3, 3, zero3⟩ := ⟨i9.below bn (Nat.le_refl _), Lasts.of_lay (n := 3) hm (zero3_ok _) rfl (by omega)⟩
    have b9 : Below w.heap.size w (w8.alloc (.cells xs 72)) := belowT (bw.trans hbut.but.low) bn
    clear z0 z1 z2 z3 z4
    generalize w8.alloc (.cells xs 72) = w9 at *
    have z0 := zC.cell 0 _ rfl
    have z1 := zC.cell 1 _ rfl
    have z2 := zC.cell 2 _ rfl
    have z3 := zC.cell 3 _ rfl
    have z4 := zC.cell 4 _ rfl
    exact bodyPost_ret (v := .agg #[.slice za zn zc, .slice ka kn kc, .int .i64 b.h, .int .i64 b.t, .slice (some ⟨w1.heap.size, 0, none⟩) 3 3]) (by simp [results, Tryz.results15, go_sem, z0, z1, z2, z3, z4]) rfl
      ⟨⟨_, rfl, o9, fun R hR => ⟨fr R (by omega), .inr fun x e => by cases e; simp; omega, zero3_off R⟩, by simp only [HV.p, HP.out]; rfl⟩, b9⟩
  · have hm := HL.out (w.alloc (.cells #[.slice none 0 0, .slice none 0 0, .int .i64 0, .int .i64 0, .slice none 0 0] 30))
    simp only [World.size_alloc] at hm
    have hm1 := hm.below (w' := w1) (by (repeat (first | exact Below.refl _ _ | assumption | refine Below.drew ?_ | refine below_drewN ?_ _ | refine belowA ?_ _ | refine belowT ?_ (by assumption) | refine Below.setCell ?_ (by first | (simp; done) | (simp; omega)) _)))
    have fr := FR.out.mono (show w.heap.size + 1 ≤ _ by simp)
    have hok : HV.ok w1 ⟨⟨za, zn, zc, Z, ka, kn, kc, b⟩, some ⟨w.heap.size + 1, 0, none⟩, 3, 3, zero3⟩ := ⟨i1, Lasts.of_lay (n := 3) hm1 (zero3_ok _) rfl (by omega)⟩
    have hoff : ∀ R, R ≤ w.heap.size → HV.off R ⟨⟨za, zn, zc, Z, ka, kn, kc, b⟩, some ⟨w.heap.size + 1, 0, none⟩, 3, 3, zero3⟩ := fun R hR => ⟨fr R (by omega), .inr fun x e => by cases e; simp; omega, zero3_off R⟩
    have bw : Below w.heap.size w w1 := by (repeat (first | exact Below.refl _ _ | assumption | refine Below.drew ?_ | refine below_drewN ?_ _ | refine belowA ?_ _ | refine belowT ?_ (by assumption) | refine Below.setCell ?_ (by first | (simp; done) | (simp; omega)) _))
    have zB := ((((xR1.set 0 (.slice za zn zc)).set 1 (.slice ka kn kc)).set 2 (.int .i64 b.h)).set 3 (.int .i64 b.t)).set 4 (.slice (some ⟨w.heap.size + 1, 0, none⟩) 3 3)
    have hbut := (((((ButI.refl (w.heap.size) w1).step 0 (.slice za zn zc)).step 1 (.slice ka kn kc)).step 2 (.int .i64 b.h)).step 3 (.int .i64 b.t)).step 4 (.slice (some ⟨w.heap.size + 1, 0, none⟩) 3 3)
    generalize ((((w1.setCell ⟨w.heap.size, 0, none⟩ (.slice za zn zc)).setCell ⟨w.heap.size, 1, none⟩ (.slice ka kn kc)).setCell ⟨w.heap.size, 2, none⟩ (.int .i64 b.h)).setCell ⟨w.heap.size, 3, none⟩ (.int .i64 b.t)).setCell ⟨w.heap.size, 4, none⟩ (.slice (some ⟨w.heap.size + 1, 0, none⟩) 3 3) = w9 at *
    have z0 := zB.cell 0 _ rfl
    have z1 := zB.cell 1 _ rfl
    have z2 := zB.cell 2 _ rfl
    have z3 := zB.cell 3 _ rfl
    have z4 := zB.cell 4 _ rfl
    have o9 := hok.but hbut.but (hoff _ (Nat.le_refl _))
    exact bodyPost_ret (v := .agg #[.slice za zn zc, .slice ka kn kc, .int .i64 b.h, .int .i64 b.t, .slice (some ⟨w.heap.size + 1, 0, none⟩) 3 3]) (by simp [results, Tryz.results15, go_sem, z0, z1, z2, z3, z4]) rfl
      ⟨⟨_, rfl, o9, fun R hR => hoff R (Nat.le_of_lt hR), by simp only [HV.p, HP.out]; rfl⟩, bw.trans hbut.but.low⟩


end Go.Proofs.YtenmamcaldabdaaGreatDoor

/- The contract of the document's own CheckHall; no condition but that the argument reads as data. -/
namespace Go.Proofs.YtenmamcaldabdaaGreatDoor
open Go.RowKit
set_option linter.unusedVariables false
set_option maxRecDepth 100000
set_option linter.unusedSimpArgs false

set_option maxHeartbeats 4000000 in
theorem CheckHall_c (h : HV) (w : World) (hk : h.ok w) : Calls Tryz.prog 11 #[h.v] w fun e w' => e = .returned (.int .i64 (checkH h.p)) ∧ Below w.heap.size w w' := by
  obtain ⟨d, a, n, c, L⟩ := h
  obtain ⟨hd, hl⟩ := hk
  have HD := hide (fun w' (h' : d.ok w') => CheckDesk_c d w' h')
  have HC : Hid (checkH ⟨d.p, L.map LV.p⟩ = if checkD d.p ≠ 0 then checkD d.p else if (L.map LV.p).length ≠ 3 then 4 else firstL (L.map LV.p)) := hide rfl
  have HL : Hid ((L.map LV.p).length = n) := hide (by rw [List.length_map]; exact hl.len)
  rw [HL.out] at HC
  obtain ⟨za, zn, zc, Z, ka, kn, kc, bk, bh, bt⟩ := d
  dsimp only [HV.v, HV.p, DV.v] at *
  generalize checkD _ = cd at *
  generalize hr : checkH _ = r at *
  clear hr
  have hmax := hl.max
  have hle := hl.le
  go_enter Tryz.func11, Tryz.ntmps11
  go_wp2_with fail
  refine (HD.out _ (hd.below (B := w.heap.size) (by (repeat (first | exact Below.refl _ _ | assumption | refine Below.drew ?_ | refine below_drewN ?_ _ | refine belowA ?_ _ | refine belowT ?_ (by assumption) | refine Below.setCell ?_ (by first | (simp; done) | (simp; omega)) _))) (Nat.le_refl _))).mono ?_
  rintro e w1 ⟨rfl, hb1⟩
  have c4 := keepc hb1 (p := ⟨w.heap.size, 4, none⟩) (u := .slice a n c) (by go_simp)
  have bw : Below w.heap.size w w1 := by (repeat (first | exact Below.refl _ _ | assumption | refine Below.drew ?_ | refine below_drewN ?_ _ | refine belowA ?_ _ | refine belowT ?_ (by assumption) | refine Below.setCell ?_ (by first | (simp; done) | (simp; omega)) _))
  clear hb1
  cases h0 : cd != 0
  · by_cases h3 : n = 3
    · subst h3
      obtain ⟨b, off, rfl, hlt, hrow⟩ := hl.row.resolve_left (by omega)
      go_wp2_with fail
      go_loopw [20] (fun i wr => ∃ k : Nat, k ≤ 3 ∧ i = .int .i64 k ∧ firstL ((L.map LV.p).take k) = 0 ∧ Below w.heap.size w wr) (fun i _ => 3 - (intOf i).toNat)
      case atStart => exact ⟨0, by omega, rfl, rfl, bw⟩
      case round =>
        clear bw c4
        obtain ⟨k, hk, rfl, hp, hbr⟩ := hrel
        have HP := hide hp
        clear hp
        rename_i wr
        by_cases hlt3 : k < 3
        · obtain ⟨y, hy⟩ : ∃ z, L[k]? = some z := ⟨L[k]'(by rw [hl.len]; exact hlt3), by simp⟩
          have iy := LV.ok.below (hl.ok y (List.mem_of_getElem? hy)) hbr (Nat.le_refl _)
          have HS : Hid (∀ w' : World, y.x.ok w' → Calls Tryz.prog 16 #[y.x.v, .agg #[.int .i64 0, .int .i64 0, .slice none 0 0]] w' fun e w'' => e = .returned (.bool (sameA y.x.p zeroA)) ∧ Below w'.heap.size w' w'') := hide (fun w' h' => SameAnswerR_c y.x (AV.err 0) w' h' (AV.err_ok w' 0))
          have HA := hide (fun w' (h' : y.x.ok w') => CheckAnswerR_c y.x w' h')
          have hyp : (L.map LV.p)[k]? = some y.p := by rw [List.getElem?_map, hy]; rfl
          have HBAD : Hid (checkL y.p ≠ 0 → r = checkL y.p) := hide (fun e => by
            simp at h0
            rw [HC.out, if_neg (by simp [h0]), if_neg (by simp), firstL_at hyp HP.out e])
          have HNEXT : Hid (checkL y.p = 0 → firstL ((L.map LV.p).take (k + 1)) = 0) := hide (fun e => firstL_step hyp HP.out e)
          have HCL : Hid (checkL y.p = if inB y.s 0 40 = false then 3 else if checkA y.x.p ≠ 0 then checkA y.x.p else if y.s = 0 ∧ sameA y.x.p zeroA = false then 4 else 0) := hide rfl
          have ky := hrow k y hy
          clear hy hyp
          generalize checkL y.p = cl at *
          generalize checkA y.x.p = ca at *
          generalize sameA y.x.p zeroA = sa at *
          obtain ⟨s1, ⟨e1, t1, a1, n1, c1, d1⟩⟩ := y
          have iy' : Ints wr a1 n1 c1 d1 := iy
          dsimp only [AV.v] at HS HA HCL
          have x0 := keepc hbr (ky 0 _ rfl)
          have x1 := keepc hbr (ky 1 _ rfl)
          have x2 := keepc hbr (ky 2 _ rfl)
          have x3 := keepc hbr (ky 3 _ rfl)
          rw [Nat.add_zero] at x0
          clear ky iy
          have hlt' : (k : Int) < 3 := by omega
          cases hi : inB s1 0 40
          · have HI := hide hi
            clear hi
            go_wp2_with fail
            refine (in_c _ _ _ _).mono ?_
            rintro e w9 ⟨rfl, rfl⟩
            rw [HI.out]
            go_wp2
            go_ret
            have e3 : cl = 3 := by rw [HCL.out, if_pos HI.out]
            exact ⟨ret_int (by rw [HBAD.out (by omega), e3]), by (repeat (first | exact Below.refl _ _ | assumption | refine Below.drew ?_ | refine below_drewN ?_ _ | refine belowA ?_ _ | refine belowT ?_ (by assumption) | refine Below.setCell ?_ (by first | (simp; done) | (simp; omega)) _))⟩
          · have HI : Hid (inB s1 0 40 = true) := hide hi
            clear hi
            go_wp2_with fail
            refine (in_c _ _ _ _).mono ?_
            rintro e w9 ⟨rfl, rfl⟩
            rw [HI.out]
            go_wp2_with fail
            refine (HA.out _ (Ints.below iy' (B := wr.heap.size) (by (repeat (first | exact Below.refl _ _ | assumption | refine Below.drew ?_ | refine below_drewN ?_ _ | refine belowA ?_ _ | refine belowT ?_ (by assumption) | refine Below.setCell ?_ (by first | (simp; done) | (simp; omega)) _))) (Nat.le_refl _))).mono ?_
            rintro e w8 ⟨rfl, hb8⟩
            have b8 : Below wr.heap.size wr w8 := by (repeat (first | exact Below.refl _ _ | assumption | refine Below.drew ?_ | refine below_drewN ?_ _ | refine belowA ?_ _ | refine belowT ?_ (by assumption) | refine Below.setCell ?_ (by first | (simp; done) | (simp; omega)) _))
            have y0 := keepc hb8 (p := ⟨wr.heap.size, 0, none⟩) (u := .int .i64 s1) (by go_simp)
            have y1 := keepc hb8 (p := ⟨wr.heap.size, 1, none⟩) (u := .int .i64 e1) (by go_simp)
            have y2 := keepc hb8 (p := ⟨wr.heap.size, 2, none⟩) (u := .int .i64 t1) (by go_simp)
            have y3 := keepc hb8 (p := ⟨wr.heap.size, 3, none⟩) (u := .slice a1 n1 c1) (by go_simp)
            have bw8 := belowT hbr b8
            clear hb8 x0 x1 x2 x3
            cases e2 : ca != 0
            · have E2 : Hid (¬ (ca ≠ 0)) := hide (by simpa using e2)
              cases e3 : s1 == 0
              · have E3 : Hid (cl = 0) := hide (by
                  have h3 : ¬ s1 = 0 := by simpa using e3
                  rw [HCL.out, if_neg (by simp [HI.out]), if_neg E2.out, if_neg (by simp [h3])])
                go_wp2
                exact ⟨⟨k + 1, by omega, by go_num, HNEXT.out E3.out, bw8⟩, by simp [intOf]; omega⟩
              · have hs0 : Hid (s1 = 0) := hide (by simpa using e3)
                go_wp2_with fail
                refine (HS.out _ (Ints.below iy' b8 (Nat.le_refl _))).mono ?_
                rintro e w7 ⟨rfl, hb7⟩
                have bw7 := belowT bw8 hb7
                clear hb7
                cases sa
                · have E3 : Hid (cl = 4) := hide (by rw [HCL.out, if_neg (by simp [HI.out]), if_neg E2.out, if_pos (by simp [hs0.out])])
                  go_wp2
                  go_ret
                  have e4 := E3.out
                  exact ⟨ret_int (by rw [HBAD.out (by omega), e4]), bw7⟩
                · have E3 : Hid (cl = 0) := hide (by rw [HCL.out, if_neg (by simp [HI.out]), if_neg E2.out, if_neg (by simp)])
                  go_wp2
                  exact ⟨⟨k + 1, by omega, by go_num, HNEXT.out E3.out, bw7⟩, by simp [intOf]; omega⟩
            · have E2 : Hid (ca ≠ 0) := hide (by simpa using e2)
              have E3 : Hid (cl = ca) := hide (by rw [HCL.out, if_neg (by simp [HI.out]), if_pos E2.out])
              go_wp2
              go_ret
              have e4 := E3.out
              have e5 := E2.out
              exact ⟨ret_int (by rw [HBAD.out (by omega), e4]), bw8⟩
        · obtain rfl : k = 3 := by omega
          have hp := HP.out
          rw [List.take_of_length_le (by rw [HL.out]; omega)] at hp
          have HQ := hide hp
          clear hp
          go_wp2
          go_ret
          simp at h0
          exact ⟨ret_int (by rw [HC.out, if_neg (by simp [h0]), if_neg (by simp), HQ.out]), hbr⟩
    · have h3' : ((n : Int) != 3) = true := by simp; omega
      go_wp2
      go_ret
      simp at h0
      exact ⟨ret_int (by rw [HC.out, if_neg (by simp [h0]), if_pos h3]), bw⟩
  · go_wp2
    go_ret
    simp at h0
    exact ⟨ret_int (by rw [HC.out, if_pos h0]), bw⟩

end Go.Proofs.YtenmamcaldabdaaGreatDoor

/- The contract of slices.Clone at what hands were answered last; no condition but that the slice reads so. -/
namespace Go.Proofs.YtenmamcaldabdaaGreatDoor
open Go.RowKit
set_option linter.unusedVariables false
set_option maxRecDepth 100000
set_option linter.unusedSimpArgs false

theorem infoLast : ∃ i, Tryz.prog.info? 72 = some i ∧ i.zero = some (.agg #[.int .i64 0, .int .i64 0, .int .i64 0, .slice none 0 0]) ∧ i.size = 4 ∧ i.bytes = 48 := by
  have h : (Tryz.prog.info? 72).map (fun i => (i.zero, i.size, i.bytes)) = some (some (.agg #[.int .i64 0, .int .i64 0, .int .i64 0, .slice none 0 0]), 4, 48) := by kernel_rfl
  obtain ⟨i, hi, h⟩ := Option.map_eq_some_iff.1 h
  simp only [Prod.mk.injEq] at h
  exact ⟨i, hi, h.1, h.2.1, h.2.2⟩
theorem lcells_src {w : World} {b off : Nat} {L : List LV} (hr : ∀ i y, L[i]? = some y → ∀ j v, y.cells[j]? = some v → w.cell? ⟨b, off + i * 4 + j, none⟩ = some v) :
    ∀ j u, (lcells L)[j]? = some u → w.cell? ((⟨b, off, none⟩ : Addr).add j) = some u := by
  intro j u hu
  have hj : j < L.length * 4 := by rw [← lcells_len]; exact (List.getElem?_eq_some_iff.1 hu).1
  obtain ⟨y, hy⟩ : ∃ y, L[j / 4]? = some y := ⟨L[j / 4]'(by omega), by simp⟩
  obtain ⟨v, hv⟩ : ∃ v, y.cells[j % 4]? = some v := ⟨_, List.getElem?_eq_getElem (by rw [y.cells_len]; omega)⟩
  have g := lcells_get L (j / 4) y hy (j % 4) v hv
  rw [show j / 4 * 4 + j % 4 = j by omega] at g
  rw [g] at hu
  obtain rfl : v = u := by simpa using hu
  have := hr (j / 4) y hy (j % 4) _ hv
  rw [addr_add, show off + j = off + j / 4 * 4 + j % 4 by omega]
  exact this
theorem Lay.of_ownL {w : World} {base g n c : Nat} {L : List LV} (h : w.ownsRow base 72 4 (.slice (some ⟨g, 0, none⟩) n c) n (lcells L)) (hl : L.length = n) : Lay w g (lcells L) ∧ base ≤ g ∧ n ≤ c ∧ c ≤ 9223372036854775807 := by
  obtain ⟨_, h⟩ := h
  rcases h with ⟨e, _⟩ | ⟨g', cap, cur, e, hb, hg, hn, hm, hs, hc⟩
  · cases e
  · cases e
    refine ⟨⟨fun i v hv => ?_, fun i => frozen_row hg, (Array.getElem?_eq_some_iff.1 hg).1⟩, hb, hn, by simp [maxLen] at hm; omega⟩
    have hi : i < n * 4 := by have := (List.getElem?_eq_some_iff.1 hv).1; rw [lcells_len, hl] at this; exact this
    rw [← hc, List.getElem?_take, if_pos (by omega)] at hv
    rw [cell_of_row w g _ _ _ _ hg]
    simpa using hv

set_option maxHeartbeats 2000000 in
theorem CloneL_c (b off c : Nat) (n : Nat) (L : List LV) (w : World) (h : Lasts w (some ⟨b, off, none⟩) n c L) (hn : 0 < n) (hn2 : n ≤ 1000000)
    (hr : ∀ i y, L[i]? = some y → ∀ j v, y.cells[j]? = some v → w.cell? ⟨b, off + i * 4 + j, none⟩ = some v) :
    Calls Tryz.prog 58 #[.slice (some ⟨b, off, none⟩) n c] w fun e w' => (∃ g cap, e = .returned (.slice (some ⟨g, 0, none⟩) n cap) ∧ Lay w' g (lcells L) ∧ w.heap.size ≤ g ∧ n ≤ cap ∧ cap ≤ 9223372036854775807) ∧ Below w.heap.size w w' := by
  obtain ⟨i, hi, hz, hs, hb⟩ := infoLast
  have hnil := fun (W : World) (x : Addr) => Lib.run_eql_slice_nil (P := Tryz.prog) W 28 72 (some x) n c 0 0 Tryz.underlying28
  go_enter Tryz.func58, Tryz.ntmps58
  go_wp2_with (at_builtin; refine wpList_append_own _ rfl _ _ 28 rfl w.heap.size 72 i (.agg #[.int .i64 0, .int .i64 0, .int .i64 0, .slice none 0 0]) 4 48 Tryz.underlying28 hi hz hs hb rfl (by decide) _ 0 [] rfl ?ho ⟨b, off, none⟩ n c (lcells L) rfl ?h1 ?h2 (lcells_one L) ?h3 ?h4 ?h5 ?h6)
  case ho => exact ⟨rfl, .inr ⟨w.heap.size, 0, #[], rfl, Nat.le_refl _, heap_new w _, Nat.le_refl _, Nat.zero_le _, rfl, by simp⟩⟩
  case h1 => rw [lcells_len, h.len]
  case h2 => exact lcells_src (fun i y hy j v hv => past1 (hr i y hy j v hv) _)
  case h3 => simp [maxLen]; omega
  case h4 => omega
  case h5 => simp
  case h6 =>
    intro v' w' ho hg hne
    have hv : ∃ g cap, v' = .slice (some ⟨g, 0, none⟩) n cap ∧ w.heap.size ≤ g := by
      rcases ho.2 with ⟨e, _⟩ | ⟨g, cap, cur, e, hb, _⟩
      · exact absurd e hne
      · exact ⟨g, cap, e, hb⟩
    obtain ⟨g, cap, rfl, hgb⟩ := hv
    have hb' : Below w.heap.size w w' := (belowA (Below.refl _ _) _).grown hg (by simp) (by intro k e; simp [Value.ownBlock] at e; omega)
    have hm := Lay.of_ownL ho h.len
    clear ho hg hne
    go_wp2
    go_ret
    exact ⟨⟨g, cap, rfl, hm.1, hgb, hm.2.2.1, hm.2.2.2⟩, hb'⟩

end Go.Proofs.YtenmamcaldabdaaGreatDoor
