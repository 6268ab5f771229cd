/- The contract of the document's own Done: what the plain function says; no condition but that it is asked at a right desk by a right command of a hand that is there. -/
import Derived.Test.YtkamnbigfdbgbaaGreatDoorDeskSaysG28
namespace Go.Proofs.YtkamnbigfdbgbaaGreatDoor
open Go.RowKit
set_option linter.unusedVariables false
set_option maxRecDepth 100000
set_option linter.unusedSimpArgs false

theorem Might_u (a : Option Addr) (n c : Nat) (b : PB) (j : Nat) (wr : Bool) (w : World) (h : Ints w a n c b.k) (hok : checkB b = 0) (hj : j < 3) :
    Calls Tryz.prog 38 #[bookV a n c b, .int .i64 j, .bool wr] w fun e w' => e = .returned (.bool (mightB b j wr)) ∧ Below w.heap.size w w' := by
  obtain ⟨l, hh, tt⟩ := b
  obtain ⟨x, y, z, e, _⟩ := checkB_ok hok
  dsimp only at e h
  subst e
  obtain rfl : n = 3 := by rw [← h.len]; rfl
  exact Might_c a c x y z hh tt j wr w h hok hj

/-- What Done makes of the zones, in OnZones' words. -/
theorem done_zones {d : PD} {j : Int} {x : PC} {kd : Int} (hk : x.k < 8) (h7 : x.k ≠ 7) (hk1 : 1 ≤ x.k) (hm : mightB d.b j true = true)
    (h : kd = 5 ∧ (x.k = 5 ∨ x.k = 6) ∧ lateB d.P x = false ∨ kd = x.k ∧ x.k ≤ 4) :
    doneD d j x = if (zonesDo d.P kd x.z x.d).2.2 = 0 then (⟨(zonesDo d.P kd x.z x.d).1, d.b⟩, ⟨0, (zonesDo d.P kd x.z x.d).2.1, []⟩) else (d, ⟨(zonesDo d.P kd x.z x.d).2.2, (zonesDo d.P kd x.z x.d).2.1, []⟩) := by
  have h7' : (x.k != 7) = true := by simpa using h7
  simp only [doneD]
  rw [if_neg (by omega), h7', hm, if_neg (by simp), if_neg h7]
  rcases h with ⟨rfl, hx, hl⟩ | ⟨rfl, hx⟩
  · rw [if_pos hx, writeD_not hl]
    simp only [zonesDo, if_true]
    by_cases he : (writeP d.P x.z x.d).2.2 = 0
    · simp [he]
    · simp [he, writeP_none he, errA]
  · rw [if_neg (by omega)]
    have e : zoneDo d.P ⟨x.k, x.z, 0, 0, []⟩ = zoneDo d.P x := rfl
    simp only [zonesDo, if_neg (show ¬ x.k = 5 by omega), e]
    by_cases he : (zoneDo d.P x).2 = 0
    · simp [he, zeroA]
    · simp [he, errA]

set_option maxHeartbeats 16000000 in
theorem Done_f (d : DV) (j : Nat) (ca : Option Addr) (cn cc : Nat) (x : PC) (w : World) (h : d.ok w) (hx : Ints w ca cn cc x.d) (hd : checkD d.p = 0) (hj : j < 3) (hc : checkC x = 0) :
    Calls Tryz.prog 16 #[d.v, .int .i64 j, cmdV ca cn cc x] w fun e w' => (∃ (d' : DV) (a' : AV), e = .returned (.tuple #[d'.v, a'.v]) ∧ d'.ok w' ∧ a'.ok w' ∧ d'.p = (doneD d.p j x).1 ∧ a'.p = (doneD d.p j x).2 ∧ ∀ R, R < w.heap.size → d.off R → d'.off R ∧ a'.off R) ∧ Below w.heap.size w w' := by
  obtain ⟨hk, hxz, _, _, _, _, _⟩ := cmd_facts hc
  obtain ⟨hcz, hcb⟩ := checkD_ok hd
  clear hc hd
  obtain ⟨za, zn, zc, Z, ka, kn, kc, bk, bh, bt⟩ := d
  obtain ⟨xk, xz, xn, xt, xd⟩ := x
  have GM := hide (fun w' h' => Might_u ka kn kc ⟨bk, bh, bt⟩ j (xk != 7) w' h' hcb hj)
  have GZ := hide (fun kd w' (h' : Zones w' za zn zc Z) (hd' : Ints w' ca cn cc xd) hkd => OnZ_any za zn zc Z kd xz ca cn cc xd w' h' hd' hkd)
  have hoR : ∀ R, w.heap.size ≤ R → DV.off R ⟨za, zn, zc, Z, ka, kn, kc, bk, bh, bt⟩ := fun R hR => h.off hR
  obtain ⟨x2, x3⟩ := do_boxes w (.cells #[.slice za zn zc, .slice ka kn kc, .int .i64 bh, .int .i64 bt] 27) (.cells #[.int .i64 xk, .int .i64 xz, .int .i64 xn, .int .i64 xt, .slice ca cn cc] 29)
  have xP := (Lay.made w [.slice za zn zc, .slice ka kn kc, .int .i64 bh, .int .i64 bt] 27).below (w' := (((w.alloc (.cells #[.slice za zn zc, .slice ka kn kc, .int .i64 bh, .int .i64 bt] 27)).alloc (.cells #[.int .i64 xk, .int .i64 xz, .int .i64 xn, .int .i64 xt, .slice ca cn cc] 29)).alloc (.cells #[.slice none 0 0, .slice none 0 0, .int .i64 0, .int .i64 0] 27)).alloc (.cells #[.int .i64 0, .int .i64 0, .slice none 0 0] 32)) (by (repeat first | exact bel0 | assumption | refine bel1 ?_ | refine bel2 ?_ | refine bel3 ?_ | refine belowT ?_ (by assumption) | refine bel5 ?_ (by simp; try omega)))
  have xC := (Lay.made1 w (.cells #[.slice za zn zc, .slice ka kn kc, .int .i64 bh, .int .i64 bt] 27) [.int .i64 xk, .int .i64 xz, .int .i64 xn, .int .i64 xt, .slice ca cn cc] 29).below (w' := (((w.alloc (.cells #[.slice za zn zc, .slice ka kn kc, .int .i64 bh, .int .i64 bt] 27)).alloc (.cells #[.int .i64 xk, .int .i64 xz, .int .i64 xn, .int .i64 xt, .slice ca cn cc] 29)).alloc (.cells #[.slice none 0 0, .slice none 0 0, .int .i64 0, .int .i64 0] 27)).alloc (.cells #[.int .i64 0, .int .i64 0, .slice none 0 0] 32)) (by (repeat first | exact bel0 | assumption | refine bel1 ?_ | refine bel2 ?_ | refine bel3 ?_ | refine belowT ?_ (by assumption) | refine bel5 ?_ (by simp; try omega)))
  have bw : Below w.heap.size w ((((w.alloc (.cells #[.slice za zn zc, .slice ka kn kc, .int .i64 bh, .int .i64 bt] 27)).alloc (.cells #[.int .i64 xk, .int .i64 xz, .int .i64 xn, .int .i64 xt, .slice ca cn cc] 29)).alloc (.cells #[.slice none 0 0, .slice none 0 0, .int .i64 0, .int .i64 0] 27)).alloc (.cells #[.int .i64 0, .int .i64 0, .slice none 0 0] 32)) := by (repeat first | exact bel0 | assumption | refine bel1 ?_ | refine bel2 ?_ | refine bel3 ?_ | refine belowT ?_ (by assumption) | refine bel5 ?_ (by simp; try omega))
  have ok1 := h.below bw (Nat.le_refl _)
  have hx1 := hx.below bw (Nat.le_refl _)
  clear h hx
  unfold cmdV
  dsimp only [DV.v, DV.p, bookV] at *
  obtain ⟨hk1, hk2⟩ := hk
  go_enter Tryz.func16, Tryz.ntmps16
  go_upto_region 1 with fail
  generalize ((((w.alloc (.cells #[.slice za zn zc, .slice ka kn kc, .int .i64 bh, .int .i64 bt] 27)).alloc (.cells #[.int .i64 xk, .int .i64 xz, .int .i64 xn, .int .i64 xt, .slice ca cn cc] 29)).alloc (.cells #[.slice none 0 0, .slice none 0 0, .int .i64 0, .int .i64 0] 27)).alloc (.cells #[.int .i64 0, .int .i64 0, .slice none 0 0] 32)) = w1 at *
  have hl3 := x3.lt
  have b0 := xP.cell 0 _ rfl
  have b1 := xP.cell 1 _ rfl
  have b2 := xP.cell 2 _ rfl
  have b3 := xP.cell 3 _ rfl
  have q0 := xC.cell 0 _ rfl
  have q1 := xC.cell 1 _ rfl
  have q2 := xC.cell 2 _ rfl
  have q3 := xC.cell 3 _ rfl
  have q4 := xC.cell 4 _ rfl
  by_cases h8 : 8 ≤ xk
  · have GB := fun w' h' => OnB_any ka kn kc ⟨bk, bh, bt⟩ j ⟨xk, xz, xn, xt, xd⟩ w' h' ⟨h8, hk2⟩
    have HR := hide (show doneD ⟨Z.map ZV.p, ⟨bk, bh, bt⟩⟩ j ⟨xk, xz, xn, xt, xd⟩ = if (bookDo ⟨bk, bh, bt⟩ j ⟨xk, xz, xn, xt, xd⟩).2 ≠ 0 then (⟨Z.map ZV.p, ⟨bk, bh, bt⟩⟩, errA (bookDo ⟨bk, bh, bt⟩ j ⟨xk, xz, xn, xt, xd⟩).2) else (⟨Z.map ZV.p, (bookDo ⟨bk, bh, bt⟩ j ⟨xk, xz, xn, xt, xd⟩).1⟩, zeroA) by simp only [doneD]; rw [if_pos h8])
    unfold bookV at GB
    dsimp only at GB
    have HGB := hide GB
    clear GB GM GZ
    go_wp2_with fail
    refine (HGB.out _ ok1.k).mono ?_
    rintro e w2 ⟨⟨a1, n1, c1, rfl, i1, fr⟩, hb2⟩
    have FR := hide (show ∀ y, a1 = some y → w.heap.size + 1 + 1 + 1 < y.block from fun y e => Nat.lt_of_lt_of_le hl3 (fr y e))
    generalize hbr : bookDo ⟨bk, bh, bt⟩ j ⟨xk, xz, xn, xt, xd⟩ = r at *
    obtain ⟨⟨rk, rh, rt⟩, re⟩ := r
    clear hbr fr
    dsimp only at *
    have ok2 := ok1.below hb2 (Nat.le_refl _)
    replace x2 := x2.below hb2
    replace x3 := x3.below hb2
    replace xP := xP.below hb2
    replace bw := belowT bw hb2
    clear hb2 b0 b1 b2 b3 q0 q1 q2 q3 q4 ok1 hx1
    go_upto_region 3 with fail
    have xN := Lay.made w2 [.slice a1 n1 c1, .int .i64 rh, .int .i64 rt] 25
    have bn := belowA (Below.refl _ w2) (.cells [.slice a1 n1 c1, .int .i64 rh, .int .i64 rt].toArray 25)
    replace x2 := x2.below bn
    replace x3 := x3.below bn
    replace xP := xP.below bn
    replace ok2 := ok2.below bn (Nat.le_refl _)
    replace i1 := i1.below bn (Nat.le_refl _)
    have hlP := x3.lt
    replace bw := belowT bw bn
    clear bn
    generalize w2.heap.size = B8 at *
    generalize w2.alloc (.cells [.slice a1 n1 c1, .int .i64 rh, .int .i64 rt].toArray 25) = w3 at *
    have b0 := xP.cell 0 _ rfl
    have b1 := xP.cell 1 _ rfl
    have b2 := xP.cell 2 _ rfl
    have b3 := xP.cell 3 _ rfl
    have q0 := xN.cell 0 _ rfl
    have q1 := xN.cell 1 _ rfl
    have q2 := xN.cell 2 _ rfl
    have k1 := xP.ice 1
    have k2 := xP.ice 2
    have k3 := xP.ice 3
    by_cases he : re = 0
    · subst he
      have hDB : DBox w3 w.heap.size ⟨za, zn, zc, Z, ka, kn, kc, bk, bh, bt⟩ := ⟨xP, ok2, hoR _ (Nat.le_refl _)⟩
      have hDB2 := hDB.book (b := ⟨rk, rh, rt⟩) i1 (N := w.heap.size + 1) (fun x e => by have := FR.out x e; omega) (by omega)
      dsimp only at hDB2
      go_upto_region 5 with fail
      replace x2 := ((x2.far ⟨w.heap.size, 1, none⟩ (.slice a1 n1 c1) (by simp; omega)).far ⟨w.heap.size, 2, none⟩ (.int .i64 rh) (by simp; omega)).far ⟨w.heap.size, 3, none⟩ (.int .i64 rt) (by simp; omega)
      replace x3 := ((x3.far ⟨w.heap.size, 1, none⟩ (.slice a1 n1 c1) (by simp; omega)).far ⟨w.heap.size, 2, none⟩ (.int .i64 rh) (by simp; omega)).far ⟨w.heap.size, 3, none⟩ (.int .i64 rt) (by simp; omega)
      replace bw := ((bw.setCell (p := ⟨w.heap.size, 1, none⟩) (Nat.le_refl _) (.slice a1 n1 c1)).setCell (p := ⟨w.heap.size, 2, none⟩) (Nat.le_refl _) (.int .i64 rh)).setCell (p := ⟨w.heap.size, 3, none⟩) (Nat.le_refl _) (.int .i64 rt)
      clear hDB b0 b1 b2 b3 q0 q1 q2 k1 k2 k3 xP xN
      generalize ((w3.setCell ⟨w.heap.size, 1, none⟩ (.slice a1 n1 c1)).setCell ⟨w.heap.size, 2, none⟩ (.int .i64 rh)).setCell ⟨w.heap.size, 3, none⟩ (.int .i64 rt) = w4 at *
      have okd := hDB2.ok
      have offd : ∀ R, R ≤ w.heap.size + 1 + 1 + 1 → DV.off R ⟨za, zn, zc, Z, ka, kn, kc, bk, bh, bt⟩ → DV.off R ⟨za, zn, zc, Z, a1, n1, c1, rk, rh, rt⟩ := fun R h2 ho => ⟨ho.z, ho.l, .inr fun x e => by have := FR.out x e; omega⟩
      have oka : AV.ok w4 (AV.err 0) := AV.err_ok _ _
      have offa : ∀ R, R ≤ w.heap.size + 1 + 1 + 1 → AV.off R (AV.err 0) := fun R _ => .inl rfl
      have c0 := hDB2.lay.cell 0 _ rfl
      have c2 := hDB2.lay.cell 1 _ rfl
      have c3 := hDB2.lay.cell 2 _ rfl
      have c4 := hDB2.lay.cell 3 _ rfl
      have e0 := x2.cell 0 _ rfl
      have e1 := x2.cell 1 _ rfl
      have e2 := x2.cell 2 _ rfl
      have e3 := x2.cell 3 _ rfl
      have f0 := x2.ice 0
      have f1 := x2.ice 1
      have f2 := x2.ice 2
      have f3 := x2.ice 3
      have g0 := x3.cell 0 _ rfl
      have g1 := x3.cell 1 _ rfl
      have g2 := x3.cell 2 _ rfl
      have h0 := x3.ice 0
      have h1 := x3.ice 1
      have h2 := x3.ice 2
      go_wp2
      have zD := (((x2.set 0 (.slice za zn zc)).set 1 (.slice a1 n1 c1)).set 2 (.int .i64 rh)).set 3 (.int .i64 rt)
      have y3 := (((x3.far ⟨w.heap.size + 1 + 1, 0, none⟩ (.slice za zn zc) (by simp)).far ⟨w.heap.size + 1 + 1, 1, none⟩ (.slice a1 n1 c1) (by simp)).far ⟨w.heap.size + 1 + 1, 2, none⟩ (.int .i64 rh) (by simp)).far ⟨w.heap.size + 1 + 1, 3, none⟩ (.int .i64 rt) (by simp)
      have hb2 := ((((But.refl (w.heap.size + 1 + 1) w4).step 0 (.slice za zn zc)).step 1 (.slice a1 n1 c1)).step 2 (.int .i64 rh)).step 3 (.int .i64 rt)
      generalize (((w4.setCell ⟨w.heap.size + 1 + 1, 0, none⟩ (.slice za zn zc)).setCell ⟨w.heap.size + 1 + 1, 1, none⟩ (.slice a1 n1 c1)).setCell ⟨w.heap.size + 1 + 1, 2, none⟩ (.int .i64 rh)).setCell ⟨w.heap.size + 1 + 1, 3, none⟩ (.int .i64 rt) = w98 at *
      have zA := ((y3.set 0 (.int .i64 (0))).set 1 (.int .i64 (0))).set 2 (.slice none 0 0)
      have zE := ((zD.far ⟨w.heap.size + 1 + 1 + 1, 0, none⟩ (.int .i64 (0)) (by simp)).far ⟨w.heap.size + 1 + 1 + 1, 1, none⟩ (.int .i64 (0)) (by simp)).far ⟨w.heap.size + 1 + 1 + 1, 2, none⟩ (.slice none 0 0) (by simp)
      have hb3 := (((But.refl (w.heap.size + 1 + 1 + 1) w98).step 0 (.int .i64 (0))).step 1 (.int .i64 (0))).step 2 (.slice none 0 0)
      have o9 := (okd.but hb2 (offd _ (by omega) (hoR _ (by omega)))).but hb3 (offd _ (by omega) (hoR _ (by omega)))
      have a9 := AV.ok.but (AV.ok.but oka hb2 (offa _ (by omega))) hb3 (offa _ (by omega))
      have b9 := (bw.trans (hb2.low.mono (show w.heap.size ≤ w.heap.size + 1 + 1 by omega))).trans (hb3.low.mono (show w.heap.size ≤ w.heap.size + 1 + 1 + 1 by omega))
      generalize ((w98.setCell ⟨w.heap.size + 1 + 1 + 1, 0, none⟩ (.int .i64 (0))).setCell ⟨w.heap.size + 1 + 1 + 1, 1, none⟩ (.int .i64 (0))).setCell ⟨w.heap.size + 1 + 1 + 1, 2, none⟩ (.slice none 0 0) = w99 at *
      have z0 := zE.cell 0 _ rfl
      have z1 := zE.cell 1 _ rfl
      have z2 := zE.cell 2 _ rfl
      have z3 := zE.cell 3 _ rfl
      have v0 := zA.cell 0 _ rfl
      have v1 := zA.cell 1 _ rfl
      have v2 := zA.cell 2 _ rfl
      refine bodyPost_ret (v := .tuple #[.agg #[.slice za zn zc, .slice a1 n1 c1, .int .i64 rh, .int .i64 rt], .agg #[.int .i64 (0), .int .i64 (0), .slice none 0 0]]) (by simp [results, Tryz.results16, go_sem, z0, z1, z2, z3, v0, v1, v2]) rfl ⟨⟨⟨za, zn, zc, Z, a1, n1, c1, rk, rh, rt⟩, AV.err 0, rfl, o9, a9, ?_, ?_, fun R hR ho => ⟨offd R (by omega) ho, offa R (by omega)⟩⟩, b9⟩
      · first | (rw [HR.out]; done) | (rw [HR.out]; rfl)
      · first | (rw [HR.out]; done) | (rw [HR.out]; rfl)
    · have he' : (re == 0) = false := by simpa using he
      have HE := hide he
      clear he
      have okd := ok2
      have offd : ∀ R, R ≤ w.heap.size + 1 + 1 + 1 → DV.off R ⟨za, zn, zc, Z, ka, kn, kc, bk, bh, bt⟩ → DV.off R ⟨za, zn, zc, Z, ka, kn, kc, bk, bh, bt⟩ := fun R _ ho => ho
      have oka : AV.ok w3 (AV.err re) := AV.err_ok _ _
      have offa : ∀ R, R ≤ w.heap.size + 1 + 1 + 1 → AV.off R (AV.err re) := fun R _ => .inl rfl
      have e0 := x2.cell 0 _ rfl
      have e1 := x2.cell 1 _ rfl
      have e2 := x2.cell 2 _ rfl
      have e3 := x2.cell 3 _ rfl
      have f0 := x2.ice 0
      have f1 := x2.ice 1
      have f2 := x2.ice 2
      have f3 := x2.ice 3
      have g0 := x3.cell 0 _ rfl
      have g1 := x3.cell 1 _ rfl
      have g2 := x3.cell 2 _ rfl
      have h0 := x3.ice 0
      have h1 := x3.ice 1
      have h2 := x3.ice 2
      go_wp2
      have zD := (((x2.set 0 (.slice za zn zc)).set 1 (.slice ka kn kc)).set 2 (.int .i64 bh)).set 3 (.int .i64 bt)
      have y3 := (((x3.far ⟨w.heap.size + 1 + 1, 0, none⟩ (.slice za zn zc) (by simp)).far ⟨w.heap.size + 1 + 1, 1, none⟩ (.slice ka kn kc) (by simp)).far ⟨w.heap.size + 1 + 1, 2, none⟩ (.int .i64 bh) (by simp)).far ⟨w.heap.size + 1 + 1, 3, none⟩ (.int .i64 bt) (by simp)
      have hb2 := ((((But.refl (w.heap.size + 1 + 1) w3).step 0 (.slice za zn zc)).step 1 (.slice ka kn kc)).step 2 (.int .i64 bh)).step 3 (.int .i64 bt)
      generalize (((w3.setCell ⟨w.heap.size + 1 + 1, 0, none⟩ (.slice za zn zc)).setCell ⟨w.heap.size + 1 + 1, 1, none⟩ (.slice ka kn kc)).setCell ⟨w.heap.size + 1 + 1, 2, none⟩ (.int .i64 bh)).setCell ⟨w.heap.size + 1 + 1, 3, none⟩ (.int .i64 bt) = w98 at *
      have zA := ((y3.set 0 (.int .i64 (re))).set 1 (.int .i64 (0))).set 2 (.slice none 0 0)
      have zE := ((zD.far ⟨w.heap.size + 1 + 1 + 1, 0, none⟩ (.int .i64 (re)) (by simp)).far ⟨w.heap.size + 1 + 1 + 1, 1, none⟩ (.int .i64 (0)) (by simp)).far ⟨w.heap.size + 1 + 1 + 1, 2, none⟩ (.slice none 0 0) (by simp)
      have hb3 := (((But.refl (w.heap.size + 1 + 1 + 1) w98).step 0 (.int .i64 (re))).step 1 (.int .i64 (0))).step 2 (.slice none 0 0)
      have o9 := (okd.but hb2 (offd _ (by omega) (hoR _ (by omega)))).but hb3 (offd _ (by omega) (hoR _ (by omega)))
      have a9 := AV.ok.but (AV.ok.but oka hb2 (offa _ (by omega))) hb3 (offa _ (by omega))
      have b9 := (bw.trans (hb2.low.mono (show w.heap.size ≤ w.heap.size + 1 + 1 by omega))).trans (hb3.low.mono (show w.heap.size ≤ w.heap.size + 1 + 1 + 1 by omega))
      generalize ((w98.setCell ⟨w.heap.size + 1 + 1 + 1, 0, none⟩ (.int .i64 (re))).setCell ⟨w.heap.size + 1 + 1 + 1, 1, none⟩ (.int .i64 (0))).setCell ⟨w.heap.size + 1 + 1 + 1, 2, none⟩ (.slice none 0 0) = w99 at *
      have z0 := zE.cell 0 _ rfl
      have z1 := zE.cell 1 _ rfl
      have z2 := zE.cell 2 _ rfl
      have z3 := zE.cell 3 _ rfl
      have v0 := zA.cell 0 _ rfl
      have v1 := zA.cell 1 _ rfl
      have v2 := zA.cell 2 _ rfl
      refine bodyPost_ret (v := .tuple #[.agg #[.slice za zn zc, .slice ka kn kc, .int .i64 bh, .int .i64 bt], .agg #[.int .i64 (re), .int .i64 (0), .slice none 0 0]]) (by simp [results, Tryz.results16, go_sem, z0, z1, z2, z3, v0, v1, v2]) rfl ⟨⟨⟨za, zn, zc, Z, ka, kn, kc, bk, bh, bt⟩, AV.err re, rfl, o9, a9, ?_, ?_, fun R hR ho => ⟨offd R (by omega) ho, offa R (by omega)⟩⟩, b9⟩
      · rw [HR.out]
        simp [HE.out, DV.p]
      · rw [HR.out]
        simp [HE.out, AV.err_p]
  · go_wp2_with fail
    refine (GM.out _ ok1.k).mono ?_
    rintro e w2 ⟨rfl, hb2⟩
    replace ok1 := ok1.below hb2 (Nat.le_refl _)
    replace hx1 := hx1.below hb2 (Nat.le_refl _)
    replace x2 := x2.below hb2
    replace x3 := x3.below hb2
    replace xP := xP.below hb2
    replace xC := xC.below hb2
    replace bw := belowT bw hb2
    replace hl3 := x3.lt
    clear hb2 GM b0 b1 b2 b3 q0 q1 q2 q3 q4
    have b0 := xP.cell 0 _ rfl
    have b1 := xP.cell 1 _ rfl
    have b2 := xP.cell 2 _ rfl
    have b3 := xP.cell 3 _ rfl
    have q0 := xC.cell 0 _ rfl
    have q1 := xC.cell 1 _ rfl
    have q2 := xC.cell 2 _ rfl
    have q3 := xC.cell 3 _ rfl
    have q4 := xC.cell 4 _ rfl
    cases hm : mightB ⟨bk, bh, bt⟩ j (xk != 7)
    · have HR := hide (show doneD ⟨Z.map ZV.p, ⟨bk, bh, bt⟩⟩ j ⟨xk, xz, xn, xt, xd⟩ = (⟨Z.map ZV.p, ⟨bk, bh, bt⟩⟩, errA 8) by simp only [doneD]; rw [if_neg (by omega), if_pos hm])
      clear hm
      have okd := ok1
      have offd : ∀ R, R ≤ w.heap.size + 1 + 1 + 1 → DV.off R ⟨za, zn, zc, Z, ka, kn, kc, bk, bh, bt⟩ → DV.off R ⟨za, zn, zc, Z, ka, kn, kc, bk, bh, bt⟩ := fun R _ ho => ho
      have oka : AV.ok w2 (AV.err 8) := AV.err_ok _ _
      have offa : ∀ R, R ≤ w.heap.size + 1 + 1 + 1 → AV.off R (AV.err 8) := fun R _ => .inl rfl
      have e0 := x2.cell 0 _ rfl
      have e1 := x2.cell 1 _ rfl
      have e2 := x2.cell 2 _ rfl
      have e3 := x2.cell 3 _ rfl
      have f0 := x2.ice 0
      have f1 := x2.ice 1
      have f2 := x2.ice 2
      have f3 := x2.ice 3
      have g0 := x3.cell 0 _ rfl
      have g1 := x3.cell 1 _ rfl
      have g2 := x3.cell 2 _ rfl
      have h0 := x3.ice 0
      have h1 := x3.ice 1
      have h2 := x3.ice 2
      go_wp2
      have zD := (((x2.set 0 (.slice za zn zc)).set 1 (.slice ka kn kc)).set 2 (.int .i64 bh)).set 3 (.int .i64 bt)
      have y3 := (((x3.far ⟨w.heap.size + 1 + 1, 0, none⟩ (.slice za zn zc) (by simp)).far ⟨w.heap.size + 1 + 1, 1, none⟩ (.slice ka kn kc) (by simp)).far ⟨w.heap.size + 1 + 1, 2, none⟩ (.int .i64 bh) (by simp)).far ⟨w.heap.size + 1 + 1, 3, none⟩ (.int .i64 bt) (by simp)
      have hb2 := ((((But.refl (w.heap.size + 1 + 1) w2).step 0 (.slice za zn zc)).step 1 (.slice ka kn kc)).step 2 (.int .i64 bh)).step 3 (.int .i64 bt)
      generalize (((w2.setCell ⟨w.heap.size + 1 + 1, 0, none⟩ (.slice za zn zc)).setCell ⟨w.heap.size + 1 + 1, 1, none⟩ (.slice ka kn kc)).setCell ⟨w.heap.size + 1 + 1, 2, none⟩ (.int .i64 bh)).setCell ⟨w.heap.size + 1 + 1, 3, none⟩ (.int .i64 bt) = w98 at *
      have zA := ((y3.set 0 (.int .i64 (8))).set 1 (.int .i64 (0))).set 2 (.slice none 0 0)
      have zE := ((zD.far ⟨w.heap.size + 1 + 1 + 1, 0, none⟩ (.int .i64 (8)) (by simp)).far ⟨w.heap.size + 1 + 1 + 1, 1, none⟩ (.int .i64 (0)) (by simp)).far ⟨w.heap.size + 1 + 1 + 1, 2, none⟩ (.slice none 0 0) (by simp)
      have hb3 := (((But.refl (w.heap.size + 1 + 1 + 1) w98).step 0 (.int .i64 (8))).step 1 (.int .i64 (0))).step 2 (.slice none 0 0)
      have o9 := (okd.but hb2 (offd _ (by omega) (hoR _ (by omega)))).but hb3 (offd _ (by omega) (hoR _ (by omega)))
      have a9 := AV.ok.but (AV.ok.but oka hb2 (offa _ (by omega))) hb3 (offa _ (by omega))
      have b9 := (bw.trans (hb2.low.mono (show w.heap.size ≤ w.heap.size + 1 + 1 by omega))).trans (hb3.low.mono (show w.heap.size ≤ w.heap.size + 1 + 1 + 1 by omega))
      generalize ((w98.setCell ⟨w.heap.size + 1 + 1 + 1, 0, none⟩ (.int .i64 (8))).setCell ⟨w.heap.size + 1 + 1 + 1, 1, none⟩ (.int .i64 (0))).setCell ⟨w.heap.size + 1 + 1 + 1, 2, none⟩ (.slice none 0 0) = w99 at *
      have z0 := zE.cell 0 _ rfl
      have z1 := zE.cell 1 _ rfl
      have z2 := zE.cell 2 _ rfl
      have z3 := zE.cell 3 _ rfl
      have v0 := zA.cell 0 _ rfl
      have v1 := zA.cell 1 _ rfl
      have v2 := zA.cell 2 _ rfl
      refine bodyPost_ret (v := .tuple #[.agg #[.slice za zn zc, .slice ka kn kc, .int .i64 bh, .int .i64 bt], .agg #[.int .i64 (8), .int .i64 (0), .slice none 0 0]]) (by simp [results, Tryz.results16, go_sem, z0, z1, z2, z3, v0, v1, v2]) rfl ⟨⟨⟨za, zn, zc, Z, ka, kn, kc, bk, bh, bt⟩, AV.err 8, rfl, o9, a9, ?_, ?_, fun R hR ho => ⟨offd R (by omega) ho, offa R (by omega)⟩⟩, b9⟩
      · first | (rw [HR.out]; done) | (rw [HR.out]; rfl)
      · first | (rw [HR.out]; done) | (rw [HR.out]; rfl)
    · by_cases h7 : xk = 7
      · subst h7
        have HR := hide (show doneD ⟨Z.map ZV.p, ⟨bk, bh, bt⟩⟩ j ⟨7, xz, xn, xt, xd⟩ = (⟨Z.map ZV.p, ⟨bk, bh, bt⟩⟩, readD (Z.map ZV.p) ⟨7, xz, xn, xt, xd⟩) by simp only [doneD]; rw [if_neg (by omega), if_neg (by rw [hm]; simp)]; simp)
        clear hm GZ
        have offd : ∀ R, R ≤ w.heap.size + 1 + 1 + 1 → DV.off R ⟨za, zn, zc, Z, ka, kn, kc, bk, bh, bt⟩ → DV.off R ⟨za, zn, zc, Z, ka, kn, kc, bk, bh, bt⟩ := fun R _ ho => ho
        by_cases hz3 : 3 < xz
        · have okd := ok1
          have oka : AV.ok w2 (AV.err 5) := AV.err_ok _ _
          have offa : ∀ R, R ≤ w.heap.size + 1 + 1 + 1 → AV.off R (AV.err 5) := fun R _ => .inl rfl
          have hin : Hid (inB xz 0 3 = false) := hide (by simp [inB]; omega)
          have e0 := x2.cell 0 _ rfl
          have e1 := x2.cell 1 _ rfl
          have e2 := x2.cell 2 _ rfl
          have e3 := x2.cell 3 _ rfl
          have f0 := x2.ice 0
          have f1 := x2.ice 1
          have f2 := x2.ice 2
          have f3 := x2.ice 3
          have g0 := x3.cell 0 _ rfl
          have g1 := x3.cell 1 _ rfl
          have g2 := x3.cell 2 _ rfl
          have h0 := x3.ice 0
          have h1 := x3.ice 1
          have h2 := x3.ice 2
          go_wp2
          have zD := (((x2.set 0 (.slice za zn zc)).set 1 (.slice ka kn kc)).set 2 (.int .i64 bh)).set 3 (.int .i64 bt)
          have y3 := (((x3.far ⟨w.heap.size + 1 + 1, 0, none⟩ (.slice za zn zc) (by simp)).far ⟨w.heap.size + 1 + 1, 1, none⟩ (.slice ka kn kc) (by simp)).far ⟨w.heap.size + 1 + 1, 2, none⟩ (.int .i64 bh) (by simp)).far ⟨w.heap.size + 1 + 1, 3, none⟩ (.int .i64 bt) (by simp)
          have hb2 := ((((But.refl (w.heap.size + 1 + 1) w2).step 0 (.slice za zn zc)).step 1 (.slice ka kn kc)).step 2 (.int .i64 bh)).step 3 (.int .i64 bt)
          generalize (((w2.setCell ⟨w.heap.size + 1 + 1, 0, none⟩ (.slice za zn zc)).setCell ⟨w.heap.size + 1 + 1, 1, none⟩ (.slice ka kn kc)).setCell ⟨w.heap.size + 1 + 1, 2, none⟩ (.int .i64 bh)).setCell ⟨w.heap.size + 1 + 1, 3, none⟩ (.int .i64 bt) = w98 at *
          have zA := ((y3.set 0 (.int .i64 (5))).set 1 (.int .i64 (0))).set 2 (.slice none 0 0)
          have zE := ((zD.far ⟨w.heap.size + 1 + 1 + 1, 0, none⟩ (.int .i64 (5)) (by simp)).far ⟨w.heap.size + 1 + 1 + 1, 1, none⟩ (.int .i64 (0)) (by simp)).far ⟨w.heap.size + 1 + 1 + 1, 2, none⟩ (.slice none 0 0) (by simp)
          have hb3 := (((But.refl (w.heap.size + 1 + 1 + 1) w98).step 0 (.int .i64 (5))).step 1 (.int .i64 (0))).step 2 (.slice none 0 0)
          have o9 := (okd.but hb2 (offd _ (by omega) (hoR _ (by omega)))).but hb3 (offd _ (by omega) (hoR _ (by omega)))
          have a9 := AV.ok.but (AV.ok.but oka hb2 (offa _ (by omega))) hb3 (offa _ (by omega))
          have b9 := (bw.trans (hb2.low.mono (show w.heap.size ≤ w.heap.size + 1 + 1 by omega))).trans (hb3.low.mono (show w.heap.size ≤ w.heap.size + 1 + 1 + 1 by omega))
          generalize ((w98.setCell ⟨w.heap.size + 1 + 1 + 1, 0, none⟩ (.int .i64 (5))).setCell ⟨w.heap.size + 1 + 1 + 1, 1, none⟩ (.int .i64 (0))).setCell ⟨w.heap.size + 1 + 1 + 1, 2, none⟩ (.slice none 0 0) = w99 at *
          have z0 := zE.cell 0 _ rfl
          have z1 := zE.cell 1 _ rfl
          have z2 := zE.cell 2 _ rfl
          have z3 := zE.cell 3 _ rfl
          have v0 := zA.cell 0 _ rfl
          have v1 := zA.cell 1 _ rfl
          have v2 := zA.cell 2 _ rfl
          refine bodyPost_ret (v := .tuple #[.agg #[.slice za zn zc, .slice ka kn kc, .int .i64 bh, .int .i64 bt], .agg #[.int .i64 (5), .int .i64 (0), .slice none 0 0]]) (by simp [results, Tryz.results16, go_sem, z0, z1, z2, z3, v0, v1, v2]) rfl ⟨⟨⟨za, zn, zc, Z, ka, kn, kc, bk, bh, bt⟩, AV.err 5, rfl, o9, a9, ?_, ?_, fun R hR ho => ⟨offd R (by omega) ho, offa R (by omega)⟩⟩, b9⟩
          · first | (rw [HR.out]; done) | (rw [HR.out]; rfl)
          · rw [HR.out]
            simp only [readD]
            rw [if_pos hin.out]
            rfl
        · obtain ⟨m, rfl⟩ := Int.eq_ofNat_of_zero_le hxz.1
          obtain ⟨h4, zb, off, rfl, hr⟩ := zs_four ok1.z hcz
          dsimp only at h4
          subst h4
          have hm4 : (m : Int) < 4 := by omega
          obtain ⟨z, hzz⟩ : ∃ z, Z[m]? = some z := ⟨Z[m]'(by rw [ok1.z.len]; dsimp only; omega), by simp⟩
          obtain ⟨y0, y1⟩ := hr m z hzz
          have iz := ok1.z.ok z (List.mem_of_getElem? hzz)
          have HA := hide (show readD (Z.map ZV.p) ⟨7, m, xn, xt, xd⟩ = ⟨readE z.s z.l xt xn, 0, rL z.s z.l xt xn⟩ by
            have e : at' (Z.map ZV.p) (m : Int) = z.p := by simp [at', List.getD, hzz]
            have hin : inB (m : Int) 0 3 = true := by simp [inB]; omega
            simp only [readD, hin, e, ZV.p]
            simp)
          clear hr hzz
          have HNN := hide hz3
          go_upto_region 11 with fail
          go_region_held3 (fun w' => w'.cell? ⟨w.heap.size, 0, none⟩ = some (.slice (some ⟨zb, off, none⟩) 4 zc) ∧ w'.cell? ⟨w.heap.size + 1, 1, none⟩ = some (.int .i64 m) ∧ w'.cell? ⟨w.heap.size + 1, 2, none⟩ = some (.int .i64 xn) ∧ w'.cell? ⟨w.heap.size + 1, 3, none⟩ = some (.int .i64 xt) ∧ w'.cell? ⟨zb, off + m * 2, none⟩ = some (.int .i64 z.s) ∧ w'.cell? ⟨zb, off + m * 2 + 1, none⟩ = some (.slice z.a z.n z.c)) ((first | (go_simp; done) | (simp [*, World.cell?_alloc_at, World.cell?_alloc_past, World.cell?_alloc_some, World.cell?_setCell_far]; done))) (first | (go_at_call 39; refine (ReadZone_f z.s z.a z.n z.c z.l xt xn _ (by refine Ints.below iz (B := w2.heap.size) ?_ (Nat.le_refl _); (repeat first | exact bel0 | assumption | refine bel1 ?_ | refine bel2 ?_ | refine bel3 ?_ | refine belowT ?_ (by assumption) | refine bel5 ?_ (by simp; try omega)))).mono ?_; rintro e w3 ⟨⟨a1, n1, c1, rfl, i1, fr⟩, hb3⟩; (have g0 := keepc hb3 (p := ⟨w.heap.size, 0, none⟩) (u := .slice (some ⟨zb, off, none⟩) 4 zc) (by (first | (go_simp; done) | (simp [*, World.cell?_alloc_at, World.cell?_alloc_past, World.cell?_alloc_some, World.cell?_setCell_far]; done)))); (have g1 := keepc hb3 (p := ⟨w.heap.size + 1, 1, none⟩) (u := .int .i64 m) (by (first | (go_simp; done) | (simp [*, World.cell?_alloc_at, World.cell?_alloc_past, World.cell?_alloc_some, World.cell?_setCell_far]; done)))); (have g2 := keepc hb3 (p := ⟨w.heap.size + 1, 2, none⟩) (u := .int .i64 xn) (by (first | (go_simp; done) | (simp [*, World.cell?_alloc_at, World.cell?_alloc_past, World.cell?_alloc_some, World.cell?_setCell_far]; done)))); (have g3 := keepc hb3 (p := ⟨w.heap.size + 1, 3, none⟩) (u := .int .i64 xt) (by (first | (go_simp; done) | (simp [*, World.cell?_alloc_at, World.cell?_alloc_past, World.cell?_alloc_some, World.cell?_setCell_far]; done)))); (have g4 := keepc hb3 (p := ⟨zb, off + m * 2, none⟩) (u := .int .i64 z.s) (by (first | (go_simp; done) | (simp [*, World.cell?_alloc_at, World.cell?_alloc_past, World.cell?_alloc_some, World.cell?_setCell_far]; done)))); (have g5 := keepc hb3 (p := ⟨zb, off + m * 2 + 1, none⟩) (u := .slice z.a z.n z.c) (by (first | (go_simp; done) | (simp [*, World.cell?_alloc_at, World.cell?_alloc_past, World.cell?_alloc_some, World.cell?_setCell_far]; done))))))
          have b23 : Below w2.heap.size w2 w3 := by (repeat first | exact bel0 | assumption | refine bel1 ?_ | refine bel2 ?_ | refine bel3 ?_ | refine belowT ?_ (by assumption) | refine bel5 ?_ (by simp; try omega))
          have okd := ok1.below b23 (Nat.le_refl _)
          replace x2 := x2.below b23
          replace x3 := x3.below b23
          replace xP := xP.below b23
          replace bw := belowT bw b23
          have FR := hide (show ∀ y, a1 = some y → w.heap.size + 1 + 1 + 1 < y.block from fun y e => Nat.lt_of_lt_of_le hl3 (fr y e))
          clear fr hb3 b23 y0 y1 b0 b1 b2 b3 q0 q1 q2 q3 q4 g0 g1 g2 g3 g4 g5 ok1
          generalize hre : readE z.s z.l xt xn = re at *
          generalize hrl : rL z.s z.l xt xn = rl at *
          clear hre hrl
          have oka : AV.ok w3 ⟨re, 0, a1, n1, c1, rl⟩ := i1
          have offa : ∀ R, R ≤ w.heap.size + 1 + 1 + 1 → AV.off R ⟨re, 0, a1, n1, c1, rl⟩ := fun R h2 => .inr fun x e => by have := FR.out x e; omega
          have b0 := xP.cell 0 _ rfl
          have b1 := xP.cell 1 _ rfl
          have b2 := xP.cell 2 _ rfl
          have b3 := xP.cell 3 _ rfl
          have e0 := x2.cell 0 _ rfl
          have e1 := x2.cell 1 _ rfl
          have e2 := x2.cell 2 _ rfl
          have e3 := x2.cell 3 _ rfl
          have f0 := x2.ice 0
          have f1 := x2.ice 1
          have f2 := x2.ice 2
          have f3 := x2.ice 3
          have g0 := x3.cell 0 _ rfl
          have g1 := x3.cell 1 _ rfl
          have g2 := x3.cell 2 _ rfl
          have h0 := x3.ice 0
          have h1 := x3.ice 1
          have h2 := x3.ice 2
          go_wp2
          have zD := (((x2.set 0 (.slice (some ⟨zb, off, none⟩) 4 zc)).set 1 (.slice ka kn kc)).set 2 (.int .i64 bh)).set 3 (.int .i64 bt)
          have y3 := (((x3.far ⟨w.heap.size + 1 + 1, 0, none⟩ (.slice (some ⟨zb, off, none⟩) 4 zc) (by simp)).far ⟨w.heap.size + 1 + 1, 1, none⟩ (.slice ka kn kc) (by simp)).far ⟨w.heap.size + 1 + 1, 2, none⟩ (.int .i64 bh) (by simp)).far ⟨w.heap.size + 1 + 1, 3, none⟩ (.int .i64 bt) (by simp)
          have hb2 := ((((But.refl (w.heap.size + 1 + 1) w3).step 0 (.slice (some ⟨zb, off, none⟩) 4 zc)).step 1 (.slice ka kn kc)).step 2 (.int .i64 bh)).step 3 (.int .i64 bt)
          generalize (((w3.setCell ⟨w.heap.size + 1 + 1, 0, none⟩ (.slice (some ⟨zb, off, none⟩) 4 zc)).setCell ⟨w.heap.size + 1 + 1, 1, none⟩ (.slice ka kn kc)).setCell ⟨w.heap.size + 1 + 1, 2, none⟩ (.int .i64 bh)).setCell ⟨w.heap.size + 1 + 1, 3, none⟩ (.int .i64 bt) = w98 at *
          have zA := ((y3.set 0 (.int .i64 (re))).set 1 (.int .i64 (0))).set 2 (.slice a1 n1 c1)
          have zE := ((zD.far ⟨w.heap.size + 1 + 1 + 1, 0, none⟩ (.int .i64 (re)) (by simp)).far ⟨w.heap.size + 1 + 1 + 1, 1, none⟩ (.int .i64 (0)) (by simp)).far ⟨w.heap.size + 1 + 1 + 1, 2, none⟩ (.slice a1 n1 c1) (by simp)
          have hb3 := (((But.refl (w.heap.size + 1 + 1 + 1) w98).step 0 (.int .i64 (re))).step 1 (.int .i64 (0))).step 2 (.slice a1 n1 c1)
          have o9 := (okd.but hb2 (offd _ (by omega) (hoR _ (by omega)))).but hb3 (offd _ (by omega) (hoR _ (by omega)))
          have a9 := AV.ok.but (AV.ok.but oka hb2 (offa _ (by omega))) hb3 (offa _ (by omega))
          have b9 := (bw.trans (hb2.low.mono (show w.heap.size ≤ w.heap.size + 1 + 1 by omega))).trans (hb3.low.mono (show w.heap.size ≤ w.heap.size + 1 + 1 + 1 by omega))
          generalize ((w98.setCell ⟨w.heap.size + 1 + 1 + 1, 0, none⟩ (.int .i64 (re))).setCell ⟨w.heap.size + 1 + 1 + 1, 1, none⟩ (.int .i64 (0))).setCell ⟨w.heap.size + 1 + 1 + 1, 2, none⟩ (.slice a1 n1 c1) = w99 at *
          have z0 := zE.cell 0 _ rfl
          have z1 := zE.cell 1 _ rfl
          have z2 := zE.cell 2 _ rfl
          have z3 := zE.cell 3 _ rfl
          have v0 := zA.cell 0 _ rfl
          have v1 := zA.cell 1 _ rfl
          have v2 := zA.cell 2 _ rfl
          refine bodyPost_ret (v := .tuple #[.agg #[.slice (some ⟨zb, off, none⟩) 4 zc, .slice ka kn kc, .int .i64 bh, .int .i64 bt], .agg #[.int .i64 (re), .int .i64 (0), .slice a1 n1 c1]]) (by simp [results, Tryz.results16, go_sem, z0, z1, z2, z3, v0, v1, v2]) rfl ⟨⟨⟨some ⟨zb, off, none⟩, 4, zc, Z, ka, kn, kc, bk, bh, bt⟩, ⟨re, 0, a1, n1, c1, rl⟩, rfl, o9, a9, ?_, ?_, fun R hR ho => ⟨offd R (by omega) ho, offa R (by omega)⟩⟩, b9⟩
          · first | (rw [HR.out]; done) | (rw [HR.out]; rfl)
          · first | (rw [HR.out, HA.out]; done) | (rw [HR.out, HA.out]; rfl)
      · have t7 : (xk == 7) = false := by simpa using h7
        have u7 : (xk != 7) = true := by simpa using h7
        have hm' : mightB ⟨bk, bh, bt⟩ j true = true := by rw [u7] at hm; exact hm
        have HMM := hide hm'
        have HD := hide (fun kd hh => done_zones (d := ⟨Z.map ZV.p, ⟨bk, bh, bt⟩⟩) (j := j) (x := ⟨xk, xz, xn, xt, xd⟩) (kd := kd) (show xk < 8 by omega) h7 hk1 hm' hh)
        clear hm hm'
        by_cases h6 : xk = 6
        · subst h6
          generalize hlb : lateB (Z.map ZV.p) ⟨6, xz, xn, xt, xd⟩ = lb
          go_upto_region 15 with fail
          go_cut [92] (fun v wx => v = .bool lb ∧ Below w2.heap.size w2 wx)
          case first =>
            by_cases hz4 : xz < 4
            · obtain ⟨m, rfl⟩ := Int.eq_ofNat_of_zero_le hxz.1
              obtain ⟨h4, zb, off, rfl, hr⟩ := zs_four ok1.z hcz
              dsimp only at h4
              subst h4
              obtain ⟨z, hzz⟩ : ∃ z, Z[m]? = some z := ⟨Z[m]'(by rw [ok1.z.len]; dsimp only; omega), by simp⟩
              obtain ⟨y0, y1⟩ := hr m z hzz
              have iz := ok1.z.ok z (List.mem_of_getElem? hzz)
              have zl := hide iz.len
              have zm := iz.max
              have ze := iz.le
              have e9 : at' (Z.map ZV.p) (m : Int) = z.p := by simp [at', List.getD, hzz]
              have hin : inB (m : Int) 0 3 = true := by simp [inB]; omega
              have HLB := hide hlb
              have HE9 := hide e9
              have HIN := hide hin
              clear hlb e9 hin hr hzz
              cases hne : xt != (z.n : Int)
              all_goals
                go_quiet (fail)
                go_wp2_with fail
                go_meet
                case rel => exact ⟨by rw [← HLB.out]; simp only [lateB, HIN.out, HE9.out, ZV.p, zl.out, hne]; rfl, by (repeat first | exact bel0 | assumption | refine bel1 ?_ | refine bel2 ?_ | refine bel3 ?_ | refine belowT ?_ (by assumption) | refine bel5 ?_ (by simp; try omega))⟩
            · have hin : inB xz 0 3 = false := by simp [inB]; omega
              have HLB := hide hlb
              have HIN := hide hin
              clear hlb hin
              go_quiet (fail)
              go_wp2_with fail
              go_meet
              case rel => exact ⟨by rw [← HLB.out]; simp only [lateB, HIN.out]; rfl, by (repeat first | exact bel0 | assumption | refine bel1 ?_ | refine bel2 ?_ | refine bel3 ?_ | refine belowT ?_ (by assumption) | refine bel5 ?_ (by simp; try omega))⟩
          case rest =>
            obtain ⟨rfl, hbc⟩ := hcut
            replace ok1 := ok1.below hbc (Nat.le_refl _)
            replace hx1 := hx1.below hbc (Nat.le_refl _)
            replace x2 := x2.below hbc
            replace x3 := x3.below hbc
            replace xP := xP.below hbc
            replace xC := xC.below hbc
            replace bw := belowT bw hbc
            replace hl3 := x3.lt
            clear hbc b0 b1 b2 b3 q0 q1 q2 q3 q4
            have b0 := xP.cell 0 _ rfl
            have b1 := xP.cell 1 _ rfl
            have b2 := xP.cell 2 _ rfl
            have b3 := xP.cell 3 _ rfl
            have q0 := xC.cell 0 _ rfl
            have q1 := xC.cell 1 _ rfl
            have q2 := xC.cell 2 _ rfl
            have q3 := xC.cell 3 _ rfl
            have q4 := xC.cell 4 _ rfl
            cases lb
            · have HR := hide (HD.out 5 (.inl ⟨rfl, by simp, hlb⟩))
              clear HD hlb
              go_wp2_with fail
              refine (GZ.out (5) _ ok1.z hx1 (by omega)).mono ?_
              rintro e w3 ⟨⟨a1, n1, c1, Z1, rfl, i1, av, p1⟩, hb3⟩
              have hsz := bw.size
              have ok3 := ok1.below hb3 (Nat.le_refl _)
              replace x2 := x2.below hb3
              replace x3 := x3.below hb3
              replace xP := xP.below hb3
              replace bw := belowT bw hb3
              have HP1 := hide p1
              have hAv : ∀ R, R ≤ w.heap.size + 1 + 1 + 1 → DV.off R ⟨za, zn, zc, Z, ka, kn, kc, bk, bh, bt⟩ → DV.off R ⟨a1, n1, c1, Z1, ka, kn, kc, bk, bh, bt⟩ := fun R h2 ho => by
                obtain ⟨u1, u2⟩ := av R (by omega) ho.l
                exact ⟨.inr u1, u2, ho.k⟩
              clear p1 av hb3 q0 q1 q2 q3 q4 b0 b1 b2 b3
              generalize hzr : zonesDo (Z.map ZV.p) (5) (xz) xd = r at *
              obtain ⟨rP, rt, re⟩ := r
              clear hzr
              dsimp only at *
              have b0 := xP.cell 0 _ rfl
              have b1 := xP.cell 1 _ rfl
              have b2 := xP.cell 2 _ rfl
              have b3 := xP.cell 3 _ rfl
              have k0 := xP.ice 0
              by_cases he : re = 0
              · subst he
                have hDB : DBox w3 w.heap.size ⟨za, zn, zc, Z, ka, kn, kc, bk, bh, bt⟩ := ⟨xP, ok3, hoR _ (Nat.le_refl _)⟩
                go_upto_region 21 with fail
                have okd : DV.ok (w3.setCell ⟨w.heap.size, 0, none⟩ (.slice a1 n1 c1)) ⟨a1, n1, c1, Z1, ka, kn, kc, bk, bh, bt⟩ := DV.ok.but ⟨i1, ok3.k⟩ ((But.refl w.heap.size w3).step 0 _) (hAv _ (by omega) (hoR _ (Nat.le_refl _)))
                replace xP := xP.set 0 (.slice a1 n1 c1)
                replace x2 := x2.far ⟨w.heap.size, 0, none⟩ (.slice a1 n1 c1) (by simp; omega)
                replace x3 := x3.far ⟨w.heap.size, 0, none⟩ (.slice a1 n1 c1) (by simp; omega)
                replace bw := bw.setCell (p := ⟨w.heap.size, 0, none⟩) (Nat.le_refl _) (.slice a1 n1 c1)
                clear hDB b0 b1 b2 b3 k0
                generalize w3.setCell ⟨w.heap.size, 0, none⟩ (.slice a1 n1 c1) = w4 at *
                have offd : ∀ R, R ≤ w.heap.size + 1 + 1 + 1 → DV.off R ⟨za, zn, zc, Z, ka, kn, kc, bk, bh, bt⟩ → DV.off R ⟨a1, n1, c1, Z1, ka, kn, kc, bk, bh, bt⟩ := fun R h2 ho => hAv R h2 ho
                have oka : AV.ok w4 ⟨0, rt, none, 0, 0, []⟩ := Ints.nilSlice _
                have offa : ∀ R, R ≤ w.heap.size + 1 + 1 + 1 → AV.off R ⟨0, rt, none, 0, 0, []⟩ := fun R _ => .inl rfl
                have c0 := xP.cell 0 _ rfl
                have c2 := xP.cell 1 _ rfl
                have c3 := xP.cell 2 _ rfl
                have c4 := xP.cell 3 _ rfl
                have e0 := x2.cell 0 _ rfl
                have e1 := x2.cell 1 _ rfl
                have e2 := x2.cell 2 _ rfl
                have e3 := x2.cell 3 _ rfl
                have f0 := x2.ice 0
                have f1 := x2.ice 1
                have f2 := x2.ice 2
                have f3 := x2.ice 3
                have g0 := x3.cell 0 _ rfl
                have g1 := x3.cell 1 _ rfl
                have g2 := x3.cell 2 _ rfl
                have h0 := x3.ice 0
                have h1 := x3.ice 1
                have h2 := x3.ice 2
                go_wp2
                have zD := (((x2.set 0 (.slice a1 n1 c1)).set 1 (.slice ka kn kc)).set 2 (.int .i64 bh)).set 3 (.int .i64 bt)
                have y3 := (((x3.far ⟨w.heap.size + 1 + 1, 0, none⟩ (.slice a1 n1 c1) (by simp)).far ⟨w.heap.size + 1 + 1, 1, none⟩ (.slice ka kn kc) (by simp)).far ⟨w.heap.size + 1 + 1, 2, none⟩ (.int .i64 bh) (by simp)).far ⟨w.heap.size + 1 + 1, 3, none⟩ (.int .i64 bt) (by simp)
                have hb2 := ((((But.refl (w.heap.size + 1 + 1) w4).step 0 (.slice a1 n1 c1)).step 1 (.slice ka kn kc)).step 2 (.int .i64 bh)).step 3 (.int .i64 bt)
                generalize (((w4.setCell ⟨w.heap.size + 1 + 1, 0, none⟩ (.slice a1 n1 c1)).setCell ⟨w.heap.size + 1 + 1, 1, none⟩ (.slice ka kn kc)).setCell ⟨w.heap.size + 1 + 1, 2, none⟩ (.int .i64 bh)).setCell ⟨w.heap.size + 1 + 1, 3, none⟩ (.int .i64 bt) = w98 at *
                have zA := ((y3.set 0 (.int .i64 (0))).set 1 (.int .i64 (rt))).set 2 (.slice none 0 0)
                have zE := ((zD.far ⟨w.heap.size + 1 + 1 + 1, 0, none⟩ (.int .i64 (0)) (by simp)).far ⟨w.heap.size + 1 + 1 + 1, 1, none⟩ (.int .i64 (rt)) (by simp)).far ⟨w.heap.size + 1 + 1 + 1, 2, none⟩ (.slice none 0 0) (by simp)
                have hb3 := (((But.refl (w.heap.size + 1 + 1 + 1) w98).step 0 (.int .i64 (0))).step 1 (.int .i64 (rt))).step 2 (.slice none 0 0)
                have o9 := (okd.but hb2 (offd _ (by omega) (hoR _ (by omega)))).but hb3 (offd _ (by omega) (hoR _ (by omega)))
                have a9 := AV.ok.but (AV.ok.but oka hb2 (offa _ (by omega))) hb3 (offa _ (by omega))
                have b9 := (bw.trans (hb2.low.mono (show w.heap.size ≤ w.heap.size + 1 + 1 by omega))).trans (hb3.low.mono (show w.heap.size ≤ w.heap.size + 1 + 1 + 1 by omega))
                generalize ((w98.setCell ⟨w.heap.size + 1 + 1 + 1, 0, none⟩ (.int .i64 (0))).setCell ⟨w.heap.size + 1 + 1 + 1, 1, none⟩ (.int .i64 (rt))).setCell ⟨w.heap.size + 1 + 1 + 1, 2, none⟩ (.slice none 0 0) = w99 at *
                have z0 := zE.cell 0 _ rfl
                have z1 := zE.cell 1 _ rfl
                have z2 := zE.cell 2 _ rfl
                have z3 := zE.cell 3 _ rfl
                have v0 := zA.cell 0 _ rfl
                have v1 := zA.cell 1 _ rfl
                have v2 := zA.cell 2 _ rfl
                refine bodyPost_ret (v := .tuple #[.agg #[.slice a1 n1 c1, .slice ka kn kc, .int .i64 bh, .int .i64 bt], .agg #[.int .i64 (0), .int .i64 (rt), .slice none 0 0]]) (by simp [results, Tryz.results16, go_sem, z0, z1, z2, z3, v0, v1, v2]) rfl ⟨⟨⟨a1, n1, c1, Z1, ka, kn, kc, bk, bh, bt⟩, ⟨0, rt, none, 0, 0, []⟩, rfl, o9, a9, ?_, ?_, fun R hR ho => ⟨offd R (by omega) ho, offa R (by omega)⟩⟩, b9⟩
                · rw [HR.out]
                  simp [DV.p, HP1.out]
                · rw [HR.out]
                  simp [AV.p]
              · have he' : (re == 0) = false := by simpa using he
                have HE := hide he
                clear he
                have okd := ok3
                have offd : ∀ R, R ≤ w.heap.size + 1 + 1 + 1 → DV.off R ⟨za, zn, zc, Z, ka, kn, kc, bk, bh, bt⟩ → DV.off R ⟨za, zn, zc, Z, ka, kn, kc, bk, bh, bt⟩ := fun R _ ho => ho
                have oka : AV.ok w3 ⟨re, rt, none, 0, 0, []⟩ := Ints.nilSlice _
                have offa : ∀ R, R ≤ w.heap.size + 1 + 1 + 1 → AV.off R ⟨re, rt, none, 0, 0, []⟩ := fun R _ => .inl rfl
                have e0 := x2.cell 0 _ rfl
                have e1 := x2.cell 1 _ rfl
                have e2 := x2.cell 2 _ rfl
                have e3 := x2.cell 3 _ rfl
                have f0 := x2.ice 0
                have f1 := x2.ice 1
                have f2 := x2.ice 2
                have f3 := x2.ice 3
                have g0 := x3.cell 0 _ rfl
                have g1 := x3.cell 1 _ rfl
                have g2 := x3.cell 2 _ rfl
                have h0 := x3.ice 0
                have h1 := x3.ice 1
                have h2 := x3.ice 2
                go_wp2
                have zD := (((x2.set 0 (.slice za zn zc)).set 1 (.slice ka kn kc)).set 2 (.int .i64 bh)).set 3 (.int .i64 bt)
                have y3 := (((x3.far ⟨w.heap.size + 1 + 1, 0, none⟩ (.slice za zn zc) (by simp)).far ⟨w.heap.size + 1 + 1, 1, none⟩ (.slice ka kn kc) (by simp)).far ⟨w.heap.size + 1 + 1, 2, none⟩ (.int .i64 bh) (by simp)).far ⟨w.heap.size + 1 + 1, 3, none⟩ (.int .i64 bt) (by simp)
                have hb2 := ((((But.refl (w.heap.size + 1 + 1) w3).step 0 (.slice za zn zc)).step 1 (.slice ka kn kc)).step 2 (.int .i64 bh)).step 3 (.int .i64 bt)
                generalize (((w3.setCell ⟨w.heap.size + 1 + 1, 0, none⟩ (.slice za zn zc)).setCell ⟨w.heap.size + 1 + 1, 1, none⟩ (.slice ka kn kc)).setCell ⟨w.heap.size + 1 + 1, 2, none⟩ (.int .i64 bh)).setCell ⟨w.heap.size + 1 + 1, 3, none⟩ (.int .i64 bt) = w98 at *
                have zA := ((y3.set 0 (.int .i64 (re))).set 1 (.int .i64 (rt))).set 2 (.slice none 0 0)
                have zE := ((zD.far ⟨w.heap.size + 1 + 1 + 1, 0, none⟩ (.int .i64 (re)) (by simp)).far ⟨w.heap.size + 1 + 1 + 1, 1, none⟩ (.int .i64 (rt)) (by simp)).far ⟨w.heap.size + 1 + 1 + 1, 2, none⟩ (.slice none 0 0) (by simp)
                have hb3 := (((But.refl (w.heap.size + 1 + 1 + 1) w98).step 0 (.int .i64 (re))).step 1 (.int .i64 (rt))).step 2 (.slice none 0 0)
                have o9 := (okd.but hb2 (offd _ (by omega) (hoR _ (by omega)))).but hb3 (offd _ (by omega) (hoR _ (by omega)))
                have a9 := AV.ok.but (AV.ok.but oka hb2 (offa _ (by omega))) hb3 (offa _ (by omega))
                have b9 := (bw.trans (hb2.low.mono (show w.heap.size ≤ w.heap.size + 1 + 1 by omega))).trans (hb3.low.mono (show w.heap.size ≤ w.heap.size + 1 + 1 + 1 by omega))
                generalize ((w98.setCell ⟨w.heap.size + 1 + 1 + 1, 0, none⟩ (.int .i64 (re))).setCell ⟨w.heap.size + 1 + 1 + 1, 1, none⟩ (.int .i64 (rt))).setCell ⟨w.heap.size + 1 + 1 + 1, 2, none⟩ (.slice none 0 0) = w99 at *
                have z0 := zE.cell 0 _ rfl
                have z1 := zE.cell 1 _ rfl
                have z2 := zE.cell 2 _ rfl
                have z3 := zE.cell 3 _ rfl
                have v0 := zA.cell 0 _ rfl
                have v1 := zA.cell 1 _ rfl
                have v2 := zA.cell 2 _ rfl
                refine bodyPost_ret (v := .tuple #[.agg #[.slice za zn zc, .slice ka kn kc, .int .i64 bh, .int .i64 bt], .agg #[.int .i64 (re), .int .i64 (rt), .slice none 0 0]]) (by simp [results, Tryz.results16, go_sem, z0, z1, z2, z3, v0, v1, v2]) rfl ⟨⟨⟨za, zn, zc, Z, ka, kn, kc, bk, bh, bt⟩, ⟨re, rt, none, 0, 0, []⟩, rfl, o9, a9, ?_, ?_, fun R hR ho => ⟨offd R (by omega) ho, offa R (by omega)⟩⟩, b9⟩
                · rw [HR.out]
                  simp [DV.p, HE.out]
                · rw [HR.out]
                  simp [AV.p, HE.out]
            · have HR := hide (show doneD ⟨Z.map ZV.p, ⟨bk, bh, bt⟩⟩ j ⟨6, xz, xn, xt, xd⟩ = (⟨Z.map ZV.p, ⟨bk, bh, bt⟩⟩, errA 6) by
                simp only [doneD]
                rw [if_neg (by omega), show ((6 : Int) != 7) = true from rfl, HMM.out, if_neg (by simp), if_neg (by omega), if_pos (by simp)]
                exact writeD_late (d := ⟨Z.map ZV.p, ⟨bk, bh, bt⟩⟩) hlb)
              clear HD hlb
              have okd := ok1
              have offd : ∀ R, R ≤ w.heap.size + 1 + 1 + 1 → DV.off R ⟨za, zn, zc, Z, ka, kn, kc, bk, bh, bt⟩ → DV.off R ⟨za, zn, zc, Z, ka, kn, kc, bk, bh, bt⟩ := fun R _ ho => ho
              have oka : AV.ok wc (AV.err 6) := AV.err_ok _ _
              have offa : ∀ R, R ≤ w.heap.size + 1 + 1 + 1 → AV.off R (AV.err 6) := fun R _ => .inl rfl
              have e0 := x2.cell 0 _ rfl
              have e1 := x2.cell 1 _ rfl
              have e2 := x2.cell 2 _ rfl
              have e3 := x2.cell 3 _ rfl
              have f0 := x2.ice 0
              have f1 := x2.ice 1
              have f2 := x2.ice 2
              have f3 := x2.ice 3
              have g0 := x3.cell 0 _ rfl
              have g1 := x3.cell 1 _ rfl
              have g2 := x3.cell 2 _ rfl
              have h0 := x3.ice 0
              have h1 := x3.ice 1
              have h2 := x3.ice 2
              go_wp2
              have zD := (((x2.set 0 (.slice za zn zc)).set 1 (.slice ka kn kc)).set 2 (.int .i64 bh)).set 3 (.int .i64 bt)
              have y3 := (((x3.far ⟨w.heap.size + 1 + 1, 0, none⟩ (.slice za zn zc) (by simp)).far ⟨w.heap.size + 1 + 1, 1, none⟩ (.slice ka kn kc) (by simp)).far ⟨w.heap.size + 1 + 1, 2, none⟩ (.int .i64 bh) (by simp)).far ⟨w.heap.size + 1 + 1, 3, none⟩ (.int .i64 bt) (by simp)
              have hb2 := ((((But.refl (w.heap.size + 1 + 1) wc).step 0 (.slice za zn zc)).step 1 (.slice ka kn kc)).step 2 (.int .i64 bh)).step 3 (.int .i64 bt)
              generalize (((wc.setCell ⟨w.heap.size + 1 + 1, 0, none⟩ (.slice za zn zc)).setCell ⟨w.heap.size + 1 + 1, 1, none⟩ (.slice ka kn kc)).setCell ⟨w.heap.size + 1 + 1, 2, none⟩ (.int .i64 bh)).setCell ⟨w.heap.size + 1 + 1, 3, none⟩ (.int .i64 bt) = w98 at *
              have zA := ((y3.set 0 (.int .i64 (6))).set 1 (.int .i64 (0))).set 2 (.slice none 0 0)
              have zE := ((zD.far ⟨w.heap.size + 1 + 1 + 1, 0, none⟩ (.int .i64 (6)) (by simp)).far ⟨w.heap.size + 1 + 1 + 1, 1, none⟩ (.int .i64 (0)) (by simp)).far ⟨w.heap.size + 1 + 1 + 1, 2, none⟩ (.slice none 0 0) (by simp)
              have hb3 := (((But.refl (w.heap.size + 1 + 1 + 1) w98).step 0 (.int .i64 (6))).step 1 (.int .i64 (0))).step 2 (.slice none 0 0)
              have o9 := (okd.but hb2 (offd _ (by omega) (hoR _ (by omega)))).but hb3 (offd _ (by omega) (hoR _ (by omega)))
              have a9 := AV.ok.but (AV.ok.but oka hb2 (offa _ (by omega))) hb3 (offa _ (by omega))
              have b9 := (bw.trans (hb2.low.mono (show w.heap.size ≤ w.heap.size + 1 + 1 by omega))).trans (hb3.low.mono (show w.heap.size ≤ w.heap.size + 1 + 1 + 1 by omega))
              generalize ((w98.setCell ⟨w.heap.size + 1 + 1 + 1, 0, none⟩ (.int .i64 (6))).setCell ⟨w.heap.size + 1 + 1 + 1, 1, none⟩ (.int .i64 (0))).setCell ⟨w.heap.size + 1 + 1 + 1, 2, none⟩ (.slice none 0 0) = w99 at *
              have z0 := zE.cell 0 _ rfl
              have z1 := zE.cell 1 _ rfl
              have z2 := zE.cell 2 _ rfl
              have z3 := zE.cell 3 _ rfl
              have v0 := zA.cell 0 _ rfl
              have v1 := zA.cell 1 _ rfl
              have v2 := zA.cell 2 _ rfl
              refine bodyPost_ret (v := .tuple #[.agg #[.slice za zn zc, .slice ka kn kc, .int .i64 bh, .int .i64 bt], .agg #[.int .i64 (6), .int .i64 (0), .slice none 0 0]]) (by simp [results, Tryz.results16, go_sem, z0, z1, z2, z3, v0, v1, v2]) rfl ⟨⟨⟨za, zn, zc, Z, ka, kn, kc, bk, bh, bt⟩, AV.err 6, rfl, o9, a9, ?_, ?_, fun R hR ho => ⟨offd R (by omega) ho, offa R (by omega)⟩⟩, b9⟩
              · first | (rw [HR.out]; done) | (rw [HR.out]; rfl)
              · first | (rw [HR.out]; done) | (rw [HR.out]; rfl)
        · have t6 : (xk == 6) = false := by simpa using h6
          by_cases h5 : xk = 5
          · subst h5
            have HR := hide (HD.out 5 (.inl ⟨rfl, by simp, by simp [lateB]⟩))
            clear HD
            go_wp2_with fail
            refine (GZ.out (5) _ ok1.z hx1 (by omega)).mono ?_
            rintro e w3 ⟨⟨a1, n1, c1, Z1, rfl, i1, av, p1⟩, hb3⟩
            have hsz := bw.size
            have ok3 := ok1.below hb3 (Nat.le_refl _)
            replace x2 := x2.below hb3
            replace x3 := x3.below hb3
            replace xP := xP.below hb3
            replace bw := belowT bw hb3
            have HP1 := hide p1
            have hAv : ∀ R, R ≤ w.heap.size + 1 + 1 + 1 → DV.off R ⟨za, zn, zc, Z, ka, kn, kc, bk, bh, bt⟩ → DV.off R ⟨a1, n1, c1, Z1, ka, kn, kc, bk, bh, bt⟩ := fun R h2 ho => by
              obtain ⟨u1, u2⟩ := av R (by omega) ho.l
              exact ⟨.inr u1, u2, ho.k⟩
            clear p1 av hb3 q0 q1 q2 q3 q4 b0 b1 b2 b3
            generalize hzr : zonesDo (Z.map ZV.p) (5) (xz) xd = r at *
            obtain ⟨rP, rt, re⟩ := r
            clear hzr
            dsimp only at *
            have b0 := xP.cell 0 _ rfl
            have b1 := xP.cell 1 _ rfl
            have b2 := xP.cell 2 _ rfl
            have b3 := xP.cell 3 _ rfl
            have k0 := xP.ice 0
            by_cases he : re = 0
            · subst he
              have hDB : DBox w3 w.heap.size ⟨za, zn, zc, Z, ka, kn, kc, bk, bh, bt⟩ := ⟨xP, ok3, hoR _ (Nat.le_refl _)⟩
              go_upto_region 21 with fail
              have okd : DV.ok (w3.setCell ⟨w.heap.size, 0, none⟩ (.slice a1 n1 c1)) ⟨a1, n1, c1, Z1, ka, kn, kc, bk, bh, bt⟩ := DV.ok.but ⟨i1, ok3.k⟩ ((But.refl w.heap.size w3).step 0 _) (hAv _ (by omega) (hoR _ (Nat.le_refl _)))
              replace xP := xP.set 0 (.slice a1 n1 c1)
              replace x2 := x2.far ⟨w.heap.size, 0, none⟩ (.slice a1 n1 c1) (by simp; omega)
              replace x3 := x3.far ⟨w.heap.size, 0, none⟩ (.slice a1 n1 c1) (by simp; omega)
              replace bw := bw.setCell (p := ⟨w.heap.size, 0, none⟩) (Nat.le_refl _) (.slice a1 n1 c1)
              clear hDB b0 b1 b2 b3 k0
              generalize w3.setCell ⟨w.heap.size, 0, none⟩ (.slice a1 n1 c1) = w4 at *
              have offd : ∀ R, R ≤ w.heap.size + 1 + 1 + 1 → DV.off R ⟨za, zn, zc, Z, ka, kn, kc, bk, bh, bt⟩ → DV.off R ⟨a1, n1, c1, Z1, ka, kn, kc, bk, bh, bt⟩ := fun R h2 ho => hAv R h2 ho
              have oka : AV.ok w4 ⟨0, rt, none, 0, 0, []⟩ := Ints.nilSlice _
              have offa : ∀ R, R ≤ w.heap.size + 1 + 1 + 1 → AV.off R ⟨0, rt, none, 0, 0, []⟩ := fun R _ => .inl rfl
              have c0 := xP.cell 0 _ rfl
              have c2 := xP.cell 1 _ rfl
              have c3 := xP.cell 2 _ rfl
              have c4 := xP.cell 3 _ rfl
              have e0 := x2.cell 0 _ rfl
              have e1 := x2.cell 1 _ rfl
              have e2 := x2.cell 2 _ rfl
              have e3 := x2.cell 3 _ rfl
              have f0 := x2.ice 0
              have f1 := x2.ice 1
              have f2 := x2.ice 2
              have f3 := x2.ice 3
              have g0 := x3.cell 0 _ rfl
              have g1 := x3.cell 1 _ rfl
              have g2 := x3.cell 2 _ rfl
              have h0 := x3.ice 0
              have h1 := x3.ice 1
              have h2 := x3.ice 2
              go_wp2
              have zD := (((x2.set 0 (.slice a1 n1 c1)).set 1 (.slice ka kn kc)).set 2 (.int .i64 bh)).set 3 (.int .i64 bt)
              have y3 := (((x3.far ⟨w.heap.size + 1 + 1, 0, none⟩ (.slice a1 n1 c1) (by simp)).far ⟨w.heap.size + 1 + 1, 1, none⟩ (.slice ka kn kc) (by simp)).far ⟨w.heap.size + 1 + 1, 2, none⟩ (.int .i64 bh) (by simp)).far ⟨w.heap.size + 1 + 1, 3, none⟩ (.int .i64 bt) (by simp)
              have hb2 := ((((But.refl (w.heap.size + 1 + 1) w4).step 0 (.slice a1 n1 c1)).step 1 (.slice ka kn kc)).step 2 (.int .i64 bh)).step 3 (.int .i64 bt)
              generalize (((w4.setCell ⟨w.heap.size + 1 + 1, 0, none⟩ (.slice a1 n1 c1)).setCell ⟨w.heap.size + 1 + 1, 1, none⟩ (.slice ka kn kc)).setCell ⟨w.heap.size + 1 + 1, 2, none⟩ (.int .i64 bh)).setCell ⟨w.heap.size + 1 + 1, 3, none⟩ (.int .i64 bt) = w98 at *
              have zA := ((y3.set 0 (.int .i64 (0))).set 1 (.int .i64 (rt))).set 2 (.slice none 0 0)
              have zE := ((zD.far ⟨w.heap.size + 1 + 1 + 1, 0, none⟩ (.int .i64 (0)) (by simp)).far ⟨w.heap.size + 1 + 1 + 1, 1, none⟩ (.int .i64 (rt)) (by simp)).far ⟨w.heap.size + 1 + 1 + 1, 2, none⟩ (.slice none 0 0) (by simp)
              have hb3 := (((But.refl (w.heap.size + 1 + 1 + 1) w98).step 0 (.int .i64 (0))).step 1 (.int .i64 (rt))).step 2 (.slice none 0 0)
              have o9 := (okd.but hb2 (offd _ (by omega) (hoR _ (by omega)))).but hb3 (offd _ (by omega) (hoR _ (by omega)))
              have a9 := AV.ok.but (AV.ok.but oka hb2 (offa _ (by omega))) hb3 (offa _ (by omega))
              have b9 := (bw.trans (hb2.low.mono (show w.heap.size ≤ w.heap.size + 1 + 1 by omega))).trans (hb3.low.mono (show w.heap.size ≤ w.heap.size + 1 + 1 + 1 by omega))
              generalize ((w98.setCell ⟨w.heap.size + 1 + 1 + 1, 0, none⟩ (.int .i64 (0))).setCell ⟨w.heap.size + 1 + 1 + 1, 1, none⟩ (.int .i64 (rt))).setCell ⟨w.heap.size + 1 + 1 + 1, 2, none⟩ (.slice none 0 0) = w99 at *
              have z0 := zE.cell 0 _ rfl
              have z1 := zE.cell 1 _ rfl
              have z2 := zE.cell 2 _ rfl
              have z3 := zE.cell 3 _ rfl
              have v0 := zA.cell 0 _ rfl
              have v1 := zA.cell 1 _ rfl
              have v2 := zA.cell 2 _ rfl
              refine bodyPost_ret (v := .tuple #[.agg #[.slice a1 n1 c1, .slice ka kn kc, .int .i64 bh, .int .i64 bt], .agg #[.int .i64 (0), .int .i64 (rt), .slice none 0 0]]) (by simp [results, Tryz.results16, go_sem, z0, z1, z2, z3, v0, v1, v2]) rfl ⟨⟨⟨a1, n1, c1, Z1, ka, kn, kc, bk, bh, bt⟩, ⟨0, rt, none, 0, 0, []⟩, rfl, o9, a9, ?_, ?_, fun R hR ho => ⟨offd R (by omega) ho, offa R (by omega)⟩⟩, b9⟩
              · rw [HR.out]
                simp [DV.p, HP1.out]
              · rw [HR.out]
                simp [AV.p]
            · have he' : (re == 0) = false := by simpa using he
              have HE := hide he
              clear he
              have okd := ok3
              have offd : ∀ R, R ≤ w.heap.size + 1 + 1 + 1 → DV.off R ⟨za, zn, zc, Z, ka, kn, kc, bk, bh, bt⟩ → DV.off R ⟨za, zn, zc, Z, ka, kn, kc, bk, bh, bt⟩ := fun R _ ho => ho
              have oka : AV.ok w3 ⟨re, rt, none, 0, 0, []⟩ := Ints.nilSlice _
              have offa : ∀ R, R ≤ w.heap.size + 1 + 1 + 1 → AV.off R ⟨re, rt, none, 0, 0, []⟩ := fun R _ => .inl rfl
              have e0 := x2.cell 0 _ rfl
              have e1 := x2.cell 1 _ rfl
              have e2 := x2.cell 2 _ rfl
              have e3 := x2.cell 3 _ rfl
              have f0 := x2.ice 0
              have f1 := x2.ice 1
              have f2 := x2.ice 2
              have f3 := x2.ice 3
              have g0 := x3.cell 0 _ rfl
              have g1 := x3.cell 1 _ rfl
              have g2 := x3.cell 2 _ rfl
              have h0 := x3.ice 0
              have h1 := x3.ice 1
              have h2 := x3.ice 2
              go_wp2
              have zD := (((x2.set 0 (.slice za zn zc)).set 1 (.slice ka kn kc)).set 2 (.int .i64 bh)).set 3 (.int .i64 bt)
              have y3 := (((x3.far ⟨w.heap.size + 1 + 1, 0, none⟩ (.slice za zn zc) (by simp)).far ⟨w.heap.size + 1 + 1, 1, none⟩ (.slice ka kn kc) (by simp)).far ⟨w.heap.size + 1 + 1, 2, none⟩ (.int .i64 bh) (by simp)).far ⟨w.heap.size + 1 + 1, 3, none⟩ (.int .i64 bt) (by simp)
              have hb2 := ((((But.refl (w.heap.size + 1 + 1) w3).step 0 (.slice za zn zc)).step 1 (.slice ka kn kc)).step 2 (.int .i64 bh)).step 3 (.int .i64 bt)
              generalize (((w3.setCell ⟨w.heap.size + 1 + 1, 0, none⟩ (.slice za zn zc)).setCell ⟨w.heap.size + 1 + 1, 1, none⟩ (.slice ka kn kc)).setCell ⟨w.heap.size + 1 + 1, 2, none⟩ (.int .i64 bh)).setCell ⟨w.heap.size + 1 + 1, 3, none⟩ (.int .i64 bt) = w98 at *
              have zA := ((y3.set 0 (.int .i64 (re))).set 1 (.int .i64 (rt))).set 2 (.slice none 0 0)
              have zE := ((zD.far ⟨w.heap.size + 1 + 1 + 1, 0, none⟩ (.int .i64 (re)) (by simp)).far ⟨w.heap.size + 1 + 1 + 1, 1, none⟩ (.int .i64 (rt)) (by simp)).far ⟨w.heap.size + 1 + 1 + 1, 2, none⟩ (.slice none 0 0) (by simp)
              have hb3 := (((But.refl (w.heap.size + 1 + 1 + 1) w98).step 0 (.int .i64 (re))).step 1 (.int .i64 (rt))).step 2 (.slice none 0 0)
              have o9 := (okd.but hb2 (offd _ (by omega) (hoR _ (by omega)))).but hb3 (offd _ (by omega) (hoR _ (by omega)))
              have a9 := AV.ok.but (AV.ok.but oka hb2 (offa _ (by omega))) hb3 (offa _ (by omega))
              have b9 := (bw.trans (hb2.low.mono (show w.heap.size ≤ w.heap.size + 1 + 1 by omega))).trans (hb3.low.mono (show w.heap.size ≤ w.heap.size + 1 + 1 + 1 by omega))
              generalize ((w98.setCell ⟨w.heap.size + 1 + 1 + 1, 0, none⟩ (.int .i64 (re))).setCell ⟨w.heap.size + 1 + 1 + 1, 1, none⟩ (.int .i64 (rt))).setCell ⟨w.heap.size + 1 + 1 + 1, 2, none⟩ (.slice none 0 0) = w99 at *
              have z0 := zE.cell 0 _ rfl
              have z1 := zE.cell 1 _ rfl
              have z2 := zE.cell 2 _ rfl
              have z3 := zE.cell 3 _ rfl
              have v0 := zA.cell 0 _ rfl
              have v1 := zA.cell 1 _ rfl
              have v2 := zA.cell 2 _ rfl
              refine bodyPost_ret (v := .tuple #[.agg #[.slice za zn zc, .slice ka kn kc, .int .i64 bh, .int .i64 bt], .agg #[.int .i64 (re), .int .i64 (rt), .slice none 0 0]]) (by simp [results, Tryz.results16, go_sem, z0, z1, z2, z3, v0, v1, v2]) rfl ⟨⟨⟨za, zn, zc, Z, ka, kn, kc, bk, bh, bt⟩, ⟨re, rt, none, 0, 0, []⟩, rfl, o9, a9, ?_, ?_, fun R hR ho => ⟨offd R (by omega) ho, offa R (by omega)⟩⟩, b9⟩
              · rw [HR.out]
                simp [DV.p, HE.out]
              · rw [HR.out]
                simp [AV.p, HE.out]
          · have hk4 : xk ≤ 4 := by omega
            have HR := hide (HD.out xk (.inr ⟨rfl, hk4⟩))
            clear HD
            go_wp2_with fail
            refine (GZ.out (xk) _ ok1.z hx1 (by omega)).mono ?_
            rintro e w3 ⟨⟨a1, n1, c1, Z1, rfl, i1, av, p1⟩, hb3⟩
            have hsz := bw.size
            have ok3 := ok1.below hb3 (Nat.le_refl _)
            replace x2 := x2.below hb3
            replace x3 := x3.below hb3
            replace xP := xP.below hb3
            replace bw := belowT bw hb3
            have HP1 := hide p1
            have hAv : ∀ R, R ≤ w.heap.size + 1 + 1 + 1 → DV.off R ⟨za, zn, zc, Z, ka, kn, kc, bk, bh, bt⟩ → DV.off R ⟨a1, n1, c1, Z1, ka, kn, kc, bk, bh, bt⟩ := fun R h2 ho => by
              obtain ⟨u1, u2⟩ := av R (by omega) ho.l
              exact ⟨.inr u1, u2, ho.k⟩
            clear p1 av hb3 q0 q1 q2 q3 q4 b0 b1 b2 b3
            generalize hzr : zonesDo (Z.map ZV.p) (xk) (xz) xd = r at *
            obtain ⟨rP, rt, re⟩ := r
            clear hzr
            dsimp only at *
            have b0 := xP.cell 0 _ rfl
            have b1 := xP.cell 1 _ rfl
            have b2 := xP.cell 2 _ rfl
            have b3 := xP.cell 3 _ rfl
            have k0 := xP.ice 0
            by_cases he : re = 0
            · subst he
              have hDB : DBox w3 w.heap.size ⟨za, zn, zc, Z, ka, kn, kc, bk, bh, bt⟩ := ⟨xP, ok3, hoR _ (Nat.le_refl _)⟩
              go_upto_region 21 with fail
              have okd : DV.ok (w3.setCell ⟨w.heap.size, 0, none⟩ (.slice a1 n1 c1)) ⟨a1, n1, c1, Z1, ka, kn, kc, bk, bh, bt⟩ := DV.ok.but ⟨i1, ok3.k⟩ ((But.refl w.heap.size w3).step 0 _) (hAv _ (by omega) (hoR _ (Nat.le_refl _)))
              replace xP := xP.set 0 (.slice a1 n1 c1)
              replace x2 := x2.far ⟨w.heap.size, 0, none⟩ (.slice a1 n1 c1) (by simp; omega)
              replace x3 := x3.far ⟨w.heap.size, 0, none⟩ (.slice a1 n1 c1) (by simp; omega)
              replace bw := bw.setCell (p := ⟨w.heap.size, 0, none⟩) (Nat.le_refl _) (.slice a1 n1 c1)
              clear hDB b0 b1 b2 b3 k0
              generalize w3.setCell ⟨w.heap.size, 0, none⟩ (.slice a1 n1 c1) = w4 at *
              have offd : ∀ R, R ≤ w.heap.size + 1 + 1 + 1 → DV.off R ⟨za, zn, zc, Z, ka, kn, kc, bk, bh, bt⟩ → DV.off R ⟨a1, n1, c1, Z1, ka, kn, kc, bk, bh, bt⟩ := fun R h2 ho => hAv R h2 ho
              have oka : AV.ok w4 ⟨0, rt, none, 0, 0, []⟩ := Ints.nilSlice _
              have offa : ∀ R, R ≤ w.heap.size + 1 + 1 + 1 → AV.off R ⟨0, rt, none, 0, 0, []⟩ := fun R _ => .inl rfl
              have c0 := xP.cell 0 _ rfl
              have c2 := xP.cell 1 _ rfl
              have c3 := xP.cell 2 _ rfl
              have c4 := xP.cell 3 _ rfl
              have e0 := x2.cell 0 _ rfl
              have e1 := x2.cell 1 _ rfl
              have e2 := x2.cell 2 _ rfl
              have e3 := x2.cell 3 _ rfl
              have f0 := x2.ice 0
              have f1 := x2.ice 1
              have f2 := x2.ice 2
              have f3 := x2.ice 3
              have g0 := x3.cell 0 _ rfl
              have g1 := x3.cell 1 _ rfl
              have g2 := x3.cell 2 _ rfl
              have h0 := x3.ice 0
              have h1 := x3.ice 1
              have h2 := x3.ice 2
              go_wp2
              have zD := (((x2.set 0 (.slice a1 n1 c1)).set 1 (.slice ka kn kc)).set 2 (.int .i64 bh)).set 3 (.int .i64 bt)
              have y3 := (((x3.far ⟨w.heap.size + 1 + 1, 0, none⟩ (.slice a1 n1 c1) (by simp)).far ⟨w.heap.size + 1 + 1, 1, none⟩ (.slice ka kn kc) (by simp)).far ⟨w.heap.size + 1 + 1, 2, none⟩ (.int .i64 bh) (by simp)).far ⟨w.heap.size + 1 + 1, 3, none⟩ (.int .i64 bt) (by simp)
              have hb2 := ((((But.refl (w.heap.size + 1 + 1) w4).step 0 (.slice a1 n1 c1)).step 1 (.slice ka kn kc)).step 2 (.int .i64 bh)).step 3 (.int .i64 bt)
              generalize (((w4.setCell ⟨w.heap.size + 1 + 1, 0, none⟩ (.slice a1 n1 c1)).setCell ⟨w.heap.size + 1 + 1, 1, none⟩ (.slice ka kn kc)).setCell ⟨w.heap.size + 1 + 1, 2, none⟩ (.int .i64 bh)).setCell ⟨w.heap.size + 1 + 1, 3, none⟩ (.int .i64 bt) = w98 at *
              have zA := ((y3.set 0 (.int .i64 (0))).set 1 (.int .i64 (rt))).set 2 (.slice none 0 0)
              have zE := ((zD.far ⟨w.heap.size + 1 + 1 + 1, 0, none⟩ (.int .i64 (0)) (by simp)).far ⟨w.heap.size + 1 + 1 + 1, 1, none⟩ (.int .i64 (rt)) (by simp)).far ⟨w.heap.size + 1 + 1 + 1, 2, none⟩ (.slice none 0 0) (by simp)
              have hb3 := (((But.refl (w.heap.size + 1 + 1 + 1) w98).step 0 (.int .i64 (0))).step 1 (.int .i64 (rt))).step 2 (.slice none 0 0)
              have o9 := (okd.but hb2 (offd _ (by omega) (hoR _ (by omega)))).but hb3 (offd _ (by omega) (hoR _ (by omega)))
              have a9 := AV.ok.but (AV.ok.but oka hb2 (offa _ (by omega))) hb3 (offa _ (by omega))
              have b9 := (bw.trans (hb2.low.mono (show w.heap.size ≤ w.heap.size + 1 + 1 by omega))).trans (hb3.low.mono (show w.heap.size ≤ w.heap.size + 1 + 1 + 1 by omega))
              generalize ((w98.setCell ⟨w.heap.size + 1 + 1 + 1, 0, none⟩ (.int .i64 (0))).setCell ⟨w.heap.size + 1 + 1 + 1, 1, none⟩ (.int .i64 (rt))).setCell ⟨w.heap.size + 1 + 1 + 1, 2, none⟩ (.slice none 0 0) = w99 at *
              have z0 := zE.cell 0 _ rfl
              have z1 := zE.cell 1 _ rfl
              have z2 := zE.cell 2 _ rfl
              have z3 := zE.cell 3 _ rfl
              have v0 := zA.cell 0 _ rfl
              have v1 := zA.cell 1 _ rfl
              have v2 := zA.cell 2 _ rfl
              refine bodyPost_ret (v := .tuple #[.agg #[.slice a1 n1 c1, .slice ka kn kc, .int .i64 bh, .int .i64 bt], .agg #[.int .i64 (0), .int .i64 (rt), .slice none 0 0]]) (by simp [results, Tryz.results16, go_sem, z0, z1, z2, z3, v0, v1, v2]) rfl ⟨⟨⟨a1, n1, c1, Z1, ka, kn, kc, bk, bh, bt⟩, ⟨0, rt, none, 0, 0, []⟩, rfl, o9, a9, ?_, ?_, fun R hR ho => ⟨offd R (by omega) ho, offa R (by omega)⟩⟩, b9⟩
              · rw [HR.out]
                simp [DV.p, HP1.out]
              · rw [HR.out]
                simp [AV.p]
            · have he' : (re == 0) = false := by simpa using he
              have HE := hide he
              clear he
              have okd := ok3
              have offd : ∀ R, R ≤ w.heap.size + 1 + 1 + 1 → DV.off R ⟨za, zn, zc, Z, ka, kn, kc, bk, bh, bt⟩ → DV.off R ⟨za, zn, zc, Z, ka, kn, kc, bk, bh, bt⟩ := fun R _ ho => ho
              have oka : AV.ok w3 ⟨re, rt, none, 0, 0, []⟩ := Ints.nilSlice _
              have offa : ∀ R, R ≤ w.heap.size + 1 + 1 + 1 → AV.off R ⟨re, rt, none, 0, 0, []⟩ := fun R _ => .inl rfl
              have e0 := x2.cell 0 _ rfl
              have e1 := x2.cell 1 _ rfl
              have e2 := x2.cell 2 _ rfl
              have e3 := x2.cell 3 _ rfl
              have f0 := x2.ice 0
              have f1 := x2.ice 1
              have f2 := x2.ice 2
              have f3 := x2.ice 3
              have g0 := x3.cell 0 _ rfl
              have g1 := x3.cell 1 _ rfl
              have g2 := x3.cell 2 _ rfl
              have h0 := x3.ice 0
              have h1 := x3.ice 1
              have h2 := x3.ice 2
              go_wp2
              have zD := (((x2.set 0 (.slice za zn zc)).set 1 (.slice ka kn kc)).set 2 (.int .i64 bh)).set 3 (.int .i64 bt)
              have y3 := (((x3.far ⟨w.heap.size + 1 + 1, 0, none⟩ (.slice za zn zc) (by simp)).far ⟨w.heap.size + 1 + 1, 1, none⟩ (.slice ka kn kc) (by simp)).far ⟨w.heap.size + 1 + 1, 2, none⟩ (.int .i64 bh) (by simp)).far ⟨w.heap.size + 1 + 1, 3, none⟩ (.int .i64 bt) (by simp)
              have hb2 := ((((But.refl (w.heap.size + 1 + 1) w3).step 0 (.slice za zn zc)).step 1 (.slice ka kn kc)).step 2 (.int .i64 bh)).step 3 (.int .i64 bt)
              generalize (((w3.setCell ⟨w.heap.size + 1 + 1, 0, none⟩ (.slice za zn zc)).setCell ⟨w.heap.size + 1 + 1, 1, none⟩ (.slice ka kn kc)).setCell ⟨w.heap.size + 1 + 1, 2, none⟩ (.int .i64 bh)).setCell ⟨w.heap.size + 1 + 1, 3, none⟩ (.int .i64 bt) = w98 at *
              have zA := ((y3.set 0 (.int .i64 (re))).set 1 (.int .i64 (rt))).set 2 (.slice none 0 0)
              have zE := ((zD.far ⟨w.heap.size + 1 + 1 + 1, 0, none⟩ (.int .i64 (re)) (by simp)).far ⟨w.heap.size + 1 + 1 + 1, 1, none⟩ (.int .i64 (rt)) (by simp)).far ⟨w.heap.size + 1 + 1 + 1, 2, none⟩ (.slice none 0 0) (by simp)
              have hb3 := (((But.refl (w.heap.size + 1 + 1 + 1) w98).step 0 (.int .i64 (re))).step 1 (.int .i64 (rt))).step 2 (.slice none 0 0)
              have o9 := (okd.but hb2 (offd _ (by omega) (hoR _ (by omega)))).but hb3 (offd _ (by omega) (hoR _ (by omega)))
              have a9 := AV.ok.but (AV.ok.but oka hb2 (offa _ (by omega))) hb3 (offa _ (by omega))
              have b9 := (bw.trans (hb2.low.mono (show w.heap.size ≤ w.heap.size + 1 + 1 by omega))).trans (hb3.low.mono (show w.heap.size ≤ w.heap.size + 1 + 1 + 1 by omega))
              generalize ((w98.setCell ⟨w.heap.size + 1 + 1 + 1, 0, none⟩ (.int .i64 (re))).setCell ⟨w.heap.size + 1 + 1 + 1, 1, none⟩ (.int .i64 (rt))).setCell ⟨w.heap.size + 1 + 1 + 1, 2, none⟩ (.slice none 0 0) = w99 at *
              have z0 := zE.cell 0 _ rfl
              have z1 := zE.cell 1 _ rfl
              have z2 := zE.cell 2 _ rfl
              have z3 := zE.cell 3 _ rfl
              have v0 := zA.cell 0 _ rfl
              have v1 := zA.cell 1 _ rfl
              have v2 := zA.cell 2 _ rfl
              refine bodyPost_ret (v := .tuple #[.agg #[.slice za zn zc, .slice ka kn kc, .int .i64 bh, .int .i64 bt], .agg #[.int .i64 (re), .int .i64 (rt), .slice none 0 0]]) (by simp [results, Tryz.results16, go_sem, z0, z1, z2, z3, v0, v1, v2]) rfl ⟨⟨⟨za, zn, zc, Z, ka, kn, kc, bk, bh, bt⟩, ⟨re, rt, none, 0, 0, []⟩, rfl, o9, a9, ?_, ?_, fun R hR ho => ⟨offd R (by omega) ho, offa R (by omega)⟩⟩, b9⟩
              · rw [HR.out]
                simp [DV.p, HE.out]
              · rw [HR.out]
                simp [AV.p, HE.out]

theorem Done_c (d : DV) (j : Nat) (ca : Option Addr) (cn cc : Nat) (x : PC) (w : World) (h : d.ok w) (hx : Ints w ca cn cc x.d) (hd : checkD d.p = 0) (hj : j < 3) (hc : checkC x = 0) :
    Calls Tryz.prog 16 #[d.v, .int .i64 j, cmdV ca cn cc x] w fun e w' => (∃ (d' : DV) (a' : AV), e = .returned (.tuple #[d'.v, a'.v]) ∧ d'.ok w' ∧ a'.ok w' ∧ d'.p = (doneD d.p j x).1 ∧ a'.p = (doneD d.p j x).2) ∧ Below w.heap.size w w' := by
  refine (Done_f d j ca cn cc x w h hx hd hj hc).mono ?_
  rintro e w' ⟨⟨d', a', h1, h2, h3, h4, h5, _⟩, hb⟩
  exact ⟨⟨d', a', h1, h2, h3, h4, h5⟩, hb⟩

end Go.Proofs.YtkamnbigfdbgbaaGreatDoor
