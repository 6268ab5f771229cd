/- The contract of the document's own HallOf; no condition but that the argument reads as data. -/
import Derived.Test.YtenmamcaldabdaaGreatDoorHallSaysG37
import Derived.Test.YtenmamcaldabdaaGreatDoorHallSaysG41
import Derived.Test.YtenmamcaldabdaaGreatDoorHallSaysG21
namespace Go.Proofs.YtenmamcaldabdaaGreatDoor
open Go.RowKit
set_option linter.unusedVariables false
set_option maxRecDepth 100000
set_option linter.unusedSimpArgs false

/-- What HallOf leaves. -/
def HallOfs (r : PH × List PA × Int) (w : World) (e : Ending) (w' : World) : Prop :=
  (∃ (h' : HV) (a : Option Addr) (n c : Nat) (A : List AV), e = .returned (.tuple #[h'.v, .slice a n c, .int .i64 r.2.2]) ∧ h'.ok w' ∧ h'.new w.heap.size ∧ Answers w' a n c A ∧ FreshA w.heap.size a A ∧ h'.p = r.1 ∧ A.map AV.p = r.2.1) ∧ Below w.heap.size w w'

set_option maxRecDepth 100000 in
set_option maxHeartbeats 8000000 in
theorem HallOf_c (la : Option Addr) (ln lc : Nat) (X : List RV) (w : World) (hX : Recs w la ln lc X) : Calls Tryz.prog 8 #[.slice la ln lc] w fun e w' => HallOfs (hallOf (X.map RV.p)) w e w' := by
  obtain ⟨ai, hi, hz, hsz, hby⟩ := ansInfo
  have hlen := hX.len
  have hmax := hX.max
  have hle := hX.le
  have x2 := Lay.made w [.slice none 0 0, .slice none 0 0, .int .i64 0, .int .i64 0, .slice none 0 0] 30
  have bw : Below w.heap.size w (w.alloc (.cells [.slice none 0 0, .slice none 0 0, .int .i64 0, .int .i64 0, .slice none 0 0].toArray 30)) := by (repeat (first | exact Below.refl _ _ | assumption | refine Below.drew ?_ | refine below_drewN ?_ _ | refine belowA ?_ _ | refine belowT ?_ (by assumption) | refine Below.setCell ?_ (by first | (simp; done) | (simp; omega)) _))
  by_cases h80 : 80 < ln
  · have HE : Hid (hallOf (X.map RV.p) = (zeroH, [], 2)) := hide (by unfold hallOf; rw [if_pos (by rw [List.length_map, hlen]; exact h80)])
    generalize hallOf _ = rr at *
    have h8' : (80 : Int) < (ln : Int) := by omega
    have e0 := x2.cell 0 _ rfl
    have e1 := x2.cell 1 _ rfl
    have e2 := x2.cell 2 _ rfl
    have e3 := x2.cell 3 _ rfl
    have e4 := x2.cell 4 _ rfl
    have f0 := x2.ice 0
    have f1 := x2.ice 1
    have f2 := x2.ice 2
    have f3 := x2.ice 3
    have f4 := x2.ice 4
    go_enter Tryz.func8, Tryz.ntmps8
    go_wp2
    exact bodyPost_ret (v := .tuple #[.agg #[.slice none 0 0, .slice none 0 0, .int .i64 0, .int .i64 0, .slice none 0 0], .slice none 0 0, .int .i64 2]) (by simp [results, Tryz.results8, go_sem, e0, e1, e2, e3, e4]) rfl
      ⟨⟨HV.zero, none, 0, 0, [], by rw [HE.out]; rfl, HV.zero_ok _, HV.zero_new _, Answers.nilSlice _, FreshA.nil _, by rw [HE.out]; rfl, by rw [HE.out]; rfl⟩, bw⟩
  · have HR : Hid (hallOf (X.map RV.p) = if (replayF freshH (X.map RV.p)).2 ≠ 0 then (zeroH, [], (replayF freshH (X.map RV.p)).2) else ((replayF freshH (X.map RV.p)).1, toldF freshH (X.map RV.p), 0)) := hide (by unfold hallOf; rw [if_neg (by rw [List.length_map, hlen]; exact h80)])
    generalize hallOf _ = rr at *
    have h8' : ¬ (80 : Int) < (ln : Int) := by omega
    have HLN := hide hlen
    clear hlen
    go_enter Tryz.func8, Tryz.ntmps8
    go_wp2_with fail
    refine (FreshHall_c _).mono ?_
    rintro e w1 ⟨⟨h0, rfl, hok, hnew, hp0⟩, hb1⟩
    replace x2 := x2.below hb1
    replace bw := belowT bw hb1
    clear hb1
    have hnew1 := hnew.mono (show w.heap.size + 1 ≤ _ by simp)
    have hoff0 := hok.off (Nat.le_refl _)
    have HST : Hid (replayF freshH ((X.map RV.p).take 0) = (h0.p, 0)) := hide (by rw [hp0]; rfl)
    have HCK : Hid (checkH h0.p = 0) := hide (by rw [hp0]; exact checkH_fresh)
    obtain ⟨⟨za, zn, zc, Z, ka, kn, kc, bk, bh, bt⟩, a, n, c, L⟩ := h0
    dsimp only [HV.v] at *
    clear hp0 hnew
    go_upto_region 4 with fail
    have xH := Lay.made w1 [.slice za zn zc, .slice ka kn kc, .int .i64 bh, .int .i64 bt, .slice a n c] 30
    have bn := belowA (Below.refl _ w1) (.cells [.slice za zn zc, .slice ka kn kc, .int .i64 bh, .int .i64 bt, .slice a n c].toArray 30)
    have hlt2 := x2.lt
    replace x2 := x2.below bn
    replace hok := hok.below bn (Nat.le_refl _)
    replace bw := belowT bw bn
    generalize w1.heap.size = H at *
    generalize w1.alloc (.cells [.slice za zn zc, .slice ka kn kc, .int .i64 bh, .int .i64 bt, .slice a n c].toArray 30) = w2 at *
    clear bn
    go_wp2_with fail
    go_loopw [6, 19] (fun v i wr => ∃ (k : Nat) (hv : HV) (A : List AV), k ≤ ln ∧ i = .int .i64 (k : Nat) ∧ Lay wr w.heap.size [.slice none 0 0, .slice none 0 0, .int .i64 0, .int .i64 0, .slice none 0 0] ∧ Lay wr H hv.cells ∧ hv.ok wr ∧ hv.new (w.heap.size + 1) ∧ hv.off H ∧ OwnA wr (H + 1) v A ∧ (∀ g, v.ownBlock = some g → hv.off g) ∧ (∀ x ∈ A, x.new (w.heap.size + 1) ∧ x.off H) ∧ A.length = k ∧ replayF freshH ((X.map RV.p).take k) = (hv.p, 0) ∧ A.map AV.p = toldF freshH ((X.map RV.p).take k) ∧ checkH hv.p = 0 ∧ Below w.heap.size w wr) (fun _ i _ => ln - (intOf i).toNat)
    case atStart => exact ⟨0, ⟨⟨za, zn, zc, Z, ka, kn, kc, bk, bh, bt⟩, a, n, c, L⟩, [], by omega, rfl, x2, xH, hok, hnew1, hoff0, OwnA.nil _ _, fun g e => (by cases e), fun x hx => (by cases hx), rfl, HST.out, rfl, HCK.out, bw⟩
    case round =>
      clear x2 xH hok hnew1 hoff0 HST HCK bw
      obtain ⟨k, hv, A, hk, rfl, x2, xH, hok, hnew1, hoffH, hA, hoffg, hAn, hAl, hst, hto, hch, bw⟩ := hrel
      rename_i wr
      have HST := hide hst
      have HTO := hide hto
      have HCH := hide hch
      have hown := hA.own.lt
      obtain ⟨av, cv, rfl, _, _⟩ := hA.recs
      have HAL := hide hAl
      have hA80 : A.length ≤ ln := by omega
      clear hst hto hch hAl
      by_cases hlt : k < ln
      · obtain ⟨x, hx⟩ : ∃ z, X[k]? = some z := ⟨X[k]'(by rw [HLN.out]; exact hlt), by simp⟩
        obtain ⟨lb, lo, rfl, hlb, hcl⟩ := hX.row.resolve_left (by omega)
        have kx := hcl k x hx
        have hxk := RV.ok.below (hX.ok x (List.mem_of_getElem? hx)) bw (Nat.le_refl _)
        have hxp : (X.map RV.p)[k]? = some x.p := by rw [List.getElem?_map, hx]; rfl
        have HCR := hide (fun w' h' => CheckRec_c x w' h')
        have HN := hide (fun w' h1 h2 (hc : checkR x.p = 0) => nexted_c hv x w' h1 h2 HCH.out hc)
        have HS1 : Hid ((nextH hv.p x.p).2.2 = 0 → replayF freshH ((X.map RV.p).take (k + 1)) = ((nextH hv.p x.p).1, 0)) := hide (fun e => replay_step hxp HST.out e)
        have HS2 : Hid ((nextH hv.p x.p).2.2 ≠ 0 → rr = (zeroH, [], (nextH hv.p x.p).2.2)) := hide (fun e => by rw [HR.out, replay_fail hxp HST.out e]; rw [if_pos e])
        have HS3 : Hid (A.map AV.p ++ [(nextH hv.p x.p).2.1] = toldF freshH ((X.map RV.p).take (k + 1))) := hide (by rw [told_step hxp HST.out, HTO.out])
        have HS4 : Hid ((nextH hv.p x.p).2.2 = 0 → checkH (nextH hv.p x.p).1 = 0) := hide next_right
        have HS5 : Hid (checkR x.p ≠ 0 → rr = (zeroH, [], checkR x.p)) := hide (fun e => by
          have en : nextH hv.p x.p = (zeroH, zeroA, checkR x.p) := by unfold nextH; rw [if_neg (by simp [HCH.out]), if_pos e]
          have := HS2.out (by rw [en]; exact e)
          rw [this, en])
        generalize nextH hv.p x.p = nh at *
        generalize checkR x.p = cr at *
        rw [show hv.v = .agg hv.cells.toArray from rfl, show x.v = .agg x.cells.toArray from rfl] at HN
        rw [show x.v = .agg x.cells.toArray from rfl] at HCR
        clear hx hxp HST HTO HCH
        obtain ⟨⟨za, zn, zc, Z, ka, kn, kc, bk, bh, bt⟩, a, n, c, L⟩ := hv
        obtain ⟨⟨rq, rs, ⟨k1, z1, u1, t1, d1⟩⟩, ra, rn, rc⟩ := x
        dsimp only [HV.cells, RV.cells] at *
        have c0 := keepc bw (kx 0 _ rfl)
        have c1 := keepc bw (kx 1 _ rfl)
        have c2 := keepc bw (kx 2 _ rfl)
        have c3 := keepc bw (kx 3 _ rfl)
        have c4 := keepc bw (kx 4 _ rfl)
        have c5 := keepc bw (kx 5 _ rfl)
        have c6 := keepc bw (kx 6 _ rfl)
        rw [Nat.add_zero] at c0
        have hlt' : (k : Int) < (ln : Int) := by omega
        have hHl := xH.lt
        have h2l := x2.lt
        clear kx hcl
        go_upto_region 8 with fail
        have xB := Lay.made wr [.int .i64 rq, .int .i64 rs, .int .i64 k1, .int .i64 z1, .int .i64 u1, .int .i64 t1, .slice ra rn rc] 34
        have bn := belowA (Below.refl _ wr) (.cells [.int .i64 rq, .int .i64 rs, .int .i64 k1, .int .i64 z1, .int .i64 u1, .int .i64 t1, .slice ra rn rc].toArray 34)
        replace hxk := RV.ok.below hxk bn (Nat.le_refl _)
        replace x2 := x2.below bn
        replace xH := xH.below bn
        replace hok := hok.below bn (Nat.le_refl _)
        replace hA := hA.below bn
        replace bw := belowT bw bn
        clear bn c0 c1 c2 c3 c4 c5 c6
        generalize wr.heap.size = BR at *
        generalize wr.alloc (.cells [.int .i64 rq, .int .i64 rs, .int .i64 k1, .int .i64 z1, .int .i64 u1, .int .i64 t1, .slice ra rn rc].toArray 34) = w3 at *
        have e0 := xB.cell 0 _ rfl
        have e1 := xB.cell 1 _ rfl
        have e2 := xB.cell 2 _ rfl
        have e3 := xB.cell 3 _ rfl
        have e4 := xB.cell 4 _ rfl
        have e5 := xB.cell 5 _ rfl
        have e6 := xB.cell 6 _ rfl
        have f0 := xB.ice 0
        have f1 := xB.ice 1
        have f2 := xB.ice 2
        have f3 := xB.ice 3
        have f4 := xB.ice 4
        have f5 := xB.ice 5
        have f6 := xB.ice 6
        go_wp2_with fail
        refine (HCR.out _ hxk).mono ?_
        rintro e w4 ⟨rfl, hb4⟩
        replace hxk := RV.ok.below hxk hb4 (Nat.le_refl _)
        replace xB := xB.below hb4
        replace x2 := x2.below hb4
        replace xH := xH.below hb4
        replace hok := hok.below hb4 (Nat.le_refl _)
        replace hA := hA.below hb4
        replace bw := belowT bw hb4
        clear hb4 e0 e1 e2 e3 e4 e5 e6 f0 f1 f2 f3 f4 f5 f6 HCR
        cases hcb : cr != 0
        · have hc1 : Hid (cr = 0) := hide (by simpa using hcb)
          clear HS5
          have e0 := xB.cell 0 _ rfl
          have e1 := xB.cell 1 _ rfl
          have e2 := xB.cell 2 _ rfl
          have e3 := xB.cell 3 _ rfl
          have e4 := xB.cell 4 _ rfl
          have e5 := xB.cell 5 _ rfl
          have e6 := xB.cell 6 _ rfl
          have f0 := xB.ice 0
          have f1 := xB.ice 1
          have f2 := xB.ice 2
          have f3 := xB.ice 3
          have f4 := xB.ice 4
          have f5 := xB.ice 5
          have f6 := xB.ice 6
          have q0 := xH.cell 0 _ rfl
          have q1 := xH.cell 1 _ rfl
          have q2 := xH.cell 2 _ rfl
          have q3 := xH.cell 3 _ rfl
          have q4 := xH.cell 4 _ rfl
          have p0 := xH.ice 0
          have p1 := xH.ice 1
          have p2 := xH.ice 2
          have p3 := xH.ice 3
          have p4 := xH.ice 4
          have hB4 := xB.lt
          go_wp2_with fail
          refine (HN.out _ hok hxk hc1.out).mono ?_
          rintro e w5 ⟨⟨⟨⟨ya, yn, yc, Y, yk, ym, yl, yj, yh, yt⟩, yb, yo, yp, M⟩, ⟨ae, at', aa, an, ac, ad⟩, rfl, ok5, oka5, off5, p5, pa5⟩, hb5⟩
          have hN5 : ∀ R, R < w.heap.size + 1 → HV.off R ⟨⟨ya, yn, yc, Y, yk, ym, yl, yj, yh, yt⟩, yb, yo, yp, M⟩ ∧ AV.off R ⟨ae, at', aa, an, ac, ad⟩ := fun R hR => off5 R (by omega) (hnew1 R hR)
          have hH5 : HV.off H ⟨⟨ya, yn, yc, Y, yk, ym, yl, yj, yh, yt⟩, yb, yo, yp, M⟩ ∧ AV.off H ⟨ae, at', aa, an, ac, ad⟩ := off5 H (by omega) hoffH
          have hG5 : ∀ g, Value.ownBlock (.slice av A.length cv) = some g → HV.off g ⟨⟨ya, yn, yc, Y, yk, ym, yl, yj, yh, yt⟩, yb, yo, yp, M⟩ ∧ AV.off g ⟨ae, at', aa, an, ac, ad⟩ := fun g e => off5 g (by have := (hown g e).2; omega) (hoffg g e)
          have hz5 := hb5.size
          replace x2 := x2.below hb5
          replace xH := xH.below hb5
          replace hA := hA.below hb5
          replace bw := belowT bw hb5
          have P5 := hide p5
          have P6 := hide pa5
          clear hb5 e0 e1 e2 e3 e4 e5 e6 f0 f1 f2 f3 f4 f5 f6 q0 q1 q2 q3 q4 p0 p1 p2 p3 p4 HN p5 pa5 off5 hok hnew1 hoffH hoffg hxk xB
          dsimp only [HV.v, AV.v]
          go_upto_region 12 with fail
          obtain ⟨y7, y8, bn⟩ := two_boxes w5 [.slice ya yn yc, .slice yk ym yl, .int .i64 yh, .int .i64 yt, .slice yb yo yp] [.int .i64 ae, .int .i64 at', .slice aa an ac] 30 38
          replace x2 := x2.below bn
          replace xH := xH.below bn
          replace hA := hA.below bn
          replace ok5 := ok5.below bn (Nat.le_refl _)
          replace oka5 := AV.ok.below oka5 bn (Nat.le_refl _)
          replace bw := belowT bw bn
          clear bn
          generalize w5.heap.size = B7 at *
          generalize (w5.alloc (.cells [.slice ya yn yc, .slice yk ym yl, .int .i64 yh, .int .i64 yt, .slice yb yo yp].toArray 30)).alloc (.cells [.int .i64 ae, .int .i64 at', .slice aa an ac].toArray 38) = w6 at *
          have h7l := y8.lt
          cases hb : nh.2.2 != 0
          · have H0 := hide (HS1.out (by simpa using hb))
            have H4 := hide (HS4.out (by simpa using hb))
            clear HS1 HS2 HS4
            have h63 : A.length + 1 ≤ maxLen := by simp only [maxLen]; omega
            have h72 : (A.length + 1) * 40 ≤ 140737488355328 := by omega
            have hne6 : some B7 ≠ Value.ownBlock (.slice av A.length cv) := fun e => by have := (hown _ e.symm).2; omega
            have hne7 : some (B7 + 1) ≠ Value.ownBlock (.slice av A.length cv) := fun e => by have := (hown _ e.symm).2; omega
            have hneH : some H ≠ Value.ownBlock (.slice av A.length cv) := fun e => by have := (hown _ e.symm).1; omega
            have hne2 : some w.heap.size ≠ Value.ownBlock (.slice av A.length cv) := fun e => by have := (hown _ e.symm).1; omega
            have hbA : Below w6.heap.size w6 (w6.drew.alloc (.cells [.int .i64 ae, .int .i64 at', .slice aa an ac].toArray 38)) := belowA (Below.drew (Below.refl _ _)) _
            have hbase : H + 1 ≤ (w6.drew.alloc (.cells [.int .i64 ae, .int .i64 at', .slice aa an ac].toArray 38)).heap.size := Nat.le_trans (by omega) hbA.size
            have hnews : ∀ j u, (AV.cells ⟨ae, at', aa, an, ac, ad⟩)[j]? = some u → (w6.drew.alloc (.cells [.int .i64 ae, .int .i64 at', .slice aa an ac].toArray 38)).cell? ((⟨w6.heap.size, 0, none⟩ : Addr).add j) = some u := fun j u hu => by
              rw [addr_add, Nat.zero_add]
              exact (Lay.made w6.drew _ 38).cell j u hu
            have hAA := hA.below hbA
            have y7A := y7.below hbA
            have y8A := y8.below hbA
            have xHA := xH.below hbA
            have x2A := x2.below hbA
            have HNW := hide hnews
            have HAA := hide hAA
            clear hnews hAA
            have hd1 : H ≠ B7 := by omega
            have hd2 : B7 ≠ H := by omega
            have hd3 : H ≠ B7 + 1 := by omega
            have hd4 : B7 + 1 ≠ H := by omega
            have q0 := y7.cell 0 _ rfl
            have q1 := y7.cell 1 _ rfl
            have q2 := y7.cell 2 _ rfl
            have q3 := y7.cell 3 _ rfl
            have q4 := y7.cell 4 _ rfl
            have p0 := y7.ice 0
            have p1 := y7.ice 1
            have p2 := y7.ice 2
            have p3 := y7.ice 3
            have p4 := y7.ice 4
            have o0 := xH.cell 0 _ rfl
            have o1 := xH.cell 1 _ rfl
            have o2 := xH.cell 2 _ rfl
            have o3 := xH.cell 3 _ rfl
            have o4 := xH.cell 4 _ rfl
            have s0 := xH.ice 0
            have s1 := xH.ice 1
            have s2 := xH.ice 2
            have s3 := xH.ice 3
            have s4 := xH.ice 4
            have l0 := y8.cell 0 _ rfl
            have l1 := y8.cell 1 _ rfl
            have l2 := y8.cell 2 _ rfl
            go_upto_region 14 with fail
            go_region_held3 (fun w' => w'.cell? ⟨B7, 0, none⟩ = some (.slice ya yn yc) ∧ w'.cell? ⟨B7, 1, none⟩ = some (.slice yk ym yl) ∧ w'.cell? ⟨B7, 2, none⟩ = some (.int .i64 yh) ∧ w'.cell? ⟨B7, 3, none⟩ = some (.int .i64 yt) ∧ w'.cell? ⟨B7, 4, none⟩ = some (.slice yb yo yp) ∧ w'.cell? ⟨B7 + 1, 0, none⟩ = some (.int .i64 ae) ∧ w'.cell? ⟨B7 + 1, 1, none⟩ = some (.int .i64 at') ∧ w'.cell? ⟨B7 + 1, 2, none⟩ = some (.slice aa an ac)) ((first | (go_simp; done) | (simp [*, World.cell?_alloc_at, World.cell?_alloc_past, World.cell?_alloc_some, World.cell?_setCell_far]; done))) (first
              | (refine step_append_lies _ rfl _ _ 43 rfl (H + 1) 38 ai (.agg #[.int .i64 0, .int .i64 0, .slice none 0 0]) 3 40 Tryz.underlying43 hi hz hsz hby rfl (by decide) _ _ _ rfl HAA.out.own ⟨w6.heap.size, 0, none⟩ 1 1 (AV.cells ⟨ae, at', aa, an, ac, ad⟩) rfl rfl HNW.out (AV.cells_one _) (by decide) h63 h72 hbase _ rfl ?_; intro g5 cap5 w7 hown5 hg5 hat5 hlt5; (have y77 := Lay.grownA y7A hg5 hne6); (have y87 := Lay.grownA y8A hg5 hne7); (have xH7 := Lay.grownA xHA hg5 hneH); (have r0 := y77.cell 0 _ rfl); (have r1 := y77.cell 1 _ rfl); (have r2 := y77.cell 2 _ rfl); (have r3 := y77.cell 3 _ rfl); (have r4 := y77.cell 4 _ rfl); (have m0 := y87.cell 0 _ rfl); (have m1 := y87.cell 1 _ rfl); (have m2 := y87.cell 2 _ rfl); (have v0 := xH7.cell 0 _ rfl); (have v1 := xH7.cell 1 _ rfl); (have v2 := xH7.cell 2 _ rfl); (have v3 := xH7.cell 3 _ rfl); (have v4 := xH7.cell 4 _ rfl); (have i0 := xH7.ice 0); (have i1 := xH7.ice 1); (have i2 := xH7.ice 2); (have i3 := xH7.ice 3); (have i4 := xH7.ice 4)))
            all_goals
              go_wp2
              have hsA := hbA.size
              have okA := ok5.below hbA (Nat.le_refl _)
              have ok7 := HV.ok.grown okA hg5 (fun g e => ⟨by have := (hown g e).2; omega, (hG5 g e).1⟩)
              have oN := HAA.out.snoc (x := ⟨ae, at', aa, an, ac, ad⟩) (AV.ok.below oka5 hbA (Nat.le_refl _)) (fun g e => (hG5 g e).2) hown5 hg5 hat5
              have hND : ∀ x ∈ A ++ [⟨ae, at', aa, an, ac, ad⟩], AV.off H x := fun x hx => by
                rcases List.mem_append.1 hx with hx | hx
                · exact (hAn x hx).2
                · obtain rfl : x = _ := by simpa using hx
                  exact hH5.2
              have hNN : ∀ x ∈ A ++ [⟨ae, at', aa, an, ac, ad⟩], AV.new (w.heap.size + 1) x ∧ AV.off H x := fun x hx => ⟨by
                rcases List.mem_append.1 hx with hx | hx
                · exact (hAn x hx).1
                · obtain rfl : x = _ := by simpa using hx
                  exact fun R hR => (hN5 R hR).2, hND x hx⟩
              have o1 := ((((oN.far ⟨H, 0, none⟩ (.slice ya yn yc) (Nat.lt_succ_self H) hND).far ⟨H, 1, none⟩ (.slice yk ym yl) (Nat.lt_succ_self H) hND).far ⟨H, 2, none⟩ (.int .i64 yh) (Nat.lt_succ_self H) hND).far ⟨H, 3, none⟩ (.int .i64 yt) (Nat.lt_succ_self H) hND).far ⟨H, 4, none⟩ (.slice yb yo yp) (Nat.lt_succ_self H) hND
              have hog : ∀ g, Value.ownBlock (.slice (some ⟨g5, 0, none⟩) (A.length + 1) cap5) = some g → HV.off g ⟨⟨ya, yn, yc, Y, yk, ym, yl, yj, yh, yt⟩, yb, yo, yp, M⟩ := fun g e => by
                obtain rfl : g5 = g := by simpa [Value.ownBlock] using e
                rcases hat5 with h | h
                · exact (hG5 _ h).1
                · exact okA.off (by rw [h]; simp)
              have b7 : Below w.heap.size w w7 := Below.grown (belowT bw hbA) hg5 (by omega) (fun g e => by have := (hown g e).1; omega)
              have x27 := Lay.grownA x2A hg5 hne2
              have zB := ((((xH7.set 0 (.slice ya yn yc)).set 1 (.slice yk ym yl)).set 2 (.int .i64 yh)).set 3 (.int .i64 yt)).set 4 (.slice yb yo yp)
              have hbut := (((((ButI.refl (H) w7).step 0 (.slice ya yn yc)).step 1 (.slice yk ym yl)).step 2 (.int .i64 yh)).step 3 (.int .i64 yt)).step 4 (.slice yb yo yp)
              generalize ((((w7.setCell ⟨H, 0, none⟩ (.slice ya yn yc)).setCell ⟨H, 1, none⟩ (.slice yk ym yl)).setCell ⟨H, 2, none⟩ (.int .i64 yh)).setCell ⟨H, 3, none⟩ (.int .i64 yt)).setCell ⟨H, 4, none⟩ (.slice yb yo yp) = w8 at *
              have z0 := zB.cell 0 _ rfl
              have z1 := zB.cell 1 _ rfl
              have z2 := zB.cell 2 _ rfl
              have z3 := zB.cell 3 _ rfl
              have z4 := zB.cell 4 _ rfl
              refine ⟨⟨k + 1, ⟨⟨ya, yn, yc, Y, yk, ym, yl, yj, yh, yt⟩, yb, yo, yp, M⟩, A ++ [⟨ae, at', aa, an, ac, ad⟩], by omega, by go_num, x27.butI hbut (by omega), zB, ok7.but hbut.but hH5.1, fun R hR => (hN5 R hR).1, hH5.1, o1, hog, hNN, by simp [HAL.out], by rw [P5.out]; exact H0.out, ?_, by rw [P5.out]; exact H4.out, b7.trans (hbut.below (B := w.heap.size) (by omega))⟩, by simp [intOf]; omega⟩
              rw [List.map_append, ← HS3.out, ← P6.out]
              rfl
          · have HE := hide (HS2.out (by simpa using hb))
            clear HS1 HS2 HS4
            have e0 := x2.cell 0 _ rfl
            have e1 := x2.cell 1 _ rfl
            have e2 := x2.cell 2 _ rfl
            have e3 := x2.cell 3 _ rfl
            have e4 := x2.cell 4 _ rfl
            have f0 := x2.ice 0
            have f1 := x2.ice 1
            have f2 := x2.ice 2
            have f3 := x2.ice 3
            have f4 := x2.ice 4
            go_wp2
            have zB := ((((x2.set 0 (.slice none 0 0)).set 1 (.slice none 0 0)).set 2 (.int .i64 0)).set 3 (.int .i64 0)).set 4 (.slice none 0 0)
            have hbut := (((((ButI.refl (w.heap.size) w6).step 0 (.slice none 0 0)).step 1 (.slice none 0 0)).step 2 (.int .i64 0)).step 3 (.int .i64 0)).step 4 (.slice none 0 0)
            generalize ((((w6.setCell ⟨w.heap.size, 0, none⟩ (.slice none 0 0)).setCell ⟨w.heap.size, 1, none⟩ (.slice none 0 0)).setCell ⟨w.heap.size, 2, none⟩ (.int .i64 0)).setCell ⟨w.heap.size, 3, none⟩ (.int .i64 0)).setCell ⟨w.heap.size, 4, none⟩ (.slice none 0 0) = w9 at *
            have z0 := zB.cell 0 _ rfl
            have z1 := zB.cell 1 _ rfl
            have z2 := zB.cell 2 _ rfl
            have z3 := zB.cell 3 _ rfl
            have z4 := zB.cell 4 _ rfl
            exact bodyPost_ret (v := .tuple #[.agg #[.slice none 0 0, .slice none 0 0, .int .i64 0, .int .i64 0, .slice none 0 0], .slice none 0 0, .int .i64 nh.2.2]) (by simp [results, Tryz.results8, go_sem, z0, z1, z2, z3, z4]) rfl
              ⟨⟨HV.zero, none, 0, 0, [], by rw [HE.out]; rfl, HV.zero_ok _, HV.zero_new _, Answers.nilSlice _, FreshA.nil _, by rw [HE.out]; rfl, by rw [HE.out]; rfl⟩, bw.trans (hbut.below (B := w.heap.size) (by omega))⟩
        · have HE := hide (HS5.out (by simpa using hcb))
          clear HS1 HS2 HS4 HS5
          have e0 := x2.cell 0 _ rfl
          have e1 := x2.cell 1 _ rfl
          have e2 := x2.cell 2 _ rfl
          have e3 := x2.cell 3 _ rfl
          have e4 := x2.cell 4 _ rfl
          have f0 := x2.ice 0
          have f1 := x2.ice 1
          have f2 := x2.ice 2
          have f3 := x2.ice 3
          have f4 := x2.ice 4
          go_wp2
          have zB := ((((x2.set 0 (.slice none 0 0)).set 1 (.slice none 0 0)).set 2 (.int .i64 0)).set 3 (.int .i64 0)).set 4 (.slice none 0 0)
          have hbut := (((((ButI.refl (w.heap.size) w4).step 0 (.slice none 0 0)).step 1 (.slice none 0 0)).step 2 (.int .i64 0)).step 3 (.int .i64 0)).step 4 (.slice none 0 0)
          generalize ((((w4.setCell ⟨w.heap.size, 0, none⟩ (.slice none 0 0)).setCell ⟨w.heap.size, 1, none⟩ (.slice none 0 0)).setCell ⟨w.heap.size, 2, none⟩ (.int .i64 0)).setCell ⟨w.heap.size, 3, none⟩ (.int .i64 0)).setCell ⟨w.heap.size, 4, none⟩ (.slice none 0 0) = w9 at *
          have z0 := zB.cell 0 _ rfl
          have z1 := zB.cell 1 _ rfl
          have z2 := zB.cell 2 _ rfl
          have z3 := zB.cell 3 _ rfl
          have z4 := zB.cell 4 _ rfl
          exact bodyPost_ret (v := .tuple #[.agg #[.slice none 0 0, .slice none 0 0, .int .i64 0, .int .i64 0, .slice none 0 0], .slice none 0 0, .int .i64 cr]) (by simp [results, Tryz.results8, go_sem, z0, z1, z2, z3, z4]) rfl
            ⟨⟨HV.zero, none, 0, 0, [], by rw [HE.out]; rfl, HV.zero_ok _, HV.zero_new _, Answers.nilSlice _, FreshA.nil _, by rw [HE.out]; rfl, by rw [HE.out]; rfl⟩, bw.trans (hbut.below (B := w.heap.size) (by omega))⟩
      · obtain rfl : k = ln := by omega
        have hst := HST.out
        rw [List.take_of_length_le (by rw [List.length_map, HLN.out]; omega)] at hst
        have hto := HTO.out
        rw [List.take_of_length_le (by rw [List.length_map, HLN.out]; omega)] at hto
        have H0 : Hid (rr = (hv.p, A.map AV.p, 0)) := hide (by rw [HR.out, hst, hto]; rfl)
        clear hst HST hto HTO HCH
        obtain ⟨av', cv', e9, Ra, ha⟩ := hA.recs
        cases e9
        obtain ⟨⟨za, zn, zc, Z, ka, kn, kc, bk, bh, bt⟩, a, n, c, L⟩ := hv
        dsimp only [HV.cells] at *
        have e0 := x2.cell 0 _ rfl
        have e1 := x2.cell 1 _ rfl
        have e2 := x2.cell 2 _ rfl
        have e3 := x2.cell 3 _ rfl
        have e4 := x2.cell 4 _ rfl
        have f0 := x2.ice 0
        have f1 := x2.ice 1
        have f2 := x2.ice 2
        have f3 := x2.ice 3
        have f4 := x2.ice 4
        have q0 := xH.cell 0 _ rfl
        have q1 := xH.cell 1 _ rfl
        have q2 := xH.cell 2 _ rfl
        have q3 := xH.cell 3 _ rfl
        have q4 := xH.cell 4 _ rfl
        go_wp2
        have zB := ((((x2.set 0 (.slice za zn zc)).set 1 (.slice ka kn kc)).set 2 (.int .i64 bh)).set 3 (.int .i64 bt)).set 4 (.slice a n c)
        have hbut := (((((ButI.refl (w.heap.size) wr).step 0 (.slice za zn zc)).step 1 (.slice ka kn kc)).step 2 (.int .i64 bh)).step 3 (.int .i64 bt)).step 4 (.slice a n c)
        generalize ((((wr.setCell ⟨w.heap.size, 0, none⟩ (.slice za zn zc)).setCell ⟨w.heap.size, 1, none⟩ (.slice ka kn kc)).setCell ⟨w.heap.size, 2, none⟩ (.int .i64 bh)).setCell ⟨w.heap.size, 3, none⟩ (.int .i64 bt)).setCell ⟨w.heap.size, 4, none⟩ (.slice a n c) = w9 at *
        have z0 := zB.cell 0 _ rfl
        have z1 := zB.cell 1 _ rfl
        have z2 := zB.cell 2 _ rfl
        have z3 := zB.cell 3 _ rfl
        have z4 := zB.cell 4 _ rfl
        exact bodyPost_ret (v := .tuple #[.agg #[.slice za zn zc, .slice ka kn kc, .int .i64 bh, .int .i64 bt, .slice a n c], .slice av A.length cv, .int .i64 0]) (by simp [results, Tryz.results8, go_sem, z0, z1, z2, z3, z4]) rfl
          ⟨⟨⟨⟨za, zn, zc, Z, ka, kn, kc, bk, bh, bt⟩, a, n, c, L⟩, av, A.length, cv, A, by rw [H0.out]; rfl, hok.but hbut.but (hnew1 _ (by omega)), hnew1.mono (by omega), Ra.but hbut.but (.inr fun y e => by have := ha y e; omega) (fun x hx => (hAn x hx).1 _ (by omega)), ⟨fun y e => by have := ha y e; omega, fun x hx => AV.new.mono (hAn x hx).1 (by omega)⟩, by rw [H0.out], by rw [H0.out]⟩, bw.trans (hbut.below (B := w.heap.size) (by omega))⟩

end Go.Proofs.YtenmamcaldabdaaGreatDoor

/- What the law's closed fact on halls comes to, in plain words; the contract of puts; no condition. -/
namespace Go.Proofs.YtenmamcaldabdaaGreatDoor
open Go.RowKit
set_option linter.unusedVariables false
set_option maxRecDepth 100000
set_option linter.unusedSimpArgs false

def cP (n : Int) : PC := ⟨5, 1, 0, 0, [n]⟩
def hO1 : PH := ⟨⟨[(0, []), (1, [5]), (0, []), (0, [])], freshB⟩, [zeroL, ⟨1, ⟨0, 0, []⟩⟩, zeroL]⟩
def hO2 : PH := ⟨⟨[(0, []), (1, [5, 6]), (0, []), (0, [])], freshB⟩, [zeroL, ⟨2, ⟨0, 1, []⟩⟩, zeroL]⟩
def hO3 : PH := ⟨⟨[(0, []), (1, [5, 6]), (0, []), (0, [])], freshB⟩, [⟨1, ⟨0, 1, []⟩⟩, ⟨1, ⟨0, 0, []⟩⟩, zeroL]⟩
theorem onc1 : nextH freshH ⟨1, 1, cP 5⟩ = (hO1, ⟨0, 0, []⟩, 0) := by rfl
theorem onc2 : nextH hO1 ⟨1, 1, cP 5⟩ = (hO1, ⟨0, 0, []⟩, 0) := by rfl
theorem onc3 : nextH hO1 ⟨1, 2, cP 6⟩ = (hO2, ⟨0, 1, []⟩, 0) := by rfl
theorem onc4 : nextH hO1 ⟨1, 3, cP 6⟩ = (zeroH, zeroA, 6) := by rfl
theorem onc5 : replayH [⟨1, 1, cP 5⟩, ⟨0, 1, cP 6⟩] = (hO3, 0) := by rfl
theorem onc6 : checkH hO3 = 0 := by rfl

theorem puts_c (n : Int) (hn : -9223372036854775808 ≤ n ∧ n ≤ 9223372036854775807) (w : World) : Calls Tryz.prog 30 #[.int .i64 n] w fun e w' => (∃ q, e = .returned (.agg #[.int .i64 5, .int .i64 1, .int .i64 0, .int .i64 0, .slice (some ⟨q, 0, none⟩) 1 1]) ∧ Ints w' (some ⟨q, 0, none⟩) 1 1 [n] ∧ w.heap.size ≤ q) ∧ Below w.heap.size w w' := by
  go_enter Tryz.func30, Tryz.ntmps30
  go_wp2
  have zB := (Lay.made w [.int .i64 5, .int .i64 1, .int .i64 0, .int .i64 0, .slice (some ⟨w.heap.size + 1, 0, none⟩) 1 1] 32).below (belowA (Below.refl _ _) (.cells #[.int .i64 n] 3))
  have i := Ints.of_row (l := [n]) (heap_new (w.alloc (.cells [.int .i64 5, .int .i64 1, .int .i64 0, .int .i64 0, .slice (some ⟨w.heap.size + 1, 0, none⟩) 1 1].toArray 32)) (.cells #[.int .i64 n] 3)) (by simp) (by simpa using hn) (n := 1) rfl
  simp only [World.size_alloc] at i
  have z0 := zB.cell 0 _ rfl
  have z1 := zB.cell 1 _ rfl
  have z2 := zB.cell 2 _ rfl
  have z3 := zB.cell 3 _ rfl
  have z4 := zB.cell 4 _ rfl
  exact bodyPost_ret (v := .agg #[.int .i64 5, .int .i64 1, .int .i64 0, .int .i64 0, .slice (some ⟨w.heap.size + 1, 0, none⟩) 1 1]) (by simp [results, Tryz.results30, go_sem, z0, z1, z2, z3, z4]) rfl
    ⟨⟨w.heap.size + 1, rfl, i, by omega⟩, by (repeat (first | exact Below.refl _ _ | assumption | refine Below.drew ?_ | refine below_drewN ?_ _ | refine belowA ?_ _ | refine belowT ?_ (by assumption) | refine Below.setCell ?_ (by first | (simp; done) | (simp; omega)) _))⟩

/-- Next in plain words. -/
theorem Next_k (h : HV) (r : RV) {P : PH} {R : PR} {X : PH × PA × Int} (hp : h.p = P) (rp : r.p = R) (e : nextH P R = X) (w : World) (hS : Shapes w) (hk : h.ok w) (hr : r.ok w) :
    Calls Tryz.prog 5 #[.agg #[.slice h.d.za h.d.zn h.d.zc, .slice h.d.ka h.d.kn h.d.kc, .int .i64 h.d.b.h, .int .i64 h.d.b.t, .slice h.a h.n h.c], .agg #[.int .i64 r.p.w, .int .i64 r.p.s, .int .i64 r.p.c.k, .int .i64 r.p.c.z, .int .i64 r.p.c.n, .int .i64 r.p.c.at', .slice r.a r.n r.c]] w fun e w' => Nexts X w e w' := by
  have q := Next_c h r w hS hk hr
  rw [hp, rp, e] at q
  exact q

/-- A block of the call's own that holds records. -/
theorem Recs.of_lay {w : World} {g : Nat} {X : List RV} (h : Lay w g (rcells X)) (hok : ∀ x ∈ X, x.ok w) {n : Nat} (hn : X.length = n) (hm : n ≤ 9223372036854775807) : Recs w (some ⟨g, 0, none⟩) n n X := by
  subst hn
  refine ⟨rfl, Nat.le_refl _, hm, fun e => (by cases e), .inr ⟨g, 0, rfl, h.lt, fun i y hy j v hv => ?_⟩, hok⟩
  have := h.cell _ _ (rcells_get X i y hy j v hv)
  simpa using this
theorem recs6 {w : World} {q5 q6 g : Nat} (h : Lay w g [.int .i64 1, .int .i64 1, .int .i64 5, .int .i64 1, .int .i64 0, .int .i64 0, .slice (some ⟨q5, 0, none⟩) 1 1, .int .i64 0, .int .i64 1, .int .i64 5, .int .i64 1, .int .i64 0, .int .i64 0, .slice (some ⟨q6, 0, none⟩) 1 1]) (h5 : Ints w (some ⟨q5, 0, none⟩) 1 1 [5]) (h6 : Ints w (some ⟨q6, 0, none⟩) 1 1 [6]) : Recs w (some ⟨g, 0, none⟩) 2 2 [⟨⟨1, 1, cP 5⟩, some ⟨q5, 0, none⟩, 1, 1⟩, ⟨⟨0, 1, cP 6⟩, some ⟨q6, 0, none⟩, 1, 1⟩] :=
  Recs.of_lay (X := [⟨⟨1, 1, cP 5⟩, some ⟨q5, 0, none⟩, 1, 1⟩, ⟨⟨0, 1, cP 6⟩, some ⟨q6, 0, none⟩, 1, 1⟩]) h (fun x hx => by
    simp only [List.mem_cons, List.not_mem_nil, or_false] at hx
    rcases hx with rfl | rfl
    · exact h5
    · exact h6) rfl (by omega)
theorem Replay_k (la : Option Addr) (ln lc : Nat) (X : List RV) {R : List PR} {Y : PH × Int} (hr : X.map RV.p = R) (e : replayH R = Y) (w : World) (hS : Shapes w) (hX : Recs w la ln lc X) : Calls Tryz.prog 6 #[.slice la ln lc] w fun e w' => Replays Y w e w' := by
  have q := Replay_c la ln lc X w hS hX
  rw [hr, e] at q
  exact q
/-- The second zone of what was replayed. -/
theorem zone1 {h : HV} {w : World} (hk : h.ok w) (hp : h.p = hO3) : ∃ b off z, h.d.za = some ⟨b, off, none⟩ ∧ h.d.zn = 4 ∧ w.cell? ⟨b, off + 2 + 1, none⟩ = some (.slice (ZV.a z) 2 z.c) := by
  have hz : h.d.Z.map ZV.p = [(0, []), (1, [5, 6]), (0, []), (0, [])] := congrArg (fun x => x.d.P) hp
  have hl := congrArg List.length hz
  rw [List.length_map] at hl
  have h4 : h.d.zn = 4 := by rw [← hk.d.z.len, hl]; rfl
  obtain ⟨b, off, ha, _, hr⟩ := hk.d.z.row.resolve_left (by omega)
  obtain ⟨z, hz1⟩ : ∃ z, h.d.Z[1]? = some z := ⟨_, List.getElem?_eq_getElem (by rw [hl]; decide)⟩
  have e : z.p = (1, [5, 6]) := by
    have := congrArg (fun l => l[1]?) hz
    simpa [hz1] using this
  have hn : z.n = 2 := by
    rw [← (hk.d.z.ok z (List.mem_of_getElem? hz1)).len]
    have : z.l = [5, 6] := congrArg Prod.snd e
    rw [this]
    rfl
  have := (hr 1 z hz1).2
  rw [hn] at this
  exact ⟨b, off, z, ha, h4, by simpa using this⟩

end Go.Proofs.YtenmamcaldabdaaGreatDoor
