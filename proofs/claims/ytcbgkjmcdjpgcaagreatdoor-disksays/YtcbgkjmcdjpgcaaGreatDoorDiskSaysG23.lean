/- The law DiskSays: its first half, up to where the disk is known to be right or wrong. -/
import Derived.Test.YtcbgkjmcdjpgcaaGreatDoorDiskSaysG16
import Derived.Test.YtcbgkjmcdjpgcaaGreatDoorDiskSaysG19
import Derived.Test.YtcbgkjmcdjpgcaaGreatDoorDiskSaysG22
namespace Go.Proofs.YtcbgkjmcdjpgcaaGreatDoor
open Go.RowKit
set_option linter.unusedVariables false
set_option maxRecDepth 100000
set_option linter.unusedSimpArgs false

theorem bad_put {d : PK} (r : PR) (h : checkK d ≠ 0) : putK d r = (zeroK, checkK d) := by unfold putK; rw [if_pos h]
theorem bad_sync {d : PK} (h : checkK d ≠ 0) : syncK d = (zeroK, checkK d) := by unfold syncK; rw [if_pos h]
theorem bad_crash {d : PK} (n : Int) (h : checkK d ≠ 0) : crashK d n = (zeroK, checkK d) := by unfold crashK; rw [if_pos h]
theorem good_rec {d : PK} (h : checkK d = 0) : (recK d).2.2 = 0 := by unfold recK; rw [if_neg (by simp [h])]
theorem good_crash_out {d : PK} {n : Int} (h : checkK d = 0) (hn : n < 0 ∨ (d.w.length : Int) < n) : crashK d n = (zeroK, 3) := by unfold crashK; rw [if_neg (by simp [h]), if_pos hn]
theorem good_crash_in {d : PK} {n : Nat} (h : checkK d = 0) (hn : n ≤ d.w.length) : crashK d (n : Int) = (⟨d.s, d.w.take n⟩, 0) := by unfold crashK; rw [if_neg (by simp [h]), if_neg (by omega), Int.toNat_natCast]

theorem SD_self (p : PK) (a : Option Addr) (n c : Nat) (b : Option Addr) (m d : Nat) (a' : Option Addr) (n' c' : Nat) (b' : Option Addr) (m' d' : Nat) (w : World) (h : KV.ok w ⟨p, a, n, c, b, m, d⟩) (k : KV.ok w ⟨p, a', n', c', b', m', d'⟩) :
    Calls Tryz.prog 12 #[.agg #[.slice a n c, .slice b m d], .agg #[.slice a' n' c', .slice b' m' d']] w fun e w' => e = .returned (.bool true) ∧ Below w.heap.size w w' := by
  have := SameDisk_c ⟨p, a, n, c, b, m, d⟩ ⟨p, a', n', c', b', m', d'⟩ w h k
  rw [(sameK_iff _ _).2 rfl] at this
  exact this

set_option maxRecDepth 100000 in
set_option maxHeartbeats 16000000 in
theorem DiskSays_c (kd : KV) (r : RV) (q : Int) (kx : KV) (w : World) (hE : Env w) (hd : kd.ok w) (hc : r.ok w) (hx : kx.ok w) (hs1 : kd.n ≤ 140737488355328) (hs2 : kd.m ≤ 140737488355328) :
    Calls Tryz.prog 3 #[kd.v, r.v, .int .i64 q, kx.v] w fun e w' => e = .returned (.bool true) ∧ Below w.heap.size w w' := by
  have HP := hide (fun w' hE h hr => Put_c kd r w' hE h hr hs1 hs2)
  have HS := hide (fun w' hE h => Sync_c kd w' hE h hs1 hs2)
  have HC := hide (fun w' hE h => Crash_c kd q w' hE h hs1 hs2)
  have HR := hide (fun w' hE h => Recover_c kd w' hE h hs1 hs2)
  have HK1 := hide (fun w' hE h => KCheck_c kd w' hE h hs1 hs2)
  have HK2 := hide (fun w' hE h => CheckDisk_c kd w' hE h hs1 hs2)
  have HM1 := hide (fun w' h k => KSame_c kd kx w' h k)
  have HM2 := hide (fun w' h k => SameDisk_c kd kx w' h k)
  have HPO := hide (fun w' hE h hr hck hnm => PutOn_c kd r w' hE h hr hck hnm)
  have HSY := hide (fun w' hE h hck hnm => Synced_c kd w' hE h hck hnm)
  have HRC := hide (fun w' hE h hck hnm => Recovered_c kd w' hE h hck hnm)
  have HZP : Hid (checkK kd.p ≠ 0 → putK kd.p r.p = (zeroK, checkK kd.p)) := hide (bad_put r.p)
  have HZS : Hid (checkK kd.p ≠ 0 → syncK kd.p = (zeroK, checkK kd.p)) := hide bad_sync
  have HZC : Hid (checkK kd.p ≠ 0 → crashK kd.p q = (zeroK, checkK kd.p)) := hide (bad_crash q)
  have HZR : Hid (checkK kd.p ≠ 0 → recK kd.p = (zeroK, [], checkK kd.p)) := hide recK_bad
  have HGR : Hid (checkK kd.p = 0 → (recK kd.p).2.2 = 0) := hide good_rec
  have hl2 : kd.p.w.length = kd.m := hd.w.len
  have HGO : Hid (checkK kd.p = 0 → q < 0 ∨ (kd.m : Int) < q → crashK kd.p q = (zeroK, 3)) := hide (fun h k => good_crash_out h (by rw [hl2]; exact k))
  have HGI : Hid (∀ j : Nat, q = j → checkK kd.p = 0 → j ≤ kd.m → crashK kd.p q = (⟨kd.p.s, kd.p.w.take j⟩, 0)) := hide (fun j e h k => by rw [e]; exact good_crash_in h (by rw [hl2]; exact k))
  have HNM : Hid (checkK kd.p = 0 → kd.n + kd.m ≤ 60000) := hide (fun h => checkK_len (s := kd.p.s) (t := kd.p.w) hd.s.len hd.w.len h)
  obtain ⟨pd, da, dn, dc, db, dm, de⟩ := kd
  obtain ⟨px, xa, xn, xc', xb, xm, xe⟩ := kx
  obtain ⟨pr, ra, rn, rc⟩ := r
  dsimp only at *
  generalize checkK pd = ck at *
  generalize putK pd pr = PP at *
  generalize syncK pd = PS at *
  generalize crashK pd q = PC' at *
  generalize recK pd = PRR at *
  generalize hsm : sameK pd px = sm at *
  clear hsm hl2
  obtain ⟨P1, E1⟩ := PP
  obtain ⟨P2, E2⟩ := PS
  obtain ⟨P3, E3⟩ := PC'
  obtain ⟨P4, L4, E4⟩ := PRR
  obtain ⟨rq, rs, ⟨rk, rz, ru, rt, rd⟩⟩ := pr
  dsimp only [KV.v, RV.v] at HP HS HC HR HK1 HK2 HM1 HM2 HPO HSY HRC HZP HZS HZC HZR HGR HGO HGI ⊢
  have xd := ((Lay.made w [.slice da dn dc, .slice db dm de] 24).below (belowA (Below.refl _ _) (.cells #[.int .i64 rq, .int .i64 rs, .int .i64 rk, .int .i64 rz, .int .i64 ru, .int .i64 rt, .slice ra rn rc] 29))).below (belowA (Below.refl _ _) (.cells #[.slice xa xn xc', .slice xb xm xe] 24))
  have xc := (Lay.made1 w (.cells #[.slice da dn dc, .slice db dm de] 24) [.int .i64 rq, .int .i64 rs, .int .i64 rk, .int .i64 rz, .int .i64 ru, .int .i64 rt, .slice ra rn rc] 29).below (belowA (Below.refl _ _) (.cells #[.slice xa xn xc', .slice xb xm xe] 24))
  have xx : Lay (((w.alloc (.cells #[.slice da dn dc, .slice db dm de] 24)).alloc (.cells #[.int .i64 rq, .int .i64 rs, .int .i64 rk, .int .i64 rz, .int .i64 ru, .int .i64 rt, .slice ra rn rc] 29)).alloc (.cells [.slice xa xn xc', .slice xb xm xe].toArray 24)) (w.heap.size + 2) [.slice xa xn xc', .slice xb xm xe] := by
    have := Lay.made1 (w.alloc (.cells #[.slice da dn dc, .slice db dm de] 24)) (.cells #[.int .i64 rq, .int .i64 rs, .int .i64 rk, .int .i64 rz, .int .i64 ru, .int .i64 rt, .slice ra rn rc] 29) [.slice xa xn xc', .slice xb xm xe] 24
    simpa only [World.size_alloc] using this
  have bw : Below w.heap.size w (((w.alloc (.cells #[.slice da dn dc, .slice db dm de] 24)).alloc (.cells #[.int .i64 rq, .int .i64 rs, .int .i64 rk, .int .i64 rz, .int .i64 ru, .int .i64 rt, .slice ra rn rc] 29)).alloc (.cells [.slice xa xn xc', .slice xb xm xe].toArray 24)) := by (repeat (first | exact Below.refl _ _ | assumption | refine Below.drew ?_ | refine below_drewN ?_ _ | refine belowA ?_ _ | refine belowT ?_ (by assumption) | refine Below.setCell ?_ (by first | (simp; done) | (simp; omega)) _))
  replace hd := hd.below bw
  replace hx := hx.below bw
  replace hc := RV.ok.below hc bw (Nat.le_refl _)
  go_enter Tryz.func3, Tryz.ntmps3
  go_wp2_with fail
  refine (HP.out _ (hE.below bw) hd hc).mono ?_
  rintro e w1 ⟨⟨⟨p1, a1, n1, c1, b1, m1, d1⟩, rfl, ep1, ok1, _⟩, hb1⟩
  obtain rfl : p1 = P1 := ep1
  replace xd := xd.below hb1
  replace xc := xc.below hb1
  replace xx := xx.below hb1
  replace hd := hd.below hb1
  replace hx := hx.below hb1
  replace hc := RV.ok.below hc hb1 (Nat.le_refl _)
  replace bw := belowT bw hb1
  clear hb1 HP
  dsimp only [KV.v]
  go_upto_region 2 with fail
  have y1 := Lay.made w1 [.slice a1 n1 c1, .slice b1 m1 d1] 24
  have hbx : Below (w1).heap.size (w1) ((w1).alloc (.cells [.slice a1 n1 c1, .slice b1 m1 d1].toArray 24)) := belowA (Below.refl _ _) _
  replace xd := xd.below hbx
  replace xc := xc.below hbx
  replace xx := xx.below hbx
  replace hd := hd.below hbx
  replace hx := hx.below hbx
  replace hc := RV.ok.below hc hbx (Nat.le_refl _)
  replace bw := belowT bw hbx
  replace ok1 := ok1.below hbx
  clear hbx
  generalize w1.alloc (.cells [.slice a1 n1 c1, .slice b1 m1 d1].toArray 24) = w2 at *
  generalize w1.heap.size = G1 at *
  have e0 := xd.cell 0 _ rfl
  have e1 := xd.cell 1 _ rfl
  have f0 := xd.ice 0
  have f1 := xd.ice 1
  go_wp2_with fail
  refine (HS.out _ (hE.below bw) hd).mono ?_
  rintro e w3 ⟨⟨⟨p2, a2, n2, c2, b2, m2, d2⟩, rfl, ep2, ok2, _⟩, hb3⟩
  obtain rfl : p2 = P2 := ep2
  replace xd := xd.below hb3
  replace xc := xc.below hb3
  replace xx := xx.below hb3
  replace hd := hd.below hb3
  replace hx := hx.below hb3
  replace hc := RV.ok.below hc hb3 (Nat.le_refl _)
  replace bw := belowT bw hb3
  replace y1 := y1.below hb3
  replace ok1 := ok1.below hb3
  clear hb3 HS e0 e1 f0 f1
  dsimp only [KV.v]
  go_upto_region 3 with fail
  have y2 := Lay.made w3 [.slice a2 n2 c2, .slice b2 m2 d2] 24
  have hbx : Below (w3).heap.size (w3) ((w3).alloc (.cells [.slice a2 n2 c2, .slice b2 m2 d2].toArray 24)) := belowA (Below.refl _ _) _
  replace xd := xd.below hbx
  replace xc := xc.below hbx
  replace xx := xx.below hbx
  replace hd := hd.below hbx
  replace hx := hx.below hbx
  replace hc := RV.ok.below hc hbx (Nat.le_refl _)
  replace bw := belowT bw hbx
  replace y1 := y1.below hbx
  replace ok1 := ok1.below hbx
  replace ok2 := ok2.below hbx
  clear hbx
  generalize w3.alloc (.cells [.slice a2 n2 c2, .slice b2 m2 d2].toArray 24) = w4 at *
  generalize w3.heap.size = G2 at *
  have e0 := xd.cell 0 _ rfl
  have e1 := xd.cell 1 _ rfl
  have f0 := xd.ice 0
  have f1 := xd.ice 1
  go_wp2_with fail
  refine (HC.out _ (hE.below bw) hd).mono ?_
  rintro e w5 ⟨⟨⟨p3, a3, n3, c3, b3, m3, d3⟩, rfl, ep3, ok3, _⟩, hb5⟩
  obtain rfl : p3 = P3 := ep3
  replace xd := xd.below hb5
  replace xc := xc.below hb5
  replace xx := xx.below hb5
  replace hd := hd.below hb5
  replace hx := hx.below hb5
  replace hc := RV.ok.below hc hb5 (Nat.le_refl _)
  replace bw := belowT bw hb5
  replace y1 := y1.below hb5
  replace y2 := y2.below hb5
  replace ok1 := ok1.below hb5
  replace ok2 := ok2.below hb5
  clear hb5 HC e0 e1 f0 f1
  dsimp only [KV.v]
  go_upto_region 4 with fail
  have y3 := Lay.made w5 [.slice a3 n3 c3, .slice b3 m3 d3] 24
  have hbx : Below (w5).heap.size (w5) ((w5).alloc (.cells [.slice a3 n3 c3, .slice b3 m3 d3].toArray 24)) := belowA (Below.refl _ _) _
  replace xd := xd.below hbx
  replace xc := xc.below hbx
  replace xx := xx.below hbx
  replace hd := hd.below hbx
  replace hx := hx.below hbx
  replace hc := RV.ok.below hc hbx (Nat.le_refl _)
  replace bw := belowT bw hbx
  replace y1 := y1.below hbx
  replace y2 := y2.below hbx
  replace ok1 := ok1.below hbx
  replace ok2 := ok2.below hbx
  replace ok3 := ok3.below hbx
  clear hbx
  generalize w5.alloc (.cells [.slice a3 n3 c3, .slice b3 m3 d3].toArray 24) = w6 at *
  generalize w5.heap.size = G3 at *
  have e0 := xd.cell 0 _ rfl
  have e1 := xd.cell 1 _ rfl
  have f0 := xd.ice 0
  have f1 := xd.ice 1
  go_wp2_with fail
  refine (HR.out _ (hE.below bw) hd).mono ?_
  rintro e w7 ⟨⟨⟨p4, a4, n4, c4, b4, m4, d4⟩, la, ln, lc, X4, rfl, ep4, ok4, _, R4, _, eX4⟩, hb7⟩
  obtain rfl : p4 = P4 := ep4
  obtain rfl : X4.map RV.p = L4 := eX4
  replace xd := xd.below hb7
  replace xc := xc.below hb7
  replace xx := xx.below hb7
  replace hd := hd.below hb7
  replace hx := hx.below hb7
  replace hc := RV.ok.below hc hb7 (Nat.le_refl _)
  replace bw := belowT bw hb7
  replace y1 := y1.below hb7
  replace y2 := y2.below hb7
  replace y3 := y3.below hb7
  replace ok1 := ok1.below hb7
  replace ok2 := ok2.below hb7
  replace ok3 := ok3.below hb7
  clear hb7 HR e0 e1 f0 f1
  dsimp only [KV.v]
  go_upto_region 5 with fail
  have y4 := Lay.made w7 [.slice a4 n4 c4, .slice b4 m4 d4] 24
  have hbx : Below (w7).heap.size (w7) ((w7).alloc (.cells [.slice a4 n4 c4, .slice b4 m4 d4].toArray 24)) := belowA (Below.refl _ _) _
  replace xd := xd.below hbx
  replace xc := xc.below hbx
  replace xx := xx.below hbx
  replace hd := hd.below hbx
  replace hx := hx.below hbx
  replace hc := RV.ok.below hc hbx (Nat.le_refl _)
  replace bw := belowT bw hbx
  replace y1 := y1.below hbx
  replace y2 := y2.below hbx
  replace y3 := y3.below hbx
  replace ok1 := ok1.below hbx
  replace ok2 := ok2.below hbx
  replace ok3 := ok3.below hbx
  replace ok4 := ok4.below hbx
  replace R4 := R4.below hbx (Nat.le_refl _)
  clear hbx
  generalize w7.alloc (.cells [.slice a4 n4 c4, .slice b4 m4 d4].toArray 24) = w8 at *
  generalize w7.heap.size = G4 at *
  have e0 := xd.cell 0 _ rfl
  have e1 := xd.cell 1 _ rfl
  have f0 := xd.ice 0
  have f1 := xd.ice 1
  go_wp2_with fail
  refine (HK2.out _ (hE.below bw) hd).mono ?_
  rintro e w9 ⟨rfl, hb9⟩
  replace xd := xd.below hb9
  replace xc := xc.below hb9
  replace xx := xx.below hb9
  replace hd := hd.below hb9
  replace hx := hx.below hb9
  replace hc := RV.ok.below hc hb9 (Nat.le_refl _)
  replace bw := belowT bw hb9
  replace y1 := y1.below hb9
  replace y2 := y2.below hb9
  replace y3 := y3.below hb9
  replace y4 := y4.below hb9
  replace ok1 := ok1.below hb9
  replace ok2 := ok2.below hb9
  replace ok3 := ok3.below hb9
  replace ok4 := ok4.below hb9
  replace R4 := R4.below hb9 (Nat.le_refl _)
  clear hb9 HK2 e0 e1 f0 f1
  go_upto_region 7 with fail
  have y5 := Lay.made w9 [.slice none 0 0, .slice none 0 0] 24
  have hbx : Below w9.heap.size w9 (w9.alloc (.cells [.slice none 0 0, .slice none 0 0].toArray 24)) := belowA (Below.refl _ _) _
  replace xd := xd.below hbx
  replace xc := xc.below hbx
  replace xx := xx.below hbx
  replace hd := hd.below hbx
  replace hx := hx.below hbx
  replace hc := RV.ok.below hc hbx (Nat.le_refl _)
  replace bw := belowT bw hbx
  replace y1 := y1.below hbx
  replace y2 := y2.below hbx
  replace y3 := y3.below hbx
  replace y4 := y4.below hbx
  replace ok1 := ok1.below hbx
  replace ok2 := ok2.below hbx
  replace ok3 := ok3.below hbx
  replace ok4 := ok4.below hbx
  replace R4 := R4.below hbx (Nat.le_refl _)
  clear hbx
  generalize w9.alloc (.cells [.slice none 0 0, .slice none 0 0].toArray 24) = wx at *
  generalize w9.heap.size = G5 at *
  have t1 : (ck != ck) = false := by simp
  have t2 : (sm != sm) = false := by simp
  have e0 := xd.cell 0 _ rfl
  have e1 := xd.cell 1 _ rfl
  have f0 := xd.ice 0
  have f1 := xd.ice 1
  have g0 := xx.cell 0 _ rfl
  have g1 := xx.cell 1 _ rfl
  have i0 := xx.ice 0
  have i1 := xx.ice 1
  go_cut [68] (fun v wz => v = .bool false ∧ Below wx.heap.size wx wz)
  case first =>
    go_region_held3 (fun w' => w'.cell? ⟨w.heap.size, 0, none⟩ = some (.slice da dn dc) ∧ w'.cell? ⟨w.heap.size, 1, none⟩ = some (.slice db dm de) ∧ w'.cell? ⟨w.heap.size + 2, 0, none⟩ = some (.slice xa xn xc') ∧ w'.cell? ⟨w.heap.size + 2, 1, none⟩ = some (.slice xb xm xe)) ((first | (go_simp; done) | (simp [*, World.cell?_alloc_at, World.cell?_alloc_past, World.cell?_alloc_some, World.cell?_setCell_far]; done))) (first
      | (go_at_call 9; refine (filed_c _ (by refine hE.below ?_; (repeat (first | exact Below.refl _ _ | assumption | refine Below.drew ?_ | refine below_drewN ?_ _ | refine belowA ?_ _ | refine belowT ?_ (by assumption) | refine Below.setCell ?_ (by first | (simp; done) | (simp; omega)) _)))).mono ?_; rintro e wz ⟨rfl, hbz⟩; (have s0 := keepc hbz (p := ⟨w.heap.size, 0, none⟩) (u := .slice da dn dc) (by (first | (go_simp; done) | (simp [*, World.cell?_alloc_at, World.cell?_alloc_past, World.cell?_alloc_some, World.cell?_setCell_far]; done)))); (have s1 := keepc hbz (p := ⟨w.heap.size, 1, none⟩) (u := .slice db dm de) (by (first | (go_simp; done) | (simp [*, World.cell?_alloc_at, World.cell?_alloc_past, World.cell?_alloc_some, World.cell?_setCell_far]; done)))); (have s2 := keepc hbz (p := ⟨w.heap.size + 2, 0, none⟩) (u := .slice xa xn xc') (by (first | (go_simp; done) | (simp [*, World.cell?_alloc_at, World.cell?_alloc_past, World.cell?_alloc_some, World.cell?_setCell_far]; done)))); (have s3 := keepc hbz (p := ⟨w.heap.size + 2, 1, none⟩) (u := .slice xb xm xe) (by (first | (go_simp; done) | (simp [*, World.cell?_alloc_at, World.cell?_alloc_past, World.cell?_alloc_some, World.cell?_setCell_far]; done)))))
      | (go_at_call 10; refine (HK1.out _ (by refine hE.below ?_; (repeat (first | exact Below.refl _ _ | assumption | refine Below.drew ?_ | refine below_drewN ?_ _ | refine belowA ?_ _ | refine belowT ?_ (by assumption) | refine Below.setCell ?_ (by first | (simp; done) | (simp; omega)) _))) (by refine KV.ok.below hd ?_; clear bw; (repeat (first | exact Below.refl _ _ | assumption | refine Below.drew ?_ | refine below_drewN ?_ _ | refine belowA ?_ _ | refine belowT ?_ (by assumption) | refine Below.setCell ?_ (by first | (simp; done) | (simp; omega)) _)))).mono ?_; rintro e wz ⟨rfl, hbz⟩; (have s0 := keepc hbz (p := ⟨w.heap.size, 0, none⟩) (u := .slice da dn dc) (by (first | (go_simp; done) | (simp [*, World.cell?_alloc_at, World.cell?_alloc_past, World.cell?_alloc_some, World.cell?_setCell_far]; done)))); (have s1 := keepc hbz (p := ⟨w.heap.size, 1, none⟩) (u := .slice db dm de) (by (first | (go_simp; done) | (simp [*, World.cell?_alloc_at, World.cell?_alloc_past, World.cell?_alloc_some, World.cell?_setCell_far]; done)))); (have s2 := keepc hbz (p := ⟨w.heap.size + 2, 0, none⟩) (u := .slice xa xn xc') (by (first | (go_simp; done) | (simp [*, World.cell?_alloc_at, World.cell?_alloc_past, World.cell?_alloc_some, World.cell?_setCell_far]; done)))); (have s3 := keepc hbz (p := ⟨w.heap.size + 2, 1, none⟩) (u := .slice xb xm xe) (by (first | (go_simp; done) | (simp [*, World.cell?_alloc_at, World.cell?_alloc_past, World.cell?_alloc_some, World.cell?_setCell_far]; done)))))
      | (go_at_call 11; refine (HM1.out _ (by refine KV.ok.below hd ?_; clear bw; (repeat (first | exact Below.refl _ _ | assumption | refine Below.drew ?_ | refine below_drewN ?_ _ | refine belowA ?_ _ | refine belowT ?_ (by assumption) | refine Below.setCell ?_ (by first | (simp; done) | (simp; omega)) _))) (by refine KV.ok.below hx ?_; clear bw; (repeat (first | exact Below.refl _ _ | assumption | refine Below.drew ?_ | refine below_drewN ?_ _ | refine belowA ?_ _ | refine belowT ?_ (by assumption) | refine Below.setCell ?_ (by first | (simp; done) | (simp; omega)) _)))).mono ?_; rintro e wz ⟨rfl, hbz⟩; (have s0 := keepc hbz (p := ⟨w.heap.size, 0, none⟩) (u := .slice da dn dc) (by (first | (go_simp; done) | (simp [*, World.cell?_alloc_at, World.cell?_alloc_past, World.cell?_alloc_some, World.cell?_setCell_far]; done)))); (have s1 := keepc hbz (p := ⟨w.heap.size, 1, none⟩) (u := .slice db dm de) (by (first | (go_simp; done) | (simp [*, World.cell?_alloc_at, World.cell?_alloc_past, World.cell?_alloc_some, World.cell?_setCell_far]; done)))); (have s2 := keepc hbz (p := ⟨w.heap.size + 2, 0, none⟩) (u := .slice xa xn xc') (by (first | (go_simp; done) | (simp [*, World.cell?_alloc_at, World.cell?_alloc_past, World.cell?_alloc_some, World.cell?_setCell_far]; done)))); (have s3 := keepc hbz (p := ⟨w.heap.size + 2, 1, none⟩) (u := .slice xb xm xe) (by (first | (go_simp; done) | (simp [*, World.cell?_alloc_at, World.cell?_alloc_past, World.cell?_alloc_some, World.cell?_setCell_far]; done)))))
      | (go_at_call 12; refine (HM2.out _ (by refine KV.ok.below hd ?_; clear bw; (repeat (first | exact Below.refl _ _ | assumption | refine Below.drew ?_ | refine below_drewN ?_ _ | refine belowA ?_ _ | refine belowT ?_ (by assumption) | refine Below.setCell ?_ (by first | (simp; done) | (simp; omega)) _))) (by refine KV.ok.below hx ?_; clear bw; (repeat (first | exact Below.refl _ _ | assumption | refine Below.drew ?_ | refine below_drewN ?_ _ | refine belowA ?_ _ | refine belowT ?_ (by assumption) | refine Below.setCell ?_ (by first | (simp; done) | (simp; omega)) _)))).mono ?_; rintro e wz ⟨rfl, hbz⟩; (have s0 := keepc hbz (p := ⟨w.heap.size, 0, none⟩) (u := .slice da dn dc) (by (first | (go_simp; done) | (simp [*, World.cell?_alloc_at, World.cell?_alloc_past, World.cell?_alloc_some, World.cell?_setCell_far]; done)))); (have s1 := keepc hbz (p := ⟨w.heap.size, 1, none⟩) (u := .slice db dm de) (by (first | (go_simp; done) | (simp [*, World.cell?_alloc_at, World.cell?_alloc_past, World.cell?_alloc_some, World.cell?_setCell_far]; done)))); (have s2 := keepc hbz (p := ⟨w.heap.size + 2, 0, none⟩) (u := .slice xa xn xc') (by (first | (go_simp; done) | (simp [*, World.cell?_alloc_at, World.cell?_alloc_past, World.cell?_alloc_some, World.cell?_setCell_far]; done)))); (have s3 := keepc hbz (p := ⟨w.heap.size + 2, 1, none⟩) (u := .slice xb xm xe) (by (first | (go_simp; done) | (simp [*, World.cell?_alloc_at, World.cell?_alloc_past, World.cell?_alloc_some, World.cell?_setCell_far]; done))))))
    all_goals
      go_wp2_with fail
      go_meet
      case rel => exact ⟨rfl, by clear bw; (repeat (first | exact Below.refl _ _ | assumption | refine Below.drew ?_ | refine below_drewN ?_ _ | refine belowA ?_ _ | refine belowT ?_ (by assumption) | refine Below.setCell ?_ (by first | (simp; done) | (simp; omega)) _))⟩
  case rest =>
    obtain ⟨rfl, hbc⟩ := hcut
    clear e0 e1 f0 f1 g0 g1 i0 i1 t1 t2 HM1 HM2 HK1
    replace xd := xd.below hbc
    replace xc := xc.below hbc
    replace xx := xx.below hbc
    replace hd := hd.below hbc
    replace hx := hx.below hbc
    replace hc := RV.ok.below hc hbc (Nat.le_refl _)
    replace bw := belowT bw hbc
    replace y1 := y1.below hbc
    replace y2 := y2.below hbc
    replace y3 := y3.below hbc
    replace y4 := y4.below hbc
    replace y5 := y5.below hbc
    replace ok1 := ok1.below hbc
    replace ok2 := ok2.below hbc
    replace ok3 := ok3.below hbc
    replace ok4 := ok4.below hbc
    replace R4 := R4.below hbc (Nat.le_refl _)
    clear hbc
    by_cases hck : ck = 0
    · subst hck
      have hnm := HNM.out rfl
      have HPO' := hide (fun w' hE h hr => HPO.out w' hE h hr rfl hnm)
      have HSY' := hide (fun w' hE h => HSY.out w' hE h rfl hnm)
      have HRC' := hide (fun w' hE h => HRC.out w' hE h rfl hnm)
      have HGO' := hide (fun h => HGO.out rfl h)
      have HGI' := hide (fun (j : Nat) (e : q = j) h => HGI.out j e rfl h)
      have he4 : E4 = 0 := HGR.out rfl
      subst he4
      clear HZP HZS HZC HZR HNM HPO HSY HRC HGO HGI HGR
      have e0 := xd.cell 0 _ rfl
      have e1 := xd.cell 1 _ rfl
      have f0 := xd.ice 0
      have f1 := xd.ice 1
      have o0 := xc.cell 0 _ rfl
      have o1 := xc.cell 1 _ rfl
      have o2 := xc.cell 2 _ rfl
      have o3 := xc.cell 3 _ rfl
      have o4 := xc.cell 4 _ rfl
      have o5 := xc.cell 5 _ rfl
      have o6 := xc.cell 6 _ rfl
      have v0 := xc.ice 0
      have v1 := xc.ice 1
      have v2 := xc.ice 2
      have v3 := xc.ice 3
      have v4 := xc.ice 4
      have v5 := xc.ice 5
      have v6 := xc.ice 6
      go_wp2_with fail
      refine (HPO'.out _ (hE.below bw) hd hc).mono ?_
      rintro e z1 ⟨⟨⟨p5, a5, n5, c5, b5, m5, d5⟩, rfl, ep5, ok5⟩, hbz⟩
      obtain rfl : p5 = p1 := ep5
      replace xd := xd.below hbz
      replace xc := xc.below hbz
      replace xx := xx.below hbz
      replace hd := hd.below hbz
      replace hx := hx.below hbz
      replace hc := RV.ok.below hc hbz (Nat.le_refl _)
      replace bw := belowT bw hbz
      replace y1 := y1.below hbz
      replace y2 := y2.below hbz
      replace y3 := y3.below hbz
      replace y4 := y4.below hbz
      replace y5 := y5.below hbz
      replace ok1 := ok1.below hbz
      replace ok2 := ok2.below hbz
      replace ok3 := ok3.below hbz
      replace ok4 := ok4.below hbz
      replace R4 := R4.below hbz (Nat.le_refl _)
      clear hbz HPO' e0 e1 f0 f1 o0 o1 o2 o3 o4 o5 o6 v0 v1 v2 v3 v4 v5 v6
      dsimp only [KV.v]
      go_upto_region 12 with fail
      have y6 := Lay.made z1 [.slice a5 n5 c5, .slice b5 m5 d5] 24
      have hbx : Below z1.heap.size z1 (z1.alloc (.cells [.slice a5 n5 c5, .slice b5 m5 d5].toArray 24)) := belowA (Below.refl _ _) _
      replace xd := xd.below hbx
      replace xc := xc.below hbx
      replace xx := xx.below hbx
      replace hd := hd.below hbx
      replace hx := hx.below hbx
      replace hc := RV.ok.below hc hbx (Nat.le_refl _)
      replace bw := belowT bw hbx
      replace y1 := y1.below hbx
      replace y2 := y2.below hbx
      replace y3 := y3.below hbx
      replace y4 := y4.below hbx
      replace y5 := y5.below hbx
      replace ok1 := ok1.below hbx
      replace ok2 := ok2.below hbx
      replace ok3 := ok3.below hbx
      replace ok4 := ok4.below hbx
      replace R4 := R4.below hbx (Nat.le_refl _)
      replace ok5 := ok5.below hbx
      clear hbx
      generalize z1.alloc (.cells [.slice a5 n5 c5, .slice b5 m5 d5].toArray 24) = z2 at *
      generalize z1.heap.size = G6 at *
      have e0 := xd.cell 0 _ rfl
      have e1 := xd.cell 1 _ rfl
      have f0 := xd.ice 0
      have f1 := xd.ice 1
      go_wp2_with fail
      refine (HSY'.out _ (hE.below bw) hd).mono ?_
      rintro e z3 ⟨⟨⟨p6, a6, n6, c6, b6, m6, d6⟩, rfl, ep6, ok6⟩, hbz⟩
      obtain rfl : p6 = p2 := ep6
      replace xd := xd.below hbz
      replace xc := xc.below hbz
      replace xx := xx.below hbz
      replace hd := hd.below hbz
      replace hx := hx.below hbz
      replace hc := RV.ok.below hc hbz (Nat.le_refl _)
      replace bw := belowT bw hbz
      replace y1 := y1.below hbz
      replace y2 := y2.below hbz
      replace y3 := y3.below hbz
      replace y4 := y4.below hbz
      replace y5 := y5.below hbz
      replace ok1 := ok1.below hbz
      replace ok2 := ok2.below hbz
      replace ok3 := ok3.below hbz
      replace ok4 := ok4.below hbz
      replace R4 := R4.below hbz (Nat.le_refl _)
      replace y6 := y6.below hbz
      replace ok5 := ok5.below hbz
      clear hbz HSY' e0 e1 f0 f1
      dsimp only [KV.v]
      go_upto_region 13 with fail
      have y7 := Lay.made z3 [.slice a6 n6 c6, .slice b6 m6 d6] 24
      have hbx : Below z3.heap.size z3 (z3.alloc (.cells [.slice a6 n6 c6, .slice b6 m6 d6].toArray 24)) := belowA (Below.refl _ _) _
      replace xd := xd.below hbx
      replace xc := xc.below hbx
      replace xx := xx.below hbx
      replace hd := hd.below hbx
      replace hx := hx.below hbx
      replace hc := RV.ok.below hc hbx (Nat.le_refl _)
      replace bw := belowT bw hbx
      replace y1 := y1.below hbx
      replace y2 := y2.below hbx
      replace y3 := y3.below hbx
      replace y4 := y4.below hbx
      replace y5 := y5.below hbx
      replace ok1 := ok1.below hbx
      replace ok2 := ok2.below hbx
      replace ok3 := ok3.below hbx
      replace ok4 := ok4.below hbx
      replace R4 := R4.below hbx (Nat.le_refl _)
      replace y6 := y6.below hbx
      replace ok5 := ok5.below hbx
      replace ok6 := ok6.below hbx
      clear hbx
      generalize z3.alloc (.cells [.slice a6 n6 c6, .slice b6 m6 d6].toArray 24) = z4 at *
      generalize z3.heap.size = G7 at *
      have e0 := xd.cell 0 _ rfl
      have e1 := xd.cell 1 _ rfl
      have f0 := xd.ice 0
      have f1 := xd.ice 1
      go_wp2_with fail
      refine (HRC'.out _ (hE.below bw) hd).mono ?_
      rintro e z5 ⟨⟨⟨p7, a7, n7, c7, b7, m7, d7⟩, lb, lm, ld, X7, rfl, ep7, ok7, R7, eX7⟩, hbz⟩
      obtain rfl : p7 = p4 := ep7
      replace xd := xd.below hbz
      replace xc := xc.below hbz
      replace xx := xx.below hbz
      replace hd := hd.below hbz
      replace hx := hx.below hbz
      replace hc := RV.ok.below hc hbz (Nat.le_refl _)
      replace bw := belowT bw hbz
      replace y1 := y1.below hbz
      replace y2 := y2.below hbz
      replace y3 := y3.below hbz
      replace y4 := y4.below hbz
      replace y5 := y5.below hbz
      replace ok1 := ok1.below hbz
      replace ok2 := ok2.below hbz
      replace ok3 := ok3.below hbz
      replace ok4 := ok4.below hbz
      replace R4 := R4.below hbz (Nat.le_refl _)
      replace y6 := y6.below hbz
      replace y7 := y7.below hbz
      replace ok5 := ok5.below hbz
      replace ok6 := ok6.below hbz
      clear hbz HRC' e0 e1 f0 f1
      dsimp only [KV.v] at eX7 ⊢
      have hEq := fun w' h1 h2 => EqS_c la lb ln lm lc ld X4 X7 w' h1 h2
      rw [sameRs_t eX7.symm] at hEq
      have HEq := hide hEq
      clear hEq eX7
      go_upto_region 14 with fail
      have y8 := Lay.made z5 [.slice a7 n7 c7, .slice b7 m7 d7] 24
      have hbx : Below z5.heap.size z5 (z5.alloc (.cells [.slice a7 n7 c7, .slice b7 m7 d7].toArray 24)) := belowA (Below.refl _ _) _
      replace xd := xd.below hbx
      replace xc := xc.below hbx
      replace xx := xx.below hbx
      replace hd := hd.below hbx
      replace hx := hx.below hbx
      replace hc := RV.ok.below hc hbx (Nat.le_refl _)
      replace bw := belowT bw hbx
      replace y1 := y1.below hbx
      replace y2 := y2.below hbx
      replace y3 := y3.below hbx
      replace y4 := y4.below hbx
      replace y5 := y5.below hbx
      replace ok1 := ok1.below hbx
      replace ok2 := ok2.below hbx
      replace ok3 := ok3.below hbx
      replace ok4 := ok4.below hbx
      replace R4 := R4.below hbx (Nat.le_refl _)
      replace y6 := y6.below hbx
      replace y7 := y7.below hbx
      replace ok5 := ok5.below hbx
      replace ok6 := ok6.below hbx
      replace ok7 := ok7.below hbx
      replace R7 := R7.below hbx (Nat.le_refl _)
      clear hbx xc hc
      generalize z5.alloc (.cells [.slice a7 n7 c7, .slice b7 m7 d7].toArray 24) = z6 at *
      generalize z5.heap.size = G8 at *
      have t1 : ∀ z : Int, (z != z) = false := fun z => by simp
      have e0 := y1.cell 0 _ rfl
      have e1 := y1.cell 1 _ rfl
      have f0 := y1.ice 0
      have f1 := y1.ice 1
      have g0 := y6.cell 0 _ rfl
      have g1 := y6.cell 1 _ rfl
      have i0 := y6.ice 0
      have i1 := y6.ice 1
      go_wp2_with fail
      refine (SD_self _ _ _ _ _ _ _ _ _ _ _ _ _ _ ok1 ok5).mono ?_
      rintro e v1 ⟨rfl, hbq⟩
      clear e0 e1 f0 f1 g0 g1 i0 i1
      replace xd := xd.below hbq
      replace hd := hd.below hbq
      replace y2 := y2.below hbq
      replace y3 := y3.below hbq
      replace y4 := y4.below hbq
      replace y5 := y5.below hbq
      replace y7 := y7.below hbq
      replace y8 := y8.below hbq
      replace ok2 := ok2.below hbq
      replace ok3 := ok3.below hbq
      replace ok4 := ok4.below hbq
      replace ok6 := ok6.below hbq
      replace ok7 := ok7.below hbq
      replace R4 := R4.below hbq (Nat.le_refl _)
      replace R7 := R7.below hbq (Nat.le_refl _)
      replace bw := belowT bw hbq
      clear hbq y1 ok1 y6 ok5
      have e0 := y2.cell 0 _ rfl
      have e1 := y2.cell 1 _ rfl
      have f0 := y2.ice 0
      have f1 := y2.ice 1
      have g0 := y7.cell 0 _ rfl
      have g1 := y7.cell 1 _ rfl
      have i0 := y7.ice 0
      have i1 := y7.ice 1
      go_wp2_with fail
      refine (SD_self _ _ _ _ _ _ _ _ _ _ _ _ _ _ ok2 ok6).mono ?_
      rintro e v2 ⟨rfl, hbq⟩
      clear e0 e1 f0 f1 g0 g1 i0 i1
      replace xd := xd.below hbq
      replace hd := hd.below hbq
      replace y3 := y3.below hbq
      replace y4 := y4.below hbq
      replace y5 := y5.below hbq
      replace y8 := y8.below hbq
      replace ok3 := ok3.below hbq
      replace ok4 := ok4.below hbq
      replace ok7 := ok7.below hbq
      replace R4 := R4.below hbq (Nat.le_refl _)
      replace R7 := R7.below hbq (Nat.le_refl _)
      replace bw := belowT bw hbq
      clear hbq y2 ok2 y7 ok6
      have e0 := y4.cell 0 _ rfl
      have e1 := y4.cell 1 _ rfl
      have f0 := y4.ice 0
      have f1 := y4.ice 1
      have g0 := y8.cell 0 _ rfl
      have g1 := y8.cell 1 _ rfl
      have i0 := y8.ice 0
      have i1 := y8.ice 1
      go_wp2_with fail
      refine (SD_self _ _ _ _ _ _ _ _ _ _ _ _ _ _ ok4 ok7).mono ?_
      rintro e v3 ⟨rfl, hbq⟩
      clear e0 e1 f0 f1 g0 g1 i0 i1
      replace xd := xd.below hbq
      replace hd := hd.below hbq
      replace y3 := y3.below hbq
      replace y5 := y5.below hbq
      replace ok3 := ok3.below hbq
      replace R4 := R4.below hbq (Nat.le_refl _)
      replace R7 := R7.below hbq (Nat.le_refl _)
      replace bw := belowT bw hbq
      clear hbq y4 ok4 y8 ok7
      go_wp2_with fail
      refine (HEq.out _ R4 R7).mono ?_
      rintro e v4 ⟨rfl, hbq⟩
      replace xd := xd.below hbq
      replace hd := hd.below hbq
      replace y3 := y3.below hbq
      replace y5 := y5.below hbq
      replace ok3 := ok3.below hbq
      replace bw := belowT bw hbq
      clear hbq R4 R7 HEq
      by_cases hout : q < 0 ∨ (dm : Int) < q
      · obtain ⟨hp3, he3⟩ := Prod.mk.inj (HGO'.out hout)
        subst hp3
        subst he3
        have okz : ∀ w', KV.ok w' ⟨zeroK, none, 0, 0, none, 0, 0⟩ := KV.zero_ok
        have k1 := xd.cell 1 _ rfl
        clear HGO' HGI'
        by_cases hq0 : q < 0
        · have hq00 := hq0
          have e0 := y3.cell 0 _ rfl
          have e1 := y3.cell 1 _ rfl
          have f0 := y3.ice 0
          have f1 := y3.ice 1
          have g0 := y5.cell 0 _ rfl
          have g1 := y5.cell 1 _ rfl
          have i0 := y5.ice 0
          have i1 := y5.ice 1
          go_wp2_with fail
          refine (SD_self _ _ _ _ _ _ _ _ _ _ _ _ _ _ ok3 (okz _)).mono ?_
          rintro e v5 ⟨rfl, hbq⟩
          clear e0 e1 f0 f1 g0 g1 i0 i1
          go_wp2
          go_ret
          exact ⟨rfl, belowT bw hbq⟩
        · have hq1 : (dm : Int) < q := hout.resolve_left hq0
          clear hout
          have e0 := y3.cell 0 _ rfl
          have e1 := y3.cell 1 _ rfl
          have f0 := y3.ice 0
          have f1 := y3.ice 1
          have g0 := y5.cell 0 _ rfl
          have g1 := y5.cell 1 _ rfl
          have i0 := y5.ice 0
          have i1 := y5.ice 1
          go_wp2_with fail
          refine (SD_self _ _ _ _ _ _ _ _ _ _ _ _ _ _ ok3 (okz _)).mono ?_
          rintro e v5 ⟨rfl, hbq⟩
          clear e0 e1 f0 f1 g0 g1 i0 i1
          go_wp2
          go_ret
          exact ⟨rfl, belowT bw hbq⟩
      · obtain ⟨j, hj⟩ : ∃ j : Nat, q = j := ⟨q.toNat, by omega⟩
        have hjm : j ≤ dm := by omega
        obtain ⟨hp3, he3⟩ := Prod.mk.inj (HGI'.out j hj hjm)
        subst hp3
        subst he3
        subst hj
        clear HGO' HGI' hout
        have hmd := Cel.le hd.w
        have hdm := Cel.max hd.w
        dsimp only at hmd hdm
        have tt : KV.ok v4 ⟨⟨pd.s, pd.w.take j⟩, da, dn, dc, db, j, de⟩ := ⟨hd.s, hd.w.take hjm⟩
        have hj0 : (0 : Int) ≤ (j : Int) := by omega
        have hj1 : (j : Int) ≤ (de : Int) := by omega
        have hj2 : j ≤ de := by omega
        have hj3 : ¬ ((j : Int) < 0) := by omega
        have hj4 : ¬ ((de : Int) < (j : Int)) := by omega
        have hj5 : ¬ ((dm : Int) < (j : Int)) := by omega
        have e0 := xd.cell 0 _ rfl
        have e1 := xd.cell 1 _ rfl
        have f0 := xd.ice 0
        have f1 := xd.ice 1
        have g0 := y3.cell 0 _ rfl
        have g1 := y3.cell 1 _ rfl
        have i0 := y3.ice 0
        have i1 := y3.ice 1
        go_upto_region 18 with fail
        go_region_held3 (fun w' => w'.cell? ⟨w.heap.size, 0, none⟩ = some (.slice da dn dc) ∧ w'.cell? ⟨w.heap.size, 1, none⟩ = some (.slice db dm de) ∧ w'.cell? ⟨G3, 0, none⟩ = some (.slice a3 n3 c3) ∧ w'.cell? ⟨G3, 1, none⟩ = some (.slice b3 m3 d3)) ((first | (go_simp; done) | (simp [*, World.cell?_alloc_at, World.cell?_alloc_past, World.cell?_alloc_some, World.cell?_setCell_far]; done))) (first
          | (go_at_call 12; refine (SD_self ⟨pd.s, pd.w.take j⟩ a3 n3 c3 b3 m3 d3 da dn dc db j de _ (by refine KV.ok.below ok3 ?_; clear bw; (repeat (first | exact Below.refl _ _ | assumption | refine Below.drew ?_ | refine below_drewN ?_ _ | refine belowA ?_ _ | refine belowT ?_ (by assumption) | refine Below.setCell ?_ (by first | (simp; done) | (simp; omega)) _))) (by refine KV.ok.below tt ?_; clear bw; (repeat (first | exact Below.refl _ _ | assumption | refine Below.drew ?_ | refine below_drewN ?_ _ | refine belowA ?_ _ | refine belowT ?_ (by assumption) | refine Below.setCell ?_ (by first | (simp; done) | (simp; omega)) _)))).mono ?_; rintro e v5 ⟨rfl, hb5⟩; (have s0 := keepc hb5 (p := ⟨w.heap.size, 0, none⟩) (u := .slice da dn dc) (by (first | (go_simp; done) | (simp [*, World.cell?_alloc_at, World.cell?_alloc_past, World.cell?_alloc_some, World.cell?_setCell_far]; done)))); (have s1 := keepc hb5 (p := ⟨w.heap.size, 1, none⟩) (u := .slice db dm de) (by (first | (go_simp; done) | (simp [*, World.cell?_alloc_at, World.cell?_alloc_past, World.cell?_alloc_some, World.cell?_setCell_far]; done)))); (have s2 := keepc hb5 (p := ⟨G3, 0, none⟩) (u := .slice a3 n3 c3) (by (first | (go_simp; done) | (simp [*, World.cell?_alloc_at, World.cell?_alloc_past, World.cell?_alloc_some, World.cell?_setCell_far]; done)))); (have s3 := keepc hb5 (p := ⟨G3, 1, none⟩) (u := .slice b3 m3 d3) (by (first | (go_simp; done) | (simp [*, World.cell?_alloc_at, World.cell?_alloc_past, World.cell?_alloc_some, World.cell?_setCell_far]; done))))))
        go_wp2
        go_ret
        exact ⟨rfl, bw.trans (Below.mono (show Below v4.heap.size v4 v5 by clear bw; (repeat (first | exact Below.refl _ _ | assumption | refine Below.drew ?_ | refine below_drewN ?_ _ | refine belowA ?_ _ | refine belowT ?_ (by assumption) | refine Below.setCell ?_ (by first | (simp; done) | (simp; omega)) _))) bw.size)⟩
    · have hcb : (ck != 0) = true := by simpa using hck
      obtain ⟨rfl, rfl⟩ := Prod.mk.inj (HZP.out hck)
      obtain ⟨rfl, rfl⟩ := Prod.mk.inj (HZS.out hck)
      obtain ⟨rfl, rfl⟩ := Prod.mk.inj (HZC.out hck)
      obtain ⟨rfl, h2⟩ := Prod.mk.inj (HZR.out hck)
      obtain ⟨h3, rfl⟩ := Prod.mk.inj h2
      have hX0 : X4 = [] := by simpa using h3
      subst hX0
      obtain rfl : ln = 0 := R4.len.symm
      clear h2 h3 HZP HZS HZC HZR HGR HGO HGI HNM HPO HSY HRC xd xc hd hc
      have okz : ∀ w', KV.ok w' ⟨zeroK, none, 0, 0, none, 0, 0⟩ := KV.zero_ok
      have e0 := y1.cell 0 _ rfl
      have e1 := y1.cell 1 _ rfl
      have f0 := y1.ice 0
      have f1 := y1.ice 1
      have g0 := y5.cell 0 _ rfl
      have g1 := y5.cell 1 _ rfl
      have i0 := y5.ice 0
      have i1 := y5.ice 1
      go_wp2_with fail
      refine (SD_self _ _ _ _ _ _ _ _ _ _ _ _ _ _ ok1 (okz _)).mono ?_
      rintro e v1 ⟨rfl, hbq⟩
      clear e0 e1 f0 f1 g0 g1 i0 i1
      replace y2 := y2.below hbq
      replace y3 := y3.below hbq
      replace y4 := y4.below hbq
      replace y5 := y5.below hbq
      replace ok2 := ok2.below hbq
      replace ok3 := ok3.below hbq
      replace ok4 := ok4.below hbq
      replace bw := belowT bw hbq
      clear hbq y1 ok1
      have e0 := y2.cell 0 _ rfl
      have e1 := y2.cell 1 _ rfl
      have f0 := y2.ice 0
      have f1 := y2.ice 1
      have g0 := y5.cell 0 _ rfl
      have g1 := y5.cell 1 _ rfl
      have i0 := y5.ice 0
      have i1 := y5.ice 1
      go_wp2_with fail
      refine (SD_self _ _ _ _ _ _ _ _ _ _ _ _ _ _ ok2 (okz _)).mono ?_
      rintro e v2 ⟨rfl, hbq⟩
      clear e0 e1 f0 f1 g0 g1 i0 i1
      replace y3 := y3.below hbq
      replace y4 := y4.below hbq
      replace y5 := y5.below hbq
      replace ok3 := ok3.below hbq
      replace ok4 := ok4.below hbq
      replace bw := belowT bw hbq
      clear hbq y2 ok2
      have e0 := y3.cell 0 _ rfl
      have e1 := y3.cell 1 _ rfl
      have f0 := y3.ice 0
      have f1 := y3.ice 1
      have g0 := y5.cell 0 _ rfl
      have g1 := y5.cell 1 _ rfl
      have i0 := y5.ice 0
      have i1 := y5.ice 1
      go_wp2_with fail
      refine (SD_self _ _ _ _ _ _ _ _ _ _ _ _ _ _ ok3 (okz _)).mono ?_
      rintro e v3 ⟨rfl, hbq⟩
      clear e0 e1 f0 f1 g0 g1 i0 i1
      replace y4 := y4.below hbq
      replace y5 := y5.below hbq
      replace ok4 := ok4.below hbq
      replace bw := belowT bw hbq
      clear hbq y3 ok3
      have e0 := y4.cell 0 _ rfl
      have e1 := y4.cell 1 _ rfl
      have f0 := y4.ice 0
      have f1 := y4.ice 1
      have g0 := y5.cell 0 _ rfl
      have g1 := y5.cell 1 _ rfl
      have i0 := y5.ice 0
      have i1 := y5.ice 1
      go_wp2_with fail
      refine (SD_self _ _ _ _ _ _ _ _ _ _ _ _ _ _ ok4 (okz _)).mono ?_
      rintro e v4 ⟨rfl, hbq⟩
      clear e0 e1 f0 f1 g0 g1 i0 i1
      replace bw := belowT bw hbq
      clear hbq
      go_wp2
      go_ret
      exact ⟨rfl, bw⟩

end Go.Proofs.YtcbgkjmcdjpgcaaGreatDoor
