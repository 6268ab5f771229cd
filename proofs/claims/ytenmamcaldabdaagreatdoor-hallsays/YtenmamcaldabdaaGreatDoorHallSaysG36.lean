/- The contract of the document's own nexted; no condition but that hall and record are right. -/
import Derived.Test.YtenmamcaldabdaaGreatDoorHallSaysG32
import Derived.Test.YtenmamcaldabdaaGreatDoorHallSaysG33
import Derived.Test.YtenmamcaldabdaaGreatDoorHallSaysG35
import Derived.Test.YtenmamcaldabdaaGreatDoorHallSaysG20
import Derived.Shelf.Strconv.Atoi
import Derived.Shelf.Strconv.Itoa0
import Derived.Shelf.Strconv.Itoa1
import Derived.Shelf.LaysM
import Derived.Shelf.Strconv.Itoa2
import Derived.Shelf.Strconv.Itoa3
import Derived.Shelf.Strconv.AtoiErrFast
import Derived.Shelf.Strconv.ParseIntEmpty
import Derived.Shelf.Strconv.AtoiFail
import Derived.Shelf.Strconv.Clone
import Derived.Shelf.Strconv.SyntaxError
import Derived.Shelf.LaysC
import Derived.Shelf.Strconv.ToError
import Derived.Shelf.Strconv.AtoiErr
import Derived.Shelf.Strconv.ErrVar
import Derived.Shelf.Strconv.Lower
import Derived.Shelf.Strconv.ParseUint10
import Derived.Shelf.Strconv.ParseUint10Empty
import Derived.Shelf.Strconv.ParseUint10Any
import Derived.Shelf.Strconv.ParseInt10
import Derived.Shelf.Strconv.AtoiLong
import Derived.Shelf.Strconv.AtoiInnerAll
import Derived.Shelf.Strconv.RangeError
import Derived.Shelf.Strconv.ToErrorRange
import Derived.Shelf.Strconv.AtoiAll
import Derived.Shelf.Strconv.ErrVarAll
import Derived.Shelf.Strconv.ParseUintEmpty
import Derived.Shelf.Strconv.ParseUint10b64
import Derived.Shelf.Strconv.ParseUint10b32
import Derived.Shelf.Strconv.ParseUint10b16
import Derived.Shelf.Strconv.ParseUint10b8
import Derived.Shelf.Strconv.ParseUint10At
import Derived.Shelf.Strconv.ParseInt10At64
import Derived.Shelf.Strconv.ParseInt10At32
import Derived.Shelf.Strconv.ParseInt10At16
import Derived.Shelf.Strconv.ParseInt10At8
import Derived.Shelf.Strconv.ParseInt10All
import Derived.Shelf.Strings.Search1
import Derived.Shelf.Strings.Search2
import Derived.Shelf.Strings.Search3
import Derived.Shelf.Strings.Cut
import Derived.Shelf.Strings.Count
import Derived.Shelf.Strings.Shaped
import Derived.Shelf.Strings.Split
import Derived.Shelf.Strings.SplitShaped
import Derived.Shelf.Unicode.DecodeSlow
import Derived.Shelf.Slices.Turned
import Derived.Shelf.Slices.Equal
import Derived.Shelf.Bytes.SlIndexSmall
import Derived.Shelf.Bytes.SlIndexAt
import Derived.Shelf.Slices.Empties2
import Derived.Shelf.Bytes.SlSearch0
import Derived.Shelf.Bytes.SlSearch1
import Derived.Shelf.Bytes.SlSearch2
import Derived.Shelf.Bytes.SlIndexWhole
import Derived.Shelf.Bytes.SlEqualAll
import Derived.Ground.SlbtProg
import Derived.Shelf.Bytes.SlCut
import Derived.Shelf.Bytes.Small
import Derived.Shelf.Bytes.IndexByte
import Derived.Test.YtenmamcaldabdaaGreatDoorProg
namespace Go.Proofs.YtenmamcaldabdaaGreatDoor
open Go.RowKit
set_option linter.unusedVariables false
set_option maxRecDepth 100000
set_option linter.unusedSimpArgs false

/-- What nexted leaves: what was there may be shared. -/
def Nexteds (h : HV) (r : PH × PA × Int) (w : World) (e : Ending) (w' : World) : Prop :=
  (∃ (h' : HV) (a' : AV), e = .returned (.tuple #[h'.v, a'.v, .int .i64 r.2.2]) ∧ h'.ok w' ∧ a'.ok w' ∧ (∀ R, R < w.heap.size → h.off R → h'.off R ∧ a'.off R) ∧ h'.p = r.1 ∧ a'.p = r.2.1) ∧ Below w.heap.size w w'

theorem Lasts.of_cap {w : World} {g : Nat} {L : List LV} (h : Lay w g (lcells L)) (hok : ∀ y ∈ L, y.ok w) {n c : Nat} (hn : L.length = n) (hc : n ≤ c) (hm : c ≤ 9223372036854775807) : Lasts w (some ⟨g, 0, none⟩) n c L := by
  refine ⟨hn, hc, hm, fun e => (by cases e), .inr ⟨g, 0, rfl, h.lt, fun i y hy j v hv => ?_⟩, hok⟩
  have := h.cell _ _ (lcells_get L i y hy j v hv)
  simpa using this

theorem Lasts.rows {w : World} {b off n c : Nat} {L : List LV} (h : Lasts w (some ⟨b, off, none⟩) n c L) (hn : 0 < n) : ∀ i y, L[i]? = some y → ∀ j v, y.cells[j]? = some v → w.cell? ⟨b, off + i * 4 + j, none⟩ = some v := by
  obtain ⟨b', off', e, _, hc⟩ := h.row.resolve_left (by omega)
  cases e
  exact hc
theorem CloneL_k (b off c n : Nat) (L : List LV) (w : World) (h : Lasts w (some ⟨b, off, none⟩) n c L) (hn : 0 < n) (hn2 : n ≤ 1000000) :
    Calls Tryz.prog 58 #[.slice (some ⟨b, off, none⟩) n c] w fun e w' => (∃ g cap, e = .returned (.slice (some ⟨g, 0, none⟩) n cap) ∧ Lay w' g (lcells L) ∧ w.heap.size ≤ g ∧ n ≤ cap ∧ cap ≤ 9223372036854775807) ∧ Below w.heap.size w w' := CloneL_c b off c n L w h hn hn2 (h.rows hn)

set_option maxRecDepth 100000 in
set_option maxHeartbeats 4000000 in
theorem nexted_c (h : HV) (r : RV) (w : World) (hk : h.ok w) (hr : r.ok w) (hch : checkH h.p = 0) (hcr : checkR r.p = 0) : Calls Tryz.prog 29 #[h.v, r.v] w fun e w' => Nexteds h (nextH h.p r.p) w e w' := by
  obtain ⟨hcd, h3, hys, -⟩ := hall_right hk hch
  obtain ⟨j, hj, hj3⟩ := rec_who hcr
  obtain ⟨-, -, hcc⟩ := checkR_facts hcr
  obtain ⟨b, off, y, ha, hy, hyk, hyc⟩ := hk.l.at (i := j) (by omega)
  obtain ⟨hys0, hyn⟩ := hys y (List.mem_of_getElem? hy)
  have hla : lastH h.p r.p.w = y.p := by
    rw [hj]
    have : h.p.l[j]? = some y.p := by show (h.L.map LV.p)[j]? = _; rw [List.getElem?_map, hy]; rfl
    simp [lastH, List.getD, this]
  have HN : Hid (nextH h.p r.p = if r.p.s = y.s then (h.p, y.x.p, 0) else if r.p.s ≠ y.s + 1 then (zeroH, zeroA, 6) else (⟨(doneD h.d.p j r.p.c).1, (h.L.map LV.p).set j ⟨r.p.s, (doneD h.d.p j r.p.c).2⟩⟩, (doneD h.d.p j r.p.c).2, 0)) := hide (by
    unfold nextH
    rw [if_neg (by simp [hch]), if_neg (by simp [hcr]), hla, hj, Int.toNat_natCast]
    rfl)
  have HD := hide (fun w' h1 h2 => Done_f h.d j r.a r.n r.c r.p.c w' h1 h2 hcd hj3 hcc)
  clear hcd hcc hch hcr hla hys
  generalize nextH h.p r.p = nh at *
  obtain ⟨x0, x1, x2, x3, bw⟩ := next_boxes w h.cells r.cells 30 34 38
  have hoR : ∀ R, w.heap.size ≤ R → HV.off R h := fun R hR => hk.off hR
  have hok := hk.below bw (Nat.le_refl _)
  have hrk := RV.ok.below hr bw (Nat.le_refl _)
  rw [show h.v = .agg h.cells.toArray from rfl, show r.v = .agg r.cells.toArray from rfl] at *
  generalize hdd : doneD h.d.p j r.p.c = dd at *
  obtain ⟨⟨za, zn, zc, Z, ka, kn, kc, bk, bh, bt⟩, a, n, c, L⟩ := h
  obtain ⟨⟨rq, rs, ⟨k1, z1, u1, t1, d1⟩⟩, ra, rn, rc⟩ := r
  dsimp only [HV.cells, RV.cells, DV.v, cmdV] at *
  clear hdd
  subst hj
  subst h3
  subst ha
  have hlen := hk.l.len
  dsimp only at hlen
  have hyc' : ∀ i v, y.cells[i]? = some v → World.cell? _ ⟨b, off + j * 4 + i, none⟩ = some v := fun i v hv => keepc bw (hyc i v hv)
  have y0 := hyc' 0 _ rfl
  have y1 := hyc' 1 _ rfl
  have y2 := hyc' 2 _ rfl
  have y3 := hyc' 3 _ rfl
  rw [Nat.add_zero] at y0
  have hmk := List.mem_of_getElem? hy
  have HY := hide hy
  have hcl := hk.l.le
  have hcm := hk.l.max
  dsimp only at hcl hcm
  clear hy hyc hyc'
  obtain ⟨ys, ⟨ye, yt, ya, yn, yc, yl⟩⟩ := y
  dsimp only at *
  have iy := AV.ok.below hyk bw (Nat.le_refl _)
  have hj' : (j : Int) < 3 := by omega
  have hjz : ¬ ((j : Int) < 0) := by omega
  have hwrap : IntKind.i64.wrap (ys + 1) = ys + 1 := IntWalk.i64_in _ ⟨by omega, by omega⟩
  have q0 := x0.cell 0 _ rfl
  have q1 := x0.cell 1 _ rfl
  have q2 := x0.cell 2 _ rfl
  have q3 := x0.cell 3 _ rfl
  have q4 := x0.cell 4 _ rfl
  have p0 := x0.ice 0
  have p1 := x0.ice 1
  have p2 := x0.ice 2
  have p3 := x0.ice 3
  have p4 := x0.ice 4
  have r0 := x1.cell 0 _ rfl
  have r1 := x1.cell 1 _ rfl
  have hs3 := x3.lt
  go_enter Tryz.func29, Tryz.ntmps29
  go_upto_region 1 with fail
  generalize ((((w.alloc (.cells #[.slice za zn zc, .slice ka kn kc, .int .i64 bh, .int .i64 bt, .slice (some ⟨b, off, none⟩) 3 c] 30)).alloc (.cells #[.int .i64 j, .int .i64 rs, .int .i64 k1, .int .i64 z1, .int .i64 u1, .int .i64 t1, .slice ra rn rc] 34)).alloc (.cells #[.slice none 0 0, .slice none 0 0, .int .i64 0, .int .i64 0, .slice none 0 0] 30)).alloc (.cells #[.int .i64 0, .int .i64 0, .slice none 0 0] 38)) = w1 at *
  go_upto_region 2 with fail
  have xx := Lay.made w1 [.int .i64 ys, .int .i64 ye, .int .i64 yt, .slice ya yn yc] 72
  have bn := belowA (Below.refl _ w1) (.cells [.int .i64 ys, .int .i64 ye, .int .i64 yt, .slice ya yn yc].toArray 72)
  replace x0 := x0.below bn
  replace x1 := x1.below bn
  replace x2 := x2.below bn
  replace x3 := x3.below bn
  replace hok := hok.below bn (Nat.le_refl _)
  replace hrk := RV.ok.below hrk bn (Nat.le_refl _)
  replace iy := AV.ok.below iy bn (Nat.le_refl _)
  replace bw := belowT bw bn
  clear bn q0 q1 q2 q3 q4 p0 p1 p2 p3 p4 r0 r1 y0 y1 y2 y3
  generalize w1.heap.size = G at *
  generalize w1.alloc (.cells [.int .i64 ys, .int .i64 ye, .int .i64 yt, .slice ya yn yc].toArray 72) = w2 at *
  have q0 := x0.cell 0 _ rfl
  have q1 := x0.cell 1 _ rfl
  have q2 := x0.cell 2 _ rfl
  have q3 := x0.cell 3 _ rfl
  have q4 := x0.cell 4 _ rfl
  have p0 := x0.ice 0
  have p1 := x0.ice 1
  have p2 := x0.ice 2
  have p3 := x0.ice 3
  have p4 := x0.ice 4
  have r0 := x1.cell 0 _ rfl
  have r1 := x1.cell 1 _ rfl
  have y0 := xx.cell 0 _ rfl
  have y1 := xx.cell 1 _ rfl
  have y2 := xx.cell 2 _ rfl
  have y3 := xx.cell 3 _ rfl
  have hs2 := x3.lt
  by_cases e1 : rs = ys
  · have tq : (rs == ys) = true := by simp [e1]
    have E1 := hide e1
    clear e1
    have okh := hok
    have oka : AV.ok w2 ⟨ye, yt, ya, yn, yc, yl⟩ := iy
    have offh : ∀ R, R ≤ w.heap.size + 1 + 1 + 1 → HV.off R ⟨⟨za, zn, zc, Z, ka, kn, kc, bk, bh, bt⟩, some ⟨b, off, none⟩, 3, c, L⟩ → HV.off R ⟨⟨za, zn, zc, Z, ka, kn, kc, bk, bh, bt⟩, some ⟨b, off, none⟩, 3, c, L⟩ := fun R _ ho => ho
    have offa : ∀ R, R ≤ w.heap.size + 1 + 1 + 1 → HV.off R ⟨⟨za, zn, zc, Z, ka, kn, kc, bk, bh, bt⟩, some ⟨b, off, none⟩, 3, c, L⟩ → AV.off R ⟨ye, yt, ya, yn, yc, yl⟩ := fun R _ ho => ho.l.d _ hmk
    have n1 : G ≠ w.heap.size + 1 + 1 := by omega
    have n2 : w.heap.size + 1 + 1 ≠ G := by omega
    have n3 : G ≠ w.heap.size + 1 + 1 + 1 := by omega
    have n4 : w.heap.size + 1 + 1 + 1 ≠ G := by omega
    have e0 := x2.cell 0 _ rfl
    have e1 := x2.cell 1 _ rfl
    have e2 := x2.cell 2 _ rfl
    have e3 := x2.cell 3 _ rfl
    have e4 := x2.cell 4 _ rfl
    have f0 := x2.ice 0
    have f1 := x2.ice 1
    have f2 := x2.ice 2
    have f3 := x2.ice 3
    have f4 := x2.ice 4
    have g0 := x3.cell 0 _ rfl
    have g1 := x3.cell 1 _ rfl
    have g2 := x3.cell 2 _ rfl
    have i0 := x3.ice 0
    have i1 := x3.ice 1
    have i2 := x3.ice 2
    go_upto_region 4 with fail; go_region; go_wp2
    have zB := ((((x2.set 0 (.slice za zn zc)).set 1 (.slice ka kn kc)).set 2 (.int .i64 bh)).set 3 (.int .i64 bt)).set 4 (.slice (some ⟨b, off, none⟩) 3 c)
    have hbut := (((((ButI.refl (w.heap.size + 1 + 1) w2).step 0 (.slice za zn zc)).step 1 (.slice ka kn kc)).step 2 (.int .i64 bh)).step 3 (.int .i64 bt)).step 4 (.slice (some ⟨b, off, none⟩) 3 c)
    generalize ((((w2.setCell ⟨w.heap.size + 1 + 1, 0, none⟩ (.slice za zn zc)).setCell ⟨w.heap.size + 1 + 1, 1, none⟩ (.slice ka kn kc)).setCell ⟨w.heap.size + 1 + 1, 2, none⟩ (.int .i64 bh)).setCell ⟨w.heap.size + 1 + 1, 3, none⟩ (.int .i64 bt)).setCell ⟨w.heap.size + 1 + 1, 4, none⟩ (.slice (some ⟨b, off, none⟩) 3 c) = w98 at *
    have z0 := zB.cell 0 _ rfl
    have z1 := zB.cell 1 _ rfl
    have z2 := zB.cell 2 _ rfl
    have z3 := zB.cell 3 _ rfl
    have z4 := zB.cell 4 _ rfl
    replace x3 := x3.butI hbut (by omega)
    have o8 := okh.but hbut.but (offh _ (by omega) (hoR _ (by omega)))
    have a8 := AV.ok.but oka hbut.but (offa _ (by omega) (hoR _ (by omega)))
    have b8 := bw.trans (hbut.below (B := w.heap.size) (by omega))
    clear z0 z1 z2 z3 z4 hbut
    have zA := ((x3.set 0 (.int .i64 ye)).set 1 (.int .i64 yt)).set 2 (.slice ya yn yc)
    have hbu := (((ButI.refl (w.heap.size + 1 + 1 + 1) w98).step 0 (.int .i64 ye)).step 1 (.int .i64 yt)).step 2 (.slice ya yn yc)
    replace zB := zB.butI hbu (by omega)
    replace o8 := o8.but hbu.but (offh _ (by omega) (hoR _ (by omega)))
    replace a8 := AV.ok.but a8 hbu.but (offa _ (by omega) (hoR _ (by omega)))
    replace b8 := b8.trans (hbu.below (B := w.heap.size) (by omega))
    generalize ((w98.setCell ⟨w.heap.size + 1 + 1 + 1, 0, none⟩ (.int .i64 ye)).setCell ⟨w.heap.size + 1 + 1 + 1, 1, none⟩ (.int .i64 yt)).setCell ⟨w.heap.size + 1 + 1 + 1, 2, none⟩ (.slice ya yn yc) = w99 at *
    have z0 := zB.cell 0 _ rfl
    have z1 := zB.cell 1 _ rfl
    have z2 := zB.cell 2 _ rfl
    have z3 := zB.cell 3 _ rfl
    have z4 := zB.cell 4 _ rfl
    have v0 := zA.cell 0 _ rfl
    have v1 := zA.cell 1 _ rfl
    have v2 := zA.cell 2 _ rfl
    replace o8 := o8.below (Below.drew (Below.refl _ w99)) (Nat.le_refl _); replace a8 := AV.ok.below a8 (Below.drew (Below.refl _ w99)) (Nat.le_refl _); replace b8 := Below.drew b8
    refine bodyPost_ret (v := .tuple #[.agg #[.slice za zn zc, .slice ka kn kc, .int .i64 bh, .int .i64 bt, .slice (some ⟨b, off, none⟩) 3 c], .agg #[.int .i64 ye, .int .i64 yt, .slice ya yn yc], .int .i64 0]) (by simp [results, Tryz.results29, go_sem, z0, z1, z2, z3, z4, v0, v1, v2]) rfl ⟨⟨⟨⟨za, zn, zc, Z, ka, kn, kc, bk, bh, bt⟩, some ⟨b, off, none⟩, 3, c, L⟩, ⟨ye, yt, ya, yn, yc, yl⟩, ?_, o8, a8, fun R hR ho => ⟨offh R (by omega) ho, offa R (by omega) ho⟩, ?_, ?_⟩, b8⟩
    · rw [HN.out, if_pos E1.out]
      rfl
    · rw [HN.out, if_pos E1.out]
    · rw [HN.out, if_pos E1.out]
  · have tq : (rs == ys) = false := by simpa using e1
    have E1 := hide e1
    clear e1
    by_cases e2 : rs = ys + 1
    · have tr : (rs == ys + 1) = true := by simp [e2]
      have E2 := hide e2
      clear e2
      have r2 := x1.cell 2 _ rfl
      have r3 := x1.cell 3 _ rfl
      have r4 := x1.cell 4 _ rfl
      have r5 := x1.cell 5 _ rfl
      have r6 := x1.cell 6 _ rfl
      go_wp2_with fail
      refine (HD.out _ hok.d hrk).mono ?_
      rintro e w3 ⟨⟨⟨za', zn', zc', Z', ka', kn', kc', bk', bh', bt'⟩, ⟨ee, et, ea, en, ec, ed⟩, rfl, od, oa, pd, pa, ho3⟩, hb3⟩
      dsimp only [DV.v, AV.v]
      replace x0 := x0.below hb3
      replace x1 := x1.below hb3
      replace x2 := x2.below hb3
      replace x3 := x3.below hb3
      replace hok := hok.below hb3 (Nat.le_refl _)
      replace bw := belowT bw hb3
      have PD := hide pd
      have PA' := hide pa
      have hz3 := hb3.size
      clear hb3 q0 q1 q2 q3 q4 p0 p1 p2 p3 p4 r0 r1 r2 r3 r4 r5 r6 y0 y1 y2 y3 pd pa HD xx
      go_upto_region 7 with fail
      obtain ⟨y8, y9, bn⟩ := two_boxes w3 [.slice za' zn' zc', .slice ka' kn' kc', .int .i64 bh', .int .i64 bt'] [.int .i64 ee, .int .i64 et, .slice ea en ec] 27 38
      replace x0 := x0.below bn
      replace x1 := x1.below bn
      replace x2 := x2.below bn
      replace x3 := x3.below bn
      replace hok := hok.below bn (Nat.le_refl _)
      replace od := od.below bn (Nat.le_refl _)
      replace oa := AV.ok.below oa bn (Nat.le_refl _)
      replace bw := belowT bw bn
      clear bn
      generalize w3.heap.size = B at *
      generalize (w3.alloc (.cells [.slice za' zn' zc', .slice ka' kn' kc', .int .i64 bh', .int .i64 bt'].toArray 27)).alloc (.cells [.int .i64 ee, .int .i64 et, .slice ea en ec].toArray 38) = w4 at *
      have HCL := hide (fun w' (h' : Lasts w' (some ⟨b, off, none⟩) 3 c L) => CloneL_k b off c 3 L w' h' (by omega) (by omega))
      have hokl := hok.l
      dsimp only at hokl
      have hsB := y9.lt
      have q0 := x0.cell 0 _ rfl
      have q1 := x0.cell 1 _ rfl
      have q2 := x0.cell 2 _ rfl
      have q3 := x0.cell 3 _ rfl
      have q4 := x0.cell 4 _ rfl
      have p0 := x0.ice 0
      have p1 := x0.ice 1
      have p2 := x0.ice 2
      have p3 := x0.ice 3
      have p4 := x0.ice 4
      have l0 := y8.cell 0 _ rfl
      have l1 := y8.cell 1 _ rfl
      have l2 := y8.cell 2 _ rfl
      have l3 := y8.cell 3 _ rfl
      go_cut [43] (fun v wx => ∃ g cap w5, v = .slice (some ⟨g, 0, none⟩) 3 cap ∧ Lay w5 g (lcells L) ∧ w4.heap.size ≤ g ∧ 3 ≤ cap ∧ cap ≤ 9223372036854775807 ∧ Below w4.heap.size w4 w5 ∧ ButI w.heap.size w5 wx ∧ Lay wx w.heap.size [.slice za' zn' zc', .slice ka' kn' kc', .int .i64 bh', .int .i64 bt', .slice (some ⟨g, 0, none⟩) 3 cap])
      case first =>
        go_region_with (first | (go_at_call 58; refine (HCL.out _ (by refine Lasts.below hokl (B := w4.heap.size) ?_ (Nat.le_refl _); clear bw; (repeat (first | exact Below.refl _ _ | assumption | refine Below.drew ?_ | refine below_drewN ?_ _ | refine belowA ?_ _ | refine belowT ?_ (by assumption) | refine Below.setCell ?_ (by first | (simp; done) | (simp; omega)) _)))).mono ?_; rintro e w5 ⟨⟨g, cap, rfl, lg, hg, hc1, hc2⟩, hb5⟩; (have b5 : Below w4.heap.size w4 w5 := by clear bw; (repeat (first | exact Below.refl _ _ | assumption | refine Below.drew ?_ | refine below_drewN ?_ _ | refine belowA ?_ _ | refine belowT ?_ (by assumption) | refine Below.setCell ?_ (by first | (simp; done) | (simp; omega)) _))); (have x5 := x0.below b5); (have z5 := y8.below b5); (have o0 := x5.cell 0 _ rfl); (have o1 := x5.cell 1 _ rfl); (have o2 := x5.cell 2 _ rfl); (have o3 := x5.cell 3 _ rfl); (have o4 := x5.cell 4 _ rfl); (have v0 := x5.ice 0); (have v1 := x5.ice 1); (have v2 := x5.ice 2); (have v3 := x5.ice 3); (have v4 := x5.ice 4); (have s0 := z5.cell 0 _ rfl); (have s1 := z5.cell 1 _ rfl); (have s2 := z5.cell 2 _ rfl); (have s3 := z5.cell 3 _ rfl)))
        all_goals
          go_wp2_with fail
          go_meet
        all_goals
          case rel =>
            have zB := ((((x5.set 0 (.slice za' zn' zc')).set 1 (.slice ka' kn' kc')).set 2 (.int .i64 bh')).set 3 (.int .i64 bt')).set 4 (.slice (some ⟨g, 0, none⟩) 3 cap)
            have hbut := (((((ButI.refl w.heap.size w5).step 0 (.slice za' zn' zc')).step 1 (.slice ka' kn' kc')).step 2 (.int .i64 bh')).step 3 (.int .i64 bt')).step 4 (.slice (some ⟨g, 0, none⟩) 3 cap)
            exact ⟨g, cap, w5, rfl, lg, by simpa using hg, hc1, hc2, b5, hbut, zB⟩
      case rest =>
        obtain ⟨g, cap, w5, rfl, lg, hg, hc1, hc2, b5, hbut, xH⟩ := hcut
        clear q0 q1 q2 q3 q4 p0 p1 p2 p3 p4 l0 l1 l2 l3 x0 y8
        have hdg : DV.off g ⟨za', zn', zc', Z', ka', kn', kc', bk', bh', bt'⟩ := od.off hg
        have hag : AV.off g ⟨ee, et, ea, en, ec, ed⟩ := AV.ok.off oa hg
        have hLg : ∀ y ∈ L, LV.off g y := fun y hy => (hokl.ok y hy).off hg
        have hh0 := hoR w.heap.size (Nat.le_refl _)
        have hd0 := ho3 w.heap.size (by omega) hh0.d
        replace x1 := (x1.below b5).butI hbut (by omega)
        replace x2 := (x2.below b5).butI hbut (by omega)
        replace x3 := (x3.below b5).butI hbut (by omega)
        replace y9 := (y9.below b5).butI hbut (by omega)
        replace od := (od.below b5 (Nat.le_refl _)).but hbut.but hd0.1
        replace oa := AV.ok.but (AV.ok.below oa b5 (Nat.le_refl _)) hbut.but hd0.2
        have hLy : ∀ y ∈ L, LV.ok wc y := fun y hy => ((hokl.ok y hy).below b5 (Nat.le_refl _)).but hbut.but (hh0.l.d y hy)
        replace lg := lg.butI hbut (by omega)
        replace bw := (belowT bw b5).trans (hbut.below (Nat.le_refl _))
        clear hbut b5 hok hokl hrk iy
        have s0 := xH.cell 4 _ rfl
        have r0 := x1.cell 0 _ rfl
        have r1 := x1.cell 1 _ rfl
        have y0 := y9.cell 0 _ rfl
        have y1 := y9.cell 1 _ rfl
        have y2 := y9.cell 2 _ rfl
        have c0 := lg.cell _ _ (lcells_get L j _ HY.out 0 _ rfl)
        have c1 := lg.cell _ _ (lcells_get L j _ HY.out 1 _ rfl)
        have c2 := lg.cell _ _ (lcells_get L j _ HY.out 2 _ rfl)
        have c3 := lg.cell _ _ (lcells_get L j _ HY.out 3 _ rfl)
        rw [Nat.add_zero] at c0
        have m0 := lg.ice (j * 4)
        have m1 := lg.ice (j * 4 + 1)
        have m2 := lg.ice (j * 4 + 2)
        have m3 := lg.ice (j * 4 + 3)
        go_upto_region 9 with fail
        have hset : Lay ((((wc.setCell ⟨g, j * 4, none⟩ (.int .i64 rs)).setCell ⟨g, j * 4 + 1, none⟩ (.int .i64 ee)).setCell ⟨g, j * 4 + 2, none⟩ (.int .i64 et)).setCell ⟨g, j * 4 + 3, none⟩ (.slice ea en ec)) g (lcells (L.set j ⟨rs, ⟨ee, et, ea, en, ec, ed⟩⟩)) := by
          rw [← lcells_set L j ⟨rs, ⟨ee, et, ea, en, ec, ed⟩⟩ (by omega)]
          exact (((lg.set _ _).set _ _).set _ _).set _ _
        have hb2 := ((((ButI.refl g wc).step (j * 4) (.int .i64 rs)).step (j * 4 + 1) (.int .i64 ee)).step (j * 4 + 2) (.int .i64 et)).step (j * 4 + 3) (.slice ea en ec)
        replace x2 := x2.butI hb2 (by omega)
        replace x3 := x3.butI hb2 (by omega)
        replace y9 := y9.butI hb2 (by omega)
        replace xH := xH.butI hb2 (by omega)
        replace od := od.but hb2.but hdg
        replace oa := AV.ok.but oa hb2.but hag
        have hL9 : ∀ z ∈ L.set j ⟨rs, ⟨ee, et, ea, en, ec, ed⟩⟩, LV.ok ((((wc.setCell ⟨g, j * 4, none⟩ (.int .i64 rs)).setCell ⟨g, j * 4 + 1, none⟩ (.int .i64 ee)).setCell ⟨g, j * 4 + 2, none⟩ (.int .i64 et)).setCell ⟨g, j * 4 + 3, none⟩ (.slice ea en ec)) z := fun z hz => by
          rcases List.mem_or_eq_of_mem_set hz with hm | rfl
          · exact (hLy z hm).but hb2.but (hLg z hm)
          · exact oa
        replace bw := bw.trans (hb2.below (B := w.heap.size) (by omega))
        clear c0 c1 c2 c3 m0 m1 m2 m3 s0 r0 r1 y0 y1 y2 hb2 lg hLy
        generalize (((wc.setCell ⟨g, j * 4, none⟩ (.int .i64 rs)).setCell ⟨g, j * 4 + 1, none⟩ (.int .i64 ee)).setCell ⟨g, j * 4 + 2, none⟩ (.int .i64 et)).setCell ⟨g, j * 4 + 3, none⟩ (.slice ea en ec) = w9 at *
        have okh : HV.ok w9 ⟨⟨za', zn', zc', Z', ka', kn', kc', bk', bh', bt'⟩, some ⟨g, 0, none⟩, 3, cap, L.set j ⟨rs, ⟨ee, et, ea, en, ec, ed⟩⟩⟩ := ⟨od, Lasts.of_cap hset hL9 (by simp [hlen]) hc1 hc2⟩
        have oka : AV.ok w9 ⟨ee, et, ea, en, ec, ed⟩ := oa
        have offh : ∀ R, R ≤ w.heap.size + 1 + 1 + 1 → HV.off R ⟨⟨za, zn, zc, Z, ka, kn, kc, bk, bh, bt⟩, some ⟨b, off, none⟩, 3, c, L⟩ → HV.off R ⟨⟨za', zn', zc', Z', ka', kn', kc', bk', bh', bt'⟩, some ⟨g, 0, none⟩, 3, cap, L.set j ⟨rs, ⟨ee, et, ea, en, ec, ed⟩⟩⟩ := fun R h2 ho => ⟨(ho3 R (by omega) ho.d).1, .inr (fun x e => by cases e; simp; omega), fun z hz => by
          rcases List.mem_or_eq_of_mem_set hz with hm | rfl
          · exact ho.l.d z hm
          · exact (ho3 R (by omega) ho.d).2⟩
        have offa : ∀ R, R ≤ w.heap.size + 1 + 1 + 1 → HV.off R ⟨⟨za, zn, zc, Z, ka, kn, kc, bk, bh, bt⟩, some ⟨b, off, none⟩, 3, c, L⟩ → AV.off R ⟨ee, et, ea, en, ec, ed⟩ := fun R h2 ho => (ho3 R (by omega) ho.d).2
        have q0 := xH.cell 0 _ rfl
        have q1 := xH.cell 1 _ rfl
        have q2 := xH.cell 2 _ rfl
        have q3 := xH.cell 3 _ rfl
        have q4 := xH.cell 4 _ rfl
        have p0 := xH.ice 0
        have p1 := xH.ice 1
        have p2 := xH.ice 2
        have p3 := xH.ice 3
        have p4 := xH.ice 4
        have l0 := y9.cell 0 _ rfl
        have l1 := y9.cell 1 _ rfl
        have l2 := y9.cell 2 _ rfl
        have n1 : B + 1 ≠ w.heap.size + 1 + 1 := by omega
        have n2 : w.heap.size + 1 + 1 ≠ B + 1 := by omega
        have n3 : B + 1 ≠ w.heap.size + 1 + 1 + 1 := by omega
        have n4 : w.heap.size + 1 + 1 + 1 ≠ B + 1 := by omega
        have e0 := x2.cell 0 _ rfl
        have e1 := x2.cell 1 _ rfl
        have e2 := x2.cell 2 _ rfl
        have e3 := x2.cell 3 _ rfl
        have e4 := x2.cell 4 _ rfl
        have f0 := x2.ice 0
        have f1 := x2.ice 1
        have f2 := x2.ice 2
        have f3 := x2.ice 3
        have f4 := x2.ice 4
        have g0 := x3.cell 0 _ rfl
        have g1 := x3.cell 1 _ rfl
        have g2 := x3.cell 2 _ rfl
        have i0 := x3.ice 0
        have i1 := x3.ice 1
        have i2 := x3.ice 2
        go_region; go_wp2
        have zB := ((((x2.set 0 (.slice za' zn' zc')).set 1 (.slice ka' kn' kc')).set 2 (.int .i64 bh')).set 3 (.int .i64 bt')).set 4 (.slice (some ⟨g, 0, none⟩) 3 cap)
        have hbut := (((((ButI.refl (w.heap.size + 1 + 1) w9).step 0 (.slice za' zn' zc')).step 1 (.slice ka' kn' kc')).step 2 (.int .i64 bh')).step 3 (.int .i64 bt')).step 4 (.slice (some ⟨g, 0, none⟩) 3 cap)
        generalize ((((w9.setCell ⟨w.heap.size + 1 + 1, 0, none⟩ (.slice za' zn' zc')).setCell ⟨w.heap.size + 1 + 1, 1, none⟩ (.slice ka' kn' kc')).setCell ⟨w.heap.size + 1 + 1, 2, none⟩ (.int .i64 bh')).setCell ⟨w.heap.size + 1 + 1, 3, none⟩ (.int .i64 bt')).setCell ⟨w.heap.size + 1 + 1, 4, none⟩ (.slice (some ⟨g, 0, none⟩) 3 cap) = w98 at *
        have z0 := zB.cell 0 _ rfl
        have z1 := zB.cell 1 _ rfl
        have z2 := zB.cell 2 _ rfl
        have z3 := zB.cell 3 _ rfl
        have z4 := zB.cell 4 _ rfl
        replace x3 := x3.butI hbut (by omega)
        have o8 := okh.but hbut.but (offh _ (by omega) (hoR _ (by omega)))
        have a8 := AV.ok.but oka hbut.but (offa _ (by omega) (hoR _ (by omega)))
        have b8 := bw.trans (hbut.below (B := w.heap.size) (by omega))
        clear z0 z1 z2 z3 z4 hbut
        have zA := ((x3.set 0 (.int .i64 ee)).set 1 (.int .i64 et)).set 2 (.slice ea en ec)
        have hbu := (((ButI.refl (w.heap.size + 1 + 1 + 1) w98).step 0 (.int .i64 ee)).step 1 (.int .i64 et)).step 2 (.slice ea en ec)
        replace zB := zB.butI hbu (by omega)
        replace o8 := o8.but hbu.but (offh _ (by omega) (hoR _ (by omega)))
        replace a8 := AV.ok.but a8 hbu.but (offa _ (by omega) (hoR _ (by omega)))
        replace b8 := b8.trans (hbu.below (B := w.heap.size) (by omega))
        generalize ((w98.setCell ⟨w.heap.size + 1 + 1 + 1, 0, none⟩ (.int .i64 ee)).setCell ⟨w.heap.size + 1 + 1 + 1, 1, none⟩ (.int .i64 et)).setCell ⟨w.heap.size + 1 + 1 + 1, 2, none⟩ (.slice ea en ec) = w99 at *
        have z0 := zB.cell 0 _ rfl
        have z1 := zB.cell 1 _ rfl
        have z2 := zB.cell 2 _ rfl
        have z3 := zB.cell 3 _ rfl
        have z4 := zB.cell 4 _ rfl
        have v0 := zA.cell 0 _ rfl
        have v1 := zA.cell 1 _ rfl
        have v2 := zA.cell 2 _ rfl
        replace o8 := o8.below (Below.drew (Below.refl _ w99)) (Nat.le_refl _); replace a8 := AV.ok.below a8 (Below.drew (Below.refl _ w99)) (Nat.le_refl _); replace b8 := Below.drew b8
        refine bodyPost_ret (v := .tuple #[.agg #[.slice za' zn' zc', .slice ka' kn' kc', .int .i64 bh', .int .i64 bt', .slice (some ⟨g, 0, none⟩) 3 cap], .agg #[.int .i64 ee, .int .i64 et, .slice ea en ec], .int .i64 0]) (by simp [results, Tryz.results29, go_sem, z0, z1, z2, z3, z4, v0, v1, v2]) rfl ⟨⟨⟨⟨za', zn', zc', Z', ka', kn', kc', bk', bh', bt'⟩, some ⟨g, 0, none⟩, 3, cap, L.set j ⟨rs, ⟨ee, et, ea, en, ec, ed⟩⟩⟩, ⟨ee, et, ea, en, ec, ed⟩, ?_, o8, a8, fun R hR ho => ⟨offh R (by omega) ho, offa R (by omega) ho⟩, ?_, ?_⟩, b8⟩
        · rw [HN.out, if_neg E1.out, if_neg (by simp [E2.out])]
          rfl
        · rw [HN.out, if_neg E1.out, if_neg (by simp [E2.out])]
          dsimp only [HV.p]
          rw [PD.out, List.map_set]
          dsimp only [LV.p]
          rw [PA'.out]
        · rw [HN.out, if_neg E1.out, if_neg (by simp [E2.out])]
          exact PA'.out
    · have tr : (rs == ys + 1) = false := by simpa using e2
      have E2 := hide e2
      clear e2
      have okh := HV.zero_ok w2
      have oka := AV.err_ok w2 0
      have offh : ∀ R, R ≤ w.heap.size + 1 + 1 + 1 → HV.off R ⟨⟨za, zn, zc, Z, ka, kn, kc, bk, bh, bt⟩, some ⟨b, off, none⟩, 3, c, L⟩ → HV.off R HV.zero := fun R _ _ => HV.zero_off R
      have offa : ∀ R, R ≤ w.heap.size + 1 + 1 + 1 → HV.off R ⟨⟨za, zn, zc, Z, ka, kn, kc, bk, bh, bt⟩, some ⟨b, off, none⟩, 3, c, L⟩ → AV.off R (AV.err 0) := fun R _ _ => .inl rfl
      have e0 := x2.cell 0 _ rfl
      have e1 := x2.cell 1 _ rfl
      have e2 := x2.cell 2 _ rfl
      have e3 := x2.cell 3 _ rfl
      have e4 := x2.cell 4 _ rfl
      have f0 := x2.ice 0
      have f1 := x2.ice 1
      have f2 := x2.ice 2
      have f3 := x2.ice 3
      have f4 := x2.ice 4
      have g0 := x3.cell 0 _ rfl
      have g1 := x3.cell 1 _ rfl
      have g2 := x3.cell 2 _ rfl
      have i0 := x3.ice 0
      have i1 := x3.ice 1
      have i2 := x3.ice 2
      go_wp2
      have zB := ((((x2.set 0 (.slice none 0 0)).set 1 (.slice none 0 0)).set 2 (.int .i64 0)).set 3 (.int .i64 0)).set 4 (.slice none 0 0)
      have hbut := (((((ButI.refl (w.heap.size + 1 + 1) w2).step 0 (.slice none 0 0)).step 1 (.slice none 0 0)).step 2 (.int .i64 0)).step 3 (.int .i64 0)).step 4 (.slice none 0 0)
      generalize ((((w2.setCell ⟨w.heap.size + 1 + 1, 0, none⟩ (.slice none 0 0)).setCell ⟨w.heap.size + 1 + 1, 1, none⟩ (.slice none 0 0)).setCell ⟨w.heap.size + 1 + 1, 2, none⟩ (.int .i64 0)).setCell ⟨w.heap.size + 1 + 1, 3, none⟩ (.int .i64 0)).setCell ⟨w.heap.size + 1 + 1, 4, none⟩ (.slice none 0 0) = w98 at *
      have z0 := zB.cell 0 _ rfl
      have z1 := zB.cell 1 _ rfl
      have z2 := zB.cell 2 _ rfl
      have z3 := zB.cell 3 _ rfl
      have z4 := zB.cell 4 _ rfl
      replace x3 := x3.butI hbut (by omega)
      have o8 := okh.but hbut.but (offh _ (by omega) (hoR _ (by omega)))
      have a8 := AV.ok.but oka hbut.but (offa _ (by omega) (hoR _ (by omega)))
      have b8 := bw.trans (hbut.below (B := w.heap.size) (by omega))
      clear z0 z1 z2 z3 z4 hbut
      have zA := ((x3.set 0 (.int .i64 0)).set 1 (.int .i64 0)).set 2 (.slice none 0 0)
      have hbu := (((ButI.refl (w.heap.size + 1 + 1 + 1) w98).step 0 (.int .i64 0)).step 1 (.int .i64 0)).step 2 (.slice none 0 0)
      replace zB := zB.butI hbu (by omega)
      replace o8 := o8.but hbu.but (offh _ (by omega) (hoR _ (by omega)))
      replace a8 := AV.ok.but a8 hbu.but (offa _ (by omega) (hoR _ (by omega)))
      replace b8 := b8.trans (hbu.below (B := w.heap.size) (by omega))
      generalize ((w98.setCell ⟨w.heap.size + 1 + 1 + 1, 0, none⟩ (.int .i64 0)).setCell ⟨w.heap.size + 1 + 1 + 1, 1, none⟩ (.int .i64 0)).setCell ⟨w.heap.size + 1 + 1 + 1, 2, none⟩ (.slice none 0 0) = w99 at *
      have z0 := zB.cell 0 _ rfl
      have z1 := zB.cell 1 _ rfl
      have z2 := zB.cell 2 _ rfl
      have z3 := zB.cell 3 _ rfl
      have z4 := zB.cell 4 _ rfl
      have v0 := zA.cell 0 _ rfl
      have v1 := zA.cell 1 _ rfl
      have v2 := zA.cell 2 _ rfl
      skip
      refine bodyPost_ret (v := .tuple #[.agg #[.slice none 0 0, .slice none 0 0, .int .i64 0, .int .i64 0, .slice none 0 0], .agg #[.int .i64 0, .int .i64 0, .slice none 0 0], .int .i64 6]) (by simp [results, Tryz.results29, go_sem, z0, z1, z2, z3, z4, v0, v1, v2]) rfl ⟨⟨HV.zero, AV.err 0, ?_, o8, a8, fun R hR ho => ⟨offh R (by omega) ho, offa R (by omega) ho⟩, ?_, ?_⟩, b8⟩
      · rw [HN.out, if_neg E1.out, if_pos E2.out]
        rfl
      · rw [HN.out, if_neg E1.out, if_pos E2.out]
        rfl
      · rw [HN.out, if_neg E1.out, if_pos E2.out]
        rfl

end Go.Proofs.YtenmamcaldabdaaGreatDoor

/-
  DERIVED: THE SHELF's CONTRACTS AT THIS DUMP, IN PLAIN WORDS (tools/lay-plain.mjs out of 'TryzShelf.lean', which tools/lay-shelf.mjs wrote): THE SAME DECLARATIONS UNDER THE SAME NAMES: 'import', 'namespace', 'open', 'def', 'theorem' AND NOTHING ELSE: no command of the shelf's: FOR A HAND-IN. Each laying: the table of numbers ('.._ren') and one theorem, a field a fact of the dump's own or the kernel's comparison; each contract: ONE APPLICATION.
-/
namespace Go.Proofs
open Go.Shelf
def Tryz.lays144_ren : Go.Shelf.Ren := ⟨fun | 144 => 83 | 143 => 113 | 219 => 142 | 217 => 174 | 225 => 175 | 224 => 129 | 267 => 176 | 266 => 198 | 314 => 199 | n => n, fun | 9 => 9 | 4 => 4 | 3 => 3 | 5 => 5 | 46 => 177 | 146 => 201 | 51 => 200 | n => n, fun | 1 => 1 | n => n⟩
theorem Tryz.lays144 : Go.Proofs.Lays.n144 Tryz.prog Tryz.lays144_ren := {
  mixed := by kernel_rfl
  f143 := Tryz.func113.trans (congrArg some (by kernel_rfl))
  f144 := Tryz.func83.trans (congrArg some (by kernel_rfl))
  f217 := Tryz.func174.trans (congrArg some (by kernel_rfl))
  f219 := Tryz.func142.trans (congrArg some (by kernel_rfl))
  f224 := Tryz.func129.trans (congrArg some (by kernel_rfl))
  f225 := Tryz.func175.trans (congrArg some (by kernel_rfl))
  f266 := Tryz.func198.trans (congrArg some (by kernel_rfl))
  f267 := Tryz.func176.trans (congrArg some (by kernel_rfl))
  f314 := Tryz.func199.trans (congrArg some (by kernel_rfl))
  t3 := Tryz.underlying3
  a3 := Tryz.isAgg3
  z3 := Tryz.sizeOf3
  v3 := Tryz.zeroValue3
  t4 := Tryz.underlying4
  a4 := Tryz.isAgg4
  z4 := Tryz.sizeOf4
  v4 := Tryz.zeroValue4
  t5 := Tryz.underlying5
  a5 := Tryz.isAgg5
  z5 := Tryz.sizeOf5
  v5 := Tryz.zeroValue5
  t9 := Tryz.underlying9
  a9 := Tryz.isAgg9
  z9 := Tryz.sizeOf9
  v9 := Tryz.zeroValue9
  t46 := Tryz.underlying177
  a46 := Tryz.isAgg177
  z46 := Tryz.sizeOf177
  v46 := Tryz.zeroValue177
  t51 := Tryz.underlying200
  a51 := Tryz.isAgg200
  z51 := Tryz.sizeOf200
  v51 := Tryz.zeroValue200
  t146 := Tryz.underlying201
  a146 := Tryz.isAgg201
  z146 := Tryz.sizeOf201
  v146 := Tryz.zeroValue201
  g1 := by kernel_rfl }
open Go.RowKit Go.Lib in
/-- strings.Contains: "Contains reports whether substr is within s.": AT A substr OF ONE BYTE c: IT RETURNS 'decide (0 ≤ Lib.indexByte s c)'; the world is as it was. (LAID: no walk: one application.) -/
theorem Tryz.strings_Contains_one (s : ByteArray) (c : UInt8) (w : World) :
    Calls Tryz.prog 83 #[.string s, .string ⟨#[c]⟩] w fun e w' => e = .returned (.bool (decide (0 ≤ Lib.indexByte s.data.toList c))) ∧ w' = w := Any.strings_Contains_one Tryz.lays144 s c w
end Go.Proofs
