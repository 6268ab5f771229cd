/- The contracts of desk's small functions: within, hasZone, list, Check, Same, CheckAnswer, New; no condition but that the arguments read as data. -/
import Derived.Test.YtmjcoehllinoeacDoorDK1
import Derived.Test.YtmjcoehllinoeacDoorY1
import Derived.Test.YtmjcoehllinoeacDoorKB
namespace Go.Proofs.YtmjcoehllinoeacDoor
open Go.RowKit
set_option linter.unusedVariables false
set_option maxRecDepth 100000
set_option linter.unusedSimpArgs false

theorem dwithin_c (n a b : Int) (w : World) : Calls Tryd.prog 32 #[.int .i64 n, .int .i64 a, .int .i64 b] w fun e w' => e = .returned (.bool (inB n a b)) ∧ w' = w := by
  go_enter Tryd.func32, Tryd.ntmps32
  go_wp2
  all_goals (go_ret; exact ⟨ret_bool (by unfold inB; rw [Bool.eq_iff_iff]; simp; try omega), rfl⟩)

theorem hasZone_c (a : Option Addr) (n c : Nat) (k : Int) (w : World) (hm : n ≤ 9223372036854775807) :
    Calls Tryd.prog 66 #[.slice a n c, .int .i64 k] w fun e w' => e = .returned (.bool (inB k 0 ((n : Int) - 1))) ∧ w' = w := by
  go_enter Tryd.func66, Tryd.ntmps66
  go_wp2_with (go_at_call 32; refine (dwithin_c _ _ _ _).mono ?_; rintro e w' ⟨rfl, rfl⟩)
  go_ret
  exact ⟨rfl, rfl⟩

set_option maxHeartbeats 1000000 in
theorem dlist_c (a : Option Addr) (n c : Nat) (l : List Int) (w : World) (h : Ints w a n c l) (hn : n ≤ 100000) :
    Calls Tryd.prog 45 #[.slice a n c] w fun e w' => (∃ q, e = .returned (.slice (some ⟨q, 0, none⟩) n n) ∧ Ints w' (some ⟨q, 0, none⟩) n n l ∧ w.heap.size ≤ q) ∧ Below w.heap.size w w' := by
  have n2 : (n : Int) ≤ 100000 := by omega
  have hmk := run_make_row' (P := Tryd.prog) 22 3 (.int .i64 0) 8 Tryd.underlying22 infoInt rfl .i64 .i64 n (by omega) (by omega)
  go_enter Tryd.func45, Tryd.ntmps45
  go_wp2_with fail
  obtain ⟨w2, r2, g2, b2⟩ := copy_run (P := Tryd.prog) (w.alloc (.cells (madeCells #[.int .i64 0] n) 3)) 22 22 3 3 Tryd.underlying22 sizeInt (some ⟨w.heap.size, 0, none⟩) a n n n c w.heap.size 0
    (madeCells #[.int .i64 0] n).toList 3 (heap_new _ _) (cellsOf l) (by rw [cellsOf_len, h.len]; exact (Nat.min_self n).symm) (fun hp => ⟨rfl, (h.below (B := w.heap.size) (by (repeat (first | exact Below.refl _ _ | assumption | refine Below.drew ?_ | refine below_drewN ?_ _ | refine belowA ?_ _ | refine belowT ?_ (by assumption) | refine Below.setCell ?_ (by first | (simp; done) | (simp; omega)) _))) (Nat.le_refl _)).src (by rw [cellsOf_len, h.len] at hp; exact hp)⟩) (by simp [size_madeCells, cellsOf_len, h.len]) (cellsOf_one l)
  rw [r2]
  have G2 := hide g2
  clear g2 r2
  go_wp2
  go_ret
  have g2 := G2.out
  rw [splice_one _ _ (by simp [size_madeCells, cellsOf_len, h.len])] at g2
  exact ⟨⟨_, rfl, Ints.of_row g2 (by rw [h.len]; omega) h.wf h.len, Nat.le_refl _⟩, (belowA (Below.refl _ _) _).trans b2⟩

theorem DCheck_c (d : DV) (w : World) (h : d.ok w) : Calls Tryd.prog 13 #[d.v] w fun e w' => e = .returned (.int .i64 (checkD d.p)) ∧ Below w.heap.size w w' := by
  obtain ⟨za, zn, zc, Z, ka, kn, kc, b⟩ := d
  obtain ⟨hz, hk⟩ := h
  dsimp only [DV.v, DV.p] at *
  have HC : Hid (checkD ⟨Z.map ZV.p, b⟩ = if checkZs (Z.map ZV.p) ≠ 0 then checkZs (Z.map ZV.p) else checkB b) := hide rfl
  go_enter Tryd.func13, Tryd.ntmps13
  go_wp2_with fail
  refine (YCheck_c za zn zc Z _ (hz.below (B := w.heap.size) (by (repeat (first | exact Below.refl _ _ | assumption | refine Below.drew ?_ | refine below_drewN ?_ _ | refine belowA ?_ _ | refine belowT ?_ (by assumption) | refine Below.setCell ?_ (by first | (simp; done) | (simp; omega)) _))) (Nat.le_refl _))).mono ?_
  rintro e w1 ⟨rfl, hb1⟩
  have c1 := keepc hb1 (p := ⟨w.heap.size, 1, none⟩) (u := .slice ka kn kc) (by go_simp)
  have c2 := keepc hb1 (p := ⟨w.heap.size, 2, none⟩) (u := .int .i64 b.h) (by go_simp)
  have c3 := keepc hb1 (p := ⟨w.heap.size, 3, none⟩) (u := .int .i64 b.t) (by go_simp)
  have bw : Below w.heap.size w w1 := by (repeat (first | exact Below.refl _ _ | assumption | refine Below.drew ?_ | refine below_drewN ?_ _ | refine belowA ?_ _ | refine belowT ?_ (by assumption) | refine Below.setCell ?_ (by first | (simp; done) | (simp; omega)) _))
  clear hb1
  generalize hx : checkZs (Z.map ZV.p) = x at *
  clear hx
  cases h0 : x != 0
  · go_wp2_with fail
    refine (BCheck_c ka kn kc b _ (hk.below bw (Nat.le_refl _))).mono ?_
    rintro e w2 ⟨rfl, hb2⟩
    go_wp2
    go_ret
    exact ⟨ret_int (by rw [HC.out]; simp at h0; simp [h0]), by (repeat (first | exact Below.refl _ _ | assumption | refine Below.drew ?_ | refine below_drewN ?_ _ | refine belowA ?_ _ | refine belowT ?_ (by assumption) | refine Below.setCell ?_ (by first | (simp; done) | (simp; omega)) _))⟩
  · go_wp2
    go_ret
    exact ⟨ret_int (by rw [HC.out]; simp at h0; simp [h0]), bw⟩

theorem DSame_c (d f : DV) (w : World) (h : d.ok w) (k : f.ok w) : Calls Tryd.prog 15 #[d.v, f.v] w fun e w' => e = .returned (.bool (sameD d.p f.p)) ∧ Below w.heap.size w w' := by
  obtain ⟨za, zn, zc, Z, ka, kn, kc, b⟩ := d
  obtain ⟨ya, yn, yc, Y, la, ln, lc, f⟩ := f
  obtain ⟨hz, hk⟩ := h
  obtain ⟨hy, hl⟩ := k
  dsimp only [DV.v, DV.p] at *
  have HS : Hid (sameD ⟨Z.map ZV.p, b⟩ ⟨Y.map ZV.p, f⟩ = (decide (Z.map ZV.p = Y.map ZV.p) && sameB b f)) := hide rfl
  go_enter Tryd.func15, Tryd.ntmps15
  go_wp2_with fail
  refine (YSame_c za ya zn yn zc yc Z Y _ (hz.below (B := w.heap.size) (by (repeat (first | exact Below.refl _ _ | assumption | refine Below.drew ?_ | refine below_drewN ?_ _ | refine belowA ?_ _ | refine belowT ?_ (by assumption) | refine Below.setCell ?_ (by first | (simp; done) | (simp; omega)) _))) (Nat.le_refl _)) (hy.below (B := w.heap.size) (by (repeat (first | exact Below.refl _ _ | assumption | refine Below.drew ?_ | refine below_drewN ?_ _ | refine belowA ?_ _ | refine belowT ?_ (by assumption) | refine Below.setCell ?_ (by first | (simp; done) | (simp; omega)) _))) (Nat.le_refl _))).mono ?_
  rintro e w1 ⟨rfl, hb1⟩
  have c1 := keepc hb1 (p := ⟨w.heap.size, 1, none⟩) (u := .slice ka kn kc) (by go_simp)
  have c2 := keepc hb1 (p := ⟨w.heap.size, 2, none⟩) (u := .int .i64 b.h) (by go_simp)
  have c3 := keepc hb1 (p := ⟨w.heap.size, 3, none⟩) (u := .int .i64 b.t) (by go_simp)
  have d1 := keepc hb1 (p := ⟨w.heap.size + 1, 1, none⟩) (u := .slice la ln lc) (by go_simp)
  have d2 := keepc hb1 (p := ⟨w.heap.size + 1, 2, none⟩) (u := .int .i64 f.h) (by go_simp)
  have d3 := keepc hb1 (p := ⟨w.heap.size + 1, 3, none⟩) (u := .int .i64 f.t) (by go_simp)
  have bw : Below w.heap.size w w1 := by (repeat (first | exact Below.refl _ _ | assumption | refine Below.drew ?_ | refine below_drewN ?_ _ | refine belowA ?_ _ | refine belowT ?_ (by assumption) | refine Below.setCell ?_ (by first | (simp; done) | (simp; omega)) _))
  clear hb1
  generalize decide (Z.map ZV.p = Y.map ZV.p) = x at *
  cases x
  · go_wp2
    go_ret
    exact ⟨ret_bool (by rw [HS.out]; rfl), bw⟩
  · go_wp2_with fail
    refine (BSame_c ka la kn ln kc lc b f _ (hk.below bw (Nat.le_refl _)) (hl.below bw (Nat.le_refl _))).mono ?_
    rintro e w2 ⟨rfl, hb2⟩
    go_wp2
    go_ret
    exact ⟨ret_bool (by rw [HS.out]; simp), by (repeat (first | exact Below.refl _ _ | assumption | refine Below.drew ?_ | refine below_drewN ?_ _ | refine belowA ?_ _ | refine belowT ?_ (by assumption) | refine Below.setCell ?_ (by first | (simp; done) | (simp; omega)) _))⟩

theorem DNew_c (w : World) : Calls Tryd.prog 29 #[] w fun e w' => (∃ d : DV, e = .returned d.v ∧ d.ok w' ∧ d.new w.heap.size ∧ d.p = freshD) ∧ Below w.heap.size w w' := by
  go_enter Tryd.func29, Tryd.ntmps29
  have xR := Lay.made w [.slice none 0 0, .slice none 0 0, .int .i64 0, .int .i64 0] 37
  have bw : Below w.heap.size w (w.alloc (.cells [.slice none 0 0, .slice none 0 0, .int .i64 0, .int .i64 0].toArray 37)) := by (repeat (first | exact Below.refl _ _ | assumption | refine Below.drew ?_ | refine below_drewN ?_ _ | refine belowA ?_ _ | refine belowT ?_ (by assumption) | refine Below.setCell ?_ (by first | (simp; done) | (simp; omega)) _))
  go_wp2_with fail
  refine (YNew_f _).mono ?_
  rintro e w1 ⟨⟨a1, c1, Z1, rfl, i1, n1, p1⟩, hb1⟩
  have P1 := hide p1
  replace xR := xR.below hb1
  replace bw := belowT bw hb1
  simp at n1
  have N1 := hide n1
  clear p1 n1 hb1
  go_wp2_with fail
  refine (BNew_c _).mono ?_
  rintro e w2 ⟨⟨a2, c2, rfl, i2, f2⟩, hb2⟩
  have hs1 := bw.size
  have hlt := xR.lt
  have F2 := hide f2
  replace xR := xR.below hb2
  replace bw := belowT bw hb2
  replace i1 := i1.below hb2 (Nat.le_refl _)
  clear f2 hb2
  simp only [bookV, freshB] at i2 ⊢
  have e0 := xR.cell 0 _ rfl
  have e1 := xR.cell 1 _ rfl
  have e2 := xR.cell 2 _ rfl
  have e3 := xR.cell 3 _ rfl
  have f0 := xR.ice 0
  have f1 := xR.ice 1
  have f2 := xR.ice 2
  have f3 := xR.ice 3
  go_wp2
  have hoff : ∀ R, R ≤ w.heap.size → (⟨a1, 4, c1, Z1, a2, 3, c2, freshB⟩ : DV).off R := fun R hR =>
    ⟨.inr fun x e => by have := N1.out.1 x e; omega, fun z hz => .inr fun x e => by have := N1.out.2 z hz x e; omega, .inr fun x e => by have := F2.out x e; omega⟩
  have hok : (⟨a1, 4, c1, Z1, a2, 3, c2, freshB⟩ : DV).ok w2 := ⟨i1, i2⟩
  have zB := (((xR.set 0 (.slice a1 4 c1)).set 1 (.slice a2 3 c2)).set 2 (.int .i64 (-1))).set 3 (.int .i64 0)
  have hbut := ((((But.refl w.heap.size w2).step 0 (.slice a1 4 c1)).step 1 (.slice a2 3 c2)).step 2 (.int .i64 (-1))).step 3 (.int .i64 0)
  have bw9 := bw.trans hbut.low
  have hok9 := hok.but hbut (hoff _ (Nat.le_refl _))
  generalize (((w2.setCell ⟨w.heap.size, 0, none⟩ (.slice a1 4 c1)).setCell ⟨w.heap.size, 1, none⟩ (.slice a2 3 c2)).setCell ⟨w.heap.size, 2, none⟩ (.int .i64 (-1))).setCell ⟨w.heap.size, 3, none⟩ (.int .i64 0) = w9 at *
  have z0 := zB.cell 0 _ rfl
  have z1 := zB.cell 1 _ rfl
  have z2 := zB.cell 2 _ rfl
  have z3 := zB.cell 3 _ rfl
  exact bodyPost_ret (v := .agg #[.slice a1 4 c1, .slice a2 3 c2, .int .i64 (-1), .int .i64 0]) (by simp [results, Tryd.results29, go_sem, z0, z1, z2, z3]) rfl
    ⟨⟨⟨a1, 4, c1, Z1, a2, 3, c2, freshB⟩, rfl, hok9, fun R hR => hoff R (Nat.le_of_lt hR), by simp [DV.p, P1.out, freshD]⟩, bw9⟩

end Go.Proofs.YtmjcoehllinoeacDoor
