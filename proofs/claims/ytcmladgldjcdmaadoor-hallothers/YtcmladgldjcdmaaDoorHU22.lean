/- What halls keep: a command that comes again, records replayed in parts; plain mathematics, no condition. -/
import Derived.Test.YtcmladgldjcdmaaDoorHU7
import Derived.Test.YtcmladgldjcdmaaDoorHU21
import Derived.Test.YtcmladgldjcdmaaDoorHU8
namespace Go.Proofs.YtcmladgldjcdmaaDoor
open Go.RowKit
set_option linter.unusedVariables false
set_option maxRecDepth 100000
set_option linter.unusedSimpArgs false

/-- A hall stays one. -/
theorem next_right {h : PH} {r : PR} (k : (nextH h r).2.2 = 0) : checkH (nextH h r).1 = 0 := by
  obtain ⟨h1, h2, h3⟩ := nextH_ok k
  obtain ⟨hd, hl, hx⟩ := checkH_ok h1
  obtain ⟨i, hi, hi3⟩ := rec_who h2
  obtain ⟨_, hs, hc⟩ := checkR_facts h2
  rcases h3 with ⟨e, q⟩ | ⟨e, q⟩
  · rw [q]
    exact h1
  · rw [q]
    have hr := done_right (c := r.c) hd hi3 hc
    rw [← hi] at hr
    refine checkH_mk hr.desk (by simp [hl]) (fun x hx' => ?_)
    rcases List.mem_or_eq_of_mem_set hx' with m | rfl
    · exact hx x m
    · unfold checkL
      rw [if_neg (by simp [inB]; omega), if_neg (by simp [hr.ans]), if_neg (by rintro ⟨q, _⟩; simp at q; omega)]
/-- A command that comes again is answered as it was, and not done again. -/
theorem next_again {h : PH} {r : PR} {a : PA} (hk : checkH h = 0) (hr : checkR r = 0) (hl : lastH h r.w = ⟨r.s, a⟩) : nextH h r = (h, a, 0) := by
  unfold nextH
  rw [if_neg (by simp [hk]), if_neg (by simp [hr]), if_pos (by rw [hl]), hl]
/-- One more of another hand, if it may be. -/
def tryH (h : PH) (r m : PR) : PH := if m.w = r.w then h else if (nextH h m).2.2 = 0 then (nextH h m).1 else h
theorem try_keeps {h : PH} {r m : PR} {a : PA} (hk : checkH h = 0) (hr : checkR r = 0) (hl : lastH h r.w = ⟨r.s, a⟩) : checkH (tryH h r m) = 0 ∧ lastH (tryH h r m) r.w = ⟨r.s, a⟩ := by
  unfold tryH
  split
  · exact ⟨hk, hl⟩
  · rename_i hne
    split
    · rename_i he
      obtain ⟨i, hi, hi3⟩ := rec_who hr
      refine ⟨next_right he, ?_⟩
      rw [hi, next_last he hi3, if_neg (by rw [← hi]; exact hne), ← hi, hl]
    · exact ⟨hk, hl⟩
/-- The hall behind a command: the answer stands there as the last. -/
theorem next_stands {h : PH} {r : PR} (k : (nextH h r).2.2 = 0) : checkH (nextH h r).1 = 0 ∧ checkR r = 0 ∧ lastH (nextH h r).1 r.w = ⟨r.s, (nextH h r).2.1⟩ := by
  obtain ⟨h1, h2, h3⟩ := nextH_ok k
  obtain ⟨i, hi, hi3⟩ := rec_who h2
  refine ⟨next_right k, h2, ?_⟩
  rw [hi, next_last k hi3, if_pos hi]

theorem replay_nil (h : PH) : replayF h [] = (h, 0) := rfl
theorem replay_cons (h : PH) (r : PR) (rs : List PR) : replayF h (r :: rs) = if (nextH h r).2.2 ≠ 0 then (zeroH, (nextH h r).2.2) else replayF (nextH h r).1 rs := rfl
/-- Records replayed in two parts are as replayed in one. -/
theorem replay_app : ∀ (a b : List PR) (h : PH), (replayF h a).2 = 0 → replayF h (a ++ b) = replayF (replayF h a).1 b
  | [], b, h, _ => rfl
  | r :: a, b, h, k => by
    rw [replay_cons] at k
    split at k
    · rename_i q; exact absurd k q
    · rename_i q
      rw [List.cons_append, replay_cons, replay_cons, if_neg q, if_neg q]
      exact replay_app a b _ k
end Go.Proofs.YtcmladgldjcdmaaDoor

/- The contract of hall.Next: it answers what the plain functions say, in new memory, and leaves what was there as it was; no condition but that the arguments read as data and the package's table is as its text lays it. -/
namespace Go.Proofs.YtcmladgldjcdmaaDoor
open Go.RowKit
set_option linter.unusedVariables false
set_option maxRecDepth 100000
set_option linter.unusedSimpArgs false

/-- What Next leaves. -/
def Nexts (r : PH × PA × Int) (w : World) (e : Ending) (w' : World) : Prop :=
  (∃ (h' : HV) (a' : AV), e = .returned (.tuple #[h'.v, a'.v, .int .i64 r.2.2]) ∧ h'.ok w' ∧ a'.ok w' ∧ h'.new w.heap.size ∧ a'.new w.heap.size ∧ h'.p = r.1 ∧ a'.p = r.2.1) ∧ Below w.heap.size w w'

/-- The four boxes of a call of Next. -/
theorem next_boxes (w : World) (H R : List Value) (th tr ta : TypeId) : 
    Lay ((((w.alloc (.cells H.toArray th)).alloc (.cells R.toArray tr)).alloc (.cells #[.slice none 0 0, .slice none 0 0, .int .i64 0, .int .i64 0, .slice none 0 0] th)).alloc (.cells #[.int .i64 0, .int .i64 0, .slice none 0 0] ta)) w.heap.size H ∧
    Lay ((((w.alloc (.cells H.toArray th)).alloc (.cells R.toArray tr)).alloc (.cells #[.slice none 0 0, .slice none 0 0, .int .i64 0, .int .i64 0, .slice none 0 0] th)).alloc (.cells #[.int .i64 0, .int .i64 0, .slice none 0 0] ta)) (w.heap.size + 1) R ∧
    Lay ((((w.alloc (.cells H.toArray th)).alloc (.cells R.toArray tr)).alloc (.cells #[.slice none 0 0, .slice none 0 0, .int .i64 0, .int .i64 0, .slice none 0 0] th)).alloc (.cells #[.int .i64 0, .int .i64 0, .slice none 0 0] ta)) (w.heap.size + 1 + 1) [.slice none 0 0, .slice none 0 0, .int .i64 0, .int .i64 0, .slice none 0 0] ∧
    Lay ((((w.alloc (.cells H.toArray th)).alloc (.cells R.toArray tr)).alloc (.cells #[.slice none 0 0, .slice none 0 0, .int .i64 0, .int .i64 0, .slice none 0 0] th)).alloc (.cells #[.int .i64 0, .int .i64 0, .slice none 0 0] ta)) (w.heap.size + 1 + 1 + 1) [.int .i64 0, .int .i64 0, .slice none 0 0] ∧
    Below w.heap.size w ((((w.alloc (.cells H.toArray th)).alloc (.cells R.toArray tr)).alloc (.cells #[.slice none 0 0, .slice none 0 0, .int .i64 0, .int .i64 0, .slice none 0 0] th)).alloc (.cells #[.int .i64 0, .int .i64 0, .slice none 0 0] ta)) := by
  have h0 := ((Lay.made w H th).below (belowA (Below.refl _ _) (.cells R.toArray tr))).below (belowA (belowA (Below.refl _ _) (.cells #[.slice none 0 0, .slice none 0 0, .int .i64 0, .int .i64 0, .slice none 0 0] th)) (.cells #[.int .i64 0, .int .i64 0, .slice none 0 0] ta))
  have h1 := (Lay.made1 w (.cells H.toArray th) R tr).below (belowA (belowA (Below.refl _ _) (.cells #[.slice none 0 0, .slice none 0 0, .int .i64 0, .int .i64 0, .slice none 0 0] th)) (.cells #[.int .i64 0, .int .i64 0, .slice none 0 0] ta))
  have h2 := (Lay.made1 (w.alloc (.cells H.toArray th)) (.cells R.toArray tr) [.slice none 0 0, .slice none 0 0, .int .i64 0, .int .i64 0, .slice none 0 0] th).below (belowA (Below.refl _ _) (.cells #[.int .i64 0, .int .i64 0, .slice none 0 0] ta))
  have h3 := Lay.made1 ((w.alloc (.cells H.toArray th)).alloc (.cells R.toArray tr)) (.cells #[.slice none 0 0, .slice none 0 0, .int .i64 0, .int .i64 0, .slice none 0 0] th) [.int .i64 0, .int .i64 0, .slice none 0 0] ta
  simp only [World.size_alloc] at h2 h3
  exact ⟨h0, h1, h2, h3, by (repeat first | exact bel0 | assumption | refine bel1 ?_ | refine bel2 ?_ | refine bel3 ?_ | refine belowT ?_ (by assumption) | refine bel5 ?_ (by simp; try omega))⟩

set_option maxRecDepth 100000 in
set_option maxHeartbeats 4000000 in
theorem Next_bad (h : HV) (r : RV) (w : World) (hS : Shapes w) (hk : h.ok w) (hr : r.ok w) (hbad : nextE h.p r.p ≠ 0) : Calls Tryd.prog 5 #[h.v, r.v] w fun e w' => Nexts (zeroH, zeroA, nextE h.p r.p) w e w' := by
  have H1 := hide (fun w' (hS' : Shapes w') (h' : h.ok w') (k' : r.ok w') => checkNext_c h r w' hS' h' k')
  have hne : (nextE h.p r.p != 0) = true := by simpa using hbad
  obtain ⟨x0, x1, x2, x3, bw⟩ := next_boxes w h.cells r.cells 30 34 38
  have hok := hk.below bw (Nat.le_refl _)
  have hrk := RV.ok.below hr bw (Nat.le_refl _)
  have hSw := hS.below bw
  clear hbad
  generalize nextE h.p r.p = ne at *
  rw [show h.v = .agg h.cells.toArray from rfl, show r.v = .agg r.cells.toArray from rfl] at *
  obtain ⟨⟨za, zn, zc, Z, ka, kn, kc, bk, bh, bt⟩, a, n, c, L⟩ := h
  obtain ⟨⟨rq, rs, ⟨k1, z1, u1, t1, d1⟩⟩, ra, rn, rc⟩ := r
  dsimp only [HV.cells, RV.cells] at *
  go_enter Tryd.func5, Tryd.ntmps5
  go_wp2_with fail
  refine (H1.out _ hSw hok hrk).mono ?_
  rintro e w1 ⟨rfl, hb1⟩
  replace x2 := x2.below hb1
  replace x3 := x3.below hb1
  replace bw := belowT bw hb1
  clear hb1 x0 x1 hok hrk hSw
  have e0 := x2.cell 0 _ rfl
  have e1 := x2.cell 1 _ rfl
  have e2 := x2.cell 2 _ rfl
  have e3 := x2.cell 3 _ rfl
  have e4 := x2.cell 4 _ rfl
  have f0 := x2.ice 0
  have f1 := x2.ice 1
  have f2 := x2.ice 2
  have f3 := x2.ice 3
  have f4 := x2.ice 4
  have g0 := x3.cell 0 _ rfl
  have g1 := x3.cell 1 _ rfl
  have g2 := x3.cell 2 _ rfl
  have k0 := x3.ice 0
  have k1 := x3.ice 1
  have k2 := x3.ice 2
  go_wp2
  have zB := ((((x2.set 0 (.slice none 0 0)).set 1 (.slice none 0 0)).set 2 (.int .i64 0)).set 3 (.int .i64 0)).set 4 (.slice none 0 0)
  have hbut := (((((ButI.refl (w.heap.size + 1 + 1) w1).step 0 (.slice none 0 0)).step 1 (.slice none 0 0)).step 2 (.int .i64 0)).step 3 (.int .i64 0)).step 4 (.slice none 0 0)
  generalize ((((w1.setCell ⟨w.heap.size + 1 + 1, 0, none⟩ (.slice none 0 0)).setCell ⟨w.heap.size + 1 + 1, 1, none⟩ (.slice none 0 0)).setCell ⟨w.heap.size + 1 + 1, 2, none⟩ (.int .i64 0)).setCell ⟨w.heap.size + 1 + 1, 3, none⟩ (.int .i64 0)).setCell ⟨w.heap.size + 1 + 1, 4, none⟩ (.slice none 0 0) = w2 at *
  have z0 := zB.cell 0 _ rfl
  have z1 := zB.cell 1 _ rfl
  have z2 := zB.cell 2 _ rfl
  have z3 := zB.cell 3 _ rfl
  have z4 := zB.cell 4 _ rfl
  replace x3 := x3.butI hbut (by omega)
  have b2 := bw.trans (hbut.below (B := w.heap.size) (by omega))
  clear z0 z1 z2 z3 z4 hbut
  have zA := ((x3.set 0 (.int .i64 0)).set 1 (.int .i64 0)).set 2 (.slice none 0 0)
  have hbu := (((ButI.refl (w.heap.size + 1 + 1 + 1) w2).step 0 (.int .i64 0)).step 1 (.int .i64 0)).step 2 (.slice none 0 0)
  replace zB := zB.butI hbu (by omega)
  generalize ((w2.setCell ⟨w.heap.size + 1 + 1 + 1, 0, none⟩ (.int .i64 0)).setCell ⟨w.heap.size + 1 + 1 + 1, 1, none⟩ (.int .i64 0)).setCell ⟨w.heap.size + 1 + 1 + 1, 2, none⟩ (.slice none 0 0) = w3 at *
  have z0 := zB.cell 0 _ rfl
  have z1 := zB.cell 1 _ rfl
  have z2 := zB.cell 2 _ rfl
  have z3 := zB.cell 3 _ rfl
  have z4 := zB.cell 4 _ rfl
  have v0 := zA.cell 0 _ rfl
  have v1 := zA.cell 1 _ rfl
  have v2 := zA.cell 2 _ rfl
  exact bodyPost_ret (v := .tuple #[.agg #[.slice none 0 0, .slice none 0 0, .int .i64 0, .int .i64 0, .slice none 0 0], .agg #[.int .i64 0, .int .i64 0, .slice none 0 0], .int .i64 ne]) (by simp [results, Tryd.results5, go_sem, z0, z1, z2, z3, z4, v0, v1, v2]) rfl
    ⟨⟨HV.zero, AV.err 0, rfl, HV.zero_ok _, AV.err_ok _ _, HV.zero_new _, AV.err_new _ _, rfl, rfl⟩, b2.trans (hbu.below (B := w.heap.size) (by omega))⟩

end Go.Proofs.YtcmladgldjcdmaaDoor

/- Worlds that part at two blocks alone; plain mathematics, no condition. -/
namespace Go.Proofs.YtcmladgldjcdmaaDoor
open Go.RowKit
set_option linter.unusedVariables false
set_option maxRecDepth 100000
set_option linter.unusedSimpArgs false

/-- w' is w, but that blocks G and g may hold other cells, and there may be more memory. -/
structure ButJ (G g : Nat) (w w' : World) : Prop where
  low : ∀ n, n ≤ G → n ≤ g → Below n w w'
  size : w.heap.size ≤ w'.heap.size
  cell : ∀ q : Addr, q.block < w.heap.size → q.block ≠ G → q.block ≠ g → w'.cell? q = w.cell? q
  ice : ∀ q : Addr, q.block < w.heap.size → w'.frozen? q = w.frozen? q
theorem ButJ.of_below {G g : Nat} {w w' : World} (h : Below w.heap.size w w') (hG : G ≤ w.heap.size) : ButJ G g w w' := ⟨fun n h1 _ => h.mono (by omega), h.size, fun q hq _ _ => h.cell hq, fun q hq => h.frozen hq⟩
theorem ButJ.left {G g : Nat} {w a b : World} (h : ButJ G g w a) (k : ButI G a b) : ButJ G g w b :=
  ⟨fun n h1 h2 => (h.low n h1 h2).trans (k.but.low.mono h1), Nat.le_trans h.size k.but.size, fun q hq h1 h2 => by rw [k.but.cell q (Nat.lt_of_lt_of_le hq h.size) h1, h.cell q hq h1 h2], fun q hq => by rw [k.ice q (Nat.lt_of_lt_of_le hq h.size), h.ice q hq]⟩
theorem ButJ.right {G g : Nat} {w a b : World} (h : ButJ G g w a) (k : ButI g a b) : ButJ G g w b :=
  ⟨fun n h1 h2 => (h.low n h1 h2).trans (k.but.low.mono h2), Nat.le_trans h.size k.but.size, fun q hq h1 h2 => by rw [k.but.cell q (Nat.lt_of_lt_of_le hq h.size) h2, h.cell q hq h1 h2], fun q hq => by rw [k.ice q (Nat.lt_of_lt_of_le hq h.size), h.ice q hq]⟩
theorem Lay.butJ {w w' : World} {B G g : Nat} {vs : List Value} (h : Lay w B vs) (hb : ButJ G g w w') (h1 : B ≠ G) (h2 : B ≠ g) : Lay w' B vs :=
  ⟨fun i v hv => by rw [hb.cell _ h.lt h1 h2]; exact h.cell i v hv, fun i => by rw [hb.ice _ h.lt]; exact h.ice i, Nat.lt_of_lt_of_le h.lt hb.size⟩

end Go.Proofs.YtcmladgldjcdmaaDoor

/- A desk and an answer laid into two boxes, in whatever order; plain mathematics, no condition. -/
namespace Go.Proofs.YtcmladgldjcdmaaDoor
open Go.RowKit
set_option linter.unusedVariables false
set_option maxRecDepth 100000
set_option linter.unusedSimpArgs false

theorem Lay.made2 (w : World) (o p : Obj) (vs : List Value) (t : TypeId) : Lay (((w.alloc o).alloc p).alloc (.cells vs.toArray t (0, 0))) (w.heap.size + 1 + 1) vs := by
  have h := Lay.made ((w.alloc o).alloc p) vs t
  simpa only [World.size_alloc] using h
/-- What two boxes hold then: a desk, an answer; what was there stays. -/
structure Two (W w : World) (B C : Nat) (d : DV) (x : AV) : Prop where
  b : Lay w B d.cells
  c : Lay w C [.int .i64 x.e, .int .i64 x.t, .slice x.a x.n x.c]
  d : d.ok w
  x : x.ok w
  low : Below W.heap.size W w
theorem laidB {w : World} {B : Nat} (d : DV) (xB : Lay w B [.slice none 0 0, .slice none 0 0, .int .i64 0, .int .i64 0]) : Lay (((((w).setCell ⟨B, 0, none⟩ (.slice d.za d.zn d.zc)).setCell ⟨B, 1, none⟩ (.slice d.ka d.kn d.kc)).setCell ⟨B, 2, none⟩ (.int .i64 d.b.h)).setCell ⟨B, 3, none⟩ (.int .i64 d.b.t)) B d.cells ∧ ButI B w (((((w).setCell ⟨B, 0, none⟩ (.slice d.za d.zn d.zc)).setCell ⟨B, 1, none⟩ (.slice d.ka d.kn d.kc)).setCell ⟨B, 2, none⟩ (.int .i64 d.b.h)).setCell ⟨B, 3, none⟩ (.int .i64 d.b.t)) := ⟨(((xB.set 0 _).set 1 _).set 2 _).set 3 _, ((((ButI.refl B w).step 0 _).step 1 _).step 2 _).step 3 _⟩
theorem laidC {w : World} {C : Nat} (x : AV) (xC : Lay w C [.int .i64 0, .int .i64 0, .slice none 0 0]) : Lay ((((w).setCell ⟨C, 0, none⟩ (.int .i64 x.e)).setCell ⟨C, 1, none⟩ (.int .i64 x.t)).setCell ⟨C, 2, none⟩ (.slice x.a x.n x.c)) C [.int .i64 x.e, .int .i64 x.t, .slice x.a x.n x.c] ∧ ButI C w ((((w).setCell ⟨C, 0, none⟩ (.int .i64 x.e)).setCell ⟨C, 1, none⟩ (.int .i64 x.t)).setCell ⟨C, 2, none⟩ (.slice x.a x.n x.c)) := ⟨((xC.set 0 _).set 1 _).set 2 _, (((ButI.refl C w).step 0 _).step 1 _).step 2 _⟩
theorem sizeB (w : World) (B : Nat) (d : DV) : (((((w).setCell ⟨B, 0, none⟩ (.slice d.za d.zn d.zc)).setCell ⟨B, 1, none⟩ (.slice d.ka d.kn d.kc)).setCell ⟨B, 2, none⟩ (.int .i64 d.b.h)).setCell ⟨B, 3, none⟩ (.int .i64 d.b.t)).heap.size = w.heap.size := by simp [World.setCell]
theorem sizeC (w : World) (C : Nat) (x : AV) : ((((w).setCell ⟨C, 0, none⟩ (.int .i64 x.e)).setCell ⟨C, 1, none⟩ (.int .i64 x.t)).setCell ⟨C, 2, none⟩ (.slice x.a x.n x.c)).heap.size = w.heap.size := by simp [World.setCell]
theorem two_bc {W w : World} {B C : Nat} {d : DV} {x : AV} (xB : Lay w B [.slice none 0 0, .slice none 0 0, .int .i64 0, .int .i64 0]) (xC : Lay w C [.int .i64 0, .int .i64 0, .slice none 0 0]) (hne : B ≠ C) (hB : W.heap.size ≤ B) (hC : W.heap.size ≤ C) (od : d.ok w) (ox : x.ok w) (dB : d.off B) (dC : d.off C) (aB : x.off B) (aC : x.off C) (low : Below W.heap.size W w) : Two W ((((((((w).setCell ⟨B, 0, none⟩ (.slice d.za d.zn d.zc)).setCell ⟨B, 1, none⟩ (.slice d.ka d.kn d.kc)).setCell ⟨B, 2, none⟩ (.int .i64 d.b.h)).setCell ⟨B, 3, none⟩ (.int .i64 d.b.t)).setCell ⟨C, 0, none⟩ (.int .i64 x.e)).setCell ⟨C, 1, none⟩ (.int .i64 x.t)).setCell ⟨C, 2, none⟩ (.slice x.a x.n x.c)) B C d x := by
  obtain ⟨h1, k1⟩ := laidB d xB
  have xC' := xC.butI k1 (Ne.symm hne)
  have o1 := od.but k1.but dB
  have a1 := AV.ok.but ox k1.but aB
  have l1 := low.trans (k1.below hB)
  generalize ((((w).setCell ⟨B, 0, none⟩ (.slice d.za d.zn d.zc)).setCell ⟨B, 1, none⟩ (.slice d.ka d.kn d.kc)).setCell ⟨B, 2, none⟩ (.int .i64 d.b.h)).setCell ⟨B, 3, none⟩ (.int .i64 d.b.t) = w' at *
  obtain ⟨h2, k2⟩ := laidC x xC'
  exact ⟨h1.butI k2 hne, h2, o1.but k2.but dC, AV.ok.but a1 k2.but aC, l1.trans (k2.below hC)⟩
theorem two_cb {W w : World} {B C : Nat} {d : DV} {x : AV} (xB : Lay w B [.slice none 0 0, .slice none 0 0, .int .i64 0, .int .i64 0]) (xC : Lay w C [.int .i64 0, .int .i64 0, .slice none 0 0]) (hne : B ≠ C) (hB : W.heap.size ≤ B) (hC : W.heap.size ≤ C) (od : d.ok w) (ox : x.ok w) (dB : d.off B) (dC : d.off C) (aB : x.off B) (aC : x.off C) (low : Below W.heap.size W w) : Two W ((((((((w).setCell ⟨C, 0, none⟩ (.int .i64 x.e)).setCell ⟨C, 1, none⟩ (.int .i64 x.t)).setCell ⟨C, 2, none⟩ (.slice x.a x.n x.c)).setCell ⟨B, 0, none⟩ (.slice d.za d.zn d.zc)).setCell ⟨B, 1, none⟩ (.slice d.ka d.kn d.kc)).setCell ⟨B, 2, none⟩ (.int .i64 d.b.h)).setCell ⟨B, 3, none⟩ (.int .i64 d.b.t)) B C d x := by
  obtain ⟨h1, k1⟩ := laidC x xC
  have xB' := xB.butI k1 hne
  have o1 := od.but k1.but dC
  have a1 := AV.ok.but ox k1.but aC
  have l1 := low.trans (k1.below hC)
  generalize (((w).setCell ⟨C, 0, none⟩ (.int .i64 x.e)).setCell ⟨C, 1, none⟩ (.int .i64 x.t)).setCell ⟨C, 2, none⟩ (.slice x.a x.n x.c) = w' at *
  obtain ⟨h2, k2⟩ := laidB d xB'
  exact ⟨h2, h1.butI k2 (Ne.symm hne), o1.but k2.but dB, AV.ok.but a1 k2.but aB, l1.trans (k2.below hB)⟩
theorem two_b {W w : World} {B : Nat} {d : DV} {x : AV} {t : TypeId} (xB : Lay w B [.slice none 0 0, .slice none 0 0, .int .i64 0, .int .i64 0]) (hB : W.heap.size ≤ B) (od : d.ok w) (ox : x.ok w) (dB : d.off B) (aB : x.off B) (low : Below W.heap.size W w) : Two W ((((((w).setCell ⟨B, 0, none⟩ (.slice d.za d.zn d.zc)).setCell ⟨B, 1, none⟩ (.slice d.ka d.kn d.kc)).setCell ⟨B, 2, none⟩ (.int .i64 d.b.h)).setCell ⟨B, 3, none⟩ (.int .i64 d.b.t)).alloc (.cells #[.int .i64 x.e, .int .i64 x.t, .slice x.a x.n x.c] t)) B w.heap.size d x := by
  obtain ⟨h1, k1⟩ := laidB d xB
  have hs := sizeB w B d
  have o1 := od.but k1.but dB
  have a1 := AV.ok.but ox k1.but aB
  have l1 := low.trans (k1.below hB)
  generalize ((((w).setCell ⟨B, 0, none⟩ (.slice d.za d.zn d.zc)).setCell ⟨B, 1, none⟩ (.slice d.ka d.kn d.kc)).setCell ⟨B, 2, none⟩ (.int .i64 d.b.h)).setCell ⟨B, 3, none⟩ (.int .i64 d.b.t) = w' at *
  have hn := belowA (Below.refl _ w') (.cells #[.int .i64 x.e, .int .i64 x.t, .slice x.a x.n x.c] t)
  have hm := Lay.made w' [.int .i64 x.e, .int .i64 x.t, .slice x.a x.n x.c] t
  rw [hs] at hm
  exact ⟨h1.below hn, hm, o1.below hn (Nat.le_refl _), AV.ok.below a1 hn (Nat.le_refl _), belowT l1 hn⟩
theorem two_c {W w : World} {C : Nat} {d : DV} {x : AV} {t : TypeId} (xC : Lay w C [.int .i64 0, .int .i64 0, .slice none 0 0]) (hC : W.heap.size ≤ C) (od : d.ok w) (ox : x.ok w) (dC : d.off C) (aC : x.off C) (low : Below W.heap.size W w) : Two W (((((w).setCell ⟨C, 0, none⟩ (.int .i64 x.e)).setCell ⟨C, 1, none⟩ (.int .i64 x.t)).setCell ⟨C, 2, none⟩ (.slice x.a x.n x.c)).alloc (.cells #[.slice d.za d.zn d.zc, .slice d.ka d.kn d.kc, .int .i64 d.b.h, .int .i64 d.b.t] t)) w.heap.size C d x := by
  obtain ⟨h1, k1⟩ := laidC x xC
  have hs := sizeC w C x
  have o1 := od.but k1.but dC
  have a1 := AV.ok.but ox k1.but aC
  have l1 := low.trans (k1.below hC)
  generalize (((w).setCell ⟨C, 0, none⟩ (.int .i64 x.e)).setCell ⟨C, 1, none⟩ (.int .i64 x.t)).setCell ⟨C, 2, none⟩ (.slice x.a x.n x.c) = w' at *
  have hn := belowA (Below.refl _ w') (.cells #[.slice d.za d.zn d.zc, .slice d.ka d.kn d.kc, .int .i64 d.b.h, .int .i64 d.b.t] t)
  have hm := Lay.made w' [.slice d.za d.zn d.zc, .slice d.ka d.kn d.kc, .int .i64 d.b.h, .int .i64 d.b.t] t
  rw [hs] at hm
  exact ⟨hm, h1.below hn, o1.below hn (Nat.le_refl _), AV.ok.below a1 hn (Nat.le_refl _), belowT l1 hn⟩
theorem two_dx {W w : World} {d : DV} {x : AV} {s t : TypeId} (od : d.ok w) (ox : x.ok w) (low : Below W.heap.size W w) : Two W ((w.alloc (.cells #[.slice d.za d.zn d.zc, .slice d.ka d.kn d.kc, .int .i64 d.b.h, .int .i64 d.b.t] s)).alloc (.cells #[.int .i64 x.e, .int .i64 x.t, .slice x.a x.n x.c] t)) w.heap.size (w.heap.size + 1) d x := by
  have hn := belowA (belowA (Below.refl w.heap.size w) (.cells #[.slice d.za d.zn d.zc, .slice d.ka d.kn d.kc, .int .i64 d.b.h, .int .i64 d.b.t] s)) (.cells #[.int .i64 x.e, .int .i64 x.t, .slice x.a x.n x.c] t)
  exact ⟨(Lay.made w [.slice d.za d.zn d.zc, .slice d.ka d.kn d.kc, .int .i64 d.b.h, .int .i64 d.b.t] s).below (belowA (Below.refl _ _) _), Lay.made1 w _ [.int .i64 x.e, .int .i64 x.t, .slice x.a x.n x.c] t, od.below hn (Nat.le_refl _), AV.ok.below ox hn (Nat.le_refl _), belowT low hn⟩
theorem two_xd {W w : World} {d : DV} {x : AV} {s t : TypeId} (od : d.ok w) (ox : x.ok w) (low : Below W.heap.size W w) : Two W ((w.alloc (.cells #[.int .i64 x.e, .int .i64 x.t, .slice x.a x.n x.c] s)).alloc (.cells #[.slice d.za d.zn d.zc, .slice d.ka d.kn d.kc, .int .i64 d.b.h, .int .i64 d.b.t] t)) (w.heap.size + 1) w.heap.size d x := by
  have hn := belowA (belowA (Below.refl w.heap.size w) (.cells #[.int .i64 x.e, .int .i64 x.t, .slice x.a x.n x.c] s)) (.cells #[.slice d.za d.zn d.zc, .slice d.ka d.kn d.kc, .int .i64 d.b.h, .int .i64 d.b.t] t)
  exact ⟨Lay.made1 w _ [.slice d.za d.zn d.zc, .slice d.ka d.kn d.kc, .int .i64 d.b.h, .int .i64 d.b.t] t, (Lay.made w [.int .i64 x.e, .int .i64 x.t, .slice x.a x.n x.c] s).below (belowA (Below.refl _ _) _), od.below hn (Nat.le_refl _), AV.ok.below ox hn (Nat.le_refl _), belowT low hn⟩
/-- A box that was made behind another one's change. -/
theorem lay_pastB (w : World) (B : Nat) (d : DV) (vs : List Value) (t : TypeId) : Lay ((((((w).setCell ⟨B, 0, none⟩ (.slice d.za d.zn d.zc)).setCell ⟨B, 1, none⟩ (.slice d.ka d.kn d.kc)).setCell ⟨B, 2, none⟩ (.int .i64 d.b.h)).setCell ⟨B, 3, none⟩ (.int .i64 d.b.t)).alloc (.cells vs.toArray t)) w.heap.size vs := by
  have h := Lay.made (((((w).setCell ⟨B, 0, none⟩ (.slice d.za d.zn d.zc)).setCell ⟨B, 1, none⟩ (.slice d.ka d.kn d.kc)).setCell ⟨B, 2, none⟩ (.int .i64 d.b.h)).setCell ⟨B, 3, none⟩ (.int .i64 d.b.t)) vs t
  rw [sizeB] at h
  exact h
theorem lay_pastC (w : World) (C : Nat) (x : AV) (vs : List Value) (t : TypeId) : Lay (((((w).setCell ⟨C, 0, none⟩ (.int .i64 x.e)).setCell ⟨C, 1, none⟩ (.int .i64 x.t)).setCell ⟨C, 2, none⟩ (.slice x.a x.n x.c)).alloc (.cells vs.toArray t)) w.heap.size vs := by
  have h := Lay.made ((((w).setCell ⟨C, 0, none⟩ (.int .i64 x.e)).setCell ⟨C, 1, none⟩ (.int .i64 x.t)).setCell ⟨C, 2, none⟩ (.slice x.a x.n x.c)) vs t
  rw [sizeC] at h
  exact h

end Go.Proofs.YtcmladgldjcdmaaDoor
