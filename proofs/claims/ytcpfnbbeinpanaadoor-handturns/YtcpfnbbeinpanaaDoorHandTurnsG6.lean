/- Two boxes, newly made; plain mathematics, no condition. -/
import Derived.Test.YtcpfnbbeinpanaaDoorHandTurnsG3
import Derived.Test.YtcpfnbbeinpanaaDoorHandTurnsG5
import Derived.Test.YtcpfnbbeinpanaaDoorHandTurnsG1
import Derived.Deep.Light
import Derived.Deep.RegionHeld3
import Derived.Shelf.Strings.Search1
import Derived.Shelf.Strings.Search2
import Derived.Shelf.Strings.Search3
import Derived.Shelf.LaysM
import Derived.Shelf.Strings.Shaped
import Derived.Shelf.Slices.Equal
import Derived.Shelf.Slices.Empties2
import Derived.Test.YtcpfnbbeinpanaaDoorProg
import Derived.Test.YtcpfnbbeinpanaaDoorHandTurnsG4
import Derived.BigQuiet
import Derived.Test.YtcpfnbbeinpanaaDoorHandTurnsG2
namespace Go.Proofs.YtcpfnbbeinpanaaDoor
open Go.RowKit
set_option linter.unusedVariables false
set_option maxRecDepth 100000
set_option linter.unusedSimpArgs false

/-- A desk's box and an answer's, newly made. -/
theorem two_boxes (w : World) (D A : List Value) (s t : TypeId) : Lay ((w.alloc (.cells D.toArray s)).alloc (.cells A.toArray t)) w.heap.size D ∧ Lay ((w.alloc (.cells D.toArray s)).alloc (.cells A.toArray t)) (w.heap.size + 1) A ∧ Below w.heap.size w ((w.alloc (.cells D.toArray s)).alloc (.cells A.toArray t)) :=
  ⟨(Lay.made w D s).below (belowA (Below.refl _ _) _), Lay.made1 w _ A t, by (repeat (first | exact Below.refl _ _ | assumption | refine Below.drew ?_ | refine below_drewN ?_ _ | refine belowA ?_ _ | refine belowT ?_ (by assumption) | refine Below.setCell ?_ (by first | (simp; done) | (simp; omega)) _))⟩

end Go.Proofs.YtcpfnbbeinpanaaDoor

/- The contract of desk.Do in plain words, and the law's closed fact on desks; no condition but that the package's table is as its text lays it. -/
namespace Go.Proofs.YtcpfnbbeinpanaaDoor
open Go.RowKit
set_option linter.unusedVariables false
set_option maxRecDepth 100000
set_option linter.unusedSimpArgs false

end Go.Proofs.YtcpfnbbeinpanaaDoor

/- The contracts of the document's own answers on books: FreshBook, CheckBook, SameBook, Might; no condition but that the keys read as a list. -/
namespace Go.Proofs.YtcpfnbbeinpanaaDoor
open Go.RowKit
set_option linter.unusedVariables false
set_option maxRecDepth 100000
set_option linter.unusedSimpArgs false

end Go.Proofs.YtcpfnbbeinpanaaDoor

/- The contracts of the document's own CheckDesk, SameDesk, CheckAnswer, SameAnswer and FreshDesk; no condition but that the arguments read as data. -/
namespace Go.Proofs.YtcpfnbbeinpanaaDoor
open Go.RowKit
set_option linter.unusedVariables false
set_option maxRecDepth 100000
set_option linter.unusedSimpArgs false

end Go.Proofs.YtcpfnbbeinpanaaDoor

/-
  DERIVED: THE SHELF's CONTRACTS AT THIS DUMP, IN PLAIN WORDS (tools/lay-plain.mjs out of 'TrydShelf.lean', which tools/lay-shelf.mjs wrote): THE SAME DECLARATIONS UNDER THE SAME NAMES: 'import', 'namespace', 'open', 'def', 'theorem' AND NOTHING ELSE: no command of the shelf's: FOR A HAND-IN. Each laying: the table of numbers ('.._ren') and one theorem, a field a fact of the dump's own or the kernel's comparison; each contract: ONE APPLICATION.
-/
namespace Go.Proofs
open Go.Shelf
end Go.Proofs

/- The contracts of the document's own answers on commands: has, SameCmd, CheckCmd; no condition but that the data reads as a list. -/
namespace Go.Proofs.YtcpfnbbeinpanaaDoor
open Go.RowKit
set_option linter.unusedVariables false
set_option maxRecDepth 100000
set_option linter.unusedSimpArgs false

end Go.Proofs.YtcpfnbbeinpanaaDoor

/- The contracts of the document's own SameHand, and of slices.EqualFunc on answers by SameAnswer; no condition but that the arguments read as data. -/
namespace Go.Proofs.YtcpfnbbeinpanaaDoor
open Go.RowKit
set_option linter.unusedVariables false
set_option maxRecDepth 100000
set_option linter.unusedSimpArgs false

end Go.Proofs.YtcpfnbbeinpanaaDoor

/- The contract of the document's own CheckCmd; no condition but that the data reads as a list. -/
namespace Go.Proofs.YtcpfnbbeinpanaaDoor
open Go.RowKit
set_option linter.unusedVariables false
set_option maxRecDepth 100000
set_option linter.unusedSimpArgs false

end Go.Proofs.YtcpfnbbeinpanaaDoor

/- One more than a length; plain mathematics, no condition. -/
namespace Go.Proofs.YtcpfnbbeinpanaaDoor
open Go.RowKit
set_option linter.unusedVariables false
set_option maxRecDepth 100000
set_option linter.unusedSimpArgs false

/-- One more than a length, as the machine reckons it, is a small number only if it is that. -/
theorem len_more (n : Nat) (s : Int) (hn : n ≤ 9223372036854775807) (hs : inB s 0 40 = true) : ∃ m : Int, IntKind.i64.wrap ((n : Int) + 1) = m ∧ (s != m) = !decide (s = (n : Int) + 1) := by
  have hs' : 0 ≤ s ∧ s ≤ 40 := by simp [inB] at hs; omega
  by_cases h : n = 9223372036854775807
  · subst h
    refine ⟨-9223372036854775808, by decide, ?_⟩
    have e1 : (s != -9223372036854775808) = true := by simp; omega
    rw [e1, Bool.eq_iff_iff]
    simp
    omega
  · refine ⟨(n : Int) + 1, IntWalk.i64_in _ ⟨by omega, by omega⟩, ?_⟩
    rw [Bool.eq_iff_iff]
    simp

end Go.Proofs.YtcpfnbbeinpanaaDoor

/- The contract of the document's own CheckHand; no condition but that the argument reads as data. -/
namespace Go.Proofs.YtcpfnbbeinpanaaDoor
open Go.RowKit
set_option linter.unusedVariables false
set_option maxRecDepth 100000
set_option linter.unusedSimpArgs false

end Go.Proofs.YtcpfnbbeinpanaaDoor

/- Three boxes, newly made; plain mathematics, no condition. -/
namespace Go.Proofs.YtcpfnbbeinpanaaDoor
open Go.RowKit
set_option linter.unusedVariables false
set_option maxRecDepth 100000
set_option linter.unusedSimpArgs false

theorem three_boxes (w : World) (H R G : List Value) (s t u : TypeId) :
    Lay (((w.alloc (.cells H.toArray s)).alloc (.cells R.toArray t)).alloc (.cells G.toArray u)) w.heap.size H ∧ Lay (((w.alloc (.cells H.toArray s)).alloc (.cells R.toArray t)).alloc (.cells G.toArray u)) (w.heap.size + 1) R ∧ Lay (((w.alloc (.cells H.toArray s)).alloc (.cells R.toArray t)).alloc (.cells G.toArray u)) (w.heap.size + 1 + 1) G ∧ Below w.heap.size w (((w.alloc (.cells H.toArray s)).alloc (.cells R.toArray t)).alloc (.cells G.toArray u)) := by
  have h0 := (Lay.made w H s).below (belowA (belowA (Below.refl _ _) (.cells R.toArray t)) (.cells G.toArray u))
  have h1 := (Lay.made1 w (.cells H.toArray s) R t).below (belowA (Below.refl _ _) (.cells G.toArray u))
  have h2 := Lay.made1 (w.alloc (.cells H.toArray s)) (.cells R.toArray t) G u
  simp only [World.size_alloc] at h2
  exact ⟨h0, h1, h2, by (repeat (first | exact Below.refl _ _ | assumption | refine Below.drew ?_ | refine below_drewN ?_ _ | refine belowA ?_ _ | refine belowT ?_ (by assumption) | refine Below.setCell ?_ (by first | (simp; done) | (simp; omega)) _))⟩

end Go.Proofs.YtcpfnbbeinpanaaDoor

/- The contract of the document's own Asks; no condition but that the arguments read as data. -/
namespace Go.Proofs.YtcpfnbbeinpanaaDoor
open Go.RowKit
set_option linter.unusedVariables false
set_option maxRecDepth 100000
set_option linter.unusedSimpArgs false

end Go.Proofs.YtcpfnbbeinpanaaDoor

/- What the calls of package hand answer; plain mathematics, no condition. -/
namespace Go.Proofs.YtcpfnbbeinpanaaDoor
open Go.RowKit
set_option linter.unusedVariables false
set_option maxRecDepth 100000
set_option linter.unusedSimpArgs false

/-- What a call answers: a hand in new memory, an error. -/
def HandNew (r : PN × Int) (w : World) (e : Ending) (w' : World) : Prop :=
  (∃ h' : NV, e = .returned (.tuple #[h'.v, .int .i64 r.2]) ∧ h'.ok w' ∧ h'.new w.heap.size ∧ h'.p = r.1) ∧ Below w.heap.size w w'

end Go.Proofs.YtcpfnbbeinpanaaDoor

/- The contracts of hand's small functions: list, wholeAnswer, wholeCmd, sameAnswer; Same; no condition but that the arguments read as data. -/
namespace Go.Proofs.YtcpfnbbeinpanaaDoor
open Go.RowKit
set_option linter.unusedVariables false
set_option maxRecDepth 100000
set_option linter.unusedSimpArgs false

set_option maxHeartbeats 1000000 in
theorem jlist_c (a : Option Addr) (n c : Nat) (l : List Int) (w : World) (h : Ints w a n c l) (hn : n ≤ 100000) :
    Calls Tryd.prog 40 #[.slice a n c] w fun e w' => (∃ q, e = .returned (.slice (some ⟨q, 0, none⟩) n n) ∧ Ints w' (some ⟨q, 0, none⟩) n n l ∧ w.heap.size ≤ q ∧ q < w'.heap.size) ∧ Below w.heap.size w w' := by
  have n2 : (n : Int) ≤ 100000 := by omega
  have hmk := run_make_row' (P := Tryd.prog) 22 3 (.int .i64 0) 8 Tryd.underlying22 infoInt rfl .i64 .i64 n (by omega) (by omega)
  go_enter Tryd.func40, Tryd.ntmps40
  go_wp2_with fail
  obtain ⟨w2, r2, g2, b2⟩ := copy_run (P := Tryd.prog) (w.alloc (.cells (madeCells #[.int .i64 0] n) 3)) 22 22 3 3 Tryd.underlying22 sizeInt (some ⟨w.heap.size, 0, none⟩) a n n n c w.heap.size 0
    (madeCells #[.int .i64 0] n).toList 3 (heap_new _ _) (cellsOf l) (by rw [cellsOf_len, h.len]; exact (Nat.min_self n).symm) (fun hp => ⟨rfl, (h.below (B := w.heap.size) (by (repeat (first | exact Below.refl _ _ | assumption | refine Below.drew ?_ | refine below_drewN ?_ _ | refine belowA ?_ _ | refine belowT ?_ (by assumption) | refine Below.setCell ?_ (by first | (simp; done) | (simp; omega)) _))) (Nat.le_refl _)).src (by rw [cellsOf_len, h.len] at hp; exact hp)⟩) (by simp [size_madeCells, cellsOf_len, h.len]) (cellsOf_one l)
  rw [r2]
  have G2 := hide g2
  clear g2 r2
  go_wp2
  go_ret
  have g2 := G2.out
  rw [splice_one _ _ (by simp [size_madeCells, cellsOf_len, h.len])] at g2
  exact ⟨⟨_, rfl, Ints.of_row g2 (by rw [h.len]; omega) h.wf h.len, Nat.le_refl _, (Array.getElem?_eq_some_iff.1 g2).1⟩, (belowA (Below.refl _ _) _).trans b2⟩


set_option maxHeartbeats 2000000 in
theorem jwholeA_c (x : AV) (w : World) (h : x.ok w) (hn : x.n ≤ 100000) :
    Calls Tryd.prog 23 #[x.v] w fun e w' => (∃ q, e = .returned (.agg #[.int .i64 x.e, .int .i64 x.t, .slice (some ⟨q, 0, none⟩) x.n x.n]) ∧ Ints w' (some ⟨q, 0, none⟩) x.n x.n x.d ∧ w.heap.size ≤ q ∧ q < w'.heap.size) ∧ Below w.heap.size w w' := by
  obtain ⟨ee, tt, a, n, c, l⟩ := x
  have hI : Ints w a n c l := h
  dsimp only [AV.v] at *
  obtain ⟨x0, x1, x2, bw⟩ := three_boxes w [.int .i64 ee, .int .i64 tt, .slice a n c] [.int .i64 0, .int .i64 0, .slice none 0 0] [.int .i64 ee, .int .i64 tt, .slice a n c] 30 30 30
  replace hI := hI.below bw (Nat.le_refl _)
  go_enter Tryd.func23, Tryd.ntmps23
  go_upto_region 2 with fail
  generalize ((w.alloc (.cells [.int .i64 ee, .int .i64 tt, .slice a n c].toArray 30)).alloc (.cells [.int .i64 0, .int .i64 0, .slice none 0 0].toArray 30)).alloc (.cells [.int .i64 ee, .int .i64 tt, .slice a n c].toArray 30) = w1 at *
  have c2 := x0.cell 2 _ rfl
  go_wp2_with fail
  refine (jlist_c a n c l _ hI hn).mono ?_
  rintro e w2 ⟨⟨q, rfl, iq, hq, hq2⟩, hb2⟩
  have hqw : w.heap.size + 1 + 1 < q := by have := x2.lt; omega
  clear c2 hq x0
  replace x1 := x1.below hb2
  replace x2 := x2.below hb2
  replace bw := belowT bw hb2
  clear hb2
  have e2 := x2.cell 2 _ rfl
  have f2 := x2.ice 2
  go_upto_region 3 with fail
  have hbu := (ButI.refl (w.heap.size + 1 + 1) w2).step 2 (.slice (some ⟨q, 0, none⟩) n n)
  have y2 : Lay _ _ [.int .i64 ee, .int .i64 tt, .slice (some ⟨q, 0, none⟩) n n] := x2.set 2 (.slice (some ⟨q, 0, none⟩) n n)
  have xR := x1.butI hbu (by omega)
  replace iq := iq.but hbu.but (.inr fun x e => by cases e; simp; omega)
  replace bw := bw.trans (hbu.below (B := w.heap.size) (by omega))
  have hsz := hbu.but.size
  clear e2 f2 x2 x1 hbu
  generalize w2.setCell ⟨w.heap.size + 1 + 1, 2, none⟩ (.slice (some ⟨q, 0, none⟩) n n) = w3 at *
  have a0 := y2.cell 0 _ rfl
  have a1 := y2.cell 1 _ rfl
  have a2 := y2.cell 2 _ rfl
  have e0 := xR.cell 0 _ rfl
  have e1 := xR.cell 1 _ rfl
  have e2 := xR.cell 2 _ rfl
  have f0 := xR.ice 0
  have f1 := xR.ice 1
  have f2 := xR.ice 2
  go_wp2
  have zB := ((xR.set 0 (.int .i64 (ee))).set 1 (.int .i64 (tt))).set 2 (.slice (some ⟨q, 0, none⟩) n n)
  have hbut := (((ButI.refl (w.heap.size + 1) (w3)).step 0 (.int .i64 (ee))).step 1 (.int .i64 (tt))).step 2 (.slice (some ⟨q, 0, none⟩) n n)
  generalize (((w3).setCell ⟨w.heap.size + 1, 0, none⟩ (.int .i64 (ee))).setCell ⟨w.heap.size + 1, 1, none⟩ (.int .i64 (tt))).setCell ⟨w.heap.size + 1, 2, none⟩ (.slice (some ⟨q, 0, none⟩) n n) = w9 at *
  have z0 := zB.cell 0 _ rfl
  have z1 := zB.cell 1 _ rfl
  have z2 := zB.cell 2 _ rfl
  exact bodyPost_ret (v := .agg #[.int .i64 ee, .int .i64 tt, .slice (some ⟨q, 0, none⟩) n n]) (by simp [results, Tryd.results23, go_sem, z0, z1, z2]) rfl
    ⟨⟨q, rfl, iq.but hbut.but (.inr fun x e => by cases e; simp; omega), by omega, by have := hbut.but.size; omega⟩, bw.trans (hbut.below (B := w.heap.size) (by omega))⟩


set_option maxHeartbeats 2000000 in
theorem jwholeC_c (a : Option Addr) (n c : Nat) (b : PC) (w : World) (h : Ints w a n c b.d) (hn : n ≤ 100000) :
    Calls Tryd.prog 21 #[cmdV a n c b] w fun e w' => (∃ q, e = .returned (cmdV (some ⟨q, 0, none⟩) n n b) ∧ Ints w' (some ⟨q, 0, none⟩) n n b.d ∧ w.heap.size ≤ q ∧ q < w'.heap.size) ∧ Below w.heap.size w w' := by
  obtain ⟨k, z, u, t, l⟩ := b
  unfold cmdV
  dsimp only at *
  obtain ⟨x0, x1, x2, bw⟩ := three_boxes w [.int .i64 k, .int .i64 z, .int .i64 u, .int .i64 t, .slice a n c] [.int .i64 0, .int .i64 0, .int .i64 0, .int .i64 0, .slice none 0 0] [.int .i64 k, .int .i64 z, .int .i64 u, .int .i64 t, .slice a n c] 24 24 24
  replace h := h.below bw (Nat.le_refl _)
  go_enter Tryd.func21, Tryd.ntmps21
  go_upto_region 2 with fail
  generalize ((w.alloc (.cells [.int .i64 k, .int .i64 z, .int .i64 u, .int .i64 t, .slice a n c].toArray 24)).alloc (.cells [.int .i64 0, .int .i64 0, .int .i64 0, .int .i64 0, .slice none 0 0].toArray 24)).alloc (.cells [.int .i64 k, .int .i64 z, .int .i64 u, .int .i64 t, .slice a n c].toArray 24) = w1 at *
  have c4 := x0.cell 4 _ rfl
  go_wp2_with fail
  refine (jlist_c a n c l _ h hn).mono ?_
  rintro e w2 ⟨⟨q, rfl, iq, hq, hq2⟩, hb2⟩
  have hqw : w.heap.size + 1 + 1 < q := by have := x2.lt; omega
  clear c4 hq x0
  replace x1 := x1.below hb2
  replace x2 := x2.below hb2
  replace bw := belowT bw hb2
  clear hb2
  have e4 := x2.cell 4 _ rfl
  have f4 := x2.ice 4
  go_upto_region 3 with fail
  have hbu := (ButI.refl (w.heap.size + 1 + 1) w2).step 4 (.slice (some ⟨q, 0, none⟩) n n)
  have y2 : Lay _ _ [.int .i64 k, .int .i64 z, .int .i64 u, .int .i64 t, .slice (some ⟨q, 0, none⟩) n n] := x2.set 4 (.slice (some ⟨q, 0, none⟩) n n)
  have xR := x1.butI hbu (by omega)
  replace iq := iq.but hbu.but (.inr fun x e => by cases e; simp; omega)
  replace bw := bw.trans (hbu.below (B := w.heap.size) (by omega))
  have hsz := hbu.but.size
  clear e4 f4 x2 x1 hbu
  generalize w2.setCell ⟨w.heap.size + 1 + 1, 4, none⟩ (.slice (some ⟨q, 0, none⟩) n n) = w3 at *
  have a0 := y2.cell 0 _ rfl
  have a1 := y2.cell 1 _ rfl
  have a2 := y2.cell 2 _ rfl
  have a3 := y2.cell 3 _ rfl
  have a4 := y2.cell 4 _ rfl
  have e0 := xR.cell 0 _ rfl
  have e1 := xR.cell 1 _ rfl
  have e2 := xR.cell 2 _ rfl
  have e3 := xR.cell 3 _ rfl
  have e4 := xR.cell 4 _ rfl
  have f0 := xR.ice 0
  have f1 := xR.ice 1
  have f2 := xR.ice 2
  have f3 := xR.ice 3
  have f4 := xR.ice 4
  go_wp2
  have zB := ((((xR.set 0 (.int .i64 k)).set 1 (.int .i64 z)).set 2 (.int .i64 u)).set 3 (.int .i64 t)).set 4 (.slice (some ⟨q, 0, none⟩) n n)
  have hbut := (((((ButI.refl (w.heap.size + 1) w3).step 0 (.int .i64 k)).step 1 (.int .i64 z)).step 2 (.int .i64 u)).step 3 (.int .i64 t)).step 4 (.slice (some ⟨q, 0, none⟩) n n)
  generalize ((((w3.setCell ⟨w.heap.size + 1, 0, none⟩ (.int .i64 k)).setCell ⟨w.heap.size + 1, 1, none⟩ (.int .i64 z)).setCell ⟨w.heap.size + 1, 2, none⟩ (.int .i64 u)).setCell ⟨w.heap.size + 1, 3, none⟩ (.int .i64 t)).setCell ⟨w.heap.size + 1, 4, none⟩ (.slice (some ⟨q, 0, none⟩) n n) = w9 at *
  have z0 := zB.cell 0 _ rfl
  have z1 := zB.cell 1 _ rfl
  have z2 := zB.cell 2 _ rfl
  have z3 := zB.cell 3 _ rfl
  have z4 := zB.cell 4 _ rfl
  exact bodyPost_ret (v := .agg #[.int .i64 k, .int .i64 z, .int .i64 u, .int .i64 t, .slice (some ⟨q, 0, none⟩) n n]) (by simp [results, Tryd.results21, go_sem, z0, z1, z2, z3, z4]) rfl
    ⟨⟨q, rfl, iq.but hbut.but (.inr fun x e => by cases e; simp; omega), by omega, by have := hbut.but.size; omega⟩, bw.trans (hbut.below (B := w.heap.size) (by omega))⟩


theorem jsameA_c (x y : AV) (w : World) (hx : x.ok w) (hy : y.ok w) : Calls Tryd.prog 32 #[x.v, y.v] w fun e w' => e = .returned (.bool (sameA x.p y.p)) ∧ Below w.heap.size w w' := by
  obtain ⟨e1, t1, a1, n1, c1, l1⟩ := x
  obtain ⟨e2, t2, a2, n2, c2, l2⟩ := y
  dsimp only [AV.v, AV.p]
  have h1 : Ints w a1 n1 c1 l1 := hx
  have h2 : Ints w a2 n2 c2 l2 := hy
  have HS : Hid (sameA ⟨e1, t1, l1⟩ ⟨e2, t2, l2⟩ = (e1 == e2 && (t1 == t2 && decide (l1 = l2)))) := hide (by rw [Bool.eq_iff_iff]; simp [sameA])
  cases he : e1 == e2
  · go_enter Tryd.func32, Tryd.ntmps32
    go_wp2
    go_ret
    exact ⟨ret_bool (by rw [HS.out, he]; rfl), by (repeat (first | exact Below.refl _ _ | assumption | refine Below.drew ?_ | refine below_drewN ?_ _ | refine belowA ?_ _ | refine belowT ?_ (by assumption) | refine Below.setCell ?_ (by first | (simp; done) | (simp; omega)) _))⟩
  · cases ht : t1 == t2
    · go_enter Tryd.func32, Tryd.ntmps32
      go_wp2
      go_ret
      exact ⟨ret_bool (by rw [HS.out, he, ht]; rfl), by (repeat (first | exact Below.refl _ _ | assumption | refine Below.drew ?_ | refine below_drewN ?_ _ | refine belowA ?_ _ | refine belowT ?_ (by assumption) | refine Below.setCell ?_ (by first | (simp; done) | (simp; omega)) _))⟩
    · go_enter Tryd.func32, Tryd.ntmps32
      go_wp2_with fail
      refine (Equal_c a1 a2 n1 n2 c1 c2 l1 l2 _ (h1.below (B := w.heap.size) (by (repeat (first | exact Below.refl _ _ | assumption | refine Below.drew ?_ | refine below_drewN ?_ _ | refine belowA ?_ _ | refine belowT ?_ (by assumption) | refine Below.setCell ?_ (by first | (simp; done) | (simp; omega)) _))) (Nat.le_refl _)) (h2.below (B := w.heap.size) (by (repeat (first | exact Below.refl _ _ | assumption | refine Below.drew ?_ | refine below_drewN ?_ _ | refine belowA ?_ _ | refine belowT ?_ (by assumption) | refine Below.setCell ?_ (by first | (simp; done) | (simp; omega)) _))) (Nat.le_refl _))).mono ?_
      rintro e w1 ⟨rfl, q, rfl⟩
      go_wp2
      go_ret
      exact ⟨ret_bool (by rw [HS.out, he, ht]; simp), by (repeat (first | exact Below.refl _ _ | assumption | refine Below.drew ?_ | refine below_drewN ?_ _ | refine belowA ?_ _ | refine belowT ?_ (by assumption) | refine Below.setCell ?_ (by first | (simp; done) | (simp; omega)) _))⟩


set_option maxRecDepth 100000 in
set_option maxHeartbeats 4000000 in
theorem EqAN_some (b1 o1 m1 b2 o2 m2 n : Nat) (X Y : List AV) (w : World) (h1 : Answers w (some ⟨b1, o1, none⟩) n m1 X) (h2 : Answers w (some ⟨b2, o2, none⟩) n m2 Y)
    (hr1 : ∀ i x, X[i]? = some x → ∀ j v, x.cells[j]? = some v → w.cell? ⟨b1, o1 + i * 3 + j, none⟩ = some v)
    (hr2 : ∀ i x, Y[i]? = some x → ∀ j v, x.cells[j]? = some v → w.cell? ⟨b2, o2 + i * 3 + j, none⟩ = some v) :
    Calls Tryd.prog 31 #[.slice (some ⟨b1, o1, none⟩) n m1, .slice (some ⟨b2, o2, none⟩) n m2, .func (Fn.func 32) #[] #[]] w fun e w' => e = .returned (.bool (sameAs (X.map AV.p) (Y.map AV.p))) ∧ Below w.heap.size w w' := by
  have hlen1 := hide h1.len
  have hlen2 := hide h2.len
  have hmax := h1.max
  have hle := h1.le
  go_enter Tryd.func31, Tryd.ntmps31
  go_wp2
  go_loopw [17] (fun i wr => ∃ k : Nat, k ≤ n ∧ i = .int .i64 k ∧ (X.take k).map AV.p = (Y.take k).map AV.p ∧ Below w.heap.size w wr) (fun i _ => n - (intOf i).toNat)
  case atStart => exact ⟨0, by omega, rfl, by simp, Below.refl _ _⟩
  case round =>
    obtain ⟨k, hk, rfl, hp, hbr⟩ := hrel
    have HP := hide hp
    clear hp
    rename_i wr
    by_cases hlt : k < n
    · obtain ⟨x, hx⟩ : ∃ z, X[k]? = some z := ⟨X[k]'(by rw [hlen1.out]; exact hlt), by simp⟩
      obtain ⟨y, hy⟩ : ∃ z, Y[k]? = some z := ⟨Y[k]'(by rw [hlen2.out]; exact hlt), by simp⟩
      have ix := AV.ok.below (h1.ok x (List.mem_of_getElem? hx)) hbr (Nat.le_refl _)
      have iy := AV.ok.below (h2.ok y (List.mem_of_getElem? hy)) hbr (Nat.le_refl _)
      have HZ := hide hx
      have HY := hide hy
      have HS := hide (fun w' h k => jsameA_c x y w' h k)
      have HT : Hid (sameA x.p y.p = true → x.p = y.p) := hide (sameA_iff _ _).1
      have HF : Hid (sameA x.p y.p = false → x.p ≠ y.p) := hide (fun h e => by rw [(sameA_iff _ _).2 e] at h; cases h)
      have kx := hr1 k x hx
      have ky := hr2 k y hy
      clear hx hy
      generalize hsm : sameA x.p y.p = sm at *
      clear hsm
      obtain ⟨e1, t1, a1, n1, c1, d1⟩ := x
      obtain ⟨e2, t2, a2, n2, c2, d2⟩ := y
      dsimp only [AV.v] at HS
      have x0 := keepc hbr (kx 0 _ rfl)
      have x1 := keepc hbr (kx 1 _ rfl)
      have x2 := keepc hbr (kx 2 _ rfl)
      have y0 := past1 (keepc hbr (ky 0 _ rfl))
      have y1 := past1 (keepc hbr (ky 1 _ rfl))
      have y2 := past1 (keepc hbr (ky 2 _ rfl))
      rw [Nat.add_zero] at x0 y0
      clear kx ky
      have hlt' : (k : Int) < (n : Int) := by omega
      go_wp2_with fail
      refine (HS.out _ (AV.ok.below ix (B := wr.heap.size) (by (repeat (first | exact Below.refl _ _ | assumption | refine Below.drew ?_ | refine below_drewN ?_ _ | refine belowA ?_ _ | refine belowT ?_ (by assumption) | refine Below.setCell ?_ (by first | (simp; done) | (simp; omega)) _))) (Nat.le_refl _)) (AV.ok.below iy (B := wr.heap.size) (by (repeat (first | exact Below.refl _ _ | assumption | refine Below.drew ?_ | refine below_drewN ?_ _ | refine belowA ?_ _ | refine belowT ?_ (by assumption) | refine Below.setCell ?_ (by first | (simp; done) | (simp; omega)) _))) (Nat.le_refl _))).mono ?_
      rintro e w9 ⟨rfl, hb9⟩
      have b9 : Below w.heap.size w w9 := by (repeat (first | exact Below.refl _ _ | assumption | refine Below.drew ?_ | refine below_drewN ?_ _ | refine belowA ?_ _ | refine belowT ?_ (by assumption) | refine Below.setCell ?_ (by first | (simp; done) | (simp; omega)) _))
      clear hb9
      cases sm
      · have HNE := hide (HF.out rfl)
        clear HF HT
        go_wp2
        go_ret
        refine ⟨ret_bool (sameAs_f fun e => ?_).symm, b9⟩
        have := congrArg (fun L => L[k]?) e
        simp only [List.getElem?_map, HZ.out, HY.out, Option.map_some, Option.some.injEq] at this
        exact HNE.out this
      · have HEQ := hide (HT.out rfl)
        clear HF HT
        go_wp2
        have e := HEQ.out
        refine ⟨⟨k + 1, by omega, by go_num, ?_, b9⟩, by simp [intOf]; omega⟩
        obtain ⟨g1, g2⟩ := List.getElem?_eq_some_iff.1 HZ.out
        obtain ⟨g3, g4⟩ := List.getElem?_eq_some_iff.1 HY.out
        rw [List.take_succ_eq_append_getElem g1, List.take_succ_eq_append_getElem g3, List.map_append, List.map_append, HP.out, g2, g4]
        simpa using e
    · obtain rfl : k = n := by omega
      go_wp2
      go_ret
      have hp := HP.out
      rw [List.take_of_length_le (by rw [hlen1.out]; omega), List.take_of_length_le (by rw [hlen2.out]; omega)] at hp
      exact ⟨ret_bool (sameAs_t hp).symm, hbr⟩

theorem EqAN_ne (a1 a2 : Option Addr) (n1 n2 c1 c2 : Nat) (fv : Value) (w : World) (hne : n1 ≠ n2) (hm1 : n1 ≤ 9223372036854775807) (hm2 : n2 ≤ 9223372036854775807) :
    Calls Tryd.prog 31 #[.slice a1 n1 c1, .slice a2 n2 c2, fv] w fun e w' => e = .returned (.bool false) ∧ w' = w := by
  have hb : ((n1 : Int) != (n2 : Int)) = true := by simp; omega
  go_enter Tryd.func31, Tryd.ntmps31
  go_wp2
  go_ret
  exact ⟨rfl, rfl⟩

theorem EqAN_zero (a1 a2 : Option Addr) (c1 c2 : Nat) (fv : Value) (w : World) :
    Calls Tryd.prog 31 #[.slice a1 0 c1, .slice a2 0 c2, fv] w fun e w' => e = .returned (.bool true) ∧ w' = w := by
  go_enter Tryd.func31, Tryd.ntmps31
  go_wp2
  refine wp_loop_rounds 1 ?_
  rw [rounds_succ]
  go_wp2
  go_ret
  exact ⟨rfl, rfl⟩

theorem EqAN_c (a1 a2 : Option Addr) (n1 n2 c1 c2 : Nat) (X Y : List AV) (w : World) (h1 : Answers w a1 n1 c1 X) (h2 : Answers w a2 n2 c2 Y) :
    Calls Tryd.prog 31 #[.slice a1 n1 c1, .slice a2 n2 c2, .func (Fn.func 32) #[] #[]] w fun e w' => e = .returned (.bool (sameAs (X.map AV.p) (Y.map AV.p))) ∧ Below w.heap.size w w' := by
  by_cases hn : n1 = n2
  · subst hn
    by_cases h0 : n1 = 0
    · subst h0
      have e1 := h1.len
      have e2 := h2.len
      rw [List.length_eq_zero_iff] at e1 e2
      subst e1 e2
      refine (EqAN_zero a1 a2 c1 c2 _ w).mono ?_
      rintro e w' ⟨rfl, rfl⟩
      exact ⟨rfl, Below.refl _ _⟩
    · rcases h1.row with h | ⟨b1, o1, rfl, _, hr1⟩
      · omega
      · rcases h2.row with h | ⟨b2, o2, rfl, _, hr2⟩
        · omega
        · exact EqAN_some b1 o1 c1 b2 o2 c2 n1 X Y w h1 h2 hr1 hr2
  · have m1 := h1.max
    have m2 := h2.max
    have q1 := h1.le
    have q2 := h2.le
    refine (EqAN_ne a1 a2 n1 n2 c1 c2 _ w hn (by omega) (by omega)).mono ?_
    rintro e w' ⟨rfl, rfl⟩
    refine ⟨ret_bool (sameAs_f fun e => hn ?_).symm, Below.refl _ _⟩
    have := congrArg List.length e
    rw [List.length_map, List.length_map, h1.len, h2.len] at this
    exact this


set_option maxHeartbeats 1000000 in
theorem JSame_c (h f : NV) (w : World) (hk : h.ok w) (hf : f.ok w) : Calls Tryd.prog 13 #[h.v, f.v] w fun e w' => e = .returned (.bool (sameN h.p f.p)) ∧ Below w.heap.size w w' := by
  have HC := hide (fun w' (h1 : Ints w' h.ca h.cn h.cc h.c.d) (h2 : Ints w' f.ca f.cn f.cc f.c.d) => cmdSame_c h.ca f.ca h.cn f.cn h.cc f.cc h.c f.c w' h1 h2)
  have HL := hide (fun w' h1 h2 => EqAN_c h.ga f.ga h.gn f.gn h.gc f.gc h.G f.G w' h1 h2)
  have HS : Hid (sameN h.p f.p = (h.s == f.s && (h.w == f.w) && sameC h.c f.c && sameAs (h.G.map AV.p) (f.G.map AV.p))) := hide (by
    have e : decide (h.s = f.s) = (h.s == f.s) := by rw [Bool.eq_iff_iff]; simp
    show (decide (h.s = f.s) && (h.w == f.w) && sameC h.c f.c && sameAs (h.G.map AV.p) (f.G.map AV.p)) = _
    rw [e])
  obtain ⟨x0, x1, bw⟩ := two_boxes w h.cells f.cells 27 27
  have hok := hk.below bw (Nat.le_refl _)
  have fok := hf.below bw (Nat.le_refl _)
  generalize sameN _ _ = r at *
  generalize sameC _ _ = sc at *
  generalize sameAs _ _ = sl at *
  rw [show h.v = .agg h.cells.toArray from rfl, show f.v = .agg f.cells.toArray from rfl] at *
  obtain ⟨s, v, ⟨k, z, n, t, d⟩, ca, cn, cc, ga, gn, gc, G⟩ := h
  obtain ⟨s', v', ⟨k', z', n', t', d'⟩, ca', cn', cc', ga', gn', gc', G'⟩ := f
  dsimp only [NV.cells, cmdV] at *
  have u1 := x0.cell 7 _ rfl
  have u2 := x1.cell 7 _ rfl
  cases h1 : s == s'
  · go_enter Tryd.func13, Tryd.ntmps13
    go_wp2
    go_ret
    exact ⟨ret_bool (by rw [HS.out, h1]; rfl), bw⟩
  · cases h2 : v == v'
    · go_enter Tryd.func13, Tryd.ntmps13
      go_wp2
      go_ret
      exact ⟨ret_bool (by rw [HS.out, h1, h2]; rfl), bw⟩
    · go_enter Tryd.func13, Tryd.ntmps13
      go_wp2_with fail
      refine (HC.out _ hok.c fok.c).mono ?_
      rintro e w1 ⟨rfl, hb1⟩
      replace u1 := keepc hb1 u1
      replace u2 := keepc hb1 u2
      replace hok := hok.below hb1 (Nat.le_refl _)
      replace fok := fok.below hb1 (Nat.le_refl _)
      replace bw := belowT bw hb1
      clear hb1 x0 x1
      cases sc
      · go_wp2
        go_ret
        exact ⟨ret_bool (by rw [HS.out, h1, h2]; rfl), bw⟩
      · go_wp2_with fail
        refine (HL.out _ hok.g fok.g).mono ?_
        rintro e w2 ⟨rfl, hb2⟩
        go_wp2
        go_ret
        exact ⟨ret_bool (by rw [HS.out, h1, h2]; simp), belowT bw hb2⟩


end Go.Proofs.YtcpfnbbeinpanaaDoor
