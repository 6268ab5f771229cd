/- The contract of plain.CopyBook; no condition but that the keys read as data, and are no more than a machine bears. -/
import Derived.Test.YtcmladgldjcdmaaDoorHU8
import Derived.Test.YtcmladgldjcdmaaDoorHU2
import Derived.Test.YtcmladgldjcdmaaDoorHU12
import Derived.Deep.RegionHeld3
import Derived.Deep.DeepCutAuto
namespace Go.Proofs.YtcmladgldjcdmaaDoor
open Go.RowKit
set_option linter.unusedVariables false
set_option maxRecDepth 100000
set_option linter.unusedSimpArgs false

set_option maxHeartbeats 2000000 in
theorem pbook_c (a : Option Addr) (n c : Nat) (b : PB) (w : World) (h : Ints w a n c b.k) (hn : n ≤ 100000) :
    Calls Tryd.prog 41 #[bookV a n c b] w fun e w' => (∃ q, e = .returned (bookV (some ⟨q, 0, none⟩) n n b) ∧ Ints w' (some ⟨q, 0, none⟩) n n b.k ∧ w.heap.size ≤ q ∧ Lay w' q (cellsOf b.k)) ∧ Below w.heap.size w w' := by
  obtain ⟨l, hh, tt⟩ := b
  unfold bookV
  dsimp only at *
  obtain ⟨x0, x1, x2, bw⟩ := three_boxes w [.slice a n c, .int .i64 hh, .int .i64 tt] [.slice none 0 0, .int .i64 0, .int .i64 0] [.slice a n c, .int .i64 hh, .int .i64 tt] 25 25 25
  replace h := h.below bw (Nat.le_refl _)
  go_enter Tryd.func41, Tryd.ntmps41
  go_upto_region 2 with fail
  generalize ((w.alloc (.cells [.slice a n c, .int .i64 hh, .int .i64 tt].toArray 25)).alloc (.cells [.slice none 0 0, .int .i64 0, .int .i64 0].toArray 25)).alloc (.cells [.slice a n c, .int .i64 hh, .int .i64 tt].toArray 25) = w1 at *
  have c0 := x0.cell 0 _ rfl
  go_wp2_with fail
  refine (plistL_c a n c l _ h hn).mono ?_
  rintro e w2 ⟨⟨q, rfl, iq, hq, lq⟩, hb2⟩
  have hqw : w.heap.size + 1 + 1 < q := by have := x2.lt; omega
  clear c0 hq x0
  replace x1 := x1.below hb2
  replace x2 := x2.below hb2
  replace bw := belowT bw hb2
  clear hb2
  have e0 := x2.cell 0 _ rfl
  have f0 := x2.ice 0
  go_upto_region 3 with fail
  have hbu := (ButI.refl (w.heap.size + 1 + 1) w2).step 0 (.slice (some ⟨q, 0, none⟩) n n)
  have y2 : Lay _ _ [.slice (some ⟨q, 0, none⟩) n n, .int .i64 hh, .int .i64 tt] := x2.set 0 (.slice (some ⟨q, 0, none⟩) n n)
  have xR := x1.butI hbu (by omega)
  replace lq := lq.butI hbu (by omega)
  replace iq := iq.but hbu.but (.inr fun x e => by cases e; simp; omega)
  replace bw := bw.trans (hbu.below (B := w.heap.size) (by omega))
  clear e0 f0 x2 x1 hbu
  generalize w2.setCell ⟨w.heap.size + 1 + 1, 0, none⟩ (.slice (some ⟨q, 0, none⟩) n n) = w3 at *
  have a0 := y2.cell 0 _ rfl
  have a1 := y2.cell 1 _ rfl
  have a2 := y2.cell 2 _ rfl
  have e0 := xR.cell 0 _ rfl
  have e1 := xR.cell 1 _ rfl
  have e2 := xR.cell 2 _ rfl
  have f0 := xR.ice 0
  have f1 := xR.ice 1
  have f2 := xR.ice 2
  go_wp2
  have zB := ((xR.set 0 (.slice (some ⟨q, 0, none⟩) n n)).set 1 (.int .i64 hh)).set 2 (.int .i64 tt)
  have hbut := (((ButI.refl (w.heap.size + 1) w3).step 0 (.slice (some ⟨q, 0, none⟩) n n)).step 1 (.int .i64 hh)).step 2 (.int .i64 tt)
  generalize ((w3.setCell ⟨w.heap.size + 1, 0, none⟩ (.slice (some ⟨q, 0, none⟩) n n)).setCell ⟨w.heap.size + 1, 1, none⟩ (.int .i64 hh)).setCell ⟨w.heap.size + 1, 2, none⟩ (.int .i64 tt) = w9 at *
  have z0 := zB.cell 0 _ rfl
  have z1 := zB.cell 1 _ rfl
  have z2 := zB.cell 2 _ rfl
  exact bodyPost_ret (v := .agg #[.slice (some ⟨q, 0, none⟩) n n, .int .i64 hh, .int .i64 tt]) (by simp [results, Tryd.results41, go_sem, z0, z1, z2]) rfl
    ⟨⟨q, rfl, iq.but hbut.but (.inr fun x e => by cases e; simp; omega), by omega, lq.butI hbut (by omega)⟩, bw.trans (hbut.below (B := w.heap.size) (by omega))⟩

end Go.Proofs.YtcmladgldjcdmaaDoor

/- The contracts of book's New, whole copy, letGo and expel; no condition but that the keys read as a list, and that the book lies in its box. -/
namespace Go.Proofs.YtcmladgldjcdmaaDoor
open Go.RowKit
set_option linter.unusedVariables false
set_option maxRecDepth 100000
set_option linter.unusedSimpArgs false

theorem ice_row {w : World} {g j : Nat} {cs : Array Value} {t : TypeId} (h : w.heap[g]? = some (.cells cs t (0, 0))) : w.frozen? ⟨g, j, none⟩ = false := by
  simp [World.frozen?, h]

/-- The cells of a book's box. -/
structure Box (w : World) (B : Nat) (a : Option Addr) (n c : Nat) (b : PB) : Prop where
  c0 : w.cell? ⟨B, 0, none⟩ = some (.slice a n c)
  c1 : w.cell? ⟨B, 1, none⟩ = some (.int .i64 b.h)
  c2 : w.cell? ⟨B, 2, none⟩ = some (.int .i64 b.t)
  f0 : w.frozen? ⟨B, 0, none⟩ = false
  f1 : w.frozen? ⟨B, 1, none⟩ = false
  f2 : w.frozen? ⟨B, 2, none⟩ = false
theorem Box.below {w w' : World} {B : Nat} {a : Option Addr} {n c : Nat} {b : PB} (h : Box w B a n c b) (hb : Below w.heap.size w w') : Box w' B a n c b :=
  ⟨keepc hb h.c0, keepc hb h.c1, keepc hb h.c2, keepf hb h.c0 h.f0, keepf hb h.c1 h.f1, keepf hb h.c2 h.f2⟩
theorem Box.made (w : World) (a : Option Addr) (n c : Nat) (b : PB) : Box (w.alloc (.cells #[.slice a n c, .int .i64 b.h, .int .i64 b.t] 25)) w.heap.size a n c b :=
  ⟨by simp, by simp, by simp, ice_row (heap_new w _), ice_row (heap_new w _), ice_row (heap_new w _)⟩
theorem Box.but {w w' : World} {B g : Nat} {a : Option Addr} {n c : Nat} {b : PB} (h : Box w B a n c b) (hb : Below g w w') (hg : B < g) : Box w' B a n c b :=
  ⟨by rw [hb.cell (by exact hg)]; exact h.c0, by rw [hb.cell (by exact hg)]; exact h.c1, by rw [hb.cell (by exact hg)]; exact h.c2, by rw [hb.frozen (by exact hg)]; exact h.f0, by rw [hb.frozen (by exact hg)]; exact h.f1, by rw [hb.frozen (by exact hg)]; exact h.f2⟩
theorem Box.lt {w : World} {B : Nat} {a : Option Addr} {n c : Nat} {b : PB} (h : Box w B a n c b) : B < w.heap.size := World.block_lt_of_cell? _ _ h.c0
theorem Box.put {w : World} {B : Nat} {a : Option Addr} {n c : Nat} {b : PB} (h : Box w B a n c b) (a' : Option Addr) (n' c' : Nat) (b' : PB) :
    Box (((w.setCell ⟨B, 0, none⟩ (.slice a' n' c')).setCell ⟨B, 1, none⟩ (.int .i64 b'.h)).setCell ⟨B, 2, none⟩ (.int .i64 b'.t)) B a' n' c' b' := by
  have e1 : (w.setCell ⟨B, 0, none⟩ (.slice a' n' c')).cell? ⟨B, 1, none⟩ = some (.int .i64 b.h) := by rw [World.cell?_setCell_other _ _ _ _ (by simp)]; exact h.c1
  have e2 : ((w.setCell ⟨B, 0, none⟩ (.slice a' n' c')).setCell ⟨B, 1, none⟩ (.int .i64 b'.h)).cell? ⟨B, 2, none⟩ = some (.int .i64 b.t) := by rw [World.cell?_setCell_other _ _ _ _ (by simp), World.cell?_setCell_other _ _ _ _ (by simp)]; exact h.c2
  refine ⟨?_, ?_, World.cell?_setCell_same _ _ _ e2, by rw [World.frozen?_setCell, World.frozen?_setCell, World.frozen?_setCell]; exact h.f0, by rw [World.frozen?_setCell, World.frozen?_setCell, World.frozen?_setCell]; exact h.f1, by rw [World.frozen?_setCell, World.frozen?_setCell, World.frozen?_setCell]; exact h.f2⟩
  · rw [World.cell?_setCell_other _ _ _ _ (by simp), World.cell?_setCell_other _ _ _ _ (by simp)]
    exact World.cell?_setCell_same _ _ _ h.c0
  · rw [World.cell?_setCell_other _ _ _ _ (by simp)]
    exact World.cell?_setCell_same _ _ _ e1

/-- Keys of the call's own: a row of three that may be written. -/
structure Trio (w : World) (q : Nat) (l : List Int) : Prop where
  len : l.length = 3
  cell : ∀ i, i < 3 → w.cell? ⟨q, i, none⟩ = some (.int .i64 (l.getD i 0))
  ice : ∀ j, w.frozen? ⟨q, j, none⟩ = false
  wf : ∀ x ∈ l, -9223372036854775808 ≤ x ∧ x ≤ 9223372036854775807
theorem Trio.lt {w : World} {q : Nat} {l : List Int} (h : Trio w q l) : q < w.heap.size := World.block_lt_of_cell? _ _ (h.cell 0 (by omega))
theorem Trio.below {w w' : World} {q : Nat} {l : List Int} (h : Trio w q l) (hb : Below w.heap.size w w') : Trio w' q l :=
  ⟨h.len, fun i hi => keepc hb (h.cell i hi), fun j => by rw [hb.frozen (by exact h.lt)]; exact h.ice j, h.wf⟩
theorem Trio.far {w : World} {q : Nat} {l : List Int} (h : Trio w q l) (p : Addr) (v : Value) (hp : p.block ≠ q) : Trio (w.setCell p v) q l :=
  ⟨h.len, fun i hi => by rw [World.cell?_setCell_other _ _ _ _ (fun e => hp (by rw [e]))]; exact h.cell i hi, fun j => by rw [World.frozen?_setCell]; exact h.ice j, h.wf⟩
theorem Trio.set {w : World} {q : Nat} {l : List Int} (h : Trio w q l) (i : Nat) (hi : i < 3) (x : Int) (hx : -9223372036854775808 ≤ x ∧ x ≤ 9223372036854775807) : Trio (w.setCell ⟨q, i, none⟩ (.int .i64 x)) q (l.set i x) := by
  have hl := h.len
  refine ⟨by simp [hl], fun j hj => ?_, fun j => by rw [World.frozen?_setCell]; exact h.ice j, fun y hy => ?_⟩
  · by_cases e : i = j
    · subst e
      rw [World.cell?_setCell_same _ _ _ (h.cell i hi)]
      simp [List.getD, hl, hi]
    · rw [World.cell?_setCell_other _ _ _ _ (by simp [e]), h.cell j hj]
      simp [List.getD, List.getElem?_set_ne e]
  · rcases List.mem_or_eq_of_mem_set hy with hy | rfl
    · exact h.wf y hy
    · exact hx
theorem Trio.ints {w : World} {q : Nat} {l : List Int} (h : Trio w q l) : Ints w (some ⟨q, 0, none⟩) 3 3 l :=
  ⟨h.len, Nat.le_refl _, by omega, fun e => (by cases e), .inr ⟨q, 0, rfl, h.lt, fun i hi => by simpa using h.cell i hi⟩, h.wf⟩
theorem Trio.of_row {w : World} {q : Nat} {l : List Int} {t : TypeId} (h : w.heap[q]? = some (.cells (cellsOf l).toArray t (0, 0))) (hl : l.length = 3) (hw : ∀ x ∈ l, -9223372036854775808 ≤ x ∧ x ≤ 9223372036854775807) : Trio w q l :=
  ⟨hl, fun i hi => by rw [cell_of_row w q _ _ t _ h]; simpa using cellsOf_get l i (by omega), fun j => ice_row h, hw⟩

theorem mk3 (w : World) : (Instr.makeSlice 23 (.int .i64 3) (.int .i64 3)).run Tryd.prog w = .ok (.slice (some ⟨w.heap.size, 0, none⟩) 3 3) (w.alloc (.cells (cellsOf [0, 0, 0]).toArray 3)) := by kernel_rfl

theorem BNew_c (w : World) : Calls Tryd.prog 45 #[] w fun e w' => (∃ a c, e = .returned (bookV a 3 c freshB) ∧ Ints w' a 3 c freshB.k ∧ ∀ x, a = some x → w.heap.size ≤ x.block) ∧ Below w.heap.size w w' := by
  go_enter Tryd.func45, Tryd.ntmps45
  have hmk := mk3
  go_wp2
  refine bodyPost_ret (v := bookV (some ⟨w.heap.size + 1, 0, none⟩) 3 3 freshB) (by simp [results, Tryd.results45, go_sem, bookV, freshB]) rfl ⟨⟨_, _, rfl, ?_, ?_⟩, ?_⟩
  · exact Ints.of_row (l := [0, 0, 0]) (heap_new2 w _ _) (by decide) (by decide) rfl
  · intro x e
    cases e
    simp
  · (repeat first | exact bel0 | assumption | refine bel1 ?_ | refine bel2 ?_ | refine bel3 ?_ | refine belowT ?_ (by assumption) | refine bel5 ?_ (by simp; try omega))

theorem Trio.of_lay {w : World} {q : Nat} {l : List Int} (h : Lay w q (cellsOf l)) (hl : l.length = 3) (hw : ∀ x ∈ l, -9223372036854775808 ≤ x ∧ x ≤ 9223372036854775807) : Trio w q l :=
  ⟨hl, fun i hi => h.cell i _ (by simpa using cellsOf_get l i (by omega)), h.ice, hw⟩
theorem bwhole_c (g off c : Nat) (l : List Int) (hh tt : Int) (w : World) (h : Ints w (some ⟨g, off, none⟩) 3 c l) :
    Calls Tryd.prog 41 #[bookV (some ⟨g, off, none⟩) 3 c ⟨l, hh, tt⟩] w fun e w' => (∃ q, e = .returned (bookV (some ⟨q, 0, none⟩) 3 3 ⟨l, hh, tt⟩) ∧ w.heap.size ≤ q ∧ Trio w' q l) ∧ Below w.heap.size w w' :=
  (pbook_c (some ⟨g, off, none⟩) 3 c ⟨l, hh, tt⟩ w h (by omega)).mono fun e w' ⟨⟨q, h1, h2, h3, h4⟩, h5⟩ => ⟨⟨q, h1, h3, Trio.of_lay h4 h.len h.wf⟩, h5⟩

/-- w' is w, but that cells of the blocks B and C may be others. -/
structure Apart (B C : Nat) (w w' : World) : Prop where
  low : ∀ n, n ≤ B → n ≤ C → Below n w w'
  size : w'.heap.size = w.heap.size
  cell : ∀ p : Addr, p.block ≠ B → p.block ≠ C → w'.cell? p = w.cell? p
  ice : ∀ p, w'.frozen? p = w.frozen? p
theorem Apart.refl (B C : Nat) (w : World) : Apart B C w w := ⟨fun _ _ _ => Below.refl _ _, rfl, fun _ _ _ => rfl, fun _ => rfl⟩
theorem Apart.trans {B C : Nat} {w1 w2 w3 : World} (h : Apart B C w1 w2) (k : Apart B C w2 w3) : Apart B C w1 w3 :=
  ⟨fun n h1 h2 => (h.low n h1 h2).trans (k.low n h1 h2), k.size.trans h.size, fun p h1 h2 => (k.cell p h1 h2).trans (h.cell p h1 h2), fun p => (k.ice p).trans (h.ice p)⟩
theorem Apart.set {B C : Nat} {w w' : World} (h : Apart B C w w') (p : Addr) (v : Value) (hp : p.block = B ∨ p.block = C) : Apart B C w (w'.setCell p v) :=
  ⟨fun n h1 h2 => (h.low n h1 h2).setCell (by rcases hp with e | e <;> omega) _, by simp [World.setCell, h.size], fun q h1 h2 => by rw [World.cell?_setCell_other _ _ _ _ (fun e => by rcases hp with k | k <;> simp_all)]; exact h.cell q h1 h2, fun q => by rw [World.frozen?_setCell]; exact h.ice q⟩
theorem Box.apart {w w' : World} {B C D : Nat} {a : Option Addr} {n c : Nat} {b : PB} (h : Box w D a n c b) (hb : Apart B C w w') (h1 : D ≠ B) (h2 : D ≠ C) : Box w' D a n c b :=
  ⟨by rw [hb.cell _ h1 h2]; exact h.c0, by rw [hb.cell _ h1 h2]; exact h.c1, by rw [hb.cell _ h1 h2]; exact h.c2, by rw [hb.ice]; exact h.f0, by rw [hb.ice]; exact h.f1, by rw [hb.ice]; exact h.f2⟩
theorem Trio.apart {w w' : World} {B C q : Nat} {l : List Int} (h : Trio w q l) (hb : Apart B C w w') (h1 : q ≠ B) (h2 : q ≠ C) : Trio w' q l :=
  ⟨h.len, fun i hi => by rw [hb.cell _ h1 h2]; exact h.cell i hi, fun j => by rw [hb.ice]; exact h.ice j, h.wf⟩
theorem Box.set1 {w : World} {B : Nat} {a : Option Addr} {n c : Nat} {b : PB} (h : Box w B a n c b) (x : Int) : Box (w.setCell ⟨B, 1, none⟩ (.int .i64 x)) B a n c ⟨b.k, x, b.t⟩ :=
  ⟨by rw [World.cell?_setCell_other _ _ _ _ (by simp)]; exact h.c0, World.cell?_setCell_same _ _ _ h.c1, by rw [World.cell?_setCell_other _ _ _ _ (by simp)]; exact h.c2, by rw [World.frozen?_setCell]; exact h.f0, by rw [World.frozen?_setCell]; exact h.f1, by rw [World.frozen?_setCell]; exact h.f2⟩
theorem Box.set2 {w : World} {B : Nat} {a : Option Addr} {n c : Nat} {b : PB} (h : Box w B a n c b) (x : Int) : Box (w.setCell ⟨B, 2, none⟩ (.int .i64 x)) B a n c ⟨b.k, b.h, x⟩ :=
  ⟨by rw [World.cell?_setCell_other _ _ _ _ (by simp)]; exact h.c0, by rw [World.cell?_setCell_other _ _ _ _ (by simp)]; exact h.c1, World.cell?_setCell_same _ _ _ h.c2, by rw [World.frozen?_setCell]; exact h.f0, by rw [World.frozen?_setCell]; exact h.f1, by rw [World.frozen?_setCell]; exact h.f2⟩
theorem Box.far {w : World} {B : Nat} {a : Option Addr} {n c : Nat} {b : PB} (h : Box w B a n c b) (p : Addr) (v : Value) (hp : p.block ≠ B) : Box (w.setCell p v) B a n c b :=
  ⟨by rw [World.cell?_setCell_other _ _ _ _ (fun e => hp (by rw [e]))]; exact h.c0, by rw [World.cell?_setCell_other _ _ _ _ (fun e => hp (by rw [e]))]; exact h.c1, by rw [World.cell?_setCell_other _ _ _ _ (fun e => hp (by rw [e]))]; exact h.c2, by rw [World.frozen?_setCell]; exact h.f0, by rw [World.frozen?_setCell]; exact h.f1, by rw [World.frozen?_setCell]; exact h.f2⟩

/-- The boxes of a call: its book, and what it answers. -/
theorem boxes (w : World) (a : Option Addr) (n c : Nat) (b : PB) : Box ((w.alloc (.cells #[.slice a n c, .int .i64 b.h, .int .i64 b.t] 25)).alloc (.cells #[.slice none 0 0, .int .i64 0, .int .i64 0] 25)) w.heap.size a n c b ∧
    Box ((w.alloc (.cells #[.slice a n c, .int .i64 b.h, .int .i64 b.t] 25)).alloc (.cells #[.slice none 0 0, .int .i64 0, .int .i64 0] 25)) (w.heap.size + 1) none 0 0 ⟨[], 0, 0⟩ ∧
    Below w.heap.size w ((w.alloc (.cells #[.slice a n c, .int .i64 b.h, .int .i64 b.t] 25)).alloc (.cells #[.slice none 0 0, .int .i64 0, .int .i64 0] 25)) := by
  refine ⟨(Box.made w a n c b).below (belowA (Below.refl _ _) _), ?_, by (repeat first | exact bel0 | assumption | refine bel1 ?_ | refine bel2 ?_ | refine bel3 ?_ | refine belowT ?_ (by assumption) | refine bel5 ?_ (by simp; try omega))⟩
  have := Box.made (w.alloc (.cells #[.slice a n c, .int .i64 b.h, .int .i64 b.t] 25)) none 0 0 ⟨[], 0, 0⟩
  simpa using this

def letB (b : PB) (who : Int) : PB := if b.h = who then ⟨b.k, -1, 0⟩ else b

theorem letGo_c (B : Nat) (a : Option Addr) (n c : Nat) (b : PB) (who : Int) (w : World) (h : Box w B a n c b) :
    Calls Tryd.prog 95 #[.pointer (some ⟨B, 0, none⟩), .int .i64 who] w fun e w' => (∃ v, e = .returned v) ∧ Box w' B a n c (letB b who) ∧ Apart B B w w' := by
  obtain ⟨h0, h1, h2, f0, f1, f2⟩ := id h
  obtain ⟨l, hh, tt⟩ := b
  dsimp only at h1 h2
  by_cases he : hh = who
  · have hx : (hh == who) = true := by simpa using he
    have HE := hide he
    clear he
    go_enter Tryd.func95, Tryd.ntmps95
    go_wp2
    go_end0
    exact ⟨⟨_, rfl⟩, by simp only [letB, if_pos HE.out]; exact (h.set1 (-1)).set2 0, ((Apart.refl B B w).set _ _ (.inl rfl)).set _ _ (.inl rfl)⟩
  · have hx : (hh == who) = false := by simpa using he
    have HE := hide he
    clear he
    go_enter Tryd.func95, Tryd.ntmps95
    go_wp2
    go_end0
    exact ⟨⟨_, rfl⟩, by simp only [letB, if_neg HE.out]; exact h, Apart.refl B B _⟩

theorem expel_c (B q i c : Nat) (b : PB) (heir : Int) (w : World) (bx : Box w B (some ⟨q, 0, none⟩) 3 3 b) (hT : Trio w q b.k) (hi : i < 3) (hne : q ≠ B) :
    Calls Tryd.prog 97 #[.pointer (some ⟨B, 0, none⟩), .int .i64 i, .int .i64 heir] w fun e w' => (∃ v, e = .returned v) ∧ Box w' B (some ⟨q, 0, none⟩) 3 3 ⟨b.k.set i 0, if b.h = i then heir else b.h, b.t⟩ ∧ Trio w' q (b.k.set i 0) ∧ Apart B q w w' := by
  have hi' : (i : Int) < 3 := by omega
  have hne' : ¬ B = q := fun e => hne e.symm
  obtain ⟨l, hh, tt⟩ := b
  obtain ⟨h0, h1, h2, f0, f1, f2⟩ := id bx
  dsimp only at h1 h2 hT ⊢
  have hk := hT.cell i hi
  have fk := hT.ice i
  generalize hu : l.getD i 0 = u at hk
  clear hu
  by_cases he : hh = i
  · have hx : (hh == (i : Int)) = true := by simpa using he
    have HE := hide he
    clear he
    go_enter Tryd.func97, Tryd.ntmps97
    go_wp2
    go_end0
    have hB := (bx.far ⟨q, i, none⟩ (.int .i64 0) hne).set1 heir
    refine ⟨⟨_, rfl⟩, ?_, (hT.set i hi 0 (by omega)).far _ _ (by simpa using hne'), ((Apart.refl B q w).set _ _ (.inr rfl)).set _ _ (.inl rfl)⟩
    exact ⟨hB.c0, hB.c1, hB.c2, hB.f0, hB.f1, hB.f2⟩
  · have hx : (hh == (i : Int)) = false := by simpa using he
    have HE := hide he
    clear he
    go_enter Tryd.func97, Tryd.ntmps97
    go_wp2
    go_end0
    have hB := bx.far ⟨q, i, none⟩ (.int .i64 0) hne
    refine ⟨⟨_, rfl⟩, ?_, hT.set i hi 0 (by omega), (Apart.refl B q w).set _ _ (.inr rfl)⟩
    exact ⟨hB.c0, hB.c1, hB.c2, hB.f0, hB.f1, hB.f2⟩

end Go.Proofs.YtcmladgldjcdmaaDoor
