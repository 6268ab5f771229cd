/- The contract of plain.CopyZones; no condition but that the zones read as data, and are no greater than a machine bears. -/
import Derived.Test.YtklabieacbbbfaaDoorNU5
import Derived.Test.YtklabieacbbbfaaDoorNU4
import Derived.Deep.RegionHeld3
import Derived.Test.YtklabieacbbbfaaDoorNU3
import Derived.Test.YtklabieacbbbfaaDoorNU1
import Derived.Deep.Light
import Derived.Deep.DeepCutAuto
namespace Go.Proofs.YtklabieacbbbfaaDoor
open Go.RowKit
set_option linter.unusedVariables false
set_option maxRecDepth 100000
set_option linter.unusedSimpArgs false

abbrev ZV.v (z : ZV) : Value := .agg #[.int .i64 z.s, .slice z.a z.n z.c]
def zoneK : Kin ZV where
  k := 2
  cs z := [.int .i64 z.s, .slice z.a z.n z.c]
  ok w z := z.ok w
  off R z := z.off R
  len _ := rfl
  one x := fun v hv => List.all_eq_true.1 (show ([.int .i64 x.s, .slice x.a x.n x.c] : List Value).all (fun v => v.oneCell') = true from rfl) v hv
  below h _ hb hB := Ints.below h hb hB
  but h hb ho := Ints.but h hb ho
  far h hR := Ints.offs h hR
theorem ZV.lay {w : World} {b o : Nat} {z : ZV} (h : ∀ j v, (zoneK.cs z)[j]? = some v → w.cell? ⟨b, o + j, none⟩ = some v) : w.cell? ⟨b, o, none⟩ = some (.int .i64 z.s) ∧ w.cell? ⟨b, o + 1, none⟩ = some (.slice z.a z.n z.c) :=
  ⟨h 0 _ rfl, h 1 _ rfl⟩
theorem Zones.rows' {w : World} {a : Option Addr} {n c : Nat} {Z : List ZV} (h : Zones w a n c Z) : Rows' zoneK w a n c Z := by
  refine ⟨h.len, h.le, h.max, h.nil, ?_, h.ok⟩
  rcases h.row with h0 | ⟨b, off, ha, hlt, hc⟩
  · exact .inl h0
  · refine .inr ⟨b, off, ha, hlt, fun i x hx j v hv => ?_⟩
    obtain ⟨h1, h2⟩ := hc i x hx
    match j, hv with
    | 0, hv => cases hv; exact h1
    | 1, hv => cases hv; exact h2
end Go.Proofs.YtklabieacbbbfaaDoor

/- Two boxes, newly made; plain mathematics, no condition. -/
namespace Go.Proofs.YtklabieacbbbfaaDoor
open Go.RowKit
set_option linter.unusedVariables false
set_option maxRecDepth 100000
set_option linter.unusedSimpArgs false

/-- A desk's box and an answer's, newly made. -/
theorem two_boxes (w : World) (D A : List Value) (s t : TypeId) : Lay ((w.alloc (.cells D.toArray s)).alloc (.cells A.toArray t)) w.heap.size D ∧ Lay ((w.alloc (.cells D.toArray s)).alloc (.cells A.toArray t)) (w.heap.size + 1) A ∧ Below w.heap.size w ((w.alloc (.cells D.toArray s)).alloc (.cells A.toArray t)) :=
  ⟨(Lay.made w D s).below (belowA (Below.refl _ _) _), Lay.made1 w _ A t, by (repeat first | exact bel0 | assumption | refine bel1 ?_ | refine bel2 ?_ | refine bel3 ?_ | refine belowT ?_ (by assumption) | refine bel5 ?_ (by simp; try omega))⟩

end Go.Proofs.YtklabieacbbbfaaDoor

/- Three boxes, newly made; plain mathematics, no condition. -/
namespace Go.Proofs.YtklabieacbbbfaaDoor
open Go.RowKit
set_option linter.unusedVariables false
set_option maxRecDepth 100000
set_option linter.unusedSimpArgs false

theorem three_boxes (w : World) (H R G : List Value) (s t u : TypeId) :
    Lay (((w.alloc (.cells H.toArray s)).alloc (.cells R.toArray t)).alloc (.cells G.toArray u)) w.heap.size H ∧ Lay (((w.alloc (.cells H.toArray s)).alloc (.cells R.toArray t)).alloc (.cells G.toArray u)) (w.heap.size + 1) R ∧ Lay (((w.alloc (.cells H.toArray s)).alloc (.cells R.toArray t)).alloc (.cells G.toArray u)) (w.heap.size + 1 + 1) G ∧ Below w.heap.size w (((w.alloc (.cells H.toArray s)).alloc (.cells R.toArray t)).alloc (.cells G.toArray u)) := by
  have h0 := (Lay.made w H s).below (belowA (belowA (Below.refl _ _) (.cells R.toArray t)) (.cells G.toArray u))
  have h1 := (Lay.made1 w (.cells H.toArray s) R t).below (belowA (Below.refl _ _) (.cells G.toArray u))
  have h2 := Lay.made1 (w.alloc (.cells H.toArray s)) (.cells R.toArray t) G u
  simp only [World.size_alloc] at h2
  exact ⟨h0, h1, h2, by (repeat first | exact bel0 | assumption | refine bel1 ?_ | refine bel2 ?_ | refine bel3 ?_ | refine belowT ?_ (by assumption) | refine bel5 ?_ (by simp; try omega))⟩

end Go.Proofs.YtklabieacbbbfaaDoor

/- The contract of plain.CopyBook; no condition but that the keys read as data, and are no more than a machine bears. -/
namespace Go.Proofs.YtklabieacbbbfaaDoor
open Go.RowKit
set_option linter.unusedVariables false
set_option maxRecDepth 100000
set_option linter.unusedSimpArgs false

end Go.Proofs.YtklabieacbbbfaaDoor

/- The contracts of slices.Contains at ints, of yard's questions and of its counts; no condition but that the slices read as lists and zones. -/
namespace Go.Proofs.YtklabieacbbbfaaDoor
open Go.RowKit
set_option linter.unusedVariables false
set_option maxRecDepth 100000
set_option linter.unusedSimpArgs false

end Go.Proofs.YtklabieacbbbfaaDoor

/- The contract of the whole copy of zones; no condition but that the slice reads as four zones of few blocks. -/
namespace Go.Proofs.YtklabieacbbbfaaDoor
open Go.RowKit
set_option linter.unusedVariables false
set_option maxRecDepth 100000
set_option linter.unusedSimpArgs false

end Go.Proofs.YtklabieacbbbfaaDoor

/- The contracts of yard's begin, shut and makeRoom; no condition but that the slices read as zones. -/
namespace Go.Proofs.YtklabieacbbbfaaDoor
open Go.RowKit
set_option linter.unusedVariables false
set_option maxRecDepth 100000
set_option linter.unusedSimpArgs false

end Go.Proofs.YtklabieacbbbfaaDoor

/- The contract of yard's makeRoom; no condition but that the zones lie in memory of the call's own. -/
namespace Go.Proofs.YtklabieacbbbfaaDoor
open Go.RowKit
set_option linter.unusedVariables false
set_option maxRecDepth 100000
set_option linter.unusedSimpArgs false

end Go.Proofs.YtklabieacbbbfaaDoor

/- The contracts of the package yard: each call answers what the plain functions say, in new memory, and leaves what was there as it was; no condition but that the arguments read as zones and data. -/
namespace Go.Proofs.YtklabieacbbbfaaDoor
open Go.RowKit
set_option linter.unusedVariables false
set_option maxRecDepth 100000
set_option linter.unusedSimpArgs false

/-- The list, and all zones' blocks, lie from B on. -/
def NewZ (B : Nat) (a : Option Addr) (Z : List ZV) : Prop := (∀ x, a = some x → B ≤ x.block) ∧ NewL B Z
theorem NewZ.nil (B : Nat) : NewZ B none [] := ⟨fun x e => (by cases e), NewL.nil B⟩

end Go.Proofs.YtklabieacbbbfaaDoor

/- The contracts of book's questions: within, agrees, Check, Same, checkHand, checkRegistered; no condition but that the keys read as a list. -/
namespace Go.Proofs.YtklabieacbbbfaaDoor
open Go.RowKit
set_option linter.unusedVariables false
set_option maxRecDepth 100000
set_option linter.unusedSimpArgs false

end Go.Proofs.YtklabieacbbbfaaDoor

/- The contracts of book's New, whole copy, letGo and expel; no condition but that the keys read as a list, and that the book lies in its box. -/
namespace Go.Proofs.YtklabieacbbbfaaDoor
open Go.RowKit
set_option linter.unusedVariables false
set_option maxRecDepth 100000
set_option linter.unusedSimpArgs false

theorem ice_row {w : World} {g j : Nat} {cs : Array Value} {t : TypeId} (h : w.heap[g]? = some (.cells cs t (0, 0))) : w.frozen? ⟨g, j, none⟩ = false := by
  simp [World.frozen?, h]

/-- The cells of a book's box. -/
structure Box (w : World) (B : Nat) (a : Option Addr) (n c : Nat) (b : PB) : Prop where
  c0 : w.cell? ⟨B, 0, none⟩ = some (.slice a n c)
  c1 : w.cell? ⟨B, 1, none⟩ = some (.int .i64 b.h)
  c2 : w.cell? ⟨B, 2, none⟩ = some (.int .i64 b.t)
  f0 : w.frozen? ⟨B, 0, none⟩ = false
  f1 : w.frozen? ⟨B, 1, none⟩ = false
  f2 : w.frozen? ⟨B, 2, none⟩ = false
theorem Box.below {w w' : World} {B : Nat} {a : Option Addr} {n c : Nat} {b : PB} (h : Box w B a n c b) (hb : Below w.heap.size w w') : Box w' B a n c b :=
  ⟨keepc hb h.c0, keepc hb h.c1, keepc hb h.c2, keepf hb h.c0 h.f0, keepf hb h.c1 h.f1, keepf hb h.c2 h.f2⟩
theorem Box.but {w w' : World} {B g : Nat} {a : Option Addr} {n c : Nat} {b : PB} (h : Box w B a n c b) (hb : Below g w w') (hg : B < g) : Box w' B a n c b :=
  ⟨by rw [hb.cell (by exact hg)]; exact h.c0, by rw [hb.cell (by exact hg)]; exact h.c1, by rw [hb.cell (by exact hg)]; exact h.c2, by rw [hb.frozen (by exact hg)]; exact h.f0, by rw [hb.frozen (by exact hg)]; exact h.f1, by rw [hb.frozen (by exact hg)]; exact h.f2⟩
theorem Box.lt {w : World} {B : Nat} {a : Option Addr} {n c : Nat} {b : PB} (h : Box w B a n c b) : B < w.heap.size := World.block_lt_of_cell? _ _ h.c0
theorem Box.put {w : World} {B : Nat} {a : Option Addr} {n c : Nat} {b : PB} (h : Box w B a n c b) (a' : Option Addr) (n' c' : Nat) (b' : PB) :
    Box (((w.setCell ⟨B, 0, none⟩ (.slice a' n' c')).setCell ⟨B, 1, none⟩ (.int .i64 b'.h)).setCell ⟨B, 2, none⟩ (.int .i64 b'.t)) B a' n' c' b' := by
  have e1 : (w.setCell ⟨B, 0, none⟩ (.slice a' n' c')).cell? ⟨B, 1, none⟩ = some (.int .i64 b.h) := by rw [World.cell?_setCell_other _ _ _ _ (by simp)]; exact h.c1
  have e2 : ((w.setCell ⟨B, 0, none⟩ (.slice a' n' c')).setCell ⟨B, 1, none⟩ (.int .i64 b'.h)).cell? ⟨B, 2, none⟩ = some (.int .i64 b.t) := by rw [World.cell?_setCell_other _ _ _ _ (by simp), World.cell?_setCell_other _ _ _ _ (by simp)]; exact h.c2
  refine ⟨?_, ?_, World.cell?_setCell_same _ _ _ e2, by rw [World.frozen?_setCell, World.frozen?_setCell, World.frozen?_setCell]; exact h.f0, by rw [World.frozen?_setCell, World.frozen?_setCell, World.frozen?_setCell]; exact h.f1, by rw [World.frozen?_setCell, World.frozen?_setCell, World.frozen?_setCell]; exact h.f2⟩
  · rw [World.cell?_setCell_other _ _ _ _ (by simp), World.cell?_setCell_other _ _ _ _ (by simp)]
    exact World.cell?_setCell_same _ _ _ h.c0
  · rw [World.cell?_setCell_other _ _ _ _ (by simp)]
    exact World.cell?_setCell_same _ _ _ e1

/-- Keys of the call's own: a row of three that may be written. -/
structure Trio (w : World) (q : Nat) (l : List Int) : Prop where
  len : l.length = 3
  cell : ∀ i, i < 3 → w.cell? ⟨q, i, none⟩ = some (.int .i64 (l.getD i 0))
  ice : ∀ j, w.frozen? ⟨q, j, none⟩ = false
  wf : ∀ x ∈ l, -9223372036854775808 ≤ x ∧ x ≤ 9223372036854775807
theorem Trio.lt {w : World} {q : Nat} {l : List Int} (h : Trio w q l) : q < w.heap.size := World.block_lt_of_cell? _ _ (h.cell 0 (by omega))
theorem Trio.below {w w' : World} {q : Nat} {l : List Int} (h : Trio w q l) (hb : Below w.heap.size w w') : Trio w' q l :=
  ⟨h.len, fun i hi => keepc hb (h.cell i hi), fun j => by rw [hb.frozen (by exact h.lt)]; exact h.ice j, h.wf⟩
theorem Trio.far {w : World} {q : Nat} {l : List Int} (h : Trio w q l) (p : Addr) (v : Value) (hp : p.block ≠ q) : Trio (w.setCell p v) q l :=
  ⟨h.len, fun i hi => by rw [World.cell?_setCell_other _ _ _ _ (fun e => hp (by rw [e]))]; exact h.cell i hi, fun j => by rw [World.frozen?_setCell]; exact h.ice j, h.wf⟩
theorem Trio.set {w : World} {q : Nat} {l : List Int} (h : Trio w q l) (i : Nat) (hi : i < 3) (x : Int) (hx : -9223372036854775808 ≤ x ∧ x ≤ 9223372036854775807) : Trio (w.setCell ⟨q, i, none⟩ (.int .i64 x)) q (l.set i x) := by
  have hl := h.len
  refine ⟨by simp [hl], fun j hj => ?_, fun j => by rw [World.frozen?_setCell]; exact h.ice j, fun y hy => ?_⟩
  · by_cases e : i = j
    · subst e
      rw [World.cell?_setCell_same _ _ _ (h.cell i hi)]
      simp [List.getD, hl, hi]
    · rw [World.cell?_setCell_other _ _ _ _ (by simp [e]), h.cell j hj]
      simp [List.getD, List.getElem?_set_ne e]
  · rcases List.mem_or_eq_of_mem_set hy with hy | rfl
    · exact h.wf y hy
    · exact hx
theorem Trio.ints {w : World} {q : Nat} {l : List Int} (h : Trio w q l) : Ints w (some ⟨q, 0, none⟩) 3 3 l :=
  ⟨h.len, Nat.le_refl _, by omega, fun e => (by cases e), .inr ⟨q, 0, rfl, h.lt, fun i hi => by simpa using h.cell i hi⟩, h.wf⟩
theorem Trio.of_row {w : World} {q : Nat} {l : List Int} {t : TypeId} (h : w.heap[q]? = some (.cells (cellsOf l).toArray t (0, 0))) (hl : l.length = 3) (hw : ∀ x ∈ l, -9223372036854775808 ≤ x ∧ x ≤ 9223372036854775807) : Trio w q l :=
  ⟨hl, fun i hi => by rw [cell_of_row w q _ _ t _ h]; simpa using cellsOf_get l i (by omega), fun j => ice_row h, hw⟩

/-- w' is w, but that cells of the blocks B and C may be others. -/
structure Apart (B C : Nat) (w w' : World) : Prop where
  low : ∀ n, n ≤ B → n ≤ C → Below n w w'
  size : w'.heap.size = w.heap.size
  cell : ∀ p : Addr, p.block ≠ B → p.block ≠ C → w'.cell? p = w.cell? p
  ice : ∀ p, w'.frozen? p = w.frozen? p
theorem Apart.refl (B C : Nat) (w : World) : Apart B C w w := ⟨fun _ _ _ => Below.refl _ _, rfl, fun _ _ _ => rfl, fun _ => rfl⟩
theorem Apart.trans {B C : Nat} {w1 w2 w3 : World} (h : Apart B C w1 w2) (k : Apart B C w2 w3) : Apart B C w1 w3 :=
  ⟨fun n h1 h2 => (h.low n h1 h2).trans (k.low n h1 h2), k.size.trans h.size, fun p h1 h2 => (k.cell p h1 h2).trans (h.cell p h1 h2), fun p => (k.ice p).trans (h.ice p)⟩
theorem Apart.set {B C : Nat} {w w' : World} (h : Apart B C w w') (p : Addr) (v : Value) (hp : p.block = B ∨ p.block = C) : Apart B C w (w'.setCell p v) :=
  ⟨fun n h1 h2 => (h.low n h1 h2).setCell (by rcases hp with e | e <;> omega) _, by simp [World.setCell, h.size], fun q h1 h2 => by rw [World.cell?_setCell_other _ _ _ _ (fun e => by rcases hp with k | k <;> simp_all)]; exact h.cell q h1 h2, fun q => by rw [World.frozen?_setCell]; exact h.ice q⟩
theorem Box.far {w : World} {B : Nat} {a : Option Addr} {n c : Nat} {b : PB} (h : Box w B a n c b) (p : Addr) (v : Value) (hp : p.block ≠ B) : Box (w.setCell p v) B a n c b :=
  ⟨by rw [World.cell?_setCell_other _ _ _ _ (fun e => hp (by rw [e]))]; exact h.c0, by rw [World.cell?_setCell_other _ _ _ _ (fun e => hp (by rw [e]))]; exact h.c1, by rw [World.cell?_setCell_other _ _ _ _ (fun e => hp (by rw [e]))]; exact h.c2, by rw [World.frozen?_setCell]; exact h.f0, by rw [World.frozen?_setCell]; exact h.f1, by rw [World.frozen?_setCell]; exact h.f2⟩

end Go.Proofs.YtklabieacbbbfaaDoor

/- The contracts of book's calls where they answer an error of the book, the hand or the number; no condition but that the keys read as a list. -/
namespace Go.Proofs.YtklabieacbbbfaaDoor
open Go.RowKit
set_option linter.unusedVariables false
set_option maxRecDepth 100000
set_option linter.unusedSimpArgs false

end Go.Proofs.YtklabieacbbbfaaDoor

/- The contracts of book's Register, Reserve, Release; no condition but that the keys read as a list. -/
namespace Go.Proofs.YtklabieacbbbfaaDoor
open Go.RowKit
set_option linter.unusedVariables false
set_option maxRecDepth 100000
set_option linter.unusedSimpArgs false

end Go.Proofs.YtklabieacbbbfaaDoor

/- The contracts of book's Preempt and May; no condition but that the keys read as a list. -/
namespace Go.Proofs.YtklabieacbbbfaaDoor
open Go.RowKit
set_option linter.unusedVariables false
set_option maxRecDepth 100000
set_option linter.unusedSimpArgs false

end Go.Proofs.YtklabieacbbbfaaDoor

/- The contracts of package book; no condition but that the keys read as a list. -/
namespace Go.Proofs.YtklabieacbbbfaaDoor
open Go.RowKit
set_option linter.unusedVariables false
set_option maxRecDepth 100000
set_option linter.unusedSimpArgs false

end Go.Proofs.YtklabieacbbbfaaDoor

/- The contracts of desk's small functions: within, hasZone, Check, Same, CheckAnswer, New; no condition but that the arguments read as data. -/
namespace Go.Proofs.YtklabieacbbbfaaDoor
open Go.RowKit
set_option linter.unusedVariables false
set_option maxRecDepth 100000
set_option linter.unusedSimpArgs false

theorem dwithin_c (n a b : Int) (w : World) : Calls Tryd.prog 34 #[.int .i64 n, .int .i64 a, .int .i64 b] w fun e w' => e = .returned (.bool (inB n a b)) ∧ w' = w := by
  go_enter Tryd.func34, Tryd.ntmps34
  go_wp2
  all_goals (go_ret; exact ⟨ret_bool (by unfold inB; rw [Bool.eq_iff_iff]; simp; try omega), rfl⟩)

end Go.Proofs.YtklabieacbbbfaaDoor

/- The contracts of desk's CheckAnswer, checkDo, reserved, turned, may and read; no condition but that the arguments read as data, and where a right desk is said so. -/
namespace Go.Proofs.YtklabieacbbbfaaDoor
open Go.RowKit
set_option linter.unusedVariables false
set_option maxRecDepth 100000
set_option linter.unusedSimpArgs false

set_option maxHeartbeats 2000000 in
theorem DCheckAnswer_c (x : AV) (w : World) (h : x.ok w) : Calls Tryd.prog 15 #[x.v] w fun e w' => e = .returned (.int .i64 (checkA x.p)) ∧ Below w.heap.size w w' := by
  obtain ⟨ee, tt, a, n, c, l⟩ := x
  have hI : Ints w a n c l := h
  dsimp only [AV.v, AV.p]
  have hlen := hI.len
  have hmax := hI.max
  have hle := hI.le
  rcases (by omega : ee < 0 ∨ (0 ≤ ee ∧ 9 < ee) ∨ (0 ≤ ee ∧ ee ≤ 9)) with h1 | ⟨h0, h1⟩ | ⟨h0, h1⟩
  · have HC : Hid (checkA ⟨ee, tt, l⟩ = 3) := hide (by unfold checkA; exact if_pos (.inl (by simp [outB]; omega)))
    go_enter Tryd.func15, Tryd.ntmps15
    go_wp2
    go_ret
    exact ⟨ret_int HC.out.symm, by (repeat first | exact bel0 | assumption | refine bel1 ?_ | refine bel2 ?_ | refine bel3 ?_ | refine belowT ?_ (by assumption) | refine bel5 ?_ (by simp; try omega))⟩
  · have HC : Hid (checkA ⟨ee, tt, l⟩ = 3) := hide (by unfold checkA; exact if_pos (.inl (by simp [outB]; omega)))
    go_enter Tryd.func15, Tryd.ntmps15
    go_wp2
    go_ret
    exact ⟨ret_int HC.out.symm, by (repeat first | exact bel0 | assumption | refine bel1 ?_ | refine bel2 ?_ | refine bel3 ?_ | refine belowT ?_ (by assumption) | refine bel5 ?_ (by simp; try omega))⟩
  · cases ht : inB tt 0 7
    · have HC : Hid (checkA ⟨ee, tt, l⟩ = 3) := hide (by unfold checkA; exact if_pos (.inr (by rw [inB_outB] at ht; simpa using ht)))
      have HT := hide ht
      clear ht
      go_enter Tryd.func15, Tryd.ntmps15
      go_wp2_with (go_at_call 34; refine (dwithin_c _ _ _ _).mono ?_; rintro e w1 ⟨rfl, rfl⟩; rw [HT.out])
      go_ret
      exact ⟨ret_int HC.out.symm, by (repeat first | exact bel0 | assumption | refine bel1 ?_ | refine bel2 ?_ | refine bel3 ?_ | refine belowT ?_ (by assumption) | refine bel5 ?_ (by simp; try omega))⟩
    · have HC : Hid (checkA ⟨ee, tt, l⟩ = if 8 < l.length then 2 else if l.any (outB 0 999) then 3 else if ee ≠ 0 ∧ (tt ≠ 0 ∨ l ≠ []) then 4 else 0) := hide (by
        unfold checkA
        exact if_neg (by rw [inB_outB] at ht; simp only [Bool.not_eq_true'] at ht; rw [ht]; simp [outB]; omega))
      have HT := hide ht
      clear ht
      by_cases h8 : 8 < n
      · have h8' : (8 : Int) < (n : Int) := by omega
        go_enter Tryd.func15, Tryd.ntmps15
        go_wp2_with (go_at_call 34; refine (dwithin_c _ _ _ _).mono ?_; rintro e w1 ⟨rfl, rfl⟩; rw [HT.out])
        go_ret
        exact ⟨ret_int (by rw [HC.out, hlen, if_pos h8]), by (repeat first | exact bel0 | assumption | refine bel1 ?_ | refine bel2 ?_ | refine bel3 ?_ | refine belowT ?_ (by assumption) | refine bel5 ?_ (by simp; try omega))⟩
      · have h8' : ¬ (8 : Int) < (n : Int) := by omega
        go_enter Tryd.func15, Tryd.ntmps15
        go_wp2_with (go_at_call 34; refine (dwithin_c _ _ _ _).mono ?_; rintro e w1 ⟨rfl, rfl⟩; rw [HT.out])
        go_loop [26] (fun i => ∃ k : Nat, k ≤ n ∧ i = .int .i64 k ∧ (l.take k).any (outB 0 999) = false) (fun i => n - (intOf i).toNat)
        case atStart => exact ⟨0, by omega, rfl, by simp⟩
        case round =>
          obtain ⟨k, hk, rfl, hno⟩ := hrel
          have HN := hide hno
          clear hno
          by_cases hlt : k < n
          · have hlt' : (k : Int) < (n : Int) := by omega
            rcases hI.row with h00 | ⟨b1, o1, rfl, _, hr1⟩
            · omega
            · have hi1 := past1 (hr1 k hlt)
              generalize hx : l.getD k 0 = x at hi1
              have HX := hide hx
              clear hx hr1
              cases hin : inB x 0 999
              · have HIN := hide hin
                clear hin
                go_wp2_with (go_at_call 34; refine (dwithin_c _ _ _ _).mono ?_; rintro e w1 ⟨rfl, rfl⟩; rw [HIN.out])
                go_ret
                refine ⟨ret_int ?_, by (repeat first | exact bel0 | assumption | refine bel1 ?_ | refine bel2 ?_ | refine bel3 ?_ | refine belowT ?_ (by assumption) | refine bel5 ?_ (by simp; try omega))⟩
                have hin := HIN.out
                rw [inB_outB] at hin
                rw [HC.out, hlen, if_neg h8, any_of_getD _ l k (by omega) (by rw [HX.out]; simpa using hin)]
                rfl
              · have HIN := hide hin
                clear hin
                go_wp2_with (go_at_call 34; refine (dwithin_c _ _ _ _).mono ?_; rintro e w1 ⟨rfl, rfl⟩; rw [HIN.out])
                have hin := HIN.out
                rw [inB_outB] at hin
                exact ⟨⟨k + 1, by omega, by go_num, any_take_step _ l k (by omega) HN.out (by rw [HX.out]; simpa using hin)⟩, by simp [intOf]; omega⟩
          · obtain rfl : k = n := by omega
            have hno := HN.out
            rw [List.take_of_length_le (by omega)] at hno
            have HN2 := hide hno
            clear hno HN
            cases e0 : ee != 0
            · go_wp2
              go_ret
              exact ⟨ret_int (by simp at e0; rw [HC.out, hlen, if_neg h8, HN2.out]; simp [e0]), by (repeat first | exact bel0 | assumption | refine bel1 ?_ | refine bel2 ?_ | refine bel3 ?_ | refine belowT ?_ (by assumption) | refine bel5 ?_ (by simp; try omega))⟩
            · cases t0 : tt != 0
              · by_cases hk0 : 0 < k
                · have hk0' : (0 : Int) < (k : Int) := by omega
                  go_wp2
                  go_ret
                  have hl : l ≠ [] := fun e => by rw [e] at hlen; simp at hlen; omega
                  exact ⟨ret_int (by simp at e0; rw [HC.out, hlen, if_neg h8, HN2.out]; simp [e0, hl]), by (repeat first | exact bel0 | assumption | refine bel1 ?_ | refine bel2 ?_ | refine bel3 ?_ | refine belowT ?_ (by assumption) | refine bel5 ?_ (by simp; try omega))⟩
                · have hk0' : ¬ (0 : Int) < (k : Int) := by omega
                  go_wp2
                  go_ret
                  have hl : l = [] := List.eq_nil_of_length_eq_zero (by omega)
                  exact ⟨ret_int (by simp at t0; rw [HC.out, hlen, if_neg h8, HN2.out]; simp [t0, hl]), by (repeat first | exact bel0 | assumption | refine bel1 ?_ | refine bel2 ?_ | refine bel3 ?_ | refine belowT ?_ (by assumption) | refine bel5 ?_ (by simp; try omega))⟩
              · go_wp2
                go_ret
                exact ⟨ret_int (by simp at e0 t0; rw [HC.out, hlen, if_neg h8, HN2.out]; simp [e0, t0]), by (repeat first | exact bel0 | assumption | refine bel1 ?_ | refine bel2 ?_ | refine bel3 ?_ | refine belowT ?_ (by assumption) | refine bel5 ?_ (by simp; try omega))⟩

end Go.Proofs.YtklabieacbbbfaaDoor

/- The contracts of desk's reserved and read; no condition but that the arguments read as data, and where a right desk is said so. -/
namespace Go.Proofs.YtklabieacbbbfaaDoor
open Go.RowKit
set_option linter.unusedVariables false
set_option maxRecDepth 100000
set_option linter.unusedSimpArgs false

end Go.Proofs.YtklabieacbbbfaaDoor

/- The contracts of desk's reserve, turn and write, which change the desk that lies in its box; no condition but that the box holds a desk whose lists lie elsewhere. -/
namespace Go.Proofs.YtklabieacbbbfaaDoor
open Go.RowKit
set_option linter.unusedVariables false
set_option maxRecDepth 100000
set_option linter.unusedSimpArgs false

/-- The desk that lies in box B, and nothing of it in B itself. -/
structure DBox (w : World) (B : Nat) (d : DV) : Prop where
  lay : Lay w B d.cells
  ok : d.ok w
  off : d.off B
theorem DBox.below {w w' : World} {B : Nat} {d : DV} (h : DBox w B d) (hb : Below w.heap.size w w') : DBox w' B d := ⟨h.lay.below hb, h.ok.below hb (Nat.le_refl _), h.off⟩

/-- Zones of new memory are laid into the box. -/
theorem DBox.zones {w : World} {B : Nat} {d : DV} (h : DBox w B d) {a : Option Addr} {n c : Nat} {Z : List ZV} (hz : Zones w a n c Z) {N : Nat} (hn : NewZ N a Z) (hB : B < N) :
    DBox (w.setCell ⟨B, 0, none⟩ (.slice a n c)) B ⟨a, n, c, Z, d.ka, d.kn, d.kc, d.b⟩ := by
  have ho : (⟨a, n, c, Z, d.ka, d.kn, d.kc, d.b⟩ : DV).off B := ⟨.inr fun x e => by have := hn.1 x e; omega, fun z hz => .inr fun x e => by have := hn.2 z hz x e; omega, h.off.k⟩
  exact ⟨h.lay.set 0 _, DV.ok.but ⟨hz, h.ok.k⟩ ((But.refl B w).step 0 _) ho, ho⟩
/-- A book of new memory is laid into the box. -/
theorem DBox.book {w : World} {B : Nat} {d : DV} (h : DBox w B d) {a : Option Addr} {n c : Nat} {b : PB} (hk : Ints w a n c b.k) {N : Nat} (hn : ∀ x, a = some x → N ≤ x.block) (hB : B < N) :
    DBox (((w.setCell ⟨B, 1, none⟩ (.slice a n c)).setCell ⟨B, 2, none⟩ (.int .i64 b.h)).setCell ⟨B, 3, none⟩ (.int .i64 b.t)) B ⟨d.za, d.zn, d.zc, d.Z, a, n, c, b⟩ := by
  have ho : (⟨d.za, d.zn, d.zc, d.Z, a, n, c, b⟩ : DV).off B := ⟨h.off.z, h.off.l, .inr fun x e => by have := hn x e; omega⟩
  exact ⟨((h.lay.set 1 _).set 2 _).set 3 _, DV.ok.but ⟨h.ok.z, hk⟩ ((((But.refl B w).step 1 _).step 2 _).step 3 _) ho, ho⟩
end Go.Proofs.YtklabieacbbbfaaDoor

/- The contract of desk's write; no condition but that the box holds a right desk whose lists lie elsewhere, and that the data reads as a list. -/
namespace Go.Proofs.YtklabieacbbbfaaDoor
open Go.RowKit
set_option linter.unusedVariables false
set_option maxRecDepth 100000
set_option linter.unusedSimpArgs false

theorem DBox.butI {w w' : World} {B R : Nat} {d : DV} (h : DBox w B d) (hb : ButI R w w') (hR : B ≠ R) (ho : d.off R) : DBox w' B d := ⟨h.lay.butI hb hR, h.ok.but hb.but ho, h.off⟩

end Go.Proofs.YtklabieacbbbfaaDoor

/- The contract of desk's work; no condition but that the box holds a right desk whose lists lie elsewhere, that the hand is there and the command a right one. -/
namespace Go.Proofs.YtklabieacbbbfaaDoor
open Go.RowKit
set_option linter.unusedVariables false
set_option maxRecDepth 100000
set_option linter.unusedSimpArgs false

end Go.Proofs.YtklabieacbbbfaaDoor

/- The contract of plain.CopyDesk; no condition but that the desk reads as data, and is no greater than a machine bears; and what a right desk is. -/
namespace Go.Proofs.YtklabieacbbbfaaDoor
open Go.RowKit
set_option linter.unusedVariables false
set_option maxRecDepth 100000
set_option linter.unusedSimpArgs false

end Go.Proofs.YtklabieacbbbfaaDoor

/- The contract of desk.Do: it answers what the plain functions say, in new memory, and leaves what was there as it was; no condition but that the arguments read as data and the package's table is as its text lays it. -/
namespace Go.Proofs.YtklabieacbbbfaaDoor
open Go.RowKit
set_option linter.unusedVariables false
set_option maxRecDepth 100000
set_option linter.unusedSimpArgs false

end Go.Proofs.YtklabieacbbbfaaDoor

/- The contract of desk.Do in plain words, and the law's closed fact on desks; no condition but that the package's table is as its text lays it. -/
namespace Go.Proofs.YtklabieacbbbfaaDoor
open Go.RowKit
set_option linter.unusedVariables false
set_option maxRecDepth 100000
set_option linter.unusedSimpArgs false

end Go.Proofs.YtklabieacbbbfaaDoor

/- The contracts of the document's own answers on books: FreshBook, CheckBook, SameBook, Might; no condition but that the keys read as a list. -/
namespace Go.Proofs.YtklabieacbbbfaaDoor
open Go.RowKit
set_option linter.unusedVariables false
set_option maxRecDepth 100000
set_option linter.unusedSimpArgs false

end Go.Proofs.YtklabieacbbbfaaDoor
