/- BookSays answers true for every two books, numbers and word, and leaves all that was there as it was; no condition. -/
import Derived.Test.YtogpbihmofbfjaaK5
import Derived.Test.YtogpbihmofbfjaaK6
namespace Go.Proofs.Ytogpbihmofbfjaa
open Go.RowKit
set_option linter.unusedVariables false
set_option maxRecDepth 100000
set_option linter.unusedSimpArgs false

/-- An entry of the law's own table: a book, an error. -/
structure Ent (w : World) (A j : Nat) (a : Option Addr) (n c : Nat) (b : PB) (e : Int) : Prop where
  c0 : w.cell? ⟨A, j, none⟩ = some (.slice a n c)
  c1 : w.cell? ⟨A, j + 1, none⟩ = some (.int .i64 b.h)
  c2 : w.cell? ⟨A, j + 2, none⟩ = some (.int .i64 b.t)
  c3 : w.cell? ⟨A, j + 3, none⟩ = some (.int .i64 e)
  f0 : w.frozen? ⟨A, j, none⟩ = false
  f1 : w.frozen? ⟨A, j + 1, none⟩ = false
  f2 : w.frozen? ⟨A, j + 2, none⟩ = false
  f3 : w.frozen? ⟨A, j + 3, none⟩ = false

def put4 (w : World) (A j : Nat) (a : Option Addr) (n c : Nat) (b : PB) (e : Int) : World :=
  (((w.setCell ⟨A, j, none⟩ (.slice a n c)).setCell ⟨A, j + 1, none⟩ (.int .i64 b.h)).setCell ⟨A, j + 2, none⟩ (.int .i64 b.t)).setCell ⟨A, j + 3, none⟩ (.int .i64 e)

theorem put4_cell {w : World} {A j : Nat} {a : Option Addr} {n c : Nat} {b : PB} {e : Int} (p : Addr) (h : p.block ≠ A ∨ p.off < j ∨ j + 3 < p.off) : (put4 w A j a n c b e).cell? p = w.cell? p := by
  unfold put4
  have hp : ∀ i, (i = j ∨ i = j + 1 ∨ i = j + 2 ∨ i = j + 3) → (⟨A, i, none⟩ : Addr) ≠ p := by
    intro i hi e
    rw [← e] at h
    simp at h
    omega
  rw [World.cell?_setCell_other _ _ _ _ (hp _ (by omega)), World.cell?_setCell_other _ _ _ _ (hp _ (by omega)), World.cell?_setCell_other _ _ _ _ (hp _ (by omega)), World.cell?_setCell_other _ _ _ _ (hp _ (by omega))]
theorem put4_ice {w : World} {A j : Nat} {a : Option Addr} {n c : Nat} {b : PB} {e : Int} (p : Addr) : (put4 w A j a n c b e).frozen? p = w.frozen? p := by
  unfold put4
  rw [World.frozen?_setCell, World.frozen?_setCell, World.frozen?_setCell, World.frozen?_setCell]
theorem Ent.below {w w' : World} {A j : Nat} {a : Option Addr} {n c : Nat} {b : PB} {e : Int} (h : Ent w A j a n c b e) (hb : Below w.heap.size w w') : Ent w' A j a n c b e :=
  ⟨keepc hb h.c0, keepc hb h.c1, keepc hb h.c2, keepc hb h.c3, keepf hb h.c0 h.f0, keepf hb h.c1 h.f1, keepf hb h.c2 h.f2, keepf hb h.c3 h.f3⟩
theorem Ent.other {w : World} {A j : Nat} {a : Option Addr} {n c : Nat} {b : PB} {e : Int} (h : Ent w A j a n c b e) (i : Nat) (hi : i + 3 < j ∨ j + 3 < i) (a' : Option Addr) (n' c' : Nat) (b' : PB) (e' : Int) : Ent (put4 w A i a' n' c' b' e') A j a n c b e :=
  ⟨by rw [put4_cell _ (by simp; omega)]; exact h.c0, by rw [put4_cell _ (by simp; omega)]; exact h.c1, by rw [put4_cell _ (by simp; omega)]; exact h.c2, by rw [put4_cell _ (by simp; omega)]; exact h.c3,
    by rw [put4_ice]; exact h.f0, by rw [put4_ice]; exact h.f1, by rw [put4_ice]; exact h.f2, by rw [put4_ice]; exact h.f3⟩
theorem Ent.put {w : World} {A j : Nat} {a : Option Addr} {n c : Nat} {b : PB} {e : Int} (h : Ent w A j a n c b e) (a' : Option Addr) (n' c' : Nat) (b' : PB) (e' : Int) : Ent (put4 w A j a' n' c' b' e') A j a' n' c' b' e' := by
  have d1 : (w.setCell ⟨A, j, none⟩ (.slice a' n' c')).cell? ⟨A, j + 1, none⟩ = some (.int .i64 b.h) := by rw [World.cell?_setCell_other _ _ _ _ (by simp)]; exact h.c1
  have d2 : ((w.setCell ⟨A, j, none⟩ (.slice a' n' c')).setCell ⟨A, j + 1, none⟩ (.int .i64 b'.h)).cell? ⟨A, j + 2, none⟩ = some (.int .i64 b.t) := by rw [World.cell?_setCell_other _ _ _ _ (by simp), World.cell?_setCell_other _ _ _ _ (by simp)]; exact h.c2
  have d3 : (((w.setCell ⟨A, j, none⟩ (.slice a' n' c')).setCell ⟨A, j + 1, none⟩ (.int .i64 b'.h)).setCell ⟨A, j + 2, none⟩ (.int .i64 b'.t)).cell? ⟨A, j + 3, none⟩ = some (.int .i64 e) := by rw [World.cell?_setCell_other _ _ _ _ (by simp), World.cell?_setCell_other _ _ _ _ (by simp), World.cell?_setCell_other _ _ _ _ (by simp)]; exact h.c3
  refine ⟨?_, ?_, ?_, World.cell?_setCell_same _ _ _ d3, by rw [put4_ice]; exact h.f0, by rw [put4_ice]; exact h.f1, by rw [put4_ice]; exact h.f2, by rw [put4_ice]; exact h.f3⟩
  · unfold put4
    rw [World.cell?_setCell_other _ _ _ _ (by simp), World.cell?_setCell_other _ _ _ _ (by simp), World.cell?_setCell_other _ _ _ _ (by simp)]
    exact World.cell?_setCell_same _ _ _ h.c0
  · unfold put4
    rw [World.cell?_setCell_other _ _ _ _ (by simp), World.cell?_setCell_other _ _ _ _ (by simp)]
    exact World.cell?_setCell_same _ _ _ d1
  · unfold put4
    rw [World.cell?_setCell_other _ _ _ _ (by simp)]
    exact World.cell?_setCell_same _ _ _ d2
theorem Box.other {w : World} {B A j : Nat} {a : Option Addr} {n c : Nat} {b : PB} (h : Box w B a n c b) (hB : B ≠ A) (a' : Option Addr) (n' c' : Nat) (b' : PB) (e' : Int) : Box (put4 w A j a' n' c' b' e') B a n c b :=
  ⟨by rw [put4_cell _ (.inl hB)]; exact h.c0, by rw [put4_cell _ (.inl hB)]; exact h.c1, by rw [put4_cell _ (.inl hB)]; exact h.c2, by rw [put4_ice]; exact h.f0, by rw [put4_ice]; exact h.f1, by rw [put4_ice]; exact h.f2⟩
theorem Ints.byput {w : World} {A j : Nat} {a : Option Addr} {n c : Nat} {l : List Int} (h : Ints w a n c l) (hA : ∀ x, a = some x → x.block ≠ A) (a' : Option Addr) (n' c' : Nat) (b' : PB) (e' : Int) : Ints (put4 w A j a' n' c' b' e') a n c l :=
  (((h.setCell _ _ hA).setCell _ _ hA).setCell _ _ hA).setCell _ _ hA
theorem Below.byput {B : Nat} {u w : World} (h : Below B u w) {A j : Nat} (hA : B ≤ A) (a' : Option Addr) (n' c' : Nat) (b' : PB) (e' : Int) : Below B u (put4 w A j a' n' c' b' e') :=
  (((h.setCell (p := ⟨A, j, none⟩) hA _).setCell (p := ⟨A, j + 1, none⟩) hA _).setCell (p := ⟨A, j + 2, none⟩) hA _).setCell (p := ⟨A, j + 3, none⟩) hA _
theorem Ints.byput' {w : World} {A j : Nat} {a : Option Addr} {n c : Nat} {l : List Int} (h : Ints w a n c l) (hA : n = 0 ∨ ∀ x, a = some x → x.block ≠ A) (a' : Option Addr) (n' c' : Nat) (b' : PB) (e' : Int) : Ints (put4 w A j a' n' c' b' e') a n c l := by
  rcases hA with h0 | hA
  · exact ⟨h.len, h.le, h.max, h.nil, .inl h0, h.wf⟩
  · exact h.byput hA a' n' c' b' e'
theorem Ints.apart {w : World} {a : Option Addr} {n c : Nat} {l : List Int} (h : Ints w a n c l) {A : Nat} (hA : w.heap.size ≤ A) : n = 0 ∨ ∀ x, a = some x → x.block ≠ A := by
  rcases h.row with h0 | ⟨b, off, ha, hlt, _⟩
  · exact .inl h0
  · refine .inr fun x e => ?_
    rw [ha] at e
    cases e
    simp
    omega

theorem ixK (w : World) : (Instr.index 32 (.agg #[.int .i64 8, .int .i64 9, .int .i64 10, .int .i64 11, .int .i64 12]) (.int .i64 0)).run Try.prog w = .ok (.int .i64 8) w ∧ (Instr.index 32 (.agg #[.int .i64 8, .int .i64 9, .int .i64 10, .int .i64 11, .int .i64 12]) (.int .i64 1)).run Try.prog w = .ok (.int .i64 9) w ∧
    (Instr.index 32 (.agg #[.int .i64 8, .int .i64 9, .int .i64 10, .int .i64 11, .int .i64 12]) (.int .i64 2)).run Try.prog w = .ok (.int .i64 10) w ∧ (Instr.index 32 (.agg #[.int .i64 8, .int .i64 9, .int .i64 10, .int .i64 11, .int .i64 12]) (.int .i64 3)).run Try.prog w = .ok (.int .i64 11) w ∧
    (Instr.index 32 (.agg #[.int .i64 8, .int .i64 9, .int .i64 10, .int .i64 11, .int .i64 12]) (.int .i64 4)).run Try.prog w = .ok (.int .i64 12) w := ⟨by kernel_rfl, by kernel_rfl, by kernel_rfl, by kernel_rfl, by kernel_rfl⟩

set_option maxRecDepth 100000 in
set_option maxHeartbeats 16000000 in
theorem BookSays_c (a : Option Addr) (n c : Nat) (b : PB) (who key : Int) (wt : Bool) (aC : Option Addr) (nC cC : Nat) (bC : PB) (w : World) (h : Ints w a n c b.k) (hC : Ints w aC nC cC bC.k) :
    Calls Try.prog 3 #[bookV a n c b, .int .i64 who, .int .i64 key, .bool wt, bookV aC nC cC bC] w fun e w' => e = .returned (.bool true) ∧ Below w.heap.size w w' := by
  unfold bookV
  go_enter Try.func3, Try.ntmps3
  go_wp2_with fail
  have xb : Box (((w.alloc (.cells #[.slice a n c, .int .i64 b.h, .int .i64 b.t] 24)).alloc (.cells #[.slice aC nC cC, .int .i64 bC.h, .int .i64 bC.t] 24)).alloc (.cells #[.slice none 0 0, .int .i64 0, .int .i64 0, .int .i64 0, .slice none 0 0, .int .i64 0, .int .i64 0, .int .i64 0, .slice none 0 0, .int .i64 0, .int .i64 0, .int .i64 0, .slice none 0 0, .int .i64 0, .int .i64 0, .int .i64 0, .slice none 0 0, .int .i64 0, .int .i64 0, .int .i64 0] 28)) w.heap.size a n c b :=
    (Box.made w a n c b).below (belowA (belowA (Below.refl _ _) _) _)
  have xc : Box (((w.alloc (.cells #[.slice a n c, .int .i64 b.h, .int .i64 b.t] 24)).alloc (.cells #[.slice aC nC cC, .int .i64 bC.h, .int .i64 bC.t] 24)).alloc (.cells #[.slice none 0 0, .int .i64 0, .int .i64 0, .int .i64 0, .slice none 0 0, .int .i64 0, .int .i64 0, .int .i64 0, .slice none 0 0, .int .i64 0, .int .i64 0, .int .i64 0, .slice none 0 0, .int .i64 0, .int .i64 0, .int .i64 0, .slice none 0 0, .int .i64 0, .int .i64 0, .int .i64 0] 28)) (w.heap.size + 1) aC nC cC bC := by
    have := (Box.made (w.alloc (.cells #[.slice a n c, .int .i64 b.h, .int .i64 b.t] 24)) aC nC cC bC).below (belowA (Below.refl _ _) (.cells #[.slice none 0 0, .int .i64 0, .int .i64 0, .int .i64 0, .slice none 0 0, .int .i64 0, .int .i64 0, .int .i64 0, .slice none 0 0, .int .i64 0, .int .i64 0, .int .i64 0, .slice none 0 0, .int .i64 0, .int .i64 0, .int .i64 0, .slice none 0 0, .int .i64 0, .int .i64 0, .int .i64 0] 28))
    simpa using this
  have hrow := heap_new ((w.alloc (.cells #[.slice a n c, .int .i64 b.h, .int .i64 b.t] 24)).alloc (.cells #[.slice aC nC cC, .int .i64 bC.h, .int .i64 bC.t] 24)) (.cells #[.slice none 0 0, .int .i64 0, .int .i64 0, .int .i64 0, .slice none 0 0, .int .i64 0, .int .i64 0, .int .i64 0, .slice none 0 0, .int .i64 0, .int .i64 0, .int .i64 0, .slice none 0 0, .int .i64 0, .int .i64 0, .int .i64 0, .slice none 0 0, .int .i64 0, .int .i64 0, .int .i64 0] 28)
  have bw : Below w.heap.size w (((w.alloc (.cells #[.slice a n c, .int .i64 b.h, .int .i64 b.t] 24)).alloc (.cells #[.slice aC nC cC, .int .i64 bC.h, .int .i64 bC.t] 24)).alloc (.cells #[.slice none 0 0, .int .i64 0, .int .i64 0, .int .i64 0, .slice none 0 0, .int .i64 0, .int .i64 0, .int .i64 0, .slice none 0 0, .int .i64 0, .int .i64 0, .int .i64 0, .slice none 0 0, .int .i64 0, .int .i64 0, .int .i64 0, .slice none 0 0, .int .i64 0, .int .i64 0, .int .i64 0] 28)) := by (repeat first | exact bel0 | assumption | refine bel1 ?_ | refine bel2 ?_ | refine bel3 ?_ | refine belowT ?_ (by assumption) | refine bel5 ?_ (by simp; try omega))
  replace hrow : (((w.alloc (.cells #[.slice a n c, .int .i64 b.h, .int .i64 b.t] 24)).alloc (.cells #[.slice aC nC cC, .int .i64 bC.h, .int .i64 bC.t] 24)).alloc (.cells #[.slice none 0 0, .int .i64 0, .int .i64 0, .int .i64 0, .slice none 0 0, .int .i64 0, .int .i64 0, .int .i64 0, .slice none 0 0, .int .i64 0, .int .i64 0, .int .i64 0, .slice none 0 0, .int .i64 0, .int .i64 0, .int .i64 0, .slice none 0 0, .int .i64 0, .int .i64 0, .int .i64 0] 28)).heap[w.heap.size + 1 + 1]? = some (.cells #[.slice none 0 0, .int .i64 0, .int .i64 0, .int .i64 0, .slice none 0 0, .int .i64 0, .int .i64 0, .int .i64 0, .slice none 0 0, .int .i64 0, .int .i64 0, .int .i64 0, .slice none 0 0, .int .i64 0, .int .i64 0, .int .i64 0, .slice none 0 0, .int .i64 0, .int .i64 0, .int .i64 0] 28) := by simpa using hrow
  have ap := h.apart (A := w.heap.size + 1 + 1) (by omega)
  have apC := hC.apart (A := w.heap.size + 1 + 1) (by omega)
  have hsz : w.heap.size + 1 + 1 < (((w.alloc (.cells #[.slice a n c, .int .i64 b.h, .int .i64 b.t] 24)).alloc (.cells #[.slice aC nC cC, .int .i64 bC.h, .int .i64 bC.t] 24)).alloc (.cells #[.slice none 0 0, .int .i64 0, .int .i64 0, .int .i64 0, .slice none 0 0, .int .i64 0, .int .i64 0, .int .i64 0, .slice none 0 0, .int .i64 0, .int .i64 0, .int .i64 0, .slice none 0 0, .int .i64 0, .int .i64 0, .int .i64 0, .slice none 0 0, .int .i64 0, .int .i64 0, .int .i64 0] 28)).heap.size := by simp
  generalize ((w.alloc (.cells #[.slice a n c, .int .i64 b.h, .int .i64 b.t] 24)).alloc (.cells #[.slice aC nC cC, .int .i64 bC.h, .int .i64 bC.t] 24)).alloc (.cells #[.slice none 0 0, .int .i64 0, .int .i64 0, .int .i64 0, .slice none 0 0, .int .i64 0, .int .i64 0, .int .i64 0, .slice none 0 0, .int .i64 0, .int .i64 0, .int .i64 0, .slice none 0 0, .int .i64 0, .int .i64 0, .int .i64 0, .slice none 0 0, .int .i64 0, .int .i64 0, .int .i64 0] 28) = v0 at *
  replace h := h.below bw (Nat.le_refl _)
  replace hC := hC.below bw (Nat.le_refl _)
  have e0 : Ent v0 (w.heap.size + 1 + 1) 0 none 0 0 zeroB 0 := ⟨by rw [cell_of_row _ _ _ _ _ _ hrow]; rfl, by rw [cell_of_row _ _ _ _ _ _ hrow]; rfl, by rw [cell_of_row _ _ _ _ _ _ hrow]; rfl, by rw [cell_of_row _ _ _ _ _ _ hrow]; rfl, ice_row hrow, ice_row hrow, ice_row hrow, ice_row hrow⟩
  have e1 : Ent v0 (w.heap.size + 1 + 1) 4 none 0 0 zeroB 0 := ⟨by rw [cell_of_row _ _ _ _ _ _ hrow]; rfl, by rw [cell_of_row _ _ _ _ _ _ hrow]; rfl, by rw [cell_of_row _ _ _ _ _ _ hrow]; rfl, by rw [cell_of_row _ _ _ _ _ _ hrow]; rfl, ice_row hrow, ice_row hrow, ice_row hrow, ice_row hrow⟩
  have e2 : Ent v0 (w.heap.size + 1 + 1) 8 none 0 0 zeroB 0 := ⟨by rw [cell_of_row _ _ _ _ _ _ hrow]; rfl, by rw [cell_of_row _ _ _ _ _ _ hrow]; rfl, by rw [cell_of_row _ _ _ _ _ _ hrow]; rfl, by rw [cell_of_row _ _ _ _ _ _ hrow]; rfl, ice_row hrow, ice_row hrow, ice_row hrow, ice_row hrow⟩
  have e3 : Ent v0 (w.heap.size + 1 + 1) 12 none 0 0 zeroB 0 := ⟨by rw [cell_of_row _ _ _ _ _ _ hrow]; rfl, by rw [cell_of_row _ _ _ _ _ _ hrow]; rfl, by rw [cell_of_row _ _ _ _ _ _ hrow]; rfl, by rw [cell_of_row _ _ _ _ _ _ hrow]; rfl, ice_row hrow, ice_row hrow, ice_row hrow, ice_row hrow⟩
  have e4 : Ent v0 (w.heap.size + 1 + 1) 16 none 0 0 zeroB 0 := ⟨by rw [cell_of_row _ _ _ _ _ _ hrow]; rfl, by rw [cell_of_row _ _ _ _ _ _ hrow]; rfl, by rw [cell_of_row _ _ _ _ _ _ hrow]; rfl, by rw [cell_of_row _ _ _ _ _ _ hrow]; rfl, ice_row hrow, ice_row hrow, ice_row hrow, ice_row hrow⟩
  clear hrow
  have nP : w.heap.size ≠ w.heap.size + 1 + 1 := by omega
  have nQ : w.heap.size + 1 ≠ w.heap.size + 1 + 1 := by omega
  have lA : w.heap.size ≤ w.heap.size + 1 + 1 := by omega
  generalize w.heap.size + 1 + 1 = A at *
  generalize w.heap.size + 1 = Q at *
  obtain ⟨P, hP⟩ : ∃ P, P = w.heap.size := ⟨_, rfl⟩
  have xP : Box v0 P a n c b := by rw [hP]; exact xb
  rw [← hP] at nP
  rw [← hP]
  clear hP xb
  refine (BRegister_c a n c b who key _ h).mono ?_
  rintro e w1 ⟨⟨a1, n1, c1, rfl, i1, q1⟩, hb⟩
  generalize hR1 : registerB b who key = R1 at *
  have HR1 := hide hR1
  clear hR1
  simp only [bookV] at i1 ⊢
  have lt1 : A < w1.heap.size := Nat.lt_of_lt_of_le hsz hb.size
  have o1 : ∀ x, a1 = some x → x.block ≠ A := fun x e => by have := q1 x e; omega
  replace bw := belowT bw hb
  replace h := h.below hb (Nat.le_refl _)
  replace hC := hC.below hb (Nat.le_refl _)
  replace xP := xP.below hb
  replace xc := xc.below hb
  replace e0 := e0.below hb
  replace e1 := e1.below hb
  replace e2 := e2.below hb
  replace e3 := e3.below hb
  replace e4 := e4.below hb
  clear hb q1 hsz
  obtain ⟨p0, p1, p2, -, -, -⟩ := id xP
  obtain ⟨g0, g1, g2, g3, g4, g5, g6, g7⟩ := id e0
  simp only [Nat.reduceAdd, zeroB] at g0 g1 g2 g3 g4 g5 g6 g7
  go_wp2_with fail
  clear p0 p1 p2 g0 g1 g2 g3 g4 g5 g6 g7
  change Calls _ _ _ (put4 w1 A 0 a1 n1 c1 R1.1 R1.2) _
  have hsz : A < (put4 w1 A 0 a1 n1 c1 R1.1 R1.2).heap.size := by simpa [put4, World.setCell] using lt1
  replace e0 := e0.put a1 n1 c1 R1.1 R1.2
  replace e1 := e1.other 0 (by omega) a1 n1 c1 R1.1 R1.2
  replace e2 := e2.other 0 (by omega) a1 n1 c1 R1.1 R1.2
  replace e3 := e3.other 0 (by omega) a1 n1 c1 R1.1 R1.2
  replace e4 := e4.other 0 (by omega) a1 n1 c1 R1.1 R1.2
  replace i1 := i1.byput (A := A) (j := 0) o1 a1 n1 c1 R1.1 R1.2
  replace h := h.byput' (A := A) (j := 0) ap a1 n1 c1 R1.1 R1.2
  replace hC := hC.byput' (A := A) (j := 0) apC a1 n1 c1 R1.1 R1.2
  replace xP := xP.other (j := 0) nP a1 n1 c1 R1.1 R1.2
  replace xc := xc.other (j := 0) nQ a1 n1 c1 R1.1 R1.2
  replace bw := Below.byput bw (j := 0) lA a1 n1 c1 R1.1 R1.2
  clear lt1
  generalize put4 w1 A 0 a1 n1 c1 R1.1 R1.2 = v1 at *
  refine (BReserve_c a n c b who key _ h).mono ?_
  rintro e w2 ⟨⟨a2, n2, c2, rfl, i2, q2⟩, hb⟩
  generalize hR2 : reserveB b who key = R2 at *
  have HR2 := hide hR2
  clear hR2
  simp only [bookV] at i2 ⊢
  have lt2 : A < w2.heap.size := Nat.lt_of_lt_of_le hsz hb.size
  have o2 : ∀ x, a2 = some x → x.block ≠ A := fun x e => by have := q2 x e; omega
  replace bw := belowT bw hb
  replace h := h.below hb (Nat.le_refl _)
  replace hC := hC.below hb (Nat.le_refl _)
  replace xP := xP.below hb
  replace xc := xc.below hb
  replace e0 := e0.below hb
  replace e1 := e1.below hb
  replace e2 := e2.below hb
  replace e3 := e3.below hb
  replace e4 := e4.below hb
  replace i1 := i1.below hb (Nat.le_refl _)
  clear hb q2 hsz
  obtain ⟨p0, p1, p2, -, -, -⟩ := id xP
  obtain ⟨g0, g1, g2, g3, g4, g5, g6, g7⟩ := id e1
  simp only [Nat.reduceAdd, zeroB] at g0 g1 g2 g3 g4 g5 g6 g7
  go_wp2_with fail
  clear p0 p1 p2 g0 g1 g2 g3 g4 g5 g6 g7
  change Calls _ _ _ (put4 w2 A 4 a2 n2 c2 R2.1 R2.2) _
  have hsz : A < (put4 w2 A 4 a2 n2 c2 R2.1 R2.2).heap.size := by simpa [put4, World.setCell] using lt2
  replace e1 := e1.put a2 n2 c2 R2.1 R2.2
  replace e0 := e0.other 4 (by omega) a2 n2 c2 R2.1 R2.2
  replace e2 := e2.other 4 (by omega) a2 n2 c2 R2.1 R2.2
  replace e3 := e3.other 4 (by omega) a2 n2 c2 R2.1 R2.2
  replace e4 := e4.other 4 (by omega) a2 n2 c2 R2.1 R2.2
  replace i1 := i1.byput (A := A) (j := 4) o1 a2 n2 c2 R2.1 R2.2
  replace i2 := i2.byput (A := A) (j := 4) o2 a2 n2 c2 R2.1 R2.2
  replace h := h.byput' (A := A) (j := 4) ap a2 n2 c2 R2.1 R2.2
  replace hC := hC.byput' (A := A) (j := 4) apC a2 n2 c2 R2.1 R2.2
  replace xP := xP.other (j := 4) nP a2 n2 c2 R2.1 R2.2
  replace xc := xc.other (j := 4) nQ a2 n2 c2 R2.1 R2.2
  replace bw := Below.byput bw (j := 4) lA a2 n2 c2 R2.1 R2.2
  clear lt2
  generalize put4 w2 A 4 a2 n2 c2 R2.1 R2.2 = v2 at *
  refine (BRelease_c a n c b who _ h).mono ?_
  rintro e w3 ⟨⟨a3, n3, c3, rfl, i3, q3⟩, hb⟩
  generalize hR3 : releaseB b who = R3 at *
  have HR3 := hide hR3
  clear hR3
  simp only [bookV] at i3 ⊢
  have lt3 : A < w3.heap.size := Nat.lt_of_lt_of_le hsz hb.size
  have o3 : ∀ x, a3 = some x → x.block ≠ A := fun x e => by have := q3 x e; omega
  replace bw := belowT bw hb
  replace h := h.below hb (Nat.le_refl _)
  replace hC := hC.below hb (Nat.le_refl _)
  replace xP := xP.below hb
  replace xc := xc.below hb
  replace e0 := e0.below hb
  replace e1 := e1.below hb
  replace e2 := e2.below hb
  replace e3 := e3.below hb
  replace e4 := e4.below hb
  replace i1 := i1.below hb (Nat.le_refl _)
  replace i2 := i2.below hb (Nat.le_refl _)
  clear hb q3 hsz
  obtain ⟨p0, p1, p2, -, -, -⟩ := id xP
  obtain ⟨g0, g1, g2, g3, g4, g5, g6, g7⟩ := id e2
  simp only [Nat.reduceAdd, zeroB] at g0 g1 g2 g3 g4 g5 g6 g7
  go_wp2_with fail
  clear p0 p1 p2 g0 g1 g2 g3 g4 g5 g6 g7
  change Calls _ _ _ (put4 w3 A 8 a3 n3 c3 R3.1 R3.2) _
  have hsz : A < (put4 w3 A 8 a3 n3 c3 R3.1 R3.2).heap.size := by simpa [put4, World.setCell] using lt3
  replace e2 := e2.put a3 n3 c3 R3.1 R3.2
  replace e0 := e0.other 8 (by omega) a3 n3 c3 R3.1 R3.2
  replace e1 := e1.other 8 (by omega) a3 n3 c3 R3.1 R3.2
  replace e3 := e3.other 8 (by omega) a3 n3 c3 R3.1 R3.2
  replace e4 := e4.other 8 (by omega) a3 n3 c3 R3.1 R3.2
  replace i1 := i1.byput (A := A) (j := 8) o1 a3 n3 c3 R3.1 R3.2
  replace i2 := i2.byput (A := A) (j := 8) o2 a3 n3 c3 R3.1 R3.2
  replace i3 := i3.byput (A := A) (j := 8) o3 a3 n3 c3 R3.1 R3.2
  replace h := h.byput' (A := A) (j := 8) ap a3 n3 c3 R3.1 R3.2
  replace hC := hC.byput' (A := A) (j := 8) apC a3 n3 c3 R3.1 R3.2
  replace xP := xP.other (j := 8) nP a3 n3 c3 R3.1 R3.2
  replace xc := xc.other (j := 8) nQ a3 n3 c3 R3.1 R3.2
  replace bw := Below.byput bw (j := 8) lA a3 n3 c3 R3.1 R3.2
  clear lt3
  generalize put4 w3 A 8 a3 n3 c3 R3.1 R3.2 = v3 at *
  refine (BPreempt_c a n c b who key _ h).mono ?_
  rintro e w4 ⟨⟨a4, n4, c4, rfl, i4, q4⟩, hb⟩
  generalize hR4 : preemptB b who key = R4 at *
  have HR4 := hide hR4
  clear hR4
  simp only [bookV] at i4 ⊢
  have lt4 : A < w4.heap.size := Nat.lt_of_lt_of_le hsz hb.size
  have o4 : ∀ x, a4 = some x → x.block ≠ A := fun x e => by have := q4 x e; omega
  replace bw := belowT bw hb
  replace h := h.below hb (Nat.le_refl _)
  replace hC := hC.below hb (Nat.le_refl _)
  replace xP := xP.below hb
  replace xc := xc.below hb
  replace e0 := e0.below hb
  replace e1 := e1.below hb
  replace e2 := e2.below hb
  replace e3 := e3.below hb
  replace e4 := e4.below hb
  replace i1 := i1.below hb (Nat.le_refl _)
  replace i2 := i2.below hb (Nat.le_refl _)
  replace i3 := i3.below hb (Nat.le_refl _)
  clear hb q4 hsz
  obtain ⟨p0, p1, p2, -, -, -⟩ := id xP
  obtain ⟨g0, g1, g2, g3, g4, g5, g6, g7⟩ := id e3
  simp only [Nat.reduceAdd, zeroB] at g0 g1 g2 g3 g4 g5 g6 g7
  go_wp2_with fail
  clear p0 p1 p2 g0 g1 g2 g3 g4 g5 g6 g7
  change Calls _ _ _ (put4 w4 A 12 a4 n4 c4 R4.1 R4.2) _
  have hsz : A < (put4 w4 A 12 a4 n4 c4 R4.1 R4.2).heap.size := by simpa [put4, World.setCell] using lt4
  replace e3 := e3.put a4 n4 c4 R4.1 R4.2
  replace e0 := e0.other 12 (by omega) a4 n4 c4 R4.1 R4.2
  replace e1 := e1.other 12 (by omega) a4 n4 c4 R4.1 R4.2
  replace e2 := e2.other 12 (by omega) a4 n4 c4 R4.1 R4.2
  replace e4 := e4.other 12 (by omega) a4 n4 c4 R4.1 R4.2
  replace i1 := i1.byput (A := A) (j := 12) o1 a4 n4 c4 R4.1 R4.2
  replace i2 := i2.byput (A := A) (j := 12) o2 a4 n4 c4 R4.1 R4.2
  replace i3 := i3.byput (A := A) (j := 12) o3 a4 n4 c4 R4.1 R4.2
  replace i4 := i4.byput (A := A) (j := 12) o4 a4 n4 c4 R4.1 R4.2
  replace h := h.byput' (A := A) (j := 12) ap a4 n4 c4 R4.1 R4.2
  replace hC := hC.byput' (A := A) (j := 12) apC a4 n4 c4 R4.1 R4.2
  replace xP := xP.other (j := 12) nP a4 n4 c4 R4.1 R4.2
  replace xc := xc.other (j := 12) nQ a4 n4 c4 R4.1 R4.2
  replace bw := Below.byput bw (j := 12) lA a4 n4 c4 R4.1 R4.2
  clear lt4
  generalize put4 w4 A 12 a4 n4 c4 R4.1 R4.2 = v4 at *
  refine (BClear_c a n c b who _ h).mono ?_
  rintro e w5 ⟨⟨a5, n5, c5, rfl, i5, q5⟩, hb⟩
  generalize hR5 : clearB b who = R5 at *
  have HR5 := hide hR5
  clear hR5
  simp only [bookV] at i5 ⊢
  have lt5 : A < w5.heap.size := Nat.lt_of_lt_of_le hsz hb.size
  have o5 : ∀ x, a5 = some x → x.block ≠ A := fun x e => by have := q5 x e; omega
  replace bw := belowT bw hb
  replace h := h.below hb (Nat.le_refl _)
  replace hC := hC.below hb (Nat.le_refl _)
  replace xP := xP.below hb
  replace xc := xc.below hb
  replace e0 := e0.below hb
  replace e1 := e1.below hb
  replace e2 := e2.below hb
  replace e3 := e3.below hb
  replace e4 := e4.below hb
  replace i1 := i1.below hb (Nat.le_refl _)
  replace i2 := i2.below hb (Nat.le_refl _)
  replace i3 := i3.below hb (Nat.le_refl _)
  replace i4 := i4.below hb (Nat.le_refl _)
  clear hb q5 hsz
  obtain ⟨p0, p1, p2, -, -, -⟩ := id xP
  obtain ⟨g0, g1, g2, g3, g4, g5, g6, g7⟩ := id e4
  simp only [Nat.reduceAdd, zeroB] at g0 g1 g2 g3 g4 g5 g6 g7
  go_wp2_with fail
  clear p0 p1 p2 g0 g1 g2 g3 g4 g5 g6 g7
  rw [show (((w5.setCell ⟨A, 16, none⟩ (.slice a5 n5 c5)).setCell ⟨A, 17, none⟩ (.int .i64 R5.1.h)).setCell ⟨A, 18, none⟩ (.int .i64 R5.1.t)).setCell ⟨A, 19, none⟩ (.int .i64 R5.2) = put4 w5 A 16 a5 n5 c5 R5.1 R5.2 from rfl]
  replace e4 := e4.put a5 n5 c5 R5.1 R5.2
  replace e0 := e0.other 16 (by omega) a5 n5 c5 R5.1 R5.2
  replace e1 := e1.other 16 (by omega) a5 n5 c5 R5.1 R5.2
  replace e2 := e2.other 16 (by omega) a5 n5 c5 R5.1 R5.2
  replace e3 := e3.other 16 (by omega) a5 n5 c5 R5.1 R5.2
  replace i1 := i1.byput (A := A) (j := 16) o1 a5 n5 c5 R5.1 R5.2
  replace i2 := i2.byput (A := A) (j := 16) o2 a5 n5 c5 R5.1 R5.2
  replace i3 := i3.byput (A := A) (j := 16) o3 a5 n5 c5 R5.1 R5.2
  replace i4 := i4.byput (A := A) (j := 16) o4 a5 n5 c5 R5.1 R5.2
  replace i5 := i5.byput (A := A) (j := 16) o5 a5 n5 c5 R5.1 R5.2
  replace h := h.byput' (A := A) (j := 16) ap a5 n5 c5 R5.1 R5.2
  replace hC := hC.byput' (A := A) (j := 16) apC a5 n5 c5 R5.1 R5.2
  replace xP := xP.other (j := 16) nP a5 n5 c5 R5.1 R5.2
  replace xc := xc.other (j := 16) nQ a5 n5 c5 R5.1 R5.2
  replace bw := Below.byput bw (j := 16) lA a5 n5 c5 R5.1 R5.2
  clear lt5 ap apC o1 o2 o3 o4 o5 nP nQ lA
  generalize put4 w5 A 16 a5 n5 c5 R5.1 R5.2 = v5 at *
  have hix := ixK
  go_loopw [73] (fun i wr => ∃ k : Nat, k ≤ 5 ∧ i = .int .i64 k ∧ Below v5.heap.size v5 wr) (fun i _ => 5 - (intOf i).toNat)
  case atStart => exact ⟨0, by omega, rfl, Below.refl _ _⟩
  case round =>
    obtain ⟨k, hk, rfl, hbr⟩ := hrel
    rename_i wr1
    replace h := h.below hbr (Nat.le_refl _)
    replace xP := xP.below hbr
    obtain ⟨p0, p1, p2, -, -, -⟩ := xP
    rcases (by omega : k = 0 ∨ k = 1 ∨ k = 2 ∨ k = 3 ∨ k = 4 ∨ k = 5) with rfl | rfl | rfl | rfl | rfl | rfl
    · replace i1 := i1.below hbr (Nat.le_refl _)
      obtain ⟨g0, g1, g2, g3, -, -, -, -⟩ := e0.below hbr
      simp only [Nat.reduceAdd] at g0 g1 g2 g3
      clear i2 i3 i4 i5 e0 e1 e2 e3 e4 hC xc
      go_wp2_with fail
      refine (OnB_reg_u a n c b who key _ h).mono ?_
      rintro e w6 ⟨⟨a6, n6, c6, rfl, i6⟩, hb6⟩
      rw [HR1.out] at i6 ⊢
      simp only [bookV] at i6 ⊢
      replace g0 := past1 (keepc hb6 g0)
      replace g1 := past1 (keepc hb6 g1)
      replace g2 := past1 (keepc hb6 g2)
      replace g3 := past1 (keepc hb6 g3)
      replace i1 := i1.below hb6 (Nat.le_refl _)
      clear h p0 p1 p2
      go_wp2_with fail
      go_region_held3 (fun w' => w'.cell? ⟨A, 0, none⟩ = some (.slice a1 n1 c1) ∧ w'.cell? ⟨A, 1, none⟩ = some (.int .i64 R1.1.h) ∧ w'.cell? ⟨A, 2, none⟩ = some (.int .i64 R1.1.t) ∧ w'.cell? ⟨A, 3, none⟩ = some (.int .i64 R1.2) ∧ w'.cell? ⟨w6.heap.size, 0, none⟩ = some (.slice a6 n6 c6) ∧ w'.cell? ⟨w6.heap.size, 1, none⟩ = some (.int .i64 R1.1.h) ∧ w'.cell? ⟨w6.heap.size, 2, none⟩ = some (.int .i64 R1.1.t)) ((first | (go_simp; done) | (simp [*, World.cell?_alloc_at, World.cell?_alloc_past, World.cell?_alloc_some, World.cell?_setCell_far]; done)))
        (first | (go_at_call 12; refine (SameBook_c a6 a1 n6 n1 c6 c1 R1.1 R1.1 _ (by refine Ints.below i6 (B := w6.heap.size) ?_ (Nat.le_refl _); (repeat first | exact bel0 | assumption | refine bel1 ?_ | refine bel2 ?_ | refine bel3 ?_ | refine belowT ?_ (by assumption) | refine bel5 ?_ (by simp; try omega))) (by refine Ints.below i1 (B := w6.heap.size) ?_ (Nat.le_refl _); (repeat first | exact bel0 | assumption | refine bel1 ?_ | refine bel2 ?_ | refine bel3 ?_ | refine belowT ?_ (by assumption) | refine bel5 ?_ (by simp; try omega)))).mono ?_; rintro e w7 ⟨rfl, hb7⟩; rw [show sameB R1.1 R1.1 = true by simp [sameB]]; (have m0 := keepc hb7 (p := ⟨A, 0, none⟩) (u := .slice a1 n1 c1) (by (first | (go_simp; done) | (simp [*, World.cell?_alloc_at, World.cell?_alloc_past, World.cell?_alloc_some, World.cell?_setCell_far]; done)))); (have m1 := keepc hb7 (p := ⟨A, 1, none⟩) (u := .int .i64 R1.1.h) (by (first | (go_simp; done) | (simp [*, World.cell?_alloc_at, World.cell?_alloc_past, World.cell?_alloc_some, World.cell?_setCell_far]; done)))); (have m2 := keepc hb7 (p := ⟨A, 2, none⟩) (u := .int .i64 R1.1.t) (by (first | (go_simp; done) | (simp [*, World.cell?_alloc_at, World.cell?_alloc_past, World.cell?_alloc_some, World.cell?_setCell_far]; done)))); (have m3 := keepc hb7 (p := ⟨A, 3, none⟩) (u := .int .i64 R1.2) (by (first | (go_simp; done) | (simp [*, World.cell?_alloc_at, World.cell?_alloc_past, World.cell?_alloc_some, World.cell?_setCell_far]; done)))); (have m4 := keepc hb7 (p := ⟨w6.heap.size, 0, none⟩) (u := .slice a6 n6 c6) (by (first | (go_simp; done) | (simp [*, World.cell?_alloc_at, World.cell?_alloc_past, World.cell?_alloc_some, World.cell?_setCell_far]; done)))); (have m5 := keepc hb7 (p := ⟨w6.heap.size, 1, none⟩) (u := .int .i64 R1.1.h) (by (first | (go_simp; done) | (simp [*, World.cell?_alloc_at, World.cell?_alloc_past, World.cell?_alloc_some, World.cell?_setCell_far]; done)))); (have m6 := keepc hb7 (p := ⟨w6.heap.size, 2, none⟩) (u := .int .i64 R1.1.t) (by (first | (go_simp; done) | (simp [*, World.cell?_alloc_at, World.cell?_alloc_past, World.cell?_alloc_some, World.cell?_setCell_far]; done))))))
      go_wp2
      exact ⟨⟨1, by omega, by go_num, by (repeat first | exact bel0 | assumption | refine bel1 ?_ | refine bel2 ?_ | refine bel3 ?_ | refine belowT ?_ (by assumption) | refine bel5 ?_ (by simp; try omega))⟩, by simp [intOf]⟩
    · replace i2 := i2.below hbr (Nat.le_refl _)
      obtain ⟨g0, g1, g2, g3, -, -, -, -⟩ := e1.below hbr
      simp only [Nat.reduceAdd] at g0 g1 g2 g3
      clear i1 i3 i4 i5 e0 e1 e2 e3 e4 hC xc
      go_wp2_with fail
      refine (OnB_res_u a n c b who key _ h).mono ?_
      rintro e w6 ⟨⟨a6, n6, c6, rfl, i6⟩, hb6⟩
      rw [HR2.out] at i6 ⊢
      simp only [bookV] at i6 ⊢
      replace g0 := past1 (keepc hb6 g0)
      replace g1 := past1 (keepc hb6 g1)
      replace g2 := past1 (keepc hb6 g2)
      replace g3 := past1 (keepc hb6 g3)
      replace i2 := i2.below hb6 (Nat.le_refl _)
      clear h p0 p1 p2
      go_wp2_with fail
      go_region_held3 (fun w' => w'.cell? ⟨A, 4, none⟩ = some (.slice a2 n2 c2) ∧ w'.cell? ⟨A, 5, none⟩ = some (.int .i64 R2.1.h) ∧ w'.cell? ⟨A, 6, none⟩ = some (.int .i64 R2.1.t) ∧ w'.cell? ⟨A, 7, none⟩ = some (.int .i64 R2.2) ∧ w'.cell? ⟨w6.heap.size, 0, none⟩ = some (.slice a6 n6 c6) ∧ w'.cell? ⟨w6.heap.size, 1, none⟩ = some (.int .i64 R2.1.h) ∧ w'.cell? ⟨w6.heap.size, 2, none⟩ = some (.int .i64 R2.1.t)) ((first | (go_simp; done) | (simp [*, World.cell?_alloc_at, World.cell?_alloc_past, World.cell?_alloc_some, World.cell?_setCell_far]; done)))
        (first | (go_at_call 12; refine (SameBook_c a6 a2 n6 n2 c6 c2 R2.1 R2.1 _ (by refine Ints.below i6 (B := w6.heap.size) ?_ (Nat.le_refl _); (repeat first | exact bel0 | assumption | refine bel1 ?_ | refine bel2 ?_ | refine bel3 ?_ | refine belowT ?_ (by assumption) | refine bel5 ?_ (by simp; try omega))) (by refine Ints.below i2 (B := w6.heap.size) ?_ (Nat.le_refl _); (repeat first | exact bel0 | assumption | refine bel1 ?_ | refine bel2 ?_ | refine bel3 ?_ | refine belowT ?_ (by assumption) | refine bel5 ?_ (by simp; try omega)))).mono ?_; rintro e w7 ⟨rfl, hb7⟩; rw [show sameB R2.1 R2.1 = true by simp [sameB]]; (have m0 := keepc hb7 (p := ⟨A, 4, none⟩) (u := .slice a2 n2 c2) (by (first | (go_simp; done) | (simp [*, World.cell?_alloc_at, World.cell?_alloc_past, World.cell?_alloc_some, World.cell?_setCell_far]; done)))); (have m1 := keepc hb7 (p := ⟨A, 5, none⟩) (u := .int .i64 R2.1.h) (by (first | (go_simp; done) | (simp [*, World.cell?_alloc_at, World.cell?_alloc_past, World.cell?_alloc_some, World.cell?_setCell_far]; done)))); (have m2 := keepc hb7 (p := ⟨A, 6, none⟩) (u := .int .i64 R2.1.t) (by (first | (go_simp; done) | (simp [*, World.cell?_alloc_at, World.cell?_alloc_past, World.cell?_alloc_some, World.cell?_setCell_far]; done)))); (have m3 := keepc hb7 (p := ⟨A, 7, none⟩) (u := .int .i64 R2.2) (by (first | (go_simp; done) | (simp [*, World.cell?_alloc_at, World.cell?_alloc_past, World.cell?_alloc_some, World.cell?_setCell_far]; done)))); (have m4 := keepc hb7 (p := ⟨w6.heap.size, 0, none⟩) (u := .slice a6 n6 c6) (by (first | (go_simp; done) | (simp [*, World.cell?_alloc_at, World.cell?_alloc_past, World.cell?_alloc_some, World.cell?_setCell_far]; done)))); (have m5 := keepc hb7 (p := ⟨w6.heap.size, 1, none⟩) (u := .int .i64 R2.1.h) (by (first | (go_simp; done) | (simp [*, World.cell?_alloc_at, World.cell?_alloc_past, World.cell?_alloc_some, World.cell?_setCell_far]; done)))); (have m6 := keepc hb7 (p := ⟨w6.heap.size, 2, none⟩) (u := .int .i64 R2.1.t) (by (first | (go_simp; done) | (simp [*, World.cell?_alloc_at, World.cell?_alloc_past, World.cell?_alloc_some, World.cell?_setCell_far]; done))))))
      go_wp2
      exact ⟨⟨2, by omega, by go_num, by (repeat first | exact bel0 | assumption | refine bel1 ?_ | refine bel2 ?_ | refine bel3 ?_ | refine belowT ?_ (by assumption) | refine bel5 ?_ (by simp; try omega))⟩, by simp [intOf]⟩
    · replace i3 := i3.below hbr (Nat.le_refl _)
      obtain ⟨g0, g1, g2, g3, -, -, -, -⟩ := e2.below hbr
      simp only [Nat.reduceAdd] at g0 g1 g2 g3
      clear i1 i2 i4 i5 e0 e1 e2 e3 e4 hC xc
      go_wp2_with fail
      refine (OnB_rel_u a n c b who key _ h).mono ?_
      rintro e w6 ⟨⟨a6, n6, c6, rfl, i6⟩, hb6⟩
      rw [HR3.out] at i6 ⊢
      simp only [bookV] at i6 ⊢
      replace g0 := past1 (keepc hb6 g0)
      replace g1 := past1 (keepc hb6 g1)
      replace g2 := past1 (keepc hb6 g2)
      replace g3 := past1 (keepc hb6 g3)
      replace i3 := i3.below hb6 (Nat.le_refl _)
      clear h p0 p1 p2
      go_wp2_with fail
      go_region_held3 (fun w' => w'.cell? ⟨A, 8, none⟩ = some (.slice a3 n3 c3) ∧ w'.cell? ⟨A, 9, none⟩ = some (.int .i64 R3.1.h) ∧ w'.cell? ⟨A, 10, none⟩ = some (.int .i64 R3.1.t) ∧ w'.cell? ⟨A, 11, none⟩ = some (.int .i64 R3.2) ∧ w'.cell? ⟨w6.heap.size, 0, none⟩ = some (.slice a6 n6 c6) ∧ w'.cell? ⟨w6.heap.size, 1, none⟩ = some (.int .i64 R3.1.h) ∧ w'.cell? ⟨w6.heap.size, 2, none⟩ = some (.int .i64 R3.1.t)) ((first | (go_simp; done) | (simp [*, World.cell?_alloc_at, World.cell?_alloc_past, World.cell?_alloc_some, World.cell?_setCell_far]; done)))
        (first | (go_at_call 12; refine (SameBook_c a6 a3 n6 n3 c6 c3 R3.1 R3.1 _ (by refine Ints.below i6 (B := w6.heap.size) ?_ (Nat.le_refl _); (repeat first | exact bel0 | assumption | refine bel1 ?_ | refine bel2 ?_ | refine bel3 ?_ | refine belowT ?_ (by assumption) | refine bel5 ?_ (by simp; try omega))) (by refine Ints.below i3 (B := w6.heap.size) ?_ (Nat.le_refl _); (repeat first | exact bel0 | assumption | refine bel1 ?_ | refine bel2 ?_ | refine bel3 ?_ | refine belowT ?_ (by assumption) | refine bel5 ?_ (by simp; try omega)))).mono ?_; rintro e w7 ⟨rfl, hb7⟩; rw [show sameB R3.1 R3.1 = true by simp [sameB]]; (have m0 := keepc hb7 (p := ⟨A, 8, none⟩) (u := .slice a3 n3 c3) (by (first | (go_simp; done) | (simp [*, World.cell?_alloc_at, World.cell?_alloc_past, World.cell?_alloc_some, World.cell?_setCell_far]; done)))); (have m1 := keepc hb7 (p := ⟨A, 9, none⟩) (u := .int .i64 R3.1.h) (by (first | (go_simp; done) | (simp [*, World.cell?_alloc_at, World.cell?_alloc_past, World.cell?_alloc_some, World.cell?_setCell_far]; done)))); (have m2 := keepc hb7 (p := ⟨A, 10, none⟩) (u := .int .i64 R3.1.t) (by (first | (go_simp; done) | (simp [*, World.cell?_alloc_at, World.cell?_alloc_past, World.cell?_alloc_some, World.cell?_setCell_far]; done)))); (have m3 := keepc hb7 (p := ⟨A, 11, none⟩) (u := .int .i64 R3.2) (by (first | (go_simp; done) | (simp [*, World.cell?_alloc_at, World.cell?_alloc_past, World.cell?_alloc_some, World.cell?_setCell_far]; done)))); (have m4 := keepc hb7 (p := ⟨w6.heap.size, 0, none⟩) (u := .slice a6 n6 c6) (by (first | (go_simp; done) | (simp [*, World.cell?_alloc_at, World.cell?_alloc_past, World.cell?_alloc_some, World.cell?_setCell_far]; done)))); (have m5 := keepc hb7 (p := ⟨w6.heap.size, 1, none⟩) (u := .int .i64 R3.1.h) (by (first | (go_simp; done) | (simp [*, World.cell?_alloc_at, World.cell?_alloc_past, World.cell?_alloc_some, World.cell?_setCell_far]; done)))); (have m6 := keepc hb7 (p := ⟨w6.heap.size, 2, none⟩) (u := .int .i64 R3.1.t) (by (first | (go_simp; done) | (simp [*, World.cell?_alloc_at, World.cell?_alloc_past, World.cell?_alloc_some, World.cell?_setCell_far]; done))))))
      go_wp2
      exact ⟨⟨3, by omega, by go_num, by (repeat first | exact bel0 | assumption | refine bel1 ?_ | refine bel2 ?_ | refine bel3 ?_ | refine belowT ?_ (by assumption) | refine bel5 ?_ (by simp; try omega))⟩, by simp [intOf]⟩
    · replace i4 := i4.below hbr (Nat.le_refl _)
      obtain ⟨g0, g1, g2, g3, -, -, -, -⟩ := e3.below hbr
      simp only [Nat.reduceAdd] at g0 g1 g2 g3
      clear i1 i2 i3 i5 e0 e1 e2 e3 e4 hC xc
      go_wp2_with fail
      refine (OnB_pre_u a n c b who key _ h).mono ?_
      rintro e w6 ⟨⟨a6, n6, c6, rfl, i6⟩, hb6⟩
      rw [HR4.out] at i6 ⊢
      simp only [bookV] at i6 ⊢
      replace g0 := past1 (keepc hb6 g0)
      replace g1 := past1 (keepc hb6 g1)
      replace g2 := past1 (keepc hb6 g2)
      replace g3 := past1 (keepc hb6 g3)
      replace i4 := i4.below hb6 (Nat.le_refl _)
      clear h p0 p1 p2
      go_wp2_with fail
      go_region_held3 (fun w' => w'.cell? ⟨A, 12, none⟩ = some (.slice a4 n4 c4) ∧ w'.cell? ⟨A, 13, none⟩ = some (.int .i64 R4.1.h) ∧ w'.cell? ⟨A, 14, none⟩ = some (.int .i64 R4.1.t) ∧ w'.cell? ⟨A, 15, none⟩ = some (.int .i64 R4.2) ∧ w'.cell? ⟨w6.heap.size, 0, none⟩ = some (.slice a6 n6 c6) ∧ w'.cell? ⟨w6.heap.size, 1, none⟩ = some (.int .i64 R4.1.h) ∧ w'.cell? ⟨w6.heap.size, 2, none⟩ = some (.int .i64 R4.1.t)) ((first | (go_simp; done) | (simp [*, World.cell?_alloc_at, World.cell?_alloc_past, World.cell?_alloc_some, World.cell?_setCell_far]; done)))
        (first | (go_at_call 12; refine (SameBook_c a6 a4 n6 n4 c6 c4 R4.1 R4.1 _ (by refine Ints.below i6 (B := w6.heap.size) ?_ (Nat.le_refl _); (repeat first | exact bel0 | assumption | refine bel1 ?_ | refine bel2 ?_ | refine bel3 ?_ | refine belowT ?_ (by assumption) | refine bel5 ?_ (by simp; try omega))) (by refine Ints.below i4 (B := w6.heap.size) ?_ (Nat.le_refl _); (repeat first | exact bel0 | assumption | refine bel1 ?_ | refine bel2 ?_ | refine bel3 ?_ | refine belowT ?_ (by assumption) | refine bel5 ?_ (by simp; try omega)))).mono ?_; rintro e w7 ⟨rfl, hb7⟩; rw [show sameB R4.1 R4.1 = true by simp [sameB]]; (have m0 := keepc hb7 (p := ⟨A, 12, none⟩) (u := .slice a4 n4 c4) (by (first | (go_simp; done) | (simp [*, World.cell?_alloc_at, World.cell?_alloc_past, World.cell?_alloc_some, World.cell?_setCell_far]; done)))); (have m1 := keepc hb7 (p := ⟨A, 13, none⟩) (u := .int .i64 R4.1.h) (by (first | (go_simp; done) | (simp [*, World.cell?_alloc_at, World.cell?_alloc_past, World.cell?_alloc_some, World.cell?_setCell_far]; done)))); (have m2 := keepc hb7 (p := ⟨A, 14, none⟩) (u := .int .i64 R4.1.t) (by (first | (go_simp; done) | (simp [*, World.cell?_alloc_at, World.cell?_alloc_past, World.cell?_alloc_some, World.cell?_setCell_far]; done)))); (have m3 := keepc hb7 (p := ⟨A, 15, none⟩) (u := .int .i64 R4.2) (by (first | (go_simp; done) | (simp [*, World.cell?_alloc_at, World.cell?_alloc_past, World.cell?_alloc_some, World.cell?_setCell_far]; done)))); (have m4 := keepc hb7 (p := ⟨w6.heap.size, 0, none⟩) (u := .slice a6 n6 c6) (by (first | (go_simp; done) | (simp [*, World.cell?_alloc_at, World.cell?_alloc_past, World.cell?_alloc_some, World.cell?_setCell_far]; done)))); (have m5 := keepc hb7 (p := ⟨w6.heap.size, 1, none⟩) (u := .int .i64 R4.1.h) (by (first | (go_simp; done) | (simp [*, World.cell?_alloc_at, World.cell?_alloc_past, World.cell?_alloc_some, World.cell?_setCell_far]; done)))); (have m6 := keepc hb7 (p := ⟨w6.heap.size, 2, none⟩) (u := .int .i64 R4.1.t) (by (first | (go_simp; done) | (simp [*, World.cell?_alloc_at, World.cell?_alloc_past, World.cell?_alloc_some, World.cell?_setCell_far]; done))))))
      go_wp2
      exact ⟨⟨4, by omega, by go_num, by (repeat first | exact bel0 | assumption | refine bel1 ?_ | refine bel2 ?_ | refine bel3 ?_ | refine belowT ?_ (by assumption) | refine bel5 ?_ (by simp; try omega))⟩, by simp [intOf]⟩
    · replace i5 := i5.below hbr (Nat.le_refl _)
      obtain ⟨g0, g1, g2, g3, -, -, -, -⟩ := e4.below hbr
      simp only [Nat.reduceAdd] at g0 g1 g2 g3
      clear i1 i2 i3 i4 e0 e1 e2 e3 e4 hC xc
      go_wp2_with fail
      refine (OnB_clr_u a n c b who key _ h).mono ?_
      rintro e w6 ⟨⟨a6, n6, c6, rfl, i6⟩, hb6⟩
      rw [HR5.out] at i6 ⊢
      simp only [bookV] at i6 ⊢
      replace g0 := past1 (keepc hb6 g0)
      replace g1 := past1 (keepc hb6 g1)
      replace g2 := past1 (keepc hb6 g2)
      replace g3 := past1 (keepc hb6 g3)
      replace i5 := i5.below hb6 (Nat.le_refl _)
      clear h p0 p1 p2
      go_wp2_with fail
      go_region_held3 (fun w' => w'.cell? ⟨A, 16, none⟩ = some (.slice a5 n5 c5) ∧ w'.cell? ⟨A, 17, none⟩ = some (.int .i64 R5.1.h) ∧ w'.cell? ⟨A, 18, none⟩ = some (.int .i64 R5.1.t) ∧ w'.cell? ⟨A, 19, none⟩ = some (.int .i64 R5.2) ∧ w'.cell? ⟨w6.heap.size, 0, none⟩ = some (.slice a6 n6 c6) ∧ w'.cell? ⟨w6.heap.size, 1, none⟩ = some (.int .i64 R5.1.h) ∧ w'.cell? ⟨w6.heap.size, 2, none⟩ = some (.int .i64 R5.1.t)) ((first | (go_simp; done) | (simp [*, World.cell?_alloc_at, World.cell?_alloc_past, World.cell?_alloc_some, World.cell?_setCell_far]; done)))
        (first | (go_at_call 12; refine (SameBook_c a6 a5 n6 n5 c6 c5 R5.1 R5.1 _ (by refine Ints.below i6 (B := w6.heap.size) ?_ (Nat.le_refl _); (repeat first | exact bel0 | assumption | refine bel1 ?_ | refine bel2 ?_ | refine bel3 ?_ | refine belowT ?_ (by assumption) | refine bel5 ?_ (by simp; try omega))) (by refine Ints.below i5 (B := w6.heap.size) ?_ (Nat.le_refl _); (repeat first | exact bel0 | assumption | refine bel1 ?_ | refine bel2 ?_ | refine bel3 ?_ | refine belowT ?_ (by assumption) | refine bel5 ?_ (by simp; try omega)))).mono ?_; rintro e w7 ⟨rfl, hb7⟩; rw [show sameB R5.1 R5.1 = true by simp [sameB]]; (have m0 := keepc hb7 (p := ⟨A, 16, none⟩) (u := .slice a5 n5 c5) (by (first | (go_simp; done) | (simp [*, World.cell?_alloc_at, World.cell?_alloc_past, World.cell?_alloc_some, World.cell?_setCell_far]; done)))); (have m1 := keepc hb7 (p := ⟨A, 17, none⟩) (u := .int .i64 R5.1.h) (by (first | (go_simp; done) | (simp [*, World.cell?_alloc_at, World.cell?_alloc_past, World.cell?_alloc_some, World.cell?_setCell_far]; done)))); (have m2 := keepc hb7 (p := ⟨A, 18, none⟩) (u := .int .i64 R5.1.t) (by (first | (go_simp; done) | (simp [*, World.cell?_alloc_at, World.cell?_alloc_past, World.cell?_alloc_some, World.cell?_setCell_far]; done)))); (have m3 := keepc hb7 (p := ⟨A, 19, none⟩) (u := .int .i64 R5.2) (by (first | (go_simp; done) | (simp [*, World.cell?_alloc_at, World.cell?_alloc_past, World.cell?_alloc_some, World.cell?_setCell_far]; done)))); (have m4 := keepc hb7 (p := ⟨w6.heap.size, 0, none⟩) (u := .slice a6 n6 c6) (by (first | (go_simp; done) | (simp [*, World.cell?_alloc_at, World.cell?_alloc_past, World.cell?_alloc_some, World.cell?_setCell_far]; done)))); (have m5 := keepc hb7 (p := ⟨w6.heap.size, 1, none⟩) (u := .int .i64 R5.1.h) (by (first | (go_simp; done) | (simp [*, World.cell?_alloc_at, World.cell?_alloc_past, World.cell?_alloc_some, World.cell?_setCell_far]; done)))); (have m6 := keepc hb7 (p := ⟨w6.heap.size, 2, none⟩) (u := .int .i64 R5.1.t) (by (first | (go_simp; done) | (simp [*, World.cell?_alloc_at, World.cell?_alloc_past, World.cell?_alloc_some, World.cell?_setCell_far]; done))))))
      go_wp2
      exact ⟨⟨5, by omega, by go_num, by (repeat first | exact bel0 | assumption | refine bel1 ?_ | refine bel2 ?_ | refine bel3 ?_ | refine belowT ?_ (by assumption) | refine bel5 ?_ (by simp; try omega))⟩, by simp [intOf]⟩
    · replace hC := hC.below hbr (Nat.le_refl _)
      replace xc := xc.below hbr
      replace bw := belowT bw hbr
      obtain ⟨s0, s1, s2, -, -, -⟩ := xc
      clear i1 i2 i3 i4 i5 e0 e1 e2 e3 e4 hbr hix
      go_wp2_with fail
      refine (BMay_c a n c b who wt _ h).mono ?_
      rintro e w6 ⟨rfl, hb6⟩
      generalize hM : mayB b who wt = M at *
      have HM := hide hM
      clear hM
      replace h := h.below hb6 (Nat.le_refl _)
      replace hC := hC.below hb6 (Nat.le_refl _)
      replace p0 := keepc hb6 p0
      replace p1 := keepc hb6 p1
      replace p2 := keepc hb6 p2
      replace s0 := keepc hb6 s0
      replace s1 := keepc hb6 s1
      replace s2 := keepc hb6 s2
      replace bw := belowT bw hb6
      clear hb6
      go_wp2_with fail
      refine (CheckBook_c a n c b _ h).mono ?_
      rintro e w7 ⟨rfl, hb7⟩
      generalize hK : checkB b = ck at *
      have HK := hide hK
      clear hK
      replace h := h.below hb7 (Nat.le_refl _)
      replace hC := hC.below hb7 (Nat.le_refl _)
      replace p0 := keepc hb7 p0
      replace p1 := keepc hb7 p1
      replace p2 := keepc hb7 p2
      replace s0 := keepc hb7 s0
      replace s1 := keepc hb7 s1
      replace s2 := keepc hb7 s2
      replace bw := belowT bw hb7
      clear hb7
      go_upto_region 16 with fail
      go_cut [132] (fun v wx => v = .bool false ∧ Below w7.heap.size w7 wx)
      case first =>
        go_region_held3 (fun w' => w'.cell? ⟨P, 0, none⟩ = some (.slice a n c) ∧ w'.cell? ⟨P, 1, none⟩ = some (.int .i64 b.h) ∧ w'.cell? ⟨P, 2, none⟩ = some (.int .i64 b.t) ∧ w'.cell? ⟨Q, 0, none⟩ = some (.slice aC nC cC) ∧ w'.cell? ⟨Q, 1, none⟩ = some (.int .i64 bC.h) ∧ w'.cell? ⟨Q, 2, none⟩ = some (.int .i64 bC.t)) ((first | (go_simp; done) | (simp [*, World.cell?_alloc_at, World.cell?_alloc_past, World.cell?_alloc_some, World.cell?_setCell_far]; done)))
          (first
            | (go_at_call 12; refine (SameBook_c an af 3 3 cn cf ⟨[0, 0, 0], -1, 0⟩ ⟨[0, 0, 0], -1, 0⟩ _ (by refine Ints.below iN (B := wN.heap.size) ?_ (Nat.le_refl _); (repeat first | exact bel0 | assumption | refine bel1 ?_ | refine bel2 ?_ | refine bel3 ?_ | refine belowT ?_ (by assumption) | refine bel5 ?_ (by simp; try omega))) iF).mono ?_; rintro e wS ⟨rfl, hbS⟩; rw [show sameB ⟨[0, 0, 0], -1, 0⟩ ⟨[0, 0, 0], -1, 0⟩ = true from rfl]; (have m0 := keepc hbS (p := ⟨P, 0, none⟩) (u := .slice a n c) (by (first | (go_simp; done) | (simp [*, World.cell?_alloc_at, World.cell?_alloc_past, World.cell?_alloc_some, World.cell?_setCell_far]; done)))); (have m1 := keepc hbS (p := ⟨P, 1, none⟩) (u := .int .i64 b.h) (by (first | (go_simp; done) | (simp [*, World.cell?_alloc_at, World.cell?_alloc_past, World.cell?_alloc_some, World.cell?_setCell_far]; done)))); (have m2 := keepc hbS (p := ⟨P, 2, none⟩) (u := .int .i64 b.t) (by (first | (go_simp; done) | (simp [*, World.cell?_alloc_at, World.cell?_alloc_past, World.cell?_alloc_some, World.cell?_setCell_far]; done)))); (have m3 := keepc hbS (p := ⟨Q, 0, none⟩) (u := .slice aC nC cC) (by (first | (go_simp; done) | (simp [*, World.cell?_alloc_at, World.cell?_alloc_past, World.cell?_alloc_some, World.cell?_setCell_far]; done)))); (have m4 := keepc hbS (p := ⟨Q, 1, none⟩) (u := .int .i64 bC.h) (by (first | (go_simp; done) | (simp [*, World.cell?_alloc_at, World.cell?_alloc_past, World.cell?_alloc_some, World.cell?_setCell_far]; done)))); (have m5 := keepc hbS (p := ⟨Q, 2, none⟩) (u := .int .i64 bC.t) (by (first | (go_simp; done) | (simp [*, World.cell?_alloc_at, World.cell?_alloc_past, World.cell?_alloc_some, World.cell?_setCell_far]; done)))))
            | (go_at_call 15; refine (booked_c _).mono ?_; rintro e wn ⟨rfl, hbn⟩; (have m0 := keepc hbn (p := ⟨P, 0, none⟩) (u := .slice a n c) (by (first | (go_simp; done) | (simp [*, World.cell?_alloc_at, World.cell?_alloc_past, World.cell?_alloc_some, World.cell?_setCell_far]; done)))); (have m1 := keepc hbn (p := ⟨P, 1, none⟩) (u := .int .i64 b.h) (by (first | (go_simp; done) | (simp [*, World.cell?_alloc_at, World.cell?_alloc_past, World.cell?_alloc_some, World.cell?_setCell_far]; done)))); (have m2 := keepc hbn (p := ⟨P, 2, none⟩) (u := .int .i64 b.t) (by (first | (go_simp; done) | (simp [*, World.cell?_alloc_at, World.cell?_alloc_past, World.cell?_alloc_some, World.cell?_setCell_far]; done)))); (have m3 := keepc hbn (p := ⟨Q, 0, none⟩) (u := .slice aC nC cC) (by (first | (go_simp; done) | (simp [*, World.cell?_alloc_at, World.cell?_alloc_past, World.cell?_alloc_some, World.cell?_setCell_far]; done)))); (have m4 := keepc hbn (p := ⟨Q, 1, none⟩) (u := .int .i64 bC.h) (by (first | (go_simp; done) | (simp [*, World.cell?_alloc_at, World.cell?_alloc_past, World.cell?_alloc_some, World.cell?_setCell_far]; done)))); (have m5 := keepc hbn (p := ⟨Q, 2, none⟩) (u := .int .i64 bC.t) (by (first | (go_simp; done) | (simp [*, World.cell?_alloc_at, World.cell?_alloc_past, World.cell?_alloc_some, World.cell?_setCell_far]; done)))))
            | (go_at_call 16; refine (BCheck_c a n c b _ (by refine Ints.below h (B := w7.heap.size) ?_ (Nat.le_refl _); (repeat first | exact bel0 | assumption | refine bel1 ?_ | refine bel2 ?_ | refine bel3 ?_ | refine belowT ?_ (by assumption) | refine bel5 ?_ (by simp; try omega)))).mono ?_; rintro e wk ⟨rfl, hbk⟩; rw [HK.out]; (have m0 := keepc hbk (p := ⟨P, 0, none⟩) (u := .slice a n c) (by (first | (go_simp; done) | (simp [*, World.cell?_alloc_at, World.cell?_alloc_past, World.cell?_alloc_some, World.cell?_setCell_far]; done)))); (have m1 := keepc hbk (p := ⟨P, 1, none⟩) (u := .int .i64 b.h) (by (first | (go_simp; done) | (simp [*, World.cell?_alloc_at, World.cell?_alloc_past, World.cell?_alloc_some, World.cell?_setCell_far]; done)))); (have m2 := keepc hbk (p := ⟨P, 2, none⟩) (u := .int .i64 b.t) (by (first | (go_simp; done) | (simp [*, World.cell?_alloc_at, World.cell?_alloc_past, World.cell?_alloc_some, World.cell?_setCell_far]; done)))); (have m3 := keepc hbk (p := ⟨Q, 0, none⟩) (u := .slice aC nC cC) (by (first | (go_simp; done) | (simp [*, World.cell?_alloc_at, World.cell?_alloc_past, World.cell?_alloc_some, World.cell?_setCell_far]; done)))); (have m4 := keepc hbk (p := ⟨Q, 1, none⟩) (u := .int .i64 bC.h) (by (first | (go_simp; done) | (simp [*, World.cell?_alloc_at, World.cell?_alloc_past, World.cell?_alloc_some, World.cell?_setCell_far]; done)))); (have m5 := keepc hbk (p := ⟨Q, 2, none⟩) (u := .int .i64 bC.t) (by (first | (go_simp; done) | (simp [*, World.cell?_alloc_at, World.cell?_alloc_past, World.cell?_alloc_some, World.cell?_setCell_far]; done)))))
            | (go_at_call 17; refine (BSame_c a aC n nC c cC b bC _ (by refine Ints.below h (B := w7.heap.size) ?_ (Nat.le_refl _); (repeat first | exact bel0 | assumption | refine bel1 ?_ | refine bel2 ?_ | refine bel3 ?_ | refine belowT ?_ (by assumption) | refine bel5 ?_ (by simp; try omega))) (by refine Ints.below hC (B := w7.heap.size) ?_ (Nat.le_refl _); (repeat first | exact bel0 | assumption | refine bel1 ?_ | refine bel2 ?_ | refine bel3 ?_ | refine belowT ?_ (by assumption) | refine bel5 ?_ (by simp; try omega)))).mono ?_; rintro e ws ⟨rfl, hbs⟩; (have m0 := keepc hbs (p := ⟨P, 0, none⟩) (u := .slice a n c) (by (first | (go_simp; done) | (simp [*, World.cell?_alloc_at, World.cell?_alloc_past, World.cell?_alloc_some, World.cell?_setCell_far]; done)))); (have m1 := keepc hbs (p := ⟨P, 1, none⟩) (u := .int .i64 b.h) (by (first | (go_simp; done) | (simp [*, World.cell?_alloc_at, World.cell?_alloc_past, World.cell?_alloc_some, World.cell?_setCell_far]; done)))); (have m2 := keepc hbs (p := ⟨P, 2, none⟩) (u := .int .i64 b.t) (by (first | (go_simp; done) | (simp [*, World.cell?_alloc_at, World.cell?_alloc_past, World.cell?_alloc_some, World.cell?_setCell_far]; done)))); (have m3 := keepc hbs (p := ⟨Q, 0, none⟩) (u := .slice aC nC cC) (by (first | (go_simp; done) | (simp [*, World.cell?_alloc_at, World.cell?_alloc_past, World.cell?_alloc_some, World.cell?_setCell_far]; done)))); (have m4 := keepc hbs (p := ⟨Q, 1, none⟩) (u := .int .i64 bC.h) (by (first | (go_simp; done) | (simp [*, World.cell?_alloc_at, World.cell?_alloc_past, World.cell?_alloc_some, World.cell?_setCell_far]; done)))); (have m5 := keepc hbs (p := ⟨Q, 2, none⟩) (u := .int .i64 bC.t) (by (first | (go_simp; done) | (simp [*, World.cell?_alloc_at, World.cell?_alloc_past, World.cell?_alloc_some, World.cell?_setCell_far]; done)))))
            | (go_at_call 12; refine (SameBook_c a aC n nC c cC b bC _ (by refine Ints.below h (B := w7.heap.size) ?_ (Nat.le_refl _); (repeat first | exact bel0 | assumption | refine bel1 ?_ | refine bel2 ?_ | refine bel3 ?_ | refine belowT ?_ (by assumption) | refine bel5 ?_ (by simp; try omega))) (by refine Ints.below hC (B := w7.heap.size) ?_ (Nat.le_refl _); (repeat first | exact bel0 | assumption | refine bel1 ?_ | refine bel2 ?_ | refine bel3 ?_ | refine belowT ?_ (by assumption) | refine bel5 ?_ (by simp; try omega)))).mono ?_; rintro e wt1 ⟨rfl, hbt⟩; (have m0 := keepc hbt (p := ⟨P, 0, none⟩) (u := .slice a n c) (by (first | (go_simp; done) | (simp [*, World.cell?_alloc_at, World.cell?_alloc_past, World.cell?_alloc_some, World.cell?_setCell_far]; done)))); (have m1 := keepc hbt (p := ⟨P, 1, none⟩) (u := .int .i64 b.h) (by (first | (go_simp; done) | (simp [*, World.cell?_alloc_at, World.cell?_alloc_past, World.cell?_alloc_some, World.cell?_setCell_far]; done)))); (have m2 := keepc hbt (p := ⟨P, 2, none⟩) (u := .int .i64 b.t) (by (first | (go_simp; done) | (simp [*, World.cell?_alloc_at, World.cell?_alloc_past, World.cell?_alloc_some, World.cell?_setCell_far]; done)))); (have m3 := keepc hbt (p := ⟨Q, 0, none⟩) (u := .slice aC nC cC) (by (first | (go_simp; done) | (simp [*, World.cell?_alloc_at, World.cell?_alloc_past, World.cell?_alloc_some, World.cell?_setCell_far]; done)))); (have m4 := keepc hbt (p := ⟨Q, 1, none⟩) (u := .int .i64 bC.h) (by (first | (go_simp; done) | (simp [*, World.cell?_alloc_at, World.cell?_alloc_past, World.cell?_alloc_some, World.cell?_setCell_far]; done)))); (have m5 := keepc hbt (p := ⟨Q, 2, none⟩) (u := .int .i64 bC.t) (by (first | (go_simp; done) | (simp [*, World.cell?_alloc_at, World.cell?_alloc_past, World.cell?_alloc_some, World.cell?_setCell_far]; done)))))
            | (go_at_call 18; refine (BNew_c _).mono ?_; rintro e wN ⟨⟨an, cn, rfl, iN, _⟩, hbN⟩; simp only [bookV, freshB] at iN ⊢; (have m0 := keepc hbN (p := ⟨P, 0, none⟩) (u := .slice a n c) (by (first | (go_simp; done) | (simp [*, World.cell?_alloc_at, World.cell?_alloc_past, World.cell?_alloc_some, World.cell?_setCell_far]; done)))); (have m1 := keepc hbN (p := ⟨P, 1, none⟩) (u := .int .i64 b.h) (by (first | (go_simp; done) | (simp [*, World.cell?_alloc_at, World.cell?_alloc_past, World.cell?_alloc_some, World.cell?_setCell_far]; done)))); (have m2 := keepc hbN (p := ⟨P, 2, none⟩) (u := .int .i64 b.t) (by (first | (go_simp; done) | (simp [*, World.cell?_alloc_at, World.cell?_alloc_past, World.cell?_alloc_some, World.cell?_setCell_far]; done)))); (have m3 := keepc hbN (p := ⟨Q, 0, none⟩) (u := .slice aC nC cC) (by (first | (go_simp; done) | (simp [*, World.cell?_alloc_at, World.cell?_alloc_past, World.cell?_alloc_some, World.cell?_setCell_far]; done)))); (have m4 := keepc hbN (p := ⟨Q, 1, none⟩) (u := .int .i64 bC.h) (by (first | (go_simp; done) | (simp [*, World.cell?_alloc_at, World.cell?_alloc_past, World.cell?_alloc_some, World.cell?_setCell_far]; done)))); (have m5 := keepc hbN (p := ⟨Q, 2, none⟩) (u := .int .i64 bC.t) (by (first | (go_simp; done) | (simp [*, World.cell?_alloc_at, World.cell?_alloc_past, World.cell?_alloc_some, World.cell?_setCell_far]; done)))))
            | (go_at_call 19; refine (FreshBook_c _).mono ?_; rintro e wF ⟨⟨af, cf, rfl, iF, _⟩, hbF⟩; simp only [bookV, freshB] at iF ⊢; (have m0 := keepc hbF (p := ⟨P, 0, none⟩) (u := .slice a n c) (by (first | (go_simp; done) | (simp [*, World.cell?_alloc_at, World.cell?_alloc_past, World.cell?_alloc_some, World.cell?_setCell_far]; done)))); (have m1 := keepc hbF (p := ⟨P, 1, none⟩) (u := .int .i64 b.h) (by (first | (go_simp; done) | (simp [*, World.cell?_alloc_at, World.cell?_alloc_past, World.cell?_alloc_some, World.cell?_setCell_far]; done)))); (have m2 := keepc hbF (p := ⟨P, 2, none⟩) (u := .int .i64 b.t) (by (first | (go_simp; done) | (simp [*, World.cell?_alloc_at, World.cell?_alloc_past, World.cell?_alloc_some, World.cell?_setCell_far]; done)))); (have m3 := keepc hbF (p := ⟨Q, 0, none⟩) (u := .slice aC nC cC) (by (first | (go_simp; done) | (simp [*, World.cell?_alloc_at, World.cell?_alloc_past, World.cell?_alloc_some, World.cell?_setCell_far]; done)))); (have m4 := keepc hbF (p := ⟨Q, 1, none⟩) (u := .int .i64 bC.h) (by (first | (go_simp; done) | (simp [*, World.cell?_alloc_at, World.cell?_alloc_past, World.cell?_alloc_some, World.cell?_setCell_far]; done)))); (have m5 := keepc hbF (p := ⟨Q, 2, none⟩) (u := .int .i64 bC.t) (by (first | (go_simp; done) | (simp [*, World.cell?_alloc_at, World.cell?_alloc_past, World.cell?_alloc_some, World.cell?_setCell_far]; done))))))
        go_wp2_with fail
        go_meet
        case rel => exact ⟨by simp, by (repeat first | exact bel0 | assumption | refine bel1 ?_ | refine bel2 ?_ | refine bel3 ?_ | refine belowT ?_ (by assumption) | refine bel5 ?_ (by simp; try omega))⟩
      case rest =>
        obtain ⟨rfl, hbc⟩ := hcut
        replace h := h.below hbc (Nat.le_refl _)
        replace p0 := keepc hbc p0
        replace p1 := keepc hbc p1
        replace p2 := keepc hbc p2
        replace bw := belowT bw hbc
        clear hbc hC s0 s1 s2
        by_cases hck : ck = 0
        · subst hck
          by_cases hw : 0 ≤ who ∧ who ≤ 2
          · have hpre : preB b who = 0 := by simp [preB, HK.out, inB, hw]
            have hM : M = (mightB b who wt, 0) := by rw [← HM.out]; simp [mayB, hpre]
            have hok := HK.out
            obtain ⟨hw1, hw2⟩ := hw
            obtain ⟨j, rfl⟩ := Int.eq_ofNat_of_zero_le hw1
            subst hM
            obtain ⟨l, hh, tt⟩ := b
            obtain ⟨x, y, z, e, -⟩ := checkB_ok hok
            dsimp only at e h
            subst e
            obtain rfl : n = 3 := by rw [← h.len]; rfl
            have HO := hide hok
            have hj : j < 3 := by omega
            clear hok hpre
            have d1 : ¬ (j : Int) < 0 := by omega
            have d2 : ¬ (2 : Int) < (j : Int) := by omega
            go_wp2_with (go_at_call 20; refine (Might_c a c x y z hh tt j wt _ h HO.out hj).mono ?_; rintro e w9 ⟨rfl, hb9⟩)
            go_ret
            exact ⟨by simp, by (repeat first | exact bel0 | assumption | refine bel1 ?_ | refine bel2 ?_ | refine bel3 ?_ | refine belowT ?_ (by assumption) | refine bel5 ?_ (by simp; try omega))⟩
          · have hin : inB who 0 2 = false := by simp [inB]; omega
            have hM : M = (false, 5) := by rw [← HM.out]; simp [mayB, preB, HK.out, hin]
            subst hM
            rcases (by omega : who < 0 ∨ 0 ≤ who ∧ 2 < who) with hw1 | ⟨hw1, hw2⟩
            all_goals
              clear hw
              go_wp2
              go_ret
              exact ⟨rfl, bw⟩
        · have hx : (ck == 0) = false := by simpa using hck
          have hx2 : (ck != 0) = true := by simpa using hck
          have hM : M = (false, ck) := by rw [← HM.out]; simp [mayB, preB, HK.out, hck]
          subst hM
          clear hck
          go_wp2
          go_ret
          exact ⟨by simp, bw⟩

end Go.Proofs.Ytogpbihmofbfjaa
