/- The contract of plain.list over ints: a copy in new memory; no condition but that the list reads, and is no greater than a machine bears. -/
import Derived.Test.YtogpbihmofbfjaaA4
import Derived.Test.YtogpbihmofbfjaaLY
namespace Go.Proofs.Ytogpbihmofbfjaa
open Go.RowKit
set_option linter.unusedVariables false
set_option maxRecDepth 100000
set_option linter.unusedSimpArgs false

theorem Lay.of_row {w : World} {q : Nat} {L : List Value} {t : TypeId} (h : w.heap[q]? = some (.cells L.toArray t (0, 0))) : Lay w q L :=
  ⟨fun i v hv => by rw [cell_of_row w q _ _ t _ h]; simpa using hv, fun j => by simp [World.frozen?, h], (Array.getElem?_eq_some_iff.1 h).1⟩
set_option maxHeartbeats 1000000 in
theorem plistL_c (a : Option Addr) (n c : Nat) (l : List Int) (w : World) (h : Ints w a n c l) (hn : n ≤ 100000) :
    Calls Try.prog 34 #[.slice a n c] w fun e w' => (∃ q, e = .returned (.slice (some ⟨q, 0, none⟩) n n) ∧ Ints w' (some ⟨q, 0, none⟩) n n l ∧ w.heap.size ≤ q ∧ Lay w' q (cellsOf l)) ∧ Below w.heap.size w w' := by
  have n2 : (n : Int) ≤ 100000 := by omega
  have hmk := run_make_row' (P := Try.prog) 22 3 (.int .i64 0) 8 Try.underlying22 infoInt rfl .i64 .i64 n (by omega) (by omega)
  go_enter Try.func34, Try.ntmps34
  go_wp2_with fail
  obtain ⟨w2, r2, g2, b2⟩ := copy_run (P := Try.prog) (w.alloc (.cells (madeCells #[.int .i64 0] n) 3)) 22 22 3 3 Try.underlying22 sizeInt (some ⟨w.heap.size, 0, none⟩) a n n n c w.heap.size 0
    (madeCells #[.int .i64 0] n).toList 3 (heap_new _ _) (cellsOf l) (by rw [cellsOf_len, h.len]; exact (Nat.min_self n).symm) (fun hp => ⟨rfl, (h.below (B := w.heap.size) (by (repeat first | exact bel0 | assumption | refine bel1 ?_ | refine bel2 ?_ | refine bel3 ?_ | refine belowT ?_ (by assumption) | refine bel5 ?_ (by simp; try omega))) (Nat.le_refl _)).src (by rw [cellsOf_len, h.len] at hp; exact hp)⟩) (by simp [size_madeCells, cellsOf_len, h.len]) (cellsOf_one l)
  rw [r2]
  have G2 := hide g2
  clear g2 r2
  go_wp2
  go_ret
  have g2 := G2.out
  rw [splice_one _ _ (by simp [size_madeCells, cellsOf_len, h.len])] at g2
  exact ⟨⟨_, rfl, Ints.of_row g2 (by rw [h.len]; omega) h.wf h.len, Nat.le_refl _, Lay.of_row g2⟩, (belowA (Below.refl _ _) _).trans b2⟩
theorem plist_c (a : Option Addr) (n c : Nat) (l : List Int) (w : World) (h : Ints w a n c l) (hn : n ≤ 100000) :
    Calls Try.prog 34 #[.slice a n c] w fun e w' => (∃ q, e = .returned (.slice (some ⟨q, 0, none⟩) n n) ∧ Ints w' (some ⟨q, 0, none⟩) n n l ∧ w.heap.size ≤ q ∧ q < w'.heap.size) ∧ Below w.heap.size w w' :=
  (plistL_c a n c l w h hn).mono fun e w' ⟨⟨q, h1, h2, h3, h4⟩, h5⟩ => ⟨⟨q, h1, h2, h3, h4.lt⟩, h5⟩

end Go.Proofs.Ytogpbihmofbfjaa
