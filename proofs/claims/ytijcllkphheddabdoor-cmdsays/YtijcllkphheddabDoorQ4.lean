/- The contracts of cmd.whole and cmd.numbers; no condition but that the list reads. -/
import Derived.Test.YtijcllkphheddabDoorQ3
import Derived.Test.YtijcllkphheddabDoorA4
import Derived.Lib.AtoiErrMem
namespace Go.Proofs.YtijcllkphheddabDoor
open Go.RowKit
set_option linter.unusedVariables false
set_option linter.unusedSimpArgs false

set_option maxRecDepth 100000 in
set_option maxHeartbeats 1000000 in
theorem whole_c (a : Option Addr) (n c : Nat) (l : List Int) (w : World) (h : Ints w a n c l) (hn : n ≤ 100000) :
    Calls Tryd.prog 48 #[.slice a n c] w fun e w' => (∃ b, e = .returned (.slice b n n) ∧ Ints w' b n n l ∧ ∀ x, b = some x → w.heap.size ≤ x.block) ∧ Below w.heap.size w w' := by
  by_cases h0 : n = 0
  · subst h0
    obtain rfl : l = [] := List.eq_nil_of_length_eq_zero h.len
    go_enter Tryd.func48, Tryd.ntmps48
    go_wp2
    go_ret
    exact ⟨⟨none, rfl, Ints.nilSlice _, fun x e => by cases e⟩, Below.refl _ _⟩
  · have n1 : (0 : Int) < (n : Int) := by omega
    have n0 : ((n : Int) == 0) = false := by simp; omega
    have n2 : (n : Int) ≤ 100000 := by omega
    have hmk := run_make_row' (P := Tryd.prog) 22 3 (.int .i64 0) 8 Tryd.underlying22 infoInt rfl .i64 .i64 n (by omega) (by omega)
    go_enter Tryd.func48, Tryd.ntmps48
    go_wp2_with fail
    obtain ⟨w2, r2, g2, b2⟩ := copy_run (P := Tryd.prog) (w.alloc (.cells (madeCells #[.int .i64 0] n) 3)) 22 22 3 3 Tryd.underlying22 sizeInt (some ⟨w.heap.size, 0, none⟩) a n n n c w.heap.size 0
      (madeCells #[.int .i64 0] n).toList 3 (heap_new _ _) (cellsOf l) (by rw [cellsOf_len, h.len]; exact (Nat.min_self n).symm) (fun hp => ⟨rfl, (h.below (B := w.heap.size) (by (repeat (first | exact Below.refl _ _ | assumption | refine Below.drew ?_ | refine below_drewN ?_ _ | refine belowA ?_ _ | refine belowT ?_ (by assumption) | refine Below.setCell ?_ (by first | (simp; done) | (simp; omega)) _))) (Nat.le_refl _)).src (by rw [cellsOf_len, h.len] at hp; exact hp)⟩) (by simp [size_madeCells, cellsOf_len, h.len]) (cellsOf_one l)
    rw [r2]
    have G2 := hide g2
    clear g2 r2
    go_wp2
    go_ret
    have g2 := G2.out
    rw [splice_one _ _ (by simp [size_madeCells, cellsOf_len, h.len])] at g2
    exact ⟨⟨_, rfl, Ints.of_row g2 (by rw [h.len]; omega) h.wf h.len, fun x e => by cases e; exact Nat.le_refl _⟩, (belowA (Below.refl _ _) _).trans b2⟩

/-- A piece of a text as Atoi takes it. -/
theorem Atoi_ok_c (s : ByteArray) (hs : s.size ≤ 281474976710656) (v : Int) (h : Lib.atoiAll s.data.toList = .ok v) (w : World) :
    Calls Tryd.prog 47 #[.string s] w fun e w' => e = .returned (.tuple #[.int .i64 v, .nilIface]) ∧ Below w.heap.size w w' := by
  refine (Tryd.strconv_Atoi_ok s (by omega) v h w).mono ?_
  rintro e w' ⟨rfl, rfl | ⟨t, rfl⟩⟩
  · exact ⟨rfl, Below.refl _ _⟩
  · exact ⟨rfl, Lib.bytesWorld_below _ _ _⟩
theorem Atoi_bad_c (s : ByteArray) (hs : s.size ≤ 281474976710656) (h : ∀ v, Lib.atoiAll s.data.toList ≠ .ok v) (w : World) (hE : Env w) :
    Calls Tryd.prog 47 #[.string s] w fun e w' => (∃ v N, e = .returned (.tuple #[.int .i64 v, .iface 86 (.pointer (some ⟨N, 0, none⟩))])) ∧ Below w.heap.size w w' := by
  cases ha : Lib.atoiAll s.data.toList with
  | ok v => exact absurd ha (h v)
  | «syntax» =>
    obtain ⟨t, p, hp⟩ := hE.syn
    refine (Tryd.strconv_Atoi_syntax s hs ha _ w hp (.inr ⟨_, _, rfl⟩)).mono ?_
    rintro e w' ⟨N, rfl, _, _, hb⟩
    exact ⟨⟨_, N, rfl⟩, hb⟩
  | range =>
    obtain ⟨t, p, hp⟩ := hE.rng
    refine (Tryd.strconv_Atoi_range s hs ha _ w hp (.inr ⟨_, _, rfl⟩)).mono ?_
    rintro e w' ⟨N, rfl, _, _, hb⟩
    exact ⟨⟨_, N, rfl⟩, hb⟩
theorem Itoa_c (v : Int) (h0 : -9223372036854775808 ≤ v ∧ v ≤ 9223372036854775807) (w : World) (hE : Env w) :
    Calls Tryd.prog 14 #[.int .i64 v] w fun e w' => e = .returned (.string ⟨(Lib.itoa v).toArray⟩) ∧ Below w.heap.size w w' := by
  refine (Tryd.strconv_Itoa v h0.1 h0.2 w hE.tab).mono ?_
  rintro e w' ⟨rfl, k, os, rfl⟩
  exact ⟨rfl, below_grow _ _ _⟩

end Go.Proofs.YtijcllkphheddabDoor
