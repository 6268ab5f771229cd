/- The law's own closed fact 'crowded': it answers true in whatever world; no condition. -/
import Derived.Test.YtaambknbbhjdnaaY1
namespace Go.Proofs.Ytaambknbbhjdnaa
open Go.RowKit
set_option linter.unusedVariables false
set_option maxRecDepth 100000
set_option linter.unusedSimpArgs false

/-- Four zones that are known: their cells. -/
theorem zs_cells {w : World} {a : Option Addr} {n c : Nat} {Z : List ZV} {p q r s : PZ} (h : Zones w a n c Z) (hp : Z.map ZV.p = [p, q, r, s]) :
    n = 4 ∧ ∃ b off d0 d1 d2 d3, a = some ⟨b, off, none⟩ ∧
      (w.cell? ⟨b, off, none⟩ = some (.int .i64 p.1) ∧ w.cell? ⟨b, off + 1, none⟩ = some d0 ∧ w.cell? ⟨b, off + 2, none⟩ = some (.int .i64 q.1) ∧ w.cell? ⟨b, off + 3, none⟩ = some d1 ∧
       w.cell? ⟨b, off + 4, none⟩ = some (.int .i64 r.1) ∧ w.cell? ⟨b, off + 5, none⟩ = some d2 ∧ w.cell? ⟨b, off + 6, none⟩ = some (.int .i64 s.1) ∧ w.cell? ⟨b, off + 7, none⟩ = some d3) ∧
      (∃ e m g, d0 = .slice e m g ∧ m = p.2.length) := by
  have hl : Z.length = 4 := by have := congrArg List.length hp; simpa using this
  have hn : n = 4 := by rw [← h.len, hl]
  refine ⟨hn, ?_⟩
  match Z, hl with
  | [z0, z1, z2, z3], _ =>
    simp [ZV.p] at hp
    obtain ⟨rfl, rfl, rfl, rfl⟩ := hp
    rcases h.row with h0 | ⟨b, off, ha, _, hr⟩
    · omega
    · obtain ⟨g0, g1⟩ := hr 0 z0 rfl
      obtain ⟨g2, g3⟩ := hr 1 z1 rfl
      obtain ⟨g4, g5⟩ := hr 2 z2 rfl
      obtain ⟨g6, g7⟩ := hr 3 z3 rfl
      exact ⟨b, off, _, _, _, _, ha, ⟨g0, g1, g2, g3, g4, g5, g6, g7⟩, _, _, _, rfl, (h.ok z0 (by simp)).len.symm⟩

set_option maxRecDepth 100000 in
set_option maxHeartbeats 16000000 in
theorem crowded_c (w : World) : Calls Try.prog 13 #[] w fun e w' => e = .returned (.bool true) ∧ Below w.heap.size w w' := by
  go_enter Try.func13, Try.ntmps13
  go_wp2_with fail
  refine (YNew_c _).mono ?_
  rintro e w0 ⟨⟨a0, c0, Z0, rfl, i0, p0⟩, hb⟩
  have P0 := hide p0
  clear p0
  have bw0 := hb
  clear hb
  go_wp2_with fail
  refine (YWrite_c a0 4 c0 Z0 0 (some ⟨w0.heap.size, 0, none⟩) 1 1 [7] _ (i0.below (B := w0.heap.size) (belowA (Below.refl _ _) _) (Nat.le_refl _)) (by refine Ints.of_row (l := [7]) (t := 3) (fr := (0, 0)) ?_ (by decide) (by decide) rfl; exact heap_new w0 _)).mono ?_
  rintro e w1 ⟨⟨a1, n1, c1, Z1, rfl, i1, p1⟩, hb⟩
  rw [P0.out] at p1 ⊢
  rw [show (writeP [(0, []), (0, []), (0, []), (0, [])] 0 [7]).2.1 = 0 from rfl, show (writeP [(0, []), (0, []), (0, []), (0, [])] 0 [7]).2.2 = 0 from rfl]
  rw [show (writeP [(0, []), (0, []), (0, []), (0, [])] 0 [7]).1 = [(1, [7]), (0, []), (0, []), (0, [])] from rfl] at p1
  have hb' : Below w0.heap.size w0 w1 := by (repeat first | exact bel0 | assumption | refine bel1 ?_ | refine bel2 ?_ | refine bel3 ?_ | refine belowT ?_ (by assumption) | refine bel5 ?_ (by simp; try omega))
  replace i0 := i0.below hb' (Nat.le_refl _)
  have P1 := hide p1
  have bw1 := belowT bw0 hb'
  clear p1 hb hb' bw0
  go_wp2_with fail
  refine (YWrite_c a1 n1 c1 Z1 1 (some ⟨w1.heap.size, 0, none⟩) 1 1 [8] _ (i1.below (B := w1.heap.size) (belowA (Below.refl _ _) _) (Nat.le_refl _)) (by refine Ints.of_row (l := [8]) (t := 3) (fr := (0, 0)) ?_ (by decide) (by decide) rfl; exact heap_new w1 _)).mono ?_
  rintro e w2 ⟨⟨a2, n2, c2, Z2, rfl, i2, p2⟩, hb⟩
  rw [P1.out] at p2 ⊢
  rw [show (writeP [(1, [7]), (0, []), (0, []), (0, [])] 1 [8]).2.1 = 0 from rfl, show (writeP [(1, [7]), (0, []), (0, []), (0, [])] 1 [8]).2.2 = 0 from rfl]
  rw [show (writeP [(1, [7]), (0, []), (0, []), (0, [])] 1 [8]).1 = [(1, [7]), (1, [8]), (0, []), (0, [])] from rfl] at p2
  have hb' : Below w1.heap.size w1 w2 := by (repeat first | exact bel0 | assumption | refine bel1 ?_ | refine bel2 ?_ | refine bel3 ?_ | refine belowT ?_ (by assumption) | refine bel5 ?_ (by simp; try omega))
  replace i1 := i1.below hb' (Nat.le_refl _)
  have P2 := hide p2
  have bw2 := belowT bw1 hb'
  clear p2 hb hb' bw1
  go_wp2_with fail
  refine (YHold_c a2 n2 c2 Z2 2 _ i2).mono ?_
  rintro e w3 ⟨⟨a3, n3, c3, Z3, rfl, i3, p3⟩, hb⟩
  rw [P2.out] at p3 ⊢
  rw [show (holdP [(1, [7]), (1, [8]), (0, []), (0, [])] 2).2 = 0 from rfl]
  rw [show (holdP [(1, [7]), (1, [8]), (0, []), (0, [])] 2).1 = [(3, [7]), (1, [8]), (2, []), (0, [])] from rfl] at p3
  have hb' := hb
  replace i1 := i1.below hb' (Nat.le_refl _)
  replace i2 := i2.below hb' (Nat.le_refl _)
  have P3 := hide p3
  have bw3 := belowT bw2 hb'
  clear p3 hb hb' bw2
  go_wp2_with fail
  refine (YWrite_c a3 n3 c3 Z3 0 (some ⟨w3.heap.size, 0, none⟩) 2 2 [9, 9] _ (i3.below (B := w3.heap.size) (belowA (Below.refl _ _) _) (Nat.le_refl _)) (by refine Ints.of_row (l := [9, 9]) (t := 3) (fr := (0, 0)) ?_ (by decide) (by decide) rfl; exact heap_new w3 _)).mono ?_
  rintro e w4 ⟨⟨a4, n4, c4, Z4, rfl, i4, p4⟩, hb⟩
  rw [P3.out] at p4 ⊢
  rw [show (writeP [(3, [7]), (1, [8]), (2, []), (0, [])] 0 [9, 9]).2.1 = 1 from rfl, show (writeP [(3, [7]), (1, [8]), (2, []), (0, [])] 0 [9, 9]).2.2 = 0 from rfl]
  rw [show (writeP [(3, [7]), (1, [8]), (2, []), (0, [])] 0 [9, 9]).1 = [(1, [7, 9, 9]), (3, [8]), (2, []), (0, [])] from rfl] at p4
  have hb' : Below w3.heap.size w3 w4 := by (repeat first | exact bel0 | assumption | refine bel1 ?_ | refine bel2 ?_ | refine bel3 ?_ | refine belowT ?_ (by assumption) | refine bel5 ?_ (by simp; try omega))
  replace i1 := i1.below hb' (Nat.le_refl _)
  replace i2 := i2.below hb' (Nat.le_refl _)
  replace i3 := i3.below hb' (Nat.le_refl _)
  have P4 := hide p4
  have bw4 := belowT bw3 hb'
  clear p4 hb hb' bw3
  go_wp2_with fail
  refine (YHold_c a4 n4 c4 Z4 3 _ i4).mono ?_
  rintro e w5 ⟨⟨a5, n5, c5, Z5, rfl, i5, p5⟩, hb⟩
  rw [P4.out] at p5 ⊢
  rw [show (holdP [(1, [7, 9, 9]), (3, [8]), (2, []), (0, [])] 3).2 = 7 from rfl]
  rw [show (holdP [(1, [7, 9, 9]), (3, [8]), (2, []), (0, [])] 3).1 = [] from rfl] at p5
  have hb' := hb
  replace i1 := i1.below hb' (Nat.le_refl _)
  replace i2 := i2.below hb' (Nat.le_refl _)
  replace i3 := i3.below hb' (Nat.le_refl _)
  replace i4 := i4.below hb' (Nat.le_refl _)
  have P5 := hide p5
  have bw5 := belowT bw4 hb'
  clear p5 hb hb' bw4
  clear i5 P5
  go_wp2_with fail
  refine (YClose_c a4 n4 c4 Z4 2 _ i4).mono ?_
  rintro e w6 ⟨⟨a6, n6, c6, Z6, rfl, i6, p6⟩, hb⟩
  rw [P4.out] at p6 ⊢
  rw [show (closeP [(1, [7, 9, 9]), (3, [8]), (2, []), (0, [])] 2).2 = 0 from rfl]
  rw [show (closeP [(1, [7, 9, 9]), (3, [8]), (2, []), (0, [])] 2).1 = [(1, [7, 9, 9]), (3, [8]), (0, []), (0, [])] from rfl] at p6
  have hb' := hb
  replace i1 := i1.below hb' (Nat.le_refl _)
  replace i2 := i2.below hb' (Nat.le_refl _)
  replace i3 := i3.below hb' (Nat.le_refl _)
  replace i4 := i4.below hb' (Nat.le_refl _)
  have P6 := hide p6
  have bw6 := belowT bw5 hb'
  clear p6 hb hb' bw5
  go_wp2_with fail
  refine (YFinish_c a6 n6 c6 Z6 4 _ i6).mono ?_
  rintro e w7 ⟨⟨a7, n7, c7, Z7, rfl, i7, p7⟩, hb⟩
  rw [P6.out] at p7 ⊢
  rw [show (finishP [(1, [7, 9, 9]), (3, [8]), (0, []), (0, [])] 4).2 = 5 from rfl]
  rw [show (finishP [(1, [7, 9, 9]), (3, [8]), (0, []), (0, [])] 4).1 = [] from rfl] at p7
  have hb' := hb
  replace i1 := i1.below hb' (Nat.le_refl _)
  replace i2 := i2.below hb' (Nat.le_refl _)
  replace i3 := i3.below hb' (Nat.le_refl _)
  replace i4 := i4.below hb' (Nat.le_refl _)
  replace i6 := i6.below hb' (Nat.le_refl _)
  have P7 := hide p7
  have bw7 := belowT bw6 hb'
  clear p7 hb hb' bw6
  clear i7 P7
  go_wp2_with fail
  refine (YReset_c a6 n6 c6 Z6 0 _ i6).mono ?_
  rintro e w8 ⟨⟨a8, n8, c8, Z8, rfl, i8, p8⟩, hb⟩
  rw [P6.out] at p8 ⊢
  rw [show (resetP [(1, [7, 9, 9]), (3, [8]), (0, []), (0, [])] 0).2 = 0 from rfl]
  rw [show (resetP [(1, [7, 9, 9]), (3, [8]), (0, []), (0, [])] 0).1 = [(0, []), (3, [8]), (0, []), (0, [])] from rfl] at p8
  have hb' := hb
  replace i1 := i1.below hb' (Nat.le_refl _)
  replace i2 := i2.below hb' (Nat.le_refl _)
  replace i3 := i3.below hb' (Nat.le_refl _)
  replace i4 := i4.below hb' (Nat.le_refl _)
  replace i6 := i6.below hb' (Nat.le_refl _)
  have P8 := hide p8
  have bw8 := belowT bw7 hb'
  clear p8 hb hb' bw7
  have z8 := i8
  obtain ⟨hn3, b3, o3, _, _, _, _, ha3, ⟨q30, _⟩, _⟩ := zs_cells i3 P3.out
  obtain ⟨hn4, b4, o4, _, _, _, _, ha4, ⟨q40, _, q42, _⟩, _⟩ := zs_cells i4 P4.out
  obtain ⟨hn6, b6, o6, _, _, _, _, ha6, ⟨_, _, _, _, q64, _⟩, _⟩ := zs_cells i6 P6.out
  obtain ⟨hn8, b8, o8, d80, _, _, _, ha8, ⟨_, q81, _⟩, ⟨e8, m8, g8, hd8, hm8⟩⟩ := zs_cells i8 P8.out
  rw [ha3, hn3, ha4, hn4, ha6, hn6, ha8, hn8]
  rw [ha8, hn8] at z8
  have t30 : w8.cell? ⟨b3, o3, none⟩ = some (.int .i64 3) := q30
  have t40 : w8.cell? ⟨b4, o4, none⟩ = some (.int .i64 1) := q40
  have t42 : w8.cell? ⟨b4, o4 + 2, none⟩ = some (.int .i64 3) := q42
  have t64 : w8.cell? ⟨b6, o6 + 4, none⟩ = some (.int .i64 0) := q64
  have t81 : w8.cell? ⟨b8, o8 + 1, none⟩ = some (.slice e8 0 g8) := by rw [q81, hd8, hm8]; rfl
  clear q30 q40 q42 q64 q81 hd8 hm8 ha3 hn3 ha4 hn4 ha6 hn6 ha8 hn8 i1 i2 i3 i4 i6 i8
  go_wp2_with (first | (go_at_call 14; refine (YCheck_c _ 4 c8 Z8 _ z8).mono ?_; rintro e w9 ⟨rfl, hb9⟩; (rw [P8.out]); (rw [show checkZs [(0, []), (3, [8]), (0, []), (0, [])] = 0 from rfl])) | (go_at_call 16; refine (YSame_c _ _ 4 4 c8 c8 Z8 Z8 _ (z8.below hb9 (Nat.le_refl _)) (z8.below hb9 (Nat.le_refl _))).mono ?_; rintro e w10 ⟨rfl, hb10⟩; (rw [show decide (Z8.map ZV.p = Z8.map ZV.p) = true from decide_eq_true rfl])))
  go_ret
  exact ⟨rfl, by (repeat first | exact bel0 | assumption | refine bel1 ?_ | refine bel2 ?_ | refine bel3 ?_ | refine belowT ?_ (by assumption) | refine bel5 ?_ (by simp; try omega))⟩

end Go.Proofs.Ytaambknbbhjdnaa
