/- The contract of yard's whole copy; no condition but that the slice reads as four zones of few blocks. -/
import Derived.Test.YtmjcoehllinoeacDoorY1a
import Derived.Test.YtmjcoehllinoeacDoorY1b
namespace Go.Proofs.YtmjcoehllinoeacDoor
open Go.RowKit
set_option linter.unusedVariables false
set_option maxRecDepth 100000
set_option linter.unusedSimpArgs false

/-- Four zones that nobody has written yet. -/
def zero4 : List ZV := [⟨0, none, 0, 0, []⟩, ⟨0, none, 0, 0, []⟩, ⟨0, none, 0, 0, []⟩, ⟨0, none, 0, 0, []⟩]

theorem Mine.fresh (w : World) : Mine (w.alloc (.cells (zcells zero4).toArray 78)) w.heap.size w.heap.size 4 4 zero4 := by
  have hc : ∀ i z, zero4[i]? = some z → (w.alloc (.cells (zcells zero4).toArray 78)).cell? ⟨w.heap.size, i * 2, none⟩ = some (.int .i64 z.s) ∧ (w.alloc (.cells (zcells zero4).toArray 78)).cell? ⟨w.heap.size, i * 2 + 1, none⟩ = some (.slice z.a z.n z.c) := by
    intro i z hz
    obtain ⟨z0, z1⟩ := zcells_get zero4 i z hz
    rw [cell_of_row _ _ _ _ _ _ (heap_new w _), cell_of_row _ _ _ _ _ _ (heap_new w _)]
    exact ⟨by simpa using z0, by simpa using z1⟩
  have hz : ∀ z ∈ zero4, z = ⟨0, none, 0, 0, []⟩ := by simp [zero4]
  exact ⟨⟨rfl, Nat.le_refl _, by omega, fun e => (by cases e), .inr ⟨_, 0, rfl, by simp, fun i z hz => by simpa using hc i z hz⟩, fun z h => by rw [hz z h]; exact Ints.nilSlice _⟩,
    Nat.le_refl _, by simp, hc, fun j _ => frozen_row (heap_new w _), fun z h => by rw [hz z h]; exact .inl rfl⟩

theorem take_set_step {Z Z' : List ZV} {k : Nat} {z u : ZV} (hz : Z[k]? = some z) (hk : k < Z'.length) (h : (Z'.take k).map ZV.p = (Z.take k).map ZV.p) (hu : u.p = z.p) : ((Z'.set k u).take (k + 1)).map ZV.p = (Z.take (k + 1)).map ZV.p := by
  rw [take_snoc Z k z hz, take_snoc (Z'.set k u) k u (List.getElem?_set_self hk), List.map_append, List.map_append, List.take_set_of_le (Nat.le_refl k), h]
  simp [hu]

theorem mkz4 (w : World) : (Instr.makeSlice 33 (.int .i64 4) (.int .i64 4)).run Tryd.prog w = .ok (.slice (some ⟨w.heap.size, 0, none⟩) 4 4) (w.alloc (.cells (zcells zero4).toArray 78)) := by kernel_rfl

set_option maxHeartbeats 4000000 in
theorem whole_c (b off c : Nat) (Z : List ZV) (w : World) (h : Zones w (some ⟨b, off, none⟩) 4 c Z) (h8 : ∀ z ∈ Z, z.n ≤ 8)
    (hr : ∀ i z, Z[i]? = some z → w.cell? ⟨b, off + i * 2, none⟩ = some (.int .i64 z.s) ∧ w.cell? ⟨b, off + i * 2 + 1, none⟩ = some (.slice z.a z.n z.c)) :
    Calls Tryd.prog 120 #[.slice (some ⟨b, off, none⟩) 4 c] w fun e w' => (∃ g Z', e = .returned (.slice (some ⟨g, 0, none⟩) 4 4) ∧ Mine w' w.heap.size g 4 4 Z' ∧ Z'.map ZV.p = Z.map ZV.p ∧ NewL w.heap.size Z') ∧ Below w.heap.size w w' := by
  have hlen := hide h.len
  have hmk := mkz4
  have hm0 := Mine.fresh w
  generalize hx : (zcells zero4).toArray = xs at *
  clear hx
  go_enter Tryd.func120, Tryd.ntmps120
  go_wp2
  obtain ⟨g, hg⟩ : ∃ g, g = w.heap.size := ⟨_, rfl⟩
  have hm1 : Mine (w.alloc (.cells xs 78)) w.heap.size g 4 4 zero4 := by rw [hg]; exact hm0
  rw [← hg]
  clear hm0 hg
  go_loopw [11] (fun i wr => ∃ k Z', k ≤ 4 ∧ i = .int .i64 (k : Nat) ∧ Mine wr w.heap.size g 4 4 Z' ∧ (Z'.take k).map ZV.p = (Z.take k).map ZV.p ∧ NewL w.heap.size Z' ∧ Below w.heap.size w wr) (fun i _ => 4 - (intOf i).toNat)
  case atStart => exact ⟨0, zero4, by omega, rfl, hm1, rfl, (by intro z hz x e; simp [zero4] at hz; subst hz; cases e), by (repeat (first | exact Below.refl _ _ | assumption | refine Below.drew ?_ | refine below_drewN ?_ _ | refine belowA ?_ _ | refine belowT ?_ (by assumption) | refine Below.setCell ?_ (by first | (simp; done) | (simp; omega)) _))⟩
  case round =>
    obtain ⟨k, Z', hk, rfl, hm, hp, hnl, hbr⟩ := hrel
    have HN := hide hnl
    clear hnl
    have HP := hide hp
    clear hp hm1
    rename_i wr
    by_cases hlt : k < 4
    · obtain ⟨z, hz⟩ : ∃ z, Z[k]? = some z := ⟨Z[k]'(by rw [hlen.out]; exact hlt), by simp⟩
      obtain ⟨y, hy⟩ : ∃ z, Z'[k]? = some z := ⟨Z'[k]'(by rw [hm.zs.len]; exact hlt), by simp⟩
      obtain ⟨c0, c1⟩ := hr k z hz
      obtain ⟨y0, y1⟩ := hm.cells k y hy
      have s0 := hm.soft (k * 2) (by omega)
      have s1 := hm.soft (k * 2 + 1) (by omega)
      have hgl := hm.lt
      have iz := (h.ok z (List.mem_of_getElem? hz)).below hbr (Nat.le_refl _)
      have hz8 := h8 z (List.mem_of_getElem? hz)
      replace c0 := keepc hbr c0
      replace c1 := keepc hbr c1
      have HZ := hide hz
      have hlt' : (k : Int) < 4 := by omega
      have hmk2 := run_make_row' (P := Tryd.prog) 22 3 (.int .i64 0) 8 Tryd.underlying22 infoInt rfl .i64 .i64 z.n (by omega) (by omega)
      clear hz hy
      have hg1 : g < wr.heap.size + 1 := by omega
      have hg2 : g < wr.heap.size + 1 + 1 := by omega
      have hg3 : g ≠ wr.heap.size := by omega
      have hg4 : g ≠ wr.heap.size + 1 := by omega
      go_upto_region 5 with fail
      go_cut [24] (fun v wx => ∃ q, wr.heap.size < q ∧ wx.heap[q]? = some (.cells (madeCells #[.int .i64 0] z.n) 3 (0, 0)) ∧ wx.cell? ⟨g, k * 2, none⟩ = some (.int .i64 z.s) ∧ wx.cell? ⟨g, k * 2 + 1, none⟩ = some (.slice (some ⟨q, 0, none⟩) z.n z.n) ∧ wx.cell? ⟨wr.heap.size, 1, none⟩ = some (.slice z.a z.n z.c) ∧
        But g wr wx ∧ (∀ j, j ≠ k * 2 → j ≠ k * 2 + 1 → wx.cell? ⟨g, j, none⟩ = wr.cell? ⟨g, j, none⟩) ∧ (∀ j, wx.frozen? ⟨g, j, none⟩ = wr.frozen? ⟨g, j, none⟩))
      case first =>
        go_region_held3 (fun w' => w'.cell? ⟨wr.heap.size, 0, none⟩ = some (.int .i64 z.s) ∧ w'.cell? ⟨wr.heap.size, 1, none⟩ = some (.slice z.a z.n z.c)) ((first | (go_simp; done) | (simp [*, World.cell?_alloc_at, World.cell?_alloc_past, World.cell?_alloc_some, World.cell?_setCell_far]; done))) (fail)
        go_wp2_with fail
        go_meet
        case rel =>
          obtain ⟨W2, hW2⟩ : ∃ W, W = (wr.setCell ⟨g, k * 2, none⟩ (.int .i64 z.s)).setCell ⟨g, k * 2 + 1, none⟩ (.slice (some ⟨wr.heap.size + 1, 0, none⟩) z.n z.n) := ⟨_, rfl⟩
          have y1' : (wr.setCell ⟨g, k * 2, none⟩ (.int .i64 z.s)).cell? ⟨g, k * 2 + 1, none⟩ = some (.slice y.a y.n y.c) := by rw [World.cell?_setCell_other _ _ _ _ (by simp)]; exact y1
          have e1 : But g wr W2 := by rw [hW2]; exact (But.of_set y0 _).trans (But.of_set y1' _)
          have e2 : W2.heap.size = wr.heap.size := by rw [hW2]; simp [World.setCell]
          have e3 : W2.cell? ⟨g, k * 2, none⟩ = some (.int .i64 z.s) := by rw [hW2, World.cell?_setCell_other _ _ _ _ (by simp)]; exact World.cell?_setCell_same _ _ _ y0
          have e4 : W2.cell? ⟨g, k * 2 + 1, none⟩ = some (.slice (some ⟨wr.heap.size + 1, 0, none⟩) z.n z.n) := by rw [hW2]; exact World.cell?_setCell_same _ _ _ y1'
          have e5 : ∀ j, j ≠ k * 2 → j ≠ k * 2 + 1 → W2.cell? ⟨g, j, none⟩ = wr.cell? ⟨g, j, none⟩ := fun j h1 h2 => by
            rw [hW2, World.cell?_setCell_other _ _ _ _ (by (first | (simp; done) | (simp; omega))), World.cell?_setCell_other _ _ _ _ (by (first | (simp; done) | (simp; omega)))]
          have e6 : ∀ j, W2.frozen? ⟨g, j, none⟩ = wr.frozen? ⟨g, j, none⟩ := fun j => by rw [hW2, World.frozen?_setCell, World.frozen?_setCell]
          rw [← hW2]
          clear hW2
          have hrow := heap_new2 W2 (.cells #[.int .i64 z.s, .slice z.a z.n z.c] 78) (.cells (madeCells #[.int .i64 0] z.n) 3)
          have hbox := heap_new1 W2 (.cells #[.int .i64 z.s, .slice z.a z.n z.c] 78) (.cells (madeCells #[.int .i64 0] z.n) 3)
          rw [e2] at hrow hbox
          have hbw : Below W2.heap.size W2 (((W2.alloc (.cells #[.int .i64 z.s, .slice z.a z.n z.c] 78)).alloc (.cells (madeCells #[.int .i64 0] z.n) 3)).drew) := by (repeat (first | exact Below.refl _ _ | assumption | refine Below.drew ?_ | refine below_drewN ?_ _ | refine belowA ?_ _ | refine belowT ?_ (by assumption) | refine Below.setCell ?_ (by first | (simp; done) | (simp; omega)) _))
          refine ⟨wr.heap.size + 1, by omega, hrow, keepc hbw e3, keepc hbw e4, ?_, e1.trans (But.of_below hbw (by omega)), fun j h1 h2 => ?_, fun j => ?_⟩
          · exact cell_of_row _ _ 1 _ _ _ hbox
          · rw [hbw.cell (by rw [e2]; exact hgl), e5 j h1 h2]
          · rw [hbw.frozen (by rw [e2]; exact hgl), e6 j]
      case rest =>
        obtain ⟨q, hq, hrow, x0, x1, xz, hbut, hcs, hfs⟩ := hcut
        have hbase := hm.base
        have bwc : Below w.heap.size w wc := hbr.trans (hbut.low.mono hbase)
        have izc : Ints wc z.a z.n z.c z.l := (h.ok z (List.mem_of_getElem? HZ.out)).below bwc (Nat.le_refl _)
        have hzl := izc.len
        obtain ⟨w2, r2, g2, b2⟩ := copy_run (P := Tryd.prog) wc.drew 22 22 3 3 Tryd.underlying22 sizeInt (some ⟨q, 0, none⟩) z.a z.n z.n z.n z.c q 0
          (madeCells #[.int .i64 0] z.n).toList 3 hrow (cellsOf z.l) (by rw [cellsOf_len, hzl]; exact (Nat.min_self _).symm) (fun hp => ⟨rfl, (izc.below (B := wc.heap.size) (Below.refl _ _).drew (Nat.le_refl _)).src (by rw [cellsOf_len, hzl] at hp; exact hp)⟩) (by simp [size_madeCells, cellsOf_len, hzl]) (cellsOf_one z.l)
        rw [splice_one _ _ (by simp [size_madeCells, cellsOf_len, hzl])] at g2
        have x1' : w2.cell? ⟨g, k * 2 + 1, none⟩ = some (.slice (some ⟨q, 0, none⟩) z.n z.n) := (b2.cell (p := ⟨g, k * 2 + 1, none⟩) (by simp; omega)).trans x1
        have xz' : w2.cell? ⟨wr.heap.size, 1, none⟩ = some (.slice z.a z.n z.c) := (b2.cell (p := ⟨wr.heap.size, 1, none⟩) hq).trans xz
        have hb2 : But g wr w2 := ⟨hbut.low.trans (((Below.refl g wc).drew).trans (b2.mono (by omega))), Nat.le_trans hbut.size b2.size, fun p hp hpg => by rw [b2.cell (by omega)]; exact hbut.cell p hp hpg⟩
        have hm2 : Mine w2 w.heap.size g 4 4 (Z'.set k ⟨z.s, some ⟨q, 0, none⟩, z.n, z.n, z.l⟩) :=
          hm.upd k hlt ⟨z.s, some ⟨q, 0, none⟩, z.n, z.n, z.l⟩ (Ints.of_row g2 (by omega) izc.wf hzl) (.inr fun x e => by cases e; simp; omega) hb2
            ((b2.cell (p := ⟨g, k * 2, none⟩) (by simp; omega)).trans x0) x1' (fun j h1 h2 => (b2.cell (p := ⟨g, j, none⟩) (by simp; omega)).trans (hcs j h1 h2)) (fun j => (b2.frozen (p := ⟨g, j, none⟩) (by simp; omega)).trans (hfs j))
        have hb3 : Below w.heap.size w w2 := hbr.trans (hb2.low.mono hbase)
        have HR := hide r2
        clear r2 g2 hrow hcs hfs hbut hb2 izc
        go_upto_region 6 with fail
        go_region_held3 (fun w' => w'.cell? ⟨g, k * 2 + 1, none⟩ = some (.slice (some ⟨q, 0, none⟩) z.n z.n) ∧ w'.cell? ⟨wr.heap.size, 1, none⟩ = some (.slice z.a z.n z.c)) ((first | (go_simp; done) | (simp [*, World.cell?_alloc_at, World.cell?_alloc_past, World.cell?_alloc_some, World.cell?_setCell_far]; done))) (rw [HR.out])
        go_wp2
        exact ⟨⟨k + 1, _, by omega, by go_num, hm2, take_set_step HZ.out (by rw [hm.zs.len]; exact hlt) HP.out rfl, HN.out.set k (fun x e => by cases e; simp; have := hbr.size; omega), hb3⟩, by simp [intOf]; omega⟩
    · obtain rfl : k = 4 := by omega
      go_wp2
      go_ret
      have hp := HP.out
      rw [List.take_of_length_le (by rw [hm.zs.len]; omega), List.take_of_length_le (by rw [hlen.out]; omega)] at hp
      exact ⟨⟨g, Z', rfl, hm, hp, HN.out⟩, hbr⟩

end Go.Proofs.YtmjcoehllinoeacDoor
