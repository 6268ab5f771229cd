/- The contract of yard's whole copy; no condition but that the slice reads as four zones of few blocks. -/
import Derived.Test.YtenmamcaldabdaaGreatDoorHallPartsG12
import Derived.Test.YtenmamcaldabdaaGreatDoorHallPartsG13
namespace Go.Proofs.YtenmamcaldabdaaGreatDoor
open Go.RowKit
set_option linter.unusedVariables false
set_option maxRecDepth 100000
set_option linter.unusedSimpArgs false

/-- Four zones that nobody has written yet. -/
def zero4 : List ZV := [⟨0, none, 0, 0, []⟩, ⟨0, none, 0, 0, []⟩, ⟨0, none, 0, 0, []⟩, ⟨0, none, 0, 0, []⟩]

theorem Mine.fresh (w : World) : Mine (w.alloc (.cells (zcells zero4).toArray 76)) w.heap.size w.heap.size 4 4 zero4 := by
  have hc : ∀ i z, zero4[i]? = some z → (w.alloc (.cells (zcells zero4).toArray 76)).cell? ⟨w.heap.size, i * 2, none⟩ = some (.int .i64 z.s) ∧ (w.alloc (.cells (zcells zero4).toArray 76)).cell? ⟨w.heap.size, i * 2 + 1, none⟩ = some (.slice z.a z.n z.c) := by
    intro i z hz
    obtain ⟨z0, z1⟩ := zcells_get zero4 i z hz
    rw [cell_of_row _ _ _ _ _ _ (heap_new w _), cell_of_row _ _ _ _ _ _ (heap_new w _)]
    exact ⟨by simpa using z0, by simpa using z1⟩
  have hz : ∀ z ∈ zero4, z = ⟨0, none, 0, 0, []⟩ := by simp [zero4]
  exact ⟨⟨rfl, Nat.le_refl _, by omega, fun e => (by cases e), .inr ⟨_, 0, rfl, by simp, fun i z hz => by simpa using hc i z hz⟩, fun z h => by rw [hz z h]; exact Ints.nilSlice _⟩,
    Nat.le_refl _, by simp, hc, fun j _ => frozen_row (heap_new w _), fun z h => by rw [hz z h]; exact .inl rfl⟩

theorem take_set_step {Z Z' : List ZV} {k : Nat} {z u : ZV} (hz : Z[k]? = some z) (hk : k < Z'.length) (h : (Z'.take k).map ZV.p = (Z.take k).map ZV.p) (hu : u.p = z.p) : ((Z'.set k u).take (k + 1)).map ZV.p = (Z.take (k + 1)).map ZV.p := by
  rw [take_snoc Z k z hz, take_snoc (Z'.set k u) k u (List.getElem?_set_self hk), List.map_append, List.map_append, List.take_set_of_le (Nat.le_refl k), h]
  simp [hu]

theorem mkz4 (w : World) : (Instr.makeSlice 22 (.int .i64 4) (.int .i64 4)).run Tryz.prog w = .ok (.slice (some ⟨w.heap.size, 0, none⟩) 4 4) (w.alloc (.cells (zcells zero4).toArray 76)) := by kernel_rfl

set_option maxHeartbeats 4000000 in
theorem whole_c (b off c : Nat) (Z : List ZV) (w : World) (h : Zones w (some ⟨b, off, none⟩) 4 c Z) (h8 : ∀ z ∈ Z, z.n ≤ 8)
    (hr : ∀ i z, Z[i]? = some z → w.cell? ⟨b, off + i * 2, none⟩ = some (.int .i64 z.s) ∧ w.cell? ⟨b, off + i * 2 + 1, none⟩ = some (.slice z.a z.n z.c)) :
    Calls Tryz.prog 193 #[.slice (some ⟨b, off, none⟩) 4 c] w fun e w' => (∃ g Z', e = .returned (.slice (some ⟨g, 0, none⟩) 4 4) ∧ Mine w' w.heap.size g 4 4 Z' ∧ Z'.map ZV.p = Z.map ZV.p ∧ NewL w.heap.size Z') ∧ Below w.heap.size w w' := by
  have hlen := hide h.len
  have hmk := mkz4
  have hm0 := Mine.fresh w
  generalize hx : (zcells zero4).toArray = xs at *
  clear hx
  go_enter Tryz.func193, Tryz.ntmps193
  go_wp2
  obtain ⟨g, hg⟩ : ∃ g, g = w.heap.size := ⟨_, rfl⟩
  have hm1 : Mine (w.alloc (.cells xs 76)) w.heap.size g 4 4 zero4 := by rw [hg]; exact hm0
  rw [← hg]
  clear hm0 hg
  go_loopw [11] (fun i wr => ∃ k Z', k ≤ 4 ∧ i = .int .i64 (k : Nat) ∧ Mine wr w.heap.size g 4 4 Z' ∧ (Z'.take k).map ZV.p = (Z.take k).map ZV.p ∧ NewL w.heap.size Z' ∧ Below w.heap.size w wr) (fun i _ => 4 - (intOf i).toNat)
  case atStart => exact ⟨0, zero4, by omega, rfl, hm1, rfl, (by intro z hz x e; simp [zero4] at hz; subst hz; cases e), by (repeat (first | exact Below.refl _ _ | assumption | refine Below.drew ?_ | refine below_drewN ?_ _ | refine belowA ?_ _ | refine belowT ?_ (by assumption) | refine Below.setCell ?_ (by first | (simp; done) | (simp; omega)) _))⟩
  case round =>
    obtain ⟨k, Z', hk, rfl, hm, hp, hnl, hbr⟩ := hrel
    have HN := hide hnl
    clear hnl
    have HP := hide hp
    clear hp hm1
    rename_i wr
    by_cases hlt : k < 4
    · obtain ⟨z, hz⟩ : ∃ z, Z[k]? = some z := ⟨Z[k]'(by rw [hlen.out]; exact hlt), by simp⟩
      obtain ⟨y, hy⟩ : ∃ z, Z'[k]? = some z := ⟨Z'[k]'(by rw [hm.zs.len]; exact hlt), by simp⟩
      obtain ⟨c0, c1⟩ := hr k z hz
      obtain ⟨y0, y1⟩ := hm.cells k y hy
      have s0 := hm.soft (k * 2) (by omega)
      have s1 := hm.soft (k * 2 + 1) (by omega)
      have hgl := hm.lt
      have iz := (h.ok z (List.mem_of_getElem? hz)).below hbr (Nat.le_refl _)
      have hz8 := h8 z (List.mem_of_getElem? hz)
      replace c0 := keepc hbr c0
      replace c1 := keepc hbr c1
      have HZ := hide hz
      have hlt' : (k : Int) < 4 := by omega
      have hmk2 := run_make_row' (P := Tryz.prog) 23 3 (.int .i64 0) 8 Tryz.underlying23 infoInt rfl .i64 .i64 z.n (by omega) (by omega)
      clear hz hy
      have hg1 : g < wr.heap.size + 1 := by omega
      have hg2 : g < wr.heap.size + 1 + 1 := by omega
      have hg3 : g ≠ wr.heap.size := by omega
      have hg4 : g ≠ wr.heap.size + 1 := by omega
      go_upto_region 5 with fail
      go_cut [24] (fun v wx => ∃ q, wr.heap.size < q ∧ wx.heap[q]? = some (.cells (madeCells #[.int .i64 0] z.n) 3 (0, 0)) ∧ wx.cell? ⟨g, k * 2, none⟩ = some (.int .i64 z.s) ∧ wx.cell? ⟨g, k * 2 + 1, none⟩ = some (.slice (some ⟨q, 0, none⟩) z.n z.n) ∧ wx.cell? ⟨wr.heap.size, 1, none⟩ = some (.slice z.a z.n z.c) ∧
        But g wr wx ∧ (∀ j, j ≠ k * 2 → j ≠ k * 2 + 1 → wx.cell? ⟨g, j, none⟩ = wr.cell? ⟨g, j, none⟩) ∧ (∀ j, wx.frozen? ⟨g, j, none⟩ = wr.frozen? ⟨g, j, none⟩))
      case first =>
        go_region_held3 (fun w' => w'.cell? ⟨wr.heap.size, 0, none⟩ = some (.int .i64 z.s) ∧ w'.cell? ⟨wr.heap.size, 1, none⟩ = some (.slice z.a z.n z.c)) ((first | (go_simp; done) | (simp [*, World.cell?_alloc_at, World.cell?_alloc_past, World.cell?_alloc_some, World.cell?_setCell_far]; done))) (fail)
        go_wp2_with fail
        go_meet
        case rel =>
          obtain ⟨W2, hW2⟩ : ∃ W, W = (wr.setCell ⟨g, k * 2, none⟩ (.int .i64 z.s)).setCell ⟨g, k * 2 + 1, none⟩ (.slice (some ⟨wr.heap.size + 1, 0, none⟩) z.n z.n) := ⟨_, rfl⟩
          have y1' : (wr.setCell ⟨g, k * 2, none⟩ (.int .i64 z.s)).cell? ⟨g, k * 2 + 1, none⟩ = some (.slice y.a y.n y.c) := by rw [World.cell?_setCell_other _ _ _ _ (by simp)]; exact y1
          have e1 : But g wr W2 := by rw [hW2]; exact (But.of_set y0 _).trans (But.of_set y1' _)
          have e2 : W2.heap.size = wr.heap.size := by rw [hW2]; simp [World.setCell]
          have e3 : W2.cell? ⟨g, k * 2, none⟩ = some (.int .i64 z.s) := by rw [hW2, World.cell?_setCell_other _ _ _ _ (by simp)]; exact World.cell?_setCell_same _ _ _ y0
          have e4 : W2.cell? ⟨g, k * 2 + 1, none⟩ = some (.slice (some ⟨wr.heap.size + 1, 0, none⟩) z.n z.n) := by rw [hW2]; exact World.cell?_setCell_same _ _ _ y1'
          have e5 : ∀ j, j ≠ k * 2 → j ≠ k * 2 + 1 → W2.cell? ⟨g, j, none⟩ = wr.cell? ⟨g, j, none⟩ := fun j h1 h2 => by
            rw [hW2, World.cell?_setCell_other _ _ _ _ (by (first | (simp; done) | (simp; omega))), World.cell?_setCell_other _ _ _ _ (by (first | (simp; done) | (simp; omega)))]
          have e6 : ∀ j, W2.frozen? ⟨g, j, none⟩ = wr.frozen? ⟨g, j, none⟩ := fun j => by rw [hW2, World.frozen?_setCell, World.frozen?_setCell]
          rw [← hW2]
          clear hW2
          have hrow := heap_new2 W2 (.cells #[.int .i64 z.s, .slice z.a z.n z.c] 76) (.cells (madeCells #[.int .i64 0] z.n) 3)
          have hbox := heap_new1 W2 (.cells #[.int .i64 z.s, .slice z.a z.n z.c] 76) (.cells (madeCells #[.int .i64 0] z.n) 3)
          rw [e2] at hrow hbox
          have hbw : Below W2.heap.size W2 (((W2.alloc (.cells #[.int .i64 z.s, .slice z.a z.n z.c] 76)).alloc (.cells (madeCells #[.int .i64 0] z.n) 3)).drew) := by (repeat (first | exact Below.refl _ _ | assumption | refine Below.drew ?_ | refine below_drewN ?_ _ | refine belowA ?_ _ | refine belowT ?_ (by assumption) | refine Below.setCell ?_ (by first | (simp; done) | (simp; omega)) _))
          refine ⟨wr.heap.size + 1, by omega, hrow, keepc hbw e3, keepc hbw e4, ?_, e1.trans (But.of_below hbw (by omega)), fun j h1 h2 => ?_, fun j => ?_⟩
          · exact cell_of_row _ _ 1 _ _ _ hbox
          · rw [hbw.cell (by rw [e2]; exact hgl), e5 j h1 h2]
          · rw [hbw.frozen (by rw [e2]; exact hgl), e6 j]
      case rest =>
        obtain ⟨q, hq, hrow, x0, x1, xz, hbut, hcs, hfs⟩ := hcut
        have hbase := hm.base
        have bwc : Below w.heap.size w wc := hbr.trans (hbut.low.mono hbase)
        have izc : Ints wc z.a z.n z.c z.l := (h.ok z (List.mem_of_getElem? HZ.out)).below bwc (Nat.le_refl _)
        have hzl := izc.len
        obtain ⟨w2, r2, g2, b2⟩ := copy_run (P := Tryz.prog) wc.drew 23 23 3 3 Tryz.underlying23 sizeInt (some ⟨q, 0, none⟩) z.a z.n z.n z.n z.c q 0
          (madeCells #[.int .i64 0] z.n).toList 3 hrow (cellsOf z.l) (by rw [cellsOf_len, hzl]; exact (Nat.min_self _).symm) (fun hp => ⟨rfl, (izc.below (B := wc.heap.size) (Below.refl _ _).drew (Nat.le_refl _)).src (by rw [cellsOf_len, hzl] at hp; exact hp)⟩) (by simp [size_madeCells, cellsOf_len, hzl]) (cellsOf_one z.l)
        rw [splice_one _ _ (by simp [size_madeCells, cellsOf_len, hzl])] at g2
        have x1' : w2.cell? ⟨g, k * 2 + 1, none⟩ = some (.slice (some ⟨q, 0, none⟩) z.n z.n) := (b2.cell (p := ⟨g, k * 2 + 1, none⟩) (by simp; omega)).trans x1
        have xz' : w2.cell? ⟨wr.heap.size, 1, none⟩ = some (.slice z.a z.n z.c) := (b2.cell (p := ⟨wr.heap.size, 1, none⟩) hq).trans xz
        have hb2 : But g wr w2 := ⟨hbut.low.trans (((Below.refl g wc).drew).trans (b2.mono (by omega))), Nat.le_trans hbut.size b2.size, fun p hp hpg => by rw [b2.cell (by omega)]; exact hbut.cell p hp hpg⟩
        have hm2 : Mine w2 w.heap.size g 4 4 (Z'.set k ⟨z.s, some ⟨q, 0, none⟩, z.n, z.n, z.l⟩) :=
          hm.upd k hlt ⟨z.s, some ⟨q, 0, none⟩, z.n, z.n, z.l⟩ (Ints.of_row g2 (by omega) izc.wf hzl) (.inr fun x e => by cases e; simp; omega) hb2
            ((b2.cell (p := ⟨g, k * 2, none⟩) (by simp; omega)).trans x0) x1' (fun j h1 h2 => (b2.cell (p := ⟨g, j, none⟩) (by simp; omega)).trans (hcs j h1 h2)) (fun j => (b2.frozen (p := ⟨g, j, none⟩) (by simp; omega)).trans (hfs j))
        have hb3 : Below w.heap.size w w2 := hbr.trans (hb2.low.mono hbase)
        have HR := hide r2
        clear r2 g2 hrow hcs hfs hbut hb2 izc
        go_upto_region 6 with fail
        go_region_held3 (fun w' => w'.cell? ⟨g, k * 2 + 1, none⟩ = some (.slice (some ⟨q, 0, none⟩) z.n z.n) ∧ w'.cell? ⟨wr.heap.size, 1, none⟩ = some (.slice z.a z.n z.c)) ((first | (go_simp; done) | (simp [*, World.cell?_alloc_at, World.cell?_alloc_past, World.cell?_alloc_some, World.cell?_setCell_far]; done))) (rw [HR.out])
        go_wp2
        exact ⟨⟨k + 1, _, by omega, by go_num, hm2, take_set_step HZ.out (by rw [hm.zs.len]; exact hlt) HP.out rfl, HN.out.set k (fun x e => by cases e; simp; have := hbr.size; omega), hb3⟩, by simp [intOf]; omega⟩
    · obtain rfl : k = 4 := by omega
      go_wp2
      go_ret
      have hp := HP.out
      rw [List.take_of_length_le (by rw [hm.zs.len]; omega), List.take_of_length_le (by rw [hlen.out]; omega)] at hp
      exact ⟨⟨g, Z', rfl, hm, hp, HN.out⟩, hbr⟩

end Go.Proofs.YtenmamcaldabdaaGreatDoor

/- The contracts of yard's begin, shut and makeRoom; no condition but that the slices read as zones. -/
namespace Go.Proofs.YtenmamcaldabdaaGreatDoor
open Go.RowKit
set_option linter.unusedVariables false
set_option maxRecDepth 100000
set_option linter.unusedSimpArgs false

theorem checkZ_few {s : Int} {l : List Int} (h : checkZ s l = 0) : l.length ≤ 8 := by
  unfold checkZ at h
  split at h
  · omega
  · split at h
    · omega
    · omega
theorem checkZs_few {Z : List ZV} (h : checkZs (Z.map ZV.p) = 0) : ∀ z ∈ Z, z.l.length ≤ 8 := by
  intro z hz
  have hf : firstE (Z.map ZV.p) = 0 := by
    unfold checkZs at h
    split at h
    · omega
    · split at h
      · exact absurd h ‹_›
      · rename_i h1; exact Decidable.not_not.1 h1
  exact checkZ_few (firstE_all _ hf z.p (List.mem_map_of_mem hz))

set_option maxHeartbeats 1000000 in
theorem begin_c (a : Option Addr) (n c : Nat) (Z : List ZV) (k : Int) (w : World) (h : Zones w a n c Z) :
    Calls Tryz.prog 167 #[.slice a n c, .int .i64 k] w fun e w' =>
      ((pre (Z.map ZV.p) k ≠ 0 ∧ e = .returned (.tuple #[.slice none 0 0, .int .i64 (pre (Z.map ZV.p) k)])) ∨
       (pre (Z.map ZV.p) k = 0 ∧ ∃ g Z', e = .returned (.tuple #[.slice (some ⟨g, 0, none⟩) 4 4, .int .i64 0]) ∧ Mine w' w.heap.size g 4 4 Z' ∧ Z'.map ZV.p = Z.map ZV.p ∧ NewL w.heap.size Z')) ∧ Below w.heap.size w w' := by
  by_cases hc : checkZs (Z.map ZV.p) = 0
  · obtain ⟨h4, b, off, rfl, hr⟩ := zs_four h hc
    subst h4
    have h8 : ∀ z ∈ Z, z.n ≤ 8 := fun z hz => by rw [← (h.ok z hz).len]; exact checkZs_few hc z hz
    have HC := hide hc
    by_cases hk : 0 ≤ k ∧ k < 4
    · have hp : pre (Z.map ZV.p) k = 0 := by simp [pre, hc, inB]; omega
      have HP := hide hp
      obtain ⟨hk1, hk2⟩ := hk
      clear hc hp
      go_enter Tryz.func167, Tryz.ntmps167
      go_wp2_with fail
      refine (YCheck_c _ 4 c Z _ h).mono ?_
      rintro e w1 ⟨rfl, hb1⟩
      rw [HC.out]
      go_wp2_with fail
      refine (whole_c b off c Z _ (h.below hb1 (Nat.le_refl _)) h8 (fun i z hz => ⟨keepc hb1 (hr i z hz).1, keepc hb1 (hr i z hz).2⟩)).mono ?_
      rintro e w2 ⟨⟨g, Z', rfl, hm, hp, hnl⟩, hb2⟩
      have HQ := hide hp
      have HN := hide hnl
      clear hp hnl
      go_wp2
      go_ret2
      exact ⟨.inr ⟨HP.out, g, Z', rfl, hm.mono hb1.size, HQ.out, HN.out.mono hb1.size⟩, by (repeat (first | exact Below.refl _ _ | assumption | refine Below.drew ?_ | refine below_drewN ?_ _ | refine belowA ?_ _ | refine belowT ?_ (by assumption) | refine Below.setCell ?_ (by first | (simp; done) | (simp; omega)) _))⟩
    · have hp : pre (Z.map ZV.p) k = 5 := by simp [pre, hc, inB]; omega
      have HP := hide hp
      clear hc hp
      rcases (by omega : k < 0 ∨ 0 ≤ k ∧ 4 ≤ k) with hk1 | ⟨hk1, hk2⟩
      all_goals
        go_enter Tryz.func167, Tryz.ntmps167
        go_wp2_with fail
        refine (YCheck_c _ 4 c Z _ h).mono ?_
        rintro e w1 ⟨rfl, hb1⟩
        rw [HC.out]
        go_wp2
        go_ret2
        exact ⟨.inl ⟨by rw [HP.out]; decide, by rw [HP.out]; rfl⟩, by (repeat (first | exact Below.refl _ _ | assumption | refine Below.drew ?_ | refine below_drewN ?_ _ | refine belowA ?_ _ | refine belowT ?_ (by assumption) | refine Below.setCell ?_ (by first | (simp; done) | (simp; omega)) _))⟩
  · have hp : pre (Z.map ZV.p) k = checkZs (Z.map ZV.p) := by simp [pre, hc]
    have HP := hide hp
    have HC := hide hc
    have hx : (checkZs (Z.map ZV.p) != 0) = true := by simpa using hc
    clear hp hc
    go_enter Tryz.func167, Tryz.ntmps167
    go_wp2_with fail
    refine (YCheck_c a n c Z _ h).mono ?_
    rintro e w1 ⟨rfl, hb1⟩
    generalize hy : checkZs (Z.map ZV.p) = x at *
    clear hy
    go_wp2
    go_ret2
    exact ⟨.inl ⟨by rw [HP.out]; exact HC.out, by rw [HP.out]; rfl⟩, by (repeat (first | exact Below.refl _ _ | assumption | refine Below.drew ?_ | refine below_drewN ?_ _ | refine belowA ?_ _ | refine belowT ?_ (by assumption) | refine Below.setCell ?_ (by first | (simp; done) | (simp; omega)) _))⟩

set_option maxHeartbeats 1000000 in
theorem shut_c (g i : Nat) (z : ZV) (w : World) (h0 : w.cell? ⟨g, i, none⟩ = some (.int .i64 z.s)) (h1 : w.cell? ⟨g, i + 1, none⟩ = some (.slice z.a z.n z.c)) (hf : w.frozen? ⟨g, i, none⟩ = false) (hl : z.l.length = z.n) (hm : z.n ≤ 9223372036854775807) :
    Calls Tryz.prog 197 #[.pointer (some ⟨g, i, none⟩)] w fun e w' => (∃ v, e = .returned v) ∧ Put w w' ⟨g, i, none⟩ (.int .i64 (shutS z.l)) := by
  by_cases hz : z.l = []
  · have hn : ((z.n : Int) == 0) = true := by rw [hz] at hl; simp at hl; simp; omega
    have hs : shutS z.l = 0 := by simp [shutS, hz]
    have HS := hide hs
    clear hs hz hl
    go_enter Tryz.func197, Tryz.ntmps197
    go_wp2
    go_end0
    rw [HS.out]
    exact ⟨⟨_, rfl⟩, ((Put.refl h0).set _).set _⟩
  · have hn : ((z.n : Int) == 0) = false := by
      have : z.l.length ≠ 0 := fun e => hz (List.length_eq_zero_iff.1 e)
      simp; omega
    have hs : shutS z.l = 3 := by simp [shutS, hz]
    have HS := hide hs
    clear hs hz hl
    go_enter Tryz.func197, Tryz.ntmps197
    go_wp2
    go_end0
    rw [HS.out]
    exact ⟨⟨_, rfl⟩, (Put.refl h0).set _⟩

set_option maxHeartbeats 1000000 in
theorem IndexFuncZ_c (b off n c : Nat) (Z : List ZV) (g : Nat) (a : Option Addr) (m d : Nat) (L : List Int) (w : World) (h : Zones w (some ⟨b, off, none⟩) n c Z)
    (hr : ∀ i z, Z[i]? = some z → w.cell? ⟨b, off + i * 2, none⟩ = some (.int .i64 z.s) ∧ w.cell? ⟨b, off + i * 2 + 1, none⟩ = some (.slice z.a z.n z.c))
    (hg : w.cell? ⟨g, 0, none⟩ = some (.slice a m d)) (hi : Ints w a m d L) :
    Calls Tryz.prog 196 #[.slice (some ⟨b, off, none⟩) n c, .func (Fn.func 145) #[] #[.pointer (some ⟨g, 0, none⟩)]] w fun e w' =>
      ((∃ (i : Nat) (z : ZV), e = .returned (.int .i64 i) ∧ Z[i]? = some z ∧ hasB L z.s = true ∧ ∀ (j : Nat) (y : ZV), j < i → Z[j]? = some y → hasB L y.s = false) ∨
       (e = .returned (.int .i64 (-1)) ∧ ∀ (j : Nat) (y : ZV), Z[j]? = some y → hasB L y.s = false)) ∧ Below w.heap.size w w' := by
  have hlen := h.len
  have hmax := h.max
  have hle := h.le
  go_enter Tryz.func196, Tryz.ntmps196
  go_wp2
  go_loopw [8] (fun i wr => ∃ k : Nat, k ≤ n ∧ i = .int .i64 k ∧ (∀ (j : Nat) (y : ZV), j < k → Z[j]? = some y → hasB L y.s = false) ∧ Below w.heap.size w wr) (fun i _ => n - (intOf i).toNat)
  case atStart => exact ⟨0, by omega, rfl, fun j y hj => by omega, Below.refl _ _⟩
  case round =>
    obtain ⟨k, hk, rfl, hb, hbr⟩ := hrel
    have HB := hide hb
    clear hb
    rename_i wr
    by_cases hlt : k < n
    · obtain ⟨z, hz⟩ : ∃ z, Z[k]? = some z := ⟨Z[k]'(by omega), by simp⟩
      obtain ⟨c0, c1⟩ := hr k z hz
      replace c0 := keepc hbr c0
      replace c1 := keepc hbr c1
      have hg1 := keepc hbr hg
      have hi1 := hi.below hbr (Nat.le_refl _)
      have hlt' : (k : Int) < (n : Int) := by omega
      have HZ := hide hz
      clear hr hz
      go_wp2_with (go_at_call 145; refine (yin1_c z.s z.a z.n z.c g a m d L _ (keepc (by (repeat (first | exact Below.refl _ _ | assumption | refine Below.drew ?_ | refine below_drewN ?_ _ | refine belowA ?_ _ | refine belowT ?_ (by assumption) | refine Below.setCell ?_ (by first | (simp; done) | (simp; omega)) _))) hg1) (by refine Ints.below hi1 (B := wr.heap.size) ?_ (Nat.le_refl _); (repeat (first | exact Below.refl _ _ | assumption | refine Below.drew ?_ | refine below_drewN ?_ _ | refine belowA ?_ _ | refine belowT ?_ (by assumption) | refine Below.setCell ?_ (by first | (simp; done) | (simp; omega)) _)))).mono ?_; rintro e w9 ⟨rfl, hb9⟩)
      · go_ret
        exact ⟨.inl ⟨k, z, rfl, HZ.out, ‹_›, HB.out⟩, by (repeat (first | exact Below.refl _ _ | assumption | refine Below.drew ?_ | refine below_drewN ?_ _ | refine belowA ?_ _ | refine belowT ?_ (by assumption) | refine Below.setCell ?_ (by first | (simp; done) | (simp; omega)) _))⟩
      · rename_i hx
        refine ⟨⟨k + 1, by omega, by go_num, fun j y hj hy => ?_, by (repeat (first | exact Below.refl _ _ | assumption | refine Below.drew ?_ | refine below_drewN ?_ _ | refine belowA ?_ _ | refine belowT ?_ (by assumption) | refine Below.setCell ?_ (by first | (simp; done) | (simp; omega)) _))⟩, by simp [intOf]; omega⟩
        by_cases e : j = k
        · subst e
          have := HZ.out.symm.trans hy
          cases this
          exact hx
        · exact HB.out j y (by omega) hy
    · obtain rfl : k = n := by omega
      go_wp2
      go_ret
      exact ⟨.inr ⟨rfl, fun j y hy => HB.out j y (by have := (List.getElem?_eq_some_iff.1 hy).1; omega) hy⟩, hbr⟩

end Go.Proofs.YtenmamcaldabdaaGreatDoor

/- The contract of yard's makeRoom; no condition but that the zones lie in memory of the call's own. -/
namespace Go.Proofs.YtenmamcaldabdaaGreatDoor
open Go.RowKit
set_option linter.unusedVariables false
set_option maxRecDepth 100000
set_option linter.unusedSimpArgs false

theorem fopen_at {Z : List ZV} {i : Nat} {z : ZV} (hz : Z[i]? = some z) (h1 : hasB [1] z.s = true) (hb : ∀ (j : Nat) (y : ZV), j < i → Z[j]? = some y → hasB [1] y.s = false) : fopen Z = some i := by
  obtain ⟨hi, rfl⟩ := List.getElem?_eq_some_iff.1 hz
  unfold fopen
  rw [List.findIdx?_eq_some_iff_getElem]
  refine ⟨hi, by rw [has_1] at h1; exact h1, fun j hj => ?_⟩
  have := hb j Z[j] hj (by simp)
  rw [has_1] at this
  simp [this]
theorem fopen_no {Z : List ZV} (hb : ∀ (j : Nat) (y : ZV), Z[j]? = some y → hasB [1] y.s = false) : fopen Z = none := by
  unfold fopen
  rw [List.findIdx?_eq_none_iff]
  intro z hz
  obtain ⟨j, hj, rfl⟩ := List.mem_iff_getElem.1 hz
  have := hb j Z[j] (by simp)
  rw [has_1] at this
  exact this

/-- What makeRoom leaves. -/
def Room (base g c : Nat) (Z : List ZV) (k : Nat) (y : ZV) (e : Ending) (w' : World) : Prop :=
  (roomP (Z.map ZV.p) y.s = none ∧ e = .returned (.int .i64 7)) ∨
  (∃ Z' u, roomP (Z.map ZV.p) y.s = some (Z'.map ZV.p) ∧ e = .returned (.int .i64 0) ∧ Mine w' base g 4 c Z' ∧ Z'[k]? = some u ∧ u.l = y.l ∧ ∀ B, NewL B Z → NewL B Z')

theorem set_get {Z : List ZV} {k i : Nat} {y z : ZV} (hy : Z[k]? = some y) (hz : Z[i]? = some z) (s : Int) : ∃ u, (Z.set i (z.to s))[k]? = some u ∧ u.l = y.l := by
  have hk := (List.getElem?_eq_some_iff.1 hy).1
  by_cases e : i = k
  · subst e
    rw [hy] at hz
    cases hz
    exact ⟨_, List.getElem?_set_self hk, rfl⟩
  · exact ⟨y, by rw [List.getElem?_set_ne e]; exact hy, rfl⟩

set_option maxHeartbeats 2000000 in
theorem makeRoom_end (base g c : Nat) (Z : List ZV) (k : Nat) (y : ZV) (w : World) (hm : Mine w base g 4 c Z) (hk : k < 4) (hy : Z[k]? = some y) (hs1 : y.s ≠ 1) (hs2 : y.s ≠ 2) (hs4 : y.s ≠ 4) (hs0 : y.s ≠ 0) :
    Calls Tryz.prog 169 #[.slice (some ⟨g, 0, none⟩) 4 c, .int .i64 k] w fun e w' => Room base g c Z k y e w' ∧ But g w w' := by
  obtain ⟨c0, c1⟩ := hm.cells k y hy
  have hk' : (k : Int) < 4 := by omega
  have t1 : (y.s == 1) = false := by simpa using hs1
  have t2 : (y.s == 2) = false := by simpa using hs2
  have t4 : (y.s == 4) = false := by simpa using hs4
  have t0 : (y.s == 0) = false := by simpa using hs0
  have q1 := cnt_le isO Z
  rw [hm.zs.len] at q1
  have HS := hide (show ¬ (y.s = 1 ∨ y.s = 2) ∧ ¬ (y.s = 4 ∨ y.s = 0 ∧ 3 ≤ cnt isA Z) by omega)
  have HY := hide hy
  clear hs1 hs2 hs4 hs0 hy
  go_enter Tryz.func169, Tryz.ntmps169
  go_wp2_with fail
  have b0 := But.refl g w
  refine (yopened_c _ 4 c Z _ hm.zs (by omega)).mono ?_
  rintro e w1 ⟨rfl, hb1⟩
  replace b0 := b0.trans (hm.but hb1)
  replace hm := hm.below hb1
  clear hb1
  by_cases ho : cnt isO Z < 2
  · have ho' : (cnt isO Z : Int) < 2 := by omega
    have HO := hide ho
    clear ho
    go_wp2
    go_ret
    exact ⟨.inr ⟨Z, y, room_some (roomZ_3 HS.out.1 HS.out.2 HO.out), rfl, hm, HY.out, rfl, fun _ h => h⟩, b0⟩
  · have ho' : (2 : Int) ≤ (cnt isO Z : Int) := by omega
    have HO := hide ho
    clear ho
    have i0 : Ints (w1.alloc (.cells #[.int .i64 1] 3)) (some ⟨w1.heap.size, 0, none⟩) 1 1 [1] := Ints.of_row (l := [1]) (heap_new w1 _) (by decide) (by decide) rfl
    go_wp2_with fail
    refine (yin_c _ 1 1 _).mono ?_
    rintro e w2 ⟨rfl, rfl⟩
    go_wp2_with fail
    have bn : Below w1.heap.size w1 ((w1.alloc (.cells #[.int .i64 1] 3)).alloc (.cells #[.slice (some ⟨w1.heap.size, 0, none⟩) 1 1] 23)) := by (repeat (first | exact Below.refl _ _ | assumption | refine Below.drew ?_ | refine below_drewN ?_ _ | refine belowA ?_ _ | refine belowT ?_ (by assumption) | refine Below.setCell ?_ (by first | (simp; done) | (simp; omega)) _))
    refine (IndexFuncZ_c g 0 4 c Z _ _ 1 1 [1] _ (hm.below bn).zs (fun i z hz => by simpa using (hm.below bn).cells i z hz) (by simp) (i0.below (B := (w1.alloc (.cells #[.int .i64 1] 3)).heap.size) (by (repeat (first | exact Below.refl _ _ | assumption | refine Below.drew ?_ | refine below_drewN ?_ _ | refine belowA ?_ _ | refine belowT ?_ (by assumption) | refine Below.setCell ?_ (by first | (simp; done) | (simp; omega)) _))) (Nat.le_refl _))).mono ?_
    rintro e w3 ⟨hres, hb3⟩
    have b13 : Below w1.heap.size w1 w3 := by (repeat (first | exact Below.refl _ _ | assumption | refine Below.drew ?_ | refine below_drewN ?_ _ | refine belowA ?_ _ | refine belowT ?_ (by assumption) | refine Below.setCell ?_ (by first | (simp; done) | (simp; omega)) _))
    replace b0 := b0.trans (hm.but b13)
    replace hm := hm.below b13
    clear hb3 b13 bn i0
    rcases hres with ⟨i, z, rfl, hz, hz1, hbef⟩ | ⟨rfl, hno⟩
    · have HF := hide (fopen_at hz hz1 hbef)
      have HZ := hide hz
      have hi4 : i < 4 := by rw [← hm.zs.len]; exact (List.getElem?_eq_some_iff.1 hz).1
      have hi' : (i : Int) < 4 := by omega
      obtain ⟨e0, e1⟩ := hm.cells i z hz
      have s0 := hm.soft (i * 2) (by omega)
      have iz := hm.zs.ok z (List.mem_of_getElem? hz)
      have zl := hide iz.len
      have zm := iz.max
      have zc := iz.le
      clear hz hz1 hbef iz
      go_wp2_with fail
      refine (shut_c g (i * 2) z _ e0 e1 s0 zl.out (by omega)).mono ?_
      rintro e w4 ⟨⟨v, rfl⟩, hp⟩
      have hm4 := hm.put HZ.out hp
      have b4 := b0.trans (But.of_put hp)
      obtain ⟨u, hu, hul⟩ := set_get HY.out HZ.out (shutS z.l)
      have HU := hide hu
      have HUL := hide hul
      clear hp hu hul
      go_wp2
      go_ret
      refine ⟨.inr ⟨_, u, ?_, rfl, hm4, HU.out, HUL.out, fun _ h => h.to HZ.out _⟩, b4⟩
      rw [room_some (roomZ_5 HS.out.1 HS.out.2 HO.out HF.out HZ.out), set_p, set_to_p, ZV.shut_p, ← shutS_p]
    · have HF := hide (fopen_no hno)
      clear hno
      go_wp2
      go_ret
      exact ⟨.inl ⟨room_none (roomZ_4 HS.out.1 HS.out.2 HO.out HF.out), rfl⟩, b0⟩


set_option maxHeartbeats 2000000 in
theorem makeRoom_empty (base g c : Nat) (Z : List ZV) (k : Nat) (y : ZV) (w : World) (hm : Mine w base g 4 c Z) (hk : k < 4) (hy : Z[k]? = some y) (hs0 : y.s = 0) :
    Calls Tryz.prog 169 #[.slice (some ⟨g, 0, none⟩) 4 c, .int .i64 k] w fun e w' => Room base g c Z k y e w' ∧ But g w w' := by
  obtain ⟨c0, c1⟩ := hm.cells k y hy
  rw [hs0] at c0
  have hk' : (k : Int) < 4 := by omega
  have q1 := cnt_le isO Z
  have q2 := cnt_le isA Z
  rw [hm.zs.len] at q1 q2
  have H0 := hide hs0
  have HY := hide hy
  clear hs0 hy
  go_enter Tryz.func169, Tryz.ntmps169
  go_wp2_with fail
  refine (yactive_c _ 4 c Z _ hm.zs (by omega)).mono ?_
  rintro e w5 ⟨rfl, hb5⟩
  have b0 := hm.but hb5
  replace hm := hm.below hb5
  clear hb5
  by_cases ha : 3 ≤ cnt isA Z
  · have ha' : (3 : Int) ≤ (cnt isA Z : Int) := by omega
    have HA := hide ha
    clear ha
    go_wp2
    go_ret
    exact ⟨.inl ⟨room_none (roomZ_2 (by rw [H0.out]; omega) (.inr ⟨H0.out, HA.out⟩)), rfl⟩, b0⟩
  have ha' : (cnt isA Z : Int) < 3 := by omega
  have HS := hide (show ¬ (y.s = 1 ∨ y.s = 2) ∧ ¬ (y.s = 4 ∨ y.s = 0 ∧ 3 ≤ cnt isA Z) by rw [H0.out]; omega)
  clear ha
  go_wp2_with fail
  refine (yopened_c _ 4 c Z _ hm.zs (by omega)).mono ?_
  rintro e w1 ⟨rfl, hb1⟩
  replace b0 := b0.trans (hm.but hb1)
  replace hm := hm.below hb1
  clear hb1
  by_cases ho : cnt isO Z < 2
  · have ho' : (cnt isO Z : Int) < 2 := by omega
    have HO := hide ho
    clear ho
    go_wp2
    go_ret
    exact ⟨.inr ⟨Z, y, room_some (roomZ_3 HS.out.1 HS.out.2 HO.out), rfl, hm, HY.out, rfl, fun _ h => h⟩, b0⟩
  · have ho' : (2 : Int) ≤ (cnt isO Z : Int) := by omega
    have HO := hide ho
    clear ho
    have i0 : Ints (w1.alloc (.cells #[.int .i64 1] 3)) (some ⟨w1.heap.size, 0, none⟩) 1 1 [1] := Ints.of_row (l := [1]) (heap_new w1 _) (by decide) (by decide) rfl
    go_wp2_with fail
    refine (yin_c _ 1 1 _).mono ?_
    rintro e w2 ⟨rfl, rfl⟩
    go_wp2_with fail
    have bn : Below w1.heap.size w1 ((w1.alloc (.cells #[.int .i64 1] 3)).alloc (.cells #[.slice (some ⟨w1.heap.size, 0, none⟩) 1 1] 23)) := by (repeat (first | exact Below.refl _ _ | assumption | refine Below.drew ?_ | refine below_drewN ?_ _ | refine belowA ?_ _ | refine belowT ?_ (by assumption) | refine Below.setCell ?_ (by first | (simp; done) | (simp; omega)) _))
    refine (IndexFuncZ_c g 0 4 c Z _ _ 1 1 [1] _ (hm.below bn).zs (fun i z hz => by simpa using (hm.below bn).cells i z hz) (by simp) (i0.below (B := (w1.alloc (.cells #[.int .i64 1] 3)).heap.size) (by (repeat (first | exact Below.refl _ _ | assumption | refine Below.drew ?_ | refine below_drewN ?_ _ | refine belowA ?_ _ | refine belowT ?_ (by assumption) | refine Below.setCell ?_ (by first | (simp; done) | (simp; omega)) _))) (Nat.le_refl _))).mono ?_
    rintro e w3 ⟨hres, hb3⟩
    have b13 : Below w1.heap.size w1 w3 := by (repeat (first | exact Below.refl _ _ | assumption | refine Below.drew ?_ | refine below_drewN ?_ _ | refine belowA ?_ _ | refine belowT ?_ (by assumption) | refine Below.setCell ?_ (by first | (simp; done) | (simp; omega)) _))
    replace b0 := b0.trans (hm.but b13)
    replace hm := hm.below b13
    clear hb3 b13 bn i0
    rcases hres with ⟨i, z, rfl, hz, hz1, hbef⟩ | ⟨rfl, hno⟩
    · have HF := hide (fopen_at hz hz1 hbef)
      have HZ := hide hz
      have hi4 : i < 4 := by rw [← hm.zs.len]; exact (List.getElem?_eq_some_iff.1 hz).1
      have hi' : (i : Int) < 4 := by omega
      obtain ⟨e0, e1⟩ := hm.cells i z hz
      have s0 := hm.soft (i * 2) (by omega)
      have iz := hm.zs.ok z (List.mem_of_getElem? hz)
      have zl := hide iz.len
      have zm := iz.max
      have zc := iz.le
      clear hz hz1 hbef iz
      go_wp2_with fail
      refine (shut_c g (i * 2) z _ e0 e1 s0 zl.out (by omega)).mono ?_
      rintro e w4 ⟨⟨v, rfl⟩, hp⟩
      have hm4 := hm.put HZ.out hp
      have b4 := b0.trans (But.of_put hp)
      obtain ⟨u, hu, hul⟩ := set_get HY.out HZ.out (shutS z.l)
      have HU := hide hu
      have HUL := hide hul
      clear hp hu hul
      go_wp2
      go_ret
      refine ⟨.inr ⟨_, u, ?_, rfl, hm4, HU.out, HUL.out, fun _ h => h.to HZ.out _⟩, b4⟩
      rw [room_some (roomZ_5 HS.out.1 HS.out.2 HO.out HF.out HZ.out), set_p, set_to_p, ZV.shut_p, ← shutS_p]
    · have HF := hide (fopen_no hno)
      clear hno
      go_wp2
      go_ret
      exact ⟨.inl ⟨room_none (roomZ_4 HS.out.1 HS.out.2 HO.out HF.out), rfl⟩, b0⟩


set_option maxHeartbeats 2000000 in
theorem makeRoom_c (base g c : Nat) (Z : List ZV) (k : Nat) (y : ZV) (w : World) (hm : Mine w base g 4 c Z) (hk : k < 4) (hy : Z[k]? = some y) :
    Calls Tryz.prog 169 #[.slice (some ⟨g, 0, none⟩) 4 c, .int .i64 k] w fun e w' => Room base g c Z k y e w' ∧ But g w w' := by
  by_cases h0 : y.s = 0
  · exact makeRoom_empty base g c Z k y w hm hk hy h0
  by_cases h4 : y.s = 4
  · obtain ⟨c0, c1⟩ := hm.cells k y hy
    rw [h4] at c0
    have hk' : (k : Int) < 4 := by omega
    have H4 := hide h4
    clear h4 h0 hy
    go_enter Tryz.func169, Tryz.ntmps169
    go_wp2
    go_ret
    exact ⟨.inl ⟨room_none (roomZ_2 (by rw [H4.out]; omega) (.inl H4.out)), rfl⟩, But.refl _ _⟩
  by_cases h12 : y.s = 1 ∨ y.s = 2
  · have HY := hide hy
    have HH := hide h12
    obtain ⟨c0, c1⟩ := hm.cells k y hy
    have hk' : (k : Int) < 4 := by omega
    clear h4 h0 hy
    rcases h12 with h | h
    all_goals
      rw [h] at c0
      clear h
      go_enter Tryz.func169, Tryz.ntmps169
      go_wp2
      go_ret
      exact ⟨.inr ⟨Z, y, room_some (roomZ_1 HH.out), rfl, hm, HY.out, rfl, fun _ h => h⟩, But.refl _ _⟩
  · exact makeRoom_end base g c Z k y w hm hk hy (fun e => h12 (.inl e)) (fun e => h12 (.inr e)) h4 h0

end Go.Proofs.YtenmamcaldabdaaGreatDoor
