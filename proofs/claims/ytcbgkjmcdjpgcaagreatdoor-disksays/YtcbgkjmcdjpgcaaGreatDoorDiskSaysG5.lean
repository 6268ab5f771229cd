/- The contract of cmd.laid; no condition but that the list reads, and the table is as its text lays it. -/
import Derived.Test.YtcbgkjmcdjpgcaaGreatDoorDiskSaysG4
namespace Go.Proofs.YtcbgkjmcdjpgcaaGreatDoor
open Go.RowKit
set_option linter.unusedVariables false
set_option maxRecDepth 100000
set_option linter.unusedSimpArgs false

/-- The single numbers ahead of Data, where a command has them; what is left. -/
def lay3 : List Bool → List Int → Option (List Int × List Int)
  | [], l => some ([], l)
  | false :: hs, l => (lay3 hs l).map fun p => (0 :: p.1, p.2)
  | true :: _, [] => none
  | true :: hs, x :: l => (lay3 hs l).map fun p => (x :: p.1, p.2)
def hasL (k : Nat) : List Bool := [hasZ k, hasA k, hasN k]
/-- The command of this kind that these numbers make. -/
def layC (k : Nat) (l : List Int) : Option PC := match lay3 (hasL k) l with
  | none => none
  | some (s, r) => if hasD k = decide (r ≠ []) then some ⟨k, s.getD 0 0, s.getD 2 0, s.getD 1 0, r⟩ else none

theorem lay3_len : ∀ {hs : List Bool} {l s r : List Int}, lay3 hs l = some (s, r) → s.length = hs.length
  | [], l, s, r, h => by simp [lay3] at h; simp [h.1.symm]
  | false :: hs, l, s, r, h => by
    simp only [lay3, Option.map_eq_some_iff, Prod.mk.injEq] at h
    obtain ⟨⟨s', r'⟩, h1, rfl, rfl⟩ := h
    simp [lay3_len h1]
  | true :: hs, [], s, r, h => by cases h
  | true :: hs, x :: l, s, r, h => by
    simp only [lay3, Option.map_eq_some_iff, Prod.mk.injEq] at h
    obtain ⟨⟨s', r'⟩, h1, rfl, rfl⟩ := h
    simp [lay3_len h1]

def LaidRes (B : Nat) (w' : World) (e : Ending) : Option PC → Prop
  | some b => ∃ a n, e = .returned (.tuple #[cmdV a n n b, .bool true]) ∧ Ints w' a n n b.d ∧ ∀ x, a = some x → B ≤ x.block
  | none => e = .returned (.tuple #[cmdV none 0 0 zeroC, .bool false])

theorem lay_false {hs : List Bool} {l : List Int} {i j : Nat} {s : List Int} (hi : i < hs.length) (hh : hs.getD i false = false)
    (h : lay3 hs l = (lay3 (hs.drop i) (l.drop j)).map (fun p => (s ++ p.1, p.2))) : lay3 hs l = (lay3 (hs.drop (i + 1)) (l.drop j)).map (fun p => ((s ++ [0]) ++ p.1, p.2)) := by
  have hd : hs.drop i = false :: hs.drop (i + 1) := by
    rw [List.drop_eq_getElem_cons hi]
    simp [List.getD, hi] at hh
    rw [hh]
  rw [h, hd, lay3]
  cases lay3 (hs.drop (i + 1)) (l.drop j) <;> simp
theorem lay_none {hs : List Bool} {l : List Int} {i j : Nat} {s : List Int} (hi : i < hs.length) (hh : hs.getD i false = true) (hj : l.length ≤ j)
    (h : lay3 hs l = (lay3 (hs.drop i) (l.drop j)).map (fun p => (s ++ p.1, p.2))) : lay3 hs l = none := by
  have hd : hs.drop i = true :: hs.drop (i + 1) := by
    rw [List.drop_eq_getElem_cons hi]
    simp [List.getD, hi] at hh
    rw [hh]
  rw [h, hd, List.drop_of_length_le hj, lay3]
  rfl
theorem lay_true {hs : List Bool} {l : List Int} {i j : Nat} {s : List Int} (hi : i < hs.length) (hh : hs.getD i false = true) (hj : j < l.length)
    (h : lay3 hs l = (lay3 (hs.drop i) (l.drop j)).map (fun p => (s ++ p.1, p.2))) : lay3 hs l = (lay3 (hs.drop (i + 1)) (l.drop (j + 1))).map (fun p => ((s ++ [l.getD j 0]) ++ p.1, p.2)) := by
  have hd : hs.drop i = true :: hs.drop (i + 1) := by
    rw [List.drop_eq_getElem_cons hi]
    simp [List.getD, hi] at hh
    rw [hh]
  have hl : l.drop j = l.getD j 0 :: l.drop (j + 1) := by
    rw [List.drop_eq_getElem_cons hj]
    simp [List.getD, hj]
  rw [h, hd, hl, lay3]
  cases lay3 (hs.drop (i + 1)) (l.drop (j + 1)) <;> simp

set_option maxRecDepth 100000 in
set_option maxHeartbeats 4000000 in
theorem laid_c (k : Nat) (g off n c : Nat) (l : List Int) (w : World) (hS : Shapes w) (h : Ints w (some ⟨g, off, none⟩) n c l) (hn : n ≤ 100000) (hk1 : 1 ≤ k) (hk2 : k ≤ 12) :
    Calls Tryz.prog 96 #[.int .i64 k, .slice (some ⟨g, off, none⟩) n c] w fun e w' => LaidRes w.heap.size w' e (layC k l) ∧ Below w.heap.size w w' := by
  have s1 := hS.hz k hk2
  have s2 : w.cell? ⟨0, k * 5 + 1 + 1, none⟩ = some (.bool (hasA k)) := hS.ha k hk2
  have s3 : w.cell? ⟨0, k * 5 + 1 + 2, none⟩ = some (.bool (hasN k)) := hS.hn k hk2
  have s4 : w.cell? ⟨0, k * 5 + 1 + 3, none⟩ = some (.bool (hasD k)) := hS.hd k hk2
  have HL : Hid (layC k l = match lay3 [hasZ k, hasA k, hasN k] l with
    | none => none
    | some (s, r) => if hasD k = decide (r ≠ []) then some ⟨k, s.getD 0 0, s.getD 2 0, s.getD 1 0, r⟩ else none) := hide rfl
  have k1 : (1 : Int) ≤ (k : Int) := by omega
  have k2 : (k : Int) < 13 := by omega
  have k0 : (0 : Int) ≤ (k : Int) := by omega
  clear hS
  generalize hasZ k = hz at *
  generalize hasA k = ha at *
  generalize hasN k = hn' at *
  generalize hasD k = hd at *
  replace s1 := fun o => past1 s1 o
  replace s2 := fun o => past1 s2 o
  replace s3 := fun o => past1 s3 o
  replace s4 := fun o => past1 s4 o
  go_enter Tryz.func96, Tryz.ntmps96
  go_wp2
  have bw : Below w.heap.size w (((w.alloc (.cells #[.int .i64 0, .int .i64 0, .int .i64 0, .int .i64 0, .slice none 0 0] 27)).alloc (.cells #[.bool hz, .bool ha, .bool hn', .bool hd] 79)).alloc (.cells #[.int .i64 0, .int .i64 0, .int .i64 0] 97)) := by (repeat (first | exact Below.refl _ _ | assumption | refine Below.drew ?_ | refine below_drewN ?_ _ | refine belowA ?_ _ | refine belowT ?_ (by assumption) | refine Below.setCell ?_ (by first | (simp; done) | (simp; omega)) _))
  have r0 : (((w.alloc (.cells #[.int .i64 0, .int .i64 0, .int .i64 0, .int .i64 0, .slice none 0 0] 27)).alloc (.cells #[.bool hz, .bool ha, .bool hn', .bool hd] 79)).alloc (.cells #[.int .i64 0, .int .i64 0, .int .i64 0] 97)).heap[w.heap.size]? = some (.cells #[.int .i64 0, .int .i64 0, .int .i64 0, .int .i64 0, .slice none 0 0] 27 (0, 0)) := by
    rw [Below.heap_alloc _ _ _ (by simp; omega), Below.heap_alloc _ _ _ (by simp)]
    exact heap_new _ _
  have r1 : (((w.alloc (.cells #[.int .i64 0, .int .i64 0, .int .i64 0, .int .i64 0, .slice none 0 0] 27)).alloc (.cells #[.bool hz, .bool ha, .bool hn', .bool hd] 79)).alloc (.cells #[.int .i64 0, .int .i64 0, .int .i64 0] 97)).heap[w.heap.size + 1]? = some (.cells #[.bool hz, .bool ha, .bool hn', .bool hd] 79 (0, 0)) := by
    rw [Below.heap_alloc _ _ _ (by simp)]
    exact heap_new2 _ _ _
  have r2 : (((w.alloc (.cells #[.int .i64 0, .int .i64 0, .int .i64 0, .int .i64 0, .slice none 0 0] 27)).alloc (.cells #[.bool hz, .bool ha, .bool hn', .bool hd] 79)).alloc (.cells #[.int .i64 0, .int .i64 0, .int .i64 0] 97)).heap[w.heap.size + 1 + 1]? = some (.cells (cellsOf ([] ++ List.replicate (3 - 0) 0)).toArray 97 (0, 0)) := by
    have := heap_new ((w.alloc (.cells #[.int .i64 0, .int .i64 0, .int .i64 0, .int .i64 0, .slice none 0 0] 27)).alloc (.cells #[.bool hz, .bool ha, .bool hn', .bool hd] 79)) (.cells #[.int .i64 0, .int .i64 0, .int .i64 0] 97)
    simpa [cellsOf] using this
  generalize ((w.alloc (.cells #[.int .i64 0, .int .i64 0, .int .i64 0, .int .i64 0, .slice none 0 0] 27)).alloc (.cells #[.bool hz, .bool ha, .bool hn', .bool hd] 79)).alloc (.cells #[.int .i64 0, .int .i64 0, .int .i64 0] 97) = w3 at *
  have hmax := h.max
  have hle := h.le
  have hlen := h.len
  have h0 := h
  replace h := h.below bw (Nat.le_refl _)
  have R0 := hide r0
  have R1 := hide r1
  have R2 := hide r2
  clear r0 r1 r2 s1 s2 s3 s4
  go_loopw [1, 13] (fun x y wr => ∃ (i j : Nat) (s : List Int) (p : Addr), i ≤ 3 ∧ j ≤ n ∧ x = .slice (some p) (n - j) (c - j) ∧ (j < n → p = ⟨g, off + j, none⟩) ∧ y = .int .i64 i ∧ s.length = i ∧ lay3 [hz, ha, hn'] l = (lay3 ([hz, ha, hn'].drop i) (l.drop j)).map (fun p => (s ++ p.1, p.2)) ∧ wr.heap[w.heap.size + 1 + 1]? = some (.cells (cellsOf (s ++ List.replicate (3 - i) 0)).toArray 97 (0, 0)) ∧ Below (w.heap.size + 1 + 1) w3 wr) (fun _ y _ => 3 - (intOf y).toNat)
  case atStart =>
    refine ⟨0, 0, [], ⟨g, off, none⟩, by omega, by omega, by simp, fun _ => rfl, rfl, rfl, ?_, R2.out, Below.refl _ _⟩
    simp
  case round =>
    obtain ⟨i, j, s, p, hi, hj, rfl, hp, rfl, hsi, hlay, hrow, hbr⟩ := hrel
    rename_i wr
    have HLAY := hide hlay
    have HROW := hide hrow
    clear hlay hrow
    by_cases hlt : i < 3
    · have i1 : (i : Int) < 3 := by omega
      have i0 : (0 : Int) ≤ (i : Int) := by omega
      have i4 : (i : Int) < 4 := by omega
      have hc : wr.cell? ⟨w.heap.size + 1, i, none⟩ = some (.bool ([hz, ha, hn'].getD i false)) := by
        rw [hbr.cell (p := ⟨w.heap.size + 1, i, none⟩) (by simp), cell_of_row _ _ _ _ _ _ R1.out]
        rcases (by omega : i = 0 ∨ i = 1 ∨ i = 2) with rfl | rfl | rfl <;> rfl
      cases hh : [hz, ha, hn'].getD i false
      · rw [hh] at hc
        go_wp2
        refine ⟨⟨i + 1, j, s ++ [0], p, by omega, by omega, rfl, hp, by go_num, by simp [hsi], lay_false hlt hh HLAY.out, ?_, hbr⟩, by simp [intOf]; omega⟩
        rw [HROW.out]
        obtain ⟨m, hm⟩ : ∃ m, 3 - i = m + 1 := ⟨3 - i - 1, by omega⟩
        rw [hm, show 3 - (i + 1) = m by omega, List.replicate_succ]
        simp
      · rw [hh] at hc
        by_cases hjn : j < n
        · obtain ⟨m, hm⟩ : ∃ m, n - j = m + 1 := ⟨n - j - 1, by omega⟩
          obtain ⟨d, hd'⟩ : ∃ d, c - j = d + 1 := ⟨c - j - 1, by omega⟩
          have m0 : (((m + 1 : Nat) : Int) == 0) = false := by simp; omega
          have m1 : (0 : Int) < ((m + 1 : Nat) : Int) := by omega
          have m2 : (1 : Int) ≤ ((m + 1 : Nat) : Int) := by omega
          have m3 : ((m + 1 : Nat) : Int) ≤ ((d + 1 : Nat) : Int) := by omega
          obtain rfl := hp hjn
          have hcl : wr.cell? ⟨g, off + j, none⟩ = some (.int .i64 (l.getD j 0)) := by
            rcases h0.row with h0 | ⟨b, o, e, hb, hc'⟩
            · omega
            · cases e
              rw [hbr.cell (p := ⟨g, off + j, none⟩) (by simp; omega)]
              exact keepc bw (hc' j hjn)
          have hcr : wr.cell? ⟨w.heap.size + 1 + 1, i, none⟩ = some (.int .i64 0) := by
            rw [cell_of_row _ _ _ _ _ _ HROW.out]
            obtain ⟨q, hq⟩ : ∃ q, 3 - i = q + 1 := ⟨3 - i - 1, by omega⟩
            rw [hq]
            simp [cellsOf, ← hsi, List.replicate_succ]
          have hfr : wr.frozen? ⟨w.heap.size + 1 + 1, i, none⟩ = false := frozen_rowQ HROW.out
          rw [hm, hd']
          have HT := hide (lay_true (j := j) hlt hh (by omega) HLAY.out)
          have HC := hide (cells_set s 3 (l.getD j 0) (by omega))
          generalize l.getD j 0 = x at *
          go_wp2
          go_region
          go_wp2
          refine ⟨⟨i + 1, j + 1, s ++ [x], if d = 0 then ⟨g, off + j, none⟩ else ⟨g, off + j + 1, none⟩, by omega, by omega, ?_, ?_, by go_num, by simp [hsi], HT.out, ?_, ?_⟩, by simp [intOf]; omega⟩
          · rw [show n - (j + 1) = m by omega, show c - (j + 1) = d by omega]
            congr 1
            split <;> rfl
          · intro hj2
            rw [if_neg (by omega)]
            rfl
          · have := Lib.heap_setCell_same (i := i) HROW.out (.int .i64 x)
            have h2 := HC.out
            rw [hsi] at h2
            rw [h2] at this
            refine Eq.trans (show _ = (wr.setCell ⟨w.heap.size + 1 + 1, i, none⟩ (.int .i64 x)).heap[w.heap.size + 1 + 1]? from rfl) (this.trans ?_)
            simp [hsi]
          · exact (hbr.setCell (Nat.le_refl _) _).drew
        · obtain rfl : j = n := by omega
          have HN := hide (lay_none (j := j) hlt hh (by omega) HLAY.out)
          have c0 : wr.heap[w.heap.size]? = some (.cells #[.int .i64 0, .int .i64 0, .int .i64 0, .int .i64 0, .slice none 0 0] 27 (0, 0)) := by
            rw [hbr.block _ (by omega)]
            exact R0.out
          have f0 : ∀ i, wr.frozen? ⟨w.heap.size, i, none⟩ = false := fun i => frozen_rowQ c0
          have d0 : ∀ i, wr.cell? ⟨w.heap.size, i, none⟩ = _ := fun i => cell_of_row _ _ _ _ _ _ c0
          rw [Nat.sub_self]
          go_wp2
          refine bodyPost_ret (v := .tuple #[cmdV none 0 0 zeroC, .bool false]) (by simp [results, Tryz.results96, go_sem, cmdV, zeroC, d0]) rfl ⟨?_, ?_⟩
          · rw [HL.out, HN.out]
            exact rfl
          · have b2 : Below w.heap.size w wr := bw.trans (hbr.mono (by omega))
            exact ((((b2.setCell (p := ⟨w.heap.size, 0, none⟩) (Nat.le_refl _) _).setCell (p := ⟨w.heap.size, 1, none⟩) (Nat.le_refl _) _).setCell (p := ⟨w.heap.size, 2, none⟩) (Nat.le_refl _) _).setCell (p := ⟨w.heap.size, 3, none⟩) (Nat.le_refl _) _).setCell (p := ⟨w.heap.size, 4, none⟩) (Nat.le_refl _) _
    · obtain rfl : i = 3 := by omega
      have hlay : lay3 [hz, ha, hn'] l = some (s, l.drop j) := by
        rw [HLAY.out]
        simp [lay3]
      have hrow := HROW.out
      obtain ⟨x0, x1, x2, rfl⟩ : ∃ x0 x1 x2, s = [x0, x1, x2] := by
        rcases s with _ | ⟨x0, _ | ⟨x1, _ | ⟨x2, _ | ⟨x3, s⟩⟩⟩⟩ <;> simp at hsi
        exact ⟨x0, x1, x2, rfl⟩
      have e0 : wr.cell? ⟨w.heap.size + 1 + 1, 0, none⟩ = some (.int .i64 x0) := by rw [cell_of_row _ _ _ _ _ _ hrow]; rfl
      have e1 : wr.cell? ⟨w.heap.size + 1 + 1, 1, none⟩ = some (.int .i64 x1) := by rw [cell_of_row _ _ _ _ _ _ hrow]; rfl
      have e2 : wr.cell? ⟨w.heap.size + 1 + 1, 2, none⟩ = some (.int .i64 x2) := by rw [cell_of_row _ _ _ _ _ _ hrow]; rfl
      have e3 : wr.cell? ⟨w.heap.size + 1, 3, none⟩ = some (.bool hd) := by
        rw [hbr.cell (p := ⟨w.heap.size + 1, 3, none⟩) (by simp), cell_of_row _ _ _ _ _ _ R1.out]
        rfl
      have c0 : wr.heap[w.heap.size]? = some (.cells #[.int .i64 0, .int .i64 0, .int .i64 0, .int .i64 0, .slice none 0 0] 27 (0, 0)) := by
        rw [hbr.block _ (by omega)]
        exact R0.out
      have bwr : Below w.heap.size w wr := bw.trans (hbr.mono (by omega))
      have hdr : decide ((0 : Int) < ((n - j : Nat) : Int)) = decide (l.drop j ≠ []) := by
        rw [Bool.eq_iff_iff]
        simp
        omega
      have hIr : Ints wr (some p) (n - j) (c - j) (l.drop j) := by
        refine ⟨by simp; omega, by omega, by omega, (fun e => by cases e), ?_, fun x hx => h0.wf x (List.mem_of_mem_drop hx)⟩
        by_cases hj2 : j < n
        · obtain rfl := hp hj2
          rcases h0.row with h00 | ⟨b, o, e, hb, hc'⟩
          · omega
          · cases e
            refine .inr ⟨_, _, rfl, Nat.lt_of_lt_of_le hb bwr.size, fun i hi => ?_⟩
            have := keepc bwr (hc' (j + i) (by omega))
            rw [Nat.add_assoc, this]
            simp [List.getD]
        · exact .inl (by omega)
      have HL2 : Hid (layC k l = if hd = decide (l.drop j ≠ []) then some ⟨k, x0, x2, x1, l.drop j⟩ else none) := hide (by rw [HL.out, hlay]; rfl)
      have n3 : n - j ≤ 100000 := by omega
      clear HL hlay HLAY HROW hrow h hbr R0 R1 R2 h0 hp
      generalize l.drop j = r at *
      generalize n - j = m at *
      generalize c - j = cc at *
      generalize decide (r ≠ []) = dd at hdr HL2
      have f0 : ∀ i, wr.frozen? ⟨w.heap.size, i, none⟩ = false := fun i => frozen_rowQ c0
      have d0 : ∀ i, wr.cell? ⟨w.heap.size, i, none⟩ = _ := fun i => cell_of_row _ _ _ _ _ _ c0
      have hlt9 : w.heap.size < wr.heap.size := (Array.getElem?_eq_some_iff.1 c0).1
      have C0 := hide c0
      clear c0
      by_cases hm0 : 0 < m
      · obtain rfl : dd = true := by rw [← hdr]; simpa using hm0
        clear hdr
        cases hd
        · skip
          go_wp2
          refine bodyPost_ret (v := .tuple #[cmdV none 0 0 zeroC, .bool false]) (by simp [results, Tryz.results96, go_sem, cmdV, zeroC, d0]) rfl ⟨?_, ?_⟩
          · rw [HL2.out]
            exact rfl
          · exact ((((bwr.setCell (p := ⟨w.heap.size, 0, none⟩) (Nat.le_refl _) _).setCell (p := ⟨w.heap.size, 1, none⟩) (Nat.le_refl _) _).setCell (p := ⟨w.heap.size, 2, none⟩) (Nat.le_refl _) _).setCell (p := ⟨w.heap.size, 3, none⟩) (Nat.le_refl _) _).setCell (p := ⟨w.heap.size, 4, none⟩) (Nat.le_refl _) _
        · skip
          go_wp2
          go_region_held3 (fun w' => w'.cell? ⟨w.heap.size + 1 + 1, 0, none⟩ = some (.int .i64 x0) ∧ w'.cell? ⟨w.heap.size + 1 + 1, 1, none⟩ = some (.int .i64 x1) ∧ w'.cell? ⟨w.heap.size + 1 + 1, 2, none⟩ = some (.int .i64 x2)) ((first | (go_simp; done) | (simp [*, World.cell?_alloc_at, World.cell?_alloc_past, World.cell?_alloc_some, World.cell?_setCell_far]; done))) (first | (go_at_call 112; refine (cwhole_c (some p) m cc r _ (by refine Ints.below hIr (B := wr.heap.size) ?_ (Nat.le_refl _); (repeat (first | exact Below.refl _ _ | assumption | refine Below.drew ?_ | refine below_drewN ?_ _ | refine belowA ?_ _ | refine belowT ?_ (by assumption) | refine Below.setCell ?_ (by first | (simp; done) | (simp; omega)) _))) n3).mono ?_; rintro e w9 ⟨⟨b9, rfl, i9, x9⟩, hb9⟩; (have r9 := (hb9.block w.heap.size hlt9).trans C0.out); (have f9 := fun i => frozen_rowQ (j := i) r9); (have d9 := fun i => cell_of_row w9 w.heap.size i _ _ _ r9); (have R9 := hide r9); clear r9; (have f0 := keepc hb9 (p := ⟨w.heap.size + 1 + 1, 0, none⟩) (u := .int .i64 x0) (by (first | (go_simp; done) | (simp [*, World.cell?_alloc_at, World.cell?_alloc_past, World.cell?_alloc_some, World.cell?_setCell_far]; done)))); (have f1 := keepc hb9 (p := ⟨w.heap.size + 1 + 1, 1, none⟩) (u := .int .i64 x1) (by (first | (go_simp; done) | (simp [*, World.cell?_alloc_at, World.cell?_alloc_past, World.cell?_alloc_some, World.cell?_setCell_far]; done)))); (have f2 := keepc hb9 (p := ⟨w.heap.size + 1 + 1, 2, none⟩) (u := .int .i64 x2) (by (first | (go_simp; done) | (simp [*, World.cell?_alloc_at, World.cell?_alloc_past, World.cell?_alloc_some, World.cell?_setCell_far]; done))))))
          go_wp2
          have hne : ∀ x, b9 = some x → x.block ≠ w.heap.size := fun x e => by
            have := x9 x e
            simp at this
            omega
          refine bodyPost_ret (v := .tuple #[cmdV b9 m m ⟨k, x0, x2, x1, r⟩, .bool true]) (by simp [results, Tryz.results96, go_sem, cmdV, d9]) rfl ⟨?_, ?_⟩
          · rw [HL2.out]
            refine ⟨_, _, rfl, ?_, fun x e => ?_⟩
            · exact ((((i9.setCell _ _ hne).setCell _ _ hne).setCell _ _ hne).setCell _ _ hne).setCell _ _ hne
            · have := x9 x e
              simp at this
              omega
          · have b9' : Below w.heap.size w w9 := by (repeat (first | exact Below.refl _ _ | assumption | refine Below.drew ?_ | refine below_drewN ?_ _ | refine belowA ?_ _ | refine belowT ?_ (by assumption) | refine Below.setCell ?_ (by first | (simp; done) | (simp; omega)) _))
            exact ((((b9'.setCell (p := ⟨w.heap.size, 0, none⟩) (Nat.le_refl _) _).setCell (p := ⟨w.heap.size, 1, none⟩) (Nat.le_refl _) _).setCell (p := ⟨w.heap.size, 2, none⟩) (Nat.le_refl _) _).setCell (p := ⟨w.heap.size, 3, none⟩) (Nat.le_refl _) _).setCell (p := ⟨w.heap.size, 4, none⟩) (Nat.le_refl _) _
      · obtain rfl : m = 0 := by omega
        obtain rfl : dd = false := by rw [← hdr]; rfl
        clear hdr
        cases hd
        · skip
          go_wp2
          go_region_held3 (fun w' => w'.cell? ⟨w.heap.size + 1 + 1, 0, none⟩ = some (.int .i64 x0) ∧ w'.cell? ⟨w.heap.size + 1 + 1, 1, none⟩ = some (.int .i64 x1) ∧ w'.cell? ⟨w.heap.size + 1 + 1, 2, none⟩ = some (.int .i64 x2)) ((first | (go_simp; done) | (simp [*, World.cell?_alloc_at, World.cell?_alloc_past, World.cell?_alloc_some, World.cell?_setCell_far]; done))) (first | (go_at_call 112; refine (cwhole_c (some p) 0 cc r _ (by refine Ints.below hIr (B := wr.heap.size) ?_ (Nat.le_refl _); (repeat (first | exact Below.refl _ _ | assumption | refine Below.drew ?_ | refine below_drewN ?_ _ | refine belowA ?_ _ | refine belowT ?_ (by assumption) | refine Below.setCell ?_ (by first | (simp; done) | (simp; omega)) _))) n3).mono ?_; rintro e w9 ⟨⟨b9, rfl, i9, x9⟩, hb9⟩; (have r9 := (hb9.block w.heap.size hlt9).trans C0.out); (have f9 := fun i => frozen_rowQ (j := i) r9); (have d9 := fun i => cell_of_row w9 w.heap.size i _ _ _ r9); (have R9 := hide r9); clear r9; (have f0 := keepc hb9 (p := ⟨w.heap.size + 1 + 1, 0, none⟩) (u := .int .i64 x0) (by (first | (go_simp; done) | (simp [*, World.cell?_alloc_at, World.cell?_alloc_past, World.cell?_alloc_some, World.cell?_setCell_far]; done)))); (have f1 := keepc hb9 (p := ⟨w.heap.size + 1 + 1, 1, none⟩) (u := .int .i64 x1) (by (first | (go_simp; done) | (simp [*, World.cell?_alloc_at, World.cell?_alloc_past, World.cell?_alloc_some, World.cell?_setCell_far]; done)))); (have f2 := keepc hb9 (p := ⟨w.heap.size + 1 + 1, 2, none⟩) (u := .int .i64 x2) (by (first | (go_simp; done) | (simp [*, World.cell?_alloc_at, World.cell?_alloc_past, World.cell?_alloc_some, World.cell?_setCell_far]; done))))))
          go_wp2
          have hne : ∀ x, b9 = some x → x.block ≠ w.heap.size := fun x e => by
            have := x9 x e
            simp at this
            omega
          refine bodyPost_ret (v := .tuple #[cmdV b9 0 0 ⟨k, x0, x2, x1, r⟩, .bool true]) (by simp [results, Tryz.results96, go_sem, cmdV, d9]) rfl ⟨?_, ?_⟩
          · rw [HL2.out]
            refine ⟨_, _, rfl, ?_, fun x e => ?_⟩
            · exact ((((i9.setCell _ _ hne).setCell _ _ hne).setCell _ _ hne).setCell _ _ hne).setCell _ _ hne
            · have := x9 x e
              simp at this
              omega
          · have b9' : Below w.heap.size w w9 := by (repeat (first | exact Below.refl _ _ | assumption | refine Below.drew ?_ | refine below_drewN ?_ _ | refine belowA ?_ _ | refine belowT ?_ (by assumption) | refine Below.setCell ?_ (by first | (simp; done) | (simp; omega)) _))
            exact ((((b9'.setCell (p := ⟨w.heap.size, 0, none⟩) (Nat.le_refl _) _).setCell (p := ⟨w.heap.size, 1, none⟩) (Nat.le_refl _) _).setCell (p := ⟨w.heap.size, 2, none⟩) (Nat.le_refl _) _).setCell (p := ⟨w.heap.size, 3, none⟩) (Nat.le_refl _) _).setCell (p := ⟨w.heap.size, 4, none⟩) (Nat.le_refl _) _
        · skip
          go_wp2
          refine bodyPost_ret (v := .tuple #[cmdV none 0 0 zeroC, .bool false]) (by simp [results, Tryz.results96, go_sem, cmdV, zeroC, d0]) rfl ⟨?_, ?_⟩
          · rw [HL2.out]
            exact rfl
          · exact ((((bwr.setCell (p := ⟨w.heap.size, 0, none⟩) (Nat.le_refl _) _).setCell (p := ⟨w.heap.size, 1, none⟩) (Nat.le_refl _) _).setCell (p := ⟨w.heap.size, 2, none⟩) (Nat.le_refl _) _).setCell (p := ⟨w.heap.size, 3, none⟩) (Nat.le_refl _) _).setCell (p := ⟨w.heap.size, 4, none⟩) (Nat.le_refl _) _

end Go.Proofs.YtcbgkjmcdjpgcaaGreatDoor

/- The contract of cmd.read; no condition but that the pieces read, and the package-level variables are as their texts lay them. -/
namespace Go.Proofs.YtcbgkjmcdjpgcaaGreatDoor
open Go.RowKit
set_option linter.unusedVariables false
set_option maxRecDepth 100000
set_option linter.unusedSimpArgs false

/-- The command that the pieces tell. -/
def readC (ts : List ByteArray) : Option PC := match ts with
  | [] => none
  | t :: r => match kindOfS t with
    | none => none
    | some k => match nums (r.map (·.data.toList)) with
      | none => none
      | some l => layC k l

theorem five_below {w w' : World} (h : Below w.heap.size w w') (v0 v1 v2 v3 v4 : Value) : Below w.heap.size w (((((w'.setCell ⟨w.heap.size, 0, none⟩ v0).setCell ⟨w.heap.size, 1, none⟩ v1).setCell ⟨w.heap.size, 2, none⟩ v2).setCell ⟨w.heap.size, 3, none⟩ v3).setCell ⟨w.heap.size, 4, none⟩ v4) :=
  ((((h.setCell (p := ⟨w.heap.size, 0, none⟩) (Nat.le_refl _) _).setCell (p := ⟨w.heap.size, 1, none⟩) (Nat.le_refl _) _).setCell (p := ⟨w.heap.size, 2, none⟩) (Nat.le_refl _) _).setCell (p := ⟨w.heap.size, 3, none⟩) (Nat.le_refl _) _).setCell (p := ⟨w.heap.size, 4, none⟩) (Nat.le_refl _) _
theorem Ints.five {w : World} {a : Option Addr} {n c : Nat} {l : List Int} (h : Ints w a n c l) (g : Nat) (hne : ∀ x, a = some x → x.block ≠ g) (v0 v1 v2 v3 v4 : Value) : Ints (((((w.setCell ⟨g, 0, none⟩ v0).setCell ⟨g, 1, none⟩ v1).setCell ⟨g, 2, none⟩ v2).setCell ⟨g, 3, none⟩ v3).setCell ⟨g, 4, none⟩ v4) a n c l :=
  ((((h.setCell _ _ hne).setCell _ _ hne).setCell _ _ hne).setCell _ _ hne).setCell _ _ hne

set_option maxRecDepth 100000 in
set_option maxHeartbeats 1000000 in
theorem read_c (g n : Nat) (t : ByteArray) (ts : List ByteArray) (w : World) (hE : Env w) (hl : ts.length = n) (hn : n ≤ 100000 - 1)
    (hsz : ∀ t ∈ ts, t.size ≤ 100000) (ht : w.cell? ⟨g, 0, none⟩ = some (.string t))
    (hr : ∀ i, i < n → w.cell? ⟨g, 1 + i, none⟩ = some (.string (ts.getD i ByteArray.empty))) :
    Calls Tryz.prog 72 #[.slice (some ⟨g, 0, none⟩) (n + 1) (n + 1)] w fun e w' => LaidRes w.heap.size w' e (readC (t :: ts)) ∧ Below w.heap.size w w' := by
  have n0 : (0 : Int) < ((n : Int) + 1) := by omega
  have n1 : (1 : Int) ≤ ((n : Int) + 1) := by omega
  have n2 : (n : Int) ≤ 100000 := by omega
  have ht1 := fun o => past1 ht o
  have hE1 := fun o => hE.below (belowA (Below.refl w.heap.size w) o)
  go_enter Tryz.func72, Tryz.ntmps72
  go_wp2_with fail
  refine (kindOf_c t _ (hE1 _).shp).mono ?_
  rintro e w1 ⟨rfl, rfl⟩
  cases hk : kindOfS t with
  | none =>
    have HR : Hid (readC (t :: ts) = none) := hide (by simp [readC, hk])
    unfold kindV
    go_wp2
    refine bodyPost_ret (v := .tuple #[cmdV none 0 0 zeroC, .bool false]) (by simp [results, Tryz.results72, go_sem, cmdV, zeroC]) rfl ⟨?_, ?_⟩
    · rw [HR.out]
      exact rfl
    · (repeat (first | exact Below.refl _ _ | assumption | refine Below.drew ?_ | refine below_drewN ?_ _ | refine belowA ?_ _ | refine belowT ?_ (by assumption) | refine Below.setCell ?_ (by first | (simp; done) | (simp; omega)) _))
  | some k =>
    obtain ⟨_, hk1, hk2⟩ := kindOfS_some hk
    have HR : Hid (readC (t :: ts) = match nums (ts.map (·.data.toList)) with
      | none => none
      | some l => layC k l) := hide (by simp [readC, hk])
    have key : ∀ p : Addr, (0 < n → p = ⟨g, 1, none⟩) → p.spot = none → Calls Tryz.prog 95 #[.slice (some p) n n] (w.alloc (.cells #[.int .i64 0, .int .i64 0, .int .i64 0, .int .i64 0, .slice none 0 0] 27)) fun e w' => NumsRes (w.heap.size + 1) w' n e (nums (ts.map (·.data.toList))) ∧ Below (w.heap.size + 1) (w.alloc (.cells #[.int .i64 0, .int .i64 0, .int .i64 0, .int .i64 0, .slice none 0 0] 27)) w' := by
      intro p hp hs
      obtain ⟨pb, po, ps⟩ := p
      obtain rfl : ps = none := hs
      have := numbers_c pb po n n ts (w.alloc (.cells #[.int .i64 0, .int .i64 0, .int .i64 0, .int .i64 0, .slice none 0 0] 27)) (hE1 _) hl (by omega) hsz (fun i hi => by
        cases hp (by omega)
        exact past1 (hr i hi) _)
      rw [show (w.alloc (.cells #[.int .i64 0, .int .i64 0, .int .i64 0, .int .i64 0, .slice none 0 0] 27)).heap.size = w.heap.size + 1 by simp] at this
      exact this
    have KEY := hide key
    clear key hr
    unfold kindV
    dsimp only
    cases hnm : nums (ts.map (·.data.toList)) with
    | none =>
      rw [hnm] at HR
      have K2 := KEY.out
      rw [hnm] at K2
      have KEY2 := hide K2
      clear K2 KEY hnm
      rcases Nat.eq_zero_or_pos n with h00 | hpos
      · have KEY3 := hide (KEY2.out ⟨g, 0, none⟩ (fun h => by omega) rfl)
        rw [h00] at KEY3 ⊢
        clear KEY2 hl hsz h00
        go_wp2_with fail
        refine KEY3.out.mono ?_
        rintro e w2 ⟨rfl, hb2⟩
        have c0 : ∀ i, w2.cell? ⟨w.heap.size, i, none⟩ = _ := fun i => (hb2.cell (p := ⟨w.heap.size, i, none⟩) (by simp)).trans (cell_of_row _ _ _ _ _ _ (heap_new w (.cells #[.int .i64 0, .int .i64 0, .int .i64 0, .int .i64 0, .slice none 0 0] 27)))
        have f0 : ∀ i, w2.frozen? ⟨w.heap.size, i, none⟩ = false := fun i => (hb2.frozen (p := ⟨w.heap.size, i, none⟩) (by simp)).trans (frozen_rowQ (heap_new w (.cells #[.int .i64 0, .int .i64 0, .int .i64 0, .int .i64 0, .slice none 0 0] 27)))
        unfold noNums
        go_wp2
        refine bodyPost_ret (v := .tuple #[cmdV none 0 0 zeroC, .bool false]) (by simp [results, Tryz.results72, go_sem, cmdV, zeroC, c0]) rfl ⟨?_, five_below ((belowA (Below.refl _ _) _).trans (hb2.mono (by omega))) _ _ _ _ _⟩
        rw [HR.out]
        exact rfl
      · have KEY3 := hide (KEY2.out ⟨g, 1, none⟩ (fun h => rfl) rfl)
        clear KEY2 hl hsz
        go_wp2_with fail
        refine KEY3.out.mono ?_
        rintro e w2 ⟨rfl, hb2⟩
        have c0 : ∀ i, w2.cell? ⟨w.heap.size, i, none⟩ = _ := fun i => (hb2.cell (p := ⟨w.heap.size, i, none⟩) (by simp)).trans (cell_of_row _ _ _ _ _ _ (heap_new w (.cells #[.int .i64 0, .int .i64 0, .int .i64 0, .int .i64 0, .slice none 0 0] 27)))
        have f0 : ∀ i, w2.frozen? ⟨w.heap.size, i, none⟩ = false := fun i => (hb2.frozen (p := ⟨w.heap.size, i, none⟩) (by simp)).trans (frozen_rowQ (heap_new w (.cells #[.int .i64 0, .int .i64 0, .int .i64 0, .int .i64 0, .slice none 0 0] 27)))
        unfold noNums
        go_wp2
        refine bodyPost_ret (v := .tuple #[cmdV none 0 0 zeroC, .bool false]) (by simp [results, Tryz.results72, go_sem, cmdV, zeroC, c0]) rfl ⟨?_, five_below ((belowA (Below.refl _ _) _).trans (hb2.mono (by omega))) _ _ _ _ _⟩
        rw [HR.out]
        exact rfl
    | some l =>
      rw [hnm] at HR
      have K2 := KEY.out
      rw [hnm] at K2
      have KEY2 := hide K2
      clear K2 KEY hnm
      rcases Nat.eq_zero_or_pos n with h00 | hpos
      · have KEY3 := hide (KEY2.out ⟨g, 0, none⟩ (fun h => by omega) rfl)
        rw [h00] at KEY3 ⊢
        clear KEY2 hl hsz h00
        go_wp2_with fail
        refine KEY3.out.mono ?_
        rintro e w2 ⟨⟨rfl, i2⟩, hb2⟩
        have sz2 : w.heap.size + 1 ≤ w2.heap.size := by
          have := hb2.size
          simpa using this
        have E2 := (hE1 (.cells #[.int .i64 0, .int .i64 0, .int .i64 0, .int .i64 0, .slice none 0 0] 27)).below (by simpa using hb2)
        unfold numsV
        go_wp2_with fail
        refine (laid_c k (w.heap.size + 1) 0 0 0 l w2 E2.shp i2 (by omega) hk1 hk2).mono ?_
        cases hly : layC k l with
        | none =>
          rw [hly] at HR
          rintro e w3 ⟨rfl, hb3⟩
          have hb4 : Below (w.heap.size + 1) (w.alloc (.cells #[.int .i64 0, .int .i64 0, .int .i64 0, .int .i64 0, .slice none 0 0] 27)) w3 := hb2.trans (hb3.mono sz2)
          have c0 : ∀ i, w3.cell? ⟨w.heap.size, i, none⟩ = _ := fun i => (hb4.cell (p := ⟨w.heap.size, i, none⟩) (by simp)).trans (cell_of_row _ _ _ _ _ _ (heap_new w (.cells #[.int .i64 0, .int .i64 0, .int .i64 0, .int .i64 0, .slice none 0 0] 27)))
          have f0 : ∀ i, w3.frozen? ⟨w.heap.size, i, none⟩ = false := fun i => (hb4.frozen (p := ⟨w.heap.size, i, none⟩) (by simp)).trans (frozen_rowQ (heap_new w (.cells #[.int .i64 0, .int .i64 0, .int .i64 0, .int .i64 0, .slice none 0 0] 27)))
          unfold cmdV zeroC
          go_wp2
          refine bodyPost_ret (v := .tuple #[cmdV none 0 0 zeroC, .bool false]) (by simp [results, Tryz.results72, go_sem, cmdV, zeroC, c0]) rfl ⟨?_, five_below ((belowA (Below.refl _ _) _).trans (hb4.mono (by omega))) _ _ _ _ _⟩
          rw [HR.out]
          exact rfl
        | some b =>
          rw [hly] at HR
          rintro e w3 ⟨⟨a3, n3, rfl, i3, x3⟩, hb3⟩
          have hb4 : Below (w.heap.size + 1) (w.alloc (.cells #[.int .i64 0, .int .i64 0, .int .i64 0, .int .i64 0, .slice none 0 0] 27)) w3 := hb2.trans (hb3.mono sz2)
          have c0 : ∀ i, w3.cell? ⟨w.heap.size, i, none⟩ = _ := fun i => (hb4.cell (p := ⟨w.heap.size, i, none⟩) (by simp)).trans (cell_of_row _ _ _ _ _ _ (heap_new w (.cells #[.int .i64 0, .int .i64 0, .int .i64 0, .int .i64 0, .slice none 0 0] 27)))
          have f0 : ∀ i, w3.frozen? ⟨w.heap.size, i, none⟩ = false := fun i => (hb4.frozen (p := ⟨w.heap.size, i, none⟩) (by simp)).trans (frozen_rowQ (heap_new w (.cells #[.int .i64 0, .int .i64 0, .int .i64 0, .int .i64 0, .slice none 0 0] 27)))
          unfold cmdV
          have hne : ∀ x, a3 = some x → x.block ≠ w.heap.size := fun x e => by
            have := x3 x e
            omega
          go_wp2
          refine bodyPost_ret (v := .tuple #[cmdV a3 n3 n3 b, .bool true]) (by simp [results, Tryz.results72, go_sem, cmdV, c0]) rfl ⟨?_, five_below ((belowA (Below.refl _ _) _).trans (hb4.mono (by omega))) _ _ _ _ _⟩
          rw [HR.out]
          refine ⟨_, _, rfl, i3.five _ hne _ _ _ _ _, fun x e => ?_⟩
          have := x3 x e
          omega
      · have KEY3 := hide (KEY2.out ⟨g, 1, none⟩ (fun h => rfl) rfl)
        clear KEY2 hl hsz
        go_wp2_with fail
        refine KEY3.out.mono ?_
        rintro e w2 ⟨⟨rfl, i2⟩, hb2⟩
        have sz2 : w.heap.size + 1 ≤ w2.heap.size := by
          have := hb2.size
          simpa using this
        have E2 := (hE1 (.cells #[.int .i64 0, .int .i64 0, .int .i64 0, .int .i64 0, .slice none 0 0] 27)).below (by simpa using hb2)
        unfold numsV
        go_wp2_with fail
        refine (laid_c k (w.heap.size + 1) 0 n n l w2 E2.shp i2 (by omega) hk1 hk2).mono ?_
        cases hly : layC k l with
        | none =>
          rw [hly] at HR
          rintro e w3 ⟨rfl, hb3⟩
          have hb4 : Below (w.heap.size + 1) (w.alloc (.cells #[.int .i64 0, .int .i64 0, .int .i64 0, .int .i64 0, .slice none 0 0] 27)) w3 := hb2.trans (hb3.mono sz2)
          have c0 : ∀ i, w3.cell? ⟨w.heap.size, i, none⟩ = _ := fun i => (hb4.cell (p := ⟨w.heap.size, i, none⟩) (by simp)).trans (cell_of_row _ _ _ _ _ _ (heap_new w (.cells #[.int .i64 0, .int .i64 0, .int .i64 0, .int .i64 0, .slice none 0 0] 27)))
          have f0 : ∀ i, w3.frozen? ⟨w.heap.size, i, none⟩ = false := fun i => (hb4.frozen (p := ⟨w.heap.size, i, none⟩) (by simp)).trans (frozen_rowQ (heap_new w (.cells #[.int .i64 0, .int .i64 0, .int .i64 0, .int .i64 0, .slice none 0 0] 27)))
          unfold cmdV zeroC
          go_wp2
          refine bodyPost_ret (v := .tuple #[cmdV none 0 0 zeroC, .bool false]) (by simp [results, Tryz.results72, go_sem, cmdV, zeroC, c0]) rfl ⟨?_, five_below ((belowA (Below.refl _ _) _).trans (hb4.mono (by omega))) _ _ _ _ _⟩
          rw [HR.out]
          exact rfl
        | some b =>
          rw [hly] at HR
          rintro e w3 ⟨⟨a3, n3, rfl, i3, x3⟩, hb3⟩
          have hb4 : Below (w.heap.size + 1) (w.alloc (.cells #[.int .i64 0, .int .i64 0, .int .i64 0, .int .i64 0, .slice none 0 0] 27)) w3 := hb2.trans (hb3.mono sz2)
          have c0 : ∀ i, w3.cell? ⟨w.heap.size, i, none⟩ = _ := fun i => (hb4.cell (p := ⟨w.heap.size, i, none⟩) (by simp)).trans (cell_of_row _ _ _ _ _ _ (heap_new w (.cells #[.int .i64 0, .int .i64 0, .int .i64 0, .int .i64 0, .slice none 0 0] 27)))
          have f0 : ∀ i, w3.frozen? ⟨w.heap.size, i, none⟩ = false := fun i => (hb4.frozen (p := ⟨w.heap.size, i, none⟩) (by simp)).trans (frozen_rowQ (heap_new w (.cells #[.int .i64 0, .int .i64 0, .int .i64 0, .int .i64 0, .slice none 0 0] 27)))
          unfold cmdV
          have hne : ∀ x, a3 = some x → x.block ≠ w.heap.size := fun x e => by
            have := x3 x e
            omega
          go_wp2
          refine bodyPost_ret (v := .tuple #[cmdV a3 n3 n3 b, .bool true]) (by simp [results, Tryz.results72, go_sem, cmdV, c0]) rfl ⟨?_, five_below ((belowA (Below.refl _ _) _).trans (hb4.mono (by omega))) _ _ _ _ _⟩
          rw [HR.out]
          refine ⟨_, _, rfl, i3.five _ hne _ _ _ _ _, fun x e => ?_⟩
          have := x3 x e
          omega

end Go.Proofs.YtcbgkjmcdjpgcaaGreatDoor
