/- The contract of cmd.numbers; no condition but that the pieces read, and the package-level variables are as their texts lay them. -/
import Derived.Test.YtijcllkphheddabDoorQ4
import Derived.Lib.BufferMore
namespace Go.Proofs.YtijcllkphheddabDoor
open Go.RowKit
set_option linter.unusedVariables false
set_option linter.unusedSimpArgs false

theorem frozen_row {w : World} {g j : Nat} {cs : Array Value} {t : TypeId} (hg : w.heap[g]? = some (.cells cs t (0, 0))) : w.frozen? ⟨g, j, none⟩ = false := by
  simp [World.frozen?, hg]

theorem cells_set (l : List Int) (n : Nat) (v : Int) (h : l.length < n) : (cellsOf (l ++ List.replicate (n - l.length) 0)).toArray.setIfInBounds l.length (.int .i64 v) = (cellsOf ((l ++ [v]) ++ List.replicate (n - (l ++ [v]).length) 0)).toArray := by
  obtain ⟨m, rfl⟩ : ∃ m, n = l.length + 1 + m := ⟨n - l.length - 1, by omega⟩
  simp [cellsOf, show l.length + 1 + m - l.length = m + 1 by omega, List.replicate_succ]

theorem getD_take {α : Type} (l : List α) (d : α) (k : Nat) (h : k < l.length) : l.take (k + 1) = l.take k ++ [l.getD k d] := by
  rw [List.take_succ_eq_append_getElem h]; simp [List.getD, h]
theorem split_at {α : Type} (l : List α) (d : α) (k : Nat) (h : k < l.length) : l = l.take k ++ l.getD k d :: l.drop (k + 1) := by
  conv => lhs; rw [← List.take_append_drop k l]
  congr 1
  rw [List.drop_eq_getElem_cons h]
  simp [List.getD, h]

theorem made_zero (n : Nat) : madeCells #[Value.int IntKind.i64 0] n = (cellsOf ([] ++ List.replicate (n - 0) 0)).toArray := by
  apply Array.ext
  · simp [madeCells, cellsOf]
  · intro i h1 h2
    simp [madeCells, cellsOf, Nat.mod_one]

def numsV (a : Option Addr) (n : Nat) : Value := .tuple #[.slice a n n, .bool true]
def noNums : Value := .tuple #[.slice none 0 0, .bool false]

/-- What numbers answers. -/
def NumsRes (B : Nat) (w' : World) (n : Nat) (e : Ending) : Option (List Int) → Prop
  | some l => e = .returned (numsV (some ⟨B, 0, none⟩) n) ∧ Ints w' (some ⟨B, 0, none⟩) n n l
  | none => e = .returned noNums

set_option maxRecDepth 100000 in
set_option maxHeartbeats 4000000 in
theorem numbers_c (g off n c : Nat) (ts : List ByteArray) (w : World) (hE : Env w) (hl : ts.length = n) (hn : n ≤ 100000)
    (hsz : ∀ t ∈ ts, t.size ≤ 100000)
    (hr : ∀ i, i < n → w.cell? ⟨g, off + i, none⟩ = some (.string (ts.getD i ByteArray.empty))) :
    Calls Tryd.prog 36 #[.slice (some ⟨g, off, none⟩) n c] w fun e w' => NumsRes w.heap.size w' n e (nums (ts.map (·.data.toList))) ∧ Below w.heap.size w w' := by
  have hmk := run_make_row' (P := Tryd.prog) 22 3 (.int .i64 0) 8 Tryd.underlying22 infoInt rfl .i64 .i64 n (by omega) (by omega)
  have n2 : (n : Int) ≤ 100000 := by omega
  go_enter Tryd.func36, Tryd.ntmps36
  go_wp2
  go_loopw [14] (fun x wr => ∃ (k : Nat) (l : List Int), k ≤ n ∧ x = .int .i64 k ∧ l.length = k ∧ nums ((ts.map (·.data.toList)).take k) = some l ∧ wr.heap[w.heap.size]? = some (.cells (cellsOf (l ++ List.replicate (n - k) 0)).toArray 3 (0, 0)) ∧ Below w.heap.size w wr) (fun x _ => n - (intOf x).toNat)
  case atStart =>
    refine ⟨0, [], by omega, rfl, rfl, rfl, ?_, belowA (Below.refl _ _) _⟩
    rw [heap_new]
    congr 2
    exact made_zero n
  case round =>
    obtain ⟨k, l, hk, rfl, hlk, hns, hrow, hbr⟩ := hrel
    rename_i wr
    have HNS := hide hns
    have HROW := hide hrow
    clear hns hrow hmk
    by_cases hlt : k < n
    · have hi := keepc hbr (hr k hlt)
      have hk1 : (k : Int) < (n : Int) := by omega
      have hk0 : (0 : Int) ≤ (k : Int) := by omega
      have hEr := hE.below hbr
      have hts : (ts.getD k ByteArray.empty).size ≤ 100000 := hsz _ (by simp [List.getD, hl, hlt])
      have htk : (ts.map (·.data.toList)).take (k + 1) = (ts.map (·.data.toList)).take k ++ [(ts.getD k ByteArray.empty).data.toList] := by
        rw [getD_take _ [] k (by simp; omega)]
        simp [List.getD, hl, hlt]
      have hsp : ts.map (·.data.toList) = (ts.map (·.data.toList)).take k ++ (ts.getD k ByteArray.empty).data.toList :: (ts.map (·.data.toList)).drop (k + 1) := by
        conv => lhs; rw [split_at (ts.map (·.data.toList)) [] k (by simp; omega)]
        simp [List.getD, hl, hlt]
      have HTK := hide htk
      have HSP := hide hsp
      generalize ts.getD k ByteArray.empty = s at hi hts HTK HSP
      clear htk hsp hr
      by_cases hok : ∃ v, Lib.atoiAll s.data.toList = .ok v
      · obtain ⟨v, hv⟩ := hok
        have hvb := Lib.atoiAll_bounds hv
        go_wp2_with fail
        refine (Atoi_ok_c s (by omega) v hv _).mono ?_
        rintro e w1 ⟨rfl, hb1⟩
        go_wp2_with fail
        have hEr1 := hEr.below hb1
        refine (Itoa_c v hvb _ hEr1).mono ?_
        rintro e w2 ⟨rfl, hb2⟩
        have bw2 : Below w.heap.size w w2 := by (repeat (first | exact Below.refl _ _ | assumption | refine Below.drew ?_ | refine below_drewN ?_ _ | refine belowA ?_ _ | refine belowT ?_ (by assumption) | refine Below.setCell ?_ (by first | (simp; done) | (simp; omega)) _))
        have hlt0 : w.heap.size < wr.heap.size := by
          have := (Array.getElem?_eq_some_iff.1 HROW.out).1
          exact this
        have hrow2 : w2.heap[w.heap.size]? = some (.cells (cellsOf (l ++ List.replicate (n - k) 0)).toArray 3 (0, 0)) := by
          rw [(belowT hb1 hb2).block _ hlt0]
          exact HROW.out
        have HR2 := hide hrow2
        have hc2 : w2.cell? ⟨w.heap.size, k, none⟩ = some (.int .i64 0) := by
          rw [cell_of_row _ _ _ _ _ _ hrow2]
          obtain ⟨m, rfl⟩ : ∃ m, n = k + 1 + m := ⟨n - k - 1, by omega⟩
          have hm : k + 1 + m - k = m + 1 := by omega
          rw [hm]
          simp [cellsOf, ← hlk, List.replicate_succ]
        have hf2 : w2.frozen? ⟨w.heap.size, k, none⟩ = false := frozen_row hrow2
        clear hb1 hb2 hrow2 hEr1 hEr
        by_cases hit : (⟨(Lib.itoa v).toArray⟩ : ByteArray) = s
        · have e1 := beq_t hit
          have e2 := (Lib.bytes_beq_iff _ _).2 hit
          have hnum : num s.data.toList = some v := by
            rw [num_eq, hv]
            simp [← hit]
          have HV := hide hnum
          clear hit hnum hv
          generalize (⟨(Lib.itoa v).toArray⟩ : ByteArray) = u at e1 e2
          go_wp2
          refine ⟨⟨k + 1, l ++ [v], by omega, by go_num, by simp [hlk], ?_, ?_, bw2.setCell (Nat.le_refl _) _⟩, by simp [intOf]; omega⟩
          · rw [HTK.out]
            exact nums_snoc HNS.out _ HV.out
          · have := Lib.heap_setCell_same (i := k) HR2.out (.int .i64 v)
            rw [this]
            have hs := cells_set l n v (by omega)
            rw [hlk] at hs
            rw [hs]
            simp [hlk]
        · have e1 := beq_f hit
          have e2 := (Lib.bytes_beq_false_iff _ _).2 hit
          have hnum : num s.data.toList = none := by
            rw [num_eq, hv]
            dsimp only
            rw [if_neg (fun e => hit (by rw [e]))]
          have HV : Hid (nums (ts.map (·.data.toList)) = none) := hide (by rw [HSP.out]; exact nums_bad hnum)
          clear hit hnum hv
          generalize (⟨(Lib.itoa v).toArray⟩ : ByteArray) = u at e1 e2
          go_wp2
          refine bodyPost_ret (v := noNums) (by simp [results, Tryd.results36, go_sem, noNums]) rfl ⟨?_, bw2⟩
          rw [HV.out]
          exact rfl
      · have hnum : num s.data.toList = none := by
          rw [num_eq]
          cases ha : Lib.atoiAll s.data.toList with
          | ok v => exact absurd ⟨v, ha⟩ hok
          | «syntax» => rfl
          | range => rfl
        have HV : Hid (nums (ts.map (·.data.toList)) = none) := hide (by rw [HSP.out]; exact nums_bad hnum)
        clear hnum
        go_wp2_with fail
        refine (Atoi_bad_c s (by omega) (fun v e => hok ⟨v, e⟩) _ hEr).mono ?_
        rintro e w1 ⟨⟨v, N, rfl⟩, hb1⟩
        have bw2 : Below w.heap.size w w1 := by (repeat (first | exact Below.refl _ _ | assumption | refine Below.drew ?_ | refine below_drewN ?_ _ | refine belowA ?_ _ | refine belowT ?_ (by assumption) | refine Below.setCell ?_ (by first | (simp; done) | (simp; omega)) _))
        go_wp2
        refine bodyPost_ret (v := noNums) (by simp [results, Tryd.results36, go_sem, noNums]) rfl ⟨?_, bw2⟩
        rw [HV.out]
        exact rfl
    · obtain rfl : k = n := by omega
      have hns := HNS.out
      rw [List.take_of_length_le (by simp; omega)] at hns
      have HN2 := hide hns
      clear hns
      go_wp2
      refine bodyPost_ret (v := numsV (some ⟨w.heap.size, 0, none⟩) k) (by simp [results, Tryd.results36, go_sem, numsV]) rfl ⟨?_, hbr⟩
      rw [HN2.out]
      refine ⟨rfl, ?_⟩
      have hrow := HROW.out
      simp at hrow
      exact Ints.of_row hrow (by omega) (nums_wf HN2.out) hlk

end Go.Proofs.YtijcllkphheddabDoor
