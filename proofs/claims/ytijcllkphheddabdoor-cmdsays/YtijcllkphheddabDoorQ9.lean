/- The contract of cmd.listed; no condition but that the data reads as a list, and the table is as its text lays it. -/
import Derived.Test.YtijcllkphheddabDoorQ8
import Derived.Test.YtijcllkphheddabDoorB3
import Derived.Laws.AppendOwnNone
namespace Go.Proofs.YtijcllkphheddabDoor
open Go.RowKit
set_option linter.unusedVariables false
set_option linter.unusedSimpArgs false

/-- What is listed of the single numbers, up to part i. -/
def pickN (hz ha hn : Bool) (z t n : Int) : Nat → List Int
  | 0 => []
  | 1 => if hz then [z] else []
  | 2 => (if hz then [z] else []) ++ (if ha then [t] else [])
  | _ => (if hz then [z] else []) ++ (if ha then [t] else []) ++ (if hn then [n] else [])
/-- The numbers of a command, in the order in which they are printed. -/
def listC (b : PC) : List Int := pickN (hasZ b.k) (hasA b.k) (hasN b.k) b.z b.at' b.n 3 ++ b.d

theorem pickN_len (hz ha hn : Bool) (z t n : Int) : ∀ i, (pickN hz ha hn z t n i).length ≤ 3
  | 0 => by simp [pickN]
  | 1 => by cases hz <;> simp [pickN]
  | 2 => by cases hz <;> cases ha <;> simp [pickN]
  | _ + 3 => by cases hz <;> cases ha <;> cases hn <;> simp [pickN]

theorem OwnI.append {w : World} {base : Nat} {v : Value} {l k : List Int} {m : Nat} (hm : k.length = m) (h : w.ownsRow base 3 1 v (l.length + m) (cellsOf l ++ cellsOf k)) : OwnI w base v (l ++ k) := by
  unfold OwnI
  rw [List.length_append, hm, ← cellsOf_app]
  exact h

set_option maxRecDepth 100000 in
set_option maxHeartbeats 2000000 in
theorem listed_c (a : Option Addr) (m c : Nat) (k : Nat) (z n t : Int) (d : List Int) (w : World) (hS : Shapes w) (h : Ints w a m c d) (hm : m ≤ 1000) (hk1 : 1 ≤ k) (hk2 : k ≤ 12) :
    Calls Tryd.prog 13 #[.agg #[.int .i64 k, .int .i64 z, .int .i64 n, .int .i64 t, .slice a m c]] w fun e w' => (∃ v, e = .returned v ∧ OwnI w' w.heap.size v (listC ⟨k, z, n, t, d⟩)) ∧ Below w.heap.size w w' := by
  obtain ⟨i, hi, hzr, hs, hb⟩ := intInfo
  have s1 := hS.hz k hk2
  have s2 : w.cell? ⟨0, k * 5 + 1 + 1, none⟩ = some (.bool (hasA k)) := hS.ha k hk2
  have s3 : w.cell? ⟨0, k * 5 + 1 + 2, none⟩ = some (.bool (hasN k)) := hS.hn k hk2
  have HL : Hid (listC ⟨k, z, n, t, d⟩ = pickN (hasZ k) (hasA k) (hasN k) z t n 3 ++ d) := hide rfl
  have k1 : (1 : Int) ≤ (k : Int) := by omega
  have k2 : (k : Int) < 13 := by omega
  have k0 : (0 : Int) ≤ (k : Int) := by omega
  clear hS
  generalize hasZ k = hz at *
  generalize hasA k = ha at *
  generalize hasN k = hn at *
  have i0 : ∀ w : World, (Instr.index 53 (.agg #[.int .i64 z, .int .i64 t, .int .i64 n]) (.int .i64 0)).run Tryd.prog w = .ok (.int .i64 z) w := fun w => by kernel_rfl
  have i1 : ∀ w : World, (Instr.index 53 (.agg #[.int .i64 z, .int .i64 t, .int .i64 n]) (.int .i64 1)).run Tryd.prog w = .ok (.int .i64 t) w := fun w => by kernel_rfl
  have i2 : ∀ w : World, (Instr.index 53 (.agg #[.int .i64 z, .int .i64 t, .int .i64 n]) (.int .i64 2)).run Tryd.prog w = .ok (.int .i64 n) w := fun w => by kernel_rfl
  go_enter Tryd.func13, Tryd.ntmps13
  go_wp2_with fail
  refine (singles_c _ _ _ _ _ _ _ _).mono ?_
  rintro e w1 ⟨rfl, hb1⟩
  have bw : Below w.heap.size w w1 := by (repeat (first | exact Below.refl _ _ | assumption | refine Below.drew ?_ | refine below_drewN ?_ _ | refine belowA ?_ _ | refine belowT ?_ (by assumption) | refine Below.setCell ?_ (by first | (simp; done) | (simp; omega)) _))
  have b0 := keepc hb1 (p := ⟨w.heap.size, 0, none⟩) (u := .int .i64 k) (by go_simp)
  have b4 := keepc hb1 (p := ⟨w.heap.size, 4, none⟩) (u := .slice a m c) (by go_simp)
  have j1 := h.below bw (Nat.le_refl _)
  replace s1 := keepc bw s1
  replace s2 := keepc bw s2
  replace s3 := keepc bw s3
  clear hb1
  go_wp2
  go_loopw [3, 8] (fun o x wr => ∃ j : Nat, j ≤ 3 ∧ x = .int .i64 j ∧ OwnI wr w1.heap.size o (pickN hz ha hn z t n j) ∧ Below w1.heap.size w1 wr) (fun _ x _ => 3 - (intOf x).toNat)
  case atStart => exact ⟨0, by omega, rfl, nil_own _ _, Below.refl _ _⟩
  case round =>
    obtain ⟨j, hj, rfl, hown, hbr⟩ := hrel
    rename_i wr
    have c0 := keepc hbr b0
    have hob := hown.own
    have hpl := pickN_len hz ha hn z t n j
    rcases (by omega : j = 0 ∨ j = 1 ∨ j = 2 ∨ j = 3) with rfl | rfl | rfl | rfl
    · replace s1 := keepc hbr s1
      cases hz
      · go_wp2
        exact ⟨⟨1, by omega, by go_num, by simpa [pickN] using hown, hbr⟩, by simp [intOf]⟩
      · generalize hL : pickN true ha hn z t n 0 = L at *
        have HPL := hide hL
        clear hL
        go_wp2_with (at_builtin; refine wpList_append_own _ rfl _ _ 22 rfl w1.heap.size 3 i (.int .i64 0) 1 8 Tryd.underlying22 hi hzr hs hb rfl (by decide) _ _ _ rfl (hown.alloc _) ⟨wr.heap.size, 0, none⟩ 1 1 [.int .i64 z] rfl rfl (cell_one_new _ _ _) ?hq1 ?hq2 ?hq3 ?hq4 ?hq5)
        case hq1 => intro u hu; simp at hu; subst hu; rfl
        case hq2 => simp [maxLen]; omega
        case hq3 => omega
        case hq4 => have := hbr.size; simp; omega
        case hq5 =>
          intro v' w3 hown3 hg3 _
          have b3 : Below w1.heap.size w1 w3 := (hbr.alloc hbr.size _).grown hg3 (by simp; have := hbr.size; omega) hob
          have o3 : OwnI w3 w1.heap.size v' (pickN true ha hn z t n 1) := by
            have := OwnI.snoc hown3
            rw [← HPL.out] at this
            simpa [pickN] using this
          go_wp2
          exact ⟨⟨1, by omega, by go_num, o3, b3⟩, by simp [intOf]⟩
    · replace s2 := keepc hbr s2
      cases ha
      · go_wp2
        exact ⟨⟨2, by omega, by go_num, by simpa [pickN] using hown, hbr⟩, by simp [intOf]⟩
      · generalize hL : pickN hz true hn z t n 1 = L at *
        have HPL := hide hL
        clear hL
        go_wp2_with (at_builtin; refine wpList_append_own _ rfl _ _ 22 rfl w1.heap.size 3 i (.int .i64 0) 1 8 Tryd.underlying22 hi hzr hs hb rfl (by decide) _ _ _ rfl (hown.alloc _) ⟨wr.heap.size, 0, none⟩ 1 1 [.int .i64 t] rfl rfl (cell_one_new _ _ _) ?hq1 ?hq2 ?hq3 ?hq4 ?hq5)
        case hq1 => intro u hu; simp at hu; subst hu; rfl
        case hq2 => simp [maxLen]; omega
        case hq3 => omega
        case hq4 => have := hbr.size; simp; omega
        case hq5 =>
          intro v' w3 hown3 hg3 _
          have b3 : Below w1.heap.size w1 w3 := (hbr.alloc hbr.size _).grown hg3 (by simp; have := hbr.size; omega) hob
          have o3 : OwnI w3 w1.heap.size v' (pickN hz true hn z t n 2) := by
            have := OwnI.snoc hown3
            rw [← HPL.out] at this
            simpa [pickN] using this
          go_wp2
          exact ⟨⟨2, by omega, by go_num, o3, b3⟩, by simp [intOf]⟩
    · replace s3 := keepc hbr s3
      cases hn
      · go_wp2
        exact ⟨⟨3, by omega, by go_num, by simpa [pickN] using hown, hbr⟩, by simp [intOf]⟩
      · generalize hL : pickN hz ha true z t n 2 = L at *
        have HPL := hide hL
        clear hL
        go_wp2_with (at_builtin; refine wpList_append_own _ rfl _ _ 22 rfl w1.heap.size 3 i (.int .i64 0) 1 8 Tryd.underlying22 hi hzr hs hb rfl (by decide) _ _ _ rfl (hown.alloc _) ⟨wr.heap.size, 0, none⟩ 1 1 [.int .i64 n] rfl rfl (cell_one_new _ _ _) ?hq1 ?hq2 ?hq3 ?hq4 ?hq5)
        case hq1 => intro u hu; simp at hu; subst hu; rfl
        case hq2 => simp [maxLen]; omega
        case hq3 => omega
        case hq4 => have := hbr.size; simp; omega
        case hq5 =>
          intro v' w3 hown3 hg3 _
          have b3 : Below w1.heap.size w1 w3 := (hbr.alloc hbr.size _).grown hg3 (by simp; have := hbr.size; omega) hob
          have o3 : OwnI w3 w1.heap.size v' (pickN hz ha true z t n 3) := by
            have := OwnI.snoc hown3
            rw [← HPL.out] at this
            simpa [pickN] using this
          go_wp2
          exact ⟨⟨3, by omega, by go_num, o3, b3⟩, by simp [intOf]⟩
    · replace b4 := keepc hbr b4
      replace j1 := j1.below hbr (Nat.le_refl _)
      have e1 := j1.len
      generalize pickN hz ha hn z t n 3 = L at *
      cases a with
      | none =>
        obtain ⟨rfl, rfl⟩ := j1.nils rfl
        obtain rfl : d = [] := List.eq_nil_of_length_eq_zero e1
        go_wp2_with (at_builtin; refine wpList_append_own_none rfl _ _ 22 rfl w1.heap.size 3 i 1 Tryd.underlying22 hi _ _ _ rfl hown rfl ?_)
        go_ret
        refine ⟨⟨_, rfl, ?_⟩, by (repeat (first | exact Below.refl _ _ | assumption | refine Below.drew ?_ | refine below_drewN ?_ _ | refine belowA ?_ _ | refine belowT ?_ (by assumption) | refine Below.setCell ?_ (by first | (simp; done) | (simp; omega)) _))⟩
        rw [HL.out]
        simpa using hown.mono bw.size
      | some ad =>
        go_wp2_with (at_builtin; refine wpList_append_own _ rfl _ _ 22 rfl w1.heap.size 3 i (.int .i64 0) 1 8 Tryd.underlying22 hi hzr hs hb rfl (by decide) _ _ _ rfl hown ad m c (cellsOf d) rfl ?hq0 (j1.srcs ad rfl) (cellsOf_one d) ?hq2 ?hq3 ?hq4 ?hq5)
        case hq0 => simp [cellsOf_len, e1]
        case hq2 => simp [maxLen]; omega
        case hq3 => omega
        case hq4 => exact hbr.size
        case hq5 =>
          intro v' w3 hown3 hg3 _
          have b3 : Below w1.heap.size w1 w3 := hbr.grown hg3 hbr.size hob
          have o3 : OwnI w3 w1.heap.size v' (L ++ d) := OwnI.append e1 hown3
          go_wp2
          go_ret
          refine ⟨⟨_, rfl, ?_⟩, by (repeat (first | exact Below.refl _ _ | assumption | refine Below.drew ?_ | refine below_drewN ?_ _ | refine belowA ?_ _ | refine belowT ?_ (by assumption) | refine Below.setCell ?_ (by first | (simp; done) | (simp; omega)) _))⟩
          rw [HL.out]
          exact o3.mono bw.size

end Go.Proofs.YtijcllkphheddabDoor
