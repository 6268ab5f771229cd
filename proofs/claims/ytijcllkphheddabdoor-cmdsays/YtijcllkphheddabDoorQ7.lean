/- The contract of cmd.read; no condition but that the pieces read, and the package-level variables are as their texts lay them. -/
import Derived.Test.YtijcllkphheddabDoorQ6
namespace Go.Proofs.YtijcllkphheddabDoor
open Go.RowKit
set_option linter.unusedVariables false
set_option linter.unusedSimpArgs false

/-- The command that the pieces tell. -/
def readC (ts : List ByteArray) : Option PC := match ts with
  | [] => none
  | t :: r => match kindOfS t with
    | none => none
    | some k => match nums (r.map (·.data.toList)) with
      | none => none
      | some l => layC k l

theorem five_below {w w' : World} (h : Below w.heap.size w w') (v0 v1 v2 v3 v4 : Value) : Below w.heap.size w (((((w'.setCell ⟨w.heap.size, 0, none⟩ v0).setCell ⟨w.heap.size, 1, none⟩ v1).setCell ⟨w.heap.size, 2, none⟩ v2).setCell ⟨w.heap.size, 3, none⟩ v3).setCell ⟨w.heap.size, 4, none⟩ v4) :=
  ((((h.setCell (p := ⟨w.heap.size, 0, none⟩) (Nat.le_refl _) _).setCell (p := ⟨w.heap.size, 1, none⟩) (Nat.le_refl _) _).setCell (p := ⟨w.heap.size, 2, none⟩) (Nat.le_refl _) _).setCell (p := ⟨w.heap.size, 3, none⟩) (Nat.le_refl _) _).setCell (p := ⟨w.heap.size, 4, none⟩) (Nat.le_refl _) _
theorem Ints.five {w : World} {a : Option Addr} {n c : Nat} {l : List Int} (h : Ints w a n c l) (g : Nat) (hne : ∀ x, a = some x → x.block ≠ g) (v0 v1 v2 v3 v4 : Value) : Ints (((((w.setCell ⟨g, 0, none⟩ v0).setCell ⟨g, 1, none⟩ v1).setCell ⟨g, 2, none⟩ v2).setCell ⟨g, 3, none⟩ v3).setCell ⟨g, 4, none⟩ v4) a n c l :=
  ((((h.setCell _ _ hne).setCell _ _ hne).setCell _ _ hne).setCell _ _ hne).setCell _ _ hne

set_option maxRecDepth 100000 in
set_option maxHeartbeats 1000000 in
theorem read_c (g n : Nat) (t : ByteArray) (ts : List ByteArray) (w : World) (hE : Env w) (hl : ts.length = n) (hn : n ≤ 100000 - 1)
    (hsz : ∀ t ∈ ts, t.size ≤ 100000) (ht : w.cell? ⟨g, 0, none⟩ = some (.string t))
    (hr : ∀ i, i < n → w.cell? ⟨g, 1 + i, none⟩ = some (.string (ts.getD i ByteArray.empty))) :
    Calls Tryd.prog 15 #[.slice (some ⟨g, 0, none⟩) (n + 1) (n + 1)] w fun e w' => LaidRes w.heap.size w' e (readC (t :: ts)) ∧ Below w.heap.size w w' := by
  have n0 : (0 : Int) < ((n : Int) + 1) := by omega
  have n1 : (1 : Int) ≤ ((n : Int) + 1) := by omega
  have n2 : (n : Int) ≤ 100000 := by omega
  have ht1 := fun o => past1 ht o
  have hE1 := fun o => hE.below (belowA (Below.refl w.heap.size w) o)
  go_enter Tryd.func15, Tryd.ntmps15
  go_wp2_with fail
  refine (kindOf_c t _ (hE1 _).shp).mono ?_
  rintro e w1 ⟨rfl, rfl⟩
  cases hk : kindOfS t with
  | none =>
    have HR : Hid (readC (t :: ts) = none) := hide (by simp [readC, hk])
    unfold kindV
    go_wp2
    refine bodyPost_ret (v := .tuple #[cmdV none 0 0 zeroC, .bool false]) (by simp [results, Tryd.results15, go_sem, cmdV, zeroC]) rfl ⟨?_, ?_⟩
    · rw [HR.out]
      exact rfl
    · (repeat (first | exact Below.refl _ _ | assumption | refine Below.drew ?_ | refine below_drewN ?_ _ | refine belowA ?_ _ | refine belowT ?_ (by assumption) | refine Below.setCell ?_ (by first | (simp; done) | (simp; omega)) _))
  | some k =>
    obtain ⟨_, hk1, hk2⟩ := kindOfS_some hk
    have HR : Hid (readC (t :: ts) = match nums (ts.map (·.data.toList)) with
      | none => none
      | some l => layC k l) := hide (by simp [readC, hk])
    have key : ∀ p : Addr, (0 < n → p = ⟨g, 1, none⟩) → p.spot = none → Calls Tryd.prog 36 #[.slice (some p) n n] (w.alloc (.cells #[.int .i64 0, .int .i64 0, .int .i64 0, .int .i64 0, .slice none 0 0] 24)) fun e w' => NumsRes (w.heap.size + 1) w' n e (nums (ts.map (·.data.toList))) ∧ Below (w.heap.size + 1) (w.alloc (.cells #[.int .i64 0, .int .i64 0, .int .i64 0, .int .i64 0, .slice none 0 0] 24)) w' := by
      intro p hp hs
      obtain ⟨pb, po, ps⟩ := p
      obtain rfl : ps = none := hs
      have := numbers_c pb po n n ts (w.alloc (.cells #[.int .i64 0, .int .i64 0, .int .i64 0, .int .i64 0, .slice none 0 0] 24)) (hE1 _) hl (by omega) hsz (fun i hi => by
        cases hp (by omega)
        exact past1 (hr i hi) _)
      rw [show (w.alloc (.cells #[.int .i64 0, .int .i64 0, .int .i64 0, .int .i64 0, .slice none 0 0] 24)).heap.size = w.heap.size + 1 by simp] at this
      exact this
    have KEY := hide key
    clear key hr
    unfold kindV
    dsimp only
    cases hnm : nums (ts.map (·.data.toList)) with
    | none =>
      rw [hnm] at HR
      have K2 := KEY.out
      rw [hnm] at K2
      have KEY2 := hide K2
      clear K2 KEY hnm
      rcases Nat.eq_zero_or_pos n with h00 | hpos
      · have KEY3 := hide (KEY2.out ⟨g, 0, none⟩ (fun h => by omega) rfl)
        rw [h00] at KEY3 ⊢
        clear KEY2 hl hsz h00
        go_wp2_with fail
        refine KEY3.out.mono ?_
        rintro e w2 ⟨rfl, hb2⟩
        have c0 : ∀ i, w2.cell? ⟨w.heap.size, i, none⟩ = _ := fun i => (hb2.cell (p := ⟨w.heap.size, i, none⟩) (by simp)).trans (cell_of_row _ _ _ _ _ _ (heap_new w (.cells #[.int .i64 0, .int .i64 0, .int .i64 0, .int .i64 0, .slice none 0 0] 24)))
        have f0 : ∀ i, w2.frozen? ⟨w.heap.size, i, none⟩ = false := fun i => (hb2.frozen (p := ⟨w.heap.size, i, none⟩) (by simp)).trans (frozen_row (heap_new w (.cells #[.int .i64 0, .int .i64 0, .int .i64 0, .int .i64 0, .slice none 0 0] 24)))
        unfold noNums
        go_wp2
        refine bodyPost_ret (v := .tuple #[cmdV none 0 0 zeroC, .bool false]) (by simp [results, Tryd.results15, go_sem, cmdV, zeroC, c0]) rfl ⟨?_, five_below ((belowA (Below.refl _ _) _).trans (hb2.mono (by omega))) _ _ _ _ _⟩
        rw [HR.out]
        exact rfl
      · have KEY3 := hide (KEY2.out ⟨g, 1, none⟩ (fun h => rfl) rfl)
        clear KEY2 hl hsz
        go_wp2_with fail
        refine KEY3.out.mono ?_
        rintro e w2 ⟨rfl, hb2⟩
        have c0 : ∀ i, w2.cell? ⟨w.heap.size, i, none⟩ = _ := fun i => (hb2.cell (p := ⟨w.heap.size, i, none⟩) (by simp)).trans (cell_of_row _ _ _ _ _ _ (heap_new w (.cells #[.int .i64 0, .int .i64 0, .int .i64 0, .int .i64 0, .slice none 0 0] 24)))
        have f0 : ∀ i, w2.frozen? ⟨w.heap.size, i, none⟩ = false := fun i => (hb2.frozen (p := ⟨w.heap.size, i, none⟩) (by simp)).trans (frozen_row (heap_new w (.cells #[.int .i64 0, .int .i64 0, .int .i64 0, .int .i64 0, .slice none 0 0] 24)))
        unfold noNums
        go_wp2
        refine bodyPost_ret (v := .tuple #[cmdV none 0 0 zeroC, .bool false]) (by simp [results, Tryd.results15, go_sem, cmdV, zeroC, c0]) rfl ⟨?_, five_below ((belowA (Below.refl _ _) _).trans (hb2.mono (by omega))) _ _ _ _ _⟩
        rw [HR.out]
        exact rfl
    | some l =>
      rw [hnm] at HR
      have K2 := KEY.out
      rw [hnm] at K2
      have KEY2 := hide K2
      clear K2 KEY hnm
      rcases Nat.eq_zero_or_pos n with h00 | hpos
      · have KEY3 := hide (KEY2.out ⟨g, 0, none⟩ (fun h => by omega) rfl)
        rw [h00] at KEY3 ⊢
        clear KEY2 hl hsz h00
        go_wp2_with fail
        refine KEY3.out.mono ?_
        rintro e w2 ⟨⟨rfl, i2⟩, hb2⟩
        have sz2 : w.heap.size + 1 ≤ w2.heap.size := by
          have := hb2.size
          simpa using this
        have E2 := (hE1 (.cells #[.int .i64 0, .int .i64 0, .int .i64 0, .int .i64 0, .slice none 0 0] 24)).below (by simpa using hb2)
        unfold numsV
        go_wp2_with fail
        refine (laid_c k (w.heap.size + 1) 0 0 0 l w2 E2.shp i2 (by omega) hk1 hk2).mono ?_
        cases hly : layC k l with
        | none =>
          rw [hly] at HR
          rintro e w3 ⟨rfl, hb3⟩
          have hb4 : Below (w.heap.size + 1) (w.alloc (.cells #[.int .i64 0, .int .i64 0, .int .i64 0, .int .i64 0, .slice none 0 0] 24)) w3 := hb2.trans (hb3.mono sz2)
          have c0 : ∀ i, w3.cell? ⟨w.heap.size, i, none⟩ = _ := fun i => (hb4.cell (p := ⟨w.heap.size, i, none⟩) (by simp)).trans (cell_of_row _ _ _ _ _ _ (heap_new w (.cells #[.int .i64 0, .int .i64 0, .int .i64 0, .int .i64 0, .slice none 0 0] 24)))
          have f0 : ∀ i, w3.frozen? ⟨w.heap.size, i, none⟩ = false := fun i => (hb4.frozen (p := ⟨w.heap.size, i, none⟩) (by simp)).trans (frozen_row (heap_new w (.cells #[.int .i64 0, .int .i64 0, .int .i64 0, .int .i64 0, .slice none 0 0] 24)))
          unfold cmdV zeroC
          go_wp2
          refine bodyPost_ret (v := .tuple #[cmdV none 0 0 zeroC, .bool false]) (by simp [results, Tryd.results15, go_sem, cmdV, zeroC, c0]) rfl ⟨?_, five_below ((belowA (Below.refl _ _) _).trans (hb4.mono (by omega))) _ _ _ _ _⟩
          rw [HR.out]
          exact rfl
        | some b =>
          rw [hly] at HR
          rintro e w3 ⟨⟨a3, n3, rfl, i3, x3⟩, hb3⟩
          have hb4 : Below (w.heap.size + 1) (w.alloc (.cells #[.int .i64 0, .int .i64 0, .int .i64 0, .int .i64 0, .slice none 0 0] 24)) w3 := hb2.trans (hb3.mono sz2)
          have c0 : ∀ i, w3.cell? ⟨w.heap.size, i, none⟩ = _ := fun i => (hb4.cell (p := ⟨w.heap.size, i, none⟩) (by simp)).trans (cell_of_row _ _ _ _ _ _ (heap_new w (.cells #[.int .i64 0, .int .i64 0, .int .i64 0, .int .i64 0, .slice none 0 0] 24)))
          have f0 : ∀ i, w3.frozen? ⟨w.heap.size, i, none⟩ = false := fun i => (hb4.frozen (p := ⟨w.heap.size, i, none⟩) (by simp)).trans (frozen_row (heap_new w (.cells #[.int .i64 0, .int .i64 0, .int .i64 0, .int .i64 0, .slice none 0 0] 24)))
          unfold cmdV
          have hne : ∀ x, a3 = some x → x.block ≠ w.heap.size := fun x e => by
            have := x3 x e
            omega
          go_wp2
          refine bodyPost_ret (v := .tuple #[cmdV a3 n3 n3 b, .bool true]) (by simp [results, Tryd.results15, go_sem, cmdV, c0]) rfl ⟨?_, five_below ((belowA (Below.refl _ _) _).trans (hb4.mono (by omega))) _ _ _ _ _⟩
          rw [HR.out]
          refine ⟨_, _, rfl, i3.five _ hne _ _ _ _ _, fun x e => ?_⟩
          have := x3 x e
          omega
      · have KEY3 := hide (KEY2.out ⟨g, 1, none⟩ (fun h => rfl) rfl)
        clear KEY2 hl hsz
        go_wp2_with fail
        refine KEY3.out.mono ?_
        rintro e w2 ⟨⟨rfl, i2⟩, hb2⟩
        have sz2 : w.heap.size + 1 ≤ w2.heap.size := by
          have := hb2.size
          simpa using this
        have E2 := (hE1 (.cells #[.int .i64 0, .int .i64 0, .int .i64 0, .int .i64 0, .slice none 0 0] 24)).below (by simpa using hb2)
        unfold numsV
        go_wp2_with fail
        refine (laid_c k (w.heap.size + 1) 0 n n l w2 E2.shp i2 (by omega) hk1 hk2).mono ?_
        cases hly : layC k l with
        | none =>
          rw [hly] at HR
          rintro e w3 ⟨rfl, hb3⟩
          have hb4 : Below (w.heap.size + 1) (w.alloc (.cells #[.int .i64 0, .int .i64 0, .int .i64 0, .int .i64 0, .slice none 0 0] 24)) w3 := hb2.trans (hb3.mono sz2)
          have c0 : ∀ i, w3.cell? ⟨w.heap.size, i, none⟩ = _ := fun i => (hb4.cell (p := ⟨w.heap.size, i, none⟩) (by simp)).trans (cell_of_row _ _ _ _ _ _ (heap_new w (.cells #[.int .i64 0, .int .i64 0, .int .i64 0, .int .i64 0, .slice none 0 0] 24)))
          have f0 : ∀ i, w3.frozen? ⟨w.heap.size, i, none⟩ = false := fun i => (hb4.frozen (p := ⟨w.heap.size, i, none⟩) (by simp)).trans (frozen_row (heap_new w (.cells #[.int .i64 0, .int .i64 0, .int .i64 0, .int .i64 0, .slice none 0 0] 24)))
          unfold cmdV zeroC
          go_wp2
          refine bodyPost_ret (v := .tuple #[cmdV none 0 0 zeroC, .bool false]) (by simp [results, Tryd.results15, go_sem, cmdV, zeroC, c0]) rfl ⟨?_, five_below ((belowA (Below.refl _ _) _).trans (hb4.mono (by omega))) _ _ _ _ _⟩
          rw [HR.out]
          exact rfl
        | some b =>
          rw [hly] at HR
          rintro e w3 ⟨⟨a3, n3, rfl, i3, x3⟩, hb3⟩
          have hb4 : Below (w.heap.size + 1) (w.alloc (.cells #[.int .i64 0, .int .i64 0, .int .i64 0, .int .i64 0, .slice none 0 0] 24)) w3 := hb2.trans (hb3.mono sz2)
          have c0 : ∀ i, w3.cell? ⟨w.heap.size, i, none⟩ = _ := fun i => (hb4.cell (p := ⟨w.heap.size, i, none⟩) (by simp)).trans (cell_of_row _ _ _ _ _ _ (heap_new w (.cells #[.int .i64 0, .int .i64 0, .int .i64 0, .int .i64 0, .slice none 0 0] 24)))
          have f0 : ∀ i, w3.frozen? ⟨w.heap.size, i, none⟩ = false := fun i => (hb4.frozen (p := ⟨w.heap.size, i, none⟩) (by simp)).trans (frozen_row (heap_new w (.cells #[.int .i64 0, .int .i64 0, .int .i64 0, .int .i64 0, .slice none 0 0] 24)))
          unfold cmdV
          have hne : ∀ x, a3 = some x → x.block ≠ w.heap.size := fun x e => by
            have := x3 x e
            omega
          go_wp2
          refine bodyPost_ret (v := .tuple #[cmdV a3 n3 n3 b, .bool true]) (by simp [results, Tryd.results15, go_sem, cmdV, c0]) rfl ⟨?_, five_below ((belowA (Below.refl _ _) _).trans (hb4.mono (by omega))) _ _ _ _ _⟩
          rw [HR.out]
          refine ⟨_, _, rfl, i3.five _ hne _ _ _ _ _, fun x e => ?_⟩
          have := x3 x e
          omega

end Go.Proofs.YtijcllkphheddabDoor
