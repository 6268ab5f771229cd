/- The contract of cmd.read; no condition but that the pieces read, and the package-level variables are as their texts lay them. -/
import Derived.Test.YtenmamcaldabdaaGreatDoorHallPartsG6
import Derived.Test.YtenmamcaldabdaaGreatDoorHallPartsG4
namespace Go.Proofs.YtenmamcaldabdaaGreatDoor
open Go.RowKit
set_option linter.unusedVariables false
set_option maxRecDepth 100000
set_option linter.unusedSimpArgs false

/-- The command that the pieces tell. -/
def readC (ts : List ByteArray) : Option PC := match ts with
  | [] => none
  | t :: r => match kindOfS t with
    | none => none
    | some k => match nums (r.map (·.data.toList)) with
      | none => none
      | some l => layC k l

theorem five_below {w w' : World} (h : Below w.heap.size w w') (v0 v1 v2 v3 v4 : Value) : Below w.heap.size w (((((w'.setCell ⟨w.heap.size, 0, none⟩ v0).setCell ⟨w.heap.size, 1, none⟩ v1).setCell ⟨w.heap.size, 2, none⟩ v2).setCell ⟨w.heap.size, 3, none⟩ v3).setCell ⟨w.heap.size, 4, none⟩ v4) :=
  ((((h.setCell (p := ⟨w.heap.size, 0, none⟩) (Nat.le_refl _) _).setCell (p := ⟨w.heap.size, 1, none⟩) (Nat.le_refl _) _).setCell (p := ⟨w.heap.size, 2, none⟩) (Nat.le_refl _) _).setCell (p := ⟨w.heap.size, 3, none⟩) (Nat.le_refl _) _).setCell (p := ⟨w.heap.size, 4, none⟩) (Nat.le_refl _) _
theorem Ints.five {w : World} {a : Option Addr} {n c : Nat} {l : List Int} (h : Ints w a n c l) (g : Nat) (hne : ∀ x, a = some x → x.block ≠ g) (v0 v1 v2 v3 v4 : Value) : Ints (((((w.setCell ⟨g, 0, none⟩ v0).setCell ⟨g, 1, none⟩ v1).setCell ⟨g, 2, none⟩ v2).setCell ⟨g, 3, none⟩ v3).setCell ⟨g, 4, none⟩ v4) a n c l :=
  ((((h.setCell _ _ hne).setCell _ _ hne).setCell _ _ hne).setCell _ _ hne).setCell _ _ hne

set_option maxRecDepth 100000 in
set_option maxHeartbeats 1000000 in
theorem read_c (g n : Nat) (t : ByteArray) (ts : List ByteArray) (w : World) (hE : Env w) (hl : ts.length = n) (hn : n ≤ 100000 - 1)
    (hsz : ∀ t ∈ ts, t.size ≤ 100000) (ht : w.cell? ⟨g, 0, none⟩ = some (.string t))
    (hr : ∀ i, i < n → w.cell? ⟨g, 1 + i, none⟩ = some (.string (ts.getD i ByteArray.empty))) :
    Calls Tryz.prog 133 #[.slice (some ⟨g, 0, none⟩) (n + 1) (n + 1)] w fun e w' => LaidRes w.heap.size w' e (readC (t :: ts)) ∧ Below w.heap.size w w' := by
  have n0 : (0 : Int) < ((n : Int) + 1) := by omega
  have n1 : (1 : Int) ≤ ((n : Int) + 1) := by omega
  have n2 : (n : Int) ≤ 100000 := by omega
  have ht1 := fun o => past1 ht o
  have hE1 := fun o => hE.below (belowA (Below.refl w.heap.size w) o)
  go_enter Tryz.func133, Tryz.ntmps133
  go_wp2_with fail
  refine (kindOf_c t _ (hE1 _).shp).mono ?_
  rintro e w1 ⟨rfl, rfl⟩
  cases hk : kindOfS t with
  | none =>
    have HR : Hid (readC (t :: ts) = none) := hide (by simp [readC, hk])
    unfold kindV
    go_wp2
    refine bodyPost_ret (v := .tuple #[cmdV none 0 0 zeroC, .bool false]) (by simp [results, Tryz.results133, go_sem, cmdV, zeroC]) rfl ⟨?_, ?_⟩
    · rw [HR.out]
      exact rfl
    · (repeat (first | exact Below.refl _ _ | assumption | refine Below.drew ?_ | refine below_drewN ?_ _ | refine belowA ?_ _ | refine belowT ?_ (by assumption) | refine Below.setCell ?_ (by first | (simp; done) | (simp; omega)) _))
  | some k =>
    obtain ⟨_, hk1, hk2⟩ := kindOfS_some hk
    have HR : Hid (readC (t :: ts) = match nums (ts.map (·.data.toList)) with
      | none => none
      | some l => layC k l) := hide (by simp [readC, hk])
    have key : ∀ p : Addr, (0 < n → p = ⟨g, 1, none⟩) → p.spot = none → Calls Tryz.prog 156 #[.slice (some p) n n] (w.alloc (.cells #[.int .i64 0, .int .i64 0, .int .i64 0, .int .i64 0, .slice none 0 0] 32)) fun e w' => NumsRes (w.heap.size + 1) w' n e (nums (ts.map (·.data.toList))) ∧ Below (w.heap.size + 1) (w.alloc (.cells #[.int .i64 0, .int .i64 0, .int .i64 0, .int .i64 0, .slice none 0 0] 32)) w' := by
      intro p hp hs
      obtain ⟨pb, po, ps⟩ := p
      obtain rfl : ps = none := hs
      have := numbers_c pb po n n ts (w.alloc (.cells #[.int .i64 0, .int .i64 0, .int .i64 0, .int .i64 0, .slice none 0 0] 32)) (hE1 _) hl (by omega) hsz (fun i hi => by
        cases hp (by omega)
        exact past1 (hr i hi) _)
      rw [show (w.alloc (.cells #[.int .i64 0, .int .i64 0, .int .i64 0, .int .i64 0, .slice none 0 0] 32)).heap.size = w.heap.size + 1 by simp] at this
      exact this
    have KEY := hide key
    clear key hr
    unfold kindV
    dsimp only
    cases hnm : nums (ts.map (·.data.toList)) with
    | none =>
      rw [hnm] at HR
      have K2 := KEY.out
      rw [hnm] at K2
      have KEY2 := hide K2
      clear K2 KEY hnm
      rcases Nat.eq_zero_or_pos n with h00 | hpos
      · have KEY3 := hide (KEY2.out ⟨g, 0, none⟩ (fun h => by omega) rfl)
        rw [h00] at KEY3 ⊢
        clear KEY2 hl hsz h00
        go_wp2_with fail
        refine KEY3.out.mono ?_
        rintro e w2 ⟨rfl, hb2⟩
        have c0 : ∀ i, w2.cell? ⟨w.heap.size, i, none⟩ = _ := fun i => (hb2.cell (p := ⟨w.heap.size, i, none⟩) (by simp)).trans (cell_of_row _ _ _ _ _ _ (heap_new w (.cells #[.int .i64 0, .int .i64 0, .int .i64 0, .int .i64 0, .slice none 0 0] 32)))
        have f0 : ∀ i, w2.frozen? ⟨w.heap.size, i, none⟩ = false := fun i => (hb2.frozen (p := ⟨w.heap.size, i, none⟩) (by simp)).trans (frozen_rowQ (heap_new w (.cells #[.int .i64 0, .int .i64 0, .int .i64 0, .int .i64 0, .slice none 0 0] 32)))
        unfold noNums
        go_wp2
        refine bodyPost_ret (v := .tuple #[cmdV none 0 0 zeroC, .bool false]) (by simp [results, Tryz.results133, go_sem, cmdV, zeroC, c0]) rfl ⟨?_, five_below ((belowA (Below.refl _ _) _).trans (hb2.mono (by omega))) _ _ _ _ _⟩
        rw [HR.out]
        exact rfl
      · have KEY3 := hide (KEY2.out ⟨g, 1, none⟩ (fun h => rfl) rfl)
        clear KEY2 hl hsz
        go_wp2_with fail
        refine KEY3.out.mono ?_
        rintro e w2 ⟨rfl, hb2⟩
        have c0 : ∀ i, w2.cell? ⟨w.heap.size, i, none⟩ = _ := fun i => (hb2.cell (p := ⟨w.heap.size, i, none⟩) (by simp)).trans (cell_of_row _ _ _ _ _ _ (heap_new w (.cells #[.int .i64 0, .int .i64 0, .int .i64 0, .int .i64 0, .slice none 0 0] 32)))
        have f0 : ∀ i, w2.frozen? ⟨w.heap.size, i, none⟩ = false := fun i => (hb2.frozen (p := ⟨w.heap.size, i, none⟩) (by simp)).trans (frozen_rowQ (heap_new w (.cells #[.int .i64 0, .int .i64 0, .int .i64 0, .int .i64 0, .slice none 0 0] 32)))
        unfold noNums
        go_wp2
        refine bodyPost_ret (v := .tuple #[cmdV none 0 0 zeroC, .bool false]) (by simp [results, Tryz.results133, go_sem, cmdV, zeroC, c0]) rfl ⟨?_, five_below ((belowA (Below.refl _ _) _).trans (hb2.mono (by omega))) _ _ _ _ _⟩
        rw [HR.out]
        exact rfl
    | some l =>
      rw [hnm] at HR
      have K2 := KEY.out
      rw [hnm] at K2
      have KEY2 := hide K2
      clear K2 KEY hnm
      rcases Nat.eq_zero_or_pos n with h00 | hpos
      · have KEY3 := hide (KEY2.out ⟨g, 0, none⟩ (fun h => by omega) rfl)
        rw [h00] at KEY3 ⊢
        clear KEY2 hl hsz h00
        go_wp2_with fail
        refine KEY3.out.mono ?_
        rintro e w2 ⟨⟨rfl, i2⟩, hb2⟩
        have sz2 : w.heap.size + 1 ≤ w2.heap.size := by
          have := hb2.size
          simpa using this
        have E2 := (hE1 (.cells #[.int .i64 0, .int .i64 0, .int .i64 0, .int .i64 0, .slice none 0 0] 32)).below (by simpa using hb2)
        unfold numsV
        go_wp2_with fail
        refine (laid_c k (w.heap.size + 1) 0 0 0 l w2 E2.shp i2 (by omega) hk1 hk2).mono ?_
        cases hly : layC k l with
        | none =>
          rw [hly] at HR
          rintro e w3 ⟨rfl, hb3⟩
          have hb4 : Below (w.heap.size + 1) (w.alloc (.cells #[.int .i64 0, .int .i64 0, .int .i64 0, .int .i64 0, .slice none 0 0] 32)) w3 := hb2.trans (hb3.mono sz2)
          have c0 : ∀ i, w3.cell? ⟨w.heap.size, i, none⟩ = _ := fun i => (hb4.cell (p := ⟨w.heap.size, i, none⟩) (by simp)).trans (cell_of_row _ _ _ _ _ _ (heap_new w (.cells #[.int .i64 0, .int .i64 0, .int .i64 0, .int .i64 0, .slice none 0 0] 32)))
          have f0 : ∀ i, w3.frozen? ⟨w.heap.size, i, none⟩ = false := fun i => (hb4.frozen (p := ⟨w.heap.size, i, none⟩) (by simp)).trans (frozen_rowQ (heap_new w (.cells #[.int .i64 0, .int .i64 0, .int .i64 0, .int .i64 0, .slice none 0 0] 32)))
          unfold cmdV zeroC
          go_wp2
          refine bodyPost_ret (v := .tuple #[cmdV none 0 0 zeroC, .bool false]) (by simp [results, Tryz.results133, go_sem, cmdV, zeroC, c0]) rfl ⟨?_, five_below ((belowA (Below.refl _ _) _).trans (hb4.mono (by omega))) _ _ _ _ _⟩
          rw [HR.out]
          exact rfl
        | some b =>
          rw [hly] at HR
          rintro e w3 ⟨⟨a3, n3, rfl, i3, x3⟩, hb3⟩
          have hb4 : Below (w.heap.size + 1) (w.alloc (.cells #[.int .i64 0, .int .i64 0, .int .i64 0, .int .i64 0, .slice none 0 0] 32)) w3 := hb2.trans (hb3.mono sz2)
          have c0 : ∀ i, w3.cell? ⟨w.heap.size, i, none⟩ = _ := fun i => (hb4.cell (p := ⟨w.heap.size, i, none⟩) (by simp)).trans (cell_of_row _ _ _ _ _ _ (heap_new w (.cells #[.int .i64 0, .int .i64 0, .int .i64 0, .int .i64 0, .slice none 0 0] 32)))
          have f0 : ∀ i, w3.frozen? ⟨w.heap.size, i, none⟩ = false := fun i => (hb4.frozen (p := ⟨w.heap.size, i, none⟩) (by simp)).trans (frozen_rowQ (heap_new w (.cells #[.int .i64 0, .int .i64 0, .int .i64 0, .int .i64 0, .slice none 0 0] 32)))
          unfold cmdV
          have hne : ∀ x, a3 = some x → x.block ≠ w.heap.size := fun x e => by
            have := x3 x e
            omega
          go_wp2
          refine bodyPost_ret (v := .tuple #[cmdV a3 n3 n3 b, .bool true]) (by simp [results, Tryz.results133, go_sem, cmdV, c0]) rfl ⟨?_, five_below ((belowA (Below.refl _ _) _).trans (hb4.mono (by omega))) _ _ _ _ _⟩
          rw [HR.out]
          refine ⟨_, _, rfl, i3.five _ hne _ _ _ _ _, fun x e => ?_⟩
          have := x3 x e
          omega
      · have KEY3 := hide (KEY2.out ⟨g, 1, none⟩ (fun h => rfl) rfl)
        clear KEY2 hl hsz
        go_wp2_with fail
        refine KEY3.out.mono ?_
        rintro e w2 ⟨⟨rfl, i2⟩, hb2⟩
        have sz2 : w.heap.size + 1 ≤ w2.heap.size := by
          have := hb2.size
          simpa using this
        have E2 := (hE1 (.cells #[.int .i64 0, .int .i64 0, .int .i64 0, .int .i64 0, .slice none 0 0] 32)).below (by simpa using hb2)
        unfold numsV
        go_wp2_with fail
        refine (laid_c k (w.heap.size + 1) 0 n n l w2 E2.shp i2 (by omega) hk1 hk2).mono ?_
        cases hly : layC k l with
        | none =>
          rw [hly] at HR
          rintro e w3 ⟨rfl, hb3⟩
          have hb4 : Below (w.heap.size + 1) (w.alloc (.cells #[.int .i64 0, .int .i64 0, .int .i64 0, .int .i64 0, .slice none 0 0] 32)) w3 := hb2.trans (hb3.mono sz2)
          have c0 : ∀ i, w3.cell? ⟨w.heap.size, i, none⟩ = _ := fun i => (hb4.cell (p := ⟨w.heap.size, i, none⟩) (by simp)).trans (cell_of_row _ _ _ _ _ _ (heap_new w (.cells #[.int .i64 0, .int .i64 0, .int .i64 0, .int .i64 0, .slice none 0 0] 32)))
          have f0 : ∀ i, w3.frozen? ⟨w.heap.size, i, none⟩ = false := fun i => (hb4.frozen (p := ⟨w.heap.size, i, none⟩) (by simp)).trans (frozen_rowQ (heap_new w (.cells #[.int .i64 0, .int .i64 0, .int .i64 0, .int .i64 0, .slice none 0 0] 32)))
          unfold cmdV zeroC
          go_wp2
          refine bodyPost_ret (v := .tuple #[cmdV none 0 0 zeroC, .bool false]) (by simp [results, Tryz.results133, go_sem, cmdV, zeroC, c0]) rfl ⟨?_, five_below ((belowA (Below.refl _ _) _).trans (hb4.mono (by omega))) _ _ _ _ _⟩
          rw [HR.out]
          exact rfl
        | some b =>
          rw [hly] at HR
          rintro e w3 ⟨⟨a3, n3, rfl, i3, x3⟩, hb3⟩
          have hb4 : Below (w.heap.size + 1) (w.alloc (.cells #[.int .i64 0, .int .i64 0, .int .i64 0, .int .i64 0, .slice none 0 0] 32)) w3 := hb2.trans (hb3.mono sz2)
          have c0 : ∀ i, w3.cell? ⟨w.heap.size, i, none⟩ = _ := fun i => (hb4.cell (p := ⟨w.heap.size, i, none⟩) (by simp)).trans (cell_of_row _ _ _ _ _ _ (heap_new w (.cells #[.int .i64 0, .int .i64 0, .int .i64 0, .int .i64 0, .slice none 0 0] 32)))
          have f0 : ∀ i, w3.frozen? ⟨w.heap.size, i, none⟩ = false := fun i => (hb4.frozen (p := ⟨w.heap.size, i, none⟩) (by simp)).trans (frozen_rowQ (heap_new w (.cells #[.int .i64 0, .int .i64 0, .int .i64 0, .int .i64 0, .slice none 0 0] 32)))
          unfold cmdV
          have hne : ∀ x, a3 = some x → x.block ≠ w.heap.size := fun x e => by
            have := x3 x e
            omega
          go_wp2
          refine bodyPost_ret (v := .tuple #[cmdV a3 n3 n3 b, .bool true]) (by simp [results, Tryz.results133, go_sem, cmdV, c0]) rfl ⟨?_, five_below ((belowA (Below.refl _ _) _).trans (hb4.mono (by omega))) _ _ _ _ _⟩
          rw [HR.out]
          refine ⟨_, _, rfl, i3.five _ hne _ _ _ _ _, fun x e => ?_⟩
          have := x3 x e
          omega

end Go.Proofs.YtenmamcaldabdaaGreatDoor

/- The contract of cmd.Parse; no condition but that the text is no longer than any that can be, and the package-level variables are as their texts lay them. -/
namespace Go.Proofs.YtenmamcaldabdaaGreatDoor
open Go.RowKit
set_option linter.unusedVariables false
set_option maxRecDepth 100000
set_option linter.unusedSimpArgs false

/-- The text's pieces between blanks. -/
def pieces (s : ByteArray) : List ByteArray := Lib.splitB ⟨#[32]⟩ 0 (Lib.countB s ⟨#[32]⟩) s
/-- What Parse answers. -/
def parseC (s : ByteArray) : PC × Int := if 60000 < s.size then (zeroC, 2) else match readC (pieces s) with
  | none => (zeroC, 1)
  | some b => if checkC b = 0 then (b, 0) else (zeroC, checkC b)

theorem splitB_size (sep : ByteArray) : ∀ (k : Nat) (s : ByteArray), ∀ t ∈ Lib.splitB sep 0 k s, t.size ≤ s.size
  | 0, s, t, h => by
    simp [Lib.splitB] at h
    subst h
    exact Nat.le_refl _
  | k + 1, s, t, h => by
    unfold Lib.splitB at h
    split at h
    · simp at h
      subst h
      exact Nat.le_refl _
    · rcases List.mem_cons.1 h with rfl | h
      · rw [ByteArray.size_extract]
        omega
      · have := splitB_size sep k _ t h
        rw [ByteArray.size_extract] at this
        omega

def ParseRes (B : Nat) (w' : World) (e : Ending) (r : PC × Int) : Prop := ∃ a n, e = .returned (.tuple #[cmdV a n n r.1, .int .i64 r.2]) ∧ Ints w' a n n r.1.d ∧ ∀ x, a = some x → B ≤ x.block
theorem ParseRes.zero {B : Nat} {w' : World} {e : Ending} {x : Int} (h : e = .returned (.tuple #[cmdV none 0 0 zeroC, .int .i64 x])) : ParseRes B w' e (zeroC, x) :=
  ⟨none, 0, h, Ints.nilSlice _, fun x e => by cases e⟩

set_option maxRecDepth 100000 in
set_option maxHeartbeats 1000000 in
theorem Parse_c (s : ByteArray) (w : World) (hE : Env w) (hs : s.size ≤ 9223372036854775807) :
    Calls Tryz.prog 103 #[.string s] w fun e w' => ParseRes w.heap.size w' e (parseC s) ∧ Below w.heap.size w w' := by
  by_cases hlong : 60000 < s.size
  · have HR : Hid (parseC s = (zeroC, 2)) := hide (by unfold parseC; rw [if_pos hlong])
    have h1 : (60000 : Int) < (s.size : Int) := by omega
    go_enter Tryz.func103, Tryz.ntmps103
    go_wp2
    refine bodyPost_ret (v := .tuple #[cmdV none 0 0 zeroC, .int .i64 2]) (by simp [results, Tryz.results103, go_sem, cmdV, zeroC]) rfl ⟨?_, ?_⟩
    · rw [HR.out]
      exact .zero rfl
    · (repeat (first | exact Below.refl _ _ | assumption | refine Below.drew ?_ | refine below_drewN ?_ _ | refine belowA ?_ _ | refine belowT ?_ (by assumption) | refine Below.setCell ?_ (by first | (simp; done) | (simp; omega)) _))
  · have HR : Hid (parseC s = match readC (pieces s) with
      | none => (zeroC, 1)
      | some b => if checkC b = 0 then (b, 0) else (zeroC, checkC b)) := hide (by unfold parseC; rw [if_neg hlong])
    have h1 : ¬ (60000 : Int) < (s.size : Int) := by omega
    have hcnt := Lib.countB_le ⟨#[32]⟩ (by decide) _ s (Nat.le_refl _)
    have hlen := splitB_len s
    have hsz := splitB_size ⟨#[32]⟩ (Lib.countB s ⟨#[32]⟩) s
    have hE1 := fun o => hE.below (belowA (Below.refl w.heap.size w) o)
    obtain ⟨m, hm⟩ := hE.max
    replace hm := fun o => past1 hm o
    unfold pieces at HR
    generalize hp : Lib.splitB ⟨#[32]⟩ 0 (Lib.countB s ⟨#[32]⟩) s = ps at *
    have HP := hide hp
    clear hp
    go_enter Tryz.func103, Tryz.ntmps103
    go_wp2_with fail
    refine (Tryz.strings_Split s ⟨#[32]⟩ m _ (by omega) (hm _) (by decide)).mono ?_
    rw [HP.out]
    rintro e w1 ⟨rfl, rfl⟩
    generalize Lib.countB s ⟨#[32]⟩ = cn at *
    go_wp2_with fail
    have q0 : ((w.alloc (.cells #[.int .i64 0, .int .i64 0, .int .i64 0, .int .i64 0, .slice none 0 0] 32)).alloc (.cells (List.map Value.string ps).toArray 9)).heap[w.heap.size]? = some (.cells #[.int .i64 0, .int .i64 0, .int .i64 0, .int .i64 0, .slice none 0 0] 32 (0, 0)) := by
      rw [Below.heap_alloc _ _ _ (by simp)]
      exact heap_new _ _
    have q1 : ((w.alloc (.cells #[.int .i64 0, .int .i64 0, .int .i64 0, .int .i64 0, .slice none 0 0] 32)).alloc (.cells (List.map Value.string ps).toArray 9)).heap[w.heap.size + 1]? = some (.cells (List.map Value.string ps).toArray 9 (0, 0)) := heap_new2 _ _ _
    have b2 : Below w.heap.size w ((w.alloc (.cells #[.int .i64 0, .int .i64 0, .int .i64 0, .int .i64 0, .slice none 0 0] 32)).alloc (.cells (List.map Value.string ps).toArray 9)) := by (repeat (first | exact Below.refl _ _ | assumption | refine Below.drew ?_ | refine below_drewN ?_ _ | refine belowA ?_ _ | refine belowT ?_ (by assumption) | refine Below.setCell ?_ (by first | (simp; done) | (simp; omega)) _))
    have E2 := hE.below b2
    have z2 : ((w.alloc (.cells #[.int .i64 0, .int .i64 0, .int .i64 0, .int .i64 0, .slice none 0 0] 32)).alloc (.cells (List.map Value.string ps).toArray 9)).heap.size = w.heap.size + 2 := by simp
    generalize ((w.alloc (.cells #[.int .i64 0, .int .i64 0, .int .i64 0, .int .i64 0, .slice none 0 0] 32)).alloc (.cells (List.map Value.string ps).toArray 9)) = w2 at *
    obtain ⟨u, us, rfl⟩ : ∃ u us, ps = u :: us := by
      cases ps with
      | nil => simp at hlen
      | cons u us => exact ⟨u, us, rfl⟩
    have hul : us.length = cn := by simpa using hlen
    have Q0 := hide q0
    have Q1 := hide q1
    have Z2 := hide z2
    clear q0 q1 z2 hE1 hm
    refine (read_c (w.heap.size + 1) cn u us w2 E2 hul (by omega) (fun t ht => by have := hsz t (by simp [ht]); omega) (by rw [cell_of_row _ _ _ _ _ _ Q1.out]; rfl) (fun i hi => by
      rw [cell_of_row _ _ _ _ _ _ Q1.out]
      simp [Nat.add_comm 1 i, List.getD]
      rw [List.getElem?_eq_getElem (by omega)]
      simp)).mono ?_
    cases hrd : readC (u :: us) with
    | none =>
      rw [hrd] at HR
      rintro e w3 ⟨rfl, hb3⟩
      have c0 : ∀ i, w3.cell? ⟨w.heap.size, i, none⟩ = _ := fun i => (hb3.cell (p := ⟨w.heap.size, i, none⟩) (by have := Z2.out; simp; omega)).trans (cell_of_row _ _ _ _ _ _ Q0.out)
      have f0 : ∀ i, w3.frozen? ⟨w.heap.size, i, none⟩ = false := fun i => (hb3.frozen (p := ⟨w.heap.size, i, none⟩) (by have := Z2.out; simp; omega)).trans (frozen_rowQ Q0.out)
      have hlt3 : w.heap.size < w3.heap.size := by have := hb3.size; have := Z2.out; omega
      have c1 : ∀ i, (w3.alloc (.cells #[.int .i64 0, .int .i64 0, .int .i64 0, .int .i64 0, .slice none 0 0] 32)).cell? ⟨w.heap.size, i, none⟩ = _ := fun i => (World.cell?_alloc_lt w3 _ ⟨w.heap.size, i, none⟩ hlt3).trans (c0 i)
      have f1 : ∀ i, (w3.alloc (.cells #[.int .i64 0, .int .i64 0, .int .i64 0, .int .i64 0, .slice none 0 0] 32)).frozen? ⟨w.heap.size, i, none⟩ = false := fun i => (World.frozen?_alloc_old w3 _ ⟨w.heap.size, i, none⟩ (Nat.ne_of_lt hlt3)).trans (f0 i)
      have b4 : Below w.heap.size w (w3.alloc (.cells #[.int .i64 0, .int .i64 0, .int .i64 0, .int .i64 0, .slice none 0 0] 32)) := by (repeat (first | exact Below.refl _ _ | assumption | refine Below.drew ?_ | refine below_drewN ?_ _ | refine belowA ?_ _ | refine belowT ?_ (by assumption) | refine Below.setCell ?_ (by first | (simp; done) | (simp; omega)) _))
      clear c0 f0
      unfold cmdV zeroC
      go_upto_region 4 with fail
      generalize w3.alloc (.cells #[.int .i64 0, .int .i64 0, .int .i64 0, .int .i64 0, .slice none 0 0] 32) = w4 at *
      go_wp2
      refine bodyPost_ret (v := .tuple #[cmdV none 0 0 zeroC, .int .i64 1]) (by simp [results, Tryz.results103, go_sem, cmdV, zeroC, c1]) rfl ⟨?_, ?_⟩
      · rw [HR.out]
        exact .zero rfl
      · exact five_below b4 _ _ _ _ _
    | some b =>
      rw [hrd] at HR
      rintro e w3 ⟨⟨a3, n3, rfl, i3, x3⟩, hb3⟩
      have E3 := E2.below hb3
      have c0 : ∀ i, w3.cell? ⟨w.heap.size, i, none⟩ = _ := fun i => (hb3.cell (p := ⟨w.heap.size, i, none⟩) (by have := Z2.out; simp; omega)).trans (cell_of_row _ _ _ _ _ _ Q0.out)
      have f0 : ∀ i, w3.frozen? ⟨w.heap.size, i, none⟩ = false := fun i => (hb3.frozen (p := ⟨w.heap.size, i, none⟩) (by have := Z2.out; simp; omega)).trans (frozen_rowQ Q0.out)
      have hlt3 : w.heap.size < w3.heap.size := by have := hb3.size; have := Z2.out; omega
      have c1 : ∀ i, (w3.alloc (.cells #[.int .i64 b.k, .int .i64 b.z, .int .i64 b.n, .int .i64 b.at', .slice a3 n3 n3] 32)).cell? ⟨w.heap.size, i, none⟩ = _ := fun i => (World.cell?_alloc_lt w3 _ ⟨w.heap.size, i, none⟩ hlt3).trans (c0 i)
      have f1 : ∀ i, (w3.alloc (.cells #[.int .i64 b.k, .int .i64 b.z, .int .i64 b.n, .int .i64 b.at', .slice a3 n3 n3] 32)).frozen? ⟨w.heap.size, i, none⟩ = false := fun i => (World.frozen?_alloc_old w3 _ ⟨w.heap.size, i, none⟩ (Nat.ne_of_lt hlt3)).trans (f0 i)
      have d1 : ∀ i, (w3.alloc (.cells #[.int .i64 b.k, .int .i64 b.z, .int .i64 b.n, .int .i64 b.at', .slice a3 n3 n3] 32)).cell? ⟨w3.heap.size, i, none⟩ = _ := fun i => cell_of_row _ _ _ _ _ _ (heap_new w3 (.cells #[.int .i64 b.k, .int .i64 b.z, .int .i64 b.n, .int .i64 b.at', .slice a3 n3 n3] 32))
      have b4 : Below w.heap.size w (w3.alloc (.cells #[.int .i64 b.k, .int .i64 b.z, .int .i64 b.n, .int .i64 b.at', .slice a3 n3 n3] 32)) := by (repeat (first | exact Below.refl _ _ | assumption | refine Below.drew ?_ | refine below_drewN ?_ _ | refine belowA ?_ _ | refine belowT ?_ (by assumption) | refine Below.setCell ?_ (by first | (simp; done) | (simp; omega)) _))
      have i4 : Ints (w3.alloc (.cells #[.int .i64 b.k, .int .i64 b.z, .int .i64 b.n, .int .i64 b.at', .slice a3 n3 n3] 32)) a3 n3 n3 b.d := i3.below (B := w3.heap.size) (by (repeat (first | exact Below.refl _ _ | assumption | refine Below.drew ?_ | refine below_drewN ?_ _ | refine belowA ?_ _ | refine belowT ?_ (by assumption) | refine Below.setCell ?_ (by first | (simp; done) | (simp; omega)) _))) (Nat.le_refl _)
      have E4 : Env (w3.alloc (.cells #[.int .i64 b.k, .int .i64 b.z, .int .i64 b.n, .int .i64 b.at', .slice a3 n3 n3] 32)) := E3.below (by (repeat (first | exact Below.refl _ _ | assumption | refine Below.drew ?_ | refine below_drewN ?_ _ | refine belowA ?_ _ | refine belowT ?_ (by assumption) | refine Below.setCell ?_ (by first | (simp; done) | (simp; omega)) _)))
      have hlt4 : w3.heap.size < (w3.alloc (.cells #[.int .i64 b.k, .int .i64 b.z, .int .i64 b.n, .int .i64 b.at', .slice a3 n3 n3] 32)).heap.size := by simp
      clear c0 f0 i3 E3
      unfold cmdV
      go_upto_region 4 with fail
      generalize w3.alloc (.cells #[.int .i64 b.k, .int .i64 b.z, .int .i64 b.n, .int .i64 b.at', .slice a3 n3 n3] 32) = w4 at *
      go_wp2_with fail
      have HC := cmdCheck_c a3 n3 n3 b w4 E4.shp i4
      unfold cmdV at HC
      refine HC.mono ?_
      clear HC
      rintro e w5 ⟨rfl, hb5⟩
      have c2 : ∀ i, w5.cell? ⟨w.heap.size, i, none⟩ = _ := fun i => (hb5.cell (p := ⟨w.heap.size, i, none⟩) (Nat.lt_trans hlt3 hlt4)).trans (c1 i)
      have f2 : ∀ i, w5.frozen? ⟨w.heap.size, i, none⟩ = false := fun i => (hb5.frozen (p := ⟨w.heap.size, i, none⟩) (Nat.lt_trans hlt3 hlt4)).trans (f1 i)
      have d2 : ∀ i, w5.cell? ⟨w3.heap.size, i, none⟩ = _ := fun i => (hb5.cell (p := ⟨w3.heap.size, i, none⟩) hlt4).trans (d1 i)
      have b5 : Below w.heap.size w w5 := by (repeat (first | exact Below.refl _ _ | assumption | refine Below.drew ?_ | refine below_drewN ?_ _ | refine belowA ?_ _ | refine belowT ?_ (by assumption) | refine Below.setCell ?_ (by first | (simp; done) | (simp; omega)) _))
      have i5 := i4.below hb5 (Nat.le_refl _)
      have hne : ∀ x, a3 = some x → x.block ≠ w.heap.size := fun x e => by
        have := x3 x e
        have := Z2.out
        omega
      clear c1 f1 d1 i4 hb5
      by_cases hck : checkC b = 0
      · have HR2 : Hid (parseC s = (b, 0)) := hide (by rw [HR.out]; simp [hck])
        rw [hck]
        go_wp2
        refine bodyPost_ret (v := .tuple #[cmdV a3 n3 n3 b, .int .i64 0]) (by simp [results, Tryz.results103, go_sem, cmdV, c2]) rfl ⟨?_, five_below b5 _ _ _ _ _⟩
        rw [HR2.out]
        refine ⟨_, _, rfl, i5.five _ hne _ _ _ _ _, fun x e => ?_⟩
        have := x3 x e
        have := Z2.out
        omega
      · have HR2 : Hid (parseC s = (zeroC, checkC b)) := hide (by rw [HR.out]; simp [hck])
        have hcb : (checkC b != 0) = true := by simpa using hck
        generalize checkC b = cb at *
        go_wp2
        refine bodyPost_ret (v := .tuple #[cmdV none 0 0 zeroC, .int .i64 cb]) (by simp [results, Tryz.results103, go_sem, cmdV, zeroC, c2]) rfl ⟨?_, five_below b5 _ _ _ _ _⟩
        rw [HR2.out]
        exact .zero rfl

end Go.Proofs.YtenmamcaldabdaaGreatDoor

/- The contract of zone.wake; no condition but that the pointer leads to a zone. -/
namespace Go.Proofs.YtenmamcaldabdaaGreatDoor
open Go.RowKit
set_option linter.unusedVariables false
set_option maxRecDepth 100000
set_option linter.unusedSimpArgs false

/-- The state of a zone of state s behind a write that makes it n blocks long. -/
def writeS (s : Int) (n : Nat) : Int := if n = 8 then 4 else if s = 2 then 2 else 1

theorem writeS_1 {s : Int} {n : Nat} (h : ((n : Int) == 8) = true) : writeS s n = 4 := by simp at h; simp [writeS]; omega
theorem writeS_2 {s : Int} {n : Nat} (h : ((n : Int) == 8) = false) (hs : (s != 2) = true) : writeS s n = 1 := by simp at h hs; simp [writeS, hs]; omega
theorem writeS_3 {s : Int} {n : Nat} (h : ((n : Int) == 8) = false) (hs : (s != 2) = false) : writeS s n = s := by simp at h hs; simp [writeS, hs]; omega

theorem wake_c (g : Nat) (s : Int) (a : Option Addr) (n c : Nat) (w : World) (h0 : w.cell? ⟨g, 0, none⟩ = some (.int .i64 s)) (h1 : w.cell? ⟨g, 1, none⟩ = some (.slice a n c)) (f0 : w.frozen? ⟨g, 0, none⟩ = false) (hn : n ≤ 9223372036854775807) :
    Calls Tryz.prog 195 #[.pointer (some ⟨g, 0, none⟩)] w fun e w' => (∃ v, e = .returned v) ∧ Put w w' ⟨g, 0, none⟩ (.int .i64 (writeS s n)) := by
  have hp := Put.refl h0
  go_enter Tryz.func195, Tryz.ntmps195
  go_wp2
  · go_end0
    exact ⟨⟨_, rfl⟩, by rw [writeS_1 ‹_›]; exact (hp.set _).set _⟩
  · go_end0
    exact ⟨⟨_, rfl⟩, by rw [writeS_2 ‹_› ‹_›]; exact hp.set _⟩
  · go_end0
    exact ⟨⟨_, rfl⟩, by rw [writeS_1 ‹_›]; exact hp.set _⟩
  · go_end0
    exact ⟨⟨_, rfl⟩, by rw [writeS_3 ‹_› ‹_›]; exact hp⟩

end Go.Proofs.YtenmamcaldabdaaGreatDoor
