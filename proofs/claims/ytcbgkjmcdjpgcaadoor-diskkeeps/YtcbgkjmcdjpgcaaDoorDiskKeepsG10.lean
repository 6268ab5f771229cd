/- Lines read one by one, and texts parted behind their line feeds; plain mathematics, no condition. -/
import Derived.Test.YtcbgkjmcdjpgcaaDoorDiskKeepsG8
import Derived.Test.YtcbgkjmcdjpgcaaDoorDiskKeepsG2
import Derived.Test.YtcbgkjmcdjpgcaaDoorDiskKeepsG9
import Derived.Test.YtcbgkjmcdjpgcaaDoorDiskKeepsG1
import Derived.Test.YtcbgkjmcdjpgcaaDoorDiskKeepsG3
import Derived.Test.YtcbgkjmcdjpgcaaDoorDiskKeepsG4
import Derived.Deep.Light
import Derived.BigQuiet
import Derived.Test.YtcbgkjmcdjpgcaaDoorDiskKeepsG7
import Derived.Deep.DeepCutAuto
import Derived.Lib.OthersKept
import Derived.WideMake
import Derived.ChangeMaps4
import Derived.Lib.SlicesS
namespace Go.Proofs.YtcbgkjmcdjpgcaaDoor
open Go.RowKit
set_option linter.unusedVariables false
set_option maxRecDepth 100000
set_option linter.unusedSimpArgs false

/-- The first line's record, what stands behind it, what is wrong with it. -/
def firstP (l : List UInt8) : PR × List UInt8 × Int := match cutN l with
  | none => (zeroR, [], 9)
  | some (a, r) => ((parseR a).1, r, (parseR a).2)
theorem firstP_none {l : List UInt8} (h : cutN l = none) : firstP l = (zeroR, [], 9) := by unfold firstP; rw [h]
theorem firstP_some {l a r : List UInt8} (h : cutN l = some (a, r)) : firstP l = ((parseR a).1, r, (parseR a).2) := by unfold firstP; rw [h]
theorem cutN_len {l a r : List UInt8} (h : cutN l = some (a, r)) : a.length + 1 + r.length = l.length := by
  have := congrArg List.length (cutN_some h).1
  simp only [List.length_append, List.length_cons] at this
  omega

/-- The records D of the text l have been read, r is left. -/
structure Ahd (most : Nat) (l : List UInt8) (D : List PR) (r : List UInt8) : Prop where
  le : D.length ≤ most
  len : r.length ≤ l.length
  eq : linesP most l = (D ++ (linesP (most - D.length) r).1, (l.length - r.length) + (linesP (most - D.length) r).2.1, (linesP (most - D.length) r).2.2)
theorem Ahd.start (most : Nat) (l : List UInt8) : Ahd most l [] l := ⟨Nat.zero_le _, Nat.le_refl _, by simp⟩
theorem Ahd.step {most : Nat} {l r : List UInt8} {D : List PR} (h : Ahd most l D r) (hf : (firstP r).2.2 = 0) (hm : D.length < most) : Ahd most l (D ++ [(firstP r).1]) (firstP r).2.1 ∧ (firstP r).2.1.length < r.length := by
  cases hc : cutN r with
  | none => rw [firstP_none hc] at hf; cases hf
  | some p =>
    obtain ⟨a, b⟩ := p
    have hlen := cutN_len hc
    have h2 := h.len
    rw [firstP_some hc] at hf ⊢
    simp only at hf ⊢
    obtain ⟨m, hm'⟩ : ∃ m, most - D.length = m + 1 := ⟨most - D.length - 1, by omega⟩
    refine ⟨⟨by simp; omega, by omega, ?_⟩, by omega⟩
    have e := h.eq
    rw [hm', linesP_line hc, if_neg (by simp [hf])] at e
    simp only at e
    rw [e, show most - (D ++ [(parseR a).1]).length = m by simp; omega]
    simp
    omega
theorem Ahd.done {most : Nat} {l : List UInt8} {D : List PR} (h : Ahd most l D []) : linesP most l = (D, l.length, 0) := by
  have e := h.eq
  rw [linesP_nil] at e
  simpa using e
theorem Ahd.bad {most : Nat} {l r : List UInt8} {D : List PR} (h : Ahd most l D r) (hr : r ≠ []) (hf : (firstP r).2.2 ≠ 0) : linesP most l = (D, l.length - r.length, (firstP r).2.2) := by
  have e := h.eq
  cases hc : cutN r with
  | none =>
    rw [linesP_torn hr hc] at e
    rw [firstP_none hc]
    simpa using e
  | some p =>
    obtain ⟨a, b⟩ := p
    rw [firstP_some hc] at hf ⊢
    rw [linesP_line hc, if_pos hf] at e
    simpa using e
theorem Ahd.many {most : Nat} {l r : List UInt8} {D : List PR} (h : Ahd most l D r) (hf : (firstP r).2.2 = 0) (hm : D.length = most) : linesP most l = (D, l.length - r.length, 2) := by
  have e := h.eq
  cases hc : cutN r with
  | none => rw [firstP_none hc] at hf; cases hf
  | some p =>
    obtain ⟨a, b⟩ := p
    rw [firstP_some hc] at hf
    rw [linesP_line hc, if_neg (by simpa using hf), show most - D.length = 0 by omega] at e
    simpa using e
theorem Ahd.stop {most : Nat} {l r : List UInt8} {D : List PR} (h : Ahd most l D r) (hs : D.length = most ∨ (firstP r).2.2 ≠ 0) : (linesP most l).1 = D ∧ (linesP most l).2.1 = l.length - r.length := by
  by_cases hr : r = []
  · subst hr
    rw [h.done]
    simp
  · by_cases hf : (firstP r).2.2 = 0
    · rw [h.many hf (hs.resolve_right (by simp [hf]))]
      exact ⟨rfl, rfl⟩
    · rw [h.bad hr hf]
      exact ⟨rfl, rfl⟩

/-- A text parted behind its line feeds. -/
def lns : List UInt8 → List (List UInt8)
  | [] => [[]]
  | b :: l => if b = 10 then [10] :: lns l else match lns l with
    | [] => [[b]]
    | t :: ts => (b :: t) :: ts
theorem lns_none : ∀ {l : List UInt8}, cutN l = none → lns l = [l]
  | [], _ => rfl
  | b :: l, h => by
    by_cases hb : b = 10
    · simp [cutN, hb] at h
    · simp only [cutN, if_neg hb, Option.map_eq_none_iff] at h
      simp only [lns, if_neg hb, lns_none h]
theorem lns_some : ∀ {l a r : List UInt8}, cutN l = some (a, r) → lns l = (a ++ [10]) :: lns r
  | [], a, r, h => by simp [cutN] at h
  | b :: l, a, r, h => by
    by_cases hb : b = 10
    · subst hb
      simp [cutN] at h
      obtain ⟨rfl, rfl⟩ := h
      simp [lns]
    · simp only [cutN, if_neg hb] at h
      cases hc : cutN l with
      | none => rw [hc] at h; cases h
      | some p =>
        obtain ⟨x, y⟩ := p
        rw [hc] at h
        simp at h
        obtain ⟨rfl, rfl⟩ := h
        simp only [lns, if_neg hb, lns_some hc, List.cons_append]
theorem lns_ne (l : List UInt8) : lns l ≠ [] := by
  cases hc : cutN l with
  | none => rw [lns_none hc]; simp
  | some p => obtain ⟨a, r⟩ := p; rw [lns_some hc]; simp

theorem split_lns : ∀ s : List UInt8, Lib.splitK [10] 1 (Lib.count s [10]) s = lns s
  | [] => by rw [Lib.count_one]; rfl
  | b :: l => by
    have ih := split_lns l
    by_cases hb : b = 10
    · subst hb
      rw [Lib.count_cons_eq, Nat.add_comm 1]
      have hix : Lib.index (10 :: l) [10] = 0 := by rw [Lib.index]; simp [List.isPrefixOf]
      simp [Lib.splitK, hix, lns, ih]
    · rw [Lib.count_cons_ne b 10 l hb]
      have hp : ([10] : List UInt8).isPrefixOf (b :: l) = false := by simp [List.isPrefixOf, Ne.symm hb]
      have hix : Lib.index (b :: l) [10] = if Lib.index l [10] == -1 then -1 else Lib.index l [10] + 1 := by rw [Lib.index, hp]; simp
      have hge := Lib.index_ge l [10]
      cases hc : Lib.count l [10] with
      | zero =>
        rw [hc] at ih
        simp only [Lib.splitK] at ih ⊢
        simp [lns, hb, ← ih]
      | succ k =>
        rw [hc] at ih
        have hm : Lib.index l [10] ≠ -1 := by
          intro e
          rw [Lib.count_miss e] at hc
          cases hc
        obtain ⟨j, hj⟩ : ∃ j : Nat, Lib.index l [10] = j := ⟨(Lib.index l [10]).toNat, by omega⟩
        have hix' : Lib.index (b :: l) [10] = ((j + 1 : Nat) : Int) := by rw [hix, if_neg (fun e => hm (beq_iff_eq.1 e)), hj]; omega
        have n1 : ¬ ((j : Int) = -1) := by omega
        have n2 : ¬ (((j + 1 : Nat) : Int) = -1) := by omega
        simp only [Lib.splitK, hj, beq_iff_eq, n1, if_false] at ih
        simp only [Lib.splitK, hix', beq_iff_eq, n2, if_false, lns, hb, ← ih]
        simp
theorem splitB_lns (s : ByteArray) : (Lib.splitB ⟨#[10]⟩ 1 (Lib.countB s ⟨#[10]⟩) s).map (·.data.toList) = lns s.data.toList := by
  rw [Lib.splitB_data, ← split_lns]

/-- Where the first line feed stands. -/
theorem index_N : ∀ l : List UInt8, (cutN l = none ∧ Lib.index l [10] = -1) ∨ ∃ h t, cutN l = some (h, t) ∧ Lib.index l [10] = (h.length : Int)
  | [] => .inl ⟨rfl, rfl⟩
  | b :: l => by
    by_cases hb : b = 10
    · subst hb
      exact .inr ⟨[], l, by simp [cutN], by rw [Lib.index]; simp [List.isPrefixOf]⟩
    · have hp : ([10] : List UInt8).isPrefixOf (b :: l) = false := by simp [List.isPrefixOf, Ne.symm hb]
      have hix : Lib.index (b :: l) [10] = if Lib.index l [10] == -1 then -1 else Lib.index l [10] + 1 := by rw [Lib.index, hp]; simp
      rw [hix, cutN, if_neg hb]
      rcases index_N l with ⟨h1, h2⟩ | ⟨h, t, h1, h2⟩
      · left
        rw [h1, h2]
        exact ⟨rfl, rfl⟩
      · right
        rw [h1, h2]
        refine ⟨b :: h, t, rfl, ?_⟩
        have n1 : ((h.length : Int) == -1) = false := by simp
        simp [n1]

end Go.Proofs.YtcbgkjmcdjpgcaaDoor

/- The contracts of disk.join and disk.size; no condition but that the bytes are read, and on their number. -/
namespace Go.Proofs.YtcbgkjmcdjpgcaaDoor
open Go.RowKit
set_option linter.unusedVariables false
set_option maxRecDepth 100000
set_option linter.unusedSimpArgs false

theorem infoU8 : (Tryd.prog.info? 5).map (fun i => (i.zero, i.size, i.bytes)) = some (some (.int .u8 0), 1, 1) := by kernel_rfl
theorem sizeU8 : (Tryd.prog.info? 5).map (·.size) = some 1 := by kernel_rfl

theorem Byts.of_row {w : World} {g : Nat} {l : List UInt8} {t : TypeId} {fr : Nat × Nat} (hg : w.heap[g]? = some (.cells (bytC l).toArray t fr)) (hmax : l.length ≤ 9223372036854775807) {n : Nat} (hn : l.length = n) : Byts w (some ⟨g, 0, none⟩) n n l :=
  Cel.of_row hg (by rw [bytC_len]; exact hmax) (by rw [bytC_len]; exact hn)

set_option maxHeartbeats 1000000 in
theorem djoin_none (a : Option Addr) (n c : Nat) (l : List UInt8) (b : Option Addr) (d : Nat) (w : World) (h1 : Byts w a n c l) (hnm : n ≤ 1000000) :
    Calls Tryd.prog 19 #[.slice a n c, .slice b 0 d] w fun e w' => (e = .returned (.slice (some ⟨w.heap.size, 0, none⟩) n n) ∧ Byts w' (some ⟨w.heap.size, 0, none⟩) n n l) ∧ Below w.heap.size w w' := by
  have hmk := run_make_row' (P := Tryd.prog) 24 5 (.int .u8 0) 1 Tryd.underlying24 infoU8 rfl .i64 .i64 n (by omega) (by omega)
  have hl1 := h1.len
  go_enter Tryd.func19, Tryd.ntmps19
  go_wp2_with fail
  obtain ⟨w2, r2, g2, b2⟩ := copy_run (P := Tryd.prog) (w.alloc (.cells (madeCells #[.int .u8 0] n) 5)) 24 24 3 5 Tryd.underlying24 sizeU8 (some ⟨w.heap.size, 0, none⟩) a n n n c w.heap.size 0
    (madeCells #[.int .u8 0] n).toList 5 (heap_new _ _) (bytC l) (by rw [bytC_len, hl1]; exact (Nat.min_self n).symm) (fun hp => ⟨rfl, Cel.src (h1.below (B := w.heap.size) (by (repeat (first | exact Below.refl _ _ | assumption | refine Below.drew ?_ | refine below_drewN ?_ _ | refine belowA ?_ _ | refine belowT ?_ (by assumption) | refine Below.setCell ?_ (by first | (simp; done) | (simp; omega)) _))) (Nat.le_refl _)) (by rw [bytC_len, hl1] at hp; exact hp)⟩) (by simp [size_madeCells, bytC_len, hl1]) (bytC_one l)
  rw [r2]
  have G2 := hide g2
  clear g2 r2
  go_wp2_with fail
  rw [run_copy_none (P := Tryd.prog) _ 24 24 3 5 _ _ _ _ _ _ Tryd.underlying24 sizeU8 (by first | rfl | simp)]
  go_wp2
  go_ret
  have g2 := G2.out
  rw [splice_one _ _ (by simp [size_madeCells, bytC_len, hl1])] at g2
  exact ⟨⟨rfl, Byts.of_row g2 (by rw [hl1]; omega) hl1⟩, (belowA (Below.refl _ _) _).trans b2⟩

set_option maxHeartbeats 1000000 in
theorem djoin_some (a : Option Addr) (n c : Nat) (l : List UInt8) (b : Option Addr) (m d : Nat) (k : List UInt8) (w : World) (h1 : Byts w a n c l) (h2 : Byts w b m d k) (hnm : n + m ≤ 1000000) (hm : 0 < m) :
    Calls Tryd.prog 19 #[.slice a n c, .slice b m d] w fun e w' => (e = .returned (.slice (some ⟨w.heap.size, 0, none⟩) (n + m) (n + m)) ∧ Byts w' (some ⟨w.heap.size, 0, none⟩) (n + m) (n + m) (l ++ k)) ∧ Below w.heap.size w w' := by
  have hmk := run_make_row' (P := Tryd.prog) 24 5 (.int .u8 0) 1 Tryd.underlying24 infoU8 rfl .i64 .i64 (n + m) (by omega) (by omega)
  rw [Int.natCast_add] at hmk
  have hl1 := h1.len
  have hl2 := h2.len
  go_enter Tryd.func19, Tryd.ntmps19
  go_wp2_with fail
  obtain ⟨w2, r2, g2, b2⟩ := copy_run (P := Tryd.prog) (w.alloc (.cells (madeCells #[.int .u8 0] (n + m)) 5)) 24 24 3 5 Tryd.underlying24 sizeU8 (some ⟨w.heap.size, 0, none⟩) a (n + m) (n + m) n c w.heap.size 0
    (madeCells #[.int .u8 0] (n + m)).toList 5 (heap_new _ _) (bytC l) (by rw [bytC_len, hl1]; exact (Nat.min_eq_left (by omega)).symm) (fun hp => ⟨rfl, Cel.src (h1.below (B := w.heap.size) (by (repeat (first | exact Below.refl _ _ | assumption | refine Below.drew ?_ | refine below_drewN ?_ _ | refine belowA ?_ _ | refine belowT ?_ (by assumption) | refine Below.setCell ?_ (by first | (simp; done) | (simp; omega)) _))) (Nat.le_refl _)) (by rw [bytC_len, hl1] at hp; exact hp)⟩) (by simp [size_madeCells, bytC_len, hl1]) (bytC_one l)
  have bw2 : Below w.heap.size w w2 := (belowA (Below.refl _ _) _).trans b2
  obtain ⟨w3, r3, g3, b3⟩ := copy_run (P := Tryd.prog) w2 24 24 3 5 Tryd.underlying24 sizeU8 (some ⟨w.heap.size, n, none⟩) b m m m d w.heap.size n
    _ 5 g2 (bytC k) (by rw [bytC_len, hl2]; exact (Nat.min_self m).symm) (fun hp => ⟨rfl, Cel.src (h2.below (B := w.heap.size) bw2 (Nat.le_refl _)) hm⟩) (by rw [length_splice _ _ _ (by simp [size_madeCells, bytC_len, hl1])]; simp [size_madeCells, bytC_len, hl2]) (bytC_one k)
  rw [r2]
  have G3 := hide g3
  have R3 := hide r3
  clear g2 r2 g3 r3
  have hm0 : ¬ m = 0 := by omega
  go_wp2_with fail
  rw [R3.out]
  go_wp2
  go_ret
  have g3 := G3.out
  have hs := splice_two (madeCells #[.int .u8 0] (n + m)).toList (bytC l) (bytC k) (by simp [size_madeCells, bytC_len, hl1, hl2])
  rw [bytC_len, hl1] at hs
  rw [hs, bytC_app] at g3
  exact ⟨⟨rfl, Byts.of_row g3 (by rw [List.length_append, hl1, hl2]; omega) (by rw [List.length_append, hl1, hl2])⟩, bw2.trans b3⟩

theorem djoin_c (a : Option Addr) (n c : Nat) (l : List UInt8) (b : Option Addr) (m d : Nat) (k : List UInt8) (w : World) (h1 : Byts w a n c l) (h2 : Byts w b m d k) (hnm : n + m ≤ 1000000) :
    Calls Tryd.prog 19 #[.slice a n c, .slice b m d] w fun e w' => (e = .returned (.slice (some ⟨w.heap.size, 0, none⟩) (n + m) (n + m)) ∧ Byts w' (some ⟨w.heap.size, 0, none⟩) (n + m) (n + m) (l ++ k)) ∧ Below w.heap.size w w' := by
  rcases Nat.eq_zero_or_pos m with hm | hm
  · subst hm
    have hk := h2.len
    rw [List.length_eq_zero_iff] at hk
    subst hk
    rw [List.append_nil, Nat.add_zero]
    exact djoin_none a n c l b d w h1 (by omega)
  · exact djoin_some a n c l b m d k w h1 h2 hnm hm

theorem dsize_c (a : Option Addr) (n c : Nat) (b : Option Addr) (m d : Nat) (w : World) (hn : n ≤ 140737488355328) (hm : m ≤ 140737488355328) :
    Calls Tryd.prog 18 #[.agg #[.slice a n c, .slice b m d]] w fun e w' => e = .returned (.int .i64 ((n + m : Nat) : Int)) ∧ Below w.heap.size w w' := by
  go_enter Tryd.func18, Tryd.ntmps18
  go_wp2
  go_ret
  exact ⟨ret_int (by omega), by (repeat (first | exact Below.refl _ _ | assumption | refine Below.drew ?_ | refine below_drewN ?_ _ | refine belowA ?_ _ | refine belowT ?_ (by assumption) | refine Below.setCell ?_ (by first | (simp; done) | (simp; omega)) _))⟩

end Go.Proofs.YtcbgkjmcdjpgcaaDoor

/- The contracts of the document's own answers on commands: has, SameCmd, CheckCmd; no condition but that the data reads as a list. -/
namespace Go.Proofs.YtcbgkjmcdjpgcaaDoor
open Go.RowKit
set_option linter.unusedVariables false
set_option maxRecDepth 100000
set_option linter.unusedSimpArgs false

/-- What a kind of command has, by letters. -/
def hasS (k : Nat) : ByteArray := match k with
  | 1 | 2 | 3 | 4 => ⟨#[122]⟩
  | 5 => ⟨#[122, 100]⟩
  | 6 => ⟨#[122, 97, 100]⟩
  | 7 => ⟨#[122, 97, 110]⟩
  | 8 | 9 | 11 => ⟨#[110]⟩
  | _ => ⟨#[]⟩

theorem hasS_z (k : Nat) (hk : k ≤ 12) : decide (0 ≤ Lib.indexByte (hasS k).data.toList 122) = hasZ k := by
  rcases (by omega : k = 0 ∨ k = 1 ∨ k = 2 ∨ k = 3 ∨ k = 4 ∨ k = 5 ∨ k = 6 ∨ k = 7 ∨ k = 8 ∨ k = 9 ∨ k = 10 ∨ k = 11 ∨ k = 12) with rfl | rfl | rfl | rfl | rfl | rfl | rfl | rfl | rfl | rfl | rfl | rfl | rfl <;> decide
theorem hasS_a (k : Nat) (hk : k ≤ 12) : decide (0 ≤ Lib.indexByte (hasS k).data.toList 97) = hasA k := by
  rcases (by omega : k = 0 ∨ k = 1 ∨ k = 2 ∨ k = 3 ∨ k = 4 ∨ k = 5 ∨ k = 6 ∨ k = 7 ∨ k = 8 ∨ k = 9 ∨ k = 10 ∨ k = 11 ∨ k = 12) with rfl | rfl | rfl | rfl | rfl | rfl | rfl | rfl | rfl | rfl | rfl | rfl | rfl <;> decide
theorem hasS_n (k : Nat) (hk : k ≤ 12) : decide (0 ≤ Lib.indexByte (hasS k).data.toList 110) = hasN k := by
  rcases (by omega : k = 0 ∨ k = 1 ∨ k = 2 ∨ k = 3 ∨ k = 4 ∨ k = 5 ∨ k = 6 ∨ k = 7 ∨ k = 8 ∨ k = 9 ∨ k = 10 ∨ k = 11 ∨ k = 12) with rfl | rfl | rfl | rfl | rfl | rfl | rfl | rfl | rfl | rfl | rfl | rfl | rfl <;> decide
theorem hasS_d (k : Nat) (hk : k ≤ 12) : decide (0 ≤ Lib.indexByte (hasS k).data.toList 100) = hasD k := by
  rcases (by omega : k = 0 ∨ k = 1 ∨ k = 2 ∨ k = 3 ∨ k = 4 ∨ k = 5 ∨ k = 6 ∨ k = 7 ∨ k = 8 ∨ k = 9 ∨ k = 10 ∨ k = 11 ∨ k = 12) with rfl | rfl | rfl | rfl | rfl | rfl | rfl | rfl | rfl | rfl | rfl | rfl | rfl <;> decide

end Go.Proofs.YtcbgkjmcdjpgcaaDoor

/- The contract of the document's own CheckCmd; no condition but that the data reads as a list. -/
namespace Go.Proofs.YtcbgkjmcdjpgcaaDoor
open Go.RowKit
set_option linter.unusedVariables false
set_option maxRecDepth 100000
set_option linter.unusedSimpArgs false

end Go.Proofs.YtcbgkjmcdjpgcaaDoor

/- The contracts of the document's own words and CmdText; no condition but that the data reads as a list, and the package-level variables are as their texts lay them. -/
namespace Go.Proofs.YtcbgkjmcdjpgcaaDoor
open Go.RowKit
set_option linter.unusedVariables false
set_option maxRecDepth 100000
set_option linter.unusedSimpArgs false

def wordsL : List ByteArray := (List.range 13).map word
def wordsS : ByteArray := ⟨#[32, 111, 112, 101, 110, 32, 99, 108, 111, 115, 101, 32, 102, 105, 110, 105, 115, 104, 32, 114, 101, 115, 101, 116, 32, 97, 112, 112, 101, 110, 100, 32, 119, 114, 105, 116, 101, 32, 114, 101, 97, 100, 32, 114, 101, 103, 105, 115, 116, 101, 114, 32, 114, 101, 115, 101, 114, 118, 101, 32, 114, 101, 108, 101, 97, 115, 101, 32, 112, 114, 101, 101, 109, 112, 116, 32, 99, 108, 101, 97, 114]⟩

theorem map_data_inj : ∀ {a b : List ByteArray}, a.map (·.data.toList) = b.map (·.data.toList) → a = b
  | [], [], _ => rfl
  | [], _ :: _, h => by simp at h
  | _ :: _, [], h => by simp at h
  | x :: a, y :: b, h => by
    simp only [List.map_cons, List.cons.injEq] at h
    rw [bytes_eq h.1, map_data_inj h.2]

theorem pieces_words : pieces wordsS = wordsL := map_data_inj (by rw [pieces_toks]; decide +kernel)
theorem count_words : Lib.countB wordsS ⟨#[32]⟩ = 12 := by
  have h := splitB_len wordsS
  have h2 : (pieces wordsS).length = 13 := by rw [pieces_words]; rfl
  unfold pieces at h2
  omega

theorem wordsL_get (k : Nat) (hk : k ≤ 12) : (wordsL.map Value.string)[k]? = some (.string (word k)) := by
  have : k < 13 := by omega
  simp [wordsL, this]

/-- A map's block set anew. -/
def setB (w : World) (r : Nat) (o : Obj) : World := { w with heap := w.heap.setIfInBounds r o }
theorem setB_same {w : World} {r : Nat} {o' : Obj} (h : w.heap[r]? = some o') (o : Obj) : (setB w r o).heap[r]? = some o := by
  have hlt := (Array.getElem?_eq_some_iff.1 h).1
  simp [setB, hlt]
theorem setB_cell (w : World) (r : Nat) (o : Obj) (p : Addr) (h : p.block ≠ r) : (setB w r o).cell? p = w.cell? p := by
  simp [setB, World.cell?, Array.getElem?_setIfInBounds, Ne.symm h]
theorem setB_below {B : Nat} {a w : World} (h : Below B a w) {r : Nat} (hr : B ≤ r) (o : Obj) : Below B a (setB w r o) :=
  h.trans ⟨rfl, rfl, rfl, by simp [setB], fun i hi => by simp [setB, Array.getElem?_setIfInBounds, show ¬ r = i by omega]⟩
theorem setB_size (w : World) (r : Nat) (o : Obj) : (setB w r o).heap.size = w.heap.size := by simp [setB]

/-- The numbers of a letter. -/
def lst (z n t : Int) (d : List Int) (c : UInt8) : List Int := if c = 122 then [z] else if c = 97 then [t] else if c = 110 then [n] else d
def flatT (l : List Int) : List UInt8 := l.flatMap fun v => 32 :: Lib.itoa v
theorem one_ints {w : World} {g : Nat} {x : Int} (h : w.cell? ⟨g, 0, none⟩ = some (.int .i64 x)) (hx : -9223372036854775808 ≤ x ∧ x ≤ 9223372036854775807) : Ints w (some ⟨g, 0, none⟩) 1 1 [x] := by
  refine ⟨rfl, Nat.le_refl _, by omega, fun e => (by cases e), .inr ⟨g, 0, rfl, World.block_lt_of_cell? w _ h, fun i hi => ?_⟩, fun y hy => by simp at hy; subst hy; exact hx⟩
  obtain rfl : i = 0 := by omega
  exact h
theorem lst_wf {z n t : Int} {d : List Int} (hwz : (0 ≤ z ∧ z ≤ 999) ∧ (0 ≤ n ∧ n ≤ 999) ∧ (0 ≤ t ∧ t ≤ 999)) (hwd : ∀ x ∈ d, 0 ≤ x ∧ x ≤ 999) (c : UInt8) : ∀ x ∈ lst z n t d c, 0 ≤ x ∧ x ≤ 999 := by
  intro x hx
  unfold lst at hx
  split at hx
  · simp at hx; omega
  · split at hx
    · simp at hx; omega
    · split at hx
      · simp at hx; omega
      · exact hwd x hx
theorem lst_len (z n t : Int) {d : List Int} (hd : d.length ≤ 8) (c : UInt8) : (lst z n t d c).length ≤ 8 := by
  unfold lst
  split
  · simp
  · split
    · simp
    · split
      · simp
      · exact hd
theorem lsts_wf {z n t : Int} {d : List Int} (hwz : (0 ≤ z ∧ z ≤ 999) ∧ (0 ≤ n ∧ n ≤ 999) ∧ (0 ≤ t ∧ t ≤ 999)) (hwd : ∀ x ∈ d, 0 ≤ x ∧ x ≤ 999) (l : List UInt8) : ∀ x ∈ l.flatMap (lst z n t d), 0 ≤ x ∧ x ≤ 999 := by
  intro x hx
  obtain ⟨c, _, h⟩ := List.mem_flatMap.1 hx
  exact lst_wf hwz hwd c x h
theorem lsts_len (z n t : Int) {d : List Int} (hd : d.length ≤ 8) : ∀ l : List UInt8, (l.flatMap (lst z n t d)).length ≤ 8 * l.length
  | [] => by simp
  | c :: l => by
    have h1 := lst_len z n t hd c
    have h2 := lsts_len z n t hd l
    simp only [List.flatMap_cons, List.length_append, List.length_cons]
    omega
theorem flatT_append (a b : List Int) : flatT (a ++ b) = flatT a ++ flatT b := by simp [flatT]
def posOf (w : World) (I : Nat) : Nat := match w.heap[I]? with
  | some (.stringIter _ p) => p
  | _ => 0
theorem posOf_at {w : World} {I : Nat} {s : ByteArray} {p : Nat} (h : w.heap[I]? = some (.stringIter s p)) : posOf w I = p := by
  unfold posOf
  rw [h]

theorem letters_list {b : PC} (h : checkC b = 0) : (hasS b.k.toNat).data.toList.flatMap (lst b.z b.n b.at' b.d) = listC b := by
  obtain ⟨k1, k2, _, _⟩ := checkC_ok h
  have hd := (checkC_zero h).2.2.2
  obtain ⟨k, z, n, t, d⟩ := b
  dsimp only at *
  obtain ⟨i, rfl⟩ : ∃ i : Nat, k = i := ⟨k.toNat, by omega⟩
  rcases (by omega : i = 1 ∨ i = 2 ∨ i = 3 ∨ i = 4 ∨ i = 5 ∨ i = 6 ∨ i = 7 ∨ i = 8 ∨ i = 9 ∨ i = 10 ∨ i = 11 ∨ i = 12) with rfl | rfl | rfl | rfl | rfl | rfl | rfl | rfl | rfl | rfl | rfl | rfl
  all_goals simp [hasD] at hd
  all_goals simp [hasS, lst, listC, pickN, hasZ, hasA, hasN, hd]

end Go.Proofs.YtcbgkjmcdjpgcaaDoor

/- Texts cut at their first blank, words by their places; plain mathematics, no condition. -/
namespace Go.Proofs.YtcbgkjmcdjpgcaaDoor
open Go.RowKit
set_option linter.unusedVariables false
set_option maxRecDepth 100000
set_option linter.unusedSimpArgs false

theorem index_cons_ne {b : UInt8} {l : List UInt8} (h : b ≠ 32) : Lib.index (b :: l) [32] = if Lib.index l [32] == -1 then -1 else Lib.index l [32] + 1 := by
  have hp : ([32] : List UInt8).isPrefixOf (b :: l) = false := by simp [List.isPrefixOf, Ne.symm h]
  rw [Lib.index, hp]
  simp
theorem index_cons_eq (l : List UInt8) : Lib.index (32 :: l) [32] = 0 := by rw [Lib.index]; simp [List.isPrefixOf]

/-- What Cut makes of a text: its first word, and the others, if there are any. -/
theorem cut_toks : ∀ l : List UInt8, toks l = (Lib.cut l [32]).1 :: (if (Lib.cut l [32]).2.2 then toks (Lib.cut l [32]).2.1 else []) ∧ (Lib.cut l [32]).2.1.length ≤ l.length ∧ (Lib.cut l [32]).1.length ≤ l.length
  | [] => by simp [Lib.cut, Lib.index, toks]
  | b :: l => by
    obtain ⟨ih, ih2, ih3⟩ := cut_toks l
    by_cases hb : b = 32
    · subst hb
      unfold Lib.cut
      rw [index_cons_eq]
      simp [toks]
    · unfold Lib.cut
      rw [index_cons_ne hb]
      by_cases hm : Lib.index l [32] = -1
      · unfold Lib.cut at ih
        simp [hm] at ih ⊢
        simp [toks, hb, ih]
      · have hge := Lib.index_ge l [32]
        obtain ⟨j, hj⟩ : ∃ j : Nat, Lib.index l [32] = j := ⟨(Lib.index l [32]).toNat, by omega⟩
        unfold Lib.cut at ih ih2 ih3
        rw [hj] at ih ih2 ih3 ⊢
        have n1 : ¬ ((j : Int) = -1) := by omega
        have n2 : (0 : Int) ≤ (j : Int) := by omega
        have n3 : (0 : Int) ≤ (j : Int) + 1 := by omega
        have n4 : ((j : Int) + 1).toNat = j + 1 := by omega
        simp only [n2, if_true, Int.toNat_natCast, beq_iff_eq, n1, if_false, n3, n4] at ih ih2 ih3 ⊢
        refine ⟨?_, by simp; omega, by simp; omega⟩
        simp only [toks, hb, if_false, ih]
        simp

theorem idx_words (x : ByteArray) : ∀ (f k : Nat), Lib.idxFromS ((List.range' k f).map word) x k = match kindFrom x f k with
    | some r => (r : Int)
    | none => -1
  | 0, k => rfl
  | f + 1, k => by
    rw [List.range'_succ, List.map_cons]
    unfold Lib.idxFromS kindFrom
    by_cases h : word k = x
    · rw [if_pos h, if_pos h]
    · rw [if_neg h, if_neg h]
      exact idx_words x f (k + 1)

/-- The place of a word. -/
theorem idx_kind (x : ByteArray) : (∃ k, kindOfS x = some k ∧ Lib.idxOfS wordsL x = (k : Int)) ∨ (kindOfS x = none ∧ Lib.idxOfS wordsL x < 1) := by
  have hw : wordsL = word 0 :: (List.range' 1 12).map word := rfl
  unfold Lib.idxOfS
  rw [hw]
  unfold Lib.idxFromS
  by_cases h : word 0 = x
  · right
    rw [if_pos h]
    refine ⟨?_, by decide⟩
    subst h
    decide +kernel
  · rw [if_neg h, idx_words]
    unfold kindOfS
    cases kindFrom x 12 1 with
    | none => right; exact ⟨rfl, by decide⟩
    | some k => left; exact ⟨k, rfl, rfl⟩

end Go.Proofs.YtcbgkjmcdjpgcaaDoor

/- Texts cut at their first colon and blank, at their first blank; plain mathematics, no condition. -/
namespace Go.Proofs.YtcbgkjmcdjpgcaaDoor
open Go.RowKit
set_option linter.unusedVariables false
set_option maxRecDepth 100000
set_option linter.unusedSimpArgs false

theorem cutC_cons {b : UInt8} {l : List UInt8} (h : ([58, 32] : List UInt8).isPrefixOf (b :: l) = false) : cutC (b :: l) = (cutC l).map fun p => (b :: p.1, p.2) := by
  rw [cutC.eq_def]
  split
  · rename_i q; cases q
  · rename_i r q
    rw [q] at h
    simp [List.isPrefixOf] at h
  · rename_i y r hne q
    simp at q
    rw [q.1, q.2]
theorem cutC_pre {b : UInt8} {l : List UInt8} (h : ([58, 32] : List UInt8).isPrefixOf (b :: l) = true) : ∃ r, b = 58 ∧ l = 32 :: r := by
  cases l with
  | nil => simp [List.isPrefixOf] at h
  | cons c r =>
    simp [List.isPrefixOf] at h
    exact ⟨r, h.1.symm, by rw [← h.2]⟩
/-- Where the first colon with a blank behind it stands. -/
theorem index_C : ∀ l : List UInt8, (cutC l = none ∧ Lib.index l [58, 32] = -1) ∨ ∃ h t, cutC l = some (h, t) ∧ Lib.index l [58, 32] = (h.length : Int)
  | [] => .inl ⟨rfl, rfl⟩
  | b :: l => by
    cases hp : ([58, 32] : List UInt8).isPrefixOf (b :: l) with
    | true =>
      obtain ⟨r, rfl, rfl⟩ := cutC_pre hp
      refine .inr ⟨[], r, rfl, ?_⟩
      rw [Lib.index, hp]
      rfl
    | false =>
      rw [Lib.index, hp, cutC_cons hp]
      rcases index_C l with ⟨h1, h2⟩ | ⟨h, t, h1, h2⟩
      · left
        rw [h1, h2]
        exact ⟨rfl, rfl⟩
      · right
        rw [h1, h2]
        refine ⟨b :: h, t, rfl, ?_⟩
        have n1 : ((h.length : Int) == -1) = false := by simp
        simp [n1]
theorem indexByte_B : ∀ l : List UInt8, (cutB l = none ∧ Lib.indexByte l 32 = -1) ∨ ∃ h t, cutB l = some (h, t) ∧ Lib.indexByte l 32 = (h.length : Int)
  | [] => .inl ⟨rfl, rfl⟩
  | b :: l => by
    by_cases hb : b = 32
    · subst hb
      exact .inr ⟨[], l, by simp [cutB], by simp [Lib.indexByte]⟩
    · have hb' : (b == 32) = false := by simpa using hb
      rw [Lib.indexByte, hb', cutB, if_neg hb]
      rcases indexByte_B l with ⟨h1, h2⟩ | ⟨h, t, h1, h2⟩
      · left
        rw [h1, h2]
        exact ⟨rfl, rfl⟩
      · right
        rw [h1, h2]
        refine ⟨b :: h, t, rfl, ?_⟩
        have n1 : ((h.length : Int) == -1) = false := by simp
        simp [n1]
theorem index_B : ∀ l : List UInt8, (cutB l = none ∧ Lib.index l [32] = -1) ∨ ∃ h t, cutB l = some (h, t) ∧ Lib.index l [32] = (h.length : Int)
  | [] => .inl ⟨rfl, rfl⟩
  | b :: l => by
    by_cases hb : b = 32
    · subst hb
      exact .inr ⟨[], l, by simp [cutB], index_cons_eq l⟩
    · rw [index_cons_ne hb, cutB, if_neg hb]
      rcases index_B l with ⟨h1, h2⟩ | ⟨h, t, h1, h2⟩
      · left
        rw [h1, h2]
        exact ⟨rfl, rfl⟩
      · right
        rw [h1, h2]
        refine ⟨b :: h, t, rfl, ?_⟩
        have n1 : ((h.length : Int) == -1) = false := by simp
        simp [n1]
theorem cut_C (l : List UInt8) : Lib.cut l [58, 32] = match cutC l with
  | some (h, t) => (h, t, true)
  | none => (l, [], false) := by
  rcases index_C l with ⟨h1, h2⟩ | ⟨h, t, h1, h2⟩
  · rw [h1, Lib.cut, h2]
    rfl
  · rw [h1, Lib.cut, h2, cutC_some h1, if_pos (by omega)]
    simp
theorem cut_B (l : List UInt8) : Lib.cut l [32] = match cutB l with
  | some (h, t) => (h, t, true)
  | none => (l, [], false) := by
  rcases index_B l with ⟨h1, h2⟩ | ⟨h, t, h1, h2⟩
  · rw [h1, Lib.cut, h2]
    rfl
  · rw [h1, Lib.cut, h2, cutB_some h1, if_pos (by omega)]
    simp

/-- What stands ahead of the command, and the command's text. -/
def headS (l : List UInt8) : Option (Int × Int × List UInt8) := match cutC l with
  | none => none
  | some (h, t) => match headR h with
    | none => none
    | some (v, u) => some (v, u, t)
theorem parseR_none {s : List UInt8} (hs : s.length ≤ 60000) (h : headS s = none) : parseR s = (zeroR, 1) := by
  unfold parseR
  unfold headS at h
  rw [if_neg (by omega)]
  cases hc : cutC s with
  | none => rfl
  | some p =>
    obtain ⟨a, t⟩ := p
    rw [hc] at h
    simp only at h ⊢
    cases hh : headR a with
    | none => rfl
    | some q => rw [hh] at h; cases h
theorem parseR_some {s t : List UInt8} {v u : Int} (hs : s.length ≤ 60000) (h : headS s = some (v, u, t)) : parseR s = if (parseC ⟨t.toArray⟩).2 ≠ 0 then (zeroR, (parseC ⟨t.toArray⟩).2)
    else if checkR ⟨v, u, (parseC ⟨t.toArray⟩).1⟩ ≠ 0 then (zeroR, checkR ⟨v, u, (parseC ⟨t.toArray⟩).1⟩) else (⟨v, u, (parseC ⟨t.toArray⟩).1⟩, 0) := by
  unfold parseR
  unfold headS at h
  rw [if_neg (by omega)]
  cases hc : cutC s with
  | none => rw [hc] at h; cases h
  | some p =>
    obtain ⟨a, t'⟩ := p
    rw [hc] at h
    simp only at h ⊢
    cases hh : headR a with
    | none => rw [hh] at h; cases h
    | some q =>
      obtain ⟨v', u'⟩ := q
      rw [hh] at h
      simp at h
      obtain ⟨rfl, rfl, rfl⟩ := h
      rfl
theorem headS_len {l t : List UInt8} {v u : Int} (h : headS l = some (v, u, t)) : t.length ≤ l.length := by
  unfold headS at h
  cases hc : cutC l with
  | none => rw [hc] at h; cases h
  | some p =>
    obtain ⟨a, t'⟩ := p
    rw [hc] at h
    simp only at h
    cases hh : headR a with
    | none => rw [hh] at h; cases h
    | some q =>
      rw [hh] at h
      simp at h
      have := cutC_some hc
      rw [this]
      simp [h.2.2]
      omega

/-- Pieces of a text that is put together. -/
theorem cat_ok (S1 S2 T : ByteArray) (h1 : S1.size ≤ 1000) (h2 : S2.size ≤ 1000) (h3 : T.size ≤ 1000) :
    ¬ (S1.size + (⟨#[32]⟩ : ByteArray).size > 9223372036854775807) ∧ ¬ ((S1 ++ ⟨#[32]⟩).size + S2.size > 9223372036854775807) ∧ ¬ ((S1 ++ ⟨#[32]⟩ ++ S2).size + (⟨#[58, 32]⟩ : ByteArray).size > 9223372036854775807) ∧ ¬ ((S1 ++ ⟨#[32]⟩ ++ S2 ++ ⟨#[58, 32]⟩).size + T.size > 9223372036854775807) := by
  have e1 : (⟨#[32]⟩ : ByteArray).size = 1 := rfl
  have e2 : (⟨#[58, 32]⟩ : ByteArray).size = 2 := rfl
  simp only [ByteArray.size_append, e1, e2]
  omega
theorem cat_ok2 (S1 S2 T : ByteArray) (h1 : S1.size ≤ 1000) (h2 : S2.size ≤ 1000) (h3 : T.size ≤ 1000) :
    ¬ (9223372036854775807 < S1.size + 1) ∧ ¬ (9223372036854775807 < S1.size + 1 + S2.size) ∧ ¬ (9223372036854775807 < S1.size + 1 + S2.size + 2) ∧ ¬ (9223372036854775807 < S1.size + 1 + S2.size + 2 + T.size) := by omega
theorem cat_eq (r : PR) : itoaB r.w ++ ⟨#[32]⟩ ++ itoaB r.s ++ ⟨#[58, 32]⟩ ++ ⟨(textC r.c).toArray⟩ = ⟨(textR r).toArray⟩ := by
  rw [show (⟨#[32]⟩ : ByteArray) = ⟨([32] : List UInt8).toArray⟩ from rfl, show (⟨#[58, 32]⟩ : ByteArray) = ⟨([58, 32] : List UInt8).toArray⟩ from rfl]
  unfold itoaB textR
  rw [mk_append, mk_append, mk_append, mk_append]
  simp
theorem itoaB_size {v : Int} (h0 : 0 ≤ v) (h1 : v ≤ 999) : (itoaB v).size ≤ 1000 := by
  have := itoa_len h0 h1
  rw [Lib.size_eq]
  simp [itoaB]
  omega
theorem textB_size {b : PC} (h : checkC b = 0) : (⟨(textC b).toArray⟩ : ByteArray).size ≤ 1000 := by
  have := textC_len h
  rw [Lib.size_eq]
  simp
  omega

end Go.Proofs.YtcbgkjmcdjpgcaaDoor
