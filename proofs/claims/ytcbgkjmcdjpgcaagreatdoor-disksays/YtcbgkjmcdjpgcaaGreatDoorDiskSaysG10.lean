/- The contracts of disk.join and disk.size; no condition but that the bytes are read, and on their number. -/
import Derived.Test.YtcbgkjmcdjpgcaaGreatDoorDiskSaysG8
import Derived.Test.YtcbgkjmcdjpgcaaGreatDoorDiskSaysG1
import Derived.Test.YtcbgkjmcdjpgcaaGreatDoorDiskSaysG3
import Derived.Test.YtcbgkjmcdjpgcaaGreatDoorDiskSaysG2
import Derived.Test.YtcbgkjmcdjpgcaaGreatDoorDiskSaysG4
import Derived.Deep.Light
import Derived.BigQuiet
namespace Go.Proofs.YtcbgkjmcdjpgcaaGreatDoor
open Go.RowKit
set_option linter.unusedVariables false
set_option maxRecDepth 100000
set_option linter.unusedSimpArgs false

theorem infoU8 : (Tryz.prog.info? 5).map (fun i => (i.zero, i.size, i.bytes)) = some (some (.int .u8 0), 1, 1) := by kernel_rfl
theorem sizeU8 : (Tryz.prog.info? 5).map (·.size) = some 1 := by kernel_rfl

theorem Byts.of_row {w : World} {g : Nat} {l : List UInt8} {t : TypeId} {fr : Nat × Nat} (hg : w.heap[g]? = some (.cells (bytC l).toArray t fr)) (hmax : l.length ≤ 9223372036854775807) {n : Nat} (hn : l.length = n) : Byts w (some ⟨g, 0, none⟩) n n l :=
  Cel.of_row hg (by rw [bytC_len]; exact hmax) (by rw [bytC_len]; exact hn)

set_option maxHeartbeats 1000000 in
theorem djoin_none (a : Option Addr) (n c : Nat) (l : List UInt8) (b : Option Addr) (d : Nat) (w : World) (h1 : Byts w a n c l) (hnm : n ≤ 1000000) :
    Calls Tryz.prog 20 #[.slice a n c, .slice b 0 d] w fun e w' => (e = .returned (.slice (some ⟨w.heap.size, 0, none⟩) n n) ∧ Byts w' (some ⟨w.heap.size, 0, none⟩) n n l) ∧ Below w.heap.size w w' := by
  have hmk := run_make_row' (P := Tryz.prog) 22 5 (.int .u8 0) 1 Tryz.underlying22 infoU8 rfl .i64 .i64 n (by omega) (by omega)
  have hl1 := h1.len
  go_enter Tryz.func20, Tryz.ntmps20
  go_wp2_with fail
  obtain ⟨w2, r2, g2, b2⟩ := copy_run (P := Tryz.prog) (w.alloc (.cells (madeCells #[.int .u8 0] n) 5)) 22 22 3 5 Tryz.underlying22 sizeU8 (some ⟨w.heap.size, 0, none⟩) a n n n c w.heap.size 0
    (madeCells #[.int .u8 0] n).toList 5 (heap_new _ _) (bytC l) (by rw [bytC_len, hl1]; exact (Nat.min_self n).symm) (fun hp => ⟨rfl, Cel.src (h1.below (B := w.heap.size) (by (repeat (first | exact Below.refl _ _ | assumption | refine Below.drew ?_ | refine below_drewN ?_ _ | refine belowA ?_ _ | refine belowT ?_ (by assumption) | refine Below.setCell ?_ (by first | (simp; done) | (simp; omega)) _))) (Nat.le_refl _)) (by rw [bytC_len, hl1] at hp; exact hp)⟩) (by simp [size_madeCells, bytC_len, hl1]) (bytC_one l)
  rw [r2]
  have G2 := hide g2
  clear g2 r2
  go_wp2_with fail
  rw [run_copy_none (P := Tryz.prog) _ 22 22 3 5 _ _ _ _ _ _ Tryz.underlying22 sizeU8 (by first | rfl | simp)]
  go_wp2
  go_ret
  have g2 := G2.out
  rw [splice_one _ _ (by simp [size_madeCells, bytC_len, hl1])] at g2
  exact ⟨⟨rfl, Byts.of_row g2 (by rw [hl1]; omega) hl1⟩, (belowA (Below.refl _ _) _).trans b2⟩

set_option maxHeartbeats 1000000 in
theorem djoin_some (a : Option Addr) (n c : Nat) (l : List UInt8) (b : Option Addr) (m d : Nat) (k : List UInt8) (w : World) (h1 : Byts w a n c l) (h2 : Byts w b m d k) (hnm : n + m ≤ 1000000) (hm : 0 < m) :
    Calls Tryz.prog 20 #[.slice a n c, .slice b m d] w fun e w' => (e = .returned (.slice (some ⟨w.heap.size, 0, none⟩) (n + m) (n + m)) ∧ Byts w' (some ⟨w.heap.size, 0, none⟩) (n + m) (n + m) (l ++ k)) ∧ Below w.heap.size w w' := by
  have hmk := run_make_row' (P := Tryz.prog) 22 5 (.int .u8 0) 1 Tryz.underlying22 infoU8 rfl .i64 .i64 (n + m) (by omega) (by omega)
  rw [Int.natCast_add] at hmk
  have hl1 := h1.len
  have hl2 := h2.len
  go_enter Tryz.func20, Tryz.ntmps20
  go_wp2_with fail
  obtain ⟨w2, r2, g2, b2⟩ := copy_run (P := Tryz.prog) (w.alloc (.cells (madeCells #[.int .u8 0] (n + m)) 5)) 22 22 3 5 Tryz.underlying22 sizeU8 (some ⟨w.heap.size, 0, none⟩) a (n + m) (n + m) n c w.heap.size 0
    (madeCells #[.int .u8 0] (n + m)).toList 5 (heap_new _ _) (bytC l) (by rw [bytC_len, hl1]; exact (Nat.min_eq_left (by omega)).symm) (fun hp => ⟨rfl, Cel.src (h1.below (B := w.heap.size) (by (repeat (first | exact Below.refl _ _ | assumption | refine Below.drew ?_ | refine below_drewN ?_ _ | refine belowA ?_ _ | refine belowT ?_ (by assumption) | refine Below.setCell ?_ (by first | (simp; done) | (simp; omega)) _))) (Nat.le_refl _)) (by rw [bytC_len, hl1] at hp; exact hp)⟩) (by simp [size_madeCells, bytC_len, hl1]) (bytC_one l)
  have bw2 : Below w.heap.size w w2 := (belowA (Below.refl _ _) _).trans b2
  obtain ⟨w3, r3, g3, b3⟩ := copy_run (P := Tryz.prog) w2 22 22 3 5 Tryz.underlying22 sizeU8 (some ⟨w.heap.size, n, none⟩) b m m m d w.heap.size n
    _ 5 g2 (bytC k) (by rw [bytC_len, hl2]; exact (Nat.min_self m).symm) (fun hp => ⟨rfl, Cel.src (h2.below (B := w.heap.size) bw2 (Nat.le_refl _)) hm⟩) (by rw [length_splice _ _ _ (by simp [size_madeCells, bytC_len, hl1])]; simp [size_madeCells, bytC_len, hl2]) (bytC_one k)
  rw [r2]
  have G3 := hide g3
  have R3 := hide r3
  clear g2 r2 g3 r3
  have hm0 : ¬ m = 0 := by omega
  go_wp2_with fail
  rw [R3.out]
  go_wp2
  go_ret
  have g3 := G3.out
  have hs := splice_two (madeCells #[.int .u8 0] (n + m)).toList (bytC l) (bytC k) (by simp [size_madeCells, bytC_len, hl1, hl2])
  rw [bytC_len, hl1] at hs
  rw [hs, bytC_app] at g3
  exact ⟨⟨rfl, Byts.of_row g3 (by rw [List.length_append, hl1, hl2]; omega) (by rw [List.length_append, hl1, hl2])⟩, bw2.trans b3⟩

theorem djoin_c (a : Option Addr) (n c : Nat) (l : List UInt8) (b : Option Addr) (m d : Nat) (k : List UInt8) (w : World) (h1 : Byts w a n c l) (h2 : Byts w b m d k) (hnm : n + m ≤ 1000000) :
    Calls Tryz.prog 20 #[.slice a n c, .slice b m d] w fun e w' => (e = .returned (.slice (some ⟨w.heap.size, 0, none⟩) (n + m) (n + m)) ∧ Byts w' (some ⟨w.heap.size, 0, none⟩) (n + m) (n + m) (l ++ k)) ∧ Below w.heap.size w w' := by
  rcases Nat.eq_zero_or_pos m with hm | hm
  · subst hm
    have hk := h2.len
    rw [List.length_eq_zero_iff] at hk
    subst hk
    rw [List.append_nil, Nat.add_zero]
    exact djoin_none a n c l b d w h1 (by omega)
  · exact djoin_some a n c l b m d k w h1 h2 hnm hm

theorem dsize_c (a : Option Addr) (n c : Nat) (b : Option Addr) (m d : Nat) (w : World) (hn : n ≤ 140737488355328) (hm : m ≤ 140737488355328) :
    Calls Tryz.prog 19 #[.agg #[.slice a n c, .slice b m d]] w fun e w' => e = .returned (.int .i64 ((n + m : Nat) : Int)) ∧ Below w.heap.size w w' := by
  go_enter Tryz.func19, Tryz.ntmps19
  go_wp2
  go_ret
  exact ⟨ret_int (by omega), by (repeat (first | exact Below.refl _ _ | assumption | refine Below.drew ?_ | refine below_drewN ?_ _ | refine belowA ?_ _ | refine belowT ?_ (by assumption) | refine Below.setCell ?_ (by first | (simp; done) | (simp; omega)) _))⟩

end Go.Proofs.YtcbgkjmcdjpgcaaGreatDoor

/- The contracts of the document's own answers on commands: has, SameCmd, CheckCmd; no condition but that the data reads as a list. -/
namespace Go.Proofs.YtcbgkjmcdjpgcaaGreatDoor
open Go.RowKit
set_option linter.unusedVariables false
set_option maxRecDepth 100000
set_option linter.unusedSimpArgs false

/-- What a kind of command has, by letters. -/
def hasS (k : Nat) : ByteArray := match k with
  | 1 | 2 | 3 | 4 => ⟨#[122]⟩
  | 5 => ⟨#[122, 100]⟩
  | 6 => ⟨#[122, 97, 100]⟩
  | 7 => ⟨#[122, 97, 110]⟩
  | 8 | 9 | 11 => ⟨#[110]⟩
  | _ => ⟨#[]⟩

set_option maxHeartbeats 1000000 in
theorem has_c (k : Nat) (w : World) (hk : k ≤ 12) : Calls Tryz.prog 60 #[.int .i64 k] w fun e w' => e = .returned (.string (hasS k)) ∧ Below w.heap.size w w' := by
  rcases (by omega : k = 0 ∨ k = 1 ∨ k = 2 ∨ k = 3 ∨ k = 4 ∨ k = 5 ∨ k = 6 ∨ k = 7 ∨ k = 8 ∨ k = 9 ∨ k = 10 ∨ k = 11 ∨ k = 12) with rfl | rfl | rfl | rfl | rfl | rfl | rfl | rfl | rfl | rfl | rfl | rfl | rfl
  all_goals
    go_enter Tryz.func60, Tryz.ntmps60
    go_wp2
    go_ret
    exact ⟨rfl, by (repeat (first | exact Below.refl _ _ | assumption | refine Below.drew ?_ | refine below_drewN ?_ _ | refine belowA ?_ _ | refine belowT ?_ (by assumption) | refine Below.setCell ?_ (by first | (simp; done) | (simp; omega)) _))⟩

set_option maxHeartbeats 1000000 in
theorem SameCmd_c (a1 a2 : Option Addr) (n1 n2 c1 c2 : Nat) (b1 b2 : PC) (w : World) (h1 : Ints w a1 n1 c1 b1.d) (h2 : Ints w a2 n2 c2 b2.d) :
    Calls Tryz.prog 30 #[cmdV a1 n1 c1 b1, cmdV a2 n2 c2 b2] w fun e w' => e = .returned (.bool (sameC b1 b2)) ∧ Below w.heap.size w w' := by
  obtain ⟨k1, z1, m1, t1, d1⟩ := b1
  obtain ⟨k2, z2, m2, t2, d2⟩ := b2
  unfold cmdV
  dsimp only at *
  have hs : sameC ⟨k1, z1, m1, t1, d1⟩ ⟨k2, z2, m2, t2, d2⟩ = (k1 == k2 && z1 == z2 && t1 == t2 && m1 == m2 && decide (d1 = d2)) := by
    rw [Bool.eq_iff_iff]
    simp [sameC, and_assoc]
  have HS := hide hs
  clear hs
  go_enter Tryz.func30, Tryz.ntmps30
  cases e1 : k1 == k2
  · go_wp2
    go_ret
    exact ⟨ret_bool (by rw [HS.out, e1]; rfl), by (repeat (first | exact Below.refl _ _ | assumption | refine Below.drew ?_ | refine below_drewN ?_ _ | refine belowA ?_ _ | refine belowT ?_ (by assumption) | refine Below.setCell ?_ (by first | (simp; done) | (simp; omega)) _))⟩
  · cases e2 : z1 == z2
    · go_wp2
      go_ret
      exact ⟨ret_bool (by rw [HS.out, e1, e2]; rfl), by (repeat (first | exact Below.refl _ _ | assumption | refine Below.drew ?_ | refine below_drewN ?_ _ | refine belowA ?_ _ | refine belowT ?_ (by assumption) | refine Below.setCell ?_ (by first | (simp; done) | (simp; omega)) _))⟩
    · cases e3 : t1 == t2
      · go_wp2
        go_ret
        exact ⟨ret_bool (by rw [HS.out, e1, e2, e3]; rfl), by (repeat (first | exact Below.refl _ _ | assumption | refine Below.drew ?_ | refine below_drewN ?_ _ | refine belowA ?_ _ | refine belowT ?_ (by assumption) | refine Below.setCell ?_ (by first | (simp; done) | (simp; omega)) _))⟩
      · cases e4 : m1 == m2
        · go_wp2
          go_ret
          exact ⟨ret_bool (by rw [HS.out, e1, e2, e3, e4]; rfl), by (repeat (first | exact Below.refl _ _ | assumption | refine Below.drew ?_ | refine below_drewN ?_ _ | refine belowA ?_ _ | refine belowT ?_ (by assumption) | refine Below.setCell ?_ (by first | (simp; done) | (simp; omega)) _))⟩
        · go_wp2_with (go_at_call 43; refine (Equal_c a1 a2 n1 n2 c1 c2 d1 d2 _ (by refine h1.below (B := w.heap.size) ?_ (Nat.le_refl _); (repeat (first | exact Below.refl _ _ | assumption | refine Below.drew ?_ | refine below_drewN ?_ _ | refine belowA ?_ _ | refine belowT ?_ (by assumption) | refine Below.setCell ?_ (by first | (simp; done) | (simp; omega)) _))) (by refine h2.below (B := w.heap.size) ?_ (Nat.le_refl _); (repeat (first | exact Below.refl _ _ | assumption | refine Below.drew ?_ | refine below_drewN ?_ _ | refine belowA ?_ _ | refine belowT ?_ (by assumption) | refine Below.setCell ?_ (by first | (simp; done) | (simp; omega)) _)))).mono ?_; rintro e w' ⟨rfl, q, rfl⟩)
          go_ret
          exact ⟨ret_bool (by rw [HS.out, e1, e2, e3, e4]; rfl), by (repeat (first | exact Below.refl _ _ | assumption | refine Below.drew ?_ | refine below_drewN ?_ _ | refine belowA ?_ _ | refine belowT ?_ (by assumption) | refine Below.setCell ?_ (by first | (simp; done) | (simp; omega)) _))⟩

theorem hasS_z (k : Nat) (hk : k ≤ 12) : decide (0 ≤ Lib.indexByte (hasS k).data.toList 122) = hasZ k := by
  rcases (by omega : k = 0 ∨ k = 1 ∨ k = 2 ∨ k = 3 ∨ k = 4 ∨ k = 5 ∨ k = 6 ∨ k = 7 ∨ k = 8 ∨ k = 9 ∨ k = 10 ∨ k = 11 ∨ k = 12) with rfl | rfl | rfl | rfl | rfl | rfl | rfl | rfl | rfl | rfl | rfl | rfl | rfl <;> decide
theorem hasS_a (k : Nat) (hk : k ≤ 12) : decide (0 ≤ Lib.indexByte (hasS k).data.toList 97) = hasA k := by
  rcases (by omega : k = 0 ∨ k = 1 ∨ k = 2 ∨ k = 3 ∨ k = 4 ∨ k = 5 ∨ k = 6 ∨ k = 7 ∨ k = 8 ∨ k = 9 ∨ k = 10 ∨ k = 11 ∨ k = 12) with rfl | rfl | rfl | rfl | rfl | rfl | rfl | rfl | rfl | rfl | rfl | rfl | rfl <;> decide
theorem hasS_n (k : Nat) (hk : k ≤ 12) : decide (0 ≤ Lib.indexByte (hasS k).data.toList 110) = hasN k := by
  rcases (by omega : k = 0 ∨ k = 1 ∨ k = 2 ∨ k = 3 ∨ k = 4 ∨ k = 5 ∨ k = 6 ∨ k = 7 ∨ k = 8 ∨ k = 9 ∨ k = 10 ∨ k = 11 ∨ k = 12) with rfl | rfl | rfl | rfl | rfl | rfl | rfl | rfl | rfl | rfl | rfl | rfl | rfl <;> decide
theorem hasS_d (k : Nat) (hk : k ≤ 12) : decide (0 ≤ Lib.indexByte (hasS k).data.toList 100) = hasD k := by
  rcases (by omega : k = 0 ∨ k = 1 ∨ k = 2 ∨ k = 3 ∨ k = 4 ∨ k = 5 ∨ k = 6 ∨ k = 7 ∨ k = 8 ∨ k = 9 ∨ k = 10 ∨ k = 11 ∨ k = 12) with rfl | rfl | rfl | rfl | rfl | rfl | rfl | rfl | rfl | rfl | rfl | rfl | rfl <;> decide

end Go.Proofs.YtcbgkjmcdjpgcaaGreatDoor

/- The contract of the document's own CheckCmd; no condition but that the data reads as a list. -/
namespace Go.Proofs.YtcbgkjmcdjpgcaaGreatDoor
open Go.RowKit
set_option linter.unusedVariables false
set_option maxRecDepth 100000
set_option linter.unusedSimpArgs false

set_option maxRecDepth 100000 in
set_option maxHeartbeats 4000000 in
theorem CheckCmd_k (a : Option Addr) (m c : Nat) (k : Nat) (z n t : Int) (d : List Int) (w : World) (h : Ints w a m c d) (hk1 : 1 ≤ k) (hk2 : k ≤ 12) :
    Calls Tryz.prog 58 #[cmdV a m c ⟨k, z, n, t, d⟩] w fun e w' => e = .returned (.int .i64 (checkC ⟨k, z, n, t, d⟩)) ∧ Below w.heap.size w w' := by
  have hin : inB (k : Int) 1 12 = true := by simp [inB]; omega
  have hlen := h.len
  have hmax := h.max
  have hle := h.le
  unfold cmdV
  go_enter Tryz.func58, Tryz.ntmps58
  go_wp2_with (go_at_call 57; refine (in_c _ _ _ _).mono ?_; rintro e w' ⟨rfl, rfl⟩)
  refine (has_c k _ hk2).mono ?_
  rintro e w1 ⟨rfl, hb1⟩
  have b0 := keepc hb1 (p := ⟨w.heap.size, 0, none⟩) (u := .int .i64 k) (by go_simp)
  have b1 := keepc hb1 (p := ⟨w.heap.size, 1, none⟩) (u := .int .i64 z) (by go_simp)
  have b2 := keepc hb1 (p := ⟨w.heap.size, 2, none⟩) (u := .int .i64 n) (by go_simp)
  have b3 := keepc hb1 (p := ⟨w.heap.size, 3, none⟩) (u := .int .i64 t) (by go_simp)
  have b4 := keepc hb1 (p := ⟨w.heap.size, 4, none⟩) (u := .slice a m c) (by go_simp)
  have bw : Below w.heap.size w w1 := by (repeat (first | exact Below.refl _ _ | assumption | refine Below.drew ?_ | refine below_drewN ?_ _ | refine belowA ?_ _ | refine belowT ?_ (by assumption) | refine Below.setCell ?_ (by first | (simp; done) | (simp; omega)) _))
  have hz := hasS_z k hk2
  have ha := hasS_a k hk2
  have hn := hasS_n k hk2
  have hd := hasS_d k hk2
  generalize hasS k = hs at *
  have HZ := hide hz
  have HA := hide ha
  have HN := hide hn
  have HD := hide hd
  clear hb1 hz ha hn hd
  go_wp2
  have c0 : (w1.alloc (.cells #[.string ⟨#[122]⟩, .bool (z != 0), .string ⟨#[97]⟩, .bool (t != 0), .string ⟨#[110]⟩, .bool (n != 0)] 117)).heap[w1.heap.size]? = _ := heap_new w1 _
  replace b0 := past1 b0 (.cells #[.string ⟨#[122]⟩, .bool (z != 0), .string ⟨#[97]⟩, .bool (t != 0), .string ⟨#[110]⟩, .bool (n != 0)] 117)
  replace b1 := past1 b1 (.cells #[.string ⟨#[122]⟩, .bool (z != 0), .string ⟨#[97]⟩, .bool (t != 0), .string ⟨#[110]⟩, .bool (n != 0)] 117)
  replace b2 := past1 b2 (.cells #[.string ⟨#[122]⟩, .bool (z != 0), .string ⟨#[97]⟩, .bool (t != 0), .string ⟨#[110]⟩, .bool (n != 0)] 117)
  replace b3 := past1 b3 (.cells #[.string ⟨#[122]⟩, .bool (z != 0), .string ⟨#[97]⟩, .bool (t != 0), .string ⟨#[110]⟩, .bool (n != 0)] 117)
  replace b4 := past1 b4 (.cells #[.string ⟨#[122]⟩, .bool (z != 0), .string ⟨#[97]⟩, .bool (t != 0), .string ⟨#[110]⟩, .bool (n != 0)] 117)
  replace bw := belowA bw (.cells #[.string ⟨#[122]⟩, .bool (z != 0), .string ⟨#[97]⟩, .bool (t != 0), .string ⟨#[110]⟩, .bool (n != 0)] 117)
  generalize w1.alloc (.cells #[.string ⟨#[122]⟩, .bool (z != 0), .string ⟨#[97]⟩, .bool (t != 0), .string ⟨#[110]⟩, .bool (n != 0)] 117) = v1 at *
  generalize w1.heap.size = L at *
  have d0 : v1.cell? ⟨L, 0, none⟩ = some (.string ⟨#[122]⟩) := by rw [cell_of_row _ _ _ _ _ _ c0]; rfl
  have d1 : v1.cell? ⟨L, 1, none⟩ = some (.bool (z != 0)) := by rw [cell_of_row _ _ _ _ _ _ c0]; rfl
  have d2 : v1.cell? ⟨L, 2, none⟩ = some (.string ⟨#[97]⟩) := by rw [cell_of_row _ _ _ _ _ _ c0]; rfl
  have d3 : v1.cell? ⟨L, 3, none⟩ = some (.bool (t != 0)) := by rw [cell_of_row _ _ _ _ _ _ c0]; rfl
  have d4 : v1.cell? ⟨L, 4, none⟩ = some (.string ⟨#[110]⟩) := by rw [cell_of_row _ _ _ _ _ _ c0]; rfl
  have d5 : v1.cell? ⟨L, 5, none⟩ = some (.bool (n != 0)) := by rw [cell_of_row _ _ _ _ _ _ c0]; rfl
  clear c0
  go_loopw [27] (fun x wr => ∃ i : Nat, i ≤ 3 ∧ x = .int .i64 i ∧ ((0 < i → ¬ (z ≠ 0 ∧ hasZ k = false)) ∧ (1 < i → ¬ (t ≠ 0 ∧ hasA k = false)) ∧ (2 < i → ¬ (n ≠ 0 ∧ hasN k = false))) ∧ Below v1.heap.size v1 wr) (fun x _ => 3 - (intOf x).toNat)
  case atStart => exact ⟨0, by omega, rfl, ⟨by omega, by omega, by omega⟩, Below.refl _ _⟩
  case round =>
    obtain ⟨i, hi, rfl, hno, hbr⟩ := hrel
    rename_i wr
    have HNO := hide hno
    clear hno
    rcases (by omega : i = 0 ∨ i = 1 ∨ i = 2 ∨ i = 3) with rfl | rfl | rfl | rfl
    · replace d0 := keepc hbr d0
      replace d1 := keepc hbr d1
      clear d2 d3 d4 d5 b0 b1 b2 b3 b4
      cases hq : z != 0
      · rw [hq] at d1
        go_wp2
        exact ⟨⟨1, by omega, by go_num, ⟨fun _ h => by simp at hq; exact h.1 hq, by omega, by omega⟩, by (repeat (first | exact Below.refl _ _ | assumption | refine Below.drew ?_ | refine below_drewN ?_ _ | refine belowA ?_ _ | refine belowT ?_ (by assumption) | refine Below.setCell ?_ (by first | (simp; done) | (simp; omega)) _))⟩, by simp [intOf]⟩
      · rw [hq] at d1
        cases hh : hasZ k
        all_goals
          go_wp2_with (go_at_call 83; refine (Tryz.strings_Contains_one hs 122 _).mono ?_; rintro e w9 ⟨rfl, rfl⟩; rw [HZ.out, hh])
        · go_ret
          refine ⟨ret_int ?_, by (repeat (first | exact Below.refl _ _ | assumption | refine Below.drew ?_ | refine below_drewN ?_ _ | refine belowA ?_ _ | refine belowT ?_ (by assumption) | refine Below.setCell ?_ (by first | (simp; done) | (simp; omega)) _))⟩
          have ho : outB 1 12 (k : Int) = false := by rw [inB_outB] at hin; simpa using hin
          simp at hq
          simp [checkC, ho, hq, hh]
        · exact ⟨⟨1, by omega, by go_num, ⟨fun _ h => by simp [hh] at h, by omega, by omega⟩, by (repeat (first | exact Below.refl _ _ | assumption | refine Below.drew ?_ | refine below_drewN ?_ _ | refine belowA ?_ _ | refine belowT ?_ (by assumption) | refine Below.setCell ?_ (by first | (simp; done) | (simp; omega)) _))⟩, by simp [intOf]⟩
    · replace d2 := keepc hbr d2
      replace d3 := keepc hbr d3
      clear d0 d1 d4 d5 b0 b1 b2 b3 b4
      cases hq : t != 0
      · rw [hq] at d3
        go_wp2
        exact ⟨⟨2, by omega, by go_num, ⟨fun _ => HNO.out.1 (by omega), fun _ h => by simp at hq; exact h.1 hq, by omega⟩, by (repeat (first | exact Below.refl _ _ | assumption | refine Below.drew ?_ | refine below_drewN ?_ _ | refine belowA ?_ _ | refine belowT ?_ (by assumption) | refine Below.setCell ?_ (by first | (simp; done) | (simp; omega)) _))⟩, by simp [intOf]⟩
      · rw [hq] at d3
        cases hh : hasA k
        all_goals
          go_wp2_with (go_at_call 83; refine (Tryz.strings_Contains_one hs 97 _).mono ?_; rintro e w9 ⟨rfl, rfl⟩; rw [HA.out, hh])
        · go_ret
          refine ⟨ret_int ?_, by (repeat (first | exact Below.refl _ _ | assumption | refine Below.drew ?_ | refine below_drewN ?_ _ | refine belowA ?_ _ | refine belowT ?_ (by assumption) | refine Below.setCell ?_ (by first | (simp; done) | (simp; omega)) _))⟩
          have ho : outB 1 12 (k : Int) = false := by rw [inB_outB] at hin; simpa using hin
          simp at hq
          simp [checkC, ho, hq, hh]
        · exact ⟨⟨2, by omega, by go_num, ⟨fun _ => HNO.out.1 (by omega), fun _ h => by simp [hh] at h, by omega⟩, by (repeat (first | exact Below.refl _ _ | assumption | refine Below.drew ?_ | refine below_drewN ?_ _ | refine belowA ?_ _ | refine belowT ?_ (by assumption) | refine Below.setCell ?_ (by first | (simp; done) | (simp; omega)) _))⟩, by simp [intOf]⟩
    · replace d4 := keepc hbr d4
      replace d5 := keepc hbr d5
      clear d0 d1 d2 d3 b0 b1 b2 b3 b4
      cases hq : n != 0
      · rw [hq] at d5
        go_wp2
        exact ⟨⟨3, by omega, by go_num, ⟨fun _ => HNO.out.1 (by omega), fun _ => HNO.out.2.1 (by omega), fun _ h => by simp at hq; exact h.1 hq⟩, by (repeat (first | exact Below.refl _ _ | assumption | refine Below.drew ?_ | refine below_drewN ?_ _ | refine belowA ?_ _ | refine belowT ?_ (by assumption) | refine Below.setCell ?_ (by first | (simp; done) | (simp; omega)) _))⟩, by simp [intOf]⟩
      · rw [hq] at d5
        cases hh : hasN k
        all_goals
          go_wp2_with (go_at_call 83; refine (Tryz.strings_Contains_one hs 110 _).mono ?_; rintro e w9 ⟨rfl, rfl⟩; rw [HN.out, hh])
        · go_ret
          refine ⟨ret_int ?_, by (repeat (first | exact Below.refl _ _ | assumption | refine Below.drew ?_ | refine below_drewN ?_ _ | refine belowA ?_ _ | refine belowT ?_ (by assumption) | refine Below.setCell ?_ (by first | (simp; done) | (simp; omega)) _))⟩
          have ho : outB 1 12 (k : Int) = false := by rw [inB_outB] at hin; simpa using hin
          simp at hq
          simp [checkC, ho, hq, hh]
        · exact ⟨⟨3, by omega, by go_num, ⟨fun _ => HNO.out.1 (by omega), fun _ => HNO.out.2.1 (by omega), fun _ h => by simp [hh] at h⟩, by (repeat (first | exact Below.refl _ _ | assumption | refine Below.drew ?_ | refine below_drewN ?_ _ | refine belowA ?_ _ | refine belowT ?_ (by assumption) | refine Below.setCell ?_ (by first | (simp; done) | (simp; omega)) _))⟩, by simp [intOf]⟩
    · replace b1 := keepc hbr b1
      replace b2 := keepc hbr b2
      replace b3 := keepc hbr b3
      replace b4 := keepc hbr b4
      have bwr : Below w.heap.size w wr := by (repeat (first | exact Below.refl _ _ | assumption | refine Below.drew ?_ | refine below_drewN ?_ _ | refine belowA ?_ _ | refine belowT ?_ (by assumption) | refine Below.setCell ?_ (by first | (simp; done) | (simp; omega)) _))
      have ir := h.below bwr (Nat.le_refl _)
      clear d0 d1 d2 d3 d4 d5 b0 hbr bw
      have hK : checkC ⟨k, z, n, t, d⟩ = if hasD k = decide (d = []) then 4 else if 8 < d.length then 2 else if [z, t, n].any (outB 0 999) || d.any (outB 0 999) then 3 else 0 := by
        have ho : outB 1 12 (k : Int) = false := by rw [inB_outB] at hin; simpa using hin
        have h1 := HNO.out.1 (by omega)
        have h2 := HNO.out.2.1 (by omega)
        have h3 := HNO.out.2.2 (by omega)
        unfold checkC
        dsimp only
        rw [if_neg (by simp [ho]), if_neg (by rintro (e | e | e); exact h1 e; exact h2 e; exact h3 e)]
        simp [or_assoc]
      have HK := hide hK
      have hdm : decide (d = []) = ((m : Int) == 0) := by
        rw [Bool.eq_iff_iff]
        simp
        rw [← hlen, List.length_eq_zero_iff]
      clear hK HNO HZ HA HN
      rw [hdm] at HK
      clear hdm
      go_wp2_with fail
      go_region_held3 (fun w' => w'.cell? ⟨w.heap.size, 4, none⟩ = some (.slice a m c) ∧ w'.cell? ⟨w.heap.size, 1, none⟩ = some (.int .i64 z) ∧ w'.cell? ⟨w.heap.size, 2, none⟩ = some (.int .i64 n) ∧ w'.cell? ⟨w.heap.size, 3, none⟩ = some (.int .i64 t)) ((first | (go_simp; done) | (simp [*, World.cell?_alloc_at, World.cell?_alloc_past, World.cell?_alloc_some, World.cell?_setCell_far]; done))) (first | (go_at_call 83; refine (Tryz.strings_Contains_one hs 100 _).mono ?_; rintro e w9 ⟨rfl, rfl⟩; rw [HD.out]))
      generalize hasD k = hdk at *
      cases hd4 : hdk == ((m : Int) == 0)
      · have hne : ¬ (hdk = ((m : Int) == 0)) := by intro e; rw [e] at hd4; simp at hd4
        by_cases h8 : 8 < m
        · have h8' : (8 : Int) < (m : Int) := by omega
          go_wp2
          go_ret
          exact ⟨ret_int (by rw [HK.out, if_neg hne, hlen, if_pos h8]), by (repeat (first | exact Below.refl _ _ | assumption | refine Below.drew ?_ | refine below_drewN ?_ _ | refine belowA ?_ _ | refine belowT ?_ (by assumption) | refine Below.setCell ?_ (by first | (simp; done) | (simp; omega)) _))⟩
        · have h8' : ¬ (8 : Int) < (m : Int) := by omega
          have H3 : ∀ w' g, w'.cell? ⟨g, 0, none⟩ = some (.int .i64 z) → w'.cell? ⟨g, 1, none⟩ = some (.int .i64 t) → w'.cell? ⟨g, 2, none⟩ = some (.int .i64 n) → Calls Tryz.prog 84 #[.slice (some ⟨g, 0, none⟩) 3 3, .int .i64 0, .int .i64 999] w' fun e w2 => e = .returned (.bool (!([z, t, n].any (outB 0 999)))) ∧ w2 = w' := by
            intro w' g g0 g1 g2
            have := all_some g 0 3 3 [z, t, n] 0 999 w' rfl (by decide) (fun i hi => by
              rcases (by omega : i = 0 ∨ i = 1 ∨ i = 2) with rfl | rfl | rfl <;> assumption)
            rw [all_any] at this
            exact this
          have HA2 := hide (fun w' hw' => all_c a m c d 0 999 w' hw')
          generalize [z, t, n].any (outB 0 999) = b3 at HK H3
          have H3' := hide H3
          clear H3
          have b4' := fun o => past1 b4 o
          go_wp2_with fail
          refine (H3'.out _ _ (by go_simp) (by go_simp) (by go_simp)).mono ?_
          rintro e w' ⟨rfl, rfl⟩
          cases b3
          · go_wp2_with fail
            refine (HA2.out _ (by refine Ints.below ir (B := wr.heap.size) ?_ (Nat.le_refl _); (repeat (first | exact Below.refl _ _ | assumption | refine Below.drew ?_ | refine below_drewN ?_ _ | refine belowA ?_ _ | refine belowT ?_ (by assumption) | refine Below.setCell ?_ (by first | (simp; done) | (simp; omega)) _)))).mono ?_
            rintro e w' ⟨rfl, rfl⟩
            rw [all_any]
            cases hda : d.any (outB 0 999)
            all_goals
              go_wp2
              go_ret
              exact ⟨ret_int (by rw [HK.out, if_neg hne, hlen, if_neg h8, hda]; rfl), by (repeat (first | exact Below.refl _ _ | assumption | refine Below.drew ?_ | refine below_drewN ?_ _ | refine belowA ?_ _ | refine belowT ?_ (by assumption) | refine Below.setCell ?_ (by first | (simp; done) | (simp; omega)) _))⟩
          · go_wp2
            go_ret
            exact ⟨ret_int (by rw [HK.out, if_neg hne, hlen, if_neg h8]; rfl), by (repeat (first | exact Below.refl _ _ | assumption | refine Below.drew ?_ | refine below_drewN ?_ _ | refine belowA ?_ _ | refine belowT ?_ (by assumption) | refine Below.setCell ?_ (by first | (simp; done) | (simp; omega)) _))⟩
      · have he : hdk = ((m : Int) == 0) := by simpa using hd4
        go_wp2
        go_ret
        exact ⟨ret_int (by rw [HK.out, if_pos he]), by (repeat (first | exact Below.refl _ _ | assumption | refine Below.drew ?_ | refine below_drewN ?_ _ | refine belowA ?_ _ | refine belowT ?_ (by assumption) | refine Below.setCell ?_ (by first | (simp; done) | (simp; omega)) _))⟩

set_option maxRecDepth 100000 in
theorem CheckCmd_c (a : Option Addr) (m c : Nat) (b : PC) (w : World) (h : Ints w a m c b.d) :
    Calls Tryz.prog 58 #[cmdV a m c b] w fun e w' => e = .returned (.int .i64 (checkC b)) ∧ Below w.heap.size w w' := by
  obtain ⟨k, z, n, t, d⟩ := b
  cases hk : outB 1 12 k
  · obtain ⟨i, rfl⟩ : ∃ i : Nat, k = i := ⟨k.toNat, by simp [outB] at hk; omega⟩
    simp [outB] at hk
    exact CheckCmd_k a m c i z n t d w h (by omega) (by omega)
  · have HK : Hid (checkC ⟨k, z, n, t, d⟩ = 4) := hide (by rw [checkC_fits, if_pos hk])
    have hin : inB k 1 12 = false := by rw [inB_outB, hk]; rfl
    clear hk
    unfold cmdV
    go_enter Tryz.func58, Tryz.ntmps58
    go_wp2_with (go_at_call 57; refine (in_c _ _ _ _).mono ?_; rintro e w' ⟨rfl, rfl⟩; rw [hin])
    go_ret
    exact ⟨ret_int HK.out.symm, by (repeat (first | exact Below.refl _ _ | assumption | refine Below.drew ?_ | refine below_drewN ?_ _ | refine belowA ?_ _ | refine belowT ?_ (by assumption) | refine Below.setCell ?_ (by first | (simp; done) | (simp; omega)) _))⟩

end Go.Proofs.YtcbgkjmcdjpgcaaGreatDoor
