/- What the package-level variables hold in a world, and that it stays so; plain mathematics, no condition. -/
import Derived.Test.YtcbgkjmcdjpgcaaGreatDoorDiskSaysG2
import Derived.Test.YtcbgkjmcdjpgcaaGreatDoorDiskSaysG3
import Derived.Lib.LaidTab
import Derived.WalkSmall
import Derived.Sort.Grow
import Derived.Lib.ConvBytes
import Derived.MapKept
import Derived.Lib.SlicesS
import Derived.Test.YtcbgkjmcdjpgcaaGreatDoorDiskSaysG1
import Derived.Deep.RegionHeld3
import Derived.Deep.Light
import Derived.Laws.CopyOwn
import Derived.Deep.OwnRows
import Derived.KernelRfl
import Derived.Lib.AtoiErrMem
import Derived.Lib.BufferMore
namespace Go.Proofs.YtcbgkjmcdjpgcaaGreatDoor
open Go.RowKit
set_option linter.unusedVariables false
set_option maxRecDepth 100000
set_option linter.unusedSimpArgs false

/-- What the calls need of the package-level variables. -/
structure Env (w : World) : Prop where
  max : ∃ m, w.cell? ⟨1, 0, none⟩ = some (.int .i64 m)
  tab : Lib.TabIs Tryz.prog w "internal/strconv.uint64pow10" .u64 Lib.pow10Tab
  syn : ∃ t p, w.cell? ⟨5, 0, none⟩ = some (.iface t p)
  rng : ∃ t p, w.cell? ⟨6, 0, none⟩ = some (.iface t p)
  shp : Shapes w

theorem gTab : Tryz.prog.globalNamed "internal/strconv.uint64pow10" = some 2 := by kernel_rfl

theorem Env.below {w w' : World} (h : Env w) (hb : Below w.heap.size w w') : Env w' := by
  obtain ⟨⟨m, hm⟩, ht, ⟨t1, p1, h1⟩, ⟨t2, p2, h2⟩, hs⟩ := h
  refine ⟨⟨m, keepc hb hm⟩, ?_, ⟨t1, p1, keepc hb h1⟩, ⟨t2, p2, keepc hb h2⟩, hs.below hb⟩
  have hlt := World.block_lt_of_cell? w _ (Lib.TabIs.cell ht gTab 0 (by decide))
  exact var?_below hb gTab hlt ht

theorem below_grow (w : World) (k : Nat) (os : Array Obj) : Below w.heap.size w (Sort.grow (w.drewN k) os) :=
  ⟨rfl, rfl, rfl, by simp [Sort.grow, World.drewN], fun i hi => by simp [Sort.grow, World.drewN, Array.getElem?_append, hi]⟩

end Go.Proofs.YtcbgkjmcdjpgcaaGreatDoor

/- The contracts of cmd.kindOf and cmd.whole; no condition but that the table is as its text lays it, and that the list reads. -/
namespace Go.Proofs.YtcbgkjmcdjpgcaaGreatDoor
open Go.RowKit
set_option linter.unusedVariables false
set_option maxRecDepth 100000
set_option linter.unusedSimpArgs false

/-- The kind that has this word. -/
def kindFrom (s : ByteArray) : Nat → Nat → Option Nat
  | 0, _ => none
  | f + 1, k => if word k = s then some k else kindFrom s f (k + 1)
def kindOfS (s : ByteArray) : Option Nat := kindFrom s 12 1

theorem kindFrom_hit (s : ByteArray) : ∀ (f k : Nat) {r : Nat}, kindFrom s f k = some r → word r = s ∧ k ≤ r ∧ r < k + f
  | 0, k, r, h => by cases h
  | f + 1, k, r, h => by
    unfold kindFrom at h
    split at h
    · cases h
      exact ⟨‹_›, by omega, by omega⟩
    · have := kindFrom_hit s f (k + 1) h
      exact ⟨this.1, by omega, by omega⟩
theorem kindFrom_at (s : ByteArray) : ∀ (f k i : Nat), (∀ j, j < i → word (k + j) ≠ s) → i < f → word (k + i) = s → kindFrom s f k = some (k + i)
  | 0, k, i, _, hi, _ => by omega
  | f + 1, k, 0, _, _, hw => by unfold kindFrom; rw [if_pos (show word k = s from hw)]; rfl
  | f + 1, k, i + 1, hn, hi, hw => by
    unfold kindFrom
    rw [if_neg (show ¬ word k = s from hn 0 (by omega))]
    have := kindFrom_at s f (k + 1) i (fun j hj => by have := hn (j + 1) (by omega); rwa [show k + 1 + j = k + (j + 1) by omega]) (by omega) (by rwa [show k + 1 + i = k + (i + 1) by omega])
    rw [this]
    congr 1
    omega
theorem kindFrom_none (s : ByteArray) : ∀ (f k : Nat), (∀ j, j < f → word (k + j) ≠ s) → kindFrom s f k = none
  | 0, _, _ => rfl
  | f + 1, k, hn => by
    unfold kindFrom
    rw [if_neg (show ¬ word k = s from hn 0 (by omega))]
    exact kindFrom_none s f (k + 1) (fun j hj => by have := hn (j + 1) (by omega); rwa [show k + 1 + j = k + (j + 1) by omega])

theorem beq_t {u s : ByteArray} (h : u = s) : (u == s) = true := (MapKept.bytes_beq u s).2 h
theorem beq_f {u s : ByteArray} (h : u ≠ s) : (u == s) = false := by
  cases e : u == s
  · rfl
  · exact absurd ((MapKept.bytes_beq u s).1 e) h

def kindV (r : Option Nat) : Value := match r with
  | some k => .tuple #[.int .i64 k, .bool true]
  | none => .tuple #[.int .i64 0, .bool false]

set_option maxRecDepth 100000 in
set_option maxHeartbeats 4000000 in
theorem kindOf_c (s : ByteArray) (w : World) (hS : Shapes w) : Calls Tryz.prog 94 #[.string s] w fun e w' => e = .returned (kindV (kindOfS s)) ∧ w' = w := by
  go_enter Tryz.func94, Tryz.ntmps94
  go_wp2
  go_loop [4] (fun x => ∃ k : Nat, 1 ≤ k ∧ k ≤ 13 ∧ x = .int .i64 k ∧ ∀ j, j < k - 1 → word (1 + j) ≠ s) (fun x => 13 - (intOf x).toNat)
  case atStart => exact ⟨1, by omega, by omega, rfl, fun j hj => by omega⟩
  case round =>
    obtain ⟨k, hk1, hk2, rfl, hno⟩ := hrel
    have HNO := hide hno
    clear hno
    by_cases hlt : k ≤ 12
    · have k1 : (0 : Int) ≤ (k : Int) := by omega
      have k2 : (k : Int) < 13 := by omega
      have s1 := hS.wd k hlt
      by_cases hw : word k = s
      · have e1 := beq_t hw
        have e2 := (Lib.bytes_beq_iff _ _).2 hw
        have HR : Hid (kindOfS s = some k) := hide (by
          have := kindFrom_at s 12 1 (k - 1) HNO.out (by omega) (by rw [show 1 + (k - 1) = k by omega]; exact hw)
          rw [kindOfS, this]
          congr 1
          omega)
        clear hw
        generalize word k = u at *
        go_wp2
        exact bodyPost_ret (v := .tuple #[.int .i64 k, .bool true]) (by simp [results, Tryz.results94, go_sem]) rfl ⟨by rw [HR.out]; rfl, rfl⟩
      · have e1 := beq_f hw
        have e2 := (Lib.bytes_beq_false_iff _ _).2 hw
        have HW := hide hw
        clear hw
        generalize hu : word k = u at *
        have HU := hide hu
        clear hu
        go_wp2
        refine ⟨⟨k + 1, by omega, by omega, by go_num, fun j hj => ?_⟩, by simp [intOf]; omega⟩
        by_cases hj2 : j < k - 1
        · exact HNO.out j hj2
        · obtain rfl : k = 1 + j := by omega
          rw [HU.out]
          exact HW.out
    · obtain rfl : k = 13 := by omega
      have HR : Hid (kindOfS s = none) := hide (kindFrom_none s 12 1 HNO.out)
      go_wp2
      exact bodyPost_ret (v := .tuple #[.int .i64 0, .bool false]) (by simp [results, Tryz.results94, go_sem]) rfl ⟨by rw [HR.out]; rfl, rfl⟩

theorem kindOfS_some {s : ByteArray} {k : Nat} (h : kindOfS s = some k) : word k = s ∧ 1 ≤ k ∧ k ≤ 12 := by
  have := kindFrom_hit s 12 1 h
  exact ⟨this.1, by omega, by omega⟩
theorem kindOfS_word (k : Nat) (h1 : 1 ≤ k) (h2 : k ≤ 12) : kindOfS (word k) = some k := by
  rcases (by omega : k = 1 ∨ k = 2 ∨ k = 3 ∨ k = 4 ∨ k = 5 ∨ k = 6 ∨ k = 7 ∨ k = 8 ∨ k = 9 ∨ k = 10 ∨ k = 11 ∨ k = 12) with rfl | rfl | rfl | rfl | rfl | rfl | rfl | rfl | rfl | rfl | rfl | rfl <;> decide +kernel

end Go.Proofs.YtcbgkjmcdjpgcaaGreatDoor

/- The contracts of zone.Check, zone.Same and of the document's own answers to them; no condition but that the zone reads as its state and list. -/
namespace Go.Proofs.YtcbgkjmcdjpgcaaGreatDoor
open Go.RowKit
set_option linter.unusedVariables false
set_option maxRecDepth 100000
set_option linter.unusedSimpArgs false

/-- What Check answers: plain. -/
def checkZ (s : Int) (l : List Int) : Int :=
  if outB 0 4 s then 4 else if 8 < l.length then 2 else if l.any (outB 0 999) then 3 else if fitsB s l.length then 0 else 4

theorem checkZ_1 {s : Int} {l : List Int} (h1 : outB 0 4 s = true) : 4 = checkZ s l := by simp [checkZ, h1]
theorem checkZ_2 {s : Int} {l : List Int} (h1 : outB 0 4 s = false) (h2 : 8 < l.length) : 2 = checkZ s l := by simp [checkZ, h1, h2]
theorem checkZ_3 {s : Int} {l : List Int} (h1 : outB 0 4 s = false) (h2 : ¬ 8 < l.length) (h3 : l.any (outB 0 999) = true) : 3 = checkZ s l := by simp only [checkZ, h1, h2, h3]; simp
theorem checkZ_4 {s : Int} {l : List Int} (h1 : outB 0 4 s = false) (h2 : ¬ 8 < l.length) (h3 : l.any (outB 0 999) = false) (h4 : fitsB s l.length = false) : 4 = checkZ s l := by simp only [checkZ, h1, h2, h3, h4]; simp
theorem checkZ_0 {s : Int} {l : List Int} (h1 : outB 0 4 s = false) (h2 : ¬ 8 < l.length) (h3 : l.any (outB 0 999) = false) (h4 : fitsB s l.length = true) : 0 = checkZ s l := by simp only [checkZ, h1, h2, h3, h4]; simp

theorem inB_outB (x a b : Int) : inB x a b = !outB a b x := by unfold inB outB; rw [Bool.eq_iff_iff]; simp
theorem all_any (l : List Int) (a b : Int) : (l.all fun x => inB x a b) = !l.any (outB a b) := by
  induction l with
  | nil => rfl
  | cons x l ih => rw [List.all_cons, List.any_cons, ih, inB_outB, Bool.not_or]

/-- Check's answer, in the document's own words. -/
theorem checkZ_ref {s : Int} {l : List Int} {n : Nat} (hl : l.length = n) :
    checkZ s l = if (!inB s 0 4) = true then 4 else if 8 < (n : Int) then 2 else if (!l.all fun x => inB x 0 999) = true then 3 else if s = 0 ∧ (n : Int) ≠ 0 ∨ s = 3 ∧ (n : Int) = 0 ∨ s ≠ 4 ∧ (n : Int) = 8 then 4 else 0 := by
  subst hl
  unfold checkZ
  rw [all_any, inB_outB]
  simp only [Bool.not_not]
  generalize l.any (outB 0 999) = A
  generalize l.length = n
  by_cases h1 : outB 0 4 s = true
  · simp only [if_pos h1]
  · simp only [if_neg h1]
    by_cases h2 : 8 < n
    · have h2' : (8 : Int) < (n : Int) := by omega
      simp only [if_pos h2, if_pos h2']
    · have h2' : ¬ (8 : Int) < (n : Int) := by omega
      simp only [if_neg h2, if_neg h2']
      cases A
      · have h5 : 0 ≤ s ∧ s ≤ 4 := by simp [outB] at h1; omega
        have h6 : (fitsB s n = true) ↔ ¬ (s = 0 ∧ (n : Int) ≠ 0 ∨ s = 3 ∧ (n : Int) = 0 ∨ s ≠ 4 ∧ (n : Int) = 8) := by
          unfold fitsB
          by_cases a : s = 4
          · simp [a]
          · by_cases b : s = 0
            · simp [b]
              omega
            · by_cases c : s = 3
              · simp [c]; omega
              · simp [a, b, c]; omega
        simp only [Bool.false_eq_true, if_false]
        by_cases h7 : fitsB s n = true
        · rw [if_pos h7, if_neg (h6.1 h7)]
        · rw [if_neg h7, if_pos (Decidable.not_not.1 (fun h => h7 (h6.2 h)))]
      · simp only [if_true]

end Go.Proofs.YtcbgkjmcdjpgcaaGreatDoor

/- The contracts of zone.Write, zone.Read and what they call; no condition but that the zone reads as its state and list. -/
namespace Go.Proofs.YtcbgkjmcdjpgcaaGreatDoor
open Go.RowKit
set_option linter.unusedVariables false
set_option maxRecDepth 100000
set_option linter.unusedSimpArgs false

/-- What is wrong with writing k behind l in a zone of state s: plain. -/
def writeE (s : Int) (l k : List Int) : Int :=
  if checkZ s l ≠ 0 then checkZ s l else if outB 1 8 k.length then 2 else if k.any (outB 0 999) then 3 else if s = 4 ∨ 8 < l.length + k.length then 7 else 0

theorem checkZ_len {s : Int} {l : List Int} (h : checkZ s l = 0) : 0 ≤ s ∧ s ≤ 4 ∧ l.length ≤ 8 ∧ l.any (outB 0 999) = false ∧ fitsB s l.length = true := by
  unfold checkZ at h
  by_cases h1 : outB 0 4 s = true
  · simp [h1] at h
  · have h5 : 0 ≤ s ∧ s ≤ 4 := by simp [outB] at h1; omega
    by_cases h2 : 8 < l.length
    · simp [h1, h2] at h
    · by_cases h3 : l.any (outB 0 999) = true
      · simp only [h1, h2, h3] at h; simp at h
      · by_cases h4 : fitsB s l.length = true
        · exact ⟨h5.1, h5.2, by omega, by simpa using h3, h4⟩
        · simp only [h1, h2, h3, h4] at h; simp at h

theorem writeE_eq {s : Int} {l k : List Int} {n m : Nat} {x : Int} (hx : checkZ s l = x) (g1 : l.length = n) (g2 : k.length = m) :
    writeE s l k = if (x != 0) = true then x else if outB 1 8 m = true then 2 else if k.any (outB 0 999) = true then 3 else if s = 4 ∨ 8 < wrap64 ((n : Int) + m) then 7 else 0 := by
  unfold writeE
  rw [g1, g2]
  by_cases h0 : x = 0
  · have hz := checkZ_len (hx.trans h0)
    by_cases h1 : outB 1 8 m = true
    · simp [hx, h0, h1]
    · have hm : m ≤ 8 := by simp [outB] at h1; omega
      rw [IntWalk.wrap64_in ((n : Int) + m) (by omega)]
      have e : (8 < n + m) = ((8 : Int) < (n : Int) + (m : Int)) := by apply propext; omega
      simp only [hx, h0, h1, e]
      simp
  · simp [hx, h0]

theorem infoInt : (Tryz.prog.info? 3).map (fun i => (i.zero, i.size, i.bytes)) = some (some (.int .i64 0), 1, 8) := by kernel_rfl
theorem sizeInt : (Tryz.prog.info? 3).map (·.size) = some 1 := by kernel_rfl

end Go.Proofs.YtcbgkjmcdjpgcaaGreatDoor

/- The contracts of cmd.whole and cmd.numbers; no condition but that the list reads. -/
namespace Go.Proofs.YtcbgkjmcdjpgcaaGreatDoor
open Go.RowKit
set_option linter.unusedVariables false
set_option maxRecDepth 100000
set_option linter.unusedSimpArgs false

set_option maxRecDepth 100000 in
set_option maxHeartbeats 1000000 in
theorem cwhole_c (a : Option Addr) (n c : Nat) (l : List Int) (w : World) (h : Ints w a n c l) (hn : n ≤ 100000) :
    Calls Tryz.prog 112 #[.slice a n c] w fun e w' => (∃ b, e = .returned (.slice b n n) ∧ Ints w' b n n l ∧ ∀ x, b = some x → w.heap.size ≤ x.block) ∧ Below w.heap.size w w' := by
  by_cases h0 : n = 0
  · subst h0
    obtain rfl : l = [] := List.eq_nil_of_length_eq_zero h.len
    go_enter Tryz.func112, Tryz.ntmps112
    go_wp2
    go_ret
    exact ⟨⟨none, rfl, Ints.nilSlice _, fun x e => by cases e⟩, Below.refl _ _⟩
  · have n1 : (0 : Int) < (n : Int) := by omega
    have n0 : ((n : Int) == 0) = false := by simp; omega
    have n2 : (n : Int) ≤ 100000 := by omega
    have hmk := run_make_row' (P := Tryz.prog) 25 3 (.int .i64 0) 8 Tryz.underlying25 infoInt rfl .i64 .i64 n (by omega) (by omega)
    go_enter Tryz.func112, Tryz.ntmps112
    go_wp2_with fail
    obtain ⟨w2, r2, g2, b2⟩ := copy_run (P := Tryz.prog) (w.alloc (.cells (madeCells #[.int .i64 0] n) 3)) 25 25 3 3 Tryz.underlying25 sizeInt (some ⟨w.heap.size, 0, none⟩) a n n n c w.heap.size 0
      (madeCells #[.int .i64 0] n).toList 3 (heap_new _ _) (cellsOf l) (by rw [cellsOf_len, h.len]; exact (Nat.min_self n).symm) (fun hp => ⟨rfl, (h.below (B := w.heap.size) (by (repeat (first | exact Below.refl _ _ | assumption | refine Below.drew ?_ | refine below_drewN ?_ _ | refine belowA ?_ _ | refine belowT ?_ (by assumption) | refine Below.setCell ?_ (by first | (simp; done) | (simp; omega)) _))) (Nat.le_refl _)).src (by rw [cellsOf_len, h.len] at hp; exact hp)⟩) (by simp [size_madeCells, cellsOf_len, h.len]) (cellsOf_one l)
    rw [r2]
    have G2 := hide g2
    clear g2 r2
    go_wp2
    go_ret
    have g2 := G2.out
    rw [splice_one _ _ (by simp [size_madeCells, cellsOf_len, h.len])] at g2
    exact ⟨⟨_, rfl, Ints.of_row g2 (by rw [h.len]; omega) h.wf h.len, fun x e => by cases e; exact Nat.le_refl _⟩, (belowA (Below.refl _ _) _).trans b2⟩

/-- A piece of a text as Atoi takes it. -/
theorem Atoi_ok_c (s : ByteArray) (hs : s.size ≤ 281474976710656) (v : Int) (h : Lib.atoiAll s.data.toList = .ok v) (w : World) :
    Calls Tryz.prog 93 #[.string s] w fun e w' => e = .returned (.tuple #[.int .i64 v, .nilIface]) ∧ Below w.heap.size w w' := by
  refine (Tryz.strconv_Atoi_ok s (by omega) v h w).mono ?_
  rintro e w' ⟨rfl, rfl | ⟨t, rfl⟩⟩
  · exact ⟨rfl, Below.refl _ _⟩
  · exact ⟨rfl, Lib.bytesWorld_below _ _ _⟩
theorem Atoi_bad_c (s : ByteArray) (hs : s.size ≤ 281474976710656) (h : ∀ v, Lib.atoiAll s.data.toList ≠ .ok v) (w : World) (hE : Env w) :
    Calls Tryz.prog 93 #[.string s] w fun e w' => (∃ v N, e = .returned (.tuple #[.int .i64 v, .iface 148 (.pointer (some ⟨N, 0, none⟩))])) ∧ Below w.heap.size w w' := by
  cases ha : Lib.atoiAll s.data.toList with
  | ok v => exact absurd ha (h v)
  | «syntax» =>
    obtain ⟨t, p, hp⟩ := hE.syn
    refine (Tryz.strconv_Atoi_syntax s hs ha _ w hp (.inr ⟨_, _, rfl⟩)).mono ?_
    rintro e w' ⟨N, rfl, _, _, hb⟩
    exact ⟨⟨_, N, rfl⟩, hb⟩
  | range =>
    obtain ⟨t, p, hp⟩ := hE.rng
    refine (Tryz.strconv_Atoi_range s hs ha _ w hp (.inr ⟨_, _, rfl⟩)).mono ?_
    rintro e w' ⟨N, rfl, _, _, hb⟩
    exact ⟨⟨_, N, rfl⟩, hb⟩
theorem Itoa_c (v : Int) (h0 : -9223372036854775808 ≤ v ∧ v ≤ 9223372036854775807) (w : World) (hE : Env w) :
    Calls Tryz.prog 33 #[.int .i64 v] w fun e w' => e = .returned (.string ⟨(Lib.itoa v).toArray⟩) ∧ Below w.heap.size w w' := by
  refine (Tryz.strconv_Itoa v h0.1 h0.2 w hE.tab).mono ?_
  rintro e w' ⟨rfl, k, os, rfl⟩
  exact ⟨rfl, below_grow _ _ _⟩

end Go.Proofs.YtcbgkjmcdjpgcaaGreatDoor

/- The contract of cmd.numbers; no condition but that the pieces read, and the package-level variables are as their texts lay them. -/
namespace Go.Proofs.YtcbgkjmcdjpgcaaGreatDoor
open Go.RowKit
set_option linter.unusedVariables false
set_option maxRecDepth 100000
set_option linter.unusedSimpArgs false

theorem frozen_rowQ {w : World} {g j : Nat} {cs : Array Value} {t : TypeId} (hg : w.heap[g]? = some (.cells cs t (0, 0))) : w.frozen? ⟨g, j, none⟩ = false := by
  simp [World.frozen?, hg]

theorem cells_set (l : List Int) (n : Nat) (v : Int) (h : l.length < n) : (cellsOf (l ++ List.replicate (n - l.length) 0)).toArray.setIfInBounds l.length (.int .i64 v) = (cellsOf ((l ++ [v]) ++ List.replicate (n - (l ++ [v]).length) 0)).toArray := by
  obtain ⟨m, rfl⟩ : ∃ m, n = l.length + 1 + m := ⟨n - l.length - 1, by omega⟩
  simp [cellsOf, show l.length + 1 + m - l.length = m + 1 by omega, List.replicate_succ]

theorem getD_take {α : Type} (l : List α) (d : α) (k : Nat) (h : k < l.length) : l.take (k + 1) = l.take k ++ [l.getD k d] := by
  rw [List.take_succ_eq_append_getElem h]; simp [List.getD, h]
theorem split_at {α : Type} (l : List α) (d : α) (k : Nat) (h : k < l.length) : l = l.take k ++ l.getD k d :: l.drop (k + 1) := by
  conv => lhs; rw [← List.take_append_drop k l]
  congr 1
  rw [List.drop_eq_getElem_cons h]
  simp [List.getD, h]

theorem made_zero (n : Nat) : madeCells #[Value.int IntKind.i64 0] n = (cellsOf ([] ++ List.replicate (n - 0) 0)).toArray := by
  apply Array.ext
  · simp [madeCells, cellsOf]
  · intro i h1 h2
    simp [madeCells, cellsOf, Nat.mod_one]

def numsV (a : Option Addr) (n : Nat) : Value := .tuple #[.slice a n n, .bool true]
def noNums : Value := .tuple #[.slice none 0 0, .bool false]

/-- What numbers answers. -/
def NumsRes (B : Nat) (w' : World) (n : Nat) (e : Ending) : Option (List Int) → Prop
  | some l => e = .returned (numsV (some ⟨B, 0, none⟩) n) ∧ Ints w' (some ⟨B, 0, none⟩) n n l
  | none => e = .returned noNums

set_option maxRecDepth 100000 in
set_option maxHeartbeats 4000000 in
theorem numbers_c (g off n c : Nat) (ts : List ByteArray) (w : World) (hE : Env w) (hl : ts.length = n) (hn : n ≤ 100000)
    (hsz : ∀ t ∈ ts, t.size ≤ 100000)
    (hr : ∀ i, i < n → w.cell? ⟨g, off + i, none⟩ = some (.string (ts.getD i ByteArray.empty))) :
    Calls Tryz.prog 95 #[.slice (some ⟨g, off, none⟩) n c] w fun e w' => NumsRes w.heap.size w' n e (nums (ts.map (·.data.toList))) ∧ Below w.heap.size w w' := by
  have hmk := run_make_row' (P := Tryz.prog) 25 3 (.int .i64 0) 8 Tryz.underlying25 infoInt rfl .i64 .i64 n (by omega) (by omega)
  have n2 : (n : Int) ≤ 100000 := by omega
  go_enter Tryz.func95, Tryz.ntmps95
  go_wp2
  go_loopw [14] (fun x wr => ∃ (k : Nat) (l : List Int), k ≤ n ∧ x = .int .i64 k ∧ l.length = k ∧ nums ((ts.map (·.data.toList)).take k) = some l ∧ wr.heap[w.heap.size]? = some (.cells (cellsOf (l ++ List.replicate (n - k) 0)).toArray 3 (0, 0)) ∧ Below w.heap.size w wr) (fun x _ => n - (intOf x).toNat)
  case atStart =>
    refine ⟨0, [], by omega, rfl, rfl, rfl, ?_, belowA (Below.refl _ _) _⟩
    rw [heap_new]
    congr 2
    exact made_zero n
  case round =>
    obtain ⟨k, l, hk, rfl, hlk, hns, hrow, hbr⟩ := hrel
    rename_i wr
    have HNS := hide hns
    have HROW := hide hrow
    clear hns hrow hmk
    by_cases hlt : k < n
    · have hi := keepc hbr (hr k hlt)
      have hk1 : (k : Int) < (n : Int) := by omega
      have hk0 : (0 : Int) ≤ (k : Int) := by omega
      have hEr := hE.below hbr
      have hts : (ts.getD k ByteArray.empty).size ≤ 100000 := hsz _ (by simp [List.getD, hl, hlt])
      have htk : (ts.map (·.data.toList)).take (k + 1) = (ts.map (·.data.toList)).take k ++ [(ts.getD k ByteArray.empty).data.toList] := by
        rw [getD_take _ [] k (by simp; omega)]
        simp [List.getD, hl, hlt]
      have hsp : ts.map (·.data.toList) = (ts.map (·.data.toList)).take k ++ (ts.getD k ByteArray.empty).data.toList :: (ts.map (·.data.toList)).drop (k + 1) := by
        conv => lhs; rw [split_at (ts.map (·.data.toList)) [] k (by simp; omega)]
        simp [List.getD, hl, hlt]
      have HTK := hide htk
      have HSP := hide hsp
      generalize ts.getD k ByteArray.empty = s at hi hts HTK HSP
      clear htk hsp hr
      by_cases hok : ∃ v, Lib.atoiAll s.data.toList = .ok v
      · obtain ⟨v, hv⟩ := hok
        have hvb := Lib.atoiAll_bounds hv
        go_wp2_with fail
        refine (Atoi_ok_c s (by omega) v hv _).mono ?_
        rintro e w1 ⟨rfl, hb1⟩
        go_wp2_with fail
        have hEr1 := hEr.below hb1
        refine (Itoa_c v hvb _ hEr1).mono ?_
        rintro e w2 ⟨rfl, hb2⟩
        have bw2 : Below w.heap.size w w2 := by (repeat (first | exact Below.refl _ _ | assumption | refine Below.drew ?_ | refine below_drewN ?_ _ | refine belowA ?_ _ | refine belowT ?_ (by assumption) | refine Below.setCell ?_ (by first | (simp; done) | (simp; omega)) _))
        have hlt0 : w.heap.size < wr.heap.size := by
          have := (Array.getElem?_eq_some_iff.1 HROW.out).1
          exact this
        have hrow2 : w2.heap[w.heap.size]? = some (.cells (cellsOf (l ++ List.replicate (n - k) 0)).toArray 3 (0, 0)) := by
          rw [(belowT hb1 hb2).block _ hlt0]
          exact HROW.out
        have HR2 := hide hrow2
        have hc2 : w2.cell? ⟨w.heap.size, k, none⟩ = some (.int .i64 0) := by
          rw [cell_of_row _ _ _ _ _ _ hrow2]
          obtain ⟨m, rfl⟩ : ∃ m, n = k + 1 + m := ⟨n - k - 1, by omega⟩
          have hm : k + 1 + m - k = m + 1 := by omega
          rw [hm]
          simp [cellsOf, ← hlk, List.replicate_succ]
        have hf2 : w2.frozen? ⟨w.heap.size, k, none⟩ = false := frozen_rowQ hrow2
        clear hb1 hb2 hrow2 hEr1 hEr
        by_cases hit : (⟨(Lib.itoa v).toArray⟩ : ByteArray) = s
        · have e1 := beq_t hit
          have e2 := (Lib.bytes_beq_iff _ _).2 hit
          have hnum : num s.data.toList = some v := by
            rw [num_eq, hv]
            simp [← hit]
          have HV := hide hnum
          clear hit hnum hv
          generalize (⟨(Lib.itoa v).toArray⟩ : ByteArray) = u at e1 e2
          go_wp2
          refine ⟨⟨k + 1, l ++ [v], by omega, by go_num, by simp [hlk], ?_, ?_, bw2.setCell (Nat.le_refl _) _⟩, by simp [intOf]; omega⟩
          · rw [HTK.out]
            exact nums_snoc HNS.out _ HV.out
          · have := Lib.heap_setCell_same (i := k) HR2.out (.int .i64 v)
            rw [this]
            have hs := cells_set l n v (by omega)
            rw [hlk] at hs
            rw [hs]
            simp [hlk]
        · have e1 := beq_f hit
          have e2 := (Lib.bytes_beq_false_iff _ _).2 hit
          have hnum : num s.data.toList = none := by
            rw [num_eq, hv]
            dsimp only
            rw [if_neg (fun e => hit (by rw [e]))]
          have HV : Hid (nums (ts.map (·.data.toList)) = none) := hide (by rw [HSP.out]; exact nums_bad hnum)
          clear hit hnum hv
          generalize (⟨(Lib.itoa v).toArray⟩ : ByteArray) = u at e1 e2
          go_wp2
          refine bodyPost_ret (v := noNums) (by simp [results, Tryz.results95, go_sem, noNums]) rfl ⟨?_, bw2⟩
          rw [HV.out]
          exact rfl
      · have hnum : num s.data.toList = none := by
          rw [num_eq]
          cases ha : Lib.atoiAll s.data.toList with
          | ok v => exact absurd ⟨v, ha⟩ hok
          | «syntax» => rfl
          | range => rfl
        have HV : Hid (nums (ts.map (·.data.toList)) = none) := hide (by rw [HSP.out]; exact nums_bad hnum)
        clear hnum
        go_wp2_with fail
        refine (Atoi_bad_c s (by omega) (fun v e => hok ⟨v, e⟩) _ hEr).mono ?_
        rintro e w1 ⟨⟨v, N, rfl⟩, hb1⟩
        have bw2 : Below w.heap.size w w1 := by (repeat (first | exact Below.refl _ _ | assumption | refine Below.drew ?_ | refine below_drewN ?_ _ | refine belowA ?_ _ | refine belowT ?_ (by assumption) | refine Below.setCell ?_ (by first | (simp; done) | (simp; omega)) _))
        go_wp2
        refine bodyPost_ret (v := noNums) (by simp [results, Tryz.results95, go_sem, noNums]) rfl ⟨?_, bw2⟩
        rw [HV.out]
        exact rfl
    · obtain rfl : k = n := by omega
      have hns := HNS.out
      rw [List.take_of_length_le (by simp; omega)] at hns
      have HN2 := hide hns
      clear hns
      go_wp2
      refine bodyPost_ret (v := numsV (some ⟨w.heap.size, 0, none⟩) k) (by simp [results, Tryz.results95, go_sem, numsV]) rfl ⟨?_, hbr⟩
      rw [HN2.out]
      refine ⟨rfl, ?_⟩
      have hrow := HROW.out
      simp at hrow
      exact Ints.of_row hrow (by omega) (nums_wf HN2.out) hlk

end Go.Proofs.YtcbgkjmcdjpgcaaGreatDoor
