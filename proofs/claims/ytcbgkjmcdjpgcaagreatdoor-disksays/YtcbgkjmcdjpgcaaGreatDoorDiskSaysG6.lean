/- The contract of cmd.Parse; no condition but that the text is no longer than any that can be, and the package-level variables are as their texts lay them. -/
import Derived.Test.YtcbgkjmcdjpgcaaGreatDoorDiskSaysG5
import Derived.Test.YtcbgkjmcdjpgcaaGreatDoorDiskSaysG4
import Derived.Lib.AppendZeros
import Derived.Deep.DeepCutAuto
import Derived.Laws.AppendOwnNone
namespace Go.Proofs.YtcbgkjmcdjpgcaaGreatDoor
open Go.RowKit
set_option linter.unusedVariables false
set_option maxRecDepth 100000
set_option linter.unusedSimpArgs false

/-- The text's pieces between blanks. -/
def pieces (s : ByteArray) : List ByteArray := Lib.splitB ⟨#[32]⟩ 0 (Lib.countB s ⟨#[32]⟩) s
/-- What Parse answers. -/
def parseC (s : ByteArray) : PC × Int := if 60000 < s.size then (zeroC, 2) else match readC (pieces s) with
  | none => (zeroC, 1)
  | some b => if checkC b = 0 then (b, 0) else (zeroC, checkC b)

theorem splitB_size (sep : ByteArray) : ∀ (k : Nat) (s : ByteArray), ∀ t ∈ Lib.splitB sep 0 k s, t.size ≤ s.size
  | 0, s, t, h => by
    simp [Lib.splitB] at h
    subst h
    exact Nat.le_refl _
  | k + 1, s, t, h => by
    unfold Lib.splitB at h
    split at h
    · simp at h
      subst h
      exact Nat.le_refl _
    · rcases List.mem_cons.1 h with rfl | h
      · rw [ByteArray.size_extract]
        omega
      · have := splitB_size sep k _ t h
        rw [ByteArray.size_extract] at this
        omega

def ParseRes (B : Nat) (w' : World) (e : Ending) (r : PC × Int) : Prop := ∃ a n, e = .returned (.tuple #[cmdV a n n r.1, .int .i64 r.2]) ∧ Ints w' a n n r.1.d ∧ ∀ x, a = some x → B ≤ x.block
theorem ParseRes.zero {B : Nat} {w' : World} {e : Ending} {x : Int} (h : e = .returned (.tuple #[cmdV none 0 0 zeroC, .int .i64 x])) : ParseRes B w' e (zeroC, x) :=
  ⟨none, 0, h, Ints.nilSlice _, fun x e => by cases e⟩

set_option maxRecDepth 100000 in
set_option maxHeartbeats 1000000 in
theorem Parse_c (s : ByteArray) (w : World) (hE : Env w) (hs : s.size ≤ 9223372036854775807) :
    Calls Tryz.prog 50 #[.string s] w fun e w' => ParseRes w.heap.size w' e (parseC s) ∧ Below w.heap.size w w' := by
  by_cases hlong : 60000 < s.size
  · have HR : Hid (parseC s = (zeroC, 2)) := hide (by unfold parseC; rw [if_pos hlong])
    have h1 : (60000 : Int) < (s.size : Int) := by omega
    go_enter Tryz.func50, Tryz.ntmps50
    go_wp2
    refine bodyPost_ret (v := .tuple #[cmdV none 0 0 zeroC, .int .i64 2]) (by simp [results, Tryz.results50, go_sem, cmdV, zeroC]) rfl ⟨?_, ?_⟩
    · rw [HR.out]
      exact .zero rfl
    · (repeat (first | exact Below.refl _ _ | assumption | refine Below.drew ?_ | refine below_drewN ?_ _ | refine belowA ?_ _ | refine belowT ?_ (by assumption) | refine Below.setCell ?_ (by first | (simp; done) | (simp; omega)) _))
  · have HR : Hid (parseC s = match readC (pieces s) with
      | none => (zeroC, 1)
      | some b => if checkC b = 0 then (b, 0) else (zeroC, checkC b)) := hide (by unfold parseC; rw [if_neg hlong])
    have h1 : ¬ (60000 : Int) < (s.size : Int) := by omega
    have hcnt := Lib.countB_le ⟨#[32]⟩ (by decide) _ s (Nat.le_refl _)
    have hlen := splitB_len s
    have hsz := splitB_size ⟨#[32]⟩ (Lib.countB s ⟨#[32]⟩) s
    have hE1 := fun o => hE.below (belowA (Below.refl w.heap.size w) o)
    obtain ⟨m, hm⟩ := hE.max
    replace hm := fun o => past1 hm o
    unfold pieces at HR
    generalize hp : Lib.splitB ⟨#[32]⟩ 0 (Lib.countB s ⟨#[32]⟩) s = ps at *
    have HP := hide hp
    clear hp
    go_enter Tryz.func50, Tryz.ntmps50
    go_wp2_with fail
    refine (Tryz.strings_Split s ⟨#[32]⟩ m _ (by omega) (hm _) (by decide)).mono ?_
    rw [HP.out]
    rintro e w1 ⟨rfl, rfl⟩
    generalize Lib.countB s ⟨#[32]⟩ = cn at *
    go_wp2_with fail
    have q0 : ((w.alloc (.cells #[.int .i64 0, .int .i64 0, .int .i64 0, .int .i64 0, .slice none 0 0] 27)).alloc (.cells (List.map Value.string ps).toArray 9)).heap[w.heap.size]? = some (.cells #[.int .i64 0, .int .i64 0, .int .i64 0, .int .i64 0, .slice none 0 0] 27 (0, 0)) := by
      rw [Below.heap_alloc _ _ _ (by simp)]
      exact heap_new _ _
    have q1 : ((w.alloc (.cells #[.int .i64 0, .int .i64 0, .int .i64 0, .int .i64 0, .slice none 0 0] 27)).alloc (.cells (List.map Value.string ps).toArray 9)).heap[w.heap.size + 1]? = some (.cells (List.map Value.string ps).toArray 9 (0, 0)) := heap_new2 _ _ _
    have b2 : Below w.heap.size w ((w.alloc (.cells #[.int .i64 0, .int .i64 0, .int .i64 0, .int .i64 0, .slice none 0 0] 27)).alloc (.cells (List.map Value.string ps).toArray 9)) := by (repeat (first | exact Below.refl _ _ | assumption | refine Below.drew ?_ | refine below_drewN ?_ _ | refine belowA ?_ _ | refine belowT ?_ (by assumption) | refine Below.setCell ?_ (by first | (simp; done) | (simp; omega)) _))
    have E2 := hE.below b2
    have z2 : ((w.alloc (.cells #[.int .i64 0, .int .i64 0, .int .i64 0, .int .i64 0, .slice none 0 0] 27)).alloc (.cells (List.map Value.string ps).toArray 9)).heap.size = w.heap.size + 2 := by simp
    generalize ((w.alloc (.cells #[.int .i64 0, .int .i64 0, .int .i64 0, .int .i64 0, .slice none 0 0] 27)).alloc (.cells (List.map Value.string ps).toArray 9)) = w2 at *
    obtain ⟨u, us, rfl⟩ : ∃ u us, ps = u :: us := by
      cases ps with
      | nil => simp at hlen
      | cons u us => exact ⟨u, us, rfl⟩
    have hul : us.length = cn := by simpa using hlen
    have Q0 := hide q0
    have Q1 := hide q1
    have Z2 := hide z2
    clear q0 q1 z2 hE1 hm
    refine (read_c (w.heap.size + 1) cn u us w2 E2 hul (by omega) (fun t ht => by have := hsz t (by simp [ht]); omega) (by rw [cell_of_row _ _ _ _ _ _ Q1.out]; rfl) (fun i hi => by
      rw [cell_of_row _ _ _ _ _ _ Q1.out]
      simp [Nat.add_comm 1 i, List.getD]
      rw [List.getElem?_eq_getElem (by omega)]
      simp)).mono ?_
    cases hrd : readC (u :: us) with
    | none =>
      rw [hrd] at HR
      rintro e w3 ⟨rfl, hb3⟩
      have c0 : ∀ i, w3.cell? ⟨w.heap.size, i, none⟩ = _ := fun i => (hb3.cell (p := ⟨w.heap.size, i, none⟩) (by have := Z2.out; simp; omega)).trans (cell_of_row _ _ _ _ _ _ Q0.out)
      have f0 : ∀ i, w3.frozen? ⟨w.heap.size, i, none⟩ = false := fun i => (hb3.frozen (p := ⟨w.heap.size, i, none⟩) (by have := Z2.out; simp; omega)).trans (frozen_rowQ Q0.out)
      have hlt3 : w.heap.size < w3.heap.size := by have := hb3.size; have := Z2.out; omega
      have c1 : ∀ i, (w3.alloc (.cells #[.int .i64 0, .int .i64 0, .int .i64 0, .int .i64 0, .slice none 0 0] 27)).cell? ⟨w.heap.size, i, none⟩ = _ := fun i => (World.cell?_alloc_lt w3 _ ⟨w.heap.size, i, none⟩ hlt3).trans (c0 i)
      have f1 : ∀ i, (w3.alloc (.cells #[.int .i64 0, .int .i64 0, .int .i64 0, .int .i64 0, .slice none 0 0] 27)).frozen? ⟨w.heap.size, i, none⟩ = false := fun i => (World.frozen?_alloc_old w3 _ ⟨w.heap.size, i, none⟩ (Nat.ne_of_lt hlt3)).trans (f0 i)
      have b4 : Below w.heap.size w (w3.alloc (.cells #[.int .i64 0, .int .i64 0, .int .i64 0, .int .i64 0, .slice none 0 0] 27)) := by (repeat (first | exact Below.refl _ _ | assumption | refine Below.drew ?_ | refine below_drewN ?_ _ | refine belowA ?_ _ | refine belowT ?_ (by assumption) | refine Below.setCell ?_ (by first | (simp; done) | (simp; omega)) _))
      clear c0 f0
      unfold cmdV zeroC
      go_upto_region 4 with fail
      generalize w3.alloc (.cells #[.int .i64 0, .int .i64 0, .int .i64 0, .int .i64 0, .slice none 0 0] 27) = w4 at *
      go_wp2
      refine bodyPost_ret (v := .tuple #[cmdV none 0 0 zeroC, .int .i64 1]) (by simp [results, Tryz.results50, go_sem, cmdV, zeroC, c1]) rfl ⟨?_, ?_⟩
      · rw [HR.out]
        exact .zero rfl
      · exact five_below b4 _ _ _ _ _
    | some b =>
      rw [hrd] at HR
      rintro e w3 ⟨⟨a3, n3, rfl, i3, x3⟩, hb3⟩
      have E3 := E2.below hb3
      have c0 : ∀ i, w3.cell? ⟨w.heap.size, i, none⟩ = _ := fun i => (hb3.cell (p := ⟨w.heap.size, i, none⟩) (by have := Z2.out; simp; omega)).trans (cell_of_row _ _ _ _ _ _ Q0.out)
      have f0 : ∀ i, w3.frozen? ⟨w.heap.size, i, none⟩ = false := fun i => (hb3.frozen (p := ⟨w.heap.size, i, none⟩) (by have := Z2.out; simp; omega)).trans (frozen_rowQ Q0.out)
      have hlt3 : w.heap.size < w3.heap.size := by have := hb3.size; have := Z2.out; omega
      have c1 : ∀ i, (w3.alloc (.cells #[.int .i64 b.k, .int .i64 b.z, .int .i64 b.n, .int .i64 b.at', .slice a3 n3 n3] 27)).cell? ⟨w.heap.size, i, none⟩ = _ := fun i => (World.cell?_alloc_lt w3 _ ⟨w.heap.size, i, none⟩ hlt3).trans (c0 i)
      have f1 : ∀ i, (w3.alloc (.cells #[.int .i64 b.k, .int .i64 b.z, .int .i64 b.n, .int .i64 b.at', .slice a3 n3 n3] 27)).frozen? ⟨w.heap.size, i, none⟩ = false := fun i => (World.frozen?_alloc_old w3 _ ⟨w.heap.size, i, none⟩ (Nat.ne_of_lt hlt3)).trans (f0 i)
      have d1 : ∀ i, (w3.alloc (.cells #[.int .i64 b.k, .int .i64 b.z, .int .i64 b.n, .int .i64 b.at', .slice a3 n3 n3] 27)).cell? ⟨w3.heap.size, i, none⟩ = _ := fun i => cell_of_row _ _ _ _ _ _ (heap_new w3 (.cells #[.int .i64 b.k, .int .i64 b.z, .int .i64 b.n, .int .i64 b.at', .slice a3 n3 n3] 27))
      have b4 : Below w.heap.size w (w3.alloc (.cells #[.int .i64 b.k, .int .i64 b.z, .int .i64 b.n, .int .i64 b.at', .slice a3 n3 n3] 27)) := by (repeat (first | exact Below.refl _ _ | assumption | refine Below.drew ?_ | refine below_drewN ?_ _ | refine belowA ?_ _ | refine belowT ?_ (by assumption) | refine Below.setCell ?_ (by first | (simp; done) | (simp; omega)) _))
      have i4 : Ints (w3.alloc (.cells #[.int .i64 b.k, .int .i64 b.z, .int .i64 b.n, .int .i64 b.at', .slice a3 n3 n3] 27)) a3 n3 n3 b.d := i3.below (B := w3.heap.size) (by (repeat (first | exact Below.refl _ _ | assumption | refine Below.drew ?_ | refine below_drewN ?_ _ | refine belowA ?_ _ | refine belowT ?_ (by assumption) | refine Below.setCell ?_ (by first | (simp; done) | (simp; omega)) _))) (Nat.le_refl _)
      have E4 : Env (w3.alloc (.cells #[.int .i64 b.k, .int .i64 b.z, .int .i64 b.n, .int .i64 b.at', .slice a3 n3 n3] 27)) := E3.below (by (repeat (first | exact Below.refl _ _ | assumption | refine Below.drew ?_ | refine below_drewN ?_ _ | refine belowA ?_ _ | refine belowT ?_ (by assumption) | refine Below.setCell ?_ (by first | (simp; done) | (simp; omega)) _)))
      have hlt4 : w3.heap.size < (w3.alloc (.cells #[.int .i64 b.k, .int .i64 b.z, .int .i64 b.n, .int .i64 b.at', .slice a3 n3 n3] 27)).heap.size := by simp
      clear c0 f0 i3 E3
      unfold cmdV
      go_upto_region 4 with fail
      generalize w3.alloc (.cells #[.int .i64 b.k, .int .i64 b.z, .int .i64 b.n, .int .i64 b.at', .slice a3 n3 n3] 27) = w4 at *
      go_wp2_with fail
      have HC := cmdCheck_c a3 n3 n3 b w4 E4.shp i4
      unfold cmdV at HC
      refine HC.mono ?_
      clear HC
      rintro e w5 ⟨rfl, hb5⟩
      have c2 : ∀ i, w5.cell? ⟨w.heap.size, i, none⟩ = _ := fun i => (hb5.cell (p := ⟨w.heap.size, i, none⟩) (Nat.lt_trans hlt3 hlt4)).trans (c1 i)
      have f2 : ∀ i, w5.frozen? ⟨w.heap.size, i, none⟩ = false := fun i => (hb5.frozen (p := ⟨w.heap.size, i, none⟩) (Nat.lt_trans hlt3 hlt4)).trans (f1 i)
      have d2 : ∀ i, w5.cell? ⟨w3.heap.size, i, none⟩ = _ := fun i => (hb5.cell (p := ⟨w3.heap.size, i, none⟩) hlt4).trans (d1 i)
      have b5 : Below w.heap.size w w5 := by (repeat (first | exact Below.refl _ _ | assumption | refine Below.drew ?_ | refine below_drewN ?_ _ | refine belowA ?_ _ | refine belowT ?_ (by assumption) | refine Below.setCell ?_ (by first | (simp; done) | (simp; omega)) _))
      have i5 := i4.below hb5 (Nat.le_refl _)
      have hne : ∀ x, a3 = some x → x.block ≠ w.heap.size := fun x e => by
        have := x3 x e
        have := Z2.out
        omega
      clear c1 f1 d1 i4 hb5
      by_cases hck : checkC b = 0
      · have HR2 : Hid (parseC s = (b, 0)) := hide (by rw [HR.out]; simp [hck])
        rw [hck]
        go_wp2
        refine bodyPost_ret (v := .tuple #[cmdV a3 n3 n3 b, .int .i64 0]) (by simp [results, Tryz.results50, go_sem, cmdV, c2]) rfl ⟨?_, five_below b5 _ _ _ _ _⟩
        rw [HR2.out]
        refine ⟨_, _, rfl, i5.five _ hne _ _ _ _ _, fun x e => ?_⟩
        have := x3 x e
        have := Z2.out
        omega
      · have HR2 : Hid (parseC s = (zeroC, checkC b)) := hide (by rw [HR.out]; simp [hck])
        have hcb : (checkC b != 0) = true := by simpa using hck
        generalize checkC b = cb at *
        go_wp2
        refine bodyPost_ret (v := .tuple #[cmdV none 0 0 zeroC, .int .i64 cb]) (by simp [results, Tryz.results50, go_sem, cmdV, zeroC, c2]) rfl ⟨?_, five_below b5 _ _ _ _ _⟩
        rw [HR2.out]
        exact .zero rfl

end Go.Proofs.YtcbgkjmcdjpgcaaGreatDoor

/- The contracts of slices.Grow on nil, and of slices.Concat of two lists; under conditions on their lengths alone. -/
namespace Go.Proofs.YtcbgkjmcdjpgcaaGreatDoor
open Go.RowKit
set_option linter.unusedVariables false
set_option maxRecDepth 100000
set_option linter.unusedSimpArgs false

/-- What is known of the type int. -/
theorem intInfo : ∃ i, Tryz.prog.info? 3 = some i ∧ i.zero = some (.int .i64 0) ∧ i.size = 1 ∧ i.bytes = 8 := by
  obtain ⟨i, hi, h⟩ := Option.map_eq_some_iff.1 infoInt
  simp only [Prod.mk.injEq] at h
  exact ⟨i, hi, h.1, h.2.1, h.2.2⟩

/-- An owned list of ints. -/
def OwnI (w : World) (base : Nat) (v : Value) (l : List Int) : Prop := w.ownsRow base 3 1 v l.length (cellsOf l)

theorem OwnI.ints {w : World} {base : Nat} {v : Value} {l : List Int} (h : OwnI w base v l) (hwf : ∀ x ∈ l, -9223372036854775808 ≤ x ∧ x ≤ 9223372036854775807) :
    ∃ a c, v = .slice a l.length c ∧ Ints w a l.length c l ∧ ∀ x, a = some x → base ≤ x.block := by
  obtain ⟨hlen, h⟩ := h
  rcases h with ⟨rfl, h0⟩ | ⟨g, cap, cur, rfl, hb, hg, hn, hm, hs, hc⟩
  · rw [List.length_eq_zero_iff] at h0
    subst h0
    exact ⟨none, 0, rfl, Ints.nilSlice w, fun x h => by cases h⟩
  · refine ⟨_, cap, rfl, ?_, fun x h => by cases h; exact hb⟩
    refine ⟨rfl, hn, by simp [maxLen] at hm; omega, fun e => (by cases e), .inr ⟨g, 0, rfl, (Array.getElem?_eq_some_iff.1 hg).1, fun i hi => ?_⟩, hwf⟩
    rw [cell_of_row w g _ _ _ _ hg, Nat.zero_add]
    have := congrArg (fun L => L[i]?) hc
    simp only [Nat.mul_one, List.getElem?_take, hi, if_true] at this
    rw [cellsOf_get l i hi] at this
    simpa using this

theorem OwnI.base {w : World} {base q n cap : Nat} {l : List Int} (h : OwnI w base (.slice (some ⟨q, 0, none⟩) n cap) l) : base ≤ q := by
  obtain ⟨_, h⟩ := h
  rcases h with ⟨e, _⟩ | ⟨g, cap, cur, e, hb, _⟩
  · cases e
  · cases e; exact hb

theorem nil_own (w : World) (base : Nat) : OwnI w base (.slice none 0 0) [] := ⟨rfl, .inl ⟨rfl, rfl⟩⟩

end Go.Proofs.YtcbgkjmcdjpgcaaGreatDoor

/- The contract of zone.wake; no condition but that the pointer leads to a zone. -/
namespace Go.Proofs.YtcbgkjmcdjpgcaaGreatDoor
open Go.RowKit
set_option linter.unusedVariables false
set_option maxRecDepth 100000
set_option linter.unusedSimpArgs false

/-- The state of a zone of state s behind a write that makes it n blocks long. -/
def writeS (s : Int) (n : Nat) : Int := if n = 8 then 4 else if s = 2 then 2 else 1

theorem writeS_1 {s : Int} {n : Nat} (h : ((n : Int) == 8) = true) : writeS s n = 4 := by simp at h; simp [writeS]; omega
theorem writeS_2 {s : Int} {n : Nat} (h : ((n : Int) == 8) = false) (hs : (s != 2) = true) : writeS s n = 1 := by simp at h hs; simp [writeS, hs]; omega
theorem writeS_3 {s : Int} {n : Nat} (h : ((n : Int) == 8) = false) (hs : (s != 2) = false) : writeS s n = s := by simp at h hs; simp [writeS, hs]; omega

end Go.Proofs.YtcbgkjmcdjpgcaaGreatDoor

/- The contracts of zone.Write and zone.Read; no condition but that the zone reads as its state and list. -/
namespace Go.Proofs.YtcbgkjmcdjpgcaaGreatDoor
open Go.RowKit
set_option linter.unusedVariables false
set_option maxRecDepth 100000
set_option linter.unusedSimpArgs false

theorem writeE_ok {s : Int} {l k : List Int} (h : writeE s l k = 0) : checkZ s l = 0 ∧ 1 ≤ k.length ∧ l.length + k.length ≤ 8 ∧ k.any (outB 0 999) = false ∧ s ≠ 4 := by
  unfold writeE at h
  by_cases h1 : checkZ s l = 0
  · by_cases h2 : outB 1 8 k.length = true
    · simp [h1, h2] at h
    · by_cases h3 : k.any (outB 0 999) = true
      · simp only [h1, h2, h3] at h; simp at h
      · by_cases h4 : s = 4 ∨ 8 < l.length + k.length
        · simp only [h1, h2, h3, h4] at h; simp at h
        · have h5 : 1 ≤ k.length := by simp [outB] at h2; omega
          exact ⟨h1, h5, by omega, by simpa using h3, by omega⟩
  · simp [h1] at h

end Go.Proofs.YtcbgkjmcdjpgcaaGreatDoor

/- The contracts of zone.Read and what it calls; no condition but that the zone reads as its state and list. -/
namespace Go.Proofs.YtcbgkjmcdjpgcaaGreatDoor
open Go.RowKit
set_option linter.unusedVariables false
set_option maxRecDepth 100000
set_option linter.unusedSimpArgs false

/-- What is wrong with reading n blocks from p on: plain. -/
def readE (s : Int) (l : List Int) (p n : Int) : Int :=
  if checkZ s l ≠ 0 then checkZ s l else if outB 0 8 p || outB 0 (8 - p) n then 3 else if (l.length : Int) < p + n then 6 else 0

theorem readE_ok {s : Int} {l : List Int} {p n : Int} (h : readE s l p n = 0) : checkZ s l = 0 ∧ 0 ≤ p ∧ p ≤ 8 ∧ 0 ≤ n ∧ n ≤ 8 - p ∧ p + n ≤ l.length := by
  unfold readE at h
  by_cases h1 : checkZ s l = 0
  · cases h2 : outB 0 8 p
    · cases h3 : outB 0 (8 - p) n
      · by_cases h4 : (l.length : Int) < p + n
        · simp [h1, h2, h3, h4] at h
        · simp [outB] at h2 h3
          exact ⟨h1, by omega, by omega, by omega, by omega, by omega⟩
      · simp [h1, h2, h3] at h
    · simp [h1, h2] at h
  · simp [h1] at h

/-- A piece of a slice of ints. -/
theorem Ints.cut {w : World} {a : Option Addr} {n c : Nat} {l : List Int} (h : Ints w a n c l) (i j : Nat) (hij : i + j ≤ n) (a' : Option Addr) (ha : c ≠ i → a' = a.map (·.add i)) : Ints w a' j (c - i) ((l.drop i).take j) := by
  have hl := h.len
  have hle := h.le
  refine ⟨by simp; omega, by omega, by have := h.max; omega, fun e => ?_, ?_, fun x hx => h.wf x (List.mem_of_mem_drop (List.mem_of_mem_take hx))⟩
  · by_cases hci : c = i
    · omega
    · have := ha hci
      rw [e] at this
      cases a with
      | none => have := h.nil rfl; omega
      | some x => simp at this
  · by_cases hj : j = 0
    · exact .inl hj
    · rcases h.row with h0 | ⟨b, off, ea, hlt, hc⟩
      · omega
      · refine .inr ⟨b, off + i, ?_, hlt, fun q hq => ?_⟩
        · rw [ha (by omega), ea]; simp [addr_add]
        · rw [Nat.add_assoc, hc (i + q) (by omega)]
          simp [List.getD, List.getElem?_take, hq]

end Go.Proofs.YtcbgkjmcdjpgcaaGreatDoor

/- The contracts of the document's own answers WriteZone and ReadZone; no condition but that the zone reads as its state and list. -/
namespace Go.Proofs.YtcbgkjmcdjpgcaaGreatDoor
open Go.RowKit
set_option linter.unusedVariables false
set_option maxRecDepth 100000
set_option linter.unusedSimpArgs false

/-- The ways in which a write fails, in the document's own words. -/
theorem writeE_ways {s : Int} {l k : List Int} {n m : Nat} {x : Int} (hx : checkZ s l = x) (g1 : l.length = n) (g2 : k.length = m) (hbad : writeE s l k ≠ 0) :
    ((x != 0) = true ∧ writeE s l k = x) ∨
    ((x != 0) = false ∧ inB m 1 8 = false ∧ writeE s l k = 2) ∨
    ((x != 0) = false ∧ inB m 1 8 = true ∧ (k.all fun x => inB x 0 999) = false ∧ writeE s l k = 3) ∨
    ((x != 0) = false ∧ inB m 1 8 = true ∧ (k.all fun x => inB x 0 999) = true ∧ (s == 4) = true ∧ writeE s l k = 7) ∨
    ((x != 0) = false ∧ inB m 1 8 = true ∧ (k.all fun x => inB x 0 999) = true ∧ (s == 4) = false ∧ n ≤ 8 ∧ m ≤ 8 ∧ 8 < n + m ∧ writeE s l k = 7) := by
  have hw := writeE_eq hx g1 g2
  rw [all_any, inB_outB]
  by_cases h0 : x = 0
  · have hz := checkZ_len (hx.trans h0)
    rw [g1] at hz
    cases h1 : outB 1 8 m
    · have hm : m ≤ 8 := by simp [outB] at h1; omega
      rw [IntWalk.wrap64_in ((n : Int) + m) (by omega)] at hw
      cases h2 : k.any (outB 0 999)
      · by_cases h3 : s = 4
        · right; right; right; left
          subst h3
          rw [hw]
          simp [h0, h1, h2]
        · by_cases h4 : 8 < n + m
          · right; right; right; right
            rw [hw]
            have h4' : (8 : Int) < (n : Int) + m := by omega
            simp [h0, h1, h2, h3, h4, h4', hz, hm]
          · exfalso
            apply hbad
            rw [hw]
            have h4' : ¬ (8 : Int) < (n : Int) + m := by omega
            simp [h0, h1, h2, h3, h4']
      · right; right; left
        rw [hw]
        simp [h0, h1, h2]
    · right; left
      rw [hw]
      simp [h0, h1]
  · left
    rw [hw]
    simp [h0]

theorem writeE_yes {s : Int} {l k : List Int} {n m : Nat} (g1 : l.length = n) (g2 : k.length = m) (hok : writeE s l k = 0) :
    checkZ s l = 0 ∧ inB m 1 8 = true ∧ (k.all fun x => inB x 0 999) = true ∧ (s == 4) = false ∧ 0 < m ∧ n + m ≤ 8 := by
  obtain ⟨h1, h2, h3, h4, h5⟩ := writeE_ok hok
  rw [g1, g2] at h3
  rw [g2] at h2
  exact ⟨h1, by simp [inB]; omega, by rw [all_any, h4]; rfl, by simpa using h5, by omega, h3⟩

theorem set2_0 {w : World} {g : Nat} {u0 : Value} (h0 : w.cell? ⟨g, 0, none⟩ = some u0) (v0 v1 : Value) (o : Obj) : (((w.setCell ⟨g, 0, none⟩ v0).setCell ⟨g, 1, none⟩ v1).alloc o).cell? ⟨g, 0, none⟩ = some v0 :=
  past1 (by rw [World.cell?_setCell_other _ _ _ _ (by simp)]; exact World.cell?_setCell_same _ _ _ h0) o
theorem set2_1 {w : World} {g : Nat} {u1 : Value} (h1 : w.cell? ⟨g, 1, none⟩ = some u1) (v0 v1 : Value) (o : Obj) : (((w.setCell ⟨g, 0, none⟩ v0).setCell ⟨g, 1, none⟩ v1).alloc o).cell? ⟨g, 1, none⟩ = some v1 :=
  past1 (World.cell?_setCell_same _ _ _ (by rw [World.cell?_setCell_other _ _ _ _ (by simp)]; exact h1)) o

theorem writeS_n1 {s : Int} {n m : Nat} (h : (n : Int) + m = 8) : writeS s (n + m) = 4 := by simp [writeS]; omega
theorem writeS_n2 {s : Int} {n m : Nat} (h : ¬ (n : Int) + m = 8) (hs : (s == 2) = true) : writeS s (n + m) = 2 := by simp at hs; simp [writeS, hs]; omega
theorem writeS_n3 {s : Int} {n m : Nat} (h : ¬ (n : Int) + m = 8) (hs : (s == 2) = false) : writeS s (n + m) = 1 := by simp at hs; simp [writeS, hs]; omega

end Go.Proofs.YtcbgkjmcdjpgcaaGreatDoor

/- The contract of the document's own answer ReadZone; no condition but that the zone reads as its state and list. -/
namespace Go.Proofs.YtcbgkjmcdjpgcaaGreatDoor
open Go.RowKit
set_option linter.unusedVariables false
set_option maxRecDepth 100000
set_option linter.unusedSimpArgs false

theorem OwnI.alloc {w : World} {base : Nat} {v : Value} {l : List Int} (h : OwnI w base v l) (o : Obj) : OwnI (w.alloc o) base v l := World.ownsRow.alloc h o

theorem OwnI.own {w : World} {base : Nat} {v : Value} {l : List Int} (h : OwnI w base v l) : ∀ k, v.ownBlock = some k → base ≤ k := by
  intro k e
  obtain ⟨_, h⟩ := h
  rcases h with ⟨rfl, _⟩ | ⟨g, cap, cur, rfl, hb, _⟩
  · cases e
  · simp [Value.ownBlock] at e; omega

theorem OwnI.snoc {w : World} {base : Nat} {v : Value} {l : List Int} {x : Int} (h : w.ownsRow base 3 1 v (l.length + 1) (cellsOf l ++ [.int .i64 x])) : OwnI w base v (l ++ [x]) := by
  unfold OwnI
  rw [List.length_append, ← cellsOf_app]
  exact h

theorem OwnI.mono {w : World} {base base' : Nat} {v : Value} {l : List Int} (h : OwnI w base v l) (hb : base' ≤ base) : OwnI w base' v l := by
  obtain ⟨h1, h⟩ := h
  refine ⟨h1, ?_⟩
  rcases h with h | ⟨g, cap, cur, e, hg, r⟩
  · exact .inl h
  · exact .inr ⟨g, cap, cur, e, Nat.le_trans hb hg, r⟩

theorem take_drop_snoc (l : List Int) (i j : Nat) (h : i + j < l.length) : (l.drop i).take (j + 1) = (l.drop i).take j ++ [l.getD (i + j) 0] := by
  rw [take_succ_getD _ j (by simp; omega)]
  simp [List.getD]

end Go.Proofs.YtcbgkjmcdjpgcaaGreatDoor

/- The contract of cmd.listed; no condition but that the data reads as a list, and the table is as its text lays it. -/
namespace Go.Proofs.YtcbgkjmcdjpgcaaGreatDoor
open Go.RowKit
set_option linter.unusedVariables false
set_option maxRecDepth 100000
set_option linter.unusedSimpArgs false

/-- What is listed of the single numbers, up to part i. -/
def pickN (hz ha hn : Bool) (z t n : Int) : Nat → List Int
  | 0 => []
  | 1 => if hz then [z] else []
  | 2 => (if hz then [z] else []) ++ (if ha then [t] else [])
  | _ => (if hz then [z] else []) ++ (if ha then [t] else []) ++ (if hn then [n] else [])
/-- The numbers of a command, in the order in which they are printed. -/
def listC (b : PC) : List Int := pickN (hasZ b.k) (hasA b.k) (hasN b.k) b.z b.at' b.n 3 ++ b.d

theorem pickN_len (hz ha hn : Bool) (z t n : Int) : ∀ i, (pickN hz ha hn z t n i).length ≤ 3
  | 0 => by simp [pickN]
  | 1 => by cases hz <;> simp [pickN]
  | 2 => by cases hz <;> cases ha <;> simp [pickN]
  | _ + 3 => by cases hz <;> cases ha <;> cases hn <;> simp [pickN]

theorem OwnI.append {w : World} {base : Nat} {v : Value} {l k : List Int} {m : Nat} (hm : k.length = m) (h : w.ownsRow base 3 1 v (l.length + m) (cellsOf l ++ cellsOf k)) : OwnI w base v (l ++ k) := by
  unfold OwnI
  rw [List.length_append, hm, ← cellsOf_app]
  exact h

set_option maxRecDepth 100000 in
set_option maxHeartbeats 2000000 in
theorem listed_c (a : Option Addr) (m c : Nat) (k : Nat) (z n t : Int) (d : List Int) (w : World) (hS : Shapes w) (h : Ints w a m c d) (hm : m ≤ 1000) (hk1 : 1 ≤ k) (hk2 : k ≤ 12) :
    Calls Tryz.prog 46 #[.agg #[.int .i64 k, .int .i64 z, .int .i64 n, .int .i64 t, .slice a m c]] w fun e w' => (∃ v, e = .returned v ∧ OwnI w' w.heap.size v (listC ⟨k, z, n, t, d⟩)) ∧ Below w.heap.size w w' := by
  obtain ⟨i, hi, hzr, hs, hb⟩ := intInfo
  have s1 := hS.hz k hk2
  have s2 : w.cell? ⟨0, k * 5 + 1 + 1, none⟩ = some (.bool (hasA k)) := hS.ha k hk2
  have s3 : w.cell? ⟨0, k * 5 + 1 + 2, none⟩ = some (.bool (hasN k)) := hS.hn k hk2
  have HL : Hid (listC ⟨k, z, n, t, d⟩ = pickN (hasZ k) (hasA k) (hasN k) z t n 3 ++ d) := hide rfl
  have k1 : (1 : Int) ≤ (k : Int) := by omega
  have k2 : (k : Int) < 13 := by omega
  have k0 : (0 : Int) ≤ (k : Int) := by omega
  clear hS
  generalize hasZ k = hz at *
  generalize hasA k = ha at *
  generalize hasN k = hn at *
  have i0 : ∀ w : World, (Instr.index 97 (.agg #[.int .i64 z, .int .i64 t, .int .i64 n]) (.int .i64 0)).run Tryz.prog w = .ok (.int .i64 z) w := fun w => by kernel_rfl
  have i1 : ∀ w : World, (Instr.index 97 (.agg #[.int .i64 z, .int .i64 t, .int .i64 n]) (.int .i64 1)).run Tryz.prog w = .ok (.int .i64 t) w := fun w => by kernel_rfl
  have i2 : ∀ w : World, (Instr.index 97 (.agg #[.int .i64 z, .int .i64 t, .int .i64 n]) (.int .i64 2)).run Tryz.prog w = .ok (.int .i64 n) w := fun w => by kernel_rfl
  go_enter Tryz.func46, Tryz.ntmps46
  go_wp2_with fail
  refine (singles_c _ _ _ _ _ _ _ _).mono ?_
  rintro e w1 ⟨rfl, hb1⟩
  have bw : Below w.heap.size w w1 := by (repeat (first | exact Below.refl _ _ | assumption | refine Below.drew ?_ | refine below_drewN ?_ _ | refine belowA ?_ _ | refine belowT ?_ (by assumption) | refine Below.setCell ?_ (by first | (simp; done) | (simp; omega)) _))
  have b0 := keepc hb1 (p := ⟨w.heap.size, 0, none⟩) (u := .int .i64 k) (by go_simp)
  have b4 := keepc hb1 (p := ⟨w.heap.size, 4, none⟩) (u := .slice a m c) (by go_simp)
  have j1 := h.below bw (Nat.le_refl _)
  replace s1 := keepc bw s1
  replace s2 := keepc bw s2
  replace s3 := keepc bw s3
  clear hb1
  go_wp2
  go_loopw [3, 8] (fun o x wr => ∃ j : Nat, j ≤ 3 ∧ x = .int .i64 j ∧ OwnI wr w1.heap.size o (pickN hz ha hn z t n j) ∧ Below w1.heap.size w1 wr) (fun _ x _ => 3 - (intOf x).toNat)
  case atStart => exact ⟨0, by omega, rfl, nil_own _ _, Below.refl _ _⟩
  case round =>
    obtain ⟨j, hj, rfl, hown, hbr⟩ := hrel
    rename_i wr
    have c0 := keepc hbr b0
    have hob := hown.own
    have hpl := pickN_len hz ha hn z t n j
    rcases (by omega : j = 0 ∨ j = 1 ∨ j = 2 ∨ j = 3) with rfl | rfl | rfl | rfl
    · replace s1 := keepc hbr s1
      cases hz
      · go_wp2
        exact ⟨⟨1, by omega, by go_num, by simpa [pickN] using hown, hbr⟩, by simp [intOf]⟩
      · generalize hL : pickN true ha hn z t n 0 = L at *
        have HPL := hide hL
        clear hL
        go_wp2_with (at_builtin; refine wpList_append_own _ rfl _ _ 25 rfl w1.heap.size 3 i (.int .i64 0) 1 8 Tryz.underlying25 hi hzr hs hb rfl (by decide) _ _ _ rfl (hown.alloc _) ⟨wr.heap.size, 0, none⟩ 1 1 [.int .i64 z] rfl rfl (cell_one_new _ _ _) ?hq1 ?hq2 ?hq3 ?hq4 ?hq5)
        case hq1 => intro u hu; simp at hu; subst hu; rfl
        case hq2 => simp [maxLen]; omega
        case hq3 => omega
        case hq4 => have := hbr.size; simp; omega
        case hq5 =>
          intro v' w3 hown3 hg3 _
          have b3 : Below w1.heap.size w1 w3 := (hbr.alloc hbr.size _).grown hg3 (by simp; have := hbr.size; omega) hob
          have o3 : OwnI w3 w1.heap.size v' (pickN true ha hn z t n 1) := by
            have := OwnI.snoc hown3
            rw [← HPL.out] at this
            simpa [pickN] using this
          go_wp2
          exact ⟨⟨1, by omega, by go_num, o3, b3⟩, by simp [intOf]⟩
    · replace s2 := keepc hbr s2
      cases ha
      · go_wp2
        exact ⟨⟨2, by omega, by go_num, by simpa [pickN] using hown, hbr⟩, by simp [intOf]⟩
      · generalize hL : pickN hz true hn z t n 1 = L at *
        have HPL := hide hL
        clear hL
        go_wp2_with (at_builtin; refine wpList_append_own _ rfl _ _ 25 rfl w1.heap.size 3 i (.int .i64 0) 1 8 Tryz.underlying25 hi hzr hs hb rfl (by decide) _ _ _ rfl (hown.alloc _) ⟨wr.heap.size, 0, none⟩ 1 1 [.int .i64 t] rfl rfl (cell_one_new _ _ _) ?hq1 ?hq2 ?hq3 ?hq4 ?hq5)
        case hq1 => intro u hu; simp at hu; subst hu; rfl
        case hq2 => simp [maxLen]; omega
        case hq3 => omega
        case hq4 => have := hbr.size; simp; omega
        case hq5 =>
          intro v' w3 hown3 hg3 _
          have b3 : Below w1.heap.size w1 w3 := (hbr.alloc hbr.size _).grown hg3 (by simp; have := hbr.size; omega) hob
          have o3 : OwnI w3 w1.heap.size v' (pickN hz true hn z t n 2) := by
            have := OwnI.snoc hown3
            rw [← HPL.out] at this
            simpa [pickN] using this
          go_wp2
          exact ⟨⟨2, by omega, by go_num, o3, b3⟩, by simp [intOf]⟩
    · replace s3 := keepc hbr s3
      cases hn
      · go_wp2
        exact ⟨⟨3, by omega, by go_num, by simpa [pickN] using hown, hbr⟩, by simp [intOf]⟩
      · generalize hL : pickN hz ha true z t n 2 = L at *
        have HPL := hide hL
        clear hL
        go_wp2_with (at_builtin; refine wpList_append_own _ rfl _ _ 25 rfl w1.heap.size 3 i (.int .i64 0) 1 8 Tryz.underlying25 hi hzr hs hb rfl (by decide) _ _ _ rfl (hown.alloc _) ⟨wr.heap.size, 0, none⟩ 1 1 [.int .i64 n] rfl rfl (cell_one_new _ _ _) ?hq1 ?hq2 ?hq3 ?hq4 ?hq5)
        case hq1 => intro u hu; simp at hu; subst hu; rfl
        case hq2 => simp [maxLen]; omega
        case hq3 => omega
        case hq4 => have := hbr.size; simp; omega
        case hq5 =>
          intro v' w3 hown3 hg3 _
          have b3 : Below w1.heap.size w1 w3 := (hbr.alloc hbr.size _).grown hg3 (by simp; have := hbr.size; omega) hob
          have o3 : OwnI w3 w1.heap.size v' (pickN hz ha true z t n 3) := by
            have := OwnI.snoc hown3
            rw [← HPL.out] at this
            simpa [pickN] using this
          go_wp2
          exact ⟨⟨3, by omega, by go_num, o3, b3⟩, by simp [intOf]⟩
    · replace b4 := keepc hbr b4
      replace j1 := j1.below hbr (Nat.le_refl _)
      have e1 := j1.len
      generalize pickN hz ha hn z t n 3 = L at *
      cases a with
      | none =>
        obtain ⟨rfl, rfl⟩ := j1.nils rfl
        obtain rfl : d = [] := List.eq_nil_of_length_eq_zero e1
        go_wp2_with (at_builtin; refine wpList_append_own_none rfl _ _ 25 rfl w1.heap.size 3 i 1 Tryz.underlying25 hi _ _ _ rfl hown rfl ?_)
        go_ret
        refine ⟨⟨_, rfl, ?_⟩, by (repeat (first | exact Below.refl _ _ | assumption | refine Below.drew ?_ | refine below_drewN ?_ _ | refine belowA ?_ _ | refine belowT ?_ (by assumption) | refine Below.setCell ?_ (by first | (simp; done) | (simp; omega)) _))⟩
        rw [HL.out]
        simpa using hown.mono bw.size
      | some ad =>
        go_wp2_with (at_builtin; refine wpList_append_own _ rfl _ _ 25 rfl w1.heap.size 3 i (.int .i64 0) 1 8 Tryz.underlying25 hi hzr hs hb rfl (by decide) _ _ _ rfl hown ad m c (cellsOf d) rfl ?hq0 (j1.srcs ad rfl) (cellsOf_one d) ?hq2 ?hq3 ?hq4 ?hq5)
        case hq0 => simp [cellsOf_len, e1]
        case hq2 => simp [maxLen]; omega
        case hq3 => omega
        case hq4 => exact hbr.size
        case hq5 =>
          intro v' w3 hown3 hg3 _
          have b3 : Below w1.heap.size w1 w3 := hbr.grown hg3 hbr.size hob
          have o3 : OwnI w3 w1.heap.size v' (L ++ d) := OwnI.append e1 hown3
          go_wp2
          go_ret
          refine ⟨⟨_, rfl, ?_⟩, by (repeat (first | exact Below.refl _ _ | assumption | refine Below.drew ?_ | refine below_drewN ?_ _ | refine belowA ?_ _ | refine belowT ?_ (by assumption) | refine Below.setCell ?_ (by first | (simp; done) | (simp; omega)) _))⟩
          rw [HL.out]
          exact o3.mono bw.size

end Go.Proofs.YtcbgkjmcdjpgcaaGreatDoor
