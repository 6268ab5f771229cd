/- The contracts of the document's own words and CmdText; no condition but that the data reads as a list, and the package-level variables are as their texts lay them. -/
import Derived.Test.YtcbgkjmcdjpgcaaGreatDoorDiskSaysG10
import Derived.Test.YtcbgkjmcdjpgcaaGreatDoorDiskSaysG7
import Derived.Deep.DeepCutAuto
import Derived.Lib.OthersKept
import Derived.WideMake
import Derived.ChangeMaps4
namespace Go.Proofs.YtcbgkjmcdjpgcaaGreatDoor
open Go.RowKit
set_option linter.unusedVariables false
set_option maxRecDepth 100000
set_option linter.unusedSimpArgs false

def wordsL : List ByteArray := (List.range 13).map word
def wordsS : ByteArray := ⟨#[32, 111, 112, 101, 110, 32, 99, 108, 111, 115, 101, 32, 102, 105, 110, 105, 115, 104, 32, 114, 101, 115, 101, 116, 32, 97, 112, 112, 101, 110, 100, 32, 119, 114, 105, 116, 101, 32, 114, 101, 97, 100, 32, 114, 101, 103, 105, 115, 116, 101, 114, 32, 114, 101, 115, 101, 114, 118, 101, 32, 114, 101, 108, 101, 97, 115, 101, 32, 112, 114, 101, 101, 109, 112, 116, 32, 99, 108, 101, 97, 114]⟩

theorem map_data_inj : ∀ {a b : List ByteArray}, a.map (·.data.toList) = b.map (·.data.toList) → a = b
  | [], [], _ => rfl
  | [], _ :: _, h => by simp at h
  | _ :: _, [], h => by simp at h
  | x :: a, y :: b, h => by
    simp only [List.map_cons, List.cons.injEq] at h
    rw [bytes_eq h.1, map_data_inj h.2]

theorem pieces_words : pieces wordsS = wordsL := map_data_inj (by rw [pieces_toks]; decide +kernel)
theorem count_words : Lib.countB wordsS ⟨#[32]⟩ = 12 := by
  have h := splitB_len wordsS
  have h2 : (pieces wordsS).length = 13 := by rw [pieces_words]; rfl
  unfold pieces at h2
  omega

set_option maxRecDepth 100000 in
theorem words_c (w : World) (hE : Env w) : Calls Tryz.prog 59 #[] w fun e w' => e = .returned (.slice (some ⟨w.heap.size, 0, none⟩) 13 13) ∧ w' = w.alloc (.cells (wordsL.map Value.string).toArray 9) := by
  obtain ⟨m, hm⟩ := hE.max
  have h1 := Tryz.strings_Split wordsS ⟨#[32]⟩ m w (by decide) hm (by decide)
  have h2 := pieces_words
  unfold pieces at h2
  rw [h2, count_words] at h1
  have H1 := hide h1
  clear h1 h2
  go_enter Tryz.func59, Tryz.ntmps59
  go_wp2_with fail
  refine H1.out.mono ?_
  rintro e w' ⟨rfl, rfl⟩
  go_wp2
  go_ret
  exact ⟨rfl, rfl⟩

theorem wordsL_get (k : Nat) (hk : k ≤ 12) : (wordsL.map Value.string)[k]? = some (.string (word k)) := by
  have : k < 13 := by omega
  simp [wordsL, this]

theorem words_b (w : World) (hE : Env w) : Calls Tryz.prog 59 #[] w fun e w' => e = .returned (.slice (some ⟨w.heap.size, 0, none⟩) 13 13) ∧ (∀ k, k ≤ 12 → w'.cell? ⟨w.heap.size, k, none⟩ = some (.string (word k))) ∧ Below w.heap.size w w' := by
  refine (words_c w hE).mono ?_
  rintro e w' ⟨rfl, rfl⟩
  refine ⟨rfl, fun k hk => ?_, by (repeat (first | exact Below.refl _ _ | assumption | refine Below.drew ?_ | refine below_drewN ?_ _ | refine belowA ?_ _ | refine belowT ?_ (by assumption) | refine Below.setCell ?_ (by first | (simp; done) | (simp; omega)) _))⟩
  rw [cell_of_row _ _ _ _ _ _ (heap_new w _), List.getElem?_toArray]
  exact wordsL_get k hk

/-- A map's block set anew. -/
def setB (w : World) (r : Nat) (o : Obj) : World := { w with heap := w.heap.setIfInBounds r o }
theorem setB_same {w : World} {r : Nat} {o' : Obj} (h : w.heap[r]? = some o') (o : Obj) : (setB w r o).heap[r]? = some o := by
  have hlt := (Array.getElem?_eq_some_iff.1 h).1
  simp [setB, hlt]
theorem setB_cell (w : World) (r : Nat) (o : Obj) (p : Addr) (h : p.block ≠ r) : (setB w r o).cell? p = w.cell? p := by
  simp [setB, World.cell?, Array.getElem?_setIfInBounds, Ne.symm h]
theorem setB_below {B : Nat} {a w : World} (h : Below B a w) {r : Nat} (hr : B ≤ r) (o : Obj) : Below B a (setB w r o) :=
  h.trans ⟨rfl, rfl, rfl, by simp [setB], fun i hi => by simp [setB, Array.getElem?_setIfInBounds, show ¬ r = i by omega]⟩
theorem setB_size (w : World) (r : Nat) (o : Obj) : (setB w r o).heap.size = w.heap.size := by simp [setB]

theorem upd_run (w : World) (r clock : Nat) (es : Array MapEntry) (key : Int) (val : Value) (hb : w.heap[r]? = some (.map es clock)) (hf : Instr.findNow (.int .i32) (.int .i32 key) es.toList 0 = some none)
    (es' : Array MapEntry) (he : es.push { key := .int .i32 key, val := val, born := clock } = es') (cl' : Nat) (hcl : clock + 1 = cl') :
    (Instr.mapUpdate 95 (.map (some r)) (.int .i32 key) val).run Tryz.prog w = .ok () (setB w r (.map es' cl')) := by
  subst he hcl
  have hc : (Instr.checkKey false 10000 21 (.int .i32 key)).run Tryz.prog w = .ok () w := MapKept.run_checkKey (k := .int .i32 key) Tryz.underlying21 (by simp [MapKept.IsKey]) false 9999
  simp [Instr.mapUpdate, run_underlying Tryz.underlying95, MapKept.run_getObj_map hb, hc, MapKept.run_findKey Tryz.underlying21 hf, MapKept.run_setObj_map _ hb, Result.andThen, setB]
theorem look_run (w : World) (r clock : Nat) (es : Array MapEntry) (key : Int) (i : Nat) (v : Value) (hb : w.heap[r]? = some (.map es clock)) (hf : Instr.findNow (.int .i32) (.int .i32 key) es.toList 0 = some (some (i, v))) :
    (Instr.lookup 95 (.map (some r)) (.int .i32 key) false).run Tryz.prog w = .ok v w := by
  have hc : ∀ b, (Instr.checkKey b 10000 21 (.int .i32 key)).run Tryz.prog w = .ok () w := fun b => MapKept.run_checkKey (k := .int .i32 key) Tryz.underlying21 (by simp [MapKept.IsKey]) b 9999
  simp [Instr.lookup, run_underlying Tryz.underlying95, MapKept.run_getObj_map hb, hc, MapKept.run_findKey Tryz.underlying21 hf, Result.andThen]

/-- The numbers of a letter. -/
def lst (z n t : Int) (d : List Int) (c : UInt8) : List Int := if c = 122 then [z] else if c = 97 then [t] else if c = 110 then [n] else d
def flatT (l : List Int) : List UInt8 := l.flatMap fun v => 32 :: Lib.itoa v
theorem one_ints {w : World} {g : Nat} {x : Int} (h : w.cell? ⟨g, 0, none⟩ = some (.int .i64 x)) (hx : -9223372036854775808 ≤ x ∧ x ≤ 9223372036854775807) : Ints w (some ⟨g, 0, none⟩) 1 1 [x] := by
  refine ⟨rfl, Nat.le_refl _, by omega, fun e => (by cases e), .inr ⟨g, 0, rfl, World.block_lt_of_cell? w _ h, fun i hi => ?_⟩, fun y hy => by simp at hy; subst hy; exact hx⟩
  obtain rfl : i = 0 := by omega
  exact h
theorem lst_wf {z n t : Int} {d : List Int} (hwz : (0 ≤ z ∧ z ≤ 999) ∧ (0 ≤ n ∧ n ≤ 999) ∧ (0 ≤ t ∧ t ≤ 999)) (hwd : ∀ x ∈ d, 0 ≤ x ∧ x ≤ 999) (c : UInt8) : ∀ x ∈ lst z n t d c, 0 ≤ x ∧ x ≤ 999 := by
  intro x hx
  unfold lst at hx
  split at hx
  · simp at hx; omega
  · split at hx
    · simp at hx; omega
    · split at hx
      · simp at hx; omega
      · exact hwd x hx
theorem lst_len (z n t : Int) {d : List Int} (hd : d.length ≤ 8) (c : UInt8) : (lst z n t d c).length ≤ 8 := by
  unfold lst
  split
  · simp
  · split
    · simp
    · split
      · simp
      · exact hd
theorem lsts_wf {z n t : Int} {d : List Int} (hwz : (0 ≤ z ∧ z ≤ 999) ∧ (0 ≤ n ∧ n ≤ 999) ∧ (0 ≤ t ∧ t ≤ 999)) (hwd : ∀ x ∈ d, 0 ≤ x ∧ x ≤ 999) (l : List UInt8) : ∀ x ∈ l.flatMap (lst z n t d), 0 ≤ x ∧ x ≤ 999 := by
  intro x hx
  obtain ⟨c, _, h⟩ := List.mem_flatMap.1 hx
  exact lst_wf hwz hwd c x h
theorem lsts_len (z n t : Int) {d : List Int} (hd : d.length ≤ 8) : ∀ l : List UInt8, (l.flatMap (lst z n t d)).length ≤ 8 * l.length
  | [] => by simp
  | c :: l => by
    have h1 := lst_len z n t hd c
    have h2 := lsts_len z n t hd l
    simp only [List.flatMap_cons, List.length_append, List.length_cons]
    omega
theorem flatT_append (a b : List Int) : flatT (a ++ b) = flatT a ++ flatT b := by simp [flatT]
def posOf (w : World) (I : Nat) : Nat := match w.heap[I]? with
  | some (.stringIter _ p) => p
  | _ => 0
theorem posOf_at {w : World} {I : Nat} {s : ByteArray} {p : Nat} (h : w.heap[I]? = some (.stringIter s p)) : posOf w I = p := by
  unfold posOf
  rw [h]

set_option maxRecDepth 100000 in
set_option maxHeartbeats 2000000 in
theorem CmdText_k (a : Option Addr) (m c : Nat) (k : Nat) (z n t : Int) (d : List Int) (w : World) (hE : Env w) (h : Ints w a m c d) (hk1 : 1 ≤ k) (hk2 : k ≤ 12) (hwz : (0 ≤ z ∧ z ≤ 999) ∧ (0 ≤ n ∧ n ≤ 999) ∧ (0 ≤ t ∧ t ≤ 999)) (hwd : ∀ x ∈ d, 0 ≤ x ∧ x ≤ 999) (hm8 : m ≤ 8)
    (hlist : (hasS k).data.toList.flatMap (lst z n t d) = listC ⟨k, z, n, t, d⟩) :
    Calls Tryz.prog 40 #[.agg #[.int .i64 k, .int .i64 z, .int .i64 n, .int .i64 t, .slice a m c]] w fun e w' => e = .returned (textV (textC ⟨k, z, n, t, d⟩)) ∧ Below w.heap.size w w' := by
  have k1 : (1 : Int) ≤ (k : Int) := by omega
  have k2 : (k : Int) < 13 := by omega
  have k0 : (0 : Int) ≤ (k : Int) := by omega
  go_enter Tryz.func40, Tryz.ntmps40
  go_upto_region 1 with fail
  have u0 : (w.alloc (.cells #[.int .i64 k, .int .i64 z, .int .i64 n, .int .i64 t, .slice a m c] 27)).cell? ⟨w.heap.size, 0, none⟩ = some (.int .i64 k) := by go_simp
  have u1 : (w.alloc (.cells #[.int .i64 k, .int .i64 z, .int .i64 n, .int .i64 t, .slice a m c] 27)).cell? ⟨w.heap.size, 1, none⟩ = some (.int .i64 z) := by go_simp
  have u2 : (w.alloc (.cells #[.int .i64 k, .int .i64 z, .int .i64 n, .int .i64 t, .slice a m c] 27)).cell? ⟨w.heap.size, 2, none⟩ = some (.int .i64 n) := by go_simp
  have u3 : (w.alloc (.cells #[.int .i64 k, .int .i64 z, .int .i64 n, .int .i64 t, .slice a m c] 27)).cell? ⟨w.heap.size, 3, none⟩ = some (.int .i64 t) := by go_simp
  have u4 : (w.alloc (.cells #[.int .i64 k, .int .i64 z, .int .i64 n, .int .i64 t, .slice a m c] 27)).cell? ⟨w.heap.size, 4, none⟩ = some (.slice a m c) := by go_simp
  have bw : Below w.heap.size w (w.alloc (.cells #[.int .i64 k, .int .i64 z, .int .i64 n, .int .i64 t, .slice a m c] 27)) := by (repeat (first | exact Below.refl _ _ | assumption | refine Below.drew ?_ | refine below_drewN ?_ _ | refine belowA ?_ _ | refine belowT ?_ (by assumption) | refine Below.setCell ?_ (by first | (simp; done) | (simp; omega)) _))
  generalize w.alloc (.cells #[.int .i64 k, .int .i64 z, .int .i64 n, .int .i64 t, .slice a m c] 27) = w1 at *
  go_cut [3] (fun v wx => v = .string (word k) ∧ Below w1.heap.size w1 wx)
  case first =>
    go_region_with (first | (go_at_call 59; refine (words_b _ (by refine hE.below ?_; (repeat (first | exact Below.refl _ _ | assumption | refine Below.drew ?_ | refine below_drewN ?_ _ | refine belowA ?_ _ | refine belowT ?_ (by assumption) | refine Below.setCell ?_ (by first | (simp; done) | (simp; omega)) _)))).mono ?_; rintro e w9 ⟨rfl, hc9, hb9⟩; (have c9 : w9.cell? ⟨w1.heap.size, k, none⟩ = some (.string (word k)) := hc9 k hk2); (have f0 := keepc hb9 (p := ⟨w.heap.size, 0, none⟩) (u := .int .i64 k) (by (first | (go_simp; done) | (simp [*, World.cell?_alloc_at, World.cell?_alloc_past, World.cell?_alloc_some, World.cell?_setCell_far]; done)))); (have f1 := keepc hb9 (p := ⟨w.heap.size, 1, none⟩) (u := .int .i64 z) (by (first | (go_simp; done) | (simp [*, World.cell?_alloc_at, World.cell?_alloc_past, World.cell?_alloc_some, World.cell?_setCell_far]; done)))); (have f2 := keepc hb9 (p := ⟨w.heap.size, 2, none⟩) (u := .int .i64 n) (by (first | (go_simp; done) | (simp [*, World.cell?_alloc_at, World.cell?_alloc_past, World.cell?_alloc_some, World.cell?_setCell_far]; done)))); (have f3 := keepc hb9 (p := ⟨w.heap.size, 3, none⟩) (u := .int .i64 t) (by (first | (go_simp; done) | (simp [*, World.cell?_alloc_at, World.cell?_alloc_past, World.cell?_alloc_some, World.cell?_setCell_far]; done)))); (have f4 := keepc hb9 (p := ⟨w.heap.size, 4, none⟩) (u := .slice a m c) (by (first | (go_simp; done) | (simp [*, World.cell?_alloc_at, World.cell?_alloc_past, World.cell?_alloc_some, World.cell?_setCell_far]; done))))))
    all_goals
      go_wp2_with fail
      go_meet
    all_goals
      case rel => exact ⟨by simp, by (repeat (first | exact Below.refl _ _ | assumption | refine Below.drew ?_ | refine below_drewN ?_ _ | refine belowA ?_ _ | refine belowT ?_ (by assumption) | refine Below.setCell ?_ (by first | (simp; done) | (simp; omega)) _))⟩
  case rest =>
    obtain ⟨rfl, hbc⟩ := hcut
    replace u0 := keepc hbc u0
    replace u1 := keepc hbc u1
    replace u2 := keepc hbc u2
    replace u3 := keepc hbc u3
    replace u4 := keepc hbc u4
    replace bw := belowT bw hbc
    clear hbc
    go_wp2_with fail
    refine (has_c k _ hk2).mono ?_
    rintro e w2 ⟨rfl, hb2⟩
    replace u0 := keepc hb2 u0
    replace u1 := keepc hb2 u1
    replace u2 := keepc hb2 u2
    replace u3 := keepc hb2 u3
    replace u4 := keepc hb2 u4
    replace bw := belowT bw hb2
    clear hb2
    have hlet : ∀ c ∈ (hasS k).data.toList, c = 122 ∨ c = 97 ∨ c = 110 ∨ c = 100 := by
      rcases (by omega : k = 1 ∨ k = 2 ∨ k = 3 ∨ k = 4 ∨ k = 5 ∨ k = 6 ∨ k = 7 ∨ k = 8 ∨ k = 9 ∨ k = 10 ∨ k = 11 ∨ k = 12) with rfl | rfl | rfl | rfl | rfl | rfl | rfl | rfl | rfl | rfl | rfl | rfl <;> decide
    have hhs : (hasS k).size ≤ 3 := by
      rcases (by omega : k = 1 ∨ k = 2 ∨ k = 3 ∨ k = 4 ∨ k = 5 ∨ k = 6 ∨ k = 7 ∨ k = 8 ∨ k = 9 ∨ k = 10 ∨ k = 11 ∨ k = 12) with rfl | rfl | rfl | rfl | rfl | rfl | rfl | rfl | rfl | rfl | rfl | rfl <;> decide
    have HT : Hid (textC ⟨k, z, n, t, d⟩ = (word k).data.toList ++ flatT (listC ⟨k, z, n, t, d⟩)) := hide rfl
    have HLI := hide hlist
    have hwl := word_len k
    clear hlist
    generalize word k = wd at *
    generalize hasS k = hs at *
    go_wp2
    have hI : (w2.iter hs 0).heap[w2.heap.size]? = some (.stringIter hs 0) := World.iter_heap _ _ _
    have bI : Below w2.heap.size w2 (w2.iter hs 0) := belowA (Below.refl _ _) _
    generalize w2.iter hs 0 = w3 at *
    go_loopw [3] (fun o wr => ∃ (p : Nat) (T : List UInt8), p ≤ hs.size ∧ o = textV (wd.data.toList ++ T) ∧ T = flatT ((hs.data.toList.take p).flatMap (lst z n t d)) ∧ wr.heap[w2.heap.size]? = some (.stringIter hs p) ∧ Below w2.heap.size w2 wr) (fun _ wr => hs.size - posOf wr w2.heap.size)
    case atStart => exact ⟨0, [], by omega, by simp [textV], rfl, hI, bI⟩
    case round =>
      obtain ⟨p, T, hp, rfl, hT, hit, hbr⟩ := hrel
      rename_i wr
      by_cases hlt : p < hs.size
      · obtain ⟨cc, hc⟩ : ∃ cc, hs.data.toList[p]? = some cc := ⟨_, List.getElem?_eq_getElem (by rw [← Lib.size_eq]; exact hlt)⟩
        have hc4 := hlet cc (List.mem_of_getElem? hc)
        have hcp : (hs[p]'hlt) = cc := by
          have := List.getElem?_eq_some_iff.1 hc
          obtain ⟨h1, h2⟩ := this
          rw [← h2]
          simp [ByteArray.getElem_eq_getElem_data]
        have hc128 : cc.toNat < 128 := by rcases hc4 with rfl | rfl | rfl | rfl <;> decide
        have hnext := fun ty => Lib.run_next_ascii_at (P := Tryz.prog) wr w2.heap.size hs p ty hit hlt (by rw [hcp]; exact hc128)
        rw [hcp] at hnext
        have hTn : (hs.data.toList.take (p + 1)).flatMap (lst z n t d) = (hs.data.toList.take p).flatMap (lst z n t d) ++ lst z n t d cc := by
          rw [List.take_add_one, hc]
          simp
        have HTN := hide hTn
        have HTT := hide hT
        clear hTn hT hcp hc hlet
        go_upto_region 5 with fail
        have hit4 : (wr.iterAt w2.heap.size hs (p + 1)).heap[w2.heap.size]? = some (.stringIter hs (p + 1)) := Lib.iterAt_heap _ _ _ _ _ hit
        have b4 : Below w2.heap.size w2 (wr.iterAt w2.heap.size hs (p + 1)) := Lib.below_iterAt hbr (Nat.le_refl _) _ _
        generalize wr.iterAt w2.heap.size hs (p + 1) = w4 at *
        replace u1 := keepc b4 u1
        replace u2 := keepc b4 u2
        replace u3 := keepc b4 u3
        replace u4 := keepc b4 u4
        have i4 := (h.below bw (Nat.le_refl _)).below b4 (Nat.le_refl _)
        have hlt4 : w2.heap.size < w4.heap.size := (Array.getElem?_eq_some_iff.1 hit4).1
        have HPOS := hide (posOf_at hit)
        clear hnext hit hbr
        go_cut [6] (fun v wx => ∃ av nv cv, v = .slice av nv cv ∧ Ints wx av nv cv (lst z n t d cc) ∧ wx.heap[w2.heap.size]? = some (.stringIter hs (p + 1)) ∧ Below w2.heap.size w2 wx)
        case first =>
          go_wp2
          rw [run_makeMap]
          have hM : (w4.alloc (.map #[] 0)).heap[w4.heap.size]? = some (.map #[] 0) := heap_new _ _
          have bM : Below w4.heap.size w4 (w4.alloc (.map #[] 0)) := belowA (Below.refl _ _) _
          have l0 : w4.heap.size < (w4.alloc (.map #[] 0)).heap.size := by simp
          generalize w4.alloc (.map #[] 0) = x0 at *
          have v1 := keepc bM u1
          have v2 := keepc bM u2
          have v3 := keepc bM u3
          have v4 := keepc bM u4
          go_wp2
          have hA : (x0.alloc (.cells #[.int .i64 z] 3)).heap[w4.heap.size]? = some (.map #[] 0) := (Below.heap_alloc _ _ _ l0).trans hM
          rw [upd_run (x0.alloc (.cells #[.int .i64 z] 3)) w4.heap.size 0 #[] 122 (.slice (some ⟨x0.heap.size, 0, none⟩) 1 1) hA rfl #[{ key := .int .i32 122, val := .slice (some ⟨x0.heap.size, 0, none⟩) 1 1, born := 0 }] rfl 1 rfl]
          have nM : (setB (x0.alloc (.cells #[.int .i64 z] 3)) w4.heap.size (.map #[{ key := .int .i32 122, val := .slice (some ⟨x0.heap.size, 0, none⟩) 1 1, born := 0 }] 1)).heap[w4.heap.size]? = some (.map #[{ key := .int .i32 122, val := .slice (some ⟨x0.heap.size, 0, none⟩) 1 1, born := 0 }] 1) := setB_same hA _
          have nB : Below w4.heap.size w4 (setB (x0.alloc (.cells #[.int .i64 z] 3)) w4.heap.size (.map #[{ key := .int .i32 122, val := .slice (some ⟨x0.heap.size, 0, none⟩) 1 1, born := 0 }] 1)) := setB_below (bM.trans ((belowA (Below.refl x0.heap.size x0) _).mono (Nat.le_of_lt l0))) (Nat.le_refl _) _
          have l1 : w4.heap.size < (setB (x0.alloc (.cells #[.int .i64 z] 3)) w4.heap.size (.map #[{ key := .int .i32 122, val := .slice (some ⟨x0.heap.size, 0, none⟩) 1 1, born := 0 }] 1)).heap.size := by rw [setB_size]; simp; omega
          have m0 : x0.heap.size < (setB (x0.alloc (.cells #[.int .i64 z] 3)) w4.heap.size (.map #[{ key := .int .i32 122, val := .slice (some ⟨x0.heap.size, 0, none⟩) 1 1, born := 0 }] 1)).heap.size := by rw [setB_size]; simp
          have q0 : (setB (x0.alloc (.cells #[.int .i64 z] 3)) w4.heap.size (.map #[{ key := .int .i32 122, val := .slice (some ⟨x0.heap.size, 0, none⟩) 1 1, born := 0 }] 1)).cell? ⟨x0.heap.size, 0, none⟩ = some (.int .i64 z) := (setB_cell _ _ _ _ (by simp; omega)).trans (by go_simp)
          clear hA
          generalize (setB (x0.alloc (.cells #[.int .i64 z] 3)) w4.heap.size (.map #[{ key := .int .i32 122, val := .slice (some ⟨x0.heap.size, 0, none⟩) 1 1, born := 0 }] 1)) = x1 at *
          replace v1 := keepc nB u1
          replace v2 := keepc nB u2
          replace v3 := keepc nB u3
          replace v4 := keepc nB u4
          clear hM bM
          have hM := nM
          have bM := nB
          clear nM nB
          go_wp2
          have hA : (x1.alloc (.cells #[.int .i64 t] 3)).heap[w4.heap.size]? = some (.map #[{ key := .int .i32 122, val := .slice (some ⟨x0.heap.size, 0, none⟩) 1 1, born := 0 }] 1) := (Below.heap_alloc _ _ _ l1).trans hM
          rw [upd_run (x1.alloc (.cells #[.int .i64 t] 3)) w4.heap.size 1 #[{ key := .int .i32 122, val := .slice (some ⟨x0.heap.size, 0, none⟩) 1 1, born := 0 }] 97 (.slice (some ⟨x1.heap.size, 0, none⟩) 1 1) hA rfl #[{ key := .int .i32 122, val := .slice (some ⟨x0.heap.size, 0, none⟩) 1 1, born := 0 }, { key := .int .i32 97, val := .slice (some ⟨x1.heap.size, 0, none⟩) 1 1, born := 1 }] rfl 2 rfl]
          have nM : (setB (x1.alloc (.cells #[.int .i64 t] 3)) w4.heap.size (.map #[{ key := .int .i32 122, val := .slice (some ⟨x0.heap.size, 0, none⟩) 1 1, born := 0 }, { key := .int .i32 97, val := .slice (some ⟨x1.heap.size, 0, none⟩) 1 1, born := 1 }] 2)).heap[w4.heap.size]? = some (.map #[{ key := .int .i32 122, val := .slice (some ⟨x0.heap.size, 0, none⟩) 1 1, born := 0 }, { key := .int .i32 97, val := .slice (some ⟨x1.heap.size, 0, none⟩) 1 1, born := 1 }] 2) := setB_same hA _
          have nB : Below w4.heap.size w4 (setB (x1.alloc (.cells #[.int .i64 t] 3)) w4.heap.size (.map #[{ key := .int .i32 122, val := .slice (some ⟨x0.heap.size, 0, none⟩) 1 1, born := 0 }, { key := .int .i32 97, val := .slice (some ⟨x1.heap.size, 0, none⟩) 1 1, born := 1 }] 2)) := setB_below (bM.trans ((belowA (Below.refl x1.heap.size x1) _).mono (Nat.le_of_lt l1))) (Nat.le_refl _) _
          have l2 : w4.heap.size < (setB (x1.alloc (.cells #[.int .i64 t] 3)) w4.heap.size (.map #[{ key := .int .i32 122, val := .slice (some ⟨x0.heap.size, 0, none⟩) 1 1, born := 0 }, { key := .int .i32 97, val := .slice (some ⟨x1.heap.size, 0, none⟩) 1 1, born := 1 }] 2)).heap.size := by rw [setB_size]; simp; omega
          have m1 : x1.heap.size < (setB (x1.alloc (.cells #[.int .i64 t] 3)) w4.heap.size (.map #[{ key := .int .i32 122, val := .slice (some ⟨x0.heap.size, 0, none⟩) 1 1, born := 0 }, { key := .int .i32 97, val := .slice (some ⟨x1.heap.size, 0, none⟩) 1 1, born := 1 }] 2)).heap.size := by rw [setB_size]; simp
          have q1 : (setB (x1.alloc (.cells #[.int .i64 t] 3)) w4.heap.size (.map #[{ key := .int .i32 122, val := .slice (some ⟨x0.heap.size, 0, none⟩) 1 1, born := 0 }, { key := .int .i32 97, val := .slice (some ⟨x1.heap.size, 0, none⟩) 1 1, born := 1 }] 2)).cell? ⟨x1.heap.size, 0, none⟩ = some (.int .i64 t) := (setB_cell _ _ _ _ (by simp; omega)).trans (by go_simp)
          have q0' : (setB (x1.alloc (.cells #[.int .i64 t] 3)) w4.heap.size (.map #[{ key := .int .i32 122, val := .slice (some ⟨x0.heap.size, 0, none⟩) 1 1, born := 0 }, { key := .int .i32 97, val := .slice (some ⟨x1.heap.size, 0, none⟩) 1 1, born := 1 }] 2)).cell? ⟨x0.heap.size, 0, none⟩ = some (.int .i64 z) := (setB_cell _ _ _ _ (by simp; omega)).trans (past1 q0 _)
          have m0' : x0.heap.size < (setB (x1.alloc (.cells #[.int .i64 t] 3)) w4.heap.size (.map #[{ key := .int .i32 122, val := .slice (some ⟨x0.heap.size, 0, none⟩) 1 1, born := 0 }, { key := .int .i32 97, val := .slice (some ⟨x1.heap.size, 0, none⟩) 1 1, born := 1 }] 2)).heap.size := by omega
          clear hA
          generalize (setB (x1.alloc (.cells #[.int .i64 t] 3)) w4.heap.size (.map #[{ key := .int .i32 122, val := .slice (some ⟨x0.heap.size, 0, none⟩) 1 1, born := 0 }, { key := .int .i32 97, val := .slice (some ⟨x1.heap.size, 0, none⟩) 1 1, born := 1 }] 2)) = x2 at *
          replace v1 := keepc nB u1
          replace v2 := keepc nB u2
          replace v3 := keepc nB u3
          replace v4 := keepc nB u4
          clear hM bM
          have hM := nM
          have bM := nB
          clear nM nB
          clear q0 m0
          have q0 := q0'
          have m0 := m0'
          clear q0' m0'
          go_wp2
          have hA : (x2.alloc (.cells #[.int .i64 n] 3)).heap[w4.heap.size]? = some (.map #[{ key := .int .i32 122, val := .slice (some ⟨x0.heap.size, 0, none⟩) 1 1, born := 0 }, { key := .int .i32 97, val := .slice (some ⟨x1.heap.size, 0, none⟩) 1 1, born := 1 }] 2) := (Below.heap_alloc _ _ _ l2).trans hM
          rw [upd_run (x2.alloc (.cells #[.int .i64 n] 3)) w4.heap.size 2 #[{ key := .int .i32 122, val := .slice (some ⟨x0.heap.size, 0, none⟩) 1 1, born := 0 }, { key := .int .i32 97, val := .slice (some ⟨x1.heap.size, 0, none⟩) 1 1, born := 1 }] 110 (.slice (some ⟨x2.heap.size, 0, none⟩) 1 1) hA rfl #[{ key := .int .i32 122, val := .slice (some ⟨x0.heap.size, 0, none⟩) 1 1, born := 0 }, { key := .int .i32 97, val := .slice (some ⟨x1.heap.size, 0, none⟩) 1 1, born := 1 }, { key := .int .i32 110, val := .slice (some ⟨x2.heap.size, 0, none⟩) 1 1, born := 2 }] rfl 3 rfl]
          have nM : (setB (x2.alloc (.cells #[.int .i64 n] 3)) w4.heap.size (.map #[{ key := .int .i32 122, val := .slice (some ⟨x0.heap.size, 0, none⟩) 1 1, born := 0 }, { key := .int .i32 97, val := .slice (some ⟨x1.heap.size, 0, none⟩) 1 1, born := 1 }, { key := .int .i32 110, val := .slice (some ⟨x2.heap.size, 0, none⟩) 1 1, born := 2 }] 3)).heap[w4.heap.size]? = some (.map #[{ key := .int .i32 122, val := .slice (some ⟨x0.heap.size, 0, none⟩) 1 1, born := 0 }, { key := .int .i32 97, val := .slice (some ⟨x1.heap.size, 0, none⟩) 1 1, born := 1 }, { key := .int .i32 110, val := .slice (some ⟨x2.heap.size, 0, none⟩) 1 1, born := 2 }] 3) := setB_same hA _
          have nB : Below w4.heap.size w4 (setB (x2.alloc (.cells #[.int .i64 n] 3)) w4.heap.size (.map #[{ key := .int .i32 122, val := .slice (some ⟨x0.heap.size, 0, none⟩) 1 1, born := 0 }, { key := .int .i32 97, val := .slice (some ⟨x1.heap.size, 0, none⟩) 1 1, born := 1 }, { key := .int .i32 110, val := .slice (some ⟨x2.heap.size, 0, none⟩) 1 1, born := 2 }] 3)) := setB_below (bM.trans ((belowA (Below.refl x2.heap.size x2) _).mono (Nat.le_of_lt l2))) (Nat.le_refl _) _
          have l3 : w4.heap.size < (setB (x2.alloc (.cells #[.int .i64 n] 3)) w4.heap.size (.map #[{ key := .int .i32 122, val := .slice (some ⟨x0.heap.size, 0, none⟩) 1 1, born := 0 }, { key := .int .i32 97, val := .slice (some ⟨x1.heap.size, 0, none⟩) 1 1, born := 1 }, { key := .int .i32 110, val := .slice (some ⟨x2.heap.size, 0, none⟩) 1 1, born := 2 }] 3)).heap.size := by rw [setB_size]; simp; omega
          have m2 : x2.heap.size < (setB (x2.alloc (.cells #[.int .i64 n] 3)) w4.heap.size (.map #[{ key := .int .i32 122, val := .slice (some ⟨x0.heap.size, 0, none⟩) 1 1, born := 0 }, { key := .int .i32 97, val := .slice (some ⟨x1.heap.size, 0, none⟩) 1 1, born := 1 }, { key := .int .i32 110, val := .slice (some ⟨x2.heap.size, 0, none⟩) 1 1, born := 2 }] 3)).heap.size := by rw [setB_size]; simp
          have q2 : (setB (x2.alloc (.cells #[.int .i64 n] 3)) w4.heap.size (.map #[{ key := .int .i32 122, val := .slice (some ⟨x0.heap.size, 0, none⟩) 1 1, born := 0 }, { key := .int .i32 97, val := .slice (some ⟨x1.heap.size, 0, none⟩) 1 1, born := 1 }, { key := .int .i32 110, val := .slice (some ⟨x2.heap.size, 0, none⟩) 1 1, born := 2 }] 3)).cell? ⟨x2.heap.size, 0, none⟩ = some (.int .i64 n) := (setB_cell _ _ _ _ (by simp; omega)).trans (by go_simp)
          have q0' : (setB (x2.alloc (.cells #[.int .i64 n] 3)) w4.heap.size (.map #[{ key := .int .i32 122, val := .slice (some ⟨x0.heap.size, 0, none⟩) 1 1, born := 0 }, { key := .int .i32 97, val := .slice (some ⟨x1.heap.size, 0, none⟩) 1 1, born := 1 }, { key := .int .i32 110, val := .slice (some ⟨x2.heap.size, 0, none⟩) 1 1, born := 2 }] 3)).cell? ⟨x0.heap.size, 0, none⟩ = some (.int .i64 z) := (setB_cell _ _ _ _ (by simp; omega)).trans (past1 q0 _)
          have m0' : x0.heap.size < (setB (x2.alloc (.cells #[.int .i64 n] 3)) w4.heap.size (.map #[{ key := .int .i32 122, val := .slice (some ⟨x0.heap.size, 0, none⟩) 1 1, born := 0 }, { key := .int .i32 97, val := .slice (some ⟨x1.heap.size, 0, none⟩) 1 1, born := 1 }, { key := .int .i32 110, val := .slice (some ⟨x2.heap.size, 0, none⟩) 1 1, born := 2 }] 3)).heap.size := by omega
          have q1' : (setB (x2.alloc (.cells #[.int .i64 n] 3)) w4.heap.size (.map #[{ key := .int .i32 122, val := .slice (some ⟨x0.heap.size, 0, none⟩) 1 1, born := 0 }, { key := .int .i32 97, val := .slice (some ⟨x1.heap.size, 0, none⟩) 1 1, born := 1 }, { key := .int .i32 110, val := .slice (some ⟨x2.heap.size, 0, none⟩) 1 1, born := 2 }] 3)).cell? ⟨x1.heap.size, 0, none⟩ = some (.int .i64 t) := (setB_cell _ _ _ _ (by simp; omega)).trans (past1 q1 _)
          have m1' : x1.heap.size < (setB (x2.alloc (.cells #[.int .i64 n] 3)) w4.heap.size (.map #[{ key := .int .i32 122, val := .slice (some ⟨x0.heap.size, 0, none⟩) 1 1, born := 0 }, { key := .int .i32 97, val := .slice (some ⟨x1.heap.size, 0, none⟩) 1 1, born := 1 }, { key := .int .i32 110, val := .slice (some ⟨x2.heap.size, 0, none⟩) 1 1, born := 2 }] 3)).heap.size := by omega
          clear hA
          generalize (setB (x2.alloc (.cells #[.int .i64 n] 3)) w4.heap.size (.map #[{ key := .int .i32 122, val := .slice (some ⟨x0.heap.size, 0, none⟩) 1 1, born := 0 }, { key := .int .i32 97, val := .slice (some ⟨x1.heap.size, 0, none⟩) 1 1, born := 1 }, { key := .int .i32 110, val := .slice (some ⟨x2.heap.size, 0, none⟩) 1 1, born := 2 }] 3)) = x3 at *
          replace v1 := keepc nB u1
          replace v2 := keepc nB u2
          replace v3 := keepc nB u3
          replace v4 := keepc nB u4
          clear hM bM
          have hM := nM
          have bM := nB
          clear nM nB
          clear q0 m0
          have q0 := q0'
          have m0 := m0'
          clear q0' m0'
          clear q1 m1
          have q1 := q1'
          have m1 := m1'
          clear q1' m1'
          go_wp2
          rw [upd_run x3 w4.heap.size 3 #[{ key := .int .i32 122, val := .slice (some ⟨x0.heap.size, 0, none⟩) 1 1, born := 0 }, { key := .int .i32 97, val := .slice (some ⟨x1.heap.size, 0, none⟩) 1 1, born := 1 }, { key := .int .i32 110, val := .slice (some ⟨x2.heap.size, 0, none⟩) 1 1, born := 2 }] 100 (.slice a m c) hM rfl #[{ key := .int .i32 122, val := .slice (some ⟨x0.heap.size, 0, none⟩) 1 1, born := 0 }, { key := .int .i32 97, val := .slice (some ⟨x1.heap.size, 0, none⟩) 1 1, born := 1 }, { key := .int .i32 110, val := .slice (some ⟨x2.heap.size, 0, none⟩) 1 1, born := 2 }, { key := .int .i32 100, val := .slice a m c, born := 3 }] rfl 4 rfl]
          have nM : (setB x3 w4.heap.size (.map #[{ key := .int .i32 122, val := .slice (some ⟨x0.heap.size, 0, none⟩) 1 1, born := 0 }, { key := .int .i32 97, val := .slice (some ⟨x1.heap.size, 0, none⟩) 1 1, born := 1 }, { key := .int .i32 110, val := .slice (some ⟨x2.heap.size, 0, none⟩) 1 1, born := 2 }, { key := .int .i32 100, val := .slice a m c, born := 3 }] 4)).heap[w4.heap.size]? = some (.map #[{ key := .int .i32 122, val := .slice (some ⟨x0.heap.size, 0, none⟩) 1 1, born := 0 }, { key := .int .i32 97, val := .slice (some ⟨x1.heap.size, 0, none⟩) 1 1, born := 1 }, { key := .int .i32 110, val := .slice (some ⟨x2.heap.size, 0, none⟩) 1 1, born := 2 }, { key := .int .i32 100, val := .slice a m c, born := 3 }] 4) := setB_same hM _
          have nB : Below w4.heap.size w4 (setB x3 w4.heap.size (.map #[{ key := .int .i32 122, val := .slice (some ⟨x0.heap.size, 0, none⟩) 1 1, born := 0 }, { key := .int .i32 97, val := .slice (some ⟨x1.heap.size, 0, none⟩) 1 1, born := 1 }, { key := .int .i32 110, val := .slice (some ⟨x2.heap.size, 0, none⟩) 1 1, born := 2 }, { key := .int .i32 100, val := .slice a m c, born := 3 }] 4)) := setB_below bM (Nat.le_refl _) _
          have q0' : (setB x3 w4.heap.size (.map #[{ key := .int .i32 122, val := .slice (some ⟨x0.heap.size, 0, none⟩) 1 1, born := 0 }, { key := .int .i32 97, val := .slice (some ⟨x1.heap.size, 0, none⟩) 1 1, born := 1 }, { key := .int .i32 110, val := .slice (some ⟨x2.heap.size, 0, none⟩) 1 1, born := 2 }, { key := .int .i32 100, val := .slice a m c, born := 3 }] 4)).cell? ⟨x0.heap.size, 0, none⟩ = some (.int .i64 z) := (setB_cell _ _ _ _ (by simp; omega)).trans q0
          have q1' : (setB x3 w4.heap.size (.map #[{ key := .int .i32 122, val := .slice (some ⟨x0.heap.size, 0, none⟩) 1 1, born := 0 }, { key := .int .i32 97, val := .slice (some ⟨x1.heap.size, 0, none⟩) 1 1, born := 1 }, { key := .int .i32 110, val := .slice (some ⟨x2.heap.size, 0, none⟩) 1 1, born := 2 }, { key := .int .i32 100, val := .slice a m c, born := 3 }] 4)).cell? ⟨x1.heap.size, 0, none⟩ = some (.int .i64 t) := (setB_cell _ _ _ _ (by simp; omega)).trans q1
          have q2' : (setB x3 w4.heap.size (.map #[{ key := .int .i32 122, val := .slice (some ⟨x0.heap.size, 0, none⟩) 1 1, born := 0 }, { key := .int .i32 97, val := .slice (some ⟨x1.heap.size, 0, none⟩) 1 1, born := 1 }, { key := .int .i32 110, val := .slice (some ⟨x2.heap.size, 0, none⟩) 1 1, born := 2 }, { key := .int .i32 100, val := .slice a m c, born := 3 }] 4)).cell? ⟨x2.heap.size, 0, none⟩ = some (.int .i64 n) := (setB_cell _ _ _ _ (by simp; omega)).trans q2
          have r0 := World.block_lt_of_cell? _ _ q0'
          have r1 := World.block_lt_of_cell? _ _ q1'
          have r2 := World.block_lt_of_cell? _ _ q2'
          generalize (setB x3 w4.heap.size (.map #[{ key := .int .i32 122, val := .slice (some ⟨x0.heap.size, 0, none⟩) 1 1, born := 0 }, { key := .int .i32 97, val := .slice (some ⟨x1.heap.size, 0, none⟩) 1 1, born := 1 }, { key := .int .i32 110, val := .slice (some ⟨x2.heap.size, 0, none⟩) 1 1, born := 2 }, { key := .int .i32 100, val := .slice a m c, born := 3 }] 4)) = x4 at *
          clear hM bM q0 q1 q2 v1 v2 v3 v4
          have hitx : x4.heap[w2.heap.size]? = some (.stringIter hs (p + 1)) := (nB.block _ hlt4).trans hit4
          have bx : Below w2.heap.size w2 x4 := b4.trans (nB.mono (Nat.le_of_lt hlt4))
          have ix := i4.below nB (Nat.le_refl _)
          rcases hc4 with rfl | rfl | rfl | rfl
          · have hl := look_run x4 w4.heap.size 4 #[{ key := .int .i32 122, val := .slice (some ⟨x0.heap.size, 0, none⟩) 1 1, born := 0 }, { key := .int .i32 97, val := .slice (some ⟨x1.heap.size, 0, none⟩) 1 1, born := 1 }, { key := .int .i32 110, val := .slice (some ⟨x2.heap.size, 0, none⟩) 1 1, born := 2 }, { key := .int .i32 100, val := .slice a m c, born := 3 }] 122 0 (.slice (some ⟨x0.heap.size, 0, none⟩) 1 1) nM rfl
            rw [show ((122 : UInt8).toNat : Int) = 122 from rfl]
            go_wp2
            go_meet
            case rel => exact ⟨_, _, _, rfl, one_ints q0' (by omega), hitx, bx⟩
          · have hl := look_run x4 w4.heap.size 4 #[{ key := .int .i32 122, val := .slice (some ⟨x0.heap.size, 0, none⟩) 1 1, born := 0 }, { key := .int .i32 97, val := .slice (some ⟨x1.heap.size, 0, none⟩) 1 1, born := 1 }, { key := .int .i32 110, val := .slice (some ⟨x2.heap.size, 0, none⟩) 1 1, born := 2 }, { key := .int .i32 100, val := .slice a m c, born := 3 }] 97 1 (.slice (some ⟨x1.heap.size, 0, none⟩) 1 1) nM rfl
            rw [show ((97 : UInt8).toNat : Int) = 97 from rfl]
            go_wp2
            go_meet
            case rel => exact ⟨_, _, _, rfl, one_ints q1' (by omega), hitx, bx⟩
          · have hl := look_run x4 w4.heap.size 4 #[{ key := .int .i32 122, val := .slice (some ⟨x0.heap.size, 0, none⟩) 1 1, born := 0 }, { key := .int .i32 97, val := .slice (some ⟨x1.heap.size, 0, none⟩) 1 1, born := 1 }, { key := .int .i32 110, val := .slice (some ⟨x2.heap.size, 0, none⟩) 1 1, born := 2 }, { key := .int .i32 100, val := .slice a m c, born := 3 }] 110 2 (.slice (some ⟨x2.heap.size, 0, none⟩) 1 1) nM rfl
            rw [show ((110 : UInt8).toNat : Int) = 110 from rfl]
            go_wp2
            go_meet
            case rel => exact ⟨_, _, _, rfl, one_ints q2' (by omega), hitx, bx⟩
          · have hl := look_run x4 w4.heap.size 4 #[{ key := .int .i32 122, val := .slice (some ⟨x0.heap.size, 0, none⟩) 1 1, born := 0 }, { key := .int .i32 97, val := .slice (some ⟨x1.heap.size, 0, none⟩) 1 1, born := 1 }, { key := .int .i32 110, val := .slice (some ⟨x2.heap.size, 0, none⟩) 1 1, born := 2 }, { key := .int .i32 100, val := .slice a m c, born := 3 }] 100 3 (.slice a m c) nM rfl
            rw [show ((100 : UInt8).toNat : Int) = 100 from rfl]
            go_wp2
            go_meet
            case rel => exact ⟨_, _, _, rfl, ix, hitx, bx⟩
        case rest =>
          obtain ⟨av, nv, cv, rfl, iv, hitx, hbx⟩ := hcut
          have hlw := lst_wf hwz hwd cc
          have hll := lst_len z n t (d := d) (by rw [h.len]; exact hm8) cc
          have hTl : T.length ≤ 96 := by
            rw [HTT.out]
            have h1 := flat_len _ (lsts_wf (z := z) (n := n) (t := t) hwz hwd (hs.data.toList.take p))
            have h2 := lsts_len z n t (d := d) (by rw [h.len]; exact hm8) (hs.data.toList.take p)
            rw [List.length_take] at h2
            unfold flatT
            omega
          have hvl := iv.len
          have Ex := hE.below (belowT bw hbx)
          have HN : Hid (flatT ((hs.data.toList.take (p + 1)).flatMap (lst z n t d)) = T ++ flatT (lst z n t d cc)) := hide (by rw [HTN.out, flatT_append, ← HTT.out])
          clear HTT HTN hit4 b4 u0 u1 u2 u3 u4 i4
          generalize lst z n t d cc = L at *
          have hLm : L.length ≤ 9223372036854775807 := by omega
          go_wp2
          go_loopw [3, 38] (fun o x wq => ∃ (j : Nat) (wy : World), wy = wq ∧ j ≤ L.length ∧ x = .int .i64 j ∧ o = textV (wd.data.toList ++ (T ++ flatT (L.take j))) ∧ Below wc.heap.size wc wy) (fun _ x _ => L.length - (intOf x).toNat)
          case atStart => exact ⟨0, _, rfl, by omega, rfl, by simp [flatT], Below.refl _ _⟩
          case round =>
            obtain ⟨j, wy, rfl, hj, rfl, rfl, hby⟩ := hrel
            by_cases hlt : j < L.length
            · have i3 := iv.below hby (Nat.le_refl _)
              rcases i3.row with h00 | ⟨b, off, rfl, _, hc⟩
              · omega
              · have hcell := hc j (by omega)
                have hlt' : (j : Int) < (nv : Int) := by omega
                have hj0 : (0 : Int) ≤ (j : Int) := by omega
                have hx := hlw (L.getD j 0) (by simp [List.getD, hlt])
                have E3 := Ex.below hby
                have hstep : flatT (L.take (j + 1)) = flatT (L.take j) ++ 32 :: Lib.itoa (L.getD j 0) := by
                  rw [take_succ_getD L j hlt, flatT_append]
                  simp [flatT]
                have HS := hide hstep
                have hT2 := flat_len (L.take j) (fun y hy => hlw y (List.mem_of_mem_take hy))
                rw [List.length_take] at hT2
                have hT3 : (flatT (L.take j)).length ≤ 32 := by unfold flatT; omega
                have hI := itoa_len hx.1 hx.2
                clear hstep hc i3 hT2
                generalize L.getD j 0 = x at *
                generalize flatT (L.take j) = T2 at *
                have z1 : (⟨(Lib.itoa x).toArray⟩ : ByteArray).size = (Lib.itoa x).length := by simp [ByteArray.size]
                have z2 : (⟨(wd.data.toList ++ (T ++ T2)).toArray⟩ : ByteArray).size = wd.size + (T ++ T2).length := size_two wd _
                rw [List.length_append] at z2
                have z3 : ((⟨#[32]⟩ : ByteArray) ++ ⟨(Lib.itoa x).toArray⟩).size = 1 + (Lib.itoa x).length := by rw [ByteArray.size_append, z1]; rfl
                have z4 : ¬ ((⟨#[32]⟩ : ByteArray).size + (⟨(Lib.itoa x).toArray⟩ : ByteArray).size > 9223372036854775807) := by rw [z1]; show ¬ (1 + _ > _); omega
                have z5 : ¬ ((⟨(wd.data.toList ++ (T ++ T2)).toArray⟩ : ByteArray).size + ((⟨#[32]⟩ : ByteArray) ++ ⟨(Lib.itoa x).toArray⟩).size > 9223372036854775807) := by rw [z2, z3]; omega
                have HA : Hid ((⟨(wd.data.toList ++ (T ++ T2)).toArray⟩ : ByteArray) ++ ((⟨#[32]⟩ : ByteArray) ++ ⟨(Lib.itoa x).toArray⟩) = ⟨(wd.data.toList ++ (T ++ (T2 ++ 32 :: Lib.itoa x))).toArray⟩) := hide (by
                  rw [show (⟨#[32]⟩ : ByteArray) = ⟨([32] : List UInt8).toArray⟩ from rfl, mk_append, mk_append]
                  simp)
                have HI := hide (fun w' h' => Itoa_c x (by omega) w' h')
                unfold textV
                generalize (⟨(wd.data.toList ++ (T ++ T2)).toArray⟩ : ByteArray) = S1 at *
                generalize (⟨(Lib.itoa x).toArray⟩ : ByteArray) = S2 at *
                go_wp2_with fail
                refine (HI.out _ E3).mono ?_
                rintro e w5 ⟨rfl, hb5⟩
                go_wp2
                refine ⟨⟨j + 1, _, rfl, by omega, by go_num, ?_, by (repeat (first | exact Below.refl _ _ | assumption | refine Below.drew ?_ | refine below_drewN ?_ _ | refine belowA ?_ _ | refine belowT ?_ (by assumption) | refine Below.setCell ?_ (by first | (simp; done) | (simp; omega)) _))⟩, by simp only [intOf]; omega⟩
                rw [HS.out, HA.out]
            · obtain rfl : j = L.length := by omega
              have hlt' : ¬ ((L.length : Nat) : Int) < (nv : Int) := by omega
              rw [List.take_length]
              go_wp2
              have hity : wy.heap[w2.heap.size]? = some (.stringIter hs (p + 1)) := (hby.block _ ((Array.getElem?_eq_some_iff.1 hitx).1)).trans hitx
              refine ⟨⟨p + 1, T ++ flatT L, by omega, rfl, HN.out.symm, hity, hbx.trans (hby.mono (Nat.le_trans (Nat.le_refl _) hbx.size))⟩, ?_⟩
              rw [posOf_at hity, HPOS.out]
              omega
      · have hend := fun ty => Lib.run_next_end_at (P := Tryz.prog) wr w2.heap.size hs p ty hit hlt
        obtain rfl : p = hs.size := by omega
        have HF : Hid (textC ⟨k, z, n, t, d⟩ = wd.data.toList ++ T) := hide (by
          rw [HT.out, hT, ← HLI.out, Lib.size_eq, List.take_length])
        unfold textV
        go_wp2
        go_ret
        refine ⟨?_, by (repeat (first | exact Below.refl _ _ | assumption | refine Below.drew ?_ | refine below_drewN ?_ _ | refine belowA ?_ _ | refine belowT ?_ (by assumption) | refine Below.setCell ?_ (by first | (simp; done) | (simp; omega)) _))⟩
        rw [HF.out]
        rfl

theorem letters_list {b : PC} (h : checkC b = 0) : (hasS b.k.toNat).data.toList.flatMap (lst b.z b.n b.at' b.d) = listC b := by
  obtain ⟨k1, k2, _, _⟩ := checkC_ok h
  have hd := (checkC_zero h).2.2.2
  obtain ⟨k, z, n, t, d⟩ := b
  dsimp only at *
  obtain ⟨i, rfl⟩ : ∃ i : Nat, k = i := ⟨k.toNat, by omega⟩
  rcases (by omega : i = 1 ∨ i = 2 ∨ i = 3 ∨ i = 4 ∨ i = 5 ∨ i = 6 ∨ i = 7 ∨ i = 8 ∨ i = 9 ∨ i = 10 ∨ i = 11 ∨ i = 12) with rfl | rfl | rfl | rfl | rfl | rfl | rfl | rfl | rfl | rfl | rfl | rfl
  all_goals simp [hasD] at hd
  all_goals simp [hasS, lst, listC, pickN, hasZ, hasA, hasN, hd]

theorem CmdText_c (a : Option Addr) (m c : Nat) (b : PC) (w : World) (hE : Env w) (h : Ints w a m c b.d) (hck : checkC b = 0) :
    Calls Tryz.prog 40 #[cmdV a m c b] w fun e w' => e = .returned (textV (textC b)) ∧ Below w.heap.size w w' := by
  have hl := letters_list hck
  obtain ⟨k1, k2, h8, hwf⟩ := checkC_ok hck
  obtain ⟨k, z, n, t, d⟩ := b
  dsimp only at *
  obtain ⟨i, rfl⟩ : ∃ i : Nat, k = i := ⟨k.toNat, by omega⟩
  have w1 := hwf z (by simp)
  have w2 := hwf n (by simp)
  have w3 := hwf t (by simp)
  exact CmdText_k a m c i z n t d w hE h (by omega) (by omega) ⟨w1, w2, w3⟩ (fun x hx => hwf x (by simp [hx])) (by rw [← h.len]; exact h8) hl

end Go.Proofs.YtcbgkjmcdjpgcaaGreatDoor
