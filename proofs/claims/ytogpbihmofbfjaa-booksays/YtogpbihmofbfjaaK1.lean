/- The contracts of the document's own answers on books: FreshBook, CheckBook, SameBook, Might; no condition but that the keys read as a list. -/
import Derived.Test.YtogpbihmofbfjaaK0
import Derived.Test.YtogpbihmofbfjaaA3
import Derived.Deep.Light
namespace Go.Proofs.Ytogpbihmofbfjaa
open Go.RowKit
set_option linter.unusedVariables false
set_option maxRecDepth 100000
set_option linter.unusedSimpArgs false

theorem FreshBook_c (w : World) : Calls Try.prog 19 #[] w fun e w' => (∃ a c, e = .returned (bookV a 3 c freshB) ∧ Ints w' a 3 c freshB.k ∧ ∀ x, a = some x → w.heap.size ≤ x.block) ∧ Below w.heap.size w w' := by
  go_enter Try.func19, Try.ntmps19
  go_wp2
  refine bodyPost_ret (v := bookV (some ⟨w.heap.size + 1, 0, none⟩) 3 3 freshB) (by simp [results, Try.results19, go_sem, bookV, freshB]) rfl ⟨⟨_, _, rfl, ?_, ?_⟩, ?_⟩
  · exact Ints.of_row (l := [0, 0, 0]) (heap_new2 w _ _) (by decide) (by decide) rfl
  · intro x e
    cases e
    simp
  · (repeat first | exact bel0 | assumption | refine bel1 ?_ | refine bel2 ?_ | refine bel3 ?_ | refine belowT ?_ (by assumption) | refine bel5 ?_ (by simp; try omega))

theorem SameBook_c (a1 a2 : Option Addr) (n1 n2 c1 c2 : Nat) (b1 b2 : PB) (w : World) (h1 : Ints w a1 n1 c1 b1.k) (h2 : Ints w a2 n2 c2 b2.k) :
    Calls Try.prog 12 #[bookV a1 n1 c1 b1, bookV a2 n2 c2 b2] w fun e w' => e = .returned (.bool (sameB b1 b2)) ∧ Below w.heap.size w w' := by
  unfold bookV
  go_enter Try.func12, Try.ntmps12
  go_wp2_with fail
  refine (Equal_c a1 a2 n1 n2 c1 c2 b1.k b2.k _ (h1.below (B := w.heap.size) (by (repeat first | exact bel0 | assumption | refine bel1 ?_ | refine bel2 ?_ | refine bel3 ?_ | refine belowT ?_ (by assumption) | refine bel5 ?_ (by simp; try omega))) (Nat.le_refl _)) (h2.below (B := w.heap.size) (by (repeat first | exact bel0 | assumption | refine bel1 ?_ | refine bel2 ?_ | refine bel3 ?_ | refine belowT ?_ (by assumption) | refine bel5 ?_ (by simp; try omega))) (Nat.le_refl _))).mono ?_
  rintro e w1 ⟨rfl, q, rfl⟩
  obtain ⟨k1, x, r⟩ := b1
  obtain ⟨k2, y, s⟩ := b2
  dsimp only at *
  by_cases hk : k1 = k2
  · rw [decide_eq_true hk]
    have HK := hide hk
    clear hk
    cases hx : x == y
    · go_wp2
      go_ret
      exact ⟨ret_bool (by simp at hx; simp [sameB, hx]), by (repeat first | exact bel0 | assumption | refine bel1 ?_ | refine bel2 ?_ | refine bel3 ?_ | refine belowT ?_ (by assumption) | refine bel5 ?_ (by simp; try omega))⟩
    · go_wp2
      go_ret
      exact ⟨ret_bool (by simp at hx; rw [Bool.eq_iff_iff]; simp [sameB, HK.out, hx]), by (repeat first | exact bel0 | assumption | refine bel1 ?_ | refine bel2 ?_ | refine bel3 ?_ | refine belowT ?_ (by assumption) | refine bel5 ?_ (by simp; try omega))⟩
  · rw [decide_eq_false hk]
    have HK := hide hk
    clear hk
    go_wp2
    go_ret
    exact ⟨ret_bool (by simp [sameB, HK.out]), by (repeat first | exact bel0 | assumption | refine bel1 ?_ | refine bel2 ?_ | refine bel3 ?_ | refine belowT ?_ (by assumption) | refine bel5 ?_ (by simp; try omega))⟩

set_option maxHeartbeats 1000000 in
theorem CheckBook_right (a : Option Addr) (c : Nat) (x y z hh tt : Int) (w : World) (h : Ints w a 3 c [x, y, z]) (h1 : ([x, y, z].all fun x => inB x 0 9) = true) (h2 : inB hh (-1) 2 = true) (h3 : inB tt 0 4 = true) :
    Calls Try.prog 14 #[bookV a 3 c ⟨[x, y, z], hh, tt⟩] w fun e w' => e = .returned (.int .i64 (checkB ⟨[x, y, z], hh, tt⟩)) ∧ Below w.heap.size w w' := by
  have hno : ¬ (([x, y, z] : List Int).any (outB 0 9) = true ∨ outB (-1) 2 hh = true ∨ outB 0 4 tt = true) := by
    rw [all_any] at h1
    rw [inB_outB] at h2 h3
    simp at h1 h2 h3
    simp [h1, h2, h3]
  have HNO := hide hno
  have h1' := hide h1
  clear hno h1
  unfold bookV
  obtain ⟨g, off, rfl, e0, e1, e2⟩ := h.three
  replace e0 := past1 e0
  replace e1 := past1 e1
  replace e2 := past1 e2
  have hv : hh = -1 ∨ hh = 0 ∨ hh = 1 ∨ hh = 2 := by simp [inB] at h2; omega
  rcases hv with rfl | rfl | rfl | rfl
  · cases ht : tt == 0
    all_goals
      go_enter Try.func14, Try.ntmps14
      go_wp2_with (first | (go_at_call 29; refine (in_c _ _ _ _).mono ?_; rintro e w' ⟨rfl, rfl⟩) | (go_at_call 32; refine (all_c _ 3 c [x, y, z] 0 9 _ (by refine h.below (B := w.heap.size) ?_ (Nat.le_refl _); (repeat first | exact bel0 | assumption | refine bel1 ?_ | refine bel2 ?_ | refine bel3 ?_ | refine belowT ?_ (by assumption) | refine bel5 ?_ (by simp; try omega)))).mono ?_; rintro e w' ⟨rfl, rfl⟩; rw [h1'.out]))
      go_ret
      simp at ht
    · exact ⟨ret_int (checkB_4 (b := ⟨[x, y, z], -1, tt⟩) rfl HNO.out (.inl ⟨rfl, ht⟩)).symm, by (repeat first | exact bel0 | assumption | refine bel1 ?_ | refine bel2 ?_ | refine bel3 ?_ | refine belowT ?_ (by assumption) | refine bel5 ?_ (by simp; try omega))⟩
    · exact ⟨ret_int (checkB_0 (b := ⟨[x, y, z], -1, tt⟩) rfl HNO.out (by simp [ht])).symm, by (repeat first | exact bel0 | assumption | refine bel1 ?_ | refine bel2 ?_ | refine bel3 ?_ | refine belowT ?_ (by assumption) | refine bel5 ?_ (by simp; try omega))⟩
  all_goals
    cases ht : tt == 0
    all_goals
      go_enter Try.func14, Try.ntmps14
      go_wp2_with (first | (go_at_call 29; refine (in_c _ _ _ _).mono ?_; rintro e w' ⟨rfl, rfl⟩) | (go_at_call 32; refine (all_c _ 3 c [x, y, z] 0 9 _ (by refine h.below (B := w.heap.size) ?_ (Nat.le_refl _); (repeat first | exact bel0 | assumption | refine bel1 ?_ | refine bel2 ?_ | refine bel3 ?_ | refine belowT ?_ (by assumption) | refine bel5 ?_ (by simp; try omega)))).mono ?_; rintro e w' ⟨rfl, rfl⟩; rw [h1'.out]))
      simp at ht
      all_goals
        go_ret
        first
          | exact ⟨ret_int (checkB_4 rfl HNO.out (by simp_all [keyOf])).symm, by (repeat first | exact bel0 | assumption | refine bel1 ?_ | refine bel2 ?_ | refine bel3 ?_ | refine belowT ?_ (by assumption) | refine bel5 ?_ (by simp; try omega))⟩
          | exact ⟨ret_int (checkB_0 rfl HNO.out (by simp_all [keyOf])).symm, by (repeat first | exact bel0 | assumption | refine bel1 ?_ | refine bel2 ?_ | refine bel3 ?_ | refine belowT ?_ (by assumption) | refine bel5 ?_ (by simp; try omega))⟩

set_option maxHeartbeats 1000000 in
theorem CheckBook_c (a : Option Addr) (n c : Nat) (b : PB) (w : World) (h : Ints w a n c b.k) :
    Calls Try.prog 14 #[bookV a n c b] w fun e w' => e = .returned (.int .i64 (checkB b)) ∧ Below w.heap.size w w' := by
  obtain ⟨l, hh, tt⟩ := b
  dsimp only at h
  have hlen := h.len
  have hmax := h.max
  have hle := h.le
  by_cases h3 : n = 3
  · subst h3
    cases hall : l.all fun x => inB x 0 9
    · have HC := hide (checkB_3 (b := ⟨l, hh, tt⟩) hlen (.inl (by rw [all_any] at hall; simpa using hall)))
      unfold bookV
      have HA := hide hall
      clear hall hlen
      go_enter Try.func14, Try.ntmps14
      go_wp2_with (go_at_call 32; refine (all_c a 3 c l 0 9 _ (by refine h.below (B := w.heap.size) ?_ (Nat.le_refl _); (repeat first | exact bel0 | assumption | refine bel1 ?_ | refine bel2 ?_ | refine bel3 ?_ | refine belowT ?_ (by assumption) | refine bel5 ?_ (by simp; try omega)))).mono ?_; rintro e w' ⟨rfl, rfl⟩; rw [HA.out])
      go_ret
      exact ⟨ret_int HC.out.symm, by (repeat first | exact bel0 | assumption | refine bel1 ?_ | refine bel2 ?_ | refine bel3 ?_ | refine belowT ?_ (by assumption) | refine bel5 ?_ (by simp; try omega))⟩
    · cases hin1 : inB hh (-1) 2
      · have HC := hide (checkB_3 (b := ⟨l, hh, tt⟩) hlen (.inr (.inl (by rw [inB_outB] at hin1; simpa using hin1))))
        unfold bookV
        have HA := hide hall
        clear hall hlen
        go_enter Try.func14, Try.ntmps14
        go_wp2_with (first | (go_at_call 29; refine (in_c _ _ _ _).mono ?_; rintro e w' ⟨rfl, rfl⟩) | (go_at_call 32; refine (all_c a 3 c l 0 9 _ (by refine h.below (B := w.heap.size) ?_ (Nat.le_refl _); (repeat first | exact bel0 | assumption | refine bel1 ?_ | refine bel2 ?_ | refine bel3 ?_ | refine belowT ?_ (by assumption) | refine bel5 ?_ (by simp; try omega)))).mono ?_; rintro e w' ⟨rfl, rfl⟩; rw [HA.out]))
        go_ret
        exact ⟨ret_int HC.out.symm, by (repeat first | exact bel0 | assumption | refine bel1 ?_ | refine bel2 ?_ | refine bel3 ?_ | refine belowT ?_ (by assumption) | refine bel5 ?_ (by simp; try omega))⟩
      · cases hin2 : inB tt 0 4
        · have HC := hide (checkB_3 (b := ⟨l, hh, tt⟩) hlen (.inr (.inr (by rw [inB_outB] at hin2; simpa using hin2))))
          unfold bookV
          have HA := hide hall
          clear hall hlen
          go_enter Try.func14, Try.ntmps14
          go_wp2_with (first | (go_at_call 29; refine (in_c _ _ _ _).mono ?_; rintro e w' ⟨rfl, rfl⟩) | (go_at_call 32; refine (all_c a 3 c l 0 9 _ (by refine h.below (B := w.heap.size) ?_ (Nat.le_refl _); (repeat first | exact bel0 | assumption | refine bel1 ?_ | refine bel2 ?_ | refine bel3 ?_ | refine belowT ?_ (by assumption) | refine bel5 ?_ (by simp; try omega)))).mono ?_; rintro e w' ⟨rfl, rfl⟩; rw [HA.out]))
          go_ret
          exact ⟨ret_int HC.out.symm, by (repeat first | exact bel0 | assumption | refine bel1 ?_ | refine bel2 ?_ | refine bel3 ?_ | refine belowT ?_ (by assumption) | refine bel5 ?_ (by simp; try omega))⟩
        · obtain ⟨x, y, z, rfl⟩ := three hlen
          exact CheckBook_right a c x y z hh tt w h hall hin1 hin2
  · have hne : ((n : Int) != 3) = true := by simp; omega
    have HC := hide (checkB_len (b := ⟨l, hh, tt⟩) (by simp only [hlen]; exact h3))
    unfold bookV
    go_enter Try.func14, Try.ntmps14
    go_wp2
    go_ret
    exact ⟨ret_int HC.out.symm, by (repeat first | exact bel0 | assumption | refine bel1 ?_ | refine bel2 ?_ | refine bel3 ?_ | refine belowT ?_ (by assumption) | refine bel5 ?_ (by simp; try omega))⟩

set_option maxHeartbeats 1000000 in
theorem Might_c (a : Option Addr) (c : Nat) (x y z hh tt : Int) (who : Nat) (wr : Bool) (w : World) (h : Ints w a 3 c [x, y, z]) (hok : checkB ⟨[x, y, z], hh, tt⟩ = 0) (hw : who < 3) :
    Calls Try.prog 20 #[bookV a 3 c ⟨[x, y, z], hh, tt⟩, .int .i64 who, .bool wr] w fun e w' => e = .returned (.bool (mightB ⟨[x, y, z], hh, tt⟩ who wr)) ∧ Below w.heap.size w w' := by
  obtain ⟨x', y', z', e, hx, hy, hz, hs⟩ := checkB_ok hok
  simp at e
  obtain ⟨rfl, rfl, rfl⟩ := e
  obtain ⟨g, off, rfl, e0, e1, e2⟩ := h.three
  replace e0 := past1 e0
  replace e1 := past1 e1
  replace e2 := past1 e2
  have hx0 := hx.1
  have hy0 := hy.1
  have hz0 := hz.1
  dsimp only at hs
  have HS := hide hs
  clear hok hs hx hy hz
  unfold bookV
  have hw3 : who = 0 ∨ who = 1 ∨ who = 2 := by omega
  rcases hw3 with rfl | rfl | rfl
  all_goals
    cases wr
    all_goals
      go_enter Try.func20, Try.ntmps20
      go_wp2
      all_goals
        go_ret
        have hs := HS.out
        refine ⟨ret_bool ?_, by (repeat first | exact bel0 | assumption | refine bel1 ?_ | refine bel2 ?_ | refine bel3 ?_ | refine belowT ?_ (by assumption) | refine bel5 ?_ (by simp; try omega))⟩
        rw [Bool.eq_iff_iff]
        simp_all [mightB, keyOf]
        try omega

end Go.Proofs.Ytogpbihmofbfjaa
