/- The contracts of yard's begin, shut and makeRoom; no condition but that the slices read as zones. -/
import Derived.Test.YtaambknbbhjdnaaY1c
namespace Go.Proofs.Ytaambknbbhjdnaa
open Go.RowKit
set_option linter.unusedVariables false
set_option maxRecDepth 100000
set_option linter.unusedSimpArgs false

theorem checkZ_few {s : Int} {l : List Int} (h : checkZ s l = 0) : l.length ≤ 8 := by
  unfold checkZ at h
  split at h
  · omega
  · split at h
    · omega
    · omega
theorem checkZs_few {Z : List ZV} (h : checkZs (Z.map ZV.p) = 0) : ∀ z ∈ Z, z.l.length ≤ 8 := by
  intro z hz
  have hf : firstE (Z.map ZV.p) = 0 := by
    unfold checkZs at h
    split at h
    · omega
    · split at h
      · exact absurd h ‹_›
      · rename_i h1; exact Decidable.not_not.1 h1
  exact checkZ_few (firstE_all _ hf z.p (List.mem_map_of_mem hz))

set_option maxHeartbeats 1000000 in
theorem begin_c (a : Option Addr) (n c : Nat) (Z : List ZV) (k : Int) (w : World) (h : Zones w a n c Z) :
    Calls Try.prog 23 #[.slice a n c, .int .i64 k] w fun e w' =>
      ((pre (Z.map ZV.p) k ≠ 0 ∧ e = .returned (.tuple #[.slice none 0 0, .int .i64 (pre (Z.map ZV.p) k)])) ∨
       (pre (Z.map ZV.p) k = 0 ∧ ∃ g Z', e = .returned (.tuple #[.slice (some ⟨g, 0, none⟩) 4 4, .int .i64 0]) ∧ Mine w' w.heap.size g 4 4 Z' ∧ Z'.map ZV.p = Z.map ZV.p ∧ NewL w.heap.size Z')) ∧ Below w.heap.size w w' := by
  by_cases hc : checkZs (Z.map ZV.p) = 0
  · obtain ⟨h4, b, off, rfl, hr⟩ := zs_four h hc
    subst h4
    have h8 : ∀ z ∈ Z, z.n ≤ 8 := fun z hz => by rw [← (h.ok z hz).len]; exact checkZs_few hc z hz
    have HC := hide hc
    by_cases hk : 0 ≤ k ∧ k < 4
    · have hp : pre (Z.map ZV.p) k = 0 := by simp [pre, hc, inB]; omega
      have HP := hide hp
      obtain ⟨hk1, hk2⟩ := hk
      clear hc hp
      go_enter Try.func23, Try.ntmps23
      go_wp2_with fail
      refine (YCheck_c _ 4 c Z _ h).mono ?_
      rintro e w1 ⟨rfl, hb1⟩
      rw [HC.out]
      go_wp2_with fail
      refine (whole_c b off c Z _ (h.below hb1 (Nat.le_refl _)) h8 (fun i z hz => ⟨keepc hb1 (hr i z hz).1, keepc hb1 (hr i z hz).2⟩)).mono ?_
      rintro e w2 ⟨⟨g, Z', rfl, hm, hp, hnl⟩, hb2⟩
      have HQ := hide hp
      have HN := hide hnl
      clear hp hnl
      go_wp2
      go_ret2
      exact ⟨.inr ⟨HP.out, g, Z', rfl, hm.mono hb1.size, HQ.out, HN.out.mono hb1.size⟩, by (repeat first | exact bel0 | assumption | refine bel1 ?_ | refine bel2 ?_ | refine bel3 ?_ | refine belowT ?_ (by assumption) | refine bel5 ?_ (by simp; try omega))⟩
    · have hp : pre (Z.map ZV.p) k = 5 := by simp [pre, hc, inB]; omega
      have HP := hide hp
      clear hc hp
      rcases (by omega : k < 0 ∨ 0 ≤ k ∧ 4 ≤ k) with hk1 | ⟨hk1, hk2⟩
      all_goals
        go_enter Try.func23, Try.ntmps23
        go_wp2_with fail
        refine (YCheck_c _ 4 c Z _ h).mono ?_
        rintro e w1 ⟨rfl, hb1⟩
        rw [HC.out]
        go_wp2
        go_ret2
        exact ⟨.inl ⟨by rw [HP.out]; decide, by rw [HP.out]; rfl⟩, by (repeat first | exact bel0 | assumption | refine bel1 ?_ | refine bel2 ?_ | refine bel3 ?_ | refine belowT ?_ (by assumption) | refine bel5 ?_ (by simp; try omega))⟩
  · have hp : pre (Z.map ZV.p) k = checkZs (Z.map ZV.p) := by simp [pre, hc]
    have HP := hide hp
    have HC := hide hc
    have hx : (checkZs (Z.map ZV.p) != 0) = true := by simpa using hc
    clear hp hc
    go_enter Try.func23, Try.ntmps23
    go_wp2_with fail
    refine (YCheck_c a n c Z _ h).mono ?_
    rintro e w1 ⟨rfl, hb1⟩
    generalize hy : checkZs (Z.map ZV.p) = x at *
    clear hy
    go_wp2
    go_ret2
    exact ⟨.inl ⟨by rw [HP.out]; exact HC.out, by rw [HP.out]; rfl⟩, by (repeat first | exact bel0 | assumption | refine bel1 ?_ | refine bel2 ?_ | refine bel3 ?_ | refine belowT ?_ (by assumption) | refine bel5 ?_ (by simp; try omega))⟩

set_option maxHeartbeats 1000000 in
theorem shut_c (g i : Nat) (z : ZV) (w : World) (h0 : w.cell? ⟨g, i, none⟩ = some (.int .i64 z.s)) (h1 : w.cell? ⟨g, i + 1, none⟩ = some (.slice z.a z.n z.c)) (hf : w.frozen? ⟨g, i, none⟩ = false) (hl : z.l.length = z.n) (hm : z.n ≤ 9223372036854775807) :
    Calls Try.prog 26 #[.pointer (some ⟨g, i, none⟩)] w fun e w' => (∃ v, e = .returned v) ∧ Put w w' ⟨g, i, none⟩ (.int .i64 (shutS z.l)) := by
  by_cases hz : z.l = []
  · have hn : ((z.n : Int) == 0) = true := by rw [hz] at hl; simp at hl; simp; omega
    have hs : shutS z.l = 0 := by simp [shutS, hz]
    have HS := hide hs
    clear hs hz hl
    go_enter Try.func26, Try.ntmps26
    go_wp2
    go_end0
    rw [HS.out]
    exact ⟨⟨_, rfl⟩, ((Put.refl h0).set _).set _⟩
  · have hn : ((z.n : Int) == 0) = false := by
      have : z.l.length ≠ 0 := fun e => hz (List.length_eq_zero_iff.1 e)
      simp; omega
    have hs : shutS z.l = 3 := by simp [shutS, hz]
    have HS := hide hs
    clear hs hz hl
    go_enter Try.func26, Try.ntmps26
    go_wp2
    go_end0
    rw [HS.out]
    exact ⟨⟨_, rfl⟩, (Put.refl h0).set _⟩

set_option maxHeartbeats 1000000 in
theorem IndexFuncZ_c (b off n c : Nat) (Z : List ZV) (g : Nat) (a : Option Addr) (m d : Nat) (L : List Int) (w : World) (h : Zones w (some ⟨b, off, none⟩) n c Z)
    (hr : ∀ i z, Z[i]? = some z → w.cell? ⟨b, off + i * 2, none⟩ = some (.int .i64 z.s) ∧ w.cell? ⟨b, off + i * 2 + 1, none⟩ = some (.slice z.a z.n z.c))
    (hg : w.cell? ⟨g, 0, none⟩ = some (.slice a m d)) (hi : Ints w a m d L) :
    Calls Try.prog 44 #[.slice (some ⟨b, off, none⟩) n c, .func (Fn.func 45) #[] #[.pointer (some ⟨g, 0, none⟩)]] w fun e w' =>
      ((∃ (i : Nat) (z : ZV), e = .returned (.int .i64 i) ∧ Z[i]? = some z ∧ hasB L z.s = true ∧ ∀ (j : Nat) (y : ZV), j < i → Z[j]? = some y → hasB L y.s = false) ∨
       (e = .returned (.int .i64 (-1)) ∧ ∀ (j : Nat) (y : ZV), Z[j]? = some y → hasB L y.s = false)) ∧ Below w.heap.size w w' := by
  have hlen := h.len
  have hmax := h.max
  have hle := h.le
  go_enter Try.func44, Try.ntmps44
  go_wp2
  go_loopw [8] (fun i wr => ∃ k : Nat, k ≤ n ∧ i = .int .i64 k ∧ (∀ (j : Nat) (y : ZV), j < k → Z[j]? = some y → hasB L y.s = false) ∧ Below w.heap.size w wr) (fun i _ => n - (intOf i).toNat)
  case atStart => exact ⟨0, by omega, rfl, fun j y hj => by omega, Below.refl _ _⟩
  case round =>
    obtain ⟨k, hk, rfl, hb, hbr⟩ := hrel
    have HB := hide hb
    clear hb
    rename_i wr
    by_cases hlt : k < n
    · obtain ⟨z, hz⟩ : ∃ z, Z[k]? = some z := ⟨Z[k]'(by omega), by simp⟩
      obtain ⟨c0, c1⟩ := hr k z hz
      replace c0 := keepc hbr c0
      replace c1 := keepc hbr c1
      have hg1 := keepc hbr hg
      have hi1 := hi.below hbr (Nat.le_refl _)
      have hlt' : (k : Int) < (n : Int) := by omega
      have HZ := hide hz
      clear hr hz
      go_wp2_with (go_at_call 45; refine (yin1_c z.s z.a z.n z.c g a m d L _ (keepc (by (repeat first | exact bel0 | assumption | refine bel1 ?_ | refine bel2 ?_ | refine bel3 ?_ | refine belowT ?_ (by assumption) | refine bel5 ?_ (by simp; try omega))) hg1) (by refine Ints.below hi1 (B := wr.heap.size) ?_ (Nat.le_refl _); (repeat first | exact bel0 | assumption | refine bel1 ?_ | refine bel2 ?_ | refine bel3 ?_ | refine belowT ?_ (by assumption) | refine bel5 ?_ (by simp; try omega)))).mono ?_; rintro e w9 ⟨rfl, hb9⟩)
      · go_ret
        exact ⟨.inl ⟨k, z, rfl, HZ.out, ‹_›, HB.out⟩, by (repeat first | exact bel0 | assumption | refine bel1 ?_ | refine bel2 ?_ | refine bel3 ?_ | refine belowT ?_ (by assumption) | refine bel5 ?_ (by simp; try omega))⟩
      · rename_i hx
        refine ⟨⟨k + 1, by omega, by go_num, fun j y hj hy => ?_, by (repeat first | exact bel0 | assumption | refine bel1 ?_ | refine bel2 ?_ | refine bel3 ?_ | refine belowT ?_ (by assumption) | refine bel5 ?_ (by simp; try omega))⟩, by simp [intOf]; omega⟩
        by_cases e : j = k
        · subst e
          have := HZ.out.symm.trans hy
          cases this
          exact hx
        · exact HB.out j y (by omega) hy
    · obtain rfl : k = n := by omega
      go_wp2
      go_ret
      exact ⟨.inr ⟨rfl, fun j y hy => HB.out j y (by have := (List.getElem?_eq_some_iff.1 hy).1; omega) hy⟩, hbr⟩

end Go.Proofs.Ytaambknbbhjdnaa
