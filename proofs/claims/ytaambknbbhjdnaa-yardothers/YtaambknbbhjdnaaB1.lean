/- The contracts of slices.Grow on nil, and of slices.Concat of two lists; under conditions on their lengths alone. -/
import Derived.Test.YtaambknbbhjdnaaA4
import Derived.Lib.AppendZeros
namespace Go.Proofs.Ytaambknbbhjdnaa
open Go.RowKit
set_option linter.unusedVariables false
set_option maxRecDepth 100000
set_option linter.unusedSimpArgs false

/-- What is known of the type int. -/
theorem intInfo : ∃ i, Try.prog.info? 3 = some i ∧ i.zero = some (.int .i64 0) ∧ i.size = 1 ∧ i.bytes = 8 := by
  obtain ⟨i, hi, h⟩ := Option.map_eq_some_iff.1 infoInt
  simp only [Prod.mk.injEq] at h
  exact ⟨i, hi, h.1, h.2.1, h.2.2⟩

/-- An owned list of ints. -/
def OwnI (w : World) (base : Nat) (v : Value) (l : List Int) : Prop := w.ownsRow base 3 1 v l.length (cellsOf l)

theorem OwnI.ints {w : World} {base : Nat} {v : Value} {l : List Int} (h : OwnI w base v l) (hwf : ∀ x ∈ l, -9223372036854775808 ≤ x ∧ x ≤ 9223372036854775807) :
    ∃ a c, v = .slice a l.length c ∧ Ints w a l.length c l ∧ ∀ x, a = some x → base ≤ x.block := by
  obtain ⟨hlen, h⟩ := h
  rcases h with ⟨rfl, h0⟩ | ⟨g, cap, cur, rfl, hb, hg, hn, hm, hs, hc⟩
  · rw [List.length_eq_zero_iff] at h0
    subst h0
    exact ⟨none, 0, rfl, Ints.nilSlice w, fun x h => by cases h⟩
  · refine ⟨_, cap, rfl, ?_, fun x h => by cases h; exact hb⟩
    refine ⟨rfl, hn, by simp [maxLen] at hm; omega, fun e => (by cases e), .inr ⟨g, 0, rfl, (Array.getElem?_eq_some_iff.1 hg).1, fun i hi => ?_⟩, hwf⟩
    rw [cell_of_row w g _ _ _ _ hg, Nat.zero_add]
    have := congrArg (fun L => L[i]?) hc
    simp only [Nat.mul_one, List.getElem?_take, hi, if_true] at this
    rw [cellsOf_get l i hi] at this
    simpa using this

theorem OwnI.base {w : World} {base q n cap : Nat} {l : List Int} (h : OwnI w base (.slice (some ⟨q, 0, none⟩) n cap) l) : base ≤ q := by
  obtain ⟨_, h⟩ := h
  rcases h with ⟨e, _⟩ | ⟨g, cap, cur, e, hb, _⟩
  · cases e
  · cases e; exact hb

theorem nil_own (w : World) (base : Nat) : OwnI w base (.slice none 0 0) [] := ⟨rfl, .inl ⟨rfl, rfl⟩⟩

set_option maxHeartbeats 1000000 in
theorem Grow_c (n : Nat) (w : World) (hn : 0 < n) (hn2 : n ≤ 1000000) :
    Calls Try.prog 59 #[.slice none 0 0, .int .i64 n] w fun e w' => (∃ q cap, e = .returned (.slice (some ⟨q, 0, none⟩) 0 cap) ∧ n ≤ cap ∧ OwnI w' w.heap.size (.slice (some ⟨q, 0, none⟩) 0 cap) []) ∧ Below w.heap.size w w' := by
  obtain ⟨i, hi, hz, hs, hb⟩ := intInfo
  have hn' : (0 : Int) < (n : Int) := by omega
  go_enter Try.func59, Try.ntmps59
  go_wp2_with (at_builtin; go_loud (refine Lib.wpList_append_run _ rfl _ _ _ _ rfl _ _ rfl rfl _ _ (Lib.run_append_nil_zeros _ 23 3 _ 3 i (.int .i64 0) .i64 .i64 Try.underlying23 Try.underlying3 hi hz n hn (by omega) (by omega) (by rw [hb]; omega)) ?_))
  go_ret
  have hge := grownCap_ge w n 0 3
  have hle := grownCap_le_maxLen w n 0 3 (by simp [maxLen]; omega)
  generalize grownCap w n 0 3 = cap at *
  exact ⟨⟨_, cap, rfl, hge, ⟨rfl, .inr ⟨w.heap.size, cap, _, rfl, Nat.le_refl _, heap_new w _, Nat.zero_le _, hle, by simp [size_zeroCells]; omega, by simp [cellsOf]⟩⟩⟩, by (repeat first | exact bel0 | assumption | refine bel1 ?_ | refine bel2 ?_ | refine bel3 ?_ | refine belowT ?_ (by assumption) | refine bel5 ?_ (by simp; try omega))⟩

set_option maxHeartbeats 2000000 in
theorem Concat_c (g : Nat) (a : Option Addr) (n c : Nat) (l : List Int) (b : Option Addr) (m d : Nat) (k : List Int) (w : World) (h1 : Ints w a n c l) (h2 : Ints w b m d k) (h0 : 0 < n + m) (hnm : n + m ≤ 1000000)
    (hg0 : w.cell? ⟨g, 0, none⟩ = some (.slice a n c)) (hg1 : w.cell? ⟨g, 1, none⟩ = some (.slice b m d)) :
    Calls Try.prog 50 #[.slice (some ⟨g, 0, none⟩) 2 2] w fun e w' => (∃ v, e = .returned v ∧ OwnI w' w.heap.size v (l ++ k)) ∧ Below w.heap.size w w' := by
  obtain ⟨i, hi, hz, hs, hb⟩ := intInfo
  go_enter Try.func50, Try.ntmps50
  go_wp2
  refine wp_loop_rounds 3 ?_
  rw [rounds_succ]
  go_wp2
  rw [rounds_succ]
  go_wp2
  rw [rounds_succ]
  go_wp2_with fail
  rw [show (n : Int) + (m : Int) = ((n + m : Nat) : Int) by omega]
  refine (Grow_c (n + m) _ h0 hnm).mono ?_
  rintro e w1 ⟨⟨q, cap, rfl, hcap, ho⟩, hb1⟩
  have hq := ho.base
  have hq' : ∀ k, some q = some k → w.heap.size ≤ k := by intro k e; cases e; exact hq
  have hc0 := keepc hb1 hg0
  have i1 := h1.below hb1 (Nat.le_refl _)
  go_wp2_with fail
  refine wp_loop_rounds 3 ?_
  rw [rounds_succ]
  go_wp2_with (at_builtin; refine wpList_append_fits_any _ rfl _ _ 23 rfl w.heap.size 3 i 1 Try.underlying23 hi hs q 0 cap [] rfl ho a n c (cellsOf l) rfl ?ha1 ?ha2 ?ha3 (cellsOf_one l) ?ha4 ?ha5)
  case ha1 => rw [cellsOf_len, h1.len, Nat.mul_one]
  case ha2 => exact h1.nils
  case ha3 => exact i1.srcs
  case ha4 => omega
  case ha5 =>
    intro w2 ho2 hg2
    have b2 : Below w.heap.size w w2 := hb1.grown hg2 hb1.size hq'
    have hd1 := keepc b2 hg1
    have i2 := h2.below b2 (Nat.le_refl _)
    go_wp2
    rw [rounds_succ]
    go_wp2_with (at_builtin; refine wpList_append_fits_any _ rfl _ _ 23 rfl w.heap.size 3 i 1 Try.underlying23 hi hs q n cap (cellsOf l) rfl ho2 b m d (cellsOf k) rfl ?hb1 ?hb2 ?hb3 (cellsOf_one k) ?hb4 ?hb5)
    case hb1 => rw [cellsOf_len, h2.len, Nat.mul_one]
    case hb2 => exact h2.nils
    case hb3 => exact i2.srcs
    case hb4 => omega
    case hb5 =>
      intro w3 ho3 hg3
      have b3 : Below w.heap.size w w3 := b2.grown hg3 b2.size hq'
      go_wp2
      rw [rounds_succ]
      go_wp2
      go_ret
      refine ⟨⟨_, rfl, ?_⟩, b3⟩
      unfold OwnI
      rw [← cellsOf_app, List.length_append, h1.len, h2.len]
      exact ho3

end Go.Proofs.Ytaambknbbhjdnaa
