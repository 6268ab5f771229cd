/- A region whose operations come in any order, by an invariant over what has come; and small maps of ints that a call makes; plain, no condition. -/
import Derived.Test.YtogpbihmofbfjaaA0
import Derived.Maps.OwnOps
import Derived.RegionTactic
namespace Go.Proofs.Ytogpbihmofbfjaa
open Go.RowKit
open Go.Maps (Keyed)
set_option linter.unusedVariables false
set_option maxRecDepth 100000
set_option linter.unusedSimpArgs false

/-- How many operations have not come yet. -/
def unlisted (L : Array Bool) : Nat := L.toList.countP (fun b => !b)

theorem unlisted_set {L : Array Bool} {i : Nat} (h : L.getD i true = false) : unlisted (L.setIfInBounds i true) + 1 = unlisted L := by
  have hi : i < L.size := by
    rcases Nat.lt_or_ge i L.size with h' | h'
    · exact h'
    · simp [Array.getElem?_eq_none h'] at h
  have hx : L.toList[i]'(by simpa using hi) = false := by simpa [hi] using h
  unfold unlisted
  rw [Array.toList_setIfInBounds, List.countP_set (by simpa using hi), hx]
  have : 0 < L.toList.countP (fun b => !b) := List.countP_pos_iff.2 ⟨false, by rw [← hx]; exact List.getElem_mem _, rfl⟩
  simp only [Bool.not_false, Bool.not_true, if_true]
  rw [if_neg (by simp)]
  omega

theorem wpAny_inv {P : Program} {md : Region.Mode} {ops : Array Oper} {Q : Exit → Act → World → Prop} (Inv : Array Bool → Act → World → Prop)
    (hdone : ∀ L a w, Inv L a w → Region.ready md ops L = [] → Q .normal a w)
    (hstep : ∀ L a w, Inv L a w → ∀ i o, ops[i]? = some o → L.getD i true = false → (∀ e ∈ o.after, Region.binds md e = true → L.getD e.on false = true) → wpOp P ops Q i (Inv (L.setIfInBounds i true)) a w) :
    ∀ (fuel : Nat) (L : Array Bool) (a : Act) (w : World), unlisted L ≤ fuel → Inv L a w → wpAny P md ops Q fuel L a w := by
  intro fuel
  induction fuel with
  | zero =>
    intro L a w hf hI
    have hr : Region.ready md ops L = [] := by
      apply List.eq_nil_iff_forall_not_mem.2
      intro i hi
      have := unlisted_set (mem_ready.1 hi).1
      omega
    exact ⟨hr, hdone L a w hI hr⟩
  | succ fuel ih =>
    intro L a w hf hI
    refine ⟨fun hr => hdone L a w hI hr, fun i hi => ?_⟩
    obtain ⟨h0, o, ho, hall⟩ := mem_ready.1 hi
    refine wpOp_mono (fun a' w' h => ih _ _ _ ?_ h) (hstep L a w hI i o ho h0 hall)
    have := unlisted_set h0
    omega

theorem bit_ne {L : Array Bool} {i j : Nat} (h : i ≠ j) (d : Bool) : (L.setIfInBounds i true).getD j d = L.getD j d := getD_set_ne d h
theorem bit_same {L : Array Bool} {i : Nat} (h : i < L.size) (d : Bool) : (L.setIfInBounds i true).getD i d = true := by simp [h]
theorem bit_no {L : Array Bool} {i : Nat} (h : L.getD i true = false) : L.getD i false = false := by
  rcases Nat.lt_or_ge i L.size with h' | h'
  · simpa [h'] using h
  · simp [Array.getElem?_eq_none h'] at h

/-- What is ready comes: where nothing is, an operation all of whose forerunners have come has come too. -/
theorem bit_done {md : Region.Mode} {ops : Array Oper} {L : Array Bool} (hr : Region.ready md ops L = []) (i : Nat) (o : Oper) (ho : ops[i]? = some o) (hs : L.size = ops.size)
    (h : ∀ e ∈ o.after, Region.binds md e = true → L.getD e.on false = true) : L.getD i false = true := by
  have hi : i < L.size := by rw [hs]; exact (Array.getElem?_eq_some_iff.1 ho).1
  cases hb : L.getD i false with
  | true => rfl
  | false =>
    have : i ∈ Region.ready md ops L := mem_ready.2 ⟨by simpa [hi] using hb, o, ho, h⟩
    rw [hr] at this
    cases this

end Go.Proofs.Ytogpbihmofbfjaa
