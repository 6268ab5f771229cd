/- A frame of which some slots are set, in whatever order; and how the operations of a map's literal go there; plain, no condition. -/
import Derived.Test.YtogpbihmofbfjaaM0
import Derived.Test.YtogpbihmofbfjaaProg
namespace Go.Proofs.Ytogpbihmofbfjaa
open Go.RowKit
open Go.Maps (Keyed)
set_option linter.unusedVariables false
set_option maxRecDepth 100000
set_option linter.unusedSimpArgs false

/-- The values of a frame, those that S names by v. -/
def over (S : Nat → Bool) (v : Nat → Value) : Nat → List Value → List Value
  | _, [] => []
  | i, x :: r => (if S i then v i else x) :: over S v (i + 1) r
def upd (v : Nat → Value) (i : Nat) (u : Value) : Nat → Value := fun j => if j = i then u else v j
theorem upd_same (v : Nat → Value) (i : Nat) (u : Value) : upd v i u i = u := by simp [upd]
theorem upd_ne (v : Nat → Value) {i j : Nat} (h : j ≠ i) (u : Value) : upd v i u j = v j := by simp [upd, h]
theorem over_get (S : Nat → Bool) (v : Nat → Value) : ∀ (l : List Value) (i j : Nat), (over S v i l)[j]? = l[j]?.map fun x => if S (i + j) then v (i + j) else x
  | [], i, j => by simp [over]
  | x :: r, i, 0 => by simp [over]
  | x :: r, i, j + 1 => by
    simp only [over, List.getElem?_cons_succ]
    rw [over_get S v r (i + 1) j, show i + 1 + j = i + (j + 1) by omega]
theorem over_len (S : Nat → Bool) (v : Nat → Value) : ∀ (l : List Value) (i : Nat), (over S v i l).length = l.length
  | [], i => rfl
  | x :: r, i => by simp [over, over_len S v r]
theorem over_set (S : Nat → Bool) (v : Nat → Value) (u : Value) : ∀ (l : List Value) (i j : Nat), S (i + j) = true → (over S v i l).set j u = over S (upd v (i + j) u) i l := by
  intro l i j hs
  apply List.ext_getElem?
  intro n
  rw [over_get]
  by_cases e : j = n
  · subst e
    by_cases hl : j < l.length
    · rw [List.getElem?_set_self (by rw [over_len]; exact hl)]
      simp [hs, upd_same, hl]
    · rw [List.getElem?_eq_none (by rw [List.length_set, over_len]; omega), List.getElem?_eq_none (by omega)]; rfl
  · rw [List.getElem?_set_ne e, over_get]
    congr 1
    funext x
    rw [upd_ne v (by omega)]
theorem over_id (S : Nat → Bool) (v : Nat → Value) : ∀ (l : List Value) (i : Nat), (∀ j x, l[j]? = some x → S (i + j) = true → v (i + j) = x) → over S v i l = l := by
  intro l i h
  apply List.ext_getElem?
  intro n
  rw [over_get]
  cases hx : l[n]? with
  | none => rfl
  | some x =>
    simp only [Option.map_some, Option.some.injEq]
    split
    · exact h n x hx ‹_›
    · rfl

/-- The frame a0, but that the slots of S hold v. -/
def laid (S : Nat → Bool) (a0 : Act) (v : Nat → Value) : Act := ⟨(over S v 0 a0.tmps.toList).toArray, a0.defers⟩
theorem laid_put {S : Nat → Bool} {a0 : Act} {v : Nat → Value} {i : Nat} (hs : S i = true) (u : Value) : (laid S a0 v).put (some i) u = laid S a0 (upd v i u) := by
  unfold laid Act.put
  simp only [List.setIfInBounds_toArray, Act.mk.injEq, and_true]
  rw [over_set S v u _ 0 i (by simpa using hs)]
  simp
theorem laid_eval {S : Nat → Bool} {a0 : Act} {v : Nat → Value} {i : Nat} (hs : S i = true) (hi : i < a0.tmps.size) : (laid S a0 v).eval (.tmp i) = v i := by
  have := over_get S v a0.tmps.toList 0 i
  simp [hi, hs] at this
  have hl : i < (over S v 0 a0.tmps.toList).length := by rw [over_len]; simpa using hi
  rw [List.getElem?_eq_getElem hl] at this
  simp [laid, Act.eval, Array.getD, hl]
  simpa using this
theorem laid_out {S : Nat → Bool} {a0 : Act} {v : Nat → Value} {i : Nat} (hs : S i = false) : (laid S a0 v).eval (.tmp i) = a0.eval (.tmp i) := by
  have := over_get S v a0.tmps.toList 0 i
  simp [hs] at this
  rcases Nat.lt_or_ge i a0.tmps.size with hi | hi
  · have hl : i < (over S v 0 a0.tmps.toList).length := by rw [over_len]; simpa using hi
    rw [List.getElem?_eq_getElem hl] at this
    simp [laid, Act.eval, Array.getD, hl, hi]
    simpa [hi] using this
  · have hl : ¬ i < (over S v 0 a0.tmps.toList).length := by rw [over_len]; simpa using hi
    simp [laid, Act.eval, Array.getD, hl, show ¬ i < a0.tmps.size by omega]
theorem laid_id (S : Nat → Bool) (a0 : Act) : laid S a0 (fun i => a0.tmps.getD i undef) = a0 := by
  unfold laid
  rw [over_id S _ _ 0 (fun j x hx _ => by simp at hx; simp [hx])]

section
variable {P : Program} {ops : Array Oper} {Q : Exit → Act → World → Prop} {K : Act → World → Prop} {i : Nat} {o : Oper} {a : Act} {w : World}

theorem op_of (ho : ops[i]? = some o) (hg : o.guard = none) (h : Oper.wp P o a w K Q) : wpOp P ops Q i K a w := by
  unfold wpOp
  rw [ho]
  simp [Region.wanted, hg]
  exact .inl h

theorem op_makeMap (ho : ops[i]? = some o) (hg : o.guard = none) {t : TypeId} (hop : o.op = Op.makeMap t none) (h : K (a.put o.dst (.map (some w.heap.size))) (w.alloc (.map #[] 0))) : wpOp P ops Q i K a w := by
  refine op_of ho hg ?_
  unfold Oper.wp
  simp [execOp, hop, run_makeMap, Result.andThen]
  exact h

theorem op_move (ho : ops[i]? = some o) (hg : o.guard = none) {x : Operand} (hop : o.op = Op.move x ∨ o.op = Op.assign x) (h : K (a.put o.dst (a.eval x)) w) : wpOp P ops Q i K a w := by
  refine op_of ho hg ?_
  unfold Oper.wp
  rcases hop with hop | hop
  · simp [execOp, hop, Result.andThen]
    exact h
  · simp [execOp, hop, Result.andThen]
    exact h

theorem op_insert (ho : ops[i]? = some o) (hg : o.guard = none) {m x u : Operand} {t : TypeId} (hop : o.op = Op.insert t m x u) {k e : TypeId} (L : Keyed P k) (ht : P.underlying t = some (.map k e))
    {R : Value → Option (DataW Unit × List MemPlace)} {b n : Nat} {D : DataW Unit} (hm : a.eval m = .map (some b)) (hown : w.ownsMap P k R b n D) (hn : n < maxLen) {kl : Lit} {d : DataW Unit} {ps : List MemPlace}
    (hkey : Go.keyOf P k (a.eval x) = some kl) (hval : R (a.eval u) = some (d, ps)) (h : ∀ w', w'.ownsMap P k R b (n + 1) (D.put kl d) → w.grownBy w' (some b) → K (a.put o.dst undef) w') : wpOp P ops Q i K a w := by
  refine op_of ho hg ?_
  obtain ⟨w', hrun, r1, r2⟩ := hown.update L ht hn hkey hval
  unfold Oper.wp
  simp [execOp, hop, hm, hrun, Result.andThen]
  exact h w' r1 r2

theorem op_lookup (ho : ops[i]? = some o) (hg : o.guard = none) {m x : Operand} {t : TypeId} (hop : o.op = Op.lookup t m x false) {k e : TypeId} {q : IntKind} (L : Keyed P k) (ht : P.underlying t = some (.map k e)) (he : P.underlying e = some (.int q))
    (hz : (zeroValue e).run P w = .ok (.int q 0) w) {b n : Nat} {D : DataW Unit} (hm : a.eval m = .map (some b)) (hown : w.ownsMap P k (plainElem P e) b n D) {kl : Lit} (hkey : Go.keyOf P k (a.eval x) = some kl)
    (h : ∀ c : Int, D.atKey kl (.lit (.int q 0)) = .lit (.int q c) → K (a.put o.dst (.int q c)) w) : wpOp P ops Q i K a w := by
  refine op_of ho hg ?_
  obtain ⟨c, hrun, hat, hwc⟩ := hown.lookup_int L ht he hz hkey
  unfold Oper.wp
  simp [execOp, hop, hm, hrun, Result.andThen]
  exact h c hat
end

end Go.Proofs.Ytogpbihmofbfjaa
