/- What a row's list gives of the table of kinds; no condition. -/
import Derived.Test.YtmjcoehllinoeacDoorRows
import Derived.Test.YtmjcoehllinoeacDoorE0s
import Derived.Stop.LaidErr
import Derived.Shelf.Vars
import Derived.MapViews
import Derived.DeepKeys2
import Derived.Lib.LaidTab
namespace Go.Proofs.YtmjcoehllinoeacDoor
open Go.RowKit
set_option linter.unusedVariables false
set_option maxRecDepth 100000
set_option linter.unusedSimpArgs false

theorem laid_at {P : Program} {w : World} : ∀ {laid : List (String × DataW Unit)} {ps : List MemPlace}, DataW.LaidVars P w laid ps → ∀ {n : String} {d : DataW Unit}, (n, d) ∈ laid →
    ∃ g t cs fuel p, P.globalNamed n = some g ∧ (P.globals[g]?).map (·.type) = some t ∧ w.var? P n = some cs ∧ DataW.trod (fun _ => ()) P w 0 (fun _ => true) false fuel t cs.toList = some (d, p)
  | [], _, _, _, _, h => by cases h
  | (n, d) :: r, ps, hl, n', d', h => by
    obtain ⟨g, t, cs, fuel, p, q, h1, h2, h3, h4, h5, _⟩ := hl
    rcases List.mem_cons.1 h with e | h
    · cases e
      exact ⟨g, t, cs, fuel, p, h1, h2, h3, h4⟩
    · exact laid_at h5 h

theorem gShapes : Tryd.prog.globalNamed "quayhand/cmd.shapes" = some 0 := by kernel_rfl
theorem tShapes : (Tryd.prog.globals[0]?).map (·.type) = some 57 := by kernel_rfl

set_option maxRecDepth 100000 in
theorem shapes_cells : (Rows.laid_quayhand_cmd_shapes : DataW Unit).flat.map Lit.toCell = ((List.range 13).flatMap fun k => [.string (word k), .bool (hasZ k), .bool (hasA k), .bool (hasN k), .bool (hasD k)]) := by rfl

theorem flat_get (f : Nat → List Value) (h5 : ∀ k, (f k).length = 5) : ∀ (n k j : Nat), k < n → j < 5 → ((List.range n).flatMap f)[k * 5 + j]? = (f k)[j]?
  | 0, k, j, hk, _ => by omega
  | n + 1, k, j, hk, hj => by
    have hlen : ∀ m, ((List.range m).flatMap f).length = m * 5 := by
      intro m
      induction m with
      | zero => rfl
      | succ m ih => rw [List.range_succ, List.flatMap_append, List.length_append, ih]; simp [h5]; omega
    rw [List.range_succ, List.flatMap_append]
    by_cases hkn : k < n
    · rw [List.getElem?_append_left (by rw [hlen]; omega)]
      exact flat_get f h5 n k j hkn hj
    · obtain rfl : k = n := by omega
      rw [List.getElem?_append_right (by rw [hlen]; omega), hlen]
      simp

set_option maxRecDepth 100000 in
theorem shapes_of {W : World} {laid : List (String × DataW Unit)} (hL : laidMet Tryd.prog laid W) (m4 : ("quayhand/cmd.shapes", Rows.laid_quayhand_cmd_shapes) ∈ laid) : Shapes W := by
  obtain ⟨ps, hv, _, _⟩ := hL
  obtain ⟨g, t, cs, fuel, p, h1, h2, h3, h4⟩ := laid_at hv m4
  obtain rfl := Option.some.inj (gShapes.symm.trans h1)
  obtain rfl := Option.some.inj (tShapes.symm.trans h2)
  have h5 := (keyLits_of_trod 5 57 (by kernel_rfl) _ _ _ h4).1
  have h6 := cells_of_lits 5 57 (by kernel_rfl) _ _ _ h5
  rw [shapes_cells] at h6
  have hc : ∀ k j, k ≤ 12 → j < 5 → W.cell? ⟨0, k * 5 + j, none⟩ = ([.string (word k), .bool (hasZ k), .bool (hasA k), .bool (hasN k), .bool (hasD k)] : List Value)[j]? := by
    intro k j hk hj
    rw [World.var?_cell gShapes h3, ← Array.getElem?_toList, h6]
    exact flat_get _ (fun k => rfl) 13 k j (by omega) hj
  exact ⟨fun k hk => hc k 0 hk (by omega), fun k hk => hc k 1 hk (by omega), fun k hk => hc k 2 hk (by omega), fun k hk => hc k 3 hk (by omega), fun k hk => hc k 4 hk (by omega)⟩

end Go.Proofs.YtmjcoehllinoeacDoor
