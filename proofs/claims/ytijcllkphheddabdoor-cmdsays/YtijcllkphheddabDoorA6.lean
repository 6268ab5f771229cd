/- The contracts of zone.Read and what it calls; no condition but that the zone reads as its state and list. -/
import Derived.Test.YtijcllkphheddabDoorA5
namespace Go.Proofs.YtijcllkphheddabDoor
open Go.RowKit
set_option linter.unusedVariables false
set_option linter.unusedSimpArgs false

/-- What is wrong with reading n blocks from p on: plain. -/
def readE (s : Int) (l : List Int) (p n : Int) : Int :=
  if checkZ s l ≠ 0 then checkZ s l else if outB 0 8 p || outB 0 (8 - p) n then 3 else if (l.length : Int) < p + n then 6 else 0

theorem readE_ok {s : Int} {l : List Int} {p n : Int} (h : readE s l p n = 0) : checkZ s l = 0 ∧ 0 ≤ p ∧ p ≤ 8 ∧ 0 ≤ n ∧ n ≤ 8 - p ∧ p + n ≤ l.length := by
  unfold readE at h
  by_cases h1 : checkZ s l = 0
  · cases h2 : outB 0 8 p
    · cases h3 : outB 0 (8 - p) n
      · by_cases h4 : (l.length : Int) < p + n
        · simp [h1, h2, h3, h4] at h
        · simp [outB] at h2 h3
          exact ⟨h1, by omega, by omega, by omega, by omega, by omega⟩
      · simp [h1, h2, h3] at h
    · simp [h1, h2] at h
  · simp [h1] at h

/-- A piece of a slice of ints. -/
theorem Ints.cut {w : World} {a : Option Addr} {n c : Nat} {l : List Int} (h : Ints w a n c l) (i j : Nat) (hij : i + j ≤ n) (a' : Option Addr) (ha : c ≠ i → a' = a.map (·.add i)) : Ints w a' j (c - i) ((l.drop i).take j) := by
  have hl := h.len
  have hle := h.le
  refine ⟨by simp; omega, by omega, by have := h.max; omega, fun e => ?_, ?_, fun x hx => h.wf x (List.mem_of_mem_drop (List.mem_of_mem_take hx))⟩
  · by_cases hci : c = i
    · omega
    · have := ha hci
      rw [e] at this
      cases a with
      | none => have := h.nil rfl; omega
      | some x => simp at this
  · by_cases hj : j = 0
    · exact .inl hj
    · rcases h.row with h0 | ⟨b, off, ea, hlt, hc⟩
      · omega
      · refine .inr ⟨b, off + i, ?_, hlt, fun q hq => ?_⟩
        · rw [ha (by omega), ea]; simp [addr_add]
        · rw [Nat.add_assoc, hc (i + q) (by omega)]
          simp [List.getD, List.getElem?_take, hq]

end Go.Proofs.YtijcllkphheddabDoor
