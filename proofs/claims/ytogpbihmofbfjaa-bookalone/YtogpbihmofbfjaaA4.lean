/- The contracts of zone.Write, zone.Read and what they call; no condition but that the zone reads as its state and list. -/
import Derived.Test.YtogpbihmofbfjaaA3
import Derived.Laws.CopyOwn
import Derived.Deep.OwnRows
import Derived.KernelRfl
namespace Go.Proofs.Ytogpbihmofbfjaa
open Go.RowKit
set_option linter.unusedVariables false
set_option maxRecDepth 100000
set_option linter.unusedSimpArgs false

/-- What is wrong with writing k behind l in a zone of state s: plain. -/
def writeE (s : Int) (l k : List Int) : Int :=
  if checkZ s l ≠ 0 then checkZ s l else if outB 1 8 k.length then 2 else if k.any (outB 0 999) then 3 else if s = 4 ∨ 8 < l.length + k.length then 7 else 0

theorem checkZ_len {s : Int} {l : List Int} (h : checkZ s l = 0) : 0 ≤ s ∧ s ≤ 4 ∧ l.length ≤ 8 ∧ l.any (outB 0 999) = false ∧ fitsB s l.length = true := by
  unfold checkZ at h
  by_cases h1 : outB 0 4 s = true
  · simp [h1] at h
  · have h5 : 0 ≤ s ∧ s ≤ 4 := by simp [outB] at h1; omega
    by_cases h2 : 8 < l.length
    · simp [h1, h2] at h
    · by_cases h3 : l.any (outB 0 999) = true
      · simp only [h1, h2, h3] at h; simp at h
      · by_cases h4 : fitsB s l.length = true
        · exact ⟨h5.1, h5.2, by omega, by simpa using h3, h4⟩
        · simp only [h1, h2, h3, h4] at h; simp at h

theorem writeE_eq {s : Int} {l k : List Int} {n m : Nat} {x : Int} (hx : checkZ s l = x) (g1 : l.length = n) (g2 : k.length = m) :
    writeE s l k = if (x != 0) = true then x else if outB 1 8 m = true then 2 else if k.any (outB 0 999) = true then 3 else if s = 4 ∨ 8 < wrap64 ((n : Int) + m) then 7 else 0 := by
  unfold writeE
  rw [g1, g2]
  by_cases h0 : x = 0
  · have hz := checkZ_len (hx.trans h0)
    by_cases h1 : outB 1 8 m = true
    · simp [hx, h0, h1]
    · have hm : m ≤ 8 := by simp [outB] at h1; omega
      rw [IntWalk.wrap64_in ((n : Int) + m) (by omega)]
      have e : (8 < n + m) = ((8 : Int) < (n : Int) + (m : Int)) := by apply propext; omega
      simp only [hx, h0, h1, e]
      simp
  · simp [hx, h0]

theorem infoInt : (Try.prog.info? 3).map (fun i => (i.zero, i.size, i.bytes)) = some (some (.int .i64 0), 1, 8) := by kernel_rfl
theorem sizeInt : (Try.prog.info? 3).map (·.size) = some 1 := by kernel_rfl

end Go.Proofs.Ytogpbihmofbfjaa
