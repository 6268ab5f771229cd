/- The contracts of the document's own answers WriteZone and ReadZone; no condition but that the zone reads as its state and list. -/
import Derived.Test.YtmjcoehllinoeacDoorB1
import Derived.Test.YtmjcoehllinoeacDoorA6
namespace Go.Proofs.YtmjcoehllinoeacDoor
open Go.RowKit
set_option linter.unusedVariables false
set_option maxRecDepth 100000
set_option linter.unusedSimpArgs false

/-- The ways in which a write fails, in the document's own words. -/
theorem writeE_ways {s : Int} {l k : List Int} {n m : Nat} {x : Int} (hx : checkZ s l = x) (g1 : l.length = n) (g2 : k.length = m) (hbad : writeE s l k ≠ 0) :
    ((x != 0) = true ∧ writeE s l k = x) ∨
    ((x != 0) = false ∧ inB m 1 8 = false ∧ writeE s l k = 2) ∨
    ((x != 0) = false ∧ inB m 1 8 = true ∧ (k.all fun x => inB x 0 999) = false ∧ writeE s l k = 3) ∨
    ((x != 0) = false ∧ inB m 1 8 = true ∧ (k.all fun x => inB x 0 999) = true ∧ (s == 4) = true ∧ writeE s l k = 7) ∨
    ((x != 0) = false ∧ inB m 1 8 = true ∧ (k.all fun x => inB x 0 999) = true ∧ (s == 4) = false ∧ n ≤ 8 ∧ m ≤ 8 ∧ 8 < n + m ∧ writeE s l k = 7) := by
  have hw := writeE_eq hx g1 g2
  rw [all_any, inB_outB]
  by_cases h0 : x = 0
  · have hz := checkZ_len (hx.trans h0)
    rw [g1] at hz
    cases h1 : outB 1 8 m
    · have hm : m ≤ 8 := by simp [outB] at h1; omega
      rw [IntWalk.wrap64_in ((n : Int) + m) (by omega)] at hw
      cases h2 : k.any (outB 0 999)
      · by_cases h3 : s = 4
        · right; right; right; left
          subst h3
          rw [hw]
          simp [h0, h1, h2]
        · by_cases h4 : 8 < n + m
          · right; right; right; right
            rw [hw]
            have h4' : (8 : Int) < (n : Int) + m := by omega
            simp [h0, h1, h2, h3, h4, h4', hz, hm]
          · exfalso
            apply hbad
            rw [hw]
            have h4' : ¬ (8 : Int) < (n : Int) + m := by omega
            simp [h0, h1, h2, h3, h4']
      · right; right; left
        rw [hw]
        simp [h0, h1, h2]
    · right; left
      rw [hw]
      simp [h0, h1]
  · left
    rw [hw]
    simp [h0]

theorem writeE_yes {s : Int} {l k : List Int} {n m : Nat} (g1 : l.length = n) (g2 : k.length = m) (hok : writeE s l k = 0) :
    checkZ s l = 0 ∧ inB m 1 8 = true ∧ (k.all fun x => inB x 0 999) = true ∧ (s == 4) = false ∧ 0 < m ∧ n + m ≤ 8 := by
  obtain ⟨h1, h2, h3, h4, h5⟩ := writeE_ok hok
  rw [g1, g2] at h3
  rw [g2] at h2
  exact ⟨h1, by simp [inB]; omega, by rw [all_any, h4]; rfl, by simpa using h5, by omega, h3⟩

theorem set2_0 {w : World} {g : Nat} {u0 : Value} (h0 : w.cell? ⟨g, 0, none⟩ = some u0) (v0 v1 : Value) (o : Obj) : (((w.setCell ⟨g, 0, none⟩ v0).setCell ⟨g, 1, none⟩ v1).alloc o).cell? ⟨g, 0, none⟩ = some v0 :=
  past1 (by rw [World.cell?_setCell_other _ _ _ _ (by simp)]; exact World.cell?_setCell_same _ _ _ h0) o
theorem set2_1 {w : World} {g : Nat} {u1 : Value} (h1 : w.cell? ⟨g, 1, none⟩ = some u1) (v0 v1 : Value) (o : Obj) : (((w.setCell ⟨g, 0, none⟩ v0).setCell ⟨g, 1, none⟩ v1).alloc o).cell? ⟨g, 1, none⟩ = some v1 :=
  past1 (World.cell?_setCell_same _ _ _ (by rw [World.cell?_setCell_other _ _ _ _ (by simp)]; exact h1)) o

theorem writeS_n1 {s : Int} {n m : Nat} (h : (n : Int) + m = 8) : writeS s (n + m) = 4 := by simp [writeS]; omega
theorem writeS_n2 {s : Int} {n m : Nat} (h : ¬ (n : Int) + m = 8) (hs : (s == 2) = true) : writeS s (n + m) = 2 := by simp at hs; simp [writeS, hs]; omega
theorem writeS_n3 {s : Int} {n m : Nat} (h : ¬ (n : Int) + m = 8) (hs : (s == 2) = false) : writeS s (n + m) = 1 := by simp at hs; simp [writeS, hs]; omega

end Go.Proofs.YtmjcoehllinoeacDoor
