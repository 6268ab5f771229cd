/- Books as plain data, and what the document's calls make of them; plain mathematics, no condition. -/
import Derived.Test.YtogpbihmofbfjaaA2
namespace Go.Proofs.Ytogpbihmofbfjaa
open Go.RowKit
set_option linter.unusedVariables false
set_option maxRecDepth 100000
set_option linter.unusedSimpArgs false

/-- A book: keys, holder, type. -/
structure PB where
  k : List Int
  h : Int
  t : Int

def zeroB : PB := ⟨[], 0, 0⟩
def freshB : PB := ⟨[0, 0, 0], -1, 0⟩
def keyOf (b : PB) (i : Int) : Int := b.k.getD i.toNat 0
/-- What Check answers. -/
def checkB (b : PB) : Int :=
  if b.k.length ≠ 3 then 4
  else if b.k.any (outB 0 9) ∨ outB (-1) 2 b.h ∨ outB 0 4 b.t then 3
  else if b.h = -1 ∧ b.t ≠ 0 ∨ b.h ≠ -1 ∧ (b.t = 0 ∨ keyOf b b.h = 0) then 4 else 0
/-- What is wrong first: the book, or the hand. -/
def preB (b : PB) (who : Int) : Int := if checkB b ≠ 0 then checkB b else if inB who 0 2 then 0 else 5
def sameB (a b : PB) : Bool := decide (a.k = b.k ∧ a.h = b.h ∧ a.t = b.t)
def registerB (b : PB) (who key : Int) : PB × Int :=
  if preB b who ≠ 0 then (zeroB, preB b who)
  else if inB key 0 9 = false then (zeroB, 3)
  else if key = 0 ∧ b.h = who then (⟨b.k.set who.toNat key, -1, 0⟩, 0) else (⟨b.k.set who.toNat key, b.h, b.t⟩, 0)
def reserveB (b : PB) (who kind : Int) : PB × Int :=
  if preB b who ≠ 0 then (zeroB, preB b who)
  else if inB kind 1 4 = false then (zeroB, 3)
  else if keyOf b who = 0 ∨ b.h ≠ -1 ∧ ¬ (b.h = who ∧ b.t = kind) then (zeroB, 8) else (⟨b.k, who, kind⟩, 0)
def releaseB (b : PB) (who : Int) : PB × Int :=
  if preB b who ≠ 0 then (zeroB, preB b who)
  else if keyOf b who = 0 then (zeroB, 8)
  else if b.h = who then (⟨b.k, -1, 0⟩, 0) else (b, 0)
/-- The keys when all others with this key are struck. -/
def strike (l : List Int) (who key : Int) : List Int := l.mapIdx fun i x => if x = key ∧ (i : Int) ≠ who then 0 else x
def preemptB (b : PB) (who key : Int) : PB × Int :=
  if preB b who ≠ 0 then (zeroB, preB b who)
  else if inB key 1 9 = false then (zeroB, 3)
  else if keyOf b who = 0 then (zeroB, 8)
  else (⟨strike b.k who key, if b.h ≠ -1 ∧ b.h ≠ who ∧ keyOf b b.h = key then who else b.h, b.t⟩, 0)
def clearB (b : PB) (who : Int) : PB × Int :=
  if preB b who ≠ 0 then (zeroB, preB b who)
  else if keyOf b who = 0 then (zeroB, 8) else (freshB, 0)
def mightB (b : PB) (who : Int) (write : Bool) : Bool :=
  decide (b.h = -1 ∨ b.h = who ∨ (write = false ∧ (b.t = 1 ∨ b.t = 3)) ∨ ((b.t = 3 ∨ b.t = 4) ∧ keyOf b who ≠ 0))
def mayB (b : PB) (who : Int) (write : Bool) : Bool × Int :=
  if preB b who ≠ 0 then (false, preB b who) else (mightB b who write, 0)

/-- A book's value in a world. -/
def bookV (a : Option Addr) (n c : Nat) (b : PB) : Value := .agg #[.slice a n c, .int .i64 b.h, .int .i64 b.t]

theorem three {l : List Int} (h : l.length = 3) : ∃ x y z, l = [x, y, z] := by
  match l, h with
  | [x, y, z], _ => exact ⟨x, y, z, rfl⟩

/-- What is known of a right book. -/
theorem checkB_ok {b : PB} (h : checkB b = 0) : ∃ x y z, b.k = [x, y, z] ∧ (0 ≤ x ∧ x ≤ 9) ∧ (0 ≤ y ∧ y ≤ 9) ∧ (0 ≤ z ∧ z ≤ 9) ∧ (b.h = -1 ∧ b.t = 0 ∨ (b.h = 0 ∨ b.h = 1 ∨ b.h = 2) ∧ (1 ≤ b.t ∧ b.t ≤ 4) ∧ keyOf b b.h ≠ 0) := by
  unfold checkB at h
  by_cases h3 : b.k.length = 3
  · obtain ⟨x, y, z, e⟩ := three h3
    refine ⟨x, y, z, e, ?_⟩
    simp only [h3, ne_eq, not_true_eq_false, if_false] at h
    split at h
    · omega
    · rename_i h1
      split at h
      · omega
      · rename_i h2
        rw [e] at h1
        simp [outB] at h1
        omega
  · simp [h3] at h

theorem Ints.three {w : World} {a : Option Addr} {c : Nat} {x y z : Int} (h : Ints w a 3 c [x, y, z]) : ∃ g off, a = some ⟨g, off, none⟩ ∧ w.cell? ⟨g, off, none⟩ = some (.int .i64 x) ∧ w.cell? ⟨g, off + 1, none⟩ = some (.int .i64 y) ∧ w.cell? ⟨g, off + 2, none⟩ = some (.int .i64 z) := by
  rcases h.row with h0 | ⟨g, off, ha, _, hc⟩
  · omega
  · exact ⟨g, off, ha, hc 0 (by omega), hc 1 (by omega), hc 2 (by omega)⟩

theorem checkB_len {b : PB} (h : b.k.length ≠ 3) : checkB b = 4 := by simp [checkB, h]
theorem checkB_3 {b : PB} (h : b.k.length = 3) (h2 : b.k.any (outB 0 9) = true ∨ outB (-1) 2 b.h = true ∨ outB 0 4 b.t = true) : checkB b = 3 := by
  unfold checkB
  rw [if_neg (by simp [h]), if_pos h2]
theorem checkB_4 {b : PB} (h : b.k.length = 3) (h2 : ¬ (b.k.any (outB 0 9) = true ∨ outB (-1) 2 b.h = true ∨ outB 0 4 b.t = true)) (h3 : b.h = -1 ∧ b.t ≠ 0 ∨ b.h ≠ -1 ∧ (b.t = 0 ∨ keyOf b b.h = 0)) : checkB b = 4 := by
  unfold checkB
  rw [if_neg (by simp [h]), if_neg h2, if_pos h3]
theorem checkB_0 {b : PB} (h : b.k.length = 3) (h2 : ¬ (b.k.any (outB 0 9) = true ∨ outB (-1) 2 b.h = true ∨ outB 0 4 b.t = true)) (h3 : ¬ (b.h = -1 ∧ b.t ≠ 0 ∨ b.h ≠ -1 ∧ (b.t = 0 ∨ keyOf b b.h = 0))) : checkB b = 0 := by
  unfold checkB
  rw [if_neg (by simp [h]), if_neg h2, if_neg h3]

end Go.Proofs.Ytogpbihmofbfjaa
