/- Commands as plain data, and what the document's calls make of them; plain mathematics, no condition. -/
import Derived.Test.YtmjcoehllinoeacDoorA2
import Derived.Test.YtmjcoehllinoeacDoorL0
namespace Go.Proofs.YtmjcoehllinoeacDoor
open Go.RowKit
set_option linter.unusedVariables false
set_option maxRecDepth 100000
set_option linter.unusedSimpArgs false

/-- A command: its fields in Go's order. -/
structure PC where
  k : Int
  z : Int
  n : Int
  at' : Int
  d : List Int

def cmdV (a : Option Addr) (n c : Nat) (b : PC) : Value := .agg #[.int .i64 b.k, .int .i64 b.z, .int .i64 b.n, .int .i64 b.at', .slice a n c]
def zeroC : PC := ⟨0, 0, 0, 0, []⟩
def hasZ (k : Int) : Bool := decide (1 ≤ k) && decide (k ≤ 7)
def hasA (k : Int) : Bool := k == 6 || k == 7
def hasN (k : Int) : Bool := k == 7 || k == 8 || k == 9 || k == 11
def hasD (k : Int) : Bool := k == 5 || k == 6
/-- What Check answers. -/
def checkC (b : PC) : Int :=
  if outB 1 12 b.k then 4
  else if (b.z ≠ 0 ∧ hasZ b.k = false) ∨ (b.at' ≠ 0 ∧ hasA b.k = false) ∨ (b.n ≠ 0 ∧ hasN b.k = false) then 4
  else if hasD b.k = decide (b.d = []) then 4
  else if 8 < b.d.length then 2
  else if outB 0 999 b.z ∨ outB 0 999 b.at' ∨ outB 0 999 b.n ∨ b.d.any (outB 0 999) then 3 else 0
def sameC (a b : PC) : Bool := decide (a.k = b.k ∧ a.z = b.z ∧ a.at' = b.at' ∧ a.n = b.n ∧ a.d = b.d)

end Go.Proofs.YtmjcoehllinoeacDoor
