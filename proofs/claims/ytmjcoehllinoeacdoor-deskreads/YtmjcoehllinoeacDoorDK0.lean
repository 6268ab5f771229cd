/- Desks and answers as plain data, what the document's calls make of them, and how they lie in a world; plain mathematics, no condition. -/
import Derived.Test.YtmjcoehllinoeacDoorD1
import Derived.Test.YtmjcoehllinoeacDoorK0
import Derived.Test.YtmjcoehllinoeacDoorLC0
import Derived.Test.YtmjcoehllinoeacDoorU2
namespace Go.Proofs.YtmjcoehllinoeacDoor
open Go.RowKit
set_option linter.unusedVariables false
set_option maxRecDepth 100000
set_option linter.unusedSimpArgs false

/-- A desk: zones, book. -/
structure PD where
  P : List PZ
  b : PB
/-- An answer: error, place, blocks. -/
structure PA where
  e : Int
  t : Int
  d : List Int

def zeroD : PD := ⟨[], zeroB⟩
def freshD : PD := ⟨[(0, []), (0, []), (0, []), (0, [])], freshB⟩
def zeroA : PA := ⟨0, 0, []⟩
def errA (e : Int) : PA := ⟨e, 0, []⟩
def checkD (d : PD) : Int := if checkZs d.P ≠ 0 then checkZs d.P else checkB d.b
def sameD (a b : PD) : Bool := decide (a.P = b.P) && sameB a.b b.b
def checkA (a : PA) : Int :=
  if outB 0 9 a.e ∨ outB 0 7 a.t then 3
  else if 8 < a.d.length then 2
  else if a.d.any (outB 0 999) then 3
  else if a.e ≠ 0 ∧ (a.t ≠ 0 ∨ a.d ≠ []) then 4 else 0
def sameA (a b : PA) : Bool := decide (a.e = b.e ∧ a.t = b.t ∧ a.d = b.d)
/-- What a command about the book makes of it. -/
def bookDo (b : PB) (who : Int) (c : PC) : PB × Int :=
  if c.k = 8 then registerB b who c.n else if c.k = 9 then reserveB b who c.n else if c.k = 10 then releaseB b who else if c.k = 11 then preemptB b who c.n else clearB b who
/-- What a command about a zone's state makes of the zones. -/
def zoneDo (P : List PZ) (c : PC) : List PZ × Int :=
  if c.k = 1 then holdP P c.z else if c.k = 2 then closeP P c.z else if c.k = 3 then finishP P c.z else resetP P c.z
def readD (P : List PZ) (c : PC) : PA :=
  if inB c.z 0 3 = false then errA 5 else ⟨readE (at' P c.z).1 (at' P c.z).2 c.at' c.n, 0, rL (at' P c.z).1 (at' P c.z).2 c.at' c.n⟩
def writeD (d : PD) (c : PC) : PD × PA :=
  if c.k = 6 ∧ inB c.z 0 3 = true ∧ c.at' ≠ (at' d.P c.z).2.length then (d, errA 6)
  else if (writeP d.P c.z c.d).2.2 ≠ 0 then (d, errA (writeP d.P c.z c.d).2.2)
  else (⟨(writeP d.P c.z c.d).1, d.b⟩, ⟨0, (writeP d.P c.z c.d).2.1, []⟩)
/-- What a right command of a hand does at a right desk. -/
def doneD (d : PD) (who : Int) (c : PC) : PD × PA :=
  if 8 ≤ c.k then (if (bookDo d.b who c).2 ≠ 0 then (d, errA (bookDo d.b who c).2) else (⟨d.P, (bookDo d.b who c).1⟩, zeroA))
  else if mightB d.b who (c.k != 7) = false then (d, errA 8)
  else if c.k = 7 then (d, readD d.P c)
  else if c.k = 5 ∨ c.k = 6 then writeD d c
  else if (zoneDo d.P c).2 ≠ 0 then (d, errA (zoneDo d.P c).2) else (⟨(zoneDo d.P c).1, d.b⟩, zeroA)
/-- What is wrong with the call itself. -/
def doE (d : PD) (who : Int) (c : PC) : Int := if checkD d ≠ 0 then checkD d else if inB who 0 2 = false then 5 else checkC c
def doD (d : PD) (who : Int) (c : PC) : PD × PA × Int :=
  if doE d who c ≠ 0 then (zeroD, zeroA, doE d who c) else ((doneD d who c).1, (doneD d who c).2, 0)

/-- A desk's value: zones' slice, keys' slice, and what they read as. -/
structure DV where
  za : Option Addr
  zn : Nat
  zc : Nat
  Z : List ZV
  ka : Option Addr
  kn : Nat
  kc : Nat
  b : PB
def DV.p (d : DV) : PD := ⟨d.Z.map ZV.p, d.b⟩
def DV.v (d : DV) : Value := .agg #[.slice d.za d.zn d.zc, .slice d.ka d.kn d.kc, .int .i64 d.b.h, .int .i64 d.b.t]
def DV.zero : DV := ⟨none, 0, 0, [], none, 0, 0, zeroB⟩
structure DV.ok (w : World) (d : DV) : Prop where
  z : Zones w d.za d.zn d.zc d.Z
  k : Ints w d.ka d.kn d.kc d.b.k
theorem DV.ok.below {w w' : World} {d : DV} (h : d.ok w) {B : Nat} (hb : Below B w w') (hB : w.heap.size ≤ B) : d.ok w' := ⟨h.z.below hb hB, h.k.below hb hB⟩
theorem DV.zero_ok (w : World) : DV.zero.ok w := ⟨zs_nil w, Ints.nilSlice w⟩
theorem DV.zero_p : DV.zero.p = zeroD := rfl

/-- An answer's value. -/
structure AV where
  e : Int
  t : Int
  a : Option Addr
  n : Nat
  c : Nat
  d : List Int
def AV.p (x : AV) : PA := ⟨x.e, x.t, x.d⟩
def AV.v (x : AV) : Value := .agg #[.int .i64 x.e, .int .i64 x.t, .slice x.a x.n x.c]
def AV.ok (w : World) (x : AV) : Prop := Ints w x.a x.n x.c x.d
def AV.err (e : Int) : AV := ⟨e, 0, none, 0, 0, []⟩
theorem AV.ok.below {w w' : World} {x : AV} (h : x.ok w) {B : Nat} (hb : Below B w w') (hB : w.heap.size ≤ B) : x.ok w' := Ints.below h hb hB
theorem AV.err_ok (w : World) (e : Int) : (AV.err e).ok w := Ints.nilSlice w
theorem AV.err_p (e : Int) : (AV.err e).p = errA e := rfl

theorem sameB_iff (a b : PB) : sameB a b = true ↔ a = b := by
  obtain ⟨k, h, t⟩ := a
  obtain ⟨k', h', t'⟩ := b
  simp [sameB]
theorem sameD_iff (a b : PD) : sameD a b = true ↔ a = b := by
  obtain ⟨P, b1⟩ := a
  obtain ⟨Q, b2⟩ := b
  simp [sameD, sameB_iff]
theorem sameD_self (a : PD) : sameD a a = true := (sameD_iff a a).2 rfl
theorem sameA_iff (a b : PA) : sameA a b = true ↔ a = b := by
  obtain ⟨e, t, d⟩ := a
  obtain ⟨e', t', d'⟩ := b
  simp [sameA]
theorem sameA_self (a : PA) : sameA a a = true := (sameA_iff a a).2 rfl

end Go.Proofs.YtmjcoehllinoeacDoor
