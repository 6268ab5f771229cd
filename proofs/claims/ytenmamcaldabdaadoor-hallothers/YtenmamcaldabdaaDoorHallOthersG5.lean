/- What the yard's calls answer, plain; and the document's own OnZones gives just that; no condition but that the slices read as zones and data. -/
import Derived.Test.YtenmamcaldabdaaDoorHallOthersG4
import Derived.Test.YtenmamcaldabdaaDoorHallOthersG2
import Derived.Test.YtenmamcaldabdaaDoorHallOthersG3
import Derived.Deep.Strs
import Derived.Lib.SplitLaws
import Derived.Lib.ParseIntBTie
namespace Go.Proofs.YtenmamcaldabdaaDoor
open Go.RowKit
set_option linter.unusedVariables false
set_option maxRecDepth 100000
set_option linter.unusedSimpArgs false

/-- A zone as plain data: state, blocks. -/
abbrev PZ := Int × List Int

def fopenP (P : List PZ) : Option Nat := P.findIdx? fun z => z.1 == 1
def roomP (P : List PZ) (s : Int) : Option (List PZ) :=
  if isO s then some P
  else if s = 4 ∨ s = 0 ∧ 3 ≤ cntP isA P then none
  else if cntP isO P < 2 then some P
  else match fopenP P with
    | none => none
    | some i => some (P.modify i shutP)
/-- What is wrong first: the zones, or the number. -/
def pre (P : List PZ) (k : Int) : Int := if checkZs P ≠ 0 then checkZs P else if inB k 0 3 then 0 else 5
def at' (P : List PZ) (k : Int) : PZ := P.getD k.toNat (0, [])
def holdP (P : List PZ) (k : Int) : List PZ × Int :=
  if pre P k ≠ 0 then ([], pre P k) else match roomP P (at' P k).1 with
    | none => ([], 7)
    | some Q => (Q.set k.toNat (2, (at' P k).2), 0)
def closeP (P : List PZ) (k : Int) : List PZ × Int :=
  if pre P k ≠ 0 then ([], pre P k) else if isO (at' P k).1 then (P.set k.toNat (shutP (at' P k)), 0) else ([], 6)
def finishP (P : List PZ) (k : Int) : List PZ × Int :=
  if pre P k ≠ 0 then ([], pre P k) else (P.set k.toNat (4, (at' P k).2), 0)
def resetP (P : List PZ) (k : Int) : List PZ × Int :=
  if pre P k ≠ 0 then ([], pre P k) else (P.set k.toNat (0, []), 0)
def writeP (P : List PZ) (k : Int) (data : List Int) : List PZ × Int × Int :=
  if pre P k ≠ 0 then ([], 0, pre P k)
  else if writeE (at' P k).1 (at' P k).2 data ≠ 0 then ([], 0, writeE (at' P k).1 (at' P k).2 data)
  else match roomP P (at' P k).1 with
    | none => ([], 0, 7)
    | some Q => (Q.set k.toNat (wS (at' P k).1 (at' P k).2 data, wL (at' P k).1 (at' P k).2 data), ((at' P k).2.length : Int), 0)

theorem fopen_p (Z : List ZV) : fopen Z = fopenP (Z.map ZV.p) := by
  unfold fopen fopenP
  rw [List.findIdx?_map]
  rfl
theorem modify_p (Z : List ZV) (i : Nat) : (Z.modify i ZV.shut).map ZV.p = (Z.map ZV.p).modify i shutP := by
  apply List.ext_getElem?
  intro j
  simp only [List.getElem?_map, List.getElem?_modify]
  cases Z[j]? with
  | none => simp
  | some z =>
    by_cases e : i = j
    · simp [e, ZV.shut_p]
    · simp [e]
theorem room_p (Z : List ZV) (s : Int) : (roomZ Z s).map (List.map ZV.p) = roomP (Z.map ZV.p) s := by
  unfold roomZ roomP
  rw [← cnt_map, ← cnt_map, ← fopen_p]
  split
  · rfl
  · split
    · rfl
    · split
      · rfl
      · cases fopen Z with
        | none => rfl
        | some i => simp [modify_p]
theorem room_none {Z : List ZV} {s : Int} (h : roomZ Z s = none) : roomP (Z.map ZV.p) s = none := by rw [← room_p, h]; rfl
theorem room_some {Z Z' : List ZV} {s : Int} (h : roomZ Z s = some Z') : roomP (Z.map ZV.p) s = some (Z'.map ZV.p) := by rw [← room_p, h]; rfl

/-- What is known of zones and a number with which nothing is wrong. -/
theorem pre_ok {w : World} {a : Option Addr} {n c : Nat} {Z : List ZV} (h : Zones w a n c Z) {k : Int} (hp : pre (Z.map ZV.p) k = 0) :
    checkZs (Z.map ZV.p) = 0 ∧ ∃ (j b off : Nat) (z : ZV), k = j ∧ j < 4 ∧ n = 4 ∧ a = some ⟨b, off, none⟩ ∧ Z[j]? = some z ∧ at' (Z.map ZV.p) k = z.p ∧
      ∀ i z, Z[i]? = some z → w.cell? ⟨b, off + i * 2, none⟩ = some (.int .i64 z.s) ∧ w.cell? ⟨b, off + i * 2 + 1, none⟩ = some (.slice z.a z.n z.c) := by
  unfold pre at hp
  by_cases hc : checkZs (Z.map ZV.p) = 0
  · simp [hc] at hp
    obtain ⟨h4, b, off, ha, hr⟩ := zs_four h hc
    have hk : 0 ≤ k ∧ k ≤ 3 := by simp [inB] at hp; omega
    obtain ⟨j, rfl⟩ := Int.eq_ofNat_of_zero_le hk.1
    have hj : j < Z.length := by rw [h.len]; omega
    refine ⟨hc, j, b, off, Z[j], rfl, by omega, h4, ha, by simp, ?_, hr⟩
    simp [at', List.getD, hj]
  · simp [hc] at hp

theorem set_p (Z : List ZV) (j : Nat) (u : ZV) : (Z.set j u).map ZV.p = (Z.map ZV.p).set j u.p := by rw [List.map_set]

/-- Zones of the call's own, or nothing. -/
theorem zs_nil (w : World) : Zones w none 0 0 [] := ⟨rfl, Nat.le_refl _, by omega, fun _ => rfl, .inl rfl, by simp⟩

/-- Of a block that was there, and in which none of the zones' blocks lie, neither the new list nor its zones' blocks are. -/
def Avoid (w : World) (Z : List ZV) (a' : Option Addr) (Z' : List ZV) : Prop := ∀ R, R < w.heap.size → (∀ z ∈ Z, z.off R) → (∀ x, a' = some x → x.block ≠ R) ∧ ∀ z ∈ Z', z.off R
theorem Avoid.none (w : World) (Z : List ZV) : Avoid w Z none [] := fun R _ _ => ⟨fun x e => (by cases e), fun z hz => by cases hz⟩
theorem Avoid.mk {w : World} {Z Z' : List ZV} {g : Nat} (hg : w.heap.size ≤ g) (h : ∀ R, R < w.heap.size → (∀ z ∈ Z, z.off R) → ∀ z ∈ Z', z.off R) : Avoid w Z (some ⟨g, 0, Option.none⟩) Z' :=
  fun R hR ho => ⟨fun x e => by cases e; simp; omega, h R hR ho⟩
theorem off_set {Z : List ZV} {R : Nat} (h : ∀ z ∈ Z, z.off R) (j : Nat) {u : ZV} (hu : u.off R) : ∀ z ∈ Z.set j u, z.off R := fun z hz => by
  rcases List.mem_or_eq_of_mem_set hz with hz | rfl
  · exact h z hz
  · exact hu
theorem off_room {Z Z' : List ZV} {s : Int} (hr : roomZ Z s = some Z') {R : Nat} (h : ∀ z ∈ Z, z.off R) : ∀ z ∈ Z', z.off R := by
  unfold roomZ at hr
  split at hr
  · cases hr; exact h
  · split at hr
    · cases hr
    · split at hr
      · cases hr; exact h
      · cases hf : fopen Z with
        | none => rw [hf] at hr; cases hr
        | some i =>
          rw [hf] at hr
          cases hr
          obtain ⟨z, hz, _, _⟩ := fopen_some hf
          rw [modify_set hz]
          exact off_set h i (ZV.shut_off (h z (List.mem_of_getElem? hz)))

end Go.Proofs.YtenmamcaldabdaaDoor

/- The contract of the document's own answer ReadZone; no condition but that the zone reads as its state and list. -/
namespace Go.Proofs.YtenmamcaldabdaaDoor
open Go.RowKit
set_option linter.unusedVariables false
set_option maxRecDepth 100000
set_option linter.unusedSimpArgs false

theorem OwnI.alloc {w : World} {base : Nat} {v : Value} {l : List Int} (h : OwnI w base v l) (o : Obj) : OwnI (w.alloc o) base v l := World.ownsRow.alloc h o

theorem OwnI.own {w : World} {base : Nat} {v : Value} {l : List Int} (h : OwnI w base v l) : ∀ k, v.ownBlock = some k → base ≤ k := by
  intro k e
  obtain ⟨_, h⟩ := h
  rcases h with ⟨rfl, _⟩ | ⟨g, cap, cur, rfl, hb, _⟩
  · cases e
  · simp [Value.ownBlock] at e; omega

theorem OwnI.snoc {w : World} {base : Nat} {v : Value} {l : List Int} {x : Int} (h : w.ownsRow base 3 1 v (l.length + 1) (cellsOf l ++ [.int .i64 x])) : OwnI w base v (l ++ [x]) := by
  unfold OwnI
  rw [List.length_append, ← cellsOf_app]
  exact h

theorem OwnI.mono {w : World} {base base' : Nat} {v : Value} {l : List Int} (h : OwnI w base v l) (hb : base' ≤ base) : OwnI w base' v l := by
  obtain ⟨h1, h⟩ := h
  refine ⟨h1, ?_⟩
  rcases h with h | ⟨g, cap, cur, e, hg, r⟩
  · exact .inl h
  · exact .inr ⟨g, cap, cur, e, Nat.le_trans hb hg, r⟩

theorem take_drop_snoc (l : List Int) (i j : Nat) (h : i + j < l.length) : (l.drop i).take (j + 1) = (l.drop i).take j ++ [l.getD (i + j) 0] := by
  rw [take_succ_getD _ j (by simp; omega)]
  simp [List.getD]

end Go.Proofs.YtenmamcaldabdaaDoor

/- The contracts of zone.Read and of the document's ReadZone, errors and all in one; no condition but that the arguments read as data. -/
namespace Go.Proofs.YtenmamcaldabdaaDoor
open Go.RowKit
set_option linter.unusedVariables false
set_option maxRecDepth 100000
set_option linter.unusedSimpArgs false

/-- What Read answers: blocks. -/
def rL (s : Int) (l : List Int) (p k : Int) : List Int := if readE s l p k = 0 then (l.drop p.toNat).take k.toNat else []

theorem Read_u (s : Int) (a : Option Addr) (n c : Nat) (l : List Int) (p k : Int) (w : World) (h1 : Ints w a n c l) :
    Calls Tryd.prog 68 #[.agg #[.int .i64 s, .slice a n c], .int .i64 p, .int .i64 k] w fun e w' => (∃ a' n' c', e = .returned (.tuple #[.slice a' n' c', .int .i64 (readE s l p k)]) ∧ Ints w' a' n' c' (rL s l p k)) ∧ Below w.heap.size w w' := by
  by_cases h : readE s l p k = 0
  · refine (Read_ok s a n c l p k w h1 h).mono ?_
    rintro e w' ⟨⟨q, rfl, i, _⟩, hb⟩
    rw [show rL s l p k = (l.drop p.toNat).take k.toNat by simp [rL, h], h]
    exact ⟨⟨_, _, _, rfl, i⟩, hb⟩
  · refine (Read_bad s a n c l p k w h1 h).mono ?_
    rintro e w' ⟨rfl, hb⟩
    rw [show rL s l p k = [] by simp [rL, h]]
    exact ⟨⟨_, _, _, rfl, Ints.nilSlice _⟩, hb⟩

theorem Read_f (s : Int) (a : Option Addr) (n c : Nat) (l : List Int) (p k : Int) (w : World) (h1 : Ints w a n c l) :
    Calls Tryd.prog 68 #[.agg #[.int .i64 s, .slice a n c], .int .i64 p, .int .i64 k] w fun e w' => (∃ a' n' c', e = .returned (.tuple #[.slice a' n' c', .int .i64 (readE s l p k)]) ∧ Ints w' a' n' c' (rL s l p k) ∧ ∀ x, a' = some x → w.heap.size ≤ x.block) ∧ Below w.heap.size w w' := by
  by_cases h : readE s l p k = 0
  · refine (Read_ok s a n c l p k w h1 h).mono ?_
    rintro e w' ⟨⟨q, rfl, i, hq⟩, hb⟩
    rw [show rL s l p k = (l.drop p.toNat).take k.toNat by simp [rL, h], h]
    exact ⟨⟨_, _, _, rfl, i, fun x e => by cases e; exact hq⟩, hb⟩
  · refine (Read_bad s a n c l p k w h1 h).mono ?_
    rintro e w' ⟨rfl, hb⟩
    rw [show rL s l p k = [] by simp [rL, h]]
    exact ⟨⟨_, _, _, rfl, Ints.nilSlice _, fun x e => by cases e⟩, hb⟩
end Go.Proofs.YtenmamcaldabdaaDoor

/- Desks and answers as plain data, what the document's calls make of them, and how they lie in a world; plain mathematics, no condition. -/
namespace Go.Proofs.YtenmamcaldabdaaDoor
open Go.RowKit
set_option linter.unusedVariables false
set_option maxRecDepth 100000
set_option linter.unusedSimpArgs false

/-- A desk: zones, book. -/
structure PD where
  P : List PZ
  b : PB
/-- An answer: error, place, blocks. -/
structure PA where
  e : Int
  t : Int
  d : List Int

def zeroD : PD := ⟨[], zeroB⟩
def freshD : PD := ⟨[(0, []), (0, []), (0, []), (0, [])], freshB⟩
def zeroA : PA := ⟨0, 0, []⟩
def errA (e : Int) : PA := ⟨e, 0, []⟩
def checkD (d : PD) : Int := if checkZs d.P ≠ 0 then checkZs d.P else checkB d.b
def sameD (a b : PD) : Bool := decide (a.P = b.P) && sameB a.b b.b
def checkA (a : PA) : Int :=
  if outB 0 9 a.e ∨ outB 0 7 a.t then 3
  else if 8 < a.d.length then 2
  else if a.d.any (outB 0 999) then 3
  else if a.e ≠ 0 ∧ (a.t ≠ 0 ∨ a.d ≠ []) then 4 else 0
def sameA (a b : PA) : Bool := decide (a.e = b.e ∧ a.t = b.t ∧ a.d = b.d)
/-- What a command about the book makes of it. -/
def bookDo (b : PB) (who : Int) (c : PC) : PB × Int :=
  if c.k = 8 then registerB b who c.n else if c.k = 9 then reserveB b who c.n else if c.k = 10 then releaseB b who else if c.k = 11 then preemptB b who c.n else clearB b who
/-- What a command about a zone's state makes of the zones. -/
def zoneDo (P : List PZ) (c : PC) : List PZ × Int :=
  if c.k = 1 then holdP P c.z else if c.k = 2 then closeP P c.z else if c.k = 3 then finishP P c.z else resetP P c.z
def readD (P : List PZ) (c : PC) : PA :=
  if inB c.z 0 3 = false then errA 5 else ⟨readE (at' P c.z).1 (at' P c.z).2 c.at' c.n, 0, rL (at' P c.z).1 (at' P c.z).2 c.at' c.n⟩
def writeD (d : PD) (c : PC) : PD × PA :=
  if c.k = 6 ∧ inB c.z 0 3 = true ∧ c.at' ≠ (at' d.P c.z).2.length then (d, errA 6)
  else if (writeP d.P c.z c.d).2.2 ≠ 0 then (d, errA (writeP d.P c.z c.d).2.2)
  else (⟨(writeP d.P c.z c.d).1, d.b⟩, ⟨0, (writeP d.P c.z c.d).2.1, []⟩)
/-- What a right command of a hand does at a right desk. -/
def doneD (d : PD) (who : Int) (c : PC) : PD × PA :=
  if 8 ≤ c.k then (if (bookDo d.b who c).2 ≠ 0 then (d, errA (bookDo d.b who c).2) else (⟨d.P, (bookDo d.b who c).1⟩, zeroA))
  else if mightB d.b who (c.k != 7) = false then (d, errA 8)
  else if c.k = 7 then (d, readD d.P c)
  else if c.k = 5 ∨ c.k = 6 then writeD d c
  else if (zoneDo d.P c).2 ≠ 0 then (d, errA (zoneDo d.P c).2) else (⟨(zoneDo d.P c).1, d.b⟩, zeroA)
/-- What is wrong with the call itself. -/
def doE (d : PD) (who : Int) (c : PC) : Int := if checkD d ≠ 0 then checkD d else if inB who 0 2 = false then 5 else checkC c
def doD (d : PD) (who : Int) (c : PC) : PD × PA × Int :=
  if doE d who c ≠ 0 then (zeroD, zeroA, doE d who c) else ((doneD d who c).1, (doneD d who c).2, 0)

/-- A desk's value: zones' slice, keys' slice, and what they read as. -/
structure DV where
  za : Option Addr
  zn : Nat
  zc : Nat
  Z : List ZV
  ka : Option Addr
  kn : Nat
  kc : Nat
  b : PB
def DV.p (d : DV) : PD := ⟨d.Z.map ZV.p, d.b⟩
def DV.v (d : DV) : Value := .agg #[.slice d.za d.zn d.zc, .slice d.ka d.kn d.kc, .int .i64 d.b.h, .int .i64 d.b.t]
def DV.zero : DV := ⟨none, 0, 0, [], none, 0, 0, zeroB⟩
structure DV.ok (w : World) (d : DV) : Prop where
  z : Zones w d.za d.zn d.zc d.Z
  k : Ints w d.ka d.kn d.kc d.b.k
theorem DV.ok.below {w w' : World} {d : DV} (h : d.ok w) {B : Nat} (hb : Below B w w') (hB : w.heap.size ≤ B) : d.ok w' := ⟨h.z.below hb hB, h.k.below hb hB⟩
theorem DV.zero_ok (w : World) : DV.zero.ok w := ⟨zs_nil w, Ints.nilSlice w⟩
theorem DV.zero_p : DV.zero.p = zeroD := rfl

/-- An answer's value. -/
structure AV where
  e : Int
  t : Int
  a : Option Addr
  n : Nat
  c : Nat
  d : List Int
def AV.p (x : AV) : PA := ⟨x.e, x.t, x.d⟩
def AV.v (x : AV) : Value := .agg #[.int .i64 x.e, .int .i64 x.t, .slice x.a x.n x.c]
def AV.ok (w : World) (x : AV) : Prop := Ints w x.a x.n x.c x.d
def AV.err (e : Int) : AV := ⟨e, 0, none, 0, 0, []⟩
theorem AV.ok.below {w w' : World} {x : AV} (h : x.ok w) {B : Nat} (hb : Below B w w') (hB : w.heap.size ≤ B) : x.ok w' := Ints.below h hb hB
theorem AV.err_ok (w : World) (e : Int) : (AV.err e).ok w := Ints.nilSlice w
theorem AV.err_p (e : Int) : (AV.err e).p = errA e := rfl

theorem sameB_iff (a b : PB) : sameB a b = true ↔ a = b := by
  obtain ⟨k, h, t⟩ := a
  obtain ⟨k', h', t'⟩ := b
  simp [sameB]
theorem sameD_iff (a b : PD) : sameD a b = true ↔ a = b := by
  obtain ⟨P, b1⟩ := a
  obtain ⟨Q, b2⟩ := b
  simp [sameD, sameB_iff]
theorem sameD_self (a : PD) : sameD a a = true := (sameD_iff a a).2 rfl
theorem sameA_iff (a b : PA) : sameA a b = true ↔ a = b := by
  obtain ⟨e, t, d⟩ := a
  obtain ⟨e', t', d'⟩ := b
  simp [sameA]
theorem sameA_self (a : PA) : sameA a a = true := (sameA_iff a a).2 rfl

end Go.Proofs.YtenmamcaldabdaaDoor

/- How the arguments of the laws read: a desk, an answer; no condition. -/
namespace Go.Proofs.YtenmamcaldabdaaDoor
open Go.ChangeShapes Go.WideShapes Go.ChangeAt Go.RowKit Go.Joins Go.ChangeMaps
set_option linter.unusedVariables false
set_option maxRecDepth 100000
set_option linter.unusedSimpArgs false

theorem array4 {α : Type} {cs : Array α} (h : cs.size = 4) : ∃ c0 c1 c2 c3, cs = #[c0, c1, c2, c3] := by
  obtain ⟨l⟩ := cs
  match l, h with
  | [c0, c1, c2, c3], _ => exact ⟨c0, c1, c2, c3, rfl⟩

theorem cellsDesk : Tryd.prog.cellsOf 27 = 4 := by kernel_rfl

set_option maxRecDepth 100000 in
/-- The cells of a desk, read. -/
theorem desk_of {H : Type} {enc : TypeId × Value → H} {W : World} {fuel : Nat} {cs : List Value} {y : DataW H × List MemPlace}
    (h : DataW.trod enc Tryd.prog W 0 (fun _ => true) true fuel 27 cs = some y) : ∃ d : DV, cs = [.slice d.za d.zn d.zc, .slice d.ka d.kn d.kc, .int .i64 d.b.h, .int .i64 d.b.t] ∧ d.ok W := by
  obtain ⟨y0, y1, n, _, hl, h0, h1⟩ := trod_struct2 Tryd.underlying27 h
  rw [cellsDesk] at hl
  match cs, hl with
  | [v0, v1, v2, v3], _ =>
    have c1 : Tryd.prog.cellsOf 22 = 1 := by kernel_rfl
    have k0 : DataW.trod enc Tryd.prog W 0 (fun _ => true) true n 22 [v0] = some y0 := h0
    have k1 : DataW.trod enc Tryd.prog W 0 (fun _ => true) true n 25 [v1, v2, v3] = some y1 := h1
    obtain ⟨x0, x1, x2, m, _, _, g0, g1, g2⟩ := Go.Deep.trod_struct3 Tryd.underlying25 k1
    have q0 : DataW.trod enc Tryd.prog W 0 (fun _ => true) true m 23 [v1] = some x0 := g0
    have q1 : DataW.trod enc Tryd.prog W 0 (fun _ => true) true m 3 [v2] = some x1 := g1
    have q2 : DataW.trod enc Tryd.prog W 0 (fun _ => true) true m 3 [v3] = some x2 := g2
    obtain ⟨za, zn, zc, Z, rfl, hz⟩ := zones_of k0
    obtain ⟨ka, kn, kc, l, rfl, hk⟩ := ints_of q0
    obtain ⟨hh, e1, _, _⟩ := DataW.trod_int Tryd.underlying3 q1
    obtain ⟨tt, e2, _, _⟩ := DataW.trod_int Tryd.underlying3 q2
    simp at e1 e2
    subst e1 e2
    exact ⟨⟨za, zn, zc, Z, ka, kn, kc, ⟨l, hh, tt⟩⟩, rfl, hz, hk⟩

theorem desk_arg {H : Type} {enc : TypeId × Value → H} {W : World} {base : Nat} {v : Value} {d : DataW H} {p : List MemPlace} (hv : Value.okWide Tryd.prog W .any base 27 v)
    (h : DataW.Trod enc Tryd.prog W 0 (fun _ => true) true 27 v d p) : ∃ x : DV, v = x.v ∧ x.ok W := by
  obtain ⟨cs, rfl, hsz⟩ := okWide_struct Tryd.underlying27 hv
  obtain ⟨v0, v1, v2, v3, rfl⟩ := array4 (hsz.trans cellsDesk)
  obtain ⟨fuel, hf⟩ := h
  obtain ⟨x, e, hx⟩ := desk_of (by simpa [Value.cells] using hf)
  simp at e
  obtain ⟨rfl, rfl, rfl, rfl⟩ := e
  exact ⟨x, rfl, hx⟩

theorem cellsAnswer : Tryd.prog.cellsOf 38 = 3 := by kernel_rfl

set_option maxRecDepth 100000 in
theorem answer_arg {H : Type} {enc : TypeId × Value → H} {W : World} {base : Nat} {v : Value} {d : DataW H} {p : List MemPlace} (hv : Value.okWide Tryd.prog W .any base 38 v)
    (h : DataW.Trod enc Tryd.prog W 0 (fun _ => true) true 38 v d p) : ∃ x : AV, v = x.v ∧ x.ok W := by
  obtain ⟨v0, v1, v2, y0, y1, y2, m, rfl, _, _, h0, h1, h2⟩ := open_agg3 Tryd.underlying38 (by kernel_rfl) cellsAnswer hv h
  obtain ⟨e, e0, _, _⟩ := DataW.trod_int Tryd.underlying36 h0
  obtain ⟨t, e1, _, _⟩ := DataW.trod_int Tryd.underlying3 h1
  simp at e0 e1
  subst e0 e1
  obtain ⟨a, n, c, l, rfl, hi⟩ := ints_of h2
  exact ⟨⟨e, t, a, n, c, l⟩, rfl, hi⟩

end Go.Proofs.YtenmamcaldabdaaDoor

/- Records as plain data; plain mathematics, no condition. -/
namespace Go.Proofs.YtenmamcaldabdaaDoor
open Go.RowKit
set_option linter.unusedVariables false
set_option maxRecDepth 100000
set_option linter.unusedSimpArgs false

theorem sameC_iff (a b : PC) : sameC a b = true ↔ a = b := by
  obtain ⟨k1, z1, n1, t1, d1⟩ := a
  obtain ⟨k2, z2, n2, t2, d2⟩ := b
  unfold sameC
  rw [decide_eq_true_iff]
  constructor
  · rintro ⟨rfl, rfl, rfl, rfl, rfl⟩
    rfl
  · intro h
    cases h
    exact ⟨rfl, rfl, rfl, rfl, rfl⟩

/-- A record: hand, number, command. -/
structure PR where
  w : Int
  s : Int
  c : PC

def zeroR : PR := ⟨0, 0, zeroC⟩
def checkR (r : PR) : Int := if inB r.w 0 2 = false ∨ inB r.s 1 40 = false then 3 else checkC r.c
def sameR (a b : PR) : Bool := decide (a.w = b.w ∧ a.s = b.s) && sameC a.c b.c
theorem checkR_facts {r : PR} (h : checkR r = 0) : (0 ≤ r.w ∧ r.w ≤ 2) ∧ (1 ≤ r.s ∧ r.s ≤ 40) ∧ checkC r.c = 0 := by
  unfold checkR at h
  split at h
  · omega
  · rename_i q
    simp only [not_or, Bool.not_eq_false] at q
    refine ⟨?_, ?_, h⟩
    · have := q.1; simp [inB] at this; omega
    · have := q.2; simp [inB] at this; omega

theorem sameR_iff (a b : PR) : sameR a b = true ↔ a = b := by
  obtain ⟨w, s, c⟩ := a
  obtain ⟨w', s', c'⟩ := b
  simp [sameR, sameC_iff, and_assoc]

end Go.Proofs.YtenmamcaldabdaaDoor

/- What the table of kinds holds in a world, and that it stays so; plain mathematics, no condition. -/
namespace Go.Proofs.YtenmamcaldabdaaDoor
open Go.RowKit
set_option linter.unusedVariables false
set_option maxRecDepth 100000
set_option linter.unusedSimpArgs false

/-- The kinds' words. -/
def word (k : Nat) : ByteArray := match k with
  | 1 => ⟨#[111, 112, 101, 110]⟩
  | 2 => ⟨#[99, 108, 111, 115, 101]⟩
  | 3 => ⟨#[102, 105, 110, 105, 115, 104]⟩
  | 4 => ⟨#[114, 101, 115, 101, 116]⟩
  | 5 => ⟨#[97, 112, 112, 101, 110, 100]⟩
  | 6 => ⟨#[119, 114, 105, 116, 101]⟩
  | 7 => ⟨#[114, 101, 97, 100]⟩
  | 8 => ⟨#[114, 101, 103, 105, 115, 116, 101, 114]⟩
  | 9 => ⟨#[114, 101, 115, 101, 114, 118, 101]⟩
  | 10 => ⟨#[114, 101, 108, 101, 97, 115, 101]⟩
  | 11 => ⟨#[112, 114, 101, 101, 109, 112, 116]⟩
  | 12 => ⟨#[99, 108, 101, 97, 114]⟩
  | _ => ⟨#[]⟩

/-- The table of kinds, cell by cell. -/
structure Shapes (w : World) : Prop where
  wd : ∀ k : Nat, k ≤ 12 → w.cell? ⟨0, k * 5, none⟩ = some (.string (word k))
  hz : ∀ k : Nat, k ≤ 12 → w.cell? ⟨0, k * 5 + 1, none⟩ = some (.bool (hasZ k))
  ha : ∀ k : Nat, k ≤ 12 → w.cell? ⟨0, k * 5 + 2, none⟩ = some (.bool (hasA k))
  hn : ∀ k : Nat, k ≤ 12 → w.cell? ⟨0, k * 5 + 3, none⟩ = some (.bool (hasN k))
  hd : ∀ k : Nat, k ≤ 12 → w.cell? ⟨0, k * 5 + 4, none⟩ = some (.bool (hasD k))

theorem Shapes.below {w w' : World} (h : Shapes w) (hb : Below w.heap.size w w') : Shapes w' :=
  ⟨fun k hk => keepc hb (h.wd k hk), fun k hk => keepc hb (h.hz k hk), fun k hk => keepc hb (h.ha k hk), fun k hk => keepc hb (h.hn k hk), fun k hk => keepc hb (h.hd k hk)⟩

end Go.Proofs.YtenmamcaldabdaaDoor

/- Texts parted at blanks, as the library parts them; plain mathematics, no condition. -/
namespace Go.Proofs.YtenmamcaldabdaaDoor
open Go.Lib
set_option linter.unusedVariables false
set_option maxRecDepth 100000
set_option linter.unusedSimpArgs false

theorem split_toks : ∀ s : List UInt8, splitK [32] 0 (count s [32]) s = toks s
  | [] => by rw [count_one]; rfl
  | b :: l => by
    have ih := split_toks l
    by_cases hb : b = 32
    · subst hb
      rw [count_cons_eq, Nat.add_comm 1]
      have hix : index (32 :: l) [32] = 0 := by rw [index]; simp [List.isPrefixOf]
      simp [splitK, hix, toks, ih]
    · rw [count_cons_ne b 32 l hb]
      have hp : ([32] : List UInt8).isPrefixOf (b :: l) = false := by simp [List.isPrefixOf, Ne.symm hb]
      have hix : index (b :: l) [32] = if index l [32] == -1 then -1 else index l [32] + 1 := by rw [index, hp]; simp
      have hge := index_ge l [32]
      cases hc : count l [32] with
      | zero =>
        rw [hc] at ih
        simp only [splitK] at ih ⊢
        simp [toks, hb, ← ih]
      | succ k =>
        rw [hc] at ih
        have hm : index l [32] ≠ -1 := by
          intro e
          rw [count_miss e] at hc
          cases hc
        obtain ⟨j, hj⟩ : ∃ j : Nat, index l [32] = j := ⟨(index l [32]).toNat, by omega⟩
        have hix' : index (b :: l) [32] = ((j + 1 : Nat) : Int) := by rw [hix, if_neg (fun e => hm (beq_iff_eq.1 e)), hj]; omega
        have n1 : ¬ ((j : Int) = -1) := by omega
        have n2 : ¬ (((j + 1 : Nat) : Int) = -1) := by omega
        simp only [splitK, hj, beq_iff_eq, n1, if_false] at ih
        simp only [splitK, hix', beq_iff_eq, n2, if_false, toks, hb, ← ih]
        simp

theorem splitB_toks (s : ByteArray) : (splitB ⟨#[32]⟩ 0 (countB s ⟨#[32]⟩) s).map (·.data.toList) = toks s.data.toList := by
  rw [splitB_data, ← split_toks]
theorem splitB_len (s : ByteArray) : (splitB ⟨#[32]⟩ 0 (countB s ⟨#[32]⟩) s).length = countB s ⟨#[32]⟩ + 1 := splitB_all _ (by decide) 0 _ s rfl

theorem num_eq (t : List UInt8) : num t = match atoiAll t with
  | .ok v => if itoa v = t then some v else none
  | .syntax => none
  | .range => none := by
  have h := parseIntB_64 t
  unfold num
  revert h
  generalize parseIntB 64 t = a
  generalize atoiAll t = b
  rintro rfl
  cases a <;> rfl

/-- The words as numbers, if all of them are. -/
def nums : List (List UInt8) → Option (List Int)
  | [] => some []
  | t :: ts => match num t, nums ts with
    | some v, some l => some (v :: l)
    | _, _ => none

theorem nums_len : ∀ {ts : List (List UInt8)} {l : List Int}, nums ts = some l → l.length = ts.length
  | [], l, h => by simp [nums] at h; subst h; rfl
  | t :: ts, l, h => by
    unfold nums at h
    split at h
    · rename_i v m hv hm
      cases h
      simp [nums_len hm]
    · cases h
theorem nums_itoa : ∀ {ts : List (List UInt8)} {l : List Int}, nums ts = some l → ts = l.map itoa
  | [], l, h => by simp [nums] at h; subst h; rfl
  | t :: ts, l, h => by
    unfold nums at h
    split at h
    · rename_i v m hv hm
      cases h
      simp [← nums_itoa hm, num_some hv]
    · cases h
theorem nums_of : ∀ (l : List Int), (∀ v ∈ l, -9223372036854775808 ≤ v ∧ v ≤ 9223372036854775807) → nums (l.map itoa) = some l
  | [], _ => rfl
  | v :: l, h => by
    have h1 := h v (by simp)
    simp [nums, num_itoa v h1.1 h1.2, nums_of l (fun x hx => h x (by simp [hx]))]
theorem num_wf {t : List UInt8} {v : Int} (h : num t = some v) : -9223372036854775808 ≤ v ∧ v ≤ 9223372036854775807 := by
  unfold num at h
  split at h
  · rename_i u hu
    split at h
    · cases h
      have := parseIntB_bounds hu
      simp at this
      omega
    · cases h
  · cases h
  · cases h
theorem nums_wf : ∀ {ts : List (List UInt8)} {l : List Int}, nums ts = some l → ∀ x ∈ l, -9223372036854775808 ≤ x ∧ x ≤ 9223372036854775807
  | [], l, h => by simp [nums] at h; subst h; simp
  | t :: ts, l, h => by
    unfold nums at h
    split at h
    · rename_i v m hv hm
      cases h
      intro x hx
      rcases List.mem_cons.1 hx with rfl | hx
      · exact num_wf hv
      · exact nums_wf hm x hx
    · cases h
theorem nums_append : ∀ (a b : List (List UInt8)), nums (a ++ b) = match nums a, nums b with
    | some l, some m => some (l ++ m)
    | _, _ => none
  | [], b => by
    simp only [List.nil_append, nums]
    cases nums b <;> rfl
  | t :: a, b => by
    simp only [List.cons_append, nums, nums_append a b]
    cases num t <;> cases nums a <;> cases nums b <;> rfl
/-- One more word. -/
theorem nums_snoc {a : List (List UInt8)} {l : List Int} (h : nums a = some l) (t : List UInt8) {v : Int} (hv : num t = some v) : nums (a ++ [t]) = some (l ++ [v]) := by
  rw [nums_append, h]
  simp [nums, hv]
theorem nums_bad {a b : List (List UInt8)} {t : List UInt8} (hv : num t = none) : nums (a ++ t :: b) = none := by
  rw [nums_append]
  simp only [nums, hv]
  cases nums a <;> rfl

theorem glue_flat : ∀ (t : List UInt8) (ts : List (List UInt8)), glue (t :: ts) = t ++ ts.flatMap (fun u => 32 :: u)
  | t, [] => by simp [glue]
  | t, u :: r => by rw [glue, glue_flat u r]; simp

end Go.Proofs.YtenmamcaldabdaaDoor
