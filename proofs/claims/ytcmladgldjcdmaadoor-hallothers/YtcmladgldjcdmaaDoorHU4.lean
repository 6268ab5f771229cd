/- What the yard's calls answer, plain; and the document's own OnZones gives just that; no condition but that the slices read as zones and data. -/
import Derived.Test.YtcmladgldjcdmaaDoorHU3
import Derived.Test.YtcmladgldjcdmaaDoorHU2
import Derived.Deep.Strs
import Derived.Lib.SplitLaws
import Derived.Lib.ParseIntBTie
import Derived.Deep.Light
import Derived.Deep.RegionHeld3
namespace Go.Proofs.YtcmladgldjcdmaaDoor
open Go.RowKit
set_option linter.unusedVariables false
set_option maxRecDepth 100000
set_option linter.unusedSimpArgs false

/-- A zone as plain data: state, blocks. -/
abbrev PZ := Int × List Int

def fopenP (P : List PZ) : Option Nat := P.findIdx? fun z => z.1 == 1
def roomP (P : List PZ) (s : Int) : Option (List PZ) :=
  if isO s then some P
  else if s = 4 ∨ s = 0 ∧ 3 ≤ cntP isA P then none
  else if cntP isO P < 2 then some P
  else match fopenP P with
    | none => none
    | some i => some (P.modify i shutP)
/-- What is wrong first: the zones, or the number. -/
def pre (P : List PZ) (k : Int) : Int := if checkZs P ≠ 0 then checkZs P else if inB k 0 3 then 0 else 5
def at' (P : List PZ) (k : Int) : PZ := P.getD k.toNat (0, [])
def holdP (P : List PZ) (k : Int) : List PZ × Int :=
  if pre P k ≠ 0 then ([], pre P k) else match roomP P (at' P k).1 with
    | none => ([], 7)
    | some Q => (Q.set k.toNat (2, (at' P k).2), 0)
def closeP (P : List PZ) (k : Int) : List PZ × Int :=
  if pre P k ≠ 0 then ([], pre P k) else if isO (at' P k).1 then (P.set k.toNat (shutP (at' P k)), 0) else ([], 6)
def finishP (P : List PZ) (k : Int) : List PZ × Int :=
  if pre P k ≠ 0 then ([], pre P k) else (P.set k.toNat (4, (at' P k).2), 0)
def resetP (P : List PZ) (k : Int) : List PZ × Int :=
  if pre P k ≠ 0 then ([], pre P k) else (P.set k.toNat (0, []), 0)
def writeP (P : List PZ) (k : Int) (data : List Int) : List PZ × Int × Int :=
  if pre P k ≠ 0 then ([], 0, pre P k)
  else if writeE (at' P k).1 (at' P k).2 data ≠ 0 then ([], 0, writeE (at' P k).1 (at' P k).2 data)
  else match roomP P (at' P k).1 with
    | none => ([], 0, 7)
    | some Q => (Q.set k.toNat (wS (at' P k).1 (at' P k).2 data, wL (at' P k).1 (at' P k).2 data), ((at' P k).2.length : Int), 0)

theorem fopen_p (Z : List ZV) : fopen Z = fopenP (Z.map ZV.p) := by
  unfold fopen fopenP
  rw [List.findIdx?_map]
  rfl
theorem modify_p (Z : List ZV) (i : Nat) : (Z.modify i ZV.shut).map ZV.p = (Z.map ZV.p).modify i shutP := by
  apply List.ext_getElem?
  intro j
  simp only [List.getElem?_map, List.getElem?_modify]
  cases Z[j]? with
  | none => simp
  | some z =>
    by_cases e : i = j
    · simp [e, ZV.shut_p]
    · simp [e]
theorem room_p (Z : List ZV) (s : Int) : (roomZ Z s).map (List.map ZV.p) = roomP (Z.map ZV.p) s := by
  unfold roomZ roomP
  rw [← cnt_map, ← cnt_map, ← fopen_p]
  split
  · rfl
  · split
    · rfl
    · split
      · rfl
      · cases fopen Z with
        | none => rfl
        | some i => simp [modify_p]
theorem room_none {Z : List ZV} {s : Int} (h : roomZ Z s = none) : roomP (Z.map ZV.p) s = none := by rw [← room_p, h]; rfl
theorem room_some {Z Z' : List ZV} {s : Int} (h : roomZ Z s = some Z') : roomP (Z.map ZV.p) s = some (Z'.map ZV.p) := by rw [← room_p, h]; rfl

/-- What is known of zones and a number with which nothing is wrong. -/
theorem pre_ok {w : World} {a : Option Addr} {n c : Nat} {Z : List ZV} (h : Zones w a n c Z) {k : Int} (hp : pre (Z.map ZV.p) k = 0) :
    checkZs (Z.map ZV.p) = 0 ∧ ∃ (j b off : Nat) (z : ZV), k = j ∧ j < 4 ∧ n = 4 ∧ a = some ⟨b, off, none⟩ ∧ Z[j]? = some z ∧ at' (Z.map ZV.p) k = z.p ∧
      ∀ i z, Z[i]? = some z → w.cell? ⟨b, off + i * 2, none⟩ = some (.int .i64 z.s) ∧ w.cell? ⟨b, off + i * 2 + 1, none⟩ = some (.slice z.a z.n z.c) := by
  unfold pre at hp
  by_cases hc : checkZs (Z.map ZV.p) = 0
  · simp [hc] at hp
    obtain ⟨h4, b, off, ha, hr⟩ := zs_four h hc
    have hk : 0 ≤ k ∧ k ≤ 3 := by simp [inB] at hp; omega
    obtain ⟨j, rfl⟩ := Int.eq_ofNat_of_zero_le hk.1
    have hj : j < Z.length := by rw [h.len]; omega
    refine ⟨hc, j, b, off, Z[j], rfl, by omega, h4, ha, by simp, ?_, hr⟩
    simp [at', List.getD, hj]
  · simp [hc] at hp

theorem set_p (Z : List ZV) (j : Nat) (u : ZV) : (Z.set j u).map ZV.p = (Z.map ZV.p).set j u.p := by rw [List.map_set]

/-- Zones of the call's own, or nothing. -/
theorem zs_nil (w : World) : Zones w none 0 0 [] := ⟨rfl, Nat.le_refl _, by omega, fun _ => rfl, .inl rfl, by simp⟩

/-- Of a block that was there, and in which none of the zones' blocks lie, neither the new list nor its zones' blocks are. -/
def Avoid (w : World) (Z : List ZV) (a' : Option Addr) (Z' : List ZV) : Prop := ∀ R, R < w.heap.size → (∀ z ∈ Z, z.off R) → (∀ x, a' = some x → x.block ≠ R) ∧ ∀ z ∈ Z', z.off R
theorem Avoid.none (w : World) (Z : List ZV) : Avoid w Z none [] := fun R _ _ => ⟨fun x e => (by cases e), fun z hz => by cases hz⟩
theorem Avoid.mk {w : World} {Z Z' : List ZV} {g : Nat} (hg : w.heap.size ≤ g) (h : ∀ R, R < w.heap.size → (∀ z ∈ Z, z.off R) → ∀ z ∈ Z', z.off R) : Avoid w Z (some ⟨g, 0, Option.none⟩) Z' :=
  fun R hR ho => ⟨fun x e => by cases e; simp; omega, h R hR ho⟩
end Go.Proofs.YtcmladgldjcdmaaDoor

/- The contract of the document's own answer ReadZone; no condition but that the zone reads as its state and list. -/
namespace Go.Proofs.YtcmladgldjcdmaaDoor
open Go.RowKit
set_option linter.unusedVariables false
set_option maxRecDepth 100000
set_option linter.unusedSimpArgs false

theorem OwnI.alloc {w : World} {base : Nat} {v : Value} {l : List Int} (h : OwnI w base v l) (o : Obj) : OwnI (w.alloc o) base v l := World.ownsRow.alloc h o

theorem OwnI.own {w : World} {base : Nat} {v : Value} {l : List Int} (h : OwnI w base v l) : ∀ k, v.ownBlock = some k → base ≤ k := by
  intro k e
  obtain ⟨_, h⟩ := h
  rcases h with ⟨rfl, _⟩ | ⟨g, cap, cur, rfl, hb, _⟩
  · cases e
  · simp [Value.ownBlock] at e; omega

theorem OwnI.mono {w : World} {base base' : Nat} {v : Value} {l : List Int} (h : OwnI w base v l) (hb : base' ≤ base) : OwnI w base' v l := by
  obtain ⟨h1, h⟩ := h
  refine ⟨h1, ?_⟩
  rcases h with h | ⟨g, cap, cur, e, hg, r⟩
  · exact .inl h
  · exact .inr ⟨g, cap, cur, e, Nat.le_trans hb hg, r⟩

end Go.Proofs.YtcmladgldjcdmaaDoor

/- The contracts of zone.Read and of the document's ReadZone, errors and all in one; no condition but that the arguments read as data. -/
namespace Go.Proofs.YtcmladgldjcdmaaDoor
open Go.RowKit
set_option linter.unusedVariables false
set_option maxRecDepth 100000
set_option linter.unusedSimpArgs false

/-- What Read answers: blocks. -/
def rL (s : Int) (l : List Int) (p k : Int) : List Int := if readE s l p k = 0 then (l.drop p.toNat).take k.toNat else []

theorem Read_f (s : Int) (a : Option Addr) (n c : Nat) (l : List Int) (p k : Int) (w : World) (h1 : Ints w a n c l) :
    Calls Tryd.prog 73 #[.agg #[.int .i64 s, .slice a n c], .int .i64 p, .int .i64 k] w fun e w' => (∃ a' n' c', e = .returned (.tuple #[.slice a' n' c', .int .i64 (readE s l p k)]) ∧ Ints w' a' n' c' (rL s l p k) ∧ ∀ x, a' = some x → w.heap.size ≤ x.block) ∧ Below w.heap.size w w' := by
  by_cases h : readE s l p k = 0
  · refine (Read_ok s a n c l p k w h1 h).mono ?_
    rintro e w' ⟨⟨q, rfl, i, hq⟩, hb⟩
    rw [show rL s l p k = (l.drop p.toNat).take k.toNat by simp [rL, h], h]
    exact ⟨⟨_, _, _, rfl, i, fun x e => by cases e; exact hq⟩, hb⟩
  · refine (Read_bad s a n c l p k w h1 h).mono ?_
    rintro e w' ⟨rfl, hb⟩
    rw [show rL s l p k = [] by simp [rL, h]]
    exact ⟨⟨_, _, _, rfl, Ints.nilSlice _, fun x e => by cases e⟩, hb⟩
end Go.Proofs.YtcmladgldjcdmaaDoor

/- Desks and answers as plain data, what the document's calls make of them, and how they lie in a world; plain mathematics, no condition. -/
namespace Go.Proofs.YtcmladgldjcdmaaDoor
open Go.RowKit
set_option linter.unusedVariables false
set_option maxRecDepth 100000
set_option linter.unusedSimpArgs false

/-- A desk: zones, book. -/
structure PD where
  P : List PZ
  b : PB
/-- An answer: error, place, blocks. -/
structure PA where
  e : Int
  t : Int
  d : List Int

def zeroD : PD := ⟨[], zeroB⟩
def freshD : PD := ⟨[(0, []), (0, []), (0, []), (0, [])], freshB⟩
def zeroA : PA := ⟨0, 0, []⟩
def errA (e : Int) : PA := ⟨e, 0, []⟩
def checkD (d : PD) : Int := if checkZs d.P ≠ 0 then checkZs d.P else checkB d.b
def sameD (a b : PD) : Bool := decide (a.P = b.P) && sameB a.b b.b
def checkA (a : PA) : Int :=
  if outB 0 9 a.e ∨ outB 0 7 a.t then 3
  else if 8 < a.d.length then 2
  else if a.d.any (outB 0 999) then 3
  else if a.e ≠ 0 ∧ (a.t ≠ 0 ∨ a.d ≠ []) then 4 else 0
def sameA (a b : PA) : Bool := decide (a.e = b.e ∧ a.t = b.t ∧ a.d = b.d)
/-- What a command about the book makes of it. -/
def bookDo (b : PB) (who : Int) (c : PC) : PB × Int :=
  if c.k = 8 then registerB b who c.n else if c.k = 9 then reserveB b who c.n else if c.k = 10 then releaseB b who else if c.k = 11 then preemptB b who c.n else clearB b who
/-- What a command about a zone's state makes of the zones. -/
def zoneDo (P : List PZ) (c : PC) : List PZ × Int :=
  if c.k = 1 then holdP P c.z else if c.k = 2 then closeP P c.z else if c.k = 3 then finishP P c.z else resetP P c.z
def readD (P : List PZ) (c : PC) : PA :=
  if inB c.z 0 3 = false then errA 5 else ⟨readE (at' P c.z).1 (at' P c.z).2 c.at' c.n, 0, rL (at' P c.z).1 (at' P c.z).2 c.at' c.n⟩
def writeD (d : PD) (c : PC) : PD × PA :=
  if c.k = 6 ∧ inB c.z 0 3 = true ∧ c.at' ≠ (at' d.P c.z).2.length then (d, errA 6)
  else if (writeP d.P c.z c.d).2.2 ≠ 0 then (d, errA (writeP d.P c.z c.d).2.2)
  else (⟨(writeP d.P c.z c.d).1, d.b⟩, ⟨0, (writeP d.P c.z c.d).2.1, []⟩)
/-- What a right command of a hand does at a right desk. -/
def doneD (d : PD) (who : Int) (c : PC) : PD × PA :=
  if 8 ≤ c.k then (if (bookDo d.b who c).2 ≠ 0 then (d, errA (bookDo d.b who c).2) else (⟨d.P, (bookDo d.b who c).1⟩, zeroA))
  else if mightB d.b who (c.k != 7) = false then (d, errA 8)
  else if c.k = 7 then (d, readD d.P c)
  else if c.k = 5 ∨ c.k = 6 then writeD d c
  else if (zoneDo d.P c).2 ≠ 0 then (d, errA (zoneDo d.P c).2) else (⟨(zoneDo d.P c).1, d.b⟩, zeroA)
/-- What is wrong with the call itself. -/
def doE (d : PD) (who : Int) (c : PC) : Int := if checkD d ≠ 0 then checkD d else if inB who 0 2 = false then 5 else checkC c
def doD (d : PD) (who : Int) (c : PC) : PD × PA × Int :=
  if doE d who c ≠ 0 then (zeroD, zeroA, doE d who c) else ((doneD d who c).1, (doneD d who c).2, 0)

/-- A desk's value: zones' slice, keys' slice, and what they read as. -/
structure DV where
  za : Option Addr
  zn : Nat
  zc : Nat
  Z : List ZV
  ka : Option Addr
  kn : Nat
  kc : Nat
  b : PB
def DV.p (d : DV) : PD := ⟨d.Z.map ZV.p, d.b⟩
def DV.v (d : DV) : Value := .agg #[.slice d.za d.zn d.zc, .slice d.ka d.kn d.kc, .int .i64 d.b.h, .int .i64 d.b.t]
def DV.zero : DV := ⟨none, 0, 0, [], none, 0, 0, zeroB⟩
structure DV.ok (w : World) (d : DV) : Prop where
  z : Zones w d.za d.zn d.zc d.Z
  k : Ints w d.ka d.kn d.kc d.b.k
theorem DV.ok.below {w w' : World} {d : DV} (h : d.ok w) {B : Nat} (hb : Below B w w') (hB : w.heap.size ≤ B) : d.ok w' := ⟨h.z.below hb hB, h.k.below hb hB⟩
theorem DV.zero_ok (w : World) : DV.zero.ok w := ⟨zs_nil w, Ints.nilSlice w⟩
/-- An answer's value. -/
structure AV where
  e : Int
  t : Int
  a : Option Addr
  n : Nat
  c : Nat
  d : List Int
def AV.p (x : AV) : PA := ⟨x.e, x.t, x.d⟩
def AV.v (x : AV) : Value := .agg #[.int .i64 x.e, .int .i64 x.t, .slice x.a x.n x.c]
def AV.ok (w : World) (x : AV) : Prop := Ints w x.a x.n x.c x.d
def AV.err (e : Int) : AV := ⟨e, 0, none, 0, 0, []⟩
theorem AV.ok.below {w w' : World} {x : AV} (h : x.ok w) {B : Nat} (hb : Below B w w') (hB : w.heap.size ≤ B) : x.ok w' := Ints.below h hb hB
theorem AV.err_ok (w : World) (e : Int) : (AV.err e).ok w := Ints.nilSlice w
theorem AV.err_p (e : Int) : (AV.err e).p = errA e := rfl

theorem sameB_iff (a b : PB) : sameB a b = true ↔ a = b := by
  obtain ⟨k, h, t⟩ := a
  obtain ⟨k', h', t'⟩ := b
  simp [sameB]
theorem sameD_iff (a b : PD) : sameD a b = true ↔ a = b := by
  obtain ⟨P, b1⟩ := a
  obtain ⟨Q, b2⟩ := b
  simp [sameD, sameB_iff]
theorem sameA_iff (a b : PA) : sameA a b = true ↔ a = b := by
  obtain ⟨e, t, d⟩ := a
  obtain ⟨e', t', d'⟩ := b
  simp [sameA]
end Go.Proofs.YtcmladgldjcdmaaDoor

/- How the arguments of the laws read: a desk, an answer; no condition. -/
namespace Go.Proofs.YtcmladgldjcdmaaDoor
open Go.ChangeShapes Go.WideShapes Go.ChangeAt Go.RowKit Go.Joins Go.ChangeMaps
set_option linter.unusedVariables false
set_option maxRecDepth 100000
set_option linter.unusedSimpArgs false

theorem cellsDesk : Tryd.prog.cellsOf 27 = 4 := by kernel_rfl

set_option maxRecDepth 100000 in
/-- The cells of a desk, read. -/
theorem desk_of {H : Type} {enc : TypeId × Value → H} {W : World} {fuel : Nat} {cs : List Value} {y : DataW H × List MemPlace}
    (h : DataW.trod enc Tryd.prog W 0 (fun _ => true) true fuel 27 cs = some y) : ∃ d : DV, cs = [.slice d.za d.zn d.zc, .slice d.ka d.kn d.kc, .int .i64 d.b.h, .int .i64 d.b.t] ∧ d.ok W := by
  obtain ⟨y0, y1, n, _, hl, h0, h1⟩ := trod_struct2 Tryd.underlying27 h
  rw [cellsDesk] at hl
  match cs, hl with
  | [v0, v1, v2, v3], _ =>
    have c1 : Tryd.prog.cellsOf 22 = 1 := by kernel_rfl
    have k0 : DataW.trod enc Tryd.prog W 0 (fun _ => true) true n 22 [v0] = some y0 := h0
    have k1 : DataW.trod enc Tryd.prog W 0 (fun _ => true) true n 25 [v1, v2, v3] = some y1 := h1
    obtain ⟨x0, x1, x2, m, _, _, g0, g1, g2⟩ := Go.Deep.trod_struct3 Tryd.underlying25 k1
    have q0 : DataW.trod enc Tryd.prog W 0 (fun _ => true) true m 23 [v1] = some x0 := g0
    have q1 : DataW.trod enc Tryd.prog W 0 (fun _ => true) true m 3 [v2] = some x1 := g1
    have q2 : DataW.trod enc Tryd.prog W 0 (fun _ => true) true m 3 [v3] = some x2 := g2
    obtain ⟨za, zn, zc, Z, rfl, hz⟩ := zones_of k0
    obtain ⟨ka, kn, kc, l, rfl, hk⟩ := ints_of q0
    obtain ⟨hh, e1, _, _⟩ := DataW.trod_int Tryd.underlying3 q1
    obtain ⟨tt, e2, _, _⟩ := DataW.trod_int Tryd.underlying3 q2
    simp at e1 e2
    subst e1 e2
    exact ⟨⟨za, zn, zc, Z, ka, kn, kc, ⟨l, hh, tt⟩⟩, rfl, hz, hk⟩

theorem cellsAnswer : Tryd.prog.cellsOf 38 = 3 := by kernel_rfl

end Go.Proofs.YtcmladgldjcdmaaDoor

/- Records as plain data; plain mathematics, no condition. -/
namespace Go.Proofs.YtcmladgldjcdmaaDoor
open Go.RowKit
set_option linter.unusedVariables false
set_option maxRecDepth 100000
set_option linter.unusedSimpArgs false

/-- A record: hand, number, command. -/
structure PR where
  w : Int
  s : Int
  c : PC

def zeroR : PR := ⟨0, 0, zeroC⟩
def checkR (r : PR) : Int := if inB r.w 0 2 = false ∨ inB r.s 1 40 = false then 3 else checkC r.c
theorem checkR_facts {r : PR} (h : checkR r = 0) : (0 ≤ r.w ∧ r.w ≤ 2) ∧ (1 ≤ r.s ∧ r.s ≤ 40) ∧ checkC r.c = 0 := by
  unfold checkR at h
  split at h
  · omega
  · rename_i q
    simp only [not_or, Bool.not_eq_false] at q
    refine ⟨?_, ?_, h⟩
    · have := q.1; simp [inB] at this; omega
    · have := q.2; simp [inB] at this; omega

end Go.Proofs.YtcmladgldjcdmaaDoor

/- What the table of kinds holds in a world, and that it stays so; plain mathematics, no condition. -/
namespace Go.Proofs.YtcmladgldjcdmaaDoor
open Go.RowKit
set_option linter.unusedVariables false
set_option maxRecDepth 100000
set_option linter.unusedSimpArgs false

/-- The kinds' words. -/
def word (k : Nat) : ByteArray := match k with
  | 1 => ⟨#[111, 112, 101, 110]⟩
  | 2 => ⟨#[99, 108, 111, 115, 101]⟩
  | 3 => ⟨#[102, 105, 110, 105, 115, 104]⟩
  | 4 => ⟨#[114, 101, 115, 101, 116]⟩
  | 5 => ⟨#[97, 112, 112, 101, 110, 100]⟩
  | 6 => ⟨#[119, 114, 105, 116, 101]⟩
  | 7 => ⟨#[114, 101, 97, 100]⟩
  | 8 => ⟨#[114, 101, 103, 105, 115, 116, 101, 114]⟩
  | 9 => ⟨#[114, 101, 115, 101, 114, 118, 101]⟩
  | 10 => ⟨#[114, 101, 108, 101, 97, 115, 101]⟩
  | 11 => ⟨#[112, 114, 101, 101, 109, 112, 116]⟩
  | 12 => ⟨#[99, 108, 101, 97, 114]⟩
  | _ => ⟨#[]⟩

/-- The table of kinds, cell by cell. -/
structure Shapes (w : World) : Prop where
  wd : ∀ k : Nat, k ≤ 12 → w.cell? ⟨0, k * 5, none⟩ = some (.string (word k))
  hz : ∀ k : Nat, k ≤ 12 → w.cell? ⟨0, k * 5 + 1, none⟩ = some (.bool (hasZ k))
  ha : ∀ k : Nat, k ≤ 12 → w.cell? ⟨0, k * 5 + 2, none⟩ = some (.bool (hasA k))
  hn : ∀ k : Nat, k ≤ 12 → w.cell? ⟨0, k * 5 + 3, none⟩ = some (.bool (hasN k))
  hd : ∀ k : Nat, k ≤ 12 → w.cell? ⟨0, k * 5 + 4, none⟩ = some (.bool (hasD k))

theorem Shapes.below {w w' : World} (h : Shapes w) (hb : Below w.heap.size w w') : Shapes w' :=
  ⟨fun k hk => keepc hb (h.wd k hk), fun k hk => keepc hb (h.hz k hk), fun k hk => keepc hb (h.ha k hk), fun k hk => keepc hb (h.hn k hk), fun k hk => keepc hb (h.hd k hk)⟩

end Go.Proofs.YtcmladgldjcdmaaDoor

/- Texts parted at blanks, as the library parts them; plain mathematics, no condition. -/
namespace Go.Proofs.YtcmladgldjcdmaaDoor
open Go.Lib
set_option linter.unusedVariables false
set_option maxRecDepth 100000
set_option linter.unusedSimpArgs false

end Go.Proofs.YtcmladgldjcdmaaDoor

/- The contracts of package cmd's small functions: singles, outside, ContainsFunc, fits, Same; no condition but that the data reads as a list. -/
namespace Go.Proofs.YtcmladgldjcdmaaDoor
open Go.RowKit
set_option linter.unusedVariables false
set_option maxRecDepth 100000
set_option linter.unusedSimpArgs false

theorem cmdOutside_c (v : Int) (w : World) : Calls Tryd.prog 57 #[.int .i64 v] w fun e w' => e = .returned (.bool (outB 0 999 v)) ∧ w' = w := by
  go_enter Tryd.func57, Tryd.ntmps57
  go_wp2
  all_goals (go_ret; exact ⟨ret_bool (by unfold outB; simp_all), rfl⟩)

theorem singles_c (a : Option Addr) (m c : Nat) (k z n t : Int) (w : World) :
    Calls Tryd.prog 55 #[.agg #[.int .i64 k, .int .i64 z, .int .i64 n, .int .i64 t, .slice a m c]] w fun e w' => e = .returned (.agg #[.int .i64 z, .int .i64 t, .int .i64 n]) ∧ Below w.heap.size w w' := by
  go_enter Tryd.func55, Tryd.ntmps55
  go_wp2
  refine bodyPost_ret (v := .agg #[.int .i64 z, .int .i64 t, .int .i64 n]) (by simp [results, Tryd.results55, go_sem]) rfl ⟨rfl, ?_⟩
  (repeat first | exact bel0 | assumption | refine bel1 ?_ | refine bel2 ?_ | refine bel3 ?_ | refine belowT ?_ (by assumption) | refine bel5 ?_ (by simp; try omega))

set_option maxHeartbeats 400000 in
theorem cmdIndexFunc_some (b1 o1 n1 c1 : Nat) (l1 : List Int) (w : World) (hl1 : l1.length = n1) (hm1 : n1 ≤ 9223372036854775807)
    (hr1 : ∀ i, i < n1 → w.cell? ⟨b1, o1 + i, none⟩ = some (.int .i64 (l1.getD i 0))) :
    Calls Tryd.prog 69 #[.slice (some ⟨b1, o1, none⟩) n1 c1, .func (Fn.func 57) #[] #[]] w
      fun e w' => (∃ r, e = .returned (.int .i64 r) ∧ decide (0 ≤ r) = l1.any (outB 0 999)) ∧ w' = w := by
  go_enter Tryd.func69, Tryd.ntmps69
  go_wp2
  go_loop [8] (fun i => ∃ k : Nat, k ≤ n1 ∧ i = .int .i64 k ∧ (l1.take k).any (outB 0 999) = false) (fun i => n1 - (intOf i).toNat)
  case atStart => exact ⟨0, by omega, rfl, by simp⟩
  case round =>
    obtain ⟨k, hk, rfl, ht⟩ := hrel
    by_cases hlt : k < n1
    · have hi1 := hr1 k hlt
      have hlt' : (k : Int) < (n1 : Int) := by omega
      have HT := hide ht
      clear ht hr1
      generalize hx : l1.getD k 0 = x at hi1
      have HX := hide hx
      clear hx
      go_wp2_with (go_at_call 57; refine (cmdOutside_c x _).mono ?_; rintro e w' ⟨rfl, rfl⟩)
      · rename_i hxy
        go_ret
        exact ⟨⟨k, rfl, by rw [any_of_getD _ l1 k (by omega) (by rw [HX.out]; exact hxy)]; simp⟩, rfl⟩
      · rename_i hxy
        exact ⟨⟨k + 1, by omega, by go_num, any_take_step _ l1 k (by omega) HT.out (by rw [HX.out]; exact hxy)⟩, by simp [intOf]; omega⟩
    · go_wp2
      go_ret
      rw [List.take_of_length_le (by omega)] at ht
      exact ⟨⟨-1, rfl, by rw [ht]; rfl⟩, rfl⟩

theorem cmdIndexFunc_none (a1 : Option Addr) (c1 : Nat) (w : World) :
    Calls Tryd.prog 69 #[.slice a1 0 c1, .func (Fn.func 57) #[] #[]] w
      fun e w' => (∃ r, e = .returned (.int .i64 r) ∧ decide (0 ≤ r) = false) ∧ w' = w := by
  go_enter Tryd.func69, Tryd.ntmps69
  go_wp2
  refine wp_loop_rounds 1 ?_; rw [rounds_succ]
  go_wp2
  go_ret
  exact ⟨⟨-1, rfl, rfl⟩, rfl⟩

theorem cmdContainsFunc_c (a1 : Option Addr) (n1 c1 : Nat) (l1 : List Int) (w : World) (h1 : Ints w a1 n1 c1 l1) :
    Calls Tryd.prog 56 #[.slice a1 n1 c1, .func (Fn.func 57) #[] #[]] w
      fun e w' => e = .returned (.bool (l1.any (outB 0 999))) ∧ w' = w := by
  have hI : Calls Tryd.prog 69 #[.slice a1 n1 c1, .func (Fn.func 57) #[] #[]] w
      fun e w' => (∃ r, e = .returned (.int .i64 r) ∧ decide (0 ≤ r) = l1.any (outB 0 999)) ∧ w' = w := by
    obtain ⟨hl1, hc1, hm1, hn1, hr1, hw1⟩ := h1
    rcases hr1 with h0 | ⟨b1, o1, rfl, _, hr1⟩
    · subst h0
      rw [List.length_eq_zero_iff] at hl1
      subst hl1
      exact cmdIndexFunc_none a1 c1 w
    · exact cmdIndexFunc_some b1 o1 n1 c1 l1 w hl1 (by omega) hr1
  have HI := hide hI
  clear hI
  go_enter Tryd.func56, Tryd.ntmps56
  go_wp2_with fail
  refine HI.out.mono ?_
  rintro e w' ⟨⟨r, rfl, hr⟩, rfl⟩
  have HR := hide hr
  clear hr
  go_wp2
  go_ret
  exact ⟨ret_bool HR.out, rfl⟩

/-- What 'fits' answers. -/
def fitsC (z t n : Int) (d : List Int) (hz ha hn hd : Bool) : Bool := !((z != 0 && !hz) || (t != 0 && !ha) || (n != 0 && !hn)) && (hd == decide (d ≠ []))

set_option maxRecDepth 100000 in
set_option maxHeartbeats 4000000 in
theorem cmdFits_c (a : Option Addr) (m c : Nat) (k z n t : Int) (d : List Int) (hz ha hn hd : Bool) (w : World) (h : Ints w a m c d) :
    Calls Tryd.prog 54 #[cmdV a m c ⟨k, z, n, t, d⟩, .agg #[.bool hz, .bool ha, .bool hn, .bool hd]] w fun e w' => e = .returned (.bool (fitsC z t n d hz ha hn hd)) ∧ Below w.heap.size w w' := by
  have hlen := h.len
  have hmax := h.max
  have hle := h.le
  have i0 : ∀ w : World, (Instr.index 100 (.agg #[.int .i64 z, .int .i64 t, .int .i64 n]) (.int .i64 0)).run Tryd.prog w = .ok (.int .i64 z) w := fun w => by kernel_rfl
  have i1 : ∀ w : World, (Instr.index 100 (.agg #[.int .i64 z, .int .i64 t, .int .i64 n]) (.int .i64 1)).run Tryd.prog w = .ok (.int .i64 t) w := fun w => by kernel_rfl
  have i2 : ∀ w : World, (Instr.index 100 (.agg #[.int .i64 z, .int .i64 t, .int .i64 n]) (.int .i64 2)).run Tryd.prog w = .ok (.int .i64 n) w := fun w => by kernel_rfl
  unfold cmdV
  go_enter Tryd.func54, Tryd.ntmps54
  go_wp2_with fail
  refine (singles_c _ _ _ _ _ _ _ _).mono ?_
  rintro e w1 ⟨rfl, hb1⟩
  have bw : Below w.heap.size w w1 := by (repeat first | exact bel0 | assumption | refine bel1 ?_ | refine bel2 ?_ | refine bel3 ?_ | refine belowT ?_ (by assumption) | refine bel5 ?_ (by simp; try omega))
  have b4 := keepc hb1 (p := ⟨w.heap.size, 4, none⟩) (u := .slice a m c) (by go_simp)
  have c0 := keepc hb1 (p := ⟨w.heap.size + 1, 0, none⟩) (u := .bool hz) (by go_simp)
  have c1 := keepc hb1 (p := ⟨w.heap.size + 1, 1, none⟩) (u := .bool ha) (by go_simp)
  have c2 := keepc hb1 (p := ⟨w.heap.size + 1, 2, none⟩) (u := .bool hn) (by go_simp)
  have c3 := keepc hb1 (p := ⟨w.heap.size + 1, 3, none⟩) (u := .bool hd) (by go_simp)
  clear hb1
  have hd0 : decide (0 < (m : Int)) = decide (d ≠ []) := by
    rw [Bool.eq_iff_iff]
    simp
    rw [← hlen, List.length_pos_iff]
  have HF : Hid (fitsC z t n d hz ha hn hd = (!((z != 0 && !hz) || (t != 0 && !ha) || (n != 0 && !hn)) && (hd == decide (d ≠ [])))) := hide rfl
  generalize decide (d ≠ []) = dd at hd0 HF
  clear hlen hmax hle h
  go_wp2
  go_loop [9] (fun x => ∃ i : Nat, i ≤ 3 ∧ x = .int .i64 i ∧ ((0 < i → (z != 0 && !hz) = false) ∧ (1 < i → (t != 0 && !ha) = false) ∧ (2 < i → (n != 0 && !hn) = false))) (fun x => 3 - (intOf x).toNat)
  case atStart => exact ⟨0, by omega, rfl, ⟨by omega, by omega, by omega⟩⟩
  case round =>
    obtain ⟨i, hi, rfl, hno⟩ := hrel
    have HNO := hide hno
    clear hno
    rcases (by omega : i = 0 ∨ i = 1 ∨ i = 2 ∨ i = 3) with rfl | rfl | rfl | rfl
    · cases hq : z != 0 <;> cases hz
      all_goals go_wp2
      · exact ⟨⟨1, by omega, by go_num, ⟨fun _ => by simp [hq], by omega, by omega⟩⟩, by simp [intOf]⟩
      · exact ⟨⟨1, by omega, by go_num, ⟨fun _ => by simp [hq], by omega, by omega⟩⟩, by simp [intOf]⟩
      · go_ret
        exact ⟨ret_bool (by rw [HF.out, hq]; simp), bw⟩
      · exact ⟨⟨1, by omega, by go_num, ⟨fun _ => by simp [hq], by omega, by omega⟩⟩, by simp [intOf]⟩
    · cases hq : t != 0 <;> cases ha
      all_goals go_wp2
      · exact ⟨⟨2, by omega, by go_num, ⟨fun _ => HNO.out.1 (by omega), fun _ => by simp [hq], by omega⟩⟩, by simp [intOf]⟩
      · exact ⟨⟨2, by omega, by go_num, ⟨fun _ => HNO.out.1 (by omega), fun _ => by simp [hq], by omega⟩⟩, by simp [intOf]⟩
      · go_ret
        exact ⟨ret_bool (by rw [HF.out, hq]; simp), bw⟩
      · exact ⟨⟨2, by omega, by go_num, ⟨fun _ => HNO.out.1 (by omega), fun _ => by simp [hq], by omega⟩⟩, by simp [intOf]⟩
    · cases hq : n != 0 <;> cases hn
      all_goals go_wp2
      · exact ⟨⟨3, by omega, by go_num, ⟨fun _ => HNO.out.1 (by omega), fun _ => HNO.out.2.1 (by omega), fun _ => by simp [hq]⟩⟩, by simp [intOf]⟩
      · exact ⟨⟨3, by omega, by go_num, ⟨fun _ => HNO.out.1 (by omega), fun _ => HNO.out.2.1 (by omega), fun _ => by simp [hq]⟩⟩, by simp [intOf]⟩
      · go_ret
        exact ⟨ret_bool (by rw [HF.out, hq]; simp), bw⟩
      · exact ⟨⟨3, by omega, by go_num, ⟨fun _ => HNO.out.1 (by omega), fun _ => HNO.out.2.1 (by omega), fun _ => by simp [hq]⟩⟩, by simp [intOf]⟩
    · go_wp2
      go_ret
      refine ⟨ret_bool ?_, bw⟩
      rw [HF.out, HNO.out.1 (by omega), HNO.out.2.1 (by omega), HNO.out.2.2 (by omega)]
      have hm : decide (0 < m) = dd := by simpa using hd0
      rw [hm]
      simp

end Go.Proofs.YtcmladgldjcdmaaDoor
