/- Zones in memory of the call's own: they are read, and one of them is set; no condition but what the predicate says. -/
import Derived.Test.YtklabieacbbbfaaDoorNU1
import Derived.Deep.Strs
import Derived.Lib.SplitLaws
import Derived.Lib.ParseIntBTie
import Derived.Deep.Light
import Derived.Deep.RegionHeld3
namespace Go.Proofs.YtklabieacbbbfaaDoor
open Go.RowKit
set_option linter.unusedVariables false
set_option maxRecDepth 100000
set_option linter.unusedSimpArgs false

/-- The zone's blocks don't lie in block g. -/
def ZV.off (g : Nat) (z : ZV) : Prop := z.n = 0 ∨ ∀ x, z.a = some x → x.block ≠ g

/-- Zones in block g, which is the call's own. -/
structure Mine (w : World) (base g n c : Nat) (Z : List ZV) : Prop where
  zs : Zones w (some ⟨g, 0, none⟩) n c Z
  base : base ≤ g
  lt : g < w.heap.size
  cells : ∀ i z, Z[i]? = some z → w.cell? ⟨g, i * 2, none⟩ = some (.int .i64 z.s) ∧ w.cell? ⟨g, i * 2 + 1, none⟩ = some (.slice z.a z.n z.c)
  soft : ∀ j, j < n * 2 → w.frozen? ⟨g, j, none⟩ = false
  off : ∀ z ∈ Z, z.off g

theorem Ints.setCell' {w : World} {a : Option Addr} {n c : Nat} {l : List Int} (h : Ints w a n c l) (p : Addr) (v : Value) (hne : n = 0 ∨ ∀ x, a = some x → x.block ≠ p.block) : Ints (w.setCell p v) a n c l := by
  rcases hne with h0 | hne
  · exact ⟨h.len, h.le, h.max, h.nil, .inl h0, h.wf⟩
  · exact h.setCell p v hne

theorem Mine.below {w w' : World} {base g n c : Nat} {Z : List ZV} (h : Mine w base g n c Z) (hb : Below w.heap.size w w') : Mine w' base g n c Z := by
  refine ⟨h.zs.below hb (Nat.le_refl _), h.base, Nat.lt_of_lt_of_le h.lt hb.size, fun i z hz => ?_, fun j hj => ?_, h.off⟩
  · rw [hb.cell (p := ⟨g, i * 2, none⟩) h.lt, hb.cell (p := ⟨g, i * 2 + 1, none⟩) h.lt]
    exact h.cells i z hz
  · rw [hb.frozen (p := ⟨g, j, none⟩) h.lt]
    exact h.soft j hj

theorem Mine.set {w : World} {base g n c : Nat} {Z : List ZV} (h : Mine w base g n c Z) (i : Nat) (hi : i < n) (z : ZV) (hz : z.ok w) (ho : z.off g) :
    Mine ((w.setCell ⟨g, i * 2, none⟩ (.int .i64 z.s)).setCell ⟨g, i * 2 + 1, none⟩ (.slice z.a z.n z.c)) base g n c (Z.set i z) := by
  have hlen := h.zs.len
  obtain ⟨y, hy⟩ : ∃ y, Z[i]? = some y := ⟨Z[i]'(by omega), by simp⟩
  obtain ⟨y0, y1⟩ := h.cells i y hy
  have hc : ∀ j u, (Z.set i z)[j]? = some u → ((w.setCell ⟨g, i * 2, none⟩ (.int .i64 z.s)).setCell ⟨g, i * 2 + 1, none⟩ (.slice z.a z.n z.c)).cell? ⟨g, j * 2, none⟩ = some (.int .i64 u.s) ∧ ((w.setCell ⟨g, i * 2, none⟩ (.int .i64 z.s)).setCell ⟨g, i * 2 + 1, none⟩ (.slice z.a z.n z.c)).cell? ⟨g, j * 2 + 1, none⟩ = some (.slice u.a u.n u.c) := by
    intro j u hu
    by_cases hij : i = j
    · subst hij
      rw [List.getElem?_set_self (by omega)] at hu
      cases hu
      refine ⟨?_, ?_⟩
      · rw [World.cell?_setCell_other _ _ _ _ (by simp)]
        exact World.cell?_setCell_same _ _ _ y0
      · exact World.cell?_setCell_same _ _ _ (by rw [World.cell?_setCell_other _ _ _ _ (by simp)]; exact y1)
    · rw [List.getElem?_set_ne hij] at hu
      obtain ⟨u0, u1⟩ := h.cells j u hu
      refine ⟨?_, ?_⟩
      · rw [World.cell?_setCell_other _ _ _ _ (by (first | (simp; done) | (simp; omega))), World.cell?_setCell_other _ _ _ _ (by (first | (simp; done) | (simp; omega)))]
        exact u0
      · rw [World.cell?_setCell_other _ _ _ _ (by (first | (simp; done) | (simp; omega))), World.cell?_setCell_other _ _ _ _ (by (first | (simp; done) | (simp; omega)))]
        exact u1
  have hoff : ∀ u ∈ Z.set i z, u.off g := fun u hu => by
    rcases List.mem_or_eq_of_mem_set hu with hu | rfl
    · exact h.off u hu
    · exact ho
  have hok : ∀ u ∈ Z.set i z, u.ok ((w.setCell ⟨g, i * 2, none⟩ (.int .i64 z.s)).setCell ⟨g, i * 2 + 1, none⟩ (.slice z.a z.n z.c)) := fun u hu => by
    have hw : u.ok w := by
      rcases List.mem_or_eq_of_mem_set hu with hu | rfl
      · exact h.zs.ok u hu
      · exact hz
    exact (Ints.setCell' hw ⟨g, i * 2, none⟩ _ (hoff u hu)).setCell' ⟨g, i * 2 + 1, none⟩ _ (hoff u hu)
  refine ⟨⟨by simp [hlen], h.zs.le, h.zs.max, fun e => (by cases e), .inr ⟨g, 0, rfl, by simpa [World.setCell] using h.lt, fun j u hu => by simpa using hc j u hu⟩, hok⟩, h.base, by simpa [World.setCell] using h.lt, hc, fun j hj => ?_, hoff⟩
  rw [World.frozen?_setCell, World.frozen?_setCell]
  exact h.soft j hj

theorem Mine.mono {w : World} {base base' g n c : Nat} {Z : List ZV} (h : Mine w base g n c Z) (hb : base' ≤ base) : Mine w base' g n c Z := ⟨h.zs, Nat.le_trans hb h.base, h.lt, h.cells, h.soft, h.off⟩

end Go.Proofs.YtklabieacbbbfaaDoor

/- The contracts of slices.Clone at zones and of the document's own shut; no condition but that the slice reads as the zones. -/
namespace Go.Proofs.YtklabieacbbbfaaDoor
open Go.RowKit
set_option linter.unusedVariables false
set_option maxRecDepth 100000
set_option linter.unusedSimpArgs false

end Go.Proofs.YtklabieacbbbfaaDoor

/- The contract of the document's own roomFor; no condition but that the slice reads as four zones, and that the number is one of theirs. -/
namespace Go.Proofs.YtklabieacbbbfaaDoor
open Go.RowKit
set_option linter.unusedVariables false
set_option maxRecDepth 100000
set_option linter.unusedSimpArgs false

end Go.Proofs.YtklabieacbbbfaaDoor

/- The contract of the document's own OnZones, kind by kind; no condition but that the slices read as zones and data. -/
namespace Go.Proofs.YtklabieacbbbfaaDoor
open Go.RowKit
set_option linter.unusedVariables false
set_option maxRecDepth 100000
set_option linter.unusedSimpArgs false

end Go.Proofs.YtklabieacbbbfaaDoor

/- The contract of the document's own OnZones at Close and Open; no condition but that the slices read as zones and data. -/
namespace Go.Proofs.YtklabieacbbbfaaDoor
open Go.RowKit
set_option linter.unusedVariables false
set_option maxRecDepth 100000
set_option linter.unusedSimpArgs false

end Go.Proofs.YtklabieacbbbfaaDoor

/- The contract of the document's own OnZones at Open; no condition but that the slices read as zones and data. -/
namespace Go.Proofs.YtklabieacbbbfaaDoor
open Go.RowKit
set_option linter.unusedVariables false
set_option maxRecDepth 100000
set_option linter.unusedSimpArgs false

end Go.Proofs.YtklabieacbbbfaaDoor

/- The contracts of zone.Write and of the document's WriteZone, errors and all in one; no condition but that the arguments read as data. -/
namespace Go.Proofs.YtklabieacbbbfaaDoor
open Go.RowKit
set_option linter.unusedVariables false
set_option maxRecDepth 100000
set_option linter.unusedSimpArgs false

/-- What Write answers: state, blocks. -/
def wS (s : Int) (l k : List Int) : Int := if writeE s l k = 0 then writeS s (l.length + k.length) else 0
end Go.Proofs.YtklabieacbbbfaaDoor

/- The contract of the document's own OnZones at Append; no condition but that the slices read as zones and data. -/
namespace Go.Proofs.YtklabieacbbbfaaDoor
open Go.RowKit
set_option linter.unusedVariables false
set_option maxRecDepth 100000
set_option linter.unusedSimpArgs false

end Go.Proofs.YtklabieacbbbfaaDoor

/- What the yard's calls answer, plain; and the document's own OnZones gives just that; no condition but that the slices read as zones and data. -/
namespace Go.Proofs.YtklabieacbbbfaaDoor
open Go.RowKit
set_option linter.unusedVariables false
set_option maxRecDepth 100000
set_option linter.unusedSimpArgs false

/-- A zone as plain data: state, blocks. -/
abbrev PZ := Int × List Int

def at' (P : List PZ) (k : Int) : PZ := P.getD k.toNat (0, [])
/-- Zones of the call's own, or nothing. -/
theorem zs_nil (w : World) : Zones w none 0 0 [] := ⟨rfl, Nat.le_refl _, by omega, fun _ => rfl, .inl rfl, by simp⟩

/-- Of a block that was there, and in which none of the zones' blocks lie, neither the new list nor its zones' blocks are. -/
def Avoid (w : World) (Z : List ZV) (a' : Option Addr) (Z' : List ZV) : Prop := ∀ R, R < w.heap.size → (∀ z ∈ Z, z.off R) → (∀ x, a' = some x → x.block ≠ R) ∧ ∀ z ∈ Z', z.off R
theorem Avoid.none (w : World) (Z : List ZV) : Avoid w Z none [] := fun R _ _ => ⟨fun x e => (by cases e), fun z hz => by cases hz⟩
theorem Avoid.mk {w : World} {Z Z' : List ZV} {g : Nat} (hg : w.heap.size ≤ g) (h : ∀ R, R < w.heap.size → (∀ z ∈ Z, z.off R) → ∀ z ∈ Z', z.off R) : Avoid w Z (some ⟨g, 0, Option.none⟩) Z' :=
  fun R hR ho => ⟨fun x e => by cases e; simp; omega, h R hR ho⟩
end Go.Proofs.YtklabieacbbbfaaDoor

/- The contract of the document's own answer ReadZone; no condition but that the zone reads as its state and list. -/
namespace Go.Proofs.YtklabieacbbbfaaDoor
open Go.RowKit
set_option linter.unusedVariables false
set_option maxRecDepth 100000
set_option linter.unusedSimpArgs false

theorem OwnI.alloc {w : World} {base : Nat} {v : Value} {l : List Int} (h : OwnI w base v l) (o : Obj) : OwnI (w.alloc o) base v l := World.ownsRow.alloc h o

theorem OwnI.own {w : World} {base : Nat} {v : Value} {l : List Int} (h : OwnI w base v l) : ∀ k, v.ownBlock = some k → base ≤ k := by
  intro k e
  obtain ⟨_, h⟩ := h
  rcases h with ⟨rfl, _⟩ | ⟨g, cap, cur, rfl, hb, _⟩
  · cases e
  · simp [Value.ownBlock] at e; omega

theorem OwnI.snoc {w : World} {base : Nat} {v : Value} {l : List Int} {x : Int} (h : w.ownsRow base 3 1 v (l.length + 1) (cellsOf l ++ [.int .i64 x])) : OwnI w base v (l ++ [x]) := by
  unfold OwnI
  rw [List.length_append, ← cellsOf_app]
  exact h

theorem OwnI.mono {w : World} {base base' : Nat} {v : Value} {l : List Int} (h : OwnI w base v l) (hb : base' ≤ base) : OwnI w base' v l := by
  obtain ⟨h1, h⟩ := h
  refine ⟨h1, ?_⟩
  rcases h with h | ⟨g, cap, cur, e, hg, r⟩
  · exact .inl h
  · exact .inr ⟨g, cap, cur, e, Nat.le_trans hb hg, r⟩

end Go.Proofs.YtklabieacbbbfaaDoor

/- The contracts of zone.Read and of the document's ReadZone, errors and all in one; no condition but that the arguments read as data. -/
namespace Go.Proofs.YtklabieacbbbfaaDoor
open Go.RowKit
set_option linter.unusedVariables false
set_option maxRecDepth 100000
set_option linter.unusedSimpArgs false

end Go.Proofs.YtklabieacbbbfaaDoor

/- Desks and answers as plain data, what the document's calls make of them, and how they lie in a world; plain mathematics, no condition. -/
namespace Go.Proofs.YtklabieacbbbfaaDoor
open Go.RowKit
set_option linter.unusedVariables false
set_option maxRecDepth 100000
set_option linter.unusedSimpArgs false

/-- A desk: zones, book. -/
structure PD where
  P : List PZ
  b : PB
/-- An answer: error, place, blocks. -/
structure PA where
  e : Int
  t : Int
  d : List Int

def zeroA : PA := ⟨0, 0, []⟩
def checkA (a : PA) : Int :=
  if outB 0 9 a.e ∨ outB 0 7 a.t then 3
  else if 8 < a.d.length then 2
  else if a.d.any (outB 0 999) then 3
  else if a.e ≠ 0 ∧ (a.t ≠ 0 ∨ a.d ≠ []) then 4 else 0
def sameA (a b : PA) : Bool := decide (a.e = b.e ∧ a.t = b.t ∧ a.d = b.d)
/-- A desk's value: zones' slice, keys' slice, and what they read as. -/
structure DV where
  za : Option Addr
  zn : Nat
  zc : Nat
  Z : List ZV
  ka : Option Addr
  kn : Nat
  kc : Nat
  b : PB
def DV.p (d : DV) : PD := ⟨d.Z.map ZV.p, d.b⟩
def DV.v (d : DV) : Value := .agg #[.slice d.za d.zn d.zc, .slice d.ka d.kn d.kc, .int .i64 d.b.h, .int .i64 d.b.t]
def DV.zero : DV := ⟨none, 0, 0, [], none, 0, 0, zeroB⟩
structure DV.ok (w : World) (d : DV) : Prop where
  z : Zones w d.za d.zn d.zc d.Z
  k : Ints w d.ka d.kn d.kc d.b.k
theorem DV.ok.below {w w' : World} {d : DV} (h : d.ok w) {B : Nat} (hb : Below B w w') (hB : w.heap.size ≤ B) : d.ok w' := ⟨h.z.below hb hB, h.k.below hb hB⟩
theorem DV.zero_ok (w : World) : DV.zero.ok w := ⟨zs_nil w, Ints.nilSlice w⟩
/-- An answer's value. -/
structure AV where
  e : Int
  t : Int
  a : Option Addr
  n : Nat
  c : Nat
  d : List Int
def AV.p (x : AV) : PA := ⟨x.e, x.t, x.d⟩
def AV.v (x : AV) : Value := .agg #[.int .i64 x.e, .int .i64 x.t, .slice x.a x.n x.c]
def AV.ok (w : World) (x : AV) : Prop := Ints w x.a x.n x.c x.d
def AV.err (e : Int) : AV := ⟨e, 0, none, 0, 0, []⟩
theorem AV.ok.below {w w' : World} {x : AV} (h : x.ok w) {B : Nat} (hb : Below B w w') (hB : w.heap.size ≤ B) : x.ok w' := Ints.below h hb hB
theorem AV.err_ok (w : World) (e : Int) : (AV.err e).ok w := Ints.nilSlice w
theorem sameA_iff (a b : PA) : sameA a b = true ↔ a = b := by
  obtain ⟨e, t, d⟩ := a
  obtain ⟨e', t', d'⟩ := b
  simp [sameA]
end Go.Proofs.YtklabieacbbbfaaDoor

/- How the arguments of the laws read: a desk, an answer; no condition. -/
namespace Go.Proofs.YtklabieacbbbfaaDoor
open Go.ChangeShapes Go.WideShapes Go.ChangeAt Go.RowKit Go.Joins Go.ChangeMaps
set_option linter.unusedVariables false
set_option maxRecDepth 100000
set_option linter.unusedSimpArgs false

theorem cellsAnswer : Tryd.prog.cellsOf 30 = 3 := by kernel_rfl

set_option maxRecDepth 100000 in
theorem answer_arg {H : Type} {enc : TypeId × Value → H} {W : World} {base : Nat} {v : Value} {d : DataW H} {p : List MemPlace} (hv : Value.okWide Tryd.prog W .any base 30 v)
    (h : DataW.Trod enc Tryd.prog W 0 (fun _ => true) true 30 v d p) : ∃ x : AV, v = x.v ∧ x.ok W := by
  obtain ⟨v0, v1, v2, y0, y1, y2, m, rfl, _, _, h0, h1, h2⟩ := open_agg3 Tryd.underlying30 (by kernel_rfl) cellsAnswer hv h
  obtain ⟨e, e0, _, _⟩ := DataW.trod_int Tryd.underlying28 h0
  obtain ⟨t, e1, _, _⟩ := DataW.trod_int Tryd.underlying3 h1
  simp at e0 e1
  subst e0 e1
  obtain ⟨a, n, c, l, rfl, hi⟩ := ints_of h2
  exact ⟨⟨e, t, a, n, c, l⟩, rfl, hi⟩

end Go.Proofs.YtklabieacbbbfaaDoor

/- Records as plain data; plain mathematics, no condition. -/
namespace Go.Proofs.YtklabieacbbbfaaDoor
open Go.RowKit
set_option linter.unusedVariables false
set_option maxRecDepth 100000
set_option linter.unusedSimpArgs false

theorem sameC_iff (a b : PC) : sameC a b = true ↔ a = b := by
  obtain ⟨k1, z1, n1, t1, d1⟩ := a
  obtain ⟨k2, z2, n2, t2, d2⟩ := b
  unfold sameC
  rw [decide_eq_true_iff]
  constructor
  · rintro ⟨rfl, rfl, rfl, rfl, rfl⟩
    rfl
  · intro h
    cases h
    exact ⟨rfl, rfl, rfl, rfl, rfl⟩

/-- A record: hand, number, command. -/
structure PR where
  w : Int
  s : Int
  c : PC

def zeroR : PR := ⟨0, 0, zeroC⟩
end Go.Proofs.YtklabieacbbbfaaDoor

/- What the table of kinds holds in a world, and that it stays so; plain mathematics, no condition. -/
namespace Go.Proofs.YtklabieacbbbfaaDoor
open Go.RowKit
set_option linter.unusedVariables false
set_option maxRecDepth 100000
set_option linter.unusedSimpArgs false

/-- The kinds' words. -/
def word (k : Nat) : ByteArray := match k with
  | 1 => ⟨#[111, 112, 101, 110]⟩
  | 2 => ⟨#[99, 108, 111, 115, 101]⟩
  | 3 => ⟨#[102, 105, 110, 105, 115, 104]⟩
  | 4 => ⟨#[114, 101, 115, 101, 116]⟩
  | 5 => ⟨#[97, 112, 112, 101, 110, 100]⟩
  | 6 => ⟨#[119, 114, 105, 116, 101]⟩
  | 7 => ⟨#[114, 101, 97, 100]⟩
  | 8 => ⟨#[114, 101, 103, 105, 115, 116, 101, 114]⟩
  | 9 => ⟨#[114, 101, 115, 101, 114, 118, 101]⟩
  | 10 => ⟨#[114, 101, 108, 101, 97, 115, 101]⟩
  | 11 => ⟨#[112, 114, 101, 101, 109, 112, 116]⟩
  | 12 => ⟨#[99, 108, 101, 97, 114]⟩
  | _ => ⟨#[]⟩

/-- The table of kinds, cell by cell. -/
structure Shapes (w : World) : Prop where
  wd : ∀ k : Nat, k ≤ 12 → w.cell? ⟨0, k * 5, none⟩ = some (.string (word k))
  hz : ∀ k : Nat, k ≤ 12 → w.cell? ⟨0, k * 5 + 1, none⟩ = some (.bool (hasZ k))
  ha : ∀ k : Nat, k ≤ 12 → w.cell? ⟨0, k * 5 + 2, none⟩ = some (.bool (hasA k))
  hn : ∀ k : Nat, k ≤ 12 → w.cell? ⟨0, k * 5 + 3, none⟩ = some (.bool (hasN k))
  hd : ∀ k : Nat, k ≤ 12 → w.cell? ⟨0, k * 5 + 4, none⟩ = some (.bool (hasD k))

theorem Shapes.below {w w' : World} (h : Shapes w) (hb : Below w.heap.size w w') : Shapes w' :=
  ⟨fun k hk => keepc hb (h.wd k hk), fun k hk => keepc hb (h.hz k hk), fun k hk => keepc hb (h.ha k hk), fun k hk => keepc hb (h.hn k hk), fun k hk => keepc hb (h.hd k hk)⟩

end Go.Proofs.YtklabieacbbbfaaDoor

/- Texts parted at blanks, as the library parts them; plain mathematics, no condition. -/
namespace Go.Proofs.YtklabieacbbbfaaDoor
open Go.Lib
set_option linter.unusedVariables false
set_option maxRecDepth 100000
set_option linter.unusedSimpArgs false

end Go.Proofs.YtklabieacbbbfaaDoor

/- The contracts of package cmd's small functions: singles, outside, ContainsFunc, fits, Same; no condition but that the data reads as a list. -/
namespace Go.Proofs.YtklabieacbbbfaaDoor
open Go.RowKit
set_option linter.unusedVariables false
set_option maxRecDepth 100000
set_option linter.unusedSimpArgs false

theorem cmdOutside_c (v : Int) (w : World) : Calls Tryd.prog 38 #[.int .i64 v] w fun e w' => e = .returned (.bool (outB 0 999 v)) ∧ w' = w := by
  go_enter Tryd.func38, Tryd.ntmps38
  go_wp2
  all_goals (go_ret; exact ⟨ret_bool (by unfold outB; simp_all), rfl⟩)

theorem singles_c (a : Option Addr) (m c : Nat) (k z n t : Int) (w : World) :
    Calls Tryd.prog 36 #[.agg #[.int .i64 k, .int .i64 z, .int .i64 n, .int .i64 t, .slice a m c]] w fun e w' => e = .returned (.agg #[.int .i64 z, .int .i64 t, .int .i64 n]) ∧ Below w.heap.size w w' := by
  go_enter Tryd.func36, Tryd.ntmps36
  go_wp2
  refine bodyPost_ret (v := .agg #[.int .i64 z, .int .i64 t, .int .i64 n]) (by simp [results, Tryd.results36, go_sem]) rfl ⟨rfl, ?_⟩
  (repeat first | exact bel0 | assumption | refine bel1 ?_ | refine bel2 ?_ | refine bel3 ?_ | refine belowT ?_ (by assumption) | refine bel5 ?_ (by simp; try omega))

set_option maxHeartbeats 400000 in
theorem cmdIndexFunc_some (b1 o1 n1 c1 : Nat) (l1 : List Int) (w : World) (hl1 : l1.length = n1) (hm1 : n1 ≤ 9223372036854775807)
    (hr1 : ∀ i, i < n1 → w.cell? ⟨b1, o1 + i, none⟩ = some (.int .i64 (l1.getD i 0))) :
    Calls Tryd.prog 45 #[.slice (some ⟨b1, o1, none⟩) n1 c1, .func (Fn.func 38) #[] #[]] w
      fun e w' => (∃ r, e = .returned (.int .i64 r) ∧ decide (0 ≤ r) = l1.any (outB 0 999)) ∧ w' = w := by
  go_enter Tryd.func45, Tryd.ntmps45
  go_wp2
  go_loop [8] (fun i => ∃ k : Nat, k ≤ n1 ∧ i = .int .i64 k ∧ (l1.take k).any (outB 0 999) = false) (fun i => n1 - (intOf i).toNat)
  case atStart => exact ⟨0, by omega, rfl, by simp⟩
  case round =>
    obtain ⟨k, hk, rfl, ht⟩ := hrel
    by_cases hlt : k < n1
    · have hi1 := hr1 k hlt
      have hlt' : (k : Int) < (n1 : Int) := by omega
      have HT := hide ht
      clear ht hr1
      generalize hx : l1.getD k 0 = x at hi1
      have HX := hide hx
      clear hx
      go_wp2_with (go_at_call 38; refine (cmdOutside_c x _).mono ?_; rintro e w' ⟨rfl, rfl⟩)
      · rename_i hxy
        go_ret
        exact ⟨⟨k, rfl, by rw [any_of_getD _ l1 k (by omega) (by rw [HX.out]; exact hxy)]; simp⟩, rfl⟩
      · rename_i hxy
        exact ⟨⟨k + 1, by omega, by go_num, any_take_step _ l1 k (by omega) HT.out (by rw [HX.out]; exact hxy)⟩, by simp [intOf]; omega⟩
    · go_wp2
      go_ret
      rw [List.take_of_length_le (by omega)] at ht
      exact ⟨⟨-1, rfl, by rw [ht]; rfl⟩, rfl⟩

theorem cmdIndexFunc_none (a1 : Option Addr) (c1 : Nat) (w : World) :
    Calls Tryd.prog 45 #[.slice a1 0 c1, .func (Fn.func 38) #[] #[]] w
      fun e w' => (∃ r, e = .returned (.int .i64 r) ∧ decide (0 ≤ r) = false) ∧ w' = w := by
  go_enter Tryd.func45, Tryd.ntmps45
  go_wp2
  refine wp_loop_rounds 1 ?_; rw [rounds_succ]
  go_wp2
  go_ret
  exact ⟨⟨-1, rfl, rfl⟩, rfl⟩

theorem cmdContainsFunc_c (a1 : Option Addr) (n1 c1 : Nat) (l1 : List Int) (w : World) (h1 : Ints w a1 n1 c1 l1) :
    Calls Tryd.prog 37 #[.slice a1 n1 c1, .func (Fn.func 38) #[] #[]] w
      fun e w' => e = .returned (.bool (l1.any (outB 0 999))) ∧ w' = w := by
  have hI : Calls Tryd.prog 45 #[.slice a1 n1 c1, .func (Fn.func 38) #[] #[]] w
      fun e w' => (∃ r, e = .returned (.int .i64 r) ∧ decide (0 ≤ r) = l1.any (outB 0 999)) ∧ w' = w := by
    obtain ⟨hl1, hc1, hm1, hn1, hr1, hw1⟩ := h1
    rcases hr1 with h0 | ⟨b1, o1, rfl, _, hr1⟩
    · subst h0
      rw [List.length_eq_zero_iff] at hl1
      subst hl1
      exact cmdIndexFunc_none a1 c1 w
    · exact cmdIndexFunc_some b1 o1 n1 c1 l1 w hl1 (by omega) hr1
  have HI := hide hI
  clear hI
  go_enter Tryd.func37, Tryd.ntmps37
  go_wp2_with fail
  refine HI.out.mono ?_
  rintro e w' ⟨⟨r, rfl, hr⟩, rfl⟩
  have HR := hide hr
  clear hr
  go_wp2
  go_ret
  exact ⟨ret_bool HR.out, rfl⟩

/-- What 'fits' answers. -/
def fitsC (z t n : Int) (d : List Int) (hz ha hn hd : Bool) : Bool := !((z != 0 && !hz) || (t != 0 && !ha) || (n != 0 && !hn)) && (hd == decide (d ≠ []))

set_option maxRecDepth 100000 in
set_option maxHeartbeats 4000000 in
theorem cmdFits_c (a : Option Addr) (m c : Nat) (k z n t : Int) (d : List Int) (hz ha hn hd : Bool) (w : World) (h : Ints w a m c d) :
    Calls Tryd.prog 35 #[cmdV a m c ⟨k, z, n, t, d⟩, .agg #[.bool hz, .bool ha, .bool hn, .bool hd]] w fun e w' => e = .returned (.bool (fitsC z t n d hz ha hn hd)) ∧ Below w.heap.size w w' := by
  have hlen := h.len
  have hmax := h.max
  have hle := h.le
  have i0 : ∀ w : World, (Instr.index 60 (.agg #[.int .i64 z, .int .i64 t, .int .i64 n]) (.int .i64 0)).run Tryd.prog w = .ok (.int .i64 z) w := fun w => by kernel_rfl
  have i1 : ∀ w : World, (Instr.index 60 (.agg #[.int .i64 z, .int .i64 t, .int .i64 n]) (.int .i64 1)).run Tryd.prog w = .ok (.int .i64 t) w := fun w => by kernel_rfl
  have i2 : ∀ w : World, (Instr.index 60 (.agg #[.int .i64 z, .int .i64 t, .int .i64 n]) (.int .i64 2)).run Tryd.prog w = .ok (.int .i64 n) w := fun w => by kernel_rfl
  unfold cmdV
  go_enter Tryd.func35, Tryd.ntmps35
  go_wp2_with fail
  refine (singles_c _ _ _ _ _ _ _ _).mono ?_
  rintro e w1 ⟨rfl, hb1⟩
  have bw : Below w.heap.size w w1 := by (repeat first | exact bel0 | assumption | refine bel1 ?_ | refine bel2 ?_ | refine bel3 ?_ | refine belowT ?_ (by assumption) | refine bel5 ?_ (by simp; try omega))
  have b4 := keepc hb1 (p := ⟨w.heap.size, 4, none⟩) (u := .slice a m c) (by go_simp)
  have c0 := keepc hb1 (p := ⟨w.heap.size + 1, 0, none⟩) (u := .bool hz) (by go_simp)
  have c1 := keepc hb1 (p := ⟨w.heap.size + 1, 1, none⟩) (u := .bool ha) (by go_simp)
  have c2 := keepc hb1 (p := ⟨w.heap.size + 1, 2, none⟩) (u := .bool hn) (by go_simp)
  have c3 := keepc hb1 (p := ⟨w.heap.size + 1, 3, none⟩) (u := .bool hd) (by go_simp)
  clear hb1
  have hd0 : decide (0 < (m : Int)) = decide (d ≠ []) := by
    rw [Bool.eq_iff_iff]
    simp
    rw [← hlen, List.length_pos_iff]
  have HF : Hid (fitsC z t n d hz ha hn hd = (!((z != 0 && !hz) || (t != 0 && !ha) || (n != 0 && !hn)) && (hd == decide (d ≠ [])))) := hide rfl
  generalize decide (d ≠ []) = dd at hd0 HF
  clear hlen hmax hle h
  go_wp2
  go_loop [9] (fun x => ∃ i : Nat, i ≤ 3 ∧ x = .int .i64 i ∧ ((0 < i → (z != 0 && !hz) = false) ∧ (1 < i → (t != 0 && !ha) = false) ∧ (2 < i → (n != 0 && !hn) = false))) (fun x => 3 - (intOf x).toNat)
  case atStart => exact ⟨0, by omega, rfl, ⟨by omega, by omega, by omega⟩⟩
  case round =>
    obtain ⟨i, hi, rfl, hno⟩ := hrel
    have HNO := hide hno
    clear hno
    rcases (by omega : i = 0 ∨ i = 1 ∨ i = 2 ∨ i = 3) with rfl | rfl | rfl | rfl
    · cases hq : z != 0 <;> cases hz
      all_goals go_wp2
      · exact ⟨⟨1, by omega, by go_num, ⟨fun _ => by simp [hq], by omega, by omega⟩⟩, by simp [intOf]⟩
      · exact ⟨⟨1, by omega, by go_num, ⟨fun _ => by simp [hq], by omega, by omega⟩⟩, by simp [intOf]⟩
      · go_ret
        exact ⟨ret_bool (by rw [HF.out, hq]; simp), bw⟩
      · exact ⟨⟨1, by omega, by go_num, ⟨fun _ => by simp [hq], by omega, by omega⟩⟩, by simp [intOf]⟩
    · cases hq : t != 0 <;> cases ha
      all_goals go_wp2
      · exact ⟨⟨2, by omega, by go_num, ⟨fun _ => HNO.out.1 (by omega), fun _ => by simp [hq], by omega⟩⟩, by simp [intOf]⟩
      · exact ⟨⟨2, by omega, by go_num, ⟨fun _ => HNO.out.1 (by omega), fun _ => by simp [hq], by omega⟩⟩, by simp [intOf]⟩
      · go_ret
        exact ⟨ret_bool (by rw [HF.out, hq]; simp), bw⟩
      · exact ⟨⟨2, by omega, by go_num, ⟨fun _ => HNO.out.1 (by omega), fun _ => by simp [hq], by omega⟩⟩, by simp [intOf]⟩
    · cases hq : n != 0 <;> cases hn
      all_goals go_wp2
      · exact ⟨⟨3, by omega, by go_num, ⟨fun _ => HNO.out.1 (by omega), fun _ => HNO.out.2.1 (by omega), fun _ => by simp [hq]⟩⟩, by simp [intOf]⟩
      · exact ⟨⟨3, by omega, by go_num, ⟨fun _ => HNO.out.1 (by omega), fun _ => HNO.out.2.1 (by omega), fun _ => by simp [hq]⟩⟩, by simp [intOf]⟩
      · go_ret
        exact ⟨ret_bool (by rw [HF.out, hq]; simp), bw⟩
      · exact ⟨⟨3, by omega, by go_num, ⟨fun _ => HNO.out.1 (by omega), fun _ => HNO.out.2.1 (by omega), fun _ => by simp [hq]⟩⟩, by simp [intOf]⟩
    · go_wp2
      go_ret
      refine ⟨ret_bool ?_, bw⟩
      rw [HF.out, HNO.out.1 (by omega), HNO.out.2.1 (by omega), HNO.out.2.2 (by omega)]
      have hm : decide (0 < m) = dd := by simpa using hd0
      rw [hm]
      simp

theorem eqArr (a b c x y z : Int) (w : World) : (Op.equalIn 10000 60 (.agg #[.int .i64 a, .int .i64 b, .int .i64 c]) (.agg #[.int .i64 x, .int .i64 y, .int .i64 z])).run Tryd.prog w = .ok (a == x && (b == y && c == z)) w := by
  have u3 := Tryd.underlying3
  have a3 := Tryd.isAgg3
  have z3 := Tryd.sizeOf3
  rw [show (10000 : Nat) = 9999 + 1 from rfl, Op.equalIn]
  simp only [Sem.run_bind, run_underlying Tryd.underlying60, Result.andThen_ok]
  simp only [Std.Legacy.Range.forIn_eq_forIn_range', Std.Legacy.Range.size, Nat.sub_zero, Nat.add_sub_cancel, Nat.div_one, List.range'_succ, List.range'_zero, List.forIn_cons, List.forIn_nil]
  go_simp
  by_cases h1 : a = x <;> by_cases h2 : b = y <;> by_cases h3 : c = z <;> simp [h1, h2, h3]

set_option maxRecDepth 100000 in
set_option maxHeartbeats 4000000 in
theorem cmdSame_c (a1 a2 : Option Addr) (n1 n2 c1 c2 : Nat) (b1 b2 : PC) (w : World) (h1 : Ints w a1 n1 c1 b1.d) (h2 : Ints w a2 n2 c2 b2.d) :
    Calls Tryd.prog 18 #[cmdV a1 n1 c1 b1, cmdV a2 n2 c2 b2] w fun e w' => e = .returned (.bool (sameC b1 b2)) ∧ Below w.heap.size w w' := by
  obtain ⟨k1, z1, m1, t1, d1⟩ := b1
  obtain ⟨k2, z2, m2, t2, d2⟩ := b2
  dsimp only at *
  unfold cmdV at *
  have HS : Hid (sameC ⟨k1, z1, m1, t1, d1⟩ ⟨k2, z2, m2, t2, d2⟩ = (k1 == k2 && (z1 == z2 && (t1 == t2 && m1 == m2)) && decide (d1 = d2))) := hide (by
    rw [Bool.eq_iff_iff]
    simp [sameC, and_assoc])
  have HE : Hid (∀ w' : World, (Op.equalIn 10000 60 (.agg #[.int .i64 z1, .int .i64 t1, .int .i64 m1]) (.agg #[.int .i64 z2, .int .i64 t2, .int .i64 m2])).run Tryd.prog w' = .ok (z1 == z2 && (t1 == t2 && m1 == m2)) w') := hide (fun w' => eqArr z1 t1 m1 z2 t2 m2 w')
  generalize (z1 == z2 && (t1 == t2 && m1 == m2)) = ee at HS HE
  go_enter Tryd.func18, Tryd.ntmps18
  have he := HE.out
  cases e1 : k1 == k2
  · go_wp2
    go_quiet (fail)
    go_wp2
    go_ret
    exact ⟨ret_bool (by rw [HS.out, e1]; rfl), by (repeat first | exact bel0 | assumption | refine bel1 ?_ | refine bel2 ?_ | refine bel3 ?_ | refine belowT ?_ (by assumption) | refine bel5 ?_ (by simp; try omega))⟩
  · cases ee
    · go_wp2
      first
        | (go_region_with (first | (go_at_call 36; refine (singles_c _ _ _ _ _ _ _ _).mono ?_; rintro e w9 ⟨rfl, hb9⟩; (have f0 := keepc hb9 (p := ⟨w.heap.size, 0, none⟩) (u := .int .i64 k1) (by (first | (go_simp; done) | (simp [*, World.cell?_alloc_at, World.cell?_alloc_past, World.cell?_alloc_some, World.cell?_setCell_far]; done)))); (have f1 := keepc hb9 (p := ⟨w.heap.size, 1, none⟩) (u := .int .i64 z1) (by (first | (go_simp; done) | (simp [*, World.cell?_alloc_at, World.cell?_alloc_past, World.cell?_alloc_some, World.cell?_setCell_far]; done)))); (have f2 := keepc hb9 (p := ⟨w.heap.size, 2, none⟩) (u := .int .i64 m1) (by (first | (go_simp; done) | (simp [*, World.cell?_alloc_at, World.cell?_alloc_past, World.cell?_alloc_some, World.cell?_setCell_far]; done)))); (have f3 := keepc hb9 (p := ⟨w.heap.size, 3, none⟩) (u := .int .i64 t1) (by (first | (go_simp; done) | (simp [*, World.cell?_alloc_at, World.cell?_alloc_past, World.cell?_alloc_some, World.cell?_setCell_far]; done)))); (have f4 := keepc hb9 (p := ⟨w.heap.size, 4, none⟩) (u := .slice a1 n1 c1) (by (first | (go_simp; done) | (simp [*, World.cell?_alloc_at, World.cell?_alloc_past, World.cell?_alloc_some, World.cell?_setCell_far]; done)))); (have f5 := keepc hb9 (p := ⟨w.heap.size + 1, 0, none⟩) (u := .int .i64 k2) (by (first | (go_simp; done) | (simp [*, World.cell?_alloc_at, World.cell?_alloc_past, World.cell?_alloc_some, World.cell?_setCell_far]; done)))); (have f6 := keepc hb9 (p := ⟨w.heap.size + 1, 1, none⟩) (u := .int .i64 z2) (by (first | (go_simp; done) | (simp [*, World.cell?_alloc_at, World.cell?_alloc_past, World.cell?_alloc_some, World.cell?_setCell_far]; done)))); (have f7 := keepc hb9 (p := ⟨w.heap.size + 1, 2, none⟩) (u := .int .i64 m2) (by (first | (go_simp; done) | (simp [*, World.cell?_alloc_at, World.cell?_alloc_past, World.cell?_alloc_some, World.cell?_setCell_far]; done)))); (have f8 := keepc hb9 (p := ⟨w.heap.size + 1, 3, none⟩) (u := .int .i64 t2) (by (first | (go_simp; done) | (simp [*, World.cell?_alloc_at, World.cell?_alloc_past, World.cell?_alloc_some, World.cell?_setCell_far]; done)))); (have f9 := keepc hb9 (p := ⟨w.heap.size + 1, 4, none⟩) (u := .slice a2 n2 c2) (by (first | (go_simp; done) | (simp [*, World.cell?_alloc_at, World.cell?_alloc_past, World.cell?_alloc_some, World.cell?_setCell_far]; done)))))))
        | fail
      all_goals go_wp2
      all_goals go_ret
      all_goals exact ⟨ret_bool (by rw [HS.out, e1]; rfl), by (repeat first | exact bel0 | assumption | refine bel1 ?_ | refine bel2 ?_ | refine bel3 ?_ | refine belowT ?_ (by assumption) | refine bel5 ?_ (by simp; try omega))⟩
    · go_wp2
      go_region_held3 (fun w' => w'.cell? ⟨w.heap.size, 0, none⟩ = some (.int .i64 k1) ∧ w'.cell? ⟨w.heap.size, 1, none⟩ = some (.int .i64 z1) ∧ w'.cell? ⟨w.heap.size, 2, none⟩ = some (.int .i64 m1) ∧ w'.cell? ⟨w.heap.size, 3, none⟩ = some (.int .i64 t1) ∧ w'.cell? ⟨w.heap.size, 4, none⟩ = some (.slice a1 n1 c1) ∧ w'.cell? ⟨w.heap.size + 1, 0, none⟩ = some (.int .i64 k2) ∧ w'.cell? ⟨w.heap.size + 1, 1, none⟩ = some (.int .i64 z2) ∧ w'.cell? ⟨w.heap.size + 1, 2, none⟩ = some (.int .i64 m2) ∧ w'.cell? ⟨w.heap.size + 1, 3, none⟩ = some (.int .i64 t2) ∧ w'.cell? ⟨w.heap.size + 1, 4, none⟩ = some (.slice a2 n2 c2)) ((first | (go_simp; done) | (simp [*, World.cell?_alloc_at, World.cell?_alloc_past, World.cell?_alloc_some, World.cell?_setCell_far]; done))) (first | (go_at_call 36; refine (singles_c _ _ _ _ _ _ _ _).mono ?_; rintro e w9 ⟨rfl, hb9⟩; (have f0 := keepc hb9 (p := ⟨w.heap.size, 0, none⟩) (u := .int .i64 k1) (by (first | (go_simp; done) | (simp [*, World.cell?_alloc_at, World.cell?_alloc_past, World.cell?_alloc_some, World.cell?_setCell_far]; done)))); (have f1 := keepc hb9 (p := ⟨w.heap.size, 1, none⟩) (u := .int .i64 z1) (by (first | (go_simp; done) | (simp [*, World.cell?_alloc_at, World.cell?_alloc_past, World.cell?_alloc_some, World.cell?_setCell_far]; done)))); (have f2 := keepc hb9 (p := ⟨w.heap.size, 2, none⟩) (u := .int .i64 m1) (by (first | (go_simp; done) | (simp [*, World.cell?_alloc_at, World.cell?_alloc_past, World.cell?_alloc_some, World.cell?_setCell_far]; done)))); (have f3 := keepc hb9 (p := ⟨w.heap.size, 3, none⟩) (u := .int .i64 t1) (by (first | (go_simp; done) | (simp [*, World.cell?_alloc_at, World.cell?_alloc_past, World.cell?_alloc_some, World.cell?_setCell_far]; done)))); (have f4 := keepc hb9 (p := ⟨w.heap.size, 4, none⟩) (u := .slice a1 n1 c1) (by (first | (go_simp; done) | (simp [*, World.cell?_alloc_at, World.cell?_alloc_past, World.cell?_alloc_some, World.cell?_setCell_far]; done)))); (have f5 := keepc hb9 (p := ⟨w.heap.size + 1, 0, none⟩) (u := .int .i64 k2) (by (first | (go_simp; done) | (simp [*, World.cell?_alloc_at, World.cell?_alloc_past, World.cell?_alloc_some, World.cell?_setCell_far]; done)))); (have f6 := keepc hb9 (p := ⟨w.heap.size + 1, 1, none⟩) (u := .int .i64 z2) (by (first | (go_simp; done) | (simp [*, World.cell?_alloc_at, World.cell?_alloc_past, World.cell?_alloc_some, World.cell?_setCell_far]; done)))); (have f7 := keepc hb9 (p := ⟨w.heap.size + 1, 2, none⟩) (u := .int .i64 m2) (by (first | (go_simp; done) | (simp [*, World.cell?_alloc_at, World.cell?_alloc_past, World.cell?_alloc_some, World.cell?_setCell_far]; done)))); (have f8 := keepc hb9 (p := ⟨w.heap.size + 1, 3, none⟩) (u := .int .i64 t2) (by (first | (go_simp; done) | (simp [*, World.cell?_alloc_at, World.cell?_alloc_past, World.cell?_alloc_some, World.cell?_setCell_far]; done)))); (have f9 := keepc hb9 (p := ⟨w.heap.size + 1, 4, none⟩) (u := .slice a2 n2 c2) (by (first | (go_simp; done) | (simp [*, World.cell?_alloc_at, World.cell?_alloc_past, World.cell?_alloc_some, World.cell?_setCell_far]; done))))) | (go_at_call 39; refine (Equal_c a1 a2 n1 n2 c1 c2 d1 d2 _ (by refine Ints.below h1 (B := w.heap.size) ?_ (Nat.le_refl _); (repeat first | exact bel0 | assumption | refine bel1 ?_ | refine bel2 ?_ | refine bel3 ?_ | refine belowT ?_ (by assumption) | refine bel5 ?_ (by simp; try omega))) (by refine Ints.below h2 (B := w.heap.size) ?_ (Nat.le_refl _); (repeat first | exact bel0 | assumption | refine bel1 ?_ | refine bel2 ?_ | refine bel3 ?_ | refine belowT ?_ (by assumption) | refine bel5 ?_ (by simp; try omega)))).mono ?_; rintro e w' ⟨rfl, q, rfl⟩))
      go_wp2
      go_ret
      exact ⟨ret_bool (by rw [HS.out, e1]; rfl), by (repeat first | exact bel0 | assumption | refine bel1 ?_ | refine bel2 ?_ | refine bel3 ?_ | refine belowT ?_ (by assumption) | refine bel5 ?_ (by simp; try omega))⟩

end Go.Proofs.YtklabieacbbbfaaDoor
