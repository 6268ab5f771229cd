/- Records as plain data, their texts, and what the document's calls make of them; plain mathematics, no condition. -/
import Derived.Test.YtgchgpgipdfhgacDoorNoteSaysG9
import Derived.Test.YtgchgpgipdfhgacDoorNoteSaysG1
import Derived.Test.YtgchgpgipdfhgacDoorNoteSaysG2
import Derived.Deep.Strs
import Derived.Test.YtgchgpgipdfhgacDoorRows
import Derived.Stop.LaidErr
import Derived.Shelf.Vars
import Derived.MapViews
import Derived.DeepKeys2
import Derived.Lib.LaidTab
namespace Go.Proofs.YtgchgpgipdfhgacDoor
open Go.RowKit
set_option linter.unusedVariables false
set_option maxRecDepth 100000
set_option linter.unusedSimpArgs false

/-- A record: hand, number, command. -/
structure PR where
  w : Int
  s : Int
  c : PC

def zeroR : PR := ⟨0, 0, zeroC⟩
def checkR (r : PR) : Int := if inB r.w 0 2 = false ∨ inB r.s 1 40 = false then 3 else checkC r.c
def sameR (a b : PR) : Bool := decide (a.w = b.w ∧ a.s = b.s) && sameC a.c b.c
/-- A record's text: hand, a blank, number, a colon, a blank, the command's text. -/
def textR (r : PR) : List UInt8 := Lib.itoa r.w ++ 32 :: (Lib.itoa r.s ++ 58 :: 32 :: textC r.c)
def printR (r : PR) : List UInt8 × Int := if checkR r = 0 then (textR r, 0) else ([], checkR r)

/-- What stands ahead of the first colon with a blank behind it, and what stands behind them. -/
def cutC : List UInt8 → Option (List UInt8 × List UInt8)
  | [] => none
  | 58 :: 32 :: r => some ([], r)
  | a :: r => (cutC r).map fun p => (a :: p.1, p.2)
/-- What stands ahead of the first blank, and what stands behind it. -/
def cutB : List UInt8 → Option (List UInt8 × List UInt8)
  | [] => none
  | a :: r => if a = 32 then some ([], r) else (cutB r).map fun p => (a :: p.1, p.2)
/-- Hand and number ahead of the colon. -/
def headR (l : List UInt8) : Option (Int × Int) := match cutB l with
  | none => none
  | some (a, b) => match num a, num b with
    | some v, some u => some (v, u)
    | _, _ => none
/-- What Parse answers. -/
def parseR (s : List UInt8) : PR × Int :=
  if 60000 < s.length then (zeroR, 2) else match cutC s with
    | none => (zeroR, 1)
    | some (h, t) => match headR h with
      | none => (zeroR, 1)
      | some (v, u) =>
        if (parseC ⟨t.toArray⟩).2 ≠ 0 then (zeroR, (parseC ⟨t.toArray⟩).2)
        else if checkR ⟨v, u, (parseC ⟨t.toArray⟩).1⟩ ≠ 0 then (zeroR, checkR ⟨v, u, (parseC ⟨t.toArray⟩).1⟩) else (⟨v, u, (parseC ⟨t.toArray⟩).1⟩, 0)

theorem cutB_word : ∀ (l r : List UInt8), (32 : UInt8) ∉ l → cutB (l ++ 32 :: r) = some (l, r)
  | [], r, _ => by simp [cutB]
  | a :: l, r, h => by
    have h1 : a ≠ 32 := fun e => h (by simp [e])
    have h2 : (32 : UInt8) ∉ l := fun e => h (by simp [e])
    simp [cutB, h1, cutB_word l r h2]
theorem cutB_some : ∀ {l a b : List UInt8}, cutB l = some (a, b) → l = a ++ 32 :: b
  | [], a, b, h => by simp [cutB] at h
  | x :: l, a, b, h => by
    by_cases e : x = 32
    · subst e
      simp [cutB] at h
      obtain ⟨rfl, rfl⟩ := h
      rfl
    · simp only [cutB, if_neg e] at h
      cases hc : cutB l with
      | none => rw [hc] at h; cases h
      | some p =>
        obtain ⟨p1, p2⟩ := p
        rw [hc] at h
        simp at h
        obtain ⟨rfl, rfl⟩ := h
        rw [cutB_some hc]
        rfl
theorem cutC_word : ∀ (l r : List UInt8), (58 : UInt8) ∉ l → cutC (l ++ 58 :: 32 :: r) = some (l, r)
  | [], r, _ => by simp [cutC]
  | a :: l, r, h => by
    have h1 : a ≠ 58 := fun e => h (by simp [e])
    have h2 : (58 : UInt8) ∉ l := fun e => h (by simp [e])
    have ih := cutC_word l r h2
    have e : cutC (a :: (l ++ 58 :: 32 :: r)) = (cutC (l ++ 58 :: 32 :: r)).map fun p => (a :: p.1, p.2) := by
      rw [cutC.eq_def]
      split
      · rename_i q; cases q
      · rename_i q; simp at q; exact absurd q.1 h1
      · rename_i hne q; simp at q; rw [q.1, q.2]
    rw [List.cons_append, e, ih]
    rfl
theorem cutC_some : ∀ {l a b : List UInt8}, cutC l = some (a, b) → l = a ++ 58 :: 32 :: b
  | [], a, b, h => by simp [cutC] at h
  | x :: l, a, b, h => by
    rw [cutC.eq_def] at h
    split at h
    · rename_i q; cases q
    · rename_i r q
      simp at q h
      obtain ⟨rfl, rfl⟩ := h
      simp [q]
    · rename_i y r hne q
      simp at q
      obtain ⟨rfl, rfl⟩ := q
      cases hc : cutC l with
      | none => rw [hc] at h; cases h
      | some p =>
        obtain ⟨p1, p2⟩ := p
        rw [hc] at h
        simp at h
        obtain ⟨rfl, rfl⟩ := h
        rw [cutC_some hc]
        rfl

theorem itoa_no_colon (v : Int) : (58 : UInt8) ∉ Lib.itoa v := by
  unfold Lib.itoa
  intro h
  split at h
  · simp at h
    have := digits_range _ _ h
    simp at this
  · have := digits_range _ _ h
    simp at this

theorem headR_text {v u : Int} (hv : -9223372036854775808 ≤ v ∧ v ≤ 9223372036854775807) (hu : -9223372036854775808 ≤ u ∧ u ≤ 9223372036854775807) : headR (Lib.itoa v ++ 32 :: Lib.itoa u) = some (v, u) := by
  unfold headR
  rw [cutB_word _ _ (itoa_no_blank v)]
  simp only [num_itoa v hv.1 hv.2, num_itoa u hu.1 hu.2]
theorem headR_some {l : List UInt8} {v u : Int} (h : headR l = some (v, u)) : l = Lib.itoa v ++ 32 :: Lib.itoa u := by
  unfold headR at h
  cases hc : cutB l with
  | none => rw [hc] at h; cases h
  | some p =>
    obtain ⟨a, b⟩ := p
    rw [hc] at h
    simp only at h
    cases ha : num a with
    | none => rw [ha] at h; cases h
    | some x =>
      cases hb : num b with
      | none => rw [ha, hb] at h; cases h
      | some y =>
        rw [ha, hb] at h
        simp at h
        obtain ⟨rfl, rfl⟩ := h
        rw [cutB_some hc, num_some ha, num_some hb]

theorem checkR_facts {r : PR} (h : checkR r = 0) : (0 ≤ r.w ∧ r.w ≤ 2) ∧ (1 ≤ r.s ∧ r.s ≤ 40) ∧ checkC r.c = 0 := by
  unfold checkR at h
  split at h
  · omega
  · rename_i q
    simp only [not_or, Bool.not_eq_false] at q
    refine ⟨?_, ?_, h⟩
    · have := q.1; simp [inB] at this; omega
    · have := q.2; simp [inB] at this; omega

theorem textR_len {r : PR} (h : checkR r = 0) : (textR r).length ≤ 100 := by
  obtain ⟨h1, h2, h3⟩ := checkR_facts h
  have a := itoa_len (v := r.w) h1.1 (by omega)
  have b := itoa_len (v := r.s) (by omega) (by omega)
  have c := textC_len h3
  simp [textR]
  omega

/-- What is printed is read. -/
theorem parse_textR {r : PR} (h : checkR r = 0) : parseR (textR r) = (r, 0) := by
  obtain ⟨h1, h2, h3⟩ := checkR_facts h
  have hl := textR_len h
  have hc : cutC (textR r) = some (Lib.itoa r.w ++ 32 :: Lib.itoa r.s, textC r.c) := by
    have e : textR r = (Lib.itoa r.w ++ 32 :: Lib.itoa r.s) ++ 58 :: 32 :: textC r.c := by simp [textR]
    rw [e]
    refine cutC_word _ _ ?_
    intro q
    rcases List.mem_append.1 q with q | q
    · exact itoa_no_colon _ q
    · rcases List.mem_cons.1 q with q | q
      · cases q
      · exact itoa_no_colon _ q
  unfold parseR
  rw [if_neg (by omega), hc]
  simp only
  rw [headR_text (by omega) (by omega)]
  simp only
  rw [parse_text h3]
  simp [h]

/-- What is read is printed as it was. -/
theorem text_parseR {s : List UInt8} (h : (parseR s).2 = 0) : checkR (parseR s).1 = 0 ∧ textR (parseR s).1 = s := by
  unfold parseR at h ⊢
  split
  · rename_i q; rw [if_pos q] at h; cases h
  · rename_i q
    rw [if_neg q] at h
    cases hc : cutC s with
    | none => rw [hc] at h; cases h
    | some p =>
      obtain ⟨a, t⟩ := p
      rw [hc] at h
      simp only at h ⊢
      cases hh : headR a with
      | none => rw [hh] at h; cases h
      | some p =>
        obtain ⟨v, u⟩ := p
        rw [hh] at h
        simp only at h ⊢
        by_cases hp : (parseC ⟨t.toArray⟩).2 = 0
        · by_cases hk : checkR ⟨v, u, (parseC ⟨t.toArray⟩).1⟩ = 0
          · rw [if_neg (by simp [hp]), if_neg (by simp [hk])]
            refine ⟨hk, ?_⟩
            have e := (text_parse hp).2
            simp only [textR]
            rw [e, cutC_some hc, headR_some hh]
            simp
          · rw [if_neg (by simp [hp]), if_pos hk] at h
            exact absurd h hk
        · rw [if_pos hp] at h
          exact absurd h hp

theorem sameR_iff (a b : PR) : sameR a b = true ↔ a = b := by
  obtain ⟨w, s, c⟩ := a
  obtain ⟨w', s', c'⟩ := b
  simp [sameR, sameC_iff, and_assoc]
/-- Unlike records have unlike texts. -/
theorem textR_inj {a b : PR} (ha : checkR a = 0) (hb : checkR b = 0) : textR a = textR b ↔ a = b := by
  constructor
  · intro h
    have h1 := parse_textR ha
    rw [h, parse_textR hb] at h1
    exact (congrArg Prod.fst h1).symm
  · intro h; rw [h]

end Go.Proofs.YtgchgpgipdfhgacDoor

/- A block's cells, and worlds that part at one block alone; plain mathematics, no condition. -/
namespace Go.Proofs.YtgchgpgipdfhgacDoor
open Go.RowKit
set_option linter.unusedVariables false
set_option maxRecDepth 100000
set_option linter.unusedSimpArgs false

/-- w' is w, but that block g may hold other cells, and there may be more memory. -/
structure But (g : Nat) (w w' : World) : Prop where
  low : Below g w w'
  size : w.heap.size ≤ w'.heap.size
  cell : ∀ q : Addr, q.block < w.heap.size → q.block ≠ g → w'.cell? q = w.cell? q

theorem But.refl (g : Nat) (w : World) : But g w w := ⟨Below.refl _ _, Nat.le_refl _, fun _ _ _ => rfl⟩
theorem But.trans {g : Nat} {a b c : World} (h : But g a b) (k : But g b c) : But g a c :=
  ⟨h.low.trans k.low, Nat.le_trans h.size k.size, fun q hq hg => by rw [k.cell q (Nat.lt_of_lt_of_le hq h.size) hg, h.cell q hq hg]⟩
theorem But.of_below {g : Nat} {w w' : World} (h : Below w.heap.size w w') (hg : g ≤ w.heap.size) : But g w w' :=
  ⟨h.mono hg, h.size, fun q hq _ => h.cell hq⟩
theorem But.of_put {g j : Nat} {w w' : World} {v : Value} (h : Put w w' ⟨g, j, none⟩ v) : But g w w' :=
  ⟨h.below, Nat.le_of_eq h.size.symm, fun q _ hg => h.other q (fun e => hg (by rw [e]))⟩
theorem But.of_set {g j : Nat} {w : World} {u : Value} (h : w.cell? ⟨g, j, none⟩ = some u) (v : Value) : But g w (w.setCell ⟨g, j, none⟩ v) := But.of_put ((Put.refl h).set v)

theorem Ints.but {w w' : World} {g : Nat} {a : Option Addr} {n c : Nat} {l : List Int} (h : Ints w a n c l) (hb : But g w w') (hne : n = 0 ∨ ∀ x, a = some x → x.block ≠ g) : Ints w' a n c l := by
  refine ⟨h.len, h.le, h.max, h.nil, ?_, h.wf⟩
  rcases hne with h0 | hne
  · exact .inl h0
  · rcases h.row with h0 | ⟨b, off, ha, hlt, hc⟩
    · exact .inl h0
    · refine .inr ⟨b, off, ha, Nat.lt_of_lt_of_le hlt hb.size, fun i hi => ?_⟩
      rw [hb.cell ⟨b, off + i, none⟩ hlt (by have := hne _ ha; exact this)]; exact hc i hi

theorem keepb {g : Nat} {w w' : World} (hb : But g w w') {p : Addr} {u : Value} (h : w.cell? p = some u) (hg : p.block ≠ g) : w'.cell? p = some u := by
  rw [hb.cell p (World.block_lt_of_cell? w p h) hg]; exact h

theorem But.step {g : Nat} {w w' : World} (h : But g w w') (j : Nat) (v : Value) : But g w (w'.setCell ⟨g, j, none⟩ v) :=
  ⟨h.low.setCell (Nat.le_refl _) v, by simpa [World.setCell] using h.size, fun q hq hg => by rw [World.cell?_setCell_other _ _ _ _ (fun e => hg (by rw [← e]))]; exact h.cell q hq hg⟩

/-- The cells of a block that may be written. -/
structure Lay (w : World) (B : Nat) (vs : List Value) : Prop where
  cell : ∀ i v, vs[i]? = some v → w.cell? ⟨B, i, none⟩ = some v
  ice : ∀ i, w.frozen? ⟨B, i, none⟩ = false
  lt : B < w.heap.size
theorem Lay.below {w w' : World} {B : Nat} {vs : List Value} (h : Lay w B vs) (hb : Below w.heap.size w w') : Lay w' B vs :=
  ⟨fun i v hv => keepc hb (h.cell i v hv), fun i => by rw [hb.frozen (by exact h.lt)]; exact h.ice i, Nat.lt_of_lt_of_le h.lt hb.size⟩
theorem Lay.made (w : World) (vs : List Value) (t : TypeId) : Lay (w.alloc (.cells vs.toArray t (0, 0))) w.heap.size vs :=
  ⟨fun i v hv => by rw [cell_of_row _ _ _ _ _ _ (heap_new w _)]; simpa using hv, fun i => by unfold World.frozen?; rw [show (w.alloc (.cells vs.toArray t (0, 0))).heap[(⟨w.heap.size, i, none⟩ : Addr).block]? = _ from heap_new w _]; simp, by simp⟩
theorem Lay.drew {w : World} {B : Nat} {vs : List Value} (h : Lay w B vs) : Lay w.drew B vs := ⟨h.cell, h.ice, h.lt⟩
theorem Lay.made1 (w : World) (o : Obj) (vs : List Value) (t : TypeId) : Lay ((w.alloc o).alloc (.cells vs.toArray t (0, 0))) (w.heap.size + 1) vs := by
  have h := Lay.made (w.alloc o) vs t
  simpa only [World.size_alloc] using h
theorem Lay.but {w w' : World} {B g : Nat} {vs : List Value} (h : Lay w B vs) (hb : But g w w') (hi : ∀ q : Addr, q.block < w.heap.size → w'.frozen? q = w.frozen? q) (hg : B ≠ g) : Lay w' B vs :=
  ⟨fun i v hv => keepb hb (h.cell i v hv) hg, fun i => by rw [hi _ h.lt]; exact h.ice i, Nat.lt_of_lt_of_le h.lt hb.size⟩
theorem Lay.set {w : World} {B : Nat} {vs : List Value} (h : Lay w B vs) (i : Nat) (v : Value) : Lay (w.setCell ⟨B, i, none⟩ v) B (vs.set i v) := by
  refine ⟨fun j u hu => ?_, fun j => by rw [World.frozen?_setCell]; exact h.ice j, by simpa [World.setCell] using h.lt⟩
  by_cases e : i = j
  · subst e
    have hi : i < vs.length := by have := (List.getElem?_eq_some_iff.1 hu).1; simpa using this
    rw [List.getElem?_set_self hi] at hu
    cases hu
    exact World.cell?_setCell_same _ _ _ (h.cell i vs[i] (by simp [hi]))
  · rw [List.getElem?_set_ne e] at hu
    rw [World.cell?_setCell_other _ _ _ _ (by simp [e])]
    exact h.cell j u hu
theorem Lay.far {w : World} {B : Nat} {vs : List Value} (h : Lay w B vs) (p : Addr) (v : Value) (hp : p.block ≠ B) : Lay (w.setCell p v) B vs :=
  ⟨fun i u hu => by rw [World.cell?_setCell_other _ _ _ _ (fun e => hp (by rw [e]))]; exact h.cell i u hu, fun i => by rw [World.frozen?_setCell]; exact h.ice i, by simpa [World.setCell] using h.lt⟩

theorem Ints.offs {w : World} {a : Option Addr} {n c : Nat} {l : List Int} (h : Ints w a n c l) {R : Nat} (hR : w.heap.size ≤ R) : n = 0 ∨ ∀ x, a = some x → x.block ≠ R := by
  rcases h.row with h0 | ⟨b, off, ha, hlt, _⟩
  · exact .inl h0
  · exact .inr fun x e => by rw [ha] at e; cases e; simp; omega
/-- w' is w, but that block g may hold other cells, and there may be more memory; what may be written may be as before. -/
structure ButI (g : Nat) (w w' : World) : Prop where
  but : But g w w'
  ice : ∀ q : Addr, q.block < w.heap.size → w'.frozen? q = w.frozen? q
theorem ButI.refl (g : Nat) (w : World) : ButI g w w := ⟨But.refl g w, fun _ _ => rfl⟩
theorem ButI.trans {g : Nat} {a b c : World} (h : ButI g a b) (k : ButI g b c) : ButI g a c := ⟨h.but.trans k.but, fun q hq => by rw [k.ice q (Nat.lt_of_lt_of_le hq h.but.size), h.ice q hq]⟩
theorem ButI.step {g : Nat} {w w' : World} (h : ButI g w w') (j : Nat) (v : Value) : ButI g w (w'.setCell ⟨g, j, none⟩ v) := ⟨h.but.step j v, fun q hq => by rw [World.frozen?_setCell]; exact h.ice q hq⟩
theorem ButI.of_below {g : Nat} {w w' : World} (h : Below w.heap.size w w') (hg : g ≤ w.heap.size) : ButI g w w' := ⟨But.of_below h hg, fun q hq => h.frozen hq⟩
/-- A block that was not there changed: nothing that was there did. -/
theorem ButI.below {g : Nat} {w w' : World} (h : ButI g w w') {B : Nat} (hB : B ≤ g) : Below B w w' := h.but.low.mono hB
theorem Lay.butI {w w' : World} {B g : Nat} {vs : List Value} (h : Lay w B vs) (hb : ButI g w w') (hg : B ≠ g) : Lay w' B vs := h.but hb.but hb.ice hg
/-- A block of the call's own changed last: seen from where the call began, only g did. -/
theorem ButI.own {g R : Nat} {w a b : World} (h : ButI g w a) (k : ButI R a b) (hR : w.heap.size ≤ R) (hg : g ≤ w.heap.size) : ButI g w b := by
  refine ⟨⟨h.but.low.trans (k.but.low.mono (by omega)), Nat.le_trans h.but.size k.but.size, fun q hq hne => ?_⟩, fun q hq => ?_⟩
  · rw [k.but.cell q (Nat.lt_of_lt_of_le hq h.but.size) (by omega), h.but.cell q hq hne]
  · rw [k.ice q (Nat.lt_of_lt_of_le hq h.but.size), h.ice q hq]


end Go.Proofs.YtgchgpgipdfhgacDoor

/- Records' values, and the contracts of note.Check, note.Same, note.number; no condition but that the arguments read as data, and the package-level variables are as their texts lay them. -/
namespace Go.Proofs.YtgchgpgipdfhgacDoor
open Go.RowKit
set_option linter.unusedVariables false
set_option maxRecDepth 100000
set_option linter.unusedSimpArgs false

/-- A record's value. -/
structure RV where
  p : PR
  a : Option Addr
  n : Nat
  c : Nat
def RV.v (x : RV) : Value := .agg #[.int .i64 x.p.w, .int .i64 x.p.s, .int .i64 x.p.c.k, .int .i64 x.p.c.z, .int .i64 x.p.c.n, .int .i64 x.p.c.at', .slice x.a x.n x.c]
def RV.ok (w : World) (x : RV) : Prop := Ints w x.a x.n x.c x.p.c.d
def RV.zero : RV := ⟨zeroR, none, 0, 0⟩
theorem RV.ok.below {w w' : World} {x : RV} (h : x.ok w) {B : Nat} (hb : Below B w w') (hB : w.heap.size ≤ B) : x.ok w' := Ints.below h hb hB
theorem RV.zero_ok (w : World) : RV.zero.ok w := Ints.nilSlice w
theorem RV.zero_p : RV.zero.p = zeroR := rfl
def RV.off (R : Nat) (x : RV) : Prop := x.n = 0 ∨ ∀ y, x.a = some y → y.block ≠ R
theorem RV.ok.but {w w' : World} {g : Nat} {x : RV} (h : x.ok w) (hb : But g w w') (ho : x.off g) : x.ok w' := Ints.but h hb ho
theorem RV.ok.off {w : World} {x : RV} (h : x.ok w) {R : Nat} (hR : w.heap.size ≤ R) : x.off R := Ints.offs h hR
def RV.cells (x : RV) : List Value := [.int .i64 x.p.w, .int .i64 x.p.s, .int .i64 x.p.c.k, .int .i64 x.p.c.z, .int .i64 x.p.c.n, .int .i64 x.p.c.at', .slice x.a x.n x.c]

theorem nwithin_c (n a b : Int) (w : World) : Calls Tryd.prog 50 #[.int .i64 n, .int .i64 a, .int .i64 b] w fun e w' => e = .returned (.bool (inB n a b)) ∧ w' = w := by
  go_enter Tryd.func50, Tryd.ntmps50
  go_wp2
  all_goals (go_ret; exact ⟨ret_bool (by unfold inB; rw [Bool.eq_iff_iff]; simp; try omega), rfl⟩)

set_option maxHeartbeats 1000000 in
theorem NCheck_c (x : RV) (w : World) (hS : Shapes w) (h : x.ok w) : Calls Tryd.prog 26 #[x.v] w fun e w' => e = .returned (.int .i64 (checkR x.p)) ∧ Below w.heap.size w w' := by
  obtain ⟨⟨q, s, ⟨k, z, m, t, d⟩⟩, a, n, c⟩ := x
  dsimp only [RV.v, RV.ok] at *
  have HC := hide (fun w' hS h' => cmdCheck_c a n c ⟨k, z, m, t, d⟩ w' hS h')
  have HK : Hid (checkR ⟨q, s, ⟨k, z, m, t, d⟩⟩ = if inB q 0 2 = false ∨ inB s 1 40 = false then 3 else checkC ⟨k, z, m, t, d⟩) := hide rfl
  unfold cmdV at HC
  dsimp only at HC
  go_enter Tryd.func26, Tryd.ntmps26
  go_wp2_with fail
  refine (nwithin_c _ _ _ _).mono ?_
  rintro e w1 ⟨rfl, rfl⟩
  cases h1 : inB q 0 2
  · go_wp2
    go_ret
    exact ⟨ret_int (by rw [HK.out]; simp [h1]), by (repeat (first | exact Below.refl _ _ | assumption | refine Below.drew ?_ | refine below_drewN ?_ _ | refine belowA ?_ _ | refine belowT ?_ (by assumption) | refine Below.setCell ?_ (by first | (simp; done) | (simp; omega)) _))⟩
  · go_wp2_with fail
    refine (nwithin_c _ _ _ _).mono ?_
    rintro e w1 ⟨rfl, rfl⟩
    cases h2 : inB s 1 40
    · go_wp2
      go_ret
      exact ⟨ret_int (by rw [HK.out]; simp [h2]), by (repeat (first | exact Below.refl _ _ | assumption | refine Below.drew ?_ | refine below_drewN ?_ _ | refine belowA ?_ _ | refine belowT ?_ (by assumption) | refine Below.setCell ?_ (by first | (simp; done) | (simp; omega)) _))⟩
    · go_wp2_with fail
      refine (HC.out _ (hS.below (by (repeat (first | exact Below.refl _ _ | assumption | refine Below.drew ?_ | refine below_drewN ?_ _ | refine belowA ?_ _ | refine belowT ?_ (by assumption) | refine Below.setCell ?_ (by first | (simp; done) | (simp; omega)) _)))) (h.below (B := w.heap.size) (by (repeat (first | exact Below.refl _ _ | assumption | refine Below.drew ?_ | refine below_drewN ?_ _ | refine belowA ?_ _ | refine belowT ?_ (by assumption) | refine Below.setCell ?_ (by first | (simp; done) | (simp; omega)) _))) (Nat.le_refl _))).mono ?_
      rintro e w3 ⟨rfl, hb3⟩
      go_wp2
      go_ret
      exact ⟨ret_int (by rw [HK.out]; simp [h1, h2]), by (repeat (first | exact Below.refl _ _ | assumption | refine Below.drew ?_ | refine below_drewN ?_ _ | refine belowA ?_ _ | refine belowT ?_ (by assumption) | refine Below.setCell ?_ (by first | (simp; done) | (simp; omega)) _))⟩

set_option maxHeartbeats 1000000 in
theorem NSame_c (x y : RV) (w : World) (h : x.ok w) (k : y.ok w) : Calls Tryd.prog 27 #[x.v, y.v] w fun e w' => e = .returned (.bool (sameR x.p y.p)) ∧ Below w.heap.size w w' := by
  obtain ⟨⟨q1, s1, ⟨k1, z1, m1, t1, d1⟩⟩, a1, n1, c1⟩ := x
  obtain ⟨⟨q2, s2, ⟨k2, z2, m2, t2, d2⟩⟩, a2, n2, c2⟩ := y
  dsimp only [RV.v, RV.ok] at *
  have HC := hide (fun w' h1 h2 => cmdSame_c a1 a2 n1 n2 c1 c2 ⟨k1, z1, m1, t1, d1⟩ ⟨k2, z2, m2, t2, d2⟩ w' h1 h2)
  have HK : Hid (sameR ⟨q1, s1, ⟨k1, z1, m1, t1, d1⟩⟩ ⟨q2, s2, ⟨k2, z2, m2, t2, d2⟩⟩ = (q1 == q2 && s1 == s2 && sameC ⟨k1, z1, m1, t1, d1⟩ ⟨k2, z2, m2, t2, d2⟩)) := hide (by
    rw [Bool.eq_iff_iff]
    simp [sameR])
  unfold cmdV at HC
  dsimp only at HC
  go_enter Tryd.func27, Tryd.ntmps27
  cases e1 : q1 == q2
  · go_wp2
    go_ret
    exact ⟨ret_bool (by rw [HK.out, e1]; rfl), by (repeat (first | exact Below.refl _ _ | assumption | refine Below.drew ?_ | refine below_drewN ?_ _ | refine belowA ?_ _ | refine belowT ?_ (by assumption) | refine Below.setCell ?_ (by first | (simp; done) | (simp; omega)) _))⟩
  · cases e2 : s1 == s2
    · go_wp2
      go_ret
      exact ⟨ret_bool (by rw [HK.out, e1, e2]; rfl), by (repeat (first | exact Below.refl _ _ | assumption | refine Below.drew ?_ | refine below_drewN ?_ _ | refine belowA ?_ _ | refine belowT ?_ (by assumption) | refine Below.setCell ?_ (by first | (simp; done) | (simp; omega)) _))⟩
    · go_wp2_with fail
      refine (HC.out _ (h.below (B := w.heap.size) (by (repeat (first | exact Below.refl _ _ | assumption | refine Below.drew ?_ | refine below_drewN ?_ _ | refine belowA ?_ _ | refine belowT ?_ (by assumption) | refine Below.setCell ?_ (by first | (simp; done) | (simp; omega)) _))) (Nat.le_refl _)) (k.below (B := w.heap.size) (by (repeat (first | exact Below.refl _ _ | assumption | refine Below.drew ?_ | refine below_drewN ?_ _ | refine belowA ?_ _ | refine belowT ?_ (by assumption) | refine Below.setCell ?_ (by first | (simp; done) | (simp; omega)) _))) (Nat.le_refl _))).mono ?_
      rintro e w3 ⟨rfl, hb3⟩
      go_wp2
      go_ret
      exact ⟨ret_bool (by rw [HK.out, e1, e2]; rfl), by (repeat (first | exact Below.refl _ _ | assumption | refine Below.drew ?_ | refine below_drewN ?_ _ | refine belowA ?_ _ | refine belowT ?_ (by assumption) | refine Below.setCell ?_ (by first | (simp; done) | (simp; omega)) _))⟩

/-- A number's text. -/
def itoaB (v : Int) : ByteArray := ⟨(Lib.itoa v).toArray⟩

theorem atoiAll_wf {l : List UInt8} {v : Int} (h : Lib.atoiAll l = .ok v) : -9223372036854775808 ≤ v ∧ v ≤ 9223372036854775807 := by
  have := Lib.parseIntB_bounds (show Lib.parseIntB 64 l = .ok v by rw [Lib.parseIntB_64]; exact h)
  simp at this
  omega

/-- What a word read as a number answers. -/
def NumRes (s : ByteArray) (e : Ending) : Prop := ∃ v f, e = .returned (.tuple #[.int .i64 v, .bool f]) ∧ (f = true → num s.data.toList = some v) ∧ (f = false → num s.data.toList = none)

set_option maxHeartbeats 1000000 in
theorem number_c (s : ByteArray) (hs : s.size ≤ 281474976710656) (w : World) (hE : Env w) : Calls Tryd.prog 78 #[.string s] w fun e w' => NumRes s e ∧ Below w.heap.size w w' := by
  by_cases hok : ∃ v, Lib.atoiAll s.data.toList = .ok v
  · obtain ⟨v, hv⟩ := hok
    have hw := atoiAll_wf hv
    have HN : Hid (num s.data.toList = if Lib.itoa v = s.data.toList then some v else none) := hide (by rw [num_eq, hv])
    have HI := hide (fun w' h' => Itoa_c v hw w' h')
    have HE : Hid (((⟨(Lib.itoa v).toArray⟩ : ByteArray) == s) = decide (Lib.itoa v = s.data.toList)) := hide (by
      by_cases e : Lib.itoa v = s.data.toList
      · rw [beq_t (bytes_eq e)]; simp [e]
      · rw [beq_f (fun e' => e (by rw [← e']))]; simp [e])
    generalize hx : (⟨(Lib.itoa v).toArray⟩ : ByteArray) = x at *
    clear hx
    go_enter Tryd.func78, Tryd.ntmps78
    go_wp2_with fail
    refine (Atoi_ok_c s hs v hv _).mono ?_
    rintro e w1 ⟨rfl, hb1⟩
    have E1 := hE.below hb1
    go_wp2_with fail
    refine (HI.out _ E1).mono ?_
    rintro e w2 ⟨rfl, hb2⟩
    have he := HE.out
    cases hd : decide (Lib.itoa v = s.data.toList)
    · rw [hd] at he
      have he2 : (x.toList == s.toList) = false := by rw [← beq_toListBytes]; exact he
      have he3 : ¬ (x.toList = s.toList) := by simpa using he2
      go_wp2
      refine bodyPost_ret (v := .tuple #[.int .i64 v, .bool false]) (by simp [results, Tryd.results78, go_sem, he3]) rfl ⟨⟨v, false, rfl, (fun h => by cases h), fun _ => ?_⟩, by (repeat (first | exact Below.refl _ _ | assumption | refine Below.drew ?_ | refine below_drewN ?_ _ | refine belowA ?_ _ | refine belowT ?_ (by assumption) | refine Below.setCell ?_ (by first | (simp; done) | (simp; omega)) _))⟩
      rw [HN.out, if_neg (of_decide_eq_false hd)]
    · rw [hd] at he
      have he2 : (x.toList == s.toList) = true := by rw [← beq_toListBytes]; exact he
      have he3 : x.toList = s.toList := by simpa using he2
      go_wp2
      refine bodyPost_ret (v := .tuple #[.int .i64 v, .bool true]) (by simp [results, Tryd.results78, go_sem, he3]) rfl ⟨⟨v, true, rfl, fun _ => ?_, (fun h => by cases h)⟩, by (repeat (first | exact Below.refl _ _ | assumption | refine Below.drew ?_ | refine below_drewN ?_ _ | refine belowA ?_ _ | refine belowT ?_ (by assumption) | refine Below.setCell ?_ (by first | (simp; done) | (simp; omega)) _))⟩
      rw [HN.out, if_pos (of_decide_eq_true hd)]
  · have hn : ∀ v, Lib.atoiAll s.data.toList ≠ .ok v := fun v h => hok ⟨v, h⟩
    have HN : Hid (num s.data.toList = none) := hide (by
      rw [num_eq]
      cases h : Lib.atoiAll s.data.toList with
      | ok v => exact absurd h (hn v)
      | «syntax» => rfl
      | range => rfl)
    go_enter Tryd.func78, Tryd.ntmps78
    go_wp2_with fail
    refine (Atoi_bad_c s hs hn _ hE).mono ?_
    rintro e w1 ⟨⟨v, N, rfl⟩, hb1⟩
    go_wp2
    exact bodyPost_ret (v := .tuple #[.int .i64 v, .bool false]) (by simp [results, Tryd.results78, go_sem]) rfl ⟨⟨v, false, rfl, (fun h => by cases h), fun _ => HN.out⟩, by (repeat (first | exact Below.refl _ _ | assumption | refine Below.drew ?_ | refine below_drewN ?_ _ | refine belowA ?_ _ | refine belowT ?_ (by assumption) | refine Below.setCell ?_ (by first | (simp; done) | (simp; omega)) _))⟩

end Go.Proofs.YtgchgpgipdfhgacDoor

/- How the arguments of the laws read: a record; no condition. -/
namespace Go.Proofs.YtgchgpgipdfhgacDoor
open Go.ChangeShapes Go.WideShapes Go.ChangeAt Go.RowKit Go.Joins Go.ChangeMaps
set_option linter.unusedVariables false
set_option maxRecDepth 100000
set_option linter.unusedSimpArgs false

set_option maxRecDepth 100000 in
/-- The cells of a command, read. -/
theorem cmd_of {H : Type} {enc : TypeId × Value → H} {W : World} {fuel : Nat} {cs : List Value} {y : DataW H × List MemPlace}
    (h : DataW.trod enc Tryd.prog W 0 (fun _ => true) true fuel 24 cs = some y) : ∃ a n c, ∃ b : PC, cs = [.int .i64 b.k, .int .i64 b.z, .int .i64 b.n, .int .i64 b.at', .slice a n c] ∧ Ints W a n c b.d := by
  obtain ⟨xs, n, _, _, hl, hlen, hfs⟩ := DataW.trod_struct Tryd.underlying24 h
  rw [cellsCmd] at hl
  obtain ⟨v0, v1, v2, v3, v4, rfl⟩ := list5 hl
  obtain ⟨y0, y1, y2, y3, y4, rfl⟩ := list5 hlen
  have g0 := hfs 0 _ rfl
  have g1 := hfs 1 _ rfl
  have g2 := hfs 2 _ rfl
  have g3 := hfs 3 _ rfl
  have g4 := hfs 4 _ rfl
  have c3 : Tryd.prog.cellsOf 3 = 1 := by kernel_rfl
  have c22 : Tryd.prog.cellsOf 22 = 1 := by kernel_rfl
  simp [c3, c22] at g0 g1 g2 g3 g4
  obtain ⟨k, e0, _, _⟩ := DataW.trod_int Tryd.underlying3 g0
  obtain ⟨z, e1, _, _⟩ := DataW.trod_int Tryd.underlying3 g1
  obtain ⟨nn, e2, _, _⟩ := DataW.trod_int Tryd.underlying3 g2
  obtain ⟨t, e3, _, _⟩ := DataW.trod_int Tryd.underlying3 g3
  simp at e0 e1 e2 e3
  subst e0 e1 e2 e3
  obtain ⟨a, n, c, l, rfl, hi⟩ := ints_of g4
  exact ⟨a, n, c, ⟨k, z, nn, t, l⟩, rfl, hi⟩

theorem cellsRec : Tryd.prog.cellsOf 54 = 7 := by kernel_rfl

set_option maxRecDepth 100000 in
/-- The cells of a record, read. -/
theorem rec_of {H : Type} {enc : TypeId × Value → H} {W : World} {fuel : Nat} {cs : List Value} {y : DataW H × List MemPlace}
    (h : DataW.trod enc Tryd.prog W 0 (fun _ => true) true fuel 54 cs = some y) : ∃ x : RV, cs = x.cells ∧ x.ok W := by
  obtain ⟨y0, y1, y2, n, _, hl, h0, h1, h2⟩ := Go.Deep.trod_struct3 Tryd.underlying54 h
  rw [cellsRec] at hl
  match cs, hl with
  | [v0, v1, v2, v3, v4, v5, v6], _ =>
    have k0 : DataW.trod enc Tryd.prog W 0 (fun _ => true) true n 3 [v0] = some y0 := h0
    have k1 : DataW.trod enc Tryd.prog W 0 (fun _ => true) true n 3 [v1] = some y1 := h1
    have k2 : DataW.trod enc Tryd.prog W 0 (fun _ => true) true n 24 [v2, v3, v4, v5, v6] = some y2 := h2
    obtain ⟨q, e0, _, _⟩ := DataW.trod_int Tryd.underlying3 k0
    obtain ⟨s, e1, _, _⟩ := DataW.trod_int Tryd.underlying3 k1
    simp at e0 e1
    subst e0 e1
    obtain ⟨a, n, c, b, e, hi⟩ := cmd_of k2
    exact ⟨⟨⟨q, s, b⟩, a, n, c⟩, by rw [e]; rfl, hi⟩

theorem array7 {α : Type} {cs : Array α} (h : cs.size = 7) : ∃ c0 c1 c2 c3 c4 c5 c6, cs = #[c0, c1, c2, c3, c4, c5, c6] := by
  obtain ⟨l⟩ := cs
  match l, h with
  | [c0, c1, c2, c3, c4, c5, c6], _ => exact ⟨c0, c1, c2, c3, c4, c5, c6, rfl⟩

theorem rec_arg {H : Type} {enc : TypeId × Value → H} {W : World} {base : Nat} {v : Value} {d : DataW H} {p : List MemPlace} (hv : Value.okWide Tryd.prog W .any base 54 v)
    (h : DataW.Trod enc Tryd.prog W 0 (fun _ => true) true 54 v d p) : ∃ x : RV, v = x.v ∧ x.ok W := by
  obtain ⟨cs, rfl, hsz⟩ := okWide_struct Tryd.underlying54 hv
  obtain ⟨v0, v1, v2, v3, v4, v5, v6, rfl⟩ := array7 (hsz.trans cellsRec)
  obtain ⟨fuel, hf⟩ := h
  obtain ⟨x, e, hx⟩ := rec_of (by simpa [Value.cells] using hf)
  simp [RV.cells] at e
  obtain ⟨rfl, rfl, rfl, rfl, rfl, rfl, rfl⟩ := e
  exact ⟨x, rfl, hx⟩

end Go.Proofs.YtgchgpgipdfhgacDoor

/- What a row's list gives of the table of kinds; no condition. -/
namespace Go.Proofs.YtgchgpgipdfhgacDoor
open Go.RowKit
set_option linter.unusedVariables false
set_option maxRecDepth 100000
set_option linter.unusedSimpArgs false

theorem laid_at {P : Program} {w : World} : ∀ {laid : List (String × DataW Unit)} {ps : List MemPlace}, DataW.LaidVars P w laid ps → ∀ {n : String} {d : DataW Unit}, (n, d) ∈ laid →
    ∃ g t cs fuel p, P.globalNamed n = some g ∧ (P.globals[g]?).map (·.type) = some t ∧ w.var? P n = some cs ∧ DataW.trod (fun _ => ()) P w 0 (fun _ => true) false fuel t cs.toList = some (d, p)
  | [], _, _, _, _, h => by cases h
  | (n, d) :: r, ps, hl, n', d', h => by
    obtain ⟨g, t, cs, fuel, p, q, h1, h2, h3, h4, h5, _⟩ := hl
    rcases List.mem_cons.1 h with e | h
    · cases e
      exact ⟨g, t, cs, fuel, p, h1, h2, h3, h4⟩
    · exact laid_at h5 h

theorem gShapes : Tryd.prog.globalNamed "quayhand/cmd.shapes" = some 0 := by kernel_rfl
theorem tShapes : (Tryd.prog.globals[0]?).map (·.type) = some 65 := by kernel_rfl

set_option maxRecDepth 100000 in
theorem shapes_cells : (Rows.laid_quayhand_cmd_shapes : DataW Unit).flat.map Lit.toCell = ((List.range 13).flatMap fun k => [.string (word k), .bool (hasZ k), .bool (hasA k), .bool (hasN k), .bool (hasD k)]) := by rfl

theorem flat_get (f : Nat → List Value) (h5 : ∀ k, (f k).length = 5) : ∀ (n k j : Nat), k < n → j < 5 → ((List.range n).flatMap f)[k * 5 + j]? = (f k)[j]?
  | 0, k, j, hk, _ => by omega
  | n + 1, k, j, hk, hj => by
    have hlen : ∀ m, ((List.range m).flatMap f).length = m * 5 := by
      intro m
      induction m with
      | zero => rfl
      | succ m ih => rw [List.range_succ, List.flatMap_append, List.length_append, ih]; simp [h5]; omega
    rw [List.range_succ, List.flatMap_append]
    by_cases hkn : k < n
    · rw [List.getElem?_append_left (by rw [hlen]; omega)]
      exact flat_get f h5 n k j hkn hj
    · obtain rfl : k = n := by omega
      rw [List.getElem?_append_right (by rw [hlen]; omega), hlen]
      simp

set_option maxRecDepth 100000 in
theorem shapes_of {W : World} {laid : List (String × DataW Unit)} (hL : laidMet Tryd.prog laid W) (m4 : ("quayhand/cmd.shapes", Rows.laid_quayhand_cmd_shapes) ∈ laid) : Shapes W := by
  obtain ⟨ps, hv, _, _⟩ := hL
  obtain ⟨g, t, cs, fuel, p, h1, h2, h3, h4⟩ := laid_at hv m4
  obtain rfl := Option.some.inj (gShapes.symm.trans h1)
  obtain rfl := Option.some.inj (tShapes.symm.trans h2)
  have h5 := (keyLits_of_trod 5 65 (by kernel_rfl) _ _ _ h4).1
  have h6 := cells_of_lits 5 65 (by kernel_rfl) _ _ _ h5
  rw [shapes_cells] at h6
  have hc : ∀ k j, k ≤ 12 → j < 5 → W.cell? ⟨0, k * 5 + j, none⟩ = ([.string (word k), .bool (hasZ k), .bool (hasA k), .bool (hasN k), .bool (hasD k)] : List Value)[j]? := by
    intro k j hk hj
    rw [World.var?_cell gShapes h3, ← Array.getElem?_toList, h6]
    exact flat_get _ (fun k => rfl) 13 k j (by omega) hj
  exact ⟨fun k hk => hc k 0 hk (by omega), fun k hk => hc k 1 hk (by omega), fun k hk => hc k 2 hk (by omega), fun k hk => hc k 3 hk (by omega), fun k hk => hc k 4 hk (by omega)⟩

end Go.Proofs.YtgchgpgipdfhgacDoor
