/- Bytes, disks and lists of records in memory; plain mathematics, no condition. -/
import Derived.Test.YtcbgkjmcdjpgcaaGreatDoorDiskSaysG8
import Derived.Test.YtcbgkjmcdjpgcaaGreatDoorDiskSaysG6
import Derived.Deep.AppendLies
import Derived.Shelf.Bytes.SlEqualAll
import Derived.SizedLaws
import Derived.Test.YtcbgkjmcdjpgcaaGreatDoorRows
import Derived.Test.YtcbgkjmcdjpgcaaGreatDoorDiskSaysG2
import Derived.Stop.LaidErr
import Derived.Shelf.Vars
import Derived.MapViews
import Derived.DeepKeys2
import Derived.Lib.LaidTab
import Derived.Test.YtcbgkjmcdjpgcaaGreatDoorDiskSaysG4
namespace Go.Proofs.YtcbgkjmcdjpgcaaGreatDoor
open Go.RowKit
set_option linter.unusedVariables false
set_option maxRecDepth 100000
set_option linter.unusedSimpArgs false

theorem bytC_drop (l : List UInt8) (k : Nat) : (bytC l).drop k = bytC (l.drop k) := by simp [bytC]
/-- Bytes from the j-th on. -/
theorem Byts.drop {w : World} {a : Option Addr} {n c : Nat} {l : List UInt8} (h : Byts w a n c l) {j : Nat} (hj : j ≤ n) : Byts w (if c = j then a else a.map (fun x => x.add j)) (n - j) (c - j) (l.drop j) := by
  have hlen := h.len
  have hle : n ≤ c := Cel.le h
  have hmax := Cel.max h
  refine ⟨by rw [bytC_len, List.length_drop, hlen], by omega, by omega, fun e => ?_, ?_⟩
  · by_cases hcj : c = j
    · omega
    · rw [if_neg hcj] at e
      cases ha : a with
      | none => have := Cel.nil h ha; omega
      | some x => rw [ha] at e; cases e
  · rcases Cel.row h with h0 | ⟨b, off, ha, hlt, hc⟩
    · exact .inl (by omega)
    · by_cases hcj : c = j
      · exact .inl (by omega)
      · refine .inr ⟨b, off + j, by rw [if_neg hcj, ha]; simp [addr_add], hlt, fun i v hv => ?_⟩
        rw [← bytC_drop, List.getElem?_drop] at hv
        rw [Nat.add_assoc]
        exact hc (j + i) v hv

/-- Bytes as numbers. -/
def numsB (l : List UInt8) : List Int := l.map fun b => (b.toNat : Int)
theorem numsB_len (l : List UInt8) : (numsB l).length = l.length := by simp [numsB]
theorem bytesOf_nums (l : List UInt8) : Lib.bytesOf (numsB l) = l := by simp [numsB, Lib.bytesOf, Function.comp_def]
theorem strOf_nums (l : List UInt8) : strOfNums (numsB l) = ⟨l.toArray⟩ := by simp [numsB, strOfNums, Function.comp_def]
theorem numsB_byte (l : List UInt8) : ∀ x ∈ numsB l, 0 ≤ x ∧ x < 256 := by
  intro x hx
  simp only [numsB, List.mem_map] at hx
  obtain ⟨b, _, rfl⟩ := hx
  have := b.toNat_lt
  omega
theorem Byts.into {w : World} {a : Option Addr} {n c : Nat} {l : List UInt8} (h : Byts w a n c l) : Lib.BytesIn w a n (numsB l) := by
  intro hn
  have hlen := h.len
  rcases Cel.row h with h0 | ⟨b, off, ha, hlt, hc⟩
  · omega
  · refine ⟨b, off, ha, fun i hi => ?_⟩
    rw [hc i _ (bytC_get l i (by omega))]
    simp [numsB, List.getD, hlen, hi]
theorem Byts.text {w : World} {a : Option Addr} {n c : Nat} {l : List UInt8} (h : Byts w a n c l) {P : Program} {src e dst : TypeId} (hs : P.underlying src = some (.slice e)) (he : P.underlying e = some (.int .u8)) (hd : P.underlying dst = some .string) :
    (convert src dst (.slice a n c)).run P w = .ok (.string ⟨l.toArray⟩) w := by
  rw [← strOf_nums]
  exact h.into.convert (by rw [numsB_len, h.len]) c src e dst hs he hd

/-- A disk's value. -/
structure KV where
  p : PK
  a : Option Addr
  n : Nat
  c : Nat
  b : Option Addr
  m : Nat
  d : Nat
def KV.v (x : KV) : Value := .agg #[.slice x.a x.n x.c, .slice x.b x.m x.d]
def KV.cells (x : KV) : List Value := [.slice x.a x.n x.c, .slice x.b x.m x.d]
structure KV.ok (w : World) (x : KV) : Prop where
  s : Byts w x.a x.n x.c x.p.s
  w : Byts w x.b x.m x.d x.p.w
def KV.zero : KV := ⟨zeroK, none, 0, 0, none, 0, 0⟩
theorem KV.zero_ok (w : World) : KV.zero.ok w := ⟨Byts.nilSlice w, Byts.nilSlice w⟩
theorem KV.ok.below {w w' : World} {x : KV} (h : x.ok w) (hb : Below w.heap.size w w') : x.ok w' := ⟨h.s.below hb (Nat.le_refl _), h.w.below hb (Nat.le_refl _)⟩
/-- It lies in memory from B on. -/
structure KV.fresh (B : Nat) (x : KV) : Prop where
  s : ∀ y, x.a = some y → B ≤ y.block
  w : ∀ y, x.b = some y → B ≤ y.block
theorem KV.zero_fresh (B : Nat) : KV.zero.fresh B := ⟨fun y e => (by cases e), fun y e => (by cases e)⟩
theorem KV.fresh.mono {B B' : Nat} {x : KV} (h : x.fresh B) (hB : B' ≤ B) : x.fresh B' := ⟨fun y e => Nat.le_trans hB (h.s y e), fun y e => Nat.le_trans hB (h.w y e)⟩
theorem KV.ok.but {w w' : World} {g : Nat} {x : KV} (h : x.ok w) (hb : But g w w') {B : Nat} (hn : x.fresh B) (hg : g < B) : x.ok w' :=
  ⟨h.s.but hb (.inr fun y e => by have := hn.s y e; omega), h.w.but hb (.inr fun y e => by have := hn.w y e; omega)⟩

/-- The cells of records. -/
def rcells (X : List RV) : List Value := X.flatMap RV.cells
theorem rcells_cons (x : RV) (X : List RV) : rcells (x :: X) = x.cells ++ rcells X := by simp [rcells]
theorem rcells_app (X Y : List RV) : rcells (X ++ Y) = rcells X ++ rcells Y := by simp [rcells]
theorem rcells_snoc (X : List RV) (x : RV) : rcells (X ++ [x]) = rcells X ++ x.cells := by simp [rcells]
theorem RV.cells_len (x : RV) : x.cells.length = 7 := rfl
theorem rcells_len : ∀ X : List RV, (rcells X).length = X.length * 7
  | [] => rfl
  | x :: X => by rw [rcells_cons, List.length_append, rcells_len X, x.cells_len, List.length_cons]; omega
theorem rcells_get : ∀ (X : List RV) (i : Nat) (x : RV), X[i]? = some x → ∀ j v, x.cells[j]? = some v → (rcells X)[i * 7 + j]? = some v
  | [], i, x, h, _, _, _ => by simp at h
  | y :: X, 0, x, h, j, v, hv => by
    have hj : j < 7 := (List.getElem?_eq_some_iff.1 hv).1
    simp at h
    subst h
    rw [rcells_cons, List.getElem?_append_left (by rw [RV.cells_len]; omega)]
    simpa using hv
  | y :: X, i + 1, x, h, j, v, hv => by
    rw [rcells_cons, List.getElem?_append_right (by rw [RV.cells_len]; omega), RV.cells_len, show (i + 1) * 7 + j - 7 = i * 7 + j by omega]
    exact rcells_get X i x (by simpa using h) j v hv
theorem RV.cells_one (x : RV) : ∀ v ∈ x.cells, v.oneCell' = true := by
  intro v hx
  simp only [RV.cells, List.mem_cons, List.not_mem_nil, or_false] at hx
  rcases hx with rfl | rfl | rfl | rfl | rfl | rfl | rfl <;> rfl
theorem rcells_one (X : List RV) : ∀ v ∈ rcells X, v.oneCell' = true := by
  intro v hv
  simp only [rcells, List.mem_flatMap] at hv
  obtain ⟨x, _, hx⟩ := hv
  exact x.cells_one v hx

/-- A slice value's records. -/
structure Recs (w : World) (a : Option Addr) (n c : Nat) (X : List RV) : Prop where
  len : X.length = n
  le : n ≤ c
  max : c ≤ 9223372036854775807
  nil : a = none → c = 0
  row : n = 0 ∨ ∃ b off, a = some ⟨b, off, none⟩ ∧ b < w.heap.size ∧ ∀ i x, X[i]? = some x → ∀ j v, x.cells[j]? = some v → w.cell? ⟨b, off + i * 7 + j, none⟩ = some v
  ok : ∀ x ∈ X, x.ok w
theorem Recs.below {w w' : World} {a : Option Addr} {n c : Nat} {X : List RV} (h : Recs w a n c X) {B : Nat} (hb : Below B w w') (hB : w.heap.size ≤ B) : Recs w' a n c X := by
  refine ⟨h.len, h.le, h.max, h.nil, ?_, fun x hx => (h.ok x hx).below hb hB⟩
  rcases h.row with h0 | ⟨b, off, ha, hlt, hc⟩
  · exact .inl h0
  · refine .inr ⟨b, off, ha, Nat.lt_of_lt_of_le hlt hb.size, fun i x hx j v hv => ?_⟩
    rw [hb.cell (p := ⟨b, off + i * 7 + j, none⟩) (Nat.lt_of_lt_of_le hlt hB)]
    exact hc i x hx j v hv
theorem Recs.nilSlice (w : World) : Recs w none 0 0 [] := ⟨rfl, Nat.le_refl _, by omega, fun _ => rfl, .inl rfl, by simp⟩
theorem Recs.take {w : World} {a : Option Addr} {n c : Nat} {X : List RV} (h : Recs w a n c X) {k : Nat} (hk : k ≤ n) : Recs w a k c (X.take k) := by
  refine ⟨by rw [List.length_take, h.len]; omega, Nat.le_trans hk h.le, h.max, h.nil, ?_, fun x hx => h.ok x (List.mem_of_mem_take hx)⟩
  rcases h.row with h0 | ⟨b, off, ha, hlt, hc⟩
  · exact .inl (by omega)
  · refine .inr ⟨b, off, ha, hlt, fun i x hx => hc i x ?_⟩
    have hi := (List.getElem?_eq_some_iff.1 hx).1
    rw [List.length_take] at hi
    rwa [List.getElem?_take_of_lt (by omega)] at hx
/-- The list and the records' data lie in memory from B on. -/
structure FreshR (B : Nat) (a : Option Addr) (X : List RV) : Prop where
  a : ∀ y, a = some y → B ≤ y.block
  d : ∀ x ∈ X, ∀ y, x.a = some y → B ≤ y.block
theorem FreshR.mono {B B' : Nat} {a : Option Addr} {X : List RV} (h : FreshR B a X) (hB : B' ≤ B) : FreshR B' a X := ⟨fun y e => Nat.le_trans hB (h.a y e), fun x hx y e => Nat.le_trans hB (h.d x hx y e)⟩
theorem FreshR.nil (B : Nat) : FreshR B none [] := ⟨fun y e => (by cases e), fun x hx => (by cases hx)⟩
theorem Recs.but {w w' : World} {g : Nat} {a : Option Addr} {n c : Nat} {X : List RV} (h : Recs w a n c X) (hb : But g w w') {B : Nat} (hn : FreshR B a X) (hg : g < B) : Recs w' a n c X := by
  refine ⟨h.len, h.le, h.max, h.nil, ?_, fun x hx => (h.ok x hx).but hb (.inr fun y e => by have := hn.d x hx y e; omega)⟩
  rcases h.row with h0 | ⟨b, off, ha, hlt, hc⟩
  · exact .inl h0
  · refine .inr ⟨b, off, ha, Nat.lt_of_lt_of_le hlt hb.size, fun i x hx j v hv => ?_⟩
    have := hn.a _ ha
    simp at this
    rw [hb.cell ⟨b, off + i * 7 + j, none⟩ hlt (by simp; omega)]
    exact hc i x hx j v hv

theorem Ints.grown {w w' : World} {row : Option Nat} {a : Option Addr} {n c : Nat} {l : List Int} (h : Ints w a n c l) (hg : w.grownBy w' row) (hne : n = 0 ∨ ∀ x, a = some x → some x.block ≠ row) : Ints w' a n c l := by
  refine ⟨h.len, h.le, h.max, h.nil, ?_, h.wf⟩
  rcases hne with h0 | hne
  · exact .inl h0
  · rcases h.row with h0 | ⟨b, off, ha, hlt, hc⟩
    · exact .inl h0
    · exact .inr ⟨b, off, ha, Nat.lt_of_lt_of_le hlt hg.size, fun i hi => hg.cell (hc i hi) (by have := hne _ ha; exact this)⟩

/-- An owned list of records. -/
structure OwnR (w : World) (base : Nat) (v : Value) (X : List RV) : Prop where
  own : w.ownsRow base 29 7 v X.length (rcells X)
  ok : ∀ x ∈ X, x.ok w
  off : ∀ x ∈ X, ∀ g, v.ownBlock = some g → x.off g
theorem OwnR.nil (w : World) (base : Nat) : OwnR w base (.slice none 0 0) [] := ⟨World.ownsRow_nil w base _ 7, by simp, by simp⟩
/-- The records' data lie in memory from B on. -/
def FromD (B : Nat) (X : List RV) : Prop := ∀ x ∈ X, ∀ y, x.a = some y → B ≤ y.block
theorem FromD.nil (B : Nat) : FromD B [] := fun x hx => by cases hx
theorem FromD.snoc {B : Nat} {X : List RV} {x : RV} (h : FromD B X) (hx : ∀ y, x.a = some y → B ≤ y.block) : FromD B (X ++ [x]) := by
  intro y hy
  rcases List.mem_append.1 hy with hy | hy
  · exact h y hy
  · obtain rfl : y = x := by simpa using hy
    exact hx
theorem FromD.mono {B B' : Nat} {X : List RV} (h : FromD B X) (hB : B' ≤ B) : FromD B' X := fun x hx y e => Nat.le_trans hB (h x hx y e)
theorem grown_below {w w' : World} (hb : Below w.heap.size w w') : w.grownBy w' none := ⟨hb.os, hb.tape, hb.output, hb.size, fun k hk _ => hb.block k hk⟩
theorem OwnR.below {w w' : World} {base : Nat} {v : Value} {X : List RV} (h : OwnR w base v X) (hb : Below w.heap.size w w') : OwnR w' base v X :=
  ⟨h.own.kept (grown_below hb) (by cases v.ownBlock <;> simp), fun x hx => (h.ok x hx).below hb (Nat.le_refl _), h.off⟩
theorem OwnR.mono {w : World} {base base' : Nat} {v : Value} {X : List RV} (h : OwnR w base v X) (hb : base' ≤ base) : OwnR w base' v X := by
  refine ⟨⟨h.own.1, ?_⟩, h.ok, h.off⟩
  rcases h.own.2 with h | ⟨g, cap, cur, e, hg, r⟩
  · exact .inl h
  · exact .inr ⟨g, cap, cur, e, Nat.le_trans hb hg, r⟩
theorem OwnR.recs {w : World} {base : Nat} {v : Value} {X : List RV} (h : OwnR w base v X) : ∃ a c, v = .slice a X.length c ∧ Recs w a X.length c X ∧ ∀ y, a = some y → base ≤ y.block := by
  rcases h.own.2 with ⟨rfl, h0⟩ | ⟨g, cap, cur, rfl, hb, hg, hn, hm, hs, hc⟩
  · rw [List.length_eq_zero_iff] at h0
    subst h0
    exact ⟨none, 0, rfl, Recs.nilSlice w, fun y e => by cases e⟩
  · refine ⟨_, cap, rfl, ?_, fun x e => by cases e; exact hb⟩
    refine ⟨rfl, hn, by simp [maxLen] at hm; omega, fun e => (by cases e), .inr ⟨g, 0, rfl, (Array.getElem?_eq_some_iff.1 hg).1, fun i x hx j v hv => ?_⟩, h.ok⟩
    have hj : j < 7 := (List.getElem?_eq_some_iff.1 hv).1
    have hi := (List.getElem?_eq_some_iff.1 hx).1
    have hr := rcells_get X i x hx j v hv
    rw [← hc, List.getElem?_take, if_pos (by omega)] at hr
    rw [cell_of_row w g _ _ _ _ hg, Nat.zero_add]
    simpa using hr
/-- One more record. -/
theorem OwnR.snoc {w w' : World} {base : Nat} {v : Value} {X : List RV} {x : RV} {g cap : Nat} (h : OwnR w base v X) (hx : x.ok w) (ho : ∀ g, v.ownBlock = some g → x.off g)
    (hown : w'.ownsRow base 29 7 (.slice (some ⟨g, 0, none⟩) (X.length + 1) cap) (X.length + 1) (rcells X ++ x.cells)) (hg : w.grownBy w' v.ownBlock) (hat : v.ownBlock = some g ∨ g = w.heap.size) :
    OwnR w' base (.slice (some ⟨g, 0, none⟩) (X.length + 1) cap) (X ++ [x]) := by
  have all : ∀ y ∈ X ++ [x], y.ok w ∧ (∀ k, v.ownBlock = some k → y.off k) := by
    intro y hy
    rcases List.mem_append.1 hy with hy | hy
    · exact ⟨h.ok y hy, h.off y hy⟩
    · obtain rfl : y = x := by simpa using hy
      exact ⟨hx, ho⟩
  refine ⟨by rw [List.length_append, rcells_snoc]; exact hown, fun y hy => ?_, fun y hy k e => ?_⟩
  · obtain ⟨h1, h2⟩ := all y hy
    refine Ints.grown h1 hg ?_
    cases e : v.ownBlock with
    | none => exact .inr fun z _ q => by cases q
    | some k =>
      rcases h2 k e with h0 | h0
      · exact .inl h0
      · exact .inr fun z hz q => h0 z hz (by cases q; rfl)
  · obtain ⟨h1, h2⟩ := all y hy
    obtain rfl : g = k := by simpa [Value.ownBlock] using e
    rcases hat with hat | rfl
    · exact h2 _ hat
    · exact h1.off (Nat.le_refl _)
/-- A record that is newer than the list lies elsewhere. -/
theorem OwnR.apart {w : World} {base : Nat} {v : Value} {X : List RV} (h : OwnR w base v X) {x : RV} {B : Nat} (hB : w.heap.size ≤ B) (hn : ∀ y, x.a = some y → B ≤ y.block) : ∀ g, v.ownBlock = some g → x.off g := by
  intro g e
  have := (h.own.lt g e).2
  exact .inr fun y hy => by have := hn y hy; omega

end Go.Proofs.YtcbgkjmcdjpgcaaGreatDoor

/- How the arguments of the laws read: a disk, a list of records; no condition. -/
namespace Go.Proofs.YtcbgkjmcdjpgcaaGreatDoor
open Go.ChangeShapes Go.WideShapes Go.ChangeAt Go.RowKit Go.Joins Go.ChangeMaps
set_option linter.unusedVariables false
set_option maxRecDepth 100000
set_option linter.unusedSimpArgs false

theorem cellsDisk : Tryz.prog.cellsOf 24 = 2 := by kernel_rfl
theorem bytesU8 : Tryz.prog.bytesOf 5 = 1 := by kernel_rfl

/-- Numbers that bytes hold, as bytes. -/
def asBytes (zs : List Int) : List UInt8 := zs.map fun z => UInt8.ofNat z.toNat
theorem asBytes_get {zs : List Int} (hwf : ∀ n ∈ zs, (Lit.int .u8 n).wf = true) (i : Nat) (hi : i < zs.length) : (bytC (asBytes zs))[i]? = some (.int .u8 (zs.getD i 0)) := by
  have h := hwf zs[i] (by simp)
  have hb : 0 ≤ zs[i] ∧ zs[i] < 256 := by
    have := bounds_u8 h
    omega
  simp [bytC, asBytes, hi, List.getD]
  omega

set_option maxRecDepth 100000 in
theorem byts_of {H : Type} {enc : TypeId × Value → H} {W : World} {fuel : Nat} {v : Value} {y : DataW H × List MemPlace}
    (h : DataW.trod enc Tryz.prog W 0 (fun _ => true) true fuel 22 [v] = some y) : ∃ a n c l, v = .slice a n c ∧ Byts W a n c l ∧ ((∀ k ∈ y.1.weights Tryz.prog 22, k ≤ reachBytes) → n ≤ reachBytes) := by
  rcases open_ints Tryz.underlying22 Tryz.underlying5 (by kernel_rfl) h with ⟨hcs, _⟩ | ⟨x, len, cap, zs, hcs, _, hl, hm, hz, hy, hcell, hwz⟩
  · simp at hcs
    subst hcs
    exact ⟨none, 0, 0, [], rfl, Byts.nilSlice W, fun _ => Nat.zero_le _⟩
  · simp at hcs
    subst hcs
    simp at hz
    have hlen : (zs.take len).length = len := by simp; omega
    refine ⟨some x, len, cap, asBytes (zs.take len), rfl, ?_, ?_⟩
    · refine ⟨by simp [bytC, asBytes]; omega, hl, hm, fun e => (by cases e), ?_⟩
      by_cases h0 : len = 0
      · exact .inl h0
      · obtain ⟨b, off, spot⟩ := x
        have hc0 := hcell 0 (by omega)
        have hspot : spot = none := by simpa [Addr.add] using World.cell?_spot hc0
        subst hspot
        refine .inr ⟨b, off, rfl, World.block_lt_of_cell? W ⟨b, off, none⟩ (by simpa [Addr.add] using hc0), fun i v hv => ?_⟩
        have hi : i < len := by have := (List.getElem?_eq_some_iff.1 hv).1; rw [bytC_len] at this; simp [asBytes] at this; omega
        rw [asBytes_get (fun n hn => hwz n (List.mem_of_mem_take hn)) i (by omega)] at hv
        rw [← addr_add, hcell i (by omega)]
        simpa [List.getD, List.getElem?_take, hi] using hv
    · intro hw
      rw [hy] at hw
      have := hw ((lits IntKind.u8 (zs.take len) (H := H)).length + (lits IntKind.u8 (zs.drop len) (H := H)).length) (by
        unfold DataW.weights
        rw [Tryz.underlying22]
        simp [bytesU8])
      simp [lits] at this
      omega

set_option maxRecDepth 100000 in
theorem disk_arg {H : Type} {enc : TypeId × Value → H} {W : World} {base : Nat} {v : Value} {d : DataW H} {p : List MemPlace} (hv : Value.okWide Tryz.prog W .any base 24 v)
    (h : DataW.Trod enc Tryz.prog W 0 (fun _ => true) true 24 v d p) : ∃ x : KV, v = x.v ∧ x.ok W ∧ ((∀ k ∈ d.weights Tryz.prog 24, k ≤ reachBytes) → x.n ≤ reachBytes ∧ x.m ≤ reachBytes) := by
  obtain ⟨v0, v1, y0, y1, m, rfl, rfl, _, h0, h1⟩ := open_agg2 Tryz.underlying24 (by kernel_rfl) cellsDisk hv h
  obtain ⟨a, n, c, l, rfl, hi, si⟩ := byts_of h0
  obtain ⟨b, k, e, r, rfl, hj, sj⟩ := byts_of h1
  refine ⟨⟨⟨l, r⟩, a, n, c, b, k, e⟩, rfl, ⟨hi, hj⟩, fun hw => ⟨si fun q hq => hw q ?_, sj fun q hq => hw q ?_⟩⟩
  · unfold DataW.weights
    rw [Tryz.underlying24]
    simp [DataW.weightsEach]
    exact .inl hq
  · unfold DataW.weights
    rw [Tryz.underlying24]
    simp [DataW.weightsEach]
    exact .inr hq

theorem sized_arg {H : Type} {P : Program} {ts : List TypeId} {ds : List (DataW H)} (h : (DataW.weightsEach P ts ds).all (· ≤ reachBytes) = true) {j : Nat} {t : TypeId} {d : DataW H} (ht : ts[j]? = some t) (hd : ds[j]? = some d) : ∀ k ∈ d.weights P t, k ≤ reachBytes := by
  intro k hk
  have := List.all_eq_true.1 h _ (DataW.weights_mem_each ht hd k hk)
  simpa using this

set_option maxRecDepth 100000 in
theorem recs_of {H : Type} {enc : TypeId × Value → H} {W : World} {fuel : Nat} {v : Value} {y : DataW H × List MemPlace}
    (h : DataW.trod enc Tryz.prog W 0 (fun _ => true) true fuel 35 [v] = some y) : ∃ a n c X, v = .slice a n c ∧ Recs W a n c X := by
  rcases Go.Deep.open_slice Tryz.underlying35 h with ⟨hcs, _⟩ | ⟨x, len, cap, m, n, D, Pl, hcs, _, hl, hm, hmm, _, hel⟩
  · simp at hcs
    subst hcs
    exact ⟨none, 0, 0, [], rfl, Recs.nilSlice W⟩
  · simp at hcs
    subst hcs
    have hm' : m = cap := by simpa using hmm
    subst hm'
    have hz : ∀ i, i < len → ∃ z : RV, z.ok W ∧ ∀ j v, z.cells[j]? = some v → W.cell? ((x.add (i * 7)).add j) = some v := by
      intro i hi
      obtain ⟨cs', h1, h2⟩ := hel i (by omega)
      rw [cellsRec] at h1
      obtain ⟨z, rfl, hz⟩ := rec_of h2
      obtain ⟨_, _, hc⟩ := World.cells?_some h1
      refine ⟨z, hz, fun j v hv => ?_⟩
      have hj : j < 7 := (List.getElem?_eq_some_iff.1 hv).1
      have := hc j hj
      rw [this]
      exact hv
    have dft : Inhabited RV := ⟨RV.zero⟩
    obtain ⟨f, hf⟩ := Go.Deep.choose_lt hz
    refine ⟨some x, len, m, (List.range len).map f, rfl, ⟨by simp, hl, hm, fun e => (by cases e), ?_, ?_⟩⟩
    · by_cases h0 : len = 0
      · exact .inl h0
      · obtain ⟨b, off, spot⟩ := x
        have hc0 := (hf 0 (by omega)).2 0 _ rfl
        have hspot : spot = none := by simpa [Addr.add] using World.cell?_spot hc0
        subst hspot
        refine .inr ⟨b, off, rfl, World.block_lt_of_cell? W ⟨b, off, none⟩ (by simpa [Addr.add] using hc0), fun i z hz j v hv => ?_⟩
        have hi : i < len := by have := (List.getElem?_eq_some_iff.1 hz).1; simpa using this
        rw [List.getElem?_map, List.getElem?_range hi] at hz
        simp at hz
        subst hz
        have h1 := (hf i hi).2 j v hv
        rw [addr_add, addr_add] at h1
        exact h1
    · intro z hz
      simp at hz
      obtain ⟨i, hi, rfl⟩ := hz
      exact (hf i hi).1

theorem recs_arg {H : Type} {enc : TypeId × Value → H} {W : World} {base : Nat} {v : Value} {d : DataW H} {p : List MemPlace} (hv : Value.okWide Tryz.prog W .any base 35 v)
    (h : DataW.Trod enc Tryz.prog W 0 (fun _ => true) true 35 v d p) : ∃ a n c X, v = .slice a n c ∧ Recs W a n c X := by
  obtain ⟨a, n, c, rfl⟩ := okWide_slice Tryz.underlying35 hv
  obtain ⟨fuel, hf⟩ := h
  exact recs_of (by simpa [Value.cells] using hf)

end Go.Proofs.YtcbgkjmcdjpgcaaGreatDoor

/- What a row's list gives of the table of kinds; no condition. -/
namespace Go.Proofs.YtcbgkjmcdjpgcaaGreatDoor
open Go.RowKit
set_option linter.unusedVariables false
set_option maxRecDepth 100000
set_option linter.unusedSimpArgs false

theorem laid_at {P : Program} {w : World} : ∀ {laid : List (String × DataW Unit)} {ps : List MemPlace}, DataW.LaidVars P w laid ps → ∀ {n : String} {d : DataW Unit}, (n, d) ∈ laid →
    ∃ g t cs fuel p, P.globalNamed n = some g ∧ (P.globals[g]?).map (·.type) = some t ∧ w.var? P n = some cs ∧ DataW.trod (fun _ => ()) P w 0 (fun _ => true) false fuel t cs.toList = some (d, p)
  | [], _, _, _, _, h => by cases h
  | (n, d) :: r, ps, hl, n', d', h => by
    obtain ⟨g, t, cs, fuel, p, q, h1, h2, h3, h4, h5, _⟩ := hl
    rcases List.mem_cons.1 h with e | h
    · cases e
      exact ⟨g, t, cs, fuel, p, h1, h2, h3, h4⟩
    · exact laid_at h5 h

theorem gShapes : Tryz.prog.globalNamed "quayhand/cmd.shapes" = some 0 := by kernel_rfl
theorem tShapes : (Tryz.prog.globals[0]?).map (·.type) = some 82 := by kernel_rfl

set_option maxRecDepth 100000 in
theorem shapes_cells : (Rows.laid_quayhand_cmd_shapes : DataW Unit).flat.map Lit.toCell = ((List.range 13).flatMap fun k => [.string (word k), .bool (hasZ k), .bool (hasA k), .bool (hasN k), .bool (hasD k)]) := by rfl

theorem flat_get (f : Nat → List Value) (h5 : ∀ k, (f k).length = 5) : ∀ (n k j : Nat), k < n → j < 5 → ((List.range n).flatMap f)[k * 5 + j]? = (f k)[j]?
  | 0, k, j, hk, _ => by omega
  | n + 1, k, j, hk, hj => by
    have hlen : ∀ m, ((List.range m).flatMap f).length = m * 5 := by
      intro m
      induction m with
      | zero => rfl
      | succ m ih => rw [List.range_succ, List.flatMap_append, List.length_append, ih]; simp [h5]; omega
    rw [List.range_succ, List.flatMap_append]
    by_cases hkn : k < n
    · rw [List.getElem?_append_left (by rw [hlen]; omega)]
      exact flat_get f h5 n k j hkn hj
    · obtain rfl : k = n := by omega
      rw [List.getElem?_append_right (by rw [hlen]; omega), hlen]
      simp

set_option maxRecDepth 100000 in
theorem shapes_of {W : World} {laid : List (String × DataW Unit)} (hL : laidMet Tryz.prog laid W) (m4 : ("quayhand/cmd.shapes", Rows.laid_quayhand_cmd_shapes) ∈ laid) : Shapes W := by
  obtain ⟨ps, hv, _, _⟩ := hL
  obtain ⟨g, t, cs, fuel, p, h1, h2, h3, h4⟩ := laid_at hv m4
  obtain rfl := Option.some.inj (gShapes.symm.trans h1)
  obtain rfl := Option.some.inj (tShapes.symm.trans h2)
  have h5 := (keyLits_of_trod 5 82 (by kernel_rfl) _ _ _ h4).1
  have h6 := cells_of_lits 5 82 (by kernel_rfl) _ _ _ h5
  rw [shapes_cells] at h6
  have hc : ∀ k j, k ≤ 12 → j < 5 → W.cell? ⟨0, k * 5 + j, none⟩ = ([.string (word k), .bool (hasZ k), .bool (hasA k), .bool (hasN k), .bool (hasD k)] : List Value)[j]? := by
    intro k j hk hj
    rw [World.var?_cell gShapes h3, ← Array.getElem?_toList, h6]
    exact flat_get _ (fun k => rfl) 13 k j (by omega) hj
  exact ⟨fun k hk => hc k 0 hk (by omega), fun k hk => hc k 1 hk (by omega), fun k hk => hc k 2 hk (by omega), fun k hk => hc k 3 hk (by omega), fun k hk => hc k 4 hk (by omega)⟩

end Go.Proofs.YtcbgkjmcdjpgcaaGreatDoor

/- What the rows' lists and the form's own shape give of the package-level variables; no condition. -/
namespace Go.Proofs.YtcbgkjmcdjpgcaaGreatDoor
open Go.RowKit
set_option linter.unusedVariables false
set_option maxRecDepth 100000
set_option linter.unusedSimpArgs false

theorem gSyn : Tryz.prog.globalNamed "strconv.ErrSyntax" = some 5 := by kernel_rfl
theorem gRng : Tryz.prog.globalNamed "strconv.ErrRange" = some 6 := by kernel_rfl
theorem tTab : (Tryz.prog.globals[2]?).map (·.type) = some 140 := by kernel_rfl
theorem tSyn : (Tryz.prog.globals[5]?).map (·.type) = some 111 := by kernel_rfl
theorem tRng : (Tryz.prog.globals[6]?).map (·.type) = some 111 := by kernel_rfl

set_option maxRecDepth 100000 in
theorem env_of {W : World} {laid : List (String × DataW Unit)} (hL : laidMet Tryz.prog laid W) (hsh : W.ShapedOpen Tryz.prog)
    (m1 : ("internal/strconv.uint64pow10", Rows.laid_internal_strconv_uint64pow10) ∈ laid) (m2 : ("strconv.ErrRange", Rows.laid_strconv_ErrRange) ∈ laid)
    (m3 : ("strconv.ErrSyntax", Rows.laid_strconv_ErrSyntax) ∈ laid) (m4 : ("quayhand/cmd.shapes", Rows.laid_quayhand_cmd_shapes) ∈ laid) : Env W := by
  obtain ⟨ps, hv, _, _⟩ := id hL
  refine ⟨?_, ?_, ?_, ?_, ?_⟩
  · exact cell_of_shapedOpen_int (P := Tryz.prog) (g := 1) (t := 3) (zero := #[.int .i64 0]) hsh (of_decide_eq_true (by kernel_rfl)) (by kernel_rfl) rfl (by kernel_rfl) (by kernel_rfl) Tryz.underlying3
  · obtain ⟨g, t, cs, fuel, p, h1, h2, h3, h4⟩ := laid_at hv m1
    obtain rfl := Option.some.inj (gTab.symm.trans h1)
    obtain rfl := Option.some.inj (tTab.symm.trans h2)
    unfold Lib.TabIs
    rw [h3]
    have h5 : DataW.trod (fun _ => ()) Tryz.prog W 0 (fun _ => true) false fuel 140 cs.toList = some (Lib.tabData .u64 Lib.pow10Tab, p) := h4
    have := Lib.cells_of_tab Tryz.underlying140 Tryz.underlying122 (by kernel_rfl) (by kernel_rfl) h5
    rw [← this]
  · obtain ⟨g, t, cs, fuel, p, h1, h2, h3, h4⟩ := laid_at hv m3
    obtain rfl := Option.some.inj (gSyn.symm.trans h1)
    obtain rfl := Option.some.inj (tSyn.symm.trans h2)
    obtain ⟨f1, u, v, e, _, _⟩ := iface_of_trod Tryz.underlying111 h4
    refine ⟨u, v, ?_⟩
    have := World.var?_cell gSyn h3 0
    rw [this, ← Array.getElem?_toList, e]
    rfl
  · obtain ⟨g, t, cs, fuel, p, h1, h2, h3, h4⟩ := laid_at hv m2
    obtain rfl := Option.some.inj (gRng.symm.trans h1)
    obtain rfl := Option.some.inj (tRng.symm.trans h2)
    obtain ⟨f1, u, v, e, _, _⟩ := iface_of_trod Tryz.underlying111 h4
    refine ⟨u, v, ?_⟩
    have := World.var?_cell gRng h3 0
    rw [this, ← Array.getElem?_toList, e]
    rfl
  · exact shapes_of hL m4

end Go.Proofs.YtcbgkjmcdjpgcaaGreatDoor

/- Lines read one by one, and texts parted behind their line feeds; plain mathematics, no condition. -/
namespace Go.Proofs.YtcbgkjmcdjpgcaaGreatDoor
open Go.RowKit
set_option linter.unusedVariables false
set_option maxRecDepth 100000
set_option linter.unusedSimpArgs false

/-- The first line's record, what stands behind it, what is wrong with it. -/
def firstP (l : List UInt8) : PR × List UInt8 × Int := match cutN l with
  | none => (zeroR, [], 9)
  | some (a, r) => ((parseR a).1, r, (parseR a).2)
theorem firstP_none {l : List UInt8} (h : cutN l = none) : firstP l = (zeroR, [], 9) := by unfold firstP; rw [h]
theorem firstP_some {l a r : List UInt8} (h : cutN l = some (a, r)) : firstP l = ((parseR a).1, r, (parseR a).2) := by unfold firstP; rw [h]
theorem cutN_len {l a r : List UInt8} (h : cutN l = some (a, r)) : a.length + 1 + r.length = l.length := by
  have := congrArg List.length (cutN_some h).1
  simp only [List.length_append, List.length_cons] at this
  omega

/-- The records D of the text l have been read, r is left. -/
structure Ahd (most : Nat) (l : List UInt8) (D : List PR) (r : List UInt8) : Prop where
  le : D.length ≤ most
  len : r.length ≤ l.length
  eq : linesP most l = (D ++ (linesP (most - D.length) r).1, (l.length - r.length) + (linesP (most - D.length) r).2.1, (linesP (most - D.length) r).2.2)
theorem Ahd.start (most : Nat) (l : List UInt8) : Ahd most l [] l := ⟨Nat.zero_le _, Nat.le_refl _, by simp⟩
theorem Ahd.step {most : Nat} {l r : List UInt8} {D : List PR} (h : Ahd most l D r) (hf : (firstP r).2.2 = 0) (hm : D.length < most) : Ahd most l (D ++ [(firstP r).1]) (firstP r).2.1 ∧ (firstP r).2.1.length < r.length := by
  cases hc : cutN r with
  | none => rw [firstP_none hc] at hf; cases hf
  | some p =>
    obtain ⟨a, b⟩ := p
    have hlen := cutN_len hc
    have h2 := h.len
    rw [firstP_some hc] at hf ⊢
    simp only at hf ⊢
    obtain ⟨m, hm'⟩ : ∃ m, most - D.length = m + 1 := ⟨most - D.length - 1, by omega⟩
    refine ⟨⟨by simp; omega, by omega, ?_⟩, by omega⟩
    have e := h.eq
    rw [hm', linesP_line hc, if_neg (by simp [hf])] at e
    simp only at e
    rw [e, show most - (D ++ [(parseR a).1]).length = m by simp; omega]
    simp
    omega
theorem Ahd.done {most : Nat} {l : List UInt8} {D : List PR} (h : Ahd most l D []) : linesP most l = (D, l.length, 0) := by
  have e := h.eq
  rw [linesP_nil] at e
  simpa using e
theorem Ahd.bad {most : Nat} {l r : List UInt8} {D : List PR} (h : Ahd most l D r) (hr : r ≠ []) (hf : (firstP r).2.2 ≠ 0) : linesP most l = (D, l.length - r.length, (firstP r).2.2) := by
  have e := h.eq
  cases hc : cutN r with
  | none =>
    rw [linesP_torn hr hc] at e
    rw [firstP_none hc]
    simpa using e
  | some p =>
    obtain ⟨a, b⟩ := p
    rw [firstP_some hc] at hf ⊢
    rw [linesP_line hc, if_pos hf] at e
    simpa using e
theorem Ahd.many {most : Nat} {l r : List UInt8} {D : List PR} (h : Ahd most l D r) (hf : (firstP r).2.2 = 0) (hm : D.length = most) : linesP most l = (D, l.length - r.length, 2) := by
  have e := h.eq
  cases hc : cutN r with
  | none => rw [firstP_none hc] at hf; cases hf
  | some p =>
    obtain ⟨a, b⟩ := p
    rw [firstP_some hc] at hf
    rw [linesP_line hc, if_neg (by simpa using hf), show most - D.length = 0 by omega] at e
    simpa using e
theorem Ahd.stop {most : Nat} {l r : List UInt8} {D : List PR} (h : Ahd most l D r) (hs : D.length = most ∨ (firstP r).2.2 ≠ 0) : (linesP most l).1 = D ∧ (linesP most l).2.1 = l.length - r.length := by
  by_cases hr : r = []
  · subst hr
    rw [h.done]
    simp
  · by_cases hf : (firstP r).2.2 = 0
    · rw [h.many hf (hs.resolve_right (by simp [hf]))]
      exact ⟨rfl, rfl⟩
    · rw [h.bad hr hf]
      exact ⟨rfl, rfl⟩

/-- A text parted behind its line feeds. -/
def lns : List UInt8 → List (List UInt8)
  | [] => [[]]
  | b :: l => if b = 10 then [10] :: lns l else match lns l with
    | [] => [[b]]
    | t :: ts => (b :: t) :: ts
theorem lns_none : ∀ {l : List UInt8}, cutN l = none → lns l = [l]
  | [], _ => rfl
  | b :: l, h => by
    by_cases hb : b = 10
    · simp [cutN, hb] at h
    · simp only [cutN, if_neg hb, Option.map_eq_none_iff] at h
      simp only [lns, if_neg hb, lns_none h]
theorem lns_some : ∀ {l a r : List UInt8}, cutN l = some (a, r) → lns l = (a ++ [10]) :: lns r
  | [], a, r, h => by simp [cutN] at h
  | b :: l, a, r, h => by
    by_cases hb : b = 10
    · subst hb
      simp [cutN] at h
      obtain ⟨rfl, rfl⟩ := h
      simp [lns]
    · simp only [cutN, if_neg hb] at h
      cases hc : cutN l with
      | none => rw [hc] at h; cases h
      | some p =>
        obtain ⟨x, y⟩ := p
        rw [hc] at h
        simp at h
        obtain ⟨rfl, rfl⟩ := h
        simp only [lns, if_neg hb, lns_some hc, List.cons_append]
theorem lns_ne (l : List UInt8) : lns l ≠ [] := by
  cases hc : cutN l with
  | none => rw [lns_none hc]; simp
  | some p => obtain ⟨a, r⟩ := p; rw [lns_some hc]; simp

theorem split_lns : ∀ s : List UInt8, Lib.splitK [10] 1 (Lib.count s [10]) s = lns s
  | [] => by rw [Lib.count_one]; rfl
  | b :: l => by
    have ih := split_lns l
    by_cases hb : b = 10
    · subst hb
      rw [Lib.count_cons_eq, Nat.add_comm 1]
      have hix : Lib.index (10 :: l) [10] = 0 := by rw [Lib.index]; simp [List.isPrefixOf]
      simp [Lib.splitK, hix, lns, ih]
    · rw [Lib.count_cons_ne b 10 l hb]
      have hp : ([10] : List UInt8).isPrefixOf (b :: l) = false := by simp [List.isPrefixOf, Ne.symm hb]
      have hix : Lib.index (b :: l) [10] = if Lib.index l [10] == -1 then -1 else Lib.index l [10] + 1 := by rw [Lib.index, hp]; simp
      have hge := Lib.index_ge l [10]
      cases hc : Lib.count l [10] with
      | zero =>
        rw [hc] at ih
        simp only [Lib.splitK] at ih ⊢
        simp [lns, hb, ← ih]
      | succ k =>
        rw [hc] at ih
        have hm : Lib.index l [10] ≠ -1 := by
          intro e
          rw [Lib.count_miss e] at hc
          cases hc
        obtain ⟨j, hj⟩ : ∃ j : Nat, Lib.index l [10] = j := ⟨(Lib.index l [10]).toNat, by omega⟩
        have hix' : Lib.index (b :: l) [10] = ((j + 1 : Nat) : Int) := by rw [hix, if_neg (fun e => hm (beq_iff_eq.1 e)), hj]; omega
        have n1 : ¬ ((j : Int) = -1) := by omega
        have n2 : ¬ (((j + 1 : Nat) : Int) = -1) := by omega
        simp only [Lib.splitK, hj, beq_iff_eq, n1, if_false] at ih
        simp only [Lib.splitK, hix', beq_iff_eq, n2, if_false, lns, hb, ← ih]
        simp
theorem splitB_lns (s : ByteArray) : (Lib.splitB ⟨#[10]⟩ 1 (Lib.countB s ⟨#[10]⟩) s).map (·.data.toList) = lns s.data.toList := by
  rw [Lib.splitB_data, ← split_lns]

/-- Where the first line feed stands. -/
theorem index_N : ∀ l : List UInt8, (cutN l = none ∧ Lib.index l [10] = -1) ∨ ∃ h t, cutN l = some (h, t) ∧ Lib.index l [10] = (h.length : Int)
  | [] => .inl ⟨rfl, rfl⟩
  | b :: l => by
    by_cases hb : b = 10
    · subst hb
      exact .inr ⟨[], l, by simp [cutN], by rw [Lib.index]; simp [List.isPrefixOf]⟩
    · have hp : ([10] : List UInt8).isPrefixOf (b :: l) = false := by simp [List.isPrefixOf, Ne.symm hb]
      have hix : Lib.index (b :: l) [10] = if Lib.index l [10] == -1 then -1 else Lib.index l [10] + 1 := by rw [Lib.index, hp]; simp
      rw [hix, cutN, if_neg hb]
      rcases index_N l with ⟨h1, h2⟩ | ⟨h, t, h1, h2⟩
      · left
        rw [h1, h2]
        exact ⟨rfl, rfl⟩
      · right
        rw [h1, h2]
        refine ⟨b :: h, t, rfl, ?_⟩
        have n1 : ((h.length : Int) == -1) = false := by simp
        simp [n1]

end Go.Proofs.YtcbgkjmcdjpgcaaGreatDoor
