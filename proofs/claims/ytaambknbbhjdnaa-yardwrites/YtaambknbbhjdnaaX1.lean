/- Lists of structs in memory, whatever their kind: read, of the call's own, and appended to; plain mathematics, no condition. -/
import Derived.Test.YtaambknbbhjdnaaLY
import Derived.Deep.AppendLies
namespace Go.Proofs.Ytaambknbbhjdnaa
open Go.RowKit
set_option linter.unusedVariables false
set_option maxRecDepth 100000
set_option linter.unusedSimpArgs false

/-- A kind of structs in memory: how many cells, which, when they read as data, and in which blocks they don't lie. -/
structure Kin (α : Type) where
  k : Nat
  cs : α → List Value
  ok : World → α → Prop
  off : Nat → α → Prop
  len : ∀ x, (cs x).length = k
  one : ∀ x, ∀ v ∈ cs x, v.oneCell' = true
  below : ∀ {w w' : World} {x : α}, ok w x → ∀ {B : Nat}, Below B w w' → w.heap.size ≤ B → ok w' x
  but : ∀ {w w' : World} {g : Nat} {x : α}, ok w x → But g w w' → off g x → ok w' x
  far : ∀ {w : World} {R : Nat} {x : α}, ok w x → w.heap.size ≤ R → off R x

/-- The cells of a list. -/
def Kin.cells {α : Type} (K : Kin α) (X : List α) : List Value := X.flatMap K.cs
theorem Kin.cells_cons {α : Type} {K : Kin α} (x : α) (X : List α) : K.cells (x :: X) = K.cs x ++ K.cells X := by simp [Kin.cells]
theorem Kin.cells_app {α : Type} {K : Kin α} (X Y : List α) : K.cells (X ++ Y) = K.cells X ++ K.cells Y := by simp [Kin.cells]
theorem Kin.cells_len {α : Type} {K : Kin α} : ∀ X : List α, (K.cells X).length = X.length * K.k
  | [] => by simp [Kin.cells]
  | x :: X => by rw [Kin.cells_cons, List.length_append, Kin.cells_len X, K.len, List.length_cons, Nat.add_mul, Nat.one_mul, Nat.add_comm]
theorem Kin.cells_get {α : Type} {K : Kin α} : ∀ (X : List α) (i : Nat) (x : α), X[i]? = some x → ∀ j v, (K.cs x)[j]? = some v → (K.cells X)[i * K.k + j]? = some v
  | [], i, x, h, _, _, _ => by simp at h
  | y :: X, 0, x, h, j, v, hv => by
    have hj := (List.getElem?_eq_some_iff.1 hv).1
    simp at h
    subst h
    rw [Kin.cells_cons, List.getElem?_append_left (by omega)]
    simpa using hv
  | y :: X, i + 1, x, h, j, v, hv => by
    rw [Kin.cells_cons, List.getElem?_append_right (by rw [K.len, Nat.add_mul]; omega), K.len, show (i + 1) * K.k + j - K.k = i * K.k + j by rw [Nat.add_mul]; omega]
    exact Kin.cells_get X i x (by simpa using h) j v hv
theorem Kin.cells_set {α : Type} {K : Kin α} : ∀ (X : List α) (i : Nat) (x : α), i < X.length → ∀ j, j < K.k → (K.cells (X.set i x))[i * K.k + j]? = (K.cs x)[j]?
  | [], i, x, h, _, _ => by simp at h
  | y :: X, 0, x, _, j, hj => by
    rw [List.set_cons_zero, Kin.cells_cons, List.getElem?_append_left (by rw [K.len]; omega)]
    simp
  | y :: X, i + 1, x, h, j, hj => by
    rw [List.set_cons_succ, Kin.cells_cons, List.getElem?_append_right (by rw [K.len, Nat.add_mul]; omega), K.len, show (i + 1) * K.k + j - K.k = i * K.k + j by rw [Nat.add_mul]; omega]
    exact Kin.cells_set X i x (by simpa using h) j hj
theorem Kin.cells_one {α : Type} {K : Kin α} (X : List α) : ∀ v ∈ K.cells X, v.oneCell' = true := by
  intro v hv
  simp only [Kin.cells, List.mem_flatMap] at hv
  obtain ⟨x, _, hx⟩ := hv
  exact K.one x v hx

/-- A slice value's elements. -/
structure Rows' {α : Type} (K : Kin α) (w : World) (a : Option Addr) (n c : Nat) (X : List α) : Prop where
  len : X.length = n
  le : n ≤ c
  max : c ≤ 9223372036854775807
  nil : a = none → c = 0
  row : n = 0 ∨ ∃ b off, a = some ⟨b, off, none⟩ ∧ b < w.heap.size ∧ ∀ i x, X[i]? = some x → ∀ j v, (K.cs x)[j]? = some v → w.cell? ⟨b, off + i * K.k + j, none⟩ = some v
  ok : ∀ x ∈ X, K.ok w x
/-- Nothing of such a list lies in block R. -/
structure OffR {α : Type} (K : Kin α) (R : Nat) (a : Option Addr) (n : Nat) (X : List α) : Prop where
  a : n = 0 ∨ ∀ y, a = some y → y.block ≠ R
  x : ∀ x ∈ X, K.off R x
theorem Rows'.below {α : Type} {K : Kin α} {w : World} {w' : World} {a : Option Addr} {n : Nat} {c : Nat} {X : List α} (h : Rows' K w a n c X) {B : Nat} (hb : Below B w w') (hB : w.heap.size ≤ B) : Rows' K w' a n c X := by
  refine ⟨h.len, h.le, h.max, h.nil, ?_, fun x hx => K.below (h.ok x hx) hb hB⟩
  rcases h.row with h0 | ⟨b, off, ha, hlt, hc⟩
  · exact .inl h0
  · refine .inr ⟨b, off, ha, Nat.lt_of_lt_of_le hlt hb.size, fun i x hx j v hv => ?_⟩
    rw [hb.cell (p := ⟨b, off + i * K.k + j, none⟩) (Nat.lt_of_lt_of_le hlt hB)]
    exact hc i x hx j v hv
theorem Rows'.but {α : Type} {K : Kin α} {w : World} {w' : World} {a : Option Addr} {n : Nat} {c : Nat} {X : List α} {g : Nat} (h : Rows' K w a n c X) (hb : But g w w') (ho : OffR K g a n X) : Rows' K w' a n c X := by
  refine ⟨h.len, h.le, h.max, h.nil, ?_, fun x hx => K.but (h.ok x hx) hb (ho.x x hx)⟩
  rcases ho.a with h0 | hne
  · exact .inl h0
  · rcases h.row with h0 | ⟨b, off, ha, hlt, hc⟩
    · exact .inl h0
    · refine .inr ⟨b, off, ha, Nat.lt_of_lt_of_le hlt hb.size, fun i x hx j v hv => ?_⟩
      rw [hb.cell ⟨b, off + i * K.k + j, none⟩ hlt (by have := hne _ ha; exact this)]
      exact hc i x hx j v hv
theorem Rows'.off {α : Type} {K : Kin α} {w : World} {a : Option Addr} {n : Nat} {c : Nat} {X : List α} (h : Rows' K w a n c X) {R : Nat} (hR : w.heap.size ≤ R) : OffR K R a n X := by
  refine ⟨?_, fun x hx => K.far (h.ok x hx) hR⟩
  rcases h.row with h0 | ⟨b, off, rfl, hlt, _⟩
  · exact .inl h0
  · exact .inr fun y e => by cases e; simp; omega
theorem Rows'.none {α : Type} {K : Kin α} (w : World) : Rows' K w none 0 0 [] := ⟨rfl, Nat.le_refl _, by omega, fun _ => rfl, .inl rfl, fun x hx => by cases hx⟩
theorem Rows'.at {α : Type} {K : Kin α} {w : World} {a : Option Addr} {n : Nat} {c : Nat} {X : List α} (h : Rows' K w a n c X) {i : Nat} (hi : i < n) : ∃ b off x, a = some ⟨b, off, .none⟩ ∧ X[i]? = some x ∧ K.ok w x ∧ b < w.heap.size ∧ ∀ j v, (K.cs x)[j]? = some v → w.cell? ⟨b, off + i * K.k + j, .none⟩ = some v := by
  obtain ⟨b, off, e, hlt, hc⟩ := h.row.resolve_left (by omega)
  obtain ⟨x, hx⟩ : ∃ x, X[i]? = some x := ⟨_, List.getElem?_eq_getElem (by rw [h.len]; exact hi)⟩
  exact ⟨b, off, x, e, hx, h.ok x (List.mem_of_getElem? hx), hlt, hc i x hx⟩
theorem Rows'.lies {α : Type} {K : Kin α} {w : World} {a : Option Addr} {n : Nat} {c : Nat} {X : List α} (h : Rows' K w a n c X) (hn : 0 < n) : ∃ b off, a = some ⟨b, off, .none⟩ ∧ b < w.heap.size ∧ ∀ i x, X[i]? = some x → ∀ j v, (K.cs x)[j]? = some v → w.cell? ⟨b, off + i * K.k + j, .none⟩ = some v := h.row.resolve_left (by omega)
theorem Rows'.take {α : Type} {K : Kin α} {w : World} {a : Option Addr} {n : Nat} {c : Nat} {X : List α} (h : Rows' K w a n c X) {m : Nat} (hm : m ≤ n) : Rows' K w a m c (X.take m) := by
  refine ⟨by rw [List.length_take, h.len]; omega, Nat.le_trans hm h.le, h.max, h.nil, ?_, fun x hx => h.ok x (List.mem_of_mem_take hx)⟩
  rcases h.row with h0 | ⟨b, off, ha, hlt, hc⟩
  · exact .inl (by omega)
  · exact .inr ⟨b, off, ha, hlt, fun i x hx => hc i x (by
      have hi := (List.getElem?_eq_some_iff.1 hx).1
      rw [List.length_take] at hi
      rwa [List.getElem?_take_of_lt (by omega)] at hx)⟩
theorem Rows'.drop {α : Type} {K : Kin α} {w : World} {a : Option Addr} {n : Nat} {c : Nat} {X : List α} (h : Rows' K w a n c X) {j : Nat} (hj : j ≤ n) : Rows' K w (if c = j then a else a.map (fun x => x.add (j * K.k))) (n - j) (c - j) (X.drop j) := by
  have hlen := h.len
  have hle := h.le
  have hmax := h.max
  refine ⟨by rw [List.length_drop, hlen], by omega, by omega, fun e => ?_, ?_, fun x hx => h.ok x (List.mem_of_mem_drop hx)⟩
  · by_cases hcj : c = j
    · omega
    · rw [if_neg hcj] at e
      cases ha : a with
      | none => have := h.nil ha; omega
      | some x => rw [ha] at e; cases e
  · rcases h.row with h0 | ⟨b, off, ha, hlt, hc⟩
    · exact .inl (by omega)
    · by_cases hcj : c = j
      · exact .inl (by omega)
      · refine .inr ⟨b, off + j * K.k, by rw [if_neg hcj, ha]; simp [addr_add], hlt, fun i x hx k v hv => ?_⟩
        rw [List.getElem?_drop] at hx
        have := hc (j + i) x hx k v hv
        rw [Nat.add_mul] at this
        rwa [Nat.add_assoc off]

/-- Elements of the call's own, in block g; what they point to lies in newer memory. -/
structure MineR {α : Type} (K : Kin α) (t : TypeId) (w : World) (g : Nat) (X : List α) : Prop where
  lay : Lay w g (K.cells X)
  ok : ∀ x ∈ X, K.ok w x
  row : ∃ cur : Array Value, w.heap[g]? = some (.cells cur t (0, 0)) ∧ cur.size = X.length * K.k
theorem MineR.below {α : Type} {K : Kin α} {w : World} {w' : World} {X : List α} {t : TypeId} {g : Nat} (h : MineR K t w g X) (hb : Below w.heap.size w w') : MineR K t w' g X :=
  ⟨h.lay.below hb, fun x hx => K.below (h.ok x hx) hb (Nat.le_refl _), by obtain ⟨cur, e, k⟩ := h.row; exact ⟨cur, by rw [hb.block g h.lay.lt]; exact e, k⟩⟩
/-- Another block is written. -/
theorem MineR.far {α : Type} {K : Kin α} {w : World} {X : List α} {t : TypeId} {g : Nat} (h : MineR K t w g X) {p : Addr} (v : Value) (hf : But p.block w (w.setCell p v)) (hp : p.block ≠ g) (ho : ∀ x ∈ X, K.off p.block x) : MineR K t (w.setCell p v) g X :=
  ⟨h.lay.far p v hp, fun x hx => K.but (h.ok x hx) hf (ho x hx), by obtain ⟨cur, e, k⟩ := h.row; exact ⟨cur, by rw [heap_setCell_other _ _ _ _ (fun e => hp e.symm)]; exact e, k⟩⟩
theorem MineR.rows {α : Type} {K : Kin α} {w : World} {n : Nat} {X : List α} {t : TypeId} {g : Nat} (h : MineR K t w g X) (hn : X.length = n) (hm : n ≤ 9223372036854775807) : Rows' K w (some ⟨g, 0, .none⟩) n n X := by
  subst hn
  refine ⟨rfl, Nat.le_refl _, hm, fun e => (by cases e), .inr ⟨g, 0, rfl, h.lay.lt, fun i y hy j v hv => ?_⟩, h.ok⟩
  have := h.lay.cell _ _ (Kin.cells_get X i y hy j v hv)
  simpa using this

/-- A list that the call owns, and appends to. -/
structure OwnK {α : Type} (K : Kin α) (t : TypeId) (w : World) (base : Nat) (v : Value) (X : List α) : Prop where
  own : w.ownsRow base t K.k v X.length (K.cells X)
  ok : ∀ x ∈ X, K.ok w x
  off : ∀ x ∈ X, ∀ g, v.ownBlock = some g → K.off g x
theorem OwnK.nil {α : Type} {K : Kin α} {t : TypeId} (w : World) (base : Nat) : OwnK K t w base (.slice none 0 0) [] := ⟨World.ownsRow_nil w base _ _, by simp, by simp⟩
theorem MineR.own {α : Type} {K : Kin α} {w : World} {X : List α} {t : TypeId} {g : Nat} (h : MineR K t w g X) (hm : X.length ≤ maxLen) (ho : ∀ x ∈ X, K.off g x) : OwnK K t w g (.slice (some ⟨g, 0, .none⟩) X.length X.length) X := by
  obtain ⟨cur, e, k⟩ := h.row
  have hl : cur.toList = K.cells X := by
    apply List.ext_getElem?
    intro i
    by_cases hi : i < (K.cells X).length
    · obtain ⟨v, hv⟩ : ∃ v, (K.cells X)[i]? = some v := ⟨_, List.getElem?_eq_getElem hi⟩
      have := h.lay.cell i v hv
      rw [cell_of_row w g _ _ _ _ e] at this
      rw [hv]
      simpa using this
    · have h1 : (K.cells X)[i]? = none := List.getElem?_eq_none (by omega)
      have h2 : cur.toList[i]? = none := List.getElem?_eq_none (by rw [Array.length_toList, k]; rw [Kin.cells_len] at hi; omega)
      rw [h1, h2]
  refine ⟨⟨by rw [Kin.cells_len], .inr ⟨g, X.length, cur, rfl, Nat.le_refl _, e, Nat.le_refl _, hm, k, ?_⟩⟩, h.ok, fun x hx b hb => ?_⟩
  · rw [hl, List.take_of_length_le (by rw [Kin.cells_len]; omega)]
  · obtain rfl : g = b := by simpa [Value.ownBlock] using hb
    exact ho x hx
theorem OwnK.below {α : Type} {K : Kin α} {w : World} {w' : World} {X : List α} {t : TypeId} {base : Nat} {v : Value} (h : OwnK K t w base v X) (hb : Below w.heap.size w w') : OwnK K t w' base v X :=
  ⟨h.own.kept (row := none) ⟨hb.os, hb.tape, hb.output, hb.size, fun k hk _ => hb.block k hk⟩ (by cases v.ownBlock <;> simp), fun x hx => K.below (h.ok x hx) hb (Nat.le_refl _), h.off⟩
theorem OwnK.rows {α : Type} {K : Kin α} {w : World} {X : List α} {t : TypeId} {base : Nat} {v : Value} (h : OwnK K t w base v X) : ∃ a c, v = .slice a X.length c ∧ Rows' K w a X.length c X ∧ ∀ y, a = some y → base ≤ y.block := by
  rcases h.own.2 with ⟨rfl, h0⟩ | ⟨g, cap, cur, rfl, hb, hg, hn, hm, hs, hc⟩
  · rw [List.length_eq_zero_iff] at h0
    subst h0
    exact ⟨none, 0, rfl, Rows'.none w, fun y e => by cases e⟩
  · refine ⟨_, cap, rfl, ?_, fun x e => by cases e; exact hb⟩
    refine ⟨rfl, hn, by simp [maxLen] at hm; omega, fun e => (by cases e), .inr ⟨g, 0, rfl, (Array.getElem?_eq_some_iff.1 hg).1, fun i x hx j v hv => ?_⟩, h.ok⟩
    have hr := Kin.cells_get X i x hx j v hv
    have hl := (List.getElem?_eq_some_iff.1 hr).1
    rw [Kin.cells_len] at hl
    rw [← hc, List.getElem?_take, if_pos (by omega)] at hr
    rw [cell_of_row w g _ _ _ _ hg, Nat.zero_add]
    simpa using hr
/-- What an append changes is one block at most. -/
theorem grown_but' {w : World} {w' : World} {row : Option Nat} {g : Nat} (h : w.grownBy w' row) (hr : row = some g) (hg : g ≤ w.heap.size) : But g w w' := by
  subst hr
  exact ⟨⟨h.os, h.tape, h.output, h.size, fun k hk => h.block k (by omega) (by simp; omega)⟩, h.size, fun q hq hne => h.cell_far q hq (fun e => hne (by cases e; rfl))⟩
theorem Kin.grown {α : Type} {K : Kin α} {w : World} {w' : World} {row : Option Nat} {x : α} (h : K.ok w x) (hg : w.grownBy w' row) (hr : ∀ g, row = some g → g ≤ w.heap.size ∧ K.off g x) : K.ok w' x := by
  cases row with
  | none => exact K.below h ⟨hg.os, hg.tape, hg.output, hg.size, fun k hk => hg.block k hk (by simp)⟩ (Nat.le_refl _)
  | some g => exact K.but h (grown_but' hg rfl (hr g rfl).1) (hr g rfl).2
/-- One more. -/
theorem OwnK.snoc {α : Type} {K : Kin α} {w : World} {w' : World} {X : List α} {t : TypeId} {base : Nat} {v : Value} {x : α} {g cap : Nat} (h : OwnK K t w base v X) (hx : K.ok w x) (ho : ∀ g, v.ownBlock = some g → K.off g x)
    (hown : w'.ownsRow base t K.k (.slice (some ⟨g, 0, .none⟩) (X.length + 1) cap) (X.length + 1) (K.cells X ++ K.cs x)) (hg : w.grownBy w' v.ownBlock) (hat : v.ownBlock = some g ∨ g = w.heap.size) :
    OwnK K t w' base (.slice (some ⟨g, 0, .none⟩) (X.length + 1) cap) (X ++ [x]) := by
  have all : ∀ y ∈ X ++ [x], K.ok w y ∧ (∀ k, v.ownBlock = some k → K.off k y) := by
    intro y hy
    rcases List.mem_append.1 hy with hy | hy
    · exact ⟨h.ok y hy, h.off y hy⟩
    · obtain rfl : y = x := by simpa using hy
      exact ⟨hx, ho⟩
  have hlt := h.own.lt
  refine ⟨by rw [List.length_append, Kin.cells_app, show K.cells [x] = K.cs x by simp [Kin.cells]]; exact hown, fun y hy => ?_, fun y hy k e => ?_⟩
  · exact Kin.grown (all y hy).1 hg fun k e => ⟨by have := hlt k e; omega, (all y hy).2 k e⟩
  · obtain rfl : g = k := by simpa [Value.ownBlock] using e
    rcases hat with hat | rfl
    · exact (all y hy).2 _ hat
    · exact K.far (all y hy).1 (Nat.le_refl _)
/-- A block of the call's own that holds such elements. -/
theorem Rows'.of_lay {α : Type} {K : Kin α} {w : World} {g n : Nat} {X : List α} (h : Lay w g (K.cells X)) (hok : ∀ x ∈ X, K.ok w x) (hn : X.length = n) (hm : n ≤ 9223372036854775807) : Rows' K w (some ⟨g, 0, .none⟩) n n X := by
  subst hn
  refine ⟨rfl, Nat.le_refl _, hm, fun e => (by cases e), .inr ⟨g, 0, rfl, h.lt, fun i y hy j v hv => ?_⟩, hok⟩
  have := h.cell _ _ (Kin.cells_get X i y hy j v hv)
  simpa using this

end Go.Proofs.Ytaambknbbhjdnaa
