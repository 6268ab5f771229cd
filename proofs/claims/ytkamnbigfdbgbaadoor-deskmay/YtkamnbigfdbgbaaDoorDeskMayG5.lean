/- Lists of structs in memory, whatever their kind: read, of the call's own, and appended to; plain mathematics, no condition. -/
import Derived.Test.YtkamnbigfdbgbaaDoorDeskMayG4
import Derived.Deep.AppendLies
import Derived.Test.YtkamnbigfdbgbaaDoorDeskMayG1
import Derived.Test.YtkamnbigfdbgbaaDoorDeskMayG2
namespace Go.Proofs.YtkamnbigfdbgbaaDoor
open Go.RowKit
set_option linter.unusedVariables false
set_option maxRecDepth 100000
set_option linter.unusedSimpArgs false

/-- A kind of structs in memory: how many cells, which, when they read as data, and in which blocks they don't lie. -/
structure Kin (α : Type) where
  k : Nat
  cs : α → List Value
  ok : World → α → Prop
  off : Nat → α → Prop
  len : ∀ x, (cs x).length = k
  one : ∀ x, ∀ v ∈ cs x, v.oneCell' = true
  below : ∀ {w w' : World} {x : α}, ok w x → ∀ {B : Nat}, Below B w w' → w.heap.size ≤ B → ok w' x
  but : ∀ {w w' : World} {g : Nat} {x : α}, ok w x → But g w w' → off g x → ok w' x
  far : ∀ {w : World} {R : Nat} {x : α}, ok w x → w.heap.size ≤ R → off R x

/-- The cells of a list. -/
def Kin.cells {α : Type} (K : Kin α) (X : List α) : List Value := X.flatMap K.cs
theorem Kin.cells_cons {α : Type} {K : Kin α} (x : α) (X : List α) : K.cells (x :: X) = K.cs x ++ K.cells X := by simp [Kin.cells]
theorem Kin.cells_app {α : Type} {K : Kin α} (X Y : List α) : K.cells (X ++ Y) = K.cells X ++ K.cells Y := by simp [Kin.cells]
theorem Kin.cells_len {α : Type} {K : Kin α} : ∀ X : List α, (K.cells X).length = X.length * K.k
  | [] => by simp [Kin.cells]
  | x :: X => by rw [Kin.cells_cons, List.length_append, Kin.cells_len X, K.len, List.length_cons, Nat.add_mul, Nat.one_mul, Nat.add_comm]
theorem Kin.cells_get {α : Type} {K : Kin α} : ∀ (X : List α) (i : Nat) (x : α), X[i]? = some x → ∀ j v, (K.cs x)[j]? = some v → (K.cells X)[i * K.k + j]? = some v
  | [], i, x, h, _, _, _ => by simp at h
  | y :: X, 0, x, h, j, v, hv => by
    have hj := (List.getElem?_eq_some_iff.1 hv).1
    simp at h
    subst h
    rw [Kin.cells_cons, List.getElem?_append_left (by omega)]
    simpa using hv
  | y :: X, i + 1, x, h, j, v, hv => by
    rw [Kin.cells_cons, List.getElem?_append_right (by rw [K.len, Nat.add_mul]; omega), K.len, show (i + 1) * K.k + j - K.k = i * K.k + j by rw [Nat.add_mul]; omega]
    exact Kin.cells_get X i x (by simpa using h) j v hv
/-- A slice value's elements. -/
structure Rows' {α : Type} (K : Kin α) (w : World) (a : Option Addr) (n c : Nat) (X : List α) : Prop where
  len : X.length = n
  le : n ≤ c
  max : c ≤ 9223372036854775807
  nil : a = none → c = 0
  row : n = 0 ∨ ∃ b off, a = some ⟨b, off, none⟩ ∧ b < w.heap.size ∧ ∀ i x, X[i]? = some x → ∀ j v, (K.cs x)[j]? = some v → w.cell? ⟨b, off + i * K.k + j, none⟩ = some v
  ok : ∀ x ∈ X, K.ok w x
/-- Nothing of such a list lies in block R. -/
structure OffR {α : Type} (K : Kin α) (R : Nat) (a : Option Addr) (n : Nat) (X : List α) : Prop where
  a : n = 0 ∨ ∀ y, a = some y → y.block ≠ R
  x : ∀ x ∈ X, K.off R x
theorem Rows'.below {α : Type} {K : Kin α} {w : World} {w' : World} {a : Option Addr} {n : Nat} {c : Nat} {X : List α} (h : Rows' K w a n c X) {B : Nat} (hb : Below B w w') (hB : w.heap.size ≤ B) : Rows' K w' a n c X := by
  refine ⟨h.len, h.le, h.max, h.nil, ?_, fun x hx => K.below (h.ok x hx) hb hB⟩
  rcases h.row with h0 | ⟨b, off, ha, hlt, hc⟩
  · exact .inl h0
  · refine .inr ⟨b, off, ha, Nat.lt_of_lt_of_le hlt hb.size, fun i x hx j v hv => ?_⟩
    rw [hb.cell (p := ⟨b, off + i * K.k + j, none⟩) (Nat.lt_of_lt_of_le hlt hB)]
    exact hc i x hx j v hv
theorem Rows'.but {α : Type} {K : Kin α} {w : World} {w' : World} {a : Option Addr} {n : Nat} {c : Nat} {X : List α} {g : Nat} (h : Rows' K w a n c X) (hb : But g w w') (ho : OffR K g a n X) : Rows' K w' a n c X := by
  refine ⟨h.len, h.le, h.max, h.nil, ?_, fun x hx => K.but (h.ok x hx) hb (ho.x x hx)⟩
  rcases ho.a with h0 | hne
  · exact .inl h0
  · rcases h.row with h0 | ⟨b, off, ha, hlt, hc⟩
    · exact .inl h0
    · refine .inr ⟨b, off, ha, Nat.lt_of_lt_of_le hlt hb.size, fun i x hx j v hv => ?_⟩
      rw [hb.cell ⟨b, off + i * K.k + j, none⟩ hlt (by have := hne _ ha; exact this)]
      exact hc i x hx j v hv
theorem Rows'.off {α : Type} {K : Kin α} {w : World} {a : Option Addr} {n : Nat} {c : Nat} {X : List α} (h : Rows' K w a n c X) {R : Nat} (hR : w.heap.size ≤ R) : OffR K R a n X := by
  refine ⟨?_, fun x hx => K.far (h.ok x hx) hR⟩
  rcases h.row with h0 | ⟨b, off, rfl, hlt, _⟩
  · exact .inl h0
  · exact .inr fun y e => by cases e; simp; omega
theorem Rows'.none {α : Type} {K : Kin α} (w : World) : Rows' K w none 0 0 [] := ⟨rfl, Nat.le_refl _, by omega, fun _ => rfl, .inl rfl, fun x hx => by cases hx⟩
theorem Rows'.at {α : Type} {K : Kin α} {w : World} {a : Option Addr} {n : Nat} {c : Nat} {X : List α} (h : Rows' K w a n c X) {i : Nat} (hi : i < n) : ∃ b off x, a = some ⟨b, off, .none⟩ ∧ X[i]? = some x ∧ K.ok w x ∧ b < w.heap.size ∧ ∀ j v, (K.cs x)[j]? = some v → w.cell? ⟨b, off + i * K.k + j, .none⟩ = some v := by
  obtain ⟨b, off, e, hlt, hc⟩ := h.row.resolve_left (by omega)
  obtain ⟨x, hx⟩ : ∃ x, X[i]? = some x := ⟨_, List.getElem?_eq_getElem (by rw [h.len]; exact hi)⟩
  exact ⟨b, off, x, e, hx, h.ok x (List.mem_of_getElem? hx), hlt, hc i x hx⟩
theorem Rows'.lies {α : Type} {K : Kin α} {w : World} {a : Option Addr} {n : Nat} {c : Nat} {X : List α} (h : Rows' K w a n c X) (hn : 0 < n) : ∃ b off, a = some ⟨b, off, .none⟩ ∧ b < w.heap.size ∧ ∀ i x, X[i]? = some x → ∀ j v, (K.cs x)[j]? = some v → w.cell? ⟨b, off + i * K.k + j, .none⟩ = some v := h.row.resolve_left (by omega)
theorem Rows'.take {α : Type} {K : Kin α} {w : World} {a : Option Addr} {n : Nat} {c : Nat} {X : List α} (h : Rows' K w a n c X) {m : Nat} (hm : m ≤ n) : Rows' K w a m c (X.take m) := by
  refine ⟨by rw [List.length_take, h.len]; omega, Nat.le_trans hm h.le, h.max, h.nil, ?_, fun x hx => h.ok x (List.mem_of_mem_take hx)⟩
  rcases h.row with h0 | ⟨b, off, ha, hlt, hc⟩
  · exact .inl (by omega)
  · exact .inr ⟨b, off, ha, hlt, fun i x hx => hc i x (by
      have hi := (List.getElem?_eq_some_iff.1 hx).1
      rw [List.length_take] at hi
      rwa [List.getElem?_take_of_lt (by omega)] at hx)⟩
theorem Rows'.drop {α : Type} {K : Kin α} {w : World} {a : Option Addr} {n : Nat} {c : Nat} {X : List α} (h : Rows' K w a n c X) {j : Nat} (hj : j ≤ n) : Rows' K w (if c = j then a else a.map (fun x => x.add (j * K.k))) (n - j) (c - j) (X.drop j) := by
  have hlen := h.len
  have hle := h.le
  have hmax := h.max
  refine ⟨by rw [List.length_drop, hlen], by omega, by omega, fun e => ?_, ?_, fun x hx => h.ok x (List.mem_of_mem_drop hx)⟩
  · by_cases hcj : c = j
    · omega
    · rw [if_neg hcj] at e
      cases ha : a with
      | none => have := h.nil ha; omega
      | some x => rw [ha] at e; cases e
  · rcases h.row with h0 | ⟨b, off, ha, hlt, hc⟩
    · exact .inl (by omega)
    · by_cases hcj : c = j
      · exact .inl (by omega)
      · refine .inr ⟨b, off + j * K.k, by rw [if_neg hcj, ha]; simp [addr_add], hlt, fun i x hx k v hv => ?_⟩
        rw [List.getElem?_drop] at hx
        have := hc (j + i) x hx k v hv
        rw [Nat.add_mul] at this
        rwa [Nat.add_assoc off]

/-- Elements of the call's own, in block g; what they point to lies in newer memory. -/
structure MineR {α : Type} (K : Kin α) (t : TypeId) (w : World) (g : Nat) (X : List α) : Prop where
  lay : Lay w g (K.cells X)
  ok : ∀ x ∈ X, K.ok w x
  row : ∃ cur : Array Value, w.heap[g]? = some (.cells cur t (0, 0)) ∧ cur.size = X.length * K.k
theorem MineR.below {α : Type} {K : Kin α} {w : World} {w' : World} {X : List α} {t : TypeId} {g : Nat} (h : MineR K t w g X) (hb : Below w.heap.size w w') : MineR K t w' g X :=
  ⟨h.lay.below hb, fun x hx => K.below (h.ok x hx) hb (Nat.le_refl _), by obtain ⟨cur, e, k⟩ := h.row; exact ⟨cur, by rw [hb.block g h.lay.lt]; exact e, k⟩⟩
/-- Another block is written. -/
theorem MineR.far {α : Type} {K : Kin α} {w : World} {X : List α} {t : TypeId} {g : Nat} (h : MineR K t w g X) {p : Addr} (v : Value) (hf : But p.block w (w.setCell p v)) (hp : p.block ≠ g) (ho : ∀ x ∈ X, K.off p.block x) : MineR K t (w.setCell p v) g X :=
  ⟨h.lay.far p v hp, fun x hx => K.but (h.ok x hx) hf (ho x hx), by obtain ⟨cur, e, k⟩ := h.row; exact ⟨cur, by rw [heap_setCell_other _ _ _ _ (fun e => hp e.symm)]; exact e, k⟩⟩
/-- A list that the call owns, and appends to. -/
structure OwnK {α : Type} (K : Kin α) (t : TypeId) (w : World) (base : Nat) (v : Value) (X : List α) : Prop where
  own : w.ownsRow base t K.k v X.length (K.cells X)
  ok : ∀ x ∈ X, K.ok w x
  off : ∀ x ∈ X, ∀ g, v.ownBlock = some g → K.off g x
theorem OwnK.nil {α : Type} {K : Kin α} {t : TypeId} (w : World) (base : Nat) : OwnK K t w base (.slice none 0 0) [] := ⟨World.ownsRow_nil w base _ _, by simp, by simp⟩
theorem MineR.own {α : Type} {K : Kin α} {w : World} {X : List α} {t : TypeId} {g : Nat} (h : MineR K t w g X) (hm : X.length ≤ maxLen) (ho : ∀ x ∈ X, K.off g x) : OwnK K t w g (.slice (some ⟨g, 0, .none⟩) X.length X.length) X := by
  obtain ⟨cur, e, k⟩ := h.row
  have hl : cur.toList = K.cells X := by
    apply List.ext_getElem?
    intro i
    by_cases hi : i < (K.cells X).length
    · obtain ⟨v, hv⟩ : ∃ v, (K.cells X)[i]? = some v := ⟨_, List.getElem?_eq_getElem hi⟩
      have := h.lay.cell i v hv
      rw [cell_of_row w g _ _ _ _ e] at this
      rw [hv]
      simpa using this
    · have h1 : (K.cells X)[i]? = none := List.getElem?_eq_none (by omega)
      have h2 : cur.toList[i]? = none := List.getElem?_eq_none (by rw [Array.length_toList, k]; rw [Kin.cells_len] at hi; omega)
      rw [h1, h2]
  refine ⟨⟨by rw [Kin.cells_len], .inr ⟨g, X.length, cur, rfl, Nat.le_refl _, e, Nat.le_refl _, hm, k, ?_⟩⟩, h.ok, fun x hx b hb => ?_⟩
  · rw [hl, List.take_of_length_le (by rw [Kin.cells_len]; omega)]
  · obtain rfl : g = b := by simpa [Value.ownBlock] using hb
    exact ho x hx
theorem OwnK.below {α : Type} {K : Kin α} {w : World} {w' : World} {X : List α} {t : TypeId} {base : Nat} {v : Value} (h : OwnK K t w base v X) (hb : Below w.heap.size w w') : OwnK K t w' base v X :=
  ⟨h.own.kept (row := none) ⟨hb.os, hb.tape, hb.output, hb.size, fun k hk _ => hb.block k hk⟩ (by cases v.ownBlock <;> simp), fun x hx => K.below (h.ok x hx) hb (Nat.le_refl _), h.off⟩
/-- A block of the call's own that holds such elements. -/
theorem Rows'.of_lay {α : Type} {K : Kin α} {w : World} {g n : Nat} {X : List α} (h : Lay w g (K.cells X)) (hok : ∀ x ∈ X, K.ok w x) (hn : X.length = n) (hm : n ≤ 9223372036854775807) : Rows' K w (some ⟨g, 0, .none⟩) n n X := by
  subst hn
  refine ⟨rfl, Nat.le_refl _, hm, fun e => (by cases e), .inr ⟨g, 0, rfl, h.lt, fun i y hy j v hv => ?_⟩, hok⟩
  have := h.cell _ _ (Kin.cells_get X i y hy j v hv)
  simpa using this

end Go.Proofs.YtkamnbigfdbgbaaDoor

/- Lists of structs that a call lays anew, one after the other; plain mathematics, no condition. -/
namespace Go.Proofs.YtkamnbigfdbgbaaDoor
open Go.RowKit
set_option linter.unusedVariables false
set_option maxRecDepth 100000
set_option linter.unusedSimpArgs false

/-- Cells stored one behind the other. -/
def putAll (w : World) (g : Nat) : Nat → List Value → World
  | _, [] => w
  | o, v :: r => putAll (w.setCell ⟨g, o, none⟩ v) g (o + 1) r
def setAll {β : Type} (L : List β) : Nat → List β → List β
  | _, [] => L
  | o, v :: r => setAll (L.set o v) (o + 1) r
theorem putAll_but (g : Nat) : ∀ (vs : List Value) (w : World) (o : Nat), ButI g w (putAll w g o vs)
  | [], w, o => ButI.refl g w
  | v :: r, w, o => ((ButI.refl g w).step o v).trans (putAll_but g r _ (o + 1))
theorem putAll_lay {g : Nat} : ∀ (vs : List Value) {w : World} {L : List Value} (o : Nat), Lay w g L → Lay (putAll w g o vs) g (setAll L o vs)
  | [], _, _, _, h => h
  | v :: r, _, _, o, h => putAll_lay r (o + 1) (h.set o v)
theorem putAll_row {g : Nat} {t : TypeId} {n : Nat} : ∀ (vs : List Value) {w : World} (o : Nat), (∃ cur : Array Value, w.heap[g]? = some (.cells cur t (0, 0)) ∧ cur.size = n) → ∃ cur : Array Value, (putAll w g o vs).heap[g]? = some (.cells cur t (0, 0)) ∧ cur.size = n
  | [], _, _, h => h
  | v :: r, w, o, ⟨cur, e, k⟩ => putAll_row r (o + 1) ⟨_, heap_setCell_same _ _ _ _ _ _ e, by simpa using k⟩
theorem setAll_app {β : Type} : ∀ (vs P A R : List β), A.length = vs.length → setAll (P ++ (A ++ R)) P.length vs = P ++ (vs ++ R)
  | [], P, A, R, h => by
    have : A = [] := List.eq_nil_of_length_eq_zero h
    subst this
    rfl
  | v :: r, P, [], R, h => by cases h
  | v :: r, P, a :: A, R, h => by
    have e : (P ++ (a :: A ++ R)).set P.length v = (P ++ [v]) ++ (A ++ R) := by simp
    have := setAll_app r (P ++ [v]) A R (by simpa using h)
    rw [List.length_append] at this
    rw [setAll, e, show P.length + 1 = P.length + [v].length from rfl, this]
    simp
theorem Kin.cells_put {α : Type} {K : Kin α} (X : List α) (i : Nat) (x : α) (h : i < X.length) : setAll (K.cells X) (i * K.k) (K.cs x) = K.cells (X.set i x) := by
  have e : K.cells X = K.cells (X.take i) ++ (K.cs X[i] ++ K.cells (X.drop (i + 1))) := by
    rw [← Kin.cells_cons, ← Kin.cells_app, ← List.drop_eq_getElem_cons h, List.take_append_drop]
  have e2 : K.cells (X.set i x) = K.cells (X.take i) ++ (K.cs x ++ K.cells (X.drop (i + 1))) := by
    rw [← Kin.cells_cons, ← Kin.cells_app, List.set_eq_take_append_cons_drop, if_pos h]
  have l : (K.cells (X.take i)).length = i * K.k := by rw [Kin.cells_len, List.length_take, Nat.min_eq_left (by omega)]
  rw [e, e2, ← l]
  exact setAll_app _ _ _ _ (by rw [K.len, K.len])
/-- One of them is stored anew. -/
theorem MineR.put {α : Type} {K : Kin α} {t : TypeId} {w : World} {g : Nat} {X : List α} (h : MineR K t w g X) {i : Nat} (hi : i < X.length) {x : α} (hx : K.ok w x) (hn : ∀ y ∈ X, K.off g y) (ho : K.off g x) :
    MineR K t (putAll w g (i * K.k) (K.cs x)) g (X.set i x) := by
  have hb := putAll_but g (K.cs x) w (i * K.k)
  refine ⟨by rw [← Kin.cells_put X i x hi]; exact putAll_lay _ _ h.lay, fun z hz => ?_, by rw [List.length_set]; exact putAll_row _ _ h.row⟩
  rcases List.mem_or_eq_of_mem_set hz with hz | rfl
  · exact K.but (h.ok z hz) hb.but (hn z hz)
  · exact K.but hx hb.but ho
theorem take_setK {α β : Type} {p : α → β} {X X' : List α} {k : Nat} {z u : α} (hz : X[k]? = some z) (hk : k < X'.length) (h : (X'.take k).map p = (X.take k).map p) (hu : p u = p z) : ((X'.set k u).take (k + 1)).map p = (X.take (k + 1)).map p := by
  obtain ⟨g1, g2⟩ := List.getElem?_eq_some_iff.1 hz
  rw [List.take_succ_eq_append_getElem g1, List.take_succ_eq_append_getElem (by simpa using hk), List.map_append, List.map_append, List.take_set_of_le (Nat.le_refl k), h, g2]
  simp [hu]
theorem Kin.made {α : Type} (K : Kin α) (z : α) (zs : Array Value) (hz : zs.toList = K.cs z) (hk : 0 < K.k) (n : Nat) : madeCells zs (n * K.k) = (K.cells (List.replicate n z)).toArray := by
  have hs : zs.size = K.k := by rw [← Array.length_toList, hz, K.len]
  apply Array.ext_getElem?
  intro i
  have e : (K.cells (List.replicate n z)).toArray[i]? = (K.cells (List.replicate n z))[i]? := by simp
  rw [e]
  by_cases h : i < n * K.k
  · have h1 : i / K.k < n := Nat.div_lt_of_lt_mul (by rw [Nat.mul_comm]; exact h)
    have hm := Nat.mod_lt i hk
    have h2 : (K.cs z)[i % K.k]? = some zs[i % K.k]! := by
      rw [← hz, Array.getElem?_toList, getElem!_pos zs _ (by rw [hs]; exact hm)]
      simp [hs, hm]
    have := Kin.cells_get (K := K) (List.replicate n z) (i / K.k) z (by rw [List.getElem?_replicate, if_pos h1]) _ _ h2
    rw [Nat.mul_comm, Nat.div_add_mod] at this
    rw [this]
    simp [madeCells, h, hs]
  · rw [Array.getElem?_eq_none (by rw [size_madeCells]; omega), List.getElem?_eq_none (by rw [Kin.cells_len]; simp; omega)]
theorem mkR {α : Type} (K : Kin α) {P : Program} (z : α) {zs : Array Value} {ts t : TypeId} {i : TypeInfo} {v : Value} (hu : P.underlying ts = some (.slice t)) (hi : P.info? t = some i) (hz : i.zero = some v) (hv : v.cells = zs) (hc : zs.toList = K.cs z) (hs : i.size = K.k) (hb : i.bytes ≤ 1000) (hk : 0 < K.k) (n : Nat) (hn : n ≤ 1000000) (w : World) :
    (Instr.makeSlice ts (.int .i64 (n : Int)) (.int .i64 (n : Int))).run P w = .ok (.slice (some ⟨w.heap.size, 0, none⟩) n n) (w.alloc (.cells (K.cells (List.replicate n z)).toArray t)) := by
  have hr := run_make (P := P) w ts t i _ hu hi hz .i64 .i64 (n : Int) (n : Int) (by omega) (Int.le_refl _) (by rw [← Int.natCast_mul]; exact Int.le_trans (Int.ofNat_le.2 (Nat.mul_le_mul hb hn)) (by decide)) (by omega)
  simp only [Int.toNat_natCast, hs] at hr
  rw [hr, hv, Kin.made K z zs hc hk]
theorem MineR.made {α : Type} (K : Kin α) (t : TypeId) (z : α) (hz : ∀ w, K.ok w z) (n : Nat) (w : World) : MineR K t (w.alloc (.cells (K.cells (List.replicate n z)).toArray t (0, 0))) w.heap.size (List.replicate n z) :=
  ⟨Lay.made w _ _, fun y hy => by rw [List.eq_of_mem_replicate hy]; exact hz _, ⟨_, heap_new w _, by simp [Kin.cells_len]⟩⟩
/-- When such a struct is new, from block B on. -/
structure NewK {α : Type} (K : Kin α) where
  new : Nat → α → Prop
  off : ∀ {B R : Nat} {y : α}, new B y → R < B → K.off R y
  mono : ∀ {B B' : Nat} {y : α}, new B y → B' ≤ B → new B' y
  zero : α
  zero_new : ∀ B, new B zero
  zero_ok : ∀ w, K.ok w zero
/-- What a copy of such a list is: a list in new memory that reads alike. -/
abbrev Copied {α β : Type} (K : Kin α) (t : TypeId) (p : α → β) (N : NewK K) (w : World) (n : Nat) (X : List α) (e : Ending) (w' : World) : Prop :=
  (∃ (g : Nat) (Y : List α), e = .returned (.slice (some ⟨g, 0, none⟩) n n) ∧ MineR K t w' g Y ∧ Y.length = n ∧ Y.map p = X.map p ∧ w.heap.size ≤ g ∧ ∀ y ∈ Y, N.new (g + 1) y) ∧ Below w.heap.size w w'
/-- What a copy of one is. -/
abbrev Copy1 {α β : Type} (K : Kin α) (v : α → Value) (p : α → β) (N : NewK K) (x : α) (w : World) (e : Ending) (w' : World) : Prop :=
  (∃ y, e = .returned (v y) ∧ K.ok w' y ∧ N.new w.heap.size y ∧ p y = p x) ∧ Below w.heap.size w w'
theorem MineR.at {α : Type} {K : Kin α} {t : TypeId} {w : World} {g : Nat} {X : List α} (h : MineR K t w g X) {i j : Nat} (hi : i < X.length) (hj : j < K.k) : ∃ u, w.cell? ⟨g, i * K.k + j, none⟩ = some u := by
  have hl : j < (K.cs X[i]).length := by rw [K.len]; exact hj
  exact ⟨_, h.lay.cell _ _ (Kin.cells_get X i X[i] (List.getElem?_eq_getElem hi) j _ (List.getElem?_eq_getElem hl))⟩
end Go.Proofs.YtkamnbigfdbgbaaDoor

/- The contract of plain.list over ints: a copy in new memory; no condition but that the list reads, and is no greater than a machine bears. -/
namespace Go.Proofs.YtkamnbigfdbgbaaDoor
open Go.RowKit
set_option linter.unusedVariables false
set_option maxRecDepth 100000
set_option linter.unusedSimpArgs false

theorem Lay.of_row {w : World} {q : Nat} {L : List Value} {t : TypeId} (h : w.heap[q]? = some (.cells L.toArray t (0, 0))) : Lay w q L :=
  ⟨fun i v hv => by rw [cell_of_row w q _ _ t _ h]; simpa using hv, fun j => by simp [World.frozen?, h], (Array.getElem?_eq_some_iff.1 h).1⟩
set_option maxHeartbeats 1000000 in
theorem plistL_c (a : Option Addr) (n c : Nat) (l : List Int) (w : World) (h : Ints w a n c l) (hn : n ≤ 100000) :
    Calls Tryd.prog 47 #[.slice a n c] w fun e w' => (∃ q, e = .returned (.slice (some ⟨q, 0, none⟩) n n) ∧ Ints w' (some ⟨q, 0, none⟩) n n l ∧ w.heap.size ≤ q ∧ Lay w' q (cellsOf l)) ∧ Below w.heap.size w w' := by
  have n2 : (n : Int) ≤ 100000 := by omega
  have hmk := run_make_row' (P := Tryd.prog) 23 3 (.int .i64 0) 8 Tryd.underlying23 infoInt rfl .i64 .i64 n (by omega) (by omega)
  go_enter Tryd.func47, Tryd.ntmps47
  go_wp2_with fail
  obtain ⟨w2, r2, g2, b2⟩ := copy_run (P := Tryd.prog) (w.alloc (.cells (madeCells #[.int .i64 0] n) 3)) 23 23 3 3 Tryd.underlying23 sizeInt (some ⟨w.heap.size, 0, none⟩) a n n n c w.heap.size 0
    (madeCells #[.int .i64 0] n).toList 3 (heap_new _ _) (cellsOf l) (by rw [cellsOf_len, h.len]; exact (Nat.min_self n).symm) (fun hp => ⟨rfl, (h.below (B := w.heap.size) (by (repeat first | exact bel0 | assumption | refine bel1 ?_ | refine bel2 ?_ | refine bel3 ?_ | refine belowT ?_ (by assumption) | refine bel5 ?_ (by simp; try omega))) (Nat.le_refl _)).src (by rw [cellsOf_len, h.len] at hp; exact hp)⟩) (by simp [size_madeCells, cellsOf_len, h.len]) (cellsOf_one l)
  rw [r2]
  have G2 := hide g2
  clear g2 r2
  go_wp2
  go_ret
  have g2 := G2.out
  rw [splice_one _ _ (by simp [size_madeCells, cellsOf_len, h.len])] at g2
  exact ⟨⟨_, rfl, Ints.of_row g2 (by rw [h.len]; omega) h.wf h.len, Nat.le_refl _, Lay.of_row g2⟩, (belowA (Below.refl _ _) _).trans b2⟩
theorem plist_c (a : Option Addr) (n c : Nat) (l : List Int) (w : World) (h : Ints w a n c l) (hn : n ≤ 100000) :
    Calls Tryd.prog 47 #[.slice a n c] w fun e w' => (∃ q, e = .returned (.slice (some ⟨q, 0, none⟩) n n) ∧ Ints w' (some ⟨q, 0, none⟩) n n l ∧ w.heap.size ≤ q ∧ q < w'.heap.size) ∧ Below w.heap.size w w' :=
  (plistL_c a n c l w h hn).mono fun e w' ⟨⟨q, h1, h2, h3, h4⟩, h5⟩ => ⟨⟨q, h1, h2, h3, h4.lt⟩, h5⟩

end Go.Proofs.YtkamnbigfdbgbaaDoor

/- Zones of the call's own of which a cell changes, and what stays as it was; plain mathematics, no condition. -/
namespace Go.Proofs.YtkamnbigfdbgbaaDoor
open Go.RowKit
set_option linter.unusedVariables false
set_option maxRecDepth 100000
set_option linter.unusedSimpArgs false

/-- A zone of another state. -/
def ZV.to (s : Int) (z : ZV) : ZV := ⟨s, z.a, z.n, z.c, z.l⟩

/-- The zones' blocks all lie from B on. -/
def NewL (B : Nat) (Z : List ZV) : Prop := ∀ z ∈ Z, ∀ x, z.a = some x → B ≤ x.block
theorem NewL.set {B : Nat} {Z : List ZV} (h : NewL B Z) (i : Nat) {u : ZV} (hu : ∀ x, u.a = some x → B ≤ x.block) : NewL B (Z.set i u) := fun z hz => by
  rcases List.mem_or_eq_of_mem_set hz with hz | rfl
  · exact h z hz
  · exact hu
theorem NewL.at {B : Nat} {Z : List ZV} (h : NewL B Z) {i : Nat} {z : ZV} (hz : Z[i]? = some z) : ∀ x, z.a = some x → B ≤ x.block := h z (List.mem_of_getElem? hz)
theorem NewL.to {B : Nat} {Z : List ZV} (h : NewL B Z) {i : Nat} {z : ZV} (hz : Z[i]? = some z) (s : Int) : NewL B (Z.set i (z.to s)) := h.set i (u := z.to s) (fun x e => h.at hz x e)
theorem NewL.mono {B B' : Nat} {Z : List ZV} (h : NewL B Z) (hb : B' ≤ B) : NewL B' Z := fun z hz x e => Nat.le_trans hb (h z hz x e)
theorem NewL.nil (B : Nat) : NewL B [] := fun z hz => by cases hz

theorem Mine.put {w w' : World} {base g n c : Nat} {Z : List ZV} (h : Mine w base g n c Z) {i : Nat} {z : ZV} (hz : Z[i]? = some z) {s : Int} (hp : Put w w' ⟨g, i * 2, none⟩ (.int .i64 s)) :
    Mine w' base g n c (Z.set i (z.to s)) := by
  have hlen := h.zs.len
  have hi : i < Z.length := (List.getElem?_eq_some_iff.1 hz).1
  obtain ⟨y0, y1⟩ := h.cells i z hz
  have hc : ∀ j u, (Z.set i (z.to s))[j]? = some u → w'.cell? ⟨g, j * 2, none⟩ = some (.int .i64 u.s) ∧ w'.cell? ⟨g, j * 2 + 1, none⟩ = some (.slice u.a u.n u.c) := by
    intro j u hu
    by_cases hij : i = j
    · subst hij
      rw [List.getElem?_set_self hi] at hu
      cases hu
      exact ⟨hp.here, by rw [hp.other _ (by simp)]; exact y1⟩
    · rw [List.getElem?_set_ne hij] at hu
      obtain ⟨u0, u1⟩ := h.cells j u hu
      refine ⟨?_, ?_⟩
      · rw [hp.other _ (by (first | (simp; done) | (simp; omega)))]; exact u0
      · rw [hp.other _ (by (first | (simp; done) | (simp; omega)))]; exact u1
  have hoff : ∀ u ∈ Z.set i (z.to s), u.off g := fun u hu => by
    rcases List.mem_or_eq_of_mem_set hu with hu | rfl
    · exact h.off u hu
    · exact h.off z (List.mem_of_getElem? hz)
  have hok : ∀ u ∈ Z.set i (z.to s), u.ok w' := fun u hu => by
    have hw : u.ok w := by
      rcases List.mem_or_eq_of_mem_set hu with hu | rfl
      · exact h.zs.ok u hu
      · exact h.zs.ok z (List.mem_of_getElem? hz)
    exact Ints.but hw (But.of_put hp) (hoff u hu)
  refine ⟨⟨by simp [hlen], h.zs.le, h.zs.max, fun e => (by cases e), .inr ⟨g, 0, rfl, by rw [hp.size]; exact h.lt, fun j u hu => by simpa using hc j u hu⟩, hok⟩, h.base, by rw [hp.size]; exact h.lt, hc, fun j hj => ?_, hoff⟩
  rw [hp.ice]
  exact h.soft j hj

theorem Mine.but {w : World} {base g n c : Nat} {Z : List ZV} (h : Mine w base g n c Z) {w' : World} (hb : Below w.heap.size w w') : But g w w' := But.of_below hb (Nat.le_of_lt h.lt)

theorem set_to_p (Z : List ZV) (i : Nat) (z : ZV) (s : Int) : (Z.set i (z.to s)).map ZV.p = (Z.map ZV.p).set i (s, z.l) := by rw [set_p]; rfl

/-- What shutting makes of a zone's state. -/
def shutS (l : List Int) : Int := if l = [] then 0 else 3
theorem shutS_p (z : ZV) : (shutS z.l, z.l) = shutP z.p := by
  unfold shutS shutP ZV.p
  split
  · rename_i h; simp [h]
  · rfl

end Go.Proofs.YtkamnbigfdbgbaaDoor
