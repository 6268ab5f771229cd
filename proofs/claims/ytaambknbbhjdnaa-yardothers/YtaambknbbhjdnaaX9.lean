/- Lists of structs that a call lays anew, one after the other; plain mathematics, no condition. -/
import Derived.Test.YtaambknbbhjdnaaX1
import Derived.Test.YtaambknbbhjdnaaA1
namespace Go.Proofs.Ytaambknbbhjdnaa
open Go.RowKit
set_option linter.unusedVariables false
set_option maxRecDepth 100000
set_option linter.unusedSimpArgs false

/-- Cells stored one behind the other. -/
def putAll (w : World) (g : Nat) : Nat → List Value → World
  | _, [] => w
  | o, v :: r => putAll (w.setCell ⟨g, o, none⟩ v) g (o + 1) r
def setAll {β : Type} (L : List β) : Nat → List β → List β
  | _, [] => L
  | o, v :: r => setAll (L.set o v) (o + 1) r
theorem putAll_but (g : Nat) : ∀ (vs : List Value) (w : World) (o : Nat), ButI g w (putAll w g o vs)
  | [], w, o => ButI.refl g w
  | v :: r, w, o => ((ButI.refl g w).step o v).trans (putAll_but g r _ (o + 1))
theorem putAll_lay {g : Nat} : ∀ (vs : List Value) {w : World} {L : List Value} (o : Nat), Lay w g L → Lay (putAll w g o vs) g (setAll L o vs)
  | [], _, _, _, h => h
  | v :: r, _, _, o, h => putAll_lay r (o + 1) (h.set o v)
theorem putAll_row {g : Nat} {t : TypeId} {n : Nat} : ∀ (vs : List Value) {w : World} (o : Nat), (∃ cur : Array Value, w.heap[g]? = some (.cells cur t (0, 0)) ∧ cur.size = n) → ∃ cur : Array Value, (putAll w g o vs).heap[g]? = some (.cells cur t (0, 0)) ∧ cur.size = n
  | [], _, _, h => h
  | v :: r, w, o, ⟨cur, e, k⟩ => putAll_row r (o + 1) ⟨_, heap_setCell_same _ _ _ _ _ _ e, by simpa using k⟩
theorem setAll_app {β : Type} : ∀ (vs P A R : List β), A.length = vs.length → setAll (P ++ (A ++ R)) P.length vs = P ++ (vs ++ R)
  | [], P, A, R, h => by
    have : A = [] := List.eq_nil_of_length_eq_zero h
    subst this
    rfl
  | v :: r, P, [], R, h => by cases h
  | v :: r, P, a :: A, R, h => by
    have e : (P ++ (a :: A ++ R)).set P.length v = (P ++ [v]) ++ (A ++ R) := by simp
    have := setAll_app r (P ++ [v]) A R (by simpa using h)
    rw [List.length_append] at this
    rw [setAll, e, show P.length + 1 = P.length + [v].length from rfl, this]
    simp
theorem setAll_all {β : Type} (A vs : List β) (h : A.length = vs.length) : setAll A 0 vs = vs := by
  have := setAll_app vs [] A [] h
  simpa using this
theorem Lay.fill {w : World} {g : Nat} {L : List Value} (h : Lay w g L) {vs : List Value} (e : L.length = vs.length) : Lay (putAll w g 0 vs) g vs := by
  have := putAll_lay vs 0 h
  rwa [setAll_all L vs e] at this
theorem Kin.cells_put {α : Type} {K : Kin α} (X : List α) (i : Nat) (x : α) (h : i < X.length) : setAll (K.cells X) (i * K.k) (K.cs x) = K.cells (X.set i x) := by
  have e : K.cells X = K.cells (X.take i) ++ (K.cs X[i] ++ K.cells (X.drop (i + 1))) := by
    rw [← Kin.cells_cons, ← Kin.cells_app, ← List.drop_eq_getElem_cons h, List.take_append_drop]
  have e2 : K.cells (X.set i x) = K.cells (X.take i) ++ (K.cs x ++ K.cells (X.drop (i + 1))) := by
    rw [← Kin.cells_cons, ← Kin.cells_app, List.set_eq_take_append_cons_drop, if_pos h]
  have l : (K.cells (X.take i)).length = i * K.k := by rw [Kin.cells_len, List.length_take, Nat.min_eq_left (by omega)]
  rw [e, e2, ← l]
  exact setAll_app _ _ _ _ (by rw [K.len, K.len])
/-- One of them is stored anew. -/
theorem MineR.put {α : Type} {K : Kin α} {t : TypeId} {w : World} {g : Nat} {X : List α} (h : MineR K t w g X) {i : Nat} (hi : i < X.length) {x : α} (hx : K.ok w x) (hn : ∀ y ∈ X, K.off g y) (ho : K.off g x) :
    MineR K t (putAll w g (i * K.k) (K.cs x)) g (X.set i x) := by
  have hb := putAll_but g (K.cs x) w (i * K.k)
  refine ⟨by rw [← Kin.cells_put X i x hi]; exact putAll_lay _ _ h.lay, fun z hz => ?_, by rw [List.length_set]; exact putAll_row _ _ h.row⟩
  rcases List.mem_or_eq_of_mem_set hz with hz | rfl
  · exact K.but (h.ok z hz) hb.but (hn z hz)
  · exact K.but hx hb.but ho
theorem take_setK {α β : Type} {p : α → β} {X X' : List α} {k : Nat} {z u : α} (hz : X[k]? = some z) (hk : k < X'.length) (h : (X'.take k).map p = (X.take k).map p) (hu : p u = p z) : ((X'.set k u).take (k + 1)).map p = (X.take (k + 1)).map p := by
  obtain ⟨g1, g2⟩ := List.getElem?_eq_some_iff.1 hz
  rw [List.take_succ_eq_append_getElem g1, List.take_succ_eq_append_getElem (by simpa using hk), List.map_append, List.map_append, List.take_set_of_le (Nat.le_refl k), h, g2]
  simp [hu]
theorem Kin.made {α : Type} (K : Kin α) (z : α) (zs : Array Value) (hz : zs.toList = K.cs z) (hk : 0 < K.k) (n : Nat) : madeCells zs (n * K.k) = (K.cells (List.replicate n z)).toArray := by
  have hs : zs.size = K.k := by rw [← Array.length_toList, hz, K.len]
  apply Array.ext_getElem?
  intro i
  have e : (K.cells (List.replicate n z)).toArray[i]? = (K.cells (List.replicate n z))[i]? := by simp
  rw [e]
  by_cases h : i < n * K.k
  · have h1 : i / K.k < n := Nat.div_lt_of_lt_mul (by rw [Nat.mul_comm]; exact h)
    have hm := Nat.mod_lt i hk
    have h2 : (K.cs z)[i % K.k]? = some zs[i % K.k]! := by
      rw [← hz, Array.getElem?_toList, getElem!_pos zs _ (by rw [hs]; exact hm)]
      simp [hs, hm]
    have := Kin.cells_get (K := K) (List.replicate n z) (i / K.k) z (by rw [List.getElem?_replicate, if_pos h1]) _ _ h2
    rw [Nat.mul_comm, Nat.div_add_mod] at this
    rw [this]
    simp [madeCells, h, hs]
  · rw [Array.getElem?_eq_none (by rw [size_madeCells]; omega), List.getElem?_eq_none (by rw [Kin.cells_len]; simp; omega)]
theorem mkR {α : Type} (K : Kin α) {P : Program} (z : α) {zs : Array Value} {ts t : TypeId} {i : TypeInfo} {v : Value} (hu : P.underlying ts = some (.slice t)) (hi : P.info? t = some i) (hz : i.zero = some v) (hv : v.cells = zs) (hc : zs.toList = K.cs z) (hs : i.size = K.k) (hb : i.bytes ≤ 1000) (hk : 0 < K.k) (n : Nat) (hn : n ≤ 1000000) (w : World) :
    (Instr.makeSlice ts (.int .i64 (n : Int)) (.int .i64 (n : Int))).run P w = .ok (.slice (some ⟨w.heap.size, 0, none⟩) n n) (w.alloc (.cells (K.cells (List.replicate n z)).toArray t)) := by
  have hr := run_make (P := P) w ts t i _ hu hi hz .i64 .i64 (n : Int) (n : Int) (by omega) (Int.le_refl _) (by rw [← Int.natCast_mul]; exact Int.le_trans (Int.ofNat_le.2 (Nat.mul_le_mul hb hn)) (by decide)) (by omega)
  simp only [Int.toNat_natCast, hs] at hr
  rw [hr, hv, Kin.made K z zs hc hk]
theorem MineR.made {α : Type} (K : Kin α) (t : TypeId) (z : α) (hz : ∀ w, K.ok w z) (n : Nat) (w : World) : MineR K t (w.alloc (.cells (K.cells (List.replicate n z)).toArray t (0, 0))) w.heap.size (List.replicate n z) :=
  ⟨Lay.made w _ _, fun y hy => by rw [List.eq_of_mem_replicate hy]; exact hz _, ⟨_, heap_new w _, by simp [Kin.cells_len]⟩⟩
/-- When such a struct is new, from block B on. -/
structure NewK {α : Type} (K : Kin α) where
  new : Nat → α → Prop
  off : ∀ {B R : Nat} {y : α}, new B y → R < B → K.off R y
  mono : ∀ {B B' : Nat} {y : α}, new B y → B' ≤ B → new B' y
  zero : α
  zero_new : ∀ B, new B zero
  zero_ok : ∀ w, K.ok w zero
/-- What a copy of such a list is: a list in new memory that reads alike. -/
abbrev Copied {α β : Type} (K : Kin α) (t : TypeId) (p : α → β) (N : NewK K) (w : World) (n : Nat) (X : List α) (e : Ending) (w' : World) : Prop :=
  (∃ (g : Nat) (Y : List α), e = .returned (.slice (some ⟨g, 0, none⟩) n n) ∧ MineR K t w' g Y ∧ Y.length = n ∧ Y.map p = X.map p ∧ w.heap.size ≤ g ∧ ∀ y ∈ Y, N.new (g + 1) y) ∧ Below w.heap.size w w'
/-- What a copy of one is. -/
abbrev Copy1 {α β : Type} (K : Kin α) (v : α → Value) (p : α → β) (N : NewK K) (x : α) (w : World) (e : Ending) (w' : World) : Prop :=
  (∃ y, e = .returned (v y) ∧ K.ok w' y ∧ N.new w.heap.size y ∧ p y = p x) ∧ Below w.heap.size w w'
theorem MineR.at {α : Type} {K : Kin α} {t : TypeId} {w : World} {g : Nat} {X : List α} (h : MineR K t w g X) {i j : Nat} (hi : i < X.length) (hj : j < K.k) : ∃ u, w.cell? ⟨g, i * K.k + j, none⟩ = some u := by
  have hl : j < (K.cs X[i]).length := by rw [K.len]; exact hj
  exact ⟨_, h.lay.cell _ _ (Kin.cells_get X i X[i] (List.getElem?_eq_getElem hi) j _ (List.getElem?_eq_getElem hl))⟩
/-- Another block's cells are stored. -/
theorem putAll_heap (g k : Nat) (h : k ≠ g) : ∀ (vs : List Value) (w : World) (o : Nat), (putAll w g o vs).heap[k]? = w.heap[k]?
  | [], _, _ => rfl
  | v :: r, w, o => by rw [putAll, putAll_heap g k h r, heap_setCell_other _ _ _ _ h]
theorem MineR.away {α : Type} {K : Kin α} {t : TypeId} {w : World} {g k : Nat} {X : List α} (h : MineR K t w g X) (vs : List Value) (o : Nat) (hk : k ≠ g) (ho : ∀ y ∈ X, K.off k y) : MineR K t (putAll w k o vs) g X :=
  ⟨h.lay.butI (putAll_but k vs w o) (fun e => hk e.symm), fun y hy => K.but (h.ok y hy) (putAll_but k vs w o).but (ho y hy), by obtain ⟨cur, e, z⟩ := h.row; exact ⟨cur, by rw [putAll_heap k g (fun e => hk e.symm)]; exact e, z⟩⟩

end Go.Proofs.Ytaambknbbhjdnaa
