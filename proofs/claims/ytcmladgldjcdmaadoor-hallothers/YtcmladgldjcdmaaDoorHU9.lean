/- The contracts of plain.CopyAnswer and plain.SameAnswer; no condition but that the arguments read as data, and are no greater than a machine bears. -/
import Derived.Test.YtcmladgldjcdmaaDoorHU8
import Derived.Test.YtcmladgldjcdmaaDoorHU7
import Derived.Deep.RegionHeld3
import Derived.Test.YtcmladgldjcdmaaDoorHU5
import Derived.Deep.AppendLies
import Derived.Test.YtcmladgldjcdmaaDoorHU1
namespace Go.Proofs.YtcmladgldjcdmaaDoor
open Go.RowKit
set_option linter.unusedVariables false
set_option maxRecDepth 100000
set_option linter.unusedSimpArgs false

set_option maxHeartbeats 2000000 in
theorem pwholeA_c (x : AV) (w : World) (h : x.ok w) (hn : x.n ≤ 100000) :
    Calls Tryd.prog 14 #[x.v] w fun e w' => (∃ q, e = .returned (.agg #[.int .i64 x.e, .int .i64 x.t, .slice (some ⟨q, 0, none⟩) x.n x.n]) ∧ Ints w' (some ⟨q, 0, none⟩) x.n x.n x.d ∧ w.heap.size ≤ q ∧ q < w'.heap.size) ∧ Below w.heap.size w w' := by
  obtain ⟨ee, tt, a, n, c, l⟩ := x
  have hI : Ints w a n c l := h
  dsimp only [AV.v] at *
  obtain ⟨x0, x1, x2, bw⟩ := three_boxes w [.int .i64 ee, .int .i64 tt, .slice a n c] [.int .i64 0, .int .i64 0, .slice none 0 0] [.int .i64 ee, .int .i64 tt, .slice a n c] 38 38 38
  replace hI := hI.below bw (Nat.le_refl _)
  go_enter Tryd.func14, Tryd.ntmps14
  go_upto_region 2 with fail
  generalize ((w.alloc (.cells [.int .i64 ee, .int .i64 tt, .slice a n c].toArray 38)).alloc (.cells [.int .i64 0, .int .i64 0, .slice none 0 0].toArray 38)).alloc (.cells [.int .i64 ee, .int .i64 tt, .slice a n c].toArray 38) = w1 at *
  have c2 := x0.cell 2 _ rfl
  go_wp2_with fail
  refine (plist_c a n c l _ hI hn).mono ?_
  rintro e w2 ⟨⟨q, rfl, iq, hq, hq2⟩, hb2⟩
  have hqw : w.heap.size + 1 + 1 < q := by have := x2.lt; omega
  clear c2 hq x0
  replace x1 := x1.below hb2
  replace x2 := x2.below hb2
  replace bw := belowT bw hb2
  clear hb2
  have e2 := x2.cell 2 _ rfl
  have f2 := x2.ice 2
  go_upto_region 3 with fail
  have hbu := (ButI.refl (w.heap.size + 1 + 1) w2).step 2 (.slice (some ⟨q, 0, none⟩) n n)
  have y2 : Lay _ _ [.int .i64 ee, .int .i64 tt, .slice (some ⟨q, 0, none⟩) n n] := x2.set 2 (.slice (some ⟨q, 0, none⟩) n n)
  have xR := x1.butI hbu (by omega)
  replace iq := iq.but hbu.but (.inr fun x e => by cases e; simp; omega)
  replace bw := bw.trans (hbu.below (B := w.heap.size) (by omega))
  have hsz := hbu.but.size
  clear e2 f2 x2 x1 hbu
  generalize w2.setCell ⟨w.heap.size + 1 + 1, 2, none⟩ (.slice (some ⟨q, 0, none⟩) n n) = w3 at *
  have a0 := y2.cell 0 _ rfl
  have a1 := y2.cell 1 _ rfl
  have a2 := y2.cell 2 _ rfl
  have e0 := xR.cell 0 _ rfl
  have e1 := xR.cell 1 _ rfl
  have e2 := xR.cell 2 _ rfl
  have f0 := xR.ice 0
  have f1 := xR.ice 1
  have f2 := xR.ice 2
  go_wp2
  have zB := ((xR.set 0 (.int .i64 (ee))).set 1 (.int .i64 (tt))).set 2 (.slice (some ⟨q, 0, none⟩) n n)
  have hbut := (((ButI.refl (w.heap.size + 1) (w3)).step 0 (.int .i64 (ee))).step 1 (.int .i64 (tt))).step 2 (.slice (some ⟨q, 0, none⟩) n n)
  generalize (((w3).setCell ⟨w.heap.size + 1, 0, none⟩ (.int .i64 (ee))).setCell ⟨w.heap.size + 1, 1, none⟩ (.int .i64 (tt))).setCell ⟨w.heap.size + 1, 2, none⟩ (.slice (some ⟨q, 0, none⟩) n n) = w9 at *
  have z0 := zB.cell 0 _ rfl
  have z1 := zB.cell 1 _ rfl
  have z2 := zB.cell 2 _ rfl
  exact bodyPost_ret (v := .agg #[.int .i64 ee, .int .i64 tt, .slice (some ⟨q, 0, none⟩) n n]) (by simp [results, Tryd.results14, go_sem, z0, z1, z2]) rfl
    ⟨⟨q, rfl, iq.but hbut.but (.inr fun x e => by cases e; simp; omega), by omega, by have := hbut.but.size; omega⟩, bw.trans (hbut.below (B := w.heap.size) (by omega))⟩


theorem psameA_c (x y : AV) (w : World) (hx : x.ok w) (hy : y.ok w) : Calls Tryd.prog 21 #[x.v, y.v] w fun e w' => e = .returned (.bool (sameA x.p y.p)) ∧ Below w.heap.size w w' := by
  obtain ⟨e1, t1, a1, n1, c1, l1⟩ := x
  obtain ⟨e2, t2, a2, n2, c2, l2⟩ := y
  dsimp only [AV.v, AV.p]
  have h1 : Ints w a1 n1 c1 l1 := hx
  have h2 : Ints w a2 n2 c2 l2 := hy
  have HS : Hid (sameA ⟨e1, t1, l1⟩ ⟨e2, t2, l2⟩ = (e1 == e2 && (t1 == t2 && decide (l1 = l2)))) := hide (by rw [Bool.eq_iff_iff]; simp [sameA])
  cases he : e1 == e2
  · go_enter Tryd.func21, Tryd.ntmps21
    go_wp2
    go_ret
    exact ⟨ret_bool (by rw [HS.out, he]; rfl), by (repeat first | exact bel0 | assumption | refine bel1 ?_ | refine bel2 ?_ | refine bel3 ?_ | refine belowT ?_ (by assumption) | refine bel5 ?_ (by simp; try omega))⟩
  · cases ht : t1 == t2
    · go_enter Tryd.func21, Tryd.ntmps21
      go_wp2
      go_ret
      exact ⟨ret_bool (by rw [HS.out, he, ht]; rfl), by (repeat first | exact bel0 | assumption | refine bel1 ?_ | refine bel2 ?_ | refine bel3 ?_ | refine belowT ?_ (by assumption) | refine bel5 ?_ (by simp; try omega))⟩
    · go_enter Tryd.func21, Tryd.ntmps21
      go_wp2_with fail
      refine (Equal_c a1 a2 n1 n2 c1 c2 l1 l2 _ (h1.below (B := w.heap.size) (by (repeat first | exact bel0 | assumption | refine bel1 ?_ | refine bel2 ?_ | refine bel3 ?_ | refine belowT ?_ (by assumption) | refine bel5 ?_ (by simp; try omega))) (Nat.le_refl _)) (h2.below (B := w.heap.size) (by (repeat first | exact bel0 | assumption | refine bel1 ?_ | refine bel2 ?_ | refine bel3 ?_ | refine belowT ?_ (by assumption) | refine bel5 ?_ (by simp; try omega))) (Nat.le_refl _))).mono ?_
      rintro e w1 ⟨rfl, q, rfl⟩
      go_wp2
      go_ret
      exact ⟨ret_bool (by rw [HS.out, he, ht]; simp), by (repeat first | exact bel0 | assumption | refine bel1 ?_ | refine bel2 ?_ | refine bel3 ?_ | refine belowT ?_ (by assumption) | refine bel5 ?_ (by simp; try omega))⟩


end Go.Proofs.YtcmladgldjcdmaaDoor

/- Lists of structs in memory, whatever their kind: read, of the call's own, and appended to; plain mathematics, no condition. -/
namespace Go.Proofs.YtcmladgldjcdmaaDoor
open Go.RowKit
set_option linter.unusedVariables false
set_option maxRecDepth 100000
set_option linter.unusedSimpArgs false

/-- A kind of structs in memory: how many cells, which, when they read as data, and in which blocks they don't lie. -/
structure Kin (α : Type) where
  k : Nat
  cs : α → List Value
  ok : World → α → Prop
  off : Nat → α → Prop
  len : ∀ x, (cs x).length = k
  one : ∀ x, ∀ v ∈ cs x, v.oneCell' = true
  below : ∀ {w w' : World} {x : α}, ok w x → ∀ {B : Nat}, Below B w w' → w.heap.size ≤ B → ok w' x
  but : ∀ {w w' : World} {g : Nat} {x : α}, ok w x → But g w w' → off g x → ok w' x
  far : ∀ {w : World} {R : Nat} {x : α}, ok w x → w.heap.size ≤ R → off R x

/-- The cells of a list. -/
def Kin.cells {α : Type} (K : Kin α) (X : List α) : List Value := X.flatMap K.cs
theorem Kin.cells_cons {α : Type} {K : Kin α} (x : α) (X : List α) : K.cells (x :: X) = K.cs x ++ K.cells X := by simp [Kin.cells]
theorem Kin.cells_app {α : Type} {K : Kin α} (X Y : List α) : K.cells (X ++ Y) = K.cells X ++ K.cells Y := by simp [Kin.cells]
theorem Kin.cells_len {α : Type} {K : Kin α} : ∀ X : List α, (K.cells X).length = X.length * K.k
  | [] => by simp [Kin.cells]
  | x :: X => by rw [Kin.cells_cons, List.length_append, Kin.cells_len X, K.len, List.length_cons, Nat.add_mul, Nat.one_mul, Nat.add_comm]
theorem Kin.cells_get {α : Type} {K : Kin α} : ∀ (X : List α) (i : Nat) (x : α), X[i]? = some x → ∀ j v, (K.cs x)[j]? = some v → (K.cells X)[i * K.k + j]? = some v
  | [], i, x, h, _, _, _ => by simp at h
  | y :: X, 0, x, h, j, v, hv => by
    have hj := (List.getElem?_eq_some_iff.1 hv).1
    simp at h
    subst h
    rw [Kin.cells_cons, List.getElem?_append_left (by omega)]
    simpa using hv
  | y :: X, i + 1, x, h, j, v, hv => by
    rw [Kin.cells_cons, List.getElem?_append_right (by rw [K.len, Nat.add_mul]; omega), K.len, show (i + 1) * K.k + j - K.k = i * K.k + j by rw [Nat.add_mul]; omega]
    exact Kin.cells_get X i x (by simpa using h) j v hv
theorem Kin.cells_one {α : Type} {K : Kin α} (X : List α) : ∀ v ∈ K.cells X, v.oneCell' = true := by
  intro v hv
  simp only [Kin.cells, List.mem_flatMap] at hv
  obtain ⟨x, _, hx⟩ := hv
  exact K.one x v hx

/-- A slice value's elements. -/
structure Rows' {α : Type} (K : Kin α) (w : World) (a : Option Addr) (n c : Nat) (X : List α) : Prop where
  len : X.length = n
  le : n ≤ c
  max : c ≤ 9223372036854775807
  nil : a = none → c = 0
  row : n = 0 ∨ ∃ b off, a = some ⟨b, off, none⟩ ∧ b < w.heap.size ∧ ∀ i x, X[i]? = some x → ∀ j v, (K.cs x)[j]? = some v → w.cell? ⟨b, off + i * K.k + j, none⟩ = some v
  ok : ∀ x ∈ X, K.ok w x
/-- Nothing of such a list lies in block R. -/
structure OffR {α : Type} (K : Kin α) (R : Nat) (a : Option Addr) (n : Nat) (X : List α) : Prop where
  a : n = 0 ∨ ∀ y, a = some y → y.block ≠ R
  x : ∀ x ∈ X, K.off R x
theorem Rows'.below {α : Type} {K : Kin α} {w : World} {w' : World} {a : Option Addr} {n : Nat} {c : Nat} {X : List α} (h : Rows' K w a n c X) {B : Nat} (hb : Below B w w') (hB : w.heap.size ≤ B) : Rows' K w' a n c X := by
  refine ⟨h.len, h.le, h.max, h.nil, ?_, fun x hx => K.below (h.ok x hx) hb hB⟩
  rcases h.row with h0 | ⟨b, off, ha, hlt, hc⟩
  · exact .inl h0
  · refine .inr ⟨b, off, ha, Nat.lt_of_lt_of_le hlt hb.size, fun i x hx j v hv => ?_⟩
    rw [hb.cell (p := ⟨b, off + i * K.k + j, none⟩) (Nat.lt_of_lt_of_le hlt hB)]
    exact hc i x hx j v hv
theorem Rows'.but {α : Type} {K : Kin α} {w : World} {w' : World} {a : Option Addr} {n : Nat} {c : Nat} {X : List α} {g : Nat} (h : Rows' K w a n c X) (hb : But g w w') (ho : OffR K g a n X) : Rows' K w' a n c X := by
  refine ⟨h.len, h.le, h.max, h.nil, ?_, fun x hx => K.but (h.ok x hx) hb (ho.x x hx)⟩
  rcases ho.a with h0 | hne
  · exact .inl h0
  · rcases h.row with h0 | ⟨b, off, ha, hlt, hc⟩
    · exact .inl h0
    · refine .inr ⟨b, off, ha, Nat.lt_of_lt_of_le hlt hb.size, fun i x hx j v hv => ?_⟩
      rw [hb.cell ⟨b, off + i * K.k + j, none⟩ hlt (by have := hne _ ha; exact this)]
      exact hc i x hx j v hv
theorem Rows'.off {α : Type} {K : Kin α} {w : World} {a : Option Addr} {n : Nat} {c : Nat} {X : List α} (h : Rows' K w a n c X) {R : Nat} (hR : w.heap.size ≤ R) : OffR K R a n X := by
  refine ⟨?_, fun x hx => K.far (h.ok x hx) hR⟩
  rcases h.row with h0 | ⟨b, off, rfl, hlt, _⟩
  · exact .inl h0
  · exact .inr fun y e => by cases e; simp; omega
theorem Rows'.none {α : Type} {K : Kin α} (w : World) : Rows' K w none 0 0 [] := ⟨rfl, Nat.le_refl _, by omega, fun _ => rfl, .inl rfl, fun x hx => by cases hx⟩
theorem Rows'.at {α : Type} {K : Kin α} {w : World} {a : Option Addr} {n : Nat} {c : Nat} {X : List α} (h : Rows' K w a n c X) {i : Nat} (hi : i < n) : ∃ b off x, a = some ⟨b, off, .none⟩ ∧ X[i]? = some x ∧ K.ok w x ∧ b < w.heap.size ∧ ∀ j v, (K.cs x)[j]? = some v → w.cell? ⟨b, off + i * K.k + j, .none⟩ = some v := by
  obtain ⟨b, off, e, hlt, hc⟩ := h.row.resolve_left (by omega)
  obtain ⟨x, hx⟩ : ∃ x, X[i]? = some x := ⟨_, List.getElem?_eq_getElem (by rw [h.len]; exact hi)⟩
  exact ⟨b, off, x, e, hx, h.ok x (List.mem_of_getElem? hx), hlt, hc i x hx⟩
theorem Rows'.lies {α : Type} {K : Kin α} {w : World} {a : Option Addr} {n : Nat} {c : Nat} {X : List α} (h : Rows' K w a n c X) (hn : 0 < n) : ∃ b off, a = some ⟨b, off, .none⟩ ∧ b < w.heap.size ∧ ∀ i x, X[i]? = some x → ∀ j v, (K.cs x)[j]? = some v → w.cell? ⟨b, off + i * K.k + j, .none⟩ = some v := h.row.resolve_left (by omega)
theorem Rows'.take {α : Type} {K : Kin α} {w : World} {a : Option Addr} {n : Nat} {c : Nat} {X : List α} (h : Rows' K w a n c X) {m : Nat} (hm : m ≤ n) : Rows' K w a m c (X.take m) := by
  refine ⟨by rw [List.length_take, h.len]; omega, Nat.le_trans hm h.le, h.max, h.nil, ?_, fun x hx => h.ok x (List.mem_of_mem_take hx)⟩
  rcases h.row with h0 | ⟨b, off, ha, hlt, hc⟩
  · exact .inl (by omega)
  · exact .inr ⟨b, off, ha, hlt, fun i x hx => hc i x (by
      have hi := (List.getElem?_eq_some_iff.1 hx).1
      rw [List.length_take] at hi
      rwa [List.getElem?_take_of_lt (by omega)] at hx)⟩
theorem Rows'.drop {α : Type} {K : Kin α} {w : World} {a : Option Addr} {n : Nat} {c : Nat} {X : List α} (h : Rows' K w a n c X) {j : Nat} (hj : j ≤ n) : Rows' K w (if c = j then a else a.map (fun x => x.add (j * K.k))) (n - j) (c - j) (X.drop j) := by
  have hlen := h.len
  have hle := h.le
  have hmax := h.max
  refine ⟨by rw [List.length_drop, hlen], by omega, by omega, fun e => ?_, ?_, fun x hx => h.ok x (List.mem_of_mem_drop hx)⟩
  · by_cases hcj : c = j
    · omega
    · rw [if_neg hcj] at e
      cases ha : a with
      | none => have := h.nil ha; omega
      | some x => rw [ha] at e; cases e
  · rcases h.row with h0 | ⟨b, off, ha, hlt, hc⟩
    · exact .inl (by omega)
    · by_cases hcj : c = j
      · exact .inl (by omega)
      · refine .inr ⟨b, off + j * K.k, by rw [if_neg hcj, ha]; simp [addr_add], hlt, fun i x hx k v hv => ?_⟩
        rw [List.getElem?_drop] at hx
        have := hc (j + i) x hx k v hv
        rw [Nat.add_mul] at this
        rwa [Nat.add_assoc off]

/-- Elements of the call's own, in block g; what they point to lies in newer memory. -/
structure MineR {α : Type} (K : Kin α) (t : TypeId) (w : World) (g : Nat) (X : List α) : Prop where
  lay : Lay w g (K.cells X)
  ok : ∀ x ∈ X, K.ok w x
  row : ∃ cur : Array Value, w.heap[g]? = some (.cells cur t (0, 0)) ∧ cur.size = X.length * K.k
theorem MineR.below {α : Type} {K : Kin α} {w : World} {w' : World} {X : List α} {t : TypeId} {g : Nat} (h : MineR K t w g X) (hb : Below w.heap.size w w') : MineR K t w' g X :=
  ⟨h.lay.below hb, fun x hx => K.below (h.ok x hx) hb (Nat.le_refl _), by obtain ⟨cur, e, k⟩ := h.row; exact ⟨cur, by rw [hb.block g h.lay.lt]; exact e, k⟩⟩
/-- Another block is written. -/
theorem MineR.far {α : Type} {K : Kin α} {w : World} {X : List α} {t : TypeId} {g : Nat} (h : MineR K t w g X) {p : Addr} (v : Value) (hf : But p.block w (w.setCell p v)) (hp : p.block ≠ g) (ho : ∀ x ∈ X, K.off p.block x) : MineR K t (w.setCell p v) g X :=
  ⟨h.lay.far p v hp, fun x hx => K.but (h.ok x hx) hf (ho x hx), by obtain ⟨cur, e, k⟩ := h.row; exact ⟨cur, by rw [heap_setCell_other _ _ _ _ (fun e => hp e.symm)]; exact e, k⟩⟩
/-- A list that the call owns, and appends to. -/
structure OwnK {α : Type} (K : Kin α) (t : TypeId) (w : World) (base : Nat) (v : Value) (X : List α) : Prop where
  own : w.ownsRow base t K.k v X.length (K.cells X)
  ok : ∀ x ∈ X, K.ok w x
  off : ∀ x ∈ X, ∀ g, v.ownBlock = some g → K.off g x
theorem OwnK.nil {α : Type} {K : Kin α} {t : TypeId} (w : World) (base : Nat) : OwnK K t w base (.slice none 0 0) [] := ⟨World.ownsRow_nil w base _ _, by simp, by simp⟩
theorem MineR.own {α : Type} {K : Kin α} {w : World} {X : List α} {t : TypeId} {g : Nat} (h : MineR K t w g X) (hm : X.length ≤ maxLen) (ho : ∀ x ∈ X, K.off g x) : OwnK K t w g (.slice (some ⟨g, 0, .none⟩) X.length X.length) X := by
  obtain ⟨cur, e, k⟩ := h.row
  have hl : cur.toList = K.cells X := by
    apply List.ext_getElem?
    intro i
    by_cases hi : i < (K.cells X).length
    · obtain ⟨v, hv⟩ : ∃ v, (K.cells X)[i]? = some v := ⟨_, List.getElem?_eq_getElem hi⟩
      have := h.lay.cell i v hv
      rw [cell_of_row w g _ _ _ _ e] at this
      rw [hv]
      simpa using this
    · have h1 : (K.cells X)[i]? = none := List.getElem?_eq_none (by omega)
      have h2 : cur.toList[i]? = none := List.getElem?_eq_none (by rw [Array.length_toList, k]; rw [Kin.cells_len] at hi; omega)
      rw [h1, h2]
  refine ⟨⟨by rw [Kin.cells_len], .inr ⟨g, X.length, cur, rfl, Nat.le_refl _, e, Nat.le_refl _, hm, k, ?_⟩⟩, h.ok, fun x hx b hb => ?_⟩
  · rw [hl, List.take_of_length_le (by rw [Kin.cells_len]; omega)]
  · obtain rfl : g = b := by simpa [Value.ownBlock] using hb
    exact ho x hx
theorem OwnK.below {α : Type} {K : Kin α} {w : World} {w' : World} {X : List α} {t : TypeId} {base : Nat} {v : Value} (h : OwnK K t w base v X) (hb : Below w.heap.size w w') : OwnK K t w' base v X :=
  ⟨h.own.kept (row := none) ⟨hb.os, hb.tape, hb.output, hb.size, fun k hk _ => hb.block k hk⟩ (by cases v.ownBlock <;> simp), fun x hx => K.below (h.ok x hx) hb (Nat.le_refl _), h.off⟩
/-- A block of the call's own that holds such elements. -/
theorem Rows'.of_lay {α : Type} {K : Kin α} {w : World} {g n : Nat} {X : List α} (h : Lay w g (K.cells X)) (hok : ∀ x ∈ X, K.ok w x) (hn : X.length = n) (hm : n ≤ 9223372036854775807) : Rows' K w (some ⟨g, 0, .none⟩) n n X := by
  subst hn
  refine ⟨rfl, Nat.le_refl _, hm, fun e => (by cases e), .inr ⟨g, 0, rfl, h.lt, fun i y hy j v hv => ?_⟩, hok⟩
  have := h.cell _ _ (Kin.cells_get X i y hy j v hv)
  simpa using this

end Go.Proofs.YtcmladgldjcdmaaDoor

/- Lists of structs that a call lays anew, one after the other; plain mathematics, no condition. -/
namespace Go.Proofs.YtcmladgldjcdmaaDoor
open Go.RowKit
set_option linter.unusedVariables false
set_option maxRecDepth 100000
set_option linter.unusedSimpArgs false

/-- Cells stored one behind the other. -/
def putAll (w : World) (g : Nat) : Nat → List Value → World
  | _, [] => w
  | o, v :: r => putAll (w.setCell ⟨g, o, none⟩ v) g (o + 1) r
def setAll {β : Type} (L : List β) : Nat → List β → List β
  | _, [] => L
  | o, v :: r => setAll (L.set o v) (o + 1) r
theorem putAll_but (g : Nat) : ∀ (vs : List Value) (w : World) (o : Nat), ButI g w (putAll w g o vs)
  | [], w, o => ButI.refl g w
  | v :: r, w, o => ((ButI.refl g w).step o v).trans (putAll_but g r _ (o + 1))
theorem putAll_lay {g : Nat} : ∀ (vs : List Value) {w : World} {L : List Value} (o : Nat), Lay w g L → Lay (putAll w g o vs) g (setAll L o vs)
  | [], _, _, _, h => h
  | v :: r, _, _, o, h => putAll_lay r (o + 1) (h.set o v)
theorem putAll_row {g : Nat} {t : TypeId} {n : Nat} : ∀ (vs : List Value) {w : World} (o : Nat), (∃ cur : Array Value, w.heap[g]? = some (.cells cur t (0, 0)) ∧ cur.size = n) → ∃ cur : Array Value, (putAll w g o vs).heap[g]? = some (.cells cur t (0, 0)) ∧ cur.size = n
  | [], _, _, h => h
  | v :: r, w, o, ⟨cur, e, k⟩ => putAll_row r (o + 1) ⟨_, heap_setCell_same _ _ _ _ _ _ e, by simpa using k⟩
theorem setAll_app {β : Type} : ∀ (vs P A R : List β), A.length = vs.length → setAll (P ++ (A ++ R)) P.length vs = P ++ (vs ++ R)
  | [], P, A, R, h => by
    have : A = [] := List.eq_nil_of_length_eq_zero h
    subst this
    rfl
  | v :: r, P, [], R, h => by cases h
  | v :: r, P, a :: A, R, h => by
    have e : (P ++ (a :: A ++ R)).set P.length v = (P ++ [v]) ++ (A ++ R) := by simp
    have := setAll_app r (P ++ [v]) A R (by simpa using h)
    rw [List.length_append] at this
    rw [setAll, e, show P.length + 1 = P.length + [v].length from rfl, this]
    simp
theorem Kin.cells_put {α : Type} {K : Kin α} (X : List α) (i : Nat) (x : α) (h : i < X.length) : setAll (K.cells X) (i * K.k) (K.cs x) = K.cells (X.set i x) := by
  have e : K.cells X = K.cells (X.take i) ++ (K.cs X[i] ++ K.cells (X.drop (i + 1))) := by
    rw [← Kin.cells_cons, ← Kin.cells_app, ← List.drop_eq_getElem_cons h, List.take_append_drop]
  have e2 : K.cells (X.set i x) = K.cells (X.take i) ++ (K.cs x ++ K.cells (X.drop (i + 1))) := by
    rw [← Kin.cells_cons, ← Kin.cells_app, List.set_eq_take_append_cons_drop, if_pos h]
  have l : (K.cells (X.take i)).length = i * K.k := by rw [Kin.cells_len, List.length_take, Nat.min_eq_left (by omega)]
  rw [e, e2, ← l]
  exact setAll_app _ _ _ _ (by rw [K.len, K.len])
/-- One of them is stored anew. -/
theorem MineR.put {α : Type} {K : Kin α} {t : TypeId} {w : World} {g : Nat} {X : List α} (h : MineR K t w g X) {i : Nat} (hi : i < X.length) {x : α} (hx : K.ok w x) (hn : ∀ y ∈ X, K.off g y) (ho : K.off g x) :
    MineR K t (putAll w g (i * K.k) (K.cs x)) g (X.set i x) := by
  have hb := putAll_but g (K.cs x) w (i * K.k)
  refine ⟨by rw [← Kin.cells_put X i x hi]; exact putAll_lay _ _ h.lay, fun z hz => ?_, by rw [List.length_set]; exact putAll_row _ _ h.row⟩
  rcases List.mem_or_eq_of_mem_set hz with hz | rfl
  · exact K.but (h.ok z hz) hb.but (hn z hz)
  · exact K.but hx hb.but ho
theorem take_setK {α β : Type} {p : α → β} {X X' : List α} {k : Nat} {z u : α} (hz : X[k]? = some z) (hk : k < X'.length) (h : (X'.take k).map p = (X.take k).map p) (hu : p u = p z) : ((X'.set k u).take (k + 1)).map p = (X.take (k + 1)).map p := by
  obtain ⟨g1, g2⟩ := List.getElem?_eq_some_iff.1 hz
  rw [List.take_succ_eq_append_getElem g1, List.take_succ_eq_append_getElem (by simpa using hk), List.map_append, List.map_append, List.take_set_of_le (Nat.le_refl k), h, g2]
  simp [hu]
theorem Kin.made {α : Type} (K : Kin α) (z : α) (zs : Array Value) (hz : zs.toList = K.cs z) (hk : 0 < K.k) (n : Nat) : madeCells zs (n * K.k) = (K.cells (List.replicate n z)).toArray := by
  have hs : zs.size = K.k := by rw [← Array.length_toList, hz, K.len]
  apply Array.ext_getElem?
  intro i
  have e : (K.cells (List.replicate n z)).toArray[i]? = (K.cells (List.replicate n z))[i]? := by simp
  rw [e]
  by_cases h : i < n * K.k
  · have h1 : i / K.k < n := Nat.div_lt_of_lt_mul (by rw [Nat.mul_comm]; exact h)
    have hm := Nat.mod_lt i hk
    have h2 : (K.cs z)[i % K.k]? = some zs[i % K.k]! := by
      rw [← hz, Array.getElem?_toList, getElem!_pos zs _ (by rw [hs]; exact hm)]
      simp [hs, hm]
    have := Kin.cells_get (K := K) (List.replicate n z) (i / K.k) z (by rw [List.getElem?_replicate, if_pos h1]) _ _ h2
    rw [Nat.mul_comm, Nat.div_add_mod] at this
    rw [this]
    simp [madeCells, h, hs]
  · rw [Array.getElem?_eq_none (by rw [size_madeCells]; omega), List.getElem?_eq_none (by rw [Kin.cells_len]; simp; omega)]
theorem mkR {α : Type} (K : Kin α) {P : Program} (z : α) {zs : Array Value} {ts t : TypeId} {i : TypeInfo} {v : Value} (hu : P.underlying ts = some (.slice t)) (hi : P.info? t = some i) (hz : i.zero = some v) (hv : v.cells = zs) (hc : zs.toList = K.cs z) (hs : i.size = K.k) (hb : i.bytes ≤ 1000) (hk : 0 < K.k) (n : Nat) (hn : n ≤ 1000000) (w : World) :
    (Instr.makeSlice ts (.int .i64 (n : Int)) (.int .i64 (n : Int))).run P w = .ok (.slice (some ⟨w.heap.size, 0, none⟩) n n) (w.alloc (.cells (K.cells (List.replicate n z)).toArray t)) := by
  have hr := run_make (P := P) w ts t i _ hu hi hz .i64 .i64 (n : Int) (n : Int) (by omega) (Int.le_refl _) (by rw [← Int.natCast_mul]; exact Int.le_trans (Int.ofNat_le.2 (Nat.mul_le_mul hb hn)) (by decide)) (by omega)
  simp only [Int.toNat_natCast, hs] at hr
  rw [hr, hv, Kin.made K z zs hc hk]
theorem MineR.made {α : Type} (K : Kin α) (t : TypeId) (z : α) (hz : ∀ w, K.ok w z) (n : Nat) (w : World) : MineR K t (w.alloc (.cells (K.cells (List.replicate n z)).toArray t (0, 0))) w.heap.size (List.replicate n z) :=
  ⟨Lay.made w _ _, fun y hy => by rw [List.eq_of_mem_replicate hy]; exact hz _, ⟨_, heap_new w _, by simp [Kin.cells_len]⟩⟩
/-- When such a struct is new, from block B on. -/
structure NewK {α : Type} (K : Kin α) where
  new : Nat → α → Prop
  off : ∀ {B R : Nat} {y : α}, new B y → R < B → K.off R y
  mono : ∀ {B B' : Nat} {y : α}, new B y → B' ≤ B → new B' y
  zero : α
  zero_new : ∀ B, new B zero
  zero_ok : ∀ w, K.ok w zero
/-- What a copy of such a list is: a list in new memory that reads alike. -/
abbrev Copied {α β : Type} (K : Kin α) (t : TypeId) (p : α → β) (N : NewK K) (w : World) (n : Nat) (X : List α) (e : Ending) (w' : World) : Prop :=
  (∃ (g : Nat) (Y : List α), e = .returned (.slice (some ⟨g, 0, none⟩) n n) ∧ MineR K t w' g Y ∧ Y.length = n ∧ Y.map p = X.map p ∧ w.heap.size ≤ g ∧ ∀ y ∈ Y, N.new (g + 1) y) ∧ Below w.heap.size w w'
/-- What a copy of one is. -/
abbrev Copy1 {α β : Type} (K : Kin α) (v : α → Value) (p : α → β) (N : NewK K) (x : α) (w : World) (e : Ending) (w' : World) : Prop :=
  (∃ y, e = .returned (v y) ∧ K.ok w' y ∧ N.new w.heap.size y ∧ p y = p x) ∧ Below w.heap.size w w'
theorem MineR.at {α : Type} {K : Kin α} {t : TypeId} {w : World} {g : Nat} {X : List α} (h : MineR K t w g X) {i j : Nat} (hi : i < X.length) (hj : j < K.k) : ∃ u, w.cell? ⟨g, i * K.k + j, none⟩ = some u := by
  have hl : j < (K.cs X[i]).length := by rw [K.len]; exact hj
  exact ⟨_, h.lay.cell _ _ (Kin.cells_get X i X[i] (List.getElem?_eq_getElem hi) j _ (List.getElem?_eq_getElem hl))⟩
/-- Another block's cells are stored. -/
theorem putAll_heap (g k : Nat) (h : k ≠ g) : ∀ (vs : List Value) (w : World) (o : Nat), (putAll w g o vs).heap[k]? = w.heap[k]?
  | [], _, _ => rfl
  | v :: r, w, o => by rw [putAll, putAll_heap g k h r, heap_setCell_other _ _ _ _ h]
theorem MineR.away {α : Type} {K : Kin α} {t : TypeId} {w : World} {g k : Nat} {X : List α} (h : MineR K t w g X) (vs : List Value) (o : Nat) (hk : k ≠ g) (ho : ∀ y ∈ X, K.off k y) : MineR K t (putAll w k o vs) g X :=
  ⟨h.lay.butI (putAll_but k vs w o) (fun e => hk e.symm), fun y hy => K.but (h.ok y hy) (putAll_but k vs w o).but (ho y hy), by obtain ⟨cur, e, z⟩ := h.row; exact ⟨cur, by rw [putAll_heap k g (fun e => hk e.symm)]; exact e, z⟩⟩

end Go.Proofs.YtcmladgldjcdmaaDoor
