/- How the arguments of the laws read: lists of commands and of answers, a hand; no condition. -/
import Derived.Test.YtklabieacbbbfaaDoorNU2
import Derived.Test.YtklabieacbbbfaaDoorNU3
import Derived.Test.YtklabieacbbbfaaDoorNU4
import Derived.Test.YtklabieacbbbfaaDoorRows
import Derived.Stop.LaidErr
import Derived.Shelf.Vars
import Derived.MapViews
import Derived.DeepKeys2
import Derived.Lib.LaidTab
import Derived.Deep.AppendLies
import Derived.Test.YtklabieacbbbfaaDoorNU1
namespace Go.Proofs.YtklabieacbbbfaaDoor
open Go.ChangeShapes Go.WideShapes Go.ChangeAt Go.RowKit Go.Joins Go.ChangeMaps
set_option linter.unusedVariables false
set_option maxRecDepth 100000
set_option linter.unusedSimpArgs false

theorem cellsHand : Tryd.prog.cellsOf 27 = 8 := by kernel_rfl

set_option maxRecDepth 100000 in
/-- The cells of an answer, read. -/
theorem ans_of {H : Type} {enc : TypeId × Value → H} {W : World} {fuel : Nat} {cs : List Value} {y : DataW H × List MemPlace}
    (h : DataW.trod enc Tryd.prog W 0 (fun _ => true) true fuel 30 cs = some y) : ∃ x : AV, cs = x.cells ∧ x.ok W := by
  obtain ⟨y0, y1, y2, n, _, hl, h0, h1, h2⟩ := Go.Deep.trod_struct3 Tryd.underlying30 h
  rw [cellsAnswer] at hl
  match cs, hl with
  | [v0, v1, v2], _ =>
    have k0 : DataW.trod enc Tryd.prog W 0 (fun _ => true) true n 28 [v0] = some y0 := h0
    have k1 : DataW.trod enc Tryd.prog W 0 (fun _ => true) true n 3 [v1] = some y1 := h1
    have k2 : DataW.trod enc Tryd.prog W 0 (fun _ => true) true n 22 [v2] = some y2 := h2
    obtain ⟨e, e0, _, _⟩ := DataW.trod_int Tryd.underlying28 k0
    obtain ⟨t, e1, _, _⟩ := DataW.trod_int Tryd.underlying3 k1
    simp at e0 e1
    subst e0 e1
    obtain ⟨a, n, c, l, rfl, hi⟩ := ints_of k2
    exact ⟨⟨e, t, a, n, c, l⟩, rfl, hi⟩

set_option maxRecDepth 100000 in
theorem cmds_of {H : Type} {enc : TypeId × Value → H} {W : World} {fuel : Nat} {v : Value} {y : DataW H × List MemPlace}
    (h : DataW.trod enc Tryd.prog W 0 (fun _ => true) true fuel 38 [v] = some y) : ∃ a n c X, v = .slice a n c ∧ Cmds W a n c X := by
  rcases Go.Deep.open_slice Tryd.underlying38 h with ⟨hcs, _⟩ | ⟨x, len, cap, m, n, D, Pl, hcs, _, hl, hm, hmm, _, hel⟩
  · simp at hcs
    subst hcs
    exact ⟨none, 0, 0, [], rfl, Cmds.nilSlice W⟩
  · simp at hcs
    subst hcs
    have hm' : m = cap := by simpa using hmm
    subst hm'
    have hz : ∀ i, i < len → ∃ z : BV, z.ok W ∧ ∀ j v, z.cells[j]? = some v → W.cell? ((x.add (i * 5)).add j) = some v := by
      intro i hi
      obtain ⟨cs', h1, h2⟩ := hel i (by omega)
      rw [cellsCmd] at h1
      obtain ⟨a', n', c', b', rfl, hz⟩ := cmd_of h2
      obtain ⟨_, _, hc⟩ := World.cells?_some h1
      refine ⟨⟨b', a', n', c'⟩, hz, fun j v hv => ?_⟩
      have hj : j < 5 := (List.getElem?_eq_some_iff.1 hv).1
      have := hc j hj
      rw [this]
      exact hv
    have dft : Inhabited BV := ⟨BV.zero⟩
    obtain ⟨f, hf⟩ := Go.Deep.choose_lt hz
    refine ⟨some x, len, m, (List.range len).map f, rfl, ⟨by simp, hl, hm, fun e => (by cases e), ?_, ?_⟩⟩
    · by_cases h0 : len = 0
      · exact .inl h0
      · obtain ⟨b, off, spot⟩ := x
        have hc0 := (hf 0 (by omega)).2 0 _ rfl
        have hspot : spot = none := by simpa [Addr.add] using World.cell?_spot hc0
        subst hspot
        refine .inr ⟨b, off, rfl, World.block_lt_of_cell? W ⟨b, off, none⟩ (by simpa [Addr.add] using hc0), fun i z hz j v hv => ?_⟩
        have hi : i < len := by have := (List.getElem?_eq_some_iff.1 hz).1; simpa using this
        rw [List.getElem?_map, List.getElem?_range hi] at hz
        simp at hz
        subst hz
        have h1 := (hf i hi).2 j v hv
        rw [addr_add, addr_add] at h1
        exact h1
    · intro z hz
      simp at hz
      obtain ⟨i, hi, rfl⟩ := hz
      exact (hf i hi).1

theorem cmds_arg {H : Type} {enc : TypeId × Value → H} {W : World} {base : Nat} {v : Value} {d : DataW H} {p : List MemPlace} (hv : Value.okWide Tryd.prog W .any base 38 v)
    (h : DataW.Trod enc Tryd.prog W 0 (fun _ => true) true 38 v d p) : ∃ a n c X, v = .slice a n c ∧ Cmds W a n c X := by
  obtain ⟨a, n, c, rfl⟩ := okWide_slice Tryd.underlying38 hv
  obtain ⟨fuel, hf⟩ := h
  exact cmds_of (by simpa [Value.cells] using hf)


set_option maxRecDepth 100000 in
theorem answers_of {H : Type} {enc : TypeId × Value → H} {W : World} {fuel : Nat} {v : Value} {y : DataW H × List MemPlace}
    (h : DataW.trod enc Tryd.prog W 0 (fun _ => true) true fuel 25 [v] = some y) : ∃ a n c X, v = .slice a n c ∧ Answers W a n c X := by
  rcases Go.Deep.open_slice Tryd.underlying25 h with ⟨hcs, _⟩ | ⟨x, len, cap, m, n, D, Pl, hcs, _, hl, hm, hmm, _, hel⟩
  · simp at hcs
    subst hcs
    exact ⟨none, 0, 0, [], rfl, Answers.nilSlice W⟩
  · simp at hcs
    subst hcs
    have hm' : m = cap := by simpa using hmm
    subst hm'
    have hz : ∀ i, i < len → ∃ z : AV, z.ok W ∧ ∀ j v, z.cells[j]? = some v → W.cell? ((x.add (i * 3)).add j) = some v := by
      intro i hi
      obtain ⟨cs', h1, h2⟩ := hel i (by omega)
      rw [cellsAnswer] at h1
      obtain ⟨z, rfl, hz⟩ := ans_of h2
      obtain ⟨_, _, hc⟩ := World.cells?_some h1
      refine ⟨z, hz, fun j v hv => ?_⟩
      have hj : j < 3 := (List.getElem?_eq_some_iff.1 hv).1
      have := hc j hj
      rw [this]
      exact hv
    have dft : Inhabited AV := ⟨AV.err 0⟩
    obtain ⟨f, hf⟩ := Go.Deep.choose_lt hz
    refine ⟨some x, len, m, (List.range len).map f, rfl, ⟨by simp, hl, hm, fun e => (by cases e), ?_, ?_⟩⟩
    · by_cases h0 : len = 0
      · exact .inl h0
      · obtain ⟨b, off, spot⟩ := x
        have hc0 := (hf 0 (by omega)).2 0 _ rfl
        have hspot : spot = none := by simpa [Addr.add] using World.cell?_spot hc0
        subst hspot
        refine .inr ⟨b, off, rfl, World.block_lt_of_cell? W ⟨b, off, none⟩ (by simpa [Addr.add] using hc0), fun i z hz j v hv => ?_⟩
        have hi : i < len := by have := (List.getElem?_eq_some_iff.1 hz).1; simpa using this
        rw [List.getElem?_map, List.getElem?_range hi] at hz
        simp at hz
        subst hz
        have h1 := (hf i hi).2 j v hv
        rw [addr_add, addr_add] at h1
        exact h1
    · intro z hz
      simp at hz
      obtain ⟨i, hi, rfl⟩ := hz
      exact (hf i hi).1

set_option maxRecDepth 100000 in
theorem hand_of {H : Type} {enc : TypeId × Value → H} {W : World} {fuel : Nat} {cs : List Value} {y : DataW H × List MemPlace}
    (h : DataW.trod enc Tryd.prog W 0 (fun _ => true) true fuel 27 cs = some y) : ∃ x : NV, cs = x.cells ∧ x.ok W := by
  obtain ⟨xs, n, _, _, hl, hlen, hfs⟩ := DataW.trod_struct Tryd.underlying27 h
  rw [cellsHand] at hl
  match cs, hl with
  | [v0, v1, v2, v3, v4, v5, v6, v7], _ =>
    match xs, hlen with
    | [y0, y1, y2, y3], _ =>
      have c1 : Tryd.prog.cellsOf 3 = 1 := by kernel_rfl
      have c2 : Tryd.prog.cellsOf 4 = 1 := by kernel_rfl
      have c3 : Tryd.prog.cellsOf 25 = 1 := by kernel_rfl
      have k0 : DataW.trod enc Tryd.prog W 0 (fun _ => true) true n 3 [v0] = some y0 := by simpa [c1] using hfs 0 _ rfl
      have k1 : DataW.trod enc Tryd.prog W 0 (fun _ => true) true n 4 [v1] = some y1 := by simpa [c1, c2] using hfs 1 _ rfl
      have k2 : DataW.trod enc Tryd.prog W 0 (fun _ => true) true n 24 [v2, v3, v4, v5, v6] = some y2 := by simpa [c1, c2, cellsCmd] using hfs 2 _ rfl
      have k3 : DataW.trod enc Tryd.prog W 0 (fun _ => true) true n 25 [v7] = some y3 := by simpa [c1, c2, c3, cellsCmd] using hfs 3 _ rfl
      obtain ⟨s, e0, _, _⟩ := DataW.trod_int Tryd.underlying3 k0
      obtain ⟨v, e1, _⟩ := DataW.trod_bool Tryd.underlying4 k1
      obtain ⟨ca, cn, cc, b, e2, hb⟩ := cmd_of k2
      obtain ⟨ga, gn, gc, G, rfl, hg⟩ := answers_of k3
      simp at e0 e1 e2
      subst e0 e1
      obtain ⟨rfl, rfl, rfl, rfl, rfl⟩ := e2
      exact ⟨⟨s, v, b, ca, cn, cc, ga, gn, gc, G⟩, rfl, ⟨hb, hg⟩⟩

theorem array8 {α : Type} {xs : Array α} (h : xs.size = 8) : ∃ a b c d e f g i, xs = #[a, b, c, d, e, f, g, i] := by
  obtain ⟨l⟩ := xs
  match l, h with
  | [a, b, c, d, e, f, g, i], _ => exact ⟨a, b, c, d, e, f, g, i, rfl⟩
theorem hand_arg {H : Type} {enc : TypeId × Value → H} {W : World} {base : Nat} {v : Value} {d : DataW H} {p : List MemPlace} (hv : Value.okWide Tryd.prog W .any base 27 v)
    (h : DataW.Trod enc Tryd.prog W 0 (fun _ => true) true 27 v d p) : ∃ x : NV, v = x.v ∧ x.ok W := by
  obtain ⟨cs, rfl, hsz⟩ := okWide_struct Tryd.underlying27 hv
  obtain ⟨v0, v1, v2, v3, v4, v5, v6, v7, rfl⟩ := array8 (hsz.trans cellsHand)
  obtain ⟨fuel, hf⟩ := h
  obtain ⟨x, e, hx⟩ := hand_of (by simpa [Value.cells] using hf)
  simp [NV.cells] at e
  obtain ⟨rfl, rfl, rfl, rfl, rfl, rfl, rfl, rfl⟩ := e
  exact ⟨x, rfl, hx⟩

end Go.Proofs.YtklabieacbbbfaaDoor

/- What a row's list gives of the table of kinds; no condition. -/
namespace Go.Proofs.YtklabieacbbbfaaDoor
open Go.RowKit
set_option linter.unusedVariables false
set_option maxRecDepth 100000
set_option linter.unusedSimpArgs false

theorem laid_at {P : Program} {w : World} : ∀ {laid : List (String × DataW Unit)} {ps : List MemPlace}, DataW.LaidVars P w laid ps → ∀ {n : String} {d : DataW Unit}, (n, d) ∈ laid →
    ∃ g t cs fuel p, P.globalNamed n = some g ∧ (P.globals[g]?).map (·.type) = some t ∧ w.var? P n = some cs ∧ DataW.trod (fun _ => ()) P w 0 (fun _ => true) false fuel t cs.toList = some (d, p)
  | [], _, _, _, _, h => by cases h
  | (n, d) :: r, ps, hl, n', d', h => by
    obtain ⟨g, t, cs, fuel, p, q, h1, h2, h3, h4, h5, _⟩ := hl
    rcases List.mem_cons.1 h with e | h
    · cases e
      exact ⟨g, t, cs, fuel, p, h1, h2, h3, h4⟩
    · exact laid_at h5 h

theorem gShapes : Tryd.prog.globalNamed "quayhand/cmd.shapes" = some 0 := by kernel_rfl
theorem tShapes : (Tryd.prog.globals[0]?).map (·.type) = some 59 := by kernel_rfl

set_option maxRecDepth 100000 in
theorem shapes_cells : (Rows.laid_quayhand_cmd_shapes : DataW Unit).flat.map Lit.toCell = ((List.range 13).flatMap fun k => [.string (word k), .bool (hasZ k), .bool (hasA k), .bool (hasN k), .bool (hasD k)]) := by rfl

theorem flat_get (f : Nat → List Value) (h5 : ∀ k, (f k).length = 5) : ∀ (n k j : Nat), k < n → j < 5 → ((List.range n).flatMap f)[k * 5 + j]? = (f k)[j]?
  | 0, k, j, hk, _ => by omega
  | n + 1, k, j, hk, hj => by
    have hlen : ∀ m, ((List.range m).flatMap f).length = m * 5 := by
      intro m
      induction m with
      | zero => rfl
      | succ m ih => rw [List.range_succ, List.flatMap_append, List.length_append, ih]; simp [h5]; omega
    rw [List.range_succ, List.flatMap_append]
    by_cases hkn : k < n
    · rw [List.getElem?_append_left (by rw [hlen]; omega)]
      exact flat_get f h5 n k j hkn hj
    · obtain rfl : k = n := by omega
      rw [List.getElem?_append_right (by rw [hlen]; omega), hlen]
      simp

set_option maxRecDepth 100000 in
theorem shapes_of {W : World} {laid : List (String × DataW Unit)} (hL : laidMet Tryd.prog laid W) (m4 : ("quayhand/cmd.shapes", Rows.laid_quayhand_cmd_shapes) ∈ laid) : Shapes W := by
  obtain ⟨ps, hv, _, _⟩ := hL
  obtain ⟨g, t, cs, fuel, p, h1, h2, h3, h4⟩ := laid_at hv m4
  obtain rfl := Option.some.inj (gShapes.symm.trans h1)
  obtain rfl := Option.some.inj (tShapes.symm.trans h2)
  have h5 := (keyLits_of_trod 5 59 (by kernel_rfl) _ _ _ h4).1
  have h6 := cells_of_lits 5 59 (by kernel_rfl) _ _ _ h5
  rw [shapes_cells] at h6
  have hc : ∀ k j, k ≤ 12 → j < 5 → W.cell? ⟨0, k * 5 + j, none⟩ = ([.string (word k), .bool (hasZ k), .bool (hasA k), .bool (hasN k), .bool (hasD k)] : List Value)[j]? := by
    intro k j hk hj
    rw [World.var?_cell gShapes h3, ← Array.getElem?_toList, h6]
    exact flat_get _ (fun k => rfl) 13 k j (by omega) hj
  exact ⟨fun k hk => hc k 0 hk (by omega), fun k hk => hc k 1 hk (by omega), fun k hk => hc k 2 hk (by omega), fun k hk => hc k 3 hk (by omega), fun k hk => hc k 4 hk (by omega)⟩

end Go.Proofs.YtklabieacbbbfaaDoor

/- Lists of structs in memory, whatever their kind: read, of the call's own, and appended to; plain mathematics, no condition. -/
namespace Go.Proofs.YtklabieacbbbfaaDoor
open Go.RowKit
set_option linter.unusedVariables false
set_option maxRecDepth 100000
set_option linter.unusedSimpArgs false

/-- A kind of structs in memory: how many cells, which, when they read as data, and in which blocks they don't lie. -/
structure Kin (α : Type) where
  k : Nat
  cs : α → List Value
  ok : World → α → Prop
  off : Nat → α → Prop
  len : ∀ x, (cs x).length = k
  one : ∀ x, ∀ v ∈ cs x, v.oneCell' = true
  below : ∀ {w w' : World} {x : α}, ok w x → ∀ {B : Nat}, Below B w w' → w.heap.size ≤ B → ok w' x
  but : ∀ {w w' : World} {g : Nat} {x : α}, ok w x → But g w w' → off g x → ok w' x
  far : ∀ {w : World} {R : Nat} {x : α}, ok w x → w.heap.size ≤ R → off R x

/-- The cells of a list. -/
def Kin.cells {α : Type} (K : Kin α) (X : List α) : List Value := X.flatMap K.cs
theorem Kin.cells_cons {α : Type} {K : Kin α} (x : α) (X : List α) : K.cells (x :: X) = K.cs x ++ K.cells X := by simp [Kin.cells]
theorem Kin.cells_app {α : Type} {K : Kin α} (X Y : List α) : K.cells (X ++ Y) = K.cells X ++ K.cells Y := by simp [Kin.cells]
theorem Kin.cells_len {α : Type} {K : Kin α} : ∀ X : List α, (K.cells X).length = X.length * K.k
  | [] => by simp [Kin.cells]
  | x :: X => by rw [Kin.cells_cons, List.length_append, Kin.cells_len X, K.len, List.length_cons, Nat.add_mul, Nat.one_mul, Nat.add_comm]
theorem Kin.cells_get {α : Type} {K : Kin α} : ∀ (X : List α) (i : Nat) (x : α), X[i]? = some x → ∀ j v, (K.cs x)[j]? = some v → (K.cells X)[i * K.k + j]? = some v
  | [], i, x, h, _, _, _ => by simp at h
  | y :: X, 0, x, h, j, v, hv => by
    have hj := (List.getElem?_eq_some_iff.1 hv).1
    simp at h
    subst h
    rw [Kin.cells_cons, List.getElem?_append_left (by omega)]
    simpa using hv
  | y :: X, i + 1, x, h, j, v, hv => by
    rw [Kin.cells_cons, List.getElem?_append_right (by rw [K.len, Nat.add_mul]; omega), K.len, show (i + 1) * K.k + j - K.k = i * K.k + j by rw [Nat.add_mul]; omega]
    exact Kin.cells_get X i x (by simpa using h) j v hv
theorem Kin.cells_one {α : Type} {K : Kin α} (X : List α) : ∀ v ∈ K.cells X, v.oneCell' = true := by
  intro v hv
  simp only [Kin.cells, List.mem_flatMap] at hv
  obtain ⟨x, _, hx⟩ := hv
  exact K.one x v hx

/-- A slice value's elements. -/
structure Rows' {α : Type} (K : Kin α) (w : World) (a : Option Addr) (n c : Nat) (X : List α) : Prop where
  len : X.length = n
  le : n ≤ c
  max : c ≤ 9223372036854775807
  nil : a = none → c = 0
  row : n = 0 ∨ ∃ b off, a = some ⟨b, off, none⟩ ∧ b < w.heap.size ∧ ∀ i x, X[i]? = some x → ∀ j v, (K.cs x)[j]? = some v → w.cell? ⟨b, off + i * K.k + j, none⟩ = some v
  ok : ∀ x ∈ X, K.ok w x
/-- Nothing of such a list lies in block R. -/
structure OffR {α : Type} (K : Kin α) (R : Nat) (a : Option Addr) (n : Nat) (X : List α) : Prop where
  a : n = 0 ∨ ∀ y, a = some y → y.block ≠ R
  x : ∀ x ∈ X, K.off R x
theorem Rows'.below {α : Type} {K : Kin α} {w : World} {w' : World} {a : Option Addr} {n : Nat} {c : Nat} {X : List α} (h : Rows' K w a n c X) {B : Nat} (hb : Below B w w') (hB : w.heap.size ≤ B) : Rows' K w' a n c X := by
  refine ⟨h.len, h.le, h.max, h.nil, ?_, fun x hx => K.below (h.ok x hx) hb hB⟩
  rcases h.row with h0 | ⟨b, off, ha, hlt, hc⟩
  · exact .inl h0
  · refine .inr ⟨b, off, ha, Nat.lt_of_lt_of_le hlt hb.size, fun i x hx j v hv => ?_⟩
    rw [hb.cell (p := ⟨b, off + i * K.k + j, none⟩) (Nat.lt_of_lt_of_le hlt hB)]
    exact hc i x hx j v hv
theorem Rows'.but {α : Type} {K : Kin α} {w : World} {w' : World} {a : Option Addr} {n : Nat} {c : Nat} {X : List α} {g : Nat} (h : Rows' K w a n c X) (hb : But g w w') (ho : OffR K g a n X) : Rows' K w' a n c X := by
  refine ⟨h.len, h.le, h.max, h.nil, ?_, fun x hx => K.but (h.ok x hx) hb (ho.x x hx)⟩
  rcases ho.a with h0 | hne
  · exact .inl h0
  · rcases h.row with h0 | ⟨b, off, ha, hlt, hc⟩
    · exact .inl h0
    · refine .inr ⟨b, off, ha, Nat.lt_of_lt_of_le hlt hb.size, fun i x hx j v hv => ?_⟩
      rw [hb.cell ⟨b, off + i * K.k + j, none⟩ hlt (by have := hne _ ha; exact this)]
      exact hc i x hx j v hv
theorem Rows'.off {α : Type} {K : Kin α} {w : World} {a : Option Addr} {n : Nat} {c : Nat} {X : List α} (h : Rows' K w a n c X) {R : Nat} (hR : w.heap.size ≤ R) : OffR K R a n X := by
  refine ⟨?_, fun x hx => K.far (h.ok x hx) hR⟩
  rcases h.row with h0 | ⟨b, off, rfl, hlt, _⟩
  · exact .inl h0
  · exact .inr fun y e => by cases e; simp; omega
theorem Rows'.none {α : Type} {K : Kin α} (w : World) : Rows' K w none 0 0 [] := ⟨rfl, Nat.le_refl _, by omega, fun _ => rfl, .inl rfl, fun x hx => by cases hx⟩
theorem Rows'.at {α : Type} {K : Kin α} {w : World} {a : Option Addr} {n : Nat} {c : Nat} {X : List α} (h : Rows' K w a n c X) {i : Nat} (hi : i < n) : ∃ b off x, a = some ⟨b, off, .none⟩ ∧ X[i]? = some x ∧ K.ok w x ∧ b < w.heap.size ∧ ∀ j v, (K.cs x)[j]? = some v → w.cell? ⟨b, off + i * K.k + j, .none⟩ = some v := by
  obtain ⟨b, off, e, hlt, hc⟩ := h.row.resolve_left (by omega)
  obtain ⟨x, hx⟩ : ∃ x, X[i]? = some x := ⟨_, List.getElem?_eq_getElem (by rw [h.len]; exact hi)⟩
  exact ⟨b, off, x, e, hx, h.ok x (List.mem_of_getElem? hx), hlt, hc i x hx⟩
theorem Rows'.lies {α : Type} {K : Kin α} {w : World} {a : Option Addr} {n : Nat} {c : Nat} {X : List α} (h : Rows' K w a n c X) (hn : 0 < n) : ∃ b off, a = some ⟨b, off, .none⟩ ∧ b < w.heap.size ∧ ∀ i x, X[i]? = some x → ∀ j v, (K.cs x)[j]? = some v → w.cell? ⟨b, off + i * K.k + j, .none⟩ = some v := h.row.resolve_left (by omega)
theorem Rows'.take {α : Type} {K : Kin α} {w : World} {a : Option Addr} {n : Nat} {c : Nat} {X : List α} (h : Rows' K w a n c X) {m : Nat} (hm : m ≤ n) : Rows' K w a m c (X.take m) := by
  refine ⟨by rw [List.length_take, h.len]; omega, Nat.le_trans hm h.le, h.max, h.nil, ?_, fun x hx => h.ok x (List.mem_of_mem_take hx)⟩
  rcases h.row with h0 | ⟨b, off, ha, hlt, hc⟩
  · exact .inl (by omega)
  · exact .inr ⟨b, off, ha, hlt, fun i x hx => hc i x (by
      have hi := (List.getElem?_eq_some_iff.1 hx).1
      rw [List.length_take] at hi
      rwa [List.getElem?_take_of_lt (by omega)] at hx)⟩
theorem Rows'.drop {α : Type} {K : Kin α} {w : World} {a : Option Addr} {n : Nat} {c : Nat} {X : List α} (h : Rows' K w a n c X) {j : Nat} (hj : j ≤ n) : Rows' K w (if c = j then a else a.map (fun x => x.add (j * K.k))) (n - j) (c - j) (X.drop j) := by
  have hlen := h.len
  have hle := h.le
  have hmax := h.max
  refine ⟨by rw [List.length_drop, hlen], by omega, by omega, fun e => ?_, ?_, fun x hx => h.ok x (List.mem_of_mem_drop hx)⟩
  · by_cases hcj : c = j
    · omega
    · rw [if_neg hcj] at e
      cases ha : a with
      | none => have := h.nil ha; omega
      | some x => rw [ha] at e; cases e
  · rcases h.row with h0 | ⟨b, off, ha, hlt, hc⟩
    · exact .inl (by omega)
    · by_cases hcj : c = j
      · exact .inl (by omega)
      · refine .inr ⟨b, off + j * K.k, by rw [if_neg hcj, ha]; simp [addr_add], hlt, fun i x hx k v hv => ?_⟩
        rw [List.getElem?_drop] at hx
        have := hc (j + i) x hx k v hv
        rw [Nat.add_mul] at this
        rwa [Nat.add_assoc off]

/-- Elements of the call's own, in block g; what they point to lies in newer memory. -/
structure MineR {α : Type} (K : Kin α) (t : TypeId) (w : World) (g : Nat) (X : List α) : Prop where
  lay : Lay w g (K.cells X)
  ok : ∀ x ∈ X, K.ok w x
  row : ∃ cur : Array Value, w.heap[g]? = some (.cells cur t (0, 0)) ∧ cur.size = X.length * K.k
theorem MineR.below {α : Type} {K : Kin α} {w : World} {w' : World} {X : List α} {t : TypeId} {g : Nat} (h : MineR K t w g X) (hb : Below w.heap.size w w') : MineR K t w' g X :=
  ⟨h.lay.below hb, fun x hx => K.below (h.ok x hx) hb (Nat.le_refl _), by obtain ⟨cur, e, k⟩ := h.row; exact ⟨cur, by rw [hb.block g h.lay.lt]; exact e, k⟩⟩
/-- Another block is written. -/
theorem MineR.far {α : Type} {K : Kin α} {w : World} {X : List α} {t : TypeId} {g : Nat} (h : MineR K t w g X) {p : Addr} (v : Value) (hf : But p.block w (w.setCell p v)) (hp : p.block ≠ g) (ho : ∀ x ∈ X, K.off p.block x) : MineR K t (w.setCell p v) g X :=
  ⟨h.lay.far p v hp, fun x hx => K.but (h.ok x hx) hf (ho x hx), by obtain ⟨cur, e, k⟩ := h.row; exact ⟨cur, by rw [heap_setCell_other _ _ _ _ (fun e => hp e.symm)]; exact e, k⟩⟩
/-- A list that the call owns, and appends to. -/
structure OwnK {α : Type} (K : Kin α) (t : TypeId) (w : World) (base : Nat) (v : Value) (X : List α) : Prop where
  own : w.ownsRow base t K.k v X.length (K.cells X)
  ok : ∀ x ∈ X, K.ok w x
  off : ∀ x ∈ X, ∀ g, v.ownBlock = some g → K.off g x
theorem OwnK.nil {α : Type} {K : Kin α} {t : TypeId} (w : World) (base : Nat) : OwnK K t w base (.slice none 0 0) [] := ⟨World.ownsRow_nil w base _ _, by simp, by simp⟩
theorem MineR.own {α : Type} {K : Kin α} {w : World} {X : List α} {t : TypeId} {g : Nat} (h : MineR K t w g X) (hm : X.length ≤ maxLen) (ho : ∀ x ∈ X, K.off g x) : OwnK K t w g (.slice (some ⟨g, 0, .none⟩) X.length X.length) X := by
  obtain ⟨cur, e, k⟩ := h.row
  have hl : cur.toList = K.cells X := by
    apply List.ext_getElem?
    intro i
    by_cases hi : i < (K.cells X).length
    · obtain ⟨v, hv⟩ : ∃ v, (K.cells X)[i]? = some v := ⟨_, List.getElem?_eq_getElem hi⟩
      have := h.lay.cell i v hv
      rw [cell_of_row w g _ _ _ _ e] at this
      rw [hv]
      simpa using this
    · have h1 : (K.cells X)[i]? = none := List.getElem?_eq_none (by omega)
      have h2 : cur.toList[i]? = none := List.getElem?_eq_none (by rw [Array.length_toList, k]; rw [Kin.cells_len] at hi; omega)
      rw [h1, h2]
  refine ⟨⟨by rw [Kin.cells_len], .inr ⟨g, X.length, cur, rfl, Nat.le_refl _, e, Nat.le_refl _, hm, k, ?_⟩⟩, h.ok, fun x hx b hb => ?_⟩
  · rw [hl, List.take_of_length_le (by rw [Kin.cells_len]; omega)]
  · obtain rfl : g = b := by simpa [Value.ownBlock] using hb
    exact ho x hx
theorem OwnK.below {α : Type} {K : Kin α} {w : World} {w' : World} {X : List α} {t : TypeId} {base : Nat} {v : Value} (h : OwnK K t w base v X) (hb : Below w.heap.size w w') : OwnK K t w' base v X :=
  ⟨h.own.kept (row := none) ⟨hb.os, hb.tape, hb.output, hb.size, fun k hk _ => hb.block k hk⟩ (by cases v.ownBlock <;> simp), fun x hx => K.below (h.ok x hx) hb (Nat.le_refl _), h.off⟩
/-- What an append changes is one block at most. -/
theorem grown_but' {w : World} {w' : World} {row : Option Nat} {g : Nat} (h : w.grownBy w' row) (hr : row = some g) (hg : g ≤ w.heap.size) : But g w w' := by
  subst hr
  exact ⟨⟨h.os, h.tape, h.output, h.size, fun k hk => h.block k (by omega) (by simp; omega)⟩, h.size, fun q hq hne => h.cell_far q hq (fun e => hne (by cases e; rfl))⟩
theorem Kin.grown {α : Type} {K : Kin α} {w : World} {w' : World} {row : Option Nat} {x : α} (h : K.ok w x) (hg : w.grownBy w' row) (hr : ∀ g, row = some g → g ≤ w.heap.size ∧ K.off g x) : K.ok w' x := by
  cases row with
  | none => exact K.below h ⟨hg.os, hg.tape, hg.output, hg.size, fun k hk => hg.block k hk (by simp)⟩ (Nat.le_refl _)
  | some g => exact K.but h (grown_but' hg rfl (hr g rfl).1) (hr g rfl).2
/-- One more. -/
theorem OwnK.snoc {α : Type} {K : Kin α} {w : World} {w' : World} {X : List α} {t : TypeId} {base : Nat} {v : Value} {x : α} {g cap : Nat} (h : OwnK K t w base v X) (hx : K.ok w x) (ho : ∀ g, v.ownBlock = some g → K.off g x)
    (hown : w'.ownsRow base t K.k (.slice (some ⟨g, 0, .none⟩) (X.length + 1) cap) (X.length + 1) (K.cells X ++ K.cs x)) (hg : w.grownBy w' v.ownBlock) (hat : v.ownBlock = some g ∨ g = w.heap.size) :
    OwnK K t w' base (.slice (some ⟨g, 0, .none⟩) (X.length + 1) cap) (X ++ [x]) := by
  have all : ∀ y ∈ X ++ [x], K.ok w y ∧ (∀ k, v.ownBlock = some k → K.off k y) := by
    intro y hy
    rcases List.mem_append.1 hy with hy | hy
    · exact ⟨h.ok y hy, h.off y hy⟩
    · obtain rfl : y = x := by simpa using hy
      exact ⟨hx, ho⟩
  have hlt := h.own.lt
  refine ⟨by rw [List.length_append, Kin.cells_app, show K.cells [x] = K.cs x by simp [Kin.cells]]; exact hown, fun y hy => ?_, fun y hy k e => ?_⟩
  · exact Kin.grown (all y hy).1 hg fun k e => ⟨by have := hlt k e; omega, (all y hy).2 k e⟩
  · obtain rfl : g = k := by simpa [Value.ownBlock] using e
    rcases hat with hat | rfl
    · exact (all y hy).2 _ hat
    · exact K.far (all y hy).1 (Nat.le_refl _)
end Go.Proofs.YtklabieacbbbfaaDoor

/- Lists of structs that a call lays anew, one after the other; plain mathematics, no condition. -/
namespace Go.Proofs.YtklabieacbbbfaaDoor
open Go.RowKit
set_option linter.unusedVariables false
set_option maxRecDepth 100000
set_option linter.unusedSimpArgs false

/-- Cells stored one behind the other. -/
def putAll (w : World) (g : Nat) : Nat → List Value → World
  | _, [] => w
  | o, v :: r => putAll (w.setCell ⟨g, o, none⟩ v) g (o + 1) r
def setAll {β : Type} (L : List β) : Nat → List β → List β
  | _, [] => L
  | o, v :: r => setAll (L.set o v) (o + 1) r
theorem putAll_but (g : Nat) : ∀ (vs : List Value) (w : World) (o : Nat), ButI g w (putAll w g o vs)
  | [], w, o => ButI.refl g w
  | v :: r, w, o => ((ButI.refl g w).step o v).trans (putAll_but g r _ (o + 1))
theorem putAll_lay {g : Nat} : ∀ (vs : List Value) {w : World} {L : List Value} (o : Nat), Lay w g L → Lay (putAll w g o vs) g (setAll L o vs)
  | [], _, _, _, h => h
  | v :: r, _, _, o, h => putAll_lay r (o + 1) (h.set o v)
theorem putAll_row {g : Nat} {t : TypeId} {n : Nat} : ∀ (vs : List Value) {w : World} (o : Nat), (∃ cur : Array Value, w.heap[g]? = some (.cells cur t (0, 0)) ∧ cur.size = n) → ∃ cur : Array Value, (putAll w g o vs).heap[g]? = some (.cells cur t (0, 0)) ∧ cur.size = n
  | [], _, _, h => h
  | v :: r, w, o, ⟨cur, e, k⟩ => putAll_row r (o + 1) ⟨_, heap_setCell_same _ _ _ _ _ _ e, by simpa using k⟩
theorem setAll_app {β : Type} : ∀ (vs P A R : List β), A.length = vs.length → setAll (P ++ (A ++ R)) P.length vs = P ++ (vs ++ R)
  | [], P, A, R, h => by
    have : A = [] := List.eq_nil_of_length_eq_zero h
    subst this
    rfl
  | v :: r, P, [], R, h => by cases h
  | v :: r, P, a :: A, R, h => by
    have e : (P ++ (a :: A ++ R)).set P.length v = (P ++ [v]) ++ (A ++ R) := by simp
    have := setAll_app r (P ++ [v]) A R (by simpa using h)
    rw [List.length_append] at this
    rw [setAll, e, show P.length + 1 = P.length + [v].length from rfl, this]
    simp
theorem Kin.cells_put {α : Type} {K : Kin α} (X : List α) (i : Nat) (x : α) (h : i < X.length) : setAll (K.cells X) (i * K.k) (K.cs x) = K.cells (X.set i x) := by
  have e : K.cells X = K.cells (X.take i) ++ (K.cs X[i] ++ K.cells (X.drop (i + 1))) := by
    rw [← Kin.cells_cons, ← Kin.cells_app, ← List.drop_eq_getElem_cons h, List.take_append_drop]
  have e2 : K.cells (X.set i x) = K.cells (X.take i) ++ (K.cs x ++ K.cells (X.drop (i + 1))) := by
    rw [← Kin.cells_cons, ← Kin.cells_app, List.set_eq_take_append_cons_drop, if_pos h]
  have l : (K.cells (X.take i)).length = i * K.k := by rw [Kin.cells_len, List.length_take, Nat.min_eq_left (by omega)]
  rw [e, e2, ← l]
  exact setAll_app _ _ _ _ (by rw [K.len, K.len])
/-- One of them is stored anew. -/
theorem MineR.put {α : Type} {K : Kin α} {t : TypeId} {w : World} {g : Nat} {X : List α} (h : MineR K t w g X) {i : Nat} (hi : i < X.length) {x : α} (hx : K.ok w x) (hn : ∀ y ∈ X, K.off g y) (ho : K.off g x) :
    MineR K t (putAll w g (i * K.k) (K.cs x)) g (X.set i x) := by
  have hb := putAll_but g (K.cs x) w (i * K.k)
  refine ⟨by rw [← Kin.cells_put X i x hi]; exact putAll_lay _ _ h.lay, fun z hz => ?_, by rw [List.length_set]; exact putAll_row _ _ h.row⟩
  rcases List.mem_or_eq_of_mem_set hz with hz | rfl
  · exact K.but (h.ok z hz) hb.but (hn z hz)
  · exact K.but hx hb.but ho
theorem take_setK {α β : Type} {p : α → β} {X X' : List α} {k : Nat} {z u : α} (hz : X[k]? = some z) (hk : k < X'.length) (h : (X'.take k).map p = (X.take k).map p) (hu : p u = p z) : ((X'.set k u).take (k + 1)).map p = (X.take (k + 1)).map p := by
  obtain ⟨g1, g2⟩ := List.getElem?_eq_some_iff.1 hz
  rw [List.take_succ_eq_append_getElem g1, List.take_succ_eq_append_getElem (by simpa using hk), List.map_append, List.map_append, List.take_set_of_le (Nat.le_refl k), h, g2]
  simp [hu]
theorem Kin.made {α : Type} (K : Kin α) (z : α) (zs : Array Value) (hz : zs.toList = K.cs z) (hk : 0 < K.k) (n : Nat) : madeCells zs (n * K.k) = (K.cells (List.replicate n z)).toArray := by
  have hs : zs.size = K.k := by rw [← Array.length_toList, hz, K.len]
  apply Array.ext_getElem?
  intro i
  have e : (K.cells (List.replicate n z)).toArray[i]? = (K.cells (List.replicate n z))[i]? := by simp
  rw [e]
  by_cases h : i < n * K.k
  · have h1 : i / K.k < n := Nat.div_lt_of_lt_mul (by rw [Nat.mul_comm]; exact h)
    have hm := Nat.mod_lt i hk
    have h2 : (K.cs z)[i % K.k]? = some zs[i % K.k]! := by
      rw [← hz, Array.getElem?_toList, getElem!_pos zs _ (by rw [hs]; exact hm)]
      simp [hs, hm]
    have := Kin.cells_get (K := K) (List.replicate n z) (i / K.k) z (by rw [List.getElem?_replicate, if_pos h1]) _ _ h2
    rw [Nat.mul_comm, Nat.div_add_mod] at this
    rw [this]
    simp [madeCells, h, hs]
  · rw [Array.getElem?_eq_none (by rw [size_madeCells]; omega), List.getElem?_eq_none (by rw [Kin.cells_len]; simp; omega)]
theorem mkR {α : Type} (K : Kin α) {P : Program} (z : α) {zs : Array Value} {ts t : TypeId} {i : TypeInfo} {v : Value} (hu : P.underlying ts = some (.slice t)) (hi : P.info? t = some i) (hz : i.zero = some v) (hv : v.cells = zs) (hc : zs.toList = K.cs z) (hs : i.size = K.k) (hb : i.bytes ≤ 1000) (hk : 0 < K.k) (n : Nat) (hn : n ≤ 1000000) (w : World) :
    (Instr.makeSlice ts (.int .i64 (n : Int)) (.int .i64 (n : Int))).run P w = .ok (.slice (some ⟨w.heap.size, 0, none⟩) n n) (w.alloc (.cells (K.cells (List.replicate n z)).toArray t)) := by
  have hr := run_make (P := P) w ts t i _ hu hi hz .i64 .i64 (n : Int) (n : Int) (by omega) (Int.le_refl _) (by rw [← Int.natCast_mul]; exact Int.le_trans (Int.ofNat_le.2 (Nat.mul_le_mul hb hn)) (by decide)) (by omega)
  simp only [Int.toNat_natCast, hs] at hr
  rw [hr, hv, Kin.made K z zs hc hk]
theorem MineR.made {α : Type} (K : Kin α) (t : TypeId) (z : α) (hz : ∀ w, K.ok w z) (n : Nat) (w : World) : MineR K t (w.alloc (.cells (K.cells (List.replicate n z)).toArray t (0, 0))) w.heap.size (List.replicate n z) :=
  ⟨Lay.made w _ _, fun y hy => by rw [List.eq_of_mem_replicate hy]; exact hz _, ⟨_, heap_new w _, by simp [Kin.cells_len]⟩⟩
/-- When such a struct is new, from block B on. -/
structure NewK {α : Type} (K : Kin α) where
  new : Nat → α → Prop
  off : ∀ {B R : Nat} {y : α}, new B y → R < B → K.off R y
  mono : ∀ {B B' : Nat} {y : α}, new B y → B' ≤ B → new B' y
  zero : α
  zero_new : ∀ B, new B zero
  zero_ok : ∀ w, K.ok w zero
/-- What a copy of such a list is: a list in new memory that reads alike. -/
abbrev Copied {α β : Type} (K : Kin α) (t : TypeId) (p : α → β) (N : NewK K) (w : World) (n : Nat) (X : List α) (e : Ending) (w' : World) : Prop :=
  (∃ (g : Nat) (Y : List α), e = .returned (.slice (some ⟨g, 0, none⟩) n n) ∧ MineR K t w' g Y ∧ Y.length = n ∧ Y.map p = X.map p ∧ w.heap.size ≤ g ∧ ∀ y ∈ Y, N.new (g + 1) y) ∧ Below w.heap.size w w'
/-- What a copy of one is. -/
abbrev Copy1 {α β : Type} (K : Kin α) (v : α → Value) (p : α → β) (N : NewK K) (x : α) (w : World) (e : Ending) (w' : World) : Prop :=
  (∃ y, e = .returned (v y) ∧ K.ok w' y ∧ N.new w.heap.size y ∧ p y = p x) ∧ Below w.heap.size w w'
theorem MineR.at {α : Type} {K : Kin α} {t : TypeId} {w : World} {g : Nat} {X : List α} (h : MineR K t w g X) {i j : Nat} (hi : i < X.length) (hj : j < K.k) : ∃ u, w.cell? ⟨g, i * K.k + j, none⟩ = some u := by
  have hl : j < (K.cs X[i]).length := by rw [K.len]; exact hj
  exact ⟨_, h.lay.cell _ _ (Kin.cells_get X i X[i] (List.getElem?_eq_getElem hi) j _ (List.getElem?_eq_getElem hl))⟩
end Go.Proofs.YtklabieacbbbfaaDoor

/- The contract of plain.list over ints: a copy in new memory; no condition but that the list reads, and is no greater than a machine bears. -/
namespace Go.Proofs.YtklabieacbbbfaaDoor
open Go.RowKit
set_option linter.unusedVariables false
set_option maxRecDepth 100000
set_option linter.unusedSimpArgs false

theorem Lay.of_row {w : World} {q : Nat} {L : List Value} {t : TypeId} (h : w.heap[q]? = some (.cells L.toArray t (0, 0))) : Lay w q L :=
  ⟨fun i v hv => by rw [cell_of_row w q _ _ t _ h]; simpa using hv, fun j => by simp [World.frozen?, h], (Array.getElem?_eq_some_iff.1 h).1⟩
set_option maxHeartbeats 1000000 in
theorem plistL_c (a : Option Addr) (n c : Nat) (l : List Int) (w : World) (h : Ints w a n c l) (hn : n ≤ 100000) :
    Calls Tryd.prog 41 #[.slice a n c] w fun e w' => (∃ q, e = .returned (.slice (some ⟨q, 0, none⟩) n n) ∧ Ints w' (some ⟨q, 0, none⟩) n n l ∧ w.heap.size ≤ q ∧ Lay w' q (cellsOf l)) ∧ Below w.heap.size w w' := by
  have n2 : (n : Int) ≤ 100000 := by omega
  have hmk := run_make_row' (P := Tryd.prog) 22 3 (.int .i64 0) 8 Tryd.underlying22 infoInt rfl .i64 .i64 n (by omega) (by omega)
  go_enter Tryd.func41, Tryd.ntmps41
  go_wp2_with fail
  obtain ⟨w2, r2, g2, b2⟩ := copy_run (P := Tryd.prog) (w.alloc (.cells (madeCells #[.int .i64 0] n) 3)) 22 22 3 3 Tryd.underlying22 sizeInt (some ⟨w.heap.size, 0, none⟩) a n n n c w.heap.size 0
    (madeCells #[.int .i64 0] n).toList 3 (heap_new _ _) (cellsOf l) (by rw [cellsOf_len, h.len]; exact (Nat.min_self n).symm) (fun hp => ⟨rfl, (h.below (B := w.heap.size) (by (repeat first | exact bel0 | assumption | refine bel1 ?_ | refine bel2 ?_ | refine bel3 ?_ | refine belowT ?_ (by assumption) | refine bel5 ?_ (by simp; try omega))) (Nat.le_refl _)).src (by rw [cellsOf_len, h.len] at hp; exact hp)⟩) (by simp [size_madeCells, cellsOf_len, h.len]) (cellsOf_one l)
  rw [r2]
  have G2 := hide g2
  clear g2 r2
  go_wp2
  go_ret
  have g2 := G2.out
  rw [splice_one _ _ (by simp [size_madeCells, cellsOf_len, h.len])] at g2
  exact ⟨⟨_, rfl, Ints.of_row g2 (by rw [h.len]; omega) h.wf h.len, Nat.le_refl _, Lay.of_row g2⟩, (belowA (Below.refl _ _) _).trans b2⟩
theorem plist_c (a : Option Addr) (n c : Nat) (l : List Int) (w : World) (h : Ints w a n c l) (hn : n ≤ 100000) :
    Calls Tryd.prog 41 #[.slice a n c] w fun e w' => (∃ q, e = .returned (.slice (some ⟨q, 0, none⟩) n n) ∧ Ints w' (some ⟨q, 0, none⟩) n n l ∧ w.heap.size ≤ q ∧ q < w'.heap.size) ∧ Below w.heap.size w w' :=
  (plistL_c a n c l w h hn).mono fun e w' ⟨⟨q, h1, h2, h3, h4⟩, h5⟩ => ⟨⟨q, h1, h2, h3, h4.lt⟩, h5⟩

end Go.Proofs.YtklabieacbbbfaaDoor
