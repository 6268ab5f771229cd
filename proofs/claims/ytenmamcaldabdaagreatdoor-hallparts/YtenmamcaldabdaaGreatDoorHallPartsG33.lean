/- Records' values, and the contracts of note.Check, note.Same, note.number; no condition but that the arguments read as data, and the package-level variables are as their texts lay them. -/
import Derived.Test.YtenmamcaldabdaaGreatDoorHallPartsG9
import Derived.Test.YtenmamcaldabdaaGreatDoorHallPartsG3
import Derived.Test.YtenmamcaldabdaaGreatDoorHallPartsG4
import Derived.Test.YtenmamcaldabdaaGreatDoorHallPartsG10
import Derived.Deep.AppendLies
import Derived.Shelf.Bytes.SlEqualAll
import Derived.Test.YtenmamcaldabdaaGreatDoorHallPartsG2
import Derived.Test.YtenmamcaldabdaaGreatDoorHallPartsG1
import Derived.Test.YtenmamcaldabdaaGreatDoorHallPartsG5
import Derived.Deep.Light
import Derived.BigQuiet
import Derived.Deep.DeepCutAuto
import Derived.Lib.OthersKept
import Derived.WideMake
import Derived.ChangeMaps4
import Derived.Lib.SlicesS
namespace Go.Proofs.YtenmamcaldabdaaGreatDoor
open Go.RowKit
set_option linter.unusedVariables false
set_option maxRecDepth 100000
set_option linter.unusedSimpArgs false

/-- A number's text. -/
def itoaB (v : Int) : ByteArray := ⟨(Lib.itoa v).toArray⟩

theorem atoiAll_wf {l : List UInt8} {v : Int} (h : Lib.atoiAll l = .ok v) : -9223372036854775808 ≤ v ∧ v ≤ 9223372036854775807 := by
  have := Lib.parseIntB_bounds (show Lib.parseIntB 64 l = .ok v by rw [Lib.parseIntB_64]; exact h)
  simp at this
  omega

/-- What a word read as a number answers. -/
def NumRes (s : ByteArray) (e : Ending) : Prop := ∃ v f, e = .returned (.tuple #[.int .i64 v, .bool f]) ∧ (f = true → num s.data.toList = some v) ∧ (f = false → num s.data.toList = none)

set_option maxHeartbeats 1000000 in
theorem number_c (s : ByteArray) (hs : s.size ≤ 281474976710656) (w : World) (hE : Env w) : Calls Tryz.prog 132 #[.string s] w fun e w' => NumRes s e ∧ Below w.heap.size w w' := by
  by_cases hok : ∃ v, Lib.atoiAll s.data.toList = .ok v
  · obtain ⟨v, hv⟩ := hok
    have hw := atoiAll_wf hv
    have HN : Hid (num s.data.toList = if Lib.itoa v = s.data.toList then some v else none) := hide (by rw [num_eq, hv])
    have HI := hide (fun w' h' => Itoa_c v hw w' h')
    have HE : Hid (((⟨(Lib.itoa v).toArray⟩ : ByteArray) == s) = decide (Lib.itoa v = s.data.toList)) := hide (by
      by_cases e : Lib.itoa v = s.data.toList
      · rw [beq_t (bytes_eq e)]; simp [e]
      · rw [beq_f (fun e' => e (by rw [← e']))]; simp [e])
    generalize hx : (⟨(Lib.itoa v).toArray⟩ : ByteArray) = x at *
    clear hx
    go_enter Tryz.func132, Tryz.ntmps132
    go_wp2_with fail
    refine (Atoi_ok_c s hs v hv _).mono ?_
    rintro e w1 ⟨rfl, hb1⟩
    have E1 := hE.below hb1
    go_wp2_with fail
    refine (HI.out _ E1).mono ?_
    rintro e w2 ⟨rfl, hb2⟩
    have he := HE.out
    cases hd : decide (Lib.itoa v = s.data.toList)
    · rw [hd] at he
      have he2 : (x.toList == s.toList) = false := by rw [← beq_toListBytes]; exact he
      have he3 : ¬ (x.toList = s.toList) := by simpa using he2
      go_wp2
      refine bodyPost_ret (v := .tuple #[.int .i64 v, .bool false]) (by simp [results, Tryz.results132, go_sem, he3]) rfl ⟨⟨v, false, rfl, (fun h => by cases h), fun _ => ?_⟩, by (repeat (first | exact Below.refl _ _ | assumption | refine Below.drew ?_ | refine below_drewN ?_ _ | refine belowA ?_ _ | refine belowT ?_ (by assumption) | refine Below.setCell ?_ (by first | (simp; done) | (simp; omega)) _))⟩
      rw [HN.out, if_neg (of_decide_eq_false hd)]
    · rw [hd] at he
      have he2 : (x.toList == s.toList) = true := by rw [← beq_toListBytes]; exact he
      have he3 : x.toList = s.toList := by simpa using he2
      go_wp2
      refine bodyPost_ret (v := .tuple #[.int .i64 v, .bool true]) (by simp [results, Tryz.results132, go_sem, he3]) rfl ⟨⟨v, true, rfl, fun _ => ?_, (fun h => by cases h)⟩, by (repeat (first | exact Below.refl _ _ | assumption | refine Below.drew ?_ | refine below_drewN ?_ _ | refine belowA ?_ _ | refine belowT ?_ (by assumption) | refine Below.setCell ?_ (by first | (simp; done) | (simp; omega)) _))⟩
      rw [HN.out, if_pos (of_decide_eq_true hd)]
  · have hn : ∀ v, Lib.atoiAll s.data.toList ≠ .ok v := fun v h => hok ⟨v, h⟩
    have HN : Hid (num s.data.toList = none) := hide (by
      rw [num_eq]
      cases h : Lib.atoiAll s.data.toList with
      | ok v => exact absurd h (hn v)
      | «syntax» => rfl
      | range => rfl)
    go_enter Tryz.func132, Tryz.ntmps132
    go_wp2_with fail
    refine (Atoi_bad_c s hs hn _ hE).mono ?_
    rintro e w1 ⟨⟨v, N, rfl⟩, hb1⟩
    go_wp2
    exact bodyPost_ret (v := .tuple #[.int .i64 v, .bool false]) (by simp [results, Tryz.results132, go_sem]) rfl ⟨⟨v, false, rfl, (fun h => by cases h), fun _ => HN.out⟩, by (repeat (first | exact Below.refl _ _ | assumption | refine Below.drew ?_ | refine below_drewN ?_ _ | refine belowA ?_ _ | refine belowT ?_ (by assumption) | refine Below.setCell ?_ (by first | (simp; done) | (simp; omega)) _))⟩

end Go.Proofs.YtenmamcaldabdaaGreatDoor

/- Lists of one-cell values in memory, bytes among them; plain mathematics, no condition. -/
namespace Go.Proofs.YtenmamcaldabdaaGreatDoor
open Go.RowKit
set_option linter.unusedVariables false
set_option maxRecDepth 100000
set_option linter.unusedSimpArgs false

/-- A slice value's first n cells read as vs. -/
structure Cel (w : World) (a : Option Addr) (n c : Nat) (vs : List Value) : Prop where
  len : vs.length = n
  le : n ≤ c
  max : c ≤ 9223372036854775807
  nil : a = none → c = 0
  row : n = 0 ∨ ∃ b off, a = some ⟨b, off, none⟩ ∧ b < w.heap.size ∧ ∀ i v, vs[i]? = some v → w.cell? ⟨b, off + i, none⟩ = some v
theorem Cel.below {w w' : World} {a : Option Addr} {n c : Nat} {vs : List Value} (h : Cel w a n c vs) {B : Nat} (hb : Below B w w') (hB : w.heap.size ≤ B) : Cel w' a n c vs := by
  refine ⟨h.len, h.le, h.max, h.nil, ?_⟩
  rcases h.row with h0 | ⟨b, off, ha, hlt, hc⟩
  · exact .inl h0
  · refine .inr ⟨b, off, ha, Nat.lt_of_lt_of_le hlt hb.size, fun i v hv => ?_⟩
    rw [hb.cell (p := ⟨b, off + i, none⟩) (Nat.lt_of_lt_of_le hlt hB)]
    exact hc i v hv
theorem Cel.drewN {w : World} {a : Option Addr} {n c : Nat} {vs : List Value} (h : Cel w a n c vs) (k : Nat) : Cel (w.drewN k) a n c vs := ⟨h.len, h.le, h.max, h.nil, h.row⟩
theorem Cel.nilSlice (w : World) : Cel w none 0 0 [] := ⟨rfl, Nat.le_refl _, by omega, fun _ => rfl, .inl rfl⟩
theorem Cel.but {w w' : World} {g : Nat} {a : Option Addr} {n c : Nat} {vs : List Value} (h : Cel w a n c vs) (hb : But g w w') (hne : n = 0 ∨ ∀ x, a = some x → x.block ≠ g) : Cel w' a n c vs := by
  refine ⟨h.len, h.le, h.max, h.nil, ?_⟩
  rcases hne with h0 | hne
  · exact .inl h0
  · rcases h.row with h0 | ⟨b, off, ha, hlt, hc⟩
    · exact .inl h0
    · refine .inr ⟨b, off, ha, Nat.lt_of_lt_of_le hlt hb.size, fun i v hv => ?_⟩
      rw [hb.cell ⟨b, off + i, none⟩ hlt (by have := hne _ ha; exact this)]
      exact hc i v hv
theorem Cel.offs {w : World} {a : Option Addr} {n c : Nat} {vs : List Value} (h : Cel w a n c vs) {R : Nat} (hR : w.heap.size ≤ R) : n = 0 ∨ ∀ x, a = some x → x.block ≠ R := by
  rcases h.row with h0 | ⟨b, off, ha, hlt, hc⟩
  · exact .inl h0
  · right
    intro x hx
    rw [ha] at hx
    cases hx
    exact Nat.ne_of_lt (Nat.lt_of_lt_of_le hlt hR)
theorem Cel.src {w : World} {a : Option Addr} {n c : Nat} {vs : List Value} (h : Cel w a n c vs) (hp : 0 < n) : ∃ ad, a = some ad ∧ ∀ j v, vs[j]? = some v → w.cell? (ad.add j) = some v := by
  rcases h.row with h0 | ⟨b, off, ha, hlt, hc⟩
  · omega
  · exact ⟨_, ha, fun j v hv => by rw [addr_add]; exact hc j v hv⟩
theorem Cel.nils {w : World} {a : Option Addr} {n c : Nat} {vs : List Value} (h : Cel w a n c vs) (e : a = none) : n = 0 ∧ c = 0 := by
  have h1 := h.nil e
  have h2 := h.le
  omega
/-- A row of new memory. -/
theorem Cel.of_row {w : World} {g : Nat} {vs : List Value} {t : TypeId} {fr : Nat × Nat} (hg : w.heap[g]? = some (.cells vs.toArray t fr)) (hmax : vs.length ≤ 9223372036854775807) {n : Nat} (hn : vs.length = n) : Cel w (some ⟨g, 0, none⟩) n n vs := by
  subst hn
  refine ⟨rfl, Nat.le_refl _, hmax, fun h => (by cases h), .inr ⟨g, 0, rfl, (Array.getElem?_eq_some_iff.1 hg).1, fun i v hv => ?_⟩⟩
  rw [cell_of_row w g _ _ t fr hg, Nat.zero_add]
  simpa using hv
/-- The first k of them. -/
theorem Cel.take {w : World} {a : Option Addr} {n c : Nat} {vs : List Value} (h : Cel w a n c vs) {k : Nat} (hk : k ≤ n) : Cel w a k c (vs.take k) := by
  refine ⟨by rw [List.length_take, h.len]; omega, Nat.le_trans hk h.le, h.max, h.nil, ?_⟩
  rcases h.row with h0 | ⟨b, off, ha, hlt, hc⟩
  · exact .inl (by omega)
  · exact .inr ⟨b, off, ha, hlt, fun i v hv => hc i v (by
      have hi := (List.getElem?_eq_some_iff.1 hv).1
      rw [List.length_take] at hi
      rwa [List.getElem?_take_of_lt (by omega)] at hv)⟩

/-- The cells of bytes. -/
def bytC (l : List UInt8) : List Value := l.map fun b => Value.int .u8 (b.toNat : Int)
theorem bytC_len (l : List UInt8) : (bytC l).length = l.length := by simp [bytC]
theorem bytC_app (l k : List UInt8) : bytC l ++ bytC k = bytC (l ++ k) := by simp [bytC]
theorem bytC_take (l : List UInt8) (k : Nat) : (bytC l).take k = bytC (l.take k) := by simp [bytC]
theorem bytC_one (l : List UInt8) : ∀ v ∈ bytC l, v.oneCell' = true := by
  intro v hv
  simp only [bytC, List.mem_map] at hv
  obtain ⟨x, _, rfl⟩ := hv
  rfl
theorem bytC_get (l : List UInt8) (i : Nat) (hi : i < l.length) : (bytC l)[i]? = some (.int .u8 ((l.getD i 0).toNat : Int)) := by
  simp [bytC, List.getD, hi]
/-- A slice of bytes. -/
def Byts (w : World) (a : Option Addr) (n c : Nat) (l : List UInt8) : Prop := Cel w a n c (bytC l)
theorem Byts.below {w w' : World} {a : Option Addr} {n c : Nat} {l : List UInt8} (h : Byts w a n c l) {B : Nat} (hb : Below B w w') (hB : w.heap.size ≤ B) : Byts w' a n c l := Cel.below h hb hB
theorem Byts.but {w w' : World} {g : Nat} {a : Option Addr} {n c : Nat} {l : List UInt8} (h : Byts w a n c l) (hb : But g w w') (hne : n = 0 ∨ ∀ x, a = some x → x.block ≠ g) : Byts w' a n c l := Cel.but h hb hne
theorem Byts.offs {w : World} {a : Option Addr} {n c : Nat} {l : List UInt8} (h : Byts w a n c l) {R : Nat} (hR : w.heap.size ≤ R) : n = 0 ∨ ∀ x, a = some x → x.block ≠ R := Cel.offs h hR
theorem Byts.nilSlice (w : World) : Byts w none 0 0 [] := Cel.nilSlice w
theorem Byts.len {w : World} {a : Option Addr} {n c : Nat} {l : List UInt8} (h : Byts w a n c l) : l.length = n := by rw [← bytC_len]; exact Cel.len h
theorem Byts.take {w : World} {a : Option Addr} {n c : Nat} {l : List UInt8} (h : Byts w a n c l) {k : Nat} (hk : k ≤ n) : Byts w a k c (l.take k) := by
  unfold Byts
  rw [← bytC_take]
  exact Cel.take h hk

end Go.Proofs.YtenmamcaldabdaaGreatDoor

/- Bytes, disks and lists of records in memory; plain mathematics, no condition. -/
namespace Go.Proofs.YtenmamcaldabdaaGreatDoor
open Go.RowKit
set_option linter.unusedVariables false
set_option maxRecDepth 100000
set_option linter.unusedSimpArgs false

theorem bytC_drop (l : List UInt8) (k : Nat) : (bytC l).drop k = bytC (l.drop k) := by simp [bytC]
/-- Bytes from the j-th on. -/
theorem Byts.drop {w : World} {a : Option Addr} {n c : Nat} {l : List UInt8} (h : Byts w a n c l) {j : Nat} (hj : j ≤ n) : Byts w (if c = j then a else a.map (fun x => x.add j)) (n - j) (c - j) (l.drop j) := by
  have hlen := h.len
  have hle : n ≤ c := Cel.le h
  have hmax := Cel.max h
  refine ⟨by rw [bytC_len, List.length_drop, hlen], by omega, by omega, fun e => ?_, ?_⟩
  · by_cases hcj : c = j
    · omega
    · rw [if_neg hcj] at e
      cases ha : a with
      | none => have := Cel.nil h ha; omega
      | some x => rw [ha] at e; cases e
  · rcases Cel.row h with h0 | ⟨b, off, ha, hlt, hc⟩
    · exact .inl (by omega)
    · by_cases hcj : c = j
      · exact .inl (by omega)
      · refine .inr ⟨b, off + j, by rw [if_neg hcj, ha]; simp [addr_add], hlt, fun i v hv => ?_⟩
        rw [← bytC_drop, List.getElem?_drop] at hv
        rw [Nat.add_assoc]
        exact hc (j + i) v hv

/-- Bytes as numbers. -/
def numsB (l : List UInt8) : List Int := l.map fun b => (b.toNat : Int)
theorem numsB_len (l : List UInt8) : (numsB l).length = l.length := by simp [numsB]
theorem bytesOf_nums (l : List UInt8) : Lib.bytesOf (numsB l) = l := by simp [numsB, Lib.bytesOf, Function.comp_def]
theorem strOf_nums (l : List UInt8) : strOfNums (numsB l) = ⟨l.toArray⟩ := by simp [numsB, strOfNums, Function.comp_def]
theorem numsB_byte (l : List UInt8) : ∀ x ∈ numsB l, 0 ≤ x ∧ x < 256 := by
  intro x hx
  simp only [numsB, List.mem_map] at hx
  obtain ⟨b, _, rfl⟩ := hx
  have := b.toNat_lt
  omega
theorem Byts.into {w : World} {a : Option Addr} {n c : Nat} {l : List UInt8} (h : Byts w a n c l) : Lib.BytesIn w a n (numsB l) := by
  intro hn
  have hlen := h.len
  rcases Cel.row h with h0 | ⟨b, off, ha, hlt, hc⟩
  · omega
  · refine ⟨b, off, ha, fun i hi => ?_⟩
    rw [hc i _ (bytC_get l i (by omega))]
    simp [numsB, List.getD, hlen, hi]
theorem Byts.text {w : World} {a : Option Addr} {n c : Nat} {l : List UInt8} (h : Byts w a n c l) {P : Program} {src e dst : TypeId} (hs : P.underlying src = some (.slice e)) (he : P.underlying e = some (.int .u8)) (hd : P.underlying dst = some .string) :
    (convert src dst (.slice a n c)).run P w = .ok (.string ⟨l.toArray⟩) w := by
  rw [← strOf_nums]
  exact h.into.convert (by rw [numsB_len, h.len]) c src e dst hs he hd

/-- A disk's value. -/
structure KV where
  p : PK
  a : Option Addr
  n : Nat
  c : Nat
  b : Option Addr
  m : Nat
  d : Nat
def KV.v (x : KV) : Value := .agg #[.slice x.a x.n x.c, .slice x.b x.m x.d]
def KV.cells (x : KV) : List Value := [.slice x.a x.n x.c, .slice x.b x.m x.d]
structure KV.ok (w : World) (x : KV) : Prop where
  s : Byts w x.a x.n x.c x.p.s
  w : Byts w x.b x.m x.d x.p.w
def KV.zero : KV := ⟨zeroK, none, 0, 0, none, 0, 0⟩
theorem KV.zero_ok (w : World) : KV.zero.ok w := ⟨Byts.nilSlice w, Byts.nilSlice w⟩
theorem KV.ok.below {w w' : World} {x : KV} (h : x.ok w) (hb : Below w.heap.size w w') : x.ok w' := ⟨h.s.below hb (Nat.le_refl _), h.w.below hb (Nat.le_refl _)⟩
/-- It lies in memory from B on. -/
structure KV.fresh (B : Nat) (x : KV) : Prop where
  s : ∀ y, x.a = some y → B ≤ y.block
  w : ∀ y, x.b = some y → B ≤ y.block
theorem KV.zero_fresh (B : Nat) : KV.zero.fresh B := ⟨fun y e => (by cases e), fun y e => (by cases e)⟩
theorem KV.fresh.mono {B B' : Nat} {x : KV} (h : x.fresh B) (hB : B' ≤ B) : x.fresh B' := ⟨fun y e => Nat.le_trans hB (h.s y e), fun y e => Nat.le_trans hB (h.w y e)⟩
theorem KV.ok.but {w w' : World} {g : Nat} {x : KV} (h : x.ok w) (hb : But g w w') {B : Nat} (hn : x.fresh B) (hg : g < B) : x.ok w' :=
  ⟨h.s.but hb (.inr fun y e => by have := hn.s y e; omega), h.w.but hb (.inr fun y e => by have := hn.w y e; omega)⟩

end Go.Proofs.YtenmamcaldabdaaGreatDoor

/- Lines read one by one, and texts parted behind their line feeds; plain mathematics, no condition. -/
namespace Go.Proofs.YtenmamcaldabdaaGreatDoor
open Go.RowKit
set_option linter.unusedVariables false
set_option maxRecDepth 100000
set_option linter.unusedSimpArgs false

/-- The first line's record, what stands behind it, what is wrong with it. -/
def firstP (l : List UInt8) : PR × List UInt8 × Int := match cutN l with
  | none => (zeroR, [], 9)
  | some (a, r) => ((parseR a).1, r, (parseR a).2)
theorem firstP_none {l : List UInt8} (h : cutN l = none) : firstP l = (zeroR, [], 9) := by unfold firstP; rw [h]
theorem firstP_some {l a r : List UInt8} (h : cutN l = some (a, r)) : firstP l = ((parseR a).1, r, (parseR a).2) := by unfold firstP; rw [h]
theorem cutN_len {l a r : List UInt8} (h : cutN l = some (a, r)) : a.length + 1 + r.length = l.length := by
  have := congrArg List.length (cutN_some h).1
  simp only [List.length_append, List.length_cons] at this
  omega

/-- The records D of the text l have been read, r is left. -/
structure Ahd (most : Nat) (l : List UInt8) (D : List PR) (r : List UInt8) : Prop where
  le : D.length ≤ most
  len : r.length ≤ l.length
  eq : linesP most l = (D ++ (linesP (most - D.length) r).1, (l.length - r.length) + (linesP (most - D.length) r).2.1, (linesP (most - D.length) r).2.2)
theorem Ahd.start (most : Nat) (l : List UInt8) : Ahd most l [] l := ⟨Nat.zero_le _, Nat.le_refl _, by simp⟩
theorem Ahd.step {most : Nat} {l r : List UInt8} {D : List PR} (h : Ahd most l D r) (hf : (firstP r).2.2 = 0) (hm : D.length < most) : Ahd most l (D ++ [(firstP r).1]) (firstP r).2.1 ∧ (firstP r).2.1.length < r.length := by
  cases hc : cutN r with
  | none => rw [firstP_none hc] at hf; cases hf
  | some p =>
    obtain ⟨a, b⟩ := p
    have hlen := cutN_len hc
    have h2 := h.len
    rw [firstP_some hc] at hf ⊢
    simp only at hf ⊢
    obtain ⟨m, hm'⟩ : ∃ m, most - D.length = m + 1 := ⟨most - D.length - 1, by omega⟩
    refine ⟨⟨by simp; omega, by omega, ?_⟩, by omega⟩
    have e := h.eq
    rw [hm', linesP_line hc, if_neg (by simp [hf])] at e
    simp only at e
    rw [e, show most - (D ++ [(parseR a).1]).length = m by simp; omega]
    simp
    omega
theorem Ahd.done {most : Nat} {l : List UInt8} {D : List PR} (h : Ahd most l D []) : linesP most l = (D, l.length, 0) := by
  have e := h.eq
  rw [linesP_nil] at e
  simpa using e
theorem Ahd.bad {most : Nat} {l r : List UInt8} {D : List PR} (h : Ahd most l D r) (hr : r ≠ []) (hf : (firstP r).2.2 ≠ 0) : linesP most l = (D, l.length - r.length, (firstP r).2.2) := by
  have e := h.eq
  cases hc : cutN r with
  | none =>
    rw [linesP_torn hr hc] at e
    rw [firstP_none hc]
    simpa using e
  | some p =>
    obtain ⟨a, b⟩ := p
    rw [firstP_some hc] at hf ⊢
    rw [linesP_line hc, if_pos hf] at e
    simpa using e
theorem Ahd.many {most : Nat} {l r : List UInt8} {D : List PR} (h : Ahd most l D r) (hf : (firstP r).2.2 = 0) (hm : D.length = most) : linesP most l = (D, l.length - r.length, 2) := by
  have e := h.eq
  cases hc : cutN r with
  | none => rw [firstP_none hc] at hf; cases hf
  | some p =>
    obtain ⟨a, b⟩ := p
    rw [firstP_some hc] at hf
    rw [linesP_line hc, if_neg (by simpa using hf), show most - D.length = 0 by omega] at e
    simpa using e
theorem Ahd.stop {most : Nat} {l r : List UInt8} {D : List PR} (h : Ahd most l D r) (hs : D.length = most ∨ (firstP r).2.2 ≠ 0) : (linesP most l).1 = D ∧ (linesP most l).2.1 = l.length - r.length := by
  by_cases hr : r = []
  · subst hr
    rw [h.done]
    simp
  · by_cases hf : (firstP r).2.2 = 0
    · rw [h.many hf (hs.resolve_right (by simp [hf]))]
      exact ⟨rfl, rfl⟩
    · rw [h.bad hr hf]
      exact ⟨rfl, rfl⟩

/-- Where the first line feed stands. -/
theorem index_N : ∀ l : List UInt8, (cutN l = none ∧ Lib.index l [10] = -1) ∨ ∃ h t, cutN l = some (h, t) ∧ Lib.index l [10] = (h.length : Int)
  | [] => .inl ⟨rfl, rfl⟩
  | b :: l => by
    by_cases hb : b = 10
    · subst hb
      exact .inr ⟨[], l, by simp [cutN], by rw [Lib.index]; simp [List.isPrefixOf]⟩
    · have hp : ([10] : List UInt8).isPrefixOf (b :: l) = false := by simp [List.isPrefixOf, Ne.symm hb]
      have hix : Lib.index (b :: l) [10] = if Lib.index l [10] == -1 then -1 else Lib.index l [10] + 1 := by rw [Lib.index, hp]; simp
      rw [hix, cutN, if_neg hb]
      rcases index_N l with ⟨h1, h2⟩ | ⟨h, t, h1, h2⟩
      · left
        rw [h1, h2]
        exact ⟨rfl, rfl⟩
      · right
        rw [h1, h2]
        refine ⟨b :: h, t, rfl, ?_⟩
        have n1 : ((h.length : Int) == -1) = false := by simp
        simp [n1]

end Go.Proofs.YtenmamcaldabdaaGreatDoor

/- The contracts of disk.join and disk.size; no condition but that the bytes are read, and on their number. -/
namespace Go.Proofs.YtenmamcaldabdaaGreatDoor
open Go.RowKit
set_option linter.unusedVariables false
set_option maxRecDepth 100000
set_option linter.unusedSimpArgs false

theorem infoU8 : (Tryz.prog.info? 5).map (fun i => (i.zero, i.size, i.bytes)) = some (some (.int .u8 0), 1, 1) := by kernel_rfl
theorem sizeU8 : (Tryz.prog.info? 5).map (·.size) = some 1 := by kernel_rfl

theorem Byts.of_row {w : World} {g : Nat} {l : List UInt8} {t : TypeId} {fr : Nat × Nat} (hg : w.heap[g]? = some (.cells (bytC l).toArray t fr)) (hmax : l.length ≤ 9223372036854775807) {n : Nat} (hn : l.length = n) : Byts w (some ⟨g, 0, none⟩) n n l :=
  Cel.of_row hg (by rw [bytC_len]; exact hmax) (by rw [bytC_len]; exact hn)

set_option maxHeartbeats 1000000 in
theorem djoin_none (a : Option Addr) (n c : Nat) (l : List UInt8) (b : Option Addr) (d : Nat) (w : World) (h1 : Byts w a n c l) (hnm : n ≤ 1000000) :
    Calls Tryz.prog 48 #[.slice a n c, .slice b 0 d] w fun e w' => (e = .returned (.slice (some ⟨w.heap.size, 0, none⟩) n n) ∧ Byts w' (some ⟨w.heap.size, 0, none⟩) n n l) ∧ Below w.heap.size w w' := by
  have hmk := run_make_row' (P := Tryz.prog) 53 5 (.int .u8 0) 1 Tryz.underlying53 infoU8 rfl .i64 .i64 n (by omega) (by omega)
  have hl1 := h1.len
  go_enter Tryz.func48, Tryz.ntmps48
  go_wp2_with fail
  obtain ⟨w2, r2, g2, b2⟩ := copy_run (P := Tryz.prog) (w.alloc (.cells (madeCells #[.int .u8 0] n) 5)) 53 53 3 5 Tryz.underlying53 sizeU8 (some ⟨w.heap.size, 0, none⟩) a n n n c w.heap.size 0
    (madeCells #[.int .u8 0] n).toList 5 (heap_new _ _) (bytC l) (by rw [bytC_len, hl1]; exact (Nat.min_self n).symm) (fun hp => ⟨rfl, Cel.src (h1.below (B := w.heap.size) (by (repeat (first | exact Below.refl _ _ | assumption | refine Below.drew ?_ | refine below_drewN ?_ _ | refine belowA ?_ _ | refine belowT ?_ (by assumption) | refine Below.setCell ?_ (by first | (simp; done) | (simp; omega)) _))) (Nat.le_refl _)) (by rw [bytC_len, hl1] at hp; exact hp)⟩) (by simp [size_madeCells, bytC_len, hl1]) (bytC_one l)
  rw [r2]
  have G2 := hide g2
  clear g2 r2
  go_wp2_with fail
  rw [run_copy_none (P := Tryz.prog) _ 53 53 3 5 _ _ _ _ _ _ Tryz.underlying53 sizeU8 (by first | rfl | simp)]
  go_wp2
  go_ret
  have g2 := G2.out
  rw [splice_one _ _ (by simp [size_madeCells, bytC_len, hl1])] at g2
  exact ⟨⟨rfl, Byts.of_row g2 (by rw [hl1]; omega) hl1⟩, (belowA (Below.refl _ _) _).trans b2⟩

set_option maxHeartbeats 1000000 in
theorem djoin_some (a : Option Addr) (n c : Nat) (l : List UInt8) (b : Option Addr) (m d : Nat) (k : List UInt8) (w : World) (h1 : Byts w a n c l) (h2 : Byts w b m d k) (hnm : n + m ≤ 1000000) (hm : 0 < m) :
    Calls Tryz.prog 48 #[.slice a n c, .slice b m d] w fun e w' => (e = .returned (.slice (some ⟨w.heap.size, 0, none⟩) (n + m) (n + m)) ∧ Byts w' (some ⟨w.heap.size, 0, none⟩) (n + m) (n + m) (l ++ k)) ∧ Below w.heap.size w w' := by
  have hmk := run_make_row' (P := Tryz.prog) 53 5 (.int .u8 0) 1 Tryz.underlying53 infoU8 rfl .i64 .i64 (n + m) (by omega) (by omega)
  rw [Int.natCast_add] at hmk
  have hl1 := h1.len
  have hl2 := h2.len
  go_enter Tryz.func48, Tryz.ntmps48
  go_wp2_with fail
  obtain ⟨w2, r2, g2, b2⟩ := copy_run (P := Tryz.prog) (w.alloc (.cells (madeCells #[.int .u8 0] (n + m)) 5)) 53 53 3 5 Tryz.underlying53 sizeU8 (some ⟨w.heap.size, 0, none⟩) a (n + m) (n + m) n c w.heap.size 0
    (madeCells #[.int .u8 0] (n + m)).toList 5 (heap_new _ _) (bytC l) (by rw [bytC_len, hl1]; exact (Nat.min_eq_left (by omega)).symm) (fun hp => ⟨rfl, Cel.src (h1.below (B := w.heap.size) (by (repeat (first | exact Below.refl _ _ | assumption | refine Below.drew ?_ | refine below_drewN ?_ _ | refine belowA ?_ _ | refine belowT ?_ (by assumption) | refine Below.setCell ?_ (by first | (simp; done) | (simp; omega)) _))) (Nat.le_refl _)) (by rw [bytC_len, hl1] at hp; exact hp)⟩) (by simp [size_madeCells, bytC_len, hl1]) (bytC_one l)
  have bw2 : Below w.heap.size w w2 := (belowA (Below.refl _ _) _).trans b2
  obtain ⟨w3, r3, g3, b3⟩ := copy_run (P := Tryz.prog) w2 53 53 3 5 Tryz.underlying53 sizeU8 (some ⟨w.heap.size, n, none⟩) b m m m d w.heap.size n
    _ 5 g2 (bytC k) (by rw [bytC_len, hl2]; exact (Nat.min_self m).symm) (fun hp => ⟨rfl, Cel.src (h2.below (B := w.heap.size) bw2 (Nat.le_refl _)) hm⟩) (by rw [length_splice _ _ _ (by simp [size_madeCells, bytC_len, hl1])]; simp [size_madeCells, bytC_len, hl2]) (bytC_one k)
  rw [r2]
  have G3 := hide g3
  have R3 := hide r3
  clear g2 r2 g3 r3
  have hm0 : ¬ m = 0 := by omega
  go_wp2_with fail
  rw [R3.out]
  go_wp2
  go_ret
  have g3 := G3.out
  have hs := splice_two (madeCells #[.int .u8 0] (n + m)).toList (bytC l) (bytC k) (by simp [size_madeCells, bytC_len, hl1, hl2])
  rw [bytC_len, hl1] at hs
  rw [hs, bytC_app] at g3
  exact ⟨⟨rfl, Byts.of_row g3 (by rw [List.length_append, hl1, hl2]; omega) (by rw [List.length_append, hl1, hl2])⟩, bw2.trans b3⟩

theorem djoin_c (a : Option Addr) (n c : Nat) (l : List UInt8) (b : Option Addr) (m d : Nat) (k : List UInt8) (w : World) (h1 : Byts w a n c l) (h2 : Byts w b m d k) (hnm : n + m ≤ 1000000) :
    Calls Tryz.prog 48 #[.slice a n c, .slice b m d] w fun e w' => (e = .returned (.slice (some ⟨w.heap.size, 0, none⟩) (n + m) (n + m)) ∧ Byts w' (some ⟨w.heap.size, 0, none⟩) (n + m) (n + m) (l ++ k)) ∧ Below w.heap.size w w' := by
  rcases Nat.eq_zero_or_pos m with hm | hm
  · subst hm
    have hk := h2.len
    rw [List.length_eq_zero_iff] at hk
    subst hk
    rw [List.append_nil, Nat.add_zero]
    exact djoin_none a n c l b d w h1 (by omega)
  · exact djoin_some a n c l b m d k w h1 h2 hnm hm

theorem dsize_c (a : Option Addr) (n c : Nat) (b : Option Addr) (m d : Nat) (w : World) (hn : n ≤ 140737488355328) (hm : m ≤ 140737488355328) :
    Calls Tryz.prog 47 #[.agg #[.slice a n c, .slice b m d]] w fun e w' => e = .returned (.int .i64 ((n + m : Nat) : Int)) ∧ Below w.heap.size w w' := by
  go_enter Tryz.func47, Tryz.ntmps47
  go_wp2
  go_ret
  exact ⟨ret_int (by omega), by (repeat (first | exact Below.refl _ _ | assumption | refine Below.drew ?_ | refine below_drewN ?_ _ | refine belowA ?_ _ | refine belowT ?_ (by assumption) | refine Below.setCell ?_ (by first | (simp; done) | (simp; omega)) _))⟩

end Go.Proofs.YtenmamcaldabdaaGreatDoor

/- The contracts of the document's own answers on commands: has, SameCmd, CheckCmd; no condition but that the data reads as a list. -/
namespace Go.Proofs.YtenmamcaldabdaaGreatDoor
open Go.RowKit
set_option linter.unusedVariables false
set_option maxRecDepth 100000
set_option linter.unusedSimpArgs false

end Go.Proofs.YtenmamcaldabdaaGreatDoor

/- The contract of the document's own CheckCmd; no condition but that the data reads as a list. -/
namespace Go.Proofs.YtenmamcaldabdaaGreatDoor
open Go.RowKit
set_option linter.unusedVariables false
set_option maxRecDepth 100000
set_option linter.unusedSimpArgs false

end Go.Proofs.YtenmamcaldabdaaGreatDoor

/- The contracts of the document's own words and CmdText; no condition but that the data reads as a list, and the package-level variables are as their texts lay them. -/
namespace Go.Proofs.YtenmamcaldabdaaGreatDoor
open Go.RowKit
set_option linter.unusedVariables false
set_option maxRecDepth 100000
set_option linter.unusedSimpArgs false

end Go.Proofs.YtenmamcaldabdaaGreatDoor

/- Texts cut at their first blank, words by their places; plain mathematics, no condition. -/
namespace Go.Proofs.YtenmamcaldabdaaGreatDoor
open Go.RowKit
set_option linter.unusedVariables false
set_option maxRecDepth 100000
set_option linter.unusedSimpArgs false

theorem index_cons_ne {b : UInt8} {l : List UInt8} (h : b ≠ 32) : Lib.index (b :: l) [32] = if Lib.index l [32] == -1 then -1 else Lib.index l [32] + 1 := by
  have hp : ([32] : List UInt8).isPrefixOf (b :: l) = false := by simp [List.isPrefixOf, Ne.symm h]
  rw [Lib.index, hp]
  simp
theorem index_cons_eq (l : List UInt8) : Lib.index (32 :: l) [32] = 0 := by rw [Lib.index]; simp [List.isPrefixOf]

end Go.Proofs.YtenmamcaldabdaaGreatDoor

/- Texts cut at their first colon and blank, at their first blank; plain mathematics, no condition. -/
namespace Go.Proofs.YtenmamcaldabdaaGreatDoor
open Go.RowKit
set_option linter.unusedVariables false
set_option maxRecDepth 100000
set_option linter.unusedSimpArgs false

theorem cutC_cons {b : UInt8} {l : List UInt8} (h : ([58, 32] : List UInt8).isPrefixOf (b :: l) = false) : cutC (b :: l) = (cutC l).map fun p => (b :: p.1, p.2) := by
  rw [cutC.eq_def]
  split
  · rename_i q; cases q
  · rename_i r q
    rw [q] at h
    simp [List.isPrefixOf] at h
  · rename_i y r hne q
    simp at q
    rw [q.1, q.2]
theorem cutC_pre {b : UInt8} {l : List UInt8} (h : ([58, 32] : List UInt8).isPrefixOf (b :: l) = true) : ∃ r, b = 58 ∧ l = 32 :: r := by
  cases l with
  | nil => simp [List.isPrefixOf] at h
  | cons c r =>
    simp [List.isPrefixOf] at h
    exact ⟨r, h.1.symm, by rw [← h.2]⟩
/-- Where the first colon with a blank behind it stands. -/
theorem index_C : ∀ l : List UInt8, (cutC l = none ∧ Lib.index l [58, 32] = -1) ∨ ∃ h t, cutC l = some (h, t) ∧ Lib.index l [58, 32] = (h.length : Int)
  | [] => .inl ⟨rfl, rfl⟩
  | b :: l => by
    cases hp : ([58, 32] : List UInt8).isPrefixOf (b :: l) with
    | true =>
      obtain ⟨r, rfl, rfl⟩ := cutC_pre hp
      refine .inr ⟨[], r, rfl, ?_⟩
      rw [Lib.index, hp]
      rfl
    | false =>
      rw [Lib.index, hp, cutC_cons hp]
      rcases index_C l with ⟨h1, h2⟩ | ⟨h, t, h1, h2⟩
      · left
        rw [h1, h2]
        exact ⟨rfl, rfl⟩
      · right
        rw [h1, h2]
        refine ⟨b :: h, t, rfl, ?_⟩
        have n1 : ((h.length : Int) == -1) = false := by simp
        simp [n1]
theorem index_B : ∀ l : List UInt8, (cutB l = none ∧ Lib.index l [32] = -1) ∨ ∃ h t, cutB l = some (h, t) ∧ Lib.index l [32] = (h.length : Int)
  | [] => .inl ⟨rfl, rfl⟩
  | b :: l => by
    by_cases hb : b = 32
    · subst hb
      exact .inr ⟨[], l, by simp [cutB], index_cons_eq l⟩
    · rw [index_cons_ne hb, cutB, if_neg hb]
      rcases index_B l with ⟨h1, h2⟩ | ⟨h, t, h1, h2⟩
      · left
        rw [h1, h2]
        exact ⟨rfl, rfl⟩
      · right
        rw [h1, h2]
        refine ⟨b :: h, t, rfl, ?_⟩
        have n1 : ((h.length : Int) == -1) = false := by simp
        simp [n1]
theorem cut_C (l : List UInt8) : Lib.cut l [58, 32] = match cutC l with
  | some (h, t) => (h, t, true)
  | none => (l, [], false) := by
  rcases index_C l with ⟨h1, h2⟩ | ⟨h, t, h1, h2⟩
  · rw [h1, Lib.cut, h2]
    rfl
  · rw [h1, Lib.cut, h2, cutC_some h1, if_pos (by omega)]
    simp
theorem cut_B (l : List UInt8) : Lib.cut l [32] = match cutB l with
  | some (h, t) => (h, t, true)
  | none => (l, [], false) := by
  rcases index_B l with ⟨h1, h2⟩ | ⟨h, t, h1, h2⟩
  · rw [h1, Lib.cut, h2]
    rfl
  · rw [h1, Lib.cut, h2, cutB_some h1, if_pos (by omega)]
    simp

/-- What stands ahead of the command, and the command's text. -/
def headS (l : List UInt8) : Option (Int × Int × List UInt8) := match cutC l with
  | none => none
  | some (h, t) => match headR h with
    | none => none
    | some (v, u) => some (v, u, t)
theorem parseR_none {s : List UInt8} (hs : s.length ≤ 60000) (h : headS s = none) : parseR s = (zeroR, 1) := by
  unfold parseR
  unfold headS at h
  rw [if_neg (by omega)]
  cases hc : cutC s with
  | none => rfl
  | some p =>
    obtain ⟨a, t⟩ := p
    rw [hc] at h
    simp only at h ⊢
    cases hh : headR a with
    | none => rfl
    | some q => rw [hh] at h; cases h
theorem parseR_some {s t : List UInt8} {v u : Int} (hs : s.length ≤ 60000) (h : headS s = some (v, u, t)) : parseR s = if (parseC ⟨t.toArray⟩).2 ≠ 0 then (zeroR, (parseC ⟨t.toArray⟩).2)
    else if checkR ⟨v, u, (parseC ⟨t.toArray⟩).1⟩ ≠ 0 then (zeroR, checkR ⟨v, u, (parseC ⟨t.toArray⟩).1⟩) else (⟨v, u, (parseC ⟨t.toArray⟩).1⟩, 0) := by
  unfold parseR
  unfold headS at h
  rw [if_neg (by omega)]
  cases hc : cutC s with
  | none => rw [hc] at h; cases h
  | some p =>
    obtain ⟨a, t'⟩ := p
    rw [hc] at h
    simp only at h ⊢
    cases hh : headR a with
    | none => rw [hh] at h; cases h
    | some q =>
      obtain ⟨v', u'⟩ := q
      rw [hh] at h
      simp at h
      obtain ⟨rfl, rfl, rfl⟩ := h
      rfl
/-- Pieces of a text that is put together. -/
theorem cat_ok (S1 S2 T : ByteArray) (h1 : S1.size ≤ 1000) (h2 : S2.size ≤ 1000) (h3 : T.size ≤ 1000) :
    ¬ (S1.size + (⟨#[32]⟩ : ByteArray).size > 9223372036854775807) ∧ ¬ ((S1 ++ ⟨#[32]⟩).size + S2.size > 9223372036854775807) ∧ ¬ ((S1 ++ ⟨#[32]⟩ ++ S2).size + (⟨#[58, 32]⟩ : ByteArray).size > 9223372036854775807) ∧ ¬ ((S1 ++ ⟨#[32]⟩ ++ S2 ++ ⟨#[58, 32]⟩).size + T.size > 9223372036854775807) := by
  have e1 : (⟨#[32]⟩ : ByteArray).size = 1 := rfl
  have e2 : (⟨#[58, 32]⟩ : ByteArray).size = 2 := rfl
  simp only [ByteArray.size_append, e1, e2]
  omega
theorem cat_ok2 (S1 S2 T : ByteArray) (h1 : S1.size ≤ 1000) (h2 : S2.size ≤ 1000) (h3 : T.size ≤ 1000) :
    ¬ (9223372036854775807 < S1.size + 1) ∧ ¬ (9223372036854775807 < S1.size + 1 + S2.size) ∧ ¬ (9223372036854775807 < S1.size + 1 + S2.size + 2) ∧ ¬ (9223372036854775807 < S1.size + 1 + S2.size + 2 + T.size) := by omega
theorem cat_eq (r : PR) : itoaB r.w ++ ⟨#[32]⟩ ++ itoaB r.s ++ ⟨#[58, 32]⟩ ++ ⟨(textC r.c).toArray⟩ = ⟨(textR r).toArray⟩ := by
  rw [show (⟨#[32]⟩ : ByteArray) = ⟨([32] : List UInt8).toArray⟩ from rfl, show (⟨#[58, 32]⟩ : ByteArray) = ⟨([58, 32] : List UInt8).toArray⟩ from rfl]
  unfold itoaB textR
  rw [mk_append, mk_append, mk_append, mk_append]
  simp
theorem itoaB_size {v : Int} (h0 : 0 ≤ v) (h1 : v ≤ 999) : (itoaB v).size ≤ 1000 := by
  have := itoa_len h0 h1
  rw [Lib.size_eq]
  simp [itoaB]
  omega
theorem textB_size {b : PC} (h : checkC b = 0) : (⟨(textC b).toArray⟩ : ByteArray).size ≤ 1000 := by
  have := textC_len h
  rw [Lib.size_eq]
  simp
  omega

end Go.Proofs.YtenmamcaldabdaaGreatDoor
