/- The contract of cmd.Check; no condition but that the data reads as a list and the package's table is as its text lays it. -/
import Derived.Test.YtklabieacbbbfaaDoorNU2
import Derived.Test.YtklabieacbbbfaaDoorNU1
import Derived.Deep.Strs
namespace Go.Proofs.YtklabieacbbbfaaDoor
open Go.RowKit
set_option linter.unusedVariables false
set_option maxRecDepth 100000
set_option linter.unusedSimpArgs false

theorem cmdContainsFunc_three (g : Nat) (x y z : Int) (w : World) (h0 : w.cell? ⟨g, 0, none⟩ = some (.int .i64 x)) (h1 : w.cell? ⟨g, 1, none⟩ = some (.int .i64 y)) (h2 : w.cell? ⟨g, 2, none⟩ = some (.int .i64 z)) :
    Calls Tryd.prog 37 #[.slice (some ⟨g, 0, none⟩) 3 3, .func (Fn.func 38) #[] #[]] w
      fun e w' => e = .returned (.bool ([x, y, z].any (outB 0 999))) ∧ w' = w := by
  have HI := hide (cmdIndexFunc_some g 0 3 3 [x, y, z] w rfl (by decide) (fun i hi => by
    rcases (by omega : i = 0 ∨ i = 1 ∨ i = 2) with rfl | rfl | rfl <;> assumption))
  go_enter Tryd.func37, Tryd.ntmps37
  go_wp2_with fail
  refine HI.out.mono ?_
  rintro e w' ⟨⟨r, rfl, hr⟩, rfl⟩
  have HR := hide hr
  clear hr
  go_wp2
  go_ret
  exact ⟨ret_bool HR.out, rfl⟩

theorem checkC_fits (k z n t : Int) (d : List Int) : checkC ⟨k, z, n, t, d⟩ = if outB 1 12 k then 4 else if fitsC z t n d (hasZ k) (hasA k) (hasN k) (hasD k) = false then 4 else if 8 < d.length then 2 else if [z, t, n].any (outB 0 999) || d.any (outB 0 999) then 3 else 0 := by
  unfold checkC fitsC
  dsimp only
  split
  · rfl
  · rename_i ho
    cases hz : hasZ k <;> cases ha : hasA k <;> cases hn : hasN k <;> cases hd : hasD k <;> by_cases hzz : z = 0 <;> by_cases htt : t = 0 <;> by_cases hnn : n = 0 <;> by_cases hdd : d = [] <;> simp [hzz, htt, hnn, hdd, or_assoc]

set_option maxRecDepth 100000 in
set_option maxHeartbeats 4000000 in
theorem Check_out (a : Option Addr) (m c : Nat) (k z n t : Int) (d : List Int) (w : World) (h : Ints w a m c d) (hk : outB 1 12 k = true) :
    Calls Tryd.prog 16 #[cmdV a m c ⟨k, z, n, t, d⟩] w fun e w' => e = .returned (.int .i64 (checkC ⟨k, z, n, t, d⟩)) ∧ Below w.heap.size w w' := by
  unfold cmdV
  have HK : Hid (checkC ⟨k, z, n, t, d⟩ = 4) := hide (by rw [checkC_fits, if_pos hk])
  by_cases h1 : k < 1
  · clear hk
    go_enter Tryd.func16, Tryd.ntmps16
    go_wp2
    go_ret
    exact ⟨ret_int HK.out.symm, by (repeat first | exact bel0 | assumption | refine bel1 ?_ | refine bel2 ?_ | refine bel3 ?_ | refine belowT ?_ (by assumption) | refine bel5 ?_ (by simp; try omega))⟩
  · have h2 : 13 ≤ k := by simp [outB] at hk; omega
    clear hk
    go_enter Tryd.func16, Tryd.ntmps16
    go_wp2
    go_ret
    exact ⟨ret_int HK.out.symm, by (repeat first | exact bel0 | assumption | refine bel1 ?_ | refine bel2 ?_ | refine bel3 ?_ | refine belowT ?_ (by assumption) | refine bel5 ?_ (by simp; try omega))⟩

set_option maxRecDepth 100000 in
set_option maxHeartbeats 4000000 in
theorem Check_in (a : Option Addr) (m c : Nat) (k : Nat) (z n t : Int) (d : List Int) (w : World) (hS : Shapes w) (h : Ints w a m c d) (hk1 : 1 ≤ k) (hk2 : k ≤ 12) :
    Calls Tryd.prog 16 #[cmdV a m c ⟨k, z, n, t, d⟩] w fun e w' => e = .returned (.int .i64 (checkC ⟨k, z, n, t, d⟩)) ∧ Below w.heap.size w w' := by
  have hlen := h.len
  have hmax := h.max
  have hle := h.le
  have s1 := hS.hz k hk2
  have s2 : w.cell? ⟨0, k * 5 + 1 + 1, none⟩ = some (.bool (hasA k)) := hS.ha k hk2
  have s3 : w.cell? ⟨0, k * 5 + 1 + 2, none⟩ = some (.bool (hasN k)) := hS.hn k hk2
  have s4 : w.cell? ⟨0, k * 5 + 1 + 3, none⟩ = some (.bool (hasD k)) := hS.hd k hk2
  have HF := fun hz ha hn hd w' h' => cmdFits_c a m c k z n t d hz ha hn hd w' h'
  have HK : Hid (checkC ⟨k, z, n, t, d⟩ = if fitsC z t n d (hasZ k) (hasA k) (hasN k) (hasD k) = false then 4 else if 8 < d.length then 2 else if [z, t, n].any (outB 0 999) || d.any (outB 0 999) then 3 else 0) := hide (by rw [checkC_fits, if_neg (by simp [outB]; omega)])
  unfold cmdV at *
  have k1 : (1 : Int) ≤ (k : Int) := by omega
  have k2 : (k : Int) < 13 := by omega
  have k0 : (0 : Int) ≤ (k : Int) := by omega
  clear hS
  generalize hasZ k = hz at *
  generalize hasA k = ha at *
  generalize hasN k = hn at *
  generalize hasD k = hd at *
  replace s1 := fun o => past1 s1 o
  replace s2 := fun o => past1 s2 o
  replace s3 := fun o => past1 s3 o
  replace s4 := fun o => past1 s4 o
  go_enter Tryd.func16, Tryd.ntmps16
  go_wp2
  go_region_held3 (fun w' => w'.cell? ⟨w.heap.size, 0, none⟩ = some (.int .i64 k) ∧ w'.cell? ⟨w.heap.size, 1, none⟩ = some (.int .i64 z) ∧ w'.cell? ⟨w.heap.size, 2, none⟩ = some (.int .i64 n) ∧ w'.cell? ⟨w.heap.size, 3, none⟩ = some (.int .i64 t) ∧ w'.cell? ⟨w.heap.size, 4, none⟩ = some (.slice a m c) ∧ w'.cell? ⟨0, k * 5 + 1, none⟩ = some (.bool hz) ∧ w'.cell? ⟨0, k * 5 + 1 + 1, none⟩ = some (.bool ha) ∧ w'.cell? ⟨0, k * 5 + 1 + 2, none⟩ = some (.bool hn) ∧ w'.cell? ⟨0, k * 5 + 1 + 3, none⟩ = some (.bool hd)) ((first | (go_simp; done) | (simp [*, World.cell?_alloc_at, World.cell?_alloc_past, World.cell?_alloc_some, World.cell?_setCell_far]; done))) (first | (go_at_call 35; refine (HF _ _ _ _ _ (by refine Ints.below h (B := w.heap.size) ?_ (Nat.le_refl _); (repeat first | exact bel0 | assumption | refine bel1 ?_ | refine bel2 ?_ | refine bel3 ?_ | refine belowT ?_ (by assumption) | refine bel5 ?_ (by simp; try omega)))).mono ?_; rintro e w9 ⟨rfl, hb9⟩; (have f0 := keepc hb9 (p := ⟨w.heap.size, 0, none⟩) (u := .int .i64 k) (by (first | (go_simp; done) | (simp [*, World.cell?_alloc_at, World.cell?_alloc_past, World.cell?_alloc_some, World.cell?_setCell_far]; done)))); (have f1 := keepc hb9 (p := ⟨w.heap.size, 1, none⟩) (u := .int .i64 z) (by (first | (go_simp; done) | (simp [*, World.cell?_alloc_at, World.cell?_alloc_past, World.cell?_alloc_some, World.cell?_setCell_far]; done)))); (have f2 := keepc hb9 (p := ⟨w.heap.size, 2, none⟩) (u := .int .i64 n) (by (first | (go_simp; done) | (simp [*, World.cell?_alloc_at, World.cell?_alloc_past, World.cell?_alloc_some, World.cell?_setCell_far]; done)))); (have f3 := keepc hb9 (p := ⟨w.heap.size, 3, none⟩) (u := .int .i64 t) (by (first | (go_simp; done) | (simp [*, World.cell?_alloc_at, World.cell?_alloc_past, World.cell?_alloc_some, World.cell?_setCell_far]; done)))); (have f4 := keepc hb9 (p := ⟨w.heap.size, 4, none⟩) (u := .slice a m c) (by (first | (go_simp; done) | (simp [*, World.cell?_alloc_at, World.cell?_alloc_past, World.cell?_alloc_some, World.cell?_setCell_far]; done)))); (have f5 := keepc hb9 (p := ⟨0, k * 5 + 1, none⟩) (u := .bool hz) (by (first | (go_simp; done) | (simp [*, World.cell?_alloc_at, World.cell?_alloc_past, World.cell?_alloc_some, World.cell?_setCell_far]; done)))); (have f6 := keepc hb9 (p := ⟨0, k * 5 + 1 + 1, none⟩) (u := .bool ha) (by (first | (go_simp; done) | (simp [*, World.cell?_alloc_at, World.cell?_alloc_past, World.cell?_alloc_some, World.cell?_setCell_far]; done)))); (have f7 := keepc hb9 (p := ⟨0, k * 5 + 1 + 2, none⟩) (u := .bool hn) (by (first | (go_simp; done) | (simp [*, World.cell?_alloc_at, World.cell?_alloc_past, World.cell?_alloc_some, World.cell?_setCell_far]; done)))); (have f8 := keepc hb9 (p := ⟨0, k * 5 + 1 + 3, none⟩) (u := .bool hd) (by (first | (go_simp; done) | (simp [*, World.cell?_alloc_at, World.cell?_alloc_past, World.cell?_alloc_some, World.cell?_setCell_far]; done))))))
  have bw : Below w.heap.size w w9 := by (repeat first | exact bel0 | assumption | refine bel1 ?_ | refine bel2 ?_ | refine bel3 ?_ | refine belowT ?_ (by assumption) | refine bel5 ?_ (by simp; try omega))
  replace h := h.below bw (Nat.le_refl _)
  clear hb9 f5 f6 f7 f8 s1 s2 s3 s4 HF
  cases hf : fitsC z t n d hz ha hn hd
  · go_wp2
    go_ret
    exact ⟨ret_int (by rw [HK.out, hf]; rfl), bw⟩
  · by_cases h8 : 8 < m
    · have h8' : (8 : Int) < (m : Int) := by omega
      go_wp2
      go_ret
      exact ⟨ret_int (by rw [HK.out, hf, hlen, if_neg (by simp), if_pos h8]), bw⟩
    · have h8' : ¬ (8 : Int) < (m : Int) := by omega
      go_wp2_with fail
      refine (singles_c _ _ _ _ _ _ _ _).mono ?_
      rintro e w1 ⟨rfl, hb1⟩
      replace bw : Below w.heap.size w w1 := by (repeat first | exact bel0 | assumption | refine bel1 ?_ | refine bel2 ?_ | refine bel3 ?_ | refine belowT ?_ (by assumption) | refine bel5 ?_ (by simp; try omega))
      replace h := h.below hb1 (Nat.le_refl _)
      have b4 := fun o => past1 (keepc hb1 f4) o
      clear hb1 f0 f1 f2 f3 f4
      have H3 := fun w' h0 h1 h2 => cmdContainsFunc_three w1.heap.size z t n w' h0 h1 h2
      generalize [z, t, n].any (outB 0 999) = b3 at HK H3
      go_wp2_with fail
      refine (H3 _ (by go_simp) (by go_simp) (by go_simp)).mono ?_
      rintro e w' ⟨rfl, rfl⟩
      cases b3
      · go_wp2_with fail
        refine (cmdContainsFunc_c a m c d _ (by refine Ints.below h (B := w1.heap.size) ?_ (Nat.le_refl _); (repeat first | exact bel0 | assumption | refine bel1 ?_ | refine bel2 ?_ | refine bel3 ?_ | refine belowT ?_ (by assumption) | refine bel5 ?_ (by simp; try omega)))).mono ?_
        rintro e w' ⟨rfl, rfl⟩
        cases hda : d.any (outB 0 999)
        all_goals
          go_wp2
          go_ret
          exact ⟨ret_int (by rw [HK.out, hf, hlen, if_neg (by simp), if_neg h8, hda]; rfl), by (repeat first | exact bel0 | assumption | refine bel1 ?_ | refine bel2 ?_ | refine bel3 ?_ | refine belowT ?_ (by assumption) | refine bel5 ?_ (by simp; try omega))⟩
      · go_wp2
        go_ret
        exact ⟨ret_int (by rw [HK.out, hf, hlen, if_neg (by simp), if_neg h8]; rfl), by (repeat first | exact bel0 | assumption | refine bel1 ?_ | refine bel2 ?_ | refine bel3 ?_ | refine belowT ?_ (by assumption) | refine bel5 ?_ (by simp; try omega))⟩

theorem cmdCheck_c (a : Option Addr) (m c : Nat) (b : PC) (w : World) (hS : Shapes w) (h : Ints w a m c b.d) :
    Calls Tryd.prog 16 #[cmdV a m c b] w fun e w' => e = .returned (.int .i64 (checkC b)) ∧ Below w.heap.size w w' := by
  obtain ⟨k, z, n, t, d⟩ := b
  cases hk : outB 1 12 k
  · obtain ⟨i, rfl⟩ : ∃ i : Nat, k = i := ⟨k.toNat, by simp [outB] at hk; omega⟩
    simp [outB] at hk
    exact Check_in a m c i z n t d w hS h (by omega) (by omega)
  · exact Check_out a m c k z n t d w h hk

end Go.Proofs.YtklabieacbbbfaaDoor

/- A block's cells, and worlds that part at one block alone; plain mathematics, no condition. -/
namespace Go.Proofs.YtklabieacbbbfaaDoor
open Go.RowKit
set_option linter.unusedVariables false
set_option maxRecDepth 100000
set_option linter.unusedSimpArgs false

/-- w' is w, but that block g may hold other cells, and there may be more memory. -/
structure But (g : Nat) (w w' : World) : Prop where
  low : Below g w w'
  size : w.heap.size ≤ w'.heap.size
  cell : ∀ q : Addr, q.block < w.heap.size → q.block ≠ g → w'.cell? q = w.cell? q

theorem But.refl (g : Nat) (w : World) : But g w w := ⟨Below.refl _ _, Nat.le_refl _, fun _ _ _ => rfl⟩
theorem But.trans {g : Nat} {a b c : World} (h : But g a b) (k : But g b c) : But g a c :=
  ⟨h.low.trans k.low, Nat.le_trans h.size k.size, fun q hq hg => by rw [k.cell q (Nat.lt_of_lt_of_le hq h.size) hg, h.cell q hq hg]⟩
theorem But.of_below {g : Nat} {w w' : World} (h : Below w.heap.size w w') (hg : g ≤ w.heap.size) : But g w w' :=
  ⟨h.mono hg, h.size, fun q hq _ => h.cell hq⟩
theorem But.of_put {g j : Nat} {w w' : World} {v : Value} (h : Put w w' ⟨g, j, none⟩ v) : But g w w' :=
  ⟨h.below, Nat.le_of_eq h.size.symm, fun q _ hg => h.other q (fun e => hg (by rw [e]))⟩
theorem Ints.but {w w' : World} {g : Nat} {a : Option Addr} {n c : Nat} {l : List Int} (h : Ints w a n c l) (hb : But g w w') (hne : n = 0 ∨ ∀ x, a = some x → x.block ≠ g) : Ints w' a n c l := by
  refine ⟨h.len, h.le, h.max, h.nil, ?_, h.wf⟩
  rcases hne with h0 | hne
  · exact .inl h0
  · rcases h.row with h0 | ⟨b, off, ha, hlt, hc⟩
    · exact .inl h0
    · refine .inr ⟨b, off, ha, Nat.lt_of_lt_of_le hlt hb.size, fun i hi => ?_⟩
      rw [hb.cell ⟨b, off + i, none⟩ hlt (by have := hne _ ha; exact this)]; exact hc i hi

theorem keepb {g : Nat} {w w' : World} (hb : But g w w') {p : Addr} {u : Value} (h : w.cell? p = some u) (hg : p.block ≠ g) : w'.cell? p = some u := by
  rw [hb.cell p (World.block_lt_of_cell? w p h) hg]; exact h

theorem But.step {g : Nat} {w w' : World} (h : But g w w') (j : Nat) (v : Value) : But g w (w'.setCell ⟨g, j, none⟩ v) :=
  ⟨h.low.setCell (Nat.le_refl _) v, by simpa [World.setCell] using h.size, fun q hq hg => by rw [World.cell?_setCell_other _ _ _ _ (fun e => hg (by rw [← e]))]; exact h.cell q hq hg⟩

/-- The cells of a block that may be written. -/
structure Lay (w : World) (B : Nat) (vs : List Value) : Prop where
  cell : ∀ i v, vs[i]? = some v → w.cell? ⟨B, i, none⟩ = some v
  ice : ∀ i, w.frozen? ⟨B, i, none⟩ = false
  lt : B < w.heap.size
theorem Lay.below {w w' : World} {B : Nat} {vs : List Value} (h : Lay w B vs) (hb : Below w.heap.size w w') : Lay w' B vs :=
  ⟨fun i v hv => keepc hb (h.cell i v hv), fun i => by rw [hb.frozen (by exact h.lt)]; exact h.ice i, Nat.lt_of_lt_of_le h.lt hb.size⟩
theorem Lay.made (w : World) (vs : List Value) (t : TypeId) : Lay (w.alloc (.cells vs.toArray t (0, 0))) w.heap.size vs :=
  ⟨fun i v hv => by rw [cell_of_row _ _ _ _ _ _ (heap_new w _)]; simpa using hv, fun i => by unfold World.frozen?; rw [show (w.alloc (.cells vs.toArray t (0, 0))).heap[(⟨w.heap.size, i, none⟩ : Addr).block]? = _ from heap_new w _]; simp, by simp⟩
theorem Lay.drew {w : World} {B : Nat} {vs : List Value} (h : Lay w B vs) : Lay w.drew B vs := ⟨h.cell, h.ice, h.lt⟩
theorem Lay.made1 (w : World) (o : Obj) (vs : List Value) (t : TypeId) : Lay ((w.alloc o).alloc (.cells vs.toArray t (0, 0))) (w.heap.size + 1) vs := by
  have h := Lay.made (w.alloc o) vs t
  simpa only [World.size_alloc] using h
theorem Lay.but {w w' : World} {B g : Nat} {vs : List Value} (h : Lay w B vs) (hb : But g w w') (hi : ∀ q : Addr, q.block < w.heap.size → w'.frozen? q = w.frozen? q) (hg : B ≠ g) : Lay w' B vs :=
  ⟨fun i v hv => keepb hb (h.cell i v hv) hg, fun i => by rw [hi _ h.lt]; exact h.ice i, Nat.lt_of_lt_of_le h.lt hb.size⟩
theorem Lay.set {w : World} {B : Nat} {vs : List Value} (h : Lay w B vs) (i : Nat) (v : Value) : Lay (w.setCell ⟨B, i, none⟩ v) B (vs.set i v) := by
  refine ⟨fun j u hu => ?_, fun j => by rw [World.frozen?_setCell]; exact h.ice j, by simpa [World.setCell] using h.lt⟩
  by_cases e : i = j
  · subst e
    have hi : i < vs.length := by have := (List.getElem?_eq_some_iff.1 hu).1; simpa using this
    rw [List.getElem?_set_self hi] at hu
    cases hu
    exact World.cell?_setCell_same _ _ _ (h.cell i vs[i] (by simp [hi]))
  · rw [List.getElem?_set_ne e] at hu
    rw [World.cell?_setCell_other _ _ _ _ (by simp [e])]
    exact h.cell j u hu
theorem Lay.far {w : World} {B : Nat} {vs : List Value} (h : Lay w B vs) (p : Addr) (v : Value) (hp : p.block ≠ B) : Lay (w.setCell p v) B vs :=
  ⟨fun i u hu => by rw [World.cell?_setCell_other _ _ _ _ (fun e => hp (by rw [e]))]; exact h.cell i u hu, fun i => by rw [World.frozen?_setCell]; exact h.ice i, by simpa [World.setCell] using h.lt⟩

theorem Ints.offs {w : World} {a : Option Addr} {n c : Nat} {l : List Int} (h : Ints w a n c l) {R : Nat} (hR : w.heap.size ≤ R) : n = 0 ∨ ∀ x, a = some x → x.block ≠ R := by
  rcases h.row with h0 | ⟨b, off, ha, hlt, _⟩
  · exact .inl h0
  · exact .inr fun x e => by rw [ha] at e; cases e; simp; omega
/-- w' is w, but that block g may hold other cells, and there may be more memory; what may be written may be as before. -/
structure ButI (g : Nat) (w w' : World) : Prop where
  but : But g w w'
  ice : ∀ q : Addr, q.block < w.heap.size → w'.frozen? q = w.frozen? q
theorem ButI.refl (g : Nat) (w : World) : ButI g w w := ⟨But.refl g w, fun _ _ => rfl⟩
theorem ButI.trans {g : Nat} {a b c : World} (h : ButI g a b) (k : ButI g b c) : ButI g a c := ⟨h.but.trans k.but, fun q hq => by rw [k.ice q (Nat.lt_of_lt_of_le hq h.but.size), h.ice q hq]⟩
theorem ButI.step {g : Nat} {w w' : World} (h : ButI g w w') (j : Nat) (v : Value) : ButI g w (w'.setCell ⟨g, j, none⟩ v) := ⟨h.but.step j v, fun q hq => by rw [World.frozen?_setCell]; exact h.ice q hq⟩
theorem ButI.of_below {g : Nat} {w w' : World} (h : Below w.heap.size w w') (hg : g ≤ w.heap.size) : ButI g w w' := ⟨But.of_below h hg, fun q hq => h.frozen hq⟩
/-- A block that was not there changed: nothing that was there did. -/
theorem ButI.below {g : Nat} {w w' : World} (h : ButI g w w') {B : Nat} (hB : B ≤ g) : Below B w w' := h.but.low.mono hB
theorem Lay.butI {w w' : World} {B g : Nat} {vs : List Value} (h : Lay w B vs) (hb : ButI g w w') (hg : B ≠ g) : Lay w' B vs := h.but hb.but hb.ice hg
/-- A block of the call's own changed last: seen from where the call began, only g did. -/
theorem ButI.own {g R : Nat} {w a b : World} (h : ButI g w a) (k : ButI R a b) (hR : w.heap.size ≤ R) (hg : g ≤ w.heap.size) : ButI g w b := by
  refine ⟨⟨h.but.low.trans (k.but.low.mono (by omega)), Nat.le_trans h.but.size k.but.size, fun q hq hne => ?_⟩, fun q hq => ?_⟩
  · rw [k.but.cell q (Nat.lt_of_lt_of_le hq h.but.size) (by omega), h.but.cell q hq hne]
  · rw [k.ice q (Nat.lt_of_lt_of_le hq h.but.size), h.ice q hq]


end Go.Proofs.YtklabieacbbbfaaDoor

/- Records' values, and the contracts of note.Check and note.Same; no condition but that the arguments read as data, and the package-level variables are as their texts lay them. -/
namespace Go.Proofs.YtklabieacbbbfaaDoor
open Go.RowKit
set_option linter.unusedVariables false
set_option maxRecDepth 100000
set_option linter.unusedSimpArgs false

/-- A record's value. -/
structure RV where
  p : PR
  a : Option Addr
  n : Nat
  c : Nat
def RV.v (x : RV) : Value := .agg #[.int .i64 x.p.w, .int .i64 x.p.s, .int .i64 x.p.c.k, .int .i64 x.p.c.z, .int .i64 x.p.c.n, .int .i64 x.p.c.at', .slice x.a x.n x.c]
def RV.ok (w : World) (x : RV) : Prop := Ints w x.a x.n x.c x.p.c.d
def RV.zero : RV := ⟨zeroR, none, 0, 0⟩
theorem RV.ok.below {w w' : World} {x : RV} (h : x.ok w) {B : Nat} (hb : Below B w w') (hB : w.heap.size ≤ B) : x.ok w' := Ints.below h hb hB
theorem RV.zero_ok (w : World) : RV.zero.ok w := Ints.nilSlice w
def RV.off (R : Nat) (x : RV) : Prop := x.n = 0 ∨ ∀ y, x.a = some y → y.block ≠ R
theorem RV.ok.but {w w' : World} {g : Nat} {x : RV} (h : x.ok w) (hb : But g w w') (ho : x.off g) : x.ok w' := Ints.but h hb ho
theorem RV.ok.off {w : World} {x : RV} (h : x.ok w) {R : Nat} (hR : w.heap.size ≤ R) : x.off R := Ints.offs h hR
def RV.cells (x : RV) : List Value := [.int .i64 x.p.w, .int .i64 x.p.s, .int .i64 x.p.c.k, .int .i64 x.p.c.z, .int .i64 x.p.c.n, .int .i64 x.p.c.at', .slice x.a x.n x.c]

end Go.Proofs.YtklabieacbbbfaaDoor

/- How the arguments of the laws read: a record; no condition. -/
namespace Go.Proofs.YtklabieacbbbfaaDoor
open Go.ChangeShapes Go.WideShapes Go.ChangeAt Go.RowKit Go.Joins Go.ChangeMaps
set_option linter.unusedVariables false
set_option maxRecDepth 100000
set_option linter.unusedSimpArgs false

set_option maxRecDepth 100000 in
/-- The cells of a command, read. -/
theorem cmd_of {H : Type} {enc : TypeId × Value → H} {W : World} {fuel : Nat} {cs : List Value} {y : DataW H × List MemPlace}
    (h : DataW.trod enc Tryd.prog W 0 (fun _ => true) true fuel 24 cs = some y) : ∃ a n c, ∃ b : PC, cs = [.int .i64 b.k, .int .i64 b.z, .int .i64 b.n, .int .i64 b.at', .slice a n c] ∧ Ints W a n c b.d := by
  obtain ⟨xs, n, _, _, hl, hlen, hfs⟩ := DataW.trod_struct Tryd.underlying24 h
  rw [cellsCmd] at hl
  obtain ⟨v0, v1, v2, v3, v4, rfl⟩ := list5 hl
  obtain ⟨y0, y1, y2, y3, y4, rfl⟩ := list5 hlen
  have g0 := hfs 0 _ rfl
  have g1 := hfs 1 _ rfl
  have g2 := hfs 2 _ rfl
  have g3 := hfs 3 _ rfl
  have g4 := hfs 4 _ rfl
  have c3 : Tryd.prog.cellsOf 3 = 1 := by kernel_rfl
  have c22 : Tryd.prog.cellsOf 22 = 1 := by kernel_rfl
  simp [c3, c22] at g0 g1 g2 g3 g4
  obtain ⟨k, e0, _, _⟩ := DataW.trod_int Tryd.underlying3 g0
  obtain ⟨z, e1, _, _⟩ := DataW.trod_int Tryd.underlying3 g1
  obtain ⟨nn, e2, _, _⟩ := DataW.trod_int Tryd.underlying3 g2
  obtain ⟨t, e3, _, _⟩ := DataW.trod_int Tryd.underlying3 g3
  simp at e0 e1 e2 e3
  subst e0 e1 e2 e3
  obtain ⟨a, n, c, l, rfl, hi⟩ := ints_of g4
  exact ⟨a, n, c, ⟨k, z, nn, t, l⟩, rfl, hi⟩

end Go.Proofs.YtklabieacbbbfaaDoor

/- Lists of commands in memory; plain mathematics, no condition. -/
namespace Go.Proofs.YtklabieacbbbfaaDoor
open Go.RowKit
set_option linter.unusedVariables false
set_option maxRecDepth 100000
set_option linter.unusedSimpArgs false

/-- A command's value. -/
structure BV where
  p : PC
  a : Option Addr
  n : Nat
  c : Nat
def BV.cells (x : BV) : List Value := [.int .i64 x.p.k, .int .i64 x.p.z, .int .i64 x.p.n, .int .i64 x.p.at', .slice x.a x.n x.c]
def BV.ok (w : World) (x : BV) : Prop := Ints w x.a x.n x.c x.p.d
def BV.zero : BV := ⟨zeroC, none, 0, 0⟩
theorem BV.ok.below {w w' : World} {x : BV} (h : x.ok w) {B : Nat} (hb : Below B w w') (hB : w.heap.size ≤ B) : x.ok w' := Ints.below h hb hB
/-- A slice value's commands. -/
structure Cmds (w : World) (a : Option Addr) (n c : Nat) (X : List BV) : Prop where
  len : X.length = n
  le : n ≤ c
  max : c ≤ 9223372036854775807
  nil : a = none → c = 0
  row : n = 0 ∨ ∃ b off, a = some ⟨b, off, none⟩ ∧ b < w.heap.size ∧ ∀ i x, X[i]? = some x → ∀ j v, x.cells[j]? = some v → w.cell? ⟨b, off + i * 5 + j, none⟩ = some v
  ok : ∀ x ∈ X, x.ok w
theorem Cmds.nilSlice (w : World) : Cmds w none 0 0 [] := ⟨rfl, Nat.le_refl _, by omega, fun _ => rfl, .inl rfl, by simp⟩
theorem Cmds.at {w : World} {a : Option Addr} {n c : Nat} {X : List BV} (h : Cmds w a n c X) {i : Nat} (hi : i < n) : ∃ b off x, a = some ⟨b, off, none⟩ ∧ X[i]? = some x ∧ x.ok w ∧ b < w.heap.size ∧ ∀ j v, x.cells[j]? = some v → w.cell? ⟨b, off + i * 5 + j, none⟩ = some v := by
  obtain ⟨b, off, e, hlt, hc⟩ := h.row.resolve_left (by omega)
  obtain ⟨x, hx⟩ : ∃ x, X[i]? = some x := ⟨_, List.getElem?_eq_getElem (by rw [h.len]; exact hi)⟩
  exact ⟨b, off, x, e, hx, h.ok x (List.mem_of_getElem? hx), hlt, hc i x hx⟩

end Go.Proofs.YtklabieacbbbfaaDoor

/- Plain facts on the zone's functions: a zone that was written is one; a piece that is written is read; no Go here. -/
namespace Go.Proofs.YtklabieacbbbfaaDoor
open Go.RowKit
set_option linter.unusedVariables false
set_option maxRecDepth 100000
set_option linter.unusedSimpArgs false

end Go.Proofs.YtklabieacbbbfaaDoor

/- Plain laws of the yard: what is answered is right zones, and keeps what is written; no Go here. -/
namespace Go.Proofs.YtklabieacbbbfaaDoor
open Go.RowKit
set_option linter.unusedVariables false
set_option maxRecDepth 100000
set_option linter.unusedSimpArgs false

/-- Each zone's blocks are those that it had, or more behind them; only zone j may have more. -/
def Keeps (P Q : List PZ) (j : Nat) (more : Bool) : Prop :=
  Q.length = P.length ∧ ∀ (i : Nat) (y z : PZ), P[i]? = some y → Q[i]? = some z → (∃ r, z.2 = y.2 ++ r ∧ (r ≠ [] → i = j ∧ more = true))

theorem Keeps.set {P Q : List PZ} (hl : Q.length = P.length) (hk : ∀ (i : Nat) (y z : PZ), P[i]? = some y → Q[i]? = some z → z.2 = y.2) {j : Nat} {y z : PZ} (hy : P[j]? = some y) {more : Bool} {r : List Int} (hz : z.2 = y.2 ++ r) (hr : r ≠ [] → more = true) : Keeps P (Q.set j z) j more := by
  refine ⟨by simp [hl], fun i u v hu hv => ?_⟩
  by_cases e : j = i
  · subst e
    rw [hy] at hu
    cases hu
    have hj : j < Q.length := by rw [hl]; exact (List.getElem?_eq_some_iff.1 hy).1
    rw [List.getElem?_set_self hj] at hv
    cases hv
    exact ⟨r, hz, fun h => ⟨rfl, hr h⟩⟩
  · rw [List.getElem?_set_ne e] at hv
    exact ⟨[], by simp [hk i u v hu hv], fun h => absurd rfl h⟩

end Go.Proofs.YtklabieacbbbfaaDoor

/- What comes of reserving and registering, plain; no condition. -/
namespace Go.Proofs.YtklabieacbbbfaaDoor
open Go.RowKit
set_option linter.unusedVariables false
set_option maxRecDepth 100000
set_option linter.unusedSimpArgs false

end Go.Proofs.YtklabieacbbbfaaDoor

/- A right book stays right, whatever is done, and nobody but by Preempt and Clear takes it from the holder: plain; no condition. -/
namespace Go.Proofs.YtklabieacbbbfaaDoor
open Go.RowKit
set_option linter.unusedVariables false
set_option maxRecDepth 100000
set_option linter.unusedSimpArgs false

end Go.Proofs.YtklabieacbbbfaaDoor

/- A right desk stays right, an answer is a right one, who may not write changes no zone, what was written is read where it was told: plain; no condition. -/
namespace Go.Proofs.YtklabieacbbbfaaDoor
open Go.RowKit
set_option linter.unusedVariables false
set_option maxRecDepth 100000
set_option linter.unusedSimpArgs false

/-- What is known of a right command. -/
theorem cmd_facts {c : PC} (h : checkC c = 0) : (1 ≤ c.k ∧ c.k ≤ 12) ∧ (0 ≤ c.z ∧ c.z ≤ 999) ∧ (0 ≤ c.at' ∧ c.at' ≤ 999) ∧ (0 ≤ c.n ∧ c.n ≤ 999) ∧ c.d.length ≤ 8 ∧ c.d.any (outB 0 999) = false ∧ (hasD c.k = true ↔ c.d ≠ []) := by
  unfold checkC at h
  split at h
  · omega
  · rename_i h1
    split at h
    · omega
    · split at h
      · omega
      · rename_i h3
        split at h
        · omega
        · rename_i h4
          split at h
          · omega
          · rename_i h5
            simp only [not_or, Bool.not_eq_true] at h5
            refine ⟨?_, ?_, ?_, ?_, by omega, h5.2.2.2, ?_⟩
            · simp [outB] at h1; omega
            · have := h5.1; simp [outB] at this; omega
            · have := h5.2.1; simp [outB] at this; omega
            · have := h5.2.2.1; simp [outB] at this; omega
            · cases hd : hasD c.k <;> by_cases e : c.d = [] <;> simp_all

end Go.Proofs.YtklabieacbbbfaaDoor

/- Hands as plain data, and what the document's calls make of them; plain mathematics, no condition. -/
namespace Go.Proofs.YtklabieacbbbfaaDoor
open Go.RowKit
set_option linter.unusedVariables false
set_option maxRecDepth 100000
set_option linter.unusedSimpArgs false

/-- A hand: its last command's number, whether it waits, for what, all answers that it got. -/
structure PN where
  s : Int
  w : Bool
  c : PC
  g : List PA
def zeroN : PN := ⟨0, false, zeroC, []⟩
def firstA : List PA → Int
  | [] => 0
  | a :: l => if checkA a ≠ 0 then checkA a else firstA l
def formN (h : PN) : Bool := if h.w then decide (h.s = h.g.length + 1) else decide (h.s = h.g.length) && sameC h.c zeroC
def checkN (h : PN) : Int := if inB h.s 0 40 = false then 3 else if firstA h.g ≠ 0 then firstA h.g else if formN h = false then 4 else if h.w then checkC h.c else 0
def sameAs : List PA → List PA → Bool
  | [], [] => true
  | a :: l, b :: m => sameA a b && sameAs l m
  | [], _ :: _ => false
  | _ :: _, [] => false
def sameN (a b : PN) : Bool := decide (a.s = b.s) && (a.w == b.w) && sameC a.c b.c && sameAs a.g b.g
def askN (h : PN) (c : PC) : PN × Int :=
  if checkN h ≠ 0 then (zeroN, checkN h) else if checkC c ≠ 0 then (zeroN, checkC c) else if h.w then (zeroN, 6) else if 40 ≤ h.s then (zeroN, 2) else (⟨h.s + 1, true, c, h.g⟩, 0)
def hearN (h : PN) (q : Int) (a : PA) : PN × Int :=
  if checkN h ≠ 0 then (zeroN, checkN h) else if checkA a ≠ 0 then (zeroN, checkA a) else if h.w = false ∨ h.s ≠ q then (h, 0) else (⟨q, false, zeroC, h.g ++ [a]⟩, 0)

theorem sameAs_iff : ∀ l m : List PA, sameAs l m = true ↔ l = m
  | [], [] => by simp [sameAs]
  | x :: l, y :: m => by simp [sameAs, sameA_iff, sameAs_iff l m]
  | [], y :: m => by simp [sameAs]
  | x :: l, [] => by simp [sameAs]
theorem sameAs_t {A B : List PA} (h : A = B) : sameAs A B = true := (sameAs_iff A B).2 h
theorem sameAs_f {A B : List PA} (h : A ≠ B) : sameAs A B = false := by
  cases e : sameAs A B with
  | false => rfl
  | true => exact absurd ((sameAs_iff A B).1 e) h
theorem firstA_step : ∀ {l : List PA} {k : Nat} {y : PA}, l[k]? = some y → firstA (l.take k) = 0 → checkA y = 0 → firstA (l.take (k + 1)) = 0
  | [], k, y, h, _, _ => by simp at h
  | z :: l, 0, y, h, _, hy => by
    simp at h
    subst h
    simp [firstA, hy]
  | z :: l, k + 1, y, h, h0, hy => by
    simp only [List.take_succ_cons, firstA] at h0 ⊢
    split at h0
    · rename_i q; exact absurd h0 q
    · rename_i q
      rw [if_neg q]
      exact firstA_step (by simpa using h) h0 hy
theorem firstA_at : ∀ {l : List PA} {k : Nat} {y : PA}, l[k]? = some y → firstA (l.take k) = 0 → checkA y ≠ 0 → firstA l = checkA y
  | [], k, y, h, _, _ => by simp at h
  | z :: l, 0, y, h, _, hy => by
    simp at h
    subst h
    simp only [firstA]
    rw [if_pos hy]
  | z :: l, k + 1, y, h, h0, hy => by
    simp only [List.take_succ_cons, firstA] at h0 ⊢
    split at h0
    · rename_i q; exact absurd h0 q
    · rename_i q
      rw [if_neg q]
      exact firstA_at (by simpa using h) h0 hy
theorem sameN_iff (a b : PN) : sameN a b = true ↔ a = b := by
  obtain ⟨s, w, c, g⟩ := a
  obtain ⟨s', w', c', g'⟩ := b
  simp [sameN, sameC_iff, sameAs_iff, and_assoc]
theorem firstA_all : ∀ {l : List PA}, firstA l = 0 → ∀ x ∈ l, checkA x = 0
  | [], _, x, hx => by cases hx
  | y :: l, h, x, hx => by
    simp only [firstA] at h
    split at h
    · rename_i q; exact absurd h q
    · rename_i q
      rcases List.mem_cons.1 hx with rfl | hx
      · simpa using q
      · exact firstA_all h x hx
theorem firstA_of : ∀ {l : List PA}, (∀ x ∈ l, checkA x = 0) → firstA l = 0
  | [], _ => rfl
  | y :: l, h => by
    simp only [firstA]
    rw [if_neg (by simp [h y (by simp)])]
    exact firstA_of (fun x hx => h x (by simp [hx]))
theorem firstA_snoc {l : List PA} {a : PA} (h : firstA l = 0) (ha : checkA a = 0) : firstA (l ++ [a]) = 0 :=
  firstA_of fun x hx => (List.mem_append.1 hx).elim (firstA_all h x) (fun m => by simp at m; rw [m]; exact ha)
theorem checkN_ok {h : PN} (k : checkN h = 0) : (0 ≤ h.s ∧ h.s ≤ 40) ∧ firstA h.g = 0 ∧ formN h = true ∧ (h.w = true → checkC h.c = 0) := by
  unfold checkN at k
  split at k
  · cases k
  · rename_i q1
    split at k
    · rename_i q; exact absurd k q
    · rename_i q2
      split at k
      · cases k
      · rename_i q3
        refine ⟨by simp [inB] at q1; omega, by simpa using q2, by simpa using q3, fun hw => ?_⟩
        rw [if_pos hw] at k
        exact k
theorem checkN_mk {h : PN} (h1 : 0 ≤ h.s ∧ h.s ≤ 40) (h2 : firstA h.g = 0) (h3 : formN h = true) (h4 : h.w = true → checkC h.c = 0) : checkN h = 0 := by
  unfold checkN
  rw [if_neg (by simp [inB]; omega), if_neg (by simp [h2]), if_neg (by simp [h3])]
  split
  · rename_i q; exact h4 q
  · rfl
/-- A hand that may ask asks. -/
theorem ask_ok {h : PN} {c : PC} (hk : checkN h = 0) (hw : h.w = false) (hc : checkC c = 0) (hs : h.s < 40) : askN h c = (⟨h.s + 1, true, c, h.g⟩, 0) ∧ checkN ⟨h.s + 1, true, c, h.g⟩ = 0 := by
  obtain ⟨h1, h2, h3, _⟩ := checkN_ok hk
  refine ⟨?_, checkN_mk (by simp only; omega) h2 ?_ (fun _ => hc)⟩
  · unfold askN
    rw [if_neg (by simp [hk]), if_neg (by simp [hc]), if_neg (by simp [hw]), if_neg (by omega)]
  · simp only [formN, hw, Bool.false_eq_true, if_false, Bool.and_eq_true, decide_eq_true_eq] at h3
    simp only [formN, if_true, decide_eq_true_eq]
    omega
/-- When Ask answers without an error. -/
theorem ask_some {h : PN} {c : PC} (k : (askN h c).2 = 0) : checkN h = 0 ∧ checkC c = 0 ∧ h.w = false ∧ h.s < 40 := by
  unfold askN at k
  split at k
  · rename_i q; exact absurd k q
  · rename_i q1
    split at k
    · rename_i q; exact absurd k q
    · rename_i q2
      split at k
      · cases k
      · rename_i q3
        split at k
        · cases k
        · rename_i q4
          exact ⟨by simpa using q1, by simpa using q2, by simpa using q3, by omega⟩
/-- A hand that waits hears what it waits for. -/
theorem hear_ok {h : PN} {a : PA} (hk : checkN h = 0) (hw : h.w = true) (ha : checkA a = 0) : hearN h h.s a = (⟨h.s, false, zeroC, h.g ++ [a]⟩, 0) ∧ checkN ⟨h.s, false, zeroC, h.g ++ [a]⟩ = 0 := by
  obtain ⟨h1, h2, h3, _⟩ := checkN_ok hk
  refine ⟨?_, checkN_mk h1 (firstA_snoc h2 ha) ?_ (fun e => by cases e)⟩
  · unfold hearN
    rw [if_neg (by simp [hk]), if_neg (by simp [ha]), if_neg (by simp [hw])]
  · simp only [formN, hw, if_true, decide_eq_true_eq] at h3
    simp only [formN, Bool.false_eq_true, if_false, Bool.and_eq_true, decide_eq_true_eq, List.length_append, List.length_singleton]
    exact ⟨by omega, (sameC_iff _ _).2 rfl⟩
/-- One that doesn't hears nothing. -/
theorem hear_deaf {h : PN} {q : Int} {a : PA} (hk : checkN h = 0) (ha : checkA a = 0) (hn : h.w = false ∨ h.s ≠ q) : hearN h q a = (h, 0) := by
  unfold hearN
  rw [if_neg (by simp [hk]), if_neg (by simp [ha]), if_pos hn]

end Go.Proofs.YtklabieacbbbfaaDoor

/- Halls as plain data, and what the document's calls make of them; plain mathematics, no condition. -/
namespace Go.Proofs.YtklabieacbbbfaaDoor
open Go.RowKit
set_option linter.unusedVariables false
set_option maxRecDepth 100000
set_option linter.unusedSimpArgs false

/-- What a hand was answered last: its number, the answer. -/
structure PL where
  s : Int
  a : PA
/-- A hall: a desk, what each hand was answered last. -/
structure PH where
  d : PD
  l : List PL
theorem checkA_few {a : PA} (h : checkA a = 0) : a.d.length ≤ 8 := by
  unfold checkA at h
  split at h
  · omega
  · split at h
    · omega
    · omega
end Go.Proofs.YtklabieacbbbfaaDoor
