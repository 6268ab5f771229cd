/- The contract of cmd.Check; no condition but that the data reads as a list and the package's table is as its text lays it. -/
import Derived.Test.YtcmladgldjcdmaaDoorHU4
import Derived.Test.YtcmladgldjcdmaaDoorHU1
import Derived.Test.YtcmladgldjcdmaaDoorHU2
import Derived.Deep.Strs
import Derived.Test.YtcmladgldjcdmaaDoorHU3
namespace Go.Proofs.YtcmladgldjcdmaaDoor
open Go.RowKit
set_option linter.unusedVariables false
set_option maxRecDepth 100000
set_option linter.unusedSimpArgs false

theorem cmdContainsFunc_three (g : Nat) (x y z : Int) (w : World) (h0 : w.cell? ⟨g, 0, none⟩ = some (.int .i64 x)) (h1 : w.cell? ⟨g, 1, none⟩ = some (.int .i64 y)) (h2 : w.cell? ⟨g, 2, none⟩ = some (.int .i64 z)) :
    Calls Tryd.prog 56 #[.slice (some ⟨g, 0, none⟩) 3 3, .func (Fn.func 57) #[] #[]] w
      fun e w' => e = .returned (.bool ([x, y, z].any (outB 0 999))) ∧ w' = w := by
  have HI := hide (cmdIndexFunc_some g 0 3 3 [x, y, z] w rfl (by decide) (fun i hi => by
    rcases (by omega : i = 0 ∨ i = 1 ∨ i = 2) with rfl | rfl | rfl <;> assumption))
  go_enter Tryd.func56, Tryd.ntmps56
  go_wp2_with fail
  refine HI.out.mono ?_
  rintro e w' ⟨⟨r, rfl, hr⟩, rfl⟩
  have HR := hide hr
  clear hr
  go_wp2
  go_ret
  exact ⟨ret_bool HR.out, rfl⟩

theorem checkC_fits (k z n t : Int) (d : List Int) : checkC ⟨k, z, n, t, d⟩ = if outB 1 12 k then 4 else if fitsC z t n d (hasZ k) (hasA k) (hasN k) (hasD k) = false then 4 else if 8 < d.length then 2 else if [z, t, n].any (outB 0 999) || d.any (outB 0 999) then 3 else 0 := by
  unfold checkC fitsC
  dsimp only
  split
  · rfl
  · rename_i ho
    cases hz : hasZ k <;> cases ha : hasA k <;> cases hn : hasN k <;> cases hd : hasD k <;> by_cases hzz : z = 0 <;> by_cases htt : t = 0 <;> by_cases hnn : n = 0 <;> by_cases hdd : d = [] <;> simp [hzz, htt, hnn, hdd, or_assoc]

set_option maxRecDepth 100000 in
set_option maxHeartbeats 4000000 in
theorem Check_out (a : Option Addr) (m c : Nat) (k z n t : Int) (d : List Int) (w : World) (h : Ints w a m c d) (hk : outB 1 12 k = true) :
    Calls Tryd.prog 39 #[cmdV a m c ⟨k, z, n, t, d⟩] w fun e w' => e = .returned (.int .i64 (checkC ⟨k, z, n, t, d⟩)) ∧ Below w.heap.size w w' := by
  unfold cmdV
  have HK : Hid (checkC ⟨k, z, n, t, d⟩ = 4) := hide (by rw [checkC_fits, if_pos hk])
  by_cases h1 : k < 1
  · clear hk
    go_enter Tryd.func39, Tryd.ntmps39
    go_wp2
    go_ret
    exact ⟨ret_int HK.out.symm, by (repeat first | exact bel0 | assumption | refine bel1 ?_ | refine bel2 ?_ | refine bel3 ?_ | refine belowT ?_ (by assumption) | refine bel5 ?_ (by simp; try omega))⟩
  · have h2 : 13 ≤ k := by simp [outB] at hk; omega
    clear hk
    go_enter Tryd.func39, Tryd.ntmps39
    go_wp2
    go_ret
    exact ⟨ret_int HK.out.symm, by (repeat first | exact bel0 | assumption | refine bel1 ?_ | refine bel2 ?_ | refine bel3 ?_ | refine belowT ?_ (by assumption) | refine bel5 ?_ (by simp; try omega))⟩

set_option maxRecDepth 100000 in
set_option maxHeartbeats 4000000 in
theorem Check_in (a : Option Addr) (m c : Nat) (k : Nat) (z n t : Int) (d : List Int) (w : World) (hS : Shapes w) (h : Ints w a m c d) (hk1 : 1 ≤ k) (hk2 : k ≤ 12) :
    Calls Tryd.prog 39 #[cmdV a m c ⟨k, z, n, t, d⟩] w fun e w' => e = .returned (.int .i64 (checkC ⟨k, z, n, t, d⟩)) ∧ Below w.heap.size w w' := by
  have hlen := h.len
  have hmax := h.max
  have hle := h.le
  have s1 := hS.hz k hk2
  have s2 : w.cell? ⟨0, k * 5 + 1 + 1, none⟩ = some (.bool (hasA k)) := hS.ha k hk2
  have s3 : w.cell? ⟨0, k * 5 + 1 + 2, none⟩ = some (.bool (hasN k)) := hS.hn k hk2
  have s4 : w.cell? ⟨0, k * 5 + 1 + 3, none⟩ = some (.bool (hasD k)) := hS.hd k hk2
  have HF := fun hz ha hn hd w' h' => cmdFits_c a m c k z n t d hz ha hn hd w' h'
  have HK : Hid (checkC ⟨k, z, n, t, d⟩ = if fitsC z t n d (hasZ k) (hasA k) (hasN k) (hasD k) = false then 4 else if 8 < d.length then 2 else if [z, t, n].any (outB 0 999) || d.any (outB 0 999) then 3 else 0) := hide (by rw [checkC_fits, if_neg (by simp [outB]; omega)])
  unfold cmdV at *
  have k1 : (1 : Int) ≤ (k : Int) := by omega
  have k2 : (k : Int) < 13 := by omega
  have k0 : (0 : Int) ≤ (k : Int) := by omega
  clear hS
  generalize hasZ k = hz at *
  generalize hasA k = ha at *
  generalize hasN k = hn at *
  generalize hasD k = hd at *
  replace s1 := fun o => past1 s1 o
  replace s2 := fun o => past1 s2 o
  replace s3 := fun o => past1 s3 o
  replace s4 := fun o => past1 s4 o
  go_enter Tryd.func39, Tryd.ntmps39
  go_wp2
  go_region_held3 (fun w' => w'.cell? ⟨w.heap.size, 0, none⟩ = some (.int .i64 k) ∧ w'.cell? ⟨w.heap.size, 1, none⟩ = some (.int .i64 z) ∧ w'.cell? ⟨w.heap.size, 2, none⟩ = some (.int .i64 n) ∧ w'.cell? ⟨w.heap.size, 3, none⟩ = some (.int .i64 t) ∧ w'.cell? ⟨w.heap.size, 4, none⟩ = some (.slice a m c) ∧ w'.cell? ⟨0, k * 5 + 1, none⟩ = some (.bool hz) ∧ w'.cell? ⟨0, k * 5 + 1 + 1, none⟩ = some (.bool ha) ∧ w'.cell? ⟨0, k * 5 + 1 + 2, none⟩ = some (.bool hn) ∧ w'.cell? ⟨0, k * 5 + 1 + 3, none⟩ = some (.bool hd)) ((first | (go_simp; done) | (simp [*, World.cell?_alloc_at, World.cell?_alloc_past, World.cell?_alloc_some, World.cell?_setCell_far]; done))) (first | (go_at_call 54; refine (HF _ _ _ _ _ (by refine Ints.below h (B := w.heap.size) ?_ (Nat.le_refl _); (repeat first | exact bel0 | assumption | refine bel1 ?_ | refine bel2 ?_ | refine bel3 ?_ | refine belowT ?_ (by assumption) | refine bel5 ?_ (by simp; try omega)))).mono ?_; rintro e w9 ⟨rfl, hb9⟩; (have f0 := keepc hb9 (p := ⟨w.heap.size, 0, none⟩) (u := .int .i64 k) (by (first | (go_simp; done) | (simp [*, World.cell?_alloc_at, World.cell?_alloc_past, World.cell?_alloc_some, World.cell?_setCell_far]; done)))); (have f1 := keepc hb9 (p := ⟨w.heap.size, 1, none⟩) (u := .int .i64 z) (by (first | (go_simp; done) | (simp [*, World.cell?_alloc_at, World.cell?_alloc_past, World.cell?_alloc_some, World.cell?_setCell_far]; done)))); (have f2 := keepc hb9 (p := ⟨w.heap.size, 2, none⟩) (u := .int .i64 n) (by (first | (go_simp; done) | (simp [*, World.cell?_alloc_at, World.cell?_alloc_past, World.cell?_alloc_some, World.cell?_setCell_far]; done)))); (have f3 := keepc hb9 (p := ⟨w.heap.size, 3, none⟩) (u := .int .i64 t) (by (first | (go_simp; done) | (simp [*, World.cell?_alloc_at, World.cell?_alloc_past, World.cell?_alloc_some, World.cell?_setCell_far]; done)))); (have f4 := keepc hb9 (p := ⟨w.heap.size, 4, none⟩) (u := .slice a m c) (by (first | (go_simp; done) | (simp [*, World.cell?_alloc_at, World.cell?_alloc_past, World.cell?_alloc_some, World.cell?_setCell_far]; done)))); (have f5 := keepc hb9 (p := ⟨0, k * 5 + 1, none⟩) (u := .bool hz) (by (first | (go_simp; done) | (simp [*, World.cell?_alloc_at, World.cell?_alloc_past, World.cell?_alloc_some, World.cell?_setCell_far]; done)))); (have f6 := keepc hb9 (p := ⟨0, k * 5 + 1 + 1, none⟩) (u := .bool ha) (by (first | (go_simp; done) | (simp [*, World.cell?_alloc_at, World.cell?_alloc_past, World.cell?_alloc_some, World.cell?_setCell_far]; done)))); (have f7 := keepc hb9 (p := ⟨0, k * 5 + 1 + 2, none⟩) (u := .bool hn) (by (first | (go_simp; done) | (simp [*, World.cell?_alloc_at, World.cell?_alloc_past, World.cell?_alloc_some, World.cell?_setCell_far]; done)))); (have f8 := keepc hb9 (p := ⟨0, k * 5 + 1 + 3, none⟩) (u := .bool hd) (by (first | (go_simp; done) | (simp [*, World.cell?_alloc_at, World.cell?_alloc_past, World.cell?_alloc_some, World.cell?_setCell_far]; done))))))
  have bw : Below w.heap.size w w9 := by (repeat first | exact bel0 | assumption | refine bel1 ?_ | refine bel2 ?_ | refine bel3 ?_ | refine belowT ?_ (by assumption) | refine bel5 ?_ (by simp; try omega))
  replace h := h.below bw (Nat.le_refl _)
  clear hb9 f5 f6 f7 f8 s1 s2 s3 s4 HF
  cases hf : fitsC z t n d hz ha hn hd
  · go_wp2
    go_ret
    exact ⟨ret_int (by rw [HK.out, hf]; rfl), bw⟩
  · by_cases h8 : 8 < m
    · have h8' : (8 : Int) < (m : Int) := by omega
      go_wp2
      go_ret
      exact ⟨ret_int (by rw [HK.out, hf, hlen, if_neg (by simp), if_pos h8]), bw⟩
    · have h8' : ¬ (8 : Int) < (m : Int) := by omega
      go_wp2_with fail
      refine (singles_c _ _ _ _ _ _ _ _).mono ?_
      rintro e w1 ⟨rfl, hb1⟩
      replace bw : Below w.heap.size w w1 := by (repeat first | exact bel0 | assumption | refine bel1 ?_ | refine bel2 ?_ | refine bel3 ?_ | refine belowT ?_ (by assumption) | refine bel5 ?_ (by simp; try omega))
      replace h := h.below hb1 (Nat.le_refl _)
      have b4 := fun o => past1 (keepc hb1 f4) o
      clear hb1 f0 f1 f2 f3 f4
      have H3 := fun w' h0 h1 h2 => cmdContainsFunc_three w1.heap.size z t n w' h0 h1 h2
      generalize [z, t, n].any (outB 0 999) = b3 at HK H3
      go_wp2_with fail
      refine (H3 _ (by go_simp) (by go_simp) (by go_simp)).mono ?_
      rintro e w' ⟨rfl, rfl⟩
      cases b3
      · go_wp2_with fail
        refine (cmdContainsFunc_c a m c d _ (by refine Ints.below h (B := w1.heap.size) ?_ (Nat.le_refl _); (repeat first | exact bel0 | assumption | refine bel1 ?_ | refine bel2 ?_ | refine bel3 ?_ | refine belowT ?_ (by assumption) | refine bel5 ?_ (by simp; try omega)))).mono ?_
        rintro e w' ⟨rfl, rfl⟩
        cases hda : d.any (outB 0 999)
        all_goals
          go_wp2
          go_ret
          exact ⟨ret_int (by rw [HK.out, hf, hlen, if_neg (by simp), if_neg h8, hda]; rfl), by (repeat first | exact bel0 | assumption | refine bel1 ?_ | refine bel2 ?_ | refine bel3 ?_ | refine belowT ?_ (by assumption) | refine bel5 ?_ (by simp; try omega))⟩
      · go_wp2
        go_ret
        exact ⟨ret_int (by rw [HK.out, hf, hlen, if_neg (by simp), if_neg h8]; rfl), by (repeat first | exact bel0 | assumption | refine bel1 ?_ | refine bel2 ?_ | refine bel3 ?_ | refine belowT ?_ (by assumption) | refine bel5 ?_ (by simp; try omega))⟩

theorem cmdCheck_c (a : Option Addr) (m c : Nat) (b : PC) (w : World) (hS : Shapes w) (h : Ints w a m c b.d) :
    Calls Tryd.prog 39 #[cmdV a m c b] w fun e w' => e = .returned (.int .i64 (checkC b)) ∧ Below w.heap.size w w' := by
  obtain ⟨k, z, n, t, d⟩ := b
  cases hk : outB 1 12 k
  · obtain ⟨i, rfl⟩ : ∃ i : Nat, k = i := ⟨k.toNat, by simp [outB] at hk; omega⟩
    simp [outB] at hk
    exact Check_in a m c i z n t d w hS h (by omega) (by omega)
  · exact Check_out a m c k z n t d w h hk

end Go.Proofs.YtcmladgldjcdmaaDoor

/- A block's cells, and worlds that part at one block alone; plain mathematics, no condition. -/
namespace Go.Proofs.YtcmladgldjcdmaaDoor
open Go.RowKit
set_option linter.unusedVariables false
set_option maxRecDepth 100000
set_option linter.unusedSimpArgs false

/-- w' is w, but that block g may hold other cells, and there may be more memory. -/
structure But (g : Nat) (w w' : World) : Prop where
  low : Below g w w'
  size : w.heap.size ≤ w'.heap.size
  cell : ∀ q : Addr, q.block < w.heap.size → q.block ≠ g → w'.cell? q = w.cell? q

theorem But.refl (g : Nat) (w : World) : But g w w := ⟨Below.refl _ _, Nat.le_refl _, fun _ _ _ => rfl⟩
theorem But.trans {g : Nat} {a b c : World} (h : But g a b) (k : But g b c) : But g a c :=
  ⟨h.low.trans k.low, Nat.le_trans h.size k.size, fun q hq hg => by rw [k.cell q (Nat.lt_of_lt_of_le hq h.size) hg, h.cell q hq hg]⟩
theorem But.of_below {g : Nat} {w w' : World} (h : Below w.heap.size w w') (hg : g ≤ w.heap.size) : But g w w' :=
  ⟨h.mono hg, h.size, fun q hq _ => h.cell hq⟩
theorem But.of_put {g j : Nat} {w w' : World} {v : Value} (h : Put w w' ⟨g, j, none⟩ v) : But g w w' :=
  ⟨h.below, Nat.le_of_eq h.size.symm, fun q _ hg => h.other q (fun e => hg (by rw [e]))⟩
theorem But.of_set {g j : Nat} {w : World} {u : Value} (h : w.cell? ⟨g, j, none⟩ = some u) (v : Value) : But g w (w.setCell ⟨g, j, none⟩ v) := But.of_put ((Put.refl h).set v)

theorem Ints.but {w w' : World} {g : Nat} {a : Option Addr} {n c : Nat} {l : List Int} (h : Ints w a n c l) (hb : But g w w') (hne : n = 0 ∨ ∀ x, a = some x → x.block ≠ g) : Ints w' a n c l := by
  refine ⟨h.len, h.le, h.max, h.nil, ?_, h.wf⟩
  rcases hne with h0 | hne
  · exact .inl h0
  · rcases h.row with h0 | ⟨b, off, ha, hlt, hc⟩
    · exact .inl h0
    · refine .inr ⟨b, off, ha, Nat.lt_of_lt_of_le hlt hb.size, fun i hi => ?_⟩
      rw [hb.cell ⟨b, off + i, none⟩ hlt (by have := hne _ ha; exact this)]; exact hc i hi

theorem keepb {g : Nat} {w w' : World} (hb : But g w w') {p : Addr} {u : Value} (h : w.cell? p = some u) (hg : p.block ≠ g) : w'.cell? p = some u := by
  rw [hb.cell p (World.block_lt_of_cell? w p h) hg]; exact h

theorem But.step {g : Nat} {w w' : World} (h : But g w w') (j : Nat) (v : Value) : But g w (w'.setCell ⟨g, j, none⟩ v) :=
  ⟨h.low.setCell (Nat.le_refl _) v, by simpa [World.setCell] using h.size, fun q hq hg => by rw [World.cell?_setCell_other _ _ _ _ (fun e => hg (by rw [← e]))]; exact h.cell q hq hg⟩

/-- The cells of a block that may be written. -/
structure Lay (w : World) (B : Nat) (vs : List Value) : Prop where
  cell : ∀ i v, vs[i]? = some v → w.cell? ⟨B, i, none⟩ = some v
  ice : ∀ i, w.frozen? ⟨B, i, none⟩ = false
  lt : B < w.heap.size
theorem Lay.below {w w' : World} {B : Nat} {vs : List Value} (h : Lay w B vs) (hb : Below w.heap.size w w') : Lay w' B vs :=
  ⟨fun i v hv => keepc hb (h.cell i v hv), fun i => by rw [hb.frozen (by exact h.lt)]; exact h.ice i, Nat.lt_of_lt_of_le h.lt hb.size⟩
theorem Lay.made (w : World) (vs : List Value) (t : TypeId) : Lay (w.alloc (.cells vs.toArray t (0, 0))) w.heap.size vs :=
  ⟨fun i v hv => by rw [cell_of_row _ _ _ _ _ _ (heap_new w _)]; simpa using hv, fun i => by unfold World.frozen?; rw [show (w.alloc (.cells vs.toArray t (0, 0))).heap[(⟨w.heap.size, i, none⟩ : Addr).block]? = _ from heap_new w _]; simp, by simp⟩
theorem Lay.drew {w : World} {B : Nat} {vs : List Value} (h : Lay w B vs) : Lay w.drew B vs := ⟨h.cell, h.ice, h.lt⟩
theorem Lay.made1 (w : World) (o : Obj) (vs : List Value) (t : TypeId) : Lay ((w.alloc o).alloc (.cells vs.toArray t (0, 0))) (w.heap.size + 1) vs := by
  have h := Lay.made (w.alloc o) vs t
  simpa only [World.size_alloc] using h
theorem Lay.but {w w' : World} {B g : Nat} {vs : List Value} (h : Lay w B vs) (hb : But g w w') (hi : ∀ q : Addr, q.block < w.heap.size → w'.frozen? q = w.frozen? q) (hg : B ≠ g) : Lay w' B vs :=
  ⟨fun i v hv => keepb hb (h.cell i v hv) hg, fun i => by rw [hi _ h.lt]; exact h.ice i, Nat.lt_of_lt_of_le h.lt hb.size⟩
theorem Lay.set {w : World} {B : Nat} {vs : List Value} (h : Lay w B vs) (i : Nat) (v : Value) : Lay (w.setCell ⟨B, i, none⟩ v) B (vs.set i v) := by
  refine ⟨fun j u hu => ?_, fun j => by rw [World.frozen?_setCell]; exact h.ice j, by simpa [World.setCell] using h.lt⟩
  by_cases e : i = j
  · subst e
    have hi : i < vs.length := by have := (List.getElem?_eq_some_iff.1 hu).1; simpa using this
    rw [List.getElem?_set_self hi] at hu
    cases hu
    exact World.cell?_setCell_same _ _ _ (h.cell i vs[i] (by simp [hi]))
  · rw [List.getElem?_set_ne e] at hu
    rw [World.cell?_setCell_other _ _ _ _ (by simp [e])]
    exact h.cell j u hu
theorem Lay.far {w : World} {B : Nat} {vs : List Value} (h : Lay w B vs) (p : Addr) (v : Value) (hp : p.block ≠ B) : Lay (w.setCell p v) B vs :=
  ⟨fun i u hu => by rw [World.cell?_setCell_other _ _ _ _ (fun e => hp (by rw [e]))]; exact h.cell i u hu, fun i => by rw [World.frozen?_setCell]; exact h.ice i, by simpa [World.setCell] using h.lt⟩

theorem Ints.offs {w : World} {a : Option Addr} {n c : Nat} {l : List Int} (h : Ints w a n c l) {R : Nat} (hR : w.heap.size ≤ R) : n = 0 ∨ ∀ x, a = some x → x.block ≠ R := by
  rcases h.row with h0 | ⟨b, off, ha, hlt, _⟩
  · exact .inl h0
  · exact .inr fun x e => by rw [ha] at e; cases e; simp; omega
/-- w' is w, but that block g may hold other cells, and there may be more memory; what may be written may be as before. -/
structure ButI (g : Nat) (w w' : World) : Prop where
  but : But g w w'
  ice : ∀ q : Addr, q.block < w.heap.size → w'.frozen? q = w.frozen? q
theorem ButI.refl (g : Nat) (w : World) : ButI g w w := ⟨But.refl g w, fun _ _ => rfl⟩
theorem ButI.trans {g : Nat} {a b c : World} (h : ButI g a b) (k : ButI g b c) : ButI g a c := ⟨h.but.trans k.but, fun q hq => by rw [k.ice q (Nat.lt_of_lt_of_le hq h.but.size), h.ice q hq]⟩
theorem ButI.step {g : Nat} {w w' : World} (h : ButI g w w') (j : Nat) (v : Value) : ButI g w (w'.setCell ⟨g, j, none⟩ v) := ⟨h.but.step j v, fun q hq => by rw [World.frozen?_setCell]; exact h.ice q hq⟩
theorem ButI.of_below {g : Nat} {w w' : World} (h : Below w.heap.size w w') (hg : g ≤ w.heap.size) : ButI g w w' := ⟨But.of_below h hg, fun q hq => h.frozen hq⟩
/-- A block that was not there changed: nothing that was there did. -/
theorem ButI.below {g : Nat} {w w' : World} (h : ButI g w w') {B : Nat} (hB : B ≤ g) : Below B w w' := h.but.low.mono hB
theorem Lay.butI {w w' : World} {B g : Nat} {vs : List Value} (h : Lay w B vs) (hb : ButI g w w') (hg : B ≠ g) : Lay w' B vs := h.but hb.but hb.ice hg
/-- A block of the call's own changed last: seen from where the call began, only g did. -/
theorem ButI.own {g R : Nat} {w a b : World} (h : ButI g w a) (k : ButI R a b) (hR : w.heap.size ≤ R) (hg : g ≤ w.heap.size) : ButI g w b := by
  refine ⟨⟨h.but.low.trans (k.but.low.mono (by omega)), Nat.le_trans h.but.size k.but.size, fun q hq hne => ?_⟩, fun q hq => ?_⟩
  · rw [k.but.cell q (Nat.lt_of_lt_of_le hq h.but.size) (by omega), h.but.cell q hq hne]
  · rw [k.ice q (Nat.lt_of_lt_of_le hq h.but.size), h.ice q hq]


end Go.Proofs.YtcmladgldjcdmaaDoor

/- Records' values, and the contracts of note.Check and note.Same; no condition but that the arguments read as data, and the package-level variables are as their texts lay them. -/
namespace Go.Proofs.YtcmladgldjcdmaaDoor
open Go.RowKit
set_option linter.unusedVariables false
set_option maxRecDepth 100000
set_option linter.unusedSimpArgs false

/-- A record's value. -/
structure RV where
  p : PR
  a : Option Addr
  n : Nat
  c : Nat
def RV.v (x : RV) : Value := .agg #[.int .i64 x.p.w, .int .i64 x.p.s, .int .i64 x.p.c.k, .int .i64 x.p.c.z, .int .i64 x.p.c.n, .int .i64 x.p.c.at', .slice x.a x.n x.c]
def RV.ok (w : World) (x : RV) : Prop := Ints w x.a x.n x.c x.p.c.d
def RV.zero : RV := ⟨zeroR, none, 0, 0⟩
theorem RV.ok.below {w w' : World} {x : RV} (h : x.ok w) {B : Nat} (hb : Below B w w') (hB : w.heap.size ≤ B) : x.ok w' := Ints.below h hb hB
theorem RV.zero_ok (w : World) : RV.zero.ok w := Ints.nilSlice w
def RV.off (R : Nat) (x : RV) : Prop := x.n = 0 ∨ ∀ y, x.a = some y → y.block ≠ R
theorem RV.ok.but {w w' : World} {g : Nat} {x : RV} (h : x.ok w) (hb : But g w w') (ho : x.off g) : x.ok w' := Ints.but h hb ho
theorem RV.ok.off {w : World} {x : RV} (h : x.ok w) {R : Nat} (hR : w.heap.size ≤ R) : x.off R := Ints.offs h hR
def RV.cells (x : RV) : List Value := [.int .i64 x.p.w, .int .i64 x.p.s, .int .i64 x.p.c.k, .int .i64 x.p.c.z, .int .i64 x.p.c.n, .int .i64 x.p.c.at', .slice x.a x.n x.c]

theorem nwithin_c (n a b : Int) (w : World) : Calls Tryd.prog 38 #[.int .i64 n, .int .i64 a, .int .i64 b] w fun e w' => e = .returned (.bool (inB n a b)) ∧ w' = w := by
  go_enter Tryd.func38, Tryd.ntmps38
  go_wp2
  all_goals (go_ret; exact ⟨ret_bool (by unfold inB; rw [Bool.eq_iff_iff]; simp; try omega), rfl⟩)

set_option maxHeartbeats 1000000 in
theorem NCheck_c (x : RV) (w : World) (hS : Shapes w) (h : x.ok w) : Calls Tryd.prog 25 #[x.v] w fun e w' => e = .returned (.int .i64 (checkR x.p)) ∧ Below w.heap.size w w' := by
  obtain ⟨⟨q, s, ⟨k, z, m, t, d⟩⟩, a, n, c⟩ := x
  dsimp only [RV.v, RV.ok] at *
  have HC := hide (fun w' hS h' => cmdCheck_c a n c ⟨k, z, m, t, d⟩ w' hS h')
  have HK : Hid (checkR ⟨q, s, ⟨k, z, m, t, d⟩⟩ = if inB q 0 2 = false ∨ inB s 1 40 = false then 3 else checkC ⟨k, z, m, t, d⟩) := hide rfl
  unfold cmdV at HC
  dsimp only at HC
  go_enter Tryd.func25, Tryd.ntmps25
  go_wp2_with fail
  refine (nwithin_c _ _ _ _).mono ?_
  rintro e w1 ⟨rfl, rfl⟩
  cases h1 : inB q 0 2
  · go_wp2
    go_ret
    exact ⟨ret_int (by rw [HK.out]; simp [h1]), by (repeat first | exact bel0 | assumption | refine bel1 ?_ | refine bel2 ?_ | refine bel3 ?_ | refine belowT ?_ (by assumption) | refine bel5 ?_ (by simp; try omega))⟩
  · go_wp2_with fail
    refine (nwithin_c _ _ _ _).mono ?_
    rintro e w1 ⟨rfl, rfl⟩
    cases h2 : inB s 1 40
    · go_wp2
      go_ret
      exact ⟨ret_int (by rw [HK.out]; simp [h2]), by (repeat first | exact bel0 | assumption | refine bel1 ?_ | refine bel2 ?_ | refine bel3 ?_ | refine belowT ?_ (by assumption) | refine bel5 ?_ (by simp; try omega))⟩
    · go_wp2_with fail
      refine (HC.out _ (hS.below (by (repeat first | exact bel0 | assumption | refine bel1 ?_ | refine bel2 ?_ | refine bel3 ?_ | refine belowT ?_ (by assumption) | refine bel5 ?_ (by simp; try omega)))) (h.below (B := w.heap.size) (by (repeat first | exact bel0 | assumption | refine bel1 ?_ | refine bel2 ?_ | refine bel3 ?_ | refine belowT ?_ (by assumption) | refine bel5 ?_ (by simp; try omega))) (Nat.le_refl _))).mono ?_
      rintro e w3 ⟨rfl, hb3⟩
      go_wp2
      go_ret
      exact ⟨ret_int (by rw [HK.out]; simp [h1, h2]), by (repeat first | exact bel0 | assumption | refine bel1 ?_ | refine bel2 ?_ | refine bel3 ?_ | refine belowT ?_ (by assumption) | refine bel5 ?_ (by simp; try omega))⟩

end Go.Proofs.YtcmladgldjcdmaaDoor

/- How the arguments of the laws read: a record; no condition. -/
namespace Go.Proofs.YtcmladgldjcdmaaDoor
open Go.ChangeShapes Go.WideShapes Go.ChangeAt Go.RowKit Go.Joins Go.ChangeMaps
set_option linter.unusedVariables false
set_option maxRecDepth 100000
set_option linter.unusedSimpArgs false

set_option maxRecDepth 100000 in
/-- The cells of a command, read. -/
theorem cmd_of {H : Type} {enc : TypeId × Value → H} {W : World} {fuel : Nat} {cs : List Value} {y : DataW H × List MemPlace}
    (h : DataW.trod enc Tryd.prog W 0 (fun _ => true) true fuel 32 cs = some y) : ∃ a n c, ∃ b : PC, cs = [.int .i64 b.k, .int .i64 b.z, .int .i64 b.n, .int .i64 b.at', .slice a n c] ∧ Ints W a n c b.d := by
  obtain ⟨xs, n, _, _, hl, hlen, hfs⟩ := DataW.trod_struct Tryd.underlying32 h
  rw [cellsCmd] at hl
  obtain ⟨v0, v1, v2, v3, v4, rfl⟩ := list5 hl
  obtain ⟨y0, y1, y2, y3, y4, rfl⟩ := list5 hlen
  have g0 := hfs 0 _ rfl
  have g1 := hfs 1 _ rfl
  have g2 := hfs 2 _ rfl
  have g3 := hfs 3 _ rfl
  have g4 := hfs 4 _ rfl
  have c3 : Tryd.prog.cellsOf 3 = 1 := by kernel_rfl
  have c22 : Tryd.prog.cellsOf 23 = 1 := by kernel_rfl
  simp [c3, c22] at g0 g1 g2 g3 g4
  obtain ⟨k, e0, _, _⟩ := DataW.trod_int Tryd.underlying3 g0
  obtain ⟨z, e1, _, _⟩ := DataW.trod_int Tryd.underlying3 g1
  obtain ⟨nn, e2, _, _⟩ := DataW.trod_int Tryd.underlying3 g2
  obtain ⟨t, e3, _, _⟩ := DataW.trod_int Tryd.underlying3 g3
  simp at e0 e1 e2 e3
  subst e0 e1 e2 e3
  obtain ⟨a, n, c, l, rfl, hi⟩ := ints_of g4
  exact ⟨a, n, c, ⟨k, z, nn, t, l⟩, rfl, hi⟩

theorem cellsRec : Tryd.prog.cellsOf 34 = 7 := by kernel_rfl

set_option maxRecDepth 100000 in
/-- The cells of a record, read. -/
theorem rec_of {H : Type} {enc : TypeId × Value → H} {W : World} {fuel : Nat} {cs : List Value} {y : DataW H × List MemPlace}
    (h : DataW.trod enc Tryd.prog W 0 (fun _ => true) true fuel 34 cs = some y) : ∃ x : RV, cs = x.cells ∧ x.ok W := by
  obtain ⟨y0, y1, y2, n, _, hl, h0, h1, h2⟩ := Go.Deep.trod_struct3 Tryd.underlying34 h
  rw [cellsRec] at hl
  match cs, hl with
  | [v0, v1, v2, v3, v4, v5, v6], _ =>
    have k0 : DataW.trod enc Tryd.prog W 0 (fun _ => true) true n 3 [v0] = some y0 := h0
    have k1 : DataW.trod enc Tryd.prog W 0 (fun _ => true) true n 3 [v1] = some y1 := h1
    have k2 : DataW.trod enc Tryd.prog W 0 (fun _ => true) true n 32 [v2, v3, v4, v5, v6] = some y2 := h2
    obtain ⟨q, e0, _, _⟩ := DataW.trod_int Tryd.underlying3 k0
    obtain ⟨s, e1, _, _⟩ := DataW.trod_int Tryd.underlying3 k1
    simp at e0 e1
    subst e0 e1
    obtain ⟨a, n, c, b, e, hi⟩ := cmd_of k2
    exact ⟨⟨⟨q, s, b⟩, a, n, c⟩, by rw [e]; rfl, hi⟩

theorem array7 {α : Type} {cs : Array α} (h : cs.size = 7) : ∃ c0 c1 c2 c3 c4 c5 c6, cs = #[c0, c1, c2, c3, c4, c5, c6] := by
  obtain ⟨l⟩ := cs
  match l, h with
  | [c0, c1, c2, c3, c4, c5, c6], _ => exact ⟨c0, c1, c2, c3, c4, c5, c6, rfl⟩

theorem rec_arg {H : Type} {enc : TypeId × Value → H} {W : World} {base : Nat} {v : Value} {d : DataW H} {p : List MemPlace} (hv : Value.okWide Tryd.prog W .any base 34 v)
    (h : DataW.Trod enc Tryd.prog W 0 (fun _ => true) true 34 v d p) : ∃ x : RV, v = x.v ∧ x.ok W := by
  obtain ⟨cs, rfl, hsz⟩ := okWide_struct Tryd.underlying34 hv
  obtain ⟨v0, v1, v2, v3, v4, v5, v6, rfl⟩ := array7 (hsz.trans cellsRec)
  obtain ⟨fuel, hf⟩ := h
  obtain ⟨x, e, hx⟩ := rec_of (by simpa [Value.cells] using hf)
  simp [RV.cells] at e
  obtain ⟨rfl, rfl, rfl, rfl, rfl, rfl, rfl⟩ := e
  exact ⟨x, rfl, hx⟩

end Go.Proofs.YtcmladgldjcdmaaDoor

/- Plain facts on the zone's functions: a zone that was written is one; a piece that is written is read; no Go here. -/
namespace Go.Proofs.YtcmladgldjcdmaaDoor
open Go.RowKit
set_option linter.unusedVariables false
set_option maxRecDepth 100000
set_option linter.unusedSimpArgs false

theorem checkZ_mk {s : Int} {l : List Int} (h0 : 0 ≤ s) (h4 : s ≤ 4) (hl : l.length ≤ 8) (ha : l.any (outB 0 999) = false) (hf : fitsB s l.length = true) : checkZ s l = 0 :=
  (checkZ_0 (by simp [outB]; omega) (by omega) ha hf).symm

theorem check_write {s : Int} {l k : List Int} (h : writeE s l k = 0) : checkZ (writeS s (l.length + k.length)) (l ++ k) = 0 := by
  obtain ⟨h1, h2, h3, h4, h5⟩ := writeE_ok h
  obtain ⟨z1, z2, z3, z4, z5⟩ := checkZ_len h1
  have hs : writeS s (l.length + k.length) = 4 ∧ l.length + k.length = 8 ∨ (writeS s (l.length + k.length) = 2 ∨ writeS s (l.length + k.length) = 1) ∧ l.length + k.length < 8 := by
    unfold writeS
    split
    · exact .inl ⟨rfl, by assumption⟩
    · refine .inr ⟨?_, by omega⟩
      split
      · exact .inl rfl
      · exact .inr rfl
  refine checkZ_mk ?_ ?_ (by simp; omega) (by simp only [List.any_append, z4, h4]; rfl) ?_
  · omega
  · omega
  · rw [List.length_append]
    rcases hs with ⟨e, _⟩ | ⟨e | e, hlt⟩ <;> rw [e] <;> simp [fitsB] <;> omega

theorem any_take_false (l : List Int) (p : Nat) (f : Int → Bool) (h : l.any f = false) : (l.take p).any f = false := by
  rw [List.any_eq_false] at *
  exact fun x hx => h x (List.mem_of_mem_take hx)
theorem any_drop_false (l : List Int) (p : Nat) (f : Int → Bool) (h : l.any f = false) : (l.drop p).any f = false := by
  rw [List.any_eq_false] at *
  exact fun x hx => h x (List.mem_of_mem_drop hx)

end Go.Proofs.YtcmladgldjcdmaaDoor
