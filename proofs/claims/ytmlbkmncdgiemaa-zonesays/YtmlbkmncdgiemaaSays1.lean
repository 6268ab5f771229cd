/- ZoneSays answers true for every two zones, list and numbers, and leaves all that was there as it was; no condition. -/
import Derived.Test.YtmlbkmncdgiemaaA7
import Derived.Test.YtmlbkmncdgiemaaB3
namespace Go.Proofs.Ytmlbkmncdgiemaa
open Go.RowKit
set_option linter.unusedVariables false
set_option linter.unusedSimpArgs false

/-- What Write answers: state, blocks; what Read answers: blocks. -/
def wS (s : Int) (l k : List Int) : Int := if writeE s l k = 0 then writeS s (l.length + k.length) else 0
def wL (s : Int) (l k : List Int) : List Int := if writeE s l k = 0 then l ++ k else []
def rL (s : Int) (l : List Int) (p k : Int) : List Int := if readE s l p k = 0 then (l.drop p.toNat).take k.toNat else []

theorem Write_u (s : Int) (a : Option Addr) (n c : Nat) (l : List Int) (b : Option Addr) (m d : Nat) (k : List Int) (w : World) (h1 : Ints w a n c l) (h2 : Ints w b m d k) :
    Calls Try.prog 8 #[.agg #[.int .i64 s, .slice a n c], .slice b m d] w fun e w' => (∃ a' n' c', e = .returned (.tuple #[.agg #[.int .i64 (wS s l k), .slice a' n' c'], .int .i64 (writeE s l k)]) ∧ Ints w' a' n' c' (wL s l k)) ∧ Below w.heap.size w w' := by
  by_cases h : writeE s l k = 0
  · refine (Write_ok s a n c l b m d k w h1 h2 h).mono ?_
    rintro e w' ⟨⟨q, rfl, i, _⟩, hb⟩
    rw [show wS s l k = writeS s (n + m) by simp [wS, h, h1.len, h2.len], show wL s l k = l ++ k by simp [wL, h], h]
    exact ⟨⟨_, _, _, rfl, i⟩, hb⟩
  · refine (Write_bad s a n c l b m d k w h1 h2 h).mono ?_
    rintro e w' ⟨rfl, hb⟩
    rw [show wS s l k = 0 by simp [wS, h], show wL s l k = [] by simp [wL, h]]
    exact ⟨⟨_, _, _, rfl, Ints.nilSlice _⟩, hb⟩

theorem WriteZone_u (s : Int) (a : Option Addr) (n c : Nat) (l : List Int) (b : Option Addr) (m d : Nat) (k : List Int) (w : World) (h1 : Ints w a n c l) (h2 : Ints w b m d k) :
    Calls Try.prog 10 #[.agg #[.int .i64 s, .slice a n c], .slice b m d] w fun e w' => (∃ a' n' c', e = .returned (.tuple #[.agg #[.int .i64 (wS s l k), .slice a' n' c'], .int .i64 (writeE s l k)]) ∧ Ints w' a' n' c' (wL s l k)) ∧ Below w.heap.size w w' := by
  by_cases h : writeE s l k = 0
  · refine (WriteZone_ok s a n c l b m d k w h1 h2 h).mono ?_
    rintro e w' ⟨⟨a', c', rfl, i, _⟩, hb⟩
    rw [show wS s l k = writeS s (n + m) by simp [wS, h, h1.len, h2.len], show wL s l k = l ++ k by simp [wL, h], h]
    exact ⟨⟨_, _, _, rfl, i⟩, hb⟩
  · refine (WriteZone_bad s a n c l b m d k w h1 h2 h).mono ?_
    rintro e w' ⟨rfl, hb⟩
    rw [show wS s l k = 0 by simp [wS, h], show wL s l k = [] by simp [wL, h]]
    exact ⟨⟨_, _, _, rfl, Ints.nilSlice _⟩, hb⟩

theorem Read_u (s : Int) (a : Option Addr) (n c : Nat) (l : List Int) (p k : Int) (w : World) (h1 : Ints w a n c l) :
    Calls Try.prog 9 #[.agg #[.int .i64 s, .slice a n c], .int .i64 p, .int .i64 k] w fun e w' => (∃ a' n' c', e = .returned (.tuple #[.slice a' n' c', .int .i64 (readE s l p k)]) ∧ Ints w' a' n' c' (rL s l p k)) ∧ Below w.heap.size w w' := by
  by_cases h : readE s l p k = 0
  · refine (Read_ok s a n c l p k w h1 h).mono ?_
    rintro e w' ⟨⟨q, rfl, i, _⟩, hb⟩
    rw [show rL s l p k = (l.drop p.toNat).take k.toNat by simp [rL, h], h]
    exact ⟨⟨_, _, _, rfl, i⟩, hb⟩
  · refine (Read_bad s a n c l p k w h1 h).mono ?_
    rintro e w' ⟨rfl, hb⟩
    rw [show rL s l p k = [] by simp [rL, h]]
    exact ⟨⟨_, _, _, rfl, Ints.nilSlice _⟩, hb⟩

theorem ReadZone_u (s : Int) (a : Option Addr) (n c : Nat) (l : List Int) (p k : Int) (w : World) (h1 : Ints w a n c l) :
    Calls Try.prog 11 #[.agg #[.int .i64 s, .slice a n c], .int .i64 p, .int .i64 k] w fun e w' => (∃ a' n' c', e = .returned (.tuple #[.slice a' n' c', .int .i64 (readE s l p k)]) ∧ Ints w' a' n' c' (rL s l p k)) ∧ Below w.heap.size w w' := by
  by_cases h : readE s l p k = 0
  · refine (ReadZone_yes s a n c l p k w h1 h).mono ?_
    rintro e w' ⟨⟨a', c', rfl, i⟩, hb⟩
    rw [show rL s l p k = (l.drop p.toNat).take k.toNat by simp [rL, h], h]
    exact ⟨⟨_, _, _, rfl, i⟩, hb⟩
  · refine (ReadZone_no s a n c l p k w h1 h).mono ?_
    rintro e w' ⟨rfl, hb⟩
    rw [show rL s l p k = [] by simp [rL, h]]
    exact ⟨⟨_, _, _, rfl, Ints.nilSlice _⟩, hb⟩

set_option maxHeartbeats 8000000 in
theorem ZoneSays_c (s : Int) (a : Option Addr) (n c : Nat) (l : List Int) (b : Option Addr) (m d : Nat) (k : List Int) (x y : Int) (t : Int) (a5 : Option Addr) (n5 c5 : Nat) (l5 : List Int) (w : World) (h1 : Ints w a n c l) (h2 : Ints w b m d k) (h5 : Ints w a5 n5 c5 l5) :
    Calls Try.prog 4 #[.agg #[.int .i64 s, .slice a n c], .slice b m d, .int .i64 x, .int .i64 y, .agg #[.int .i64 t, .slice a5 n5 c5]] w fun e w' => e = .returned (.bool true) ∧ Below w.heap.size w w' := by
  go_enter Try.func4, Try.ntmps4
  go_wp2_with fail
  refine (Write_u s a n c l b m d k _ (h1.below (B := w.heap.size) (by (repeat (first | exact Below.refl _ _ | assumption | refine Below.drew ?_ | refine below_drewN ?_ _ | refine belowA ?_ _ | refine belowT ?_ (by assumption) | refine Below.setCell ?_ (by simp) _))) (Nat.le_refl _)) (h2.below (B := w.heap.size) (by (repeat (first | exact Below.refl _ _ | assumption | refine Below.drew ?_ | refine below_drewN ?_ _ | refine belowA ?_ _ | refine belowT ?_ (by assumption) | refine Below.setCell ?_ (by simp) _))) (Nat.le_refl _))).mono ?_
  rintro e w1 ⟨⟨a1, n1, c1, rfl, i1⟩, hb1⟩
  have z0 := keepc hb1 (p := ⟨w.heap.size, 0, none⟩) (u := .int .i64 s) (by go_simp)
  have z1 := keepc hb1 (p := ⟨w.heap.size, 1, none⟩) (u := .slice a n c) (by go_simp)
  have y0 := keepc hb1 (p := ⟨w.heap.size + 1, 0, none⟩) (u := .int .i64 t) (by go_simp)
  have y1 := keepc hb1 (p := ⟨w.heap.size + 1, 1, none⟩) (u := .slice a5 n5 c5) (by go_simp)
  have bw1 : Below w.heap.size w w1 := by (repeat (first | exact Below.refl _ _ | assumption | refine Below.drew ?_ | refine below_drewN ?_ _ | refine belowA ?_ _ | refine belowT ?_ (by assumption) | refine Below.setCell ?_ (by simp) _))
  replace h1 := h1.below bw1 (Nat.le_refl _)
  replace h2 := h2.below bw1 (Nat.le_refl _)
  replace h5 := h5.below bw1 (Nat.le_refl _)
  clear hb1
  have z0' := past1 z0
  have z1' := past1 z1
  generalize hsg : wS s l k = sg at *
  have HSG := hide hsg
  clear hsg
  go_wp2_with fail
  refine (Read_u s a n c l x y _ (h1.below (B := w1.heap.size) (by (repeat (first | exact Below.refl _ _ | assumption | refine Below.drew ?_ | refine below_drewN ?_ _ | refine belowA ?_ _ | refine belowT ?_ (by assumption) | refine Below.setCell ?_ (by simp) _))) (Nat.le_refl _))).mono ?_
  rintro e w2 ⟨⟨a2, n2, c2, rfl, i2⟩, hb2⟩
  clear z0' z1'
  replace z0 := keepc hb2 (past1 z0 _)
  replace z1 := keepc hb2 (past1 z1 _)
  replace y0 := keepc hb2 (past1 y0 _)
  replace y1 := keepc hb2 (past1 y1 _)
  have a0 := keepc hb2 (p := ⟨w1.heap.size, 0, none⟩) (u := .int .i64 sg) (by go_simp)
  have a1' := keepc hb2 (p := ⟨w1.heap.size, 1, none⟩) (u := .slice a1 n1 c1) (by go_simp)
  have b2 : Below w1.heap.size w1 w2 := by (repeat (first | exact Below.refl _ _ | assumption | refine Below.drew ?_ | refine below_drewN ?_ _ | refine belowA ?_ _ | refine belowT ?_ (by assumption) | refine Below.setCell ?_ (by simp) _))
  have bw2 : Below w.heap.size w w2 := belowT bw1 b2
  replace h1 := h1.below b2 (Nat.le_refl _)
  replace h2 := h2.below b2 (Nat.le_refl _)
  replace h5 := h5.below b2 (Nat.le_refl _)
  replace i1 := i1.below b2 (Nat.le_refl _)
  clear hb2 b2 bw1
  go_wp2_with fail
  refine (WriteZone_u s a n c l b m d k _ h1 h2).mono ?_
  rintro e w3 ⟨⟨a3, n3, c3, rfl, i3⟩, hb3⟩
  rw [HSG.out]
  replace z0 := keepc hb3 z0
  replace z1 := keepc hb3 z1
  replace y0 := keepc hb3 y0
  replace y1 := keepc hb3 y1
  replace a0 := keepc hb3 a0
  replace a1' := keepc hb3 a1'
  have bw3 : Below w.heap.size w w3 := belowT bw2 hb3
  replace h1 := h1.below hb3 (Nat.le_refl _)
  replace h5 := h5.below hb3 (Nat.le_refl _)
  replace i1 := i1.below hb3 (Nat.le_refl _)
  replace i2 := i2.below hb3 (Nat.le_refl _)
  clear hb3 bw2 h2
  have z0' := past1 z0
  have z1' := past1 z1
  go_wp2_with fail
  refine (ReadZone_u s a n c l x y _ (h1.below (B := w3.heap.size) (by (repeat (first | exact Below.refl _ _ | assumption | refine Below.drew ?_ | refine below_drewN ?_ _ | refine belowA ?_ _ | refine belowT ?_ (by assumption) | refine Below.setCell ?_ (by simp) _))) (Nat.le_refl _))).mono ?_
  rintro e w4 ⟨⟨a4, n4, c4, rfl, i4⟩, hb4⟩
  clear z0' z1'
  replace z0 := keepc hb4 (past1 z0 _)
  replace z1 := keepc hb4 (past1 z1 _)
  replace y0 := keepc hb4 (past1 y0 _)
  replace y1 := keepc hb4 (past1 y1 _)
  replace a0 := keepc hb4 (past1 a0 _)
  replace a1' := keepc hb4 (past1 a1' _)
  have d0 := keepc hb4 (p := ⟨w3.heap.size, 0, none⟩) (u := .int .i64 sg) (by go_simp)
  have d1 := keepc hb4 (p := ⟨w3.heap.size, 1, none⟩) (u := .slice a3 n3 c3) (by go_simp)
  have b4 : Below w3.heap.size w3 w4 := by (repeat (first | exact Below.refl _ _ | assumption | refine Below.drew ?_ | refine below_drewN ?_ _ | refine belowA ?_ _ | refine belowT ?_ (by assumption) | refine Below.setCell ?_ (by simp) _))
  have bw4 : Below w.heap.size w w4 := belowT bw3 b4
  replace h1 := h1.below b4 (Nat.le_refl _)
  replace h5 := h5.below b4 (Nat.le_refl _)
  replace i1 := i1.below b4 (Nat.le_refl _)
  replace i2 := i2.below b4 (Nat.le_refl _)
  replace i3 := i3.below b4 (Nat.le_refl _)
  clear hb4 bw3 b4
  have w0 : (writeE s l k == writeE s l k) = true := by simp
  have r0 : (readE s l x y == readE s l x y) = true := by simp
  have k0 : (checkZ s l == checkZ s l) = true := by simp
  go_upto_region 5 with fail
  go_region_held3 (fun w' => w'.cell? ⟨w.heap.size, 0, none⟩ = some (.int .i64 s) ∧ w'.cell? ⟨w.heap.size, 1, none⟩ = some (.slice a n c) ∧ w'.cell? ⟨w.heap.size + 1, 0, none⟩ = some (.int .i64 t) ∧ w'.cell? ⟨w.heap.size + 1, 1, none⟩ = some (.slice a5 n5 c5) ∧ w'.cell? ⟨w1.heap.size, 0, none⟩ = some (.int .i64 sg) ∧ w'.cell? ⟨w1.heap.size, 1, none⟩ = some (.slice a1 n1 c1) ∧ w'.cell? ⟨w3.heap.size, 0, none⟩ = some (.int .i64 sg) ∧ w'.cell? ⟨w3.heap.size, 1, none⟩ = some (.slice a3 n3 c3)) ((first | (go_simp; done) | (simp [*, World.cell?_alloc_at, World.cell?_alloc_past, World.cell?_alloc_some, World.cell?_setCell_far]; done)))
    (first | (go_at_call 12; refine (filled_c _).mono ?_; rintro e w9 ⟨rfl, hb9⟩; (have e0 := keepc hb9 (p := ⟨w.heap.size, 0, none⟩) (u := .int .i64 s) (by go_simp)); (have e1 := keepc hb9 (p := ⟨w.heap.size, 1, none⟩) (u := .slice a n c) (by go_simp)); (have e2 := keepc hb9 (p := ⟨w.heap.size + 1, 0, none⟩) (u := .int .i64 t) (by go_simp)); (have e3 := keepc hb9 (p := ⟨w.heap.size + 1, 1, none⟩) (u := .slice a5 n5 c5) (by go_simp)); (have e4 := keepc hb9 (p := ⟨w1.heap.size, 0, none⟩) (u := .int .i64 sg) (by go_simp)); (have e5 := keepc hb9 (p := ⟨w1.heap.size, 1, none⟩) (u := .slice a1 n1 c1) (by go_simp)); (have e6 := keepc hb9 (p := ⟨w3.heap.size, 0, none⟩) (u := .int .i64 sg) (by go_simp)); (have e7 := keepc hb9 (p := ⟨w3.heap.size, 1, none⟩) (u := .slice a3 n3 c3) (by go_simp))) | (go_at_call 13; refine (Check_c s a n c l _ (by refine h1.below (B := w4.heap.size) ?_ (Nat.le_refl _); (repeat (first | exact Below.refl _ _ | assumption | refine Below.drew ?_ | refine below_drewN ?_ _ | refine belowA ?_ _ | refine belowT ?_ (by assumption) | refine Below.setCell ?_ (by simp) _)))).mono ?_; rintro e w9 ⟨rfl, hb9⟩; (have e0 := keepc hb9 (p := ⟨w.heap.size, 0, none⟩) (u := .int .i64 s) (by go_simp)); (have e1 := keepc hb9 (p := ⟨w.heap.size, 1, none⟩) (u := .slice a n c) (by go_simp)); (have e2 := keepc hb9 (p := ⟨w.heap.size + 1, 0, none⟩) (u := .int .i64 t) (by go_simp)); (have e3 := keepc hb9 (p := ⟨w.heap.size + 1, 1, none⟩) (u := .slice a5 n5 c5) (by go_simp)); (have e4 := keepc hb9 (p := ⟨w1.heap.size, 0, none⟩) (u := .int .i64 sg) (by go_simp)); (have e5 := keepc hb9 (p := ⟨w1.heap.size, 1, none⟩) (u := .slice a1 n1 c1) (by go_simp)); (have e6 := keepc hb9 (p := ⟨w3.heap.size, 0, none⟩) (u := .int .i64 sg) (by go_simp)); (have e7 := keepc hb9 (p := ⟨w3.heap.size, 1, none⟩) (u := .slice a3 n3 c3) (by go_simp))) | (go_at_call 14; refine (CheckZone_c s a n c l _ (by refine h1.below (B := w4.heap.size) ?_ (Nat.le_refl _); (repeat (first | exact Below.refl _ _ | assumption | refine Below.drew ?_ | refine below_drewN ?_ _ | refine belowA ?_ _ | refine belowT ?_ (by assumption) | refine Below.setCell ?_ (by simp) _)))).mono ?_; rintro e w9 ⟨rfl, hb9⟩; (have e0 := keepc hb9 (p := ⟨w.heap.size, 0, none⟩) (u := .int .i64 s) (by go_simp)); (have e1 := keepc hb9 (p := ⟨w.heap.size, 1, none⟩) (u := .slice a n c) (by go_simp)); (have e2 := keepc hb9 (p := ⟨w.heap.size + 1, 0, none⟩) (u := .int .i64 t) (by go_simp)); (have e3 := keepc hb9 (p := ⟨w.heap.size + 1, 1, none⟩) (u := .slice a5 n5 c5) (by go_simp)); (have e4 := keepc hb9 (p := ⟨w1.heap.size, 0, none⟩) (u := .int .i64 sg) (by go_simp)); (have e5 := keepc hb9 (p := ⟨w1.heap.size, 1, none⟩) (u := .slice a1 n1 c1) (by go_simp)); (have e6 := keepc hb9 (p := ⟨w3.heap.size, 0, none⟩) (u := .int .i64 sg) (by go_simp)); (have e7 := keepc hb9 (p := ⟨w3.heap.size, 1, none⟩) (u := .slice a3 n3 c3) (by go_simp))) | (go_at_call 15; refine (Same_c s t a a5 n c n5 c5 l l5 _ (by refine h1.below (B := w4.heap.size) ?_ (Nat.le_refl _); (repeat (first | exact Below.refl _ _ | assumption | refine Below.drew ?_ | refine below_drewN ?_ _ | refine belowA ?_ _ | refine belowT ?_ (by assumption) | refine Below.setCell ?_ (by simp) _))) (by refine h5.below (B := w4.heap.size) ?_ (Nat.le_refl _); (repeat (first | exact Below.refl _ _ | assumption | refine Below.drew ?_ | refine below_drewN ?_ _ | refine belowA ?_ _ | refine belowT ?_ (by assumption) | refine Below.setCell ?_ (by simp) _)))).mono ?_; rintro e w9 ⟨rfl, hb9⟩; (have e0 := keepc hb9 (p := ⟨w.heap.size, 0, none⟩) (u := .int .i64 s) (by go_simp)); (have e1 := keepc hb9 (p := ⟨w.heap.size, 1, none⟩) (u := .slice a n c) (by go_simp)); (have e2 := keepc hb9 (p := ⟨w.heap.size + 1, 0, none⟩) (u := .int .i64 t) (by go_simp)); (have e3 := keepc hb9 (p := ⟨w.heap.size + 1, 1, none⟩) (u := .slice a5 n5 c5) (by go_simp)); (have e4 := keepc hb9 (p := ⟨w1.heap.size, 0, none⟩) (u := .int .i64 sg) (by go_simp)); (have e5 := keepc hb9 (p := ⟨w1.heap.size, 1, none⟩) (u := .slice a1 n1 c1) (by go_simp)); (have e6 := keepc hb9 (p := ⟨w3.heap.size, 0, none⟩) (u := .int .i64 sg) (by go_simp)); (have e7 := keepc hb9 (p := ⟨w3.heap.size, 1, none⟩) (u := .slice a3 n3 c3) (by go_simp))) | (go_at_call_of 16 (Value.slice a5 n5 c5); refine (SameZone_c s t a a5 n c n5 c5 l l5 _ (by refine h1.below (B := w4.heap.size) ?_ (Nat.le_refl _); (repeat (first | exact Below.refl _ _ | assumption | refine Below.drew ?_ | refine below_drewN ?_ _ | refine belowA ?_ _ | refine belowT ?_ (by assumption) | refine Below.setCell ?_ (by simp) _))) (by refine h5.below (B := w4.heap.size) ?_ (Nat.le_refl _); (repeat (first | exact Below.refl _ _ | assumption | refine Below.drew ?_ | refine below_drewN ?_ _ | refine belowA ?_ _ | refine belowT ?_ (by assumption) | refine Below.setCell ?_ (by simp) _)))).mono ?_; rintro e w9 ⟨rfl, hb9⟩; (have e0 := keepc hb9 (p := ⟨w.heap.size, 0, none⟩) (u := .int .i64 s) (by go_simp)); (have e1 := keepc hb9 (p := ⟨w.heap.size, 1, none⟩) (u := .slice a n c) (by go_simp)); (have e2 := keepc hb9 (p := ⟨w.heap.size + 1, 0, none⟩) (u := .int .i64 t) (by go_simp)); (have e3 := keepc hb9 (p := ⟨w.heap.size + 1, 1, none⟩) (u := .slice a5 n5 c5) (by go_simp)); (have e4 := keepc hb9 (p := ⟨w1.heap.size, 0, none⟩) (u := .int .i64 sg) (by go_simp)); (have e5 := keepc hb9 (p := ⟨w1.heap.size, 1, none⟩) (u := .slice a1 n1 c1) (by go_simp)); (have e6 := keepc hb9 (p := ⟨w3.heap.size, 0, none⟩) (u := .int .i64 sg) (by go_simp)); (have e7 := keepc hb9 (p := ⟨w3.heap.size, 1, none⟩) (u := .slice a3 n3 c3) (by go_simp))) | (go_at_call_of 16 (Value.slice a3 n3 c3); refine (SameZone_c sg sg a1 a3 n1 c1 n3 c3 (wL s l k) (wL s l k) _ (by refine i1.below (B := w4.heap.size) ?_ (Nat.le_refl _); (repeat (first | exact Below.refl _ _ | assumption | refine Below.drew ?_ | refine below_drewN ?_ _ | refine belowA ?_ _ | refine belowT ?_ (by assumption) | refine Below.setCell ?_ (by simp) _))) (by refine i3.below (B := w4.heap.size) ?_ (Nat.le_refl _); (repeat (first | exact Below.refl _ _ | assumption | refine Below.drew ?_ | refine below_drewN ?_ _ | refine belowA ?_ _ | refine belowT ?_ (by assumption) | refine Below.setCell ?_ (by simp) _)))).mono ?_; rintro e w9 ⟨rfl, hb9⟩; (rw [show decide (sg = sg ∧ wL s l k = wL s l k) = true from decide_eq_true ⟨rfl, rfl⟩]); (have e0 := keepc hb9 (p := ⟨w.heap.size, 0, none⟩) (u := .int .i64 s) (by go_simp)); (have e1 := keepc hb9 (p := ⟨w.heap.size, 1, none⟩) (u := .slice a n c) (by go_simp)); (have e2 := keepc hb9 (p := ⟨w.heap.size + 1, 0, none⟩) (u := .int .i64 t) (by go_simp)); (have e3 := keepc hb9 (p := ⟨w.heap.size + 1, 1, none⟩) (u := .slice a5 n5 c5) (by go_simp)); (have e4 := keepc hb9 (p := ⟨w1.heap.size, 0, none⟩) (u := .int .i64 sg) (by go_simp)); (have e5 := keepc hb9 (p := ⟨w1.heap.size, 1, none⟩) (u := .slice a1 n1 c1) (by go_simp)); (have e6 := keepc hb9 (p := ⟨w3.heap.size, 0, none⟩) (u := .int .i64 sg) (by go_simp)); (have e7 := keepc hb9 (p := ⟨w3.heap.size, 1, none⟩) (u := .slice a3 n3 c3) (by go_simp))) | (go_at_call 7; refine (Equal_c a2 a4 n2 n4 c2 c4 (rL s l x y) (rL s l x y) _ (by refine i2.below (B := w4.heap.size) ?_ (Nat.le_refl _); (repeat (first | exact Below.refl _ _ | assumption | refine Below.drew ?_ | refine below_drewN ?_ _ | refine belowA ?_ _ | refine belowT ?_ (by assumption) | refine Below.setCell ?_ (by simp) _))) (by refine i4.below (B := w4.heap.size) ?_ (Nat.le_refl _); (repeat (first | exact Below.refl _ _ | assumption | refine Below.drew ?_ | refine below_drewN ?_ _ | refine belowA ?_ _ | refine belowT ?_ (by assumption) | refine Below.setCell ?_ (by simp) _)))).mono ?_; rintro e w9 ⟨rfl, nq9, rfl⟩; (rw [show decide (rL s l x y = rL s l x y) = true from decide_eq_true rfl])))
  go_wp2
  go_ret
  exact ⟨rfl, by (repeat (first | exact Below.refl _ _ | assumption | refine Below.drew ?_ | refine below_drewN ?_ _ | refine belowA ?_ _ | refine belowT ?_ (by assumption) | refine Below.setCell ?_ (by simp) _))⟩

end Go.Proofs.Ytmlbkmncdgiemaa
