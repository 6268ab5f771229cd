/- The contracts of note.Print and note.head; no condition but that the arguments read as data, and the package-level variables are as their texts lay them. -/
import Derived.Test.YtenmamcaldabdaaGreatDoorHallPartsG33
namespace Go.Proofs.YtenmamcaldabdaaGreatDoor
open Go.RowKit
set_option linter.unusedVariables false
set_option maxRecDepth 100000
set_option linter.unusedSimpArgs false

set_option maxRecDepth 100000 in
set_option maxHeartbeats 2000000 in
theorem NPrint_c (x : RV) (w : World) (hE : Env w) (h : x.ok w) : Calls Tryz.prog 46 #[x.v] w fun e w' => e = .returned (.tuple #[textV (printR x.p).1, .int .i64 (printR x.p).2]) ∧ Below w.heap.size w w' := by
  have HK := hide (fun w' hS h' => NCheck_c x w' hS h')
  obtain ⟨⟨q, s, ⟨k, z, m, t, d⟩⟩, a, n, c⟩ := x
  dsimp only [RV.v, RV.ok] at *
  by_cases hck : checkR ⟨q, s, ⟨k, z, m, t, d⟩⟩ = 0
  · have HP : Hid (printR ⟨q, s, ⟨k, z, m, t, d⟩⟩ = (textR ⟨q, s, ⟨k, z, m, t, d⟩⟩, 0)) := hide (by unfold printR; rw [if_pos hck])
    obtain ⟨hq, hs, hc⟩ := checkR_facts hck
    dsimp only at hq hs hc
    have HR := hide (fun w' hE h' => Print_c a n c ⟨k, z, m, t, d⟩ w' hE h')
    have hpr : printC ⟨k, z, m, t, d⟩ = (textC ⟨k, z, m, t, d⟩, 0) := by unfold printC; rw [if_pos hc]
    rw [hpr] at HR
    unfold cmdV textV at HR
    dsimp only at HR
    rw [hck] at HK
    have hcat := cat_eq ⟨q, s, ⟨k, z, m, t, d⟩⟩
    dsimp only at hcat
    have HT := hide hcat
    clear hcat hpr hck
    have hT := textB_size hc
    clear hc
    generalize (⟨(textC ⟨k, z, m, t, d⟩).toArray⟩ : ByteArray) = T at *
    have hA := itoaB_size (v := q) (by omega) (by omega)
    have hB := itoaB_size (v := s) (by omega) (by omega)
    have HI : Hid (∀ v, v = q ∨ v = s → ∀ w', Env w' → Calls Tryz.prog 73 #[.int .i64 v] w' fun e w'' => e = .returned (.string (itoaB v)) ∧ Below w'.heap.size w' w'') := hide (fun v hv w' h' => Itoa_c v (by omega) w' h')
    clear hq hs
    go_enter Tryz.func46, Tryz.ntmps46
    go_wp2_with fail
    refine (HK.out _ (hE.shp.below (by (repeat (first | exact Below.refl _ _ | assumption | refine Below.drew ?_ | refine below_drewN ?_ _ | refine belowA ?_ _ | refine belowT ?_ (by assumption) | refine Below.setCell ?_ (by first | (simp; done) | (simp; omega)) _)))) (h.below (B := w.heap.size) (by (repeat (first | exact Below.refl _ _ | assumption | refine Below.drew ?_ | refine below_drewN ?_ _ | refine belowA ?_ _ | refine belowT ?_ (by assumption) | refine Below.setCell ?_ (by first | (simp; done) | (simp; omega)) _))) (Nat.le_refl _))).mono ?_
    rintro e w1 ⟨rfl, hb1⟩
    have bw1 : Below w.heap.size w w1 := by (repeat (first | exact Below.refl _ _ | assumption | refine Below.drew ?_ | refine below_drewN ?_ _ | refine belowA ?_ _ | refine belowT ?_ (by assumption) | refine Below.setCell ?_ (by first | (simp; done) | (simp; omega)) _))
    have u0 := keepc hb1 (p := ⟨w.heap.size, 0, none⟩) (u := .int .i64 q) (by (first | (go_simp; done) | (simp [*, World.cell?_alloc_at, World.cell?_alloc_past, World.cell?_alloc_some, World.cell?_setCell_far]; done)))
    have u1 := keepc hb1 (p := ⟨w.heap.size, 1, none⟩) (u := .int .i64 s) (by (first | (go_simp; done) | (simp [*, World.cell?_alloc_at, World.cell?_alloc_past, World.cell?_alloc_some, World.cell?_setCell_far]; done)))
    have u2 := keepc hb1 (p := ⟨w.heap.size, 2, none⟩) (u := .int .i64 k) (by (first | (go_simp; done) | (simp [*, World.cell?_alloc_at, World.cell?_alloc_past, World.cell?_alloc_some, World.cell?_setCell_far]; done)))
    have u3 := keepc hb1 (p := ⟨w.heap.size, 3, none⟩) (u := .int .i64 z) (by (first | (go_simp; done) | (simp [*, World.cell?_alloc_at, World.cell?_alloc_past, World.cell?_alloc_some, World.cell?_setCell_far]; done)))
    have u4 := keepc hb1 (p := ⟨w.heap.size, 4, none⟩) (u := .int .i64 m) (by (first | (go_simp; done) | (simp [*, World.cell?_alloc_at, World.cell?_alloc_past, World.cell?_alloc_some, World.cell?_setCell_far]; done)))
    have u5 := keepc hb1 (p := ⟨w.heap.size, 5, none⟩) (u := .int .i64 t) (by (first | (go_simp; done) | (simp [*, World.cell?_alloc_at, World.cell?_alloc_past, World.cell?_alloc_some, World.cell?_setCell_far]; done)))
    have u6 := keepc hb1 (p := ⟨w.heap.size, 6, none⟩) (u := .slice a n c) (by (first | (go_simp; done) | (simp [*, World.cell?_alloc_at, World.cell?_alloc_past, World.cell?_alloc_some, World.cell?_setCell_far]; done)))
    clear hb1 HK
    go_wp2_with fail
    refine (HR.out _ (hE.below bw1) (h.below bw1 (Nat.le_refl _))).mono ?_
    rintro e w2 ⟨rfl, hb2⟩
    have bw2 : Below w.heap.size w w2 := by (repeat (first | exact Below.refl _ _ | assumption | refine Below.drew ?_ | refine below_drewN ?_ _ | refine belowA ?_ _ | refine belowT ?_ (by assumption) | refine Below.setCell ?_ (by first | (simp; done) | (simp; omega)) _))
    have v0 := keepc hb2 (p := ⟨w.heap.size, 0, none⟩) (u := .int .i64 q) (by (first | (go_simp; done) | (simp [*, World.cell?_alloc_at, World.cell?_alloc_past, World.cell?_alloc_some, World.cell?_setCell_far]; done)))
    have v1 := keepc hb2 (p := ⟨w.heap.size, 1, none⟩) (u := .int .i64 s) (by (first | (go_simp; done) | (simp [*, World.cell?_alloc_at, World.cell?_alloc_past, World.cell?_alloc_some, World.cell?_setCell_far]; done)))
    clear hb2 bw1 u0 u1 u2 u3 u4 u5 u6 HR
    go_wp2
    obtain ⟨g1, g2, g3, g4⟩ := cat_ok (itoaB q) (itoaB s) T hA hB hT
    obtain ⟨i1, i2, i3, i4⟩ := cat_ok2 (itoaB q) (itoaB s) T hA hB hT
    go_region_held3 (fun w' => w'.cell? ⟨w.heap.size, 0, none⟩ = some (.int .i64 q) ∧ w'.cell? ⟨w.heap.size, 1, none⟩ = some (.int .i64 s)) ((first | (go_simp; done) | (simp [*, World.cell?_alloc_at, World.cell?_alloc_past, World.cell?_alloc_some, World.cell?_setCell_far]; done))) (first | (go_at_call 73; refine (HI.out _ (by simp) _ (hE.below (by (repeat (first | exact Below.refl _ _ | assumption | refine Below.drew ?_ | refine below_drewN ?_ _ | refine belowA ?_ _ | refine belowT ?_ (by assumption) | refine Below.setCell ?_ (by first | (simp; done) | (simp; omega)) _))))).mono ?_; rintro e w9 ⟨rfl, hb9⟩; (have f0 := keepc hb9 (p := ⟨w.heap.size, 0, none⟩) (u := .int .i64 q) (by (first | (go_simp; done) | (simp [*, World.cell?_alloc_at, World.cell?_alloc_past, World.cell?_alloc_some, World.cell?_setCell_far]; done)))); (have f1 := keepc hb9 (p := ⟨w.heap.size, 1, none⟩) (u := .int .i64 s) (by (first | (go_simp; done) | (simp [*, World.cell?_alloc_at, World.cell?_alloc_past, World.cell?_alloc_some, World.cell?_setCell_far]; done))))))
    go_wp2
    refine bodyPost_ret (v := .tuple #[.string (itoaB q ++ ⟨#[32]⟩ ++ itoaB s ++ ⟨#[58, 32]⟩ ++ T), .int .i64 0]) (by simp [results, Tryz.results46, go_sem]) rfl ⟨?_, by (repeat (first | exact Below.refl _ _ | assumption | refine Below.drew ?_ | refine below_drewN ?_ _ | refine belowA ?_ _ | refine belowT ?_ (by assumption) | refine Below.setCell ?_ (by first | (simp; done) | (simp; omega)) _))⟩
    rw [HP.out, HT.out]
    rfl
  · have HP : Hid (printR ⟨q, s, ⟨k, z, m, t, d⟩⟩ = ([], checkR ⟨q, s, ⟨k, z, m, t, d⟩⟩)) := hide (by unfold printR; rw [if_neg hck])
    have hcb : (checkR ⟨q, s, ⟨k, z, m, t, d⟩⟩ != 0) = true := by simpa using hck
    clear hck
    generalize checkR ⟨q, s, ⟨k, z, m, t, d⟩⟩ = cb at *
    go_enter Tryz.func46, Tryz.ntmps46
    go_wp2_with fail
    refine (HK.out _ (hE.shp.below (by (repeat (first | exact Below.refl _ _ | assumption | refine Below.drew ?_ | refine below_drewN ?_ _ | refine belowA ?_ _ | refine belowT ?_ (by assumption) | refine Below.setCell ?_ (by first | (simp; done) | (simp; omega)) _)))) (h.below (B := w.heap.size) (by (repeat (first | exact Below.refl _ _ | assumption | refine Below.drew ?_ | refine below_drewN ?_ _ | refine belowA ?_ _ | refine belowT ?_ (by assumption) | refine Below.setCell ?_ (by first | (simp; done) | (simp; omega)) _))) (Nat.le_refl _))).mono ?_
    rintro e w1 ⟨rfl, hb1⟩
    go_wp2
    refine bodyPost_ret (v := .tuple #[.string ⟨#[]⟩, .int .i64 cb]) (by simp [results, Tryz.results46, go_sem]) rfl ⟨?_, by (repeat (first | exact Below.refl _ _ | assumption | refine Below.drew ?_ | refine below_drewN ?_ _ | refine belowA ?_ _ | refine belowT ?_ (by assumption) | refine Below.setCell ?_ (by first | (simp; done) | (simp; omega)) _))⟩
    rw [HP.out]
    rfl

/-- What Cut answers. -/
def CutRes (r : Option (List UInt8 × List UInt8)) (e : Ending) : Prop :=
  ∃ (x y : ByteArray) (f : Bool), e = .returned (.tuple #[.string x, .string y, .bool f]) ∧ x.size ≤ 60000 ∧ y.size ≤ 60000 ∧ (f = true → r = some (x.data.toList, y.data.toList)) ∧ (f = false → r = none)
theorem CutC_c (s : ByteArray) (hs : s.size ≤ 60000) (w : World) (hE : Env w) : Calls Tryz.prog 131 #[.string s, .string ⟨#[58, 32]⟩] w fun e w' => CutRes (cutC s.data.toList) e ∧ Below w.heap.size w w' := by
  obtain ⟨m, hm⟩ := hE.max
  refine (Tryz.strings_Cut s ⟨#[58, 32]⟩ m w (by omega) hm).mono ?_
  rintro e w' ⟨rfl, n, rfl⟩
  refine ⟨?_, by (repeat (first | exact Below.refl _ _ | assumption | refine Below.drew ?_ | refine below_drewN ?_ _ | refine belowA ?_ _ | refine belowT ?_ (by assumption) | refine Below.setCell ?_ (by first | (simp; done) | (simp; omega)) _))⟩
  have h := cut_C s.data.toList
  rw [Lib.size_eq] at hs
  cases hc : cutC s.data.toList with
  | none =>
    rw [hc] at h
    simp only at h
    refine ⟨s, ⟨#[]⟩, false, by simp [h], by rw [Lib.size_eq]; exact hs, by decide, (fun q => by cases q), fun _ => rfl⟩
  | some p =>
    obtain ⟨a, b⟩ := p
    rw [hc] at h
    simp only at h
    have hl : s.data.toList.length = _ := congrArg List.length (cutC_some hc)
    simp only [List.length_append, List.length_cons] at hl
    refine ⟨⟨a.toArray⟩, ⟨b.toArray⟩, true, by simp [h], by rw [Lib.size_eq]; simp; omega, by rw [Lib.size_eq]; simp; omega, fun _ => rfl, (fun q => by cases q)⟩
theorem CutB_c (s : ByteArray) (hs : s.size ≤ 60000) (w : World) (hE : Env w) : Calls Tryz.prog 131 #[.string s, .string ⟨#[32]⟩] w fun e w' => CutRes (cutB s.data.toList) e ∧ Below w.heap.size w w' := by
  obtain ⟨m, hm⟩ := hE.max
  refine (Tryz.strings_Cut s ⟨#[32]⟩ m w (by omega) hm).mono ?_
  rintro e w' ⟨rfl, n, rfl⟩
  refine ⟨?_, by (repeat (first | exact Below.refl _ _ | assumption | refine Below.drew ?_ | refine below_drewN ?_ _ | refine belowA ?_ _ | refine belowT ?_ (by assumption) | refine Below.setCell ?_ (by first | (simp; done) | (simp; omega)) _))⟩
  have h := cut_B s.data.toList
  rw [Lib.size_eq] at hs
  cases hc : cutB s.data.toList with
  | none =>
    rw [hc] at h
    simp only at h
    refine ⟨s, ⟨#[]⟩, false, by simp [h], by rw [Lib.size_eq]; exact hs, by decide, (fun q => by cases q), fun _ => rfl⟩
  | some p =>
    obtain ⟨a, b⟩ := p
    rw [hc] at h
    simp only at h
    have hl : s.data.toList.length = _ := congrArg List.length (cutB_some hc)
    simp only [List.length_append, List.length_cons] at hl
    refine ⟨⟨a.toArray⟩, ⟨b.toArray⟩, true, by simp [h], by rw [Lib.size_eq]; simp; omega, by rw [Lib.size_eq]; simp; omega, fun _ => rfl, (fun q => by cases q)⟩

def headV (v u : Int) : Value := .agg #[.int .i64 v, .int .i64 u, .int .i64 0, .int .i64 0, .int .i64 0, .int .i64 0, .slice none 0 0]
/-- What head answers. -/
def HeadRes (r : Option (Int × Int × List UInt8)) (e : Ending) : Prop :=
  (∃ v u, ∃ t : ByteArray, r = some (v, u, t.data.toList) ∧ t.size ≤ 60000 ∧ e = .returned (.tuple #[headV v u, .string t, .bool true])) ∨ (r = none ∧ e = .returned (.tuple #[headV 0 0, .string ⟨#[]⟩, .bool false]))
theorem HeadRes.none' {r : Option (Int × Int × List UInt8)} {e : Ending} (h : r = none) (k : e = .returned (.tuple #[headV 0 0, .string ⟨#[]⟩, .bool false])) : HeadRes r e := .inr ⟨h, k⟩

set_option maxRecDepth 100000 in
set_option maxHeartbeats 4000000 in
theorem head_c (s : ByteArray) (hs : s.size ≤ 60000) (w : World) (hE : Env w) : Calls Tryz.prog 102 #[.string s] w fun e w' => HeadRes (headS s.data.toList) e ∧ Below w.heap.size w w' := by
  have xR := Lay.made w [.int .i64 0, .int .i64 0, .int .i64 0, .int .i64 0, .int .i64 0, .int .i64 0, .slice none 0 0] 34
  have bw : Below w.heap.size w (w.alloc (.cells [.int .i64 0, .int .i64 0, .int .i64 0, .int .i64 0, .int .i64 0, .int .i64 0, .slice none 0 0].toArray 34)) := by (repeat (first | exact Below.refl _ _ | assumption | refine Below.drew ?_ | refine below_drewN ?_ _ | refine belowA ?_ _ | refine belowT ?_ (by assumption) | refine Below.setCell ?_ (by first | (simp; done) | (simp; omega)) _))
  go_enter Tryz.func102, Tryz.ntmps102
  go_wp2_with fail
  refine (CutC_c s hs _ (hE.below bw)).mono ?_
  rintro e w1 ⟨⟨x, y, f, rfl, hx, hy, hf1, hf0⟩, hb1⟩
  replace xR := xR.below hb1
  replace bw := belowT bw hb1
  have HF1 := hide hf1
  have HF0 := hide hf0
  clear hf1 hf0 hb1
  go_wp2_with fail
  refine (CutB_c x hx _ (hE.below bw)).mono ?_
  rintro e w2 ⟨⟨a, b, g, rfl, ha, hb, hg1, hg0⟩, hb2⟩
  replace xR := xR.below hb2
  replace bw := belowT bw hb2
  have HG1 := hide hg1
  have HG0 := hide hg0
  clear hg1 hg0 hb2
  go_wp2_with fail
  refine (number_c a (by omega) _ (hE.below bw)).mono ?_
  rintro e w3 ⟨⟨v, i, rfl, hi1, hi0⟩, hb3⟩
  replace xR := xR.below hb3
  replace bw := belowT bw hb3
  have HI1 := hide hi1
  have HI0 := hide hi0
  clear hi1 hi0 hb3
  go_wp2_with fail
  refine (number_c b (by omega) _ (hE.below bw)).mono ?_
  rintro e w4 ⟨⟨u, j, rfl, hj1, hj0⟩, hb4⟩
  replace xR := xR.below hb4
  replace bw := belowT bw hb4
  have HJ1 := hide hj1
  have HJ0 := hide hj0
  clear hj1 hj0 hb4
  have e0 := xR.cell 0 _ rfl
  have e1 := xR.cell 1 _ rfl
  have e2 := xR.cell 2 _ rfl
  have e3 := xR.cell 3 _ rfl
  have e4 := xR.cell 4 _ rfl
  have e5 := xR.cell 5 _ rfl
  have e6 := xR.cell 6 _ rfl
  have f0 := xR.ice 0
  have f1 := xR.ice 1
  have f2 := xR.ice 2
  have f3 := xR.ice 3
  have f4 := xR.ice 4
  have f5 := xR.ice 5
  have f6 := xR.ice 6
  cases f
  · have HH : Hid (headS s.data.toList = none) := hide (by simp [headS, HF0.out rfl])
    go_wp2
    have zB := ((((((xR.set 0 (.int .i64 (0))).set 1 (.int .i64 (0))).set 2 (.int .i64 (0))).set 3 (.int .i64 (0))).set 4 (.int .i64 (0))).set 5 (.int .i64 (0))).set 6 (.slice none 0 0)
    have hbut := (((((((ButI.refl (w.heap.size) (w4)).step 0 (.int .i64 (0))).step 1 (.int .i64 (0))).step 2 (.int .i64 (0))).step 3 (.int .i64 (0))).step 4 (.int .i64 (0))).step 5 (.int .i64 (0))).step 6 (.slice none 0 0)
    generalize (((((((w4).setCell ⟨w.heap.size, 0, none⟩ (.int .i64 (0))).setCell ⟨w.heap.size, 1, none⟩ (.int .i64 (0))).setCell ⟨w.heap.size, 2, none⟩ (.int .i64 (0))).setCell ⟨w.heap.size, 3, none⟩ (.int .i64 (0))).setCell ⟨w.heap.size, 4, none⟩ (.int .i64 (0))).setCell ⟨w.heap.size, 5, none⟩ (.int .i64 (0))).setCell ⟨w.heap.size, 6, none⟩ (.slice none 0 0) = w99 at *
    have y0 := zB.cell 0 _ rfl
    have y1 := zB.cell 1 _ rfl
    have y2 := zB.cell 2 _ rfl
    have y3 := zB.cell 3 _ rfl
    have y4 := zB.cell 4 _ rfl
    have y5 := zB.cell 5 _ rfl
    have y6 := zB.cell 6 _ rfl
    refine bodyPost_ret (v := .tuple #[headV 0 0, .string ⟨#[]⟩, .bool false]) (by simp [results, Tryz.results102, go_sem, headV, y0, y1, y2, y3, y4, y5, y6]) rfl ⟨.none' HH.out rfl, bw.trans hbut.but.low⟩
  · cases g
    · have HH : Hid (headS s.data.toList = none) := hide (by simp [headS, HF1.out rfl, headR, HG0.out rfl])
      go_wp2
      have zB := ((((((xR.set 0 (.int .i64 (0))).set 1 (.int .i64 (0))).set 2 (.int .i64 (0))).set 3 (.int .i64 (0))).set 4 (.int .i64 (0))).set 5 (.int .i64 (0))).set 6 (.slice none 0 0)
      have hbut := (((((((ButI.refl (w.heap.size) (w4)).step 0 (.int .i64 (0))).step 1 (.int .i64 (0))).step 2 (.int .i64 (0))).step 3 (.int .i64 (0))).step 4 (.int .i64 (0))).step 5 (.int .i64 (0))).step 6 (.slice none 0 0)
      generalize (((((((w4).setCell ⟨w.heap.size, 0, none⟩ (.int .i64 (0))).setCell ⟨w.heap.size, 1, none⟩ (.int .i64 (0))).setCell ⟨w.heap.size, 2, none⟩ (.int .i64 (0))).setCell ⟨w.heap.size, 3, none⟩ (.int .i64 (0))).setCell ⟨w.heap.size, 4, none⟩ (.int .i64 (0))).setCell ⟨w.heap.size, 5, none⟩ (.int .i64 (0))).setCell ⟨w.heap.size, 6, none⟩ (.slice none 0 0) = w99 at *
      have y0 := zB.cell 0 _ rfl
      have y1 := zB.cell 1 _ rfl
      have y2 := zB.cell 2 _ rfl
      have y3 := zB.cell 3 _ rfl
      have y4 := zB.cell 4 _ rfl
      have y5 := zB.cell 5 _ rfl
      have y6 := zB.cell 6 _ rfl
      refine bodyPost_ret (v := .tuple #[headV 0 0, .string ⟨#[]⟩, .bool false]) (by simp [results, Tryz.results102, go_sem, headV, y0, y1, y2, y3, y4, y5, y6]) rfl ⟨.none' HH.out rfl, bw.trans hbut.but.low⟩
    · cases i
      · have HH : Hid (headS s.data.toList = none) := hide (by simp [headS, HF1.out rfl, headR, HG1.out rfl, HI0.out rfl])
        go_wp2
        have zB := ((((((xR.set 0 (.int .i64 (0))).set 1 (.int .i64 (0))).set 2 (.int .i64 (0))).set 3 (.int .i64 (0))).set 4 (.int .i64 (0))).set 5 (.int .i64 (0))).set 6 (.slice none 0 0)
        have hbut := (((((((ButI.refl (w.heap.size) (w4)).step 0 (.int .i64 (0))).step 1 (.int .i64 (0))).step 2 (.int .i64 (0))).step 3 (.int .i64 (0))).step 4 (.int .i64 (0))).step 5 (.int .i64 (0))).step 6 (.slice none 0 0)
        generalize (((((((w4).setCell ⟨w.heap.size, 0, none⟩ (.int .i64 (0))).setCell ⟨w.heap.size, 1, none⟩ (.int .i64 (0))).setCell ⟨w.heap.size, 2, none⟩ (.int .i64 (0))).setCell ⟨w.heap.size, 3, none⟩ (.int .i64 (0))).setCell ⟨w.heap.size, 4, none⟩ (.int .i64 (0))).setCell ⟨w.heap.size, 5, none⟩ (.int .i64 (0))).setCell ⟨w.heap.size, 6, none⟩ (.slice none 0 0) = w99 at *
        have y0 := zB.cell 0 _ rfl
        have y1 := zB.cell 1 _ rfl
        have y2 := zB.cell 2 _ rfl
        have y3 := zB.cell 3 _ rfl
        have y4 := zB.cell 4 _ rfl
        have y5 := zB.cell 5 _ rfl
        have y6 := zB.cell 6 _ rfl
        refine bodyPost_ret (v := .tuple #[headV 0 0, .string ⟨#[]⟩, .bool false]) (by simp [results, Tryz.results102, go_sem, headV, y0, y1, y2, y3, y4, y5, y6]) rfl ⟨.none' HH.out rfl, bw.trans hbut.but.low⟩
      · cases j
        · have HH : Hid (headS s.data.toList = none) := hide (by simp [headS, HF1.out rfl, headR, HG1.out rfl, HI1.out rfl, HJ0.out rfl])
          go_wp2
          have zB := ((((((xR.set 0 (.int .i64 (0))).set 1 (.int .i64 (0))).set 2 (.int .i64 (0))).set 3 (.int .i64 (0))).set 4 (.int .i64 (0))).set 5 (.int .i64 (0))).set 6 (.slice none 0 0)
          have hbut := (((((((ButI.refl (w.heap.size) (w4)).step 0 (.int .i64 (0))).step 1 (.int .i64 (0))).step 2 (.int .i64 (0))).step 3 (.int .i64 (0))).step 4 (.int .i64 (0))).step 5 (.int .i64 (0))).step 6 (.slice none 0 0)
          generalize (((((((w4).setCell ⟨w.heap.size, 0, none⟩ (.int .i64 (0))).setCell ⟨w.heap.size, 1, none⟩ (.int .i64 (0))).setCell ⟨w.heap.size, 2, none⟩ (.int .i64 (0))).setCell ⟨w.heap.size, 3, none⟩ (.int .i64 (0))).setCell ⟨w.heap.size, 4, none⟩ (.int .i64 (0))).setCell ⟨w.heap.size, 5, none⟩ (.int .i64 (0))).setCell ⟨w.heap.size, 6, none⟩ (.slice none 0 0) = w99 at *
          have y0 := zB.cell 0 _ rfl
          have y1 := zB.cell 1 _ rfl
          have y2 := zB.cell 2 _ rfl
          have y3 := zB.cell 3 _ rfl
          have y4 := zB.cell 4 _ rfl
          have y5 := zB.cell 5 _ rfl
          have y6 := zB.cell 6 _ rfl
          refine bodyPost_ret (v := .tuple #[headV 0 0, .string ⟨#[]⟩, .bool false]) (by simp [results, Tryz.results102, go_sem, headV, y0, y1, y2, y3, y4, y5, y6]) rfl ⟨.none' HH.out rfl, bw.trans hbut.but.low⟩
        · have HH : Hid (headS s.data.toList = some (v, u, y.data.toList)) := hide (by simp [headS, HF1.out rfl, headR, HG1.out rfl, HI1.out rfl, HJ1.out rfl])
          go_wp2
          have zB := ((((((xR.set 0 (.int .i64 (v))).set 1 (.int .i64 (u))).set 2 (.int .i64 (0))).set 3 (.int .i64 (0))).set 4 (.int .i64 (0))).set 5 (.int .i64 (0))).set 6 (.slice none 0 0)
          have hbut := (((((((ButI.refl (w.heap.size) (w4)).step 0 (.int .i64 (v))).step 1 (.int .i64 (u))).step 2 (.int .i64 (0))).step 3 (.int .i64 (0))).step 4 (.int .i64 (0))).step 5 (.int .i64 (0))).step 6 (.slice none 0 0)
          generalize (((((((w4).setCell ⟨w.heap.size, 0, none⟩ (.int .i64 (v))).setCell ⟨w.heap.size, 1, none⟩ (.int .i64 (u))).setCell ⟨w.heap.size, 2, none⟩ (.int .i64 (0))).setCell ⟨w.heap.size, 3, none⟩ (.int .i64 (0))).setCell ⟨w.heap.size, 4, none⟩ (.int .i64 (0))).setCell ⟨w.heap.size, 5, none⟩ (.int .i64 (0))).setCell ⟨w.heap.size, 6, none⟩ (.slice none 0 0) = w99 at *
          have y0 := zB.cell 0 _ rfl
          have y1 := zB.cell 1 _ rfl
          have y2 := zB.cell 2 _ rfl
          have y3 := zB.cell 3 _ rfl
          have y4 := zB.cell 4 _ rfl
          have y5 := zB.cell 5 _ rfl
          have y6 := zB.cell 6 _ rfl
          refine bodyPost_ret (v := .tuple #[headV v u, .string y, .bool true]) (by simp [results, Tryz.results102, go_sem, headV, y0, y1, y2, y3, y4, y5, y6]) rfl ⟨.inl ⟨v, u, y, HH.out, hy, rfl⟩, bw.trans hbut.but.low⟩

end Go.Proofs.YtenmamcaldabdaaGreatDoor
