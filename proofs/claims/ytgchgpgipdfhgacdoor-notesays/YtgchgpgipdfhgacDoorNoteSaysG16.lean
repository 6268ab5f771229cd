/- The contracts of the document's own CheckRec, SameRec, RecText, whole; no condition but that the arguments read as data, and the package-level variables are as their texts lay them. -/
import Derived.Test.YtgchgpgipdfhgacDoorNoteSaysG14
import Derived.Test.YtgchgpgipdfhgacDoorNoteSaysG15
namespace Go.Proofs.YtgchgpgipdfhgacDoor
open Go.RowKit
set_option linter.unusedVariables false
set_option maxRecDepth 100000
set_option linter.unusedSimpArgs false

set_option maxHeartbeats 1000000 in
theorem CheckRec_c (x : RV) (w : World) (h : x.ok w) : Calls Tryd.prog 48 #[x.v] w fun e w' => e = .returned (.int .i64 (checkR x.p)) ∧ Below w.heap.size w w' := by
  obtain ⟨⟨q, s, ⟨k, z, m, t, d⟩⟩, a, n, c⟩ := x
  dsimp only [RV.v, RV.ok] at *
  have HC := hide (fun w' h' => CheckCmd_c a n c ⟨k, z, m, t, d⟩ w' h')
  have HK : Hid (checkR ⟨q, s, ⟨k, z, m, t, d⟩⟩ = if inB q 0 2 = false ∨ inB s 1 40 = false then 3 else checkC ⟨k, z, m, t, d⟩) := hide rfl
  unfold cmdV at HC
  dsimp only at HC
  go_enter Tryd.func48, Tryd.ntmps48
  go_wp2_with fail
  refine (in_c _ _ _ _).mono ?_
  rintro e w1 ⟨rfl, rfl⟩
  cases h1 : inB q 0 2
  · go_wp2
    go_ret
    exact ⟨ret_int (by rw [HK.out]; simp [h1]), by (repeat (first | exact Below.refl _ _ | assumption | refine Below.drew ?_ | refine below_drewN ?_ _ | refine belowA ?_ _ | refine belowT ?_ (by assumption) | refine Below.setCell ?_ (by first | (simp; done) | (simp; omega)) _))⟩
  · go_wp2_with fail
    refine (in_c _ _ _ _).mono ?_
    rintro e w1 ⟨rfl, rfl⟩
    cases h2 : inB s 1 40
    · go_wp2
      go_ret
      exact ⟨ret_int (by rw [HK.out]; simp [h2]), by (repeat (first | exact Below.refl _ _ | assumption | refine Below.drew ?_ | refine below_drewN ?_ _ | refine belowA ?_ _ | refine belowT ?_ (by assumption) | refine Below.setCell ?_ (by first | (simp; done) | (simp; omega)) _))⟩
    · go_wp2_with fail
      refine (HC.out _ (h.below (B := w.heap.size) (by (repeat (first | exact Below.refl _ _ | assumption | refine Below.drew ?_ | refine below_drewN ?_ _ | refine belowA ?_ _ | refine belowT ?_ (by assumption) | refine Below.setCell ?_ (by first | (simp; done) | (simp; omega)) _))) (Nat.le_refl _))).mono ?_
      rintro e w3 ⟨rfl, hb3⟩
      go_wp2
      go_ret
      exact ⟨ret_int (by rw [HK.out]; simp [h1, h2]), by (repeat (first | exact Below.refl _ _ | assumption | refine Below.drew ?_ | refine below_drewN ?_ _ | refine belowA ?_ _ | refine belowT ?_ (by assumption) | refine Below.setCell ?_ (by first | (simp; done) | (simp; omega)) _))⟩

set_option maxHeartbeats 1000000 in
theorem SameRec_c (x y : RV) (w : World) (h : x.ok w) (k : y.ok w) : Calls Tryd.prog 28 #[x.v, y.v] w fun e w' => e = .returned (.bool (sameR x.p y.p)) ∧ Below w.heap.size w w' := by
  obtain ⟨⟨q1, s1, ⟨k1, z1, m1, t1, d1⟩⟩, a1, n1, c1⟩ := x
  obtain ⟨⟨q2, s2, ⟨k2, z2, m2, t2, d2⟩⟩, a2, n2, c2⟩ := y
  dsimp only [RV.v, RV.ok] at *
  have HC := hide (fun w' h1 h2 => SameCmd_c a1 a2 n1 n2 c1 c2 ⟨k1, z1, m1, t1, d1⟩ ⟨k2, z2, m2, t2, d2⟩ w' h1 h2)
  have HK : Hid (sameR ⟨q1, s1, ⟨k1, z1, m1, t1, d1⟩⟩ ⟨q2, s2, ⟨k2, z2, m2, t2, d2⟩⟩ = (q1 == q2 && s1 == s2 && sameC ⟨k1, z1, m1, t1, d1⟩ ⟨k2, z2, m2, t2, d2⟩)) := hide (by
    rw [Bool.eq_iff_iff]
    simp [sameR])
  unfold cmdV at HC
  dsimp only at HC
  go_enter Tryd.func28, Tryd.ntmps28
  cases e1 : q1 == q2
  · go_wp2
    go_ret
    exact ⟨ret_bool (by rw [HK.out, e1]; rfl), by (repeat (first | exact Below.refl _ _ | assumption | refine Below.drew ?_ | refine below_drewN ?_ _ | refine belowA ?_ _ | refine belowT ?_ (by assumption) | refine Below.setCell ?_ (by first | (simp; done) | (simp; omega)) _))⟩
  · cases e2 : s1 == s2
    · go_wp2
      go_ret
      exact ⟨ret_bool (by rw [HK.out, e1, e2]; rfl), by (repeat (first | exact Below.refl _ _ | assumption | refine Below.drew ?_ | refine below_drewN ?_ _ | refine belowA ?_ _ | refine belowT ?_ (by assumption) | refine Below.setCell ?_ (by first | (simp; done) | (simp; omega)) _))⟩
    · go_wp2_with fail
      refine (HC.out _ (h.below (B := w.heap.size) (by (repeat (first | exact Below.refl _ _ | assumption | refine Below.drew ?_ | refine below_drewN ?_ _ | refine belowA ?_ _ | refine belowT ?_ (by assumption) | refine Below.setCell ?_ (by first | (simp; done) | (simp; omega)) _))) (Nat.le_refl _)) (k.below (B := w.heap.size) (by (repeat (first | exact Below.refl _ _ | assumption | refine Below.drew ?_ | refine below_drewN ?_ _ | refine belowA ?_ _ | refine belowT ?_ (by assumption) | refine Below.setCell ?_ (by first | (simp; done) | (simp; omega)) _))) (Nat.le_refl _))).mono ?_
      rintro e w3 ⟨rfl, hb3⟩
      go_wp2
      go_ret
      exact ⟨ret_bool (by rw [HK.out, e1, e2]; rfl), by (repeat (first | exact Below.refl _ _ | assumption | refine Below.drew ?_ | refine below_drewN ?_ _ | refine belowA ?_ _ | refine belowT ?_ (by assumption) | refine Below.setCell ?_ (by first | (simp; done) | (simp; omega)) _))⟩

set_option maxRecDepth 100000 in
set_option maxHeartbeats 4000000 in
theorem RecText_c (x : RV) (w : World) (hE : Env w) (h : x.ok w) : Calls Tryd.prog 24 #[x.v] w fun e w' => e = .returned (.tuple #[textV (printR x.p).1, .int .i64 (printR x.p).2]) ∧ Below w.heap.size w w' := by
  have HK := hide (fun w' h' => CheckRec_c x w' h')
  obtain ⟨⟨q, s, ⟨k, z, m, t, d⟩⟩, a, n, c⟩ := x
  dsimp only [RV.v, RV.ok] at *
  by_cases hck : checkR ⟨q, s, ⟨k, z, m, t, d⟩⟩ = 0
  · have HP : Hid (printR ⟨q, s, ⟨k, z, m, t, d⟩⟩ = (textR ⟨q, s, ⟨k, z, m, t, d⟩⟩, 0)) := hide (by unfold printR; rw [if_pos hck])
    obtain ⟨hq, hs, hc⟩ := checkR_facts hck
    dsimp only at hq hs hc
    have HR := hide (fun w' hE h' => CmdText_c a n c ⟨k, z, m, t, d⟩ w' hE h' hc)
    unfold cmdV textV at HR
    dsimp only at HR
    rw [hck] at HK
    have hcat := cat_eq ⟨q, s, ⟨k, z, m, t, d⟩⟩
    dsimp only at hcat
    have HT := hide hcat
    clear hcat hck
    have hT := textB_size hc
    clear hc
    generalize (⟨(textC ⟨k, z, m, t, d⟩).toArray⟩ : ByteArray) = T at *
    have hA := itoaB_size (v := q) (by omega) (by omega)
    have hB := itoaB_size (v := s) (by omega) (by omega)
    have HI : Hid (∀ v, v = q ∨ v = s → ∀ w', Env w' → Calls Tryd.prog 32 #[.int .i64 v] w' fun e w'' => e = .returned (.string (itoaB v)) ∧ Below w'.heap.size w' w'') := hide (fun v hv w' h' => Itoa_c v (by omega) w' h')
    clear hq hs
    go_enter Tryd.func24, Tryd.ntmps24
    go_wp2_with fail
    refine (HK.out _ (h.below (B := w.heap.size) (by (repeat (first | exact Below.refl _ _ | assumption | refine Below.drew ?_ | refine below_drewN ?_ _ | refine belowA ?_ _ | refine belowT ?_ (by assumption) | refine Below.setCell ?_ (by first | (simp; done) | (simp; omega)) _))) (Nat.le_refl _))).mono ?_
    rintro e w2 ⟨rfl, hb2⟩
    have bw2 : Below w.heap.size w w2 := by (repeat (first | exact Below.refl _ _ | assumption | refine Below.drew ?_ | refine below_drewN ?_ _ | refine belowA ?_ _ | refine belowT ?_ (by assumption) | refine Below.setCell ?_ (by first | (simp; done) | (simp; omega)) _))
    have v0 := keepc hb2 (p := ⟨w.heap.size, 0, none⟩) (u := .int .i64 q) (by (first | (go_simp; done) | (simp [*, World.cell?_alloc_at, World.cell?_alloc_past, World.cell?_alloc_some, World.cell?_setCell_far]; done)))
    have v1 := keepc hb2 (p := ⟨w.heap.size, 1, none⟩) (u := .int .i64 s) (by (first | (go_simp; done) | (simp [*, World.cell?_alloc_at, World.cell?_alloc_past, World.cell?_alloc_some, World.cell?_setCell_far]; done)))
    have v2 := keepc hb2 (p := ⟨w.heap.size, 2, none⟩) (u := .int .i64 k) (by (first | (go_simp; done) | (simp [*, World.cell?_alloc_at, World.cell?_alloc_past, World.cell?_alloc_some, World.cell?_setCell_far]; done)))
    have v3 := keepc hb2 (p := ⟨w.heap.size, 3, none⟩) (u := .int .i64 z) (by (first | (go_simp; done) | (simp [*, World.cell?_alloc_at, World.cell?_alloc_past, World.cell?_alloc_some, World.cell?_setCell_far]; done)))
    have v4 := keepc hb2 (p := ⟨w.heap.size, 4, none⟩) (u := .int .i64 m) (by (first | (go_simp; done) | (simp [*, World.cell?_alloc_at, World.cell?_alloc_past, World.cell?_alloc_some, World.cell?_setCell_far]; done)))
    have v5 := keepc hb2 (p := ⟨w.heap.size, 5, none⟩) (u := .int .i64 t) (by (first | (go_simp; done) | (simp [*, World.cell?_alloc_at, World.cell?_alloc_past, World.cell?_alloc_some, World.cell?_setCell_far]; done)))
    have v6 := keepc hb2 (p := ⟨w.heap.size, 6, none⟩) (u := .slice a n c) (by (first | (go_simp; done) | (simp [*, World.cell?_alloc_at, World.cell?_alloc_past, World.cell?_alloc_some, World.cell?_setCell_far]; done)))
    clear hb2 HK
    go_wp2
    obtain ⟨g1, g2, g3, g4⟩ := cat_ok (itoaB q) (itoaB s) T hA hB hT
    obtain ⟨i1, i2, i3, i4⟩ := cat_ok2 (itoaB q) (itoaB s) T hA hB hT
    go_region_held3 (fun w' => w'.cell? ⟨w.heap.size, 0, none⟩ = some (.int .i64 q) ∧ w'.cell? ⟨w.heap.size, 1, none⟩ = some (.int .i64 s) ∧ w'.cell? ⟨w.heap.size, 2, none⟩ = some (.int .i64 k) ∧ w'.cell? ⟨w.heap.size, 3, none⟩ = some (.int .i64 z) ∧ w'.cell? ⟨w.heap.size, 4, none⟩ = some (.int .i64 m) ∧ w'.cell? ⟨w.heap.size, 5, none⟩ = some (.int .i64 t) ∧ w'.cell? ⟨w.heap.size, 6, none⟩ = some (.slice a n c)) ((first | (go_simp; done) | (simp [*, World.cell?_alloc_at, World.cell?_alloc_past, World.cell?_alloc_some, World.cell?_setCell_far]; done))) (first
      | (go_at_call 32; refine (HI.out _ (by simp) _ (hE.below (by (repeat (first | exact Below.refl _ _ | assumption | refine Below.drew ?_ | refine below_drewN ?_ _ | refine belowA ?_ _ | refine belowT ?_ (by assumption) | refine Below.setCell ?_ (by first | (simp; done) | (simp; omega)) _))))).mono ?_; rintro e w9 ⟨rfl, hb9⟩; (have f0 := keepc hb9 (p := ⟨w.heap.size, 0, none⟩) (u := .int .i64 q) (by (first | (go_simp; done) | (simp [*, World.cell?_alloc_at, World.cell?_alloc_past, World.cell?_alloc_some, World.cell?_setCell_far]; done)))); (have f1 := keepc hb9 (p := ⟨w.heap.size, 1, none⟩) (u := .int .i64 s) (by (first | (go_simp; done) | (simp [*, World.cell?_alloc_at, World.cell?_alloc_past, World.cell?_alloc_some, World.cell?_setCell_far]; done)))); (have f2 := keepc hb9 (p := ⟨w.heap.size, 2, none⟩) (u := .int .i64 k) (by (first | (go_simp; done) | (simp [*, World.cell?_alloc_at, World.cell?_alloc_past, World.cell?_alloc_some, World.cell?_setCell_far]; done)))); (have f3 := keepc hb9 (p := ⟨w.heap.size, 3, none⟩) (u := .int .i64 z) (by (first | (go_simp; done) | (simp [*, World.cell?_alloc_at, World.cell?_alloc_past, World.cell?_alloc_some, World.cell?_setCell_far]; done)))); (have f4 := keepc hb9 (p := ⟨w.heap.size, 4, none⟩) (u := .int .i64 m) (by (first | (go_simp; done) | (simp [*, World.cell?_alloc_at, World.cell?_alloc_past, World.cell?_alloc_some, World.cell?_setCell_far]; done)))); (have f5 := keepc hb9 (p := ⟨w.heap.size, 5, none⟩) (u := .int .i64 t) (by (first | (go_simp; done) | (simp [*, World.cell?_alloc_at, World.cell?_alloc_past, World.cell?_alloc_some, World.cell?_setCell_far]; done)))); (have f6 := keepc hb9 (p := ⟨w.heap.size, 6, none⟩) (u := .slice a n c) (by (first | (go_simp; done) | (simp [*, World.cell?_alloc_at, World.cell?_alloc_past, World.cell?_alloc_some, World.cell?_setCell_far]; done)))))
      | (go_at_call 49; refine (HR.out _ (hE.below (by (repeat (first | exact Below.refl _ _ | assumption | refine Below.drew ?_ | refine below_drewN ?_ _ | refine belowA ?_ _ | refine belowT ?_ (by assumption) | refine Below.setCell ?_ (by first | (simp; done) | (simp; omega)) _)))) (by refine Ints.below h (B := w.heap.size) ?_ (Nat.le_refl _); (repeat (first | exact Below.refl _ _ | assumption | refine Below.drew ?_ | refine below_drewN ?_ _ | refine belowA ?_ _ | refine belowT ?_ (by assumption) | refine Below.setCell ?_ (by first | (simp; done) | (simp; omega)) _)))).mono ?_; rintro e w8 ⟨rfl, hb8⟩; (have k0 := keepc hb8 (p := ⟨w.heap.size, 0, none⟩) (u := .int .i64 q) (by (first | (go_simp; done) | (simp [*, World.cell?_alloc_at, World.cell?_alloc_past, World.cell?_alloc_some, World.cell?_setCell_far]; done)))); (have k1 := keepc hb8 (p := ⟨w.heap.size, 1, none⟩) (u := .int .i64 s) (by (first | (go_simp; done) | (simp [*, World.cell?_alloc_at, World.cell?_alloc_past, World.cell?_alloc_some, World.cell?_setCell_far]; done)))); (have k2 := keepc hb8 (p := ⟨w.heap.size, 2, none⟩) (u := .int .i64 k) (by (first | (go_simp; done) | (simp [*, World.cell?_alloc_at, World.cell?_alloc_past, World.cell?_alloc_some, World.cell?_setCell_far]; done)))); (have k3 := keepc hb8 (p := ⟨w.heap.size, 3, none⟩) (u := .int .i64 z) (by (first | (go_simp; done) | (simp [*, World.cell?_alloc_at, World.cell?_alloc_past, World.cell?_alloc_some, World.cell?_setCell_far]; done)))); (have k4 := keepc hb8 (p := ⟨w.heap.size, 4, none⟩) (u := .int .i64 m) (by (first | (go_simp; done) | (simp [*, World.cell?_alloc_at, World.cell?_alloc_past, World.cell?_alloc_some, World.cell?_setCell_far]; done)))); (have k5 := keepc hb8 (p := ⟨w.heap.size, 5, none⟩) (u := .int .i64 t) (by (first | (go_simp; done) | (simp [*, World.cell?_alloc_at, World.cell?_alloc_past, World.cell?_alloc_some, World.cell?_setCell_far]; done)))); (have k6 := keepc hb8 (p := ⟨w.heap.size, 6, none⟩) (u := .slice a n c) (by (first | (go_simp; done) | (simp [*, World.cell?_alloc_at, World.cell?_alloc_past, World.cell?_alloc_some, World.cell?_setCell_far]; done))))))
    go_wp2
    refine bodyPost_ret (v := .tuple #[.string (itoaB q ++ ⟨#[32]⟩ ++ itoaB s ++ ⟨#[58, 32]⟩ ++ T), .int .i64 0]) (by simp [results, Tryd.results24, go_sem]) rfl ⟨?_, by (repeat (first | exact Below.refl _ _ | assumption | refine Below.drew ?_ | refine below_drewN ?_ _ | refine belowA ?_ _ | refine belowT ?_ (by assumption) | refine Below.setCell ?_ (by first | (simp; done) | (simp; omega)) _))⟩
    rw [HP.out, HT.out]
    rfl
  · have HP : Hid (printR ⟨q, s, ⟨k, z, m, t, d⟩⟩ = ([], checkR ⟨q, s, ⟨k, z, m, t, d⟩⟩)) := hide (by unfold printR; rw [if_neg hck])
    have hcb : (checkR ⟨q, s, ⟨k, z, m, t, d⟩⟩ != 0) = true := by simpa using hck
    clear hck
    generalize checkR ⟨q, s, ⟨k, z, m, t, d⟩⟩ = cb at *
    go_enter Tryd.func24, Tryd.ntmps24
    go_wp2_with fail
    refine (HK.out _ (h.below (B := w.heap.size) (by (repeat (first | exact Below.refl _ _ | assumption | refine Below.drew ?_ | refine below_drewN ?_ _ | refine belowA ?_ _ | refine belowT ?_ (by assumption) | refine Below.setCell ?_ (by first | (simp; done) | (simp; omega)) _))) (Nat.le_refl _))).mono ?_
    rintro e w1 ⟨rfl, hb1⟩
    go_wp2
    refine bodyPost_ret (v := .tuple #[.string ⟨#[]⟩, .int .i64 cb]) (by simp [results, Tryd.results24, go_sem]) rfl ⟨?_, by (repeat (first | exact Below.refl _ _ | assumption | refine Below.drew ?_ | refine below_drewN ?_ _ | refine belowA ?_ _ | refine belowT ?_ (by assumption) | refine Below.setCell ?_ (by first | (simp; done) | (simp; omega)) _))⟩
    rw [HP.out]
    rfl

set_option maxHeartbeats 1000000 in
theorem rwhole_c (s : ByteArray) (hs : s.size ≤ 281474976710656) (w : World) (hE : Env w) : Calls Tryd.prog 54 #[.string s] w fun e w' => NumRes s e ∧ Below w.heap.size w w' := by
  by_cases hok : ∃ v, Lib.parseIntB 64 s.data.toList = .ok v
  · obtain ⟨v, hv⟩ := hok
    have hw : -9223372036854775808 ≤ v ∧ v ≤ 9223372036854775807 := atoiAll_wf (by rw [← Lib.parseIntB_64]; exact hv)
    have HN : Hid (num s.data.toList = if Lib.itoa v = s.data.toList then some v else none) := hide (by unfold num; rw [hv])
    have HI := hide (fun w' h' => FormatInt_c v hw w' h')
    have HE : Hid (((⟨(Lib.itoa v).toArray⟩ : ByteArray) == s) = decide (Lib.itoa v = s.data.toList)) := hide (by
      by_cases e : Lib.itoa v = s.data.toList
      · rw [beq_t (bytes_eq e)]; simp [e]
      · rw [beq_f (fun e' => e (by rw [← e']))]; simp [e])
    generalize hx : (⟨(Lib.itoa v).toArray⟩ : ByteArray) = x at *
    clear hx
    go_enter Tryd.func54, Tryd.ntmps54
    go_wp2_with fail
    refine (ParseInt_ok_c s hs v hv _).mono ?_
    rintro e w1 ⟨rfl, hb1⟩
    have E1 := hE.below hb1
    go_wp2_with fail
    refine (HI.out _ E1).mono ?_
    rintro e w2 ⟨rfl, hb2⟩
    have he := HE.out
    cases hd : decide (Lib.itoa v = s.data.toList)
    · rw [hd] at he
      have he2 : (x.toList == s.toList) = false := by rw [← beq_toListBytes]; exact he
      have he3 : ¬ (x.toList = s.toList) := by simpa using he2
      go_wp2
      refine bodyPost_ret (v := .tuple #[.int .i64 v, .bool false]) (by simp [results, Tryd.results54, go_sem, he3]) rfl ⟨⟨v, false, rfl, (fun h => by cases h), fun _ => ?_⟩, by (repeat (first | exact Below.refl _ _ | assumption | refine Below.drew ?_ | refine below_drewN ?_ _ | refine belowA ?_ _ | refine belowT ?_ (by assumption) | refine Below.setCell ?_ (by first | (simp; done) | (simp; omega)) _))⟩
      rw [HN.out, if_neg (of_decide_eq_false hd)]
    · rw [hd] at he
      have he2 : (x.toList == s.toList) = true := by rw [← beq_toListBytes]; exact he
      have he3 : x.toList = s.toList := by simpa using he2
      go_wp2
      refine bodyPost_ret (v := .tuple #[.int .i64 v, .bool true]) (by simp [results, Tryd.results54, go_sem, he3]) rfl ⟨⟨v, true, rfl, fun _ => ?_, (fun h => by cases h)⟩, by (repeat (first | exact Below.refl _ _ | assumption | refine Below.drew ?_ | refine below_drewN ?_ _ | refine belowA ?_ _ | refine belowT ?_ (by assumption) | refine Below.setCell ?_ (by first | (simp; done) | (simp; omega)) _))⟩
      rw [HN.out, if_pos (of_decide_eq_true hd)]
  · have hn : ∀ v, Lib.parseIntB 64 s.data.toList ≠ .ok v := fun v h => hok ⟨v, h⟩
    have HN : Hid (num s.data.toList = none) := hide (by
      unfold num
      cases h : Lib.parseIntB 64 s.data.toList with
      | ok v => exact absurd h (hn v)
      | «syntax» => rfl
      | range => rfl)
    go_enter Tryd.func54, Tryd.ntmps54
    go_wp2_with fail
    refine (ParseInt_bad_c s hs hn _ hE).mono ?_
    rintro e w1 ⟨⟨v, N, rfl⟩, hb1⟩
    go_wp2
    exact bodyPost_ret (v := .tuple #[.int .i64 v, .bool false]) (by simp [results, Tryd.results54, go_sem]) rfl ⟨⟨v, false, rfl, (fun h => by cases h), fun _ => HN.out⟩, by (repeat (first | exact Below.refl _ _ | assumption | refine Below.drew ?_ | refine below_drewN ?_ _ | refine belowA ?_ _ | refine belowT ?_ (by assumption) | refine Below.setCell ?_ (by first | (simp; done) | (simp; omega)) _))⟩

end Go.Proofs.YtgchgpgipdfhgacDoor
