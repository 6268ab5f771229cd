/- The contracts of the document's own CheckRec, SameRec, RecText, whole; no condition but that the arguments read as data, and the package-level variables are as their texts lay them. -/
import Derived.Test.YtcbgkjmcdjpgcaaGreatDoorDiskSaysG13
import Derived.Test.YtcbgkjmcdjpgcaaGreatDoorDiskSaysG18
import Derived.Test.YtcbgkjmcdjpgcaaGreatDoorDiskSaysG9
import Derived.Test.YtcbgkjmcdjpgcaaGreatDoorDiskSaysG17
import Derived.Test.YtcbgkjmcdjpgcaaGreatDoorDiskSaysG1
namespace Go.Proofs.YtcbgkjmcdjpgcaaGreatDoor
open Go.RowKit
set_option linter.unusedVariables false
set_option maxRecDepth 100000
set_option linter.unusedSimpArgs false

set_option maxHeartbeats 1000000 in
theorem CheckRec_c (x : RV) (w : World) (h : x.ok w) : Calls Tryz.prog 39 #[x.v] w fun e w' => e = .returned (.int .i64 (checkR x.p)) ∧ Below w.heap.size w w' := by
  obtain ⟨⟨q, s, ⟨k, z, m, t, d⟩⟩, a, n, c⟩ := x
  dsimp only [RV.v, RV.ok] at *
  have HC := hide (fun w' h' => CheckCmd_c a n c ⟨k, z, m, t, d⟩ w' h')
  have HK : Hid (checkR ⟨q, s, ⟨k, z, m, t, d⟩⟩ = if inB q 0 2 = false ∨ inB s 1 40 = false then 3 else checkC ⟨k, z, m, t, d⟩) := hide rfl
  unfold cmdV at HC
  dsimp only at HC
  go_enter Tryz.func39, Tryz.ntmps39
  go_wp2_with fail
  refine (in_c _ _ _ _).mono ?_
  rintro e w1 ⟨rfl, rfl⟩
  cases h1 : inB q 0 2
  · go_wp2
    go_ret
    exact ⟨ret_int (by rw [HK.out]; simp [h1]), by (repeat (first | exact Below.refl _ _ | assumption | refine Below.drew ?_ | refine below_drewN ?_ _ | refine belowA ?_ _ | refine belowT ?_ (by assumption) | refine Below.setCell ?_ (by first | (simp; done) | (simp; omega)) _))⟩
  · go_wp2_with fail
    refine (in_c _ _ _ _).mono ?_
    rintro e w1 ⟨rfl, rfl⟩
    cases h2 : inB s 1 40
    · go_wp2
      go_ret
      exact ⟨ret_int (by rw [HK.out]; simp [h2]), by (repeat (first | exact Below.refl _ _ | assumption | refine Below.drew ?_ | refine below_drewN ?_ _ | refine belowA ?_ _ | refine belowT ?_ (by assumption) | refine Below.setCell ?_ (by first | (simp; done) | (simp; omega)) _))⟩
    · go_wp2_with fail
      refine (HC.out _ (h.below (B := w.heap.size) (by (repeat (first | exact Below.refl _ _ | assumption | refine Below.drew ?_ | refine below_drewN ?_ _ | refine belowA ?_ _ | refine belowT ?_ (by assumption) | refine Below.setCell ?_ (by first | (simp; done) | (simp; omega)) _))) (Nat.le_refl _))).mono ?_
      rintro e w3 ⟨rfl, hb3⟩
      go_wp2
      go_ret
      exact ⟨ret_int (by rw [HK.out]; simp [h1, h2]), by (repeat (first | exact Below.refl _ _ | assumption | refine Below.drew ?_ | refine below_drewN ?_ _ | refine belowA ?_ _ | refine belowT ?_ (by assumption) | refine Below.setCell ?_ (by first | (simp; done) | (simp; omega)) _))⟩

set_option maxHeartbeats 1000000 in
theorem SameRec_c (x y : RV) (w : World) (h : x.ok w) (k : y.ok w) : Calls Tryz.prog 17 #[x.v, y.v] w fun e w' => e = .returned (.bool (sameR x.p y.p)) ∧ Below w.heap.size w w' := by
  obtain ⟨⟨q1, s1, ⟨k1, z1, m1, t1, d1⟩⟩, a1, n1, c1⟩ := x
  obtain ⟨⟨q2, s2, ⟨k2, z2, m2, t2, d2⟩⟩, a2, n2, c2⟩ := y
  dsimp only [RV.v, RV.ok] at *
  have HC := hide (fun w' h1 h2 => SameCmd_c a1 a2 n1 n2 c1 c2 ⟨k1, z1, m1, t1, d1⟩ ⟨k2, z2, m2, t2, d2⟩ w' h1 h2)
  have HK : Hid (sameR ⟨q1, s1, ⟨k1, z1, m1, t1, d1⟩⟩ ⟨q2, s2, ⟨k2, z2, m2, t2, d2⟩⟩ = (q1 == q2 && s1 == s2 && sameC ⟨k1, z1, m1, t1, d1⟩ ⟨k2, z2, m2, t2, d2⟩)) := hide (by
    rw [Bool.eq_iff_iff]
    simp [sameR])
  unfold cmdV at HC
  dsimp only at HC
  go_enter Tryz.func17, Tryz.ntmps17
  cases e1 : q1 == q2
  · go_wp2
    go_ret
    exact ⟨ret_bool (by rw [HK.out, e1]; rfl), by (repeat (first | exact Below.refl _ _ | assumption | refine Below.drew ?_ | refine below_drewN ?_ _ | refine belowA ?_ _ | refine belowT ?_ (by assumption) | refine Below.setCell ?_ (by first | (simp; done) | (simp; omega)) _))⟩
  · cases e2 : s1 == s2
    · go_wp2
      go_ret
      exact ⟨ret_bool (by rw [HK.out, e1, e2]; rfl), by (repeat (first | exact Below.refl _ _ | assumption | refine Below.drew ?_ | refine below_drewN ?_ _ | refine belowA ?_ _ | refine belowT ?_ (by assumption) | refine Below.setCell ?_ (by first | (simp; done) | (simp; omega)) _))⟩
    · go_wp2_with fail
      refine (HC.out _ (h.below (B := w.heap.size) (by (repeat (first | exact Below.refl _ _ | assumption | refine Below.drew ?_ | refine below_drewN ?_ _ | refine belowA ?_ _ | refine belowT ?_ (by assumption) | refine Below.setCell ?_ (by first | (simp; done) | (simp; omega)) _))) (Nat.le_refl _)) (k.below (B := w.heap.size) (by (repeat (first | exact Below.refl _ _ | assumption | refine Below.drew ?_ | refine below_drewN ?_ _ | refine belowA ?_ _ | refine belowT ?_ (by assumption) | refine Below.setCell ?_ (by first | (simp; done) | (simp; omega)) _))) (Nat.le_refl _))).mono ?_
      rintro e w3 ⟨rfl, hb3⟩
      go_wp2
      go_ret
      exact ⟨ret_bool (by rw [HK.out, e1, e2]; rfl), by (repeat (first | exact Below.refl _ _ | assumption | refine Below.drew ?_ | refine below_drewN ?_ _ | refine belowA ?_ _ | refine belowT ?_ (by assumption) | refine Below.setCell ?_ (by first | (simp; done) | (simp; omega)) _))⟩

set_option maxRecDepth 100000 in
set_option maxHeartbeats 4000000 in
theorem RecText_c (x : RV) (w : World) (hE : Env w) (h : x.ok w) : Calls Tryz.prog 27 #[x.v] w fun e w' => e = .returned (.tuple #[textV (printR x.p).1, .int .i64 (printR x.p).2]) ∧ Below w.heap.size w w' := by
  have HK := hide (fun w' h' => CheckRec_c x w' h')
  obtain ⟨⟨q, s, ⟨k, z, m, t, d⟩⟩, a, n, c⟩ := x
  dsimp only [RV.v, RV.ok] at *
  by_cases hck : checkR ⟨q, s, ⟨k, z, m, t, d⟩⟩ = 0
  · have HP : Hid (printR ⟨q, s, ⟨k, z, m, t, d⟩⟩ = (textR ⟨q, s, ⟨k, z, m, t, d⟩⟩, 0)) := hide (by unfold printR; rw [if_pos hck])
    obtain ⟨hq, hs, hc⟩ := checkR_facts hck
    dsimp only at hq hs hc
    have HR := hide (fun w' hE h' => CmdText_c a n c ⟨k, z, m, t, d⟩ w' hE h' hc)
    unfold cmdV textV at HR
    dsimp only at HR
    rw [hck] at HK
    have hcat := cat_eq ⟨q, s, ⟨k, z, m, t, d⟩⟩
    dsimp only at hcat
    have HT := hide hcat
    clear hcat hck
    have hT := textB_size hc
    clear hc
    generalize (⟨(textC ⟨k, z, m, t, d⟩).toArray⟩ : ByteArray) = T at *
    have hA := itoaB_size (v := q) (by omega) (by omega)
    have hB := itoaB_size (v := s) (by omega) (by omega)
    have HI : Hid (∀ v, v = q ∨ v = s → ∀ w', Env w' → Calls Tryz.prog 33 #[.int .i64 v] w' fun e w'' => e = .returned (.string (itoaB v)) ∧ Below w'.heap.size w' w'') := hide (fun v hv w' h' => Itoa_c v (by omega) w' h')
    clear hq hs
    go_enter Tryz.func27, Tryz.ntmps27
    go_wp2_with fail
    refine (HK.out _ (h.below (B := w.heap.size) (by (repeat (first | exact Below.refl _ _ | assumption | refine Below.drew ?_ | refine below_drewN ?_ _ | refine belowA ?_ _ | refine belowT ?_ (by assumption) | refine Below.setCell ?_ (by first | (simp; done) | (simp; omega)) _))) (Nat.le_refl _))).mono ?_
    rintro e w2 ⟨rfl, hb2⟩
    have bw2 : Below w.heap.size w w2 := by (repeat (first | exact Below.refl _ _ | assumption | refine Below.drew ?_ | refine below_drewN ?_ _ | refine belowA ?_ _ | refine belowT ?_ (by assumption) | refine Below.setCell ?_ (by first | (simp; done) | (simp; omega)) _))
    have v0 := keepc hb2 (p := ⟨w.heap.size, 0, none⟩) (u := .int .i64 q) (by (first | (go_simp; done) | (simp [*, World.cell?_alloc_at, World.cell?_alloc_past, World.cell?_alloc_some, World.cell?_setCell_far]; done)))
    have v1 := keepc hb2 (p := ⟨w.heap.size, 1, none⟩) (u := .int .i64 s) (by (first | (go_simp; done) | (simp [*, World.cell?_alloc_at, World.cell?_alloc_past, World.cell?_alloc_some, World.cell?_setCell_far]; done)))
    have v2 := keepc hb2 (p := ⟨w.heap.size, 2, none⟩) (u := .int .i64 k) (by (first | (go_simp; done) | (simp [*, World.cell?_alloc_at, World.cell?_alloc_past, World.cell?_alloc_some, World.cell?_setCell_far]; done)))
    have v3 := keepc hb2 (p := ⟨w.heap.size, 3, none⟩) (u := .int .i64 z) (by (first | (go_simp; done) | (simp [*, World.cell?_alloc_at, World.cell?_alloc_past, World.cell?_alloc_some, World.cell?_setCell_far]; done)))
    have v4 := keepc hb2 (p := ⟨w.heap.size, 4, none⟩) (u := .int .i64 m) (by (first | (go_simp; done) | (simp [*, World.cell?_alloc_at, World.cell?_alloc_past, World.cell?_alloc_some, World.cell?_setCell_far]; done)))
    have v5 := keepc hb2 (p := ⟨w.heap.size, 5, none⟩) (u := .int .i64 t) (by (first | (go_simp; done) | (simp [*, World.cell?_alloc_at, World.cell?_alloc_past, World.cell?_alloc_some, World.cell?_setCell_far]; done)))
    have v6 := keepc hb2 (p := ⟨w.heap.size, 6, none⟩) (u := .slice a n c) (by (first | (go_simp; done) | (simp [*, World.cell?_alloc_at, World.cell?_alloc_past, World.cell?_alloc_some, World.cell?_setCell_far]; done)))
    clear hb2 HK
    go_wp2
    obtain ⟨g1, g2, g3, g4⟩ := cat_ok (itoaB q) (itoaB s) T hA hB hT
    obtain ⟨i1, i2, i3, i4⟩ := cat_ok2 (itoaB q) (itoaB s) T hA hB hT
    go_region_held3 (fun w' => w'.cell? ⟨w.heap.size, 0, none⟩ = some (.int .i64 q) ∧ w'.cell? ⟨w.heap.size, 1, none⟩ = some (.int .i64 s) ∧ w'.cell? ⟨w.heap.size, 2, none⟩ = some (.int .i64 k) ∧ w'.cell? ⟨w.heap.size, 3, none⟩ = some (.int .i64 z) ∧ w'.cell? ⟨w.heap.size, 4, none⟩ = some (.int .i64 m) ∧ w'.cell? ⟨w.heap.size, 5, none⟩ = some (.int .i64 t) ∧ w'.cell? ⟨w.heap.size, 6, none⟩ = some (.slice a n c)) ((first | (go_simp; done) | (simp [*, World.cell?_alloc_at, World.cell?_alloc_past, World.cell?_alloc_some, World.cell?_setCell_far]; done))) (first
      | (go_at_call 33; refine (HI.out _ (by simp) _ (hE.below (by (repeat (first | exact Below.refl _ _ | assumption | refine Below.drew ?_ | refine below_drewN ?_ _ | refine belowA ?_ _ | refine belowT ?_ (by assumption) | refine Below.setCell ?_ (by first | (simp; done) | (simp; omega)) _))))).mono ?_; rintro e w9 ⟨rfl, hb9⟩; (have f0 := keepc hb9 (p := ⟨w.heap.size, 0, none⟩) (u := .int .i64 q) (by (first | (go_simp; done) | (simp [*, World.cell?_alloc_at, World.cell?_alloc_past, World.cell?_alloc_some, World.cell?_setCell_far]; done)))); (have f1 := keepc hb9 (p := ⟨w.heap.size, 1, none⟩) (u := .int .i64 s) (by (first | (go_simp; done) | (simp [*, World.cell?_alloc_at, World.cell?_alloc_past, World.cell?_alloc_some, World.cell?_setCell_far]; done)))); (have f2 := keepc hb9 (p := ⟨w.heap.size, 2, none⟩) (u := .int .i64 k) (by (first | (go_simp; done) | (simp [*, World.cell?_alloc_at, World.cell?_alloc_past, World.cell?_alloc_some, World.cell?_setCell_far]; done)))); (have f3 := keepc hb9 (p := ⟨w.heap.size, 3, none⟩) (u := .int .i64 z) (by (first | (go_simp; done) | (simp [*, World.cell?_alloc_at, World.cell?_alloc_past, World.cell?_alloc_some, World.cell?_setCell_far]; done)))); (have f4 := keepc hb9 (p := ⟨w.heap.size, 4, none⟩) (u := .int .i64 m) (by (first | (go_simp; done) | (simp [*, World.cell?_alloc_at, World.cell?_alloc_past, World.cell?_alloc_some, World.cell?_setCell_far]; done)))); (have f5 := keepc hb9 (p := ⟨w.heap.size, 5, none⟩) (u := .int .i64 t) (by (first | (go_simp; done) | (simp [*, World.cell?_alloc_at, World.cell?_alloc_past, World.cell?_alloc_some, World.cell?_setCell_far]; done)))); (have f6 := keepc hb9 (p := ⟨w.heap.size, 6, none⟩) (u := .slice a n c) (by (first | (go_simp; done) | (simp [*, World.cell?_alloc_at, World.cell?_alloc_past, World.cell?_alloc_some, World.cell?_setCell_far]; done)))))
      | (go_at_call 40; refine (HR.out _ (hE.below (by (repeat (first | exact Below.refl _ _ | assumption | refine Below.drew ?_ | refine below_drewN ?_ _ | refine belowA ?_ _ | refine belowT ?_ (by assumption) | refine Below.setCell ?_ (by first | (simp; done) | (simp; omega)) _)))) (by refine Ints.below h (B := w.heap.size) ?_ (Nat.le_refl _); (repeat (first | exact Below.refl _ _ | assumption | refine Below.drew ?_ | refine below_drewN ?_ _ | refine belowA ?_ _ | refine belowT ?_ (by assumption) | refine Below.setCell ?_ (by first | (simp; done) | (simp; omega)) _)))).mono ?_; rintro e w8 ⟨rfl, hb8⟩; (have k0 := keepc hb8 (p := ⟨w.heap.size, 0, none⟩) (u := .int .i64 q) (by (first | (go_simp; done) | (simp [*, World.cell?_alloc_at, World.cell?_alloc_past, World.cell?_alloc_some, World.cell?_setCell_far]; done)))); (have k1 := keepc hb8 (p := ⟨w.heap.size, 1, none⟩) (u := .int .i64 s) (by (first | (go_simp; done) | (simp [*, World.cell?_alloc_at, World.cell?_alloc_past, World.cell?_alloc_some, World.cell?_setCell_far]; done)))); (have k2 := keepc hb8 (p := ⟨w.heap.size, 2, none⟩) (u := .int .i64 k) (by (first | (go_simp; done) | (simp [*, World.cell?_alloc_at, World.cell?_alloc_past, World.cell?_alloc_some, World.cell?_setCell_far]; done)))); (have k3 := keepc hb8 (p := ⟨w.heap.size, 3, none⟩) (u := .int .i64 z) (by (first | (go_simp; done) | (simp [*, World.cell?_alloc_at, World.cell?_alloc_past, World.cell?_alloc_some, World.cell?_setCell_far]; done)))); (have k4 := keepc hb8 (p := ⟨w.heap.size, 4, none⟩) (u := .int .i64 m) (by (first | (go_simp; done) | (simp [*, World.cell?_alloc_at, World.cell?_alloc_past, World.cell?_alloc_some, World.cell?_setCell_far]; done)))); (have k5 := keepc hb8 (p := ⟨w.heap.size, 5, none⟩) (u := .int .i64 t) (by (first | (go_simp; done) | (simp [*, World.cell?_alloc_at, World.cell?_alloc_past, World.cell?_alloc_some, World.cell?_setCell_far]; done)))); (have k6 := keepc hb8 (p := ⟨w.heap.size, 6, none⟩) (u := .slice a n c) (by (first | (go_simp; done) | (simp [*, World.cell?_alloc_at, World.cell?_alloc_past, World.cell?_alloc_some, World.cell?_setCell_far]; done))))))
    go_wp2
    refine bodyPost_ret (v := .tuple #[.string (itoaB q ++ ⟨#[32]⟩ ++ itoaB s ++ ⟨#[58, 32]⟩ ++ T), .int .i64 0]) (by simp [results, Tryz.results27, go_sem]) rfl ⟨?_, by (repeat (first | exact Below.refl _ _ | assumption | refine Below.drew ?_ | refine below_drewN ?_ _ | refine belowA ?_ _ | refine belowT ?_ (by assumption) | refine Below.setCell ?_ (by first | (simp; done) | (simp; omega)) _))⟩
    rw [HP.out, HT.out]
    rfl
  · have HP : Hid (printR ⟨q, s, ⟨k, z, m, t, d⟩⟩ = ([], checkR ⟨q, s, ⟨k, z, m, t, d⟩⟩)) := hide (by unfold printR; rw [if_neg hck])
    have hcb : (checkR ⟨q, s, ⟨k, z, m, t, d⟩⟩ != 0) = true := by simpa using hck
    clear hck
    generalize checkR ⟨q, s, ⟨k, z, m, t, d⟩⟩ = cb at *
    go_enter Tryz.func27, Tryz.ntmps27
    go_wp2_with fail
    refine (HK.out _ (h.below (B := w.heap.size) (by (repeat (first | exact Below.refl _ _ | assumption | refine Below.drew ?_ | refine below_drewN ?_ _ | refine belowA ?_ _ | refine belowT ?_ (by assumption) | refine Below.setCell ?_ (by first | (simp; done) | (simp; omega)) _))) (Nat.le_refl _))).mono ?_
    rintro e w1 ⟨rfl, hb1⟩
    go_wp2
    refine bodyPost_ret (v := .tuple #[.string ⟨#[]⟩, .int .i64 cb]) (by simp [results, Tryz.results27, go_sem]) rfl ⟨?_, by (repeat (first | exact Below.refl _ _ | assumption | refine Below.drew ?_ | refine below_drewN ?_ _ | refine belowA ?_ _ | refine belowT ?_ (by assumption) | refine Below.setCell ?_ (by first | (simp; done) | (simp; omega)) _))⟩
    rw [HP.out]
    rfl

set_option maxHeartbeats 1000000 in
theorem rwhole_c (s : ByteArray) (hs : s.size ≤ 281474976710656) (w : World) (hE : Env w) : Calls Tryz.prog 55 #[.string s] w fun e w' => NumRes s e ∧ Below w.heap.size w w' := by
  by_cases hok : ∃ v, Lib.parseIntB 64 s.data.toList = .ok v
  · obtain ⟨v, hv⟩ := hok
    have hw : -9223372036854775808 ≤ v ∧ v ≤ 9223372036854775807 := atoiAll_wf (by rw [← Lib.parseIntB_64]; exact hv)
    have HN : Hid (num s.data.toList = if Lib.itoa v = s.data.toList then some v else none) := hide (by unfold num; rw [hv])
    have HI := hide (fun w' h' => FormatInt_c v hw w' h')
    have HE : Hid (((⟨(Lib.itoa v).toArray⟩ : ByteArray) == s) = decide (Lib.itoa v = s.data.toList)) := hide (by
      by_cases e : Lib.itoa v = s.data.toList
      · rw [beq_t (bytes_eq e)]; simp [e]
      · rw [beq_f (fun e' => e (by rw [← e']))]; simp [e])
    generalize hx : (⟨(Lib.itoa v).toArray⟩ : ByteArray) = x at *
    clear hx
    go_enter Tryz.func55, Tryz.ntmps55
    go_wp2_with fail
    refine (ParseInt_ok_c s hs v hv _).mono ?_
    rintro e w1 ⟨rfl, hb1⟩
    have E1 := hE.below hb1
    go_wp2_with fail
    refine (HI.out _ E1).mono ?_
    rintro e w2 ⟨rfl, hb2⟩
    have he := HE.out
    cases hd : decide (Lib.itoa v = s.data.toList)
    · rw [hd] at he
      have he2 : (x.toList == s.toList) = false := by rw [← beq_toListBytes]; exact he
      have he3 : ¬ (x.toList = s.toList) := by simpa using he2
      go_wp2
      refine bodyPost_ret (v := .tuple #[.int .i64 v, .bool false]) (by simp [results, Tryz.results55, go_sem, he3]) rfl ⟨⟨v, false, rfl, (fun h => by cases h), fun _ => ?_⟩, by (repeat (first | exact Below.refl _ _ | assumption | refine Below.drew ?_ | refine below_drewN ?_ _ | refine belowA ?_ _ | refine belowT ?_ (by assumption) | refine Below.setCell ?_ (by first | (simp; done) | (simp; omega)) _))⟩
      rw [HN.out, if_neg (of_decide_eq_false hd)]
    · rw [hd] at he
      have he2 : (x.toList == s.toList) = true := by rw [← beq_toListBytes]; exact he
      have he3 : x.toList = s.toList := by simpa using he2
      go_wp2
      refine bodyPost_ret (v := .tuple #[.int .i64 v, .bool true]) (by simp [results, Tryz.results55, go_sem, he3]) rfl ⟨⟨v, true, rfl, fun _ => ?_, (fun h => by cases h)⟩, by (repeat (first | exact Below.refl _ _ | assumption | refine Below.drew ?_ | refine below_drewN ?_ _ | refine belowA ?_ _ | refine belowT ?_ (by assumption) | refine Below.setCell ?_ (by first | (simp; done) | (simp; omega)) _))⟩
      rw [HN.out, if_pos (of_decide_eq_true hd)]
  · have hn : ∀ v, Lib.parseIntB 64 s.data.toList ≠ .ok v := fun v h => hok ⟨v, h⟩
    have HN : Hid (num s.data.toList = none) := hide (by
      unfold num
      cases h : Lib.parseIntB 64 s.data.toList with
      | ok v => exact absurd h (hn v)
      | «syntax» => rfl
      | range => rfl)
    go_enter Tryz.func55, Tryz.ntmps55
    go_wp2_with fail
    refine (ParseInt_bad_c s hs hn _ hE).mono ?_
    rintro e w1 ⟨⟨v, N, rfl⟩, hb1⟩
    go_wp2
    exact bodyPost_ret (v := .tuple #[.int .i64 v, .bool false]) (by simp [results, Tryz.results55, go_sem]) rfl ⟨⟨v, false, rfl, (fun h => by cases h), fun _ => HN.out⟩, by (repeat (first | exact Below.refl _ _ | assumption | refine Below.drew ?_ | refine below_drewN ?_ _ | refine belowA ?_ _ | refine belowT ?_ (by assumption) | refine Below.setCell ?_ (by first | (simp; done) | (simp; omega)) _))⟩

end Go.Proofs.YtcbgkjmcdjpgcaaGreatDoor

/- The contract of slices.EqualFunc on lists of records, by the document's own SameRec; no condition but that the lists are read. -/
namespace Go.Proofs.YtcbgkjmcdjpgcaaGreatDoor
open Go.RowKit
set_option linter.unusedVariables false
set_option maxRecDepth 100000
set_option linter.unusedSimpArgs false

set_option maxRecDepth 100000 in
set_option maxHeartbeats 4000000 in
theorem EqS_some (b1 o1 m1 b2 o2 m2 n : Nat) (X Y : List RV) (w : World) (h1 : Recs w (some ⟨b1, o1, none⟩) n m1 X) (h2 : Recs w (some ⟨b2, o2, none⟩) n m2 Y)
    (hr1 : ∀ i x, X[i]? = some x → ∀ j v, x.cells[j]? = some v → w.cell? ⟨b1, o1 + i * 7 + j, none⟩ = some v)
    (hr2 : ∀ i x, Y[i]? = some x → ∀ j v, x.cells[j]? = some v → w.cell? ⟨b2, o2 + i * 7 + j, none⟩ = some v) :
    Calls Tryz.prog 16 #[.slice (some ⟨b1, o1, none⟩) n m1, .slice (some ⟨b2, o2, none⟩) n m2, .func (Fn.func 17) #[] #[]] w fun e w' => e = .returned (.bool (sameRs (X.map RV.p) (Y.map RV.p))) ∧ Below w.heap.size w w' := by
  have hlen1 := hide h1.len
  have hlen2 := hide h2.len
  have hmax := h1.max
  have hle := h1.le
  go_enter Tryz.func16, Tryz.ntmps16
  go_wp2
  go_loopw [17] (fun i wr => ∃ k : Nat, k ≤ n ∧ i = .int .i64 k ∧ (X.take k).map RV.p = (Y.take k).map RV.p ∧ Below w.heap.size w wr) (fun i _ => n - (intOf i).toNat)
  case atStart => exact ⟨0, by omega, rfl, by simp, Below.refl _ _⟩
  case round =>
    obtain ⟨k, hk, rfl, hp, hbr⟩ := hrel
    have HP := hide hp
    clear hp
    rename_i wr
    by_cases hlt : k < n
    · obtain ⟨x, hx⟩ : ∃ z, X[k]? = some z := ⟨X[k]'(by rw [hlen1.out]; exact hlt), by simp⟩
      obtain ⟨y, hy⟩ : ∃ z, Y[k]? = some z := ⟨Y[k]'(by rw [hlen2.out]; exact hlt), by simp⟩
      have ix := RV.ok.below (h1.ok x (List.mem_of_getElem? hx)) hbr (Nat.le_refl _)
      have iy := RV.ok.below (h2.ok y (List.mem_of_getElem? hy)) hbr (Nat.le_refl _)
      have HZ := hide hx
      have HY := hide hy
      have HS := hide (fun w' h k => SameRec_c x y w' h k)
      have HT : Hid (sameR x.p y.p = true → x.p = y.p) := hide (sameR_iff _ _).1
      have HF : Hid (sameR x.p y.p = false → x.p ≠ y.p) := hide (fun h e => by rw [(sameR_iff _ _).2 e] at h; cases h)
      have kx := hr1 k x hx
      have ky := hr2 k y hy
      clear hx hy
      generalize hsm : sameR x.p y.p = sm at *
      clear hsm
      obtain ⟨⟨q1, s1, ⟨k1, z1, u1, t1, d1⟩⟩, a1, n1, c1⟩ := x
      obtain ⟨⟨q2, s2, ⟨k2, z2, u2, t2, d2⟩⟩, a2, n2, c2⟩ := y
      dsimp only [RV.v] at HS
      have x0 := keepc hbr (kx 0 _ rfl)
      have x1 := keepc hbr (kx 1 _ rfl)
      have x2 := keepc hbr (kx 2 _ rfl)
      have x3 := keepc hbr (kx 3 _ rfl)
      have x4 := keepc hbr (kx 4 _ rfl)
      have x5 := keepc hbr (kx 5 _ rfl)
      have x6 := keepc hbr (kx 6 _ rfl)
      have y0 := past1 (keepc hbr (ky 0 _ rfl))
      have y1 := past1 (keepc hbr (ky 1 _ rfl))
      have y2 := past1 (keepc hbr (ky 2 _ rfl))
      have y3 := past1 (keepc hbr (ky 3 _ rfl))
      have y4 := past1 (keepc hbr (ky 4 _ rfl))
      have y5 := past1 (keepc hbr (ky 5 _ rfl))
      have y6 := past1 (keepc hbr (ky 6 _ rfl))
      rw [Nat.add_zero] at x0 y0
      clear kx ky
      have hlt' : (k : Int) < (n : Int) := by omega
      go_wp2_with fail
      refine (HS.out _ (RV.ok.below ix (B := wr.heap.size) (by (repeat (first | exact Below.refl _ _ | assumption | refine Below.drew ?_ | refine below_drewN ?_ _ | refine belowA ?_ _ | refine belowT ?_ (by assumption) | refine Below.setCell ?_ (by first | (simp; done) | (simp; omega)) _))) (Nat.le_refl _)) (RV.ok.below iy (B := wr.heap.size) (by (repeat (first | exact Below.refl _ _ | assumption | refine Below.drew ?_ | refine below_drewN ?_ _ | refine belowA ?_ _ | refine belowT ?_ (by assumption) | refine Below.setCell ?_ (by first | (simp; done) | (simp; omega)) _))) (Nat.le_refl _))).mono ?_
      rintro e w9 ⟨rfl, hb9⟩
      have b9 : Below w.heap.size w w9 := by (repeat (first | exact Below.refl _ _ | assumption | refine Below.drew ?_ | refine below_drewN ?_ _ | refine belowA ?_ _ | refine belowT ?_ (by assumption) | refine Below.setCell ?_ (by first | (simp; done) | (simp; omega)) _))
      clear hb9
      cases sm
      · have HNE := hide (HF.out rfl)
        clear HF HT
        go_wp2
        go_ret
        refine ⟨ret_bool (sameRs_f fun e => ?_).symm, b9⟩
        have := congrArg (fun L => L[k]?) e
        simp only [List.getElem?_map, HZ.out, HY.out, Option.map_some, Option.some.injEq] at this
        exact HNE.out this
      · have HEQ := hide (HT.out rfl)
        clear HF HT
        go_wp2
        have e := HEQ.out
        refine ⟨⟨k + 1, by omega, by go_num, ?_, b9⟩, by simp [intOf]; omega⟩
        obtain ⟨g1, g2⟩ := List.getElem?_eq_some_iff.1 HZ.out
        obtain ⟨g3, g4⟩ := List.getElem?_eq_some_iff.1 HY.out
        rw [List.take_succ_eq_append_getElem g1, List.take_succ_eq_append_getElem g3, List.map_append, List.map_append, HP.out, g2, g4]
        simpa using e
    · obtain rfl : k = n := by omega
      go_wp2
      go_ret
      have hp := HP.out
      rw [List.take_of_length_le (by rw [hlen1.out]; omega), List.take_of_length_le (by rw [hlen2.out]; omega)] at hp
      exact ⟨ret_bool (sameRs_t hp).symm, hbr⟩

theorem EqS_ne (a1 a2 : Option Addr) (n1 n2 c1 c2 : Nat) (fv : Value) (w : World) (hne : n1 ≠ n2) (hm1 : n1 ≤ 9223372036854775807) (hm2 : n2 ≤ 9223372036854775807) :
    Calls Tryz.prog 16 #[.slice a1 n1 c1, .slice a2 n2 c2, fv] w fun e w' => e = .returned (.bool false) ∧ w' = w := by
  have hb : ((n1 : Int) != (n2 : Int)) = true := by simp; omega
  go_enter Tryz.func16, Tryz.ntmps16
  go_wp2
  go_ret
  exact ⟨rfl, rfl⟩

theorem EqS_zero (a1 a2 : Option Addr) (c1 c2 : Nat) (fv : Value) (w : World) :
    Calls Tryz.prog 16 #[.slice a1 0 c1, .slice a2 0 c2, fv] w fun e w' => e = .returned (.bool true) ∧ w' = w := by
  go_enter Tryz.func16, Tryz.ntmps16
  go_wp2
  refine wp_loop_rounds 1 ?_
  rw [rounds_succ]
  go_wp2
  go_ret
  exact ⟨rfl, rfl⟩

theorem EqS_c (a1 a2 : Option Addr) (n1 n2 c1 c2 : Nat) (X Y : List RV) (w : World) (h1 : Recs w a1 n1 c1 X) (h2 : Recs w a2 n2 c2 Y) :
    Calls Tryz.prog 16 #[.slice a1 n1 c1, .slice a2 n2 c2, .func (Fn.func 17) #[] #[]] w fun e w' => e = .returned (.bool (sameRs (X.map RV.p) (Y.map RV.p))) ∧ Below w.heap.size w w' := by
  by_cases hn : n1 = n2
  · subst hn
    by_cases h0 : n1 = 0
    · subst h0
      have e1 := h1.len
      have e2 := h2.len
      rw [List.length_eq_zero_iff] at e1 e2
      subst e1 e2
      refine (EqS_zero a1 a2 c1 c2 _ w).mono ?_
      rintro e w' ⟨rfl, rfl⟩
      exact ⟨rfl, Below.refl _ _⟩
    · rcases h1.row with h | ⟨b1, o1, rfl, _, hr1⟩
      · omega
      · rcases h2.row with h | ⟨b2, o2, rfl, _, hr2⟩
        · omega
        · exact EqS_some b1 o1 c1 b2 o2 c2 n1 X Y w h1 h2 hr1 hr2
  · have m1 := h1.max
    have m2 := h2.max
    have q1 := h1.le
    have q2 := h2.le
    refine (EqS_ne a1 a2 n1 n2 c1 c2 _ w hn (by omega) (by omega)).mono ?_
    rintro e w' ⟨rfl, rfl⟩
    refine ⟨ret_bool (sameRs_f fun e => hn ?_).symm, Below.refl _ _⟩
    have := congrArg List.length e
    rw [List.length_map, List.length_map, h1.len, h2.len] at this
    exact this


end Go.Proofs.YtcbgkjmcdjpgcaaGreatDoor

/- The contracts of slices.Equal on bytes, and of the document's own SameDisk; no condition but that the bytes are read. -/
namespace Go.Proofs.YtcbgkjmcdjpgcaaGreatDoor
open Go.RowKit
set_option linter.unusedVariables false
set_option maxRecDepth 100000
set_option linter.unusedSimpArgs false

set_option maxHeartbeats 1000000 in
theorem UEq_some (b1 o1 b2 o2 n1 c1 c2 : Nat) (l1 l2 : List Int) (w : World) (hl1 : l1.length = n1) (hl2 : l2.length = n1) (hm1 : n1 ≤ 9223372036854775807)
    (hr1 : ∀ i, i < n1 → w.cell? ⟨b1, o1 + i, none⟩ = some (.int .u8 (l1.getD i 0))) (hr2 : ∀ i, i < n1 → w.cell? ⟨b2, o2 + i, none⟩ = some (.int .u8 (l2.getD i 0))) :
    Calls Tryz.prog 26 #[.slice (some ⟨b1, o1, none⟩) n1 c1, .slice (some ⟨b2, o2, none⟩) n1 c2] w fun e w' => e = .returned (.bool (decide (l1 = l2))) ∧ ∃ n, w' = w.drewN n := by
  go_enter Tryz.func26, Tryz.ntmps26
  go_wp2
  go_loopw [13] (fun i wr => ∃ k n : Nat, k ≤ n1 ∧ i = .int .i64 k ∧ l1.take k = l2.take k ∧ wr = w.drewN n) (fun i _ => n1 - (intOf i).toNat)
  case atStart => exact ⟨0, 0, by omega, rfl, by simp, rfl⟩
  case round =>
    obtain ⟨k, n, hk, rfl, ht, rfl⟩ := hrel
    by_cases hlt : k < n1
    · have hi1 := hr1 k hlt
      have hi2 := hr2 k hlt
      have hlt' : (k : Int) < (n1 : Int) := by omega
      have HT := hide ht
      clear ht hr1 hr2
      generalize hx : l1.getD k 0 = x at hi1
      generalize hy : l2.getD k 0 = y at hi2
      have HX := hide hx
      have HY := hide hy
      clear hx hy
      go_wp2
      go_quiet (fail)
      go_wp2
      · rename_i hxy
        go_ret
        exact ⟨ret_bool (decide_eq_false (ne_of_getD l1 l2 k (by rw [HX.out, HY.out]; simpa using hxy))).symm, n + nq, by simp⟩
      · rename_i hxy
        exact ⟨⟨k + 1, _, by omega, by go_num, take_eq_step l1 l2 k (by omega) (by omega) HT.out (by rw [HX.out, HY.out]; simpa using hxy), rfl⟩, by simp [intOf]; omega⟩
    · go_wp2
      go_ret
      exact ⟨ret_bool (by rw [List.take_of_length_le (by omega), List.take_of_length_le (by omega)] at ht; simp [ht]), _, rfl⟩
theorem UEq_zero (a1 a2 : Option Addr) (c1 c2 : Nat) (w : World) : Calls Tryz.prog 26 #[.slice a1 0 c1, .slice a2 0 c2] w fun e w' => e = .returned (.bool true) ∧ ∃ n, w' = w.drewN n := by
  go_enter Tryz.func26, Tryz.ntmps26
  go_wp2
  refine wp_loop_rounds 1 ?_; rw [rounds_succ]
  go_wp2
  go_ret
  exact ⟨rfl, 0, rfl⟩
theorem UEq_ne (a1 a2 : Option Addr) (n1 n2 c1 c2 : Nat) (w : World) (hn : n1 ≠ n2) (hm1 : n1 ≤ 9223372036854775807) (hm2 : n2 ≤ 9223372036854775807) :
    Calls Tryz.prog 26 #[.slice a1 n1 c1, .slice a2 n2 c2] w fun e w' => e = .returned (.bool false) ∧ ∃ n, w' = w.drewN n := by
  have hne : ((n1 : Int) != (n2 : Int)) = true := by simp; omega
  go_enter Tryz.func26, Tryz.ntmps26
  go_wp2
  go_ret
  exact ⟨rfl, 0, rfl⟩
theorem numsB_iff (s t : List UInt8) : numsB s = numsB t ↔ s = t := ⟨fun h => by rw [← bytesOf_nums s, h, bytesOf_nums], fun h => by rw [h]⟩
theorem UEq_c (a : Option Addr) (n c : Nat) (l : List UInt8) (b : Option Addr) (m d : Nat) (k : List UInt8) (w : World) (h1 : Byts w a n c l) (h2 : Byts w b m d k) :
    Calls Tryz.prog 26 #[.slice a n c, .slice b m d] w fun e w' => e = .returned (.bool (decide (l = k))) ∧ Below w.heap.size w w' := by
  have l1 := h1.len
  have l2 := h2.len
  have m1 := Cel.max h1
  have m2 := Cel.max h2
  have e1 := Cel.le h1
  have e2 := Cel.le h2
  by_cases hn : n = m
  · subst hn
    by_cases h0 : n = 0
    · subst h0
      rw [List.length_eq_zero_iff] at l1 l2
      subst l1 l2
      refine (UEq_zero a b c d w).mono ?_
      rintro e w' ⟨rfl, q, rfl⟩
      exact ⟨rfl, by (repeat (first | exact Below.refl _ _ | assumption | refine Below.drew ?_ | refine below_drewN ?_ _ | refine belowA ?_ _ | refine belowT ?_ (by assumption) | refine Below.setCell ?_ (by first | (simp; done) | (simp; omega)) _))⟩
    · obtain ⟨b1, o1, rfl, hc1⟩ := h1.into (by omega)
      obtain ⟨b2, o2, rfl, hc2⟩ := h2.into (by omega)
      refine (UEq_some b1 o1 b2 o2 n c d (numsB l) (numsB k) w (by rw [numsB_len, l1]) (by rw [numsB_len, l2]) (by omega) hc1 hc2).mono ?_
      rintro e w' ⟨rfl, q, rfl⟩
      exact ⟨ret_bool (by rw [Bool.eq_iff_iff]; simp [numsB_iff]), by (repeat (first | exact Below.refl _ _ | assumption | refine Below.drew ?_ | refine below_drewN ?_ _ | refine belowA ?_ _ | refine belowT ?_ (by assumption) | refine Below.setCell ?_ (by first | (simp; done) | (simp; omega)) _))⟩
  · refine (UEq_ne a b n m c d w hn (by omega) (by omega)).mono ?_
    rintro e w' ⟨rfl, q, rfl⟩
    exact ⟨ret_bool (decide_eq_false fun e => hn (by rw [← l1, ← l2, e])).symm, by (repeat (first | exact Below.refl _ _ | assumption | refine Below.drew ?_ | refine below_drewN ?_ _ | refine belowA ?_ _ | refine belowT ?_ (by assumption) | refine Below.setCell ?_ (by first | (simp; done) | (simp; omega)) _))⟩

set_option maxRecDepth 100000 in
set_option maxHeartbeats 1000000 in
theorem SameDisk_c (x y : KV) (w : World) (h : x.ok w) (k : y.ok w) : Calls Tryz.prog 12 #[x.v, y.v] w fun e w' => e = .returned (.bool (sameK x.p y.p)) ∧ Below w.heap.size w w' := by
  obtain ⟨⟨s, t⟩, a, n, c, b, m, d⟩ := x
  obtain ⟨⟨s', t'⟩, a', n', c', b', m', d'⟩ := y
  have hs : Byts w a n c s := h.s
  have ht : Byts w b m d t := h.w
  have hs' : Byts w a' n' c' s' := k.s
  have ht' : Byts w b' m' d' t' := k.w
  dsimp only [KV.v] at *
  have HK : Hid (sameK ⟨s, t⟩ ⟨s', t'⟩ = (decide (s = s') && decide (t = t'))) := hide rfl
  have HB1 := hide (fun w' h1 h2 => UEq_c a n c s a' n' c' s' w' h1 h2)
  have HB2 := hide (fun w' h1 h2 => UEq_c b m d t b' m' d' t' w' h1 h2)
  clear h k
  generalize decide (s = s') = e1 at *
  generalize decide (t = t') = e2 at *
  go_enter Tryz.func12, Tryz.ntmps12
  go_wp2_with fail
  refine (HB1.out _ (hs.below (B := w.heap.size) (by (repeat (first | exact Below.refl _ _ | assumption | refine Below.drew ?_ | refine below_drewN ?_ _ | refine belowA ?_ _ | refine belowT ?_ (by assumption) | refine Below.setCell ?_ (by first | (simp; done) | (simp; omega)) _))) (Nat.le_refl _)) (hs'.below (B := w.heap.size) (by (repeat (first | exact Below.refl _ _ | assumption | refine Below.drew ?_ | refine below_drewN ?_ _ | refine belowA ?_ _ | refine belowT ?_ (by assumption) | refine Below.setCell ?_ (by first | (simp; done) | (simp; omega)) _))) (Nat.le_refl _))).mono ?_
  rintro e w1 ⟨rfl, hb1⟩
  have bw : Below w.heap.size w w1 := by (repeat (first | exact Below.refl _ _ | assumption | refine Below.drew ?_ | refine below_drewN ?_ _ | refine belowA ?_ _ | refine belowT ?_ (by assumption) | refine Below.setCell ?_ (by first | (simp; done) | (simp; omega)) _))
  have k0 := keepc hb1 (p := ⟨w.heap.size, 1, none⟩) (u := .slice b m d) (by (first | (go_simp; done) | (simp [*, World.cell?_alloc_at, World.cell?_alloc_past, World.cell?_alloc_some, World.cell?_setCell_far]; done)))
  have k1 := keepc hb1 (p := ⟨w.heap.size + 1, 1, none⟩) (u := .slice b' m' d') (by (first | (go_simp; done) | (simp [*, World.cell?_alloc_at, World.cell?_alloc_past, World.cell?_alloc_some, World.cell?_setCell_far]; done)))
  clear hb1
  cases e1
  · go_wp2
    go_ret
    exact ⟨ret_bool (by rw [HK.out]; rfl), bw⟩
  · go_wp2_with fail
    refine (HB2.out _ (ht.below bw (Nat.le_refl _)) (ht'.below bw (Nat.le_refl _))).mono ?_
    rintro e w2 ⟨rfl, hb2⟩
    go_wp2
    go_ret
    exact ⟨ret_bool (by rw [HK.out]; rfl), belowT bw hb2⟩

end Go.Proofs.YtcbgkjmcdjpgcaaGreatDoor
