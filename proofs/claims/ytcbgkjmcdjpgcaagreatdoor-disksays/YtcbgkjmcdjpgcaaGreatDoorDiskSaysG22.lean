/- The contracts of the document's own Synced and PutOn; no condition but that the arguments are read, that the disk is a right one, and that the package-level variables are as their texts lay them. -/
import Derived.Test.YtcbgkjmcdjpgcaaGreatDoorDiskSaysG21
import Derived.Test.YtcbgkjmcdjpgcaaGreatDoorDiskSaysG19
import Derived.Test.YtcbgkjmcdjpgcaaGreatDoorDiskSaysG13
import Derived.Test.YtcbgkjmcdjpgcaaGreatDoorDiskSaysG16
namespace Go.Proofs.YtcbgkjmcdjpgcaaGreatDoor
open Go.RowKit
set_option linter.unusedVariables false
set_option maxRecDepth 100000
set_option linter.unusedSimpArgs false

/-- What a call answers that makes a disk. -/
def KResO (w' : World) (r : PK × Int) (e : Ending) : Prop := ∃ x : KV, e = .returned (.tuple #[x.v, .int .i64 r.2]) ∧ x.p = r.1 ∧ x.ok w'
theorem KResO.zero {w' : World} {r : PK × Int} {e : Ending} {i : Int} (hr : r = (zeroK, i)) (h : e = .returned (.tuple #[KV.zero.v, .int .i64 i])) : KResO w' r e := by
  subst hr
  exact ⟨KV.zero, h, rfl, KV.zero_ok _⟩

set_option maxRecDepth 100000 in
set_option maxHeartbeats 2000000 in
theorem Synced_c (x : KV) (w : World) (hE : Env w) (h : x.ok w) (hck : checkK x.p = 0) (hnm : x.n + x.m ≤ 60000) :
    Calls Tryz.prog 14 #[x.v] w fun e w' => KResO w' (syncK x.p) e ∧ Below w.heap.size w w' := by
  obtain ⟨⟨s, t⟩, a, n, c, b, m, d⟩ := x
  have hs : Byts w a n c s := h.s
  have ht : Byts w b m d t := h.w
  dsimp only [KV.v] at *
  have HR : Hid (syncK ⟨s, t⟩ = if checkK ⟨s ++ t, []⟩ ≠ 0 then (zeroK, checkK ⟨s ++ t, []⟩) else (⟨s ++ t, []⟩, 0)) := hide (by unfold syncK; rw [hck, if_neg (by simp)])
  clear h hck
  have xP := (Lay.made w [.slice a n c, .slice b m d] 24).below (belowA (Below.refl _ _) (.cells #[.slice none 0 0, .slice none 0 0] 24))
  have xR := Lay.made1 w (.cells #[.slice a n c, .slice b m d] 24) [.slice none 0 0, .slice none 0 0] 24
  have bw0 : Below w.heap.size w ((w.alloc (.cells #[.slice a n c, .slice b m d] 24)).alloc (.cells #[.slice none 0 0, .slice none 0 0] 24)) := by (repeat (first | exact Below.refl _ _ | assumption | refine Below.drew ?_ | refine below_drewN ?_ _ | refine belowA ?_ _ | refine belowT ?_ (by assumption) | refine Below.setCell ?_ (by first | (simp; done) | (simp; omega)) _))
  go_enter Tryz.func14, Tryz.ntmps14
  go_wp2_with fail
  have bw : Below w.heap.size w (((w.alloc (.cells #[.slice a n c, .slice b m d] 24)).alloc (.cells #[.slice none 0 0, .slice none 0 0] 24)).alloc (.cells #[.slice a n c, .slice b m d] 22)) := belowA bw0 _
  replace xP := xP.below (belowA (Below.refl _ _) (.cells #[.slice a n c, .slice b m d] 22))
  replace xR := xR.below (belowA (Below.refl _ _) (.cells #[.slice a n c, .slice b m d] 22))
  refine (UConcat_c (w.heap.size + 2) a n c (bytC s) b m d (bytC t) _ (hs.rowed.below bw) (ht.rowed.below bw) (by omega) (by go_simp) (by go_simp)).mono ?_
  rintro e w1 ⟨⟨v, rfl, own⟩, hb1⟩
  rw [bytC_app] at own
  obtain ⟨ga, gc, rfl, hB, hfr⟩ := Byts.of_own own
  replace xP := xP.below hb1
  replace xR := xR.below hb1
  replace bw := belowT bw hb1
  have hlt := xR.lt
  have hfr' : ∀ y, ga = some y → w.heap.size + 3 ≤ y.block := fun y e => by have := hfr y e; simpa using this
  clear hb1 own hfr bw0 hs ht
  have HK := hide (fun w' hE h => CheckDisk_c ⟨⟨s ++ t, []⟩, ga, n + m, gc, none, 0, 0⟩ w' hE h (by simp; omega) (by simp))
  dsimp only [KV.v] at HK
  have e0 := xP.cell 0 _ rfl
  have e1 := xP.cell 1 _ rfl
  have f0 := xP.ice 0
  have f1 := xP.ice 1
  go_upto_region 2 with fail
  have zP := (xP.set 0 (.slice ga (n + m) gc)).set 1 (.slice none 0 0)
  have hbutP := ((ButI.refl w.heap.size w1).step 0 (.slice ga (n + m) gc)).step 1 (.slice none 0 0)
  generalize (w1.setCell ⟨w.heap.size, 0, none⟩ (.slice ga (n + m) gc)).setCell ⟨w.heap.size, 1, none⟩ (.slice none 0 0) = w2 at *
  replace xR := xR.butI hbutP (by omega)
  replace hB := hB.but hbutP.but (.inr fun y e => by have := hfr' y e; omega)
  replace bw := bw.trans (hbutP.below (Nat.le_refl _))
  clear e0 e1 f0 f1 xP hbutP
  have e0 := zP.cell 0 _ rfl
  have e1 := zP.cell 1 _ rfl
  have f0 := zP.ice 0
  have f1 := zP.ice 1
  go_wp2_with fail
  refine (HK.out _ (hE.below bw) ⟨hB, Byts.nilSlice _⟩).mono ?_
  rintro e w4 ⟨rfl, hb4⟩
  replace xR := xR.below hb4
  replace zP := zP.below hb4
  replace bw := belowT bw hb4
  replace hB := hB.below hb4 (Nat.le_refl _)
  clear hb4 e0 e1 f0 f1 HK
  generalize checkK ⟨s ++ t, []⟩ = cj at *
  by_cases hcj : cj = 0
  · subst hcj
    simp only [ne_eq, not_true_eq_false, if_false] at HR
    have e0 := xR.cell 0 _ rfl
    have e1 := xR.cell 1 _ rfl
    have f0 := xR.ice 0
    have f1 := xR.ice 1
    have g0 := zP.cell 0 _ rfl
    have g1 := zP.cell 1 _ rfl
    have i0 := zP.ice 0
    have i1 := zP.ice 1
    go_wp2
    have zB := (xR.set 0 (.slice ga (n + m) gc)).set 1 (.slice none 0 0)
    have hbut := ((ButI.refl (w.heap.size + 1) (w4)).step 0 (.slice ga (n + m) gc)).step 1 (.slice none 0 0)
    generalize ((w4).setCell ⟨w.heap.size + 1, 0, none⟩ (.slice ga (n + m) gc)).setCell ⟨w.heap.size + 1, 1, none⟩ (.slice none 0 0) = w99 at *
    have y0 := zB.cell 0 _ rfl
    have y1 := zB.cell 1 _ rfl
    refine bodyPost_ret (v := .tuple #[.agg #[.slice ga (n + m) gc, .slice none 0 0], .int .i64 0]) (by simp [results, Tryz.results14, go_sem, y0, y1]) rfl ⟨?_, bw.trans (hbut.below (by omega))⟩
    rw [HR.out]
    exact ⟨⟨⟨s ++ t, []⟩, ga, n + m, gc, none, 0, 0⟩, rfl, rfl, ⟨hB.but hbut.but (.inr fun y e => by have := hfr' y e; omega), Byts.nilSlice _⟩⟩
  · have hcb : (cj != 0) = true := by simpa using hcj
    rw [if_pos hcj] at HR
    have e0 := xR.cell 0 _ rfl
    have e1 := xR.cell 1 _ rfl
    have f0 := xR.ice 0
    have f1 := xR.ice 1
    go_wp2
    have zB := (xR.set 0 (.slice none 0 0)).set 1 (.slice none 0 0)
    have hbut := ((ButI.refl (w.heap.size + 1) (w4)).step 0 (.slice none 0 0)).step 1 (.slice none 0 0)
    generalize ((w4).setCell ⟨w.heap.size + 1, 0, none⟩ (.slice none 0 0)).setCell ⟨w.heap.size + 1, 1, none⟩ (.slice none 0 0) = w99 at *
    have y0 := zB.cell 0 _ rfl
    have y1 := zB.cell 1 _ rfl
    exact bodyPost_ret (v := .tuple #[KV.zero.v, .int .i64 cj]) (by simp [results, Tryz.results14, go_sem, KV.v, KV.zero, y0, y1]) rfl ⟨KResO.zero HR.out rfl, bw.trans (hbut.below (by omega))⟩

theorem text_drewK (w : World) (s : ByteArray) (k : Nat) (hk : s.size = k) (fr : Nat × Nat) (t : TypeId) (hs : k ≤ 1000000) : Byts (w.drew.alloc (.cells (bytesRow s (grownCap w k 0 t)) t fr)) (some ⟨w.heap.size, 0, none⟩) k (grownCap w k 0 t) s.data.toList := by
  subst hk
  exact text_drew w s fr t hs

set_option maxRecDepth 100000 in
set_option maxHeartbeats 1000000 in
theorem PutOn_c (x : KV) (r : RV) (w : World) (hE : Env w) (h : x.ok w) (hr : r.ok w) (hck : checkK x.p = 0) (hnm : x.n + x.m ≤ 60000) :
    Calls Tryz.prog 13 #[x.v, r.v] w fun e w' => KResO w' (putK x.p r.p) e ∧ Below w.heap.size w w' := by
  have HN := hide (fun w' hE h => RecText_c r w' hE h)
  have hl1 := h.s.len
  have hl2 := h.w.len
  obtain ⟨⟨s, t⟩, a, n, c, b, m, d⟩ := x
  have hs : Byts w a n c s := h.s
  have ht : Byts w b m d t := h.w
  have hso := hs.offs (R := w.heap.size + 2) (by omega)
  have HR : Hid (putK ⟨s, t⟩ r.p = if checkR r.p ≠ 0 then (zeroK, checkR r.p) else if 60000 < n + m + (textR r.p).length + 1 then (zeroK, 2) else (⟨s, t ++ (textR r.p ++ [10])⟩, 0)) := hide (by
    rw [putK_eq, show checkK ⟨s, t⟩ = 0 from hck, if_neg (by simp), show s.length = n from hl1, show t.length = m from hl2])
  have HT : Hid (checkR r.p = 0 → (textR r.p).length ≤ 100) := hide textR_len
  have HP : Hid (printR r.p = if checkR r.p = 0 then (textR r.p, 0) else ([], checkR r.p)) := hide rfl
  obtain ⟨⟨q, e', ⟨k, z, u, at', rd⟩⟩, ra, rn, rc⟩ := r
  dsimp only [KV.v, RV.v, RV.ok] at *
  have xR : Lay (((w.alloc (.cells #[.slice a n c, .slice b m d] 24)).alloc (.cells #[.int .i64 q, .int .i64 e', .int .i64 k, .int .i64 z, .int .i64 u, .int .i64 at', .slice ra rn rc] 29)).alloc (.cells [.slice none 0 0, .slice none 0 0].toArray 24)) (w.heap.size + 2) [.slice none 0 0, .slice none 0 0] := by
    have := Lay.made1 (w.alloc (.cells #[.slice a n c, .slice b m d] 24)) (.cells #[.int .i64 q, .int .i64 e', .int .i64 k, .int .i64 z, .int .i64 u, .int .i64 at', .slice ra rn rc] 29) [.slice none 0 0, .slice none 0 0] 24
    simpa only [World.size_alloc] using this
  go_enter Tryz.func13, Tryz.ntmps13
  go_wp2_with fail
  refine (HN.out _ (hE.below (by (repeat (first | exact Below.refl _ _ | assumption | refine Below.drew ?_ | refine below_drewN ?_ _ | refine belowA ?_ _ | refine belowT ?_ (by assumption) | refine Below.setCell ?_ (by first | (simp; done) | (simp; omega)) _)))) (hr.below (B := w.heap.size) (by (repeat (first | exact Below.refl _ _ | assumption | refine Below.drew ?_ | refine below_drewN ?_ _ | refine belowA ?_ _ | refine belowT ?_ (by assumption) | refine Below.setCell ?_ (by first | (simp; done) | (simp; omega)) _))) (Nat.le_refl _))).mono ?_
  rintro e w2 ⟨rfl, hb2⟩
  have bw : Below w.heap.size w w2 := by (repeat (first | exact Below.refl _ _ | assumption | refine Below.drew ?_ | refine below_drewN ?_ _ | refine belowA ?_ _ | refine belowT ?_ (by assumption) | refine Below.setCell ?_ (by first | (simp; done) | (simp; omega)) _))
  replace xR := xR.below hb2
  replace hs := hs.below bw (Nat.le_refl _)
  replace ht := ht.below bw (Nat.le_refl _)
  have j0 := keepc hb2 (p := ⟨w.heap.size, 0, none⟩) (u := .slice a n c) (by (first | (go_simp; done) | (simp [*, World.cell?_alloc_at, World.cell?_alloc_past, World.cell?_alloc_some, World.cell?_setCell_far]; done)))
  have j1 := keepc hb2 (p := ⟨w.heap.size, 1, none⟩) (u := .slice b m d) (by (first | (go_simp; done) | (simp [*, World.cell?_alloc_at, World.cell?_alloc_past, World.cell?_alloc_some, World.cell?_setCell_far]; done)))
  clear hb2 HN h
  unfold textV
  rw [HP.out]
  by_cases hcr : checkR ⟨q, e', ⟨k, z, u, at', rd⟩⟩ = 0
  · have hlen := HT.out hcr
    rw [if_neg (by simp [hcr])] at HR
    rw [if_pos hcr]
    generalize textR ⟨q, e', ⟨k, z, u, at', rd⟩⟩ = T at *
    have hsz : (⟨T.toArray⟩ : ByteArray).size = T.length := by rw [Lib.size_eq]
    have hz4 : ¬ (9223372036854775807 < (⟨T.toArray⟩ : ByteArray).size + 1) := by omega
    have hz5 : ¬ ((⟨T.toArray⟩ : ByteArray).size + (⟨#[10]⟩ : ByteArray).size > 9223372036854775807) := by have e1 : (⟨#[10]⟩ : ByteArray).size = 1 := rfl; omega
    have hUd : ((⟨T.toArray⟩ : ByteArray) ++ ⟨#[10]⟩).data.toList = T ++ [10] := by rw [feed_eq]
    have hUs : ((⟨T.toArray⟩ : ByteArray) ++ ⟨#[10]⟩).size = T.length + 1 := by rw [Lib.size_eq, hUd]; simp
    dsimp only
    by_cases hbig : 60000 < n + m + T.length + 1
    · rw [if_pos hbig] at HR
      have hb' : (60000 : Int) < (n : Int) + (m : Int) + (T.length : Int) + 1 := by omega
      have e0 := xR.cell 0 _ rfl
      have e1 := xR.cell 1 _ rfl
      have f0 := xR.ice 0
      have f1 := xR.ice 1
      go_wp2
      have zB := (xR.set 0 (.slice none 0 0)).set 1 (.slice none 0 0)
      have hbut := ((ButI.refl (w.heap.size + 2) (w2)).step 0 (.slice none 0 0)).step 1 (.slice none 0 0)
      generalize ((w2).setCell ⟨w.heap.size + 2, 0, none⟩ (.slice none 0 0)).setCell ⟨w.heap.size + 2, 1, none⟩ (.slice none 0 0) = w99 at *
      have y0 := zB.cell 0 _ rfl
      have y1 := zB.cell 1 _ rfl
      exact bodyPost_ret (v := .tuple #[KV.zero.v, .int .i64 2]) (by simp [results, Tryz.results13, go_sem, KV.v, KV.zero, y0, y1]) rfl ⟨KResO.zero HR.out rfl, bw.trans (hbut.below (by omega))⟩
    · rw [if_neg hbig] at HR
      have hb' : ¬ (60000 : Int) < (n : Int) + (m : Int) + (T.length : Int) + 1 := by omega
      generalize hUU : (⟨T.toArray⟩ : ByteArray) ++ ⟨#[10]⟩ = U at *
      have hU2 : T.length + 1 ≤ 1000000 := by omega
      have hU3 : m + (T.length + 1) ≤ 1000000 := by omega
      have hcv := text_conv U
      have HU := hide hUd
      have HUS := hide hUs
      clear hUd hl1 hl2
      have hlt3 := xR.lt
      have e0 := xR.cell 0 _ rfl
      have e1 := xR.cell 1 _ rfl
      have f0 := xR.ice 0
      have f1 := xR.ice 1
      have la0 := past1 (w := w2) j0
      have la1 := past1 (w := w2) j1
      have le0 := past2 (w := w2) j0
      have le1 := past2 (w := w2) j1
      go_upto_region 6 with fail
      have hz6 : ¬ (9223372036854775807 < (⟨T.toArray⟩ : ByteArray).size + 1) := by omega
      have hz7 : ¬ ((⟨T.toArray⟩ : ByteArray).size + (⟨#[10]⟩ : ByteArray).size > 9223372036854775807) := by have e1 : (⟨#[10]⟩ : ByteArray).size = 1 := rfl; omega
      have hz8 : ¬ (9223372036854775807 < T.length + 1) := by omega
      go_region_with (first
        | (go_at_call 28; refine (UConcat_c _ b m d (bytC t) _ _ _ (bytC (T ++ [10])) _ (by refine Rowed.below ht.rowed ?_; (repeat (first | exact Below.refl _ _ | assumption | refine Below.drew ?_ | refine below_drewN ?_ _ | refine belowA ?_ _ | refine belowT ?_ (by assumption) | refine Below.setCell ?_ (by first | (simp; done) | (simp; omega)) _))) (by rw [← HU.out]; exact (text_drewK w2.drew U (T.length + 1) HUS.out _ _ hU2).rowed.below (belowA (Below.refl _ _) _)) hU3 (by go_simp) (by go_simp)).mono ?_; rintro e w9 ⟨⟨v9, rfl, own9⟩, hb9⟩; rw [bytC_app] at own9; obtain ⟨ga, gc, rfl, hB9, hfr9⟩ := Byts.of_own own9; (have r0 := keepc hb9 (p := ⟨w.heap.size, 0, none⟩) (u := .slice a n c) (by (first | (go_simp; done) | (simp [*, World.cell?_alloc_at, World.cell?_alloc_past, World.cell?_alloc_some, World.cell?_setCell_far]; done)))); (have r1 := keepc hb9 (p := ⟨w.heap.size, 1, none⟩) (u := .slice b m d) (by (first | (go_simp; done) | (simp [*, World.cell?_alloc_at, World.cell?_alloc_past, World.cell?_alloc_some, World.cell?_setCell_far]; done)))); (have b9 : Below w2.heap.size w2 w9 := by clear bw; (repeat (first | exact Below.refl _ _ | assumption | refine Below.drew ?_ | refine below_drewN ?_ _ | refine belowA ?_ _ | refine belowT ?_ (by assumption) | refine Below.setCell ?_ (by first | (simp; done) | (simp; omega)) _))); (have xR9 := xR.below b9); (have o0 := xR9.cell 0 _ rfl); (have o1 := xR9.cell 1 _ rfl); (have v2 := xR9.ice 0); (have v3 := xR9.ice 1)))
      all_goals
        go_wp2
        have s9 := hs.below b9 (Nat.le_refl _)
        have hfr' : ∀ y, ga = some y → w2.heap.size ≤ y.block := fun y e => by have := hfr9 y e; simp at this; omega
        clear HUS
        have zB := (xR9.set 0 (.slice a n c)).set 1 (.slice ga (m + (T.length + 1)) gc)
        have hbut := ((ButI.refl (w.heap.size + 2) (w9)).step 0 (.slice a n c)).step 1 (.slice ga (m + (T.length + 1)) gc)
        generalize ((w9).setCell ⟨w.heap.size + 2, 0, none⟩ (.slice a n c)).setCell ⟨w.heap.size + 2, 1, none⟩ (.slice ga (m + (T.length + 1)) gc) = w99 at *
        have y0 := zB.cell 0 _ rfl
        have y1 := zB.cell 1 _ rfl
        refine bodyPost_ret (v := .tuple #[.agg #[.slice a n c, .slice ga (m + (T.length + 1)) gc], .int .i64 0]) (by simp [results, Tryz.results13, go_sem, y0, y1]) rfl ⟨?_, (belowT bw b9).trans (hbut.below (by omega))⟩
        rw [HR.out]
        exact ⟨⟨⟨s, t ++ (T ++ [10])⟩, a, n, c, ga, m + (T.length + 1), gc⟩, rfl, rfl, ⟨s9.but hbut.but hso, hB9.but hbut.but (.inr fun y e => by have := hfr' y e; omega)⟩⟩
  · have hcb : (checkR ⟨q, e', ⟨k, z, u, at', rd⟩⟩ != 0) = true := by simpa using hcr
    rw [if_pos hcr] at HR
    rw [if_neg hcr]
    generalize checkR ⟨q, e', ⟨k, z, u, at', rd⟩⟩ = cr at *
    have e0 := xR.cell 0 _ rfl
    have e1 := xR.cell 1 _ rfl
    have f0 := xR.ice 0
    have f1 := xR.ice 1
    go_wp2
    have zB := (xR.set 0 (.slice none 0 0)).set 1 (.slice none 0 0)
    have hbut := ((ButI.refl (w.heap.size + 2) (w2)).step 0 (.slice none 0 0)).step 1 (.slice none 0 0)
    generalize ((w2).setCell ⟨w.heap.size + 2, 0, none⟩ (.slice none 0 0)).setCell ⟨w.heap.size + 2, 1, none⟩ (.slice none 0 0) = w99 at *
    have y0 := zB.cell 0 _ rfl
    have y1 := zB.cell 1 _ rfl
    exact bodyPost_ret (v := .tuple #[KV.zero.v, .int .i64 cr]) (by simp [results, Tryz.results13, go_sem, KV.v, KV.zero, y0, y1]) rfl ⟨KResO.zero HR.out rfl, bw.trans (hbut.below (by omega))⟩

end Go.Proofs.YtcbgkjmcdjpgcaaGreatDoor

/- The contract of slices.Concat on two lists of records; under a condition on their lengths alone. -/
namespace Go.Proofs.YtcbgkjmcdjpgcaaGreatDoor
open Go.RowKit
set_option linter.unusedVariables false
set_option maxRecDepth 100000
set_option linter.unusedSimpArgs false

set_option maxHeartbeats 1000000 in
theorem RGrow_c (n : Nat) (w : World) (hn : 0 < n) (hn2 : n ≤ 1000000) :
    Calls Tryz.prog 42 #[.slice none 0 0, .int .i64 n] w fun e w' => (∃ q cap, e = .returned (.slice (some ⟨q, 0, none⟩) 0 cap) ∧ n ≤ cap ∧ w.heap.size ≤ q ∧ w'.ownsRow w.heap.size 29 7 (.slice (some ⟨q, 0, none⟩) 0 cap) 0 []) ∧ Below w.heap.size w w' := by
  obtain ⟨i, hi, hz, hs, hb⟩ := recInfo
  have hn' : (0 : Int) < (n : Int) := by omega
  go_enter Tryz.func42, Tryz.ntmps42
  go_wp2_with (at_builtin; go_loud (refine Lib.wpList_append_run _ rfl _ _ _ _ rfl _ _ rfl rfl _ _ (Lib.run_append_nil_zeros _ 35 3 _ 29 i (.agg #[.int .i64 0, .int .i64 0, .int .i64 0, .int .i64 0, .int .i64 0, .int .i64 0, .slice none 0 0]) .i64 .i64 Tryz.underlying35 Tryz.underlying3 hi hz n hn (by omega) (by omega) (by rw [hb]; omega)) ?_))
  go_ret
  have hge := grownCap_ge w n 0 29
  have hle := grownCap_le_maxLen w n 0 29 (by simp [maxLen]; omega)
  generalize grownCap w n 0 29 = cap at *
  refine ⟨⟨_, cap, rfl, hge, Nat.le_refl _, ⟨rfl, .inr ⟨w.heap.size, cap, _, rfl, Nat.le_refl _, heap_new w _, Nat.zero_le _, hle, ?_, by simp⟩⟩⟩, by (repeat (first | exact Below.refl _ _ | assumption | refine Below.drew ?_ | refine below_drewN ?_ _ | refine belowA ?_ _ | refine belowT ?_ (by assumption) | refine Below.setCell ?_ (by first | (simp; done) | (simp; omega)) _))⟩
  have hzc : (Value.cells (.agg #[.int .i64 0, .int .i64 0, .int .i64 0, .int .i64 0, .int .i64 0, .int .i64 0, .slice none 0 0])).size = 7 := rfl
  simp [size_zeroCells, hzc]
  omega

set_option maxHeartbeats 1000000 in
theorem RGrow_z (w : World) : Calls Tryz.prog 42 #[.slice none 0 0, .int .i64 0] w fun e w' => e = .returned (.slice none 0 0) ∧ w' = w := by
  go_enter Tryz.func42, Tryz.ntmps42
  go_wp2
  go_ret
  exact ⟨rfl, rfl⟩

set_option maxHeartbeats 2000000 in
theorem RConcat_z (g : Nat) (a : Option Addr) (c : Nat) (b : Option Addr) (d : Nat) (w : World)
    (hg0 : w.cell? ⟨g, 0, none⟩ = some (.slice a 0 c)) (hg1 : w.cell? ⟨g, 1, none⟩ = some (.slice b 0 d)) :
    Calls Tryz.prog 29 #[.slice (some ⟨g, 0, none⟩) 2 2] w fun e w' => e = .returned (.slice none 0 0) ∧ w' = w := by
  obtain ⟨i, hi, hz, hs, hb⟩ := recInfo
  go_enter Tryz.func29, Tryz.ntmps29
  go_wp2
  refine wp_loop_rounds 3 ?_
  rw [rounds_succ]
  go_wp2
  rw [rounds_succ]
  go_wp2
  rw [rounds_succ]
  go_wp2_with fail
  refine (RGrow_z _).mono ?_
  rintro e w1 ⟨rfl, rfl⟩
  go_wp2_with fail
  refine wp_loop_rounds 3 ?_
  rw [rounds_succ]
  go_wp2_with (at_builtin; go_loud (refine Lib.wpList_append_run _ rfl _ _ _ _ rfl _ _ rfl rfl _ _ (append_zero _ 35 _ 29 i Tryz.underlying35 hi a c) ?_))
  rw [rounds_succ]
  go_wp2_with (at_builtin; go_loud (refine Lib.wpList_append_run _ rfl _ _ _ _ rfl _ _ rfl rfl _ _ (append_zero _ 35 _ 29 i Tryz.underlying35 hi b d) ?_))
  rw [rounds_succ]
  go_wp2
  go_ret
  exact ⟨rfl, rfl⟩

set_option maxHeartbeats 2000000 in
theorem RConcat_p (g : Nat) (a : Option Addr) (n c : Nat) (l : List Value) (b : Option Addr) (m d : Nat) (k : List Value) (w : World) (h1 : Rowed w 7 a n c l) (h2 : Rowed w 7 b m d k) (h0 : 0 < n + m) (hnm : n + m ≤ 1000000)
    (hg0 : w.cell? ⟨g, 0, none⟩ = some (.slice a n c)) (hg1 : w.cell? ⟨g, 1, none⟩ = some (.slice b m d)) :
    Calls Tryz.prog 29 #[.slice (some ⟨g, 0, none⟩) 2 2] w fun e w' => (∃ v, e = .returned v ∧ w'.ownsRow w.heap.size 29 7 v (n + m) (l ++ k)) ∧ Below w.heap.size w w' := by
  obtain ⟨i, hi, hz, hs, hb⟩ := recInfo
  go_enter Tryz.func29, Tryz.ntmps29
  go_wp2
  refine wp_loop_rounds 3 ?_
  rw [rounds_succ]
  go_wp2
  rw [rounds_succ]
  go_wp2
  rw [rounds_succ]
  go_wp2_with fail
  rw [show (n : Int) + (m : Int) = ((n + m : Nat) : Int) by omega]
  refine (RGrow_c (n + m) _ h0 hnm).mono ?_
  rintro e w1 ⟨⟨q, cap, rfl, hcap, hq, ho⟩, hb1⟩
  have hq' : ∀ k, some q = some k → w.heap.size ≤ k := by intro k e; cases e; exact hq
  have hc0 := keepc hb1 hg0
  have i1 := h1.below hb1
  go_wp2_with fail
  refine wp_loop_rounds 3 ?_
  rw [rounds_succ]
  go_wp2_with (at_builtin; refine wpList_append_fits_any _ rfl _ _ 35 rfl w.heap.size 29 i 7 Tryz.underlying35 hi hs q 0 cap [] rfl ho a n c l rfl ?ha1 ?ha2 ?ha3 h1.one ?ha4 ?ha5)
  case ha1 => exact h1.len
  case ha2 => exact h1.nils
  case ha3 => exact i1.src
  case ha4 => omega
  case ha5 =>
    intro w2 ho2 hg2
    have b2 : Below w.heap.size w w2 := hb1.grown hg2 hb1.size hq'
    have hd1 := keepc b2 hg1
    have i2 := h2.below b2
    go_wp2
    rw [rounds_succ]
    go_wp2_with (at_builtin; refine wpList_append_fits_any _ rfl _ _ 35 rfl w.heap.size 29 i 7 Tryz.underlying35 hi hs q n cap l rfl ho2 b m d k rfl ?hb1 ?hb2 ?hb3 h2.one ?hb4 ?hb5)
    case hb1 => exact h2.len
    case hb2 => exact h2.nils
    case hb3 => exact i2.src
    case hb4 => omega
    case hb5 =>
      intro w3 ho3 hg3
      have b3 : Below w.heap.size w w3 := b2.grown hg3 b2.size hq'
      go_wp2
      rw [rounds_succ]
      go_wp2
      go_ret
      exact ⟨⟨_, rfl, ho3⟩, b3⟩

theorem RConcat_c (g : Nat) (a : Option Addr) (n c : Nat) (l : List Value) (b : Option Addr) (m d : Nat) (k : List Value) (w : World) (h1 : Rowed w 7 a n c l) (h2 : Rowed w 7 b m d k) (hnm : n + m ≤ 1000000)
    (hg0 : w.cell? ⟨g, 0, none⟩ = some (.slice a n c)) (hg1 : w.cell? ⟨g, 1, none⟩ = some (.slice b m d)) :
    Calls Tryz.prog 29 #[.slice (some ⟨g, 0, none⟩) 2 2] w fun e w' => (∃ v, e = .returned v ∧ w'.ownsRow w.heap.size 29 7 v (n + m) (l ++ k)) ∧ Below w.heap.size w w' := by
  by_cases h0 : 0 < n + m
  · exact RConcat_p g a n c l b m d k w h1 h2 h0 hnm hg0 hg1
  · obtain ⟨rfl, rfl⟩ : n = 0 ∧ m = 0 := by omega
    obtain rfl : l = [] := List.eq_nil_of_length_eq_zero (by simpa using h1.len)
    obtain rfl : k = [] := List.eq_nil_of_length_eq_zero (by simpa using h2.len)
    refine (RConcat_z g a c b d w hg0 hg1).mono ?_
    rintro e w' ⟨rfl, rfl⟩
    exact ⟨⟨_, rfl, World.ownsRow_nil _ _ _ _⟩, Below.refl _ _⟩


end Go.Proofs.YtcbgkjmcdjpgcaaGreatDoor

/- The contract of the document's own Recovered; no condition but that the disk is read, that it is a right one, and that the package-level variables are as their texts lay them. -/
namespace Go.Proofs.YtcbgkjmcdjpgcaaGreatDoor
open Go.RowKit
set_option linter.unusedVariables false
set_option maxRecDepth 100000
set_option linter.unusedSimpArgs false

/-- What Recovered answers. -/
def RecvRes (w' : World) (r : PK × List PR × Int) (e : Ending) : Prop :=
  ∃ x : KV, ∃ la ln lc X, e = .returned (.tuple #[x.v, .slice la ln lc]) ∧ x.p = r.1 ∧ x.ok w' ∧ Recs w' la ln lc X ∧ X.map RV.p = r.2.1

set_option maxRecDepth 100000 in
set_option maxHeartbeats 1000000 in
theorem Recovered_c (x : KV) (w : World) (hE : Env w) (h : x.ok w) (hck : checkK x.p = 0) (hnm : x.n + x.m ≤ 60000) :
    Calls Tryz.prog 15 #[x.v] w fun e w' => RecvRes w' (recK x.p) e ∧ Below w.heap.size w w' := by
  have hl1 := h.s.len
  have hl2 := h.w.len
  obtain ⟨⟨s, t⟩, a, n, c, b, m, d⟩ := x
  have hs : Byts w a n c s := h.s
  have ht : Byts w b m d t := h.w
  dsimp only [KV.v] at *
  have hf1 := lines_facts _ 80 s (Nat.le_refl _)
  have hf2 := lines_facts _ (80 - (linesP 80 s).1.length) t (Nat.le_refl _)
  have hk : (linesP (80 - (linesP 80 s).1.length) t).2.1 ≤ t.length := by
    have e1 := congrArg List.length hf2.2.2.1
    rw [List.length_append, ← hf2.2.2.2.1] at e1
    omega
  have HR : Hid (recK ⟨s, t⟩ = (⟨s ++ t.take (linesP (80 - (linesP 80 s).1.length) t).2.1, []⟩, (linesP 80 s).1 ++ (linesP (80 - (linesP 80 s).1.length) t).1, 0)) := hide (by unfold recK; rw [show checkK ⟨s, t⟩ = 0 from hck, if_neg (by simp)])
  have hc1 := hf1.1
  have hc2 := hf2.1
  clear h hck hf1 hf2
  have xP := (Lay.made w [.slice a n c, .slice b m d] 24).below (belowA (Below.refl _ _) (.cells #[.slice none 0 0, .slice none 0 0] 24))
  have xR := Lay.made1 w (.cells #[.slice a n c, .slice b m d] 24) [.slice none 0 0, .slice none 0 0] 24
  have bw : Below w.heap.size w ((w.alloc (.cells #[.slice a n c, .slice b m d] 24)).alloc (.cells #[.slice none 0 0, .slice none 0 0] 24)) := by (repeat (first | exact Below.refl _ _ | assumption | refine Below.drew ?_ | refine below_drewN ?_ _ | refine belowA ?_ _ | refine belowT ?_ (by assumption) | refine Below.setCell ?_ (by first | (simp; done) | (simp; omega)) _))
  have hcv1 := (hs.below bw (Nat.le_refl _)).text (P := Tryz.prog) (src := 22) (dst := 9) Tryz.underlying22 Tryz.underlying5 Tryz.underlying9
  have hL1 := fun w' h => linesOf_c ⟨s.toArray⟩ 80 w' h (by rw [Lib.size_eq]; show s.length ≤ 60000; omega) (Nat.le_refl _)
  rw [show (⟨s.toArray⟩ : ByteArray).data.toList = s by simp] at hL1
  have HL1 := hide hL1
  have hL2 := fun w' h => linesOf_c ⟨t.toArray⟩ (80 - (linesP 80 s).1.length) w' h (by rw [Lib.size_eq]; show t.length ≤ 60000; omega) (by omega)
  rw [show (⟨t.toArray⟩ : ByteArray).data.toList = t by simp] at hL2
  have HL2 := hide hL2
  clear hL1 hL2
  generalize linesP 80 s = P1 at *
  obtain ⟨D1, k1, e1⟩ := P1
  dsimp only at *
  generalize linesP (80 - D1.length) t = P2 at *
  obtain ⟨D2, k2, e2⟩ := P2
  dsimp only at *
  go_enter Tryz.func15, Tryz.ntmps15
  go_wp2_with fail
  refine (HL1.out _ (hE.below bw)).mono ?_
  rintro e w1 ⟨⟨v1, X1, rfl, o1, d1, x1⟩, hb1⟩
  replace xP := xP.below hb1
  replace xR := xR.below hb1
  replace bw := belowT bw hb1
  obtain ⟨la1, lc1, rfl, R1, hla1⟩ := o1.recs
  dsimp only at x1
  have hX1 : X1.length = D1.length := by rw [← x1, List.length_map]
  have hD1 : FromD (w.heap.size + 2) X1 := by simpa using d1
  clear hb1 o1 d1 hcv1 HL1 hla1
  have hcv2 := (ht.below bw (Nat.le_refl _)).text (P := Tryz.prog) (src := 22) (dst := 9) Tryz.underlying22 Tryz.underlying5 Tryz.underlying9
  have hcast : ((80 - D1.length : Nat) : Int) = 80 - (X1.length : Int) := by omega
  rw [hcast] at HL2
  have hX80 : X1.length ≤ 80 := by omega
  have HX1 := hide hX1
  have xR1 := xR.lt
  clear hX1 hcast
  have e0 := xP.cell 0 _ rfl
  have e1 := xP.cell 1 _ rfl
  have f0 := xP.ice 0
  have f1 := xP.ice 1
  go_wp2_with fail
  refine (HL2.out _ (hE.below bw)).mono ?_
  rintro e w2 ⟨⟨v2, X2, rfl, o2, d2, x2⟩, hb2⟩
  replace xP := xP.below hb2
  replace xR := xR.below hb2
  replace bw := belowT bw hb2
  replace R1 := R1.below hb2 (Nat.le_refl _)
  obtain ⟨la2, lc2, rfl, R2, hla2⟩ := o2.recs
  dsimp only at x2
  have hX2 : X2.length = D2.length := by rw [← x2, List.length_map]
  have hX2m : X2.length ≤ 80 := by omega
  have hD2 : FromD (w.heap.size + 2) X2 := d2.mono (by have := xR1; omega)
  clear hb2 o2 d2 hcv2 HL2 hla2 e0 e1 f0 f1 hX2
  dsimp only
  have hmd := Cel.le ht
  have hdm := Cel.max ht
  have hk2 : k2 ≤ m := by omega
  have hj0 : (0 : Int) ≤ (k2 : Int) := by omega
  have hj1 : (k2 : Int) ≤ (d : Int) := by omega
  have hj2 : k2 ≤ d := by omega
  have hj3 : ¬ ((k2 : Int) < 0) := by omega
  have hj4 : ¬ ((d : Int) < (k2 : Int)) := by omega
  have hn1 : n + k2 ≤ 1000000 := by omega
  have hn2 : X1.length + X2.length ≤ 1000000 := by omega
  have ss := (hs.below bw (Nat.le_refl _)).rowed
  have tt := ((ht.take hk2).below bw (Nat.le_refl _)).rowed
  have hlt2 := xR.lt
  have e0 := xP.cell 0 _ rfl
  have e1 := xP.cell 1 _ rfl
  have f0 := xP.ice 0
  have f1 := xP.ice 1
  have g0 := xR.cell 0 _ rfl
  have g1 := xR.cell 1 _ rfl
  have i0 := xR.ice 0
  have i1 := xR.ice 1
  go_upto_region 3 with fail
  go_region_held3 (fun w' => w'.cell? ⟨w.heap.size, 0, none⟩ = some (.slice a n c) ∧ w'.cell? ⟨w.heap.size, 1, none⟩ = some (.slice b m d)) ((first | (go_simp; done) | (simp [*, World.cell?_alloc_at, World.cell?_alloc_past, World.cell?_alloc_some, World.cell?_setCell_far]; done))) (first
    | (go_at_call 28; refine (UConcat_c _ a n c (bytC s) b k2 d (bytC (t.take k2)) _ (by refine Rowed.below ss ?_; clear bw; (repeat (first | exact Below.refl _ _ | assumption | refine Below.drew ?_ | refine below_drewN ?_ _ | refine belowA ?_ _ | refine belowT ?_ (by assumption) | refine Below.setCell ?_ (by first | (simp; done) | (simp; omega)) _))) (by refine Rowed.below tt ?_; clear bw; (repeat (first | exact Below.refl _ _ | assumption | refine Below.drew ?_ | refine below_drewN ?_ _ | refine belowA ?_ _ | refine belowT ?_ (by assumption) | refine Below.setCell ?_ (by first | (simp; done) | (simp; omega)) _))) hn1 (by go_simp) (by go_simp)).mono ?_; rintro e w8 ⟨⟨v8, rfl, own8⟩, hb8⟩; rw [bytC_app] at own8; obtain ⟨ga, gc, rfl, hB8, hfr8⟩ := Byts.of_own own8; (have p0 := keepc hb8 (p := ⟨w.heap.size, 0, none⟩) (u := .slice a n c) (by (first | (go_simp; done) | (simp [*, World.cell?_alloc_at, World.cell?_alloc_past, World.cell?_alloc_some, World.cell?_setCell_far]; done)))); (have p1 := keepc hb8 (p := ⟨w.heap.size, 1, none⟩) (u := .slice b m d) (by (first | (go_simp; done) | (simp [*, World.cell?_alloc_at, World.cell?_alloc_past, World.cell?_alloc_some, World.cell?_setCell_far]; done)))); (have b8 : Below w2.heap.size w2 w8 := by clear bw; (repeat (first | exact Below.refl _ _ | assumption | refine Below.drew ?_ | refine below_drewN ?_ _ | refine belowA ?_ _ | refine belowT ?_ (by assumption) | refine Below.setCell ?_ (by first | (simp; done) | (simp; omega)) _))); (have xR8 := xR.below b8); (have u0 := xR8.cell 0 _ rfl); (have u1 := xR8.cell 1 _ rfl); (have v0 := xR8.ice 0); (have v1 := xR8.ice 1); (have hb8c := (bcell hb8).1))
    | (go_at_call 29; refine (RConcat_c _ la1 X1.length lc1 (rcells X1) la2 X2.length lc2 (rcells X2) _ (by refine Rowed.below R1.rowed ?_; clear bw; (repeat (first | exact Below.refl _ _ | assumption | refine Below.drew ?_ | refine below_drewN ?_ _ | refine belowA ?_ _ | refine belowT ?_ (by assumption) | refine Below.setCell ?_ (by first | (simp; done) | (simp; omega)) _))) (by refine Rowed.below R2.rowed ?_; clear bw; (repeat (first | exact Below.refl _ _ | assumption | refine Below.drew ?_ | refine below_drewN ?_ _ | refine belowA ?_ _ | refine belowT ?_ (by assumption) | refine Below.setCell ?_ (by first | (simp; done) | (simp; omega)) _))) hn2 (by first | (go_simp; done) | (rw [hb8c _ _ (by simp)]; go_simp; done)) (by first | (go_simp; done) | (rw [hb8c _ _ (by simp)]; go_simp; done))).mono ?_; rintro e w9 ⟨⟨v9, rfl, own9⟩, hb9⟩; rw [← rcells_app] at own9; (have hoC := OwnR.of_own own9 hb9 (fun x hx => (List.mem_append.1 hx).elim (fun h => RV.ok.below (R1.ok x h) (B := w2.heap.size) (by clear bw; (repeat (first | exact Below.refl _ _ | assumption | refine Below.drew ?_ | refine below_drewN ?_ _ | refine belowA ?_ _ | refine belowT ?_ (by assumption) | refine Below.setCell ?_ (by first | (simp; done) | (simp; omega)) _))) (Nat.le_refl _)) (fun h => RV.ok.below (R2.ok x h) (B := w2.heap.size) (by clear bw; (repeat (first | exact Below.refl _ _ | assumption | refine Below.drew ?_ | refine below_drewN ?_ _ | refine belowA ?_ _ | refine belowT ?_ (by assumption) | refine Below.setCell ?_ (by first | (simp; done) | (simp; omega)) _))) (Nat.le_refl _)))); obtain ⟨oC, hCl⟩ := hoC; obtain ⟨ca, cc, rfl, Rc, hca⟩ := oC.recs; (have r0 := keepc hb9 (p := ⟨w.heap.size, 0, none⟩) (u := .slice a n c) (by (first | (go_simp; done) | (simp [*, World.cell?_alloc_at, World.cell?_alloc_past, World.cell?_alloc_some, World.cell?_setCell_far]; done)))); (have r1 := keepc hb9 (p := ⟨w.heap.size, 1, none⟩) (u := .slice b m d) (by (first | (go_simp; done) | (simp [*, World.cell?_alloc_at, World.cell?_alloc_past, World.cell?_alloc_some, World.cell?_setCell_far]; done)))); (have b9 : Below w2.heap.size w2 w9 := by clear bw; (repeat (first | exact Below.refl _ _ | assumption | refine Below.drew ?_ | refine below_drewN ?_ _ | refine belowA ?_ _ | refine belowT ?_ (by assumption) | refine Below.setCell ?_ (by first | (simp; done) | (simp; omega)) _))); (have xR9 := xR.below b9); (have o0 := xR9.cell 0 _ rfl); (have o1 := xR9.cell 1 _ rfl); (have v2 := xR9.ice 0); (have v3 := xR9.ice 1)))
  all_goals
    go_wp2
    have hB9 : Byts w9 ga (n + k2) gc (s ++ t.take k2) := hB8.below (B := w8.heap.size) (by clear bw b8 b9; (repeat (first | exact Below.refl _ _ | assumption | refine Below.drew ?_ | refine below_drewN ?_ _ | refine belowA ?_ _ | refine belowT ?_ (by assumption) | refine Below.setCell ?_ (by first | (simp; done) | (simp; omega)) _))) (Nat.le_refl _)
    rw [hCl] at Rc
    have hs8 := b8.size
    have hfr' : ∀ y, ga = some y → w2.heap.size ≤ y.block := fun y e => (by have := hfr8 y e; (try simp at this); omega)
    have hF : FreshR (w.heap.size + 2) ca (X1 ++ X2) := ⟨fun y e => (by have := hca y e; (try simp at this); omega), fun x hx => (List.mem_append.1 hx).elim (hD1 x) (hD2 x)⟩
    have zB := (xR9.set 0 (.slice ga (n + k2) gc)).set 1 (.slice none 0 0)
    have hbut := ((ButI.refl (w.heap.size + 1) (w9)).step 0 (.slice ga (n + k2) gc)).step 1 (.slice none 0 0)
    generalize ((w9).setCell ⟨w.heap.size + 1, 0, none⟩ (.slice ga (n + k2) gc)).setCell ⟨w.heap.size + 1, 1, none⟩ (.slice none 0 0) = w99 at *
    have y0 := zB.cell 0 _ rfl
    have y1 := zB.cell 1 _ rfl
    refine bodyPost_ret (v := .tuple #[.agg #[.slice ga (n + k2) gc, .slice none 0 0], .slice ca (X1.length + X2.length) cc]) (by simp [results, Tryz.results15, go_sem, y0, y1]) rfl ⟨?_, (belowT bw b9).trans (hbut.below (by omega))⟩
    rw [HR.out]
    exact ⟨⟨⟨s ++ t.take k2, []⟩, ga, n + k2, gc, none, 0, 0⟩, ca, X1.length + X2.length, cc, X1 ++ X2, rfl, rfl, ⟨hB9.but hbut.but (.inr fun y e => by have := hfr' y e; omega), Byts.nilSlice _⟩, Rc.but hbut.but hF (by omega), by rw [List.map_append, x1, x2]⟩

end Go.Proofs.YtcbgkjmcdjpgcaaGreatDoor
