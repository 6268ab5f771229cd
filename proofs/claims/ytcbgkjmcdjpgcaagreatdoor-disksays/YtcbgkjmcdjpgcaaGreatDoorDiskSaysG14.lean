/- The contracts of disk.Check, disk.Same, disk.Crash; no condition but that the disk is read, and that the package-level variables are as their texts lay them. -/
import Derived.Test.YtcbgkjmcdjpgcaaGreatDoorDiskSaysG13
namespace Go.Proofs.YtcbgkjmcdjpgcaaGreatDoor
open Go.RowKit
set_option linter.unusedVariables false
set_option maxRecDepth 100000
set_option linter.unusedSimpArgs false

set_option maxRecDepth 100000 in
set_option maxHeartbeats 1000000 in
theorem KCheck_c (x : KV) (w : World) (hE : Env w) (h : x.ok w) (hn : x.n ≤ 140737488355328) (hm : x.m ≤ 140737488355328) :
    Calls Tryz.prog 10 #[x.v] w fun e w' => e = .returned (.int .i64 (checkK x.p)) ∧ Below w.heap.size w w' := by
  have HS := hide (fun w' hE h => safe_c x w' hE h hn hm)
  obtain ⟨⟨s, t⟩, a, n, c, b, m, d⟩ := x
  dsimp only [KV.v] at *
  go_enter Tryz.func10, Tryz.ntmps10
  go_wp2_with fail
  refine (HS.out _ (hE.below (by (repeat (first | exact Below.refl _ _ | assumption | refine Below.drew ?_ | refine below_drewN ?_ _ | refine belowA ?_ _ | refine belowT ?_ (by assumption) | refine Below.setCell ?_ (by first | (simp; done) | (simp; omega)) _)))) (h.below (by (repeat (first | exact Below.refl _ _ | assumption | refine Below.drew ?_ | refine below_drewN ?_ _ | refine belowA ?_ _ | refine belowT ?_ (by assumption) | refine Below.setCell ?_ (by first | (simp; done) | (simp; omega)) _))))).mono ?_
  rintro e w1 ⟨⟨v, X, rfl, _, _, _⟩, hb1⟩
  go_wp2
  go_ret
  exact ⟨rfl, by (repeat (first | exact Below.refl _ _ | assumption | refine Below.drew ?_ | refine below_drewN ?_ _ | refine belowA ?_ _ | refine belowT ?_ (by assumption) | refine Below.setCell ?_ (by first | (simp; done) | (simp; omega)) _))⟩

theorem BEq_c (a : Option Addr) (n c : Nat) (l : List UInt8) (b : Option Addr) (m d : Nat) (k : List UInt8) (w : World) (h1 : Byts w a n c l) (h2 : Byts w b m d k) :
    Calls Tryz.prog 25 #[.slice a n c, .slice b m d] w fun e w' => e = .returned (.bool (decide (l = k))) ∧ w' = w := by
  refine (Tryz.bytes_Equal_all a b n c m d (numsB l) (numsB k) w (by rw [numsB_len, h1.len]) (by rw [numsB_len, h2.len]) h1.into h2.into).mono ?_
  rintro e w' ⟨rfl, rfl⟩
  rw [bytesOf_nums, bytesOf_nums]
  exact ⟨ret_bool (by rw [Bool.eq_iff_iff]; simp), rfl⟩

set_option maxRecDepth 100000 in
set_option maxHeartbeats 1000000 in
theorem KSame_c (x y : KV) (w : World) (h : x.ok w) (k : y.ok w) : Calls Tryz.prog 11 #[x.v, y.v] w fun e w' => e = .returned (.bool (sameK x.p y.p)) ∧ Below w.heap.size w w' := by
  obtain ⟨⟨s, t⟩, a, n, c, b, m, d⟩ := x
  obtain ⟨⟨s', t'⟩, a', n', c', b', m', d'⟩ := y
  have hs : Byts w a n c s := h.s
  have ht : Byts w b m d t := h.w
  have hs' : Byts w a' n' c' s' := k.s
  have ht' : Byts w b' m' d' t' := k.w
  dsimp only [KV.v] at *
  have HK : Hid (sameK ⟨s, t⟩ ⟨s', t'⟩ = (decide (s = s') && decide (t = t'))) := hide rfl
  have HB1 := hide (fun w' h1 h2 => BEq_c a n c s a' n' c' s' w' h1 h2)
  have HB2 := hide (fun w' h1 h2 => BEq_c b m d t b' m' d' t' w' h1 h2)
  clear h k
  generalize decide (s = s') = e1 at *
  generalize decide (t = t') = e2 at *
  go_enter Tryz.func11, Tryz.ntmps11
  go_wp2_with fail
  refine (HB1.out _ (hs.below (B := w.heap.size) (by (repeat (first | exact Below.refl _ _ | assumption | refine Below.drew ?_ | refine below_drewN ?_ _ | refine belowA ?_ _ | refine belowT ?_ (by assumption) | refine Below.setCell ?_ (by first | (simp; done) | (simp; omega)) _))) (Nat.le_refl _)) (hs'.below (B := w.heap.size) (by (repeat (first | exact Below.refl _ _ | assumption | refine Below.drew ?_ | refine below_drewN ?_ _ | refine belowA ?_ _ | refine belowT ?_ (by assumption) | refine Below.setCell ?_ (by first | (simp; done) | (simp; omega)) _))) (Nat.le_refl _))).mono ?_
  rintro e w1 ⟨rfl, rfl⟩
  cases e1
  · go_wp2
    go_ret
    exact ⟨ret_bool (by rw [HK.out]; rfl), by (repeat (first | exact Below.refl _ _ | assumption | refine Below.drew ?_ | refine below_drewN ?_ _ | refine belowA ?_ _ | refine belowT ?_ (by assumption) | refine Below.setCell ?_ (by first | (simp; done) | (simp; omega)) _))⟩
  · go_wp2_with fail
    refine (HB2.out _ (ht.below (B := w.heap.size) (by (repeat (first | exact Below.refl _ _ | assumption | refine Below.drew ?_ | refine below_drewN ?_ _ | refine belowA ?_ _ | refine belowT ?_ (by assumption) | refine Below.setCell ?_ (by first | (simp; done) | (simp; omega)) _))) (Nat.le_refl _)) (ht'.below (B := w.heap.size) (by (repeat (first | exact Below.refl _ _ | assumption | refine Below.drew ?_ | refine below_drewN ?_ _ | refine belowA ?_ _ | refine belowT ?_ (by assumption) | refine Below.setCell ?_ (by first | (simp; done) | (simp; omega)) _))) (Nat.le_refl _))).mono ?_
    rintro e w1 ⟨rfl, rfl⟩
    go_wp2
    go_ret
    exact ⟨ret_bool (by rw [HK.out]; rfl), by (repeat (first | exact Below.refl _ _ | assumption | refine Below.drew ?_ | refine below_drewN ?_ _ | refine belowA ?_ _ | refine belowT ?_ (by assumption) | refine Below.setCell ?_ (by first | (simp; done) | (simp; omega)) _))⟩

/-- What join answers: new memory. -/
def JoinRes (B : Nat) (w' : World) (n : Nat) (l : List UInt8) (e : Ending) : Prop := ∃ g, e = .returned (.slice (some ⟨g, 0, none⟩) n n) ∧ B ≤ g ∧ Byts w' (some ⟨g, 0, none⟩) n n l
theorem jcopy_c (a : Option Addr) (n c : Nat) (l : List UInt8) (w : World) (h : Byts w a n c l) (hn : n ≤ 1000000) : Calls Tryz.prog 20 #[.slice a n c, .slice none 0 0] w fun e w' => JoinRes w.heap.size w' n l e ∧ Below w.heap.size w w' := by
  refine (djoin_none a n c l none 0 w h hn).mono ?_
  rintro e w' ⟨⟨rfl, i⟩, hb⟩
  exact ⟨⟨_, rfl, Nat.le_refl _, i⟩, hb⟩
theorem jboth_c (a : Option Addr) (n c : Nat) (l : List UInt8) (b : Option Addr) (m d : Nat) (k : List UInt8) (w : World) (h1 : Byts w a n c l) (h2 : Byts w b m d k) (hn : n + m ≤ 1000000) : Calls Tryz.prog 20 #[.slice a n c, .slice b m d] w fun e w' => JoinRes w.heap.size w' (n + m) (l ++ k) e ∧ Below w.heap.size w w' := by
  refine (djoin_c a n c l b m d k w h1 h2 hn).mono ?_
  rintro e w' ⟨⟨rfl, i⟩, hb⟩
  exact ⟨⟨_, rfl, Nat.le_refl _, i⟩, hb⟩

/-- What a call answers that makes a disk: new memory. -/
def KRes (B : Nat) (w' : World) (r : PK × Int) (e : Ending) : Prop := ∃ x : KV, e = .returned (.tuple #[x.v, .int .i64 r.2]) ∧ x.p = r.1 ∧ x.ok w' ∧ x.fresh B
theorem KRes.zero {B : Nat} {w' : World} {r : PK × Int} {e : Ending} {i : Int} (hr : r = (zeroK, i)) (h : e = .returned (.tuple #[KV.zero.v, .int .i64 i])) : KRes B w' r e := by
  subst hr
  exact ⟨KV.zero, h, rfl, KV.zero_ok _, KV.zero_fresh _⟩

set_option maxRecDepth 100000 in
set_option maxHeartbeats 4000000 in
theorem Crash_c (x : KV) (q : Int) (w : World) (hE : Env w) (h : x.ok w) (hn : x.n ≤ 140737488355328) (hm : x.m ≤ 140737488355328) :
    Calls Tryz.prog 6 #[x.v, .int .i64 q] w fun e w' => KRes w.heap.size w' (crashK x.p q) e ∧ Below w.heap.size w w' := by
  have HS := hide (fun w' hE h => KCheck_c x w' hE h hn hm)
  have hl1 := h.s.len
  have hl2 := h.w.len
  obtain ⟨⟨s, t⟩, a, n, c, b, m, d⟩ := x
  have hs : Byts w a n c s := h.s
  have ht : Byts w b m d t := h.w
  dsimp only [KV.v] at *
  have HR : Hid (crashK ⟨s, t⟩ q = if checkK ⟨s, t⟩ ≠ 0 then (zeroK, checkK ⟨s, t⟩) else if q < 0 ∨ (m : Int) < q then (zeroK, 3) else (⟨s, t.take q.toNat⟩, 0)) := hide (by unfold crashK; simp only [hl2])
  have HL : Hid (checkK ⟨s, t⟩ = 0 → n + m ≤ 60000) := hide (by
    unfold checkK
    intro e
    split at e
    · cases e
    · simp only at *; omega)
  have xR := Lay.made1 w (.cells #[.slice a n c, .slice b m d] 24) [.slice none 0 0, .slice none 0 0] 24
  go_enter Tryz.func6, Tryz.ntmps6
  go_wp2_with fail
  refine (HS.out _ (hE.below (by (repeat (first | exact Below.refl _ _ | assumption | refine Below.drew ?_ | refine below_drewN ?_ _ | refine belowA ?_ _ | refine belowT ?_ (by assumption) | refine Below.setCell ?_ (by first | (simp; done) | (simp; omega)) _)))) (h.below (by (repeat (first | exact Below.refl _ _ | assumption | refine Below.drew ?_ | refine below_drewN ?_ _ | refine belowA ?_ _ | refine belowT ?_ (by assumption) | refine Below.setCell ?_ (by first | (simp; done) | (simp; omega)) _))))).mono ?_
  rintro e w1 ⟨rfl, hb1⟩
  have bw : Below w.heap.size w w1 := by (repeat (first | exact Below.refl _ _ | assumption | refine Below.drew ?_ | refine below_drewN ?_ _ | refine belowA ?_ _ | refine belowT ?_ (by assumption) | refine Below.setCell ?_ (by first | (simp; done) | (simp; omega)) _))
  have k0 := keepc hb1 (p := ⟨w.heap.size, 0, none⟩) (u := .slice a n c) (by (first | (go_simp; done) | (simp [*, World.cell?_alloc_at, World.cell?_alloc_past, World.cell?_alloc_some, World.cell?_setCell_far]; done)))
  have k1 := keepc hb1 (p := ⟨w.heap.size, 1, none⟩) (u := .slice b m d) (by (first | (go_simp; done) | (simp [*, World.cell?_alloc_at, World.cell?_alloc_past, World.cell?_alloc_some, World.cell?_setCell_far]; done)))
  replace xR := xR.below hb1
  replace hs := hs.below bw (Nat.le_refl _)
  replace ht := ht.below bw (Nat.le_refl _)
  have hlt := xR.lt
  clear hb1 h HS
  generalize checkK ⟨s, t⟩ = ck at *
  by_cases hck : ck = 0
  · subst hck
    have hnm := HL.out rfl
    simp only [ne_eq, not_true_eq_false, if_false] at HR
    by_cases hq0 : q < 0
    · have hq0' : (q < 0 ∨ (m : Int) < q) := .inl hq0
      rw [if_pos hq0'] at HR
      have e0 := xR.cell 0 _ rfl
      have e1 := xR.cell 1 _ rfl
      have f0 := xR.ice 0
      have f1 := xR.ice 1
      go_wp2
      have zB := (xR.set 0 (.slice none 0 0)).set 1 (.slice none 0 0)
      have hbut := ((ButI.refl (w.heap.size + 1) (w1)).step 0 (.slice none 0 0)).step 1 (.slice none 0 0)
      generalize ((w1).setCell ⟨w.heap.size + 1, 0, none⟩ (.slice none 0 0)).setCell ⟨w.heap.size + 1, 1, none⟩ (.slice none 0 0) = w99 at *
      have y0 := zB.cell 0 _ rfl
      have y1 := zB.cell 1 _ rfl
      exact bodyPost_ret (v := .tuple #[KV.zero.v, .int .i64 3]) (by simp [results, Tryz.results6, go_sem, KV.v, KV.zero, y0, y1]) rfl ⟨KRes.zero HR.out rfl, bw.trans (hbut.below (by omega))⟩
    · by_cases hq1 : (m : Int) < q
      · rw [if_pos (.inr hq1)] at HR
        have e0 := xR.cell 0 _ rfl
        have e1 := xR.cell 1 _ rfl
        have f0 := xR.ice 0
        have f1 := xR.ice 1
        go_wp2
        have zB := (xR.set 0 (.slice none 0 0)).set 1 (.slice none 0 0)
        have hbut := ((ButI.refl (w.heap.size + 1) (w1)).step 0 (.slice none 0 0)).step 1 (.slice none 0 0)
        generalize ((w1).setCell ⟨w.heap.size + 1, 0, none⟩ (.slice none 0 0)).setCell ⟨w.heap.size + 1, 1, none⟩ (.slice none 0 0) = w99 at *
        have y0 := zB.cell 0 _ rfl
        have y1 := zB.cell 1 _ rfl
        exact bodyPost_ret (v := .tuple #[KV.zero.v, .int .i64 3]) (by simp [results, Tryz.results6, go_sem, KV.v, KV.zero, y0, y1]) rfl ⟨KRes.zero HR.out rfl, bw.trans (hbut.below (by omega))⟩
      · rw [if_neg (by omega)] at HR
        obtain ⟨j, rfl⟩ : ∃ j : Nat, q = j := ⟨q.toNat, by omega⟩
        rw [Int.toNat_natCast] at HR
        have hjm : j ≤ m := by omega
        have hmd := Cel.le ht
        have hdm := Cel.max ht
        have tt := ht.take hjm
        have hj0 : (0 : Int) ≤ (j : Int) := by omega
        have hj1 : (j : Int) ≤ (d : Int) := by omega
        have hj2 : j ≤ d := by omega
        have hj3 : ¬ ((j : Int) < 0) := by omega
        have hj4 : ¬ ((d : Int) < (j : Int)) := by omega
        have HJ1 := hide (fun w' h => jcopy_c a n c s w' h (by omega))
        have HJ2 := hide (fun w' h => jcopy_c b j d (t.take j) w' h (by omega))
        have e0 := xR.cell 0 _ rfl
        have e1 := xR.cell 1 _ rfl
        have f0 := xR.ice 0
        have f1 := xR.ice 1
        have mk1 : Hid (n = n) := hide rfl
        go_upto_region 6 with fail
        go_region_held3 (fun w' => w'.cell? ⟨w.heap.size, 0, none⟩ = some (.slice a n c) ∧ w'.cell? ⟨w.heap.size, 1, none⟩ = some (.slice b m d)) ((first | (go_simp; done) | (simp [*, World.cell?_alloc_at, World.cell?_alloc_past, World.cell?_alloc_some, World.cell?_setCell_far]; done))) (first
          | (go_at_call 20; clear mk1; refine (HJ1.out _ (by refine Byts.below hs (B := w1.heap.size) ?_ (Nat.le_refl _); (repeat (first | exact Below.refl _ _ | assumption | refine Below.drew ?_ | refine below_drewN ?_ _ | refine belowA ?_ _ | refine belowT ?_ (by assumption) | refine Below.setCell ?_ (by first | (simp; done) | (simp; omega)) _)))).mono ?_; rintro e w8 ⟨⟨g8, rfl, hg8, i8⟩, hb8⟩; (have p0 := keepc hb8 (p := ⟨w.heap.size, 0, none⟩) (u := .slice a n c) (by (first | (go_simp; done) | (simp [*, World.cell?_alloc_at, World.cell?_alloc_past, World.cell?_alloc_some, World.cell?_setCell_far]; done)))); (have p1 := keepc hb8 (p := ⟨w.heap.size, 1, none⟩) (u := .slice b m d) (by (first | (go_simp; done) | (simp [*, World.cell?_alloc_at, World.cell?_alloc_past, World.cell?_alloc_some, World.cell?_setCell_far]; done)))); (have b8 : Below w1.heap.size w1 w8 := by (repeat (first | exact Below.refl _ _ | assumption | refine Below.drew ?_ | refine below_drewN ?_ _ | refine belowA ?_ _ | refine belowT ?_ (by assumption) | refine Below.setCell ?_ (by first | (simp; done) | (simp; omega)) _))); (have xR8 := xR.below b8); (have u0 := xR8.cell 0 _ rfl); (have u1 := xR8.cell 1 _ rfl); (have v0 := xR8.ice 0); (have v1 := xR8.ice 1))
          | (go_at_call 20; refine (HJ2.out _ (by refine Byts.below tt (B := w1.heap.size) ?_ (Nat.le_refl _); (repeat (first | exact Below.refl _ _ | assumption | refine Below.drew ?_ | refine below_drewN ?_ _ | refine belowA ?_ _ | refine belowT ?_ (by assumption) | refine Below.setCell ?_ (by first | (simp; done) | (simp; omega)) _)))).mono ?_; rintro e w9 ⟨⟨g9, rfl, hg9, i9⟩, hb9⟩; (have r0 := keepc hb9 (p := ⟨w.heap.size, 0, none⟩) (u := .slice a n c) (by (first | (go_simp; done) | (simp [*, World.cell?_alloc_at, World.cell?_alloc_past, World.cell?_alloc_some, World.cell?_setCell_far]; done)))); (have r1 := keepc hb9 (p := ⟨w.heap.size, 1, none⟩) (u := .slice b m d) (by (first | (go_simp; done) | (simp [*, World.cell?_alloc_at, World.cell?_alloc_past, World.cell?_alloc_some, World.cell?_setCell_far]; done)))); (have b9 : Below w1.heap.size w1 w9 := by (repeat (first | exact Below.refl _ _ | assumption | refine Below.drew ?_ | refine below_drewN ?_ _ | refine belowA ?_ _ | refine belowT ?_ (by assumption) | refine Below.setCell ?_ (by first | (simp; done) | (simp; omega)) _))); (have xR9 := xR.below b9); (have o0 := xR9.cell 0 _ rfl); (have o1 := xR9.cell 1 _ rfl); (have v2 := xR9.ice 0); (have v3 := xR9.ice 1)))
        all_goals
          go_wp2
          have j8 : Byts w9 (some ⟨g8, 0, none⟩) n n s := i8.below (B := w8.heap.size) (by (repeat (first | exact Below.refl _ _ | assumption | refine Below.drew ?_ | refine below_drewN ?_ _ | refine belowA ?_ _ | refine belowT ?_ (by assumption) | refine Below.setCell ?_ (by first | (simp; done) | (simp; omega)) _))) (Nat.le_refl _)
          simp at hg8 hg9
          have hs8 := b8.size
          have hb8' := hb8.size
          have zB := (xR9.set 0 (.slice (some ⟨g8, 0, none⟩) n n)).set 1 (.slice (some ⟨g9, 0, none⟩) j j)
          have hbut := ((ButI.refl (w.heap.size + 1) (w9)).step 0 (.slice (some ⟨g8, 0, none⟩) n n)).step 1 (.slice (some ⟨g9, 0, none⟩) j j)
          generalize ((w9).setCell ⟨w.heap.size + 1, 0, none⟩ (.slice (some ⟨g8, 0, none⟩) n n)).setCell ⟨w.heap.size + 1, 1, none⟩ (.slice (some ⟨g9, 0, none⟩) j j) = w99 at *
          have y0 := zB.cell 0 _ rfl
          have y1 := zB.cell 1 _ rfl
          refine bodyPost_ret (v := .tuple #[.agg #[.slice (some ⟨g8, 0, none⟩) n n, .slice (some ⟨g9, 0, none⟩) j j], .int .i64 0]) (by simp [results, Tryz.results6, go_sem, y0, y1]) rfl ⟨?_, (belowT bw b9).trans (hbut.below (by omega))⟩
          rw [HR.out]
          have hf : KV.fresh (w.heap.size + 2) ⟨⟨s, t.take j⟩, some ⟨g8, 0, none⟩, n, n, some ⟨g9, 0, none⟩, j, j⟩ := ⟨fun y e => (by cases e; simp; omega), fun y e => (by cases e; simp; omega)⟩
          exact ⟨_, rfl, rfl, KV.ok.but ⟨j8, i9⟩ hbut.but hf (by omega), hf.mono (by omega)⟩
  · have hcb : (ck != 0) = true := by simpa using hck
    rw [if_pos hck] at HR
    have e0 := xR.cell 0 _ rfl
    have e1 := xR.cell 1 _ rfl
    have f0 := xR.ice 0
    have f1 := xR.ice 1
    go_wp2
    have zB := (xR.set 0 (.slice none 0 0)).set 1 (.slice none 0 0)
    have hbut := ((ButI.refl (w.heap.size + 1) (w1)).step 0 (.slice none 0 0)).step 1 (.slice none 0 0)
    generalize ((w1).setCell ⟨w.heap.size + 1, 0, none⟩ (.slice none 0 0)).setCell ⟨w.heap.size + 1, 1, none⟩ (.slice none 0 0) = w99 at *
    have y0 := zB.cell 0 _ rfl
    have y1 := zB.cell 1 _ rfl
    exact bodyPost_ret (v := .tuple #[KV.zero.v, .int .i64 ck]) (by simp [results, Tryz.results6, go_sem, KV.v, KV.zero, y0, y1]) rfl ⟨KRes.zero HR.out rfl, bw.trans (hbut.below (by omega))⟩

end Go.Proofs.YtcbgkjmcdjpgcaaGreatDoor

/- The contracts of disk.Sync and disk.Put; no condition but that the arguments are read, and that the package-level variables are as their texts lay them. -/
namespace Go.Proofs.YtcbgkjmcdjpgcaaGreatDoor
open Go.RowKit
set_option linter.unusedVariables false
set_option maxRecDepth 100000
set_option linter.unusedSimpArgs false

theorem checkK_len {s t : List UInt8} {n m : Nat} (hl1 : s.length = n) (hl2 : t.length = m) (h : checkK ⟨s, t⟩ = 0) : n + m ≤ 60000 := by
  unfold checkK at h
  split at h
  · cases h
  · simp only at *; omega

set_option maxRecDepth 100000 in
set_option maxHeartbeats 4000000 in
theorem Sync_c (x : KV) (w : World) (hE : Env w) (h : x.ok w) (hn : x.n ≤ 140737488355328) (hm : x.m ≤ 140737488355328) :
    Calls Tryz.prog 5 #[x.v] w fun e w' => KRes w.heap.size w' (syncK x.p) e ∧ Below w.heap.size w w' := by
  have HS := hide (fun w' hE h => KCheck_c x w' hE h hn hm)
  have hl1 := h.s.len
  have hl2 := h.w.len
  obtain ⟨⟨s, t⟩, a, n, c, b, m, d⟩ := x
  have hs : Byts w a n c s := h.s
  have ht : Byts w b m d t := h.w
  dsimp only [KV.v] at *
  have HR : Hid (syncK ⟨s, t⟩ = if checkK ⟨s, t⟩ ≠ 0 then (zeroK, checkK ⟨s, t⟩) else if checkK ⟨s ++ t, []⟩ ≠ 0 then (zeroK, checkK ⟨s ++ t, []⟩) else (⟨s ++ t, []⟩, 0)) := hide rfl
  have HL : Hid (checkK ⟨s, t⟩ = 0 → n + m ≤ 60000) := hide (checkK_len hl1 hl2)
  have xR := Lay.made1 w (.cells #[.slice a n c, .slice b m d] 24) [.slice none 0 0, .slice none 0 0] 24
  go_enter Tryz.func5, Tryz.ntmps5
  go_wp2_with fail
  refine (HS.out _ (hE.below (by (repeat (first | exact Below.refl _ _ | assumption | refine Below.drew ?_ | refine below_drewN ?_ _ | refine belowA ?_ _ | refine belowT ?_ (by assumption) | refine Below.setCell ?_ (by first | (simp; done) | (simp; omega)) _)))) (h.below (by (repeat (first | exact Below.refl _ _ | assumption | refine Below.drew ?_ | refine below_drewN ?_ _ | refine belowA ?_ _ | refine belowT ?_ (by assumption) | refine Below.setCell ?_ (by first | (simp; done) | (simp; omega)) _))))).mono ?_
  rintro e w1 ⟨rfl, hb1⟩
  have bw : Below w.heap.size w w1 := by (repeat (first | exact Below.refl _ _ | assumption | refine Below.drew ?_ | refine below_drewN ?_ _ | refine belowA ?_ _ | refine belowT ?_ (by assumption) | refine Below.setCell ?_ (by first | (simp; done) | (simp; omega)) _))
  have k0 := keepc hb1 (p := ⟨w.heap.size, 0, none⟩) (u := .slice a n c) (by (first | (go_simp; done) | (simp [*, World.cell?_alloc_at, World.cell?_alloc_past, World.cell?_alloc_some, World.cell?_setCell_far]; done)))
  have k1 := keepc hb1 (p := ⟨w.heap.size, 1, none⟩) (u := .slice b m d) (by (first | (go_simp; done) | (simp [*, World.cell?_alloc_at, World.cell?_alloc_past, World.cell?_alloc_some, World.cell?_setCell_far]; done)))
  replace xR := xR.below hb1
  replace hs := hs.below bw (Nat.le_refl _)
  replace ht := ht.below bw (Nat.le_refl _)
  have hlt := xR.lt
  clear hb1 h HS
  generalize checkK ⟨s, t⟩ = ck at *
  by_cases hck : ck = 0
  · subst hck
    have hnm := HL.out rfl
    simp only [ne_eq, not_true_eq_false, if_false] at HR
    go_wp2_with fail
    refine (jboth_c a n c s b m d t _ hs ht (by omega)).mono ?_
    rintro e w2 ⟨⟨g2, rfl, hg2, i2⟩, hb2⟩
    replace xR := xR.below hb2
    replace bw := belowT bw hb2
    clear hb2 k0 k1
    have HK := hide (fun w' hE h => KCheck_c ⟨⟨s ++ t, []⟩, some ⟨g2, 0, none⟩, n + m, n + m, none, 0, 0⟩ w' hE h (by simp; omega) (by simp))
    dsimp only [KV.v] at HK
    go_upto_region 5 with fail
    have xV := Lay.made w2 [.slice (some ⟨g2, 0, none⟩) (n + m) (n + m), .slice none 0 0] 24
    have hb3 : Below w2.heap.size w2 (w2.alloc (.cells [.slice (some ⟨g2, 0, none⟩) (n + m) (n + m), .slice none 0 0].toArray 24)) := by (repeat (first | exact Below.refl _ _ | assumption | refine Below.drew ?_ | refine below_drewN ?_ _ | refine belowA ?_ _ | refine belowT ?_ (by assumption) | refine Below.setCell ?_ (by first | (simp; done) | (simp; omega)) _))
    replace xR := xR.below hb3
    replace bw := belowT bw hb3
    replace i2 := i2.below hb3 (Nat.le_refl _)
    clear hb3
    generalize w2.alloc (.cells [.slice (some ⟨g2, 0, none⟩) (n + m) (n + m), .slice none 0 0].toArray 24) = w3 at *
    have e0 := xV.cell 0 _ rfl
    have e1 := xV.cell 1 _ rfl
    have f0 := xV.ice 0
    have f1 := xV.ice 1
    go_wp2_with fail
    refine (HK.out _ (hE.below bw) ⟨i2, Byts.nilSlice _⟩).mono ?_
    rintro e w4 ⟨rfl, hb4⟩
    replace xR := xR.below hb4
    replace xV := xV.below hb4
    replace bw := belowT bw hb4
    replace i2 := i2.below hb4 (Nat.le_refl _)
    clear hb4 e0 e1 f0 f1 HK
    generalize checkK ⟨s ++ t, []⟩ = cj at *
    by_cases hcj : cj = 0
    · subst hcj
      simp only [not_true_eq_false, if_false] at HR
      have e0 := xR.cell 0 _ rfl
      have e1 := xR.cell 1 _ rfl
      have f0 := xR.ice 0
      have f1 := xR.ice 1
      have g0 := xV.cell 0 _ rfl
      have g1 := xV.cell 1 _ rfl
      have i0 := xV.ice 0
      have i1 := xV.ice 1
      go_wp2
      have zB := (xR.set 0 (.slice (some ⟨g2, 0, none⟩) (n + m) (n + m))).set 1 (.slice none 0 0)
      have hbut := ((ButI.refl (w.heap.size + 1) (w4)).step 0 (.slice (some ⟨g2, 0, none⟩) (n + m) (n + m))).step 1 (.slice none 0 0)
      generalize ((w4).setCell ⟨w.heap.size + 1, 0, none⟩ (.slice (some ⟨g2, 0, none⟩) (n + m) (n + m))).setCell ⟨w.heap.size + 1, 1, none⟩ (.slice none 0 0) = w99 at *
      have y0 := zB.cell 0 _ rfl
      have y1 := zB.cell 1 _ rfl
      refine bodyPost_ret (v := .tuple #[.agg #[.slice (some ⟨g2, 0, none⟩) (n + m) (n + m), .slice none 0 0], .int .i64 0]) (by simp [results, Tryz.results5, go_sem, y0, y1]) rfl ⟨?_, bw.trans (hbut.below (by omega))⟩
      rw [HR.out]
      have hf : KV.fresh (w.heap.size + 2) ⟨⟨s ++ t, []⟩, some ⟨g2, 0, none⟩, n + m, n + m, none, 0, 0⟩ := ⟨fun y e => (by cases e; simp; omega), fun y e => (by cases e)⟩
      exact ⟨_, rfl, rfl, KV.ok.but ⟨i2, Byts.nilSlice _⟩ hbut.but hf (by omega), hf.mono (by omega)⟩
    · have hcb : (cj != 0) = true := by simpa using hcj
      rw [if_pos hcj] at HR
      have e0 := xR.cell 0 _ rfl
      have e1 := xR.cell 1 _ rfl
      have f0 := xR.ice 0
      have f1 := xR.ice 1
      go_wp2
      have zB := (xR.set 0 (.slice none 0 0)).set 1 (.slice none 0 0)
      have hbut := ((ButI.refl (w.heap.size + 1) (w4)).step 0 (.slice none 0 0)).step 1 (.slice none 0 0)
      generalize ((w4).setCell ⟨w.heap.size + 1, 0, none⟩ (.slice none 0 0)).setCell ⟨w.heap.size + 1, 1, none⟩ (.slice none 0 0) = w99 at *
      have y0 := zB.cell 0 _ rfl
      have y1 := zB.cell 1 _ rfl
      exact bodyPost_ret (v := .tuple #[KV.zero.v, .int .i64 cj]) (by simp [results, Tryz.results5, go_sem, KV.v, KV.zero, y0, y1]) rfl ⟨KRes.zero HR.out rfl, bw.trans (hbut.below (by omega))⟩
  · have hcb : (ck != 0) = true := by simpa using hck
    rw [if_pos hck] at HR
    have e0 := xR.cell 0 _ rfl
    have e1 := xR.cell 1 _ rfl
    have f0 := xR.ice 0
    have f1 := xR.ice 1
    go_wp2
    have zB := (xR.set 0 (.slice none 0 0)).set 1 (.slice none 0 0)
    have hbut := ((ButI.refl (w.heap.size + 1) (w1)).step 0 (.slice none 0 0)).step 1 (.slice none 0 0)
    generalize ((w1).setCell ⟨w.heap.size + 1, 0, none⟩ (.slice none 0 0)).setCell ⟨w.heap.size + 1, 1, none⟩ (.slice none 0 0) = w99 at *
    have y0 := zB.cell 0 _ rfl
    have y1 := zB.cell 1 _ rfl
    exact bodyPost_ret (v := .tuple #[KV.zero.v, .int .i64 ck]) (by simp [results, Tryz.results5, go_sem, KV.v, KV.zero, y0, y1]) rfl ⟨KRes.zero HR.out rfl, bw.trans (hbut.below (by omega))⟩

end Go.Proofs.YtcbgkjmcdjpgcaaGreatDoor
