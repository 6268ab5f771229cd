/- The contract of slices.Concat on two lists of records; under a condition on their lengths alone. -/
import Derived.Test.YtcbgkjmcdjpgcaaDoorDiskKeepsG16
import Derived.Test.YtcbgkjmcdjpgcaaDoorDiskKeepsG12
import Derived.Test.YtcbgkjmcdjpgcaaDoorDiskKeepsG1
namespace Go.Proofs.YtcbgkjmcdjpgcaaDoor
open Go.RowKit
set_option linter.unusedVariables false
set_option maxRecDepth 100000
set_option linter.unusedSimpArgs false

set_option maxHeartbeats 1000000 in
theorem RGrow_c (n : Nat) (w : World) (hn : 0 < n) (hn2 : n ≤ 1000000) :
    Calls Tryd.prog 22 #[.slice none 0 0, .int .i64 n] w fun e w' => (∃ q cap, e = .returned (.slice (some ⟨q, 0, none⟩) 0 cap) ∧ n ≤ cap ∧ w.heap.size ≤ q ∧ w'.ownsRow w.heap.size 31 7 (.slice (some ⟨q, 0, none⟩) 0 cap) 0 []) ∧ Below w.heap.size w w' := by
  obtain ⟨i, hi, hz, hs, hb⟩ := recInfo
  have hn' : (0 : Int) < (n : Int) := by omega
  go_enter Tryd.func22, Tryd.ntmps22
  go_wp2_with (at_builtin; go_loud (refine Lib.wpList_append_run _ rfl _ _ _ _ rfl _ _ rfl rfl _ _ (Lib.run_append_nil_zeros _ 22 3 _ 31 i (.agg #[.int .i64 0, .int .i64 0, .int .i64 0, .int .i64 0, .int .i64 0, .int .i64 0, .slice none 0 0]) .i64 .i64 Tryd.underlying22 Tryd.underlying3 hi hz n hn (by omega) (by omega) (by rw [hb]; omega)) ?_))
  go_ret
  have hge := grownCap_ge w n 0 31
  have hle := grownCap_le_maxLen w n 0 31 (by simp [maxLen]; omega)
  generalize grownCap w n 0 31 = cap at *
  refine ⟨⟨_, cap, rfl, hge, Nat.le_refl _, ⟨rfl, .inr ⟨w.heap.size, cap, _, rfl, Nat.le_refl _, heap_new w _, Nat.zero_le _, hle, ?_, by simp⟩⟩⟩, by (repeat (first | exact Below.refl _ _ | assumption | refine Below.drew ?_ | refine below_drewN ?_ _ | refine belowA ?_ _ | refine belowT ?_ (by assumption) | refine Below.setCell ?_ (by first | (simp; done) | (simp; omega)) _))⟩
  have hzc : (Value.cells (.agg #[.int .i64 0, .int .i64 0, .int .i64 0, .int .i64 0, .int .i64 0, .int .i64 0, .slice none 0 0])).size = 7 := rfl
  simp [size_zeroCells, hzc]
  omega

set_option maxHeartbeats 1000000 in
theorem RGrow_z (w : World) : Calls Tryd.prog 22 #[.slice none 0 0, .int .i64 0] w fun e w' => e = .returned (.slice none 0 0) ∧ w' = w := by
  go_enter Tryd.func22, Tryd.ntmps22
  go_wp2
  go_ret
  exact ⟨rfl, rfl⟩

set_option maxHeartbeats 2000000 in
theorem RConcat_z (g : Nat) (a : Option Addr) (c : Nat) (b : Option Addr) (d : Nat) (w : World)
    (hg0 : w.cell? ⟨g, 0, none⟩ = some (.slice a 0 c)) (hg1 : w.cell? ⟨g, 1, none⟩ = some (.slice b 0 d)) :
    Calls Tryd.prog 12 #[.slice (some ⟨g, 0, none⟩) 2 2] w fun e w' => e = .returned (.slice none 0 0) ∧ w' = w := by
  obtain ⟨i, hi, hz, hs, hb⟩ := recInfo
  go_enter Tryd.func12, Tryd.ntmps12
  go_wp2
  refine wp_loop_rounds 3 ?_
  rw [rounds_succ]
  go_wp2
  rw [rounds_succ]
  go_wp2
  rw [rounds_succ]
  go_wp2_with fail
  refine (RGrow_z _).mono ?_
  rintro e w1 ⟨rfl, rfl⟩
  go_wp2_with fail
  refine wp_loop_rounds 3 ?_
  rw [rounds_succ]
  go_wp2_with (at_builtin; go_loud (refine Lib.wpList_append_run _ rfl _ _ _ _ rfl _ _ rfl rfl _ _ (append_zero _ 22 _ 31 i Tryd.underlying22 hi a c) ?_))
  rw [rounds_succ]
  go_wp2_with (at_builtin; go_loud (refine Lib.wpList_append_run _ rfl _ _ _ _ rfl _ _ rfl rfl _ _ (append_zero _ 22 _ 31 i Tryd.underlying22 hi b d) ?_))
  rw [rounds_succ]
  go_wp2
  go_ret
  exact ⟨rfl, rfl⟩

set_option maxHeartbeats 2000000 in
theorem RConcat_p (g : Nat) (a : Option Addr) (n c : Nat) (l : List Value) (b : Option Addr) (m d : Nat) (k : List Value) (w : World) (h1 : Rowed w 7 a n c l) (h2 : Rowed w 7 b m d k) (h0 : 0 < n + m) (hnm : n + m ≤ 1000000)
    (hg0 : w.cell? ⟨g, 0, none⟩ = some (.slice a n c)) (hg1 : w.cell? ⟨g, 1, none⟩ = some (.slice b m d)) :
    Calls Tryd.prog 12 #[.slice (some ⟨g, 0, none⟩) 2 2] w fun e w' => (∃ v, e = .returned v ∧ w'.ownsRow w.heap.size 31 7 v (n + m) (l ++ k)) ∧ Below w.heap.size w w' := by
  obtain ⟨i, hi, hz, hs, hb⟩ := recInfo
  go_enter Tryd.func12, Tryd.ntmps12
  go_wp2
  refine wp_loop_rounds 3 ?_
  rw [rounds_succ]
  go_wp2
  rw [rounds_succ]
  go_wp2
  rw [rounds_succ]
  go_wp2_with fail
  rw [show (n : Int) + (m : Int) = ((n + m : Nat) : Int) by omega]
  refine (RGrow_c (n + m) _ h0 hnm).mono ?_
  rintro e w1 ⟨⟨q, cap, rfl, hcap, hq, ho⟩, hb1⟩
  have hq' : ∀ k, some q = some k → w.heap.size ≤ k := by intro k e; cases e; exact hq
  have hc0 := keepc hb1 hg0
  have i1 := h1.below hb1
  go_wp2_with fail
  refine wp_loop_rounds 3 ?_
  rw [rounds_succ]
  go_wp2_with (at_builtin; refine wpList_append_fits_any _ rfl _ _ 22 rfl w.heap.size 31 i 7 Tryd.underlying22 hi hs q 0 cap [] rfl ho a n c l rfl ?ha1 ?ha2 ?ha3 h1.one ?ha4 ?ha5)
  case ha1 => exact h1.len
  case ha2 => exact h1.nils
  case ha3 => exact i1.src
  case ha4 => omega
  case ha5 =>
    intro w2 ho2 hg2
    have b2 : Below w.heap.size w w2 := hb1.grown hg2 hb1.size hq'
    have hd1 := keepc b2 hg1
    have i2 := h2.below b2
    go_wp2
    rw [rounds_succ]
    go_wp2_with (at_builtin; refine wpList_append_fits_any _ rfl _ _ 22 rfl w.heap.size 31 i 7 Tryd.underlying22 hi hs q n cap l rfl ho2 b m d k rfl ?hb1 ?hb2 ?hb3 h2.one ?hb4 ?hb5)
    case hb1 => exact h2.len
    case hb2 => exact h2.nils
    case hb3 => exact i2.src
    case hb4 => omega
    case hb5 =>
      intro w3 ho3 hg3
      have b3 : Below w.heap.size w w3 := b2.grown hg3 b2.size hq'
      go_wp2
      rw [rounds_succ]
      go_wp2
      go_ret
      exact ⟨⟨_, rfl, ho3⟩, b3⟩

theorem RConcat_c (g : Nat) (a : Option Addr) (n c : Nat) (l : List Value) (b : Option Addr) (m d : Nat) (k : List Value) (w : World) (h1 : Rowed w 7 a n c l) (h2 : Rowed w 7 b m d k) (hnm : n + m ≤ 1000000)
    (hg0 : w.cell? ⟨g, 0, none⟩ = some (.slice a n c)) (hg1 : w.cell? ⟨g, 1, none⟩ = some (.slice b m d)) :
    Calls Tryd.prog 12 #[.slice (some ⟨g, 0, none⟩) 2 2] w fun e w' => (∃ v, e = .returned v ∧ w'.ownsRow w.heap.size 31 7 v (n + m) (l ++ k)) ∧ Below w.heap.size w w' := by
  by_cases h0 : 0 < n + m
  · exact RConcat_p g a n c l b m d k w h1 h2 h0 hnm hg0 hg1
  · obtain ⟨rfl, rfl⟩ : n = 0 ∧ m = 0 := by omega
    obtain rfl : l = [] := List.eq_nil_of_length_eq_zero (by simpa using h1.len)
    obtain rfl : k = [] := List.eq_nil_of_length_eq_zero (by simpa using h2.len)
    refine (RConcat_z g a c b d w hg0 hg1).mono ?_
    rintro e w' ⟨rfl, rfl⟩
    exact ⟨⟨_, rfl, World.ownsRow_nil _ _ _ _⟩, Below.refl _ _⟩


end Go.Proofs.YtcbgkjmcdjpgcaaDoor

/- The law DiskKeeps returns true, wherever its arguments read and the package-level variables are as their texts lay them. -/
namespace Go.Proofs.YtcbgkjmcdjpgcaaDoor
open Go.RowKit
set_option linter.unusedVariables false
set_option maxRecDepth 100000
set_option linter.unusedSimpArgs false

/-- The list and the records' data don't lie in block g. -/
structure OffR (g : Nat) (a : Option Addr) (X : List RV) : Prop where
  a : ∀ y, a = some y → y.block ≠ g
  d : ∀ x ∈ X, x.off g
theorem Recs.butO {w w' : World} {g : Nat} {a : Option Addr} {n c : Nat} {X : List RV} (h : Recs w a n c X) (hb : But g w w') (hn : OffR g a X) : Recs w' a n c X := by
  refine ⟨h.len, h.le, h.max, h.nil, ?_, fun x hx => (h.ok x hx).but hb (hn.d x hx)⟩
  rcases h.row with h0 | ⟨b, off, ha, hlt, hc⟩
  · exact .inl h0
  · refine .inr ⟨b, off, ha, Nat.lt_of_lt_of_le hlt hb.size, fun i x hx j v hv => ?_⟩
    have := hn.a _ ha
    rw [hb.cell ⟨b, off + i * 7 + j, none⟩ hlt this]
    exact hc i x hx j v hv
theorem crashK_text {a b : List PR} {q : Nat} (h : ∀ r ∈ a, checkR r = 0) (hb : ∀ r ∈ b, checkR r = 0) (ha : a.length + b.length ≤ 80) (hq : q ≤ (textL b).length) : crashK ⟨textL a, textL b⟩ (q : Int) = (⟨textL a, (textL b).take q⟩, 0) := by
  have l1 := textL_len a h
  have l2 := textL_len b hb
  unfold crashK
  rw [checkK_text h (by omega) (by omega), if_neg (by simp)]
  simp only
  rw [if_neg (by omega), Int.toNat_natCast]

set_option maxRecDepth 100000 in
set_option maxHeartbeats 800000 in
theorem DiskKeeps_c (la : Option Addr) (ln lc : Nat) (L : List RV) (ma : Option Addr) (mn mc : Nat) (M : List RV) (n : Int) (w : World) (hE : Env w) (hL : Recs w la ln lc L) (hM : Recs w ma mn mc M) (hn : -9223372036854775808 ≤ n ∧ n ≤ 9223372036854775807) :
    Calls Tryd.prog 3 #[.slice la ln lc, .slice ma mn mc, .int .i64 n] w fun e w' => e = .returned (.bool true) ∧ Below w.heap.size w w' := by
  go_enter Tryd.func3, Tryd.ntmps3
  go_wp2_with fail
  refine (filed_c _ hE).mono ?_
  rintro e w1 ⟨rfl, bw⟩
  have hDw : w.heap.size ≤ w1.heap.size := bw.size
  go_upto_region 5 with fail
  have xD := Lay.made w1 [.slice none 0 0, .slice none 0 0] 26
  have hb2 : Below w1.heap.size w1 (w1.alloc (.cells [.slice none 0 0, .slice none 0 0].toArray 26)) := belowA (Below.refl _ _) _
  replace bw := belowT bw hb2
  clear hb2
  generalize w1.alloc (.cells [.slice none 0 0, .slice none 0 0].toArray 26) = w2 at *
  generalize w1.heap.size = D at *
  have hDw2 := xD.lt
  go_wp2_with fail
  refine (put_c la ln lc L D KV.zero [] [] w _ hE hL bw hDw xD (KV.zero_ok _) rfl (by simp) (by simp) (by decide)).mono ?_
  rintro e w3 ⟨⟨v, Y1, ⟨p1, a1, n1, c1, b1, m1, d1⟩, rfl, oY1, y10, xD1, ok1, ep1, good1, len1⟩, hbut1⟩
  obtain rfl : p1 = ⟨textL [], textL (Y1.map RV.p)⟩ := ep1
  rw [List.nil_append] at good1
  replace bw := bw.trans (hbut1.below hDw)
  replace xD := xD1
  dsimp only at xD
  obtain ⟨av, cv, rfl, Ra, hav⟩ := oY1.recs
  have oA : OffR D av Y1 := ⟨fun y e => by have := hav y e; omega, fun x hx => RV.ok.off (y10 x hx) hDw⟩
  have hY1l : (Y1.map RV.p).length = Y1.length := List.length_map ..
  clear hbut1 xD1 oY1 hav
  obtain ⟨g1, g2⟩ := textL_small (A := []) (by simp) good1 (by rw [hY1l]; simp; omega)
  obtain ⟨g3, g4⟩ := ok1.small g1 g2
  have hS := fun w' hE h => Sync_c ⟨⟨textL [], textL (Y1.map RV.p)⟩, a1, n1, c1, b1, m1, d1⟩ w' hE h g3 g4
  rw [show syncK (KV.p ⟨⟨textL [], textL (Y1.map RV.p)⟩, a1, n1, c1, b1, m1, d1⟩) = (⟨textL (Y1.map RV.p), []⟩, 0) from syncK_text (a := []) (by simp) good1 (by rw [hY1l]; simp; omega)] at hS
  dsimp only [KV.v] at hS
  have HS := hide hS
  clear hS g1 g2 g3 g4
  have e0 := xD.cell 0 _ rfl
  have e1 := xD.cell 1 _ rfl
  have f0 := xD.ice 0
  have f1 := xD.ice 1
  go_wp2_with fail
  refine (HS.out _ (hE.below bw) ok1).mono ?_
  rintro e w4 ⟨⟨⟨p2, a2, n2, c2, b2, m2, d2⟩, rfl, ep2, ok2, fr2⟩, hb4⟩
  obtain rfl : p2 = ⟨textL (Y1.map RV.p), []⟩ := ep2
  clear HS e0 e1 f0 f1 ok1
  dsimp only [KV.v]
  replace Ra := Ra.below hb4 (Nat.le_refl _)
  have hD4 := xD.lt
  have bD4 := xD.below hb4
  have kf4 : KV.fresh (D + 1) ⟨⟨textL (Y1.map RV.p), []⟩, a2, n2, c2, b2, m2, d2⟩ := KV.fresh.mono fr2 (by omega)
  replace bw := belowT bw hb4
  have e0 := bD4.cell 0 _ rfl
  have e1 := bD4.cell 1 _ rfl
  have f0 := bD4.ice 0
  have f1 := bD4.ice 1
  go_upto_region 7 with fail
  have zD := (bD4.set 0 (.slice a2 n2 c2)).set 1 (.slice b2 m2 d2)
  have hbut := ((ButI.refl D (w4)).step 0 (.slice a2 n2 c2)).step 1 (.slice b2 m2 d2)
  generalize ((w4).setCell ⟨D, 0, none⟩ (.slice a2 n2 c2)).setCell ⟨D, 1, none⟩ (.slice b2 m2 d2) = w5 at *
  replace xD := zD
  have ok2' := KV.ok.but ok2 hbut.but kf4 (by omega)
  replace bw := bw.trans (hbut.below hDw)
  clear zD bD4 e0 e1 f0 f1 hb4
  replace Ra := Ra.butO hbut.but oA
  clear ok2 hbut
  go_wp2_with fail
  refine (put_c ma mn mc M D ⟨⟨textL (Y1.map RV.p), []⟩, a2, n2, c2, b2, m2, d2⟩ (Y1.map RV.p) [] w _ hE hM bw hDw xD ok2' rfl good1 (by simp) (by rw [hY1l]; simp; omega)).mono ?_
  rintro e w6 ⟨⟨v, Y2, ⟨p3, a3, n3, c3, b3, m3, d3⟩, rfl, oY2, y20, xD2, ok3, ep3, good2, len2⟩, hbut2⟩
  obtain rfl : p3 = ⟨textL (Y1.map RV.p), textL (Y2.map RV.p)⟩ := ep3
  rw [List.nil_append] at good2
  have hD5 := xD.lt
  replace bw := bw.trans (hbut2.below hDw)
  replace xD := xD2
  dsimp only at xD
  replace Ra := Ra.butO hbut2.but oA
  obtain ⟨bv, dv, rfl, Rb, hbv⟩ := oY2.recs
  have oB : OffR D bv Y2 := ⟨fun y e => by have := hbv y e; omega, fun x hx => RV.ok.off (y20 x hx) hDw⟩
  have hY2l : (Y2.map RV.p).length = Y2.length := List.length_map ..
  clear hbut2 xD2 oY2 hbv ok2'
  obtain ⟨g1, g2⟩ := textL_small good1 good2 (by omega)
  obtain ⟨g3, g4⟩ := ok3.small g1 g2
  have hm3 : (textL (Y2.map RV.p)).length = m3 := ok3.w.len
  have hm30 : m3 ≤ 60000 := by omega
  obtain ⟨q, hq⟩ : ∃ q : Nat, n % ((m3 : Int) + 1) = (q : Int) := ⟨(n % ((m3 : Int) + 1)).toNat, by have := Int.emod_nonneg n (b := (m3 : Int) + 1) (by omega); omega⟩
  have hqm : q ≤ m3 := by have := Int.emod_lt_of_pos n (b := (m3 : Int) + 1) (by omega); omega
  have hAt := fun w' => at_c n ((m3 : Int) + 1) w' (by omega) (by omega) hn
  rw [hq] at hAt
  have HAt := hide hAt
  have hC := fun w' hE h => Crash_c ⟨⟨textL (Y1.map RV.p), textL (Y2.map RV.p)⟩, a3, n3, c3, b3, m3, d3⟩ (q : Int) w' hE h g3 g4
  rw [show crashK (KV.p ⟨⟨textL (Y1.map RV.p), textL (Y2.map RV.p)⟩, a3, n3, c3, b3, m3, d3⟩) (q : Int) = (⟨textL (Y1.map RV.p), (textL (Y2.map RV.p)).take q⟩, 0) from crashK_text good1 good2 (by omega) (by omega)] at hC
  dsimp only [KV.v] at hC
  have HC := hide hC
  have HQ := hide hq
  have hwm : IntKind.i64.wrap ((m3 : Int) + 1) = (m3 : Int) + 1 := IntWalk.i64_in _ ⟨by omega, by omega⟩
  clear hC hAt hq g1 g2 g3 g4
  have e0 := xD.cell 0 _ rfl
  have e1 := xD.cell 1 _ rfl
  have f0 := xD.ice 0
  have f1 := xD.ice 1
  go_upto_region 10 with fail
  go_cut [10] (fun v wx => v = .int .i64 0 ∧ ∃ a4 n4 c4 b4 m4 d4, Lay wx D [.slice a4 n4 c4, .slice b4 m4 d4] ∧ KV.ok wx ⟨⟨textL (Y1.map RV.p), (textL (Y2.map RV.p)).take q⟩, a4, n4, c4, b4, m4, d4⟩ ∧ Recs wx av Y1.length cv Y1 ∧ Recs wx bv Y2.length dv Y2 ∧ Below w.heap.size w wx)
  case first =>
    go_region_with (first
      | (go_at_call 9; refine (HAt.out _).mono ?_; rintro e w7 ⟨rfl, rfl⟩)
      | (go_at_call 8; refine (HC.out _ (by refine hE.below ?_; (repeat (first | exact Below.refl _ _ | assumption | refine Below.drew ?_ | refine below_drewN ?_ _ | refine belowA ?_ _ | refine belowT ?_ (by assumption) | refine Below.setCell ?_ (by first | (simp; done) | (simp; omega)) _))) (by refine KV.ok.below ok3 ?_; clear bw; (repeat (first | exact Below.refl _ _ | assumption | refine Below.drew ?_ | refine below_drewN ?_ _ | refine belowA ?_ _ | refine belowT ?_ (by assumption) | refine Below.setCell ?_ (by first | (simp; done) | (simp; omega)) _)))).mono ?_; rintro e w8 ⟨⟨⟨p4, a4, n4, c4, b4, m4, d4⟩, rfl, ep4, ok4, fr4⟩, hb8⟩; dsimp only [KV.v]; (have b8 : Below w6.heap.size w6 w8 := by clear bw; (repeat (first | exact Below.refl _ _ | assumption | refine Below.drew ?_ | refine below_drewN ?_ _ | refine belowA ?_ _ | refine belowT ?_ (by assumption) | refine Below.setCell ?_ (by first | (simp; done) | (simp; omega)) _))); (have xD8 := xD.below b8); (have o0 := xD8.cell 0 _ rfl); (have o1 := xD8.cell 1 _ rfl); (have v2 := xD8.ice 0); (have v3 := xD8.ice 1)))
    all_goals
      go_wp2_with fail
      go_meet
    all_goals
      case rel =>
        obtain rfl : p4 = ⟨textL (Y1.map RV.p), (textL (Y2.map RV.p)).take q⟩ := ep4
        have zD := (xD8.set 0 (.slice a4 n4 c4)).set 1 (.slice b4 m4 d4)
        have hbut := ((ButI.refl D w8).step 0 (.slice a4 n4 c4)).step 1 (.slice b4 m4 d4)
        have hD6 := xD.lt
        exact ⟨rfl, a4, n4, c4, b4, m4, d4, zD, KV.ok.but ok4 hbut.but fr4 (by simp; omega), (Ra.below b8 (Nat.le_refl _)).butO hbut.but oA, (Rb.below b8 (Nat.le_refl _)).butO hbut.but oB, (belowT bw b8).trans (hbut.below hDw)⟩
  case rest =>
    obtain ⟨rfl, a4, n4, c4, b4, m4, d4, xD4, ok4, Ra4, Rb4, bw4⟩ := hcut
    clear e0 e1 f0 f1 xD Ra Rb bw ok3
    obtain ⟨g1, g2⟩ := textL_small good1 good2 (by omega)
    obtain ⟨g3, g4⟩ := ok4.small g1 (by show ((textL (Y2.map RV.p)).take q).length ≤ 60000; rw [List.length_take]; omega)
    obtain ⟨j, hj, hrec⟩ := recK_text q good1 good2 (by omega)
    have hZ : ∀ r ∈ Y1.map RV.p ++ (Y2.map RV.p).take j, checkR r = 0 := fun r hr => (List.mem_append.1 hr).elim (good1 r) (fun h => good2 r (List.mem_of_mem_take h))
    have hZl : (Y1.map RV.p ++ (Y2.map RV.p).take j).length = Y1.length + j := by rw [List.length_append, List.length_take, hY1l]; omega
    have hR := fun w' hE h => Recover_c ⟨⟨textL (Y1.map RV.p), (textL (Y2.map RV.p)).take q⟩, a4, n4, c4, b4, m4, d4⟩ w' hE h g3 g4
    rw [show recK (KV.p ⟨⟨textL (Y1.map RV.p), (textL (Y2.map RV.p)).take q⟩, a4, n4, c4, b4, m4, d4⟩) = _ from hrec] at hR
    have HTK : Hid ((Y1 ++ Y2).map RV.p = Y1.map RV.p ++ Y2.map RV.p) := hide List.map_append
    have HTJ : Hid ((Y1.map RV.p ++ Y2.map RV.p).take (Y1.length + j) = Y1.map RV.p ++ (Y2.map RV.p).take j) := hide (by rw [← hY1l, List.take_length_add_append])
    have HG := hide (recK_again hZ (by rw [hZl]; omega))
    have HTS : Hid (textL (Y1.map RV.p ++ (Y2.map RV.p).take j) = textL (Y1.map RV.p ++ (Y2.map RV.p).take j)) := hide rfl
    obtain ⟨z1, z2⟩ := textL_small (B := []) hZ (by simp) (by rw [hZl]; simp; omega)
    have HZ1 := hide z1
    generalize Y1.map RV.p ++ (Y2.map RV.p).take j = Z at *
    dsimp only [KV.v] at hR
    have HR := hide hR
    clear hR hrec g1 g2 g3 g4 hZ z1 z2 HAt HC HQ
    have e0 := xD4.cell 0 _ rfl
    have e1 := xD4.cell 1 _ rfl
    have f0 := xD4.ice 0
    have f1 := xD4.ice 1
    go_wp2_with fail
    refine (HR.out _ (hE.below bw4) ok4).mono ?_
    rintro e w5' ⟨⟨⟨p5, a5, n5, c5, b5, m5, d5⟩, la5, ln5, lc5, X5, rfl, ep5, ok5, fr5, R5, F5, eX5⟩, hb5⟩
    obtain rfl : p5 = ⟨textL Z, []⟩ := ep5
    clear HR e0 e1 f0 f1 ok4 xD4
    dsimp only [KV.v] at eX5 ⊢
    replace Ra4 := Ra4.below hb5 (Nat.le_refl _)
    replace Rb4 := Rb4.below hb5 (Nat.le_refl _)
    replace bw4 := belowT bw4 hb5
    clear hb5 fr5 F5
    have hln5 : ln5 = Y1.length + j := by have h1 := congrArg List.length eX5; rw [List.length_map, R5.len, hZl] at h1; exact h1
    have HL5 := hide hln5
    have hl1 : ¬ (ln5 : Int) < (Y1.length : Int) := by omega
    have hl2 : ¬ (Y1.length : Int) + (Y2.length : Int) < (ln5 : Int) := by omega
    have hl3 : ln5 ≤ Y1.length + Y2.length := by omega
    clear hln5
    go_upto_region 14 with fail
    have xR := Lay.made w5' [.slice a5 n5 c5, .slice b5 m5 d5] 26
    have hb6 : Below w5'.heap.size w5' (w5'.alloc (.cells [.slice a5 n5 c5, .slice b5 m5 d5].toArray 26)) := belowA (Below.refl _ _) _
    replace ok5 := ok5.below hb6
    replace R5 := R5.below hb6 (Nat.le_refl _)
    replace Ra4 := Ra4.below hb6 (Nat.le_refl _)
    replace Rb4 := Rb4.below hb6 (Nat.le_refl _)
    replace bw4 := belowT bw4 hb6
    clear hb6
    generalize w5'.alloc (.cells [.slice a5 n5 c5, .slice b5 m5 d5].toArray 26) = w6' at *
    generalize w5'.heap.size = G at *
    have hY1n : Y1.length ≤ 20 := len1
    have hY2n : Y2.length ≤ 20 := len2
    go_wp2_with fail
    have hbC : Below w6'.heap.size w6' (w6'.alloc (.cells #[.slice av Y1.length cv, .slice bv Y2.length dv] 22)) := belowA (Below.refl _ _) _
    refine (RConcat_c w6'.heap.size av Y1.length cv (rcells Y1) bv Y2.length dv (rcells Y2) _ (Ra4.rowed.below hbC) (Rb4.rowed.below hbC) (by omega) (by go_simp) (by go_simp)).mono ?_
    rintro e w7 ⟨⟨v7, rfl, own7⟩, hb7⟩
    rw [← rcells_app] at own7
    obtain ⟨oC, hCl⟩ := OwnR.of_own own7 hb7 (fun x hx => (List.mem_append.1 hx).elim (fun h => RV.ok.below (Ra4.ok x h) hbC (Nat.le_refl _)) (fun h => RV.ok.below (Rb4.ok x h) hbC (Nat.le_refl _)))
    obtain ⟨ca, cc, rfl, Rc, _⟩ := oC.recs
    have bC7 := belowT hbC hb7
    replace R5 := R5.below bC7 (Nat.le_refl _)
    replace ok5 := ok5.below bC7
    replace xR := xR.below bC7
    replace bw4 := belowT bw4 bC7
    have hcc := Rc.le
    have hcm := Rc.max
    have Rt := Rc.take (k := ln5) (by omega)
    have hst : X5.map RV.p = ((Y1 ++ Y2).take ln5).map RV.p := by rw [List.map_take, HTK.out, HL5.out, HTJ.out]; exact eX5
    have hEq := fun w' h1 h2 => EqR_c la5 ca ln5 ln5 lc5 cc X5 ((Y1 ++ Y2).take ln5) w' h1 h2
    rw [sameRs_t hst] at hEq
    have HEq := hide hEq
    clear hEq hst hbC hb7 own7 oC bC7 Ra4 Rb4 Rc
    have hk0 : (0 : Int) ≤ (ln5 : Int) := by omega
    have hk1 : (ln5 : Int) ≤ (cc : Int) := by omega
    have hk2 : ln5 ≤ cc := by omega
    have hk3 : ¬ ((ln5 : Int) < 0) := by omega
    have hk4 : ¬ ((cc : Int) < (ln5 : Int)) := by omega
    generalize (Y1 ++ Y2).length = cl at *
    go_wp2_with fail
    refine (HEq.out _ R5 Rt).mono ?_
    rintro e w8 ⟨rfl, hb8⟩
    replace R5 := R5.below hb8 (Nat.le_refl _)
    replace ok5 := ok5.below hb8
    replace xR := xR.below hb8
    replace bw4 := belowT bw4 hb8
    clear hb8 HEq Rt hcc hcm
    obtain ⟨g3, g4⟩ := ok5.small HZ1.out (by simp)
    have hR := fun w' hE h => Recover_c ⟨⟨textL Z, []⟩, a5, n5, c5, b5, m5, d5⟩ w' hE h g3 g4
    rw [show recK (KV.p ⟨⟨textL Z, []⟩, a5, n5, c5, b5, m5, d5⟩) = _ from HG.out] at hR
    dsimp only [KV.v] at hR
    have HR := hide hR
    have hm5 : m5 = 0 := ok5.w.len.symm
    subst hm5
    clear hR g3 g4
    have e0 := xR.cell 0 _ rfl
    have e1 := xR.cell 1 _ rfl
    have f0 := xR.ice 0
    have f1 := xR.ice 1
    go_wp2_with fail
    refine (HR.out _ (hE.below bw4) ok5).mono ?_
    rintro e w9 ⟨⟨⟨p9, a9, n9, c9, b9, m9, d9⟩, la9, ln9, lc9, X9, rfl, ep9, ok9, fr9, R9, F9, eX9⟩, hb9⟩
    obtain rfl : p9 = ⟨textL Z, []⟩ := ep9
    replace R5 := R5.below hb9 (Nat.le_refl _)
    replace ok5 := ok5.below hb9
    replace xR := xR.below hb9
    replace bw4 := belowT bw4 hb9
    clear hb9 HR e0 e1 f0 f1 fr9 F9
    dsimp only [KV.v] at eX9 ⊢
    go_upto_region 17 with fail
    have xQ := Lay.made w9 [.slice a9 n9 c9, .slice b9 m9 d9] 26
    have hbA : Below w9.heap.size w9 (w9.alloc (.cells [.slice a9 n9 c9, .slice b9 m9 d9].toArray 26)) := belowA (Below.refl _ _) _
    replace R5 := R5.below hbA (Nat.le_refl _)
    replace R9 := R9.below hbA (Nat.le_refl _)
    replace ok5 := ok5.below hbA
    replace ok9 := ok9.below hbA
    replace xR := xR.below hbA
    replace bw4 := belowT bw4 hbA
    clear hbA
    generalize w9.alloc (.cells [.slice a9 n9 c9, .slice b9 m9 d9].toArray 26) = wA at *
    have hSm := fun w' h1 h2 => KSame_c ⟨⟨textL Z, []⟩, a9, n9, c9, b9, m9, d9⟩ ⟨⟨textL Z, []⟩, a5, n5, c5, b5, 0, d5⟩ w' h1 h2
    rw [(sameK_iff _ _).2 rfl] at hSm
    dsimp only [KV.v] at hSm
    have HSm := hide hSm
    have hEq := fun w' h1 h2 => EqR_c la9 la5 ln9 ln5 lc9 lc5 X9 X5 w' h1 h2
    rw [sameRs_t (eX9.trans eX5.symm)] at hEq
    have HEq := hide hEq
    clear hSm hEq
    have e0 := xR.cell 0 _ rfl
    have e1 := xR.cell 1 _ rfl
    have f0 := xR.ice 0
    have f1 := xR.ice 1
    have g0 := xQ.cell 0 _ rfl
    have g1 := xQ.cell 1 _ rfl
    have i0 := xQ.ice 0
    have i1 := xQ.ice 1
    go_wp2_with fail
    refine (HSm.out _ ok9 ok5).mono ?_
    rintro e wB ⟨rfl, hbB⟩
    replace R5 := R5.below hbB (Nat.le_refl _)
    replace R9 := R9.below hbB (Nat.le_refl _)
    replace xR := xR.below hbB
    replace bw4 := belowT bw4 hbB
    clear hbB e0 e1 f0 f1 g0 g1 i0 i1
    go_wp2_with fail
    refine (HEq.out _ R9 R5).mono ?_
    rintro e wC ⟨rfl, hbC⟩
    replace xR := xR.below hbC
    replace bw4 := belowT bw4 hbC
    clear hbC
    have e0 := xR.cell 0 _ rfl
    have e1 := xR.cell 1 _ rfl
    have f0 := xR.ice 0
    have f1 := xR.ice 1
    go_wp2
    go_ret
    exact ⟨rfl, bw4⟩

end Go.Proofs.YtcbgkjmcdjpgcaaDoor
