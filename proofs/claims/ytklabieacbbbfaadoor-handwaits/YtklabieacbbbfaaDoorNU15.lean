/- The contract of the law's sameAnswer; no condition but that the arguments read as data. -/
import Derived.Test.YtklabieacbbbfaaDoorNU2
import Derived.Test.YtklabieacbbbfaaDoorNU1
import Derived.Test.YtklabieacbbbfaaDoorNU9
import Derived.Test.YtklabieacbbbfaaDoorNU13
import Derived.Test.YtklabieacbbbfaaDoorNU10
import Derived.Test.YtklabieacbbbfaaDoorNU4
namespace Go.Proofs.YtklabieacbbbfaaDoor
open Go.RowKit
set_option linter.unusedVariables false
set_option maxRecDepth 100000
set_option linter.unusedSimpArgs false

theorem lsameA_c (x y : AV) (w : World) (hx : x.ok w) (hy : y.ok w) : Calls Tryd.prog 17 #[x.v, y.v] w fun e w' => e = .returned (.bool (sameA x.p y.p)) ∧ Below w.heap.size w w' := by
  obtain ⟨e1, t1, a1, n1, c1, l1⟩ := x
  obtain ⟨e2, t2, a2, n2, c2, l2⟩ := y
  dsimp only [AV.v, AV.p]
  have h1 : Ints w a1 n1 c1 l1 := hx
  have h2 : Ints w a2 n2 c2 l2 := hy
  have HS : Hid (sameA ⟨e1, t1, l1⟩ ⟨e2, t2, l2⟩ = (e1 == e2 && (t1 == t2 && decide (l1 = l2)))) := hide (by rw [Bool.eq_iff_iff]; simp [sameA])
  cases he : e1 == e2
  · go_enter Tryd.func17, Tryd.ntmps17
    go_wp2
    go_ret
    exact ⟨ret_bool (by rw [HS.out, he]; rfl), by (repeat first | exact bel0 | assumption | refine bel1 ?_ | refine bel2 ?_ | refine bel3 ?_ | refine belowT ?_ (by assumption) | refine bel5 ?_ (by simp; try omega))⟩
  · cases ht : t1 == t2
    · go_enter Tryd.func17, Tryd.ntmps17
      go_wp2
      go_ret
      exact ⟨ret_bool (by rw [HS.out, he, ht]; rfl), by (repeat first | exact bel0 | assumption | refine bel1 ?_ | refine bel2 ?_ | refine bel3 ?_ | refine belowT ?_ (by assumption) | refine bel5 ?_ (by simp; try omega))⟩
    · go_enter Tryd.func17, Tryd.ntmps17
      go_wp2_with fail
      refine (Equal_c a1 a2 n1 n2 c1 c2 l1 l2 _ (h1.below (B := w.heap.size) (by (repeat first | exact bel0 | assumption | refine bel1 ?_ | refine bel2 ?_ | refine bel3 ?_ | refine belowT ?_ (by assumption) | refine bel5 ?_ (by simp; try omega))) (Nat.le_refl _)) (h2.below (B := w.heap.size) (by (repeat first | exact bel0 | assumption | refine bel1 ?_ | refine bel2 ?_ | refine bel3 ?_ | refine belowT ?_ (by assumption) | refine bel5 ?_ (by simp; try omega))) (Nat.le_refl _))).mono ?_
      rintro e w1 ⟨rfl, q, rfl⟩
      go_wp2
      go_ret
      exact ⟨ret_bool (by rw [HS.out, he, ht]; simp), by (repeat first | exact bel0 | assumption | refine bel1 ?_ | refine bel2 ?_ | refine bel3 ?_ | refine belowT ?_ (by assumption) | refine bel5 ?_ (by simp; try omega))⟩


end Go.Proofs.YtklabieacbbbfaaDoor

/- HandWaits answers true for every hand, number and answer, and leaves all that was there as it was; no condition but that the package's table is as its text lays it. -/
namespace Go.Proofs.YtklabieacbbbfaaDoor
open Go.RowKit
set_option linter.unusedVariables false
set_option maxRecDepth 100000
set_option linter.unusedSimpArgs false

/-- What Hear answers without an error. -/
theorem hear_two {h : PN} {q : Int} {a : PA} (k : (hearN h q a).2 = 0) : (h.w = true ∧ h.s = q ∧ h.g.length ≤ 40 ∧ hearN h q a = (⟨q, false, zeroC, h.g ++ [a]⟩, 0)) ∨ ((h.w = false ∨ h.s ≠ q) ∧ hearN h q a = (h, 0)) := by
  unfold hearN at k
  split at k
  · rename_i q; exact absurd k q
  · rename_i q1
    split at k
    · rename_i q; exact absurd k q
    · rename_i q2
      have q1' : checkN h = 0 := by simpa using q1
      have q2' : checkA a = 0 := by simpa using q2
      by_cases c : h.w = false ∨ h.s ≠ q
      · exact .inr ⟨c, hear_deaf q1' q2' c⟩
      · have c' := c
        simp only [not_or, Bool.not_eq_false, Decidable.not_not] at c'
        obtain ⟨c1, c2⟩ := c'
        obtain ⟨h1, h2, h3, _⟩ := checkN_ok q1'
        simp only [formN, c1, if_true, decide_eq_true_eq] at h3
        have e := (hear_ok q1' c1 q2').1
        rw [c2] at e
        exact .inl ⟨c1, c2, by omega, e⟩

set_option maxRecDepth 100000 in
set_option maxHeartbeats 16000000 in
theorem HandWaits_c (h : NV) (sq : Int) (y : AV) (w : World) (hS : Shapes w) (hk : h.ok w) (hy : y.ok w) : Calls Tryd.prog 5 #[h.v, .int .i64 sq, y.v] w fun e w' => e = .returned (.bool true) ∧ Below w.heap.size w w' := by
  have Y1 := hide (fun w' hS' h' y' => JHear_c h sq y w' hS' h' y')
  have HT := hide (fun (k : (hearN h.p sq y.p).2 = 0) => hear_two k)
  have HP : Hid (h.p = ⟨h.s, h.w, h.c, h.G.map AV.p⟩) := hide rfl
  generalize hearN h.p sq y.p = nh at *
  obtain ⟨l0, la, bw⟩ := two_boxes w h.cells y.cells 27 30
  have ok0 := hk.below bw (Nat.le_refl _)
  have oka := AV.ok.below hy bw (Nat.le_refl _)
  have hSw := hS.below bw
  clear hk hy hS
  have YS := hide (fun (g : NV) w' h1 h2 => JSame_c g h w' h1 h2)
  generalize hhp : h.p = hp at *
  have HHP := hide hhp
  clear hhp
  rw [show h.v = .agg h.cells.toArray from rfl, show y.v = .agg y.cells.toArray from rfl] at *
  obtain ⟨s0, v0, ⟨k0, z0, u0, t0, d0⟩, ca0, cn0, cc0, ga0, gn0, gc0, G0⟩ := h
  obtain ⟨ae, at', aa, an, ac, ad⟩ := y
  dsimp only [NV.cells, AV.cells, NV.v] at *
  go_enter Tryd.func5, Tryd.ntmps5
  go_upto_region 1 with fail
  generalize (w.alloc (.cells [.int .i64 s0, .bool v0, .int .i64 k0, .int .i64 z0, .int .i64 u0, .int .i64 t0, .slice ca0 cn0 cc0, .slice ga0 gn0 gc0].toArray 27)).alloc (.cells [.int .i64 ae, .int .i64 at', .slice aa an ac].toArray 30) = w1 at *
  obtain ⟨q0, q1, q2, q3, q4, q5, q6, q7⟩ := l0.eight
  have r0 := la.cell 0 _ rfl
  have r1 := la.cell 1 _ rfl
  have r2 := la.cell 2 _ rfl
  go_wp2_with fail
  refine (Y1.out _ hSw ok0 oka).mono ?_
  rintro e v2' ⟨⟨⟨s1, v1, ⟨k1, z1, u1, t1, d1⟩, ca1, cn1, cc1, ga1, gn1, gc1, G1⟩, rfl, ok1, _, p1⟩, hb⟩
  have P1 := hide p1
  clear p1 Y1 q0 q1 q2 q3 q4 q5 q6 q7 r0 r1 r2
  dsimp only [NV.v]
  go_upto_region 2 with fail
  have l1 := Lay.made v2' [.int .i64 s1, .bool v1, .int .i64 k1, .int .i64 z1, .int .i64 u1, .int .i64 t1, .slice ca1 cn1 cc1, .slice ga1 gn1 gc1] 27
  have bn' := belowA (Below.refl _ v2') (.cells [.int .i64 s1, .bool v1, .int .i64 k1, .int .i64 z1, .int .i64 u1, .int .i64 t1, .slice ca1 cn1 cc1, .slice ga1 gn1 gc1].toArray 27)
  replace ok1 := ok1.below bn' (Nat.le_refl _)
  have bv := belowT hb bn'
  replace l0 := l0.below bv
  replace la := la.below bv
  replace ok0 := ok0.below bv (Nat.le_refl _)
  replace oka := AV.ok.below oka bv (Nat.le_refl _)
  replace hSw := hSw.below bv
  replace bw := belowT bw bv
  clear bn' bv hb
  generalize v2'.heap.size = B1 at *
  generalize v2'.alloc (.cells [.int .i64 s1, .bool v1, .int .i64 k1, .int .i64 z1, .int .i64 u1, .int .i64 t1, .slice ca1 cn1 cc1, .slice ga1 gn1 gc1].toArray 27) = w2 at *
  go_wp2_with fail
  refine (answered_c _ hSw).mono ?_
  rintro e w3 ⟨rfl, hb3⟩
  replace l0 := l0.below hb3
  replace la := la.below hb3
  replace l1 := l1.below hb3
  replace ok0 := ok0.below hb3 (Nat.le_refl _)
  replace ok1 := ok1.below hb3 (Nat.le_refl _)
  replace oka := AV.ok.below oka hb3 (Nat.le_refl _)
  replace hSw := hSw.below hb3
  replace bw := belowT bw hb3
  clear hb3
  cases h0 : nh.2 != 0
  · have HN := HT.out (by simpa using h0)
    rcases HN with ⟨n1, n2, n3, n4⟩ | ⟨n1, n4⟩
    · have n1' : v0 = true := by rw [← HHP.out] at n1; exact n1
      have n2' : s0 = sq := by rw [← HHP.out] at n2; exact n2
      have hgl : G0.length = gn0 := ok0.g.len
      have n3' : gn0 ≤ 40 := by rw [← HHP.out] at n3; simp only [NV.p, List.length_map, hgl] at n3; exact n3
      have p1 := P1.out
      rw [n4, ← HHP.out] at p1
      obtain rfl : s1 = sq := congrArg PN.s p1
      obtain rfl : v1 = false := congrArg PN.w p1
      have hc1 : (⟨k1, z1, u1, t1, d1⟩ : PC) = zeroC := congrArg PN.c p1
      have hg1 : G1.map AV.p = G0.map AV.p ++ [AV.p ⟨ae, at', aa, an, ac, ad⟩] := congrArg PN.g p1
      have hg1l : G1.length = gn1 := ok1.g.len
      have hgn : gn1 = gn0 + 1 := by
        have := congrArg List.length hg1
        simp only [List.length_map, List.length_append, List.length_singleton] at this
        omega
      subst hgn
      obtain ⟨b, off, yy, rfl, hyy, hyk, hblt, ky⟩ := ok1.g.at (i := gn0) (Nat.lt_succ_self _)
      have hyp : yy.p = AV.p ⟨ae, at', aa, an, ac, ad⟩ := by
        have h1 : (G1.map AV.p)[gn0]? = some yy.p := by rw [List.getElem?_map, hyy]; rfl
        rw [hg1, List.getElem?_append_right (by rw [List.length_map, hgl]; omega), List.length_map, hgl] at h1
        simpa using h1.symm
      have YA := hide (fun w' h1 h2 => lsameA_c yy ⟨ae, at', aa, an, ac, ad⟩ w' h1 h2)
      rw [(sameA_iff _ _).2 hyp] at YA
      have YC := hide (fun w' (h1 : Ints w' ca1 cn1 cc1 d1) => cmdSame_c ca1 none cn1 0 cc1 0 ⟨k1, z1, u1, t1, d1⟩ zeroC w' h1 (Ints.nilSlice w'))
      rw [(sameC_iff _ _).2 hc1] at YC
      subst n1' n2'
      obtain ⟨ee, et, ea, en, ec, ed⟩ := yy
      dsimp only [AV.v, AV.cells, cmdV, zeroC] at YA YC ky
      have HW : Hid (gn0 ≤ 40) := hide n3'
      have hwr : IntKind.i64.wrap ((gn0 : Int) + 1) = (gn0 : Int) + 1 := IntWalk.i64_in _ ⟨by omega, by omega⟩
      have hrng : (gn0 : Int) < ((gn0 + 1 : Nat) : Int) := by omega
      have hrng2 : (gn0 : Int) < (gn0 : Int) + 1 := by omega
      have hrng3 : gn0 < gn0 + 1 := Nat.lt_succ_self _
      have hrng0 : (0 : Int) ≤ (gn0 : Int) := by omega
      have hcast : (((gn0 + 1 : Nat) : Int) == (gn0 : Int) + 1) = true := by simp
      clear P1 p1 n1 n2 n3 n4 hc1 hg1 hg1l hyy hyp hgl HT n3'
      have ci1 := ok1.c
      dsimp only at ci1
      have k0' := ky 0 _ rfl
      have k1' := ky 1 _ rfl
      have k2' := ky 2 _ rfl
      rw [Nat.add_zero] at k0'
      obtain ⟨c0, c1, c2, c3, c4, c5, c6, c7⟩ := l0.eight
      obtain ⟨e0, e1, e2, e3, e4, e5, e6, e7⟩ := l1.eight
      have r0 := la.cell 0 _ rfl
      have r1 := la.cell 1 _ rfl
      have r2 := la.cell 2 _ rfl
      clear ky
      go_upto_region 5 with fail
      go_region_held3 (fun w' => w'.cell? ⟨w.heap.size, 0, none⟩ = some (.int .i64 s0) ∧ w'.cell? ⟨w.heap.size, 1, none⟩ = some (.bool true) ∧ w'.cell? ⟨w.heap.size, 2, none⟩ = some (.int .i64 k0) ∧ w'.cell? ⟨w.heap.size, 3, none⟩ = some (.int .i64 z0) ∧ w'.cell? ⟨w.heap.size, 4, none⟩ = some (.int .i64 u0) ∧ w'.cell? ⟨w.heap.size, 5, none⟩ = some (.int .i64 t0) ∧ w'.cell? ⟨w.heap.size, 6, none⟩ = some (.slice ca0 cn0 cc0) ∧ w'.cell? ⟨w.heap.size, 7, none⟩ = some (.slice ga0 gn0 gc0) ∧ w'.cell? ⟨B1, 0, none⟩ = some (.int .i64 s0) ∧ w'.cell? ⟨B1, 1, none⟩ = some (.bool false) ∧ w'.cell? ⟨B1, 2, none⟩ = some (.int .i64 k1) ∧ w'.cell? ⟨B1, 3, none⟩ = some (.int .i64 z1) ∧ w'.cell? ⟨B1, 4, none⟩ = some (.int .i64 u1) ∧ w'.cell? ⟨B1, 5, none⟩ = some (.int .i64 t1) ∧ w'.cell? ⟨B1, 6, none⟩ = some (.slice ca1 cn1 cc1) ∧ w'.cell? ⟨B1, 7, none⟩ = some (.slice (some ⟨b, off, none⟩) (gn0 + 1) gc1) ∧ w'.cell? ⟨w.heap.size + 1, 0, none⟩ = some (.int .i64 ae) ∧ w'.cell? ⟨w.heap.size + 1, 1, none⟩ = some (.int .i64 at') ∧ w'.cell? ⟨w.heap.size + 1, 2, none⟩ = some (.slice aa an ac) ∧ w'.cell? ⟨b, off + gn0 * 3, none⟩ = some (.int .i64 ee) ∧ w'.cell? ⟨b, off + gn0 * 3 + 1, none⟩ = some (.int .i64 et) ∧ w'.cell? ⟨b, off + gn0 * 3 + 2, none⟩ = some (.slice ea en ec)) ((first | (go_simp; done) | (simp [*, World.cell?_alloc_at, World.cell?_alloc_past, World.cell?_alloc_some, World.cell?_setCell_far]; done)))
        (first | ((first
          | (go_at_call 17; refine (YA.out _ (by refine AV.ok.below hyk (B := w3.heap.size) ?_ (Nat.le_refl _); clear bw; (repeat first | exact bel0 | assumption | refine bel1 ?_ | refine bel2 ?_ | refine bel3 ?_ | refine belowT ?_ (by assumption) | refine bel5 ?_ (by simp; try omega))) (by refine AV.ok.below oka (B := w3.heap.size) ?_ (Nat.le_refl _); clear bw; (repeat first | exact bel0 | assumption | refine bel1 ?_ | refine bel2 ?_ | refine bel3 ?_ | refine belowT ?_ (by assumption) | refine bel5 ?_ (by simp; try omega)))).mono ?_)
          | (go_at_call 18; refine (YC.out _ (by refine Ints.below ci1 (B := w3.heap.size) ?_ (Nat.le_refl _); clear bw; (repeat first | exact bel0 | assumption | refine bel1 ?_ | refine bel2 ?_ | refine bel3 ?_ | refine belowT ?_ (by assumption) | refine bel5 ?_ (by simp; try omega)))).mono ?_)); rintro e w9 ⟨rfl, hb9⟩; (have b9 : Below w3.heap.size w3 w9 := by clear bw; (repeat first | exact bel0 | assumption | refine bel1 ?_ | refine bel2 ?_ | refine bel3 ?_ | refine belowT ?_ (by assumption) | refine bel5 ?_ (by simp; try omega))); (obtain ⟨g0, g1, g2, g3, g4, g5, g6, g7⟩ := (l0.below b9).eight); (obtain ⟨i0, i1, i2, i3, i4, i5, i6, i7⟩ := (l1.below b9).eight); (have o0 := (la.below b9).cell 0 _ rfl); (have o1 := (la.below b9).cell 1 _ rfl); (have o2 := (la.below b9).cell 2 _ rfl); (have j0 := keepc b9 k0'); (have j1 := keepc b9 k1'); (have j2 := keepc b9 k2')))
      all_goals
        go_wp2
        go_ret
        exact ⟨rfl, belowT bw b9⟩
    · have YS1 := hide (fun w' h1 h2 => YS.out ⟨s1, v1, ⟨k1, z1, u1, t1, d1⟩, ca1, cn1, cc1, ga1, gn1, gc1, G1⟩ w' h1 h2)
      have p1 := P1.out
      rw [n4] at p1
      rw [(sameN_iff _ _).2 p1] at YS1
      dsimp only [NV.v] at YS1
      obtain ⟨c0, c1, c2, c3, c4, c5, c6, c7⟩ := l0.eight
      obtain ⟨e0, e1, e2, e3, e4, e5, e6, e7⟩ := l1.eight
      have n1' : v0 = false ∨ s0 ≠ sq := by rw [← HHP.out] at n1; exact n1
      clear P1 p1 n1 n4 HT YS
      rcases n1' with rfl | n2
      · go_wp2_with fail
        refine (YS1.out _ ok1 ok0).mono ?_
        rintro e w9 ⟨rfl, hb9⟩
        go_wp2
        go_ret
        exact ⟨rfl, belowT bw hb9⟩
      · have n2' : (sq == s0) = false := by simpa using fun e : sq = s0 => n2 e.symm
        cases v0
        · go_wp2_with fail
          refine (YS1.out _ ok1 ok0).mono ?_
          rintro e w9 ⟨rfl, hb9⟩
          go_wp2
          go_ret
          exact ⟨rfl, belowT bw hb9⟩
        · go_wp2_with fail
          refine (YS1.out _ ok1 ok0).mono ?_
          rintro e w9 ⟨rfl, hb9⟩
          go_wp2
          go_ret
          exact ⟨rfl, belowT bw hb9⟩
  · go_wp2_with fail
    refine (answered_c _ hSw).mono ?_
    rintro e w5 ⟨rfl, hb5⟩
    go_wp2
    go_ret
    exact ⟨rfl, belowT bw hb5⟩

end Go.Proofs.YtklabieacbbbfaaDoor

/- The contract of slices.Clone at answers; no condition but that the slice reads so. -/
namespace Go.Proofs.YtklabieacbbbfaaDoor
open Go.RowKit
set_option linter.unusedVariables false
set_option maxRecDepth 100000
set_option linter.unusedSimpArgs false

theorem acells_src {w : World} {b off : Nat} {L : List AV} (hr : ∀ i y, L[i]? = some y → ∀ j v, y.cells[j]? = some v → w.cell? ⟨b, off + i * 3 + j, none⟩ = some v) :
    ∀ j u, (acells L)[j]? = some u → w.cell? ((⟨b, off, none⟩ : Addr).add j) = some u := by
  intro j u hu
  have hj : j < L.length * 3 := by rw [← acells_len]; exact (List.getElem?_eq_some_iff.1 hu).1
  obtain ⟨y, hy⟩ : ∃ y, L[j / 3]? = some y := ⟨L[j / 3]'(by omega), by simp⟩
  obtain ⟨v, hv⟩ : ∃ v, y.cells[j % 3]? = some v := ⟨_, List.getElem?_eq_getElem (by rw [y.cells_len]; omega)⟩
  have g := acells_get L (j / 3) y hy (j % 3) v hv
  rw [show j / 3 * 3 + j % 3 = j by omega] at g
  rw [g] at hu
  obtain rfl : v = u := by simpa using hu
  have := hr (j / 3) y hy (j % 3) _ hv
  rw [addr_add, show off + j = off + j / 3 * 3 + j % 3 by omega]
  exact this

/-- What is owned is in new memory, and shares nothing with what the answers hold. -/
theorem OwnA.of_row {w w' : World} {v : Value} {X : List AV} {n : Nat} (h : w'.ownsRow w.heap.size 30 3 v n (acells X)) (hn : X.length = n) (hb : Below w.heap.size w w') (hX : ∀ x ∈ X, x.ok w) : OwnA w' w.heap.size v X := by
  subst hn
  refine ⟨h, fun x hx => AV.ok.below (hX x hx) hb (Nat.le_refl _), fun x hx g e => AV.ok.off (hX x hx) (h.lt g e).1⟩

set_option maxHeartbeats 2000000 in
theorem CloneA_c (a : Option Addr) (n c : Nat) (X : List AV) (w : World) (h : Answers w a n c X) (hn2 : n ≤ 1000000) :
    Calls Tryd.prog 26 #[.slice a n c] w fun e w' => (∃ v, e = .returned v ∧ OwnA w' w.heap.size v X) ∧ Below w.heap.size w w' := by
  obtain ⟨i, hi, hz, hs, hb⟩ := ansInfo
  cases a with
  | none =>
    have hc := h.nil rfl
    have hle := h.le
    have hl := h.len
    obtain rfl : c = 0 := hc
    obtain rfl : n = 0 := by omega
    rw [List.length_eq_zero_iff] at hl
    subst hl
    have hnil := fun (W : World) => Lib.run_eql_slice_nil (P := Tryd.prog) W 25 30 none 0 0 0 0 Tryd.underlying25
    go_enter Tryd.func26, Tryd.ntmps26
    go_wp2
    go_ret
    exact ⟨⟨_, rfl, OwnA.nil _ _⟩, by (repeat first | exact bel0 | assumption | refine bel1 ?_ | refine bel2 ?_ | refine bel3 ?_ | refine belowT ?_ (by assumption) | refine bel5 ?_ (by simp; try omega))⟩
  | some x =>
    have hnil := fun (W : World) (y : Addr) => Lib.run_eql_slice_nil (P := Tryd.prog) W 25 30 (some y) n c 0 0 Tryd.underlying25
    have hsrc : n = 0 ∨ ∀ j u, (acells X)[j]? = some u → w.cell? (x.add j) = some u := by
      rcases h.row with h0 | ⟨b, off, e, _, hr⟩
      · exact .inl h0
      · cases e
        exact .inr (acells_src hr)
    go_enter Tryd.func26, Tryd.ntmps26
    go_wp2_with (at_builtin; refine wpList_append_own _ rfl _ _ 25 rfl w.heap.size 30 i (.agg #[.int .i64 0, .int .i64 0, .slice none 0 0]) 3 40 Tryd.underlying25 hi hz hs hb rfl (by decide) _ 0 [] rfl ?ho x n c (acells X) rfl ?h1 ?h2 (acells_one X) ?h3 ?h4 ?h5 ?h6)
    case ho => exact ⟨rfl, .inr ⟨w.heap.size, 0, #[], rfl, Nat.le_refl _, heap_new w _, Nat.le_refl _, Nat.zero_le _, rfl, by simp⟩⟩
    case h1 => rw [acells_len, h.len]
    case h2 =>
      intro j u hu
      rcases hsrc with h0 | hr
      · have := (List.getElem?_eq_some_iff.1 hu).1
        rw [acells_len, h.len] at this
        omega
      · exact past1 (hr j u hu) _
    case h3 => simp [maxLen]; omega
    case h4 => omega
    case h5 => simp
    case h6 =>
      intro v' w' ho hg hne
      have hb' : Below w.heap.size w w' := (belowA (Below.refl _ _) _).grown hg (by simp) (by intro k e; simp [Value.ownBlock] at e; omega)
      have hO : OwnA w' w.heap.size v' X := OwnA.of_row (n := n) (by simpa using ho) h.len hb' h.ok
      clear ho hg hne
      go_wp2
      go_ret
      exact ⟨⟨_, rfl, hO⟩, hb'⟩

end Go.Proofs.YtklabieacbbbfaaDoor
