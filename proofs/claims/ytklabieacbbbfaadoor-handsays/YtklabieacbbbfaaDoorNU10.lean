/- The contracts of hand's Same; no condition but that the arguments read as data. -/
import Derived.Test.YtklabieacbbbfaaDoorNU9
import Derived.Test.YtklabieacbbbfaaDoorNU6
import Derived.Test.YtklabieacbbbfaaDoorNU2
import Derived.Deep.RegionHeld3
import Derived.Test.YtklabieacbbbfaaDoorNU8
import Derived.Test.YtklabieacbbbfaaDoorNU3
import Derived.Test.YtklabieacbbbfaaDoorNU4
namespace Go.Proofs.YtklabieacbbbfaaDoor
open Go.RowKit
set_option linter.unusedVariables false
set_option maxRecDepth 100000
set_option linter.unusedSimpArgs false

set_option maxRecDepth 100000 in
set_option maxHeartbeats 4000000 in
theorem EqAN_some (b1 o1 m1 b2 o2 m2 n : Nat) (X Y : List AV) (w : World) (h1 : Answers w (some ⟨b1, o1, none⟩) n m1 X) (h2 : Answers w (some ⟨b2, o2, none⟩) n m2 Y)
    (hr1 : ∀ i x, X[i]? = some x → ∀ j v, x.cells[j]? = some v → w.cell? ⟨b1, o1 + i * 3 + j, none⟩ = some v)
    (hr2 : ∀ i x, Y[i]? = some x → ∀ j v, x.cells[j]? = some v → w.cell? ⟨b2, o2 + i * 3 + j, none⟩ = some v) :
    Calls Tryd.prog 31 #[.slice (some ⟨b1, o1, none⟩) n m1, .slice (some ⟨b2, o2, none⟩) n m2, .func (Fn.func 32) #[] #[]] w fun e w' => e = .returned (.bool (sameAs (X.map AV.p) (Y.map AV.p))) ∧ Below w.heap.size w w' := by
  have hlen1 := hide h1.len
  have hlen2 := hide h2.len
  have hmax := h1.max
  have hle := h1.le
  go_enter Tryd.func31, Tryd.ntmps31
  go_wp2
  go_loopw [17] (fun i wr => ∃ k : Nat, k ≤ n ∧ i = .int .i64 k ∧ (X.take k).map AV.p = (Y.take k).map AV.p ∧ Below w.heap.size w wr) (fun i _ => n - (intOf i).toNat)
  case atStart => exact ⟨0, by omega, rfl, by simp, Below.refl _ _⟩
  case round =>
    obtain ⟨k, hk, rfl, hp, hbr⟩ := hrel
    have HP := hide hp
    clear hp
    rename_i wr
    by_cases hlt : k < n
    · obtain ⟨x, hx⟩ : ∃ z, X[k]? = some z := ⟨X[k]'(by rw [hlen1.out]; exact hlt), by simp⟩
      obtain ⟨y, hy⟩ : ∃ z, Y[k]? = some z := ⟨Y[k]'(by rw [hlen2.out]; exact hlt), by simp⟩
      have ix := AV.ok.below (h1.ok x (List.mem_of_getElem? hx)) hbr (Nat.le_refl _)
      have iy := AV.ok.below (h2.ok y (List.mem_of_getElem? hy)) hbr (Nat.le_refl _)
      have HZ := hide hx
      have HY := hide hy
      have HS := hide (fun w' h k => psameA_c x y w' h k)
      have HT : Hid (sameA x.p y.p = true → x.p = y.p) := hide (sameA_iff _ _).1
      have HF : Hid (sameA x.p y.p = false → x.p ≠ y.p) := hide (fun h e => by rw [(sameA_iff _ _).2 e] at h; cases h)
      have kx := hr1 k x hx
      have ky := hr2 k y hy
      clear hx hy
      generalize hsm : sameA x.p y.p = sm at *
      clear hsm
      obtain ⟨e1, t1, a1, n1, c1, d1⟩ := x
      obtain ⟨e2, t2, a2, n2, c2, d2⟩ := y
      dsimp only [AV.v] at HS
      have x0 := keepc hbr (kx 0 _ rfl)
      have x1 := keepc hbr (kx 1 _ rfl)
      have x2 := keepc hbr (kx 2 _ rfl)
      have y0 := past1 (keepc hbr (ky 0 _ rfl))
      have y1 := past1 (keepc hbr (ky 1 _ rfl))
      have y2 := past1 (keepc hbr (ky 2 _ rfl))
      rw [Nat.add_zero] at x0 y0
      clear kx ky
      have hlt' : (k : Int) < (n : Int) := by omega
      go_wp2_with fail
      refine (HS.out _ (AV.ok.below ix (B := wr.heap.size) (by (repeat first | exact bel0 | assumption | refine bel1 ?_ | refine bel2 ?_ | refine bel3 ?_ | refine belowT ?_ (by assumption) | refine bel5 ?_ (by simp; try omega))) (Nat.le_refl _)) (AV.ok.below iy (B := wr.heap.size) (by (repeat first | exact bel0 | assumption | refine bel1 ?_ | refine bel2 ?_ | refine bel3 ?_ | refine belowT ?_ (by assumption) | refine bel5 ?_ (by simp; try omega))) (Nat.le_refl _))).mono ?_
      rintro e w9 ⟨rfl, hb9⟩
      have b9 : Below w.heap.size w w9 := by (repeat first | exact bel0 | assumption | refine bel1 ?_ | refine bel2 ?_ | refine bel3 ?_ | refine belowT ?_ (by assumption) | refine bel5 ?_ (by simp; try omega))
      clear hb9
      cases sm
      · have HNE := hide (HF.out rfl)
        clear HF HT
        go_wp2
        go_ret
        refine ⟨ret_bool (sameAs_f fun e => ?_).symm, b9⟩
        have := congrArg (fun L => L[k]?) e
        simp only [List.getElem?_map, HZ.out, HY.out, Option.map_some, Option.some.injEq] at this
        exact HNE.out this
      · have HEQ := hide (HT.out rfl)
        clear HF HT
        go_wp2
        have e := HEQ.out
        refine ⟨⟨k + 1, by omega, by go_num, ?_, b9⟩, by simp [intOf]; omega⟩
        obtain ⟨g1, g2⟩ := List.getElem?_eq_some_iff.1 HZ.out
        obtain ⟨g3, g4⟩ := List.getElem?_eq_some_iff.1 HY.out
        rw [List.take_succ_eq_append_getElem g1, List.take_succ_eq_append_getElem g3, List.map_append, List.map_append, HP.out, g2, g4]
        simpa using e
    · obtain rfl : k = n := by omega
      go_wp2
      go_ret
      have hp := HP.out
      rw [List.take_of_length_le (by rw [hlen1.out]; omega), List.take_of_length_le (by rw [hlen2.out]; omega)] at hp
      exact ⟨ret_bool (sameAs_t hp).symm, hbr⟩

theorem EqAN_ne (a1 a2 : Option Addr) (n1 n2 c1 c2 : Nat) (fv : Value) (w : World) (hne : n1 ≠ n2) (hm1 : n1 ≤ 9223372036854775807) (hm2 : n2 ≤ 9223372036854775807) :
    Calls Tryd.prog 31 #[.slice a1 n1 c1, .slice a2 n2 c2, fv] w fun e w' => e = .returned (.bool false) ∧ w' = w := by
  have hb : ((n1 : Int) != (n2 : Int)) = true := by simp; omega
  go_enter Tryd.func31, Tryd.ntmps31
  go_wp2
  go_ret
  exact ⟨rfl, rfl⟩

theorem EqAN_zero (a1 a2 : Option Addr) (c1 c2 : Nat) (fv : Value) (w : World) :
    Calls Tryd.prog 31 #[.slice a1 0 c1, .slice a2 0 c2, fv] w fun e w' => e = .returned (.bool true) ∧ w' = w := by
  go_enter Tryd.func31, Tryd.ntmps31
  go_wp2
  refine wp_loop_rounds 1 ?_
  rw [rounds_succ]
  go_wp2
  go_ret
  exact ⟨rfl, rfl⟩

theorem EqAN_c (a1 a2 : Option Addr) (n1 n2 c1 c2 : Nat) (X Y : List AV) (w : World) (h1 : Answers w a1 n1 c1 X) (h2 : Answers w a2 n2 c2 Y) :
    Calls Tryd.prog 31 #[.slice a1 n1 c1, .slice a2 n2 c2, .func (Fn.func 32) #[] #[]] w fun e w' => e = .returned (.bool (sameAs (X.map AV.p) (Y.map AV.p))) ∧ Below w.heap.size w w' := by
  by_cases hn : n1 = n2
  · subst hn
    by_cases h0 : n1 = 0
    · subst h0
      have e1 := h1.len
      have e2 := h2.len
      rw [List.length_eq_zero_iff] at e1 e2
      subst e1 e2
      refine (EqAN_zero a1 a2 c1 c2 _ w).mono ?_
      rintro e w' ⟨rfl, rfl⟩
      exact ⟨rfl, Below.refl _ _⟩
    · rcases h1.row with h | ⟨b1, o1, rfl, _, hr1⟩
      · omega
      · rcases h2.row with h | ⟨b2, o2, rfl, _, hr2⟩
        · omega
        · exact EqAN_some b1 o1 c1 b2 o2 c2 n1 X Y w h1 h2 hr1 hr2
  · have m1 := h1.max
    have m2 := h2.max
    have q1 := h1.le
    have q2 := h2.le
    refine (EqAN_ne a1 a2 n1 n2 c1 c2 _ w hn (by omega) (by omega)).mono ?_
    rintro e w' ⟨rfl, rfl⟩
    refine ⟨ret_bool (sameAs_f fun e => hn ?_).symm, Below.refl _ _⟩
    have := congrArg List.length e
    rw [List.length_map, List.length_map, h1.len, h2.len] at this
    exact this


set_option maxHeartbeats 1000000 in
theorem JSame_c (h f : NV) (w : World) (hk : h.ok w) (hf : f.ok w) : Calls Tryd.prog 13 #[h.v, f.v] w fun e w' => e = .returned (.bool (sameN h.p f.p)) ∧ Below w.heap.size w w' := by
  have HC := hide (fun w' (h1 : Ints w' h.ca h.cn h.cc h.c.d) (h2 : Ints w' f.ca f.cn f.cc f.c.d) => cmdSame_c h.ca f.ca h.cn f.cn h.cc f.cc h.c f.c w' h1 h2)
  have HL := hide (fun w' h1 h2 => EqAN_c h.ga f.ga h.gn f.gn h.gc f.gc h.G f.G w' h1 h2)
  have HS : Hid (sameN h.p f.p = (h.s == f.s && (h.w == f.w) && sameC h.c f.c && sameAs (h.G.map AV.p) (f.G.map AV.p))) := hide (by
    have e : decide (h.s = f.s) = (h.s == f.s) := by rw [Bool.eq_iff_iff]; simp
    show (decide (h.s = f.s) && (h.w == f.w) && sameC h.c f.c && sameAs (h.G.map AV.p) (f.G.map AV.p)) = _
    rw [e])
  obtain ⟨x0, x1, bw⟩ := two_boxes w h.cells f.cells 27 27
  have hok := hk.below bw (Nat.le_refl _)
  have fok := hf.below bw (Nat.le_refl _)
  generalize sameN _ _ = r at *
  generalize sameC _ _ = sc at *
  generalize sameAs _ _ = sl at *
  rw [show h.v = .agg h.cells.toArray from rfl, show f.v = .agg f.cells.toArray from rfl] at *
  obtain ⟨s, v, ⟨k, z, n, t, d⟩, ca, cn, cc, ga, gn, gc, G⟩ := h
  obtain ⟨s', v', ⟨k', z', n', t', d'⟩, ca', cn', cc', ga', gn', gc', G'⟩ := f
  dsimp only [NV.cells, cmdV] at *
  have u1 := x0.cell 7 _ rfl
  have u2 := x1.cell 7 _ rfl
  cases h1 : s == s'
  · go_enter Tryd.func13, Tryd.ntmps13
    go_wp2
    go_ret
    exact ⟨ret_bool (by rw [HS.out, h1]; rfl), bw⟩
  · cases h2 : v == v'
    · go_enter Tryd.func13, Tryd.ntmps13
      go_wp2
      go_ret
      exact ⟨ret_bool (by rw [HS.out, h1, h2]; rfl), bw⟩
    · go_enter Tryd.func13, Tryd.ntmps13
      go_wp2_with fail
      refine (HC.out _ hok.c fok.c).mono ?_
      rintro e w1 ⟨rfl, hb1⟩
      replace u1 := keepc hb1 u1
      replace u2 := keepc hb1 u2
      replace hok := hok.below hb1 (Nat.le_refl _)
      replace fok := fok.below hb1 (Nat.le_refl _)
      replace bw := belowT bw hb1
      clear hb1 x0 x1
      cases sc
      · go_wp2
        go_ret
        exact ⟨ret_bool (by rw [HS.out, h1, h2]; rfl), bw⟩
      · go_wp2_with fail
        refine (HL.out _ hok.g fok.g).mono ?_
        rintro e w2 ⟨rfl, hb2⟩
        go_wp2
        go_ret
        exact ⟨ret_bool (by rw [HS.out, h1, h2]; simp), belowT bw hb2⟩


end Go.Proofs.YtklabieacbbbfaaDoor

/- The contract of hand.Check; no condition but that the argument reads as data and the package's table is as its text lays it. -/
namespace Go.Proofs.YtklabieacbbbfaaDoor
open Go.RowKit
set_option linter.unusedVariables false
set_option maxRecDepth 100000
set_option linter.unusedSimpArgs false

theorem jasked_c (h : NV) (gw : Int) (hgw : IntKind.i64.wrap ((h.gn : Int) + 1) = gw) (w : World) : Calls Tryd.prog 28 #[h.v] w fun e w' => e = .returned (.int .i64 (if h.w then gw else (h.gn : Int))) ∧ Below w.heap.size w w' := by
  have x0 := Lay.made w h.cells 27
  have bw : Below w.heap.size w (w.alloc (.cells h.cells.toArray 27)) := by (repeat first | exact bel0 | assumption | refine bel1 ?_ | refine bel2 ?_ | refine bel3 ?_ | refine belowT ?_ (by assumption) | refine bel5 ?_ (by simp; try omega))
  rw [show h.v = .agg h.cells.toArray from rfl] at *
  obtain ⟨s, v, ⟨k, z, u, t, d⟩, ca, cn, cc, ga, gn, gc, G⟩ := h
  dsimp only [NV.cells] at *
  have c1 := x0.cell 1 _ rfl
  have c7 := x0.cell 7 _ rfl
  cases v
  · go_enter Tryd.func28, Tryd.ntmps28
    go_wp2
    go_ret
    exact ⟨rfl, bw⟩
  · go_enter Tryd.func28, Tryd.ntmps28
    go_wp2
    go_ret
    exact ⟨rfl, bw⟩

set_option maxHeartbeats 4000000 in
theorem JCheck_c (h : NV) (w : World) (hS : Shapes w) (hk : h.ok w) : Calls Tryd.prog 11 #[h.v] w fun e w' => e = .returned (.int .i64 (checkN h.p)) ∧ Below w.heap.size w w' := by
  have HSC := hide (fun w' (h1 : Ints w' h.ca h.cn h.cc h.c.d) => cmdSame_c h.ca none h.cn 0 h.cc 0 h.c zeroC w' h1 (Ints.nilSlice w'))
  have HCC := hide (fun w' hS' (h1 : Ints w' h.ca h.cn h.cc h.c.d) => cmdCheck_c h.ca h.cn h.cc h.c w' hS' h1)
  have HC : Hid (checkN h.p = if inB h.s 0 40 = false then 3 else if firstA (h.G.map AV.p) ≠ 0 then firstA (h.G.map AV.p) else if formN h.p = false then 4 else if h.w then checkC h.c else 0) := hide rfl
  have HL : Hid ((h.G.map AV.p).length = h.gn) := hide (by rw [List.length_map]; exact hk.g.len)
  have HF : Hid (formN h.p = if h.w then decide (h.s = (h.gn : Int) + 1) else decide (h.s = (h.gn : Int)) && sameC h.c zeroC) := hide (by
    unfold formN
    rw [← HL.out]
    rfl)
  have hmax := hk.g.max
  have hle := hk.g.le
  have x0 := Lay.made w h.cells 27
  have bw : Below w.heap.size w (w.alloc (.cells h.cells.toArray 27)) := by (repeat first | exact bel0 | assumption | refine bel1 ?_ | refine bel2 ?_ | refine bel3 ?_ | refine belowT ?_ (by assumption) | refine bel5 ?_ (by simp; try omega))
  have hok := hk.below bw (Nat.le_refl _)
  generalize checkN _ = r at *
  generalize formN _ = fm at *
  generalize checkC _ = cc0 at *
  generalize sameC _ _ = sc at *
  rw [show h.v = .agg h.cells.toArray from rfl] at *
  obtain ⟨s, v, ⟨k, z, u, t, d⟩, ca, cn, cc, ga, gn, gc, G⟩ := h
  dsimp only [NV.cells, cmdV, zeroC] at *
  have hSw := hS.below bw
  cases hi : inB s 0 40
  · have HI := hide hi
    have c0 := x0.cell 0 _ rfl
    by_cases h0 : s < 0
    · clear hi
      go_enter Tryd.func11, Tryd.ntmps11
      go_wp2
      go_ret
      exact ⟨ret_int (by rw [HC.out, if_pos HI.out]), bw⟩
    · have h4 : (40 : Int) < s := by simp [inB] at hi; omega
      clear hi
      go_enter Tryd.func11, Tryd.ntmps11
      go_wp2
      go_ret
      exact ⟨ret_int (by rw [HC.out, if_pos HI.out]), bw⟩
  · obtain ⟨gw, hgw, hcmp⟩ := len_more gn s (by omega) hi
    have HI : Hid (inB s 0 40 = true) := hide hi
    have HCMP := hide hcmp
    have h0 : ¬ s < 0 := by simp [inB] at hi; omega
    have h4 : ¬ (40 : Int) < s := by simp [inB] at hi; omega
    clear hi hcmp
    have c0 := x0.cell 0 _ rfl
    have c7 := x0.cell 7 _ rfl
    go_enter Tryd.func11, Tryd.ntmps11
    go_wp2_with fail
    generalize w.alloc (.cells #[.int .i64 s, .bool v, .int .i64 k, .int .i64 z, .int .i64 u, .int .i64 t, .slice ca cn cc, .slice ga gn gc] 27) = w1 at *
    clear c0 c7
    go_loopw [17] (fun i wr => ∃ j : Nat, j ≤ gn ∧ i = .int .i64 j ∧ firstA ((G.map AV.p).take j) = 0 ∧ Below w1.heap.size w1 wr) (fun i _ => gn - (intOf i).toNat)
    case atStart => exact ⟨0, by omega, rfl, rfl, Below.refl _ _⟩
    case round =>
      obtain ⟨j, hj, rfl, hp, hbr⟩ := hrel
      have HP := hide hp
      clear hp
      rename_i wr
      by_cases hlt : j < gn
      · obtain ⟨b, off, y, rfl, hy, hyk, hblt, ky⟩ := hok.g.at hlt
        have iy := AV.ok.below hyk hbr (Nat.le_refl _)
        have HS := hide (fun w' h' => DCheckAnswer_c y w' h')
        have hyp : (G.map AV.p)[j]? = some y.p := by rw [List.getElem?_map, hy]; rfl
        have HBAD : Hid (checkA y.p ≠ 0 → r = checkA y.p) := hide (fun e => by
          have e1 := firstA_at hyp HP.out e
          rw [HC.out, if_neg (by simp [HI.out]), e1, if_pos e])
        have HNEXT : Hid (checkA y.p = 0 → firstA ((G.map AV.p).take (j + 1)) = 0) := hide (fun e => firstA_step hyp HP.out e)
        clear hy hyp
        generalize checkA y.p = cl at *
        obtain ⟨e1, t1, a1, n1, c1, d1⟩ := y
        dsimp only [AV.v, AV.cells] at HS ky
        have x0' := keepc hbr (ky 0 _ rfl)
        have x1' := keepc hbr (ky 1 _ rfl)
        have x2' := keepc hbr (ky 2 _ rfl)
        rw [Nat.add_zero] at x0'
        clear ky
        have hlt' : (j : Int) < (gn : Int) := by omega
        go_wp2_with fail
        refine (HS.out _ (AV.ok.below iy (B := wr.heap.size) (by (repeat first | exact bel0 | assumption | refine bel1 ?_ | refine bel2 ?_ | refine bel3 ?_ | refine belowT ?_ (by assumption) | refine bel5 ?_ (by simp; try omega))) (Nat.le_refl _))).mono ?_
        rintro e w9 ⟨rfl, hb9⟩
        have b9 : Below w1.heap.size w1 w9 := by (repeat first | exact bel0 | assumption | refine bel1 ?_ | refine bel2 ?_ | refine bel3 ?_ | refine belowT ?_ (by assumption) | refine bel5 ?_ (by simp; try omega))
        clear hb9
        cases h9 : cl != 0
        · go_wp2
          simp at h9
          exact ⟨⟨j + 1, by omega, by go_num, HNEXT.out h9, b9⟩, by simp [intOf]; omega⟩
        · go_wp2
          go_ret
          simp at h9
          exact ⟨ret_int (HBAD.out h9).symm, belowT bw b9⟩
      · obtain rfl : j = gn := by omega
        have hp := HP.out
        rw [List.take_of_length_le (by rw [HL.out]; omega)] at hp
        have HQ : Hid (r = if fm = false then 4 else if v then cc0 else 0) := hide (by rw [HC.out, if_neg (by simp [HI.out]), if_neg (by simp [hp])])
        clear hp
        have c0 := keepc hbr (x0.cell 0 _ rfl)
        have c1 := keepc hbr (x0.cell 1 _ rfl)
        have c2 := keepc hbr (x0.cell 2 _ rfl)
        have c3 := keepc hbr (x0.cell 3 _ rfl)
        have c4 := keepc hbr (x0.cell 4 _ rfl)
        have c5 := keepc hbr (x0.cell 5 _ rfl)
        have c6 := keepc hbr (x0.cell 6 _ rfl)
        have c7 := keepc hbr (x0.cell 7 _ rfl)
        replace hok := hok.below hbr (Nat.le_refl _)
        replace bw := belowT bw hbr
        replace hSw := hSw.below hbr
        clear x0 hbr h0 h4
        have HASK := hide (fun w' => jasked_c ⟨s, v, ⟨k, z, u, t, d⟩, ca, cn, cc, ga, j, gc, G⟩ gw hgw w')
        dsimp only [NV.v] at HASK
        obtain ⟨ak, hak⟩ : ∃ m : Int, (if v then gw else (j : Int)) = m := ⟨_, rfl⟩
        rw [hak] at HASK
        have HAK := hide hak
        have hci := hok.c
        clear hgw hak
        go_upto_region 10 with fail
        go_region_held3 (fun w' => w'.cell? ⟨w.heap.size, 0, none⟩ = some (.int .i64 s) ∧ w'.cell? ⟨w.heap.size, 1, none⟩ = some (.bool v) ∧ w'.cell? ⟨w.heap.size, 2, none⟩ = some (.int .i64 k) ∧ w'.cell? ⟨w.heap.size, 3, none⟩ = some (.int .i64 z) ∧ w'.cell? ⟨w.heap.size, 4, none⟩ = some (.int .i64 u) ∧ w'.cell? ⟨w.heap.size, 5, none⟩ = some (.int .i64 t) ∧ w'.cell? ⟨w.heap.size, 6, none⟩ = some (.slice ca cn cc) ∧ w'.cell? ⟨w.heap.size, 7, none⟩ = some (.slice ga j gc)) ((first | (go_simp; done) | (simp [*, World.cell?_alloc_at, World.cell?_alloc_past, World.cell?_alloc_some, World.cell?_setCell_far]; done))) (first | (go_at_call 28; refine (HASK.out _).mono ?_; rintro e w5 ⟨rfl, hb5⟩; (have g0 := keepc hb5 (p := ⟨w.heap.size, 0, none⟩) (u := .int .i64 s) (by (first | (go_simp; done) | (simp [*, World.cell?_alloc_at, World.cell?_alloc_past, World.cell?_alloc_some, World.cell?_setCell_far]; done)))); (have g1 := keepc hb5 (p := ⟨w.heap.size, 1, none⟩) (u := .bool v) (by (first | (go_simp; done) | (simp [*, World.cell?_alloc_at, World.cell?_alloc_past, World.cell?_alloc_some, World.cell?_setCell_far]; done)))); (have g2 := keepc hb5 (p := ⟨w.heap.size, 2, none⟩) (u := .int .i64 k) (by (first | (go_simp; done) | (simp [*, World.cell?_alloc_at, World.cell?_alloc_past, World.cell?_alloc_some, World.cell?_setCell_far]; done)))); (have g3 := keepc hb5 (p := ⟨w.heap.size, 3, none⟩) (u := .int .i64 z) (by (first | (go_simp; done) | (simp [*, World.cell?_alloc_at, World.cell?_alloc_past, World.cell?_alloc_some, World.cell?_setCell_far]; done)))); (have g4 := keepc hb5 (p := ⟨w.heap.size, 4, none⟩) (u := .int .i64 u) (by (first | (go_simp; done) | (simp [*, World.cell?_alloc_at, World.cell?_alloc_past, World.cell?_alloc_some, World.cell?_setCell_far]; done)))); (have g5 := keepc hb5 (p := ⟨w.heap.size, 5, none⟩) (u := .int .i64 t) (by (first | (go_simp; done) | (simp [*, World.cell?_alloc_at, World.cell?_alloc_past, World.cell?_alloc_some, World.cell?_setCell_far]; done)))); (have g6 := keepc hb5 (p := ⟨w.heap.size, 6, none⟩) (u := .slice ca cn cc) (by (first | (go_simp; done) | (simp [*, World.cell?_alloc_at, World.cell?_alloc_past, World.cell?_alloc_some, World.cell?_setCell_far]; done)))); (have g7 := keepc hb5 (p := ⟨w.heap.size, 7, none⟩) (u := .slice ga j gc) (by (first | (go_simp; done) | (simp [*, World.cell?_alloc_at, World.cell?_alloc_past, World.cell?_alloc_some, World.cell?_setCell_far]; done))))))
        have b5 : Below wr.heap.size wr w5 := by (repeat first | exact bel0 | assumption | refine bel1 ?_ | refine bel2 ?_ | refine bel3 ?_ | refine belowT ?_ (by assumption) | refine bel5 ?_ (by simp; try omega))
        replace hci := hci.below b5 (Nat.le_refl _)
        replace hSw := hSw.below b5
        replace bw := belowT bw b5
        clear b5 hb5 HASK c0 c1 c2 c3 c4 c5 c6 c7
        cases v
        · obtain rfl : (j : Int) = ak := HAK.out
          cases hs : s != (j : Int)
          · have hs' : s = (j : Int) := by simpa using hs
            have HS' : Hid (fm = sc) := hide (by rw [HF.out, if_neg (by simp)]; simp [hs'])
            clear hs'
            go_wp2_with fail
            refine (HSC.out _ hci).mono ?_
            rintro e w9 ⟨rfl, hb9⟩
            cases sc
            · go_wp2
              go_ret
              exact ⟨ret_int (by rw [HQ.out, HS'.out]; rfl), belowT bw hb9⟩
            · go_wp2
              go_ret
              exact ⟨ret_int (by rw [HQ.out, HS'.out]; rfl), belowT bw hb9⟩
          · have HS' : Hid (fm = false) := hide (by rw [HF.out, if_neg (by simp)]; simp at hs; simp [hs])
            go_wp2
            go_ret
            exact ⟨ret_int (by rw [HQ.out, HS'.out]; rfl), bw⟩
        · obtain rfl : gw = ak := HAK.out
          cases hs : decide (s = (j : Int) + 1)
          · have hs2 : (s != gw) = true := by rw [HCMP.out, hs]; rfl
            have HS' : Hid (fm = false) := hide (by rw [HF.out, if_pos rfl]; exact hs)
            clear hs
            go_wp2
            go_ret
            exact ⟨ret_int (by rw [HQ.out, HS'.out]; rfl), bw⟩
          · have hs2 : (s != gw) = false := by rw [HCMP.out, hs]; rfl
            have HS' : Hid (fm = true) := hide (by rw [HF.out, if_pos rfl]; exact hs)
            clear hs
            go_wp2_with fail
            refine (HCC.out _ hSw hci).mono ?_
            rintro e w9 ⟨rfl, hb9⟩
            go_wp2
            go_ret
            exact ⟨ret_int (by rw [HQ.out, HS'.out]; rfl), belowT bw hb9⟩

end Go.Proofs.YtklabieacbbbfaaDoor

/- Answers of the call's own in memory; plain mathematics, no condition. -/
namespace Go.Proofs.YtklabieacbbbfaaDoor
open Go.RowKit
set_option linter.unusedVariables false
set_option maxRecDepth 100000
set_option linter.unusedSimpArgs false

/-- Answers of the call's own, in block g; their data lies in newer memory. -/
structure MineA (w : World) (g : Nat) (X : List AV) : Prop where
  lay : Lay w g (acells X)
  ok : ∀ x ∈ X, x.ok w
  new : ∀ x ∈ X, x.new (g + 1)
  row : ∃ cur : Array Value, w.heap[g]? = some (.cells cur 30 (0, 0)) ∧ cur.size = X.length * 3
theorem MineA.below {w w' : World} {g : Nat} {X : List AV} (h : MineA w g X) (hb : Below w.heap.size w w') : MineA w' g X :=
  ⟨h.lay.below hb, fun x hx => AV.ok.below (h.ok x hx) hb (Nat.le_refl _), h.new, by obtain ⟨cur, e, k⟩ := h.row; exact ⟨cur, by rw [hb.block g h.lay.lt]; exact e, k⟩⟩
theorem MineA.farB {w : World} {g : Nat} {X : List AV} (h : MineA w g X) (p : Addr) (v : Value) (hp : p.block ≠ g) (ho : ∀ x ∈ X, x.off p.block) : MineA (w.setCell p v) g X :=
  ⟨h.lay.far p v hp, fun x hx => Ints.setOffA (h.ok x hx) p v (ho x hx), h.new, by obtain ⟨cur, e, k⟩ := h.row; exact ⟨cur, by rw [heap_setCell_other _ _ _ _ (fun e => hp e.symm)]; exact e, k⟩⟩
theorem MineA.far1 {w : World} {g : Nat} {X : List AV} (h : MineA w g X) (p : Addr) (v : Value) (hp : p.block < g) : MineA (w.setCell p v) g X :=
  h.farB p v (by omega) (fun x hx => h.new x hx p.block (by omega))
theorem acells_set : ∀ (X : List AV) (i : Nat) (x : AV), i < X.length → (((acells X).set (i * 3) (.int .i64 x.e)).set (i * 3 + 1) (.int .i64 x.t)).set (i * 3 + 2) (.slice x.a x.n x.c) = acells (X.set i x)
  | [], i, x, h => by simp at h
  | y :: X, 0, x, _ => by simp [acells, AV.cells]
  | y :: X, i + 1, x, h => by
    have ih := acells_set X i x (by simpa using h)
    rw [List.set_cons_succ, acells_cons, acells_cons, ← ih]
    simp only [AV.cells, List.cons_append, List.nil_append, show (i + 1) * 3 = i * 3 + 1 + 1 + 1 by omega, show i * 3 + 1 + 1 + 1 + 1 = (i * 3 + 1) + 1 + 1 + 1 by omega, show i * 3 + 1 + 1 + 1 + 2 = (i * 3 + 2) + 1 + 1 + 1 by omega, List.set_cons_succ]
theorem MineA.set {w : World} {g : Nat} {X : List AV} (h : MineA w g X) {i : Nat} (hi : i < X.length) {x : AV} (hx : x.ok w) (hn : x.new (g + 1)) :
    MineA (((w.setCell ⟨g, i * 3, none⟩ (.int .i64 x.e)).setCell ⟨g, i * 3 + 1, none⟩ (.int .i64 x.t)).setCell ⟨g, i * 3 + 2, none⟩ (.slice x.a x.n x.c)) g (X.set i x) := by
  have hb := (((But.refl g w).step (i * 3) (.int .i64 x.e)).step (i * 3 + 1) (.int .i64 x.t)).step (i * 3 + 2) (.slice x.a x.n x.c)
  refine ⟨by rw [← acells_set X i x hi]; exact ((h.lay.set _ _).set _ _).set _ _, fun z hz => ?_, fun z hz => ?_, ?_⟩
  · rcases List.mem_or_eq_of_mem_set hz with hz | rfl
    · exact AV.ok.but (h.ok z hz) hb (h.new z hz g (by omega))
    · exact AV.ok.but hx hb (hn g (by omega))
  · rcases List.mem_or_eq_of_mem_set hz with hz | rfl
    · exact h.new z hz
    · exact hn
  · obtain ⟨cur, e, k⟩ := h.row
    exact ⟨_, heap_setCell_same _ _ _ _ _ _ (heap_setCell_same _ _ _ _ _ _ (heap_setCell_same _ _ _ _ _ _ e)), by simpa using k⟩
/-- Such answers may be appended to. -/
theorem MineA.own {w : World} {g : Nat} {X : List AV} (h : MineA w g X) (hm : X.length ≤ maxLen) : OwnA w g (.slice (some ⟨g, 0, none⟩) X.length X.length) X := by
  obtain ⟨cur, e, k⟩ := h.row
  have hl : cur.toList = acells X := by
    apply List.ext_getElem?
    intro i
    by_cases hi : i < (acells X).length
    · obtain ⟨v, hv⟩ : ∃ v, (acells X)[i]? = some v := ⟨_, List.getElem?_eq_getElem hi⟩
      have := h.lay.cell i v hv
      rw [cell_of_row w g _ _ _ _ e] at this
      rw [hv]
      simpa using this
    · have h1 : (acells X)[i]? = none := List.getElem?_eq_none (by omega)
      have h2 : cur.toList[i]? = none := List.getElem?_eq_none (by rw [Array.length_toList, k]; rw [acells_len] at hi; omega)
      rw [h1, h2]
  refine ⟨⟨by rw [acells_len], .inr ⟨g, X.length, cur, rfl, Nat.le_refl _, e, Nat.le_refl _, hm, k, ?_⟩⟩, h.ok, fun x hx b hb => ?_⟩
  · rw [hl, List.take_of_length_le (by rw [acells_len]; omega)]
  · obtain rfl : g = b := by simpa [Value.ownBlock] using hb
    exact h.new x hx g (by omega)
theorem MineA.answers {w : World} {g : Nat} {X : List AV} (h : MineA w g X) {n : Nat} (hn : X.length = n) (hm : n ≤ 9223372036854775807) : Answers w (some ⟨g, 0, none⟩) n n X := by
  subst hn
  refine ⟨rfl, Nat.le_refl _, hm, fun e => (by cases e), .inr ⟨g, 0, rfl, h.lay.lt, fun i y hy j v hv => ?_⟩, h.ok⟩
  have := h.lay.cell _ _ (acells_get X i y hy j v hv)
  simpa using this
end Go.Proofs.YtklabieacbbbfaaDoor

/- A box of eight cells; plain mathematics, no condition. -/
namespace Go.Proofs.YtklabieacbbbfaaDoor
open Go.RowKit
set_option linter.unusedVariables false
set_option maxRecDepth 100000
set_option linter.unusedSimpArgs false

/-- A box of eight cells. -/
theorem Lay.eight {w : World} {B : Nat} {a b c d e f g h : Value} (x : Lay w B [a, b, c, d, e, f, g, h]) : w.cell? ⟨B, 0, none⟩ = some a ∧ w.cell? ⟨B, 1, none⟩ = some b ∧ w.cell? ⟨B, 2, none⟩ = some c ∧ w.cell? ⟨B, 3, none⟩ = some d ∧ w.cell? ⟨B, 4, none⟩ = some e ∧ w.cell? ⟨B, 5, none⟩ = some f ∧ w.cell? ⟨B, 6, none⟩ = some g ∧ w.cell? ⟨B, 7, none⟩ = some h :=
  ⟨x.cell 0 _ rfl, x.cell 1 _ rfl, x.cell 2 _ rfl, x.cell 3 _ rfl, x.cell 4 _ rfl, x.cell 5 _ rfl, x.cell 6 _ rfl, x.cell 7 _ rfl⟩

end Go.Proofs.YtklabieacbbbfaaDoor
