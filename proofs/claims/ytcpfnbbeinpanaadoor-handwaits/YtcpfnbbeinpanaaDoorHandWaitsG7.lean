/- The contract of hand.Check; no condition but that the argument reads as data and the package's table is as its text lays it. -/
import Derived.Test.YtcpfnbbeinpanaaDoorHandWaitsG6
import Derived.Deep.RegionHeld3
import Derived.Test.YtcpfnbbeinpanaaDoorHandWaitsG3
import Derived.Test.YtcpfnbbeinpanaaDoorHandWaitsG4
namespace Go.Proofs.YtcpfnbbeinpanaaDoor
open Go.RowKit
set_option linter.unusedVariables false
set_option maxRecDepth 100000
set_option linter.unusedSimpArgs false

theorem jasked_c (h : NV) (gw : Int) (hgw : IntKind.i64.wrap ((h.gn : Int) + 1) = gw) (w : World) : Calls Tryd.prog 28 #[h.v] w fun e w' => e = .returned (.int .i64 (if h.w then gw else (h.gn : Int))) ∧ Below w.heap.size w w' := by
  have x0 := Lay.made w h.cells 27
  have bw : Below w.heap.size w (w.alloc (.cells h.cells.toArray 27)) := by (repeat (first | exact Below.refl _ _ | assumption | refine Below.drew ?_ | refine below_drewN ?_ _ | refine belowA ?_ _ | refine belowT ?_ (by assumption) | refine Below.setCell ?_ (by first | (simp; done) | (simp; omega)) _))
  rw [show h.v = .agg h.cells.toArray from rfl] at *
  obtain ⟨s, v, ⟨k, z, u, t, d⟩, ca, cn, cc, ga, gn, gc, G⟩ := h
  dsimp only [NV.cells] at *
  have c1 := x0.cell 1 _ rfl
  have c7 := x0.cell 7 _ rfl
  cases v
  · go_enter Tryd.func28, Tryd.ntmps28
    go_wp2
    go_ret
    exact ⟨rfl, bw⟩
  · go_enter Tryd.func28, Tryd.ntmps28
    go_wp2
    go_ret
    exact ⟨rfl, bw⟩

set_option maxHeartbeats 4000000 in
theorem JCheck_c (h : NV) (w : World) (hS : Shapes w) (hk : h.ok w) : Calls Tryd.prog 11 #[h.v] w fun e w' => e = .returned (.int .i64 (checkN h.p)) ∧ Below w.heap.size w w' := by
  have HSC := hide (fun w' (h1 : Ints w' h.ca h.cn h.cc h.c.d) => cmdSame_c h.ca none h.cn 0 h.cc 0 h.c zeroC w' h1 (Ints.nilSlice w'))
  have HCC := hide (fun w' hS' (h1 : Ints w' h.ca h.cn h.cc h.c.d) => cmdCheck_c h.ca h.cn h.cc h.c w' hS' h1)
  have HC : Hid (checkN h.p = if inB h.s 0 40 = false then 3 else if firstA (h.G.map AV.p) ≠ 0 then firstA (h.G.map AV.p) else if formN h.p = false then 4 else if h.w then checkC h.c else 0) := hide rfl
  have HL : Hid ((h.G.map AV.p).length = h.gn) := hide (by rw [List.length_map]; exact hk.g.len)
  have HF : Hid (formN h.p = if h.w then decide (h.s = (h.gn : Int) + 1) else decide (h.s = (h.gn : Int)) && sameC h.c zeroC) := hide (by
    unfold formN
    rw [← HL.out]
    rfl)
  have hmax := hk.g.max
  have hle := hk.g.le
  have x0 := Lay.made w h.cells 27
  have bw : Below w.heap.size w (w.alloc (.cells h.cells.toArray 27)) := by (repeat (first | exact Below.refl _ _ | assumption | refine Below.drew ?_ | refine below_drewN ?_ _ | refine belowA ?_ _ | refine belowT ?_ (by assumption) | refine Below.setCell ?_ (by first | (simp; done) | (simp; omega)) _))
  have hok := hk.below bw (Nat.le_refl _)
  generalize checkN _ = r at *
  generalize formN _ = fm at *
  generalize checkC _ = cc0 at *
  generalize sameC _ _ = sc at *
  rw [show h.v = .agg h.cells.toArray from rfl] at *
  obtain ⟨s, v, ⟨k, z, u, t, d⟩, ca, cn, cc, ga, gn, gc, G⟩ := h
  dsimp only [NV.cells, cmdV, zeroC] at *
  have hSw := hS.below bw
  cases hi : inB s 0 40
  · have HI := hide hi
    have c0 := x0.cell 0 _ rfl
    by_cases h0 : s < 0
    · clear hi
      go_enter Tryd.func11, Tryd.ntmps11
      go_wp2
      go_ret
      exact ⟨ret_int (by rw [HC.out, if_pos HI.out]), bw⟩
    · have h4 : (40 : Int) < s := by simp [inB] at hi; omega
      clear hi
      go_enter Tryd.func11, Tryd.ntmps11
      go_wp2
      go_ret
      exact ⟨ret_int (by rw [HC.out, if_pos HI.out]), bw⟩
  · obtain ⟨gw, hgw, hcmp⟩ := len_more gn s (by omega) hi
    have HI : Hid (inB s 0 40 = true) := hide hi
    have HCMP := hide hcmp
    have h0 : ¬ s < 0 := by simp [inB] at hi; omega
    have h4 : ¬ (40 : Int) < s := by simp [inB] at hi; omega
    clear hi hcmp
    have c0 := x0.cell 0 _ rfl
    have c7 := x0.cell 7 _ rfl
    go_enter Tryd.func11, Tryd.ntmps11
    go_wp2_with fail
    generalize w.alloc (.cells #[.int .i64 s, .bool v, .int .i64 k, .int .i64 z, .int .i64 u, .int .i64 t, .slice ca cn cc, .slice ga gn gc] 27) = w1 at *
    clear c0 c7
    go_loopw [17] (fun i wr => ∃ j : Nat, j ≤ gn ∧ i = .int .i64 j ∧ firstA ((G.map AV.p).take j) = 0 ∧ Below w1.heap.size w1 wr) (fun i _ => gn - (intOf i).toNat)
    case atStart => exact ⟨0, by omega, rfl, rfl, Below.refl _ _⟩
    case round =>
      obtain ⟨j, hj, rfl, hp, hbr⟩ := hrel
      have HP := hide hp
      clear hp
      rename_i wr
      by_cases hlt : j < gn
      · obtain ⟨b, off, y, rfl, hy, hyk, hblt, ky⟩ := hok.g.at hlt
        have iy := AV.ok.below hyk hbr (Nat.le_refl _)
        have HS := hide (fun w' h' => DCheckAnswer_c y w' h')
        have hyp : (G.map AV.p)[j]? = some y.p := by rw [List.getElem?_map, hy]; rfl
        have HBAD : Hid (checkA y.p ≠ 0 → r = checkA y.p) := hide (fun e => by
          have e1 := firstA_at hyp HP.out e
          rw [HC.out, if_neg (by simp [HI.out]), e1, if_pos e])
        have HNEXT : Hid (checkA y.p = 0 → firstA ((G.map AV.p).take (j + 1)) = 0) := hide (fun e => firstA_step hyp HP.out e)
        clear hy hyp
        generalize checkA y.p = cl at *
        obtain ⟨e1, t1, a1, n1, c1, d1⟩ := y
        dsimp only [AV.v, AV.cells] at HS ky
        have x0' := keepc hbr (ky 0 _ rfl)
        have x1' := keepc hbr (ky 1 _ rfl)
        have x2' := keepc hbr (ky 2 _ rfl)
        rw [Nat.add_zero] at x0'
        clear ky
        have hlt' : (j : Int) < (gn : Int) := by omega
        go_wp2_with fail
        refine (HS.out _ (AV.ok.below iy (B := wr.heap.size) (by (repeat (first | exact Below.refl _ _ | assumption | refine Below.drew ?_ | refine below_drewN ?_ _ | refine belowA ?_ _ | refine belowT ?_ (by assumption) | refine Below.setCell ?_ (by first | (simp; done) | (simp; omega)) _))) (Nat.le_refl _))).mono ?_
        rintro e w9 ⟨rfl, hb9⟩
        have b9 : Below w1.heap.size w1 w9 := by (repeat (first | exact Below.refl _ _ | assumption | refine Below.drew ?_ | refine below_drewN ?_ _ | refine belowA ?_ _ | refine belowT ?_ (by assumption) | refine Below.setCell ?_ (by first | (simp; done) | (simp; omega)) _))
        clear hb9
        cases h9 : cl != 0
        · go_wp2
          simp at h9
          exact ⟨⟨j + 1, by omega, by go_num, HNEXT.out h9, b9⟩, by simp [intOf]; omega⟩
        · go_wp2
          go_ret
          simp at h9
          exact ⟨ret_int (HBAD.out h9).symm, belowT bw b9⟩
      · obtain rfl : j = gn := by omega
        have hp := HP.out
        rw [List.take_of_length_le (by rw [HL.out]; omega)] at hp
        have HQ : Hid (r = if fm = false then 4 else if v then cc0 else 0) := hide (by rw [HC.out, if_neg (by simp [HI.out]), if_neg (by simp [hp])])
        clear hp
        have c0 := keepc hbr (x0.cell 0 _ rfl)
        have c1 := keepc hbr (x0.cell 1 _ rfl)
        have c2 := keepc hbr (x0.cell 2 _ rfl)
        have c3 := keepc hbr (x0.cell 3 _ rfl)
        have c4 := keepc hbr (x0.cell 4 _ rfl)
        have c5 := keepc hbr (x0.cell 5 _ rfl)
        have c6 := keepc hbr (x0.cell 6 _ rfl)
        have c7 := keepc hbr (x0.cell 7 _ rfl)
        replace hok := hok.below hbr (Nat.le_refl _)
        replace bw := belowT bw hbr
        replace hSw := hSw.below hbr
        clear x0 hbr h0 h4
        have HASK := hide (fun w' => jasked_c ⟨s, v, ⟨k, z, u, t, d⟩, ca, cn, cc, ga, j, gc, G⟩ gw hgw w')
        dsimp only [NV.v] at HASK
        obtain ⟨ak, hak⟩ : ∃ m : Int, (if v then gw else (j : Int)) = m := ⟨_, rfl⟩
        rw [hak] at HASK
        have HAK := hide hak
        have hci := hok.c
        clear hgw hak
        go_upto_region 10 with fail
        go_region_held3 (fun w' => w'.cell? ⟨w.heap.size, 0, none⟩ = some (.int .i64 s) ∧ w'.cell? ⟨w.heap.size, 1, none⟩ = some (.bool v) ∧ w'.cell? ⟨w.heap.size, 2, none⟩ = some (.int .i64 k) ∧ w'.cell? ⟨w.heap.size, 3, none⟩ = some (.int .i64 z) ∧ w'.cell? ⟨w.heap.size, 4, none⟩ = some (.int .i64 u) ∧ w'.cell? ⟨w.heap.size, 5, none⟩ = some (.int .i64 t) ∧ w'.cell? ⟨w.heap.size, 6, none⟩ = some (.slice ca cn cc) ∧ w'.cell? ⟨w.heap.size, 7, none⟩ = some (.slice ga j gc)) ((first | (go_simp; done) | (simp [*, World.cell?_alloc_at, World.cell?_alloc_past, World.cell?_alloc_some, World.cell?_setCell_far]; done))) (first | (go_at_call 28; refine (HASK.out _).mono ?_; rintro e w5 ⟨rfl, hb5⟩; (have g0 := keepc hb5 (p := ⟨w.heap.size, 0, none⟩) (u := .int .i64 s) (by (first | (go_simp; done) | (simp [*, World.cell?_alloc_at, World.cell?_alloc_past, World.cell?_alloc_some, World.cell?_setCell_far]; done)))); (have g1 := keepc hb5 (p := ⟨w.heap.size, 1, none⟩) (u := .bool v) (by (first | (go_simp; done) | (simp [*, World.cell?_alloc_at, World.cell?_alloc_past, World.cell?_alloc_some, World.cell?_setCell_far]; done)))); (have g2 := keepc hb5 (p := ⟨w.heap.size, 2, none⟩) (u := .int .i64 k) (by (first | (go_simp; done) | (simp [*, World.cell?_alloc_at, World.cell?_alloc_past, World.cell?_alloc_some, World.cell?_setCell_far]; done)))); (have g3 := keepc hb5 (p := ⟨w.heap.size, 3, none⟩) (u := .int .i64 z) (by (first | (go_simp; done) | (simp [*, World.cell?_alloc_at, World.cell?_alloc_past, World.cell?_alloc_some, World.cell?_setCell_far]; done)))); (have g4 := keepc hb5 (p := ⟨w.heap.size, 4, none⟩) (u := .int .i64 u) (by (first | (go_simp; done) | (simp [*, World.cell?_alloc_at, World.cell?_alloc_past, World.cell?_alloc_some, World.cell?_setCell_far]; done)))); (have g5 := keepc hb5 (p := ⟨w.heap.size, 5, none⟩) (u := .int .i64 t) (by (first | (go_simp; done) | (simp [*, World.cell?_alloc_at, World.cell?_alloc_past, World.cell?_alloc_some, World.cell?_setCell_far]; done)))); (have g6 := keepc hb5 (p := ⟨w.heap.size, 6, none⟩) (u := .slice ca cn cc) (by (first | (go_simp; done) | (simp [*, World.cell?_alloc_at, World.cell?_alloc_past, World.cell?_alloc_some, World.cell?_setCell_far]; done)))); (have g7 := keepc hb5 (p := ⟨w.heap.size, 7, none⟩) (u := .slice ga j gc) (by (first | (go_simp; done) | (simp [*, World.cell?_alloc_at, World.cell?_alloc_past, World.cell?_alloc_some, World.cell?_setCell_far]; done))))))
        have b5 : Below wr.heap.size wr w5 := by (repeat (first | exact Below.refl _ _ | assumption | refine Below.drew ?_ | refine below_drewN ?_ _ | refine belowA ?_ _ | refine belowT ?_ (by assumption) | refine Below.setCell ?_ (by first | (simp; done) | (simp; omega)) _))
        replace hci := hci.below b5 (Nat.le_refl _)
        replace hSw := hSw.below b5
        replace bw := belowT bw b5
        clear b5 hb5 HASK c0 c1 c2 c3 c4 c5 c6 c7
        cases v
        · obtain rfl : (j : Int) = ak := HAK.out
          cases hs : s != (j : Int)
          · have hs' : s = (j : Int) := by simpa using hs
            have HS' : Hid (fm = sc) := hide (by rw [HF.out, if_neg (by simp)]; simp [hs'])
            clear hs'
            go_wp2_with fail
            refine (HSC.out _ hci).mono ?_
            rintro e w9 ⟨rfl, hb9⟩
            cases sc
            · go_wp2
              go_ret
              exact ⟨ret_int (by rw [HQ.out, HS'.out]; rfl), belowT bw hb9⟩
            · go_wp2
              go_ret
              exact ⟨ret_int (by rw [HQ.out, HS'.out]; rfl), belowT bw hb9⟩
          · have HS' : Hid (fm = false) := hide (by rw [HF.out, if_neg (by simp)]; simp at hs; simp [hs])
            go_wp2
            go_ret
            exact ⟨ret_int (by rw [HQ.out, HS'.out]; rfl), bw⟩
        · obtain rfl : gw = ak := HAK.out
          cases hs : decide (s = (j : Int) + 1)
          · have hs2 : (s != gw) = true := by rw [HCMP.out, hs]; rfl
            have HS' : Hid (fm = false) := hide (by rw [HF.out, if_pos rfl]; exact hs)
            clear hs
            go_wp2
            go_ret
            exact ⟨ret_int (by rw [HQ.out, HS'.out]; rfl), bw⟩
          · have hs2 : (s != gw) = false := by rw [HCMP.out, hs]; rfl
            have HS' : Hid (fm = true) := hide (by rw [HF.out, if_pos rfl]; exact hs)
            clear hs
            go_wp2_with fail
            refine (HCC.out _ hSw hci).mono ?_
            rintro e w9 ⟨rfl, hb9⟩
            go_wp2
            go_ret
            exact ⟨ret_int (by rw [HQ.out, HS'.out]; rfl), belowT bw hb9⟩

end Go.Proofs.YtcpfnbbeinpanaaDoor

/- Answers of the call's own in memory; plain mathematics, no condition. -/
namespace Go.Proofs.YtcpfnbbeinpanaaDoor
open Go.RowKit
set_option linter.unusedVariables false
set_option maxRecDepth 100000
set_option linter.unusedSimpArgs false

/-- Answers of the call's own, in block g; their data lies in newer memory. -/
structure MineA (w : World) (g : Nat) (X : List AV) : Prop where
  lay : Lay w g (acells X)
  ok : ∀ x ∈ X, x.ok w
  new : ∀ x ∈ X, x.new (g + 1)
  row : ∃ cur : Array Value, w.heap[g]? = some (.cells cur 30 (0, 0)) ∧ cur.size = X.length * 3
theorem MineA.below {w w' : World} {g : Nat} {X : List AV} (h : MineA w g X) (hb : Below w.heap.size w w') : MineA w' g X :=
  ⟨h.lay.below hb, fun x hx => AV.ok.below (h.ok x hx) hb (Nat.le_refl _), h.new, by obtain ⟨cur, e, k⟩ := h.row; exact ⟨cur, by rw [hb.block g h.lay.lt]; exact e, k⟩⟩
theorem MineA.farB {w : World} {g : Nat} {X : List AV} (h : MineA w g X) (p : Addr) (v : Value) (hp : p.block ≠ g) (ho : ∀ x ∈ X, x.off p.block) : MineA (w.setCell p v) g X :=
  ⟨h.lay.far p v hp, fun x hx => Ints.setOffA (h.ok x hx) p v (ho x hx), h.new, by obtain ⟨cur, e, k⟩ := h.row; exact ⟨cur, by rw [heap_setCell_other _ _ _ _ (fun e => hp e.symm)]; exact e, k⟩⟩
theorem MineA.far1 {w : World} {g : Nat} {X : List AV} (h : MineA w g X) (p : Addr) (v : Value) (hp : p.block < g) : MineA (w.setCell p v) g X :=
  h.farB p v (by omega) (fun x hx => h.new x hx p.block (by omega))
theorem acells_set : ∀ (X : List AV) (i : Nat) (x : AV), i < X.length → (((acells X).set (i * 3) (.int .i64 x.e)).set (i * 3 + 1) (.int .i64 x.t)).set (i * 3 + 2) (.slice x.a x.n x.c) = acells (X.set i x)
  | [], i, x, h => by simp at h
  | y :: X, 0, x, _ => by simp [acells, AV.cells]
  | y :: X, i + 1, x, h => by
    have ih := acells_set X i x (by simpa using h)
    rw [List.set_cons_succ, acells_cons, acells_cons, ← ih]
    simp only [AV.cells, List.cons_append, List.nil_append, show (i + 1) * 3 = i * 3 + 1 + 1 + 1 by omega, show i * 3 + 1 + 1 + 1 + 1 = (i * 3 + 1) + 1 + 1 + 1 by omega, show i * 3 + 1 + 1 + 1 + 2 = (i * 3 + 2) + 1 + 1 + 1 by omega, List.set_cons_succ]
theorem MineA.set {w : World} {g : Nat} {X : List AV} (h : MineA w g X) {i : Nat} (hi : i < X.length) {x : AV} (hx : x.ok w) (hn : x.new (g + 1)) :
    MineA (((w.setCell ⟨g, i * 3, none⟩ (.int .i64 x.e)).setCell ⟨g, i * 3 + 1, none⟩ (.int .i64 x.t)).setCell ⟨g, i * 3 + 2, none⟩ (.slice x.a x.n x.c)) g (X.set i x) := by
  have hb := (((But.refl g w).step (i * 3) (.int .i64 x.e)).step (i * 3 + 1) (.int .i64 x.t)).step (i * 3 + 2) (.slice x.a x.n x.c)
  refine ⟨by rw [← acells_set X i x hi]; exact ((h.lay.set _ _).set _ _).set _ _, fun z hz => ?_, fun z hz => ?_, ?_⟩
  · rcases List.mem_or_eq_of_mem_set hz with hz | rfl
    · exact AV.ok.but (h.ok z hz) hb (h.new z hz g (by omega))
    · exact AV.ok.but hx hb (hn g (by omega))
  · rcases List.mem_or_eq_of_mem_set hz with hz | rfl
    · exact h.new z hz
    · exact hn
  · obtain ⟨cur, e, k⟩ := h.row
    exact ⟨_, heap_setCell_same _ _ _ _ _ _ (heap_setCell_same _ _ _ _ _ _ (heap_setCell_same _ _ _ _ _ _ e)), by simpa using k⟩
/-- Such answers may be appended to. -/
theorem MineA.own {w : World} {g : Nat} {X : List AV} (h : MineA w g X) (hm : X.length ≤ maxLen) : OwnA w g (.slice (some ⟨g, 0, none⟩) X.length X.length) X := by
  obtain ⟨cur, e, k⟩ := h.row
  have hl : cur.toList = acells X := by
    apply List.ext_getElem?
    intro i
    by_cases hi : i < (acells X).length
    · obtain ⟨v, hv⟩ : ∃ v, (acells X)[i]? = some v := ⟨_, List.getElem?_eq_getElem hi⟩
      have := h.lay.cell i v hv
      rw [cell_of_row w g _ _ _ _ e] at this
      rw [hv]
      simpa using this
    · have h1 : (acells X)[i]? = none := List.getElem?_eq_none (by omega)
      have h2 : cur.toList[i]? = none := List.getElem?_eq_none (by rw [Array.length_toList, k]; rw [acells_len] at hi; omega)
      rw [h1, h2]
  refine ⟨⟨by rw [acells_len], .inr ⟨g, X.length, cur, rfl, Nat.le_refl _, e, Nat.le_refl _, hm, k, ?_⟩⟩, h.ok, fun x hx b hb => ?_⟩
  · rw [hl, List.take_of_length_le (by rw [acells_len]; omega)]
  · obtain rfl : g = b := by simpa [Value.ownBlock] using hb
    exact h.new x hx g (by omega)
theorem MineA.answers {w : World} {g : Nat} {X : List AV} (h : MineA w g X) {n : Nat} (hn : X.length = n) (hm : n ≤ 9223372036854775807) : Answers w (some ⟨g, 0, none⟩) n n X := by
  subst hn
  refine ⟨rfl, Nat.le_refl _, hm, fun e => (by cases e), .inr ⟨g, 0, rfl, h.lay.lt, fun i y hy j v hv => ?_⟩, h.ok⟩
  have := h.lay.cell _ _ (acells_get X i y hy j v hv)
  simpa using this
theorem zeros_cells (n : Nat) : ∀ y ∈ List.replicate n (AV.err 0), y = AV.err 0 := fun y hy => List.eq_of_mem_replicate hy
theorem MineA.zeros {w : World} {g n : Nat} (h : Lay w g (acells (List.replicate n (AV.err 0)))) (hr : ∃ cur : Array Value, w.heap[g]? = some (.cells cur 30 (0, 0)) ∧ cur.size = n * 3) : MineA w g (List.replicate n (AV.err 0)) :=
  ⟨h, fun y hy => by rw [zeros_cells n y hy]; exact AV.err_ok w 0, fun y hy => by rw [zeros_cells n y hy]; exact fun R _ => .inl rfl, by rw [List.length_replicate]; exact hr⟩
theorem take_setA {X X' : List AV} {k : Nat} {z u : AV} (hz : X[k]? = some z) (hk : k < X'.length) (h : (X'.take k).map AV.p = (X.take k).map AV.p) (hu : u.p = z.p) : ((X'.set k u).take (k + 1)).map AV.p = (X.take (k + 1)).map AV.p := by
  obtain ⟨g1, g2⟩ := List.getElem?_eq_some_iff.1 hz
  rw [List.take_succ_eq_append_getElem g1, List.take_succ_eq_append_getElem (by simpa using hk), List.map_append, List.map_append, List.take_set_of_le (Nat.le_refl k), h, g2]
  simp [hu]

end Go.Proofs.YtcpfnbbeinpanaaDoor

/- What make lays, of answers; no condition but that they are few. -/
namespace Go.Proofs.YtcpfnbbeinpanaaDoor
open Go.RowKit
set_option linter.unusedVariables false
set_option maxRecDepth 100000
set_option linter.unusedSimpArgs false

theorem acells_zeros (n i : Nat) (h : i < n * 3) : (acells (List.replicate n (AV.err 0)))[i]? = some ((#[.int .i64 0, .int .i64 0, .slice none 0 0] : Array Value)[i % 3]!) := by
  have hk : i / 3 < n := by omega
  have h1 : (List.replicate n (AV.err 0))[i / 3]? = some (AV.err 0) := by rw [List.getElem?_replicate, if_pos hk]
  have hm : i % 3 < 3 := Nat.mod_lt _ (by omega)
  have h2 : ∀ j, j < 3 → (AV.cells (AV.err 0))[j]? = some ((#[.int .i64 0, .int .i64 0, .slice none 0 0] : Array Value)[j]!) := by
    intro j hj
    match j, hj with
    | 0, _ => rfl
    | 1, _ => rfl
    | 2, _ => rfl
  have := acells_get _ _ _ h1 _ _ (h2 (i % 3) hm)
  rwa [show i / 3 * 3 + i % 3 = i by omega] at this
theorem acells_made (n : Nat) : madeCells #[.int .i64 0, .int .i64 0, .slice none 0 0] (n * 3) = (acells (List.replicate n (AV.err 0))).toArray := by
  apply Array.ext_getElem?
  intro i
  have e : (acells (List.replicate n (AV.err 0))).toArray[i]? = (acells (List.replicate n (AV.err 0)))[i]? := by simp
  rw [e]
  by_cases h : i < n * 3
  · rw [acells_zeros n i h]
    simp [madeCells, h]
  · rw [Array.getElem?_eq_none (by rw [size_madeCells]; omega), List.getElem?_eq_none (by rw [acells_len]; simp; omega)]
theorem mka (n : Nat) (hn : n ≤ 1000000) (w : World) : (Instr.makeSlice 25 (.int .i64 (n : Int)) (.int .i64 (n : Int))).run Tryd.prog w = .ok (.slice (some ⟨w.heap.size, 0, none⟩) n n) (w.alloc (.cells (acells (List.replicate n (AV.err 0))).toArray 30)) := by
  obtain ⟨i, hi, hz, hs, hb⟩ := ansInfo
  have hr := run_make (P := Tryd.prog) w 25 30 i _ Tryd.underlying25 hi hz .i64 .i64 (n : Int) (n : Int) (by omega) (Int.le_refl _) (by rw [hb]; omega) (by omega)
  simp only [Int.toNat_natCast, hs] at hr
  rw [hr]
  have e : (Value.agg #[.int .i64 0, .int .i64 0, .slice none 0 0]).cells = #[.int .i64 0, .int .i64 0, .slice none 0 0] := rfl
  rw [e, acells_made]

end Go.Proofs.YtcpfnbbeinpanaaDoor

/- A box of eight cells; plain mathematics, no condition. -/
namespace Go.Proofs.YtcpfnbbeinpanaaDoor
open Go.RowKit
set_option linter.unusedVariables false
set_option maxRecDepth 100000
set_option linter.unusedSimpArgs false

/-- A box of eight cells. -/
theorem Lay.eight {w : World} {B : Nat} {a b c d e f g h : Value} (x : Lay w B [a, b, c, d, e, f, g, h]) : w.cell? ⟨B, 0, none⟩ = some a ∧ w.cell? ⟨B, 1, none⟩ = some b ∧ w.cell? ⟨B, 2, none⟩ = some c ∧ w.cell? ⟨B, 3, none⟩ = some d ∧ w.cell? ⟨B, 4, none⟩ = some e ∧ w.cell? ⟨B, 5, none⟩ = some f ∧ w.cell? ⟨B, 6, none⟩ = some g ∧ w.cell? ⟨B, 7, none⟩ = some h :=
  ⟨x.cell 0 _ rfl, x.cell 1 _ rfl, x.cell 2 _ rfl, x.cell 3 _ rfl, x.cell 4 _ rfl, x.cell 5 _ rfl, x.cell 6 _ rfl, x.cell 7 _ rfl⟩

end Go.Proofs.YtcpfnbbeinpanaaDoor
