/- Answers of the call's own in memory; plain mathematics, no condition. -/
import Derived.Test.YtcpfnbbeinpanaaDoorHandSaysG4
import Derived.Test.YtcpfnbbeinpanaaDoorHandSaysG3
import Derived.Test.YtcpfnbbeinpanaaDoorHandSaysG10
import Derived.Test.YtcpfnbbeinpanaaDoorHandSaysG8
namespace Go.Proofs.YtcpfnbbeinpanaaDoor
open Go.RowKit
set_option linter.unusedVariables false
set_option maxRecDepth 100000
set_option linter.unusedSimpArgs false

/-- Answers of the call's own, in block g; their data lies in newer memory. -/
structure MineA (w : World) (g : Nat) (X : List AV) : Prop where
  lay : Lay w g (acells X)
  ok : ∀ x ∈ X, x.ok w
  new : ∀ x ∈ X, x.new (g + 1)
  row : ∃ cur : Array Value, w.heap[g]? = some (.cells cur 30 (0, 0)) ∧ cur.size = X.length * 3
theorem MineA.below {w w' : World} {g : Nat} {X : List AV} (h : MineA w g X) (hb : Below w.heap.size w w') : MineA w' g X :=
  ⟨h.lay.below hb, fun x hx => AV.ok.below (h.ok x hx) hb (Nat.le_refl _), h.new, by obtain ⟨cur, e, k⟩ := h.row; exact ⟨cur, by rw [hb.block g h.lay.lt]; exact e, k⟩⟩
theorem MineA.farB {w : World} {g : Nat} {X : List AV} (h : MineA w g X) (p : Addr) (v : Value) (hp : p.block ≠ g) (ho : ∀ x ∈ X, x.off p.block) : MineA (w.setCell p v) g X :=
  ⟨h.lay.far p v hp, fun x hx => Ints.setOffA (h.ok x hx) p v (ho x hx), h.new, by obtain ⟨cur, e, k⟩ := h.row; exact ⟨cur, by rw [heap_setCell_other _ _ _ _ (fun e => hp e.symm)]; exact e, k⟩⟩
theorem MineA.far1 {w : World} {g : Nat} {X : List AV} (h : MineA w g X) (p : Addr) (v : Value) (hp : p.block < g) : MineA (w.setCell p v) g X :=
  h.farB p v (by omega) (fun x hx => h.new x hx p.block (by omega))
theorem acells_set : ∀ (X : List AV) (i : Nat) (x : AV), i < X.length → (((acells X).set (i * 3) (.int .i64 x.e)).set (i * 3 + 1) (.int .i64 x.t)).set (i * 3 + 2) (.slice x.a x.n x.c) = acells (X.set i x)
  | [], i, x, h => by simp at h
  | y :: X, 0, x, _ => by simp [acells, AV.cells]
  | y :: X, i + 1, x, h => by
    have ih := acells_set X i x (by simpa using h)
    rw [List.set_cons_succ, acells_cons, acells_cons, ← ih]
    simp only [AV.cells, List.cons_append, List.nil_append, show (i + 1) * 3 = i * 3 + 1 + 1 + 1 by omega, show i * 3 + 1 + 1 + 1 + 1 = (i * 3 + 1) + 1 + 1 + 1 by omega, show i * 3 + 1 + 1 + 1 + 2 = (i * 3 + 2) + 1 + 1 + 1 by omega, List.set_cons_succ]
theorem MineA.set {w : World} {g : Nat} {X : List AV} (h : MineA w g X) {i : Nat} (hi : i < X.length) {x : AV} (hx : x.ok w) (hn : x.new (g + 1)) :
    MineA (((w.setCell ⟨g, i * 3, none⟩ (.int .i64 x.e)).setCell ⟨g, i * 3 + 1, none⟩ (.int .i64 x.t)).setCell ⟨g, i * 3 + 2, none⟩ (.slice x.a x.n x.c)) g (X.set i x) := by
  have hb := (((But.refl g w).step (i * 3) (.int .i64 x.e)).step (i * 3 + 1) (.int .i64 x.t)).step (i * 3 + 2) (.slice x.a x.n x.c)
  refine ⟨by rw [← acells_set X i x hi]; exact ((h.lay.set _ _).set _ _).set _ _, fun z hz => ?_, fun z hz => ?_, ?_⟩
  · rcases List.mem_or_eq_of_mem_set hz with hz | rfl
    · exact AV.ok.but (h.ok z hz) hb (h.new z hz g (by omega))
    · exact AV.ok.but hx hb (hn g (by omega))
  · rcases List.mem_or_eq_of_mem_set hz with hz | rfl
    · exact h.new z hz
    · exact hn
  · obtain ⟨cur, e, k⟩ := h.row
    exact ⟨_, heap_setCell_same _ _ _ _ _ _ (heap_setCell_same _ _ _ _ _ _ (heap_setCell_same _ _ _ _ _ _ e)), by simpa using k⟩
/-- Such answers may be appended to. -/
theorem MineA.own {w : World} {g : Nat} {X : List AV} (h : MineA w g X) (hm : X.length ≤ maxLen) : OwnA w g (.slice (some ⟨g, 0, none⟩) X.length X.length) X := by
  obtain ⟨cur, e, k⟩ := h.row
  have hl : cur.toList = acells X := by
    apply List.ext_getElem?
    intro i
    by_cases hi : i < (acells X).length
    · obtain ⟨v, hv⟩ : ∃ v, (acells X)[i]? = some v := ⟨_, List.getElem?_eq_getElem hi⟩
      have := h.lay.cell i v hv
      rw [cell_of_row w g _ _ _ _ e] at this
      rw [hv]
      simpa using this
    · have h1 : (acells X)[i]? = none := List.getElem?_eq_none (by omega)
      have h2 : cur.toList[i]? = none := List.getElem?_eq_none (by rw [Array.length_toList, k]; rw [acells_len] at hi; omega)
      rw [h1, h2]
  refine ⟨⟨by rw [acells_len], .inr ⟨g, X.length, cur, rfl, Nat.le_refl _, e, Nat.le_refl _, hm, k, ?_⟩⟩, h.ok, fun x hx b hb => ?_⟩
  · rw [hl, List.take_of_length_le (by rw [acells_len]; omega)]
  · obtain rfl : g = b := by simpa [Value.ownBlock] using hb
    exact h.new x hx g (by omega)
theorem MineA.answers {w : World} {g : Nat} {X : List AV} (h : MineA w g X) {n : Nat} (hn : X.length = n) (hm : n ≤ 9223372036854775807) : Answers w (some ⟨g, 0, none⟩) n n X := by
  subst hn
  refine ⟨rfl, Nat.le_refl _, hm, fun e => (by cases e), .inr ⟨g, 0, rfl, h.lay.lt, fun i y hy j v hv => ?_⟩, h.ok⟩
  have := h.lay.cell _ _ (acells_get X i y hy j v hv)
  simpa using this
theorem zeros_cells (n : Nat) : ∀ y ∈ List.replicate n (AV.err 0), y = AV.err 0 := fun y hy => List.eq_of_mem_replicate hy
theorem MineA.zeros {w : World} {g n : Nat} (h : Lay w g (acells (List.replicate n (AV.err 0)))) (hr : ∃ cur : Array Value, w.heap[g]? = some (.cells cur 30 (0, 0)) ∧ cur.size = n * 3) : MineA w g (List.replicate n (AV.err 0)) :=
  ⟨h, fun y hy => by rw [zeros_cells n y hy]; exact AV.err_ok w 0, fun y hy => by rw [zeros_cells n y hy]; exact fun R _ => .inl rfl, by rw [List.length_replicate]; exact hr⟩
theorem take_setA {X X' : List AV} {k : Nat} {z u : AV} (hz : X[k]? = some z) (hk : k < X'.length) (h : (X'.take k).map AV.p = (X.take k).map AV.p) (hu : u.p = z.p) : ((X'.set k u).take (k + 1)).map AV.p = (X.take (k + 1)).map AV.p := by
  obtain ⟨g1, g2⟩ := List.getElem?_eq_some_iff.1 hz
  rw [List.take_succ_eq_append_getElem g1, List.take_succ_eq_append_getElem (by simpa using hk), List.map_append, List.map_append, List.take_set_of_le (Nat.le_refl k), h, g2]
  simp [hu]

end Go.Proofs.YtcpfnbbeinpanaaDoor

/- What make lays, of answers; no condition but that they are few. -/
namespace Go.Proofs.YtcpfnbbeinpanaaDoor
open Go.RowKit
set_option linter.unusedVariables false
set_option maxRecDepth 100000
set_option linter.unusedSimpArgs false

theorem acells_zeros (n i : Nat) (h : i < n * 3) : (acells (List.replicate n (AV.err 0)))[i]? = some ((#[.int .i64 0, .int .i64 0, .slice none 0 0] : Array Value)[i % 3]!) := by
  have hk : i / 3 < n := by omega
  have h1 : (List.replicate n (AV.err 0))[i / 3]? = some (AV.err 0) := by rw [List.getElem?_replicate, if_pos hk]
  have hm : i % 3 < 3 := Nat.mod_lt _ (by omega)
  have h2 : ∀ j, j < 3 → (AV.cells (AV.err 0))[j]? = some ((#[.int .i64 0, .int .i64 0, .slice none 0 0] : Array Value)[j]!) := by
    intro j hj
    match j, hj with
    | 0, _ => rfl
    | 1, _ => rfl
    | 2, _ => rfl
  have := acells_get _ _ _ h1 _ _ (h2 (i % 3) hm)
  rwa [show i / 3 * 3 + i % 3 = i by omega] at this
theorem acells_made (n : Nat) : madeCells #[.int .i64 0, .int .i64 0, .slice none 0 0] (n * 3) = (acells (List.replicate n (AV.err 0))).toArray := by
  apply Array.ext_getElem?
  intro i
  have e : (acells (List.replicate n (AV.err 0))).toArray[i]? = (acells (List.replicate n (AV.err 0)))[i]? := by simp
  rw [e]
  by_cases h : i < n * 3
  · rw [acells_zeros n i h]
    simp [madeCells, h]
  · rw [Array.getElem?_eq_none (by rw [size_madeCells]; omega), List.getElem?_eq_none (by rw [acells_len]; simp; omega)]
theorem mka (n : Nat) (hn : n ≤ 1000000) (w : World) : (Instr.makeSlice 25 (.int .i64 (n : Int)) (.int .i64 (n : Int))).run Tryd.prog w = .ok (.slice (some ⟨w.heap.size, 0, none⟩) n n) (w.alloc (.cells (acells (List.replicate n (AV.err 0))).toArray 30)) := by
  obtain ⟨i, hi, hz, hs, hb⟩ := ansInfo
  have hr := run_make (P := Tryd.prog) w 25 30 i _ Tryd.underlying25 hi hz .i64 .i64 (n : Int) (n : Int) (by omega) (Int.le_refl _) (by rw [hb]; omega) (by omega)
  simp only [Int.toNat_natCast, hs] at hr
  rw [hr]
  have e : (Value.agg #[.int .i64 0, .int .i64 0, .slice none 0 0]).cells = #[.int .i64 0, .int .i64 0, .slice none 0 0] := rfl
  rw [e, acells_made]

end Go.Proofs.YtcpfnbbeinpanaaDoor

/- A box of eight cells; plain mathematics, no condition. -/
namespace Go.Proofs.YtcpfnbbeinpanaaDoor
open Go.RowKit
set_option linter.unusedVariables false
set_option maxRecDepth 100000
set_option linter.unusedSimpArgs false

/-- A box of eight cells. -/
theorem Lay.eight {w : World} {B : Nat} {a b c d e f g h : Value} (x : Lay w B [a, b, c, d, e, f, g, h]) : w.cell? ⟨B, 0, none⟩ = some a ∧ w.cell? ⟨B, 1, none⟩ = some b ∧ w.cell? ⟨B, 2, none⟩ = some c ∧ w.cell? ⟨B, 3, none⟩ = some d ∧ w.cell? ⟨B, 4, none⟩ = some e ∧ w.cell? ⟨B, 5, none⟩ = some f ∧ w.cell? ⟨B, 6, none⟩ = some g ∧ w.cell? ⟨B, 7, none⟩ = some h :=
  ⟨x.cell 0 _ rfl, x.cell 1 _ rfl, x.cell 2 _ rfl, x.cell 3 _ rfl, x.cell 4 _ rfl, x.cell 5 _ rfl, x.cell 6 _ rfl, x.cell 7 _ rfl⟩

end Go.Proofs.YtcpfnbbeinpanaaDoor

/- The contract of hand's whole copy; no condition but that the hand is a right one. -/
namespace Go.Proofs.YtcpfnbbeinpanaaDoor
open Go.RowKit
set_option linter.unusedVariables false
set_option maxRecDepth 100000
set_option linter.unusedSimpArgs false

/-- What a right hand holds is small. -/
theorem hand_small {h : NV} {w : World} (hk : h.ok w) (hc : checkN h.p = 0) : h.cn ≤ 8 ∧ h.gn ≤ 40 ∧ ∀ x ∈ h.G, x.n ≤ 8 := by
  obtain ⟨h1, h2, h3, h4⟩ := checkN_ok hc
  have hl := hk.g.len
  have hcl := hk.c.len
  have e1 : h.p.s = h.s := rfl
  have e2 : h.p.g.length = h.gn := by simp [NV.p, hl]
  refine ⟨?_, ?_, fun x hx => ?_⟩
  · cases hw : h.w with
    | true =>
      have := (cmd_facts (h4 hw)).2.2.2.2.1
      rw [← hcl]
      exact this
    | false =>
      have hw' : h.p.w = false := hw
      simp only [formN, hw', Bool.false_eq_true, if_false, Bool.and_eq_true] at h3
      have : h.c = zeroC := (sameC_iff _ _).1 h3.2
      rw [← hcl, this]
      simp [zeroC]
  · unfold formN at h3
    rw [e1] at h1
    split at h3
    · simp only [decide_eq_true_eq] at h3; rw [e1, e2] at h3; omega
    · simp only [Bool.and_eq_true, decide_eq_true_eq] at h3; rw [e1, e2] at h3; omega
  · have := checkA_few (firstA_all h2 x.p (by simp only [NV.p]; exact List.mem_map.2 ⟨x, hx, rfl⟩))
    have e := (hk.g.ok x hx).len
    rw [← e]
    exact this

set_option maxRecDepth 100000 in
set_option maxHeartbeats 12000000 in
theorem jwhole_c (h : NV) (w : World) (hk : h.ok w) (hc : checkN h.p = 0) :
    Calls Tryd.prog 20 #[h.v] w fun e w' => (∃ q g X', e = .returned (NV.v ⟨h.s, h.w, h.c, some ⟨q, 0, none⟩, h.cn, h.cn, some ⟨g, 0, none⟩, h.gn, h.gn, X'⟩) ∧ Ints w' (some ⟨q, 0, none⟩) h.cn h.cn h.c.d ∧ w.heap.size ≤ q ∧ q < g ∧ MineA w' g X' ∧ X'.length = h.gn ∧ X'.map AV.p = h.G.map AV.p) ∧ Below w.heap.size w w' := by
  obtain ⟨hcn, hgn, hxs⟩ := hand_small hk hc
  clear hc
  have hmk := mka h.gn (by omega)
  have HL0 : Hid (∀ w' : World, Lay (w'.alloc (.cells (acells (List.replicate h.gn (AV.err 0))).toArray 30)) w'.heap.size (acells (List.replicate h.gn (AV.err 0)))) := hide fun w' => Lay.made w' _ _
  have HR0 : Hid (∀ w' : World, ∃ cur : Array Value, (w'.alloc (.cells (acells (List.replicate h.gn (AV.err 0))).toArray 30)).heap[w'.heap.size]? = some (.cells cur 30 (0, 0)) ∧ cur.size = h.gn * 3) := hide fun w' => ⟨_, heap_new w' _, by simp [acells_len]⟩
  generalize (acells (List.replicate h.gn (AV.err 0))).toArray = xs at *
  obtain ⟨x0, x1, x2, bw⟩ := three_boxes w h.cells NV.zero.cells h.cells 27 27 27
  have hok := hk.below bw (Nat.le_refl _)
  have HGL := hide hk.g.len
  rw [show h.v = .agg h.cells.toArray from rfl] at *
  obtain ⟨s, v, ⟨k, z, u, t, d⟩, ca, cn, cc, ga, gn, gc, G⟩ := h
  dsimp only [NV.cells, NV.zero, zeroC] at *
  go_enter Tryd.func20, Tryd.ntmps20
  go_upto_region 2 with fail
  generalize ((w.alloc (.cells [.int .i64 s, .bool v, .int .i64 k, .int .i64 z, .int .i64 u, .int .i64 t, .slice ca cn cc, .slice ga gn gc].toArray 27)).alloc (.cells [.int .i64 0, .bool false, .int .i64 0, .int .i64 0, .int .i64 0, .int .i64 0, .slice none 0 0, .slice none 0 0].toArray 27)).alloc (.cells [.int .i64 s, .bool v, .int .i64 k, .int .i64 z, .int .i64 u, .int .i64 t, .slice ca cn cc, .slice ga gn gc].toArray 27) = w1 at *
  obtain ⟨c0, c1, c2, c3, c4, c5, c6, c7⟩ := x0.eight
  go_wp2_with fail
  refine (jwholeC_c ca cn cc ⟨k, z, u, t, d⟩ _ hok.c (by omega)).mono ?_
  rintro e w2 ⟨⟨q, rfl, iq, hq, hq2⟩, hb2⟩
  have hqw : w.heap.size + 1 + 1 < q := by have := x2.lt; omega
  clear c0 c1 c2 c3 c4 c5 c6 c7 hq
  dsimp only [cmdV] at *
  replace x0 := x0.below hb2
  replace x1 := x1.below hb2
  replace x2 := x2.below hb2
  replace hok := hok.below hb2 (Nat.le_refl _)
  replace bw := belowT bw hb2
  clear hb2
  obtain ⟨e0, e1, e2, e3, e4, e5, e6, e7⟩ := x2.eight
  have f0 := x2.ice 0
  have f1 := x2.ice 1
  have f2 := x2.ice 2
  have f3 := x2.ice 3
  have f4 := x2.ice 4
  have f5 := x2.ice 5
  have f6 := x2.ice 6
  have f7 := x2.ice 7
  go_upto_region 3 with fail
  have hbut := (((((ButI.refl (w.heap.size + 1 + 1) w2).step 2 (.int .i64 k)).step 3 (.int .i64 z)).step 4 (.int .i64 u)).step 5 (.int .i64 t)).step 6 (.slice (some ⟨q, 0, none⟩) cn cn)
  have y2 : Lay _ _ [.int .i64 s, .bool v, .int .i64 k, .int .i64 z, .int .i64 u, .int .i64 t, .slice (some ⟨q, 0, none⟩) cn cn, .slice ga gn gc] := ((((x2.set 2 (.int .i64 k)).set 3 (.int .i64 z)).set 4 (.int .i64 u)).set 5 (.int .i64 t)).set 6 (.slice (some ⟨q, 0, none⟩) cn cn)
  replace x0 := x0.butI hbut (by omega)
  replace x1 := x1.butI hbut (by omega)
  have hgo : ∀ R, w.heap.size ≤ R → NV.off R ⟨s, v, ⟨k, z, u, t, d⟩, ca, cn, cc, ga, gn, gc, G⟩ := fun R hR => hk.off hR
  replace hok := hok.but hbut.but (hgo _ (by omega))
  replace iq := iq.but hbut.but (.inr fun x e => by cases e; simp; omega)
  replace bw := bw.trans (hbut.below (B := w.heap.size) (by omega))
  have hsz := hbut.but.size
  clear x2 e0 e1 e2 e3 e4 e5 e6 e7 f0 f1 f2 f3 f4 f5 f6 f7 hbut
  generalize ((((w2.setCell ⟨w.heap.size + 1 + 1, 2, none⟩ (.int .i64 k)).setCell ⟨w.heap.size + 1 + 1, 3, none⟩ (.int .i64 z)).setCell ⟨w.heap.size + 1 + 1, 4, none⟩ (.int .i64 u)).setCell ⟨w.heap.size + 1 + 1, 5, none⟩ (.int .i64 t)).setCell ⟨w.heap.size + 1 + 1, 6, none⟩ (.slice (some ⟨q, 0, none⟩) cn cn) = w3 at *
  have hqs : q < w3.heap.size := by omega
  have h7 := x0.cell 7 _ rfl
  have h7' := past1 h7
  have n7 := past1 (y2.cell 7 _ rfl)
  have m7 := pastf1 (y2.cell 7 _ rfl) (y2.ice 7)
  go_wp2
  have hgB : w.heap.size + 1 + 1 < w3.heap.size := y2.lt
  have hL := HL0.out w3
  have hR := HR0.out w3
  have hb7 := belowA (Below.refl _ w3) (.cells xs 30)
  replace x1 := x1.below hb7
  replace y2 := y2.below hb7
  replace hok := hok.below hb7 (Nat.le_refl _)
  replace iq := iq.below hb7 (Nat.le_refl _)
  have bw7 := belowT bw hb7
  have hqg : q < w3.heap.size := hqs
  generalize hgg : w3.heap.size = g at *
  generalize w3.alloc (.cells xs 30) = w4 at *
  clear h7 h7' n7 m7 hb7 bw x0 hmk
  have c2 := (ButI.refl (w.heap.size + 1 + 1) w4).step 7 (.slice (some ⟨g, 0, none⟩) gn gn)
  replace hok := hok.but c2.but (hgo _ (by omega))
  replace iq := iq.but c2.but (.inr fun x e => by cases e; simp; omega)
  replace x1 := x1.butI c2 (by omega)
  have x2 : Lay _ _ [.int .i64 s, .bool v, .int .i64 k, .int .i64 z, .int .i64 u, .int .i64 t, .slice (some ⟨q, 0, none⟩) cn cn, .slice (some ⟨g, 0, none⟩) gn gn] := y2.set 7 (.slice (some ⟨g, 0, none⟩) gn gn)
  replace hL := hL.butI c2 (by omega)
  have bw8 := bw7.trans (c2.below (B := w.heap.size) (by omega))
  have hM : MineA (w4.setCell ⟨w.heap.size + 1 + 1, 7, none⟩ (.slice (some ⟨g, 0, none⟩) gn gn)) g (List.replicate gn (AV.err 0)) := MineA.zeros hL (by obtain ⟨cur, e, k⟩ := hR; exact ⟨cur, by rw [heap_setCell_other _ _ _ _ (by simp; omega)]; exact e, k⟩)
  generalize w4.setCell ⟨w.heap.size + 1 + 1, 7, none⟩ (.slice (some ⟨g, 0, none⟩) gn gn) = w5 at *
  clear c2 hL hR bw7 HL0 HR0 y2
  have hGl : G.length = gn := HGL.out
  have hle0 := hok.g.le
  have hmax0 := hok.g.max
  have h5 := hok
  have HB5 := hide (Below.refl w5.heap.size w5)
  clear hok
  have hg5 := hM.lay.lt
  go_loopw [19] (fun i wr => ∃ wz : World, wz = wr ∧ ∃ (j : Nat) (X' : List AV), j ≤ gn ∧ i = .int .i64 (j : Nat) ∧ MineA wz g X' ∧ X'.length = gn ∧ (X'.take j).map AV.p = (G.take j).map AV.p ∧ Lay wz (w.heap.size + 1) [.int .i64 0, .bool false, .int .i64 0, .int .i64 0, .int .i64 0, .int .i64 0, .slice none 0 0, .slice none 0 0] ∧ Lay wz (w.heap.size + 1 + 1) [.int .i64 s, .bool v, .int .i64 k, .int .i64 z, .int .i64 u, .int .i64 t, .slice (some ⟨q, 0, none⟩) cn cn, .slice (some ⟨g, 0, none⟩) gn gn] ∧ NV.ok wz ⟨s, v, ⟨k, z, u, t, d⟩, ca, cn, cc, ga, gn, gc, G⟩ ∧ Ints wz (some ⟨q, 0, none⟩) cn cn d ∧ Below w.heap.size w wz) (fun i _ => gn - (intOf i).toNat)
  case atStart => exact ⟨_, rfl, 0, _, by omega, rfl, hM, by simp, by simp, x1, x2, h5, iq, bw8⟩
  case round =>
    clear x1 x2 bw8 hM h5 iq HB5
    obtain ⟨wr, rfl, j, X', hj, rfl, hm, hl, hp, x1, x2, hok, iq, hbr⟩ := hrel
    have HP := hide hp
    have HXL := hide hl
    clear hp hl
    by_cases hlt : j < gn
    · obtain ⟨lb, lo, y, rfl, hy, hyk, hlb, ky⟩ := hok.g.at hlt
      obtain ⟨ub, hu⟩ : ∃ z, X'[j]? = some z := ⟨X'[j]'(by rw [HXL.out]; exact hlt), by simp⟩
      have hy8 := hxs y (List.mem_of_getElem? hy)
      have HY := hide hy
      have hW := fun (w' : World) (h' : y.ok w') => jwholeA_c y w' h' (by omega)
      obtain ⟨ye, yt, ya, yn, yc, yl⟩ := y
      have iy' : Ints wr ya yn yc yl := hyk
      dsimp only [AV.v, AV.cells] at hW ky hy8
      have HW := hide hW
      clear hW hyk
      have c0 := ky 0 _ rfl
      have c1 := ky 1 _ rfl
      have c2 := ky 2 _ rfl
      rw [Nat.add_zero] at c0
      have y0 := hm.lay.cell _ _ (acells_get X' j ub hu 0 _ rfl)
      have y1 := hm.lay.cell _ _ (acells_get X' j ub hu 1 _ rfl)
      have y2 := hm.lay.cell _ _ (acells_get X' j ub hu 2 _ rfl)
      rw [Nat.add_zero] at y0
      have s0 := hm.lay.ice (j * 3)
      have s1 := hm.lay.ice (j * 3 + 1)
      have s2 := hm.lay.ice (j * 3 + 2)
      have hgl := hm.lay.lt
      have n0 := past1 (x2.cell 7 _ rfl)
      have hlt' : (j : Int) < (gn : Int) := by omega
      have y0' := past1 y0
      have y1' := past1 y1
      have y2' := past1 y2
      have s0' := pastf1 y0 s0
      have s1' := pastf1 y1 s1
      have s2' := pastf1 y2 s2
      clear hy hu ky
      go_upto_region 7 with fail
      go_region_held3 (fun w' => w'.cell? ⟨w.heap.size + 1 + 1, 7, none⟩ = some (.slice (some ⟨g, 0, none⟩) gn gn) ∧ w'.cell? ⟨wr.heap.size, 0, none⟩ = some (.int .i64 ye) ∧ w'.cell? ⟨wr.heap.size, 1, none⟩ = some (.int .i64 yt) ∧ w'.cell? ⟨wr.heap.size, 2, none⟩ = some (.slice ya yn yc)) ((first | (go_simp; done) | (simp [*, World.cell?_alloc_at, World.cell?_alloc_past, World.cell?_alloc_some, World.cell?_setCell_far]; done))) (first | (go_at_call 23; refine (HW.out _ (by refine Ints.below iy' (B := wr.heap.size) ?_ (Nat.le_refl _); (repeat (first | exact Below.refl _ _ | assumption | refine Below.drew ?_ | refine below_drewN ?_ _ | refine belowA ?_ _ | refine belowT ?_ (by assumption) | refine Below.setCell ?_ (by first | (simp; done) | (simp; omega)) _)))).mono ?_; rintro e w1' ⟨⟨q', rfl, i1, hq', hq2⟩, hb1⟩; (have v0 := keepc hb1 (p := ⟨w.heap.size + 1 + 1, 7, none⟩) (u := .slice (some ⟨g, 0, none⟩) gn gn) (by (first | (go_simp; done) | (simp [*, World.cell?_alloc_at, World.cell?_alloc_past, World.cell?_alloc_some, World.cell?_setCell_far]; done)))); (have v1 := keepc hb1 (p := ⟨wr.heap.size, 0, none⟩) (u := .int .i64 ye) (by (first | (go_simp; done) | (simp [*, World.cell?_alloc_at, World.cell?_alloc_past, World.cell?_alloc_some, World.cell?_setCell_far]; done)))); (have v2 := keepc hb1 (p := ⟨wr.heap.size, 1, none⟩) (u := .int .i64 yt) (by (first | (go_simp; done) | (simp [*, World.cell?_alloc_at, World.cell?_alloc_past, World.cell?_alloc_some, World.cell?_setCell_far]; done)))); (have v3 := keepc hb1 (p := ⟨wr.heap.size, 2, none⟩) (u := .slice ya yn yc) (by (first | (go_simp; done) | (simp [*, World.cell?_alloc_at, World.cell?_alloc_past, World.cell?_alloc_some, World.cell?_setCell_far]; done)))); (have u0 := keepc hb1 (p := ⟨g, j * 3, none⟩) (u := .int .i64 ub.e) (by (first | (go_simp; done) | (simp [*, World.cell?_alloc_at, World.cell?_alloc_past, World.cell?_alloc_some, World.cell?_setCell_far]; done)))); (have u3 := keepf hb1 (p := ⟨g, j * 3, none⟩) (u := .int .i64 ub.e) (by (first | (go_simp; done) | (simp [*, World.cell?_alloc_at, World.cell?_alloc_past, World.cell?_alloc_some, World.cell?_setCell_far]; done))) (b := false) (by go_simp)); (have u1 := keepc hb1 (p := ⟨g, j * 3 + 1, none⟩) (u := .int .i64 ub.t) (by (first | (go_simp; done) | (simp [*, World.cell?_alloc_at, World.cell?_alloc_past, World.cell?_alloc_some, World.cell?_setCell_far]; done)))); (have u4 := keepf hb1 (p := ⟨g, j * 3 + 1, none⟩) (u := .int .i64 ub.t) (by (first | (go_simp; done) | (simp [*, World.cell?_alloc_at, World.cell?_alloc_past, World.cell?_alloc_some, World.cell?_setCell_far]; done))) (b := false) (by go_simp)); (have u2 := keepc hb1 (p := ⟨g, j * 3 + 2, none⟩) (u := .slice ub.a ub.n ub.c) (by (first | (go_simp; done) | (simp [*, World.cell?_alloc_at, World.cell?_alloc_past, World.cell?_alloc_some, World.cell?_setCell_far]; done)))); (have u5 := keepf hb1 (p := ⟨g, j * 3 + 2, none⟩) (u := .slice ub.a ub.n ub.c) (by (first | (go_simp; done) | (simp [*, World.cell?_alloc_at, World.cell?_alloc_past, World.cell?_alloc_some, World.cell?_setCell_far]; done))) (b := false) (by go_simp))))
      have br1 : Below wr.heap.size wr w1' := by (repeat (first | exact Below.refl _ _ | assumption | refine Below.drew ?_ | refine below_drewN ?_ _ | refine belowA ?_ _ | refine belowT ?_ (by assumption) | refine Below.setCell ?_ (by first | (simp; done) | (simp; omega)) _))
      have hs1 := hb1.size
      simp at hq' hs1
      replace hm := hm.below br1
      replace x1 := x1.below br1
      replace x2 := x2.below br1
      replace hok := hok.below br1 (Nat.le_refl _)
      replace iq := iq.below br1 (Nat.le_refl _)
      have bw1 := belowT hbr br1
      have hset := hm.set (i := j) (by rw [HXL.out]; exact hlt) (x := ⟨ye, yt, some ⟨q', 0, none⟩, yn, yn, yl⟩) i1 (fun R hR => .inr fun x e => by cases e; simp; omega)
      have bset := (((ButI.refl g w1').step (j * 3) (.int .i64 ye)).step (j * 3 + 1) (.int .i64 yt)).step (j * 3 + 2) (.slice (some ⟨q', 0, none⟩) yn yn)
      have f1 := x1.butI bset (by omega)
      have f2 := x2.butI bset (by omega)
      have fok := hok.but bset.but (hgo _ (by omega))
      have fiq := iq.but bset.but (.inr fun x e => by cases e; simp; omega)
      clear hb1 v0 v1 v2 v3 n0 y0 y1 y2 y0' y1' y2' s0 s1 s2 s0' s1' s2' c0 c1 c2
      go_wp2
      exact ⟨⟨_, rfl, j + 1, _, by omega, by go_num, hset, by simp [HXL.out], take_setA HY.out (by rw [HXL.out]; exact hlt) HP.out rfl, f1, f2, fok, fiq, bw1.trans (bset.below (B := w.heap.size) (by omega))⟩, by simp [intOf]; omega⟩
    · obtain rfl : j = gn := by omega
      have hp := HP.out
      rw [List.take_of_length_le (by rw [HXL.out]; omega), List.take_of_length_le (by omega)] at hp
      have HE := hide hp
      clear hp HP
      obtain ⟨e0, e1, e2, e3, e4, e5, e6, e7⟩ := x1.eight
      have f0 := x1.ice 0
      have f1 := x1.ice 1
      have f2 := x1.ice 2
      have f3 := x1.ice 3
      have f4 := x1.ice 4
      have f5 := x1.ice 5
      have f6 := x1.ice 6
      have f7 := x1.ice 7
      obtain ⟨a0, a1, a2, a3, a4, a5, a6, a7⟩ := x2.eight
      go_wp2
      have zB := ((((((((x1.set 0 (.int .i64 s)).set 1 (.bool v)).set 2 (.int .i64 k)).set 3 (.int .i64 z)).set 4 (.int .i64 u)).set 5 (.int .i64 t)).set 6 (.slice (some ⟨q, 0, none⟩) cn cn)).set 7 (.slice (some ⟨g, 0, none⟩) j j))
      have hbut := (((((((((ButI.refl (w.heap.size + 1) wr).step 0 (.int .i64 s)).step 1 (.bool v)).step 2 (.int .i64 k)).step 3 (.int .i64 z)).step 4 (.int .i64 u)).step 5 (.int .i64 t)).step 6 (.slice (some ⟨q, 0, none⟩) cn cn)).step 7 (.slice (some ⟨g, 0, none⟩) j j))
      have hm9 := (((((((hm.far1 ⟨w.heap.size + 1, 0, none⟩ (.int .i64 s) (by simp; omega)).far1 ⟨w.heap.size + 1, 1, none⟩ (.bool v) (by simp; omega)).far1 ⟨w.heap.size + 1, 2, none⟩ (.int .i64 k) (by simp; omega)).far1 ⟨w.heap.size + 1, 3, none⟩ (.int .i64 z) (by simp; omega)).far1 ⟨w.heap.size + 1, 4, none⟩ (.int .i64 u) (by simp; omega)).far1 ⟨w.heap.size + 1, 5, none⟩ (.int .i64 t) (by simp; omega)).far1 ⟨w.heap.size + 1, 6, none⟩ (.slice (some ⟨q, 0, none⟩) cn cn) (by simp; omega)).far1 ⟨w.heap.size + 1, 7, none⟩ (.slice (some ⟨g, 0, none⟩) j j) (by simp; omega)
      generalize ((((((((wr.setCell ⟨w.heap.size + 1, 0, none⟩ (.int .i64 s)).setCell ⟨w.heap.size + 1, 1, none⟩ (.bool v)).setCell ⟨w.heap.size + 1, 2, none⟩ (.int .i64 k)).setCell ⟨w.heap.size + 1, 3, none⟩ (.int .i64 z)).setCell ⟨w.heap.size + 1, 4, none⟩ (.int .i64 u)).setCell ⟨w.heap.size + 1, 5, none⟩ (.int .i64 t)).setCell ⟨w.heap.size + 1, 6, none⟩ (.slice (some ⟨q, 0, none⟩) cn cn)).setCell ⟨w.heap.size + 1, 7, none⟩ (.slice (some ⟨g, 0, none⟩) j j)) = w9 at *
      obtain ⟨r0, r1, r2, r3, r4, r5, r6, r7⟩ := zB.eight
      exact bodyPost_ret (v := .agg #[.int .i64 s, .bool v, .int .i64 k, .int .i64 z, .int .i64 u, .int .i64 t, .slice (some ⟨q, 0, none⟩) cn cn, .slice (some ⟨g, 0, none⟩) j j]) (by simp [results, Tryd.results20, go_sem, r0, r1, r2, r3, r4, r5, r6, r7]) rfl
        ⟨⟨q, g, X', rfl, iq.but hbut.but (.inr fun x e => by cases e; simp; omega), by omega, by omega, hm9, HXL.out, HE.out⟩, hbr.trans (hbut.below (B := w.heap.size) (by omega))⟩

end Go.Proofs.YtcpfnbbeinpanaaDoor
