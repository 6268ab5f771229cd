/- The law's own closure that puts records on a disk; no condition but that the records are read, what the disk holds, and that the package-level variables are as their texts lay them. -/
import Derived.Test.YtcbgkjmcdjpgcaaDoorDiskKeepsG15
import Derived.Test.YtcbgkjmcdjpgcaaDoorDiskKeepsG7
import Derived.Test.YtcbgkjmcdjpgcaaDoorDiskKeepsG9
import Derived.Lib.AppendZeros
namespace Go.Proofs.YtcbgkjmcdjpgcaaDoor
open Go.RowKit
set_option linter.unusedVariables false
set_option maxRecDepth 100000
set_option linter.unusedSimpArgs false

theorem Lay.grown {w w' : World} {B : Nat} {vs : List Value} {row : Option Nat} (h : Lay w B vs) (hg : w.grownBy w' row) (hne : some B ≠ row) : Lay w' B vs :=
  ⟨fun i v hv => hg.cell (h.cell i v hv) hne, fun i => by rw [hg.frozen_far ⟨B, i, none⟩ h.lt hne]; exact h.ice i, Nat.lt_of_lt_of_le h.lt hg.size⟩
theorem Byts.grown {w w' : World} {row : Option Nat} {a : Option Addr} {n c : Nat} {l : List UInt8} (h : Byts w a n c l) (hg : w.grownBy w' row) (hne : ∀ x, a = some x → some x.block ≠ row) : Byts w' a n c l := by
  refine ⟨Cel.len h, Cel.le h, Cel.max h, Cel.nil h, ?_⟩
  rcases Cel.row h with h0 | ⟨b, off, ha, hlt, hc⟩
  · exact .inl h0
  · exact .inr ⟨b, off, ha, Nat.lt_of_lt_of_le hlt hg.size, fun i v hv => hg.cell (hc i v hv) (by have := hne _ ha; exact this)⟩
theorem Ints.setOff {w : World} {a : Option Addr} {n c : Nat} {l : List Int} (h : Ints w a n c l) (p : Addr) (v : Value) (hne : n = 0 ∨ ∀ x, a = some x → x.block ≠ p.block) : Ints (w.setCell p v) a n c l := by
  rcases hne with h0 | hne
  · exact ⟨h.len, h.le, h.max, h.nil, .inl h0, h.wf⟩
  · exact h.setCell p v hne
theorem OwnR.far {w : World} {base : Nat} {v : Value} {X : List RV} (h : OwnR w base v X) (p : Addr) (u : Value) (hp : p.block < base) (hX : ∀ x ∈ X, x.off p.block) : OwnR (w.setCell p u) base v X :=
  ⟨ownsRow_setCell_below h.own hp u, fun x hx => Ints.setOff (h.ok x hx) p u (hX x hx), h.off⟩
theorem ButI.on {D : Nat} {w a b : World} (h : ButI D w a) (k : Below w.heap.size a b) (hD : D ≤ w.heap.size) : ButI D w b :=
  ⟨⟨h.but.low.trans (k.mono hD), Nat.le_trans h.but.size k.size, fun q hq hne => by rw [k.cell hq, h.but.cell q hq hne]⟩, fun q hq => by rw [k.frozen hq, h.ice q hq]⟩

theorem textL_small {A B : List PR} (hA : ∀ r ∈ A, checkR r = 0) (hB : ∀ r ∈ B, checkR r = 0) (h : A.length + B.length ≤ 80) : (textL A).length ≤ 60000 ∧ (textL B).length ≤ 60000 := by
  have h1 := textL_len A hA
  have h2 := textL_len B hB
  omega
theorem all_snoc {B : List PR} {r : PR} (hB : ∀ x ∈ B, checkR x = 0) (hr : checkR r = 0) : ∀ x ∈ B ++ [r], checkR x = 0 := fun x hx => by
  rcases List.mem_append.1 hx with hx | hx
  · exact hB x hx
  · obtain rfl : x = r := by simpa using hx
    exact hr

set_option maxRecDepth 100000 in
set_option maxHeartbeats 4000000 in
theorem put_c (la : Option Addr) (ln lc : Nat) (L : List RV) (D : Nat) (k : KV) (A B : List PR) (w0 w : World) (hE : Env w0) (hL : Recs w0 la ln lc L) (hb0 : Below w0.heap.size w0 w) (hD0 : w0.heap.size ≤ D) (xD : Lay w D [.slice k.a k.n k.c, .slice k.b k.m k.d]) (hk : k.ok w) (hp : k.p = ⟨textL A, textL B⟩)
    (hA : ∀ r ∈ A, checkR r = 0) (hB : ∀ r ∈ B, checkR r = 0) (hAB : A.length + B.length + 20 ≤ 80) :
    Calls Tryd.prog 5 #[.slice la ln lc, .pointer (some ⟨D, 0, none⟩)] w fun e w' =>
      (∃ v Y, ∃ k' : KV, e = .returned v ∧ OwnR w' w.heap.size v Y ∧ (∀ x ∈ Y, x.ok w0) ∧ Lay w' D [.slice k'.a k'.n k'.c, .slice k'.b k'.m k'.d] ∧ k'.ok w' ∧ k'.p = ⟨textL A, textL (B ++ Y.map RV.p)⟩ ∧ (∀ r ∈ B ++ Y.map RV.p, checkR r = 0) ∧ Y.length ≤ 20) ∧ ButI D w w' := by
  obtain ⟨i, hi, hz, hsz, hby⟩ := recInfo
  have hlm := hL.max
  have hll := hL.le
  have hLl := hL.len
  have hDw := xD.lt
  obtain ⟨mm, hmm⟩ : ∃ mm : Nat, min ln 20 = mm := ⟨_, rfl⟩
  have hm1 : mm ≤ ln := by omega
  have hm2 : mm ≤ 20 := by omega
  have hmi : min (ln : Int) 20 = (mm : Int) := by omega
  have hj0 : (0 : Int) ≤ (mm : Int) := by omega
  have hj1 : (mm : Int) ≤ (lc : Int) := by omega
  have hj2 : mm ≤ lc := by omega
  have hj3 : ¬ ((mm : Int) < 0) := by omega
  have hj4 : ¬ ((lc : Int) < (mm : Int)) := by omega
  go_enter Tryd.func5, Tryd.ntmps5
  go_wp2_with fail
  go_loopw [4, 15] (fun v u wr => ∃ (j : Nat) (Y : List RV) (k' : KV), u = .int .i64 j ∧ j ≤ mm ∧ OwnR wr w.heap.size v Y ∧ (∀ x ∈ Y, x.ok w0) ∧ Lay wr D [.slice k'.a k'.n k'.c, .slice k'.b k'.m k'.d] ∧ k'.ok wr ∧ k'.p = ⟨textL A, textL (B ++ Y.map RV.p)⟩ ∧ (∀ r ∈ B ++ Y.map RV.p, checkR r = 0) ∧ Y.length ≤ j ∧ ButI D w wr) (fun _ u _ => mm - (intOf u).toNat)
  case atStart => exact ⟨0, [], k, rfl, Nat.zero_le _, OwnR.nil _ _, by simp, xD, hk, by simpa using hp, by simpa using hB, by simp, ButI.refl _ _⟩
  case round =>
    obtain ⟨j, Y, k', rfl, hj, hY, hY0, xW, hkW, hpW, hgY, hYj, hbut⟩ := hrel
    rename_i wr
    have hb0r : Below w0.heap.size w0 wr := hb0.trans (hbut.below hD0)
    have hsr := hbut.but.size
    by_cases hlt : j < mm
    · obtain ⟨x, hx⟩ : ∃ z, L[j]? = some z := ⟨L[j]'(by omega), by simp⟩
      obtain ⟨lb, lo, rfl, hlb, hcl⟩ := hL.row.resolve_left (by omega)
      have kx := hcl j x hx
      have hx0 := hL.ok x (List.mem_of_getElem? hx)
      have hlt' : (j : Int) < (mm : Int) := by omega
      have HX := hide hx
      clear hx
      obtain ⟨⟨q', s', ⟨k1, z', m', t', d'⟩⟩, aX, nX, cX⟩ := x
      have x0 := keepc hb0r (kx 0 _ rfl)
      have x1 := keepc hb0r (kx 1 _ rfl)
      have x2 := keepc hb0r (kx 2 _ rfl)
      have x3 := keepc hb0r (kx 3 _ rfl)
      have x4 := keepc hb0r (kx 4 _ rfl)
      have x5 := keepc hb0r (kx 5 _ rfl)
      have x6 := keepc hb0r (kx 6 _ rfl)
      rw [Nat.add_zero] at x0
      clear kx
      go_upto_region 5 with fail
      have xB := Lay.made wr [.int .i64 q', .int .i64 s', .int .i64 k1, .int .i64 z', .int .i64 m', .int .i64 t', .slice aX nX cX] 31
      have hb1 : Below wr.heap.size wr (wr.alloc (.cells [.int .i64 q', .int .i64 s', .int .i64 k1, .int .i64 z', .int .i64 m', .int .i64 t', .slice aX nX cX].toArray 31)) := belowA (Below.refl _ _) _
      have hYr := hY
      replace hY := hY.below hb1
      replace xW := xW.below hb1
      replace hkW := hkW.below hb1
      replace hb0r := belowT hb0r hb1
      have bW1 : Below w.heap.size wr (wr.alloc (.cells [.int .i64 q', .int .i64 s', .int .i64 k1, .int .i64 z', .int .i64 m', .int .i64 t', .slice aX nX cX].toArray 31)) := hb1.mono hbut.but.size
      replace hbut := hbut.on bW1 (by omega)
      clear hb1 bW1 x0 x1 x2 x3 x4 x5 x6
      generalize wr.alloc (.cells [.int .i64 q', .int .i64 s', .int .i64 k1, .int .i64 z', .int .i64 m', .int .i64 t', .slice aX nX cX].toArray 31) = w1 at *
      have hzB := xB.lt
      obtain ⟨pk, ka, kn, kc, kb, km, kd⟩ := k'
      obtain rfl : pk = ⟨textL A, textL (B ++ Y.map RV.p)⟩ := hpW
      have hBY : (B ++ Y.map RV.p).length = B.length + Y.length := by rw [List.length_append, List.length_map]
      obtain ⟨e1, e2⟩ := textL_small hA hgY (by omega)
      obtain ⟨e3, e4⟩ := hkW.small e1 e2
      have hP := fun w' hE h hr => Put_c ⟨⟨textL A, textL (B ++ Y.map RV.p)⟩, ka, kn, kc, kb, km, kd⟩ ⟨⟨q', s', ⟨k1, z', m', t', d'⟩⟩, aX, nX, cX⟩ w' hE h hr e3 e4
      dsimp only [KV.v, RV.v] at hP xW
      have hx1 := RV.ok.below hx0 hb0r (Nat.le_refl _)
      by_cases hcr : checkR ⟨q', s', ⟨k1, z', m', t', d'⟩⟩ = 0
      · have hput := putK_text hA hgY (by omega) hcr
        rw [hput] at hP
        have HP := hide hP
        clear hP hput
        have e0 := xB.cell 0 _ rfl
        have e1 := xB.cell 1 _ rfl
        have e2 := xB.cell 2 _ rfl
        have e3 := xB.cell 3 _ rfl
        have e4 := xB.cell 4 _ rfl
        have e5 := xB.cell 5 _ rfl
        have e6 := xB.cell 6 _ rfl
        have f0 := xB.ice 0
        have f1 := xB.ice 1
        have f2 := xB.ice 2
        have f3 := xB.ice 3
        have f4 := xB.ice 4
        have f5 := xB.ice 5
        have f6 := xB.ice 6
        have g0 := xW.cell 0 _ rfl
        have g1 := xW.cell 1 _ rfl
        go_wp2_with fail
        refine (HP.out _ (hE.below hb0r) hkW hx1).mono ?_
        rintro e w2 ⟨⟨⟨p2, a2, n2, c2, b2, m2, d2⟩, rfl, ep2, ok2, fr2⟩, hb2⟩
        obtain rfl : p2 = ⟨textL A, textL (B ++ Y.map RV.p ++ [⟨q', s', ⟨k1, z', m', t', d'⟩⟩])⟩ := ep2
        dsimp only [KV.v]
        clear e0 e1 e2 e3 e4 e5 e6 f0 f1 f2 f3 f4 f5 f6 g0 g1 HP hkW
        have bW2 : Below w.heap.size w1 w2 := hb2.mono hbut.but.size
        replace hbut := hbut.on bW2 (by omega)
        replace hY := hY.below hb2
        replace xB := xB.below hb2
        replace xW := xW.below hb2
        replace hb0r := belowT hb0r hb2
        have hz1 := hb2.size
        clear hb2 bW2 hx1
        go_upto_region 6 with fail
        have xC := Lay.made w2 [.slice a2 n2 c2, .slice b2 m2 d2] 26
        have hb3 : Below w2.heap.size w2 (w2.alloc (.cells [.slice a2 n2 c2, .slice b2 m2 d2].toArray 26)) := belowA (Below.refl _ _) _
        replace ok2 := ok2.below hb3
        replace hY := hY.below hb3
        replace xB := xB.below hb3
        replace xW := xW.below hb3
        replace hb0r := belowT hb0r hb3
        replace hbut := hbut.on (hb3.mono hbut.but.size) (by omega)
        have hz2 := hb3.size
        clear hb3
        generalize w2.alloc (.cells [.slice a2 n2 c2, .slice b2 m2 d2].toArray 26) = w3 at *
        have hx3 := RV.ok.below hx0 hb0r (Nat.le_refl _)
        obtain ⟨av, cv, rfl, _, _⟩ := hY.recs
        have hown := hYr.own.lt
        have hY20 : Y.length ≤ 20 := by omega
        have hsz3 := hbut.but.size
        have h63 : Y.length + 1 ≤ maxLen := by simp only [maxLen]; omega
        have h72 : (Y.length + 1) * 72 ≤ 140737488355328 := by omega
        have hne6 : some wr.heap.size ≠ (Value.slice av Y.length cv).ownBlock := fun e => by have := (hown _ e.symm).2; omega
        have hne7 : some w2.heap.size ≠ (Value.slice av Y.length cv).ownBlock := fun e => by have := (hown _ e.symm).2; omega
        have hneD : some D ≠ (Value.slice av Y.length cv).ownBlock := fun e => by have := (hown _ e.symm).1; omega
        have hbA : Below w3.heap.size w3 (w3.drew.alloc (.cells [.int .i64 q', .int .i64 s', .int .i64 k1, .int .i64 z', .int .i64 m', .int .i64 t', .slice aX nX cX].toArray 31)) := belowA (Below.drew (Below.refl _ _)) _
        have hbase : w.heap.size ≤ (w3.drew.alloc (.cells [.int .i64 q', .int .i64 s', .int .i64 k1, .int .i64 z', .int .i64 m', .int .i64 t', .slice aX nX cX].toArray 31)).heap.size := Nat.le_trans hsz3 hbA.size
        have hnews : ∀ j u, (RV.cells ⟨⟨q', s', ⟨k1, z', m', t', d'⟩⟩, aX, nX, cX⟩)[j]? = some u → (w3.drew.alloc (.cells [.int .i64 q', .int .i64 s', .int .i64 k1, .int .i64 z', .int .i64 m', .int .i64 t', .slice aX nX cX].toArray 31)).cell? ((⟨w3.heap.size, 0, none⟩ : Addr).add j) = some u := fun j u hu => by
          rw [addr_add, Nat.zero_add]
          exact (Lay.made w3.drew _ 31).cell j u hu
        have hYA := hY.below hbA
        have xBA := xB.below hbA
        have xCA := xC.below hbA
        have xWA := xW.below hbA
        have e0 := xB.cell 0 _ rfl
        have e1 := xB.cell 1 _ rfl
        have e2 := xB.cell 2 _ rfl
        have e3 := xB.cell 3 _ rfl
        have e4 := xB.cell 4 _ rfl
        have e5 := xB.cell 5 _ rfl
        have e6 := xB.cell 6 _ rfl
        have f0 := xB.ice 0
        have f1 := xB.ice 1
        have f2 := xB.ice 2
        have f3 := xB.ice 3
        have f4 := xB.ice 4
        have f5 := xB.ice 5
        have f6 := xB.ice 6
        have g0 := xC.cell 0 _ rfl
        have g1 := xC.cell 1 _ rfl
        have i0 := xC.ice 0
        have i1 := xC.ice 1
        have o0 := xW.cell 0 _ rfl
        have o1 := xW.cell 1 _ rfl
        have v0 := xW.ice 0
        have v1 := xW.ice 1
        have HNW := hide hnews
        have HYA := hide hYA
        clear hnews hYA
        have hwr := hYr.own
        have hzr : w.heap.size ≤ wr.heap.size := hsr
        have hd1 : D ≠ wr.heap.size := by omega
        have hd2 : wr.heap.size ≠ D := by omega
        have hd3 : D ≠ w2.heap.size := by omega
        have hd4 : w2.heap.size ≠ D := by omega
        clear hwr
        go_upto_region 7 with fail
        go_region_held3 (fun w' => w'.cell? ⟨wr.heap.size, 0, none⟩ = some (.int .i64 q') ∧ w'.cell? ⟨wr.heap.size, 1, none⟩ = some (.int .i64 s') ∧ w'.cell? ⟨wr.heap.size, 2, none⟩ = some (.int .i64 k1) ∧ w'.cell? ⟨wr.heap.size, 3, none⟩ = some (.int .i64 z') ∧ w'.cell? ⟨wr.heap.size, 4, none⟩ = some (.int .i64 m') ∧ w'.cell? ⟨wr.heap.size, 5, none⟩ = some (.int .i64 t') ∧ w'.cell? ⟨wr.heap.size, 6, none⟩ = some (.slice aX nX cX) ∧ w'.cell? ⟨w2.heap.size, 0, none⟩ = some (.slice a2 n2 c2) ∧ w'.cell? ⟨w2.heap.size, 1, none⟩ = some (.slice b2 m2 d2)) ((first | (go_simp; done) | (simp [*, World.cell?_alloc_at, World.cell?_alloc_past, World.cell?_alloc_some, World.cell?_setCell_far]; done))) (first
          | (refine step_append_lies _ rfl _ _ 22 rfl w.heap.size 31 i recZ 7 72 Tryd.underlying22 hi hz hsz hby rfl (by decide) _ _ _ rfl HYA.out.own ⟨w3.heap.size, 0, none⟩ 1 1 (RV.cells ⟨⟨q', s', ⟨k1, z', m', t', d'⟩⟩, aX, nX, cX⟩) rfl rfl HNW.out (RV.cells_one _) (by decide) h63 h72 hbase _ rfl ?_; intro g5 cap5 w5 hown5 hg5 hat5 hlt5; (have xB5 := Lay.grown xBA hg5 hne6); (have xC5 := Lay.grown xCA hg5 hne7); (have xD5 := Lay.grown xWA hg5 hneD); (have l0 := xB5.cell 0 _ rfl); (have l1 := xB5.cell 1 _ rfl); (have l2 := xB5.cell 2 _ rfl); (have l3 := xB5.cell 3 _ rfl); (have l4 := xB5.cell 4 _ rfl); (have l5 := xB5.cell 5 _ rfl); (have l6 := xB5.cell 6 _ rfl); (have r0 := xC5.cell 0 _ rfl); (have r1 := xC5.cell 1 _ rfl); (have y0 := xD5.cell 0 _ rfl); (have y1 := xD5.cell 1 _ rfl); (have y2 := xD5.ice 0); (have y3 := xD5.ice 1)))
        all_goals
          go_wp2
          have oN := (hY.below hbA).snoc (x := ⟨⟨q', s', ⟨k1, z', m', t', d'⟩⟩, aX, nX, cX⟩) (RV.ok.below hx3 hbA (Nat.le_refl _)) (fun g e => RV.ok.off hx0 (by have := (hown g e).1; omega)) hown5 hg5 hat5
          have hN0 : ∀ x ∈ Y ++ [⟨⟨q', s', ⟨k1, z', m', t', d'⟩⟩, aX, nX, cX⟩], RV.ok w0 x := fun x hx => by
            rcases List.mem_append.1 hx with hx | hx
            · exact hY0 x hx
            · obtain rfl : x = _ := by simpa using hx
              exact hx0
          have hND : ∀ x ∈ Y ++ [⟨⟨q', s', ⟨k1, z', m', t', d'⟩⟩, aX, nX, cX⟩], RV.off D x := fun x hx => RV.ok.off (hN0 x hx) hD0
          have o1 := (oN.far ⟨D, 0, none⟩ (.slice a2 n2 c2) hDw hND).far ⟨D, 1, none⟩ (.slice b2 m2 d2) hDw hND
          have zD := (xD5.set 0 (.slice a2 n2 c2)).set 1 (.slice b2 m2 d2)
          have b5 : Below w.heap.size w3 w5 := (hbA.mono hsz3).grown hg5 hbase (fun k e => (hown k e).1)
          have kA := ok2.below hbA
          have k5 : KV.ok w5 ⟨⟨textL A, textL (B ++ Y.map RV.p ++ [⟨q', s', ⟨k1, z', m', t', d'⟩⟩])⟩, a2, n2, c2, b2, m2, d2⟩ := ⟨Byts.grown kA.s hg5 (fun x e q => by have := fr2.s x e; have := (hown _ q.symm).2; omega), Byts.grown kA.w hg5 (fun x e q => by have := fr2.w x e; have := (hown _ q.symm).2; omega)⟩
          have hbD := ((ButI.refl D w5).step 0 (.slice a2 n2 c2)).step 1 (.slice b2 m2 d2)
          have k6 := KV.ok.but k5 hbD.but fr2 (by omega)
          have hbF := ((hbut.on b5 (by omega)).step 0 (.slice a2 n2 c2)).step 1 (.slice b2 m2 d2)
          refine ⟨⟨j + 1, Y ++ [⟨⟨q', s', ⟨k1, z', m', t', d'⟩⟩, aX, nX, cX⟩], ⟨⟨textL A, textL (B ++ Y.map RV.p ++ [⟨q', s', ⟨k1, z', m', t', d'⟩⟩])⟩, a2, n2, c2, b2, m2, d2⟩, by go_num, by omega, o1, hN0, zD, k6, ?_, ?_, by simp; omega, hbF⟩, by simp [intOf]; omega⟩
          · simp
          · rw [List.map_append, ← List.append_assoc]
            exact all_snoc hgY hcr
      · have her := putK_bad hA hgY (by omega) hcr
        have HP := hide hP
        clear hP
        generalize putK ⟨textL A, textL (B ++ Y.map RV.p)⟩ ⟨q', s', ⟨k1, z', m', t', d'⟩⟩ = pr at *
        obtain ⟨pp, er⟩ := pr
        dsimp only at her HP
        have hcb : (er == 0) = false := by simpa using her
        have e0 := xB.cell 0 _ rfl
        have e1 := xB.cell 1 _ rfl
        have e2 := xB.cell 2 _ rfl
        have e3 := xB.cell 3 _ rfl
        have e4 := xB.cell 4 _ rfl
        have e5 := xB.cell 5 _ rfl
        have e6 := xB.cell 6 _ rfl
        have f0 := xB.ice 0
        have f1 := xB.ice 1
        have f2 := xB.ice 2
        have f3 := xB.ice 3
        have f4 := xB.ice 4
        have f5 := xB.ice 5
        have f6 := xB.ice 6
        have g0 := xW.cell 0 _ rfl
        have g1 := xW.cell 1 _ rfl
        go_wp2_with fail
        refine (HP.out _ (hE.below hb0r) hkW hx1).mono ?_
        rintro e w2 ⟨⟨⟨p2, a2, n2, c2, b2, m2, d2⟩, rfl, ep2, ok2, fr2⟩, hb2⟩
        dsimp only [KV.v]
        clear e0 e1 e2 e3 e4 e5 e6 f0 f1 f2 f3 f4 f5 f6 g0 g1 HP
        go_wp2
        have hb3 : Below w1.heap.size w1 (w2.alloc (.cells #[.slice a2 n2 c2, .slice b2 m2 d2] 26)) := belowA hb2 _
        exact ⟨⟨j + 1, Y, ⟨⟨textL A, textL (B ++ Y.map RV.p)⟩, ka, kn, kc, kb, km, kd⟩, by go_num, by omega, hY.below hb3, hY0, xW.below hb3, hkW.below hb3, rfl, hgY, by omega, hbut.on (hb3.mono hbut.but.size) (by omega)⟩, by simp [intOf]; omega⟩
    · obtain rfl : j = mm := by omega
      go_wp2
      go_ret
      exact ⟨⟨_, Y, k', rfl, hY, hY0, xW, hkW, hpW, hgY, by omega⟩, hbut⟩

end Go.Proofs.YtcbgkjmcdjpgcaaDoor

/- Lists of records held against each other; plain mathematics, no condition. -/
namespace Go.Proofs.YtcbgkjmcdjpgcaaDoor
open Go.RowKit
set_option linter.unusedVariables false
set_option maxRecDepth 100000
set_option linter.unusedSimpArgs false

def sameRs : List PR → List PR → Bool
  | [], [] => true
  | a :: A, b :: B => sameR a b && sameRs A B
  | [], _ :: _ => false
  | _ :: _, [] => false
theorem sameRs_iff : ∀ A B : List PR, sameRs A B = true ↔ A = B
  | [], [] => by simp [sameRs]
  | a :: A, b :: B => by simp [sameRs, sameR_iff, sameRs_iff A B]
  | [], b :: B => by simp [sameRs]
  | a :: A, [] => by simp [sameRs]
theorem sameRs_t {A B : List PR} (h : A = B) : sameRs A B = true := (sameRs_iff A B).2 h
theorem sameRs_f {A B : List PR} (h : A ≠ B) : sameRs A B = false := by
  cases e : sameRs A B with
  | false => rfl
  | true => exact absurd ((sameRs_iff A B).1 e) h

end Go.Proofs.YtcbgkjmcdjpgcaaDoor

/- The contract of slices.EqualFunc on lists of records, by note.Same; no condition but that the lists are read. -/
namespace Go.Proofs.YtcbgkjmcdjpgcaaDoor
open Go.RowKit
set_option linter.unusedVariables false
set_option maxRecDepth 100000
set_option linter.unusedSimpArgs false

set_option maxRecDepth 100000 in
set_option maxHeartbeats 4000000 in
theorem EqR_some (b1 o1 m1 b2 o2 m2 n : Nat) (X Y : List RV) (w : World) (h1 : Recs w (some ⟨b1, o1, none⟩) n m1 X) (h2 : Recs w (some ⟨b2, o2, none⟩) n m2 Y)
    (hr1 : ∀ i x, X[i]? = some x → ∀ j v, x.cells[j]? = some v → w.cell? ⟨b1, o1 + i * 7 + j, none⟩ = some v)
    (hr2 : ∀ i x, Y[i]? = some x → ∀ j v, x.cells[j]? = some v → w.cell? ⟨b2, o2 + i * 7 + j, none⟩ = some v) :
    Calls Tryd.prog 11 #[.slice (some ⟨b1, o1, none⟩) n m1, .slice (some ⟨b2, o2, none⟩) n m2, .func (Fn.func 13) #[] #[]] w fun e w' => e = .returned (.bool (sameRs (X.map RV.p) (Y.map RV.p))) ∧ Below w.heap.size w w' := by
  have hlen1 := hide h1.len
  have hlen2 := hide h2.len
  have hmax := h1.max
  have hle := h1.le
  go_enter Tryd.func11, Tryd.ntmps11
  go_wp2
  go_loopw [17] (fun i wr => ∃ k : Nat, k ≤ n ∧ i = .int .i64 k ∧ (X.take k).map RV.p = (Y.take k).map RV.p ∧ Below w.heap.size w wr) (fun i _ => n - (intOf i).toNat)
  case atStart => exact ⟨0, by omega, rfl, by simp, Below.refl _ _⟩
  case round =>
    obtain ⟨k, hk, rfl, hp, hbr⟩ := hrel
    have HP := hide hp
    clear hp
    rename_i wr
    by_cases hlt : k < n
    · obtain ⟨x, hx⟩ : ∃ z, X[k]? = some z := ⟨X[k]'(by rw [hlen1.out]; exact hlt), by simp⟩
      obtain ⟨y, hy⟩ : ∃ z, Y[k]? = some z := ⟨Y[k]'(by rw [hlen2.out]; exact hlt), by simp⟩
      have ix := RV.ok.below (h1.ok x (List.mem_of_getElem? hx)) hbr (Nat.le_refl _)
      have iy := RV.ok.below (h2.ok y (List.mem_of_getElem? hy)) hbr (Nat.le_refl _)
      have HZ := hide hx
      have HY := hide hy
      have HS := hide (fun w' h k => NSame_c x y w' h k)
      have HT : Hid (sameR x.p y.p = true → x.p = y.p) := hide (sameR_iff _ _).1
      have HF : Hid (sameR x.p y.p = false → x.p ≠ y.p) := hide (fun h e => by rw [(sameR_iff _ _).2 e] at h; cases h)
      have kx := hr1 k x hx
      have ky := hr2 k y hy
      clear hx hy
      generalize hsm : sameR x.p y.p = sm at *
      clear hsm
      obtain ⟨⟨q1, s1, ⟨k1, z1, u1, t1, d1⟩⟩, a1, n1, c1⟩ := x
      obtain ⟨⟨q2, s2, ⟨k2, z2, u2, t2, d2⟩⟩, a2, n2, c2⟩ := y
      dsimp only [RV.v] at HS
      have x0 := keepc hbr (kx 0 _ rfl)
      have x1 := keepc hbr (kx 1 _ rfl)
      have x2 := keepc hbr (kx 2 _ rfl)
      have x3 := keepc hbr (kx 3 _ rfl)
      have x4 := keepc hbr (kx 4 _ rfl)
      have x5 := keepc hbr (kx 5 _ rfl)
      have x6 := keepc hbr (kx 6 _ rfl)
      have y0 := past1 (keepc hbr (ky 0 _ rfl))
      have y1 := past1 (keepc hbr (ky 1 _ rfl))
      have y2 := past1 (keepc hbr (ky 2 _ rfl))
      have y3 := past1 (keepc hbr (ky 3 _ rfl))
      have y4 := past1 (keepc hbr (ky 4 _ rfl))
      have y5 := past1 (keepc hbr (ky 5 _ rfl))
      have y6 := past1 (keepc hbr (ky 6 _ rfl))
      rw [Nat.add_zero] at x0 y0
      clear kx ky
      have hlt' : (k : Int) < (n : Int) := by omega
      go_wp2_with fail
      refine (HS.out _ (RV.ok.below ix (B := wr.heap.size) (by (repeat (first | exact Below.refl _ _ | assumption | refine Below.drew ?_ | refine below_drewN ?_ _ | refine belowA ?_ _ | refine belowT ?_ (by assumption) | refine Below.setCell ?_ (by first | (simp; done) | (simp; omega)) _))) (Nat.le_refl _)) (RV.ok.below iy (B := wr.heap.size) (by (repeat (first | exact Below.refl _ _ | assumption | refine Below.drew ?_ | refine below_drewN ?_ _ | refine belowA ?_ _ | refine belowT ?_ (by assumption) | refine Below.setCell ?_ (by first | (simp; done) | (simp; omega)) _))) (Nat.le_refl _))).mono ?_
      rintro e w9 ⟨rfl, hb9⟩
      have b9 : Below w.heap.size w w9 := by (repeat (first | exact Below.refl _ _ | assumption | refine Below.drew ?_ | refine below_drewN ?_ _ | refine belowA ?_ _ | refine belowT ?_ (by assumption) | refine Below.setCell ?_ (by first | (simp; done) | (simp; omega)) _))
      clear hb9
      cases sm
      · have HNE := hide (HF.out rfl)
        clear HF HT
        go_wp2
        go_ret
        refine ⟨ret_bool (sameRs_f fun e => ?_).symm, b9⟩
        have := congrArg (fun L => L[k]?) e
        simp only [List.getElem?_map, HZ.out, HY.out, Option.map_some, Option.some.injEq] at this
        exact HNE.out this
      · have HEQ := hide (HT.out rfl)
        clear HF HT
        go_wp2
        have e := HEQ.out
        refine ⟨⟨k + 1, by omega, by go_num, ?_, b9⟩, by simp [intOf]; omega⟩
        obtain ⟨g1, g2⟩ := List.getElem?_eq_some_iff.1 HZ.out
        obtain ⟨g3, g4⟩ := List.getElem?_eq_some_iff.1 HY.out
        rw [List.take_succ_eq_append_getElem g1, List.take_succ_eq_append_getElem g3, List.map_append, List.map_append, HP.out, g2, g4]
        simpa using e
    · obtain rfl : k = n := by omega
      go_wp2
      go_ret
      have hp := HP.out
      rw [List.take_of_length_le (by rw [hlen1.out]; omega), List.take_of_length_le (by rw [hlen2.out]; omega)] at hp
      exact ⟨ret_bool (sameRs_t hp).symm, hbr⟩

theorem EqR_ne (a1 a2 : Option Addr) (n1 n2 c1 c2 : Nat) (fv : Value) (w : World) (hne : n1 ≠ n2) (hm1 : n1 ≤ 9223372036854775807) (hm2 : n2 ≤ 9223372036854775807) :
    Calls Tryd.prog 11 #[.slice a1 n1 c1, .slice a2 n2 c2, fv] w fun e w' => e = .returned (.bool false) ∧ w' = w := by
  have hb : ((n1 : Int) != (n2 : Int)) = true := by simp; omega
  go_enter Tryd.func11, Tryd.ntmps11
  go_wp2
  go_ret
  exact ⟨rfl, rfl⟩

theorem EqR_zero (a1 a2 : Option Addr) (c1 c2 : Nat) (fv : Value) (w : World) :
    Calls Tryd.prog 11 #[.slice a1 0 c1, .slice a2 0 c2, fv] w fun e w' => e = .returned (.bool true) ∧ w' = w := by
  go_enter Tryd.func11, Tryd.ntmps11
  go_wp2
  refine wp_loop_rounds 1 ?_
  rw [rounds_succ]
  go_wp2
  go_ret
  exact ⟨rfl, rfl⟩

theorem EqR_c (a1 a2 : Option Addr) (n1 n2 c1 c2 : Nat) (X Y : List RV) (w : World) (h1 : Recs w a1 n1 c1 X) (h2 : Recs w a2 n2 c2 Y) :
    Calls Tryd.prog 11 #[.slice a1 n1 c1, .slice a2 n2 c2, .func (Fn.func 13) #[] #[]] w fun e w' => e = .returned (.bool (sameRs (X.map RV.p) (Y.map RV.p))) ∧ Below w.heap.size w w' := by
  by_cases hn : n1 = n2
  · subst hn
    by_cases h0 : n1 = 0
    · subst h0
      have e1 := h1.len
      have e2 := h2.len
      rw [List.length_eq_zero_iff] at e1 e2
      subst e1 e2
      refine (EqR_zero a1 a2 c1 c2 _ w).mono ?_
      rintro e w' ⟨rfl, rfl⟩
      exact ⟨rfl, Below.refl _ _⟩
    · rcases h1.row with h | ⟨b1, o1, rfl, _, hr1⟩
      · omega
      · rcases h2.row with h | ⟨b2, o2, rfl, _, hr2⟩
        · omega
        · exact EqR_some b1 o1 c1 b2 o2 c2 n1 X Y w h1 h2 hr1 hr2
  · have m1 := h1.max
    have m2 := h2.max
    have q1 := h1.le
    have q2 := h2.le
    refine (EqR_ne a1 a2 n1 n2 c1 c2 _ w hn (by omega) (by omega)).mono ?_
    rintro e w' ⟨rfl, rfl⟩
    refine ⟨ret_bool (sameRs_f fun e => hn ?_).symm, Below.refl _ _⟩
    have := congrArg List.length e
    rw [List.length_map, List.length_map, h1.len, h2.len] at this
    exact this


end Go.Proofs.YtcbgkjmcdjpgcaaDoor

/- Rows of cells that are put behind each other, as slices.Concat does it; plain mathematics, no condition. -/
namespace Go.Proofs.YtcbgkjmcdjpgcaaDoor
open Go.RowKit
set_option linter.unusedVariables false
set_option maxRecDepth 100000
set_option linter.unusedSimpArgs false

/-- A slice's cells, as they are copied. -/
structure Rowed (w : World) (sz : Nat) (a : Option Addr) (n c : Nat) (vs : List Value) : Prop where
  len : vs.length = n * sz
  le : n ≤ c
  max : c ≤ 9223372036854775807
  nil : a = none → c = 0
  src : ∀ ad, a = some ad → ∀ j v, vs[j]? = some v → w.cell? (ad.add j) = some v
  one : ∀ v ∈ vs, v.oneCell' = true
theorem Rowed.below {w w' : World} {sz : Nat} {a : Option Addr} {n c : Nat} {vs : List Value} (h : Rowed w sz a n c vs) (hb : Below w.heap.size w w') : Rowed w' sz a n c vs :=
  ⟨h.len, h.le, h.max, h.nil, fun ad e j v hv => keepc hb (h.src ad e j v hv), h.one⟩
theorem Rowed.nils {w : World} {sz : Nat} {a : Option Addr} {n c : Nat} {vs : List Value} (h : Rowed w sz a n c vs) (e : a = none) : n = 0 ∧ c = 0 := by
  have h1 := h.nil e
  have h2 := h.le
  omega
theorem Byts.rowed {w : World} {a : Option Addr} {n c : Nat} {l : List UInt8} (h : Byts w a n c l) : Rowed w 1 a n c (bytC l) := by
  refine ⟨by rw [bytC_len, h.len, Nat.mul_one], Cel.le h, Cel.max h, Cel.nil h, fun ad e j v hv => ?_, bytC_one l⟩
  have hj := (List.getElem?_eq_some_iff.1 hv).1
  rw [bytC_len, h.len] at hj
  obtain ⟨ad', e', hs⟩ := Cel.src h (by omega)
  rw [e] at e'
  cases e'
  exact hs j v hv
theorem Recs.rowed {w : World} {a : Option Addr} {n c : Nat} {X : List RV} (h : Recs w a n c X) : Rowed w 7 a n c (rcells X) := by
  refine ⟨by rw [rcells_len, h.len], h.le, h.max, h.nil, fun ad e j v hv => ?_, rcells_one X⟩
  have hj := (List.getElem?_eq_some_iff.1 hv).1
  rw [rcells_len, h.len] at hj
  have hlen := h.len
  rcases h.row with h0 | ⟨b, off, ha, hlt, hc⟩
  · omega
  · rw [ha] at e
    cases e
    obtain ⟨x, hx⟩ : ∃ x, X[j / 7]? = some x := ⟨X[j / 7]'(by omega), by simp⟩
    obtain ⟨u, hu⟩ : ∃ u, x.cells[j % 7]? = some u := ⟨x.cells[j % 7]'(by rw [RV.cells_len]; omega), by simp⟩
    have h1 := rcells_get X (j / 7) x hx (j % 7) u hu
    rw [show j / 7 * 7 + j % 7 = j by omega, hv] at h1
    cases h1
    rw [addr_add, show off + j = off + j / 7 * 7 + j % 7 by omega]
    exact hc (j / 7) x hx (j % 7) v hu

theorem append_zero {P : Program} (w : World) (t ty e : TypeId) (i : TypeInfo) (ht : P.underlying t = some (.slice e)) (hi : P.info? e = some i) (ao : Option Addr) (c : Nat) :
    (Builtin.append_ #[t, t] ty #[.slice none 0 0, .slice ao 0 c]).run P w = .ok (.slice none 0 0) w := by
  cases ao <;> simp [Builtin.append_, run_underlying ht, sizeOf, typeInfo, hi, Builtin.lenOf, Builtin.firstCells, loadCells, loadCellsFrom]

/-- Bytes that are owned. -/
theorem Byts.of_own {w : World} {base : Nat} {v : Value} {n : Nat} {l : List UInt8} {t : TypeId} (h : w.ownsRow base t 1 v n (bytC l)) : ∃ a c, v = .slice a n c ∧ Byts w a n c l ∧ ∀ y, a = some y → base ≤ y.block := by
  obtain ⟨hlen, h⟩ := h
  rw [bytC_len, Nat.mul_one] at hlen
  rcases h with ⟨rfl, h0⟩ | ⟨g, cap, cur, rfl, hb, hg, hn, hm, hs, hc⟩
  · subst h0
    rw [List.length_eq_zero_iff] at hlen
    subst hlen
    exact ⟨none, 0, rfl, Byts.nilSlice w, fun x h => by cases h⟩
  · refine ⟨_, cap, rfl, ⟨by rw [bytC_len, hlen], hn, by simp [maxLen] at hm; omega, fun e => (by cases e), .inr ⟨g, 0, rfl, (Array.getElem?_eq_some_iff.1 hg).1, fun i v hv => ?_⟩⟩, fun x h => by cases h; exact hb⟩
    rw [cell_of_row w g _ _ _ _ hg, Nat.zero_add]
    have hi := (List.getElem?_eq_some_iff.1 hv).1
    rw [bytC_len] at hi
    rw [← hc, List.getElem?_take, if_pos (by omega)] at hv
    simpa using hv
/-- Records that are owned, and whose data were there before. -/
theorem OwnR.of_own {w w' : World} {v : Value} {n : Nat} {X : List RV} (h : w'.ownsRow w.heap.size 31 7 v n (rcells X)) (hb : Below w.heap.size w w') (hok : ∀ x ∈ X, x.ok w) : OwnR w' w.heap.size v X ∧ X.length = n := by
  have hl := h.1
  rw [rcells_len] at hl
  have hn : X.length = n := by omega
  subst hn
  exact ⟨⟨h, fun x hx => (hok x hx).below hb (Nat.le_refl _), fun x hx g e => (hok x hx).off (h.lt g e).1⟩, rfl⟩

end Go.Proofs.YtcbgkjmcdjpgcaaDoor
