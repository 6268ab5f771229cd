/- The contracts of zone.Write and of the document's WriteZone, errors and all in one; no condition but that the arguments read as data. -/
import Derived.Test.YtkamnbigfdbgbaaGreatDoorDeskSaysG4
import Derived.Test.YtkamnbigfdbgbaaGreatDoorDeskSaysG3
import Derived.Test.YtkamnbigfdbgbaaGreatDoorDeskSaysG6
namespace Go.Proofs.YtkamnbigfdbgbaaGreatDoor
open Go.RowKit
set_option linter.unusedVariables false
set_option maxRecDepth 100000
set_option linter.unusedSimpArgs false

/-- What Write answers: state, blocks. -/
def wS (s : Int) (l k : List Int) : Int := if writeE s l k = 0 then writeS s (l.length + k.length) else 0
def wL (s : Int) (l k : List Int) : List Int := if writeE s l k = 0 then l ++ k else []

theorem Write_u (s : Int) (a : Option Addr) (n c : Nat) (l : List Int) (b : Option Addr) (m d : Nat) (k : List Int) (w : World) (h1 : Ints w a n c l) (h2 : Ints w b m d k) :
    Calls Tryz.prog 96 #[.agg #[.int .i64 s, .slice a n c], .slice b m d] w fun e w' => (∃ a' n' c', e = .returned (.tuple #[.agg #[.int .i64 (wS s l k), .slice a' n' c'], .int .i64 (writeE s l k)]) ∧ Ints w' a' n' c' (wL s l k) ∧ ∀ x, a' = some x → w.heap.size ≤ x.block) ∧ Below w.heap.size w w' := by
  by_cases h : writeE s l k = 0
  · refine (Write_ok s a n c l b m d k w h1 h2 h).mono ?_
    rintro e w' ⟨⟨q, rfl, i, hq⟩, hb⟩
    rw [show wS s l k = writeS s (n + m) by simp [wS, h, h1.len, h2.len], show wL s l k = l ++ k by simp [wL, h], h]
    exact ⟨⟨_, _, _, rfl, i, fun x e => by cases e; exact hq⟩, hb⟩
  · refine (Write_bad s a n c l b m d k w h1 h2 h).mono ?_
    rintro e w' ⟨rfl, hb⟩
    rw [show wS s l k = 0 by simp [wS, h], show wL s l k = [] by simp [wL, h]]
    exact ⟨⟨_, _, _, rfl, Ints.nilSlice _, fun x e => by cases e⟩, hb⟩

theorem WriteZone_u (s : Int) (a : Option Addr) (n c : Nat) (l : List Int) (b : Option Addr) (m d : Nat) (k : List Int) (w : World) (h1 : Ints w a n c l) (h2 : Ints w b m d k) :
    Calls Tryz.prog 64 #[.agg #[.int .i64 s, .slice a n c], .slice b m d] w fun e w' => (∃ a' n' c', e = .returned (.tuple #[.agg #[.int .i64 (wS s l k), .slice a' n' c'], .int .i64 (writeE s l k)]) ∧ Ints w' a' n' c' (wL s l k) ∧ ∀ x, a' = some x → w.heap.size ≤ x.block) ∧ Below w.heap.size w w' := by
  by_cases h : writeE s l k = 0
  · refine (WriteZone_ok s a n c l b m d k w h1 h2 h).mono ?_
    rintro e w' ⟨⟨a', c', rfl, i, hq⟩, hb⟩
    rw [show wS s l k = writeS s (n + m) by simp [wS, h, h1.len, h2.len], show wL s l k = l ++ k by simp [wL, h], h]
    exact ⟨⟨_, _, _, rfl, i, hq⟩, hb⟩
  · refine (WriteZone_bad s a n c l b m d k w h1 h2 h).mono ?_
    rintro e w' ⟨rfl, hb⟩
    rw [show wS s l k = 0 by simp [wS, h], show wL s l k = [] by simp [wL, h]]
    exact ⟨⟨_, _, _, rfl, Ints.nilSlice _, fun x e => by cases e⟩, hb⟩

end Go.Proofs.YtkamnbigfdbgbaaGreatDoor

/- The contract of the document's own OnZones at Append; no condition but that the slices read as zones and data. -/
namespace Go.Proofs.YtkamnbigfdbgbaaGreatDoor
open Go.RowKit
set_option linter.unusedVariables false
set_option maxRecDepth 100000
set_option linter.unusedSimpArgs false

set_option maxHeartbeats 8000000 in
theorem OnZ_append (b off c : Nat) (Z : List ZV) (k : Nat) (z : ZV) (bd : Option Addr) (m d : Nat) (data : List Int) (w : World) (h : Zones w (some ⟨b, off, none⟩) 4 c Z) (hd : Ints w bd m d data) (hok : checkZs (Z.map ZV.p) = 0) (hk : k < 4) (hz : Z[k]? = some z)
    (hr : ∀ i z, Z[i]? = some z → w.cell? ⟨b, off + i * 2, none⟩ = some (.int .i64 z.s) ∧ w.cell? ⟨b, off + i * 2 + 1, none⟩ = some (.slice z.a z.n z.c)) :
    Calls Tryz.prog 40 #[.slice (some ⟨b, off, none⟩) 4 c, .int .i64 5, .int .i64 k, .slice bd m d] w fun e w' =>
      ((writeE z.s z.l data ≠ 0 ∧ e = .returned (.tuple #[.slice none 0 0, .int .i64 0, .int .i64 (writeE z.s z.l data)])) ∨
       (writeE z.s z.l data = 0 ∧ roomZ Z z.s = none ∧ e = .returned (.tuple #[.slice none 0 0, .int .i64 0, .int .i64 7])) ∨
       (writeE z.s z.l data = 0 ∧ ∃ Z' g cap u, roomZ Z z.s = some Z' ∧ e = .returned (.tuple #[.slice (some ⟨g, 0, none⟩) 4 cap, .int .i64 z.l.length, .int .i64 0]) ∧ u.p = (wS z.s z.l data, wL z.s z.l data) ∧ Mine w' w.heap.size g 4 cap (Z'.set k u) ∧ ∀ x, u.a = some x → w.heap.size ≤ x.block)) ∧ Below w.heap.size w w' := by
  have HX := hide hok
  have hk' : (k : Int) < 4 := by omega
  have hin : inB (k : Int) 0 3 = true := by simp [inB]; omega
  clear hok
  go_enter Tryz.func40, Tryz.ntmps40
  go_wp2_with fail
  refine (CheckZones_c _ 4 c Z _ h).mono ?_
  rintro e w1 ⟨rfl, hb1⟩
  rw [HX.out]
  have hzok := (h.ok z (List.mem_of_getElem? hz)).below hb1 (Nat.le_refl _)
  have hzl := hide hzok.len
  obtain ⟨c0, c1⟩ := hr k z hz
  replace c0 := keepc hb1 c0
  replace c1 := keepc hb1 c1
  replace h := h.below hb1 (Nat.le_refl _)
  replace hd := hd.below hb1 (Nat.le_refl _)
  replace hr := fun i z hz => (⟨keepc hb1 (hr i z hz).1, keepc hb1 (hr i z hz).2⟩ : _ ∧ _)
  have HZ := hide hz
  clear hz
  have HR := hide hr
  clear hr
  go_wp2_with (first | (go_at_call 26; refine (in_c _ _ _ _).mono ?_; rintro e w1 ⟨rfl, rfl⟩))
  refine (WriteZone_u z.s z.a z.n z.c z.l bd m d data _ (Ints.below hzok (B := w1.heap.size) (by (repeat first | exact bel0 | assumption | refine bel1 ?_ | refine bel2 ?_ | refine bel3 ?_ | refine belowT ?_ (by assumption) | refine bel5 ?_ (by simp; try omega))) (Nat.le_refl _)) (hd.below (B := w1.heap.size) (by (repeat first | exact bel0 | assumption | refine bel1 ?_ | refine bel2 ?_ | refine bel3 ?_ | refine belowT ?_ (by assumption) | refine bel5 ?_ (by simp; try omega))) (Nat.le_refl _))).mono ?_
  rintro e w3 ⟨⟨a3, n3, c3, rfl, i3, hfr⟩, hb3⟩
  have b3 : Below w1.heap.size w1 w3 := by (repeat first | exact bel0 | assumption | refine bel1 ?_ | refine bel2 ?_ | refine bel3 ?_ | refine belowT ?_ (by assumption) | refine bel5 ?_ (by simp; try omega))
  have x0 := keepc hb3 (p := ⟨w1.heap.size, 0, none⟩) (u := .int .i64 z.s) (by go_simp)
  have x1 := keepc hb3 (p := ⟨w1.heap.size, 1, none⟩) (u := .slice z.a z.n z.c) (by go_simp)
  have f0 := keepf hb3 (p := ⟨w1.heap.size, 0, none⟩) (u := .int .i64 z.s) (by go_simp) (b := false) (by go_simp)
  have f1 := keepf hb3 (p := ⟨w1.heap.size, 1, none⟩) (u := .slice z.a z.n z.c) (by go_simp) (b := false) (by go_simp)
  clear hb3
  generalize hws : wS z.s z.l data = sg at *
  have HWS := hide hws
  clear hws
  by_cases hwe : writeE z.s z.l data = 0
  · have HWE := hide hwe
    rw [hwe]
    clear hwe
    have x0' := past1 x0
    have x1' := past1 x1
    have f0' := pastf1 x0 f0
    have f1' := pastf1 x1 f1
    have z1 : w1.heap.size < w3.heap.size := World.block_lt_of_cell? _ _ x0
    go_wp2_with fail
    simp at hfr
    have HFA := hide (show ∀ x, a3 = some x → w.heap.size ≤ x.block from fun x e => by have := hfr x e; have := hb1.size; omega)
    have hne : n3 = 0 ∨ ∀ x, a3 = some x → x.block ≠ w1.heap.size := .inr fun x e => by have := hfr x e; omega
    have i4 := (Ints.setCell' i3 ⟨w1.heap.size, 0, none⟩ (.int .i64 sg) hne).setCell' ⟨w1.heap.size, 1, none⟩ (.slice a3 n3 c3) hne
    have bx : Below w1.heap.size w1 ((w3.setCell ⟨w1.heap.size, 0, none⟩ (.int .i64 sg)).setCell ⟨w1.heap.size, 1, none⟩ (.slice a3 n3 c3)) := by (repeat first | exact bel0 | assumption | refine bel1 ?_ | refine bel2 ?_ | refine bel3 ?_ | refine belowT ?_ (by assumption) | refine bel5 ?_ (by simp; try omega))
    have y0 : ((w3.setCell ⟨w1.heap.size, 0, none⟩ (.int .i64 sg)).setCell ⟨w1.heap.size, 1, none⟩ (.slice a3 n3 c3)).cell? ⟨w1.heap.size, 0, none⟩ = some (.int .i64 sg) := by
      rw [World.cell?_setCell_other _ _ _ _ (by simp)]; exact World.cell?_setCell_same _ _ _ x0
    have y1 : ((w3.setCell ⟨w1.heap.size, 0, none⟩ (.int .i64 sg)).setCell ⟨w1.heap.size, 1, none⟩ (.slice a3 n3 c3)).cell? ⟨w1.heap.size, 1, none⟩ = some (.slice a3 n3 c3) := by
      exact World.cell?_setCell_same _ _ _ (by rw [World.cell?_setCell_other _ _ _ _ (by simp)]; exact x1)
    clear x0' x1' f0' f1' x0 x1 f0 f1 i3
    generalize (w3.setCell ⟨w1.heap.size, 0, none⟩ (.int .i64 sg)).setCell ⟨w1.heap.size, 1, none⟩ (.slice a3 n3 c3) = wx at *
    refine (roomFor_c b off c Z k z _ (h.below (B := w1.heap.size) (by (repeat first | exact bel0 | assumption | refine bel1 ?_ | refine bel2 ?_ | refine bel3 ?_ | refine belowT ?_ (by assumption) | refine bel5 ?_ (by simp; try omega))) (Nat.le_refl _)) hk HZ.out (fun i z hz => ⟨keepc (by (repeat first | exact bel0 | assumption | refine bel1 ?_ | refine bel2 ?_ | refine bel3 ?_ | refine belowT ?_ (by assumption) | refine bel5 ?_ (by simp; try omega))) (HR.out i z hz).1, keepc (by (repeat first | exact bel0 | assumption | refine bel1 ?_ | refine bel2 ?_ | refine bel3 ?_ | refine belowT ?_ (by assumption) | refine bel5 ?_ (by simp; try omega))) (HR.out i z hz).2⟩)).mono ?_
    rintro e w5 ⟨hres, hb5⟩
    have b5 : Below wx.heap.size wx w5 := by (repeat first | exact bel0 | assumption | refine bel1 ?_ | refine bel2 ?_ | refine bel3 ?_ | refine belowT ?_ (by assumption) | refine bel5 ?_ (by simp; try omega))
    have b15 : Below w1.heap.size w1 w5 := belowT bx b5
    rcases hres with ⟨hrz, rfl⟩ | ⟨Z', g3, cap3, hrz, rfl, hm3⟩
    · have HRZ := hide hrz
      clear hrz
      go_wp2_with (go_at_call 62; refine (bad_c _ _).mono ?_; rintro e w5 ⟨rfl, rfl⟩)
      go_ret3
      exact ⟨.inr (.inl ⟨HWE.out, HRZ.out, rfl⟩), by (repeat first | exact bel0 | assumption | refine bel1 ?_ | refine bel2 ?_ | refine bel3 ?_ | refine belowT ?_ (by assumption) | refine bel5 ?_ (by simp; try omega))⟩
    · obtain ⟨u, hu⟩ := roomZ_get hrz k z HZ.out
      have HRZ := hide hrz
      have HU := hide hu
      clear hrz hu
      replace y0 := keepc b5 y0
      replace y1 := keepc b5 y1
      clear hb5
      go_wp2_with fail
      refine (CloneZ_c g3 0 cap3 4 Z' _ hm3.zs (by omega) (by omega) (fun i z hz => by simpa using hm3.cells i z hz)).mono ?_
      rintro e w2 ⟨⟨g, cap, rfl, hm⟩, hb2⟩
      replace y0 := keepc hb2 y0
      replace y1 := keepc hb2 y1
      have s0 := hm.soft (k * 2) (by omega)
      have s1 := hm.soft (k * 2 + 1) (by omega)
      obtain ⟨v0, v1⟩ := hm.cells k u HU.out
      have b2 : Below w1.heap.size w1 w2 := belowT b15 hb2
      have hx2 := belowT b5 hb2
      have hb12 := hb1.size
      have hb13 := b15.size
      have hmg := hm.base
      have hset := (hm.mono (base' := w.heap.size) (by omega)).set k hk ⟨sg, a3, n3, c3, wL z.s z.l data⟩ (Ints.below i4 hx2 (Nat.le_refl _)) (ZV.off_new (w := wx) (z := ⟨sg, a3, n3, c3, wL z.s z.l data⟩) i4 (by have := b5.size; omega))
      have bw2 : Below w.heap.size w w2 := belowT hb1 b2
      clear hb2 hm
      go_wp2
      go_ret3
      refine ⟨.inr (.inr ⟨HWE.out, Z', g, cap, _, HRZ.out, ?_, ?_, hset, HFA.out⟩), by (repeat first | exact bel0 | assumption | refine bel1 ?_ | refine bel2 ?_ | refine bel3 ?_ | refine belowT ?_ (by assumption) | refine bel5 ?_ (by simp; try omega))⟩
      · rw [hzl.out]; rfl
      · rw [HWS.out]; rfl
  · have hx : (writeE z.s z.l data != 0) = true := by simpa using hwe
    have HWE := hide hwe
    clear hwe
    go_wp2_with (go_at_call 62; refine (bad_c _ _).mono ?_; rintro e w9 ⟨rfl, rfl⟩)
    go_ret3
    exact ⟨.inl ⟨HWE.out, rfl⟩, by (repeat first | exact bel0 | assumption | refine bel1 ?_ | refine bel2 ?_ | refine bel3 ?_ | refine belowT ?_ (by assumption) | refine bel5 ?_ (by simp; try omega))⟩

end Go.Proofs.YtkamnbigfdbgbaaGreatDoor

/- What the yard's calls answer, plain; and the document's own OnZones gives just that; no condition but that the slices read as zones and data. -/
namespace Go.Proofs.YtkamnbigfdbgbaaGreatDoor
open Go.RowKit
set_option linter.unusedVariables false
set_option maxRecDepth 100000
set_option linter.unusedSimpArgs false

/-- A zone as plain data: state, blocks. -/
abbrev PZ := Int × List Int

def fopenP (P : List PZ) : Option Nat := P.findIdx? fun z => z.1 == 1
def roomP (P : List PZ) (s : Int) : Option (List PZ) :=
  if isO s then some P
  else if s = 4 ∨ s = 0 ∧ 3 ≤ cntP isA P then none
  else if cntP isO P < 2 then some P
  else match fopenP P with
    | none => none
    | some i => some (P.modify i shutP)
/-- What is wrong first: the zones, or the number. -/
def pre (P : List PZ) (k : Int) : Int := if checkZs P ≠ 0 then checkZs P else if inB k 0 3 then 0 else 5
def at' (P : List PZ) (k : Int) : PZ := P.getD k.toNat (0, [])
def holdP (P : List PZ) (k : Int) : List PZ × Int :=
  if pre P k ≠ 0 then ([], pre P k) else match roomP P (at' P k).1 with
    | none => ([], 7)
    | some Q => (Q.set k.toNat (2, (at' P k).2), 0)
def closeP (P : List PZ) (k : Int) : List PZ × Int :=
  if pre P k ≠ 0 then ([], pre P k) else if isO (at' P k).1 then (P.set k.toNat (shutP (at' P k)), 0) else ([], 6)
def finishP (P : List PZ) (k : Int) : List PZ × Int :=
  if pre P k ≠ 0 then ([], pre P k) else (P.set k.toNat (4, (at' P k).2), 0)
def resetP (P : List PZ) (k : Int) : List PZ × Int :=
  if pre P k ≠ 0 then ([], pre P k) else (P.set k.toNat (0, []), 0)
def writeP (P : List PZ) (k : Int) (data : List Int) : List PZ × Int × Int :=
  if pre P k ≠ 0 then ([], 0, pre P k)
  else if writeE (at' P k).1 (at' P k).2 data ≠ 0 then ([], 0, writeE (at' P k).1 (at' P k).2 data)
  else match roomP P (at' P k).1 with
    | none => ([], 0, 7)
    | some Q => (Q.set k.toNat (wS (at' P k).1 (at' P k).2 data, wL (at' P k).1 (at' P k).2 data), ((at' P k).2.length : Int), 0)

theorem fopen_p (Z : List ZV) : fopen Z = fopenP (Z.map ZV.p) := by
  unfold fopen fopenP
  rw [List.findIdx?_map]
  rfl
theorem modify_p (Z : List ZV) (i : Nat) : (Z.modify i ZV.shut).map ZV.p = (Z.map ZV.p).modify i shutP := by
  apply List.ext_getElem?
  intro j
  simp only [List.getElem?_map, List.getElem?_modify]
  cases Z[j]? with
  | none => simp
  | some z =>
    by_cases e : i = j
    · simp [e, ZV.shut_p]
    · simp [e]
theorem room_p (Z : List ZV) (s : Int) : (roomZ Z s).map (List.map ZV.p) = roomP (Z.map ZV.p) s := by
  unfold roomZ roomP
  rw [← cnt_map, ← cnt_map, ← fopen_p]
  split
  · rfl
  · split
    · rfl
    · split
      · rfl
      · cases fopen Z with
        | none => rfl
        | some i => simp [modify_p]
theorem room_none {Z : List ZV} {s : Int} (h : roomZ Z s = none) : roomP (Z.map ZV.p) s = none := by rw [← room_p, h]; rfl
theorem room_some {Z Z' : List ZV} {s : Int} (h : roomZ Z s = some Z') : roomP (Z.map ZV.p) s = some (Z'.map ZV.p) := by rw [← room_p, h]; rfl

/-- What is known of zones and a number with which nothing is wrong. -/
theorem pre_ok {w : World} {a : Option Addr} {n c : Nat} {Z : List ZV} (h : Zones w a n c Z) {k : Int} (hp : pre (Z.map ZV.p) k = 0) :
    checkZs (Z.map ZV.p) = 0 ∧ ∃ (j b off : Nat) (z : ZV), k = j ∧ j < 4 ∧ n = 4 ∧ a = some ⟨b, off, none⟩ ∧ Z[j]? = some z ∧ at' (Z.map ZV.p) k = z.p ∧
      ∀ i z, Z[i]? = some z → w.cell? ⟨b, off + i * 2, none⟩ = some (.int .i64 z.s) ∧ w.cell? ⟨b, off + i * 2 + 1, none⟩ = some (.slice z.a z.n z.c) := by
  unfold pre at hp
  by_cases hc : checkZs (Z.map ZV.p) = 0
  · simp [hc] at hp
    obtain ⟨h4, b, off, ha, hr⟩ := zs_four h hc
    have hk : 0 ≤ k ∧ k ≤ 3 := by simp [inB] at hp; omega
    obtain ⟨j, rfl⟩ := Int.eq_ofNat_of_zero_le hk.1
    have hj : j < Z.length := by rw [h.len]; omega
    refine ⟨hc, j, b, off, Z[j], rfl, by omega, h4, ha, by simp, ?_, hr⟩
    simp [at', List.getD, hj]
  · simp [hc] at hp

theorem set_p (Z : List ZV) (j : Nat) (u : ZV) : (Z.set j u).map ZV.p = (Z.map ZV.p).set j u.p := by rw [List.map_set]

/-- Zones of the call's own, or nothing. -/
theorem zs_nil (w : World) : Zones w none 0 0 [] := ⟨rfl, Nat.le_refl _, by omega, fun _ => rfl, .inl rfl, by simp⟩

theorem OnZ_pre (kd : Int) (a : Option Addr) (n c : Nat) (Z : List ZV) (k : Int) (b : Option Addr) (m d : Nat) (w : World) (h : Zones w a n c Z) (hp : pre (Z.map ZV.p) k ≠ 0) :
    Calls Tryz.prog 40 #[.slice a n c, .int .i64 kd, .int .i64 k, .slice b m d] w fun e w' => e = .returned (.tuple #[.slice none 0 0, .int .i64 0, .int .i64 (pre (Z.map ZV.p) k)]) ∧ Below w.heap.size w w' := by
  by_cases hc : checkZs (Z.map ZV.p) = 0
  · have hk : inB k 0 3 = false := by
      cases hk : inB k 0 3
      · rfl
      · exact absurd (by simp [pre, hc, hk]) hp
    rw [show pre (Z.map ZV.p) k = 5 by simp [pre, hc, hk]]
    exact OnZ_who kd a n c Z k b m d w h hc hk
  · rw [show pre (Z.map ZV.p) k = checkZs (Z.map ZV.p) by simp [pre, hc]]
    exact OnZ_bad kd a n c Z k b m d w h hc

/-- Of a block that was there, and in which none of the zones' blocks lie, neither the new list nor its zones' blocks are. -/
def Avoid (w : World) (Z : List ZV) (a' : Option Addr) (Z' : List ZV) : Prop := ∀ R, R < w.heap.size → (∀ z ∈ Z, z.off R) → (∀ x, a' = some x → x.block ≠ R) ∧ ∀ z ∈ Z', z.off R
theorem Avoid.none (w : World) (Z : List ZV) : Avoid w Z none [] := fun R _ _ => ⟨fun x e => (by cases e), fun z hz => by cases hz⟩
theorem Avoid.mk {w : World} {Z Z' : List ZV} {g : Nat} (hg : w.heap.size ≤ g) (h : ∀ R, R < w.heap.size → (∀ z ∈ Z, z.off R) → ∀ z ∈ Z', z.off R) : Avoid w Z (some ⟨g, 0, Option.none⟩) Z' :=
  fun R hR ho => ⟨fun x e => by cases e; simp; omega, h R hR ho⟩
theorem off_set {Z : List ZV} {R : Nat} (h : ∀ z ∈ Z, z.off R) (j : Nat) {u : ZV} (hu : u.off R) : ∀ z ∈ Z.set j u, z.off R := fun z hz => by
  rcases List.mem_or_eq_of_mem_set hz with hz | rfl
  · exact h z hz
  · exact hu
theorem off_room {Z Z' : List ZV} {s : Int} (hr : roomZ Z s = some Z') {R : Nat} (h : ∀ z ∈ Z, z.off R) : ∀ z ∈ Z', z.off R := by
  unfold roomZ at hr
  split at hr
  · cases hr; exact h
  · split at hr
    · cases hr
    · split at hr
      · cases hr; exact h
      · cases hf : fopen Z with
        | none => rw [hf] at hr; cases hr
        | some i =>
          rw [hf] at hr
          cases hr
          obtain ⟨z, hz, _, _⟩ := fopen_some hf
          rw [modify_set hz]
          exact off_set h i (ZV.shut_off (h z (List.mem_of_getElem? hz)))

theorem OnZ_hold_f (a : Option Addr) (n c : Nat) (Z : List ZV) (k : Int) (bd : Option Addr) (m d : Nat) (w : World) (h : Zones w a n c Z) :
    Calls Tryz.prog 40 #[.slice a n c, .int .i64 1, .int .i64 k, .slice bd m d] w fun e w' => (∃ a' n' c' Z', e = .returned (.tuple #[.slice a' n' c', .int .i64 0, .int .i64 (holdP (Z.map ZV.p) k).2]) ∧ Zones w' a' n' c' Z' ∧ Avoid w Z a' Z' ∧ Z'.map ZV.p = (holdP (Z.map ZV.p) k).1) ∧ Below w.heap.size w w' := by
  by_cases hp : pre (Z.map ZV.p) k = 0
  · obtain ⟨hc, j, b, off, z, rfl, hj, rfl, rfl, hz, hat, hr⟩ := pre_ok h hp
    refine (OnZ_open b off c Z j z bd m d w h hc hj hz hr).mono ?_
    rintro e w' ⟨⟨hrz, rfl⟩ | ⟨Z', g, cap, hrz, rfl, hm⟩, hb⟩
    · rw [show holdP (Z.map ZV.p) j = ([], 7) by simp [holdP, hp, hat, room_none hrz, ZV.p]]
      exact ⟨⟨none, 0, 0, [], rfl, zs_nil _, Avoid.none _ _, rfl⟩, hb⟩
    · rw [show holdP (Z.map ZV.p) j = ((Z'.map ZV.p).set j (2, z.l), 0) by simp [holdP, hp, hat, room_some hrz, ZV.p]]
      exact ⟨⟨_, 4, cap, _, rfl, hm.zs, Avoid.mk hm.base fun R _ ho => off_set (off_room hrz ho) j (u := ⟨2, z.a, z.n, z.c, z.l⟩) (ho z (List.mem_of_getElem? hz)), set_p _ _ _⟩, hb⟩
  · refine (OnZ_pre 1 a n c Z k bd m d w h hp).mono ?_
    rintro e w' ⟨rfl, hb⟩
    rw [show holdP (Z.map ZV.p) k = ([], pre (Z.map ZV.p) k) by simp [holdP, hp]]
    exact ⟨⟨none, 0, 0, [], rfl, zs_nil _, Avoid.none _ _, rfl⟩, hb⟩

theorem OnZ_close_f (a : Option Addr) (n c : Nat) (Z : List ZV) (k : Int) (bd : Option Addr) (m d : Nat) (w : World) (h : Zones w a n c Z) :
    Calls Tryz.prog 40 #[.slice a n c, .int .i64 2, .int .i64 k, .slice bd m d] w fun e w' => (∃ a' n' c' Z', e = .returned (.tuple #[.slice a' n' c', .int .i64 0, .int .i64 (closeP (Z.map ZV.p) k).2]) ∧ Zones w' a' n' c' Z' ∧ Avoid w Z a' Z' ∧ Z'.map ZV.p = (closeP (Z.map ZV.p) k).1) ∧ Below w.heap.size w w' := by
  by_cases hp : pre (Z.map ZV.p) k = 0
  · obtain ⟨hc, j, b, off, z, rfl, hj, rfl, rfl, hz, hat, hr⟩ := pre_ok h hp
    cases hs : isO z.s
    · refine (OnZ_close_no b off c Z j z bd m d w h hc hj hz hs hr).mono ?_
      rintro e w' ⟨rfl, hb⟩
      rw [show closeP (Z.map ZV.p) j = ([], 6) by simp [closeP, hp, hat, hs, ZV.p]]
      exact ⟨⟨none, 0, 0, [], rfl, zs_nil _, Avoid.none _ _, rfl⟩, hb⟩
    · refine (OnZ_close b off c Z j z bd m d w h hc hj hz hs hr).mono ?_
      rintro e w' ⟨⟨g, cap, rfl, hm⟩, hb⟩
      rw [show closeP (Z.map ZV.p) j = ((Z.map ZV.p).set j (shutP z.p), 0) by simp [closeP, hp, hat, show isO z.p.1 = true from hs]]
      exact ⟨⟨_, 4, cap, _, rfl, hm.zs, Avoid.mk hm.base fun R _ ho => off_set ho j (ZV.shut_off (ho z (List.mem_of_getElem? hz))), by rw [set_p, ZV.shut_p]⟩, hb⟩
  · refine (OnZ_pre 2 a n c Z k bd m d w h hp).mono ?_
    rintro e w' ⟨rfl, hb⟩
    rw [show closeP (Z.map ZV.p) k = ([], pre (Z.map ZV.p) k) by simp [closeP, hp]]
    exact ⟨⟨none, 0, 0, [], rfl, zs_nil _, Avoid.none _ _, rfl⟩, hb⟩

theorem OnZ_finish_f (a : Option Addr) (n c : Nat) (Z : List ZV) (k : Int) (bd : Option Addr) (m d : Nat) (w : World) (h : Zones w a n c Z) :
    Calls Tryz.prog 40 #[.slice a n c, .int .i64 3, .int .i64 k, .slice bd m d] w fun e w' => (∃ a' n' c' Z', e = .returned (.tuple #[.slice a' n' c', .int .i64 0, .int .i64 (finishP (Z.map ZV.p) k).2]) ∧ Zones w' a' n' c' Z' ∧ Avoid w Z a' Z' ∧ Z'.map ZV.p = (finishP (Z.map ZV.p) k).1) ∧ Below w.heap.size w w' := by
  by_cases hp : pre (Z.map ZV.p) k = 0
  · obtain ⟨hc, j, b, off, z, rfl, hj, rfl, rfl, hz, hat, hr⟩ := pre_ok h hp
    refine (OnZ_finish b off c Z j z bd m d w h hc hj hz hr).mono ?_
    rintro e w' ⟨⟨g, cap, rfl, hm⟩, hb⟩
    rw [show finishP (Z.map ZV.p) j = ((Z.map ZV.p).set j (4, z.l), 0) by simp [finishP, hp, hat, ZV.p]]
    exact ⟨⟨_, 4, cap, _, rfl, hm.zs, Avoid.mk hm.base fun R _ ho => off_set ho j (u := ⟨4, z.a, z.n, z.c, z.l⟩) (ho z (List.mem_of_getElem? hz)), set_p _ _ _⟩, hb⟩
  · refine (OnZ_pre 3 a n c Z k bd m d w h hp).mono ?_
    rintro e w' ⟨rfl, hb⟩
    rw [show finishP (Z.map ZV.p) k = ([], pre (Z.map ZV.p) k) by simp [finishP, hp]]
    exact ⟨⟨none, 0, 0, [], rfl, zs_nil _, Avoid.none _ _, rfl⟩, hb⟩

theorem OnZ_reset_f (a : Option Addr) (n c : Nat) (Z : List ZV) (k : Int) (bd : Option Addr) (m d : Nat) (w : World) (h : Zones w a n c Z) :
    Calls Tryz.prog 40 #[.slice a n c, .int .i64 4, .int .i64 k, .slice bd m d] w fun e w' => (∃ a' n' c' Z', e = .returned (.tuple #[.slice a' n' c', .int .i64 0, .int .i64 (resetP (Z.map ZV.p) k).2]) ∧ Zones w' a' n' c' Z' ∧ Avoid w Z a' Z' ∧ Z'.map ZV.p = (resetP (Z.map ZV.p) k).1) ∧ Below w.heap.size w w' := by
  by_cases hp : pre (Z.map ZV.p) k = 0
  · obtain ⟨hc, j, b, off, z, rfl, hj, rfl, rfl, hz, hat, hr⟩ := pre_ok h hp
    refine (OnZ_reset b off c Z j z bd m d w h hc hj hz hr).mono ?_
    rintro e w' ⟨⟨g, cap, rfl, hm⟩, hb⟩
    rw [show resetP (Z.map ZV.p) j = ((Z.map ZV.p).set j (0, []), 0) by simp [resetP, hp]]
    exact ⟨⟨_, 4, cap, _, rfl, hm.zs, Avoid.mk hm.base fun R _ ho => off_set ho j (u := ⟨0, none, 0, 0, []⟩) (.inl rfl), set_p _ _ _⟩, hb⟩
  · refine (OnZ_pre 4 a n c Z k bd m d w h hp).mono ?_
    rintro e w' ⟨rfl, hb⟩
    rw [show resetP (Z.map ZV.p) k = ([], pre (Z.map ZV.p) k) by simp [resetP, hp]]
    exact ⟨⟨none, 0, 0, [], rfl, zs_nil _, Avoid.none _ _, rfl⟩, hb⟩

theorem OnZ_append_f (a : Option Addr) (n c : Nat) (Z : List ZV) (k : Int) (bd : Option Addr) (m d : Nat) (data : List Int) (w : World) (h : Zones w a n c Z) (hd : Ints w bd m d data) :
    Calls Tryz.prog 40 #[.slice a n c, .int .i64 5, .int .i64 k, .slice bd m d] w fun e w' => (∃ a' n' c' Z', e = .returned (.tuple #[.slice a' n' c', .int .i64 (writeP (Z.map ZV.p) k data).2.1, .int .i64 (writeP (Z.map ZV.p) k data).2.2]) ∧ Zones w' a' n' c' Z' ∧ Avoid w Z a' Z' ∧ Z'.map ZV.p = (writeP (Z.map ZV.p) k data).1) ∧ Below w.heap.size w w' := by
  by_cases hp : pre (Z.map ZV.p) k = 0
  · obtain ⟨hc, j, b, off, z, rfl, hj, rfl, rfl, hz, hat, hr⟩ := pre_ok h hp
    refine (OnZ_append b off c Z j z bd m d data w h hd hc hj hz hr).mono ?_
    rintro e w' ⟨⟨hw, rfl⟩ | ⟨hw, hrz, rfl⟩ | ⟨hw, Z', g, cap, u, hrz, rfl, hu, hm, huf⟩, hb⟩
    · rw [show writeP (Z.map ZV.p) j data = ([], 0, writeE z.s z.l data) by simp [writeP, hp, hat, hw, ZV.p]]
      exact ⟨⟨none, 0, 0, [], rfl, zs_nil _, Avoid.none _ _, rfl⟩, hb⟩
    · rw [show writeP (Z.map ZV.p) j data = ([], 0, 7) by simp [writeP, hp, hat, hw, room_none hrz, ZV.p]]
      exact ⟨⟨none, 0, 0, [], rfl, zs_nil _, Avoid.none _ _, rfl⟩, hb⟩
    · rw [show writeP (Z.map ZV.p) j data = ((Z'.map ZV.p).set j (wS z.s z.l data, wL z.s z.l data), (z.l.length : Int), 0) by simp [writeP, hp, hat, hw, room_some hrz, ZV.p]]
      exact ⟨⟨_, 4, cap, _, rfl, hm.zs, Avoid.mk hm.base fun R hR ho => off_set (off_room hrz ho) j (u := u) (.inr fun x e => by have := huf x e; omega), by rw [set_p, hu]⟩, hb⟩
  · refine (OnZ_pre 5 a n c Z k bd m d w h hp).mono ?_
    rintro e w' ⟨rfl, hb⟩
    rw [show writeP (Z.map ZV.p) k data = ([], 0, pre (Z.map ZV.p) k) by simp [writeP, hp]]
    exact ⟨⟨none, 0, 0, [], rfl, zs_nil _, Avoid.none _ _, rfl⟩, hb⟩

end Go.Proofs.YtkamnbigfdbgbaaGreatDoor
