/- The contract of yard's makeRoom; no condition but that the zones lie in memory of the call's own. -/
import Derived.Test.YtkamnbigfdbgbaaGreatDoorDeskSaysG11
import Derived.Test.YtkamnbigfdbgbaaGreatDoorDeskSaysG4
import Derived.Test.YtkamnbigfdbgbaaGreatDoorDeskSaysG7
namespace Go.Proofs.YtkamnbigfdbgbaaGreatDoor
open Go.RowKit
set_option linter.unusedVariables false
set_option maxRecDepth 100000
set_option linter.unusedSimpArgs false

theorem fopen_at {Z : List ZV} {i : Nat} {z : ZV} (hz : Z[i]? = some z) (h1 : hasB [1] z.s = true) (hb : ∀ (j : Nat) (y : ZV), j < i → Z[j]? = some y → hasB [1] y.s = false) : fopen Z = some i := by
  obtain ⟨hi, rfl⟩ := List.getElem?_eq_some_iff.1 hz
  unfold fopen
  rw [List.findIdx?_eq_some_iff_getElem]
  refine ⟨hi, by rw [has_1] at h1; exact h1, fun j hj => ?_⟩
  have := hb j Z[j] hj (by simp)
  rw [has_1] at this
  simp [this]
theorem fopen_no {Z : List ZV} (hb : ∀ (j : Nat) (y : ZV), Z[j]? = some y → hasB [1] y.s = false) : fopen Z = none := by
  unfold fopen
  rw [List.findIdx?_eq_none_iff]
  intro z hz
  obtain ⟨j, hj, rfl⟩ := List.mem_iff_getElem.1 hz
  have := hb j Z[j] (by simp)
  rw [has_1] at this
  exact this

/-- What makeRoom leaves. -/
def Room (base g c : Nat) (Z : List ZV) (k : Nat) (y : ZV) (e : Ending) (w' : World) : Prop :=
  (roomP (Z.map ZV.p) y.s = none ∧ e = .returned (.int .i64 7)) ∨
  (∃ Z' u, roomP (Z.map ZV.p) y.s = some (Z'.map ZV.p) ∧ e = .returned (.int .i64 0) ∧ Mine w' base g 4 c Z' ∧ Z'[k]? = some u ∧ u.l = y.l ∧ ∀ B, NewL B Z → NewL B Z')

theorem set_get {Z : List ZV} {k i : Nat} {y z : ZV} (hy : Z[k]? = some y) (hz : Z[i]? = some z) (s : Int) : ∃ u, (Z.set i (z.to s))[k]? = some u ∧ u.l = y.l := by
  have hk := (List.getElem?_eq_some_iff.1 hy).1
  by_cases e : i = k
  · subst e
    rw [hy] at hz
    cases hz
    exact ⟨_, List.getElem?_set_self hk, rfl⟩
  · exact ⟨y, by rw [List.getElem?_set_ne e]; exact hy, rfl⟩

set_option maxHeartbeats 2000000 in
theorem makeRoom_end (base g c : Nat) (Z : List ZV) (k : Nat) (y : ZV) (w : World) (hm : Mine w base g 4 c Z) (hk : k < 4) (hy : Z[k]? = some y) (hs1 : y.s ≠ 1) (hs2 : y.s ≠ 2) (hs4 : y.s ≠ 4) (hs0 : y.s ≠ 0) :
    Calls Tryz.prog 97 #[.slice (some ⟨g, 0, none⟩) 4 c, .int .i64 k] w fun e w' => Room base g c Z k y e w' ∧ But g w w' := by
  obtain ⟨c0, c1⟩ := hm.cells k y hy
  have hk' : (k : Int) < 4 := by omega
  have t1 : (y.s == 1) = false := by simpa using hs1
  have t2 : (y.s == 2) = false := by simpa using hs2
  have t4 : (y.s == 4) = false := by simpa using hs4
  have t0 : (y.s == 0) = false := by simpa using hs0
  have q1 := cnt_le isO Z
  rw [hm.zs.len] at q1
  have HS := hide (show ¬ (y.s = 1 ∨ y.s = 2) ∧ ¬ (y.s = 4 ∨ y.s = 0 ∧ 3 ≤ cnt isA Z) by omega)
  have HY := hide hy
  clear hs1 hs2 hs4 hs0 hy
  go_enter Tryz.func97, Tryz.ntmps97
  go_wp2_with fail
  have b0 := But.refl g w
  refine (yopened_c _ 4 c Z _ hm.zs (by omega)).mono ?_
  rintro e w1 ⟨rfl, hb1⟩
  replace b0 := b0.trans (hm.but hb1)
  replace hm := hm.below hb1
  clear hb1
  by_cases ho : cnt isO Z < 2
  · have ho' : (cnt isO Z : Int) < 2 := by omega
    have HO := hide ho
    clear ho
    go_wp2
    go_ret
    exact ⟨.inr ⟨Z, y, room_some (roomZ_3 HS.out.1 HS.out.2 HO.out), rfl, hm, HY.out, rfl, fun _ h => h⟩, b0⟩
  · have ho' : (2 : Int) ≤ (cnt isO Z : Int) := by omega
    have HO := hide ho
    clear ho
    have i0 : Ints (w1.alloc (.cells #[.int .i64 1] 3)) (some ⟨w1.heap.size, 0, none⟩) 1 1 [1] := Ints.of_row (l := [1]) (heap_new w1 _) (by decide) (by decide) rfl
    go_wp2_with fail
    refine (yin_c _ 1 1 _).mono ?_
    rintro e w2 ⟨rfl, rfl⟩
    go_wp2_with fail
    have bn : Below w1.heap.size w1 ((w1.alloc (.cells #[.int .i64 1] 3)).alloc (.cells #[.slice (some ⟨w1.heap.size, 0, none⟩) 1 1] 23)) := by (repeat first | exact bel0 | assumption | refine bel1 ?_ | refine bel2 ?_ | refine bel3 ?_ | refine belowT ?_ (by assumption) | refine bel5 ?_ (by simp; try omega))
    refine (IndexFuncZ_c g 0 4 c Z _ _ 1 1 [1] _ (hm.below bn).zs (fun i z hz => by simpa using (hm.below bn).cells i z hz) (by simp) (i0.below (B := (w1.alloc (.cells #[.int .i64 1] 3)).heap.size) (by (repeat first | exact bel0 | assumption | refine bel1 ?_ | refine bel2 ?_ | refine bel3 ?_ | refine belowT ?_ (by assumption) | refine bel5 ?_ (by simp; try omega))) (Nat.le_refl _))).mono ?_
    rintro e w3 ⟨hres, hb3⟩
    have b13 : Below w1.heap.size w1 w3 := by (repeat first | exact bel0 | assumption | refine bel1 ?_ | refine bel2 ?_ | refine bel3 ?_ | refine belowT ?_ (by assumption) | refine bel5 ?_ (by simp; try omega))
    replace b0 := b0.trans (hm.but b13)
    replace hm := hm.below b13
    clear hb3 b13 bn i0
    rcases hres with ⟨i, z, rfl, hz, hz1, hbef⟩ | ⟨rfl, hno⟩
    · have HF := hide (fopen_at hz hz1 hbef)
      have HZ := hide hz
      have hi4 : i < 4 := by rw [← hm.zs.len]; exact (List.getElem?_eq_some_iff.1 hz).1
      have hi' : (i : Int) < 4 := by omega
      obtain ⟨e0, e1⟩ := hm.cells i z hz
      have s0 := hm.soft (i * 2) (by omega)
      have iz := hm.zs.ok z (List.mem_of_getElem? hz)
      have zl := hide iz.len
      have zm := iz.max
      have zc := iz.le
      clear hz hz1 hbef iz
      go_wp2_with fail
      refine (shut_c g (i * 2) z _ e0 e1 s0 zl.out (by omega)).mono ?_
      rintro e w4 ⟨⟨v, rfl⟩, hp⟩
      have hm4 := hm.put HZ.out hp
      have b4 := b0.trans (But.of_put hp)
      obtain ⟨u, hu, hul⟩ := set_get HY.out HZ.out (shutS z.l)
      have HU := hide hu
      have HUL := hide hul
      clear hp hu hul
      go_wp2
      go_ret
      refine ⟨.inr ⟨_, u, ?_, rfl, hm4, HU.out, HUL.out, fun _ h => h.to HZ.out _⟩, b4⟩
      rw [room_some (roomZ_5 HS.out.1 HS.out.2 HO.out HF.out HZ.out), set_p, set_to_p, ZV.shut_p, ← shutS_p]
    · have HF := hide (fopen_no hno)
      clear hno
      go_wp2
      go_ret
      exact ⟨.inl ⟨room_none (roomZ_4 HS.out.1 HS.out.2 HO.out HF.out), rfl⟩, b0⟩


set_option maxHeartbeats 2000000 in
theorem makeRoom_empty (base g c : Nat) (Z : List ZV) (k : Nat) (y : ZV) (w : World) (hm : Mine w base g 4 c Z) (hk : k < 4) (hy : Z[k]? = some y) (hs0 : y.s = 0) :
    Calls Tryz.prog 97 #[.slice (some ⟨g, 0, none⟩) 4 c, .int .i64 k] w fun e w' => Room base g c Z k y e w' ∧ But g w w' := by
  obtain ⟨c0, c1⟩ := hm.cells k y hy
  rw [hs0] at c0
  have hk' : (k : Int) < 4 := by omega
  have q1 := cnt_le isO Z
  have q2 := cnt_le isA Z
  rw [hm.zs.len] at q1 q2
  have H0 := hide hs0
  have HY := hide hy
  clear hs0 hy
  go_enter Tryz.func97, Tryz.ntmps97
  go_wp2_with fail
  refine (yactive_c _ 4 c Z _ hm.zs (by omega)).mono ?_
  rintro e w5 ⟨rfl, hb5⟩
  have b0 := hm.but hb5
  replace hm := hm.below hb5
  clear hb5
  by_cases ha : 3 ≤ cnt isA Z
  · have ha' : (3 : Int) ≤ (cnt isA Z : Int) := by omega
    have HA := hide ha
    clear ha
    go_wp2
    go_ret
    exact ⟨.inl ⟨room_none (roomZ_2 (by rw [H0.out]; omega) (.inr ⟨H0.out, HA.out⟩)), rfl⟩, b0⟩
  have ha' : (cnt isA Z : Int) < 3 := by omega
  have HS := hide (show ¬ (y.s = 1 ∨ y.s = 2) ∧ ¬ (y.s = 4 ∨ y.s = 0 ∧ 3 ≤ cnt isA Z) by rw [H0.out]; omega)
  clear ha
  go_wp2_with fail
  refine (yopened_c _ 4 c Z _ hm.zs (by omega)).mono ?_
  rintro e w1 ⟨rfl, hb1⟩
  replace b0 := b0.trans (hm.but hb1)
  replace hm := hm.below hb1
  clear hb1
  by_cases ho : cnt isO Z < 2
  · have ho' : (cnt isO Z : Int) < 2 := by omega
    have HO := hide ho
    clear ho
    go_wp2
    go_ret
    exact ⟨.inr ⟨Z, y, room_some (roomZ_3 HS.out.1 HS.out.2 HO.out), rfl, hm, HY.out, rfl, fun _ h => h⟩, b0⟩
  · have ho' : (2 : Int) ≤ (cnt isO Z : Int) := by omega
    have HO := hide ho
    clear ho
    have i0 : Ints (w1.alloc (.cells #[.int .i64 1] 3)) (some ⟨w1.heap.size, 0, none⟩) 1 1 [1] := Ints.of_row (l := [1]) (heap_new w1 _) (by decide) (by decide) rfl
    go_wp2_with fail
    refine (yin_c _ 1 1 _).mono ?_
    rintro e w2 ⟨rfl, rfl⟩
    go_wp2_with fail
    have bn : Below w1.heap.size w1 ((w1.alloc (.cells #[.int .i64 1] 3)).alloc (.cells #[.slice (some ⟨w1.heap.size, 0, none⟩) 1 1] 23)) := by (repeat first | exact bel0 | assumption | refine bel1 ?_ | refine bel2 ?_ | refine bel3 ?_ | refine belowT ?_ (by assumption) | refine bel5 ?_ (by simp; try omega))
    refine (IndexFuncZ_c g 0 4 c Z _ _ 1 1 [1] _ (hm.below bn).zs (fun i z hz => by simpa using (hm.below bn).cells i z hz) (by simp) (i0.below (B := (w1.alloc (.cells #[.int .i64 1] 3)).heap.size) (by (repeat first | exact bel0 | assumption | refine bel1 ?_ | refine bel2 ?_ | refine bel3 ?_ | refine belowT ?_ (by assumption) | refine bel5 ?_ (by simp; try omega))) (Nat.le_refl _))).mono ?_
    rintro e w3 ⟨hres, hb3⟩
    have b13 : Below w1.heap.size w1 w3 := by (repeat first | exact bel0 | assumption | refine bel1 ?_ | refine bel2 ?_ | refine bel3 ?_ | refine belowT ?_ (by assumption) | refine bel5 ?_ (by simp; try omega))
    replace b0 := b0.trans (hm.but b13)
    replace hm := hm.below b13
    clear hb3 b13 bn i0
    rcases hres with ⟨i, z, rfl, hz, hz1, hbef⟩ | ⟨rfl, hno⟩
    · have HF := hide (fopen_at hz hz1 hbef)
      have HZ := hide hz
      have hi4 : i < 4 := by rw [← hm.zs.len]; exact (List.getElem?_eq_some_iff.1 hz).1
      have hi' : (i : Int) < 4 := by omega
      obtain ⟨e0, e1⟩ := hm.cells i z hz
      have s0 := hm.soft (i * 2) (by omega)
      have iz := hm.zs.ok z (List.mem_of_getElem? hz)
      have zl := hide iz.len
      have zm := iz.max
      have zc := iz.le
      clear hz hz1 hbef iz
      go_wp2_with fail
      refine (shut_c g (i * 2) z _ e0 e1 s0 zl.out (by omega)).mono ?_
      rintro e w4 ⟨⟨v, rfl⟩, hp⟩
      have hm4 := hm.put HZ.out hp
      have b4 := b0.trans (But.of_put hp)
      obtain ⟨u, hu, hul⟩ := set_get HY.out HZ.out (shutS z.l)
      have HU := hide hu
      have HUL := hide hul
      clear hp hu hul
      go_wp2
      go_ret
      refine ⟨.inr ⟨_, u, ?_, rfl, hm4, HU.out, HUL.out, fun _ h => h.to HZ.out _⟩, b4⟩
      rw [room_some (roomZ_5 HS.out.1 HS.out.2 HO.out HF.out HZ.out), set_p, set_to_p, ZV.shut_p, ← shutS_p]
    · have HF := hide (fopen_no hno)
      clear hno
      go_wp2
      go_ret
      exact ⟨.inl ⟨room_none (roomZ_4 HS.out.1 HS.out.2 HO.out HF.out), rfl⟩, b0⟩


set_option maxHeartbeats 2000000 in
theorem makeRoom_c (base g c : Nat) (Z : List ZV) (k : Nat) (y : ZV) (w : World) (hm : Mine w base g 4 c Z) (hk : k < 4) (hy : Z[k]? = some y) :
    Calls Tryz.prog 97 #[.slice (some ⟨g, 0, none⟩) 4 c, .int .i64 k] w fun e w' => Room base g c Z k y e w' ∧ But g w w' := by
  by_cases h0 : y.s = 0
  · exact makeRoom_empty base g c Z k y w hm hk hy h0
  by_cases h4 : y.s = 4
  · obtain ⟨c0, c1⟩ := hm.cells k y hy
    rw [h4] at c0
    have hk' : (k : Int) < 4 := by omega
    have H4 := hide h4
    clear h4 h0 hy
    go_enter Tryz.func97, Tryz.ntmps97
    go_wp2
    go_ret
    exact ⟨.inl ⟨room_none (roomZ_2 (by rw [H4.out]; omega) (.inl H4.out)), rfl⟩, But.refl _ _⟩
  by_cases h12 : y.s = 1 ∨ y.s = 2
  · have HY := hide hy
    have HH := hide h12
    obtain ⟨c0, c1⟩ := hm.cells k y hy
    have hk' : (k : Int) < 4 := by omega
    clear h4 h0 hy
    rcases h12 with h | h
    all_goals
      rw [h] at c0
      clear h
      go_enter Tryz.func97, Tryz.ntmps97
      go_wp2
      go_ret
      exact ⟨.inr ⟨Z, y, room_some (roomZ_1 HH.out), rfl, hm, HY.out, rfl, fun _ h => h⟩, But.refl _ _⟩
  · exact makeRoom_end base g c Z k y w hm hk hy (fun e => h12 (.inl e)) (fun e => h12 (.inr e)) h4 h0

end Go.Proofs.YtkamnbigfdbgbaaGreatDoor

/- Plain facts on the zone's functions: a zone that was written is one; a piece that is written is read; no Go here. -/
namespace Go.Proofs.YtkamnbigfdbgbaaGreatDoor
open Go.RowKit
set_option linter.unusedVariables false
set_option maxRecDepth 100000
set_option linter.unusedSimpArgs false

end Go.Proofs.YtkamnbigfdbgbaaGreatDoor

/- Plain laws of the yard: what is answered is right zones, and keeps what is written; no Go here. -/
namespace Go.Proofs.YtkamnbigfdbgbaaGreatDoor
open Go.RowKit
set_option linter.unusedVariables false
set_option maxRecDepth 100000
set_option linter.unusedSimpArgs false

/-- Each zone's blocks are those that it had, or more behind them; only zone j may have more. -/
def Keeps (P Q : List PZ) (j : Nat) (more : Bool) : Prop :=
  Q.length = P.length ∧ ∀ (i : Nat) (y z : PZ), P[i]? = some y → Q[i]? = some z → (∃ r, z.2 = y.2 ++ r ∧ (r ≠ [] → i = j ∧ more = true))

theorem Keeps.set {P Q : List PZ} (hl : Q.length = P.length) (hk : ∀ (i : Nat) (y z : PZ), P[i]? = some y → Q[i]? = some z → z.2 = y.2) {j : Nat} {y z : PZ} (hy : P[j]? = some y) {more : Bool} {r : List Int} (hz : z.2 = y.2 ++ r) (hr : r ≠ [] → more = true) : Keeps P (Q.set j z) j more := by
  refine ⟨by simp [hl], fun i u v hu hv => ?_⟩
  by_cases e : j = i
  · subst e
    rw [hy] at hu
    cases hu
    have hj : j < Q.length := by rw [hl]; exact (List.getElem?_eq_some_iff.1 hy).1
    rw [List.getElem?_set_self hj] at hv
    cases hv
    exact ⟨r, hz, fun h => ⟨rfl, hr h⟩⟩
  · rw [List.getElem?_set_ne e] at hv
    exact ⟨[], by simp [hk i u v hu hv], fun h => absurd rfl h⟩

end Go.Proofs.YtkamnbigfdbgbaaGreatDoor

/- The contracts of the package yard: each call answers what the plain functions say, in new memory, and leaves what was there as it was; no condition but that the arguments read as zones and data. -/
namespace Go.Proofs.YtkamnbigfdbgbaaGreatDoor
open Go.RowKit
set_option linter.unusedVariables false
set_option maxRecDepth 100000
set_option linter.unusedSimpArgs false

/-- The list, and all zones' blocks, lie from B on. -/
def NewZ (B : Nat) (a : Option Addr) (Z : List ZV) : Prop := (∀ x, a = some x → B ≤ x.block) ∧ NewL B Z
theorem NewZ.nil (B : Nat) : NewZ B none [] := ⟨fun x e => (by cases e), NewL.nil B⟩

theorem YNew_f (w : World) : Calls Tryz.prog 32 #[] w fun e w' => (∃ a c Z, e = .returned (.slice a 4 c) ∧ Zones w' a 4 c Z ∧ NewZ w.heap.size a Z ∧ Z.map ZV.p = [(0, []), (0, []), (0, []), (0, [])]) ∧ Below w.heap.size w w' := by
  have hmk := mkz4
  have hm := (Mine.fresh w).zs
  generalize hx : (zcells zero4).toArray = xs at *
  clear hx
  go_enter Tryz.func32, Tryz.ntmps32
  go_wp2
  go_ret
  exact ⟨⟨_, 4, zero4, rfl, hm, ⟨fun x e => by cases e; exact Nat.le_refl _, by intro z hz x e; simp [zero4] at hz; subst hz; cases e⟩, rfl⟩, by (repeat first | exact bel0 | assumption | refine bel1 ?_ | refine bel2 ?_ | refine bel3 ?_ | refine belowT ?_ (by assumption) | refine bel5 ?_ (by simp; try omega))⟩
/-- What is known of a number with which nothing is wrong. -/
theorem pre_k {w : World} {a : Option Addr} {n c : Nat} {Z : List ZV} (h : Zones w a n c Z) {k : Int} (hp : pre (Z.map ZV.p) k = 0) {Z' : List ZV} (hq : Z'.map ZV.p = Z.map ZV.p) :
    ∃ (j : Nat) (z : ZV), k = j ∧ j < 4 ∧ Z'[j]? = some z ∧ at' (Z.map ZV.p) k = z.p := by
  obtain ⟨hc, j, b, off, z, rfl, hj, h4, _, hz, hat, _⟩ := pre_ok h hp
  have hl : Z'.length = 4 := by have e := congrArg List.length hq; simp [h.len] at e; omega
  refine ⟨j, Z'[j]'(by omega), rfl, hj, by simp, ?_⟩
  have e := congrArg (fun L => L[j]?) hq
  simp [List.getElem?_map, hz, show j < Z'.length by omega] at e
  rw [hat, e]

set_option maxHeartbeats 2000000 in
theorem YFinish_f (a : Option Addr) (n c : Nat) (Z : List ZV) (k : Int) (w : World) (h : Zones w a n c Z) :
    Calls Tryz.prog 100 #[.slice a n c, .int .i64 k] w fun e w' => (∃ a' n' c' Z', e = .returned (.tuple #[.slice a' n' c', .int .i64 (finishP (Z.map ZV.p) k).2]) ∧ Zones w' a' n' c' Z' ∧ NewZ w.heap.size a' Z' ∧ Z'.map ZV.p = (finishP (Z.map ZV.p) k).1) ∧ Below w.heap.size w w' := by
  go_enter Tryz.func100, Tryz.ntmps100
  go_wp2_with fail
  refine (begin_c a n c Z k _ h).mono ?_
  rintro e w1 ⟨⟨hp, rfl⟩ | ⟨hp, g, Z', rfl, hm, hq, hnl⟩, hb1⟩
  · have hx : (pre (Z.map ZV.p) k != 0) = true := by simpa using hp
    have HF := hide (show finishP (Z.map ZV.p) k = ([], pre (Z.map ZV.p) k) by simp [finishP, hp])
    clear hp
    generalize pre (Z.map ZV.p) k = x at *
    go_wp2
    go_ret2
    rw [HF.out]
    exact ⟨⟨none, 0, 0, [], rfl, zs_nil _, NewZ.nil _, rfl⟩, hb1⟩
  · obtain ⟨j, z, rfl, hj, hz, hat⟩ := pre_k h hp hq
    have HN := hide hnl
    have HZN := hide (hnl.at hz)
    clear hnl
    have HF := hide (show finishP (Z.map ZV.p) j = ((Z.map ZV.p).set j (4, z.l), 0) by simp [finishP, hp, hat, ZV.p])
    have HQ := hide hq
    have hj' : (j : Int) < 4 := by omega
    obtain ⟨c0, c1⟩ := hm.cells j z hz
    have s0 := hm.soft (j * 2) (by omega)
    have hm2 := hm.put hz ((Put.refl c0).set (.int .i64 4))
    have b2 : Below w.heap.size w (w1.setCell ⟨g, j * 2, none⟩ (.int .i64 4)) := hb1.trans ((But.of_set c0 _).low.mono hm.base)
    clear hp hq hz hat
    go_wp2
    go_ret2
    rw [HF.out]
    exact ⟨⟨_, 4, 4, _, rfl, hm2.zs, ⟨fun x e => by cases e; exact hm.base, HN.out.set j (u := z.to 4) HZN.out⟩, by rw [set_to_p, HQ.out]⟩, b2⟩

set_option maxHeartbeats 2000000 in
theorem YReset_f (a : Option Addr) (n c : Nat) (Z : List ZV) (k : Int) (w : World) (h : Zones w a n c Z) :
    Calls Tryz.prog 101 #[.slice a n c, .int .i64 k] w fun e w' => (∃ a' n' c' Z', e = .returned (.tuple #[.slice a' n' c', .int .i64 (resetP (Z.map ZV.p) k).2]) ∧ Zones w' a' n' c' Z' ∧ NewZ w.heap.size a' Z' ∧ Z'.map ZV.p = (resetP (Z.map ZV.p) k).1) ∧ Below w.heap.size w w' := by
  go_enter Tryz.func101, Tryz.ntmps101
  go_wp2_with fail
  refine (begin_c a n c Z k _ h).mono ?_
  rintro e w1 ⟨⟨hp, rfl⟩ | ⟨hp, g, Z', rfl, hm, hq, hnl⟩, hb1⟩
  · have hx : (pre (Z.map ZV.p) k != 0) = true := by simpa using hp
    have HF := hide (show resetP (Z.map ZV.p) k = ([], pre (Z.map ZV.p) k) by simp [resetP, hp])
    clear hp
    generalize pre (Z.map ZV.p) k = x at *
    go_wp2
    go_ret2
    rw [HF.out]
    exact ⟨⟨none, 0, 0, [], rfl, zs_nil _, NewZ.nil _, rfl⟩, hb1⟩
  · obtain ⟨j, z, rfl, hj, hz, hat⟩ := pre_k h hp hq
    have HN := hide hnl
    have HZN := hide (hnl.at hz)
    clear hnl
    have HF := hide (show resetP (Z.map ZV.p) j = ((Z.map ZV.p).set j (0, []), 0) by simp [resetP, hp])
    have HQ := hide hq
    have hj' : (j : Int) < 4 := by omega
    obtain ⟨c0, c1⟩ := hm.cells j z hz
    have s0 := hm.soft (j * 2) (by omega)
    have s1 := hm.soft (j * 2 + 1) (by omega)
    have hm2 := hm.set j hj ⟨0, none, 0, 0, []⟩ (Ints.nilSlice _) (.inl rfl)
    have hgb := hm.base
    have c1' : (w1.setCell ⟨g, j * 2, none⟩ (.int .i64 0)).cell? ⟨g, j * 2 + 1, none⟩ = some (.slice z.a z.n z.c) := by rw [World.cell?_setCell_other _ _ _ _ (by simp)]; exact c1
    have b2 : Below w.heap.size w ((w1.setCell ⟨g, j * 2, none⟩ (.int .i64 0)).setCell ⟨g, j * 2 + 1, none⟩ (.slice none 0 0)) := hb1.trans (((But.of_set c0 _).trans (But.of_set c1' _)).low.mono hgb)
    clear hp hq hz hat
    go_wp2
    go_ret2
    rw [HF.out]
    exact ⟨⟨_, 4, 4, _, rfl, hm2.zs, ⟨fun x e => by cases e; exact hgb, HN.out.set j (u := ⟨0, none, 0, 0, []⟩) (fun x e => by cases e)⟩, by rw [set_p, HQ.out]; rfl⟩, b2⟩

set_option maxHeartbeats 2000000 in
theorem YClose_f (a : Option Addr) (n c : Nat) (Z : List ZV) (k : Int) (w : World) (h : Zones w a n c Z) :
    Calls Tryz.prog 99 #[.slice a n c, .int .i64 k] w fun e w' => (∃ a' n' c' Z', e = .returned (.tuple #[.slice a' n' c', .int .i64 (closeP (Z.map ZV.p) k).2]) ∧ Zones w' a' n' c' Z' ∧ NewZ w.heap.size a' Z' ∧ Z'.map ZV.p = (closeP (Z.map ZV.p) k).1) ∧ Below w.heap.size w w' := by
  go_enter Tryz.func99, Tryz.ntmps99
  go_wp2_with fail
  refine (begin_c a n c Z k _ h).mono ?_
  rintro e w1 ⟨⟨hp, rfl⟩ | ⟨hp, g, Z', rfl, hm, hq, hnl⟩, hb1⟩
  · have hx : (pre (Z.map ZV.p) k != 0) = true := by simpa using hp
    have HF := hide (show closeP (Z.map ZV.p) k = ([], pre (Z.map ZV.p) k) by simp [closeP, hp])
    clear hp
    generalize pre (Z.map ZV.p) k = x at *
    go_wp2
    go_ret2
    rw [HF.out]
    exact ⟨⟨none, 0, 0, [], rfl, zs_nil _, NewZ.nil _, rfl⟩, hb1⟩
  · obtain ⟨j, z, rfl, hj, hz, hat⟩ := pre_k h hp hq
    have HN := hide hnl
    have HZN := hide (hnl.at hz)
    clear hnl
    have HQ := hide hq
    have hj' : (j : Int) < 4 := by omega
    have i0 : Ints (w1.alloc (.cells #[.int .i64 1, .int .i64 2] 3)) (some ⟨w1.heap.size, 0, none⟩) 2 2 [1, 2] := Ints.of_row (l := [1, 2]) (heap_new w1 _) (by decide) (by decide) rfl
    have HH := hide (And.intro hp hat)
    have HZ := hide hz
    clear hp hq hz hat
    obtain ⟨c0, c1⟩ := hm.cells j z HZ.out
    have s0 := hm.soft (j * 2) (by omega)
    go_wp2_with fail
    go_region_held3 (fun w' => w'.cell? ⟨g, j * 2, none⟩ = some (.int .i64 z.s) ∧ w'.cell? ⟨g, j * 2 + 1, none⟩ = some (.slice z.a z.n z.c)) ((first | (go_simp; done) | (simp [*, World.cell?_alloc_at, World.cell?_alloc_past, World.cell?_alloc_some, World.cell?_setCell_far]; done)))
      (first | (go_at_call 83; refine (yin_c _ 2 2 _).mono ?_; rintro e w2 ⟨rfl, rfl⟩) | (go_at_call 103; refine (yin1_c z.s z.a z.n z.c _ (some ⟨w1.heap.size, 0, none⟩) 2 2 [1, 2] _ (by (first | (go_simp; done) | (simp [*, World.cell?_alloc_at, World.cell?_alloc_past, World.cell?_alloc_some, World.cell?_setCell_far]; done))) (by refine Ints.below i0 (B := (w1.alloc (.cells #[.int .i64 1, .int .i64 2] 3)).heap.size) ?_ (Nat.le_refl _); (repeat first | exact bel0 | assumption | refine bel1 ?_ | refine bel2 ?_ | refine bel3 ?_ | refine belowT ?_ (by assumption) | refine bel5 ?_ (by simp; try omega)))).mono ?_; rintro e w9 ⟨rfl, hb9⟩; (have f0 := keepc hb9 (p := ⟨g, j * 2, none⟩) (u := .int .i64 z.s) (by (first | (go_simp; done) | (simp [*, World.cell?_alloc_at, World.cell?_alloc_past, World.cell?_alloc_some, World.cell?_setCell_far]; done)))); (have f1 := keepc hb9 (p := ⟨g, j * 2 + 1, none⟩) (u := .slice z.a z.n z.c) (by (first | (go_simp; done) | (simp [*, World.cell?_alloc_at, World.cell?_alloc_past, World.cell?_alloc_some, World.cell?_setCell_far]; done))))))
    have b19 : Below w1.heap.size w1 w9 := by (repeat first | exact bel0 | assumption | refine bel1 ?_ | refine bel2 ?_ | refine bel3 ?_ | refine belowT ?_ (by assumption) | refine bel5 ?_ (by simp; try omega))
    have t0 := keepf b19 c0 s0
    have hm9 := hm.below b19
    have iz := hm9.zs.ok z (List.mem_of_getElem? HZ.out)
    have zl := hide iz.len
    have zm := iz.max
    have zc := iz.le
    clear hb9 i0 iz
    rw [has_O]
    cases hs : isO z.s
    · have HF := hide (show closeP (Z.map ZV.p) j = ([], 6) by simp [closeP, HH.out.1, HH.out.2, show isO z.p.1 = false from hs])
      clear hs
      go_wp2
      go_ret2
      rw [HF.out]
      exact ⟨⟨none, 0, 0, [], rfl, zs_nil _, NewZ.nil _, rfl⟩, belowT hb1 b19⟩
    · have HF := hide (show closeP (Z.map ZV.p) j = ((Z.map ZV.p).set j (shutP z.p), 0) by simp [closeP, HH.out.1, HH.out.2, show isO z.p.1 = true from hs])
      clear hs
      go_wp2_with fail
      refine (shut_c g (j * 2) z _ f0 f1 t0 zl.out (by omega)).mono ?_
      rintro e w4 ⟨⟨v, rfl⟩, hp⟩
      have hm4 := hm9.put HZ.out hp
      have b4 : Below w.heap.size w w4 := (belowT hb1 b19).trans ((But.of_put hp).low.mono hm.base)
      clear hp
      go_wp2
      go_ret2
      rw [HF.out]
      exact ⟨⟨_, 4, 4, _, rfl, hm4.zs, ⟨fun x e => by cases e; exact hm.base, HN.out.set j (u := z.to (shutS z.l)) HZN.out⟩, by rw [set_to_p, HQ.out, shutS_p]⟩, b4⟩

set_option maxHeartbeats 2000000 in
theorem YHold_f (a : Option Addr) (n c : Nat) (Z : List ZV) (k : Int) (w : World) (h : Zones w a n c Z) :
    Calls Tryz.prog 98 #[.slice a n c, .int .i64 k] w fun e w' => (∃ a' n' c' Z', e = .returned (.tuple #[.slice a' n' c', .int .i64 (holdP (Z.map ZV.p) k).2]) ∧ Zones w' a' n' c' Z' ∧ NewZ w.heap.size a' Z' ∧ Z'.map ZV.p = (holdP (Z.map ZV.p) k).1) ∧ Below w.heap.size w w' := by
  go_enter Tryz.func98, Tryz.ntmps98
  go_wp2_with fail
  refine (begin_c a n c Z k _ h).mono ?_
  rintro e w1 ⟨⟨hp, rfl⟩ | ⟨hp, g, Z', rfl, hm, hq, hnl⟩, hb1⟩
  · have hx : (pre (Z.map ZV.p) k != 0) = true := by simpa using hp
    have HF := hide (show holdP (Z.map ZV.p) k = ([], pre (Z.map ZV.p) k) by simp [holdP, hp])
    clear hp
    generalize pre (Z.map ZV.p) k = x at *
    go_wp2
    go_ret2
    rw [HF.out]
    exact ⟨⟨none, 0, 0, [], rfl, zs_nil _, NewZ.nil _, rfl⟩, hb1⟩
  · obtain ⟨j, z, rfl, hj, hz, hat⟩ := pre_k h hp hq
    have HN := hide hnl
    have HZN := hide (hnl.at hz)
    clear hnl
    have HQ := hide hq
    have hj' : (j : Int) < 4 := by omega
    have HH := hide (And.intro hp hat)
    clear hp hq hat
    go_wp2_with fail
    refine (makeRoom_c w.heap.size g 4 Z' j z _ hm hj hz).mono ?_
    rintro e w2 ⟨⟨hr, rfl⟩ | ⟨Q, u, hr, rfl, hm2, hu, hul, hnq⟩, hb2⟩
    · rw [HQ.out] at hr
      have e1 : (at' (Z.map ZV.p) j).1 = z.s := by rw [HH.out.2]; rfl
      have HF := hide (show holdP (Z.map ZV.p) j = ([], 7) by simp [holdP, HH.out.1, e1, hr])
      clear e1
      have b2 : Below w.heap.size w w2 := hb1.trans (hb2.low.mono hm.base)
      clear hr hz
      go_wp2
      go_ret2
      rw [HF.out]
      exact ⟨⟨none, 0, 0, [], rfl, zs_nil _, NewZ.nil _, rfl⟩, b2⟩
    · rw [HQ.out] at hr
      have e1 : (at' (Z.map ZV.p) j).1 = z.s := by rw [HH.out.2]; rfl
      have e2 : (at' (Z.map ZV.p) j).2 = u.l := by rw [HH.out.2, hul]; rfl
      have HF := hide (show holdP (Z.map ZV.p) j = ((Q.map ZV.p).set j (2, u.l), 0) by simp [holdP, HH.out.1, e1, e2, hr])
      clear e1 e2
      obtain ⟨c0, c1⟩ := hm2.cells j u hu
      have s0 := hm2.soft (j * 2) (by omega)
      have HNQ := hide (hnq _ HN.out)
      have HUN := hide ((hnq _ HN.out).at hu)
      clear hnq
      have hm3 := hm2.put hu ((Put.refl c0).set (.int .i64 2))
      have b3 : Below w.heap.size w (w2.setCell ⟨g, j * 2, none⟩ (.int .i64 2)) := hb1.trans ((hb2.trans (But.of_set c0 _)).low.mono hm.base)
      clear hr hz hu hul
      go_wp2
      go_ret2
      rw [HF.out]
      exact ⟨⟨_, 4, 4, _, rfl, hm3.zs, ⟨fun x e => by cases e; exact hm.base, HNQ.out.set j (u := u.to 2) HUN.out⟩, set_to_p _ _ _ _⟩, b3⟩

set_option maxHeartbeats 2000000 in
theorem YWrite_f (a : Option Addr) (n c : Nat) (Z : List ZV) (k : Int) (bd : Option Addr) (m d : Nat) (data : List Int) (w : World) (h : Zones w a n c Z) (hd : Ints w bd m d data) :
    Calls Tryz.prog 78 #[.slice a n c, .int .i64 k, .slice bd m d] w fun e w' => (∃ a' n' c' Z', e = .returned (.tuple #[.slice a' n' c', .int .i64 (writeP (Z.map ZV.p) k data).2.1, .int .i64 (writeP (Z.map ZV.p) k data).2.2]) ∧ Zones w' a' n' c' Z' ∧ NewZ w.heap.size a' Z' ∧ Z'.map ZV.p = (writeP (Z.map ZV.p) k data).1) ∧ Below w.heap.size w w' := by
  go_enter Tryz.func78, Tryz.ntmps78
  go_wp2_with fail
  refine (begin_c a n c Z k _ h).mono ?_
  rintro e w1 ⟨⟨hp, rfl⟩ | ⟨hp, g, Z', rfl, hm, hq, hnl⟩, hb1⟩
  · have hx : (pre (Z.map ZV.p) k != 0) = true := by simpa using hp
    have HF := hide (show writeP (Z.map ZV.p) k data = ([], 0, pre (Z.map ZV.p) k) by simp [writeP, hp])
    clear hp
    generalize pre (Z.map ZV.p) k = x at *
    go_wp2
    go_ret3
    rw [HF.out]
    exact ⟨⟨none, 0, 0, [], rfl, zs_nil _, NewZ.nil _, rfl⟩, hb1⟩
  · obtain ⟨j, z, rfl, hj, hz, hat⟩ := pre_k h hp hq
    have HN := hide hnl
    have HZN := hide (hnl.at hz)
    clear hnl
    have HQ := hide hq
    have hj' : (j : Int) < 4 := by omega
    have HH := hide (And.intro hp hat)
    have iz := hm.zs.ok z (List.mem_of_getElem? hz)
    obtain ⟨c0, c1⟩ := hm.cells j z hz
    have d1 := hd.below hb1 (Nat.le_refl _)
    clear hp hq hat
    go_wp2_with fail
    refine (Write_u z.s z.a z.n z.c z.l bd m d data _ iz d1).mono ?_
    rintro e w2 ⟨⟨a3, n3, c3, rfl, i3, hfr⟩, hb2⟩
    by_cases hwe : writeE z.s z.l data = 0
    · have HWE := hide hwe
      rw [hwe]
      replace hm := hm.below hb2
      have bw2 := belowT hb1 hb2
      have HFB := hide (show ∀ x, a3 = some x → w.heap.size ≤ x.block from fun x e => by have := hfr x e; have := hb1.size; omega)
      have HFR := hide (show ∀ x, a3 = some x → x.block ≠ g from fun x e => by have := hfr x e; have := World.block_lt_of_cell? _ _ c0; simp at this; omega)
      generalize hws : wS z.s z.l data = sg at *
      have HWS := hide hws
      clear hwe hws hb1 hb2 iz d1 c0 c1 hfr
      go_wp2_with fail
      have bn : Below w2.heap.size w2 (w2.alloc (.cells #[.int .i64 sg, .slice a3 n3 c3] 68)) := by (repeat first | exact bel0 | assumption | refine bel1 ?_ | refine bel2 ?_ | refine bel3 ?_ | refine belowT ?_ (by assumption) | refine bel5 ?_ (by simp; try omega))
      have x0 : (w2.alloc (.cells #[.int .i64 sg, .slice a3 n3 c3] 68)).cell? ⟨w2.heap.size, 0, none⟩ = some (.int .i64 sg) := by go_simp
      have x1 : (w2.alloc (.cells #[.int .i64 sg, .slice a3 n3 c3] 68)).cell? ⟨w2.heap.size, 1, none⟩ = some (.slice a3 n3 c3) := by go_simp
      have hgl := hm.lt
      have hgb := hm.base
      have hgne : w2.heap.size ≠ g := by omega
      replace hm := hm.below bn
      replace i3 := i3.below bn (Nat.le_refl _)
      replace bw2 := belowT bw2 bn
      refine (makeRoom_c w.heap.size g 4 Z' j z _ hm hj hz).mono ?_
      generalize w2.alloc (.cells #[.int .i64 sg, .slice a3 n3 c3] 68) = wx at *
      rintro e w4 ⟨⟨hr, rfl⟩ | ⟨Q, u, hr, rfl, hm2, hu, hul, hnq⟩, hb4⟩
      · rw [HQ.out] at hr
        have e1 : (at' (Z.map ZV.p) j).1 = z.s := by rw [HH.out.2]; rfl
        have e2 : writeE (at' (Z.map ZV.p) j).1 (at' (Z.map ZV.p) j).2 data = 0 := by rw [HH.out.2]; exact HWE.out
        have HF := hide (show writeP (Z.map ZV.p) j data = ([], 0, 7) by simp only [writeP, HH.out.1, e2]; simp [e1, hr])
        have b4 : Below w.heap.size w w4 := bw2.trans (hb4.low.mono hgb)
        clear hr hz e1 e2
        go_wp2
        go_ret3
        rw [HF.out]
        exact ⟨⟨none, 0, 0, [], rfl, zs_nil _, NewZ.nil _, rfl⟩, b4⟩
      · rw [HQ.out] at hr
        have e1 : (at' (Z.map ZV.p) j).1 = z.s := by rw [HH.out.2]; rfl
        have e2 : writeE (at' (Z.map ZV.p) j).1 (at' (Z.map ZV.p) j).2 data = 0 := by rw [HH.out.2]; exact HWE.out
        have e3 : (at' (Z.map ZV.p) j) = (z.s, z.l) := by rw [HH.out.2]; rfl
        have HF := hide (show writeP (Z.map ZV.p) j data = ((Q.map ZV.p).set j (sg, wL z.s z.l data), (u.n : Int), 0) by
          simp only [writeP, HH.out.1, e2]
          have el : u.l.length = u.n := (hm2.zs.ok u (List.mem_of_getElem? hu)).len
          rw [← HWS.out]
          simp [e3, hr, ← hul, el])
        obtain ⟨c0, c1⟩ := hm2.cells j u hu
        have s0 := hm2.soft (j * 2) (by omega)
        have s1 := hm2.soft (j * 2 + 1) (by omega)
        have i4 := i3.but hb4 (.inr HFR.out)
        replace x0 := keepb hb4 x0 hgne
        replace x1 := keepb hb4 x1 hgne
        have HNQ := hide (hnq _ HN.out)
        clear hnq
        have hm3 := hm2.set j hj ⟨sg, a3, n3, c3, wL z.s z.l data⟩ i4 (.inr HFR.out)
        have c1' : (w4.setCell ⟨g, j * 2, none⟩ (.int .i64 sg)).cell? ⟨g, j * 2 + 1, none⟩ = some (.slice u.a u.n u.c) := by rw [World.cell?_setCell_other _ _ _ _ (by simp)]; exact c1
        have b5 : Below w.heap.size w ((w4.setCell ⟨g, j * 2, none⟩ (.int .i64 sg)).setCell ⟨g, j * 2 + 1, none⟩ (.slice a3 n3 c3)) := bw2.trans ((hb4.trans ((But.of_set c0 _).trans (But.of_set c1' _))).low.mono hgb)
        have ul := (hm2.zs.ok u (List.mem_of_getElem? hu)).le
        have um := (hm2.zs.ok u (List.mem_of_getElem? hu)).max
        clear hr hz hu hul e1 e2 e3 c1' i3 i4
        go_wp2
        go_ret3
        rw [HF.out]
        exact ⟨⟨_, 4, 4, _, rfl, hm3.zs, ⟨fun x e => by cases e; exact hgb, HNQ.out.set j (u := ⟨sg, a3, n3, c3, wL z.s z.l data⟩) HFB.out⟩, set_p _ _ _⟩, b5⟩
    · have hx : (writeE z.s z.l data != 0) = true := by simpa using hwe
      have HF := hide (show writeP (Z.map ZV.p) j data = ([], 0, writeE z.s z.l data) by simp [writeP, HH.out.1, HH.out.2, ZV.p, hwe])
      clear hwe hz
      generalize writeE z.s z.l data = x at *
      go_wp2
      go_ret3
      rw [HF.out]
      exact ⟨⟨none, 0, 0, [], rfl, zs_nil _, NewZ.nil _, rfl⟩, by (repeat first | exact bel0 | assumption | refine bel1 ?_ | refine bel2 ?_ | refine bel3 ?_ | refine belowT ?_ (by assumption) | refine bel5 ?_ (by simp; try omega))⟩

end Go.Proofs.YtkamnbigfdbgbaaGreatDoor
