/- The contract of yard's makeRoom; no condition but that the zones lie in memory of the call's own. -/
import Derived.Test.YtkamnbigfdbgbaaDoorDeskMayG7
import Derived.Test.YtkamnbigfdbgbaaDoorDeskMayG3
import Derived.Test.YtkamnbigfdbgbaaDoorDeskMayG4
namespace Go.Proofs.YtkamnbigfdbgbaaDoor
open Go.RowKit
set_option linter.unusedVariables false
set_option maxRecDepth 100000
set_option linter.unusedSimpArgs false

theorem fopen_at {Z : List ZV} {i : Nat} {z : ZV} (hz : Z[i]? = some z) (h1 : hasB [1] z.s = true) (hb : ∀ (j : Nat) (y : ZV), j < i → Z[j]? = some y → hasB [1] y.s = false) : fopen Z = some i := by
  obtain ⟨hi, rfl⟩ := List.getElem?_eq_some_iff.1 hz
  unfold fopen
  rw [List.findIdx?_eq_some_iff_getElem]
  refine ⟨hi, by rw [has_1] at h1; exact h1, fun j hj => ?_⟩
  have := hb j Z[j] hj (by simp)
  rw [has_1] at this
  simp [this]
theorem fopen_no {Z : List ZV} (hb : ∀ (j : Nat) (y : ZV), Z[j]? = some y → hasB [1] y.s = false) : fopen Z = none := by
  unfold fopen
  rw [List.findIdx?_eq_none_iff]
  intro z hz
  obtain ⟨j, hj, rfl⟩ := List.mem_iff_getElem.1 hz
  have := hb j Z[j] (by simp)
  rw [has_1] at this
  exact this

/-- What makeRoom leaves. -/
def Room (base g c : Nat) (Z : List ZV) (k : Nat) (y : ZV) (e : Ending) (w' : World) : Prop :=
  (roomP (Z.map ZV.p) y.s = none ∧ e = .returned (.int .i64 7)) ∨
  (∃ Z' u, roomP (Z.map ZV.p) y.s = some (Z'.map ZV.p) ∧ e = .returned (.int .i64 0) ∧ Mine w' base g 4 c Z' ∧ Z'[k]? = some u ∧ u.l = y.l ∧ ∀ B, NewL B Z → NewL B Z')

theorem set_get {Z : List ZV} {k i : Nat} {y z : ZV} (hy : Z[k]? = some y) (hz : Z[i]? = some z) (s : Int) : ∃ u, (Z.set i (z.to s))[k]? = some u ∧ u.l = y.l := by
  have hk := (List.getElem?_eq_some_iff.1 hy).1
  by_cases e : i = k
  · subst e
    rw [hy] at hz
    cases hz
    exact ⟨_, List.getElem?_set_self hk, rfl⟩
  · exact ⟨y, by rw [List.getElem?_set_ne e]; exact hy, rfl⟩

set_option maxHeartbeats 2000000 in
theorem makeRoom_end (base g c : Nat) (Z : List ZV) (k : Nat) (y : ZV) (w : World) (hm : Mine w base g 4 c Z) (hk : k < 4) (hy : Z[k]? = some y) (hs1 : y.s ≠ 1) (hs2 : y.s ≠ 2) (hs4 : y.s ≠ 4) (hs0 : y.s ≠ 0) :
    Calls Tryd.prog 67 #[.slice (some ⟨g, 0, none⟩) 4 c, .int .i64 k] w fun e w' => Room base g c Z k y e w' ∧ But g w w' := by
  obtain ⟨c0, c1⟩ := hm.cells k y hy
  have hk' : (k : Int) < 4 := by omega
  have t1 : (y.s == 1) = false := by simpa using hs1
  have t2 : (y.s == 2) = false := by simpa using hs2
  have t4 : (y.s == 4) = false := by simpa using hs4
  have t0 : (y.s == 0) = false := by simpa using hs0
  have q1 := cnt_le isO Z
  rw [hm.zs.len] at q1
  have HS := hide (show ¬ (y.s = 1 ∨ y.s = 2) ∧ ¬ (y.s = 4 ∨ y.s = 0 ∧ 3 ≤ cnt isA Z) by omega)
  have HY := hide hy
  clear hs1 hs2 hs4 hs0 hy
  go_enter Tryd.func67, Tryd.ntmps67
  go_wp2_with fail
  have b0 := But.refl g w
  refine (yopened_c _ 4 c Z _ hm.zs (by omega)).mono ?_
  rintro e w1 ⟨rfl, hb1⟩
  replace b0 := b0.trans (hm.but hb1)
  replace hm := hm.below hb1
  clear hb1
  by_cases ho : cnt isO Z < 2
  · have ho' : (cnt isO Z : Int) < 2 := by omega
    have HO := hide ho
    clear ho
    go_wp2
    go_ret
    exact ⟨.inr ⟨Z, y, room_some (roomZ_3 HS.out.1 HS.out.2 HO.out), rfl, hm, HY.out, rfl, fun _ h => h⟩, b0⟩
  · have ho' : (2 : Int) ≤ (cnt isO Z : Int) := by omega
    have HO := hide ho
    clear ho
    have i0 : Ints (w1.alloc (.cells #[.int .i64 1] 3)) (some ⟨w1.heap.size, 0, none⟩) 1 1 [1] := Ints.of_row (l := [1]) (heap_new w1 _) (by decide) (by decide) rfl
    go_wp2_with fail
    refine (yin_c _ 1 1 _).mono ?_
    rintro e w2 ⟨rfl, rfl⟩
    go_wp2_with fail
    have bn : Below w1.heap.size w1 ((w1.alloc (.cells #[.int .i64 1] 3)).alloc (.cells #[.slice (some ⟨w1.heap.size, 0, none⟩) 1 1] 23)) := by (repeat first | exact bel0 | assumption | refine bel1 ?_ | refine bel2 ?_ | refine bel3 ?_ | refine belowT ?_ (by assumption) | refine bel5 ?_ (by simp; try omega))
    refine (IndexFuncZ_c g 0 4 c Z _ _ 1 1 [1] _ (hm.below bn).zs (fun i z hz => by simpa using (hm.below bn).cells i z hz) (by simp) (i0.below (B := (w1.alloc (.cells #[.int .i64 1] 3)).heap.size) (by (repeat first | exact bel0 | assumption | refine bel1 ?_ | refine bel2 ?_ | refine bel3 ?_ | refine belowT ?_ (by assumption) | refine bel5 ?_ (by simp; try omega))) (Nat.le_refl _))).mono ?_
    rintro e w3 ⟨hres, hb3⟩
    have b13 : Below w1.heap.size w1 w3 := by (repeat first | exact bel0 | assumption | refine bel1 ?_ | refine bel2 ?_ | refine bel3 ?_ | refine belowT ?_ (by assumption) | refine bel5 ?_ (by simp; try omega))
    replace b0 := b0.trans (hm.but b13)
    replace hm := hm.below b13
    clear hb3 b13 bn i0
    rcases hres with ⟨i, z, rfl, hz, hz1, hbef⟩ | ⟨rfl, hno⟩
    · have HF := hide (fopen_at hz hz1 hbef)
      have HZ := hide hz
      have hi4 : i < 4 := by rw [← hm.zs.len]; exact (List.getElem?_eq_some_iff.1 hz).1
      have hi' : (i : Int) < 4 := by omega
      obtain ⟨e0, e1⟩ := hm.cells i z hz
      have s0 := hm.soft (i * 2) (by omega)
      have iz := hm.zs.ok z (List.mem_of_getElem? hz)
      have zl := hide iz.len
      have zm := iz.max
      have zc := iz.le
      clear hz hz1 hbef iz
      go_wp2_with fail
      refine (shut_c g (i * 2) z _ e0 e1 s0 zl.out (by omega)).mono ?_
      rintro e w4 ⟨⟨v, rfl⟩, hp⟩
      have hm4 := hm.put HZ.out hp
      have b4 := b0.trans (But.of_put hp)
      obtain ⟨u, hu, hul⟩ := set_get HY.out HZ.out (shutS z.l)
      have HU := hide hu
      have HUL := hide hul
      clear hp hu hul
      go_wp2
      go_ret
      refine ⟨.inr ⟨_, u, ?_, rfl, hm4, HU.out, HUL.out, fun _ h => h.to HZ.out _⟩, b4⟩
      rw [room_some (roomZ_5 HS.out.1 HS.out.2 HO.out HF.out HZ.out), set_p, set_to_p, ZV.shut_p, ← shutS_p]
    · have HF := hide (fopen_no hno)
      clear hno
      go_wp2
      go_ret
      exact ⟨.inl ⟨room_none (roomZ_4 HS.out.1 HS.out.2 HO.out HF.out), rfl⟩, b0⟩


set_option maxHeartbeats 2000000 in
theorem makeRoom_empty (base g c : Nat) (Z : List ZV) (k : Nat) (y : ZV) (w : World) (hm : Mine w base g 4 c Z) (hk : k < 4) (hy : Z[k]? = some y) (hs0 : y.s = 0) :
    Calls Tryd.prog 67 #[.slice (some ⟨g, 0, none⟩) 4 c, .int .i64 k] w fun e w' => Room base g c Z k y e w' ∧ But g w w' := by
  obtain ⟨c0, c1⟩ := hm.cells k y hy
  rw [hs0] at c0
  have hk' : (k : Int) < 4 := by omega
  have q1 := cnt_le isO Z
  have q2 := cnt_le isA Z
  rw [hm.zs.len] at q1 q2
  have H0 := hide hs0
  have HY := hide hy
  clear hs0 hy
  go_enter Tryd.func67, Tryd.ntmps67
  go_wp2_with fail
  refine (yactive_c _ 4 c Z _ hm.zs (by omega)).mono ?_
  rintro e w5 ⟨rfl, hb5⟩
  have b0 := hm.but hb5
  replace hm := hm.below hb5
  clear hb5
  by_cases ha : 3 ≤ cnt isA Z
  · have ha' : (3 : Int) ≤ (cnt isA Z : Int) := by omega
    have HA := hide ha
    clear ha
    go_wp2
    go_ret
    exact ⟨.inl ⟨room_none (roomZ_2 (by rw [H0.out]; omega) (.inr ⟨H0.out, HA.out⟩)), rfl⟩, b0⟩
  have ha' : (cnt isA Z : Int) < 3 := by omega
  have HS := hide (show ¬ (y.s = 1 ∨ y.s = 2) ∧ ¬ (y.s = 4 ∨ y.s = 0 ∧ 3 ≤ cnt isA Z) by rw [H0.out]; omega)
  clear ha
  go_wp2_with fail
  refine (yopened_c _ 4 c Z _ hm.zs (by omega)).mono ?_
  rintro e w1 ⟨rfl, hb1⟩
  replace b0 := b0.trans (hm.but hb1)
  replace hm := hm.below hb1
  clear hb1
  by_cases ho : cnt isO Z < 2
  · have ho' : (cnt isO Z : Int) < 2 := by omega
    have HO := hide ho
    clear ho
    go_wp2
    go_ret
    exact ⟨.inr ⟨Z, y, room_some (roomZ_3 HS.out.1 HS.out.2 HO.out), rfl, hm, HY.out, rfl, fun _ h => h⟩, b0⟩
  · have ho' : (2 : Int) ≤ (cnt isO Z : Int) := by omega
    have HO := hide ho
    clear ho
    have i0 : Ints (w1.alloc (.cells #[.int .i64 1] 3)) (some ⟨w1.heap.size, 0, none⟩) 1 1 [1] := Ints.of_row (l := [1]) (heap_new w1 _) (by decide) (by decide) rfl
    go_wp2_with fail
    refine (yin_c _ 1 1 _).mono ?_
    rintro e w2 ⟨rfl, rfl⟩
    go_wp2_with fail
    have bn : Below w1.heap.size w1 ((w1.alloc (.cells #[.int .i64 1] 3)).alloc (.cells #[.slice (some ⟨w1.heap.size, 0, none⟩) 1 1] 23)) := by (repeat first | exact bel0 | assumption | refine bel1 ?_ | refine bel2 ?_ | refine bel3 ?_ | refine belowT ?_ (by assumption) | refine bel5 ?_ (by simp; try omega))
    refine (IndexFuncZ_c g 0 4 c Z _ _ 1 1 [1] _ (hm.below bn).zs (fun i z hz => by simpa using (hm.below bn).cells i z hz) (by simp) (i0.below (B := (w1.alloc (.cells #[.int .i64 1] 3)).heap.size) (by (repeat first | exact bel0 | assumption | refine bel1 ?_ | refine bel2 ?_ | refine bel3 ?_ | refine belowT ?_ (by assumption) | refine bel5 ?_ (by simp; try omega))) (Nat.le_refl _))).mono ?_
    rintro e w3 ⟨hres, hb3⟩
    have b13 : Below w1.heap.size w1 w3 := by (repeat first | exact bel0 | assumption | refine bel1 ?_ | refine bel2 ?_ | refine bel3 ?_ | refine belowT ?_ (by assumption) | refine bel5 ?_ (by simp; try omega))
    replace b0 := b0.trans (hm.but b13)
    replace hm := hm.below b13
    clear hb3 b13 bn i0
    rcases hres with ⟨i, z, rfl, hz, hz1, hbef⟩ | ⟨rfl, hno⟩
    · have HF := hide (fopen_at hz hz1 hbef)
      have HZ := hide hz
      have hi4 : i < 4 := by rw [← hm.zs.len]; exact (List.getElem?_eq_some_iff.1 hz).1
      have hi' : (i : Int) < 4 := by omega
      obtain ⟨e0, e1⟩ := hm.cells i z hz
      have s0 := hm.soft (i * 2) (by omega)
      have iz := hm.zs.ok z (List.mem_of_getElem? hz)
      have zl := hide iz.len
      have zm := iz.max
      have zc := iz.le
      clear hz hz1 hbef iz
      go_wp2_with fail
      refine (shut_c g (i * 2) z _ e0 e1 s0 zl.out (by omega)).mono ?_
      rintro e w4 ⟨⟨v, rfl⟩, hp⟩
      have hm4 := hm.put HZ.out hp
      have b4 := b0.trans (But.of_put hp)
      obtain ⟨u, hu, hul⟩ := set_get HY.out HZ.out (shutS z.l)
      have HU := hide hu
      have HUL := hide hul
      clear hp hu hul
      go_wp2
      go_ret
      refine ⟨.inr ⟨_, u, ?_, rfl, hm4, HU.out, HUL.out, fun _ h => h.to HZ.out _⟩, b4⟩
      rw [room_some (roomZ_5 HS.out.1 HS.out.2 HO.out HF.out HZ.out), set_p, set_to_p, ZV.shut_p, ← shutS_p]
    · have HF := hide (fopen_no hno)
      clear hno
      go_wp2
      go_ret
      exact ⟨.inl ⟨room_none (roomZ_4 HS.out.1 HS.out.2 HO.out HF.out), rfl⟩, b0⟩


set_option maxHeartbeats 2000000 in
theorem makeRoom_c (base g c : Nat) (Z : List ZV) (k : Nat) (y : ZV) (w : World) (hm : Mine w base g 4 c Z) (hk : k < 4) (hy : Z[k]? = some y) :
    Calls Tryd.prog 67 #[.slice (some ⟨g, 0, none⟩) 4 c, .int .i64 k] w fun e w' => Room base g c Z k y e w' ∧ But g w w' := by
  by_cases h0 : y.s = 0
  · exact makeRoom_empty base g c Z k y w hm hk hy h0
  by_cases h4 : y.s = 4
  · obtain ⟨c0, c1⟩ := hm.cells k y hy
    rw [h4] at c0
    have hk' : (k : Int) < 4 := by omega
    have H4 := hide h4
    clear h4 h0 hy
    go_enter Tryd.func67, Tryd.ntmps67
    go_wp2
    go_ret
    exact ⟨.inl ⟨room_none (roomZ_2 (by rw [H4.out]; omega) (.inl H4.out)), rfl⟩, But.refl _ _⟩
  by_cases h12 : y.s = 1 ∨ y.s = 2
  · have HY := hide hy
    have HH := hide h12
    obtain ⟨c0, c1⟩ := hm.cells k y hy
    have hk' : (k : Int) < 4 := by omega
    clear h4 h0 hy
    rcases h12 with h | h
    all_goals
      rw [h] at c0
      clear h
      go_enter Tryd.func67, Tryd.ntmps67
      go_wp2
      go_ret
      exact ⟨.inr ⟨Z, y, room_some (roomZ_1 HH.out), rfl, hm, HY.out, rfl, fun _ h => h⟩, But.refl _ _⟩
  · exact makeRoom_end base g c Z k y w hm hk hy (fun e => h12 (.inl e)) (fun e => h12 (.inr e)) h4 h0

end Go.Proofs.YtkamnbigfdbgbaaDoor

/- Plain facts on the zone's functions: a zone that was written is one; a piece that is written is read; no Go here. -/
namespace Go.Proofs.YtkamnbigfdbgbaaDoor
open Go.RowKit
set_option linter.unusedVariables false
set_option maxRecDepth 100000
set_option linter.unusedSimpArgs false

theorem checkZ_mk {s : Int} {l : List Int} (h0 : 0 ≤ s) (h4 : s ≤ 4) (hl : l.length ≤ 8) (ha : l.any (outB 0 999) = false) (hf : fitsB s l.length = true) : checkZ s l = 0 :=
  (checkZ_0 (by simp [outB]; omega) (by omega) ha hf).symm

theorem check_write {s : Int} {l k : List Int} (h : writeE s l k = 0) : checkZ (writeS s (l.length + k.length)) (l ++ k) = 0 := by
  obtain ⟨h1, h2, h3, h4, h5⟩ := writeE_ok h
  obtain ⟨z1, z2, z3, z4, z5⟩ := checkZ_len h1
  have hs : writeS s (l.length + k.length) = 4 ∧ l.length + k.length = 8 ∨ (writeS s (l.length + k.length) = 2 ∨ writeS s (l.length + k.length) = 1) ∧ l.length + k.length < 8 := by
    unfold writeS
    split
    · exact .inl ⟨rfl, by assumption⟩
    · refine .inr ⟨?_, by omega⟩
      split
      · exact .inl rfl
      · exact .inr rfl
  refine checkZ_mk ?_ ?_ (by simp; omega) (by simp only [List.any_append, z4, h4]; rfl) ?_
  · omega
  · omega
  · rw [List.length_append]
    rcases hs with ⟨e, _⟩ | ⟨e | e, hlt⟩ <;> rw [e] <;> simp [fitsB] <;> omega

theorem readE_zero {s : Int} {l : List Int} {p n : Int} (hc : checkZ s l = 0) (hp : 0 ≤ p) (hn : 0 ≤ n) (hpn : p + n ≤ l.length) : readE s l p n = 0 := by
  have hz := checkZ_len hc
  have h1 : outB 0 8 p = false := by simp [outB]; omega
  have h2 : outB 0 (8 - p) n = false := by simp [outB]; omega
  unfold readE
  simp [hc, h1, h2]
  omega

theorem any_take_false (l : List Int) (p : Nat) (f : Int → Bool) (h : l.any f = false) : (l.take p).any f = false := by
  rw [List.any_eq_false] at *
  exact fun x hx => h x (List.mem_of_mem_take hx)
theorem any_drop_false (l : List Int) (p : Nat) (f : Int → Bool) (h : l.any f = false) : (l.drop p).any f = false := by
  rw [List.any_eq_false] at *
  exact fun x hx => h x (List.mem_of_mem_drop hx)

end Go.Proofs.YtkamnbigfdbgbaaDoor

/- Plain laws of the yard: what is answered is right zones, and keeps what is written; no Go here. -/
namespace Go.Proofs.YtkamnbigfdbgbaaDoor
open Go.RowKit
set_option linter.unusedVariables false
set_option maxRecDepth 100000
set_option linter.unusedSimpArgs false

theorem checkZs_ok {P : List PZ} (h : checkZs P = 0) : P.length = 4 ∧ (∀ z ∈ P, checkZ z.1 z.2 = 0) ∧ cntP isO P ≤ 2 ∧ cntP isA P ≤ 3 := by
  unfold checkZs at h
  by_cases h4 : P.length = 4
  · by_cases hf : firstE P = 0
    · by_cases hc : 2 < cntP isO P ∨ 3 < cntP isA P
      · simp [h4, hf, hc] at h
      · exact ⟨h4, firstE_all P hf, by omega, by omega⟩
    · simp [h4, hf] at h
  · simp [h4] at h

theorem firstE_mk : ∀ (P : List PZ), (∀ z ∈ P, checkZ z.1 z.2 = 0) → firstE P = 0
  | [], _ => rfl
  | z :: r, h => by
    simp only [firstE, h z (List.mem_cons_self ..)]
    simpa using firstE_mk r fun y hy => h y (List.mem_cons_of_mem _ hy)

theorem checkZs_mk {P : List PZ} (h4 : P.length = 4) (hz : ∀ z ∈ P, checkZ z.1 z.2 = 0) (ho : cntP isO P ≤ 2) (ha : cntP isA P ≤ 3) : checkZs P = 0 := by
  have hc : ¬ (2 < cntP isO P ∨ 3 < cntP isA P) := by omega
  simp only [checkZs, h4, firstE_mk P hz, hc]
  simp

theorem cntP_cons (f : Int → Bool) (z : PZ) (r : List PZ) : cntP f (z :: r) = (if f z.1 then 1 else 0) + cntP f r := by
  unfold cntP
  cases h : f z.1 <;> simp [List.filter_cons, h]
  omega

theorem cnt_set (f : Int → Bool) : ∀ (P : List PZ) (k : Nat) (y z : PZ), P[k]? = some y → cntP f (P.set k z) + (if f y.1 then 1 else 0) = cntP f P + (if f z.1 then 1 else 0)
  | [], k, y, z, h => by simp at h
  | x :: r, 0, y, z, h => by
    simp at h
    subst h
    rw [List.set_cons_zero, cntP_cons, cntP_cons]
    omega
  | x :: r, k + 1, y, z, h => by
    simp at h
    have := cnt_set f r k y z h
    rw [List.set_cons_succ, cntP_cons, cntP_cons]
    omega

theorem mem_set_check {P : List PZ} {k : Nat} {z : PZ} (h : ∀ y ∈ P, checkZ y.1 y.2 = 0) (hz : checkZ z.1 z.2 = 0) : ∀ y ∈ P.set k z, checkZ y.1 y.2 = 0 := by
  intro y hy
  rcases List.mem_or_eq_of_mem_set hy with hy | rfl
  · exact h y hy
  · exact hz

/-- One zone set: still right zones, if the numbers fit. -/
theorem set_check {P : List PZ} (h : checkZs P = 0) {k : Nat} {y z : PZ} (hy : P[k]? = some y) (hz : checkZ z.1 z.2 = 0)
    (ho : cntP isO P + (if isO z.1 then 1 else 0) ≤ 2 + (if isO y.1 then 1 else 0)) (ha : cntP isA P + (if isA z.1 then 1 else 0) ≤ 3 + (if isA y.1 then 1 else 0)) : checkZs (P.set k z) = 0 := by
  obtain ⟨h4, hc, _, _⟩ := checkZs_ok h
  have e1 := cnt_set isO P k y z hy
  have e2 := cnt_set isA P k y z hy
  exact checkZs_mk (by simp [h4]) (mem_set_check hc hz) (by omega) (by omega)

theorem check_shut {z : PZ} (h : checkZ z.1 z.2 = 0) (hs : isO z.1 = true) : checkZ (shutP z).1 (shutP z).2 = 0 := by
  obtain ⟨s, l⟩ := z
  obtain ⟨z1, z2, z3, z4, z5⟩ := checkZ_len h
  unfold shutP
  split
  · rfl
  · rename_i hne
    have hlen : l.length ≠ 0 := fun e => hne (List.length_eq_zero_iff.1 e)
    have hs' : s = 1 ∨ s = 2 := by simpa [isO] using hs
    refine checkZ_mk (by omega) (by omega) z3 z4 ?_
    simp only [fitsB] at z5 ⊢
    rcases hs' with rfl | rfl <;> simp at z5 ⊢ <;> omega
theorem shut_state (z : PZ) : (shutP z).1 = 0 ∨ (shutP z).1 = 3 := by
  unfold shutP
  split
  · exact .inl rfl
  · exact .inr rfl
theorem shut_data (z : PZ) : (shutP z).2 = z.2 := by
  unfold shutP
  split
  · rename_i h; exact h.symm
  · rfl
theorem check_finish {z : PZ} (h : checkZ z.1 z.2 = 0) : checkZ 4 z.2 = 0 := by
  obtain ⟨z1, z2, z3, z4, z5⟩ := checkZ_len h
  exact checkZ_mk (by omega) (by omega) z3 z4 rfl
theorem check_held {z : PZ} (h : checkZ z.1 z.2 = 0) (h4 : z.1 ≠ 4) : checkZ 2 z.2 = 0 := by
  obtain ⟨s, l⟩ := z
  obtain ⟨z1, z2, z3, z4, z5⟩ := checkZ_len h
  refine checkZ_mk (by omega) (by omega) z3 z4 ?_
  simp only [fitsB] at z5 ⊢
  have : s = 0 ∨ s = 1 ∨ s = 2 ∨ s = 3 := by simp at h4; omega
  rcases this with rfl | rfl | rfl | rfl
  · simp at z5; subst z5; rfl
  all_goals simp at z5 ⊢; omega

theorem isA_of_isO {s : Int} (h : isO s = true) : isA s = true := by simp [isA, h]

/-- Room: the zones then are right, all have what they had; one more may be open, if this one isn't; one more active. -/
theorem room_ok {P Q : List PZ} (h : checkZs P = 0) {k : Nat} {z : PZ} (hz : P[k]? = some z) (hr : roomP P z.1 = some Q) :
    checkZs Q = 0 ∧ z.1 ≠ 4 ∧ Q[k]? = some z ∧ (isO z.1 = false → cntP isO Q ≤ 1 ∧ (z.1 = 0 → cntP isA Q ≤ 2)) ∧
    (Q = P ∨ ∃ (i : Nat) (y : PZ), i ≠ k ∧ P[i]? = some y ∧ y.1 = 1 ∧ Q = P.set i (shutP y)) := by
  obtain ⟨h4, hc, hO, hA⟩ := checkZs_ok h
  unfold roomP at hr
  by_cases h1 : isO z.1 = true
  · rw [if_pos h1] at hr
    cases hr
    refine ⟨h, ?_, hz, fun e => absurd h1 (by simp [e]), .inl rfl⟩
    intro e
    rw [e] at h1
    simp [isO] at h1
  · rw [if_neg h1] at hr
    by_cases h2 : z.1 = 4 ∨ z.1 = 0 ∧ 3 ≤ cntP isA P
    · rw [if_pos h2] at hr; cases hr
    · rw [if_neg h2] at hr
      by_cases h3 : cntP isO P < 2
      · rw [if_pos h3] at hr
        cases hr
        exact ⟨h, by omega, hz, fun _ => ⟨by omega, fun e => by omega⟩, .inl rfl⟩
      · rw [if_neg h3] at hr
        cases hf : fopenP P with
        | none => rw [hf] at hr; cases hr
        | some i =>
          rw [hf] at hr
          simp at hr
          unfold fopenP at hf
          rw [List.findIdx?_eq_some_iff_getElem] at hf
          obtain ⟨hi, hy1, _⟩ := hf
          have hy : P[i]? = some P[i] := by simp
          have hy1' : P[i].1 = 1 := by simpa using hy1
          have hQ : Q = P.set i (shutP P[i]) := by
            rw [← hr]
            apply List.ext_getElem?
            intro j
            by_cases e : i = j
            · subst e; simp [List.getElem?_modify, hi]
            · simp [List.getElem?_modify, List.getElem?_set, e]
          have hik : i ≠ k := by
            intro e
            subst e
            rw [hz] at hy
            cases hy
            exact h1 (by simp [isO, hy1'])
          have hO1 : isO P[i].1 = true := by simp [isO, hy1']
          have hA1 : isA P[i].1 = true := isA_of_isO hO1
          have e1 := cnt_set isO P i P[i] (shutP P[i]) hy
          have e2 := cnt_set isA P i P[i] (shutP P[i]) hy
          have hs0 : isO (shutP P[i]).1 = false := by rcases shut_state P[i] with e | e <;> rw [e] <;> rfl
          rw [hO1, hs0] at e1
          rw [hA1] at e2
          simp at e1 e2
          have hA2 : cntP isA (P.set i (shutP P[i])) ≤ cntP isA P := by split at e2 <;> omega
          subst hQ
          refine ⟨checkZs_mk (by simp [h4]) (mem_set_check hc (check_shut (hc _ (List.getElem_mem hi)) hO1)) (by omega) (by omega), by omega, ?_, fun _ => ⟨by omega, fun e => by omega⟩, .inr ⟨i, P[i], hik, hy, hy1', rfl⟩⟩
          rw [List.getElem?_set_ne hik]
          exact hz

/-- What is known of zones and a number with which nothing is wrong, plain. -/
theorem pre_plain {P : List PZ} {k : Int} (hp : pre P k = 0) : checkZs P = 0 ∧ ∃ j : Nat, k = j ∧ j < 4 ∧ P[j]? = some (at' P k) := by
  unfold pre at hp
  by_cases hc : checkZs P = 0
  · simp [hc] at hp
    have hk : 0 ≤ k ∧ k ≤ 3 := by simp [inB] at hp; omega
    obtain ⟨j, rfl⟩ := Int.eq_ofNat_of_zero_le hk.1
    have hj : j < P.length := by rw [(checkZs_ok hc).1]; omega
    exact ⟨hc, j, rfl, by omega, by simp [at', List.getD, hj]⟩
  · simp [hc] at hp
/-- Each zone's blocks are those that it had, or more behind them; only zone j may have more. -/
def Keeps (P Q : List PZ) (j : Nat) (more : Bool) : Prop :=
  Q.length = P.length ∧ ∀ (i : Nat) (y z : PZ), P[i]? = some y → Q[i]? = some z → (∃ r, z.2 = y.2 ++ r ∧ (r ≠ [] → i = j ∧ more = true))

theorem Keeps.set {P Q : List PZ} (hl : Q.length = P.length) (hk : ∀ (i : Nat) (y z : PZ), P[i]? = some y → Q[i]? = some z → z.2 = y.2) {j : Nat} {y z : PZ} (hy : P[j]? = some y) {more : Bool} {r : List Int} (hz : z.2 = y.2 ++ r) (hr : r ≠ [] → more = true) : Keeps P (Q.set j z) j more := by
  refine ⟨by simp [hl], fun i u v hu hv => ?_⟩
  by_cases e : j = i
  · subst e
    rw [hy] at hu
    cases hu
    have hj : j < Q.length := by rw [hl]; exact (List.getElem?_eq_some_iff.1 hy).1
    rw [List.getElem?_set_self hj] at hv
    cases hv
    exact ⟨r, hz, fun h => ⟨rfl, hr h⟩⟩
  · rw [List.getElem?_set_ne e] at hv
    exact ⟨[], by simp [hk i u v hu hv], fun h => absurd rfl h⟩

theorem room_data {P Q : List PZ} (h : Q = P ∨ ∃ (i : Nat) (y : PZ), P[i]? = some y ∧ Q = P.set i (shutP y)) : Q.length = P.length ∧ ∀ (i : Nat) (y z : PZ), P[i]? = some y → Q[i]? = some z → z.2 = y.2 := by
  rcases h with rfl | ⟨i, y, hy, rfl⟩
  · exact ⟨rfl, fun i y z h1 h2 => by rw [h1] at h2; cases h2; rfl⟩
  · refine ⟨by simp, fun j u v hu hv => ?_⟩
    by_cases e : i = j
    · subst e
      rw [hy] at hu
      cases hu
      rw [List.getElem?_set_self (List.getElem?_eq_some_iff.1 hy).1] at hv
      cases hv
      exact shut_data y
    · rw [List.getElem?_set_ne e, hu] at hv
      cases hv
      rfl

theorem hold_law {P Q : List PZ} {j : Nat} (h : holdP P j = (Q, 0)) : checkZs Q = 0 ∧ Keeps P Q j false ∧ Q[j]? = some (2, (at' P j).2) := by
  unfold holdP at h
  by_cases hp : pre P j = 0
  · obtain ⟨hc, k, hk, hj, hz⟩ := pre_plain hp
    obtain rfl : j = k := by omega
    simp [hp] at h
    cases hr : roomP P (at' P j).1 with
    | none => rw [hr] at h; simp at h
    | some R =>
      rw [hr] at h
      simp at h
      subst h
      obtain ⟨h1, h2, h3, h4, h5⟩ := room_ok hc hz hr
      have hzc := (checkZs_ok hc).2.1 _ (List.mem_of_getElem? hz)
      obtain ⟨d1, d2⟩ := room_data (h5.imp id fun ⟨i, y, _, hy, _, e⟩ => ⟨i, y, hy, e⟩)
      have hR := checkZs_ok h1
      refine ⟨set_check h1 h3 (check_held (z := at' P j) hzc h2) ?_ ?_, Keeps.set d1 d2 hz (r := []) (by simp) (fun h => absurd rfl h), by simp [hR.1, hj]⟩
      · cases ho : isO (at' P j).1
        · have := (h4 ho).1
          simp [isO]; omega
        · simp [isO]; omega
      · cases ha : isA (at' P j).1
        · have ho : isO (at' P j).1 = false := by simp [isA] at ha; exact ha.1
          have hs0 : (at' P j).1 = 0 := by
            have q := checkZ_len hzc
            simp [isA, isO] at ha
            omega
          have := (h4 ho).2 hs0
          simp [isA, isO]; omega
        · simp [isA, isO]; omega
  · simp [hp] at h

theorem same_data (P : List PZ) : P.length = P.length ∧ ∀ (i : Nat) (y z : PZ), P[i]? = some y → P[i]? = some z → z.2 = y.2 := ⟨rfl, fun i y z h1 h2 => by rw [h1] at h2; cases h2; rfl⟩

theorem close_law {P Q : List PZ} {j : Nat} (h : closeP P j = (Q, 0)) : checkZs Q = 0 ∧ Keeps P Q j false := by
  unfold closeP at h
  by_cases hp : pre P j = 0
  · obtain ⟨hc, k, hk, hj, hz⟩ := pre_plain hp
    obtain rfl : j = k := by omega
    cases ho : isO (at' P j).1
    · simp [hp, ho] at h
    · simp [hp, ho] at h
      subst h
      have hzc := (checkZs_ok hc).2.1 _ (List.mem_of_getElem? hz)
      have hP := checkZs_ok hc
      have hs0 : isO (shutP (at' P j)).1 = false := by rcases shut_state (at' P j) with e | e <;> rw [e] <;> rfl
      refine ⟨set_check hc hz (check_shut hzc ho) ?_ ?_, Keeps.set (same_data P).1 (same_data P).2 hz (r := []) (by simp [shut_data]) (fun h => absurd rfl h)⟩
      · rw [hs0, ho]; simp; omega
      · rw [isA_of_isO ho]; split <;> simp <;> omega
  · simp [hp] at h

theorem finish_law {P Q : List PZ} {j : Nat} (h : finishP P j = (Q, 0)) : checkZs Q = 0 ∧ Keeps P Q j false ∧ Q[j]? = some (4, (at' P j).2) := by
  unfold finishP at h
  by_cases hp : pre P j = 0
  · obtain ⟨hc, k, hk, hj, hz⟩ := pre_plain hp
    obtain rfl : j = k := by omega
    simp [hp] at h
    subst h
    have hzc := (checkZs_ok hc).2.1 _ (List.mem_of_getElem? hz)
    have hP := checkZs_ok hc
    refine ⟨set_check hc hz (check_finish (z := at' P j) hzc) ?_ ?_, Keeps.set (same_data P).1 (same_data P).2 hz (r := []) (by simp) (fun h => absurd rfl h), by simp [hP.1, hj]⟩
    · simp [isO]; split <;> omega
    · simp [isA, isO]; split <;> omega
  · simp [hp] at h

theorem reset_law {P Q : List PZ} {j : Nat} (h : resetP P j = (Q, 0)) : checkZs Q = 0 ∧ Q = P.set j (0, []) ∧ j < 4 ∧ P.length = 4 := by
  unfold resetP at h
  by_cases hp : pre P j = 0
  · obtain ⟨hc, k, hk, hj, hz⟩ := pre_plain hp
    obtain rfl : j = k := by omega
    simp [hp] at h
    subst h
    have hP := checkZs_ok hc
    refine ⟨set_check hc hz rfl ?_ ?_, rfl, hj, hP.1⟩
    · simp [isO]; split <;> omega
    · simp [isA, isO]; split <;> omega
  · simp [hp] at h

theorem write_law {P Q : List PZ} {j : Nat} {data : List Int} {n : Int} (h : writeP P j data = (Q, n, 0)) :
    checkZs Q = 0 ∧ Keeps P Q j true ∧ n = (at' P j).2.length ∧ Q[j]? = some (writeS (at' P j).1 ((at' P j).2.length + data.length), (at' P j).2 ++ data) ∧ writeE (at' P j).1 (at' P j).2 data = 0 := by
  unfold writeP at h
  by_cases hp : pre P j = 0
  · obtain ⟨hc, k, hk, hj, hz⟩ := pre_plain hp
    obtain rfl : j = k := by omega
    by_cases hw : writeE (at' P j).1 (at' P j).2 data = 0
    · simp [hp, hw] at h
      cases hr : roomP P (at' P j).1 with
      | none => rw [hr] at h; simp at h
      | some R =>
        rw [hr] at h
        simp at h
        obtain ⟨rfl, rfl⟩ := h
        obtain ⟨h1, h2, h3, h4, h5⟩ := room_ok hc hz hr
        have hzc := (checkZs_ok hc).2.1 _ (List.mem_of_getElem? hz)
        obtain ⟨d1, d2⟩ := room_data (h5.imp id fun ⟨i, y, _, hy, _, e⟩ => ⟨i, y, hy, e⟩)
        have hR := checkZs_ok h1
        have eS : wS (at' P j).1 (at' P j).2 data = writeS (at' P j).1 ((at' P j).2.length + data.length) := by simp [wS, hw]
        have eL : wL (at' P j).1 (at' P j).2 data = (at' P j).2 ++ data := by simp [wL, hw]
        rw [eS, eL]
        have hst : writeS (at' P j).1 ((at' P j).2.length + data.length) = 4 ∨ isO (writeS (at' P j).1 ((at' P j).2.length + data.length)) = true := by
          unfold writeS
          split
          · exact .inl rfl
          · right; split <;> rfl
        refine ⟨set_check h1 h3 (check_write hw) ?_ ?_, Keeps.set d1 d2 hz (r := data) rfl (fun _ => rfl), rfl, by simp [hR.1, hj], hw⟩
        · cases ho : isO (at' P j).1
          · have := (h4 ho).1
            split <;> simp <;> omega
          · split <;> simp <;> omega
        · cases ha : isA (at' P j).1
          · have ho : isO (at' P j).1 = false := by simp [isA] at ha; exact ha.1
            have hs0 : (at' P j).1 = 0 := by
              have q := checkZ_len hzc
              simp [isA, isO] at ha
              omega
            have := (h4 ho).2 hs0
            split <;> simp <;> omega
          · split <;> simp <;> omega
    · simp [hp, hw] at h
  · simp [hp] at h

end Go.Proofs.YtkamnbigfdbgbaaDoor
