/- The contracts of yard's begin, shut and makeRoom; no condition but that the slices read as zones. -/
import Derived.Test.YtcmladgldjcdmaaDoorHU10
namespace Go.Proofs.YtcmladgldjcdmaaDoor
open Go.RowKit
set_option linter.unusedVariables false
set_option maxRecDepth 100000
set_option linter.unusedSimpArgs false

theorem checkZ_few {s : Int} {l : List Int} (h : checkZ s l = 0) : l.length ≤ 8 := by
  unfold checkZ at h
  split at h
  · omega
  · split at h
    · omega
    · omega
theorem checkZs_few {Z : List ZV} (h : checkZs (Z.map ZV.p) = 0) : ∀ z ∈ Z, z.l.length ≤ 8 := by
  intro z hz
  have hf : firstE (Z.map ZV.p) = 0 := by
    unfold checkZs at h
    split at h
    · omega
    · split at h
      · exact absurd h ‹_›
      · rename_i h1; exact Decidable.not_not.1 h1
  exact checkZ_few (firstE_all _ hf z.p (List.mem_map_of_mem hz))

set_option maxHeartbeats 1000000 in
theorem begin_c (a : Option Addr) (n c : Nat) (Z : List ZV) (k : Int) (w : World) (h : Zones w a n c Z) :
    Calls Tryd.prog 87 #[.slice a n c, .int .i64 k] w fun e w' =>
      ((pre (Z.map ZV.p) k ≠ 0 ∧ e = .returned (.tuple #[.slice none 0 0, .int .i64 (pre (Z.map ZV.p) k)])) ∨
       (pre (Z.map ZV.p) k = 0 ∧ ∃ g Z', e = .returned (.tuple #[.slice (some ⟨g, 0, none⟩) 4 4, .int .i64 0]) ∧ Mine w' w.heap.size g 4 4 Z' ∧ Z'.map ZV.p = Z.map ZV.p ∧ NewL w.heap.size Z')) ∧ Below w.heap.size w w' := by
  by_cases hc : checkZs (Z.map ZV.p) = 0
  · obtain ⟨h4, b, off, rfl, hr⟩ := zs_four h hc
    subst h4
    have h8 : ∀ z ∈ Z, z.n ≤ 8 := fun z hz => by rw [← (h.ok z hz).len]; exact checkZs_few hc z hz
    have HC := hide hc
    by_cases hk : 0 ≤ k ∧ k < 4
    · have hp : pre (Z.map ZV.p) k = 0 := by simp [pre, hc, inB]; omega
      have HP := hide hp
      obtain ⟨hk1, hk2⟩ := hk
      clear hc hp
      go_enter Tryd.func87, Tryd.ntmps87
      go_wp2_with fail
      refine (YCheck_c _ 4 c Z _ h).mono ?_
      rintro e w1 ⟨rfl, hb1⟩
      rw [HC.out]
      go_wp2_with fail
      refine (whole_c b off c Z _ (h.below hb1 (Nat.le_refl _)) h8 (fun i z hz => ⟨keepc hb1 (hr i z hz).1, keepc hb1 (hr i z hz).2⟩)).mono ?_
      rintro e w2 ⟨⟨g, Z', rfl, hm, hp, hnl⟩, hb2⟩
      have HQ := hide hp
      have HN := hide hnl
      clear hp hnl
      go_wp2
      go_ret2
      exact ⟨.inr ⟨HP.out, g, Z', rfl, hm.mono hb1.size, HQ.out, HN.out.mono hb1.size⟩, by (repeat first | exact bel0 | assumption | refine bel1 ?_ | refine bel2 ?_ | refine bel3 ?_ | refine belowT ?_ (by assumption) | refine bel5 ?_ (by simp; try omega))⟩
    · have hp : pre (Z.map ZV.p) k = 5 := by simp [pre, hc, inB]; omega
      have HP := hide hp
      clear hc hp
      rcases (by omega : k < 0 ∨ 0 ≤ k ∧ 4 ≤ k) with hk1 | ⟨hk1, hk2⟩
      all_goals
        go_enter Tryd.func87, Tryd.ntmps87
        go_wp2_with fail
        refine (YCheck_c _ 4 c Z _ h).mono ?_
        rintro e w1 ⟨rfl, hb1⟩
        rw [HC.out]
        go_wp2
        go_ret2
        exact ⟨.inl ⟨by rw [HP.out]; decide, by rw [HP.out]; rfl⟩, by (repeat first | exact bel0 | assumption | refine bel1 ?_ | refine bel2 ?_ | refine bel3 ?_ | refine belowT ?_ (by assumption) | refine bel5 ?_ (by simp; try omega))⟩
  · have hp : pre (Z.map ZV.p) k = checkZs (Z.map ZV.p) := by simp [pre, hc]
    have HP := hide hp
    have HC := hide hc
    have hx : (checkZs (Z.map ZV.p) != 0) = true := by simpa using hc
    clear hp hc
    go_enter Tryd.func87, Tryd.ntmps87
    go_wp2_with fail
    refine (YCheck_c a n c Z _ h).mono ?_
    rintro e w1 ⟨rfl, hb1⟩
    generalize hy : checkZs (Z.map ZV.p) = x at *
    clear hy
    go_wp2
    go_ret2
    exact ⟨.inl ⟨by rw [HP.out]; exact HC.out, by rw [HP.out]; rfl⟩, by (repeat first | exact bel0 | assumption | refine bel1 ?_ | refine bel2 ?_ | refine bel3 ?_ | refine belowT ?_ (by assumption) | refine bel5 ?_ (by simp; try omega))⟩

set_option maxHeartbeats 1000000 in
theorem shut_c (g i : Nat) (z : ZV) (w : World) (h0 : w.cell? ⟨g, i, none⟩ = some (.int .i64 z.s)) (h1 : w.cell? ⟨g, i + 1, none⟩ = some (.slice z.a z.n z.c)) (hf : w.frozen? ⟨g, i, none⟩ = false) (hl : z.l.length = z.n) (hm : z.n ≤ 9223372036854775807) :
    Calls Tryd.prog 101 #[.pointer (some ⟨g, i, none⟩)] w fun e w' => (∃ v, e = .returned v) ∧ Put w w' ⟨g, i, none⟩ (.int .i64 (shutS z.l)) := by
  by_cases hz : z.l = []
  · have hn : ((z.n : Int) == 0) = true := by rw [hz] at hl; simp at hl; simp; omega
    have hs : shutS z.l = 0 := by simp [shutS, hz]
    have HS := hide hs
    clear hs hz hl
    go_enter Tryd.func101, Tryd.ntmps101
    go_wp2
    go_end0
    rw [HS.out]
    exact ⟨⟨_, rfl⟩, ((Put.refl h0).set _).set _⟩
  · have hn : ((z.n : Int) == 0) = false := by
      have : z.l.length ≠ 0 := fun e => hz (List.length_eq_zero_iff.1 e)
      simp; omega
    have hs : shutS z.l = 3 := by simp [shutS, hz]
    have HS := hide hs
    clear hs hz hl
    go_enter Tryd.func101, Tryd.ntmps101
    go_wp2
    go_end0
    rw [HS.out]
    exact ⟨⟨_, rfl⟩, (Put.refl h0).set _⟩

set_option maxHeartbeats 1000000 in
theorem IndexFuncZ_c (b off n c : Nat) (Z : List ZV) (g : Nat) (a : Option Addr) (m d : Nat) (L : List Int) (w : World) (h : Zones w (some ⟨b, off, none⟩) n c Z)
    (hr : ∀ i z, Z[i]? = some z → w.cell? ⟨b, off + i * 2, none⟩ = some (.int .i64 z.s) ∧ w.cell? ⟨b, off + i * 2 + 1, none⟩ = some (.slice z.a z.n z.c))
    (hg : w.cell? ⟨g, 0, none⟩ = some (.slice a m d)) (hi : Ints w a m d L) :
    Calls Tryd.prog 100 #[.slice (some ⟨b, off, none⟩) n c, .func (Fn.func 77) #[] #[.pointer (some ⟨g, 0, none⟩)]] w fun e w' =>
      ((∃ (i : Nat) (z : ZV), e = .returned (.int .i64 i) ∧ Z[i]? = some z ∧ hasB L z.s = true ∧ ∀ (j : Nat) (y : ZV), j < i → Z[j]? = some y → hasB L y.s = false) ∨
       (e = .returned (.int .i64 (-1)) ∧ ∀ (j : Nat) (y : ZV), Z[j]? = some y → hasB L y.s = false)) ∧ Below w.heap.size w w' := by
  have hlen := h.len
  have hmax := h.max
  have hle := h.le
  go_enter Tryd.func100, Tryd.ntmps100
  go_wp2
  go_loopw [8] (fun i wr => ∃ k : Nat, k ≤ n ∧ i = .int .i64 k ∧ (∀ (j : Nat) (y : ZV), j < k → Z[j]? = some y → hasB L y.s = false) ∧ Below w.heap.size w wr) (fun i _ => n - (intOf i).toNat)
  case atStart => exact ⟨0, by omega, rfl, fun j y hj => by omega, Below.refl _ _⟩
  case round =>
    obtain ⟨k, hk, rfl, hb, hbr⟩ := hrel
    have HB := hide hb
    clear hb
    rename_i wr
    by_cases hlt : k < n
    · obtain ⟨z, hz⟩ : ∃ z, Z[k]? = some z := ⟨Z[k]'(by omega), by simp⟩
      obtain ⟨c0, c1⟩ := hr k z hz
      replace c0 := keepc hbr c0
      replace c1 := keepc hbr c1
      have hg1 := keepc hbr hg
      have hi1 := hi.below hbr (Nat.le_refl _)
      have hlt' : (k : Int) < (n : Int) := by omega
      have HZ := hide hz
      clear hr hz
      go_wp2_with (go_at_call 77; refine (yin1_c z.s z.a z.n z.c g a m d L _ (keepc (by (repeat first | exact bel0 | assumption | refine bel1 ?_ | refine bel2 ?_ | refine bel3 ?_ | refine belowT ?_ (by assumption) | refine bel5 ?_ (by simp; try omega))) hg1) (by refine Ints.below hi1 (B := wr.heap.size) ?_ (Nat.le_refl _); (repeat first | exact bel0 | assumption | refine bel1 ?_ | refine bel2 ?_ | refine bel3 ?_ | refine belowT ?_ (by assumption) | refine bel5 ?_ (by simp; try omega)))).mono ?_; rintro e w9 ⟨rfl, hb9⟩)
      · go_ret
        exact ⟨.inl ⟨k, z, rfl, HZ.out, ‹_›, HB.out⟩, by (repeat first | exact bel0 | assumption | refine bel1 ?_ | refine bel2 ?_ | refine bel3 ?_ | refine belowT ?_ (by assumption) | refine bel5 ?_ (by simp; try omega))⟩
      · rename_i hx
        refine ⟨⟨k + 1, by omega, by go_num, fun j y hj hy => ?_, by (repeat first | exact bel0 | assumption | refine bel1 ?_ | refine bel2 ?_ | refine bel3 ?_ | refine belowT ?_ (by assumption) | refine bel5 ?_ (by simp; try omega))⟩, by simp [intOf]; omega⟩
        by_cases e : j = k
        · subst e
          have := HZ.out.symm.trans hy
          cases this
          exact hx
        · exact HB.out j y (by omega) hy
    · obtain rfl : k = n := by omega
      go_wp2
      go_ret
      exact ⟨.inr ⟨rfl, fun j y hy => HB.out j y (by have := (List.getElem?_eq_some_iff.1 hy).1; omega) hy⟩, hbr⟩

end Go.Proofs.YtcmladgldjcdmaaDoor

/- The contract of yard's makeRoom; no condition but that the zones lie in memory of the call's own. -/
namespace Go.Proofs.YtcmladgldjcdmaaDoor
open Go.RowKit
set_option linter.unusedVariables false
set_option maxRecDepth 100000
set_option linter.unusedSimpArgs false

theorem fopen_at {Z : List ZV} {i : Nat} {z : ZV} (hz : Z[i]? = some z) (h1 : hasB [1] z.s = true) (hb : ∀ (j : Nat) (y : ZV), j < i → Z[j]? = some y → hasB [1] y.s = false) : fopen Z = some i := by
  obtain ⟨hi, rfl⟩ := List.getElem?_eq_some_iff.1 hz
  unfold fopen
  rw [List.findIdx?_eq_some_iff_getElem]
  refine ⟨hi, by rw [has_1] at h1; exact h1, fun j hj => ?_⟩
  have := hb j Z[j] hj (by simp)
  rw [has_1] at this
  simp [this]
theorem fopen_no {Z : List ZV} (hb : ∀ (j : Nat) (y : ZV), Z[j]? = some y → hasB [1] y.s = false) : fopen Z = none := by
  unfold fopen
  rw [List.findIdx?_eq_none_iff]
  intro z hz
  obtain ⟨j, hj, rfl⟩ := List.mem_iff_getElem.1 hz
  have := hb j Z[j] (by simp)
  rw [has_1] at this
  exact this

/-- What makeRoom leaves. -/
def Room (base g c : Nat) (Z : List ZV) (k : Nat) (y : ZV) (e : Ending) (w' : World) : Prop :=
  (roomP (Z.map ZV.p) y.s = none ∧ e = .returned (.int .i64 7)) ∨
  (∃ Z' u, roomP (Z.map ZV.p) y.s = some (Z'.map ZV.p) ∧ e = .returned (.int .i64 0) ∧ Mine w' base g 4 c Z' ∧ Z'[k]? = some u ∧ u.l = y.l ∧ ∀ B, NewL B Z → NewL B Z')

theorem set_get {Z : List ZV} {k i : Nat} {y z : ZV} (hy : Z[k]? = some y) (hz : Z[i]? = some z) (s : Int) : ∃ u, (Z.set i (z.to s))[k]? = some u ∧ u.l = y.l := by
  have hk := (List.getElem?_eq_some_iff.1 hy).1
  by_cases e : i = k
  · subst e
    rw [hy] at hz
    cases hz
    exact ⟨_, List.getElem?_set_self hk, rfl⟩
  · exact ⟨y, by rw [List.getElem?_set_ne e]; exact hy, rfl⟩

set_option maxHeartbeats 2000000 in
theorem makeRoom_end (base g c : Nat) (Z : List ZV) (k : Nat) (y : ZV) (w : World) (hm : Mine w base g 4 c Z) (hk : k < 4) (hy : Z[k]? = some y) (hs1 : y.s ≠ 1) (hs2 : y.s ≠ 2) (hs4 : y.s ≠ 4) (hs0 : y.s ≠ 0) :
    Calls Tryd.prog 89 #[.slice (some ⟨g, 0, none⟩) 4 c, .int .i64 k] w fun e w' => Room base g c Z k y e w' ∧ But g w w' := by
  obtain ⟨c0, c1⟩ := hm.cells k y hy
  have hk' : (k : Int) < 4 := by omega
  have t1 : (y.s == 1) = false := by simpa using hs1
  have t2 : (y.s == 2) = false := by simpa using hs2
  have t4 : (y.s == 4) = false := by simpa using hs4
  have t0 : (y.s == 0) = false := by simpa using hs0
  have q1 := cnt_le isO Z
  rw [hm.zs.len] at q1
  have HS := hide (show ¬ (y.s = 1 ∨ y.s = 2) ∧ ¬ (y.s = 4 ∨ y.s = 0 ∧ 3 ≤ cnt isA Z) by omega)
  have HY := hide hy
  clear hs1 hs2 hs4 hs0 hy
  go_enter Tryd.func89, Tryd.ntmps89
  go_wp2_with fail
  have b0 := But.refl g w
  refine (yopened_c _ 4 c Z _ hm.zs (by omega)).mono ?_
  rintro e w1 ⟨rfl, hb1⟩
  replace b0 := b0.trans (hm.but hb1)
  replace hm := hm.below hb1
  clear hb1
  by_cases ho : cnt isO Z < 2
  · have ho' : (cnt isO Z : Int) < 2 := by omega
    have HO := hide ho
    clear ho
    go_wp2
    go_ret
    exact ⟨.inr ⟨Z, y, room_some (roomZ_3 HS.out.1 HS.out.2 HO.out), rfl, hm, HY.out, rfl, fun _ h => h⟩, b0⟩
  · have ho' : (2 : Int) ≤ (cnt isO Z : Int) := by omega
    have HO := hide ho
    clear ho
    have i0 : Ints (w1.alloc (.cells #[.int .i64 1] 3)) (some ⟨w1.heap.size, 0, none⟩) 1 1 [1] := Ints.of_row (l := [1]) (heap_new w1 _) (by decide) (by decide) rfl
    go_wp2_with fail
    refine (yin_c _ 1 1 _).mono ?_
    rintro e w2 ⟨rfl, rfl⟩
    go_wp2_with fail
    have bn : Below w1.heap.size w1 ((w1.alloc (.cells #[.int .i64 1] 3)).alloc (.cells #[.slice (some ⟨w1.heap.size, 0, none⟩) 1 1] 23)) := by (repeat first | exact bel0 | assumption | refine bel1 ?_ | refine bel2 ?_ | refine bel3 ?_ | refine belowT ?_ (by assumption) | refine bel5 ?_ (by simp; try omega))
    refine (IndexFuncZ_c g 0 4 c Z _ _ 1 1 [1] _ (hm.below bn).zs (fun i z hz => by simpa using (hm.below bn).cells i z hz) (by simp) (i0.below (B := (w1.alloc (.cells #[.int .i64 1] 3)).heap.size) (by (repeat first | exact bel0 | assumption | refine bel1 ?_ | refine bel2 ?_ | refine bel3 ?_ | refine belowT ?_ (by assumption) | refine bel5 ?_ (by simp; try omega))) (Nat.le_refl _))).mono ?_
    rintro e w3 ⟨hres, hb3⟩
    have b13 : Below w1.heap.size w1 w3 := by (repeat first | exact bel0 | assumption | refine bel1 ?_ | refine bel2 ?_ | refine bel3 ?_ | refine belowT ?_ (by assumption) | refine bel5 ?_ (by simp; try omega))
    replace b0 := b0.trans (hm.but b13)
    replace hm := hm.below b13
    clear hb3 b13 bn i0
    rcases hres with ⟨i, z, rfl, hz, hz1, hbef⟩ | ⟨rfl, hno⟩
    · have HF := hide (fopen_at hz hz1 hbef)
      have HZ := hide hz
      have hi4 : i < 4 := by rw [← hm.zs.len]; exact (List.getElem?_eq_some_iff.1 hz).1
      have hi' : (i : Int) < 4 := by omega
      obtain ⟨e0, e1⟩ := hm.cells i z hz
      have s0 := hm.soft (i * 2) (by omega)
      have iz := hm.zs.ok z (List.mem_of_getElem? hz)
      have zl := hide iz.len
      have zm := iz.max
      have zc := iz.le
      clear hz hz1 hbef iz
      go_wp2_with fail
      refine (shut_c g (i * 2) z _ e0 e1 s0 zl.out (by omega)).mono ?_
      rintro e w4 ⟨⟨v, rfl⟩, hp⟩
      have hm4 := hm.put HZ.out hp
      have b4 := b0.trans (But.of_put hp)
      obtain ⟨u, hu, hul⟩ := set_get HY.out HZ.out (shutS z.l)
      have HU := hide hu
      have HUL := hide hul
      clear hp hu hul
      go_wp2
      go_ret
      refine ⟨.inr ⟨_, u, ?_, rfl, hm4, HU.out, HUL.out, fun _ h => h.to HZ.out _⟩, b4⟩
      rw [room_some (roomZ_5 HS.out.1 HS.out.2 HO.out HF.out HZ.out), set_p, set_to_p, ZV.shut_p, ← shutS_p]
    · have HF := hide (fopen_no hno)
      clear hno
      go_wp2
      go_ret
      exact ⟨.inl ⟨room_none (roomZ_4 HS.out.1 HS.out.2 HO.out HF.out), rfl⟩, b0⟩


set_option maxHeartbeats 2000000 in
theorem makeRoom_empty (base g c : Nat) (Z : List ZV) (k : Nat) (y : ZV) (w : World) (hm : Mine w base g 4 c Z) (hk : k < 4) (hy : Z[k]? = some y) (hs0 : y.s = 0) :
    Calls Tryd.prog 89 #[.slice (some ⟨g, 0, none⟩) 4 c, .int .i64 k] w fun e w' => Room base g c Z k y e w' ∧ But g w w' := by
  obtain ⟨c0, c1⟩ := hm.cells k y hy
  rw [hs0] at c0
  have hk' : (k : Int) < 4 := by omega
  have q1 := cnt_le isO Z
  have q2 := cnt_le isA Z
  rw [hm.zs.len] at q1 q2
  have H0 := hide hs0
  have HY := hide hy
  clear hs0 hy
  go_enter Tryd.func89, Tryd.ntmps89
  go_wp2_with fail
  refine (yactive_c _ 4 c Z _ hm.zs (by omega)).mono ?_
  rintro e w5 ⟨rfl, hb5⟩
  have b0 := hm.but hb5
  replace hm := hm.below hb5
  clear hb5
  by_cases ha : 3 ≤ cnt isA Z
  · have ha' : (3 : Int) ≤ (cnt isA Z : Int) := by omega
    have HA := hide ha
    clear ha
    go_wp2
    go_ret
    exact ⟨.inl ⟨room_none (roomZ_2 (by rw [H0.out]; omega) (.inr ⟨H0.out, HA.out⟩)), rfl⟩, b0⟩
  have ha' : (cnt isA Z : Int) < 3 := by omega
  have HS := hide (show ¬ (y.s = 1 ∨ y.s = 2) ∧ ¬ (y.s = 4 ∨ y.s = 0 ∧ 3 ≤ cnt isA Z) by rw [H0.out]; omega)
  clear ha
  go_wp2_with fail
  refine (yopened_c _ 4 c Z _ hm.zs (by omega)).mono ?_
  rintro e w1 ⟨rfl, hb1⟩
  replace b0 := b0.trans (hm.but hb1)
  replace hm := hm.below hb1
  clear hb1
  by_cases ho : cnt isO Z < 2
  · have ho' : (cnt isO Z : Int) < 2 := by omega
    have HO := hide ho
    clear ho
    go_wp2
    go_ret
    exact ⟨.inr ⟨Z, y, room_some (roomZ_3 HS.out.1 HS.out.2 HO.out), rfl, hm, HY.out, rfl, fun _ h => h⟩, b0⟩
  · have ho' : (2 : Int) ≤ (cnt isO Z : Int) := by omega
    have HO := hide ho
    clear ho
    have i0 : Ints (w1.alloc (.cells #[.int .i64 1] 3)) (some ⟨w1.heap.size, 0, none⟩) 1 1 [1] := Ints.of_row (l := [1]) (heap_new w1 _) (by decide) (by decide) rfl
    go_wp2_with fail
    refine (yin_c _ 1 1 _).mono ?_
    rintro e w2 ⟨rfl, rfl⟩
    go_wp2_with fail
    have bn : Below w1.heap.size w1 ((w1.alloc (.cells #[.int .i64 1] 3)).alloc (.cells #[.slice (some ⟨w1.heap.size, 0, none⟩) 1 1] 23)) := by (repeat first | exact bel0 | assumption | refine bel1 ?_ | refine bel2 ?_ | refine bel3 ?_ | refine belowT ?_ (by assumption) | refine bel5 ?_ (by simp; try omega))
    refine (IndexFuncZ_c g 0 4 c Z _ _ 1 1 [1] _ (hm.below bn).zs (fun i z hz => by simpa using (hm.below bn).cells i z hz) (by simp) (i0.below (B := (w1.alloc (.cells #[.int .i64 1] 3)).heap.size) (by (repeat first | exact bel0 | assumption | refine bel1 ?_ | refine bel2 ?_ | refine bel3 ?_ | refine belowT ?_ (by assumption) | refine bel5 ?_ (by simp; try omega))) (Nat.le_refl _))).mono ?_
    rintro e w3 ⟨hres, hb3⟩
    have b13 : Below w1.heap.size w1 w3 := by (repeat first | exact bel0 | assumption | refine bel1 ?_ | refine bel2 ?_ | refine bel3 ?_ | refine belowT ?_ (by assumption) | refine bel5 ?_ (by simp; try omega))
    replace b0 := b0.trans (hm.but b13)
    replace hm := hm.below b13
    clear hb3 b13 bn i0
    rcases hres with ⟨i, z, rfl, hz, hz1, hbef⟩ | ⟨rfl, hno⟩
    · have HF := hide (fopen_at hz hz1 hbef)
      have HZ := hide hz
      have hi4 : i < 4 := by rw [← hm.zs.len]; exact (List.getElem?_eq_some_iff.1 hz).1
      have hi' : (i : Int) < 4 := by omega
      obtain ⟨e0, e1⟩ := hm.cells i z hz
      have s0 := hm.soft (i * 2) (by omega)
      have iz := hm.zs.ok z (List.mem_of_getElem? hz)
      have zl := hide iz.len
      have zm := iz.max
      have zc := iz.le
      clear hz hz1 hbef iz
      go_wp2_with fail
      refine (shut_c g (i * 2) z _ e0 e1 s0 zl.out (by omega)).mono ?_
      rintro e w4 ⟨⟨v, rfl⟩, hp⟩
      have hm4 := hm.put HZ.out hp
      have b4 := b0.trans (But.of_put hp)
      obtain ⟨u, hu, hul⟩ := set_get HY.out HZ.out (shutS z.l)
      have HU := hide hu
      have HUL := hide hul
      clear hp hu hul
      go_wp2
      go_ret
      refine ⟨.inr ⟨_, u, ?_, rfl, hm4, HU.out, HUL.out, fun _ h => h.to HZ.out _⟩, b4⟩
      rw [room_some (roomZ_5 HS.out.1 HS.out.2 HO.out HF.out HZ.out), set_p, set_to_p, ZV.shut_p, ← shutS_p]
    · have HF := hide (fopen_no hno)
      clear hno
      go_wp2
      go_ret
      exact ⟨.inl ⟨room_none (roomZ_4 HS.out.1 HS.out.2 HO.out HF.out), rfl⟩, b0⟩


set_option maxHeartbeats 2000000 in
theorem makeRoom_c (base g c : Nat) (Z : List ZV) (k : Nat) (y : ZV) (w : World) (hm : Mine w base g 4 c Z) (hk : k < 4) (hy : Z[k]? = some y) :
    Calls Tryd.prog 89 #[.slice (some ⟨g, 0, none⟩) 4 c, .int .i64 k] w fun e w' => Room base g c Z k y e w' ∧ But g w w' := by
  by_cases h0 : y.s = 0
  · exact makeRoom_empty base g c Z k y w hm hk hy h0
  by_cases h4 : y.s = 4
  · obtain ⟨c0, c1⟩ := hm.cells k y hy
    rw [h4] at c0
    have hk' : (k : Int) < 4 := by omega
    have H4 := hide h4
    clear h4 h0 hy
    go_enter Tryd.func89, Tryd.ntmps89
    go_wp2
    go_ret
    exact ⟨.inl ⟨room_none (roomZ_2 (by rw [H4.out]; omega) (.inl H4.out)), rfl⟩, But.refl _ _⟩
  by_cases h12 : y.s = 1 ∨ y.s = 2
  · have HY := hide hy
    have HH := hide h12
    obtain ⟨c0, c1⟩ := hm.cells k y hy
    have hk' : (k : Int) < 4 := by omega
    clear h4 h0 hy
    rcases h12 with h | h
    all_goals
      rw [h] at c0
      clear h
      go_enter Tryd.func89, Tryd.ntmps89
      go_wp2
      go_ret
      exact ⟨.inr ⟨Z, y, room_some (roomZ_1 HH.out), rfl, hm, HY.out, rfl, fun _ h => h⟩, But.refl _ _⟩
  · exact makeRoom_end base g c Z k y w hm hk hy (fun e => h12 (.inl e)) (fun e => h12 (.inr e)) h4 h0

end Go.Proofs.YtcmladgldjcdmaaDoor
