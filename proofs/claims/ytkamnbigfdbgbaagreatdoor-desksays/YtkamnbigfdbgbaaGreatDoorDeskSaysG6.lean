/- The contract of the document's own roomFor; no condition but that the slice reads as four zones, and that the number is one of theirs. -/
import Derived.Test.YtkamnbigfdbgbaaGreatDoorDeskSaysG5
namespace Go.Proofs.YtkamnbigfdbgbaaGreatDoor
open Go.RowKit
set_option linter.unusedVariables false
set_option maxRecDepth 100000
set_option linter.unusedSimpArgs false

/-- The first zone that is Open. -/
def fopen (Z : List ZV) : Option Nat := Z.findIdx? fun z => z.s == 1
/-- The zones when there is room for one of state s; none: there is none. -/
def roomZ (Z : List ZV) (s : Int) : Option (List ZV) :=
  if isO s then some Z
  else if s = 4 ∨ s = 0 ∧ 3 ≤ cnt isA Z then none
  else if cnt isO Z < 2 then some Z
  else match fopen Z with
    | none => none
    | some i => some (Z.modify i ZV.shut)

theorem fopen_some {Z : List ZV} {i : Nat} (h : fopen Z = some i) : ∃ z, Z[i]? = some z ∧ z.s = 1 ∧ ∀ (j : Nat) (y : ZV), j < i → Z[j]? = some y → y.s ≠ 1 := by
  unfold fopen at h
  rw [List.findIdx?_eq_some_iff_getElem] at h
  obtain ⟨hi, h1, h2⟩ := h
  refine ⟨Z[i], by simp [hi], by simpa using h1, fun j y hj hy => ?_⟩
  have := h2 j hj
  obtain ⟨hjl, rfl⟩ := List.getElem?_eq_some_iff.1 hy
  simpa using this
theorem fopen_none {Z : List ZV} (h : fopen Z = none) : ∀ (j : Nat) (y : ZV), Z[j]? = some y → y.s ≠ 1 := by
  unfold fopen at h
  rw [List.findIdx?_eq_none_iff] at h
  intro j y hy
  simpa using h y (List.mem_of_getElem? hy)
theorem modify_set {Z : List ZV} {i : Nat} {z : ZV} (h : Z[i]? = some z) : Z.modify i ZV.shut = Z.set i z.shut := by
  obtain ⟨hi, rfl⟩ := List.getElem?_eq_some_iff.1 h
  apply List.ext_getElem?
  intro j
  by_cases e : i = j
  · subst e; simp [List.getElem?_modify, hi]
  · simp [List.getElem?_modify, List.getElem?_set, e]

theorem roomZ_1 {Z : List ZV} {s : Int} (h : s = 1 ∨ s = 2) : roomZ Z s = some Z := by
  have : isO s = true := by rcases h with rfl | rfl <;> rfl
  simp [roomZ, this]
theorem roomZ_2 {Z : List ZV} {s : Int} (h : ¬ (s = 1 ∨ s = 2)) (h2 : s = 4 ∨ s = 0 ∧ 3 ≤ cnt isA Z) : roomZ Z s = none := by
  have : isO s = false := by simp [isO]; omega
  simp [roomZ, this, h2]
theorem roomZ_3 {Z : List ZV} {s : Int} (h : ¬ (s = 1 ∨ s = 2)) (h2 : ¬ (s = 4 ∨ s = 0 ∧ 3 ≤ cnt isA Z)) (h3 : cnt isO Z < 2) : roomZ Z s = some Z := by
  have : isO s = false := by simp [isO]; omega
  simp [roomZ, this, h2, h3]
theorem roomZ_4 {Z : List ZV} {s : Int} (h : ¬ (s = 1 ∨ s = 2)) (h2 : ¬ (s = 4 ∨ s = 0 ∧ 3 ≤ cnt isA Z)) (h3 : ¬ cnt isO Z < 2) (hf : fopen Z = none) : roomZ Z s = none := by
  have : isO s = false := by simp [isO]; omega
  simp [roomZ, this, h2, h3, hf]
theorem roomZ_5 {Z : List ZV} {s : Int} (h : ¬ (s = 1 ∨ s = 2)) (h2 : ¬ (s = 4 ∨ s = 0 ∧ 3 ≤ cnt isA Z)) (h3 : ¬ cnt isO Z < 2) {i : Nat} {z : ZV} (hf : fopen Z = some i) (hz : Z[i]? = some z) : roomZ Z s = some (Z.set i z.shut) := by
  have : isO s = false := by simp [isO]; omega
  simp [roomZ, this, h2, h3, hf, modify_set hz]

set_option maxHeartbeats 4000000 in
theorem roomFor_c (b off c : Nat) (Z : List ZV) (k : Nat) (y : ZV) (w : World) (h : Zones w (some ⟨b, off, none⟩) 4 c Z) (hk : k < 4) (hy : Z[k]? = some y)
    (hr : ∀ i z, Z[i]? = some z → w.cell? ⟨b, off + i * 2, none⟩ = some (.int .i64 z.s) ∧ w.cell? ⟨b, off + i * 2 + 1, none⟩ = some (.slice z.a z.n z.c)) :
    Calls Tryz.prog 65 #[.slice (some ⟨b, off, none⟩) 4 c, .int .i64 k] w fun e w' =>
      ((roomZ Z y.s = none ∧ e = .returned (.tuple #[.slice none 0 0, .int .i64 7])) ∨ (∃ Z' g cap, roomZ Z y.s = some Z' ∧ e = .returned (.tuple #[.slice (some ⟨g, 0, none⟩) 4 cap, .int .i64 0]) ∧ Mine w' w.heap.size g 4 cap Z')) ∧ Below w.heap.size w w' := by
  have hlen := hide h.len
  have hk' : (k : Int) < 4 := by omega
  have q1 := cnt_le isO Z
  have q2 := cnt_le isA Z
  rw [h.len] at q1 q2
  have HY := hide hy
  go_enter Tryz.func65, Tryz.ntmps65
  go_wp2_with fail
  refine (CloneZ_c b off c 4 Z _ h (by omega) (by omega) hr).mono ?_
  rintro e w1 ⟨⟨g, cap, rfl, hm⟩, hb1⟩
  go_wp2_with fail
  refine (opened_c _ 4 cap Z _ hm.zs (by omega)).mono ?_
  rintro e w2 ⟨rfl, hb2⟩
  have hm2 := hm.below hb2
  have bw2 := belowT hb1 hb2
  obtain ⟨c0, c1⟩ := hm2.cells k y hy
  clear hb1 hb2 hm hy
  go_wp2
  · go_ret2
    exact ⟨.inr ⟨Z, g, cap, roomZ_1 (.inl ‹_›), rfl, hm2⟩, bw2⟩
  · have hs : y.s = 1 ∨ y.s = 2 := by simpa using ‹(y.s == 1) = true ∨ (y.s == 2) = true›
    go_ret2
    exact ⟨.inr ⟨Z, g, cap, roomZ_1 hs, rfl, hm2⟩, bw2⟩
  · rename_i h1 h2 _ h3
    go_ret2
    exact ⟨.inl ⟨roomZ_2 (by simp at h1 h2; omega) (by simp at h3; omega), rfl⟩, bw2⟩
  · rename_i h1 h2 _ h3 h4
    go_ret2
    exact ⟨.inl ⟨roomZ_2 (by omega) (by omega), rfl⟩, bw2⟩
  · rename_i h1 h2 h3 h4 h5 h6
    go_ret2
    exact ⟨.inr ⟨Z, g, cap, roomZ_3 (by omega) (by omega) (by omega), rfl, hm2⟩, bw2⟩
  · have hno : ¬ (y.s = 1 ∨ y.s = 2) := by have := ‹(y.s == 1) = false ∧ (y.s == 2) = false›; simp at this; omega
    have hno4 : ¬ y.s = 4 := by simpa using ‹(y.s == 4) = false›
    have hno2 : ¬ (y.s = 4 ∨ y.s = 0 ∧ 3 ≤ cnt isA Z) := by have := ‹(cnt isA Z : Int) < 3›; omega
    have hno3 : ¬ cnt isO Z < 2 := by have := ‹(2 : Int) ≤ (cnt isO Z : Int)›; omega
    cases hf : fopen Z with
    | none =>
      have HN := hide (fopen_none hf)
      have HR := hide (roomZ_4 hno hno2 hno3 hf)
      clear hf hno2 hno3 hno hno4
      go_loopw [46] (fun i wr => ∃ j : Nat, j ≤ 4 ∧ i = .int .i64 j ∧ Below w2.heap.size w2 wr) (fun i _ => 4 - (intOf i).toNat)
      case atStart => exact ⟨0, by omega, rfl, Below.refl _ _⟩
      case round =>
        obtain ⟨j, hj, rfl, hbr⟩ := hrel
        by_cases hlt : j < 4
        · obtain ⟨z, hz⟩ : ∃ z, Z[j]? = some z := ⟨Z[j]'(by rw [hlen.out]; exact hlt), by simp⟩
          obtain ⟨e0, e1⟩ := (hm2.below hbr).cells j z hz
          have hne : (z.s == 1) = false := by simpa using HN.out j z hz
          have hlt' : (j : Int) < 4 := by omega
          clear hz
          go_wp2
          exact ⟨⟨j + 1, by omega, by go_num, by (repeat first | exact bel0 | assumption | refine bel1 ?_ | refine bel2 ?_ | refine bel3 ?_ | refine belowT ?_ (by assumption) | refine bel5 ?_ (by simp; try omega))⟩, by simp [intOf]; omega⟩
        · obtain rfl : j = 4 := by omega
          go_wp2
          go_ret2
          exact ⟨.inl ⟨HR.out, rfl⟩, by (repeat first | exact bel0 | assumption | refine bel1 ?_ | refine bel2 ?_ | refine bel3 ?_ | refine belowT ?_ (by assumption) | refine bel5 ?_ (by simp; try omega))⟩
    | some i =>
      obtain ⟨z, hz, hz1, hbef⟩ := fopen_some hf
      have hi4 : i < 4 := by rw [← hlen.out]; exact (List.getElem?_eq_some_iff.1 hz).1
      have HN := hide hbef
      have HR := hide (roomZ_5 hno hno2 hno3 hf hz)
      have HZ := hide hz
      have hzb : (z.s == 1) = true := by simpa using hz1
      have hzok := hm2.zs.ok z (List.mem_of_getElem? hz)
      have hzoff := hm2.off z (List.mem_of_getElem? hz)
      clear hf hno2 hno3 hno hno4 hz hz1 hbef
      go_loopw [46] (fun x wr => ∃ j : Nat, j ≤ i ∧ x = .int .i64 j ∧ Below w2.heap.size w2 wr) (fun x _ => 4 - (intOf x).toNat)
      case atStart => exact ⟨0, by omega, rfl, Below.refl _ _⟩
      case round =>
        obtain ⟨j, hj, rfl, hbr⟩ := hrel
        rename_i wr
        have hlt' : (j : Int) < 4 := by omega
        by_cases hlt : j < i
        · obtain ⟨u, hu⟩ : ∃ z, Z[j]? = some z := ⟨Z[j]'(by rw [hlen.out]; omega), by simp⟩
          obtain ⟨e0, e1⟩ := (hm2.below hbr).cells j u hu
          have hne : (u.s == 1) = false := by simpa using HN.out j u hlt hu
          clear hu
          go_wp2
          exact ⟨⟨j + 1, by omega, by go_num, by (repeat first | exact bel0 | assumption | refine bel1 ?_ | refine bel2 ?_ | refine bel3 ?_ | refine belowT ?_ (by assumption) | refine bel5 ?_ (by simp; try omega))⟩, by simp [intOf]; omega⟩
        · obtain rfl : j = i := by omega
          have hm3 := hm2.below hbr
          obtain ⟨e0, e1⟩ := hm3.cells j z HZ.out
          have hok3 : z.ok wr := hzok.below hbr (Nat.le_refl _)
          have hs0 := hm3.soft (j * 2) (by omega)
          have hs1 := hm3.soft (j * 2 + 1) (by omega)
          go_wp2_with fail
          refine (shutR_c z _ (Ints.below hok3 (B := wr.heap.size) (by (repeat first | exact bel0 | assumption | refine bel1 ?_ | refine bel2 ?_ | refine bel3 ?_ | refine belowT ?_ (by assumption) | refine bel5 ?_ (by simp; try omega))) (Nat.le_refl _))).mono ?_
          rintro e w4 ⟨rfl, hb4⟩
          have hb5 : Below wr.heap.size wr w4 := by (repeat first | exact bel0 | assumption | refine bel1 ?_ | refine bel2 ?_ | refine bel3 ?_ | refine belowT ?_ (by assumption) | refine bel5 ?_ (by simp; try omega))
          have hm4 := hm3.below hb5
          have g0 := keepc hb5 e0
          have g1 := keepc hb5 e1
          have t0 := keepf hb5 e0 hs0
          have t1 := keepf hb5 e1 hs1
          have hset := hm4.set j (by omega) z.shut (ZV.shut_ok (Ints.below hok3 hb5 (Nat.le_refl _))) (ZV.shut_off hzoff)
          have bw5 : Below w.heap.size w w4 := belowT (belowT bw2 hbr) hb5
          have hgb := hm4.base
          go_wp2
          go_ret2
          exact ⟨.inr ⟨_, g, cap, HR.out, rfl, hset⟩, by (repeat first | exact bel0 | assumption | refine bel1 ?_ | refine bel2 ?_ | refine bel3 ?_ | refine belowT ?_ (by assumption) | refine bel5 ?_ (by simp; try omega))⟩
  · rename_i h1 h2 h3 h4 h5
    go_ret2
    exact ⟨.inr ⟨Z, g, cap, roomZ_3 (by simp at h2; omega) (by simp at h3; omega) (by omega), rfl, hm2⟩, bw2⟩
  · have hno : ¬ (y.s = 1 ∨ y.s = 2) := by have := ‹(y.s == 1) = false ∧ (y.s == 2) = false›; simp at this; omega
    have hno4 : ¬ y.s = 4 := by simpa using ‹(y.s == 4) = false›
    have hno2 : ¬ (y.s = 4 ∨ y.s = 0 ∧ 3 ≤ cnt isA Z) := by have := ‹¬ y.s = 0›; omega
    have hno3 : ¬ cnt isO Z < 2 := by have := ‹(2 : Int) ≤ (cnt isO Z : Int)›; omega
    cases hf : fopen Z with
    | none =>
      have HN := hide (fopen_none hf)
      have HR := hide (roomZ_4 hno hno2 hno3 hf)
      clear hf hno2 hno3 hno hno4
      go_loopw [46] (fun i wr => ∃ j : Nat, j ≤ 4 ∧ i = .int .i64 j ∧ Below w2.heap.size w2 wr) (fun i _ => 4 - (intOf i).toNat)
      case atStart => exact ⟨0, by omega, rfl, Below.refl _ _⟩
      case round =>
        obtain ⟨j, hj, rfl, hbr⟩ := hrel
        by_cases hlt : j < 4
        · obtain ⟨z, hz⟩ : ∃ z, Z[j]? = some z := ⟨Z[j]'(by rw [hlen.out]; exact hlt), by simp⟩
          obtain ⟨e0, e1⟩ := (hm2.below hbr).cells j z hz
          have hne : (z.s == 1) = false := by simpa using HN.out j z hz
          have hlt' : (j : Int) < 4 := by omega
          clear hz
          go_wp2
          exact ⟨⟨j + 1, by omega, by go_num, by (repeat first | exact bel0 | assumption | refine bel1 ?_ | refine bel2 ?_ | refine bel3 ?_ | refine belowT ?_ (by assumption) | refine bel5 ?_ (by simp; try omega))⟩, by simp [intOf]; omega⟩
        · obtain rfl : j = 4 := by omega
          go_wp2
          go_ret2
          exact ⟨.inl ⟨HR.out, rfl⟩, by (repeat first | exact bel0 | assumption | refine bel1 ?_ | refine bel2 ?_ | refine bel3 ?_ | refine belowT ?_ (by assumption) | refine bel5 ?_ (by simp; try omega))⟩
    | some i =>
      obtain ⟨z, hz, hz1, hbef⟩ := fopen_some hf
      have hi4 : i < 4 := by rw [← hlen.out]; exact (List.getElem?_eq_some_iff.1 hz).1
      have HN := hide hbef
      have HR := hide (roomZ_5 hno hno2 hno3 hf hz)
      have HZ := hide hz
      have hzb : (z.s == 1) = true := by simpa using hz1
      have hzok := hm2.zs.ok z (List.mem_of_getElem? hz)
      have hzoff := hm2.off z (List.mem_of_getElem? hz)
      clear hf hno2 hno3 hno hno4 hz hz1 hbef
      go_loopw [46] (fun x wr => ∃ j : Nat, j ≤ i ∧ x = .int .i64 j ∧ Below w2.heap.size w2 wr) (fun x _ => 4 - (intOf x).toNat)
      case atStart => exact ⟨0, by omega, rfl, Below.refl _ _⟩
      case round =>
        obtain ⟨j, hj, rfl, hbr⟩ := hrel
        rename_i wr
        have hlt' : (j : Int) < 4 := by omega
        by_cases hlt : j < i
        · obtain ⟨u, hu⟩ : ∃ z, Z[j]? = some z := ⟨Z[j]'(by rw [hlen.out]; omega), by simp⟩
          obtain ⟨e0, e1⟩ := (hm2.below hbr).cells j u hu
          have hne : (u.s == 1) = false := by simpa using HN.out j u hlt hu
          clear hu
          go_wp2
          exact ⟨⟨j + 1, by omega, by go_num, by (repeat first | exact bel0 | assumption | refine bel1 ?_ | refine bel2 ?_ | refine bel3 ?_ | refine belowT ?_ (by assumption) | refine bel5 ?_ (by simp; try omega))⟩, by simp [intOf]; omega⟩
        · obtain rfl : j = i := by omega
          have hm3 := hm2.below hbr
          obtain ⟨e0, e1⟩ := hm3.cells j z HZ.out
          have hok3 : z.ok wr := hzok.below hbr (Nat.le_refl _)
          have hs0 := hm3.soft (j * 2) (by omega)
          have hs1 := hm3.soft (j * 2 + 1) (by omega)
          go_wp2_with fail
          refine (shutR_c z _ (Ints.below hok3 (B := wr.heap.size) (by (repeat first | exact bel0 | assumption | refine bel1 ?_ | refine bel2 ?_ | refine bel3 ?_ | refine belowT ?_ (by assumption) | refine bel5 ?_ (by simp; try omega))) (Nat.le_refl _))).mono ?_
          rintro e w4 ⟨rfl, hb4⟩
          have hb5 : Below wr.heap.size wr w4 := by (repeat first | exact bel0 | assumption | refine bel1 ?_ | refine bel2 ?_ | refine bel3 ?_ | refine belowT ?_ (by assumption) | refine bel5 ?_ (by simp; try omega))
          have hm4 := hm3.below hb5
          have g0 := keepc hb5 e0
          have g1 := keepc hb5 e1
          have t0 := keepf hb5 e0 hs0
          have t1 := keepf hb5 e1 hs1
          have hset := hm4.set j (by omega) z.shut (ZV.shut_ok (Ints.below hok3 hb5 (Nat.le_refl _))) (ZV.shut_off hzoff)
          have bw5 : Below w.heap.size w w4 := belowT (belowT bw2 hbr) hb5
          have hgb := hm4.base
          go_wp2
          go_ret2
          exact ⟨.inr ⟨_, g, cap, HR.out, rfl, hset⟩, by (repeat first | exact bel0 | assumption | refine bel1 ?_ | refine bel2 ?_ | refine bel3 ?_ | refine belowT ?_ (by assumption) | refine bel5 ?_ (by simp; try omega))⟩

end Go.Proofs.YtkamnbigfdbgbaaGreatDoor

/- The contract of the document's own OnZones, kind by kind; no condition but that the slices read as zones and data. -/
namespace Go.Proofs.YtkamnbigfdbgbaaGreatDoor
open Go.RowKit
set_option linter.unusedVariables false
set_option maxRecDepth 100000
set_option linter.unusedSimpArgs false

theorem ret_3 {u v : Value} {k : IntKind} {a b : Int} (h : a = b) : Ending.returned (.tuple #[u, v, .int k a]) = .returned (.tuple #[u, v, .int k b]) := by rw [h]

theorem bad_c (x : Int) (w : World) : Calls Tryz.prog 62 #[.int .i64 x] w fun e w' => e = .returned (.tuple #[.slice none 0 0, .int .i64 0, .int .i64 x]) ∧ w' = w := by
  go_enter Tryz.func62, Tryz.ntmps62
  go_wp2
  go_ret3
  exact ⟨rfl, rfl⟩

set_option maxHeartbeats 2000000 in
theorem OnZ_bad (kd : Int) (a : Option Addr) (n c : Nat) (Z : List ZV) (k : Int) (b : Option Addr) (m d : Nat) (w : World) (h : Zones w a n c Z) (hbad : checkZs (Z.map ZV.p) ≠ 0) :
    Calls Tryz.prog 40 #[.slice a n c, .int .i64 kd, .int .i64 k, .slice b m d] w fun e w' => e = .returned (.tuple #[.slice none 0 0, .int .i64 0, .int .i64 (checkZs (Z.map ZV.p))]) ∧ Below w.heap.size w w' := by
  go_enter Tryz.func40, Tryz.ntmps40
  go_wp2_with fail
  refine (CheckZones_c a n c Z _ h).mono ?_
  rintro e w1 ⟨rfl, hb1⟩
  generalize hx : checkZs (Z.map ZV.p) = x at *
  have HX := hide hx
  clear hx
  have hx : (x != 0) = true := by simpa using hbad
  go_wp2_with (go_at_call 62; refine (bad_c _ _).mono ?_; rintro e w1 ⟨rfl, rfl⟩)
  go_ret3
  exact ⟨ret_3 HX.out.symm, by (repeat first | exact bel0 | assumption | refine bel1 ?_ | refine bel2 ?_ | refine bel3 ?_ | refine belowT ?_ (by assumption) | refine bel5 ?_ (by simp; try omega))⟩

set_option maxHeartbeats 2000000 in
theorem OnZ_who (kd : Int) (a : Option Addr) (n c : Nat) (Z : List ZV) (k : Int) (b : Option Addr) (m d : Nat) (w : World) (h : Zones w a n c Z) (hok : checkZs (Z.map ZV.p) = 0) (hk : inB k 0 3 = false) :
    Calls Tryz.prog 40 #[.slice a n c, .int .i64 kd, .int .i64 k, .slice b m d] w fun e w' => e = .returned (.tuple #[.slice none 0 0, .int .i64 0, .int .i64 5]) ∧ Below w.heap.size w w' := by
  have HX := hide hok
  clear hok
  go_enter Tryz.func40, Tryz.ntmps40
  go_wp2_with fail
  refine (CheckZones_c a n c Z _ h).mono ?_
  rintro e w1 ⟨rfl, hb1⟩
  rw [HX.out]
  go_wp2_with (first | (go_at_call 26; refine (in_c _ _ _ _).mono ?_; rintro e w1 ⟨rfl, rfl⟩) | (go_at_call 62; refine (bad_c _ _).mono ?_; rintro e w1 ⟨rfl, rfl⟩))
  go_ret3
  exact ⟨rfl, by (repeat first | exact bel0 | assumption | refine bel1 ?_ | refine bel2 ?_ | refine bel3 ?_ | refine belowT ?_ (by assumption) | refine bel5 ?_ (by simp; try omega))⟩

theorem zs_four {w : World} {a : Option Addr} {n c : Nat} {Z : List ZV} (h : Zones w a n c Z) (hok : checkZs (Z.map ZV.p) = 0) :
    n = 4 ∧ ∃ b off, a = some ⟨b, off, none⟩ ∧ ∀ i z, Z[i]? = some z → w.cell? ⟨b, off + i * 2, none⟩ = some (.int .i64 z.s) ∧ w.cell? ⟨b, off + i * 2 + 1, none⟩ = some (.slice z.a z.n z.c) := by
  have h4 : n = 4 := by
    apply Decidable.byContradiction
    intro hn
    rw [← checkZs_1 (Z := Z) (by rw [h.len]; exact hn)] at hok
    omega
  refine ⟨h4, ?_⟩
  rcases h.row with h0 | ⟨b, off, ha, _, hr⟩
  · omega
  · exact ⟨b, off, ha, hr⟩

set_option maxHeartbeats 4000000 in
theorem OnZ_finish (b off c : Nat) (Z : List ZV) (k : Nat) (z : ZV) (bd : Option Addr) (m d : Nat) (w : World) (h : Zones w (some ⟨b, off, none⟩) 4 c Z) (hok : checkZs (Z.map ZV.p) = 0) (hk : k < 4) (hz : Z[k]? = some z)
    (hr : ∀ i z, Z[i]? = some z → w.cell? ⟨b, off + i * 2, none⟩ = some (.int .i64 z.s) ∧ w.cell? ⟨b, off + i * 2 + 1, none⟩ = some (.slice z.a z.n z.c)) :
    Calls Tryz.prog 40 #[.slice (some ⟨b, off, none⟩) 4 c, .int .i64 3, .int .i64 k, .slice bd m d] w fun e w' => (∃ g cap, e = .returned (.tuple #[.slice (some ⟨g, 0, none⟩) 4 cap, .int .i64 0, .int .i64 0]) ∧ Mine w' w.heap.size g 4 cap (Z.set k ⟨4, z.a, z.n, z.c, z.l⟩)) ∧ Below w.heap.size w w' := by
  have HX := hide hok
  have hk' : (k : Int) < 4 := by omega
  have hin : inB (k : Int) 0 3 = true := by simp [inB]; omega
  clear hok
  go_enter Tryz.func40, Tryz.ntmps40
  go_wp2_with fail
  refine (CheckZones_c _ 4 c Z _ h).mono ?_
  rintro e w1 ⟨rfl, hb1⟩
  rw [HX.out]
  have hzok := (h.ok z (List.mem_of_getElem? hz)).below hb1 (Nat.le_refl _)
  obtain ⟨c0, c1⟩ := hr k z hz
  replace c0 := keepc hb1 c0
  replace c1 := keepc hb1 c1
  replace h := h.below hb1 (Nat.le_refl _)
  replace hr := fun i z hz => (⟨keepc hb1 (hr i z hz).1, keepc hb1 (hr i z hz).2⟩ : _ ∧ _)
  have HZ := hide hz
  clear hz
  have HR := hide hr
  clear hr
  go_wp2_with (first | (go_at_call 26; refine (in_c _ _ _ _).mono ?_; rintro e w1 ⟨rfl, rfl⟩))
  refine (CloneZ_c b off c 4 Z _ (h.below (B := w1.heap.size) (by (repeat first | exact bel0 | assumption | refine bel1 ?_ | refine bel2 ?_ | refine bel3 ?_ | refine belowT ?_ (by assumption) | refine bel5 ?_ (by simp; try omega))) (Nat.le_refl _)) (by omega) (by omega) (fun i z hz => ⟨past1 (HR.out i z hz).1 _, past1 (HR.out i z hz).2 _⟩)).mono ?_
  rintro e w2 ⟨⟨g, cap, rfl, hm⟩, hb2⟩
  have x0 := keepc hb2 (p := ⟨w1.heap.size, 0, none⟩) (u := .int .i64 (4)) (by go_simp)
  have x1 := keepc hb2 (p := ⟨w1.heap.size, 1, none⟩) (u := .slice z.a z.n z.c) (by go_simp)
  have s0 := hm.soft (k * 2) (by omega)
  have s1 := hm.soft (k * 2 + 1) (by omega)
  obtain ⟨y0, y1⟩ := hm.cells k z HZ.out
  have b2 : Below w1.heap.size w1 w2 := by (repeat first | exact bel0 | assumption | refine bel1 ?_ | refine bel2 ?_ | refine bel3 ?_ | refine belowT ?_ (by assumption) | refine bel5 ?_ (by simp; try omega))
  have hb12 := hb1.size
  have hmg := hm.base
  simp at hmg
  have hset := (hm.mono (base' := w.heap.size) (by simp; omega)).set k hk ⟨4, z.a, z.n, z.c, z.l⟩ (Ints.below hzok b2 (Nat.le_refl _)) (ZV.off_new (z := ⟨4, z.a, z.n, z.c, z.l⟩) hzok (by omega))
  have bw2 : Below w.heap.size w w2 := belowT hb1 b2
  clear hb2 hm
  go_wp2
  go_ret3
  exact ⟨⟨g, cap, rfl, hset⟩, by (repeat first | exact bel0 | assumption | refine bel1 ?_ | refine bel2 ?_ | refine bel3 ?_ | refine belowT ?_ (by assumption) | refine bel5 ?_ (by simp; try omega))⟩

set_option maxHeartbeats 4000000 in
theorem OnZ_reset (b off c : Nat) (Z : List ZV) (k : Nat) (z : ZV) (bd : Option Addr) (m d : Nat) (w : World) (h : Zones w (some ⟨b, off, none⟩) 4 c Z) (hok : checkZs (Z.map ZV.p) = 0) (hk : k < 4) (hz : Z[k]? = some z)
    (hr : ∀ i z, Z[i]? = some z → w.cell? ⟨b, off + i * 2, none⟩ = some (.int .i64 z.s) ∧ w.cell? ⟨b, off + i * 2 + 1, none⟩ = some (.slice z.a z.n z.c)) :
    Calls Tryz.prog 40 #[.slice (some ⟨b, off, none⟩) 4 c, .int .i64 4, .int .i64 k, .slice bd m d] w fun e w' => (∃ g cap, e = .returned (.tuple #[.slice (some ⟨g, 0, none⟩) 4 cap, .int .i64 0, .int .i64 0]) ∧ Mine w' w.heap.size g 4 cap (Z.set k ⟨0, none, 0, 0, []⟩)) ∧ Below w.heap.size w w' := by
  have HX := hide hok
  have hk' : (k : Int) < 4 := by omega
  have hin : inB (k : Int) 0 3 = true := by simp [inB]; omega
  clear hok
  go_enter Tryz.func40, Tryz.ntmps40
  go_wp2_with fail
  refine (CheckZones_c _ 4 c Z _ h).mono ?_
  rintro e w1 ⟨rfl, hb1⟩
  rw [HX.out]
  have hzok := (h.ok z (List.mem_of_getElem? hz)).below hb1 (Nat.le_refl _)
  obtain ⟨c0, c1⟩ := hr k z hz
  replace c0 := keepc hb1 c0
  replace c1 := keepc hb1 c1
  replace h := h.below hb1 (Nat.le_refl _)
  replace hr := fun i z hz => (⟨keepc hb1 (hr i z hz).1, keepc hb1 (hr i z hz).2⟩ : _ ∧ _)
  have HZ := hide hz
  clear hz
  have HR := hide hr
  clear hr
  go_wp2_with (first | (go_at_call 26; refine (in_c _ _ _ _).mono ?_; rintro e w1 ⟨rfl, rfl⟩))
  refine (CloneZ_c b off c 4 Z _ (h.below (B := w1.heap.size) (by (repeat first | exact bel0 | assumption | refine bel1 ?_ | refine bel2 ?_ | refine bel3 ?_ | refine belowT ?_ (by assumption) | refine bel5 ?_ (by simp; try omega))) (Nat.le_refl _)) (by omega) (by omega) (fun i z hz => ⟨past1 (HR.out i z hz).1 _, past1 (HR.out i z hz).2 _⟩)).mono ?_
  rintro e w2 ⟨⟨g, cap, rfl, hm⟩, hb2⟩
  have x0 := keepc hb2 (p := ⟨w1.heap.size, 0, none⟩) (u := .int .i64 (0)) (by go_simp)
  have x1 := keepc hb2 (p := ⟨w1.heap.size, 1, none⟩) (u := .slice none 0 0) (by go_simp)
  have s0 := hm.soft (k * 2) (by omega)
  have s1 := hm.soft (k * 2 + 1) (by omega)
  obtain ⟨y0, y1⟩ := hm.cells k z HZ.out
  have b2 : Below w1.heap.size w1 w2 := by (repeat first | exact bel0 | assumption | refine bel1 ?_ | refine bel2 ?_ | refine bel3 ?_ | refine belowT ?_ (by assumption) | refine bel5 ?_ (by simp; try omega))
  have hb12 := hb1.size
  have hmg := hm.base
  simp at hmg
  have hset := (hm.mono (base' := w.heap.size) (by simp; omega)).set k hk ⟨0, none, 0, 0, []⟩ (Ints.nilSlice _) (.inl rfl)
  have bw2 : Below w.heap.size w w2 := belowT hb1 b2
  clear hb2 hm
  go_wp2
  go_ret3
  exact ⟨⟨g, cap, rfl, hset⟩, by (repeat first | exact bel0 | assumption | refine bel1 ?_ | refine bel2 ?_ | refine bel3 ?_ | refine belowT ?_ (by assumption) | refine bel5 ?_ (by simp; try omega))⟩

end Go.Proofs.YtkamnbigfdbgbaaGreatDoor

/- The contract of the document's own OnZones at Close and Open; no condition but that the slices read as zones and data. -/
namespace Go.Proofs.YtkamnbigfdbgbaaGreatDoor
open Go.RowKit
set_option linter.unusedVariables false
set_option maxRecDepth 100000
set_option linter.unusedSimpArgs false

set_option maxHeartbeats 4000000 in
theorem OnZ_close_no (b off c : Nat) (Z : List ZV) (k : Nat) (z : ZV) (bd : Option Addr) (m d : Nat) (w : World) (h : Zones w (some ⟨b, off, none⟩) 4 c Z) (hok : checkZs (Z.map ZV.p) = 0) (hk : k < 4) (hz : Z[k]? = some z) (hs : isO z.s = false)
    (hr : ∀ i z, Z[i]? = some z → w.cell? ⟨b, off + i * 2, none⟩ = some (.int .i64 z.s) ∧ w.cell? ⟨b, off + i * 2 + 1, none⟩ = some (.slice z.a z.n z.c)) :
    Calls Tryz.prog 40 #[.slice (some ⟨b, off, none⟩) 4 c, .int .i64 2, .int .i64 k, .slice bd m d] w fun e w' => e = .returned (.tuple #[.slice none 0 0, .int .i64 0, .int .i64 6]) ∧ Below w.heap.size w w' := by
  have HX := hide hok
  have hk' : (k : Int) < 4 := by omega
  have hin : inB (k : Int) 0 3 = true := by simp [inB]; omega
  have hs1 : (z.s != 1) = true := by simp [isO] at hs; simp; omega
  have hs2 : (z.s != 2) = true := by simp [isO] at hs; simp; omega
  clear hok hs
  go_enter Tryz.func40, Tryz.ntmps40
  go_wp2_with fail
  refine (CheckZones_c _ 4 c Z _ h).mono ?_
  rintro e w1 ⟨rfl, hb1⟩
  rw [HX.out]
  obtain ⟨c0, c1⟩ := hr k z hz
  replace c0 := keepc hb1 c0
  replace c1 := keepc hb1 c1
  clear hz hr
  go_wp2_with (first | (go_at_call 26; refine (in_c _ _ _ _).mono ?_; rintro e w1 ⟨rfl, rfl⟩) | (go_at_call 62; refine (bad_c _ _).mono ?_; rintro e w2 ⟨rfl, rfl⟩))
  go_ret3
  exact ⟨rfl, by (repeat first | exact bel0 | assumption | refine bel1 ?_ | refine bel2 ?_ | refine bel3 ?_ | refine belowT ?_ (by assumption) | refine bel5 ?_ (by simp; try omega))⟩

set_option maxHeartbeats 4000000 in
theorem OnZ_close (b off c : Nat) (Z : List ZV) (k : Nat) (z : ZV) (bd : Option Addr) (m d : Nat) (w : World) (h : Zones w (some ⟨b, off, none⟩) 4 c Z) (hok : checkZs (Z.map ZV.p) = 0) (hk : k < 4) (hz : Z[k]? = some z) (hs : isO z.s = true)
    (hr : ∀ i z, Z[i]? = some z → w.cell? ⟨b, off + i * 2, none⟩ = some (.int .i64 z.s) ∧ w.cell? ⟨b, off + i * 2 + 1, none⟩ = some (.slice z.a z.n z.c)) :
    Calls Tryz.prog 40 #[.slice (some ⟨b, off, none⟩) 4 c, .int .i64 2, .int .i64 k, .slice bd m d] w fun e w' => (∃ g cap, e = .returned (.tuple #[.slice (some ⟨g, 0, none⟩) 4 cap, .int .i64 0, .int .i64 0]) ∧ Mine w' w.heap.size g 4 cap (Z.set k z.shut)) ∧ Below w.heap.size w w' := by
  have HX := hide hok
  have hk' : (k : Int) < 4 := by omega
  have hin : inB (k : Int) 0 3 = true := by simp [inB]; omega
  have hs1 : (z.s != 1) = true ∧ (z.s != 2) = false ∨ (z.s != 1) = false := by
    simp [isO] at hs
    rcases hs with e | e <;> simp [e]
  clear hok hs
  rcases hs1 with ⟨hs1, hs2⟩ | hs1
  all_goals
    go_enter Tryz.func40, Tryz.ntmps40
    go_wp2_with fail
    refine (CheckZones_c _ 4 c Z _ h).mono ?_
    rintro e w1 ⟨rfl, hb1⟩
    rw [HX.out]
    have hzok := (h.ok z (List.mem_of_getElem? hz)).below hb1 (Nat.le_refl _)
    obtain ⟨c0, c1⟩ := hr k z hz
    replace c0 := keepc hb1 c0
    replace c1 := keepc hb1 c1
    replace h := h.below hb1 (Nat.le_refl _)
    replace hr := fun i z hz => (⟨keepc hb1 (hr i z hz).1, keepc hb1 (hr i z hz).2⟩ : _ ∧ _)
    have HZ := hide hz
    clear hz
    have HR := hide hr
    clear hr
    go_wp2_with (first | (go_at_call 26; refine (in_c _ _ _ _).mono ?_; rintro e w1 ⟨rfl, rfl⟩))
    refine (shutR_c z _ (Ints.below hzok (B := w1.heap.size) (by (repeat first | exact bel0 | assumption | refine bel1 ?_ | refine bel2 ?_ | refine bel3 ?_ | refine belowT ?_ (by assumption) | refine bel5 ?_ (by simp; try omega))) (Nat.le_refl _))).mono ?_
    rintro e w3 ⟨rfl, hb3⟩
    have x0 := keepc hb3 (p := ⟨w1.heap.size, 0, none⟩) (u := .int .i64 z.s) (by go_simp)
    have x1 := keepc hb3 (p := ⟨w1.heap.size, 1, none⟩) (u := .slice z.a z.n z.c) (by go_simp)
    have f0 := keepf hb3 (p := ⟨w1.heap.size, 0, none⟩) (u := .int .i64 z.s) (by go_simp) (b := false) (by go_simp)
    have f1 := keepf hb3 (p := ⟨w1.heap.size, 1, none⟩) (u := .slice z.a z.n z.c) (by go_simp) (b := false) (by go_simp)
    have b3 : Below w1.heap.size w1 w3 := by (repeat first | exact bel0 | assumption | refine bel1 ?_ | refine bel2 ?_ | refine bel3 ?_ | refine belowT ?_ (by assumption) | refine bel5 ?_ (by simp; try omega))
    clear hb3
    go_wp2_with fail
    refine (CloneZ_c b off c 4 Z _ (h.below (B := w1.heap.size) (by (repeat first | exact bel0 | assumption | refine bel1 ?_ | refine bel2 ?_ | refine bel3 ?_ | refine belowT ?_ (by assumption) | refine bel5 ?_ (by simp; try omega))) (Nat.le_refl _)) (by omega) (by omega) (fun i z hz => ⟨keepc (by (repeat first | exact bel0 | assumption | refine bel1 ?_ | refine bel2 ?_ | refine bel3 ?_ | refine belowT ?_ (by assumption) | refine bel5 ?_ (by simp; try omega))) (HR.out i z hz).1, keepc (by (repeat first | exact bel0 | assumption | refine bel1 ?_ | refine bel2 ?_ | refine bel3 ?_ | refine belowT ?_ (by assumption) | refine bel5 ?_ (by simp; try omega))) (HR.out i z hz).2⟩)).mono ?_
    rintro e w2 ⟨⟨g, cap, rfl, hm⟩, hb2⟩
    replace x0 := keepc hb2 (p := ⟨w1.heap.size, 0, none⟩) (u := .int .i64 z.shut.s) (by go_simp)
    replace x1 := keepc hb2 (p := ⟨w1.heap.size, 1, none⟩) (u := .slice z.shut.a z.shut.n z.shut.c) (by go_simp)
    have s0 := hm.soft (k * 2) (by omega)
    have s1 := hm.soft (k * 2 + 1) (by omega)
    obtain ⟨y0, y1⟩ := hm.cells k z HZ.out
    have b2 : Below w1.heap.size w1 w2 := by (repeat first | exact bel0 | assumption | refine bel1 ?_ | refine bel2 ?_ | refine bel3 ?_ | refine belowT ?_ (by assumption) | refine bel5 ?_ (by simp; try omega))
    have hb12 := hb1.size
    have hb13 := b3.size
    have hmg := hm.base
    simp [World.setCell] at hmg
    have hset := (hm.mono (base' := w.heap.size) (by simp [World.setCell]; omega)).set k hk z.shut (ZV.shut_ok (Ints.below hzok b2 (Nat.le_refl _))) (ZV.shut_off (ZV.off_new hzok (by omega)))
    have bw2 : Below w.heap.size w w2 := belowT hb1 b2
    clear hb2 hm
    go_wp2
    go_ret3
    exact ⟨⟨g, cap, rfl, hset⟩, by (repeat first | exact bel0 | assumption | refine bel1 ?_ | refine bel2 ?_ | refine bel3 ?_ | refine belowT ?_ (by assumption) | refine bel5 ?_ (by simp; try omega))⟩

end Go.Proofs.YtkamnbigfdbgbaaGreatDoor

/- The contract of the document's own OnZones at Open; no condition but that the slices read as zones and data. -/
namespace Go.Proofs.YtkamnbigfdbgbaaGreatDoor
open Go.RowKit
set_option linter.unusedVariables false
set_option maxRecDepth 100000
set_option linter.unusedSimpArgs false

theorem roomZ_get {Z Z' : List ZV} {s : Int} (h : roomZ Z s = some Z') (k : Nat) (z : ZV) (hz : Z[k]? = some z) : ∃ u, Z'[k]? = some u := by
  have hk : k < Z.length := (List.getElem?_eq_some_iff.1 hz).1
  have hl : Z'.length = Z.length := by
    unfold roomZ at h
    split at h
    · cases h; rfl
    · split at h
      · cases h
      · split at h
        · cases h; rfl
        · split at h
          · cases h
          · cases h; simp
  exact ⟨Z'[k]'(by omega), by simp⟩

set_option maxHeartbeats 4000000 in
theorem OnZ_open (b off c : Nat) (Z : List ZV) (k : Nat) (z : ZV) (bd : Option Addr) (m d : Nat) (w : World) (h : Zones w (some ⟨b, off, none⟩) 4 c Z) (hok : checkZs (Z.map ZV.p) = 0) (hk : k < 4) (hz : Z[k]? = some z)
    (hr : ∀ i z, Z[i]? = some z → w.cell? ⟨b, off + i * 2, none⟩ = some (.int .i64 z.s) ∧ w.cell? ⟨b, off + i * 2 + 1, none⟩ = some (.slice z.a z.n z.c)) :
    Calls Tryz.prog 40 #[.slice (some ⟨b, off, none⟩) 4 c, .int .i64 1, .int .i64 k, .slice bd m d] w fun e w' =>
      ((roomZ Z z.s = none ∧ e = .returned (.tuple #[.slice none 0 0, .int .i64 0, .int .i64 7])) ∨ (∃ Z' g cap, roomZ Z z.s = some Z' ∧ e = .returned (.tuple #[.slice (some ⟨g, 0, none⟩) 4 cap, .int .i64 0, .int .i64 0]) ∧ Mine w' w.heap.size g 4 cap (Z'.set k ⟨2, z.a, z.n, z.c, z.l⟩))) ∧ Below w.heap.size w w' := by
  have HX := hide hok
  have hk' : (k : Int) < 4 := by omega
  have hin : inB (k : Int) 0 3 = true := by simp [inB]; omega
  clear hok
  go_enter Tryz.func40, Tryz.ntmps40
  go_wp2_with fail
  refine (CheckZones_c _ 4 c Z _ h).mono ?_
  rintro e w1 ⟨rfl, hb1⟩
  rw [HX.out]
  have hzok := (h.ok z (List.mem_of_getElem? hz)).below hb1 (Nat.le_refl _)
  obtain ⟨c0, c1⟩ := hr k z hz
  replace c0 := keepc hb1 c0
  replace c1 := keepc hb1 c1
  replace h := h.below hb1 (Nat.le_refl _)
  replace hr := fun i z hz => (⟨keepc hb1 (hr i z hz).1, keepc hb1 (hr i z hz).2⟩ : _ ∧ _)
  have HZ := hide hz
  clear hz
  have HR := hide hr
  clear hr
  go_wp2_with (first | (go_at_call 26; refine (in_c _ _ _ _).mono ?_; rintro e w1 ⟨rfl, rfl⟩))
  refine (roomFor_c b off c Z k z _ (h.below (B := w1.heap.size) (by (repeat first | exact bel0 | assumption | refine bel1 ?_ | refine bel2 ?_ | refine bel3 ?_ | refine belowT ?_ (by assumption) | refine bel5 ?_ (by simp; try omega))) (Nat.le_refl _)) hk HZ.out (fun i z hz => ⟨past1 (HR.out i z hz).1 _, past1 (HR.out i z hz).2 _⟩)).mono ?_
  rintro e w3 ⟨hres, hb3⟩
  have b3 : Below w1.heap.size w1 w3 := by (repeat first | exact bel0 | assumption | refine bel1 ?_ | refine bel2 ?_ | refine bel3 ?_ | refine belowT ?_ (by assumption) | refine bel5 ?_ (by simp; try omega))
  rcases hres with ⟨hrz, rfl⟩ | ⟨Z', g3, cap3, hrz, rfl, hm3⟩
  · have HRZ := hide hrz
    clear hrz
    go_wp2_with (go_at_call 62; refine (bad_c _ _).mono ?_; rintro e w3 ⟨rfl, rfl⟩)
    go_ret3
    exact ⟨.inl ⟨HRZ.out, rfl⟩, by (repeat first | exact bel0 | assumption | refine bel1 ?_ | refine bel2 ?_ | refine bel3 ?_ | refine belowT ?_ (by assumption) | refine bel5 ?_ (by simp; try omega))⟩
  · obtain ⟨u, hu⟩ := roomZ_get hrz k z HZ.out
    have HRZ := hide hrz
    have HU := hide hu
    clear hrz hu
    have x0 := keepc hb3 (p := ⟨w1.heap.size, 0, none⟩) (u := .int .i64 2) (by go_simp)
    have x1 := keepc hb3 (p := ⟨w1.heap.size, 1, none⟩) (u := .slice z.a z.n z.c) (by go_simp)
    clear hb3
    go_wp2_with fail
    refine (CloneZ_c g3 0 cap3 4 Z' _ hm3.zs (by omega) (by omega) (fun i z hz => by simpa using hm3.cells i z hz)).mono ?_
    rintro e w2 ⟨⟨g, cap, rfl, hm⟩, hb2⟩
    replace x0 := keepc hb2 x0
    replace x1 := keepc hb2 x1
    have s0 := hm.soft (k * 2) (by omega)
    have s1 := hm.soft (k * 2 + 1) (by omega)
    obtain ⟨y0, y1⟩ := hm.cells k u HU.out
    have b2 : Below w1.heap.size w1 w2 := belowT b3 hb2
    have hb12 := hb1.size
    have hb13 := b3.size
    have hmg := hm.base
    have hset := (hm.mono (base' := w.heap.size) (by omega)).set k hk ⟨2, z.a, z.n, z.c, z.l⟩ (Ints.below hzok b2 (Nat.le_refl _)) (ZV.off_new (z := ⟨2, z.a, z.n, z.c, z.l⟩) hzok (by omega))
    have bw2 : Below w.heap.size w w2 := belowT hb1 b2
    clear hb2 hm
    go_wp2
    go_ret3
    exact ⟨.inr ⟨Z', g, cap, HRZ.out, rfl, hset⟩, by (repeat first | exact bel0 | assumption | refine bel1 ?_ | refine bel2 ?_ | refine bel3 ?_ | refine belowT ?_ (by assumption) | refine bel5 ?_ (by simp; try omega))⟩

end Go.Proofs.YtkamnbigfdbgbaaGreatDoor
