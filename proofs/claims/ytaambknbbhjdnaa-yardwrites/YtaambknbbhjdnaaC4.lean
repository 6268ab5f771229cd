/- The contract of the document's own roomFor; no condition but that the slice reads as four zones, and that the number is one of theirs. -/
import Derived.Test.YtaambknbbhjdnaaC3
namespace Go.Proofs.Ytaambknbbhjdnaa
open Go.RowKit
set_option linter.unusedVariables false
set_option maxRecDepth 100000
set_option linter.unusedSimpArgs false

/-- The first zone that is Open. -/
def fopen (Z : List ZV) : Option Nat := Z.findIdx? fun z => z.s == 1
/-- The zones when there is room for one of state s; none: there is none. -/
def roomZ (Z : List ZV) (s : Int) : Option (List ZV) :=
  if isO s then some Z
  else if s = 4 ∨ s = 0 ∧ 3 ≤ cnt isA Z then none
  else if cnt isO Z < 2 then some Z
  else match fopen Z with
    | none => none
    | some i => some (Z.modify i ZV.shut)

theorem fopen_some {Z : List ZV} {i : Nat} (h : fopen Z = some i) : ∃ z, Z[i]? = some z ∧ z.s = 1 ∧ ∀ (j : Nat) (y : ZV), j < i → Z[j]? = some y → y.s ≠ 1 := by
  unfold fopen at h
  rw [List.findIdx?_eq_some_iff_getElem] at h
  obtain ⟨hi, h1, h2⟩ := h
  refine ⟨Z[i], by simp [hi], by simpa using h1, fun j y hj hy => ?_⟩
  have := h2 j hj
  obtain ⟨hjl, rfl⟩ := List.getElem?_eq_some_iff.1 hy
  simpa using this
theorem fopen_none {Z : List ZV} (h : fopen Z = none) : ∀ (j : Nat) (y : ZV), Z[j]? = some y → y.s ≠ 1 := by
  unfold fopen at h
  rw [List.findIdx?_eq_none_iff] at h
  intro j y hy
  simpa using h y (List.mem_of_getElem? hy)
theorem modify_set {Z : List ZV} {i : Nat} {z : ZV} (h : Z[i]? = some z) : Z.modify i ZV.shut = Z.set i z.shut := by
  obtain ⟨hi, rfl⟩ := List.getElem?_eq_some_iff.1 h
  apply List.ext_getElem?
  intro j
  by_cases e : i = j
  · subst e; simp [List.getElem?_modify, hi]
  · simp [List.getElem?_modify, List.getElem?_set, e]

theorem roomZ_1 {Z : List ZV} {s : Int} (h : s = 1 ∨ s = 2) : roomZ Z s = some Z := by
  have : isO s = true := by rcases h with rfl | rfl <;> rfl
  simp [roomZ, this]
theorem roomZ_2 {Z : List ZV} {s : Int} (h : ¬ (s = 1 ∨ s = 2)) (h2 : s = 4 ∨ s = 0 ∧ 3 ≤ cnt isA Z) : roomZ Z s = none := by
  have : isO s = false := by simp [isO]; omega
  simp [roomZ, this, h2]
theorem roomZ_3 {Z : List ZV} {s : Int} (h : ¬ (s = 1 ∨ s = 2)) (h2 : ¬ (s = 4 ∨ s = 0 ∧ 3 ≤ cnt isA Z)) (h3 : cnt isO Z < 2) : roomZ Z s = some Z := by
  have : isO s = false := by simp [isO]; omega
  simp [roomZ, this, h2, h3]
theorem roomZ_4 {Z : List ZV} {s : Int} (h : ¬ (s = 1 ∨ s = 2)) (h2 : ¬ (s = 4 ∨ s = 0 ∧ 3 ≤ cnt isA Z)) (h3 : ¬ cnt isO Z < 2) (hf : fopen Z = none) : roomZ Z s = none := by
  have : isO s = false := by simp [isO]; omega
  simp [roomZ, this, h2, h3, hf]
theorem roomZ_5 {Z : List ZV} {s : Int} (h : ¬ (s = 1 ∨ s = 2)) (h2 : ¬ (s = 4 ∨ s = 0 ∧ 3 ≤ cnt isA Z)) (h3 : ¬ cnt isO Z < 2) {i : Nat} {z : ZV} (hf : fopen Z = some i) (hz : Z[i]? = some z) : roomZ Z s = some (Z.set i z.shut) := by
  have : isO s = false := by simp [isO]; omega
  simp [roomZ, this, h2, h3, hf, modify_set hz]

set_option maxHeartbeats 4000000 in
theorem roomFor_c (b off c : Nat) (Z : List ZV) (k : Nat) (y : ZV) (w : World) (h : Zones w (some ⟨b, off, none⟩) 4 c Z) (hk : k < 4) (hy : Z[k]? = some y)
    (hr : ∀ i z, Z[i]? = some z → w.cell? ⟨b, off + i * 2, none⟩ = some (.int .i64 z.s) ∧ w.cell? ⟨b, off + i * 2 + 1, none⟩ = some (.slice z.a z.n z.c)) :
    Calls Try.prog 32 #[.slice (some ⟨b, off, none⟩) 4 c, .int .i64 k] w fun e w' =>
      ((roomZ Z y.s = none ∧ e = .returned (.tuple #[.slice none 0 0, .int .i64 7])) ∨ (∃ Z' g cap, roomZ Z y.s = some Z' ∧ e = .returned (.tuple #[.slice (some ⟨g, 0, none⟩) 4 cap, .int .i64 0]) ∧ Mine w' w.heap.size g 4 cap Z')) ∧ Below w.heap.size w w' := by
  have hlen := hide h.len
  have hk' : (k : Int) < 4 := by omega
  have q1 := cnt_le isO Z
  have q2 := cnt_le isA Z
  rw [h.len] at q1 q2
  have HY := hide hy
  go_enter Try.func32, Try.ntmps32
  go_wp2_with fail
  refine (CloneZ_c b off c 4 Z _ h (by omega) (by omega) hr).mono ?_
  rintro e w1 ⟨⟨g, cap, rfl, hm⟩, hb1⟩
  go_wp2_with fail
  refine (opened_c _ 4 cap Z _ hm.zs (by omega)).mono ?_
  rintro e w2 ⟨rfl, hb2⟩
  have hm2 := hm.below hb2
  have bw2 := belowT hb1 hb2
  obtain ⟨c0, c1⟩ := hm2.cells k y hy
  clear hb1 hb2 hm hy
  go_wp2
  · go_ret2
    exact ⟨.inr ⟨Z, g, cap, roomZ_1 (.inl ‹_›), rfl, hm2⟩, bw2⟩
  · have hs : y.s = 1 ∨ y.s = 2 := by simpa using ‹(y.s == 1) = true ∨ (y.s == 2) = true›
    go_ret2
    exact ⟨.inr ⟨Z, g, cap, roomZ_1 hs, rfl, hm2⟩, bw2⟩
  · rename_i h1 h2 _ h3
    go_ret2
    exact ⟨.inl ⟨roomZ_2 (by simp at h1 h2; omega) (by simp at h3; omega), rfl⟩, bw2⟩
  · rename_i h1 h2 _ h3 h4
    go_ret2
    exact ⟨.inl ⟨roomZ_2 (by omega) (by omega), rfl⟩, bw2⟩
  · rename_i h1 h2 h3 h4 h5 h6
    go_ret2
    exact ⟨.inr ⟨Z, g, cap, roomZ_3 (by omega) (by omega) (by omega), rfl, hm2⟩, bw2⟩
  · have hno : ¬ (y.s = 1 ∨ y.s = 2) := by have := ‹(y.s == 1) = false ∧ (y.s == 2) = false›; simp at this; omega
    have hno4 : ¬ y.s = 4 := by simpa using ‹(y.s == 4) = false›
    have hno2 : ¬ (y.s = 4 ∨ y.s = 0 ∧ 3 ≤ cnt isA Z) := by have := ‹(cnt isA Z : Int) < 3›; omega
    have hno3 : ¬ cnt isO Z < 2 := by have := ‹(2 : Int) ≤ (cnt isO Z : Int)›; omega
    cases hf : fopen Z with
    | none =>
      have HN := hide (fopen_none hf)
      have HR := hide (roomZ_4 hno hno2 hno3 hf)
      clear hf hno2 hno3 hno hno4
      go_loopw [46] (fun i wr => ∃ j : Nat, j ≤ 4 ∧ i = .int .i64 j ∧ Below w2.heap.size w2 wr) (fun i _ => 4 - (intOf i).toNat)
      case atStart => exact ⟨0, by omega, rfl, Below.refl _ _⟩
      case round =>
        obtain ⟨j, hj, rfl, hbr⟩ := hrel
        by_cases hlt : j < 4
        · obtain ⟨z, hz⟩ : ∃ z, Z[j]? = some z := ⟨Z[j]'(by rw [hlen.out]; exact hlt), by simp⟩
          obtain ⟨e0, e1⟩ := (hm2.below hbr).cells j z hz
          have hne : (z.s == 1) = false := by simpa using HN.out j z hz
          have hlt' : (j : Int) < 4 := by omega
          clear hz
          go_wp2
          exact ⟨⟨j + 1, by omega, by go_num, by (repeat first | exact bel0 | assumption | refine bel1 ?_ | refine bel2 ?_ | refine bel3 ?_ | refine belowT ?_ (by assumption) | refine bel5 ?_ (by simp; try omega))⟩, by simp [intOf]; omega⟩
        · obtain rfl : j = 4 := by omega
          go_wp2
          go_ret2
          exact ⟨.inl ⟨HR.out, rfl⟩, by (repeat first | exact bel0 | assumption | refine bel1 ?_ | refine bel2 ?_ | refine bel3 ?_ | refine belowT ?_ (by assumption) | refine bel5 ?_ (by simp; try omega))⟩
    | some i =>
      obtain ⟨z, hz, hz1, hbef⟩ := fopen_some hf
      have hi4 : i < 4 := by rw [← hlen.out]; exact (List.getElem?_eq_some_iff.1 hz).1
      have HN := hide hbef
      have HR := hide (roomZ_5 hno hno2 hno3 hf hz)
      have HZ := hide hz
      have hzb : (z.s == 1) = true := by simpa using hz1
      have hzok := hm2.zs.ok z (List.mem_of_getElem? hz)
      have hzoff := hm2.off z (List.mem_of_getElem? hz)
      clear hf hno2 hno3 hno hno4 hz hz1 hbef
      go_loopw [46] (fun x wr => ∃ j : Nat, j ≤ i ∧ x = .int .i64 j ∧ Below w2.heap.size w2 wr) (fun x _ => 4 - (intOf x).toNat)
      case atStart => exact ⟨0, by omega, rfl, Below.refl _ _⟩
      case round =>
        obtain ⟨j, hj, rfl, hbr⟩ := hrel
        rename_i wr
        have hlt' : (j : Int) < 4 := by omega
        by_cases hlt : j < i
        · obtain ⟨u, hu⟩ : ∃ z, Z[j]? = some z := ⟨Z[j]'(by rw [hlen.out]; omega), by simp⟩
          obtain ⟨e0, e1⟩ := (hm2.below hbr).cells j u hu
          have hne : (u.s == 1) = false := by simpa using HN.out j u hlt hu
          clear hu
          go_wp2
          exact ⟨⟨j + 1, by omega, by go_num, by (repeat first | exact bel0 | assumption | refine bel1 ?_ | refine bel2 ?_ | refine bel3 ?_ | refine belowT ?_ (by assumption) | refine bel5 ?_ (by simp; try omega))⟩, by simp [intOf]; omega⟩
        · obtain rfl : j = i := by omega
          have hm3 := hm2.below hbr
          obtain ⟨e0, e1⟩ := hm3.cells j z HZ.out
          have hok3 : z.ok wr := hzok.below hbr (Nat.le_refl _)
          have hs0 := hm3.soft (j * 2) (by omega)
          have hs1 := hm3.soft (j * 2 + 1) (by omega)
          go_wp2_with fail
          refine (shutR_c z _ (Ints.below hok3 (B := wr.heap.size) (by (repeat first | exact bel0 | assumption | refine bel1 ?_ | refine bel2 ?_ | refine bel3 ?_ | refine belowT ?_ (by assumption) | refine bel5 ?_ (by simp; try omega))) (Nat.le_refl _))).mono ?_
          rintro e w4 ⟨rfl, hb4⟩
          have hb5 : Below wr.heap.size wr w4 := by (repeat first | exact bel0 | assumption | refine bel1 ?_ | refine bel2 ?_ | refine bel3 ?_ | refine belowT ?_ (by assumption) | refine bel5 ?_ (by simp; try omega))
          have hm4 := hm3.below hb5
          have g0 := keepc hb5 e0
          have g1 := keepc hb5 e1
          have t0 := keepf hb5 e0 hs0
          have t1 := keepf hb5 e1 hs1
          have hset := hm4.set j (by omega) z.shut (ZV.shut_ok (Ints.below hok3 hb5 (Nat.le_refl _))) (ZV.shut_off hzoff)
          have bw5 : Below w.heap.size w w4 := belowT (belowT bw2 hbr) hb5
          have hgb := hm4.base
          go_wp2
          go_ret2
          exact ⟨.inr ⟨_, g, cap, HR.out, rfl, hset⟩, by (repeat first | exact bel0 | assumption | refine bel1 ?_ | refine bel2 ?_ | refine bel3 ?_ | refine belowT ?_ (by assumption) | refine bel5 ?_ (by simp; try omega))⟩
  · rename_i h1 h2 h3 h4 h5
    go_ret2
    exact ⟨.inr ⟨Z, g, cap, roomZ_3 (by simp at h2; omega) (by simp at h3; omega) (by omega), rfl, hm2⟩, bw2⟩
  · have hno : ¬ (y.s = 1 ∨ y.s = 2) := by have := ‹(y.s == 1) = false ∧ (y.s == 2) = false›; simp at this; omega
    have hno4 : ¬ y.s = 4 := by simpa using ‹(y.s == 4) = false›
    have hno2 : ¬ (y.s = 4 ∨ y.s = 0 ∧ 3 ≤ cnt isA Z) := by have := ‹¬ y.s = 0›; omega
    have hno3 : ¬ cnt isO Z < 2 := by have := ‹(2 : Int) ≤ (cnt isO Z : Int)›; omega
    cases hf : fopen Z with
    | none =>
      have HN := hide (fopen_none hf)
      have HR := hide (roomZ_4 hno hno2 hno3 hf)
      clear hf hno2 hno3 hno hno4
      go_loopw [46] (fun i wr => ∃ j : Nat, j ≤ 4 ∧ i = .int .i64 j ∧ Below w2.heap.size w2 wr) (fun i _ => 4 - (intOf i).toNat)
      case atStart => exact ⟨0, by omega, rfl, Below.refl _ _⟩
      case round =>
        obtain ⟨j, hj, rfl, hbr⟩ := hrel
        by_cases hlt : j < 4
        · obtain ⟨z, hz⟩ : ∃ z, Z[j]? = some z := ⟨Z[j]'(by rw [hlen.out]; exact hlt), by simp⟩
          obtain ⟨e0, e1⟩ := (hm2.below hbr).cells j z hz
          have hne : (z.s == 1) = false := by simpa using HN.out j z hz
          have hlt' : (j : Int) < 4 := by omega
          clear hz
          go_wp2
          exact ⟨⟨j + 1, by omega, by go_num, by (repeat first | exact bel0 | assumption | refine bel1 ?_ | refine bel2 ?_ | refine bel3 ?_ | refine belowT ?_ (by assumption) | refine bel5 ?_ (by simp; try omega))⟩, by simp [intOf]; omega⟩
        · obtain rfl : j = 4 := by omega
          go_wp2
          go_ret2
          exact ⟨.inl ⟨HR.out, rfl⟩, by (repeat first | exact bel0 | assumption | refine bel1 ?_ | refine bel2 ?_ | refine bel3 ?_ | refine belowT ?_ (by assumption) | refine bel5 ?_ (by simp; try omega))⟩
    | some i =>
      obtain ⟨z, hz, hz1, hbef⟩ := fopen_some hf
      have hi4 : i < 4 := by rw [← hlen.out]; exact (List.getElem?_eq_some_iff.1 hz).1
      have HN := hide hbef
      have HR := hide (roomZ_5 hno hno2 hno3 hf hz)
      have HZ := hide hz
      have hzb : (z.s == 1) = true := by simpa using hz1
      have hzok := hm2.zs.ok z (List.mem_of_getElem? hz)
      have hzoff := hm2.off z (List.mem_of_getElem? hz)
      clear hf hno2 hno3 hno hno4 hz hz1 hbef
      go_loopw [46] (fun x wr => ∃ j : Nat, j ≤ i ∧ x = .int .i64 j ∧ Below w2.heap.size w2 wr) (fun x _ => 4 - (intOf x).toNat)
      case atStart => exact ⟨0, by omega, rfl, Below.refl _ _⟩
      case round =>
        obtain ⟨j, hj, rfl, hbr⟩ := hrel
        rename_i wr
        have hlt' : (j : Int) < 4 := by omega
        by_cases hlt : j < i
        · obtain ⟨u, hu⟩ : ∃ z, Z[j]? = some z := ⟨Z[j]'(by rw [hlen.out]; omega), by simp⟩
          obtain ⟨e0, e1⟩ := (hm2.below hbr).cells j u hu
          have hne : (u.s == 1) = false := by simpa using HN.out j u hlt hu
          clear hu
          go_wp2
          exact ⟨⟨j + 1, by omega, by go_num, by (repeat first | exact bel0 | assumption | refine bel1 ?_ | refine bel2 ?_ | refine bel3 ?_ | refine belowT ?_ (by assumption) | refine bel5 ?_ (by simp; try omega))⟩, by simp [intOf]; omega⟩
        · obtain rfl : j = i := by omega
          have hm3 := hm2.below hbr
          obtain ⟨e0, e1⟩ := hm3.cells j z HZ.out
          have hok3 : z.ok wr := hzok.below hbr (Nat.le_refl _)
          have hs0 := hm3.soft (j * 2) (by omega)
          have hs1 := hm3.soft (j * 2 + 1) (by omega)
          go_wp2_with fail
          refine (shutR_c z _ (Ints.below hok3 (B := wr.heap.size) (by (repeat first | exact bel0 | assumption | refine bel1 ?_ | refine bel2 ?_ | refine bel3 ?_ | refine belowT ?_ (by assumption) | refine bel5 ?_ (by simp; try omega))) (Nat.le_refl _))).mono ?_
          rintro e w4 ⟨rfl, hb4⟩
          have hb5 : Below wr.heap.size wr w4 := by (repeat first | exact bel0 | assumption | refine bel1 ?_ | refine bel2 ?_ | refine bel3 ?_ | refine belowT ?_ (by assumption) | refine bel5 ?_ (by simp; try omega))
          have hm4 := hm3.below hb5
          have g0 := keepc hb5 e0
          have g1 := keepc hb5 e1
          have t0 := keepf hb5 e0 hs0
          have t1 := keepf hb5 e1 hs1
          have hset := hm4.set j (by omega) z.shut (ZV.shut_ok (Ints.below hok3 hb5 (Nat.le_refl _))) (ZV.shut_off hzoff)
          have bw5 : Below w.heap.size w w4 := belowT (belowT bw2 hbr) hb5
          have hgb := hm4.base
          go_wp2
          go_ret2
          exact ⟨.inr ⟨_, g, cap, HR.out, rfl, hset⟩, by (repeat first | exact bel0 | assumption | refine bel1 ?_ | refine bel2 ?_ | refine bel3 ?_ | refine belowT ?_ (by assumption) | refine bel5 ?_ (by simp; try omega))⟩

end Go.Proofs.Ytaambknbbhjdnaa
