/- The contracts of zone.Read and what it calls; no condition but that the zone reads as its state and list. -/
import Derived.Test.YtaambknbbhjdnaaA5
namespace Go.Proofs.Ytaambknbbhjdnaa
open Go.RowKit
set_option linter.unusedVariables false
set_option maxRecDepth 100000
set_option linter.unusedSimpArgs false

/-- What is wrong with reading n blocks from p on: plain. -/
def readE (s : Int) (l : List Int) (p n : Int) : Int :=
  if checkZ s l ≠ 0 then checkZ s l else if outB 0 8 p || outB 0 (8 - p) n then 3 else if (l.length : Int) < p + n then 6 else 0

set_option maxHeartbeats 1000000 in
theorem checkRead_c (s : Int) (a : Option Addr) (n c : Nat) (l : List Int) (p k : Int) (w : World) (h1 : Ints w a n c l) :
    Calls Try.prog 41 #[.agg #[.int .i64 s, .slice a n c], .int .i64 p, .int .i64 k] w fun e w' => e = .returned (.int .i64 (readE s l p k)) ∧ Below w.heap.size w w' := by
  have hl1 := hide h1.len
  have hm1 := h1.max
  have hc1 := h1.le
  go_enter Try.func41, Try.ntmps41
  go_wp2_with fail
  refine (Check_c s a n c l _ ?hi).mono ?hm
  case hi => refine h1.below (B := w.heap.size) ?_ (Nat.le_refl _); (repeat first | exact bel0 | assumption | refine bel1 ?_ | refine bel2 ?_ | refine bel3 ?_ | refine belowT ?_ (by assumption) | refine bel5 ?_ (by simp; try omega))
  rintro e w1 ⟨rfl, hb1⟩
  have c1 : w1.cell? ⟨w.heap.size, 1, none⟩ = some (.slice a n c) := by rw [hb1.cell (by (first | (simp; done) | (simp; omega)))]; go_simp
  have z1 : w.heap.size < w1.heap.size := by have := hb1.size; simp at this; omega
  have c14 := past4 c1
  have c12 := past2 c1
  generalize hchk : checkZ s l = x
  have HCHK := hide hchk
  clear hchk
  by_cases hx : (x != 0) = true
  · go_wp2
    go_ret
    exact ⟨ret_int (by have := HCHK.out; simp at hx; simp [readE, this, hx]), by (repeat first | exact bel0 | assumption | refine bel1 ?_ | refine bel2 ?_ | refine bel3 ?_ | refine belowT ?_ (by assumption) | refine bel5 ?_ (by simp; try omega))⟩
  · have hx0 : (x != 0) = false := by simpa using hx
    clear hx
    cases hq : outB 0 8 p
    · have hpp : 0 ≤ p ∧ p ≤ 8 := by simp [outB] at hq; omega
      obtain ⟨hp1, hp2⟩ := hpp
      go_wp2_with (first | (go_at_call 51; refine (outside_c _ _ _).mono ?_; rintro e w' ⟨rfl, rfl⟩) | (go_at_call_of 60 p; refine (outside1_c p 0 8 _ _ _ (by (first | (go_simp; done) | (simp [*, World.cell?_alloc_at, World.cell?_alloc_past, World.cell?_alloc_some, World.cell?_setCell_far]; done))) (by (first | (go_simp; done) | (simp [*, World.cell?_alloc_at, World.cell?_alloc_past, World.cell?_alloc_some, World.cell?_setCell_far]; done)))).mono ?_; rintro e w' ⟨rfl, rfl⟩))
      refine (outside1_c k 0 (8 - p) _ _ _ (by (first | (go_simp; done) | (simp [*, World.cell?_alloc_at, World.cell?_alloc_past, World.cell?_alloc_some, World.cell?_setCell_far]; done))) (by (first | (go_simp; done) | (simp [*, World.cell?_alloc_at, World.cell?_alloc_past, World.cell?_alloc_some, World.cell?_setCell_far]; done)))).mono ?_
      rintro e w' ⟨rfl, rfl⟩
      cases hr : outB 0 (8 - p) k
      · have hkk : 0 ≤ k ∧ k ≤ 8 - p := by simp [outB] at hr; omega
        obtain ⟨hk1, hk2⟩ := hkk
        go_wp2
        · go_ret
          exact ⟨ret_int (by have e1 := HCHK.out; have e2 := hl1.out; simp at hx0; simp [readE, e1, hx0, hq, hr]; omega), by (repeat first | exact bel0 | assumption | refine bel1 ?_ | refine bel2 ?_ | refine bel3 ?_ | refine belowT ?_ (by assumption) | refine bel5 ?_ (by simp; try omega))⟩
        · go_ret
          exact ⟨ret_int (by have e1 := HCHK.out; have e2 := hl1.out; simp at hx0; simp [readE, e1, hx0, hq, hr]; omega), by (repeat first | exact bel0 | assumption | refine bel1 ?_ | refine bel2 ?_ | refine bel3 ?_ | refine belowT ?_ (by assumption) | refine bel5 ?_ (by simp; try omega))⟩
      · go_wp2
        go_ret
        exact ⟨ret_int (by have e1 := HCHK.out; simp at hx0; simp [readE, e1, hx0, hq, hr]), by (repeat first | exact bel0 | assumption | refine bel1 ?_ | refine bel2 ?_ | refine bel3 ?_ | refine belowT ?_ (by assumption) | refine bel5 ?_ (by simp; try omega))⟩
    · go_wp2_with (first | (go_at_call 51; refine (outside_c _ _ _).mono ?_; rintro e w' ⟨rfl, rfl⟩) | (go_at_call 60; refine (outside1_c p 0 8 _ _ _ (by (first | (go_simp; done) | (simp [*, World.cell?_alloc_at, World.cell?_alloc_past, World.cell?_alloc_some, World.cell?_setCell_far]; done))) (by (first | (go_simp; done) | (simp [*, World.cell?_alloc_at, World.cell?_alloc_past, World.cell?_alloc_some, World.cell?_setCell_far]; done)))).mono ?_; rintro e w' ⟨rfl, rfl⟩))
      go_ret
      exact ⟨ret_int (by have := HCHK.out; simp at hx0; simp [readE, this, hx0, hq]), by (repeat first | exact bel0 | assumption | refine bel1 ?_ | refine bel2 ?_ | refine bel3 ?_ | refine belowT ?_ (by assumption) | refine bel5 ?_ (by simp; try omega))⟩

theorem readE_ok {s : Int} {l : List Int} {p n : Int} (h : readE s l p n = 0) : checkZ s l = 0 ∧ 0 ≤ p ∧ p ≤ 8 ∧ 0 ≤ n ∧ n ≤ 8 - p ∧ p + n ≤ l.length := by
  unfold readE at h
  by_cases h1 : checkZ s l = 0
  · cases h2 : outB 0 8 p
    · cases h3 : outB 0 (8 - p) n
      · by_cases h4 : (l.length : Int) < p + n
        · simp [h1, h2, h3, h4] at h
        · simp [outB] at h2 h3
          exact ⟨h1, by omega, by omega, by omega, by omega, by omega⟩
      · simp [h1, h2, h3] at h
    · simp [h1, h2] at h
  · simp [h1] at h

set_option maxHeartbeats 1000000 in
theorem Read_bad (s : Int) (a : Option Addr) (n c : Nat) (l : List Int) (p k : Int) (w : World) (h1 : Ints w a n c l) (hbad : readE s l p k ≠ 0) :
    Calls Try.prog 21 #[.agg #[.int .i64 s, .slice a n c], .int .i64 p, .int .i64 k] w fun e w' => e = .returned (.tuple #[.slice none 0 0, .int .i64 (readE s l p k)]) ∧ Below w.heap.size w w' := by
  go_enter Try.func21, Try.ntmps21
  go_wp2_with fail
  refine (checkRead_c s a n c l p k _ ?hi).mono ?hm
  case hi => refine h1.below (B := w.heap.size) ?_ (Nat.le_refl _); (repeat first | exact bel0 | assumption | refine bel1 ?_ | refine bel2 ?_ | refine bel3 ?_ | refine belowT ?_ (by assumption) | refine bel5 ?_ (by simp; try omega))
  rintro e w1 ⟨rfl, hb1⟩
  generalize hx : readE s l p k = x at *
  have HX := hide hx
  clear hx
  have hx : (x != 0) = true := by simpa using hbad
  clear hbad
  go_wp2
  go_ret2
  exact ⟨ret_vi HX.out.symm, by (repeat first | exact bel0 | assumption | refine bel1 ?_ | refine bel2 ?_ | refine bel3 ?_ | refine belowT ?_ (by assumption) | refine bel5 ?_ (by simp; try omega))⟩

/-- A piece of a slice of ints. -/
theorem Ints.cut {w : World} {a : Option Addr} {n c : Nat} {l : List Int} (h : Ints w a n c l) (i j : Nat) (hij : i + j ≤ n) (a' : Option Addr) (ha : c ≠ i → a' = a.map (·.add i)) : Ints w a' j (c - i) ((l.drop i).take j) := by
  have hl := h.len
  have hle := h.le
  refine ⟨by simp; omega, by omega, by have := h.max; omega, fun e => ?_, ?_, fun x hx => h.wf x (List.mem_of_mem_drop (List.mem_of_mem_take hx))⟩
  · by_cases hci : c = i
    · omega
    · have := ha hci
      rw [e] at this
      cases a with
      | none => have := h.nil rfl; omega
      | some x => simp at this
  · by_cases hj : j = 0
    · exact .inl hj
    · rcases h.row with h0 | ⟨b, off, ea, hlt, hc⟩
      · omega
      · refine .inr ⟨b, off + i, ?_, hlt, fun q hq => ?_⟩
        · rw [ha (by omega), ea]; simp [addr_add]
        · rw [Nat.add_assoc, hc (i + q) (by omega)]
          simp [List.getD, List.getElem?_take, hq]

set_option maxHeartbeats 1000000 in
theorem Read_ok (s : Int) (a : Option Addr) (n c : Nat) (l : List Int) (p k : Int) (w : World) (h1 : Ints w a n c l) (hok : readE s l p k = 0) :
    Calls Try.prog 21 #[.agg #[.int .i64 s, .slice a n c], .int .i64 p, .int .i64 k] w fun e w' => (∃ q, e = .returned (.tuple #[.slice (some ⟨q, 0, none⟩) k.toNat k.toNat, .int .i64 0]) ∧ Ints w' (some ⟨q, 0, none⟩) k.toNat k.toNat ((l.drop p.toNat).take k.toNat) ∧ w.heap.size ≤ q) ∧ Below w.heap.size w w' := by
  obtain ⟨_, hp1, hp2, hk1, hk2, hpk⟩ := readE_ok hok
  rw [h1.len] at hpk
  have HOK := hide hok
  have hle := h1.le
  clear hok
  obtain ⟨i, rfl⟩ := Int.eq_ofNat_of_zero_le hp1
  obtain ⟨j, rfl⟩ := Int.eq_ofNat_of_zero_le hk1
  rw [Int.toNat_natCast, Int.toNat_natCast]
  go_enter Try.func21, Try.ntmps21
  go_wp2_with fail
  refine (checkRead_c s a n c l i j _ ?hi).mono ?hm
  case hi => refine h1.below (B := w.heap.size) ?_ (Nat.le_refl _); (repeat first | exact bel0 | assumption | refine bel1 ?_ | refine bel2 ?_ | refine bel3 ?_ | refine belowT ?_ (by assumption) | refine bel5 ?_ (by simp; try omega))
  rintro e w1 ⟨rfl, hb1⟩
  rw [HOK.out]
  have c1 : w1.cell? ⟨w.heap.size, 1, none⟩ = some (.slice a n c) := by rw [hb1.cell (by (first | (simp; done) | (simp; omega)))]; go_simp
  have bw1 : Below w.heap.size w w1 := by (repeat first | exact bel0 | assumption | refine bel1 ?_ | refine bel2 ?_ | refine bel3 ?_ | refine belowT ?_ (by assumption) | refine bel5 ?_ (by simp; try omega))
  have i1 := h1.below bw1 (Nat.le_refl _)
  clear h1 hb1
  go_wp2_with fail
  · have i2 := i1.cut i j (by omega) a (fun h => absurd ‹c = i› h)
    rw [show c - i = 0 by have := ‹c = i›; omega] at i2
    refine (join_none a j 0 _ none 0 _ i2 (by omega)).mono ?_
    rintro e w2 ⟨⟨rfl, i3⟩, hb2⟩
    go_wp2
    go_ret2
    exact ⟨⟨_, rfl, i3, bw1.size⟩, by (repeat first | exact bel0 | assumption | refine bel1 ?_ | refine bel2 ?_ | refine bel3 ?_ | refine belowT ?_ (by assumption) | refine bel5 ?_ (by simp; try omega))⟩
  · have i2 := i1.cut i j (by omega) (Option.map (fun x => x.add i) a) (fun _ => rfl)
    refine (join_none _ j (c - i) _ none 0 _ i2 (by omega)).mono ?_
    rintro e w2 ⟨⟨rfl, i3⟩, hb2⟩
    go_wp2
    go_ret2
    exact ⟨⟨_, rfl, i3, bw1.size⟩, by (repeat first | exact bel0 | assumption | refine bel1 ?_ | refine bel2 ?_ | refine bel3 ?_ | refine belowT ?_ (by assumption) | refine bel5 ?_ (by simp; try omega))⟩

end Go.Proofs.Ytaambknbbhjdnaa
