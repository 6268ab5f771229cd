/- The contracts of zone.Read and what it calls; no condition but that the zone reads as its state and list. -/
import Derived.Test.YtkamnbigfdbgbaaGreatDoorDeskSaysG3
namespace Go.Proofs.YtkamnbigfdbgbaaGreatDoor
open Go.RowKit
set_option linter.unusedVariables false
set_option maxRecDepth 100000
set_option linter.unusedSimpArgs false

/-- What is wrong with reading n blocks from p on: plain. -/
def readE (s : Int) (l : List Int) (p n : Int) : Int :=
  if checkZ s l ≠ 0 then checkZ s l else if outB 0 8 p || outB 0 (8 - p) n then 3 else if (l.length : Int) < p + n then 6 else 0

set_option maxHeartbeats 1000000 in
theorem checkRead_c (s : Int) (a : Option Addr) (n c : Nat) (l : List Int) (p k : Int) (w : World) (h1 : Ints w a n c l) :
    Calls Tryz.prog 93 #[.agg #[.int .i64 s, .slice a n c], .int .i64 p, .int .i64 k] w fun e w' => e = .returned (.int .i64 (readE s l p k)) ∧ Below w.heap.size w w' := by
  have hl1 := hide h1.len
  have hm1 := h1.max
  have hc1 := h1.le
  go_enter Tryz.func93, Tryz.ntmps93
  go_wp2_with fail
  refine (Check_c s a n c l _ ?hi).mono ?hm
  case hi => refine h1.below (B := w.heap.size) ?_ (Nat.le_refl _); (repeat first | exact bel0 | assumption | refine bel1 ?_ | refine bel2 ?_ | refine bel3 ?_ | refine belowT ?_ (by assumption) | refine bel5 ?_ (by simp; try omega))
  rintro e w1 ⟨rfl, hb1⟩
  have c1 : w1.cell? ⟨w.heap.size, 1, none⟩ = some (.slice a n c) := by rw [hb1.cell (by (first | (simp; done) | (simp; omega)))]; go_simp
  have z1 : w.heap.size < w1.heap.size := by have := hb1.size; simp at this; omega
  have c14 := past4 c1
  have c12 := past2 c1
  generalize hchk : checkZ s l = x
  have HCHK := hide hchk
  clear hchk
  by_cases hx : (x != 0) = true
  · go_wp2
    go_ret
    exact ⟨ret_int (by have := HCHK.out; simp at hx; simp [readE, this, hx]), by (repeat first | exact bel0 | assumption | refine bel1 ?_ | refine bel2 ?_ | refine bel3 ?_ | refine belowT ?_ (by assumption) | refine bel5 ?_ (by simp; try omega))⟩
  · have hx0 : (x != 0) = false := by simpa using hx
    clear hx
    cases hq : outB 0 8 p
    · have hpp : 0 ≤ p ∧ p ≤ 8 := by simp [outB] at hq; omega
      obtain ⟨hp1, hp2⟩ := hpp
      go_wp2_with (first | (go_at_call 80; refine (outside_c _ _ _).mono ?_; rintro e w' ⟨rfl, rfl⟩) | (go_at_call_of 102 p; refine (outside1_c p 0 8 _ _ _ (by (first | (go_simp; done) | (simp [*, World.cell?_alloc_at, World.cell?_alloc_past, World.cell?_alloc_some, World.cell?_setCell_far]; done))) (by (first | (go_simp; done) | (simp [*, World.cell?_alloc_at, World.cell?_alloc_past, World.cell?_alloc_some, World.cell?_setCell_far]; done)))).mono ?_; rintro e w' ⟨rfl, rfl⟩))
      refine (outside1_c k 0 (8 - p) _ _ _ (by (first | (go_simp; done) | (simp [*, World.cell?_alloc_at, World.cell?_alloc_past, World.cell?_alloc_some, World.cell?_setCell_far]; done))) (by (first | (go_simp; done) | (simp [*, World.cell?_alloc_at, World.cell?_alloc_past, World.cell?_alloc_some, World.cell?_setCell_far]; done)))).mono ?_
      rintro e w' ⟨rfl, rfl⟩
      cases hr : outB 0 (8 - p) k
      · have hkk : 0 ≤ k ∧ k ≤ 8 - p := by simp [outB] at hr; omega
        obtain ⟨hk1, hk2⟩ := hkk
        go_wp2
        · go_ret
          exact ⟨ret_int (by have e1 := HCHK.out; have e2 := hl1.out; simp at hx0; simp [readE, e1, hx0, hq, hr]; omega), by (repeat first | exact bel0 | assumption | refine bel1 ?_ | refine bel2 ?_ | refine bel3 ?_ | refine belowT ?_ (by assumption) | refine bel5 ?_ (by simp; try omega))⟩
        · go_ret
          exact ⟨ret_int (by have e1 := HCHK.out; have e2 := hl1.out; simp at hx0; simp [readE, e1, hx0, hq, hr]; omega), by (repeat first | exact bel0 | assumption | refine bel1 ?_ | refine bel2 ?_ | refine bel3 ?_ | refine belowT ?_ (by assumption) | refine bel5 ?_ (by simp; try omega))⟩
      · go_wp2
        go_ret
        exact ⟨ret_int (by have e1 := HCHK.out; simp at hx0; simp [readE, e1, hx0, hq, hr]), by (repeat first | exact bel0 | assumption | refine bel1 ?_ | refine bel2 ?_ | refine bel3 ?_ | refine belowT ?_ (by assumption) | refine bel5 ?_ (by simp; try omega))⟩
    · go_wp2_with (first | (go_at_call 80; refine (outside_c _ _ _).mono ?_; rintro e w' ⟨rfl, rfl⟩) | (go_at_call 102; refine (outside1_c p 0 8 _ _ _ (by (first | (go_simp; done) | (simp [*, World.cell?_alloc_at, World.cell?_alloc_past, World.cell?_alloc_some, World.cell?_setCell_far]; done))) (by (first | (go_simp; done) | (simp [*, World.cell?_alloc_at, World.cell?_alloc_past, World.cell?_alloc_some, World.cell?_setCell_far]; done)))).mono ?_; rintro e w' ⟨rfl, rfl⟩))
      go_ret
      exact ⟨ret_int (by have := HCHK.out; simp at hx0; simp [readE, this, hx0, hq]), by (repeat first | exact bel0 | assumption | refine bel1 ?_ | refine bel2 ?_ | refine bel3 ?_ | refine belowT ?_ (by assumption) | refine bel5 ?_ (by simp; try omega))⟩

theorem readE_ok {s : Int} {l : List Int} {p n : Int} (h : readE s l p n = 0) : checkZ s l = 0 ∧ 0 ≤ p ∧ p ≤ 8 ∧ 0 ≤ n ∧ n ≤ 8 - p ∧ p + n ≤ l.length := by
  unfold readE at h
  by_cases h1 : checkZ s l = 0
  · cases h2 : outB 0 8 p
    · cases h3 : outB 0 (8 - p) n
      · by_cases h4 : (l.length : Int) < p + n
        · simp [h1, h2, h3, h4] at h
        · simp [outB] at h2 h3
          exact ⟨h1, by omega, by omega, by omega, by omega, by omega⟩
      · simp [h1, h2, h3] at h
    · simp [h1, h2] at h
  · simp [h1] at h

set_option maxHeartbeats 1000000 in
theorem Read_bad (s : Int) (a : Option Addr) (n c : Nat) (l : List Int) (p k : Int) (w : World) (h1 : Ints w a n c l) (hbad : readE s l p k ≠ 0) :
    Calls Tryz.prog 77 #[.agg #[.int .i64 s, .slice a n c], .int .i64 p, .int .i64 k] w fun e w' => e = .returned (.tuple #[.slice none 0 0, .int .i64 (readE s l p k)]) ∧ Below w.heap.size w w' := by
  go_enter Tryz.func77, Tryz.ntmps77
  go_wp2_with fail
  refine (checkRead_c s a n c l p k _ ?hi).mono ?hm
  case hi => refine h1.below (B := w.heap.size) ?_ (Nat.le_refl _); (repeat first | exact bel0 | assumption | refine bel1 ?_ | refine bel2 ?_ | refine bel3 ?_ | refine belowT ?_ (by assumption) | refine bel5 ?_ (by simp; try omega))
  rintro e w1 ⟨rfl, hb1⟩
  generalize hx : readE s l p k = x at *
  have HX := hide hx
  clear hx
  have hx : (x != 0) = true := by simpa using hbad
  clear hbad
  go_wp2
  go_ret2
  exact ⟨ret_vi HX.out.symm, by (repeat first | exact bel0 | assumption | refine bel1 ?_ | refine bel2 ?_ | refine bel3 ?_ | refine belowT ?_ (by assumption) | refine bel5 ?_ (by simp; try omega))⟩

/-- A piece of a slice of ints. -/
theorem Ints.cut {w : World} {a : Option Addr} {n c : Nat} {l : List Int} (h : Ints w a n c l) (i j : Nat) (hij : i + j ≤ n) (a' : Option Addr) (ha : c ≠ i → a' = a.map (·.add i)) : Ints w a' j (c - i) ((l.drop i).take j) := by
  have hl := h.len
  have hle := h.le
  refine ⟨by simp; omega, by omega, by have := h.max; omega, fun e => ?_, ?_, fun x hx => h.wf x (List.mem_of_mem_drop (List.mem_of_mem_take hx))⟩
  · by_cases hci : c = i
    · omega
    · have := ha hci
      rw [e] at this
      cases a with
      | none => have := h.nil rfl; omega
      | some x => simp at this
  · by_cases hj : j = 0
    · exact .inl hj
    · rcases h.row with h0 | ⟨b, off, ea, hlt, hc⟩
      · omega
      · refine .inr ⟨b, off + i, ?_, hlt, fun q hq => ?_⟩
        · rw [ha (by omega), ea]; simp [addr_add]
        · rw [Nat.add_assoc, hc (i + q) (by omega)]
          simp [List.getD, List.getElem?_take, hq]

set_option maxHeartbeats 1000000 in
theorem Read_ok (s : Int) (a : Option Addr) (n c : Nat) (l : List Int) (p k : Int) (w : World) (h1 : Ints w a n c l) (hok : readE s l p k = 0) :
    Calls Tryz.prog 77 #[.agg #[.int .i64 s, .slice a n c], .int .i64 p, .int .i64 k] w fun e w' => (∃ q, e = .returned (.tuple #[.slice (some ⟨q, 0, none⟩) k.toNat k.toNat, .int .i64 0]) ∧ Ints w' (some ⟨q, 0, none⟩) k.toNat k.toNat ((l.drop p.toNat).take k.toNat) ∧ w.heap.size ≤ q) ∧ Below w.heap.size w w' := by
  obtain ⟨_, hp1, hp2, hk1, hk2, hpk⟩ := readE_ok hok
  rw [h1.len] at hpk
  have HOK := hide hok
  have hle := h1.le
  clear hok
  obtain ⟨i, rfl⟩ := Int.eq_ofNat_of_zero_le hp1
  obtain ⟨j, rfl⟩ := Int.eq_ofNat_of_zero_le hk1
  rw [Int.toNat_natCast, Int.toNat_natCast]
  go_enter Tryz.func77, Tryz.ntmps77
  go_wp2_with fail
  refine (checkRead_c s a n c l i j _ ?hi).mono ?hm
  case hi => refine h1.below (B := w.heap.size) ?_ (Nat.le_refl _); (repeat first | exact bel0 | assumption | refine bel1 ?_ | refine bel2 ?_ | refine bel3 ?_ | refine belowT ?_ (by assumption) | refine bel5 ?_ (by simp; try omega))
  rintro e w1 ⟨rfl, hb1⟩
  rw [HOK.out]
  have c1 : w1.cell? ⟨w.heap.size, 1, none⟩ = some (.slice a n c) := by rw [hb1.cell (by (first | (simp; done) | (simp; omega)))]; go_simp
  have bw1 : Below w.heap.size w w1 := by (repeat first | exact bel0 | assumption | refine bel1 ?_ | refine bel2 ?_ | refine bel3 ?_ | refine belowT ?_ (by assumption) | refine bel5 ?_ (by simp; try omega))
  have i1 := h1.below bw1 (Nat.le_refl _)
  clear h1 hb1
  go_wp2_with fail
  · have i2 := i1.cut i j (by omega) a (fun h => absurd ‹c = i› h)
    rw [show c - i = 0 by have := ‹c = i›; omega] at i2
    refine (join_none a j 0 _ none 0 _ i2 (by omega)).mono ?_
    rintro e w2 ⟨⟨rfl, i3⟩, hb2⟩
    go_wp2
    go_ret2
    exact ⟨⟨_, rfl, i3, bw1.size⟩, by (repeat first | exact bel0 | assumption | refine bel1 ?_ | refine bel2 ?_ | refine bel3 ?_ | refine belowT ?_ (by assumption) | refine bel5 ?_ (by simp; try omega))⟩
  · have i2 := i1.cut i j (by omega) (Option.map (fun x => x.add i) a) (fun _ => rfl)
    refine (join_none _ j (c - i) _ none 0 _ i2 (by omega)).mono ?_
    rintro e w2 ⟨⟨rfl, i3⟩, hb2⟩
    go_wp2
    go_ret2
    exact ⟨⟨_, rfl, i3, bw1.size⟩, by (repeat first | exact bel0 | assumption | refine bel1 ?_ | refine bel2 ?_ | refine bel3 ?_ | refine belowT ?_ (by assumption) | refine bel5 ?_ (by simp; try omega))⟩

end Go.Proofs.YtkamnbigfdbgbaaGreatDoor

/- The contracts of the document's own answers WriteZone and ReadZone; no condition but that the zone reads as its state and list. -/
namespace Go.Proofs.YtkamnbigfdbgbaaGreatDoor
open Go.RowKit
set_option linter.unusedVariables false
set_option maxRecDepth 100000
set_option linter.unusedSimpArgs false

/-- The ways in which a write fails, in the document's own words. -/
theorem writeE_ways {s : Int} {l k : List Int} {n m : Nat} {x : Int} (hx : checkZ s l = x) (g1 : l.length = n) (g2 : k.length = m) (hbad : writeE s l k ≠ 0) :
    ((x != 0) = true ∧ writeE s l k = x) ∨
    ((x != 0) = false ∧ inB m 1 8 = false ∧ writeE s l k = 2) ∨
    ((x != 0) = false ∧ inB m 1 8 = true ∧ (k.all fun x => inB x 0 999) = false ∧ writeE s l k = 3) ∨
    ((x != 0) = false ∧ inB m 1 8 = true ∧ (k.all fun x => inB x 0 999) = true ∧ (s == 4) = true ∧ writeE s l k = 7) ∨
    ((x != 0) = false ∧ inB m 1 8 = true ∧ (k.all fun x => inB x 0 999) = true ∧ (s == 4) = false ∧ n ≤ 8 ∧ m ≤ 8 ∧ 8 < n + m ∧ writeE s l k = 7) := by
  have hw := writeE_eq hx g1 g2
  rw [all_any, inB_outB]
  by_cases h0 : x = 0
  · have hz := checkZ_len (hx.trans h0)
    rw [g1] at hz
    cases h1 : outB 1 8 m
    · have hm : m ≤ 8 := by simp [outB] at h1; omega
      rw [IntWalk.wrap64_in ((n : Int) + m) (by omega)] at hw
      cases h2 : k.any (outB 0 999)
      · by_cases h3 : s = 4
        · right; right; right; left
          subst h3
          rw [hw]
          simp [h0, h1, h2]
        · by_cases h4 : 8 < n + m
          · right; right; right; right
            rw [hw]
            have h4' : (8 : Int) < (n : Int) + m := by omega
            simp [h0, h1, h2, h3, h4, h4', hz, hm]
          · exfalso
            apply hbad
            rw [hw]
            have h4' : ¬ (8 : Int) < (n : Int) + m := by omega
            simp [h0, h1, h2, h3, h4']
      · right; right; left
        rw [hw]
        simp [h0, h1, h2]
    · right; left
      rw [hw]
      simp [h0, h1]
  · left
    rw [hw]
    simp [h0]

theorem writeE_yes {s : Int} {l k : List Int} {n m : Nat} (g1 : l.length = n) (g2 : k.length = m) (hok : writeE s l k = 0) :
    checkZ s l = 0 ∧ inB m 1 8 = true ∧ (k.all fun x => inB x 0 999) = true ∧ (s == 4) = false ∧ 0 < m ∧ n + m ≤ 8 := by
  obtain ⟨h1, h2, h3, h4, h5⟩ := writeE_ok hok
  rw [g1, g2] at h3
  rw [g2] at h2
  exact ⟨h1, by simp [inB]; omega, by rw [all_any, h4]; rfl, by simpa using h5, by omega, h3⟩

set_option maxHeartbeats 4000000 in
theorem WriteZone_bad (s : Int) (a : Option Addr) (n c : Nat) (l : List Int) (b : Option Addr) (m d : Nat) (k : List Int) (w : World) (h1 : Ints w a n c l) (h2 : Ints w b m d k) (hbad : writeE s l k ≠ 0) :
    Calls Tryz.prog 64 #[.agg #[.int .i64 s, .slice a n c], .slice b m d] w fun e w' => e = .returned (.tuple #[.agg #[.int .i64 0, .slice none 0 0], .int .i64 (writeE s l k)]) ∧ Below w.heap.size w w' := by
  have hm1 := h1.max
  have hm2 := h2.max
  have hc1 := h1.le
  have hc2 := h2.le
  generalize hx : checkZ s l = x
  have hways := writeE_ways hx h1.len h2.len hbad
  have HX := hide hx
  clear hx hbad
  rcases hways with ⟨v1, he⟩ | ⟨v1, v2, he⟩ | ⟨v1, v2, v3, he⟩ | ⟨v1, v2, v3, v4, he⟩ | ⟨v1, v2, v3, v4, v5, v6, v7, he⟩
  all_goals
    have HE := hide he
    clear he
    go_enter Tryz.func64, Tryz.ntmps64
    go_wp2_with fail
    refine (CheckZone_c s a n c l _ (h1.below (B := w.heap.size) (by (repeat first | exact bel0 | assumption | refine bel1 ?_ | refine bel2 ?_ | refine bel3 ?_ | refine belowT ?_ (by assumption) | refine bel5 ?_ (by simp; try omega))) (Nat.le_refl _))).mono ?_
    rintro e w1 ⟨rfl, hb1⟩
    rw [HX.out]
    have c0 := keepc hb1 (p := ⟨w.heap.size, 0, none⟩) (u := .int .i64 s) (by go_simp)
    have c1 := keepc hb1 (p := ⟨w.heap.size, 1, none⟩) (u := .slice a n c) (by go_simp)
    obtain ⟨hcl, hfr⟩ := bcell hb1
    have z1 : w.heap.size + 1 < w1.heap.size := by have := hb1.size; simp at this; omega
    have j2 := h2.below (B := w.heap.size) (show Below w.heap.size w w1 by (repeat first | exact bel0 | assumption | refine bel1 ?_ | refine bel2 ?_ | refine bel3 ?_ | refine belowT ?_ (by assumption) | refine bel5 ?_ (by simp; try omega))) (Nat.le_refl _)
    go_wp2_with (first | (go_at_call 26; refine (in_c _ _ _ _).mono ?_; rintro e w' ⟨rfl, rfl⟩) | (go_at_call 27; refine (all_c b m d k _ _ _ j2).mono ?_; rintro e w' ⟨rfl, rfl⟩))
  · refine bodyPost_ret (v := .tuple #[.agg #[.int .i64 0, .slice none 0 0], .int .i64 x]) (by simp [results, Tryz.results64, go_sem, hcl, hfr]) rfl ⟨by rw [HE.out], ?_⟩
    (repeat first | exact bel0 | assumption | refine bel1 ?_ | refine bel2 ?_ | refine bel3 ?_ | refine belowT ?_ (by assumption) | refine bel5 ?_ (by simp; try omega))
  · refine bodyPost_ret (v := .tuple #[.agg #[.int .i64 0, .slice none 0 0], .int .i64 2]) (by simp [results, Tryz.results64, go_sem, hcl, hfr]) rfl ⟨by rw [HE.out], ?_⟩
    (repeat first | exact bel0 | assumption | refine bel1 ?_ | refine bel2 ?_ | refine bel3 ?_ | refine belowT ?_ (by assumption) | refine bel5 ?_ (by simp; try omega))
  · refine bodyPost_ret (v := .tuple #[.agg #[.int .i64 0, .slice none 0 0], .int .i64 3]) (by simp [results, Tryz.results64, go_sem, hcl, hfr]) rfl ⟨by rw [HE.out], ?_⟩
    (repeat first | exact bel0 | assumption | refine bel1 ?_ | refine bel2 ?_ | refine bel3 ?_ | refine belowT ?_ (by assumption) | refine bel5 ?_ (by simp; try omega))
  · refine bodyPost_ret (v := .tuple #[.agg #[.int .i64 0, .slice none 0 0], .int .i64 7]) (by simp [results, Tryz.results64, go_sem, hcl, hfr]) rfl ⟨by rw [HE.out], ?_⟩
    (repeat first | exact bel0 | assumption | refine bel1 ?_ | refine bel2 ?_ | refine bel3 ?_ | refine belowT ?_ (by assumption) | refine bel5 ?_ (by simp; try omega))
  · refine bodyPost_ret (v := .tuple #[.agg #[.int .i64 0, .slice none 0 0], .int .i64 7]) (by simp [results, Tryz.results64, go_sem, hcl, hfr]) rfl ⟨by rw [HE.out], ?_⟩
    (repeat first | exact bel0 | assumption | refine bel1 ?_ | refine bel2 ?_ | refine bel3 ?_ | refine belowT ?_ (by assumption) | refine bel5 ?_ (by simp; try omega))

theorem set2_0 {w : World} {g : Nat} {u0 : Value} (h0 : w.cell? ⟨g, 0, none⟩ = some u0) (v0 v1 : Value) (o : Obj) : (((w.setCell ⟨g, 0, none⟩ v0).setCell ⟨g, 1, none⟩ v1).alloc o).cell? ⟨g, 0, none⟩ = some v0 :=
  past1 (by rw [World.cell?_setCell_other _ _ _ _ (by simp)]; exact World.cell?_setCell_same _ _ _ h0) o
theorem set2_1 {w : World} {g : Nat} {u1 : Value} (h1 : w.cell? ⟨g, 1, none⟩ = some u1) (v0 v1 : Value) (o : Obj) : (((w.setCell ⟨g, 0, none⟩ v0).setCell ⟨g, 1, none⟩ v1).alloc o).cell? ⟨g, 1, none⟩ = some v1 :=
  past1 (World.cell?_setCell_same _ _ _ (by rw [World.cell?_setCell_other _ _ _ _ (by simp)]; exact h1)) o

theorem writeS_n1 {s : Int} {n m : Nat} (h : (n : Int) + m = 8) : writeS s (n + m) = 4 := by simp [writeS]; omega
theorem writeS_n2 {s : Int} {n m : Nat} (h : ¬ (n : Int) + m = 8) (hs : (s == 2) = true) : writeS s (n + m) = 2 := by simp at hs; simp [writeS, hs]; omega
theorem writeS_n3 {s : Int} {n m : Nat} (h : ¬ (n : Int) + m = 8) (hs : (s == 2) = false) : writeS s (n + m) = 1 := by simp at hs; simp [writeS, hs]; omega

set_option maxHeartbeats 4000000 in
theorem WriteZone_ok (s : Int) (a : Option Addr) (n c : Nat) (l : List Int) (b : Option Addr) (m d : Nat) (k : List Int) (w : World) (h1 : Ints w a n c l) (h2 : Ints w b m d k) (hok : writeE s l k = 0) :
    Calls Tryz.prog 64 #[.agg #[.int .i64 s, .slice a n c], .slice b m d] w fun e w' => (∃ a' c', e = .returned (.tuple #[.agg #[.int .i64 (writeS s (n + m)), .slice a' (n + m) c'], .int .i64 0]) ∧ Ints w' a' (n + m) c' (l ++ k) ∧ ∀ x, a' = some x → w.heap.size ≤ x.block) ∧ Below w.heap.size w w' := by
  obtain ⟨hx, v2, v3, v4, hmp, hnm⟩ := writeE_yes h1.len h2.len hok
  have HX := hide hx
  clear hx hok
  have v5 : ¬ (8 : Int) < (n : Int) + m := by omega
  go_enter Tryz.func64, Tryz.ntmps64
  go_wp2_with fail
  refine (CheckZone_c s a n c l _ (h1.below (B := w.heap.size) (by (repeat first | exact bel0 | assumption | refine bel1 ?_ | refine bel2 ?_ | refine bel3 ?_ | refine belowT ?_ (by assumption) | refine bel5 ?_ (by simp; try omega))) (Nat.le_refl _))).mono ?_
  rintro e w1 ⟨rfl, hb1⟩
  rw [HX.out]
  have c0 := keepc hb1 (p := ⟨w.heap.size, 0, none⟩) (u := .int .i64 s) (by go_simp)
  have c1 := keepc hb1 (p := ⟨w.heap.size, 1, none⟩) (u := .slice a n c) (by go_simp)
  have r0 := keepc hb1 (p := ⟨w.heap.size + 1, 0, none⟩) (u := .int .i64 0) (by go_simp)
  have r1 := keepc hb1 (p := ⟨w.heap.size + 1, 1, none⟩) (u := .slice none 0 0) (by go_simp)
  have f0 := keepf hb1 (p := ⟨w.heap.size + 1, 0, none⟩) (u := .int .i64 0) (by go_simp) (b := false) (by go_simp)
  have f1 := keepf hb1 (p := ⟨w.heap.size + 1, 1, none⟩) (u := .slice none 0 0) (by go_simp) (b := false) (by go_simp)
  have bw1 : Below w.heap.size w w1 := by (repeat first | exact bel0 | assumption | refine bel1 ?_ | refine bel2 ?_ | refine bel3 ?_ | refine belowT ?_ (by assumption) | refine bel5 ?_ (by simp; try omega))
  have z1 : w.heap.size + 1 < w1.heap.size := World.block_lt_of_cell? _ _ r0
  have j1 := h1.below bw1 (Nat.le_refl _)
  have j2 := h2.below bw1 (Nat.le_refl _)
  go_wp2_with (first | (go_at_call 26; refine (in_c _ _ _ _).mono ?_; rintro e w1 ⟨rfl, rfl⟩) | (go_at_call 27; refine (all_c b m d k _ _ _ j2).mono ?_; rintro e w1 ⟨rfl, rfl⟩))
  refine (Concat_c _ a n c l b m d k _ (j1.below (B := w1.heap.size) (by (repeat first | exact bel0 | assumption | refine bel1 ?_ | refine bel2 ?_ | refine bel3 ?_ | refine belowT ?_ (by assumption) | refine bel5 ?_ (by simp; try omega))) (Nat.le_refl _)) (j2.below (B := w1.heap.size) (by (repeat first | exact bel0 | assumption | refine bel1 ?_ | refine bel2 ?_ | refine bel3 ?_ | refine belowT ?_ (by assumption) | refine bel5 ?_ (by simp; try omega))) (Nat.le_refl _)) (by omega) (by omega) (by go_simp) (by go_simp)).mono ?_
  rintro e w2 ⟨⟨v, rfl, ho⟩, hb2⟩
  obtain ⟨a2, c2, hv, i2, hfresh⟩ := ho.ints (h1.app_wf h2)
  rw [hv, List.length_append, h1.len, h2.len]
  rw [List.length_append, h1.len, h2.len] at i2
  clear hv ho
  replace c0 := keepc hb2 (past1 c0 _)
  replace f0 := keepf hb2 (past1 r0 _) (pastf1 r0 f0 _)
  replace f1 := keepf hb2 (past1 r1 _) (pastf1 r1 f1 _)
  replace r0 := keepc hb2 (past1 r0 _)
  replace r1 := keepc hb2 (past1 r1 _)
  have c0' := past1 c0
  have r0' := past1 r0
  have r1' := past1 r1
  have f0' := pastf1 r0 f0
  have f1' := pastf1 r1 f1
  have hne : ∀ x, a2 = some x → x.block ≠ w.heap.size + 1 := fun x e => by have h5 := hfresh x e; simp at h5; omega
  have hfr2 : ∀ x, a2 = some x → w.heap.size ≤ x.block := fun x e => by have h5 := hfresh x e; have h6 := bw1.size; simp at h5; omega
  have z2 : w.heap.size + 1 < w2.heap.size := World.block_lt_of_cell? _ _ r0
  go_wp2
  · refine bodyPost_ret (v := .tuple #[.agg #[.int .i64 4, .slice a2 (n + m) c2], .int .i64 0]) (by simp [results, Tryz.results64, go_sem, set2_0 r0, set2_1 r1]) rfl ⟨⟨a2, c2, by rw [writeS_n1 (by simpa using ‹((n : Int) + (m : Int) == 8) = true›)], ?_, hfr2⟩, ?_⟩
    · exact ((i2.setCell _ _ hne).setCell _ _ hne).below (belowA (Below.refl _ _) _) (Nat.le_refl _)
    · (repeat first | exact bel0 | assumption | refine bel1 ?_ | refine bel2 ?_ | refine bel3 ?_ | refine belowT ?_ (by assumption) | refine bel5 ?_ (by simp; try omega))
  · refine bodyPost_ret (v := .tuple #[.agg #[.int .i64 2, .slice a2 (n + m) c2], .int .i64 0]) (by simp [results, Tryz.results64, go_sem, set2_0 r0, set2_1 r1]) rfl ⟨⟨a2, c2, by rw [writeS_n2 (by simpa using ‹((n : Int) + (m : Int) == 8) = false›) ‹_›], ?_, hfr2⟩, ?_⟩
    · exact ((i2.setCell _ _ hne).setCell _ _ hne).below (belowA (Below.refl _ _) _) (Nat.le_refl _)
    · (repeat first | exact bel0 | assumption | refine bel1 ?_ | refine bel2 ?_ | refine bel3 ?_ | refine belowT ?_ (by assumption) | refine bel5 ?_ (by simp; try omega))
  · refine bodyPost_ret (v := .tuple #[.agg #[.int .i64 4, .slice a2 (n + m) c2], .int .i64 0]) (by simp [results, Tryz.results64, go_sem, set2_0 r0, set2_1 r1]) rfl ⟨⟨a2, c2, by rw [writeS_n1 (by simpa using ‹((n : Int) + (m : Int) == 8) = true›)], ?_, hfr2⟩, ?_⟩
    · exact ((i2.setCell _ _ hne).setCell _ _ hne).below (belowA (Below.refl _ _) _) (Nat.le_refl _)
    · (repeat first | exact bel0 | assumption | refine bel1 ?_ | refine bel2 ?_ | refine bel3 ?_ | refine belowT ?_ (by assumption) | refine bel5 ?_ (by simp; try omega))
  · refine bodyPost_ret (v := .tuple #[.agg #[.int .i64 1, .slice a2 (n + m) c2], .int .i64 0]) (by simp [results, Tryz.results64, go_sem, set2_0 r0, set2_1 r1]) rfl ⟨⟨a2, c2, by rw [writeS_n3 (by simpa using ‹((n : Int) + (m : Int) == 8) = false›) ‹_›], ?_, hfr2⟩, ?_⟩
    · exact ((i2.setCell _ _ hne).setCell _ _ hne).below (belowA (Below.refl _ _) _) (Nat.le_refl _)
    · (repeat first | exact bel0 | assumption | refine bel1 ?_ | refine bel2 ?_ | refine bel3 ?_ | refine belowT ?_ (by assumption) | refine bel5 ?_ (by simp; try omega))

end Go.Proofs.YtkamnbigfdbgbaaGreatDoor
