/- The contract of disk.Recover; no condition but that the disk is read, and that the package-level variables are as their texts lay them. -/
import Derived.Test.YtenmamcaldabdaaGreatDoorHallPartsG36
import Derived.Test.YtenmamcaldabdaaGreatDoorHallPartsG2
import Derived.Test.YtenmamcaldabdaaGreatDoorHallPartsG33
namespace Go.Proofs.YtenmamcaldabdaaGreatDoor
open Go.RowKit
set_option linter.unusedVariables false
set_option maxRecDepth 100000
set_option linter.unusedSimpArgs false

/-- What Recover answers: new memory. -/
def RecRes (B : Nat) (w' : World) (r : PK × List PR × Int) (e : Ending) : Prop :=
  ∃ x : KV, ∃ la ln lc X, e = .returned (.tuple #[x.v, .slice la ln lc, .int .i64 r.2.2]) ∧ x.p = r.1 ∧ x.ok w' ∧ x.fresh B ∧ Recs w' la ln lc X ∧ FreshR B la X ∧ X.map RV.p = r.2.1

theorem recK_bad {d : PK} (h : checkK d ≠ 0) : recK d = (zeroK, [], checkK d) := by unfold recK; rw [if_pos h]
theorem recK_good {s t : List UInt8} {D r : List PR} {b : List UInt8} (h : checkK ⟨s, t⟩ = 0) (hD : D = (linesP 80 s).1) (hA : Ahd (80 - D.length) t r b) (hs : r.length = 80 - D.length ∨ (firstP b).2.2 ≠ 0) :
    recK ⟨s, t⟩ = (⟨s ++ t.take (t.length - b.length), []⟩, D ++ r, 0) := by
  unfold recK
  obtain ⟨h1, h2⟩ := hA.stop hs
  rw [if_neg (by simp [h])]
  simp only [← hD, h1, h2]

/-- What lies below B stays. -/
theorem Lay.low {w w' : World} {B L : Nat} {vs : List Value} (h : Lay w B vs) (hb : Below L w w') (hL : B < L) : Lay w' B vs :=
  ⟨fun i v hv => by rw [hb.cell (p := ⟨B, i, none⟩) hL]; exact h.cell i v hv, fun i => by rw [hb.frozen (p := ⟨B, i, none⟩) hL]; exact h.ice i, Nat.lt_of_lt_of_le h.lt hb.size⟩
theorem keepl {w w' : World} {L : Nat} (hb : Below L w w') {p : Addr} {u : Value} (h : w.cell? p = some u) (hL : p.block < L) : w'.cell? p = some u := by rw [hb.cell hL]; exact h

set_option maxRecDepth 100000 in
set_option maxHeartbeats 4000000 in
theorem Recover_c (x : KV) (w : World) (hE : Env w) (h : x.ok w) (hn : x.n ≤ 140737488355328) (hm : x.m ≤ 140737488355328) :
    Calls Tryz.prog 20 #[x.v] w fun e w' => RecRes w.heap.size w' (recK x.p) e ∧ Below w.heap.size w w' := by
  have HS := hide (fun w' hE h => safe_c x w' hE h hn hm)
  have hl1 := h.s.len
  have hl2 := h.w.len
  obtain ⟨⟨s, t⟩, a, n, c, b, m, d⟩ := x
  have hs : Byts w a n c s := h.s
  have ht : Byts w b m d t := h.w
  dsimp only [KV.v] at *
  have HL : Hid (checkK ⟨s, t⟩ = 0 → n + m ≤ 60000) := hide (by
    unfold checkK
    intro e
    split at e
    · cases e
    · simp only at *; omega)
  obtain ⟨i, hi, hz, hsz, hby⟩ := recInfo
  have xR := Lay.made1 w (.cells #[.slice a n c, .slice b m d] 55) [.slice none 0 0, .slice none 0 0] 55
  go_enter Tryz.func20, Tryz.ntmps20
  go_wp2_with fail
  refine (HS.out _ (hE.below (by (repeat (first | exact Below.refl _ _ | assumption | refine Below.drew ?_ | refine below_drewN ?_ _ | refine belowA ?_ _ | refine belowT ?_ (by assumption) | refine Below.setCell ?_ (by first | (simp; done) | (simp; omega)) _)))) (h.below (by (repeat (first | exact Below.refl _ _ | assumption | refine Below.drew ?_ | refine below_drewN ?_ _ | refine belowA ?_ _ | refine belowT ?_ (by assumption) | refine Below.setCell ?_ (by first | (simp; done) | (simp; omega)) _))))).mono ?_
  rintro e w1 ⟨⟨v, X0, rfl, hX0, hD0, eX0⟩, hb1⟩
  have bw : Below w.heap.size w w1 := by (repeat (first | exact Below.refl _ _ | assumption | refine Below.drew ?_ | refine below_drewN ?_ _ | refine belowA ?_ _ | refine belowT ?_ (by assumption) | refine Below.setCell ?_ (by first | (simp; done) | (simp; omega)) _))
  have k0 := keepc hb1 (p := ⟨w.heap.size, 0, none⟩) (u := .slice a n c) (by (first | (go_simp; done) | (simp [*, World.cell?_alloc_at, World.cell?_alloc_past, World.cell?_alloc_some, World.cell?_setCell_far]; done)))
  have k1 := keepc hb1 (p := ⟨w.heap.size, 1, none⟩) (u := .slice b m d) (by (first | (go_simp; done) | (simp [*, World.cell?_alloc_at, World.cell?_alloc_past, World.cell?_alloc_some, World.cell?_setCell_far]; done)))
  replace xR := xR.below hb1
  have hlt := xR.lt
  simp only [World.size_alloc] at hX0 hD0
  clear hb1 h HS
  have HC : Hid (∀ y, checkK ⟨s, t⟩ = y → y = checkK ⟨s, t⟩) := hide (fun y e => e.symm)
  generalize hck : checkK ⟨s, t⟩ = ck at *
  by_cases h0 : ck = 0
  · subst h0
    have hnm := HL.out rfl
    rw [if_pos rfl] at eX0
    have HCK := hide hck
    have HX0 := hide eX0
    clear hck eX0 HC
    have hX8 : X0.length ≤ 80 := by
      have := (lines_facts _ 80 s (Nat.le_refl _)).1
      rw [← HX0.out, List.length_map] at this
      exact this
    go_wp2_with fail
    go_loopw [5, 7] (fun v u wr => ∃ X a' n' c' r, u = .slice a' n' c' ∧ OwnR wr (w.heap.size + 2) v (X0 ++ X) ∧ FromD (w.heap.size + 2) (X0 ++ X) ∧ Byts w a' n' c' r ∧ Ahd (80 - X0.length) t (X.map RV.p) r ∧ Below (w.heap.size + 2) w1 wr) (fun _ u _ => slen u)
    case atStart => exact ⟨[], b, m, d, t, rfl, by simpa using hX0, by simpa using hD0, ht, Ahd.start _ _, Below.refl _ _⟩
    case round =>
      obtain ⟨X, a', n', c', r, rfl, hX, hD, hr, hA, hbr⟩ := hrel
      rename_i wr
      have HY : Hid (∃ Y, Y = X0 ++ X) := hide ⟨_, rfl⟩
      have hYL : (X0 ++ X).length = X0.length + X.length := List.length_append
      generalize hY : X0 ++ X = Y at *
      replace HY := hide hY
      have HYL := hide hYL
      clear hY hYL
      have hrl := hr.len
      have hAl := hA.len
      have hAm := hA.le
      rw [List.length_map] at hAm
      have hX80 : Y.length ≤ 80 := by have := HYL.out; omega
      have hbrw : Below w.heap.size w wr := bw.trans (hbr.mono (by omega))
      have HA := hide hA
      clear hA
      by_cases h80 : Y.length = 80
      · have hne : ¬ ((Y.length : Nat) : Int) < 80 := by omega
        have hst : (X.map RV.p).length = 80 - (X0.map RV.p).length ∨ (firstP r).2.2 ≠ 0 := .inl (by rw [List.length_map, List.length_map]; have := HYL.out; omega)
        clear h80 hX80
        have bW : Below (w.heap.size + 2) w1 wr := hbr
        have bWw : Below w.heap.size w wr := bw.trans (bW.mono (by omega))
        have xW := xR.low bW (by omega)
        have kk0 := keepl bW k0 (by simp)
        have kk1 := keepl bW k1 (by simp)
        obtain ⟨la, lc, hlv, hRecs, hla⟩ := OwnR.recs hX
        have HR := hide (recK_good HCK.out HX0.out (by rw [List.length_map]; exact HA.out) hst)
        rw [hl2, hrl, ← List.map_append, HY.out] at HR
        obtain ⟨j, hj⟩ : ∃ j, m - n' = j := ⟨_, rfl⟩
        rw [hj] at HR
        have hjn : (m : Int) - (n' : Int) = (j : Int) := by omega
        have hmd := Cel.le ht
        have hdm := Cel.max ht
        have hj0 : (0 : Int) ≤ (j : Int) := by omega
        have hj1 : (j : Int) ≤ (d : Int) := by omega
        have hj2 : j ≤ d := by omega
        have hj3 : ¬ ((j : Int) < 0) := by omega
        have hj4 : ¬ ((d : Int) < (j : Int)) := by omega
        have tt := (ht.take (k := j) (by omega)).below bWw (Nat.le_refl _)
        have ss := hs.below bWw (Nat.le_refl _)
        have HJ := hide (fun w' h1 h2 => jboth_c a n c s b j d (t.take j) w' h1 h2 (by omega))
        have HYN : Hid (Y.length = Y.length) := hide rfl
        clear HYL
        generalize Y.length = ln at *
        cases hlv
        have e0 := xW.cell 0 _ rfl
        have e1 := xW.cell 1 _ rfl
        have f0 := xW.ice 0
        have f1 := xW.ice 1
        go_upto_region 10 with fail
        go_region_held3 (fun w' => w'.cell? ⟨w.heap.size, 0, none⟩ = some (.slice a n c) ∧ w'.cell? ⟨w.heap.size, 1, none⟩ = some (.slice b m d)) ((first | (go_simp; done) | (simp [*, World.cell?_alloc_at, World.cell?_alloc_past, World.cell?_alloc_some, World.cell?_setCell_far]; done))) (first | (go_at_call 48; refine (HJ.out _ (by refine Byts.below ss (B := (wr).heap.size) ?_ (Nat.le_refl _); (repeat (first | exact Below.refl _ _ | assumption | refine Below.drew ?_ | refine below_drewN ?_ _ | refine belowA ?_ _ | refine belowT ?_ (by assumption) | refine Below.setCell ?_ (by first | (simp; done) | (simp; omega)) _))) (by refine Byts.below tt (B := (wr).heap.size) ?_ (Nat.le_refl _); (repeat (first | exact Below.refl _ _ | assumption | refine Below.drew ?_ | refine below_drewN ?_ _ | refine belowA ?_ _ | refine belowT ?_ (by assumption) | refine Below.setCell ?_ (by first | (simp; done) | (simp; omega)) _)))).mono ?_; rintro e w8 ⟨⟨g8, rfl, hg8, i8⟩, hb8⟩; (have r0 := keepc hb8 (p := ⟨w.heap.size, 0, none⟩) (u := .slice a n c) (by (first | (go_simp; done) | (simp [*, World.cell?_alloc_at, World.cell?_alloc_past, World.cell?_alloc_some, World.cell?_setCell_far]; done)))); (have r1 := keepc hb8 (p := ⟨w.heap.size, 1, none⟩) (u := .slice b m d) (by (first | (go_simp; done) | (simp [*, World.cell?_alloc_at, World.cell?_alloc_past, World.cell?_alloc_some, World.cell?_setCell_far]; done)))); (have b8 : Below (wr).heap.size (wr) w8 := by (repeat (first | exact Below.refl _ _ | assumption | refine Below.drew ?_ | refine below_drewN ?_ _ | refine belowA ?_ _ | refine belowT ?_ (by assumption) | refine Below.setCell ?_ (by first | (simp; done) | (simp; omega)) _))); (have xR8 := xW.below b8); (have o0 := xR8.cell 0 _ rfl); (have o1 := xR8.cell 1 _ rfl); (have v2 := xR8.ice 0); (have v3 := xR8.ice 1)))
        all_goals
          go_wp2
          have hWs := xW.lt
          simp at hg8
          have hR8 := hRecs.below b8 (Nat.le_refl _)
          have zB := (xR8.set 0 (.slice (some ⟨g8, 0, none⟩) (n + j) (n + j))).set 1 (.slice none 0 0)
          have hbut := ((ButI.refl (w.heap.size + 1) (w8)).step 0 (.slice (some ⟨g8, 0, none⟩) (n + j) (n + j))).step 1 (.slice none 0 0)
          generalize ((w8).setCell ⟨w.heap.size + 1, 0, none⟩ (.slice (some ⟨g8, 0, none⟩) (n + j) (n + j))).setCell ⟨w.heap.size + 1, 1, none⟩ (.slice none 0 0) = w99 at *
          have y0 := zB.cell 0 _ rfl
          have y1 := zB.cell 1 _ rfl
          refine bodyPost_ret (v := .tuple #[.agg #[.slice (some ⟨g8, 0, none⟩) (n + j) (n + j), .slice none 0 0], .slice la ln lc, .int .i64 0]) (by simp [results, Tryz.results20, go_sem, y0, y1]) rfl ⟨?_, (bWw.trans (b8.mono bWw.size)).trans (hbut.below (by omega))⟩
          rw [HR.out]
          have hf : KV.fresh (w.heap.size + 2) ⟨⟨s ++ t.take j, []⟩, some ⟨g8, 0, none⟩, n + j, n + j, none, 0, 0⟩ := ⟨fun y e => (by cases e; simp; omega), fun y e => (by cases e)⟩
          have hfr : FreshR (w.heap.size + 2) la (Y) := ⟨hla, hD⟩
          exact ⟨_, la, ln, lc, Y, rfl, rfl, KV.ok.but ⟨i8, Byts.nilSlice _⟩ hbut.but hf (by omega), hf.mono (by omega), hR8.but hbut.but hfr (by omega), hfr.mono (by omega), rfl⟩
      · have hlt80 : ((Y.length : Nat) : Int) < 80 := by omega
        obtain ⟨av, cv, hv, _, _⟩ := hX.recs
        subst hv
        go_wp2_with fail
        refine (first_c a' n' c' r _ (hE.below hbrw) (hr.below hbrw (Nat.le_refl _)) (by omega)).mono ?_
        rintro e w2 ⟨⟨⟨pX, aX, nX, cX⟩, a2, n2, c2, rfl, ePX, iX, nwX, hr2⟩, hb2⟩
        have hX2 := hX.below hb2
        have hap := hX.apart (x := ⟨pX, aX, nX, cX⟩) (Nat.le_refl _) nwX
        have hsz2 := hbr.size
        have bw2 : Below (w.heap.size + 2) w1 w2 := hbr.trans (hb2.mono (by omega))
        replace hr2 := hr2 w hr
        have HR2 : Hid ((firstP r).2.1.length = n2) := hide hr2.len
        have hD2 : ∀ y, aX = some y → w.heap.size + 2 ≤ y.block := fun y e => by have := nwX y e; omega
        have HPX : Hid (pX = (firstP r).1) := hide ePX
        have hz2 := hb2.size
        clear hb2 nwX ePX
        obtain ⟨q', s', ⟨k', z', m', t', d'⟩⟩ := pX
        dsimp only [RV.v] at iX ⊢
        generalize hfe : (firstP r).2.2 = er at *
        go_upto_region 7 with fail
        have xV := Lay.made w2 [.int .i64 q', .int .i64 s', .int .i64 k', .int .i64 z', .int .i64 m', .int .i64 t', .slice aX nX cX] 34
        have hb3 : Below w2.heap.size w2 (w2.alloc (.cells [.int .i64 q', .int .i64 s', .int .i64 k', .int .i64 z', .int .i64 m', .int .i64 t', .slice aX nX cX].toArray 34)) := by clear bw2; (repeat (first | exact Below.refl _ _ | assumption | refine Below.drew ?_ | refine below_drewN ?_ _ | refine belowA ?_ _ | refine belowT ?_ (by assumption) | refine Below.setCell ?_ (by first | (simp; done) | (simp; omega)) _))
        replace hX2 := hX2.below hb3
        have bw3 := bw2.trans (hb3.mono (by omega))
        replace iX := RV.ok.below iX hb3 (Nat.le_refl _)
        have hz3 := hb3.size
        clear hb3 bw2
        generalize w2.alloc (.cells [.int .i64 q', .int .i64 s', .int .i64 k', .int .i64 z', .int .i64 m', .int .i64 t', .slice aX nX cX].toArray 34) = w3 at *
        have HFE := hide hfe
        clear hfe
        by_cases her : er = 0
        · subst her
          have hst := HA.out.step HFE.out (by rw [List.length_map]; have := HYL.out; omega)
          have HST := hide hst
          clear hst
          have g0 := xV.cell 0 _ rfl
          have g1 := xV.cell 1 _ rfl
          have g2 := xV.cell 2 _ rfl
          have g3 := xV.cell 3 _ rfl
          have g4 := xV.cell 4 _ rfl
          have g5 := xV.cell 5 _ rfl
          have g6 := xV.cell 6 _ rfl
          have i0 := xV.ice 0
          have i1 := xV.ice 1
          have i2 := xV.ice 2
          have i3 := xV.ice 3
          have i4 := xV.ice 4
          have i5 := xV.ice 5
          have i6 := xV.ice 6
          have HL80 := hide hX80
          clear hX80 h80
          go_wp2_with (at_builtin; refine wpList_append_lies _ rfl _ _ 35 rfl (w.heap.size + 2) 34 i recZ 7 72 Tryz.underlying35 hi hz hsz hby rfl (by decide) _ _ _ rfl (hX2.below (belowA (Below.refl _ _) _)).own ⟨w3.heap.size, 0, none⟩ 1 1 (RV.cells ⟨⟨q', s', ⟨k', z', m', t', d'⟩⟩, aX, nX, cX⟩) rfl rfl ?hq0 (RV.cells_one _) (by decide) ?hq2 ?hq3 ?hq4 _ rfl ?hq5)
          case hq0 =>
            intro j u hu
            rw [addr_add, Nat.zero_add]
            exact (Lay.made w3 _ 34).cell j u hu
          case hq2 => have := HL80.out; simp only [maxLen]; omega
          case hq3 => have := HL80.out; omega
          case hq4 => simp; omega
          case hq5 =>
            intro g4 cap4 w4 hown4 hg4 hat4 hlt4
            have hbA : Below w3.heap.size w3 (w3.alloc (.cells [.int .i64 q', .int .i64 s', .int .i64 k', .int .i64 z', .int .i64 m', .int .i64 t', .slice aX nX cX].toArray 34)) := belowA (Below.refl _ _) _
            have oN := (hX2.below hbA).snoc (x := ⟨⟨q', s', ⟨k', z', m', t', d'⟩⟩, aX, nX, cX⟩) (RV.ok.below iX hbA (Nat.le_refl _)) hap hown4 hg4 (hat4.imp_right fun e => by rw [e]; simp)
            have b4 : Below (w.heap.size + 2) w1 w4 := (bw3.trans (hbA.mono (by omega))).grown hg4 (by simp; omega) (fun k e => (hX2.own.lt k e).1)
            have hs4 := HST.out
            rw [← HPX.out] at hs4
            have hn4 := HR2.out
            have oN2 : OwnR w4 (w.heap.size + 2) (.slice (some ⟨g4, 0, none⟩) (Y.length + 1) cap4) (X0 ++ (X ++ [⟨⟨q', s', ⟨k', z', m', t', d'⟩⟩, aX, nX, cX⟩])) := by rw [← List.append_assoc, HY.out]; exact oN
            have hDN := hD.snoc (x := ⟨⟨q', s', ⟨k', z', m', t', d'⟩⟩, aX, nX, cX⟩) hD2
            rw [← HY.out, List.append_assoc] at hDN
            go_wp2
            exact ⟨⟨X ++ [⟨⟨q', s', ⟨k', z', m', t', d'⟩⟩, aX, nX, cX⟩], a2, n2, c2, _, rfl, oN2, hDN, hr2, by rw [List.map_append]; exact hs4.1, b4⟩, by simp [slen]; omega⟩
        · have hcb : (er != 0) = true := by simpa using her
          have hst : (X.map RV.p).length = 80 - (X0.map RV.p).length ∨ (firstP r).2.2 ≠ 0 := .inr (by rw [HFE.out]; exact her)
          clear h80 hX80
          have bW : Below (w.heap.size + 2) w1 w3 := bw3
          have bWw : Below w.heap.size w w3 := bw.trans (bW.mono (by omega))
          have xW := xR.low bW (by omega)
          have kk0 := keepl bW k0 (by simp)
          have kk1 := keepl bW k1 (by simp)
          obtain ⟨la, lc, hlv, hRecs, hla⟩ := OwnR.recs hX2
          have HR := hide (recK_good HCK.out HX0.out (by rw [List.length_map]; exact HA.out) hst)
          rw [hl2, hrl, ← List.map_append, HY.out] at HR
          obtain ⟨j, hj⟩ : ∃ j, m - n' = j := ⟨_, rfl⟩
          rw [hj] at HR
          have hjn : (m : Int) - (n' : Int) = (j : Int) := by omega
          have hmd := Cel.le ht
          have hdm := Cel.max ht
          have hj0 : (0 : Int) ≤ (j : Int) := by omega
          have hj1 : (j : Int) ≤ (d : Int) := by omega
          have hj2 : j ≤ d := by omega
          have hj3 : ¬ ((j : Int) < 0) := by omega
          have hj4 : ¬ ((d : Int) < (j : Int)) := by omega
          have tt := (ht.take (k := j) (by omega)).below bWw (Nat.le_refl _)
          have ss := hs.below bWw (Nat.le_refl _)
          have HJ := hide (fun w' h1 h2 => jboth_c a n c s b j d (t.take j) w' h1 h2 (by omega))
          have HYN : Hid (Y.length = Y.length) := hide rfl
          clear HYL
          generalize Y.length = ln at *
          cases hlv
          have e0 := xW.cell 0 _ rfl
          have e1 := xW.cell 1 _ rfl
          have f0 := xW.ice 0
          have f1 := xW.ice 1
          go_upto_region 10 with fail
          go_region_held3 (fun w' => w'.cell? ⟨w.heap.size, 0, none⟩ = some (.slice a n c) ∧ w'.cell? ⟨w.heap.size, 1, none⟩ = some (.slice b m d)) ((first | (go_simp; done) | (simp [*, World.cell?_alloc_at, World.cell?_alloc_past, World.cell?_alloc_some, World.cell?_setCell_far]; done))) (first | (go_at_call 48; refine (HJ.out _ (by refine Byts.below ss (B := (w3).heap.size) ?_ (Nat.le_refl _); (repeat (first | exact Below.refl _ _ | assumption | refine Below.drew ?_ | refine below_drewN ?_ _ | refine belowA ?_ _ | refine belowT ?_ (by assumption) | refine Below.setCell ?_ (by first | (simp; done) | (simp; omega)) _))) (by refine Byts.below tt (B := (w3).heap.size) ?_ (Nat.le_refl _); (repeat (first | exact Below.refl _ _ | assumption | refine Below.drew ?_ | refine below_drewN ?_ _ | refine belowA ?_ _ | refine belowT ?_ (by assumption) | refine Below.setCell ?_ (by first | (simp; done) | (simp; omega)) _)))).mono ?_; rintro e w8 ⟨⟨g8, rfl, hg8, i8⟩, hb8⟩; (have r0 := keepc hb8 (p := ⟨w.heap.size, 0, none⟩) (u := .slice a n c) (by (first | (go_simp; done) | (simp [*, World.cell?_alloc_at, World.cell?_alloc_past, World.cell?_alloc_some, World.cell?_setCell_far]; done)))); (have r1 := keepc hb8 (p := ⟨w.heap.size, 1, none⟩) (u := .slice b m d) (by (first | (go_simp; done) | (simp [*, World.cell?_alloc_at, World.cell?_alloc_past, World.cell?_alloc_some, World.cell?_setCell_far]; done)))); (have b8 : Below (w3).heap.size (w3) w8 := by (repeat (first | exact Below.refl _ _ | assumption | refine Below.drew ?_ | refine below_drewN ?_ _ | refine belowA ?_ _ | refine belowT ?_ (by assumption) | refine Below.setCell ?_ (by first | (simp; done) | (simp; omega)) _))); (have xR8 := xW.below b8); (have o0 := xR8.cell 0 _ rfl); (have o1 := xR8.cell 1 _ rfl); (have v2 := xR8.ice 0); (have v3 := xR8.ice 1)))
          all_goals
            go_wp2
            have hWs := xW.lt
            simp at hg8
            have hR8 := hRecs.below b8 (Nat.le_refl _)
            have zB := (xR8.set 0 (.slice (some ⟨g8, 0, none⟩) (n + j) (n + j))).set 1 (.slice none 0 0)
            have hbut := ((ButI.refl (w.heap.size + 1) (w8)).step 0 (.slice (some ⟨g8, 0, none⟩) (n + j) (n + j))).step 1 (.slice none 0 0)
            generalize ((w8).setCell ⟨w.heap.size + 1, 0, none⟩ (.slice (some ⟨g8, 0, none⟩) (n + j) (n + j))).setCell ⟨w.heap.size + 1, 1, none⟩ (.slice none 0 0) = w99 at *
            have y0 := zB.cell 0 _ rfl
            have y1 := zB.cell 1 _ rfl
            refine bodyPost_ret (v := .tuple #[.agg #[.slice (some ⟨g8, 0, none⟩) (n + j) (n + j), .slice none 0 0], .slice av ln cv, .int .i64 0]) (by simp [results, Tryz.results20, go_sem, y0, y1]) rfl ⟨?_, (bWw.trans (b8.mono bWw.size)).trans (hbut.below (by omega))⟩
            rw [HR.out]
            have hf : KV.fresh (w.heap.size + 2) ⟨⟨s ++ t.take j, []⟩, some ⟨g8, 0, none⟩, n + j, n + j, none, 0, 0⟩ := ⟨fun y e => (by cases e; simp; omega), fun y e => (by cases e)⟩
            have hfr : FreshR (w.heap.size + 2) av (Y) := ⟨hla, hD⟩
            exact ⟨_, av, ln, cv, Y, rfl, rfl, KV.ok.but ⟨i8, Byts.nilSlice _⟩ hbut.but hf (by omega), hf.mono (by omega), hR8.but hbut.but hfr (by omega), hfr.mono (by omega), rfl⟩
  · have hcb : (ck != 0) = true := by simpa using h0
    have HR := hide (recK_bad (d := ⟨s, t⟩) (by rw [hck]; exact h0))
    rw [hck] at HR
    have e0 := xR.cell 0 _ rfl
    have e1 := xR.cell 1 _ rfl
    have f0 := xR.ice 0
    have f1 := xR.ice 1
    go_wp2
    have zB := (xR.set 0 (.slice none 0 0)).set 1 (.slice none 0 0)
    have hbut := ((ButI.refl (w.heap.size + 1) (w1)).step 0 (.slice none 0 0)).step 1 (.slice none 0 0)
    generalize ((w1).setCell ⟨w.heap.size + 1, 0, none⟩ (.slice none 0 0)).setCell ⟨w.heap.size + 1, 1, none⟩ (.slice none 0 0) = w99 at *
    have y0 := zB.cell 0 _ rfl
    have y1 := zB.cell 1 _ rfl
    refine bodyPost_ret (v := .tuple #[KV.zero.v, .slice none 0 0, .int .i64 ck]) (by simp [results, Tryz.results20, go_sem, KV.v, KV.zero, y0, y1]) rfl ⟨?_, bw.trans (hbut.below (by omega))⟩
    rw [HR.out]
    exact ⟨KV.zero, none, 0, 0, [], rfl, rfl, KV.zero_ok _, KV.zero_fresh _, Recs.nilSlice _, FreshR.nil _, rfl⟩

end Go.Proofs.YtenmamcaldabdaaGreatDoor

/- The law's closed fact on disks holds, wherever the package-level variables are as their texts lay them. -/
namespace Go.Proofs.YtenmamcaldabdaaGreatDoor
open Go.RowKit
set_option linter.unusedVariables false
set_option maxRecDepth 100000
set_option linter.unusedSimpArgs false

end Go.Proofs.YtenmamcaldabdaaGreatDoor

/- The law's closed fact on disks holds, wherever the package-level variables are as their texts lay them: the walk. -/
namespace Go.Proofs.YtenmamcaldabdaaGreatDoor
open Go.RowKit
set_option linter.unusedVariables false
set_option maxRecDepth 100000
set_option linter.unusedSimpArgs false

theorem KV.ok.small {w : World} {x : KV} (h : x.ok w) (hs : x.p.s.length ≤ 60000) (hw : x.p.w.length ≤ 60000) : x.n ≤ 140737488355328 ∧ x.m ≤ 140737488355328 := by
  have h1 := h.s.len
  have h2 := h.w.len
  omega

end Go.Proofs.YtenmamcaldabdaaGreatDoor

/- The law's own closure that puts records on a disk; no condition but that the records are read, what the disk holds, and that the package-level variables are as their texts lay them. -/
namespace Go.Proofs.YtenmamcaldabdaaGreatDoor
open Go.RowKit
set_option linter.unusedVariables false
set_option maxRecDepth 100000
set_option linter.unusedSimpArgs false

theorem Lay.grown {w w' : World} {B : Nat} {vs : List Value} {row : Option Nat} (h : Lay w B vs) (hg : w.grownBy w' row) (hne : some B ≠ row) : Lay w' B vs :=
  ⟨fun i v hv => hg.cell (h.cell i v hv) hne, fun i => by rw [hg.frozen_far ⟨B, i, none⟩ h.lt hne]; exact h.ice i, Nat.lt_of_lt_of_le h.lt hg.size⟩
theorem Byts.grown {w w' : World} {row : Option Nat} {a : Option Addr} {n c : Nat} {l : List UInt8} (h : Byts w a n c l) (hg : w.grownBy w' row) (hne : ∀ x, a = some x → some x.block ≠ row) : Byts w' a n c l := by
  refine ⟨Cel.len h, Cel.le h, Cel.max h, Cel.nil h, ?_⟩
  rcases Cel.row h with h0 | ⟨b, off, ha, hlt, hc⟩
  · exact .inl h0
  · exact .inr ⟨b, off, ha, Nat.lt_of_lt_of_le hlt hg.size, fun i v hv => hg.cell (hc i v hv) (by have := hne _ ha; exact this)⟩
theorem Ints.setOff {w : World} {a : Option Addr} {n c : Nat} {l : List Int} (h : Ints w a n c l) (p : Addr) (v : Value) (hne : n = 0 ∨ ∀ x, a = some x → x.block ≠ p.block) : Ints (w.setCell p v) a n c l := by
  rcases hne with h0 | hne
  · exact ⟨h.len, h.le, h.max, h.nil, .inl h0, h.wf⟩
  · exact h.setCell p v hne
theorem OwnR.far {w : World} {base : Nat} {v : Value} {X : List RV} (h : OwnR w base v X) (p : Addr) (u : Value) (hp : p.block < base) (hX : ∀ x ∈ X, x.off p.block) : OwnR (w.setCell p u) base v X :=
  ⟨ownsRow_setCell_below h.own hp u, fun x hx => Ints.setOff (h.ok x hx) p u (hX x hx), h.off⟩
theorem ButI.on {D : Nat} {w a b : World} (h : ButI D w a) (k : Below w.heap.size a b) (hD : D ≤ w.heap.size) : ButI D w b :=
  ⟨⟨h.but.low.trans (k.mono hD), Nat.le_trans h.but.size k.size, fun q hq hne => by rw [k.cell hq, h.but.cell q hq hne]⟩, fun q hq => by rw [k.frozen hq, h.ice q hq]⟩

theorem textL_small {A B : List PR} (hA : ∀ r ∈ A, checkR r = 0) (hB : ∀ r ∈ B, checkR r = 0) (h : A.length + B.length ≤ 80) : (textL A).length ≤ 60000 ∧ (textL B).length ≤ 60000 := by
  have h1 := textL_len A hA
  have h2 := textL_len B hB
  omega
end Go.Proofs.YtenmamcaldabdaaGreatDoor

/- Lists of records held against each other; plain mathematics, no condition. -/
namespace Go.Proofs.YtenmamcaldabdaaGreatDoor
open Go.RowKit
set_option linter.unusedVariables false
set_option maxRecDepth 100000
set_option linter.unusedSimpArgs false

def sameRs : List PR → List PR → Bool
  | [], [] => true
  | a :: A, b :: B => sameR a b && sameRs A B
  | [], _ :: _ => false
  | _ :: _, [] => false
theorem sameRs_iff : ∀ A B : List PR, sameRs A B = true ↔ A = B
  | [], [] => by simp [sameRs]
  | a :: A, b :: B => by simp [sameRs, sameR_iff, sameRs_iff A B]
  | [], b :: B => by simp [sameRs]
  | a :: A, [] => by simp [sameRs]
theorem sameRs_t {A B : List PR} (h : A = B) : sameRs A B = true := (sameRs_iff A B).2 h
theorem sameRs_f {A B : List PR} (h : A ≠ B) : sameRs A B = false := by
  cases e : sameRs A B with
  | false => rfl
  | true => exact absurd ((sameRs_iff A B).1 e) h

end Go.Proofs.YtenmamcaldabdaaGreatDoor

/- The contract of slices.EqualFunc on lists of records, by note.Same; no condition but that the lists are read. -/
namespace Go.Proofs.YtenmamcaldabdaaGreatDoor
open Go.RowKit
set_option linter.unusedVariables false
set_option maxRecDepth 100000
set_option linter.unusedSimpArgs false

set_option maxRecDepth 100000 in
set_option maxHeartbeats 4000000 in
theorem EqR_some (b1 o1 m1 b2 o2 m2 n : Nat) (X Y : List RV) (w : World) (h1 : Recs w (some ⟨b1, o1, none⟩) n m1 X) (h2 : Recs w (some ⟨b2, o2, none⟩) n m2 Y)
    (hr1 : ∀ i x, X[i]? = some x → ∀ j v, x.cells[j]? = some v → w.cell? ⟨b1, o1 + i * 7 + j, none⟩ = some v)
    (hr2 : ∀ i x, Y[i]? = some x → ∀ j v, x.cells[j]? = some v → w.cell? ⟨b2, o2 + i * 7 + j, none⟩ = some v) :
    Calls Tryz.prog 21 #[.slice (some ⟨b1, o1, none⟩) n m1, .slice (some ⟨b2, o2, none⟩) n m2, .func (Fn.func 22) #[] #[]] w fun e w' => e = .returned (.bool (sameRs (X.map RV.p) (Y.map RV.p))) ∧ Below w.heap.size w w' := by
  have hlen1 := hide h1.len
  have hlen2 := hide h2.len
  have hmax := h1.max
  have hle := h1.le
  go_enter Tryz.func21, Tryz.ntmps21
  go_wp2
  go_loopw [17] (fun i wr => ∃ k : Nat, k ≤ n ∧ i = .int .i64 k ∧ (X.take k).map RV.p = (Y.take k).map RV.p ∧ Below w.heap.size w wr) (fun i _ => n - (intOf i).toNat)
  case atStart => exact ⟨0, by omega, rfl, by simp, Below.refl _ _⟩
  case round =>
    obtain ⟨k, hk, rfl, hp, hbr⟩ := hrel
    have HP := hide hp
    clear hp
    rename_i wr
    by_cases hlt : k < n
    · obtain ⟨x, hx⟩ : ∃ z, X[k]? = some z := ⟨X[k]'(by rw [hlen1.out]; exact hlt), by simp⟩
      obtain ⟨y, hy⟩ : ∃ z, Y[k]? = some z := ⟨Y[k]'(by rw [hlen2.out]; exact hlt), by simp⟩
      have ix := RV.ok.below (h1.ok x (List.mem_of_getElem? hx)) hbr (Nat.le_refl _)
      have iy := RV.ok.below (h2.ok y (List.mem_of_getElem? hy)) hbr (Nat.le_refl _)
      have HZ := hide hx
      have HY := hide hy
      have HS := hide (fun w' h k => NSame_c x y w' h k)
      have HT : Hid (sameR x.p y.p = true → x.p = y.p) := hide (sameR_iff _ _).1
      have HF : Hid (sameR x.p y.p = false → x.p ≠ y.p) := hide (fun h e => by rw [(sameR_iff _ _).2 e] at h; cases h)
      have kx := hr1 k x hx
      have ky := hr2 k y hy
      clear hx hy
      generalize hsm : sameR x.p y.p = sm at *
      clear hsm
      obtain ⟨⟨q1, s1, ⟨k1, z1, u1, t1, d1⟩⟩, a1, n1, c1⟩ := x
      obtain ⟨⟨q2, s2, ⟨k2, z2, u2, t2, d2⟩⟩, a2, n2, c2⟩ := y
      dsimp only [RV.v] at HS
      have x0 := keepc hbr (kx 0 _ rfl)
      have x1 := keepc hbr (kx 1 _ rfl)
      have x2 := keepc hbr (kx 2 _ rfl)
      have x3 := keepc hbr (kx 3 _ rfl)
      have x4 := keepc hbr (kx 4 _ rfl)
      have x5 := keepc hbr (kx 5 _ rfl)
      have x6 := keepc hbr (kx 6 _ rfl)
      have y0 := past1 (keepc hbr (ky 0 _ rfl))
      have y1 := past1 (keepc hbr (ky 1 _ rfl))
      have y2 := past1 (keepc hbr (ky 2 _ rfl))
      have y3 := past1 (keepc hbr (ky 3 _ rfl))
      have y4 := past1 (keepc hbr (ky 4 _ rfl))
      have y5 := past1 (keepc hbr (ky 5 _ rfl))
      have y6 := past1 (keepc hbr (ky 6 _ rfl))
      rw [Nat.add_zero] at x0 y0
      clear kx ky
      have hlt' : (k : Int) < (n : Int) := by omega
      go_wp2_with fail
      refine (HS.out _ (RV.ok.below ix (B := wr.heap.size) (by (repeat (first | exact Below.refl _ _ | assumption | refine Below.drew ?_ | refine below_drewN ?_ _ | refine belowA ?_ _ | refine belowT ?_ (by assumption) | refine Below.setCell ?_ (by first | (simp; done) | (simp; omega)) _))) (Nat.le_refl _)) (RV.ok.below iy (B := wr.heap.size) (by (repeat (first | exact Below.refl _ _ | assumption | refine Below.drew ?_ | refine below_drewN ?_ _ | refine belowA ?_ _ | refine belowT ?_ (by assumption) | refine Below.setCell ?_ (by first | (simp; done) | (simp; omega)) _))) (Nat.le_refl _))).mono ?_
      rintro e w9 ⟨rfl, hb9⟩
      have b9 : Below w.heap.size w w9 := by (repeat (first | exact Below.refl _ _ | assumption | refine Below.drew ?_ | refine below_drewN ?_ _ | refine belowA ?_ _ | refine belowT ?_ (by assumption) | refine Below.setCell ?_ (by first | (simp; done) | (simp; omega)) _))
      clear hb9
      cases sm
      · have HNE := hide (HF.out rfl)
        clear HF HT
        go_wp2
        go_ret
        refine ⟨ret_bool (sameRs_f fun e => ?_).symm, b9⟩
        have := congrArg (fun L => L[k]?) e
        simp only [List.getElem?_map, HZ.out, HY.out, Option.map_some, Option.some.injEq] at this
        exact HNE.out this
      · have HEQ := hide (HT.out rfl)
        clear HF HT
        go_wp2
        have e := HEQ.out
        refine ⟨⟨k + 1, by omega, by go_num, ?_, b9⟩, by simp [intOf]; omega⟩
        obtain ⟨g1, g2⟩ := List.getElem?_eq_some_iff.1 HZ.out
        obtain ⟨g3, g4⟩ := List.getElem?_eq_some_iff.1 HY.out
        rw [List.take_succ_eq_append_getElem g1, List.take_succ_eq_append_getElem g3, List.map_append, List.map_append, HP.out, g2, g4]
        simpa using e
    · obtain rfl : k = n := by omega
      go_wp2
      go_ret
      have hp := HP.out
      rw [List.take_of_length_le (by rw [hlen1.out]; omega), List.take_of_length_le (by rw [hlen2.out]; omega)] at hp
      exact ⟨ret_bool (sameRs_t hp).symm, hbr⟩

theorem EqR_ne (a1 a2 : Option Addr) (n1 n2 c1 c2 : Nat) (fv : Value) (w : World) (hne : n1 ≠ n2) (hm1 : n1 ≤ 9223372036854775807) (hm2 : n2 ≤ 9223372036854775807) :
    Calls Tryz.prog 21 #[.slice a1 n1 c1, .slice a2 n2 c2, fv] w fun e w' => e = .returned (.bool false) ∧ w' = w := by
  have hb : ((n1 : Int) != (n2 : Int)) = true := by simp; omega
  go_enter Tryz.func21, Tryz.ntmps21
  go_wp2
  go_ret
  exact ⟨rfl, rfl⟩

theorem EqR_zero (a1 a2 : Option Addr) (c1 c2 : Nat) (fv : Value) (w : World) :
    Calls Tryz.prog 21 #[.slice a1 0 c1, .slice a2 0 c2, fv] w fun e w' => e = .returned (.bool true) ∧ w' = w := by
  go_enter Tryz.func21, Tryz.ntmps21
  go_wp2
  refine wp_loop_rounds 1 ?_
  rw [rounds_succ]
  go_wp2
  go_ret
  exact ⟨rfl, rfl⟩

theorem EqR_c (a1 a2 : Option Addr) (n1 n2 c1 c2 : Nat) (X Y : List RV) (w : World) (h1 : Recs w a1 n1 c1 X) (h2 : Recs w a2 n2 c2 Y) :
    Calls Tryz.prog 21 #[.slice a1 n1 c1, .slice a2 n2 c2, .func (Fn.func 22) #[] #[]] w fun e w' => e = .returned (.bool (sameRs (X.map RV.p) (Y.map RV.p))) ∧ Below w.heap.size w w' := by
  by_cases hn : n1 = n2
  · subst hn
    by_cases h0 : n1 = 0
    · subst h0
      have e1 := h1.len
      have e2 := h2.len
      rw [List.length_eq_zero_iff] at e1 e2
      subst e1 e2
      refine (EqR_zero a1 a2 c1 c2 _ w).mono ?_
      rintro e w' ⟨rfl, rfl⟩
      exact ⟨rfl, Below.refl _ _⟩
    · rcases h1.row with h | ⟨b1, o1, rfl, _, hr1⟩
      · omega
      · rcases h2.row with h | ⟨b2, o2, rfl, _, hr2⟩
        · omega
        · exact EqR_some b1 o1 c1 b2 o2 c2 n1 X Y w h1 h2 hr1 hr2
  · have m1 := h1.max
    have m2 := h2.max
    have q1 := h1.le
    have q2 := h2.le
    refine (EqR_ne a1 a2 n1 n2 c1 c2 _ w hn (by omega) (by omega)).mono ?_
    rintro e w' ⟨rfl, rfl⟩
    refine ⟨ret_bool (sameRs_f fun e => hn ?_).symm, Below.refl _ _⟩
    have := congrArg List.length e
    rw [List.length_map, List.length_map, h1.len, h2.len] at this
    exact this


end Go.Proofs.YtenmamcaldabdaaGreatDoor
