/- The contract of disk.Recover; no condition but that the disk is read, and that the package-level variables are as their texts lay them. -/
import Derived.Test.YtcbgkjmcdjpgcaaGreatDoorDiskSaysG14
import Derived.Test.YtcbgkjmcdjpgcaaGreatDoorDiskSaysG15
namespace Go.Proofs.YtcbgkjmcdjpgcaaGreatDoor
open Go.RowKit
set_option linter.unusedVariables false
set_option maxRecDepth 100000
set_option linter.unusedSimpArgs false

/-- What Recover answers: new memory. -/
def RecRes (B : Nat) (w' : World) (r : PK × List PR × Int) (e : Ending) : Prop :=
  ∃ x : KV, ∃ la ln lc X, e = .returned (.tuple #[x.v, .slice la ln lc, .int .i64 r.2.2]) ∧ x.p = r.1 ∧ x.ok w' ∧ x.fresh B ∧ Recs w' la ln lc X ∧ FreshR B la X ∧ X.map RV.p = r.2.1

theorem recK_bad {d : PK} (h : checkK d ≠ 0) : recK d = (zeroK, [], checkK d) := by unfold recK; rw [if_pos h]
theorem recK_good {s t : List UInt8} {D r : List PR} {b : List UInt8} (h : checkK ⟨s, t⟩ = 0) (hD : D = (linesP 80 s).1) (hA : Ahd (80 - D.length) t r b) (hs : r.length = 80 - D.length ∨ (firstP b).2.2 ≠ 0) :
    recK ⟨s, t⟩ = (⟨s ++ t.take (t.length - b.length), []⟩, D ++ r, 0) := by
  unfold recK
  obtain ⟨h1, h2⟩ := hA.stop hs
  rw [if_neg (by simp [h])]
  simp only [← hD, h1, h2]

/-- What lies below B stays. -/
theorem Lay.low {w w' : World} {B L : Nat} {vs : List Value} (h : Lay w B vs) (hb : Below L w w') (hL : B < L) : Lay w' B vs :=
  ⟨fun i v hv => by rw [hb.cell (p := ⟨B, i, none⟩) hL]; exact h.cell i v hv, fun i => by rw [hb.frozen (p := ⟨B, i, none⟩) hL]; exact h.ice i, Nat.lt_of_lt_of_le h.lt hb.size⟩
theorem keepl {w w' : World} {L : Nat} (hb : Below L w w') {p : Addr} {u : Value} (h : w.cell? p = some u) (hL : p.block < L) : w'.cell? p = some u := by rw [hb.cell hL]; exact h

set_option maxRecDepth 100000 in
set_option maxHeartbeats 4000000 in
theorem Recover_c (x : KV) (w : World) (hE : Env w) (h : x.ok w) (hn : x.n ≤ 140737488355328) (hm : x.m ≤ 140737488355328) :
    Calls Tryz.prog 7 #[x.v] w fun e w' => RecRes w.heap.size w' (recK x.p) e ∧ Below w.heap.size w w' := by
  have HS := hide (fun w' hE h => safe_c x w' hE h hn hm)
  have hl1 := h.s.len
  have hl2 := h.w.len
  obtain ⟨⟨s, t⟩, a, n, c, b, m, d⟩ := x
  have hs : Byts w a n c s := h.s
  have ht : Byts w b m d t := h.w
  dsimp only [KV.v] at *
  have HL : Hid (checkK ⟨s, t⟩ = 0 → n + m ≤ 60000) := hide (by
    unfold checkK
    intro e
    split at e
    · cases e
    · simp only at *; omega)
  obtain ⟨i, hi, hz, hsz, hby⟩ := recInfo
  have xR := Lay.made1 w (.cells #[.slice a n c, .slice b m d] 24) [.slice none 0 0, .slice none 0 0] 24
  go_enter Tryz.func7, Tryz.ntmps7
  go_wp2_with fail
  refine (HS.out _ (hE.below (by (repeat (first | exact Below.refl _ _ | assumption | refine Below.drew ?_ | refine below_drewN ?_ _ | refine belowA ?_ _ | refine belowT ?_ (by assumption) | refine Below.setCell ?_ (by first | (simp; done) | (simp; omega)) _)))) (h.below (by (repeat (first | exact Below.refl _ _ | assumption | refine Below.drew ?_ | refine below_drewN ?_ _ | refine belowA ?_ _ | refine belowT ?_ (by assumption) | refine Below.setCell ?_ (by first | (simp; done) | (simp; omega)) _))))).mono ?_
  rintro e w1 ⟨⟨v, X0, rfl, hX0, hD0, eX0⟩, hb1⟩
  have bw : Below w.heap.size w w1 := by (repeat (first | exact Below.refl _ _ | assumption | refine Below.drew ?_ | refine below_drewN ?_ _ | refine belowA ?_ _ | refine belowT ?_ (by assumption) | refine Below.setCell ?_ (by first | (simp; done) | (simp; omega)) _))
  have k0 := keepc hb1 (p := ⟨w.heap.size, 0, none⟩) (u := .slice a n c) (by (first | (go_simp; done) | (simp [*, World.cell?_alloc_at, World.cell?_alloc_past, World.cell?_alloc_some, World.cell?_setCell_far]; done)))
  have k1 := keepc hb1 (p := ⟨w.heap.size, 1, none⟩) (u := .slice b m d) (by (first | (go_simp; done) | (simp [*, World.cell?_alloc_at, World.cell?_alloc_past, World.cell?_alloc_some, World.cell?_setCell_far]; done)))
  replace xR := xR.below hb1
  have hlt := xR.lt
  simp only [World.size_alloc] at hX0 hD0
  clear hb1 h HS
  have HC : Hid (∀ y, checkK ⟨s, t⟩ = y → y = checkK ⟨s, t⟩) := hide (fun y e => e.symm)
  generalize hck : checkK ⟨s, t⟩ = ck at *
  by_cases h0 : ck = 0
  · subst h0
    have hnm := HL.out rfl
    rw [if_pos rfl] at eX0
    have HCK := hide hck
    have HX0 := hide eX0
    clear hck eX0 HC
    have hX8 : X0.length ≤ 80 := by
      have := (lines_facts _ 80 s (Nat.le_refl _)).1
      rw [← HX0.out, List.length_map] at this
      exact this
    go_wp2_with fail
    go_loopw [5, 7] (fun v u wr => ∃ X a' n' c' r, u = .slice a' n' c' ∧ OwnR wr (w.heap.size + 2) v (X0 ++ X) ∧ FromD (w.heap.size + 2) (X0 ++ X) ∧ Byts w a' n' c' r ∧ Ahd (80 - X0.length) t (X.map RV.p) r ∧ Below (w.heap.size + 2) w1 wr) (fun _ u _ => slen u)
    case atStart => exact ⟨[], b, m, d, t, rfl, by simpa using hX0, by simpa using hD0, ht, Ahd.start _ _, Below.refl _ _⟩
    case round =>
      obtain ⟨X, a', n', c', r, rfl, hX, hD, hr, hA, hbr⟩ := hrel
      rename_i wr
      have HY : Hid (∃ Y, Y = X0 ++ X) := hide ⟨_, rfl⟩
      have hYL : (X0 ++ X).length = X0.length + X.length := List.length_append
      generalize hY : X0 ++ X = Y at *
      replace HY := hide hY
      have HYL := hide hYL
      clear hY hYL
      have hrl := hr.len
      have hAl := hA.len
      have hAm := hA.le
      rw [List.length_map] at hAm
      have hX80 : Y.length ≤ 80 := by have := HYL.out; omega
      have hbrw : Below w.heap.size w wr := bw.trans (hbr.mono (by omega))
      have HA := hide hA
      clear hA
      by_cases h80 : Y.length = 80
      · have hne : ¬ ((Y.length : Nat) : Int) < 80 := by omega
        have hst : (X.map RV.p).length = 80 - (X0.map RV.p).length ∨ (firstP r).2.2 ≠ 0 := .inl (by rw [List.length_map, List.length_map]; have := HYL.out; omega)
        clear h80 hX80
        have bW : Below (w.heap.size + 2) w1 wr := hbr
        have bWw : Below w.heap.size w wr := bw.trans (bW.mono (by omega))
        have xW := xR.low bW (by omega)
        have kk0 := keepl bW k0 (by simp)
        have kk1 := keepl bW k1 (by simp)
        obtain ⟨la, lc, hlv, hRecs, hla⟩ := OwnR.recs hX
        have HR := hide (recK_good HCK.out HX0.out (by rw [List.length_map]; exact HA.out) hst)
        rw [hl2, hrl, ← List.map_append, HY.out] at HR
        obtain ⟨j, hj⟩ : ∃ j, m - n' = j := ⟨_, rfl⟩
        rw [hj] at HR
        have hjn : (m : Int) - (n' : Int) = (j : Int) := by omega
        have hmd := Cel.le ht
        have hdm := Cel.max ht
        have hj0 : (0 : Int) ≤ (j : Int) := by omega
        have hj1 : (j : Int) ≤ (d : Int) := by omega
        have hj2 : j ≤ d := by omega
        have hj3 : ¬ ((j : Int) < 0) := by omega
        have hj4 : ¬ ((d : Int) < (j : Int)) := by omega
        have tt := (ht.take (k := j) (by omega)).below bWw (Nat.le_refl _)
        have ss := hs.below bWw (Nat.le_refl _)
        have HJ := hide (fun w' h1 h2 => jboth_c a n c s b j d (t.take j) w' h1 h2 (by omega))
        have HYN : Hid (Y.length = Y.length) := hide rfl
        clear HYL
        generalize Y.length = ln at *
        cases hlv
        have e0 := xW.cell 0 _ rfl
        have e1 := xW.cell 1 _ rfl
        have f0 := xW.ice 0
        have f1 := xW.ice 1
        go_upto_region 10 with fail
        go_region_held3 (fun w' => w'.cell? ⟨w.heap.size, 0, none⟩ = some (.slice a n c) ∧ w'.cell? ⟨w.heap.size, 1, none⟩ = some (.slice b m d)) ((first | (go_simp; done) | (simp [*, World.cell?_alloc_at, World.cell?_alloc_past, World.cell?_alloc_some, World.cell?_setCell_far]; done))) (first | (go_at_call 20; refine (HJ.out _ (by refine Byts.below ss (B := (wr).heap.size) ?_ (Nat.le_refl _); (repeat (first | exact Below.refl _ _ | assumption | refine Below.drew ?_ | refine below_drewN ?_ _ | refine belowA ?_ _ | refine belowT ?_ (by assumption) | refine Below.setCell ?_ (by first | (simp; done) | (simp; omega)) _))) (by refine Byts.below tt (B := (wr).heap.size) ?_ (Nat.le_refl _); (repeat (first | exact Below.refl _ _ | assumption | refine Below.drew ?_ | refine below_drewN ?_ _ | refine belowA ?_ _ | refine belowT ?_ (by assumption) | refine Below.setCell ?_ (by first | (simp; done) | (simp; omega)) _)))).mono ?_; rintro e w8 ⟨⟨g8, rfl, hg8, i8⟩, hb8⟩; (have r0 := keepc hb8 (p := ⟨w.heap.size, 0, none⟩) (u := .slice a n c) (by (first | (go_simp; done) | (simp [*, World.cell?_alloc_at, World.cell?_alloc_past, World.cell?_alloc_some, World.cell?_setCell_far]; done)))); (have r1 := keepc hb8 (p := ⟨w.heap.size, 1, none⟩) (u := .slice b m d) (by (first | (go_simp; done) | (simp [*, World.cell?_alloc_at, World.cell?_alloc_past, World.cell?_alloc_some, World.cell?_setCell_far]; done)))); (have b8 : Below (wr).heap.size (wr) w8 := by (repeat (first | exact Below.refl _ _ | assumption | refine Below.drew ?_ | refine below_drewN ?_ _ | refine belowA ?_ _ | refine belowT ?_ (by assumption) | refine Below.setCell ?_ (by first | (simp; done) | (simp; omega)) _))); (have xR8 := xW.below b8); (have o0 := xR8.cell 0 _ rfl); (have o1 := xR8.cell 1 _ rfl); (have v2 := xR8.ice 0); (have v3 := xR8.ice 1)))
        all_goals
          go_wp2
          have hWs := xW.lt
          simp at hg8
          have hR8 := hRecs.below b8 (Nat.le_refl _)
          have zB := (xR8.set 0 (.slice (some ⟨g8, 0, none⟩) (n + j) (n + j))).set 1 (.slice none 0 0)
          have hbut := ((ButI.refl (w.heap.size + 1) (w8)).step 0 (.slice (some ⟨g8, 0, none⟩) (n + j) (n + j))).step 1 (.slice none 0 0)
          generalize ((w8).setCell ⟨w.heap.size + 1, 0, none⟩ (.slice (some ⟨g8, 0, none⟩) (n + j) (n + j))).setCell ⟨w.heap.size + 1, 1, none⟩ (.slice none 0 0) = w99 at *
          have y0 := zB.cell 0 _ rfl
          have y1 := zB.cell 1 _ rfl
          refine bodyPost_ret (v := .tuple #[.agg #[.slice (some ⟨g8, 0, none⟩) (n + j) (n + j), .slice none 0 0], .slice la ln lc, .int .i64 0]) (by simp [results, Tryz.results7, go_sem, y0, y1]) rfl ⟨?_, (bWw.trans (b8.mono bWw.size)).trans (hbut.below (by omega))⟩
          rw [HR.out]
          have hf : KV.fresh (w.heap.size + 2) ⟨⟨s ++ t.take j, []⟩, some ⟨g8, 0, none⟩, n + j, n + j, none, 0, 0⟩ := ⟨fun y e => (by cases e; simp; omega), fun y e => (by cases e)⟩
          have hfr : FreshR (w.heap.size + 2) la (Y) := ⟨hla, hD⟩
          exact ⟨_, la, ln, lc, Y, rfl, rfl, KV.ok.but ⟨i8, Byts.nilSlice _⟩ hbut.but hf (by omega), hf.mono (by omega), hR8.but hbut.but hfr (by omega), hfr.mono (by omega), rfl⟩
      · have hlt80 : ((Y.length : Nat) : Int) < 80 := by omega
        obtain ⟨av, cv, hv, _, _⟩ := hX.recs
        subst hv
        go_wp2_with fail
        refine (first_c a' n' c' r _ (hE.below hbrw) (hr.below hbrw (Nat.le_refl _)) (by omega)).mono ?_
        rintro e w2 ⟨⟨⟨pX, aX, nX, cX⟩, a2, n2, c2, rfl, ePX, iX, nwX, hr2⟩, hb2⟩
        have hX2 := hX.below hb2
        have hap := hX.apart (x := ⟨pX, aX, nX, cX⟩) (Nat.le_refl _) nwX
        have hsz2 := hbr.size
        have bw2 : Below (w.heap.size + 2) w1 w2 := hbr.trans (hb2.mono (by omega))
        replace hr2 := hr2 w hr
        have HR2 : Hid ((firstP r).2.1.length = n2) := hide hr2.len
        have hD2 : ∀ y, aX = some y → w.heap.size + 2 ≤ y.block := fun y e => by have := nwX y e; omega
        have HPX : Hid (pX = (firstP r).1) := hide ePX
        have hz2 := hb2.size
        clear hb2 nwX ePX
        obtain ⟨q', s', ⟨k', z', m', t', d'⟩⟩ := pX
        dsimp only [RV.v] at iX ⊢
        generalize hfe : (firstP r).2.2 = er at *
        go_upto_region 7 with fail
        have xV := Lay.made w2 [.int .i64 q', .int .i64 s', .int .i64 k', .int .i64 z', .int .i64 m', .int .i64 t', .slice aX nX cX] 29
        have hb3 : Below w2.heap.size w2 (w2.alloc (.cells [.int .i64 q', .int .i64 s', .int .i64 k', .int .i64 z', .int .i64 m', .int .i64 t', .slice aX nX cX].toArray 29)) := by clear bw2; (repeat (first | exact Below.refl _ _ | assumption | refine Below.drew ?_ | refine below_drewN ?_ _ | refine belowA ?_ _ | refine belowT ?_ (by assumption) | refine Below.setCell ?_ (by first | (simp; done) | (simp; omega)) _))
        replace hX2 := hX2.below hb3
        have bw3 := bw2.trans (hb3.mono (by omega))
        replace iX := RV.ok.below iX hb3 (Nat.le_refl _)
        have hz3 := hb3.size
        clear hb3 bw2
        generalize w2.alloc (.cells [.int .i64 q', .int .i64 s', .int .i64 k', .int .i64 z', .int .i64 m', .int .i64 t', .slice aX nX cX].toArray 29) = w3 at *
        have HFE := hide hfe
        clear hfe
        by_cases her : er = 0
        · subst her
          have hst := HA.out.step HFE.out (by rw [List.length_map]; have := HYL.out; omega)
          have HST := hide hst
          clear hst
          have g0 := xV.cell 0 _ rfl
          have g1 := xV.cell 1 _ rfl
          have g2 := xV.cell 2 _ rfl
          have g3 := xV.cell 3 _ rfl
          have g4 := xV.cell 4 _ rfl
          have g5 := xV.cell 5 _ rfl
          have g6 := xV.cell 6 _ rfl
          have i0 := xV.ice 0
          have i1 := xV.ice 1
          have i2 := xV.ice 2
          have i3 := xV.ice 3
          have i4 := xV.ice 4
          have i5 := xV.ice 5
          have i6 := xV.ice 6
          have HL80 := hide hX80
          clear hX80 h80
          go_wp2_with (at_builtin; refine wpList_append_lies _ rfl _ _ 35 rfl (w.heap.size + 2) 29 i recZ 7 72 Tryz.underlying35 hi hz hsz hby rfl (by decide) _ _ _ rfl (hX2.below (belowA (Below.refl _ _) _)).own ⟨w3.heap.size, 0, none⟩ 1 1 (RV.cells ⟨⟨q', s', ⟨k', z', m', t', d'⟩⟩, aX, nX, cX⟩) rfl rfl ?hq0 (RV.cells_one _) (by decide) ?hq2 ?hq3 ?hq4 _ rfl ?hq5)
          case hq0 =>
            intro j u hu
            rw [addr_add, Nat.zero_add]
            exact (Lay.made w3 _ 29).cell j u hu
          case hq2 => have := HL80.out; simp only [maxLen]; omega
          case hq3 => have := HL80.out; omega
          case hq4 => simp; omega
          case hq5 =>
            intro g4 cap4 w4 hown4 hg4 hat4 hlt4
            have hbA : Below w3.heap.size w3 (w3.alloc (.cells [.int .i64 q', .int .i64 s', .int .i64 k', .int .i64 z', .int .i64 m', .int .i64 t', .slice aX nX cX].toArray 29)) := belowA (Below.refl _ _) _
            have oN := (hX2.below hbA).snoc (x := ⟨⟨q', s', ⟨k', z', m', t', d'⟩⟩, aX, nX, cX⟩) (RV.ok.below iX hbA (Nat.le_refl _)) hap hown4 hg4 (hat4.imp_right fun e => by rw [e]; simp)
            have b4 : Below (w.heap.size + 2) w1 w4 := (bw3.trans (hbA.mono (by omega))).grown hg4 (by simp; omega) (fun k e => (hX2.own.lt k e).1)
            have hs4 := HST.out
            rw [← HPX.out] at hs4
            have hn4 := HR2.out
            have oN2 : OwnR w4 (w.heap.size + 2) (.slice (some ⟨g4, 0, none⟩) (Y.length + 1) cap4) (X0 ++ (X ++ [⟨⟨q', s', ⟨k', z', m', t', d'⟩⟩, aX, nX, cX⟩])) := by rw [← List.append_assoc, HY.out]; exact oN
            have hDN := hD.snoc (x := ⟨⟨q', s', ⟨k', z', m', t', d'⟩⟩, aX, nX, cX⟩) hD2
            rw [← HY.out, List.append_assoc] at hDN
            go_wp2
            exact ⟨⟨X ++ [⟨⟨q', s', ⟨k', z', m', t', d'⟩⟩, aX, nX, cX⟩], a2, n2, c2, _, rfl, oN2, hDN, hr2, by rw [List.map_append]; exact hs4.1, b4⟩, by simp [slen]; omega⟩
        · have hcb : (er != 0) = true := by simpa using her
          have hst : (X.map RV.p).length = 80 - (X0.map RV.p).length ∨ (firstP r).2.2 ≠ 0 := .inr (by rw [HFE.out]; exact her)
          clear h80 hX80
          have bW : Below (w.heap.size + 2) w1 w3 := bw3
          have bWw : Below w.heap.size w w3 := bw.trans (bW.mono (by omega))
          have xW := xR.low bW (by omega)
          have kk0 := keepl bW k0 (by simp)
          have kk1 := keepl bW k1 (by simp)
          obtain ⟨la, lc, hlv, hRecs, hla⟩ := OwnR.recs hX2
          have HR := hide (recK_good HCK.out HX0.out (by rw [List.length_map]; exact HA.out) hst)
          rw [hl2, hrl, ← List.map_append, HY.out] at HR
          obtain ⟨j, hj⟩ : ∃ j, m - n' = j := ⟨_, rfl⟩
          rw [hj] at HR
          have hjn : (m : Int) - (n' : Int) = (j : Int) := by omega
          have hmd := Cel.le ht
          have hdm := Cel.max ht
          have hj0 : (0 : Int) ≤ (j : Int) := by omega
          have hj1 : (j : Int) ≤ (d : Int) := by omega
          have hj2 : j ≤ d := by omega
          have hj3 : ¬ ((j : Int) < 0) := by omega
          have hj4 : ¬ ((d : Int) < (j : Int)) := by omega
          have tt := (ht.take (k := j) (by omega)).below bWw (Nat.le_refl _)
          have ss := hs.below bWw (Nat.le_refl _)
          have HJ := hide (fun w' h1 h2 => jboth_c a n c s b j d (t.take j) w' h1 h2 (by omega))
          have HYN : Hid (Y.length = Y.length) := hide rfl
          clear HYL
          generalize Y.length = ln at *
          cases hlv
          have e0 := xW.cell 0 _ rfl
          have e1 := xW.cell 1 _ rfl
          have f0 := xW.ice 0
          have f1 := xW.ice 1
          go_upto_region 10 with fail
          go_region_held3 (fun w' => w'.cell? ⟨w.heap.size, 0, none⟩ = some (.slice a n c) ∧ w'.cell? ⟨w.heap.size, 1, none⟩ = some (.slice b m d)) ((first | (go_simp; done) | (simp [*, World.cell?_alloc_at, World.cell?_alloc_past, World.cell?_alloc_some, World.cell?_setCell_far]; done))) (first | (go_at_call 20; refine (HJ.out _ (by refine Byts.below ss (B := (w3).heap.size) ?_ (Nat.le_refl _); (repeat (first | exact Below.refl _ _ | assumption | refine Below.drew ?_ | refine below_drewN ?_ _ | refine belowA ?_ _ | refine belowT ?_ (by assumption) | refine Below.setCell ?_ (by first | (simp; done) | (simp; omega)) _))) (by refine Byts.below tt (B := (w3).heap.size) ?_ (Nat.le_refl _); (repeat (first | exact Below.refl _ _ | assumption | refine Below.drew ?_ | refine below_drewN ?_ _ | refine belowA ?_ _ | refine belowT ?_ (by assumption) | refine Below.setCell ?_ (by first | (simp; done) | (simp; omega)) _)))).mono ?_; rintro e w8 ⟨⟨g8, rfl, hg8, i8⟩, hb8⟩; (have r0 := keepc hb8 (p := ⟨w.heap.size, 0, none⟩) (u := .slice a n c) (by (first | (go_simp; done) | (simp [*, World.cell?_alloc_at, World.cell?_alloc_past, World.cell?_alloc_some, World.cell?_setCell_far]; done)))); (have r1 := keepc hb8 (p := ⟨w.heap.size, 1, none⟩) (u := .slice b m d) (by (first | (go_simp; done) | (simp [*, World.cell?_alloc_at, World.cell?_alloc_past, World.cell?_alloc_some, World.cell?_setCell_far]; done)))); (have b8 : Below (w3).heap.size (w3) w8 := by (repeat (first | exact Below.refl _ _ | assumption | refine Below.drew ?_ | refine below_drewN ?_ _ | refine belowA ?_ _ | refine belowT ?_ (by assumption) | refine Below.setCell ?_ (by first | (simp; done) | (simp; omega)) _))); (have xR8 := xW.below b8); (have o0 := xR8.cell 0 _ rfl); (have o1 := xR8.cell 1 _ rfl); (have v2 := xR8.ice 0); (have v3 := xR8.ice 1)))
          all_goals
            go_wp2
            have hWs := xW.lt
            simp at hg8
            have hR8 := hRecs.below b8 (Nat.le_refl _)
            have zB := (xR8.set 0 (.slice (some ⟨g8, 0, none⟩) (n + j) (n + j))).set 1 (.slice none 0 0)
            have hbut := ((ButI.refl (w.heap.size + 1) (w8)).step 0 (.slice (some ⟨g8, 0, none⟩) (n + j) (n + j))).step 1 (.slice none 0 0)
            generalize ((w8).setCell ⟨w.heap.size + 1, 0, none⟩ (.slice (some ⟨g8, 0, none⟩) (n + j) (n + j))).setCell ⟨w.heap.size + 1, 1, none⟩ (.slice none 0 0) = w99 at *
            have y0 := zB.cell 0 _ rfl
            have y1 := zB.cell 1 _ rfl
            refine bodyPost_ret (v := .tuple #[.agg #[.slice (some ⟨g8, 0, none⟩) (n + j) (n + j), .slice none 0 0], .slice av ln cv, .int .i64 0]) (by simp [results, Tryz.results7, go_sem, y0, y1]) rfl ⟨?_, (bWw.trans (b8.mono bWw.size)).trans (hbut.below (by omega))⟩
            rw [HR.out]
            have hf : KV.fresh (w.heap.size + 2) ⟨⟨s ++ t.take j, []⟩, some ⟨g8, 0, none⟩, n + j, n + j, none, 0, 0⟩ := ⟨fun y e => (by cases e; simp; omega), fun y e => (by cases e)⟩
            have hfr : FreshR (w.heap.size + 2) av (Y) := ⟨hla, hD⟩
            exact ⟨_, av, ln, cv, Y, rfl, rfl, KV.ok.but ⟨i8, Byts.nilSlice _⟩ hbut.but hf (by omega), hf.mono (by omega), hR8.but hbut.but hfr (by omega), hfr.mono (by omega), rfl⟩
  · have hcb : (ck != 0) = true := by simpa using h0
    have HR := hide (recK_bad (d := ⟨s, t⟩) (by rw [hck]; exact h0))
    rw [hck] at HR
    have e0 := xR.cell 0 _ rfl
    have e1 := xR.cell 1 _ rfl
    have f0 := xR.ice 0
    have f1 := xR.ice 1
    go_wp2
    have zB := (xR.set 0 (.slice none 0 0)).set 1 (.slice none 0 0)
    have hbut := ((ButI.refl (w.heap.size + 1) (w1)).step 0 (.slice none 0 0)).step 1 (.slice none 0 0)
    generalize ((w1).setCell ⟨w.heap.size + 1, 0, none⟩ (.slice none 0 0)).setCell ⟨w.heap.size + 1, 1, none⟩ (.slice none 0 0) = w99 at *
    have y0 := zB.cell 0 _ rfl
    have y1 := zB.cell 1 _ rfl
    refine bodyPost_ret (v := .tuple #[KV.zero.v, .slice none 0 0, .int .i64 ck]) (by simp [results, Tryz.results7, go_sem, KV.v, KV.zero, y0, y1]) rfl ⟨?_, bw.trans (hbut.below (by omega))⟩
    rw [HR.out]
    exact ⟨KV.zero, none, 0, 0, [], rfl, rfl, KV.zero_ok _, KV.zero_fresh _, Recs.nilSlice _, FreshR.nil _, rfl⟩

end Go.Proofs.YtcbgkjmcdjpgcaaGreatDoor

/- The law's closed fact on disks holds, wherever the package-level variables are as their texts lay them. -/
namespace Go.Proofs.YtcbgkjmcdjpgcaaGreatDoor
open Go.RowKit
set_option linter.unusedVariables false
set_option maxRecDepth 100000
set_option linter.unusedSimpArgs false

/-- The record of a number. -/
def clr (n : Int) : PR := ⟨0, n, ⟨12, 0, 0, 0, []⟩⟩
theorem clr2 : checkR (clr 2) = 0 := by decide
theorem clr3 : checkR (clr 3) = 0 := by decide
theorem one_ok {r : PR} (h : checkR r = 0) : ∀ x ∈ [r], checkR x = 0 := fun x hx => by simp at hx; rw [hx]; exact h
theorem none_ok : ∀ x ∈ ([] : List PR), checkR x = 0 := by simp
theorem clr_text2 : textL [clr 2] = [48, 32, 50, 58, 32, 99, 108, 101, 97, 114, 10] := by decide +kernel
theorem clr_text3 : textL [clr 3] = [48, 32, 51, 58, 32, 99, 108, 101, 97, 114, 10] := by decide +kernel
theorem filed1 : putK zeroK (clr 2) = (⟨[], textL [clr 2]⟩, 0) := putK_text (a := []) (b := []) none_ok none_ok (by decide) clr2
theorem filed2 : syncK ⟨[], textL [clr 2]⟩ = (⟨textL [clr 2], []⟩, 0) := syncK_text (a := []) (b := [clr 2]) none_ok (one_ok clr2) (by decide)
theorem filed3 : putK ⟨textL [clr 2], []⟩ (clr 3) = (⟨textL [clr 2], textL [clr 3]⟩, 0) := putK_text (a := [clr 2]) (b := []) (one_ok clr2) none_ok (by decide) clr3
theorem filed4 : crashK ⟨textL [clr 2], textL [clr 3]⟩ 4 = (⟨textL [clr 2], [48, 32, 51, 58]⟩, 0) := by
  unfold crashK
  rw [checkK_text (one_ok clr2) (by decide) (by rw [clr_text2, clr_text3]; decide), clr_text3]
  rfl
theorem filed5 : recK ⟨textL [clr 2], [48, 32, 51, 58]⟩ = (⟨textL [clr 2], []⟩, [clr 2], 0) := by
  unfold recK
  rw [checkK_text (one_ok clr2) (by decide) (by rw [clr_text2]; decide)]
  simp only [lines_text [clr 2] 80 (one_ok clr2) (by decide)]
  rw [linesP_torn (by decide) (by decide)]
  simp

set_option maxHeartbeats 1000000 in
theorem cleared_c (n : Int) (w : World) : Calls Tryz.prog 24 #[.int .i64 n] w fun e w' => e = .returned (.agg #[.int .i64 0, .int .i64 n, .int .i64 12, .int .i64 0, .int .i64 0, .int .i64 0, .slice none 0 0]) ∧ Below w.heap.size w w' := by
  go_enter Tryz.func24, Tryz.ntmps24
  go_wp2
  refine bodyPost_ret (v := .agg #[.int .i64 0, .int .i64 n, .int .i64 12, .int .i64 0, .int .i64 0, .int .i64 0, .slice none 0 0]) (by simp [results, Tryz.results24, go_sem]) rfl ⟨rfl, by (repeat (first | exact Below.refl _ _ | assumption | refine Below.drew ?_ | refine below_drewN ?_ _ | refine belowA ?_ _ | refine belowT ?_ (by assumption) | refine Below.setCell ?_ (by first | (simp; done) | (simp; omega)) _))⟩

end Go.Proofs.YtcbgkjmcdjpgcaaGreatDoor

/- The law's closed fact on disks holds, wherever the package-level variables are as their texts lay them: the walk. -/
namespace Go.Proofs.YtcbgkjmcdjpgcaaGreatDoor
open Go.RowKit
set_option linter.unusedVariables false
set_option maxRecDepth 100000
set_option linter.unusedSimpArgs false

theorem KV.ok.small {w : World} {x : KV} (h : x.ok w) (hs : x.p.s.length ≤ 60000) (hw : x.p.w.length ≤ 60000) : x.n ≤ 140737488355328 ∧ x.m ≤ 140737488355328 := by
  have h1 := h.s.len
  have h2 := h.w.len
  omega

set_option maxRecDepth 100000 in
set_option maxHeartbeats 4000000 in
theorem filed_c (w : World) (hE : Env w) : Calls Tryz.prog 9 #[] w fun e w' => e = .returned (.bool true) ∧ Below w.heap.size w w' := by
  have hP1 := fun w' hE => Put_c KV.zero ⟨clr 2, none, 0, 0⟩ w' hE (KV.zero_ok _) (Ints.nilSlice _) (by decide) (by decide)
  rw [show putK KV.zero.p (RV.p ⟨clr 2, none, 0, 0⟩) = (⟨[], textL [clr 2]⟩, 0) from filed1] at hP1
  dsimp only [KV.v, RV.v, KV.zero, clr] at hP1
  have HP1 := hide hP1
  clear hP1
  go_enter Tryz.func9, Tryz.ntmps9
  go_wp2_with fail
  refine (cleared_c 2 _).mono ?_
  rintro e w1 ⟨rfl, hb1⟩
  have bw : Below w.heap.size w w1 := by (repeat (first | exact Below.refl _ _ | assumption | refine Below.drew ?_ | refine below_drewN ?_ _ | refine belowA ?_ _ | refine belowT ?_ (by assumption) | refine Below.setCell ?_ (by first | (simp; done) | (simp; omega)) _))
  clear hb1
  go_wp2_with fail
  refine (HP1.out _ (hE.below bw)).mono ?_
  rintro e w2 ⟨⟨⟨p1, a1, n1, c1, b1, m1, d1⟩, rfl, ep1, ok1, _⟩, hb2⟩
  obtain rfl : p1 = ⟨[], textL [clr 2]⟩ := ep1
  replace bw := belowT bw hb2
  clear hb2 HP1
  have hDw : w.heap.size ≤ w2.heap.size := bw.size
  obtain ⟨s1, s2⟩ := ok1.small (by simp) (by show (textL [clr 2]).length ≤ 60000; rw [clr_text2]; decide)
  have hS := fun w' hE h => Sync_c ⟨⟨[], textL [clr 2]⟩, a1, n1, c1, b1, m1, d1⟩ w' hE h s1 s2
  rw [show syncK (KV.p ⟨⟨[], textL [clr 2]⟩, a1, n1, c1, b1, m1, d1⟩) = (⟨textL [clr 2], []⟩, 0) from filed2] at hS
  dsimp only [KV.v] at hS ⊢
  have HS := hide hS
  clear hS
  go_upto_region 2 with fail
  have xD := Lay.made w2 [.slice a1 n1 c1, .slice b1 m1 d1] 24
  have hb3 : Below w2.heap.size w2 (w2.alloc (.cells [.slice a1 n1 c1, .slice b1 m1 d1].toArray 24)) := belowA (Below.refl _ _) _
  replace ok1 := ok1.below hb3
  replace bw := belowT bw hb3
  clear hb3
  generalize w2.alloc (.cells [.slice a1 n1 c1, .slice b1 m1 d1].toArray 24) = w3 at *
  generalize w2.heap.size = D at *
  have e0 := xD.cell 0 _ rfl
  have e1 := xD.cell 1 _ rfl
  have f0 := xD.ice 0
  have f1 := xD.ice 1
  go_wp2_with fail
  refine (HS.out _ (hE.below bw) ok1).mono ?_
  rintro e w4 ⟨⟨⟨p2, a2, n2, c2, b2, m2, d2⟩, rfl, ep2, ok2, fr2⟩, hb4⟩
  obtain rfl : p2 = ⟨textL [clr 2], []⟩ := ep2
  clear HS e0 e1 f0 f1 ok1
  obtain ⟨s3, s4⟩ := ok2.small (by show (textL [clr 2]).length ≤ 60000; rw [clr_text2]; decide) (by simp)
  have hP2 := fun w' hE h => Put_c ⟨⟨textL [clr 2], []⟩, a2, n2, c2, b2, m2, d2⟩ ⟨clr 3, none, 0, 0⟩ w' hE h (Ints.nilSlice _) s3 s4
  rw [show putK (KV.p ⟨⟨textL [clr 2], []⟩, a2, n2, c2, b2, m2, d2⟩) (RV.p ⟨clr 3, none, 0, 0⟩) = (⟨textL [clr 2], textL [clr 3]⟩, 0) from filed3] at hP2
  dsimp only [KV.v, RV.v, clr] at hP2 ⊢
  have HP2 := hide hP2
  clear hP2
  have hD4 := xD.lt
  have bD4 := xD.below hb4
  have kf4 : KV.fresh (D + 1) ⟨⟨textL [clr 2], []⟩, a2, n2, c2, b2, m2, d2⟩ := KV.fresh.mono fr2 (by omega)
  replace bw := belowT bw hb4
  have e0 := bD4.cell 0 _ rfl
  have e1 := bD4.cell 1 _ rfl
  have f0 := bD4.ice 0
  have f1 := bD4.ice 1
  go_upto_region 3 with fail
  have zD := (bD4.set 0 (.slice a2 n2 c2)).set 1 (.slice b2 m2 d2)
  have hbut := ((ButI.refl D (w4)).step 0 (.slice a2 n2 c2)).step 1 (.slice b2 m2 d2)
  generalize ((w4).setCell ⟨D, 0, none⟩ (.slice a2 n2 c2)).setCell ⟨D, 1, none⟩ (.slice b2 m2 d2) = w5 at *
  replace xD := zD
  have ok2' := KV.ok.but ok2 hbut.but kf4 (by omega)
  replace bw := bw.trans (hbut.below hDw)
  clear zD bD4 e0 e1 f0 f1 hb4
  clear ok2
  have e0 := xD.cell 0 _ rfl
  have e1 := xD.cell 1 _ rfl
  have f0 := xD.ice 0
  have f1 := xD.ice 1
  go_cut [4] (fun v wx => v = .int .i64 0 ∧ ∃ a3 n3 c3 b3 m3 d3, Lay wx D [.slice a3 n3 c3, .slice b3 m3 d3] ∧ KV.ok wx ⟨⟨textL [clr 2], textL [clr 3]⟩, a3, n3, c3, b3, m3, d3⟩ ∧ Below w.heap.size w wx)
  case first =>
    go_region_with (first
      | (go_at_call 24; refine (cleared_c 3 _).mono ?_; rintro e w6 ⟨rfl, hb6⟩; (have b6 : Below w5.heap.size w5 w6 := by clear bw; (repeat (first | exact Below.refl _ _ | assumption | refine Below.drew ?_ | refine below_drewN ?_ _ | refine belowA ?_ _ | refine belowT ?_ (by assumption) | refine Below.setCell ?_ (by first | (simp; done) | (simp; omega)) _))); (have xD6 := xD.below b6); (have u0 := xD6.cell 0 _ rfl); (have u1 := xD6.cell 1 _ rfl); (have v0 := xD6.ice 0); (have v1 := xD6.ice 1))
      | (go_at_call 4; refine (HP2.out _ (by refine hE.below ?_; (repeat (first | exact Below.refl _ _ | assumption | refine Below.drew ?_ | refine below_drewN ?_ _ | refine belowA ?_ _ | refine belowT ?_ (by assumption) | refine Below.setCell ?_ (by first | (simp; done) | (simp; omega)) _))) (by refine KV.ok.below ok2' ?_; clear bw; (repeat (first | exact Below.refl _ _ | assumption | refine Below.drew ?_ | refine below_drewN ?_ _ | refine belowA ?_ _ | refine belowT ?_ (by assumption) | refine Below.setCell ?_ (by first | (simp; done) | (simp; omega)) _)))).mono ?_; rintro e w7 ⟨⟨⟨p3, a3, n3, c3, b3, m3, d3⟩, rfl, ep3, ok3, fr3⟩, hb7⟩; dsimp only [KV.v]; (have b7 : Below w5.heap.size w5 w7 := by clear bw; (repeat (first | exact Below.refl _ _ | assumption | refine Below.drew ?_ | refine below_drewN ?_ _ | refine belowA ?_ _ | refine belowT ?_ (by assumption) | refine Below.setCell ?_ (by first | (simp; done) | (simp; omega)) _))); (have xD7 := xD.below b7); (have o0 := xD7.cell 0 _ rfl); (have o1 := xD7.cell 1 _ rfl); (have v2 := xD7.ice 0); (have v3 := xD7.ice 1)))
    all_goals
      go_wp2_with fail
      go_meet
    all_goals
      case rel =>
        obtain rfl : p3 = ⟨textL [clr 2], textL [clr 3]⟩ := ep3
        have zD := (xD7.set 0 (.slice a3 n3 c3)).set 1 (.slice b3 m3 d3)
        have hbut := ((ButI.refl D w7).step 0 (.slice a3 n3 c3)).step 1 (.slice b3 m3 d3)
        have hD5 := xD.lt
        have hs6 := b6.size
        exact ⟨rfl, a3, n3, c3, b3, m3, d3, zD, KV.ok.but ok3 hbut.but fr3 (by omega), (belowT bw b7).trans (hbut.below hDw)⟩
  case rest =>
    obtain ⟨rfl, a3, n3, c3, b3, m3, d3, xD, ok3, bw⟩ := hcut
    obtain ⟨s5, s6⟩ := ok3.small (by show (textL [clr 2]).length ≤ 60000; rw [clr_text2]; decide) (by show (textL [clr 3]).length ≤ 60000; rw [clr_text3]; decide)
    have hC := fun w' hE h => Crash_c ⟨⟨textL [clr 2], textL [clr 3]⟩, a3, n3, c3, b3, m3, d3⟩ 4 w' hE h s5 s6
    rw [show crashK (KV.p ⟨⟨textL [clr 2], textL [clr 3]⟩, a3, n3, c3, b3, m3, d3⟩) 4 = (⟨textL [clr 2], [48, 32, 51, 58]⟩, 0) from filed4] at hC
    dsimp only [KV.v] at hC
    have HC := hide hC
    clear hC e0 e1 f0 f1 ok2' HP2
    have e0 := xD.cell 0 _ rfl
    have e1 := xD.cell 1 _ rfl
    have f0 := xD.ice 0
    have f1 := xD.ice 1
    go_wp2_with fail
    refine (HC.out _ (hE.below bw) ok3).mono ?_
    rintro e w8 ⟨⟨⟨p4, a4, n4, c4, b4, m4, d4⟩, rfl, ep4, ok4, fr4⟩, hb8⟩
    obtain rfl : p4 = ⟨textL [clr 2], [48, 32, 51, 58]⟩ := ep4
    clear HC e0 e1 f0 f1 ok3
    obtain ⟨s7, s8⟩ := ok4.small (by show (textL [clr 2]).length ≤ 60000; rw [clr_text2]; decide) (by simp)
    have hRc := fun w' hE h => Recover_c ⟨⟨textL [clr 2], [48, 32, 51, 58]⟩, a4, n4, c4, b4, m4, d4⟩ w' hE h s7 s8
    rw [show recK (KV.p ⟨⟨textL [clr 2], [48, 32, 51, 58]⟩, a4, n4, c4, b4, m4, d4⟩) = (⟨textL [clr 2], []⟩, [clr 2], 0) from filed5] at hRc
    dsimp only [KV.v] at hRc ⊢
    have HRc := hide hRc
    clear hRc
    have hD8 := xD.lt
    have bD8 := xD.below hb8
    have kf8 : KV.fresh (D + 1) ⟨⟨textL [clr 2], [48, 32, 51, 58]⟩, a4, n4, c4, b4, m4, d4⟩ := KV.fresh.mono fr4 (by omega)
    replace bw := belowT bw hb8
    have e0 := bD8.cell 0 _ rfl
    have e1 := bD8.cell 1 _ rfl
    have f0 := bD8.ice 0
    have f1 := bD8.ice 1
    go_upto_region 5 with fail
    have zD := (bD8.set 0 (.slice a4 n4 c4)).set 1 (.slice b4 m4 d4)
    have hbut := ((ButI.refl D (w8)).step 0 (.slice a4 n4 c4)).step 1 (.slice b4 m4 d4)
    generalize ((w8).setCell ⟨D, 0, none⟩ (.slice a4 n4 c4)).setCell ⟨D, 1, none⟩ (.slice b4 m4 d4) = w9 at *
    replace xD := zD
    have ok4' := KV.ok.but ok4 hbut.but kf8 (by omega)
    replace bw := bw.trans (hbut.below hDw)
    clear zD bD8 e0 e1 f0 f1 hb8
    clear ok4
    have e0 := xD.cell 0 _ rfl
    have e1 := xD.cell 1 _ rfl
    have f0 := xD.ice 0
    have f1 := xD.ice 1
    go_wp2_with fail
    refine (HRc.out _ (hE.below bw) ok4').mono ?_
    rintro e wA ⟨⟨⟨p5, a5, n5, c5, b5, m5, d5⟩, la, ln, lc, X, rfl, ep5, ok5, fr5, hRX, hFX, eX⟩, hbA⟩
    obtain rfl : p5 = ⟨textL [clr 2], []⟩ := ep5
    clear HRc e0 e1 f0 f1 ok4'
    dsimp only [KV.v] at eX ⊢
    have hXl : X.length = 1 := by have := congrArg List.length eX; simpa using this
    obtain ⟨x, rfl⟩ : ∃ x, X = [x] := by
      match X, hXl with
      | [x], _ => exact ⟨x, rfl⟩
    have hx : x.p = clr 2 := by simpa using eX
    obtain rfl : ln = 1 := hRX.len.symm.trans rfl
    have hD9 := xD.lt
    have bD9 := xD.below hbA
    have kf9 : KV.fresh (D + 1) ⟨⟨textL [clr 2], []⟩, a5, n5, c5, b5, m5, d5⟩ := KV.fresh.mono fr5 (by omega)
    replace bw := belowT bw hbA
    have e0 := bD9.cell 0 _ rfl
    have e1 := bD9.cell 1 _ rfl
    have f0 := bD9.ice 0
    have f1 := bD9.ice 1
    go_upto_region 6 with fail
    have zD := (bD9.set 0 (.slice a5 n5 c5)).set 1 (.slice b5 m5 d5)
    have hbut := ((ButI.refl D (wA)).step 0 (.slice a5 n5 c5)).step 1 (.slice b5 m5 d5)
    generalize ((wA).setCell ⟨D, 0, none⟩ (.slice a5 n5 c5)).setCell ⟨D, 1, none⟩ (.slice b5 m5 d5) = wB at *
    replace xD := zD
    have ok5' := KV.ok.but ok5 hbut.but kf9 (by omega)
    replace bw := bw.trans (hbut.below hDw)
    clear zD bD9 e0 e1 f0 f1 hbA
    have hRB := hRX.but hbut.but hFX (by omega)
    obtain ⟨lb, lo, rfl, hlb, hcl⟩ := hRB.row.resolve_left (by decide)
    have q1 := hcl 0 x rfl 1 _ rfl
    rw [hx] at q1
    dsimp only [clr] at q1
    have l5 := ok5'.s.len
    have l6 := ok5'.w.len
    dsimp only at l5 l6
    obtain rfl : m5 = 0 := l6.symm
    have hcv := ok5'.s.text (P := Tryz.prog) (src := 22) (dst := 9) Tryz.underlying22 Tryz.underlying5 Tryz.underlying9
    rw [clr_text2] at hcv
    have hbq : ((⟨#[48, 32, 50, 58, 32, 99, 108, 101, 97, 114, 10]⟩ : ByteArray) == ⟨#[48, 32, 50, 58, 32, 99, 108, 101, 97, 114, 10]⟩) = true := beq_t rfl
    have hlc := hRB.le
    have e0 := xD.cell 0 _ rfl
    have e1 := xD.cell 1 _ rfl
    have f0 := xD.ice 0
    have f1 := xD.ice 1
    go_wp2
    go_ret
    exact ⟨rfl, bw⟩

end Go.Proofs.YtcbgkjmcdjpgcaaGreatDoor
