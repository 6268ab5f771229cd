/- The contracts of strings.SplitAfter at a line feed, and of the document's own linesOf; no condition but that the text is short enough, and that the package-level variables are as their texts lay them. -/
import Derived.Test.YtcbgkjmcdjpgcaaGreatDoorDiskSaysG13
import Derived.Test.YtcbgkjmcdjpgcaaGreatDoorDiskSaysG20
import Derived.Test.YtcbgkjmcdjpgcaaGreatDoorDiskSaysG9
import Derived.Lib.AppendZeros
import Derived.Test.YtcbgkjmcdjpgcaaGreatDoorDiskSaysG10
import Derived.Test.YtcbgkjmcdjpgcaaGreatDoorDiskSaysG15
namespace Go.Proofs.YtcbgkjmcdjpgcaaGreatDoor
open Go.RowKit
set_option linter.unusedVariables false
set_option maxRecDepth 100000
set_option linter.unusedSimpArgs false

set_option maxHeartbeats 1000000 in
theorem SplitAfter_c (s : ByteArray) (w : World) (hE : Env w) (hs : s.size ≤ 60000) :
    Calls Tryz.prog 36 #[.string s, .string ⟨#[10]⟩] w fun e w' => ∃ PS : List ByteArray, e = .returned (.slice (some ⟨w.heap.size, 0, none⟩) PS.length PS.length) ∧ w' = w.alloc (.cells (PS.map Value.string).toArray 9) ∧ PS.map (·.data.toList) = lns s.data.toList := by
  obtain ⟨m, hm⟩ := hE.max
  have h1 : 1 ≤ (⟨#[10]⟩ : ByteArray).size := by decide
  have hle := Lib.countB_le ⟨#[10]⟩ h1 s.size s (Nat.le_refl _)
  have hlen := Lib.splitB_all ⟨#[10]⟩ h1 1 _ s rfl
  have c := Tryz.strings_genSplit s ⟨#[10]⟩ 1 (-1) (Lib.countB s ⟨#[10]⟩ + 1) m w (by omega) hm h1 (by decide) (by decide) (by decide) (by rw [if_pos (by decide)]; omega)
  rw [Nat.add_sub_cancel, hlen] at c
  have e2 : Lib.cellsOf (Lib.splitB ⟨#[10]⟩ 1 (Lib.countB s ⟨#[10]⟩) s) (Lib.countB s ⟨#[10]⟩ + 1) = ((Lib.splitB ⟨#[10]⟩ 1 (Lib.countB s ⟨#[10]⟩) s).map Value.string).toArray := by rw [← hlen]; exact Lib.cellsOf_full _
  rw [e2, ← hlen] at c
  have hl := splitB_lns s
  have HL := hide hl
  clear hl hlen e2 hle
  generalize Lib.splitB ⟨#[10]⟩ 1 (Lib.countB s ⟨#[10]⟩) s = PS at *
  have HC := hide c
  clear c
  go_enter Tryz.func36, Tryz.ntmps36
  go_wp2_with fail
  refine HC.out.mono ?_
  rintro e w1 ⟨rfl, rfl⟩
  go_wp2
  go_ret
  exact ⟨PS, rfl, rfl, HL.out⟩

/-- What linesOf answers. -/
def LinesRes (B : Nat) (w' : World) (r : List PR × Nat × Int) (e : Ending) : Prop :=
  ∃ v X, e = .returned (.tuple #[v, .int .i64 (r.2.1 : Int), .int .i64 r.2.2]) ∧ OwnR w' B v X ∧ FromD B X ∧ X.map RV.p = r.1

theorem ba_nil {t : ByteArray} (h : t.data.toList = []) : t = ⟨#[]⟩ := by
  obtain ⟨⟨l⟩⟩ := t
  simp at h
  subst h
  rfl
theorem suffix_no {l : List UInt8} (h : (10 : UInt8) ∉ l) : Lib.hasSuffix l [10] = false := by
  unfold Lib.hasSuffix
  cases e : ([10] : List UInt8).isSuffixOf l with
  | false => rfl
  | true =>
    rw [List.isSuffixOf_iff_suffix] at e
    obtain ⟨t, rfl⟩ := e
    exact absurd (by simp) h
theorem suffix_yes (a : List UInt8) : Lib.hasSuffix (a ++ [10]) [10] = true := by
  unfold Lib.hasSuffix
  rw [List.isSuffixOf_iff_suffix]
  exact ⟨a, rfl⟩
theorem cutN_mem : ∀ {l : List UInt8}, cutN l = none → (10 : UInt8) ∉ l
  | [], _ => by simp
  | b :: l, h => by
    by_cases hb : b = 10
    · simp [cutN, hb] at h
    · simp only [cutN, if_neg hb, Option.map_eq_none_iff] at h
      intro q
      rcases List.mem_cons.1 q with q | q
      · exact hb q.symm
      · exact cutN_mem h q

theorem lns_len : ∀ l : List UInt8, (lns l).length ≤ l.length + 1
  | [] => by simp [lns]
  | b :: l => by
    have ih := lns_len l
    by_cases hb : b = 10
    · simp only [lns, if_pos hb, List.length_cons]
      omega
    · simp only [lns, if_neg hb]
      cases h : lns l with
      | nil => simp
      | cons t ts =>
        rw [h] at ih
        simp only [List.length_cons] at ih ⊢
        omega
/-- A text that is none. -/
theorem ba_ne {t : ByteArray} (h : t.data.toList ≠ []) : (t == (⟨#[]⟩ : ByteArray)) = false ∧ t.toList ≠ [] ∧ t.toList.isEmpty = false ∧ (t.toList == []) = false := by
  have h1 : t.toList ≠ [] := by rw [ByteArray.toList_eq]; exact h
  refine ⟨beq_f fun e => h (by rw [e]), h1, by cases e : t.toList with | nil => exact absurd e h1 | cons a l => rfl, by cases e : t.toList with | nil => exact absurd e h1 | cons a l => rfl⟩

set_option maxRecDepth 100000 in
set_option maxHeartbeats 1000000 in
theorem linesOf_c (s : ByteArray) (most : Nat) (w : World) (hE : Env w) (hs : s.size ≤ 60000) (hmo : most ≤ 80) :
    Calls Tryz.prog 23 #[.string s, .int .i64 most] w fun e w' => LinesRes w.heap.size w' (linesP most s.data.toList) e ∧ Below w.heap.size w w' := by
  obtain ⟨i, hi, hz, hsz, hby⟩ := recInfo
  have hsl : s.data.toList.length ≤ 60000 := by rw [Lib.size_eq] at hs; exact hs
  have HSP := hide (fun w' h => SplitAfter_c s w' h hs)
  generalize s.data.toList = l at *
  go_enter Tryz.func23, Tryz.ntmps23
  go_wp2_with fail
  refine (HSP.out _ hE).mono ?_
  rintro e w1 ⟨PS, rfl, hw1, hPS⟩
  have bw : Below w.heap.size w w1 := by rw [hw1]; exact belowA (Below.refl _ _) _
  have hcl : ∀ i t, PS[i]? = some t → w1.cell? ⟨w.heap.size, i, none⟩ = some (.string t) := fun i t h => by
    rw [hw1, cell_of_row _ _ _ _ _ _ (heap_new w _)]
    simp [h]
  clear hw1 HSP
  have hPl : PS.length ≤ 60001 := by
    have h1 := lns_len l
    rw [← hPS, List.length_map] at h1
    omega
  have HPS := hide hPS
  have HCL := hide hcl
  clear hPS hcl
  go_wp2_with fail
  go_loopw [7, 8, 16] (fun v nn u wr => ∃ (j : Nat) (X : List RV) (r : List UInt8), u = .int .i64 j ∧ nn = .int .i64 ((l.length - r.length : Nat) : Int) ∧ j ≤ PS.length ∧ (PS.drop j).map (·.data.toList) = lns r ∧ OwnR wr w1.heap.size v X ∧ FromD w1.heap.size X ∧ Ahd most l (X.map RV.p) r ∧ Below w1.heap.size w1 wr) (fun _ _ u _ => PS.length - (intOf u).toNat)
  case atStart => exact ⟨0, [], l, rfl, by simp, Nat.zero_le _, by simpa using HPS.out, OwnR.nil _ _, FromD.nil _, Ahd.start _ _, Below.refl _ _⟩
  case round =>
    obtain ⟨j, X, r, rfl, rfl, hj, hdr, hX, hD, hA, hbr⟩ := hrel
    rename_i wr
    have hjl : j < PS.length := by
      rcases Nat.lt_or_ge j PS.length with h | h
      · exact h
      · rw [List.drop_eq_nil_of_le h] at hdr
        exact absurd hdr.symm (lns_ne r)
    obtain ⟨t, ht⟩ : ∃ t, PS[j]? = some t := ⟨PS[j], by simp⟩
    have hdc : PS.drop j = t :: PS.drop (j + 1) := by
      obtain ⟨_, rfl⟩ := List.getElem?_eq_some_iff.1 ht
      exact List.drop_eq_getElem_cons hjl
    rw [hdc, List.map_cons] at hdr
    have hcl := keepc hbr (HCL.out j t ht)
    have hlt' : (j : Int) < (PS.length : Int) := by omega
    have hAl := hA.len
    have hAm := hA.le
    rw [List.length_map] at hAm
    have HA := hide hA
    clear hA ht hdc
    by_cases hr0 : r = []
    · subst hr0
      have e0 : t = ⟨#[]⟩ := ba_nil (by have := hdr; simp [lns] at this; rw [this.1])
      subst e0
      have HD := hide HA.out.done
      have q1 : ((⟨#[]⟩ : ByteArray) == ⟨#[]⟩) = true := beq_t rfl
      clear hdr
      go_wp2
      refine bodyPost_ret (v := .tuple #[u7, .int .i64 ((l.length - ([] : List UInt8).length : Nat) : Int), .int .i64 0]) (by simp [results, Tryz.results23, go_sem]) rfl ⟨⟨u7, X, ?_, hX.mono bw.size, hD.mono bw.size, ?_⟩, belowT bw hbr⟩
      · rw [HD.out]
        simp
      · rw [HD.out]
    · cases hc : cutN r with
      | none =>
        rw [lns_none hc] at hdr
        have htr : t.data.toList = r := by simp at hdr; exact hdr.1
        obtain ⟨q1, q2, q3, q4⟩ := ba_ne (t := t) (by rw [htr]; exact hr0)
        have hsf : Lib.hasSuffix t.data.toList (⟨#[10]⟩ : ByteArray).data.toList = false := by rw [htr]; exact suffix_no (cutN_mem hc)
        have HF := hide (fun w' => Tryz.strings_HasSuffix t ⟨#[10]⟩ w' (by rw [Lib.size_eq, htr]; omega))
        rw [hsf] at HF
        have HD := hide (HA.out.bad hr0 (by rw [firstP_none hc]; decide))
        rw [firstP_none hc] at HD
        clear hdr htr hsf
        go_wp2_with fail
        refine (HF.out _).mono ?_
        rintro e w2 ⟨rfl, rfl⟩
        go_wp2
        refine bodyPost_ret (v := .tuple #[u7, .int .i64 ((l.length - r.length : Nat) : Int), .int .i64 9]) (by simp [results, Tryz.results23, go_sem]) rfl ⟨⟨u7, X, ?_, hX.mono bw.size, hD.mono bw.size, ?_⟩, belowT bw hbr⟩
        · rw [HD.out]
        · rw [HD.out]
      | some p =>
        obtain ⟨a, b⟩ := p
        have hlen := cutN_len hc
        rw [lns_some hc] at hdr
        simp only [List.cons.injEq] at hdr
        obtain ⟨htr, hdb⟩ := hdr
        obtain ⟨q1, q2, q3, q4⟩ := ba_ne (t := t) (by rw [htr]; simp)
        have hts : t.size = a.length + 1 := by rw [Lib.size_eq, htr]; simp
        have hsf : Lib.hasSuffix t.data.toList (⟨#[10]⟩ : ByteArray).data.toList = true := by rw [htr]; exact suffix_yes a
        have HF := hide (fun w' => Tryz.strings_HasSuffix t ⟨#[10]⟩ w' (by omega))
        rw [hsf] at HF
        have hex : (t.extract 0 a.length).data.toList = a := by rw [ext_list, htr]; simp
        have hes : (t.extract 0 a.length).size ≤ 60000 := by rw [Lib.size_eq, hex]; omega
        have hRR := fun w' h => RecRead_c (t.extract 0 a.length) w' h hes
        rw [hex] at hRR
        have HRR := hide hRR
        have hf : firstP r = ((parseR a).1, b, (parseR a).2) := firstP_some hc
        have HDB := hide hdb
        clear hdb htr hsf hex hRR
        have i1 : ((a.length + 1 : Nat) : Int) - 1 = (a.length : Int) := by omega
        have i0 : (a.length : Int) + 1 - 1 = (a.length : Int) := by omega
        have i2 : (t.size : Int) - 1 = (a.length : Int) := by omega
        have i3 : (0 : Int) ≤ (a.length : Int) := by omega
        have i4 : (a.length : Int) ≤ (t.size : Int) := by omega
        have i5 : a.length ≤ t.size := by omega
        go_wp2_with fail
        refine (HF.out _).mono ?_
        rintro e w2 ⟨rfl, rfl⟩
        go_wp2_with fail
        refine (HRR.out _ ((hE.below bw).below hbr)).mono ?_
        rintro e w3 ⟨⟨⟨pX, aX, nX, cX⟩, rfl, ePX, iX, nwX⟩, hb3⟩
        have hX2 := hX.below hb3
        have hap := hX.apart (x := ⟨pX, aX, nX, cX⟩) (Nat.le_refl _) nwX
        have bw3 := belowT hbr hb3
        have hD2 : ∀ y, aX = some y → w1.heap.size ≤ y.block := fun y e => Nat.le_trans hbr.size (nwX y e)
        have HPX : Hid (pX = (parseR a).1) := hide ePX
        clear hb3 nwX ePX
        obtain ⟨q', s', ⟨k', z', m', t', d'⟩⟩ := pX
        dsimp only [RV.v] at iX ⊢
        have HFE : Hid ((firstP r).2.2 = (parseR a).2) := hide (by rw [hf])
        have HFF : Hid (firstP r = ((parseR a).1, b, (parseR a).2)) := hide hf
        clear hf
        generalize (parseR a).2 = er at *
        go_upto_region 10 with fail
        have xV := Lay.made w3 [.int .i64 q', .int .i64 s', .int .i64 k', .int .i64 z', .int .i64 m', .int .i64 t', .slice aX nX cX] 29
        have hb4 : Below w3.heap.size w3 (w3.alloc (.cells [.int .i64 q', .int .i64 s', .int .i64 k', .int .i64 z', .int .i64 m', .int .i64 t', .slice aX nX cX].toArray 29)) := by clear bw3; (repeat (first | exact Below.refl _ _ | assumption | refine Below.drew ?_ | refine below_drewN ?_ _ | refine belowA ?_ _ | refine belowT ?_ (by assumption) | refine Below.setCell ?_ (by first | (simp; done) | (simp; omega)) _))
        replace hX2 := hX2.below hb4
        replace bw3 := belowT bw3 hb4
        replace iX := RV.ok.below iX hb4 (Nat.le_refl _)
        clear hb4
        generalize w3.alloc (.cells [.int .i64 q', .int .i64 s', .int .i64 k', .int .i64 z', .int .i64 m', .int .i64 t', .slice aX nX cX].toArray 29) = w4 at *
        obtain ⟨av, cv, rfl, _, _⟩ := hX2.recs
        by_cases her : er = 0
        · subst her
          by_cases h80 : X.length = most
          · have hge : (most : Int) ≤ (X.length : Int) := by omega
            have HD := hide (HA.out.many HFE.out (by rw [List.length_map]; exact h80))
            clear h80
            go_wp2
            refine bodyPost_ret (v := .tuple #[.slice av X.length cv, .int .i64 ((l.length - r.length : Nat) : Int), .int .i64 2]) (by simp [results, Tryz.results23, go_sem]) rfl ⟨⟨.slice av X.length cv, X, ?_, hX2.mono bw.size, hD.mono bw.size, ?_⟩, belowT bw bw3⟩
            · rw [HD.out]
            · rw [HD.out]
          · have hge : ¬ (most : Int) ≤ (X.length : Int) := by omega
            have hst := HA.out.step HFE.out (by rw [List.length_map]; omega)
            rw [HFF.out] at hst
            dsimp only at hst
            rw [← HPX.out] at hst
            have HST := hide hst
            have hbl := hst.2
            clear hst h80
            have hsum : ((l.length - r.length : Nat) : Int) + ((a.length : Int) + 1) = ((l.length - b.length : Nat) : Int) := by omega
            have g0 := xV.cell 0 _ rfl
            have g1 := xV.cell 1 _ rfl
            have g2 := xV.cell 2 _ rfl
            have g3 := xV.cell 3 _ rfl
            have g4 := xV.cell 4 _ rfl
            have g5 := xV.cell 5 _ rfl
            have g6 := xV.cell 6 _ rfl
            have i0 := xV.ice 0
            have i1 := xV.ice 1
            have i2 := xV.ice 2
            have i3 := xV.ice 3
            have i4 := xV.ice 4
            have i5 := xV.ice 5
            have i6 := xV.ice 6
            go_wp2_with (at_builtin; refine wpList_append_lies _ rfl _ _ 35 rfl w1.heap.size 29 i recZ 7 72 Tryz.underlying35 hi hz hsz hby rfl (by decide) _ _ _ rfl (hX2.below (belowA (Below.refl _ _) _)).own ⟨w4.heap.size, 0, none⟩ 1 1 (RV.cells ⟨⟨q', s', ⟨k', z', m', t', d'⟩⟩, aX, nX, cX⟩) rfl rfl ?hq0 (RV.cells_one _) (by decide) ?hq2 ?hq3 ?hq4 _ rfl ?hq5)
            case hq0 =>
              intro j u hu
              first
                | exact hu
                | (rw [addr_add, Nat.zero_add]
                   exact (Lay.made w4 _ 29).cell j u hu)
            case hq2 => simp only [maxLen]; omega
            case hq3 => omega
            case hq4 => have := bw3.size; simp; omega
            case hq5 =>
              intro g4 cap4 w5 hown4 hg4 hat4 hlt4
              have hbA : Below w4.heap.size w4 (w4.alloc (.cells [.int .i64 q', .int .i64 s', .int .i64 k', .int .i64 z', .int .i64 m', .int .i64 t', .slice aX nX cX].toArray 29)) := belowA (Below.refl _ _) _
              have oN := (hX2.below hbA).snoc (x := ⟨⟨q', s', ⟨k', z', m', t', d'⟩⟩, aX, nX, cX⟩) (RV.ok.below iX hbA (Nat.le_refl _)) hap hown4 hg4 (hat4.imp_right fun e => by rw [e]; simp)
              have b4 : Below w1.heap.size w1 w5 := (belowT bw3 hbA).grown hg4 (by have := bw3.size; simp; omega) (fun k e => (hX2.own.lt k e).1)
              have hs4 := HST.out
              go_wp2
              exact ⟨⟨j + 1, X ++ [⟨⟨q', s', ⟨k', z', m', t', d'⟩⟩, aX, nX, cX⟩], b, by go_num, by first | rfl | (rw [← hsum]; rfl) | go_num, by omega, HDB.out, oN, hD.snoc hD2, by rw [List.map_append]; exact hs4.1, b4⟩, by simp [intOf]; omega⟩
        · have hcb : (er != 0) = true := by simpa using her
          have hcc : (er == 0) = false := by simpa using her
          have HD := hide (HA.out.bad hr0 (by rw [HFE.out]; exact her))
          rw [HFE.out] at HD
          go_wp2
          refine bodyPost_ret (v := .tuple #[.slice av X.length cv, .int .i64 ((l.length - r.length : Nat) : Int), .int .i64 er]) (by simp [results, Tryz.results23, go_sem]) rfl ⟨⟨.slice av X.length cv, X, ?_, hX2.mono bw.size, hD.mono bw.size, ?_⟩, belowT bw bw3⟩
          · rw [HD.out]
          · rw [HD.out]

end Go.Proofs.YtcbgkjmcdjpgcaaGreatDoor

/- Rows of cells that are put behind each other, as slices.Concat does it; plain mathematics, no condition. -/
namespace Go.Proofs.YtcbgkjmcdjpgcaaGreatDoor
open Go.RowKit
set_option linter.unusedVariables false
set_option maxRecDepth 100000
set_option linter.unusedSimpArgs false

/-- A slice's cells, as they are copied. -/
structure Rowed (w : World) (sz : Nat) (a : Option Addr) (n c : Nat) (vs : List Value) : Prop where
  len : vs.length = n * sz
  le : n ≤ c
  max : c ≤ 9223372036854775807
  nil : a = none → c = 0
  src : ∀ ad, a = some ad → ∀ j v, vs[j]? = some v → w.cell? (ad.add j) = some v
  one : ∀ v ∈ vs, v.oneCell' = true
theorem Rowed.below {w w' : World} {sz : Nat} {a : Option Addr} {n c : Nat} {vs : List Value} (h : Rowed w sz a n c vs) (hb : Below w.heap.size w w') : Rowed w' sz a n c vs :=
  ⟨h.len, h.le, h.max, h.nil, fun ad e j v hv => keepc hb (h.src ad e j v hv), h.one⟩
theorem Rowed.nils {w : World} {sz : Nat} {a : Option Addr} {n c : Nat} {vs : List Value} (h : Rowed w sz a n c vs) (e : a = none) : n = 0 ∧ c = 0 := by
  have h1 := h.nil e
  have h2 := h.le
  omega
theorem Byts.rowed {w : World} {a : Option Addr} {n c : Nat} {l : List UInt8} (h : Byts w a n c l) : Rowed w 1 a n c (bytC l) := by
  refine ⟨by rw [bytC_len, h.len, Nat.mul_one], Cel.le h, Cel.max h, Cel.nil h, fun ad e j v hv => ?_, bytC_one l⟩
  have hj := (List.getElem?_eq_some_iff.1 hv).1
  rw [bytC_len, h.len] at hj
  obtain ⟨ad', e', hs⟩ := Cel.src h (by omega)
  rw [e] at e'
  cases e'
  exact hs j v hv
theorem Recs.rowed {w : World} {a : Option Addr} {n c : Nat} {X : List RV} (h : Recs w a n c X) : Rowed w 7 a n c (rcells X) := by
  refine ⟨by rw [rcells_len, h.len], h.le, h.max, h.nil, fun ad e j v hv => ?_, rcells_one X⟩
  have hj := (List.getElem?_eq_some_iff.1 hv).1
  rw [rcells_len, h.len] at hj
  have hlen := h.len
  rcases h.row with h0 | ⟨b, off, ha, hlt, hc⟩
  · omega
  · rw [ha] at e
    cases e
    obtain ⟨x, hx⟩ : ∃ x, X[j / 7]? = some x := ⟨X[j / 7]'(by omega), by simp⟩
    obtain ⟨u, hu⟩ : ∃ u, x.cells[j % 7]? = some u := ⟨x.cells[j % 7]'(by rw [RV.cells_len]; omega), by simp⟩
    have h1 := rcells_get X (j / 7) x hx (j % 7) u hu
    rw [show j / 7 * 7 + j % 7 = j by omega, hv] at h1
    cases h1
    rw [addr_add, show off + j = off + j / 7 * 7 + j % 7 by omega]
    exact hc (j / 7) x hx (j % 7) v hu

theorem append_zero {P : Program} (w : World) (t ty e : TypeId) (i : TypeInfo) (ht : P.underlying t = some (.slice e)) (hi : P.info? e = some i) (ao : Option Addr) (c : Nat) :
    (Builtin.append_ #[t, t] ty #[.slice none 0 0, .slice ao 0 c]).run P w = .ok (.slice none 0 0) w := by
  cases ao <;> simp [Builtin.append_, run_underlying ht, sizeOf, typeInfo, hi, Builtin.lenOf, Builtin.firstCells, loadCells, loadCellsFrom]

/-- Bytes that are owned. -/
theorem Byts.of_own {w : World} {base : Nat} {v : Value} {n : Nat} {l : List UInt8} {t : TypeId} (h : w.ownsRow base t 1 v n (bytC l)) : ∃ a c, v = .slice a n c ∧ Byts w a n c l ∧ ∀ y, a = some y → base ≤ y.block := by
  obtain ⟨hlen, h⟩ := h
  rw [bytC_len, Nat.mul_one] at hlen
  rcases h with ⟨rfl, h0⟩ | ⟨g, cap, cur, rfl, hb, hg, hn, hm, hs, hc⟩
  · subst h0
    rw [List.length_eq_zero_iff] at hlen
    subst hlen
    exact ⟨none, 0, rfl, Byts.nilSlice w, fun x h => by cases h⟩
  · refine ⟨_, cap, rfl, ⟨by rw [bytC_len, hlen], hn, by simp [maxLen] at hm; omega, fun e => (by cases e), .inr ⟨g, 0, rfl, (Array.getElem?_eq_some_iff.1 hg).1, fun i v hv => ?_⟩⟩, fun x h => by cases h; exact hb⟩
    rw [cell_of_row w g _ _ _ _ hg, Nat.zero_add]
    have hi := (List.getElem?_eq_some_iff.1 hv).1
    rw [bytC_len] at hi
    rw [← hc, List.getElem?_take, if_pos (by omega)] at hv
    simpa using hv
/-- Records that are owned, and whose data were there before. -/
theorem OwnR.of_own {w w' : World} {v : Value} {n : Nat} {X : List RV} (h : w'.ownsRow w.heap.size 29 7 v n (rcells X)) (hb : Below w.heap.size w w') (hok : ∀ x ∈ X, x.ok w) : OwnR w' w.heap.size v X ∧ X.length = n := by
  have hl := h.1
  rw [rcells_len] at hl
  have hn : X.length = n := by omega
  subst hn
  exact ⟨⟨h, fun x hx => (hok x hx).below hb (Nat.le_refl _), fun x hx g e => (hok x hx).off (h.lt g e).1⟩, rfl⟩

end Go.Proofs.YtcbgkjmcdjpgcaaGreatDoor

/- The contract of slices.Concat on two lists of bytes; under a condition on their lengths alone. -/
namespace Go.Proofs.YtcbgkjmcdjpgcaaGreatDoor
open Go.RowKit
set_option linter.unusedVariables false
set_option maxRecDepth 100000
set_option linter.unusedSimpArgs false

theorem u8Info : ∃ i, Tryz.prog.info? 5 = some i ∧ i.zero = some (.int .u8 0) ∧ i.size = 1 ∧ i.bytes = 1 := by
  obtain ⟨i, hi, h⟩ := Option.map_eq_some_iff.1 infoU8
  simp only [Prod.mk.injEq] at h
  exact ⟨i, hi, h.1, h.2.1, h.2.2⟩

set_option maxHeartbeats 1000000 in
theorem UGrow_c (n : Nat) (w : World) (hn : 0 < n) (hn2 : n ≤ 1000000) :
    Calls Tryz.prog 41 #[.slice none 0 0, .int .i64 n] w fun e w' => (∃ q cap, e = .returned (.slice (some ⟨q, 0, none⟩) 0 cap) ∧ n ≤ cap ∧ w.heap.size ≤ q ∧ w'.ownsRow w.heap.size 5 1 (.slice (some ⟨q, 0, none⟩) 0 cap) 0 []) ∧ Below w.heap.size w w' := by
  obtain ⟨i, hi, hz, hs, hb⟩ := u8Info
  have hn' : (0 : Int) < (n : Int) := by omega
  go_enter Tryz.func41, Tryz.ntmps41
  go_wp2_with (at_builtin; go_loud (refine Lib.wpList_append_run _ rfl _ _ _ _ rfl _ _ rfl rfl _ _ (Lib.run_append_nil_zeros _ 22 3 _ 5 i (.int .u8 0) .i64 .i64 Tryz.underlying22 Tryz.underlying3 hi hz n hn (by omega) (by omega) (by rw [hb]; omega)) ?_))
  go_ret
  have hge := grownCap_ge w n 0 5
  have hle := grownCap_le_maxLen w n 0 5 (by simp [maxLen]; omega)
  generalize grownCap w n 0 5 = cap at *
  refine ⟨⟨_, cap, rfl, hge, Nat.le_refl _, ⟨rfl, .inr ⟨w.heap.size, cap, _, rfl, Nat.le_refl _, heap_new w _, Nat.zero_le _, hle, ?_, by simp⟩⟩⟩, by (repeat (first | exact Below.refl _ _ | assumption | refine Below.drew ?_ | refine below_drewN ?_ _ | refine belowA ?_ _ | refine belowT ?_ (by assumption) | refine Below.setCell ?_ (by first | (simp; done) | (simp; omega)) _))⟩
  have hzc : (Value.cells (.int .u8 0)).size = 1 := rfl
  simp [size_zeroCells, hzc]
  omega

set_option maxHeartbeats 1000000 in
theorem UGrow_z (w : World) : Calls Tryz.prog 41 #[.slice none 0 0, .int .i64 0] w fun e w' => e = .returned (.slice none 0 0) ∧ w' = w := by
  go_enter Tryz.func41, Tryz.ntmps41
  go_wp2
  go_ret
  exact ⟨rfl, rfl⟩

set_option maxHeartbeats 2000000 in
theorem UConcat_z (g : Nat) (a : Option Addr) (c : Nat) (b : Option Addr) (d : Nat) (w : World)
    (hg0 : w.cell? ⟨g, 0, none⟩ = some (.slice a 0 c)) (hg1 : w.cell? ⟨g, 1, none⟩ = some (.slice b 0 d)) :
    Calls Tryz.prog 28 #[.slice (some ⟨g, 0, none⟩) 2 2] w fun e w' => e = .returned (.slice none 0 0) ∧ w' = w := by
  obtain ⟨i, hi, hz, hs, hb⟩ := u8Info
  go_enter Tryz.func28, Tryz.ntmps28
  go_wp2
  refine wp_loop_rounds 3 ?_
  rw [rounds_succ]
  go_wp2
  rw [rounds_succ]
  go_wp2
  rw [rounds_succ]
  go_wp2_with fail
  refine (UGrow_z _).mono ?_
  rintro e w1 ⟨rfl, rfl⟩
  go_wp2_with fail
  refine wp_loop_rounds 3 ?_
  rw [rounds_succ]
  go_wp2_with (at_builtin; go_loud (refine Lib.wpList_append_run _ rfl _ _ _ _ rfl _ _ rfl rfl _ _ (append_zero _ 22 _ 5 i Tryz.underlying22 hi a c) ?_))
  rw [rounds_succ]
  go_wp2_with (at_builtin; go_loud (refine Lib.wpList_append_run _ rfl _ _ _ _ rfl _ _ rfl rfl _ _ (append_zero _ 22 _ 5 i Tryz.underlying22 hi b d) ?_))
  rw [rounds_succ]
  go_wp2
  go_ret
  exact ⟨rfl, rfl⟩

set_option maxHeartbeats 2000000 in
theorem UConcat_p (g : Nat) (a : Option Addr) (n c : Nat) (l : List Value) (b : Option Addr) (m d : Nat) (k : List Value) (w : World) (h1 : Rowed w 1 a n c l) (h2 : Rowed w 1 b m d k) (h0 : 0 < n + m) (hnm : n + m ≤ 1000000)
    (hg0 : w.cell? ⟨g, 0, none⟩ = some (.slice a n c)) (hg1 : w.cell? ⟨g, 1, none⟩ = some (.slice b m d)) :
    Calls Tryz.prog 28 #[.slice (some ⟨g, 0, none⟩) 2 2] w fun e w' => (∃ v, e = .returned v ∧ w'.ownsRow w.heap.size 5 1 v (n + m) (l ++ k)) ∧ Below w.heap.size w w' := by
  obtain ⟨i, hi, hz, hs, hb⟩ := u8Info
  go_enter Tryz.func28, Tryz.ntmps28
  go_wp2
  refine wp_loop_rounds 3 ?_
  rw [rounds_succ]
  go_wp2
  rw [rounds_succ]
  go_wp2
  rw [rounds_succ]
  go_wp2_with fail
  rw [show (n : Int) + (m : Int) = ((n + m : Nat) : Int) by omega]
  refine (UGrow_c (n + m) _ h0 hnm).mono ?_
  rintro e w1 ⟨⟨q, cap, rfl, hcap, hq, ho⟩, hb1⟩
  have hq' : ∀ k, some q = some k → w.heap.size ≤ k := by intro k e; cases e; exact hq
  have hc0 := keepc hb1 hg0
  have i1 := h1.below hb1
  go_wp2_with fail
  refine wp_loop_rounds 3 ?_
  rw [rounds_succ]
  go_wp2_with (at_builtin; refine wpList_append_fits_any _ rfl _ _ 22 rfl w.heap.size 5 i 1 Tryz.underlying22 hi hs q 0 cap [] rfl ho a n c l rfl ?ha1 ?ha2 ?ha3 h1.one ?ha4 ?ha5)
  case ha1 => exact h1.len
  case ha2 => exact h1.nils
  case ha3 => exact i1.src
  case ha4 => omega
  case ha5 =>
    intro w2 ho2 hg2
    have b2 : Below w.heap.size w w2 := hb1.grown hg2 hb1.size hq'
    have hd1 := keepc b2 hg1
    have i2 := h2.below b2
    go_wp2
    rw [rounds_succ]
    go_wp2_with (at_builtin; refine wpList_append_fits_any _ rfl _ _ 22 rfl w.heap.size 5 i 1 Tryz.underlying22 hi hs q n cap l rfl ho2 b m d k rfl ?hb1 ?hb2 ?hb3 h2.one ?hb4 ?hb5)
    case hb1 => exact h2.len
    case hb2 => exact h2.nils
    case hb3 => exact i2.src
    case hb4 => omega
    case hb5 =>
      intro w3 ho3 hg3
      have b3 : Below w.heap.size w w3 := b2.grown hg3 b2.size hq'
      go_wp2
      rw [rounds_succ]
      go_wp2
      go_ret
      exact ⟨⟨_, rfl, ho3⟩, b3⟩

theorem UConcat_c (g : Nat) (a : Option Addr) (n c : Nat) (l : List Value) (b : Option Addr) (m d : Nat) (k : List Value) (w : World) (h1 : Rowed w 1 a n c l) (h2 : Rowed w 1 b m d k) (hnm : n + m ≤ 1000000)
    (hg0 : w.cell? ⟨g, 0, none⟩ = some (.slice a n c)) (hg1 : w.cell? ⟨g, 1, none⟩ = some (.slice b m d)) :
    Calls Tryz.prog 28 #[.slice (some ⟨g, 0, none⟩) 2 2] w fun e w' => (∃ v, e = .returned v ∧ w'.ownsRow w.heap.size 5 1 v (n + m) (l ++ k)) ∧ Below w.heap.size w w' := by
  by_cases h0 : 0 < n + m
  · exact UConcat_p g a n c l b m d k w h1 h2 h0 hnm hg0 hg1
  · obtain ⟨rfl, rfl⟩ : n = 0 ∧ m = 0 := by omega
    obtain rfl : l = [] := List.eq_nil_of_length_eq_zero (by simpa using h1.len)
    obtain rfl : k = [] := List.eq_nil_of_length_eq_zero (by simpa using h2.len)
    refine (UConcat_z g a c b d w hg0 hg1).mono ?_
    rintro e w' ⟨rfl, rfl⟩
    exact ⟨⟨_, rfl, World.ownsRow_nil _ _ _ _⟩, Below.refl _ _⟩


end Go.Proofs.YtcbgkjmcdjpgcaaGreatDoor

/- The contracts of the document's own CheckDisk, SameDisk, Synced, PutOn; no condition but that the arguments are read, and that the package-level variables are as their texts lay them. -/
namespace Go.Proofs.YtcbgkjmcdjpgcaaGreatDoor
open Go.RowKit
set_option linter.unusedVariables false
set_option maxRecDepth 100000
set_option linter.unusedSimpArgs false

set_option maxRecDepth 100000 in
set_option maxHeartbeats 1000000 in
theorem CheckDisk_c (x : KV) (w : World) (hE : Env w) (h : x.ok w) (hn : x.n ≤ 140737488355328) (hm : x.m ≤ 140737488355328) :
    Calls Tryz.prog 8 #[x.v] w fun e w' => e = .returned (.int .i64 (checkK x.p)) ∧ Below w.heap.size w w' := by
  have hl1 := h.s.len
  have hl2 := h.w.len
  obtain ⟨⟨s, t⟩, a, n, c, b, m, d⟩ := x
  have hs : Byts w a n c s := h.s
  dsimp only [KV.v] at *
  have HC : Hid (checkK ⟨s, t⟩ = if 60000 < n + m then 2 else (linesP 80 s).2.2) := hide (by unfold checkK; simp only [hl1, hl2])
  clear h
  by_cases h1 : 60000 < n
  · have h1' : (60000 : Int) < (n : Int) := by omega
    rw [if_pos (by omega)] at HC
    go_enter Tryz.func8, Tryz.ntmps8
    go_wp2
    go_ret
    exact ⟨ret_int HC.out.symm, by (repeat (first | exact Below.refl _ _ | assumption | refine Below.drew ?_ | refine below_drewN ?_ _ | refine belowA ?_ _ | refine belowT ?_ (by assumption) | refine Below.setCell ?_ (by first | (simp; done) | (simp; omega)) _))⟩
  · have h1' : ¬ (60000 : Int) < (n : Int) := by omega
    by_cases h2 : 60000 < n + m
    · have h2' : (60000 : Int) - (n : Int) < (m : Int) := by omega
      rw [if_pos h2] at HC
      go_enter Tryz.func8, Tryz.ntmps8
      go_wp2
      go_ret
      exact ⟨ret_int HC.out.symm, by (repeat (first | exact Below.refl _ _ | assumption | refine Below.drew ?_ | refine below_drewN ?_ _ | refine belowA ?_ _ | refine belowT ?_ (by assumption) | refine Below.setCell ?_ (by first | (simp; done) | (simp; omega)) _))⟩
    · have h2' : ¬ (60000 : Int) - (n : Int) < (m : Int) := by omega
      rw [if_neg h2] at HC
      have bw : Below w.heap.size w (w.alloc (.cells #[.slice a n c, .slice b m d] 24)) := by (repeat (first | exact Below.refl _ _ | assumption | refine Below.drew ?_ | refine below_drewN ?_ _ | refine belowA ?_ _ | refine belowT ?_ (by assumption) | refine Below.setCell ?_ (by first | (simp; done) | (simp; omega)) _))
      have hcv := (hs.below bw (Nat.le_refl _)).text (P := Tryz.prog) (src := 22) (dst := 9) Tryz.underlying22 Tryz.underlying5 Tryz.underlying9
      have hsz : (⟨s.toArray⟩ : ByteArray).size ≤ 60000 := by rw [Lib.size_eq]; show s.length ≤ 60000; omega
      have hLi := fun w' h => linesOf_c ⟨s.toArray⟩ 80 w' h hsz (Nat.le_refl _)
      rw [show (⟨s.toArray⟩ : ByteArray).data.toList = s by simp] at hLi
      have HLi := hide hLi
      clear hLi
      go_enter Tryz.func8, Tryz.ntmps8
      go_wp2_with fail
      refine (HLi.out _ (hE.below bw)).mono ?_
      rintro e w1 ⟨⟨v, X, rfl, _, _, _⟩, hb1⟩
      go_wp2
      go_ret
      exact ⟨ret_int HC.out.symm, by (repeat (first | exact Below.refl _ _ | assumption | refine Below.drew ?_ | refine below_drewN ?_ _ | refine belowA ?_ _ | refine belowT ?_ (by assumption) | refine Below.setCell ?_ (by first | (simp; done) | (simp; omega)) _))⟩

end Go.Proofs.YtcbgkjmcdjpgcaaGreatDoor
