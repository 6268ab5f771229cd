/- The contract of the document's own CmdRead; no condition but that the text is short enough, and the package-level variables are as their texts lay them. -/
import Derived.Test.YtcbgkjmcdjpgcaaGreatDoorDiskSaysG12
namespace Go.Proofs.YtcbgkjmcdjpgcaaGreatDoor
open Go.RowKit
set_option linter.unusedVariables false
set_option maxRecDepth 100000
set_option linter.unusedSimpArgs false

def ReadRes (B : Nat) (w' : World) (e : Ending) (r : PC × Int) : Prop := ∃ a n c, e = .returned (.tuple #[cmdV a n c r.1, .int .i64 r.2]) ∧ Ints w' a n c r.1.d ∧ ∀ x : Addr, a = some x → B ≤ x.block
theorem ReadRes.zero {B : Nat} {w' : World} {e : Ending} {x : Int} (h : e = .returned (.tuple #[cmdV none 0 0 zeroC, .int .i64 x])) : ReadRes B w' e (zeroC, x) := ⟨none, 0, 0, h, Ints.nilSlice _, fun x e => by cases e⟩

theorem readBad_c (x : Int) (w : World) : Calls Tryz.prog 80 #[.int .i64 x] w fun e w' => e = .returned (.tuple #[.agg #[.int .i64 0, .int .i64 0, .int .i64 0, .int .i64 0, .slice none 0 0], .int .i64 x]) ∧ Below w.heap.size w w' := by
  go_enter Tryz.func80, Tryz.ntmps80
  go_wp2
  exact bodyPost_ret (v := .tuple #[.agg #[.int .i64 0, .int .i64 0, .int .i64 0, .int .i64 0, .slice none 0 0], .int .i64 x]) (by simp [results, Tryz.results80, go_sem]) rfl ⟨rfl, by (repeat (first | exact Below.refl _ _ | assumption | refine Below.drew ?_ | refine below_drewN ?_ _ | refine belowA ?_ _ | refine belowT ?_ (by assumption) | refine Below.setCell ?_ (by first | (simp; done) | (simp; omega)) _))⟩

theorem ParseInt_ok_c (s : ByteArray) (hs : s.size ≤ 281474976710656) (v : Int) (h : Lib.parseIntB 64 s.data.toList = .ok v) (w : World) :
    Calls Tryz.prog 78 #[.string s, .int .i64 10, .int .i64 64] w fun e w' => e = .returned (.tuple #[.int .i64 v, .nilIface]) ∧ Below w.heap.size w w' := by
  refine (Tryz.strconv_ParseInt_10_at64_ok s (by omega) v h w).mono ?_
  rintro e w' ⟨rfl, rfl | ⟨t, rfl⟩⟩
  · exact ⟨rfl, Below.refl _ _⟩
  · exact ⟨rfl, Lib.bytesWorld_below _ _ _⟩
theorem ParseInt_bad_c (s : ByteArray) (hs : s.size ≤ 281474976710656) (h : ∀ v, Lib.parseIntB 64 s.data.toList ≠ .ok v) (w : World) (hE : Env w) :
    Calls Tryz.prog 78 #[.string s, .int .i64 10, .int .i64 64] w fun e w' => (∃ v N, e = .returned (.tuple #[.int .i64 v, .iface 148 (.pointer (some ⟨N, 0, none⟩))])) ∧ Below w.heap.size w w' := by
  cases ha : Lib.parseIntB 64 s.data.toList with
  | ok v => exact absurd ha (h v)
  | «syntax» =>
    obtain ⟨t, p, hp⟩ := hE.syn
    refine (Tryz.strconv_ParseInt_10_at64_syntax s hs ha _ w hp (.inr ⟨_, _, rfl⟩)).mono ?_
    rintro e w' ⟨N, rfl, _, _, hb⟩
    exact ⟨⟨_, N, rfl⟩, hb⟩
  | range =>
    obtain ⟨t, p, hp⟩ := hE.rng
    refine (Tryz.strconv_ParseInt_10_at64_range s hs ha _ w hp (.inr ⟨_, _, rfl⟩)).mono ?_
    rintro e w' ⟨N, rfl, _, _, hb⟩
    exact ⟨⟨_, N, rfl⟩, hb⟩
theorem FormatInt_c (v : Int) (h0 : -9223372036854775808 ≤ v ∧ v ≤ 9223372036854775807) (w : World) (hE : Env w) :
    Calls Tryz.prog 79 #[.int .i64 v, .int .i64 10] w fun e w' => e = .returned (.string ⟨(Lib.itoa v).toArray⟩) ∧ Below w.heap.size w w' := by
  refine (Tryz.strconv_FormatInt_10 v h0.1 h0.2 w hE.tab).mono ?_
  rintro e w' ⟨rfl, k, os, rfl⟩
  exact ⟨rfl, below_grow _ _ _⟩
theorem Cut_c (s : ByteArray) (hs : s.size ≤ 60000) (w : World) (hE : Env w) :
    Calls Tryz.prog 70 #[.string s, .string ⟨#[32]⟩] w fun e w' => (∃ (t r : ByteArray) (f : Bool), e = .returned (.tuple #[.string t, .string r, .bool f]) ∧ toks s.data.toList = t.data.toList :: (if f then toks r.data.toList else []) ∧ t.size ≤ 60000 ∧ r.size ≤ 60000) ∧ Below w.heap.size w w' := by
  obtain ⟨m, hm⟩ := hE.max
  refine (Tryz.strings_Cut s ⟨#[32]⟩ m w (by omega) hm).mono ?_
  rintro e w' ⟨rfl, n, rfl⟩
  have h := cut_toks s.data.toList
  rw [Lib.size_eq] at hs
  refine ⟨⟨_, _, _, rfl, by simpa using h.1, ?_, ?_⟩, by (repeat (first | exact Below.refl _ _ | assumption | refine Below.drew ?_ | refine below_drewN ?_ _ | refine belowA ?_ _ | refine belowT ?_ (by assumption) | refine Below.setCell ?_ (by first | (simp; done) | (simp; omega)) _))⟩
  · rw [Lib.size_eq]
    have := h.2.2
    simp
    omega
  · rw [Lib.size_eq]
    have := h.2.1
    simp
    omega

theorem OwnI.below {w w' : World} {base : Nat} {v : Value} {l : List Int} (h : OwnI w base v l) (hb : Below w.heap.size w w') : OwnI w' base v l := by
  obtain ⟨h1, h⟩ := h
  refine ⟨h1, ?_⟩
  rcases h with h | ⟨g, cap, cur, e, hg, hh, r⟩
  · exact .inl h
  · exact .inr ⟨g, cap, cur, e, hg, (hb.block _ ((Array.getElem?_eq_some_iff.1 hh).1)).trans hh, r⟩

def restOf (x y : Value) : Nat := match x, y with
  | .string r, .bool true => (toks r.data.toList).length
  | _, _ => 0

theorem toks_len : ∀ l : List UInt8, (toks l).length ≤ l.length + 1
  | [] => by simp [toks]
  | c :: r => by
    have ih := toks_len r
    unfold toks
    split
    · simp; omega
    · split
      · simp
      · rename_i h
        rw [h] at ih
        simp at ih ⊢
        omega

theorem kind_cls (k : Nat) (h1 : 1 ≤ k) (h2 : k ≤ 12) : (hasS k = ⟨#[122]⟩ ∧ hasL k = [true, false, false] ∧ hasD k = false) ∨ (hasS k = ⟨#[122, 100]⟩ ∧ hasL k = [true, false, false] ∧ hasD k = true) ∨ (hasS k = ⟨#[122, 97, 100]⟩ ∧ hasL k = [true, true, false] ∧ hasD k = true) ∨ (hasS k = ⟨#[122, 97, 110]⟩ ∧ hasL k = [true, true, true] ∧ hasD k = false) ∨ (hasS k = ⟨#[110]⟩ ∧ hasL k = [false, false, true] ∧ hasD k = false) ∨ (hasS k = ⟨#[]⟩ ∧ hasL k = [false, false, false] ∧ hasD k = false) := by
  rcases (by omega : k = 1 ∨ k = 2 ∨ k = 3 ∨ k = 4 ∨ k = 5 ∨ k = 6 ∨ k = 7 ∨ k = 8 ∨ k = 9 ∨ k = 10 ∨ k = 11 ∨ k = 12) with rfl | rfl | rfl | rfl | rfl | rfl | rfl | rfl | rfl | rfl | rfl | rfl <;> simp [hasS, hasL, hasZ, hasA, hasN, hasD]

set_option maxRecDepth 100000 in
set_option maxHeartbeats 4000000 in
theorem CmdRead_c (s : ByteArray) (w : World) (hE : Env w) (hs : s.size ≤ 60000) :
    Calls Tryz.prog 56 #[.string s] w fun e w' => ReadRes w.heap.size w' e (parseC s) ∧ Below w.heap.size w w' := by
  obtain ⟨i, hi, hzr, hsz, hby⟩ := intInfo
  have HR : Hid (parseC s = match readC (pieces s) with
    | none => (zeroC, 1)
    | some b => if checkC b = 0 then (b, 0) else (zeroC, checkC b)) := hide (by unfold parseC; rw [if_neg (by omega)]; cases readC (pieces s) <;> rfl)
  have HPC := hide (pieces_toks s)
  have HTL : Hid ((toks s.data.toList).length ≤ 60001) := hide (by have := toks_len s.data.toList; rw [Lib.size_eq] at hs; omega)
  go_enter Tryz.func56, Tryz.ntmps56
  go_upto_region 2 with fail
  have r0 : (w.alloc (.cells #[.int .i64 0, .int .i64 0, .int .i64 0, .int .i64 0, .slice none 0 0] 27)).heap[w.heap.size]? = some (.cells #[.int .i64 0, .int .i64 0, .int .i64 0, .int .i64 0, .slice none 0 0] 27 (0, 0)) := heap_new _ _
  have bw : Below w.heap.size w (w.alloc (.cells #[.int .i64 0, .int .i64 0, .int .i64 0, .int .i64 0, .slice none 0 0] 27)) := by (repeat (first | exact Below.refl _ _ | assumption | refine Below.drew ?_ | refine below_drewN ?_ _ | refine belowA ?_ _ | refine belowT ?_ (by assumption) | refine Below.setCell ?_ (by first | (simp; done) | (simp; omega)) _))
  have l0 : w.heap.size < (w.alloc (.cells #[.int .i64 0, .int .i64 0, .int .i64 0, .int .i64 0, .slice none 0 0] 27)).heap.size := by simp
  generalize w.alloc (.cells #[.int .i64 0, .int .i64 0, .int .i64 0, .int .i64 0, .slice none 0 0] 27) = w1 at *
  have R0 := hide r0
  clear r0
  go_wp2_with fail
  refine (Cut_c s hs _ (hE.below bw)).mono ?_
  rintro e w2 ⟨⟨t0, rest, more, rfl, htk, ht0, hr0⟩, hb2⟩
  have HTK := hide htk
  clear htk
  have E2 := (hE.below bw).below hb2
  go_wp2_with fail
  refine (words_b _ E2).mono ?_
  rintro e w3 ⟨rfl, hc3, hb3⟩
  go_wp2_with fail
  refine (Tryz.slices_Index_string w2.heap.size 0 13 13 wordsL t0 _ (by decide) (by decide) (fun j hj => by
    have hj' : j < 13 := hj
    rw [Nat.zero_add, hc3 j (by omega)]
    simp [wordsL, List.getD, hj'])).mono ?_
  rintro e w3 ⟨rfl, rfl⟩
  have hb23 := hb2.trans (hb3.mono hb2.size)
  have R3 : Hid (w3.heap[w.heap.size]? = some (.cells #[.int .i64 0, .int .i64 0, .int .i64 0, .int .i64 0, .slice none 0 0] 27 (0, 0))) := hide ((hb23.block _ l0).trans R0.out)
  have bw3 : Below w.heap.size w w3 := bw.trans (hb23.mono (Nat.le_of_lt l0))
  have l3 : w.heap.size < w3.heap.size := Nat.lt_of_lt_of_le l0 hb23.size
  rw [show List.take 13 wordsL = wordsL from rfl]
  clear hb2 hb3 hb23 hc3 R0 bw l0 E2
  rcases idx_kind t0 with ⟨k, hk, hix⟩ | ⟨hk, hix⟩
  · obtain ⟨_, hk1, hk2⟩ := kindOfS_some hk
    have k1 : ¬ (k : Int) < 1 := by omega
    have HRK : Hid (∀ ts : List (List UInt8), toks s.data.toList = t0.data.toList :: ts → parseC s = match nums ts with
      | none => (zeroC, 1)
      | some l => match layC k l with
        | none => (zeroC, 1)
        | some b => if checkC b = 0 then (b, 0) else (zeroC, checkC b)) := hide (by
      intro ts hts
      rw [HR.out]
      have h1 := HPC.out
      rw [hts] at h1
      cases hp : pieces s with
      | nil => rw [hp] at h1; simp at h1
      | cons u us =>
        rw [hp] at h1
        simp only [List.map_cons, List.cons.injEq] at h1
        have e1 : u = t0 := bytes_eq h1.1
        subst e1
        simp only [readC, hk, h1.2]
        cases nums ts with
        | none => rfl
        | some l => cases layC k l <;> rfl)
    rw [hix]
    have HTK2 := hide (HRK.out _ HTK.out)
    have HTS : Hid ((if more then toks rest.data.toList else []).length ≤ 60001) := hide (by
      have h1 := HTL.out
      rw [HTK.out] at h1
      simp only [List.length_cons] at h1
      omega)
    clear HR HPC HTL HRK HTK hix hk
    have HG : Hid (∃ ts, ts = (if more then toks rest.data.toList else [])) := hide ⟨_, rfl⟩
    obtain ⟨ts, hts⟩ := HG.out
    rw [← hts] at HTK2 HTS
    go_wp2
    go_loopw [6, 7, 9] (fun x y v wq => ∃ (wr : World) (dn : List (List UInt8)) (acc : List Int) (r : ByteArray) (f : Bool), wr = wq ∧ x = .string r ∧ y = .bool f ∧ r.size ≤ 60000 ∧ nums dn = some acc ∧ ts = dn ++ (if f then toks r.data.toList else []) ∧ OwnI wr w3.heap.size v acc ∧ Below w3.heap.size w3 wr) (fun x y _ _ => restOf x y)
    case atStart => exact ⟨_, [], [], rest, more, rfl, rfl, rfl, hr0, rfl, by simpa using hts, nil_own _ _, Below.refl _ _⟩
    case round =>
      obtain ⟨wr, dn, acc, r, f, rfl, rfl, rfl, hr, hnd, htd, hown, hbr⟩ := hrel
      have HND := hide hnd
      have HTD := hide htd
      clear hnd htd
      cases f
      · obtain ⟨an, cn, rfl, inn, hbase⟩ := hown.ints (nums_wf HND.out)
        have HP : Hid (parseC s = match layC k acc with
          | none => (zeroC, 1)
          | some b => if checkC b = 0 then (b, 0) else (zeroC, checkC b)) := hide (by
          have htd : ts = dn := by
            have := HTD.out
            simpa using this
          rw [HTK2.out, htd, HND.out]
          all_goals (cases layC k acc <;> rfl))
        have hcls := kind_cls k hk1 hk2
        have Er := (hE.below bw3).below hbr
        have hal : acc.length ≤ 60001 := by
          have h1 := nums_len HND.out
          have h2 := HTS.out
          have htd : ts = dn := by
            have := HTD.out
            simpa using this
          rw [htd] at h2
          omega
        clear HTK2 HTS HTD HND hown
        go_wp2_with fail
        refine (has_c k _ hk2).mono ?_
        rintro e w10 ⟨rfl, hb10'⟩
        have hb10 : Below w3.heap.size w3 w10 := hbr.trans (hb10'.mono hbr.size)
        replace inn := inn.below hb10' (Nat.le_refl _)
        replace Er := Er.below hb10'
        clear hb10' hbr
        rcases hcls with ⟨hS, hL, hD⟩ | ⟨hS, hL, hD⟩ | ⟨hS, hL, hD⟩ | ⟨hS, hL, hD⟩ | ⟨hS, hL, hD⟩ | ⟨hS, hL, hD⟩
        · rw [hS]
          have htr : (Lib.trimSuffix (⟨#[122]⟩ : ByteArray).data.toList (⟨#[100]⟩ : ByteArray).data.toList) = [122] := by decide
          have hsf : Lib.hasSuffix (⟨#[122]⟩ : ByteArray).data.toList (⟨#[100]⟩ : ByteArray).data.toList = false := by decide
          go_wp2_with fail
          refine (Tryz.strings_TrimSuffix ⟨#[122]⟩ ⟨#[100]⟩ _ (by decide)).mono ?_
          rintro e w11 ⟨rfl, rfl⟩
          rw [htr]
          by_cases hlt : acc.length < 1
          · have hlt' : (acc.length : Int) < 1 := by omega
            have hlay : layC k acc = none := by
              unfold layC
              rw [hL]
              rcases acc with _ | ⟨x, _ | ⟨y, _ | ⟨u, acc⟩⟩⟩ <;> first | (simp [lay3]; done) | (exfalso; simp at hlt; done) | (exfalso; simp at hlt; omega)
            go_wp2_with (go_at_call 37; refine (Tryz.strings_HasSuffix ⟨#[122]⟩ ⟨#[100]⟩ _ (by decide)).mono ?_; rintro e w13 ⟨rfl, rfl⟩; rw [hsf])
            refine (readBad_c _ _).mono ?_
            rintro e w9 ⟨rfl, hb9⟩
            have hb39 : Below w3.heap.size w3 w9 := hb10.trans (hb9.mono hb10.size)
            have r9 := (hb39.block _ l3).trans R3.out
            have c0 : ∀ i, w9.cell? ⟨w.heap.size, i, none⟩ = _ := fun i => cell_of_row _ _ _ _ _ _ r9
            have f0 : ∀ i, w9.frozen? ⟨w.heap.size, i, none⟩ = false := fun i => frozen_rowQ r9
            have b9 : Below w.heap.size w w9 := bw3.trans (hb39.mono (Nat.le_of_lt l3))
            clear r9 hb39 hb9
            go_wp2
            refine bodyPost_ret (v := .tuple #[cmdV none 0 0 zeroC, .int .i64 1]) (by simp [results, Tryz.results56, go_sem, cmdV, zeroC, c0]) rfl ⟨?_, five_below b9 _ _ _ _ _⟩
            rw [HP.out, hlay]
            exact .zero rfl
          · have hge' : ¬ (acc.length : Int) < 1 := by omega
            by_cases heq : 1 < acc.length
            · have heq' : (1 : Int) < (acc.length : Int) := by omega
              have hlay : layC k acc = none := by
                unfold layC
                rw [hL, hD]
                rcases acc with _ | ⟨x, _ | ⟨y, _ | ⟨u, _ | ⟨q, acc⟩⟩⟩⟩ <;> first | (simp [lay3, hD]; done) | (exfalso; simp at heq hlt; done) | (exfalso; simp at heq hlt; omega)
              go_wp2_with (go_at_call 37; refine (Tryz.strings_HasSuffix ⟨#[122]⟩ ⟨#[100]⟩ _ (by decide)).mono ?_; rintro e w13 ⟨rfl, rfl⟩; rw [hsf])
              refine (readBad_c _ _).mono ?_
              rintro e w9 ⟨rfl, hb9⟩
              have hb39 : Below w3.heap.size w3 w9 := hb10.trans (hb9.mono hb10.size)
              have r9 := (hb39.block _ l3).trans R3.out
              have c0 : ∀ i, w9.cell? ⟨w.heap.size, i, none⟩ = _ := fun i => cell_of_row _ _ _ _ _ _ r9
              have f0 : ∀ i, w9.frozen? ⟨w.heap.size, i, none⟩ = false := fun i => frozen_rowQ r9
              have b9 : Below w.heap.size w w9 := bw3.trans (hb39.mono (Nat.le_of_lt l3))
              clear r9 hb39 hb9
              go_wp2
              refine bodyPost_ret (v := .tuple #[cmdV none 0 0 zeroC, .int .i64 1]) (by simp [results, Tryz.results56, go_sem, cmdV, zeroC, c0]) rfl ⟨?_, five_below b9 _ _ _ _ _⟩
              rw [HP.out, hlay]
              exact .zero rfl
            · obtain ⟨y0, rfl⟩ : ∃ y0, acc = [y0] := by
                rcases acc with _ | ⟨y0, _ | ⟨y1, acc⟩⟩ <;> simp at heq hlt <;> exact ⟨_, rfl⟩
              simp only [List.length_cons, List.length_nil] at inn ⊢
              obtain ⟨cc, rfl⟩ : ∃ cc, cn = cc + 1 := ⟨cn - 1, by have := inn.le; omega⟩
              rcases inn.row with h00 | ⟨gb, go, rfl, hgl, hgc⟩
              · exact absurd h00 (by omega)
              have e0 : w11.cell? ⟨gb, go, none⟩ = some (.int .i64 y0) := hgc 0 (by omega)
              have hmx := inn.max
              have hle := inn.le
              have hlay : layC k ([y0]) = some ⟨k, y0, 0, 0, []⟩ := by
                unfold layC
                rw [hL]
                simp [lay3, hD]
              rcases Nat.eq_zero_or_pos cc with rfl | hcc
              · skip
                have id_ : Ints w11 (some ⟨gb, go, none⟩) 0 0 [] := ⟨rfl, by omega, by omega, (fun e => by cases e), .inl rfl, by simp⟩
                have HNE : ∀ x : Addr, ((some ⟨gb, go, none⟩) : Option Addr) = some x → w.heap.size < x.block := fun x e => by
                  cases e
                  have := hbase _ rfl
                  dsimp only at this ⊢
                  omega
                go_wp2_with (go_at_call 37; refine (Tryz.strings_HasSuffix ⟨#[122]⟩ ⟨#[100]⟩ _ (by decide)).mono ?_; rintro e w11 ⟨rfl, rfl⟩; rw [hsf])
                rw [show (⟨#[122]⟩ : ByteArray).extract 0 1 = ⟨#[122]⟩ by decide +kernel]
                have hI : ((w11.alloc (.cells #[.int .i64 k, .int .i64 0, .int .i64 0, .int .i64 0, .slice (some ⟨gb, go, none⟩) (0) (0)] 27)).iter ⟨#[122]⟩ 0).heap[(w11.heap.size + 1)]? = some (.stringIter ⟨#[122]⟩ 0) := by
                  have := World.iter_heap (w11.alloc (.cells #[.int .i64 k, .int .i64 0, .int .i64 0, .int .i64 0, .slice (some ⟨gb, go, none⟩) (0) (0)] 27)) ⟨#[122]⟩ 0
                  rwa [show (w11.alloc (.cells #[.int .i64 k, .int .i64 0, .int .i64 0, .int .i64 0, .slice (some ⟨gb, go, none⟩) (0) (0)] 27)).heap.size = w11.heap.size + 1 by simp] at this
                have hC : ((w11.alloc (.cells #[.int .i64 k, .int .i64 0, .int .i64 0, .int .i64 0, .slice (some ⟨gb, go, none⟩) (0) (0)] 27)).iter ⟨#[122]⟩ 0).heap[w11.heap.size]? = some (.cells #[.int .i64 k, .int .i64 0, .int .i64 0, .int .i64 0, .slice (some ⟨gb, go, none⟩) (0) (0)] 27 (0, 0)) := (Below.heap_alloc _ _ _ (by simp)).trans (heap_new _ _)
                have bX : Below w11.heap.size w11 ((w11.alloc (.cells #[.int .i64 k, .int .i64 0, .int .i64 0, .int .i64 0, .slice (some ⟨gb, go, none⟩) (0) (0)] 27)).iter ⟨#[122]⟩ 0) := belowA (belowA (Below.refl _ _) _) _
                generalize ((w11.alloc (.cells #[.int .i64 k, .int .i64 0, .int .i64 0, .int .i64 0, .slice (some ⟨gb, go, none⟩) (0) (0)] 27)).iter ⟨#[122]⟩ 0) = q0 at *
                refine wp_loop_rounds 2 ?_
                rw [rounds_succ]
                have hn : ∀ ty, (Instr.next (.pointer (some ⟨(w11.heap.size + 1), 0, none⟩)) true ty).run Tryz.prog q0 = .ok (.tuple #[.bool true, .int .i64 0, .int .i32 122]) (q0.iterAt (w11.heap.size + 1) ⟨#[122]⟩ (0 + 1)) := fun ty => by
                  have := Lib.run_next_ascii_at (P := Tryz.prog) q0 (w11.heap.size + 1) ⟨#[122]⟩ 0 ty hI (by decide) (by decide)
                  exact this
                have yI : (q0.iterAt (w11.heap.size + 1) ⟨#[122]⟩ (0 + 1)).heap[(w11.heap.size + 1)]? = some (.stringIter ⟨#[122]⟩ (0 + 1)) := Lib.iterAt_heap _ _ _ _ _ hI
                have yC : (q0.iterAt (w11.heap.size + 1) ⟨#[122]⟩ (0 + 1)).heap[w11.heap.size]? = some (.cells #[.int .i64 k, .int .i64 0, .int .i64 0, .int .i64 0, .slice (some ⟨gb, go, none⟩) (0) (0)] 27 (0, 0)) := (Lib.iterAt_other _ _ _ _ _ (by omega)).trans hC
                have yb : Below w11.heap.size w11 (q0.iterAt (w11.heap.size + 1) ⟨#[122]⟩ (0 + 1)) := Lib.below_iterAt bX (by omega) _ _
                have yc : ∀ i, (q0.iterAt (w11.heap.size + 1) ⟨#[122]⟩ (0 + 1)).cell? ⟨w11.heap.size, i, none⟩ = _ := fun i => cell_of_row _ _ _ _ _ _ yC
                have yf : ∀ i, (q0.iterAt (w11.heap.size + 1) ⟨#[122]⟩ (0 + 1)).frozen? ⟨w11.heap.size, i, none⟩ = false := fun i => frozen_rowQ yC
                have ye := keepc yb e0
                generalize hY : (q0.iterAt (w11.heap.size + 1) ⟨#[122]⟩ (0 + 1)) = z at hn yI yC yb yc yf ye
                clear hI hC bX hY
                go_wp2
                have hI : (z.setCell ⟨w11.heap.size, 1, none⟩ (.int .i64 y0)).heap[(w11.heap.size + 1)]? = some (.stringIter ⟨#[122]⟩ (0 + 1)) := (Below.heap_setCell _ _ _ _ (by simp)).trans yI
                have hC : (z.setCell ⟨w11.heap.size, 1, none⟩ (.int .i64 y0)).heap[w11.heap.size]? = some (.cells #[.int .i64 k, .int .i64 y0, .int .i64 0, .int .i64 0, .slice (some ⟨gb, go, none⟩) (0) (0)] 27 (0, 0)) := Lib.heap_setCell_same (i := 1) yC (.int .i64 y0)
                have bX : Below w11.heap.size w11 (z.setCell ⟨w11.heap.size, 1, none⟩ (.int .i64 y0)) := yb.setCell (p := ⟨w11.heap.size, 1, none⟩) (Nat.le_refl _) _
                generalize z.setCell ⟨w11.heap.size, 1, none⟩ (.int .i64 y0) = q1 at *
                clear hn yI yC yb yc yf ye
                rw [rounds_succ]
                have hn : ∀ ty, (Instr.next (.pointer (some ⟨(w11.heap.size + 1), 0, none⟩)) true ty).run Tryz.prog q1 = .ok (.tuple #[.bool false]) q1 := fun ty => Lib.run_next_end_at (P := Tryz.prog) q1 (w11.heap.size + 1) ⟨#[122]⟩ 1 ty hI (by decide)
                have yc : ∀ i, q1.cell? ⟨w11.heap.size, i, none⟩ = _ := fun i => cell_of_row _ _ _ _ _ _ hC
                have ld : w11.heap.size < q1.heap.size := (Array.getElem?_eq_some_iff.1 hC).1
                have HC := hide hC
                have ix := id_.below bX (Nat.le_refl _)
                have KC := hide (fun w' h' => CheckCmd_c ((some ⟨gb, go, none⟩)) (0) (0) ⟨k, y0, 0, 0, []⟩ w' h')
                unfold cmdV at KC
                dsimp only at KC
                clear hC
                go_wp2_with fail
                refine (KC.out _ ix).mono ?_
                rintro e w14 ⟨rfl, hb14⟩
                have c14 := (hb14.block _ ld).trans HC.out
                have zc : ∀ i, w14.cell? ⟨w11.heap.size, i, none⟩ = _ := fun i => cell_of_row _ _ _ _ _ _ c14
                have b14 : Below w3.heap.size w3 w14 := (hb10.trans (bX.mono hb10.size)).trans (hb14.mono (hb10.trans (bX.mono hb10.size)).size)
                have i14 := ix.below hb14 (Nat.le_refl _)
                clear KC hb14 c14 HC yc hn hI
                by_cases hck : checkC ⟨k, y0, 0, 0, []⟩ = 0
                · have HF : Hid (parseC s = (⟨k, y0, 0, 0, []⟩, 0)) := hide (by rw [HP.out, hlay]; simp [hck])
                  rw [hck]
                  have r9 := (b14.block _ l3).trans R3.out
                  have c0 : ∀ i, w14.cell? ⟨w.heap.size, i, none⟩ = _ := fun i => cell_of_row _ _ _ _ _ _ r9
                  have f0 : ∀ i, w14.frozen? ⟨w.heap.size, i, none⟩ = false := fun i => frozen_rowQ r9
                  have b9 : Below w.heap.size w w14 := bw3.trans (b14.mono (Nat.le_of_lt l3))
                  clear r9
                  go_wp2
                  refine bodyPost_ret (v := .tuple #[cmdV ((some ⟨gb, go, none⟩)) (0) (0) ⟨k, y0, 0, 0, []⟩, .int .i64 0]) (by simp [results, Tryz.results56, go_sem, cmdV, c0]) rfl ⟨?_, five_below b9 _ _ _ _ _⟩
                  rw [HF.out]
                  exact ⟨_, _, _, rfl, i14.five _ (fun x e => Nat.ne_of_gt (HNE x e)) _ _ _ _ _, fun x e => Nat.le_of_lt (HNE x e)⟩
                · have HBAD : Hid (parseC s = (zeroC, checkC ⟨k, y0, 0, 0, []⟩)) := hide (by rw [HP.out, hlay]; simp [hck])
                  have hcb : (checkC ⟨k, y0, 0, 0, []⟩ != 0) = true := by simpa using hck
                  generalize checkC ⟨k, y0, 0, 0, []⟩ = cb at *
                  go_wp2_with fail
                  refine (readBad_c _ _).mono ?_
                  rintro e w15 ⟨rfl, hb15⟩
                  have hb39 : Below w3.heap.size w3 w15 := b14.trans (hb15.mono b14.size)
                  have r9 := (hb39.block _ l3).trans R3.out
                  have c0 : ∀ i, w15.cell? ⟨w.heap.size, i, none⟩ = _ := fun i => cell_of_row _ _ _ _ _ _ r9
                  have f0 : ∀ i, w15.frozen? ⟨w.heap.size, i, none⟩ = false := fun i => frozen_rowQ r9
                  have b9 : Below w.heap.size w w15 := bw3.trans (hb39.mono (Nat.le_of_lt l3))
                  clear r9 hb39 hb15
                  go_wp2
                  refine bodyPost_ret (v := .tuple #[cmdV none 0 0 zeroC, .int .i64 cb]) (by simp [results, Tryz.results56, go_sem, cmdV, zeroC, c0]) rfl ⟨?_, five_below b9 _ _ _ _ _⟩
                  rw [HBAD.out]
                  exact .zero rfl
              · skip
                have hcc' : ¬ cc = 0 := by omega
                have id_ : Ints w11 (some ⟨gb, go + 1, none⟩) 0 cc [] := ⟨rfl, by omega, by omega, (fun e => by cases e), .inl rfl, by simp⟩
                have HNE : ∀ x : Addr, ((some ⟨gb, go + 1, none⟩) : Option Addr) = some x → w.heap.size < x.block := fun x e => by
                  cases e
                  have := hbase _ rfl
                  dsimp only at this ⊢
                  omega
                go_wp2_with (go_at_call 37; refine (Tryz.strings_HasSuffix ⟨#[122]⟩ ⟨#[100]⟩ _ (by decide)).mono ?_; rintro e w11 ⟨rfl, rfl⟩; rw [hsf])
                rw [show (⟨#[122]⟩ : ByteArray).extract 0 1 = ⟨#[122]⟩ by decide +kernel]
                have hI : ((w11.alloc (.cells #[.int .i64 k, .int .i64 0, .int .i64 0, .int .i64 0, .slice (some ⟨gb, go + 1, none⟩) (0) (cc)] 27)).iter ⟨#[122]⟩ 0).heap[(w11.heap.size + 1)]? = some (.stringIter ⟨#[122]⟩ 0) := by
                  have := World.iter_heap (w11.alloc (.cells #[.int .i64 k, .int .i64 0, .int .i64 0, .int .i64 0, .slice (some ⟨gb, go + 1, none⟩) (0) (cc)] 27)) ⟨#[122]⟩ 0
                  rwa [show (w11.alloc (.cells #[.int .i64 k, .int .i64 0, .int .i64 0, .int .i64 0, .slice (some ⟨gb, go + 1, none⟩) (0) (cc)] 27)).heap.size = w11.heap.size + 1 by simp] at this
                have hC : ((w11.alloc (.cells #[.int .i64 k, .int .i64 0, .int .i64 0, .int .i64 0, .slice (some ⟨gb, go + 1, none⟩) (0) (cc)] 27)).iter ⟨#[122]⟩ 0).heap[w11.heap.size]? = some (.cells #[.int .i64 k, .int .i64 0, .int .i64 0, .int .i64 0, .slice (some ⟨gb, go + 1, none⟩) (0) (cc)] 27 (0, 0)) := (Below.heap_alloc _ _ _ (by simp)).trans (heap_new _ _)
                have bX : Below w11.heap.size w11 ((w11.alloc (.cells #[.int .i64 k, .int .i64 0, .int .i64 0, .int .i64 0, .slice (some ⟨gb, go + 1, none⟩) (0) (cc)] 27)).iter ⟨#[122]⟩ 0) := belowA (belowA (Below.refl _ _) _) _
                generalize ((w11.alloc (.cells #[.int .i64 k, .int .i64 0, .int .i64 0, .int .i64 0, .slice (some ⟨gb, go + 1, none⟩) (0) (cc)] 27)).iter ⟨#[122]⟩ 0) = q0 at *
                refine wp_loop_rounds 2 ?_
                rw [rounds_succ]
                have hn : ∀ ty, (Instr.next (.pointer (some ⟨(w11.heap.size + 1), 0, none⟩)) true ty).run Tryz.prog q0 = .ok (.tuple #[.bool true, .int .i64 0, .int .i32 122]) (q0.iterAt (w11.heap.size + 1) ⟨#[122]⟩ (0 + 1)) := fun ty => by
                  have := Lib.run_next_ascii_at (P := Tryz.prog) q0 (w11.heap.size + 1) ⟨#[122]⟩ 0 ty hI (by decide) (by decide)
                  exact this
                have yI : (q0.iterAt (w11.heap.size + 1) ⟨#[122]⟩ (0 + 1)).heap[(w11.heap.size + 1)]? = some (.stringIter ⟨#[122]⟩ (0 + 1)) := Lib.iterAt_heap _ _ _ _ _ hI
                have yC : (q0.iterAt (w11.heap.size + 1) ⟨#[122]⟩ (0 + 1)).heap[w11.heap.size]? = some (.cells #[.int .i64 k, .int .i64 0, .int .i64 0, .int .i64 0, .slice (some ⟨gb, go + 1, none⟩) (0) (cc)] 27 (0, 0)) := (Lib.iterAt_other _ _ _ _ _ (by omega)).trans hC
                have yb : Below w11.heap.size w11 (q0.iterAt (w11.heap.size + 1) ⟨#[122]⟩ (0 + 1)) := Lib.below_iterAt bX (by omega) _ _
                have yc : ∀ i, (q0.iterAt (w11.heap.size + 1) ⟨#[122]⟩ (0 + 1)).cell? ⟨w11.heap.size, i, none⟩ = _ := fun i => cell_of_row _ _ _ _ _ _ yC
                have yf : ∀ i, (q0.iterAt (w11.heap.size + 1) ⟨#[122]⟩ (0 + 1)).frozen? ⟨w11.heap.size, i, none⟩ = false := fun i => frozen_rowQ yC
                have ye := keepc yb e0
                generalize hY : (q0.iterAt (w11.heap.size + 1) ⟨#[122]⟩ (0 + 1)) = z at hn yI yC yb yc yf ye
                clear hI hC bX hY
                go_wp2
                have hI : (z.setCell ⟨w11.heap.size, 1, none⟩ (.int .i64 y0)).heap[(w11.heap.size + 1)]? = some (.stringIter ⟨#[122]⟩ (0 + 1)) := (Below.heap_setCell _ _ _ _ (by simp)).trans yI
                have hC : (z.setCell ⟨w11.heap.size, 1, none⟩ (.int .i64 y0)).heap[w11.heap.size]? = some (.cells #[.int .i64 k, .int .i64 y0, .int .i64 0, .int .i64 0, .slice (some ⟨gb, go + 1, none⟩) (0) (cc)] 27 (0, 0)) := Lib.heap_setCell_same (i := 1) yC (.int .i64 y0)
                have bX : Below w11.heap.size w11 (z.setCell ⟨w11.heap.size, 1, none⟩ (.int .i64 y0)) := yb.setCell (p := ⟨w11.heap.size, 1, none⟩) (Nat.le_refl _) _
                generalize z.setCell ⟨w11.heap.size, 1, none⟩ (.int .i64 y0) = q1 at *
                clear hn yI yC yb yc yf ye
                rw [rounds_succ]
                have hn : ∀ ty, (Instr.next (.pointer (some ⟨(w11.heap.size + 1), 0, none⟩)) true ty).run Tryz.prog q1 = .ok (.tuple #[.bool false]) q1 := fun ty => Lib.run_next_end_at (P := Tryz.prog) q1 (w11.heap.size + 1) ⟨#[122]⟩ 1 ty hI (by decide)
                have yc : ∀ i, q1.cell? ⟨w11.heap.size, i, none⟩ = _ := fun i => cell_of_row _ _ _ _ _ _ hC
                have ld : w11.heap.size < q1.heap.size := (Array.getElem?_eq_some_iff.1 hC).1
                have HC := hide hC
                have ix := id_.below bX (Nat.le_refl _)
                have KC := hide (fun w' h' => CheckCmd_c ((some ⟨gb, go + 1, none⟩)) (0) (cc) ⟨k, y0, 0, 0, []⟩ w' h')
                unfold cmdV at KC
                dsimp only at KC
                clear hC
                go_wp2_with fail
                refine (KC.out _ ix).mono ?_
                rintro e w14 ⟨rfl, hb14⟩
                have c14 := (hb14.block _ ld).trans HC.out
                have zc : ∀ i, w14.cell? ⟨w11.heap.size, i, none⟩ = _ := fun i => cell_of_row _ _ _ _ _ _ c14
                have b14 : Below w3.heap.size w3 w14 := (hb10.trans (bX.mono hb10.size)).trans (hb14.mono (hb10.trans (bX.mono hb10.size)).size)
                have i14 := ix.below hb14 (Nat.le_refl _)
                clear KC hb14 c14 HC yc hn hI
                by_cases hck : checkC ⟨k, y0, 0, 0, []⟩ = 0
                · have HF : Hid (parseC s = (⟨k, y0, 0, 0, []⟩, 0)) := hide (by rw [HP.out, hlay]; simp [hck])
                  rw [hck]
                  have r9 := (b14.block _ l3).trans R3.out
                  have c0 : ∀ i, w14.cell? ⟨w.heap.size, i, none⟩ = _ := fun i => cell_of_row _ _ _ _ _ _ r9
                  have f0 : ∀ i, w14.frozen? ⟨w.heap.size, i, none⟩ = false := fun i => frozen_rowQ r9
                  have b9 : Below w.heap.size w w14 := bw3.trans (b14.mono (Nat.le_of_lt l3))
                  clear r9
                  go_wp2
                  refine bodyPost_ret (v := .tuple #[cmdV ((some ⟨gb, go + 1, none⟩)) (0) (cc) ⟨k, y0, 0, 0, []⟩, .int .i64 0]) (by simp [results, Tryz.results56, go_sem, cmdV, c0]) rfl ⟨?_, five_below b9 _ _ _ _ _⟩
                  rw [HF.out]
                  exact ⟨_, _, _, rfl, i14.five _ (fun x e => Nat.ne_of_gt (HNE x e)) _ _ _ _ _, fun x e => Nat.le_of_lt (HNE x e)⟩
                · have HBAD : Hid (parseC s = (zeroC, checkC ⟨k, y0, 0, 0, []⟩)) := hide (by rw [HP.out, hlay]; simp [hck])
                  have hcb : (checkC ⟨k, y0, 0, 0, []⟩ != 0) = true := by simpa using hck
                  generalize checkC ⟨k, y0, 0, 0, []⟩ = cb at *
                  go_wp2_with fail
                  refine (readBad_c _ _).mono ?_
                  rintro e w15 ⟨rfl, hb15⟩
                  have hb39 : Below w3.heap.size w3 w15 := b14.trans (hb15.mono b14.size)
                  have r9 := (hb39.block _ l3).trans R3.out
                  have c0 : ∀ i, w15.cell? ⟨w.heap.size, i, none⟩ = _ := fun i => cell_of_row _ _ _ _ _ _ r9
                  have f0 : ∀ i, w15.frozen? ⟨w.heap.size, i, none⟩ = false := fun i => frozen_rowQ r9
                  have b9 : Below w.heap.size w w15 := bw3.trans (hb39.mono (Nat.le_of_lt l3))
                  clear r9 hb39 hb15
                  go_wp2
                  refine bodyPost_ret (v := .tuple #[cmdV none 0 0 zeroC, .int .i64 cb]) (by simp [results, Tryz.results56, go_sem, cmdV, zeroC, c0]) rfl ⟨?_, five_below b9 _ _ _ _ _⟩
                  rw [HBAD.out]
                  exact .zero rfl
        · rw [hS]
          have htr : (Lib.trimSuffix (⟨#[122, 100]⟩ : ByteArray).data.toList (⟨#[100]⟩ : ByteArray).data.toList) = [122] := by decide
          have hsf : Lib.hasSuffix (⟨#[122, 100]⟩ : ByteArray).data.toList (⟨#[100]⟩ : ByteArray).data.toList = true := by decide
          go_wp2_with fail
          refine (Tryz.strings_TrimSuffix ⟨#[122, 100]⟩ ⟨#[100]⟩ _ (by decide)).mono ?_
          rintro e w11 ⟨rfl, rfl⟩
          rw [htr]
          by_cases hlt : acc.length < 1
          · have hlt' : (acc.length : Int) < 1 := by omega
            have hlay : layC k acc = none := by
              unfold layC
              rw [hL]
              rcases acc with _ | ⟨x, _ | ⟨y, _ | ⟨u, acc⟩⟩⟩ <;> first | (simp [lay3]; done) | (exfalso; simp at hlt; done) | (exfalso; simp at hlt; omega)
            go_wp2_with (go_at_call 37; refine (Tryz.strings_HasSuffix ⟨#[122, 100]⟩ ⟨#[100]⟩ _ (by decide)).mono ?_; rintro e w13 ⟨rfl, rfl⟩; rw [hsf])
            refine (readBad_c _ _).mono ?_
            rintro e w9 ⟨rfl, hb9⟩
            have hb39 : Below w3.heap.size w3 w9 := hb10.trans (hb9.mono hb10.size)
            have r9 := (hb39.block _ l3).trans R3.out
            have c0 : ∀ i, w9.cell? ⟨w.heap.size, i, none⟩ = _ := fun i => cell_of_row _ _ _ _ _ _ r9
            have f0 : ∀ i, w9.frozen? ⟨w.heap.size, i, none⟩ = false := fun i => frozen_rowQ r9
            have b9 : Below w.heap.size w w9 := bw3.trans (hb39.mono (Nat.le_of_lt l3))
            clear r9 hb39 hb9
            go_wp2
            refine bodyPost_ret (v := .tuple #[cmdV none 0 0 zeroC, .int .i64 1]) (by simp [results, Tryz.results56, go_sem, cmdV, zeroC, c0]) rfl ⟨?_, five_below b9 _ _ _ _ _⟩
            rw [HP.out, hlay]
            exact .zero rfl
          · have hge' : ¬ (acc.length : Int) < 1 := by omega
            by_cases heq : acc.length = 1
            · have heq' : (acc.length : Int) = 1 := by omega
              have hlay : layC k acc = none := by
                unfold layC
                rw [hL, hD]
                rcases acc with _ | ⟨x, _ | ⟨y, _ | ⟨u, _ | ⟨q, acc⟩⟩⟩⟩ <;> first | (simp [lay3, hD]; done) | (exfalso; simp at heq hlt; done) | (exfalso; simp at heq hlt; omega)
              go_wp2_with (go_at_call 37; refine (Tryz.strings_HasSuffix ⟨#[122, 100]⟩ ⟨#[100]⟩ _ (by decide)).mono ?_; rintro e w13 ⟨rfl, rfl⟩; rw [hsf])
              refine (readBad_c _ _).mono ?_
              rintro e w9 ⟨rfl, hb9⟩
              have hb39 : Below w3.heap.size w3 w9 := hb10.trans (hb9.mono hb10.size)
              have r9 := (hb39.block _ l3).trans R3.out
              have c0 : ∀ i, w9.cell? ⟨w.heap.size, i, none⟩ = _ := fun i => cell_of_row _ _ _ _ _ _ r9
              have f0 : ∀ i, w9.frozen? ⟨w.heap.size, i, none⟩ = false := fun i => frozen_rowQ r9
              have b9 : Below w.heap.size w w9 := bw3.trans (hb39.mono (Nat.le_of_lt l3))
              clear r9 hb39 hb9
              go_wp2
              refine bodyPost_ret (v := .tuple #[cmdV none 0 0 zeroC, .int .i64 1]) (by simp [results, Tryz.results56, go_sem, cmdV, zeroC, c0]) rfl ⟨?_, five_below b9 _ _ _ _ _⟩
              rw [HP.out, hlay]
              exact .zero rfl
            · obtain ⟨y0, r, rfl⟩ : ∃ y0 r, acc = y0 :: r := by
                rcases acc with _ | ⟨y0, acc⟩ <;> simp at heq hlt <;> exact ⟨_, _, rfl⟩
              have hr : r ≠ [] := by intro e; subst e; simp at heq
              have hrl : 0 < r.length := List.length_pos_iff.2 hr
              simp only [List.length_cons] at inn ⊢
              obtain ⟨cc, rfl⟩ : ∃ cc, cn = cc + 1 := ⟨cn - 1, by have := inn.le; omega⟩
              rcases inn.row with h00 | ⟨gb, go, rfl, hgl, hgc⟩
              · exact absurd h00 (by omega)
              have e0 : w11.cell? ⟨gb, go, none⟩ = some (.int .i64 y0) := hgc 0 (by omega)
              have hmx := inn.max
              have hle := inn.le
              have hlay : layC k (y0 :: r) = some ⟨k, y0, 0, 0, r⟩ := by
                unfold layC
                rw [hL]
                simp [lay3, hD, hr]
              have id_ : Ints w11 (some ⟨gb, go + 1, none⟩) r.length cc r := ⟨rfl, by omega, by omega, (fun e => by cases e), .inr ⟨gb, go + 1, rfl, hgl, fun i hi => by
                have := hgc (i + 1) (by omega)
                rw [show go + 1 + i = go + (i + 1) by omega, this]
                simp [List.getD]⟩, fun x hx => inn.wf x (by simp [hx])⟩
              have HNE : ∀ x : Addr, (some ⟨gb, go + 1, none⟩ : Option Addr) = some x → w.heap.size < x.block := fun x e => by
                cases e
                have := hbase _ rfl
                dsimp only at this ⊢
                omega
              have hcc : ¬ cc = 0 := by omega
              go_wp2_with (go_at_call 37; refine (Tryz.strings_HasSuffix ⟨#[122, 100]⟩ ⟨#[100]⟩ _ (by decide)).mono ?_; rintro e w11 ⟨rfl, rfl⟩; rw [hsf])
              rw [show (⟨#[122, 100]⟩ : ByteArray).extract 0 1 = ⟨#[122]⟩ by decide +kernel]
              have hI : ((w11.alloc (.cells #[.int .i64 k, .int .i64 0, .int .i64 0, .int .i64 0, .slice (some ⟨gb, go + 1, none⟩) (r.length) (cc)] 27)).iter ⟨#[122]⟩ 0).heap[(w11.heap.size + 1)]? = some (.stringIter ⟨#[122]⟩ 0) := by
                have := World.iter_heap (w11.alloc (.cells #[.int .i64 k, .int .i64 0, .int .i64 0, .int .i64 0, .slice (some ⟨gb, go + 1, none⟩) (r.length) (cc)] 27)) ⟨#[122]⟩ 0
                rwa [show (w11.alloc (.cells #[.int .i64 k, .int .i64 0, .int .i64 0, .int .i64 0, .slice (some ⟨gb, go + 1, none⟩) (r.length) (cc)] 27)).heap.size = w11.heap.size + 1 by simp] at this
              have hC : ((w11.alloc (.cells #[.int .i64 k, .int .i64 0, .int .i64 0, .int .i64 0, .slice (some ⟨gb, go + 1, none⟩) (r.length) (cc)] 27)).iter ⟨#[122]⟩ 0).heap[w11.heap.size]? = some (.cells #[.int .i64 k, .int .i64 0, .int .i64 0, .int .i64 0, .slice (some ⟨gb, go + 1, none⟩) (r.length) (cc)] 27 (0, 0)) := (Below.heap_alloc _ _ _ (by simp)).trans (heap_new _ _)
              have bX : Below w11.heap.size w11 ((w11.alloc (.cells #[.int .i64 k, .int .i64 0, .int .i64 0, .int .i64 0, .slice (some ⟨gb, go + 1, none⟩) (r.length) (cc)] 27)).iter ⟨#[122]⟩ 0) := belowA (belowA (Below.refl _ _) _) _
              generalize ((w11.alloc (.cells #[.int .i64 k, .int .i64 0, .int .i64 0, .int .i64 0, .slice (some ⟨gb, go + 1, none⟩) (r.length) (cc)] 27)).iter ⟨#[122]⟩ 0) = q0 at *
              refine wp_loop_rounds 2 ?_
              rw [rounds_succ]
              have hn : ∀ ty, (Instr.next (.pointer (some ⟨(w11.heap.size + 1), 0, none⟩)) true ty).run Tryz.prog q0 = .ok (.tuple #[.bool true, .int .i64 0, .int .i32 122]) (q0.iterAt (w11.heap.size + 1) ⟨#[122]⟩ (0 + 1)) := fun ty => by
                have := Lib.run_next_ascii_at (P := Tryz.prog) q0 (w11.heap.size + 1) ⟨#[122]⟩ 0 ty hI (by decide) (by decide)
                exact this
              have yI : (q0.iterAt (w11.heap.size + 1) ⟨#[122]⟩ (0 + 1)).heap[(w11.heap.size + 1)]? = some (.stringIter ⟨#[122]⟩ (0 + 1)) := Lib.iterAt_heap _ _ _ _ _ hI
              have yC : (q0.iterAt (w11.heap.size + 1) ⟨#[122]⟩ (0 + 1)).heap[w11.heap.size]? = some (.cells #[.int .i64 k, .int .i64 0, .int .i64 0, .int .i64 0, .slice (some ⟨gb, go + 1, none⟩) (r.length) (cc)] 27 (0, 0)) := (Lib.iterAt_other _ _ _ _ _ (by omega)).trans hC
              have yb : Below w11.heap.size w11 (q0.iterAt (w11.heap.size + 1) ⟨#[122]⟩ (0 + 1)) := Lib.below_iterAt bX (by omega) _ _
              have yc : ∀ i, (q0.iterAt (w11.heap.size + 1) ⟨#[122]⟩ (0 + 1)).cell? ⟨w11.heap.size, i, none⟩ = _ := fun i => cell_of_row _ _ _ _ _ _ yC
              have yf : ∀ i, (q0.iterAt (w11.heap.size + 1) ⟨#[122]⟩ (0 + 1)).frozen? ⟨w11.heap.size, i, none⟩ = false := fun i => frozen_rowQ yC
              have ye := keepc yb e0
              generalize hY : (q0.iterAt (w11.heap.size + 1) ⟨#[122]⟩ (0 + 1)) = z at hn yI yC yb yc yf ye
              clear hI hC bX hY
              go_wp2
              have hI : (z.setCell ⟨w11.heap.size, 1, none⟩ (.int .i64 y0)).heap[(w11.heap.size + 1)]? = some (.stringIter ⟨#[122]⟩ (0 + 1)) := (Below.heap_setCell _ _ _ _ (by simp)).trans yI
              have hC : (z.setCell ⟨w11.heap.size, 1, none⟩ (.int .i64 y0)).heap[w11.heap.size]? = some (.cells #[.int .i64 k, .int .i64 y0, .int .i64 0, .int .i64 0, .slice (some ⟨gb, go + 1, none⟩) (r.length) (cc)] 27 (0, 0)) := Lib.heap_setCell_same (i := 1) yC (.int .i64 y0)
              have bX : Below w11.heap.size w11 (z.setCell ⟨w11.heap.size, 1, none⟩ (.int .i64 y0)) := yb.setCell (p := ⟨w11.heap.size, 1, none⟩) (Nat.le_refl _) _
              generalize z.setCell ⟨w11.heap.size, 1, none⟩ (.int .i64 y0) = q1 at *
              clear hn yI yC yb yc yf ye
              rw [rounds_succ]
              have hn : ∀ ty, (Instr.next (.pointer (some ⟨(w11.heap.size + 1), 0, none⟩)) true ty).run Tryz.prog q1 = .ok (.tuple #[.bool false]) q1 := fun ty => Lib.run_next_end_at (P := Tryz.prog) q1 (w11.heap.size + 1) ⟨#[122]⟩ 1 ty hI (by decide)
              have yc : ∀ i, q1.cell? ⟨w11.heap.size, i, none⟩ = _ := fun i => cell_of_row _ _ _ _ _ _ hC
              have ld : w11.heap.size < q1.heap.size := (Array.getElem?_eq_some_iff.1 hC).1
              have HC := hide hC
              have ix := id_.below bX (Nat.le_refl _)
              have KC := hide (fun w' h' => CheckCmd_c ((some ⟨gb, go + 1, none⟩)) (r.length) (cc) ⟨k, y0, 0, 0, r⟩ w' h')
              unfold cmdV at KC
              dsimp only at KC
              clear hC
              go_wp2_with fail
              refine (KC.out _ ix).mono ?_
              rintro e w14 ⟨rfl, hb14⟩
              have c14 := (hb14.block _ ld).trans HC.out
              have zc : ∀ i, w14.cell? ⟨w11.heap.size, i, none⟩ = _ := fun i => cell_of_row _ _ _ _ _ _ c14
              have b14 : Below w3.heap.size w3 w14 := (hb10.trans (bX.mono hb10.size)).trans (hb14.mono (hb10.trans (bX.mono hb10.size)).size)
              have i14 := ix.below hb14 (Nat.le_refl _)
              clear KC hb14 c14 HC yc hn hI
              by_cases hck : checkC ⟨k, y0, 0, 0, r⟩ = 0
              · have HF : Hid (parseC s = (⟨k, y0, 0, 0, r⟩, 0)) := hide (by rw [HP.out, hlay]; simp [hck])
                rw [hck]
                have r9 := (b14.block _ l3).trans R3.out
                have c0 : ∀ i, w14.cell? ⟨w.heap.size, i, none⟩ = _ := fun i => cell_of_row _ _ _ _ _ _ r9
                have f0 : ∀ i, w14.frozen? ⟨w.heap.size, i, none⟩ = false := fun i => frozen_rowQ r9
                have b9 : Below w.heap.size w w14 := bw3.trans (b14.mono (Nat.le_of_lt l3))
                clear r9
                go_wp2
                refine bodyPost_ret (v := .tuple #[cmdV ((some ⟨gb, go + 1, none⟩)) (r.length) (cc) ⟨k, y0, 0, 0, r⟩, .int .i64 0]) (by simp [results, Tryz.results56, go_sem, cmdV, c0]) rfl ⟨?_, five_below b9 _ _ _ _ _⟩
                rw [HF.out]
                exact ⟨_, _, _, rfl, i14.five _ (fun x e => Nat.ne_of_gt (HNE x e)) _ _ _ _ _, fun x e => Nat.le_of_lt (HNE x e)⟩
              · have HBAD : Hid (parseC s = (zeroC, checkC ⟨k, y0, 0, 0, r⟩)) := hide (by rw [HP.out, hlay]; simp [hck])
                have hcb : (checkC ⟨k, y0, 0, 0, r⟩ != 0) = true := by simpa using hck
                generalize checkC ⟨k, y0, 0, 0, r⟩ = cb at *
                go_wp2_with fail
                refine (readBad_c _ _).mono ?_
                rintro e w15 ⟨rfl, hb15⟩
                have hb39 : Below w3.heap.size w3 w15 := b14.trans (hb15.mono b14.size)
                have r9 := (hb39.block _ l3).trans R3.out
                have c0 : ∀ i, w15.cell? ⟨w.heap.size, i, none⟩ = _ := fun i => cell_of_row _ _ _ _ _ _ r9
                have f0 : ∀ i, w15.frozen? ⟨w.heap.size, i, none⟩ = false := fun i => frozen_rowQ r9
                have b9 : Below w.heap.size w w15 := bw3.trans (hb39.mono (Nat.le_of_lt l3))
                clear r9 hb39 hb15
                go_wp2
                refine bodyPost_ret (v := .tuple #[cmdV none 0 0 zeroC, .int .i64 cb]) (by simp [results, Tryz.results56, go_sem, cmdV, zeroC, c0]) rfl ⟨?_, five_below b9 _ _ _ _ _⟩
                rw [HBAD.out]
                exact .zero rfl
        · rw [hS]
          have htr : (Lib.trimSuffix (⟨#[122, 97, 100]⟩ : ByteArray).data.toList (⟨#[100]⟩ : ByteArray).data.toList) = [122, 97] := by decide
          have hsf : Lib.hasSuffix (⟨#[122, 97, 100]⟩ : ByteArray).data.toList (⟨#[100]⟩ : ByteArray).data.toList = true := by decide
          go_wp2_with fail
          refine (Tryz.strings_TrimSuffix ⟨#[122, 97, 100]⟩ ⟨#[100]⟩ _ (by decide)).mono ?_
          rintro e w11 ⟨rfl, rfl⟩
          rw [htr]
          by_cases hlt : acc.length < 2
          · have hlt' : (acc.length : Int) < 2 := by omega
            have hlay : layC k acc = none := by
              unfold layC
              rw [hL]
              rcases acc with _ | ⟨x, _ | ⟨y, _ | ⟨u, acc⟩⟩⟩ <;> first | (simp [lay3]; done) | (exfalso; simp at hlt; done) | (exfalso; simp at hlt; omega)
            go_wp2_with (go_at_call 37; refine (Tryz.strings_HasSuffix ⟨#[122, 97, 100]⟩ ⟨#[100]⟩ _ (by decide)).mono ?_; rintro e w13 ⟨rfl, rfl⟩; rw [hsf])
            refine (readBad_c _ _).mono ?_
            rintro e w9 ⟨rfl, hb9⟩
            have hb39 : Below w3.heap.size w3 w9 := hb10.trans (hb9.mono hb10.size)
            have r9 := (hb39.block _ l3).trans R3.out
            have c0 : ∀ i, w9.cell? ⟨w.heap.size, i, none⟩ = _ := fun i => cell_of_row _ _ _ _ _ _ r9
            have f0 : ∀ i, w9.frozen? ⟨w.heap.size, i, none⟩ = false := fun i => frozen_rowQ r9
            have b9 : Below w.heap.size w w9 := bw3.trans (hb39.mono (Nat.le_of_lt l3))
            clear r9 hb39 hb9
            go_wp2
            refine bodyPost_ret (v := .tuple #[cmdV none 0 0 zeroC, .int .i64 1]) (by simp [results, Tryz.results56, go_sem, cmdV, zeroC, c0]) rfl ⟨?_, five_below b9 _ _ _ _ _⟩
            rw [HP.out, hlay]
            exact .zero rfl
          · have hge' : ¬ (acc.length : Int) < 2 := by omega
            by_cases heq : acc.length = 2
            · have heq' : (acc.length : Int) = 2 := by omega
              have hlay : layC k acc = none := by
                unfold layC
                rw [hL, hD]
                rcases acc with _ | ⟨x, _ | ⟨y, _ | ⟨u, _ | ⟨q, acc⟩⟩⟩⟩ <;> first | (simp [lay3, hD]; done) | (exfalso; simp at heq hlt; done) | (exfalso; simp at heq hlt; omega)
              go_wp2_with (go_at_call 37; refine (Tryz.strings_HasSuffix ⟨#[122, 97, 100]⟩ ⟨#[100]⟩ _ (by decide)).mono ?_; rintro e w13 ⟨rfl, rfl⟩; rw [hsf])
              refine (readBad_c _ _).mono ?_
              rintro e w9 ⟨rfl, hb9⟩
              have hb39 : Below w3.heap.size w3 w9 := hb10.trans (hb9.mono hb10.size)
              have r9 := (hb39.block _ l3).trans R3.out
              have c0 : ∀ i, w9.cell? ⟨w.heap.size, i, none⟩ = _ := fun i => cell_of_row _ _ _ _ _ _ r9
              have f0 : ∀ i, w9.frozen? ⟨w.heap.size, i, none⟩ = false := fun i => frozen_rowQ r9
              have b9 : Below w.heap.size w w9 := bw3.trans (hb39.mono (Nat.le_of_lt l3))
              clear r9 hb39 hb9
              go_wp2
              refine bodyPost_ret (v := .tuple #[cmdV none 0 0 zeroC, .int .i64 1]) (by simp [results, Tryz.results56, go_sem, cmdV, zeroC, c0]) rfl ⟨?_, five_below b9 _ _ _ _ _⟩
              rw [HP.out, hlay]
              exact .zero rfl
            · obtain ⟨y0, y1, r, rfl⟩ : ∃ y0 y1 r, acc = y0 :: y1 :: r := by
                rcases acc with _ | ⟨y0, _ | ⟨y1, acc⟩⟩ <;> simp at heq hlt <;> exact ⟨_, _, _, rfl⟩
              have hr : r ≠ [] := by intro e; subst e; simp at heq
              have hrl : 0 < r.length := List.length_pos_iff.2 hr
              simp only [List.length_cons] at inn ⊢
              obtain ⟨cc, rfl⟩ : ∃ cc, cn = cc + 2 := ⟨cn - 2, by have := inn.le; omega⟩
              rcases inn.row with h00 | ⟨gb, go, rfl, hgl, hgc⟩
              · exact absurd h00 (by omega)
              have e0 : w11.cell? ⟨gb, go, none⟩ = some (.int .i64 y0) := hgc 0 (by omega)
              have e1 : w11.cell? ⟨gb, go + 1, none⟩ = some (.int .i64 y1) := hgc 1 (by omega)
              have hmx := inn.max
              have hle := inn.le
              have hlay : layC k (y0 :: y1 :: r) = some ⟨k, y0, 0, y1, r⟩ := by
                unfold layC
                rw [hL]
                simp [lay3, hD, hr]
              have id_ : Ints w11 (some ⟨gb, go + 2, none⟩) r.length cc r := ⟨rfl, by omega, by omega, (fun e => by cases e), .inr ⟨gb, go + 2, rfl, hgl, fun i hi => by
                have := hgc (i + 2) (by omega)
                rw [show go + 2 + i = go + (i + 2) by omega, this]
                simp [List.getD]⟩, fun x hx => inn.wf x (by simp [hx])⟩
              have HNE : ∀ x : Addr, (some ⟨gb, go + 2, none⟩ : Option Addr) = some x → w.heap.size < x.block := fun x e => by
                cases e
                have := hbase _ rfl
                dsimp only at this ⊢
                omega
              have hcc : ¬ cc = 0 := by omega
              go_wp2_with (go_at_call 37; refine (Tryz.strings_HasSuffix ⟨#[122, 97, 100]⟩ ⟨#[100]⟩ _ (by decide)).mono ?_; rintro e w11 ⟨rfl, rfl⟩; rw [hsf])
              rw [show (⟨#[122, 97, 100]⟩ : ByteArray).extract 0 2 = ⟨#[122, 97]⟩ by decide +kernel]
              have hI : ((w11.alloc (.cells #[.int .i64 k, .int .i64 0, .int .i64 0, .int .i64 0, .slice (some ⟨gb, go + 2, none⟩) (r.length) (cc)] 27)).iter ⟨#[122, 97]⟩ 0).heap[(w11.heap.size + 1)]? = some (.stringIter ⟨#[122, 97]⟩ 0) := by
                have := World.iter_heap (w11.alloc (.cells #[.int .i64 k, .int .i64 0, .int .i64 0, .int .i64 0, .slice (some ⟨gb, go + 2, none⟩) (r.length) (cc)] 27)) ⟨#[122, 97]⟩ 0
                rwa [show (w11.alloc (.cells #[.int .i64 k, .int .i64 0, .int .i64 0, .int .i64 0, .slice (some ⟨gb, go + 2, none⟩) (r.length) (cc)] 27)).heap.size = w11.heap.size + 1 by simp] at this
              have hC : ((w11.alloc (.cells #[.int .i64 k, .int .i64 0, .int .i64 0, .int .i64 0, .slice (some ⟨gb, go + 2, none⟩) (r.length) (cc)] 27)).iter ⟨#[122, 97]⟩ 0).heap[w11.heap.size]? = some (.cells #[.int .i64 k, .int .i64 0, .int .i64 0, .int .i64 0, .slice (some ⟨gb, go + 2, none⟩) (r.length) (cc)] 27 (0, 0)) := (Below.heap_alloc _ _ _ (by simp)).trans (heap_new _ _)
              have bX : Below w11.heap.size w11 ((w11.alloc (.cells #[.int .i64 k, .int .i64 0, .int .i64 0, .int .i64 0, .slice (some ⟨gb, go + 2, none⟩) (r.length) (cc)] 27)).iter ⟨#[122, 97]⟩ 0) := belowA (belowA (Below.refl _ _) _) _
              generalize ((w11.alloc (.cells #[.int .i64 k, .int .i64 0, .int .i64 0, .int .i64 0, .slice (some ⟨gb, go + 2, none⟩) (r.length) (cc)] 27)).iter ⟨#[122, 97]⟩ 0) = q0 at *
              refine wp_loop_rounds 3 ?_
              rw [rounds_succ]
              have hn : ∀ ty, (Instr.next (.pointer (some ⟨(w11.heap.size + 1), 0, none⟩)) true ty).run Tryz.prog q0 = .ok (.tuple #[.bool true, .int .i64 0, .int .i32 122]) (q0.iterAt (w11.heap.size + 1) ⟨#[122, 97]⟩ (0 + 1)) := fun ty => by
                have := Lib.run_next_ascii_at (P := Tryz.prog) q0 (w11.heap.size + 1) ⟨#[122, 97]⟩ 0 ty hI (by decide) (by decide)
                exact this
              have yI : (q0.iterAt (w11.heap.size + 1) ⟨#[122, 97]⟩ (0 + 1)).heap[(w11.heap.size + 1)]? = some (.stringIter ⟨#[122, 97]⟩ (0 + 1)) := Lib.iterAt_heap _ _ _ _ _ hI
              have yC : (q0.iterAt (w11.heap.size + 1) ⟨#[122, 97]⟩ (0 + 1)).heap[w11.heap.size]? = some (.cells #[.int .i64 k, .int .i64 0, .int .i64 0, .int .i64 0, .slice (some ⟨gb, go + 2, none⟩) (r.length) (cc)] 27 (0, 0)) := (Lib.iterAt_other _ _ _ _ _ (by omega)).trans hC
              have yb : Below w11.heap.size w11 (q0.iterAt (w11.heap.size + 1) ⟨#[122, 97]⟩ (0 + 1)) := Lib.below_iterAt bX (by omega) _ _
              have yc : ∀ i, (q0.iterAt (w11.heap.size + 1) ⟨#[122, 97]⟩ (0 + 1)).cell? ⟨w11.heap.size, i, none⟩ = _ := fun i => cell_of_row _ _ _ _ _ _ yC
              have yf : ∀ i, (q0.iterAt (w11.heap.size + 1) ⟨#[122, 97]⟩ (0 + 1)).frozen? ⟨w11.heap.size, i, none⟩ = false := fun i => frozen_rowQ yC
              have ye := keepc yb e0
              generalize hY : (q0.iterAt (w11.heap.size + 1) ⟨#[122, 97]⟩ (0 + 1)) = z at hn yI yC yb yc yf ye
              clear hI hC bX hY
              go_wp2
              have hI : (z.setCell ⟨w11.heap.size, 1, none⟩ (.int .i64 y0)).heap[(w11.heap.size + 1)]? = some (.stringIter ⟨#[122, 97]⟩ (0 + 1)) := (Below.heap_setCell _ _ _ _ (by simp)).trans yI
              have hC : (z.setCell ⟨w11.heap.size, 1, none⟩ (.int .i64 y0)).heap[w11.heap.size]? = some (.cells #[.int .i64 k, .int .i64 y0, .int .i64 0, .int .i64 0, .slice (some ⟨gb, go + 2, none⟩) (r.length) (cc)] 27 (0, 0)) := Lib.heap_setCell_same (i := 1) yC (.int .i64 y0)
              have bX : Below w11.heap.size w11 (z.setCell ⟨w11.heap.size, 1, none⟩ (.int .i64 y0)) := yb.setCell (p := ⟨w11.heap.size, 1, none⟩) (Nat.le_refl _) _
              generalize z.setCell ⟨w11.heap.size, 1, none⟩ (.int .i64 y0) = q1 at *
              clear hn yI yC yb yc yf ye
              rw [rounds_succ]
              have hn : ∀ ty, (Instr.next (.pointer (some ⟨(w11.heap.size + 1), 0, none⟩)) true ty).run Tryz.prog q1 = .ok (.tuple #[.bool true, .int .i64 1, .int .i32 97]) (q1.iterAt (w11.heap.size + 1) ⟨#[122, 97]⟩ (1 + 1)) := fun ty => by
                have := Lib.run_next_ascii_at (P := Tryz.prog) q1 (w11.heap.size + 1) ⟨#[122, 97]⟩ 1 ty hI (by decide) (by decide)
                exact this
              have yI : (q1.iterAt (w11.heap.size + 1) ⟨#[122, 97]⟩ (1 + 1)).heap[(w11.heap.size + 1)]? = some (.stringIter ⟨#[122, 97]⟩ (1 + 1)) := Lib.iterAt_heap _ _ _ _ _ hI
              have yC : (q1.iterAt (w11.heap.size + 1) ⟨#[122, 97]⟩ (1 + 1)).heap[w11.heap.size]? = some (.cells #[.int .i64 k, .int .i64 y0, .int .i64 0, .int .i64 0, .slice (some ⟨gb, go + 2, none⟩) (r.length) (cc)] 27 (0, 0)) := (Lib.iterAt_other _ _ _ _ _ (by omega)).trans hC
              have yb : Below w11.heap.size w11 (q1.iterAt (w11.heap.size + 1) ⟨#[122, 97]⟩ (1 + 1)) := Lib.below_iterAt bX (by omega) _ _
              have yc : ∀ i, (q1.iterAt (w11.heap.size + 1) ⟨#[122, 97]⟩ (1 + 1)).cell? ⟨w11.heap.size, i, none⟩ = _ := fun i => cell_of_row _ _ _ _ _ _ yC
              have yf : ∀ i, (q1.iterAt (w11.heap.size + 1) ⟨#[122, 97]⟩ (1 + 1)).frozen? ⟨w11.heap.size, i, none⟩ = false := fun i => frozen_rowQ yC
              have ye := keepc yb e1
              generalize hY : (q1.iterAt (w11.heap.size + 1) ⟨#[122, 97]⟩ (1 + 1)) = z at hn yI yC yb yc yf ye
              clear hI hC bX hY
              go_wp2
              have hI : (z.setCell ⟨w11.heap.size, 3, none⟩ (.int .i64 y1)).heap[(w11.heap.size + 1)]? = some (.stringIter ⟨#[122, 97]⟩ (1 + 1)) := (Below.heap_setCell _ _ _ _ (by simp)).trans yI
              have hC : (z.setCell ⟨w11.heap.size, 3, none⟩ (.int .i64 y1)).heap[w11.heap.size]? = some (.cells #[.int .i64 k, .int .i64 y0, .int .i64 0, .int .i64 y1, .slice (some ⟨gb, go + 2, none⟩) (r.length) (cc)] 27 (0, 0)) := Lib.heap_setCell_same (i := 3) yC (.int .i64 y1)
              have bX : Below w11.heap.size w11 (z.setCell ⟨w11.heap.size, 3, none⟩ (.int .i64 y1)) := yb.setCell (p := ⟨w11.heap.size, 3, none⟩) (Nat.le_refl _) _
              generalize z.setCell ⟨w11.heap.size, 3, none⟩ (.int .i64 y1) = q2 at *
              clear hn yI yC yb yc yf ye
              rw [rounds_succ]
              have hn : ∀ ty, (Instr.next (.pointer (some ⟨(w11.heap.size + 1), 0, none⟩)) true ty).run Tryz.prog q2 = .ok (.tuple #[.bool false]) q2 := fun ty => Lib.run_next_end_at (P := Tryz.prog) q2 (w11.heap.size + 1) ⟨#[122, 97]⟩ 2 ty hI (by decide)
              have yc : ∀ i, q2.cell? ⟨w11.heap.size, i, none⟩ = _ := fun i => cell_of_row _ _ _ _ _ _ hC
              have ld : w11.heap.size < q2.heap.size := (Array.getElem?_eq_some_iff.1 hC).1
              have HC := hide hC
              have ix := id_.below bX (Nat.le_refl _)
              have KC := hide (fun w' h' => CheckCmd_c ((some ⟨gb, go + 2, none⟩)) (r.length) (cc) ⟨k, y0, 0, y1, r⟩ w' h')
              unfold cmdV at KC
              dsimp only at KC
              clear hC
              go_wp2_with fail
              refine (KC.out _ ix).mono ?_
              rintro e w14 ⟨rfl, hb14⟩
              have c14 := (hb14.block _ ld).trans HC.out
              have zc : ∀ i, w14.cell? ⟨w11.heap.size, i, none⟩ = _ := fun i => cell_of_row _ _ _ _ _ _ c14
              have b14 : Below w3.heap.size w3 w14 := (hb10.trans (bX.mono hb10.size)).trans (hb14.mono (hb10.trans (bX.mono hb10.size)).size)
              have i14 := ix.below hb14 (Nat.le_refl _)
              clear KC hb14 c14 HC yc hn hI
              by_cases hck : checkC ⟨k, y0, 0, y1, r⟩ = 0
              · have HF : Hid (parseC s = (⟨k, y0, 0, y1, r⟩, 0)) := hide (by rw [HP.out, hlay]; simp [hck])
                rw [hck]
                have r9 := (b14.block _ l3).trans R3.out
                have c0 : ∀ i, w14.cell? ⟨w.heap.size, i, none⟩ = _ := fun i => cell_of_row _ _ _ _ _ _ r9
                have f0 : ∀ i, w14.frozen? ⟨w.heap.size, i, none⟩ = false := fun i => frozen_rowQ r9
                have b9 : Below w.heap.size w w14 := bw3.trans (b14.mono (Nat.le_of_lt l3))
                clear r9
                go_wp2
                refine bodyPost_ret (v := .tuple #[cmdV ((some ⟨gb, go + 2, none⟩)) (r.length) (cc) ⟨k, y0, 0, y1, r⟩, .int .i64 0]) (by simp [results, Tryz.results56, go_sem, cmdV, c0]) rfl ⟨?_, five_below b9 _ _ _ _ _⟩
                rw [HF.out]
                exact ⟨_, _, _, rfl, i14.five _ (fun x e => Nat.ne_of_gt (HNE x e)) _ _ _ _ _, fun x e => Nat.le_of_lt (HNE x e)⟩
              · have HBAD : Hid (parseC s = (zeroC, checkC ⟨k, y0, 0, y1, r⟩)) := hide (by rw [HP.out, hlay]; simp [hck])
                have hcb : (checkC ⟨k, y0, 0, y1, r⟩ != 0) = true := by simpa using hck
                generalize checkC ⟨k, y0, 0, y1, r⟩ = cb at *
                go_wp2_with fail
                refine (readBad_c _ _).mono ?_
                rintro e w15 ⟨rfl, hb15⟩
                have hb39 : Below w3.heap.size w3 w15 := b14.trans (hb15.mono b14.size)
                have r9 := (hb39.block _ l3).trans R3.out
                have c0 : ∀ i, w15.cell? ⟨w.heap.size, i, none⟩ = _ := fun i => cell_of_row _ _ _ _ _ _ r9
                have f0 : ∀ i, w15.frozen? ⟨w.heap.size, i, none⟩ = false := fun i => frozen_rowQ r9
                have b9 : Below w.heap.size w w15 := bw3.trans (hb39.mono (Nat.le_of_lt l3))
                clear r9 hb39 hb15
                go_wp2
                refine bodyPost_ret (v := .tuple #[cmdV none 0 0 zeroC, .int .i64 cb]) (by simp [results, Tryz.results56, go_sem, cmdV, zeroC, c0]) rfl ⟨?_, five_below b9 _ _ _ _ _⟩
                rw [HBAD.out]
                exact .zero rfl
        · rw [hS]
          have htr : (Lib.trimSuffix (⟨#[122, 97, 110]⟩ : ByteArray).data.toList (⟨#[100]⟩ : ByteArray).data.toList) = [122, 97, 110] := by decide
          have hsf : Lib.hasSuffix (⟨#[122, 97, 110]⟩ : ByteArray).data.toList (⟨#[100]⟩ : ByteArray).data.toList = false := by decide
          go_wp2_with fail
          refine (Tryz.strings_TrimSuffix ⟨#[122, 97, 110]⟩ ⟨#[100]⟩ _ (by decide)).mono ?_
          rintro e w11 ⟨rfl, rfl⟩
          rw [htr]
          by_cases hlt : acc.length < 3
          · have hlt' : (acc.length : Int) < 3 := by omega
            have hlay : layC k acc = none := by
              unfold layC
              rw [hL]
              rcases acc with _ | ⟨x, _ | ⟨y, _ | ⟨u, acc⟩⟩⟩ <;> first | (simp [lay3]; done) | (exfalso; simp at hlt; done) | (exfalso; simp at hlt; omega)
            go_wp2_with (go_at_call 37; refine (Tryz.strings_HasSuffix ⟨#[122, 97, 110]⟩ ⟨#[100]⟩ _ (by decide)).mono ?_; rintro e w13 ⟨rfl, rfl⟩; rw [hsf])
            refine (readBad_c _ _).mono ?_
            rintro e w9 ⟨rfl, hb9⟩
            have hb39 : Below w3.heap.size w3 w9 := hb10.trans (hb9.mono hb10.size)
            have r9 := (hb39.block _ l3).trans R3.out
            have c0 : ∀ i, w9.cell? ⟨w.heap.size, i, none⟩ = _ := fun i => cell_of_row _ _ _ _ _ _ r9
            have f0 : ∀ i, w9.frozen? ⟨w.heap.size, i, none⟩ = false := fun i => frozen_rowQ r9
            have b9 : Below w.heap.size w w9 := bw3.trans (hb39.mono (Nat.le_of_lt l3))
            clear r9 hb39 hb9
            go_wp2
            refine bodyPost_ret (v := .tuple #[cmdV none 0 0 zeroC, .int .i64 1]) (by simp [results, Tryz.results56, go_sem, cmdV, zeroC, c0]) rfl ⟨?_, five_below b9 _ _ _ _ _⟩
            rw [HP.out, hlay]
            exact .zero rfl
          · have hge' : ¬ (acc.length : Int) < 3 := by omega
            by_cases heq : 3 < acc.length
            · have heq' : (3 : Int) < (acc.length : Int) := by omega
              have hlay : layC k acc = none := by
                unfold layC
                rw [hL, hD]
                rcases acc with _ | ⟨x, _ | ⟨y, _ | ⟨u, _ | ⟨q, acc⟩⟩⟩⟩ <;> first | (simp [lay3, hD]; done) | (exfalso; simp at heq hlt; done) | (exfalso; simp at heq hlt; omega)
              go_wp2_with (go_at_call 37; refine (Tryz.strings_HasSuffix ⟨#[122, 97, 110]⟩ ⟨#[100]⟩ _ (by decide)).mono ?_; rintro e w13 ⟨rfl, rfl⟩; rw [hsf])
              refine (readBad_c _ _).mono ?_
              rintro e w9 ⟨rfl, hb9⟩
              have hb39 : Below w3.heap.size w3 w9 := hb10.trans (hb9.mono hb10.size)
              have r9 := (hb39.block _ l3).trans R3.out
              have c0 : ∀ i, w9.cell? ⟨w.heap.size, i, none⟩ = _ := fun i => cell_of_row _ _ _ _ _ _ r9
              have f0 : ∀ i, w9.frozen? ⟨w.heap.size, i, none⟩ = false := fun i => frozen_rowQ r9
              have b9 : Below w.heap.size w w9 := bw3.trans (hb39.mono (Nat.le_of_lt l3))
              clear r9 hb39 hb9
              go_wp2
              refine bodyPost_ret (v := .tuple #[cmdV none 0 0 zeroC, .int .i64 1]) (by simp [results, Tryz.results56, go_sem, cmdV, zeroC, c0]) rfl ⟨?_, five_below b9 _ _ _ _ _⟩
              rw [HP.out, hlay]
              exact .zero rfl
            · obtain ⟨y0, y1, y2, rfl⟩ : ∃ y0 y1 y2, acc = [y0, y1, y2] := by
                rcases acc with _ | ⟨y0, _ | ⟨y1, _ | ⟨y2, _ | ⟨y3, acc⟩⟩⟩⟩ <;> simp at heq hlt <;> exact ⟨_, _, _, rfl⟩
              simp only [List.length_cons, List.length_nil] at inn ⊢
              obtain ⟨cc, rfl⟩ : ∃ cc, cn = cc + 3 := ⟨cn - 3, by have := inn.le; omega⟩
              rcases inn.row with h00 | ⟨gb, go, rfl, hgl, hgc⟩
              · exact absurd h00 (by omega)
              have e0 : w11.cell? ⟨gb, go, none⟩ = some (.int .i64 y0) := hgc 0 (by omega)
              have e1 : w11.cell? ⟨gb, go + 1, none⟩ = some (.int .i64 y1) := hgc 1 (by omega)
              have e2 : w11.cell? ⟨gb, go + 2, none⟩ = some (.int .i64 y2) := hgc 2 (by omega)
              have hmx := inn.max
              have hle := inn.le
              have hlay : layC k ([y0, y1, y2]) = some ⟨k, y0, y2, y1, []⟩ := by
                unfold layC
                rw [hL]
                simp [lay3, hD]
              rcases Nat.eq_zero_or_pos cc with rfl | hcc
              · skip
                have id_ : Ints w11 (some ⟨gb, go, none⟩) 0 0 [] := ⟨rfl, by omega, by omega, (fun e => by cases e), .inl rfl, by simp⟩
                have HNE : ∀ x : Addr, ((some ⟨gb, go, none⟩) : Option Addr) = some x → w.heap.size < x.block := fun x e => by
                  cases e
                  have := hbase _ rfl
                  dsimp only at this ⊢
                  omega
                go_wp2_with (go_at_call 37; refine (Tryz.strings_HasSuffix ⟨#[122, 97, 110]⟩ ⟨#[100]⟩ _ (by decide)).mono ?_; rintro e w11 ⟨rfl, rfl⟩; rw [hsf])
                rw [show (⟨#[122, 97, 110]⟩ : ByteArray).extract 0 3 = ⟨#[122, 97, 110]⟩ by decide +kernel]
                have hI : ((w11.alloc (.cells #[.int .i64 k, .int .i64 0, .int .i64 0, .int .i64 0, .slice (some ⟨gb, go, none⟩) (0) (0)] 27)).iter ⟨#[122, 97, 110]⟩ 0).heap[(w11.heap.size + 1)]? = some (.stringIter ⟨#[122, 97, 110]⟩ 0) := by
                  have := World.iter_heap (w11.alloc (.cells #[.int .i64 k, .int .i64 0, .int .i64 0, .int .i64 0, .slice (some ⟨gb, go, none⟩) (0) (0)] 27)) ⟨#[122, 97, 110]⟩ 0
                  rwa [show (w11.alloc (.cells #[.int .i64 k, .int .i64 0, .int .i64 0, .int .i64 0, .slice (some ⟨gb, go, none⟩) (0) (0)] 27)).heap.size = w11.heap.size + 1 by simp] at this
                have hC : ((w11.alloc (.cells #[.int .i64 k, .int .i64 0, .int .i64 0, .int .i64 0, .slice (some ⟨gb, go, none⟩) (0) (0)] 27)).iter ⟨#[122, 97, 110]⟩ 0).heap[w11.heap.size]? = some (.cells #[.int .i64 k, .int .i64 0, .int .i64 0, .int .i64 0, .slice (some ⟨gb, go, none⟩) (0) (0)] 27 (0, 0)) := (Below.heap_alloc _ _ _ (by simp)).trans (heap_new _ _)
                have bX : Below w11.heap.size w11 ((w11.alloc (.cells #[.int .i64 k, .int .i64 0, .int .i64 0, .int .i64 0, .slice (some ⟨gb, go, none⟩) (0) (0)] 27)).iter ⟨#[122, 97, 110]⟩ 0) := belowA (belowA (Below.refl _ _) _) _
                generalize ((w11.alloc (.cells #[.int .i64 k, .int .i64 0, .int .i64 0, .int .i64 0, .slice (some ⟨gb, go, none⟩) (0) (0)] 27)).iter ⟨#[122, 97, 110]⟩ 0) = q0 at *
                refine wp_loop_rounds 4 ?_
                rw [rounds_succ]
                have hn : ∀ ty, (Instr.next (.pointer (some ⟨(w11.heap.size + 1), 0, none⟩)) true ty).run Tryz.prog q0 = .ok (.tuple #[.bool true, .int .i64 0, .int .i32 122]) (q0.iterAt (w11.heap.size + 1) ⟨#[122, 97, 110]⟩ (0 + 1)) := fun ty => by
                  have := Lib.run_next_ascii_at (P := Tryz.prog) q0 (w11.heap.size + 1) ⟨#[122, 97, 110]⟩ 0 ty hI (by decide) (by decide)
                  exact this
                have yI : (q0.iterAt (w11.heap.size + 1) ⟨#[122, 97, 110]⟩ (0 + 1)).heap[(w11.heap.size + 1)]? = some (.stringIter ⟨#[122, 97, 110]⟩ (0 + 1)) := Lib.iterAt_heap _ _ _ _ _ hI
                have yC : (q0.iterAt (w11.heap.size + 1) ⟨#[122, 97, 110]⟩ (0 + 1)).heap[w11.heap.size]? = some (.cells #[.int .i64 k, .int .i64 0, .int .i64 0, .int .i64 0, .slice (some ⟨gb, go, none⟩) (0) (0)] 27 (0, 0)) := (Lib.iterAt_other _ _ _ _ _ (by omega)).trans hC
                have yb : Below w11.heap.size w11 (q0.iterAt (w11.heap.size + 1) ⟨#[122, 97, 110]⟩ (0 + 1)) := Lib.below_iterAt bX (by omega) _ _
                have yc : ∀ i, (q0.iterAt (w11.heap.size + 1) ⟨#[122, 97, 110]⟩ (0 + 1)).cell? ⟨w11.heap.size, i, none⟩ = _ := fun i => cell_of_row _ _ _ _ _ _ yC
                have yf : ∀ i, (q0.iterAt (w11.heap.size + 1) ⟨#[122, 97, 110]⟩ (0 + 1)).frozen? ⟨w11.heap.size, i, none⟩ = false := fun i => frozen_rowQ yC
                have ye := keepc yb e0
                generalize hY : (q0.iterAt (w11.heap.size + 1) ⟨#[122, 97, 110]⟩ (0 + 1)) = z at hn yI yC yb yc yf ye
                clear hI hC bX hY
                go_wp2
                have hI : (z.setCell ⟨w11.heap.size, 1, none⟩ (.int .i64 y0)).heap[(w11.heap.size + 1)]? = some (.stringIter ⟨#[122, 97, 110]⟩ (0 + 1)) := (Below.heap_setCell _ _ _ _ (by simp)).trans yI
                have hC : (z.setCell ⟨w11.heap.size, 1, none⟩ (.int .i64 y0)).heap[w11.heap.size]? = some (.cells #[.int .i64 k, .int .i64 y0, .int .i64 0, .int .i64 0, .slice (some ⟨gb, go, none⟩) (0) (0)] 27 (0, 0)) := Lib.heap_setCell_same (i := 1) yC (.int .i64 y0)
                have bX : Below w11.heap.size w11 (z.setCell ⟨w11.heap.size, 1, none⟩ (.int .i64 y0)) := yb.setCell (p := ⟨w11.heap.size, 1, none⟩) (Nat.le_refl _) _
                generalize z.setCell ⟨w11.heap.size, 1, none⟩ (.int .i64 y0) = q1 at *
                clear hn yI yC yb yc yf ye
                rw [rounds_succ]
                have hn : ∀ ty, (Instr.next (.pointer (some ⟨(w11.heap.size + 1), 0, none⟩)) true ty).run Tryz.prog q1 = .ok (.tuple #[.bool true, .int .i64 1, .int .i32 97]) (q1.iterAt (w11.heap.size + 1) ⟨#[122, 97, 110]⟩ (1 + 1)) := fun ty => by
                  have := Lib.run_next_ascii_at (P := Tryz.prog) q1 (w11.heap.size + 1) ⟨#[122, 97, 110]⟩ 1 ty hI (by decide) (by decide)
                  exact this
                have yI : (q1.iterAt (w11.heap.size + 1) ⟨#[122, 97, 110]⟩ (1 + 1)).heap[(w11.heap.size + 1)]? = some (.stringIter ⟨#[122, 97, 110]⟩ (1 + 1)) := Lib.iterAt_heap _ _ _ _ _ hI
                have yC : (q1.iterAt (w11.heap.size + 1) ⟨#[122, 97, 110]⟩ (1 + 1)).heap[w11.heap.size]? = some (.cells #[.int .i64 k, .int .i64 y0, .int .i64 0, .int .i64 0, .slice (some ⟨gb, go, none⟩) (0) (0)] 27 (0, 0)) := (Lib.iterAt_other _ _ _ _ _ (by omega)).trans hC
                have yb : Below w11.heap.size w11 (q1.iterAt (w11.heap.size + 1) ⟨#[122, 97, 110]⟩ (1 + 1)) := Lib.below_iterAt bX (by omega) _ _
                have yc : ∀ i, (q1.iterAt (w11.heap.size + 1) ⟨#[122, 97, 110]⟩ (1 + 1)).cell? ⟨w11.heap.size, i, none⟩ = _ := fun i => cell_of_row _ _ _ _ _ _ yC
                have yf : ∀ i, (q1.iterAt (w11.heap.size + 1) ⟨#[122, 97, 110]⟩ (1 + 1)).frozen? ⟨w11.heap.size, i, none⟩ = false := fun i => frozen_rowQ yC
                have ye := keepc yb e1
                generalize hY : (q1.iterAt (w11.heap.size + 1) ⟨#[122, 97, 110]⟩ (1 + 1)) = z at hn yI yC yb yc yf ye
                clear hI hC bX hY
                go_wp2
                have hI : (z.setCell ⟨w11.heap.size, 3, none⟩ (.int .i64 y1)).heap[(w11.heap.size + 1)]? = some (.stringIter ⟨#[122, 97, 110]⟩ (1 + 1)) := (Below.heap_setCell _ _ _ _ (by simp)).trans yI
                have hC : (z.setCell ⟨w11.heap.size, 3, none⟩ (.int .i64 y1)).heap[w11.heap.size]? = some (.cells #[.int .i64 k, .int .i64 y0, .int .i64 0, .int .i64 y1, .slice (some ⟨gb, go, none⟩) (0) (0)] 27 (0, 0)) := Lib.heap_setCell_same (i := 3) yC (.int .i64 y1)
                have bX : Below w11.heap.size w11 (z.setCell ⟨w11.heap.size, 3, none⟩ (.int .i64 y1)) := yb.setCell (p := ⟨w11.heap.size, 3, none⟩) (Nat.le_refl _) _
                generalize z.setCell ⟨w11.heap.size, 3, none⟩ (.int .i64 y1) = q2 at *
                clear hn yI yC yb yc yf ye
                rw [rounds_succ]
                have hn : ∀ ty, (Instr.next (.pointer (some ⟨(w11.heap.size + 1), 0, none⟩)) true ty).run Tryz.prog q2 = .ok (.tuple #[.bool true, .int .i64 2, .int .i32 110]) (q2.iterAt (w11.heap.size + 1) ⟨#[122, 97, 110]⟩ (2 + 1)) := fun ty => by
                  have := Lib.run_next_ascii_at (P := Tryz.prog) q2 (w11.heap.size + 1) ⟨#[122, 97, 110]⟩ 2 ty hI (by decide) (by decide)
                  exact this
                have yI : (q2.iterAt (w11.heap.size + 1) ⟨#[122, 97, 110]⟩ (2 + 1)).heap[(w11.heap.size + 1)]? = some (.stringIter ⟨#[122, 97, 110]⟩ (2 + 1)) := Lib.iterAt_heap _ _ _ _ _ hI
                have yC : (q2.iterAt (w11.heap.size + 1) ⟨#[122, 97, 110]⟩ (2 + 1)).heap[w11.heap.size]? = some (.cells #[.int .i64 k, .int .i64 y0, .int .i64 0, .int .i64 y1, .slice (some ⟨gb, go, none⟩) (0) (0)] 27 (0, 0)) := (Lib.iterAt_other _ _ _ _ _ (by omega)).trans hC
                have yb : Below w11.heap.size w11 (q2.iterAt (w11.heap.size + 1) ⟨#[122, 97, 110]⟩ (2 + 1)) := Lib.below_iterAt bX (by omega) _ _
                have yc : ∀ i, (q2.iterAt (w11.heap.size + 1) ⟨#[122, 97, 110]⟩ (2 + 1)).cell? ⟨w11.heap.size, i, none⟩ = _ := fun i => cell_of_row _ _ _ _ _ _ yC
                have yf : ∀ i, (q2.iterAt (w11.heap.size + 1) ⟨#[122, 97, 110]⟩ (2 + 1)).frozen? ⟨w11.heap.size, i, none⟩ = false := fun i => frozen_rowQ yC
                have ye := keepc yb e2
                generalize hY : (q2.iterAt (w11.heap.size + 1) ⟨#[122, 97, 110]⟩ (2 + 1)) = z at hn yI yC yb yc yf ye
                clear hI hC bX hY
                go_wp2
                have hI : (z.setCell ⟨w11.heap.size, 2, none⟩ (.int .i64 y2)).heap[(w11.heap.size + 1)]? = some (.stringIter ⟨#[122, 97, 110]⟩ (2 + 1)) := (Below.heap_setCell _ _ _ _ (by simp)).trans yI
                have hC : (z.setCell ⟨w11.heap.size, 2, none⟩ (.int .i64 y2)).heap[w11.heap.size]? = some (.cells #[.int .i64 k, .int .i64 y0, .int .i64 y2, .int .i64 y1, .slice (some ⟨gb, go, none⟩) (0) (0)] 27 (0, 0)) := Lib.heap_setCell_same (i := 2) yC (.int .i64 y2)
                have bX : Below w11.heap.size w11 (z.setCell ⟨w11.heap.size, 2, none⟩ (.int .i64 y2)) := yb.setCell (p := ⟨w11.heap.size, 2, none⟩) (Nat.le_refl _) _
                generalize z.setCell ⟨w11.heap.size, 2, none⟩ (.int .i64 y2) = q3 at *
                clear hn yI yC yb yc yf ye
                rw [rounds_succ]
                have hn : ∀ ty, (Instr.next (.pointer (some ⟨(w11.heap.size + 1), 0, none⟩)) true ty).run Tryz.prog q3 = .ok (.tuple #[.bool false]) q3 := fun ty => Lib.run_next_end_at (P := Tryz.prog) q3 (w11.heap.size + 1) ⟨#[122, 97, 110]⟩ 3 ty hI (by decide)
                have yc : ∀ i, q3.cell? ⟨w11.heap.size, i, none⟩ = _ := fun i => cell_of_row _ _ _ _ _ _ hC
                have ld : w11.heap.size < q3.heap.size := (Array.getElem?_eq_some_iff.1 hC).1
                have HC := hide hC
                have ix := id_.below bX (Nat.le_refl _)
                have KC := hide (fun w' h' => CheckCmd_c ((some ⟨gb, go, none⟩)) (0) (0) ⟨k, y0, y2, y1, []⟩ w' h')
                unfold cmdV at KC
                dsimp only at KC
                clear hC
                go_wp2_with fail
                refine (KC.out _ ix).mono ?_
                rintro e w14 ⟨rfl, hb14⟩
                have c14 := (hb14.block _ ld).trans HC.out
                have zc : ∀ i, w14.cell? ⟨w11.heap.size, i, none⟩ = _ := fun i => cell_of_row _ _ _ _ _ _ c14
                have b14 : Below w3.heap.size w3 w14 := (hb10.trans (bX.mono hb10.size)).trans (hb14.mono (hb10.trans (bX.mono hb10.size)).size)
                have i14 := ix.below hb14 (Nat.le_refl _)
                clear KC hb14 c14 HC yc hn hI
                by_cases hck : checkC ⟨k, y0, y2, y1, []⟩ = 0
                · have HF : Hid (parseC s = (⟨k, y0, y2, y1, []⟩, 0)) := hide (by rw [HP.out, hlay]; simp [hck])
                  rw [hck]
                  have r9 := (b14.block _ l3).trans R3.out
                  have c0 : ∀ i, w14.cell? ⟨w.heap.size, i, none⟩ = _ := fun i => cell_of_row _ _ _ _ _ _ r9
                  have f0 : ∀ i, w14.frozen? ⟨w.heap.size, i, none⟩ = false := fun i => frozen_rowQ r9
                  have b9 : Below w.heap.size w w14 := bw3.trans (b14.mono (Nat.le_of_lt l3))
                  clear r9
                  go_wp2
                  refine bodyPost_ret (v := .tuple #[cmdV ((some ⟨gb, go, none⟩)) (0) (0) ⟨k, y0, y2, y1, []⟩, .int .i64 0]) (by simp [results, Tryz.results56, go_sem, cmdV, c0]) rfl ⟨?_, five_below b9 _ _ _ _ _⟩
                  rw [HF.out]
                  exact ⟨_, _, _, rfl, i14.five _ (fun x e => Nat.ne_of_gt (HNE x e)) _ _ _ _ _, fun x e => Nat.le_of_lt (HNE x e)⟩
                · have HBAD : Hid (parseC s = (zeroC, checkC ⟨k, y0, y2, y1, []⟩)) := hide (by rw [HP.out, hlay]; simp [hck])
                  have hcb : (checkC ⟨k, y0, y2, y1, []⟩ != 0) = true := by simpa using hck
                  generalize checkC ⟨k, y0, y2, y1, []⟩ = cb at *
                  go_wp2_with fail
                  refine (readBad_c _ _).mono ?_
                  rintro e w15 ⟨rfl, hb15⟩
                  have hb39 : Below w3.heap.size w3 w15 := b14.trans (hb15.mono b14.size)
                  have r9 := (hb39.block _ l3).trans R3.out
                  have c0 : ∀ i, w15.cell? ⟨w.heap.size, i, none⟩ = _ := fun i => cell_of_row _ _ _ _ _ _ r9
                  have f0 : ∀ i, w15.frozen? ⟨w.heap.size, i, none⟩ = false := fun i => frozen_rowQ r9
                  have b9 : Below w.heap.size w w15 := bw3.trans (hb39.mono (Nat.le_of_lt l3))
                  clear r9 hb39 hb15
                  go_wp2
                  refine bodyPost_ret (v := .tuple #[cmdV none 0 0 zeroC, .int .i64 cb]) (by simp [results, Tryz.results56, go_sem, cmdV, zeroC, c0]) rfl ⟨?_, five_below b9 _ _ _ _ _⟩
                  rw [HBAD.out]
                  exact .zero rfl
              · skip
                have hcc' : ¬ cc = 0 := by omega
                have id_ : Ints w11 (some ⟨gb, go + 3, none⟩) 0 cc [] := ⟨rfl, by omega, by omega, (fun e => by cases e), .inl rfl, by simp⟩
                have HNE : ∀ x : Addr, ((some ⟨gb, go + 3, none⟩) : Option Addr) = some x → w.heap.size < x.block := fun x e => by
                  cases e
                  have := hbase _ rfl
                  dsimp only at this ⊢
                  omega
                go_wp2_with (go_at_call 37; refine (Tryz.strings_HasSuffix ⟨#[122, 97, 110]⟩ ⟨#[100]⟩ _ (by decide)).mono ?_; rintro e w11 ⟨rfl, rfl⟩; rw [hsf])
                rw [show (⟨#[122, 97, 110]⟩ : ByteArray).extract 0 3 = ⟨#[122, 97, 110]⟩ by decide +kernel]
                have hI : ((w11.alloc (.cells #[.int .i64 k, .int .i64 0, .int .i64 0, .int .i64 0, .slice (some ⟨gb, go + 3, none⟩) (0) (cc)] 27)).iter ⟨#[122, 97, 110]⟩ 0).heap[(w11.heap.size + 1)]? = some (.stringIter ⟨#[122, 97, 110]⟩ 0) := by
                  have := World.iter_heap (w11.alloc (.cells #[.int .i64 k, .int .i64 0, .int .i64 0, .int .i64 0, .slice (some ⟨gb, go + 3, none⟩) (0) (cc)] 27)) ⟨#[122, 97, 110]⟩ 0
                  rwa [show (w11.alloc (.cells #[.int .i64 k, .int .i64 0, .int .i64 0, .int .i64 0, .slice (some ⟨gb, go + 3, none⟩) (0) (cc)] 27)).heap.size = w11.heap.size + 1 by simp] at this
                have hC : ((w11.alloc (.cells #[.int .i64 k, .int .i64 0, .int .i64 0, .int .i64 0, .slice (some ⟨gb, go + 3, none⟩) (0) (cc)] 27)).iter ⟨#[122, 97, 110]⟩ 0).heap[w11.heap.size]? = some (.cells #[.int .i64 k, .int .i64 0, .int .i64 0, .int .i64 0, .slice (some ⟨gb, go + 3, none⟩) (0) (cc)] 27 (0, 0)) := (Below.heap_alloc _ _ _ (by simp)).trans (heap_new _ _)
                have bX : Below w11.heap.size w11 ((w11.alloc (.cells #[.int .i64 k, .int .i64 0, .int .i64 0, .int .i64 0, .slice (some ⟨gb, go + 3, none⟩) (0) (cc)] 27)).iter ⟨#[122, 97, 110]⟩ 0) := belowA (belowA (Below.refl _ _) _) _
                generalize ((w11.alloc (.cells #[.int .i64 k, .int .i64 0, .int .i64 0, .int .i64 0, .slice (some ⟨gb, go + 3, none⟩) (0) (cc)] 27)).iter ⟨#[122, 97, 110]⟩ 0) = q0 at *
                refine wp_loop_rounds 4 ?_
                rw [rounds_succ]
                have hn : ∀ ty, (Instr.next (.pointer (some ⟨(w11.heap.size + 1), 0, none⟩)) true ty).run Tryz.prog q0 = .ok (.tuple #[.bool true, .int .i64 0, .int .i32 122]) (q0.iterAt (w11.heap.size + 1) ⟨#[122, 97, 110]⟩ (0 + 1)) := fun ty => by
                  have := Lib.run_next_ascii_at (P := Tryz.prog) q0 (w11.heap.size + 1) ⟨#[122, 97, 110]⟩ 0 ty hI (by decide) (by decide)
                  exact this
                have yI : (q0.iterAt (w11.heap.size + 1) ⟨#[122, 97, 110]⟩ (0 + 1)).heap[(w11.heap.size + 1)]? = some (.stringIter ⟨#[122, 97, 110]⟩ (0 + 1)) := Lib.iterAt_heap _ _ _ _ _ hI
                have yC : (q0.iterAt (w11.heap.size + 1) ⟨#[122, 97, 110]⟩ (0 + 1)).heap[w11.heap.size]? = some (.cells #[.int .i64 k, .int .i64 0, .int .i64 0, .int .i64 0, .slice (some ⟨gb, go + 3, none⟩) (0) (cc)] 27 (0, 0)) := (Lib.iterAt_other _ _ _ _ _ (by omega)).trans hC
                have yb : Below w11.heap.size w11 (q0.iterAt (w11.heap.size + 1) ⟨#[122, 97, 110]⟩ (0 + 1)) := Lib.below_iterAt bX (by omega) _ _
                have yc : ∀ i, (q0.iterAt (w11.heap.size + 1) ⟨#[122, 97, 110]⟩ (0 + 1)).cell? ⟨w11.heap.size, i, none⟩ = _ := fun i => cell_of_row _ _ _ _ _ _ yC
                have yf : ∀ i, (q0.iterAt (w11.heap.size + 1) ⟨#[122, 97, 110]⟩ (0 + 1)).frozen? ⟨w11.heap.size, i, none⟩ = false := fun i => frozen_rowQ yC
                have ye := keepc yb e0
                generalize hY : (q0.iterAt (w11.heap.size + 1) ⟨#[122, 97, 110]⟩ (0 + 1)) = z at hn yI yC yb yc yf ye
                clear hI hC bX hY
                go_wp2
                have hI : (z.setCell ⟨w11.heap.size, 1, none⟩ (.int .i64 y0)).heap[(w11.heap.size + 1)]? = some (.stringIter ⟨#[122, 97, 110]⟩ (0 + 1)) := (Below.heap_setCell _ _ _ _ (by simp)).trans yI
                have hC : (z.setCell ⟨w11.heap.size, 1, none⟩ (.int .i64 y0)).heap[w11.heap.size]? = some (.cells #[.int .i64 k, .int .i64 y0, .int .i64 0, .int .i64 0, .slice (some ⟨gb, go + 3, none⟩) (0) (cc)] 27 (0, 0)) := Lib.heap_setCell_same (i := 1) yC (.int .i64 y0)
                have bX : Below w11.heap.size w11 (z.setCell ⟨w11.heap.size, 1, none⟩ (.int .i64 y0)) := yb.setCell (p := ⟨w11.heap.size, 1, none⟩) (Nat.le_refl _) _
                generalize z.setCell ⟨w11.heap.size, 1, none⟩ (.int .i64 y0) = q1 at *
                clear hn yI yC yb yc yf ye
                rw [rounds_succ]
                have hn : ∀ ty, (Instr.next (.pointer (some ⟨(w11.heap.size + 1), 0, none⟩)) true ty).run Tryz.prog q1 = .ok (.tuple #[.bool true, .int .i64 1, .int .i32 97]) (q1.iterAt (w11.heap.size + 1) ⟨#[122, 97, 110]⟩ (1 + 1)) := fun ty => by
                  have := Lib.run_next_ascii_at (P := Tryz.prog) q1 (w11.heap.size + 1) ⟨#[122, 97, 110]⟩ 1 ty hI (by decide) (by decide)
                  exact this
                have yI : (q1.iterAt (w11.heap.size + 1) ⟨#[122, 97, 110]⟩ (1 + 1)).heap[(w11.heap.size + 1)]? = some (.stringIter ⟨#[122, 97, 110]⟩ (1 + 1)) := Lib.iterAt_heap _ _ _ _ _ hI
                have yC : (q1.iterAt (w11.heap.size + 1) ⟨#[122, 97, 110]⟩ (1 + 1)).heap[w11.heap.size]? = some (.cells #[.int .i64 k, .int .i64 y0, .int .i64 0, .int .i64 0, .slice (some ⟨gb, go + 3, none⟩) (0) (cc)] 27 (0, 0)) := (Lib.iterAt_other _ _ _ _ _ (by omega)).trans hC
                have yb : Below w11.heap.size w11 (q1.iterAt (w11.heap.size + 1) ⟨#[122, 97, 110]⟩ (1 + 1)) := Lib.below_iterAt bX (by omega) _ _
                have yc : ∀ i, (q1.iterAt (w11.heap.size + 1) ⟨#[122, 97, 110]⟩ (1 + 1)).cell? ⟨w11.heap.size, i, none⟩ = _ := fun i => cell_of_row _ _ _ _ _ _ yC
                have yf : ∀ i, (q1.iterAt (w11.heap.size + 1) ⟨#[122, 97, 110]⟩ (1 + 1)).frozen? ⟨w11.heap.size, i, none⟩ = false := fun i => frozen_rowQ yC
                have ye := keepc yb e1
                generalize hY : (q1.iterAt (w11.heap.size + 1) ⟨#[122, 97, 110]⟩ (1 + 1)) = z at hn yI yC yb yc yf ye
                clear hI hC bX hY
                go_wp2
                have hI : (z.setCell ⟨w11.heap.size, 3, none⟩ (.int .i64 y1)).heap[(w11.heap.size + 1)]? = some (.stringIter ⟨#[122, 97, 110]⟩ (1 + 1)) := (Below.heap_setCell _ _ _ _ (by simp)).trans yI
                have hC : (z.setCell ⟨w11.heap.size, 3, none⟩ (.int .i64 y1)).heap[w11.heap.size]? = some (.cells #[.int .i64 k, .int .i64 y0, .int .i64 0, .int .i64 y1, .slice (some ⟨gb, go + 3, none⟩) (0) (cc)] 27 (0, 0)) := Lib.heap_setCell_same (i := 3) yC (.int .i64 y1)
                have bX : Below w11.heap.size w11 (z.setCell ⟨w11.heap.size, 3, none⟩ (.int .i64 y1)) := yb.setCell (p := ⟨w11.heap.size, 3, none⟩) (Nat.le_refl _) _
                generalize z.setCell ⟨w11.heap.size, 3, none⟩ (.int .i64 y1) = q2 at *
                clear hn yI yC yb yc yf ye
                rw [rounds_succ]
                have hn : ∀ ty, (Instr.next (.pointer (some ⟨(w11.heap.size + 1), 0, none⟩)) true ty).run Tryz.prog q2 = .ok (.tuple #[.bool true, .int .i64 2, .int .i32 110]) (q2.iterAt (w11.heap.size + 1) ⟨#[122, 97, 110]⟩ (2 + 1)) := fun ty => by
                  have := Lib.run_next_ascii_at (P := Tryz.prog) q2 (w11.heap.size + 1) ⟨#[122, 97, 110]⟩ 2 ty hI (by decide) (by decide)
                  exact this
                have yI : (q2.iterAt (w11.heap.size + 1) ⟨#[122, 97, 110]⟩ (2 + 1)).heap[(w11.heap.size + 1)]? = some (.stringIter ⟨#[122, 97, 110]⟩ (2 + 1)) := Lib.iterAt_heap _ _ _ _ _ hI
                have yC : (q2.iterAt (w11.heap.size + 1) ⟨#[122, 97, 110]⟩ (2 + 1)).heap[w11.heap.size]? = some (.cells #[.int .i64 k, .int .i64 y0, .int .i64 0, .int .i64 y1, .slice (some ⟨gb, go + 3, none⟩) (0) (cc)] 27 (0, 0)) := (Lib.iterAt_other _ _ _ _ _ (by omega)).trans hC
                have yb : Below w11.heap.size w11 (q2.iterAt (w11.heap.size + 1) ⟨#[122, 97, 110]⟩ (2 + 1)) := Lib.below_iterAt bX (by omega) _ _
                have yc : ∀ i, (q2.iterAt (w11.heap.size + 1) ⟨#[122, 97, 110]⟩ (2 + 1)).cell? ⟨w11.heap.size, i, none⟩ = _ := fun i => cell_of_row _ _ _ _ _ _ yC
                have yf : ∀ i, (q2.iterAt (w11.heap.size + 1) ⟨#[122, 97, 110]⟩ (2 + 1)).frozen? ⟨w11.heap.size, i, none⟩ = false := fun i => frozen_rowQ yC
                have ye := keepc yb e2
                generalize hY : (q2.iterAt (w11.heap.size + 1) ⟨#[122, 97, 110]⟩ (2 + 1)) = z at hn yI yC yb yc yf ye
                clear hI hC bX hY
                go_wp2
                have hI : (z.setCell ⟨w11.heap.size, 2, none⟩ (.int .i64 y2)).heap[(w11.heap.size + 1)]? = some (.stringIter ⟨#[122, 97, 110]⟩ (2 + 1)) := (Below.heap_setCell _ _ _ _ (by simp)).trans yI
                have hC : (z.setCell ⟨w11.heap.size, 2, none⟩ (.int .i64 y2)).heap[w11.heap.size]? = some (.cells #[.int .i64 k, .int .i64 y0, .int .i64 y2, .int .i64 y1, .slice (some ⟨gb, go + 3, none⟩) (0) (cc)] 27 (0, 0)) := Lib.heap_setCell_same (i := 2) yC (.int .i64 y2)
                have bX : Below w11.heap.size w11 (z.setCell ⟨w11.heap.size, 2, none⟩ (.int .i64 y2)) := yb.setCell (p := ⟨w11.heap.size, 2, none⟩) (Nat.le_refl _) _
                generalize z.setCell ⟨w11.heap.size, 2, none⟩ (.int .i64 y2) = q3 at *
                clear hn yI yC yb yc yf ye
                rw [rounds_succ]
                have hn : ∀ ty, (Instr.next (.pointer (some ⟨(w11.heap.size + 1), 0, none⟩)) true ty).run Tryz.prog q3 = .ok (.tuple #[.bool false]) q3 := fun ty => Lib.run_next_end_at (P := Tryz.prog) q3 (w11.heap.size + 1) ⟨#[122, 97, 110]⟩ 3 ty hI (by decide)
                have yc : ∀ i, q3.cell? ⟨w11.heap.size, i, none⟩ = _ := fun i => cell_of_row _ _ _ _ _ _ hC
                have ld : w11.heap.size < q3.heap.size := (Array.getElem?_eq_some_iff.1 hC).1
                have HC := hide hC
                have ix := id_.below bX (Nat.le_refl _)
                have KC := hide (fun w' h' => CheckCmd_c ((some ⟨gb, go + 3, none⟩)) (0) (cc) ⟨k, y0, y2, y1, []⟩ w' h')
                unfold cmdV at KC
                dsimp only at KC
                clear hC
                go_wp2_with fail
                refine (KC.out _ ix).mono ?_
                rintro e w14 ⟨rfl, hb14⟩
                have c14 := (hb14.block _ ld).trans HC.out
                have zc : ∀ i, w14.cell? ⟨w11.heap.size, i, none⟩ = _ := fun i => cell_of_row _ _ _ _ _ _ c14
                have b14 : Below w3.heap.size w3 w14 := (hb10.trans (bX.mono hb10.size)).trans (hb14.mono (hb10.trans (bX.mono hb10.size)).size)
                have i14 := ix.below hb14 (Nat.le_refl _)
                clear KC hb14 c14 HC yc hn hI
                by_cases hck : checkC ⟨k, y0, y2, y1, []⟩ = 0
                · have HF : Hid (parseC s = (⟨k, y0, y2, y1, []⟩, 0)) := hide (by rw [HP.out, hlay]; simp [hck])
                  rw [hck]
                  have r9 := (b14.block _ l3).trans R3.out
                  have c0 : ∀ i, w14.cell? ⟨w.heap.size, i, none⟩ = _ := fun i => cell_of_row _ _ _ _ _ _ r9
                  have f0 : ∀ i, w14.frozen? ⟨w.heap.size, i, none⟩ = false := fun i => frozen_rowQ r9
                  have b9 : Below w.heap.size w w14 := bw3.trans (b14.mono (Nat.le_of_lt l3))
                  clear r9
                  go_wp2
                  refine bodyPost_ret (v := .tuple #[cmdV ((some ⟨gb, go + 3, none⟩)) (0) (cc) ⟨k, y0, y2, y1, []⟩, .int .i64 0]) (by simp [results, Tryz.results56, go_sem, cmdV, c0]) rfl ⟨?_, five_below b9 _ _ _ _ _⟩
                  rw [HF.out]
                  exact ⟨_, _, _, rfl, i14.five _ (fun x e => Nat.ne_of_gt (HNE x e)) _ _ _ _ _, fun x e => Nat.le_of_lt (HNE x e)⟩
                · have HBAD : Hid (parseC s = (zeroC, checkC ⟨k, y0, y2, y1, []⟩)) := hide (by rw [HP.out, hlay]; simp [hck])
                  have hcb : (checkC ⟨k, y0, y2, y1, []⟩ != 0) = true := by simpa using hck
                  generalize checkC ⟨k, y0, y2, y1, []⟩ = cb at *
                  go_wp2_with fail
                  refine (readBad_c _ _).mono ?_
                  rintro e w15 ⟨rfl, hb15⟩
                  have hb39 : Below w3.heap.size w3 w15 := b14.trans (hb15.mono b14.size)
                  have r9 := (hb39.block _ l3).trans R3.out
                  have c0 : ∀ i, w15.cell? ⟨w.heap.size, i, none⟩ = _ := fun i => cell_of_row _ _ _ _ _ _ r9
                  have f0 : ∀ i, w15.frozen? ⟨w.heap.size, i, none⟩ = false := fun i => frozen_rowQ r9
                  have b9 : Below w.heap.size w w15 := bw3.trans (hb39.mono (Nat.le_of_lt l3))
                  clear r9 hb39 hb15
                  go_wp2
                  refine bodyPost_ret (v := .tuple #[cmdV none 0 0 zeroC, .int .i64 cb]) (by simp [results, Tryz.results56, go_sem, cmdV, zeroC, c0]) rfl ⟨?_, five_below b9 _ _ _ _ _⟩
                  rw [HBAD.out]
                  exact .zero rfl
        · rw [hS]
          have htr : (Lib.trimSuffix (⟨#[110]⟩ : ByteArray).data.toList (⟨#[100]⟩ : ByteArray).data.toList) = [110] := by decide
          have hsf : Lib.hasSuffix (⟨#[110]⟩ : ByteArray).data.toList (⟨#[100]⟩ : ByteArray).data.toList = false := by decide
          go_wp2_with fail
          refine (Tryz.strings_TrimSuffix ⟨#[110]⟩ ⟨#[100]⟩ _ (by decide)).mono ?_
          rintro e w11 ⟨rfl, rfl⟩
          rw [htr]
          by_cases hlt : acc.length < 1
          · have hlt' : (acc.length : Int) < 1 := by omega
            have hlay : layC k acc = none := by
              unfold layC
              rw [hL]
              rcases acc with _ | ⟨x, _ | ⟨y, _ | ⟨u, acc⟩⟩⟩ <;> first | (simp [lay3]; done) | (exfalso; simp at hlt; done) | (exfalso; simp at hlt; omega)
            go_wp2_with (go_at_call 37; refine (Tryz.strings_HasSuffix ⟨#[110]⟩ ⟨#[100]⟩ _ (by decide)).mono ?_; rintro e w13 ⟨rfl, rfl⟩; rw [hsf])
            refine (readBad_c _ _).mono ?_
            rintro e w9 ⟨rfl, hb9⟩
            have hb39 : Below w3.heap.size w3 w9 := hb10.trans (hb9.mono hb10.size)
            have r9 := (hb39.block _ l3).trans R3.out
            have c0 : ∀ i, w9.cell? ⟨w.heap.size, i, none⟩ = _ := fun i => cell_of_row _ _ _ _ _ _ r9
            have f0 : ∀ i, w9.frozen? ⟨w.heap.size, i, none⟩ = false := fun i => frozen_rowQ r9
            have b9 : Below w.heap.size w w9 := bw3.trans (hb39.mono (Nat.le_of_lt l3))
            clear r9 hb39 hb9
            go_wp2
            refine bodyPost_ret (v := .tuple #[cmdV none 0 0 zeroC, .int .i64 1]) (by simp [results, Tryz.results56, go_sem, cmdV, zeroC, c0]) rfl ⟨?_, five_below b9 _ _ _ _ _⟩
            rw [HP.out, hlay]
            exact .zero rfl
          · have hge' : ¬ (acc.length : Int) < 1 := by omega
            by_cases heq : 1 < acc.length
            · have heq' : (1 : Int) < (acc.length : Int) := by omega
              have hlay : layC k acc = none := by
                unfold layC
                rw [hL, hD]
                rcases acc with _ | ⟨x, _ | ⟨y, _ | ⟨u, _ | ⟨q, acc⟩⟩⟩⟩ <;> first | (simp [lay3, hD]; done) | (exfalso; simp at heq hlt; done) | (exfalso; simp at heq hlt; omega)
              go_wp2_with (go_at_call 37; refine (Tryz.strings_HasSuffix ⟨#[110]⟩ ⟨#[100]⟩ _ (by decide)).mono ?_; rintro e w13 ⟨rfl, rfl⟩; rw [hsf])
              refine (readBad_c _ _).mono ?_
              rintro e w9 ⟨rfl, hb9⟩
              have hb39 : Below w3.heap.size w3 w9 := hb10.trans (hb9.mono hb10.size)
              have r9 := (hb39.block _ l3).trans R3.out
              have c0 : ∀ i, w9.cell? ⟨w.heap.size, i, none⟩ = _ := fun i => cell_of_row _ _ _ _ _ _ r9
              have f0 : ∀ i, w9.frozen? ⟨w.heap.size, i, none⟩ = false := fun i => frozen_rowQ r9
              have b9 : Below w.heap.size w w9 := bw3.trans (hb39.mono (Nat.le_of_lt l3))
              clear r9 hb39 hb9
              go_wp2
              refine bodyPost_ret (v := .tuple #[cmdV none 0 0 zeroC, .int .i64 1]) (by simp [results, Tryz.results56, go_sem, cmdV, zeroC, c0]) rfl ⟨?_, five_below b9 _ _ _ _ _⟩
              rw [HP.out, hlay]
              exact .zero rfl
            · obtain ⟨y0, rfl⟩ : ∃ y0, acc = [y0] := by
                rcases acc with _ | ⟨y0, _ | ⟨y1, acc⟩⟩ <;> simp at heq hlt <;> exact ⟨_, rfl⟩
              simp only [List.length_cons, List.length_nil] at inn ⊢
              obtain ⟨cc, rfl⟩ : ∃ cc, cn = cc + 1 := ⟨cn - 1, by have := inn.le; omega⟩
              rcases inn.row with h00 | ⟨gb, go, rfl, hgl, hgc⟩
              · exact absurd h00 (by omega)
              have e0 : w11.cell? ⟨gb, go, none⟩ = some (.int .i64 y0) := hgc 0 (by omega)
              have hmx := inn.max
              have hle := inn.le
              have hlay : layC k ([y0]) = some ⟨k, 0, y0, 0, []⟩ := by
                unfold layC
                rw [hL]
                simp [lay3, hD]
              rcases Nat.eq_zero_or_pos cc with rfl | hcc
              · skip
                have id_ : Ints w11 (some ⟨gb, go, none⟩) 0 0 [] := ⟨rfl, by omega, by omega, (fun e => by cases e), .inl rfl, by simp⟩
                have HNE : ∀ x : Addr, ((some ⟨gb, go, none⟩) : Option Addr) = some x → w.heap.size < x.block := fun x e => by
                  cases e
                  have := hbase _ rfl
                  dsimp only at this ⊢
                  omega
                go_wp2_with (go_at_call 37; refine (Tryz.strings_HasSuffix ⟨#[110]⟩ ⟨#[100]⟩ _ (by decide)).mono ?_; rintro e w11 ⟨rfl, rfl⟩; rw [hsf])
                rw [show (⟨#[110]⟩ : ByteArray).extract 0 1 = ⟨#[110]⟩ by decide +kernel]
                have hI : ((w11.alloc (.cells #[.int .i64 k, .int .i64 0, .int .i64 0, .int .i64 0, .slice (some ⟨gb, go, none⟩) (0) (0)] 27)).iter ⟨#[110]⟩ 0).heap[(w11.heap.size + 1)]? = some (.stringIter ⟨#[110]⟩ 0) := by
                  have := World.iter_heap (w11.alloc (.cells #[.int .i64 k, .int .i64 0, .int .i64 0, .int .i64 0, .slice (some ⟨gb, go, none⟩) (0) (0)] 27)) ⟨#[110]⟩ 0
                  rwa [show (w11.alloc (.cells #[.int .i64 k, .int .i64 0, .int .i64 0, .int .i64 0, .slice (some ⟨gb, go, none⟩) (0) (0)] 27)).heap.size = w11.heap.size + 1 by simp] at this
                have hC : ((w11.alloc (.cells #[.int .i64 k, .int .i64 0, .int .i64 0, .int .i64 0, .slice (some ⟨gb, go, none⟩) (0) (0)] 27)).iter ⟨#[110]⟩ 0).heap[w11.heap.size]? = some (.cells #[.int .i64 k, .int .i64 0, .int .i64 0, .int .i64 0, .slice (some ⟨gb, go, none⟩) (0) (0)] 27 (0, 0)) := (Below.heap_alloc _ _ _ (by simp)).trans (heap_new _ _)
                have bX : Below w11.heap.size w11 ((w11.alloc (.cells #[.int .i64 k, .int .i64 0, .int .i64 0, .int .i64 0, .slice (some ⟨gb, go, none⟩) (0) (0)] 27)).iter ⟨#[110]⟩ 0) := belowA (belowA (Below.refl _ _) _) _
                generalize ((w11.alloc (.cells #[.int .i64 k, .int .i64 0, .int .i64 0, .int .i64 0, .slice (some ⟨gb, go, none⟩) (0) (0)] 27)).iter ⟨#[110]⟩ 0) = q0 at *
                refine wp_loop_rounds 2 ?_
                rw [rounds_succ]
                have hn : ∀ ty, (Instr.next (.pointer (some ⟨(w11.heap.size + 1), 0, none⟩)) true ty).run Tryz.prog q0 = .ok (.tuple #[.bool true, .int .i64 0, .int .i32 110]) (q0.iterAt (w11.heap.size + 1) ⟨#[110]⟩ (0 + 1)) := fun ty => by
                  have := Lib.run_next_ascii_at (P := Tryz.prog) q0 (w11.heap.size + 1) ⟨#[110]⟩ 0 ty hI (by decide) (by decide)
                  exact this
                have yI : (q0.iterAt (w11.heap.size + 1) ⟨#[110]⟩ (0 + 1)).heap[(w11.heap.size + 1)]? = some (.stringIter ⟨#[110]⟩ (0 + 1)) := Lib.iterAt_heap _ _ _ _ _ hI
                have yC : (q0.iterAt (w11.heap.size + 1) ⟨#[110]⟩ (0 + 1)).heap[w11.heap.size]? = some (.cells #[.int .i64 k, .int .i64 0, .int .i64 0, .int .i64 0, .slice (some ⟨gb, go, none⟩) (0) (0)] 27 (0, 0)) := (Lib.iterAt_other _ _ _ _ _ (by omega)).trans hC
                have yb : Below w11.heap.size w11 (q0.iterAt (w11.heap.size + 1) ⟨#[110]⟩ (0 + 1)) := Lib.below_iterAt bX (by omega) _ _
                have yc : ∀ i, (q0.iterAt (w11.heap.size + 1) ⟨#[110]⟩ (0 + 1)).cell? ⟨w11.heap.size, i, none⟩ = _ := fun i => cell_of_row _ _ _ _ _ _ yC
                have yf : ∀ i, (q0.iterAt (w11.heap.size + 1) ⟨#[110]⟩ (0 + 1)).frozen? ⟨w11.heap.size, i, none⟩ = false := fun i => frozen_rowQ yC
                have ye := keepc yb e0
                generalize hY : (q0.iterAt (w11.heap.size + 1) ⟨#[110]⟩ (0 + 1)) = z at hn yI yC yb yc yf ye
                clear hI hC bX hY
                go_wp2
                have hI : (z.setCell ⟨w11.heap.size, 2, none⟩ (.int .i64 y0)).heap[(w11.heap.size + 1)]? = some (.stringIter ⟨#[110]⟩ (0 + 1)) := (Below.heap_setCell _ _ _ _ (by simp)).trans yI
                have hC : (z.setCell ⟨w11.heap.size, 2, none⟩ (.int .i64 y0)).heap[w11.heap.size]? = some (.cells #[.int .i64 k, .int .i64 0, .int .i64 y0, .int .i64 0, .slice (some ⟨gb, go, none⟩) (0) (0)] 27 (0, 0)) := Lib.heap_setCell_same (i := 2) yC (.int .i64 y0)
                have bX : Below w11.heap.size w11 (z.setCell ⟨w11.heap.size, 2, none⟩ (.int .i64 y0)) := yb.setCell (p := ⟨w11.heap.size, 2, none⟩) (Nat.le_refl _) _
                generalize z.setCell ⟨w11.heap.size, 2, none⟩ (.int .i64 y0) = q1 at *
                clear hn yI yC yb yc yf ye
                rw [rounds_succ]
                have hn : ∀ ty, (Instr.next (.pointer (some ⟨(w11.heap.size + 1), 0, none⟩)) true ty).run Tryz.prog q1 = .ok (.tuple #[.bool false]) q1 := fun ty => Lib.run_next_end_at (P := Tryz.prog) q1 (w11.heap.size + 1) ⟨#[110]⟩ 1 ty hI (by decide)
                have yc : ∀ i, q1.cell? ⟨w11.heap.size, i, none⟩ = _ := fun i => cell_of_row _ _ _ _ _ _ hC
                have ld : w11.heap.size < q1.heap.size := (Array.getElem?_eq_some_iff.1 hC).1
                have HC := hide hC
                have ix := id_.below bX (Nat.le_refl _)
                have KC := hide (fun w' h' => CheckCmd_c ((some ⟨gb, go, none⟩)) (0) (0) ⟨k, 0, y0, 0, []⟩ w' h')
                unfold cmdV at KC
                dsimp only at KC
                clear hC
                go_wp2_with fail
                refine (KC.out _ ix).mono ?_
                rintro e w14 ⟨rfl, hb14⟩
                have c14 := (hb14.block _ ld).trans HC.out
                have zc : ∀ i, w14.cell? ⟨w11.heap.size, i, none⟩ = _ := fun i => cell_of_row _ _ _ _ _ _ c14
                have b14 : Below w3.heap.size w3 w14 := (hb10.trans (bX.mono hb10.size)).trans (hb14.mono (hb10.trans (bX.mono hb10.size)).size)
                have i14 := ix.below hb14 (Nat.le_refl _)
                clear KC hb14 c14 HC yc hn hI
                by_cases hck : checkC ⟨k, 0, y0, 0, []⟩ = 0
                · have HF : Hid (parseC s = (⟨k, 0, y0, 0, []⟩, 0)) := hide (by rw [HP.out, hlay]; simp [hck])
                  rw [hck]
                  have r9 := (b14.block _ l3).trans R3.out
                  have c0 : ∀ i, w14.cell? ⟨w.heap.size, i, none⟩ = _ := fun i => cell_of_row _ _ _ _ _ _ r9
                  have f0 : ∀ i, w14.frozen? ⟨w.heap.size, i, none⟩ = false := fun i => frozen_rowQ r9
                  have b9 : Below w.heap.size w w14 := bw3.trans (b14.mono (Nat.le_of_lt l3))
                  clear r9
                  go_wp2
                  refine bodyPost_ret (v := .tuple #[cmdV ((some ⟨gb, go, none⟩)) (0) (0) ⟨k, 0, y0, 0, []⟩, .int .i64 0]) (by simp [results, Tryz.results56, go_sem, cmdV, c0]) rfl ⟨?_, five_below b9 _ _ _ _ _⟩
                  rw [HF.out]
                  exact ⟨_, _, _, rfl, i14.five _ (fun x e => Nat.ne_of_gt (HNE x e)) _ _ _ _ _, fun x e => Nat.le_of_lt (HNE x e)⟩
                · have HBAD : Hid (parseC s = (zeroC, checkC ⟨k, 0, y0, 0, []⟩)) := hide (by rw [HP.out, hlay]; simp [hck])
                  have hcb : (checkC ⟨k, 0, y0, 0, []⟩ != 0) = true := by simpa using hck
                  generalize checkC ⟨k, 0, y0, 0, []⟩ = cb at *
                  go_wp2_with fail
                  refine (readBad_c _ _).mono ?_
                  rintro e w15 ⟨rfl, hb15⟩
                  have hb39 : Below w3.heap.size w3 w15 := b14.trans (hb15.mono b14.size)
                  have r9 := (hb39.block _ l3).trans R3.out
                  have c0 : ∀ i, w15.cell? ⟨w.heap.size, i, none⟩ = _ := fun i => cell_of_row _ _ _ _ _ _ r9
                  have f0 : ∀ i, w15.frozen? ⟨w.heap.size, i, none⟩ = false := fun i => frozen_rowQ r9
                  have b9 : Below w.heap.size w w15 := bw3.trans (hb39.mono (Nat.le_of_lt l3))
                  clear r9 hb39 hb15
                  go_wp2
                  refine bodyPost_ret (v := .tuple #[cmdV none 0 0 zeroC, .int .i64 cb]) (by simp [results, Tryz.results56, go_sem, cmdV, zeroC, c0]) rfl ⟨?_, five_below b9 _ _ _ _ _⟩
                  rw [HBAD.out]
                  exact .zero rfl
              · skip
                have hcc' : ¬ cc = 0 := by omega
                have id_ : Ints w11 (some ⟨gb, go + 1, none⟩) 0 cc [] := ⟨rfl, by omega, by omega, (fun e => by cases e), .inl rfl, by simp⟩
                have HNE : ∀ x : Addr, ((some ⟨gb, go + 1, none⟩) : Option Addr) = some x → w.heap.size < x.block := fun x e => by
                  cases e
                  have := hbase _ rfl
                  dsimp only at this ⊢
                  omega
                go_wp2_with (go_at_call 37; refine (Tryz.strings_HasSuffix ⟨#[110]⟩ ⟨#[100]⟩ _ (by decide)).mono ?_; rintro e w11 ⟨rfl, rfl⟩; rw [hsf])
                rw [show (⟨#[110]⟩ : ByteArray).extract 0 1 = ⟨#[110]⟩ by decide +kernel]
                have hI : ((w11.alloc (.cells #[.int .i64 k, .int .i64 0, .int .i64 0, .int .i64 0, .slice (some ⟨gb, go + 1, none⟩) (0) (cc)] 27)).iter ⟨#[110]⟩ 0).heap[(w11.heap.size + 1)]? = some (.stringIter ⟨#[110]⟩ 0) := by
                  have := World.iter_heap (w11.alloc (.cells #[.int .i64 k, .int .i64 0, .int .i64 0, .int .i64 0, .slice (some ⟨gb, go + 1, none⟩) (0) (cc)] 27)) ⟨#[110]⟩ 0
                  rwa [show (w11.alloc (.cells #[.int .i64 k, .int .i64 0, .int .i64 0, .int .i64 0, .slice (some ⟨gb, go + 1, none⟩) (0) (cc)] 27)).heap.size = w11.heap.size + 1 by simp] at this
                have hC : ((w11.alloc (.cells #[.int .i64 k, .int .i64 0, .int .i64 0, .int .i64 0, .slice (some ⟨gb, go + 1, none⟩) (0) (cc)] 27)).iter ⟨#[110]⟩ 0).heap[w11.heap.size]? = some (.cells #[.int .i64 k, .int .i64 0, .int .i64 0, .int .i64 0, .slice (some ⟨gb, go + 1, none⟩) (0) (cc)] 27 (0, 0)) := (Below.heap_alloc _ _ _ (by simp)).trans (heap_new _ _)
                have bX : Below w11.heap.size w11 ((w11.alloc (.cells #[.int .i64 k, .int .i64 0, .int .i64 0, .int .i64 0, .slice (some ⟨gb, go + 1, none⟩) (0) (cc)] 27)).iter ⟨#[110]⟩ 0) := belowA (belowA (Below.refl _ _) _) _
                generalize ((w11.alloc (.cells #[.int .i64 k, .int .i64 0, .int .i64 0, .int .i64 0, .slice (some ⟨gb, go + 1, none⟩) (0) (cc)] 27)).iter ⟨#[110]⟩ 0) = q0 at *
                refine wp_loop_rounds 2 ?_
                rw [rounds_succ]
                have hn : ∀ ty, (Instr.next (.pointer (some ⟨(w11.heap.size + 1), 0, none⟩)) true ty).run Tryz.prog q0 = .ok (.tuple #[.bool true, .int .i64 0, .int .i32 110]) (q0.iterAt (w11.heap.size + 1) ⟨#[110]⟩ (0 + 1)) := fun ty => by
                  have := Lib.run_next_ascii_at (P := Tryz.prog) q0 (w11.heap.size + 1) ⟨#[110]⟩ 0 ty hI (by decide) (by decide)
                  exact this
                have yI : (q0.iterAt (w11.heap.size + 1) ⟨#[110]⟩ (0 + 1)).heap[(w11.heap.size + 1)]? = some (.stringIter ⟨#[110]⟩ (0 + 1)) := Lib.iterAt_heap _ _ _ _ _ hI
                have yC : (q0.iterAt (w11.heap.size + 1) ⟨#[110]⟩ (0 + 1)).heap[w11.heap.size]? = some (.cells #[.int .i64 k, .int .i64 0, .int .i64 0, .int .i64 0, .slice (some ⟨gb, go + 1, none⟩) (0) (cc)] 27 (0, 0)) := (Lib.iterAt_other _ _ _ _ _ (by omega)).trans hC
                have yb : Below w11.heap.size w11 (q0.iterAt (w11.heap.size + 1) ⟨#[110]⟩ (0 + 1)) := Lib.below_iterAt bX (by omega) _ _
                have yc : ∀ i, (q0.iterAt (w11.heap.size + 1) ⟨#[110]⟩ (0 + 1)).cell? ⟨w11.heap.size, i, none⟩ = _ := fun i => cell_of_row _ _ _ _ _ _ yC
                have yf : ∀ i, (q0.iterAt (w11.heap.size + 1) ⟨#[110]⟩ (0 + 1)).frozen? ⟨w11.heap.size, i, none⟩ = false := fun i => frozen_rowQ yC
                have ye := keepc yb e0
                generalize hY : (q0.iterAt (w11.heap.size + 1) ⟨#[110]⟩ (0 + 1)) = z at hn yI yC yb yc yf ye
                clear hI hC bX hY
                go_wp2
                have hI : (z.setCell ⟨w11.heap.size, 2, none⟩ (.int .i64 y0)).heap[(w11.heap.size + 1)]? = some (.stringIter ⟨#[110]⟩ (0 + 1)) := (Below.heap_setCell _ _ _ _ (by simp)).trans yI
                have hC : (z.setCell ⟨w11.heap.size, 2, none⟩ (.int .i64 y0)).heap[w11.heap.size]? = some (.cells #[.int .i64 k, .int .i64 0, .int .i64 y0, .int .i64 0, .slice (some ⟨gb, go + 1, none⟩) (0) (cc)] 27 (0, 0)) := Lib.heap_setCell_same (i := 2) yC (.int .i64 y0)
                have bX : Below w11.heap.size w11 (z.setCell ⟨w11.heap.size, 2, none⟩ (.int .i64 y0)) := yb.setCell (p := ⟨w11.heap.size, 2, none⟩) (Nat.le_refl _) _
                generalize z.setCell ⟨w11.heap.size, 2, none⟩ (.int .i64 y0) = q1 at *
                clear hn yI yC yb yc yf ye
                rw [rounds_succ]
                have hn : ∀ ty, (Instr.next (.pointer (some ⟨(w11.heap.size + 1), 0, none⟩)) true ty).run Tryz.prog q1 = .ok (.tuple #[.bool false]) q1 := fun ty => Lib.run_next_end_at (P := Tryz.prog) q1 (w11.heap.size + 1) ⟨#[110]⟩ 1 ty hI (by decide)
                have yc : ∀ i, q1.cell? ⟨w11.heap.size, i, none⟩ = _ := fun i => cell_of_row _ _ _ _ _ _ hC
                have ld : w11.heap.size < q1.heap.size := (Array.getElem?_eq_some_iff.1 hC).1
                have HC := hide hC
                have ix := id_.below bX (Nat.le_refl _)
                have KC := hide (fun w' h' => CheckCmd_c ((some ⟨gb, go + 1, none⟩)) (0) (cc) ⟨k, 0, y0, 0, []⟩ w' h')
                unfold cmdV at KC
                dsimp only at KC
                clear hC
                go_wp2_with fail
                refine (KC.out _ ix).mono ?_
                rintro e w14 ⟨rfl, hb14⟩
                have c14 := (hb14.block _ ld).trans HC.out
                have zc : ∀ i, w14.cell? ⟨w11.heap.size, i, none⟩ = _ := fun i => cell_of_row _ _ _ _ _ _ c14
                have b14 : Below w3.heap.size w3 w14 := (hb10.trans (bX.mono hb10.size)).trans (hb14.mono (hb10.trans (bX.mono hb10.size)).size)
                have i14 := ix.below hb14 (Nat.le_refl _)
                clear KC hb14 c14 HC yc hn hI
                by_cases hck : checkC ⟨k, 0, y0, 0, []⟩ = 0
                · have HF : Hid (parseC s = (⟨k, 0, y0, 0, []⟩, 0)) := hide (by rw [HP.out, hlay]; simp [hck])
                  rw [hck]
                  have r9 := (b14.block _ l3).trans R3.out
                  have c0 : ∀ i, w14.cell? ⟨w.heap.size, i, none⟩ = _ := fun i => cell_of_row _ _ _ _ _ _ r9
                  have f0 : ∀ i, w14.frozen? ⟨w.heap.size, i, none⟩ = false := fun i => frozen_rowQ r9
                  have b9 : Below w.heap.size w w14 := bw3.trans (b14.mono (Nat.le_of_lt l3))
                  clear r9
                  go_wp2
                  refine bodyPost_ret (v := .tuple #[cmdV ((some ⟨gb, go + 1, none⟩)) (0) (cc) ⟨k, 0, y0, 0, []⟩, .int .i64 0]) (by simp [results, Tryz.results56, go_sem, cmdV, c0]) rfl ⟨?_, five_below b9 _ _ _ _ _⟩
                  rw [HF.out]
                  exact ⟨_, _, _, rfl, i14.five _ (fun x e => Nat.ne_of_gt (HNE x e)) _ _ _ _ _, fun x e => Nat.le_of_lt (HNE x e)⟩
                · have HBAD : Hid (parseC s = (zeroC, checkC ⟨k, 0, y0, 0, []⟩)) := hide (by rw [HP.out, hlay]; simp [hck])
                  have hcb : (checkC ⟨k, 0, y0, 0, []⟩ != 0) = true := by simpa using hck
                  generalize checkC ⟨k, 0, y0, 0, []⟩ = cb at *
                  go_wp2_with fail
                  refine (readBad_c _ _).mono ?_
                  rintro e w15 ⟨rfl, hb15⟩
                  have hb39 : Below w3.heap.size w3 w15 := b14.trans (hb15.mono b14.size)
                  have r9 := (hb39.block _ l3).trans R3.out
                  have c0 : ∀ i, w15.cell? ⟨w.heap.size, i, none⟩ = _ := fun i => cell_of_row _ _ _ _ _ _ r9
                  have f0 : ∀ i, w15.frozen? ⟨w.heap.size, i, none⟩ = false := fun i => frozen_rowQ r9
                  have b9 : Below w.heap.size w w15 := bw3.trans (hb39.mono (Nat.le_of_lt l3))
                  clear r9 hb39 hb15
                  go_wp2
                  refine bodyPost_ret (v := .tuple #[cmdV none 0 0 zeroC, .int .i64 cb]) (by simp [results, Tryz.results56, go_sem, cmdV, zeroC, c0]) rfl ⟨?_, five_below b9 _ _ _ _ _⟩
                  rw [HBAD.out]
                  exact .zero rfl
        · rw [hS]
          have htr : (Lib.trimSuffix (⟨#[]⟩ : ByteArray).data.toList (⟨#[100]⟩ : ByteArray).data.toList) = [] := by decide
          have hsf : Lib.hasSuffix (⟨#[]⟩ : ByteArray).data.toList (⟨#[100]⟩ : ByteArray).data.toList = false := by decide
          go_wp2_with fail
          refine (Tryz.strings_TrimSuffix ⟨#[]⟩ ⟨#[100]⟩ _ (by decide)).mono ?_
          rintro e w11 ⟨rfl, rfl⟩
          rw [htr]
          have hlt : ¬ acc.length < 0 := by omega
          · have hge' : ¬ (acc.length : Int) < 0 := by omega
            by_cases heq : 0 < acc.length
            · have heq' : (0 : Int) < (acc.length : Int) := by omega
              have hlay : layC k acc = none := by
                unfold layC
                rw [hL, hD]
                rcases acc with _ | ⟨x, _ | ⟨y, _ | ⟨u, _ | ⟨q, acc⟩⟩⟩⟩ <;> first | (simp [lay3, hD]; done) | (exfalso; simp at heq hlt; done) | (exfalso; simp at heq hlt; omega)
              generalize acc.length = N at *
              have hN0 : ¬ (N : Int) = 0 := by omega
              go_wp2_with (go_at_call 37; refine (Tryz.strings_HasSuffix ⟨#[]⟩ ⟨#[100]⟩ _ (by decide)).mono ?_; rintro e w13 ⟨rfl, rfl⟩; rw [hsf])
              refine (readBad_c _ _).mono ?_
              rintro e w9 ⟨rfl, hb9⟩
              have hb39 : Below w3.heap.size w3 w9 := hb10.trans (hb9.mono hb10.size)
              have r9 := (hb39.block _ l3).trans R3.out
              have c0 : ∀ i, w9.cell? ⟨w.heap.size, i, none⟩ = _ := fun i => cell_of_row _ _ _ _ _ _ r9
              have f0 : ∀ i, w9.frozen? ⟨w.heap.size, i, none⟩ = false := fun i => frozen_rowQ r9
              have b9 : Below w.heap.size w w9 := bw3.trans (hb39.mono (Nat.le_of_lt l3))
              clear r9 hb39 hb9
              go_wp2
              refine bodyPost_ret (v := .tuple #[cmdV none 0 0 zeroC, .int .i64 1]) (by simp [results, Tryz.results56, go_sem, cmdV, zeroC, c0]) rfl ⟨?_, five_below b9 _ _ _ _ _⟩
              rw [HP.out, hlay]
              exact .zero rfl
            · obtain rfl : acc = [] := by
                cases acc with
                | nil => rfl
                | cons x l => simp at heq
              simp only [List.length_nil] at inn ⊢
              have hmx := inn.max
              have hlay : layC k ([]) = some ⟨k, 0, 0, 0, []⟩ := by
                unfold layC
                rw [hL]
                simp [lay3, hD]
              have id_ : Ints w11 an 0 cn [] := inn
              have HNE : ∀ x : Addr, an = some x → w.heap.size < x.block := fun x e => by
                have := hbase x e
                omega
              go_wp2_with (go_at_call 37; refine (Tryz.strings_HasSuffix ⟨#[]⟩ ⟨#[100]⟩ _ (by decide)).mono ?_; rintro e w11 ⟨rfl, rfl⟩; rw [hsf])
              have hI : ((w11.alloc (.cells #[.int .i64 k, .int .i64 0, .int .i64 0, .int .i64 0, .slice an (0) (cn)] 27)).iter ByteArray.empty 0).heap[(w11.heap.size + 1)]? = some (.stringIter ByteArray.empty 0) := by
                have := World.iter_heap (w11.alloc (.cells #[.int .i64 k, .int .i64 0, .int .i64 0, .int .i64 0, .slice an (0) (cn)] 27)) ByteArray.empty 0
                rwa [show (w11.alloc (.cells #[.int .i64 k, .int .i64 0, .int .i64 0, .int .i64 0, .slice an (0) (cn)] 27)).heap.size = w11.heap.size + 1 by simp] at this
              have hC : ((w11.alloc (.cells #[.int .i64 k, .int .i64 0, .int .i64 0, .int .i64 0, .slice an (0) (cn)] 27)).iter ByteArray.empty 0).heap[w11.heap.size]? = some (.cells #[.int .i64 k, .int .i64 0, .int .i64 0, .int .i64 0, .slice an (0) (cn)] 27 (0, 0)) := (Below.heap_alloc _ _ _ (by simp)).trans (heap_new _ _)
              have bX : Below w11.heap.size w11 ((w11.alloc (.cells #[.int .i64 k, .int .i64 0, .int .i64 0, .int .i64 0, .slice an (0) (cn)] 27)).iter ByteArray.empty 0) := belowA (belowA (Below.refl _ _) _) _
              generalize ((w11.alloc (.cells #[.int .i64 k, .int .i64 0, .int .i64 0, .int .i64 0, .slice an (0) (cn)] 27)).iter ByteArray.empty 0) = q0 at *
              refine wp_loop_rounds 1 ?_
              rw [rounds_succ]
              have hn : ∀ ty, (Instr.next (.pointer (some ⟨(w11.heap.size + 1), 0, none⟩)) true ty).run Tryz.prog q0 = .ok (.tuple #[.bool false]) q0 := fun ty => Lib.run_next_end_at (P := Tryz.prog) q0 (w11.heap.size + 1) ByteArray.empty 0 ty hI (by decide)
              have yc : ∀ i, q0.cell? ⟨w11.heap.size, i, none⟩ = _ := fun i => cell_of_row _ _ _ _ _ _ hC
              have ld : w11.heap.size < q0.heap.size := (Array.getElem?_eq_some_iff.1 hC).1
              have HC := hide hC
              have ix := id_.below bX (Nat.le_refl _)
              have KC := hide (fun w' h' => CheckCmd_c (an) (0) (cn) ⟨k, 0, 0, 0, []⟩ w' h')
              unfold cmdV at KC
              dsimp only at KC
              clear hC
              go_wp2_with fail
              refine (KC.out _ ix).mono ?_
              rintro e w14 ⟨rfl, hb14⟩
              have c14 := (hb14.block _ ld).trans HC.out
              have zc : ∀ i, w14.cell? ⟨w11.heap.size, i, none⟩ = _ := fun i => cell_of_row _ _ _ _ _ _ c14
              have b14 : Below w3.heap.size w3 w14 := (hb10.trans (bX.mono hb10.size)).trans (hb14.mono (hb10.trans (bX.mono hb10.size)).size)
              have i14 := ix.below hb14 (Nat.le_refl _)
              clear KC hb14 c14 HC yc hn hI
              by_cases hck : checkC ⟨k, 0, 0, 0, []⟩ = 0
              · have HF : Hid (parseC s = (⟨k, 0, 0, 0, []⟩, 0)) := hide (by rw [HP.out, hlay]; simp [hck])
                rw [hck]
                have r9 := (b14.block _ l3).trans R3.out
                have c0 : ∀ i, w14.cell? ⟨w.heap.size, i, none⟩ = _ := fun i => cell_of_row _ _ _ _ _ _ r9
                have f0 : ∀ i, w14.frozen? ⟨w.heap.size, i, none⟩ = false := fun i => frozen_rowQ r9
                have b9 : Below w.heap.size w w14 := bw3.trans (b14.mono (Nat.le_of_lt l3))
                clear r9
                go_wp2
                refine bodyPost_ret (v := .tuple #[cmdV (an) (0) (cn) ⟨k, 0, 0, 0, []⟩, .int .i64 0]) (by simp [results, Tryz.results56, go_sem, cmdV, c0]) rfl ⟨?_, five_below b9 _ _ _ _ _⟩
                rw [HF.out]
                exact ⟨_, _, _, rfl, i14.five _ (fun x e => Nat.ne_of_gt (HNE x e)) _ _ _ _ _, fun x e => Nat.le_of_lt (HNE x e)⟩
              · have HBAD : Hid (parseC s = (zeroC, checkC ⟨k, 0, 0, 0, []⟩)) := hide (by rw [HP.out, hlay]; simp [hck])
                have hcb : (checkC ⟨k, 0, 0, 0, []⟩ != 0) = true := by simpa using hck
                generalize checkC ⟨k, 0, 0, 0, []⟩ = cb at *
                go_wp2_with fail
                refine (readBad_c _ _).mono ?_
                rintro e w15 ⟨rfl, hb15⟩
                have hb39 : Below w3.heap.size w3 w15 := b14.trans (hb15.mono b14.size)
                have r9 := (hb39.block _ l3).trans R3.out
                have c0 : ∀ i, w15.cell? ⟨w.heap.size, i, none⟩ = _ := fun i => cell_of_row _ _ _ _ _ _ r9
                have f0 : ∀ i, w15.frozen? ⟨w.heap.size, i, none⟩ = false := fun i => frozen_rowQ r9
                have b9 : Below w.heap.size w w15 := bw3.trans (hb39.mono (Nat.le_of_lt l3))
                clear r9 hb39 hb15
                go_wp2
                refine bodyPost_ret (v := .tuple #[cmdV none 0 0 zeroC, .int .i64 cb]) (by simp [results, Tryz.results56, go_sem, cmdV, zeroC, c0]) rfl ⟨?_, five_below b9 _ _ _ _ _⟩
                rw [HBAD.out]
                exact .zero rfl
      · have Er := (hE.below bw3).below hbr
        go_wp2_with fail
        refine (Cut_c r hr _ Er).mono ?_
        rintro e w4 ⟨⟨u, r2, f2, rfl, htk, hu, hr2⟩, hb4⟩
        have HTK := hide htk
        clear htk
        have E4 := Er.below hb4
        have hb34 : Below w3.heap.size w3 w4 := hbr.trans (hb4.mono hbr.size)
        have htd : ts = dn ++ toks r.data.toList := by
          have := HTD.out
          simpa using this
        rw [HTK.out] at htd
        have HTD2 := hide htd
        have hal : acc.length ≤ 60001 := by
          have h1 := nums_len HND.out
          have h2 := HTS.out
          rw [htd, List.length_append] at h2
          omega
        have HME : Hid (restOf (.string r2) (.bool f2) < restOf (.string r) (.bool true)) := hide (by
          have h1 : restOf (.string r) (.bool true) = (toks r.data.toList).length := rfl
          rw [h1, HTK.out]
          cases f2
          · simp [restOf]
          · simp [restOf])
        clear htd HTD HTK Er
        by_cases hok : ∃ v, Lib.parseIntB 64 u.data.toList = .ok v
        · obtain ⟨v, hv⟩ := hok
          have hvb : -9223372036854775808 ≤ v ∧ v ≤ 9223372036854775807 := by
            have := Lib.parseIntB_bounds hv
            simp at this
            omega
          go_wp2_with fail
          refine (ParseInt_ok_c u (by omega) v hv _).mono ?_
          rintro e w5 ⟨rfl, hb5⟩
          have E5 := E4.below hb5
          go_wp2_with fail
          refine (FormatInt_c v hvb _ E5).mono ?_
          rintro e w6 ⟨rfl, hb6⟩
          have hb36 : Below w3.heap.size w3 w6 := (hb34.trans (hb5.mono hb34.size)).trans (hb6.mono (hb34.trans (hb5.mono hb34.size)).size)
          have hb46 : Below w4.heap.size w4 w6 := hb5.trans (hb6.mono hb5.size)
          have own6 : OwnI w6 w3.heap.size u9 acc := hown.below (belowT hb4 hb46)
          clear hb5 hb6 E5 E4 hb4
          by_cases hit : (⟨(Lib.itoa v).toArray⟩ : ByteArray) = u
          · have e1 := beq_t hit
            have e2 := (Lib.bytes_beq_iff _ _).2 hit
            have HV : Hid (num u.data.toList = some v) := hide (by
              unfold num
              rw [hv]
              simp [← hit])
            clear hit hv
            generalize (⟨(Lib.itoa v).toArray⟩ : ByteArray) = sv at e1 e2
            have hob := own6.own
            go_wp2_with (at_builtin; refine wpList_append_own _ rfl _ _ 25 rfl w3.heap.size 3 i (.int .i64 0) 1 8 Tryz.underlying25 hi hzr hsz hby rfl (by decide) _ _ _ rfl (own6.alloc _) ⟨w6.heap.size, 0, none⟩ 1 1 [.int .i64 v] rfl rfl (cell_one_new _ _ _) ?hq1 ?hq2 ?hq3 ?hq4 ?hq5)
            case hq1 => intro x hx; simp at hx; subst hx; rfl
            case hq2 => simp [maxLen]; omega
            case hq3 => omega
            case hq4 => have := hb36.size; simp; omega
            case hq5 =>
              intro v' w7 hown7 hg7 _
              have b7 : Below w3.heap.size w3 w7 := (hb36.alloc hb36.size _).grown hg7 (by simp; have := hb36.size; omega) hob
              have o7 : OwnI w7 w3.heap.size v' (acc ++ [v]) := OwnI.snoc hown7
              go_wp2
              exact ⟨⟨_, dn ++ [u.data.toList], acc ++ [v], r2, f2, rfl, rfl, rfl, hr2, nums_snoc HND.out _ HV.out, by rw [HTD2.out]; simp, o7, b7⟩, HME.out⟩
          · have e1 := beq_f hit
            have e2 := (Lib.bytes_beq_false_iff _ _).2 hit
            have HBAD : Hid (parseC s = (zeroC, 1)) := hide (by
              have hn : num u.data.toList = none := by
                unfold num
                rw [hv]
                dsimp only
                rw [if_neg (fun e => hit (by rw [e]))]
              rw [HTK2.out, HTD2.out, nums_bad hn])
            clear hit hv
            generalize (⟨(Lib.itoa v).toArray⟩ : ByteArray) = sv at e1 e2
            go_wp2_with fail
            refine (readBad_c _ _).mono ?_
            rintro e w9 ⟨rfl, hb9⟩
            have hb39 : Below w3.heap.size w3 w9 := (hb36).trans (hb9.mono (hb36).size)
            have r9 := (hb39.block _ l3).trans R3.out
            have c0 : ∀ i, w9.cell? ⟨w.heap.size, i, none⟩ = _ := fun i => cell_of_row _ _ _ _ _ _ r9
            have f0 : ∀ i, w9.frozen? ⟨w.heap.size, i, none⟩ = false := fun i => frozen_rowQ r9
            have b9 : Below w.heap.size w w9 := bw3.trans (hb39.mono (Nat.le_of_lt l3))
            clear r9 hb39 hb9
            go_wp2
            refine bodyPost_ret (v := .tuple #[cmdV none 0 0 zeroC, .int .i64 1]) (by simp [results, Tryz.results56, go_sem, cmdV, zeroC, c0]) rfl ⟨?_, five_below b9 _ _ _ _ _⟩
            rw [HBAD.out]
            exact .zero rfl
        · have HBAD : Hid (parseC s = (zeroC, 1)) := hide (by
            have hn : num u.data.toList = none := by
              unfold num
              cases ha : Lib.parseIntB 64 u.data.toList with
              | ok v => exact absurd ⟨v, ha⟩ hok
              | «syntax» => rfl
              | range => rfl
            rw [HTK2.out, HTD2.out, nums_bad hn])
          go_wp2_with fail
          refine (ParseInt_bad_c u (by omega) (fun v e => hok ⟨v, e⟩) _ E4).mono ?_
          rintro e w5 ⟨⟨v, N, rfl⟩, hb5⟩
          go_wp2_with fail
          refine (readBad_c _ _).mono ?_
          rintro e w9 ⟨rfl, hb9⟩
          have hb39 : Below w3.heap.size w3 w9 := (hb34.trans (hb5.mono hb34.size)).trans (hb9.mono (hb34.trans (hb5.mono hb34.size)).size)
          have r9 := (hb39.block _ l3).trans R3.out
          have c0 : ∀ i, w9.cell? ⟨w.heap.size, i, none⟩ = _ := fun i => cell_of_row _ _ _ _ _ _ r9
          have f0 : ∀ i, w9.frozen? ⟨w.heap.size, i, none⟩ = false := fun i => frozen_rowQ r9
          have b9 : Below w.heap.size w w9 := bw3.trans (hb39.mono (Nat.le_of_lt l3))
          clear r9 hb39 hb9
          go_wp2
          refine bodyPost_ret (v := .tuple #[cmdV none 0 0 zeroC, .int .i64 1]) (by simp [results, Tryz.results56, go_sem, cmdV, zeroC, c0]) rfl ⟨?_, five_below b9 _ _ _ _ _⟩
          rw [HBAD.out]
          exact .zero rfl
  · have HR2 : Hid (parseC s = (zeroC, 1)) := hide (by
      rw [HR.out]
      have h1 := HPC.out
      rw [HTK.out] at h1
      cases hp : pieces s with
      | nil => rfl
      | cons u us =>
        rw [hp] at h1
        simp only [List.map_cons, List.cons.injEq] at h1
        have e1 : u = t0 := bytes_eq h1.1
        subst e1
        simp only [readC, hk])
    generalize Lib.idxOfS wordsL t0 = ix at *
    go_wp2_with fail
    refine (readBad_c _ _).mono ?_
    rintro e w4 ⟨rfl, hb4⟩
    have r4 := (hb4.block _ l3).trans R3.out
    have c0 : ∀ i, w4.cell? ⟨w.heap.size, i, none⟩ = _ := fun i => cell_of_row _ _ _ _ _ _ r4
    have f0 : ∀ i, w4.frozen? ⟨w.heap.size, i, none⟩ = false := fun i => frozen_rowQ r4
    clear r4
    go_wp2
    refine bodyPost_ret (v := .tuple #[cmdV none 0 0 zeroC, .int .i64 1]) (by simp [results, Tryz.results56, go_sem, cmdV, zeroC, c0]) rfl ⟨?_, five_below (by (repeat (first | exact Below.refl _ _ | assumption | refine Below.drew ?_ | refine below_drewN ?_ _ | refine belowA ?_ _ | refine belowT ?_ (by assumption) | refine Below.setCell ?_ (by first | (simp; done) | (simp; omega)) _))) _ _ _ _ _⟩
    rw [HR2.out]
    exact .zero rfl

end Go.Proofs.YtcbgkjmcdjpgcaaGreatDoor
