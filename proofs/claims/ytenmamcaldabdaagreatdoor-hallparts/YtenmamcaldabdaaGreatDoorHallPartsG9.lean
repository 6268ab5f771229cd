/- The contract of cmd.Print; no condition but that the data reads as a list, and the package-level variables are as their texts lay them. -/
import Derived.Test.YtenmamcaldabdaaGreatDoorHallPartsG8
import Derived.Test.YtenmamcaldabdaaGreatDoorHallPartsG2
namespace Go.Proofs.YtenmamcaldabdaaGreatDoor
open Go.RowKit
set_option linter.unusedVariables false
set_option maxRecDepth 100000
set_option linter.unusedSimpArgs false

/-- The text of a right command. -/
def textC (b : PC) : List UInt8 := (word b.k.toNat).data.toList ++ (listC b).flatMap fun v => 32 :: Lib.itoa v
/-- What Print answers. -/
def printC (b : PC) : List UInt8 × Int := if checkC b = 0 then (textC b, 0) else ([], checkC b)
def textV (l : List UInt8) : Value := .string ⟨l.toArray⟩

theorem checkC_ok {b : PC} (h : checkC b = 0) : 1 ≤ b.k ∧ b.k ≤ 12 ∧ b.d.length ≤ 8 ∧ (∀ x ∈ [b.z, b.at', b.n] ++ b.d, 0 ≤ x ∧ x ≤ 999) := by
  unfold checkC at h
  split at h
  · cases h
  · rename_i ho
    split at h
    · cases h
    · split at h
      · cases h
      · split at h
        · cases h
        · rename_i h8
          split at h
          · cases h
          · rename_i hr
            simp [outB] at ho hr
            refine ⟨by omega, by omega, by omega, fun x hx => ?_⟩
            simp at hx
            rcases hx with rfl | rfl | rfl | hx
            · omega
            · omega
            · omega
            · have := hr.2.2.2 x hx
              omega

theorem pickN_mem {hz ha hn : Bool} {z t n x : Int} (h : x ∈ pickN hz ha hn z t n 3) : x = z ∨ x = t ∨ x = n := by
  cases hz <;> cases ha <;> cases hn <;> simp [pickN] at h <;> omega
theorem listC_wf {b : PC} (h : checkC b = 0) : ∀ x ∈ listC b, 0 ≤ x ∧ x ≤ 999 := by
  intro x hx
  refine (checkC_ok h).2.2.2 x ?_
  unfold listC at hx
  rcases List.mem_append.1 hx with hx | hx
  · have := pickN_mem hx
    simp
    rcases this with e | e | e <;> simp [e]
  · simp [hx]

theorem itoa_len {v : Int} (h0 : 0 ≤ v) (h1 : v ≤ 999) : (Lib.itoa v).length ≤ 3 := by
  unfold Lib.itoa
  rw [if_neg (by omega)]
  rw [Lib.decDigits]
  split
  · simp
  · rw [Lib.decDigits]
    split
    · simp
    · rw [Lib.decDigits, dif_pos (by omega)]
      simp
theorem flat_len : ∀ (L : List Int), (∀ x ∈ L, 0 ≤ x ∧ x ≤ 999) → (L.flatMap fun v => 32 :: Lib.itoa v).length ≤ 4 * L.length
  | [], _ => by simp
  | x :: L, h => by
    have h1 := h x (by simp)
    have h2 := itoa_len h1.1 h1.2
    have h3 := flat_len L (fun y hy => h y (by simp [hy]))
    simp only [List.flatMap_cons, List.length_append, List.length_cons]
    omega
theorem listC_len {b : PC} (h : checkC b = 0) : (listC b).length ≤ 11 := by
  have := (checkC_ok h).2.2.1
  have := pickN_len (hasZ b.k) (hasA b.k) (hasN b.k) b.z b.at' b.n 3
  unfold listC
  rw [List.length_append]
  omega
theorem word_len (k : Nat) : (word k).size ≤ 8 := by
  unfold word
  split <;> decide
theorem size_two (wd : ByteArray) (T : List UInt8) : (⟨(wd.data.toList ++ T).toArray⟩ : ByteArray).size = wd.size + T.length := by
  show (wd.data.toList ++ T).toArray.size = wd.data.size + T.length
  simp
theorem mk_append (a b : List UInt8) : (⟨a.toArray⟩ : ByteArray) ++ ⟨b.toArray⟩ = ⟨(a ++ b).toArray⟩ := by
  rw [ByteArray.ext_iff]
  simp [ByteArray.data_append]

set_option maxRecDepth 100000 in
set_option maxHeartbeats 2000000 in
theorem Print_c (a : Option Addr) (m c : Nat) (b : PC) (w : World) (hE : Env w) (h : Ints w a m c b.d) :
    Calls Tryz.prog 72 #[cmdV a m c b] w fun e w' => e = .returned (.tuple #[textV (printC b).1, .int .i64 (printC b).2]) ∧ Below w.heap.size w w' := by
  have HC := hide (fun w' hS h' => cmdCheck_c a m c b w' hS h')
  unfold cmdV at *
  by_cases hck : checkC b = 0
  · have HP : Hid (printC b = (textC b, 0)) := hide (by unfold printC; rw [if_pos hck])
    obtain ⟨hk1, hk2, hd8, _⟩ := checkC_ok hck
    have hwf := listC_wf hck
    have hll := listC_len hck
    obtain ⟨k, z, n, t, d⟩ := b
    obtain ⟨k, rfl⟩ : ∃ i : Nat, k = i := ⟨k.toNat, by simp at hk1; omega⟩
    dsimp only at *
    have hm8 : m ≤ 8 := by rw [← h.len]; exact hd8
    have k1 : (1 : Int) ≤ (k : Int) := by omega
    have k2 : (k : Int) < 13 := by omega
    have k0 : (0 : Int) ≤ (k : Int) := by omega
    rw [hck] at HC
    go_enter Tryz.func72, Tryz.ntmps72
    go_wp2_with fail
    refine (HC.out _ (hE.shp.below (by (repeat (first | exact Below.refl _ _ | assumption | refine Below.drew ?_ | refine below_drewN ?_ _ | refine belowA ?_ _ | refine belowT ?_ (by assumption) | refine Below.setCell ?_ (by first | (simp; done) | (simp; omega)) _)))) (h.below (B := w.heap.size) (by (repeat (first | exact Below.refl _ _ | assumption | refine Below.drew ?_ | refine below_drewN ?_ _ | refine belowA ?_ _ | refine belowT ?_ (by assumption) | refine Below.setCell ?_ (by first | (simp; done) | (simp; omega)) _))) (Nat.le_refl _))).mono ?_
    rintro e w1 ⟨rfl, hb1⟩
    have bw : Below w.heap.size w w1 := by (repeat (first | exact Below.refl _ _ | assumption | refine Below.drew ?_ | refine below_drewN ?_ _ | refine belowA ?_ _ | refine belowT ?_ (by assumption) | refine Below.setCell ?_ (by first | (simp; done) | (simp; omega)) _))
    have b0 := keepc hb1 (p := ⟨w.heap.size, 0, none⟩) (u := .int .i64 k) (by go_simp)
    have b1 := keepc hb1 (p := ⟨w.heap.size, 1, none⟩) (u := .int .i64 z) (by go_simp)
    have b2 := keepc hb1 (p := ⟨w.heap.size, 2, none⟩) (u := .int .i64 n) (by go_simp)
    have b3 := keepc hb1 (p := ⟨w.heap.size, 3, none⟩) (u := .int .i64 t) (by go_simp)
    have b4 := keepc hb1 (p := ⟨w.heap.size, 4, none⟩) (u := .slice a m c) (by go_simp)
    have E1 := hE.below bw
    have s1 := E1.shp.wd k (by omega)
    have i1 := h.below bw (Nat.le_refl _)
    clear hb1 HC
    go_wp2_with fail
    refine (listed_c a m c k z n t d w1 E1.shp i1 (by omega) (by omega) (by omega)).mono ?_
    rintro e w2 ⟨⟨v, rfl, hown⟩, hb2⟩
    have HT : Hid (textC ⟨k, z, n, t, d⟩ = (word k).data.toList ++ (listC ⟨k, z, n, t, d⟩).flatMap fun v => 32 :: Lib.itoa v) := hide rfl
    obtain ⟨a2, c2, rfl, i2, x2⟩ := hown.ints (fun x hx => by have := hwf x hx; omega)
    generalize listC ⟨k, z, n, t, d⟩ = L at *
    have E2 := E1.below hb2
    replace bw : Below w.heap.size w w2 := by (repeat (first | exact Below.refl _ _ | assumption | refine Below.drew ?_ | refine below_drewN ?_ _ | refine belowA ?_ _ | refine belowT ?_ (by assumption) | refine Below.setCell ?_ (by first | (simp; done) | (simp; omega)) _))
    clear b0 b1 b2 b3 b4 s1 hb2 E1 i1 hown x2
    have hwl := word_len k
    generalize word k = wd at *
    have hL : L.length ≤ 9223372036854775807 := by have := i2.le; have := i2.max; omega
    go_wp2
    go_loopw [5, 21] (fun o x wr => ∃ j : Nat, j ≤ L.length ∧ x = .int .i64 j ∧ o = textV (wd.data.toList ++ (L.take j).flatMap fun v => 32 :: Lib.itoa v) ∧ Below w2.heap.size w2 wr) (fun _ x _ => L.length - (intOf x).toNat)
    case atStart => exact ⟨0, by omega, rfl, by simp [textV], Below.refl _ _⟩
    case round =>
      obtain ⟨j, hj, rfl, rfl, hbr⟩ := hrel
      rename_i wr
      by_cases hlt : j < L.length
      · have i3 := i2.below hbr (Nat.le_refl _)
        rcases i3.row with h00 | ⟨b, off, rfl, _, hc⟩
        · omega
        · have hcell := hc j hlt
          have hlt' : (j : Int) < (L.length : Int) := by omega
          have hj0 : (0 : Int) ≤ (j : Int) := by omega
          have hx := hwf (L.getD j 0) (by simp [List.getD, hlt])
          have E3 := E2.below hbr
          have hstep : (L.take (j + 1)).flatMap (fun v => 32 :: Lib.itoa v) = (L.take j).flatMap (fun v => 32 :: Lib.itoa v) ++ 32 :: Lib.itoa (L.getD j 0) := by
            rw [take_succ_getD L j hlt]
            simp
          have HS := hide hstep
          have hT := flat_len (L.take j) (fun y hy => hwf y (List.mem_of_mem_take hy))
          rw [List.length_take] at hT
          have hI := itoa_len hx.1 hx.2
          clear hstep hc i3
          generalize L.getD j 0 = x at *
          generalize (L.take j).flatMap (fun v => 32 :: Lib.itoa v) = T at *
          have z1 : (⟨(Lib.itoa x).toArray⟩ : ByteArray).size = (Lib.itoa x).length := by simp [ByteArray.size]
          have z2 : (⟨(wd.data.toList ++ T).toArray⟩ : ByteArray).size = wd.size + T.length := size_two wd T
          have z3 : ((⟨#[32]⟩ : ByteArray) ++ ⟨(Lib.itoa x).toArray⟩).size = 1 + (Lib.itoa x).length := by rw [ByteArray.size_append, z1]; rfl
          have z4 : ¬ ((⟨#[32]⟩ : ByteArray).size + (⟨(Lib.itoa x).toArray⟩ : ByteArray).size > 9223372036854775807) := by rw [z1]; show ¬ (1 + _ > _); omega
          have z5 : ¬ ((⟨(wd.data.toList ++ T).toArray⟩ : ByteArray).size + ((⟨#[32]⟩ : ByteArray) ++ ⟨(Lib.itoa x).toArray⟩).size > 9223372036854775807) := by rw [z2, z3]; omega
          have HA : Hid ((⟨(wd.data.toList ++ T).toArray⟩ : ByteArray) ++ ((⟨#[32]⟩ : ByteArray) ++ ⟨(Lib.itoa x).toArray⟩) = ⟨(wd.data.toList ++ (T ++ 32 :: Lib.itoa x)).toArray⟩) := hide (by
            rw [show (⟨#[32]⟩ : ByteArray) = ⟨([32] : List UInt8).toArray⟩ from rfl, mk_append, mk_append]
            simp)
          have HI := hide (fun w' h' => Itoa_c x (by omega) w' h')
          unfold textV
          generalize (⟨(wd.data.toList ++ T).toArray⟩ : ByteArray) = S1 at *
          generalize (⟨(Lib.itoa x).toArray⟩ : ByteArray) = S2 at *
          go_wp2_with fail
          refine (HI.out _ E3).mono ?_
          rintro e w3 ⟨rfl, hb3⟩
          go_wp2
          refine ⟨⟨j + 1, by omega, by go_num, ?_, by (repeat (first | exact Below.refl _ _ | assumption | refine Below.drew ?_ | refine below_drewN ?_ _ | refine belowA ?_ _ | refine belowT ?_ (by assumption) | refine Below.setCell ?_ (by first | (simp; done) | (simp; omega)) _))⟩, by simp only [intOf]; omega⟩
          rw [HS.out, HA.out]
      · obtain rfl : j = L.length := by omega
        have HF : Hid (textC ⟨k, z, n, t, d⟩ = wd.data.toList ++ (L.take L.length).flatMap fun v => 32 :: Lib.itoa v) := hide (by rw [HT.out, List.take_length])
        generalize (L.take L.length).flatMap (fun v => 32 :: Lib.itoa v) = T at *
        unfold textV
        go_wp2
        refine bodyPost_ret (v := .tuple #[textV (wd.data.toList ++ T), .int .i64 0]) (by simp [results, Tryz.results72, go_sem, textV]) rfl ⟨?_, by (repeat (first | exact Below.refl _ _ | assumption | refine Below.drew ?_ | refine below_drewN ?_ _ | refine belowA ?_ _ | refine belowT ?_ (by assumption) | refine Below.setCell ?_ (by first | (simp; done) | (simp; omega)) _))⟩
        rw [HP.out, HF.out]
  · have HP : Hid (printC b = ([], checkC b)) := hide (by unfold printC; rw [if_neg hck])
    have hcb : (checkC b != 0) = true := by simpa using hck
    have HC2 := hide (HC.out)
    clear hck HC
    generalize checkC b = cb at *
    go_enter Tryz.func72, Tryz.ntmps72
    go_wp2_with fail
    refine (HC2.out _ (hE.shp.below (by (repeat (first | exact Below.refl _ _ | assumption | refine Below.drew ?_ | refine below_drewN ?_ _ | refine belowA ?_ _ | refine belowT ?_ (by assumption) | refine Below.setCell ?_ (by first | (simp; done) | (simp; omega)) _)))) (h.below (B := w.heap.size) (by (repeat (first | exact Below.refl _ _ | assumption | refine Below.drew ?_ | refine below_drewN ?_ _ | refine belowA ?_ _ | refine belowT ?_ (by assumption) | refine Below.setCell ?_ (by first | (simp; done) | (simp; omega)) _))) (Nat.le_refl _))).mono ?_
    rintro e w1 ⟨rfl, hb1⟩
    go_wp2
    exact bodyPost_ret (v := .tuple #[textV [], .int .i64 cb]) (by simp [results, Tryz.results72, go_sem, textV]) rfl ⟨by rw [HP.out], by (repeat (first | exact Below.refl _ _ | assumption | refine Below.drew ?_ | refine below_drewN ?_ _ | refine belowA ?_ _ | refine belowT ?_ (by assumption) | refine Below.setCell ?_ (by first | (simp; done) | (simp; omega)) _))⟩

end Go.Proofs.YtenmamcaldabdaaGreatDoor

/- Plain laws of commands and their texts: what is printed is read, what is read is printed, unlike commands have unlike texts; no condition. -/
namespace Go.Proofs.YtenmamcaldabdaaGreatDoor
open Go.RowKit
set_option linter.unusedVariables false
set_option maxRecDepth 100000
set_option linter.unusedSimpArgs false

theorem bytes_eq {a b : ByteArray} (h : a.data.toList = b.data.toList) : a = b := by
  rw [ByteArray.ext_iff]
  exact Array.toList_inj.1 h

theorem pieces_toks (s : ByteArray) : (pieces s).map (·.data.toList) = toks s.data.toList := splitB_toks s

theorem lay3_pick (hz ha hn : Bool) (z t n : Int) (d : List Int) : lay3 [hz, ha, hn] (pickN hz ha hn z t n 3 ++ d) = some ([if hz then z else 0, if ha then t else 0, if hn then n else 0], d) := by
  cases hz <;> cases ha <;> cases hn <;> simp [lay3, pickN]
theorem lay3_inv {hz ha hn : Bool} {l s r : List Int} (h : lay3 [hz, ha, hn] l = some (s, r)) : l = pickN hz ha hn (s.getD 0 0) (s.getD 1 0) (s.getD 2 0) 3 ++ r := by
  cases hz <;> cases ha <;> cases hn <;> rcases l with _ | ⟨x, _ | ⟨y, _ | ⟨u, l⟩⟩⟩ <;> simp [lay3] at h <;> obtain ⟨rfl, rfl⟩ := h <;> simp [pickN]

/-- What a right command has not is zero. -/
theorem checkC_zero {b : PC} (h : checkC b = 0) : (hasZ b.k = false → b.z = 0) ∧ (hasA b.k = false → b.at' = 0) ∧ (hasN b.k = false → b.n = 0) ∧ hasD b.k = decide (b.d ≠ []) := by
  unfold checkC at h
  split at h
  · cases h
  · split at h
    · cases h
    · rename_i hno
      split at h
      · cases h
      · rename_i hd
        refine ⟨fun e => ?_, fun e => ?_, fun e => ?_, ?_⟩
        · exact Decidable.byContradiction fun hz => hno (.inl ⟨hz, e⟩)
        · exact Decidable.byContradiction fun hz => hno (.inr (.inl ⟨hz, e⟩))
        · exact Decidable.byContradiction fun hz => hno (.inr (.inr ⟨hz, e⟩))
        · cases hh : hasD b.k <;> by_cases e : b.d = [] <;> simp [hh, e] at hd ⊢

theorem hasL_eq (k : Nat) : hasL k = [hasZ k, hasA k, hasN k] := rfl

theorem lay_list {b : PC} (h : checkC b = 0) : layC b.k.toNat (listC b) = some b := by
  obtain ⟨k1, k2, _, _⟩ := checkC_ok h
  obtain ⟨hz, ha, hn, hd⟩ := checkC_zero h
  obtain ⟨k, z, n, t, d⟩ := b
  dsimp only at *
  obtain ⟨i, rfl⟩ : ∃ i : Nat, k = i := ⟨k.toNat, by omega⟩
  unfold layC listC
  rw [hasL_eq, show ((i : Int).toNat) = i from rfl]
  dsimp only
  rw [lay3_pick]
  dsimp only
  rw [if_pos hd]
  congr 2
  · cases e : hasZ i
    · simp [hz e]
    · simp
  · cases e : hasN i
    · simp [hn e]
    · simp
  · cases e : hasA i
    · simp [ha e]
    · simp

theorem list_lay {k : Nat} {l : List Int} {b : PC} (h : layC k l = some b) : b.k = k ∧ listC b = l := by
  unfold layC at h
  split at h
  · cases h
  · rename_i s r hl
    split at h
    · cases h
      refine ⟨rfl, ?_⟩
      unfold listC
      dsimp only
      exact (lay3_inv hl).symm
    · cases h

theorem word_no_blank (k : Nat) : (32 : UInt8) ∉ (word k).data.toList := by
  unfold word
  split <;> decide

theorem text_glue (b : PC) : textC b = glue ((word b.k.toNat).data.toList :: (listC b).map Lib.itoa) := by
  rw [glue_flat]
  unfold textC
  congr 1
  induction listC b with
  | nil => rfl
  | cons x l ih => simp [ih]

theorem toks_text (b : PC) : toks (textC b) = (word b.k.toNat).data.toList :: (listC b).map Lib.itoa := by
  rw [text_glue]
  refine toks_glue _ (by simp) (fun t ht => ?_)
  rcases List.mem_cons.1 ht with rfl | ht
  · exact word_no_blank _
  · obtain ⟨v, _, rfl⟩ := List.mem_map.1 ht
    exact itoa_no_blank v

theorem readC_text {s : ByteArray} {b : PC} (h : checkC b = 0) (hs : s.data.toList = textC b) : readC (pieces s) = some b := by
  have ht := pieces_toks s
  rw [hs, toks_text] at ht
  obtain ⟨k1, k2, _, _⟩ := checkC_ok h
  cases hp : pieces s with
  | nil => rw [hp] at ht; simp at ht
  | cons t ts =>
    rw [hp] at ht
    simp only [List.map_cons, List.cons.injEq] at ht
    have e1 : t = word b.k.toNat := bytes_eq ht.1
    subst e1
    simp only [readC]
    rw [kindOfS_word _ (by omega) (by omega)]
    dsimp only
    rw [ht.2, nums_of _ (fun v hv => by have := listC_wf h v hv; omega)]
    exact lay_list h

theorem textC_len {b : PC} (h : checkC b = 0) : (textC b).length ≤ 60 := by
  have h1 := flat_len (listC b) (listC_wf h)
  have h2 := listC_len h
  have h3 := word_len b.k.toNat
  rw [Lib.size_eq] at h3
  unfold textC
  rw [List.length_append]
  omega

/-- What is printed is read. -/
theorem parse_text {b : PC} (h : checkC b = 0) : parseC ⟨(textC b).toArray⟩ = (b, 0) := by
  have hl := textC_len h
  unfold parseC
  rw [if_neg (by rw [Lib.size_eq]; simp; omega), readC_text h (by simp)]
  simp [h]

/-- What is read is printed as it was. -/
theorem text_parse {s : ByteArray} (h : (parseC s).2 = 0) : checkC (parseC s).1 = 0 ∧ textC (parseC s).1 = s.data.toList := by
  unfold parseC at h ⊢
  split at h
  · cases h
  · rename_i hlong
    rw [if_neg hlong]
    cases hr : readC (pieces s) with
    | none => rw [hr] at h; cases h
    | some b =>
      rw [hr] at h
      dsimp only at h ⊢
      by_cases hc : checkC b = 0
      · rw [if_pos hc]
        refine ⟨hc, ?_⟩
        dsimp only
        have ht := pieces_toks s
        rw [text_glue]
        cases hp : pieces s with
        | nil => rw [hp] at hr; cases hr
        | cons t ts =>
          rw [hp] at hr ht
          simp only [readC] at hr
          cases hk : kindOfS t with
          | none => rw [hk] at hr; cases hr
          | some k =>
            rw [hk] at hr
            dsimp only at hr
            cases hn : nums (ts.map (·.data.toList)) with
            | none => rw [hn] at hr; cases hr
            | some l =>
              rw [hn] at hr
              dsimp only at hr
              obtain ⟨e1, e2⟩ := list_lay hr
              have e3 := nums_itoa hn
              have e4 := (kindOfS_some hk).1
              rw [e1, e2, ← e3, show ((k : Int).toNat) = k from rfl, e4]
              rw [← glue_toks s.data.toList, ← ht]
              rfl
      · rw [if_neg hc] at h
        exact absurd h hc

end Go.Proofs.YtenmamcaldabdaaGreatDoor

/- Records as plain data, their texts, and what the document's calls make of them; plain mathematics, no condition. -/
namespace Go.Proofs.YtenmamcaldabdaaGreatDoor
open Go.RowKit
set_option linter.unusedVariables false
set_option maxRecDepth 100000
set_option linter.unusedSimpArgs false

/-- A record's text: hand, a blank, number, a colon, a blank, the command's text. -/
def textR (r : PR) : List UInt8 := Lib.itoa r.w ++ 32 :: (Lib.itoa r.s ++ 58 :: 32 :: textC r.c)
def printR (r : PR) : List UInt8 × Int := if checkR r = 0 then (textR r, 0) else ([], checkR r)

/-- What stands ahead of the first colon with a blank behind it, and what stands behind them. -/
def cutC : List UInt8 → Option (List UInt8 × List UInt8)
  | [] => none
  | 58 :: 32 :: r => some ([], r)
  | a :: r => (cutC r).map fun p => (a :: p.1, p.2)
/-- What stands ahead of the first blank, and what stands behind it. -/
def cutB : List UInt8 → Option (List UInt8 × List UInt8)
  | [] => none
  | a :: r => if a = 32 then some ([], r) else (cutB r).map fun p => (a :: p.1, p.2)
/-- Hand and number ahead of the colon. -/
def headR (l : List UInt8) : Option (Int × Int) := match cutB l with
  | none => none
  | some (a, b) => match num a, num b with
    | some v, some u => some (v, u)
    | _, _ => none
/-- What Parse answers. -/
def parseR (s : List UInt8) : PR × Int :=
  if 60000 < s.length then (zeroR, 2) else match cutC s with
    | none => (zeroR, 1)
    | some (h, t) => match headR h with
      | none => (zeroR, 1)
      | some (v, u) =>
        if (parseC ⟨t.toArray⟩).2 ≠ 0 then (zeroR, (parseC ⟨t.toArray⟩).2)
        else if checkR ⟨v, u, (parseC ⟨t.toArray⟩).1⟩ ≠ 0 then (zeroR, checkR ⟨v, u, (parseC ⟨t.toArray⟩).1⟩) else (⟨v, u, (parseC ⟨t.toArray⟩).1⟩, 0)

theorem cutB_word : ∀ (l r : List UInt8), (32 : UInt8) ∉ l → cutB (l ++ 32 :: r) = some (l, r)
  | [], r, _ => by simp [cutB]
  | a :: l, r, h => by
    have h1 : a ≠ 32 := fun e => h (by simp [e])
    have h2 : (32 : UInt8) ∉ l := fun e => h (by simp [e])
    simp [cutB, h1, cutB_word l r h2]
theorem cutB_some : ∀ {l a b : List UInt8}, cutB l = some (a, b) → l = a ++ 32 :: b
  | [], a, b, h => by simp [cutB] at h
  | x :: l, a, b, h => by
    by_cases e : x = 32
    · subst e
      simp [cutB] at h
      obtain ⟨rfl, rfl⟩ := h
      rfl
    · simp only [cutB, if_neg e] at h
      cases hc : cutB l with
      | none => rw [hc] at h; cases h
      | some p =>
        obtain ⟨p1, p2⟩ := p
        rw [hc] at h
        simp at h
        obtain ⟨rfl, rfl⟩ := h
        rw [cutB_some hc]
        rfl
theorem cutC_word : ∀ (l r : List UInt8), (58 : UInt8) ∉ l → cutC (l ++ 58 :: 32 :: r) = some (l, r)
  | [], r, _ => by simp [cutC]
  | a :: l, r, h => by
    have h1 : a ≠ 58 := fun e => h (by simp [e])
    have h2 : (58 : UInt8) ∉ l := fun e => h (by simp [e])
    have ih := cutC_word l r h2
    have e : cutC (a :: (l ++ 58 :: 32 :: r)) = (cutC (l ++ 58 :: 32 :: r)).map fun p => (a :: p.1, p.2) := by
      rw [cutC.eq_def]
      split
      · rename_i q; cases q
      · rename_i q; simp at q; exact absurd q.1 h1
      · rename_i hne q; simp at q; rw [q.1, q.2]
    rw [List.cons_append, e, ih]
    rfl
theorem cutC_some : ∀ {l a b : List UInt8}, cutC l = some (a, b) → l = a ++ 58 :: 32 :: b
  | [], a, b, h => by simp [cutC] at h
  | x :: l, a, b, h => by
    rw [cutC.eq_def] at h
    split at h
    · rename_i q; cases q
    · rename_i r q
      simp at q h
      obtain ⟨rfl, rfl⟩ := h
      simp [q]
    · rename_i y r hne q
      simp at q
      obtain ⟨rfl, rfl⟩ := q
      cases hc : cutC l with
      | none => rw [hc] at h; cases h
      | some p =>
        obtain ⟨p1, p2⟩ := p
        rw [hc] at h
        simp at h
        obtain ⟨rfl, rfl⟩ := h
        rw [cutC_some hc]
        rfl

theorem itoa_no_colon (v : Int) : (58 : UInt8) ∉ Lib.itoa v := by
  unfold Lib.itoa
  intro h
  split at h
  · simp at h
    have := digits_range _ _ h
    simp at this
  · have := digits_range _ _ h
    simp at this

theorem headR_text {v u : Int} (hv : -9223372036854775808 ≤ v ∧ v ≤ 9223372036854775807) (hu : -9223372036854775808 ≤ u ∧ u ≤ 9223372036854775807) : headR (Lib.itoa v ++ 32 :: Lib.itoa u) = some (v, u) := by
  unfold headR
  rw [cutB_word _ _ (itoa_no_blank v)]
  simp only [num_itoa v hv.1 hv.2, num_itoa u hu.1 hu.2]
theorem headR_some {l : List UInt8} {v u : Int} (h : headR l = some (v, u)) : l = Lib.itoa v ++ 32 :: Lib.itoa u := by
  unfold headR at h
  cases hc : cutB l with
  | none => rw [hc] at h; cases h
  | some p =>
    obtain ⟨a, b⟩ := p
    rw [hc] at h
    simp only at h
    cases ha : num a with
    | none => rw [ha] at h; cases h
    | some x =>
      cases hb : num b with
      | none => rw [ha, hb] at h; cases h
      | some y =>
        rw [ha, hb] at h
        simp at h
        obtain ⟨rfl, rfl⟩ := h
        rw [cutB_some hc, num_some ha, num_some hb]

theorem textR_len {r : PR} (h : checkR r = 0) : (textR r).length ≤ 100 := by
  obtain ⟨h1, h2, h3⟩ := checkR_facts h
  have a := itoa_len (v := r.w) h1.1 (by omega)
  have b := itoa_len (v := r.s) (by omega) (by omega)
  have c := textC_len h3
  simp [textR]
  omega

/-- What is printed is read. -/
theorem parse_textR {r : PR} (h : checkR r = 0) : parseR (textR r) = (r, 0) := by
  obtain ⟨h1, h2, h3⟩ := checkR_facts h
  have hl := textR_len h
  have hc : cutC (textR r) = some (Lib.itoa r.w ++ 32 :: Lib.itoa r.s, textC r.c) := by
    have e : textR r = (Lib.itoa r.w ++ 32 :: Lib.itoa r.s) ++ 58 :: 32 :: textC r.c := by simp [textR]
    rw [e]
    refine cutC_word _ _ ?_
    intro q
    rcases List.mem_append.1 q with q | q
    · exact itoa_no_colon _ q
    · rcases List.mem_cons.1 q with q | q
      · cases q
      · exact itoa_no_colon _ q
  unfold parseR
  rw [if_neg (by omega), hc]
  simp only
  rw [headR_text (by omega) (by omega)]
  simp only
  rw [parse_text h3]
  simp [h]

/-- What is read is printed as it was. -/
theorem text_parseR {s : List UInt8} (h : (parseR s).2 = 0) : checkR (parseR s).1 = 0 ∧ textR (parseR s).1 = s := by
  unfold parseR at h ⊢
  split
  · rename_i q; rw [if_pos q] at h; cases h
  · rename_i q
    rw [if_neg q] at h
    cases hc : cutC s with
    | none => rw [hc] at h; cases h
    | some p =>
      obtain ⟨a, t⟩ := p
      rw [hc] at h
      simp only at h ⊢
      cases hh : headR a with
      | none => rw [hh] at h; cases h
      | some p =>
        obtain ⟨v, u⟩ := p
        rw [hh] at h
        simp only at h ⊢
        by_cases hp : (parseC ⟨t.toArray⟩).2 = 0
        · by_cases hk : checkR ⟨v, u, (parseC ⟨t.toArray⟩).1⟩ = 0
          · rw [if_neg (by simp [hp]), if_neg (by simp [hk])]
            refine ⟨hk, ?_⟩
            have e := (text_parse hp).2
            simp only [textR]
            rw [e, cutC_some hc, headR_some hh]
            simp
          · rw [if_neg (by simp [hp]), if_pos hk] at h
            exact absurd h hk
        · rw [if_pos hp] at h
          exact absurd h hp

end Go.Proofs.YtenmamcaldabdaaGreatDoor

/- Disks as plain data: bytes that are safe, bytes that wait, the records that they tell; plain mathematics, no condition. -/
namespace Go.Proofs.YtenmamcaldabdaaGreatDoor
open Go.RowKit
set_option linter.unusedVariables false
set_option maxRecDepth 100000
set_option linter.unusedSimpArgs false

/-- A disk: what is safe, what waits. -/
structure PK where
  s : List UInt8
  w : List UInt8
def zeroK : PK := ⟨[], []⟩

/-- What stands ahead of the first line feed, and what stands behind it. -/
def cutN : List UInt8 → Option (List UInt8 × List UInt8)
  | [] => none
  | a :: r => if a = 10 then some ([], r) else (cutN r).map fun p => (a :: p.1, p.2)
theorem cutN_word : ∀ (l r : List UInt8), (10 : UInt8) ∉ l → cutN (l ++ 10 :: r) = some (l, r)
  | [], r, _ => by simp [cutN]
  | a :: l, r, h => by
    have h1 : a ≠ 10 := fun e => h (by simp [e])
    have h2 : (10 : UInt8) ∉ l := fun e => h (by simp [e])
    simp [cutN, h1, cutN_word l r h2]
theorem cutN_free : ∀ (l : List UInt8), (10 : UInt8) ∉ l → cutN l = none
  | [], _ => rfl
  | a :: l, h => by
    have h1 : a ≠ 10 := fun e => h (by simp [e])
    have h2 : (10 : UInt8) ∉ l := fun e => h (by simp [e])
    simp [cutN, h1, cutN_free l h2]
theorem cutN_some : ∀ {l a b : List UInt8}, cutN l = some (a, b) → l = a ++ 10 :: b ∧ (10 : UInt8) ∉ a
  | [], a, b, h => by simp [cutN] at h
  | x :: l, a, b, h => by
    by_cases e : x = 10
    · subst e
      simp [cutN] at h
      obtain ⟨rfl, rfl⟩ := h
      exact ⟨rfl, by simp⟩
    · simp only [cutN, if_neg e] at h
      cases hc : cutN l with
      | none => rw [hc] at h; cases h
      | some p =>
        obtain ⟨p1, p2⟩ := p
        rw [hc] at h
        simp at h
        obtain ⟨rfl, rfl⟩ := h
        obtain ⟨h1, h2⟩ := cutN_some hc
        refine ⟨by rw [h1]; rfl, ?_⟩
        intro q
        rcases List.mem_cons.1 q with q | q
        · exact e q.symm
        · exact h2 q

/-- The records of a text, line by line, as far as they are whole and no more than may be; how many bytes these have; what is wrong with the next one. -/
def linesF : Nat → Nat → List UInt8 → List PR × Nat × Int
  | 0, _, _ => ([], 0, 0)
  | f + 1, most, l => if l = [] then ([], 0, 0) else match cutN l with
    | none => ([], 0, 9)
    | some (a, r) => if (parseR a).2 ≠ 0 then ([], 0, (parseR a).2) else match most with
      | 0 => ([], 0, 2)
      | m + 1 => ((parseR a).1 :: (linesF f m r).1, a.length + 1 + (linesF f m r).2.1, (linesF f m r).2.2)
def linesP (most : Nat) (l : List UInt8) : List PR × Nat × Int := linesF l.length most l

theorem linesF_fuel : ∀ (f g most : Nat) (l : List UInt8), l.length ≤ f → l.length ≤ g → linesF f most l = linesF g most l
  | 0, 0, _, _, _, _ => rfl
  | 0, g + 1, most, l, h, _ => by
    obtain rfl : l = [] := List.eq_nil_of_length_eq_zero (by omega)
    simp [linesF]
  | f + 1, 0, most, l, _, h => by
    obtain rfl : l = [] := List.eq_nil_of_length_eq_zero (by omega)
    simp [linesF]
  | f + 1, g + 1, most, l, h1, h2 => by
    by_cases hl : l = []
    · simp [linesF, hl]
    · simp only [linesF, if_neg hl]
      cases hc : cutN l with
      | none => rfl
      | some p =>
        obtain ⟨a, r⟩ := p
        have hlen := congrArg List.length (cutN_some hc).1
        simp only [List.length_append, List.length_cons] at hlen
        cases most with
        | zero => rfl
        | succ m =>
          simp only
          rw [linesF_fuel f g m r (by omega) (by omega)]

theorem linesP_nil (most : Nat) : linesP most [] = ([], 0, 0) := rfl
theorem linesP_torn {l : List UInt8} (h : l ≠ []) (hc : cutN l = none) (most : Nat) : linesP most l = ([], 0, 9) := by
  unfold linesP
  cases l with
  | nil => exact absurd rfl h
  | cons a l => simp [linesF, hc]
theorem linesP_line {l a r : List UInt8} (hc : cutN l = some (a, r)) (most : Nat) : linesP most l = if (parseR a).2 ≠ 0 then ([], 0, (parseR a).2) else match most with
    | 0 => ([], 0, 2)
    | m + 1 => ((parseR a).1 :: (linesP m r).1, a.length + 1 + (linesP m r).2.1, (linesP m r).2.2) := by
  have hlen := congrArg List.length (cutN_some hc).1
  simp only [List.length_append, List.length_cons] at hlen
  unfold linesP
  obtain ⟨f, hf⟩ : ∃ f, l.length = f + 1 := ⟨l.length - 1, by omega⟩
  have hl : l ≠ [] := by rintro rfl; simp at hf
  rw [hf]
  simp only [linesF, if_neg hl, hc]
  cases most with
  | zero => rfl
  | succ m =>
    simp only
    rw [linesF_fuel f r.length m r (by omega) (Nat.le_refl _)]

theorem word_no_lf (k : Nat) : (10 : UInt8) ∉ (word k).data.toList := by
  unfold word
  split <;> decide
theorem itoa_no_lf (v : Int) : (10 : UInt8) ∉ Lib.itoa v := by
  unfold Lib.itoa
  intro h
  split at h
  · simp at h
    have := digits_range _ _ h
    simp at this
  · have := digits_range _ _ h
    simp at this
theorem textC_no_lf (b : PC) : (10 : UInt8) ∉ textC b := by
  unfold textC
  intro h
  rcases List.mem_append.1 h with h | h
  · exact word_no_lf _ h
  · obtain ⟨v, _, hv⟩ := List.mem_flatMap.1 h
    rcases List.mem_cons.1 hv with q | q
    · cases q
    · exact itoa_no_lf _ q
theorem textR_no_lf (r : PR) : (10 : UInt8) ∉ textR r := by
  unfold textR
  intro h
  rcases List.mem_append.1 h with h | h
  · exact itoa_no_lf _ h
  rcases List.mem_cons.1 h with h | h
  · cases h
  rcases List.mem_append.1 h with h | h
  · exact itoa_no_lf _ h
  rcases List.mem_cons.1 h with h | h
  · cases h
  rcases List.mem_cons.1 h with h | h
  · cases h
  exact textC_no_lf _ h

/-- The text of records, a line each. -/
def textL (rs : List PR) : List UInt8 := rs.flatMap fun r => textR r ++ [10]
theorem textL_nil : textL [] = [] := rfl
theorem textL_cons (r : PR) (rs : List PR) : textL (r :: rs) = textR r ++ 10 :: textL rs := by simp [textL]
theorem textL_append (a b : List PR) : textL (a ++ b) = textL a ++ textL b := by simp [textL]

/-- Right records ahead of a text. -/
theorem lines_ahead : ∀ (rs : List PR) (most : Nat) (l : List UInt8), (∀ r ∈ rs, checkR r = 0) → rs.length ≤ most →
    linesP most (textL rs ++ l) = (rs ++ (linesP (most - rs.length) l).1, (textL rs).length + (linesP (most - rs.length) l).2.1, (linesP (most - rs.length) l).2.2)
  | [], most, l, _, _ => by simp [textL_nil]
  | r :: rs, most, l, h, hm => by
    obtain ⟨m, rfl⟩ : ∃ m, most = m + 1 := ⟨most - 1, by simp at hm; omega⟩
    have hr := h r (by simp)
    have hc : cutN (textL (r :: rs) ++ l) = some (textR r, textL rs ++ l) := by
      rw [textL_cons, List.append_assoc, List.cons_append]
      exact cutN_word _ _ (textR_no_lf r)
    rw [linesP_line hc, parse_textR hr, if_neg (by simp)]
    simp only
    rw [lines_ahead rs m l (fun x hx => h x (by simp [hx])) (by simpa using hm)]
    simp only [List.length_cons, Nat.add_sub_add_right, textL_cons, List.cons_append, List.length_append, Prod.mk.injEq, and_true, true_and]
    omega
theorem lines_text (rs : List PR) (most : Nat) (h : ∀ r ∈ rs, checkR r = 0) (hm : rs.length ≤ most) : linesP most (textL rs) = (rs, (textL rs).length, 0) := by
  have := lines_ahead rs most [] h hm
  simpa [linesP_nil] using this

/-- What the records of a text are. -/
theorem lines_facts : ∀ (n most : Nat) (l : List UInt8), l.length ≤ n → (linesP most l).1.length ≤ most ∧ (∀ r ∈ (linesP most l).1, checkR r = 0) ∧ l = textL (linesP most l).1 ++ l.drop (linesP most l).2.1 ∧ (linesP most l).2.1 = (textL (linesP most l).1).length ∧ ((linesP most l).2.2 = 0 → (linesP most l).2.1 = l.length)
  | n, most, [], _ => by simp [linesP_nil, textL_nil]
  | 0, most, a :: l, h => by simp at h
  | n + 1, most, b :: l, h => by
    cases hc : cutN (b :: l) with
    | none => simp [linesP_torn (by simp) hc, textL_nil]
    | some p =>
      obtain ⟨a, r⟩ := p
      obtain ⟨hl, _⟩ := cutN_some hc
      have hlen := congrArg List.length hl
      simp only [List.length_append, List.length_cons] at hlen h
      rw [linesP_line hc]
      by_cases hp : (parseR a).2 = 0
      · rw [if_neg (by simp [hp])]
        cases most with
        | zero => simp [textL_nil]
        | succ m =>
          obtain ⟨f1, f2, f3, f4, f5⟩ := lines_facts n m r (by omega)
          obtain ⟨g1, g2⟩ := text_parseR hp
          simp only
          refine ⟨by simpa using f1, ?_, ?_, ?_, ?_⟩
          · intro x hx
            rcases List.mem_cons.1 hx with rfl | hx
            · exact g1
            · exact f2 x hx
          · rw [textL_cons, g2]
            conv => lhs; rw [hl, f3]
            rw [hl]
            simp [List.drop_append, Nat.add_assoc, Nat.add_sub_cancel_left, Nat.add_comm 1]
          · rw [textL_cons, g2, f4]
            simp
            omega
          · intro he
            have := f5 he
            simp
            omega
      · rw [if_pos hp]
        simp [textL_nil, hp]

end Go.Proofs.YtenmamcaldabdaaGreatDoor
