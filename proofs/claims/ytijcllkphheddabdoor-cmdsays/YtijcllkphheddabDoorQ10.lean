/- The contract of cmd.Print; no condition but that the data reads as a list, and the package-level variables are as their texts lay them. -/
import Derived.Test.YtijcllkphheddabDoorQ9
namespace Go.Proofs.YtijcllkphheddabDoor
open Go.RowKit
set_option linter.unusedVariables false
set_option linter.unusedSimpArgs false

/-- The text of a right command. -/
def textC (b : PC) : List UInt8 := (word b.k.toNat).data.toList ++ (listC b).flatMap fun v => 32 :: Lib.itoa v
/-- What Print answers. -/
def printC (b : PC) : List UInt8 × Int := if checkC b = 0 then (textC b, 0) else ([], checkC b)
def textV (l : List UInt8) : Value := .string ⟨l.toArray⟩

theorem checkC_ok {b : PC} (h : checkC b = 0) : 1 ≤ b.k ∧ b.k ≤ 12 ∧ b.d.length ≤ 8 ∧ (∀ x ∈ [b.z, b.at', b.n] ++ b.d, 0 ≤ x ∧ x ≤ 999) := by
  unfold checkC at h
  split at h
  · cases h
  · rename_i ho
    split at h
    · cases h
    · split at h
      · cases h
      · split at h
        · cases h
        · rename_i h8
          split at h
          · cases h
          · rename_i hr
            simp [outB] at ho hr
            refine ⟨by omega, by omega, by omega, fun x hx => ?_⟩
            simp at hx
            rcases hx with rfl | rfl | rfl | hx
            · omega
            · omega
            · omega
            · have := hr.2.2.2 x hx
              omega

theorem pickN_mem {hz ha hn : Bool} {z t n x : Int} (h : x ∈ pickN hz ha hn z t n 3) : x = z ∨ x = t ∨ x = n := by
  cases hz <;> cases ha <;> cases hn <;> simp [pickN] at h <;> omega
theorem listC_wf {b : PC} (h : checkC b = 0) : ∀ x ∈ listC b, 0 ≤ x ∧ x ≤ 999 := by
  intro x hx
  refine (checkC_ok h).2.2.2 x ?_
  unfold listC at hx
  rcases List.mem_append.1 hx with hx | hx
  · have := pickN_mem hx
    simp
    rcases this with e | e | e <;> simp [e]
  · simp [hx]

theorem itoa_len {v : Int} (h0 : 0 ≤ v) (h1 : v ≤ 999) : (Lib.itoa v).length ≤ 3 := by
  unfold Lib.itoa
  rw [if_neg (by omega)]
  rw [Lib.decDigits]
  split
  · simp
  · rw [Lib.decDigits]
    split
    · simp
    · rw [Lib.decDigits, dif_pos (by omega)]
      simp
theorem flat_len : ∀ (L : List Int), (∀ x ∈ L, 0 ≤ x ∧ x ≤ 999) → (L.flatMap fun v => 32 :: Lib.itoa v).length ≤ 4 * L.length
  | [], _ => by simp
  | x :: L, h => by
    have h1 := h x (by simp)
    have h2 := itoa_len h1.1 h1.2
    have h3 := flat_len L (fun y hy => h y (by simp [hy]))
    simp only [List.flatMap_cons, List.length_append, List.length_cons]
    omega
theorem listC_len {b : PC} (h : checkC b = 0) : (listC b).length ≤ 11 := by
  have := (checkC_ok h).2.2.1
  have := pickN_len (hasZ b.k) (hasA b.k) (hasN b.k) b.z b.at' b.n 3
  unfold listC
  rw [List.length_append]
  omega
theorem word_len (k : Nat) : (word k).size ≤ 8 := by
  unfold word
  split <;> decide
theorem size_two (wd : ByteArray) (T : List UInt8) : (⟨(wd.data.toList ++ T).toArray⟩ : ByteArray).size = wd.size + T.length := by
  show (wd.data.toList ++ T).toArray.size = wd.data.size + T.length
  simp
theorem mk_append (a b : List UInt8) : (⟨a.toArray⟩ : ByteArray) ++ ⟨b.toArray⟩ = ⟨(a ++ b).toArray⟩ := by
  rw [ByteArray.ext_iff]
  simp [ByteArray.data_append]

set_option maxRecDepth 100000 in
set_option maxHeartbeats 2000000 in
theorem Print_c (a : Option Addr) (m c : Nat) (b : PC) (w : World) (hE : Env w) (h : Ints w a m c b.d) :
    Calls Tryd.prog 4 #[cmdV a m c b] w fun e w' => e = .returned (.tuple #[textV (printC b).1, .int .i64 (printC b).2]) ∧ Below w.heap.size w w' := by
  have HC := hide (fun w' hS h' => cmdCheck_c a m c b w' hS h')
  unfold cmdV at *
  by_cases hck : checkC b = 0
  · have HP : Hid (printC b = (textC b, 0)) := hide (by unfold printC; rw [if_pos hck])
    obtain ⟨hk1, hk2, hd8, _⟩ := checkC_ok hck
    have hwf := listC_wf hck
    have hll := listC_len hck
    obtain ⟨k, z, n, t, d⟩ := b
    obtain ⟨k, rfl⟩ : ∃ i : Nat, k = i := ⟨k.toNat, by simp at hk1; omega⟩
    dsimp only at *
    have hm8 : m ≤ 8 := by rw [← h.len]; exact hd8
    have k1 : (1 : Int) ≤ (k : Int) := by omega
    have k2 : (k : Int) < 13 := by omega
    have k0 : (0 : Int) ≤ (k : Int) := by omega
    rw [hck] at HC
    go_enter Tryd.func4, Tryd.ntmps4
    go_wp2_with fail
    refine (HC.out _ (hE.shp.below (by (repeat (first | exact Below.refl _ _ | assumption | refine Below.drew ?_ | refine below_drewN ?_ _ | refine belowA ?_ _ | refine belowT ?_ (by assumption) | refine Below.setCell ?_ (by first | (simp; done) | (simp; omega)) _)))) (h.below (B := w.heap.size) (by (repeat (first | exact Below.refl _ _ | assumption | refine Below.drew ?_ | refine below_drewN ?_ _ | refine belowA ?_ _ | refine belowT ?_ (by assumption) | refine Below.setCell ?_ (by first | (simp; done) | (simp; omega)) _))) (Nat.le_refl _))).mono ?_
    rintro e w1 ⟨rfl, hb1⟩
    have bw : Below w.heap.size w w1 := by (repeat (first | exact Below.refl _ _ | assumption | refine Below.drew ?_ | refine below_drewN ?_ _ | refine belowA ?_ _ | refine belowT ?_ (by assumption) | refine Below.setCell ?_ (by first | (simp; done) | (simp; omega)) _))
    have b0 := keepc hb1 (p := ⟨w.heap.size, 0, none⟩) (u := .int .i64 k) (by go_simp)
    have b1 := keepc hb1 (p := ⟨w.heap.size, 1, none⟩) (u := .int .i64 z) (by go_simp)
    have b2 := keepc hb1 (p := ⟨w.heap.size, 2, none⟩) (u := .int .i64 n) (by go_simp)
    have b3 := keepc hb1 (p := ⟨w.heap.size, 3, none⟩) (u := .int .i64 t) (by go_simp)
    have b4 := keepc hb1 (p := ⟨w.heap.size, 4, none⟩) (u := .slice a m c) (by go_simp)
    have E1 := hE.below bw
    have s1 := E1.shp.wd k (by omega)
    have i1 := h.below bw (Nat.le_refl _)
    clear hb1 HC
    go_wp2_with fail
    refine (listed_c a m c k z n t d w1 E1.shp i1 (by omega) (by omega) (by omega)).mono ?_
    rintro e w2 ⟨⟨v, rfl, hown⟩, hb2⟩
    have HT : Hid (textC ⟨k, z, n, t, d⟩ = (word k).data.toList ++ (listC ⟨k, z, n, t, d⟩).flatMap fun v => 32 :: Lib.itoa v) := hide rfl
    obtain ⟨a2, c2, rfl, i2, x2⟩ := hown.ints (fun x hx => by have := hwf x hx; omega)
    generalize listC ⟨k, z, n, t, d⟩ = L at *
    have E2 := E1.below hb2
    replace bw : Below w.heap.size w w2 := by (repeat (first | exact Below.refl _ _ | assumption | refine Below.drew ?_ | refine below_drewN ?_ _ | refine belowA ?_ _ | refine belowT ?_ (by assumption) | refine Below.setCell ?_ (by first | (simp; done) | (simp; omega)) _))
    clear b0 b1 b2 b3 b4 s1 hb2 E1 i1 hown x2
    have hwl := word_len k
    generalize word k = wd at *
    have hL : L.length ≤ 9223372036854775807 := by have := i2.le; have := i2.max; omega
    go_wp2
    go_loopw [5, 21] (fun o x wr => ∃ j : Nat, j ≤ L.length ∧ x = .int .i64 j ∧ o = textV (wd.data.toList ++ (L.take j).flatMap fun v => 32 :: Lib.itoa v) ∧ Below w2.heap.size w2 wr) (fun _ x _ => L.length - (intOf x).toNat)
    case atStart => exact ⟨0, by omega, rfl, by simp [textV], Below.refl _ _⟩
    case round =>
      obtain ⟨j, hj, rfl, rfl, hbr⟩ := hrel
      rename_i wr
      by_cases hlt : j < L.length
      · have i3 := i2.below hbr (Nat.le_refl _)
        rcases i3.row with h00 | ⟨b, off, rfl, _, hc⟩
        · omega
        · have hcell := hc j hlt
          have hlt' : (j : Int) < (L.length : Int) := by omega
          have hj0 : (0 : Int) ≤ (j : Int) := by omega
          have hx := hwf (L.getD j 0) (by simp [List.getD, hlt])
          have E3 := E2.below hbr
          have hstep : (L.take (j + 1)).flatMap (fun v => 32 :: Lib.itoa v) = (L.take j).flatMap (fun v => 32 :: Lib.itoa v) ++ 32 :: Lib.itoa (L.getD j 0) := by
            rw [take_succ_getD L j hlt]
            simp
          have HS := hide hstep
          have hT := flat_len (L.take j) (fun y hy => hwf y (List.mem_of_mem_take hy))
          rw [List.length_take] at hT
          have hI := itoa_len hx.1 hx.2
          clear hstep hc i3
          generalize L.getD j 0 = x at *
          generalize (L.take j).flatMap (fun v => 32 :: Lib.itoa v) = T at *
          have z1 : (⟨(Lib.itoa x).toArray⟩ : ByteArray).size = (Lib.itoa x).length := by simp [ByteArray.size]
          have z2 : (⟨(wd.data.toList ++ T).toArray⟩ : ByteArray).size = wd.size + T.length := size_two wd T
          have z3 : ((⟨#[32]⟩ : ByteArray) ++ ⟨(Lib.itoa x).toArray⟩).size = 1 + (Lib.itoa x).length := by rw [ByteArray.size_append, z1]; rfl
          have z4 : ¬ ((⟨#[32]⟩ : ByteArray).size + (⟨(Lib.itoa x).toArray⟩ : ByteArray).size > 9223372036854775807) := by rw [z1]; show ¬ (1 + _ > _); omega
          have z5 : ¬ ((⟨(wd.data.toList ++ T).toArray⟩ : ByteArray).size + ((⟨#[32]⟩ : ByteArray) ++ ⟨(Lib.itoa x).toArray⟩).size > 9223372036854775807) := by rw [z2, z3]; omega
          have HA : Hid ((⟨(wd.data.toList ++ T).toArray⟩ : ByteArray) ++ ((⟨#[32]⟩ : ByteArray) ++ ⟨(Lib.itoa x).toArray⟩) = ⟨(wd.data.toList ++ (T ++ 32 :: Lib.itoa x)).toArray⟩) := hide (by
            rw [show (⟨#[32]⟩ : ByteArray) = ⟨([32] : List UInt8).toArray⟩ from rfl, mk_append, mk_append]
            simp)
          have HI := hide (fun w' h' => Itoa_c x (by omega) w' h')
          unfold textV
          generalize (⟨(wd.data.toList ++ T).toArray⟩ : ByteArray) = S1 at *
          generalize (⟨(Lib.itoa x).toArray⟩ : ByteArray) = S2 at *
          go_wp2_with fail
          refine (HI.out _ E3).mono ?_
          rintro e w3 ⟨rfl, hb3⟩
          go_wp2
          refine ⟨⟨j + 1, by omega, by go_num, ?_, by (repeat (first | exact Below.refl _ _ | assumption | refine Below.drew ?_ | refine below_drewN ?_ _ | refine belowA ?_ _ | refine belowT ?_ (by assumption) | refine Below.setCell ?_ (by first | (simp; done) | (simp; omega)) _))⟩, by simp only [intOf]; omega⟩
          rw [HS.out, HA.out]
      · obtain rfl : j = L.length := by omega
        have HF : Hid (textC ⟨k, z, n, t, d⟩ = wd.data.toList ++ (L.take L.length).flatMap fun v => 32 :: Lib.itoa v) := hide (by rw [HT.out, List.take_length])
        generalize (L.take L.length).flatMap (fun v => 32 :: Lib.itoa v) = T at *
        unfold textV
        go_wp2
        refine bodyPost_ret (v := .tuple #[textV (wd.data.toList ++ T), .int .i64 0]) (by simp [results, Tryd.results4, go_sem, textV]) rfl ⟨?_, by (repeat (first | exact Below.refl _ _ | assumption | refine Below.drew ?_ | refine below_drewN ?_ _ | refine belowA ?_ _ | refine belowT ?_ (by assumption) | refine Below.setCell ?_ (by first | (simp; done) | (simp; omega)) _))⟩
        rw [HP.out, HF.out]
  · have HP : Hid (printC b = ([], checkC b)) := hide (by unfold printC; rw [if_neg hck])
    have hcb : (checkC b != 0) = true := by simpa using hck
    have HC2 := hide (HC.out)
    clear hck HC
    generalize checkC b = cb at *
    go_enter Tryd.func4, Tryd.ntmps4
    go_wp2_with fail
    refine (HC2.out _ (hE.shp.below (by (repeat (first | exact Below.refl _ _ | assumption | refine Below.drew ?_ | refine below_drewN ?_ _ | refine belowA ?_ _ | refine belowT ?_ (by assumption) | refine Below.setCell ?_ (by first | (simp; done) | (simp; omega)) _)))) (h.below (B := w.heap.size) (by (repeat (first | exact Below.refl _ _ | assumption | refine Below.drew ?_ | refine below_drewN ?_ _ | refine belowA ?_ _ | refine belowT ?_ (by assumption) | refine Below.setCell ?_ (by first | (simp; done) | (simp; omega)) _))) (Nat.le_refl _))).mono ?_
    rintro e w1 ⟨rfl, hb1⟩
    go_wp2
    exact bodyPost_ret (v := .tuple #[textV [], .int .i64 cb]) (by simp [results, Tryd.results4, go_sem, textV]) rfl ⟨by rw [HP.out], by (repeat (first | exact Below.refl _ _ | assumption | refine Below.drew ?_ | refine below_drewN ?_ _ | refine belowA ?_ _ | refine belowT ?_ (by assumption) | refine Below.setCell ?_ (by first | (simp; done) | (simp; omega)) _))⟩

end Go.Proofs.YtijcllkphheddabDoor
