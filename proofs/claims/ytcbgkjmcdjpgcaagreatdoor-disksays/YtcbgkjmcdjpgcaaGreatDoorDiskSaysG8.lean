/- Records' values, and the contracts of note.Check, note.Same, note.number; no condition but that the arguments read as data, and the package-level variables are as their texts lay them. -/
import Derived.Test.YtcbgkjmcdjpgcaaGreatDoorDiskSaysG7
import Derived.Test.YtcbgkjmcdjpgcaaGreatDoorDiskSaysG1
import Derived.Deep.Strs
namespace Go.Proofs.YtcbgkjmcdjpgcaaGreatDoor
open Go.RowKit
set_option linter.unusedVariables false
set_option maxRecDepth 100000
set_option linter.unusedSimpArgs false

/-- A record's value. -/
structure RV where
  p : PR
  a : Option Addr
  n : Nat
  c : Nat
def RV.v (x : RV) : Value := .agg #[.int .i64 x.p.w, .int .i64 x.p.s, .int .i64 x.p.c.k, .int .i64 x.p.c.z, .int .i64 x.p.c.n, .int .i64 x.p.c.at', .slice x.a x.n x.c]
def RV.ok (w : World) (x : RV) : Prop := Ints w x.a x.n x.c x.p.c.d
def RV.zero : RV := ⟨zeroR, none, 0, 0⟩
theorem RV.ok.below {w w' : World} {x : RV} (h : x.ok w) {B : Nat} (hb : Below B w w') (hB : w.heap.size ≤ B) : x.ok w' := Ints.below h hb hB
theorem RV.zero_ok (w : World) : RV.zero.ok w := Ints.nilSlice w
theorem RV.zero_p : RV.zero.p = zeroR := rfl
def RV.off (R : Nat) (x : RV) : Prop := x.n = 0 ∨ ∀ y, x.a = some y → y.block ≠ R
theorem RV.ok.but {w w' : World} {g : Nat} {x : RV} (h : x.ok w) (hb : But g w w') (ho : x.off g) : x.ok w' := Ints.but h hb ho
theorem RV.ok.off {w : World} {x : RV} (h : x.ok w) {R : Nat} (hR : w.heap.size ≤ R) : x.off R := Ints.offs h hR
def RV.cells (x : RV) : List Value := [.int .i64 x.p.w, .int .i64 x.p.s, .int .i64 x.p.c.k, .int .i64 x.p.c.z, .int .i64 x.p.c.n, .int .i64 x.p.c.at', .slice x.a x.n x.c]

theorem nwithin_c (n a b : Int) (w : World) : Calls Tryz.prog 44 #[.int .i64 n, .int .i64 a, .int .i64 b] w fun e w' => e = .returned (.bool (inB n a b)) ∧ w' = w := by
  go_enter Tryz.func44, Tryz.ntmps44
  go_wp2
  all_goals (go_ret; exact ⟨ret_bool (by unfold inB; rw [Bool.eq_iff_iff]; simp; try omega), rfl⟩)

set_option maxHeartbeats 1000000 in
theorem NCheck_c (x : RV) (w : World) (hS : Shapes w) (h : x.ok w) : Calls Tryz.prog 31 #[x.v] w fun e w' => e = .returned (.int .i64 (checkR x.p)) ∧ Below w.heap.size w w' := by
  obtain ⟨⟨q, s, ⟨k, z, m, t, d⟩⟩, a, n, c⟩ := x
  dsimp only [RV.v, RV.ok] at *
  have HC := hide (fun w' hS h' => cmdCheck_c a n c ⟨k, z, m, t, d⟩ w' hS h')
  have HK : Hid (checkR ⟨q, s, ⟨k, z, m, t, d⟩⟩ = if inB q 0 2 = false ∨ inB s 1 40 = false then 3 else checkC ⟨k, z, m, t, d⟩) := hide rfl
  unfold cmdV at HC
  dsimp only at HC
  go_enter Tryz.func31, Tryz.ntmps31
  go_wp2_with fail
  refine (nwithin_c _ _ _ _).mono ?_
  rintro e w1 ⟨rfl, rfl⟩
  cases h1 : inB q 0 2
  · go_wp2
    go_ret
    exact ⟨ret_int (by rw [HK.out]; simp [h1]), by (repeat (first | exact Below.refl _ _ | assumption | refine Below.drew ?_ | refine below_drewN ?_ _ | refine belowA ?_ _ | refine belowT ?_ (by assumption) | refine Below.setCell ?_ (by first | (simp; done) | (simp; omega)) _))⟩
  · go_wp2_with fail
    refine (nwithin_c _ _ _ _).mono ?_
    rintro e w1 ⟨rfl, rfl⟩
    cases h2 : inB s 1 40
    · go_wp2
      go_ret
      exact ⟨ret_int (by rw [HK.out]; simp [h2]), by (repeat (first | exact Below.refl _ _ | assumption | refine Below.drew ?_ | refine below_drewN ?_ _ | refine belowA ?_ _ | refine belowT ?_ (by assumption) | refine Below.setCell ?_ (by first | (simp; done) | (simp; omega)) _))⟩
    · go_wp2_with fail
      refine (HC.out _ (hS.below (by (repeat (first | exact Below.refl _ _ | assumption | refine Below.drew ?_ | refine below_drewN ?_ _ | refine belowA ?_ _ | refine belowT ?_ (by assumption) | refine Below.setCell ?_ (by first | (simp; done) | (simp; omega)) _)))) (h.below (B := w.heap.size) (by (repeat (first | exact Below.refl _ _ | assumption | refine Below.drew ?_ | refine below_drewN ?_ _ | refine belowA ?_ _ | refine belowT ?_ (by assumption) | refine Below.setCell ?_ (by first | (simp; done) | (simp; omega)) _))) (Nat.le_refl _))).mono ?_
      rintro e w3 ⟨rfl, hb3⟩
      go_wp2
      go_ret
      exact ⟨ret_int (by rw [HK.out]; simp [h1, h2]), by (repeat (first | exact Below.refl _ _ | assumption | refine Below.drew ?_ | refine below_drewN ?_ _ | refine belowA ?_ _ | refine belowT ?_ (by assumption) | refine Below.setCell ?_ (by first | (simp; done) | (simp; omega)) _))⟩

/-- A number's text. -/
def itoaB (v : Int) : ByteArray := ⟨(Lib.itoa v).toArray⟩

theorem atoiAll_wf {l : List UInt8} {v : Int} (h : Lib.atoiAll l = .ok v) : -9223372036854775808 ≤ v ∧ v ≤ 9223372036854775807 := by
  have := Lib.parseIntB_bounds (show Lib.parseIntB 64 l = .ok v by rw [Lib.parseIntB_64]; exact h)
  simp at this
  omega

/-- What a word read as a number answers. -/
def NumRes (s : ByteArray) (e : Ending) : Prop := ∃ v f, e = .returned (.tuple #[.int .i64 v, .bool f]) ∧ (f = true → num s.data.toList = some v) ∧ (f = false → num s.data.toList = none)

set_option maxHeartbeats 1000000 in
theorem number_c (s : ByteArray) (hs : s.size ≤ 281474976710656) (w : World) (hE : Env w) : Calls Tryz.prog 71 #[.string s] w fun e w' => NumRes s e ∧ Below w.heap.size w w' := by
  by_cases hok : ∃ v, Lib.atoiAll s.data.toList = .ok v
  · obtain ⟨v, hv⟩ := hok
    have hw := atoiAll_wf hv
    have HN : Hid (num s.data.toList = if Lib.itoa v = s.data.toList then some v else none) := hide (by rw [num_eq, hv])
    have HI := hide (fun w' h' => Itoa_c v hw w' h')
    have HE : Hid (((⟨(Lib.itoa v).toArray⟩ : ByteArray) == s) = decide (Lib.itoa v = s.data.toList)) := hide (by
      by_cases e : Lib.itoa v = s.data.toList
      · rw [beq_t (bytes_eq e)]; simp [e]
      · rw [beq_f (fun e' => e (by rw [← e']))]; simp [e])
    generalize hx : (⟨(Lib.itoa v).toArray⟩ : ByteArray) = x at *
    clear hx
    go_enter Tryz.func71, Tryz.ntmps71
    go_wp2_with fail
    refine (Atoi_ok_c s hs v hv _).mono ?_
    rintro e w1 ⟨rfl, hb1⟩
    have E1 := hE.below hb1
    go_wp2_with fail
    refine (HI.out _ E1).mono ?_
    rintro e w2 ⟨rfl, hb2⟩
    have he := HE.out
    cases hd : decide (Lib.itoa v = s.data.toList)
    · rw [hd] at he
      have he2 : (x.toList == s.toList) = false := by rw [← beq_toListBytes]; exact he
      have he3 : ¬ (x.toList = s.toList) := by simpa using he2
      go_wp2
      refine bodyPost_ret (v := .tuple #[.int .i64 v, .bool false]) (by simp [results, Tryz.results71, go_sem, he3]) rfl ⟨⟨v, false, rfl, (fun h => by cases h), fun _ => ?_⟩, by (repeat (first | exact Below.refl _ _ | assumption | refine Below.drew ?_ | refine below_drewN ?_ _ | refine belowA ?_ _ | refine belowT ?_ (by assumption) | refine Below.setCell ?_ (by first | (simp; done) | (simp; omega)) _))⟩
      rw [HN.out, if_neg (of_decide_eq_false hd)]
    · rw [hd] at he
      have he2 : (x.toList == s.toList) = true := by rw [← beq_toListBytes]; exact he
      have he3 : x.toList = s.toList := by simpa using he2
      go_wp2
      refine bodyPost_ret (v := .tuple #[.int .i64 v, .bool true]) (by simp [results, Tryz.results71, go_sem, he3]) rfl ⟨⟨v, true, rfl, fun _ => ?_, (fun h => by cases h)⟩, by (repeat (first | exact Below.refl _ _ | assumption | refine Below.drew ?_ | refine below_drewN ?_ _ | refine belowA ?_ _ | refine belowT ?_ (by assumption) | refine Below.setCell ?_ (by first | (simp; done) | (simp; omega)) _))⟩
      rw [HN.out, if_pos (of_decide_eq_true hd)]
  · have hn : ∀ v, Lib.atoiAll s.data.toList ≠ .ok v := fun v h => hok ⟨v, h⟩
    have HN : Hid (num s.data.toList = none) := hide (by
      rw [num_eq]
      cases h : Lib.atoiAll s.data.toList with
      | ok v => exact absurd h (hn v)
      | «syntax» => rfl
      | range => rfl)
    go_enter Tryz.func71, Tryz.ntmps71
    go_wp2_with fail
    refine (Atoi_bad_c s hs hn _ hE).mono ?_
    rintro e w1 ⟨⟨v, N, rfl⟩, hb1⟩
    go_wp2
    exact bodyPost_ret (v := .tuple #[.int .i64 v, .bool false]) (by simp [results, Tryz.results71, go_sem]) rfl ⟨⟨v, false, rfl, (fun h => by cases h), fun _ => HN.out⟩, by (repeat (first | exact Below.refl _ _ | assumption | refine Below.drew ?_ | refine below_drewN ?_ _ | refine belowA ?_ _ | refine belowT ?_ (by assumption) | refine Below.setCell ?_ (by first | (simp; done) | (simp; omega)) _))⟩

end Go.Proofs.YtcbgkjmcdjpgcaaGreatDoor

/- How the arguments of the laws read: a record; no condition. -/
namespace Go.Proofs.YtcbgkjmcdjpgcaaGreatDoor
open Go.ChangeShapes Go.WideShapes Go.ChangeAt Go.RowKit Go.Joins Go.ChangeMaps
set_option linter.unusedVariables false
set_option maxRecDepth 100000
set_option linter.unusedSimpArgs false

set_option maxRecDepth 100000 in
/-- The cells of a command, read. -/
theorem cmd_of {H : Type} {enc : TypeId × Value → H} {W : World} {fuel : Nat} {cs : List Value} {y : DataW H × List MemPlace}
    (h : DataW.trod enc Tryz.prog W 0 (fun _ => true) true fuel 27 cs = some y) : ∃ a n c, ∃ b : PC, cs = [.int .i64 b.k, .int .i64 b.z, .int .i64 b.n, .int .i64 b.at', .slice a n c] ∧ Ints W a n c b.d := by
  obtain ⟨xs, n, _, _, hl, hlen, hfs⟩ := DataW.trod_struct Tryz.underlying27 h
  rw [cellsCmd] at hl
  obtain ⟨v0, v1, v2, v3, v4, rfl⟩ := list5 hl
  obtain ⟨y0, y1, y2, y3, y4, rfl⟩ := list5 hlen
  have g0 := hfs 0 _ rfl
  have g1 := hfs 1 _ rfl
  have g2 := hfs 2 _ rfl
  have g3 := hfs 3 _ rfl
  have g4 := hfs 4 _ rfl
  have c3 : Tryz.prog.cellsOf 3 = 1 := by kernel_rfl
  have c22 : Tryz.prog.cellsOf 25 = 1 := by kernel_rfl
  simp [c3, c22] at g0 g1 g2 g3 g4
  obtain ⟨k, e0, _, _⟩ := DataW.trod_int Tryz.underlying3 g0
  obtain ⟨z, e1, _, _⟩ := DataW.trod_int Tryz.underlying3 g1
  obtain ⟨nn, e2, _, _⟩ := DataW.trod_int Tryz.underlying3 g2
  obtain ⟨t, e3, _, _⟩ := DataW.trod_int Tryz.underlying3 g3
  simp at e0 e1 e2 e3
  subst e0 e1 e2 e3
  obtain ⟨a, n, c, l, rfl, hi⟩ := ints_of g4
  exact ⟨a, n, c, ⟨k, z, nn, t, l⟩, rfl, hi⟩

theorem cellsRec : Tryz.prog.cellsOf 29 = 7 := by kernel_rfl

set_option maxRecDepth 100000 in
/-- The cells of a record, read. -/
theorem rec_of {H : Type} {enc : TypeId × Value → H} {W : World} {fuel : Nat} {cs : List Value} {y : DataW H × List MemPlace}
    (h : DataW.trod enc Tryz.prog W 0 (fun _ => true) true fuel 29 cs = some y) : ∃ x : RV, cs = x.cells ∧ x.ok W := by
  obtain ⟨y0, y1, y2, n, _, hl, h0, h1, h2⟩ := Go.Deep.trod_struct3 Tryz.underlying29 h
  rw [cellsRec] at hl
  match cs, hl with
  | [v0, v1, v2, v3, v4, v5, v6], _ =>
    have k0 : DataW.trod enc Tryz.prog W 0 (fun _ => true) true n 3 [v0] = some y0 := h0
    have k1 : DataW.trod enc Tryz.prog W 0 (fun _ => true) true n 3 [v1] = some y1 := h1
    have k2 : DataW.trod enc Tryz.prog W 0 (fun _ => true) true n 27 [v2, v3, v4, v5, v6] = some y2 := h2
    obtain ⟨q, e0, _, _⟩ := DataW.trod_int Tryz.underlying3 k0
    obtain ⟨s, e1, _, _⟩ := DataW.trod_int Tryz.underlying3 k1
    simp at e0 e1
    subst e0 e1
    obtain ⟨a, n, c, b, e, hi⟩ := cmd_of k2
    exact ⟨⟨⟨q, s, b⟩, a, n, c⟩, by rw [e]; rfl, hi⟩

theorem array7 {α : Type} {cs : Array α} (h : cs.size = 7) : ∃ c0 c1 c2 c3 c4 c5 c6, cs = #[c0, c1, c2, c3, c4, c5, c6] := by
  obtain ⟨l⟩ := cs
  match l, h with
  | [c0, c1, c2, c3, c4, c5, c6], _ => exact ⟨c0, c1, c2, c3, c4, c5, c6, rfl⟩

theorem rec_arg {H : Type} {enc : TypeId × Value → H} {W : World} {base : Nat} {v : Value} {d : DataW H} {p : List MemPlace} (hv : Value.okWide Tryz.prog W .any base 29 v)
    (h : DataW.Trod enc Tryz.prog W 0 (fun _ => true) true 29 v d p) : ∃ x : RV, v = x.v ∧ x.ok W := by
  obtain ⟨cs, rfl, hsz⟩ := okWide_struct Tryz.underlying29 hv
  obtain ⟨v0, v1, v2, v3, v4, v5, v6, rfl⟩ := array7 (hsz.trans cellsRec)
  obtain ⟨fuel, hf⟩ := h
  obtain ⟨x, e, hx⟩ := rec_of (by simpa [Value.cells] using hf)
  simp [RV.cells] at e
  obtain ⟨rfl, rfl, rfl, rfl, rfl, rfl, rfl⟩ := e
  exact ⟨x, rfl, hx⟩

end Go.Proofs.YtcbgkjmcdjpgcaaGreatDoor

/- Disks as plain data: bytes that are safe, bytes that wait, the records that they tell; plain mathematics, no condition. -/
namespace Go.Proofs.YtcbgkjmcdjpgcaaGreatDoor
open Go.RowKit
set_option linter.unusedVariables false
set_option maxRecDepth 100000
set_option linter.unusedSimpArgs false

/-- A disk: what is safe, what waits. -/
structure PK where
  s : List UInt8
  w : List UInt8
def zeroK : PK := ⟨[], []⟩

/-- What stands ahead of the first line feed, and what stands behind it. -/
def cutN : List UInt8 → Option (List UInt8 × List UInt8)
  | [] => none
  | a :: r => if a = 10 then some ([], r) else (cutN r).map fun p => (a :: p.1, p.2)
theorem cutN_word : ∀ (l r : List UInt8), (10 : UInt8) ∉ l → cutN (l ++ 10 :: r) = some (l, r)
  | [], r, _ => by simp [cutN]
  | a :: l, r, h => by
    have h1 : a ≠ 10 := fun e => h (by simp [e])
    have h2 : (10 : UInt8) ∉ l := fun e => h (by simp [e])
    simp [cutN, h1, cutN_word l r h2]
theorem cutN_free : ∀ (l : List UInt8), (10 : UInt8) ∉ l → cutN l = none
  | [], _ => rfl
  | a :: l, h => by
    have h1 : a ≠ 10 := fun e => h (by simp [e])
    have h2 : (10 : UInt8) ∉ l := fun e => h (by simp [e])
    simp [cutN, h1, cutN_free l h2]
theorem cutN_some : ∀ {l a b : List UInt8}, cutN l = some (a, b) → l = a ++ 10 :: b ∧ (10 : UInt8) ∉ a
  | [], a, b, h => by simp [cutN] at h
  | x :: l, a, b, h => by
    by_cases e : x = 10
    · subst e
      simp [cutN] at h
      obtain ⟨rfl, rfl⟩ := h
      exact ⟨rfl, by simp⟩
    · simp only [cutN, if_neg e] at h
      cases hc : cutN l with
      | none => rw [hc] at h; cases h
      | some p =>
        obtain ⟨p1, p2⟩ := p
        rw [hc] at h
        simp at h
        obtain ⟨rfl, rfl⟩ := h
        obtain ⟨h1, h2⟩ := cutN_some hc
        refine ⟨by rw [h1]; rfl, ?_⟩
        intro q
        rcases List.mem_cons.1 q with q | q
        · exact e q.symm
        · exact h2 q

/-- The records of a text, line by line, as far as they are whole and no more than may be; how many bytes these have; what is wrong with the next one. -/
def linesF : Nat → Nat → List UInt8 → List PR × Nat × Int
  | 0, _, _ => ([], 0, 0)
  | f + 1, most, l => if l = [] then ([], 0, 0) else match cutN l with
    | none => ([], 0, 9)
    | some (a, r) => if (parseR a).2 ≠ 0 then ([], 0, (parseR a).2) else match most with
      | 0 => ([], 0, 2)
      | m + 1 => ((parseR a).1 :: (linesF f m r).1, a.length + 1 + (linesF f m r).2.1, (linesF f m r).2.2)
def linesP (most : Nat) (l : List UInt8) : List PR × Nat × Int := linesF l.length most l

theorem linesF_fuel : ∀ (f g most : Nat) (l : List UInt8), l.length ≤ f → l.length ≤ g → linesF f most l = linesF g most l
  | 0, 0, _, _, _, _ => rfl
  | 0, g + 1, most, l, h, _ => by
    obtain rfl : l = [] := List.eq_nil_of_length_eq_zero (by omega)
    simp [linesF]
  | f + 1, 0, most, l, _, h => by
    obtain rfl : l = [] := List.eq_nil_of_length_eq_zero (by omega)
    simp [linesF]
  | f + 1, g + 1, most, l, h1, h2 => by
    by_cases hl : l = []
    · simp [linesF, hl]
    · simp only [linesF, if_neg hl]
      cases hc : cutN l with
      | none => rfl
      | some p =>
        obtain ⟨a, r⟩ := p
        have hlen := congrArg List.length (cutN_some hc).1
        simp only [List.length_append, List.length_cons] at hlen
        cases most with
        | zero => rfl
        | succ m =>
          simp only
          rw [linesF_fuel f g m r (by omega) (by omega)]

theorem linesP_nil (most : Nat) : linesP most [] = ([], 0, 0) := rfl
theorem linesP_torn {l : List UInt8} (h : l ≠ []) (hc : cutN l = none) (most : Nat) : linesP most l = ([], 0, 9) := by
  unfold linesP
  cases l with
  | nil => exact absurd rfl h
  | cons a l => simp [linesF, hc]
theorem linesP_line {l a r : List UInt8} (hc : cutN l = some (a, r)) (most : Nat) : linesP most l = if (parseR a).2 ≠ 0 then ([], 0, (parseR a).2) else match most with
    | 0 => ([], 0, 2)
    | m + 1 => ((parseR a).1 :: (linesP m r).1, a.length + 1 + (linesP m r).2.1, (linesP m r).2.2) := by
  have hlen := congrArg List.length (cutN_some hc).1
  simp only [List.length_append, List.length_cons] at hlen
  unfold linesP
  obtain ⟨f, hf⟩ : ∃ f, l.length = f + 1 := ⟨l.length - 1, by omega⟩
  have hl : l ≠ [] := by rintro rfl; simp at hf
  rw [hf]
  simp only [linesF, if_neg hl, hc]
  cases most with
  | zero => rfl
  | succ m =>
    simp only
    rw [linesF_fuel f r.length m r (by omega) (Nat.le_refl _)]

theorem word_no_lf (k : Nat) : (10 : UInt8) ∉ (word k).data.toList := by
  unfold word
  split <;> decide
theorem itoa_no_lf (v : Int) : (10 : UInt8) ∉ Lib.itoa v := by
  unfold Lib.itoa
  intro h
  split at h
  · simp at h
    have := digits_range _ _ h
    simp at this
  · have := digits_range _ _ h
    simp at this
theorem textC_no_lf (b : PC) : (10 : UInt8) ∉ textC b := by
  unfold textC
  intro h
  rcases List.mem_append.1 h with h | h
  · exact word_no_lf _ h
  · obtain ⟨v, _, hv⟩ := List.mem_flatMap.1 h
    rcases List.mem_cons.1 hv with q | q
    · cases q
    · exact itoa_no_lf _ q
theorem textR_no_lf (r : PR) : (10 : UInt8) ∉ textR r := by
  unfold textR
  intro h
  rcases List.mem_append.1 h with h | h
  · exact itoa_no_lf _ h
  rcases List.mem_cons.1 h with h | h
  · cases h
  rcases List.mem_append.1 h with h | h
  · exact itoa_no_lf _ h
  rcases List.mem_cons.1 h with h | h
  · cases h
  rcases List.mem_cons.1 h with h | h
  · cases h
  exact textC_no_lf _ h

/-- The text of records, a line each. -/
def textL (rs : List PR) : List UInt8 := rs.flatMap fun r => textR r ++ [10]
theorem textL_nil : textL [] = [] := rfl
theorem textL_cons (r : PR) (rs : List PR) : textL (r :: rs) = textR r ++ 10 :: textL rs := by simp [textL]
theorem textL_append (a b : List PR) : textL (a ++ b) = textL a ++ textL b := by simp [textL]

/-- Right records ahead of a text. -/
theorem lines_ahead : ∀ (rs : List PR) (most : Nat) (l : List UInt8), (∀ r ∈ rs, checkR r = 0) → rs.length ≤ most →
    linesP most (textL rs ++ l) = (rs ++ (linesP (most - rs.length) l).1, (textL rs).length + (linesP (most - rs.length) l).2.1, (linesP (most - rs.length) l).2.2)
  | [], most, l, _, _ => by simp [textL_nil]
  | r :: rs, most, l, h, hm => by
    obtain ⟨m, rfl⟩ : ∃ m, most = m + 1 := ⟨most - 1, by simp at hm; omega⟩
    have hr := h r (by simp)
    have hc : cutN (textL (r :: rs) ++ l) = some (textR r, textL rs ++ l) := by
      rw [textL_cons, List.append_assoc, List.cons_append]
      exact cutN_word _ _ (textR_no_lf r)
    rw [linesP_line hc, parse_textR hr, if_neg (by simp)]
    simp only
    rw [lines_ahead rs m l (fun x hx => h x (by simp [hx])) (by simpa using hm)]
    simp only [List.length_cons, Nat.add_sub_add_right, textL_cons, List.cons_append, List.length_append, Prod.mk.injEq, and_true, true_and]
    omega
theorem lines_text (rs : List PR) (most : Nat) (h : ∀ r ∈ rs, checkR r = 0) (hm : rs.length ≤ most) : linesP most (textL rs) = (rs, (textL rs).length, 0) := by
  have := lines_ahead rs most [] h hm
  simpa [linesP_nil] using this

/-- What the records of a text are. -/
theorem lines_facts : ∀ (n most : Nat) (l : List UInt8), l.length ≤ n → (linesP most l).1.length ≤ most ∧ (∀ r ∈ (linesP most l).1, checkR r = 0) ∧ l = textL (linesP most l).1 ++ l.drop (linesP most l).2.1 ∧ (linesP most l).2.1 = (textL (linesP most l).1).length ∧ ((linesP most l).2.2 = 0 → (linesP most l).2.1 = l.length)
  | n, most, [], _ => by simp [linesP_nil, textL_nil]
  | 0, most, a :: l, h => by simp at h
  | n + 1, most, b :: l, h => by
    cases hc : cutN (b :: l) with
    | none => simp [linesP_torn (by simp) hc, textL_nil]
    | some p =>
      obtain ⟨a, r⟩ := p
      obtain ⟨hl, _⟩ := cutN_some hc
      have hlen := congrArg List.length hl
      simp only [List.length_append, List.length_cons] at hlen h
      rw [linesP_line hc]
      by_cases hp : (parseR a).2 = 0
      · rw [if_neg (by simp [hp])]
        cases most with
        | zero => simp [textL_nil]
        | succ m =>
          obtain ⟨f1, f2, f3, f4, f5⟩ := lines_facts n m r (by omega)
          obtain ⟨g1, g2⟩ := text_parseR hp
          simp only
          refine ⟨by simpa using f1, ?_, ?_, ?_, ?_⟩
          · intro x hx
            rcases List.mem_cons.1 hx with rfl | hx
            · exact g1
            · exact f2 x hx
          · rw [textL_cons, g2]
            conv => lhs; rw [hl, f3]
            rw [hl]
            simp [List.drop_append, Nat.add_assoc, Nat.add_sub_cancel_left, Nat.add_comm 1]
          · rw [textL_cons, g2, f4]
            simp
            omega
          · intro he
            have := f5 he
            simp
            omega
      · rw [if_pos hp]
        simp [textL_nil, hp]

end Go.Proofs.YtcbgkjmcdjpgcaaGreatDoor

/- What is done to disks, plain, and what a crash leaves; plain mathematics, no condition. -/
namespace Go.Proofs.YtcbgkjmcdjpgcaaGreatDoor
open Go.RowKit
set_option linter.unusedVariables false
set_option maxRecDepth 100000
set_option linter.unusedSimpArgs false

/-- Of a beginning of right records' lines a beginning of the records is read. -/
theorem lines_take : ∀ (rs : List PR) (most n : Nat), (∀ r ∈ rs, checkR r = 0) → rs.length ≤ most →
    ∃ j, j ≤ rs.length ∧ (linesP most ((textL rs).take n)).1 = rs.take j ∧ (linesP most ((textL rs).take n)).2.1 = (textL (rs.take j)).length
  | [], most, n, _, _ => ⟨0, Nat.le_refl _, by simp [textL_nil, linesP_nil], by simp [textL_nil, linesP_nil]⟩
  | r :: rs, most, n, h, hm => by
    by_cases hn : n ≤ (textR r).length
    · have ht : (textL (r :: rs)).take n = (textR r).take n := by
        rw [textL_cons, List.take_append_of_le_length hn]
      refine ⟨0, Nat.zero_le _, ?_⟩
      rw [ht]
      by_cases he : (textR r).take n = []
      · rw [he]
        simp [linesP_nil, textL_nil]
      · rw [linesP_torn he (cutN_free _ (fun q => textR_no_lf r (List.mem_of_mem_take q)))]
        simp [textL_nil]
    · obtain ⟨m, rfl⟩ : ∃ m, n = (textR r).length + 1 + m := ⟨n - (textR r).length - 1, by omega⟩
      have ht : (textL (r :: rs)).take ((textR r).length + 1 + m) = textL [r] ++ (textL rs).take m := by
        rw [textL_cons, textL_cons, textL_nil, Nat.add_assoc, List.take_length_add_append, Nat.add_comm 1 m, List.take_succ_cons, List.append_assoc]
        rfl
      obtain ⟨j, hj, h1, h2⟩ := lines_take rs (most - 1) m (fun x hx => h x (by simp [hx])) (by simp at hm; omega)
      refine ⟨j + 1, by simpa using hj, ?_⟩
      rw [ht, lines_ahead [r] most _ (fun x hx => h x (by simp at hx; simp [hx])) (by simp at hm ⊢; omega)]
      simp only [List.length_singleton, h1, h2, List.take_succ_cons]
      refine ⟨rfl, ?_⟩
      simp [textL_cons, textL_nil]
      omega
/-- More bytes than all: all of them. -/
theorem textL_len : ∀ (rs : List PR), (∀ r ∈ rs, checkR r = 0) → (textL rs).length ≤ 101 * rs.length
  | [], _ => by simp [textL_nil]
  | r :: rs, h => by
    have h1 := textR_len (h r (by simp))
    have h2 := textL_len rs (fun x hx => h x (by simp [hx]))
    simp [textL_cons]
    omega

def checkK (d : PK) : Int := if 60000 < d.s.length + d.w.length then 2 else (linesP 80 d.s).2.2
def sameK (a b : PK) : Bool := decide (a.s = b.s) && decide (a.w = b.w)
def putK (d : PK) (r : PR) : PK × Int := if checkK d ≠ 0 then (zeroK, checkK d) else if checkR r ≠ 0 then (zeroK, checkR r)
  else if 60000 < d.s.length + d.w.length + (textR r).length + 1 then (zeroK, 2) else (⟨d.s, d.w ++ (textR r ++ [10])⟩, 0)
def syncK (d : PK) : PK × Int := if checkK d ≠ 0 then (zeroK, checkK d) else if checkK ⟨d.s ++ d.w, []⟩ ≠ 0 then (zeroK, checkK ⟨d.s ++ d.w, []⟩) else (⟨d.s ++ d.w, []⟩, 0)
def crashK (d : PK) (n : Int) : PK × Int := if checkK d ≠ 0 then (zeroK, checkK d) else if n < 0 ∨ (d.w.length : Int) < n then (zeroK, 3) else (⟨d.s, d.w.take n.toNat⟩, 0)
def recK (d : PK) : PK × List PR × Int := if checkK d ≠ 0 then (zeroK, [], checkK d)
  else (⟨d.s ++ d.w.take (linesP (80 - (linesP 80 d.s).1.length) d.w).2.1, []⟩, (linesP 80 d.s).1 ++ (linesP (80 - (linesP 80 d.s).1.length) d.w).1, 0)

theorem sameK_iff (a b : PK) : sameK a b = true ↔ a = b := by
  obtain ⟨s, w⟩ := a
  obtain ⟨s', w'⟩ := b
  simp [sameK]

/-- A disk on which right records are safe. -/
theorem checkK_text {a : List PR} {w : List UInt8} (h : ∀ r ∈ a, checkR r = 0) (ha : a.length ≤ 80) (hl : (textL a).length + w.length ≤ 60000) : checkK ⟨textL a, w⟩ = 0 := by
  unfold checkK
  rw [if_neg (by simp only; omega)]
  simp only
  rw [lines_text a 80 h ha]
/-- A right record is put. -/
theorem putK_text {a b : List PR} {r : PR} (h : ∀ r ∈ a, checkR r = 0) (hb : ∀ r ∈ b, checkR r = 0) (ha : a.length + b.length < 80) (hr : checkR r = 0) : putK ⟨textL a, textL b⟩ r = (⟨textL a, textL (b ++ [r])⟩, 0) := by
  have l1 := textL_len a h
  have l2 := textL_len b hb
  have l3 := textR_len hr
  unfold putK
  rw [checkK_text h (by omega) (by omega), if_neg (by simp), hr, if_neg (by simp)]
  simp only
  rw [if_neg (by omega), textL_append]
  simp [textL]
theorem putK_bad {a b : List PR} {r : PR} (h : ∀ r ∈ a, checkR r = 0) (hb : ∀ r ∈ b, checkR r = 0) (ha : a.length + b.length ≤ 80) (hr : checkR r ≠ 0) : (putK ⟨textL a, textL b⟩ r).2 ≠ 0 := by
  have l1 := textL_len a h
  have l2 := textL_len b hb
  unfold putK
  rw [checkK_text h (by omega) (by omega), if_neg (by simp), if_pos hr]
  exact hr
/-- What waits is synced. -/
theorem syncK_text {a b : List PR} (h : ∀ r ∈ a, checkR r = 0) (hb : ∀ r ∈ b, checkR r = 0) (ha : a.length + b.length ≤ 80) : syncK ⟨textL a, textL b⟩ = (⟨textL (a ++ b), []⟩, 0) := by
  have l1 := textL_len a h
  have l2 := textL_len b hb
  have hab : ∀ r ∈ a ++ b, checkR r = 0 := fun r hr => (List.mem_append.1 hr).elim (h r) (hb r)
  have l3 := textL_len (a ++ b) hab
  rw [List.length_append] at l3
  unfold syncK
  rw [checkK_text h (by omega) (by omega), if_neg (by simp)]
  simp only
  rw [← textL_append, checkK_text hab (by rw [List.length_append]; omega) (by simp; omega), if_neg (by simp)]
/-- What is recovered: what was safe, and a beginning of what waited. -/
theorem recK_text {a b : List PR} (n : Nat) (h : ∀ r ∈ a, checkR r = 0) (hb : ∀ r ∈ b, checkR r = 0) (ha : a.length + b.length ≤ 80) :
    ∃ j, j ≤ b.length ∧ recK ⟨textL a, (textL b).take n⟩ = (⟨textL (a ++ b.take j), []⟩, a ++ b.take j, 0) := by
  have l1 := textL_len a h
  have l2 := textL_len b hb
  obtain ⟨j, hj, h1, h2⟩ := lines_take b (80 - a.length) n hb (by omega)
  obtain ⟨_, _, h3, h4, _⟩ := lines_facts _ (80 - a.length) ((textL b).take n) (Nat.le_refl _)
  refine ⟨j, hj, ?_⟩
  unfold recK
  rw [checkK_text h (by omega) (by rw [List.length_take]; omega), if_neg (by simp)]
  simp only
  rw [lines_text a 80 h (by omega)]
  simp only
  rw [h1]
  have ht : ((textL b).take n).take (linesP (80 - a.length) ((textL b).take n)).2.1 = textL (b.take j) := by
    rw [h2]
    rw [h1, h2] at h3
    generalize (textL b).take n = x at *
    generalize x.drop (textL (b.take j)).length = y at *
    rw [h3, List.take_left' rfl]
  rw [ht, textL_append]
/-- Recovered again it is the same. -/
theorem recK_again {a : List PR} (h : ∀ r ∈ a, checkR r = 0) (ha : a.length ≤ 80) : recK ⟨textL a, []⟩ = (⟨textL a, []⟩, a, 0) := by
  obtain ⟨j, hj, e⟩ := recK_text (b := []) 0 h (by simp) (by simpa using ha)
  simp [textL_nil] at e
  exact e

end Go.Proofs.YtcbgkjmcdjpgcaaGreatDoor

/- Lists of one-cell values in memory, bytes among them; plain mathematics, no condition. -/
namespace Go.Proofs.YtcbgkjmcdjpgcaaGreatDoor
open Go.RowKit
set_option linter.unusedVariables false
set_option maxRecDepth 100000
set_option linter.unusedSimpArgs false

/-- A slice value's first n cells read as vs. -/
structure Cel (w : World) (a : Option Addr) (n c : Nat) (vs : List Value) : Prop where
  len : vs.length = n
  le : n ≤ c
  max : c ≤ 9223372036854775807
  nil : a = none → c = 0
  row : n = 0 ∨ ∃ b off, a = some ⟨b, off, none⟩ ∧ b < w.heap.size ∧ ∀ i v, vs[i]? = some v → w.cell? ⟨b, off + i, none⟩ = some v
theorem Cel.below {w w' : World} {a : Option Addr} {n c : Nat} {vs : List Value} (h : Cel w a n c vs) {B : Nat} (hb : Below B w w') (hB : w.heap.size ≤ B) : Cel w' a n c vs := by
  refine ⟨h.len, h.le, h.max, h.nil, ?_⟩
  rcases h.row with h0 | ⟨b, off, ha, hlt, hc⟩
  · exact .inl h0
  · refine .inr ⟨b, off, ha, Nat.lt_of_lt_of_le hlt hb.size, fun i v hv => ?_⟩
    rw [hb.cell (p := ⟨b, off + i, none⟩) (Nat.lt_of_lt_of_le hlt hB)]
    exact hc i v hv
theorem Cel.drewN {w : World} {a : Option Addr} {n c : Nat} {vs : List Value} (h : Cel w a n c vs) (k : Nat) : Cel (w.drewN k) a n c vs := ⟨h.len, h.le, h.max, h.nil, h.row⟩
theorem Cel.nilSlice (w : World) : Cel w none 0 0 [] := ⟨rfl, Nat.le_refl _, by omega, fun _ => rfl, .inl rfl⟩
theorem Cel.but {w w' : World} {g : Nat} {a : Option Addr} {n c : Nat} {vs : List Value} (h : Cel w a n c vs) (hb : But g w w') (hne : n = 0 ∨ ∀ x, a = some x → x.block ≠ g) : Cel w' a n c vs := by
  refine ⟨h.len, h.le, h.max, h.nil, ?_⟩
  rcases hne with h0 | hne
  · exact .inl h0
  · rcases h.row with h0 | ⟨b, off, ha, hlt, hc⟩
    · exact .inl h0
    · refine .inr ⟨b, off, ha, Nat.lt_of_lt_of_le hlt hb.size, fun i v hv => ?_⟩
      rw [hb.cell ⟨b, off + i, none⟩ hlt (by have := hne _ ha; exact this)]
      exact hc i v hv
theorem Cel.offs {w : World} {a : Option Addr} {n c : Nat} {vs : List Value} (h : Cel w a n c vs) {R : Nat} (hR : w.heap.size ≤ R) : n = 0 ∨ ∀ x, a = some x → x.block ≠ R := by
  rcases h.row with h0 | ⟨b, off, ha, hlt, hc⟩
  · exact .inl h0
  · right
    intro x hx
    rw [ha] at hx
    cases hx
    exact Nat.ne_of_lt (Nat.lt_of_lt_of_le hlt hR)
theorem Cel.src {w : World} {a : Option Addr} {n c : Nat} {vs : List Value} (h : Cel w a n c vs) (hp : 0 < n) : ∃ ad, a = some ad ∧ ∀ j v, vs[j]? = some v → w.cell? (ad.add j) = some v := by
  rcases h.row with h0 | ⟨b, off, ha, hlt, hc⟩
  · omega
  · exact ⟨_, ha, fun j v hv => by rw [addr_add]; exact hc j v hv⟩
theorem Cel.nils {w : World} {a : Option Addr} {n c : Nat} {vs : List Value} (h : Cel w a n c vs) (e : a = none) : n = 0 ∧ c = 0 := by
  have h1 := h.nil e
  have h2 := h.le
  omega
/-- A row of new memory. -/
theorem Cel.of_row {w : World} {g : Nat} {vs : List Value} {t : TypeId} {fr : Nat × Nat} (hg : w.heap[g]? = some (.cells vs.toArray t fr)) (hmax : vs.length ≤ 9223372036854775807) {n : Nat} (hn : vs.length = n) : Cel w (some ⟨g, 0, none⟩) n n vs := by
  subst hn
  refine ⟨rfl, Nat.le_refl _, hmax, fun h => (by cases h), .inr ⟨g, 0, rfl, (Array.getElem?_eq_some_iff.1 hg).1, fun i v hv => ?_⟩⟩
  rw [cell_of_row w g _ _ t fr hg, Nat.zero_add]
  simpa using hv
/-- The first k of them. -/
theorem Cel.take {w : World} {a : Option Addr} {n c : Nat} {vs : List Value} (h : Cel w a n c vs) {k : Nat} (hk : k ≤ n) : Cel w a k c (vs.take k) := by
  refine ⟨by rw [List.length_take, h.len]; omega, Nat.le_trans hk h.le, h.max, h.nil, ?_⟩
  rcases h.row with h0 | ⟨b, off, ha, hlt, hc⟩
  · exact .inl (by omega)
  · exact .inr ⟨b, off, ha, hlt, fun i v hv => hc i v (by
      have hi := (List.getElem?_eq_some_iff.1 hv).1
      rw [List.length_take] at hi
      rwa [List.getElem?_take_of_lt (by omega)] at hv)⟩

/-- The cells of bytes. -/
def bytC (l : List UInt8) : List Value := l.map fun b => Value.int .u8 (b.toNat : Int)
theorem bytC_len (l : List UInt8) : (bytC l).length = l.length := by simp [bytC]
theorem bytC_app (l k : List UInt8) : bytC l ++ bytC k = bytC (l ++ k) := by simp [bytC]
theorem bytC_take (l : List UInt8) (k : Nat) : (bytC l).take k = bytC (l.take k) := by simp [bytC]
theorem bytC_one (l : List UInt8) : ∀ v ∈ bytC l, v.oneCell' = true := by
  intro v hv
  simp only [bytC, List.mem_map] at hv
  obtain ⟨x, _, rfl⟩ := hv
  rfl
theorem bytC_get (l : List UInt8) (i : Nat) (hi : i < l.length) : (bytC l)[i]? = some (.int .u8 ((l.getD i 0).toNat : Int)) := by
  simp [bytC, List.getD, hi]
/-- A slice of bytes. -/
def Byts (w : World) (a : Option Addr) (n c : Nat) (l : List UInt8) : Prop := Cel w a n c (bytC l)
theorem Byts.below {w w' : World} {a : Option Addr} {n c : Nat} {l : List UInt8} (h : Byts w a n c l) {B : Nat} (hb : Below B w w') (hB : w.heap.size ≤ B) : Byts w' a n c l := Cel.below h hb hB
theorem Byts.but {w w' : World} {g : Nat} {a : Option Addr} {n c : Nat} {l : List UInt8} (h : Byts w a n c l) (hb : But g w w') (hne : n = 0 ∨ ∀ x, a = some x → x.block ≠ g) : Byts w' a n c l := Cel.but h hb hne
theorem Byts.offs {w : World} {a : Option Addr} {n c : Nat} {l : List UInt8} (h : Byts w a n c l) {R : Nat} (hR : w.heap.size ≤ R) : n = 0 ∨ ∀ x, a = some x → x.block ≠ R := Cel.offs h hR
theorem Byts.nilSlice (w : World) : Byts w none 0 0 [] := Cel.nilSlice w
theorem Byts.len {w : World} {a : Option Addr} {n c : Nat} {l : List UInt8} (h : Byts w a n c l) : l.length = n := by rw [← bytC_len]; exact Cel.len h
theorem Byts.take {w : World} {a : Option Addr} {n c : Nat} {l : List UInt8} (h : Byts w a n c l) {k : Nat} (hk : k ≤ n) : Byts w a k c (l.take k) := by
  unfold Byts
  rw [← bytC_take]
  exact Cel.take h hk

end Go.Proofs.YtcbgkjmcdjpgcaaGreatDoor
