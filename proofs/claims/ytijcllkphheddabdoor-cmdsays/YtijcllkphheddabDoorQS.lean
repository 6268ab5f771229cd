/- The law's closed fact on commands as texts holds, wherever the package-level variables are as their texts lay them. -/
import Derived.Test.YtijcllkphheddabDoorQP
namespace Go.Proofs.YtijcllkphheddabDoor
open Go.RowKit
set_option linter.unusedVariables false
set_option linter.unusedSimpArgs false

theorem parseC_r : parseC ⟨#[114, 101, 97, 100, 32, 49, 32, 50, 32, 51]⟩ = (⟨7, 1, 3, 2, []⟩, 0) := by
  have h := parse_text (b := ⟨7, 1, 3, 2, []⟩) (by decide)
  rw [show textC ⟨7, 1, 3, 2, []⟩ = [114, 101, 97, 100, 32, 49, 32, 50, 32, 51] by decide +kernel] at h
  exact h
theorem parseC_a : parseC ⟨#[97, 112, 112, 101, 110, 100, 32, 49]⟩ = (zeroC, 1) := by
  have hp := pieces_toks ⟨#[97, 112, 112, 101, 110, 100, 32, 49]⟩
  rw [show toks (⟨#[97, 112, 112, 101, 110, 100, 32, 49]⟩ : ByteArray).data.toList = [[97, 112, 112, 101, 110, 100], [49]] by decide +kernel] at hp
  unfold parseC
  rw [if_neg (by decide)]
  cases hq : pieces ⟨#[97, 112, 112, 101, 110, 100, 32, 49]⟩ with
  | nil => rfl
  | cons t ts =>
    rw [hq] at hp
    simp only [List.map_cons, List.cons.injEq] at hp
    have e1 : t = word 5 := bytes_eq hp.1
    subst e1
    simp only [readC]
    rw [hp.2, kindOfS_word 5 (by omega) (by omega), show nums [[49]] = some [1] by decide +kernel]
    rfl

set_option maxRecDepth 100000 in
set_option maxHeartbeats 2000000 in
theorem spoken_c (w : World) (hE : Env w) : Calls Tryd.prog 8 #[] w fun e w' => e = .returned (.bool true) ∧ Below w.heap.size w w' := by
  have hP1 := fun a m c w' hE h => Print_c a m c ⟨6, 1, 0, 2, [3, 4]⟩ w' hE h
  have hP2 := fun a m c w' hE h => Print_c a m c ⟨12, 0, 0, 0, []⟩ w' hE h
  have hR1 := fun w' hE => Parse_c ⟨#[114, 101, 97, 100, 32, 49, 32, 50, 32, 51]⟩ w' hE (by decide)
  have hR2 := fun w' hE => Parse_c ⟨#[97, 112, 112, 101, 110, 100, 32, 49]⟩ w' hE (by decide)
  have hS := fun a1 a2 n1 n2 c1 c2 w' h1 h2 => cmdSame_c a1 a2 n1 n2 c1 c2 ⟨7, 1, 3, 2, []⟩ ⟨7, 1, 3, 2, []⟩ w' h1 h2
  rw [show sameC ⟨7, 1, 3, 2, []⟩ ⟨7, 1, 3, 2, []⟩ = true by decide] at hS
  rw [printC_w] at hP1
  rw [printC_c] at hP2
  rw [parseC_r] at hR1
  rw [parseC_a] at hR2
  unfold cmdV textV at *
  dsimp only at *
  have HP1 := hide hP1
  have HP2 := hide hP2
  have HR1 := hide hR1
  have HR2 := hide hR2
  have HS := hide hS
  clear hP1 hP2 hR1 hR2 hS
  go_enter Tryd.func8, Tryd.ntmps8
  go_wp2_with fail
  refine (HP1.out _ _ _ _ (hE.below (by (repeat (first | exact Below.refl _ _ | assumption | refine Below.drew ?_ | refine below_drewN ?_ _ | refine belowA ?_ _ | refine belowT ?_ (by assumption) | refine Below.setCell ?_ (by first | (simp; done) | (simp; omega)) _)))) (Ints.of_row (l := [3, 4]) (heap_new w _) (by decide) (by decide) rfl)).mono ?_
  rintro e w1 ⟨rfl, hb1⟩
  have bw1 : Below w.heap.size w w1 := by (repeat (first | exact Below.refl _ _ | assumption | refine Below.drew ?_ | refine below_drewN ?_ _ | refine belowA ?_ _ | refine belowT ?_ (by assumption) | refine Below.setCell ?_ (by first | (simp; done) | (simp; omega)) _))
  clear hb1
  go_wp2_with fail
  refine (HP2.out _ _ _ _ (hE.below bw1) (Ints.nilSlice _)).mono ?_
  rintro e w2 ⟨rfl, hb2⟩
  have bw2 : Below w.heap.size w w2 := by (repeat (first | exact Below.refl _ _ | assumption | refine Below.drew ?_ | refine below_drewN ?_ _ | refine belowA ?_ _ | refine belowT ?_ (by assumption) | refine Below.setCell ?_ (by first | (simp; done) | (simp; omega)) _))
  clear hb2 bw1
  go_wp2_with fail
  refine (HR1.out _ (hE.below bw2)).mono ?_
  rintro e w3 ⟨⟨a3, n3, rfl, i3, x3⟩, hb3⟩
  have bw3 : Below w.heap.size w w3 := by (repeat (first | exact Below.refl _ _ | assumption | refine Below.drew ?_ | refine below_drewN ?_ _ | refine belowA ?_ _ | refine belowT ?_ (by assumption) | refine Below.setCell ?_ (by first | (simp; done) | (simp; omega)) _))
  clear hb3 bw2
  unfold cmdV
  dsimp only at i3 ⊢
  go_upto_region 4 with fail
  have d3 : ∀ i, (w3.alloc (.cells #[.int .i64 7, .int .i64 1, .int .i64 3, .int .i64 2, .slice a3 n3 n3] 24)).cell? ⟨w3.heap.size, i, none⟩ = _ := fun i => cell_of_row _ _ _ _ _ _ (heap_new w3 _)
  have bw4 : Below w.heap.size w (w3.alloc (.cells #[.int .i64 7, .int .i64 1, .int .i64 3, .int .i64 2, .slice a3 n3 n3] 24)) := by (repeat (first | exact Below.refl _ _ | assumption | refine Below.drew ?_ | refine below_drewN ?_ _ | refine belowA ?_ _ | refine belowT ?_ (by assumption) | refine Below.setCell ?_ (by first | (simp; done) | (simp; omega)) _))
  have i4 : Ints (w3.alloc (.cells #[.int .i64 7, .int .i64 1, .int .i64 3, .int .i64 2, .slice a3 n3 n3] 24)) a3 n3 n3 [] := i3.below (B := w3.heap.size) (by (repeat (first | exact Below.refl _ _ | assumption | refine Below.drew ?_ | refine below_drewN ?_ _ | refine belowA ?_ _ | refine belowT ?_ (by assumption) | refine Below.setCell ?_ (by first | (simp; done) | (simp; omega)) _))) (Nat.le_refl _)
  have hlt : w3.heap.size < (w3.alloc (.cells #[.int .i64 7, .int .i64 1, .int .i64 3, .int .i64 2, .slice a3 n3 n3] 24)).heap.size := by simp
  generalize w3.alloc (.cells #[.int .i64 7, .int .i64 1, .int .i64 3, .int .i64 2, .slice a3 n3 n3] 24) = w4 at *
  go_wp2_with fail
  refine (HR2.out _ (hE.below bw4)).mono ?_
  rintro e w5 ⟨⟨a5, n5, rfl, i5, x5⟩, hb5⟩
  have d5 : ∀ i, w5.cell? ⟨w3.heap.size, i, none⟩ = _ := fun i => (hb5.cell (p := ⟨w3.heap.size, i, none⟩) hlt).trans (d3 i)
  have bw5 : Below w.heap.size w w5 := by (repeat (first | exact Below.refl _ _ | assumption | refine Below.drew ?_ | refine below_drewN ?_ _ | refine belowA ?_ _ | refine belowT ?_ (by assumption) | refine Below.setCell ?_ (by first | (simp; done) | (simp; omega)) _))
  have i6 := i4.below hb5 (Nat.le_refl _)
  have hlt5 := Nat.lt_of_lt_of_le hlt hb5.size
  clear hb5 bw4 d3 i4 i3 bw3
  unfold cmdV zeroC
  dsimp only
  go_upto_region 5 with fail
  have d6 : ∀ i, (w5.alloc (.cells #[.int .i64 0, .int .i64 0, .int .i64 0, .int .i64 0, .slice a5 n5 n5] 24)).cell? ⟨w3.heap.size, i, none⟩ = _ := fun i => (World.cell?_alloc_lt w5 _ ⟨w3.heap.size, i, none⟩ hlt5).trans (d5 i)
  have bw6 : Below w.heap.size w (w5.alloc (.cells #[.int .i64 0, .int .i64 0, .int .i64 0, .int .i64 0, .slice a5 n5 n5] 24)) := by (repeat (first | exact Below.refl _ _ | assumption | refine Below.drew ?_ | refine below_drewN ?_ _ | refine belowA ?_ _ | refine belowT ?_ (by assumption) | refine Below.setCell ?_ (by first | (simp; done) | (simp; omega)) _))
  have i7 : Ints (w5.alloc (.cells #[.int .i64 0, .int .i64 0, .int .i64 0, .int .i64 0, .slice a5 n5 n5] 24)) a3 n3 n3 [] := i6.below (B := w5.heap.size) (by (repeat (first | exact Below.refl _ _ | assumption | refine Below.drew ?_ | refine below_drewN ?_ _ | refine belowA ?_ _ | refine belowT ?_ (by assumption) | refine Below.setCell ?_ (by first | (simp; done) | (simp; omega)) _))) (Nat.le_refl _)
  generalize w5.alloc (.cells #[.int .i64 0, .int .i64 0, .int .i64 0, .int .i64 0, .slice a5 n5 n5] 24) = w6 at *
  clear d5 i6 bw5
  have q1 : ((⟨#[119, 114, 105, 116, 101, 32, 49, 32, 50, 32, 51, 32, 52]⟩ : ByteArray) == ⟨#[119, 114, 105, 116, 101, 32, 49, 32, 50, 32, 51, 32, 52]⟩) = true := beq_t rfl
  have q2 : ((⟨#[99, 108, 101, 97, 114]⟩ : ByteArray) == ⟨#[99, 108, 101, 97, 114]⟩) = true := beq_t rfl
  go_wp2_with fail
  refine (HS.out _ _ _ _ _ _ _ i7 (Ints.nilSlice _)).mono ?_
  rintro e w7 ⟨rfl, hb7⟩
  go_wp2
  go_ret
  exact ⟨rfl, by (repeat (first | exact Below.refl _ _ | assumption | refine Below.drew ?_ | refine below_drewN ?_ _ | refine belowA ?_ _ | refine belowT ?_ (by assumption) | refine Below.setCell ?_ (by first | (simp; done) | (simp; omega)) _))⟩

end Go.Proofs.YtijcllkphheddabDoor
