/- YardFew answers true for every zones, number, data and kind, and leaves all that was there as it was; no condition. -/
import Derived.Test.YtaambknbbhjdnaaYFewB
import Derived.Test.YtaambknbbhjdnaaYFewC
namespace Go.Proofs.Ytaambknbbhjdnaa
open Go.RowKit
set_option linter.unusedVariables false
set_option maxRecDepth 100000
set_option linter.unusedSimpArgs false

set_option maxRecDepth 100000 in
set_option maxHeartbeats 16000000 in
theorem YardFew_bad (a : Option Addr) (n c : Nat) (Z : List ZV) (x : Int) (b : Option Addr) (m d : Nat) (k : List Int) (q : Int) (w : World) (h : Zones w a n c Z) (hbad : checkZs (Z.map ZV.p) ≠ 0) :
    Calls Try.prog 4 #[.slice a n c, .int .i64 x, .slice b m d, .int .i64 q] w fun e w' => e = .returned (.bool true) ∧ Below w.heap.size w w' := by
  go_enter Try.func4, Try.ntmps4
  go_wp2_with fail
  refine (crowded_c _).mono ?_
  rintro e w1 ⟨rfl, hb1⟩
  replace h := h.below hb1 (Nat.le_refl _)
  go_wp2_with fail
  refine (YCheck_c a n c Z _ h).mono ?_
  rintro e w2 ⟨rfl, hb2⟩
  generalize checkZs (Z.map ZV.p) = z at *
  have hz : (z != 0) = true := by simpa using hbad
  have bT := belowT hb1 hb2
  clear hb1 hb2 hbad
  go_wp2_with fail
  refine (crowded_c _).mono ?_
  rintro e w3 ⟨rfl, hb3⟩
  go_wp2
  go_ret
  exact ⟨rfl, by (repeat first | exact bel0 | assumption | refine bel1 ?_ | refine bel2 ?_ | refine bel3 ?_ | refine belowT ?_ (by assumption) | refine bel5 ?_ (by simp; try omega))⟩

theorem YardFew_c (a : Option Addr) (n c : Nat) (Z : List ZV) (x : Int) (b : Option Addr) (m d : Nat) (k : List Int) (q : Int) (w : World) (h : Zones w a n c Z) (hd : Ints w b m d k)
    (hx : -9223372036854775808 ≤ x ∧ x ≤ 9223372036854775807) (hy : -9223372036854775808 ≤ q ∧ q ≤ 9223372036854775807) :
    Calls Try.prog 4 #[.slice a n c, .int .i64 x, .slice b m d, .int .i64 q] w fun e w' => e = .returned (.bool true) ∧ Below w.heap.size w w' := by
  by_cases hc : checkZs (Z.map ZV.p) = 0
  · have h0 := Int.emod_nonneg q (show (5 : Int) ≠ 0 by omega)
    have h1 := Int.emod_lt_of_pos q (show (0 : Int) < 5 by omega)
    rcases (by omega : q % 5 = 0 ∨ q % 5 = 1 ∨ q % 5 = 2 ∨ q % 5 = 3 ∨ q % 5 = 4) with e | e | e | e | e
    · exact YardFew_0 a n c Z x b m d k q w h hd hx hy hc e
    · exact YardFew_1 a n c Z x b m d k q w h hd hx hy hc e
    · exact YardFew_2 a n c Z x b m d k q w h hd hx hy hc e
    · exact YardFew_3 a n c Z x b m d k q w h hd hx hy hc e
    · exact YardFew_4 a n c Z x b m d k q w h hd hx hy hc e
  · exact YardFew_bad a n c Z x b m d k q w h hc

end Go.Proofs.Ytaambknbbhjdnaa
