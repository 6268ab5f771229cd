/- YardFew answers true for every zones, number, data and kind, and leaves all that was there as it was; no condition. -/
import Derived.Test.YtpahgegojnghfabY2
import Derived.Test.YtpahgegojnghfabD3
import Derived.Test.YtpahgegojnghfabP1
namespace Go.Proofs.Ytpahgegojnghfab
open Go.RowKit
set_option linter.unusedVariables false
set_option linter.unusedSimpArgs false

theorem Equal_true (a1 a2 : Option Addr) (n1 n2 c1 c2 : Nat) (l : List Int) (w : World) (h1 : Ints w a1 n1 c1 l) (h2 : Ints w a2 n2 c2 l) :
    Calls Try.prog 9 #[.slice a1 n1 c1, .slice a2 n2 c2] w fun e w' => e = .returned (.bool true) ∧ ∃ n, w' = w.drewN n := by
  refine (Equal_c a1 a2 n1 n2 c1 c2 l l w h1 h2).mono fun e w' h => ⟨?_, h.2⟩
  rw [h.1]
  exact ret_bool (decide_eq_true rfl)

end Go.Proofs.Ytpahgegojnghfab
