/- BookHolds answers true for every book and numbers, and leaves all that was there as it was; no condition. -/
import Derived.Test.YtogpbihmofbfjaaKHoldsB
import Derived.Test.YtogpbihmofbfjaaKHoldsC
import Derived.Test.YtogpbihmofbfjaaKHoldsD
import Derived.Test.YtogpbihmofbfjaaKHoldsE
namespace Go.Proofs.Ytogpbihmofbfjaa
open Go.RowKit
set_option linter.unusedVariables false
set_option maxRecDepth 100000
set_option linter.unusedSimpArgs false

theorem BookHolds_c (a : Option Addr) (n c : Nat) (b : PB) (xw xn xk : Int) (w : World) (h : Ints w a n c b.k)
    (h1 : -9223372036854775808 ≤ xw ∧ xw ≤ 9223372036854775807) (h2 : -9223372036854775808 ≤ xk ∧ xk ≤ 9223372036854775807) :
    Calls Try.prog 4 #[bookV a n c b, .int .i64 xw, .int .i64 xn, .int .i64 xk] w fun e w' => e = .returned (.bool true) ∧ Below w.heap.size w w' := by
  rcases (by omega : xk % 5 = 0 ∨ xk % 5 = 1 ∨ xk % 5 = 2 ∨ xk % 5 = 3 ∨ xk % 5 = 4) with e | e | e | e | e
  · exact BookHolds_0 a n c b xw xn xk w h h1 h2 e
  · exact BookHolds_1 a n c b xw xn xk w h h1 h2 e
  · exact BookHolds_2 a n c b xw xn xk w h h1 h2 e
  · exact BookHolds_3 a n c b xw xn xk w h h1 h2 e
  · exact BookHolds_4 a n c b xw xn xk w h h1 h2 e

end Go.Proofs.Ytogpbihmofbfjaa
