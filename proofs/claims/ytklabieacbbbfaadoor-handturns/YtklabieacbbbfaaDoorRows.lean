/-
  NARROWER THAN 'FOR EVERY INPUT', by the rows' own cells (each row's printed sentence says how): HandSays: laid · HandTurns: laid · HandWaits: laid.
  DERIVED. THE GIVEN ROWS OF THIS SEAT. 3 by the template 'for every input the law returns true; each argument reads behind the call as it read before'; 0 by the template 'total and deterministic' (their statements: YtklabieacbbbfaaDoorTotals.lean).
  GIVEN WITH THE SEED: the statements are not yours to turn. If you find one false, say at which input.
  Laid BY PROGRAM, IN A SANDBOX (cutbox-rows.mjs): the forced cells as the released guide's own fill.sh prints them over the translation 9b0c8e46ed687425… (all of the seat's roots in one cut). By AI agents, Wed Nov 11 2026. No macro, syntax, notation, axiom, sorry.
-/
import Derived.Test.YtklabieacbbbfaaDoorChecked
import GoSem.Claim
import GoSem.ClaimJoined
import GoSem.ClaimMapViews
import Derived.JoinedTies
import Derived.KernelRfl
namespace Go.Proofs.YtklabieacbbbfaaDoor
/- THE CELL 'sum', in the pinned program and in every row, IS THE sha256 OF THE DUMP (.gsa) THAT YtklabieacbbbfaaDoorProg.lean LOADS. Nothing in Lean hashes anything: it is a label: what it is worth is what the hold of that sum in a sandbox is worth. -/
noncomputable def Tryd.pinned : Pinned := { name := "ytklabieacbbbfaadoor", sum := "9b0c8e46ed687425b5bd3a2d431605f4096d76ecf6a273997c5265ca8058dc9c", checked := Tryd.checked }
namespace Rows
def none {H : Type} : Left H := { results := [], args := [] }

/- WHAT THE LISTED PACKAGE-LEVEL VARIABLES READ AS WHEN THE CALL BEGINS. Each datum BY PROGRAM (the guide's laid-datum.mjs) off the statement by which the dump's own 'gosem.cut.vars' lays the variable. In a bare row this is a premise. The card (YtklabieacbbbfaaDoorCards.lean) ties it to the program's text. -/
def laid_quayhand_cmd_shapes {H : Type} : DataW H := .agg [.agg [.lit (.string []), .agg [.lit (.bool false), .lit (.bool false), .lit (.bool false), .lit (.bool false)]], .agg [.lit (.string [111, 112, 101, 110]), .agg [.lit (.bool true), .lit (.bool false), .lit (.bool false), .lit (.bool false)]], .agg [.lit (.string [99, 108, 111, 115, 101]), .agg [.lit (.bool true), .lit (.bool false), .lit (.bool false), .lit (.bool false)]], .agg [.lit (.string [102, 105, 110, 105, 115, 104]), .agg [.lit (.bool true), .lit (.bool false), .lit (.bool false), .lit (.bool false)]], .agg [.lit (.string [114, 101, 115, 101, 116]), .agg [.lit (.bool true), .lit (.bool false), .lit (.bool false), .lit (.bool false)]], .agg [.lit (.string [97, 112, 112, 101, 110, 100]), .agg [.lit (.bool true), .lit (.bool false), .lit (.bool false), .lit (.bool true)]], .agg [.lit (.string [119, 114, 105, 116, 101]), .agg [.lit (.bool true), .lit (.bool true), .lit (.bool false), .lit (.bool true)]], .agg [.lit (.string [114, 101, 97, 100]), .agg [.lit (.bool true), .lit (.bool true), .lit (.bool true), .lit (.bool false)]], .agg [.lit (.string [114, 101, 103, 105, 115, 116, 101, 114]), .agg [.lit (.bool false), .lit (.bool false), .lit (.bool true), .lit (.bool false)]], .agg [.lit (.string [114, 101, 115, 101, 114, 118, 101]), .agg [.lit (.bool false), .lit (.bool false), .lit (.bool true), .lit (.bool false)]], .agg [.lit (.string [114, 101, 108, 101, 97, 115, 101]), .agg [.lit (.bool false), .lit (.bool false), .lit (.bool false), .lit (.bool false)]], .agg [.lit (.string [112, 114, 101, 101, 109, 112, 116]), .agg [.lit (.bool false), .lit (.bool false), .lit (.bool true), .lit (.bool false)]], .agg [.lit (.string [99, 108, 101, 97, 114]), .agg [.lit (.bool false), .lit (.bool false), .lit (.bool false), .lit (.bool false)]]]

/-- 'quayhandlaw.HandSays': WHATEVER THE INPUT: true; the input reads as it did. -/
def handSaysSpec : ChangeSpec := { name := "handSays", fn := fun _ => fun
  | [d1, d2, d3, d4, d5] => { results := [.lit (.bool true)], args := [d1, d2, d3, d4, d5] }
  | _ => none }
def handSaysRow : OpenClaim := { program := "ytklabieacbbbfaadoor", sum := "9b0c8e46ed687425b5bd3a2d431605f4096d76ecf6a273997c5265ca8058dc9c", func := "quayhand/quayhandlaw.HandSays", spec := "handSays", inPlace := ["internal/bytealg.IndexByteString", "internal/bytealg.IndexString"], unfollowed := true, recurses := true, named := ["quayhand/cmd.shapes", "internal/bytealg.MaxLen"], apart := false, laid := [("quayhand/cmd.shapes", laid_quayhand_cmd_shapes)] }
def HandSaysSaid : Prop := handSaysRow.holds Tryd.pinned (OpenSpec.ofChange handSaysSpec)

/-- ITS FALSE NEIGHBOUR: 'it returns false'. Refute it at one input. -/
def handSaysWrong : ChangeSpec := { name := "handSays", fn := fun _ => fun
  | [d1, d2, d3, d4, d5] => { results := [.lit (.bool false)], args := [d1, d2, d3, d4, d5] }
  | _ => none }
def HandSaysWrongFalsely : Prop := handSaysRow.holds Tryd.pinned (OpenSpec.ofChange handSaysWrong)

/-- 'quayhandlaw.HandTurns': WHATEVER THE INPUT: true; the input reads as it did. -/
def handTurnsSpec : ChangeSpec := { name := "handTurns", fn := fun _ => fun
  | [d1, d2, d3] => { results := [.lit (.bool true)], args := [d1, d2, d3] }
  | _ => none }
def handTurnsRow : OpenClaim := { program := "ytklabieacbbbfaadoor", sum := "9b0c8e46ed687425b5bd3a2d431605f4096d76ecf6a273997c5265ca8058dc9c", func := "quayhand/quayhandlaw.HandTurns", spec := "handTurns", unfollowed := true, recurses := true, named := ["quayhand/cmd.shapes"], apart := false, laid := [("quayhand/cmd.shapes", laid_quayhand_cmd_shapes)] }
def HandTurnsSaid : Prop := handTurnsRow.holds Tryd.pinned (OpenSpec.ofChange handTurnsSpec)

/-- ITS FALSE NEIGHBOUR: 'it returns false'. Refute it at one input. -/
def handTurnsWrong : ChangeSpec := { name := "handTurns", fn := fun _ => fun
  | [d1, d2, d3] => { results := [.lit (.bool false)], args := [d1, d2, d3] }
  | _ => none }
def HandTurnsWrongFalsely : Prop := handTurnsRow.holds Tryd.pinned (OpenSpec.ofChange handTurnsWrong)

/-- 'quayhandlaw.HandWaits': WHATEVER THE INPUT: true; the input reads as it did. -/
def handWaitsSpec : ChangeSpec := { name := "handWaits", fn := fun _ => fun
  | [d1, d2, d3] => { results := [.lit (.bool true)], args := [d1, d2, d3] }
  | _ => none }
def handWaitsRow : OpenClaim := { program := "ytklabieacbbbfaadoor", sum := "9b0c8e46ed687425b5bd3a2d431605f4096d76ecf6a273997c5265ca8058dc9c", func := "quayhand/quayhandlaw.HandWaits", spec := "handWaits", unfollowed := true, recurses := true, named := ["quayhand/cmd.shapes"], apart := false, laid := [("quayhand/cmd.shapes", laid_quayhand_cmd_shapes)] }
def HandWaitsSaid : Prop := handWaitsRow.holds Tryd.pinned (OpenSpec.ofChange handWaitsSpec)

/-- ITS FALSE NEIGHBOUR: 'it returns false'. Refute it at one input. -/
def handWaitsWrong : ChangeSpec := { name := "handWaits", fn := fun _ => fun
  | [d1, d2, d3] => { results := [.lit (.bool false)], args := [d1, d2, d3] }
  | _ => none }
def HandWaitsWrongFalsely : Prop := handWaitsRow.holds Tryd.pinned (OpenSpec.ofChange handWaitsWrong)

/- THE SECOND FORM. 'bulk': how many values and letters a reading holds, each counted each time it is reached (what is shared counts as often as it is met; a slice's spare places count too). A statement '..UptoSaid' is the law's where the arguments, and the package variables that the reading takes, are together of bulk at most 1048576: NARROWER than '..Said'. Prove '..Said' where nothing that the law and all that it calls make is longer than what came in: it says more and counts as full. Else prove '..UptoSaid'. A law counts once. -/
mutual
def uptoBulk {H : Type} : DataW H → Nat
  | .lit (.string bytes) => bytes.length + 1
  | .lit _ => 1
  | .nil => 1
  | .ptr d => uptoBulk d + 1
  | .slice elems spare => uptoBulkAll elems + uptoBulkAll spare + 1
  | .agg parts => uptoBulkAll parts + 1
  | .iface _ d => uptoBulk d + 1
  | .map entries => uptoBulkEntries entries + 1
  | .held _ => 1
def uptoBulkAll {H : Type} : List (DataW H) → Nat
  | [] => 0
  | d :: r => uptoBulk d + uptoBulkAll r
def uptoBulkEntries {H : Type} : List (Lit × DataW H) → Nat
  | [] => 0
  | x :: r => uptoBulkEntry x + uptoBulkEntries r
def uptoBulkEntry {H : Type} : Lit × DataW H → Nat
  | (.string bytes, d) => bytes.length + uptoBulk d + 1
  | (_, d) => uptoBulk d + 1
 end
def uptoSmall : (H : Type) → List (DataW H) → Bool := fun _ ds => decide (uptoBulkAll ds ≤ 1048576)
def OpenSpec.upto (s : _root_.Go.ChangeSpec) : _root_.Go.OpenSpec := { _root_.Go.OpenSpec.ofChange s with cond := some uptoSmall }

/-- 'quayhandlaw.HandSays', WHERE WHAT IT READS IS OF BULK AT MOST 1048576: true; the input reads as it did. -/
def handSaysUptoRow : OpenClaim := { program := "ytklabieacbbbfaadoor", sum := "9b0c8e46ed687425b5bd3a2d431605f4096d76ecf6a273997c5265ca8058dc9c", func := "quayhand/quayhandlaw.HandSays", spec := "handSays", inPlace := ["internal/bytealg.IndexByteString", "internal/bytealg.IndexString"], unfollowed := true, recurses := true, named := ["quayhand/cmd.shapes", "internal/bytealg.MaxLen"], apart := false, laid := [("quayhand/cmd.shapes", laid_quayhand_cmd_shapes)], narrowed := true }
def HandSaysUptoSaid : Prop := handSaysUptoRow.holds Tryd.pinned (OpenSpec.upto handSaysSpec)

/-- 'quayhandlaw.HandTurns', WHERE WHAT IT READS IS OF BULK AT MOST 1048576: true; the input reads as it did. -/
def handTurnsUptoRow : OpenClaim := { program := "ytklabieacbbbfaadoor", sum := "9b0c8e46ed687425b5bd3a2d431605f4096d76ecf6a273997c5265ca8058dc9c", func := "quayhand/quayhandlaw.HandTurns", spec := "handTurns", unfollowed := true, recurses := true, named := ["quayhand/cmd.shapes"], apart := false, laid := [("quayhand/cmd.shapes", laid_quayhand_cmd_shapes)], narrowed := true }
def HandTurnsUptoSaid : Prop := handTurnsUptoRow.holds Tryd.pinned (OpenSpec.upto handTurnsSpec)

/-- 'quayhandlaw.HandWaits', WHERE WHAT IT READS IS OF BULK AT MOST 1048576: true; the input reads as it did. -/
def handWaitsUptoRow : OpenClaim := { program := "ytklabieacbbbfaadoor", sum := "9b0c8e46ed687425b5bd3a2d431605f4096d76ecf6a273997c5265ca8058dc9c", func := "quayhand/quayhandlaw.HandWaits", spec := "handWaits", unfollowed := true, recurses := true, named := ["quayhand/cmd.shapes"], apart := false, laid := [("quayhand/cmd.shapes", laid_quayhand_cmd_shapes)], narrowed := true }
def HandWaitsUptoSaid : Prop := handWaitsUptoRow.holds Tryd.pinned (OpenSpec.upto handWaitsSpec)

end Rows
end Go.Proofs.YtklabieacbbbfaaDoor
