/-
  NARROWER THAN 'FOR EVERY INPUT', by the rows' own cells (each row's printed sentence says how): HallOnce: laid · HallOthers: laid.
  DERIVED. THE GIVEN ROWS OF THIS SEAT. 2 by the template 'for every input the law returns true; each argument reads behind the call as it read before'; 0 by the template 'total and deterministic' (their statements: YtcmladgldjcdmaaDoorTotals.lean).
  GIVEN WITH THE SEED: the statements are not yours to turn. If you find one false, say at which input.
  Laid BY PROGRAM, IN A SANDBOX (cutbox-rows.mjs): the forced cells as the released guide's own fill.sh prints them over the translation 2e93061a1e23bab6… (all of the seat's roots in one cut). By AI agents, Wed Nov 11 2026. No macro, syntax, notation, axiom, sorry.
-/
import Derived.Test.YtcmladgldjcdmaaDoorChecked
import GoSem.Claim
import GoSem.ClaimJoined
import GoSem.ClaimMapViews
import Derived.JoinedTies
import Derived.KernelRfl
namespace Go.Proofs.YtcmladgldjcdmaaDoor
/- THE CELL 'sum', in the pinned program and in every row, IS THE sha256 OF THE DUMP (.gsa) THAT YtcmladgldjcdmaaDoorProg.lean LOADS. Nothing in Lean hashes anything: it is a label: what it is worth is what the hold of that sum in a sandbox is worth. -/
noncomputable def Tryd.pinned : Pinned := { name := "ytcmladgldjcdmaadoor", sum := "2e93061a1e23bab696311b38de70bab24bde89a7b59b798db5800af92b91173b", checked := Tryd.checked }
namespace Rows
def none {H : Type} : Left H := { results := [], args := [] }

/- WHAT THE LISTED PACKAGE-LEVEL VARIABLES READ AS WHEN THE CALL BEGINS. Each datum BY PROGRAM (the guide's laid-datum.mjs) off the statement by which the dump's own 'gosem.cut.vars' lays the variable. In a bare row this is a premise. The card (YtcmladgldjcdmaaDoorCards.lean) ties it to the program's text. -/
def laid_quayhand_cmd_shapes {H : Type} : DataW H := .agg [.agg [.lit (.string []), .agg [.lit (.bool false), .lit (.bool false), .lit (.bool false), .lit (.bool false)]], .agg [.lit (.string [111, 112, 101, 110]), .agg [.lit (.bool true), .lit (.bool false), .lit (.bool false), .lit (.bool false)]], .agg [.lit (.string [99, 108, 111, 115, 101]), .agg [.lit (.bool true), .lit (.bool false), .lit (.bool false), .lit (.bool false)]], .agg [.lit (.string [102, 105, 110, 105, 115, 104]), .agg [.lit (.bool true), .lit (.bool false), .lit (.bool false), .lit (.bool false)]], .agg [.lit (.string [114, 101, 115, 101, 116]), .agg [.lit (.bool true), .lit (.bool false), .lit (.bool false), .lit (.bool false)]], .agg [.lit (.string [97, 112, 112, 101, 110, 100]), .agg [.lit (.bool true), .lit (.bool false), .lit (.bool false), .lit (.bool true)]], .agg [.lit (.string [119, 114, 105, 116, 101]), .agg [.lit (.bool true), .lit (.bool true), .lit (.bool false), .lit (.bool true)]], .agg [.lit (.string [114, 101, 97, 100]), .agg [.lit (.bool true), .lit (.bool true), .lit (.bool true), .lit (.bool false)]], .agg [.lit (.string [114, 101, 103, 105, 115, 116, 101, 114]), .agg [.lit (.bool false), .lit (.bool false), .lit (.bool true), .lit (.bool false)]], .agg [.lit (.string [114, 101, 115, 101, 114, 118, 101]), .agg [.lit (.bool false), .lit (.bool false), .lit (.bool true), .lit (.bool false)]], .agg [.lit (.string [114, 101, 108, 101, 97, 115, 101]), .agg [.lit (.bool false), .lit (.bool false), .lit (.bool false), .lit (.bool false)]], .agg [.lit (.string [112, 114, 101, 101, 109, 112, 116]), .agg [.lit (.bool false), .lit (.bool false), .lit (.bool true), .lit (.bool false)]], .agg [.lit (.string [99, 108, 101, 97, 114]), .agg [.lit (.bool false), .lit (.bool false), .lit (.bool false), .lit (.bool false)]]]

/-- 'quayhandlaw.HallOnce': WHATEVER THE INPUT: true; the input reads as it did. -/
def hallOnceSpec : ChangeSpec := { name := "hallOnce", fn := fun _ => fun
  | [d1, d2, d3] => { results := [.lit (.bool true)], args := [d1, d2, d3] }
  | _ => none }
def hallOnceRow : OpenClaim := { program := "ytcmladgldjcdmaadoor", sum := "2e93061a1e23bab696311b38de70bab24bde89a7b59b798db5800af92b91173b", func := "quayhand/quayhandlaw.HallOnce", spec := "hallOnce", unfollowed := true, recurses := true, named := ["quayhand/cmd.shapes"], apart := false, laid := [("quayhand/cmd.shapes", laid_quayhand_cmd_shapes)] }
def HallOnceSaid : Prop := hallOnceRow.holds Tryd.pinned (OpenSpec.ofChange hallOnceSpec)

/-- ITS FALSE NEIGHBOUR: 'it returns false'. Refute it at one input. -/
def hallOnceWrong : ChangeSpec := { name := "hallOnce", fn := fun _ => fun
  | [d1, d2, d3] => { results := [.lit (.bool false)], args := [d1, d2, d3] }
  | _ => none }
def HallOnceWrongFalsely : Prop := hallOnceRow.holds Tryd.pinned (OpenSpec.ofChange hallOnceWrong)

/-- 'quayhandlaw.HallOthers': WHATEVER THE INPUT: true; the input reads as it did. -/
def hallOthersSpec : ChangeSpec := { name := "hallOthers", fn := fun _ => fun
  | [d1, d2] => { results := [.lit (.bool true)], args := [d1, d2] }
  | _ => none }
def hallOthersRow : OpenClaim := { program := "ytcmladgldjcdmaadoor", sum := "2e93061a1e23bab696311b38de70bab24bde89a7b59b798db5800af92b91173b", func := "quayhand/quayhandlaw.HallOthers", spec := "hallOthers", unfollowed := true, recurses := true, named := ["quayhand/cmd.shapes"], apart := false, laid := [("quayhand/cmd.shapes", laid_quayhand_cmd_shapes)] }
def HallOthersSaid : Prop := hallOthersRow.holds Tryd.pinned (OpenSpec.ofChange hallOthersSpec)

/-- ITS FALSE NEIGHBOUR: 'it returns false'. Refute it at one input. -/
def hallOthersWrong : ChangeSpec := { name := "hallOthers", fn := fun _ => fun
  | [d1, d2] => { results := [.lit (.bool false)], args := [d1, d2] }
  | _ => none }
def HallOthersWrongFalsely : Prop := hallOthersRow.holds Tryd.pinned (OpenSpec.ofChange hallOthersWrong)

/- THE SECOND FORM. 'bulk': how many values and letters a reading holds, each counted each time it is reached (what is shared counts as often as it is met; a slice's spare places count too). A statement '..UptoSaid' is the law's where the arguments, and the package variables that the reading takes, are together of bulk at most 1048576: NARROWER than '..Said'. Prove '..Said' where nothing that the law and all that it calls make is longer than what came in: it says more and counts as full. Else prove '..UptoSaid'. A law counts once. -/
mutual
def uptoBulk {H : Type} : DataW H → Nat
  | .lit (.string bytes) => bytes.length + 1
  | .lit _ => 1
  | .nil => 1
  | .ptr d => uptoBulk d + 1
  | .slice elems spare => uptoBulkAll elems + uptoBulkAll spare + 1
  | .agg parts => uptoBulkAll parts + 1
  | .iface _ d => uptoBulk d + 1
  | .map entries => uptoBulkEntries entries + 1
  | .held _ => 1
def uptoBulkAll {H : Type} : List (DataW H) → Nat
  | [] => 0
  | d :: r => uptoBulk d + uptoBulkAll r
def uptoBulkEntries {H : Type} : List (Lit × DataW H) → Nat
  | [] => 0
  | x :: r => uptoBulkEntry x + uptoBulkEntries r
def uptoBulkEntry {H : Type} : Lit × DataW H → Nat
  | (.string bytes, d) => bytes.length + uptoBulk d + 1
  | (_, d) => uptoBulk d + 1
 end
def uptoSmall : (H : Type) → List (DataW H) → Bool := fun _ ds => decide (uptoBulkAll ds ≤ 1048576)
def OpenSpec.upto (s : _root_.Go.ChangeSpec) : _root_.Go.OpenSpec := { _root_.Go.OpenSpec.ofChange s with cond := some uptoSmall }

/-- 'quayhandlaw.HallOnce', WHERE WHAT IT READS IS OF BULK AT MOST 1048576: true; the input reads as it did. -/
def hallOnceUptoRow : OpenClaim := { program := "ytcmladgldjcdmaadoor", sum := "2e93061a1e23bab696311b38de70bab24bde89a7b59b798db5800af92b91173b", func := "quayhand/quayhandlaw.HallOnce", spec := "hallOnce", unfollowed := true, recurses := true, named := ["quayhand/cmd.shapes"], apart := false, laid := [("quayhand/cmd.shapes", laid_quayhand_cmd_shapes)], narrowed := true }
def HallOnceUptoSaid : Prop := hallOnceUptoRow.holds Tryd.pinned (OpenSpec.upto hallOnceSpec)

/-- 'quayhandlaw.HallOthers', WHERE WHAT IT READS IS OF BULK AT MOST 1048576: true; the input reads as it did. -/
def hallOthersUptoRow : OpenClaim := { program := "ytcmladgldjcdmaadoor", sum := "2e93061a1e23bab696311b38de70bab24bde89a7b59b798db5800af92b91173b", func := "quayhand/quayhandlaw.HallOthers", spec := "hallOthers", unfollowed := true, recurses := true, named := ["quayhand/cmd.shapes"], apart := false, laid := [("quayhand/cmd.shapes", laid_quayhand_cmd_shapes)], narrowed := true }
def HallOthersUptoSaid : Prop := hallOthersUptoRow.holds Tryd.pinned (OpenSpec.upto hallOthersSpec)

end Rows
end Go.Proofs.YtcmladgldjcdmaaDoor
