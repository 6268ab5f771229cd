/-
  No cell of these rows narrows 'for every input' (looked for: loops, veiled, ifaces, maps, wideKeys, modest, calm, conditions, laid).
  DERIVED. THE GIVEN ROWS OF THIS SEAT. 5 by the template 'for every input the law returns true; each argument reads behind the call as it read before'; 0 by the template 'total and deterministic' (their statements: YtobbpioaddpkkabTotals.lean).
  GIVEN WITH THE SEED: the statements are not yours to turn. If you find one false, say at which input.
  Laid BY PROGRAM, IN A SANDBOX (cutbox-rows.mjs): the forced cells as the released guide's own fill.sh prints them over the translation 6c81ff731afa0cad… (all of the seat's roots in one cut). By AI agents, Wed Nov 11 2026. No macro, syntax, notation, axiom, sorry.
-/
import Derived.Test.YtobbpioaddpkkabChecked
import GoSem.Claim
import GoSem.ClaimJoined
import GoSem.ClaimMapViews
import Derived.JoinedTies
import Derived.KernelRfl
namespace Go.Proofs.Ytobbpioaddpkkab
/- THE CELL 'sum', in the pinned program and in every row, IS THE sha256 OF THE DUMP (.gsa) THAT YtobbpioaddpkkabProg.lean LOADS. Nothing in Lean hashes anything: it is a label: what it is worth is what the hold of that sum in a sandbox is worth. -/
noncomputable def Try.pinned : Pinned := { name := "ytobbpioaddpkkab", sum := "6c81ff731afa0cad05a9a2c07519d9220530b584a4c8d66482a104cf696913af", checked := Try.checked }
namespace Rows
def none {H : Type} : Left H := { results := [], args := [] }

/-- 'quayhandlaw.YardWrites': WHATEVER THE INPUT: true; the input reads as it did. -/
def yardWritesSpec : ChangeSpec := { name := "yardWrites", fn := fun _ => fun
  | [d1, d2, d3] => { results := [.lit (.bool true)], args := [d1, d2, d3] }
  | _ => none }
def yardWritesRow : OpenClaim := { program := "ytobbpioaddpkkab", sum := "6c81ff731afa0cad05a9a2c07519d9220530b584a4c8d66482a104cf696913af", func := "quayhand/quayhandlaw.YardWrites", spec := "yardWrites", unfollowed := true, recurses := true, apart := false }
def YardWritesSaid : Prop := yardWritesRow.holds Try.pinned (OpenSpec.ofChange yardWritesSpec)

/-- ITS FALSE NEIGHBOUR: 'it returns false'. Refute it at one input. -/
def yardWritesWrong : ChangeSpec := { name := "yardWrites", fn := fun _ => fun
  | [d1, d2, d3] => { results := [.lit (.bool false)], args := [d1, d2, d3] }
  | _ => none }
def YardWritesWrongFalsely : Prop := yardWritesRow.holds Try.pinned (OpenSpec.ofChange yardWritesWrong)

/-- 'quayhandlaw.YardOthers': WHATEVER THE INPUT: true; the input reads as it did. -/
def yardOthersSpec : ChangeSpec := { name := "yardOthers", fn := fun _ => fun
  | [d1, d2, d3, d4] => { results := [.lit (.bool true)], args := [d1, d2, d3, d4] }
  | _ => none }
def yardOthersRow : OpenClaim := { program := "ytobbpioaddpkkab", sum := "6c81ff731afa0cad05a9a2c07519d9220530b584a4c8d66482a104cf696913af", func := "quayhand/quayhandlaw.YardOthers", spec := "yardOthers", unfollowed := true, recurses := true, apart := false }
def YardOthersSaid : Prop := yardOthersRow.holds Try.pinned (OpenSpec.ofChange yardOthersSpec)

/-- ITS FALSE NEIGHBOUR: 'it returns false'. Refute it at one input. -/
def yardOthersWrong : ChangeSpec := { name := "yardOthers", fn := fun _ => fun
  | [d1, d2, d3, d4] => { results := [.lit (.bool false)], args := [d1, d2, d3, d4] }
  | _ => none }
def YardOthersWrongFalsely : Prop := yardOthersRow.holds Try.pinned (OpenSpec.ofChange yardOthersWrong)

/-- 'quayhandlaw.BookSays': WHATEVER THE INPUT: true; the input reads as it did. -/
def bookSaysSpec : ChangeSpec := { name := "bookSays", fn := fun _ => fun
  | [d1, d2, d3, d4, d5] => { results := [.lit (.bool true)], args := [d1, d2, d3, d4, d5] }
  | _ => none }
def bookSaysRow : OpenClaim := { program := "ytobbpioaddpkkab", sum := "6c81ff731afa0cad05a9a2c07519d9220530b584a4c8d66482a104cf696913af", func := "quayhand/quayhandlaw.BookSays", spec := "bookSays", unfollowed := true, recurses := true, apart := false }
def BookSaysSaid : Prop := bookSaysRow.holds Try.pinned (OpenSpec.ofChange bookSaysSpec)

/-- ITS FALSE NEIGHBOUR: 'it returns false'. Refute it at one input. -/
def bookSaysWrong : ChangeSpec := { name := "bookSays", fn := fun _ => fun
  | [d1, d2, d3, d4, d5] => { results := [.lit (.bool false)], args := [d1, d2, d3, d4, d5] }
  | _ => none }
def BookSaysWrongFalsely : Prop := bookSaysRow.holds Try.pinned (OpenSpec.ofChange bookSaysWrong)

/-- 'quayhandlaw.BookHolds': WHATEVER THE INPUT: true; the input reads as it did. -/
def bookHoldsSpec : ChangeSpec := { name := "bookHolds", fn := fun _ => fun
  | [d1, d2, d3, d4] => { results := [.lit (.bool true)], args := [d1, d2, d3, d4] }
  | _ => none }
def bookHoldsRow : OpenClaim := { program := "ytobbpioaddpkkab", sum := "6c81ff731afa0cad05a9a2c07519d9220530b584a4c8d66482a104cf696913af", func := "quayhand/quayhandlaw.BookHolds", spec := "bookHolds", apart := false }
def BookHoldsSaid : Prop := bookHoldsRow.holds Try.pinned (OpenSpec.ofChange bookHoldsSpec)

/-- ITS FALSE NEIGHBOUR: 'it returns false'. Refute it at one input. -/
def bookHoldsWrong : ChangeSpec := { name := "bookHolds", fn := fun _ => fun
  | [d1, d2, d3, d4] => { results := [.lit (.bool false)], args := [d1, d2, d3, d4] }
  | _ => none }
def BookHoldsWrongFalsely : Prop := bookHoldsRow.holds Try.pinned (OpenSpec.ofChange bookHoldsWrong)

/-- 'quayhandlaw.BookAlone': WHATEVER THE INPUT: true; the input reads as it did. -/
def bookAloneSpec : ChangeSpec := { name := "bookAlone", fn := fun _ => fun
  | [d1, d2, d3, d4] => { results := [.lit (.bool true)], args := [d1, d2, d3, d4] }
  | _ => none }
def bookAloneRow : OpenClaim := { program := "ytobbpioaddpkkab", sum := "6c81ff731afa0cad05a9a2c07519d9220530b584a4c8d66482a104cf696913af", func := "quayhand/quayhandlaw.BookAlone", spec := "bookAlone", apart := false }
def BookAloneSaid : Prop := bookAloneRow.holds Try.pinned (OpenSpec.ofChange bookAloneSpec)

/-- ITS FALSE NEIGHBOUR: 'it returns false'. Refute it at one input. -/
def bookAloneWrong : ChangeSpec := { name := "bookAlone", fn := fun _ => fun
  | [d1, d2, d3, d4] => { results := [.lit (.bool false)], args := [d1, d2, d3, d4] }
  | _ => none }
def BookAloneWrongFalsely : Prop := bookAloneRow.holds Try.pinned (OpenSpec.ofChange bookAloneWrong)

/- THE SECOND FORM. 'bulk': how many values and letters a reading holds, each counted each time it is reached (what is shared counts as often as it is met; a slice's spare places count too). A statement '..UptoSaid' is the law's where the arguments, and the package variables that the reading takes, are together of bulk at most 1048576: NARROWER than '..Said'. Prove '..Said' where nothing that the law and all that it calls make is longer than what came in: it says more and counts as full. Else prove '..UptoSaid'. A law counts once. -/
mutual
def uptoBulk {H : Type} : DataW H → Nat
  | .lit (.string bytes) => bytes.length + 1
  | .lit _ => 1
  | .nil => 1
  | .ptr d => uptoBulk d + 1
  | .slice elems spare => uptoBulkAll elems + uptoBulkAll spare + 1
  | .agg parts => uptoBulkAll parts + 1
  | .iface _ d => uptoBulk d + 1
  | .map entries => uptoBulkEntries entries + 1
  | .held _ => 1
def uptoBulkAll {H : Type} : List (DataW H) → Nat
  | [] => 0
  | d :: r => uptoBulk d + uptoBulkAll r
def uptoBulkEntries {H : Type} : List (Lit × DataW H) → Nat
  | [] => 0
  | x :: r => uptoBulkEntry x + uptoBulkEntries r
def uptoBulkEntry {H : Type} : Lit × DataW H → Nat
  | (.string bytes, d) => bytes.length + uptoBulk d + 1
  | (_, d) => uptoBulk d + 1
 end
def uptoSmall : (H : Type) → List (DataW H) → Bool := fun _ ds => decide (uptoBulkAll ds ≤ 1048576)
def OpenSpec.upto (s : _root_.Go.ChangeSpec) : _root_.Go.OpenSpec := { _root_.Go.OpenSpec.ofChange s with cond := some uptoSmall }

/-- 'quayhandlaw.YardWrites', WHERE WHAT IT READS IS OF BULK AT MOST 1048576: true; the input reads as it did. -/
def yardWritesUptoRow : OpenClaim := { program := "ytobbpioaddpkkab", sum := "6c81ff731afa0cad05a9a2c07519d9220530b584a4c8d66482a104cf696913af", func := "quayhand/quayhandlaw.YardWrites", spec := "yardWrites", unfollowed := true, recurses := true, apart := false, narrowed := true }
def YardWritesUptoSaid : Prop := yardWritesUptoRow.holds Try.pinned (OpenSpec.upto yardWritesSpec)

/-- 'quayhandlaw.YardOthers', WHERE WHAT IT READS IS OF BULK AT MOST 1048576: true; the input reads as it did. -/
def yardOthersUptoRow : OpenClaim := { program := "ytobbpioaddpkkab", sum := "6c81ff731afa0cad05a9a2c07519d9220530b584a4c8d66482a104cf696913af", func := "quayhand/quayhandlaw.YardOthers", spec := "yardOthers", unfollowed := true, recurses := true, apart := false, narrowed := true }
def YardOthersUptoSaid : Prop := yardOthersUptoRow.holds Try.pinned (OpenSpec.upto yardOthersSpec)

/-- 'quayhandlaw.BookSays', WHERE WHAT IT READS IS OF BULK AT MOST 1048576: true; the input reads as it did. -/
def bookSaysUptoRow : OpenClaim := { program := "ytobbpioaddpkkab", sum := "6c81ff731afa0cad05a9a2c07519d9220530b584a4c8d66482a104cf696913af", func := "quayhand/quayhandlaw.BookSays", spec := "bookSays", unfollowed := true, recurses := true, apart := false, narrowed := true }
def BookSaysUptoSaid : Prop := bookSaysUptoRow.holds Try.pinned (OpenSpec.upto bookSaysSpec)

/-- 'quayhandlaw.BookHolds', WHERE WHAT IT READS IS OF BULK AT MOST 1048576: true; the input reads as it did. -/
def bookHoldsUptoRow : OpenClaim := { program := "ytobbpioaddpkkab", sum := "6c81ff731afa0cad05a9a2c07519d9220530b584a4c8d66482a104cf696913af", func := "quayhand/quayhandlaw.BookHolds", spec := "bookHolds", apart := false, narrowed := true }
def BookHoldsUptoSaid : Prop := bookHoldsUptoRow.holds Try.pinned (OpenSpec.upto bookHoldsSpec)

/-- 'quayhandlaw.BookAlone', WHERE WHAT IT READS IS OF BULK AT MOST 1048576: true; the input reads as it did. -/
def bookAloneUptoRow : OpenClaim := { program := "ytobbpioaddpkkab", sum := "6c81ff731afa0cad05a9a2c07519d9220530b584a4c8d66482a104cf696913af", func := "quayhand/quayhandlaw.BookAlone", spec := "bookAlone", apart := false, narrowed := true }
def BookAloneUptoSaid : Prop := bookAloneUptoRow.holds Try.pinned (OpenSpec.upto bookAloneSpec)

end Rows
end Go.Proofs.Ytobbpioaddpkkab
