/-
  No cell of these rows narrows 'for every input' (looked for: loops, veiled, ifaces, maps, wideKeys, modest, calm, conditions, laid).
  DERIVED. THE GIVEN ROWS OF THIS SEAT. 4 by the template 'for every input the law returns true; each argument reads behind the call as it read before'; 0 by the template 'total and deterministic' (their statements: YtaambknbbhjdnaaTotals.lean).
  GIVEN WITH THE SEED: the statements are not yours to turn. If you find one false, say at which input.
  Laid BY PROGRAM, IN A SANDBOX (cutbox-rows.mjs): the forced cells as the released guide's own fill.sh prints them over the translation 22b53f90d7d6af8d… (all of the seat's roots in one cut). By AI agents, Wed Nov 11 2026. No macro, syntax, notation, axiom, sorry.
-/
import Derived.Test.YtaambknbbhjdnaaChecked
import GoSem.Claim
import GoSem.ClaimJoined
import GoSem.ClaimMapViews
import Derived.JoinedTies
import Derived.KernelRfl
namespace Go.Proofs.Ytaambknbbhjdnaa
/- THE CELL 'sum', in the pinned program and in every row, IS THE sha256 OF THE DUMP (.gsa) THAT YtaambknbbhjdnaaProg.lean LOADS. Nothing in Lean hashes anything: it is a label: what it is worth is what the hold of that sum in a sandbox is worth. -/
noncomputable def Try.pinned : Pinned := { name := "ytaambknbbhjdnaa", sum := "22b53f90d7d6af8ddd9ab48b0f50f8fdf114fe56c9d13e21aa454ab003813c5c", checked := Try.checked }
namespace Rows
def none {H : Type} : Left H := { results := [], args := [] }

/-- 'quayhandlaw.YardSays': WHATEVER THE INPUT: true; the input reads as it did. -/
def yardSaysSpec : ChangeSpec := { name := "yardSays", fn := fun _ => fun
  | [d1, d2, d3, d4] => { results := [.lit (.bool true)], args := [d1, d2, d3, d4] }
  | _ => none }
def yardSaysRow : OpenClaim := { program := "ytaambknbbhjdnaa", sum := "22b53f90d7d6af8ddd9ab48b0f50f8fdf114fe56c9d13e21aa454ab003813c5c", func := "quayhand/quayhandlaw.YardSays", spec := "yardSays", unfollowed := true, recurses := true, apart := false }
def YardSaysSaid : Prop := yardSaysRow.holds Try.pinned (OpenSpec.ofChange yardSaysSpec)

/-- ITS FALSE NEIGHBOUR: 'it returns false'. Refute it at one input. -/
def yardSaysWrong : ChangeSpec := { name := "yardSays", fn := fun _ => fun
  | [d1, d2, d3, d4] => { results := [.lit (.bool false)], args := [d1, d2, d3, d4] }
  | _ => none }
def YardSaysWrongFalsely : Prop := yardSaysRow.holds Try.pinned (OpenSpec.ofChange yardSaysWrong)

/-- 'quayhandlaw.YardFew': WHATEVER THE INPUT: true; the input reads as it did. -/
def yardFewSpec : ChangeSpec := { name := "yardFew", fn := fun _ => fun
  | [d1, d2, d3, d4] => { results := [.lit (.bool true)], args := [d1, d2, d3, d4] }
  | _ => none }
def yardFewRow : OpenClaim := { program := "ytaambknbbhjdnaa", sum := "22b53f90d7d6af8ddd9ab48b0f50f8fdf114fe56c9d13e21aa454ab003813c5c", func := "quayhand/quayhandlaw.YardFew", spec := "yardFew", unfollowed := true, recurses := true, apart := false }
def YardFewSaid : Prop := yardFewRow.holds Try.pinned (OpenSpec.ofChange yardFewSpec)

/-- ITS FALSE NEIGHBOUR: 'it returns false'. Refute it at one input. -/
def yardFewWrong : ChangeSpec := { name := "yardFew", fn := fun _ => fun
  | [d1, d2, d3, d4] => { results := [.lit (.bool false)], args := [d1, d2, d3, d4] }
  | _ => none }
def YardFewWrongFalsely : Prop := yardFewRow.holds Try.pinned (OpenSpec.ofChange yardFewWrong)

/-- 'quayhandlaw.YardWrites': WHATEVER THE INPUT: true; the input reads as it did. -/
def yardWritesSpec : ChangeSpec := { name := "yardWrites", fn := fun _ => fun
  | [d1, d2, d3] => { results := [.lit (.bool true)], args := [d1, d2, d3] }
  | _ => none }
def yardWritesRow : OpenClaim := { program := "ytaambknbbhjdnaa", sum := "22b53f90d7d6af8ddd9ab48b0f50f8fdf114fe56c9d13e21aa454ab003813c5c", func := "quayhand/quayhandlaw.YardWrites", spec := "yardWrites", unfollowed := true, recurses := true, apart := false }
def YardWritesSaid : Prop := yardWritesRow.holds Try.pinned (OpenSpec.ofChange yardWritesSpec)

/-- ITS FALSE NEIGHBOUR: 'it returns false'. Refute it at one input. -/
def yardWritesWrong : ChangeSpec := { name := "yardWrites", fn := fun _ => fun
  | [d1, d2, d3] => { results := [.lit (.bool false)], args := [d1, d2, d3] }
  | _ => none }
def YardWritesWrongFalsely : Prop := yardWritesRow.holds Try.pinned (OpenSpec.ofChange yardWritesWrong)

/-- 'quayhandlaw.YardOthers': WHATEVER THE INPUT: true; the input reads as it did. -/
def yardOthersSpec : ChangeSpec := { name := "yardOthers", fn := fun _ => fun
  | [d1, d2, d3, d4] => { results := [.lit (.bool true)], args := [d1, d2, d3, d4] }
  | _ => none }
def yardOthersRow : OpenClaim := { program := "ytaambknbbhjdnaa", sum := "22b53f90d7d6af8ddd9ab48b0f50f8fdf114fe56c9d13e21aa454ab003813c5c", func := "quayhand/quayhandlaw.YardOthers", spec := "yardOthers", unfollowed := true, recurses := true, apart := false }
def YardOthersSaid : Prop := yardOthersRow.holds Try.pinned (OpenSpec.ofChange yardOthersSpec)

/-- ITS FALSE NEIGHBOUR: 'it returns false'. Refute it at one input. -/
def yardOthersWrong : ChangeSpec := { name := "yardOthers", fn := fun _ => fun
  | [d1, d2, d3, d4] => { results := [.lit (.bool false)], args := [d1, d2, d3, d4] }
  | _ => none }
def YardOthersWrongFalsely : Prop := yardOthersRow.holds Try.pinned (OpenSpec.ofChange yardOthersWrong)

/- THE SECOND FORM. 'bulk': how many values and letters a reading holds, each counted each time it is reached (what is shared counts as often as it is met; a slice's spare places count too). A statement '..UptoSaid' is the law's where the arguments, and the package variables that the reading takes, are together of bulk at most 1048576: NARROWER than '..Said'. Prove '..Said' where nothing that the law and all that it calls make is longer than what came in: it says more and counts as full. Else prove '..UptoSaid'. A law counts once. -/
mutual
def uptoBulk {H : Type} : DataW H → Nat
  | .lit (.string bytes) => bytes.length + 1
  | .lit _ => 1
  | .nil => 1
  | .ptr d => uptoBulk d + 1
  | .slice elems spare => uptoBulkAll elems + uptoBulkAll spare + 1
  | .agg parts => uptoBulkAll parts + 1
  | .iface _ d => uptoBulk d + 1
  | .map entries => uptoBulkEntries entries + 1
  | .held _ => 1
def uptoBulkAll {H : Type} : List (DataW H) → Nat
  | [] => 0
  | d :: r => uptoBulk d + uptoBulkAll r
def uptoBulkEntries {H : Type} : List (Lit × DataW H) → Nat
  | [] => 0
  | x :: r => uptoBulkEntry x + uptoBulkEntries r
def uptoBulkEntry {H : Type} : Lit × DataW H → Nat
  | (.string bytes, d) => bytes.length + uptoBulk d + 1
  | (_, d) => uptoBulk d + 1
 end
def uptoSmall : (H : Type) → List (DataW H) → Bool := fun _ ds => decide (uptoBulkAll ds ≤ 1048576)
def OpenSpec.upto (s : _root_.Go.ChangeSpec) : _root_.Go.OpenSpec := { _root_.Go.OpenSpec.ofChange s with cond := some uptoSmall }

/-- 'quayhandlaw.YardSays', WHERE WHAT IT READS IS OF BULK AT MOST 1048576: true; the input reads as it did. -/
def yardSaysUptoRow : OpenClaim := { program := "ytaambknbbhjdnaa", sum := "22b53f90d7d6af8ddd9ab48b0f50f8fdf114fe56c9d13e21aa454ab003813c5c", func := "quayhand/quayhandlaw.YardSays", spec := "yardSays", unfollowed := true, recurses := true, apart := false, narrowed := true }
def YardSaysUptoSaid : Prop := yardSaysUptoRow.holds Try.pinned (OpenSpec.upto yardSaysSpec)

/-- 'quayhandlaw.YardFew', WHERE WHAT IT READS IS OF BULK AT MOST 1048576: true; the input reads as it did. -/
def yardFewUptoRow : OpenClaim := { program := "ytaambknbbhjdnaa", sum := "22b53f90d7d6af8ddd9ab48b0f50f8fdf114fe56c9d13e21aa454ab003813c5c", func := "quayhand/quayhandlaw.YardFew", spec := "yardFew", unfollowed := true, recurses := true, apart := false, narrowed := true }
def YardFewUptoSaid : Prop := yardFewUptoRow.holds Try.pinned (OpenSpec.upto yardFewSpec)

/-- 'quayhandlaw.YardWrites', WHERE WHAT IT READS IS OF BULK AT MOST 1048576: true; the input reads as it did. -/
def yardWritesUptoRow : OpenClaim := { program := "ytaambknbbhjdnaa", sum := "22b53f90d7d6af8ddd9ab48b0f50f8fdf114fe56c9d13e21aa454ab003813c5c", func := "quayhand/quayhandlaw.YardWrites", spec := "yardWrites", unfollowed := true, recurses := true, apart := false, narrowed := true }
def YardWritesUptoSaid : Prop := yardWritesUptoRow.holds Try.pinned (OpenSpec.upto yardWritesSpec)

/-- 'quayhandlaw.YardOthers', WHERE WHAT IT READS IS OF BULK AT MOST 1048576: true; the input reads as it did. -/
def yardOthersUptoRow : OpenClaim := { program := "ytaambknbbhjdnaa", sum := "22b53f90d7d6af8ddd9ab48b0f50f8fdf114fe56c9d13e21aa454ab003813c5c", func := "quayhand/quayhandlaw.YardOthers", spec := "yardOthers", unfollowed := true, recurses := true, apart := false, narrowed := true }
def YardOthersUptoSaid : Prop := yardOthersUptoRow.holds Try.pinned (OpenSpec.upto yardOthersSpec)

end Rows
end Go.Proofs.Ytaambknbbhjdnaa
