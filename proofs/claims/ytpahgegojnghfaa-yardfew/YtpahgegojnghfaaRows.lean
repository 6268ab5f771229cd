/-
  No cell of these rows narrows 'for every input' (looked for: loops, veiled, ifaces, maps, wideKeys, modest, calm, conditions, laid).
  DERIVED. THE GIVEN ROWS OF THIS SEAT. 6 by the template 'for every input the law returns true; each argument reads behind the call as it read before'; 0 by the template 'total and deterministic' (their statements: YtpahgegojnghfaaTotals.lean).
  GIVEN WITH THE SEED: the statements are not yours to turn. If you find one false, say at which input.
  Laid BY PROGRAM, IN A SANDBOX (cutbox-rows.mjs): the forced cells as the released guide's own fill.sh prints them over the translation e8d91a2febf803cf… (all of the seat's roots in one cut). By AI agents, Wed Nov 11 2026. No macro, syntax, notation, axiom, sorry.
-/
import Derived.Test.YtpahgegojnghfaaChecked
import GoSem.Claim
import GoSem.ClaimJoined
import GoSem.ClaimMapViews
import Derived.JoinedTies
import Derived.KernelRfl
namespace Go.Proofs.Ytpahgegojnghfaa
/- THE CELL 'sum', in the pinned program and in every row, IS THE sha256 OF THE DUMP (.gsa) THAT YtpahgegojnghfaaProg.lean LOADS. Nothing in Lean hashes anything: it is a label: what it is worth is what the hold of that sum in a sandbox is worth. -/
noncomputable def Try.pinned : Pinned := { name := "ytpahgegojnghfaa", sum := "e8d91a2febf803cf2d956fe0d0677b293a477828d61d39db69527cdc9d8b267b", checked := Try.checked }
namespace Rows
def none {H : Type} : Left H := { results := [], args := [] }

/-- 'quayhandlaw.Names': WHATEVER THE INPUT: true; the input reads as it did. -/
def namesSpec : ChangeSpec := { name := "names", fn := fun _ => fun
  | [] => { results := [.lit (.bool true)], args := [] }
  | _ => none }
def namesRow : OpenClaim := { program := "ytpahgegojnghfaa", sum := "e8d91a2febf803cf2d956fe0d0677b293a477828d61d39db69527cdc9d8b267b", func := "quayhand/quayhandlaw.Names", spec := "names", apart := false }
def NamesSaid : Prop := namesRow.holds Try.pinned (OpenSpec.ofChange namesSpec)

/-- ITS FALSE NEIGHBOUR: 'it returns false'. Refute it at one input. -/
def namesWrong : ChangeSpec := { name := "names", fn := fun _ => fun
  | [] => { results := [.lit (.bool false)], args := [] }
  | _ => none }
def NamesWrongFalsely : Prop := namesRow.holds Try.pinned (OpenSpec.ofChange namesWrong)

/-- 'quayhandlaw.ZoneSays': WHATEVER THE INPUT: true; the input reads as it did. -/
def zoneSaysSpec : ChangeSpec := { name := "zoneSays", fn := fun _ => fun
  | [d1, d2, d3, d4, d5] => { results := [.lit (.bool true)], args := [d1, d2, d3, d4, d5] }
  | _ => none }
def zoneSaysRow : OpenClaim := { program := "ytpahgegojnghfaa", sum := "e8d91a2febf803cf2d956fe0d0677b293a477828d61d39db69527cdc9d8b267b", func := "quayhand/quayhandlaw.ZoneSays", spec := "zoneSays", unfollowed := true, recurses := true, apart := false }
def ZoneSaysSaid : Prop := zoneSaysRow.holds Try.pinned (OpenSpec.ofChange zoneSaysSpec)

/-- ITS FALSE NEIGHBOUR: 'it returns false'. Refute it at one input. -/
def zoneSaysWrong : ChangeSpec := { name := "zoneSays", fn := fun _ => fun
  | [d1, d2, d3, d4, d5] => { results := [.lit (.bool false)], args := [d1, d2, d3, d4, d5] }
  | _ => none }
def ZoneSaysWrongFalsely : Prop := zoneSaysRow.holds Try.pinned (OpenSpec.ofChange zoneSaysWrong)

/-- 'quayhandlaw.ZoneKeeps': WHATEVER THE INPUT: true; the input reads as it did. -/
def zoneKeepsSpec : ChangeSpec := { name := "zoneKeeps", fn := fun _ => fun
  | [d1, d2, d3, d4] => { results := [.lit (.bool true)], args := [d1, d2, d3, d4] }
  | _ => none }
def zoneKeepsRow : OpenClaim := { program := "ytpahgegojnghfaa", sum := "e8d91a2febf803cf2d956fe0d0677b293a477828d61d39db69527cdc9d8b267b", func := "quayhand/quayhandlaw.ZoneKeeps", spec := "zoneKeeps", unfollowed := true, recurses := true, apart := false }
def ZoneKeepsSaid : Prop := zoneKeepsRow.holds Try.pinned (OpenSpec.ofChange zoneKeepsSpec)

/-- ITS FALSE NEIGHBOUR: 'it returns false'. Refute it at one input. -/
def zoneKeepsWrong : ChangeSpec := { name := "zoneKeeps", fn := fun _ => fun
  | [d1, d2, d3, d4] => { results := [.lit (.bool false)], args := [d1, d2, d3, d4] }
  | _ => none }
def ZoneKeepsWrongFalsely : Prop := zoneKeepsRow.holds Try.pinned (OpenSpec.ofChange zoneKeepsWrong)

/-- 'quayhandlaw.ZoneParts': WHATEVER THE INPUT: true; the input reads as it did. -/
def zonePartsSpec : ChangeSpec := { name := "zoneParts", fn := fun _ => fun
  | [d1, d2, d3] => { results := [.lit (.bool true)], args := [d1, d2, d3] }
  | _ => none }
def zonePartsRow : OpenClaim := { program := "ytpahgegojnghfaa", sum := "e8d91a2febf803cf2d956fe0d0677b293a477828d61d39db69527cdc9d8b267b", func := "quayhand/quayhandlaw.ZoneParts", spec := "zoneParts", unfollowed := true, recurses := true, apart := false }
def ZonePartsSaid : Prop := zonePartsRow.holds Try.pinned (OpenSpec.ofChange zonePartsSpec)

/-- ITS FALSE NEIGHBOUR: 'it returns false'. Refute it at one input. -/
def zonePartsWrong : ChangeSpec := { name := "zoneParts", fn := fun _ => fun
  | [d1, d2, d3] => { results := [.lit (.bool false)], args := [d1, d2, d3] }
  | _ => none }
def ZonePartsWrongFalsely : Prop := zonePartsRow.holds Try.pinned (OpenSpec.ofChange zonePartsWrong)

/-- 'quayhandlaw.YardSays': WHATEVER THE INPUT: true; the input reads as it did. -/
def yardSaysSpec : ChangeSpec := { name := "yardSays", fn := fun _ => fun
  | [d1, d2, d3, d4] => { results := [.lit (.bool true)], args := [d1, d2, d3, d4] }
  | _ => none }
def yardSaysRow : OpenClaim := { program := "ytpahgegojnghfaa", sum := "e8d91a2febf803cf2d956fe0d0677b293a477828d61d39db69527cdc9d8b267b", func := "quayhand/quayhandlaw.YardSays", spec := "yardSays", unfollowed := true, recurses := true, apart := false }
def YardSaysSaid : Prop := yardSaysRow.holds Try.pinned (OpenSpec.ofChange yardSaysSpec)

/-- ITS FALSE NEIGHBOUR: 'it returns false'. Refute it at one input. -/
def yardSaysWrong : ChangeSpec := { name := "yardSays", fn := fun _ => fun
  | [d1, d2, d3, d4] => { results := [.lit (.bool false)], args := [d1, d2, d3, d4] }
  | _ => none }
def YardSaysWrongFalsely : Prop := yardSaysRow.holds Try.pinned (OpenSpec.ofChange yardSaysWrong)

/-- 'quayhandlaw.YardFew': WHATEVER THE INPUT: true; the input reads as it did. -/
def yardFewSpec : ChangeSpec := { name := "yardFew", fn := fun _ => fun
  | [d1, d2, d3, d4] => { results := [.lit (.bool true)], args := [d1, d2, d3, d4] }
  | _ => none }
def yardFewRow : OpenClaim := { program := "ytpahgegojnghfaa", sum := "e8d91a2febf803cf2d956fe0d0677b293a477828d61d39db69527cdc9d8b267b", func := "quayhand/quayhandlaw.YardFew", spec := "yardFew", unfollowed := true, recurses := true, apart := false }
def YardFewSaid : Prop := yardFewRow.holds Try.pinned (OpenSpec.ofChange yardFewSpec)

/-- ITS FALSE NEIGHBOUR: 'it returns false'. Refute it at one input. -/
def yardFewWrong : ChangeSpec := { name := "yardFew", fn := fun _ => fun
  | [d1, d2, d3, d4] => { results := [.lit (.bool false)], args := [d1, d2, d3, d4] }
  | _ => none }
def YardFewWrongFalsely : Prop := yardFewRow.holds Try.pinned (OpenSpec.ofChange yardFewWrong)

/- THE SECOND FORM. 'bulk': how many values and letters a reading holds, each counted each time it is reached (what is shared counts as often as it is met; a slice's spare places count too). A statement '..UptoSaid' is the law's where the arguments, and the package variables that the reading takes, are together of bulk at most 1048576: NARROWER than '..Said'. Prove '..Said' where nothing that the law and all that it calls make is longer than what came in: it says more and counts as full. Else prove '..UptoSaid'. A law counts once. -/
mutual
def uptoBulk {H : Type} : DataW H → Nat
  | .lit (.string bytes) => bytes.length + 1
  | .lit _ => 1
  | .nil => 1
  | .ptr d => uptoBulk d + 1
  | .slice elems spare => uptoBulkAll elems + uptoBulkAll spare + 1
  | .agg parts => uptoBulkAll parts + 1
  | .iface _ d => uptoBulk d + 1
  | .map entries => uptoBulkEntries entries + 1
  | .held _ => 1
def uptoBulkAll {H : Type} : List (DataW H) → Nat
  | [] => 0
  | d :: r => uptoBulk d + uptoBulkAll r
def uptoBulkEntries {H : Type} : List (Lit × DataW H) → Nat
  | [] => 0
  | x :: r => uptoBulkEntry x + uptoBulkEntries r
def uptoBulkEntry {H : Type} : Lit × DataW H → Nat
  | (.string bytes, d) => bytes.length + uptoBulk d + 1
  | (_, d) => uptoBulk d + 1
 end
def uptoSmall : (H : Type) → List (DataW H) → Bool := fun _ ds => decide (uptoBulkAll ds ≤ 1048576)
def OpenSpec.upto (s : _root_.Go.ChangeSpec) : _root_.Go.OpenSpec := { _root_.Go.OpenSpec.ofChange s with cond := some uptoSmall }

/-- 'quayhandlaw.Names', WHERE WHAT IT READS IS OF BULK AT MOST 1048576: true; the input reads as it did. -/
def namesUptoRow : OpenClaim := { program := "ytpahgegojnghfaa", sum := "e8d91a2febf803cf2d956fe0d0677b293a477828d61d39db69527cdc9d8b267b", func := "quayhand/quayhandlaw.Names", spec := "names", apart := false, narrowed := true }
def NamesUptoSaid : Prop := namesUptoRow.holds Try.pinned (OpenSpec.upto namesSpec)

/-- 'quayhandlaw.ZoneSays', WHERE WHAT IT READS IS OF BULK AT MOST 1048576: true; the input reads as it did. -/
def zoneSaysUptoRow : OpenClaim := { program := "ytpahgegojnghfaa", sum := "e8d91a2febf803cf2d956fe0d0677b293a477828d61d39db69527cdc9d8b267b", func := "quayhand/quayhandlaw.ZoneSays", spec := "zoneSays", unfollowed := true, recurses := true, apart := false, narrowed := true }
def ZoneSaysUptoSaid : Prop := zoneSaysUptoRow.holds Try.pinned (OpenSpec.upto zoneSaysSpec)

/-- 'quayhandlaw.ZoneKeeps', WHERE WHAT IT READS IS OF BULK AT MOST 1048576: true; the input reads as it did. -/
def zoneKeepsUptoRow : OpenClaim := { program := "ytpahgegojnghfaa", sum := "e8d91a2febf803cf2d956fe0d0677b293a477828d61d39db69527cdc9d8b267b", func := "quayhand/quayhandlaw.ZoneKeeps", spec := "zoneKeeps", unfollowed := true, recurses := true, apart := false, narrowed := true }
def ZoneKeepsUptoSaid : Prop := zoneKeepsUptoRow.holds Try.pinned (OpenSpec.upto zoneKeepsSpec)

/-- 'quayhandlaw.ZoneParts', WHERE WHAT IT READS IS OF BULK AT MOST 1048576: true; the input reads as it did. -/
def zonePartsUptoRow : OpenClaim := { program := "ytpahgegojnghfaa", sum := "e8d91a2febf803cf2d956fe0d0677b293a477828d61d39db69527cdc9d8b267b", func := "quayhand/quayhandlaw.ZoneParts", spec := "zoneParts", unfollowed := true, recurses := true, apart := false, narrowed := true }
def ZonePartsUptoSaid : Prop := zonePartsUptoRow.holds Try.pinned (OpenSpec.upto zonePartsSpec)

/-- 'quayhandlaw.YardSays', WHERE WHAT IT READS IS OF BULK AT MOST 1048576: true; the input reads as it did. -/
def yardSaysUptoRow : OpenClaim := { program := "ytpahgegojnghfaa", sum := "e8d91a2febf803cf2d956fe0d0677b293a477828d61d39db69527cdc9d8b267b", func := "quayhand/quayhandlaw.YardSays", spec := "yardSays", unfollowed := true, recurses := true, apart := false, narrowed := true }
def YardSaysUptoSaid : Prop := yardSaysUptoRow.holds Try.pinned (OpenSpec.upto yardSaysSpec)

/-- 'quayhandlaw.YardFew', WHERE WHAT IT READS IS OF BULK AT MOST 1048576: true; the input reads as it did. -/
def yardFewUptoRow : OpenClaim := { program := "ytpahgegojnghfaa", sum := "e8d91a2febf803cf2d956fe0d0677b293a477828d61d39db69527cdc9d8b267b", func := "quayhand/quayhandlaw.YardFew", spec := "yardFew", unfollowed := true, recurses := true, apart := false, narrowed := true }
def YardFewUptoSaid : Prop := yardFewUptoRow.holds Try.pinned (OpenSpec.upto yardFewSpec)

end Rows
end Go.Proofs.Ytpahgegojnghfaa
