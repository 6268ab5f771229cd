/-
  DERIVED. GIVEN WITH THE SEED: THE CARDS: each row of YtenmamcaldabdaaGreatDoorRows.lean that lists a variable, with what it lists TIED to the program's text (the seventh form; the later family's looks); each row that meets fmt, with fmt's text TOLD by the authors' own Lean function (tested against real Go, not proved from fmt's source: count such statements apart). THE CARD IS WHAT COUNTS. Prove the row's statement (the work); the ties are given (YtenmamcaldabdaaGreatDoorTie.lean); close each card by the builder's one call (the guide's Derived/Test/ToyasCard.lean, 'card_holds'). Laid BY PROGRAM, IN A SANDBOX (cutbox-door.mjs). By AI agents, Wed Nov 11 2026. No macro, syntax, notation, axiom, sorry.
-/
import Derived.Test.YtenmamcaldabdaaGreatDoorRows
import GoSem.ClaimSeven
namespace Go.Proofs.YtenmamcaldabdaaGreatDoor
namespace Rows

/-- THE TIED CARD OF 'quayhandlaw.HallSays'. -/
def hallSaysCard : Claim7 := { stood := { row := hallSaysRow, standIns := [], harness := (true, "1399243d40e079d13b8d40c2ca7002571f90d0512221f2a76c7af3d906f68d5f"), looks := true }, kinds := [], alts := [], laidByText := true, laidKinds := [.data], laidTests := true, laidLooks := .later }
def HallSaysCardSaid : Prop := Claim7.holds Tryz.pinned (.plain (OpenSpec.ofChange hallSaysSpec)) hallSaysCard

/-- THE TIED CARD OF 'quayhandlaw.HallParts'. -/
def hallPartsCard : Claim7 := { stood := { row := hallPartsRow, standIns := [], harness := (true, "1399243d40e079d13b8d40c2ca7002571f90d0512221f2a76c7af3d906f68d5f"), looks := true }, kinds := [], alts := [], laidByText := true, laidKinds := [.data, .data, .data, .data, .sentinel, .sentinel, .data, .pinned], laidTests := true, laidLooks := .later }
def HallPartsCardSaid : Prop := Claim7.holds Tryz.pinned (.plain (OpenSpec.ofChange hallPartsSpec)) hallPartsCard

/-- THE SECOND FORM's CARD OF 'quayhandlaw.HallSays'. -/
def hallSaysUptoCard : Claim7 := { stood := { row := hallSaysUptoRow, standIns := [], harness := (true, "1399243d40e079d13b8d40c2ca7002571f90d0512221f2a76c7af3d906f68d5f"), looks := true }, kinds := [], alts := [], laidByText := true, laidKinds := [.data], laidTests := true, laidLooks := .later }
def HallSaysUptoCardSaid : Prop := Claim7.holds Tryz.pinned (.plain (OpenSpec.upto hallSaysSpec)) hallSaysUptoCard

/-- THE SECOND FORM's CARD OF 'quayhandlaw.HallParts'. -/
def hallPartsUptoCard : Claim7 := { stood := { row := hallPartsUptoRow, standIns := [], harness := (true, "1399243d40e079d13b8d40c2ca7002571f90d0512221f2a76c7af3d906f68d5f"), looks := true }, kinds := [], alts := [], laidByText := true, laidKinds := [.data, .data, .data, .data, .sentinel, .sentinel, .data, .pinned], laidTests := true, laidLooks := .later }
def HallPartsUptoCardSaid : Prop := Claim7.holds Tryz.pinned (.plain (OpenSpec.upto hallPartsSpec)) hallPartsUptoCard
end Rows
end Go.Proofs.YtenmamcaldabdaaGreatDoor
