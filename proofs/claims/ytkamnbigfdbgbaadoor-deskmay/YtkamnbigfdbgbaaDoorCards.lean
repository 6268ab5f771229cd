/-
  DERIVED. GIVEN WITH THE SEED: THE CARDS: each row of YtkamnbigfdbgbaaDoorRows.lean that lists a variable, with what it lists TIED to the program's text (the seventh form; the later family's looks); each row that meets fmt, with fmt's text TOLD by the authors' own Lean function (tested against real Go, not proved from fmt's source: count such statements apart). THE CARD IS WHAT COUNTS. Prove the row's statement (the work); the ties are given (YtkamnbigfdbgbaaDoorTie.lean); close each card by the builder's one call (the guide's Derived/Test/ToyasCard.lean, 'card_holds'). Laid BY PROGRAM, IN A SANDBOX (cutbox-door.mjs). By AI agents, Wed Nov 11 2026. No macro, syntax, notation, axiom, sorry.
-/
import Derived.Test.YtkamnbigfdbgbaaDoorRows
import GoSem.ClaimSeven
namespace Go.Proofs.YtkamnbigfdbgbaaDoor
namespace Rows

/-- THE TIED CARD OF 'quayhandlaw.DeskMay'. -/
def deskMayCard : Claim7 := { stood := { row := deskMayRow, standIns := [], harness := (true, "20efaffab15941bfbf675895ad434f1992055619cf4da8165cba66be41071f67"), looks := false }, kinds := [], alts := [], laidByText := true, laidKinds := [.data], laidTests := true, laidLooks := .later }
def DeskMayCardSaid : Prop := Claim7.holds Tryd.pinned (.plain (OpenSpec.ofChange deskMaySpec)) deskMayCard

/-- THE TIED CARD OF 'quayhandlaw.DeskReads'. -/
def deskReadsCard : Claim7 := { stood := { row := deskReadsRow, standIns := [], harness := (true, "20efaffab15941bfbf675895ad434f1992055619cf4da8165cba66be41071f67"), looks := false }, kinds := [], alts := [], laidByText := true, laidKinds := [.data], laidTests := true, laidLooks := .later }
def DeskReadsCardSaid : Prop := Claim7.holds Tryd.pinned (.plain (OpenSpec.ofChange deskReadsSpec)) deskReadsCard

/-- THE SECOND FORM's CARD OF 'quayhandlaw.DeskMay'. -/
def deskMayUptoCard : Claim7 := { stood := { row := deskMayUptoRow, standIns := [], harness := (true, "20efaffab15941bfbf675895ad434f1992055619cf4da8165cba66be41071f67"), looks := false }, kinds := [], alts := [], laidByText := true, laidKinds := [.data], laidTests := true, laidLooks := .later }
def DeskMayUptoCardSaid : Prop := Claim7.holds Tryd.pinned (.plain (OpenSpec.upto deskMaySpec)) deskMayUptoCard

/-- THE SECOND FORM's CARD OF 'quayhandlaw.DeskReads'. -/
def deskReadsUptoCard : Claim7 := { stood := { row := deskReadsUptoRow, standIns := [], harness := (true, "20efaffab15941bfbf675895ad434f1992055619cf4da8165cba66be41071f67"), looks := false }, kinds := [], alts := [], laidByText := true, laidKinds := [.data], laidTests := true, laidLooks := .later }
def DeskReadsUptoCardSaid : Prop := Claim7.holds Tryd.pinned (.plain (OpenSpec.upto deskReadsSpec)) deskReadsUptoCard
end Rows
end Go.Proofs.YtkamnbigfdbgbaaDoor
