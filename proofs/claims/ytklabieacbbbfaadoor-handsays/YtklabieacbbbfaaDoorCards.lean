/-
  DERIVED. GIVEN WITH THE SEED: THE CARDS: each row of YtklabieacbbbfaaDoorRows.lean that lists a variable, with what it lists TIED to the program's text (the seventh form; the later family's looks); each row that meets fmt, with fmt's text TOLD by the authors' own Lean function (tested against real Go, not proved from fmt's source: count such statements apart). THE CARD IS WHAT COUNTS. Prove the row's statement (the work); the ties are given (YtklabieacbbbfaaDoorTie.lean); close each card by the builder's one call (the guide's Derived/Test/ToyasCard.lean, 'card_holds'). Laid BY PROGRAM, IN A SANDBOX (cutbox-door.mjs). By AI agents, Wed Nov 11 2026. No macro, syntax, notation, axiom, sorry.
-/
import Derived.Test.YtklabieacbbbfaaDoorRows
import GoSem.ClaimSeven
namespace Go.Proofs.YtklabieacbbbfaaDoor
namespace Rows

/-- THE TIED CARD OF 'quayhandlaw.HandSays'. -/
def handSaysCard : Claim7 := { stood := { row := handSaysRow, standIns := [], harness := (true, "bce72ee51458eff1d4629ea2ad5ea7476ce58c8e8965206dead90676a30ebbfc"), looks := false }, kinds := [], alts := [], laidByText := true, laidKinds := [.data], laidTests := true, laidLooks := .later }
def HandSaysCardSaid : Prop := Claim7.holds Tryd.pinned (.plain (OpenSpec.ofChange handSaysSpec)) handSaysCard

/-- THE TIED CARD OF 'quayhandlaw.HandTurns'. -/
def handTurnsCard : Claim7 := { stood := { row := handTurnsRow, standIns := [], harness := (true, "bce72ee51458eff1d4629ea2ad5ea7476ce58c8e8965206dead90676a30ebbfc"), looks := false }, kinds := [], alts := [], laidByText := true, laidKinds := [.data], laidTests := true, laidLooks := .later }
def HandTurnsCardSaid : Prop := Claim7.holds Tryd.pinned (.plain (OpenSpec.ofChange handTurnsSpec)) handTurnsCard

/-- THE TIED CARD OF 'quayhandlaw.HandWaits'. -/
def handWaitsCard : Claim7 := { stood := { row := handWaitsRow, standIns := [], harness := (true, "bce72ee51458eff1d4629ea2ad5ea7476ce58c8e8965206dead90676a30ebbfc"), looks := false }, kinds := [], alts := [], laidByText := true, laidKinds := [.data], laidTests := true, laidLooks := .later }
def HandWaitsCardSaid : Prop := Claim7.holds Tryd.pinned (.plain (OpenSpec.ofChange handWaitsSpec)) handWaitsCard

/-- THE SECOND FORM's CARD OF 'quayhandlaw.HandSays'. -/
def handSaysUptoCard : Claim7 := { stood := { row := handSaysUptoRow, standIns := [], harness := (true, "bce72ee51458eff1d4629ea2ad5ea7476ce58c8e8965206dead90676a30ebbfc"), looks := false }, kinds := [], alts := [], laidByText := true, laidKinds := [.data], laidTests := true, laidLooks := .later }
def HandSaysUptoCardSaid : Prop := Claim7.holds Tryd.pinned (.plain (OpenSpec.upto handSaysSpec)) handSaysUptoCard

/-- THE SECOND FORM's CARD OF 'quayhandlaw.HandTurns'. -/
def handTurnsUptoCard : Claim7 := { stood := { row := handTurnsUptoRow, standIns := [], harness := (true, "bce72ee51458eff1d4629ea2ad5ea7476ce58c8e8965206dead90676a30ebbfc"), looks := false }, kinds := [], alts := [], laidByText := true, laidKinds := [.data], laidTests := true, laidLooks := .later }
def HandTurnsUptoCardSaid : Prop := Claim7.holds Tryd.pinned (.plain (OpenSpec.upto handTurnsSpec)) handTurnsUptoCard

/-- THE SECOND FORM's CARD OF 'quayhandlaw.HandWaits'. -/
def handWaitsUptoCard : Claim7 := { stood := { row := handWaitsUptoRow, standIns := [], harness := (true, "bce72ee51458eff1d4629ea2ad5ea7476ce58c8e8965206dead90676a30ebbfc"), looks := false }, kinds := [], alts := [], laidByText := true, laidKinds := [.data], laidTests := true, laidLooks := .later }
def HandWaitsUptoCardSaid : Prop := Claim7.holds Tryd.pinned (.plain (OpenSpec.upto handWaitsSpec)) handWaitsUptoCard
end Rows
end Go.Proofs.YtklabieacbbbfaaDoor
