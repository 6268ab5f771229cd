/-
  DERIVED. GIVEN WITH THE SEED: THE CARDS: each row of YtcmladgldjcdmaaDoorRows.lean that lists a variable, with what it lists TIED to the program's text (the seventh form; the later family's looks); each row that meets fmt, with fmt's text TOLD by the authors' own Lean function (tested against real Go, not proved from fmt's source: count such statements apart). THE CARD IS WHAT COUNTS. Prove the row's statement (the work); the ties are given (YtcmladgldjcdmaaDoorTie.lean); close each card by the builder's one call (the guide's Derived/Test/ToyasCard.lean, 'card_holds'). Laid BY PROGRAM, IN A SANDBOX (cutbox-door.mjs). By AI agents, Wed Nov 11 2026. No macro, syntax, notation, axiom, sorry.
-/
import Derived.Test.YtcmladgldjcdmaaDoorRows
import GoSem.ClaimSeven
namespace Go.Proofs.YtcmladgldjcdmaaDoor
namespace Rows

/-- THE TIED CARD OF 'quayhandlaw.HallOnce'. -/
def hallOnceCard : Claim7 := { stood := { row := hallOnceRow, standIns := [], harness := (true, "6d78cd28fb96738384ed0ebe83e421dec8ef830f49c110a07929b3158e8512e4"), looks := false }, kinds := [], alts := [], laidByText := true, laidKinds := [.data], laidTests := true, laidLooks := .later }
def HallOnceCardSaid : Prop := Claim7.holds Tryd.pinned (.plain (OpenSpec.ofChange hallOnceSpec)) hallOnceCard

/-- THE TIED CARD OF 'quayhandlaw.HallOthers'. -/
def hallOthersCard : Claim7 := { stood := { row := hallOthersRow, standIns := [], harness := (true, "6d78cd28fb96738384ed0ebe83e421dec8ef830f49c110a07929b3158e8512e4"), looks := false }, kinds := [], alts := [], laidByText := true, laidKinds := [.data], laidTests := true, laidLooks := .later }
def HallOthersCardSaid : Prop := Claim7.holds Tryd.pinned (.plain (OpenSpec.ofChange hallOthersSpec)) hallOthersCard

/-- THE SECOND FORM's CARD OF 'quayhandlaw.HallOnce'. -/
def hallOnceUptoCard : Claim7 := { stood := { row := hallOnceUptoRow, standIns := [], harness := (true, "6d78cd28fb96738384ed0ebe83e421dec8ef830f49c110a07929b3158e8512e4"), looks := false }, kinds := [], alts := [], laidByText := true, laidKinds := [.data], laidTests := true, laidLooks := .later }
def HallOnceUptoCardSaid : Prop := Claim7.holds Tryd.pinned (.plain (OpenSpec.upto hallOnceSpec)) hallOnceUptoCard

/-- THE SECOND FORM's CARD OF 'quayhandlaw.HallOthers'. -/
def hallOthersUptoCard : Claim7 := { stood := { row := hallOthersUptoRow, standIns := [], harness := (true, "6d78cd28fb96738384ed0ebe83e421dec8ef830f49c110a07929b3158e8512e4"), looks := false }, kinds := [], alts := [], laidByText := true, laidKinds := [.data], laidTests := true, laidLooks := .later }
def HallOthersUptoCardSaid : Prop := Claim7.holds Tryd.pinned (.plain (OpenSpec.upto hallOthersSpec)) hallOthersUptoCard
end Rows
end Go.Proofs.YtcmladgldjcdmaaDoor
