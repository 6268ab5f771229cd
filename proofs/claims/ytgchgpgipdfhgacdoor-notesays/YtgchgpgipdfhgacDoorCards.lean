/-
  DERIVED. GIVEN WITH THE SEED: THE CARDS: each row of YtgchgpgipdfhgacDoorRows.lean that lists a variable, with what it lists TIED to the program's text (the seventh form; the later family's looks); each row that meets fmt, with fmt's text TOLD by the authors' own Lean function (tested against real Go, not proved from fmt's source: count such statements apart). THE CARD IS WHAT COUNTS. Prove the row's statement (the work); the ties are given (YtgchgpgipdfhgacDoorTie.lean); close each card by the builder's one call (the guide's Derived/Test/ToyasCard.lean, 'card_holds'). Laid BY PROGRAM, IN A SANDBOX (cutbox-door.mjs). By AI agents, Wed Nov 11 2026. No macro, syntax, notation, axiom, sorry.
-/
import Derived.Test.YtgchgpgipdfhgacDoorRows
import GoSem.ClaimSeven
namespace Go.Proofs.YtgchgpgipdfhgacDoor
namespace Rows

/-- THE TIED CARD OF 'quayhandlaw.CmdBack'. -/
def cmdBackCard : Claim7 := { stood := { row := cmdBackRow, standIns := [], harness := (true, "73f148a83fae8b25b818de9bfaaa6fa842e4be36e761d9bcbce0a42ccf6b64bc"), looks := true }, kinds := [], alts := [], laidByText := true, laidKinds := [.data, .data, .data, .data, .sentinel, .sentinel, .data, .pinned], laidTests := true, laidLooks := .later }
def CmdBackCardSaid : Prop := Claim7.holds Tryd.pinned (.plain (OpenSpec.ofChange cmdBackSpec)) cmdBackCard

/-- THE TIED CARD OF 'quayhandlaw.DeskMay'. -/
def deskMayCard : Claim7 := { stood := { row := deskMayRow, standIns := [], harness := (true, "73f148a83fae8b25b818de9bfaaa6fa842e4be36e761d9bcbce0a42ccf6b64bc"), looks := true }, kinds := [], alts := [], laidByText := true, laidKinds := [.data], laidTests := true, laidLooks := .later }
def DeskMayCardSaid : Prop := Claim7.holds Tryd.pinned (.plain (OpenSpec.ofChange deskMaySpec)) deskMayCard

/-- THE TIED CARD OF 'quayhandlaw.DeskReads'. -/
def deskReadsCard : Claim7 := { stood := { row := deskReadsRow, standIns := [], harness := (true, "73f148a83fae8b25b818de9bfaaa6fa842e4be36e761d9bcbce0a42ccf6b64bc"), looks := true }, kinds := [], alts := [], laidByText := true, laidKinds := [.data], laidTests := true, laidLooks := .later }
def DeskReadsCardSaid : Prop := Claim7.holds Tryd.pinned (.plain (OpenSpec.ofChange deskReadsSpec)) deskReadsCard

/-- THE TIED CARD OF 'quayhandlaw.NoteSays'. -/
def noteSaysCard : Claim7 := { stood := { row := noteSaysRow, standIns := [], harness := (true, "73f148a83fae8b25b818de9bfaaa6fa842e4be36e761d9bcbce0a42ccf6b64bc"), looks := true }, kinds := [], alts := [], laidByText := true, laidKinds := [.data, .data, .data, .data, .sentinel, .sentinel, .data, .pinned], laidTests := true, laidLooks := .later }
def NoteSaysCardSaid : Prop := Claim7.holds Tryd.pinned (.plain (OpenSpec.ofChange noteSaysSpec)) noteSaysCard

/-- THE TIED CARD OF 'quayhandlaw.NoteBack'. -/
def noteBackCard : Claim7 := { stood := { row := noteBackRow, standIns := [], harness := (true, "73f148a83fae8b25b818de9bfaaa6fa842e4be36e761d9bcbce0a42ccf6b64bc"), looks := true }, kinds := [], alts := [], laidByText := true, laidKinds := [.data, .data, .data, .data, .sentinel, .sentinel, .data, .pinned], laidTests := true, laidLooks := .later }
def NoteBackCardSaid : Prop := Claim7.holds Tryd.pinned (.plain (OpenSpec.ofChange noteBackSpec)) noteBackCard

/-- THE SECOND FORM's CARD OF 'quayhandlaw.CmdBack'. -/
def cmdBackUptoCard : Claim7 := { stood := { row := cmdBackUptoRow, standIns := [], harness := (true, "73f148a83fae8b25b818de9bfaaa6fa842e4be36e761d9bcbce0a42ccf6b64bc"), looks := true }, kinds := [], alts := [], laidByText := true, laidKinds := [.data, .data, .data, .data, .sentinel, .sentinel, .data, .pinned], laidTests := true, laidLooks := .later }
def CmdBackUptoCardSaid : Prop := Claim7.holds Tryd.pinned (.plain (OpenSpec.upto cmdBackSpec)) cmdBackUptoCard

/-- THE SECOND FORM's CARD OF 'quayhandlaw.DeskMay'. -/
def deskMayUptoCard : Claim7 := { stood := { row := deskMayUptoRow, standIns := [], harness := (true, "73f148a83fae8b25b818de9bfaaa6fa842e4be36e761d9bcbce0a42ccf6b64bc"), looks := true }, kinds := [], alts := [], laidByText := true, laidKinds := [.data], laidTests := true, laidLooks := .later }
def DeskMayUptoCardSaid : Prop := Claim7.holds Tryd.pinned (.plain (OpenSpec.upto deskMaySpec)) deskMayUptoCard

/-- THE SECOND FORM's CARD OF 'quayhandlaw.DeskReads'. -/
def deskReadsUptoCard : Claim7 := { stood := { row := deskReadsUptoRow, standIns := [], harness := (true, "73f148a83fae8b25b818de9bfaaa6fa842e4be36e761d9bcbce0a42ccf6b64bc"), looks := true }, kinds := [], alts := [], laidByText := true, laidKinds := [.data], laidTests := true, laidLooks := .later }
def DeskReadsUptoCardSaid : Prop := Claim7.holds Tryd.pinned (.plain (OpenSpec.upto deskReadsSpec)) deskReadsUptoCard

/-- THE SECOND FORM's CARD OF 'quayhandlaw.NoteSays'. -/
def noteSaysUptoCard : Claim7 := { stood := { row := noteSaysUptoRow, standIns := [], harness := (true, "73f148a83fae8b25b818de9bfaaa6fa842e4be36e761d9bcbce0a42ccf6b64bc"), looks := true }, kinds := [], alts := [], laidByText := true, laidKinds := [.data, .data, .data, .data, .sentinel, .sentinel, .data, .pinned], laidTests := true, laidLooks := .later }
def NoteSaysUptoCardSaid : Prop := Claim7.holds Tryd.pinned (.plain (OpenSpec.upto noteSaysSpec)) noteSaysUptoCard

/-- THE SECOND FORM's CARD OF 'quayhandlaw.NoteBack'. -/
def noteBackUptoCard : Claim7 := { stood := { row := noteBackUptoRow, standIns := [], harness := (true, "73f148a83fae8b25b818de9bfaaa6fa842e4be36e761d9bcbce0a42ccf6b64bc"), looks := true }, kinds := [], alts := [], laidByText := true, laidKinds := [.data, .data, .data, .data, .sentinel, .sentinel, .data, .pinned], laidTests := true, laidLooks := .later }
def NoteBackUptoCardSaid : Prop := Claim7.holds Tryd.pinned (.plain (OpenSpec.upto noteBackSpec)) noteBackUptoCard
end Rows
end Go.Proofs.YtgchgpgipdfhgacDoor
