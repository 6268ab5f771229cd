/-
  DERIVED. GIVEN WITH THE SEED: THE CARDS: each row of YtabafikicbkkdaaGreatDoorRows.lean that lists a variable, with what it lists TIED to the program's text (the seventh form; the later family's looks); each row that meets fmt, with fmt's text TOLD by the authors' own Lean function (tested against real Go, not proved from fmt's source: count such statements apart). THE CARD IS WHAT COUNTS. Prove the row's statement (the work); the ties are given (YtabafikicbkkdaaGreatDoorTie.lean); close each card by the builder's one call (the guide's Derived/Test/ToyasCard.lean, 'card_holds'). Laid BY PROGRAM, IN A SANDBOX (cutbox-door.mjs). By AI agents, Wed Nov 11 2026. No macro, syntax, notation, axiom, sorry.
-/
import Derived.Test.YtabafikicbkkdaaGreatDoorRows
import GoSem.ClaimSeven
namespace Go.Proofs.YtabafikicbkkdaaGreatDoor
namespace Rows

/-- THE TIED CARD OF 'quayhandlaw.StoryGrows'. -/
def storyGrowsCard : Claim7 := { stood := { row := storyGrowsRow, standIns := [], harness := (true, "61ad6d078eb2e2f11ea963d32fdf4ac90a1f51424aac11ecbd7ee3458eac7029"), looks := true }, kinds := [], alts := [], laidByText := true, laidKinds := [.data, .data, .data, .data, .sentinel, .sentinel, .data, .pinned], laidTests := true, laidLooks := .later }
def StoryGrowsCardSaid : Prop := Claim7.holds Tryz.pinned (.plain (OpenSpec.ofChange storyGrowsSpec)) storyGrowsCard

/-- THE TIED CARD OF 'quayhandlaw.StoryOnce'. -/
def storyOnceCard : Claim7 := { stood := { row := storyOnceRow, standIns := [], harness := (true, "61ad6d078eb2e2f11ea963d32fdf4ac90a1f51424aac11ecbd7ee3458eac7029"), looks := true }, kinds := [], alts := [], laidByText := true, laidKinds := [.data, .data, .data, .data, .sentinel, .sentinel, .data, .pinned], laidTests := true, laidLooks := .later }
def StoryOnceCardSaid : Prop := Claim7.holds Tryz.pinned (.plain (OpenSpec.ofChange storyOnceSpec)) storyOnceCard

/-- THE TIED CARD OF 'quayhandlaw.StoryStands'. -/
def storyStandsCard : Claim7 := { stood := { row := storyStandsRow, standIns := [], harness := (true, "61ad6d078eb2e2f11ea963d32fdf4ac90a1f51424aac11ecbd7ee3458eac7029"), looks := true }, kinds := [], alts := [], laidByText := true, laidKinds := [.data, .data, .data, .data, .sentinel, .sentinel, .data, .pinned], laidTests := true, laidLooks := .later }
def StoryStandsCardSaid : Prop := Claim7.holds Tryz.pinned (.plain (OpenSpec.ofChange storyStandsSpec)) storyStandsCard

/-- THE TIED CARD OF 'quayhandlaw.StoryKeys'. -/
def storyKeysCard : Claim7 := { stood := { row := storyKeysRow, standIns := [], harness := (true, "61ad6d078eb2e2f11ea963d32fdf4ac90a1f51424aac11ecbd7ee3458eac7029"), looks := true }, kinds := [], alts := [], laidByText := true, laidKinds := [.data, .data, .data, .data, .sentinel, .sentinel, .data, .pinned], laidTests := true, laidLooks := .later }
def StoryKeysCardSaid : Prop := Claim7.holds Tryz.pinned (.plain (OpenSpec.ofChange storyKeysSpec)) storyKeysCard

/-- THE TIED CARD OF 'quayhandlaw.StoryCalm'. -/
def storyCalmCard : Claim7 := { stood := { row := storyCalmRow, standIns := [], harness := (true, "61ad6d078eb2e2f11ea963d32fdf4ac90a1f51424aac11ecbd7ee3458eac7029"), looks := true }, kinds := [], alts := [], laidByText := true, laidKinds := [.data, .data, .data, .data, .sentinel, .sentinel, .data, .pinned], laidTests := true, laidLooks := .later }
def StoryCalmCardSaid : Prop := Claim7.holds Tryz.pinned (.plain (OpenSpec.ofChange storyCalmSpec)) storyCalmCard

/-- THE SECOND FORM's CARD OF 'quayhandlaw.StoryGrows'. -/
def storyGrowsUptoCard : Claim7 := { stood := { row := storyGrowsUptoRow, standIns := [], harness := (true, "61ad6d078eb2e2f11ea963d32fdf4ac90a1f51424aac11ecbd7ee3458eac7029"), looks := true }, kinds := [], alts := [], laidByText := true, laidKinds := [.data, .data, .data, .data, .sentinel, .sentinel, .data, .pinned], laidTests := true, laidLooks := .later }
def StoryGrowsUptoCardSaid : Prop := Claim7.holds Tryz.pinned (.plain (OpenSpec.upto storyGrowsSpec)) storyGrowsUptoCard

/-- THE SECOND FORM's CARD OF 'quayhandlaw.StoryOnce'. -/
def storyOnceUptoCard : Claim7 := { stood := { row := storyOnceUptoRow, standIns := [], harness := (true, "61ad6d078eb2e2f11ea963d32fdf4ac90a1f51424aac11ecbd7ee3458eac7029"), looks := true }, kinds := [], alts := [], laidByText := true, laidKinds := [.data, .data, .data, .data, .sentinel, .sentinel, .data, .pinned], laidTests := true, laidLooks := .later }
def StoryOnceUptoCardSaid : Prop := Claim7.holds Tryz.pinned (.plain (OpenSpec.upto storyOnceSpec)) storyOnceUptoCard

/-- THE SECOND FORM's CARD OF 'quayhandlaw.StoryStands'. -/
def storyStandsUptoCard : Claim7 := { stood := { row := storyStandsUptoRow, standIns := [], harness := (true, "61ad6d078eb2e2f11ea963d32fdf4ac90a1f51424aac11ecbd7ee3458eac7029"), looks := true }, kinds := [], alts := [], laidByText := true, laidKinds := [.data, .data, .data, .data, .sentinel, .sentinel, .data, .pinned], laidTests := true, laidLooks := .later }
def StoryStandsUptoCardSaid : Prop := Claim7.holds Tryz.pinned (.plain (OpenSpec.upto storyStandsSpec)) storyStandsUptoCard

/-- THE SECOND FORM's CARD OF 'quayhandlaw.StoryKeys'. -/
def storyKeysUptoCard : Claim7 := { stood := { row := storyKeysUptoRow, standIns := [], harness := (true, "61ad6d078eb2e2f11ea963d32fdf4ac90a1f51424aac11ecbd7ee3458eac7029"), looks := true }, kinds := [], alts := [], laidByText := true, laidKinds := [.data, .data, .data, .data, .sentinel, .sentinel, .data, .pinned], laidTests := true, laidLooks := .later }
def StoryKeysUptoCardSaid : Prop := Claim7.holds Tryz.pinned (.plain (OpenSpec.upto storyKeysSpec)) storyKeysUptoCard

/-- THE SECOND FORM's CARD OF 'quayhandlaw.StoryCalm'. -/
def storyCalmUptoCard : Claim7 := { stood := { row := storyCalmUptoRow, standIns := [], harness := (true, "61ad6d078eb2e2f11ea963d32fdf4ac90a1f51424aac11ecbd7ee3458eac7029"), looks := true }, kinds := [], alts := [], laidByText := true, laidKinds := [.data, .data, .data, .data, .sentinel, .sentinel, .data, .pinned], laidTests := true, laidLooks := .later }
def StoryCalmUptoCardSaid : Prop := Claim7.holds Tryz.pinned (.plain (OpenSpec.upto storyCalmSpec)) storyCalmUptoCard
end Rows
end Go.Proofs.YtabafikicbkkdaaGreatDoor
