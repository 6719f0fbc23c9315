/-
  DERIVED. GIVEN WITH THE SEED: THE CARDS: each row of YthdjfhnhjiageaaGreatDoorRows.lean that lists a variable, with what it lists TIED to the program's text (the seventh form; the later family's looks); each row that meets fmt, with fmt's text TOLD by the authors' own Lean function (tested against real Go, not proved from fmt's source: count such statements apart). THE CARD IS WHAT COUNTS. Prove the row's statement (the work); the ties are given (YthdjfhnhjiageaaGreatDoorTie.lean); close each card by the builder's one call (the guide's Derived/Test/ToyasCard.lean, 'card_holds'). Laid BY PROGRAM, IN A SANDBOX (cutbox-door.mjs). By AI agents, Wed Nov 11 2026. No macro, syntax, notation, axiom, sorry.
-/
import Derived.Test.YthdjfhnhjiageaaGreatDoorRows
import GoSem.ClaimSeven
namespace Go.Proofs.YthdjfhnhjiageaaGreatDoor
namespace Rows

/-- THE TIED CARD OF 'tollboothlaw.JournalSays'. -/
def journalSaysCard : Claim7 := { stood := { row := journalSaysRow, standIns := [], harness := (true, "a63705e51ae13f29223b5c8cbacd9d95339c594cee14a4d3310f58db25f7c3fa"), looks := true }, kinds := [], alts := [], laidByText := true, laidKinds := [.data, .data, .data, .data, .sentinel, .sentinel, .listed, .data, .pinned], laidTests := true, laidLooks := .later }
def JournalSaysCardSaid : Prop := Claim7.holds Tryz.pinned (.plain (OpenSpec.ofChange journalSaysSpec)) journalSaysCard

/-- THE TIED CARD OF 'tollboothlaw.JournalHolds'. -/
def journalHoldsCard : Claim7 := { stood := { row := journalHoldsRow, standIns := [], harness := (true, "a63705e51ae13f29223b5c8cbacd9d95339c594cee14a4d3310f58db25f7c3fa"), looks := true }, kinds := [], alts := [], laidByText := true, laidKinds := [.data, .data, .data, .data, .sentinel, .sentinel, .data, .pinned], laidTests := true, laidLooks := .later }
def JournalHoldsCardSaid : Prop := Claim7.holds Tryz.pinned (.plain (OpenSpec.ofChange journalHoldsSpec)) journalHoldsCard

/-- THE SECOND FORM's CARD OF 'tollboothlaw.JournalSays'. -/
def journalSaysUptoCard : Claim7 := { stood := { row := journalSaysUptoRow, standIns := [], harness := (true, "a63705e51ae13f29223b5c8cbacd9d95339c594cee14a4d3310f58db25f7c3fa"), looks := true }, kinds := [], alts := [], laidByText := true, laidKinds := [.data, .data, .data, .data, .sentinel, .sentinel, .listed, .data, .pinned], laidTests := true, laidLooks := .later }
def JournalSaysUptoCardSaid : Prop := Claim7.holds Tryz.pinned (.plain (OpenSpec.upto journalSaysSpec)) journalSaysUptoCard

/-- THE SECOND FORM's CARD OF 'tollboothlaw.JournalHolds'. -/
def journalHoldsUptoCard : Claim7 := { stood := { row := journalHoldsUptoRow, standIns := [], harness := (true, "a63705e51ae13f29223b5c8cbacd9d95339c594cee14a4d3310f58db25f7c3fa"), looks := true }, kinds := [], alts := [], laidByText := true, laidKinds := [.data, .data, .data, .data, .sentinel, .sentinel, .data, .pinned], laidTests := true, laidLooks := .later }
def JournalHoldsUptoCardSaid : Prop := Claim7.holds Tryz.pinned (.plain (OpenSpec.upto journalHoldsSpec)) journalHoldsUptoCard
end Rows
end Go.Proofs.YthdjfhnhjiageaaGreatDoor
