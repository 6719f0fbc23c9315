/-
  DERIVED. GIVEN WITH THE SEED: THE CARDS: each row of YtpkbiafhnflmnaaGreatDoorRows.lean that lists a variable, with what it lists TIED to the program's text (the seventh form; the later family's looks); each row that meets fmt, with fmt's text TOLD by the authors' own Lean function (tested against real Go, not proved from fmt's source: count such statements apart). THE CARD IS WHAT COUNTS. Prove the row's statement (the work); the ties are given (YtpkbiafhnflmnaaGreatDoorTie.lean); close each card by the builder's one call (the guide's Derived/Test/ToyasCard.lean, 'card_holds'). Laid BY PROGRAM, IN A SANDBOX (cutbox-door.mjs). By AI agents, Wed Nov 11 2026. No macro, syntax, notation, axiom, sorry.
-/
import Derived.Test.YtpkbiafhnflmnaaGreatDoorRows
import GoSem.ClaimSeven
namespace Go.Proofs.YtpkbiafhnflmnaaGreatDoor
namespace Rows

/-- THE TIED CARD OF 'tollboothlaw.VenueKeeps'. -/
def venueKeepsCard : Claim7 := { stood := { row := venueKeepsRow, standIns := [], harness := (true, "282d2aec10900769c483711ccf7034c4226bb8f84f208cece23444b1ce27ece2"), looks := false }, kinds := [], alts := [], laidByText := true, laidKinds := [.data], laidTests := true, laidLooks := .later }
def VenueKeepsCardSaid : Prop := Claim7.holds Tryz.pinned (.plain (OpenSpec.ofChange venueKeepsSpec)) venueKeepsCard

/-- THE TIED CARD OF 'tollboothlaw.VenueReady'. -/
def venueReadyCard : Claim7 := { stood := { row := venueReadyRow, standIns := [], harness := (true, "282d2aec10900769c483711ccf7034c4226bb8f84f208cece23444b1ce27ece2"), looks := false }, kinds := [], alts := [], laidByText := true, laidKinds := [.data], laidTests := true, laidLooks := .later }
def VenueReadyCardSaid : Prop := Claim7.holds Tryz.pinned (.plain (OpenSpec.ofChange venueReadySpec)) venueReadyCard

/-- THE TIED CARD OF 'tollboothlaw.VenueSweeps'. -/
def venueSweepsCard : Claim7 := { stood := { row := venueSweepsRow, standIns := [], harness := (true, "282d2aec10900769c483711ccf7034c4226bb8f84f208cece23444b1ce27ece2"), looks := false }, kinds := [], alts := [], laidByText := true, laidKinds := [.data], laidTests := true, laidLooks := .later }
def VenueSweepsCardSaid : Prop := Claim7.holds Tryz.pinned (.plain (OpenSpec.ofChange venueSweepsSpec)) venueSweepsCard

/-- THE TIED CARD OF 'tollboothlaw.VenueFills'. -/
def venueFillsCard : Claim7 := { stood := { row := venueFillsRow, standIns := [], harness := (true, "282d2aec10900769c483711ccf7034c4226bb8f84f208cece23444b1ce27ece2"), looks := false }, kinds := [], alts := [], laidByText := true, laidKinds := [.data], laidTests := true, laidLooks := .later }
def VenueFillsCardSaid : Prop := Claim7.holds Tryz.pinned (.plain (OpenSpec.ofChange venueFillsSpec)) venueFillsCard

/-- THE TIED CARD OF 'tollboothlaw.VenueCancels'. -/
def venueCancelsCard : Claim7 := { stood := { row := venueCancelsRow, standIns := [], harness := (true, "282d2aec10900769c483711ccf7034c4226bb8f84f208cece23444b1ce27ece2"), looks := false }, kinds := [], alts := [], laidByText := true, laidKinds := [.data], laidTests := true, laidLooks := .later }
def VenueCancelsCardSaid : Prop := Claim7.holds Tryz.pinned (.plain (OpenSpec.ofChange venueCancelsSpec)) venueCancelsCard

/-- THE TIED CARD OF 'tollboothlaw.VenueCash'. -/
def venueCashCard : Claim7 := { stood := { row := venueCashRow, standIns := [], harness := (true, "282d2aec10900769c483711ccf7034c4226bb8f84f208cece23444b1ce27ece2"), looks := false }, kinds := [], alts := [], laidByText := true, laidKinds := [.data], laidTests := true, laidLooks := .later }
def VenueCashCardSaid : Prop := Claim7.holds Tryz.pinned (.plain (OpenSpec.ofChange venueCashSpec)) venueCashCard

/-- THE TIED CARD OF 'tollboothlaw.VenueOthers'. -/
def venueOthersCard : Claim7 := { stood := { row := venueOthersRow, standIns := [], harness := (true, "282d2aec10900769c483711ccf7034c4226bb8f84f208cece23444b1ce27ece2"), looks := false }, kinds := [], alts := [], laidByText := true, laidKinds := [.data], laidTests := true, laidLooks := .later }
def VenueOthersCardSaid : Prop := Claim7.holds Tryz.pinned (.plain (OpenSpec.ofChange venueOthersSpec)) venueOthersCard

/-- THE TIED CARD OF 'tollboothlaw.VenueParts'. -/
def venuePartsCard : Claim7 := { stood := { row := venuePartsRow, standIns := [], harness := (true, "282d2aec10900769c483711ccf7034c4226bb8f84f208cece23444b1ce27ece2"), looks := false }, kinds := [], alts := [], laidByText := true, laidKinds := [.data], laidTests := true, laidLooks := .later }
def VenuePartsCardSaid : Prop := Claim7.holds Tryz.pinned (.plain (OpenSpec.ofChange venuePartsSpec)) venuePartsCard

/-- THE SECOND FORM's CARD OF 'tollboothlaw.VenueKeeps'. -/
def venueKeepsUptoCard : Claim7 := { stood := { row := venueKeepsUptoRow, standIns := [], harness := (true, "282d2aec10900769c483711ccf7034c4226bb8f84f208cece23444b1ce27ece2"), looks := false }, kinds := [], alts := [], laidByText := true, laidKinds := [.data], laidTests := true, laidLooks := .later }
def VenueKeepsUptoCardSaid : Prop := Claim7.holds Tryz.pinned (.plain (OpenSpec.upto venueKeepsSpec)) venueKeepsUptoCard

/-- THE SECOND FORM's CARD OF 'tollboothlaw.VenueReady'. -/
def venueReadyUptoCard : Claim7 := { stood := { row := venueReadyUptoRow, standIns := [], harness := (true, "282d2aec10900769c483711ccf7034c4226bb8f84f208cece23444b1ce27ece2"), looks := false }, kinds := [], alts := [], laidByText := true, laidKinds := [.data], laidTests := true, laidLooks := .later }
def VenueReadyUptoCardSaid : Prop := Claim7.holds Tryz.pinned (.plain (OpenSpec.upto venueReadySpec)) venueReadyUptoCard

/-- THE SECOND FORM's CARD OF 'tollboothlaw.VenueSweeps'. -/
def venueSweepsUptoCard : Claim7 := { stood := { row := venueSweepsUptoRow, standIns := [], harness := (true, "282d2aec10900769c483711ccf7034c4226bb8f84f208cece23444b1ce27ece2"), looks := false }, kinds := [], alts := [], laidByText := true, laidKinds := [.data], laidTests := true, laidLooks := .later }
def VenueSweepsUptoCardSaid : Prop := Claim7.holds Tryz.pinned (.plain (OpenSpec.upto venueSweepsSpec)) venueSweepsUptoCard

/-- THE SECOND FORM's CARD OF 'tollboothlaw.VenueFills'. -/
def venueFillsUptoCard : Claim7 := { stood := { row := venueFillsUptoRow, standIns := [], harness := (true, "282d2aec10900769c483711ccf7034c4226bb8f84f208cece23444b1ce27ece2"), looks := false }, kinds := [], alts := [], laidByText := true, laidKinds := [.data], laidTests := true, laidLooks := .later }
def VenueFillsUptoCardSaid : Prop := Claim7.holds Tryz.pinned (.plain (OpenSpec.upto venueFillsSpec)) venueFillsUptoCard

/-- THE SECOND FORM's CARD OF 'tollboothlaw.VenueCancels'. -/
def venueCancelsUptoCard : Claim7 := { stood := { row := venueCancelsUptoRow, standIns := [], harness := (true, "282d2aec10900769c483711ccf7034c4226bb8f84f208cece23444b1ce27ece2"), looks := false }, kinds := [], alts := [], laidByText := true, laidKinds := [.data], laidTests := true, laidLooks := .later }
def VenueCancelsUptoCardSaid : Prop := Claim7.holds Tryz.pinned (.plain (OpenSpec.upto venueCancelsSpec)) venueCancelsUptoCard

/-- THE SECOND FORM's CARD OF 'tollboothlaw.VenueCash'. -/
def venueCashUptoCard : Claim7 := { stood := { row := venueCashUptoRow, standIns := [], harness := (true, "282d2aec10900769c483711ccf7034c4226bb8f84f208cece23444b1ce27ece2"), looks := false }, kinds := [], alts := [], laidByText := true, laidKinds := [.data], laidTests := true, laidLooks := .later }
def VenueCashUptoCardSaid : Prop := Claim7.holds Tryz.pinned (.plain (OpenSpec.upto venueCashSpec)) venueCashUptoCard

/-- THE SECOND FORM's CARD OF 'tollboothlaw.VenueOthers'. -/
def venueOthersUptoCard : Claim7 := { stood := { row := venueOthersUptoRow, standIns := [], harness := (true, "282d2aec10900769c483711ccf7034c4226bb8f84f208cece23444b1ce27ece2"), looks := false }, kinds := [], alts := [], laidByText := true, laidKinds := [.data], laidTests := true, laidLooks := .later }
def VenueOthersUptoCardSaid : Prop := Claim7.holds Tryz.pinned (.plain (OpenSpec.upto venueOthersSpec)) venueOthersUptoCard

/-- THE SECOND FORM's CARD OF 'tollboothlaw.VenueParts'. -/
def venuePartsUptoCard : Claim7 := { stood := { row := venuePartsUptoRow, standIns := [], harness := (true, "282d2aec10900769c483711ccf7034c4226bb8f84f208cece23444b1ce27ece2"), looks := false }, kinds := [], alts := [], laidByText := true, laidKinds := [.data], laidTests := true, laidLooks := .later }
def VenuePartsUptoCardSaid : Prop := Claim7.holds Tryz.pinned (.plain (OpenSpec.upto venuePartsSpec)) venuePartsUptoCard
end Rows
end Go.Proofs.YtpkbiafhnflmnaaGreatDoor
