/-
  DERIVED. GIVEN WITH THE SEED: THE CARDS: each row of YtbphljnncbiddabDoorRows.lean that lists a variable, with what it lists TIED to the program's text (the seventh form; the later family's looks); each row that meets fmt, with fmt's text TOLD by the authors' own Lean function (tested against real Go, not proved from fmt's source: count such statements apart). THE CARD IS WHAT COUNTS. Prove the row's statement (the work); the ties are given (YtbphljnncbiddabDoorTie.lean); close each card by the builder's one call (the guide's Derived/Test/ToyasCard.lean, 'card_holds'). Laid BY PROGRAM, IN A SANDBOX (cutbox-door.mjs). By AI agents, Wed Nov 11 2026. No macro, syntax, notation, axiom, sorry.
-/
import Derived.Test.YtbphljnncbiddabDoorRows
import GoSem.ClaimSeven
namespace Go.Proofs.YtbphljnncbiddabDoor
namespace Rows

/-- THE TIED CARD OF 'tollboothlaw.RiskSays'. -/
def riskSaysCard : Claim7 := { stood := { row := riskSaysRow, standIns := [], harness := (true, "14c84248da602bb864758dcd6296f1a0338f0c5577cb747da030a31d8222cbdd"), looks := false }, kinds := [], alts := [], laidByText := true, laidKinds := [.data], laidTests := true, laidLooks := .later }
def RiskSaysCardSaid : Prop := Claim7.holds Tryd.pinned (.plain (OpenSpec.ofChange riskSaysSpec)) riskSaysCard

/-- THE TIED CARD OF 'tollboothlaw.RiskHolds'. -/
def riskHoldsCard : Claim7 := { stood := { row := riskHoldsRow, standIns := [], harness := (true, "14c84248da602bb864758dcd6296f1a0338f0c5577cb747da030a31d8222cbdd"), looks := false }, kinds := [], alts := [], laidByText := true, laidKinds := [.data], laidTests := true, laidLooks := .later }
def RiskHoldsCardSaid : Prop := Claim7.holds Tryd.pinned (.plain (OpenSpec.ofChange riskHoldsSpec)) riskHoldsCard

/-- THE TIED CARD OF 'tollboothlaw.AccountFlat'. -/
def accountFlatCard : Claim7 := { stood := { row := accountFlatRow, standIns := [], harness := (true, "14c84248da602bb864758dcd6296f1a0338f0c5577cb747da030a31d8222cbdd"), looks := false }, kinds := [], alts := [], laidByText := true, laidKinds := [.data], laidTests := true, laidLooks := .later }
def AccountFlatCardSaid : Prop := Claim7.holds Tryd.pinned (.plain (OpenSpec.ofChange accountFlatSpec)) accountFlatCard

/-- THE TIED CARD OF 'tollboothlaw.RiskGrows'. -/
def riskGrowsCard : Claim7 := { stood := { row := riskGrowsRow, standIns := [], harness := (true, "14c84248da602bb864758dcd6296f1a0338f0c5577cb747da030a31d8222cbdd"), looks := false }, kinds := [], alts := [], laidByText := true, laidKinds := [.data], laidTests := true, laidLooks := .later }
def RiskGrowsCardSaid : Prop := Claim7.holds Tryd.pinned (.plain (OpenSpec.ofChange riskGrowsSpec)) riskGrowsCard

/-- THE SECOND FORM's CARD OF 'tollboothlaw.RiskSays'. -/
def riskSaysUptoCard : Claim7 := { stood := { row := riskSaysUptoRow, standIns := [], harness := (true, "14c84248da602bb864758dcd6296f1a0338f0c5577cb747da030a31d8222cbdd"), looks := false }, kinds := [], alts := [], laidByText := true, laidKinds := [.data], laidTests := true, laidLooks := .later }
def RiskSaysUptoCardSaid : Prop := Claim7.holds Tryd.pinned (.plain (OpenSpec.upto riskSaysSpec)) riskSaysUptoCard

/-- THE SECOND FORM's CARD OF 'tollboothlaw.RiskHolds'. -/
def riskHoldsUptoCard : Claim7 := { stood := { row := riskHoldsUptoRow, standIns := [], harness := (true, "14c84248da602bb864758dcd6296f1a0338f0c5577cb747da030a31d8222cbdd"), looks := false }, kinds := [], alts := [], laidByText := true, laidKinds := [.data], laidTests := true, laidLooks := .later }
def RiskHoldsUptoCardSaid : Prop := Claim7.holds Tryd.pinned (.plain (OpenSpec.upto riskHoldsSpec)) riskHoldsUptoCard

/-- THE SECOND FORM's CARD OF 'tollboothlaw.AccountFlat'. -/
def accountFlatUptoCard : Claim7 := { stood := { row := accountFlatUptoRow, standIns := [], harness := (true, "14c84248da602bb864758dcd6296f1a0338f0c5577cb747da030a31d8222cbdd"), looks := false }, kinds := [], alts := [], laidByText := true, laidKinds := [.data], laidTests := true, laidLooks := .later }
def AccountFlatUptoCardSaid : Prop := Claim7.holds Tryd.pinned (.plain (OpenSpec.upto accountFlatSpec)) accountFlatUptoCard

/-- THE SECOND FORM's CARD OF 'tollboothlaw.RiskGrows'. -/
def riskGrowsUptoCard : Claim7 := { stood := { row := riskGrowsUptoRow, standIns := [], harness := (true, "14c84248da602bb864758dcd6296f1a0338f0c5577cb747da030a31d8222cbdd"), looks := false }, kinds := [], alts := [], laidByText := true, laidKinds := [.data], laidTests := true, laidLooks := .later }
def RiskGrowsUptoCardSaid : Prop := Claim7.holds Tryd.pinned (.plain (OpenSpec.upto riskGrowsSpec)) riskGrowsUptoCard
end Rows
end Go.Proofs.YtbphljnncbiddabDoor
