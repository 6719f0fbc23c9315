/-
  NARROWER THAN 'FOR EVERY INPUT', by the rows' own cells (each row's printed sentence says how): RiskSays: laid · RiskHolds: laid · AccountFlat: laid · RiskGrows: laid.
  DERIVED. THE GIVEN ROWS OF THIS SEAT. 4 by the template 'for every input the law returns true; each argument reads behind the call as it read before'; 0 by the template 'total and deterministic' (their statements: YtbphljnncbiddabDoorTotals.lean).
  GIVEN WITH THE SEED: the statements are not yours to turn. If you find one false, say at which input.
  Laid BY PROGRAM, IN A SANDBOX (cutbox-rows.mjs): the forced cells as the released guide's own fill.sh prints them over the translation 8c880c5d500edca0… (all of the seat's roots in one cut). By AI agents, Wed Nov 11 2026. No macro, syntax, notation, axiom, sorry.
-/
import Derived.Test.YtbphljnncbiddabDoorChecked
import GoSem.Claim
import GoSem.ClaimJoined
import GoSem.ClaimMapViews
import Derived.JoinedTies
import Derived.KernelRfl
namespace Go.Proofs.YtbphljnncbiddabDoor
/- THE CELL 'sum', in the pinned program and in every row, IS THE sha256 OF THE DUMP (.gsa) THAT YtbphljnncbiddabDoorProg.lean LOADS. Nothing in Lean hashes anything: it is a label: what it is worth is what the hold of that sum in a sandbox is worth. -/
noncomputable def Tryd.pinned : Pinned := { name := "ytbphljnncbiddabdoor", sum := "8c880c5d500edca0ae0ac901b55a6b2237b6dbf425a7b73131204f93618aadbf", checked := Tryd.checked }
namespace Rows
def none {H : Type} : Left H := { results := [], args := [] }

/- WHAT THE LISTED PACKAGE-LEVEL VARIABLES READ AS WHEN THE CALL BEGINS. Each datum BY PROGRAM (the guide's laid-datum.mjs) off the statement by which the dump's own 'gosem.cut.vars' lays the variable. In a bare row this is a premise. The card (YtbphljnncbiddabDoorCards.lean) ties it to the program's text. -/
def laid_tollbooth_risk_tiers {H : Type} : DataW H := .agg [.agg [.lit (.int .i64 0), .lit (.int .i64 10), .lit (.int .i64 5)], .agg [.lit (.int .i64 100000), .lit (.int .i64 20), .lit (.int .i64 10)], .agg [.lit (.int .i64 1000000), .lit (.int .i64 50), .lit (.int .i64 25)]]

/-- 'tollboothlaw.RiskSays': WHATEVER THE INPUT: true; the input reads as it did. -/
def riskSaysSpec : ChangeSpec := { name := "riskSays", fn := fun _ => fun
  | [d1, d2, d3, d4] => { results := [.lit (.bool true)], args := [d1, d2, d3, d4] }
  | _ => none }
def riskSaysRow : OpenClaim := { program := "ytbphljnncbiddabdoor", sum := "8c880c5d500edca0ae0ac901b55a6b2237b6dbf425a7b73131204f93618aadbf", func := "tollbooth/tollboothlaw.RiskSays", spec := "riskSays", unfollowed := true, recurses := true, named := ["tollbooth/risk.tiers"], apart := false, laid := [("tollbooth/risk.tiers", laid_tollbooth_risk_tiers)] }
def RiskSaysSaid : Prop := riskSaysRow.holds Tryd.pinned (OpenSpec.ofChange riskSaysSpec)

/-- ITS FALSE NEIGHBOUR: 'it returns false'. Refute it at one input. -/
def riskSaysWrong : ChangeSpec := { name := "riskSays", fn := fun _ => fun
  | [d1, d2, d3, d4] => { results := [.lit (.bool false)], args := [d1, d2, d3, d4] }
  | _ => none }
def RiskSaysWrongFalsely : Prop := riskSaysRow.holds Tryd.pinned (OpenSpec.ofChange riskSaysWrong)

/-- 'tollboothlaw.RiskHolds': WHATEVER THE INPUT: true; the input reads as it did. -/
def riskHoldsSpec : ChangeSpec := { name := "riskHolds", fn := fun _ => fun
  | [d1, d2, d3, d4] => { results := [.lit (.bool true)], args := [d1, d2, d3, d4] }
  | _ => none }
def riskHoldsRow : OpenClaim := { program := "ytbphljnncbiddabdoor", sum := "8c880c5d500edca0ae0ac901b55a6b2237b6dbf425a7b73131204f93618aadbf", func := "tollbooth/tollboothlaw.RiskHolds", spec := "riskHolds", unfollowed := true, recurses := true, named := ["tollbooth/risk.tiers"], apart := false, laid := [("tollbooth/risk.tiers", laid_tollbooth_risk_tiers)] }
def RiskHoldsSaid : Prop := riskHoldsRow.holds Tryd.pinned (OpenSpec.ofChange riskHoldsSpec)

/-- ITS FALSE NEIGHBOUR: 'it returns false'. Refute it at one input. -/
def riskHoldsWrong : ChangeSpec := { name := "riskHolds", fn := fun _ => fun
  | [d1, d2, d3, d4] => { results := [.lit (.bool false)], args := [d1, d2, d3, d4] }
  | _ => none }
def RiskHoldsWrongFalsely : Prop := riskHoldsRow.holds Tryd.pinned (OpenSpec.ofChange riskHoldsWrong)

/-- 'tollboothlaw.AccountFlat': WHATEVER THE INPUT: true; the input reads as it did. -/
def accountFlatSpec : ChangeSpec := { name := "accountFlat", fn := fun _ => fun
  | [d1, d2, d3] => { results := [.lit (.bool true)], args := [d1, d2, d3] }
  | _ => none }
def accountFlatRow : OpenClaim := { program := "ytbphljnncbiddabdoor", sum := "8c880c5d500edca0ae0ac901b55a6b2237b6dbf425a7b73131204f93618aadbf", func := "tollbooth/tollboothlaw.AccountFlat", spec := "accountFlat", unfollowed := true, recurses := true, named := ["tollbooth/risk.tiers"], apart := false, laid := [("tollbooth/risk.tiers", laid_tollbooth_risk_tiers)] }
def AccountFlatSaid : Prop := accountFlatRow.holds Tryd.pinned (OpenSpec.ofChange accountFlatSpec)

/-- ITS FALSE NEIGHBOUR: 'it returns false'. Refute it at one input. -/
def accountFlatWrong : ChangeSpec := { name := "accountFlat", fn := fun _ => fun
  | [d1, d2, d3] => { results := [.lit (.bool false)], args := [d1, d2, d3] }
  | _ => none }
def AccountFlatWrongFalsely : Prop := accountFlatRow.holds Tryd.pinned (OpenSpec.ofChange accountFlatWrong)

/-- 'tollboothlaw.RiskGrows': WHATEVER THE INPUT: true; the input reads as it did. -/
def riskGrowsSpec : ChangeSpec := { name := "riskGrows", fn := fun _ => fun
  | [d1, d2, d3, d4] => { results := [.lit (.bool true)], args := [d1, d2, d3, d4] }
  | _ => none }
def riskGrowsRow : OpenClaim := { program := "ytbphljnncbiddabdoor", sum := "8c880c5d500edca0ae0ac901b55a6b2237b6dbf425a7b73131204f93618aadbf", func := "tollbooth/tollboothlaw.RiskGrows", spec := "riskGrows", unfollowed := true, recurses := true, named := ["tollbooth/risk.tiers"], apart := false, laid := [("tollbooth/risk.tiers", laid_tollbooth_risk_tiers)] }
def RiskGrowsSaid : Prop := riskGrowsRow.holds Tryd.pinned (OpenSpec.ofChange riskGrowsSpec)

/-- ITS FALSE NEIGHBOUR: 'it returns false'. Refute it at one input. -/
def riskGrowsWrong : ChangeSpec := { name := "riskGrows", fn := fun _ => fun
  | [d1, d2, d3, d4] => { results := [.lit (.bool false)], args := [d1, d2, d3, d4] }
  | _ => none }
def RiskGrowsWrongFalsely : Prop := riskGrowsRow.holds Tryd.pinned (OpenSpec.ofChange riskGrowsWrong)

/- THE SECOND FORM. 'bulk': how many values and letters a reading holds, each counted each time it is reached (what is shared counts as often as it is met; a slice's spare places count too). A statement '..UptoSaid' is the law's where the arguments, and the package variables that the reading takes, are together of bulk at most 1048576: NARROWER than '..Said'. Prove '..Said' where nothing that the law and all that it calls make is longer than what came in: it says more and counts as full. Else prove '..UptoSaid'. A law counts once. -/
mutual
def uptoBulk {H : Type} : DataW H → Nat
  | .lit (.string bytes) => bytes.length + 1
  | .lit _ => 1
  | .nil => 1
  | .ptr d => uptoBulk d + 1
  | .slice elems spare => uptoBulkAll elems + uptoBulkAll spare + 1
  | .agg parts => uptoBulkAll parts + 1
  | .iface _ d => uptoBulk d + 1
  | .map entries => uptoBulkEntries entries + 1
  | .held _ => 1
def uptoBulkAll {H : Type} : List (DataW H) → Nat
  | [] => 0
  | d :: r => uptoBulk d + uptoBulkAll r
def uptoBulkEntries {H : Type} : List (Lit × DataW H) → Nat
  | [] => 0
  | x :: r => uptoBulkEntry x + uptoBulkEntries r
def uptoBulkEntry {H : Type} : Lit × DataW H → Nat
  | (.string bytes, d) => bytes.length + uptoBulk d + 1
  | (_, d) => uptoBulk d + 1
 end
def uptoSmall : (H : Type) → List (DataW H) → Bool := fun _ ds => decide (uptoBulkAll ds ≤ 1048576)
def OpenSpec.upto (s : _root_.Go.ChangeSpec) : _root_.Go.OpenSpec := { _root_.Go.OpenSpec.ofChange s with cond := some uptoSmall }

/-- 'tollboothlaw.RiskSays', WHERE WHAT IT READS IS OF BULK AT MOST 1048576: true; the input reads as it did. -/
def riskSaysUptoRow : OpenClaim := { program := "ytbphljnncbiddabdoor", sum := "8c880c5d500edca0ae0ac901b55a6b2237b6dbf425a7b73131204f93618aadbf", func := "tollbooth/tollboothlaw.RiskSays", spec := "riskSays", unfollowed := true, recurses := true, named := ["tollbooth/risk.tiers"], apart := false, laid := [("tollbooth/risk.tiers", laid_tollbooth_risk_tiers)], narrowed := true }
def RiskSaysUptoSaid : Prop := riskSaysUptoRow.holds Tryd.pinned (OpenSpec.upto riskSaysSpec)

/-- 'tollboothlaw.RiskHolds', WHERE WHAT IT READS IS OF BULK AT MOST 1048576: true; the input reads as it did. -/
def riskHoldsUptoRow : OpenClaim := { program := "ytbphljnncbiddabdoor", sum := "8c880c5d500edca0ae0ac901b55a6b2237b6dbf425a7b73131204f93618aadbf", func := "tollbooth/tollboothlaw.RiskHolds", spec := "riskHolds", unfollowed := true, recurses := true, named := ["tollbooth/risk.tiers"], apart := false, laid := [("tollbooth/risk.tiers", laid_tollbooth_risk_tiers)], narrowed := true }
def RiskHoldsUptoSaid : Prop := riskHoldsUptoRow.holds Tryd.pinned (OpenSpec.upto riskHoldsSpec)

/-- 'tollboothlaw.AccountFlat', WHERE WHAT IT READS IS OF BULK AT MOST 1048576: true; the input reads as it did. -/
def accountFlatUptoRow : OpenClaim := { program := "ytbphljnncbiddabdoor", sum := "8c880c5d500edca0ae0ac901b55a6b2237b6dbf425a7b73131204f93618aadbf", func := "tollbooth/tollboothlaw.AccountFlat", spec := "accountFlat", unfollowed := true, recurses := true, named := ["tollbooth/risk.tiers"], apart := false, laid := [("tollbooth/risk.tiers", laid_tollbooth_risk_tiers)], narrowed := true }
def AccountFlatUptoSaid : Prop := accountFlatUptoRow.holds Tryd.pinned (OpenSpec.upto accountFlatSpec)

/-- 'tollboothlaw.RiskGrows', WHERE WHAT IT READS IS OF BULK AT MOST 1048576: true; the input reads as it did. -/
def riskGrowsUptoRow : OpenClaim := { program := "ytbphljnncbiddabdoor", sum := "8c880c5d500edca0ae0ac901b55a6b2237b6dbf425a7b73131204f93618aadbf", func := "tollbooth/tollboothlaw.RiskGrows", spec := "riskGrows", unfollowed := true, recurses := true, named := ["tollbooth/risk.tiers"], apart := false, laid := [("tollbooth/risk.tiers", laid_tollbooth_risk_tiers)], narrowed := true }
def RiskGrowsUptoSaid : Prop := riskGrowsUptoRow.holds Tryd.pinned (OpenSpec.upto riskGrowsSpec)

end Rows
end Go.Proofs.YtbphljnncbiddabDoor
