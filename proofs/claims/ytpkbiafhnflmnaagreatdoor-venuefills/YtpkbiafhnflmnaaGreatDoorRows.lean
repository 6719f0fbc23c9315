/-
  NARROWER THAN 'FOR EVERY INPUT', by the rows' own cells (each row's printed sentence says how): VenueKeeps: laid · VenueReady: laid · VenueSweeps: laid · VenueFills: laid · VenueCancels: laid · VenueCash: laid · VenueOthers: laid · VenueParts: laid.
  DERIVED. THE GIVEN ROWS OF THIS SEAT. 8 by the template 'for every input the law returns true; each argument reads behind the call as it read before'; 0 by the template 'total and deterministic' (their statements: YtpkbiafhnflmnaaGreatDoorTotals.lean).
  GIVEN WITH THE SEED: the statements are not yours to turn. If you find one false, say at which input.
  Laid BY PROGRAM, IN A SANDBOX (cutbox-rows.mjs): the forced cells as the released guide's own fill.sh prints them over the translation a33f1ce3cc41b402… (all of the seat's roots in one cut). By AI agents, Wed Nov 11 2026. No macro, syntax, notation, axiom, sorry.
-/
import Derived.Test.YtpkbiafhnflmnaaGreatDoorChecked
import GoSem.Claim
import GoSem.ClaimJoined
import GoSem.ClaimMapViews
import Derived.JoinedTies
import Derived.KernelRfl
namespace Go.Proofs.YtpkbiafhnflmnaaGreatDoor
/- THE CELL 'sum', in the pinned program and in every row, IS THE sha256 OF THE DUMP (.gsa) THAT YtpkbiafhnflmnaaGreatDoorProg.lean LOADS. Nothing in Lean hashes anything: it is a label: what it is worth is what the hold of that sum in a sandbox is worth. -/
noncomputable def Tryz.pinned : Pinned := { name := "ytpkbiafhnflmnaagreatdoor", sum := "a33f1ce3cc41b402946d7b29b8b41c21c469e2417d870a6d24f0f21d8869a0c1", checked := Tryz.checked }
namespace Rows
def none {H : Type} : Left H := { results := [], args := [] }

/- WHAT THE LISTED PACKAGE-LEVEL VARIABLES READ AS WHEN THE CALL BEGINS. Each datum BY PROGRAM (the guide's laid-datum.mjs) off the statement by which the dump's own 'gosem.cut.vars' lays the variable. In a bare row this is a premise. The card (YtpkbiafhnflmnaaGreatDoorCards.lean) ties it to the program's text. -/
def laid_tollbooth_risk_tiers {H : Type} : DataW H := .agg [.agg [.lit (.int .i64 0), .lit (.int .i64 10), .lit (.int .i64 5)], .agg [.lit (.int .i64 100000), .lit (.int .i64 20), .lit (.int .i64 10)], .agg [.lit (.int .i64 1000000), .lit (.int .i64 50), .lit (.int .i64 25)]]

/-- 'tollboothlaw.VenueKeeps': WHATEVER THE INPUT: true; the input reads as it did. -/
def venueKeepsSpec : ChangeSpec := { name := "venueKeeps", fn := fun _ => fun
  | [d1, d2] => { results := [.lit (.bool true)], args := [d1, d2] }
  | _ => none }
def venueKeepsRow : OpenClaim := { program := "ytpkbiafhnflmnaagreatdoor", sum := "a33f1ce3cc41b402946d7b29b8b41c21c469e2417d870a6d24f0f21d8869a0c1", func := "tollbooth/tollboothlaw.VenueKeeps", spec := "venueKeeps", inPlace := ["slices.overlaps[tollbooth/api.Account]"], unfollowed := true, recurses := true, named := ["tollbooth/risk.tiers"], apart := false, laid := [("tollbooth/risk.tiers", laid_tollbooth_risk_tiers)] }
def VenueKeepsSaid : Prop := venueKeepsRow.holds Tryz.pinned (OpenSpec.ofChange venueKeepsSpec)

/-- ITS FALSE NEIGHBOUR: 'it returns false'. Refute it at one input. -/
def venueKeepsWrong : ChangeSpec := { name := "venueKeeps", fn := fun _ => fun
  | [d1, d2] => { results := [.lit (.bool false)], args := [d1, d2] }
  | _ => none }
def VenueKeepsWrongFalsely : Prop := venueKeepsRow.holds Tryz.pinned (OpenSpec.ofChange venueKeepsWrong)

/-- 'tollboothlaw.VenueReady': WHATEVER THE INPUT: true; the input reads as it did. -/
def venueReadySpec : ChangeSpec := { name := "venueReady", fn := fun _ => fun
  | [d1, d2] => { results := [.lit (.bool true)], args := [d1, d2] }
  | _ => none }
def venueReadyRow : OpenClaim := { program := "ytpkbiafhnflmnaagreatdoor", sum := "a33f1ce3cc41b402946d7b29b8b41c21c469e2417d870a6d24f0f21d8869a0c1", func := "tollbooth/tollboothlaw.VenueReady", spec := "venueReady", inPlace := ["slices.overlaps[tollbooth/api.Account]"], unfollowed := true, recurses := true, named := ["tollbooth/risk.tiers"], apart := false, laid := [("tollbooth/risk.tiers", laid_tollbooth_risk_tiers)] }
def VenueReadySaid : Prop := venueReadyRow.holds Tryz.pinned (OpenSpec.ofChange venueReadySpec)

/-- ITS FALSE NEIGHBOUR: 'it returns false'. Refute it at one input. -/
def venueReadyWrong : ChangeSpec := { name := "venueReady", fn := fun _ => fun
  | [d1, d2] => { results := [.lit (.bool false)], args := [d1, d2] }
  | _ => none }
def VenueReadyWrongFalsely : Prop := venueReadyRow.holds Tryz.pinned (OpenSpec.ofChange venueReadyWrong)

/-- 'tollboothlaw.VenueSweeps': WHATEVER THE INPUT: true; the input reads as it did. -/
def venueSweepsSpec : ChangeSpec := { name := "venueSweeps", fn := fun _ => fun
  | [d] => { results := [.lit (.bool true)], args := [d] }
  | _ => none }
def venueSweepsRow : OpenClaim := { program := "ytpkbiafhnflmnaagreatdoor", sum := "a33f1ce3cc41b402946d7b29b8b41c21c469e2417d870a6d24f0f21d8869a0c1", func := "tollbooth/tollboothlaw.VenueSweeps", spec := "venueSweeps", inPlace := ["slices.overlaps[tollbooth/api.Account]"], unfollowed := true, recurses := true, named := ["tollbooth/risk.tiers"], apart := false, laid := [("tollbooth/risk.tiers", laid_tollbooth_risk_tiers)] }
def VenueSweepsSaid : Prop := venueSweepsRow.holds Tryz.pinned (OpenSpec.ofChange venueSweepsSpec)

/-- ITS FALSE NEIGHBOUR: 'it returns false'. Refute it at one input. -/
def venueSweepsWrong : ChangeSpec := { name := "venueSweeps", fn := fun _ => fun
  | [d] => { results := [.lit (.bool false)], args := [d] }
  | _ => none }
def VenueSweepsWrongFalsely : Prop := venueSweepsRow.holds Tryz.pinned (OpenSpec.ofChange venueSweepsWrong)

/-- 'tollboothlaw.VenueFills': WHATEVER THE INPUT: true; the input reads as it did. -/
def venueFillsSpec : ChangeSpec := { name := "venueFills", fn := fun _ => fun
  | [d1, d2] => { results := [.lit (.bool true)], args := [d1, d2] }
  | _ => none }
def venueFillsRow : OpenClaim := { program := "ytpkbiafhnflmnaagreatdoor", sum := "a33f1ce3cc41b402946d7b29b8b41c21c469e2417d870a6d24f0f21d8869a0c1", func := "tollbooth/tollboothlaw.VenueFills", spec := "venueFills", inPlace := ["slices.overlaps[tollbooth/api.Account]"], unfollowed := true, recurses := true, named := ["tollbooth/risk.tiers"], apart := false, laid := [("tollbooth/risk.tiers", laid_tollbooth_risk_tiers)] }
def VenueFillsSaid : Prop := venueFillsRow.holds Tryz.pinned (OpenSpec.ofChange venueFillsSpec)

/-- ITS FALSE NEIGHBOUR: 'it returns false'. Refute it at one input. -/
def venueFillsWrong : ChangeSpec := { name := "venueFills", fn := fun _ => fun
  | [d1, d2] => { results := [.lit (.bool false)], args := [d1, d2] }
  | _ => none }
def VenueFillsWrongFalsely : Prop := venueFillsRow.holds Tryz.pinned (OpenSpec.ofChange venueFillsWrong)

/-- 'tollboothlaw.VenueCancels': WHATEVER THE INPUT: true; the input reads as it did. -/
def venueCancelsSpec : ChangeSpec := { name := "venueCancels", fn := fun _ => fun
  | [d1, d2, d3] => { results := [.lit (.bool true)], args := [d1, d2, d3] }
  | _ => none }
def venueCancelsRow : OpenClaim := { program := "ytpkbiafhnflmnaagreatdoor", sum := "a33f1ce3cc41b402946d7b29b8b41c21c469e2417d870a6d24f0f21d8869a0c1", func := "tollbooth/tollboothlaw.VenueCancels", spec := "venueCancels", inPlace := ["slices.overlaps[tollbooth/api.Account]"], unfollowed := true, recurses := true, named := ["tollbooth/risk.tiers"], apart := false, laid := [("tollbooth/risk.tiers", laid_tollbooth_risk_tiers)] }
def VenueCancelsSaid : Prop := venueCancelsRow.holds Tryz.pinned (OpenSpec.ofChange venueCancelsSpec)

/-- ITS FALSE NEIGHBOUR: 'it returns false'. Refute it at one input. -/
def venueCancelsWrong : ChangeSpec := { name := "venueCancels", fn := fun _ => fun
  | [d1, d2, d3] => { results := [.lit (.bool false)], args := [d1, d2, d3] }
  | _ => none }
def VenueCancelsWrongFalsely : Prop := venueCancelsRow.holds Tryz.pinned (OpenSpec.ofChange venueCancelsWrong)

/-- 'tollboothlaw.VenueCash': WHATEVER THE INPUT: true; the input reads as it did. -/
def venueCashSpec : ChangeSpec := { name := "venueCash", fn := fun _ => fun
  | [d1, d2, d3] => { results := [.lit (.bool true)], args := [d1, d2, d3] }
  | _ => none }
def venueCashRow : OpenClaim := { program := "ytpkbiafhnflmnaagreatdoor", sum := "a33f1ce3cc41b402946d7b29b8b41c21c469e2417d870a6d24f0f21d8869a0c1", func := "tollbooth/tollboothlaw.VenueCash", spec := "venueCash", inPlace := ["slices.overlaps[tollbooth/api.Account]"], unfollowed := true, recurses := true, named := ["tollbooth/risk.tiers"], apart := false, laid := [("tollbooth/risk.tiers", laid_tollbooth_risk_tiers)] }
def VenueCashSaid : Prop := venueCashRow.holds Tryz.pinned (OpenSpec.ofChange venueCashSpec)

/-- ITS FALSE NEIGHBOUR: 'it returns false'. Refute it at one input. -/
def venueCashWrong : ChangeSpec := { name := "venueCash", fn := fun _ => fun
  | [d1, d2, d3] => { results := [.lit (.bool false)], args := [d1, d2, d3] }
  | _ => none }
def VenueCashWrongFalsely : Prop := venueCashRow.holds Tryz.pinned (OpenSpec.ofChange venueCashWrong)

/-- 'tollboothlaw.VenueOthers': WHATEVER THE INPUT: true; the input reads as it did. -/
def venueOthersSpec : ChangeSpec := { name := "venueOthers", fn := fun _ => fun
  | [d1, d2] => { results := [.lit (.bool true)], args := [d1, d2] }
  | _ => none }
def venueOthersRow : OpenClaim := { program := "ytpkbiafhnflmnaagreatdoor", sum := "a33f1ce3cc41b402946d7b29b8b41c21c469e2417d870a6d24f0f21d8869a0c1", func := "tollbooth/tollboothlaw.VenueOthers", spec := "venueOthers", inPlace := ["slices.overlaps[tollbooth/api.Account]"], unfollowed := true, recurses := true, named := ["tollbooth/risk.tiers"], apart := false, laid := [("tollbooth/risk.tiers", laid_tollbooth_risk_tiers)] }
def VenueOthersSaid : Prop := venueOthersRow.holds Tryz.pinned (OpenSpec.ofChange venueOthersSpec)

/-- ITS FALSE NEIGHBOUR: 'it returns false'. Refute it at one input. -/
def venueOthersWrong : ChangeSpec := { name := "venueOthers", fn := fun _ => fun
  | [d1, d2] => { results := [.lit (.bool false)], args := [d1, d2] }
  | _ => none }
def VenueOthersWrongFalsely : Prop := venueOthersRow.holds Tryz.pinned (OpenSpec.ofChange venueOthersWrong)

/-- 'tollboothlaw.VenueParts': WHATEVER THE INPUT: true; the input reads as it did. -/
def venuePartsSpec : ChangeSpec := { name := "venueParts", fn := fun _ => fun
  | [d1, d2, d3] => { results := [.lit (.bool true)], args := [d1, d2, d3] }
  | _ => none }
def venuePartsRow : OpenClaim := { program := "ytpkbiafhnflmnaagreatdoor", sum := "a33f1ce3cc41b402946d7b29b8b41c21c469e2417d870a6d24f0f21d8869a0c1", func := "tollbooth/tollboothlaw.VenueParts", spec := "venueParts", inPlace := ["slices.overlaps[tollbooth/api.Account]"], unfollowed := true, recurses := true, named := ["tollbooth/risk.tiers"], apart := false, laid := [("tollbooth/risk.tiers", laid_tollbooth_risk_tiers)] }
def VenuePartsSaid : Prop := venuePartsRow.holds Tryz.pinned (OpenSpec.ofChange venuePartsSpec)

/-- ITS FALSE NEIGHBOUR: 'it returns false'. Refute it at one input. -/
def venuePartsWrong : ChangeSpec := { name := "venueParts", fn := fun _ => fun
  | [d1, d2, d3] => { results := [.lit (.bool false)], args := [d1, d2, d3] }
  | _ => none }
def VenuePartsWrongFalsely : Prop := venuePartsRow.holds Tryz.pinned (OpenSpec.ofChange venuePartsWrong)

/- THE SECOND FORM. 'bulk': how many values and letters a reading holds, each counted each time it is reached (what is shared counts as often as it is met; a slice's spare places count too). A statement '..UptoSaid' is the law's where the arguments, and the package variables that the reading takes, are together of bulk at most 1048576: NARROWER than '..Said'. Prove '..Said' where nothing that the law and all that it calls make is longer than what came in: it says more and counts as full. Else prove '..UptoSaid'. A law counts once. -/
mutual
def uptoBulk {H : Type} : DataW H → Nat
  | .lit (.string bytes) => bytes.length + 1
  | .lit _ => 1
  | .nil => 1
  | .ptr d => uptoBulk d + 1
  | .slice elems spare => uptoBulkAll elems + uptoBulkAll spare + 1
  | .agg parts => uptoBulkAll parts + 1
  | .iface _ d => uptoBulk d + 1
  | .map entries => uptoBulkEntries entries + 1
  | .held _ => 1
def uptoBulkAll {H : Type} : List (DataW H) → Nat
  | [] => 0
  | d :: r => uptoBulk d + uptoBulkAll r
def uptoBulkEntries {H : Type} : List (Lit × DataW H) → Nat
  | [] => 0
  | x :: r => uptoBulkEntry x + uptoBulkEntries r
def uptoBulkEntry {H : Type} : Lit × DataW H → Nat
  | (.string bytes, d) => bytes.length + uptoBulk d + 1
  | (_, d) => uptoBulk d + 1
 end
def uptoSmall : (H : Type) → List (DataW H) → Bool := fun _ ds => decide (uptoBulkAll ds ≤ 1048576)
def OpenSpec.upto (s : _root_.Go.ChangeSpec) : _root_.Go.OpenSpec := { _root_.Go.OpenSpec.ofChange s with cond := some uptoSmall }

/-- 'tollboothlaw.VenueKeeps', WHERE WHAT IT READS IS OF BULK AT MOST 1048576: true; the input reads as it did. -/
def venueKeepsUptoRow : OpenClaim := { program := "ytpkbiafhnflmnaagreatdoor", sum := "a33f1ce3cc41b402946d7b29b8b41c21c469e2417d870a6d24f0f21d8869a0c1", func := "tollbooth/tollboothlaw.VenueKeeps", spec := "venueKeeps", inPlace := ["slices.overlaps[tollbooth/api.Account]"], unfollowed := true, recurses := true, named := ["tollbooth/risk.tiers"], apart := false, laid := [("tollbooth/risk.tiers", laid_tollbooth_risk_tiers)], narrowed := true }
def VenueKeepsUptoSaid : Prop := venueKeepsUptoRow.holds Tryz.pinned (OpenSpec.upto venueKeepsSpec)

/-- 'tollboothlaw.VenueReady', WHERE WHAT IT READS IS OF BULK AT MOST 1048576: true; the input reads as it did. -/
def venueReadyUptoRow : OpenClaim := { program := "ytpkbiafhnflmnaagreatdoor", sum := "a33f1ce3cc41b402946d7b29b8b41c21c469e2417d870a6d24f0f21d8869a0c1", func := "tollbooth/tollboothlaw.VenueReady", spec := "venueReady", inPlace := ["slices.overlaps[tollbooth/api.Account]"], unfollowed := true, recurses := true, named := ["tollbooth/risk.tiers"], apart := false, laid := [("tollbooth/risk.tiers", laid_tollbooth_risk_tiers)], narrowed := true }
def VenueReadyUptoSaid : Prop := venueReadyUptoRow.holds Tryz.pinned (OpenSpec.upto venueReadySpec)

/-- 'tollboothlaw.VenueSweeps', WHERE WHAT IT READS IS OF BULK AT MOST 1048576: true; the input reads as it did. -/
def venueSweepsUptoRow : OpenClaim := { program := "ytpkbiafhnflmnaagreatdoor", sum := "a33f1ce3cc41b402946d7b29b8b41c21c469e2417d870a6d24f0f21d8869a0c1", func := "tollbooth/tollboothlaw.VenueSweeps", spec := "venueSweeps", inPlace := ["slices.overlaps[tollbooth/api.Account]"], unfollowed := true, recurses := true, named := ["tollbooth/risk.tiers"], apart := false, laid := [("tollbooth/risk.tiers", laid_tollbooth_risk_tiers)], narrowed := true }
def VenueSweepsUptoSaid : Prop := venueSweepsUptoRow.holds Tryz.pinned (OpenSpec.upto venueSweepsSpec)

/-- 'tollboothlaw.VenueFills', WHERE WHAT IT READS IS OF BULK AT MOST 1048576: true; the input reads as it did. -/
def venueFillsUptoRow : OpenClaim := { program := "ytpkbiafhnflmnaagreatdoor", sum := "a33f1ce3cc41b402946d7b29b8b41c21c469e2417d870a6d24f0f21d8869a0c1", func := "tollbooth/tollboothlaw.VenueFills", spec := "venueFills", inPlace := ["slices.overlaps[tollbooth/api.Account]"], unfollowed := true, recurses := true, named := ["tollbooth/risk.tiers"], apart := false, laid := [("tollbooth/risk.tiers", laid_tollbooth_risk_tiers)], narrowed := true }
def VenueFillsUptoSaid : Prop := venueFillsUptoRow.holds Tryz.pinned (OpenSpec.upto venueFillsSpec)

/-- 'tollboothlaw.VenueCancels', WHERE WHAT IT READS IS OF BULK AT MOST 1048576: true; the input reads as it did. -/
def venueCancelsUptoRow : OpenClaim := { program := "ytpkbiafhnflmnaagreatdoor", sum := "a33f1ce3cc41b402946d7b29b8b41c21c469e2417d870a6d24f0f21d8869a0c1", func := "tollbooth/tollboothlaw.VenueCancels", spec := "venueCancels", inPlace := ["slices.overlaps[tollbooth/api.Account]"], unfollowed := true, recurses := true, named := ["tollbooth/risk.tiers"], apart := false, laid := [("tollbooth/risk.tiers", laid_tollbooth_risk_tiers)], narrowed := true }
def VenueCancelsUptoSaid : Prop := venueCancelsUptoRow.holds Tryz.pinned (OpenSpec.upto venueCancelsSpec)

/-- 'tollboothlaw.VenueCash', WHERE WHAT IT READS IS OF BULK AT MOST 1048576: true; the input reads as it did. -/
def venueCashUptoRow : OpenClaim := { program := "ytpkbiafhnflmnaagreatdoor", sum := "a33f1ce3cc41b402946d7b29b8b41c21c469e2417d870a6d24f0f21d8869a0c1", func := "tollbooth/tollboothlaw.VenueCash", spec := "venueCash", inPlace := ["slices.overlaps[tollbooth/api.Account]"], unfollowed := true, recurses := true, named := ["tollbooth/risk.tiers"], apart := false, laid := [("tollbooth/risk.tiers", laid_tollbooth_risk_tiers)], narrowed := true }
def VenueCashUptoSaid : Prop := venueCashUptoRow.holds Tryz.pinned (OpenSpec.upto venueCashSpec)

/-- 'tollboothlaw.VenueOthers', WHERE WHAT IT READS IS OF BULK AT MOST 1048576: true; the input reads as it did. -/
def venueOthersUptoRow : OpenClaim := { program := "ytpkbiafhnflmnaagreatdoor", sum := "a33f1ce3cc41b402946d7b29b8b41c21c469e2417d870a6d24f0f21d8869a0c1", func := "tollbooth/tollboothlaw.VenueOthers", spec := "venueOthers", inPlace := ["slices.overlaps[tollbooth/api.Account]"], unfollowed := true, recurses := true, named := ["tollbooth/risk.tiers"], apart := false, laid := [("tollbooth/risk.tiers", laid_tollbooth_risk_tiers)], narrowed := true }
def VenueOthersUptoSaid : Prop := venueOthersUptoRow.holds Tryz.pinned (OpenSpec.upto venueOthersSpec)

/-- 'tollboothlaw.VenueParts', WHERE WHAT IT READS IS OF BULK AT MOST 1048576: true; the input reads as it did. -/
def venuePartsUptoRow : OpenClaim := { program := "ytpkbiafhnflmnaagreatdoor", sum := "a33f1ce3cc41b402946d7b29b8b41c21c469e2417d870a6d24f0f21d8869a0c1", func := "tollbooth/tollboothlaw.VenueParts", spec := "venueParts", inPlace := ["slices.overlaps[tollbooth/api.Account]"], unfollowed := true, recurses := true, named := ["tollbooth/risk.tiers"], apart := false, laid := [("tollbooth/risk.tiers", laid_tollbooth_risk_tiers)], narrowed := true }
def VenuePartsUptoSaid : Prop := venuePartsUptoRow.holds Tryz.pinned (OpenSpec.upto venuePartsSpec)

end Rows
end Go.Proofs.YtpkbiafhnflmnaaGreatDoor
