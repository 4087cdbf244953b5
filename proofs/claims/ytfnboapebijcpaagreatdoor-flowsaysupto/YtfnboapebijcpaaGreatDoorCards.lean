/-
  DERIVED. GIVEN WITH THE SEED: THE CARDS: each row of YtfnboapebijcpaaGreatDoorRows.lean that lists a variable, with what it lists TIED to the program's text (the seventh form; the later family's looks); each row that meets fmt, with fmt's text TOLD by the authors' own Lean function (tested against real Go, not proved from fmt's source: count such statements apart). THE CARD IS WHAT COUNTS. Prove the row's statement (the work); the ties are given (YtfnboapebijcpaaGreatDoorTie.lean); close each card by the builder's one call (the guide's Derived/Test/ToyasCard.lean, 'card_holds'). Laid BY PROGRAM, IN A SANDBOX (cutbox-door.mjs). By AI agents, Wed Nov 11 2026. No macro, syntax, notation, axiom, sorry.
-/
import Derived.Test.YtfnboapebijcpaaGreatDoorRows
import GoSem.ClaimSeven
namespace Go.Proofs.YtfnboapebijcpaaGreatDoor
namespace Rows

/-- THE TIED CARD OF 'downlaw.ParseSays'. -/
def parseSaysCard : Claim7 := { stood := { row := parseSaysRow, standIns := [], harness := (true, "fdfe59fbb62c1246d9054ca301b197f15fca4f7511510586e78fc0ba2ba9de18"), looks := true }, kinds := [], alts := [], laidByText := true, laidKinds := [.data, .data, .data, .sentinel, .sentinel], laidTests := true, laidLooks := .later }
def ParseSaysCardSaid : Prop := Claim7.holds Tryz.pinned (.plain (OpenSpec.ofChange parseSaysSpec)) parseSaysCard

/-- THE TIED CARD OF 'downlaw.NamesSays'. -/
def namesSaysCard : Claim7 := { stood := { row := namesSaysRow, standIns := [], harness := (true, "fdfe59fbb62c1246d9054ca301b197f15fca4f7511510586e78fc0ba2ba9de18"), looks := true }, kinds := [], alts := [], laidByText := true, laidKinds := [.data, .data, .data], laidTests := true, laidLooks := .later }
def NamesSaysCardSaid : Prop := Claim7.holds Tryz.pinned (.plain (OpenSpec.ofChange namesSaysSpec)) namesSaysCard

/-- THE TIED CARD OF 'downlaw.RunSays'. -/
def runSaysCard : Claim7 := { stood := { row := runSaysRow, standIns := [], harness := (true, "fdfe59fbb62c1246d9054ca301b197f15fca4f7511510586e78fc0ba2ba9de18"), looks := true }, kinds := [], alts := [], laidByText := true, laidKinds := [.data, .data, .data], laidTests := true, laidLooks := .later }
def RunSaysCardSaid : Prop := Claim7.holds Tryz.pinned (.plain (OpenSpec.ofChange runSaysSpec)) runSaysCard

/-- THE TIED CARD OF 'downlaw.FlowSays'. -/
def flowSaysCard : Claim7 := { stood := { row := flowSaysRow, standIns := [], harness := (true, "fdfe59fbb62c1246d9054ca301b197f15fca4f7511510586e78fc0ba2ba9de18"), looks := true }, kinds := [], alts := [], laidByText := true, laidKinds := [.data, .data, .data], laidTests := true, laidLooks := .later }
def FlowSaysCardSaid : Prop := Claim7.holds Tryz.pinned (.plain (OpenSpec.ofChange flowSaysSpec)) flowSaysCard

/-- THE TIED CARD OF 'downlaw.SchemeSays'. -/
def schemeSaysCard : Claim7 := { stood := { row := schemeSaysRow, standIns := [], harness := (true, "fdfe59fbb62c1246d9054ca301b197f15fca4f7511510586e78fc0ba2ba9de18"), looks := true }, kinds := [], alts := [], laidByText := true, laidKinds := [.data, .data, .data], laidTests := true, laidLooks := .later }
def SchemeSaysCardSaid : Prop := Claim7.holds Tryz.pinned (.plain (OpenSpec.ofChange schemeSaysSpec)) schemeSaysCard

/-- THE TIED CARD OF 'downlaw.CheckSays'. -/
def checkSaysCard : Claim7 := { stood := { row := checkSaysRow, standIns := [], harness := (true, "fdfe59fbb62c1246d9054ca301b197f15fca4f7511510586e78fc0ba2ba9de18"), looks := true }, kinds := [], alts := [], laidByText := true, laidKinds := [.data, .data, .data], laidTests := true, laidLooks := .later }
def CheckSaysCardSaid : Prop := Claim7.holds Tryz.pinned (.plain (OpenSpec.ofChange checkSaysSpec)) checkSaysCard

/-- THE TIED CARD OF 'downlaw.DaemonPlays'. -/
def daemonPlaysCard : Claim7 := { stood := { row := daemonPlaysRow, standIns := [], harness := (true, "fdfe59fbb62c1246d9054ca301b197f15fca4f7511510586e78fc0ba2ba9de18"), looks := true }, kinds := [], alts := [], laidByText := true, laidKinds := [.data, .data, .data, .sentinel, .sentinel], laidTests := true, laidLooks := .later }
def DaemonPlaysCardSaid : Prop := Claim7.holds Tryz.pinned (.plain (OpenSpec.ofChange daemonPlaysSpec)) daemonPlaysCard

/-- THE SECOND FORM's CARD OF 'downlaw.ParseSays'. -/
def parseSaysUptoCard : Claim7 := { stood := { row := parseSaysUptoRow, standIns := [], harness := (true, "fdfe59fbb62c1246d9054ca301b197f15fca4f7511510586e78fc0ba2ba9de18"), looks := true }, kinds := [], alts := [], laidByText := true, laidKinds := [.data, .data, .data, .sentinel, .sentinel], laidTests := true, laidLooks := .later }
def ParseSaysUptoCardSaid : Prop := Claim7.holds Tryz.pinned (.plain (OpenSpec.upto parseSaysSpec)) parseSaysUptoCard

/-- THE SECOND FORM's CARD OF 'downlaw.NamesSays'. -/
def namesSaysUptoCard : Claim7 := { stood := { row := namesSaysUptoRow, standIns := [], harness := (true, "fdfe59fbb62c1246d9054ca301b197f15fca4f7511510586e78fc0ba2ba9de18"), looks := true }, kinds := [], alts := [], laidByText := true, laidKinds := [.data, .data, .data], laidTests := true, laidLooks := .later }
def NamesSaysUptoCardSaid : Prop := Claim7.holds Tryz.pinned (.plain (OpenSpec.upto namesSaysSpec)) namesSaysUptoCard

/-- THE SECOND FORM's CARD OF 'downlaw.RunSays'. -/
def runSaysUptoCard : Claim7 := { stood := { row := runSaysUptoRow, standIns := [], harness := (true, "fdfe59fbb62c1246d9054ca301b197f15fca4f7511510586e78fc0ba2ba9de18"), looks := true }, kinds := [], alts := [], laidByText := true, laidKinds := [.data, .data, .data], laidTests := true, laidLooks := .later }
def RunSaysUptoCardSaid : Prop := Claim7.holds Tryz.pinned (.plain (OpenSpec.upto runSaysSpec)) runSaysUptoCard

/-- THE SECOND FORM's CARD OF 'downlaw.FlowSays'. -/
def flowSaysUptoCard : Claim7 := { stood := { row := flowSaysUptoRow, standIns := [], harness := (true, "fdfe59fbb62c1246d9054ca301b197f15fca4f7511510586e78fc0ba2ba9de18"), looks := true }, kinds := [], alts := [], laidByText := true, laidKinds := [.data, .data, .data], laidTests := true, laidLooks := .later }
def FlowSaysUptoCardSaid : Prop := Claim7.holds Tryz.pinned (.plain (OpenSpec.upto flowSaysSpec)) flowSaysUptoCard

/-- THE SECOND FORM's CARD OF 'downlaw.SchemeSays'. -/
def schemeSaysUptoCard : Claim7 := { stood := { row := schemeSaysUptoRow, standIns := [], harness := (true, "fdfe59fbb62c1246d9054ca301b197f15fca4f7511510586e78fc0ba2ba9de18"), looks := true }, kinds := [], alts := [], laidByText := true, laidKinds := [.data, .data, .data], laidTests := true, laidLooks := .later }
def SchemeSaysUptoCardSaid : Prop := Claim7.holds Tryz.pinned (.plain (OpenSpec.upto schemeSaysSpec)) schemeSaysUptoCard

/-- THE SECOND FORM's CARD OF 'downlaw.CheckSays'. -/
def checkSaysUptoCard : Claim7 := { stood := { row := checkSaysUptoRow, standIns := [], harness := (true, "fdfe59fbb62c1246d9054ca301b197f15fca4f7511510586e78fc0ba2ba9de18"), looks := true }, kinds := [], alts := [], laidByText := true, laidKinds := [.data, .data, .data], laidTests := true, laidLooks := .later }
def CheckSaysUptoCardSaid : Prop := Claim7.holds Tryz.pinned (.plain (OpenSpec.upto checkSaysSpec)) checkSaysUptoCard

/-- THE SECOND FORM's CARD OF 'downlaw.DaemonPlays'. -/
def daemonPlaysUptoCard : Claim7 := { stood := { row := daemonPlaysUptoRow, standIns := [], harness := (true, "fdfe59fbb62c1246d9054ca301b197f15fca4f7511510586e78fc0ba2ba9de18"), looks := true }, kinds := [], alts := [], laidByText := true, laidKinds := [.data, .data, .data, .sentinel, .sentinel], laidTests := true, laidLooks := .later }
def DaemonPlaysUptoCardSaid : Prop := Claim7.holds Tryz.pinned (.plain (OpenSpec.upto daemonPlaysSpec)) daemonPlaysUptoCard
end Rows
end Go.Proofs.YtfnboapebijcpaaGreatDoor
