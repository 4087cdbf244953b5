/-
  DERIVED. GIVEN WITH THE SEED: THE CARDS: each row of YtnheahdcfadclaaGreatDoorRows.lean that lists a variable, with what it lists TIED to the program's text (the seventh form; the later family's looks); each row that meets fmt, with fmt's text TOLD by the authors' own Lean function (tested against real Go, not proved from fmt's source: count such statements apart). THE CARD IS WHAT COUNTS. Prove the row's statement (the work); the ties are given (YtnheahdcfadclaaGreatDoorTie.lean); close each card by the builder's one call (the guide's Derived/Test/ToyasCard.lean, 'card_holds'). Laid BY PROGRAM, IN A SANDBOX (cutbox-door.mjs). By AI agents, Wed Nov 11 2026. No macro, syntax, notation, axiom, sorry.
-/
import Derived.Test.YtnheahdcfadclaaGreatDoorRows
import GoSem.ClaimSeven
namespace Go.Proofs.YtnheahdcfadclaaGreatDoor
namespace Rows

/-- THE TIED CARD OF 'downlaw.ParseSays'. -/
def parseSaysCard : Claim7 := { stood := { row := parseSaysRow, standIns := [], harness := (true, "e5c7f30393bf42af11aeb8379fb37347a8e418c13643037152ac00affba2ce5a"), looks := true }, kinds := [], alts := [], laidByText := true, laidKinds := [.data, .data, .data, .sentinel, .sentinel], laidTests := true, laidLooks := .later }
def ParseSaysCardSaid : Prop := Claim7.holds Tryz.pinned (.plain (OpenSpec.ofChange parseSaysSpec)) parseSaysCard

/-- THE TIED CARD OF 'downlaw.NamesSays'. -/
def namesSaysCard : Claim7 := { stood := { row := namesSaysRow, standIns := [], harness := (true, "e5c7f30393bf42af11aeb8379fb37347a8e418c13643037152ac00affba2ce5a"), looks := true }, kinds := [], alts := [], laidByText := true, laidKinds := [.data, .data, .data], laidTests := true, laidLooks := .later }
def NamesSaysCardSaid : Prop := Claim7.holds Tryz.pinned (.plain (OpenSpec.ofChange namesSaysSpec)) namesSaysCard

/-- THE TIED CARD OF 'downlaw.RunSays'. -/
def runSaysCard : Claim7 := { stood := { row := runSaysRow, standIns := [], harness := (true, "e5c7f30393bf42af11aeb8379fb37347a8e418c13643037152ac00affba2ce5a"), looks := true }, kinds := [], alts := [], laidByText := true, laidKinds := [.data, .data, .data], laidTests := true, laidLooks := .later }
def RunSaysCardSaid : Prop := Claim7.holds Tryz.pinned (.plain (OpenSpec.ofChange runSaysSpec)) runSaysCard

/-- THE TIED CARD OF 'downlaw.FlowSays'. -/
def flowSaysCard : Claim7 := { stood := { row := flowSaysRow, standIns := [], harness := (true, "e5c7f30393bf42af11aeb8379fb37347a8e418c13643037152ac00affba2ce5a"), looks := true }, kinds := [], alts := [], laidByText := true, laidKinds := [.data, .data, .data], laidTests := true, laidLooks := .later }
def FlowSaysCardSaid : Prop := Claim7.holds Tryz.pinned (.plain (OpenSpec.ofChange flowSaysSpec)) flowSaysCard

/-- THE SECOND FORM's CARD OF 'downlaw.ParseSays'. -/
def parseSaysUptoCard : Claim7 := { stood := { row := parseSaysUptoRow, standIns := [], harness := (true, "e5c7f30393bf42af11aeb8379fb37347a8e418c13643037152ac00affba2ce5a"), looks := true }, kinds := [], alts := [], laidByText := true, laidKinds := [.data, .data, .data, .sentinel, .sentinel], laidTests := true, laidLooks := .later }
def ParseSaysUptoCardSaid : Prop := Claim7.holds Tryz.pinned (.plain (OpenSpec.upto parseSaysSpec)) parseSaysUptoCard

/-- THE SECOND FORM's CARD OF 'downlaw.NamesSays'. -/
def namesSaysUptoCard : Claim7 := { stood := { row := namesSaysUptoRow, standIns := [], harness := (true, "e5c7f30393bf42af11aeb8379fb37347a8e418c13643037152ac00affba2ce5a"), looks := true }, kinds := [], alts := [], laidByText := true, laidKinds := [.data, .data, .data], laidTests := true, laidLooks := .later }
def NamesSaysUptoCardSaid : Prop := Claim7.holds Tryz.pinned (.plain (OpenSpec.upto namesSaysSpec)) namesSaysUptoCard

/-- THE SECOND FORM's CARD OF 'downlaw.RunSays'. -/
def runSaysUptoCard : Claim7 := { stood := { row := runSaysUptoRow, standIns := [], harness := (true, "e5c7f30393bf42af11aeb8379fb37347a8e418c13643037152ac00affba2ce5a"), looks := true }, kinds := [], alts := [], laidByText := true, laidKinds := [.data, .data, .data], laidTests := true, laidLooks := .later }
def RunSaysUptoCardSaid : Prop := Claim7.holds Tryz.pinned (.plain (OpenSpec.upto runSaysSpec)) runSaysUptoCard

/-- THE SECOND FORM's CARD OF 'downlaw.FlowSays'. -/
def flowSaysUptoCard : Claim7 := { stood := { row := flowSaysUptoRow, standIns := [], harness := (true, "e5c7f30393bf42af11aeb8379fb37347a8e418c13643037152ac00affba2ce5a"), looks := true }, kinds := [], alts := [], laidByText := true, laidKinds := [.data, .data, .data], laidTests := true, laidLooks := .later }
def FlowSaysUptoCardSaid : Prop := Claim7.holds Tryz.pinned (.plain (OpenSpec.upto flowSaysSpec)) flowSaysUptoCard
end Rows
end Go.Proofs.YtnheahdcfadclaaGreatDoor
