/-
  DERIVED. GIVEN WITH THE SEED: THE CARDS: each row of YtajaekfdcpjjfaaGreatDoorRows.lean that lists a variable, with what it lists TIED to the program's text (the seventh form; the later family's looks); each row that meets fmt, with fmt's text TOLD by the authors' own Lean function (tested against real Go, not proved from fmt's source: count such statements apart). THE CARD IS WHAT COUNTS. Prove the row's statement (the work); the ties are given (YtajaekfdcpjjfaaGreatDoorTie.lean); close each card by the builder's one call (the guide's Derived/Test/ToyasCard.lean, 'card_holds'). Laid BY PROGRAM, IN A SANDBOX (cutbox-door.mjs). By AI agents, Wed Nov 11 2026. No macro, syntax, notation, axiom, sorry.
-/
import Derived.Test.YtajaekfdcpjjfaaGreatDoorRows
import GoSem.ClaimSeven
namespace Go.Proofs.YtajaekfdcpjjfaaGreatDoor
namespace Rows

/-- THE TIED CARD OF 'downkeep.SchemeEffects'. -/
def schemeEffectsCard : Claim7 := { stood := { row := schemeEffectsRow, standIns := [], harness := (true, "ec1c79bb3245a6be8828f09cd13c501be2f38597fe48a234eb4974bf943c720c"), looks := true }, kinds := [], alts := [], laidByText := true, laidKinds := [.data, .data, .data, .sentinel, .sentinel], laidTests := true, laidLooks := .later }
def SchemeEffectsCardSaid : Prop := Claim7.holds Tryz.pinned (.plain (OpenSpec.ofChange schemeEffectsSpec)) schemeEffectsCard

/-- THE TIED CARD OF 'downkeep.SchemeConfined'. -/
def schemeConfinedCard : Claim7 := { stood := { row := schemeConfinedRow, standIns := [], harness := (true, "ec1c79bb3245a6be8828f09cd13c501be2f38597fe48a234eb4974bf943c720c"), looks := true }, kinds := [], alts := [], laidByText := true, laidKinds := [.data, .data, .data, .sentinel, .sentinel], laidTests := true, laidLooks := .later }
def SchemeConfinedCardSaid : Prop := Claim7.holds Tryz.pinned (.plain (OpenSpec.ofChange schemeConfinedSpec)) schemeConfinedCard

/-- THE TIED CARD OF 'downkeep.DaemonFresh'. -/
def daemonFreshCard : Claim7 := { stood := { row := daemonFreshRow, standIns := [], harness := (true, "ec1c79bb3245a6be8828f09cd13c501be2f38597fe48a234eb4974bf943c720c"), looks := true }, kinds := [], alts := [], laidByText := true, laidKinds := [.data, .data, .data, .sentinel, .sentinel], laidTests := true, laidLooks := .later }
def DaemonFreshCardSaid : Prop := Claim7.holds Tryz.pinned (.plain (OpenSpec.ofChange daemonFreshSpec)) daemonFreshCard

/-- THE TIED CARD OF 'downtop.TopHidden'. -/
def topHiddenCard : Claim7 := { stood := { row := topHiddenRow, standIns := [], harness := (true, "ec1c79bb3245a6be8828f09cd13c501be2f38597fe48a234eb4974bf943c720c"), looks := true }, kinds := [], alts := [], laidByText := true, laidKinds := [.data, .data, .data, .sentinel, .sentinel], laidTests := true, laidLooks := .later }
def TopHiddenCardSaid : Prop := Claim7.holds Tryz.pinned (.plain (OpenSpec.ofChange topHiddenSpec)) topHiddenCard

/-- THE TIED CARD OF 'downtop.TopRuns'. -/
def topRunsCard : Claim7 := { stood := { row := topRunsRow, standIns := [], harness := (true, "ec1c79bb3245a6be8828f09cd13c501be2f38597fe48a234eb4974bf943c720c"), looks := true }, kinds := [], alts := [], laidByText := true, laidKinds := [.data, .data, .data, .sentinel, .sentinel], laidTests := true, laidLooks := .later }
def TopRunsCardSaid : Prop := Claim7.holds Tryz.pinned (.plain (OpenSpec.ofChange topRunsSpec)) topRunsCard

/-- THE SECOND FORM's CARD OF 'downkeep.SchemeEffects'. -/
def schemeEffectsUptoCard : Claim7 := { stood := { row := schemeEffectsUptoRow, standIns := [], harness := (true, "ec1c79bb3245a6be8828f09cd13c501be2f38597fe48a234eb4974bf943c720c"), looks := true }, kinds := [], alts := [], laidByText := true, laidKinds := [.data, .data, .data, .sentinel, .sentinel], laidTests := true, laidLooks := .later }
def SchemeEffectsUptoCardSaid : Prop := Claim7.holds Tryz.pinned (.plain (OpenSpec.upto schemeEffectsSpec)) schemeEffectsUptoCard

/-- THE SECOND FORM's CARD OF 'downkeep.SchemeConfined'. -/
def schemeConfinedUptoCard : Claim7 := { stood := { row := schemeConfinedUptoRow, standIns := [], harness := (true, "ec1c79bb3245a6be8828f09cd13c501be2f38597fe48a234eb4974bf943c720c"), looks := true }, kinds := [], alts := [], laidByText := true, laidKinds := [.data, .data, .data, .sentinel, .sentinel], laidTests := true, laidLooks := .later }
def SchemeConfinedUptoCardSaid : Prop := Claim7.holds Tryz.pinned (.plain (OpenSpec.upto schemeConfinedSpec)) schemeConfinedUptoCard

/-- THE SECOND FORM's CARD OF 'downkeep.DaemonFresh'. -/
def daemonFreshUptoCard : Claim7 := { stood := { row := daemonFreshUptoRow, standIns := [], harness := (true, "ec1c79bb3245a6be8828f09cd13c501be2f38597fe48a234eb4974bf943c720c"), looks := true }, kinds := [], alts := [], laidByText := true, laidKinds := [.data, .data, .data, .sentinel, .sentinel], laidTests := true, laidLooks := .later }
def DaemonFreshUptoCardSaid : Prop := Claim7.holds Tryz.pinned (.plain (OpenSpec.upto daemonFreshSpec)) daemonFreshUptoCard

/-- THE SECOND FORM's CARD OF 'downtop.TopHidden'. -/
def topHiddenUptoCard : Claim7 := { stood := { row := topHiddenUptoRow, standIns := [], harness := (true, "ec1c79bb3245a6be8828f09cd13c501be2f38597fe48a234eb4974bf943c720c"), looks := true }, kinds := [], alts := [], laidByText := true, laidKinds := [.data, .data, .data, .sentinel, .sentinel], laidTests := true, laidLooks := .later }
def TopHiddenUptoCardSaid : Prop := Claim7.holds Tryz.pinned (.plain (OpenSpec.upto topHiddenSpec)) topHiddenUptoCard

/-- THE SECOND FORM's CARD OF 'downtop.TopRuns'. -/
def topRunsUptoCard : Claim7 := { stood := { row := topRunsUptoRow, standIns := [], harness := (true, "ec1c79bb3245a6be8828f09cd13c501be2f38597fe48a234eb4974bf943c720c"), looks := true }, kinds := [], alts := [], laidByText := true, laidKinds := [.data, .data, .data, .sentinel, .sentinel], laidTests := true, laidLooks := .later }
def TopRunsUptoCardSaid : Prop := Claim7.holds Tryz.pinned (.plain (OpenSpec.upto topRunsSpec)) topRunsUptoCard
end Rows
end Go.Proofs.YtajaekfdcpjjfaaGreatDoor
