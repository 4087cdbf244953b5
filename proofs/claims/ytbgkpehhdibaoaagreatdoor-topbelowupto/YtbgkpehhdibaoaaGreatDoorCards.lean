/-
  DERIVED. GIVEN WITH THE SEED: THE CARDS: each row of YtbgkpehhdibaoaaGreatDoorRows.lean that lists a variable, with what it lists TIED to the program's text (the seventh form; the later family's looks); each row that meets fmt, with fmt's text TOLD by the authors' own Lean function (tested against real Go, not proved from fmt's source: count such statements apart). THE CARD IS WHAT COUNTS. Prove the row's statement (the work); the ties are given (YtbgkpehhdibaoaaGreatDoorTie.lean); close each card by the builder's one call (the guide's Derived/Test/ToyasCard.lean, 'card_holds'). Laid BY PROGRAM, IN A SANDBOX (cutbox-door.mjs). By AI agents, Wed Nov 11 2026. No macro, syntax, notation, axiom, sorry.
-/
import Derived.Test.YtbgkpehhdibaoaaGreatDoorRows
import GoSem.ClaimSeven
namespace Go.Proofs.YtbgkpehhdibaoaaGreatDoor
namespace Rows

/-- THE TIED CARD OF 'downkeep.SchemeEffects'. -/
def schemeEffectsCard : Claim7 := { stood := { row := schemeEffectsRow, standIns := [], harness := (true, "13f699b90fc5e52234aa9cf2c8c6bbdaeb947c9c09cce390276a054a0aad7874"), looks := true }, kinds := [], alts := [], laidByText := true, laidKinds := [.data, .data, .data, .sentinel, .sentinel], laidTests := true, laidLooks := .later }
def SchemeEffectsCardSaid : Prop := Claim7.holds Tryz.pinned (.plain (OpenSpec.ofChange schemeEffectsSpec)) schemeEffectsCard

/-- THE TIED CARD OF 'downkeep.SchemeConfined'. -/
def schemeConfinedCard : Claim7 := { stood := { row := schemeConfinedRow, standIns := [], harness := (true, "13f699b90fc5e52234aa9cf2c8c6bbdaeb947c9c09cce390276a054a0aad7874"), looks := true }, kinds := [], alts := [], laidByText := true, laidKinds := [.data, .data, .data, .sentinel, .sentinel], laidTests := true, laidLooks := .later }
def SchemeConfinedCardSaid : Prop := Claim7.holds Tryz.pinned (.plain (OpenSpec.ofChange schemeConfinedSpec)) schemeConfinedCard

/-- THE TIED CARD OF 'downkeep.CheckReach'. -/
def checkReachCard : Claim7 := { stood := { row := checkReachRow, standIns := [], harness := (true, "13f699b90fc5e52234aa9cf2c8c6bbdaeb947c9c09cce390276a054a0aad7874"), looks := true }, kinds := [], alts := [], laidByText := true, laidKinds := [.data, .data, .data, .sentinel, .sentinel], laidTests := true, laidLooks := .later }
def CheckReachCardSaid : Prop := Claim7.holds Tryz.pinned (.plain (OpenSpec.ofChange checkReachSpec)) checkReachCard

/-- THE TIED CARD OF 'downtop.TopRuns'. -/
def topRunsCard : Claim7 := { stood := { row := topRunsRow, standIns := [], harness := (true, "13f699b90fc5e52234aa9cf2c8c6bbdaeb947c9c09cce390276a054a0aad7874"), looks := true }, kinds := [], alts := [], laidByText := true, laidKinds := [.data, .data, .data, .sentinel, .sentinel], laidTests := true, laidLooks := .later }
def TopRunsCardSaid : Prop := Claim7.holds Tryz.pinned (.plain (OpenSpec.ofChange topRunsSpec)) topRunsCard

/-- THE TIED CARD OF 'downtop.TopBelow'. -/
def topBelowCard : Claim7 := { stood := { row := topBelowRow, standIns := [], harness := (true, "13f699b90fc5e52234aa9cf2c8c6bbdaeb947c9c09cce390276a054a0aad7874"), looks := true }, kinds := [], alts := [], laidByText := true, laidKinds := [.data, .data, .data, .sentinel, .sentinel], laidTests := true, laidLooks := .later }
def TopBelowCardSaid : Prop := Claim7.holds Tryz.pinned (.plain (OpenSpec.ofChange topBelowSpec)) topBelowCard

/-- THE SECOND FORM's CARD OF 'downkeep.SchemeEffects'. -/
def schemeEffectsUptoCard : Claim7 := { stood := { row := schemeEffectsUptoRow, standIns := [], harness := (true, "13f699b90fc5e52234aa9cf2c8c6bbdaeb947c9c09cce390276a054a0aad7874"), looks := true }, kinds := [], alts := [], laidByText := true, laidKinds := [.data, .data, .data, .sentinel, .sentinel], laidTests := true, laidLooks := .later }
def SchemeEffectsUptoCardSaid : Prop := Claim7.holds Tryz.pinned (.plain (OpenSpec.upto schemeEffectsSpec)) schemeEffectsUptoCard

/-- THE SECOND FORM's CARD OF 'downkeep.SchemeConfined'. -/
def schemeConfinedUptoCard : Claim7 := { stood := { row := schemeConfinedUptoRow, standIns := [], harness := (true, "13f699b90fc5e52234aa9cf2c8c6bbdaeb947c9c09cce390276a054a0aad7874"), looks := true }, kinds := [], alts := [], laidByText := true, laidKinds := [.data, .data, .data, .sentinel, .sentinel], laidTests := true, laidLooks := .later }
def SchemeConfinedUptoCardSaid : Prop := Claim7.holds Tryz.pinned (.plain (OpenSpec.upto schemeConfinedSpec)) schemeConfinedUptoCard

/-- THE SECOND FORM's CARD OF 'downkeep.CheckReach'. -/
def checkReachUptoCard : Claim7 := { stood := { row := checkReachUptoRow, standIns := [], harness := (true, "13f699b90fc5e52234aa9cf2c8c6bbdaeb947c9c09cce390276a054a0aad7874"), looks := true }, kinds := [], alts := [], laidByText := true, laidKinds := [.data, .data, .data, .sentinel, .sentinel], laidTests := true, laidLooks := .later }
def CheckReachUptoCardSaid : Prop := Claim7.holds Tryz.pinned (.plain (OpenSpec.upto checkReachSpec)) checkReachUptoCard

/-- THE SECOND FORM's CARD OF 'downtop.TopRuns'. -/
def topRunsUptoCard : Claim7 := { stood := { row := topRunsUptoRow, standIns := [], harness := (true, "13f699b90fc5e52234aa9cf2c8c6bbdaeb947c9c09cce390276a054a0aad7874"), looks := true }, kinds := [], alts := [], laidByText := true, laidKinds := [.data, .data, .data, .sentinel, .sentinel], laidTests := true, laidLooks := .later }
def TopRunsUptoCardSaid : Prop := Claim7.holds Tryz.pinned (.plain (OpenSpec.upto topRunsSpec)) topRunsUptoCard

/-- THE SECOND FORM's CARD OF 'downtop.TopBelow'. -/
def topBelowUptoCard : Claim7 := { stood := { row := topBelowUptoRow, standIns := [], harness := (true, "13f699b90fc5e52234aa9cf2c8c6bbdaeb947c9c09cce390276a054a0aad7874"), looks := true }, kinds := [], alts := [], laidByText := true, laidKinds := [.data, .data, .data, .sentinel, .sentinel], laidTests := true, laidLooks := .later }
def TopBelowUptoCardSaid : Prop := Claim7.holds Tryz.pinned (.plain (OpenSpec.upto topBelowSpec)) topBelowUptoCard
end Rows
end Go.Proofs.YtbgkpehhdibaoaaGreatDoor
