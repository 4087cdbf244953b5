/-
  DERIVED. GIVEN WITH THE SEED: THE CARDS: each row of YtiebmbnfedbdeaaGreatDoorRows.lean that lists a variable, with what it lists TIED to the program's text (the seventh form; the later family's looks); each row that meets fmt, with fmt's text TOLD by the authors' own Lean function (tested against real Go, not proved from fmt's source: count such statements apart). THE CARD IS WHAT COUNTS. Prove the row's statement (the work); the ties are given (YtiebmbnfedbdeaaGreatDoorTie.lean); close each card by the builder's one call (the guide's Derived/Test/ToyasCard.lean, 'card_holds'). Laid BY PROGRAM, IN A SANDBOX (cutbox-door.mjs). By AI agents, Wed Nov 11 2026. No macro, syntax, notation, axiom, sorry.
-/
import Derived.Test.YtiebmbnfedbdeaaGreatDoorRows
import GoSem.ClaimSeven
namespace Go.Proofs.YtiebmbnfedbdeaaGreatDoor
namespace Rows

/-- THE TIED CARD OF 'downkeep.SchemeConfined'. -/
def schemeConfinedCard : Claim7 := { stood := { row := schemeConfinedRow, standIns := [], harness := (true, "e309ef24df4780a9d5bbfc418e8bb6beaf1760eb6209e643f1b7ce0ae03aa10b"), looks := true }, kinds := [], alts := [], laidByText := true, laidKinds := [.data, .data, .data, .sentinel, .sentinel], laidTests := true, laidLooks := .later }
def SchemeConfinedCardSaid : Prop := Claim7.holds Tryz.pinned (.plain (OpenSpec.ofChange schemeConfinedSpec)) schemeConfinedCard

/-- THE TIED CARD OF 'downtop.TopRuns'. -/
def topRunsCard : Claim7 := { stood := { row := topRunsRow, standIns := [], harness := (true, "e309ef24df4780a9d5bbfc418e8bb6beaf1760eb6209e643f1b7ce0ae03aa10b"), looks := true }, kinds := [], alts := [], laidByText := true, laidKinds := [.data, .data, .data, .sentinel, .sentinel], laidTests := true, laidLooks := .later }
def TopRunsCardSaid : Prop := Claim7.holds Tryz.pinned (.plain (OpenSpec.ofChange topRunsSpec)) topRunsCard

/-- THE SECOND FORM's CARD OF 'downkeep.SchemeConfined'. -/
def schemeConfinedUptoCard : Claim7 := { stood := { row := schemeConfinedUptoRow, standIns := [], harness := (true, "e309ef24df4780a9d5bbfc418e8bb6beaf1760eb6209e643f1b7ce0ae03aa10b"), looks := true }, kinds := [], alts := [], laidByText := true, laidKinds := [.data, .data, .data, .sentinel, .sentinel], laidTests := true, laidLooks := .later }
def SchemeConfinedUptoCardSaid : Prop := Claim7.holds Tryz.pinned (.plain (OpenSpec.upto schemeConfinedSpec)) schemeConfinedUptoCard

/-- THE SECOND FORM's CARD OF 'downtop.TopRuns'. -/
def topRunsUptoCard : Claim7 := { stood := { row := topRunsUptoRow, standIns := [], harness := (true, "e309ef24df4780a9d5bbfc418e8bb6beaf1760eb6209e643f1b7ce0ae03aa10b"), looks := true }, kinds := [], alts := [], laidByText := true, laidKinds := [.data, .data, .data, .sentinel, .sentinel], laidTests := true, laidLooks := .later }
def TopRunsUptoCardSaid : Prop := Claim7.holds Tryz.pinned (.plain (OpenSpec.upto topRunsSpec)) topRunsUptoCard
end Rows
end Go.Proofs.YtiebmbnfedbdeaaGreatDoor
