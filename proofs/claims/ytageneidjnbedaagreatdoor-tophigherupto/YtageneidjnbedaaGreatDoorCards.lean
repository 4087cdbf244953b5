/-
  DERIVED. GIVEN WITH THE SEED: THE CARDS: each row of YtageneidjnbedaaGreatDoorRows.lean that lists a variable, with what it lists TIED to the program's text (the seventh form; the later family's looks); each row that meets fmt, with fmt's text TOLD by the authors' own Lean function (tested against real Go, not proved from fmt's source: count such statements apart). THE CARD IS WHAT COUNTS. Prove the row's statement (the work); the ties are given (YtageneidjnbedaaGreatDoorTie.lean); close each card by the builder's one call (the guide's Derived/Test/ToyasCard.lean, 'card_holds'). Laid BY PROGRAM, IN A SANDBOX (cutbox-door.mjs). By AI agents, Wed Nov 11 2026. No macro, syntax, notation, axiom, sorry.
-/
import Derived.Test.YtageneidjnbedaaGreatDoorRows
import GoSem.ClaimSeven
namespace Go.Proofs.YtageneidjnbedaaGreatDoor
namespace Rows

/-- THE TIED CARD OF 'downtop.TopHigher'. -/
def topHigherCard : Claim7 := { stood := { row := topHigherRow, standIns := [], harness := (true, "d6981323a4f30d007671333484b7afd302b5b2696f9ae5b8c5a1c837ac86c3eb"), looks := true }, kinds := [], alts := [], laidByText := true, laidKinds := [.data, .data, .data, .sentinel, .sentinel], laidTests := true, laidLooks := .later }
def TopHigherCardSaid : Prop := Claim7.holds Tryz.pinned (.plain (OpenSpec.ofChange topHigherSpec)) topHigherCard

/-- THE SECOND FORM's CARD OF 'downtop.TopHigher'. -/
def topHigherUptoCard : Claim7 := { stood := { row := topHigherUptoRow, standIns := [], harness := (true, "d6981323a4f30d007671333484b7afd302b5b2696f9ae5b8c5a1c837ac86c3eb"), looks := true }, kinds := [], alts := [], laidByText := true, laidKinds := [.data, .data, .data, .sentinel, .sentinel], laidTests := true, laidLooks := .later }
def TopHigherUptoCardSaid : Prop := Claim7.holds Tryz.pinned (.plain (OpenSpec.upto topHigherSpec)) topHigherUptoCard
end Rows
end Go.Proofs.YtageneidjnbedaaGreatDoor
