/- TopHigher: whatever is handed in, as long as it is no larger than the bound, with one level alone what is right by names is accepted, and what is accepted by more levels is accepted by one. -/
import Derived.Test.YtageneidjnbedaaGreatDoorTie
import Derived.Test.YtageneidjnbedaaGreatDoorTZQM
set_option maxHeartbeats 0
set_option maxRecDepth 99999
namespace Go.Proofs.YtageneidjnbedaaGreatDoor
open Go.Proofs.Tryz
open Go.ChangeShapes Go.WideShapes Go.ChangeAt Go.RowKit Go.Deep Go.Joins
open Go.ChangeMaps (open_string shut_string)
theorem tg_card:Rows.TopHigherUptoCardSaid:=
 Claim7.holds_tied_plain_at .later [] _ _ _ _ azV (λ_ h=>by cases h) aAA (λ_ h=>by cases h) topHigherUpto_row_tie rfl ⟨rfl,rfl⟩ aAB rfl azd aAU
#print axioms tg_card
