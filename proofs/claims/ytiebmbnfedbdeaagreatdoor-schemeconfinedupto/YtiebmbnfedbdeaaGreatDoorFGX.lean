/- SchemeConfined: whatever is handed in, as long as it is no larger than the bound, an accepted function sets, and prints, at its PC, or above, alone. -/
import Derived.Test.YtiebmbnfedbdeaaGreatDoorTie
import Derived.Test.YtiebmbnfedbdeaaGreatDoorFZGO
set_option maxHeartbeats 0
set_option maxRecDepth 99999
namespace Go.Proofs.YtiebmbnfedbdeaaGreatDoor
open Go.Proofs.Tryz
open Go.ChangeShapes Go.WideShapes Go.ChangeAt Go.RowKit Go.Deep Go.Joins
open Go.ChangeMaps (open_string shut_string)
theorem sf_card:Rows.SchemeConfinedUptoCardSaid:=
 Claim7.holds_tied_plain_at .later [] _ _ _ _ aua (λ_ h=>by cases h) auk (λ_ h=>by cases h) schemeConfinedUpto_row_tie rfl ⟨rfl,rfl⟩ aul rfl at5 aum
#print axioms sf_card
