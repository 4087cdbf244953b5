/- TopBelow: whatever is handed in, as long as it is no larger than the bound, what is accepted imports what is accepted alone, and nothing goes round. -/
import Derived.Test.YtbgkpehhdibaoaaGreatDoorTie
import Derived.Test.YtbgkpehhdibaoaaGreatDoorBZQM
set_option maxHeartbeats 0
set_option maxRecDepth 99999
namespace Go.Proofs.YtbgkpehhdibaoaaGreatDoor
open Go.Proofs.Tryz
open Go.ChangeShapes Go.WideShapes Go.ChangeAt Go.RowKit Go.Deep Go.Joins
open Go.ChangeMaps (open_string shut_string)
theorem tb_card:Rows.TopBelowUptoCardSaid:=
 Claim7.holds_tied_plain_at .later [] _ _ _ _ tb_upto (λ_ h=>by cases h) tb_c1 (λ_ h=>by cases h) topBelowUpto_row_tie rfl ⟨rfl,rfl⟩ tb_c2 rfl tb_plain tb_c3
#print axioms tb_card
end Go.Proofs.YtbgkpehhdibaoaaGreatDoor
