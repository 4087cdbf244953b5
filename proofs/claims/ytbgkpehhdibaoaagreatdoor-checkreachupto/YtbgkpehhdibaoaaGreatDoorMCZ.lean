/- CheckReach: whatever is handed in, as long as it is no larger than the bound, what is told of a module hangs on those in its Reach alone. -/
import Derived.Test.YtbgkpehhdibaoaaGreatDoorTie
import Derived.Test.YtbgkpehhdibaoaaGreatDoorMZBW
set_option maxHeartbeats 0
set_option maxRecDepth 99999
namespace Go.Proofs.YtbgkpehhdibaoaaGreatDoor
open Go.Proofs.Tryz
open Go.ChangeShapes Go.WideShapes Go.ChangeAt Go.RowKit Go.Deep Go.Joins
open Go.ChangeMaps (open_string shut_string)
theorem reach_card:Rows.CheckReachUptoCardSaid:=
 Claim7.holds_tied_plain_at .later [] _ _ _ _ WT (λ_ h=>by cases h) reach_c1 (λ_ h=>by cases h) checkReachUpto_row_tie rfl ⟨rfl,rfl⟩ reach_c2 rfl Qw reach_c3
#print axioms reach_card
end Go.Proofs.YtbgkpehhdibaoaaGreatDoor
