/- DaemonFresh: whatever is handed in, a daemon tells, whatever was said ahead, what one tells that has the same modules alone. -/
import Derived.Test.YtajaekfdcpjjfaaGreatDoorTie
import Derived.Test.YtajaekfdcpjjfaaGreatDoorDZQM
set_option maxHeartbeats 0
set_option maxRecDepth 99999
namespace Go.Proofs.YtajaekfdcpjjfaaGreatDoor
open Go.Proofs.Tryz
open Go.ChangeShapes Go.WideShapes Go.ChangeAt Go.RowKit Go.Deep Go.Joins
open Go.ChangeMaps (open_string shut_string)
theorem df_card:Rows.DaemonFreshCardSaid:=
 Claim7.holds_tied_plain_at .later [] _ _ _ _ auV (λ_ h=>by cases h) avx (λ_ h=>by cases h) daemonFresh_row_tie rfl ⟨rfl,rfl⟩ avy rfl auI avz
#print axioms df_card
