/- FlowSays: whatever is handed in, as long as it is no larger than the bound, flow.Of answers what the document says. -/
import Derived.Test.YtfnboapebijcpaaGreatDoorMAG
import Derived.Test.YtfnboapebijcpaaGreatDoorMAO
import Derived.Test.YtfnboapebijcpaaGreatDoorMGC
namespace Go.Proofs.YtfnboapebijcpaaGreatDoor
open Go.Proofs.Tryz
open Go.ChangeShapes Go.WideShapes Go.ChangeAt Go.RowKit Go.Deep Go.Joins
open Go.ChangeMaps (open_string shut_string)
theorem flow_card:Rows.FlowSaysUptoCardSaid:=
 Claim7.holds_tied_plain_at .later [] _ _ _ _ Ww (λ_ h=>by cases h) flow_c1 (λ_ h=>by cases h) flowSaysUpto_row_tie rfl ⟨rfl,rfl⟩ flow_c2 rfl Ti flow_c3
#print axioms flow_card
end Go.Proofs.YtfnboapebijcpaaGreatDoor
