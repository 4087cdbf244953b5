/- FlowSays: a closed fact of its card. -/
import Derived.Test.YtfnboapebijcpaaGreatDoorMAH
namespace Go.Proofs.YtfnboapebijcpaaGreatDoor
open Go.Proofs.Tryz
open Go.ChangeShapes Go.WideShapes Go.ChangeAt Go.RowKit Go.Deep Go.Joins
theorem flow_c3:false=Rows.flowSaysUptoRow.goesBy Tryz.pinned.checked.prog:=by kernel_rfl
end Go.Proofs.YtfnboapebijcpaaGreatDoor
