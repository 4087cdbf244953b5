/- FlowSays: what its card asks of the parameters. -/
import Derived.Test.YtfnboapebijcpaaGreatDoorMAH
namespace Go.Proofs.YtfnboapebijcpaaGreatDoor
open Go.Proofs.Tryz
open Go.ChangeShapes Go.WideShapes Go.ChangeAt Go.RowKit Go.Deep Go.Joins
open Go.ChangeMaps (open_string shut_string)
theorem Ti(f:FuncId)(fn:Func)(hf:Tryz.pinned.checked.prog.funcNamed "lowdown/downlaw.FlowSays" = some f)(hfn:Tryz.pinned.checked.prog.funcs[f]?=some fn):true=Tryz.pinned.checked.prog.looks []/\∀(j:Nat) t,fn.params[j]?=some t->Tryz.pinned.checked.prog.wantsStandIn t=false:=by
 obtain rfl:f=6:=Option.some.inj ((show prog.funcNamed "lowdown/downlaw.FlowSays" = some 6 by kernel_rfl).symm.trans hf)|>.symm;obtain rfl:fn=Tryz.f6:=(Option.some.inj (func6.symm.trans hfn)).symm;refine⟨by kernel_rfl,λj t ht=>?_⟩;rw[Tryz.params6]at ht;obtain rfl|rfl|rfl|rfl|rfl|rfl:t=34\/t=26\/t=3\/t=35\/t=65\/t=66:=by simpa using Array.mem_of_getElem? ht
 ·exact(show prog.wantsStandIn 34=false by kernel_rfl)
 ·exact(show prog.wantsStandIn 26=false by kernel_rfl)
 ·exact(show prog.wantsStandIn 3=false by kernel_rfl)
 ·exact(show prog.wantsStandIn 35=false by kernel_rfl)
 ·exact(show prog.wantsStandIn 65=false by kernel_rfl)
 ·exact(show prog.wantsStandIn 66=false by kernel_rfl)
theorem flow_c1:Rows.flowSaysUptoRow.wfByText (Rows.OpenSpec.upto Rows.flowSaysSpec)=true:=by kernel_rfl
theorem flow_c2:Tryz.pinned.checked.prog.mainIs=some (Rows.flowSaysUptoCard.stood.harness.1,Rows.flowSaysUptoCard.stood.harness.2.toList):=by kernel_rfl
end Go.Proofs.YtfnboapebijcpaaGreatDoor
