/- Closed facts of the card of FlowSays: its -/
import Derived.Test.YtfnboapebijcpaaGreatDoorMAH
namespace Go.Proofs.YtfnboapebijcpaaGreatDoor
open Go.Proofs.Tryz
open Go.ChangeShapes Go.WideShapes Go.ChangeAt Go.RowKit Go.Deep Go.Joins
open Go.ChangeMaps (open_string shut_string)
theorem flow_fn:Tryz.pinned.checked.prog.funcNamed Rows.flowSaysUptoRow.func=some 6:=by kernel_rfl
theorem UQ:Tryz.f6.isInstance Tryz.pinned.checked.prog Rows.flowSaysUptoRow.origin Rows.flowSaysUptoRow.targs:=of_decide_eq_true (by kernel_rfl)
theorem UR:Tryz.f6.isWrapper Tryz.pinned.checked.prog Rows.flowSaysUptoRow.wrapper Rows.flowSaysUptoRow.mainSum:=by unfold Func.isWrapper;first|(rw[if_pos (by decide +kernel)];kernel_rfl)|(rw[if_neg (by decide +kernel)];exact⟨rfl,rfl⟩)
theorem Nj:joinedFacts Tryz.pinned.checked.prog 6 Tryz.f6 (Rows.OpenSpec.upto Rows.flowSaysSpec).bare Rows.flowSaysUptoRow=true:=by
 unfold joinedFacts;simp only[eB];repeat' (apply And.intro)
 all_goals first
  | with_reducible exact flow_k1
  | with_reducible exact flow_k2
  | with_reducible exact flow_k3
  | with_reducible exact flow_k4
  | kernel_rfl
end Go.Proofs.YtfnboapebijcpaaGreatDoor
