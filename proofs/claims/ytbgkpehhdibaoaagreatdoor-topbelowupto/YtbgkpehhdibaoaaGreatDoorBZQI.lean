/- part -/
import Derived.Test.YtbgkpehhdibaoaaGreatDoorRows
import Derived.Deep.DeepHandedRow
import Derived.Stop.LaidErr
import Derived.Lib.SmallJoins
import Derived.Test.YtbgkpehhdibaoaaGreatDoorCards
import Derived.Test.YtbgkpehhdibaoaaGreatDoorBZAL
set_option maxHeartbeats 0
set_option maxRecDepth 99999
namespace Go.Proofs.YtbgkpehhdibaoaaGreatDoor
open Go.Proofs.Tryz
open Go.ChangeShapes Go.WideShapes Go.ChangeAt Go.RowKit Go.Deep Go.Joins
open Go.ChangeMaps (open_string shut_string)
theorem tb_k1:(Rows.topBelowUptoRow.inPlace==Tryz.pinned.checked.prog.inPlace 7)=true:=by kernel_rfl
theorem tb_k2:(Rows.topBelowUptoRow.unfollowed==Tryz.pinned.checked.prog.unfollowed 7)=true:=by kernel_rfl
theorem tb_k3:(Rows.topBelowUptoRow.recurses==Tryz.pinned.checked.prog.recurses 7)=true:=by kernel_rfl
theorem tb_k4:(Rows.topBelowUptoRow.named==Tryz.pinned.checked.prog.varsNamed 7)=true:=by kernel_rfl
abbrev YT:OpenClaim:=Rows.topBelowUptoRow
theorem tb_fn:Tryz.pinned.checked.prog.funcNamed YT.func=some 7:=by kernel_rfl
theorem tb_inst:Tryz.f7.isInstance Tryz.pinned.checked.prog YT.origin YT.targs:=jw bR
theorem tb_wrap:Tryz.f7.isWrapper Tryz.pinned.checked.prog YT.wrapper YT.mainSum:=by unfold Func.isWrapper;first|(rw[aL (by decide +kernel)];kernel_rfl)|(rw[aJ (by decide +kernel)];exact⟨rfl,rfl⟩)
theorem YU:joinedFacts Tryz.pinned.checked.prog 7 Tryz.f7 (Rows.OpenSpec.upto Rows.topBelowSpec).bare YT=true:=by
 unfold joinedFacts;simp only[dJ];repeat' (apply And.intro)
 all_goals first
  | with_reducible exact tb_k1
  | with_reducible exact tb_k2
  | with_reducible exact tb_k3
  | with_reducible exact tb_k4
  | (as_aux_lemma=>kernel_rfl)
theorem tb_plain(f:FuncId)(fn:Func)(hf:Tryz.pinned.checked.prog.funcNamed "lowdown/downtop.TopBelow" = some f)(hfn:Tryz.pinned.checked.prog.funcs[f]?=some fn):true=Tryz.pinned.checked.prog.looks []/\∀(j:Nat) t,fn.params[j]?=some t->Tryz.pinned.checked.prog.wantsStandIn t=false:=by
 obtain rfl:f=7:=Option.some.inj ((show prog.funcNamed "lowdown/downtop.TopBelow" = some 7 by kernel_rfl).symm.trans hf)|>.symm;obtain rfl:fn=Tryz.f7:=(Option.some.inj (func7.symm.trans hfn)).symm;refine⟨by kernel_rfl,λj t ht=>?_⟩;rw[Tryz.params7]at ht;obtain rfl|rfl|rfl:t=25\/t=26\/t=9:=by simpa using Array.mem_of_getElem? ht
 ·exact(show prog.wantsStandIn 25=false by kernel_rfl)
 ·exact(show prog.wantsStandIn 26=false by kernel_rfl)
 ·exact(show prog.wantsStandIn 9=false by kernel_rfl)
theorem tb_c1:Rows.topBelowUptoRow.wfByText (Rows.OpenSpec.upto Rows.topBelowSpec)=true:=by kernel_rfl
theorem tb_c2:Tryz.pinned.checked.prog.mainIs=some (Rows.topBelowUptoCard.stood.harness.1,Rows.topBelowUptoCard.stood.harness.2.toList):=by kernel_rfl
theorem tb_c3:false=Rows.topBelowUptoRow.goesBy Tryz.pinned.checked.prog:=by kernel_rfl
end Go.Proofs.YtbgkpehhdibaoaaGreatDoor
