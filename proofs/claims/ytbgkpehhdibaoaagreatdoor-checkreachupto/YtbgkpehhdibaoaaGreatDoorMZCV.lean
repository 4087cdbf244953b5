/- part -/
import Derived.Test.YtbgkpehhdibaoaaGreatDoorRows
import Derived.Deep.DeepHandedRow
import Derived.Stop.LaidErr
import Derived.Lib.SmallJoins
import Derived.Test.YtbgkpehhdibaoaaGreatDoorCards
import Derived.Test.YtbgkpehhdibaoaaGreatDoorZAL
set_option maxHeartbeats 0
set_option maxRecDepth 99999
namespace Go.Proofs.YtbgkpehhdibaoaaGreatDoor
open Go.Proofs.Tryz
open Go.ChangeShapes Go.WideShapes Go.ChangeAt Go.RowKit Go.Deep Go.Joins
open Go.ChangeMaps (open_string shut_string)
theorem reach_k1:(Rows.checkReachUptoRow.inPlace==Tryz.pinned.checked.prog.inPlace 5)=true:=by kernel_rfl
theorem reach_k2:(Rows.checkReachUptoRow.unfollowed==Tryz.pinned.checked.prog.unfollowed 5)=true:=by kernel_rfl
theorem reach_k3:(Rows.checkReachUptoRow.recurses==Tryz.pinned.checked.prog.recurses 5)=true:=by kernel_rfl
theorem reach_k4:(Rows.checkReachUptoRow.named==Tryz.pinned.checked.prog.varsNamed 5)=true:=by kernel_rfl
abbrev YW:OpenClaim:=Rows.checkReachUptoRow
theorem reach_fn:Tryz.pinned.checked.prog.funcNamed YW.func=some 5:=by kernel_rfl
theorem Uq:Tryz.f5.isInstance Tryz.pinned.checked.prog YW.origin YW.targs:=iQ bU
theorem Ur:Tryz.f5.isWrapper Tryz.pinned.checked.prog YW.wrapper YW.mainSum:=by unfold Func.isWrapper;first|(rw[aL (by decide +kernel)];kernel_rfl)|(rw[aJ (by decide +kernel)];exact⟨rfl,rfl⟩)
theorem Nq:joinedFacts Tryz.pinned.checked.prog 5 Tryz.f5 (Rows.OpenSpec.upto Rows.checkReachSpec).bare YW=true:=by
 unfold joinedFacts;simp only[dS];repeat' (apply And.intro)
 all_goals first
  | with_reducible exact reach_k1
  | with_reducible exact reach_k2
  | with_reducible exact reach_k3
  | with_reducible exact reach_k4
  | (as_aux_lemma=>kernel_rfl)
theorem Qw(f:FuncId)(fn:Func)(hf:Tryz.pinned.checked.prog.funcNamed "lowdown/downkeep.CheckReach" = some f)(hfn:Tryz.pinned.checked.prog.funcs[f]?=some fn):true=Tryz.pinned.checked.prog.looks []/\∀(j:Nat) t,fn.params[j]?=some t->Tryz.pinned.checked.prog.wantsStandIn t=false:=by
 obtain rfl:f=5:=H9 ((show prog.funcNamed "lowdown/downkeep.CheckReach" = some 5 by kernel_rfl).symm.trans hf)|>.symm;obtain rfl:fn=Tryz.f5:=(H9 (func5.symm.trans hfn)).symm;refine⟨by kernel_rfl,λj t ht=>?_⟩;rw[Tryz.params5]at ht;obtain rfl|rfl|rfl|rfl:t=25\/t=26\/t=9\/t=58:=by simpa using Array.mem_of_getElem? ht
 ·exact(show prog.wantsStandIn 25=false by kernel_rfl)
 ·exact(show prog.wantsStandIn 26=false by kernel_rfl)
 ·exact(show prog.wantsStandIn 9=false by kernel_rfl)
 ·exact(show prog.wantsStandIn 58=false by kernel_rfl)
theorem reach_c1:Rows.checkReachUptoRow.wfByText (Rows.OpenSpec.upto Rows.checkReachSpec)=true:=by kernel_rfl
theorem reach_c2:Tryz.pinned.checked.prog.mainIs=some (Rows.checkReachUptoCard.stood.harness.1,Rows.checkReachUptoCard.stood.harness.2.toList):=by kernel_rfl
theorem reach_c3:false=Rows.checkReachUptoRow.goesBy Tryz.pinned.checked.prog:=by kernel_rfl
end Go.Proofs.YtbgkpehhdibaoaaGreatDoor
