import Derived.Test.YtiebmbnfedbdeaaGreatDoorRows
import Derived.Deep.DeepHandedRow
import Derived.Stop.LaidErr
import Derived.Lib.SmallJoins
import Derived.Test.YtiebmbnfedbdeaaGreatDoorCards
import Derived.Test.YtiebmbnfedbdeaaGreatDoorTZAL
set_option maxHeartbeats 0
set_option maxRecDepth 99999
namespace Go.Proofs.YtiebmbnfedbdeaaGreatDoor
open Go.Proofs.Tryz
open Go.ChangeShapes Go.WideShapes Go.ChangeAt Go.RowKit Go.Deep Go.Joins
open Go.ChangeMaps (open_string shut_string)
theorem auw:(Rows.topRunsUptoRow.inPlace==Tryz.pinned.checked.prog.inPlace 4)=true:=by kernel_rfl
theorem auy:(Rows.topRunsUptoRow.unfollowed==Tryz.pinned.checked.prog.unfollowed 4)=true:=by kernel_rfl
theorem auz:(Rows.topRunsUptoRow.recurses==Tryz.pinned.checked.prog.recurses 4)=true:=by kernel_rfl
theorem auA:(Rows.topRunsUptoRow.named==Tryz.pinned.checked.prog.varsNamed 4)=true:=by kernel_rfl
abbrev UM:OpenClaim:=Rows.topRunsUptoRow
theorem auB:Tryz.pinned.checked.prog.funcNamed UM.func=some 4:=by kernel_rfl
theorem aui:Tryz.f4.isInstance Tryz.pinned.checked.prog UM.origin UM.targs:=iP dw
theorem auj:Tryz.f4.isWrapper Tryz.pinned.checked.prog UM.wrapper UM.mainSum:=by unfold Func.isWrapper;first|(rw[aK (by decide +kernel)];kernel_rfl)|(rw[aI (by decide +kernel)];exact⟨rfl,rfl⟩)
theorem at7:joinedFacts Tryz.pinned.checked.prog 4 Tryz.f4 (Rows.OpenSpec.upto Rows.topRunsSpec).bare UM=true:=by
 unfold joinedFacts;simp only[dK];repeat' (apply And.intro)
 all_goals first
  | with_reducible exact auw
  | with_reducible exact auy
  | with_reducible exact auz
  | with_reducible exact auA
  | (as_aux_lemma=>kernel_rfl)
theorem aud(f:FuncId)(a:Func)(c:Tryz.pinned.checked.prog.funcNamed "lowdown/downtop.TopRuns" = some f)(d:Tryz.pinned.checked.prog.funcs[f]?=some a):true=Tryz.pinned.checked.prog.looks []/\∀(j:Nat) t,a.params[j]?=some t->Tryz.pinned.checked.prog.wantsStandIn t=false:=by
 obtain rfl:f=4:=CG ((show prog.funcNamed "lowdown/downtop.TopRuns" = some 4 by kernel_rfl).symm.trans c)|>.symm;obtain rfl:a=Tryz.f4:=(CG<|func4.symm.trans d).symm;refine⟨by kernel_rfl,λj t b=>?_⟩;rw[Tryz.params4]at b;obtain rfl|rfl|rfl|rfl|rfl|rfl:t=25\/t=26\/t=9\/t=3\/t=27\/t=28:=by simpa using Array.mem_of_getElem? b
 ·exact(show prog.wantsStandIn 25=false by kernel_rfl)
 ·exact(show prog.wantsStandIn 26=false by kernel_rfl)
 ·exact(show prog.wantsStandIn 9=false by kernel_rfl)
 ·exact(show prog.wantsStandIn 3=false by kernel_rfl)
 ·exact(show prog.wantsStandIn 27=false by kernel_rfl)
 ·exact(show prog.wantsStandIn 28=false by kernel_rfl)
theorem auC:Rows.topRunsUptoRow.wfByText (Rows.OpenSpec.upto Rows.topRunsSpec)=true:=by kernel_rfl
theorem auD:Tryz.pinned.checked.prog.mainIs=some (Rows.topRunsUptoCard.stood.harness.1,Rows.topRunsUptoCard.stood.harness.2.toList):=by kernel_rfl
theorem auE:false=Rows.topRunsUptoRow.goesBy Tryz.pinned.checked.prog:=by kernel_rfl
