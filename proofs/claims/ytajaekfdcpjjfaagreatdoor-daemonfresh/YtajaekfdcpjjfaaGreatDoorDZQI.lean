import Derived.Test.YtajaekfdcpjjfaaGreatDoorRows
import Derived.Deep.DeepHandedRow
import Derived.Stop.LaidErr
import Derived.Lib.SmallJoins
import Derived.Test.YtajaekfdcpjjfaaGreatDoorCards
import Derived.Test.YtajaekfdcpjjfaaGreatDoorDZAL
set_option maxHeartbeats 0
set_option maxRecDepth 99999
namespace Go.Proofs.YtajaekfdcpjjfaaGreatDoor
open Go.Proofs.Tryz
open Go.ChangeShapes Go.WideShapes Go.ChangeAt Go.RowKit Go.Deep Go.Joins
open Go.ChangeMaps (open_string shut_string)
theorem avs:(Rows.daemonFreshRow.inPlace==Tryz.pinned.checked.prog.inPlace 5)=true:=by kernel_rfl
theorem avt:(Rows.daemonFreshRow.unfollowed==Tryz.pinned.checked.prog.unfollowed 5)=true:=by kernel_rfl
theorem avu:(Rows.daemonFreshRow.recurses==Tryz.pinned.checked.prog.recurses 5)=true:=by kernel_rfl
theorem avv:(Rows.daemonFreshRow.named==Tryz.pinned.checked.prog.varsNamed 5)=true:=by kernel_rfl
abbrev UM:OpenClaim:=Rows.daemonFreshRow
theorem avw:Tryz.pinned.checked.prog.funcNamed UM.func=some 5:=by kernel_rfl
theorem auT:Tryz.f5.isInstance Tryz.pinned.checked.prog UM.origin UM.targs:=iP dw
theorem auU:Tryz.f5.isWrapper Tryz.pinned.checked.prog UM.wrapper UM.mainSum:=by unfold Func.isWrapper;first|(rw[aK (by decide +kernel)];kernel_rfl)|(rw[aI (by decide +kernel)];exact⟨rfl,rfl⟩)
theorem auu:joinedFacts Tryz.pinned.checked.prog 5 Tryz.f5 (OpenSpec.ofChange Rows.daemonFreshSpec).bare UM=true:=by
 unfold joinedFacts;simp only[dK];repeat' (apply And.intro)
 all_goals first
  | with_reducible exact avs
  | with_reducible exact avt
  | with_reducible exact avu
  | with_reducible exact avv
  | (as_aux_lemma=>kernel_rfl)
theorem auI(f:FuncId)(a:Func)(c:Tryz.pinned.checked.prog.funcNamed "lowdown/downkeep.DaemonFresh" = some f)(d:Tryz.pinned.checked.prog.funcs[f]?=some a):true=Tryz.pinned.checked.prog.looks []/\∀(j:Nat) t,a.params[j]?=some t->Tryz.pinned.checked.prog.wantsStandIn t=false:=by
 obtain rfl:f=5:=CG ((show prog.funcNamed "lowdown/downkeep.DaemonFresh" = some 5 by kernel_rfl).symm.trans c)|>.symm;obtain rfl:a=Tryz.f5:=(CG<|func5.symm.trans d).symm;refine⟨by kernel_rfl,λj t b=>?_⟩;rw[Tryz.params5]at b;obtain rfl|rfl|rfl:t=25\/t=55\/t=9:=by simpa using Array.mem_of_getElem? b
 ·exact(show prog.wantsStandIn 25=false by kernel_rfl)
 ·exact(show prog.wantsStandIn 55=false by kernel_rfl)
 ·exact(show prog.wantsStandIn 9=false by kernel_rfl)
theorem avx:Rows.daemonFreshRow.wfByText (OpenSpec.ofChange Rows.daemonFreshSpec)=true:=by kernel_rfl
theorem avy:Tryz.pinned.checked.prog.mainIs=some (Rows.daemonFreshCard.stood.harness.1,Rows.daemonFreshCard.stood.harness.2.toList):=by kernel_rfl
theorem avz:false=Rows.daemonFreshRow.goesBy Tryz.pinned.checked.prog:=by kernel_rfl
