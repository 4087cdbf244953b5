import Derived.Test.YtageneidjnbedaaGreatDoorRows
import Derived.Deep.DeepHandedRow
import Derived.Stop.LaidErr
import Derived.Lib.SmallJoins
import Derived.Test.YtageneidjnbedaaGreatDoorCards
import Derived.Test.YtageneidjnbedaaGreatDoorTZAL
set_option maxHeartbeats 0
set_option maxRecDepth 99999
namespace Go.Proofs.YtageneidjnbedaaGreatDoor
open Go.Proofs.Tryz
open Go.ChangeShapes Go.WideShapes Go.ChangeAt Go.RowKit Go.Deep Go.Joins
open Go.ChangeMaps (open_string shut_string)
theorem aAv:(Rows.topHigherUptoRow.inPlace==Tryz.pinned.checked.prog.inPlace 3)=true:=by kernel_rfl
theorem aAw:(Rows.topHigherUptoRow.unfollowed==Tryz.pinned.checked.prog.unfollowed 3)=true:=by kernel_rfl
theorem aAx:(Rows.topHigherUptoRow.recurses==Tryz.pinned.checked.prog.recurses 3)=true:=by kernel_rfl
theorem aAy:(Rows.topHigherUptoRow.named==Tryz.pinned.checked.prog.varsNamed 3)=true:=by kernel_rfl
abbrev UM:OpenClaim:=Rows.topHigherUptoRow
theorem aAz:Tryz.pinned.checked.prog.funcNamed UM.func=some 3:=by kernel_rfl
theorem azD:Tryz.f3.isInstance Tryz.pinned.checked.prog UM.origin UM.targs:=iP dw
theorem azE:Tryz.f3.isWrapper Tryz.pinned.checked.prog UM.wrapper UM.mainSum:=by unfold Func.isWrapper;first|(rw[aK (by decide +kernel)];kernel_rfl)|(rw[aI (by decide +kernel)];exact⟨rfl,rfl⟩)
theorem ayI:joinedFacts Tryz.pinned.checked.prog 3 Tryz.f3 (Rows.OpenSpec.upto Rows.topHigherSpec).bare UM=true:=by
 unfold joinedFacts;simp only[dK];repeat' (apply And.intro)
 all_goals first
  | with_reducible exact aAv
  | with_reducible exact aAw
  | with_reducible exact aAx
  | with_reducible exact aAy
  | (as_aux_lemma=>kernel_rfl)
theorem azd(f:FuncId)(a:Func)(d:Tryz.pinned.checked.prog.funcNamed "lowdown/downtop.TopHigher" = some f)(e:Tryz.pinned.checked.prog.funcs[f]?=some a):true=Tryz.pinned.checked.prog.looks []/\∀(j:Nat) t,a.params[j]?=some t->Tryz.pinned.checked.prog.wantsStandIn t=false:=by
 obtain rfl:f=3:=Option.some.inj ((show prog.funcNamed "lowdown/downtop.TopHigher" = some 3 by kernel_rfl).symm.trans d)|>.symm;obtain rfl:a=Tryz.f3:=(Option.some.inj<|func3.symm.trans e).symm;refine⟨by kernel_rfl,λj t b=>?_⟩;rw[Tryz.params3]at b;obtain rfl|rfl|rfl:t=25\/t=26\/t=9:=by simpa using Array.mem_of_getElem? b
 ·exact(show prog.wantsStandIn 25=false by kernel_rfl)
 ·exact(show prog.wantsStandIn 26=false by kernel_rfl)
 ·exact(show prog.wantsStandIn 9=false by kernel_rfl)
theorem aAA:Rows.topHigherUptoRow.wfByText (Rows.OpenSpec.upto Rows.topHigherSpec)=true:=by kernel_rfl
theorem aAB:Tryz.pinned.checked.prog.mainIs=some (Rows.topHigherUptoCard.stood.harness.1,Rows.topHigherUptoCard.stood.harness.2.toList):=by kernel_rfl
