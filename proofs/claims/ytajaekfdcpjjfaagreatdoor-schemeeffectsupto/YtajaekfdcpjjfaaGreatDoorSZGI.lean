import Derived.Test.YtajaekfdcpjjfaaGreatDoorRows
import Derived.Deep.DeepHandedRow
import Derived.Stop.LaidErr
import Derived.Lib.SmallJoins
import Derived.Test.YtajaekfdcpjjfaaGreatDoorCards
import Derived.Test.YtajaekfdcpjjfaaGreatDoorSZAL
set_option maxHeartbeats 0
set_option maxRecDepth 99999
namespace Go.Proofs.YtajaekfdcpjjfaaGreatDoor
open Go.Proofs.Tryz
open Go.ChangeShapes Go.WideShapes Go.ChangeAt Go.RowKit Go.Deep Go.Joins
open Go.ChangeMaps (open_string shut_string)
theorem apl:(Rows.schemeEffectsUptoRow.inPlace==Tryz.pinned.checked.prog.inPlace 3)=true:=by kernel_rfl
theorem apm:(Rows.schemeEffectsUptoRow.unfollowed==Tryz.pinned.checked.prog.unfollowed 3)=true:=by kernel_rfl
theorem apn:(Rows.schemeEffectsUptoRow.recurses==Tryz.pinned.checked.prog.recurses 3)=true:=by kernel_rfl
theorem apo:(Rows.schemeEffectsUptoRow.named==Tryz.pinned.checked.prog.varsNamed 3)=true:=by kernel_rfl
abbrev UM:OpenClaim:=Rows.schemeEffectsUptoRow
theorem apq:Tryz.pinned.checked.prog.funcNamed UM.func=some 3:=by kernel_rfl
theorem ai9:Tryz.f3.isInstance Tryz.pinned.checked.prog UM.origin UM.targs:=iP dw
theorem aja:Tryz.f3.isWrapper Tryz.pinned.checked.prog UM.wrapper UM.mainSum:=by unfold Func.isWrapper;first|(rw[aK (by decide +kernel)];kernel_rfl)|(rw[aI (by decide +kernel)];exact⟨rfl,rfl⟩)
theorem acf:joinedFacts Tryz.pinned.checked.prog 3 Tryz.f3 (Rows.OpenSpec.upto Rows.schemeEffectsSpec).bare UM=true:=by
 unfold joinedFacts;simp only[dK];repeat' (apply And.intro)
 all_goals first
  | with_reducible exact apl
  | with_reducible exact apm
  | with_reducible exact apn
  | with_reducible exact apo
  | (as_aux_lemma=>kernel_rfl)
theorem agJ(f:FuncId)(a:Func)(c:Tryz.pinned.checked.prog.funcNamed "lowdown/downkeep.SchemeEffects" = some f)(d:Tryz.pinned.checked.prog.funcs[f]?=some a):true=Tryz.pinned.checked.prog.looks []/\∀(j:Nat) t,a.params[j]?=some t->Tryz.pinned.checked.prog.wantsStandIn t=false:=by
 obtain rfl:f=3:=CG ((show prog.funcNamed "lowdown/downkeep.SchemeEffects" = some 3 by kernel_rfl).symm.trans c)|>.symm;obtain rfl:a=Tryz.f3:=(CG<|func3.symm.trans d).symm;refine⟨by kernel_rfl,λj t b=>?_⟩;rw[Tryz.params3]at b;obtain rfl|rfl|rfl|rfl|rfl|rfl:t=25\/t=26\/t=9\/t=3\/t=27\/t=28:=by simpa using Array.mem_of_getElem? b
 ·exact(show prog.wantsStandIn 25=false by kernel_rfl)
 ·exact(show prog.wantsStandIn 26=false by kernel_rfl)
 ·exact(show prog.wantsStandIn 9=false by kernel_rfl)
 ·exact(show prog.wantsStandIn 3=false by kernel_rfl)
 ·exact(show prog.wantsStandIn 27=false by kernel_rfl)
 ·exact(show prog.wantsStandIn 28=false by kernel_rfl)
theorem apr:Rows.schemeEffectsUptoRow.wfByText (Rows.OpenSpec.upto Rows.schemeEffectsSpec)=true:=by kernel_rfl
theorem aps:Tryz.pinned.checked.prog.mainIs=some (Rows.schemeEffectsUptoCard.stood.harness.1,Rows.schemeEffectsUptoCard.stood.harness.2.toList):=by kernel_rfl
theorem apt:false=Rows.schemeEffectsUptoRow.goesBy Tryz.pinned.checked.prog:=by kernel_rfl
