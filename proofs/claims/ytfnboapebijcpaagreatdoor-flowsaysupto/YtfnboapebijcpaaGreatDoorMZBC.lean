/- Walks over package run: add, whole. -/
import Derived.Test.YtfnboapebijcpaaGreatDoorMZBB
import Derived.Deep.Cut
set_option maxHeartbeats 16000000
set_option maxRecDepth 100000
namespace Go.Proofs.YtfnboapebijcpaaGreatDoor
open bC
open Go.Proofs.Tryz
open Go.RowKit Go.Maps
namespace Rn
end Rn
namespace Rn
theorem Da{m:Nat}{y:Mo}(h:qA m y=0):y.vars.length<=8/\y.aR.length<=8/\y.name.size<=8/\∀v∈y.vars,v.name.size<=8:=by
 have n8:∀{s:ByteArray},dP s=true->s.size<=8:=λ{s} hs=>by unfold dP bL at hs;simp only[eB,decide_eq_true_eq]at hs;have h2:=hs.1.2;rw[Array.length_toList]at h2;exact h2
 unfold qA at h;by_cases h8:8<y.imports.length\/8<y.vars.length\/8<y.aR.length;·rw[if_pos h8]at h;cases h
 ·rw[if_neg h8]at h;by_cases h5:((dP y.name&&y.imports.all dP)&&y.vars.all Es)=false;·rw[if_pos h5]at h;cases h
  ·have h5':((dP y.name&&y.imports.all dP)&&y.vars.all Es)=true:=by
    cases hh:((dP y.name&&y.imports.all dP)&&y.vars.all Es)with
    | true=>rfl
    | false=>exact absurd hh h5
   simp only[eB]at h5';refine⟨by omega,by omega,n8 h5'.1.1,λv hv=>?_⟩;have:=iO.1 h5'.2 v hv;unfold Es at this;simp only[eB]at this;exact n8 this.1
end Rn
namespace Rn
end Rn
namespace Rn
end Rn
structure Dc where
 n:Nat
 p:Nat
 cb:Nat
 vl:Value
 vc:Value
 ex:List Ce
section
variable {w w' w2 : World} {c : Dc} {nm : List (ByteArray × ByteArray)} {s : Rn.TR} {vp vd vp' vd' vp2 vd2 : Value} {D : List ByteArray}
end
end Go.Proofs.YtfnboapebijcpaaGreatDoor
