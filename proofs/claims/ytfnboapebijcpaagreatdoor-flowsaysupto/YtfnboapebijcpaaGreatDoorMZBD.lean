/- Walks over package downref: cell, Has, mine. -/
import Derived.Test.YtfnboapebijcpaaGreatDoorMZBC
set_option maxHeartbeats 16000000
set_option maxRecDepth 100000
namespace Go.Proofs.YtfnboapebijcpaaGreatDoor
open Go.Proofs.Tryz
open Go.RowKit
theorem Calls.y9{P:Program}{f:FuncId}{args:Array Value}{w:World}{n:Nat}{os:Array Obj}{v:Value}
  (h:Calls P f args (gn w n os) λe w'=>e=.returned v/\w'=gn w n os):Calls P f args (gn w n os) λe w''=>e=.returned v/\∃p:GrownBy,w''=gn w p.n p.os:=
 h.mono λ_ _ ⟨he,hb⟩=>⟨he,⟨⟨n,os⟩,hb⟩⟩
namespace Rn
end Rn
section
variable {W w w' : World} {c : Dc} {m : Nat} {x : Mo} {q f : Nat} {ns : List ByteArray} {vals : List Int} {vns vvs vp vd vp' vd' : Value} {nm : List (ByteArray × ByteArray)} {s : Rn.TR} {D : List ByteArray}
end
end Go.Proofs.YtfnboapebijcpaaGreatDoor
