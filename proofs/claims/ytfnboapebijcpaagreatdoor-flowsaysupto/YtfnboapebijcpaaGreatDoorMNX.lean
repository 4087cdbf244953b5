/- NamesSays' walk, over the contracts of both packages. -/
import Derived.Test.YtfnboapebijcpaaGreatDoorMNR
import Derived.Test.YtfnboapebijcpaaGreatDoorMZBE
set_option maxHeartbeats 16000000
set_option maxRecDepth 100000
namespace Go.Proofs.YtfnboapebijcpaaGreatDoor
open bC aI
open Go.Proofs.Tryz
open Go.RowKit
theorem aI.once_le(l:List Dg)(h:l.length<=16777216):(aI.once l).length<=9223372036854775807:=by have:=NJ l;omega
theorem aI.thE_mo{e0:Int}{m:Nat}{x:Mo}{known:List Mo}(h:y8 e0 m x known=0):qA m x=0:=by
 unfold y8 at h;by_cases h0:e0=0
 ·rw[if_pos h0]at h;by_cases h1:qA m x=0;·exact h1
  ·rw[if_neg h1]at h;exact absurd h h1
 ·rw[if_neg h0]at h;exact absurd h h0
end Go.Proofs.YtfnboapebijcpaaGreatDoor
