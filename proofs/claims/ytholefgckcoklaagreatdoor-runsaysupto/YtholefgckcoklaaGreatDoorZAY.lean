/- Walks over package names: eachCall, callDiags. -/
import Derived.Test.YtholefgckcoklaaGreatDoorZAV
namespace Go.Proofs.YtholefgckcoklaaGreatDoor
open Go.RowKit
theorem VisE.up {W0 W W1 : World} {M p g : Nat} {cb : Array Value} {D : Ex → List Dg} (h : VisE W0 W M p g cb D) (hT : Tells p W W1) : VisE W0 W1 M p g cb D :=
  fun w c0 c1 c2 c3 y l h1 h2 h3 h4 h5 => h w c0 c1 c2 c3 y l h1 (hT.trans h2) h3 h4 h5
namespace Nm
end Nm
namespace Nm
end Nm
end Go.Proofs.YtholefgckcoklaaGreatDoor
namespace Go.Proofs.YtholefgckcoklaaGreatDoor
open Go.RowKit
namespace Nm
def upto (g : Nat → List Dg) (n : Nat) : List Dg := (List.range n).flatMap g
end Nm
end Go.Proofs.YtholefgckcoklaaGreatDoor
