/- The model's comparison of two diagnostics. -/
import Derived.Test.YtholefgckcoklaaGreatDoorZAN
import Derived.Laws.StructEq
namespace Go.Proofs.YtholefgckcoklaaGreatDoor
open Go.RowKit
end Go.Proofs.YtholefgckcoklaaGreatDoor
