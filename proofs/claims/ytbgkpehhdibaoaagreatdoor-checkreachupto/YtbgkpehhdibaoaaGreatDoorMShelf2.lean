/- part -/
import Derived.Test.YtbgkpehhdibaoaaGreatDoorMShelf
namespace Go.Proofs
open Go.Shelf
end Go.Proofs
