/- part -/
import Derived.Test.YtbgkpehhdibaoaaGreatDoorBShelf
namespace Go.Proofs
open Go.Shelf
end Go.Proofs
