/- The order of diagnostics: two lists that ascend and hold the same are one. -/
import Derived.Test.YtholefgckcoklaaGreatDoorZAN
namespace Go.Proofs.YtholefgckcoklaaGreatDoor
open Go.RowKit
theorem toList_inj {x y : ByteArray} (h : x.toList = y.toList) : x = y := by
  rw [Lib.toList_data, Lib.toList_data] at h
  cases x; cases y
  simp only at h
  congr 1
  exact Array.toList_inj.1 h
namespace Nm
end Nm
end Go.Proofs.YtholefgckcoklaaGreatDoor
