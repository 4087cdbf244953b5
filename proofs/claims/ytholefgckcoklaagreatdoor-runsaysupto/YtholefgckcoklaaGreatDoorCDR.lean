/- Closed facts of the card of RunSays: its function, its laying, that it is no instance and no wrapper of another. -/
import Derived.Test.YtholefgckcoklaaGreatDoorCards
import Derived.Test.YtholefgckcoklaaGreatDoorTie
import Derived.WalkKit
import Derived.ProofKit
import Derived.OpenShut
import Derived.ChangeOld
import Derived.Below
import Derived.ChangeMaps
import Derived.Deep.DeepHandedRow
import Derived.Lib.LaidTab
import Derived.Stop.LaidErr
import Derived.Lib.SmallJoins
namespace Go.Proofs.YtholefgckcoklaaGreatDoor
open Go.ChangeShapes Go.WideShapes Go.ChangeAt Go.RowKit Go.Deep Go.Joins
open Go.ChangeMaps (open_string shut_string)
theorem says_fn : Tryz.pinned.checked.prog.funcNamed Rows.runSaysUptoRow.func = some 5 := by kernel_rfl
theorem says_closed : joinedFacts Tryz.pinned.checked.prog 5 Tryz.f5 (Rows.OpenSpec.upto Rows.runSaysSpec).bare Rows.runSaysUptoRow = true := by kernel_rfl
theorem says_inst : Tryz.f5.isInstance Tryz.pinned.checked.prog Rows.runSaysUptoRow.origin Rows.runSaysUptoRow.targs := of_decide_eq_true (by kernel_rfl)
theorem says_wrap : Tryz.f5.isWrapper Tryz.pinned.checked.prog Rows.runSaysUptoRow.wrapper Rows.runSaysUptoRow.mainSum := by
  unfold Func.isWrapper
  first | (rw [if_pos (by decide +kernel)]; kernel_rfl) | (rw [if_neg (by decide +kernel)]; exact ⟨rfl, rfl⟩)
end Go.Proofs.YtholefgckcoklaaGreatDoor
