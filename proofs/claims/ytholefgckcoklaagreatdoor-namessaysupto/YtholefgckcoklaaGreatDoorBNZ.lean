/- Closed facts of the card of NamesSays: its function, its laying, that it is no instance and no wrapper of another. -/
import Derived.Test.YtholefgckcoklaaGreatDoorCards
import Derived.Test.YtholefgckcoklaaGreatDoorTie
import Derived.WalkKit
import Derived.ProofKit
import Derived.OpenShut
import Derived.ChangeOld
import Derived.Below
import Derived.ChangeMaps
import Derived.Deep.DeepHandedRow
import Derived.Lib.LaidTab
import Derived.Stop.LaidErr
import Derived.Lib.SmallJoins
namespace Go.Proofs.YtholefgckcoklaaGreatDoor
open Go.ChangeShapes Go.WideShapes Go.ChangeAt Go.RowKit Go.Deep Go.Joins
open Go.ChangeMaps (open_string shut_string)
theorem names_fn : Tryz.pinned.checked.prog.funcNamed Rows.namesSaysUptoRow.func = some 4 := by kernel_rfl
theorem names_closed : joinedFacts Tryz.pinned.checked.prog 4 Tryz.f4 (Rows.OpenSpec.upto Rows.namesSaysSpec).bare Rows.namesSaysUptoRow = true := by kernel_rfl
theorem names_inst : Tryz.f4.isInstance Tryz.pinned.checked.prog Rows.namesSaysUptoRow.origin Rows.namesSaysUptoRow.targs := of_decide_eq_true (by kernel_rfl)
theorem names_wrap : Tryz.f4.isWrapper Tryz.pinned.checked.prog Rows.namesSaysUptoRow.wrapper Rows.namesSaysUptoRow.mainSum := by
  unfold Func.isWrapper
  first | (rw [if_pos (by decide +kernel)]; kernel_rfl) | (rw [if_neg (by decide +kernel)]; exact ⟨rfl, rfl⟩)
end Go.Proofs.YtholefgckcoklaaGreatDoor
