/- Walks over package names: callsIn, eachCommand, eachCall, whatever is done at each. -/
import Derived.Test.YtholefgckcoklaaGreatDoorZAT
import Derived.Laws.EntriesVeiled
namespace Go.Proofs.YtholefgckcoklaaGreatDoor
open Go.RowKit
namespace Nm
end Nm
def VisE (W0 W : World) (M p g : Nat) (cb : Array Value) (D : Ex → List Dg) : Prop :=
  ∀ (w : World) (c0 c1 c2 c3 : Value) (y : Ex) (l : List Dg), Below W0.heap.size W0 w → Tells p W w → Told w W0.heap.size p l → ExAt W0 M c0 c1 c2 c3 y → l.length + (D y).length ≤ 16777216 →
    Calls Tryz.prog g (#[.agg #[c0, c1, c2, c3]] ++ cb) w fun e w' => e = .returned (.tuple #[]) ∧ Told w' W0.heap.size p (l ++ D y) ∧ Below W0.heap.size w w' ∧ Tells p w w'
theorem Told.lt {w : World} {n p : Nat} {l : List Dg} (h : Told w n p l) : p < w.heap.size := by
  obtain ⟨_, v, h1, _⟩ := h
  exact block_lt h1
end Go.Proofs.YtholefgckcoklaaGreatDoor
namespace Go.Proofs.YtholefgckcoklaaGreatDoor
open Go.RowKit
namespace Nm
end Nm
namespace Nm
end Nm
end Go.Proofs.YtholefgckcoklaaGreatDoor
