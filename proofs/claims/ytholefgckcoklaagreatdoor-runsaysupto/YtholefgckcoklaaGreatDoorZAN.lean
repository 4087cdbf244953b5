/- Walks over slices.Insert of diagnostics: no room. -/
import Derived.Test.YtholefgckcoklaaGreatDoorZAL
import Derived.Lib.AppendZeros
namespace Go.Proofs.YtholefgckcoklaaGreatDoor
open Go.RowKit
end Go.Proofs.YtholefgckcoklaaGreatDoor
namespace Go.Proofs.YtholefgckcoklaaGreatDoor
open Go.RowKit
end Go.Proofs.YtholefgckcoklaaGreatDoor
namespace Go.Proofs.YtholefgckcoklaaGreatDoor
open Go.RowKit
def DgsAt (w : World) (v : Value) (l : List Dg) : Prop :=
  ∃ (a : Option Addr) (b off cap : Nat), v = .slice a l.length cap ∧ (0 < l.length → a = some ⟨b, off, none⟩) ∧ l.length ≤ 9223372036854775807 ∧
    ∀ i d, l[i]? = some d → w.cell? ⟨b, off + i * 3, none⟩ = some (.int .i64 d.code) ∧ w.cell? ⟨b, off + i * 3 + 1, none⟩ = some (.string d.fn) ∧ w.cell? ⟨b, off + i * 3 + 2, none⟩ = some (.string d.name)
theorem DgsAt.below {w w' : World} {v : Value} {l : List Dg} (h : DgsAt w v l) (hb : Below w.heap.size w w') : DgsAt w' v l := by
  obtain ⟨a, b, off, cap, e, h0, hl, h1⟩ := h
  refine ⟨a, b, off, cap, e, h0, hl, fun i d hd => ?_⟩
  obtain ⟨g0, g1, g2⟩ := h1 i d hd
  exact ⟨cellUp g0 hb, cellUp g1 hb, cellUp g2 hb⟩
namespace Nm
def sameD (a b : Dg) : Bool := (a.code == b.code) && (a.fn.toList == b.fn.toList) && (a.name.toList == b.name.toList)
def ins : List Dg → Dg → List Dg
  | [], d => [d]
  | x :: r, d => if aheadB x d then x :: ins r d else if sameD x d then x :: r else d :: x :: r
def once (l : List Dg) : List Dg := l.foldl ins []
end Nm
end Go.Proofs.YtholefgckcoklaaGreatDoor
namespace Go.Proofs.YtholefgckcoklaaGreatDoor
open Go.RowKit
end Go.Proofs.YtholefgckcoklaaGreatDoor
