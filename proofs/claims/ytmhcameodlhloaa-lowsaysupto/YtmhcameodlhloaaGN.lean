/- Regions that draw their order and only read, with callees that lay blocks of their own: walked once, in the text's order. -/
import Derived.Test.YtmhcameodlhloaaBa
import Derived.Shelf.SlSortCmp.QuietGrown
namespace Go.Proofs.Ytmhcameodlhloaa
open Go.RowKit

/-- A world with blocks behind it, after whatever draws. -/
def gn (w : World) (n : Nat) (os : Array Obj) : World := { w with heap := w.heap ++ os, drawn := n }
theorem below_gn (w : World) (n : Nat) (os : Array Obj) : Below w.heap.size w (gn w n os) :=
  ⟨rfl, rfl, rfl, by simp [gn], fun k hk => by simp [gn, Array.getElem?_append, hk]⟩
theorem gn_of_below {w w' : World} (h : Below w.heap.size w w') : ∃ p : GrownBy, w' = gn w p.n p.os := by
  refine ⟨⟨w'.drawn, w'.heap.extract w.heap.size w'.heap.size⟩, ?_⟩
  have hh : w'.heap = w.heap ++ w'.heap.extract w.heap.size w'.heap.size := by
    have hs := h.size
    apply Array.ext_getElem?
    intro i
    rw [Array.getElem?_append]
    split
    · rename_i hi; exact h.block i hi
    · rename_i hi
      rw [Array.getElem?_extract]
      split
      · congr 1; omega
      · rw [Array.getElem?_eq_none]; omega
  obtain ⟨hp, tp, dr, os, ou⟩ := w'
  obtain ⟨hp0, tp0, dr0, os0, ou0⟩ := w
  have e1 := h.os
  have e2 := h.tape
  have e3 := h.output
  simp only at e1 e2 e3 hh
  subst e1 e2 e3
  simp only [gn, World.mk.injEq, and_true]
  exact hh
theorem wp_region_quiet_gn {P : Program} {id : Nat} {Q : Exit → Act → World → Prop} {a : Act} {w : World} {l : List Oper} (hm : P.follows .mixedOrders = true) (hB : Region.lexB .any l.toArray = true)
    (h : wpQuiet P l.toArray (fun w' => ∃ p : GrownBy, w' = gn w p.n p.os) (fun a' => ∀ w', (∃ p : GrownBy, w' = gn w p.n p.os) → Q .normal a' w') l a) : (Code.region id l.toArray true).wp P Q a w :=
  wp_region_quiet (C := fun w' => ∃ p : GrownBy, w' = gn w p.n p.os) hm hB ⟨⟨w.drawn + 1, #[]⟩, by simp [gn]⟩ (by simpa using h)
theorem cell_gn {w : World} {a : Addr} {v : Value} (h : w.cell? a = some v) (n : Nat) (os : Array Obj) : (gn w n os).cell? a = some v := cellUp h (below_gn w n os)
theorem Calls.gn_of {P : Program} {f : FuncId} {args : Array Value} {w : World} {n : Nat} {os : Array Obj} {v : Value}
    (h : Calls P f args (gn w n os) fun e w' => e = .returned v ∧ Below (gn w n os).heap.size (gn w n os) w') : Calls P f args (gn w n os) fun e w'' => e = .returned v ∧ ∃ p : GrownBy, w'' = gn w p.n p.os :=
  h.mono fun _ _ ⟨he, hb⟩ => ⟨he, gn_of_below (up (below_gn w n os) hb)⟩

end Go.Proofs.Ytmhcameodlhloaa
