/- How a table of bools and a list of strings lie in memory, as the walks over package lattice want it. -/
import Derived.WalkKit
import Derived.WalkSpells
import Derived.Test.YtmhcameodlhloaaLat
namespace Go.Proofs.Ytmhcameodlhloaa
open Go.RowKit

theorem hide {p : Prop} (h : p) : Hid p := h
theorem unhide {p : Prop} (h : Hid p) : p := h

/-- The slice v is a square table of n rows of n bools: Z. -/
def Grid (w : World) (v : Value) (n : Nat) (Z : Nat → Nat → Bool) : Prop :=
  ∃ (gb go gc : Nat) (RB RO C : Nat → Nat), v = .slice (some ⟨gb, go, none⟩) n gc ∧
    (∀ r, r < n → w.cell? ⟨gb, go + r, none⟩ = some (.slice (some ⟨RB r, RO r, none⟩) n (C r))) ∧
    (∀ r c, r < n → c < n → w.cell? ⟨RB r, RO r + c, none⟩ = some (.bool (Z r c)))

theorem Grid.below {w w' : World} {v : Value} {n : Nat} {Z : Nat → Nat → Bool} (h : Grid w v n Z) (hb : Below w.heap.size w w') : Grid w' v n Z := by
  obtain ⟨gb, go, gc, RB, RO, C, e, h1, h2⟩ := h
  exact ⟨gb, go, gc, RB, RO, C, e, fun r hr => by rw [hb.cell (World.block_lt_of_cell? _ _ (h1 r hr))]; exact h1 r hr,
    fun r c hr hc => by rw [hb.cell (World.block_lt_of_cell? _ _ (h2 r c hr hc))]; exact h2 r c hr hc⟩

/-- The slice v is a table of G rows, row r of L r bools. -/
def Rag (w : World) (v : Value) (G : Nat) (L : Nat → Nat) (Z : Nat → Nat → Bool) : Prop :=
  ∃ (ga : Option Addr) (gb go gc : Nat) (A : Nat → Option Addr) (RB RO C : Nat → Nat), v = .slice ga G gc ∧ (0 < G → ga = some ⟨gb, go, none⟩) ∧ G ≤ 9223372036854775807 ∧
    (∀ r, r < G → L r ≤ 9223372036854775807) ∧
    (∀ r, r < G → w.cell? ⟨gb, go + r, none⟩ = some (.slice (A r) (L r) (C r))) ∧
    (∀ r c, r < G → c < L r → A r = some ⟨RB r, RO r, none⟩ ∧ w.cell? ⟨RB r, RO r + c, none⟩ = some (.bool (Z r c)))

theorem Rag.below {w w' : World} {v : Value} {G : Nat} {L : Nat → Nat} {Z : Nat → Nat → Bool} (h : Rag w v G L Z) (hb : Below w.heap.size w w') : Rag w' v G L Z := by
  obtain ⟨ga, gb, go, gc, A, RB, RO, C, e, h0, hG, hL, h1, h2⟩ := h
  exact ⟨ga, gb, go, gc, A, RB, RO, C, e, h0, hG, hL, fun r hr => by rw [hb.cell (World.block_lt_of_cell? _ _ (h1 r hr))]; exact h1 r hr,
    fun r c hr hc => ⟨(h2 r c hr hc).1, by rw [hb.cell (World.block_lt_of_cell? _ _ (h2 r c hr hc).2)]; exact (h2 r c hr hc).2⟩⟩

/-- A table that is square is a Grid. -/
theorem Rag.grid {w : World} {v : Value} {G : Nat} {L : Nat → Nat} {Z : Nat → Nat → Bool} (h : Rag w v G L Z) (h0 : 0 < G) (hL : ∀ r, r < G → L r = G) : Grid w v G Z := by
  obtain ⟨ga, gb, go, gc, A, RB, RO, C, e, hg, _, _, h1, h2⟩ := h
  refine ⟨gb, go, gc, RB, RO, C, by rw [e, hg h0], fun r hr => ?_, fun r c hr hc => ?_⟩
  · have := (h2 r 0 hr (by rw [hL r hr]; omega)).1
    rw [h1 r hr, this, hL r hr]
  · exact (h2 r c hr (by rw [hL r hr]; omega)).2

/-- The slice v is the list ss of strings. -/
def Strs (w : World) (v : Value) (ss : List ByteArray) : Prop :=
  ∃ (a : Option Addr) (b off cap : Nat), v = .slice a ss.length cap ∧ (0 < ss.length → a = some ⟨b, off, none⟩) ∧ ss.length ≤ 9223372036854775807 ∧
    (∀ s ∈ ss, s.size ≤ maxLen) ∧ (∀ j, j < ss.length → w.cell? ⟨b, off + j, none⟩ = some (.string (ss.getD j ByteArray.empty)))

theorem Strs.below {w w' : World} {v : Value} {ss : List ByteArray} (h : Strs w v ss) (hb : Below w.heap.size w w') : Strs w' v ss := by
  obtain ⟨a, b, off, cap, e, h0, hl, hs, h1⟩ := h
  exact ⟨a, b, off, cap, e, h0, hl, hs, fun r hr => by rw [hb.cell (World.block_lt_of_cell? _ _ (h1 r hr))]; exact h1 r hr⟩

end Go.Proofs.Ytmhcameodlhloaa
