/- Plain mathematics of levels, without any program: what a table of bools says of joins, told by functions of numbers. -/
import Derived.WalkKit
import Derived.WalkSpells
namespace Go.Proofs.YtholefgckcoklaaGreatDoor
namespace Lat
theorem all_true {p : Nat → Bool} {n : Nat} (h : ∀ d, d < n → p d = true) : (List.range n).all p = true := by
  rw [List.all_eq_true]; intro x hx; exact h x (List.mem_range.1 hx)
theorem all_false {p : Nat → Bool} {n k : Nat} (hk : k < n) (h : p k = false) : (List.range n).all p = false := by
  rw [List.all_eq_false]; exact ⟨k, List.mem_range.2 hk, by simp [h]⟩
theorem all_get {p : Nat → Bool} {n k : Nat} (h : (List.range n).all p = true) (hk : k < n) : p k = true :=
  List.all_eq_true.1 h k (List.mem_range.2 hk)
theorem find_none {p : Nat → Bool} {n : Nat} (h : ∀ c, c < n → p c = false) : (List.range n).find? p = none := by
  rw [List.find?_eq_none]; intro x hx; simp [h x (List.mem_range.1 hx)]
theorem find_hit {p : Nat → Bool} : ∀ {n k : Nat}, k < n → (∀ c, c < k → p c = false) → p k = true → (List.range n).find? p = some k := by
  intro n k hk h0 h1
  induction n with
  | zero => omega
  | succ n ih =>
    rw [List.range_succ, List.find?_append]
    by_cases e : k < n
    · rw [ih e]; rfl
    · have : k = n := by omega
      subst this
      rw [find_none h0]; simp [h1]
theorem find_spec {p : Nat → Bool} {n k : Nat} (h : (List.range n).find? p = some k) : k < n ∧ p k = true :=
  ⟨List.mem_range.1 (List.mem_of_find?_eq_some h), List.find?_some h⟩
def belowB (Z : Nat → Nat → Bool) (n a b c : Nat) : Bool := (List.range n).all fun d => !(Z a d && Z b d && !Z c d)
def joinP (Z : Nat → Nat → Bool) (n a b c : Nat) : Bool := Z a c && Z b c && belowB Z n a b c
def joinO (Z : Nat → Nat → Bool) (n a b : Nat) : Option Nat := (List.range n).find? (joinP Z n a b)
def fitsP (Z : Nat → Nat → Bool) (a b c : Nat) : Bool := !(Z b c && !Z a c)
def fitsB (Z : Nat → Nat → Bool) (n a b : Nat) : Bool := !(a != b && Z b a) && (List.range n).all (fitsP Z a b)
def orderR (Z : Nat → Nat → Bool) (n a b : Nat) : Bool := !(Z a b && !fitsB Z n a b)
def orderP (Z : Nat → Nat → Bool) (n a : Nat) : Bool := Z a a && (List.range n).all (orderR Z n a)
def orderB (Z : Nat → Nat → Bool) (n : Nat) : Bool := (List.range n).all (orderP Z n)
def tr (Z : Nat → Nat → Bool) : Nat → Nat → Bool := fun a b => Z b a
def joinsP (Z : Nat → Nat → Bool) (n a b : Nat) : Bool := (joinO Z n a b).isSome
def joinsB (Z : Nat → Nat → Bool) (n : Nat) : Bool := (List.range n).all fun a => (List.range a).all (joinsP Z n a)
def joinN (Z : Nat → Nat → Bool) (n a b : Nat) : Nat := (joinO Z n a b).getD 0
def joinE (Z : Nat → Nat → Bool) (n a b : Nat) : Int := if (joinO Z n a b).isSome then 0 else 5
end Lat
end Go.Proofs.YtholefgckcoklaaGreatDoor
namespace Go.Proofs.YtholefgckcoklaaGreatDoor
open Go.RowKit
theorem hide {p : Prop} (h : p) : Hid p := h
theorem unhide {p : Prop} (h : Hid p) : p := h
def Grid (w : World) (v : Value) (n : Nat) (Z : Nat → Nat → Bool) : Prop :=
  ∃ (gb go gc : Nat) (RB RO C : Nat → Nat), v = .slice (some ⟨gb, go, none⟩) n gc ∧
    (∀ r, r < n → w.cell? ⟨gb, go + r, none⟩ = some (.slice (some ⟨RB r, RO r, none⟩) n (C r))) ∧
    (∀ r c, r < n → c < n → w.cell? ⟨RB r, RO r + c, none⟩ = some (.bool (Z r c)))
theorem Grid.below {w w' : World} {v : Value} {n : Nat} {Z : Nat → Nat → Bool} (h : Grid w v n Z) (hb : Below w.heap.size w w') : Grid w' v n Z := by
  obtain ⟨gb, go, gc, RB, RO, C, e, h1, h2⟩ := h
  exact ⟨gb, go, gc, RB, RO, C, e, fun r hr => by rw [hb.cell (World.block_lt_of_cell? _ _ (h1 r hr))]; exact h1 r hr,
    fun r c hr hc => by rw [hb.cell (World.block_lt_of_cell? _ _ (h2 r c hr hc))]; exact h2 r c hr hc⟩
def Rag (w : World) (v : Value) (G : Nat) (L : Nat → Nat) (Z : Nat → Nat → Bool) : Prop :=
  ∃ (ga : Option Addr) (gb go gc : Nat) (A : Nat → Option Addr) (RB RO C : Nat → Nat), v = .slice ga G gc ∧ (0 < G → ga = some ⟨gb, go, none⟩) ∧ G ≤ 9223372036854775807 ∧
    (∀ r, r < G → L r ≤ 9223372036854775807) ∧
    (∀ r, r < G → w.cell? ⟨gb, go + r, none⟩ = some (.slice (A r) (L r) (C r))) ∧
    (∀ r c, r < G → c < L r → A r = some ⟨RB r, RO r, none⟩ ∧ w.cell? ⟨RB r, RO r + c, none⟩ = some (.bool (Z r c)))
theorem Rag.below {w w' : World} {v : Value} {G : Nat} {L : Nat → Nat} {Z : Nat → Nat → Bool} (h : Rag w v G L Z) (hb : Below w.heap.size w w') : Rag w' v G L Z := by
  obtain ⟨ga, gb, go, gc, A, RB, RO, C, e, h0, hG, hL, h1, h2⟩ := h
  exact ⟨ga, gb, go, gc, A, RB, RO, C, e, h0, hG, hL, fun r hr => by rw [hb.cell (World.block_lt_of_cell? _ _ (h1 r hr))]; exact h1 r hr,
    fun r c hr hc => ⟨(h2 r c hr hc).1, by rw [hb.cell (World.block_lt_of_cell? _ _ (h2 r c hr hc).2)]; exact (h2 r c hr hc).2⟩⟩
theorem Rag.grid {w : World} {v : Value} {G : Nat} {L : Nat → Nat} {Z : Nat → Nat → Bool} (h : Rag w v G L Z) (h0 : 0 < G) (hL : ∀ r, r < G → L r = G) : Grid w v G Z := by
  obtain ⟨ga, gb, go, gc, A, RB, RO, C, e, hg, _, _, h1, h2⟩ := h
  refine ⟨gb, go, gc, RB, RO, C, by rw [e, hg h0], fun r hr => ?_, fun r c hr hc => ?_⟩
  · have := (h2 r 0 hr (by rw [hL r hr]; omega)).1
    rw [h1 r hr, this, hL r hr]
  · exact (h2 r c hr (by rw [hL r hr]; omega)).2
def Strs (w : World) (v : Value) (ss : List ByteArray) : Prop :=
  ∃ (a : Option Addr) (b off cap : Nat), v = .slice a ss.length cap ∧ (0 < ss.length → a = some ⟨b, off, none⟩) ∧ ss.length ≤ 9223372036854775807 ∧
    (∀ s ∈ ss, s.size ≤ maxLen) ∧ (∀ j, j < ss.length → w.cell? ⟨b, off + j, none⟩ = some (.string (ss.getD j ByteArray.empty)))
theorem Strs.below {w w' : World} {v : Value} {ss : List ByteArray} (h : Strs w v ss) (hb : Below w.heap.size w w') : Strs w' v ss := by
  obtain ⟨a, b, off, cap, e, h0, hl, hs, h1⟩ := h
  exact ⟨a, b, off, cap, e, h0, hl, hs, fun r hr => by rw [hb.cell (World.block_lt_of_cell? _ _ (h1 r hr))]; exact h1 r hr⟩
end Go.Proofs.YtholefgckcoklaaGreatDoor
