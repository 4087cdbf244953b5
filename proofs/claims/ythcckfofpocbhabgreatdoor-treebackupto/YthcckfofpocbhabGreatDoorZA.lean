/- Plain mathematics of levels, without any program: what a table of bools says of joins, told by functions of numbers. -/
import Derived.WalkKit
import Derived.WalkSpells
import Derived.WalkLawsBesides
import Derived.Test.YthcckfofpocbhabGreatDoorChecked
import Derived.Deep.QuietTactic
import Derived.BigQuiet
namespace Go.Proofs.YthcckfofpocbhabGreatDoor
namespace Lat

theorem all_true {p : Nat → Bool} {n : Nat} (h : ∀ d, d < n → p d = true) : (List.range n).all p = true := by
  rw [List.all_eq_true]; intro x hx; exact h x (List.mem_range.1 hx)
theorem all_false {p : Nat → Bool} {n k : Nat} (hk : k < n) (h : p k = false) : (List.range n).all p = false := by
  rw [List.all_eq_false]; exact ⟨k, List.mem_range.2 hk, by simp [h]⟩
theorem all_get {p : Nat → Bool} {n k : Nat} (h : (List.range n).all p = true) (hk : k < n) : p k = true :=
  List.all_eq_true.1 h k (List.mem_range.2 hk)
theorem find_none {p : Nat → Bool} {n : Nat} (h : ∀ c, c < n → p c = false) : (List.range n).find? p = none := by
  rw [List.find?_eq_none]; intro x hx; simp [h x (List.mem_range.1 hx)]
theorem find_hit {p : Nat → Bool} : ∀ {n k : Nat}, k < n → (∀ c, c < k → p c = false) → p k = true → (List.range n).find? p = some k := by
  intro n k hk h0 h1
  induction n with
  | zero => omega
  | succ n ih =>
    rw [List.range_succ, List.find?_append]
    by_cases e : k < n
    · rw [ih e]; rfl
    · have : k = n := by omega
      subst this
      rw [find_none h0]; simp [h1]
theorem find_spec {p : Nat → Bool} {n k : Nat} (h : (List.range n).find? p = some k) : k < n ∧ p k = true :=
  ⟨List.mem_range.1 (List.mem_of_find?_eq_some h), List.find?_some h⟩

/-- Is c below all that is above both a and b? -/
def belowB (Z : Nat → Nat → Bool) (n a b c : Nat) : Bool := (List.range n).all fun d => !(Z a d && Z b d && !Z c d)
def joinP (Z : Nat → Nat → Bool) (n a b c : Nat) : Bool := Z a c && Z b c && belowB Z n a b c
/-- The join of a and b, if there is one. -/
def joinO (Z : Nat → Nat → Bool) (n a b : Nat) : Option Nat := (List.range n).find? (joinP Z n a b)
def fitsP (Z : Nat → Nat → Bool) (a b c : Nat) : Bool := !(Z b c && !Z a c)
def fitsB (Z : Nat → Nat → Bool) (n a b : Nat) : Bool := !(a != b && Z b a) && (List.range n).all (fitsP Z a b)
def orderR (Z : Nat → Nat → Bool) (n a b : Nat) : Bool := !(Z a b && !fitsB Z n a b)
def orderP (Z : Nat → Nat → Bool) (n a : Nat) : Bool := Z a a && (List.range n).all (orderR Z n a)
def orderB (Z : Nat → Nat → Bool) (n : Nat) : Bool := (List.range n).all (orderP Z n)
def tr (Z : Nat → Nat → Bool) : Nat → Nat → Bool := fun a b => Z b a
def joinsP (Z : Nat → Nat → Bool) (n a b : Nat) : Bool := (joinO Z n a b).isSome
def joinsB (Z : Nat → Nat → Bool) (n : Nat) : Bool := (List.range n).all fun a => (List.range a).all (joinsP Z n a)
def lowP (Z : Nat → Nat → Bool) (n a : Nat) : Bool := (List.range n).all (Z a)
def lowN (Z : Nat → Nat → Bool) (n : Nat) : Nat := ((List.range n).find? (lowP Z n)).getD 0
def joinN (Z : Nat → Nat → Bool) (n a b : Nat) : Nat := (joinO Z n a b).getD 0
def joinE (Z : Nat → Nat → Bool) (n a b : Nat) : Int := if (joinO Z n a b).isSome then 0 else 5

end Lat
end Go.Proofs.YthcckfofpocbhabGreatDoor

/- How a table of bools and a list of strings lie in memory, as the walks over package lattice want it. -/
namespace Go.Proofs.YthcckfofpocbhabGreatDoor
open Go.RowKit

theorem hide {p : Prop} (h : p) : Hid p := h
theorem unhide {p : Prop} (h : Hid p) : p := h

/-- The slice v is a square table of n rows of n bools: Z. -/
def Grid (w : World) (v : Value) (n : Nat) (Z : Nat → Nat → Bool) : Prop :=
  ∃ (gb go gc : Nat) (RB RO C : Nat → Nat), v = .slice (some ⟨gb, go, none⟩) n gc ∧
    (∀ r, r < n → w.cell? ⟨gb, go + r, none⟩ = some (.slice (some ⟨RB r, RO r, none⟩) n (C r))) ∧
    (∀ r c, r < n → c < n → w.cell? ⟨RB r, RO r + c, none⟩ = some (.bool (Z r c)))

theorem Grid.below {w w' : World} {v : Value} {n : Nat} {Z : Nat → Nat → Bool} (h : Grid w v n Z) (hb : Below w.heap.size w w') : Grid w' v n Z := by
  obtain ⟨gb, go, gc, RB, RO, C, e, h1, h2⟩ := h
  exact ⟨gb, go, gc, RB, RO, C, e, fun r hr => by rw [hb.cell (World.block_lt_of_cell? _ _ (h1 r hr))]; exact h1 r hr,
    fun r c hr hc => by rw [hb.cell (World.block_lt_of_cell? _ _ (h2 r c hr hc))]; exact h2 r c hr hc⟩

/-- The slice v is a table of G rows, row r of L r bools. -/
def Rag (w : World) (v : Value) (G : Nat) (L : Nat → Nat) (Z : Nat → Nat → Bool) : Prop :=
  ∃ (ga : Option Addr) (gb go gc : Nat) (A : Nat → Option Addr) (RB RO C : Nat → Nat), v = .slice ga G gc ∧ (0 < G → ga = some ⟨gb, go, none⟩) ∧ G ≤ 9223372036854775807 ∧
    (∀ r, r < G → L r ≤ 9223372036854775807) ∧
    (∀ r, r < G → w.cell? ⟨gb, go + r, none⟩ = some (.slice (A r) (L r) (C r))) ∧
    (∀ r c, r < G → c < L r → A r = some ⟨RB r, RO r, none⟩ ∧ w.cell? ⟨RB r, RO r + c, none⟩ = some (.bool (Z r c)))

theorem Rag.below {w w' : World} {v : Value} {G : Nat} {L : Nat → Nat} {Z : Nat → Nat → Bool} (h : Rag w v G L Z) (hb : Below w.heap.size w w') : Rag w' v G L Z := by
  obtain ⟨ga, gb, go, gc, A, RB, RO, C, e, h0, hG, hL, h1, h2⟩ := h
  exact ⟨ga, gb, go, gc, A, RB, RO, C, e, h0, hG, hL, fun r hr => by rw [hb.cell (World.block_lt_of_cell? _ _ (h1 r hr))]; exact h1 r hr,
    fun r c hr hc => ⟨(h2 r c hr hc).1, by rw [hb.cell (World.block_lt_of_cell? _ _ (h2 r c hr hc).2)]; exact (h2 r c hr hc).2⟩⟩

/-- A table that is square is a Grid. -/
theorem Rag.grid {w : World} {v : Value} {G : Nat} {L : Nat → Nat} {Z : Nat → Nat → Bool} (h : Rag w v G L Z) (h0 : 0 < G) (hL : ∀ r, r < G → L r = G) : Grid w v G Z := by
  obtain ⟨ga, gb, go, gc, A, RB, RO, C, e, hg, _, _, h1, h2⟩ := h
  refine ⟨gb, go, gc, RB, RO, C, by rw [e, hg h0], fun r hr => ?_, fun r c hr hc => ?_⟩
  · have := (h2 r 0 hr (by rw [hL r hr]; omega)).1
    rw [h1 r hr, this, hL r hr]
  · exact (h2 r c hr (by rw [hL r hr]; omega)).2

/-- The slice v is the list ss of strings. -/
def Strs (w : World) (v : Value) (ss : List ByteArray) : Prop :=
  ∃ (a : Option Addr) (b off cap : Nat), v = .slice a ss.length cap ∧ (0 < ss.length → a = some ⟨b, off, none⟩) ∧ ss.length ≤ 9223372036854775807 ∧
    (∀ s ∈ ss, s.size ≤ maxLen) ∧ (∀ j, j < ss.length → w.cell? ⟨b, off + j, none⟩ = some (.string (ss.getD j ByteArray.empty)))

theorem Strs.below {w w' : World} {v : Value} {ss : List ByteArray} (h : Strs w v ss) (hb : Below w.heap.size w w') : Strs w' v ss := by
  obtain ⟨a, b, off, cap, e, h0, hl, hs, h1⟩ := h
  exact ⟨a, b, off, cap, e, h0, hl, hs, fun r hr => by rw [hb.cell (World.block_lt_of_cell? _ _ (h1 r hr))]; exact h1 r hr⟩

end Go.Proofs.YthcckfofpocbhabGreatDoor

/- Small facts that every walk of ours wants, of whatever program. -/
namespace Go.Proofs.YthcckfofpocbhabGreatDoor
open Go.RowKit

namespace Lat
def letterB (c : UInt8) : Bool := decide (97 ≤ c.toNat) && decide (c.toNat ≤ 122)
def nameB (l : List UInt8) : Bool := decide (1 ≤ l.length) && decide (l.length ≤ 8) && l.all letterB
end Lat

theorem size_list (s : ByteArray) : s.data.toList.length = s.size := rfl
theorem letters_all (s : ByteArray) (h : ∀ j (hj : j < s.size), Lat.letterB s[j] = true) : s.data.toList.all Lat.letterB = true := by
  rw [List.all_eq_true]
  intro x hx
  obtain ⟨j, hj, rfl⟩ := List.mem_iff_getElem.1 hx
  exact h j (by simpa using hj)
theorem letters_not (s : ByteArray) (j : Nat) (hj : j < s.size) (h : Lat.letterB s[j] = false) : s.data.toList.all Lat.letterB = false := by
  rw [List.all_eq_false]
  exact ⟨s[j], List.mem_iff_getElem.2 ⟨j, by simpa using hj, rfl⟩, by simp [h]⟩
theorem ret_bool {a b : Bool} (h : a = b) : Ending.returned (.bool a) = .returned (.bool b) := by rw [h]
theorem ret_two {a b : Int} {c d : Int} (h : a = c) (h' : b = d) : Ending.returned (.tuple #[.int .i64 a, .int .i64 b]) = .returned (.tuple #[.int .i64 c, .int .i64 d]) := by rw [h, h']
theorem ret_int {k : IntKind} {a b : Int} (h : a = b) : Ending.returned (.int k a) = .returned (.int k b) := by rw [h]
theorem nat_bne (a b : Nat) : ((a : Int) != (b : Int)) = (a != b) := by
  rw [Bool.eq_iff_iff]; simp only [bne_iff_ne, ne_eq]; omega
theorem up {w w1 w2 : World} (h : Below w.heap.size w w1) (h2 : Below w1.heap.size w1 w2) : Below w.heap.size w w2 := h.trans (h2.mono h.size)
theorem up1 {w w2 : World} {o : Obj} (h2 : Below (w.alloc o).heap.size (w.alloc o) w2) : Below w.heap.size w w2 := up ((Below.refl _ _).alloc (Nat.le_refl _) _) h2
theorem cellUp {w w1 : World} {a : Addr} {v : Value} (h : w.cell? a = some v) (hb : Below w.heap.size w w1) : w1.cell? a = some v := by
  rw [hb.cell (World.block_lt_of_cell? _ _ h)]; exact h
theorem cellBox0 (w : World) (x y : Value) (t : TypeId) : (w.alloc (.cells #[x, y] t)).cell? ⟨w.heap.size, 0, none⟩ = some x := by simp [go_sem]
theorem cellBox1 (w : World) (x y : Value) (t : TypeId) : (w.alloc (.cells #[x, y] t)).cell? ⟨w.heap.size, 1, none⟩ = some y := by simp [go_sem]
theorem bne_zero_true {x : Int} (h : x ≠ 0) : (x != 0) = true := by simp [h]
theorem val_bool {a b : Bool} (h : a = b) : Value.bool a = .bool b := by rw [h]
theorem boxBelow (w : World) (o : Obj) : Below w.heap.size w (w.alloc o) := (Below.refl _ _).alloc (Nat.le_refl _) _
theorem nat_beq (a b : Nat) : ((a : Int) == (b : Int)) = (a == b) := by
  rw [Bool.eq_iff_iff]; simp only [beq_iff_eq]; omega
theorem drewBelow {B : Nat} {a w : World} (h : Below B a w) (k : Nat) : Below B a (w.drewN k) := h.trans ⟨rfl, rfl, rfl, Nat.le_refl _, fun _ _ => rfl⟩
theorem val_int {a b : Nat} (h : a = b) : Value.int .i64 a = .int .i64 b := by rw [h]
theorem ret_two' {a b : Int} {c d : Int} (h : a = c) (h' : b = d) : Ending.returned (.tuple #[.int .i64 a, .int .i64 b]) = .returned (.tuple #[.int .i64 c, .int .i64 d]) := by rw [h, h']

end Go.Proofs.YthcckfofpocbhabGreatDoor

/- Walks over package downref, first part: In, Name, Index of strings, Find. -/
namespace Go.Proofs.YthcckfofpocbhabGreatDoor
open Go.RowKit

/-- What Name's ok holds behind k letters. -/
def nameTo (s : ByteArray) (k : Nat) : Bool := decide (1 ≤ s.size) && decide (s.size ≤ 8) && (s.data.toList.take k).all Lat.letterB

theorem nameTo_succ (s : ByteArray) (k : Nat) (hk : k < s.size) : nameTo s (k + 1) = (nameTo s k && Lat.letterB s[k]) := by
  unfold nameTo
  have e : s.data.toList.take (k + 1) = s.data.toList.take k ++ [s[k]] := by
    rw [List.take_succ_eq_append_getElem (by simpa using hk)]; rfl
  rw [e, List.all_append]
  simp [Bool.and_assoc]
theorem nameTo_all (s : ByteArray) : nameTo s s.size = Lat.nameB s.data.toList := by
  unfold nameTo Lat.nameB
  rw [List.take_of_length_le (by simp), size_list]

end Go.Proofs.YthcckfofpocbhabGreatDoor

/- Walks over package downref, beside: slices.Index of strings. -/
namespace Go.Proofs.YthcckfofpocbhabGreatDoor
open Go.RowKit

namespace Lat
def isAt (ss : List ByteArray) (t : ByteArray) (i : Nat) : Bool := t.toList == (ss.getD i ByteArray.empty).toList
/-- The place of a name; -1: there is none. -/
def indexI (ss : List ByteArray) (t : ByteArray) : Int := match (List.range ss.length).find? (isAt ss t) with | some i => i | none => -1
end Lat

end Go.Proofs.YthcckfofpocbhabGreatDoor

/- Modules, commands and expressions as plain data, and how they lie in memory: told by a number that bounds how deep they are nested. -/
namespace Go.Proofs.YthcckfofpocbhabGreatDoor
open Go.RowKit

structure Ex where
  kind : Int
  n : Int
  name : ByteArray
  args : List Ex

structure St where
  kind : Int
  name : ByteArray
  e : Ex
  a : List St
  b : List St

structure Fu where
  name : ByteArray
  params : List ByteArray
  body : List St
  result : Ex

structure Va where
  name : ByteArray
  level : ByteArray

structure Mo where
  name : ByteArray
  imports : List ByteArray
  vars : List Va
  funs : List Fu

def I64 (n : Int) : Prop := -9223372036854775808 ≤ n ∧ n ≤ 9223372036854775807

/-- The four values are the expression x, whose arguments lie in memory. -/
def ExAt (w : World) : Nat → Value → Value → Value → Value → Ex → Prop
  | 0, _, _, _, _, _ => False
  | m + 1, c0, c1, c2, c3, x =>
    c0 = .int .i64 x.kind ∧ c1 = .int .i64 x.n ∧ c2 = .string x.name ∧ x.name.size ≤ maxLen ∧ I64 x.kind ∧ I64 x.n ∧
    ∃ (a : Option Addr) (b off cap : Nat), c3 = .slice a x.args.length cap ∧ (0 < x.args.length → a = some ⟨b, off, none⟩) ∧ x.args.length ≤ 9223372036854775807 ∧
      ∀ i y, x.args[i]? = some y → ∃ e0 e1 e2 e3, w.cell? ⟨b, off + i * 4, none⟩ = some e0 ∧ w.cell? ⟨b, off + i * 4 + 1, none⟩ = some e1 ∧ w.cell? ⟨b, off + i * 4 + 2, none⟩ = some e2 ∧ w.cell? ⟨b, off + i * 4 + 3, none⟩ = some e3 ∧ ExAt w m e0 e1 e2 e3 y

theorem ExAt.below {w w' : World} (hb : Below w.heap.size w w') : ∀ {m : Nat} {c0 c1 c2 c3 : Value} {x : Ex}, ExAt w m c0 c1 c2 c3 x → ExAt w' m c0 c1 c2 c3 x
  | 0, _, _, _, _, _, h => h
  | m + 1, c0, c1, c2, c3, x, h => by
    obtain ⟨h0, h1, h2, h3, h4, h5, a, b, off, cap, h6, h7, h8, h9⟩ := h
    refine ⟨h0, h1, h2, h3, h4, h5, a, b, off, cap, h6, h7, h8, fun i y hy => ?_⟩
    obtain ⟨e0, e1, e2, e3, g0, g1, g2, g3, hx⟩ := h9 i y hy
    exact ⟨e0, e1, e2, e3, by rw [hb.cell (World.block_lt_of_cell? _ _ g0)]; exact g0, by rw [hb.cell (World.block_lt_of_cell? _ _ g1)]; exact g1, by rw [hb.cell (World.block_lt_of_cell? _ _ g2)]; exact g2,
      by rw [hb.cell (World.block_lt_of_cell? _ _ g3)]; exact g3, ExAt.below hb hx⟩

theorem ExAt.mono {w : World} : ∀ {m : Nat} {c0 c1 c2 c3 : Value} {x : Ex}, ExAt w m c0 c1 c2 c3 x → ∀ k, m ≤ k → ExAt w k c0 c1 c2 c3 x
  | 0, _, _, _, _, _, h, _, _ => False.elim h
  | m + 1, c0, c1, c2, c3, x, h, 0, hk => by omega
  | m + 1, c0, c1, c2, c3, x, h, k + 1, hk => by
    obtain ⟨h0, h1, h2, h3, h4, h5, a, b, off, cap, h6, h7, h8, h9⟩ := h
    refine ⟨h0, h1, h2, h3, h4, h5, a, b, off, cap, h6, h7, h8, fun i y hy => ?_⟩
    obtain ⟨e0, e1, e2, e3, g0, g1, g2, g3, hx⟩ := h9 i y hy
    exact ⟨e0, e1, e2, e3, g0, g1, g2, g3, ExAt.mono hx k (by omega)⟩

/-- The slice v is a list of commands. -/
def StsAt (w : World) : Nat → Value → List St → Prop
  | 0, _, _ => False
  | m + 1, v, l => ∃ (a : Option Addr) (b off cap : Nat), v = .slice a l.length cap ∧ (0 < l.length → a = some ⟨b, off, none⟩) ∧ l.length ≤ 9223372036854775807 ∧
      ∀ i s, l[i]? = some s → I64 s.kind ∧ s.name.size ≤ maxLen ∧ ∃ e0 e1 e2 e3 va vb, w.cell? ⟨b, off + i * 8, none⟩ = some (.int .i64 s.kind) ∧ w.cell? ⟨b, off + i * 8 + 1, none⟩ = some (.string s.name) ∧
        w.cell? ⟨b, off + i * 8 + 2, none⟩ = some e0 ∧ w.cell? ⟨b, off + i * 8 + 3, none⟩ = some e1 ∧ w.cell? ⟨b, off + i * 8 + 4, none⟩ = some e2 ∧ w.cell? ⟨b, off + i * 8 + 5, none⟩ = some e3 ∧
        w.cell? ⟨b, off + i * 8 + 6, none⟩ = some va ∧ w.cell? ⟨b, off + i * 8 + 7, none⟩ = some vb ∧ ExAt w m e0 e1 e2 e3 s.e ∧ StsAt w m va s.a ∧ StsAt w m vb s.b

theorem StsAt.below {w w' : World} (hb : Below w.heap.size w w') : ∀ {m : Nat} {v : Value} {l : List St}, StsAt w m v l → StsAt w' m v l
  | 0, _, _, h => h
  | m + 1, v, l, h => by
    obtain ⟨a, b, off, cap, h6, h7, h8, h9⟩ := h
    refine ⟨a, b, off, cap, h6, h7, h8, fun i s hs => ?_⟩
    obtain ⟨k1, k2, e0, e1, e2, e3, va, vb, g0, g1, g2, g3, g4, g5, g6, g7, hx, ha, hb'⟩ := h9 i s hs
    exact ⟨k1, k2, e0, e1, e2, e3, va, vb, by rw [hb.cell (World.block_lt_of_cell? _ _ g0)]; exact g0, by rw [hb.cell (World.block_lt_of_cell? _ _ g1)]; exact g1, by rw [hb.cell (World.block_lt_of_cell? _ _ g2)]; exact g2,
      by rw [hb.cell (World.block_lt_of_cell? _ _ g3)]; exact g3, by rw [hb.cell (World.block_lt_of_cell? _ _ g4)]; exact g4, by rw [hb.cell (World.block_lt_of_cell? _ _ g5)]; exact g5,
      by rw [hb.cell (World.block_lt_of_cell? _ _ g6)]; exact g6, by rw [hb.cell (World.block_lt_of_cell? _ _ g7)]; exact g7, hx.below hb, ha.below hb, hb'.below hb⟩

theorem StsAt.mono {w : World} : ∀ {m : Nat} {v : Value} {l : List St}, StsAt w m v l → ∀ k, m ≤ k → StsAt w k v l
  | 0, _, _, h, _, _ => False.elim h
  | m + 1, v, l, h, 0, hk => by omega
  | m + 1, v, l, h, k + 1, hk => by
    obtain ⟨a, b, off, cap, h6, h7, h8, h9⟩ := h
    refine ⟨a, b, off, cap, h6, h7, h8, fun i s hs => ?_⟩
    obtain ⟨k1, k2, e0, e1, e2, e3, va, vb, g0, g1, g2, g3, g4, g5, g6, g7, hx, ha, hb'⟩ := h9 i s hs
    exact ⟨k1, k2, e0, e1, e2, e3, va, vb, g0, g1, g2, g3, g4, g5, g6, g7, hx.mono k (by omega), ha.mono k (by omega), hb'.mono k (by omega)⟩

/-- The slice v is a list of variables. -/
def VasAt (w : World) (v : Value) (l : List Va) : Prop :=
  ∃ (a : Option Addr) (b off cap : Nat), v = .slice a l.length cap ∧ (0 < l.length → a = some ⟨b, off, none⟩) ∧ l.length ≤ 9223372036854775807 ∧
    ∀ i s, l[i]? = some s → s.name.size ≤ maxLen ∧ s.level.size ≤ maxLen ∧ w.cell? ⟨b, off + i * 2, none⟩ = some (.string s.name) ∧ w.cell? ⟨b, off + i * 2 + 1, none⟩ = some (.string s.level)

theorem VasAt.below {w w' : World} {v : Value} {l : List Va} (h : VasAt w v l) (hb : Below w.heap.size w w') : VasAt w' v l := by
  obtain ⟨a, b, off, cap, h6, h7, h8, h9⟩ := h
  refine ⟨a, b, off, cap, h6, h7, h8, fun i s hs => ?_⟩
  obtain ⟨k1, k2, g0, g1⟩ := h9 i s hs
  exact ⟨k1, k2, by rw [hb.cell (World.block_lt_of_cell? _ _ g0)]; exact g0, by rw [hb.cell (World.block_lt_of_cell? _ _ g1)]; exact g1⟩

/-- The slice v is a list of functions. -/
def FusAt (w : World) (m : Nat) (v : Value) (l : List Fu) : Prop :=
  ∃ (a : Option Addr) (b off cap : Nat), v = .slice a l.length cap ∧ (0 < l.length → a = some ⟨b, off, none⟩) ∧ l.length ≤ 9223372036854775807 ∧
    ∀ i s, l[i]? = some s → s.name.size ≤ maxLen ∧ ∃ vp vb e0 e1 e2 e3, w.cell? ⟨b, off + i * 7, none⟩ = some (.string s.name) ∧ w.cell? ⟨b, off + i * 7 + 1, none⟩ = some vp ∧ w.cell? ⟨b, off + i * 7 + 2, none⟩ = some vb ∧
      w.cell? ⟨b, off + i * 7 + 3, none⟩ = some e0 ∧ w.cell? ⟨b, off + i * 7 + 4, none⟩ = some e1 ∧ w.cell? ⟨b, off + i * 7 + 5, none⟩ = some e2 ∧ w.cell? ⟨b, off + i * 7 + 6, none⟩ = some e3 ∧
      Strs w vp s.params ∧ StsAt w m vb s.body ∧ ExAt w m e0 e1 e2 e3 s.result

theorem FusAt.below {w w' : World} {m : Nat} {v : Value} {l : List Fu} (h : FusAt w m v l) (hb : Below w.heap.size w w') : FusAt w' m v l := by
  obtain ⟨a, b, off, cap, h6, h7, h8, h9⟩ := h
  refine ⟨a, b, off, cap, h6, h7, h8, fun i s hs => ?_⟩
  obtain ⟨k1, vp, vb, e0, e1, e2, e3, g0, g1, g2, g3, g4, g5, g6, hp, hs', hx⟩ := h9 i s hs
  exact ⟨k1, vp, vb, e0, e1, e2, e3, by rw [hb.cell (World.block_lt_of_cell? _ _ g0)]; exact g0, by rw [hb.cell (World.block_lt_of_cell? _ _ g1)]; exact g1, by rw [hb.cell (World.block_lt_of_cell? _ _ g2)]; exact g2,
    by rw [hb.cell (World.block_lt_of_cell? _ _ g3)]; exact g3, by rw [hb.cell (World.block_lt_of_cell? _ _ g4)]; exact g4, by rw [hb.cell (World.block_lt_of_cell? _ _ g5)]; exact g5,
    by rw [hb.cell (World.block_lt_of_cell? _ _ g6)]; exact g6, hp.below hb, hs'.below hb, hx.below hb⟩

/-- The value v is the module x. -/
def MoAt (w : World) (m : Nat) (v : Value) (x : Mo) : Prop :=
  ∃ vi vv vf, v = .agg #[.string x.name, vi, vv, vf] ∧ x.name.size ≤ maxLen ∧ Strs w vi x.imports ∧ VasAt w vv x.vars ∧ FusAt w m vf x.funs

theorem MoAt.below {w w' : World} {m : Nat} {v : Value} {x : Mo} (h : MoAt w m v x) (hb : Below w.heap.size w w') : MoAt w' m v x := by
  obtain ⟨vi, vv, vf, h0, h1, h2, h3, h4⟩ := h
  exact ⟨vi, vv, vf, h0, h1, h2.below hb, h3.below hb, h4.below hb⟩

end Go.Proofs.YthcckfofpocbhabGreatDoor

/- What expressions, commands, functions and modules weigh: bounds of how long their texts are. -/
namespace Go.Proofs.YthcckfofpocbhabGreatDoor
open Go.RowKit

def exW : Nat → Ex → Nat
  | 0, _ => 0
  | m + 1, x => x.name.size + 4 + (x.args.map (exW m)).sum
def stsW : Nat → List St → Nat
  | 0, _ => 0
  | m + 1, l => (l.map fun s => s.name.size + 3 + exW m s.e + stsW m s.a + stsW m s.b).sum + 1
def strsW (l : List ByteArray) : Nat := (l.map fun s => s.size + 1).sum + 1
def vasW (l : List Va) : Nat := (l.map fun s => s.name.size + s.level.size + 3).sum + 1
def fusW (m : Nat) (l : List Fu) : Nat := (l.map fun s => s.name.size + 2 + strsW s.params + stsW m s.body + exW m s.result).sum + 1
def moW (m : Nat) (x : Mo) : Nat := x.name.size + 2 + strsW x.imports + vasW x.vars + fusW m x.funs

theorem map_congr_get {α β : Type} {f g : α → β} {l : List α} (h : ∀ (i : Nat) (x : α), l[i]? = some x → f x = g x) : l.map f = l.map g :=
  List.map_congr_left fun x hx => by
    obtain ⟨i, hi, rfl⟩ := List.mem_iff_getElem.1 hx
    exact h i _ (List.getElem?_eq_getElem hi)

theorem exW_mono {w : World} : ∀ {m : Nat} {c0 c1 c2 c3 : Value} {x : Ex}, ExAt w m c0 c1 c2 c3 x → ∀ k, m ≤ k → exW k x = exW m x
  | 0, _, _, _, _, _, h, _, _ => False.elim h
  | m + 1, c0, c1, c2, c3, x, h, 0, hk => by omega
  | m + 1, c0, c1, c2, c3, x, h, k + 1, hk => by
    obtain ⟨_, _, _, _, _, _, a, b, off, cap, _, _, _, h9⟩ := h
    simp only [exW]
    rw [map_congr_get (f := exW k) (g := exW m) (fun i y hy => by
      obtain ⟨e0, e1, e2, e3, _, _, _, _, hx⟩ := h9 i y hy
      exact exW_mono hx k (by omega))]
theorem stsW_mono {w : World} : ∀ {m : Nat} {v : Value} {l : List St}, StsAt w m v l → ∀ k, m ≤ k → stsW k l = stsW m l
  | 0, _, _, h, _, _ => False.elim h
  | m + 1, v, l, h, 0, hk => by omega
  | m + 1, v, l, h, k + 1, hk => by
    obtain ⟨a, b, off, cap, _, _, _, h9⟩ := h
    simp only [stsW]
    rw [map_congr_get (fun i s hs => by
      obtain ⟨_, _, e0, e1, e2, e3, va, vb, _, _, _, _, _, _, _, _, hx, ha, hb⟩ := h9 i s hs
      rw [exW_mono hx k (by omega), stsW_mono ha k (by omega), stsW_mono hb k (by omega)])]

end Go.Proofs.YthcckfofpocbhabGreatDoor

/- Walks over package downref: cutDot, slices.Contains of strings, expr. -/
namespace Go.Proofs.YthcckfofpocbhabGreatDoor
open Go.RowKit

namespace Lat
/-- Where the first dot stands. -/
def dotAt (s : ByteArray) : Option Nat := (List.range s.size).find? fun i => s.data.toList.getD i 0 == 46
def preS (s : ByteArray) : ByteArray := match dotAt s with | some i => s.extract 0 i | none => s
def sufS (s : ByteArray) : ByteArray := match dotAt s with | some i => s.extract (i + 1) s.size | none => ⟨#[]⟩
end Lat

theorem byte_at (s : ByteArray) (k : Nat) (hk : k < s.size) : s.data.toList.getD k 0 = s[k] := by
  have h : k < s.data.toList.length := by simpa using hk
  rw [List.getD, List.getElem?_eq_getElem h]; rfl

theorem extract_size (s : ByteArray) (a b : Nat) : (s.extract a b).size ≤ s.size := by
  rw [ByteArray.size_extract]; omega
theorem preS_le (s : ByteArray) : (Lat.preS s).size ≤ s.size := by
  unfold Lat.preS
  split
  · exact extract_size _ _ _
  · exact Nat.le_refl _
theorem sufS_le (s : ByteArray) : (Lat.sufS s).size ≤ s.size := by
  unfold Lat.sufS
  split
  · exact extract_size _ _ _
  · exact Nat.zero_le _

theorem byte_eq (c : UInt8) (n : Nat) (hn : n < 256) : (c == UInt8.ofNat n) = ((c.toNat : Int) == (n : Int)) := by
  rw [Bool.eq_iff_iff]
  simp only [beq_iff_eq]
  constructor
  · rintro rfl; simp; omega
  · intro h
    have : c.toNat = n := by omega
    rw [← this]; simp

namespace Lat
def opS : List ByteArray := [⟨#[43]⟩, ⟨#[45]⟩, ⟨#[42]⟩, ⟨#[60]⟩, ⟨#[61]⟩]
def opB (s : ByteArray) : Bool := decide (0 ≤ indexI opS s)
def callB (s : ByteArray) : Bool := nameB (preS s).data.toList && (!(dotAt s).isSome || nameB (sufS s).data.toList)
/-- May the expression be? m bounds how deep it is looked into. -/
def exprB : Nat → Ex → Bool
  | 0, _ => false
  | m + 1, x =>
    if x.kind = 1 then decide (0 ≤ x.n) && decide (x.n ≤ 999999) && x.name.toList.isEmpty && (x.args.length == 0)
    else if x.kind = 2 then (x.n == 0) && nameB x.name.data.toList && (x.args.length == 0)
    else if x.kind = 3 then (x.n == 0) && opB x.name && (x.args.length == 2) && x.args.all (exprB m)
    else if x.kind = 4 then (x.n == 0) && callB x.name && decide (x.args.length ≤ 4) && x.args.all (exprB m)
    else false
end Lat

theorem boxCells4 (w : World) (c0 c1 c2 c3 : Value) (t : TypeId) : (w.alloc (.cells #[c0, c1, c2, c3] t)).cell? ⟨w.heap.size, 3, none⟩ = some c3 := by simp [go_sem]

theorem all_get? {p : Ex → Bool} {l : List Ex} (h : ∀ (i : Nat) (x : Ex), l[i]? = some x → p x = true) : l.all p = true := by
  rw [List.all_eq_true]; intro x hx
  obtain ⟨i, hi, rfl⟩ := List.mem_iff_getElem.1 hx
  exact h i _ (List.getElem?_eq_getElem hi)
theorem all_not? {p : Ex → Bool} {l : List Ex} {i : Nat} {x : Ex} (hx : l[i]? = some x) (h : p x = false) : l.all p = false := by
  rw [List.all_eq_false]
  exact ⟨x, List.mem_of_getElem? hx, by simp [h]⟩

theorem ops_strs (w2 : World) : Strs (w2.alloc (.cells #[.string ⟨#[43]⟩, .string ⟨#[45]⟩, .string ⟨#[42]⟩, .string ⟨#[60]⟩, .string ⟨#[61]⟩] 9)) (.slice (some ⟨w2.heap.size, 0, none⟩) 5 5) Lat.opS := by
  refine ⟨_, w2.heap.size, 0, 5, rfl, fun _ => rfl, by decide, fun s hs => ?_, fun j hj => ?_⟩
  · simp only [Lat.opS, List.mem_cons, List.not_mem_nil, or_false] at hs
    rcases hs with rfl | rfl | rfl | rfl | rfl <;> decide
  · have hj' : j < 5 := hj
    obtain rfl | rfl | rfl | rfl | rfl : j = 0 ∨ j = 1 ∨ j = 2 ∨ j = 3 ∨ j = 4 := by omega
    all_goals simp [go_sem, Lat.opS]

end Go.Proofs.YthcckfofpocbhabGreatDoor

/- Walks over package downref: body: may the commands be? -/
namespace Go.Proofs.YthcckfofpocbhabGreatDoor
open Go.RowKit

namespace Lat
/-- What is asked of a command by itself. -/
def stH (s : St) : Bool :=
  if s.kind = 1 ∨ s.kind = 4 then nameB s.name.data.toList && (s.b.length == 0) && (s.a.length == 0)
  else if s.kind = 2 then s.name.toList.isEmpty
  else if s.kind = 3 then s.name.toList.isEmpty && (s.b.length == 0)
  else false
def bodyB : Nat → List St → Bool
  | 0, _ => false
  | m + 1, l => l.all fun s => stH s && exprB m s.e && bodyB m s.a && bodyB m s.b
def stB (m : Nat) (s : St) : Bool := stH s && exprB m s.e && bodyB m s.a && bodyB m s.b
theorem bodyB_succ (m : Nat) (l : List St) : bodyB (m + 1) l = l.all (stB m) := rfl
end Lat

theorem sts_get? {p : St → Bool} {l : List St} (h : ∀ (i : Nat) (x : St), l[i]? = some x → p x = true) : l.all p = true := by
  rw [List.all_eq_true]; intro x hx
  obtain ⟨i, hi, rfl⟩ := List.mem_iff_getElem.1 hx
  exact h i _ (List.getElem?_eq_getElem hi)
theorem sts_not? {p : St → Bool} {l : List St} {i : Nat} {x : St} (hx : l[i]? = some x) (h : p x = false) : l.all p = false := by
  rw [List.all_eq_false]
  exact ⟨x, List.mem_of_getElem? hx, by simp [h]⟩
theorem ExAt.shape {w : World} {m : Nat} {c0 c1 c2 c3 : Value} {x : Ex} (h : ExAt w m c0 c1 c2 c3 x) : ∃ a cap, c0 = .int .i64 x.kind ∧ c1 = .int .i64 x.n ∧ c2 = .string x.name ∧ c3 = .slice a x.args.length cap := by
  cases m with
  | zero => exact False.elim h
  | succ m =>
    obtain ⟨h0, h1, h2, _, _, _, a, b, off, cap, h3, _⟩ := h
    exact ⟨a, cap, h0, h1, h2, h3⟩
theorem StsAt.shape {w : World} {m : Nat} {v : Value} {l : List St} (h : StsAt w m v l) : ∃ a cap, v = .slice a l.length cap ∧ l.length ≤ 9223372036854775807 := by
  cases m with
  | zero => exact False.elim h
  | succ m =>
    obtain ⟨a, b, off, cap, h3, _, h4, _⟩ := h
    exact ⟨a, cap, h3, h4⟩
theorem boxCells86 (w : World) (c0 c1 c2 c3 c4 c5 c6 c7 : Value) (t : TypeId) : (w.alloc (.cells #[c0, c1, c2, c3, c4, c5, c6, c7] t)).cell? ⟨w.heap.size, 6, none⟩ = some c6 := by simp [go_sem]
theorem boxCells87 (w : World) (c0 c1 c2 c3 c4 c5 c6 c7 : Value) (t : TypeId) : (w.alloc (.cells #[c0, c1, c2, c3, c4, c5, c6, c7] t)).cell? ⟨w.heap.size, 7, none⟩ = some c7 := by simp [go_sem]

end Go.Proofs.YthcckfofpocbhabGreatDoor
