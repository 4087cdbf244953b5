/- Plain mathematics of levels, without any program: what a table of bools says of joins, told by functions of numbers. -/
import Derived.WalkKit
import Derived.WalkSpells
import Derived.Test.YtnheahdcfadclaaGreatDoorRows
import Derived.ProofKit
import Derived.OpenShut
import Derived.SliceStrings
import Derived.Lib.SmallJoins
namespace Go.Proofs.YtnheahdcfadclaaGreatDoor
namespace Lat

theorem all_true {p : Nat → Bool} {n : Nat} (h : ∀ d, d < n → p d = true) : (List.range n).all p = true := by
  rw [List.all_eq_true]; intro x hx; exact h x (List.mem_range.1 hx)
theorem all_false {p : Nat → Bool} {n k : Nat} (hk : k < n) (h : p k = false) : (List.range n).all p = false := by
  rw [List.all_eq_false]; exact ⟨k, List.mem_range.2 hk, by simp [h]⟩
theorem all_get {p : Nat → Bool} {n k : Nat} (h : (List.range n).all p = true) (hk : k < n) : p k = true :=
  List.all_eq_true.1 h k (List.mem_range.2 hk)
theorem find_none {p : Nat → Bool} {n : Nat} (h : ∀ c, c < n → p c = false) : (List.range n).find? p = none := by
  rw [List.find?_eq_none]; intro x hx; simp [h x (List.mem_range.1 hx)]
theorem find_hit {p : Nat → Bool} : ∀ {n k : Nat}, k < n → (∀ c, c < k → p c = false) → p k = true → (List.range n).find? p = some k := by
  intro n k hk h0 h1
  induction n with
  | zero => omega
  | succ n ih =>
    rw [List.range_succ, List.find?_append]
    by_cases e : k < n
    · rw [ih e]; rfl
    · have : k = n := by omega
      subst this
      rw [find_none h0]; simp [h1]
theorem find_spec {p : Nat → Bool} {n k : Nat} (h : (List.range n).find? p = some k) : k < n ∧ p k = true :=
  ⟨List.mem_range.1 (List.mem_of_find?_eq_some h), List.find?_some h⟩

/-- Is c below all that is above both a and b? -/
def belowB (Z : Nat → Nat → Bool) (n a b c : Nat) : Bool := (List.range n).all fun d => !(Z a d && Z b d && !Z c d)
def joinP (Z : Nat → Nat → Bool) (n a b c : Nat) : Bool := Z a c && Z b c && belowB Z n a b c
/-- The join of a and b, if there is one. -/
def joinO (Z : Nat → Nat → Bool) (n a b : Nat) : Option Nat := (List.range n).find? (joinP Z n a b)
def fitsP (Z : Nat → Nat → Bool) (a b c : Nat) : Bool := !(Z b c && !Z a c)
def fitsB (Z : Nat → Nat → Bool) (n a b : Nat) : Bool := !(a != b && Z b a) && (List.range n).all (fitsP Z a b)
def orderR (Z : Nat → Nat → Bool) (n a b : Nat) : Bool := !(Z a b && !fitsB Z n a b)
def orderP (Z : Nat → Nat → Bool) (n a : Nat) : Bool := Z a a && (List.range n).all (orderR Z n a)
def orderB (Z : Nat → Nat → Bool) (n : Nat) : Bool := (List.range n).all (orderP Z n)
def tr (Z : Nat → Nat → Bool) : Nat → Nat → Bool := fun a b => Z b a
def joinsP (Z : Nat → Nat → Bool) (n a b : Nat) : Bool := (joinO Z n a b).isSome
def joinsB (Z : Nat → Nat → Bool) (n : Nat) : Bool := (List.range n).all fun a => (List.range a).all (joinsP Z n a)
def lowP (Z : Nat → Nat → Bool) (n a : Nat) : Bool := (List.range n).all (Z a)
def lowN (Z : Nat → Nat → Bool) (n : Nat) : Nat := ((List.range n).find? (lowP Z n)).getD 0
def joinN (Z : Nat → Nat → Bool) (n a b : Nat) : Nat := (joinO Z n a b).getD 0
def joinE (Z : Nat → Nat → Bool) (n a b : Nat) : Int := if (joinO Z n a b).isSome then 0 else 5

end Lat
end Go.Proofs.YtnheahdcfadclaaGreatDoor

/- How a table of bools and a list of strings lie in memory, as the walks over package lattice want it. -/
namespace Go.Proofs.YtnheahdcfadclaaGreatDoor
open Go.RowKit

theorem hide {p : Prop} (h : p) : Hid p := h
theorem unhide {p : Prop} (h : Hid p) : p := h

/-- The slice v is a square table of n rows of n bools: Z. -/
def Grid (w : World) (v : Value) (n : Nat) (Z : Nat → Nat → Bool) : Prop :=
  ∃ (gb go gc : Nat) (RB RO C : Nat → Nat), v = .slice (some ⟨gb, go, none⟩) n gc ∧
    (∀ r, r < n → w.cell? ⟨gb, go + r, none⟩ = some (.slice (some ⟨RB r, RO r, none⟩) n (C r))) ∧
    (∀ r c, r < n → c < n → w.cell? ⟨RB r, RO r + c, none⟩ = some (.bool (Z r c)))

theorem Grid.below {w w' : World} {v : Value} {n : Nat} {Z : Nat → Nat → Bool} (h : Grid w v n Z) (hb : Below w.heap.size w w') : Grid w' v n Z := by
  obtain ⟨gb, go, gc, RB, RO, C, e, h1, h2⟩ := h
  exact ⟨gb, go, gc, RB, RO, C, e, fun r hr => by rw [hb.cell (World.block_lt_of_cell? _ _ (h1 r hr))]; exact h1 r hr,
    fun r c hr hc => by rw [hb.cell (World.block_lt_of_cell? _ _ (h2 r c hr hc))]; exact h2 r c hr hc⟩

/-- The slice v is a table of G rows, row r of L r bools. -/
def Rag (w : World) (v : Value) (G : Nat) (L : Nat → Nat) (Z : Nat → Nat → Bool) : Prop :=
  ∃ (ga : Option Addr) (gb go gc : Nat) (A : Nat → Option Addr) (RB RO C : Nat → Nat), v = .slice ga G gc ∧ (0 < G → ga = some ⟨gb, go, none⟩) ∧ G ≤ 9223372036854775807 ∧
    (∀ r, r < G → L r ≤ 9223372036854775807) ∧
    (∀ r, r < G → w.cell? ⟨gb, go + r, none⟩ = some (.slice (A r) (L r) (C r))) ∧
    (∀ r c, r < G → c < L r → A r = some ⟨RB r, RO r, none⟩ ∧ w.cell? ⟨RB r, RO r + c, none⟩ = some (.bool (Z r c)))

theorem Rag.below {w w' : World} {v : Value} {G : Nat} {L : Nat → Nat} {Z : Nat → Nat → Bool} (h : Rag w v G L Z) (hb : Below w.heap.size w w') : Rag w' v G L Z := by
  obtain ⟨ga, gb, go, gc, A, RB, RO, C, e, h0, hG, hL, h1, h2⟩ := h
  exact ⟨ga, gb, go, gc, A, RB, RO, C, e, h0, hG, hL, fun r hr => by rw [hb.cell (World.block_lt_of_cell? _ _ (h1 r hr))]; exact h1 r hr,
    fun r c hr hc => ⟨(h2 r c hr hc).1, by rw [hb.cell (World.block_lt_of_cell? _ _ (h2 r c hr hc).2)]; exact (h2 r c hr hc).2⟩⟩

/-- A table that is square is a Grid. -/
theorem Rag.grid {w : World} {v : Value} {G : Nat} {L : Nat → Nat} {Z : Nat → Nat → Bool} (h : Rag w v G L Z) (h0 : 0 < G) (hL : ∀ r, r < G → L r = G) : Grid w v G Z := by
  obtain ⟨ga, gb, go, gc, A, RB, RO, C, e, hg, _, _, h1, h2⟩ := h
  refine ⟨gb, go, gc, RB, RO, C, by rw [e, hg h0], fun r hr => ?_, fun r c hr hc => ?_⟩
  · have := (h2 r 0 hr (by rw [hL r hr]; omega)).1
    rw [h1 r hr, this, hL r hr]
  · exact (h2 r c hr (by rw [hL r hr]; omega)).2

/-- The slice v is the list ss of strings. -/
def Strs (w : World) (v : Value) (ss : List ByteArray) : Prop :=
  ∃ (a : Option Addr) (b off cap : Nat), v = .slice a ss.length cap ∧ (0 < ss.length → a = some ⟨b, off, none⟩) ∧ ss.length ≤ 9223372036854775807 ∧
    (∀ s ∈ ss, s.size ≤ maxLen) ∧ (∀ j, j < ss.length → w.cell? ⟨b, off + j, none⟩ = some (.string (ss.getD j ByteArray.empty)))

theorem Strs.below {w w' : World} {v : Value} {ss : List ByteArray} (h : Strs w v ss) (hb : Below w.heap.size w w') : Strs w' v ss := by
  obtain ⟨a, b, off, cap, e, h0, hl, hs, h1⟩ := h
  exact ⟨a, b, off, cap, e, h0, hl, hs, fun r hr => by rw [hb.cell (World.block_lt_of_cell? _ _ (h1 r hr))]; exact h1 r hr⟩

end Go.Proofs.YtnheahdcfadclaaGreatDoor

/- Modules, commands and expressions as plain data, and how they lie in memory: told by a number that bounds how deep they are nested. -/
namespace Go.Proofs.YtnheahdcfadclaaGreatDoor
open Go.RowKit

structure Ex where
  kind : Int
  n : Int
  name : ByteArray
  args : List Ex

structure St where
  kind : Int
  name : ByteArray
  e : Ex
  a : List St
  b : List St

structure Fu where
  name : ByteArray
  params : List ByteArray
  body : List St
  result : Ex

structure Va where
  name : ByteArray
  level : ByteArray

structure Mo where
  name : ByteArray
  imports : List ByteArray
  vars : List Va
  funs : List Fu

def I64 (n : Int) : Prop := -9223372036854775808 ≤ n ∧ n ≤ 9223372036854775807

/-- The four values are the expression x, whose arguments lie in memory. -/
def ExAt (w : World) : Nat → Value → Value → Value → Value → Ex → Prop
  | 0, _, _, _, _, _ => False
  | m + 1, c0, c1, c2, c3, x =>
    c0 = .int .i64 x.kind ∧ c1 = .int .i64 x.n ∧ c2 = .string x.name ∧ x.name.size ≤ maxLen ∧ I64 x.kind ∧ I64 x.n ∧
    ∃ (a : Option Addr) (b off cap : Nat), c3 = .slice a x.args.length cap ∧ (0 < x.args.length → a = some ⟨b, off, none⟩) ∧ x.args.length ≤ 9223372036854775807 ∧
      ∀ i y, x.args[i]? = some y → ∃ e0 e1 e2 e3, w.cell? ⟨b, off + i * 4, none⟩ = some e0 ∧ w.cell? ⟨b, off + i * 4 + 1, none⟩ = some e1 ∧ w.cell? ⟨b, off + i * 4 + 2, none⟩ = some e2 ∧ w.cell? ⟨b, off + i * 4 + 3, none⟩ = some e3 ∧ ExAt w m e0 e1 e2 e3 y

theorem ExAt.below {w w' : World} (hb : Below w.heap.size w w') : ∀ {m : Nat} {c0 c1 c2 c3 : Value} {x : Ex}, ExAt w m c0 c1 c2 c3 x → ExAt w' m c0 c1 c2 c3 x
  | 0, _, _, _, _, _, h => h
  | m + 1, c0, c1, c2, c3, x, h => by
    obtain ⟨h0, h1, h2, h3, h4, h5, a, b, off, cap, h6, h7, h8, h9⟩ := h
    refine ⟨h0, h1, h2, h3, h4, h5, a, b, off, cap, h6, h7, h8, fun i y hy => ?_⟩
    obtain ⟨e0, e1, e2, e3, g0, g1, g2, g3, hx⟩ := h9 i y hy
    exact ⟨e0, e1, e2, e3, by rw [hb.cell (World.block_lt_of_cell? _ _ g0)]; exact g0, by rw [hb.cell (World.block_lt_of_cell? _ _ g1)]; exact g1, by rw [hb.cell (World.block_lt_of_cell? _ _ g2)]; exact g2,
      by rw [hb.cell (World.block_lt_of_cell? _ _ g3)]; exact g3, ExAt.below hb hx⟩

theorem ExAt.mono {w : World} : ∀ {m : Nat} {c0 c1 c2 c3 : Value} {x : Ex}, ExAt w m c0 c1 c2 c3 x → ∀ k, m ≤ k → ExAt w k c0 c1 c2 c3 x
  | 0, _, _, _, _, _, h, _, _ => False.elim h
  | m + 1, c0, c1, c2, c3, x, h, 0, hk => by omega
  | m + 1, c0, c1, c2, c3, x, h, k + 1, hk => by
    obtain ⟨h0, h1, h2, h3, h4, h5, a, b, off, cap, h6, h7, h8, h9⟩ := h
    refine ⟨h0, h1, h2, h3, h4, h5, a, b, off, cap, h6, h7, h8, fun i y hy => ?_⟩
    obtain ⟨e0, e1, e2, e3, g0, g1, g2, g3, hx⟩ := h9 i y hy
    exact ⟨e0, e1, e2, e3, g0, g1, g2, g3, ExAt.mono hx k (by omega)⟩

/-- The slice v is a list of commands. -/
def StsAt (w : World) : Nat → Value → List St → Prop
  | 0, _, _ => False
  | m + 1, v, l => ∃ (a : Option Addr) (b off cap : Nat), v = .slice a l.length cap ∧ (0 < l.length → a = some ⟨b, off, none⟩) ∧ l.length ≤ 9223372036854775807 ∧
      ∀ i s, l[i]? = some s → I64 s.kind ∧ s.name.size ≤ maxLen ∧ ∃ e0 e1 e2 e3 va vb, w.cell? ⟨b, off + i * 8, none⟩ = some (.int .i64 s.kind) ∧ w.cell? ⟨b, off + i * 8 + 1, none⟩ = some (.string s.name) ∧
        w.cell? ⟨b, off + i * 8 + 2, none⟩ = some e0 ∧ w.cell? ⟨b, off + i * 8 + 3, none⟩ = some e1 ∧ w.cell? ⟨b, off + i * 8 + 4, none⟩ = some e2 ∧ w.cell? ⟨b, off + i * 8 + 5, none⟩ = some e3 ∧
        w.cell? ⟨b, off + i * 8 + 6, none⟩ = some va ∧ w.cell? ⟨b, off + i * 8 + 7, none⟩ = some vb ∧ ExAt w m e0 e1 e2 e3 s.e ∧ StsAt w m va s.a ∧ StsAt w m vb s.b

theorem StsAt.below {w w' : World} (hb : Below w.heap.size w w') : ∀ {m : Nat} {v : Value} {l : List St}, StsAt w m v l → StsAt w' m v l
  | 0, _, _, h => h
  | m + 1, v, l, h => by
    obtain ⟨a, b, off, cap, h6, h7, h8, h9⟩ := h
    refine ⟨a, b, off, cap, h6, h7, h8, fun i s hs => ?_⟩
    obtain ⟨k1, k2, e0, e1, e2, e3, va, vb, g0, g1, g2, g3, g4, g5, g6, g7, hx, ha, hb'⟩ := h9 i s hs
    exact ⟨k1, k2, e0, e1, e2, e3, va, vb, by rw [hb.cell (World.block_lt_of_cell? _ _ g0)]; exact g0, by rw [hb.cell (World.block_lt_of_cell? _ _ g1)]; exact g1, by rw [hb.cell (World.block_lt_of_cell? _ _ g2)]; exact g2,
      by rw [hb.cell (World.block_lt_of_cell? _ _ g3)]; exact g3, by rw [hb.cell (World.block_lt_of_cell? _ _ g4)]; exact g4, by rw [hb.cell (World.block_lt_of_cell? _ _ g5)]; exact g5,
      by rw [hb.cell (World.block_lt_of_cell? _ _ g6)]; exact g6, by rw [hb.cell (World.block_lt_of_cell? _ _ g7)]; exact g7, hx.below hb, ha.below hb, hb'.below hb⟩

theorem StsAt.mono {w : World} : ∀ {m : Nat} {v : Value} {l : List St}, StsAt w m v l → ∀ k, m ≤ k → StsAt w k v l
  | 0, _, _, h, _, _ => False.elim h
  | m + 1, v, l, h, 0, hk => by omega
  | m + 1, v, l, h, k + 1, hk => by
    obtain ⟨a, b, off, cap, h6, h7, h8, h9⟩ := h
    refine ⟨a, b, off, cap, h6, h7, h8, fun i s hs => ?_⟩
    obtain ⟨k1, k2, e0, e1, e2, e3, va, vb, g0, g1, g2, g3, g4, g5, g6, g7, hx, ha, hb'⟩ := h9 i s hs
    exact ⟨k1, k2, e0, e1, e2, e3, va, vb, g0, g1, g2, g3, g4, g5, g6, g7, hx.mono k (by omega), ha.mono k (by omega), hb'.mono k (by omega)⟩

/-- The slice v is a list of variables. -/
def VasAt (w : World) (v : Value) (l : List Va) : Prop :=
  ∃ (a : Option Addr) (b off cap : Nat), v = .slice a l.length cap ∧ (0 < l.length → a = some ⟨b, off, none⟩) ∧ l.length ≤ 9223372036854775807 ∧
    ∀ i s, l[i]? = some s → s.name.size ≤ maxLen ∧ s.level.size ≤ maxLen ∧ w.cell? ⟨b, off + i * 2, none⟩ = some (.string s.name) ∧ w.cell? ⟨b, off + i * 2 + 1, none⟩ = some (.string s.level)

theorem VasAt.below {w w' : World} {v : Value} {l : List Va} (h : VasAt w v l) (hb : Below w.heap.size w w') : VasAt w' v l := by
  obtain ⟨a, b, off, cap, h6, h7, h8, h9⟩ := h
  refine ⟨a, b, off, cap, h6, h7, h8, fun i s hs => ?_⟩
  obtain ⟨k1, k2, g0, g1⟩ := h9 i s hs
  exact ⟨k1, k2, by rw [hb.cell (World.block_lt_of_cell? _ _ g0)]; exact g0, by rw [hb.cell (World.block_lt_of_cell? _ _ g1)]; exact g1⟩

/-- The slice v is a list of functions. -/
def FusAt (w : World) (m : Nat) (v : Value) (l : List Fu) : Prop :=
  ∃ (a : Option Addr) (b off cap : Nat), v = .slice a l.length cap ∧ (0 < l.length → a = some ⟨b, off, none⟩) ∧ l.length ≤ 9223372036854775807 ∧
    ∀ i s, l[i]? = some s → s.name.size ≤ maxLen ∧ ∃ vp vb e0 e1 e2 e3, w.cell? ⟨b, off + i * 7, none⟩ = some (.string s.name) ∧ w.cell? ⟨b, off + i * 7 + 1, none⟩ = some vp ∧ w.cell? ⟨b, off + i * 7 + 2, none⟩ = some vb ∧
      w.cell? ⟨b, off + i * 7 + 3, none⟩ = some e0 ∧ w.cell? ⟨b, off + i * 7 + 4, none⟩ = some e1 ∧ w.cell? ⟨b, off + i * 7 + 5, none⟩ = some e2 ∧ w.cell? ⟨b, off + i * 7 + 6, none⟩ = some e3 ∧
      Strs w vp s.params ∧ StsAt w m vb s.body ∧ ExAt w m e0 e1 e2 e3 s.result

theorem FusAt.below {w w' : World} {m : Nat} {v : Value} {l : List Fu} (h : FusAt w m v l) (hb : Below w.heap.size w w') : FusAt w' m v l := by
  obtain ⟨a, b, off, cap, h6, h7, h8, h9⟩ := h
  refine ⟨a, b, off, cap, h6, h7, h8, fun i s hs => ?_⟩
  obtain ⟨k1, vp, vb, e0, e1, e2, e3, g0, g1, g2, g3, g4, g5, g6, hp, hs', hx⟩ := h9 i s hs
  exact ⟨k1, vp, vb, e0, e1, e2, e3, by rw [hb.cell (World.block_lt_of_cell? _ _ g0)]; exact g0, by rw [hb.cell (World.block_lt_of_cell? _ _ g1)]; exact g1, by rw [hb.cell (World.block_lt_of_cell? _ _ g2)]; exact g2,
    by rw [hb.cell (World.block_lt_of_cell? _ _ g3)]; exact g3, by rw [hb.cell (World.block_lt_of_cell? _ _ g4)]; exact g4, by rw [hb.cell (World.block_lt_of_cell? _ _ g5)]; exact g5,
    by rw [hb.cell (World.block_lt_of_cell? _ _ g6)]; exact g6, hp.below hb, hs'.below hb, hx.below hb⟩

/-- The value v is the module x. -/
def MoAt (w : World) (m : Nat) (v : Value) (x : Mo) : Prop :=
  ∃ vi vv vf, v = .agg #[.string x.name, vi, vv, vf] ∧ x.name.size ≤ maxLen ∧ Strs w vi x.imports ∧ VasAt w vv x.vars ∧ FusAt w m vf x.funs

theorem MoAt.below {w w' : World} {m : Nat} {v : Value} {x : Mo} (h : MoAt w m v x) (hb : Below w.heap.size w w') : MoAt w' m v x := by
  obtain ⟨vi, vv, vf, h0, h1, h2, h3, h4⟩ := h
  exact ⟨vi, vv, vf, h0, h1, h2.below hb, h3.below hb, h4.below hb⟩

end Go.Proofs.YtnheahdcfadclaaGreatDoor

/- What expressions, commands, functions and modules weigh: bounds of how long their texts are. -/
namespace Go.Proofs.YtnheahdcfadclaaGreatDoor
open Go.RowKit

def exW : Nat → Ex → Nat
  | 0, _ => 0
  | m + 1, x => x.name.size + 4 + (x.args.map (exW m)).sum
def stsW : Nat → List St → Nat
  | 0, _ => 0
  | m + 1, l => (l.map fun s => s.name.size + 3 + exW m s.e + stsW m s.a + stsW m s.b).sum + 1
def strsW (l : List ByteArray) : Nat := (l.map fun s => s.size + 1).sum + 1
def vasW (l : List Va) : Nat := (l.map fun s => s.name.size + s.level.size + 3).sum + 1
def fusW (m : Nat) (l : List Fu) : Nat := (l.map fun s => s.name.size + 2 + strsW s.params + stsW m s.body + exW m s.result).sum + 1
def moW (m : Nat) (x : Mo) : Nat := x.name.size + 2 + strsW x.imports + vasW x.vars + fusW m x.funs

theorem map_congr_get {α β : Type} {f g : α → β} {l : List α} (h : ∀ (i : Nat) (x : α), l[i]? = some x → f x = g x) : l.map f = l.map g :=
  List.map_congr_left fun x hx => by
    obtain ⟨i, hi, rfl⟩ := List.mem_iff_getElem.1 hx
    exact h i _ (List.getElem?_eq_getElem hi)

theorem exW_mono {w : World} : ∀ {m : Nat} {c0 c1 c2 c3 : Value} {x : Ex}, ExAt w m c0 c1 c2 c3 x → ∀ k, m ≤ k → exW k x = exW m x
  | 0, _, _, _, _, _, h, _, _ => False.elim h
  | m + 1, c0, c1, c2, c3, x, h, 0, hk => by omega
  | m + 1, c0, c1, c2, c3, x, h, k + 1, hk => by
    obtain ⟨_, _, _, _, _, _, a, b, off, cap, _, _, _, h9⟩ := h
    simp only [exW]
    rw [map_congr_get (f := exW k) (g := exW m) (fun i y hy => by
      obtain ⟨e0, e1, e2, e3, _, _, _, _, hx⟩ := h9 i y hy
      exact exW_mono hx k (by omega))]
theorem stsW_mono {w : World} : ∀ {m : Nat} {v : Value} {l : List St}, StsAt w m v l → ∀ k, m ≤ k → stsW k l = stsW m l
  | 0, _, _, h, _, _ => False.elim h
  | m + 1, v, l, h, 0, hk => by omega
  | m + 1, v, l, h, k + 1, hk => by
    obtain ⟨a, b, off, cap, _, _, _, h9⟩ := h
    simp only [stsW]
    rw [map_congr_get (fun i s hs => by
      obtain ⟨_, _, e0, e1, e2, e3, va, vb, _, _, _, _, _, _, _, _, hx, ha, hb⟩ := h9 i s hs
      rw [exW_mono hx k (by omega), stsW_mono ha k (by omega), stsW_mono hb k (by omega)])]

end Go.Proofs.YtnheahdcfadclaaGreatDoor

/- How a module that came in is opened: what its reading tells is a module as plain data, and its weight is at most the reading's bulk. -/
namespace Go.Proofs.YtnheahdcfadclaaGreatDoor
open Go.ChangeShapes Go.WideShapes Go.ChangeAt Go.RowKit Go.Deep Go.Joins

section
variable {H : Type} {enc : TypeId × Value → H} {W : World}

/-- A slice, opened at every element: its cells, and its reading with less fuel. -/
theorem open_elems {t e k : Nat} {fuel : Nat} {v : Value} {y : DataW H × List MemPlace} (ht : Tryz.prog.underlying t = some (.slice e)) (hk : Tryz.prog.cellsOf e = k) (hk0 : 0 < k)
    (h : DataW.trod enc Tryz.prog W 0 (fun _ => true) true fuel t [v] = some y) :
    ∃ (a : Option Addr) (b off len cap : Nat) (D : List (DataW H)), v = .slice a len cap ∧ (0 < len → a = some ⟨b, off, none⟩) ∧ len ≤ 9223372036854775807 ∧ D.length = len ∧ Rows.uptoBulkAll D + 1 ≤ Rows.uptoBulk y.1 ∧
      ∀ i, i < len → ∃ n cs d pl, fuel = n + 1 ∧ cs.length = k ∧ (∀ j, j < k → W.cell? ⟨b, off + i * k + j, none⟩ = cs[j]?) ∧ DataW.trod enc Tryz.prog W 0 (fun _ => true) true n e cs = some (d, pl) ∧ D[i]? = some d := by
  rcases DataW.trod_slice ht h with ⟨hcs, rfl⟩ | ⟨a, len, cap, elems, rest, n, hfuel, hcs, rfl, _, hl, hm, hlen, hel, _, _⟩
  · simp at hcs
    subst hcs
    exact ⟨none, 0, 0, 0, 0, [], rfl, fun h => absurd h (Nat.lt_irrefl _), by decide, rfl, by simp [Rows.uptoBulk, Rows.uptoBulkAll], fun i hi => absurd hi (Nat.not_lt_zero _)⟩
  · simp at hcs
    subst hcs
    unfold maxLen at hm
    obtain ⟨b, off, spot⟩ := a
    have each : ∀ i, i < len → ∃ cs d pl, cs.length = k ∧ (∀ j, j < k → W.cell? ((⟨b, off, spot⟩ : Addr).add (i * k + j)) = cs[j]?) ∧ DataW.trod enc Tryz.prog W 0 (fun _ => true) true n e cs = some (d, pl) ∧ (elems.map (·.1))[i]? = some d := by
      intro i hi
      have h1 := hel i hi
      rw [List.getElem?_eq_getElem (by omega), hk] at h1
      obtain ⟨cs, g1, g2⟩ := Option.bind_eq_some_iff.1 h1
      obtain ⟨_, g3, g4⟩ := World.cells?_some g1
      refine ⟨cs, _, _, g3, fun j hj => ?_, g2, by simp [List.getElem?_map, List.getElem?_eq_getElem (show i < elems.length by omega)]⟩
      rw [← add_add]; exact g4 j hj
    have hspot : 0 < len → spot = none := by
      intro h0
      obtain ⟨cs, d, pl, g1, g2, _⟩ := each 0 h0
      have := g2 0 hk0
      rw [List.getElem?_eq_getElem (by omega)] at this
      have := World.cell?_spot this
      simpa [Addr.add] using this
    refine ⟨some ⟨b, off, spot⟩, b, off, len, cap, elems.map (·.1), rfl, fun h0 => by rw [hspot h0], by omega, by simp [hlen], ?_, fun i hi => ?_⟩
    · simp only [Rows.uptoBulk]; omega
    · obtain ⟨cs, d, pl, g1, g2, g3, g4⟩ := each i hi
      refine ⟨n, cs, d, pl, hfuel, g1, fun j hj => ?_, g3, g4⟩
      have := g2 j hj
      rw [hspot (by omega), add_plain] at this
      rw [← this, Nat.add_assoc]

theorem bulk_mem {D : List (DataW H)} : ∀ {f : Nat → Nat}, (∀ i d, D[i]? = some d → f i ≤ Rows.uptoBulk d) → ((List.range D.length).map f).sum ≤ Rows.uptoBulkAll D := by
  induction D with
  | nil => intro f _; simp [Rows.uptoBulkAll]
  | cons d r ih =>
    intro f h
    have h0 := h 0 d rfl
    have h1 := ih (f := fun i => f (i + 1)) (fun i d' hd => h (i + 1) d' (by simpa using hd))
    simp only [Rows.uptoBulkAll, List.length_cons, List.range_succ_eq_map, List.map_cons, List.map_map, List.sum_cons]
    have e : (List.map (f ∘ Nat.succ) (List.range r.length)) = (List.map (fun i => f (i + 1)) (List.range r.length)) := rfl
    rw [e]
    omega

/-- The values that stand at every place, as one list. -/
theorem list_choose {α : Type} : ∀ (len : Nat) {p : Nat → α → Prop}, (∀ i, i < len → ∃ x, p i x) → ∃ l : List α, l.length = len ∧ ∀ (i : Nat) (x : α), l[i]? = some x → p i x
  | 0, _, _ => ⟨[], rfl, fun i x h => by simp at h⟩
  | len + 1, p, h => by
    obtain ⟨x, hx⟩ := h 0 (by omega)
    obtain ⟨l, hl, hp⟩ := list_choose len (p := fun i => p (i + 1)) (fun i hi => h (i + 1) (by omega))
    refine ⟨x :: l, by simp [hl], fun i y hy => ?_⟩
    cases i with
    | zero => simp at hy; subst hy; exact hx
    | succ i => exact hp i y (by simpa using hy)

theorem sum_le {α : Type} {f : α → Nat} : ∀ {l : List α} {D : List (DataW H)}, l.length = D.length → (∀ (i : Nat) (x : α) (d : DataW H), l[i]? = some x → D[i]? = some d → f x ≤ Rows.uptoBulk d) → (l.map f).sum ≤ Rows.uptoBulkAll D
  | [], D, h, _ => by simp
  | x :: l, [], h, _ => by simp at h
  | x :: l, d :: D, h, hp => by
    have h0 := hp 0 x d rfl rfl
    have h1 := sum_le (l := l) (D := D) (by simpa using h) (fun i y d' h1 h2 => hp (i + 1) y d' (by simpa using h1) (by simpa using h2))
    simp only [List.map_cons, List.sum_cons, Rows.uptoBulkAll]
    omega
end

/-! ### Opening -/
theorem cellsEx : Tryz.prog.cellsOf 99 = 4 := by kernel_rfl
theorem cellsSt : Tryz.prog.cellsOf 115 = 8 := by kernel_rfl
theorem cellsFu : Tryz.prog.cellsOf 102 = 7 := by kernel_rfl
theorem cellsVa : Tryz.prog.cellsOf 94 = 2 := by kernel_rfl
theorem cellsMo : Tryz.prog.cellsOf 26 = 4 := by kernel_rfl
theorem cellsInt : Tryz.prog.cellsOf 3 = 1 := by kernel_rfl
theorem cellsStr : Tryz.prog.cellsOf 9 = 1 := by kernel_rfl
theorem cellsStrs : Tryz.prog.cellsOf 22 = 1 := by kernel_rfl
theorem cellsExs : Tryz.prog.cellsOf 97 = 1 := by kernel_rfl
theorem cellsSts : Tryz.prog.cellsOf 95 = 1 := by kernel_rfl
theorem cellsVas : Tryz.prog.cellsOf 23 = 1 := by kernel_rfl
theorem cellsFus : Tryz.prog.cellsOf 24 = 1 := by kernel_rfl

theorem i64_of {n : Int} (h : (Lit.int .i64 n).wf = true) : I64 n := by
  simpa [I64, Lit.wf, IntKind.min, IntKind.max, IntKind.signed, IntKind.bits] using h

theorem size_list' (s : ByteArray) : s.data.toList.length = s.size := rfl

theorem list4 {α : Type} {cs : List α} (h : cs.length = 4) : ∃ a b c d, cs = [a, b, c, d] := by
  match cs, h with
  | [a, b, c, d], _ => exact ⟨a, b, c, d, rfl⟩

section
variable {H : Type} {enc : TypeId × Value → H} {W : World}

theorem open_ex : ∀ (fuel : Nat) {cs : List Value} {d : DataW H} {pl : List MemPlace}, DataW.trod enc Tryz.prog W 0 (fun _ => true) true fuel 99 cs = some (d, pl) →
    ∃ c0 c1 c2 c3 x, cs = [c0, c1, c2, c3] ∧ ExAt W fuel c0 c1 c2 c3 x ∧ exW fuel x ≤ Rows.uptoBulk d := by
  intro fuel
  induction fuel using Nat.strongRecOn with
  | ind fuel ih =>
    intro cs d pl h
    obtain ⟨xs, n, hfn, hx, hlen, hxs, hf⟩ := DataW.trod_struct Tryz.underlying99 h
    rw [cellsEx] at hlen
    obtain ⟨c0, c1, c2, c3, rfl⟩ := list4 hlen
    obtain ⟨y0, y1, y2, y3, rfl⟩ := list4 (by simpa using hxs)
    have f0 : DataW.trod enc Tryz.prog W 0 (fun _ => true) true n 3 (([c0, c1, c2, c3].drop 0).take (Tryz.prog.cellsOf 3)) = some y0 := hf 0 _ rfl
    rw [cellsInt] at f0
    simp only [List.drop, List.take] at f0
    have f1 : DataW.trod enc Tryz.prog W 0 (fun _ => true) true n 3 (([c0, c1, c2, c3].drop 1).take (Tryz.prog.cellsOf 3)) = some y1 := hf 1 _ rfl
    rw [cellsInt] at f1
    simp only [List.drop, List.take] at f1
    have f2 : DataW.trod enc Tryz.prog W 0 (fun _ => true) true n 9 (([c0, c1, c2, c3].drop 2).take (Tryz.prog.cellsOf 9)) = some y2 := hf 2 _ rfl
    rw [cellsStr] at f2
    simp only [List.drop, List.take] at f2
    have f3 : DataW.trod enc Tryz.prog W 0 (fun _ => true) true n 97 (([c0, c1, c2, c3].drop 3).take (Tryz.prog.cellsOf 97)) = some y3 := hf 3 _ rfl
    rw [cellsExs] at f3
    simp only [List.drop, List.take] at f3
    obtain ⟨k0, e0, rfl, w0⟩ := DataW.trod_int Tryz.underlying3 f0
    obtain ⟨k1, e1, rfl, w1⟩ := DataW.trod_int Tryz.underlying3 f1
    obtain ⟨s, e2, rfl, hs⟩ := DataW.trod_string Tryz.underlying9 f2
    simp at e0 e1 e2
    subst e0 e1 e2
    obtain ⟨a, b, off, len, cap, D, hv, ha, hl, hD, hbulk, hel⟩ := open_elems Tryz.underlying97 cellsEx (by decide) f3
    have each : ∀ i, i < len → ∃ x : Ex, ∃ d', D[i]? = some d' ∧ exW n x ≤ Rows.uptoBulk d' ∧ ∃ e0 e1 e2 e3, W.cell? ⟨b, off + i * 4, none⟩ = some e0 ∧ W.cell? ⟨b, off + i * 4 + 1, none⟩ = some e1 ∧ W.cell? ⟨b, off + i * 4 + 2, none⟩ = some e2 ∧ W.cell? ⟨b, off + i * 4 + 3, none⟩ = some e3 ∧ ExAt W n e0 e1 e2 e3 x := by
      intro i hi
      obtain ⟨n', cs, d', pl', hn', hlen', hcell, htrod, hDi⟩ := hel i hi
      obtain ⟨e0, e1, e2, e3, x, rfl, hx', hw⟩ := ih n' (by omega) htrod
      refine ⟨x, d', hDi, by rw [exW_mono hx' n (by omega)]; exact hw, e0, e1, e2, e3, hcell 0 (by decide), hcell 1 (by decide), hcell 2 (by decide), hcell 3 (by decide), hx'.mono n (by omega)⟩
    obtain ⟨l, hll, hp⟩ := list_choose len each
    simp only [Prod.mk.injEq] at hx
    obtain ⟨rfl, _⟩ := hx
    subst hfn
    refine ⟨_, _, _, _, ⟨k0, k1, s, l⟩, rfl, ⟨rfl, rfl, rfl, hs, i64_of w0, i64_of w1, a, b, off, cap, by rw [hv, ← hll], by rw [hll]; exact ha, by rw [hll]; exact hl, fun i y hy => ?_⟩, ?_⟩
    · obtain ⟨_, _, _, hh⟩ := hp i y hy
      exact hh
    · have hsum := sum_le (f := exW n) (l := l) (D := D) (by rw [hll, hD]) (fun i x d' h1 h2 => by
        obtain ⟨d'', h3, h4, _⟩ := hp i x h1
        rw [h2] at h3
        cases h3
        exact h4)
      simp only [exW, List.map_cons, List.map_nil, Rows.uptoBulk, Rows.uptoBulkAll, size_list']
      omega
end

end Go.Proofs.YtnheahdcfadclaaGreatDoor
