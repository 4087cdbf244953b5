/- Plain mathematics of levels, without any program: what a table of bools says of joins, told by functions of numbers. -/
import Derived.WalkKit
import Derived.WalkSpells
import Derived.WalkLawsBesides
import Derived.Test.YtbncnkfogkhoeaaGreatDoorChecked
import Derived.Deep.QuietTactic
import Derived.BigQuiet
namespace Go.Proofs.YtbncnkfogkhoeaaGreatDoor
namespace Lat

theorem all_true {p : Nat → Bool} {n : Nat} (h : ∀ d, d < n → p d = true) : (List.range n).all p = true := by
  rw [List.all_eq_true]; intro x hx; exact h x (List.mem_range.1 hx)
theorem all_false {p : Nat → Bool} {n k : Nat} (hk : k < n) (h : p k = false) : (List.range n).all p = false := by
  rw [List.all_eq_false]; exact ⟨k, List.mem_range.2 hk, by simp [h]⟩
theorem all_get {p : Nat → Bool} {n k : Nat} (h : (List.range n).all p = true) (hk : k < n) : p k = true :=
  List.all_eq_true.1 h k (List.mem_range.2 hk)
theorem find_none {p : Nat → Bool} {n : Nat} (h : ∀ c, c < n → p c = false) : (List.range n).find? p = none := by
  rw [List.find?_eq_none]; intro x hx; simp [h x (List.mem_range.1 hx)]
theorem find_hit {p : Nat → Bool} : ∀ {n k : Nat}, k < n → (∀ c, c < k → p c = false) → p k = true → (List.range n).find? p = some k := by
  intro n k hk h0 h1
  induction n with
  | zero => omega
  | succ n ih =>
    rw [List.range_succ, List.find?_append]
    by_cases e : k < n
    · rw [ih e]; rfl
    · have : k = n := by omega
      subst this
      rw [find_none h0]; simp [h1]
theorem find_spec {p : Nat → Bool} {n k : Nat} (h : (List.range n).find? p = some k) : k < n ∧ p k = true :=
  ⟨List.mem_range.1 (List.mem_of_find?_eq_some h), List.find?_some h⟩

/-- Is c below all that is above both a and b? -/
def belowB (Z : Nat → Nat → Bool) (n a b c : Nat) : Bool := (List.range n).all fun d => !(Z a d && Z b d && !Z c d)
def joinP (Z : Nat → Nat → Bool) (n a b c : Nat) : Bool := Z a c && Z b c && belowB Z n a b c
/-- The join of a and b, if there is one. -/
def joinO (Z : Nat → Nat → Bool) (n a b : Nat) : Option Nat := (List.range n).find? (joinP Z n a b)
def fitsP (Z : Nat → Nat → Bool) (a b c : Nat) : Bool := !(Z b c && !Z a c)
def fitsB (Z : Nat → Nat → Bool) (n a b : Nat) : Bool := !(a != b && Z b a) && (List.range n).all (fitsP Z a b)
def orderR (Z : Nat → Nat → Bool) (n a b : Nat) : Bool := !(Z a b && !fitsB Z n a b)
def orderP (Z : Nat → Nat → Bool) (n a : Nat) : Bool := Z a a && (List.range n).all (orderR Z n a)
def orderB (Z : Nat → Nat → Bool) (n : Nat) : Bool := (List.range n).all (orderP Z n)
def tr (Z : Nat → Nat → Bool) : Nat → Nat → Bool := fun a b => Z b a
def joinsP (Z : Nat → Nat → Bool) (n a b : Nat) : Bool := (joinO Z n a b).isSome
def joinsB (Z : Nat → Nat → Bool) (n : Nat) : Bool := (List.range n).all fun a => (List.range a).all (joinsP Z n a)
def lowP (Z : Nat → Nat → Bool) (n a : Nat) : Bool := (List.range n).all (Z a)
def lowN (Z : Nat → Nat → Bool) (n : Nat) : Nat := ((List.range n).find? (lowP Z n)).getD 0
def joinN (Z : Nat → Nat → Bool) (n a b : Nat) : Nat := (joinO Z n a b).getD 0
def joinE (Z : Nat → Nat → Bool) (n a b : Nat) : Int := if (joinO Z n a b).isSome then 0 else 5

end Lat
end Go.Proofs.YtbncnkfogkhoeaaGreatDoor

/- How a table of bools and a list of strings lie in memory, as the walks over package lattice want it. -/
namespace Go.Proofs.YtbncnkfogkhoeaaGreatDoor
open Go.RowKit

theorem hide {p : Prop} (h : p) : Hid p := h
theorem unhide {p : Prop} (h : Hid p) : p := h

/-- The slice v is a square table of n rows of n bools: Z. -/
def Grid (w : World) (v : Value) (n : Nat) (Z : Nat → Nat → Bool) : Prop :=
  ∃ (gb go gc : Nat) (RB RO C : Nat → Nat), v = .slice (some ⟨gb, go, none⟩) n gc ∧
    (∀ r, r < n → w.cell? ⟨gb, go + r, none⟩ = some (.slice (some ⟨RB r, RO r, none⟩) n (C r))) ∧
    (∀ r c, r < n → c < n → w.cell? ⟨RB r, RO r + c, none⟩ = some (.bool (Z r c)))

theorem Grid.below {w w' : World} {v : Value} {n : Nat} {Z : Nat → Nat → Bool} (h : Grid w v n Z) (hb : Below w.heap.size w w') : Grid w' v n Z := by
  obtain ⟨gb, go, gc, RB, RO, C, e, h1, h2⟩ := h
  exact ⟨gb, go, gc, RB, RO, C, e, fun r hr => by rw [hb.cell (World.block_lt_of_cell? _ _ (h1 r hr))]; exact h1 r hr,
    fun r c hr hc => by rw [hb.cell (World.block_lt_of_cell? _ _ (h2 r c hr hc))]; exact h2 r c hr hc⟩

/-- The slice v is a table of G rows, row r of L r bools. -/
def Rag (w : World) (v : Value) (G : Nat) (L : Nat → Nat) (Z : Nat → Nat → Bool) : Prop :=
  ∃ (ga : Option Addr) (gb go gc : Nat) (A : Nat → Option Addr) (RB RO C : Nat → Nat), v = .slice ga G gc ∧ (0 < G → ga = some ⟨gb, go, none⟩) ∧ G ≤ 9223372036854775807 ∧
    (∀ r, r < G → L r ≤ 9223372036854775807) ∧
    (∀ r, r < G → w.cell? ⟨gb, go + r, none⟩ = some (.slice (A r) (L r) (C r))) ∧
    (∀ r c, r < G → c < L r → A r = some ⟨RB r, RO r, none⟩ ∧ w.cell? ⟨RB r, RO r + c, none⟩ = some (.bool (Z r c)))

theorem Rag.below {w w' : World} {v : Value} {G : Nat} {L : Nat → Nat} {Z : Nat → Nat → Bool} (h : Rag w v G L Z) (hb : Below w.heap.size w w') : Rag w' v G L Z := by
  obtain ⟨ga, gb, go, gc, A, RB, RO, C, e, h0, hG, hL, h1, h2⟩ := h
  exact ⟨ga, gb, go, gc, A, RB, RO, C, e, h0, hG, hL, fun r hr => by rw [hb.cell (World.block_lt_of_cell? _ _ (h1 r hr))]; exact h1 r hr,
    fun r c hr hc => ⟨(h2 r c hr hc).1, by rw [hb.cell (World.block_lt_of_cell? _ _ (h2 r c hr hc).2)]; exact (h2 r c hr hc).2⟩⟩

/-- A table that is square is a Grid. -/
theorem Rag.grid {w : World} {v : Value} {G : Nat} {L : Nat → Nat} {Z : Nat → Nat → Bool} (h : Rag w v G L Z) (h0 : 0 < G) (hL : ∀ r, r < G → L r = G) : Grid w v G Z := by
  obtain ⟨ga, gb, go, gc, A, RB, RO, C, e, hg, _, _, h1, h2⟩ := h
  refine ⟨gb, go, gc, RB, RO, C, by rw [e, hg h0], fun r hr => ?_, fun r c hr hc => ?_⟩
  · have := (h2 r 0 hr (by rw [hL r hr]; omega)).1
    rw [h1 r hr, this, hL r hr]
  · exact (h2 r c hr (by rw [hL r hr]; omega)).2

/-- The slice v is the list ss of strings. -/
def Strs (w : World) (v : Value) (ss : List ByteArray) : Prop :=
  ∃ (a : Option Addr) (b off cap : Nat), v = .slice a ss.length cap ∧ (0 < ss.length → a = some ⟨b, off, none⟩) ∧ ss.length ≤ 9223372036854775807 ∧
    (∀ s ∈ ss, s.size ≤ maxLen) ∧ (∀ j, j < ss.length → w.cell? ⟨b, off + j, none⟩ = some (.string (ss.getD j ByteArray.empty)))

theorem Strs.below {w w' : World} {v : Value} {ss : List ByteArray} (h : Strs w v ss) (hb : Below w.heap.size w w') : Strs w' v ss := by
  obtain ⟨a, b, off, cap, e, h0, hl, hs, h1⟩ := h
  exact ⟨a, b, off, cap, e, h0, hl, hs, fun r hr => by rw [hb.cell (World.block_lt_of_cell? _ _ (h1 r hr))]; exact h1 r hr⟩

end Go.Proofs.YtbncnkfogkhoeaaGreatDoor

/- Small facts that every walk of ours wants, of whatever program. -/
namespace Go.Proofs.YtbncnkfogkhoeaaGreatDoor
open Go.RowKit

namespace Lat
def letterB (c : UInt8) : Bool := decide (97 ≤ c.toNat) && decide (c.toNat ≤ 122)
def nameB (l : List UInt8) : Bool := decide (1 ≤ l.length) && decide (l.length ≤ 8) && l.all letterB
end Lat

theorem size_list (s : ByteArray) : s.data.toList.length = s.size := rfl
theorem letters_all (s : ByteArray) (h : ∀ j (hj : j < s.size), Lat.letterB s[j] = true) : s.data.toList.all Lat.letterB = true := by
  rw [List.all_eq_true]
  intro x hx
  obtain ⟨j, hj, rfl⟩ := List.mem_iff_getElem.1 hx
  exact h j (by simpa using hj)
theorem letters_not (s : ByteArray) (j : Nat) (hj : j < s.size) (h : Lat.letterB s[j] = false) : s.data.toList.all Lat.letterB = false := by
  rw [List.all_eq_false]
  exact ⟨s[j], List.mem_iff_getElem.2 ⟨j, by simpa using hj, rfl⟩, by simp [h]⟩
theorem ret_bool {a b : Bool} (h : a = b) : Ending.returned (.bool a) = .returned (.bool b) := by rw [h]
theorem ret_two {a b : Int} {c d : Int} (h : a = c) (h' : b = d) : Ending.returned (.tuple #[.int .i64 a, .int .i64 b]) = .returned (.tuple #[.int .i64 c, .int .i64 d]) := by rw [h, h']
theorem ret_int {k : IntKind} {a b : Int} (h : a = b) : Ending.returned (.int k a) = .returned (.int k b) := by rw [h]
theorem nat_bne (a b : Nat) : ((a : Int) != (b : Int)) = (a != b) := by
  rw [Bool.eq_iff_iff]; simp only [bne_iff_ne, ne_eq]; omega
theorem up {w w1 w2 : World} (h : Below w.heap.size w w1) (h2 : Below w1.heap.size w1 w2) : Below w.heap.size w w2 := h.trans (h2.mono h.size)
theorem up1 {w w2 : World} {o : Obj} (h2 : Below (w.alloc o).heap.size (w.alloc o) w2) : Below w.heap.size w w2 := up ((Below.refl _ _).alloc (Nat.le_refl _) _) h2
theorem cellUp {w w1 : World} {a : Addr} {v : Value} (h : w.cell? a = some v) (hb : Below w.heap.size w w1) : w1.cell? a = some v := by
  rw [hb.cell (World.block_lt_of_cell? _ _ h)]; exact h
theorem cellBox0 (w : World) (x y : Value) (t : TypeId) : (w.alloc (.cells #[x, y] t)).cell? ⟨w.heap.size, 0, none⟩ = some x := by simp [go_sem]
theorem cellBox1 (w : World) (x y : Value) (t : TypeId) : (w.alloc (.cells #[x, y] t)).cell? ⟨w.heap.size, 1, none⟩ = some y := by simp [go_sem]
theorem bne_zero_true {x : Int} (h : x ≠ 0) : (x != 0) = true := by simp [h]
theorem val_bool {a b : Bool} (h : a = b) : Value.bool a = .bool b := by rw [h]
theorem boxBelow (w : World) (o : Obj) : Below w.heap.size w (w.alloc o) := (Below.refl _ _).alloc (Nat.le_refl _) _
theorem nat_beq (a b : Nat) : ((a : Int) == (b : Int)) = (a == b) := by
  rw [Bool.eq_iff_iff]; simp only [beq_iff_eq]; omega
theorem drewBelow {B : Nat} {a w : World} (h : Below B a w) (k : Nat) : Below B a (w.drewN k) := h.trans ⟨rfl, rfl, rfl, Nat.le_refl _, fun _ _ => rfl⟩
theorem val_int {a b : Nat} (h : a = b) : Value.int .i64 a = .int .i64 b := by rw [h]
theorem ret_two' {a b : Int} {c d : Int} (h : a = c) (h' : b = d) : Ending.returned (.tuple #[.int .i64 a, .int .i64 b]) = .returned (.tuple #[.int .i64 c, .int .i64 d]) := by rw [h, h']

end Go.Proofs.YtbncnkfogkhoeaaGreatDoor

/- Walks over package downref, first part: In, Name, Index of strings, Find. -/
namespace Go.Proofs.YtbncnkfogkhoeaaGreatDoor
open Go.RowKit

theorem in_any (w : World) (a lo hi : Int) :
    Calls Tryz.prog 60 #[.int .i64 a, .int .i64 lo, .int .i64 hi] w fun e w' => e = .returned (.bool (decide (lo ≤ a) && decide (a ≤ hi))) ∧ w' = w := by
  by_cases h0 : lo ≤ a
  · by_cases h1 : a ≤ hi
    · go_enter Tryz.func60, Tryz.ntmps60
      go_wp2
      go_ret
      exact ⟨ret_bool (by simp [h0, h1]), rfl⟩
    · go_enter Tryz.func60, Tryz.ntmps60
      go_wp2
      go_ret
      exact ⟨ret_bool (by rw [decide_eq_false (by omega : ¬ a ≤ hi)]), rfl⟩
  · go_enter Tryz.func60, Tryz.ntmps60
    go_wp2
    go_ret
    exact ⟨ret_bool (by rw [decide_eq_false (by omega : ¬ lo ≤ a)]; rfl), rfl⟩

/-- What Name's ok holds behind k letters. -/
def nameTo (s : ByteArray) (k : Nat) : Bool := decide (1 ≤ s.size) && decide (s.size ≤ 8) && (s.data.toList.take k).all Lat.letterB

theorem nameTo_succ (s : ByteArray) (k : Nat) (hk : k < s.size) : nameTo s (k + 1) = (nameTo s k && Lat.letterB s[k]) := by
  unfold nameTo
  have e : s.data.toList.take (k + 1) = s.data.toList.take k ++ [s[k]] := by
    rw [List.take_succ_eq_append_getElem (by simpa using hk)]; rfl
  rw [e, List.all_append]
  simp [Bool.and_assoc]
theorem nameTo_all (s : ByteArray) : nameTo s s.size = Lat.nameB s.data.toList := by
  unfold nameTo Lat.nameB
  rw [List.take_of_length_le (by simp), size_list]

set_option maxHeartbeats 1000000 in
theorem name_any (w : World) (s : ByteArray) (hs : s.size ≤ maxLen) :
    Calls Tryz.prog 83 #[.string s] w fun e w' => e = .returned (.bool (Lat.nameB s.data.toList)) ∧ w' = w := by
  unfold maxLen at hs
  go_enter Tryz.func83, Tryz.ntmps83
  go_wp2_with fail
  refine (in_any _ _ _ _).mono ?_
  rintro e w' ⟨rfl, rfl⟩
  have h0 : (decide ((1 : Int) ≤ (s.size : Int)) && decide ((s.size : Int) ≤ 8)) = nameTo s 0 := by
    unfold nameTo
    rw [show decide ((1 : Int) ≤ (s.size : Int)) = decide (1 ≤ s.size) from decide_eq_decide.2 (by omega), show decide ((s.size : Int) ≤ 8) = decide (s.size ≤ 8) from decide_eq_decide.2 (by omega)]
    simp
  rw [h0]
  clear h0
  go_wp2
  go_loop [3, 4] (fun b i => ∃ k : Nat, k ≤ s.size ∧ i = .int .i64 k ∧ b = .bool (nameTo s k)) (fun _ i => s.size - (intOf i).toNat)
  case atStart => exact ⟨0, Nat.zero_le _, rfl, rfl⟩
  case round =>
    obtain ⟨k, hk, rfl, rfl⟩ := hrel
    by_cases hlt : k < s.size
    · have HS := hide (nameTo_succ s k hlt)
      cases hb : nameTo s k
      · have HB := hide hb
        go_wp2
        go_round
        case rel => exact ⟨k + 1, by omega, by go_num, val_bool (by rw [HS.out, HB.out]; rfl)⟩
        case measure => simp [intOf]; omega
      · have HB := hide hb
        go_wp2
        all_goals
          go_round
          case rel => exact ⟨k + 1, by omega, by go_num, val_bool (by rw [HS.out, HB.out]; unfold Lat.letterB; rw [Bool.eq_iff_iff]; simp; omega)⟩
          case measure => simp [intOf]; omega
    · go_wp2
      go_ret
      have e : k = s.size := by omega
      exact ⟨ret_bool (by rw [e, nameTo_all]), rfl⟩

end Go.Proofs.YtbncnkfogkhoeaaGreatDoor

/- Walks over package downref, beside: slices.Index of strings. -/
namespace Go.Proofs.YtbncnkfogkhoeaaGreatDoor
open Go.RowKit

namespace Lat
def isAt (ss : List ByteArray) (t : ByteArray) (i : Nat) : Bool := t.toList == (ss.getD i ByteArray.empty).toList
/-- The place of a name; -1: there is none. -/
def indexI (ss : List ByteArray) (t : ByteArray) : Int := match (List.range ss.length).find? (isAt ss t) with | some i => i | none => -1
end Lat

set_option maxHeartbeats 1000000 in
theorem indexS_any (w : World) (v : Value) (ss : List ByteArray) (t : ByteArray) (hS : Strs w v ss) :
    Calls Tryz.prog 92 #[v, .string t] w fun e w' => e = .returned (.int .i64 (Lat.indexI ss t)) ∧ w' = w := by
  obtain ⟨a, b, off, cap, rfl, ha, hl, hs, h1⟩ := hS
  obtain ⟨len, hlen⟩ : ∃ len, len = ss.length := ⟨_, rfl⟩
  rw [← hlen] at ha hl h1 ⊢
  have HL : Hid (len = ss.length) := hlen
  clear hlen
  go_enter Tryz.func92, Tryz.ntmps92
  go_wp2
  go_loop [8] (fun i => ∃ k : Nat, k ≤ len ∧ i = .int .i64 k ∧ ∀ d, d < k → Lat.isAt ss t d = false) (fun i => len - (intOf i).toNat)
  case atStart => exact ⟨0, Nat.zero_le _, rfl, fun d hd => absurd hd (Nat.not_lt_zero _)⟩
  case round =>
    obtain ⟨k, hk, rfl, hall⟩ := hrel
    have HA : Hid (∀ d, d < k → Lat.isAt ss t d = false) := hall
    clear hall
    by_cases hlt : k < len
    · obtain rfl := ha (by omega)
      obtain ⟨s, hsk⟩ : ∃ s, s = ss.getD k ByteArray.empty := ⟨_, rfl⟩
      have hcx := h1 k hlt
      rw [← hsk] at hcx
      have HK := hide hsk
      clear hsk h1 hs
      cases hh : (t.toList == s.toList)
      · go_wp2
        go_round
        case rel => exact ⟨k + 1, by omega, by go_num, fun d hd => by
            by_cases e : d = k
            · subst e; unfold Lat.isAt; rw [← HK.out]; exact hh
            · exact HA.out d (by omega)⟩
        case measure => simp [intOf]; omega
      · go_wp2
        go_ret
        exact ⟨ret_int (by unfold Lat.indexI; rw [Lat.find_hit (by rw [← HL.out]; exact hlt) HA.out (by unfold Lat.isAt; rw [← HK.out]; exact hh)]), rfl⟩
    · go_wp2
      go_ret
      exact ⟨ret_int (by unfold Lat.indexI; rw [Lat.find_none (fun d hd => HA.out d (by have := HL.out; omega))]), rfl⟩

end Go.Proofs.YtbncnkfogkhoeaaGreatDoor

/- Modules, commands and expressions as plain data, and how they lie in memory: told by a number that bounds how deep they are nested. -/
namespace Go.Proofs.YtbncnkfogkhoeaaGreatDoor
open Go.RowKit

structure Ex where
  kind : Int
  n : Int
  name : ByteArray
  args : List Ex

structure St where
  kind : Int
  name : ByteArray
  e : Ex
  a : List St
  b : List St

structure Fu where
  name : ByteArray
  params : List ByteArray
  body : List St
  result : Ex

structure Va where
  name : ByteArray
  level : ByteArray

structure Mo where
  name : ByteArray
  imports : List ByteArray
  vars : List Va
  funs : List Fu

def I64 (n : Int) : Prop := -9223372036854775808 ≤ n ∧ n ≤ 9223372036854775807

/-- The four values are the expression x, whose arguments lie in memory. -/
def ExAt (w : World) : Nat → Value → Value → Value → Value → Ex → Prop
  | 0, _, _, _, _, _ => False
  | m + 1, c0, c1, c2, c3, x =>
    c0 = .int .i64 x.kind ∧ c1 = .int .i64 x.n ∧ c2 = .string x.name ∧ x.name.size ≤ maxLen ∧ I64 x.kind ∧ I64 x.n ∧
    ∃ (a : Option Addr) (b off cap : Nat), c3 = .slice a x.args.length cap ∧ (0 < x.args.length → a = some ⟨b, off, none⟩) ∧ x.args.length ≤ 9223372036854775807 ∧
      ∀ i y, x.args[i]? = some y → ∃ e0 e1 e2 e3, w.cell? ⟨b, off + i * 4, none⟩ = some e0 ∧ w.cell? ⟨b, off + i * 4 + 1, none⟩ = some e1 ∧ w.cell? ⟨b, off + i * 4 + 2, none⟩ = some e2 ∧ w.cell? ⟨b, off + i * 4 + 3, none⟩ = some e3 ∧ ExAt w m e0 e1 e2 e3 y

theorem ExAt.below {w w' : World} (hb : Below w.heap.size w w') : ∀ {m : Nat} {c0 c1 c2 c3 : Value} {x : Ex}, ExAt w m c0 c1 c2 c3 x → ExAt w' m c0 c1 c2 c3 x
  | 0, _, _, _, _, _, h => h
  | m + 1, c0, c1, c2, c3, x, h => by
    obtain ⟨h0, h1, h2, h3, h4, h5, a, b, off, cap, h6, h7, h8, h9⟩ := h
    refine ⟨h0, h1, h2, h3, h4, h5, a, b, off, cap, h6, h7, h8, fun i y hy => ?_⟩
    obtain ⟨e0, e1, e2, e3, g0, g1, g2, g3, hx⟩ := h9 i y hy
    exact ⟨e0, e1, e2, e3, by rw [hb.cell (World.block_lt_of_cell? _ _ g0)]; exact g0, by rw [hb.cell (World.block_lt_of_cell? _ _ g1)]; exact g1, by rw [hb.cell (World.block_lt_of_cell? _ _ g2)]; exact g2,
      by rw [hb.cell (World.block_lt_of_cell? _ _ g3)]; exact g3, ExAt.below hb hx⟩

theorem ExAt.mono {w : World} : ∀ {m : Nat} {c0 c1 c2 c3 : Value} {x : Ex}, ExAt w m c0 c1 c2 c3 x → ∀ k, m ≤ k → ExAt w k c0 c1 c2 c3 x
  | 0, _, _, _, _, _, h, _, _ => False.elim h
  | m + 1, c0, c1, c2, c3, x, h, 0, hk => by omega
  | m + 1, c0, c1, c2, c3, x, h, k + 1, hk => by
    obtain ⟨h0, h1, h2, h3, h4, h5, a, b, off, cap, h6, h7, h8, h9⟩ := h
    refine ⟨h0, h1, h2, h3, h4, h5, a, b, off, cap, h6, h7, h8, fun i y hy => ?_⟩
    obtain ⟨e0, e1, e2, e3, g0, g1, g2, g3, hx⟩ := h9 i y hy
    exact ⟨e0, e1, e2, e3, g0, g1, g2, g3, ExAt.mono hx k (by omega)⟩

/-- The slice v is a list of commands. -/
def StsAt (w : World) : Nat → Value → List St → Prop
  | 0, _, _ => False
  | m + 1, v, l => ∃ (a : Option Addr) (b off cap : Nat), v = .slice a l.length cap ∧ (0 < l.length → a = some ⟨b, off, none⟩) ∧ l.length ≤ 9223372036854775807 ∧
      ∀ i s, l[i]? = some s → I64 s.kind ∧ s.name.size ≤ maxLen ∧ ∃ e0 e1 e2 e3 va vb, w.cell? ⟨b, off + i * 8, none⟩ = some (.int .i64 s.kind) ∧ w.cell? ⟨b, off + i * 8 + 1, none⟩ = some (.string s.name) ∧
        w.cell? ⟨b, off + i * 8 + 2, none⟩ = some e0 ∧ w.cell? ⟨b, off + i * 8 + 3, none⟩ = some e1 ∧ w.cell? ⟨b, off + i * 8 + 4, none⟩ = some e2 ∧ w.cell? ⟨b, off + i * 8 + 5, none⟩ = some e3 ∧
        w.cell? ⟨b, off + i * 8 + 6, none⟩ = some va ∧ w.cell? ⟨b, off + i * 8 + 7, none⟩ = some vb ∧ ExAt w m e0 e1 e2 e3 s.e ∧ StsAt w m va s.a ∧ StsAt w m vb s.b

theorem StsAt.below {w w' : World} (hb : Below w.heap.size w w') : ∀ {m : Nat} {v : Value} {l : List St}, StsAt w m v l → StsAt w' m v l
  | 0, _, _, h => h
  | m + 1, v, l, h => by
    obtain ⟨a, b, off, cap, h6, h7, h8, h9⟩ := h
    refine ⟨a, b, off, cap, h6, h7, h8, fun i s hs => ?_⟩
    obtain ⟨k1, k2, e0, e1, e2, e3, va, vb, g0, g1, g2, g3, g4, g5, g6, g7, hx, ha, hb'⟩ := h9 i s hs
    exact ⟨k1, k2, e0, e1, e2, e3, va, vb, by rw [hb.cell (World.block_lt_of_cell? _ _ g0)]; exact g0, by rw [hb.cell (World.block_lt_of_cell? _ _ g1)]; exact g1, by rw [hb.cell (World.block_lt_of_cell? _ _ g2)]; exact g2,
      by rw [hb.cell (World.block_lt_of_cell? _ _ g3)]; exact g3, by rw [hb.cell (World.block_lt_of_cell? _ _ g4)]; exact g4, by rw [hb.cell (World.block_lt_of_cell? _ _ g5)]; exact g5,
      by rw [hb.cell (World.block_lt_of_cell? _ _ g6)]; exact g6, by rw [hb.cell (World.block_lt_of_cell? _ _ g7)]; exact g7, hx.below hb, ha.below hb, hb'.below hb⟩

theorem StsAt.mono {w : World} : ∀ {m : Nat} {v : Value} {l : List St}, StsAt w m v l → ∀ k, m ≤ k → StsAt w k v l
  | 0, _, _, h, _, _ => False.elim h
  | m + 1, v, l, h, 0, hk => by omega
  | m + 1, v, l, h, k + 1, hk => by
    obtain ⟨a, b, off, cap, h6, h7, h8, h9⟩ := h
    refine ⟨a, b, off, cap, h6, h7, h8, fun i s hs => ?_⟩
    obtain ⟨k1, k2, e0, e1, e2, e3, va, vb, g0, g1, g2, g3, g4, g5, g6, g7, hx, ha, hb'⟩ := h9 i s hs
    exact ⟨k1, k2, e0, e1, e2, e3, va, vb, g0, g1, g2, g3, g4, g5, g6, g7, hx.mono k (by omega), ha.mono k (by omega), hb'.mono k (by omega)⟩

/-- The slice v is a list of variables. -/
def VasAt (w : World) (v : Value) (l : List Va) : Prop :=
  ∃ (a : Option Addr) (b off cap : Nat), v = .slice a l.length cap ∧ (0 < l.length → a = some ⟨b, off, none⟩) ∧ l.length ≤ 9223372036854775807 ∧
    ∀ i s, l[i]? = some s → s.name.size ≤ maxLen ∧ s.level.size ≤ maxLen ∧ w.cell? ⟨b, off + i * 2, none⟩ = some (.string s.name) ∧ w.cell? ⟨b, off + i * 2 + 1, none⟩ = some (.string s.level)

theorem VasAt.below {w w' : World} {v : Value} {l : List Va} (h : VasAt w v l) (hb : Below w.heap.size w w') : VasAt w' v l := by
  obtain ⟨a, b, off, cap, h6, h7, h8, h9⟩ := h
  refine ⟨a, b, off, cap, h6, h7, h8, fun i s hs => ?_⟩
  obtain ⟨k1, k2, g0, g1⟩ := h9 i s hs
  exact ⟨k1, k2, by rw [hb.cell (World.block_lt_of_cell? _ _ g0)]; exact g0, by rw [hb.cell (World.block_lt_of_cell? _ _ g1)]; exact g1⟩

/-- The slice v is a list of functions. -/
def FusAt (w : World) (m : Nat) (v : Value) (l : List Fu) : Prop :=
  ∃ (a : Option Addr) (b off cap : Nat), v = .slice a l.length cap ∧ (0 < l.length → a = some ⟨b, off, none⟩) ∧ l.length ≤ 9223372036854775807 ∧
    ∀ i s, l[i]? = some s → s.name.size ≤ maxLen ∧ ∃ vp vb e0 e1 e2 e3, w.cell? ⟨b, off + i * 7, none⟩ = some (.string s.name) ∧ w.cell? ⟨b, off + i * 7 + 1, none⟩ = some vp ∧ w.cell? ⟨b, off + i * 7 + 2, none⟩ = some vb ∧
      w.cell? ⟨b, off + i * 7 + 3, none⟩ = some e0 ∧ w.cell? ⟨b, off + i * 7 + 4, none⟩ = some e1 ∧ w.cell? ⟨b, off + i * 7 + 5, none⟩ = some e2 ∧ w.cell? ⟨b, off + i * 7 + 6, none⟩ = some e3 ∧
      Strs w vp s.params ∧ StsAt w m vb s.body ∧ ExAt w m e0 e1 e2 e3 s.result

theorem FusAt.below {w w' : World} {m : Nat} {v : Value} {l : List Fu} (h : FusAt w m v l) (hb : Below w.heap.size w w') : FusAt w' m v l := by
  obtain ⟨a, b, off, cap, h6, h7, h8, h9⟩ := h
  refine ⟨a, b, off, cap, h6, h7, h8, fun i s hs => ?_⟩
  obtain ⟨k1, vp, vb, e0, e1, e2, e3, g0, g1, g2, g3, g4, g5, g6, hp, hs', hx⟩ := h9 i s hs
  exact ⟨k1, vp, vb, e0, e1, e2, e3, by rw [hb.cell (World.block_lt_of_cell? _ _ g0)]; exact g0, by rw [hb.cell (World.block_lt_of_cell? _ _ g1)]; exact g1, by rw [hb.cell (World.block_lt_of_cell? _ _ g2)]; exact g2,
    by rw [hb.cell (World.block_lt_of_cell? _ _ g3)]; exact g3, by rw [hb.cell (World.block_lt_of_cell? _ _ g4)]; exact g4, by rw [hb.cell (World.block_lt_of_cell? _ _ g5)]; exact g5,
    by rw [hb.cell (World.block_lt_of_cell? _ _ g6)]; exact g6, hp.below hb, hs'.below hb, hx.below hb⟩

/-- The value v is the module x. -/
def MoAt (w : World) (m : Nat) (v : Value) (x : Mo) : Prop :=
  ∃ vi vv vf, v = .agg #[.string x.name, vi, vv, vf] ∧ x.name.size ≤ maxLen ∧ Strs w vi x.imports ∧ VasAt w vv x.vars ∧ FusAt w m vf x.funs

theorem MoAt.below {w w' : World} {m : Nat} {v : Value} {x : Mo} (h : MoAt w m v x) (hb : Below w.heap.size w w') : MoAt w' m v x := by
  obtain ⟨vi, vv, vf, h0, h1, h2, h3, h4⟩ := h
  exact ⟨vi, vv, vf, h0, h1, h2.below hb, h3.below hb, h4.below hb⟩

end Go.Proofs.YtbncnkfogkhoeaaGreatDoor

/- What expressions, commands, functions and modules weigh: bounds of how long their texts are. -/
namespace Go.Proofs.YtbncnkfogkhoeaaGreatDoor
open Go.RowKit

def exW : Nat → Ex → Nat
  | 0, _ => 0
  | m + 1, x => x.name.size + 4 + (x.args.map (exW m)).sum
def stsW : Nat → List St → Nat
  | 0, _ => 0
  | m + 1, l => (l.map fun s => s.name.size + 3 + exW m s.e + stsW m s.a + stsW m s.b).sum + 1
def strsW (l : List ByteArray) : Nat := (l.map fun s => s.size + 1).sum + 1
def vasW (l : List Va) : Nat := (l.map fun s => s.name.size + s.level.size + 3).sum + 1
def fusW (m : Nat) (l : List Fu) : Nat := (l.map fun s => s.name.size + 2 + strsW s.params + stsW m s.body + exW m s.result).sum + 1
def moW (m : Nat) (x : Mo) : Nat := x.name.size + 2 + strsW x.imports + vasW x.vars + fusW m x.funs

theorem map_congr_get {α β : Type} {f g : α → β} {l : List α} (h : ∀ (i : Nat) (x : α), l[i]? = some x → f x = g x) : l.map f = l.map g :=
  List.map_congr_left fun x hx => by
    obtain ⟨i, hi, rfl⟩ := List.mem_iff_getElem.1 hx
    exact h i _ (List.getElem?_eq_getElem hi)

theorem exW_mono {w : World} : ∀ {m : Nat} {c0 c1 c2 c3 : Value} {x : Ex}, ExAt w m c0 c1 c2 c3 x → ∀ k, m ≤ k → exW k x = exW m x
  | 0, _, _, _, _, _, h, _, _ => False.elim h
  | m + 1, c0, c1, c2, c3, x, h, 0, hk => by omega
  | m + 1, c0, c1, c2, c3, x, h, k + 1, hk => by
    obtain ⟨_, _, _, _, _, _, a, b, off, cap, _, _, _, h9⟩ := h
    simp only [exW]
    rw [map_congr_get (f := exW k) (g := exW m) (fun i y hy => by
      obtain ⟨e0, e1, e2, e3, _, _, _, _, hx⟩ := h9 i y hy
      exact exW_mono hx k (by omega))]
theorem stsW_mono {w : World} : ∀ {m : Nat} {v : Value} {l : List St}, StsAt w m v l → ∀ k, m ≤ k → stsW k l = stsW m l
  | 0, _, _, h, _, _ => False.elim h
  | m + 1, v, l, h, 0, hk => by omega
  | m + 1, v, l, h, k + 1, hk => by
    obtain ⟨a, b, off, cap, _, _, _, h9⟩ := h
    simp only [stsW]
    rw [map_congr_get (fun i s hs => by
      obtain ⟨_, _, e0, e1, e2, e3, va, vb, _, _, _, _, _, _, _, _, hx, ha, hb⟩ := h9 i s hs
      rw [exW_mono hx k (by omega), stsW_mono ha k (by omega), stsW_mono hb k (by omega)])]

end Go.Proofs.YtbncnkfogkhoeaaGreatDoor

/- Walks over package downref: cutDot, slices.Contains of strings, expr. -/
namespace Go.Proofs.YtbncnkfogkhoeaaGreatDoor
open Go.RowKit

namespace Lat
/-- Where the first dot stands. -/
def dotAt (s : ByteArray) : Option Nat := (List.range s.size).find? fun i => s.data.toList.getD i 0 == 46
def preS (s : ByteArray) : ByteArray := match dotAt s with | some i => s.extract 0 i | none => s
def sufS (s : ByteArray) : ByteArray := match dotAt s with | some i => s.extract (i + 1) s.size | none => ⟨#[]⟩
end Lat

theorem byte_at (s : ByteArray) (k : Nat) (hk : k < s.size) : s.data.toList.getD k 0 = s[k] := by
  have h : k < s.data.toList.length := by simpa using hk
  rw [List.getD, List.getElem?_eq_getElem h]; rfl

theorem extract_size (s : ByteArray) (a b : Nat) : (s.extract a b).size ≤ s.size := by
  rw [ByteArray.size_extract]; omega
theorem preS_le (s : ByteArray) : (Lat.preS s).size ≤ s.size := by
  unfold Lat.preS
  split
  · exact extract_size _ _ _
  · exact Nat.le_refl _
theorem sufS_le (s : ByteArray) : (Lat.sufS s).size ≤ s.size := by
  unfold Lat.sufS
  split
  · exact extract_size _ _ _
  · exact Nat.zero_le _

theorem byte_eq (c : UInt8) (n : Nat) (hn : n < 256) : (c == UInt8.ofNat n) = ((c.toNat : Int) == (n : Int)) := by
  rw [Bool.eq_iff_iff]
  simp only [beq_iff_eq]
  constructor
  · rintro rfl; simp; omega
  · intro h
    have : c.toNat = n := by omega
    rw [← this]; simp

set_option maxHeartbeats 1000000 in
theorem cutDot_any (w : World) (s : ByteArray) (hs : s.size ≤ maxLen) :
    Calls Tryz.prog 54 #[.string s] w fun e w' => e = .returned (.tuple #[.string (Lat.preS s), .string (Lat.sufS s), .bool (Lat.dotAt s).isSome]) ∧ Below w.heap.size w w' := by
  unfold maxLen at hs
  go_enter Tryz.func54, Tryz.ntmps54
  go_wp2
  go_loop [5] (fun i => ∃ k : Nat, k ≤ s.size ∧ i = .int .i64 k ∧ ∀ d, d < k → (s.data.toList.getD d 0 == 46) = false) (fun i => s.size - (intOf i).toNat)
  case atStart => exact ⟨0, Nat.zero_le _, rfl, fun d hd => absurd hd (Nat.not_lt_zero _)⟩
  case round =>
    obtain ⟨k, hk, rfl, hall⟩ := hrel
    have HA := hide hall
    clear hall
    by_cases hlt : k < s.size
    · have hb : (s.data.toList.getD k 0 == 46) = ((s[k].toNat : Int) == 46) := by rw [byte_at s k hlt]; exact byte_eq _ 46 (by decide)
      have HB := hide hb
      clear hb
      cases hc : ((s[k].toNat : Int) == 46)
      · go_wp2
        go_round
        case rel => exact ⟨k + 1, by omega, by go_num, fun d hd => by
            by_cases e : d = k
            · subst e; rw [HB.out]; exact hc
            · exact HA.out d (by omega)⟩
        case measure => simp [intOf]; omega
      · have hd : Lat.dotAt s = some k := Lat.find_hit hlt HA.out (by rw [HB.out]; exact hc)
        have HD := hide hd
        have b1 : (0 : Int) ≤ (k : Int) := by omega
        have b2 : (k : Int) ≤ (s.size : Int) := by omega
        have b3 : (k : Int) + 1 ≤ (s.size : Int) := by omega
        clear hd
        go_wp2_with fail
        go_quiet (fail)
        go_wp2
        go_ret3
        exact ⟨by simp [Lat.preS, Lat.sufS, HD.out], drewBelow (Below.refl _ _) _⟩
    · go_wp2
      go_ret3
      have hd : Lat.dotAt s = none := Lat.find_none (fun d hd => HA.out d (by omega))
      exact ⟨by simp [Lat.preS, Lat.sufS, hd], Below.refl _ _⟩

namespace Lat
def opS : List ByteArray := [⟨#[43]⟩, ⟨#[45]⟩, ⟨#[42]⟩, ⟨#[60]⟩, ⟨#[61]⟩]
def opB (s : ByteArray) : Bool := decide (0 ≤ indexI opS s)
def callB (s : ByteArray) : Bool := nameB (preS s).data.toList && (!(dotAt s).isSome || nameB (sufS s).data.toList)
/-- May the expression be? m bounds how deep it is looked into. -/
def exprB : Nat → Ex → Bool
  | 0, _ => false
  | m + 1, x =>
    if x.kind = 1 then decide (0 ≤ x.n) && decide (x.n ≤ 999999) && x.name.toList.isEmpty && (x.args.length == 0)
    else if x.kind = 2 then (x.n == 0) && nameB x.name.data.toList && (x.args.length == 0)
    else if x.kind = 3 then (x.n == 0) && opB x.name && (x.args.length == 2) && x.args.all (exprB m)
    else if x.kind = 4 then (x.n == 0) && callB x.name && decide (x.args.length ≤ 4) && x.args.all (exprB m)
    else false
end Lat

theorem containsS_any (w : World) (v : Value) (ss : List ByteArray) (t : ByteArray) (hS : Strs w v ss) :
    Calls Tryz.prog 39 #[v, .string t] w fun e w' => e = .returned (.bool (decide (0 ≤ Lat.indexI ss t))) ∧ w' = w := by
  have HS := hide hS
  obtain ⟨a, b, off, cap, rfl, _⟩ := hS
  go_enter Tryz.func39, Tryz.ntmps39
  go_wp2_with fail
  refine (indexS_any w _ ss t HS.out).mono ?_
  rintro e w' ⟨rfl, hw⟩
  subst hw
  obtain ⟨i, hi⟩ : ∃ i, i = Lat.indexI ss t := ⟨_, rfl⟩
  have HI := hide hi
  rw [← hi]
  clear hi
  go_wp2
  go_ret
  exact ⟨ret_bool (by rw [HI.out]), rfl⟩

theorem boxCells4 (w : World) (c0 c1 c2 c3 : Value) (t : TypeId) : (w.alloc (.cells #[c0, c1, c2, c3] t)).cell? ⟨w.heap.size, 3, none⟩ = some c3 := by simp [go_sem]

theorem all_get? {p : Ex → Bool} {l : List Ex} (h : ∀ (i : Nat) (x : Ex), l[i]? = some x → p x = true) : l.all p = true := by
  rw [List.all_eq_true]; intro x hx
  obtain ⟨i, hi, rfl⟩ := List.mem_iff_getElem.1 hx
  exact h i _ (List.getElem?_eq_getElem hi)
theorem all_not? {p : Ex → Bool} {l : List Ex} {i : Nat} {x : Ex} (hx : l[i]? = some x) (h : p x = false) : l.all p = false := by
  rw [List.all_eq_false]
  exact ⟨x, List.mem_of_getElem? hx, by simp [h]⟩

theorem ops_strs (w2 : World) : Strs (w2.alloc (.cells #[.string ⟨#[43]⟩, .string ⟨#[45]⟩, .string ⟨#[42]⟩, .string ⟨#[60]⟩, .string ⟨#[61]⟩] 9)) (.slice (some ⟨w2.heap.size, 0, none⟩) 5 5) Lat.opS := by
  refine ⟨_, w2.heap.size, 0, 5, rfl, fun _ => rfl, by decide, fun s hs => ?_, fun j hj => ?_⟩
  · simp only [Lat.opS, List.mem_cons, List.not_mem_nil, or_false] at hs
    rcases hs with rfl | rfl | rfl | rfl | rfl <;> decide
  · have hj' : j < 5 := hj
    obtain rfl | rfl | rfl | rfl | rfl : j = 0 ∨ j = 1 ∨ j = 2 ∨ j = 3 ∨ j = 4 := by omega
    all_goals simp [go_sem, Lat.opS]

set_option maxHeartbeats 2000000 in
set_option maxRecDepth 100000 in
theorem expr_any (m : Nat) : ∀ (w : World) (c0 c1 c2 c3 : Value) (x : Ex), ExAt w m c0 c1 c2 c3 x →
    Calls Tryz.prog 85 #[.agg #[c0, c1, c2, c3]] w fun e w' => e = .returned (.bool (Lat.exprB m x)) ∧ Below w.heap.size w w' := by
  induction m with
  | zero => intro w c0 c1 c2 c3 x h; exact False.elim h
  | succ m ih =>
    intro w c0 c1 c2 c3 x h
    have HI := hide ih
    clear ih
    obtain ⟨rfl, rfl, rfl, hsz, hk1, hk2, a, b, off, cap, rfl, ha, hl, hel⟩ := h
    obtain ⟨k, n, s, args⟩ := x
    simp only at hsz hk1 hk2 ha hl hel ⊢
    have HEL := hide hel
    have HA := hide ha
    clear hel ha
    obtain ⟨len, hlen⟩ : ∃ len, len = args.length := ⟨_, rfl⟩
    have HL := hide hlen
    rw [← hlen] at hl HA ⊢
    clear hlen
    by_cases h1 : k = 1
    · subst h1
      have HE : Hid (Lat.exprB (m + 1) ⟨1, n, s, args⟩ = (decide (0 ≤ n) && decide (n ≤ 999999) && s.toList.isEmpty && (len == 0))) := hide (by
        rw [HL.out]; simp [Lat.exprB])
      go_enter Tryz.func85, Tryz.ntmps85
      go_wp2_with fail
      refine (in_any _ _ _ _).mono ?_
      rintro e w' ⟨rfl, hw⟩
      subst hw
      generalize (decide (0 ≤ n) && decide (n ≤ 999999)) = b1 at *
      cases b1
      · go_wp2
        go_ret
        exact ⟨ret_bool (by rw [HE.out]; rfl), boxBelow _ _⟩
      · cases hb2 : s.toList.isEmpty
        · have HB2 := hide hb2
          go_wp2
          go_ret
          exact ⟨ret_bool (by rw [HE.out, HB2.out]; rfl), boxBelow _ _⟩
        · have HB2 := hide hb2
          go_wp2
          go_ret
          exact ⟨ret_bool (by rw [HE.out, HB2.out]; exact nat_beq len 0), boxBelow _ _⟩
    by_cases h2 : k = 2
    · subst h2
      have HE : Hid (Lat.exprB (m + 1) ⟨2, n, s, args⟩ = ((n == 0) && Lat.nameB s.data.toList && (len == 0))) := hide (by
        rw [HL.out]; simp [Lat.exprB])
      cases hn : (n == 0)
      · have HN := hide hn
        go_enter Tryz.func85, Tryz.ntmps85
        go_wp2_with fail
        go_ret
        exact ⟨ret_bool (by rw [HE.out, HN.out]; rfl), boxBelow _ _⟩
      · have HN := hide hn
        go_enter Tryz.func85, Tryz.ntmps85
        go_wp2_with fail
        refine (name_any _ s hsz).mono ?_
        rintro e w' ⟨rfl, hw⟩
        subst hw
        cases hb2 : Lat.nameB s.data.toList
        · have HB2 := hide hb2
          go_wp2
          go_ret
          exact ⟨ret_bool (by rw [HE.out, HN.out, HB2.out]; rfl), boxBelow _ _⟩
        · have HB2 := hide hb2
          by_cases hl0 : len = 0
          · have hl0' : ((len : Int) == 0) = true := by simp [hl0]
            have HL0 := hide hl0
            clear hl0
            go_wp2
            refine wp_loop_rounds 1 ?_
            rw [rounds_succ]
            go_wp2
            go_ret
            exact ⟨ret_bool (by rw [HE.out, HN.out, HB2.out, HL0.out]; rfl), boxBelow _ _⟩
          · have hl0' : ((len : Int) == 0) = false := by simp [hl0]
            have HL0 := hide hl0
            clear hl0
            go_wp2
            go_ret
            exact ⟨ret_bool (by rw [HE.out, HN.out, HB2.out, show (len == 0) = false from by simp [HL0.out]]; rfl), boxBelow _ _⟩
    by_cases h3 : k = 3
    · subst h3
      have HE : Hid (Lat.exprB (m + 1) ⟨3, n, s, args⟩ = ((n == 0) && Lat.opB s && (len == 2) && args.all (Lat.exprB m))) := hide (by
        rw [HL.out]; simp [Lat.exprB])
      cases hn : (n == 0)
      · have HN := hide hn
        go_enter Tryz.func85, Tryz.ntmps85
        go_wp2_with fail
        go_ret
        exact ⟨ret_bool (by rw [HE.out, HN.out]; rfl), boxBelow _ _⟩
      · have HN := hide hn
        have HS : Hid (∀ w2 : World, Strs (w2.alloc (.cells #[.string ⟨#[43]⟩, .string ⟨#[45]⟩, .string ⟨#[42]⟩, .string ⟨#[60]⟩, .string ⟨#[61]⟩] 9)) (.slice (some ⟨w2.heap.size, 0, none⟩) 5 5) Lat.opS) := hide (ops_strs)
        go_enter Tryz.func85, Tryz.ntmps85
        go_wp2_with fail
        refine (containsS_any _ _ Lat.opS s ?_).mono ?_
        · have := HS.out (w.alloc (.cells #[.int .i64 3, .int .i64 n, .string s, .slice a len cap] 84))
          simpa using this
        rintro e w' ⟨rfl, hw⟩
        rw [show decide (0 ≤ Lat.indexI Lat.opS s) = Lat.opB s from rfl]
        cases hb2 : Lat.opB s
        · have HB2 := hide hb2
          subst hw
          go_wp2
          go_ret
          exact ⟨ret_bool (by rw [HE.out, HN.out, HB2.out]; rfl), ((Below.refl _ _).alloc (Nat.le_refl _) _).alloc (by simp) _⟩
        · have HB2 := hide hb2
          have HB0 : Hid (Below w.heap.size w w') := hide (by rw [hw]; exact ((Below.refl _ _).alloc (Nat.le_refl _) _).alloc (by simp) _)
          have q3 : w'.cell? ⟨w.heap.size, 3, none⟩ = some (.slice a len cap) := by rw [hw]; simp [go_sem]
          clear hw
          by_cases hl0 : len = 2
          · have hl0' : ((len : Int) == 2) = true := by simp; omega
            have HL0 := hide hl0
            have hl2 : (2 : Int) = (len : Int) := by omega
            clear hl0
            go_wp2
            rw [hl2]
            clear hl2 hl0'
            generalize hW0 : w' = W0 at *
            clear hW0
            go_loopw [8] (fun i wr => ∃ j : Nat, j ≤ len ∧ i = .int .i64 j ∧ (∀ d y, d < j → args[d]? = some y → Lat.exprB m y = true) ∧ Below W0.heap.size W0 wr) (fun i _ => len - (intOf i).toNat)
            case atStart => exact ⟨0, Nat.zero_le _, rfl, fun d y hd => absurd hd (Nat.not_lt_zero _), Below.refl _ _⟩
            case round =>
              obtain ⟨j, hj, rfl, hall, hnx⟩ := hrel
              have HALL := hide hall
              clear hall
              have t3 := cellUp q3 hnx
              by_cases hjl : j < len
              · obtain ⟨y, hy⟩ : ∃ y, args[j]? = some y := ⟨_, List.getElem?_eq_getElem (by rw [← HL.out]; exact hjl)⟩
                obtain ⟨e0, e1, e2, e3, g0, g1, g2, g3, hye⟩ := HEL.out j y hy
                have HY := hide hy
                obtain rfl := HA.out (by omega)
                have hbb := up HB0.out hnx
                have u0 := cellUp g0 hbb
                have u1 := cellUp g1 hbb
                have u2' := cellUp g2 hbb
                have u3' := cellUp g3 hbb
                have HYE := hide (hye.below hbb)
                have HNX := hide hnx
                clear g0 g1 g2 g3 hye hy hbb hnx
                go_wp2_with fail
                refine (HI.out _ e0 e1 e2 e3 y HYE.out).mono ?_
                rintro e w5 ⟨rfl, hb5⟩
                have HN5 := hide (up HNX.out hb5)
                clear hb5 HNX
                cases hyb : Lat.exprB m y
                · have HYB := hide hyb
                  go_wp2
                  go_ret
                  exact ⟨ret_bool (by rw [HE.out, all_not? HY.out HYB.out]; rw [HN.out, HB2.out, HL0.out]; rfl), up HB0.out HN5.out⟩
                · have HYB := hide hyb
                  go_wp2
                  go_roundw
                  case rel => exact ⟨j + 1, by omega, by go_num, fun d z hd hz => by
                      by_cases e : d = j
                      · subst e
                        rw [HY.out] at hz
                        cases hz
                        exact HYB.out
                      · exact HALL.out d z (by omega) hz, HN5.out⟩
                  case measure => simp [intOf]; omega
              · go_wp2
                go_ret
                have hall : args.all (Lat.exprB m) = true := all_get? (fun d z hz => HALL.out d z (by
                  have := (List.getElem?_eq_some_iff.1 hz).1
                  have := HL.out
                  omega) hz)
                exact ⟨ret_bool (by rw [HE.out, hall]; rw [HN.out, HB2.out, HL0.out]; rfl), up HB0.out hnx⟩
          · have hl0' : ((len : Int) == 2) = false := by simp; omega
            have HL0 := hide hl0
            clear hl0
            go_wp2
            go_ret
            exact ⟨ret_bool (by rw [HE.out, HN.out, HB2.out, show (len == 2) = false from by simp [HL0.out]]; rfl), HB0.out⟩
    by_cases h4 : k = 4
    · subst h4
      have HE : Hid (Lat.exprB (m + 1) ⟨4, n, s, args⟩ = ((n == 0) && Lat.callB s && decide (len ≤ 4) && args.all (Lat.exprB m))) := hide (by
        rw [HL.out]; simp [Lat.exprB])
      have hp1 : (Lat.preS s).size ≤ maxLen := Nat.le_trans (preS_le s) hsz
      have hp2 : (Lat.sufS s).size ≤ maxLen := Nat.le_trans (sufS_le s) hsz
      have HC : Hid (Lat.callB s = (Lat.nameB (Lat.preS s).data.toList && (!(Lat.dotAt s).isSome || Lat.nameB (Lat.sufS s).data.toList))) := rfl
      have HCUT : Hid (∀ w, Calls Tryz.prog 54 #[.string s] w fun e w' => e = .returned (.tuple #[.string (Lat.preS s), .string (Lat.sufS s), .bool (Lat.dotAt s).isSome]) ∧ Below w.heap.size w w') := fun w => cutDot_any w s hsz
      generalize Lat.preS s = pre at *
      generalize Lat.sufS s = suf at *
      generalize (Lat.dotAt s).isSome = dot at *
      cases hn : (n == 0)
      · have HN := hide hn
        go_enter Tryz.func85, Tryz.ntmps85
        go_wp2_with fail
        refine (HCUT.out _).mono ?_
        rintro e w1 ⟨rfl, hb1⟩
        have q3 := cellUp (boxCells4 w (.int .i64 4) (.int .i64 n) (.string s) (.slice a len cap) 84) hb1
        have HB0 := hide (up1 hb1)
        clear hb1
        go_wp2_with fail
        go_ret
        exact ⟨ret_bool (by rw [HE.out, HN.out]; rfl), HB0.out⟩
      · have HN := hide hn
        go_enter Tryz.func85, Tryz.ntmps85
        go_wp2_with fail
        refine (HCUT.out _).mono ?_
        rintro e w1 ⟨rfl, hb1⟩
        have q3 := cellUp (boxCells4 w (.int .i64 4) (.int .i64 n) (.string s) (.slice a len cap) 84) hb1
        have HB0 := hide (up1 hb1)
        clear hb1
        go_wp2_with fail
        refine (name_any _ pre hp1).mono ?_
        rintro e w' ⟨rfl, hw⟩
        subst hw
        cases hb2 : Lat.nameB pre.data.toList
        · have HB2 := hide hb2
          go_wp2_with fail
          go_ret
          exact ⟨ret_bool (by rw [HE.out, HN.out, HC.out, HB2.out]; rfl), HB0.out⟩
        · have HB2 := hide hb2
          by_cases hl0 : len ≤ 4
          · have hl0' : decide ((len : Int) ≤ 4) = true := by simp; omega
            have HL0 : Hid (decide (len ≤ 4) = true) := hide (by simp [hl0])
            cases dot
            · have HCB : Hid (Lat.callB s = true) := hide (by rw [HC.out, HB2.out]; rfl)
              go_wp2_with fail
              generalize hW0 : w' = W0 at *
              clear hW0
              go_loopw [8] (fun i wr => ∃ j : Nat, j ≤ len ∧ i = .int .i64 j ∧ (∀ d y, d < j → args[d]? = some y → Lat.exprB m y = true) ∧ Below W0.heap.size W0 wr) (fun i _ => len - (intOf i).toNat)
              case atStart => exact ⟨0, Nat.zero_le _, rfl, fun d y hd => absurd hd (Nat.not_lt_zero _), Below.refl _ _⟩
              case round =>
                obtain ⟨j, hj, rfl, hall, hnx⟩ := hrel
                have HALL := hide hall
                clear hall
                have t3 := cellUp q3 hnx
                by_cases hjl : j < len
                · obtain ⟨y, hy⟩ : ∃ y, args[j]? = some y := ⟨_, List.getElem?_eq_getElem (by rw [← HL.out]; exact hjl)⟩
                  obtain ⟨e0, e1, e2, e3, g0, g1, g2, g3, hye⟩ := HEL.out j y hy
                  have HY := hide hy
                  obtain rfl := HA.out (by omega)
                  have hbb := up HB0.out hnx
                  have u0 := cellUp g0 hbb
                  have u1 := cellUp g1 hbb
                  have u2' := cellUp g2 hbb
                  have u3' := cellUp g3 hbb
                  have HYE := hide (hye.below hbb)
                  have HNX := hide hnx
                  clear g0 g1 g2 g3 hye hy hbb hnx
                  go_wp2_with fail
                  refine (HI.out _ e0 e1 e2 e3 y HYE.out).mono ?_
                  rintro e w5 ⟨rfl, hb5⟩
                  have HN5 := hide (up HNX.out hb5)
                  clear hb5 HNX
                  cases hyb : Lat.exprB m y
                  · have HYB := hide hyb
                    go_wp2
                    go_ret
                    exact ⟨ret_bool (by rw [HE.out, all_not? HY.out HYB.out]; rw [HN.out, HCB.out, HL0.out]; rfl), up HB0.out HN5.out⟩
                  · have HYB := hide hyb
                    go_wp2
                    go_roundw
                    case rel => exact ⟨j + 1, by omega, by go_num, fun d z hd hz => by
                        by_cases e : d = j
                        · subst e
                          rw [HY.out] at hz
                          cases hz
                          exact HYB.out
                        · exact HALL.out d z (by omega) hz, HN5.out⟩
                    case measure => simp [intOf]; omega
                · go_wp2
                  go_ret
                  have hall : args.all (Lat.exprB m) = true := all_get? (fun d z hz => HALL.out d z (by
                    have := (List.getElem?_eq_some_iff.1 hz).1
                    have := HL.out
                    omega) hz)
                  exact ⟨ret_bool (by rw [HE.out, hall]; rw [HN.out, HCB.out, HL0.out]; rfl), up HB0.out hnx⟩
            · go_wp2_with fail
              refine (name_any _ suf hp2).mono ?_
              rintro e w'' ⟨rfl, hw⟩
              subst hw
              cases hb3 : Lat.nameB suf.data.toList
              · have HB3 := hide hb3
                go_wp2_with fail
                go_ret
                exact ⟨ret_bool (by rw [HE.out, HN.out, HC.out, HB2.out, HB3.out]; rfl), HB0.out⟩
              · have HCB : Hid (Lat.callB s = true) := hide (by rw [HC.out, HB2.out, hb3]; rfl)
                go_wp2_with fail
                generalize hW0 : w'' = W0 at *
                clear hW0
                go_loopw [8] (fun i wr => ∃ j : Nat, j ≤ len ∧ i = .int .i64 j ∧ (∀ d y, d < j → args[d]? = some y → Lat.exprB m y = true) ∧ Below W0.heap.size W0 wr) (fun i _ => len - (intOf i).toNat)
                case atStart => exact ⟨0, Nat.zero_le _, rfl, fun d y hd => absurd hd (Nat.not_lt_zero _), Below.refl _ _⟩
                case round =>
                  obtain ⟨j, hj, rfl, hall, hnx⟩ := hrel
                  have HALL := hide hall
                  clear hall
                  have t3 := cellUp q3 hnx
                  by_cases hjl : j < len
                  · obtain ⟨y, hy⟩ : ∃ y, args[j]? = some y := ⟨_, List.getElem?_eq_getElem (by rw [← HL.out]; exact hjl)⟩
                    obtain ⟨e0, e1, e2, e3, g0, g1, g2, g3, hye⟩ := HEL.out j y hy
                    have HY := hide hy
                    obtain rfl := HA.out (by omega)
                    have hbb := up HB0.out hnx
                    have u0 := cellUp g0 hbb
                    have u1 := cellUp g1 hbb
                    have u2' := cellUp g2 hbb
                    have u3' := cellUp g3 hbb
                    have HYE := hide (hye.below hbb)
                    have HNX := hide hnx
                    clear g0 g1 g2 g3 hye hy hbb hnx
                    go_wp2_with fail
                    refine (HI.out _ e0 e1 e2 e3 y HYE.out).mono ?_
                    rintro e w5 ⟨rfl, hb5⟩
                    have HN5 := hide (up HNX.out hb5)
                    clear hb5 HNX
                    cases hyb : Lat.exprB m y
                    · have HYB := hide hyb
                      go_wp2
                      go_ret
                      exact ⟨ret_bool (by rw [HE.out, all_not? HY.out HYB.out]; rw [HN.out, HCB.out, HL0.out]; rfl), up HB0.out HN5.out⟩
                    · have HYB := hide hyb
                      go_wp2
                      go_roundw
                      case rel => exact ⟨j + 1, by omega, by go_num, fun d z hd hz => by
                          by_cases e : d = j
                          · subst e
                            rw [HY.out] at hz
                            cases hz
                            exact HYB.out
                          · exact HALL.out d z (by omega) hz, HN5.out⟩
                      case measure => simp [intOf]; omega
                  · go_wp2
                    go_ret
                    have hall : args.all (Lat.exprB m) = true := all_get? (fun d z hz => HALL.out d z (by
                      have := (List.getElem?_eq_some_iff.1 hz).1
                      have := HL.out
                      omega) hz)
                    exact ⟨ret_bool (by rw [HE.out, hall]; rw [HN.out, HCB.out, HL0.out]; rfl), up HB0.out hnx⟩
          · have hl0' : decide ((len : Int) ≤ 4) = false := by simp; omega
            have HL0 : Hid (decide (len ≤ 4) = false) := hide (by simp; omega)
            cases dot
            · go_wp2_with fail
              go_ret
              exact ⟨ret_bool (by rw [HE.out, HN.out, HL0.out, Bool.and_false]; rfl), HB0.out⟩
            · go_wp2_with fail
              refine (name_any _ suf hp2).mono ?_
              rintro e w'' ⟨rfl, hw⟩
              subst hw
              cases hb3 : Lat.nameB suf.data.toList
              · go_wp2_with fail
                go_ret
                exact ⟨ret_bool (by rw [HE.out, HN.out, HL0.out, Bool.and_false]; rfl), HB0.out⟩
              · go_wp2_with fail
                go_ret
                exact ⟨ret_bool (by rw [HE.out, HN.out, HL0.out, Bool.and_false]; rfl), HB0.out⟩
    · have hk1' : (k == 1) = false := by simp [h1]
      have hk2' : (k == 2) = false := by simp [h2]
      have hk3' : (k == 3) = false := by simp [h3]
      have hk4' : (k == 4) = false := by simp [h4]
      have HE : Hid (Lat.exprB (m + 1) ⟨k, n, s, args⟩ = false) := hide (by simp [Lat.exprB, h1, h2, h3, h4])
      clear h1 h2 h3 h4
      go_enter Tryz.func85, Tryz.ntmps85
      go_wp2_with fail
      go_ret
      exact ⟨ret_bool HE.out.symm, boxBelow _ _⟩

end Go.Proofs.YtbncnkfogkhoeaaGreatDoor

/- Walks over package downref: body: may the commands be? -/
namespace Go.Proofs.YtbncnkfogkhoeaaGreatDoor
open Go.RowKit

namespace Lat
/-- What is asked of a command by itself. -/
def stH (s : St) : Bool :=
  if s.kind = 1 ∨ s.kind = 4 then nameB s.name.data.toList && (s.b.length == 0) && (s.a.length == 0)
  else if s.kind = 2 then s.name.toList.isEmpty
  else if s.kind = 3 then s.name.toList.isEmpty && (s.b.length == 0)
  else false
def bodyB : Nat → List St → Bool
  | 0, _ => false
  | m + 1, l => l.all fun s => stH s && exprB m s.e && bodyB m s.a && bodyB m s.b
def stB (m : Nat) (s : St) : Bool := stH s && exprB m s.e && bodyB m s.a && bodyB m s.b
theorem bodyB_succ (m : Nat) (l : List St) : bodyB (m + 1) l = l.all (stB m) := rfl
end Lat

theorem sts_get? {p : St → Bool} {l : List St} (h : ∀ (i : Nat) (x : St), l[i]? = some x → p x = true) : l.all p = true := by
  rw [List.all_eq_true]; intro x hx
  obtain ⟨i, hi, rfl⟩ := List.mem_iff_getElem.1 hx
  exact h i _ (List.getElem?_eq_getElem hi)
theorem sts_not? {p : St → Bool} {l : List St} {i : Nat} {x : St} (hx : l[i]? = some x) (h : p x = false) : l.all p = false := by
  rw [List.all_eq_false]
  exact ⟨x, List.mem_of_getElem? hx, by simp [h]⟩
theorem ExAt.shape {w : World} {m : Nat} {c0 c1 c2 c3 : Value} {x : Ex} (h : ExAt w m c0 c1 c2 c3 x) : ∃ a cap, c0 = .int .i64 x.kind ∧ c1 = .int .i64 x.n ∧ c2 = .string x.name ∧ c3 = .slice a x.args.length cap := by
  cases m with
  | zero => exact False.elim h
  | succ m =>
    obtain ⟨h0, h1, h2, _, _, _, a, b, off, cap, h3, _⟩ := h
    exact ⟨a, cap, h0, h1, h2, h3⟩
theorem StsAt.shape {w : World} {m : Nat} {v : Value} {l : List St} (h : StsAt w m v l) : ∃ a cap, v = .slice a l.length cap ∧ l.length ≤ 9223372036854775807 := by
  cases m with
  | zero => exact False.elim h
  | succ m =>
    obtain ⟨a, b, off, cap, h3, _, h4, _⟩ := h
    exact ⟨a, cap, h3, h4⟩
theorem boxCells86 (w : World) (c0 c1 c2 c3 c4 c5 c6 c7 : Value) (t : TypeId) : (w.alloc (.cells #[c0, c1, c2, c3, c4, c5, c6, c7] t)).cell? ⟨w.heap.size, 6, none⟩ = some c6 := by simp [go_sem]
theorem boxCells87 (w : World) (c0 c1 c2 c3 c4 c5 c6 c7 : Value) (t : TypeId) : (w.alloc (.cells #[c0, c1, c2, c3, c4, c5, c6, c7] t)).cell? ⟨w.heap.size, 7, none⟩ = some c7 := by simp [go_sem]

set_option maxHeartbeats 4000000 in
set_option maxRecDepth 100000 in
theorem body_any (m : Nat) : ∀ (w : World) (v : Value) (l : List St), StsAt w m v l →
    Calls Tryz.prog 84 #[v] w fun e w' => e = .returned (.bool (Lat.bodyB m l)) ∧ Below w.heap.size w w' := by
  induction m with
  | zero => intro w v l h; exact False.elim h
  | succ m ih =>
    intro w v l h
    have HI := hide ih
    clear ih
    obtain ⟨a, b, off, cap, rfl, ha, hl, hel⟩ := h
    have HEL := hide hel
    have HA := hide ha
    have HR := hide (Lat.bodyB_succ m l)
    clear hel ha
    obtain ⟨len, hlen⟩ : ∃ len, len = l.length := ⟨_, rfl⟩
    have HL := hide hlen
    rw [← hlen] at hl HA ⊢
    clear hlen
    go_enter Tryz.func84, Tryz.ntmps84
    go_wp2_with fail
    go_loopw [3] (fun i wr => ∃ j : Nat, j ≤ len ∧ i = .int .i64 j ∧ (∀ d y, d < j → l[d]? = some y → Lat.stB m y = true) ∧ Below w.heap.size w wr) (fun i _ => len - (intOf i).toNat)
    case atStart => exact ⟨0, Nat.zero_le _, rfl, fun d y hd => absurd hd (Nat.not_lt_zero _), Below.refl _ _⟩
    case round =>
      obtain ⟨j, hj, rfl, hall, hnx⟩ := hrel
      have HALL := hide hall
      clear hall
      by_cases hjl : j < len
      · obtain ⟨y, hy⟩ : ∃ y, l[j]? = some y := ⟨_, List.getElem?_eq_getElem (by rw [← HL.out]; exact hjl)⟩
        obtain ⟨hsk, hsn, e0, e1, e2, e3, va, vb, g0, g1, g2, g3, g4, g5, g6, g7, hxe, hsa, hsb⟩ := HEL.out j y hy
        obtain rfl := HA.out (by omega)
        obtain ⟨k, sn, se, sa, sb⟩ := y
        simp only at hsk hsn g0 g1 hxe hsa hsb
        have HY := hide hy
        have HX := hide hxe
        have HSA := hide hsa
        have HSB := hide hsb
        obtain ⟨xa, xc, h0, h1, h2, h3⟩ := hxe.shape
        obtain ⟨aa, ac, h4, hla0⟩ := hsa.shape
        obtain ⟨ba, bc, h5, hlb0⟩ := hsb.shape
        have HBAD : Hid (Lat.stB m ⟨k, sn, se, sa, sb⟩ = false → Lat.bodyB (m + 1) l = false) := hide (fun h => by rw [HR.out]; exact sts_not? hy h)
        subst h0 h1 h2 h3 h4 h5
        obtain ⟨la, hla⟩ : ∃ la, la = sa.length := ⟨_, rfl⟩
        obtain ⟨lb, hlb⟩ : ∃ lb, lb = sb.length := ⟨_, rfl⟩
        have HLA := hide hla
        have HLB := hide hlb
        rw [← hla] at hla0 g6 HSA
        rw [← hlb] at hlb0 g7 HSB
        clear hxe hsa hsb hy hla hlb
        have u0 := cellUp g0 hnx
        have u1 := cellUp g1 hnx
        have u2' := cellUp g2 hnx
        have u3' := cellUp g3 hnx
        have u4' := cellUp g4 hnx
        have u5' := cellUp g5 hnx
        have u6' := cellUp g6 hnx
        have u7' := cellUp g7 hnx
        have HNX := hide hnx
        have q6 := boxCells86 wr (.int .i64 k) (.string sn) (.int .i64 se.kind) (.int .i64 se.n) (.string se.name) (.slice xa se.args.length xc) (.slice aa la ac) (.slice ba lb bc) 100
        have q7 := boxCells87 wr (.int .i64 k) (.string sn) (.int .i64 se.kind) (.int .i64 se.n) (.string se.name) (.slice xa se.args.length xc) (.slice aa la ac) (.slice ba lb bc) 100
        clear g0 g1 g2 g3 g4 g5 g6 g7 hnx
        by_cases hk1 : k = 1
        · subst hk1
          go_wp2_with fail
          refine (in_any _ _ _ _).mono ?_
          rintro e w' ⟨rfl, hw⟩
          subst hw
          rw [show (decide ((1 : Int) ≤ 1) && decide ((1 : Int) ≤ 4)) = true from rfl]
          go_wp2_with fail
          refine (name_any _ sn hsn).mono ?_
          rintro e w' ⟨rfl, hw⟩
          subst hw
          cases hnm : Lat.nameB sn.data.toList
          · have HH : Hid (Lat.stH ⟨1, sn, se, sa, sb⟩ = false) := hide (by simp [Lat.stH, hnm])
            go_wp2_with fail
            go_ret
            exact ⟨ret_bool (by rw [HBAD.out (by unfold Lat.stB; rw [HH.out]; rfl)]), up HNX.out (boxBelow _ _)⟩
          · by_cases hlb : lb = 0
            · subst hlb
              by_cases hla : la = 0
              · subst hla
                have HH : Hid (Lat.stH ⟨1, sn, se, sa, sb⟩ = true) := hide (by simp [Lat.stH, hnm, ← HLA.out, ← HLB.out])
                clear hnm
                go_wp2_with fail
                refine (expr_any m _ _ _ _ _ se (HX.out.below (up HNX.out (boxBelow _ _)))).mono ?_
                rintro e w5 ⟨rfl, hb5⟩
                replace q6 := cellUp q6 hb5
                replace q7 := cellUp q7 hb5
                have HN5 := hide (up (up HNX.out (boxBelow _ _)) hb5)
                clear hb5
                cases hxb : Lat.exprB m se
                · have HXB := hide hxb
                  go_wp2_with fail
                  go_ret
                  exact ⟨ret_bool (by rw [HBAD.out (by unfold Lat.stB; rw [HXB.out]; simp)]), HN5.out⟩
                · have HXB := hide hxb
                  go_wp2_with fail
                  refine (HI.out _ _ sa (HSA.out.below HN5.out)).mono ?_
                  rintro e w6 ⟨rfl, hb6⟩
                  replace q7 := cellUp q7 hb6
                  have HN6 := hide (up HN5.out hb6)
                  clear hb6 HN5 q6
                  cases hab : Lat.bodyB m sa
                  · have HAB := hide hab
                    go_wp2_with fail
                    go_ret
                    exact ⟨ret_bool (by rw [HBAD.out (by unfold Lat.stB; rw [HAB.out]; simp)]), HN6.out⟩
                  · have HAB := hide hab
                    go_wp2_with fail
                    refine (HI.out _ _ sb (HSB.out.below HN6.out)).mono ?_
                    rintro e w7 ⟨rfl, hb7⟩
                    have HN7 := hide (up HN6.out hb7)
                    clear hb7 HN6 q7
                    cases hbb : Lat.bodyB m sb
                    · have HBB := hide hbb
                      go_wp2_with fail
                      go_ret
                      exact ⟨ret_bool (by rw [HBAD.out (by unfold Lat.stB; rw [HBB.out]; simp)]), HN7.out⟩
                    · have HBB := hide hbb
                      have HG := hide (show Lat.stB m ⟨1, sn, se, sa, sb⟩ = true by unfold Lat.stB; rw [HH.out, HXB.out, HAB.out, HBB.out]; rfl)
                      go_wp2_with fail
                      go_roundw
                      case rel => exact ⟨j + 1, by omega, by go_num, fun d z hd hz => by
                          by_cases e : d = j
                          · subst e
                            rw [HY.out] at hz
                            cases hz
                            exact HG.out
                          · exact HALL.out d z (by omega) hz, HN7.out⟩
                      case measure => simp [intOf]; omega
              · have hla' : (0 : Int) < (la : Int) := by omega
                have HH : Hid (Lat.stH ⟨1, sn, se, sa, sb⟩ = false) := hide (by simp [Lat.stH, ← HLA.out, hla])
                clear hnm hla
                go_wp2_with fail
                go_ret
                exact ⟨ret_bool (by rw [HBAD.out (by unfold Lat.stB; rw [HH.out]; rfl)]), up HNX.out (boxBelow _ _)⟩
            · have hlb' : (0 : Int) < (lb : Int) := by omega
              have HH : Hid (Lat.stH ⟨1, sn, se, sa, sb⟩ = false) := hide (by simp [Lat.stH, ← HLB.out, hlb])
              clear hnm hlb
              go_wp2_with fail
              go_ret
              exact ⟨ret_bool (by rw [HBAD.out (by unfold Lat.stB; rw [HH.out]; rfl)]), up HNX.out (boxBelow _ _)⟩
        by_cases hk4 : k = 4
        · subst hk4
          go_wp2_with fail
          refine (in_any _ _ _ _).mono ?_
          rintro e w' ⟨rfl, hw⟩
          subst hw
          rw [show (decide ((1 : Int) ≤ 4) && decide ((4 : Int) ≤ 4)) = true from rfl]
          go_wp2_with fail
          refine (name_any _ sn hsn).mono ?_
          rintro e w' ⟨rfl, hw⟩
          subst hw
          cases hnm : Lat.nameB sn.data.toList
          · have HH : Hid (Lat.stH ⟨4, sn, se, sa, sb⟩ = false) := hide (by simp [Lat.stH, hnm])
            go_wp2_with fail
            go_ret
            exact ⟨ret_bool (by rw [HBAD.out (by unfold Lat.stB; rw [HH.out]; rfl)]), up HNX.out (boxBelow _ _)⟩
          · by_cases hlb : lb = 0
            · subst hlb
              by_cases hla : la = 0
              · subst hla
                have HH : Hid (Lat.stH ⟨4, sn, se, sa, sb⟩ = true) := hide (by simp [Lat.stH, hnm, ← HLA.out, ← HLB.out])
                clear hnm
                go_wp2_with fail
                refine (expr_any m _ _ _ _ _ se (HX.out.below (up HNX.out (boxBelow _ _)))).mono ?_
                rintro e w5 ⟨rfl, hb5⟩
                replace q6 := cellUp q6 hb5
                replace q7 := cellUp q7 hb5
                have HN5 := hide (up (up HNX.out (boxBelow _ _)) hb5)
                clear hb5
                cases hxb : Lat.exprB m se
                · have HXB := hide hxb
                  go_wp2_with fail
                  go_ret
                  exact ⟨ret_bool (by rw [HBAD.out (by unfold Lat.stB; rw [HXB.out]; simp)]), HN5.out⟩
                · have HXB := hide hxb
                  go_wp2_with fail
                  refine (HI.out _ _ sa (HSA.out.below HN5.out)).mono ?_
                  rintro e w6 ⟨rfl, hb6⟩
                  replace q7 := cellUp q7 hb6
                  have HN6 := hide (up HN5.out hb6)
                  clear hb6 HN5 q6
                  cases hab : Lat.bodyB m sa
                  · have HAB := hide hab
                    go_wp2_with fail
                    go_ret
                    exact ⟨ret_bool (by rw [HBAD.out (by unfold Lat.stB; rw [HAB.out]; simp)]), HN6.out⟩
                  · have HAB := hide hab
                    go_wp2_with fail
                    refine (HI.out _ _ sb (HSB.out.below HN6.out)).mono ?_
                    rintro e w7 ⟨rfl, hb7⟩
                    have HN7 := hide (up HN6.out hb7)
                    clear hb7 HN6 q7
                    cases hbb : Lat.bodyB m sb
                    · have HBB := hide hbb
                      go_wp2_with fail
                      go_ret
                      exact ⟨ret_bool (by rw [HBAD.out (by unfold Lat.stB; rw [HBB.out]; simp)]), HN7.out⟩
                    · have HBB := hide hbb
                      have HG := hide (show Lat.stB m ⟨4, sn, se, sa, sb⟩ = true by unfold Lat.stB; rw [HH.out, HXB.out, HAB.out, HBB.out]; rfl)
                      go_wp2_with fail
                      go_roundw
                      case rel => exact ⟨j + 1, by omega, by go_num, fun d z hd hz => by
                          by_cases e : d = j
                          · subst e
                            rw [HY.out] at hz
                            cases hz
                            exact HG.out
                          · exact HALL.out d z (by omega) hz, HN7.out⟩
                      case measure => simp [intOf]; omega
              · have hla' : (0 : Int) < (la : Int) := by omega
                have HH : Hid (Lat.stH ⟨4, sn, se, sa, sb⟩ = false) := hide (by simp [Lat.stH, ← HLA.out, hla])
                clear hnm hla
                go_wp2_with fail
                go_ret
                exact ⟨ret_bool (by rw [HBAD.out (by unfold Lat.stB; rw [HH.out]; rfl)]), up HNX.out (boxBelow _ _)⟩
            · have hlb' : (0 : Int) < (lb : Int) := by omega
              have HH : Hid (Lat.stH ⟨4, sn, se, sa, sb⟩ = false) := hide (by simp [Lat.stH, ← HLB.out, hlb])
              clear hnm hlb
              go_wp2_with fail
              go_ret
              exact ⟨ret_bool (by rw [HBAD.out (by unfold Lat.stB; rw [HH.out]; rfl)]), up HNX.out (boxBelow _ _)⟩
        by_cases hk2 : k = 2
        · subst hk2
          go_wp2_with fail
          refine (in_any _ _ _ _).mono ?_
          rintro e w' ⟨rfl, hw⟩
          subst hw
          rw [show (decide ((1 : Int) ≤ 2) && decide ((2 : Int) ≤ 4)) = true from rfl]
          cases hne : sn.toList.isEmpty
          · have HH : Hid (Lat.stH ⟨2, sn, se, sa, sb⟩ = false) := hide (by simp [Lat.stH, hne])
            go_wp2_with fail
            go_ret
            exact ⟨ret_bool (by rw [HBAD.out (by unfold Lat.stB; rw [HH.out]; rfl)]), up HNX.out (boxBelow _ _)⟩
          · have HH : Hid (Lat.stH ⟨2, sn, se, sa, sb⟩ = true) := hide (by simp [Lat.stH, hne])
            go_wp2_with fail
            refine (expr_any m _ _ _ _ _ se (HX.out.below (up HNX.out (boxBelow _ _)))).mono ?_
            rintro e w5 ⟨rfl, hb5⟩
            replace q6 := cellUp q6 hb5
            replace q7 := cellUp q7 hb5
            have HN5 := hide (up (up HNX.out (boxBelow _ _)) hb5)
            clear hb5
            cases hxb : Lat.exprB m se
            · have HXB := hide hxb
              go_wp2_with fail
              go_ret
              exact ⟨ret_bool (by rw [HBAD.out (by unfold Lat.stB; rw [HXB.out]; simp)]), HN5.out⟩
            · have HXB := hide hxb
              go_wp2_with fail
              refine (HI.out _ _ sa (HSA.out.below HN5.out)).mono ?_
              rintro e w6 ⟨rfl, hb6⟩
              replace q7 := cellUp q7 hb6
              have HN6 := hide (up HN5.out hb6)
              clear hb6 HN5 q6
              cases hab : Lat.bodyB m sa
              · have HAB := hide hab
                go_wp2_with fail
                go_ret
                exact ⟨ret_bool (by rw [HBAD.out (by unfold Lat.stB; rw [HAB.out]; simp)]), HN6.out⟩
              · have HAB := hide hab
                go_wp2_with fail
                refine (HI.out _ _ sb (HSB.out.below HN6.out)).mono ?_
                rintro e w7 ⟨rfl, hb7⟩
                have HN7 := hide (up HN6.out hb7)
                clear hb7 HN6 q7
                cases hbb : Lat.bodyB m sb
                · have HBB := hide hbb
                  go_wp2_with fail
                  go_ret
                  exact ⟨ret_bool (by rw [HBAD.out (by unfold Lat.stB; rw [HBB.out]; simp)]), HN7.out⟩
                · have HBB := hide hbb
                  have HG := hide (show Lat.stB m ⟨2, sn, se, sa, sb⟩ = true by unfold Lat.stB; rw [HH.out, HXB.out, HAB.out, HBB.out]; rfl)
                  go_wp2_with fail
                  go_roundw
                  case rel => exact ⟨j + 1, by omega, by go_num, fun d z hd hz => by
                      by_cases e : d = j
                      · subst e
                        rw [HY.out] at hz
                        cases hz
                        exact HG.out
                      · exact HALL.out d z (by omega) hz, HN7.out⟩
                  case measure => simp [intOf]; omega
        by_cases hk3 : k = 3
        · subst hk3
          go_wp2_with fail
          refine (in_any _ _ _ _).mono ?_
          rintro e w' ⟨rfl, hw⟩
          subst hw
          rw [show (decide ((1 : Int) ≤ 3) && decide ((3 : Int) ≤ 4)) = true from rfl]
          cases hne : sn.toList.isEmpty
          · have HH : Hid (Lat.stH ⟨3, sn, se, sa, sb⟩ = false) := hide (by simp [Lat.stH, hne])
            go_wp2_with fail
            go_ret
            exact ⟨ret_bool (by rw [HBAD.out (by unfold Lat.stB; rw [HH.out]; rfl)]), up HNX.out (boxBelow _ _)⟩
          · by_cases hlb : lb = 0
            · subst hlb
              have HH : Hid (Lat.stH ⟨3, sn, se, sa, sb⟩ = true) := hide (by simp [Lat.stH, hne, ← HLB.out])
              go_wp2_with fail
              refine (expr_any m _ _ _ _ _ se (HX.out.below (up HNX.out (boxBelow _ _)))).mono ?_
              rintro e w5 ⟨rfl, hb5⟩
              replace q6 := cellUp q6 hb5
              replace q7 := cellUp q7 hb5
              have HN5 := hide (up (up HNX.out (boxBelow _ _)) hb5)
              clear hb5
              cases hxb : Lat.exprB m se
              · have HXB := hide hxb
                go_wp2_with fail
                go_ret
                exact ⟨ret_bool (by rw [HBAD.out (by unfold Lat.stB; rw [HXB.out]; simp)]), HN5.out⟩
              · have HXB := hide hxb
                go_wp2_with fail
                refine (HI.out _ _ sa (HSA.out.below HN5.out)).mono ?_
                rintro e w6 ⟨rfl, hb6⟩
                replace q7 := cellUp q7 hb6
                have HN6 := hide (up HN5.out hb6)
                clear hb6 HN5 q6
                cases hab : Lat.bodyB m sa
                · have HAB := hide hab
                  go_wp2_with fail
                  go_ret
                  exact ⟨ret_bool (by rw [HBAD.out (by unfold Lat.stB; rw [HAB.out]; simp)]), HN6.out⟩
                · have HAB := hide hab
                  go_wp2_with fail
                  refine (HI.out _ _ sb (HSB.out.below HN6.out)).mono ?_
                  rintro e w7 ⟨rfl, hb7⟩
                  have HN7 := hide (up HN6.out hb7)
                  clear hb7 HN6 q7
                  cases hbb : Lat.bodyB m sb
                  · have HBB := hide hbb
                    go_wp2_with fail
                    go_ret
                    exact ⟨ret_bool (by rw [HBAD.out (by unfold Lat.stB; rw [HBB.out]; simp)]), HN7.out⟩
                  · have HBB := hide hbb
                    have HG := hide (show Lat.stB m ⟨3, sn, se, sa, sb⟩ = true by unfold Lat.stB; rw [HH.out, HXB.out, HAB.out, HBB.out]; rfl)
                    go_wp2_with fail
                    go_roundw
                    case rel => exact ⟨j + 1, by omega, by go_num, fun d z hd hz => by
                        by_cases e : d = j
                        · subst e
                          rw [HY.out] at hz
                          cases hz
                          exact HG.out
                        · exact HALL.out d z (by omega) hz, HN7.out⟩
                    case measure => simp [intOf]; omega
            · have hlb' : (0 : Int) < (lb : Int) := by omega
              have HH : Hid (Lat.stH ⟨3, sn, se, sa, sb⟩ = false) := hide (by simp [Lat.stH, ← HLB.out, hlb])
              clear hlb
              go_wp2_with fail
              go_ret
              exact ⟨ret_bool (by rw [HBAD.out (by unfold Lat.stB; rw [HH.out]; rfl)]), up HNX.out (boxBelow _ _)⟩
        have hk1' : (k == 1) = false := by simp; omega
        have hk4' : (k == 4) = false := by simp; omega
        have HH : Hid (Lat.stH ⟨k, sn, se, sa, sb⟩ = false) := hide (by
          unfold Lat.stH
          rw [if_neg (by simp only; omega), if_neg (by simp only; omega), if_neg (by simp only; omega)])
        have hin : (decide (1 ≤ k) && decide (k ≤ 4)) = false := by
          rw [Bool.and_eq_false_iff]; simp; omega
        go_wp2_with fail
        refine (in_any _ _ _ _).mono ?_
        rintro e w' ⟨rfl, hw⟩
        subst hw
        rw [hin]
        go_wp2_with fail
        go_ret
        exact ⟨ret_bool (by rw [HBAD.out (by unfold Lat.stB; rw [HH.out]; rfl)]), up HNX.out (boxBelow _ _)⟩
      · go_wp2_with fail
        go_ret
        exact ⟨ret_bool (by rw [HR.out, sts_get? (fun d z hz => HALL.out d z (by
          have := (List.getElem?_eq_some_iff.1 hz).1
          have := HL.out
          omega) hz)]), hnx⟩

end Go.Proofs.YtbncnkfogkhoeaaGreatDoor
