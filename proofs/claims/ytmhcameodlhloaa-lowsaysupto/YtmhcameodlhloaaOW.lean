/- Rows of strings and of ints that a call makes for itself by append; lists of ints in memory. -/
import Derived.Test.YtmhcameodlhloaaChecked
import Derived.Test.YtmhcameodlhloaaBa
import Derived.Deep.OwnRows
import Derived.Laws.OwnMore
import Derived.OwnWalk
import Derived.Deep.AppendLies
namespace Go.Proofs.Ytmhcameodlhloaa
open Go.RowKit

theorem infoStr : (Try.prog.info? 9).map (fun i => (i.zero, i.size, i.bytes)) = some (some (.string ⟨#[]⟩), 1, 16) := by kernel_rfl
theorem infoInt : (Try.prog.info? 3).map (fun i => (i.zero, i.size, i.bytes)) = some (some (.int .i64 0), 1, 8) := by kernel_rfl

/-- The slice v is a row of the strings l, of the call's own. -/
def Own (w : World) (B : Nat) (v : Value) (l : List ByteArray) : Prop := w.ownsRow B 9 1 v l.length (l.map Value.string)

theorem own_below {w w' : World} {base e size n : Nat} {v : Value} {xs : List Value} (h : w.ownsRow base e size v n xs) (hb : Below w.heap.size w w') : w'.ownsRow base e size v n xs := by
  obtain ⟨h1, h2⟩ := h
  refine ⟨h1, ?_⟩
  rcases h2 with h2 | ⟨g, cap, cur, hv, hg, hh, r⟩
  · exact Or.inl h2
  · refine Or.inr ⟨g, cap, cur, hv, hg, ?_, r⟩
    have hlt : g < w.heap.size := by
      rcases Nat.lt_or_ge g w.heap.size with h' | h'
      · exact h'
      · rw [Array.getElem?_eq_none h'] at hh; cases hh
    rw [hb.block g hlt]; exact hh

theorem Own.strs {w : World} {B : Nat} {v : Value} {l : List ByteArray} (h : Own w B v l) (hs : ∀ s ∈ l, s.size ≤ maxLen) (hl : l.length ≤ 9223372036854775807) : Strs w v l := by
  have h0 := h
  rcases h.2 with ⟨rfl, h1⟩ | ⟨g, cap, cur, rfl, _⟩
  · have : l = [] := List.length_eq_zero_iff.1 (by omega)
    subst this
    exact ⟨none, 0, 0, 0, rfl, fun h => absurd h (by simp), by simp, fun s hs => absurd hs (by simp), fun j hj => absurd hj (by simp)⟩
  · refine ⟨_, g, 0, cap, rfl, fun _ => rfl, hl, hs, fun j hj => ?_⟩
    have := World.ownsRow.cellAt h0 j (by omega)
    rw [Nat.zero_add, this]
    simp [hj]
theorem Own.shape {w : World} {B : Nat} {v : Value} {l : List ByteArray} (h : Own w B v l) : (v = .slice none 0 0 ∧ l = []) ∨ ∃ g cap, v = .slice (some ⟨g, 0, none⟩) l.length cap ∧ l.length ≤ cap ∧ g < w.heap.size := by
  rcases h.2 with ⟨rfl, h1⟩ | ⟨g, cap, cur, rfl, _, hh, hc, _⟩
  · exact Or.inl ⟨rfl, List.length_eq_zero_iff.1 (by omega)⟩
  · refine Or.inr ⟨g, cap, rfl, hc, ?_⟩
    rcases Nat.lt_or_ge g w.heap.size with h' | h'
    · exact h'
    · rw [Array.getElem?_eq_none h'] at hh; cases hh

/-- The slice v is the list l of strings, and is no longer than its capacity. -/
def StrsC (w : World) (v : Value) (l : List ByteArray) : Prop := Strs w v l ∧ ∃ a c, v = .slice a l.length c ∧ l.length ≤ c
theorem StrsC.below {w w' : World} {v : Value} {l : List ByteArray} (h : StrsC w v l) (hb : Below w.heap.size w w') : StrsC w' v l := ⟨h.1.below hb, h.2⟩
theorem Own.strsC {w : World} {B : Nat} {v : Value} {l : List ByteArray} (h : Own w B v l) (hs : ∀ s ∈ l, s.size ≤ maxLen) (hl : l.length ≤ 9223372036854775807) : StrsC w v l := by
  refine ⟨h.strs hs hl, ?_⟩
  rcases h.shape with ⟨rfl, rfl⟩ | ⟨g, cap, rfl, hc, _⟩
  · exact ⟨_, _, rfl, Nat.le_refl _⟩
  · exact ⟨_, _, rfl, hc⟩
/-- The slice v is the list l of ints. -/
def Ints (w : World) (v : Value) (l : List Int) : Prop :=
  ∃ (a : Option Addr) (b off cap : Nat), v = .slice a l.length cap ∧ (0 < l.length → a = some ⟨b, off, none⟩) ∧ l.length ≤ 9223372036854775807 ∧
    ∀ j z, l[j]? = some z → w.cell? ⟨b, off + j, none⟩ = some (.int .i64 z)
theorem Ints.below {w w' : World} {v : Value} {l : List Int} (h : Ints w v l) (hb : Below w.heap.size w w') : Ints w' v l := by
  obtain ⟨a, b, off, cap, e, h0, hl, h1⟩ := h
  exact ⟨a, b, off, cap, e, h0, hl, fun j z hz => cellUp (h1 j z hz) hb⟩
/-- The slice v is a row of the ints l, of the call's own. -/
def OwnI (w : World) (B : Nat) (v : Value) (l : List Int) : Prop := w.ownsRow B 3 1 v l.length (l.map (Value.int .i64))
theorem OwnI.ints {w : World} {B : Nat} {v : Value} {l : List Int} (h : OwnI w B v l) (hl : l.length ≤ 9223372036854775807) : Ints w v l := by
  have h0 := h
  rcases h.2 with ⟨rfl, h1⟩ | ⟨g, cap, cur, rfl, _⟩
  · have : l = [] := List.length_eq_zero_iff.1 (by omega)
    subst this
    exact ⟨none, 0, 0, 0, rfl, fun h => absurd h (by simp), by simp, fun j z hz => absurd hz (by simp)⟩
  · refine ⟨_, g, 0, cap, rfl, fun _ => rfl, hl, fun j z hz => ?_⟩
    obtain ⟨hj, rfl⟩ := List.getElem?_eq_some_iff.1 hz
    have := World.ownsRow.cellAt h0 j (by omega)
    rw [Nat.zero_add, this]
    simp [hj]
theorem own_ne {w : World} {base e size n : Nat} {v : Value} {xs : List Value} {base' e' size' n' : Nat} {v' : Value} {xs' : List Value} (h : w.ownsRow base e size v n xs) (h' : w.ownsRow base' e' size' v' n' xs') (hne : e ≠ e') : v.ownBlock = none ∨ v.ownBlock ≠ v'.ownBlock := by
  rcases h.2 with ⟨rfl, _⟩ | ⟨g, cap, cur, rfl, _, hh, _⟩
  · exact Or.inl rfl
  · right
    intro e1
    rcases h'.2 with ⟨rfl, _⟩ | ⟨g', cap', cur', rfl, _, hh', _⟩
    · simp [Value.ownBlock] at e1
    · simp [Value.ownBlock] at e1
      subst e1
      rw [hh] at hh'
      simp at hh'
      exact hne hh'.2

/-- append of one string. -/
theorem wpList_append_str {w : World} {ops : Array Oper} {rest : List Oper} {o : Oper} {a : Act} {Q : Exit → Act → World → Prop} (hgd : o.guard = none) (s x : Operand)
    (ho : o.op = .call { callee := .builtin .append, args := #[s, x], argTypes := #[22, 22] })
    (base : Nat) (v : Value) (l : List ByteArray) (hs : a.eval s = v) (hown : Own w base v l) (B : Nat) (t : ByteArray) (hx : a.eval x = .slice (some ⟨B, 0, none⟩) 1 1)
    (hc : w.cell? ⟨B, 0, none⟩ = some (.string t)) (hl : l.length ≤ 1048576) (hbase : base ≤ w.heap.size)
    (h : ∀ v' w', Own w' base v' (l ++ [t]) → w.grownBy w' v.ownBlock → wpList Try.prog ops Q rest (a.put o.dst v') w') : wpList Try.prog ops Q (o :: rest) a w := by
  obtain ⟨iS, hiS, hz0, hz1, hz2⟩ := info_parts infoStr
  have hown' : w.ownsRow base 9 1 v l.length (l.map Value.string) := hown
  refine wpList_append_own _ hgd s x 22 ho base 9 iS (.string ⟨#[]⟩) 1 16 Try.underlying22 hiS hz0 hz1 hz2 rfl (by decide) v l.length (l.map Value.string) hs hown' ⟨B, 0, none⟩ 1 1 [.string t] hx rfl (fun j u hu => ?_) (fun u hu => ?_) (by unfold maxLen; omega) (by omega) hbase ?_
  · cases j with
    | zero =>
      simp at hu
      subst hu
      rw [Addr.add_lit]; exact hc
    | succ j => simp at hu
  · simp at hu
    subst hu
    rfl
  · intro v' w' h1 h2 _
    refine h v' w' ?_ h2
    unfold Own
    rw [List.length_append, List.map_append]
    exact h1
/-- append of one int. -/
theorem wpList_append_int {w : World} {ops : Array Oper} {rest : List Oper} {o : Oper} {a : Act} {Q : Exit → Act → World → Prop} (hgd : o.guard = none) (s x : Operand)
    (ho : o.op = .call { callee := .builtin .append, args := #[s, x], argTypes := #[39, 39] })
    (base : Nat) (v : Value) (l : List Int) (hs : a.eval s = v) (hown : OwnI w base v l) (B : Nat) (t : Int) (hx : a.eval x = .slice (some ⟨B, 0, none⟩) 1 1)
    (hc : w.cell? ⟨B, 0, none⟩ = some (.int .i64 t)) (hl : l.length ≤ 1048576) (hbase : base ≤ w.heap.size)
    (h : ∀ v' w', OwnI w' base v' (l ++ [t]) → w.grownBy w' v.ownBlock → wpList Try.prog ops Q rest (a.put o.dst v') w') : wpList Try.prog ops Q (o :: rest) a w := by
  obtain ⟨iS, hiS, hz0, hz1, hz2⟩ := info_parts infoInt
  have hown' : w.ownsRow base 3 1 v l.length (l.map (Value.int .i64)) := hown
  refine wpList_append_own _ hgd s x 39 ho base 3 iS (.int .i64 0) 1 8 Try.underlying39 hiS hz0 hz1 hz2 rfl (by decide) v l.length (l.map (Value.int .i64)) hs hown' ⟨B, 0, none⟩ 1 1 [.int .i64 t] hx rfl (fun j u hu => ?_) (fun u hu => ?_) (by unfold maxLen; omega) (by omega) hbase ?_
  · cases j with
    | zero =>
      simp at hu
      subst hu
      rw [Addr.add_lit]; exact hc
    | succ j => simp at hu
  · simp at hu
    subst hu
    rfl
  · intro v' w' h1 h2 _
    refine h v' w' ?_ h2
    unfold OwnI
    rw [List.length_append, List.map_append]
    exact h1

theorem Own.kept {w w' : World} {B : Nat} {v : Value} {l : List ByteArray} {o : Obj} {v2 : Value} {l2 : List Int} (h : Own w B v l) (h2 : OwnI w B v2 l2) (hg : (w.alloc o).grownBy w' v2.ownBlock) : Own w' B v l :=
  (World.ownsRow.alloc h o).kept hg (own_ne (World.ownsRow.alloc h o) (World.ownsRow.alloc h2 o) (by decide))
theorem OwnI.kept {w w' : World} {B : Nat} {v : Value} {l : List ByteArray} {o : Obj} {v2 : Value} {l2 : List Int} (h2 : OwnI w B v2 l2) (h : Own w B v l) (hg : (w.alloc o).grownBy w' v.ownBlock) : OwnI w' B v2 l2 :=
  (World.ownsRow.alloc h2 o).kept hg (own_ne (World.ownsRow.alloc h2 o) (World.ownsRow.alloc h o) (by decide))

end Go.Proofs.Ytmhcameodlhloaa
