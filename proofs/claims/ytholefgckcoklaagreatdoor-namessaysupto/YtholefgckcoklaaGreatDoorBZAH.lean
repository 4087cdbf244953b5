/- How a module that came in is opened: what its reading tells is a module as plain data, and its weight is at most the reading's bulk. -/
import Derived.Test.YtholefgckcoklaaGreatDoorRows
import Derived.Test.YtholefgckcoklaaGreatDoorBZAG
import Derived.ProofKit
import Derived.OpenShut
import Derived.SliceStrings
import Derived.Lib.SmallJoins
import Derived.Test.YtholefgckcoklaaGreatDoorChecked
import Derived.Test.YtholefgckcoklaaGreatDoorBZAC
import Derived.Deep.OwnRows
import Derived.Laws.OwnMore
import Derived.OwnWalk
import Derived.Deep.AppendLies
namespace Go.Proofs.YtholefgckcoklaaGreatDoor
open Go.ChangeShapes Go.WideShapes Go.ChangeAt Go.RowKit Go.Deep Go.Joins
section
variable {H : Type} {enc : TypeId × Value → H} {W : World}
theorem open_elems {t e k : Nat} {fuel : Nat} {v : Value} {y : DataW H × List MemPlace} (ht : Tryz.prog.underlying t = some (.slice e)) (hk : Tryz.prog.cellsOf e = k) (hk0 : 0 < k)
    (h : DataW.trod enc Tryz.prog W 0 (fun _ => true) true fuel t [v] = some y) :
    ∃ (a : Option Addr) (b off len cap : Nat) (D : List (DataW H)), v = .slice a len cap ∧ (0 < len → a = some ⟨b, off, none⟩) ∧ len ≤ 9223372036854775807 ∧ D.length = len ∧ Rows.uptoBulkAll D + 1 ≤ Rows.uptoBulk y.1 ∧
      ∀ i, i < len → ∃ n cs d pl, fuel = n + 1 ∧ cs.length = k ∧ (∀ j, j < k → W.cell? ⟨b, off + i * k + j, none⟩ = cs[j]?) ∧ DataW.trod enc Tryz.prog W 0 (fun _ => true) true n e cs = some (d, pl) ∧ D[i]? = some d := by
  rcases DataW.trod_slice ht h with ⟨hcs, rfl⟩ | ⟨a, len, cap, elems, rest, n, hfuel, hcs, rfl, _, hl, hm, hlen, hel, _, _⟩
  · simp at hcs
    subst hcs
    exact ⟨none, 0, 0, 0, 0, [], rfl, fun h => absurd h (Nat.lt_irrefl _), by decide, rfl, by simp [Rows.uptoBulk, Rows.uptoBulkAll], fun i hi => absurd hi (Nat.not_lt_zero _)⟩
  · simp at hcs
    subst hcs
    unfold maxLen at hm
    obtain ⟨b, off, spot⟩ := a
    have each : ∀ i, i < len → ∃ cs d pl, cs.length = k ∧ (∀ j, j < k → W.cell? ((⟨b, off, spot⟩ : Addr).add (i * k + j)) = cs[j]?) ∧ DataW.trod enc Tryz.prog W 0 (fun _ => true) true n e cs = some (d, pl) ∧ (elems.map (·.1))[i]? = some d := by
      intro i hi
      have h1 := hel i hi
      rw [List.getElem?_eq_getElem (by omega), hk] at h1
      obtain ⟨cs, g1, g2⟩ := Option.bind_eq_some_iff.1 h1
      obtain ⟨_, g3, g4⟩ := World.cells?_some g1
      refine ⟨cs, _, _, g3, fun j hj => ?_, g2, by simp [List.getElem?_map, List.getElem?_eq_getElem (show i < elems.length by omega)]⟩
      rw [← add_add]; exact g4 j hj
    have hspot : 0 < len → spot = none := by
      intro h0
      obtain ⟨cs, d, pl, g1, g2, _⟩ := each 0 h0
      have := g2 0 hk0
      rw [List.getElem?_eq_getElem (by omega)] at this
      have := World.cell?_spot this
      simpa [Addr.add] using this
    refine ⟨some ⟨b, off, spot⟩, b, off, len, cap, elems.map (·.1), rfl, fun h0 => by rw [hspot h0], by omega, by simp [hlen], ?_, fun i hi => ?_⟩
    · simp only [Rows.uptoBulk]; omega
    · obtain ⟨cs, d, pl, g1, g2, g3, g4⟩ := each i hi
      refine ⟨n, cs, d, pl, hfuel, g1, fun j hj => ?_, g3, g4⟩
      have := g2 j hj
      rw [hspot (by omega), add_plain] at this
      rw [← this, Nat.add_assoc]
theorem list_choose {α : Type} : ∀ (len : Nat) {p : Nat → α → Prop}, (∀ i, i < len → ∃ x, p i x) → ∃ l : List α, l.length = len ∧ ∀ (i : Nat) (x : α), l[i]? = some x → p i x
  | 0, _, _ => ⟨[], rfl, fun i x h => by simp at h⟩
  | len + 1, p, h => by
    obtain ⟨x, hx⟩ := h 0 (by omega)
    obtain ⟨l, hl, hp⟩ := list_choose len (p := fun i => p (i + 1)) (fun i hi => h (i + 1) (by omega))
    refine ⟨x :: l, by simp [hl], fun i y hy => ?_⟩
    cases i with
    | zero => simp at hy; subst hy; exact hx
    | succ i => exact hp i y (by simpa using hy)
theorem sum_le {α : Type} {f : α → Nat} : ∀ {l : List α} {D : List (DataW H)}, l.length = D.length → (∀ (i : Nat) (x : α) (d : DataW H), l[i]? = some x → D[i]? = some d → f x ≤ Rows.uptoBulk d) → (l.map f).sum ≤ Rows.uptoBulkAll D
  | [], D, h, _ => by simp
  | x :: l, [], h, _ => by simp at h
  | x :: l, d :: D, h, hp => by
    have h0 := hp 0 x d rfl rfl
    have h1 := sum_le (l := l) (D := D) (by simpa using h) (fun i y d' h1 h2 => hp (i + 1) y d' (by simpa using h1) (by simpa using h2))
    simp only [List.map_cons, List.sum_cons, Rows.uptoBulkAll]
    omega
end
theorem cellsEx : Tryz.prog.cellsOf 103 = 4 := by kernel_rfl
theorem cellsSt : Tryz.prog.cellsOf 119 = 8 := by kernel_rfl
theorem cellsFu : Tryz.prog.cellsOf 106 = 7 := by kernel_rfl
theorem cellsVa : Tryz.prog.cellsOf 98 = 2 := by kernel_rfl
theorem cellsMo : Tryz.prog.cellsOf 26 = 4 := by kernel_rfl
theorem cellsInt : Tryz.prog.cellsOf 3 = 1 := by kernel_rfl
theorem cellsStr : Tryz.prog.cellsOf 9 = 1 := by kernel_rfl
theorem cellsStrs : Tryz.prog.cellsOf 22 = 1 := by kernel_rfl
theorem cellsExs : Tryz.prog.cellsOf 101 = 1 := by kernel_rfl
theorem cellsSts : Tryz.prog.cellsOf 99 = 1 := by kernel_rfl
theorem cellsVas : Tryz.prog.cellsOf 23 = 1 := by kernel_rfl
theorem cellsFus : Tryz.prog.cellsOf 24 = 1 := by kernel_rfl
theorem i64_of {n : Int} (h : (Lit.int .i64 n).wf = true) : I64 n := by
  simpa [I64, Lit.wf, IntKind.min, IntKind.max, IntKind.signed, IntKind.bits] using h
theorem size_list' (s : ByteArray) : s.data.toList.length = s.size := rfl
theorem list4 {α : Type} {cs : List α} (h : cs.length = 4) : ∃ a b c d, cs = [a, b, c, d] := by
  match cs, h with
  | [a, b, c, d], _ => exact ⟨a, b, c, d, rfl⟩
section
variable {H : Type} {enc : TypeId × Value → H} {W : World}
theorem open_ex : ∀ (fuel : Nat) {cs : List Value} {d : DataW H} {pl : List MemPlace}, DataW.trod enc Tryz.prog W 0 (fun _ => true) true fuel 103 cs = some (d, pl) →
    ∃ c0 c1 c2 c3 x, cs = [c0, c1, c2, c3] ∧ ExAt W fuel c0 c1 c2 c3 x ∧ exW fuel x ≤ Rows.uptoBulk d := by
  intro fuel
  induction fuel using Nat.strongRecOn with
  | ind fuel ih =>
    intro cs d pl h
    obtain ⟨xs, n, hfn, hx, hlen, hxs, hf⟩ := DataW.trod_struct Tryz.underlying103 h
    rw [cellsEx] at hlen
    obtain ⟨c0, c1, c2, c3, rfl⟩ := list4 hlen
    obtain ⟨y0, y1, y2, y3, rfl⟩ := list4 (by simpa using hxs)
    have f0 : DataW.trod enc Tryz.prog W 0 (fun _ => true) true n 3 (([c0, c1, c2, c3].drop 0).take (Tryz.prog.cellsOf 3)) = some y0 := hf 0 _ rfl
    rw [cellsInt] at f0
    simp only [List.drop, List.take] at f0
    have f1 : DataW.trod enc Tryz.prog W 0 (fun _ => true) true n 3 (([c0, c1, c2, c3].drop 1).take (Tryz.prog.cellsOf 3)) = some y1 := hf 1 _ rfl
    rw [cellsInt] at f1
    simp only [List.drop, List.take] at f1
    have f2 : DataW.trod enc Tryz.prog W 0 (fun _ => true) true n 9 (([c0, c1, c2, c3].drop 2).take (Tryz.prog.cellsOf 9)) = some y2 := hf 2 _ rfl
    rw [cellsStr] at f2
    simp only [List.drop, List.take] at f2
    have f3 : DataW.trod enc Tryz.prog W 0 (fun _ => true) true n 101 (([c0, c1, c2, c3].drop 3).take (Tryz.prog.cellsOf 101)) = some y3 := hf 3 _ rfl
    rw [cellsExs] at f3
    simp only [List.drop, List.take] at f3
    obtain ⟨k0, e0, rfl, w0⟩ := DataW.trod_int Tryz.underlying3 f0
    obtain ⟨k1, e1, rfl, w1⟩ := DataW.trod_int Tryz.underlying3 f1
    obtain ⟨s, e2, rfl, hs⟩ := DataW.trod_string Tryz.underlying9 f2
    simp at e0 e1 e2
    subst e0 e1 e2
    obtain ⟨a, b, off, len, cap, D, hv, ha, hl, hD, hbulk, hel⟩ := open_elems Tryz.underlying101 cellsEx (by decide) f3
    have each : ∀ i, i < len → ∃ x : Ex, ∃ d', D[i]? = some d' ∧ exW n x ≤ Rows.uptoBulk d' ∧ ∃ e0 e1 e2 e3, W.cell? ⟨b, off + i * 4, none⟩ = some e0 ∧ W.cell? ⟨b, off + i * 4 + 1, none⟩ = some e1 ∧ W.cell? ⟨b, off + i * 4 + 2, none⟩ = some e2 ∧ W.cell? ⟨b, off + i * 4 + 3, none⟩ = some e3 ∧ ExAt W n e0 e1 e2 e3 x := by
      intro i hi
      obtain ⟨n', cs, d', pl', hn', hlen', hcell, htrod, hDi⟩ := hel i hi
      obtain ⟨e0, e1, e2, e3, x, rfl, hx', hw⟩ := ih n' (by omega) htrod
      refine ⟨x, d', hDi, by rw [exW_mono hx' n (by omega)]; exact hw, e0, e1, e2, e3, hcell 0 (by decide), hcell 1 (by decide), hcell 2 (by decide), hcell 3 (by decide), hx'.mono n (by omega)⟩
    obtain ⟨l, hll, hp⟩ := list_choose len each
    simp only [Prod.mk.injEq] at hx
    obtain ⟨rfl, _⟩ := hx
    subst hfn
    refine ⟨_, _, _, _, ⟨k0, k1, s, l⟩, rfl, ⟨rfl, rfl, rfl, hs, i64_of w0, i64_of w1, a, b, off, cap, by rw [hv, ← hll], by rw [hll]; exact ha, by rw [hll]; exact hl, fun i y hy => ?_⟩, ?_⟩
    · obtain ⟨_, _, _, hh⟩ := hp i y hy
      exact hh
    · have hsum := sum_le (f := exW n) (l := l) (D := D) (by rw [hll, hD]) (fun i x d' h1 h2 => by
        obtain ⟨d'', h3, h4, _⟩ := hp i x h1
        rw [h2] at h3
        cases h3
        exact h4)
      simp only [exW, List.map_cons, List.map_nil, Rows.uptoBulk, Rows.uptoBulkAll, size_list']
      omega
end
end Go.Proofs.YtholefgckcoklaaGreatDoor
namespace Go.Proofs.YtholefgckcoklaaGreatDoor
open Go.RowKit
theorem infoStr : (Tryz.prog.info? 9).map (fun i => (i.zero, i.size, i.bytes)) = some (some (.string ⟨#[]⟩), 1, 16) := by kernel_rfl
theorem infoInt : (Tryz.prog.info? 3).map (fun i => (i.zero, i.size, i.bytes)) = some (some (.int .i64 0), 1, 8) := by kernel_rfl
def Own (w : World) (B : Nat) (v : Value) (l : List ByteArray) : Prop := w.ownsRow B 9 1 v l.length (l.map Value.string)
theorem own_below {w w' : World} {base e size n : Nat} {v : Value} {xs : List Value} (h : w.ownsRow base e size v n xs) (hb : Below w.heap.size w w') : w'.ownsRow base e size v n xs := by
  obtain ⟨h1, h2⟩ := h
  refine ⟨h1, ?_⟩
  rcases h2 with h2 | ⟨g, cap, cur, hv, hg, hh, r⟩
  · exact Or.inl h2
  · refine Or.inr ⟨g, cap, cur, hv, hg, ?_, r⟩
    have hlt : g < w.heap.size := by
      rcases Nat.lt_or_ge g w.heap.size with h' | h'
      · exact h'
      · rw [Array.getElem?_eq_none h'] at hh; cases hh
    rw [hb.block g hlt]; exact hh
theorem Own.strs {w : World} {B : Nat} {v : Value} {l : List ByteArray} (h : Own w B v l) (hs : ∀ s ∈ l, s.size ≤ maxLen) (hl : l.length ≤ 9223372036854775807) : Strs w v l := by
  have h0 := h
  rcases h.2 with ⟨rfl, h1⟩ | ⟨g, cap, cur, rfl, _⟩
  · have : l = [] := List.length_eq_zero_iff.1 (by omega)
    subst this
    exact ⟨none, 0, 0, 0, rfl, fun h => absurd h (by simp), by simp, fun s hs => absurd hs (by simp), fun j hj => absurd hj (by simp)⟩
  · refine ⟨_, g, 0, cap, rfl, fun _ => rfl, hl, hs, fun j hj => ?_⟩
    have := World.ownsRow.cellAt h0 j (by omega)
    rw [Nat.zero_add, this]
    simp [hj]
theorem Own.shape {w : World} {B : Nat} {v : Value} {l : List ByteArray} (h : Own w B v l) : (v = .slice none 0 0 ∧ l = []) ∨ ∃ g cap, v = .slice (some ⟨g, 0, none⟩) l.length cap ∧ l.length ≤ cap ∧ g < w.heap.size := by
  rcases h.2 with ⟨rfl, h1⟩ | ⟨g, cap, cur, rfl, _, hh, hc, _⟩
  · exact Or.inl ⟨rfl, List.length_eq_zero_iff.1 (by omega)⟩
  · refine Or.inr ⟨g, cap, rfl, hc, ?_⟩
    rcases Nat.lt_or_ge g w.heap.size with h' | h'
    · exact h'
    · rw [Array.getElem?_eq_none h'] at hh; cases hh
def StrsC (w : World) (v : Value) (l : List ByteArray) : Prop := Strs w v l ∧ ∃ a c, v = .slice a l.length c ∧ l.length ≤ c
theorem StrsC.below {w w' : World} {v : Value} {l : List ByteArray} (h : StrsC w v l) (hb : Below w.heap.size w w') : StrsC w' v l := ⟨h.1.below hb, h.2⟩
theorem Own.strsC {w : World} {B : Nat} {v : Value} {l : List ByteArray} (h : Own w B v l) (hs : ∀ s ∈ l, s.size ≤ maxLen) (hl : l.length ≤ 9223372036854775807) : StrsC w v l := by
  refine ⟨h.strs hs hl, ?_⟩
  rcases h.shape with ⟨rfl, rfl⟩ | ⟨g, cap, rfl, hc, _⟩
  · exact ⟨_, _, rfl, Nat.le_refl _⟩
  · exact ⟨_, _, rfl, hc⟩
def Ints (w : World) (v : Value) (l : List Int) : Prop :=
  ∃ (a : Option Addr) (b off cap : Nat), v = .slice a l.length cap ∧ (0 < l.length → a = some ⟨b, off, none⟩) ∧ l.length ≤ 9223372036854775807 ∧
    ∀ j z, l[j]? = some z → w.cell? ⟨b, off + j, none⟩ = some (.int .i64 z)
theorem Ints.below {w w' : World} {v : Value} {l : List Int} (h : Ints w v l) (hb : Below w.heap.size w w') : Ints w' v l := by
  obtain ⟨a, b, off, cap, e, h0, hl, h1⟩ := h
  exact ⟨a, b, off, cap, e, h0, hl, fun j z hz => cellUp (h1 j z hz) hb⟩
def OwnI (w : World) (B : Nat) (v : Value) (l : List Int) : Prop := w.ownsRow B 3 1 v l.length (l.map (Value.int .i64))
theorem OwnI.ints {w : World} {B : Nat} {v : Value} {l : List Int} (h : OwnI w B v l) (hl : l.length ≤ 9223372036854775807) : Ints w v l := by
  have h0 := h
  rcases h.2 with ⟨rfl, h1⟩ | ⟨g, cap, cur, rfl, _⟩
  · have : l = [] := List.length_eq_zero_iff.1 (by omega)
    subst this
    exact ⟨none, 0, 0, 0, rfl, fun h => absurd h (by simp), by simp, fun j z hz => absurd hz (by simp)⟩
  · refine ⟨_, g, 0, cap, rfl, fun _ => rfl, hl, fun j z hz => ?_⟩
    obtain ⟨hj, rfl⟩ := List.getElem?_eq_some_iff.1 hz
    have := World.ownsRow.cellAt h0 j (by omega)
    rw [Nat.zero_add, this]
    simp [hj]
theorem own_ne {w : World} {base e size n : Nat} {v : Value} {xs : List Value} {base' e' size' n' : Nat} {v' : Value} {xs' : List Value} (h : w.ownsRow base e size v n xs) (h' : w.ownsRow base' e' size' v' n' xs') (hne : e ≠ e') : v.ownBlock = none ∨ v.ownBlock ≠ v'.ownBlock := by
  rcases h.2 with ⟨rfl, _⟩ | ⟨g, cap, cur, rfl, _, hh, _⟩
  · exact Or.inl rfl
  · right
    intro e1
    rcases h'.2 with ⟨rfl, _⟩ | ⟨g', cap', cur', rfl, _, hh', _⟩
    · simp [Value.ownBlock] at e1
    · simp [Value.ownBlock] at e1
      subst e1
      rw [hh] at hh'
      simp at hh'
      exact hne hh'.2
theorem wpList_append_str {w : World} {ops : Array Oper} {rest : List Oper} {o : Oper} {a : Act} {Q : Exit → Act → World → Prop} (hgd : o.guard = none) (s x : Operand)
    (ho : o.op = .call { callee := .builtin .append, args := #[s, x], argTypes := #[22, 22] })
    (base : Nat) (v : Value) (l : List ByteArray) (hs : a.eval s = v) (hown : Own w base v l) (B : Nat) (t : ByteArray) (hx : a.eval x = .slice (some ⟨B, 0, none⟩) 1 1)
    (hc : w.cell? ⟨B, 0, none⟩ = some (.string t)) (hl : l.length ≤ 1048576) (hbase : base ≤ w.heap.size)
    (h : ∀ v' w', Own w' base v' (l ++ [t]) → w.grownBy w' v.ownBlock → wpList Tryz.prog ops Q rest (a.put o.dst v') w') : wpList Tryz.prog ops Q (o :: rest) a w := by
  obtain ⟨iS, hiS, hz0, hz1, hz2⟩ := info_parts infoStr
  have hown' : w.ownsRow base 9 1 v l.length (l.map Value.string) := hown
  refine wpList_append_own _ hgd s x 22 ho base 9 iS (.string ⟨#[]⟩) 1 16 Tryz.underlying22 hiS hz0 hz1 hz2 rfl (by decide) v l.length (l.map Value.string) hs hown' ⟨B, 0, none⟩ 1 1 [.string t] hx rfl (fun j u hu => ?_) (fun u hu => ?_) (by unfold maxLen; omega) (by omega) hbase ?_
  · cases j with
    | zero =>
      simp at hu
      subst hu
      rw [Addr.add_lit]; exact hc
    | succ j => simp at hu
  · simp at hu
    subst hu
    rfl
  · intro v' w' h1 h2 _
    refine h v' w' ?_ h2
    unfold Own
    rw [List.length_append, List.map_append]
    exact h1
theorem Own.kept {w w' : World} {B : Nat} {v : Value} {l : List ByteArray} {o : Obj} {v2 : Value} {l2 : List Int} (h : Own w B v l) (h2 : OwnI w B v2 l2) (hg : (w.alloc o).grownBy w' v2.ownBlock) : Own w' B v l :=
  (World.ownsRow.alloc h o).kept hg (own_ne (World.ownsRow.alloc h o) (World.ownsRow.alloc h2 o) (by decide))
theorem OwnI.kept {w w' : World} {B : Nat} {v : Value} {l : List ByteArray} {o : Obj} {v2 : Value} {l2 : List Int} (h2 : OwnI w B v2 l2) (h : Own w B v l) (hg : (w.alloc o).grownBy w' v.ownBlock) : OwnI w' B v2 l2 :=
  (World.ownsRow.alloc h2 o).kept hg (own_ne (World.ownsRow.alloc h2 o) (World.ownsRow.alloc h o) (by decide))
end Go.Proofs.YtholefgckcoklaaGreatDoor
