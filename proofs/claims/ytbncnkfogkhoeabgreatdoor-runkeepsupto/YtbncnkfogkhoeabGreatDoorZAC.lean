/- Names, as plain data: what a call means; lists of modules in memory. -/
import Derived.Test.YtbncnkfogkhoeabGreatDoorZAB
import Derived.Test.YtbncnkfogkhoeabGreatDoorZAA
import Derived.Laws.AppendOwnNone
import Derived.WalkKit
import Derived.Laws.CopyRow
import Derived.Laws.CopyOwn
import Derived.Lib.AppendZerosOnto
import Derived.Lib.Overlaps
import Derived.Laws.Externs
import Derived.Shelf.Spec.SlicesInsert
import Derived.Lib.AppendZeros
import Derived.Shelf.SlSortCmp.QuietGrown
namespace Go.Proofs.YtbncnkfogkhoeabGreatDoor
open Go.RowKit

/-- The slice v is a list of modules. -/
def MosAt (w : World) (m : Nat) (v : Value) (l : List Mo) : Prop :=
  ∃ (a : Option Addr) (b off cap : Nat), v = .slice a l.length cap ∧ (0 < l.length → a = some ⟨b, off, none⟩) ∧ l.length ≤ 9223372036854775807 ∧
    ∀ i x, l[i]? = some x → ∃ vi vv vf, w.cell? ⟨b, off + i * 4, none⟩ = some (.string x.name) ∧ w.cell? ⟨b, off + i * 4 + 1, none⟩ = some vi ∧ w.cell? ⟨b, off + i * 4 + 2, none⟩ = some vv ∧ w.cell? ⟨b, off + i * 4 + 3, none⟩ = some vf ∧ MoAt w m (.agg #[.string x.name, vi, vv, vf]) x
theorem MosAt.below {w w' : World} {m : Nat} {v : Value} {l : List Mo} (h : MosAt w m v l) (hb : Below w.heap.size w w') : MosAt w' m v l := by
  obtain ⟨a, b, off, cap, e, h0, hl, h1⟩ := h
  refine ⟨a, b, off, cap, e, h0, hl, fun i x hx => ?_⟩
  obtain ⟨vi, vv, vf, g0, g1, g2, g3, hm⟩ := h1 i x hx
  exact ⟨vi, vv, vf, cellUp g0 hb, cellUp g1 hb, cellUp g2 hb, cellUp g3 hb, hm.below hb⟩

namespace Nm
def sameB (s t : ByteArray) : Bool := s.toList == t.toList
/-- The first function of that name among the first n. -/
def fnAt (l : List Fu) (s : ByteArray) (n : Nat) : Option Nat := (List.range n).find? fun i => match l[i]? with | some f => sameB f.name s | none => false
/-- The first module of that name. -/
def moAt (l : List Mo) (s : ByteArray) : Option Nat := (List.range l.length).find? fun i => match l[i]? with | some x => sameB x.name s | none => false
/-- What a call means: which module (-1: this one), which function, and is there one? -/
def tgt (x : Mo) (k : Nat) (call : ByteArray) (known : List Mo) : Int × Int × Bool :=
  match Lat.dotAt call with
  | none => match fnAt x.funs call k with
    | some i => (-1, i, true)
    | none => (-1, 0, false)
  | some _ =>
    if 0 ≤ Lat.indexI x.imports (Lat.preS call) then
      match moAt known (Lat.preS call) with
      | none => (0, 0, false)
      | some i => match fnAt ((known[i]?.map (·.funs)).getD []) (Lat.sufS call) ((known[i]?.map (·.funs)).getD []).length with
        | some j => (i, j, true)
        | none => (i, 0, false)
    else (0, 0, false)
theorem fnAt_hit {l : List Fu} {s : ByteArray} {n i : Nat} {f : Fu} (hi : i < n) (hf : l[i]? = some f) (h : sameB f.name s = true) (h0 : ∀ d g, d < i → l[d]? = some g → sameB g.name s = false) : fnAt l s n = some i := by
  refine Lat.find_hit hi (fun c hc => ?_) (by simp only [hf]; exact h)
  cases hg : l[c]? with
  | none => rfl
  | some g => exact h0 c g hc hg
theorem fnAt_none {l : List Fu} {s : ByteArray} {n : Nat} (h0 : ∀ d g, d < n → l[d]? = some g → sameB g.name s = false) : fnAt l s n = none := by
  refine Lat.find_none (fun c hc => ?_)
  cases hg : l[c]? with
  | none => rfl
  | some g => exact h0 c g hc hg
theorem moAt_hit {l : List Mo} {s : ByteArray} {i : Nat} {x : Mo} (hx : l[i]? = some x) (h : sameB x.name s = true) (h0 : ∀ d g, d < i → l[d]? = some g → sameB g.name s = false) : moAt l s = some i := by
  refine Lat.find_hit (List.getElem?_eq_some_iff.1 hx).1 (fun c hc => ?_) (by simp only [hx]; exact h)
  cases hg : l[c]? with
  | none => rfl
  | some g => exact h0 c g hc hg
theorem moAt_none {l : List Mo} {s : ByteArray} (h0 : ∀ (d : Nat) (g : Mo), l[d]? = some g → sameB g.name s = false) : moAt l s = none := by
  refine Lat.find_none (fun c hc => ?_)
  cases hg : l[c]? with
  | none => rfl
  | some g => exact h0 c g hg
end Nm

end Go.Proofs.YtbncnkfogkhoeabGreatDoor

/- Walks over package downref: Target answers what a call means. -/
namespace Go.Proofs.YtbncnkfogkhoeabGreatDoor
open Go.RowKit

namespace Nm
theorem tgt_here {x : Mo} {k : Nat} {call : ByteArray} {known : List Mo} {i : Nat} (hd : Lat.dotAt call = none) (hf : fnAt x.funs call k = some i) : tgt x k call known = (-1, (i : Int), true) := by simp [tgt, hd, hf]
theorem tgt_here0 {x : Mo} {k : Nat} {call : ByteArray} {known : List Mo} (hd : Lat.dotAt call = none) (hf : fnAt x.funs call k = none) : tgt x k call known = (-1, 0, false) := by simp [tgt, hd, hf]
theorem tgt_notI {x : Mo} {k : Nat} {call : ByteArray} {known : List Mo} {d : Nat} (hd : Lat.dotAt call = some d) (hi : decide (0 ≤ Lat.indexI x.imports (Lat.preS call)) = false) : tgt x k call known = (0, 0, false) := by
  have := of_decide_eq_false hi
  simp [tgt, hd, this]
theorem tgt_noM {x : Mo} {k : Nat} {call : ByteArray} {known : List Mo} {d : Nat} (hd : Lat.dotAt call = some d) (hi : decide (0 ≤ Lat.indexI x.imports (Lat.preS call)) = true) (hm : moAt known (Lat.preS call) = none) : tgt x k call known = (0, 0, false) := by
  have := of_decide_eq_true hi
  simp [tgt, hd, this, hm]
theorem tgt_fn {x y : Mo} {k : Nat} {call : ByteArray} {known : List Mo} {d i j : Nat} (hd : Lat.dotAt call = some d) (hi : decide (0 ≤ Lat.indexI x.imports (Lat.preS call)) = true) (hm : moAt known (Lat.preS call) = some i) (hy : known[i]? = some y)
    (hf : fnAt y.funs (Lat.sufS call) y.funs.length = some j) : tgt x k call known = ((i : Int), (j : Int), true) := by
  have := of_decide_eq_true hi
  simp [tgt, hd, this, hm, hy, hf]
theorem tgt_nofn {x y : Mo} {k : Nat} {call : ByteArray} {known : List Mo} {d i : Nat} (hd : Lat.dotAt call = some d) (hi : decide (0 ≤ Lat.indexI x.imports (Lat.preS call)) = true) (hm : moAt known (Lat.preS call) = some i) (hy : known[i]? = some y)
    (hf : fnAt y.funs (Lat.sufS call) y.funs.length = none) : tgt x k call known = ((i : Int), 0, false) := by
  have := of_decide_eq_true hi
  simp [tgt, hd, this, hm, hy, hf]
end Nm

theorem boxN1 (w : World) (c0 c1 c2 c3 : Value) (t : TypeId) : (w.alloc (.cells #[c0, c1, c2, c3] t)).cell? ⟨w.heap.size, 1, none⟩ = some c1 := by simp [go_sem]
theorem boxN3 (w : World) (c0 c1 c2 c3 : Value) (t : TypeId) : (w.alloc (.cells #[c0, c1, c2, c3] t)).cell? ⟨w.heap.size, 3, none⟩ = some c3 := by simp [go_sem]
theorem ret_t3 {P : Prop} {R : Int × Int × Bool} {a b : Int} {c : Bool} (h : R = (a, b, c)) (hb : P) : (Ending.returned (.tuple #[.int .i64 a, .int .i64 b, .bool c]) = Ending.returned (.tuple #[.int .i64 R.1, .int .i64 R.2.1, .bool R.2.2])) ∧ P := by
  subst h; exact ⟨rfl, hb⟩

end Go.Proofs.YtbncnkfogkhoeabGreatDoor

/- Rows of a call's own whose elements are plain, or point to memory that was there ahead of the call: appends of many elements at once. -/
namespace Go.Proofs.YtbncnkfogkhoeabGreatDoor
open Go.RowKit

/-- The slice v is a row of the call's own, of k cells an element, that holds l: At says what an element's cells are. -/
def OwnK {α : Type} (At : List Value → α → Prop) (w : World) (n e k : Nat) (v : Value) (l : List α) : Prop :=
  ∃ cs : List (List Value), w.ownsRow n e k v l.length cs.flatten ∧ cs.length = l.length ∧ (∀ c ∈ cs, c.length = k ∧ ∀ u ∈ c, u.oneCell' = true) ∧
    (∀ (i : Nat) c y, cs[i]? = some c → l[i]? = some y → At c y) ∧ (l = [] → v = .slice none 0 0)
section
variable {α : Type} {At : List Value → α → Prop} {w w' : World} {n e k : Nat} {v : Value} {l : List α}
theorem OwnK.nil (w : World) (n e k : Nat) : OwnK At w n e k (.slice none 0 0) [] := ⟨[], World.ownsRow_nil _ _ _ _, rfl, (fun c hc => absurd hc (by simp)), (fun i c y hc => absurd hc (by simp)), fun _ => rfl⟩
theorem OwnK.lt (h : OwnK At w n e k v l) : ∀ j, v.ownBlock = some j → n ≤ j ∧ j < w.heap.size := by
  obtain ⟨cs, h1, _⟩ := h
  exact h1.lt
theorem OwnK.shape (h : OwnK At w n e k v l) : (v = .slice none 0 0 ∧ l = []) ∨ ∃ g cap, v = .slice (some ⟨g, 0, none⟩) l.length cap ∧ l.length ≤ cap ∧ n ≤ g ∧ g < w.heap.size ∧ l ≠ [] := by
  obtain ⟨cs, h, _, _, _, hz⟩ := h
  have hlt := h.lt
  rcases h.2 with ⟨rfl, h1⟩ | ⟨g, cap, cur, rfl, _, hh, hc, _⟩
  · exact Or.inl ⟨rfl, List.length_eq_zero_iff.1 (by omega)⟩
  · exact Or.inr ⟨g, cap, rfl, hc, (hlt g rfl).1, (hlt g rfl).2, fun e => by have := hz e; simp at this⟩
theorem OwnK.below (h : OwnK At w n e k v l) (hb : Below w.heap.size w w') : OwnK At w' n e k v l := by
  obtain ⟨cs, h1, h2⟩ := h
  exact ⟨cs, own_below h1 hb, h2⟩
theorem OwnK.old {n' : Nat} (h : OwnK At w n e k v l) (hn : n' ≤ n) : OwnK At w n' e k v l := by
  obtain ⟨cs, ⟨h0, h1⟩, h2⟩ := h
  refine ⟨cs, ⟨h0, ?_⟩, h2⟩
  rcases h1 with h1 | ⟨g, cap, cur, hv, hg, r⟩
  · exact Or.inl h1
  · exact Or.inr ⟨g, cap, cur, hv, Nat.le_trans hn hg, r⟩
theorem OwnK.imp {At' : List Value → α → Prop} (h : OwnK At w n e k v l) (hi : ∀ c y, At c y → At' c y) : OwnK At' w n e k v l := by
  obtain ⟨cs, h1, h2, h3, h4, h5⟩ := h
  exact ⟨cs, h1, h2, h3, fun i c y hc hy => hi c y (h4 i c y hc hy), h5⟩
/-- An element that was laid into a block of its own. -/
theorem OwnK.one {c : List Value} {y : α} (w : World) (e : Nat) (hc : c.length = k) (h1 : ∀ u ∈ c, u.oneCell' = true) (hy : At c y) : OwnK At (w.alloc (.cells c.toArray e)) w.heap.size e k (.slice (some ⟨w.heap.size, 0, none⟩) 1 1) [y] := by
  refine ⟨[c], ⟨by simp [hc], Or.inr ⟨w.heap.size, 1, c.toArray, rfl, Nat.le_refl _, block_new _ _, Nat.le_refl _, by decide, by simp [hc], by simp [← hc]⟩⟩, rfl, fun d hd => ?_, fun i d z hd hz => ?_, fun h => absurd h (by simp)⟩
  · rw [List.mem_singleton] at hd; subst hd; exact ⟨hc, h1⟩
  · cases i with
    | zero => simp at hd hz; subst hd hz; exact hy
    | succ i => simp at hd
theorem flat_get {k : Nat} : ∀ (cs : List (List Value)) (i j : Nat) (hi : i < cs.length), (∀ c ∈ cs, c.length = k) → j < k → cs.flatten[i * k + j]? = (cs[i])[j]? := by
  intro cs
  induction cs with
  | nil => intro i j hi; simp at hi
  | cons c cs ih =>
    intro i j hi hk hj
    have hc := hk c (by simp)
    cases i with
    | zero =>
      rw [List.flatten_cons, Nat.zero_mul, Nat.zero_add, List.getElem?_append_left (by omega)]; rfl
    | succ i =>
      rw [List.flatten_cons, List.getElem?_append_right (by rw [hc, Nat.succ_mul]; omega), hc]
      have e1 : (i + 1) * k + j - k = i * k + j := by rw [Nat.succ_mul]; omega
      rw [e1, ih i j (by simpa using hi) (fun d hd => hk d (by simp [hd])) hj]
      rfl
/-- An element's cells. -/
theorem OwnK.cell {g cap : Nat} (h : OwnK At w n e k (.slice (some ⟨g, 0, none⟩) l.length cap) l) {i : Nat} {y : α} (hy : l[i]? = some y) :
    ∃ c, c.length = k ∧ (∀ j, j < k → w.cell? ⟨g, i * k + j, none⟩ = c[j]?) ∧ At c y := by
  obtain ⟨cs, h1, h2, h3, h4, _⟩ := h
  have hi : i < cs.length := by
    have := (List.getElem?_eq_some_iff.1 hy).1
    omega
  refine ⟨cs[i], (h3 _ (List.getElem_mem hi)).1, fun j hj => ?_, h4 i _ y (List.getElem?_eq_getElem hi) hy⟩
  have hik : i * k + j < l.length * k := by
    have : i + 1 ≤ l.length := by omega
    have h5 := Nat.mul_le_mul_right k this
    rw [Nat.add_mul, Nat.one_mul] at h5
    omega
  rw [World.ownsRow.cellAt h1 _ hik]
  exact flat_get cs i j hi (fun c hc => (h3 c hc).1) hj
theorem OwnK.cat {g cap : Nat} {l2 : List α} {cs cs2 : List (List Value)}
    (h2 : cs.length = l.length ∧ (∀ c ∈ cs, c.length = k ∧ ∀ u ∈ c, u.oneCell' = true) ∧ (∀ (i : Nat) c y, cs[i]? = some c → l[i]? = some y → At c y))
    (h2' : cs2.length = l2.length ∧ (∀ c ∈ cs2, c.length = k ∧ ∀ u ∈ c, u.oneCell' = true) ∧ (∀ (i : Nat) c y, cs2[i]? = some c → l2[i]? = some y → At c y)) (hne : l2 ≠ [])
    (h1 : w'.ownsRow n e k (.slice (some ⟨g, 0, none⟩) (l.length + l2.length) cap) (l.length + l2.length) (cs.flatten ++ cs2.flatten)) :
    OwnK At w' n e k (.slice (some ⟨g, 0, none⟩) (l.length + l2.length) cap) (l ++ l2) := by
  obtain ⟨a1, a2, a3⟩ := h2
  obtain ⟨b1, b2, b3⟩ := h2'
  refine ⟨cs ++ cs2, by rw [List.length_append, List.flatten_append]; exact h1, by simp [a1, b1], fun d hd => ?_, fun i d z hd hz => ?_, fun h => absurd (List.append_eq_nil_iff.1 h).2 hne⟩
  · rcases List.mem_append.1 hd with hd | hd
    · exact a2 d hd
    · exact b2 d hd
  · by_cases hi : i < l.length
    · rw [List.getElem?_append_left (by omega)] at hd
      rw [List.getElem?_append_left hi] at hz
      exact a3 i d z hd hz
    · rw [List.getElem?_append_right (by omega)] at hd
      rw [List.getElem?_append_right (by omega)] at hz
      rw [a1] at hd
      exact b3 _ d z hd hz
end

theorem flat_len {k : Nat} : ∀ (cs : List (List Value)), (∀ c ∈ cs, c.length = k) → cs.flatten.length = cs.length * k
  | [], _ => by simp
  | c :: cs, h => by rw [List.flatten_cons, List.length_append, flat_len cs (fun d hd => h d (by simp [hd])), h c (by simp), List.length_cons, Nat.succ_mul, Nat.add_comm]

section
variable {α : Type} {At : List Value → α → Prop} {w : World} {ops : Array Oper} {rest : List Oper} {o : Oper} {a : Act} {Q : Exit → Act → World → Prop}
/-- append of a row. -/
theorem wpList_append_K (hgd : o.guard = none) (s x : Operand) (t e k bytes : Nat) (z : Value)
    (ho : o.op = .call { callee := .builtin .append, args := #[s, x], argTypes := #[t, t] }) (ht : Tryz.prog.underlying t = some (.slice e)) (hinfo : (Tryz.prog.info? e).map (fun i => (i.zero, i.size, i.bytes)) = some (some z, k, bytes)) (hzs : z.cells.size = k) (hk : 0 < k) (hby : bytes ≤ 1024)
    (n : Nat) (v : Value) (l : List α) (hs : a.eval s = v) (hown : OwnK At w n e k v l) (n2 : Nat) (v2 : Value) (l2 : List α) (hx : a.eval x = v2) (hown2 : OwnK At w n2 e k v2 l2) (hl : l.length + l2.length ≤ 16777216) (hbase : n ≤ w.heap.size)
    (h : ∀ v' w', OwnK At w' n e k v' (l ++ l2) → w.grownBy w' v.ownBlock → wpList Tryz.prog ops Q rest (a.put o.dst v') w') : wpList Tryz.prog ops Q (o :: rest) a w := by
  obtain ⟨iS, hiS, hz0, hz1, hz2⟩ := info_parts hinfo
  have HO := hown
  obtain ⟨cs, hr, k1, k2, k3, k4⟩ := hown
  rcases hown2.shape with ⟨rfl, rfl⟩ | ⟨g2, cap2, rfl, _, _, _, hne⟩
  · refine wpList_append_own_none hgd s x t ho n e iS k ht hiS v l.length cs.flatten hs hr hx ?_
    exact h v w (by simpa using HO) ⟨rfl, rfl, rfl, Nat.le_refl _, fun _ _ _ => rfl⟩
  · obtain ⟨cs2, hr2, b1, b2, b3, _⟩ := hown2
    have hpos : 0 < l2.length := List.length_pos_iff.2 hne
    refine wpList_append_lies w hgd s x t ho n e iS z k bytes ht hiS hz0 hz1 hz2 hzs hk v l.length cs.flatten hs hr ⟨g2, 0, none⟩ l2.length cap2 cs2.flatten hx (by rw [flat_len cs2 (fun c hc => (b2 c hc).1), b1]) (fun j u hu => ?_) (fun u hu => ?_) hpos (by unfold maxLen; omega)
      (Nat.le_trans (Nat.mul_le_mul hl hby) (by decide)) hbase w.heap.size rfl ?_
    · rw [Addr.add_lit, Nat.zero_add, World.ownsRow.cellAt hr2 j (by have := (List.getElem?_eq_some_iff.1 hu).1; rw [flat_len cs2 (fun c hc => (b2 c hc).1), b1] at this; exact this)]
      exact hu
    · obtain ⟨c, hc, hu'⟩ := List.mem_flatten.1 hu
      exact (b2 c hc).2 u hu'
    · intro g cap w' h1' h2 _ _
      exact h _ w' (OwnK.cat ⟨k1, k2, k3⟩ ⟨b1, b2, b3⟩ hne h1') h2
end

end Go.Proofs.YtbncnkfogkhoeabGreatDoor

/- Walks over package downref: the calls of an expression. -/
namespace Go.Proofs.YtbncnkfogkhoeabGreatDoor
open Go.RowKit

/-- An expression's four cells, as they lie in world w. -/
def ExC (w : World) (m : Nat) (c : List Value) (x : Ex) : Prop := ∃ c0 c1 c2 c3, c = [c0, c1, c2, c3] ∧ ExAt w m c0 c1 c2 c3 x
theorem infoExN : (Tryz.prog.info? 72).map (fun i => (i.zero, i.size, i.bytes)) = some (some (.agg #[.int .i64 0, .int .i64 0, .string ⟨#[]⟩, .slice none 0 0]), 4, 56) := by kernel_rfl
theorem ExAt.oneN {w : World} {m : Nat} {c0 c1 c2 c3 : Value} {x : Ex} (h : ExAt w m c0 c1 c2 c3 x) : ∀ u ∈ [c0, c1, c2, c3], u.oneCell' = true := by
  obtain ⟨a, cap, rfl, rfl, rfl, rfl⟩ := h.shape
  intro u hu
  simp at hu
  rcases hu with rfl | rfl | rfl | rfl <;> rfl

namespace Nm
/-- The calls of an expression; m bounds how deep it is looked into. -/
def calls : Nat → Ex → List Ex
  | 0, _ => []
  | m + 1, x => x.args.flatMap (calls m) ++ if x.kind = 4 then [x] else []
end Nm
theorem flat_succ {α β : Type} {f : α → List β} {l : List α} {j : Nat} {y : α} (h : l[j]? = some y) : (l.take (j + 1)).flatMap f = (l.take j).flatMap f ++ f y := by
  rw [List.take_add_one, h]; simp
theorem flat_le {α β : Type} {f : α → List β} {l : List α} (j : Nat) : ((l.take j).flatMap f).length ≤ (l.flatMap f).length := by
  have h := congrArg (fun t => (t.flatMap f).length) (List.take_append_drop j l)
  simp only [List.flatMap_append, List.length_append] at h
  omega
theorem grown_below {w w1 w2 : World} {r : Option Nat} (h : Below w.heap.size w w1) (hg : w1.grownBy w2 r) (hr : ∀ k, r = some k → w.heap.size ≤ k) : Below w.heap.size w w2 :=
  ⟨hg.os.trans h.os, hg.tape.trans h.tape, hg.output.trans h.output, Nat.le_trans h.size hg.size, fun k hk => (hg.block k (Nat.lt_of_lt_of_le hk h.size) (fun e => by have := hr k e.symm; omega)).trans (h.block k hk)⟩

theorem boxD0 (w : World) (c0 c1 c2 c3 : Value) (t : TypeId) : (w.alloc (.cells #[c0, c1, c2, c3] t)).cell? ⟨w.heap.size, 0, none⟩ = some c0 := by simp [go_sem]
theorem boxD1 (w : World) (c0 c1 c2 c3 : Value) (t : TypeId) : (w.alloc (.cells #[c0, c1, c2, c3] t)).cell? ⟨w.heap.size, 1, none⟩ = some c1 := by simp [go_sem]
theorem boxD2 (w : World) (c0 c1 c2 c3 : Value) (t : TypeId) : (w.alloc (.cells #[c0, c1, c2, c3] t)).cell? ⟨w.heap.size, 2, none⟩ = some c2 := by simp [go_sem]

end Go.Proofs.YtbncnkfogkhoeabGreatDoor

/- Walks over package downref: all commands of a body. -/
namespace Go.Proofs.YtbncnkfogkhoeabGreatDoor
open Go.RowKit

/-- A command's eight cells, as they lie in world w. -/
def StC (w : World) (m : Nat) (c : List Value) (s : St) : Prop := ∃ e0 e1 e2 e3 va vb, c = [.int .i64 s.kind, .string s.name, e0, e1, e2, e3, va, vb] ∧ I64 s.kind ∧ s.name.size ≤ maxLen ∧ ExAt w m e0 e1 e2 e3 s.e ∧ StsAt w m va s.a ∧ StsAt w m vb s.b
theorem infoStN : (Tryz.prog.info? 107).map (fun i => (i.zero, i.size, i.bytes)) = some (some (.agg #[.int .i64 0, .string ⟨#[]⟩, .int .i64 0, .int .i64 0, .string ⟨#[]⟩, .slice none 0 0, .slice none 0 0, .slice none 0 0]), 8, 128) := by kernel_rfl
theorem StsAt.shapeN {w : World} : ∀ {m : Nat} {v : Value} {l : List St}, StsAt w m v l → ∃ a cap, v = .slice a l.length cap
  | 0, _, _, h => False.elim h
  | _ + 1, _, _, ⟨a, _, _, cap, e, _⟩ => ⟨a, cap, e⟩
theorem StC.one {w : World} {m : Nat} {c : List Value} {s : St} (h : StC w m c s) : ∀ u ∈ c, u.oneCell' = true := by
  obtain ⟨e0, e1, e2, e3, va, vb, rfl, _, _, hx, ha, hb⟩ := h
  obtain ⟨a, cap, rfl, rfl, rfl, rfl⟩ := hx.shape
  obtain ⟨a1, c1, rfl⟩ := ha.shapeN
  obtain ⟨a2, c2, rfl⟩ := hb.shapeN
  intro u hu
  simp at hu
  rcases hu with rfl | rfl | rfl | rfl | rfl | rfl | rfl | rfl <;> rfl

namespace Nm
/-- A command, and all within it. -/
def within (f : List St → List St) (s : St) : List St := ([s] ++ f s.a) ++ f s.b
/-- All commands of a body; m bounds how deep it is looked into. -/
def all : Nat → List St → List St
  | 0, _ => []
  | m + 1, l => l.flatMap (within (all m))
end Nm

end Go.Proofs.YtbncnkfogkhoeabGreatDoor

/- Walks over package downref: ahead, the order of diagnostics. -/
namespace Go.Proofs.YtbncnkfogkhoeabGreatDoor
open Go.RowKit

structure Dg where
  code : Int
  fn : ByteArray
  name : ByteArray
namespace Nm
/-- Does one diagnostic stand ahead of another one? -/
def aheadB (a b : Dg) : Bool :=
  if (a.fn.toList == b.fn.toList) = false then Op.bytesLess a.fn.toList b.fn.toList
  else if (a.code == b.code) = false then decide (a.code < b.code) else Op.bytesLess a.name.toList b.name.toList
end Nm
theorem boxE0 (w : World) (c0 c1 c2 : Value) (t : TypeId) : (w.alloc (.cells #[c0, c1, c2] t)).cell? ⟨w.heap.size, 0, none⟩ = some c0 := by simp [go_sem]

end Go.Proofs.YtbncnkfogkhoeabGreatDoor

/- Walks over package downref: Names' closures tell and level. -/
namespace Go.Proofs.YtbncnkfogkhoeabGreatDoor
open Go.RowKit

/-- A diagnostic's three cells. -/
def DgC (c : List Value) (d : Dg) : Prop := c = [.int .i64 d.code, .string d.fn, .string d.name]
theorem DgC.one {c : List Value} {d : Dg} (h : DgC c d) : ∀ u ∈ c, u.oneCell' = true := by
  subst h
  intro u hu
  simp at hu
  rcases hu with rfl | rfl | rfl <;> rfl

theorem OwnK.set {α : Type} {At : List Value → α → Prop} {w : World} {n e k : Nat} {v : Value} {l : List α} (h : OwnK At w n e k v l) {a : Addr} (ha : v.ownBlock ≠ some a.block) (x : Value) : OwnK At (w.setCell a x) n e k v l := by
  obtain ⟨cs, ⟨h0, h1⟩, h2⟩ := h
  refine ⟨cs, ⟨h0, ?_⟩, h2⟩
  rcases h1 with h1 | ⟨g, cap, cur, hv, hg, hh, r⟩
  · exact Or.inl h1
  · refine Or.inr ⟨g, cap, cur, hv, hg, block_other hh (fun e' => ha (by rw [hv, ← e']; rfl)) _, r⟩
theorem OwnK.apart {α : Type} {At : List Value → α → Prop} {w : World} {n e k p : Nat} {v : Value} {l : List α} {cs : Array Value} {t : TypeId} {fz : Nat × Nat} (h : OwnK At w n e k v l) (hp : w.heap[p]? = some (.cells cs t fz)) (ht : t ≠ e) : v.ownBlock ≠ some p := by
  intro e'
  obtain ⟨_, ⟨_, h1⟩, _⟩ := h
  rcases h1 with ⟨rfl, _⟩ | ⟨g, cap, cur, hv, _, hh, _⟩
  · cases e'
  · rw [hv] at e'
    have : g = p := by simpa [Value.ownBlock] using e'
    subst this
    rw [hp] at hh
    simp at hh
    exact ht hh.2.1
theorem OwnK.form {α : Type} {At : List Value → α → Prop} {w : World} {n e k : Nat} {v : Value} {l : List α} (h : OwnK At w n e k v l) : ∃ a c, v = .slice a l.length c := by
  rcases h.shape with ⟨rfl, rfl⟩ | ⟨g, cap, rfl, _⟩
  · exact ⟨_, _, rfl⟩
  · exact ⟨_, _, rfl⟩
theorem OwnK.typ {α : Type} {At : List Value → α → Prop} {w : World} {n e k g : Nat} {v : Value} {l : List α} (h : OwnK At w n e k v l) (hg : v.ownBlock = some g) : ∃ cur, w.heap[g]? = some (.cells cur e (0, 0)) := by
  obtain ⟨_, ⟨_, h1⟩, _⟩ := h
  rcases h1 with ⟨rfl, _⟩ | ⟨g', cap, cur, hv, _, hh, _⟩
  · cases hg
  · rw [hv] at hg
    have : g' = g := by simpa [Value.ownBlock] using hg
    subst this
    exact ⟨cur, hh⟩

namespace Nm
/-- What level tells of a name. -/
def lev (names : List ByteArray) (fn name : ByteArray) : List Dg := if decide (0 ≤ Lat.indexI names name) = true then [] else [⟨3, fn, name⟩]
end Nm

end Go.Proofs.YtbncnkfogkhoeabGreatDoor

/- The copying of rows whose elements have several cells. -/
namespace Go.Proofs.YtbncnkfogkhoeabGreatDoor
open Go.RowKit

theorem run_copyK {P : Program} (w : World) (dT sT ty elem : TypeId) (k g o dLen dCap : Nat) (a : Addr) (sLen sCap : Nat) (cur : Array Value) (t : TypeId) (cs : List Value)
    (hu : P.underlying dT = some (.slice elem)) (hs : (P.info? elem).map (·.size) = some k)
    (hg : w.heap[g]? = some (.cells cur t (0, 0))) (hn : cs.length = Nat.min sLen dLen * k)
    (hsrc : ∀ j v, cs[j]? = some v → w.cell? (a.add j) = some v) (hfit : o + cs.length ≤ cur.size) (h1 : ∀ v ∈ cs, v.oneCell' = true) :
    (Builtin.copy_ #[dT, sT] ty #[.slice (some ⟨g, o, none⟩) dLen dCap, .slice (some a) sLen sCap]).run P w =
      .ok (goInt (Nat.min sLen dLen)) (w.setRow g (cur.toList.take o ++ cs ++ cur.toList.drop (o + cs.length)).toArray) := by
  have hl := run_loadCells_list (P := P) w a cs hsrc
  have hst := run_storeCells_at P g o t cs 0 cur w hg (by simpa using hfit) h1
  cases hq : P.info? elem with
  | none => simp [hq] at hs
  | some i =>
    have hi : i.size = k := by simpa [hq] using hs
    rw [hn] at hl
    simp [Builtin.copy_, run_underlying hu, Builtin.lenOf, Builtin.firstCells, sizeOf, typeInfo, hq, hi, hl, hst]

theorem But.setRow {g : Nat} (w : World) (cs : Array Value) : But g w (w.setRow g cs) := ⟨rfl, rfl, rfl, by simp [World.setRow], fun k _ hk => setRow_other w g k cs hk⟩
section
variable {w : World} {ops : Array Oper} {rest : List Oper} {o : Oper} {a : Act} {Q : Exit → Act → World → Prop}
/-- copy into a row that is known whole. -/
theorem wp_copyK {K : Act → World → Prop} (d s : Operand) (dT sT elem : TypeId) (k : Nat)
    (ho : o.op = .call { callee := .builtin .copy, args := #[d, s], argTypes := #[dT, sT] }) (hu : Tryz.prog.underlying dT = some (.slice elem)) (hs : (Tryz.prog.info? elem).map (·.size) = some k)
    (g off dLen dCap : Nat) (ad : Addr) (sLen sCap : Nat) (hd : a.eval d = .slice (some ⟨g, off, none⟩) dLen dCap) (hx : a.eval s = .slice (some ad) sLen sCap)
    (cur : List Value) (t : TypeId) (hg : w.heap[g]? = some (.cells cur.toArray t (0, 0))) (cs : List Value) (hn : cs.length = Nat.min sLen dLen * k)
    (hsrc : ∀ j v, cs[j]? = some v → w.cell? (ad.add j) = some v) (hfit : off + cs.length ≤ cur.length) (h1 : ∀ v ∈ cs, v.oneCell' = true)
    (h : ∀ w' r, Hid (w'.heap[g]? = some (.cells (splice cur off cs).toArray t (0, 0))) → Hid (But g w w') → K (a.put o.dst r) w') : o.wp Tryz.prog a w K Q := by
  have hrun := run_copyK (P := Tryz.prog) w dT sT o.type elem k g off dLen dCap ad sLen sCap cur.toArray t cs hu hs hg hn hsrc (by simpa using hfit) h1
  unfold Oper.wp execOp
  simp only [ho, resolve, invoke, builtin, Sem.run_bind, Sem.run_pure, Result.andThen_ok, List.map_toArray, List.map_cons, List.map_nil, hd, hx, hrun]
  exact h _ _ (hide (by rw [setRow_heap w g _ _ t _ hg]; simp [splice])) (hide (But.setRow w _))
theorem wpList_copyK (hgd : o.guard = none) (d s : Operand) (dT sT elem : TypeId) (k : Nat)
    (ho : o.op = .call { callee := .builtin .copy, args := #[d, s], argTypes := #[dT, sT] }) (hu : Tryz.prog.underlying dT = some (.slice elem)) (hs : (Tryz.prog.info? elem).map (·.size) = some k)
    (g off dLen dCap : Nat) (ad : Addr) (sLen sCap : Nat) (hd : a.eval d = .slice (some ⟨g, off, none⟩) dLen dCap) (hx : a.eval s = .slice (some ad) sLen sCap)
    (cur : List Value) (t : TypeId) (hg : w.heap[g]? = some (.cells cur.toArray t (0, 0))) (cs : List Value) (hn : cs.length = Nat.min sLen dLen * k)
    (hsrc : ∀ j v, cs[j]? = some v → w.cell? (ad.add j) = some v) (hfit : off + cs.length ≤ cur.length) (h1 : ∀ v ∈ cs, v.oneCell' = true)
    (h : ∀ w' r, Hid (w'.heap[g]? = some (.cells (splice cur off cs).toArray t (0, 0))) → Hid (But g w w') → wpList Tryz.prog ops Q rest (a.put o.dst r) w') : wpList Tryz.prog ops Q (o :: rest) a w :=
  wpList_plain hgd fun _ hK => wp_copyK d s dT sT elem k ho hu hs g off dLen dCap ad sLen sCap hd hx cur t hg cs hn hsrc hfit h1 fun w' r h2 h3 => hK _ _ (h w' r h2 h3)
theorem step_copyK {K : Act → World → Prop} {E : Prop} (hgd : o.guard = none) (d s : Operand) (dT sT elem : TypeId) (k : Nat)
    (ho : o.op = .call { callee := .builtin .copy, args := #[d, s], argTypes := #[dT, sT] }) (hu : Tryz.prog.underlying dT = some (.slice elem)) (hs : (Tryz.prog.info? elem).map (·.size) = some k)
    (g off dLen dCap : Nat) (ad : Addr) (sLen sCap : Nat) (hd : a.eval d = .slice (some ⟨g, off, none⟩) dLen dCap) (hx : a.eval s = .slice (some ad) sLen sCap)
    (cur : List Value) (t : TypeId) (hg : w.heap[g]? = some (.cells cur.toArray t (0, 0))) (cs : List Value) (hn : cs.length = Nat.min sLen dLen * k)
    (hsrc : ∀ j v, cs[j]? = some v → w.cell? (ad.add j) = some v) (hfit : off + cs.length ≤ cur.length) (h1 : ∀ v ∈ cs, v.oneCell' = true)
    (h : ∀ w' r, Hid (w'.heap[g]? = some (.cells (splice cur off cs).toArray t (0, 0))) → Hid (But g w w') → K (a.put o.dst r) w') :
    if Region.wanted o (yielded ops a.tmps) = true then Oper.wp Tryz.prog o a w K Q else E := by
  have hw : Region.wanted o (yielded ops a.tmps) = true := by simp [Region.wanted, hgd]
  rw [if_pos hw]
  exact wp_copyK d s dT sT elem k ho hu hs g off dLen dCap ad sLen sCap hd hx cur t hg cs hn hsrc hfit h1 h
end

end Go.Proofs.YtbncnkfogkhoeabGreatDoor

/- Walks over slices.Insert of diagnostics. -/
namespace Go.Proofs.YtbncnkfogkhoeabGreatDoor
open Go.RowKit

/-- The row behind an insert in place. -/
def insRow (cur : List Value) (len i : Nat) (c : List Value) : List Value := splice (splice cur ((i + 1) * 3) ((cur.drop (i * 3)).take ((len - i) * 3))) (i * 3) c

end Go.Proofs.YtbncnkfogkhoeabGreatDoor

/- Walks over slices.Insert of diagnostics: no room. -/
namespace Go.Proofs.YtbncnkfogkhoeabGreatDoor
open Go.RowKit

theorem zero_size (z : Array Value) (n : Nat) : (Builtin.zeroCells z n).size = n * z.size := by simp [Builtin.zeroCells]

end Go.Proofs.YtbncnkfogkhoeabGreatDoor

/- slices.Insert of diagnostics, over rows of the call's own. -/
namespace Go.Proofs.YtbncnkfogkhoeabGreatDoor
open Go.RowKit

theorem take_flat {k : Nat} : ∀ (cs : List (List Value)) (i : Nat), (∀ c ∈ cs, c.length = k) → (cs.take i).flatten = cs.flatten.take (i * k) ∧ (cs.drop i).flatten = cs.flatten.drop (i * k)
  | [], i, _ => by simp
  | c :: cs, 0, _ => by simp
  | c :: cs, i + 1, h => by
    have hc : c.length = k := h c (by simp)
    obtain ⟨h1, h2⟩ := take_flat cs i (fun d hd => h d (by simp [hd]))
    have e : (i + 1) * k = c.length + i * k := by rw [hc, Nat.succ_mul, Nat.add_comm]
    constructor
    · rw [List.take_succ_cons, List.flatten_cons, List.flatten_cons, e, List.take_append, h1, show List.take (c.length + i * k) c = c from List.take_of_length_le (by omega), Nat.add_sub_cancel_left]
    · rw [List.drop_succ_cons, List.flatten_cons, e, List.drop_append, h2, show List.drop (c.length + i * k) c = [] from List.drop_eq_nil_of_le (by omega), Nat.add_sub_cancel_left, List.nil_append]
theorem insRow_take (cur : List Value) (len i cap : Nat) (c : List Value) (hc : c.length = 3) (hcur : cur.length = cap * 3) (hi : i < len) (hr : len + 1 ≤ cap) :
    (insRow cur len i c).take ((len + 1) * 3) = cur.take (i * 3) ++ (c ++ (cur.drop (i * 3)).take ((len - i) * 3)) := by
  obtain ⟨C1, hC1⟩ : ∃ C1, C1 = (cur.drop (i * 3)).take ((len - i) * 3) := ⟨_, rfl⟩
  have hl : C1.length = (len - i) * 3 := by rw [hC1, List.length_take, List.length_drop]; omega
  unfold insRow
  rw [← hC1]
  have e1 : (splice cur ((i + 1) * 3) C1).take (i * 3) = cur.take (i * 3) := by
    unfold splice
    rw [List.take_append_of_le_length (by rw [List.length_take]; omega), List.take_take, Nat.min_eq_left (by omega)]
  have e2 : (splice cur ((i + 1) * 3) C1).drop (i * 3 + 3) = C1 ++ cur.drop ((i + 1) * 3 + C1.length) := by
    unfold splice
    rw [List.drop_append, List.drop_eq_nil_of_le (by rw [List.length_take]; omega), List.nil_append, List.length_take]
    have : i * 3 + 3 - min ((i + 1) * 3) cur.length = 0 := by omega
    rw [this, List.drop_zero]
  rw [splice, hc, e1, e2, ← List.append_assoc, ← List.append_assoc, ← List.append_assoc, List.take_append_of_le_length (by
    rw [List.length_append, List.length_append, List.length_take, hl, hc]; omega), List.take_of_length_le (by
    rw [List.length_append, List.length_append, List.length_take, hl, hc]; omega), List.append_assoc]
theorem insNew_take (cur R : List Value) (len i cap G : Nat) (c : List Value) (hc : c.length = 3) (hcur : cur.length = cap * 3) (hi : i < len) (hl : len ≤ cap) (hG : len + 1 ≤ G) (hR : R.length = G * 3) (ht : R.take (i * 3) = cur.take (i * 3)) :
    (splice (splice R (i * 3) c) ((i + 1) * 3) ((cur.drop (i * 3)).take ((len - i) * 3))).take ((len + 1) * 3) = cur.take (i * 3) ++ (c ++ (cur.drop (i * 3)).take ((len - i) * 3)) := by
  obtain ⟨C1, hC1⟩ : ∃ C1, C1 = (cur.drop (i * 3)).take ((len - i) * 3) := ⟨_, rfl⟩
  have hl : C1.length = (len - i) * 3 := by rw [hC1, List.length_take, List.length_drop]; omega
  rw [← hC1]
  have e1 : (splice R (i * 3) c).take ((i + 1) * 3) = cur.take (i * 3) ++ c := by
    unfold splice
    rw [← List.append_assoc, List.take_append_of_le_length (by rw [List.length_append, List.length_take, hc]; omega), List.take_of_length_le (by rw [List.length_append, List.length_take, hc]; omega), ht]
  rw [splice, e1, ← List.append_assoc, List.take_append_of_le_length (by
    rw [List.length_append, List.length_append, List.length_take, hl, hc]; omega), List.take_of_length_le (by
    rw [List.length_append, List.length_append, List.length_take, hl, hc]; omega), List.append_assoc]

end Go.Proofs.YtbncnkfogkhoeabGreatDoor

/- Walks over package downref: Once. -/
namespace Go.Proofs.YtbncnkfogkhoeabGreatDoor
open Go.RowKit

/-- The slice v is a list of diagnostics. -/
def DgsAt (w : World) (v : Value) (l : List Dg) : Prop :=
  ∃ (a : Option Addr) (b off cap : Nat), v = .slice a l.length cap ∧ (0 < l.length → a = some ⟨b, off, none⟩) ∧ l.length ≤ 9223372036854775807 ∧
    ∀ i d, l[i]? = some d → w.cell? ⟨b, off + i * 3, none⟩ = some (.int .i64 d.code) ∧ w.cell? ⟨b, off + i * 3 + 1, none⟩ = some (.string d.fn) ∧ w.cell? ⟨b, off + i * 3 + 2, none⟩ = some (.string d.name)
theorem DgsAt.below {w w' : World} {v : Value} {l : List Dg} (h : DgsAt w v l) (hb : Below w.heap.size w w') : DgsAt w' v l := by
  obtain ⟨a, b, off, cap, e, h0, hl, h1⟩ := h
  refine ⟨a, b, off, cap, e, h0, hl, fun i d hd => ?_⟩
  obtain ⟨g0, g1, g2⟩ := h1 i d hd
  exact ⟨cellUp g0 hb, cellUp g1 hb, cellUp g2 hb⟩
namespace Nm
def sameD (a b : Dg) : Bool := (a.code == b.code) && (a.fn.toList == b.fn.toList) && (a.name.toList == b.name.toList)
/-- A sorted list with one more: as it was, if it is there already. -/
def ins : List Dg → Dg → List Dg
  | [], d => [d]
  | x :: r, d => if aheadB x d then x :: ins r d else if sameD x d then x :: r else d :: x :: r
def once (l : List Dg) : List Dg := l.foldl ins []
theorem ins_len (l : List Dg) (d : Dg) : (ins l d).length ≤ l.length + 1 := by
  induction l with
  | nil => simp [ins]
  | cons x r ih =>
    unfold ins
    split
    · simp; omega
    · split <;> simp
theorem ins_end {l : List Dg} {d : Dg} (h : ∀ x ∈ l, aheadB x d = true) : ins l d = l ++ [d] := by
  induction l with
  | nil => rfl
  | cons x r ih =>
    unfold ins
    rw [if_pos (h x (by simp)), ih (fun y hy => h y (by simp [hy]))]
    rfl
theorem ins_at {l : List Dg} {d y : Dg} {i : Nat} (h : ∀ (j : Nat) x, j < i → l[j]? = some x → aheadB x d = true) (hy : l[i]? = some y) (hn : aheadB y d = false) : ins l d = if sameD y d then l else l.take i ++ ([d] ++ l.drop i) := by
  induction l generalizing i with
  | nil => simp at hy
  | cons x r ih =>
    cases i with
    | zero =>
      simp at hy
      subst hy
      unfold ins
      rw [if_neg (by rw [hn]; simp)]
      rfl
    | succ i =>
      unfold ins
      rw [if_pos (h 0 x (by omega) (by simp)), ih (i := i) (fun j z hj hz => h (j + 1) z (by omega) (by simpa using hz)) (by simpa using hy)]
      split <;> simp
end Nm

end Go.Proofs.YtbncnkfogkhoeabGreatDoor

/- Walks over package downref: Once. -/
namespace Go.Proofs.YtbncnkfogkhoeabGreatDoor
open Go.RowKit

theorem fold_succ {l : List Dg} {j : Nat} {d : Dg} (h : l[j]? = some d) : Nm.once (l.take (j + 1)) = Nm.ins (Nm.once (l.take j)) d := by
  unfold Nm.once
  rw [List.take_add_one, h]; simp
theorem once_len (l : List Dg) : (Nm.once l).length ≤ l.length := by
  have h : ∀ (l acc : List Dg), (l.foldl Nm.ins acc).length ≤ acc.length + l.length := by
    intro l
    induction l with
    | nil => intro acc; simp
    | cons x r ih =>
      intro acc
      have := ih (Nm.ins acc x)
      have := Nm.ins_len acc x
      simp only [List.foldl_cons, List.length_cons]
      omega
  simpa [Nm.once] using h l []

end Go.Proofs.YtbncnkfogkhoeabGreatDoor

/- Regions that draw their order and only read, with callees that lay blocks of their own: walked once, in the text's order. -/
namespace Go.Proofs.YtbncnkfogkhoeabGreatDoor
open Go.RowKit

/-- A world with blocks behind it, after whatever draws. -/
def gn (w : World) (n : Nat) (os : Array Obj) : World := { w with heap := w.heap ++ os, drawn := n }
theorem below_gn (w : World) (n : Nat) (os : Array Obj) : Below w.heap.size w (gn w n os) :=
  ⟨rfl, rfl, rfl, by simp [gn], fun k hk => by simp [gn, Array.getElem?_append, hk]⟩
theorem gn_of_below {w w' : World} (h : Below w.heap.size w w') : ∃ p : GrownBy, w' = gn w p.n p.os := by
  refine ⟨⟨w'.drawn, w'.heap.extract w.heap.size w'.heap.size⟩, ?_⟩
  have hh : w'.heap = w.heap ++ w'.heap.extract w.heap.size w'.heap.size := by
    have hs := h.size
    apply Array.ext_getElem?
    intro i
    rw [Array.getElem?_append]
    split
    · rename_i hi; exact h.block i hi
    · rename_i hi
      rw [Array.getElem?_extract]
      split
      · congr 1; omega
      · rw [Array.getElem?_eq_none]; omega
  obtain ⟨hp, tp, dr, os, ou⟩ := w'
  obtain ⟨hp0, tp0, dr0, os0, ou0⟩ := w
  have e1 := h.os
  have e2 := h.tape
  have e3 := h.output
  simp only at e1 e2 e3 hh
  subst e1 e2 e3
  simp only [gn, World.mk.injEq, and_true]
  exact hh
theorem wp_region_quiet_gn {P : Program} {id : Nat} {Q : Exit → Act → World → Prop} {a : Act} {w : World} {l : List Oper} (hm : P.follows .mixedOrders = true) (hB : Region.lexB .any l.toArray = true)
    (h : wpQuiet P l.toArray (fun w' => ∃ p : GrownBy, w' = gn w p.n p.os) (fun a' => ∀ w', (∃ p : GrownBy, w' = gn w p.n p.os) → Q .normal a' w') l a) : (Code.region id l.toArray true).wp P Q a w :=
  wp_region_quiet (C := fun w' => ∃ p : GrownBy, w' = gn w p.n p.os) hm hB ⟨⟨w.drawn + 1, #[]⟩, by simp [gn]⟩ (by simpa using h)
theorem cell_gn {w : World} {a : Addr} {v : Value} (h : w.cell? a = some v) (n : Nat) (os : Array Obj) : (gn w n os).cell? a = some v := cellUp h (below_gn w n os)
theorem Calls.gn_of {P : Program} {f : FuncId} {args : Array Value} {w : World} {n : Nat} {os : Array Obj} {v : Value}
    (h : Calls P f args (gn w n os) fun e w' => e = .returned v ∧ Below (gn w n os).heap.size (gn w n os) w') : Calls P f args (gn w n os) fun e w'' => e = .returned v ∧ ∃ p : GrownBy, w'' = gn w p.n p.os :=
  h.mono fun _ _ ⟨he, hb⟩ => ⟨he, gn_of_below (up (below_gn w n os) hb)⟩

end Go.Proofs.YtbncnkfogkhoeabGreatDoor
