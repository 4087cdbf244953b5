/- Least labels: how constraints, labels and a system lie in memory. -/
import Derived.Test.YtholefgckcoklaaZA
import Derived.Test.YtholefgckcoklaaOW
import Derived.Test.YtholefgckcoklaaHO
import Derived.Test.YtholefgckcoklaaLG
namespace Go.Proofs.Ytholefgckcoklaa
open Go.RowKit

/-- The slice v is a list of constraints. -/
def CosAt (w : World) (v : Value) (l : List Sv.Co) : Prop :=
  ∃ (a : Option Addr) (b off cap : Nat), v = .slice a l.length cap ∧ (0 < l.length → a = some ⟨b, off, none⟩) ∧ l.length ≤ 9223372036854775807 ∧
    ∀ (i : Nat) (x : Sv.Co), l[i]? = some x → ∃ vf, Ints w vf x.fr ∧ w.cell? ⟨b, off + i * 4, none⟩ = some (.int .i64 x.to) ∧ w.cell? ⟨b, off + i * 4 + 1, none⟩ = some vf ∧ w.cell? ⟨b, off + i * 4 + 2, none⟩ = some (.int .i64 x.mask) ∧ w.cell? ⟨b, off + i * 4 + 3, none⟩ = some (.int .i64 x.level)
theorem CosAt.below {w w' : World} {v : Value} {l : List Sv.Co} (h : CosAt w v l) (hb : Below w.heap.size w w') : CosAt w' v l := by
  obtain ⟨a, b, off, cap, e, h0, hl, h1⟩ := h
  refine ⟨a, b, off, cap, e, h0, hl, fun i x hx => ?_⟩
  obtain ⟨vf, hf, g0, g1, g2, g3⟩ := h1 i x hx
  exact ⟨vf, hf.below hb, cellUp g0 hb, cellUp g1 hb, cellUp g2 hb, cellUp g3 hb⟩
/-- The slice v is a list of labels. -/
def LasAt (w : World) (v : Value) (l : List (Int × Int)) : Prop :=
  ∃ (a : Option Addr) (b off cap : Nat), v = .slice a l.length cap ∧ (0 < l.length → a = some ⟨b, off, none⟩) ∧ l.length ≤ 9223372036854775807 ∧
    ∀ (i : Nat) (x : Int × Int), l[i]? = some x → w.cell? ⟨b, off + i * 2, none⟩ = some (.int .i64 x.1) ∧ w.cell? ⟨b, off + i * 2 + 1, none⟩ = some (.int .i64 x.2)
theorem LasAt.below {w w' : World} {v : Value} {l : List (Int × Int)} (h : LasAt w v l) (hb : Below w.heap.size w w') : LasAt w' v l := by
  obtain ⟨a, b, off, cap, e, h0, hl, h1⟩ := h
  refine ⟨a, b, off, cap, e, h0, hl, fun i x hx => ?_⟩
  obtain ⟨g0, g1⟩ := h1 i x hx
  exact ⟨cellUp g0 hb, cellUp g1 hb⟩

/-- Where a system lies: its block, its labels', its sources'; of n variables; the lattice's two values. -/
structure Cf where
  p : Nat
  lb : Nat
  sb : Nat
  n : Nat
  vn : Value
  vl : Value
/-- In w a system lies that was begun in w0: V its labels, S its sources. -/
structure SyAt (w0 w : World) (c : Cf) (V : Nat → Nat × Nat) (S : Nat → Nat) : Prop where
  since : Below w0.heap.size w0 w
  pn : w0.heap.size ≤ c.p
  ln : w0.heap.size ≤ c.lb
  sn : w0.heap.size ≤ c.sb
  blk : w.heap[c.p]? = some (.cells #[c.vn, c.vl, .slice (some ⟨c.lb, 0, none⟩) c.n c.n, .slice (some ⟨c.sb, 0, none⟩) c.n c.n] 88 (0, 0))
  lab : ∃ cs, w.heap[c.lb]? = some (.cells cs 46 (0, 0)) ∧ ∀ i, i < c.n → cs[i * 2]? = some (.int .i64 ((V i).1 : Nat)) ∧ cs[i * 2 + 1]? = some (.int .i64 ((V i).2 : Nat))
  src : ∃ cs, w.heap[c.sb]? = some (.cells cs 98 (0, 0)) ∧ ∀ i, i < c.n → cs[i]? = some (.int .u64 (S i : Nat))

section
variable {w0 w w' : World} {c : Cf} {V : Nat → Nat × Nat} {S : Nat → Nat}
theorem SyAt.below (h : SyAt w0 w c V S) (hb : Below w.heap.size w w') : SyAt w0 w' c V S := by
  have up' : ∀ {k : Nat} {ob : Obj}, w.heap[k]? = some ob → w'.heap[k]? = some ob := fun ho => by rw [hb.block _ (block_lt ho)]; exact ho
  obtain ⟨cs, h1, h2⟩ := h.lab
  obtain ⟨ds, k1, k2⟩ := h.src
  exact ⟨h.since.trans (hb.mono h.since.size), h.pn, h.ln, h.sn, up' h.blk, ⟨cs, up' h1, h2⟩, ⟨ds, up' k1, k2⟩⟩
theorem SyAt.pl (h : SyAt w0 w c V S) : c.p ≠ c.lb := fun e => by
  obtain ⟨cs, h1, _⟩ := h.lab
  have := h.blk
  rw [e, h1] at this
  injection this with this
  injection this with _ this
  exact absurd this (by decide)
theorem SyAt.ps (h : SyAt w0 w c V S) : c.p ≠ c.sb := fun e => by
  obtain ⟨cs, h1, _⟩ := h.src
  have := h.blk
  rw [e, h1] at this
  injection this with this
  injection this with _ this
  exact absurd this (by decide)
theorem SyAt.ls (h : SyAt w0 w c V S) : c.lb ≠ c.sb := fun e => by
  obtain ⟨cs, h1, _⟩ := h.src
  obtain ⟨ds, this, _⟩ := h.lab
  rw [e, h1] at this
  injection this with this
  injection this with _ this
  exact absurd this (by decide)
theorem SyAt.cell (h : SyAt w0 w c V S) : w.cell? ⟨c.p, 0, none⟩ = some c.vn ∧ w.cell? ⟨c.p, 1, none⟩ = some c.vl ∧ w.cell? ⟨c.p, 2, none⟩ = some (.slice (some ⟨c.lb, 0, none⟩) c.n c.n) ∧ w.cell? ⟨c.p, 3, none⟩ = some (.slice (some ⟨c.sb, 0, none⟩) c.n c.n) :=
  ⟨(block_at h.blk 0).trans rfl, (block_at h.blk 1).trans rfl, (block_at h.blk 2).trans rfl, (block_at h.blk 3).trans rfl⟩
theorem SyAt.labc (h : SyAt w0 w c V S) {i : Nat} (hi : i < c.n) : w.cell? ⟨c.lb, i * 2, none⟩ = some (.int .i64 ((V i).1 : Nat)) ∧ w.cell? ⟨c.lb, i * 2 + 1, none⟩ = some (.int .i64 ((V i).2 : Nat)) ∧ w.frozen? ⟨c.lb, i * 2, none⟩ = false ∧ w.frozen? ⟨c.lb, i * 2 + 1, none⟩ = false := by
  obtain ⟨cs, h1, h2⟩ := h.lab
  exact ⟨(block_at h1 _).trans (h2 i hi).1, (block_at h1 _).trans (h2 i hi).2, block_free h1 _, block_free h1 _⟩
theorem SyAt.srcc (h : SyAt w0 w c V S) {i : Nat} (hi : i < c.n) : w.cell? ⟨c.sb, i, none⟩ = some (.int .u64 (S i : Nat)) ∧ w.frozen? ⟨c.sb, i, none⟩ = false := by
  obtain ⟨cs, h1, h2⟩ := h.src
  exact ⟨(block_at h1 _).trans (h2 i hi), block_free h1 _⟩
theorem set_get {cs : Array Value} {i j : Nat} {v : Value} : (cs.setIfInBounds i v)[j]? = if i = j then (if i < cs.size then some v else none) else cs[j]? := by
  rw [Array.getElem?_setIfInBounds]
theorem lt_of_get {cs : Array Value} {i : Nat} {v : Value} (h : cs[i]? = some v) : i < cs.size := by
  rcases Nat.lt_or_ge i cs.size with h' | h'
  · exact h'
  · rw [Array.getElem?_eq_none h'] at h; cases h
/-- A label is set. -/
theorem SyAt.put (h : SyAt w0 w c V S) {i : Nat} (hi : i < c.n) (x : Nat × Nat) :
    SyAt w0 ((w.setCell ⟨c.lb, i * 2, none⟩ (.int .i64 (x.1 : Nat))).setCell ⟨c.lb, i * 2 + 1, none⟩ (.int .i64 (x.2 : Nat))) c (Sv.put V i x) S := by
  obtain ⟨cs, h1, h2⟩ := h.lab
  obtain ⟨ds, k1, k2⟩ := h.src
  have b1 := block_set h1 (i * 2) (.int .i64 (x.1 : Nat))
  have b2 := block_set b1 (i * 2 + 1) (.int .i64 (x.2 : Nat))
  refine ⟨(h.since.setCell h.ln _).setCell h.ln _, h.pn, h.ln, h.sn, block_other (block_other h.blk h.pl _) h.pl _, ⟨_, b2, fun j hj => ?_⟩, ⟨ds, block_other (block_other k1 h.ls.symm _) h.ls.symm _, k2⟩⟩
  have l1 := lt_of_get (h2 i hi).1
  have l2 := lt_of_get (h2 i hi).2
  simp only [set_get, Array.size_setIfInBounds, Sv.put]
  by_cases e : j = i
  · subst e
    simp [l1, l2]
  · rw [if_neg (by omega), if_neg (by omega), if_neg (by omega), if_neg (by omega), if_neg (by omega)]
    exact h2 j hj
theorem lab_but (w : World) (c : Cf) (i : Nat) (v u : Value) : But c.lb w ((w.setCell ⟨c.lb, i * 2, none⟩ v).setCell ⟨c.lb, i * 2 + 1, none⟩ u) :=
  ((But.refl c.lb w).set (Or.inl rfl) v).set (Or.inl rfl) u
/-- A level is set. -/
theorem SyAt.putLevel (h : SyAt w0 w c V S) {i : Nat} (hi : i < c.n) (y : Nat) : SyAt w0 (w.setCell ⟨c.lb, i * 2 + 1, none⟩ (.int .i64 (y : Nat))) c (Sv.put V i ((V i).1, y)) S := by
  obtain ⟨cs, h1, h2⟩ := h.lab
  obtain ⟨ds, k1, k2⟩ := h.src
  have b2 := block_set h1 (i * 2 + 1) (.int .i64 (y : Nat))
  refine ⟨h.since.setCell h.ln _, h.pn, h.ln, h.sn, block_other h.blk h.pl _, ⟨_, b2, fun j hj => ?_⟩, ⟨ds, block_other k1 h.ls.symm _, k2⟩⟩
  have l2 := lt_of_get (h2 i hi).2
  simp only [set_get, Sv.put]
  by_cases e : j = i
  · subst e
    rw [if_neg (by omega), if_pos rfl, if_pos l2]
    simp only [if_true, and_true]
    exact (h2 j hj).1
  · rw [if_neg (by omega), if_neg (by omega), if_neg (by omega)]
    exact h2 j hj
def putS (S : Nat → Nat) (i x : Nat) : Nat → Nat := fun j => if j = i then x else S j
/-- A source is set. -/
theorem SyAt.putSrc (h : SyAt w0 w c V S) {i : Nat} (hi : i < c.n) (y : Nat) : SyAt w0 (w.setCell ⟨c.sb, i, none⟩ (.int .u64 (y : Nat))) c V (putS S i y) := by
  obtain ⟨cs, h1, h2⟩ := h.lab
  obtain ⟨ds, k1, k2⟩ := h.src
  have b2 := block_set k1 i (.int .u64 (y : Nat))
  refine ⟨h.since.setCell h.sn _, h.pn, h.ln, h.sn, block_other h.blk h.ps _, ⟨cs, block_other h1 h.ls _, h2⟩, ⟨_, b2, fun j hj => ?_⟩⟩
  have l2 := lt_of_get (k2 i hi)
  simp only [set_get, putS]
  by_cases e : j = i
  · subst e
    rw [if_pos rfl, if_pos l2, if_pos rfl]
  · rw [if_neg (by omega), if_neg e]
    exact k2 j hj
end

end Go.Proofs.Ytholefgckcoklaa
