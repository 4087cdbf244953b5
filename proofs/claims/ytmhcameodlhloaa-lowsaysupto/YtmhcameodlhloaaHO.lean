/- Memory of which one block turns and all else stays; memory of which some blocks alone are seen. -/
import Derived.Test.YtmhcameodlhloaaBa
import Derived.Test.YtmhcameodlhloaaTD
import Derived.OwnWalk
import Derived.Deep.AppendLies
import Derived.Laws.OwnMore
import Derived.Deep.OwnRows
namespace Go.Proofs.Ytmhcameodlhloaa
open Go.RowKit

/-- The world, but the blocks that P doesn't tell hold nothing. -/
def only (P : Nat → Bool) (w : World) : World := { w with heap := w.heap.mapIdx fun i o => if P i then o else .cells #[] 0 (0, 0) }
theorem only_cell {P : Nat → Bool} {w : World} {a : Addr} {v : Value} : (only P w).cell? a = some v ↔ P a.block = true ∧ w.cell? a = some v := by
  unfold only World.cell?
  simp only [Array.getElem?_mapIdx]
  cases hp : P a.block
  · cases w.heap[a.block]? <;> simp
  · cases w.heap[a.block]? <;> simp
/-- What is read here is read there. -/
def Sub (w w' : World) : Prop := ∀ a v, w.cell? a = some v → w'.cell? a = some v
theorem Sub.refl (w : World) : Sub w w := fun _ _ h => h
theorem Sub.trans {a b c : World} (h : Sub a b) (k : Sub b c) : Sub a c := fun x v hx => k x v (h x v hx)
theorem only_sub (P : Nat → Bool) (w : World) : Sub (only P w) w := fun _ _ h => (only_cell.1 h).2
theorem sub_only {P : Nat → Bool} {w w' : World} (h : Sub w w') (hp : ∀ a v, w.cell? a = some v → P a.block = true) : Sub w (only P w') := fun a v hv => only_cell.2 ⟨hp a v hv, h a v hv⟩
theorem below_sub {w w' : World} (h : Below w.heap.size w w') : Sub w w' := fun _ _ hv => cellUp hv h

/-- All blocks but p stay as they were. -/
structure But (p : Nat) (w w' : World) : Prop where
  os : w'.os = w.os
  tape : w'.tape = w.tape
  output : w'.output = w.output
  size : w.heap.size ≤ w'.heap.size
  block : ∀ k, k < w.heap.size → k ≠ p → w'.heap[k]? = w.heap[k]?
theorem But.refl (p : Nat) (w : World) : But p w w := ⟨rfl, rfl, rfl, Nat.le_refl _, fun _ _ _ => rfl⟩
theorem But.trans {p : Nat} {a b c : World} (h : But p a b) (k : But p b c) : But p a c :=
  ⟨k.os.trans h.os, k.tape.trans h.tape, k.output.trans h.output, Nat.le_trans h.size k.size, fun i hi hp => (k.block i (Nat.lt_of_lt_of_le hi h.size) hp).trans (h.block i hi hp)⟩
theorem But.of_below {p : Nat} {w w' : World} (h : Below w.heap.size w w') : But p w w' := ⟨h.os, h.tape, h.output, h.size, fun k hk _ => h.block k hk⟩
theorem But.drew {p : Nat} {w w' : World} (h : But p w w') (n : Nat) : But p w (w'.drewN n) := ⟨h.os, h.tape, h.output, h.size, h.block⟩
theorem But.alloc {p : Nat} {w w' : World} (h : But p w w') (o : Obj) : But p w (w'.alloc o) := h.trans (But.of_below (boxBelow w' o))
theorem But.set {p : Nat} {w w' : World} (h : But p w w') {a : Addr} (ha : a.block = p ∨ w.heap.size ≤ a.block) (v : Value) : But p w (w'.setCell a v) :=
  ⟨h.os, h.tape, h.output, by simp only [World.setCell, Array.size_modify]; exact h.size, fun k hk hp => (Below.heap_setCell _ _ _ _ (by rcases ha with e | e <;> omega)).trans (h.block k hk hp)⟩
theorem But.grown {p : Nat} {w w' w2 : World} (h : But p w w') {r : Option Nat} (hg : w'.grownBy w2 r) (hr : ∀ k, r = some k → w.heap.size ≤ k) : But p w w2 :=
  ⟨hg.os.trans h.os, hg.tape.trans h.tape, hg.output.trans h.output, Nat.le_trans h.size hg.size, fun k hk hp => (hg.block k (Nat.lt_of_lt_of_le hk h.size) (fun e => by have := hr k e.symm; omega)).trans (h.block k hk hp)⟩
theorem But.below {p : Nat} {w w' : World} (h : But p w w') {B : Nat} (hB : B ≤ p) (hs : B ≤ w.heap.size) : Below B w w' := ⟨h.os, h.tape, h.output, h.size, fun k hk => h.block k (by omega) (by omega)⟩
theorem But.at {p q : Nat} {w w' : World} (h : But p w w') (hq : q ≠ p) {o : Obj} (ho : w.heap[q]? = some o) : w'.heap[q]? = some o := by
  have hlt : q < w.heap.size := by
    rcases Nat.lt_or_ge q w.heap.size with h' | h'
    · exact h'
    · rw [Array.getElem?_eq_none h'] at ho; cases ho
  rw [h.block q hlt hq]; exact ho
theorem But.sub {p : Nat} {w w' : World} (h : But p w w') {P : Nat → Bool} (hp : P p = false) : Sub (only P w) (only P w') := fun a v hv => by
  obtain ⟨h1, h2⟩ := only_cell.1 hv
  refine only_cell.2 ⟨h1, ?_⟩
  have hne : a.block ≠ p := fun e => by rw [e, hp] at h1; cases h1
  rw [World.cell?_of_block (w := w) (h.block _ (World.block_lt_of_cell? _ _ h2) hne)]; exact h2
/-- What was made behind world w is seen behind what turns old blocks. -/
theorem fresh_mono {n m : Nat} {w : World} (h : m ≤ n) : Sub (only (fun b => decide (n ≤ b)) w) (only (fun b => decide (m ≤ b)) w) := fun a v hv => by
  obtain ⟨h1, h2⟩ := only_cell.1 hv
  exact only_cell.2 ⟨decide_eq_true (Nat.le_trans h (of_decide_eq_true h1)), h2⟩
theorem fresh_but {n p : Nat} {w w' : World} (h : But p w w') (hp : p < n) : Sub (only (fun b => decide (n ≤ b)) w) (only (fun b => decide (n ≤ b)) w') := h.sub (decide_eq_false (by omega))
theorem block_at {w : World} {q : Nat} {cs : Array Value} {t : TypeId} (h : w.heap[q]? = some (.cells cs t (0, 0))) (i : Nat) : w.cell? ⟨q, i, none⟩ = cs[i]? := by unfold World.cell?; rw [h]; rfl
theorem block_free {w : World} {q : Nat} {cs : Array Value} {t : TypeId} (h : w.heap[q]? = some (.cells cs t (0, 0))) (i : Nat) : w.frozen? ⟨q, i, none⟩ = false := by unfold World.frozen?; rw [h]; simp
theorem block_set {w : World} {q : Nat} {cs : Array Value} {t : TypeId} (h : w.heap[q]? = some (.cells cs t (0, 0))) (i : Nat) (v : Value) : (w.setCell ⟨q, i, none⟩ v).heap[q]? = some (.cells (cs.setIfInBounds i v) t (0, 0)) := by
  unfold World.setCell; simp [Array.getElem?_modify, h]
theorem block_other {w : World} {q : Nat} {o : Obj} (h : w.heap[q]? = some o) {a : Addr} (ha : q ≠ a.block) (v : Value) : (w.setCell a v).heap[q]? = some o := by
  rw [Below.heap_setCell _ _ _ _ ha]; exact h
theorem block_lt {w : World} {q : Nat} {o : Obj} (h : w.heap[q]? = some o) : q < w.heap.size := by
  rcases Nat.lt_or_ge q w.heap.size with h' | h'
  · exact h'
  · rw [Array.getElem?_eq_none h'] at h; cases h
theorem block_alloc {w : World} {q : Nat} {o : Obj} (h : w.heap[q]? = some o) (o' : Obj) : (w.alloc o').heap[q]? = some o := by
  rw [(boxBelow w o').block q (block_lt h)]; exact h
theorem block_new (w : World) (o : Obj) : (w.alloc o).heap[w.heap.size]? = some o := heap_alloc_new w o

theorem ExAt.sub {w w' : World} (hb : Sub w w') : ∀ {m : Nat} {c0 c1 c2 c3 : Value} {x : Ex}, ExAt w m c0 c1 c2 c3 x → ExAt w' m c0 c1 c2 c3 x
  | 0, _, _, _, _, _, h => h
  | m + 1, c0, c1, c2, c3, x, h => by
    obtain ⟨h0, h1, h2, h3, h4, h5, a, b, off, cap, h6, h7, h8, h9⟩ := h
    refine ⟨h0, h1, h2, h3, h4, h5, a, b, off, cap, h6, h7, h8, fun i y hy => ?_⟩
    obtain ⟨e0, e1, e2, e3, g0, g1, g2, g3, hx⟩ := h9 i y hy
    exact ⟨e0, e1, e2, e3, hb _ _ g0, hb _ _ g1, hb _ _ g2, hb _ _ g3, ExAt.sub hb hx⟩
theorem StsAt.sub {w w' : World} (hb : Sub w w') : ∀ {m : Nat} {v : Value} {l : List St}, StsAt w m v l → StsAt w' m v l
  | 0, _, _, h => h
  | m + 1, v, l, h => by
    obtain ⟨a, b, off, cap, h6, h7, h8, h9⟩ := h
    refine ⟨a, b, off, cap, h6, h7, h8, fun i s hs => ?_⟩
    obtain ⟨k1, k2, e0, e1, e2, e3, va, vb, g0, g1, g2, g3, g4, g5, g6, g7, hx, ha, hb'⟩ := h9 i s hs
    exact ⟨k1, k2, e0, e1, e2, e3, va, vb, hb _ _ g0, hb _ _ g1, hb _ _ g2, hb _ _ g3, hb _ _ g4, hb _ _ g5, hb _ _ g6, hb _ _ g7, hx.sub hb, ha.sub hb, hb'.sub hb⟩
theorem Strs.sub {w w' : World} (hb : Sub w w') {v : Value} {ss : List ByteArray} (h : Strs w v ss) : Strs w' v ss := by
  obtain ⟨a, b, off, cap, e, h0, hl, hs, h1⟩ := h
  exact ⟨a, b, off, cap, e, h0, hl, hs, fun r hr => hb _ _ (h1 r hr)⟩
theorem VasAt.sub {w w' : World} (hb : Sub w w') {v : Value} {l : List Va} (h : VasAt w v l) : VasAt w' v l := by
  obtain ⟨a, b, off, cap, h6, h7, h8, h9⟩ := h
  refine ⟨a, b, off, cap, h6, h7, h8, fun i s hs => ?_⟩
  obtain ⟨k1, k2, g0, g1⟩ := h9 i s hs
  exact ⟨k1, k2, hb _ _ g0, hb _ _ g1⟩
theorem FusAt.sub {w w' : World} (hb : Sub w w') {m : Nat} {v : Value} {l : List Fu} (h : FusAt w m v l) : FusAt w' m v l := by
  obtain ⟨a, b, off, cap, h6, h7, h8, h9⟩ := h
  refine ⟨a, b, off, cap, h6, h7, h8, fun i s hs => ?_⟩
  obtain ⟨k1, vp, vb, e0, e1, e2, e3, g0, g1, g2, g3, g4, g5, g6, hp, hs', hx⟩ := h9 i s hs
  exact ⟨k1, vp, vb, e0, e1, e2, e3, hb _ _ g0, hb _ _ g1, hb _ _ g2, hb _ _ g3, hb _ _ g4, hb _ _ g5, hb _ _ g6, hp.sub hb, hs'.sub hb, hx.sub hb⟩

/-! ### Rows of one's own whose elements point to memory of their own -/
/-- What is seen in more memory is seen. -/
def Mono {α : Type} (At : World → List Value → α → Prop) : Prop := ∀ (w w' : World) (c : List Value) (y : α), Sub w w' → At w c y → At w' c y
/-- The slice v is a row of the call's own, of k cells an element, that holds l: At says what lies behind an element's cells, in no block that is older than n, and not in the row's own. -/
def OwnL {α : Type} (At : World → List Value → α → Prop) (w : World) (n e k : Nat) (v : Value) (l : List α) : Prop :=
  ∃ cs : List (List Value), w.ownsRow n e k v l.length cs.flatten ∧ cs.length = l.length ∧ (∀ c ∈ cs, c.length = k) ∧
    ∀ (i : Nat) c y, cs[i]? = some c → l[i]? = some y → At (only (fun b => decide (n ≤ b) && decide (v.ownBlock ≠ some b)) w) c y
section
variable {α : Type} {At : World → List Value → α → Prop} {w w' : World} {n e k : Nat} {v : Value} {l : List α}
theorem OwnL.nil (w : World) (n e k : Nat) : OwnL At w n e k (.slice none 0 0) [] := ⟨[], World.ownsRow_nil _ _ _ _, rfl, (fun c hc => absurd hc (by simp)), (fun i c y hc => absurd hc (by simp))⟩
theorem OwnL.lt (h : OwnL At w n e k v l) : ∀ j, v.ownBlock = some j → n ≤ j ∧ j < w.heap.size := by
  obtain ⟨cs, h1, _⟩ := h
  exact h1.lt
theorem OwnL.shape (h : OwnL At w n e k v l) : (v = .slice none 0 0 ∧ l = []) ∨ ∃ g cap, v = .slice (some ⟨g, 0, none⟩) l.length cap ∧ l.length ≤ cap ∧ n ≤ g ∧ g < w.heap.size := by
  obtain ⟨cs, h, _⟩ := h
  have hlt := h.lt
  rcases h.2 with ⟨rfl, h1⟩ | ⟨g, cap, cur, rfl, _, hh, hc, _⟩
  · exact Or.inl ⟨rfl, List.length_eq_zero_iff.1 (by omega)⟩
  · exact Or.inr ⟨g, cap, rfl, hc, hlt g rfl⟩
theorem own_but {p t xs} {c : Array Value} {fz : Nat × Nat} (h : w.ownsRow n e k v l.length xs) (hp : w.heap[p]? = some (.cells c t fz)) (hne : e ≠ t) (hb : But p w w') : w'.ownsRow n e k v l.length xs := by
  obtain ⟨h1, h2⟩ := h
  refine ⟨h1, ?_⟩
  rcases h2 with h2 | ⟨g, cap, cur, hv, hg, hh, r⟩
  · exact Or.inl h2
  · refine Or.inr ⟨g, cap, cur, hv, hg, hb.at (fun e' => ?_) hh, r⟩
    subst e'
    rw [hp] at hh
    simp at hh
    exact hne hh.2.1.symm
theorem OwnL.but (hm : Mono At) {p t} {c : Array Value} {fz : Nat × Nat} (h : OwnL At w n e k v l) (hp : w.heap[p]? = some (.cells c t fz)) (hne : e ≠ t) (hpn : p < n) (hb : But p w w') : OwnL At w' n e k v l := by
  obtain ⟨cs, h1, h2, h3, h4⟩ := h
  refine ⟨cs, own_but h1 hp hne hb, h2, h3, fun i c y hc hy => hm _ _ _ _ (hb.sub ?_) (h4 i c y hc hy)⟩
  rw [decide_eq_false (by omega)]; rfl
/-- A block that isn't the row's may turn. -/
theorem OwnL.set (h : OwnL At w n e k v l) {a : Addr} (ha : v.ownBlock ≠ some a.block) {x : Value}
    (hsee : ∀ c y, At (only (fun b => decide (n ≤ b) && decide (v.ownBlock ≠ some b)) w) c y → At (only (fun b => decide (n ≤ b) && decide (v.ownBlock ≠ some b)) (w.setCell a x)) c y) : OwnL At (w.setCell a x) n e k v l := by
  obtain ⟨cs, ⟨h0, h1⟩, h2, h3, h4⟩ := h
  refine ⟨cs, ⟨h0, ?_⟩, h2, h3, fun i c y hc hy => hsee c y (h4 i c y hc hy)⟩
  rcases h1 with h1 | ⟨g, cap, cur, hv, hg, hh, r⟩
  · exact Or.inl h1
  · refine Or.inr ⟨g, cap, cur, hv, hg, block_other hh (fun e' => ha (by rw [hv, ← e']; rfl)) _, r⟩
/-- So may a block that is older than the row. -/
theorem OwnL.setOld (hm : Mono At) (h : OwnL At w n e k v l) {a : Addr} (ha : a.block < n) (x : Value) : OwnL At (w.setCell a x) n e k v l :=
  h.set (fun e => by have := h.lt _ e; omega) (fun c y hy => hm _ _ _ _ (fun b u hu => by
    obtain ⟨h1, h2⟩ := only_cell.1 hu
    refine only_cell.2 ⟨h1, ?_⟩
    have hle := of_decide_eq_true (Bool.and_eq_true_iff.1 h1).1
    rw [World.cell?_of_block (w := w) (Below.heap_setCell _ _ _ _ (by omega))]; exact h2) hy)
theorem OwnL.below (hm : Mono At) (h : OwnL At w n e k v l) (hb : Below w.heap.size w w') : OwnL At w' n e k v l := by
  obtain ⟨cs, ⟨h0, h1⟩, h2, h3, h4⟩ := h
  refine ⟨cs, ⟨h0, ?_⟩, h2, h3, fun i c y hc hy => hm _ _ _ _ (fun a v hv => ?_) (h4 i c y hc hy)⟩
  · rcases h1 with h1 | ⟨g, cap, cur, hv, hg, hh, r⟩
    · exact Or.inl h1
    · exact Or.inr ⟨g, cap, cur, hv, hg, by rw [hb.block g (block_lt hh)]; exact hh, r⟩
  · obtain ⟨a1, a2⟩ := only_cell.1 hv
    exact only_cell.2 ⟨a1, cellUp a2 hb⟩
/-- Behind an append of one element. -/
theorem OwnL.push (hm : Mono At) {g cap : Nat} {c : List Value} {y : α} {xs : List Value} {cs : List (List Value)}
    (hcs : cs.length = l.length ∧ (∀ c ∈ cs, c.length = k) ∧ ∀ (i : Nat) c y, cs[i]? = some c → l[i]? = some y → At (only (fun b => decide (n ≤ b) && decide (v.ownBlock ≠ some b)) w) c y) (hxs : xs = cs.flatten)
    (hc : c.length = k) (hy : At (only (fun b => decide (n ≤ b) && decide (v.ownBlock ≠ some b)) w) c y)
    (h1 : w'.ownsRow n e k (.slice (some ⟨g, 0, none⟩) (l.length + 1) cap) (l.length + 1) (xs ++ c)) (h2 : w.grownBy w' v.ownBlock) (h3 : v.ownBlock = some g ∨ g = w.heap.size) :
    OwnL At w' n e k (.slice (some ⟨g, 0, none⟩) (l.length + 1) cap) (l ++ [y]) := by
  obtain ⟨k1, k2, k3⟩ := hcs
  subst hxs
  have hs : Sub (only (fun b => decide (n ≤ b) && decide (v.ownBlock ≠ some b)) w) (only (fun b => decide (n ≤ b) && decide ((Value.slice (some ⟨g, 0, none⟩) (l.length + 1) cap).ownBlock ≠ some b)) w') := fun a u hu => by
    obtain ⟨a1, a2⟩ := only_cell.1 hu
    obtain ⟨b1, b2⟩ := Bool.and_eq_true_iff.1 a1
    have hlt := World.block_lt_of_cell? _ _ a2
    have hne := of_decide_eq_true b2
    refine only_cell.2 ⟨Bool.and_eq_true_iff.2 ⟨b1, decide_eq_true ?_⟩, h2.cell a2 (fun e => hne e.symm)⟩
    intro e'
    have e'' : g = a.block := by simpa [Value.ownBlock] using e'
    rcases h3 with h3 | h3
    · exact hne (by rw [h3, e''])
    · omega
  refine ⟨cs ++ [c], by rw [List.length_append, List.flatten_append]; simpa using h1, by simp [k1], fun d hd => ?_, fun i d z hd hz => ?_⟩
  · rcases List.mem_append.1 hd with hd | hd
    · exact k2 d hd
    · rw [List.mem_singleton] at hd; subst hd; exact hc
  · by_cases hi : i < l.length
    · rw [List.getElem?_append_left (by omega)] at hd
      rw [List.getElem?_append_left hi] at hz
      exact hm _ _ _ _ hs (k3 i d z hd hz)
    · have hi' : i = l.length := by
        have := (List.getElem?_eq_some_iff.1 hz).1
        rw [List.length_append, List.length_singleton] at this
        omega
      subst hi'
      rw [List.getElem?_append_right (by omega), k1, Nat.sub_self] at hd
      rw [List.getElem?_append_right (Nat.le_refl _), Nat.sub_self] at hz
      simp at hd hz
      subst hd hz
      exact hm _ _ _ _ hs hy
/-- An element's cells. -/
theorem OwnL.cell {g cap : Nat} (h : OwnL At w n e k (.slice (some ⟨g, 0, none⟩) l.length cap) l) {i : Nat} {y : α} (hy : l[i]? = some y) :
    ∃ c, c.length = k ∧ (∀ j, j < k → w.cell? ⟨g, i * k + j, none⟩ = c[j]?) ∧ n ≤ g ∧ At (only (fun b => decide (n ≤ b) && decide (some g ≠ some b)) w) c y := by
  obtain ⟨cs, h1, h2, h3, h4⟩ := h
  have hi : i < cs.length := by
    have := (List.getElem?_eq_some_iff.1 hy).1
    omega
  refine ⟨cs[i], h3 _ (List.getElem_mem hi), fun j hj => ?_, (h1.lt g rfl).1, h4 i _ y (List.getElem?_eq_getElem hi) hy⟩
  have hik : i * k + j < l.length * k := by
    have : i + 1 ≤ l.length := by omega
    have h5 := Nat.mul_le_mul_right k this
    rw [Nat.add_mul, Nat.one_mul] at h5
    omega
  rw [World.ownsRow.cellAt h1 _ hik]
  have hfl : ∀ (cs : List (List Value)) (i : Nat) (hi : i < cs.length), (∀ c ∈ cs, c.length = k) → cs.flatten[i * k + j]? = (cs[i])[j]? := by
    intro cs
    induction cs with
    | nil => intro i hi; simp at hi
    | cons c cs ih =>
      intro i hi hk
      have hc := hk c (by simp)
      cases i with
      | zero =>
        rw [List.flatten_cons, Nat.zero_mul, Nat.zero_add, List.getElem?_append_left (by omega)]; rfl
      | succ i =>
        rw [List.flatten_cons, List.getElem?_append_right (by rw [hc, Nat.succ_mul]; omega), hc]
        have e1 : (i + 1) * k + j - k = i * k + j := by rw [Nat.succ_mul]; omega
        rw [e1, ih i (by simpa using hi) (fun d hd => hk d (by simp [hd]))]
        rfl
  exact hfl cs i hi h3
end

end Go.Proofs.Ytmhcameodlhloaa
