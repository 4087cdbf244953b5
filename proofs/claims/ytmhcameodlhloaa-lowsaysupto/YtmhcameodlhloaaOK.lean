/- Rows of a call's own whose elements are plain, or point to memory that was there ahead of the call: appends of many elements at once. -/
import Derived.Test.YtmhcameodlhloaaHO
import Derived.Test.YtmhcameodlhloaaOW
import Derived.Laws.AppendOwnNone
namespace Go.Proofs.Ytmhcameodlhloaa
open Go.RowKit

/-- The slice v is a row of the call's own, of k cells an element, that holds l: At says what an element's cells are. -/
def OwnK {α : Type} (At : List Value → α → Prop) (w : World) (n e k : Nat) (v : Value) (l : List α) : Prop :=
  ∃ cs : List (List Value), w.ownsRow n e k v l.length cs.flatten ∧ cs.length = l.length ∧ (∀ c ∈ cs, c.length = k ∧ ∀ u ∈ c, u.oneCell' = true) ∧
    (∀ (i : Nat) c y, cs[i]? = some c → l[i]? = some y → At c y) ∧ (l = [] → v = .slice none 0 0)
section
variable {α : Type} {At : List Value → α → Prop} {w w' : World} {n e k : Nat} {v : Value} {l : List α}
theorem OwnK.nil (w : World) (n e k : Nat) : OwnK At w n e k (.slice none 0 0) [] := ⟨[], World.ownsRow_nil _ _ _ _, rfl, (fun c hc => absurd hc (by simp)), (fun i c y hc => absurd hc (by simp)), fun _ => rfl⟩
theorem OwnK.lt (h : OwnK At w n e k v l) : ∀ j, v.ownBlock = some j → n ≤ j ∧ j < w.heap.size := by
  obtain ⟨cs, h1, _⟩ := h
  exact h1.lt
theorem OwnK.shape (h : OwnK At w n e k v l) : (v = .slice none 0 0 ∧ l = []) ∨ ∃ g cap, v = .slice (some ⟨g, 0, none⟩) l.length cap ∧ l.length ≤ cap ∧ n ≤ g ∧ g < w.heap.size ∧ l ≠ [] := by
  obtain ⟨cs, h, _, _, _, hz⟩ := h
  have hlt := h.lt
  rcases h.2 with ⟨rfl, h1⟩ | ⟨g, cap, cur, rfl, _, hh, hc, _⟩
  · exact Or.inl ⟨rfl, List.length_eq_zero_iff.1 (by omega)⟩
  · exact Or.inr ⟨g, cap, rfl, hc, (hlt g rfl).1, (hlt g rfl).2, fun e => by have := hz e; simp at this⟩
theorem OwnK.below (h : OwnK At w n e k v l) (hb : Below w.heap.size w w') : OwnK At w' n e k v l := by
  obtain ⟨cs, h1, h2⟩ := h
  exact ⟨cs, own_below h1 hb, h2⟩
theorem OwnK.old {n' : Nat} (h : OwnK At w n e k v l) (hn : n' ≤ n) : OwnK At w n' e k v l := by
  obtain ⟨cs, ⟨h0, h1⟩, h2⟩ := h
  refine ⟨cs, ⟨h0, ?_⟩, h2⟩
  rcases h1 with h1 | ⟨g, cap, cur, hv, hg, r⟩
  · exact Or.inl h1
  · exact Or.inr ⟨g, cap, cur, hv, Nat.le_trans hn hg, r⟩
theorem OwnK.imp {At' : List Value → α → Prop} (h : OwnK At w n e k v l) (hi : ∀ c y, At c y → At' c y) : OwnK At' w n e k v l := by
  obtain ⟨cs, h1, h2, h3, h4, h5⟩ := h
  exact ⟨cs, h1, h2, h3, fun i c y hc hy => hi c y (h4 i c y hc hy), h5⟩
/-- An element that was laid into a block of its own. -/
theorem OwnK.one {c : List Value} {y : α} (w : World) (e : Nat) (hc : c.length = k) (h1 : ∀ u ∈ c, u.oneCell' = true) (hy : At c y) : OwnK At (w.alloc (.cells c.toArray e)) w.heap.size e k (.slice (some ⟨w.heap.size, 0, none⟩) 1 1) [y] := by
  refine ⟨[c], ⟨by simp [hc], Or.inr ⟨w.heap.size, 1, c.toArray, rfl, Nat.le_refl _, block_new _ _, Nat.le_refl _, by decide, by simp [hc], by simp [← hc]⟩⟩, rfl, fun d hd => ?_, fun i d z hd hz => ?_, fun h => absurd h (by simp)⟩
  · rw [List.mem_singleton] at hd; subst hd; exact ⟨hc, h1⟩
  · cases i with
    | zero => simp at hd hz; subst hd hz; exact hy
    | succ i => simp at hd
theorem flat_get {k : Nat} : ∀ (cs : List (List Value)) (i j : Nat) (hi : i < cs.length), (∀ c ∈ cs, c.length = k) → j < k → cs.flatten[i * k + j]? = (cs[i])[j]? := by
  intro cs
  induction cs with
  | nil => intro i j hi; simp at hi
  | cons c cs ih =>
    intro i j hi hk hj
    have hc := hk c (by simp)
    cases i with
    | zero =>
      rw [List.flatten_cons, Nat.zero_mul, Nat.zero_add, List.getElem?_append_left (by omega)]; rfl
    | succ i =>
      rw [List.flatten_cons, List.getElem?_append_right (by rw [hc, Nat.succ_mul]; omega), hc]
      have e1 : (i + 1) * k + j - k = i * k + j := by rw [Nat.succ_mul]; omega
      rw [e1, ih i j (by simpa using hi) (fun d hd => hk d (by simp [hd])) hj]
      rfl
/-- An element's cells. -/
theorem OwnK.cell {g cap : Nat} (h : OwnK At w n e k (.slice (some ⟨g, 0, none⟩) l.length cap) l) {i : Nat} {y : α} (hy : l[i]? = some y) :
    ∃ c, c.length = k ∧ (∀ j, j < k → w.cell? ⟨g, i * k + j, none⟩ = c[j]?) ∧ At c y := by
  obtain ⟨cs, h1, h2, h3, h4, _⟩ := h
  have hi : i < cs.length := by
    have := (List.getElem?_eq_some_iff.1 hy).1
    omega
  refine ⟨cs[i], (h3 _ (List.getElem_mem hi)).1, fun j hj => ?_, h4 i _ y (List.getElem?_eq_getElem hi) hy⟩
  have hik : i * k + j < l.length * k := by
    have : i + 1 ≤ l.length := by omega
    have h5 := Nat.mul_le_mul_right k this
    rw [Nat.add_mul, Nat.one_mul] at h5
    omega
  rw [World.ownsRow.cellAt h1 _ hik]
  exact flat_get cs i j hi (fun c hc => (h3 c hc).1) hj
theorem OwnK.cat {g cap : Nat} {l2 : List α} {cs cs2 : List (List Value)}
    (h2 : cs.length = l.length ∧ (∀ c ∈ cs, c.length = k ∧ ∀ u ∈ c, u.oneCell' = true) ∧ (∀ (i : Nat) c y, cs[i]? = some c → l[i]? = some y → At c y))
    (h2' : cs2.length = l2.length ∧ (∀ c ∈ cs2, c.length = k ∧ ∀ u ∈ c, u.oneCell' = true) ∧ (∀ (i : Nat) c y, cs2[i]? = some c → l2[i]? = some y → At c y)) (hne : l2 ≠ [])
    (h1 : w'.ownsRow n e k (.slice (some ⟨g, 0, none⟩) (l.length + l2.length) cap) (l.length + l2.length) (cs.flatten ++ cs2.flatten)) :
    OwnK At w' n e k (.slice (some ⟨g, 0, none⟩) (l.length + l2.length) cap) (l ++ l2) := by
  obtain ⟨a1, a2, a3⟩ := h2
  obtain ⟨b1, b2, b3⟩ := h2'
  refine ⟨cs ++ cs2, by rw [List.length_append, List.flatten_append]; exact h1, by simp [a1, b1], fun d hd => ?_, fun i d z hd hz => ?_, fun h => absurd (List.append_eq_nil_iff.1 h).2 hne⟩
  · rcases List.mem_append.1 hd with hd | hd
    · exact a2 d hd
    · exact b2 d hd
  · by_cases hi : i < l.length
    · rw [List.getElem?_append_left (by omega)] at hd
      rw [List.getElem?_append_left hi] at hz
      exact a3 i d z hd hz
    · rw [List.getElem?_append_right (by omega)] at hd
      rw [List.getElem?_append_right (by omega)] at hz
      rw [a1] at hd
      exact b3 _ d z hd hz
end

theorem flat_len {k : Nat} : ∀ (cs : List (List Value)), (∀ c ∈ cs, c.length = k) → cs.flatten.length = cs.length * k
  | [], _ => by simp
  | c :: cs, h => by rw [List.flatten_cons, List.length_append, flat_len cs (fun d hd => h d (by simp [hd])), h c (by simp), List.length_cons, Nat.succ_mul, Nat.add_comm]

section
variable {α : Type} {At : List Value → α → Prop} {w : World} {ops : Array Oper} {rest : List Oper} {o : Oper} {a : Act} {Q : Exit → Act → World → Prop}
/-- append of a row. -/
theorem wpList_append_K (hgd : o.guard = none) (s x : Operand) (t e k bytes : Nat) (z : Value)
    (ho : o.op = .call { callee := .builtin .append, args := #[s, x], argTypes := #[t, t] }) (ht : Try.prog.underlying t = some (.slice e)) (hinfo : (Try.prog.info? e).map (fun i => (i.zero, i.size, i.bytes)) = some (some z, k, bytes)) (hzs : z.cells.size = k) (hk : 0 < k) (hby : bytes ≤ 1024)
    (n : Nat) (v : Value) (l : List α) (hs : a.eval s = v) (hown : OwnK At w n e k v l) (n2 : Nat) (v2 : Value) (l2 : List α) (hx : a.eval x = v2) (hown2 : OwnK At w n2 e k v2 l2) (hl : l.length + l2.length ≤ 16777216) (hbase : n ≤ w.heap.size)
    (h : ∀ v' w', OwnK At w' n e k v' (l ++ l2) → w.grownBy w' v.ownBlock → wpList Try.prog ops Q rest (a.put o.dst v') w') : wpList Try.prog ops Q (o :: rest) a w := by
  obtain ⟨iS, hiS, hz0, hz1, hz2⟩ := info_parts hinfo
  have HO := hown
  obtain ⟨cs, hr, k1, k2, k3, k4⟩ := hown
  rcases hown2.shape with ⟨rfl, rfl⟩ | ⟨g2, cap2, rfl, _, _, _, hne⟩
  · refine wpList_append_own_none hgd s x t ho n e iS k ht hiS v l.length cs.flatten hs hr hx ?_
    exact h v w (by simpa using HO) ⟨rfl, rfl, rfl, Nat.le_refl _, fun _ _ _ => rfl⟩
  · obtain ⟨cs2, hr2, b1, b2, b3, _⟩ := hown2
    have hpos : 0 < l2.length := List.length_pos_iff.2 hne
    refine wpList_append_lies w hgd s x t ho n e iS z k bytes ht hiS hz0 hz1 hz2 hzs hk v l.length cs.flatten hs hr ⟨g2, 0, none⟩ l2.length cap2 cs2.flatten hx (by rw [flat_len cs2 (fun c hc => (b2 c hc).1), b1]) (fun j u hu => ?_) (fun u hu => ?_) hpos (by unfold maxLen; omega)
      (Nat.le_trans (Nat.mul_le_mul hl hby) (by decide)) hbase w.heap.size rfl ?_
    · rw [Addr.add_lit, Nat.zero_add, World.ownsRow.cellAt hr2 j (by have := (List.getElem?_eq_some_iff.1 hu).1; rw [flat_len cs2 (fun c hc => (b2 c hc).1), b1] at this; exact this)]
      exact hu
    · obtain ⟨c, hc, hu'⟩ := List.mem_flatten.1 hu
      exact (b2 c hc).2 u hu'
    · intro g cap w' h1' h2 _ _
      exact h _ w' (OwnK.cat ⟨k1, k2, k3⟩ ⟨b1, b2, b3⟩ hne h1') h2
end

end Go.Proofs.Ytmhcameodlhloaa
