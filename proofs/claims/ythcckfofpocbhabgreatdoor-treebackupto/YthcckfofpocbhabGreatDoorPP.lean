/- A module that is being read: its lists grow. -/
import Derived.Test.YthcckfofpocbhabGreatDoorPO
namespace Go.Proofs.YthcckfofpocbhabGreatDoor
open Go.RowKit

section
variable {α : Type} {At : World → List Value → α → Prop} {w : World} {ops : Array Oper} {rest : List Oper} {o : Oper} {a : Act} {Q : Exit → Act → World → Prop} {K : Act → World → Prop} {E : Prop}
/-- append of one element, at a step of a region that draws its order; where the new row lies. -/
theorem step_append_G (hm : Mono At) (hgd : o.guard = none) (s x : Operand) (t e k bytes : Nat) (z : Value)
    (ho : o.op = .call { callee := .builtin .append, args := #[s, x], argTypes := #[t, t] }) (ht : Tryz.prog.underlying t = some (.slice e)) (hinfo : (Tryz.prog.info? e).map (fun i => (i.zero, i.size, i.bytes)) = some (some z, k, bytes)) (hzs : z.cells.size = k) (hk : 0 < k) (hby : bytes ≤ 1024)
    (n : Nat) (v : Value) (l : List α) (hs : a.eval s = v) (hown : OwnL At w n e k v l) (B : Nat) (c : List Value) (y : α) (hx : a.eval x = .slice (some ⟨B, 0, none⟩) 1 1)
    (hc : ∀ (j : Nat) u, c[j]? = some u → w.cell? ⟨B, j, none⟩ = some u) (hck : c.length = k) (h1 : ∀ u ∈ c, u.oneCell' = true) (hat : At (only (fun b => decide (n ≤ b) && decide (v.ownBlock ≠ some b)) w) c y) (hl : l.length ≤ 8192) (hbase : n ≤ w.heap.size)
    (h : ∀ g cap w', OwnL At w' n e k (.slice (some ⟨g, 0, none⟩) (l.length + 1) cap) (l ++ [y]) → w.grownBy w' v.ownBlock → (v.ownBlock = some g ∨ g = w.heap.size) → K (a.put o.dst (.slice (some ⟨g, 0, none⟩) (l.length + 1) cap)) w') :
    if Region.wanted o (yielded ops a.tmps) = true then Oper.wp Tryz.prog o a w K Q else E := by
  obtain ⟨iS, hiS, hz0, hz1, hz2⟩ := info_parts hinfo
  obtain ⟨cs, hr, k1, k2, k3⟩ := hown
  refine step_append_lies w hgd s x t ho n e iS z k bytes ht hiS hz0 hz1 hz2 hzs hk v l.length cs.flatten hs hr ⟨B, 0, none⟩ 1 1 c hx (by rw [hck, Nat.one_mul]) (fun j u hu => by rw [Addr.add_lit, Nat.zero_add]; exact hc j u hu) h1 (by decide) (by unfold maxLen; omega)
    (Nat.le_trans (Nat.mul_le_mul (show l.length + 1 ≤ 8193 by omega) hby) (by decide)) hbase w.heap.size rfl ?_
  intro g cap w' h1' h2 h3 _
  exact h g cap w' (OwnL.push (At := At) hm ⟨k1, k2, k3⟩ rfl hck hat h1' h2 h3) h2 h3
end
section
variable {α β : Type} {At At' : World → List Value → α → Prop} {Bt : World → List Value → β → Prop} {w w' : World} {n e k e2 k2 : Nat} {v v2 : Value} {l : List α} {l2 : List β}
/-- Another row has grown. -/
theorem OwnL.kept (h : OwnL At w n e k v l) (h2 : OwnL Bt w n e2 k2 v2 l2) (hne : e ≠ e2) (hg : w.grownBy w' v2.ownBlock)
    (hsee : ∀ c y, At (only (fun b => decide (n ≤ b) && decide (v.ownBlock ≠ some b)) w) c y → At' (only (fun b => decide (n ≤ b) && decide (v.ownBlock ≠ some b)) w') c y) : OwnL At' w' n e k v l := by
  obtain ⟨cs, h1, k1, k2', k3⟩ := h
  obtain ⟨cs2, h12, _⟩ := h2
  exact ⟨cs, h1.kept hg (own_ne h1 h12 hne), k1, k2', fun i c y hc hy => hsee c y (k3 i c y hc hy)⟩
end

/-- Not in the rows of vi and vv. -/
def seen (vi vv : Value) (b : Nat) : Bool := decide (vi.ownBlock ≠ some b) && decide (vv.ownBlock ≠ some b)
def FuH (vi vv : Value) (M : Nat) (W : World) (c : List Value) (f : Fu) : Prop := FuL M (only (seen vi vv) W) c f
theorem only_mono {P : Nat → Bool} {W W' : World} (h : Sub W W') : Sub (only P W) (only P W') := fun a v hv => by
  obtain ⟨h1, h2⟩ := only_cell.1 hv
  exact only_cell.2 ⟨h1, h _ _ h2⟩
theorem fuMono (vi vv : Value) (M : Nat) : Mono (FuH vi vv M) := fun _ _ _ _ hs h => FuL.sub (only_mono hs) h

/-- The module m, as it stands in block q, its lists in rows of their own in blocks from n on. -/
def MdV (w : World) (n q M : Nat) (m : Mo) (vi vv vf : Value) : Prop :=
  w.heap[q]? = some (.cells #[.string m.name, vi, vv, vf] 26 (0, 0)) ∧ m.name.size ≤ 4096 ∧ OwnL StrL w n 9 1 vi m.imports ∧ OwnL VaL w n 47 2 vv m.vars ∧ OwnL (FuH vi vv M) w n 54 7 vf m.funs
section
variable {w w' : World} {n q M p : Nat} {m : Mo} {vi vv vf : Value}
theorem MdV.but (h : MdV w n q M m vi vv vf) {c : Array Value} {fz : Nat × Nat} (hp : w.heap[p]? = some (.cells c 41 fz)) (hpn : p < n) (hqp : q ≠ p) (hb : But p w w') : MdV w' n q M m vi vv vf := by
  obtain ⟨h1, h2, h3, h4, h5⟩ := h
  exact ⟨hb.at hqp h1, h2, h3.but strMono hp (by decide) hpn hb, h4.but vaMono hp (by decide) hpn hb, h5.but (fuMono _ _ _) hp (by decide) hpn hb⟩
theorem MdV.below (h : MdV w n q M m vi vv vf) (hb : Below w.heap.size w w') : MdV w' n q M m vi vv vf := by
  obtain ⟨h1, h2, h3, h4, h5⟩ := h
  exact ⟨by rw [hb.block q (block_lt h1)]; exact h1, h2, h3.below strMono hb, h4.below vaMono hb, h5.below (fuMono _ _ _) hb⟩
theorem MdV.cell (h : MdV w n q M m vi vv vf) {i : Nat} {x : Value} (hx : (#[.string m.name, vi, vv, vf] : Array Value)[i]? = some x) : w.cell? ⟨q, i, none⟩ = some x ∧ w.frozen? ⟨q, i, none⟩ = false := ⟨(block_at h.1 i).trans hx, block_free h.1 i⟩
theorem MdV.pushI (h : MdV w n q M m vi vv vf) (hq : q < n) {g cap : Nat} {s : ByteArray} (hown : OwnL StrL w' n 9 1 (.slice (some ⟨g, 0, none⟩) (m.imports.length + 1) cap) (m.imports ++ [s])) (hg : w.grownBy w' vi.ownBlock) (hat : vi.ownBlock = some g ∨ g = w.heap.size) :
    MdV (w'.setCell ⟨q, 1, none⟩ (.slice (some ⟨g, 0, none⟩) (m.imports.length + 1) cap)) n q M { m with imports := m.imports ++ [s] } (.slice (some ⟨g, 0, none⟩) (m.imports.length + 1) cap) vv vf := by
  obtain ⟨h1, h2, h3, h4, h5⟩ := h
  have hq' : w'.heap[q]? = some (.cells #[.string m.name, vi, vv, vf] 26 (0, 0)) := by
    rw [hg.block q (block_lt h1) (fun e => by have := (h3.lt q e.symm).1; omega)]; exact h1
  refine ⟨by rw [block_set hq']; rfl, h2, hown.setOld strMono hq _, (h4.kept h3 (by decide) hg (fun _ _ hy => hy)).setOld vaMono hq _, (h5.kept (At' := FuH _ vv M) h3 (by decide) hg (fun c y hy => FuL.sub (fun a u hu => ?_) hy)).setOld (fuMono _ _ _) hq _⟩
  obtain ⟨a1, a2⟩ := only_cell.1 hu
  obtain ⟨b1, b2⟩ := only_cell.1 a2
  unfold seen at a1
  obtain ⟨c1, c2⟩ := Bool.and_eq_true_iff.1 a1
  have d1 := of_decide_eq_true c1
  have hlt := World.block_lt_of_cell? _ _ b2
  refine only_cell.2 ⟨?_, only_cell.2 ⟨b1, hg.cell b2 (fun e => d1 e.symm)⟩⟩
  unfold seen
  refine Bool.and_eq_true_iff.2 ⟨decide_eq_true (fun e => ?_), c2⟩
  have e' : g = a.block := by simpa [Value.ownBlock] using e
  rcases hat with e2 | e2
  · exact d1 (by rw [e2, e'])
  · omega
theorem MdV.pushV (h : MdV w n q M m vi vv vf) (hq : q < n) {g cap : Nat} {s : Va} (hown : OwnL VaL w' n 47 2 (.slice (some ⟨g, 0, none⟩) (m.vars.length + 1) cap) (m.vars ++ [s])) (hg : w.grownBy w' vv.ownBlock) (hat : vv.ownBlock = some g ∨ g = w.heap.size) :
    MdV (w'.setCell ⟨q, 2, none⟩ (.slice (some ⟨g, 0, none⟩) (m.vars.length + 1) cap)) n q M { m with vars := m.vars ++ [s] } vi (.slice (some ⟨g, 0, none⟩) (m.vars.length + 1) cap) vf := by
  obtain ⟨h1, h2, h3, h4, h5⟩ := h
  have hq' : w'.heap[q]? = some (.cells #[.string m.name, vi, vv, vf] 26 (0, 0)) := by
    rw [hg.block q (block_lt h1) (fun e => by have := (h4.lt q e.symm).1; omega)]; exact h1
  refine ⟨by rw [block_set hq']; rfl, h2, (h3.kept h4 (by decide) hg (fun _ _ hy => hy)).setOld strMono hq _, hown.setOld vaMono hq _, (h5.kept (At' := FuH vi _ M) h4 (by decide) hg (fun c y hy => FuL.sub (fun a u hu => ?_) hy)).setOld (fuMono _ _ _) hq _⟩
  obtain ⟨a1, a2⟩ := only_cell.1 hu
  obtain ⟨b1, b2⟩ := only_cell.1 a2
  unfold seen at a1
  obtain ⟨c1, c2⟩ := Bool.and_eq_true_iff.1 a1
  have d1 := of_decide_eq_true c2
  have hlt := World.block_lt_of_cell? _ _ b2
  refine only_cell.2 ⟨?_, only_cell.2 ⟨b1, hg.cell b2 (fun e => d1 e.symm)⟩⟩
  unfold seen
  refine Bool.and_eq_true_iff.2 ⟨c1, decide_eq_true (fun e => ?_)⟩
  have e' : g = a.block := by simpa [Value.ownBlock] using e
  rcases hat with e2 | e2
  · exact d1 (by rw [e2, e'])
  · omega
theorem MdV.pushF (h : MdV w n q M m vi vv vf) (hq : q < n) {g cap : Nat} {s : Fu} (hown : OwnL (FuH vi vv M) w' n 54 7 (.slice (some ⟨g, 0, none⟩) (m.funs.length + 1) cap) (m.funs ++ [s])) (hg : w.grownBy w' vf.ownBlock) :
    MdV (w'.setCell ⟨q, 3, none⟩ (.slice (some ⟨g, 0, none⟩) (m.funs.length + 1) cap)) n q M { m with funs := m.funs ++ [s] } vi vv (.slice (some ⟨g, 0, none⟩) (m.funs.length + 1) cap) := by
  obtain ⟨h1, h2, h3, h4, h5⟩ := h
  have hq' : w'.heap[q]? = some (.cells #[.string m.name, vi, vv, vf] 26 (0, 0)) := by
    rw [hg.block q (block_lt h1) (fun e => by have := (h5.lt q e.symm).1; omega)]; exact h1
  exact ⟨by rw [block_set hq']; rfl, h2, (h3.kept h5 (by decide) hg (fun _ _ hy => hy)).setOld strMono hq _, (h4.kept h5 (by decide) hg (fun _ _ hy => hy)).setOld vaMono hq _, hown.setOld (fuMono _ _ _) hq _⟩
/-- The lists that a module has when it is read. -/
theorem MdV.mo (h : MdV w n q M m vi vv vf) (h1 : m.imports.length ≤ 8192) (h2 : m.vars.length ≤ 8192) (h3 : m.funs.length ≤ 8192) : MoAt (only (fun b => decide (n ≤ b)) w) M (.agg #[.string m.name, vi, vv, vf]) m := by
  obtain ⟨_, k2, k3, k4, k5⟩ := h
  refine ⟨vi, vv, vf, rfl, Nat.le_trans k2 (by decide), k3.strsL (by omega), k4.vas (by omega), ?_⟩
  rcases k5.shape with ⟨rfl, e⟩ | ⟨g, cap, rfl, _, hg, _⟩
  · rw [e]
    exact ⟨none, 0, 0, 0, rfl, fun h => absurd h (by simp), by simp, fun i y hy => by simp at hy⟩
  · refine ⟨_, g, 0, cap, rfl, fun _ => rfl, by omega, fun i y hy => ?_⟩
    obtain ⟨c, hc, hcell, _, hf⟩ := k5.cell hy
    obtain ⟨vp, vb, e0, e1, e2, e3, rfl, f1, f2, f3, f4⟩ := hf
    have hs : ∀ j (hj : j < 7), (only (fun b => decide (n ≤ b)) w).cell? ⟨g, 0 + i * 7 + j, none⟩ = some ([.string y.name, vp, vb, e0, e1, e2, e3][j]) := fun j hj => by
      refine only_cell.2 ⟨decide_eq_true hg, ?_⟩
      rw [Nat.zero_add, hcell j hj]
      exact List.getElem?_eq_getElem (by simpa using hj)
    have hsub : Sub (only (seen vi vv) (only (fun b => decide (n ≤ b) && decide (some g ≠ some b)) w)) (only (fun b => decide (n ≤ b)) w) := fun a u hu => by
      obtain ⟨_, a2⟩ := only_cell.1 hu
      obtain ⟨b1, b2⟩ := only_cell.1 a2
      exact only_cell.2 ⟨(Bool.and_eq_true_iff.1 b1).1, b2⟩
    exact ⟨Nat.le_trans f1 (by decide), vp, vb, e0, e1, e2, e3, hs 0 (by decide), hs 1 (by decide), hs 2 (by decide), hs 3 (by decide), hs 4 (by decide), hs 5 (by decide), hs 6 (by decide), f2.sub hsub, f3.sub hsub, f4.sub hsub⟩
end

theorem MoAt.sub {w w' : World} (hb : Sub w w') {m : Nat} {v : Value} {x : Mo} (h : MoAt w m v x) : MoAt w' m v x := by
  obtain ⟨vi, vv, vf, h0, h1, h2, h3, h4⟩ := h
  exact ⟨vi, vv, vf, h0, h1, h2.sub hb, h3.sub hb, h4.sub hb⟩

/-- Blocks below n stay, but p and q. -/
structure But2 (p q n : Nat) (w w' : World) : Prop where
  os : w'.os = w.os
  tape : w'.tape = w.tape
  output : w'.output = w.output
  size : w.heap.size ≤ w'.heap.size
  block : ∀ k, k < n → k ≠ p → k ≠ q → w'.heap[k]? = w.heap[k]?
theorem But2.of_but {p q n : Nat} {w w' : World} (h : But p w w') (hn : n ≤ w.heap.size) : But2 p q n w w' := ⟨h.os, h.tape, h.output, h.size, fun k hk h1 _ => h.block k (by omega) h1⟩
theorem But2.trans {p q n : Nat} {a b c : World} (h : But2 p q n a b) (k : But2 p q n b c) : But2 p q n a c :=
  ⟨k.os.trans h.os, k.tape.trans h.tape, k.output.trans h.output, Nat.le_trans h.size k.size, fun i hi h1 h2 => (k.block i hi h1 h2).trans (h.block i hi h1 h2)⟩
theorem But2.set {p q n : Nat} {w w' : World} (h : But2 p q n w w') (i : Nat) (v : Value) : But2 p q n w (w'.setCell ⟨q, i, none⟩ v) :=
  ⟨h.os, h.tape, h.output, by simp only [World.setCell, Array.size_modify]; exact h.size, fun k hk h1 h2 => (Below.heap_setCell _ _ _ _ (by simpa using h2)).trans (h.block k hk h1 h2)⟩
theorem But2.grown {p q n : Nat} {w w' w2 : World} (h : But2 p q n w w') {r : Option Nat} (hg : w'.grownBy w2 r) (hn : n ≤ w'.heap.size) (hr : ∀ k, r = some k → n ≤ k) : But2 p q n w w2 :=
  ⟨hg.os.trans h.os, hg.tape.trans h.tape, hg.output.trans h.output, Nat.le_trans h.size hg.size, fun k hk h1 h2 => (hg.block k (by omega) (fun e => by have := hr k e.symm; omega)).trans (h.block k hk h1 h2)⟩

end Go.Proofs.YthcckfofpocbhabGreatDoor
