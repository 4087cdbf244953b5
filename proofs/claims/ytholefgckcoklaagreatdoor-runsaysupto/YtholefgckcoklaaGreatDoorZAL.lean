/- ZAL -/
import Derived.Test.YtholefgckcoklaaGreatDoorZAE
import Derived.Test.YtholefgckcoklaaGreatDoorZAF
import Derived.Test.YtholefgckcoklaaGreatDoorZAI
import Derived.WalkKit
import Derived.Laws.CopyRow
import Derived.Laws.CopyOwn
import Derived.Lib.AppendZerosOnto
import Derived.Lib.Overlaps
import Derived.Laws.Externs
import Derived.Shelf.Spec.SlicesInsert
namespace Go.Proofs.YtholefgckcoklaaGreatDoor
open Go.RowKit
namespace Nm
end Nm
theorem grown_below {w w1 w2 : World} {r : Option Nat} (h : Below w.heap.size w w1) (hg : w1.grownBy w2 r) (hr : ∀ k, r = some k → w.heap.size ≤ k) : Below w.heap.size w w2 :=
  ⟨hg.os.trans h.os, hg.tape.trans h.tape, hg.output.trans h.output, Nat.le_trans h.size hg.size, fun k hk => (hg.block k (Nat.lt_of_lt_of_le hk h.size) (fun e => by have := hr k e.symm; omega)).trans (h.block k hk)⟩
theorem boxD0 (w : World) (c0 c1 c2 c3 : Value) (t : TypeId) : (w.alloc (.cells #[c0, c1, c2, c3] t)).cell? ⟨w.heap.size, 0, none⟩ = some c0 := by simp [go_sem]
theorem boxD1 (w : World) (c0 c1 c2 c3 : Value) (t : TypeId) : (w.alloc (.cells #[c0, c1, c2, c3] t)).cell? ⟨w.heap.size, 1, none⟩ = some c1 := by simp [go_sem]
end Go.Proofs.YtholefgckcoklaaGreatDoor
namespace Go.Proofs.YtholefgckcoklaaGreatDoor
open Go.RowKit
def StC (w : World) (m : Nat) (c : List Value) (s : St) : Prop := ∃ e0 e1 e2 e3 va vb, c = [.int .i64 s.kind, .string s.name, e0, e1, e2, e3, va, vb] ∧ I64 s.kind ∧ s.name.size ≤ maxLen ∧ ExAt w m e0 e1 e2 e3 s.e ∧ StsAt w m va s.a ∧ StsAt w m vb s.b
theorem StsAt.shapeN {w : World} : ∀ {m : Nat} {v : Value} {l : List St}, StsAt w m v l → ∃ a cap, v = .slice a l.length cap
  | 0, _, _, h => False.elim h
  | _ + 1, _, _, ⟨a, _, _, cap, e, _⟩ => ⟨a, cap, e⟩
theorem StC.one {w : World} {m : Nat} {c : List Value} {s : St} (h : StC w m c s) : ∀ u ∈ c, u.oneCell' = true := by
  obtain ⟨e0, e1, e2, e3, va, vb, rfl, _, _, hx, ha, hb⟩ := h
  obtain ⟨a, cap, rfl, rfl, rfl, rfl⟩ := hx.shape
  obtain ⟨a1, c1, rfl⟩ := ha.shapeN
  obtain ⟨a2, c2, rfl⟩ := hb.shapeN
  intro u hu
  simp at hu
  rcases hu with rfl | rfl | rfl | rfl | rfl | rfl | rfl | rfl <;> rfl
namespace Nm
def within (f : List St → List St) (s : St) : List St := ([s] ++ f s.a) ++ f s.b
def all : Nat → List St → List St
  | 0, _ => []
  | m + 1, l => l.flatMap (within (all m))
end Nm
end Go.Proofs.YtholefgckcoklaaGreatDoor
namespace Go.Proofs.YtholefgckcoklaaGreatDoor
open Go.RowKit
structure Dg where
  code : Int
  fn : ByteArray
  name : ByteArray
namespace Nm
def aheadB (a b : Dg) : Bool :=
  if (a.fn.toList == b.fn.toList) = false then Op.bytesLess a.fn.toList b.fn.toList
  else if (a.code == b.code) = false then decide (a.code < b.code) else Op.bytesLess a.name.toList b.name.toList
end Nm
end Go.Proofs.YtholefgckcoklaaGreatDoor
namespace Go.Proofs.YtholefgckcoklaaGreatDoor
open Go.RowKit
def DgC (c : List Value) (d : Dg) : Prop := c = [.int .i64 d.code, .string d.fn, .string d.name]
theorem DgC.one {c : List Value} {d : Dg} (h : DgC c d) : ∀ u ∈ c, u.oneCell' = true := by
  subst h
  intro u hu
  simp at hu
  rcases hu with rfl | rfl | rfl <;> rfl
def Told (w : World) (n p : Nat) (l : List Dg) : Prop := n ≤ p ∧ ∃ v, w.heap[p]? = some (.cells #[v] 37 (0, 0)) ∧ OwnK DgC w n 43 3 v l
structure Tells (p : Nat) (w w' : World) : Prop where
  size : w.heap.size ≤ w'.heap.size
  block : ∀ k, k < w.heap.size → k ≠ p → (∀ cs fz, w.heap[k]? ≠ some (.cells cs 43 fz)) → w'.heap[k]? = w.heap[k]?
theorem Tells.refl (p : Nat) (w : World) : Tells p w w := ⟨Nat.le_refl _, fun _ _ _ _ => rfl⟩
theorem Tells.trans {p : Nat} {a b c : World} (h : Tells p a b) (k : Tells p b c) : Tells p a c :=
  ⟨Nat.le_trans h.size k.size, fun i hi hp hd => by
    have h1 := h.block i hi hp hd
    rw [← h1]
    exact k.block i (Nat.lt_of_lt_of_le hi h.size) hp (fun cs fz => by rw [h1]; exact hd cs fz)⟩
theorem Tells.of_below {p : Nat} {w w' : World} (h : Below w.heap.size w w') : Tells p w w' := ⟨h.size, fun k hk _ _ => h.block k hk⟩
theorem Tells.at {p q : Nat} {w w' : World} (h : Tells p w w') (hq : q ≠ p) {cs : Array Value} {t : TypeId} {fz : Nat × Nat} (ho : w.heap[q]? = some (.cells cs t fz)) (ht : t ≠ 43) : w'.heap[q]? = some (.cells cs t fz) := by
  rw [h.block q (block_lt ho) hq (fun cs' fz' e => by rw [ho] at e; simp at e; exact ht e.2.1)]; exact ho
theorem Told.below {w w' : World} {n p : Nat} {l : List Dg} (h : Told w n p l) (hb : Below w.heap.size w w') : Told w' n p l := by
  obtain ⟨h0, v, h1, h2⟩ := h
  exact ⟨h0, v, by rw [hb.block p (block_lt h1)]; exact h1, h2.below hb⟩
theorem OwnK.set {α : Type} {At : List Value → α → Prop} {w : World} {n e k : Nat} {v : Value} {l : List α} (h : OwnK At w n e k v l) {a : Addr} (ha : v.ownBlock ≠ some a.block) (x : Value) : OwnK At (w.setCell a x) n e k v l := by
  obtain ⟨cs, ⟨h0, h1⟩, h2⟩ := h
  refine ⟨cs, ⟨h0, ?_⟩, h2⟩
  rcases h1 with h1 | ⟨g, cap, cur, hv, hg, hh, r⟩
  · exact Or.inl h1
  · refine Or.inr ⟨g, cap, cur, hv, hg, block_other hh (fun e' => ha (by rw [hv, ← e']; rfl)) _, r⟩
theorem OwnK.apart {α : Type} {At : List Value → α → Prop} {w : World} {n e k p : Nat} {v : Value} {l : List α} {cs : Array Value} {t : TypeId} {fz : Nat × Nat} (h : OwnK At w n e k v l) (hp : w.heap[p]? = some (.cells cs t fz)) (ht : t ≠ e) : v.ownBlock ≠ some p := by
  intro e'
  obtain ⟨_, ⟨_, h1⟩, _⟩ := h
  rcases h1 with ⟨rfl, _⟩ | ⟨g, cap, cur, hv, _, hh, _⟩
  · cases e'
  · rw [hv] at e'
    have : g = p := by simpa [Value.ownBlock] using e'
    subst this
    rw [hp] at hh
    simp at hh
    exact ht hh.2.1
theorem OwnK.form {α : Type} {At : List Value → α → Prop} {w : World} {n e k : Nat} {v : Value} {l : List α} (h : OwnK At w n e k v l) : ∃ a c, v = .slice a l.length c := by
  rcases h.shape with ⟨rfl, rfl⟩ | ⟨g, cap, rfl, _⟩
  · exact ⟨_, _, rfl⟩
  · exact ⟨_, _, rfl⟩
theorem OwnK.typ {α : Type} {At : List Value → α → Prop} {w : World} {n e k g : Nat} {v : Value} {l : List α} (h : OwnK At w n e k v l) (hg : v.ownBlock = some g) : ∃ cur, w.heap[g]? = some (.cells cur e (0, 0)) := by
  obtain ⟨_, ⟨_, h1⟩, _⟩ := h
  rcases h1 with ⟨rfl, _⟩ | ⟨g', cap, cur, hv, _, hh, _⟩
  · cases hg
  · rw [hv] at hg
    have : g' = g := by simpa [Value.ownBlock] using hg
    subst this
    exact ⟨cur, hh⟩
theorem Told.push {w w6 : World} {n p : Nat} {l : List Dg} {d : Dg} {v v6 : Value} {o : Obj} (hn : n ≤ p) (hp : w.heap[p]? = some (.cells #[v] 37 (0, 0))) (hv : OwnK DgC w n 43 3 v l) (hown : OwnK DgC w6 n 43 3 v6 (l ++ [d])) (hg : (w.alloc o).grownBy w6 v.ownBlock) :
    w6.heap[p]? = some (.cells #[v] 37 (0, 0)) ∧ Told (w6.setCell ⟨p, 0, none⟩ v6) n p (l ++ [d]) ∧ Below n w (w6.setCell ⟨p, 0, none⟩ v6) ∧ Tells p w (w6.setCell ⟨p, 0, none⟩ v6) := by
  have hb := boxBelow w o
  have hplt := block_lt hp
  have hne := hv.apart hp (by decide)
  have h1 : w6.heap[p]? = some (.cells #[v] 37 (0, 0)) := by
    rw [hg.block p (Nat.lt_of_lt_of_le hplt hb.size) (fun e => hne e.symm), hb.block p hplt]; exact hp
  have hne6 := hown.apart h1 (by decide)
  have hkeep : ∀ k, k < w.heap.size → k ≠ p → some k ≠ v.ownBlock → (w6.setCell ⟨p, 0, none⟩ v6).heap[k]? = w.heap[k]? := fun k hk hkp hkv => by
    rw [Below.heap_setCell _ _ _ _ hkp, hg.block k (Nat.lt_of_lt_of_le hk hb.size) hkv, hb.block k hk]
  have hsz : w.heap.size ≤ (w6.setCell ⟨p, 0, none⟩ v6).heap.size := by
    simp only [World.setCell, Array.size_modify]
    exact Nat.le_trans hb.size hg.size
  refine ⟨h1, ⟨hn, v6, ?_, hown.set hne6 _⟩, ⟨hg.os.trans hb.os, hg.tape.trans hb.tape, hg.output.trans hb.output, hsz, fun k hk => hkeep k (by omega) (by omega) (fun e => ?_)⟩, ⟨hsz, fun k hk hkp hd => hkeep k hk hkp (fun e => ?_)⟩⟩
  · rw [block_set h1]; rfl
  · have := (hv.lt k e.symm).1
    omega
  · obtain ⟨cur, hc⟩ := hv.typ e.symm
    exact hd _ _ hc
namespace Nm
end Nm
end Go.Proofs.YtholefgckcoklaaGreatDoor
namespace Go.Proofs.YtholefgckcoklaaGreatDoor
open Go.RowKit
theorem But.setRow {g : Nat} (w : World) (cs : Array Value) : But g w (w.setRow g cs) := ⟨rfl, rfl, rfl, by simp [World.setRow], fun k _ hk => setRow_other w g k cs hk⟩
section
variable {w : World} {ops : Array Oper} {rest : List Oper} {o : Oper} {a : Act} {Q : Exit → Act → World → Prop}
end
end Go.Proofs.YtholefgckcoklaaGreatDoor
namespace Go.Proofs.YtholefgckcoklaaGreatDoor
open Go.RowKit
end Go.Proofs.YtholefgckcoklaaGreatDoor
