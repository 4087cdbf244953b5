/- Walks over the library: slices.Grow of nil and slices.Concat, of diagnostics. -/
import Derived.Test.YtholefgckcoklaaGreatDoorZAY
import Derived.Deep.OwnRows
import Derived.Laws.OwnMore
import Derived.OwnWalk
import Derived.Lib.AppendZerosOnto
import Derived.Lib.SliceRun
import Derived.Test.YtholefgckcoklaaGreatDoorZAL
import Derived.Test.YtholefgckcoklaaGreatDoorZAW
namespace Go.Proofs.YtholefgckcoklaaGreatDoor
open Go.RowKit
def OwnR {α : Type} (At : List Value → α → Prop) (w : World) (n e k : Nat) (v : Value) (l : List α) : Prop :=
  ∃ cs : List (List Value), w.ownsRow n e k v l.length cs.flatten ∧ cs.length = l.length ∧ (∀ c ∈ cs, c.length = k ∧ ∀ u ∈ c, u.oneCell' = true) ∧ (∀ (i : Nat) c y, cs[i]? = some c → l[i]? = some y → At c y)
section
variable {α : Type} {At : List Value → α → Prop} {w w' : World} {n e k : Nat} {v : Value} {l : List α}
theorem OwnR.lt (h : OwnR At w n e k v l) : ∀ j, v.ownBlock = some j → n ≤ j ∧ j < w.heap.size := by
  obtain ⟨cs, h1, _⟩ := h
  exact h1.lt
theorem OwnR.below (h : OwnR At w n e k v l) (hb : Below w.heap.size w w') : OwnR At w' n e k v l := by
  obtain ⟨cs, h1, h2⟩ := h
  exact ⟨cs, own_below h1 hb, h2⟩
end
section
variable {α : Type} {At : List Value → α → Prop} {w : World} {ops : Array Oper} {rest : List Oper} {o : Oper} {a : Act} {Q : Exit → Act → World → Prop}
end
end Go.Proofs.YtholefgckcoklaaGreatDoor
namespace Go.Proofs.YtholefgckcoklaaGreatDoor
open Go.RowKit
namespace Nm
end Nm
theorem boxD (w : World) (cs : Array Value) (t : TypeId) (i : Nat) (v : Value) (h : cs[i]? = some v) : (w.alloc (.cells cs t)).cell? ⟨w.heap.size, i, none⟩ = some v := (block_at (block_new w (.cells cs t)) i).trans h
def CapOK (v : Value) : Prop := ∀ a n c, v = .slice a n c → n ≤ c
structure MoCap (w : World) (vi vf : Value) : Prop where
  imp : CapOK vi
  fus : CapOK vf
  par : ∀ b off n c, vf = .slice (some ⟨b, off, none⟩) n c → ∀ i, i < n → ∃ vp, w.cell? ⟨b, off + i * 7 + 1, none⟩ = some vp ∧ CapOK vp
theorem MoCap.below {w w' : World} {vi vf : Value} (h : MoCap w vi vf) (hb : Below w.heap.size w w') : MoCap w' vi vf :=
  ⟨h.imp, h.fus, fun b off n c e i hi => by
    obtain ⟨vp, h1, h2⟩ := h.par b off n c e i hi
    exact ⟨vp, cellUp h1 hb, h2⟩⟩
end Go.Proofs.YtholefgckcoklaaGreatDoor
namespace Go.Proofs.YtholefgckcoklaaGreatDoor
open Go.RowKit
section
variable {α : Type} {At : List Value → α → Prop} {w w' : World} {n e k : Nat} {v : Value} {l : List α}
theorem OwnK.grown {r : Option Nat} (h : OwnK At w n e k v l) (hG : w.grownBy w' r) (hr : ∀ g, v.ownBlock = some g → r ≠ some g) : OwnK At w' n e k v l := by
  have hlt := h.lt
  obtain ⟨cs, ⟨h0, h1⟩, h2⟩ := h
  refine ⟨cs, ⟨h0, ?_⟩, h2⟩
  rcases h1 with h1 | ⟨g, cap, cur, hv, hg, hh, r'⟩
  · exact Or.inl h1
  · exact Or.inr ⟨g, cap, cur, hv, hg, by rw [hG.block g (block_lt hh) (fun e' => hr g (by rw [hv]; rfl) e'.symm)]; exact hh, r'⟩
theorem OwnK.other {α' : Type} {At' : List Value → α' → Prop} {n' e' k' : Nat} {v' : Value} {l' : List α'} (h : OwnK At w n e k v l) (h' : OwnK At' w n' e' k' v' l') (he : e ≠ e') : ∀ g, v.ownBlock = some g → v'.ownBlock ≠ some g := fun g hg hg' => by
  obtain ⟨cur, hc⟩ := h.typ hg
  obtain ⟨cur', hc'⟩ := h'.typ hg'
  rw [hc] at hc'
  simp at hc'
  exact he hc'.2
end
theorem Told.apart {α : Type} {At : List Value → α → Prop} {w : World} {n p n' e k : Nat} {v : Value} {l : List Dg} {l' : List α} (h : Told w n p l) (h' : OwnK At w n' e k v l') (he : e ≠ 37) : v.ownBlock ≠ some p := by
  obtain ⟨_, u, h1, _⟩ := h
  exact h'.apart h1 (fun e' => he e'.symm)
theorem Told.grown {α : Type} {At : List Value → α → Prop} {w w' : World} {n p n' e k : Nat} {v : Value} {l : List Dg} {l' : List α} (h : Told w n p l) (h' : OwnK At w n' e k v l') (hG : w.grownBy w' v.ownBlock) (he : e ≠ 37) (hd : e ≠ 43) : Told w' n p l := by
  have ha := h.apart h' he
  obtain ⟨h0, u, h1, h2⟩ := h
  exact ⟨h0, u, by rw [hG.block p (block_lt h1) (fun e' => ha e'.symm)]; exact h1, h2.grown hG (fun g hg => h2.other h' (fun e' => hd e'.symm) g hg)⟩
theorem Tells.grown {p : Nat} {w w1 w2 : World} {r : Option Nat} (h : Tells p w w1) (hG : w1.grownBy w2 r) (hr : ∀ g, r = some g → w.heap.size ≤ g) : Tells p w w2 :=
  ⟨Nat.le_trans h.size hG.size, fun k hk hp hd => by
    rw [hG.block k (Nat.lt_of_lt_of_le hk h.size) (fun e => by have := hr k e.symm; omega)]
    exact h.block k hk hp hd⟩
end Go.Proofs.YtholefgckcoklaaGreatDoor
namespace Go.Proofs.YtholefgckcoklaaGreatDoor
open Go.RowKit Go.Maps
structure Cfg where
  n : Nat
  p : Nat
  vl : Value
  vv : Value
  mp : Nat
  e : Nat
  bs : List Nat
def VrAt (w : World) (b : Nat) (x : ByteArray × ByteArray) (v : Rn.Vr) : Prop := w.heap[b]? = some (.cells #[.string x.1, .string x.2, .int .i64 v.val, .bool v.rd, .bool v.st] 239 (0, 0))
def PrC (c : List Value) (d : ByteArray × Int) : Prop := c = [.string d.1, .int .i64 d.2]
structure MaAt (w : World) (c : Cfg) (nm : List (ByteArray × ByteArray)) (s : Rn.Sta) : Prop where
  base : c.n ≤ c.p
  mach : ∃ vp, w.heap[c.p]? = some (.cells #[c.vl, c.vv, .map (some c.mp), .int .i64 s.fuel, vp] 227 (0, 0)) ∧ OwnK PrC w c.n 62 2 vp s.pr
  lenb : c.bs.length = nm.length
  lens : s.vs.length = nm.length
  var : ∀ (i b : Nat) (x : ByteArray × ByteArray) (v : Rn.Vr), c.bs[i]? = some b → nm[i]? = some x → s.vs[i]? = some v → VrAt w b x v
  bsn : ∀ b ∈ c.bs, c.n ≤ b
  val : ∀ v ∈ s.vs, I64 v.val
  nodup : c.bs.Nodup
  map : PlM w c.mp c.e nm c.bs
  mpn : c.n ≤ c.mp
  room : s.pr.length + s.fuel ≤ 16777215
  prs : ∀ d ∈ s.pr, d.1.size ≤ 8
structure Kp (c : Cfg) (o : Option Nat) (w w' : World) : Prop where
  below : Below c.n w w'
  block : ∀ k ob, w.heap[k]? = some ob → k ≠ c.p → k ∉ c.bs → some k ≠ o → (∀ cs fz, ob ≠ .cells cs 62 fz) → w'.heap[k]? = some ob
theorem Kp.refl (c : Cfg) (o : Option Nat) (w : World) : Kp c o w w := ⟨Below.refl _ _, fun _ _ h _ _ _ _ => h⟩
theorem Kp.trans {c : Cfg} {o : Option Nat} {a b d : World} (h : Kp c o a b) (k : Kp c o b d) : Kp c o a d :=
  ⟨h.below.trans k.below, fun i ob ho h1 h2 h3 h4 => k.block i ob (h.block i ob ho h1 h2 h3 h4) h1 h2 h3 h4⟩
theorem Kp.more {c : Cfg} {o : Option Nat} {w w' : World} (h : Kp c none w w') : Kp c o w w' := ⟨h.below, fun k ob ho h1 h2 _ h4 => h.block k ob ho h1 h2 (by simp) h4⟩
theorem Kp.of_below {c : Cfg} {o : Option Nat} {w w' : World} (h : Below w.heap.size w w') (hn : c.n ≤ w.heap.size) : Kp c o w w' :=
  ⟨h.mono hn, fun k ob ho _ _ _ _ => by rw [h.block k (block_lt ho)]; exact ho⟩
theorem Kp.drewN {c : Cfg} {o : Option Nat} {w w' : World} (h : Kp c o w w') (n : Nat) : Kp c o w (w'.drewN n) := ⟨drewBelow h.below n, h.block⟩
theorem Kp.fresh {c : Cfg} {b : Nat} {w w' : World} (h : Kp c (some b) w w') (hb : w.heap.size ≤ b) : Kp c none w w' :=
  ⟨h.below, fun k ob ho h1 h2 _ h4 => h.block k ob ho h1 h2 (fun e => by injection e with e; have := block_lt ho; omega) h4⟩
theorem Kp.cells {c : Cfg} {nm : List (ByteArray × ByteArray)} {s : Rn.Sta} {o : Option Nat} {w w' : World} (h : Kp c o w w') (hm : MaAt w c nm s) {k : Nat} {cs : Array Value} {t : TypeId} {fz : Nat × Nat} (ho : w.heap[k]? = some (.cells cs t fz))
    (ht : t ≠ 62) (h1 : t ≠ 227) (h2 : t ≠ 239) (hk : some k ≠ o) : w'.heap[k]? = some (.cells cs t fz) := by
  refine h.block k _ ho (fun e => ?_) (fun e => ?_) hk (fun cs' fz' e => by injection e with _ e; exact ht e)
  · obtain ⟨vp, hp, _⟩ := hm.mach
    rw [e, hp] at ho
    injection ho with ho
    injection ho with _ ho
    exact h1 ho.symm
  · obtain ⟨i, hi, hb⟩ := List.mem_iff_getElem.1 e
    have hx : i < nm.length := by rw [← hm.lenb]; exact hi
    have hv : i < s.vs.length := by rw [hm.lens]; exact hx
    have hh := hm.var i k _ _ (by rw [← hb]; exact List.getElem?_eq_getElem hi) (List.getElem?_eq_getElem hx) (List.getElem?_eq_getElem hv)
    rw [VrAt, ho] at hh
    injection hh with hh
    injection hh with _ hh
    exact h2 hh
theorem Kp.map {c : Cfg} {nm : List (ByteArray × ByteArray)} {s : Rn.Sta} {o : Option Nat} {w w' : World} (h : Kp c o w w') (hm : MaAt w c nm s) {k : Nat} {es : Array MapEntry} {cl : Nat} (ho : w.heap[k]? = some (.map es cl)) (hk : some k ≠ o) : w'.heap[k]? = some (.map es cl) := by
  refine h.block k _ ho (fun e => ?_) (fun e => ?_) hk (fun cs' fz' e => by cases e)
  · obtain ⟨vp, hp, _⟩ := hm.mach
    rw [e, hp] at ho
    cases ho
  · obtain ⟨i, hi, hb⟩ := List.mem_iff_getElem.1 e
    have hx : i < nm.length := by rw [← hm.lenb]; exact hi
    have hv : i < s.vs.length := by rw [hm.lens]; exact hx
    have hh := hm.var i k _ _ (by rw [← hb]; exact List.getElem?_eq_getElem hi) (List.getElem?_eq_getElem hx) (List.getElem?_eq_getElem hv)
    rw [VrAt, ho] at hh
    cases hh
theorem OwM.keep {c : Cfg} {nm : List (ByteArray × ByteArray)} {s : Rn.Sta} {ob : Option Nat} {w w' : World} {b n : Nat} {o : Rn.Own} (h : OwM w b n o) (hk : Kp c ob w w') (hm : MaAt w c nm s) (hb : some b ≠ ob) : OwM w' b n o := by
  obtain ⟨es, cl, he⟩ := h.isMap
  exact h.same (by rw [hk.map hm he hb, he])
def FrAt (w : World) (c : Cfg) (q a f o : Nat) : Prop := c.n ≤ q ∧ w.heap[q]? = some (.cells #[.pointer (some ⟨c.p, 0, none⟩), .int .i64 a, .int .i64 f, .map (some o)] 234 (0, 0))
theorem FrAt.keep {c : Cfg} {nm : List (ByteArray × ByteArray)} {s : Rn.Sta} {ob : Option Nat} {w w' : World} {q a f o b n : Nat} {ow : Rn.Own} (h : FrAt w c q a f o) (hk : Kp c ob w w') (hm : MaAt w c nm s) (ho : ob = none ∨ ob = some b) (hb : OwM w b n ow) : FrAt w' c q a f o := by
  refine ⟨h.1, hk.cells hm h.2 (by decide) (by decide) (by decide) ?_⟩
  rcases ho with rfl | rfl
  · simp
  · intro e
    injection e with e
    obtain ⟨es, cl, he⟩ := hb.isMap
    have := h.2
    rw [e, he] at this
    cases this
theorem MaAt.below {w w' : World} {c : Cfg} {nm : List (ByteArray × ByteArray)} {s : Rn.Sta} (h : MaAt w c nm s) (hb : Below w.heap.size w w') : MaAt w' c nm s := by
  have up' : ∀ {k : Nat} {ob : Obj}, w.heap[k]? = some ob → w'.heap[k]? = some ob := fun ho => by rw [hb.block _ (block_lt ho)]; exact ho
  obtain ⟨vp, h1, h2⟩ := h.mach
  obtain ⟨es, cl, he⟩ := h.map.isMap
  exact ⟨h.base, ⟨vp, up' h1, h2.below hb⟩, h.lenb, h.lens, fun i b x v k1 k2 k3 => up' (h.var i b x v k1 k2 k3), h.bsn, h.val, h.nodup, h.map.same (by rw [up' he, he]), h.mpn, h.room, h.prs⟩
theorem MaAt.drewN {w : World} {c : Cfg} {nm : List (ByteArray × ByteArray)} {s : Rn.Sta} (h : MaAt w c nm s) (n : Nat) : MaAt (w.drewN n) c nm s := h.below (below_drew (Below.refl _ _))
theorem MaAt.pne {w : World} {c : Cfg} {nm : List (ByteArray × ByteArray)} {s : Rn.Sta} (h : MaAt w c nm s) : c.p ∉ c.bs := fun e => by
  obtain ⟨i, hi, hb⟩ := List.mem_iff_getElem.1 e
  have hx : i < nm.length := by rw [← h.lenb]; exact hi
  have hv : i < s.vs.length := by rw [h.lens]; exact hx
  have hh := h.var i c.p _ _ (by rw [← hb]; exact List.getElem?_eq_getElem hi) (List.getElem?_eq_getElem hx) (List.getElem?_eq_getElem hv)
  obtain ⟨vp, hp, _⟩ := h.mach
  rw [VrAt, hp] at hh
  injection hh with hh
  injection hh with _ hh
  exact absurd hh (by decide)
theorem MaAt.cell {w : World} {c : Cfg} {nm : List (ByteArray × ByteArray)} {s : Rn.Sta} (h : MaAt w c nm s) : ∃ vp, w.cell? ⟨c.p, 0, none⟩ = some c.vl ∧ w.cell? ⟨c.p, 2, none⟩ = some (.map (some c.mp)) ∧ w.cell? ⟨c.p, 3, none⟩ = some (.int .i64 s.fuel) ∧ w.cell? ⟨c.p, 4, none⟩ = some vp ∧ w.frozen? ⟨c.p, 3, none⟩ = false ∧ w.frozen? ⟨c.p, 4, none⟩ = false := by
  obtain ⟨vp, h1, _⟩ := h.mach
  exact ⟨vp, (block_at h1 0).trans rfl, (block_at h1 2).trans rfl, (block_at h1 3).trans rfl, (block_at h1 4).trans rfl, block_free h1 3, block_free h1 4⟩
theorem Kp.setP {c : Cfg} {nm : List (ByteArray × ByteArray)} {s : Rn.Sta} {o : Option Nat} {w : World} (hm : MaAt w c nm s) (i : Nat) (v : Value) : Kp c o w (w.setCell ⟨c.p, i, none⟩ v) :=
  ⟨(Below.refl _ _).setCell hm.base v, fun _ _ ho h1 _ _ _ => block_other ho h1 v⟩
theorem MaAt.setFuel {w : World} {c : Cfg} {nm : List (ByteArray × ByteArray)} {s : Rn.Sta} (h : MaAt w c nm s) {f : Nat} (hf : f ≤ s.fuel) : MaAt (w.setCell ⟨c.p, 3, none⟩ (.int .i64 f)) c nm { s with fuel := f } := by
  obtain ⟨vp, h1, h2⟩ := h.mach
  obtain ⟨es, cl, he⟩ := h.map.isMap
  have hmp : c.mp ≠ c.p := fun e => by rw [e, h1] at he; cases he
  refine ⟨h.base, ⟨vp, (block_set h1 3 _).trans rfl, h2.set (h2.apart h1 (by decide)) _⟩, h.lenb, h.lens, fun i b x v k1 k2 k3 => block_other (h.var i b x v k1 k2 k3) (fun e => h.pne (by have e' : b = c.p := e; rw [← e']; exact List.mem_of_getElem? k1)) _, h.bsn, h.val, h.nodup, h.map.same (by rw [block_other he hmp _, he]), h.mpn, ?_, h.prs⟩
  have := h.room
  show s.pr.length + f ≤ 16777215
  omega
theorem mod_get {α : Type} (l : List α) (i j : Nat) (g : α → α) : (l.modify i g)[j]? = if i = j then l[j]?.map g else l[j]? := by
  rw [List.getElem?_modify]
  by_cases e : i = j <;> simp [e]
theorem MaAt.setVar {w w' : World} {c : Cfg} {nm : List (ByteArray × ByteArray)} {s : Rn.Sta} (h : MaAt w c nm s) {i b : Nat} {x : ByteArray × ByteArray} {v' : Rn.Vr} (hb : c.bs[i]? = some b) (hx : nm[i]? = some x) (g : Rn.Vr → Rn.Vr) {v : Rn.Vr} (hv : s.vs[i]? = some v) (hg : g v = v') (hi : I64 v'.val)
    (h' : VrAt w' b x v') (hk : ∀ k ob, w.heap[k]? = some ob → k ≠ b → w'.heap[k]? = some ob) (hrow : ∀ {vp : Value} {l : List (ByteArray × Int)}, OwnK PrC w c.n 62 2 vp l → OwnK PrC w' c.n 62 2 vp l) : MaAt w' c nm { s with vs := s.vs.modify i g } := by
  obtain ⟨vp, h1, h2⟩ := h.mach
  obtain ⟨es, cl, he⟩ := h.map.isMap
  have hold := h.var i b x v hb hx hv
  have hbp : c.p ≠ b := fun e => h.pne (by rw [e]; exact List.mem_of_getElem? hb)
  have hmb : c.mp ≠ b := fun e => by rw [e, hold] at he; cases he
  refine ⟨h.base, ⟨vp, hk _ _ h1 hbp, hrow h2⟩, h.lenb, by rw [List.length_modify]; exact h.lens, fun j b' x' u k1 k2 k3 => ?_, h.bsn, fun u hu => ?_, h.nodup, h.map.same (by rw [hk _ _ he hmb, he]), h.mpn, h.room, h.prs⟩
  · rw [show ({ s with vs := s.vs.modify i g } : Rn.Sta).vs = s.vs.modify i g from rfl, mod_get] at k3
    by_cases e : i = j
    · subst e
      rw [hb] at k1
      rw [hx] at k2
      cases k1
      cases k2
      rw [if_pos rfl, hv] at k3
      simp at k3
      rw [hg] at k3
      rw [← k3]
      exact h'
    · rw [if_neg e] at k3
      have hne : b' ≠ b := fun eb => by
        subst eb
        exact e ((List.getElem?_inj (List.getElem?_eq_some_iff.1 hb).1 h.nodup).1 (hb.trans k1.symm))
      exact hk _ _ (h.var j b' x' u k1 k2 k3) hne
  · obtain ⟨j, k3⟩ := List.mem_iff_getElem?.1 hu
    rw [show ({ s with vs := s.vs.modify i g } : Rn.Sta).vs = s.vs.modify i g from rfl, mod_get] at k3
    by_cases e : i = j
    · subst e
      rw [if_pos rfl, hv] at k3
      simp at k3
      rw [← k3, hg]
      exact hi
    · rw [if_neg e] at k3
      exact h.val u (List.mem_of_getElem? k3)
theorem PrC.one {c : List Value} {d : ByteArray × Int} (h : PrC c d) : ∀ u ∈ c, u.oneCell' = true := by
  unfold PrC at h
  subst h
  intro u hu
  simp at hu
  rcases hu with rfl | rfl <;> rfl
theorem infoPr : (Tryz.prog.info? 62).map (fun i => (i.zero, i.size, i.bytes)) = some (some (.agg #[.string ⟨#[]⟩, .int .i64 0]), 2, 24) := by kernel_rfl
theorem step_append_K {α : Type} {At : List Value → α → Prop} {w : World} {ops : Array Oper} {o : Oper} {a : Act} {K : Act → World → Prop} {Q : Exit → Act → World → Prop} {E : Prop} (hgd : o.guard = none) (s x : Operand) (t e k bytes : Nat) (z : Value)
    (ho : o.op = .call { callee := .builtin .append, args := #[s, x], argTypes := #[t, t] }) (ht : Tryz.prog.underlying t = some (.slice e)) (hinfo : (Tryz.prog.info? e).map (fun i => (i.zero, i.size, i.bytes)) = some (some z, k, bytes)) (hzs : z.cells.size = k) (hk : 0 < k) (hby : bytes ≤ 1024)
    (n : Nat) (v : Value) (l : List α) (hs : a.eval s = v) (hown : OwnK At w n e k v l) (B : Nat) (c : List Value) (y : α) (hx : a.eval x = .slice (some ⟨B, 0, none⟩) 1 1)
    (hc : ∀ (j : Nat) u, c[j]? = some u → w.cell? ⟨B, j, none⟩ = some u) (hck : c.length = k) (h1 : ∀ u ∈ c, u.oneCell' = true) (hat : At c y) (hl : l.length ≤ 16777216) (hbase : n ≤ w.heap.size)
    (h : ∀ g cap w', OwnK At w' n e k (.slice (some ⟨g, 0, none⟩) (l.length + 1) cap) (l ++ [y]) → w.grownBy w' v.ownBlock → K (a.put o.dst (.slice (some ⟨g, 0, none⟩) (l.length + 1) cap)) w') :
    if Region.wanted o (yielded ops a.tmps) = true then Oper.wp Tryz.prog o a w K Q else E := by
  obtain ⟨iS, hiS, hz0, hz1, hz2⟩ := info_parts hinfo
  obtain ⟨cs, hr, k1, k2, k3, _⟩ := hown
  refine step_append_lies w hgd s x t ho n e iS z k bytes ht hiS hz0 hz1 hz2 hzs hk v l.length cs.flatten hs hr ⟨B, 0, none⟩ 1 1 c hx (by rw [hck, Nat.one_mul]) (fun j u hu => by rw [Addr.add_lit, Nat.zero_add]; exact hc j u hu) h1 (by decide) (by unfold maxLen; omega)
    (Nat.le_trans (Nat.mul_le_mul (show l.length + 1 ≤ 16777217 by omega) hby) (by decide)) hbase w.heap.size rfl ?_
  intro g cap w' h1' h2 h3 _
  refine h g cap w' ⟨cs ++ [c], ?_, by simp [k1], fun d hd => ?_, fun i d u hd hu => ?_, fun e => by simp at e⟩ h2
  · rw [List.flatten_append, List.length_append]
    simpa using h1'
  · rcases List.mem_append.1 hd with hd | hd
    · exact k2 d hd
    · simp at hd
      subst hd
      exact ⟨hck, h1⟩
  · by_cases hi : i < l.length
    · rw [List.getElem?_append_left (by omega)] at hd
      rw [List.getElem?_append_left hi] at hu
      exact k3 i d u hd hu
    · rw [List.getElem?_append_right (by omega)] at hd
      rw [List.getElem?_append_right (by omega)] at hu
      have hi0 : i - l.length = 0 := by
        have := (List.getElem?_eq_some_iff.1 hu).1
        simp at this
        omega
      rw [k1, hi0] at hd
      rw [hi0] at hu
      simp at hd hu
      subst hd hu
      exact hat
theorem MaAt.push {w w7 : World} {c : Cfg} {nm : List (ByteArray × ByteArray)} {s : Rn.Sta} {vp v7 : Value} {d : ByteArray × Int} {ob : Obj} (h : MaAt w c nm s) (hp : w.heap[c.p]? = some (.cells #[c.vl, c.vv, .map (some c.mp), .int .i64 s.fuel, vp] 227 (0, 0))) (hv : OwnK PrC w c.n 62 2 vp s.pr)
    (hown : OwnK PrC w7 c.n 62 2 v7 (s.pr ++ [d])) (hg : (w.alloc ob).grownBy w7 vp.ownBlock) (hr : s.pr.length + 1 + s.fuel ≤ 16777215) (hn : c.n ≤ w.heap.size) (hd8 : d.1.size ≤ 8) :
    w7.heap[c.p]? = some (.cells #[c.vl, c.vv, .map (some c.mp), .int .i64 s.fuel, vp] 227 (0, 0)) ∧ MaAt (w7.setCell ⟨c.p, 4, none⟩ v7) c nm { s with pr := s.pr ++ [d] } ∧ Kp c none w (w7.setCell ⟨c.p, 4, none⟩ v7) ∧
    (∀ {k : Nat} {cs : Array Value} {t : TypeId} {fz : Nat × Nat}, w.heap[k]? = some (.cells cs t fz) → t ≠ 62 → w7.heap[k]? = some (.cells cs t fz)) := by
  have cne : ∀ {k : Nat} {ob' : Obj}, w.heap[k]? = some ob' → (∀ cs fz, ob' ≠ .cells cs 62 fz) → w7.heap[k]? = some ob' := fun {k ob'} ho ht => by
    rw [hg.block k (by have := block_lt ho; have := (boxBelow w ob).size; omega) (fun e => by
      obtain ⟨cur, hc⟩ := hv.typ e.symm
      rw [ho] at hc
      injection hc with hc
      exact ht _ _ hc)]
    exact block_alloc ho ob
  have cel : ∀ {k : Nat} {cs : Array Value} {t : TypeId} {fz : Nat × Nat}, w.heap[k]? = some (.cells cs t fz) → t ≠ 62 → w7.heap[k]? = some (.cells cs t fz) := fun ho ht => cne ho (fun cs' fz' e => by injection e with _ e; exact ht e)
  have hp7 := cel hp (by decide)
  obtain ⟨es, cl, he⟩ := h.map.isMap
  have he7 := cne he (fun _ _ e => by cases e)
  have hmp : c.mp ≠ c.p := fun e => by rw [e, hp] at he; cases he
  refine ⟨hp7, ⟨h.base, ⟨v7, (block_set hp7 4 _).trans rfl, hown.set (hown.apart hp7 (by decide)) _⟩, h.lenb, h.lens, fun i b x v k1 k2 k3 => block_other (cel (h.var i b x v k1 k2 k3) (by decide)) (fun e => h.pne (by have e' : b = c.p := e; rw [← e']; exact List.mem_of_getElem? k1)) _, h.bsn, h.val, h.nodup, h.map.same (by rw [block_other he7 hmp _, he]), h.mpn, ?_, fun d' hd' => by
    rcases List.mem_append.1 hd' with h' | h'
    · exact h.prs d' h'
    · rw [List.mem_singleton] at h'; subst h'; exact hd8⟩, ?_, cel⟩
  · show (s.pr ++ [d]).length + s.fuel ≤ 16777215
    rw [List.length_append, List.length_singleton]
    exact hr
  · refine ⟨?_, fun k ob' ho h1 _ _ h4 => block_other (cne ho h4) h1 _⟩
    have hb7 : Below c.n w w7 := ((boxBelow w ob).mono hn).grown hg (Nat.le_trans hn (boxBelow w ob).size) (fun k e => (hv.lt k e).1)
    exact hb7.setCell h.base _
end Go.Proofs.YtholefgckcoklaaGreatDoor
