/- Running functions: how the machine, its variables and a call's frame lie in memory, and what stays. -/
import Derived.Test.YtnheahdcfadclaaGreatDoorZAN
namespace Go.Proofs.YtnheahdcfadclaaGreatDoor
open Go.RowKit Go.Maps

/-- Where a run's things lie: from block n on all is the run's own; p the machine; vl, vv its modules and variables; mp the places (of at most e entries); bs the variables' blocks. -/
structure Cfg where
  n : Nat
  p : Nat
  vl : Value
  vv : Value
  mp : Nat
  e : Nat
  bs : List Nat
def VrAt (w : World) (b : Nat) (x : ByteArray × ByteArray) (v : Rn.Vr) : Prop := w.heap[b]? = some (.cells #[.string x.1, .string x.2, .int .i64 v.val, .bool v.rd, .bool v.st] 236 (0, 0))
def PrC (c : List Value) (d : ByteArray × Int) : Prop := c = [.string d.1, .int .i64 d.2]
structure MaAt (w : World) (c : Cfg) (nm : List (ByteArray × ByteArray)) (s : Rn.Sta) : Prop where
  base : c.n ≤ c.p
  mach : ∃ vp, w.heap[c.p]? = some (.cells #[c.vl, c.vv, .map (some c.mp), .int .i64 s.fuel, vp] 224 (0, 0)) ∧ OwnK PrC w c.n 62 2 vp s.pr
  lenb : c.bs.length = nm.length
  lens : s.vs.length = nm.length
  var : ∀ (i b : Nat) (x : ByteArray × ByteArray) (v : Rn.Vr), c.bs[i]? = some b → nm[i]? = some x → s.vs[i]? = some v → VrAt w b x v
  bsn : ∀ b ∈ c.bs, c.n ≤ b
  val : ∀ v ∈ s.vs, I64 v.val
  nodup : c.bs.Nodup
  map : PlM w c.mp c.e nm c.bs
  mpn : c.n ≤ c.mp
  room : s.pr.length + s.fuel ≤ 16777215
  prs : ∀ d ∈ s.pr, d.1.size ≤ 8

/-- All stays but the machine, its variables, rows of prints and block o. -/
structure Kp (c : Cfg) (o : Option Nat) (w w' : World) : Prop where
  below : Below c.n w w'
  block : ∀ k ob, w.heap[k]? = some ob → k ≠ c.p → k ∉ c.bs → some k ≠ o → (∀ cs fz, ob ≠ .cells cs 62 fz) → w'.heap[k]? = some ob
theorem Kp.refl (c : Cfg) (o : Option Nat) (w : World) : Kp c o w w := ⟨Below.refl _ _, fun _ _ h _ _ _ _ => h⟩
theorem Kp.trans {c : Cfg} {o : Option Nat} {a b d : World} (h : Kp c o a b) (k : Kp c o b d) : Kp c o a d :=
  ⟨h.below.trans k.below, fun i ob ho h1 h2 h3 h4 => k.block i ob (h.block i ob ho h1 h2 h3 h4) h1 h2 h3 h4⟩
theorem Kp.more {c : Cfg} {o : Option Nat} {w w' : World} (h : Kp c none w w') : Kp c o w w' := ⟨h.below, fun k ob ho h1 h2 _ h4 => h.block k ob ho h1 h2 (by simp) h4⟩
theorem Kp.of_below {c : Cfg} {o : Option Nat} {w w' : World} (h : Below w.heap.size w w') (hn : c.n ≤ w.heap.size) : Kp c o w w' :=
  ⟨h.mono hn, fun k ob ho _ _ _ _ => by rw [h.block k (block_lt ho)]; exact ho⟩
theorem Kp.drewN {c : Cfg} {o : Option Nat} {w w' : World} (h : Kp c o w w') (n : Nat) : Kp c o w (w'.drewN n) := ⟨drewBelow h.below n, h.block⟩
/-- A block that was made behind the world where it began may turn. -/
theorem Kp.fresh {c : Cfg} {b : Nat} {w w' : World} (h : Kp c (some b) w w') (hb : w.heap.size ≤ b) : Kp c none w w' :=
  ⟨h.below, fun k ob ho h1 h2 _ h4 => h.block k ob ho h1 h2 (fun e => by injection e with e; have := block_lt ho; omega) h4⟩
/-- A frame's block, and a map's, stay. -/
theorem Kp.cells {c : Cfg} {nm : List (ByteArray × ByteArray)} {s : Rn.Sta} {o : Option Nat} {w w' : World} (h : Kp c o w w') (hm : MaAt w c nm s) {k : Nat} {cs : Array Value} {t : TypeId} {fz : Nat × Nat} (ho : w.heap[k]? = some (.cells cs t fz))
    (ht : t ≠ 62) (h1 : t ≠ 224) (h2 : t ≠ 236) (hk : some k ≠ o) : w'.heap[k]? = some (.cells cs t fz) := by
  refine h.block k _ ho (fun e => ?_) (fun e => ?_) hk (fun cs' fz' e => by injection e with _ e; exact ht e)
  · obtain ⟨vp, hp, _⟩ := hm.mach
    rw [e, hp] at ho
    injection ho with ho
    injection ho with _ ho
    exact h1 ho.symm
  · obtain ⟨i, hi, hb⟩ := List.mem_iff_getElem.1 e
    have hx : i < nm.length := by rw [← hm.lenb]; exact hi
    have hv : i < s.vs.length := by rw [hm.lens]; exact hx
    have hh := hm.var i k _ _ (by rw [← hb]; exact List.getElem?_eq_getElem hi) (List.getElem?_eq_getElem hx) (List.getElem?_eq_getElem hv)
    rw [VrAt, ho] at hh
    injection hh with hh
    injection hh with _ hh
    exact h2 hh
theorem Kp.map {c : Cfg} {nm : List (ByteArray × ByteArray)} {s : Rn.Sta} {o : Option Nat} {w w' : World} (h : Kp c o w w') (hm : MaAt w c nm s) {k : Nat} {es : Array MapEntry} {cl : Nat} (ho : w.heap[k]? = some (.map es cl)) (hk : some k ≠ o) : w'.heap[k]? = some (.map es cl) := by
  refine h.block k _ ho (fun e => ?_) (fun e => ?_) hk (fun cs' fz' e => by cases e)
  · obtain ⟨vp, hp, _⟩ := hm.mach
    rw [e, hp] at ho
    cases ho
  · obtain ⟨i, hi, hb⟩ := List.mem_iff_getElem.1 e
    have hx : i < nm.length := by rw [← hm.lenb]; exact hi
    have hv : i < s.vs.length := by rw [hm.lens]; exact hx
    have hh := hm.var i k _ _ (by rw [← hb]; exact List.getElem?_eq_getElem hi) (List.getElem?_eq_getElem hx) (List.getElem?_eq_getElem hv)
    rw [VrAt, ho] at hh
    cases hh
theorem OwM.keep {c : Cfg} {nm : List (ByteArray × ByteArray)} {s : Rn.Sta} {ob : Option Nat} {w w' : World} {b n : Nat} {o : Rn.Own} (h : OwM w b n o) (hk : Kp c ob w w') (hm : MaAt w c nm s) (hb : some b ≠ ob) : OwM w' b n o := by
  obtain ⟨es, cl, he⟩ := h.isMap
  exact h.same (by rw [hk.map hm he hb, he])

/-- A frame: of function f of module a, its own names in block o. -/
def FrAt (w : World) (c : Cfg) (q a f o : Nat) : Prop := c.n ≤ q ∧ w.heap[q]? = some (.cells #[.pointer (some ⟨c.p, 0, none⟩), .int .i64 a, .int .i64 f, .map (some o)] 231 (0, 0))
theorem FrAt.keep {c : Cfg} {nm : List (ByteArray × ByteArray)} {s : Rn.Sta} {ob : Option Nat} {w w' : World} {q a f o b n : Nat} {ow : Rn.Own} (h : FrAt w c q a f o) (hk : Kp c ob w w') (hm : MaAt w c nm s) (ho : ob = none ∨ ob = some b) (hb : OwM w b n ow) : FrAt w' c q a f o := by
  refine ⟨h.1, hk.cells hm h.2 (by decide) (by decide) (by decide) ?_⟩
  rcases ho with rfl | rfl
  · simp
  · intro e
    injection e with e
    obtain ⟨es, cl, he⟩ := hb.isMap
    have := h.2
    rw [e, he] at this
    cases this

/-! ### What stays of the machine -/
theorem MaAt.below {w w' : World} {c : Cfg} {nm : List (ByteArray × ByteArray)} {s : Rn.Sta} (h : MaAt w c nm s) (hb : Below w.heap.size w w') : MaAt w' c nm s := by
  have up' : ∀ {k : Nat} {ob : Obj}, w.heap[k]? = some ob → w'.heap[k]? = some ob := fun ho => by rw [hb.block _ (block_lt ho)]; exact ho
  obtain ⟨vp, h1, h2⟩ := h.mach
  obtain ⟨es, cl, he⟩ := h.map.isMap
  exact ⟨h.base, ⟨vp, up' h1, h2.below hb⟩, h.lenb, h.lens, fun i b x v k1 k2 k3 => up' (h.var i b x v k1 k2 k3), h.bsn, h.val, h.nodup, h.map.same (by rw [up' he, he]), h.mpn, h.room, h.prs⟩
theorem MaAt.drewN {w : World} {c : Cfg} {nm : List (ByteArray × ByteArray)} {s : Rn.Sta} (h : MaAt w c nm s) (n : Nat) : MaAt (w.drewN n) c nm s := h.below (below_drew (Below.refl _ _))
theorem MaAt.pne {w : World} {c : Cfg} {nm : List (ByteArray × ByteArray)} {s : Rn.Sta} (h : MaAt w c nm s) : c.p ∉ c.bs := fun e => by
  obtain ⟨i, hi, hb⟩ := List.mem_iff_getElem.1 e
  have hx : i < nm.length := by rw [← h.lenb]; exact hi
  have hv : i < s.vs.length := by rw [h.lens]; exact hx
  have hh := h.var i c.p _ _ (by rw [← hb]; exact List.getElem?_eq_getElem hi) (List.getElem?_eq_getElem hx) (List.getElem?_eq_getElem hv)
  obtain ⟨vp, hp, _⟩ := h.mach
  rw [VrAt, hp] at hh
  injection hh with hh
  injection hh with _ hh
  exact absurd hh (by decide)
theorem MaAt.cell {w : World} {c : Cfg} {nm : List (ByteArray × ByteArray)} {s : Rn.Sta} (h : MaAt w c nm s) : ∃ vp, w.cell? ⟨c.p, 0, none⟩ = some c.vl ∧ w.cell? ⟨c.p, 2, none⟩ = some (.map (some c.mp)) ∧ w.cell? ⟨c.p, 3, none⟩ = some (.int .i64 s.fuel) ∧ w.cell? ⟨c.p, 4, none⟩ = some vp ∧ w.frozen? ⟨c.p, 3, none⟩ = false ∧ w.frozen? ⟨c.p, 4, none⟩ = false := by
  obtain ⟨vp, h1, _⟩ := h.mach
  exact ⟨vp, (block_at h1 0).trans rfl, (block_at h1 2).trans rfl, (block_at h1 3).trans rfl, (block_at h1 4).trans rfl, block_free h1 3, block_free h1 4⟩
/-- A cell of the machine's own block is set. -/
theorem Kp.setP {c : Cfg} {nm : List (ByteArray × ByteArray)} {s : Rn.Sta} {o : Option Nat} {w : World} (hm : MaAt w c nm s) (i : Nat) (v : Value) : Kp c o w (w.setCell ⟨c.p, i, none⟩ v) :=
  ⟨(Below.refl _ _).setCell hm.base v, fun _ _ ho h1 _ _ _ => block_other ho h1 v⟩
/-- Fuel is set. -/
theorem MaAt.setFuel {w : World} {c : Cfg} {nm : List (ByteArray × ByteArray)} {s : Rn.Sta} (h : MaAt w c nm s) {f : Nat} (hf : f ≤ s.fuel) : MaAt (w.setCell ⟨c.p, 3, none⟩ (.int .i64 f)) c nm { s with fuel := f } := by
  obtain ⟨vp, h1, h2⟩ := h.mach
  obtain ⟨es, cl, he⟩ := h.map.isMap
  have hmp : c.mp ≠ c.p := fun e => by rw [e, h1] at he; cases he
  refine ⟨h.base, ⟨vp, (block_set h1 3 _).trans rfl, h2.set (h2.apart h1 (by decide)) _⟩, h.lenb, h.lens, fun i b x v k1 k2 k3 => block_other (h.var i b x v k1 k2 k3) (fun e => h.pne (by have e' : b = c.p := e; rw [← e']; exact List.mem_of_getElem? k1)) _, h.bsn, h.val, h.nodup, h.map.same (by rw [block_other he hmp _, he]), h.mpn, ?_, h.prs⟩
  have := h.room
  show s.pr.length + f ≤ 16777215
  omega
theorem mod_get {α : Type} (l : List α) (i j : Nat) (g : α → α) : (l.modify i g)[j]? = if i = j then l[j]?.map g else l[j]? := by
  rw [List.getElem?_modify]
  by_cases e : i = j <;> simp [e]
/-- A variable is turned. -/
theorem MaAt.setVar {w w' : World} {c : Cfg} {nm : List (ByteArray × ByteArray)} {s : Rn.Sta} (h : MaAt w c nm s) {i b : Nat} {x : ByteArray × ByteArray} {v' : Rn.Vr} (hb : c.bs[i]? = some b) (hx : nm[i]? = some x) (g : Rn.Vr → Rn.Vr) {v : Rn.Vr} (hv : s.vs[i]? = some v) (hg : g v = v') (hi : I64 v'.val)
    (h' : VrAt w' b x v') (hk : ∀ k ob, w.heap[k]? = some ob → k ≠ b → w'.heap[k]? = some ob) (hrow : ∀ {vp : Value} {l : List (ByteArray × Int)}, OwnK PrC w c.n 62 2 vp l → OwnK PrC w' c.n 62 2 vp l) : MaAt w' c nm { s with vs := s.vs.modify i g } := by
  obtain ⟨vp, h1, h2⟩ := h.mach
  obtain ⟨es, cl, he⟩ := h.map.isMap
  have hold := h.var i b x v hb hx hv
  have hbp : c.p ≠ b := fun e => h.pne (by rw [e]; exact List.mem_of_getElem? hb)
  have hmb : c.mp ≠ b := fun e => by rw [e, hold] at he; cases he
  refine ⟨h.base, ⟨vp, hk _ _ h1 hbp, hrow h2⟩, h.lenb, by rw [List.length_modify]; exact h.lens, fun j b' x' u k1 k2 k3 => ?_, h.bsn, fun u hu => ?_, h.nodup, h.map.same (by rw [hk _ _ he hmb, he]), h.mpn, h.room, h.prs⟩
  · rw [show ({ s with vs := s.vs.modify i g } : Rn.Sta).vs = s.vs.modify i g from rfl, mod_get] at k3
    by_cases e : i = j
    · subst e
      rw [hb] at k1
      rw [hx] at k2
      cases k1
      cases k2
      rw [if_pos rfl, hv] at k3
      simp at k3
      rw [hg] at k3
      rw [← k3]
      exact h'
    · rw [if_neg e] at k3
      have hne : b' ≠ b := fun eb => by
        subst eb
        exact e ((List.getElem?_inj (List.getElem?_eq_some_iff.1 hb).1 h.nodup).1 (hb.trans k1.symm))
      exact hk _ _ (h.var j b' x' u k1 k2 k3) hne
  · obtain ⟨j, k3⟩ := List.mem_iff_getElem?.1 hu
    rw [show ({ s with vs := s.vs.modify i g } : Rn.Sta).vs = s.vs.modify i g from rfl, mod_get] at k3
    by_cases e : i = j
    · subst e
      rw [if_pos rfl, hv] at k3
      simp at k3
      rw [← k3, hg]
      exact hi
    · rw [if_neg e] at k3
      exact h.val u (List.mem_of_getElem? k3)

theorem PrC.one {c : List Value} {d : ByteArray × Int} (h : PrC c d) : ∀ u ∈ c, u.oneCell' = true := by
  unfold PrC at h
  subst h
  intro u hu
  simp at hu
  rcases hu with rfl | rfl <;> rfl
theorem infoPr : (Tryz.prog.info? 62).map (fun i => (i.zero, i.size, i.bytes)) = some (some (.agg #[.string ⟨#[]⟩, .int .i64 0]), 2, 24) := by kernel_rfl
/-- append of one element to a row of the call's own, at a step of a region that draws its order. -/
theorem step_append_K {α : Type} {At : List Value → α → Prop} {w : World} {ops : Array Oper} {o : Oper} {a : Act} {K : Act → World → Prop} {Q : Exit → Act → World → Prop} {E : Prop} (hgd : o.guard = none) (s x : Operand) (t e k bytes : Nat) (z : Value)
    (ho : o.op = .call { callee := .builtin .append, args := #[s, x], argTypes := #[t, t] }) (ht : Tryz.prog.underlying t = some (.slice e)) (hinfo : (Tryz.prog.info? e).map (fun i => (i.zero, i.size, i.bytes)) = some (some z, k, bytes)) (hzs : z.cells.size = k) (hk : 0 < k) (hby : bytes ≤ 1024)
    (n : Nat) (v : Value) (l : List α) (hs : a.eval s = v) (hown : OwnK At w n e k v l) (B : Nat) (c : List Value) (y : α) (hx : a.eval x = .slice (some ⟨B, 0, none⟩) 1 1)
    (hc : ∀ (j : Nat) u, c[j]? = some u → w.cell? ⟨B, j, none⟩ = some u) (hck : c.length = k) (h1 : ∀ u ∈ c, u.oneCell' = true) (hat : At c y) (hl : l.length ≤ 16777216) (hbase : n ≤ w.heap.size)
    (h : ∀ g cap w', OwnK At w' n e k (.slice (some ⟨g, 0, none⟩) (l.length + 1) cap) (l ++ [y]) → w.grownBy w' v.ownBlock → K (a.put o.dst (.slice (some ⟨g, 0, none⟩) (l.length + 1) cap)) w') :
    if Region.wanted o (yielded ops a.tmps) = true then Oper.wp Tryz.prog o a w K Q else E := by
  obtain ⟨iS, hiS, hz0, hz1, hz2⟩ := info_parts hinfo
  obtain ⟨cs, hr, k1, k2, k3, _⟩ := hown
  refine step_append_lies w hgd s x t ho n e iS z k bytes ht hiS hz0 hz1 hz2 hzs hk v l.length cs.flatten hs hr ⟨B, 0, none⟩ 1 1 c hx (by rw [hck, Nat.one_mul]) (fun j u hu => by rw [Addr.add_lit, Nat.zero_add]; exact hc j u hu) h1 (by decide) (by unfold maxLen; omega)
    (Nat.le_trans (Nat.mul_le_mul (show l.length + 1 ≤ 16777217 by omega) hby) (by decide)) hbase w.heap.size rfl ?_
  intro g cap w' h1' h2 h3 _
  refine h g cap w' ⟨cs ++ [c], ?_, by simp [k1], fun d hd => ?_, fun i d u hd hu => ?_, fun e => by simp at e⟩ h2
  · rw [List.flatten_append, List.length_append]
    simpa using h1'
  · rcases List.mem_append.1 hd with hd | hd
    · exact k2 d hd
    · simp at hd
      subst hd
      exact ⟨hck, h1⟩
  · by_cases hi : i < l.length
    · rw [List.getElem?_append_left (by omega)] at hd
      rw [List.getElem?_append_left hi] at hu
      exact k3 i d u hd hu
    · rw [List.getElem?_append_right (by omega)] at hd
      rw [List.getElem?_append_right (by omega)] at hu
      have hi0 : i - l.length = 0 := by
        have := (List.getElem?_eq_some_iff.1 hu).1
        simp at this
        omega
      rw [k1, hi0] at hd
      rw [hi0] at hu
      simp at hd hu
      subst hd hu
      exact hat
/-- Something was printed. -/
theorem MaAt.push {w w7 : World} {c : Cfg} {nm : List (ByteArray × ByteArray)} {s : Rn.Sta} {vp v7 : Value} {d : ByteArray × Int} {ob : Obj} (h : MaAt w c nm s) (hp : w.heap[c.p]? = some (.cells #[c.vl, c.vv, .map (some c.mp), .int .i64 s.fuel, vp] 224 (0, 0))) (hv : OwnK PrC w c.n 62 2 vp s.pr)
    (hown : OwnK PrC w7 c.n 62 2 v7 (s.pr ++ [d])) (hg : (w.alloc ob).grownBy w7 vp.ownBlock) (hr : s.pr.length + 1 + s.fuel ≤ 16777215) (hn : c.n ≤ w.heap.size) (hd8 : d.1.size ≤ 8) :
    w7.heap[c.p]? = some (.cells #[c.vl, c.vv, .map (some c.mp), .int .i64 s.fuel, vp] 224 (0, 0)) ∧ MaAt (w7.setCell ⟨c.p, 4, none⟩ v7) c nm { s with pr := s.pr ++ [d] } ∧ Kp c none w (w7.setCell ⟨c.p, 4, none⟩ v7) ∧
    (∀ {k : Nat} {cs : Array Value} {t : TypeId} {fz : Nat × Nat}, w.heap[k]? = some (.cells cs t fz) → t ≠ 62 → w7.heap[k]? = some (.cells cs t fz)) := by
  have cne : ∀ {k : Nat} {ob' : Obj}, w.heap[k]? = some ob' → (∀ cs fz, ob' ≠ .cells cs 62 fz) → w7.heap[k]? = some ob' := fun {k ob'} ho ht => by
    rw [hg.block k (by have := block_lt ho; have := (boxBelow w ob).size; omega) (fun e => by
      obtain ⟨cur, hc⟩ := hv.typ e.symm
      rw [ho] at hc
      injection hc with hc
      exact ht _ _ hc)]
    exact block_alloc ho ob
  have cel : ∀ {k : Nat} {cs : Array Value} {t : TypeId} {fz : Nat × Nat}, w.heap[k]? = some (.cells cs t fz) → t ≠ 62 → w7.heap[k]? = some (.cells cs t fz) := fun ho ht => cne ho (fun cs' fz' e => by injection e with _ e; exact ht e)
  have hp7 := cel hp (by decide)
  obtain ⟨es, cl, he⟩ := h.map.isMap
  have he7 := cne he (fun _ _ e => by cases e)
  have hmp : c.mp ≠ c.p := fun e => by rw [e, hp] at he; cases he
  refine ⟨hp7, ⟨h.base, ⟨v7, (block_set hp7 4 _).trans rfl, hown.set (hown.apart hp7 (by decide)) _⟩, h.lenb, h.lens, fun i b x v k1 k2 k3 => block_other (cel (h.var i b x v k1 k2 k3) (by decide)) (fun e => h.pne (by have e' : b = c.p := e; rw [← e']; exact List.mem_of_getElem? k1)) _, h.bsn, h.val, h.nodup, h.map.same (by rw [block_other he7 hmp _, he]), h.mpn, ?_, fun d' hd' => by
    rcases List.mem_append.1 hd' with h' | h'
    · exact h.prs d' h'
    · rw [List.mem_singleton] at h'; subst h'; exact hd8⟩, ?_, cel⟩
  · show (s.pr ++ [d]).length + s.fuel ≤ 16777215
    rw [List.length_append, List.length_singleton]
    exact hr
  · refine ⟨?_, fun k ob' ho h1 _ _ h4 => block_other (cne ho h4) h1 _⟩
    have hb7 : Below c.n w w7 := ((boxBelow w ob).mono hn).grown hg (Nat.le_trans hn (boxBelow w ob).size) (fun k e => (hv.lt k e).1)
    exact hb7.setCell h.base _

end Go.Proofs.YtnheahdcfadclaaGreatDoor

/- Walks over package run: burn, truth, apply. -/
namespace Go.Proofs.YtnheahdcfadclaaGreatDoor
open Go.RowKit Go.Maps

set_option maxHeartbeats 2000000 in
theorem burn_any (w : World) (c : Cfg) (nm : List (ByteArray × ByteArray)) (s : Rn.Sta) (h : MaAt w c nm s) :
    Calls Tryz.prog 248 #[.pointer (some ⟨c.p, 0, none⟩)] w fun e w' => e = .returned (.int .i64 (Rn.burnE s)) ∧ Hid (MaAt w' c nm (Rn.burnS s) ∧ Kp c none w w') := by
  have HM := hide h
  have hr := h.room
  obtain ⟨vp, c0, c2, c3, c4, f3, f4⟩ := h.cell
  obtain ⟨fu, hfu⟩ : ∃ n, n = s.fuel := ⟨_, rfl⟩
  have HFU := hide hfu
  rw [← hfu] at c3
  obtain ⟨E, hE⟩ : ∃ E, E = Rn.burnE s := ⟨_, rfl⟩
  have HE := hide hE
  rw [← hE]
  by_cases h0 : fu = 0
  · have hb := Rn.burn_zero (s := s) (by omega)
    have HB := hide hb
    subst h0
    clear hfu hE hb h
    go_enter Tryz.func248, Tryz.ntmps248
    go_wp2_with fail
    go_ret
    exact ⟨ret_int (by rw [HE.out, HB.out.2.1]), hide ⟨by rw [HB.out.2.2]; exact HM.out, Kp.refl _ _ _⟩⟩
  · obtain ⟨k, rfl⟩ : ∃ k, fu = k + 1 := ⟨fu - 1, by omega⟩
    have HB := hide (Rn.burn_pos (s := s) (by omega))
    have hk : k + 1 ≤ 16777215 := by omega
    have hz : (((k + 1 : Nat) : Int) == 0) = false := by rw [beq_eq_false_iff_ne]; omega
    have HS := hide (HM.out.setFuel (f := k) (by omega))
    have HSE : Hid (Rn.burnS s = { s with fuel := k }) := hide (by unfold Rn.burnS; rw [← hfu]; rfl)
    have HKP := hide (Kp.setP (o := none) HM.out 3 (.int .i64 (k : Int)))
    clear hfu hr h0 hE h
    go_enter Tryz.func248, Tryz.ntmps248
    go_wp2_with fail
    go_ret
    exact ⟨ret_int (by rw [HE.out, HB.out.2]), hide ⟨by rw [HSE.out]; exact HS.out, HKP.out⟩⟩

theorem truth_any (w : World) (b : Bool) : Calls Tryz.prog 252 #[.bool b] w fun e w' => e = .returned (.int .i64 (Rn.tr b)) ∧ w' = w := by
  cases b <;>
  · go_enter Tryz.func252, Tryz.ntmps252
    go_wp2_with fail
    go_ret
    exact ⟨rfl, rfl⟩

set_option maxHeartbeats 2000000 in
theorem apply_any (w : World) (op : ByteArray) (a b : Int) : Calls Tryz.prog 207 #[.string op, .int .i64 a, .int .i64 b] w fun e w' => e = .returned (.int .i64 (Rn.ap op a b)) ∧ w' = w := by
  obtain ⟨R, hR⟩ : ∃ R, R = Rn.ap op a b := ⟨_, rfl⟩
  rw [← hR]
  unfold Rn.ap at hR
  have HT := hide (fun b => truth_any w b)
  cases h1 : (op.toList == [43])
  · cases h2 : (op.toList == [45])
    · cases h3 : (op.toList == [42])
      · cases h4 : (op.toList == [60])
        · rw [h1, h2, h3, h4, if_neg (by simp), if_neg (by simp), if_neg (by simp), if_neg (by simp)] at hR
          subst hR
          go_enter Tryz.func207, Tryz.ntmps207
          go_wp2_with fail
          refine (HT.out _).mono ?_
          rintro e w1 ⟨rfl, rfl⟩
          go_wp2_with fail
          go_ret
          exact ⟨rfl, rfl⟩
        · rw [h1, h2, h3, h4, if_neg (by simp), if_neg (by simp), if_neg (by simp), if_pos rfl] at hR
          subst hR
          go_enter Tryz.func207, Tryz.ntmps207
          go_wp2_with fail
          refine (HT.out _).mono ?_
          rintro e w1 ⟨rfl, rfl⟩
          go_wp2_with fail
          go_ret
          exact ⟨rfl, rfl⟩
      · rw [h1, h2, h3, if_neg (by simp), if_neg (by simp), if_pos rfl] at hR
        subst hR
        go_enter Tryz.func207, Tryz.ntmps207
        go_wp2_with fail
        go_ret
        exact ⟨rfl, rfl⟩
    · rw [h1, h2, if_neg (by simp), if_pos rfl] at hR
      subst hR
      go_enter Tryz.func207, Tryz.ntmps207
      go_wp2_with fail
      go_ret
      exact ⟨rfl, rfl⟩
  · rw [h1, if_pos rfl] at hR
    subst hR
    go_enter Tryz.func207, Tryz.ntmps207
    go_wp2_with fail
    go_ret
    exact ⟨rfl, rfl⟩

end Go.Proofs.YtnheahdcfadclaaGreatDoor

/- Walks over package run: shared, get, put. -/
namespace Go.Proofs.YtnheahdcfadclaaGreatDoor
open Go.RowKit Go.Maps

/-- A frame in a run, with what it reads: the modules, its own module's name. -/
structure Run (W w : World) (c : Cfg) (nm : List (ByteArray × ByteArray)) (l : List Mo) (m : Nat) (s : Rn.Sta) (q a f om n : Nat) (o : Rn.Own) : Prop where
  below : Below c.n W w
  size : c.n = W.heap.size
  mods : MosAt W m c.vl l
  ma : MaAt w c nm s
  fr : FrAt w c q a f om
  ow : OwM w om n o
  omn : c.n ≤ om
  omp : c.mp ≠ om
  alt : a < l.length
  oi : ∀ s v, o s = some v → I64 v
  nb : n + s.fuel ≤ 33554432
theorem FrAt.cell {w : World} {c : Cfg} {q a f o : Nat} (h : FrAt w c q a f o) : w.cell? ⟨q, 0, none⟩ = some (.pointer (some ⟨c.p, 0, none⟩)) ∧ w.cell? ⟨q, 1, none⟩ = some (.int .i64 a) ∧ w.cell? ⟨q, 2, none⟩ = some (.int .i64 f) ∧ w.cell? ⟨q, 3, none⟩ = some (.map (some o)) :=
  ⟨(block_at h.2 0).trans rfl, (block_at h.2 1).trans rfl, (block_at h.2 2).trans rfl, (block_at h.2 3).trans rfl⟩
/-- The modules' cells. -/
theorem Run.mod {W w : World} {c : Cfg} {nm : List (ByteArray × ByteArray)} {l : List Mo} {m : Nat} {s : Rn.Sta} {q a f om n : Nat} {o : Rn.Own} (h : Run W w c nm l m s q a f om n o) :
    ∃ (b off cap : Nat) (x : Mo) (vi vv vf : Value), c.vl = .slice (some ⟨b, off, none⟩) l.length cap ∧ l.length ≤ 9223372036854775807 ∧ l[a]? = some x ∧ w.cell? ⟨b, off + a * 4, none⟩ = some (.string x.name) ∧ w.cell? ⟨b, off + a * 4 + 1, none⟩ = some vi ∧ w.cell? ⟨b, off + a * 4 + 2, none⟩ = some vv ∧ w.cell? ⟨b, off + a * 4 + 3, none⟩ = some vf ∧
      MoAt W m (.agg #[.string x.name, vi, vv, vf]) x ∧ Rn.mn l a = x.name ∧ x.name.size ≤ maxLen := by
  obtain ⟨ad, b, off, cap, e, h0, hl, h1⟩ := h.mods
  have hx := List.getElem?_eq_getElem h.alt
  obtain ⟨vi, vv, vf, g0, g1, g2, g3, hm⟩ := h1 a _ hx
  have hb : ∀ {p : Addr} {v : Value}, W.cell? p = some v → w.cell? p = some v := fun {p v} hp => by
    have hlt := World.block_lt_of_cell? _ _ hp
    rw [h.below.cell (by rw [h.size]; exact hlt)]
    exact hp
  have hsz := hm
  obtain ⟨_, _, _, _, hsz, _⟩ := hsz
  exact ⟨b, off, cap, _, vi, vv, vf, by rw [e, h0 (by have := h.alt; omega)], hl, hx, hb g0, hb g1, hb g2, hb g3, hm, by unfold Rn.mn; rw [hx]; rfl, hsz⟩

theorem Run.drewN {W w : World} {c : Cfg} {nm : List (ByteArray × ByteArray)} {l : List Mo} {m : Nat} {s : Rn.Sta} {q a f om n : Nat} {o : Rn.Own} (h : Run W w c nm l m s q a f om n o) (k : Nat) : Run W (w.drewN k) c nm l m s q a f om n o :=
  ⟨drewBelow h.below k, h.size, h.mods, h.ma.drewN k, h.fr, h.ow.same rfl, h.omn, h.omp, h.alt, h.oi, h.nb⟩
theorem pos_lt {nm : List (ByteArray × ByteArray)} {x y : ByteArray} {i : Nat} (h : Rn.pos nm x y = some i) : i < nm.length := List.mem_range.1 (List.mem_of_find?_eq_some h)
theorem sh_lt {nm : List (ByteArray × ByteArray)} {x y : ByteArray} {o : Rn.Own} {i : Nat} (h : Rn.sh nm x o y = some i) : i < nm.length := by
  unfold Rn.sh at h
  split at h
  · cases h
  · exact pos_lt h
/-- The variable of that number. -/
theorem MaAt.at {w : World} {c : Cfg} {nm : List (ByteArray × ByteArray)} {s : Rn.Sta} (h : MaAt w c nm s) {i : Nat} (hi : i < nm.length) : ∃ b x v, c.bs[i]? = some b ∧ nm[i]? = some x ∧ s.vs[i]? = some v ∧ c.bs.getD i 0 = b ∧ VrAt w b x v ∧ I64 v.val := by
  have h1 : i < c.bs.length := by rw [h.lenb]; exact hi
  have h2 : i < s.vs.length := by rw [h.lens]; exact hi
  exact ⟨_, _, _, List.getElem?_eq_getElem h1, List.getElem?_eq_getElem hi, List.getElem?_eq_getElem h2, by rw [List.getD, List.getElem?_eq_getElem h1]; rfl, h.var i _ _ _ (List.getElem?_eq_getElem h1) (List.getElem?_eq_getElem hi) (List.getElem?_eq_getElem h2), h.val _ (List.getElem_mem h2)⟩
theorem Kp.setV {c : Cfg} {nm : List (ByteArray × ByteArray)} {s : Rn.Sta} {o : Option Nat} {w : World} (hm : MaAt w c nm s) {b : Nat} (hb : b ∈ c.bs) (i : Nat) (v : Value) : Kp c o w (w.setCell ⟨b, i, none⟩ v) :=
  ⟨(Below.refl _ _).setCell (hm.bsn b hb) v, fun k _ ho _ h2 _ _ => block_other ho (fun e => h2 (by have e' : k = b := e; rw [e']; exact hb)) v⟩
/-- A variable's cell is set. -/
theorem MaAt.setV {w : World} {c : Cfg} {nm : List (ByteArray × ByteArray)} {s : Rn.Sta} (h : MaAt w c nm s) {i b : Nat} {x : ByteArray × ByteArray} {v v' : Rn.Vr} (hb : c.bs[i]? = some b) (hx : nm[i]? = some x) (hv : s.vs[i]? = some v) (g : Rn.Vr → Rn.Vr) (hg : g v = v') (hi : I64 v'.val) (j : Nat) (u : Value)
    (hc : (#[Value.string x.1, .string x.2, .int .i64 v.val, .bool v.rd, .bool v.st] : Array Value).setIfInBounds j u = #[.string x.1, .string x.2, .int .i64 v'.val, .bool v'.rd, .bool v'.st]) : MaAt (w.setCell ⟨b, j, none⟩ u) c nm { s with vs := s.vs.modify i g } := by
  have hold : w.heap[b]? = some (.cells #[.string x.1, .string x.2, .int .i64 v.val, .bool v.rd, .bool v.st] 236 (0, 0)) := h.var i b x v hb hx hv
  refine h.setVar hb hx g hv hg hi ?_ (fun k ob ho hk => block_other ho hk u) (fun hr => hr.set (hr.apart hold (by decide)) u)
  unfold VrAt
  rw [block_set hold j u, hc]
/-- A map that isn't the places' has turned. -/
theorem MaAt.but {w w' : World} {c : Cfg} {nm : List (ByteArray × ByteArray)} {s : Rn.Sta} {om : Nat} (h : MaAt w c nm s) (hom : ∃ es cl, w.heap[om]? = some (.map es cl)) (hg : w.grownBy w' (some om)) (hne : c.mp ≠ om) : MaAt w' c nm s := by
  obtain ⟨es0, cl0, hm0⟩ := hom
  have up' : ∀ {k : Nat} {ob : Obj}, w.heap[k]? = some ob → k ≠ om → w'.heap[k]? = some ob := fun ho hk => by rw [hg.block _ (block_lt ho) (fun e => hk (by injection e))]; exact ho
  obtain ⟨vp, h1, h2⟩ := h.mach
  obtain ⟨es, cl, he⟩ := h.map.isMap
  have cne : ∀ {k : Nat} {cs : Array Value} {t : TypeId} {fz : Nat × Nat}, w.heap[k]? = some (.cells cs t fz) → k ≠ om := fun ho e => by rw [e, hm0] at ho; cases ho
  exact ⟨h.base, ⟨vp, up' h1 (cne h1), h2.grown hg (fun g hv e => by
      injection e with e
      obtain ⟨cur, ht⟩ := h2.typ hv
      exact cne ht e.symm)⟩, h.lenb, h.lens, fun i b x v k1 k2 k3 => up' (h.var i b x v k1 k2 k3) (cne (h.var i b x v k1 k2 k3)), h.bsn, h.val, h.nodup, h.map.same (by rw [up' he hne, he]), h.mpn, h.room, h.prs⟩
theorem Kp.but {c : Cfg} {w w' : World} {om : Nat} (hg : w.grownBy w' (some om)) (hn : c.n ≤ om) (hs : c.n ≤ w.heap.size) : Kp c (some om) w w' :=
  ⟨(Below.refl _ _).grown hg hs (fun k e => by injection e with e; omega), fun k ob ho _ _ h3 _ => by rw [hg.block _ (block_lt ho) h3]; exact ho⟩

set_option maxHeartbeats 2000000 in
set_option maxRecDepth 100000 in
theorem shared_any (W w : World) (c : Cfg) (nm : List (ByteArray × ByteArray)) (l : List Mo) (m : Nat) (s : Rn.Sta) (q a f om n : Nat) (o : Rn.Own) (x : ByteArray) (h : Run W w c nm l m s q a f om n o) (hx : x.size ≤ maxLen) :
    Calls Tryz.prog 251 #[.pointer (some ⟨q, 0, none⟩), .string x] w fun e w' => e = .returned (ptrOf c.bs (Rn.sh nm (Rn.mn l a) o x)) ∧ ∃ k, w' = w.drewN k := by
  obtain ⟨b, off, cap, y, vi, vv, vf, hvl, hll, hy, g0, g1, g2, g3, hmo, hmn, hys⟩ := h.mod
  obtain ⟨vp, c0, c2, c3, c4, f3, f4⟩ := h.ma.cell
  obtain ⟨r0, r1, r2, r3⟩ := h.fr.cell
  rw [hmn]
  have hal := h.alt
  have L1 := h.ow.lookOk hx
  have HL2 : Hid (∀ k, (Instr.lookup 221 (.map (some c.mp)) (.agg #[.string y.name, .string x]) false).run Tryz.prog (w.drewN k) = .ok (ptrOf c.bs (Rn.pos nm y.name x)) (w.drewN k)) := hide (fun k => (h.ma.map.same (w' := w.drewN k) rfl).look hys hx)
  rw [hvl] at c0
  obtain ⟨nl, hnl⟩ : ∃ n, n = l.length := ⟨_, rfl⟩
  rw [← hnl] at c0 hal hll
  obtain ⟨R, hR⟩ : ∃ R, R = ptrOf c.bs (Rn.sh nm y.name o x) := ⟨_, rfl⟩
  have HR := hide hR
  rw [← hR]
  clear hR
  obtain ⟨yn, hyn⟩ : ∃ z, z = y.name := ⟨_, rfl⟩
  rw [← hyn] at g0 HL2 HR
  cases ho : o x with
  | some v =>
    rw [ho] at L1
    have HSH : Hid (Rn.sh nm yn o x = none) := hide (by simp [Rn.sh, ho])
    clear h hmo hy hmn hvl hnl hyn hys g1 g2 g3
    simp only [Option.getD_some, Option.isSome_some] at L1
    go_enter Tryz.func251, Tryz.ntmps251
    go_wp2_with fail
    go_ret
    exact ⟨by rw [HR.out, HSH.out]; rfl, 0, rfl⟩
  | none =>
    rw [ho] at L1
    have HSH : Hid (Rn.sh nm yn o x = Rn.pos nm yn x) := hide (by simp [Rn.sh, ho])
    rw [HSH.out] at HR
    rw [← HR.out] at HL2
    clear h hmo hy hmn hvl hnl hyn hys g1 g2 g3
    simp only [Option.getD_none, Option.isSome_none] at L1
    have L2 := HL2.out
    go_enter Tryz.func251, Tryz.ntmps251
    go_wp2_with fail
    go_quiet (fail)
    go_wp2_with fail
    go_ret
    exact ⟨rfl, _, rfl⟩

set_option maxHeartbeats 2000000 in
set_option maxRecDepth 100000 in
theorem get_any (W w : World) (c : Cfg) (nm : List (ByteArray × ByteArray)) (l : List Mo) (m : Nat) (s : Rn.Sta) (q a f om n : Nat) (o : Rn.Own) (x : ByteArray) (h : Run W w c nm l m s q a f om n o) (hx : x.size ≤ maxLen) :
    Calls Tryz.prog 205 #[.pointer (some ⟨q, 0, none⟩), .string x] w fun e w' => e = .returned (.int .i64 (Rn.gt nm (Rn.mn l a) o x s).1) ∧ Hid (MaAt w' c nm (Rn.gt nm (Rn.mn l a) o x s).2 ∧ Kp c none w w') := by
  have HC := hide (shared_any W w c nm l m s q a f om n o x h hx)
  have HR := hide h
  obtain ⟨G, hG⟩ : ∃ G, G = Rn.gt nm (Rn.mn l a) o x s := ⟨_, rfl⟩
  have HG := hide hG
  rw [← hG]
  clear hG h
  cases hs : Rn.sh nm (Rn.mn l a) o x with
  | none =>
    have HV : Hid (G = ((o x).getD 0, s)) := hide (by rw [HG.out, Rn.gt, hs])
    rw [hs] at HC
    clear hs HG
    go_enter Tryz.func205, Tryz.ntmps205
    go_wp2_with fail
    refine HC.out.mono ?_
    rintro e w1 ⟨rfl, k, rfl⟩
    have hr := HR.out.drewN k
    obtain ⟨r0, r1, r2, r3⟩ := hr.fr.cell
    have L1 := hr.ow.look hx
    have HM := hide hr.ma
    have HKP := hide ((Kp.refl c none w).drewN k)
    clear hr r0 r1 r2
    generalize w.drewN k = w1 at *
    simp only [ptrOf]
    go_wp2_with fail
    go_ret
    exact ⟨by rw [HV.out]; rfl, hide ⟨by rw [HV.out]; exact HM.out, HKP.out⟩⟩
  | some i =>
    obtain ⟨b, y, v, hb, hy, hv, hbd, hvr, hiv⟩ := HR.out.ma.at (sh_lt hs)
    have HV : Hid (G = (v.val, { s with vs := s.vs.modify i fun v => { v with rd := true } })) := hide (by rw [HG.out, Rn.gt, hs]; simp only [hv, Option.map_some, Option.getD_some])
    rw [hs] at HC
    simp only [ptrOf, hbd] at HC
    have HF := hide (show c.bs[i]? = some b ∧ nm[i]? = some y ∧ s.vs[i]? = some v ∧ I64 v.val from ⟨hb, hy, hv, hiv⟩)
    clear hs HG hb hy hv hbd hvr hiv
    go_enter Tryz.func205, Tryz.ntmps205
    go_wp2_with fail
    refine HC.out.mono ?_
    rintro e w1 ⟨rfl, k, rfl⟩
    have hr := HR.out.drewN k
    have HM := hide (hr.ma.setV HF.out.1 HF.out.2.1 HF.out.2.2.1 (fun v => { v with rd := true }) rfl HF.out.2.2.2 3 (.bool true) rfl)
    have HKP := hide (((Kp.refl c none w).drewN k).trans (Kp.setV hr.ma (List.mem_of_getElem? HF.out.1) 3 (.bool true)))
    have hvr := hr.ma.var i b y v HF.out.1 HF.out.2.1 HF.out.2.2.1
    have v2 := (block_at hvr 2).trans rfl
    have v3 := (block_at hvr 3).trans rfl
    have z3 := block_free hvr 3
    have u2 := (block_at (block_set hvr 3 (.bool true)) 2).trans rfl
    clear hr hvr
    generalize w.drewN k = w1 at *
    go_wp2_with fail
    go_ret
    exact ⟨by rw [HV.out]; rfl, hide ⟨by rw [HV.out]; exact HM.out, HKP.out⟩⟩

end Go.Proofs.YtnheahdcfadclaaGreatDoor
