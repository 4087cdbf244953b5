/- How lists of modules that came in are opened; and that of each list that came in the length is within the capacity. -/
import Derived.Test.YtholefgckcoklaaGreatDoorZAZ
import Derived.Test.YtholefgckcoklaaGreatDoorZBA
import Derived.Test.YtholefgckcoklaaGreatDoorZAF
import Derived.Test.YtholefgckcoklaaGreatDoorZBH
import Derived.Test.YtholefgckcoklaaGreatDoorZBG
namespace Go.Proofs.YtholefgckcoklaaGreatDoor
open Go.ChangeShapes Go.WideShapes Go.ChangeAt Go.RowKit Go.Deep Go.Joins
theorem FusAt.monoN {w : World} {m k : Nat} {v : Value} {l : List Fu} (h : FusAt w m v l) (hk : m ≤ k) : FusAt w k v l := by
  obtain ⟨a, b, off, cap, e, h0, hl, h1⟩ := h
  refine ⟨a, b, off, cap, e, h0, hl, fun i s hs => ?_⟩
  obtain ⟨k1, vp, vb, e0, e1, e2, e3, g0, g1, g2, g3, g4, g5, g6, hp, hs', hx⟩ := h1 i s hs
  exact ⟨k1, vp, vb, e0, e1, e2, e3, g0, g1, g2, g3, g4, g5, g6, hp, hs'.mono k hk, hx.mono k hk⟩
theorem MoAt.monoN {w : World} {m k : Nat} {v : Value} {x : Mo} (h : MoAt w m v x) (hk : m ≤ k) : MoAt w k v x := by
  obtain ⟨vi, vv, vf, e, h0, h1, h2, h3⟩ := h
  exact ⟨vi, vv, vf, e, h0, h1, h2, h3.monoN hk⟩
theorem MosAt.monoN {w : World} {m k : Nat} {v : Value} {l : List Mo} (h : MosAt w m v l) (hk : m ≤ k) : MosAt w k v l := by
  obtain ⟨a, b, off, cap, e, h0, hl, h1⟩ := h
  refine ⟨a, b, off, cap, e, h0, hl, fun i x hx => ?_⟩
  obtain ⟨vi, vv, vf, g0, g1, g2, g3, hm⟩ := h1 i x hx
  exact ⟨vi, vv, vf, g0, g1, g2, g3, hm.monoN hk⟩
theorem fusW_monoN {w : World} {m k : Nat} {v : Value} {l : List Fu} (h : FusAt w m v l) (hk : m ≤ k) : fusW k l = fusW m l := by
  obtain ⟨a, b, off, cap, e, h0, hl, h1⟩ := h
  unfold fusW
  rw [map_congr_get (fun i s hs => by
    obtain ⟨_, vp, vb, e0, e1, e2, e3, _, _, _, _, _, _, _, _, hs', hx⟩ := h1 i s hs
    rw [exW_mono hx k hk, stsW_mono hs' k hk])]
theorem moW_monoN {w : World} {m k : Nat} {v : Value} {x : Mo} (h : MoAt w m v x) (hk : m ≤ k) : moW k x = moW m x := by
  obtain ⟨vi, vv, vf, e, h0, h1, h2, h3⟩ := h
  unfold moW
  rw [fusW_monoN h3 hk]
section
variable {H : Type} {enc : TypeId × Value → H} {W : World}
theorem bulk_one {d : DataW H} : ∀ {D : List (DataW H)} {i : Nat}, D[i]? = some d → Rows.uptoBulk d ≤ Rows.uptoBulkAll D
  | [], i, h => by simp at h
  | e :: D, 0, h => by
    simp at h
    subst h
    simp only [Rows.uptoBulkAll]
    omega
  | e :: D, i + 1, h => by
    have := bulk_one (D := D) (i := i) (by simpa using h)
    simp only [Rows.uptoBulkAll]
    omega
theorem open_cap {t e fuel : Nat} {v : Value} {y : DataW H × List MemPlace} (ht : Tryz.prog.underlying t = some (.slice e)) (h : DataW.trod enc Tryz.prog W 0 (fun _ => true) true fuel t [v] = some y) : CapOK v := by
  rcases DataW.trod_slice ht h with ⟨hcs, rfl⟩ | ⟨a, len, cap, elems, rest, n, hfuel, hcs, rfl, _, hl, hm, hlen, hel, _, _⟩
  · simp at hcs
    subst hcs
    intro a n c e
    injection e with _ e1 e2
    omega
  · simp at hcs
    subst hcs
    intro a n c e
    injection e with _ e1 e2
    omega
theorem open_parcap {fuel : Nat} {v : Value} {y : DataW H × List MemPlace} (h : DataW.trod enc Tryz.prog W 0 (fun _ => true) true fuel 24 [v] = some y) :
    ∀ b off n c, v = .slice (some ⟨b, off, none⟩) n c → ∀ i, i < n → ∃ vp, W.cell? ⟨b, off + i * 7 + 1, none⟩ = some vp ∧ CapOK vp := by
  obtain ⟨a, b, off, len, cap, D, hv, ha, hl, hD, hbulk, hel⟩ := open_elems Tryz.underlying24 cellsFu (by decide) h
  intro b' off' n' c' e i hi
  rw [hv] at e
  injection e with e0 e1 e2
  subst e1
  have h1 := ha (by omega)
  rw [e0] at h1
  injection h1 with h1
  injection h1 with h1 h2
  subst h1 h2
  obtain ⟨n0, cs, d', pl', hn', hlen', hcell, htrod, hDi⟩ := hel i hi
  obtain ⟨xs, n, hfn, hx, hlen, hxs, hf⟩ := DataW.trod_struct Tryz.underlying106 htrod
  obtain ⟨c0, c1, c2, c3, c4, c5, c6, rfl⟩ := list7 hlen'
  obtain ⟨y0, y1, y2, y3, rfl⟩ := list4 (by simpa using hxs)
  have f1 : DataW.trod enc Tryz.prog W 0 (fun _ => true) true n 22 (([c0, c1, c2, c3, c4, c5, c6].drop 1).take (Tryz.prog.cellsOf 22)) = some y1 := hf 1 _ rfl
  rw [cellsStrs] at f1
  simp only [List.drop, List.take] at f1
  exact ⟨c1, hcell 1 (by decide), open_cap Tryz.underlying22 f1⟩
end
end Go.Proofs.YtholefgckcoklaaGreatDoor
namespace Go.Proofs.YtholefgckcoklaaGreatDoor
open Go.RowKit Go.Maps
def CeC (c : List Value) (d : Ce) : Prop := c = [.string d.mod, .string d.name, .int .i64 d.val]
def TxC (c : List Value) (d : ByteArray) : Prop := c = [.string d]
theorem CeC.one {c : List Value} {d : Ce} (h : CeC c d) : ∀ u ∈ c, u.oneCell' = true := by
  unfold CeC at h
  subst h
  intro u hu
  simp at hu
  rcases hu with rfl | rfl | rfl <;> rfl
theorem TxC.one {c : List Value} {d : ByteArray} (h : TxC c d) : ∀ u ∈ c, u.oneCell' = true := by
  unfold TxC at h
  subst h
  intro u hu
  simp at hu
  subst hu
  rfl
theorem infoCe : (Tryz.prog.info? 59).map (fun i => (i.zero, i.size, i.bytes)) = some (some (.agg #[.string ⟨#[]⟩, .string ⟨#[]⟩, .int .i64 0]), 3, 40) := by kernel_rfl
theorem OwnK.kp {α : Type} {At : List Value → α → Prop} {w w' : World} {n e k : Nat} {v : Value} {l : List α} {c : Cfg} {nm : List (ByteArray × ByteArray)} {s : Rn.Sta} (h : OwnK At w n e k v l) (hk : Kp c none w w') (hm : MaAt w c nm s) (h0 : e ≠ 62) (h1 : e ≠ 227) (h2 : e ≠ 239) : OwnK At w' n e k v l := by
  obtain ⟨cs, ⟨a1, a2⟩, r⟩ := h
  refine ⟨cs, ⟨a1, ?_⟩, r⟩
  rcases a2 with a2 | ⟨g, cap, cur, hv, hg, hh, r'⟩
  · exact Or.inl a2
  · exact Or.inr ⟨g, cap, cur, hv, hg, hk.cells hm hh h0 h1 h2 (by simp), r'⟩
structure OcI (w wx : World) (R : Int) (vp : Value) (cs : List Ce) (ds : List ByteArray) (vs vd : Value) : Prop where
  res : wx.heap[w.heap.size]? = some (.cells #[.int .i64 0, .slice none 0 0, .slice none 0 0, .slice none 0 0] 51 (0, 0))
  loc : wx.heap[w.heap.size + 1]? = some (.cells #[.int .i64 R, vs, vp, vd] 51 (0, 0))
  st : OwnK CeC wx (w.heap.size + 2) 59 3 vs cs
  di : OwnK TxC wx (w.heap.size + 2) 9 1 vd ds
  bel : Below w.heap.size w wx
  siz : w.heap.size + 2 ≤ wx.heap.size
theorem OcI.below {w wx wy : World} {R : Int} {vp vs vd : Value} {cs : List Ce} {ds : List ByteArray} (h : OcI w wx R vp cs ds vs vd) (hb : Below wx.heap.size wx wy) : OcI w wy R vp cs ds vs vd :=
  ⟨by rw [hb.block _ (block_lt h.res)]; exact h.res, by rw [hb.block _ (block_lt h.loc)]; exact h.loc, h.st.below hb, h.di.below hb, up h.bel hb, Nat.le_trans h.siz hb.size⟩
theorem OcI.new (w : World) (R : Int) (vp : Value) : OcI w ((w.alloc (.cells #[.int .i64 0, .slice none 0 0, .slice none 0 0, .slice none 0 0] 51)).alloc (.cells #[.int .i64 R, .slice none 0 0, vp, .slice none 0 0] 51)) R vp [] [] (.slice none 0 0) (.slice none 0 0) := by
  have e1 := block_new w (.cells #[.int .i64 0, .slice none 0 0, .slice none 0 0, .slice none 0 0] 51)
  have e2 := block_new (w.alloc (.cells #[.int .i64 0, .slice none 0 0, .slice none 0 0, .slice none 0 0] 51)) (.cells #[.int .i64 R, .slice none 0 0, vp, .slice none 0 0] 51)
  rw [World.size_alloc] at e2
  exact ⟨block_alloc e1 _, e2, OwnK.nil _ _ _ _, OwnK.nil _ _ _ _, up (boxBelow _ _) (boxBelow _ _), by simp⟩
section
variable {w wx w7 : World} {R : Int} {vp vs vd v7 : Value} {cs : List Ce} {ds : List ByteArray} {ob : Obj}
theorem OcI.pushC {y : Ce} (h : OcI w wx R vp cs ds vs vd) (hown : OwnK CeC w7 (w.heap.size + 2) 59 3 v7 (cs ++ [y])) (hg : (wx.alloc ob).grownBy w7 vs.ownBlock) :
    w7.heap[w.heap.size + 1]? = some (.cells #[.int .i64 R, vs, vp, vd] 51 (0, 0)) ∧ OcI w (w7.setCell ⟨w.heap.size + 1, 1, none⟩ v7) R vp (cs ++ [y]) ds v7 vd ∧ Below w.heap.size w w7 := by
  have cel : ∀ {k : Nat} {c : Array Value} {t : TypeId} {fz : Nat × Nat}, wx.heap[k]? = some (.cells c t fz) → t ≠ 59 → w7.heap[k]? = some (.cells c t fz) := fun {k c t fz} ho ht => by
    rw [hg.block k (by have := block_lt ho; have := (boxBelow wx ob).size; omega) (fun e => by
      obtain ⟨cur, hc⟩ := h.st.typ e.symm
      rw [ho] at hc
      injection hc with hc
      injection hc with _ hc
      exact ht hc)]
    exact block_alloc ho ob
  have l7 := cel h.loc (by decide)
  have b7 : Below w.heap.size w w7 := (h.bel.trans ((boxBelow wx ob).mono (by have := h.siz; omega))).grown hg (by have := h.siz; have := (boxBelow wx ob).size; omega) (fun k e => by have := (h.st.lt k e).1; omega)
  have d7 : OwnK TxC w7 (w.heap.size + 2) 9 1 vd ds := (h.di.below (boxBelow wx ob)).grown hg (fun g hv e => by
    obtain ⟨c1, t1⟩ := h.di.typ hv
    obtain ⟨c2, t2⟩ := h.st.typ e
    rw [t1] at t2
    injection t2 with t2
    injection t2 with _ t2
    exact absurd t2 (by decide))
  refine ⟨l7, ⟨block_other (cel h.res (by decide)) (by simp) _, (block_set l7 1 _).trans rfl, hown.set (hown.apart l7 (by decide)) _, d7.set (d7.apart l7 (by decide)) _, b7.setCell (by simp) _, ?_⟩, b7⟩
  have h1 := hg.size
  have h2 := (boxBelow wx ob).size
  have h3 := h.siz
  simp only [World.setCell, Array.size_modify]
  omega
theorem OcI.pushD {y : ByteArray} (h : OcI w wx R vp cs ds vs vd) (hown : OwnK TxC w7 (w.heap.size + 2) 9 1 v7 (ds ++ [y])) (hg : (wx.alloc ob).grownBy w7 vd.ownBlock) :
    w7.heap[w.heap.size + 1]? = some (.cells #[.int .i64 R, vs, vp, vd] 51 (0, 0)) ∧ OcI w (w7.setCell ⟨w.heap.size + 1, 3, none⟩ v7) R vp cs (ds ++ [y]) vs v7 ∧ Below w.heap.size w w7 := by
  have cel : ∀ {k : Nat} {c : Array Value} {t : TypeId} {fz : Nat × Nat}, wx.heap[k]? = some (.cells c t fz) → t ≠ 9 → w7.heap[k]? = some (.cells c t fz) := fun {k c t fz} ho ht => by
    rw [hg.block k (by have := block_lt ho; have := (boxBelow wx ob).size; omega) (fun e => by
      obtain ⟨cur, hc⟩ := h.di.typ e.symm
      rw [ho] at hc
      injection hc with hc
      injection hc with _ hc
      exact ht hc)]
    exact block_alloc ho ob
  have l7 := cel h.loc (by decide)
  have b7 : Below w.heap.size w w7 := (h.bel.trans ((boxBelow wx ob).mono (by have := h.siz; omega))).grown hg (by have := h.siz; have := (boxBelow wx ob).size; omega) (fun k e => by have := (h.di.lt k e).1; omega)
  have d7 : OwnK CeC w7 (w.heap.size + 2) 59 3 vs cs := (h.st.below (boxBelow wx ob)).grown hg (fun g hv e => by
    obtain ⟨c1, t1⟩ := h.st.typ hv
    obtain ⟨c2, t2⟩ := h.di.typ e
    rw [t1] at t2
    injection t2 with t2
    injection t2 with _ t2
    exact absurd t2 (by decide))
  refine ⟨l7, ⟨block_other (cel h.res (by decide)) (by simp) _, (block_set l7 3 _).trans rfl, d7.set (d7.apart l7 (by decide)) _, hown.set (hown.apart l7 (by decide)) _, b7.setCell (by simp) _, ?_⟩, b7⟩
  have h1 := hg.size
  have h2 := (boxBelow wx ob).size
  have h3 := h.siz
  simp only [World.setCell, Array.size_modify]
  omega
end
theorem OwnK.rowS {w : World} {n g len cap : Nat} {l : List ByteArray} (h : OwnK TxC w n 9 1 (.slice (some ⟨g, 0, none⟩) len cap) l) (hlen : len = l.length) : RowS w g l := by
  subst hlen
  obtain ⟨cur, hc⟩ := h.typ (g := g) rfl
  have hd : ∀ (i : Nat) d, l[i]? = some d → cur[i]? = some (.string d) := fun i d hi => by
    obtain ⟨c, _, hcell, hat⟩ := h.cell hi
    have := hcell 0 (by decide)
    rw [block_at hc] at this
    unfold TxC at hat
    subst hat
    simpa using this
  refine ⟨cur, hc, ?_, hd⟩
  rcases Nat.eq_zero_or_pos l.length with h0 | h0
  · omega
  · have h2 := hd (l.length - 1) _ (List.getElem?_eq_getElem (by omega))
    have := (Array.getElem?_eq_some_iff.1 h2).1
    omega
theorem RowS.strs {w : World} {g cap : Nat} {l : List ByteArray} (h : RowS w g l) (hs : ∀ s ∈ l, s.size ≤ maxLen) (hl : l.length ≤ 16777216) : Strs w (.slice (some ⟨g, 0, none⟩) l.length cap) l := by
  refine ⟨_, g, 0, cap, rfl, fun _ => rfl, by omega, hs, fun j hj => ?_⟩
  have := h.cell (List.getElem?_eq_getElem hj)
  rw [Nat.zero_add, this, List.getD_eq_getElem?_getD, List.getElem?_eq_getElem hj, Option.getD_some]
theorem OwnK.ces {w : World} {n : Nat} {v : Value} {l : List Ce} (h : OwnK CeC w n 59 3 v l) (hI : ∀ c ∈ l, I64 c.val) (hl : l.length ≤ 16777216) : CesAt w v l := by
  rcases h.shape with ⟨rfl, rfl⟩ | ⟨g, cap, rfl, _, _, _, _⟩
  · exact ⟨none, 0, 0, 0, rfl, fun h => absurd h (by simp), by simp, fun i x hx => absurd hx (by simp)⟩
  · refine ⟨_, g, 0, cap, rfl, fun _ => rfl, by omega, fun i x hx => ?_⟩
    obtain ⟨c, _, hcell, hat⟩ := h.cell hx
    unfold CeC at hat
    subst hat
    have h0 := hcell 0 (by decide)
    have h1 := hcell 1 (by decide)
    have h2 := hcell 2 (by decide)
    rw [Nat.zero_add]
    exact ⟨hI x (List.mem_of_getElem? hx), h0, h1, h2⟩
def PrsAt (w : World) (v : Value) (l : List (ByteArray × Int)) : Prop :=
  ∃ (a : Option Addr) (b off cap : Nat), v = .slice a l.length cap ∧ (0 < l.length → a = some ⟨b, off, none⟩) ∧ l.length ≤ 9223372036854775807 ∧
    ∀ (i : Nat) (x : ByteArray × Int), l[i]? = some x → w.cell? ⟨b, off + i * 2, none⟩ = some (.string x.1) ∧ w.cell? ⟨b, off + i * 2 + 1, none⟩ = some (.int .i64 x.2)
theorem PrsAt.below {w w' : World} {v : Value} {l : List (ByteArray × Int)} (h : PrsAt w v l) (hb : Below w.heap.size w w') : PrsAt w' v l := by
  obtain ⟨a, b, off, cap, e, h0, hl, h1⟩ := h
  refine ⟨a, b, off, cap, e, h0, hl, fun i x hx => ?_⟩
  obtain ⟨g0, g1⟩ := h1 i x hx
  exact ⟨cellUp g0 hb, cellUp g1 hb⟩
theorem OwnK.prs {w : World} {n : Nat} {v : Value} {l : List (ByteArray × Int)} (h : OwnK PrC w n 62 2 v l) (hl : l.length ≤ 16777216) : PrsAt w v l := by
  rcases h.shape with ⟨rfl, rfl⟩ | ⟨g, cap, rfl, _, _, _, _⟩
  · exact ⟨none, 0, 0, 0, rfl, fun h => absurd h (by simp), by simp, fun i x hx => absurd hx (by simp)⟩
  · refine ⟨_, g, 0, cap, rfl, fun _ => rfl, by omega, fun i x hx => ?_⟩
    obtain ⟨c, _, hcell, hat⟩ := h.cell hx
    unfold PrC at hat
    subst hat
    have h0 := hcell 0 (by decide)
    have h1 := hcell 1 (by decide)
    rw [Nat.zero_add]
    exact ⟨h0, h1⟩
structure OcAt (w : World) (n : Nat) (r : Rn.Res) (v1 v2 v3 : Value) : Prop where
  st : OwnK CeC w n 59 3 v1 r.sto
  pr : OwnK PrC w n 62 2 v2 r.pr
  di : (r.did = [] ∧ v3 = .slice none 0 0) ∨ ∃ g cap, v3 = .slice (some ⟨g, 0, none⟩) r.did.length cap ∧ n ≤ g ∧ RowS w g r.did
theorem RowS.other {w : World} {g B : Nat} {l : List ByteArray} (h : RowS w g l) (hB : B ≠ g) (i : Nat) (x : Value) : RowS (w.setCell ⟨B, i, none⟩ x) g l := by
  obtain ⟨cur, hc, h1⟩ := h
  exact ⟨cur, block_other hc (fun e => hB e.symm) _, h1⟩
theorem OcAt.below {w w' : World} {n : Nat} {r : Rn.Res} {v1 v2 v3 : Value} (h : OcAt w n r v1 v2 v3) (hb : Below w.heap.size w w') : OcAt w' n r v1 v2 v3 := by
  refine ⟨h.st.below hb, h.pr.below hb, ?_⟩
  rcases h.di with h1 | ⟨g, cap, h1, h2, h3⟩
  · exact Or.inl h1
  · exact Or.inr ⟨g, cap, h1, h2, h3.below hb⟩
theorem OcAt.set {w : World} {n B : Nat} {r : Rn.Res} {v1 v2 v3 : Value} (h : OcAt w n r v1 v2 v3) (hB : B < n) (i : Nat) (x : Value) : OcAt (w.setCell ⟨B, i, none⟩ x) n r v1 v2 v3 := by
  refine ⟨h.st.set (fun e => ?_) x, h.pr.set (fun e => ?_) x, ?_⟩
  · have := (h.st.lt _ e).1
    simp only at this
    omega
  · have := (h.pr.lt _ e).1
    simp only at this
    omega
  · rcases h.di with h1 | ⟨g, cap, h1, h2, h3⟩
    · exact Or.inl h1
    · exact Or.inr ⟨g, cap, h1, h2, h3.other (by omega) i x⟩
def OutAt (w : World) (r : Rn.Res) (v1 v2 v3 : Value) : Prop := CesAt w v1 r.sto ∧ PrsAt w v2 r.pr ∧ Strs w v3 r.did
theorem OutAt.below {w w' : World} {r : Rn.Res} {v1 v2 v3 : Value} (h : OutAt w r v1 v2 v3) (hb : Below w.heap.size w w') : OutAt w' r v1 v2 v3 := ⟨h.1.below hb, h.2.1.below hb, h.2.2.below hb⟩
theorem OutAt.bad (w : World) (e : Int) : OutAt w (Rn.bad e) (.slice none 0 0) (.slice none 0 0) (.slice none 0 0) :=
  ⟨⟨none, 0, 0, 0, rfl, fun h => absurd h (by simp [Rn.bad]), by simp [Rn.bad], fun i x hx => absurd hx (by simp [Rn.bad])⟩, ⟨none, 0, 0, 0, rfl, fun h => absurd h (by simp [Rn.bad]), by simp [Rn.bad], fun i x hx => absurd hx (by simp [Rn.bad])⟩, ⟨none, 0, 0, 0, rfl, fun h => absurd h (by simp [Rn.bad]), by simp [Rn.bad], fun s hs => absurd hs (by simp [Rn.bad]), fun j hj => absurd hj (by simp [Rn.bad])⟩⟩
structure ResOk (r : Rn.Res) : Prop where
  vals : ∀ c ∈ r.sto, I64 c.val
  lens : r.sto.length ≤ 16777216 ∧ r.pr.length ≤ 16777216 ∧ r.did.length ≤ 16777216
  texts : ∀ t ∈ r.did, t.size ≤ maxLen
theorem OcAt.out {w : World} {n : Nat} {r : Rn.Res} {v1 v2 v3 : Value} (h : OcAt w n r v1 v2 v3) (hr : ResOk r) : OutAt w r v1 v2 v3 := by
  refine ⟨h.st.ces hr.vals hr.lens.1, h.pr.prs hr.lens.2.1, ?_⟩
  rcases h.di with ⟨h1, rfl⟩ | ⟨g, cap, rfl, h2, h3⟩
  · rw [h1]
    exact ⟨none, 0, 0, 0, rfl, fun h => absurd h (by simp), by simp, fun s hs => absurd hs (by simp), fun j hj => absurd hj (by simp)⟩
  · exact h3.strs hr.texts hr.lens.2.2
end Go.Proofs.YtholefgckcoklaaGreatDoor
