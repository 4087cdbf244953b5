/- Strings are sorted. -/
import Derived.Test.YtbncnkfogkhoeabGreatDoorZAR
import Derived.Test.YtbncnkfogkhoeabGreatDoorYS
import Derived.Shelf.Sort.Plain
import Derived.Shelf.Slices.In.SortNone
namespace Go.Proofs.YtbncnkfogkhoeabGreatDoor
open Go.RowKit Go.Shelf

theorem RowS.holds {w : World} {g : Nat} {l : List ByteArray} (h : RowS w g l) : Sort.Holds encStr w g 0 (l.map (·.data.toList)).toArray := by
  obtain ⟨cur, hc, hsz, hel⟩ := h
  intro j hj
  have hjl : j < l.length := by simpa using hj
  refine ⟨?_, block_free hc _⟩
  rw [Nat.zero_add, block_at hc, hel j _ (List.getElem?_eq_getElem hjl)]
  congr 1
  simp [hjl]
theorem RowS.of_put {w : World} {g n : Nat} {l : List ByteArray} {os : Array Obj} {b : List (List UInt8)} (h : RowS w g l) (hb : b.length = l.length) : RowS (Sort.grow (Sort.putRow encStr (Sort.ahead w n) g 0 b.toArray) os) g (b.map fun x => ⟨x.toArray⟩) := by
  obtain ⟨cur, hc, hsz, hel⟩ := h
  have hg := block_lt hc
  have hblk : (Sort.grow (Sort.putRow encStr (Sort.ahead w n) g 0 b.toArray) os).heap[g]? = some (.cells (Sort.putCells encStr 0 b.toArray cur) 9 (0, 0)) := by
    simp only [Sort.grow, Sort.putRow, Sort.mapBlock, Sort.ahead]
    rw [Array.getElem?_append_left (by simpa using hg)]
    simp [Array.getElem?_modify, hc, Sort.onCells]
  refine ⟨_, hblk, by simp only [Sort.putCells, Array.size_mapIdx, List.length_map]; omega, fun i d hd => ?_⟩
  have hi : i < b.length := by simpa using (List.getElem?_eq_some_iff.1 hd).1
  rw [List.getElem?_map, List.getElem?_eq_getElem hi] at hd
  simp at hd
  subst hd
  have hic : i < cur.size := by omega
  simp [Sort.putCells, hic, hi]
/-- What a sort leaves. -/
theorem sortS_any (w : World) (g len cap : Nat) (l : List ByteArray) (h : RowS w g l) (hlen : len = l.length) (hl : l.length ≤ 16777216) :
    Calls Tryz.prog 66 #[.slice (some ⟨g, 0, none⟩) len cap] w fun e w' => e = .returned (.tuple #[]) ∧ RowS w' g (Rn.srtS l) ∧ But g w w' := by
  subst hlen
  have h0 := h
  obtain ⟨cur, hc, hsz, hel⟩ := h
  have hcon := Any.slices_Sort_string Tryz.lSoS g 0 cap (l.map (·.data.toList)) w h0.holds (block_lt hc) (by simp; omega)
  rw [List.length_map] at hcon
  refine Calls.mono (show Calls Tryz.prog 66 #[.slice (some ⟨g, 0, none⟩) l.length cap] w _ from hcon) ?_
  rintro e w' ⟨he, k, os, rfl⟩
  refine ⟨he, h0.of_put (by rw [List.length_mergeSort, List.length_map]), rfl, rfl, rfl, ?_, fun j hj hp => ?_⟩
  · simp [Sort.grow, Sort.putRow, Sort.mapBlock, Sort.ahead]
  · have hg := block_lt hc
    simp only [Sort.grow, Sort.putRow, Sort.mapBlock, Sort.ahead]
    rw [Array.getElem?_append_left (by simp; omega)]
    simp [Array.getElem?_modify]
    intro e'; exact absurd e'.symm hp
theorem sortS_none (w : World) (p : Option Addr) (cap : Nat) : Calls Tryz.prog 66 #[.slice p 0 cap] w fun e w' => e = .returned (.tuple #[]) ∧ w' = w :=
  Any.slices_Sort_string_none Tryz.lSoS p cap w

end Go.Proofs.YtbncnkfogkhoeabGreatDoor

/- Running functions: how an outcome lies in memory while it is made. -/
namespace Go.Proofs.YtbncnkfogkhoeabGreatDoor
open Go.RowKit Go.Maps

def CeC (c : List Value) (d : Ce) : Prop := c = [.string d.mod, .string d.name, .int .i64 d.val]
def TxC (c : List Value) (d : ByteArray) : Prop := c = [.string d]
theorem CeC.one {c : List Value} {d : Ce} (h : CeC c d) : ∀ u ∈ c, u.oneCell' = true := by
  unfold CeC at h
  subst h
  intro u hu
  simp at hu
  rcases hu with rfl | rfl | rfl <;> rfl
theorem TxC.one {c : List Value} {d : ByteArray} (h : TxC c d) : ∀ u ∈ c, u.oneCell' = true := by
  unfold TxC at h
  subst h
  intro u hu
  simp at hu
  subst hu
  rfl
theorem infoCe : (Tryz.prog.info? 46).map (fun i => (i.zero, i.size, i.bytes)) = some (some (.agg #[.string ⟨#[]⟩, .string ⟨#[]⟩, .int .i64 0]), 3, 40) := by kernel_rfl
theorem OwnK.kp {α : Type} {At : List Value → α → Prop} {w w' : World} {n e k : Nat} {v : Value} {l : List α} {c : Cfg} {nm : List (ByteArray × ByteArray)} {s : Rn.Sta} (h : OwnK At w n e k v l) (hk : Kp c none w w') (hm : MaAt w c nm s) (h0 : e ≠ 49) (h1 : e ≠ 116) (h2 : e ≠ 128) : OwnK At w' n e k v l := by
  obtain ⟨cs, ⟨a1, a2⟩, r⟩ := h
  refine ⟨cs, ⟨a1, ?_⟩, r⟩
  rcases a2 with a2 | ⟨g, cap, cur, hv, hg, hh, r'⟩
  · exact Or.inl a2
  · exact Or.inr ⟨g, cap, cur, hv, hg, hk.cells hm hh h0 h1 h2 (by simp), r'⟩
/-- An outcome that is being made: its result's block, its own block, the rows of its store and of what was done. -/
structure OcI (w wx : World) (R : Int) (vp : Value) (cs : List Ce) (ds : List ByteArray) (vs vd : Value) : Prop where
  res : wx.heap[w.heap.size]? = some (.cells #[.int .i64 0, .slice none 0 0, .slice none 0 0, .slice none 0 0] 41 (0, 0))
  loc : wx.heap[w.heap.size + 1]? = some (.cells #[.int .i64 R, vs, vp, vd] 41 (0, 0))
  st : OwnK CeC wx (w.heap.size + 2) 46 3 vs cs
  di : OwnK TxC wx (w.heap.size + 2) 9 1 vd ds
  bel : Below w.heap.size w wx
  siz : w.heap.size + 2 ≤ wx.heap.size
theorem OcI.below {w wx wy : World} {R : Int} {vp vs vd : Value} {cs : List Ce} {ds : List ByteArray} (h : OcI w wx R vp cs ds vs vd) (hb : Below wx.heap.size wx wy) : OcI w wy R vp cs ds vs vd :=
  ⟨by rw [hb.block _ (block_lt h.res)]; exact h.res, by rw [hb.block _ (block_lt h.loc)]; exact h.loc, h.st.below hb, h.di.below hb, up h.bel hb, Nat.le_trans h.siz hb.size⟩
theorem OcI.new (w : World) (R : Int) (vp : Value) : OcI w ((w.alloc (.cells #[.int .i64 0, .slice none 0 0, .slice none 0 0, .slice none 0 0] 41)).alloc (.cells #[.int .i64 R, .slice none 0 0, vp, .slice none 0 0] 41)) R vp [] [] (.slice none 0 0) (.slice none 0 0) := by
  have e1 := block_new w (.cells #[.int .i64 0, .slice none 0 0, .slice none 0 0, .slice none 0 0] 41)
  have e2 := block_new (w.alloc (.cells #[.int .i64 0, .slice none 0 0, .slice none 0 0, .slice none 0 0] 41)) (.cells #[.int .i64 R, .slice none 0 0, vp, .slice none 0 0] 41)
  rw [World.size_alloc] at e2
  exact ⟨block_alloc e1 _, e2, OwnK.nil _ _ _ _, OwnK.nil _ _ _ _, up (boxBelow _ _) (boxBelow _ _), by simp⟩
section
variable {w wx w7 : World} {R : Int} {vp vs vd v7 : Value} {cs : List Ce} {ds : List ByteArray} {ob : Obj}
/-- A cell more. -/
theorem OcI.pushC {y : Ce} (h : OcI w wx R vp cs ds vs vd) (hown : OwnK CeC w7 (w.heap.size + 2) 46 3 v7 (cs ++ [y])) (hg : (wx.alloc ob).grownBy w7 vs.ownBlock) :
    w7.heap[w.heap.size + 1]? = some (.cells #[.int .i64 R, vs, vp, vd] 41 (0, 0)) ∧ OcI w (w7.setCell ⟨w.heap.size + 1, 1, none⟩ v7) R vp (cs ++ [y]) ds v7 vd ∧ Below w.heap.size w w7 := by
  have cel : ∀ {k : Nat} {c : Array Value} {t : TypeId} {fz : Nat × Nat}, wx.heap[k]? = some (.cells c t fz) → t ≠ 46 → w7.heap[k]? = some (.cells c t fz) := fun {k c t fz} ho ht => by
    rw [hg.block k (by have := block_lt ho; have := (boxBelow wx ob).size; omega) (fun e => by
      obtain ⟨cur, hc⟩ := h.st.typ e.symm
      rw [ho] at hc
      injection hc with hc
      injection hc with _ hc
      exact ht hc)]
    exact block_alloc ho ob
  have l7 := cel h.loc (by decide)
  have b7 : Below w.heap.size w w7 := (h.bel.trans ((boxBelow wx ob).mono (by have := h.siz; omega))).grown hg (by have := h.siz; have := (boxBelow wx ob).size; omega) (fun k e => by have := (h.st.lt k e).1; omega)
  have d7 : OwnK TxC w7 (w.heap.size + 2) 9 1 vd ds := (h.di.below (boxBelow wx ob)).grown hg (fun g hv e => by
    obtain ⟨c1, t1⟩ := h.di.typ hv
    obtain ⟨c2, t2⟩ := h.st.typ e
    rw [t1] at t2
    injection t2 with t2
    injection t2 with _ t2
    exact absurd t2 (by decide))
  refine ⟨l7, ⟨block_other (cel h.res (by decide)) (by simp) _, (block_set l7 1 _).trans rfl, hown.set (hown.apart l7 (by decide)) _, d7.set (d7.apart l7 (by decide)) _, b7.setCell (by simp) _, ?_⟩, b7⟩
  have h1 := hg.size
  have h2 := (boxBelow wx ob).size
  have h3 := h.siz
  simp only [World.setCell, Array.size_modify]
  omega
/-- A text more. -/
theorem OcI.pushD {y : ByteArray} (h : OcI w wx R vp cs ds vs vd) (hown : OwnK TxC w7 (w.heap.size + 2) 9 1 v7 (ds ++ [y])) (hg : (wx.alloc ob).grownBy w7 vd.ownBlock) :
    w7.heap[w.heap.size + 1]? = some (.cells #[.int .i64 R, vs, vp, vd] 41 (0, 0)) ∧ OcI w (w7.setCell ⟨w.heap.size + 1, 3, none⟩ v7) R vp cs (ds ++ [y]) vs v7 ∧ Below w.heap.size w w7 := by
  have cel : ∀ {k : Nat} {c : Array Value} {t : TypeId} {fz : Nat × Nat}, wx.heap[k]? = some (.cells c t fz) → t ≠ 9 → w7.heap[k]? = some (.cells c t fz) := fun {k c t fz} ho ht => by
    rw [hg.block k (by have := block_lt ho; have := (boxBelow wx ob).size; omega) (fun e => by
      obtain ⟨cur, hc⟩ := h.di.typ e.symm
      rw [ho] at hc
      injection hc with hc
      injection hc with _ hc
      exact ht hc)]
    exact block_alloc ho ob
  have l7 := cel h.loc (by decide)
  have b7 : Below w.heap.size w w7 := (h.bel.trans ((boxBelow wx ob).mono (by have := h.siz; omega))).grown hg (by have := h.siz; have := (boxBelow wx ob).size; omega) (fun k e => by have := (h.di.lt k e).1; omega)
  have d7 : OwnK CeC w7 (w.heap.size + 2) 46 3 vs cs := (h.st.below (boxBelow wx ob)).grown hg (fun g hv e => by
    obtain ⟨c1, t1⟩ := h.st.typ hv
    obtain ⟨c2, t2⟩ := h.di.typ e
    rw [t1] at t2
    injection t2 with t2
    injection t2 with _ t2
    exact absurd t2 (by decide))
  refine ⟨l7, ⟨block_other (cel h.res (by decide)) (by simp) _, (block_set l7 3 _).trans rfl, d7.set (d7.apart l7 (by decide)) _, hown.set (hown.apart l7 (by decide)) _, b7.setCell (by simp) _, ?_⟩, b7⟩
  have h1 := hg.size
  have h2 := (boxBelow wx ob).size
  have h3 := h.siz
  simp only [World.setCell, Array.size_modify]
  omega
end
/-- A row of the call's own strings, as a block. -/
theorem OwnK.rowS {w : World} {n g len cap : Nat} {l : List ByteArray} (h : OwnK TxC w n 9 1 (.slice (some ⟨g, 0, none⟩) len cap) l) (hlen : len = l.length) : RowS w g l := by
  subst hlen
  obtain ⟨cur, hc⟩ := h.typ (g := g) rfl
  have hd : ∀ (i : Nat) d, l[i]? = some d → cur[i]? = some (.string d) := fun i d hi => by
    obtain ⟨c, _, hcell, hat⟩ := h.cell hi
    have := hcell 0 (by decide)
    rw [block_at hc] at this
    unfold TxC at hat
    subst hat
    simpa using this
  refine ⟨cur, hc, ?_, hd⟩
  rcases Nat.eq_zero_or_pos l.length with h0 | h0
  · omega
  · have h2 := hd (l.length - 1) _ (List.getElem?_eq_getElem (by omega))
    have := (Array.getElem?_eq_some_iff.1 h2).1
    omega
theorem RowS.strs {w : World} {g cap : Nat} {l : List ByteArray} (h : RowS w g l) (hs : ∀ s ∈ l, s.size ≤ maxLen) (hl : l.length ≤ 16777216) : Strs w (.slice (some ⟨g, 0, none⟩) l.length cap) l := by
  refine ⟨_, g, 0, cap, rfl, fun _ => rfl, by omega, hs, fun j hj => ?_⟩
  have := h.cell (List.getElem?_eq_getElem hj)
  rw [Nat.zero_add, this, List.getD_eq_getElem?_getD, List.getElem?_eq_getElem hj, Option.getD_some]
theorem OwnK.ces {w : World} {n : Nat} {v : Value} {l : List Ce} (h : OwnK CeC w n 46 3 v l) (hI : ∀ c ∈ l, I64 c.val) (hl : l.length ≤ 16777216) : CesAt w v l := by
  rcases h.shape with ⟨rfl, rfl⟩ | ⟨g, cap, rfl, _, _, _, _⟩
  · exact ⟨none, 0, 0, 0, rfl, fun h => absurd h (by simp), by simp, fun i x hx => absurd hx (by simp)⟩
  · refine ⟨_, g, 0, cap, rfl, fun _ => rfl, by omega, fun i x hx => ?_⟩
    obtain ⟨c, _, hcell, hat⟩ := h.cell hx
    unfold CeC at hat
    subst hat
    have h0 := hcell 0 (by decide)
    have h1 := hcell 1 (by decide)
    have h2 := hcell 2 (by decide)
    rw [Nat.zero_add]
    exact ⟨hI x (List.mem_of_getElem? hx), h0, h1, h2⟩
/-- The slice v is a list of prints. -/
def PrsAt (w : World) (v : Value) (l : List (ByteArray × Int)) : Prop :=
  ∃ (a : Option Addr) (b off cap : Nat), v = .slice a l.length cap ∧ (0 < l.length → a = some ⟨b, off, none⟩) ∧ l.length ≤ 9223372036854775807 ∧
    ∀ (i : Nat) (x : ByteArray × Int), l[i]? = some x → w.cell? ⟨b, off + i * 2, none⟩ = some (.string x.1) ∧ w.cell? ⟨b, off + i * 2 + 1, none⟩ = some (.int .i64 x.2)
theorem PrsAt.below {w w' : World} {v : Value} {l : List (ByteArray × Int)} (h : PrsAt w v l) (hb : Below w.heap.size w w') : PrsAt w' v l := by
  obtain ⟨a, b, off, cap, e, h0, hl, h1⟩ := h
  refine ⟨a, b, off, cap, e, h0, hl, fun i x hx => ?_⟩
  obtain ⟨g0, g1⟩ := h1 i x hx
  exact ⟨cellUp g0 hb, cellUp g1 hb⟩
theorem OwnK.prs {w : World} {n : Nat} {v : Value} {l : List (ByteArray × Int)} (h : OwnK PrC w n 49 2 v l) (hl : l.length ≤ 16777216) : PrsAt w v l := by
  rcases h.shape with ⟨rfl, rfl⟩ | ⟨g, cap, rfl, _, _, _, _⟩
  · exact ⟨none, 0, 0, 0, rfl, fun h => absurd h (by simp), by simp, fun i x hx => absurd hx (by simp)⟩
  · refine ⟨_, g, 0, cap, rfl, fun _ => rfl, by omega, fun i x hx => ?_⟩
    obtain ⟨c, _, hcell, hat⟩ := h.cell hx
    unfold PrC at hat
    subst hat
    have h0 := hcell 0 (by decide)
    have h1 := hcell 1 (by decide)
    rw [Nat.zero_add]
    exact ⟨h0, h1⟩

/-- An outcome in memory of a run's own, from block n on. -/
structure OcAt (w : World) (n : Nat) (r : Rn.Res) (v1 v2 v3 : Value) : Prop where
  st : OwnK CeC w n 46 3 v1 r.sto
  pr : OwnK PrC w n 49 2 v2 r.pr
  di : (r.did = [] ∧ v3 = .slice none 0 0) ∨ ∃ g cap, v3 = .slice (some ⟨g, 0, none⟩) r.did.length cap ∧ n ≤ g ∧ RowS w g r.did
theorem RowS.other {w : World} {g B : Nat} {l : List ByteArray} (h : RowS w g l) (hB : B ≠ g) (i : Nat) (x : Value) : RowS (w.setCell ⟨B, i, none⟩ x) g l := by
  obtain ⟨cur, hc, h1⟩ := h
  exact ⟨cur, block_other hc (fun e => hB e.symm) _, h1⟩
theorem OcAt.below {w w' : World} {n : Nat} {r : Rn.Res} {v1 v2 v3 : Value} (h : OcAt w n r v1 v2 v3) (hb : Below w.heap.size w w') : OcAt w' n r v1 v2 v3 := by
  refine ⟨h.st.below hb, h.pr.below hb, ?_⟩
  rcases h.di with h1 | ⟨g, cap, h1, h2, h3⟩
  · exact Or.inl h1
  · exact Or.inr ⟨g, cap, h1, h2, h3.below hb⟩
theorem OcAt.set {w : World} {n B : Nat} {r : Rn.Res} {v1 v2 v3 : Value} (h : OcAt w n r v1 v2 v3) (hB : B < n) (i : Nat) (x : Value) : OcAt (w.setCell ⟨B, i, none⟩ x) n r v1 v2 v3 := by
  refine ⟨h.st.set (fun e => ?_) x, h.pr.set (fun e => ?_) x, ?_⟩
  · have := (h.st.lt _ e).1
    simp only at this
    omega
  · have := (h.pr.lt _ e).1
    simp only at this
    omega
  · rcases h.di with h1 | ⟨g, cap, h1, h2, h3⟩
    · exact Or.inl h1
    · exact Or.inr ⟨g, cap, h1, h2, h3.other (by omega) i x⟩
/-- An outcome in memory. -/
def OutAt (w : World) (r : Rn.Res) (v1 v2 v3 : Value) : Prop := CesAt w v1 r.sto ∧ PrsAt w v2 r.pr ∧ Strs w v3 r.did
theorem OutAt.below {w w' : World} {r : Rn.Res} {v1 v2 v3 : Value} (h : OutAt w r v1 v2 v3) (hb : Below w.heap.size w w') : OutAt w' r v1 v2 v3 := ⟨h.1.below hb, h.2.1.below hb, h.2.2.below hb⟩
theorem OutAt.bad (w : World) (e : Int) : OutAt w (Rn.bad e) (.slice none 0 0) (.slice none 0 0) (.slice none 0 0) :=
  ⟨⟨none, 0, 0, 0, rfl, fun h => absurd h (by simp [Rn.bad]), by simp [Rn.bad], fun i x hx => absurd hx (by simp [Rn.bad])⟩, ⟨none, 0, 0, 0, rfl, fun h => absurd h (by simp [Rn.bad]), by simp [Rn.bad], fun i x hx => absurd hx (by simp [Rn.bad])⟩, ⟨none, 0, 0, 0, rfl, fun h => absurd h (by simp [Rn.bad]), by simp [Rn.bad], fun s hs => absurd hs (by simp [Rn.bad]), fun j hj => absurd hj (by simp [Rn.bad])⟩⟩
/-- What an outcome must be, to be one that can be told. -/
structure ResOk (r : Rn.Res) : Prop where
  vals : ∀ c ∈ r.sto, I64 c.val
  lens : r.sto.length ≤ 16777216 ∧ r.pr.length ≤ 16777216 ∧ r.did.length ≤ 16777216
  texts : ∀ t ∈ r.did, t.size ≤ maxLen
theorem OcAt.out {w : World} {n : Nat} {r : Rn.Res} {v1 v2 v3 : Value} (h : OcAt w n r v1 v2 v3) (hr : ResOk r) : OutAt w r v1 v2 v3 := by
  refine ⟨h.st.ces hr.vals hr.lens.1, h.pr.prs hr.lens.2.1, ?_⟩
  rcases h.di with ⟨h1, rfl⟩ | ⟨g, cap, rfl, h2, h3⟩
  · rw [h1]
    exact ⟨none, 0, 0, 0, rfl, fun h => absurd h (by simp), by simp, fun s hs => absurd hs (by simp), fun j hj => absurd hj (by simp)⟩
  · exact h3.strs hr.texts hr.lens.2.2

end Go.Proofs.YtbncnkfogkhoeabGreatDoor
