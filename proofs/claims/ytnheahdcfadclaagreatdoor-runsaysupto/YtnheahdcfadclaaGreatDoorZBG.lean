/- Strings are sorted. -/
import Derived.Test.YtnheahdcfadclaaGreatDoorZBF
import Derived.Test.YtnheahdcfadclaaGreatDoorYS
import Derived.Shelf.Sort.Plain
import Derived.Shelf.Slices.In.SortNone
import Derived.Test.YtnheahdcfadclaaGreatDoorZAX
import Derived.Test.YtnheahdcfadclaaGreatDoorDK
import Derived.Test.YtnheahdcfadclaaGreatDoorZBE
import Derived.Test.YtnheahdcfadclaaGreatDoorDH
import Derived.Test.YtnheahdcfadclaaGreatDoorZAY
namespace Go.Proofs.YtnheahdcfadclaaGreatDoor
open Go.RowKit Go.Shelf

theorem RowS.holds {w : World} {g : Nat} {l : List ByteArray} (h : RowS w g l) : Sort.Holds encStr w g 0 (l.map (·.data.toList)).toArray := by
  obtain ⟨cur, hc, hsz, hel⟩ := h
  intro j hj
  have hjl : j < l.length := by simpa using hj
  refine ⟨?_, block_free hc _⟩
  rw [Nat.zero_add, block_at hc, hel j _ (List.getElem?_eq_getElem hjl)]
  congr 1
  simp [hjl]
theorem RowS.of_put {w : World} {g n : Nat} {l : List ByteArray} {os : Array Obj} {b : List (List UInt8)} (h : RowS w g l) (hb : b.length = l.length) : RowS (Sort.grow (Sort.putRow encStr (Sort.ahead w n) g 0 b.toArray) os) g (b.map fun x => ⟨x.toArray⟩) := by
  obtain ⟨cur, hc, hsz, hel⟩ := h
  have hg := block_lt hc
  have hblk : (Sort.grow (Sort.putRow encStr (Sort.ahead w n) g 0 b.toArray) os).heap[g]? = some (.cells (Sort.putCells encStr 0 b.toArray cur) 9 (0, 0)) := by
    simp only [Sort.grow, Sort.putRow, Sort.mapBlock, Sort.ahead]
    rw [Array.getElem?_append_left (by simpa using hg)]
    simp [Array.getElem?_modify, hc, Sort.onCells]
  refine ⟨_, hblk, by simp only [Sort.putCells, Array.size_mapIdx, List.length_map]; omega, fun i d hd => ?_⟩
  have hi : i < b.length := by simpa using (List.getElem?_eq_some_iff.1 hd).1
  rw [List.getElem?_map, List.getElem?_eq_getElem hi] at hd
  simp at hd
  subst hd
  have hic : i < cur.size := by omega
  simp [Sort.putCells, hic, hi]
/-- What a sort leaves. -/
theorem sortS_any (w : World) (g len cap : Nat) (l : List ByteArray) (h : RowS w g l) (hlen : len = l.length) (hl : l.length ≤ 16777216) :
    Calls Tryz.prog 68 #[.slice (some ⟨g, 0, none⟩) len cap] w fun e w' => e = .returned (.tuple #[]) ∧ RowS w' g (Rn.srtS l) ∧ But g w w' := by
  subst hlen
  have h0 := h
  obtain ⟨cur, hc, hsz, hel⟩ := h
  have hcon := Any.slices_Sort_string Tryz.lSoS g 0 cap (l.map (·.data.toList)) w h0.holds (block_lt hc) (by simp; omega)
  rw [List.length_map] at hcon
  refine Calls.mono (show Calls Tryz.prog 68 #[.slice (some ⟨g, 0, none⟩) l.length cap] w _ from hcon) ?_
  rintro e w' ⟨he, k, os, rfl⟩
  refine ⟨he, h0.of_put (by rw [List.length_mergeSort, List.length_map]), rfl, rfl, rfl, ?_, fun j hj hp => ?_⟩
  · simp [Sort.grow, Sort.putRow, Sort.mapBlock, Sort.ahead]
  · have hg := block_lt hc
    simp only [Sort.grow, Sort.putRow, Sort.mapBlock, Sort.ahead]
    rw [Array.getElem?_append_left (by simp; omega)]
    simp [Array.getElem?_modify]
    intro e'; exact absurd e'.symm hp
theorem sortS_none (w : World) (p : Option Addr) (cap : Nat) : Calls Tryz.prog 68 #[.slice p 0 cap] w fun e w' => e = .returned (.tuple #[]) ∧ w' = w :=
  Any.slices_Sort_string_none Tryz.lSoS p cap w

end Go.Proofs.YtnheahdcfadclaaGreatDoor

/- Running functions: how an outcome lies in memory while it is made. -/
namespace Go.Proofs.YtnheahdcfadclaaGreatDoor
open Go.RowKit Go.Maps

def CeC (c : List Value) (d : Ce) : Prop := c = [.string d.mod, .string d.name, .int .i64 d.val]
def TxC (c : List Value) (d : ByteArray) : Prop := c = [.string d]
theorem CeC.one {c : List Value} {d : Ce} (h : CeC c d) : ∀ u ∈ c, u.oneCell' = true := by
  unfold CeC at h
  subst h
  intro u hu
  simp at hu
  rcases hu with rfl | rfl | rfl <;> rfl
theorem TxC.one {c : List Value} {d : ByteArray} (h : TxC c d) : ∀ u ∈ c, u.oneCell' = true := by
  unfold TxC at h
  subst h
  intro u hu
  simp at hu
  subst hu
  rfl
theorem infoCe : (Tryz.prog.info? 59).map (fun i => (i.zero, i.size, i.bytes)) = some (some (.agg #[.string ⟨#[]⟩, .string ⟨#[]⟩, .int .i64 0]), 3, 40) := by kernel_rfl
theorem OwnK.kp {α : Type} {At : List Value → α → Prop} {w w' : World} {n e k : Nat} {v : Value} {l : List α} {c : Cfg} {nm : List (ByteArray × ByteArray)} {s : Rn.Sta} (h : OwnK At w n e k v l) (hk : Kp c none w w') (hm : MaAt w c nm s) (h0 : e ≠ 62) (h1 : e ≠ 224) (h2 : e ≠ 236) : OwnK At w' n e k v l := by
  obtain ⟨cs, ⟨a1, a2⟩, r⟩ := h
  refine ⟨cs, ⟨a1, ?_⟩, r⟩
  rcases a2 with a2 | ⟨g, cap, cur, hv, hg, hh, r'⟩
  · exact Or.inl a2
  · exact Or.inr ⟨g, cap, cur, hv, hg, hk.cells hm hh h0 h1 h2 (by simp), r'⟩
/-- An outcome that is being made: its result's block, its own block, the rows of its store and of what was done. -/
structure OcI (w wx : World) (R : Int) (vp : Value) (cs : List Ce) (ds : List ByteArray) (vs vd : Value) : Prop where
  res : wx.heap[w.heap.size]? = some (.cells #[.int .i64 0, .slice none 0 0, .slice none 0 0, .slice none 0 0] 51 (0, 0))
  loc : wx.heap[w.heap.size + 1]? = some (.cells #[.int .i64 R, vs, vp, vd] 51 (0, 0))
  st : OwnK CeC wx (w.heap.size + 2) 59 3 vs cs
  di : OwnK TxC wx (w.heap.size + 2) 9 1 vd ds
  bel : Below w.heap.size w wx
  siz : w.heap.size + 2 ≤ wx.heap.size
theorem OcI.below {w wx wy : World} {R : Int} {vp vs vd : Value} {cs : List Ce} {ds : List ByteArray} (h : OcI w wx R vp cs ds vs vd) (hb : Below wx.heap.size wx wy) : OcI w wy R vp cs ds vs vd :=
  ⟨by rw [hb.block _ (block_lt h.res)]; exact h.res, by rw [hb.block _ (block_lt h.loc)]; exact h.loc, h.st.below hb, h.di.below hb, up h.bel hb, Nat.le_trans h.siz hb.size⟩
theorem OcI.new (w : World) (R : Int) (vp : Value) : OcI w ((w.alloc (.cells #[.int .i64 0, .slice none 0 0, .slice none 0 0, .slice none 0 0] 51)).alloc (.cells #[.int .i64 R, .slice none 0 0, vp, .slice none 0 0] 51)) R vp [] [] (.slice none 0 0) (.slice none 0 0) := by
  have e1 := block_new w (.cells #[.int .i64 0, .slice none 0 0, .slice none 0 0, .slice none 0 0] 51)
  have e2 := block_new (w.alloc (.cells #[.int .i64 0, .slice none 0 0, .slice none 0 0, .slice none 0 0] 51)) (.cells #[.int .i64 R, .slice none 0 0, vp, .slice none 0 0] 51)
  rw [World.size_alloc] at e2
  exact ⟨block_alloc e1 _, e2, OwnK.nil _ _ _ _, OwnK.nil _ _ _ _, up (boxBelow _ _) (boxBelow _ _), by simp⟩
section
variable {w wx w7 : World} {R : Int} {vp vs vd v7 : Value} {cs : List Ce} {ds : List ByteArray} {ob : Obj}
/-- A cell more. -/
theorem OcI.pushC {y : Ce} (h : OcI w wx R vp cs ds vs vd) (hown : OwnK CeC w7 (w.heap.size + 2) 59 3 v7 (cs ++ [y])) (hg : (wx.alloc ob).grownBy w7 vs.ownBlock) :
    w7.heap[w.heap.size + 1]? = some (.cells #[.int .i64 R, vs, vp, vd] 51 (0, 0)) ∧ OcI w (w7.setCell ⟨w.heap.size + 1, 1, none⟩ v7) R vp (cs ++ [y]) ds v7 vd ∧ Below w.heap.size w w7 := by
  have cel : ∀ {k : Nat} {c : Array Value} {t : TypeId} {fz : Nat × Nat}, wx.heap[k]? = some (.cells c t fz) → t ≠ 59 → w7.heap[k]? = some (.cells c t fz) := fun {k c t fz} ho ht => by
    rw [hg.block k (by have := block_lt ho; have := (boxBelow wx ob).size; omega) (fun e => by
      obtain ⟨cur, hc⟩ := h.st.typ e.symm
      rw [ho] at hc
      injection hc with hc
      injection hc with _ hc
      exact ht hc)]
    exact block_alloc ho ob
  have l7 := cel h.loc (by decide)
  have b7 : Below w.heap.size w w7 := (h.bel.trans ((boxBelow wx ob).mono (by have := h.siz; omega))).grown hg (by have := h.siz; have := (boxBelow wx ob).size; omega) (fun k e => by have := (h.st.lt k e).1; omega)
  have d7 : OwnK TxC w7 (w.heap.size + 2) 9 1 vd ds := (h.di.below (boxBelow wx ob)).grown hg (fun g hv e => by
    obtain ⟨c1, t1⟩ := h.di.typ hv
    obtain ⟨c2, t2⟩ := h.st.typ e
    rw [t1] at t2
    injection t2 with t2
    injection t2 with _ t2
    exact absurd t2 (by decide))
  refine ⟨l7, ⟨block_other (cel h.res (by decide)) (by simp) _, (block_set l7 1 _).trans rfl, hown.set (hown.apart l7 (by decide)) _, d7.set (d7.apart l7 (by decide)) _, b7.setCell (by simp) _, ?_⟩, b7⟩
  have h1 := hg.size
  have h2 := (boxBelow wx ob).size
  have h3 := h.siz
  simp only [World.setCell, Array.size_modify]
  omega
/-- A text more. -/
theorem OcI.pushD {y : ByteArray} (h : OcI w wx R vp cs ds vs vd) (hown : OwnK TxC w7 (w.heap.size + 2) 9 1 v7 (ds ++ [y])) (hg : (wx.alloc ob).grownBy w7 vd.ownBlock) :
    w7.heap[w.heap.size + 1]? = some (.cells #[.int .i64 R, vs, vp, vd] 51 (0, 0)) ∧ OcI w (w7.setCell ⟨w.heap.size + 1, 3, none⟩ v7) R vp cs (ds ++ [y]) vs v7 ∧ Below w.heap.size w w7 := by
  have cel : ∀ {k : Nat} {c : Array Value} {t : TypeId} {fz : Nat × Nat}, wx.heap[k]? = some (.cells c t fz) → t ≠ 9 → w7.heap[k]? = some (.cells c t fz) := fun {k c t fz} ho ht => by
    rw [hg.block k (by have := block_lt ho; have := (boxBelow wx ob).size; omega) (fun e => by
      obtain ⟨cur, hc⟩ := h.di.typ e.symm
      rw [ho] at hc
      injection hc with hc
      injection hc with _ hc
      exact ht hc)]
    exact block_alloc ho ob
  have l7 := cel h.loc (by decide)
  have b7 : Below w.heap.size w w7 := (h.bel.trans ((boxBelow wx ob).mono (by have := h.siz; omega))).grown hg (by have := h.siz; have := (boxBelow wx ob).size; omega) (fun k e => by have := (h.di.lt k e).1; omega)
  have d7 : OwnK CeC w7 (w.heap.size + 2) 59 3 vs cs := (h.st.below (boxBelow wx ob)).grown hg (fun g hv e => by
    obtain ⟨c1, t1⟩ := h.st.typ hv
    obtain ⟨c2, t2⟩ := h.di.typ e
    rw [t1] at t2
    injection t2 with t2
    injection t2 with _ t2
    exact absurd t2 (by decide))
  refine ⟨l7, ⟨block_other (cel h.res (by decide)) (by simp) _, (block_set l7 3 _).trans rfl, d7.set (d7.apart l7 (by decide)) _, hown.set (hown.apart l7 (by decide)) _, b7.setCell (by simp) _, ?_⟩, b7⟩
  have h1 := hg.size
  have h2 := (boxBelow wx ob).size
  have h3 := h.siz
  simp only [World.setCell, Array.size_modify]
  omega
end
/-- A row of the call's own strings, as a block. -/
theorem OwnK.rowS {w : World} {n g len cap : Nat} {l : List ByteArray} (h : OwnK TxC w n 9 1 (.slice (some ⟨g, 0, none⟩) len cap) l) (hlen : len = l.length) : RowS w g l := by
  subst hlen
  obtain ⟨cur, hc⟩ := h.typ (g := g) rfl
  have hd : ∀ (i : Nat) d, l[i]? = some d → cur[i]? = some (.string d) := fun i d hi => by
    obtain ⟨c, _, hcell, hat⟩ := h.cell hi
    have := hcell 0 (by decide)
    rw [block_at hc] at this
    unfold TxC at hat
    subst hat
    simpa using this
  refine ⟨cur, hc, ?_, hd⟩
  rcases Nat.eq_zero_or_pos l.length with h0 | h0
  · omega
  · have h2 := hd (l.length - 1) _ (List.getElem?_eq_getElem (by omega))
    have := (Array.getElem?_eq_some_iff.1 h2).1
    omega
theorem RowS.strs {w : World} {g cap : Nat} {l : List ByteArray} (h : RowS w g l) (hs : ∀ s ∈ l, s.size ≤ maxLen) (hl : l.length ≤ 16777216) : Strs w (.slice (some ⟨g, 0, none⟩) l.length cap) l := by
  refine ⟨_, g, 0, cap, rfl, fun _ => rfl, by omega, hs, fun j hj => ?_⟩
  have := h.cell (List.getElem?_eq_getElem hj)
  rw [Nat.zero_add, this, List.getD_eq_getElem?_getD, List.getElem?_eq_getElem hj, Option.getD_some]
theorem OwnK.ces {w : World} {n : Nat} {v : Value} {l : List Ce} (h : OwnK CeC w n 59 3 v l) (hI : ∀ c ∈ l, I64 c.val) (hl : l.length ≤ 16777216) : CesAt w v l := by
  rcases h.shape with ⟨rfl, rfl⟩ | ⟨g, cap, rfl, _, _, _, _⟩
  · exact ⟨none, 0, 0, 0, rfl, fun h => absurd h (by simp), by simp, fun i x hx => absurd hx (by simp)⟩
  · refine ⟨_, g, 0, cap, rfl, fun _ => rfl, by omega, fun i x hx => ?_⟩
    obtain ⟨c, _, hcell, hat⟩ := h.cell hx
    unfold CeC at hat
    subst hat
    have h0 := hcell 0 (by decide)
    have h1 := hcell 1 (by decide)
    have h2 := hcell 2 (by decide)
    rw [Nat.zero_add]
    exact ⟨hI x (List.mem_of_getElem? hx), h0, h1, h2⟩
/-- The slice v is a list of prints. -/
def PrsAt (w : World) (v : Value) (l : List (ByteArray × Int)) : Prop :=
  ∃ (a : Option Addr) (b off cap : Nat), v = .slice a l.length cap ∧ (0 < l.length → a = some ⟨b, off, none⟩) ∧ l.length ≤ 9223372036854775807 ∧
    ∀ (i : Nat) (x : ByteArray × Int), l[i]? = some x → w.cell? ⟨b, off + i * 2, none⟩ = some (.string x.1) ∧ w.cell? ⟨b, off + i * 2 + 1, none⟩ = some (.int .i64 x.2)
theorem PrsAt.below {w w' : World} {v : Value} {l : List (ByteArray × Int)} (h : PrsAt w v l) (hb : Below w.heap.size w w') : PrsAt w' v l := by
  obtain ⟨a, b, off, cap, e, h0, hl, h1⟩ := h
  refine ⟨a, b, off, cap, e, h0, hl, fun i x hx => ?_⟩
  obtain ⟨g0, g1⟩ := h1 i x hx
  exact ⟨cellUp g0 hb, cellUp g1 hb⟩
theorem OwnK.prs {w : World} {n : Nat} {v : Value} {l : List (ByteArray × Int)} (h : OwnK PrC w n 62 2 v l) (hl : l.length ≤ 16777216) : PrsAt w v l := by
  rcases h.shape with ⟨rfl, rfl⟩ | ⟨g, cap, rfl, _, _, _, _⟩
  · exact ⟨none, 0, 0, 0, rfl, fun h => absurd h (by simp), by simp, fun i x hx => absurd hx (by simp)⟩
  · refine ⟨_, g, 0, cap, rfl, fun _ => rfl, by omega, fun i x hx => ?_⟩
    obtain ⟨c, _, hcell, hat⟩ := h.cell hx
    unfold PrC at hat
    subst hat
    have h0 := hcell 0 (by decide)
    have h1 := hcell 1 (by decide)
    rw [Nat.zero_add]
    exact ⟨h0, h1⟩

/-- An outcome in memory of a run's own, from block n on. -/
structure OcAt (w : World) (n : Nat) (r : Rn.Res) (v1 v2 v3 : Value) : Prop where
  st : OwnK CeC w n 59 3 v1 r.sto
  pr : OwnK PrC w n 62 2 v2 r.pr
  di : (r.did = [] ∧ v3 = .slice none 0 0) ∨ ∃ g cap, v3 = .slice (some ⟨g, 0, none⟩) r.did.length cap ∧ n ≤ g ∧ RowS w g r.did
theorem RowS.other {w : World} {g B : Nat} {l : List ByteArray} (h : RowS w g l) (hB : B ≠ g) (i : Nat) (x : Value) : RowS (w.setCell ⟨B, i, none⟩ x) g l := by
  obtain ⟨cur, hc, h1⟩ := h
  exact ⟨cur, block_other hc (fun e => hB e.symm) _, h1⟩
theorem OcAt.below {w w' : World} {n : Nat} {r : Rn.Res} {v1 v2 v3 : Value} (h : OcAt w n r v1 v2 v3) (hb : Below w.heap.size w w') : OcAt w' n r v1 v2 v3 := by
  refine ⟨h.st.below hb, h.pr.below hb, ?_⟩
  rcases h.di with h1 | ⟨g, cap, h1, h2, h3⟩
  · exact Or.inl h1
  · exact Or.inr ⟨g, cap, h1, h2, h3.below hb⟩
theorem OcAt.set {w : World} {n B : Nat} {r : Rn.Res} {v1 v2 v3 : Value} (h : OcAt w n r v1 v2 v3) (hB : B < n) (i : Nat) (x : Value) : OcAt (w.setCell ⟨B, i, none⟩ x) n r v1 v2 v3 := by
  refine ⟨h.st.set (fun e => ?_) x, h.pr.set (fun e => ?_) x, ?_⟩
  · have := (h.st.lt _ e).1
    simp only at this
    omega
  · have := (h.pr.lt _ e).1
    simp only at this
    omega
  · rcases h.di with h1 | ⟨g, cap, h1, h2, h3⟩
    · exact Or.inl h1
    · exact Or.inr ⟨g, cap, h1, h2, h3.other (by omega) i x⟩
/-- An outcome in memory. -/
def OutAt (w : World) (r : Rn.Res) (v1 v2 v3 : Value) : Prop := CesAt w v1 r.sto ∧ PrsAt w v2 r.pr ∧ Strs w v3 r.did
theorem OutAt.below {w w' : World} {r : Rn.Res} {v1 v2 v3 : Value} (h : OutAt w r v1 v2 v3) (hb : Below w.heap.size w w') : OutAt w' r v1 v2 v3 := ⟨h.1.below hb, h.2.1.below hb, h.2.2.below hb⟩
theorem OutAt.bad (w : World) (e : Int) : OutAt w (Rn.bad e) (.slice none 0 0) (.slice none 0 0) (.slice none 0 0) :=
  ⟨⟨none, 0, 0, 0, rfl, fun h => absurd h (by simp [Rn.bad]), by simp [Rn.bad], fun i x hx => absurd hx (by simp [Rn.bad])⟩, ⟨none, 0, 0, 0, rfl, fun h => absurd h (by simp [Rn.bad]), by simp [Rn.bad], fun i x hx => absurd hx (by simp [Rn.bad])⟩, ⟨none, 0, 0, 0, rfl, fun h => absurd h (by simp [Rn.bad]), by simp [Rn.bad], fun s hs => absurd hs (by simp [Rn.bad]), fun j hj => absurd hj (by simp [Rn.bad])⟩⟩
/-- What an outcome must be, to be one that can be told. -/
structure ResOk (r : Rn.Res) : Prop where
  vals : ∀ c ∈ r.sto, I64 c.val
  lens : r.sto.length ≤ 16777216 ∧ r.pr.length ≤ 16777216 ∧ r.did.length ≤ 16777216
  texts : ∀ t ∈ r.did, t.size ≤ maxLen
theorem OcAt.out {w : World} {n : Nat} {r : Rn.Res} {v1 v2 v3 : Value} (h : OcAt w n r v1 v2 v3) (hr : ResOk r) : OutAt w r v1 v2 v3 := by
  refine ⟨h.st.ces hr.vals hr.lens.1, h.pr.prs hr.lens.2.1, ?_⟩
  rcases h.di with ⟨h1, rfl⟩ | ⟨g, cap, rfl, h2, h3⟩
  · rw [h1]
    exact ⟨none, 0, 0, 0, rfl, fun h => absurd h (by simp), by simp, fun s hs => absurd hs (by simp), fun j hj => absurd hj (by simp)⟩
  · exact h3.strs hr.texts hr.lens.2.2

end Go.Proofs.YtnheahdcfadclaaGreatDoor

/- Running functions by the document: the cells that are being laid; a call whose arguments don't fit; all functions by induction. -/
namespace Go.Proofs.YtnheahdcfadclaaGreatDoor
open Go.RowKit

/-- Cells that are being laid: of a world whose block is the first behind W. -/
structure CbI (W wx : World) (vl : Value) (fuel : Nat) (T : List Ce) (vc : Value) : Prop where
  bel : Below W.heap.size W wx
  blk : wx.heap[W.heap.size]? = some (.cells #[vl, vc, .int .i64 0, .slice none 0 0, .slice none 0 0, .slice none 0 0, .int .i64 fuel] 138 (0, 0))
  row : OwnK CeC wx W.heap.size 59 3 vc T
theorem CbI.below {W wx wy : World} {vl vc : Value} {fuel : Nat} {T : List Ce} (h : CbI W wx vl fuel T vc) (hb : Below wx.heap.size wx wy) : CbI W wy vl fuel T vc := ⟨up h.bel hb, at_upD h.blk hb, h.row.below hb⟩
theorem CbI.new (W : World) (vl : Value) (fuel : Nat) : CbI W (W.alloc (.cells #[vl, .slice none 0 0, .int .i64 0, .slice none 0 0, .slice none 0 0, .slice none 0 0, .int .i64 fuel] 138)) vl fuel [] (.slice none 0 0) := ⟨boxBelow _ _, block_new _ _, OwnK.nil _ _ _ _⟩
/-- Seen as a run's world. -/
theorem CbI.dom {W wx : World} {vl vc : Value} {fuel : Nat} {T : List Ce} (h : CbI W wx vl fuel T vc) {nm : List (ByteArray × ByteArray)} {vs : List Rn.Vr} {ex : List Ce} (hT : T = Rn.sto nm vs ++ ex) (hf : fuel ≤ 10000) (hl : vs.length = nm.length) (hv : ∀ v ∈ vs, I64 v.val) (hn : nm.length + ex.length ≤ 1000) (h8 : ∀ x ∈ nm, x.1.size ≤ 8 ∧ x.2.size ≤ 8) :
    ∃ cb, DoM wx ⟨W.heap.size, W.heap.size, cb, vl, vc, ex⟩ nm ⟨fuel, vs, []⟩ (.slice none 0 0) (.slice none 0 0) [] := by
  have hOwn : Own wx W.heap.size (.slice none 0 0) [] := ⟨by simp, Or.inl ⟨rfl, rfl⟩⟩
  rcases h.row.shape with ⟨hvc, hnil⟩ | ⟨g, cap, hvc, _, hg, _, _⟩
  · exact ⟨W.heap.size, ⟨Nat.le_refl _, h.blk, OwnK.nil _ _ _ _, hOwn, Nat.le_refl _, Or.inl ⟨by show Rn.sto nm vs ++ ex = []; rw [← hT]; exact hnil, hvc, rfl⟩, hl, hv, by show 0 + fuel ≤ 10000; omega, by simp, hn, h8, fun t ht => absurd ht (by simp)⟩⟩
  · have hrow := h.row
    rw [hvc] at hrow
    obtain ⟨cur, hc⟩ := hrow.typ (g := g) rfl
    refine ⟨g, ⟨Nat.le_refl _, h.blk, OwnK.nil _ _ _ _, hOwn, hg, Or.inr ⟨cap, cur, by rw [hvc]; show Value.slice _ T.length cap = .slice _ (Rn.sto nm vs ++ ex).length cap; rw [hT], hc, fun i x hx => ?_⟩, hl, hv, by show 0 + fuel ≤ 10000; omega, by simp, hn, h8, fun t ht => absurd ht (by simp)⟩⟩
    have hx' : T[i]? = some x := by rw [hT]; exact hx
    obtain ⟨c, _, hcell, hat⟩ := hrow.cell hx'
    unfold CeC at hat
    subst hat
    have h0 := hcell 0 (by decide)
    have h1 := hcell 1 (by decide)
    have h2 := hcell 2 (by decide)
    rw [block_at hc] at h0 h1 h2
    exact ⟨h0, h1, h2⟩
/-- A cell more. -/
theorem CbI.push {W wx w7 : World} {vl vc v7 : Value} {fuel : Nat} {T : List Ce} {y : Ce} {ob : Obj} (h : CbI W wx vl fuel T vc) (hown : OwnK CeC w7 W.heap.size 59 3 v7 (T ++ [y])) (hg : (wx.alloc ob).grownBy w7 vc.ownBlock) :
    w7.heap[W.heap.size]? = some (.cells #[vl, vc, .int .i64 0, .slice none 0 0, .slice none 0 0, .slice none 0 0, .int .i64 fuel] 138 (0, 0)) ∧ CbI W (w7.setCell ⟨W.heap.size, 1, none⟩ v7) vl fuel (T ++ [y]) v7 := by
  have hp7 := grown_keep (boxBelow wx ob) hg W.heap.size _ h.blk (h.row.apart h.blk (by decide))
  have hv7 : v7.ownBlock ≠ some W.heap.size := hown.apart hp7 (by decide)
  refine ⟨hp7, ⟨?_, (block_set hp7 1 _).trans rfl, hown.sameK (fun g ob hg' ho => block_other ho (fun e => hv7 (by rw [hg']; exact congrArg some e)) _)⟩⟩
  have hW : W.heap.size ≤ wx.heap.size := h.bel.size
  exact ((h.bel.alloc hW ob).grown hg (Nat.le_trans hW (boxBelow wx ob).size) (fun k hk => (h.row.lt k hk).1)).setCell (Nat.le_refl _) _

set_option maxHeartbeats 4000000 in
set_option maxRecDepth 100000 in
/-- A call whose arguments are more, or less, than the function's. -/
theorem dcall_len (W w : World) (c : Dc) (m : Nat) (x : Mo) (f : Nat) (fu : Fu) (args : List Int) (va vi vv vf : Value) (hbel : Below W.heap.size W w) (hmo : MoAt W m (.agg #[.string x.name, vi, vv, vf]) x) (hfu : x.funs[f]? = some fu) (hva : Ints w va args) (hlen : fu.params.length ≠ args.length) :
    Calls Tryz.prog 67 #[.pointer (some ⟨c.p, 0, none⟩), .agg #[.string x.name, vi, vv, vf], .int .i64 f, va] w fun r w' => r = .returned (.tuple #[.int .i64 0, .int .i64 5]) ∧ Below w.heap.size w w' := by
  have hf : f < x.funs.length := (List.getElem?_eq_some_iff.1 hfu).1
  obtain ⟨fa, fb, fo, fc, rfl, hfa, hfl, hfe⟩ := hmo.split.2.2
  obtain ⟨hfn, vpar, vbo, e0, e1, e2, e3, g0, g1, g2, g3, g4, g5, g6, hpar, hbo, hre⟩ := hfe f fu hfu
  obtain ⟨pa, pb, po, pc, rfl, -, hpl, -⟩ := hpar
  obtain ⟨ba, bc, rfl, hbl⟩ := hbo.shape
  obtain ⟨ra, rc, rfl, rfl, rfl, rfl⟩ := hre.shape
  obtain ⟨ia, ib, io, ic, rfl, -⟩ := hmo.split.1
  obtain ⟨vva, vvb, vvo, vvc, rfl, -⟩ := hmo.split.2.1
  obtain ⟨ga, gb, go, gc, rfl, -, hgl, -⟩ := hva
  replace g0 := fun o => cellUp (cellUp g0 hbel) (boxBelow w o)
  replace g1 := fun o => cellUp (cellUp g1 hbel) (boxBelow w o)
  replace g2 := fun o => cellUp (cellUp g2 hbel) (boxBelow w o)
  replace g3 := fun o => cellUp (cellUp g3 hbel) (boxBelow w o)
  replace g4 := fun o => cellUp (cellUp g4 hbel) (boxBelow w o)
  replace g5 := fun o => cellUp (cellUp g5 hbel) (boxBelow w o)
  replace g6 := fun o => cellUp (cellUp g6 hbel) (boxBelow w o)
  obtain ⟨nf, hnf⟩ : ∃ n, n = x.funs.length := ⟨_, rfl⟩
  rw [← hnf] at hf hfa hfl ⊢
  obtain rfl := hfa (by omega)
  generalize fu.params.length = np at *
  generalize args.length = ng at *
  generalize x.imports.length = ni at *
  generalize x.vars.length = nv at *
  generalize fu.body.length = nb at *
  generalize fu.result.args.length = nr at *
  have hff : (f : Int) < (nf : Int) := by omega
  have hn1 : ((np : Int) == (ng : Int)) = false := by rw [beq_eq_false_iff_ne]; omega
  have hn2 : ((np : Int) = (ng : Int)) = False := eq_false (by omega)
  have hb := up (boxBelow w (.cells #[.string x.name, .slice ia ni ic, .slice vva nv vvc, .slice (some ⟨fb, fo, none⟩) nf fc] 26)) (boxBelow _ (.cells #[.string fu.name, .slice pa np pc, .slice ba nb bc, .int .i64 fu.result.kind, .int .i64 fu.result.n, .string fu.result.name, .slice ra nr rc] 102))
  have HB := hide hb
  clear hmo hfe hbo hre hfu hfa hbel hnf hb
  go_enter Tryz.func67, Tryz.ntmps67
  go_wp2_with fail
  go_ret2
  exact ⟨rfl, HB.out⟩

theorem moE_funs {m : Nat} {y : Mo} (h : Lat.moE m y = 0) {f : Nat} {fu : Fu} (hf : y.funs[f]? = some fu) : Lat.bodyB m fu.body = true ∧ Lat.exprB m fu.result = true ∧ fu.params.length ≤ 4 := by
  have h1 := fusE_ok (moE_len h).2 fu (List.mem_of_getElem? hf)
  unfold Lat.fuE at h1
  by_cases h4 : 4 < fu.params.length
  · rw [if_pos h4] at h1; cases h1
  · rw [if_neg h4] at h1
    by_cases hk : Lat.fuOk m fu = true
    · unfold Lat.fuOk at hk
      simp only [Bool.and_eq_true] at hk
      exact ⟨hk.1.1.2, hk.1.2, by omega⟩
    · rw [if_neg hk] at h1; cases h1

/-- All that call each other do what they must. -/
theorem dall_ok (W : World) (c : Dc) (nm : List (ByteArray × ByteArray)) (l : List Mo) (m K : Nat) (hK : m + 2 ≤ K) (hcn : c.n = W.heap.size) (hM : MosAt W m c.vl l) (hG : Firsts nm l) (hO : FunsOk m l) : ∀ g, EvD W c nm l m K (Rn.M nm l g) g ∧ BoD W c nm l m K (Rn.M nm l g) g := by
  intro g
  induction g using Nat.strongRecOn with
  | ind g ih =>
    cases g with
    | zero =>
      refine ⟨fun w s vp vd D q a x f ns vals vns vvs mm c0 c1 c2 c3 e _ hX _ hg => ?_, fun w s vp vd D q a x f ns vals vns vvs mm vb b _ hS _ hg => ?_⟩
      · have : mm = 0 := by omega
        subst this
        exact absurd hX (fun h => h)
      · have : mm = 0 := by omega
        subst this
        exact absurd hS (fun h => h)
    | succ g =>
      obtain ⟨h1, h2⟩ := ih g (Nat.lt_succ_self g)
      have h3 := dcall_step W c nm l m K _ g hcn hM (Rn.M_le nm l g) h1 h2 hO
      exact ⟨dval_step W c nm l m K _ g (by omega) (Rn.M_le nm l g) h1 h3 hG, dbody_step W c nm l m K g (by omega) (fun g' hg => (ih g' (by omega)).1) (fun g' hg => (ih g' (by omega)).2)⟩

end Go.Proofs.YtnheahdcfadclaaGreatDoor

/- Texts sorted, each once: a list without twins, sorted, is any list of the same members, sorted and compacted. Plain mathematics. -/
namespace Go.Proofs.YtnheahdcfadclaaGreatDoor
open Go.RowKit

namespace Rn
def leS (a b : ByteArray) : Prop := a.data.toList ≤ b.data.toList
def ltS (a b : ByteArray) : Prop := leS a b ∧ a ≠ b
theorem leS_trans {a b c : ByteArray} (h : leS a b) (k : leS b c) : leS a c := List.le_trans h k
theorem leS_anti {a b : ByteArray} (h : leS a b) (k : leS b a) : a = b := by
  have e := List.le_antisymm h k
  obtain ⟨⟨x⟩⟩ := a
  obtain ⟨⟨y⟩⟩ := b
  simp at e
  rw [e]
theorem srtS_perm (l : List ByteArray) : (srtS l).Perm l := by
  unfold srtS
  have h := (List.mergeSort_perm (l.map (·.data.toList)) (fun x y => decide (x ≤ y))).map (fun b : List UInt8 => (⟨b.toArray⟩ : ByteArray))
  refine h.trans (List.Perm.of_eq ?_)
  rw [List.map_map]
  have : ((fun b : List UInt8 => (⟨b.toArray⟩ : ByteArray)) ∘ fun x : ByteArray => x.data.toList) = id := by
    funext x
    cases x
    simp
  rw [this, List.map_id]
theorem srtS_asc (l : List ByteArray) : (srtS l).Pairwise leS := by
  unfold srtS
  rw [List.pairwise_map]
  have h := List.pairwise_mergeSort (le := fun x y : List UInt8 => decide (x ≤ y)) (fun a b c h1 h2 => by simp only [decide_eq_true_eq] at *; exact List.le_trans h1 h2) (fun a b => by simp only [Bool.or_eq_true, decide_eq_true_eq]; exact List.le_total a b) (l.map (·.data.toList))
  refine h.imp (fun {a b} hab => ?_)
  unfold leS
  simpa using hab
theorem cptS_asc (l : List ByteArray) (h : l.Pairwise leS) : (cptS l).Pairwise ltS := by
  have key : ∀ j, j ≤ l.length → (cptS (l.take j)).Pairwise ltS := fun j => by
    induction j with
    | zero => intro _; simp [cptS]
    | succ j ih =>
      intro hj
      have hx : l[j]? = some l[j] := List.getElem?_eq_getElem (by omega)
      rw [cptS_take hx]
      have hp := ih (by omega)
      have hle : ∀ z ∈ cptS (l.take j), leS z l[j] := fun z hz => by
        rw [cptS_mem] at hz
        obtain ⟨i, hi, e⟩ := List.mem_iff_getElem.1 hz
        rw [List.length_take] at hi
        rw [List.getElem_take] at e
        rw [← e]
        exact List.pairwise_iff_getElem.1 h i j (by omega) (by omega) (by omega)
      unfold cstS
      split
      · rename_i y hy
        split
        · exact hp
        · rename_i hs
          rw [List.pairwise_append]
          refine ⟨hp, by simp, fun z hz x hx' => ?_⟩
          simp at hx'
          subst hx'
          refine ⟨hle z hz, fun e => hs ?_⟩
          have hyl : leS z y := by
            obtain ⟨pre, hpre⟩ := List.getLast?_eq_some_iff.1 hy
            rw [hpre] at hz hp
            rcases List.mem_append.1 hz with h1 | h1
            · exact ((List.pairwise_append.1 hp).2.2 z h1 y (by simp)).1
            · simp at h1; subst h1; exact List.le_refl _
          have hym : y ∈ cptS (l.take j) := List.mem_of_getLast? hy
          have := leS_anti (hle y hym) (by rw [← e]; exact hyl)
          exact sameB_iff.2 this.symm
      · rename_i hn
        rw [List.getLast?_eq_none_iff] at hn
        rw [hn]
        simp
  have := key l.length (Nat.le_refl _)
  rwa [List.take_length] at this
theorem ltS_unique : ∀ {l1 l2 : List ByteArray}, l1.Pairwise ltS → l2.Pairwise ltS → (∀ x, x ∈ l1 ↔ x ∈ l2) → l1 = l2
  | [], [], _, _, _ => rfl
  | [], y :: _, _, _, h => absurd ((h y).2 (by simp)) (by simp)
  | x :: _, [], _, _, h => absurd ((h x).1 (by simp)) (by simp)
  | x :: r, y :: s, h1, h2, h => by
    have a1 := List.pairwise_cons.1 h1
    have a2 := List.pairwise_cons.1 h2
    have hxy : x = y := by
      rcases List.mem_cons.1 ((h x).1 (by simp)) with e | hx
      · exact e
      · rcases List.mem_cons.1 ((h y).2 (by simp)) with e | hy
        · exact e.symm
        · exact leS_anti (a1.1 y hy).1 (a2.1 x hx).1
    subst hxy
    congr 1
    refine ltS_unique a1.2 a2.2 fun z => ?_
    constructor
    · intro hz
      rcases List.mem_cons.1 ((h z).1 (List.mem_cons_of_mem _ hz)) with e | hz'
      · subst e; exact absurd rfl (a1.1 z hz).2
      · exact hz'
    · intro hz
      rcases List.mem_cons.1 ((h z).2 (List.mem_cons_of_mem _ hz)) with e | hz'
      · subst e; exact absurd rfl (a2.1 z hz).2
      · exact hz'
/-- What was done, told by the document and by the program. -/
theorem srt_cpt {D L : List ByteArray} (hd : D.Nodup) (h : ∀ t, t ∈ D ↔ t ∈ L) : srtS D = cptS (srtS L) := by
  refine ltS_unique ?_ (cptS_asc _ (srtS_asc L)) (fun t => by rw [srtS_mem, h, cptS_mem, srtS_mem])
  have h1 := srtS_asc D
  have h2 : (srtS D).Nodup := (srtS_perm D).nodup_iff.2 hd
  exact h1.and h2
end Rn
end Go.Proofs.YtnheahdcfadclaaGreatDoor
