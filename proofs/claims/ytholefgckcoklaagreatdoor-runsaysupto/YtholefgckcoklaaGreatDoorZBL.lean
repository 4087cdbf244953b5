/- How lists of cells and of ints that came in are opened. -/
import Derived.Test.YtholefgckcoklaaGreatDoorZBG
import Derived.Test.YtholefgckcoklaaGreatDoorZBJ
import Derived.Test.YtholefgckcoklaaGreatDoorZBK
import Derived.Test.YtholefgckcoklaaGreatDoorZAH
import Derived.Laws.StructEq
namespace Go.Proofs.YtholefgckcoklaaGreatDoor
open Go.ChangeShapes Go.WideShapes Go.ChangeAt Go.RowKit Go.Deep Go.Joins
section
variable {H : Type} {enc : TypeId × Value → H} {W : World}
theorem cellsCe : Tryz.prog.cellsOf 59 = 3 := by kernel_rfl
theorem list3' {α : Type} {l : List α} (h : l.length = 3) : ∃ a b c, l = [a, b, c] := by
  match l, h with
  | [a, b, c], _ => exact ⟨a, b, c, rfl⟩
theorem list1' {α : Type} {l : List α} (h : l.length = 1) : ∃ a, l = [a] := by
  match l, h with
  | [a], _ => exact ⟨a, rfl⟩
set_option maxRecDepth 100000 in
theorem open_ces {b0 : Nat} {v : Value} {d : DataW H} {p : List MemPlace} (hv : Value.okWide Tryz.prog W .any b0 48 v) (h : DataW.Trod enc Tryz.prog W 0 (fun _ => true) true 48 v d p) : ∃ l, CesAt W v l := by
  obtain ⟨a0, l0, c0, rfl⟩ := okWide_slice Tryz.underlying48 hv
  obtain ⟨fuel, hf⟩ := h
  have hf' : DataW.trod enc Tryz.prog W 0 (fun _ => true) true fuel 48 [.slice a0 l0 c0] = some (d, p) := hf
  obtain ⟨a, b, off, len, cap, D, hv', ha, hl, hD, hbulk, hel⟩ := open_elems Tryz.underlying48 cellsCe (by decide) hf'
  have each : ∀ i, i < len → ∃ s : Ce, I64 s.val ∧ W.cell? ⟨b, off + i * 3, none⟩ = some (.string s.mod) ∧ W.cell? ⟨b, off + i * 3 + 1, none⟩ = some (.string s.name) ∧ W.cell? ⟨b, off + i * 3 + 2, none⟩ = some (.int .i64 s.val) := by
    intro i hi
    obtain ⟨n0, cs, d', pl', hn', hlen', hcell, htrod, hDi⟩ := hel i hi
    obtain ⟨xs, n, hfn, hx, hlen, hxs, hf⟩ := DataW.trod_struct Tryz.underlying59 htrod
    obtain ⟨c0, c1, c2, rfl⟩ := list3' hlen'
    obtain ⟨y0, y1, y2, rfl⟩ := list3' (by simpa using hxs)
    have f0 : DataW.trod enc Tryz.prog W 0 (fun _ => true) true n 9 (([c0, c1, c2].drop 0).take (Tryz.prog.cellsOf 9)) = some y0 := hf 0 _ rfl
    rw [cellsStr] at f0
    simp only [List.drop, List.take] at f0
    have f1 : DataW.trod enc Tryz.prog W 0 (fun _ => true) true n 9 (([c0, c1, c2].drop 1).take (Tryz.prog.cellsOf 9)) = some y1 := hf 1 _ rfl
    rw [cellsStr] at f1
    simp only [List.drop, List.take] at f1
    have f2 : DataW.trod enc Tryz.prog W 0 (fun _ => true) true n 3 (([c0, c1, c2].drop 2).take (Tryz.prog.cellsOf 3)) = some y2 := hf 2 _ rfl
    rw [cellsInt] at f2
    simp only [List.drop, List.take] at f2
    obtain ⟨s0, e0, rfl, hs0⟩ := DataW.trod_string Tryz.underlying9 f0
    obtain ⟨s1, e1, rfl, hs1⟩ := DataW.trod_string Tryz.underlying9 f1
    obtain ⟨k2, e2, rfl, w2⟩ := DataW.trod_int Tryz.underlying3 f2
    simp at e0 e1 e2
    subst e0 e1 e2
    exact ⟨⟨s0, s1, k2⟩, i64_of w2, hcell 0 (by decide), hcell 1 (by decide), hcell 2 (by decide)⟩
  obtain ⟨l, hll, hp⟩ := list_choose len each
  exact ⟨l, a, b, off, cap, by rw [hv', ← hll], by rw [hll]; exact ha, by rw [hll]; exact hl, fun i s hs => hp i s hs⟩
set_option maxRecDepth 100000 in
theorem open_args {b0 : Nat} {v : Value} {d : DataW H} {p : List MemPlace} (hv : Value.okWide Tryz.prog W .any b0 47 v) (h : DataW.Trod enc Tryz.prog W 0 (fun _ => true) true 47 v d p) : ∃ l, Ints W v l ∧ ∀ x ∈ l, I64 x := by
  obtain ⟨a0, l0, c0, rfl⟩ := okWide_slice Tryz.underlying47 hv
  obtain ⟨fuel, hf⟩ := h
  have hf' : DataW.trod enc Tryz.prog W 0 (fun _ => true) true fuel 47 [.slice a0 l0 c0] = some (d, p) := hf
  obtain ⟨a, b, off, len, cap, D, hv', ha, hl, hD, hbulk, hel⟩ := open_elems Tryz.underlying47 cellsInt (by decide) hf'
  have each : ∀ i, i < len → ∃ s : Int, I64 s ∧ W.cell? ⟨b, off + i, none⟩ = some (.int .i64 s) := by
    intro i hi
    obtain ⟨n0, cs, d', pl', hn', hlen', hcell, htrod, hDi⟩ := hel i hi
    obtain ⟨c0, rfl⟩ := list1' hlen'
    obtain ⟨k2, e2, _, w2⟩ := DataW.trod_int Tryz.underlying3 htrod
    simp at e2
    subst e2
    have := hcell 0 (by decide)
    rw [Nat.mul_one, Nat.add_zero] at this
    exact ⟨k2, i64_of w2, this⟩
  obtain ⟨l, hll, hp⟩ := list_choose len each
  refine ⟨l, ⟨a, b, off, cap, by rw [hv', ← hll], by rw [hll]; exact ha, by rw [hll]; exact hl, fun i s hs => (hp i s hs).2⟩, fun x hx => ?_⟩
  obtain ⟨i, hi, rfl⟩ := List.mem_iff_getElem.1 hx
  exact (hp i _ (List.getElem?_eq_getElem hi)).1
end
end Go.Proofs.YtholefgckcoklaaGreatDoor
namespace Go.Proofs.YtholefgckcoklaaGreatDoor
open Go.RowKit
structure DRun (W w : World) (c : Dc) (nm : List (ByteArray × ByteArray)) (l : List Mo) (m : Nat) (s : Rn.Sta) (vp vd : Value) (D : List ByteArray) (q a : Nat) (x : Mo) (f : Nat) (ns : List ByteArray) (vals : List Int) (vns vvs : Value) : Prop where
  bel : Below W.heap.size W w
  cn : c.n = W.heap.size
  mods : MosAt W m c.vl l
  dm : DoM w c nm s vp vd D
  dk : Rn.DidOk nm s D
  on : OnAt W w c m x q f ns vals vns vvs
  sep : Sep vns vd
  hx : l[a]? = some x
  hf : f < x.funs.length
  pos : ∀ n, (Rn.pos nm x.name n).isSome = Rn.hasB x n
  par : ∀ p ∈ (x.funs[f]?.map (·.params)).getD [], p ∈ ns
  own : ∀ n ∈ ns, Rn.mineB x f n = true
  lim : ns.length + s.fuel ≤ 20000
  xsz : x.name.size ≤ 8
def AfE (w w' : World) (c : Dc) (nm : List (ByteArray × ByteArray)) (vp vd : Value) (s' : Rn.Sta) : Prop := ∃ vp' vd' D', DoM w' c nm s' vp' vd' D' ∧ Rn.DidOk nm s' D' ∧ Kq c vp vd w vp' vd' w'
def EvD (W : World) (c : Dc) (nm : List (ByteArray × ByteArray)) (l : List Mo) (m K : Nat) (F : Rn.Fns) (g : Nat) : Prop :=
  ∀ (w : World) (s : Rn.Sta) (vp vd : Value) (D : List ByteArray) (q a : Nat) (x : Mo) (f : Nat) (ns : List ByteArray) (vals : List Int) (vns vvs : Value) (mm : Nat) (c0 c1 c2 c3 : Value) (e : Ex), DRun W w c nm l m s vp vd D q a x f ns vals vns vvs → ExAt W mm c0 c1 c2 c3 e → Lat.exprB mm e = true → s.fuel * K + mm ≤ g →
    Calls Tryz.prog 150 #[.pointer (some ⟨c.p, 0, none⟩), .pointer (some ⟨q, 0, none⟩), .agg #[c0, c1, c2, c3]] w fun r w' => r = .returned (.tuple #[.int .i64 (F.ev a f (Rn.own0 ns vals) e s).1, .int .i64 (F.ev a f (Rn.own0 ns vals) e s).2.1]) ∧ Hid (AfE w w' c nm vp vd (F.ev a f (Rn.own0 ns vals) e s).2.2 ∧ I64 (F.ev a f (Rn.own0 ns vals) e s).1)
section
variable {W w w' : World} {c : Dc} {nm : List (ByteArray × ByteArray)} {l : List Mo} {m : Nat} {s s' : Rn.Sta} {vp vd vp' vd' : Value} {D D' : List ByteArray} {q a : Nat} {x : Mo} {f : Nat} {ns : List ByteArray} {vals : List Int} {vns vvs : Value}
theorem DRun.ev (h : DRun W w c nm l m s vp vd D q a x f ns vals vns vvs) (hm : DoM w' c nm s' vp' vd' D') (hd : Rn.DidOk nm s' D') (hk : Kq c vp vd w vp' vd' w') (hf : s'.fuel ≤ s.fuel) : DRun W w' c nm l m s' vp' vd' D' q a x f ns vals vns vvs :=
  ⟨h.bel.trans (by rw [← h.cn]; exact hk.below), h.cn, h.mods, hm, hd, (h.on.keep h.dm h.sep hk).1, (h.on.keep h.dm h.sep hk).2, h.hx, h.hf, h.pos, h.par, h.own, by have := h.lim; omega, h.xsz⟩
theorem DRun.box (h : DRun W w c nm l m s vp vd D q a x f ns vals vns vvs) (hb : Below w.heap.size w w') : DRun W w' c nm l m s vp vd D q a x f ns vals vns vvs :=
  h.ev (h.dm.below hb) h.dk (Kq.of_below hb h.dm.nle) (Nat.le_refl _)
theorem DRun.sh (h : DRun W w c nm l m s vp vd D q a x f ns vals vns vvs) (n : ByteArray) : (Rn.mineB x f n = true → Rn.sh nm x.name (Rn.own0 ns vals) n = none) ∧ (Rn.mineB x f n = false → ∃ i, Rn.pos nm x.name n = some i ∧ Rn.sh nm x.name (Rn.own0 ns vals) n = some i) := by
  have hs := Rn.own0_some (n := n) h.on.len
  constructor
  · intro hm
    unfold Rn.sh
    by_cases ho : (Rn.own0 ns vals n).isSome = true
    · rw [if_pos ho]
    · rw [if_neg ho]
      have hn : n ∉ ns := fun hx => ho (hs.2 hx)
      unfold Rn.mineB at hm
      rw [Bool.or_eq_true] at hm
      rcases hm with hm | hm
      · exact absurd (h.par n (Rn.index_mem.1 (by simpa using hm))) hn
      · have := h.pos n
        rw [show Rn.hasB x n = false by simpa using hm] at this
        cases hp : Rn.pos nm x.name n with
        | none => rfl
        | some i => rw [hp] at this; cases this
  · intro hm
    have hn : n ∉ ns := fun hx => by rw [h.own n hx] at hm; cases hm
    have ho : ¬ (Rn.own0 ns vals n).isSome = true := fun e => hn (hs.1 e)
    unfold Rn.mineB at hm
    rw [Bool.or_eq_false_iff] at hm
    have hp := h.pos n
    rw [show Rn.hasB x n = true by simpa using hm.2] at hp
    obtain ⟨i, hi⟩ := Option.isSome_iff_exists.1 hp
    exact ⟨i, hi, by unfold Rn.sh; rw [if_neg ho, hi]⟩
theorem DRun.mn (h : DRun W w c nm l m s vp vd D q a x f ns vals vns vvs) : Rn.mn l a = x.name := by unfold Rn.mn; rw [h.hx]; rfl
theorem find_before {p : Nat → Bool} {n i : Nat} (h : (List.range n).find? p = some i) : ∀ j, j < i → p j = false := by
  intro j
  induction j using Nat.strongRecOn with
  | _ j ih =>
    intro hj
    cases hp : p j with
    | false => rfl
    | true =>
      have := Lat.find_hit (n := n) (Nat.lt_trans hj (Lat.find_spec h).1) (fun c hc => ih c hc (Nat.lt_trans hc hj)) hp
      rw [h] at this
      cases this
      omega
theorem ce_pos {nm : List (ByteArray × ByteArray)} {vs : List Rn.Vr} {ex : List Ce} (hl : vs.length = nm.length) {y n : ByteArray} {i : Nat} (h : Rn.pos nm y n = some i) : Rn.ceAt (Rn.sto nm vs ++ ex) y n = some i := by
  have hi := pos_lt h
  have hx := Rn.pos_some h
  have hv := List.getElem?_eq_getElem (show i < vs.length by omega)
  have hlen : (Rn.sto nm vs).length = nm.length := by unfold Rn.sto; rw [List.length_map, List.length_zip]; omega
  have hget : ∀ (j : Nat) (u : ByteArray × ByteArray) (v : Rn.Vr), nm[j]? = some u → vs[j]? = some v → (Rn.sto nm vs ++ ex)[j]? = some ⟨u.1, u.2, v.val⟩ := fun j u v hu hv => by
    have hj := (List.getElem?_eq_some_iff.1 hu).1
    rw [List.getElem?_append_left (by omega)]
    unfold Rn.sto
    rw [List.getElem?_map, show (nm.zip vs)[j]? = some (u, v) from List.getElem?_zip_eq_some.2 ⟨hu, hv⟩]
    rfl
  refine Rn.ceAt_hit (hget i _ _ hx hv) (by unfold Rn.isC; simp [Nm.sameB]) (fun d g hd hg => ?_)
  have hu := List.getElem?_eq_getElem (show d < nm.length by omega)
  have hvd := List.getElem?_eq_getElem (show d < vs.length by omega)
  rw [hget d _ _ hu hvd] at hg
  cases hg
  have h0 : ∀ j, j < i → (match nm[j]? with | some v => Nm.sameB v.1 y && Nm.sameB v.2 n | none => false) = false := by
    unfold Rn.pos at h
    intro j hj
    exact find_before h j hj
  have := h0 d hd
  rw [hu] at this
  exact this
end
end Go.Proofs.YtholefgckcoklaaGreatDoor
namespace Go.Proofs.YtholefgckcoklaaGreatDoor
open Go.RowKit
namespace Rn
theorem didV_len (nm : List (ByteArray × ByteArray)) (vs : List Vr) : (didV nm vs).length ≤ 2 * vs.length := by
  have h : ∀ l : List ((ByteArray × ByteArray) × Vr), ((l.map did1).flatten).length ≤ 2 * l.length := fun l => by
    induction l with
    | nil => simp
    | cons p l ih =>
      rw [List.map_cons, List.flatten_cons, List.length_append, List.length_cons]
      have : (did1 p).length ≤ 2 := by
        unfold did1
        rw [List.length_append]
        split <;> split <;> simp
      omega
  unfold didV
  refine Nat.le_trans (h _) ?_
  rw [List.length_zip]
  omega
theorem DidOk.len {nm : List (ByteArray × ByteArray)} {s : Sta} {D : List ByteArray} (h : DidOk nm s D) : D.length ≤ 2 * s.vs.length + s.pr.length := by
  have h1 := nodup_sub h.once (fun t ht => (h.mem t).1 ht)
  have h2 := didV_len nm s.vs
  unfold did at h1
  rw [List.length_append, List.length_map] at h1
  omega
theorem sto_rd (nm : List (ByteArray × ByteArray)) (vs : List Vr) (i : Nat) : sto nm (vs.modify i fun v => { v with rd := true }) = sto nm vs := by
  unfold sto
  apply List.ext_getElem?
  intro j
  rw [List.getElem?_map, List.getElem?_map]
  have hg := mod_get vs i j (fun v => { v with rd := true })
  by_cases e : i = j
  · subst e
    rw [if_pos rfl] at hg
    cases hx : nm[i]? with
    | none => rw [List.getElem?_eq_none (by rw [List.length_zip, List.length_modify]; have := List.getElem?_eq_none_iff.1 hx; omega), List.getElem?_eq_none (by rw [List.length_zip]; have := List.getElem?_eq_none_iff.1 hx; omega)]
    | some x =>
      cases hv : vs[i]? with
      | none => rw [List.getElem?_eq_none (by rw [List.length_zip, List.length_modify]; have := List.getElem?_eq_none_iff.1 hv; omega), List.getElem?_eq_none (by rw [List.length_zip]; have := List.getElem?_eq_none_iff.1 hv; omega)]
      | some v =>
        rw [hv] at hg
        rw [show (nm.zip (vs.modify i fun v => { v with rd := true }))[i]? = some (x, { v with rd := true }) from List.getElem?_zip_eq_some.2 ⟨hx, hg⟩, show (nm.zip vs)[i]? = some (x, v) from List.getElem?_zip_eq_some.2 ⟨hx, hv⟩]
        rfl
  · rw [if_neg e] at hg
    congr 1
    cases hz : (nm.zip vs)[j]? with
    | some p =>
      obtain ⟨h1, h2⟩ := List.getElem?_zip_eq_some.1 hz
      exact List.getElem?_zip_eq_some.2 ⟨h1, by rw [hg]; exact h2⟩
    | none =>
      rw [List.getElem?_eq_none_iff, List.length_zip] at hz ⊢
      rw [List.length_modify]
      exact hz
end Rn
section
variable {w w' : World} {c : Dc} {nm : List (ByteArray × ByteArray)} {s : Rn.Sta} {vp vd : Value} {D : List ByteArray}
theorem DoM.rd (h : DoM w c nm s vp vd D) (i : Nat) : DoM w c nm { s with vs := s.vs.modify i fun v => { v with rd := true } } vp vd D := by
  have e : c.tot nm { s with vs := s.vs.modify i fun v => { v with rd := true } } = c.tot nm s := by unfold Dc.tot; rw [Rn.sto_rd]
  refine ⟨h.base, h.blk, h.pr, h.did, h.cbn, by rw [e]; exact h.cel, by rw [List.length_modify]; exact h.lens, fun v hv => ?_, h.room, h.lenD, h.nml, h.nms, h.dsz⟩
  obtain ⟨j, hj, e2⟩ := List.mem_iff_getElem.1 hv
  have hg := mod_get s.vs i j (fun v => { v with rd := true })
  rw [List.getElem?_eq_getElem hj, e2] at hg
  by_cases e3 : i = j
  · rw [if_pos e3] at hg
    cases hx : s.vs[j]? with
    | none => rw [hx] at hg; cases hg
    | some u =>
      rw [hx] at hg
      simp at hg
      rw [hg]
      exact h.val u (List.mem_of_getElem? hx)
  · rw [if_neg e3] at hg
    exact h.val v (List.mem_of_getElem? hg.symm)
theorem DoM.dlt (h : DoM w c nm s vp vd D) (hd : Rn.DidOk nm s D) : D.length < 100000 := by
  have := hd.len
  have := h.lens
  have := h.nml
  have := h.room
  omega
theorem tag_size {t : UInt8} {x : ByteArray × ByteArray} (h1 : x.1.size ≤ 8) (h2 : x.2.size ≤ 8) : (Rn.tag t x).size ≤ maxLen := by
  unfold Rn.tag
  simp only [ByteArray.size_append]
  have e1 : (⟨#[t, 58]⟩ : ByteArray).size = 2 := rfl
  have e2 : (⟨#[46]⟩ : ByteArray).size = 1 := rfl
  rw [e1, e2]
  unfold maxLen
  omega
end
section
variable {W w : World} {c : Dc} {nm : List (ByteArray × ByteArray)} {l : List Mo} {m : Nat} {s : Rn.Sta} {vp vd : Value} {D : List ByteArray} {q a : Nat} {x : Mo} {f : Nat} {ns : List ByteArray} {vals : List Int} {vns vvs : Value}
theorem DRun.own_cell (h : DRun W w c nm l m s vp vd D q a x f ns vals vns vvs) : w.cell? ⟨q, 0, none⟩ = some (.string x.name) ∧ w.cell? ⟨q, 6, none⟩ = some vvs := by
  obtain ⟨vi, vv, vf, h1, _⟩ := h.on.blk
  exact ⟨(block_at h1 0).trans rfl, (block_at h1 6).trans rfl⟩
end
set_option maxHeartbeats 8000000 in
set_option maxRecDepth 100000 in
theorem dval_name (W w : World) (c : Dc) (nm : List (ByteArray × ByteArray)) (l : List Mo) (m : Nat) (s : Rn.Sta) (vp vd : Value) (D : List ByteArray) (q a : Nat) (x : Mo) (f : Nat) (ns : List ByteArray) (vals : List Int) (vns vvs : Value) (mm : Nat) (c0 c1 c2 c3 : Value) (e : Ex)
    (hR : DRun W w c nm l m s vp vd D q a x f ns vals vns vvs) (hX : ExAt W mm c0 c1 c2 c3 e) (hk : e.kind = 2) :
    Calls Tryz.prog 150 #[.pointer (some ⟨c.p, 0, none⟩), .pointer (some ⟨q, 0, none⟩), .agg #[c0, c1, c2, c3]] w fun r w' => r = .returned (.tuple #[.int .i64 (Rn.gt nm x.name (Rn.own0 ns vals) e.name s).1, .int .i64 0]) ∧ Hid (AfE w w' c nm vp vd (Rn.gt nm x.name (Rn.own0 ns vals) e.name s).2 ∧ I64 (Rn.gt nm x.name (Rn.own0 ns vals) e.name s).1) := by
  obtain ⟨xa, xc, rfl, rfl, rfl, rfl⟩ := hX.shape
  obtain ⟨R, hRR⟩ : ∃ R, R = Rn.gt nm x.name (Rn.own0 ns vals) e.name s := ⟨_, rfl⟩
  rw [← hRR]
  have HRE := hide hRR
  obtain ⟨n, hn⟩ : ∃ n, n = e.name := ⟨_, rfl⟩
  rw [← hn] at HRE ⊢
  rw [hk]
  generalize e.args.length = na at *
  generalize e.n = en at *
  obtain ⟨W1, hW1⟩ : ∃ W1, W1 = w.alloc (.cells #[.int .i64 2, .int .i64 en, .string n, .slice xa na xc] 103) := ⟨_, rfl⟩
  have hb1 : Below w.heap.size w W1 := by rw [hW1]; exact boxBelow _ _
  have HB1 := hide hb1
  have HR1 := hide (hR.box hb1)
  obtain ⟨B, hBw⟩ : ∃ b, b = w.heap.size := ⟨_, rfl⟩
  have HBX1 : Hid (W1.heap[B]? = some (.cells #[.int .i64 2, .int .i64 en, .string n, .slice xa na xc] 103 (0, 0))) := hide (by rw [hW1, hBw]; exact block_new _ _)
  have HNL := hide hR.dm.nle
  have HSH := hide (hR.sh n)
  have HR := hide hR
  have HC := hide (dmine_any W W1 c m x q f ns vals vns vvs n HR1.out.on HR1.out.bel HR1.out.hf (by have := HR1.out.lim; omega))
  obtain ⟨at', hat⟩ : ∃ z, z = Rn.lastTo ns n ns.length := ⟨_, rfl⟩
  obtain ⟨mb, hmb⟩ : ∃ z, z = Rn.mineB x f n := ⟨_, rfl⟩
  rw [← hat, ← hmb] at HC
  rw [← hmb] at HSH
  have HAT := hide hat
  have b0 := (block_at HBX1.out 0).trans rfl
  have b2 := (block_at HBX1.out 2).trans rfl
  have ho0 := hW1
  clear hR hX hRR hk hb1 hmb hat hn
  go_enter Tryz.func150, Tryz.ntmps150
  go_wp2_with fail
  rw [← hW1, ← hBw]
  refine HC.out.mono ?_
  rintro r w2 ⟨rfl, hb2⟩
  have HR2 := hide (HR1.out.box hb2)
  have HBX2 := hide (at_upD HBX1.out hb2)
  have HK2 : Hid (Kq c vp vd w vp vd w2) := hide (Kq.of_below (HB1.out.trans (hb2.mono HB1.out.size)) HNL.out)
  clear HC HBX1 HR1 b0 b2 ho0 hW1 hb2 HB1 hBw
  obtain ⟨p0, p6⟩ := HR2.out.own_cell
  have b2 := (block_at HBX2.out 2).trans rfl
  cases mb
  · obtain ⟨i, hp, hsh⟩ := HSH.out.2 rfl
    have hi := pos_lt hp
    obtain ⟨v, hv⟩ : ∃ v, s.vs[i]? = some v := ⟨_, List.getElem?_eq_getElem (by rw [HR.out.dm.lens]; exact hi)⟩
    have HRV : Hid (R = (v.val, { s with vs := s.vs.modify i fun v => { v with rd := true } })) := hide (by
      rw [HRE.out]
      unfold Rn.gt
      rw [hsh]
      simp [hv])
    have hnx := Rn.pos_some hp
    have hsz : x.name.size ≤ 8 ∧ n.size ≤ 8 := HR.out.dm.nms _ (List.mem_of_getElem? hnx)
    have HCE : Hid (∀ ex, Rn.ceAt (Rn.sto nm s.vs ++ ex) x.name n = some i) := hide (fun ex => ce_pos HR.out.dm.lens hp)
    have HGT : Hid ((c.tot nm s)[i]? = some ⟨x.name, n, v.val⟩) := hide (by
      unfold Dc.tot
      rw [List.getElem?_append_left (by unfold Rn.sto; rw [List.length_map, List.length_zip, HR.out.dm.lens]; omega)]
      unfold Rn.sto
      rw [List.getElem?_map, show (nm.zip s.vs)[i]? = some ((x.name, n), v) from List.getElem?_zip_eq_some.2 ⟨hnx, hv⟩]
      rfl)
    have HDK := hide (HR.out.dk.read hnx hv)
    have HV6 := hide (HR.out.dm.val v (List.mem_of_getElem? hv))
    have HDD := hide (fun w6 (hb : Below w2.heap.size w2 w6) => ddid_any w6 c nm s vp vd D (Rn.tag 114 (x.name, n)) (HR2.out.dm.below hb) (tag_size hsz.1 hsz.2) (HR.out.dm.dlt HR.out.dk))
    have HTG : Hid (Rn.tag 114 (x.name, n) = (((⟨#[114, 58]⟩ : ByteArray) ++ x.name) ++ ⟨#[46]⟩) ++ n) := hide rfl
    rw [HTG.out] at HDD HDK
    have k1 : (9223372036854775807 < 2 + x.name.size) = False := eq_false (by have := hsz.1; omega)
    have k2 : (9223372036854775807 < 2 + x.name.size + 1) = False := eq_false (by have := hsz.1; omega)
    have k3 : (9223372036854775807 < 2 + x.name.size + 1 + n.size) = False := eq_false (by have := hsz.1; have := hsz.2; omega)
    clear hp hsh hi hv hnx hsz HSH HRE
    replace p0 := cell_gn p0
    replace b2 := cell_gn b2
    clear p6
    go_wp2_with fail
    refine wp_region_tail_gn 11 (by kernel_rfl) (by kernel_rfl) ?_
    dsimp only [List.take, List.drop]
    repeat (quiet_step (fail))
    refine wpQuiet_nil ?_
    intro w6 hw'
    obtain ⟨⟨nq, osq⟩, hw''⟩ := hw'
    have HB6 := hide (show Below w2.heap.size w2 w6 by rw [hw'']; exact below_gn w2 nq osq)
    clear hw'' p0 b2
    go_wp2_with fail
    refine (HDD.out w6 HB6.out).mono ?_
    rintro r w7 ⟨rfl, vd7, hm7, hk7⟩
    have HM7 := hide hm7
    have HON7 := hide (HR2.out.on.below HB6.out |>.keep (HR2.out.dm.below HB6.out) HR2.out.sep hk7).1
    have HBX7 := hide (hk7.block _ _ (at_upD HBX2.out HB6.out) ((HR2.out.dm.below HB6.out).cold (at_upD HBX2.out HB6.out) (by decide) (by decide) (by decide) (by decide)))
    have HK7 := hide ((HK2.out.trans (Kq.of_below HB6.out HR2.out.dm.nle)).trans hk7)
    clear hm7 hk7 HDD
    obtain ⟨-, c1, -⟩ := HM7.out.cell
    obtain ⟨cap, hvc, g0, g1, g2, -⟩ := HM7.out.ce HGT.out
    have hlen := tot_len HM7.out
    have hil : i < (c.tot nm s).length := (List.getElem?_eq_some_iff.1 HGT.out).1
    have HDC := hide (fun k os => dcell_any (gn w7 k os) c nm s vp vd7 _ x.name n (HM7.out.below (below_gn w7 k os)))
    rw [show Nm.oI (Rn.ceAt (c.tot nm s) x.name n) = (i : Int) by rw [show Rn.ceAt (c.tot nm s) x.name n = some i from HCE.out _]; rfl] at HDC
    generalize (c.tot nm s).length = nt at *
    rw [hvc] at c1
    obtain ⟨vi, vv, vf, hown, -⟩ := HON7.out.blk
    have p0 := (block_at hown 0).trans rfl
    have b2 := (block_at HBX7.out 2).trans rfl
    have hii : (i : Int) < (nt : Int) := by omega
    clear hown hvc g0 g1
    replace p0 := cell_gn p0
    replace b2 := cell_gn b2
    replace c1 := cell_gn c1
    replace g2 := cell_gn g2
    go_wp2_with fail
    refine wp_region_quiet_gn (by kernel_rfl) (by kernel_rfl) ?_
    repeat (quiet_step (first | (exact Calls.gn_of' (HDC.out _ _))))
    refine wpQuiet_nil ?_
    intro w8 hw'
    obtain ⟨⟨nq8, osq8⟩, hw''⟩ := hw'
    have HB8 := hide (show Below w7.heap.size w7 w8 by rw [hw'']; exact below_gn w7 nq8 osq8)
    clear hw'' p0 b2 c1 g2
    go_wp2_with fail
    go_ret2
    refine ⟨by rw [HRV.out]; rfl, hide ?_⟩
    rw [HRV.out]
    exact ⟨⟨vp, vd7, _, (HM7.out.below HB8.out).rd i, HDK.out, HK7.out.trans (Kq.of_below HB8.out HM7.out.nle)⟩, HV6.out⟩
  · have HRV : Hid (R = ((Rn.own0 ns vals n).getD 0, s)) := hide (by
      rw [HRE.out]
      unfold Rn.gt
      rw [HSH.out.1 rfl])
    have HOL := hide (Rn.own0_last HR.out.on.len n)
    rw [← HAT.out] at HOL
    have hr := Rn.lastTo_range ns n ns.length
    rw [← HAT.out] at hr
    by_cases hneg : at' < 0
    · as_aux_lemma =>
        rw [if_pos hneg] at HOL
        rw [HOL.out] at HRV
        clear hr
        go_wp2_with fail
        go_ret2
        refine ⟨by rw [HRV.out]; rfl, hide ?_⟩
        rw [HRV.out]
        exact ⟨⟨vp, vd, D, HR2.out.dm, HR2.out.dk, HK2.out⟩, by show I64 0; unfold I64; omega⟩
    · as_aux_lemma =>
        rw [if_neg hneg] at HOL
        obtain ⟨z, rfl⟩ : ∃ z : Nat, at' = z := ⟨at'.toNat, by omega⟩
        have hzl : z < vals.length := by have := HR.out.on.len; omega
        obtain ⟨u, hu⟩ : ∃ u, vals[z]? = some u := ⟨_, List.getElem?_eq_getElem hzl⟩
        rw [Int.toNat_natCast, hu] at HOL
        rw [HOL.out] at HRV
        have HU6 := hide (HR.out.on.v64 u (List.mem_of_getElem? hu))
        obtain ⟨va, vb, vo, vc, hvv, hva, hvl, hve⟩ := HR2.out.on.vrow.ints (by have := HR.out.on.len; have := HR.out.lim; omega)
        have g0 := hve z u hu
        obtain rfl := hva (by omega)
        rw [hvv] at p6
        generalize vals.length = nv at *
        have hzi : (z : Int) < (nv : Int) := by omega
        clear hr hvv hve hva hu
        go_wp2_with fail
        go_ret2
        refine ⟨by rw [HRV.out]; rfl, hide ?_⟩
        rw [HRV.out]
        exact ⟨⟨vp, vd, D, HR2.out.dm, HR2.out.dk, HK2.out⟩, HU6.out⟩
set_option maxHeartbeats 2000000 in
set_option maxRecDepth 100000 in
theorem dval_num (W w : World) (c : Dc) (nm : List (ByteArray × ByteArray)) (l : List Mo) (m : Nat) (s : Rn.Sta) (vp vd : Value) (D : List ByteArray) (q a : Nat) (x : Mo) (f : Nat) (ns : List ByteArray) (vals : List Int) (vns vvs : Value) (mm : Nat) (c0 c1 c2 c3 : Value) (e : Ex)
    (hR : DRun W w c nm l m s vp vd D q a x f ns vals vns vvs) (hX : ExAt W mm c0 c1 c2 c3 e) (hn : I64 e.n) (hk : e.kind = 1) :
    Calls Tryz.prog 150 #[.pointer (some ⟨c.p, 0, none⟩), .pointer (some ⟨q, 0, none⟩), .agg #[c0, c1, c2, c3]] w fun r w' => r = .returned (.tuple #[.int .i64 e.n, .int .i64 0]) ∧ Hid (AfE w w' c nm vp vd s ∧ I64 e.n) := by
  obtain ⟨xa, xc, rfl, rfl, rfl, rfl⟩ := hX.shape
  have HN := hide hn
  rw [hk]
  obtain ⟨n, hn⟩ : ∃ n, n = e.name := ⟨_, rfl⟩
  rw [← hn]
  generalize e.args.length = na at *
  obtain ⟨en, hen⟩ : ∃ n, n = e.n := ⟨_, rfl⟩
  rw [← hen] at HN ⊢
  have HR := hide hR
  clear hR hX hk hn hen
  go_enter Tryz.func150, Tryz.ntmps150
  go_wp2_with fail
  go_ret2
  have hb := boxBelow w (.cells #[.int .i64 1, .int .i64 en, .string n, .slice xa na xc] 103)
  exact ⟨rfl, hide ⟨⟨vp, vd, D, HR.out.dm.below hb, HR.out.dk, Kq.of_below hb HR.out.dm.nle⟩, HN.out⟩⟩
end Go.Proofs.YtholefgckcoklaaGreatDoor
namespace Go.Proofs.YtholefgckcoklaaGreatDoor
open Go.RowKit
def CaD (W : World) (c : Dc) (nm : List (ByteArray × ByteArray)) (l : List Mo) (m K : Nat) (F : Rn.Fns) (g : Nat) : Prop :=
  ∀ (w : World) (s : Rn.Sta) (vp vd : Value) (D : List ByteArray) (a : Nat) (x : Mo) (f : Nat) (args : List Int) (va vi vv vf : Value), Below W.heap.size W w → DoM w c nm s vp vd D → Rn.DidOk nm s D → l[a]? = some x → f < x.funs.length → (∀ n, (Rn.pos nm x.name n).isSome = Rn.hasB x n) → x.name.size ≤ 8 →
    MoAt W m (.agg #[.string x.name, vi, vv, vf]) x → Ints w va args → (∀ v ∈ args, I64 v) → args.length ≤ 4 → s.fuel * K + m ≤ g →
    Calls Tryz.prog 69 #[.pointer (some ⟨c.p, 0, none⟩), .agg #[.string x.name, vi, vv, vf], .int .i64 f, va] w fun r w' => r = .returned (.tuple #[.int .i64 (Rn.enter F l a f args s).1, .int .i64 (Rn.enter F l a f args s).2.1]) ∧ Hid (AfE w w' c nm vp vd (Rn.enter F l a f args s).2.2 ∧ I64 (Rn.enter F l a f args s).1)
def Firsts (nm : List (ByteArray × ByteArray)) (l : List Mo) : Prop := ∀ (a : Nat) (x : Mo), l[a]? = some x → (∀ (j : Nat) (z : Mo), j < a → l[j]? = some z → Nm.sameB z.name x.name = false) → x.name.size ≤ 8 ∧ ∀ n, (Rn.pos nm x.name n).isSome = Rn.hasB x n
end Go.Proofs.YtholefgckcoklaaGreatDoor
namespace Go.Proofs.YtholefgckcoklaaGreatDoor
open Go.RowKit
set_option maxHeartbeats 1000000 in
theorem eqIn_ce (x : Ce) (w : World) : (Op.equalIn 10000 59 (.agg #[.string x.mod, .string x.name, .int .i64 x.val]) (.agg #[.string x.mod, .string x.name, .int .i64 x.val])).run Tryz.prog w = .ok true w := by
  have u3 := Tryz.underlying3
  have a3 := Tryz.isAgg3
  have z3 := Tryz.sizeOf3
  have u9 := Tryz.underlying9
  have a9 := Tryz.isAgg9
  have z9 := Tryz.sizeOf9
  have hS : Tryz.prog.underlying 59 = some (.struct (Tryz.prog.fieldsOf 59)) := by kernel_rfl
  have hp : Tryz.prog.stoodInHeld 59 = false := by kernel_rfl
  rw [show (10000 : Nat) = 9999 + 1 from rfl, run_equalIn_agg w 9999 59 _ _ hS hp]
  simp only [Program.fieldsOf, Tryz.underlying59]
  go_simp
theorem guard_ce (op : BinOp) (a b : Operand) (x : Ce) (w : World) : (eqGuard op 59 a b (.agg #[.string x.mod, .string x.name, .int .i64 x.val]) (.agg #[.string x.mod, .string x.name, .int .i64 x.val])).run Tryz.prog w = .ok () w :=
  run_eqGuard_agg w op _ a b _ _ (by kernel_rfl)
set_option maxHeartbeats 1000000 in
theorem eqIn_pr (x : ByteArray × Int) (w : World) : (Op.equalIn 10000 62 (.agg #[.string x.1, .int .i64 x.2]) (.agg #[.string x.1, .int .i64 x.2])).run Tryz.prog w = .ok true w := by
  have u3 := Tryz.underlying3
  have a3 := Tryz.isAgg3
  have z3 := Tryz.sizeOf3
  have u9 := Tryz.underlying9
  have a9 := Tryz.isAgg9
  have z9 := Tryz.sizeOf9
  have hS : Tryz.prog.underlying 62 = some (.struct (Tryz.prog.fieldsOf 62)) := by kernel_rfl
  have hp : Tryz.prog.stoodInHeld 62 = false := by kernel_rfl
  rw [show (10000 : Nat) = 9999 + 1 from rfl, run_equalIn_agg w 9999 62 _ _ hS hp]
  simp only [Program.fieldsOf, Tryz.underlying62]
  go_simp
theorem guard_pr (op : BinOp) (a b : Operand) (x : ByteArray × Int) (w : World) : (eqGuard op 62 a b (.agg #[.string x.1, .int .i64 x.2]) (.agg #[.string x.1, .int .i64 x.2])).run Tryz.prog w = .ok () w :=
  run_eqGuard_agg w op _ a b _ _ (by kernel_rfl)
set_option maxHeartbeats 1000000 in
set_option maxRecDepth 100000 in
theorem eqC_same (w : World) (va vb : Value) (l : List Ce) (ha : CesAt w va l) (hb : CesAt w vb l) :
    Calls Tryz.prog 19 #[va, vb] w fun e w' => e = .returned (.bool true) ∧ Below w.heap.size w w' := by
  obtain ⟨a, b, off, cap, rfl, h0, hl, hel⟩ := ha
  obtain ⟨a', b', off', cap', rfl, h0', -, hel'⟩ := hb
  have HEL := hide hel
  have HEL' := hide hel'
  have HA := hide h0
  have HA' := hide h0'
  obtain ⟨len, hlen⟩ : ∃ n, n = l.length := ⟨_, rfl⟩
  have HL := hide hlen
  rw [← hlen] at hl HA HA' ⊢
  clear hel hel' h0 h0' hlen
  go_enter Tryz.func19, Tryz.ntmps19
  go_wp2_with fail
  go_loopw [5, 13] (fun _ i wx => ∃ j : Nat, j ≤ len ∧ i = .int .i64 j ∧ ∃ n, wx = w.drewN n) (fun _ i _ => len - (intOf i).toNat)
  case atStart => exact ⟨0, Nat.zero_le _, rfl, 0, rfl⟩
  case round =>
    obtain ⟨j, hj, rfl, n, rfl⟩ := hrel
    by_cases hjl : j < len
    · obtain ⟨d, hd⟩ : ∃ d, l[j]? = some d := ⟨_, List.getElem?_eq_getElem (by rw [← HL.out]; exact hjl)⟩
      obtain ⟨-, p0, p1, p2⟩ := HEL.out j d hd
      obtain ⟨-, q0, q1, q2⟩ := HEL'.out j d hd
      obtain rfl := HA.out (by omega)
      obtain rfl := HA'.out (by omega)
      have heq : ∀ w, Sem.run Tryz.prog (Op.equalIn 10000 59 (.agg #[.string d.mod, .string d.name, .int .i64 d.val]) (.agg #[.string d.mod, .string d.name, .int .i64 d.val])) w = .ok true w := fun w => eqIn_ce d w
      have hgd : ∀ op a b w, Sem.run Tryz.prog (eqGuard op 59 a b (.agg #[.string d.mod, .string d.name, .int .i64 d.val]) (.agg #[.string d.mod, .string d.name, .int .i64 d.val])) w = .ok () w := fun op a b w => guard_ce op a b d w
      clear hd
      go_wp2_with fail
      go_quiet (fail)
      go_wp2_with fail
      go_roundw
      case rel => exact ⟨j + 1, by omega, by go_num, n + nq, by rw [← World.drewN_drewN]⟩
      case measure => simp [intOf]; omega
    · go_wp2_with fail
      go_ret
      exact ⟨rfl, below_drew (Below.refl _ _)⟩
set_option maxHeartbeats 1000000 in
set_option maxRecDepth 100000 in
theorem eqP_same (w : World) (va vb : Value) (l : List (ByteArray × Int)) (ha : PrsAt w va l) (hb : PrsAt w vb l) :
    Calls Tryz.prog 20 #[va, vb] w fun e w' => e = .returned (.bool true) ∧ Below w.heap.size w w' := by
  obtain ⟨a, b, off, cap, rfl, h0, hl, hel⟩ := ha
  obtain ⟨a', b', off', cap', rfl, h0', -, hel'⟩ := hb
  have HEL := hide hel
  have HEL' := hide hel'
  have HA := hide h0
  have HA' := hide h0'
  obtain ⟨len, hlen⟩ : ∃ n, n = l.length := ⟨_, rfl⟩
  have HL := hide hlen
  rw [← hlen] at hl HA HA' ⊢
  clear hel hel' h0 h0' hlen
  go_enter Tryz.func20, Tryz.ntmps20
  go_wp2_with fail
  go_loopw [5, 13] (fun _ i wx => ∃ j : Nat, j ≤ len ∧ i = .int .i64 j ∧ ∃ n, wx = w.drewN n) (fun _ i _ => len - (intOf i).toNat)
  case atStart => exact ⟨0, Nat.zero_le _, rfl, 0, rfl⟩
  case round =>
    obtain ⟨j, hj, rfl, n, rfl⟩ := hrel
    by_cases hjl : j < len
    · obtain ⟨d, hd⟩ : ∃ d, l[j]? = some d := ⟨_, List.getElem?_eq_getElem (by rw [← HL.out]; exact hjl)⟩
      obtain ⟨p0, p1⟩ := HEL.out j d hd
      obtain ⟨q0, q1⟩ := HEL'.out j d hd
      obtain rfl := HA.out (by omega)
      obtain rfl := HA'.out (by omega)
      have heq : ∀ w, Sem.run Tryz.prog (Op.equalIn 10000 62 (.agg #[.string d.1, .int .i64 d.2]) (.agg #[.string d.1, .int .i64 d.2])) w = .ok true w := fun w => eqIn_pr d w
      have hgd : ∀ op a b w, Sem.run Tryz.prog (eqGuard op 62 a b (.agg #[.string d.1, .int .i64 d.2]) (.agg #[.string d.1, .int .i64 d.2])) w = .ok () w := fun op a b w => guard_pr op a b d w
      clear hd
      go_wp2_with fail
      go_quiet (fail)
      go_wp2_with fail
      go_roundw
      case rel => exact ⟨j + 1, by omega, by go_num, n + nq, by rw [← World.drewN_drewN]⟩
      case measure => simp [intOf]; omega
    · go_wp2_with fail
      go_ret
      exact ⟨rfl, below_drew (Below.refl _ _)⟩
set_option maxHeartbeats 1000000 in
set_option maxRecDepth 100000 in
theorem eqT_same (w : World) (va vb : Value) (l : List ByteArray) (ha : Strs w va l) (hb : Strs w vb l) :
    Calls Tryz.prog 21 #[va, vb] w fun e w' => e = .returned (.bool true) ∧ Below w.heap.size w w' := by
  obtain ⟨a, b, off, cap, rfl, h0, hl, -, hel⟩ := ha
  obtain ⟨a', b', off', cap', rfl, h0', -, -, hel'⟩ := hb
  have HEL := hide hel
  have HEL' := hide hel'
  have HA := hide h0
  have HA' := hide h0'
  obtain ⟨len, hlen⟩ : ∃ n, n = l.length := ⟨_, rfl⟩
  have HL := hide hlen
  rw [← hlen] at hl HA HA' ⊢
  clear hel hel' h0 h0' hlen
  go_enter Tryz.func21, Tryz.ntmps21
  go_wp2_with fail
  go_loopw [5, 13] (fun _ i wx => ∃ j : Nat, j ≤ len ∧ i = .int .i64 j ∧ ∃ n, wx = w.drewN n) (fun _ i _ => len - (intOf i).toNat)
  case atStart => exact ⟨0, Nat.zero_le _, rfl, 0, rfl⟩
  case round =>
    obtain ⟨j, hj, rfl, n, rfl⟩ := hrel
    by_cases hjl : j < len
    · have hlt : j < l.length := by rw [← HL.out]; exact hjl
      have p0 := HEL.out j hlt
      have q0 := HEL'.out j hlt
      generalize l[j] = d at p0 q0
      obtain rfl := HA.out (by omega)
      obtain rfl := HA'.out (by omega)
      have heq : (d.toList == d.toList) = true := by simp
      clear hlt
      go_wp2_with fail
      go_quiet (fail)
      go_wp2_with fail
      go_roundw
      case rel => exact ⟨j + 1, by omega, by go_num, n + nq, by rw [← World.drewN_drewN]⟩
      case measure => simp [intOf]; omega
    · go_wp2_with fail
      go_ret
      exact ⟨rfl, below_drew (Below.refl _ _)⟩
end Go.Proofs.YtholefgckcoklaaGreatDoor
