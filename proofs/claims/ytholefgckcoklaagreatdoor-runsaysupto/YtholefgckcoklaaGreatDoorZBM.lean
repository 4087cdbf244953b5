/- How lists of modules that came in are opened, with their capacities. -/
import Derived.Test.YtholefgckcoklaaGreatDoorZBJ
import Derived.Test.YtholefgckcoklaaGreatDoorZBL
import Derived.Test.YtholefgckcoklaaGreatDoorZBK
import Derived.Test.YtholefgckcoklaaGreatDoorZBI
namespace Go.Proofs.YtholefgckcoklaaGreatDoor
open Go.ChangeShapes Go.WideShapes Go.ChangeAt Go.RowKit Go.Deep Go.Joins
section
variable {H : Type} {enc : TypeId × Value → H} {W : World}
theorem open_moSC {fuel : Nat} {cs : List Value} {d : DataW H} {pl : List MemPlace} (hl4 : cs.length = 4) (h : DataW.trod enc Tryz.prog W 0 (fun _ => true) true fuel 26 cs = some (d, pl)) :
    ∃ x vi vv vf, cs = [.string x.name, vi, vv, vf] ∧ MoAt W fuel (.agg #[.string x.name, vi, vv, vf]) x ∧ moW fuel x ≤ Rows.uptoBulk d ∧ MoCap W vi vf := by
  obtain ⟨xs, n, hfn, hx, hlen, hxs, hf⟩ := DataW.trod_struct Tryz.underlying26 h
  obtain ⟨c0, c1, c2, c3, rfl⟩ := list4 hl4
  obtain ⟨y0, y1, y2, y3, rfl⟩ := list4 (by simpa using hxs)
  have f0 : DataW.trod enc Tryz.prog W 0 (fun _ => true) true n 9 (([c0, c1, c2, c3].drop 0).take (Tryz.prog.cellsOf 9)) = some y0 := hf 0 _ rfl
  rw [cellsStr] at f0
  simp only [List.drop, List.take] at f0
  have f1 : DataW.trod enc Tryz.prog W 0 (fun _ => true) true n 22 (([c0, c1, c2, c3].drop 1).take (Tryz.prog.cellsOf 22)) = some y1 := hf 1 _ rfl
  rw [cellsStrs] at f1
  simp only [List.drop, List.take] at f1
  have f2 : DataW.trod enc Tryz.prog W 0 (fun _ => true) true n 23 (([c0, c1, c2, c3].drop 2).take (Tryz.prog.cellsOf 23)) = some y2 := hf 2 _ rfl
  rw [cellsVas] at f2
  simp only [List.drop, List.take] at f2
  have f3 : DataW.trod enc Tryz.prog W 0 (fun _ => true) true n 24 (([c0, c1, c2, c3].drop 3).take (Tryz.prog.cellsOf 24)) = some y3 := hf 3 _ rfl
  rw [cellsFus] at f3
  simp only [List.drop, List.take] at f3
  obtain ⟨s0, e0, rfl, hs0⟩ := DataW.trod_string Tryz.underlying9 f0
  simp at e0
  subst e0
  obtain ⟨im, him, hwi⟩ := open_strsW f1
  obtain ⟨va, hva, hwv⟩ := open_vas f2
  obtain ⟨fu, hfu, hwf⟩ := open_fus f3
  simp only [Prod.mk.injEq] at hx
  obtain ⟨rfl, _⟩ := hx
  refine ⟨⟨s0, im, va, fu⟩, _, _, _, rfl, ⟨_, _, _, rfl, hs0, him, hva, hfu.monoN (by omega)⟩, ?_, open_cap Tryz.underlying22 f1, open_cap Tryz.underlying24 f3, open_parcap f3⟩
  unfold moW
  rw [fusW_monoN hfu (k := fuel) (by omega)]
  simp only [List.map_cons, List.map_nil, Rows.uptoBulk, Rows.uptoBulkAll, size_list']
  omega
set_option maxRecDepth 100000 in
theorem open_moscap {b0 : Nat} {v : Value} {d : DataW H} {p : List MemPlace} (hv : Value.okWide Tryz.prog W .any b0 35 v) (h : DataW.Trod enc Tryz.prog W 0 (fun _ => true) true 35 v d p) :
    ∃ m l, MosAt W m v l ∧ (∀ y ∈ l, moW m y ≤ Rows.uptoBulk d) ∧ ∀ (b off cap : Nat), v = .slice (some ⟨b, off, none⟩) l.length cap → ∀ (i : Nat) (y : Mo) (vf : Value), l[i]? = some y → W.cell? ⟨b, off + i * 4 + 3, none⟩ = some vf → CapOK vf := by
  obtain ⟨a0, l0, c0, rfl⟩ := okWide_slice Tryz.underlying35 hv
  obtain ⟨fuel, hf⟩ := h
  have hf' : DataW.trod enc Tryz.prog W 0 (fun _ => true) true fuel 35 [.slice a0 l0 c0] = some (d, p) := hf
  obtain ⟨a, b, off, len, cap, D, hv', ha, hl, hD, hbulk, hel⟩ := open_elems Tryz.underlying35 cellsMo (by decide) hf'
  have each : ∀ i, i < len → ∃ x : Mo, ∃ d', D[i]? = some d' ∧ moW fuel x ≤ Rows.uptoBulk d' ∧ ∃ vi vv vf, W.cell? ⟨b, off + i * 4, none⟩ = some (.string x.name) ∧ W.cell? ⟨b, off + i * 4 + 1, none⟩ = some vi ∧ W.cell? ⟨b, off + i * 4 + 2, none⟩ = some vv ∧ W.cell? ⟨b, off + i * 4 + 3, none⟩ = some vf ∧ MoAt W fuel (.agg #[.string x.name, vi, vv, vf]) x ∧ MoCap W vi vf := by
    intro i hi
    obtain ⟨n', cs, d', pl', hn', hlen', hcell, htrod, hDi⟩ := hel i hi
    obtain ⟨x, vi, vv, vf, rfl, hx', hw, hcp⟩ := open_moSC hlen' htrod
    refine ⟨x, d', hDi, by rw [moW_monoN hx' (k := fuel) (by omega)]; exact hw, vi, vv, vf, hcell 0 (by decide), hcell 1 (by decide), hcell 2 (by decide), hcell 3 (by decide), hx'.monoN (by omega), hcp⟩
  obtain ⟨l, hll, hp⟩ := list_choose len each
  refine ⟨fuel, l, ⟨a, b, off, cap, by rw [hv', ← hll], by rw [hll]; exact ha, by rw [hll]; exact hl, fun i s hs => ?_⟩, fun y hy => ?_, fun b' off' cap' e i y vf hy k3 => ?_⟩
  · obtain ⟨_, _, _, vi, vv, vf, g0, g1, g2, g3, hm, _⟩ := hp i s hs
    exact ⟨vi, vv, vf, g0, g1, g2, g3, hm⟩
  · obtain ⟨i, hi, rfl⟩ := List.mem_iff_getElem.1 hy
    obtain ⟨d', h1, h2, _⟩ := hp i _ (List.getElem?_eq_getElem hi)
    have h3 : Rows.uptoBulk d' ≤ Rows.uptoBulkAll D := bulk_one h1
    have h4 : Rows.uptoBulkAll D + 1 ≤ Rows.uptoBulk d := hbulk
    omega
  · obtain ⟨_, _, _, vi', vv', vf', g0, g1, g2, g3, hm, hcp⟩ := hp i y hy
    have hi := (List.getElem?_eq_some_iff.1 hy).1
    rw [hv'] at e
    injection e with e0 e1 e2
    have h1 := ha (by omega)
    rw [e0] at h1
    injection h1 with h1
    injection h1 with h1 h2
    subst h1 h2
    rw [g3] at k3
    cases k3
    exact hcp.fus
end
end Go.Proofs.YtholefgckcoklaaGreatDoor
namespace Go.Proofs.YtholefgckcoklaaGreatDoor
open Go.RowKit
structure Kb (c : Dc) (q : Nat) (vp vd vns vvs : Value) (w : World) (vp' vd' vns' vvs' : Value) (w' : World) : Prop where
  below : Below c.n w w'
  block : ∀ k ob, w.heap[k]? = some ob → ¬ hot c vp vd k → k ≠ q → vns.ownBlock ≠ some k → vvs.ownBlock ≠ some k → w'.heap[k]? = some ob
  fp : ∀ k, vp'.ownBlock = some k → vp.ownBlock = some k ∨ w.heap.size ≤ k
  fd : ∀ k, vd'.ownBlock = some k → vd.ownBlock = some k ∨ w.heap.size ≤ k
  fn : ∀ k, vns'.ownBlock = some k → vns.ownBlock = some k ∨ w.heap.size ≤ k
  fv : ∀ k, vvs'.ownBlock = some k → vvs.ownBlock = some k ∨ w.heap.size ≤ k
section
variable {w w0 w' w2 : World} {c : Dc} {q : Nat} {vp vd vns vvs vp' vd' vns' vvs' vp2 vd2 vns2 vvs2 : Value}
theorem Kb.of (h : Kq c vp vd w vp' vd' w') (q : Nat) (vns vvs : Value) : Kb c q vp vd vns vvs w vp' vd' vns vvs w' :=
  ⟨h.below, fun k ob ho hn _ _ _ => h.block k ob ho hn, h.fp, h.fd, fun _ h => Or.inl h, fun _ h => Or.inl h⟩
theorem Kb.cold (h : Kb c q vp vd vns vvs w vp' vd' vns' vvs' w') {k : Nat} (hk : k < w.heap.size) (hn : ¬ hot c vp vd k) : ¬ hot c vp' vd' k := by
  rintro (e | e | e | e)
  · exact hn (Or.inl e)
  · exact hn (Or.inr (Or.inl e))
  · rcases h.fp k e with e | e
    · exact hn (Or.inr (Or.inr (Or.inl e)))
    · omega
  · rcases h.fd k e with e | e
    · exact hn (Or.inr (Or.inr (Or.inr e)))
    · omega
theorem Kb.trans (h : Kb c q vp vd vns vvs w vp' vd' vns' vvs' w') (k : Kb c q vp' vd' vns' vvs' w' vp2 vd2 vns2 vvs2 w2) : Kb c q vp vd vns vvs w vp2 vd2 vns2 vvs2 w2 := by
  have step : ∀ {f f' f2 : Value}, (∀ i, f'.ownBlock = some i → f.ownBlock = some i ∨ w.heap.size ≤ i) → (∀ i, f2.ownBlock = some i → f'.ownBlock = some i ∨ w'.heap.size ≤ i) → ∀ i, f2.ownBlock = some i → f.ownBlock = some i ∨ w.heap.size ≤ i := fun h1 h2 i hi => by
    rcases h2 i hi with e | e
    · exact h1 i e
    · exact Or.inr (Nat.le_trans h.below.size e)
  refine ⟨h.below.trans k.below, fun i ob ho hn hq h1 h2 => k.block i ob (h.block i ob ho hn hq h1 h2) (h.cold (block_lt ho) hn) hq (fun e => ?_) (fun e => ?_), step h.fp k.fp, step h.fd k.fd, step h.fn k.fn, step h.fv k.fv⟩
  · rcases h.fn i e with e | e
    · exact h1 e
    · have := block_lt ho; omega
  · rcases h.fv i e with e | e
    · exact h2 e
    · have := block_lt ho; omega
theorem Kb.fresh (h0 : Kq c vp vd w0 vp' vd' w) (h : Kb c q vp' vd' vns vvs w vp2 vd2 vns2 vvs2 w2) (hq : w0.heap.size ≤ q) (hn : ∀ k, vns.ownBlock = some k → w0.heap.size ≤ k) (hv : ∀ k, vvs.ownBlock = some k → w0.heap.size ≤ k) : Kq c vp vd w0 vp2 vd2 w2 := by
  have step : ∀ {f f' f2 : Value}, (∀ i, f'.ownBlock = some i → f.ownBlock = some i ∨ w0.heap.size ≤ i) → (∀ i, f2.ownBlock = some i → f'.ownBlock = some i ∨ w.heap.size ≤ i) → ∀ i, f2.ownBlock = some i → f.ownBlock = some i ∨ w0.heap.size ≤ i := fun h1 h2 i hi => by
    rcases h2 i hi with e | e
    · exact h1 i e
    · exact Or.inr (Nat.le_trans h0.below.size e)
  refine ⟨h0.below.trans h.below, fun k ob ho hh => ?_, step h0.fp h.fp, step h0.fd h.fd⟩
  have hk := block_lt ho
  exact h.block k ob (h0.block k ob ho hh) (h0.cold hk hh) (fun e => by omega) (fun e => by have := hn k e; omega) (fun e => by have := hv k e; omega)
end
def AfB (W w w' : World) (c : Dc) (nm : List (ByteArray × ByteArray)) (l : List Mo) (m : Nat) (vp vd : Value) (q a : Nat) (x : Mo) (f : Nat) (vns vvs : Value) (r : Rn.Own × Rn.Sta) : Prop :=
  ∃ vp' vd' D' ns' vals' vns' vvs', DRun W w' c nm l m r.2 vp' vd' D' q a x f ns' vals' vns' vvs' ∧ r.1 = Rn.own0 ns' vals' ∧ Kb c q vp vd vns vvs w vp' vd' vns' vvs' w'
theorem AfB.trans {W w w1 w2 : World} {c : Dc} {nm : List (ByteArray × ByteArray)} {l : List Mo} {m : Nat} {vp vd vp1 vd1 : Value} {q a : Nat} {x : Mo} {f : Nat} {vns vvs vns1 vvs1 : Value} {r : Rn.Own × Rn.Sta} (hk : Kb c q vp vd vns vvs w vp1 vd1 vns1 vvs1 w1) (h : AfB W w1 w2 c nm l m vp1 vd1 q a x f vns1 vvs1 r) : AfB W w w2 c nm l m vp vd q a x f vns vvs r := by
  obtain ⟨vp', vd', D', ns', vals', vns', vvs', h1, h2, h3⟩ := h
  exact ⟨vp', vd', D', ns', vals', vns', vvs', h1, h2, hk.trans h3⟩
def BoD (W : World) (c : Dc) (nm : List (ByteArray × ByteArray)) (l : List Mo) (m K : Nat) (F : Rn.Fns) (g : Nat) : Prop :=
  ∀ (w : World) (s : Rn.Sta) (vp vd : Value) (D : List ByteArray) (q a : Nat) (x : Mo) (f : Nat) (ns : List ByteArray) (vals : List Int) (vns vvs : Value) (mm : Nat) (vb : Value) (b : List St), DRun W w c nm l m s vp vd D q a x f ns vals vns vvs → StsAt W mm vb b → Lat.bodyB mm b = true → s.fuel * K + mm ≤ g →
    Calls Tryz.prog 149 #[.pointer (some ⟨c.p, 0, none⟩), .pointer (some ⟨q, 0, none⟩), vb] w fun r w' => r = .returned (.int .i64 (Rn.dos (F.dO a f) b (Rn.own0 ns vals) s).1) ∧ Hid (AfB W w w' c nm l m vp vd q a x f vns vvs (Rn.dos (F.dO a f) b (Rn.own0 ns vals) s).2)
end Go.Proofs.YtholefgckcoklaaGreatDoor
namespace Go.Proofs.YtholefgckcoklaaGreatDoor
open Go.RowKit
namespace Rn
theorem sto_len {nm : List (ByteArray × ByteArray)} {vs : List Vr} (h : vs.length = nm.length) : (sto nm vs).length = nm.length := by unfold sto; rw [List.length_map, List.length_zip]; omega
theorem sto_get {nm : List (ByteArray × ByteArray)} {vs : List Vr} {j : Nat} {u : ByteArray × ByteArray} {v : Vr} (hu : nm[j]? = some u) (hv : vs[j]? = some v) : (sto nm vs)[j]? = some ⟨u.1, u.2, v.val⟩ := by
  unfold sto
  rw [List.getElem?_map, show (nm.zip vs)[j]? = some (u, v) from List.getElem?_zip_eq_some.2 ⟨hu, hv⟩]
  rfl
theorem sto_st {nm : List (ByteArray × ByteArray)} {vs : List Vr} (h : vs.length = nm.length) {i : Nat} {x : ByteArray × ByteArray} {v : Vr} (hx : nm[i]? = some x) (hv : vs[i]? = some v) (u : Int) : sto nm (vs.modify i fun v => { v with val := u, st := true }) = (sto nm vs).set i ⟨x.1, x.2, u⟩ := by
  have hi := (List.getElem?_eq_some_iff.1 hx).1
  have hl := sto_len h
  apply List.ext_getElem?
  intro j
  have hg := mod_get vs i j (fun v => { v with val := u, st := true })
  by_cases hj : j < nm.length
  · have hy := List.getElem?_eq_getElem hj
    have hw := List.getElem?_eq_getElem (show j < vs.length by omega)
    by_cases e : i = j
    · subst e
      rw [if_pos rfl, hv] at hg
      rw [sto_get hx hg, List.getElem?_set_self (by omega)]
    · rw [if_neg e, hw] at hg
      rw [sto_get hy hg, List.getElem?_set_ne e, sto_get hy hw]
  · rw [List.getElem?_eq_none (by rw [sto_len (by rw [List.length_modify]; exact h)]; omega), List.getElem?_eq_none (by rw [List.length_set]; omega)]
end Rn
section
variable {W w w' w7 : World} {c : Dc} {nm : List (ByteArray × ByteArray)} {l : List Mo} {m : Nat} {s : Rn.Sta} {vp vd : Value} {D : List ByteArray} {q a : Nat} {x : Mo} {f : Nat} {ns : List ByteArray} {vals : List Int} {vns vvs : Value}
theorem DoM.tot_get (h : DoM w c nm s vp vd D) {i : Nat} {y : ByteArray × ByteArray} {v : Rn.Vr} (hx : nm[i]? = some y) (hv : s.vs[i]? = some v) : (c.tot nm s)[i]? = some ⟨y.1, y.2, v.val⟩ := by
  unfold Dc.tot
  rw [List.getElem?_append_left (by rw [Rn.sto_len h.lens]; exact (List.getElem?_eq_some_iff.1 hx).1), Rn.sto_get hx hv]
theorem DoM.write (h : DoM w c nm s vp vd D) {i : Nat} {y : ByteArray × ByteArray} {v : Rn.Vr} (hx : nm[i]? = some y) (hv : s.vs[i]? = some v) {u : Int} (hu : I64 u) :
    DoM (w.setCell ⟨c.cb, i * 3 + 2, none⟩ (.int .i64 u)) c nm { s with vs := s.vs.modify i fun v => { v with val := u, st := true } } vp vd D ∧ Kq c vp vd w vp vd (w.setCell ⟨c.cb, i * 3 + 2, none⟩ (.int .i64 u)) := by
  have hi := (List.getElem?_eq_some_iff.1 hx).1
  have hT := h.tot_get hx hv
  have hTs : c.tot nm { s with vs := s.vs.modify i fun v => { v with val := u, st := true } } = (c.tot nm s).set i ⟨y.1, y.2, u⟩ := by
    unfold Dc.tot
    show Rn.sto nm (s.vs.modify i fun v => { v with val := u, st := true }) ++ c.ex = _
    rw [Rn.sto_st h.lens hx hv u, List.set_append_left _ _ (by rw [Rn.sto_len h.lens]; exact hi)]
  rcases h.cel with ⟨h1, _, _⟩ | ⟨cap, cs, h1, h2, h3⟩
  · rw [h1] at hT; simp at hT
  have hcs : i * 3 + 2 < cs.size := (Array.getElem?_eq_some_iff.1 (h3 i _ hT).2.2).1
  have hp : c.p ≠ c.cb := fun e => by
    have := h.blk
    rw [e, h2] at this
    injection this with this
    injection this with _ this
    exact absurd this (by decide)
  have hvp : ∀ g ob, vp.ownBlock = some g → w.heap[g]? = some ob → (w.setCell ⟨c.cb, i * 3 + 2, none⟩ (.int .i64 u)).heap[g]? = some ob := fun g ob hg ho => block_other ho (fun e => by
    obtain ⟨cur, hc⟩ := h.pr.typ hg
    rw [show g = c.cb from e, h2] at hc
    injection hc with hc
    injection hc with _ hc
    exact absurd hc (by decide)) _
  have hvd : ∀ g ob, vd.ownBlock = some g → w.heap[g]? = some ob → (w.setCell ⟨c.cb, i * 3 + 2, none⟩ (.int .i64 u)).heap[g]? = some ob := fun g ob hg ho => block_other ho (fun e => by
    obtain ⟨cur, hc⟩ := row_typ h.did hg
    rw [show g = c.cb from e, h2] at hc
    injection hc with hc
    injection hc with _ hc
    exact absurd hc (by decide)) _
  refine ⟨⟨h.base, block_other h.blk hp _, h.pr.sameK hvp, row_same h.did hvd, h.cbn, Or.inr ⟨cap, cs.setIfInBounds (i * 3 + 2) (.int .i64 u), by rw [hTs, List.length_set]; exact h1, block_set h2 _ _, fun j z hz => ?_⟩, by rw [List.length_modify]; exact h.lens, fun z hz => ?_, h.room, h.lenD, h.nml, h.nms, h.dsz⟩,
    ⟨(Below.refl _ _).setCell h.cbn _, fun k ob ho hn => block_other ho (fun e => hn (Or.inr (Or.inl e))) _, fun _ h => Or.inl h, fun _ h => Or.inl h⟩⟩
  · rw [hTs] at hz
    by_cases e : i = j
    · subst e
      rw [List.getElem?_set_self (List.getElem?_eq_some_iff.1 hT).1] at hz
      cases hz
      obtain ⟨g0, g1, g2⟩ := h3 i _ hT
      refine ⟨?_, ?_, ?_⟩
      · rw [Array.getElem?_setIfInBounds_ne (by omega)]; exact g0
      · rw [Array.getElem?_setIfInBounds_ne (by omega)]; exact g1
      · rw [Array.getElem?_setIfInBounds_self_of_lt hcs]
    · rw [List.getElem?_set_ne e] at hz
      obtain ⟨g0, g1, g2⟩ := h3 j _ hz
      refine ⟨?_, ?_, ?_⟩
      · rw [Array.getElem?_setIfInBounds_ne (by omega)]; exact g0
      · rw [Array.getElem?_setIfInBounds_ne (by omega)]; exact g1
      · rw [Array.getElem?_setIfInBounds_ne (by omega)]; exact g2
  · obtain ⟨j, hj, e2⟩ := List.mem_iff_getElem.1 hz
    have hg := mod_get s.vs i j (fun v => { v with val := u, st := true })
    rw [List.getElem?_eq_getElem hj, e2] at hg
    by_cases e3 : i = j
    · subst e3
      rw [if_pos rfl, hv] at hg
      simp at hg
      rw [hg]
      exact hu
    · rw [if_neg e3] at hg
      exact h.val z (List.mem_of_getElem? hg.symm)
theorem DoM.prPut {v7 : Value} {d : ByteArray × Int} {o : Obj} (h : DoM w c nm s vp vd D) (hown : OwnK PrC w7 c.n 62 2 v7 (s.pr ++ [d])) (hg : (w.alloc o).grownBy w7 vp.ownBlock) (hl : ∀ k, v7.ownBlock = some k → vp.ownBlock = some k ∨ w.heap.size ≤ k) (hr : s.pr.length + 1 + s.fuel ≤ 10000) :
    w7.heap[c.p]? = some (.cells #[c.vl, c.vc, .int .i64 0, .slice none 0 0, vp, vd, .int .i64 s.fuel] 140 (0, 0)) ∧ DoM (w7.setCell ⟨c.p, 4, none⟩ v7) c nm { s with pr := s.pr ++ [d] } v7 vd D ∧ Kq c vp vd w v7 vd (w7.setCell ⟨c.p, 4, none⟩ v7) := by
  have keep : ∀ k ob, w.heap[k]? = some ob → vp.ownBlock ≠ some k → w7.heap[k]? = some ob := fun k ob ho hk => by
    rw [hg.block k (by have := block_lt ho; have := (boxBelow w o).size; omega) (fun e => hk e.symm)]
    exact block_alloc ho o
  have hp7 := keep c.p _ h.blk h.pp
  have hv7 : v7.ownBlock ≠ some c.p := hown.apart hp7 (by decide)
  have hdv : ∀ g, vd.ownBlock = some g → vp.ownBlock ≠ some g := fun g hg' e => by
    obtain ⟨c1, h1⟩ := h.pr.typ e
    obtain ⟨c2, h2⟩ := row_typ h.did hg'
    rw [h1] at h2
    injection h2 with h2
    injection h2 with _ h2
    exact absurd h2 (by decide)
  refine ⟨hp7, ⟨h.base, (block_set hp7 4 _).trans rfl, hown.sameK (fun g ob hg' ho => block_other ho (fun e => hv7 (by rw [hg']; exact congrArg some e)) _), row_same h.did (fun g ob hg' ho => block_other (keep g ob ho (hdv g hg')) (fun e => h.pd (by rw [hg']; exact congrArg some e)) _), h.cbn, ?_, h.lens, h.val, by show (s.pr ++ [d]).length + s.fuel ≤ 10000; rw [List.length_append]; simpa using hr, h.lenD, h.nml, h.nms, h.dsz⟩,
    ⟨((Below.refl c.n w).alloc h.nle o |>.grown hg (Nat.le_trans h.nle (boxBelow w o).size) (fun k hk => (h.pr.lt k hk).1)).setCell h.base _, fun k ob ho hn => block_other (keep k ob ho (fun e => hn (Or.inr (Or.inr (Or.inl e))))) (fun e => hn (Or.inl e)) _, hl, fun _ h => Or.inl h⟩⟩
  rcases h.cel with ⟨h1, h2, h3⟩ | ⟨cap, cs, h1, h2, h3⟩
  · exact Or.inl ⟨h1, h2, h3⟩
  · refine Or.inr ⟨cap, cs, h1, block_other (keep _ _ h2 (fun e => ?_)) (fun e => ?_) _, h3⟩
    · obtain ⟨c2, h4⟩ := h.pr.typ e
      rw [h2] at h4
      injection h4 with h4
      injection h4 with _ h4
      exact absurd h4 (by decide)
    · have e' : c.cb = c.p := e
      rw [e', h.blk] at h2
      injection h2 with h2
      injection h2 with _ h2
      exact absurd h2 (by decide)
theorem DRun.turn {n : ByteArray} {u : Int} {vns' vvs' : Value} {ns' : List ByteArray} {vals' : List Int} (h : DRun W w c nm l m s vp vd D q a x f ns vals vns vvs) (hb : Below c.n w w') (keep : ∀ k ob, w.heap[k]? = some ob → k ≠ q → vns.ownBlock ≠ some k → vvs.ownBlock ≠ some k → w'.heap[k]? = some ob)
    (hq : ∀ vi vv vf, w.heap[q]? = some (.cells #[.string x.name, vi, vv, vf, .int .i64 f, vns, vvs] 243 (0, 0)) → w'.heap[q]? = some (.cells #[.string x.name, vi, vv, vf, .int .i64 f, vns', vvs'] 243 (0, 0)))
    (hN : Own w' c.n vns' ns') (hV : OwnI w' c.n vvs' vals') (hl : ns'.length = vals'.length) (hns : ∀ z ∈ ns', z ∈ ns ∨ z = n) (hns2 : ∀ z ∈ ns, z ∈ ns') (hmi : Rn.mineB x f n = true) (hsz : n.size ≤ maxLen) (hvs : ∀ z ∈ vals', z ∈ vals ∨ z = u) (hu : I64 u) (hlim : ns'.length + s.fuel ≤ 20000)
    (fn : ∀ k, vns'.ownBlock = some k → vns.ownBlock = some k ∨ w.heap.size ≤ k) (fv : ∀ k, vvs'.ownBlock = some k → vvs.ownBlock = some k ∨ w.heap.size ≤ k) :
    DRun W w' c nm l m s vp vd D q a x f ns' vals' vns' vvs' ∧ Kb c q vp vd vns vvs w vp vd vns' vvs' w' := by
  obtain ⟨vi, vv, vf, hblk, hmo⟩ := h.on.blk
  have hot1 : ∀ k ob, w.heap[k]? = some ob → hot c vp vd k → w'.heap[k]? = some ob := fun k ob ho hh => by
    refine keep k ob ho (fun e => ?_) (fun e => ?_) (fun e => ?_)
    · subst e
      exact h.dm.cold hblk (by decide) (by decide) (by decide) (by decide) hh
    · obtain ⟨cur, hc⟩ := row_typ h.on.nrow e
      exact h.dm.coldS hc (h.sep k e) hh
    · obtain ⟨cur, hc⟩ := row_typ h.on.vrow e
      exact h.dm.cold hc (by decide) (by decide) (by decide) (by decide) hh
  have hdm : DoM w' c nm s vp vd D := by
    refine ⟨h.dm.base, hot1 _ _ h.dm.blk (Or.inl rfl), h.dm.pr.sameK (fun g ob hg ho => hot1 g ob ho (Or.inr (Or.inr (Or.inl hg)))), row_same h.dm.did (fun g ob hg ho => hot1 g ob ho (Or.inr (Or.inr (Or.inr hg)))), h.dm.cbn, ?_, h.dm.lens, h.dm.val, h.dm.room, h.dm.lenD, h.dm.nml, h.dm.nms, h.dm.dsz⟩
    rcases h.dm.cel with ⟨h1, h2, h3⟩ | ⟨cap, cs, h1, h2, h3⟩
    · exact Or.inl ⟨h1, h2, h3⟩
    · exact Or.inr ⟨cap, cs, h1, hot1 _ _ h2 (Or.inr (Or.inl rfl)), h3⟩
  refine ⟨⟨h.bel.trans (by rw [← h.cn]; exact hb), h.cn, h.mods, hdm, h.dk, ⟨h.on.qn, ⟨vi, vv, vf, hq vi vv vf hblk, hmo⟩, hN, hV, hl, fun z hz => ?_, fun z hz => ?_⟩, fun k h1 h2 => ?_, h.hx, h.hf, h.pos, fun p hp => hns2 p (h.par p hp), fun z hz => ?_, hlim, h.xsz⟩,
    ⟨hb, fun k ob ho _ hk h1 h2 => keep k ob ho hk h1 h2, fun _ h => Or.inl h, fun _ h => Or.inl h, fn, fv⟩⟩
  · rcases hns z hz with e | e
    · exact h.on.nsz z e
    · rw [e]; exact hsz
  · rcases hvs z hz with e | e
    · exact h.on.v64 z e
    · rw [e]; exact hu
  · rcases fn k h1 with e | e
    · exact h.sep k e h2
    · obtain ⟨cur, hc⟩ := row_typ h.dm.did h2
      have := block_lt hc
      omega
  · rcases hns z hz with e | e
    · exact h.own z e
    · rw [e]; exact hmi
theorem DRun.setVal {n : ByteArray} {u : Int} {i g cap : Nat} (h : DRun W w c nm l m s vp vd D q a x f ns vals vns (.slice (some ⟨g, 0, none⟩) vals.length cap)) (hi : Rn.lastTo ns n ns.length = i) (hu : I64 u) :
    DRun W (w.setCell ⟨g, i, none⟩ (.int .i64 u)) c nm l m s vp vd D q a x f ns (vals.set i u) vns (.slice (some ⟨g, 0, none⟩) vals.length cap) ∧ Kb c q vp vd vns (.slice (some ⟨g, 0, none⟩) vals.length cap) w vp vd vns (.slice (some ⟨g, 0, none⟩) vals.length cap) (w.setCell ⟨g, i, none⟩ (.int .i64 u)) := by
  obtain ⟨vi, vv, vf, hblk, hmo⟩ := h.on.blk
  obtain ⟨cur, hc⟩ := row_typ h.on.vrow (rfl : Value.ownBlock (.slice (some ⟨g, 0, none⟩) vals.length cap) = some g)
  have hqg : q ≠ g := block_ne hblk hc (by decide)
  have hr := Rn.lastTo_range ns n ns.length
  have hmem : n ∈ ns := List.mem_of_getElem? (Rn.lastTo_at (k := ns.length) (by omega))
  have hlen := h.on.len
  refine h.turn (n := n) (u := u) ((Below.refl _ _).setCell ((World.ownsRow.lt h.on.vrow g rfl).1) _) (fun k ob ho _ _ hk => block_other ho (fun e => hk (by rw [show k = g from e]; rfl)) _) (fun vi vv vf hb => block_other hb hqg _) ?_ ?_ (by rw [List.length_set]; exact hlen) (fun z hz => Or.inl hz) (fun z hz => hz) (h.own n hmem) (h.on.nsz n hmem) (fun z hz => ?_) hu h.lim (fun _ h => Or.inl h) (fun _ h => Or.inl h)
  · refine row_same h.on.nrow (fun k ob hk ho => block_other ho (fun e => ?_) _)
    obtain ⟨c1, h1⟩ := row_typ h.on.nrow hk
    exact block_ne h1 hc (by decide) e
  · have := (World.ownsRow.stored h.on.vrow i (.int .i64 u)).1
    unfold OwnI
    rw [List.length_set, List.map_set]
    exact this
  · rcases List.mem_or_eq_of_mem_set hz with e | e
    · exact Or.inl e
    · exact Or.inr e
end
theorem below_al {a w : World} {o : Obj} (h : Below a.heap.size a w) : Below a.heap.size a (w.alloc o) := up h (boxBelow w o)
theorem grown_keep {w wp w7 : World} {row : Option Nat} (hb : Below w.heap.size w wp) (hg : wp.grownBy w7 row) : ∀ k ob, w.heap[k]? = some ob → row ≠ some k → w7.heap[k]? = some ob := fun k ob ho hk => by
  rw [hg.block k (by have := block_lt ho; have := hb.size; omega) (fun e => hk e.symm)]
  exact at_upD ho hb
section
variable {W w w' w7 wp wq w8 : World} {c : Dc} {nm : List (ByteArray × ByteArray)} {l : List Mo} {m : Nat} {s : Rn.Sta} {vp vd : Value} {D : List ByteArray} {q a : Nat} {x : Mo} {f : Nat} {ns : List ByteArray} {vals : List Int} {vns vvs : Value}
theorem DRun.push {n : ByteArray} {u : Int} {g7 g8 l7 l8 c7 c8 : Nat} (h : DRun W w c nm l m s vp vd D q a x f ns vals vns vvs) (hb : Below w.heap.size w wp) (hg : wp.grownBy w7 vns.ownBlock) (hN : Own w7 c.n (.slice (some ⟨g7, 0, none⟩) l7 c7) (ns ++ [n])) (hl7 : vns.ownBlock = some g7 ∨ g7 = wp.heap.size)
    (hb2 : Below w7.heap.size w7 wq) (hg2 : wq.grownBy w8 vvs.ownBlock) (hV : OwnI w8 c.n (.slice (some ⟨g8, 0, none⟩) l8 c8) (vals ++ [u])) (hl8 : vvs.ownBlock = some g8 ∨ g8 = wq.heap.size) (hmi : Rn.mineB x f n = true) (hsz : n.size ≤ maxLen) (hu : I64 u) (hlim : ns.length + 1 + s.fuel ≤ 20000) :
    (∀ ob, w.heap[q]? = some ob → w8.heap[q]? = some ob) ∧
    DRun W ((w8.setCell ⟨q, 5, none⟩ (.slice (some ⟨g7, 0, none⟩) l7 c7)).setCell ⟨q, 6, none⟩ (.slice (some ⟨g8, 0, none⟩) l8 c8)) c nm l m s vp vd D q a x f (ns ++ [n]) (vals ++ [u]) (.slice (some ⟨g7, 0, none⟩) l7 c7) (.slice (some ⟨g8, 0, none⟩) l8 c8) ∧
    Kb c q vp vd vns vvs w vp vd (.slice (some ⟨g7, 0, none⟩) l7 c7) (.slice (some ⟨g8, 0, none⟩) l8 c8) ((w8.setCell ⟨q, 5, none⟩ (.slice (some ⟨g7, 0, none⟩) l7 c7)).setCell ⟨q, 6, none⟩ (.slice (some ⟨g8, 0, none⟩) l8 c8)) := by
  obtain ⟨vi0, vv0, vf0, hblk, hmo⟩ := h.on.blk
  have k7 := grown_keep hb hg
  have k8 : ∀ k ob, w7.heap[k]? = some ob → vvs.ownBlock ≠ some k → w8.heap[k]? = some ob := grown_keep hb2 hg2
  have hvq : vvs.ownBlock ≠ some q := fun e => by
    obtain ⟨cur, hc⟩ := row_typ h.on.vrow e
    exact block_ne hblk hc (by decide) rfl
  have hnq : vns.ownBlock ≠ some q := fun e => by
    obtain ⟨cur, hc⟩ := row_typ h.on.nrow e
    exact block_ne hblk hc (by decide) rfl
  have keep : ∀ k ob, w.heap[k]? = some ob → vns.ownBlock ≠ some k → vvs.ownBlock ≠ some k → w8.heap[k]? = some ob := fun k ob ho h1 h2 => k8 k ob (k7 k ob ho h1) h2
  have hq8 : ∀ ob, w.heap[q]? = some ob → w8.heap[q]? = some ob := fun ob ho => keep q ob ho hnq hvq
  have hsz1 : w.heap.size ≤ wp.heap.size := hb.size
  have hsz2 : w.heap.size ≤ wq.heap.size := Nat.le_trans (Nat.le_trans hsz1 hg.size) hb2.size
  have hN8 : Own w8 c.n (.slice (some ⟨g7, 0, none⟩) l7 c7) (ns ++ [n]) := row_same hN (fun k ob hk ho => k8 k ob ho (fun e => by
    obtain ⟨c1, h1⟩ := row_typ hN hk
    have hvr : vvs.ownBlock = some k := e
    obtain ⟨c2, h2⟩ := row_typ h.on.vrow hvr
    have h3 := k7 k _ h2 (fun e2 => by
      obtain ⟨c4, h4⟩ := row_typ h.on.nrow e2
      exact block_ne h4 h2 (by decide) rfl)
    exact block_ne h1 h3 (by decide) rfl))
  have hbel : Below c.n w w8 := by
    have hn := h.dm.nle
    have b1 : Below c.n w wp := hb.mono hn
    have b2 : Below c.n w w7 := b1.grown hg (Nat.le_trans hn hsz1) (fun k hk => (World.ownsRow.lt h.on.nrow k hk).1)
    have b3 : Below c.n w wq := b2.trans (hb2.mono (Nat.le_trans hn b2.size))
    exact b3.grown hg2 (Nat.le_trans hn hsz2) (fun k hk => (World.ownsRow.lt h.on.vrow k hk).1)
  have hq7 : (g7 : Nat) ≠ q := fun e => by
    obtain ⟨c1, h1⟩ := row_typ hN (rfl : Value.ownBlock (.slice (some ⟨g7, 0, none⟩) l7 c7) = some g7)
    exact block_ne (k7 q _ hblk hnq) h1 (by decide) e.symm
  have hq8' : (g8 : Nat) ≠ q := fun e => by
    obtain ⟨c1, h1⟩ := row_typ hV (rfl : Value.ownBlock (.slice (some ⟨g8, 0, none⟩) l8 c8) = some g8)
    exact block_ne (hq8 _ hblk) h1 (by decide) e.symm
  have two : ∀ {k : Nat} {ob : Obj}, w8.heap[k]? = some ob → k ≠ q → ((w8.setCell ⟨q, 5, none⟩ (.slice (some ⟨g7, 0, none⟩) l7 c7)).setCell ⟨q, 6, none⟩ (.slice (some ⟨g8, 0, none⟩) l8 c8)).heap[k]? = some ob := fun ho hk => block_other (block_other ho hk _) hk _
  have hqn : c.n ≤ q := h.on.qn
  refine ⟨hq8, h.turn (n := n) (u := u) ((hbel.setCell hqn _).setCell hqn _) (fun k ob ho hk h1 h2 => two (keep k ob ho h1 h2) hk) (fun vi vv vf hb' => ?_) (row_same hN8 (fun k ob hk ho => two ho (fun e => hq7 (by injection hk with hk; exact (show g7 = k from hk).trans e)))) (row_same hV (fun k ob hk ho => two ho (fun e => hq8' (by injection hk with hk; exact (show g8 = k from hk).trans e)))) (by simp [h.on.len]) (fun z hz => by simpa using hz) (fun z hz => by simp [hz]) hmi hsz (fun z hz => by simpa using hz) hu (by simpa using hlim) (fun k hk => ?_) (fun k hk => ?_)⟩
  · exact (block_set (block_set (hq8 _ hb') 5 _) 6 _).trans rfl
  · injection hk with hk
    subst hk
    rcases hl7 with e | e
    · exact Or.inl e
    · exact Or.inr (by show w.heap.size ≤ g7; omega)
  · injection hk with hk
    subst hk
    rcases hl8 with e | e
    · exact Or.inl e
    · exact Or.inr (by show w.heap.size ≤ g8; omega)
end
theorem step_append_KL {α : Type} {At : List Value → α → Prop} {w : World} {ops : Array Oper} {o : Oper} {a : Act} {K : Act → World → Prop} {Q : Exit → Act → World → Prop} {E : Prop} (hgd : o.guard = none) (s x : Operand) (t e k bytes : Nat) (z : Value)
    (ho : o.op = .call { callee := .builtin .append, args := #[s, x], argTypes := #[t, t] }) (ht : Tryz.prog.underlying t = some (.slice e)) (hinfo : (Tryz.prog.info? e).map (fun i => (i.zero, i.size, i.bytes)) = some (some z, k, bytes)) (hzs : z.cells.size = k) (hk : 0 < k) (hby : bytes ≤ 1024)
    (n : Nat) (v : Value) (l : List α) (hs : a.eval s = v) (hown : OwnK At w n e k v l) (B : Nat) (c : List Value) (y : α) (hx : a.eval x = .slice (some ⟨B, 0, none⟩) 1 1)
    (hc : ∀ (j : Nat) u, c[j]? = some u → w.cell? ⟨B, j, none⟩ = some u) (hck : c.length = k) (h1 : ∀ u ∈ c, u.oneCell' = true) (hat : At c y) (hl : l.length ≤ 16777216) (hbase : n ≤ w.heap.size)
    (h : ∀ g cap w', OwnK At w' n e k (.slice (some ⟨g, 0, none⟩) (l.length + 1) cap) (l ++ [y]) → w.grownBy w' v.ownBlock → (v.ownBlock = some g ∨ g = w.heap.size) → K (a.put o.dst (.slice (some ⟨g, 0, none⟩) (l.length + 1) cap)) w') :
    if Region.wanted o (yielded ops a.tmps) = true then Oper.wp Tryz.prog o a w K Q else E := by
  obtain ⟨iS, hiS, hz0, hz1, hz2⟩ := info_parts hinfo
  obtain ⟨cs, hr, k1, k2, k3, _⟩ := hown
  refine step_append_lies w hgd s x t ho n e iS z k bytes ht hiS hz0 hz1 hz2 hzs hk v l.length cs.flatten hs hr ⟨B, 0, none⟩ 1 1 c hx (by rw [hck, Nat.one_mul]) (fun j u hu => by rw [Addr.add_lit, Nat.zero_add]; exact hc j u hu) h1 (by decide) (by unfold maxLen; omega)
    (Nat.le_trans (Nat.mul_le_mul (show l.length + 1 ≤ 16777217 by omega) hby) (by decide)) hbase w.heap.size rfl ?_
  intro g cap w' h1' h2 h3 _
  refine h g cap w' ⟨cs ++ [c], ?_, by simp [k1], fun d hd => ?_, fun i d u hd hu => ?_, fun e => by simp at e⟩ h2 h3
  · rw [List.flatten_append, List.length_append]
    simpa using h1'
  · rcases List.mem_append.1 hd with hd | hd
    · exact k2 d hd
    · simp at hd
      subst hd
      exact ⟨hck, h1⟩
  · by_cases hi : i < l.length
    · rw [List.getElem?_append_left (by omega)] at hd
      rw [List.getElem?_append_left hi] at hu
      exact k3 i d u hd hu
    · rw [List.getElem?_append_right (by omega)] at hd
      rw [List.getElem?_append_right (by omega)] at hu
      have hi0 : i - l.length = 0 := by
        have := (List.getElem?_eq_some_iff.1 hu).1
        simp at this
        omega
      rw [k1, hi0] at hd
      rw [hi0] at hu
      simp at hd hu
      subst hd hu
      exact hat
end Go.Proofs.YtholefgckcoklaaGreatDoor
namespace Go.Proofs.YtholefgckcoklaaGreatDoor
open Go.RowKit
namespace Rn
def leS (a b : ByteArray) : Prop := a.data.toList ≤ b.data.toList
def ltS (a b : ByteArray) : Prop := leS a b ∧ a ≠ b
theorem leS_anti {a b : ByteArray} (h : leS a b) (k : leS b a) : a = b := by
  have e := List.le_antisymm h k
  obtain ⟨⟨x⟩⟩ := a
  obtain ⟨⟨y⟩⟩ := b
  simp at e
  rw [e]
theorem srtS_perm (l : List ByteArray) : (srtS l).Perm l := by
  unfold srtS
  have h := (List.mergeSort_perm (l.map (·.data.toList)) (fun x y => decide (x ≤ y))).map (fun b : List UInt8 => (⟨b.toArray⟩ : ByteArray))
  refine h.trans (List.Perm.of_eq ?_)
  rw [List.map_map]
  have : ((fun b : List UInt8 => (⟨b.toArray⟩ : ByteArray)) ∘ fun x : ByteArray => x.data.toList) = id := by
    funext x
    cases x
    simp
  rw [this, List.map_id]
theorem srtS_asc (l : List ByteArray) : (srtS l).Pairwise leS := by
  unfold srtS
  rw [List.pairwise_map]
  have h := List.pairwise_mergeSort (le := fun x y : List UInt8 => decide (x ≤ y)) (fun a b c h1 h2 => by simp only [decide_eq_true_eq] at *; exact List.le_trans h1 h2) (fun a b => by simp only [Bool.or_eq_true, decide_eq_true_eq]; exact List.le_total a b) (l.map (·.data.toList))
  refine h.imp (fun {a b} hab => ?_)
  unfold leS
  simpa using hab
theorem cptS_asc (l : List ByteArray) (h : l.Pairwise leS) : (cptS l).Pairwise ltS := by
  have key : ∀ j, j ≤ l.length → (cptS (l.take j)).Pairwise ltS := fun j => by
    induction j with
    | zero => intro _; simp [cptS]
    | succ j ih =>
      intro hj
      have hx : l[j]? = some l[j] := List.getElem?_eq_getElem (by omega)
      rw [cptS_take hx]
      have hp := ih (by omega)
      have hle : ∀ z ∈ cptS (l.take j), leS z l[j] := fun z hz => by
        rw [cptS_mem] at hz
        obtain ⟨i, hi, e⟩ := List.mem_iff_getElem.1 hz
        rw [List.length_take] at hi
        rw [List.getElem_take] at e
        rw [← e]
        exact List.pairwise_iff_getElem.1 h i j (by omega) (by omega) (by omega)
      unfold cstS
      split
      · rename_i y hy
        split
        · exact hp
        · rename_i hs
          rw [List.pairwise_append]
          refine ⟨hp, by simp, fun z hz x hx' => ?_⟩
          simp at hx'
          subst hx'
          refine ⟨hle z hz, fun e => hs ?_⟩
          have hyl : leS z y := by
            obtain ⟨pre, hpre⟩ := List.getLast?_eq_some_iff.1 hy
            rw [hpre] at hz hp
            rcases List.mem_append.1 hz with h1 | h1
            · exact ((List.pairwise_append.1 hp).2.2 z h1 y (by simp)).1
            · simp at h1; subst h1; exact List.le_refl _
          have hym : y ∈ cptS (l.take j) := List.mem_of_getLast? hy
          have := leS_anti (hle y hym) (by rw [← e]; exact hyl)
          exact sameB_iff.2 this.symm
      · rename_i hn
        rw [List.getLast?_eq_none_iff] at hn
        rw [hn]
        simp
  have := key l.length (Nat.le_refl _)
  rwa [List.take_length] at this
theorem ltS_unique : ∀ {l1 l2 : List ByteArray}, l1.Pairwise ltS → l2.Pairwise ltS → (∀ x, x ∈ l1 ↔ x ∈ l2) → l1 = l2
  | [], [], _, _, _ => rfl
  | [], y :: _, _, _, h => absurd ((h y).2 (by simp)) (by simp)
  | x :: _, [], _, _, h => absurd ((h x).1 (by simp)) (by simp)
  | x :: r, y :: s, h1, h2, h => by
    have a1 := List.pairwise_cons.1 h1
    have a2 := List.pairwise_cons.1 h2
    have hxy : x = y := by
      rcases List.mem_cons.1 ((h x).1 (by simp)) with e | hx
      · exact e
      · rcases List.mem_cons.1 ((h y).2 (by simp)) with e | hy
        · exact e.symm
        · exact leS_anti (a1.1 y hy).1 (a2.1 x hx).1
    subst hxy
    congr 1
    refine ltS_unique a1.2 a2.2 fun z => ?_
    constructor
    · intro hz
      rcases List.mem_cons.1 ((h z).1 (List.mem_cons_of_mem _ hz)) with e | hz'
      · subst e; exact absurd rfl (a1.1 z hz).2
      · exact hz'
    · intro hz
      rcases List.mem_cons.1 ((h z).2 (List.mem_cons_of_mem _ hz)) with e | hz'
      · subst e; exact absurd rfl (a2.1 z hz).2
      · exact hz'
theorem srt_cpt {D L : List ByteArray} (hd : D.Nodup) (h : ∀ t, t ∈ D ↔ t ∈ L) : srtS D = cptS (srtS L) := by
  refine ltS_unique ?_ (cptS_asc _ (srtS_asc L)) (fun t => by rw [srtS_mem, h, cptS_mem, srtS_mem])
  have h1 := srtS_asc D
  have h2 : (srtS D).Nodup := (srtS_perm D).nodup_iff.2 hd
  exact h1.and h2
end Rn
end Go.Proofs.YtholefgckcoklaaGreatDoor
namespace Go.Proofs.YtholefgckcoklaaGreatDoor
open Go.RowKit Go.Maps
theorem all_ok (W : World) (c : Cfg) (nm : List (ByteArray × ByteArray)) (l : List Mo) (m K : Nat) (hK : m + 2 ≤ K) (hO : ModsOk W m c.vl l) : ∀ g, EvOk W c nm l m K (Rn.M nm l g) g ∧ DoOk W c nm l m K (Rn.M nm l g) g ∧ LpOk W c nm l m K (Rn.M nm l g) g := by
  intro g
  induction g using Nat.strongRecOn with
  | ind g ih =>
    cases g with
    | zero =>
      refine ⟨fun w s q a f om n o mm c0 c1 c2 c3 x _ _ hX _ hg => ?_, fun w s q a f om n o mm vs st _ _ hS _ hg => ?_, fun w s q a f om n o mm vs st _ _ _ _ hg => ?_⟩
      · have : mm = 0 := by omega
        subst this
        exact absurd hX (fun h => h)
      · have : mm = 0 := by omega
        subst this
        obtain ⟨_, _, _, _, _, _, _, _, hX, _⟩ := hS
        exact absurd hX (fun h => h)
      · omega
    | succ g =>
      obtain ⟨h1, h2, h3⟩ := ih g (Nat.lt_succ_self g)
      refine ⟨eval_step W c nm l m K _ g (by omega) (Rn.M_le nm l g) h1 h2 hO, do_step W c nm l m K _ g (by omega) (Rn.M_le nm l g) (Rn.M_tot nm l g) h1 h3 h2, loop_step W c nm l m K g (by omega) (fun g' hg => (ih g' (by omega)).1) (fun g' hg => (ih g' (by omega)).2.1)⟩
theorem enter_all (W : World) (c : Cfg) (nm : List (ByteArray × ByteArray)) (l : List Mo) (m : Nat) (hO : ModsOk W m c.vl l) (w : World) (s : Rn.Sta) (a k : Nat) (va : Value) (args : List Int)
    (hb : Below c.n W w) (hn : c.n = W.heap.size) (hL : MosAt W m c.vl l) (hM : MaAt w c nm s) (y : Mo) (fu : Fu) (hy : l[a]? = some y) (hf : y.funs[k]? = some fu) (hA : Ints w va args) (hAI : ∀ x ∈ args, I64 x) (g : Nat) (hg : s.fuel * (m + 2) + m ≤ g) :
    Calls Tryz.prog 66 #[.pointer (some ⟨c.p, 0, none⟩), .int .i64 a, .int .i64 k, va] w fun e w' => e = .returned (.tuple #[.int .i64 (Rn.enter (Rn.M nm l g) l a k args s).1, .int .i64 (Rn.enter (Rn.M nm l g) l a k args s).2.1]) ∧ Hid (MaAt w' c nm (Rn.enter (Rn.M nm l g) l a k args s).2.2 ∧ Kp c none w w' ∧ I64 (Rn.enter (Rn.M nm l g) l a k args s).1) := by
  obtain ⟨h1, h2, _⟩ := all_ok W c nm l m (m + 2) (Nat.le_refl _) hO g
  exact enter_any W c nm l m (m + 2) _ g h1 h2 w s a k va args hb hn hL hM y fu hy hf (fusE_ok (moE_len (hO.ok y (List.mem_of_getElem? hy))).2 fu (List.mem_of_getElem? hf)) hA hAI hg
end Go.Proofs.YtholefgckcoklaaGreatDoor
