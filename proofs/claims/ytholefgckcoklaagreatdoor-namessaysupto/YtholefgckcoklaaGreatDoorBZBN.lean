/- How a lattice that came in is opened: its names are a list of strings, its table has so many rows of so many bools. -/
import Derived.Test.YtholefgckcoklaaGreatDoorRows
import Derived.Test.YtholefgckcoklaaGreatDoorBZAA
import Derived.ProofKit
import Derived.OpenShut
import Derived.ShutString
import Derived.ChangeOld
import Derived.Below
import Derived.SliceStrings
import Derived.Deep.Grids
import Derived.Lib.SmallJoins
import Derived.Test.YtholefgckcoklaaGreatDoorBZAS
import Derived.Test.YtholefgckcoklaaGreatDoorBZBD
import Derived.Test.YtholefgckcoklaaGreatDoorBZAG
import Derived.Test.YtholefgckcoklaaGreatDoorBZBK
import Derived.Test.YtholefgckcoklaaGreatDoorBZBB
import Derived.Test.YtholefgckcoklaaGreatDoorBZBM
namespace Go.Proofs.YtholefgckcoklaaGreatDoor
open Go.ChangeShapes Go.WideShapes Go.ChangeAt Go.RowKit Go.Deep Go.Joins
theorem cellsString : Tryz.prog.cellsOf 9 = 1 := by kernel_rfl
theorem cellsRow : Tryz.prog.cellsOf 175 = 1 := by kernel_rfl
theorem cellsBool : Tryz.prog.cellsOf 4 = 1 := by kernel_rfl
theorem cellsLattice : Tryz.prog.cellsOf 34 = 2 := by kernel_rfl
theorem open_strs {H : Type} {enc : TypeId × Value → H} {W : World} {m : Nat} {v : Value} {y : DataW H × List MemPlace} (h : DataW.trod enc Tryz.prog W 0 (fun _ => true) true m 22 [v] = some y) : ∃ ss, Strs W v ss := by
  rcases open_strings Tryz.underlying22 Tryz.underlying9 cellsString h with ⟨hcs, _⟩ | ⟨a, len, cap, ss, hcs, _, hl, hm, hz, _, hcell, hws⟩
  · simp at hcs
    subst hcs
    exact ⟨[], none, 0, 0, 0, rfl, fun h => absurd h (Nat.lt_irrefl _), by decide, fun s hs => by simp at hs, fun j hj => absurd hj (Nat.not_lt_zero _)⟩
  · simp at hcs
    subst hcs
    simp only [if_true] at hz
    unfold maxLen at hm
    have hlen : (ss.take len).length = len := by rw [List.length_take]; omega
    obtain ⟨b, off, spot⟩ := a
    refine ⟨ss.take len, some ⟨b, off, spot⟩, b, off, cap, by rw [hlen], fun h0 => ?_, by rw [hlen]; omega, fun s hs => hws s (List.mem_of_mem_take hs), fun j hj => ?_⟩
    · rw [hlen] at h0
      have := World.cell?_spot (hcell 0 (by omega))
      simp [Addr.add] at this
      rw [this]
    · rw [hlen] at hj
      have h1 := hcell j (by omega)
      have := World.cell?_spot (hcell 0 (by omega))
      simp [Addr.add] at this
      subst this
      rw [add_plain] at h1
      have e : (ss.take len).getD j ByteArray.empty = ss.getD j ByteArray.empty := by
        rw [List.getD, List.getD, List.getElem?_take_of_lt hj]
      rw [e]
      exact h1
theorem open_rag {H : Type} {enc : TypeId × Value → H} {W : World} {m : Nat} {v : Value} {y : DataW H × List MemPlace} (h : DataW.trod enc Tryz.prog W 0 (fun _ => true) true m 32 [v] = some y) : ∃ G L Z, Rag W v G L Z := by
  rcases open_bool_rows Tryz.underlying32 Tryz.underlying175 Tryz.underlying4 cellsRow cellsBool h with ⟨hcs, _⟩ | ⟨a, len, cap, A, L, C, B, hcs, _, hl, hm, _, hrows⟩
  · simp at hcs
    subst hcs
    exact ⟨0, fun _ => 0, fun _ _ => false, none, 0, 0, 0, fun _ => none, fun _ => 0, fun _ => 0, fun _ => 0, rfl, fun h => absurd h (Nat.lt_irrefl _), by decide, fun r hr => absurd hr (Nat.not_lt_zero _), fun r hr => absurd hr (Nat.not_lt_zero _), fun r c hr => absurd hr (Nat.not_lt_zero _)⟩
  · simp at hcs
    subst hcs
    unfold maxLen at hm
    obtain ⟨gb, go, gs⟩ := a
    refine ⟨len, L, B, some ⟨gb, go, gs⟩, gb, go, cap, A, fun r => ((A r).getD default).block, fun r => ((A r).getD default).off, C, rfl, fun h0 => ?_, by omega, fun r hr => ?_, fun r hr => ?_, fun r c hr hc => ?_⟩
    · have := World.cell?_spot (hrows 0 (by omega)).1
      simp [Addr.add] at this
      rw [this]
    · obtain ⟨_, h1, h2, _⟩ := hrows r (by omega)
      unfold maxLen at h2
      omega
    · have h1 := (hrows r (by omega)).1
      have := World.cell?_spot (hrows 0 (by omega)).1
      simp [Addr.add] at this
      subst this
      rwa [add_plain] at h1
    · obtain ⟨_, h1, _, h3, h4⟩ := hrows r (by omega)
      cases hA : A r with
      | none => have := h3 hA; omega
      | some a' =>
        obtain ⟨ab, ao, asp⟩ := a'
        obtain ⟨_, hcell⟩ := h4 _ hA
        have h5 := hcell c (by omega)
        have has := World.cell?_spot (hcell 0 (by omega))
        simp [Addr.add] at has
        subst has
        rw [add_plain] at h5
        refine ⟨by simp [hA], ?_⟩
        simpa [hA] using h5
set_option maxRecDepth 100000 in
theorem open_lattice {H : Type} {enc : TypeId × Value → H} {W : World} {b0 : Nat} {v : Value} {d : DataW H} {p : List MemPlace} (hv : Value.okWide Tryz.prog W .any b0 34 v) (h : DataW.Trod enc Tryz.prog W 0 (fun _ => true) true 34 v d p) :
    ∃ vn vl ss G L Z, v = .agg #[vn, vl] ∧ Strs W vn ss ∧ Rag W vl G L Z := by
  obtain ⟨c0, c1, y0, y1, m, rfl, _, _, hy0, hy1⟩ := open_agg2 Tryz.underlying34 (by kernel_rfl) cellsLattice hv h
  obtain ⟨ss, hS⟩ := open_strs hy0
  obtain ⟨G, L, Z, hR⟩ := open_rag hy1
  exact ⟨c0, c1, ss, G, L, Z, rfl, hS, hR⟩
theorem own : ownKnob Tryz.prog.godebug = none := by kernel_rfl
theorem laidOut : laidOutB Tryz.prog = true := by kernel_rfl
end Go.Proofs.YtholefgckcoklaaGreatDoor
namespace Go.Proofs.YtholefgckcoklaaGreatDoor
open Go.ChangeShapes Go.WideShapes Go.ChangeAt Go.RowKit Go.Deep Go.Joins
theorem FusAt.monoN {w : World} {m k : Nat} {v : Value} {l : List Fu} (h : FusAt w m v l) (hk : m ≤ k) : FusAt w k v l := by
  obtain ⟨a, b, off, cap, e, h0, hl, h1⟩ := h
  refine ⟨a, b, off, cap, e, h0, hl, fun i s hs => ?_⟩
  obtain ⟨k1, vp, vb, e0, e1, e2, e3, g0, g1, g2, g3, g4, g5, g6, hp, hs', hx⟩ := h1 i s hs
  exact ⟨k1, vp, vb, e0, e1, e2, e3, g0, g1, g2, g3, g4, g5, g6, hp, hs'.mono k hk, hx.mono k hk⟩
theorem MoAt.monoN {w : World} {m k : Nat} {v : Value} {x : Mo} (h : MoAt w m v x) (hk : m ≤ k) : MoAt w k v x := by
  obtain ⟨vi, vv, vf, e, h0, h1, h2, h3⟩ := h
  exact ⟨vi, vv, vf, e, h0, h1, h2, h3.monoN hk⟩
theorem MosAt.monoN {w : World} {m k : Nat} {v : Value} {l : List Mo} (h : MosAt w m v l) (hk : m ≤ k) : MosAt w k v l := by
  obtain ⟨a, b, off, cap, e, h0, hl, h1⟩ := h
  refine ⟨a, b, off, cap, e, h0, hl, fun i x hx => ?_⟩
  obtain ⟨vi, vv, vf, g0, g1, g2, g3, hm⟩ := h1 i x hx
  exact ⟨vi, vv, vf, g0, g1, g2, g3, hm.monoN hk⟩
theorem fusW_monoN {w : World} {m k : Nat} {v : Value} {l : List Fu} (h : FusAt w m v l) (hk : m ≤ k) : fusW k l = fusW m l := by
  obtain ⟨a, b, off, cap, e, h0, hl, h1⟩ := h
  unfold fusW
  rw [map_congr_get (fun i s hs => by
    obtain ⟨_, vp, vb, e0, e1, e2, e3, _, _, _, _, _, _, _, _, hs', hx⟩ := h1 i s hs
    rw [exW_mono hx k hk, stsW_mono hs' k hk])]
theorem moW_monoN {w : World} {m k : Nat} {v : Value} {x : Mo} (h : MoAt w m v x) (hk : m ≤ k) : moW k x = moW m x := by
  obtain ⟨vi, vv, vf, e, h0, h1, h2, h3⟩ := h
  unfold moW
  rw [fusW_monoN h3 hk]
theorem mosW_monoN {w : World} {m k : Nat} {v : Value} {l : List Mo} (h : MosAt w m v l) (hk : m ≤ k) : ∀ y ∈ l, moW k y = moW m y := fun y hy => by
  obtain ⟨a, b, off, cap, e, h0, hl, h1⟩ := h
  obtain ⟨i, hi, rfl⟩ := List.mem_iff_getElem.1 hy
  obtain ⟨vi, vv, vf, g0, g1, g2, g3, hm⟩ := h1 i _ (List.getElem?_eq_getElem hi)
  exact moW_monoN hm hk
section
variable {H : Type} {enc : TypeId × Value → H} {W : World}
theorem bulk_one {d : DataW H} : ∀ {D : List (DataW H)} {i : Nat}, D[i]? = some d → Rows.uptoBulk d ≤ Rows.uptoBulkAll D
  | [], i, h => by simp at h
  | e :: D, 0, h => by
    simp at h
    subst h
    simp only [Rows.uptoBulkAll]
    omega
  | e :: D, i + 1, h => by
    have := bulk_one (D := D) (i := i) (by simpa using h)
    simp only [Rows.uptoBulkAll]
    omega
theorem open_cap {t e fuel : Nat} {v : Value} {y : DataW H × List MemPlace} (ht : Tryz.prog.underlying t = some (.slice e)) (h : DataW.trod enc Tryz.prog W 0 (fun _ => true) true fuel t [v] = some y) : CapOK v := by
  rcases DataW.trod_slice ht h with ⟨hcs, rfl⟩ | ⟨a, len, cap, elems, rest, n, hfuel, hcs, rfl, _, hl, hm, hlen, hel, _, _⟩
  · simp at hcs
    subst hcs
    intro a n c e
    injection e with _ e1 e2
    omega
  · simp at hcs
    subst hcs
    intro a n c e
    injection e with _ e1 e2
    omega
theorem open_parcap {fuel : Nat} {v : Value} {y : DataW H × List MemPlace} (h : DataW.trod enc Tryz.prog W 0 (fun _ => true) true fuel 24 [v] = some y) :
    ∀ b off n c, v = .slice (some ⟨b, off, none⟩) n c → ∀ i, i < n → ∃ vp, W.cell? ⟨b, off + i * 7 + 1, none⟩ = some vp ∧ CapOK vp := by
  obtain ⟨a, b, off, len, cap, D, hv, ha, hl, hD, hbulk, hel⟩ := open_elems Tryz.underlying24 cellsFu (by decide) h
  intro b' off' n' c' e i hi
  rw [hv] at e
  injection e with e0 e1 e2
  subst e1
  have h1 := ha (by omega)
  rw [e0] at h1
  injection h1 with h1
  injection h1 with h1 h2
  subst h1 h2
  obtain ⟨n0, cs, d', pl', hn', hlen', hcell, htrod, hDi⟩ := hel i hi
  obtain ⟨xs, n, hfn, hx, hlen, hxs, hf⟩ := DataW.trod_struct Tryz.underlying106 htrod
  obtain ⟨c0, c1, c2, c3, c4, c5, c6, rfl⟩ := list7 hlen'
  obtain ⟨y0, y1, y2, y3, rfl⟩ := list4 (by simpa using hxs)
  have f1 : DataW.trod enc Tryz.prog W 0 (fun _ => true) true n 22 (([c0, c1, c2, c3, c4, c5, c6].drop 1).take (Tryz.prog.cellsOf 22)) = some y1 := hf 1 _ rfl
  rw [cellsStrs] at f1
  simp only [List.drop, List.take] at f1
  exact ⟨c1, hcell 1 (by decide), open_cap Tryz.underlying22 f1⟩
set_option maxRecDepth 100000 in
theorem open_mocap {b0 : Nat} {v : Value} {d : DataW H} {p : List MemPlace} (hv : Value.okWide Tryz.prog W .any b0 26 v) (h : DataW.Trod enc Tryz.prog W 0 (fun _ => true) true 26 v d p) :
    ∃ m x vi vv vf, v = .agg #[.string x.name, vi, vv, vf] ∧ MoAt W m v x ∧ moW m x ≤ Rows.uptoBulk d ∧ MoCap W vi vf := by
  obtain ⟨m, x, hM, hW⟩ := open_mo hv h
  obtain ⟨c0, c1, c2, c3, y0, y1, y2, y3, m', rfl, rfl, _, f0, f1, f2, f3⟩ := open_agg4 Tryz.underlying26 (by kernel_rfl) cellsMo hv h
  have hM' := hM
  obtain ⟨vi, vv, vf, e, _⟩ := hM'
  simp at e
  obtain ⟨rfl, rfl, rfl, rfl⟩ := e
  exact ⟨m, x, _, _, _, rfl, hM, hW, open_cap Tryz.underlying22 f1, open_cap Tryz.underlying24 f3, open_parcap f3⟩
theorem open_moS {fuel : Nat} {cs : List Value} {d : DataW H} {pl : List MemPlace} (hl4 : cs.length = 4) (h : DataW.trod enc Tryz.prog W 0 (fun _ => true) true fuel 26 cs = some (d, pl)) :
    ∃ x vi vv vf, cs = [.string x.name, vi, vv, vf] ∧ MoAt W fuel (.agg #[.string x.name, vi, vv, vf]) x ∧ moW fuel x ≤ Rows.uptoBulk d := by
  obtain ⟨xs, n, hfn, hx, hlen, hxs, hf⟩ := DataW.trod_struct Tryz.underlying26 h
  obtain ⟨c0, c1, c2, c3, rfl⟩ := list4 hl4
  obtain ⟨y0, y1, y2, y3, rfl⟩ := list4 (by simpa using hxs)
  have f0 : DataW.trod enc Tryz.prog W 0 (fun _ => true) true n 9 (([c0, c1, c2, c3].drop 0).take (Tryz.prog.cellsOf 9)) = some y0 := hf 0 _ rfl
  rw [cellsStr] at f0
  simp only [List.drop, List.take] at f0
  have f1 : DataW.trod enc Tryz.prog W 0 (fun _ => true) true n 22 (([c0, c1, c2, c3].drop 1).take (Tryz.prog.cellsOf 22)) = some y1 := hf 1 _ rfl
  rw [cellsStrs] at f1
  simp only [List.drop, List.take] at f1
  have f2 : DataW.trod enc Tryz.prog W 0 (fun _ => true) true n 23 (([c0, c1, c2, c3].drop 2).take (Tryz.prog.cellsOf 23)) = some y2 := hf 2 _ rfl
  rw [cellsVas] at f2
  simp only [List.drop, List.take] at f2
  have f3 : DataW.trod enc Tryz.prog W 0 (fun _ => true) true n 24 (([c0, c1, c2, c3].drop 3).take (Tryz.prog.cellsOf 24)) = some y3 := hf 3 _ rfl
  rw [cellsFus] at f3
  simp only [List.drop, List.take] at f3
  obtain ⟨s0, e0, rfl, hs0⟩ := DataW.trod_string Tryz.underlying9 f0
  simp at e0
  subst e0
  obtain ⟨im, him, hwi⟩ := open_strsW f1
  obtain ⟨va, hva, hwv⟩ := open_vas f2
  obtain ⟨fu, hfu, hwf⟩ := open_fus f3
  simp only [Prod.mk.injEq] at hx
  obtain ⟨rfl, _⟩ := hx
  refine ⟨⟨s0, im, va, fu⟩, _, _, _, rfl, ⟨_, _, _, rfl, hs0, him, hva, hfu.monoN (by omega)⟩, ?_⟩
  unfold moW
  rw [fusW_monoN hfu (k := fuel) (by omega)]
  simp only [List.map_cons, List.map_nil, Rows.uptoBulk, Rows.uptoBulkAll, size_list']
  omega
set_option maxRecDepth 100000 in
theorem open_mos {b0 : Nat} {v : Value} {d : DataW H} {p : List MemPlace} (hv : Value.okWide Tryz.prog W .any b0 35 v) (h : DataW.Trod enc Tryz.prog W 0 (fun _ => true) true 35 v d p) :
    ∃ m l, MosAt W m v l ∧ ∀ y ∈ l, moW m y ≤ Rows.uptoBulk d := by
  obtain ⟨a0, l0, c0, rfl⟩ := okWide_slice Tryz.underlying35 hv
  obtain ⟨fuel, hf⟩ := h
  have hf' : DataW.trod enc Tryz.prog W 0 (fun _ => true) true fuel 35 [.slice a0 l0 c0] = some (d, p) := hf
  obtain ⟨a, b, off, len, cap, D, hv', ha, hl, hD, hbulk, hel⟩ := open_elems Tryz.underlying35 cellsMo (by decide) hf'
  have each : ∀ i, i < len → ∃ x : Mo, ∃ d', D[i]? = some d' ∧ moW fuel x ≤ Rows.uptoBulk d' ∧ ∃ vi vv vf, W.cell? ⟨b, off + i * 4, none⟩ = some (.string x.name) ∧ W.cell? ⟨b, off + i * 4 + 1, none⟩ = some vi ∧ W.cell? ⟨b, off + i * 4 + 2, none⟩ = some vv ∧ W.cell? ⟨b, off + i * 4 + 3, none⟩ = some vf ∧ MoAt W fuel (.agg #[.string x.name, vi, vv, vf]) x := by
    intro i hi
    obtain ⟨n', cs, d', pl', hn', hlen', hcell, htrod, hDi⟩ := hel i hi
    obtain ⟨x, vi, vv, vf, rfl, hx', hw⟩ := open_moS hlen' htrod
    refine ⟨x, d', hDi, by rw [moW_monoN hx' (k := fuel) (by omega)]; exact hw, vi, vv, vf, hcell 0 (by decide), hcell 1 (by decide), hcell 2 (by decide), hcell 3 (by decide), hx'.monoN (by omega)⟩
  obtain ⟨l, hll, hp⟩ := list_choose len each
  refine ⟨fuel, l, ⟨a, b, off, cap, by rw [hv', ← hll], by rw [hll]; exact ha, by rw [hll]; exact hl, fun i s hs => ?_⟩, fun y hy => ?_⟩
  · obtain ⟨_, _, _, hh⟩ := hp i s hs
    exact hh
  · obtain ⟨i, hi, rfl⟩ := List.mem_iff_getElem.1 hy
    obtain ⟨d', h1, h2, _⟩ := hp i _ (List.getElem?_eq_getElem hi)
    have h3 : Rows.uptoBulk d' ≤ Rows.uptoBulkAll D := bulk_one h1
    have h4 : Rows.uptoBulkAll D + 1 ≤ Rows.uptoBulk d := hbulk
    omega
end
end Go.Proofs.YtholefgckcoklaaGreatDoor
namespace Go.Proofs.YtholefgckcoklaaGreatDoor
open Go.RowKit
namespace Lat
end Lat
set_option maxHeartbeats 2000000 in
set_option maxRecDepth 100000 in
theorem checkFun_any (m : Nat) (w : World) (vp vb e0 e1 e2 e3 : Value) (f : Fu) (h : FuAt w m vp vb e0 e1 e2 e3 f) :
    Calls Tryz.prog 108 #[.agg #[.string f.name, vp, vb, e0, e1, e2, e3]] w fun e w' => e = .returned (.int .i64 (Lat.fuE m f)) ∧ Below w.heap.size w w' := by
  have HS := hide h
  obtain ⟨hnm, hp, hsb, hx⟩ := h
  obtain ⟨ae, ce, rfl, rfl, rfl, rfl⟩ := hx.shape
  obtain ⟨a1, cap1, rfl, hl1⟩ := hsb.shape
  obtain ⟨a2, cap2, rfl, hl2⟩ := hp.shape
  clear hx hsb hp
  have HE : Hid (Lat.fuE m f = if 4 < f.params.length then 2 else if (Lat.nameB f.name.data.toList && Lat.bodyB m f.body && Lat.exprB m f.result && f.params.all fun s => Lat.nameB s.data.toList) then 0 else 5) := rfl
  generalize f.result.args.length = le at *
  generalize f.body.length = l1 at *
  generalize f.params.length = l2 at *
  have HB0 := hide (boxBelow w (.cells #[.string f.name, .slice a2 l2 cap2, .slice a1 l1 cap1, .int .i64 f.result.kind, .int .i64 f.result.n, .string f.result.name, .slice ae le ce] 106))
  have q0 := box7_0 w (.string f.name) (.slice a2 l2 cap2) (.slice a1 l1 cap1) (.int .i64 f.result.kind) (.int .i64 f.result.n) (.string f.result.name) (.slice ae le ce) 106
  have q1 := box7_1 w (.string f.name) (.slice a2 l2 cap2) (.slice a1 l1 cap1) (.int .i64 f.result.kind) (.int .i64 f.result.n) (.string f.result.name) (.slice ae le ce) 106
  have q2 := box7_2 w (.string f.name) (.slice a2 l2 cap2) (.slice a1 l1 cap1) (.int .i64 f.result.kind) (.int .i64 f.result.n) (.string f.result.name) (.slice ae le ce) 106
  have q3 := box7_3 w (.string f.name) (.slice a2 l2 cap2) (.slice a1 l1 cap1) (.int .i64 f.result.kind) (.int .i64 f.result.n) (.string f.result.name) (.slice ae le ce) 106
  have q4 := box7_4 w (.string f.name) (.slice a2 l2 cap2) (.slice a1 l1 cap1) (.int .i64 f.result.kind) (.int .i64 f.result.n) (.string f.result.name) (.slice ae le ce) 106
  have q5 := box7_5 w (.string f.name) (.slice a2 l2 cap2) (.slice a1 l1 cap1) (.int .i64 f.result.kind) (.int .i64 f.result.n) (.string f.result.name) (.slice ae le ce) 106
  have q6 := box7_6 w (.string f.name) (.slice a2 l2 cap2) (.slice a1 l1 cap1) (.int .i64 f.result.kind) (.int .i64 f.result.n) (.string f.result.name) (.slice ae le ce) 106
  by_cases h4 : 4 < l2
  · rw [if_pos h4] at HE
    clear q0 q1 q2 q3 q4 q5 q6
    go_enter Tryz.func108, Tryz.ntmps108
    go_wp2
    go_ret
    exact ⟨ret_int HE.out.symm, HB0.out⟩
  rw [if_neg h4] at HE
  go_enter Tryz.func108, Tryz.ntmps108
  go_wp2_with fail
  refine (isName_any _ f.name hnm).mono ?_
  rintro e w1 ⟨rfl, hw1⟩
  subst hw1
  generalize (w.alloc (.cells #[.string f.name, .slice a2 l2 cap2, .slice a1 l1 cap1, .int .i64 f.result.kind, .int .i64 f.result.n, .string f.result.name, .slice ae le ce] 106)) = W0 at *
  generalize Lat.nameB f.name.data.toList = b1 at *
  cases b1
  · go_wp2
    go_ret
    exact ⟨ret_int (by rw [HE.out]; rfl), HB0.out⟩
  go_wp2_with fail
  refine (areNames_any _ _ f.params (HS.out.below HB0.out).2.1).mono ?_
  rintro e w1 ⟨rfl, hw1⟩
  subst hw1
  generalize (f.params.all fun s => Lat.nameB s.data.toList) = b2 at *
  cases b2
  · go_wp2
    go_ret
    exact ⟨ret_int (by rw [HE.out, Bool.and_false]; rfl), HB0.out⟩
  go_wp2_with fail
  refine (areCommands_any m _ _ f.body (HS.out.below HB0.out).2.2.1).mono ?_
  rintro e w1 ⟨rfl, hb1⟩
  replace q3 := cellUp q3 hb1
  replace q4 := cellUp q4 hb1
  replace q5 := cellUp q5 hb1
  replace q6 := cellUp q6 hb1
  have HB1 := hide (up HB0.out hb1)
  clear hb1 q0 q1 q2 HB0
  generalize Lat.bodyB m f.body = b3 at *
  cases b3
  · go_wp2
    go_ret
    exact ⟨ret_int (by rw [HE.out]; rfl), HB1.out⟩
  go_wp2_with fail
  refine (isExpr_any m _ _ _ _ _ f.result (HS.out.below HB1.out).2.2.2).mono ?_
  rintro e w2 ⟨rfl, hb2⟩
  have HB2 := hide (up HB1.out hb2)
  clear hb2 q3 q4 q5 q6
  generalize Lat.exprB m f.result = b4 at *
  cases b4
  · go_wp2
    go_ret
    exact ⟨ret_int (by rw [HE.out]; rfl), HB2.out⟩
  · go_wp2
    go_ret
    exact ⟨ret_int (by rw [HE.out]; rfl), HB2.out⟩
theorem fuE_ok {m : Nat} {f : Fu} (h : Lat.fuE m f = 0) : Lat.fuOk m f = true := by
  unfold Lat.fuE at h
  split at h
  · cases h
  · split at h
    · assumption
    · cases h
theorem fusE_ok {m : Nat} : ∀ {l : List Fu}, Lat.fusE m l = 0 → ∀ f ∈ l, Lat.fuE m f = 0
  | [], _, f, hf => by cases hf
  | g :: l, h, f, hf => by
    simp only [Lat.fusE] at h
    by_cases hg : Lat.fuE m g = 0
    · rw [if_pos hg] at h
      rcases List.mem_cons.1 hf with rfl | hf
      · exact hg
      · exact fusE_ok h f hf
    · rw [if_neg hg] at h
      exact absurd h hg
theorem funs_deep {w : World} {m : Nat} {v : Value} {l : List Fu} (h : FusAt w m v l) : l ≠ [] → m ≠ 0 := by
  rintro hne rfl
  obtain ⟨a, b, off, cap, _, _, _, hel⟩ := h
  obtain ⟨f, hf⟩ : ∃ f, l[0]? = some f := ⟨_, List.getElem?_eq_getElem (List.length_pos_iff.2 hne)⟩
  obtain ⟨_, vp, vb, e0, e1, e2, e3, _, _, _, _, _, _, _, _, hsb, _⟩ := hel 0 f hf
  exact hsb
set_option maxHeartbeats 4000000 in
set_option maxRecDepth 100000 in
theorem tcheck_any (m : Nat) (w : World) (v : Value) (x : Mo) (h : MoAt w m v x) (hw : moW m x ≤ 1048576) (_ht : Tab w) :
    Calls Tryz.prog 34 #[v] w fun e w' => e = .returned (.int .i64 (Lat.moE m x)) ∧ Below w.heap.size w w' := by
  have HM := hide h
  have HMD := hide (fun W (hW : Hid (Below w.heap.size w W)) => moduleDepth_any m W v x (h.below hW.out) hw)
  obtain ⟨vi, vv, vf, rfl, hnm, hI, hV, hF⟩ := h
  have hmz := funs_deep hF
  have HDP : Hid (Lat.strB x.name = true → x.imports.all Lat.strB = true → x.vars.all Lat.vaB = true → Lat.fusE m x.funs = 0 → Lat.deepB (Lat.moT m x) = decide (20 < Lat.moD m x)) :=
    fun h1 h2 h3 h4 => moT_dpt hmz h1 h2 h3 (fun f hf => fuE_ok (fusE_ok h4 f hf))
  have HE : Hid (Lat.moE m x = if 8 < x.imports.length ∨ 8 < x.vars.length ∨ 8 < x.funs.length then 2 else if ((Lat.strB x.name && x.imports.all Lat.strB) && x.vars.all Lat.vaB) = false then 5
      else if Lat.fusE m x.funs ≠ 0 then Lat.fusE m x.funs else if Lat.deepB (Lat.moT m x) then 2 else 0) := rfl
  have HIN := hide (fun W (hW : Hid (Below w.heap.size w W)) => areNames_any W vi x.imports (hI.below hW.out))
  have HVN := hide (fun W (hW : Hid (Below w.heap.size w W)) => areVars_any W vv x.vars (hV.below hW.out))
  obtain ⟨ai, ci, rfl, hli⟩ := hI.shape
  obtain ⟨av, cv, rfl, hlv⟩ : ∃ a c, vv = .slice a x.vars.length c ∧ x.vars.length ≤ 9223372036854775807 := by
    obtain ⟨a, _, _, c, e, _, e2, _⟩ := hV
    exact ⟨a, c, e, e2⟩
  obtain ⟨a, b, off, cap, rfl, ha, hl, hel⟩ := hF
  have HEL := hide hel
  have HA := hide ha
  clear hI hV hel ha hmz hw
  obtain ⟨l, hfs⟩ : ∃ l, l = x.funs := ⟨_, rfl⟩
  rw [← hfs] at HEL HA hl HE HDP HMD ⊢
  have HFS := hide hfs
  clear hfs
  obtain ⟨len, hlen⟩ : ∃ len, len = l.length := ⟨_, rfl⟩
  have HL := hide hlen
  rw [← hlen] at hl HA HE HMD ⊢
  clear hlen
  generalize x.imports.length = li at *
  generalize x.vars.length = lv at *
  have HB0 := hide (boxBelow w (.cells #[.string x.name, .slice ai li ci, .slice av lv cv, .slice a len cap] 26))
  have q0 := boxM0 w (.string x.name) (.slice ai li ci) (.slice av lv cv) (.slice a len cap) 26
  have q1 := boxM1 w (.string x.name) (.slice ai li ci) (.slice av lv cv) (.slice a len cap) 26
  have q2 := boxM2 w (.string x.name) (.slice ai li ci) (.slice av lv cv) (.slice a len cap) 26
  have q3 := boxM3 w (.string x.name) (.slice ai li ci) (.slice av lv cv) (.slice a len cap) 26
  by_cases hbig : 8 < li ∨ 8 < lv ∨ 8 < len
  · rw [if_pos hbig] at HE
    clear q0 q1 q2 q3
    by_cases b1 : 8 < li
    · clear hbig
      go_enter Tryz.func34, Tryz.ntmps34
      go_wp2
      go_ret
      exact ⟨ret_int HE.out.symm, HB0.out⟩
    · by_cases b2 : 8 < lv
      · clear hbig
        go_enter Tryz.func34, Tryz.ntmps34
        go_wp2
        go_ret
        exact ⟨ret_int HE.out.symm, HB0.out⟩
      · have b3 : 8 < len := by omega
        clear hbig
        go_enter Tryz.func34, Tryz.ntmps34
        go_wp2
        go_ret
        exact ⟨ret_int HE.out.symm, HB0.out⟩
  rw [if_neg hbig] at HE
  have b1 : ¬ 8 < li := by omega
  have b2 : ¬ 8 < lv := by omega
  have b3 : ¬ 8 < len := by omega
  clear hbig
  go_enter Tryz.func34, Tryz.ntmps34
  go_wp2_with fail
  refine (isName_any _ x.name hnm).mono ?_
  rintro e w1 ⟨rfl, hw1⟩
  subst hw1
  generalize (w.alloc (.cells #[.string x.name, .slice ai li ci, .slice av lv cv, .slice a len cap] 26)) = W0 at *
  cases hn : Lat.nameB x.name.data.toList
  · have HN : Hid (Lat.strB x.name = false) := hn
    go_wp2
    go_ret
    exact ⟨ret_int (by rw [HE.out, HN.out]; rfl), HB0.out⟩
  have HN : Hid (Lat.strB x.name = true) := hn
  go_wp2_with fail
  refine (HIN.out _ HB0).mono ?_
  rintro e w1 ⟨rfl, hw1⟩
  subst hw1
  cases hi : (x.imports.all fun s => Lat.nameB s.data.toList)
  · have HI : Hid (x.imports.all Lat.strB = false) := hi
    go_wp2
    go_ret
    exact ⟨ret_int (by rw [HE.out, HN.out, HI.out]; rfl), HB0.out⟩
  have HI : Hid (x.imports.all Lat.strB = true) := hi
  go_wp2_with fail
  refine (HVN.out _ HB0).mono ?_
  rintro e W1 ⟨rfl, hb1⟩
  replace q0 := cellUp q0 hb1
  replace q1 := cellUp q1 hb1
  replace q2 := cellUp q2 hb1
  replace q3 := cellUp q3 hb1
  have HB1 := hide (up HB0.out hb1)
  clear hb1 HB0 hn hi
  cases hv : (x.vars.all fun s => Lat.nameB s.name.data.toList && Lat.nameB s.level.data.toList)
  · have HV : Hid (x.vars.all Lat.vaB = false) := hv
    go_wp2
    go_ret
    exact ⟨ret_int (by rw [HE.out, HN.out, HI.out, HV.out]; rfl), HB1.out⟩
  have HV : Hid (x.vars.all Lat.vaB = true) := hv
  have HE2 : Hid (Lat.moE m x = if Lat.fusE m l ≠ 0 then Lat.fusE m l else if Lat.deepB (Lat.moT m x) then 2 else 0) := hide (by
    rw [HE.out, HN.out, HI.out, HV.out]; rfl)
  clear hv HE
  go_wp2
  go_loopw [41] (fun i wr => ∃ j : Nat, j ≤ len ∧ i = .int .i64 j ∧ (∀ d z, d < j → l[d]? = some z → Lat.fuE m z = 0) ∧ Below W1.heap.size W1 wr) (fun i _ => len - (intOf i).toNat)
  case atStart => exact ⟨0, Nat.zero_le _, rfl, fun d z hd => absurd hd (Nat.not_lt_zero _), Below.refl _ _⟩
  case round =>
    obtain ⟨j, hj, rfl, hall, hnx⟩ := hrel
    have HALL := hide hall
    clear hall
    by_cases hjl : j < len
    · obtain ⟨y, hy⟩ : ∃ y, l[j]? = some y := ⟨_, List.getElem?_eq_getElem (by rw [← HL.out]; exact hjl)⟩
      obtain ⟨k1, vp, vb, e0, e1, e2, e3, g0, g1, g2, g3, g4, g5, g6, hp, hsb, hx⟩ := HEL.out j y hy
      have HY := hide hy
      obtain rfl := HA.out (by omega)
      have hbb := up HB1.out hnx
      have u0 := cellUp g0 hbb
      have u1 := cellUp g1 hbb
      have u2' := cellUp g2 hbb
      have u3' := cellUp g3 hbb
      have u4 := cellUp g4 hbb
      have u5 := cellUp g5 hbb
      have u6 := cellUp g6 hbb
      have HAT : Hid (FuAt wr m vp vb e0 e1 e2 e3 y) := hide ⟨k1, hp.below hbb, hsb.below hbb, hx.below hbb⟩
      obtain ⟨ae, ce, rfl, rfl, rfl, rfl⟩ := hx.shape
      obtain ⟨a1, cap1, rfl, hl1⟩ := hsb.shape
      obtain ⟨a2, cap2, rfl, hl2⟩ := hp.shape
      have HNX := hide hnx
      clear g0 g1 g2 g3 g4 g5 g6 hx hsb hp hy hnx hbb q0 q1 q2 q3
      go_wp2_with fail
      refine (checkFun_any m _ _ _ _ _ _ _ y (HAT.out.below (boxBelow _ _))).mono ?_
      rintro e w5 ⟨rfl, hb5⟩
      have HN5 := hide (up HNX.out (up1 hb5))
      clear hb5 HNX
      obtain ⟨E, hE⟩ : ∃ E, E = Lat.fuE m y := ⟨_, rfl⟩
      have HEY := hide hE
      rw [← hE]
      clear hE
      by_cases h0 : E = 0
      · subst h0
        go_wp2_with fail
        go_roundw
        case rel => exact ⟨j + 1, by omega, by go_num, fun d z hd hz => by
            by_cases e : d = j
            · subst e
              rw [HY.out] at hz
              cases hz
              exact HEY.out.symm
            · exact HALL.out d z (by omega) hz, HN5.out⟩
        case measure => simp [intOf]; omega
      · have h0' := bne_zero_true h0
        have H0 := hide h0
        clear h0
        go_wp2
        go_ret
        exact ⟨ret_int (by rw [HE2.out, fusE_at HALL.out HY.out (by rw [← HEY.out]; exact H0.out), if_pos (by rw [← HEY.out]; exact H0.out)]; exact HEY.out), up HB1.out HN5.out⟩
    · have hf0 : Lat.fusE m l = 0 := fusE_zero (fun d z hz => HALL.out d z (by
        have := (List.getElem?_eq_some_iff.1 hz).1
        have := HL.out
        omega) hz)
      have HD := hide (HDP.out HN.out HI.out HV.out hf0)
      have HE3 : Hid (Lat.moE m x = if 20 < Lat.moD m x then 2 else 0) := hide (by
        rw [HE2.out, hf0, HD.out]; simp)
      have u0 := cellUp q0 hnx
      have u1 := cellUp q1 hnx
      have u2' := cellUp q2 hnx
      have u3' := cellUp q3 hnx
      have HNX := hide (up HB1.out hnx)
      clear hnx q0 q1 q2 q3 hf0
      go_wp2_with fail
      refine (HMD.out _ HNX).mono ?_
      rintro e w6 ⟨rfl, hb6⟩
      have HB6 := hide (up HNX.out hb6)
      clear hb6
      generalize Lat.moD m x = dd at *
      by_cases hd : 20 < dd
      · rw [if_pos hd] at HE3
        have hd' : (dd : Int) > 20 := by omega
        clear hd
        go_wp2
        go_ret
        exact ⟨ret_int HE3.out.symm, HB6.out⟩
      · rw [if_neg hd] at HE3
        have hd' : ¬ ((dd : Int) > 20) := by omega
        clear hd
        go_wp2
        go_ret
        exact ⟨ret_int HE3.out.symm, HB6.out⟩
end Go.Proofs.YtholefgckcoklaaGreatDoor
namespace Go.Proofs.YtholefgckcoklaaGreatDoor
open Go.RowKit
namespace Nm
def mosE (m : Nat) : List Mo → Int
  | [] => 0
  | x :: r => if Lat.moE m x = 0 then mosE m r else Lat.moE m x
def thE (e0 : Int) (m : Nat) (x : Mo) (known : List Mo) : Int := if e0 = 0 then (if Lat.moE m x = 0 then mosE m known else Lat.moE m x) else e0
theorem mosE_all {m : Nat} {l : List Mo} (h : ∀ x ∈ l, Lat.moE m x = 0) : mosE m l = 0 := by
  induction l with
  | nil => rfl
  | cons x r ih =>
    unfold mosE
    rw [if_pos (h x (by simp)), ih (fun y hy => h y (by simp [hy]))]
theorem mosE_first {m : Nat} {l : List Mo} {j : Nat} {x : Mo} (hx : l[j]? = some x) (h : ∀ (q : Nat) y, q < j → l[q]? = some y → Lat.moE m y = 0) (he : Lat.moE m x ≠ 0) : mosE m l = Lat.moE m x := by
  induction l generalizing j with
  | nil => simp at hx
  | cons y r ih =>
    cases j with
    | zero => simp at hx; subst hx; unfold mosE; rw [if_neg he]
    | succ j =>
      unfold mosE
      rw [if_pos (h 0 y (by omega) (by simp)), ih (j := j) (by simpa using hx) (fun q z hq hz => h (q + 1) z (by omega) (by simpa using hz))]
end Nm
end Go.Proofs.YtholefgckcoklaaGreatDoor
namespace Go.Proofs.YtholefgckcoklaaGreatDoor
open Go.RowKit
theorem sameD_self (d : Dg) : Nm.sameD d d = true := Nm.sameD_iff.2 rfl
set_option maxHeartbeats 1000000 in
set_option maxRecDepth 100000 in
theorem eqD_same (w : World) (va vb : Value) (l : List Dg) (ha : DgsAt w va l) (hb : DgsAt w vb l) :
    Calls Tryz.prog 14 #[va, vb] w fun e w' => e = .returned (.bool true) ∧ Below w.heap.size w w' := by
  obtain ⟨a, b, off, cap, rfl, h0, hl, hel⟩ := ha
  obtain ⟨a', b', off', cap', rfl, h0', -, hel'⟩ := hb
  have HEL := hide hel
  have HEL' := hide hel'
  have HA := hide h0
  have HA' := hide h0'
  obtain ⟨len, hlen⟩ : ∃ n, n = l.length := ⟨_, rfl⟩
  have HL := hide hlen
  rw [← hlen] at hl HA HA' ⊢
  clear hel hel' h0 h0' hlen
  go_enter Tryz.func14, Tryz.ntmps14
  go_wp2_with fail
  go_loopw [5, 13] (fun _ i wx => ∃ j : Nat, j ≤ len ∧ i = .int .i64 j ∧ ∃ n, wx = w.drewN n) (fun _ i _ => len - (intOf i).toNat)
  case atStart => exact ⟨0, Nat.zero_le _, rfl, 0, rfl⟩
  case round =>
    obtain ⟨j, hj, rfl, n, rfl⟩ := hrel
    by_cases hjl : j < len
    · obtain ⟨d, hd⟩ : ∃ d, l[j]? = some d := ⟨_, List.getElem?_eq_getElem (by rw [← HL.out]; exact hjl)⟩
      obtain ⟨p0, p1, p2⟩ := HEL.out j d hd
      obtain ⟨q0, q1, q2⟩ := HEL'.out j d hd
      obtain rfl := HA.out (by omega)
      obtain rfl := HA'.out (by omega)
      have heq : ∀ w, Sem.run Tryz.prog (Op.equalIn 10000 43 (.agg #[.int .i64 d.code, .string d.fn, .string d.name]) (.agg #[.int .i64 d.code, .string d.fn, .string d.name])) w = .ok true w := fun w => by rw [eqIn_dg d d w, sameD_self]
      have hgd : ∀ op a b w, Sem.run Tryz.prog (eqGuard op 43 a b (.agg #[.int .i64 d.code, .string d.fn, .string d.name]) (.agg #[.int .i64 d.code, .string d.fn, .string d.name])) w = .ok () w := fun op a b w => guard_dg op a b d d w
      clear hd
      go_wp2_with fail
      go_quiet (fail)
      go_wp2_with fail
      go_roundw
      case rel => exact ⟨j + 1, by omega, by go_num, n + nq, by rw [← World.drewN_drewN]⟩
      case measure => simp [intOf]; omega
    · go_wp2_with fail
      go_ret
      exact ⟨rfl, below_drew (Below.refl _ _)⟩
end Go.Proofs.YtholefgckcoklaaGreatDoor
