/- How lists of modules that came in are opened. -/
import Derived.Test.YtmhcameodlhloabTP
import Derived.Test.YtmhcameodlhloabNA
namespace Go.Proofs.Ytmhcameodlhloab
open Go.ChangeShapes Go.WideShapes Go.ChangeAt Go.RowKit Go.Deep Go.Joins

theorem cellsMos : Try.prog.cellsOf 63 = 1 := by kernel_rfl

theorem FusAt.monoN {w : World} {m k : Nat} {v : Value} {l : List Fu} (h : FusAt w m v l) (hk : m ≤ k) : FusAt w k v l := by
  obtain ⟨a, b, off, cap, e, h0, hl, h1⟩ := h
  refine ⟨a, b, off, cap, e, h0, hl, fun i s hs => ?_⟩
  obtain ⟨k1, vp, vb, e0, e1, e2, e3, g0, g1, g2, g3, g4, g5, g6, hp, hs', hx⟩ := h1 i s hs
  exact ⟨k1, vp, vb, e0, e1, e2, e3, g0, g1, g2, g3, g4, g5, g6, hp, hs'.mono k hk, hx.mono k hk⟩
theorem MoAt.monoN {w : World} {m k : Nat} {v : Value} {x : Mo} (h : MoAt w m v x) (hk : m ≤ k) : MoAt w k v x := by
  obtain ⟨vi, vv, vf, e, h0, h1, h2, h3⟩ := h
  exact ⟨vi, vv, vf, e, h0, h1, h2, h3.monoN hk⟩
theorem MosAt.monoN {w : World} {m k : Nat} {v : Value} {l : List Mo} (h : MosAt w m v l) (hk : m ≤ k) : MosAt w k v l := by
  obtain ⟨a, b, off, cap, e, h0, hl, h1⟩ := h
  refine ⟨a, b, off, cap, e, h0, hl, fun i x hx => ?_⟩
  obtain ⟨vi, vv, vf, g0, g1, g2, g3, hm⟩ := h1 i x hx
  exact ⟨vi, vv, vf, g0, g1, g2, g3, hm.monoN hk⟩
theorem fusW_monoN {w : World} {m k : Nat} {v : Value} {l : List Fu} (h : FusAt w m v l) (hk : m ≤ k) : fusW k l = fusW m l := by
  obtain ⟨a, b, off, cap, e, h0, hl, h1⟩ := h
  unfold fusW
  rw [map_congr_get (fun i s hs => by
    obtain ⟨_, vp, vb, e0, e1, e2, e3, _, _, _, _, _, _, _, _, hs', hx⟩ := h1 i s hs
    rw [exW_mono hx k hk, stsW_mono hs' k hk])]
theorem moW_monoN {w : World} {m k : Nat} {v : Value} {x : Mo} (h : MoAt w m v x) (hk : m ≤ k) : moW k x = moW m x := by
  obtain ⟨vi, vv, vf, e, h0, h1, h2, h3⟩ := h
  unfold moW
  rw [fusW_monoN h3 hk]
theorem mosW_monoN {w : World} {m k : Nat} {v : Value} {l : List Mo} (h : MosAt w m v l) (hk : m ≤ k) : ∀ y ∈ l, moW k y = moW m y := fun y hy => by
  obtain ⟨a, b, off, cap, e, h0, hl, h1⟩ := h
  obtain ⟨i, hi, rfl⟩ := List.mem_iff_getElem.1 hy
  obtain ⟨vi, vv, vf, g0, g1, g2, g3, hm⟩ := h1 i _ (List.getElem?_eq_getElem hi)
  exact moW_monoN hm hk
section
variable {H : Type} {enc : TypeId × Value → H} {W : World}
theorem bulk_one {d : DataW H} : ∀ {D : List (DataW H)} {i : Nat}, D[i]? = some d → Rows.uptoBulk d ≤ Rows.uptoBulkAll D
  | [], i, h => by simp at h
  | e :: D, 0, h => by
    simp at h
    subst h
    simp only [Rows.uptoBulkAll]
    omega
  | e :: D, i + 1, h => by
    have := bulk_one (D := D) (i := i) (by simpa using h)
    simp only [Rows.uptoBulkAll]
    omega

/-- A module, as it lies in a list. -/
theorem open_moS {fuel : Nat} {cs : List Value} {d : DataW H} {pl : List MemPlace} (hl4 : cs.length = 4) (h : DataW.trod enc Try.prog W 0 (fun _ => true) true fuel 130 cs = some (d, pl)) :
    ∃ x vi vv vf, cs = [.string x.name, vi, vv, vf] ∧ MoAt W fuel (.agg #[.string x.name, vi, vv, vf]) x ∧ moW fuel x ≤ Rows.uptoBulk d := by
  obtain ⟨xs, n, hfn, hx, hlen, hxs, hf⟩ := DataW.trod_struct Try.underlying130 h
  obtain ⟨c0, c1, c2, c3, rfl⟩ := list4 hl4
  obtain ⟨y0, y1, y2, y3, rfl⟩ := list4 (by simpa using hxs)
  have f0 : DataW.trod enc Try.prog W 0 (fun _ => true) true n 9 (([c0, c1, c2, c3].drop 0).take (Try.prog.cellsOf 9)) = some y0 := hf 0 _ rfl
  rw [cellsStr] at f0
  simp only [List.drop, List.take] at f0
  have f1 : DataW.trod enc Try.prog W 0 (fun _ => true) true n 22 (([c0, c1, c2, c3].drop 1).take (Try.prog.cellsOf 22)) = some y1 := hf 1 _ rfl
  rw [cellsStrs] at f1
  simp only [List.drop, List.take] at f1
  have f2 : DataW.trod enc Try.prog W 0 (fun _ => true) true n 127 (([c0, c1, c2, c3].drop 2).take (Try.prog.cellsOf 127)) = some y2 := hf 2 _ rfl
  rw [cellsVas] at f2
  simp only [List.drop, List.take] at f2
  have f3 : DataW.trod enc Try.prog W 0 (fun _ => true) true n 128 (([c0, c1, c2, c3].drop 3).take (Try.prog.cellsOf 128)) = some y3 := hf 3 _ rfl
  rw [cellsFus] at f3
  simp only [List.drop, List.take] at f3
  obtain ⟨s0, e0, rfl, hs0⟩ := DataW.trod_string Try.underlying9 f0
  simp at e0
  subst e0
  obtain ⟨im, him, hwi⟩ := open_strsW f1
  obtain ⟨va, hva, hwv⟩ := open_vas f2
  obtain ⟨fu, hfu, hwf⟩ := open_fus f3
  simp only [Prod.mk.injEq] at hx
  obtain ⟨rfl, _⟩ := hx
  refine ⟨⟨s0, im, va, fu⟩, _, _, _, rfl, ⟨_, _, _, rfl, hs0, him, hva, hfu.monoN (by omega)⟩, ?_⟩
  unfold moW
  rw [fusW_monoN hfu (k := fuel) (by omega)]
  simp only [List.map_cons, List.map_nil, Rows.uptoBulk, Rows.uptoBulkAll, size_list']
  omega

set_option maxRecDepth 100000 in
theorem open_mos {b0 : Nat} {v : Value} {d : DataW H} {p : List MemPlace} (hv : Value.okWide Try.prog W .any b0 63 v) (h : DataW.Trod enc Try.prog W 0 (fun _ => true) true 63 v d p) :
    ∃ m l, MosAt W m v l ∧ ∀ y ∈ l, moW m y ≤ Rows.uptoBulk d := by
  obtain ⟨a0, l0, c0, rfl⟩ := okWide_slice Try.underlying63 hv
  obtain ⟨fuel, hf⟩ := h
  have hf' : DataW.trod enc Try.prog W 0 (fun _ => true) true fuel 63 [.slice a0 l0 c0] = some (d, p) := hf
  obtain ⟨a, b, off, len, cap, D, hv', ha, hl, hD, hbulk, hel⟩ := open_elems Try.underlying63 cellsMo (by decide) hf'
  have each : ∀ i, i < len → ∃ x : Mo, ∃ d', D[i]? = some d' ∧ moW fuel x ≤ Rows.uptoBulk d' ∧ ∃ vi vv vf, W.cell? ⟨b, off + i * 4, none⟩ = some (.string x.name) ∧ W.cell? ⟨b, off + i * 4 + 1, none⟩ = some vi ∧ W.cell? ⟨b, off + i * 4 + 2, none⟩ = some vv ∧ W.cell? ⟨b, off + i * 4 + 3, none⟩ = some vf ∧ MoAt W fuel (.agg #[.string x.name, vi, vv, vf]) x := by
    intro i hi
    obtain ⟨n', cs, d', pl', hn', hlen', hcell, htrod, hDi⟩ := hel i hi
    obtain ⟨x, vi, vv, vf, rfl, hx', hw⟩ := open_moS hlen' htrod
    refine ⟨x, d', hDi, by rw [moW_monoN hx' (k := fuel) (by omega)]; exact hw, vi, vv, vf, hcell 0 (by decide), hcell 1 (by decide), hcell 2 (by decide), hcell 3 (by decide), hx'.monoN (by omega)⟩
  obtain ⟨l, hll, hp⟩ := list_choose len each
  refine ⟨fuel, l, ⟨a, b, off, cap, by rw [hv', ← hll], by rw [hll]; exact ha, by rw [hll]; exact hl, fun i s hs => ?_⟩, fun y hy => ?_⟩
  · obtain ⟨_, _, _, hh⟩ := hp i s hs
    exact hh
  · obtain ⟨i, hi, rfl⟩ := List.mem_iff_getElem.1 hy
    obtain ⟨d', h1, h2, _⟩ := hp i _ (List.getElem?_eq_getElem hi)
    have h3 : Rows.uptoBulk d' ≤ Rows.uptoBulkAll D := bulk_one h1
    have h4 : Rows.uptoBulkAll D + 1 ≤ Rows.uptoBulk d := hbulk
    omega
end

end Go.Proofs.Ytmhcameodlhloab
