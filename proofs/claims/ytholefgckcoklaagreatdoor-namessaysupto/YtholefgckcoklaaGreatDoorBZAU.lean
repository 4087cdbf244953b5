/- How a lattice that came in is opened: its names are a list of strings, its table has so many rows of so many bools. -/
import Derived.Test.YtholefgckcoklaaGreatDoorRows
import Derived.Test.YtholefgckcoklaaGreatDoorBZAA
import Derived.ProofKit
import Derived.OpenShut
import Derived.ShutString
import Derived.ChangeOld
import Derived.Below
import Derived.SliceStrings
import Derived.Deep.Grids
import Derived.Lib.SmallJoins
import Derived.Test.YtholefgckcoklaaGreatDoorBZAK
import Derived.Test.YtholefgckcoklaaGreatDoorBZAS
namespace Go.Proofs.YtholefgckcoklaaGreatDoor
open Go.ChangeShapes Go.WideShapes Go.ChangeAt Go.RowKit Go.Deep Go.Joins
theorem cellsString : Tryz.prog.cellsOf 9 = 1 := by kernel_rfl
theorem cellsRow : Tryz.prog.cellsOf 175 = 1 := by kernel_rfl
theorem cellsBool : Tryz.prog.cellsOf 4 = 1 := by kernel_rfl
theorem cellsLattice : Tryz.prog.cellsOf 34 = 2 := by kernel_rfl
theorem open_strs {H : Type} {enc : TypeId × Value → H} {W : World} {m : Nat} {v : Value} {y : DataW H × List MemPlace} (h : DataW.trod enc Tryz.prog W 0 (fun _ => true) true m 22 [v] = some y) : ∃ ss, Strs W v ss := by
  rcases open_strings Tryz.underlying22 Tryz.underlying9 cellsString h with ⟨hcs, _⟩ | ⟨a, len, cap, ss, hcs, _, hl, hm, hz, _, hcell, hws⟩
  · simp at hcs
    subst hcs
    exact ⟨[], none, 0, 0, 0, rfl, fun h => absurd h (Nat.lt_irrefl _), by decide, fun s hs => by simp at hs, fun j hj => absurd hj (Nat.not_lt_zero _)⟩
  · simp at hcs
    subst hcs
    simp only [if_true] at hz
    unfold maxLen at hm
    have hlen : (ss.take len).length = len := by rw [List.length_take]; omega
    obtain ⟨b, off, spot⟩ := a
    refine ⟨ss.take len, some ⟨b, off, spot⟩, b, off, cap, by rw [hlen], fun h0 => ?_, by rw [hlen]; omega, fun s hs => hws s (List.mem_of_mem_take hs), fun j hj => ?_⟩
    · rw [hlen] at h0
      have := World.cell?_spot (hcell 0 (by omega))
      simp [Addr.add] at this
      rw [this]
    · rw [hlen] at hj
      have h1 := hcell j (by omega)
      have := World.cell?_spot (hcell 0 (by omega))
      simp [Addr.add] at this
      subst this
      rw [add_plain] at h1
      have e : (ss.take len).getD j ByteArray.empty = ss.getD j ByteArray.empty := by
        rw [List.getD, List.getD, List.getElem?_take_of_lt hj]
      rw [e]
      exact h1
theorem open_rag {H : Type} {enc : TypeId × Value → H} {W : World} {m : Nat} {v : Value} {y : DataW H × List MemPlace} (h : DataW.trod enc Tryz.prog W 0 (fun _ => true) true m 32 [v] = some y) : ∃ G L Z, Rag W v G L Z := by
  rcases open_bool_rows Tryz.underlying32 Tryz.underlying175 Tryz.underlying4 cellsRow cellsBool h with ⟨hcs, _⟩ | ⟨a, len, cap, A, L, C, B, hcs, _, hl, hm, _, hrows⟩
  · simp at hcs
    subst hcs
    exact ⟨0, fun _ => 0, fun _ _ => false, none, 0, 0, 0, fun _ => none, fun _ => 0, fun _ => 0, fun _ => 0, rfl, fun h => absurd h (Nat.lt_irrefl _), by decide, fun r hr => absurd hr (Nat.not_lt_zero _), fun r hr => absurd hr (Nat.not_lt_zero _), fun r c hr => absurd hr (Nat.not_lt_zero _)⟩
  · simp at hcs
    subst hcs
    unfold maxLen at hm
    obtain ⟨gb, go, gs⟩ := a
    refine ⟨len, L, B, some ⟨gb, go, gs⟩, gb, go, cap, A, fun r => ((A r).getD default).block, fun r => ((A r).getD default).off, C, rfl, fun h0 => ?_, by omega, fun r hr => ?_, fun r hr => ?_, fun r c hr hc => ?_⟩
    · have := World.cell?_spot (hrows 0 (by omega)).1
      simp [Addr.add] at this
      rw [this]
    · obtain ⟨_, h1, h2, _⟩ := hrows r (by omega)
      unfold maxLen at h2
      omega
    · have h1 := (hrows r (by omega)).1
      have := World.cell?_spot (hrows 0 (by omega)).1
      simp [Addr.add] at this
      subst this
      rwa [add_plain] at h1
    · obtain ⟨_, h1, _, h3, h4⟩ := hrows r (by omega)
      cases hA : A r with
      | none => have := h3 hA; omega
      | some a' =>
        obtain ⟨ab, ao, asp⟩ := a'
        obtain ⟨_, hcell⟩ := h4 _ hA
        have h5 := hcell c (by omega)
        have has := World.cell?_spot (hcell 0 (by omega))
        simp [Addr.add] at has
        subst has
        rw [add_plain] at h5
        refine ⟨by simp [hA], ?_⟩
        simpa [hA] using h5
set_option maxRecDepth 100000 in
theorem open_lattice {H : Type} {enc : TypeId × Value → H} {W : World} {b0 : Nat} {v : Value} {d : DataW H} {p : List MemPlace} (hv : Value.okWide Tryz.prog W .any b0 34 v) (h : DataW.Trod enc Tryz.prog W 0 (fun _ => true) true 34 v d p) :
    ∃ vn vl ss G L Z, v = .agg #[vn, vl] ∧ Strs W vn ss ∧ Rag W vl G L Z := by
  obtain ⟨c0, c1, y0, y1, m, rfl, _, _, hy0, hy1⟩ := open_agg2 Tryz.underlying34 (by kernel_rfl) cellsLattice hv h
  obtain ⟨ss, hS⟩ := open_strs hy0
  obtain ⟨G, L, Z, hR⟩ := open_rag hy1
  exact ⟨c0, c1, ss, G, L, Z, rfl, hS, hR⟩
theorem own : ownKnob Tryz.prog.godebug = none := by kernel_rfl
theorem laidOut : laidOutB Tryz.prog = true := by kernel_rfl
end Go.Proofs.YtholefgckcoklaaGreatDoor
namespace Go.Proofs.YtholefgckcoklaaGreatDoor
open Go.ChangeShapes Go.WideShapes Go.ChangeAt Go.RowKit Go.Deep Go.Joins
section
variable {H : Type} {enc : TypeId × Value → H} {W : World}
theorem open_elems {t e k : Nat} {fuel : Nat} {v : Value} {y : DataW H × List MemPlace} (ht : Tryz.prog.underlying t = some (.slice e)) (hk : Tryz.prog.cellsOf e = k) (hk0 : 0 < k)
    (h : DataW.trod enc Tryz.prog W 0 (fun _ => true) true fuel t [v] = some y) :
    ∃ (a : Option Addr) (b off len cap : Nat) (D : List (DataW H)), v = .slice a len cap ∧ (0 < len → a = some ⟨b, off, none⟩) ∧ len ≤ 9223372036854775807 ∧ D.length = len ∧ Rows.uptoBulkAll D + 1 ≤ Rows.uptoBulk y.1 ∧
      ∀ i, i < len → ∃ n cs d pl, fuel = n + 1 ∧ cs.length = k ∧ (∀ j, j < k → W.cell? ⟨b, off + i * k + j, none⟩ = cs[j]?) ∧ DataW.trod enc Tryz.prog W 0 (fun _ => true) true n e cs = some (d, pl) ∧ D[i]? = some d := by
  rcases DataW.trod_slice ht h with ⟨hcs, rfl⟩ | ⟨a, len, cap, elems, rest, n, hfuel, hcs, rfl, _, hl, hm, hlen, hel, _, _⟩
  · simp at hcs
    subst hcs
    exact ⟨none, 0, 0, 0, 0, [], rfl, fun h => absurd h (Nat.lt_irrefl _), by decide, rfl, by simp [Rows.uptoBulk, Rows.uptoBulkAll], fun i hi => absurd hi (Nat.not_lt_zero _)⟩
  · simp at hcs
    subst hcs
    unfold maxLen at hm
    obtain ⟨b, off, spot⟩ := a
    have each : ∀ i, i < len → ∃ cs d pl, cs.length = k ∧ (∀ j, j < k → W.cell? ((⟨b, off, spot⟩ : Addr).add (i * k + j)) = cs[j]?) ∧ DataW.trod enc Tryz.prog W 0 (fun _ => true) true n e cs = some (d, pl) ∧ (elems.map (·.1))[i]? = some d := by
      intro i hi
      have h1 := hel i hi
      rw [List.getElem?_eq_getElem (by omega), hk] at h1
      obtain ⟨cs, g1, g2⟩ := Option.bind_eq_some_iff.1 h1
      obtain ⟨_, g3, g4⟩ := World.cells?_some g1
      refine ⟨cs, _, _, g3, fun j hj => ?_, g2, by simp [List.getElem?_map, List.getElem?_eq_getElem (show i < elems.length by omega)]⟩
      rw [← add_add]; exact g4 j hj
    have hspot : 0 < len → spot = none := by
      intro h0
      obtain ⟨cs, d, pl, g1, g2, _⟩ := each 0 h0
      have := g2 0 hk0
      rw [List.getElem?_eq_getElem (by omega)] at this
      have := World.cell?_spot this
      simpa [Addr.add] using this
    refine ⟨some ⟨b, off, spot⟩, b, off, len, cap, elems.map (·.1), rfl, fun h0 => by rw [hspot h0], by omega, by simp [hlen], ?_, fun i hi => ?_⟩
    · simp only [Rows.uptoBulk]; omega
    · obtain ⟨cs, d, pl, g1, g2, g3, g4⟩ := each i hi
      refine ⟨n, cs, d, pl, hfuel, g1, fun j hj => ?_, g3, g4⟩
      have := g2 j hj
      rw [hspot (by omega), add_plain] at this
      rw [← this, Nat.add_assoc]
theorem list_choose {α : Type} : ∀ (len : Nat) {p : Nat → α → Prop}, (∀ i, i < len → ∃ x, p i x) → ∃ l : List α, l.length = len ∧ ∀ (i : Nat) (x : α), l[i]? = some x → p i x
  | 0, _, _ => ⟨[], rfl, fun i x h => by simp at h⟩
  | len + 1, p, h => by
    obtain ⟨x, hx⟩ := h 0 (by omega)
    obtain ⟨l, hl, hp⟩ := list_choose len (p := fun i => p (i + 1)) (fun i hi => h (i + 1) (by omega))
    refine ⟨x :: l, by simp [hl], fun i y hy => ?_⟩
    cases i with
    | zero => simp at hy; subst hy; exact hx
    | succ i => exact hp i y (by simpa using hy)
theorem sum_le {α : Type} {f : α → Nat} : ∀ {l : List α} {D : List (DataW H)}, l.length = D.length → (∀ (i : Nat) (x : α) (d : DataW H), l[i]? = some x → D[i]? = some d → f x ≤ Rows.uptoBulk d) → (l.map f).sum ≤ Rows.uptoBulkAll D
  | [], D, h, _ => by simp
  | x :: l, [], h, _ => by simp at h
  | x :: l, d :: D, h, hp => by
    have h0 := hp 0 x d rfl rfl
    have h1 := sum_le (l := l) (D := D) (by simpa using h) (fun i y d' h1 h2 => hp (i + 1) y d' (by simpa using h1) (by simpa using h2))
    simp only [List.map_cons, List.sum_cons, Rows.uptoBulkAll]
    omega
end
theorem cellsEx : Tryz.prog.cellsOf 103 = 4 := by kernel_rfl
theorem cellsSt : Tryz.prog.cellsOf 119 = 8 := by kernel_rfl
theorem cellsFu : Tryz.prog.cellsOf 106 = 7 := by kernel_rfl
theorem cellsVa : Tryz.prog.cellsOf 98 = 2 := by kernel_rfl
theorem cellsMo : Tryz.prog.cellsOf 26 = 4 := by kernel_rfl
theorem cellsInt : Tryz.prog.cellsOf 3 = 1 := by kernel_rfl
theorem cellsStr : Tryz.prog.cellsOf 9 = 1 := by kernel_rfl
theorem cellsStrs : Tryz.prog.cellsOf 22 = 1 := by kernel_rfl
theorem cellsExs : Tryz.prog.cellsOf 101 = 1 := by kernel_rfl
theorem cellsSts : Tryz.prog.cellsOf 99 = 1 := by kernel_rfl
theorem cellsVas : Tryz.prog.cellsOf 23 = 1 := by kernel_rfl
theorem cellsFus : Tryz.prog.cellsOf 24 = 1 := by kernel_rfl
theorem i64_of {n : Int} (h : (Lit.int .i64 n).wf = true) : I64 n := by
  simpa [I64, Lit.wf, IntKind.min, IntKind.max, IntKind.signed, IntKind.bits] using h
theorem size_list' (s : ByteArray) : s.data.toList.length = s.size := rfl
theorem list4 {α : Type} {cs : List α} (h : cs.length = 4) : ∃ a b c d, cs = [a, b, c, d] := by
  match cs, h with
  | [a, b, c, d], _ => exact ⟨a, b, c, d, rfl⟩
section
variable {H : Type} {enc : TypeId × Value → H} {W : World}
theorem open_ex : ∀ (fuel : Nat) {cs : List Value} {d : DataW H} {pl : List MemPlace}, DataW.trod enc Tryz.prog W 0 (fun _ => true) true fuel 103 cs = some (d, pl) →
    ∃ c0 c1 c2 c3 x, cs = [c0, c1, c2, c3] ∧ ExAt W fuel c0 c1 c2 c3 x ∧ exW fuel x ≤ Rows.uptoBulk d := by
  intro fuel
  induction fuel using Nat.strongRecOn with
  | ind fuel ih =>
    intro cs d pl h
    obtain ⟨xs, n, hfn, hx, hlen, hxs, hf⟩ := DataW.trod_struct Tryz.underlying103 h
    rw [cellsEx] at hlen
    obtain ⟨c0, c1, c2, c3, rfl⟩ := list4 hlen
    obtain ⟨y0, y1, y2, y3, rfl⟩ := list4 (by simpa using hxs)
    have f0 : DataW.trod enc Tryz.prog W 0 (fun _ => true) true n 3 (([c0, c1, c2, c3].drop 0).take (Tryz.prog.cellsOf 3)) = some y0 := hf 0 _ rfl
    rw [cellsInt] at f0
    simp only [List.drop, List.take] at f0
    have f1 : DataW.trod enc Tryz.prog W 0 (fun _ => true) true n 3 (([c0, c1, c2, c3].drop 1).take (Tryz.prog.cellsOf 3)) = some y1 := hf 1 _ rfl
    rw [cellsInt] at f1
    simp only [List.drop, List.take] at f1
    have f2 : DataW.trod enc Tryz.prog W 0 (fun _ => true) true n 9 (([c0, c1, c2, c3].drop 2).take (Tryz.prog.cellsOf 9)) = some y2 := hf 2 _ rfl
    rw [cellsStr] at f2
    simp only [List.drop, List.take] at f2
    have f3 : DataW.trod enc Tryz.prog W 0 (fun _ => true) true n 101 (([c0, c1, c2, c3].drop 3).take (Tryz.prog.cellsOf 101)) = some y3 := hf 3 _ rfl
    rw [cellsExs] at f3
    simp only [List.drop, List.take] at f3
    obtain ⟨k0, e0, rfl, w0⟩ := DataW.trod_int Tryz.underlying3 f0
    obtain ⟨k1, e1, rfl, w1⟩ := DataW.trod_int Tryz.underlying3 f1
    obtain ⟨s, e2, rfl, hs⟩ := DataW.trod_string Tryz.underlying9 f2
    simp at e0 e1 e2
    subst e0 e1 e2
    obtain ⟨a, b, off, len, cap, D, hv, ha, hl, hD, hbulk, hel⟩ := open_elems Tryz.underlying101 cellsEx (by decide) f3
    have each : ∀ i, i < len → ∃ x : Ex, ∃ d', D[i]? = some d' ∧ exW n x ≤ Rows.uptoBulk d' ∧ ∃ e0 e1 e2 e3, W.cell? ⟨b, off + i * 4, none⟩ = some e0 ∧ W.cell? ⟨b, off + i * 4 + 1, none⟩ = some e1 ∧ W.cell? ⟨b, off + i * 4 + 2, none⟩ = some e2 ∧ W.cell? ⟨b, off + i * 4 + 3, none⟩ = some e3 ∧ ExAt W n e0 e1 e2 e3 x := by
      intro i hi
      obtain ⟨n', cs, d', pl', hn', hlen', hcell, htrod, hDi⟩ := hel i hi
      obtain ⟨e0, e1, e2, e3, x, rfl, hx', hw⟩ := ih n' (by omega) htrod
      refine ⟨x, d', hDi, by rw [exW_mono hx' n (by omega)]; exact hw, e0, e1, e2, e3, hcell 0 (by decide), hcell 1 (by decide), hcell 2 (by decide), hcell 3 (by decide), hx'.mono n (by omega)⟩
    obtain ⟨l, hll, hp⟩ := list_choose len each
    simp only [Prod.mk.injEq] at hx
    obtain ⟨rfl, _⟩ := hx
    subst hfn
    refine ⟨_, _, _, _, ⟨k0, k1, s, l⟩, rfl, ⟨rfl, rfl, rfl, hs, i64_of w0, i64_of w1, a, b, off, cap, by rw [hv, ← hll], by rw [hll]; exact ha, by rw [hll]; exact hl, fun i y hy => ?_⟩, ?_⟩
    · obtain ⟨_, _, _, hh⟩ := hp i y hy
      exact hh
    · have hsum := sum_le (f := exW n) (l := l) (D := D) (by rw [hll, hD]) (fun i x d' h1 h2 => by
        obtain ⟨d'', h3, h4, _⟩ := hp i x h1
        rw [h2] at h3
        cases h3
        exact h4)
      simp only [exW, List.map_cons, List.map_nil, Rows.uptoBulk, Rows.uptoBulkAll, size_list']
      omega
end
end Go.Proofs.YtholefgckcoklaaGreatDoor
namespace Go.Proofs.YtholefgckcoklaaGreatDoor
open Go.RowKit
namespace Nm
theorem index_same {l : List ByteArray} {s : ByteArray} {i : Nat} (h : Lat.indexI l s = (i : Int)) : l.getD i ByteArray.empty = s := by
  unfold Lat.indexI at h
  cases hf : (List.range l.length).find? (Lat.isAt l s) with
  | none => rw [hf] at h; simp at h
  | some j =>
    rw [hf] at h
    have hji : j = i := by simp at h; omega
    subst hji
    have := List.find?_some hf
    unfold Lat.isAt at this
    rw [beq_iff_eq] at this
    exact (toList_inj this).symm
theorem tgt_ptgt (x : Mo) (k : Nat) (call : ByteArray) (known : List Mo) : (tgt x k call known).2.2 = (ptgt x k call known).2.2 ∧ ((tgt x k call known).2.2 = true → tgt x k call known = ptgt x k call known) := by
  cases hd : Lat.dotAt call with
  | none =>
    have e : ptgt x k call known = fnd (-1) x.funs call k := by simp [ptgt, hd]
    rw [e]
    unfold fnd
    cases hf : fnAt x.funs call k with
    | none => rw [tgt_here0 hd hf]; exact ⟨rfl, fun h => by simp at h⟩
    | some i => rw [tgt_here hd hf]; exact ⟨rfl, fun _ => rfl⟩
  | some d =>
    rcases idx_cases x.imports (Lat.preS call) with hi | ⟨i, hi, _⟩
    · have e : ptgt x k call known = (0, 0, false) := by simp [ptgt, hd, hi]
      rw [e, tgt_notI hd (by rw [hi]; rfl)]
      exact ⟨rfl, fun h => by simp at h⟩
    · have hs := index_same hi
      have hi0 : decide (0 ≤ Lat.indexI x.imports (Lat.preS call)) = true := by rw [hi]; simp
      cases hm : moAt known (Lat.preS call) with
      | none =>
        rw [ptgt_noM hd hi (by rw [hs]; exact hm), tgt_noM hd hi0 hm]
        exact ⟨rfl, fun h => by simp at h⟩
      | some a =>
        obtain ⟨y, hy, _⟩ := moAt_lt hm
        rw [ptgt_fn hd hi (by rw [hs]; exact hm) hy]
        unfold fnd
        cases hf : fnAt y.funs (Lat.sufS call) y.funs.length with
        | none => rw [tgt_nofn hd hi0 hm hy hf]; exact ⟨rfl, fun h => by simp at h⟩
        | some j => rw [tgt_fn hd hi0 hm hy hf]; exact ⟨rfl, fun _ => rfl⟩
end Nm
end Go.Proofs.YtholefgckcoklaaGreatDoor
