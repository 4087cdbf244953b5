/- How a lattice that came in is opened: its names are a list of strings, its table has so many rows of so many bools. -/
import Derived.Test.YtbncnkfogkhoeaaGreatDoorRows
import Derived.Test.YtbncnkfogkhoeaaGreatDoorZA
import Derived.ProofKit
import Derived.OpenShut
import Derived.ShutString
import Derived.ChangeOld
import Derived.Below
import Derived.SliceStrings
import Derived.Deep.Grids
import Derived.Lib.SmallJoins
import Derived.Test.YtbncnkfogkhoeaaGreatDoorZH
import Derived.Test.YtbncnkfogkhoeaaGreatDoorZC
namespace Go.Proofs.YtbncnkfogkhoeaaGreatDoor
open Go.ChangeShapes Go.WideShapes Go.ChangeAt Go.RowKit Go.Deep Go.Joins

theorem cellsString : Tryz.prog.cellsOf 9 = 1 := by kernel_rfl
theorem cellsRow : Tryz.prog.cellsOf 150 = 1 := by kernel_rfl
theorem cellsBool : Tryz.prog.cellsOf 4 = 1 := by kernel_rfl
theorem cellsLattice : Tryz.prog.cellsOf 34 = 2 := by kernel_rfl

theorem open_strs {H : Type} {enc : TypeId × Value → H} {W : World} {m : Nat} {v : Value} {y : DataW H × List MemPlace} (h : DataW.trod enc Tryz.prog W 0 (fun _ => true) true m 22 [v] = some y) : ∃ ss, Strs W v ss := by
  rcases open_strings Tryz.underlying22 Tryz.underlying9 cellsString h with ⟨hcs, _⟩ | ⟨a, len, cap, ss, hcs, _, hl, hm, hz, _, hcell, hws⟩
  · simp at hcs
    subst hcs
    exact ⟨[], none, 0, 0, 0, rfl, fun h => absurd h (Nat.lt_irrefl _), by decide, fun s hs => by simp at hs, fun j hj => absurd hj (Nat.not_lt_zero _)⟩
  · simp at hcs
    subst hcs
    simp only [if_true] at hz
    unfold maxLen at hm
    have hlen : (ss.take len).length = len := by rw [List.length_take]; omega
    obtain ⟨b, off, spot⟩ := a
    refine ⟨ss.take len, some ⟨b, off, spot⟩, b, off, cap, by rw [hlen], fun h0 => ?_, by rw [hlen]; omega, fun s hs => hws s (List.mem_of_mem_take hs), fun j hj => ?_⟩
    · rw [hlen] at h0
      have := World.cell?_spot (hcell 0 (by omega))
      simp [Addr.add] at this
      rw [this]
    · rw [hlen] at hj
      have h1 := hcell j (by omega)
      have := World.cell?_spot (hcell 0 (by omega))
      simp [Addr.add] at this
      subst this
      rw [add_plain] at h1
      have e : (ss.take len).getD j ByteArray.empty = ss.getD j ByteArray.empty := by
        rw [List.getD, List.getD, List.getElem?_take_of_lt hj]
      rw [e]
      exact h1

theorem open_rag {H : Type} {enc : TypeId × Value → H} {W : World} {m : Nat} {v : Value} {y : DataW H × List MemPlace} (h : DataW.trod enc Tryz.prog W 0 (fun _ => true) true m 32 [v] = some y) : ∃ G L Z, Rag W v G L Z := by
  rcases open_bool_rows Tryz.underlying32 Tryz.underlying150 Tryz.underlying4 cellsRow cellsBool h with ⟨hcs, _⟩ | ⟨a, len, cap, A, L, C, B, hcs, _, hl, hm, _, hrows⟩
  · simp at hcs
    subst hcs
    exact ⟨0, fun _ => 0, fun _ _ => false, none, 0, 0, 0, fun _ => none, fun _ => 0, fun _ => 0, fun _ => 0, rfl, fun h => absurd h (Nat.lt_irrefl _), by decide, fun r hr => absurd hr (Nat.not_lt_zero _), fun r hr => absurd hr (Nat.not_lt_zero _), fun r c hr => absurd hr (Nat.not_lt_zero _)⟩
  · simp at hcs
    subst hcs
    unfold maxLen at hm
    obtain ⟨gb, go, gs⟩ := a
    refine ⟨len, L, B, some ⟨gb, go, gs⟩, gb, go, cap, A, fun r => ((A r).getD default).block, fun r => ((A r).getD default).off, C, rfl, fun h0 => ?_, by omega, fun r hr => ?_, fun r hr => ?_, fun r c hr hc => ?_⟩
    · have := World.cell?_spot (hrows 0 (by omega)).1
      simp [Addr.add] at this
      rw [this]
    · obtain ⟨_, h1, h2, _⟩ := hrows r (by omega)
      unfold maxLen at h2
      omega
    · have h1 := (hrows r (by omega)).1
      have := World.cell?_spot (hrows 0 (by omega)).1
      simp [Addr.add] at this
      subst this
      rwa [add_plain] at h1
    · obtain ⟨_, h1, _, h3, h4⟩ := hrows r (by omega)
      cases hA : A r with
      | none => have := h3 hA; omega
      | some a' =>
        obtain ⟨ab, ao, asp⟩ := a'
        obtain ⟨_, hcell⟩ := h4 _ hA
        have h5 := hcell c (by omega)
        have has := World.cell?_spot (hcell 0 (by omega))
        simp [Addr.add] at has
        subst has
        rw [add_plain] at h5
        refine ⟨by simp [hA], ?_⟩
        simpa [hA] using h5

set_option maxRecDepth 100000 in
theorem open_lattice {H : Type} {enc : TypeId × Value → H} {W : World} {b0 : Nat} {v : Value} {d : DataW H} {p : List MemPlace} (hv : Value.okWide Tryz.prog W .any b0 34 v) (h : DataW.Trod enc Tryz.prog W 0 (fun _ => true) true 34 v d p) :
    ∃ vn vl ss G L Z, v = .agg #[vn, vl] ∧ Strs W vn ss ∧ Rag W vl G L Z := by
  obtain ⟨c0, c1, y0, y1, m, rfl, _, _, hy0, hy1⟩ := open_agg2 Tryz.underlying34 (by kernel_rfl) cellsLattice hv h
  obtain ⟨ss, hS⟩ := open_strs hy0
  obtain ⟨G, L, Z, hR⟩ := open_rag hy1
  exact ⟨c0, c1, ss, G, L, Z, rfl, hS, hR⟩

theorem own : ownKnob Tryz.prog.godebug = none := by kernel_rfl
theorem laidOut : laidOutB Tryz.prog = true := by kernel_rfl

end Go.Proofs.YtbncnkfogkhoeaaGreatDoor

/- How a module that came in is opened: what its reading tells is a module as plain data, and its weight is at most the reading's bulk. -/
namespace Go.Proofs.YtbncnkfogkhoeaaGreatDoor
open Go.ChangeShapes Go.WideShapes Go.ChangeAt Go.RowKit Go.Deep Go.Joins

section
variable {H : Type} {enc : TypeId × Value → H} {W : World}

/-- A slice, opened at every element: its cells, and its reading with less fuel. -/
theorem open_elems {t e k : Nat} {fuel : Nat} {v : Value} {y : DataW H × List MemPlace} (ht : Tryz.prog.underlying t = some (.slice e)) (hk : Tryz.prog.cellsOf e = k) (hk0 : 0 < k)
    (h : DataW.trod enc Tryz.prog W 0 (fun _ => true) true fuel t [v] = some y) :
    ∃ (a : Option Addr) (b off len cap : Nat) (D : List (DataW H)), v = .slice a len cap ∧ (0 < len → a = some ⟨b, off, none⟩) ∧ len ≤ 9223372036854775807 ∧ D.length = len ∧ Rows.uptoBulkAll D + 1 ≤ Rows.uptoBulk y.1 ∧
      ∀ i, i < len → ∃ n cs d pl, fuel = n + 1 ∧ cs.length = k ∧ (∀ j, j < k → W.cell? ⟨b, off + i * k + j, none⟩ = cs[j]?) ∧ DataW.trod enc Tryz.prog W 0 (fun _ => true) true n e cs = some (d, pl) ∧ D[i]? = some d := by
  rcases DataW.trod_slice ht h with ⟨hcs, rfl⟩ | ⟨a, len, cap, elems, rest, n, hfuel, hcs, rfl, _, hl, hm, hlen, hel, _, _⟩
  · simp at hcs
    subst hcs
    exact ⟨none, 0, 0, 0, 0, [], rfl, fun h => absurd h (Nat.lt_irrefl _), by decide, rfl, by simp [Rows.uptoBulk, Rows.uptoBulkAll], fun i hi => absurd hi (Nat.not_lt_zero _)⟩
  · simp at hcs
    subst hcs
    unfold maxLen at hm
    obtain ⟨b, off, spot⟩ := a
    have each : ∀ i, i < len → ∃ cs d pl, cs.length = k ∧ (∀ j, j < k → W.cell? ((⟨b, off, spot⟩ : Addr).add (i * k + j)) = cs[j]?) ∧ DataW.trod enc Tryz.prog W 0 (fun _ => true) true n e cs = some (d, pl) ∧ (elems.map (·.1))[i]? = some d := by
      intro i hi
      have h1 := hel i hi
      rw [List.getElem?_eq_getElem (by omega), hk] at h1
      obtain ⟨cs, g1, g2⟩ := Option.bind_eq_some_iff.1 h1
      obtain ⟨_, g3, g4⟩ := World.cells?_some g1
      refine ⟨cs, _, _, g3, fun j hj => ?_, g2, by simp [List.getElem?_map, List.getElem?_eq_getElem (show i < elems.length by omega)]⟩
      rw [← add_add]; exact g4 j hj
    have hspot : 0 < len → spot = none := by
      intro h0
      obtain ⟨cs, d, pl, g1, g2, _⟩ := each 0 h0
      have := g2 0 hk0
      rw [List.getElem?_eq_getElem (by omega)] at this
      have := World.cell?_spot this
      simpa [Addr.add] using this
    refine ⟨some ⟨b, off, spot⟩, b, off, len, cap, elems.map (·.1), rfl, fun h0 => by rw [hspot h0], by omega, by simp [hlen], ?_, fun i hi => ?_⟩
    · simp only [Rows.uptoBulk]; omega
    · obtain ⟨cs, d, pl, g1, g2, g3, g4⟩ := each i hi
      refine ⟨n, cs, d, pl, hfuel, g1, fun j hj => ?_, g3, g4⟩
      have := g2 j hj
      rw [hspot (by omega), add_plain] at this
      rw [← this, Nat.add_assoc]

theorem bulk_mem {D : List (DataW H)} : ∀ {f : Nat → Nat}, (∀ i d, D[i]? = some d → f i ≤ Rows.uptoBulk d) → ((List.range D.length).map f).sum ≤ Rows.uptoBulkAll D := by
  induction D with
  | nil => intro f _; simp [Rows.uptoBulkAll]
  | cons d r ih =>
    intro f h
    have h0 := h 0 d rfl
    have h1 := ih (f := fun i => f (i + 1)) (fun i d' hd => h (i + 1) d' (by simpa using hd))
    simp only [Rows.uptoBulkAll, List.length_cons, List.range_succ_eq_map, List.map_cons, List.map_map, List.sum_cons]
    have e : (List.map (f ∘ Nat.succ) (List.range r.length)) = (List.map (fun i => f (i + 1)) (List.range r.length)) := rfl
    rw [e]
    omega

/-- The values that stand at every place, as one list. -/
theorem list_choose {α : Type} : ∀ (len : Nat) {p : Nat → α → Prop}, (∀ i, i < len → ∃ x, p i x) → ∃ l : List α, l.length = len ∧ ∀ (i : Nat) (x : α), l[i]? = some x → p i x
  | 0, _, _ => ⟨[], rfl, fun i x h => by simp at h⟩
  | len + 1, p, h => by
    obtain ⟨x, hx⟩ := h 0 (by omega)
    obtain ⟨l, hl, hp⟩ := list_choose len (p := fun i => p (i + 1)) (fun i hi => h (i + 1) (by omega))
    refine ⟨x :: l, by simp [hl], fun i y hy => ?_⟩
    cases i with
    | zero => simp at hy; subst hy; exact hx
    | succ i => exact hp i y (by simpa using hy)

theorem sum_le {α : Type} {f : α → Nat} : ∀ {l : List α} {D : List (DataW H)}, l.length = D.length → (∀ (i : Nat) (x : α) (d : DataW H), l[i]? = some x → D[i]? = some d → f x ≤ Rows.uptoBulk d) → (l.map f).sum ≤ Rows.uptoBulkAll D
  | [], D, h, _ => by simp
  | x :: l, [], h, _ => by simp at h
  | x :: l, d :: D, h, hp => by
    have h0 := hp 0 x d rfl rfl
    have h1 := sum_le (l := l) (D := D) (by simpa using h) (fun i y d' h1 h2 => hp (i + 1) y d' (by simpa using h1) (by simpa using h2))
    simp only [List.map_cons, List.sum_cons, Rows.uptoBulkAll]
    omega
end

/-! ### Opening -/
theorem cellsEx : Tryz.prog.cellsOf 84 = 4 := by kernel_rfl
theorem cellsSt : Tryz.prog.cellsOf 100 = 8 := by kernel_rfl
theorem cellsFu : Tryz.prog.cellsOf 87 = 7 := by kernel_rfl
theorem cellsVa : Tryz.prog.cellsOf 79 = 2 := by kernel_rfl
theorem cellsMo : Tryz.prog.cellsOf 26 = 4 := by kernel_rfl
theorem cellsInt : Tryz.prog.cellsOf 3 = 1 := by kernel_rfl
theorem cellsStr : Tryz.prog.cellsOf 9 = 1 := by kernel_rfl
theorem cellsStrs : Tryz.prog.cellsOf 22 = 1 := by kernel_rfl
theorem cellsExs : Tryz.prog.cellsOf 82 = 1 := by kernel_rfl
theorem cellsSts : Tryz.prog.cellsOf 80 = 1 := by kernel_rfl
theorem cellsVas : Tryz.prog.cellsOf 23 = 1 := by kernel_rfl
theorem cellsFus : Tryz.prog.cellsOf 24 = 1 := by kernel_rfl

theorem i64_of {n : Int} (h : (Lit.int .i64 n).wf = true) : I64 n := by
  simpa [I64, Lit.wf, IntKind.min, IntKind.max, IntKind.signed, IntKind.bits] using h

theorem size_list' (s : ByteArray) : s.data.toList.length = s.size := rfl

theorem list4 {α : Type} {cs : List α} (h : cs.length = 4) : ∃ a b c d, cs = [a, b, c, d] := by
  match cs, h with
  | [a, b, c, d], _ => exact ⟨a, b, c, d, rfl⟩

section
variable {H : Type} {enc : TypeId × Value → H} {W : World}

theorem open_ex : ∀ (fuel : Nat) {cs : List Value} {d : DataW H} {pl : List MemPlace}, DataW.trod enc Tryz.prog W 0 (fun _ => true) true fuel 84 cs = some (d, pl) →
    ∃ c0 c1 c2 c3 x, cs = [c0, c1, c2, c3] ∧ ExAt W fuel c0 c1 c2 c3 x ∧ exW fuel x ≤ Rows.uptoBulk d := by
  intro fuel
  induction fuel using Nat.strongRecOn with
  | ind fuel ih =>
    intro cs d pl h
    obtain ⟨xs, n, hfn, hx, hlen, hxs, hf⟩ := DataW.trod_struct Tryz.underlying84 h
    rw [cellsEx] at hlen
    obtain ⟨c0, c1, c2, c3, rfl⟩ := list4 hlen
    obtain ⟨y0, y1, y2, y3, rfl⟩ := list4 (by simpa using hxs)
    have f0 : DataW.trod enc Tryz.prog W 0 (fun _ => true) true n 3 (([c0, c1, c2, c3].drop 0).take (Tryz.prog.cellsOf 3)) = some y0 := hf 0 _ rfl
    rw [cellsInt] at f0
    simp only [List.drop, List.take] at f0
    have f1 : DataW.trod enc Tryz.prog W 0 (fun _ => true) true n 3 (([c0, c1, c2, c3].drop 1).take (Tryz.prog.cellsOf 3)) = some y1 := hf 1 _ rfl
    rw [cellsInt] at f1
    simp only [List.drop, List.take] at f1
    have f2 : DataW.trod enc Tryz.prog W 0 (fun _ => true) true n 9 (([c0, c1, c2, c3].drop 2).take (Tryz.prog.cellsOf 9)) = some y2 := hf 2 _ rfl
    rw [cellsStr] at f2
    simp only [List.drop, List.take] at f2
    have f3 : DataW.trod enc Tryz.prog W 0 (fun _ => true) true n 82 (([c0, c1, c2, c3].drop 3).take (Tryz.prog.cellsOf 82)) = some y3 := hf 3 _ rfl
    rw [cellsExs] at f3
    simp only [List.drop, List.take] at f3
    obtain ⟨k0, e0, rfl, w0⟩ := DataW.trod_int Tryz.underlying3 f0
    obtain ⟨k1, e1, rfl, w1⟩ := DataW.trod_int Tryz.underlying3 f1
    obtain ⟨s, e2, rfl, hs⟩ := DataW.trod_string Tryz.underlying9 f2
    simp at e0 e1 e2
    subst e0 e1 e2
    obtain ⟨a, b, off, len, cap, D, hv, ha, hl, hD, hbulk, hel⟩ := open_elems Tryz.underlying82 cellsEx (by decide) f3
    have each : ∀ i, i < len → ∃ x : Ex, ∃ d', D[i]? = some d' ∧ exW n x ≤ Rows.uptoBulk d' ∧ ∃ e0 e1 e2 e3, W.cell? ⟨b, off + i * 4, none⟩ = some e0 ∧ W.cell? ⟨b, off + i * 4 + 1, none⟩ = some e1 ∧ W.cell? ⟨b, off + i * 4 + 2, none⟩ = some e2 ∧ W.cell? ⟨b, off + i * 4 + 3, none⟩ = some e3 ∧ ExAt W n e0 e1 e2 e3 x := by
      intro i hi
      obtain ⟨n', cs, d', pl', hn', hlen', hcell, htrod, hDi⟩ := hel i hi
      obtain ⟨e0, e1, e2, e3, x, rfl, hx', hw⟩ := ih n' (by omega) htrod
      refine ⟨x, d', hDi, by rw [exW_mono hx' n (by omega)]; exact hw, e0, e1, e2, e3, hcell 0 (by decide), hcell 1 (by decide), hcell 2 (by decide), hcell 3 (by decide), hx'.mono n (by omega)⟩
    obtain ⟨l, hll, hp⟩ := list_choose len each
    simp only [Prod.mk.injEq] at hx
    obtain ⟨rfl, _⟩ := hx
    subst hfn
    refine ⟨_, _, _, _, ⟨k0, k1, s, l⟩, rfl, ⟨rfl, rfl, rfl, hs, i64_of w0, i64_of w1, a, b, off, cap, by rw [hv, ← hll], by rw [hll]; exact ha, by rw [hll]; exact hl, fun i y hy => ?_⟩, ?_⟩
    · obtain ⟨_, _, _, hh⟩ := hp i y hy
      exact hh
    · have hsum := sum_le (f := exW n) (l := l) (D := D) (by rw [hll, hD]) (fun i x d' h1 h2 => by
        obtain ⟨d'', h3, h4, _⟩ := hp i x h1
        rw [h2] at h3
        cases h3
        exact h4)
      simp only [exW, List.map_cons, List.map_nil, Rows.uptoBulk, Rows.uptoBulkAll, size_list']
      omega
end

end Go.Proofs.YtbncnkfogkhoeaaGreatDoor

/- How a module that came in is opened, second part: commands, variables, functions, modules. -/
namespace Go.Proofs.YtbncnkfogkhoeaaGreatDoor
open Go.ChangeShapes Go.WideShapes Go.ChangeAt Go.RowKit Go.Deep Go.Joins

theorem list8 {α : Type} {cs : List α} (h : cs.length = 8) : ∃ a b c d e f g i, cs = [a, b, c, d, e, f, g, i] := by
  match cs, h with
  | [a, b, c, d, e, f, g, i], _ => exact ⟨a, b, c, d, e, f, g, i, rfl⟩
theorem list7 {α : Type} {cs : List α} (h : cs.length = 7) : ∃ a b c d e f g, cs = [a, b, c, d, e, f, g] := by
  match cs, h with
  | [a, b, c, d, e, f, g], _ => exact ⟨a, b, c, d, e, f, g, rfl⟩
theorem list5 {α : Type} {cs : List α} (h : cs.length = 5) : ∃ a b c d e, cs = [a, b, c, d, e] := by
  match cs, h with
  | [a, b, c, d, e], _ => exact ⟨a, b, c, d, e, rfl⟩
theorem list2 {α : Type} {cs : List α} (h : cs.length = 2) : ∃ a b, cs = [a, b] := by
  match cs, h with
  | [a, b], _ => exact ⟨a, b, rfl⟩

section
variable {H : Type} {enc : TypeId × Value → H} {W : World}

theorem open_sts : ∀ (fuel : Nat) {v : Value} {y : DataW H × List MemPlace}, DataW.trod enc Tryz.prog W 0 (fun _ => true) true fuel 80 [v] = some y →
    ∃ l, StsAt W fuel v l ∧ stsW fuel l ≤ Rows.uptoBulk y.1 := by
  intro fuel
  induction fuel using Nat.strongRecOn with
  | ind fuel ih =>
    intro v y h
    obtain ⟨a, b, off, len, cap, D, hv, ha, hl, hD, hbulk, hel⟩ := open_elems Tryz.underlying80 cellsSt (by decide) h
    have hpos : 0 < fuel := by
      cases fuel with
      | zero => simp [DataW.trod] at h
      | succ n => omega
    obtain ⟨q, rfl⟩ : ∃ q, fuel = q + 1 := ⟨fuel - 1, by omega⟩
    have each : ∀ i, i < len → ∃ s : St, ∃ d', D[i]? = some d' ∧ s.name.size + 3 + exW q s.e + stsW q s.a + stsW q s.b ≤ Rows.uptoBulk d' ∧ I64 s.kind ∧ s.name.size ≤ maxLen ∧ ∃ e0 e1 e2 e3 va vb,
        W.cell? ⟨b, off + i * 8, none⟩ = some (.int .i64 s.kind) ∧ W.cell? ⟨b, off + i * 8 + 1, none⟩ = some (.string s.name) ∧
        W.cell? ⟨b, off + i * 8 + 2, none⟩ = some e0 ∧ W.cell? ⟨b, off + i * 8 + 3, none⟩ = some e1 ∧ W.cell? ⟨b, off + i * 8 + 4, none⟩ = some e2 ∧ W.cell? ⟨b, off + i * 8 + 5, none⟩ = some e3 ∧
        W.cell? ⟨b, off + i * 8 + 6, none⟩ = some va ∧ W.cell? ⟨b, off + i * 8 + 7, none⟩ = some vb ∧ ExAt W q e0 e1 e2 e3 s.e ∧ StsAt W q va s.a ∧ StsAt W q vb s.b := by
      intro i hi
      obtain ⟨n0, cs, d', pl', hn', hlen', hcell, htrod, hDi⟩ := hel i hi
      obtain ⟨xs, n, hfn, hx, hlen, hxs, hf⟩ := DataW.trod_struct Tryz.underlying100 htrod
      obtain ⟨c0, c1, c2, c3, c4, c5, c6, c7, rfl⟩ := list8 hlen'
      obtain ⟨y0, y1, y2, y3, y4, rfl⟩ := list5 (by simpa using hxs)
      have f0 : DataW.trod enc Tryz.prog W 0 (fun _ => true) true n 3 (([c0, c1, c2, c3, c4, c5, c6, c7].drop 0).take (Tryz.prog.cellsOf 3)) = some y0 := hf 0 _ rfl
      rw [cellsInt] at f0
      simp only [List.drop, List.take] at f0
      have f1 : DataW.trod enc Tryz.prog W 0 (fun _ => true) true n 9 (([c0, c1, c2, c3, c4, c5, c6, c7].drop 1).take (Tryz.prog.cellsOf 9)) = some y1 := hf 1 _ rfl
      rw [cellsStr] at f1
      simp only [List.drop, List.take] at f1
      have f2 : DataW.trod enc Tryz.prog W 0 (fun _ => true) true n 84 (([c0, c1, c2, c3, c4, c5, c6, c7].drop 2).take (Tryz.prog.cellsOf 84)) = some y2 := hf 2 _ rfl
      rw [cellsEx] at f2
      simp only [List.drop, List.take] at f2
      have f3 : DataW.trod enc Tryz.prog W 0 (fun _ => true) true n 80 (([c0, c1, c2, c3, c4, c5, c6, c7].drop 6).take (Tryz.prog.cellsOf 80)) = some y3 := hf 3 _ rfl
      rw [cellsSts] at f3
      simp only [List.drop, List.take] at f3
      have f4 : DataW.trod enc Tryz.prog W 0 (fun _ => true) true n 80 (([c0, c1, c2, c3, c4, c5, c6, c7].drop 7).take (Tryz.prog.cellsOf 80)) = some y4 := hf 4 _ rfl
      rw [cellsSts] at f4
      simp only [List.drop, List.take] at f4
      obtain ⟨k0, e0, rfl, w0⟩ := DataW.trod_int Tryz.underlying3 f0
      obtain ⟨s, e1, rfl, hs⟩ := DataW.trod_string Tryz.underlying9 f1
      simp at e0 e1
      subst e0 e1
      obtain ⟨z0, z1, z2, z3, x, ez, hxe, hwe⟩ := open_ex n (d := y2.1) (pl := y2.2) f2
      simp at ez
      obtain ⟨rfl, rfl, rfl, rfl⟩ := ez
      obtain ⟨la, hla, hwa⟩ := ih n (by omega) f3
      obtain ⟨lb, hlb, hwb⟩ := ih n (by omega) f4
      simp only [Prod.mk.injEq] at hx
      obtain ⟨rfl, _⟩ := hx
      refine ⟨⟨k0, s, x, la, lb⟩, _, hDi, ?_, i64_of w0, hs, _, _, _, _, _, _, hcell 0 (by decide), hcell 1 (by decide), hcell 2 (by decide), hcell 3 (by decide), hcell 4 (by decide), hcell 5 (by decide), hcell 6 (by decide), hcell 7 (by decide), hxe.mono q (by omega), hla.mono q (by omega), hlb.mono q (by omega)⟩
      rw [exW_mono hxe q (by omega), stsW_mono hla q (by omega), stsW_mono hlb q (by omega)]
      simp only [List.map_cons, List.map_nil, Rows.uptoBulk, Rows.uptoBulkAll, size_list']
      omega
    obtain ⟨l, hll, hp⟩ := list_choose len each
    refine ⟨l, ⟨a, b, off, cap, by rw [hv, ← hll], by rw [hll]; exact ha, by rw [hll]; exact hl, fun i s hs => ?_⟩, ?_⟩
    · obtain ⟨_, _, _, hh⟩ := hp i s hs
      exact hh
    · have hsum := sum_le (f := fun s : St => s.name.size + 3 + exW q s.e + stsW q s.a + stsW q s.b) (l := l) (D := D) (by rw [hll, hD]) (fun i x d' h1 h2 => by
        obtain ⟨d'', h3, h4, _⟩ := hp i x h1
        rw [h2] at h3
        cases h3
        exact h4)
      simp only [stsW]
      omega

theorem open_strsW {fuel : Nat} {v : Value} {y : DataW H × List MemPlace} (h : DataW.trod enc Tryz.prog W 0 (fun _ => true) true fuel 22 [v] = some y) : ∃ ss, Strs W v ss ∧ strsW ss ≤ Rows.uptoBulk y.1 := by
  obtain ⟨a, b, off, len, cap, D, hv, ha, hl, hD, hbulk, hel⟩ := open_elems Tryz.underlying22 cellsStr (by decide) h
  have each : ∀ i, i < len → ∃ s : ByteArray, ∃ d', D[i]? = some d' ∧ s.size + 1 ≤ Rows.uptoBulk d' ∧ s.size ≤ maxLen ∧ W.cell? ⟨b, off + i, none⟩ = some (.string s) := by
    intro i hi
    obtain ⟨n0, cs, d', pl', hn', hlen', hcell, htrod, hDi⟩ := hel i hi
    obtain ⟨s, e1, ey, hs⟩ := DataW.trod_string Tryz.underlying9 htrod
    subst e1
    simp only [Prod.mk.injEq] at ey
    obtain ⟨rfl, _⟩ := ey
    have h0 := hcell 0 (by decide)
    simp at h0
    exact ⟨s, _, hDi, by simp [Rows.uptoBulk], hs, h0⟩
  obtain ⟨l, hll, hp⟩ := list_choose len each
  refine ⟨l, ⟨a, b, off, cap, by rw [hv, ← hll], by rw [hll]; exact ha, by rw [hll]; exact hl, fun s hs => ?_, fun j hj => ?_⟩, ?_⟩
  · obtain ⟨i, hi, rfl⟩ := List.mem_iff_getElem.1 hs
    obtain ⟨_, _, _, hh, _⟩ := hp i _ (List.getElem?_eq_getElem hi)
    exact hh
  · obtain ⟨_, _, _, _, hh⟩ := hp j _ (List.getElem?_eq_getElem hj)
    rw [hh, List.getD, List.getElem?_eq_getElem hj]; rfl
  · have hsum := sum_le (f := fun s : ByteArray => s.size + 1) (l := l) (D := D) (by rw [hll, hD]) (fun i x d' h1 h2 => by
      obtain ⟨d'', h3, h4, _⟩ := hp i x h1
      rw [h2] at h3
      cases h3
      exact h4)
    unfold strsW
    omega

theorem open_vas {fuel : Nat} {v : Value} {y : DataW H × List MemPlace} (h : DataW.trod enc Tryz.prog W 0 (fun _ => true) true fuel 23 [v] = some y) : ∃ l, VasAt W v l ∧ vasW l ≤ Rows.uptoBulk y.1 := by
  obtain ⟨a, b, off, len, cap, D, hv, ha, hl, hD, hbulk, hel⟩ := open_elems Tryz.underlying23 cellsVa (by decide) h
  have each : ∀ i, i < len → ∃ s : Va, ∃ d', D[i]? = some d' ∧ s.name.size + s.level.size + 3 ≤ Rows.uptoBulk d' ∧ s.name.size ≤ maxLen ∧ s.level.size ≤ maxLen ∧ W.cell? ⟨b, off + i * 2, none⟩ = some (.string s.name) ∧ W.cell? ⟨b, off + i * 2 + 1, none⟩ = some (.string s.level) := by
    intro i hi
    obtain ⟨n0, cs, d', pl', hn', hlen', hcell, htrod, hDi⟩ := hel i hi
    obtain ⟨xs, n, hfn, hx, hlen, hxs, hf⟩ := DataW.trod_struct Tryz.underlying79 htrod
    obtain ⟨c0, c1, rfl⟩ := list2 hlen'
    obtain ⟨y0, y1, rfl⟩ := list2 (by simpa using hxs)
    have f0 : DataW.trod enc Tryz.prog W 0 (fun _ => true) true n 9 (([c0, c1].drop 0).take (Tryz.prog.cellsOf 9)) = some y0 := hf 0 _ rfl
    rw [cellsStr] at f0
    simp only [List.drop, List.take] at f0
    have f1 : DataW.trod enc Tryz.prog W 0 (fun _ => true) true n 9 (([c0, c1].drop 1).take (Tryz.prog.cellsOf 9)) = some y1 := hf 1 _ rfl
    rw [cellsStr] at f1
    simp only [List.drop, List.take] at f1
    obtain ⟨s0, e0, rfl, hs0⟩ := DataW.trod_string Tryz.underlying9 f0
    obtain ⟨s1, e1, rfl, hs1⟩ := DataW.trod_string Tryz.underlying9 f1
    simp at e0 e1
    subst e0 e1
    simp only [Prod.mk.injEq] at hx
    obtain ⟨rfl, _⟩ := hx
    refine ⟨⟨s0, s1⟩, _, hDi, ?_, hs0, hs1, hcell 0 (by decide), hcell 1 (by decide)⟩
    simp only [List.map_cons, List.map_nil, Rows.uptoBulk, Rows.uptoBulkAll, size_list']
    omega
  obtain ⟨l, hll, hp⟩ := list_choose len each
  refine ⟨l, ⟨a, b, off, cap, by rw [hv, ← hll], by rw [hll]; exact ha, by rw [hll]; exact hl, fun i s hs => ?_⟩, ?_⟩
  · obtain ⟨_, _, _, hh⟩ := hp i s hs
    exact hh
  · have hsum := sum_le (f := fun s : Va => s.name.size + s.level.size + 3) (l := l) (D := D) (by rw [hll, hD]) (fun i x d' h1 h2 => by
      obtain ⟨d'', h3, h4, _⟩ := hp i x h1
      rw [h2] at h3
      cases h3
      exact h4)
    unfold vasW
    omega

theorem open_fus {fuel : Nat} {v : Value} {y : DataW H × List MemPlace} (h : DataW.trod enc Tryz.prog W 0 (fun _ => true) true fuel 24 [v] = some y) : ∃ l, FusAt W fuel v l ∧ fusW fuel l ≤ Rows.uptoBulk y.1 := by
  obtain ⟨a, b, off, len, cap, D, hv, ha, hl, hD, hbulk, hel⟩ := open_elems Tryz.underlying24 cellsFu (by decide) h
  have each : ∀ i, i < len → ∃ s : Fu, ∃ d', D[i]? = some d' ∧ s.name.size + 2 + strsW s.params + stsW fuel s.body + exW fuel s.result ≤ Rows.uptoBulk d' ∧ s.name.size ≤ maxLen ∧ ∃ vp vb e0 e1 e2 e3,
      W.cell? ⟨b, off + i * 7, none⟩ = some (.string s.name) ∧ W.cell? ⟨b, off + i * 7 + 1, none⟩ = some vp ∧ W.cell? ⟨b, off + i * 7 + 2, none⟩ = some vb ∧
      W.cell? ⟨b, off + i * 7 + 3, none⟩ = some e0 ∧ W.cell? ⟨b, off + i * 7 + 4, none⟩ = some e1 ∧ W.cell? ⟨b, off + i * 7 + 5, none⟩ = some e2 ∧ W.cell? ⟨b, off + i * 7 + 6, none⟩ = some e3 ∧
      Strs W vp s.params ∧ StsAt W fuel vb s.body ∧ ExAt W fuel e0 e1 e2 e3 s.result := by
    intro i hi
    obtain ⟨n0, cs, d', pl', hn', hlen', hcell, htrod, hDi⟩ := hel i hi
    obtain ⟨xs, n, hfn, hx, hlen, hxs, hf⟩ := DataW.trod_struct Tryz.underlying87 htrod
    obtain ⟨c0, c1, c2, c3, c4, c5, c6, rfl⟩ := list7 hlen'
    obtain ⟨y0, y1, y2, y3, rfl⟩ := list4 (by simpa using hxs)
    have f0 : DataW.trod enc Tryz.prog W 0 (fun _ => true) true n 9 (([c0, c1, c2, c3, c4, c5, c6].drop 0).take (Tryz.prog.cellsOf 9)) = some y0 := hf 0 _ rfl
    rw [cellsStr] at f0
    simp only [List.drop, List.take] at f0
    have f1 : DataW.trod enc Tryz.prog W 0 (fun _ => true) true n 22 (([c0, c1, c2, c3, c4, c5, c6].drop 1).take (Tryz.prog.cellsOf 22)) = some y1 := hf 1 _ rfl
    rw [cellsStrs] at f1
    simp only [List.drop, List.take] at f1
    have f2 : DataW.trod enc Tryz.prog W 0 (fun _ => true) true n 80 (([c0, c1, c2, c3, c4, c5, c6].drop 2).take (Tryz.prog.cellsOf 80)) = some y2 := hf 2 _ rfl
    rw [cellsSts] at f2
    simp only [List.drop, List.take] at f2
    have f3 : DataW.trod enc Tryz.prog W 0 (fun _ => true) true n 84 (([c0, c1, c2, c3, c4, c5, c6].drop 3).take (Tryz.prog.cellsOf 84)) = some y3 := hf 3 _ rfl
    rw [cellsEx] at f3
    simp only [List.drop, List.take] at f3
    obtain ⟨s0, e0, rfl, hs0⟩ := DataW.trod_string Tryz.underlying9 f0
    simp at e0
    subst e0
    obtain ⟨ps, hps, hwp⟩ := open_strsW f1
    obtain ⟨lb, hlb, hwb⟩ := open_sts n f2
    obtain ⟨z0, z1, z2, z3, x, ez, hxe, hwe⟩ := open_ex n (d := y3.1) (pl := y3.2) f3
    simp at ez
    obtain ⟨rfl, rfl, rfl, rfl⟩ := ez
    simp only [Prod.mk.injEq] at hx
    obtain ⟨rfl, _⟩ := hx
    refine ⟨⟨s0, ps, lb, x⟩, _, hDi, ?_, hs0, _, _, _, _, _, _, hcell 0 (by decide), hcell 1 (by decide), hcell 2 (by decide), hcell 3 (by decide), hcell 4 (by decide), hcell 5 (by decide), hcell 6 (by decide), hps, hlb.mono fuel (by omega), hxe.mono fuel (by omega)⟩
    rw [exW_mono hxe fuel (by omega), stsW_mono hlb fuel (by omega)]
    simp only [List.map_cons, List.map_nil, Rows.uptoBulk, Rows.uptoBulkAll, size_list']
    omega
  obtain ⟨l, hll, hp⟩ := list_choose len each
  refine ⟨l, ⟨a, b, off, cap, by rw [hv, ← hll], by rw [hll]; exact ha, by rw [hll]; exact hl, fun i s hs => ?_⟩, ?_⟩
  · obtain ⟨_, _, _, hh⟩ := hp i s hs
    exact hh
  · have hsum := sum_le (f := fun s : Fu => s.name.size + 2 + strsW s.params + stsW fuel s.body + exW fuel s.result) (l := l) (D := D) (by rw [hll, hD]) (fun i x d' h1 h2 => by
      obtain ⟨d'', h3, h4, _⟩ := hp i x h1
      rw [h2] at h3
      cases h3
      exact h4)
    unfold fusW
    omega

set_option maxRecDepth 100000 in
theorem open_mo {b0 : Nat} {v : Value} {d : DataW H} {p : List MemPlace} (hv : Value.okWide Tryz.prog W .any b0 26 v) (h : DataW.Trod enc Tryz.prog W 0 (fun _ => true) true 26 v d p) :
    ∃ m x, MoAt W m v x ∧ moW m x ≤ Rows.uptoBulk d := by
  obtain ⟨c0, c1, c2, c3, y0, y1, y2, y3, m, rfl, rfl, _, f0, f1, f2, f3⟩ := open_agg4 Tryz.underlying26 (by kernel_rfl) cellsMo hv h
  obtain ⟨s0, e0, rfl, hs0⟩ := DataW.trod_string Tryz.underlying9 f0
  simp at e0
  subst e0
  obtain ⟨im, him, hwi⟩ := open_strsW f1
  obtain ⟨va, hva, hwv⟩ := open_vas f2
  obtain ⟨fu, hfu, hwf⟩ := open_fus f3
  refine ⟨m, ⟨s0, im, va, fu⟩, ⟨_, _, _, rfl, hs0, him, hva, hfu⟩, ?_⟩
  unfold moW
  simp only [Rows.uptoBulk, Rows.uptoBulkAll, size_list']
  omega
end

end Go.Proofs.YtbncnkfogkhoeaaGreatDoor

/- How lists of modules that came in are opened; and that of each list that came in the length is within the capacity. -/
namespace Go.Proofs.YtbncnkfogkhoeaaGreatDoor
open Go.ChangeShapes Go.WideShapes Go.ChangeAt Go.RowKit Go.Deep Go.Joins

theorem cellsMos : Tryz.prog.cellsOf 35 = 1 := by kernel_rfl

theorem FusAt.monoN {w : World} {m k : Nat} {v : Value} {l : List Fu} (h : FusAt w m v l) (hk : m ≤ k) : FusAt w k v l := by
  obtain ⟨a, b, off, cap, e, h0, hl, h1⟩ := h
  refine ⟨a, b, off, cap, e, h0, hl, fun i s hs => ?_⟩
  obtain ⟨k1, vp, vb, e0, e1, e2, e3, g0, g1, g2, g3, g4, g5, g6, hp, hs', hx⟩ := h1 i s hs
  exact ⟨k1, vp, vb, e0, e1, e2, e3, g0, g1, g2, g3, g4, g5, g6, hp, hs'.mono k hk, hx.mono k hk⟩
theorem MoAt.monoN {w : World} {m k : Nat} {v : Value} {x : Mo} (h : MoAt w m v x) (hk : m ≤ k) : MoAt w k v x := by
  obtain ⟨vi, vv, vf, e, h0, h1, h2, h3⟩ := h
  exact ⟨vi, vv, vf, e, h0, h1, h2, h3.monoN hk⟩
theorem MosAt.monoN {w : World} {m k : Nat} {v : Value} {l : List Mo} (h : MosAt w m v l) (hk : m ≤ k) : MosAt w k v l := by
  obtain ⟨a, b, off, cap, e, h0, hl, h1⟩ := h
  refine ⟨a, b, off, cap, e, h0, hl, fun i x hx => ?_⟩
  obtain ⟨vi, vv, vf, g0, g1, g2, g3, hm⟩ := h1 i x hx
  exact ⟨vi, vv, vf, g0, g1, g2, g3, hm.monoN hk⟩
theorem fusW_monoN {w : World} {m k : Nat} {v : Value} {l : List Fu} (h : FusAt w m v l) (hk : m ≤ k) : fusW k l = fusW m l := by
  obtain ⟨a, b, off, cap, e, h0, hl, h1⟩ := h
  unfold fusW
  rw [map_congr_get (fun i s hs => by
    obtain ⟨_, vp, vb, e0, e1, e2, e3, _, _, _, _, _, _, _, _, hs', hx⟩ := h1 i s hs
    rw [exW_mono hx k hk, stsW_mono hs' k hk])]
theorem moW_monoN {w : World} {m k : Nat} {v : Value} {x : Mo} (h : MoAt w m v x) (hk : m ≤ k) : moW k x = moW m x := by
  obtain ⟨vi, vv, vf, e, h0, h1, h2, h3⟩ := h
  unfold moW
  rw [fusW_monoN h3 hk]
theorem mosW_monoN {w : World} {m k : Nat} {v : Value} {l : List Mo} (h : MosAt w m v l) (hk : m ≤ k) : ∀ y ∈ l, moW k y = moW m y := fun y hy => by
  obtain ⟨a, b, off, cap, e, h0, hl, h1⟩ := h
  obtain ⟨i, hi, rfl⟩ := List.mem_iff_getElem.1 hy
  obtain ⟨vi, vv, vf, g0, g1, g2, g3, hm⟩ := h1 i _ (List.getElem?_eq_getElem hi)
  exact moW_monoN hm hk

section
variable {H : Type} {enc : TypeId × Value → H} {W : World}

theorem bulk_one {d : DataW H} : ∀ {D : List (DataW H)} {i : Nat}, D[i]? = some d → Rows.uptoBulk d ≤ Rows.uptoBulkAll D
  | [], i, h => by simp at h
  | e :: D, 0, h => by
    simp at h
    subst h
    simp only [Rows.uptoBulkAll]
    omega
  | e :: D, i + 1, h => by
    have := bulk_one (D := D) (i := i) (by simpa using h)
    simp only [Rows.uptoBulkAll]
    omega

theorem open_cap {t e fuel : Nat} {v : Value} {y : DataW H × List MemPlace} (ht : Tryz.prog.underlying t = some (.slice e)) (h : DataW.trod enc Tryz.prog W 0 (fun _ => true) true fuel t [v] = some y) : CapOK v := by
  rcases DataW.trod_slice ht h with ⟨hcs, rfl⟩ | ⟨a, len, cap, elems, rest, n, hfuel, hcs, rfl, _, hl, hm, hlen, hel, _, _⟩
  · simp at hcs
    subst hcs
    intro a n c e
    injection e with _ e1 e2
    omega
  · simp at hcs
    subst hcs
    intro a n c e
    injection e with _ e1 e2
    omega

/-- The Params of functions that came in. -/
theorem open_parcap {fuel : Nat} {v : Value} {y : DataW H × List MemPlace} (h : DataW.trod enc Tryz.prog W 0 (fun _ => true) true fuel 24 [v] = some y) :
    ∀ b off n c, v = .slice (some ⟨b, off, none⟩) n c → ∀ i, i < n → ∃ vp, W.cell? ⟨b, off + i * 7 + 1, none⟩ = some vp ∧ CapOK vp := by
  obtain ⟨a, b, off, len, cap, D, hv, ha, hl, hD, hbulk, hel⟩ := open_elems Tryz.underlying24 cellsFu (by decide) h
  intro b' off' n' c' e i hi
  rw [hv] at e
  injection e with e0 e1 e2
  subst e1
  have h1 := ha (by omega)
  rw [e0] at h1
  injection h1 with h1
  injection h1 with h1 h2
  subst h1 h2
  obtain ⟨n0, cs, d', pl', hn', hlen', hcell, htrod, hDi⟩ := hel i hi
  obtain ⟨xs, n, hfn, hx, hlen, hxs, hf⟩ := DataW.trod_struct Tryz.underlying87 htrod
  obtain ⟨c0, c1, c2, c3, c4, c5, c6, rfl⟩ := list7 hlen'
  obtain ⟨y0, y1, y2, y3, rfl⟩ := list4 (by simpa using hxs)
  have f1 : DataW.trod enc Tryz.prog W 0 (fun _ => true) true n 22 (([c0, c1, c2, c3, c4, c5, c6].drop 1).take (Tryz.prog.cellsOf 22)) = some y1 := hf 1 _ rfl
  rw [cellsStrs] at f1
  simp only [List.drop, List.take] at f1
  exact ⟨c1, hcell 1 (by decide), open_cap Tryz.underlying22 f1⟩

set_option maxRecDepth 100000 in
theorem open_mocap {b0 : Nat} {v : Value} {d : DataW H} {p : List MemPlace} (hv : Value.okWide Tryz.prog W .any b0 26 v) (h : DataW.Trod enc Tryz.prog W 0 (fun _ => true) true 26 v d p) :
    ∃ m x vi vv vf, v = .agg #[.string x.name, vi, vv, vf] ∧ MoAt W m v x ∧ moW m x ≤ Rows.uptoBulk d ∧ MoCap W vi vf := by
  obtain ⟨m, x, hM, hW⟩ := open_mo hv h
  obtain ⟨c0, c1, c2, c3, y0, y1, y2, y3, m', rfl, rfl, _, f0, f1, f2, f3⟩ := open_agg4 Tryz.underlying26 (by kernel_rfl) cellsMo hv h
  have hM' := hM
  obtain ⟨vi, vv, vf, e, _⟩ := hM'
  simp at e
  obtain ⟨rfl, rfl, rfl, rfl⟩ := e
  exact ⟨m, x, _, _, _, rfl, hM, hW, open_cap Tryz.underlying22 f1, open_cap Tryz.underlying24 f3, open_parcap f3⟩

/-- A module, as it lies in a list. -/
theorem open_moS {fuel : Nat} {cs : List Value} {d : DataW H} {pl : List MemPlace} (hl4 : cs.length = 4) (h : DataW.trod enc Tryz.prog W 0 (fun _ => true) true fuel 26 cs = some (d, pl)) :
    ∃ x vi vv vf, cs = [.string x.name, vi, vv, vf] ∧ MoAt W fuel (.agg #[.string x.name, vi, vv, vf]) x ∧ moW fuel x ≤ Rows.uptoBulk d := by
  obtain ⟨xs, n, hfn, hx, hlen, hxs, hf⟩ := DataW.trod_struct Tryz.underlying26 h
  obtain ⟨c0, c1, c2, c3, rfl⟩ := list4 hl4
  obtain ⟨y0, y1, y2, y3, rfl⟩ := list4 (by simpa using hxs)
  have f0 : DataW.trod enc Tryz.prog W 0 (fun _ => true) true n 9 (([c0, c1, c2, c3].drop 0).take (Tryz.prog.cellsOf 9)) = some y0 := hf 0 _ rfl
  rw [cellsStr] at f0
  simp only [List.drop, List.take] at f0
  have f1 : DataW.trod enc Tryz.prog W 0 (fun _ => true) true n 22 (([c0, c1, c2, c3].drop 1).take (Tryz.prog.cellsOf 22)) = some y1 := hf 1 _ rfl
  rw [cellsStrs] at f1
  simp only [List.drop, List.take] at f1
  have f2 : DataW.trod enc Tryz.prog W 0 (fun _ => true) true n 23 (([c0, c1, c2, c3].drop 2).take (Tryz.prog.cellsOf 23)) = some y2 := hf 2 _ rfl
  rw [cellsVas] at f2
  simp only [List.drop, List.take] at f2
  have f3 : DataW.trod enc Tryz.prog W 0 (fun _ => true) true n 24 (([c0, c1, c2, c3].drop 3).take (Tryz.prog.cellsOf 24)) = some y3 := hf 3 _ rfl
  rw [cellsFus] at f3
  simp only [List.drop, List.take] at f3
  obtain ⟨s0, e0, rfl, hs0⟩ := DataW.trod_string Tryz.underlying9 f0
  simp at e0
  subst e0
  obtain ⟨im, him, hwi⟩ := open_strsW f1
  obtain ⟨va, hva, hwv⟩ := open_vas f2
  obtain ⟨fu, hfu, hwf⟩ := open_fus f3
  simp only [Prod.mk.injEq] at hx
  obtain ⟨rfl, _⟩ := hx
  refine ⟨⟨s0, im, va, fu⟩, _, _, _, rfl, ⟨_, _, _, rfl, hs0, him, hva, hfu.monoN (by omega)⟩, ?_⟩
  unfold moW
  rw [fusW_monoN hfu (k := fuel) (by omega)]
  simp only [List.map_cons, List.map_nil, Rows.uptoBulk, Rows.uptoBulkAll, size_list']
  omega

set_option maxRecDepth 100000 in
theorem open_mos {b0 : Nat} {v : Value} {d : DataW H} {p : List MemPlace} (hv : Value.okWide Tryz.prog W .any b0 35 v) (h : DataW.Trod enc Tryz.prog W 0 (fun _ => true) true 35 v d p) :
    ∃ m l, MosAt W m v l ∧ ∀ y ∈ l, moW m y ≤ Rows.uptoBulk d := by
  obtain ⟨a0, l0, c0, rfl⟩ := okWide_slice Tryz.underlying35 hv
  obtain ⟨fuel, hf⟩ := h
  have hf' : DataW.trod enc Tryz.prog W 0 (fun _ => true) true fuel 35 [.slice a0 l0 c0] = some (d, p) := hf
  obtain ⟨a, b, off, len, cap, D, hv', ha, hl, hD, hbulk, hel⟩ := open_elems Tryz.underlying35 cellsMo (by decide) hf'
  have each : ∀ i, i < len → ∃ x : Mo, ∃ d', D[i]? = some d' ∧ moW fuel x ≤ Rows.uptoBulk d' ∧ ∃ vi vv vf, W.cell? ⟨b, off + i * 4, none⟩ = some (.string x.name) ∧ W.cell? ⟨b, off + i * 4 + 1, none⟩ = some vi ∧ W.cell? ⟨b, off + i * 4 + 2, none⟩ = some vv ∧ W.cell? ⟨b, off + i * 4 + 3, none⟩ = some vf ∧ MoAt W fuel (.agg #[.string x.name, vi, vv, vf]) x := by
    intro i hi
    obtain ⟨n', cs, d', pl', hn', hlen', hcell, htrod, hDi⟩ := hel i hi
    obtain ⟨x, vi, vv, vf, rfl, hx', hw⟩ := open_moS hlen' htrod
    refine ⟨x, d', hDi, by rw [moW_monoN hx' (k := fuel) (by omega)]; exact hw, vi, vv, vf, hcell 0 (by decide), hcell 1 (by decide), hcell 2 (by decide), hcell 3 (by decide), hx'.monoN (by omega)⟩
  obtain ⟨l, hll, hp⟩ := list_choose len each
  refine ⟨fuel, l, ⟨a, b, off, cap, by rw [hv', ← hll], by rw [hll]; exact ha, by rw [hll]; exact hl, fun i s hs => ?_⟩, fun y hy => ?_⟩
  · obtain ⟨_, _, _, hh⟩ := hp i s hs
    exact hh
  · obtain ⟨i, hi, rfl⟩ := List.mem_iff_getElem.1 hy
    obtain ⟨d', h1, h2, _⟩ := hp i _ (List.getElem?_eq_getElem hi)
    have h3 : Rows.uptoBulk d' ≤ Rows.uptoBulkAll D := bulk_one h1
    have h4 : Rows.uptoBulkAll D + 1 ≤ Rows.uptoBulk d := hbulk
    omega
end

end Go.Proofs.YtbncnkfogkhoeaaGreatDoor
