/- How a lattice that came in is opened: its names are a list of strings, its table has so many rows of so many bools. -/
import Derived.Test.YtmhcameodlhloaaRows
import Derived.Test.YtmhcameodlhloaaGr
import Derived.ProofKit
import Derived.OpenShut
import Derived.ShutString
import Derived.ChangeOld
import Derived.Below
import Derived.SliceStrings
import Derived.Deep.Grids
import Derived.Lib.SmallJoins
namespace Go.Proofs.Ytmhcameodlhloaa
open Go.ChangeShapes Go.WideShapes Go.ChangeAt Go.RowKit Go.Deep Go.Joins

theorem cellsString : Try.prog.cellsOf 9 = 1 := by kernel_rfl
theorem cellsRow : Try.prog.cellsOf 80 = 1 := by kernel_rfl
theorem cellsBool : Try.prog.cellsOf 4 = 1 := by kernel_rfl
theorem cellsLattice : Try.prog.cellsOf 25 = 2 := by kernel_rfl

theorem open_strs {H : Type} {enc : TypeId × Value → H} {W : World} {m : Nat} {v : Value} {y : DataW H × List MemPlace} (h : DataW.trod enc Try.prog W 0 (fun _ => true) true m 22 [v] = some y) : ∃ ss, Strs W v ss := by
  rcases open_strings Try.underlying22 Try.underlying9 cellsString h with ⟨hcs, _⟩ | ⟨a, len, cap, ss, hcs, _, hl, hm, hz, _, hcell, hws⟩
  · simp at hcs
    subst hcs
    exact ⟨[], none, 0, 0, 0, rfl, fun h => absurd h (Nat.lt_irrefl _), by decide, fun s hs => by simp at hs, fun j hj => absurd hj (Nat.not_lt_zero _)⟩
  · simp at hcs
    subst hcs
    simp only [if_true] at hz
    unfold maxLen at hm
    have hlen : (ss.take len).length = len := by rw [List.length_take]; omega
    obtain ⟨b, off, spot⟩ := a
    refine ⟨ss.take len, some ⟨b, off, spot⟩, b, off, cap, by rw [hlen], fun h0 => ?_, by rw [hlen]; omega, fun s hs => hws s (List.mem_of_mem_take hs), fun j hj => ?_⟩
    · rw [hlen] at h0
      have := World.cell?_spot (hcell 0 (by omega))
      simp [Addr.add] at this
      rw [this]
    · rw [hlen] at hj
      have h1 := hcell j (by omega)
      have := World.cell?_spot (hcell 0 (by omega))
      simp [Addr.add] at this
      subst this
      rw [add_plain] at h1
      have e : (ss.take len).getD j ByteArray.empty = ss.getD j ByteArray.empty := by
        rw [List.getD, List.getD, List.getElem?_take_of_lt hj]
      rw [e]
      exact h1

theorem open_rag {H : Type} {enc : TypeId × Value → H} {W : World} {m : Nat} {v : Value} {y : DataW H × List MemPlace} (h : DataW.trod enc Try.prog W 0 (fun _ => true) true m 23 [v] = some y) : ∃ G L Z, Rag W v G L Z := by
  rcases open_bool_rows Try.underlying23 Try.underlying80 Try.underlying4 cellsRow cellsBool h with ⟨hcs, _⟩ | ⟨a, len, cap, A, L, C, B, hcs, _, hl, hm, _, hrows⟩
  · simp at hcs
    subst hcs
    exact ⟨0, fun _ => 0, fun _ _ => false, none, 0, 0, 0, fun _ => none, fun _ => 0, fun _ => 0, fun _ => 0, rfl, fun h => absurd h (Nat.lt_irrefl _), by decide, fun r hr => absurd hr (Nat.not_lt_zero _), fun r hr => absurd hr (Nat.not_lt_zero _), fun r c hr => absurd hr (Nat.not_lt_zero _)⟩
  · simp at hcs
    subst hcs
    unfold maxLen at hm
    obtain ⟨gb, go, gs⟩ := a
    refine ⟨len, L, B, some ⟨gb, go, gs⟩, gb, go, cap, A, fun r => ((A r).getD default).block, fun r => ((A r).getD default).off, C, rfl, fun h0 => ?_, by omega, fun r hr => ?_, fun r hr => ?_, fun r c hr hc => ?_⟩
    · have := World.cell?_spot (hrows 0 (by omega)).1
      simp [Addr.add] at this
      rw [this]
    · obtain ⟨_, h1, h2, _⟩ := hrows r (by omega)
      unfold maxLen at h2
      omega
    · have h1 := (hrows r (by omega)).1
      have := World.cell?_spot (hrows 0 (by omega)).1
      simp [Addr.add] at this
      subst this
      rwa [add_plain] at h1
    · obtain ⟨_, h1, _, h3, h4⟩ := hrows r (by omega)
      cases hA : A r with
      | none => have := h3 hA; omega
      | some a' =>
        obtain ⟨ab, ao, asp⟩ := a'
        obtain ⟨_, hcell⟩ := h4 _ hA
        have h5 := hcell c (by omega)
        have has := World.cell?_spot (hcell 0 (by omega))
        simp [Addr.add] at has
        subst has
        rw [add_plain] at h5
        refine ⟨by simp [hA], ?_⟩
        simpa [hA] using h5

set_option maxRecDepth 100000 in
theorem open_lattice {H : Type} {enc : TypeId × Value → H} {W : World} {b0 : Nat} {v : Value} {d : DataW H} {p : List MemPlace} (hv : Value.okWide Try.prog W .any b0 25 v) (h : DataW.Trod enc Try.prog W 0 (fun _ => true) true 25 v d p) :
    ∃ vn vl ss G L Z, v = .agg #[vn, vl] ∧ Strs W vn ss ∧ Rag W vl G L Z := by
  obtain ⟨c0, c1, y0, y1, m, rfl, _, _, hy0, hy1⟩ := open_agg2 Try.underlying25 (by kernel_rfl) cellsLattice hv h
  obtain ⟨ss, hS⟩ := open_strs hy0
  obtain ⟨G, L, Z, hR⟩ := open_rag hy1
  exact ⟨c0, c1, ss, G, L, Z, rfl, hS, hR⟩

theorem own : ownKnob Try.prog.godebug = none := by kernel_rfl
theorem laidOut : laidOutB Try.prog = true := by kernel_rfl

end Go.Proofs.Ytmhcameodlhloaa
