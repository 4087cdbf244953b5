/- How labels and constraints that came in are opened. -/
import Derived.Test.YtholefgckcoklabTO
import Derived.Test.YtholefgckcoklabOP
import Derived.Test.YtholefgckcoklabZB
namespace Go.Proofs.Ytholefgckcoklab
open Go.ChangeShapes Go.WideShapes Go.ChangeAt Go.RowKit Go.Deep Go.Joins

section
variable {H : Type} {enc : TypeId × Value → H} {W : World}
theorem cellsLb : Try.prog.cellsOf 48 = 2 := by kernel_rfl
theorem cellsCo : Try.prog.cellsOf 50 = 4 := by kernel_rfl
theorem cellsIs : Try.prog.cellsOf 37 = 1 := by kernel_rfl
theorem list2o {α : Type} {l : List α} (h : l.length = 2) : ∃ a b, l = [a, b] := by
  match l, h with
  | [a, b], _ => exact ⟨a, b, rfl⟩
theorem list3o {α : Type} {l : List α} (h : l.length = 3) : ∃ a b c, l = [a, b, c] := by
  match l, h with
  | [a, b, c], _ => exact ⟨a, b, c, rfl⟩
theorem list4o {α : Type} {l : List α} (h : l.length = 4) : ∃ a b c d, l = [a, b, c, d] := by
  match l, h with
  | [a, b, c, d], _ => exact ⟨a, b, c, d, rfl⟩

set_option maxRecDepth 100000 in
theorem open_lb2 {m : Nat} {c0 c1 : Value} {y : DataW H × List MemPlace} (h : DataW.trod enc Try.prog W 0 (fun _ => true) true m 48 [c0, c1] = some y) : ∃ a b : Int, c0 = .int .i64 a ∧ c1 = .int .i64 b := by
  obtain ⟨d, p⟩ := y
  obtain ⟨xs, n, hfn, hx, hlen, hxs, hf⟩ := DataW.trod_struct Try.underlying48 h
  obtain ⟨y0, y1, rfl⟩ := list2o (by simpa using hxs)
  have f0 : DataW.trod enc Try.prog W 0 (fun _ => true) true n 3 (([c0, c1].drop 0).take (Try.prog.cellsOf 3)) = some y0 := hf 0 _ rfl
  rw [cellsInt] at f0
  simp only [List.drop, List.take] at f0
  have f1 : DataW.trod enc Try.prog W 0 (fun _ => true) true n 3 (([c0, c1].drop 1).take (Try.prog.cellsOf 3)) = some y1 := hf 1 _ rfl
  rw [cellsInt] at f1
  simp only [List.drop, List.take] at f1
  obtain ⟨k0, e0, -, -⟩ := DataW.trod_int Try.underlying3 f0
  obtain ⟨k1, e1, -, -⟩ := DataW.trod_int Try.underlying3 f1
  simp at e0 e1
  exact ⟨k0, k1, e0, e1⟩
set_option maxRecDepth 100000 in
theorem open_label {b0 : Nat} {v : Value} {d : DataW H} {p : List MemPlace} (hv : Value.okWide Try.prog W .any b0 48 v) (h : DataW.Trod enc Try.prog W 0 (fun _ => true) true 48 v d p) : ∃ a b : Int, v = .agg #[.int .i64 a, .int .i64 b] := by
  obtain ⟨c0, c1, y0, y1, m, rfl, _, _, hy0, hy1⟩ := open_agg2 Try.underlying48 (by kernel_rfl) cellsLb hv h
  obtain ⟨k0, e0, -, -⟩ := DataW.trod_int Try.underlying3 hy0
  obtain ⟨k1, e1, -, -⟩ := DataW.trod_int Try.underlying3 hy1
  simp at e0 e1
  subst e0 e1
  exact ⟨k0, k1, rfl⟩
set_option maxRecDepth 100000 in
theorem open_ints {m : Nat} {v : Value} {y : DataW H × List MemPlace} (h : DataW.trod enc Try.prog W 0 (fun _ => true) true m 37 [v] = some y) : ∃ l, Ints W v l := by
  obtain ⟨a, b, off, len, cap, D, hv', ha, hl, hD, hbulk, hel⟩ := open_elems Try.underlying37 cellsInt (by decide) h
  have each : ∀ i, i < len → ∃ s : Int, W.cell? ⟨b, off + i, none⟩ = some (.int .i64 s) := by
    intro i hi
    obtain ⟨n0, cs, d', pl', hn', hlen', hcell, htrod, hDi⟩ := hel i hi
    obtain ⟨c0, rfl⟩ : ∃ c0, cs = [c0] := by
      match cs, hlen' with
      | [c0], _ => exact ⟨c0, rfl⟩
    obtain ⟨k2, e2, _, _⟩ := DataW.trod_int Try.underlying3 htrod
    simp at e2
    subst e2
    have := hcell 0 (by decide)
    rw [Nat.mul_one, Nat.add_zero] at this
    exact ⟨k2, this⟩
  obtain ⟨l, hll, hp⟩ := list_choose len each
  exact ⟨l, a, b, off, cap, by rw [hv', ← hll], by rw [hll]; exact ha, by rw [hll]; exact hl, fun i s hs => hp i s hs⟩
set_option maxRecDepth 100000 in
theorem open_co {m : Nat} {cs : List Value} {y : DataW H × List MemPlace} (h : DataW.trod enc Try.prog W 0 (fun _ => true) true m 50 cs = some y) (hlen : cs.length = 4) : ∃ (x : Sv.Co) (vf : Value), Ints W vf x.fr ∧ cs = [.int .i64 x.to, vf, .int .i64 x.mask, .int .i64 x.level] := by
  obtain ⟨d, p⟩ := y
  obtain ⟨xs, n, hfn, hx, hlen', hxs, hf⟩ := DataW.trod_struct Try.underlying50 h
  obtain ⟨c0, c1, c2, c3, rfl⟩ := list4o hlen
  obtain ⟨y0, y1, y2, rfl⟩ := list3o (by simpa using hxs)
  have f0 : DataW.trod enc Try.prog W 0 (fun _ => true) true n 3 (([c0, c1, c2, c3].drop 0).take (Try.prog.cellsOf 3)) = some y0 := hf 0 _ rfl
  rw [cellsInt] at f0
  simp only [List.drop, List.take] at f0
  have f1 : DataW.trod enc Try.prog W 0 (fun _ => true) true n 37 (([c0, c1, c2, c3].drop 1).take (Try.prog.cellsOf 37)) = some y1 := hf 1 _ rfl
  rw [cellsIs] at f1
  simp only [List.drop, List.take] at f1
  have f2 : DataW.trod enc Try.prog W 0 (fun _ => true) true n 48 (([c0, c1, c2, c3].drop 2).take (Try.prog.cellsOf 48)) = some y2 := hf 2 _ rfl
  rw [cellsLb] at f2
  simp only [List.drop, List.take] at f2
  obtain ⟨k0, e0, -, -⟩ := DataW.trod_int Try.underlying3 f0
  simp at e0
  subst e0
  obtain ⟨l, hl⟩ := open_ints f1
  obtain ⟨a, b, rfl, rfl⟩ := open_lb2 f2
  exact ⟨⟨k0, l, a, b⟩, c1, hl, rfl⟩
set_option maxRecDepth 100000 in
theorem open_cons {v : Value} {d : DataW H} {p : List MemPlace} (h : DataW.Trod enc Try.prog W 0 (fun _ => true) true 45 v d p) (hv1 : v.cells = #[v]) : ∃ l, CosAt W v l := by
  obtain ⟨fuel, hf⟩ := h
  have hf' : DataW.trod enc Try.prog W 0 (fun _ => true) true fuel 45 [v] = some (d, p) := by rw [hv1] at hf; exact hf
  obtain ⟨a, b, off, len, cap, D, hv', ha, hl, hD, hbulk, hel⟩ := open_elems Try.underlying45 cellsCo (by decide) hf'
  have each : ∀ i, i < len → ∃ x : Sv.Co, ∃ vf, Ints W vf x.fr ∧ W.cell? ⟨b, off + i * 4, none⟩ = some (.int .i64 x.to) ∧ W.cell? ⟨b, off + i * 4 + 1, none⟩ = some vf ∧ W.cell? ⟨b, off + i * 4 + 2, none⟩ = some (.int .i64 x.mask) ∧ W.cell? ⟨b, off + i * 4 + 3, none⟩ = some (.int .i64 x.level) := by
    intro i hi
    obtain ⟨n0, cs, d', pl', hn', hlen', hcell, htrod, hDi⟩ := hel i hi
    obtain ⟨x, vf, hx, rfl⟩ := open_co htrod hlen'
    exact ⟨x, vf, hx, hcell 0 (by decide), hcell 1 (by decide), hcell 2 (by decide), hcell 3 (by decide)⟩
  obtain ⟨l, hll, hp⟩ := list_choose len each
  exact ⟨l, a, b, off, cap, by rw [hv', ← hll], by rw [hll]; exact ha, by rw [hll]; exact hl, fun i s hs => hp i s hs⟩
set_option maxRecDepth 100000 in
theorem open_las {v : Value} {d : DataW H} {p : List MemPlace} (h : DataW.Trod enc Try.prog W 0 (fun _ => true) true 46 v d p) (hv1 : v.cells = #[v]) : ∃ l, LasAt W v l := by
  obtain ⟨fuel, hf⟩ := h
  have hf' : DataW.trod enc Try.prog W 0 (fun _ => true) true fuel 46 [v] = some (d, p) := by rw [hv1] at hf; exact hf
  obtain ⟨a, b, off, len, cap, D, hv', ha, hl, hD, hbulk, hel⟩ := open_elems Try.underlying46 cellsLb (by decide) hf'
  have each : ∀ i, i < len → ∃ x : Int × Int, W.cell? ⟨b, off + i * 2, none⟩ = some (.int .i64 x.1) ∧ W.cell? ⟨b, off + i * 2 + 1, none⟩ = some (.int .i64 x.2) := by
    intro i hi
    obtain ⟨n0, cs, d', pl', hn', hlen', hcell, htrod, hDi⟩ := hel i hi
    obtain ⟨c0, c1, rfl⟩ := list2o hlen'
    obtain ⟨a0, a1, rfl, rfl⟩ := open_lb2 htrod
    exact ⟨(a0, a1), hcell 0 (by decide), hcell 1 (by decide)⟩
  obtain ⟨l, hll, hp⟩ := list_choose len each
  exact ⟨l, a, b, off, cap, by rw [hv', ← hll], by rw [hll]; exact ha, by rw [hll]; exact hl, fun i s hs => hp i s hs⟩
set_option maxRecDepth 100000 in
theorem open_more {b0 : Nat} {v : Value} {d : DataW H} {p : List MemPlace} (hv : Value.okWide Try.prog W .any b0 50 v) (h : DataW.Trod enc Try.prog W 0 (fun _ => true) true 50 v d p) : ∃ (x : Sv.Co) (vf : Value), Ints W vf x.fr ∧ v = .agg #[.int .i64 x.to, vf, .int .i64 x.mask, .int .i64 x.level] := by
  obtain ⟨cs, rfl, hsz⟩ := okWide_struct Try.underlying50 hv
  obtain ⟨c0, c1, c2, c3, rfl⟩ := array4 (hsz.trans cellsCo)
  obtain ⟨fuel, hf⟩ := h
  obtain ⟨x, vf, hx, e⟩ := open_co (cs := [c0, c1, c2, c3]) hf rfl
  simp only [List.cons.injEq, and_true] at e
  obtain ⟨rfl, rfl, rfl, rfl⟩ := e
  exact ⟨x, _, hx, rfl⟩
theorem open_capO {t e : Nat} {v : Value} {d : DataW H} {p : List MemPlace} (ht : Try.prog.underlying t = some (.slice e)) (h : DataW.Trod enc Try.prog W 0 (fun _ => true) true t v d p) (hv1 : v.cells = #[v]) : ∀ a n c, v = .slice a n c → n ≤ c := by
  obtain ⟨fuel, hf⟩ := h
  have hf' : DataW.trod enc Try.prog W 0 (fun _ => true) true fuel t [v] = some (d, p) := by rw [hv1] at hf; exact hf
  rcases DataW.trod_slice ht hf' with ⟨hcs, _⟩ | ⟨a, len, cap, elems, rest, n, hfuel, hcs, _, _, hl, _⟩
  · simp at hcs
    subst hcs
    intro a n c e
    injection e with _ e1 e2
    omega
  · simp at hcs
    subst hcs
    intro a n c e
    injection e with _ e1 e2
    omega
end

end Go.Proofs.Ytholefgckcoklab
