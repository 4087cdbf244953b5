/- How a module that came in is opened, second part: commands, variables, functions, modules. -/
import Derived.Test.YtmhcameodlhloabTO
namespace Go.Proofs.Ytmhcameodlhloab
open Go.ChangeShapes Go.WideShapes Go.ChangeAt Go.RowKit Go.Deep Go.Joins

theorem list8 {α : Type} {cs : List α} (h : cs.length = 8) : ∃ a b c d e f g i, cs = [a, b, c, d, e, f, g, i] := by
  match cs, h with
  | [a, b, c, d, e, f, g, i], _ => exact ⟨a, b, c, d, e, f, g, i, rfl⟩
theorem list7 {α : Type} {cs : List α} (h : cs.length = 7) : ∃ a b c d e f g, cs = [a, b, c, d, e, f, g] := by
  match cs, h with
  | [a, b, c, d, e, f, g], _ => exact ⟨a, b, c, d, e, f, g, rfl⟩
theorem list5 {α : Type} {cs : List α} (h : cs.length = 5) : ∃ a b c d e, cs = [a, b, c, d, e] := by
  match cs, h with
  | [a, b, c, d, e], _ => exact ⟨a, b, c, d, e, rfl⟩
theorem list2 {α : Type} {cs : List α} (h : cs.length = 2) : ∃ a b, cs = [a, b] := by
  match cs, h with
  | [a, b], _ => exact ⟨a, b, rfl⟩

section
variable {H : Type} {enc : TypeId × Value → H} {W : World}

theorem open_sts : ∀ (fuel : Nat) {v : Value} {y : DataW H × List MemPlace}, DataW.trod enc Try.prog W 0 (fun _ => true) true fuel 155 [v] = some y →
    ∃ l, StsAt W fuel v l ∧ stsW fuel l ≤ Rows.uptoBulk y.1 := by
  intro fuel
  induction fuel using Nat.strongRecOn with
  | ind fuel ih =>
    intro v y h
    obtain ⟨a, b, off, len, cap, D, hv, ha, hl, hD, hbulk, hel⟩ := open_elems Try.underlying155 cellsSt (by decide) h
    have hpos : 0 < fuel := by
      cases fuel with
      | zero => simp [DataW.trod] at h
      | succ n => omega
    obtain ⟨q, rfl⟩ : ∃ q, fuel = q + 1 := ⟨fuel - 1, by omega⟩
    have each : ∀ i, i < len → ∃ s : St, ∃ d', D[i]? = some d' ∧ s.name.size + 3 + exW q s.e + stsW q s.a + stsW q s.b ≤ Rows.uptoBulk d' ∧ I64 s.kind ∧ s.name.size ≤ maxLen ∧ ∃ e0 e1 e2 e3 va vb,
        W.cell? ⟨b, off + i * 8, none⟩ = some (.int .i64 s.kind) ∧ W.cell? ⟨b, off + i * 8 + 1, none⟩ = some (.string s.name) ∧
        W.cell? ⟨b, off + i * 8 + 2, none⟩ = some e0 ∧ W.cell? ⟨b, off + i * 8 + 3, none⟩ = some e1 ∧ W.cell? ⟨b, off + i * 8 + 4, none⟩ = some e2 ∧ W.cell? ⟨b, off + i * 8 + 5, none⟩ = some e3 ∧
        W.cell? ⟨b, off + i * 8 + 6, none⟩ = some va ∧ W.cell? ⟨b, off + i * 8 + 7, none⟩ = some vb ∧ ExAt W q e0 e1 e2 e3 s.e ∧ StsAt W q va s.a ∧ StsAt W q vb s.b := by
      intro i hi
      obtain ⟨n0, cs, d', pl', hn', hlen', hcell, htrod, hDi⟩ := hel i hi
      obtain ⟨xs, n, hfn, hx, hlen, hxs, hf⟩ := DataW.trod_struct Try.underlying162 htrod
      obtain ⟨c0, c1, c2, c3, c4, c5, c6, c7, rfl⟩ := list8 hlen'
      obtain ⟨y0, y1, y2, y3, y4, rfl⟩ := list5 (by simpa using hxs)
      have f0 : DataW.trod enc Try.prog W 0 (fun _ => true) true n 3 (([c0, c1, c2, c3, c4, c5, c6, c7].drop 0).take (Try.prog.cellsOf 3)) = some y0 := hf 0 _ rfl
      rw [cellsInt] at f0
      simp only [List.drop, List.take] at f0
      have f1 : DataW.trod enc Try.prog W 0 (fun _ => true) true n 9 (([c0, c1, c2, c3, c4, c5, c6, c7].drop 1).take (Try.prog.cellsOf 9)) = some y1 := hf 1 _ rfl
      rw [cellsStr] at f1
      simp only [List.drop, List.take] at f1
      have f2 : DataW.trod enc Try.prog W 0 (fun _ => true) true n 158 (([c0, c1, c2, c3, c4, c5, c6, c7].drop 2).take (Try.prog.cellsOf 158)) = some y2 := hf 2 _ rfl
      rw [cellsEx] at f2
      simp only [List.drop, List.take] at f2
      have f3 : DataW.trod enc Try.prog W 0 (fun _ => true) true n 155 (([c0, c1, c2, c3, c4, c5, c6, c7].drop 6).take (Try.prog.cellsOf 155)) = some y3 := hf 3 _ rfl
      rw [cellsSts] at f3
      simp only [List.drop, List.take] at f3
      have f4 : DataW.trod enc Try.prog W 0 (fun _ => true) true n 155 (([c0, c1, c2, c3, c4, c5, c6, c7].drop 7).take (Try.prog.cellsOf 155)) = some y4 := hf 4 _ rfl
      rw [cellsSts] at f4
      simp only [List.drop, List.take] at f4
      obtain ⟨k0, e0, rfl, w0⟩ := DataW.trod_int Try.underlying3 f0
      obtain ⟨s, e1, rfl, hs⟩ := DataW.trod_string Try.underlying9 f1
      simp at e0 e1
      subst e0 e1
      obtain ⟨z0, z1, z2, z3, x, ez, hxe, hwe⟩ := open_ex n (d := y2.1) (pl := y2.2) f2
      simp at ez
      obtain ⟨rfl, rfl, rfl, rfl⟩ := ez
      obtain ⟨la, hla, hwa⟩ := ih n (by omega) f3
      obtain ⟨lb, hlb, hwb⟩ := ih n (by omega) f4
      simp only [Prod.mk.injEq] at hx
      obtain ⟨rfl, _⟩ := hx
      refine ⟨⟨k0, s, x, la, lb⟩, _, hDi, ?_, i64_of w0, hs, _, _, _, _, _, _, hcell 0 (by decide), hcell 1 (by decide), hcell 2 (by decide), hcell 3 (by decide), hcell 4 (by decide), hcell 5 (by decide), hcell 6 (by decide), hcell 7 (by decide), hxe.mono q (by omega), hla.mono q (by omega), hlb.mono q (by omega)⟩
      rw [exW_mono hxe q (by omega), stsW_mono hla q (by omega), stsW_mono hlb q (by omega)]
      simp only [List.map_cons, List.map_nil, Rows.uptoBulk, Rows.uptoBulkAll, size_list']
      omega
    obtain ⟨l, hll, hp⟩ := list_choose len each
    refine ⟨l, ⟨a, b, off, cap, by rw [hv, ← hll], by rw [hll]; exact ha, by rw [hll]; exact hl, fun i s hs => ?_⟩, ?_⟩
    · obtain ⟨_, _, _, hh⟩ := hp i s hs
      exact hh
    · have hsum := sum_le (f := fun s : St => s.name.size + 3 + exW q s.e + stsW q s.a + stsW q s.b) (l := l) (D := D) (by rw [hll, hD]) (fun i x d' h1 h2 => by
        obtain ⟨d'', h3, h4, _⟩ := hp i x h1
        rw [h2] at h3
        cases h3
        exact h4)
      simp only [stsW]
      omega

theorem open_strsW {fuel : Nat} {v : Value} {y : DataW H × List MemPlace} (h : DataW.trod enc Try.prog W 0 (fun _ => true) true fuel 22 [v] = some y) : ∃ ss, Strs W v ss ∧ strsW ss ≤ Rows.uptoBulk y.1 := by
  obtain ⟨a, b, off, len, cap, D, hv, ha, hl, hD, hbulk, hel⟩ := open_elems Try.underlying22 cellsStr (by decide) h
  have each : ∀ i, i < len → ∃ s : ByteArray, ∃ d', D[i]? = some d' ∧ s.size + 1 ≤ Rows.uptoBulk d' ∧ s.size ≤ maxLen ∧ W.cell? ⟨b, off + i, none⟩ = some (.string s) := by
    intro i hi
    obtain ⟨n0, cs, d', pl', hn', hlen', hcell, htrod, hDi⟩ := hel i hi
    obtain ⟨s, e1, ey, hs⟩ := DataW.trod_string Try.underlying9 htrod
    subst e1
    simp only [Prod.mk.injEq] at ey
    obtain ⟨rfl, _⟩ := ey
    have h0 := hcell 0 (by decide)
    simp at h0
    exact ⟨s, _, hDi, by simp [Rows.uptoBulk], hs, h0⟩
  obtain ⟨l, hll, hp⟩ := list_choose len each
  refine ⟨l, ⟨a, b, off, cap, by rw [hv, ← hll], by rw [hll]; exact ha, by rw [hll]; exact hl, fun s hs => ?_, fun j hj => ?_⟩, ?_⟩
  · obtain ⟨i, hi, rfl⟩ := List.mem_iff_getElem.1 hs
    obtain ⟨_, _, _, hh, _⟩ := hp i _ (List.getElem?_eq_getElem hi)
    exact hh
  · obtain ⟨_, _, _, _, hh⟩ := hp j _ (List.getElem?_eq_getElem hj)
    rw [hh, List.getD, List.getElem?_eq_getElem hj]; rfl
  · have hsum := sum_le (f := fun s : ByteArray => s.size + 1) (l := l) (D := D) (by rw [hll, hD]) (fun i x d' h1 h2 => by
      obtain ⟨d'', h3, h4, _⟩ := hp i x h1
      rw [h2] at h3
      cases h3
      exact h4)
    unfold strsW
    omega

theorem open_vas {fuel : Nat} {v : Value} {y : DataW H × List MemPlace} (h : DataW.trod enc Try.prog W 0 (fun _ => true) true fuel 127 [v] = some y) : ∃ l, VasAt W v l ∧ vasW l ≤ Rows.uptoBulk y.1 := by
  obtain ⟨a, b, off, len, cap, D, hv, ha, hl, hD, hbulk, hel⟩ := open_elems Try.underlying127 cellsVa (by decide) h
  have each : ∀ i, i < len → ∃ s : Va, ∃ d', D[i]? = some d' ∧ s.name.size + s.level.size + 3 ≤ Rows.uptoBulk d' ∧ s.name.size ≤ maxLen ∧ s.level.size ≤ maxLen ∧ W.cell? ⟨b, off + i * 2, none⟩ = some (.string s.name) ∧ W.cell? ⟨b, off + i * 2 + 1, none⟩ = some (.string s.level) := by
    intro i hi
    obtain ⟨n0, cs, d', pl', hn', hlen', hcell, htrod, hDi⟩ := hel i hi
    obtain ⟨xs, n, hfn, hx, hlen, hxs, hf⟩ := DataW.trod_struct Try.underlying132 htrod
    obtain ⟨c0, c1, rfl⟩ := list2 hlen'
    obtain ⟨y0, y1, rfl⟩ := list2 (by simpa using hxs)
    have f0 : DataW.trod enc Try.prog W 0 (fun _ => true) true n 9 (([c0, c1].drop 0).take (Try.prog.cellsOf 9)) = some y0 := hf 0 _ rfl
    rw [cellsStr] at f0
    simp only [List.drop, List.take] at f0
    have f1 : DataW.trod enc Try.prog W 0 (fun _ => true) true n 9 (([c0, c1].drop 1).take (Try.prog.cellsOf 9)) = some y1 := hf 1 _ rfl
    rw [cellsStr] at f1
    simp only [List.drop, List.take] at f1
    obtain ⟨s0, e0, rfl, hs0⟩ := DataW.trod_string Try.underlying9 f0
    obtain ⟨s1, e1, rfl, hs1⟩ := DataW.trod_string Try.underlying9 f1
    simp at e0 e1
    subst e0 e1
    simp only [Prod.mk.injEq] at hx
    obtain ⟨rfl, _⟩ := hx
    refine ⟨⟨s0, s1⟩, _, hDi, ?_, hs0, hs1, hcell 0 (by decide), hcell 1 (by decide)⟩
    simp only [List.map_cons, List.map_nil, Rows.uptoBulk, Rows.uptoBulkAll, size_list']
    omega
  obtain ⟨l, hll, hp⟩ := list_choose len each
  refine ⟨l, ⟨a, b, off, cap, by rw [hv, ← hll], by rw [hll]; exact ha, by rw [hll]; exact hl, fun i s hs => ?_⟩, ?_⟩
  · obtain ⟨_, _, _, hh⟩ := hp i s hs
    exact hh
  · have hsum := sum_le (f := fun s : Va => s.name.size + s.level.size + 3) (l := l) (D := D) (by rw [hll, hD]) (fun i x d' h1 h2 => by
      obtain ⟨d'', h3, h4, _⟩ := hp i x h1
      rw [h2] at h3
      cases h3
      exact h4)
    unfold vasW
    omega

theorem open_fus {fuel : Nat} {v : Value} {y : DataW H × List MemPlace} (h : DataW.trod enc Try.prog W 0 (fun _ => true) true fuel 128 [v] = some y) : ∃ l, FusAt W fuel v l ∧ fusW fuel l ≤ Rows.uptoBulk y.1 := by
  obtain ⟨a, b, off, len, cap, D, hv, ha, hl, hD, hbulk, hel⟩ := open_elems Try.underlying128 cellsFu (by decide) h
  have each : ∀ i, i < len → ∃ s : Fu, ∃ d', D[i]? = some d' ∧ s.name.size + 2 + strsW s.params + stsW fuel s.body + exW fuel s.result ≤ Rows.uptoBulk d' ∧ s.name.size ≤ maxLen ∧ ∃ vp vb e0 e1 e2 e3,
      W.cell? ⟨b, off + i * 7, none⟩ = some (.string s.name) ∧ W.cell? ⟨b, off + i * 7 + 1, none⟩ = some vp ∧ W.cell? ⟨b, off + i * 7 + 2, none⟩ = some vb ∧
      W.cell? ⟨b, off + i * 7 + 3, none⟩ = some e0 ∧ W.cell? ⟨b, off + i * 7 + 4, none⟩ = some e1 ∧ W.cell? ⟨b, off + i * 7 + 5, none⟩ = some e2 ∧ W.cell? ⟨b, off + i * 7 + 6, none⟩ = some e3 ∧
      Strs W vp s.params ∧ StsAt W fuel vb s.body ∧ ExAt W fuel e0 e1 e2 e3 s.result := by
    intro i hi
    obtain ⟨n0, cs, d', pl', hn', hlen', hcell, htrod, hDi⟩ := hel i hi
    obtain ⟨xs, n, hfn, hx, hlen, hxs, hf⟩ := DataW.trod_struct Try.underlying160 htrod
    obtain ⟨c0, c1, c2, c3, c4, c5, c6, rfl⟩ := list7 hlen'
    obtain ⟨y0, y1, y2, y3, rfl⟩ := list4 (by simpa using hxs)
    have f0 : DataW.trod enc Try.prog W 0 (fun _ => true) true n 9 (([c0, c1, c2, c3, c4, c5, c6].drop 0).take (Try.prog.cellsOf 9)) = some y0 := hf 0 _ rfl
    rw [cellsStr] at f0
    simp only [List.drop, List.take] at f0
    have f1 : DataW.trod enc Try.prog W 0 (fun _ => true) true n 22 (([c0, c1, c2, c3, c4, c5, c6].drop 1).take (Try.prog.cellsOf 22)) = some y1 := hf 1 _ rfl
    rw [cellsStrs] at f1
    simp only [List.drop, List.take] at f1
    have f2 : DataW.trod enc Try.prog W 0 (fun _ => true) true n 155 (([c0, c1, c2, c3, c4, c5, c6].drop 2).take (Try.prog.cellsOf 155)) = some y2 := hf 2 _ rfl
    rw [cellsSts] at f2
    simp only [List.drop, List.take] at f2
    have f3 : DataW.trod enc Try.prog W 0 (fun _ => true) true n 158 (([c0, c1, c2, c3, c4, c5, c6].drop 3).take (Try.prog.cellsOf 158)) = some y3 := hf 3 _ rfl
    rw [cellsEx] at f3
    simp only [List.drop, List.take] at f3
    obtain ⟨s0, e0, rfl, hs0⟩ := DataW.trod_string Try.underlying9 f0
    simp at e0
    subst e0
    obtain ⟨ps, hps, hwp⟩ := open_strsW f1
    obtain ⟨lb, hlb, hwb⟩ := open_sts n f2
    obtain ⟨z0, z1, z2, z3, x, ez, hxe, hwe⟩ := open_ex n (d := y3.1) (pl := y3.2) f3
    simp at ez
    obtain ⟨rfl, rfl, rfl, rfl⟩ := ez
    simp only [Prod.mk.injEq] at hx
    obtain ⟨rfl, _⟩ := hx
    refine ⟨⟨s0, ps, lb, x⟩, _, hDi, ?_, hs0, _, _, _, _, _, _, hcell 0 (by decide), hcell 1 (by decide), hcell 2 (by decide), hcell 3 (by decide), hcell 4 (by decide), hcell 5 (by decide), hcell 6 (by decide), hps, hlb.mono fuel (by omega), hxe.mono fuel (by omega)⟩
    rw [exW_mono hxe fuel (by omega), stsW_mono hlb fuel (by omega)]
    simp only [List.map_cons, List.map_nil, Rows.uptoBulk, Rows.uptoBulkAll, size_list']
    omega
  obtain ⟨l, hll, hp⟩ := list_choose len each
  refine ⟨l, ⟨a, b, off, cap, by rw [hv, ← hll], by rw [hll]; exact ha, by rw [hll]; exact hl, fun i s hs => ?_⟩, ?_⟩
  · obtain ⟨_, _, _, hh⟩ := hp i s hs
    exact hh
  · have hsum := sum_le (f := fun s : Fu => s.name.size + 2 + strsW s.params + stsW fuel s.body + exW fuel s.result) (l := l) (D := D) (by rw [hll, hD]) (fun i x d' h1 h2 => by
      obtain ⟨d'', h3, h4, _⟩ := hp i x h1
      rw [h2] at h3
      cases h3
      exact h4)
    unfold fusW
    omega

set_option maxRecDepth 100000 in
theorem open_mo {b0 : Nat} {v : Value} {d : DataW H} {p : List MemPlace} (hv : Value.okWide Try.prog W .any b0 130 v) (h : DataW.Trod enc Try.prog W 0 (fun _ => true) true 130 v d p) :
    ∃ m x, MoAt W m v x ∧ moW m x ≤ Rows.uptoBulk d := by
  obtain ⟨c0, c1, c2, c3, y0, y1, y2, y3, m, rfl, rfl, _, f0, f1, f2, f3⟩ := open_agg4 Try.underlying130 (by kernel_rfl) cellsMo hv h
  obtain ⟨s0, e0, rfl, hs0⟩ := DataW.trod_string Try.underlying9 f0
  simp at e0
  subst e0
  obtain ⟨im, him, hwi⟩ := open_strsW f1
  obtain ⟨va, hva, hwv⟩ := open_vas f2
  obtain ⟨fu, hfu, hwf⟩ := open_fus f3
  refine ⟨m, ⟨s0, im, va, fu⟩, ⟨_, _, _, rfl, hs0, him, hva, hfu⟩, ?_⟩
  unfold moW
  simp only [Rows.uptoBulk, Rows.uptoBulkAll, size_list']
  omega
end

end Go.Proofs.Ytmhcameodlhloab
