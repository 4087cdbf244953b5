/- How lists of modules, of cells and of prints that came in are opened, with their lengths. -/
import Derived.Test.YtmhcameodlhloaaTR
import Derived.Test.YtmhcameodlhloaaCE
import Derived.Test.YtmhcameodlhloaaOP
namespace Go.Proofs.Ytmhcameodlhloaa
open Go.ChangeShapes Go.WideShapes Go.ChangeAt Go.RowKit Go.Deep Go.Joins

section
variable {H : Type} {enc : TypeId × Value → H} {W : World}
theorem bulk_pos (d : DataW H) : 1 ≤ Rows.uptoBulk d := by
  cases d with
  | lit l => cases l <;> simp [Rows.uptoBulk]
  | nil => simp [Rows.uptoBulk]
  | ptr d => simp [Rows.uptoBulk]
  | slice elems spare => simp [Rows.uptoBulk]
  | agg parts => simp [Rows.uptoBulk]
  | iface t d => simp [Rows.uptoBulk]
  | map entries => simp [Rows.uptoBulk]
  | held h => simp [Rows.uptoBulk]
theorem bulk_len (l : List (DataW H)) : l.length ≤ Rows.uptoBulkAll l := by
  induction l with
  | nil => simp [Rows.uptoBulkAll]
  | cons x r ih => have := bulk_pos x; simp only [Rows.uptoBulkAll, List.length_cons]; omega
theorem vasW_len (l : List Va) : l.length ≤ vasW l := by
  unfold vasW
  induction l with
  | nil => simp
  | cons x r ih => simp only [List.map_cons, List.sum_cons, List.length_cons] at ih ⊢; omega
theorem moW_vars (m : Nat) (x : Mo) : x.vars.length ≤ moW m x := by
  have := vasW_len x.vars
  unfold moW
  omega
/-- The length of a slice that came in is within its bulk. -/
theorem open_len {t e k : Nat} (ht : Try.prog.underlying t = some (.slice e)) (hk : Try.prog.cellsOf e = k) (hk0 : 0 < k) {v : Value} {d : DataW H} {p : List MemPlace} (h : DataW.Trod enc Try.prog W 0 (fun _ => true) true t v d p) {a : Option Addr} {n c : Nat} (hv : v = .slice a n c) : n ≤ Rows.uptoBulk d := by
  subst hv
  obtain ⟨fuel, hf⟩ := h
  have hf' : DataW.trod enc Try.prog W 0 (fun _ => true) true fuel t [.slice a n c] = some (d, p) := hf
  obtain ⟨a', b, off, len, cap, D, hv', ha, hl, hD, hbulk, hel⟩ := open_elems ht hk hk0 hf'
  injection hv' with _ e1 _
  have h1 := bulk_len D
  have h2 : Rows.uptoBulkAll D + 1 ≤ Rows.uptoBulk d := hbulk
  omega
set_option maxRecDepth 100000 in
theorem open_mosL {b0 : Nat} {v : Value} {d : DataW H} {p : List MemPlace} (hv : Value.okWide Try.prog W .any b0 64 v) (h : DataW.Trod enc Try.prog W 0 (fun _ => true) true 64 v d p) :
    ∃ m l, MosAt W m v l ∧ (∀ y ∈ l, moW m y ≤ Rows.uptoBulk d) ∧ l.length ≤ Rows.uptoBulk d := by
  obtain ⟨m, l, hM, hw⟩ := open_mos hv h
  refine ⟨m, l, hM, hw, ?_⟩
  obtain ⟨a, b, off, cap, e, -⟩ := hM
  exact open_len Try.underlying64 cellsMo (by decide) h e
theorem cellsCeL : Try.prog.cellsOf 68 = 3 := by kernel_rfl
theorem cellsPrL : Try.prog.cellsOf 72 = 2 := by kernel_rfl
theorem list3L {α : Type} {l : List α} (h : l.length = 3) : ∃ a b c, l = [a, b, c] := by
  match l, h with
  | [a, b, c], _ => exact ⟨a, b, c, rfl⟩

set_option maxRecDepth 100000 in
theorem open_cesL {b0 : Nat} {v : Value} {d : DataW H} {p : List MemPlace} (hv : Value.okWide Try.prog W .any b0 65 v) (h : DataW.Trod enc Try.prog W 0 (fun _ => true) true 65 v d p) :
    ∃ l, CesAt W v l ∧ (∀ c ∈ l, c.mod.size ≤ maxLen ∧ c.name.size ≤ maxLen) ∧ l.length ≤ Rows.uptoBulk d := by
  obtain ⟨a0, l0, c0, rfl⟩ := okWide_slice Try.underlying65 hv
  have hlen := open_len Try.underlying65 cellsCeL (by decide) h rfl
  obtain ⟨fuel, hf⟩ := h
  have hf' : DataW.trod enc Try.prog W 0 (fun _ => true) true fuel 65 [.slice a0 l0 c0] = some (d, p) := hf
  obtain ⟨a, b, off, len, cap, D, hv', ha, hl, hD, hbulk, hel⟩ := open_elems Try.underlying65 cellsCeL (by decide) hf'
  have each : ∀ i, i < len → ∃ s : Ce, (s.mod.size ≤ maxLen ∧ s.name.size ≤ maxLen) ∧ I64 s.val ∧ W.cell? ⟨b, off + i * 3, none⟩ = some (.string s.mod) ∧ W.cell? ⟨b, off + i * 3 + 1, none⟩ = some (.string s.name) ∧ W.cell? ⟨b, off + i * 3 + 2, none⟩ = some (.int .i64 s.val) := by
    intro i hi
    obtain ⟨n0, cs, d', pl', hn', hlen', hcell, htrod, hDi⟩ := hel i hi
    obtain ⟨xs, n, hfn, hx, hlen, hxs, hf⟩ := DataW.trod_struct Try.underlying68 htrod
    obtain ⟨c0, c1, c2, rfl⟩ := list3L hlen'
    obtain ⟨y0, y1, y2, rfl⟩ := list3L (by simpa using hxs)
    have f0 : DataW.trod enc Try.prog W 0 (fun _ => true) true n 9 (([c0, c1, c2].drop 0).take (Try.prog.cellsOf 9)) = some y0 := hf 0 _ rfl
    rw [cellsStr] at f0
    simp only [List.drop, List.take] at f0
    have f1 : DataW.trod enc Try.prog W 0 (fun _ => true) true n 9 (([c0, c1, c2].drop 1).take (Try.prog.cellsOf 9)) = some y1 := hf 1 _ rfl
    rw [cellsStr] at f1
    simp only [List.drop, List.take] at f1
    have f2 : DataW.trod enc Try.prog W 0 (fun _ => true) true n 3 (([c0, c1, c2].drop 2).take (Try.prog.cellsOf 3)) = some y2 := hf 2 _ rfl
    rw [cellsInt] at f2
    simp only [List.drop, List.take] at f2
    obtain ⟨s0, e0, rfl, hs0⟩ := DataW.trod_string Try.underlying9 f0
    obtain ⟨s1, e1, rfl, hs1⟩ := DataW.trod_string Try.underlying9 f1
    obtain ⟨k2, e2, rfl, w2⟩ := DataW.trod_int Try.underlying3 f2
    simp at e0 e1 e2
    subst e0 e1 e2
    exact ⟨⟨s0, s1, k2⟩, ⟨hs0, hs1⟩, i64_of w2, hcell 0 (by decide), hcell 1 (by decide), hcell 2 (by decide)⟩
  obtain ⟨l, hll, hp⟩ := list_choose len each
  refine ⟨l, ⟨a, b, off, cap, by rw [hv', ← hll], by rw [hll]; exact ha, by rw [hll]; exact hl, fun i s hs => (hp i s hs).2⟩, fun c hc => ?_, ?_⟩
  · obtain ⟨i, hi, rfl⟩ := List.mem_iff_getElem.1 hc
    exact (hp i _ (List.getElem?_eq_getElem hi)).1
  · injection hv' with _ e1 _
    omega
set_option maxRecDepth 100000 in
theorem open_prsL {b0 : Nat} {v : Value} {d : DataW H} {p : List MemPlace} (hv : Value.okWide Try.prog W .any b0 66 v) (h : DataW.Trod enc Try.prog W 0 (fun _ => true) true 66 v d p) :
    ∃ l, PrsAt W v l ∧ l.length ≤ Rows.uptoBulk d := by
  obtain ⟨a0, l0, c0, rfl⟩ := okWide_slice Try.underlying66 hv
  have hlen := open_len Try.underlying66 cellsPrL (by decide) h rfl
  obtain ⟨fuel, hf⟩ := h
  have hf' : DataW.trod enc Try.prog W 0 (fun _ => true) true fuel 66 [.slice a0 l0 c0] = some (d, p) := hf
  obtain ⟨a, b, off, len, cap, D, hv', ha, hl, hD, hbulk, hel⟩ := open_elems Try.underlying66 cellsPrL (by decide) hf'
  have each : ∀ i, i < len → ∃ s : ByteArray × Int, W.cell? ⟨b, off + i * 2, none⟩ = some (.string s.1) ∧ W.cell? ⟨b, off + i * 2 + 1, none⟩ = some (.int .i64 s.2) := by
    intro i hi
    obtain ⟨n0, cs, d', pl', hn', hlen', hcell, htrod, hDi⟩ := hel i hi
    obtain ⟨xs, n, hfn, hx, hlen, hxs, hf⟩ := DataW.trod_struct Try.underlying72 htrod
    obtain ⟨c0, c1, rfl⟩ := list2 hlen'
    obtain ⟨y0, y1, rfl⟩ := list2 (by simpa using hxs)
    have f0 : DataW.trod enc Try.prog W 0 (fun _ => true) true n 9 (([c0, c1].drop 0).take (Try.prog.cellsOf 9)) = some y0 := hf 0 _ rfl
    rw [cellsStr] at f0
    simp only [List.drop, List.take] at f0
    have f2 : DataW.trod enc Try.prog W 0 (fun _ => true) true n 3 (([c0, c1].drop 1).take (Try.prog.cellsOf 3)) = some y1 := hf 1 _ rfl
    rw [cellsInt] at f2
    simp only [List.drop, List.take] at f2
    obtain ⟨s0, e0, rfl, hs0⟩ := DataW.trod_string Try.underlying9 f0
    obtain ⟨k2, e2, rfl, w2⟩ := DataW.trod_int Try.underlying3 f2
    simp at e0 e2
    subst e0 e2
    exact ⟨⟨s0, k2⟩, hcell 0 (by decide), hcell 1 (by decide)⟩
  obtain ⟨l, hll, hp⟩ := list_choose len each
  refine ⟨l, ⟨a, b, off, cap, by rw [hv', ← hll], by rw [hll]; exact ha, by rw [hll]; exact hl, fun i s hs => hp i s hs⟩, ?_⟩
  injection hv' with _ e1 _
  omega
end

end Go.Proofs.Ytmhcameodlhloaa
