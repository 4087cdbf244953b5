/- SolveLeast: slices.Clone of constraints, and one more appended. -/
import Derived.Test.YtholefgckcoklabZB
import Derived.Test.YtholefgckcoklabOK
import Derived.Lib.SliceRun
namespace Go.Proofs.Ytholefgckcoklab
open Go.RowKit

/-- The four cells of a constraint whose From lies in W. -/
def CoC (W : World) (c : List Value) (x : Sv.Co) : Prop := ∃ vf, Ints W vf x.fr ∧ c = [.int .i64 x.to, vf, .int .i64 x.mask, .int .i64 x.level]
theorem CoC.one {W : World} {c : List Value} {x : Sv.Co} (h : CoC W c x) : c.length = 4 ∧ ∀ u ∈ c, u.oneCell' = true := by
  obtain ⟨vf, ⟨a, b, off, cap, rfl, _⟩, rfl⟩ := h
  refine ⟨rfl, fun u hu => ?_⟩
  simp at hu
  rcases hu with rfl | rfl | rfl | rfl <;> rfl
/-- A row of the call's own of constraints. -/
def OwnC (W w : World) (n : Nat) (v : Value) (l : List Sv.Co) : Prop :=
  ∃ cs : List (List Value), w.ownsRow n 50 4 v l.length cs.flatten ∧ cs.length = l.length ∧ ∀ (i : Nat) c y, cs[i]? = some c → l[i]? = some y → CoC W c y
theorem infoCo : (Try.prog.info? 50).map (fun i => (i.zero, i.size, i.bytes)) = some (some (.agg #[.int .i64 0, .slice none 0 0, .int .i64 0, .int .i64 0]), 4, 48) := by kernel_rfl
section
variable {W w w' : World} {n : Nat} {v : Value} {l : List Sv.Co}
theorem OwnC.len {cs : List (List Value)} (h2 : cs.length = l.length) (h : ∀ (i : Nat) c y, cs[i]? = some c → l[i]? = some y → CoC W c y) : ∀ c ∈ cs, c.length = 4 ∧ ∀ u ∈ c, u.oneCell' = true := fun c hc => by
  obtain ⟨i, hi, rfl⟩ := List.mem_iff_getElem.1 hc
  exact (h i _ _ (List.getElem?_eq_getElem hi) (List.getElem?_eq_getElem (by omega))).one
theorem OwnC.nil (W w : World) (n : Nat) : OwnC W w n (.slice none 0 0) [] := ⟨[], World.ownsRow_nil _ _ _ _, rfl, fun i c y hc => absurd hc (by simp)⟩
theorem OwnC.below (h : OwnC W w n v l) (hb : Below w.heap.size w w') : OwnC W w' n v l := by
  obtain ⟨cs, h1, h2⟩ := h
  exact ⟨cs, own_below h1 hb, h2⟩
theorem OwnC.lt (h : OwnC W w n v l) : ∀ j, v.ownBlock = some j → n ≤ j ∧ j < w.heap.size := by
  obtain ⟨cs, h1, _⟩ := h
  exact h1.lt
theorem OwnC.form (h : OwnC W w n v l) : ∃ a c, v = .slice a l.length c := by
  obtain ⟨_, h, _⟩ := h
  rcases h.2 with ⟨h1, h2⟩ | ⟨g, cap, cur, h1, _⟩
  · exact ⟨none, 0, by rw [h1, h2]⟩
  · exact ⟨_, _, h1⟩
theorem OwnC.cos (h : OwnC W w n v l) (hb : Below W.heap.size W w) (hl : l.length ≤ 9223372036854775807) : CosAt w v l := by
  obtain ⟨cs, h1, h2, h4⟩ := h
  have h3 := OwnC.len h2 h4
  rcases h1.2 with ⟨rfl, h0⟩ | ⟨g, cap, cur, rfl, _⟩
  · have : l = [] := List.length_eq_zero_iff.1 (by omega)
    subst this
    exact ⟨none, 0, 0, 0, rfl, fun h => absurd h (by simp), by simp, fun i x hx => absurd hx (by simp)⟩
  · refine ⟨_, g, 0, cap, rfl, fun _ => rfl, hl, fun i x hx => ?_⟩
    have hi : i < cs.length := by have := (List.getElem?_eq_some_iff.1 hx).1; omega
    obtain ⟨vf, hvf, hc⟩ := h4 i _ x (List.getElem?_eq_getElem hi) hx
    have hcell : ∀ j, j < 4 → w.cell? ⟨g, i * 4 + j, none⟩ = (cs[i])[j]? := fun j hj => by
      rw [World.ownsRow.cellAt h1 _ (by omega)]
      exact flat_get cs i j hi (fun c hc => (h3 c hc).1) hj
    rw [hc] at hcell
    rw [Nat.zero_add]
    exact ⟨vf, hvf.below hb, hcell 0 (by decide), hcell 1 (by decide), hcell 2 (by decide), hcell 3 (by decide)⟩
/-- More constraints behind. -/
theorem OwnC.cat {g cap : Nat} {l2 : List Sv.Co} {cs cs2 : List (List Value)} (h2 : cs.length = l.length) (h4 : ∀ (i : Nat) c y, cs[i]? = some c → l[i]? = some y → CoC W c y) (k2 : cs2.length = l2.length) (k4 : ∀ (i : Nat) c y, cs2[i]? = some c → l2[i]? = some y → CoC W c y)
    (h1 : w'.ownsRow n 50 4 (.slice (some ⟨g, 0, none⟩) (l.length + l2.length) cap) (l.length + l2.length) (cs.flatten ++ cs2.flatten)) : OwnC W w' n (.slice (some ⟨g, 0, none⟩) (l.length + l2.length) cap) (l ++ l2) := by
  refine ⟨cs ++ cs2, by rw [List.length_append, List.flatten_append]; exact h1, by simp [h2, k2], fun i d z hd hz => ?_⟩
  by_cases hi : i < l.length
  · rw [List.getElem?_append_left (by omega)] at hd
    rw [List.getElem?_append_left hi] at hz
    exact h4 i d z hd hz
  · rw [List.getElem?_append_right (by omega)] at hd
    rw [List.getElem?_append_right (by omega)] at hz
    rw [h2] at hd
    exact k4 _ d z hd hz
end
/-- A list of constraints in memory as cells. -/
theorem cos_cells {W w : World} {b2 off2 : Nat} {l : List Sv.Co} (hel : ∀ (i : Nat) (x : Sv.Co), l[i]? = some x → ∃ vf, Ints W vf x.fr ∧ w.cell? ⟨b2, off2 + i * 4, none⟩ = some (.int .i64 x.to) ∧ w.cell? ⟨b2, off2 + i * 4 + 1, none⟩ = some vf ∧ w.cell? ⟨b2, off2 + i * 4 + 2, none⟩ = some (.int .i64 x.mask) ∧ w.cell? ⟨b2, off2 + i * 4 + 3, none⟩ = some (.int .i64 x.level)) :
    ∃ cs2 : List (List Value), cs2.length = l.length ∧ (∀ (i : Nat) c y, cs2[i]? = some c → l[i]? = some y → CoC W c y) ∧ ∀ (j : Nat) u, cs2.flatten[j]? = some u → w.cell? ⟨b2, off2 + j, none⟩ = some u := by
  have hch : ∀ i, i < l.length → ∃ c : List Value, ∃ y, l[i]? = some y ∧ CoC W c y ∧ ∀ j, j < 4 → w.cell? ⟨b2, off2 + i * 4 + j, none⟩ = c[j]? := fun i hi => by
    obtain ⟨vf, hvf, g0, g1, g2, g3⟩ := hel i _ (List.getElem?_eq_getElem hi)
    refine ⟨[.int .i64 (l[i]).to, vf, .int .i64 (l[i]).mask, .int .i64 (l[i]).level], _, List.getElem?_eq_getElem hi, ⟨vf, hvf, rfl⟩, fun j hj => ?_⟩
    match j, hj with
    | 0, _ => exact g0
    | 1, _ => exact g1
    | 2, _ => exact g2
    | 3, _ => exact g3
  obtain ⟨cs2, h1, h2⟩ : ∃ cs2 : List (List Value), cs2.length = l.length ∧ ∀ (i : Nat) c, cs2[i]? = some c → ∃ y, l[i]? = some y ∧ CoC W c y ∧ ∀ j, j < 4 → w.cell? ⟨b2, off2 + i * 4 + j, none⟩ = c[j]? := by
    refine ⟨(List.finRange l.length).map fun i => Classical.choose (hch i.1 i.2), by simp, fun i c hc => ?_⟩
    rw [List.getElem?_map] at hc
    obtain ⟨k, hk, rfl⟩ := Option.map_eq_some_iff.1 hc
    have hki : k.1 = i := by
      obtain ⟨h1, h2⟩ := List.getElem?_eq_some_iff.1 hk
      rw [List.getElem_finRange] at h2
      rw [← h2]; rfl
    subst hki
    exact Classical.choose_spec (hch k.1 k.2)
  refine ⟨cs2, h1, fun i c y hc hy => ?_, fun j u hu => ?_⟩
  · obtain ⟨y', hy', hcc, _⟩ := h2 i c hc
    rw [hy'] at hy
    cases hy
    exact hcc
  · have h3 : ∀ c ∈ cs2, c.length = 4 := fun c hc => by
      obtain ⟨i, hi, rfl⟩ := List.mem_iff_getElem.1 hc
      obtain ⟨_, _, hcc, _⟩ := h2 i _ (List.getElem?_eq_getElem hi)
      exact hcc.one.1
    have hj : j < cs2.length * 4 := by
      have := (List.getElem?_eq_some_iff.1 hu).1
      rwa [flat_len cs2 h3] at this
    have hi : j / 4 < cs2.length := by omega
    have hf := flat_get (k := 4) cs2 (j / 4) (j % 4) hi h3 (Nat.mod_lt _ (by decide))
    rw [show j / 4 * 4 + j % 4 = j by omega, hu] at hf
    obtain ⟨_, _, _, hcell⟩ := h2 (j / 4) _ (List.getElem?_eq_getElem hi)
    have := hcell (j % 4) (Nat.mod_lt _ (by decide))
    rw [show off2 + j / 4 * 4 + j % 4 = off2 + j by omega] at this
    rw [this, ← hf]

theorem wpList_append_zeroC {w : World} {ops : Array Oper} {rest : List Oper} {o : Oper} {a : Act} {Q : Exit → Act → World → Prop} (hgd : o.guard = none) (s x : Operand)
    (ho : o.op = .call { callee := .builtin .append, args := #[s, x], argTypes := #[45, 45] })
    (base : Nat) (v : Value) (n : Nat) (xs : List Value) (hs : a.eval s = v) (hown : w.ownsRow base 50 4 v n xs) (a2 : Option Addr) (c2 : Nat) (hx : a.eval x = .slice a2 0 c2)
    (h : wpList Try.prog ops Q rest (a.put o.dst v) w) : wpList Try.prog ops Q (o :: rest) a w := by
  obtain ⟨i, hi, _⟩ := info_parts infoCo
  refine wpList_plain hgd fun K hK => ?_
  have hrun : ∀ ty, (Builtin.append_ #[45, 45] ty #[v, .slice a2 0 c2]).run Try.prog w = .ok v w := fun ty => by
    rcases hown.2 with ⟨rfl, rfl⟩ | ⟨g, cap, cur, rfl, _, _, hnc, _⟩
    · cases a2 <;> simp [Builtin.append_, run_underlying Try.underlying45, sizeOf, typeInfo, hi, Builtin.lenOf, Builtin.firstCells, loadCells, loadCellsFrom]
    · cases a2 <;> simp [Builtin.append_, run_underlying Try.underlying45, sizeOf, typeInfo, hi, Builtin.lenOf, Builtin.firstCells, loadCells, loadCellsFrom, hnc, storeCells]
  unfold Oper.wp
  simp [execOp, ho, resolve, invoke, builtin, hs, hx, hrun, Result.andThen]
  exact hK _ _ h
/-- append of a list of constraints to a row of the call's own. -/
theorem wpList_append_CC {W w : World} {ops : Array Oper} {rest : List Oper} {o : Oper} {a : Act} {Q : Exit → Act → World → Prop} (hgd : o.guard = none) (s x : Operand)
    (ho : o.op = .call { callee := .builtin .append, args := #[s, x], argTypes := #[45, 45] })
    (n : Nat) (v : Value) (l : List Sv.Co) (hs : a.eval s = v) (hown : OwnC W w n v l) (v2 : Value) (l2 : List Sv.Co) (hx : a.eval x = v2) (hC : CosAt W v2 l2) (hb : Below W.heap.size W w) (hl : l.length + l2.length ≤ 16777216) (hbase : n ≤ w.heap.size)
    (h : ∀ v' w', OwnC W w' n v' (l ++ l2) → w.grownBy w' v.ownBlock → wpList Try.prog ops Q rest (a.put o.dst v') w') : wpList Try.prog ops Q (o :: rest) a w := by
  obtain ⟨a2, b2, off2, c2, rfl, h0, _, hel⟩ := hC
  have HO := hown
  obtain ⟨cs, hr, k1, k3⟩ := hown
  cases l2 with
  | nil =>
    refine wpList_append_zeroC hgd s x ho n v l.length cs.flatten hs hr a2 c2 hx ?_
    exact h v w (by simpa using HO) ⟨rfl, rfl, rfl, Nat.le_refl _, fun _ _ _ => rfl⟩
  | cons y r =>
    obtain rfl := h0 (by simp)
    obtain ⟨iS, hiS, hz0, hz1, hz2⟩ := info_parts infoCo
    obtain ⟨cs2, b1, b3, b4⟩ := cos_cells (W := W) (w := w) (b2 := b2) (off2 := off2) (l := y :: r) (fun i x hx => by
      obtain ⟨vf, hvf, g0, g1, g2, g3⟩ := hel i x hx
      exact ⟨vf, hvf, cellUp g0 hb, cellUp g1 hb, cellUp g2 hb, cellUp g3 hb⟩)
    have b2' := OwnC.len b1 b3
    refine wpList_append_lies w hgd s x 45 ho n 50 iS _ 4 48 Try.underlying45 hiS hz0 hz1 hz2 (by decide) (by decide) v l.length cs.flatten hs hr ⟨b2, off2, none⟩ (y :: r).length c2 cs2.flatten hx (by rw [flat_len cs2 (fun c hc => (b2' c hc).1), b1]) (fun j u hu => by rw [Addr.add_lit]; exact b4 j u hu) (fun u hu => ?_) (by simp) (by unfold maxLen; omega)
      (Nat.le_trans (Nat.mul_le_mul_right 48 hl) (by decide)) hbase w.heap.size rfl ?_
    · obtain ⟨c, hc, hu'⟩ := List.mem_flatten.1 hu
      exact (b2' c hc).2 u hu'
    · intro g cap w' h1' h2 _ _
      exact h _ w' (OwnC.cat k1 k3 b1 b3 h1') h2
/-- append of one constraint, at a step of a region that draws its order. -/
theorem step_append_co {W w : World} {ops : Array Oper} {o : Oper} {a : Act} {K : Act → World → Prop} {Q : Exit → Act → World → Prop} {E : Prop} (hgd : o.guard = none) (s x : Operand)
    (ho : o.op = .call { callee := .builtin .append, args := #[s, x], argTypes := #[45, 45] })
    (n : Nat) (v : Value) (l : List Sv.Co) (hs : a.eval s = v) (hown : OwnC W w n v l) (B : Nat) (c : List Value) (y : Sv.Co) (hx : a.eval x = .slice (some ⟨B, 0, none⟩) 1 1) (hc : ∀ (j : Nat) u, c[j]? = some u → w.cell? ⟨B, j, none⟩ = some u) (hat : CoC W c y) (hl : l.length ≤ 16777215) (hbase : n ≤ w.heap.size)
    (h : ∀ g cap w', OwnC W w' n (.slice (some ⟨g, 0, none⟩) (l.length + 1) cap) (l ++ [y]) → w.grownBy w' v.ownBlock → K (a.put o.dst (.slice (some ⟨g, 0, none⟩) (l.length + 1) cap)) w') :
    if Region.wanted o (yielded ops a.tmps) = true then Oper.wp Try.prog o a w K Q else E := by
  obtain ⟨iS, hiS, hz0, hz1, hz2⟩ := info_parts infoCo
  obtain ⟨cs, hr, k1, k3⟩ := hown
  refine step_append_lies w hgd s x 45 ho n 50 iS _ 4 48 Try.underlying45 hiS hz0 hz1 hz2 (by decide) (by decide) v l.length cs.flatten hs hr ⟨B, 0, none⟩ 1 1 c hx (by rw [hat.one.1]) (fun j u hu => by rw [Addr.add_lit, Nat.zero_add]; exact hc j u hu) hat.one.2 (by decide) (by unfold maxLen; omega)
    (Nat.le_trans (Nat.mul_le_mul_right 48 (show l.length + 1 ≤ 16777216 by omega)) (by decide)) hbase w.heap.size rfl ?_
  intro g cap w' h1' h2 _ _
  refine h g cap w' ?_ h2
  have := OwnC.cat (W := W) (cs2 := [c]) (l2 := [y]) k1 k3 rfl (fun i d z hd hz => by
    match i, hd, hz with
    | 0, hd, hz => simp at hd hz; subst hd hz; exact hat
    | i + 1, hd, hz => simp at hd) (by simpa using h1')
  simpa using this

set_option maxHeartbeats 2000000 in
set_option maxRecDepth 100000 in
theorem cloneCo_any (W w : World) (v : Value) (l : List Sv.Co) (h : CosAt W v l) (hb : Below W.heap.size W w) (hl : l.length ≤ 1048576) :
    Calls Try.prog 27 #[v] w fun e w' => ∃ v', e = .returned v' ∧ OwnC W w' w.heap.size v' l ∧ Below w.heap.size w w' := by
  have HC := hide h
  have HBW := hide hb
  obtain ⟨a, b, off, cap, rfl, h0, -, -⟩ := h
  clear hb
  cases a with
  | none =>
    have hz : l = [] := by
      cases l with
      | nil => rfl
      | cons y r => exact absurd (h0 (by simp)) (by simp)
    subst hz
    clear h0
    have hnil : ∀ w c, (binOp .eql 45 (.slice none 0 c) (.slice none 0 0)).run Try.prog w = .ok (.bool true) w := fun w c => Lib.run_eql_slice_nil w 45 50 none 0 c 0 0 Try.underlying45
    go_enter Try.func27, Try.ntmps27
    go_wp2_with fail
    go_ret
    exact ⟨_, rfl, OwnC.nil _ _ _, Below.refl _ _⟩
  | some ad =>
    clear h0
    obtain ⟨nl, hnl⟩ : ∃ n, n = l.length := ⟨_, rfl⟩
    rw [← hnl] at HC ⊢
    have HNL := hide hnl
    have HL := hide hl
    clear hnl hl
    have hnil : ∀ w n c, (binOp .eql 45 (.slice (some ad) n c) (.slice none 0 0)).run Try.prog w = .ok (.bool false) w := fun w n c => Lib.run_eql_slice_nil w 45 50 (some ad) n c 0 0 Try.underlying45
    have HBX := hide (boxBelow w (.cells #[] 50))
    have HOW : Hid (OwnC W (w.alloc (.cells #[] 50)) w.heap.size (.slice (some ⟨w.heap.size, 0, none⟩) 0 0) []) := hide ⟨[], World.ownsRow_lit w #[] 0 (Nat.le_refl _) (by decide) rfl, rfl, fun i c y hc => absurd hc (by simp)⟩
    go_enter Try.func27, Try.ntmps27
    go_wp2_with (first
      | (at_builtin; refine wpList_append_CC (W := W) rfl _ _ rfl w.heap.size _ [] rfl HOW.out _ l rfl HC.out (up HBW.out HBX.out) (by have := HL.out; simp; omega) HBX.out.size ?_; intro v7 w7 hown7 hgrow7; have HO7 := hide hown7; have HB7 := hide (Below.grown HBX.out hgrow7 HBX.out.size (fun k e => by have := (HOW.out.lt k e).1; omega)); clear hown7 hgrow7)
      | fail)
    go_ret
    exact ⟨_, rfl, by simpa using HO7.out, HB7.out⟩

end Go.Proofs.Ytholefgckcoklab
