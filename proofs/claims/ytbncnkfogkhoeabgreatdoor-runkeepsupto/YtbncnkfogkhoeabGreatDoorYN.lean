/- Walks for RunKeeps: the first cell of a variable, a list of cells cloned and appended to; plain facts of a run. -/
import Derived.Test.YtbncnkfogkhoeabGreatDoorZBK
import Derived.Test.YtbncnkfogkhoeabGreatDoorXX
import Derived.Test.YtbncnkfogkhoeabGreatDoorZAB
import Derived.Test.YtbncnkfogkhoeabGreatDoorZAF
namespace Go.Proofs.YtbncnkfogkhoeabGreatDoor
open Go.RowKit Go.Maps

set_option maxHeartbeats 1000000 in
theorem keepP_any (w : World) (B : Nat) (x y : ByteArray) (c : Ce) (hB : w.cell? ⟨B, 0, none⟩ = some (.string x)) (hB1 : w.cell? ⟨B, 1, none⟩ = some (.string y)) :
    Calls Tryz.prog 17 #[.agg #[.string c.mod, .string c.name, .int .i64 c.val], .pointer (some ⟨B, 0, none⟩)] w fun e w' => e = .returned (.bool (Rn.isC x y c)) ∧ Below w.heap.size w w' := by
  obtain ⟨q0, q1⟩ := boxE3 w (.string c.mod) (.string c.name) (.int .i64 c.val) 46
  have HB0 := hide (boxBelow w (.cells #[.string c.mod, .string c.name, .int .i64 c.val] 46))
  have qB := cellUp hB HB0.out
  have qB1 := cellUp hB1 HB0.out
  have HE : Hid (Rn.isC x y c = ((c.mod.toList == x.toList) && (c.name.toList == y.toList))) := rfl
  clear hB hB1
  cases h1 : (c.mod.toList == x.toList)
  · rw [h1] at HE
    go_enter Tryz.func17, Tryz.ntmps17
    go_wp2_with fail
    go_ret
    exact ⟨ret_bool (by rw [HE.out]; rfl), HB0.out⟩
  · rw [h1] at HE
    go_enter Tryz.func17, Tryz.ntmps17
    go_wp2_with fail
    go_ret
    exact ⟨ret_bool (by rw [HE.out]; simp), HB0.out⟩

set_option maxHeartbeats 1000000 in
set_option maxRecDepth 100000 in
theorem ixKeep_any (w : World) (v : Value) (l : List Ce) (x y : ByteArray) (B : Nat) (h : CesAt w v l) (hB : w.cell? ⟨B, 0, none⟩ = some (.string x)) (hB1 : w.cell? ⟨B, 1, none⟩ = some (.string y)) :
    Calls Tryz.prog 16 #[v, .func (.func 17) #[] #[.pointer (some ⟨B, 0, none⟩)]] w fun e w' => e = .returned (.int .i64 (Nm.oI (Rn.ceAt l x y))) ∧ Below w.heap.size w w' := by
  obtain ⟨a, b, off, cap, rfl, ha, hbig, hel⟩ := h
  have HEL := hide hel
  obtain ⟨n, hn⟩ : ∃ n, n = l.length := ⟨_, rfl⟩
  have HN := hide hn
  rw [← hn] at ha hbig ⊢
  have HA := hide ha
  have HB := hide hB
  have HB1 := hide hB1
  obtain ⟨R, hR⟩ : ∃ R, R = Nm.oI (Rn.ceAt l x y) := ⟨_, rfl⟩
  have HR := hide hR
  rw [← hR]
  clear hel ha hB hB1 hR hn
  go_enter Tryz.func16, Tryz.ntmps16
  go_wp2_with fail
  go_loopw [5, 8] (fun _ i wr => ∃ j : Nat, j ≤ n ∧ i = .int .i64 j ∧ (∀ d g, d < j → l[d]? = some g → Rn.isC x y g = false) ∧ Below w.heap.size w wr) (fun _ i _ => n - (intOf i).toNat)
  case atStart => exact ⟨0, Nat.zero_le _, rfl, fun d g hd => absurd hd (Nat.not_lt_zero _), Below.refl _ _⟩
  case round =>
    obtain ⟨j, hj, rfl, hall, hnx⟩ := hrel
    have HALL := hide hall
    have HNX := hide hnx
    clear hall
    by_cases hjl : j < n
    · obtain ⟨f, hf⟩ : ∃ f, l[j]? = some f := ⟨_, List.getElem?_eq_getElem (by have := HN.out; omega)⟩
      obtain ⟨-, g0, g1, g2⟩ := HEL.out j f hf
      obtain rfl := HA.out (by omega)
      have HF := hide hf
      replace g0 := cellUp g0 hnx
      replace g1 := cellUp g1 hnx
      replace g2 := cellUp g2 hnx
      have HC := hide (keepP_any wr B x y f (cellUp HB.out hnx) (cellUp HB1.out hnx))
      clear hf hnx
      generalize hq : Rn.isC x y f = q at HC
      have HQ := hide hq
      clear hq
      go_wp2_with fail
      refine HC.out.mono ?_
      rintro e w5 ⟨rfl, hb5⟩
      have HB5 := hide (up HNX.out hb5)
      clear hb5 g0 g1 g2
      cases q
      · go_wp2_with fail
        go_roundw
        case rel => exact ⟨j + 1, by omega, by go_num, fun d g hd hg => by
            by_cases e : d = j
            · subst e; rw [HF.out] at hg; cases hg; exact HQ.out
            · exact HALL.out d g (by omega) hg, HB5.out⟩
        case measure => simp [intOf]; omega
      · go_wp2_with fail
        go_ret
        exact ⟨by rw [HR.out, Rn.ceAt_hit HF.out HQ.out HALL.out]; rfl, HB5.out⟩
    · go_wp2_with fail
      go_ret
      exact ⟨by rw [HR.out, Rn.ceAt_none fun d g hg => HALL.out d g (by have := (List.getElem?_eq_some_iff.1 hg).1; have := HN.out; omega) hg]; rfl, HNX.out⟩


theorem wpList_append_zero {w : World} {ops : Array Oper} {rest : List Oper} {o : Oper} {a : Act} {Q : Exit → Act → World → Prop} (hgd : o.guard = none) (s x : Operand)
    (ho : o.op = .call { callee := .builtin .append, args := #[s, x], argTypes := #[37, 37] })
    (base : Nat) (v : Value) (n : Nat) (xs : List Value) (hs : a.eval s = v) (hown : w.ownsRow base 46 3 v n xs) (a2 : Option Addr) (c2 : Nat) (hx : a.eval x = .slice a2 0 c2)
    (h : wpList Tryz.prog ops Q rest (a.put o.dst v) w) : wpList Tryz.prog ops Q (o :: rest) a w := by
  obtain ⟨i, hi, _⟩ := info_parts infoCe
  refine wpList_plain hgd fun K hK => ?_
  have hrun : ∀ ty, (Builtin.append_ #[37, 37] ty #[v, .slice a2 0 c2]).run Tryz.prog w = .ok v w := fun ty => by
    rcases hown.2 with ⟨rfl, rfl⟩ | ⟨g, cap, cur, rfl, _, _, hnc, _⟩
    · cases a2 <;> simp [Builtin.append_, run_underlying Tryz.underlying37, sizeOf, typeInfo, hi, Builtin.lenOf, Builtin.firstCells, loadCells, loadCellsFrom]
    · cases a2 <;> simp [Builtin.append_, run_underlying Tryz.underlying37, sizeOf, typeInfo, hi, Builtin.lenOf, Builtin.firstCells, loadCells, loadCellsFrom, hnc, storeCells]
  unfold Oper.wp
  simp [execOp, ho, resolve, invoke, builtin, hs, hx, hrun, Result.andThen]
  exact hK _ _ h
/-- append of a list of cells to a row of the call's own. -/
theorem wpList_append_C {w : World} {ops : Array Oper} {rest : List Oper} {o : Oper} {a : Act} {Q : Exit → Act → World → Prop} (hgd : o.guard = none) (s x : Operand)
    (ho : o.op = .call { callee := .builtin .append, args := #[s, x], argTypes := #[37, 37] })
    (n : Nat) (v : Value) (l : List Ce) (hs : a.eval s = v) (hown : OwnR CeC w n 46 3 v l) (v2 : Value) (l2 : List Ce) (hx : a.eval x = v2) (hC : CesAt w v2 l2) (hl : l.length + l2.length ≤ 16777216) (hbase : n ≤ w.heap.size)
    (h : ∀ v' w', OwnR CeC w' n 46 3 v' (l ++ l2) → w.grownBy w' v.ownBlock → wpList Tryz.prog ops Q rest (a.put o.dst v') w') : wpList Tryz.prog ops Q (o :: rest) a w := by
  obtain ⟨a2, b2, off2, c2, rfl, h0, _, hel⟩ := hC
  have HO := hown
  obtain ⟨cs, hr, k1, k2, k3⟩ := hown
  cases l2 with
  | nil =>
    refine wpList_append_zero hgd s x ho n v l.length cs.flatten hs hr a2 c2 hx ?_
    exact h v w (by simpa using HO) ⟨rfl, rfl, rfl, Nat.le_refl _, fun _ _ _ => rfl⟩
  | cons y r =>
    obtain rfl := h0 (by simp)
    obtain ⟨iS, hiS, hz0, hz1, hz2⟩ := info_parts infoCe
    have hcs : ∀ (cs2 : List (List Value)), (∀ c ∈ cs2, c.length = 3) → cs2.flatten.length = cs2.length * 3 := fun cs2 hc => flat_len cs2 hc
    have b1 : ((y :: r).map fun d : Ce => [Value.string d.mod, Value.string d.name, Value.int .i64 d.val]).length = (y :: r).length := List.length_map _
    have b2' : ∀ c ∈ (y :: r).map (fun d : Ce => [Value.string d.mod, Value.string d.name, Value.int .i64 d.val]), c.length = 3 ∧ ∀ u ∈ c, u.oneCell' = true := fun c hc => by
      obtain ⟨d, _, rfl⟩ := List.mem_map.1 hc
      exact ⟨rfl, CeC.one (d := d) rfl⟩
    have b3 : ∀ (i : Nat) c z, ((y :: r).map fun d : Ce => [Value.string d.mod, Value.string d.name, Value.int .i64 d.val])[i]? = some c → (y :: r)[i]? = some z → CeC c z := fun i c z hc hz => by
      rw [List.getElem?_map, hz] at hc
      simp at hc
      exact hc.symm
    refine wpList_append_lies w hgd s x 37 ho n 46 iS _ 3 40 Tryz.underlying37 hiS hz0 hz1 hz2 (by decide) (by decide) v l.length cs.flatten hs hr ⟨b2, off2, none⟩ (y :: r).length c2 ((y :: r).map fun d : Ce => [Value.string d.mod, Value.string d.name, Value.int .i64 d.val]).flatten hx (by rw [hcs _ (fun c hc => (b2' c hc).1), b1]) (fun j u hu => ?_) (fun u hu => ?_) (by simp) (by unfold maxLen; omega)
      (Nat.le_trans (Nat.mul_le_mul_right 40 hl) (by decide)) hbase w.heap.size rfl ?_
    · have hj := (List.getElem?_eq_some_iff.1 hu).1
      rw [hcs _ (fun c hc => (b2' c hc).1), b1] at hj
      have hi : j / 3 < (y :: r).length := by omega
      obtain ⟨_, g0, g1, g2⟩ := hel (j / 3) _ (List.getElem?_eq_getElem hi)
      have hf := flat_get (k := 3) ((y :: r).map fun d : Ce => [Value.string d.mod, Value.string d.name, Value.int .i64 d.val]) (j / 3) (j % 3) (by rw [b1]; exact hi) (fun c hc => (b2' c hc).1) (Nat.mod_lt _ (by decide))
      rw [show j / 3 * 3 + j % 3 = j by omega, hu] at hf
      rw [List.getElem_map] at hf
      rw [Addr.add_lit]
      have hm : j % 3 = 0 ∨ j % 3 = 1 ∨ j % 3 = 2 := by omega
      rcases hm with hm | hm | hm
      · rw [hm] at hf
        simp at hf
        rw [hf, show off2 + j = off2 + j / 3 * 3 by omega]
        exact g0
      · rw [hm] at hf
        simp at hf
        rw [hf, show off2 + j = off2 + j / 3 * 3 + 1 by omega]
        exact g1
      · rw [hm] at hf
        simp at hf
        rw [hf, show off2 + j = off2 + j / 3 * 3 + 2 by omega]
        exact g2
    · obtain ⟨c, hc, hu'⟩ := List.mem_flatten.1 hu
      exact (b2' c hc).2 u hu'
    · intro g cap w' h1' h2 _ _
      exact h _ w' (OwnK.cat ⟨k1, k2, k3⟩ ⟨b1, b2', b3⟩ (by simp) h1').toR h2
theorem OwnR.formR {α : Type} {At : List Value → α → Prop} {w : World} {n e k : Nat} {v : Value} {l : List α} (h : OwnR At w n e k v l) : ∃ a c, v = .slice a l.length c := by
  obtain ⟨_, h, _⟩ := h
  rcases h.2 with ⟨h1, h2⟩ | ⟨g, cap, cur, h1, _⟩
  · exact ⟨none, 0, by rw [h1, h2]⟩
  · exact ⟨_, _, h1⟩
theorem OwnR.ces {w : World} {n : Nat} {v : Value} {l : List Ce} (h : OwnR CeC w n 46 3 v l) (hI : ∀ c ∈ l, I64 c.val) (hl : l.length ≤ 16777216) : CesAt w v l := by
  obtain ⟨cs, h1, h2, h3, h4⟩ := h
  rcases h1.2 with ⟨rfl, h0⟩ | ⟨g, cap, cur, rfl, _⟩
  · have : l = [] := List.length_eq_zero_iff.1 (by omega)
    subst this
    exact ⟨none, 0, 0, 0, rfl, fun h => absurd h (by simp), by simp, fun i x hx => absurd hx (by simp)⟩
  · refine ⟨_, g, 0, cap, rfl, fun _ => rfl, by omega, fun i x hx => ?_⟩
    have hi : i < cs.length := by have := (List.getElem?_eq_some_iff.1 hx).1; omega
    have hat := h4 i _ x (List.getElem?_eq_getElem hi) hx
    have hcell : ∀ j, j < 3 → w.cell? ⟨g, i * 3 + j, none⟩ = (cs[i])[j]? := fun j hj => by
      rw [World.ownsRow.cellAt h1 _ (by omega)]
      exact flat_get cs i j hi (fun c hc => (h3 c hc).1) hj
    unfold CeC at hat
    rw [hat] at hcell
    rw [Nat.zero_add]
    exact ⟨hI x (List.mem_of_getElem? hx), hcell 0 (by decide), hcell 1 (by decide), hcell 2 (by decide)⟩

set_option maxHeartbeats 2000000 in
set_option maxRecDepth 100000 in
theorem cloneC_any (w : World) (v : Value) (l : List Ce) (h : CesAt w v l) (hl : l.length ≤ 1048576) :
    Calls Tryz.prog 19 #[v] w fun e w' => ∃ v', e = .returned v' ∧ OwnR CeC w' w.heap.size 46 3 v' l ∧ Below w.heap.size w w' := by
  have HC := hide h
  obtain ⟨a, b, off, cap, rfl, h0, -, -⟩ := h
  cases a with
  | none =>
    have hz : l = [] := by
      cases l with
      | nil => rfl
      | cons y r => exact absurd (h0 (by simp)) (by simp)
    subst hz
    clear h0
    have hnil : ∀ w c, (binOp .eql 37 (.slice none 0 c) (.slice none 0 0)).run Tryz.prog w = .ok (.bool true) w := fun w c => Lib.run_eql_slice_nil w 37 46 none 0 c 0 0 Tryz.underlying37
    go_enter Tryz.func19, Tryz.ntmps19
    go_wp2_with fail
    go_ret
    exact ⟨_, rfl, (OwnK.nil _ _ _ _).toR, Below.refl _ _⟩
  | some ad =>
    clear h0
    obtain ⟨nl, hnl⟩ : ∃ n, n = l.length := ⟨_, rfl⟩
    rw [← hnl] at HC ⊢
    have HNL := hide hnl
    have HL := hide hl
    clear hnl hl
    have hnil : ∀ w n c, (binOp .eql 37 (.slice (some ad) n c) (.slice none 0 0)).run Tryz.prog w = .ok (.bool false) w := fun w n c => Lib.run_eql_slice_nil w 37 46 (some ad) n c 0 0 Tryz.underlying37
    have HBX := hide (boxBelow w (.cells #[] 46))
    have HOW : Hid (OwnR CeC (w.alloc (.cells #[] 46)) w.heap.size 46 3 (.slice (some ⟨w.heap.size, 0, none⟩) 0 0) []) := hide ⟨[], World.ownsRow_lit w #[] 0 (Nat.le_refl _) (by decide) rfl, rfl, fun c hc => absurd hc (by simp), fun i c y hc => absurd hc (by simp)⟩
    go_enter Tryz.func19, Tryz.ntmps19
    go_wp2_with (first
      | (at_builtin; refine wpList_append_C rfl _ _ rfl w.heap.size _ [] rfl HOW.out _ l rfl (HC.out.below HBX.out) (by have := HL.out; simp; omega) HBX.out.size ?_; intro v7 w7 hown7 hgrow7; have HO7 := hide hown7; have HB7 := hide (Below.grown HBX.out hgrow7 HBX.out.size (fun k e => by have := (HOW.out.lt k e).1; omega)); clear hown7 hgrow7)
      | fail)
    go_ret
    exact ⟨_, rfl, by simpa using HO7.out, HB7.out⟩

namespace Rn
theorem run_err {g m : Nat} {l : List Mo} {mod fn : ByteArray} {args : List Int} {store : List Ce} {f : Int} (h : (run g m l mod fn args store f).err ≠ 0) : (run g m l mod fn args store f).sto = [] ∧ (run g m l mod fn args store f).pr = [] := by
  unfold run at h ⊢
  split
  · exact ⟨rfl, rfl⟩
  · rename_i h0
    rw [if_neg h0] at h
    split
    · exact ⟨rfl, rfl⟩
    · rename_i h1
      rw [if_neg h1] at h
      cases hk : fnd l mod fn with
      | none => exact ⟨rfl, rfl⟩
      | some p =>
        obtain ⟨a, k⟩ := p
        rw [hk] at h
        simp only at h ⊢
        unfold out at h ⊢
        split
        · rename_i h2
          rw [if_pos h2] at h
          exact absurd rfl h
        · exact ⟨rfl, rfl⟩
theorem run_mos {g m : Nat} {l : List Mo} {mod fn : ByteArray} {args : List Int} {store : List Ce} {f : Int} (h : (run g m l mod fn args store f).err = 0) : mosR m l = 0 := by
  unfold run at h
  by_cases h0 : mosR m l = 0
  · exact h0
  · rw [if_pos h0] at h
    exact absurd h h0
theorem run_len {g m : Nat} {l : List Mo} {mod fn : ByteArray} {args : List Int} {store : List Ce} {f : Int} : (run g m l mod fn args store f).sto.length ≤ 48 := by
  by_cases h : (run g m l mod fn args store f).err = 0
  · obtain ⟨h6, hok⟩ := mosR_ok (run_mos h)
    obtain ⟨x, _, h2, _⟩ := run_ok h
    rw [h2]
    have h8 := mkTo_len (store := store) (l := l) (fun y hy => (moE_facts (hok y hy)).1) l.length
    simp only
    unfold sto
    rw [List.length_map, List.length_zip]
    omega
  · rw [(run_err h).1]
    simp
theorem run_names {g m : Nat} {l : List Mo} {mod fn : ByteArray} {args : List Int} {store : List Ce} {f : Int} (h : (run g m l mod fn args store f).err = 0) {c : Ce} (hc : c ∈ (run g m l mod fn args store f).sto) : c.mod.size ≤ 8 ∧ c.name.size ≤ 8 := by
  obtain ⟨h6, hok⟩ := mosR_ok (run_mos h)
  obtain ⟨x, _, h2, _⟩ := run_ok h
  rw [h2] at hc
  simp only at hc
  unfold sto at hc
  obtain ⟨⟨z, u⟩, hp, rfl⟩ := List.mem_map.1 hc
  exact mkTo_small hok (List.of_mem_zip hp).1
end Rn
theorem indexI_mem {ss : List ByteArray} {t : ByteArray} (h : t ∈ ss) : decide (0 ≤ Lat.indexI ss t) = true := by
  unfold Lat.indexI
  cases hf : (List.range ss.length).find? (Lat.isAt ss t) with
  | some i => simp
  | none =>
    exfalso
    rw [List.find?_eq_none] at hf
    obtain ⟨i, hi, rfl⟩ := List.mem_iff_getElem.1 h
    have := hf i (by simpa using hi)
    apply this
    unfold Lat.isAt
    rw [List.getD_eq_getElem?_getD, List.getElem?_eq_getElem hi, Option.getD_some]
    simp

end Go.Proofs.YtbncnkfogkhoeabGreatDoor
