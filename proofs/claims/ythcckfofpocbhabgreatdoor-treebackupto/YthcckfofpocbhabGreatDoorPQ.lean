/- Walks over package parse: item, module. -/
import Derived.Test.YthcckfofpocbhabGreatDoorPP
namespace Go.Proofs.YthcckfofpocbhabGreatDoor
open Go.RowKit

theorem frozen_alloc {w : World} {q i : Nat} (h : w.frozen? ⟨q, i, none⟩ = false) (hq : q < w.heap.size) {o : Obj} : (w.alloc o).frozen? ⟨q, i, none⟩ = false := by
  rw [World.frozen?_of_block (w := w) ((boxBelow w o).block q hq)]; exact h
theorem frozen_keep {w w' : World} {r : Option Nat} {q i : Nat} (hg : w.grownBy w' r) (hq : q < w.heap.size) (hr : some q ≠ r) (h : w.frozen? ⟨q, i, none⟩ = false) : w'.frozen? ⟨q, i, none⟩ = false := by
  rw [World.frozen?_of_block (w := w) (hg.block q hq hr)]; exact h
/-- What was made behind w0 isn't in rows that were there. -/
theorem fu_new {n : Nat} {w0 w1 : World} {vi vv vf : Value} {M : Nat} {c : List Value} {f : Fu} (h : n ≤ w0.heap.size) (hi : ∀ k, vi.ownBlock = some k → k < w0.heap.size) (hv : ∀ k, vv.ownBlock = some k → k < w0.heap.size) (hf : ∀ k, vf.ownBlock = some k → k < w0.heap.size)
    (hx : FuL M (fr w0 w1) c f) : FuH vi vv M (only (fun b => decide (n ≤ b) && decide (vf.ownBlock ≠ some b)) w1) c f :=
  FuL.sub (fun a u hu => by
    obtain ⟨h1, h2⟩ := only_cell.1 (row_new (v := vf) h hf a u hu)
    have hle := of_decide_eq_true (only_cell.1 hu).1
    refine only_cell.2 ⟨?_, only_cell.2 ⟨h1, h2⟩⟩
    unfold seen
    exact Bool.and_eq_true_iff.2 ⟨decide_eq_true (fun e => by have := hi _ e; omega), decide_eq_true (fun e => by have := hv _ e; omega)⟩) hx

set_option maxHeartbeats 4000000 in
set_option maxRecDepth 100000 in
theorem item_any (K n q : Nat) (w : World) (p : Nat) (ws : List ByteArray) (ps : List Int) (d : Nat) (st : Rd.Sr) (h : RdAt w p ws ps d st) (m : Mo) (vi vv vf : Value) (hM : MdV w n q (K + 1 + K + 1) m vi vv vf) (hpq : p < q) (hqn : q < n) (hn : n ≤ w.heap.size)
    (hK : Rd.Ok K st) (hd : DOk d st) (hd2 : d ≤ 28) (hl1 : m.imports.length ≤ 8000) (hl2 : m.vars.length ≤ 8000) (hl3 : m.funs.length ≤ 8000) :
    Calls Tryz.prog 37 #[.pointer (some ⟨p, 0, none⟩), .pointer (some ⟨q, 0, none⟩)] w fun e w' => ∃ vi' vv' vf', e = .returned (.tuple #[]) ∧ MdV w' n q (K + 1 + K + 1) (Rd.pI K d m st).1 vi' vv' vf' ∧ RdAt w' p ws ps d (Rd.pI K d m st).2 ∧ But2 p q n w w' := by
  have HPI : Hid (Rd.pI K d m st = if Rd.is (Rd.pk (Rd.op d st)) [105, 109, 112, 111, 114, 116] then ({ m with imports := m.imports ++ [(Rd.nmP (Rd.tk (Rd.op d st))).1] }, Rd.sh (Rd.nmP (Rd.tk (Rd.op d st))).2)
      else if Rd.is (Rd.pk (Rd.op d st)) [118, 97, 114] then ({ m with vars := m.vars ++ [(Rd.pV (Rd.tk (Rd.op d st))).1] }, Rd.sh (Rd.pV (Rd.tk (Rd.op d st))).2)
      else if Rd.is (Rd.pk (Rd.op d st)) [102, 117, 110] then ({ m with funs := m.funs ++ [(Rd.pF K (d + 1) (Rd.tk (Rd.op d st))).1] }, Rd.sh (Rd.pF K (d + 1) (Rd.tk (Rd.op d st))).2)
      else (m, Rd.sh (Rd.fl (Rd.op d st)))) := rfl
  have HM0 := hide hM
  obtain ⟨rc, hrc⟩ := h.block
  have HRB0 := hide hrc
  have HLE := hide (Rd.op_lt d st).1
  have hK1 := hK.le HLE.out
  have hd1 := hd.op (by omega)
  clear hM hrc hK hd
  go_enter Tryz.func37, Tryz.ntmps37
  go_wp2_with fail
  refine (open_any w p ws ps d st h (by omega)).mono ?_
  rintro e w1 ⟨rfl, h1, hb1⟩
  have HB1 := hide hb1
  clear hb1 h
  generalize Rd.op d st = s1 at *
  go_wp2_with fail
  refine (peek_any w1 p ws ps _ _ h1).mono ?_
  rintro e w2 ⟨rfl, h2, hb2⟩
  have HB2 := hide (HB1.out.trans hb2)
  have HR2 := hide h2
  clear hb2 HB1 h1 h2
  obtain ⟨x, hx⟩ : ∃ x, x = Rd.pk s1 := ⟨_, rfl⟩
  rw [← hx] at HPI ⊢
  clear hx
  by_cases c1 : x.toList = [105, 109, 112, 111, 114, 116]
  · rw [is_t c1, if_pos rfl] at HPI
    go_wp2_with fail
    refine (take_any _ p ws ps _ _ HR2.out).mono ?_
    rintro e w4 ⟨rfl, h4, hb4⟩
    have HR4 := hide h4
    have HNX := hide (HB2.out.trans hb4)
    have HM4 := hide (HM0.out.but HRB0.out (by omega) (by omega) HNX.out)
    obtain ⟨rc4, hrc4⟩ := h4.block
    have HRB4 := hide hrc4
    have hsz4 := HNX.out.size
    have hK4 := hK1.le (Rd.tk_lt s1).1
    have hd4 := hd1.le (Rd.tk_lt s1).1
    clear h4 hb4 HR2 HB2 hrc4 HM0 HRB0
    obtain ⟨u3, z3⟩ := HM4.out.cell (i := 1) rfl
    go_wp2_with fail
    go_region_law (first
      | (go_simp; go_at_call 35; refine (name_any' _ p ws ps (d + 1) _ (by repeat (first | exact HR4.out | apply RdAt.drew1))).mono ?_; rintro e w6 ⟨rfl, hR6, hb6⟩; have HSZ := hide (nm_size HR4.out); have HB6 : Hid (But p w4 w6) := hide ((by repeat (first | exact But.refl _ _ | apply But.drew1) : But p w4 _).trans hb6); have HM6 := hide (HM4.out.but HRB4.out (by omega) (by omega) HB6.out); have HR6 := hide hR6; obtain ⟨u36, z36⟩ := HM6.out.cell (i := 1) rfl; have hz6 : q < w6.heap.size := (by have := HB6.out.size; omega); have hsz6 : n ≤ w6.heap.size := (by have := HB6.out.size; omega); clear hR6 hb6; dsimp only)
      | (refine step_append_G strMono (by rfl) _ _ 22 9 1 16 _ (by rfl) Tryz.underlying22 infoStr (by decide) (by decide) (by decide) n _ _ (by rfl) (HM6.out.below (boxBelow _ _)).2.2.1 _ _ (Rd.nmP (Rd.tk s1)).1 (by rfl) (cell1 _ _ _) rfl (StrL.one (w := w) ⟨rfl, HSZ.out⟩) ⟨rfl, HSZ.out⟩ (by omega) (by simp; omega) ?_; intro g cap w7 hown7 hgrow7 hat7; have HM7 := hide ((HM6.out.below (boxBelow _ _)).pushI hqn hown7 hgrow7 hat7); have HR7 := hide ((HR6.out.below (boxBelow _ _)).grown hgrow7 (fun k hk => by have := (HM6.out.2.2.1.lt k hk).1; omega)); have HB7 := hide (((But2.of_but (q := q) (HNX.out.trans (HB6.out.alloc _)) hn).grown hgrow7 (by simp; omega) (fun k hk => (HM6.out.2.2.1.lt k hk).1))); have hq7 : w7.cell? ⟨q, 1, none⟩ = _ := (hgrow7.cell (cellUp u36 (boxBelow _ _)) (fun e => by have := (HM6.out.2.2.1.lt q e.symm).1; omega)); have hz7 : w7.frozen? ⟨q, 1, none⟩ = false := (by have e1 := hgrow7.frozen_far (a := ⟨q, 1, none⟩); exact frozen_keep hgrow7 (by simp; omega) (fun e => by have := (HM6.out.2.2.1.lt q e.symm).1; omega) (frozen_alloc z36 hz6)); clear hown7 hgrow7 hat7)
      | fail)
    all_goals
      have HR8 := hide (HR7.out.set (a := ⟨q, 1, none⟩) (by simpa using hpq) (.slice (some ⟨g, 0, none⟩) (m.imports.length + 1) cap))
      have HB8 := hide (HB7.out.set 1 (.slice (some ⟨g, 0, none⟩) (m.imports.length + 1) cap))
      clear HM6 HR6 HR7 HB7 u36 z36 hz6 hsz6
      go_wp2_with fail
      clear hq7 hz7
      generalize w7.setCell ⟨q, 1, none⟩ (.slice (some ⟨g, 0, none⟩) (m.imports.length + 1) cap) = W8 at *
      refine (shut_any W8 p ws ps d _ HR8.out (by omega)).mono ?_
      rintro e w9 ⟨rfl, hR9, hb9⟩
      obtain ⟨rc8, hrc8⟩ := HR8.out.block
      have HM9 := hide (HM7.out.but hrc8 (by omega) (by omega) hb9)
      have HB9 := hide (HB8.out.trans (But2.of_but (q := q) hb9 (by have := HB8.out.size; omega)))
      clear hrc8 hb9
      go_wp2
      go_end0
      exact ⟨_, _, _, rfl, by rw [HPI.out]; exact HM9.out, by rw [HPI.out]; exact hR9, HB9.out⟩
  rw [is_f c1, if_neg (by simp)] at HPI
  have b1 := beq_f c1
  by_cases c2 : x.toList = [118, 97, 114]
  · rw [is_t c2, if_pos rfl] at HPI
    go_wp2_with fail
    refine (take_any _ p ws ps _ _ HR2.out).mono ?_
    rintro e w4 ⟨rfl, h4, hb4⟩
    have HR4 := hide h4
    have HNX := hide (HB2.out.trans hb4)
    have HM4 := hide (HM0.out.but HRB0.out (by omega) (by omega) HNX.out)
    obtain ⟨rc4, hrc4⟩ := h4.block
    have HRB4 := hide hrc4
    have hsz4 := HNX.out.size
    have hK4 := hK1.le (Rd.tk_lt s1).1
    have hd4 := hd1.le (Rd.tk_lt s1).1
    clear h4 hb4 HR2 HB2 hrc4 HM0 HRB0
    obtain ⟨u3, z3⟩ := HM4.out.cell (i := 2) rfl
    go_wp2_with fail
    go_region_law (first
      | (go_simp; go_at_call 56; refine (variable_any _ p ws ps (d + 1) _ (by repeat (first | exact HR4.out | apply RdAt.drew1))).mono ?_; rintro e w6 ⟨rfl, hs1, hs2, hR6, hb6⟩; have HSZ := hide (And.intro hs1 hs2); clear hs1 hs2; have HB6 : Hid (But p w4 w6) := hide ((by repeat (first | exact But.refl _ _ | apply But.drew1) : But p w4 _).trans hb6); have HM6 := hide (HM4.out.but HRB4.out (by omega) (by omega) HB6.out); have HR6 := hide hR6; obtain ⟨u36, z36⟩ := HM6.out.cell (i := 2) rfl; have hz6 : q < w6.heap.size := (by have := HB6.out.size; omega); have hsz6 : n ≤ w6.heap.size := (by have := HB6.out.size; omega); clear hR6 hb6; dsimp only)
      | (refine step_append_G vaMono (by rfl) _ _ 23 47 2 32 _ (by rfl) Tryz.underlying23 infoVa (by decide) (by decide) (by decide) n _ _ (by rfl) (HM6.out.below (boxBelow _ _)).2.2.2.1 _ _ (Rd.pV (Rd.tk s1)).1 (by rfl) (cells2 _ _ _ _) rfl (VaL.one (w := w) ⟨rfl, HSZ.out⟩) ⟨rfl, HSZ.out⟩ (by omega) (by simp; omega) ?_; intro g cap w7 hown7 hgrow7 hat7; have HM7 := hide ((HM6.out.below (boxBelow _ _)).pushV hqn hown7 hgrow7 hat7); have HR7 := hide ((HR6.out.below (boxBelow _ _)).grown hgrow7 (fun k hk => by have := (HM6.out.2.2.2.1.lt k hk).1; omega)); have HB7 := hide (((But2.of_but (q := q) (HNX.out.trans (HB6.out.alloc _)) hn).grown hgrow7 (by simp; omega) (fun k hk => (HM6.out.2.2.2.1.lt k hk).1))); have hq7 : w7.cell? ⟨q, 2, none⟩ = _ := (hgrow7.cell (cellUp u36 (boxBelow _ _)) (fun e => by have := (HM6.out.2.2.2.1.lt q e.symm).1; omega)); have hz7 : w7.frozen? ⟨q, 2, none⟩ = false := (by have e1 := hgrow7.frozen_far (a := ⟨q, 2, none⟩); exact frozen_keep hgrow7 (by simp; omega) (fun e => by have := (HM6.out.2.2.2.1.lt q e.symm).1; omega) (frozen_alloc z36 hz6)); clear hown7 hgrow7 hat7)
      | fail)
    all_goals
      have HR8 := hide (HR7.out.set (a := ⟨q, 2, none⟩) (by simpa using hpq) (.slice (some ⟨g, 0, none⟩) (m.vars.length + 1) cap))
      have HB8 := hide (HB7.out.set 2 (.slice (some ⟨g, 0, none⟩) (m.vars.length + 1) cap))
      clear HM6 HR6 HR7 HB7 u36 z36 hz6 hsz6
      go_wp2_with fail
      clear hq7 hz7
      generalize w7.setCell ⟨q, 2, none⟩ (.slice (some ⟨g, 0, none⟩) (m.vars.length + 1) cap) = W8 at *
      refine (shut_any W8 p ws ps d _ HR8.out (by omega)).mono ?_
      rintro e w9 ⟨rfl, hR9, hb9⟩
      obtain ⟨rc8, hrc8⟩ := HR8.out.block
      have HM9 := hide (HM7.out.but hrc8 (by omega) (by omega) hb9)
      have HB9 := hide (HB8.out.trans (But2.of_but (q := q) hb9 (by have := HB8.out.size; omega)))
      clear hrc8 hb9
      go_wp2
      go_end0
      exact ⟨_, _, _, rfl, by rw [HPI.out]; exact HM9.out, by rw [HPI.out]; exact hR9, HB9.out⟩
  rw [is_f c2, if_neg (by simp)] at HPI
  have b2 := beq_f c2
  by_cases c3 : x.toList = [102, 117, 110]
  · rw [is_t c3, if_pos rfl] at HPI
    go_wp2_with fail
    refine (take_any _ p ws ps _ _ HR2.out).mono ?_
    rintro e w4 ⟨rfl, h4, hb4⟩
    have HR4 := hide h4
    have HNX := hide (HB2.out.trans hb4)
    have HM4 := hide (HM0.out.but HRB0.out (by omega) (by omega) HNX.out)
    obtain ⟨rc4, hrc4⟩ := h4.block
    have HRB4 := hide hrc4
    have hsz4 := HNX.out.size
    have hK4 := hK1.le (Rd.tk_lt s1).1
    have hd4 := hd1.le (Rd.tk_lt s1).1
    clear h4 hb4 HR2 HB2 hrc4 HM0 HRB0
    obtain ⟨u3, z3⟩ := HM4.out.cell (i := 3) rfl
    go_wp2_with fail
    go_region_law (first
      | (go_simp; go_at_call 57; refine (fun_any K _ p ws ps (d + 1) _ (by repeat (first | exact HR4.out | apply RdAt.drew1)) hK4 hd4 (by omega)).mono ?_; rintro e w6 ⟨c0, c1, c2, c3, c4, c5, c6, rfl, hx6, hR6, hb6⟩; have HONE := hide hx6.one; obtain ⟨ap, cp, ab, cb, ax, cx, hsh⟩ := hx6.shape; simp only [List.cons.injEq, and_true] at hsh; obtain ⟨rfl, rfl, rfl, rfl, rfl, rfl, rfl⟩ := hsh; have HX6 := hide hx6; clear hx6; have HB6 : Hid (But p w4 w6) := hide ((by repeat (first | exact But.refl _ _ | apply But.drew1) : But p w4 _).trans hb6); have HM6 := hide (HM4.out.but HRB4.out (by omega) (by omega) HB6.out); have HR6 := hide hR6; obtain ⟨u36, z36⟩ := HM6.out.cell (i := 3) rfl; have hz6 : q < w6.heap.size := (by have := HB6.out.size; omega); have hsz6 : n ≤ w6.heap.size := (by have := HB6.out.size; omega); clear hR6 hb6; dsimp only)
      | (refine step_append_G (fuMono _ _ _) (by rfl) _ _ 24 54 7 120 _ (by rfl) Tryz.underlying24 infoFu (by decide) (by decide) (by decide) n _ _ (by rfl) (HM6.out.below (boxBelow _ _)).2.2.2.2 _ _ (Rd.pF K (d + 1) (Rd.tk s1)).1 (by rfl) (cells7 _ _ _ _ _ _ _ _ _) rfl HONE.out (fuMono _ _ _ _ _ _ _ (only_alloc _ _ _) (fu_new (w0 := w4) (by omega) (fun k hk => (HM4.out.2.2.1.lt k hk).2) (fun k hk => (HM4.out.2.2.2.1.lt k hk).2) (fun k hk => (HM4.out.2.2.2.2.lt k hk).2) HX6.out)) (by omega) (by simp; omega) ?_; intro g cap w7 hown7 hgrow7 hat7; have HM7 := hide ((HM6.out.below (boxBelow _ _)).pushF hqn hown7 hgrow7); have HR7 := hide ((HR6.out.below (boxBelow _ _)).grown hgrow7 (fun k hk => by have := (HM6.out.2.2.2.2.lt k hk).1; omega)); have HB7 := hide (((But2.of_but (q := q) (HNX.out.trans (HB6.out.alloc _)) hn).grown hgrow7 (by simp; omega) (fun k hk => (HM6.out.2.2.2.2.lt k hk).1))); have hq7 : w7.cell? ⟨q, 3, none⟩ = _ := (hgrow7.cell (cellUp u36 (boxBelow _ _)) (fun e => by have := (HM6.out.2.2.2.2.lt q e.symm).1; omega)); have hz7 : w7.frozen? ⟨q, 3, none⟩ = false := (by have e1 := hgrow7.frozen_far (a := ⟨q, 3, none⟩); exact frozen_keep hgrow7 (by simp; omega) (fun e => by have := (HM6.out.2.2.2.2.lt q e.symm).1; omega) (frozen_alloc z36 hz6)); clear hown7 hgrow7 hat7)
      | fail)
    all_goals
      have HR8 := hide (HR7.out.set (a := ⟨q, 3, none⟩) (by simpa using hpq) (.slice (some ⟨g, 0, none⟩) (m.funs.length + 1) cap))
      have HB8 := hide (HB7.out.set 3 (.slice (some ⟨g, 0, none⟩) (m.funs.length + 1) cap))
      clear HM6 HR6 HR7 HB7 u36 z36 hz6 hsz6
      go_wp2_with fail
      clear hq7 hz7
      generalize w7.setCell ⟨q, 3, none⟩ (.slice (some ⟨g, 0, none⟩) (m.funs.length + 1) cap) = W8 at *
      refine (shut_any W8 p ws ps d _ HR8.out (by omega)).mono ?_
      rintro e w9 ⟨rfl, hR9, hb9⟩
      obtain ⟨rc8, hrc8⟩ := HR8.out.block
      have HM9 := hide (HM7.out.but hrc8 (by omega) (by omega) hb9)
      have HB9 := hide (HB8.out.trans (But2.of_but (q := q) hb9 (by have := HB8.out.size; omega)))
      clear hrc8 hb9
      go_wp2
      go_end0
      exact ⟨_, _, _, rfl, by rw [HPI.out]; exact HM9.out, by rw [HPI.out]; exact hR9, HB9.out⟩
  · rw [is_f c3, if_neg (by simp)] at HPI
    have b3 := beq_f c3
    go_wp2_with fail
    refine (fail_any _ p ws ps _ _ HR2.out).mono ?_
    rintro e w4 ⟨rfl, h4, hb4⟩
    have HR4 := hide h4
    have HNX := hide (HB2.out.trans hb4)
    clear h4 hb4 HR2 HB2
    go_wp2_with fail
    refine (shut_any _ p ws ps d _ HR4.out (by omega)).mono ?_
    rintro e w9 ⟨rfl, hR9, hb9⟩
    have HNX9 := hide (HNX.out.trans hb9)
    have HM9 := hide (HM0.out.but HRB0.out (by omega) (by omega) HNX9.out)
    clear hb9
    go_wp2
    go_end0
    exact ⟨_, _, _, rfl, by rw [HPI.out]; exact HM9.out, by rw [HPI.out]; exact hR9, But2.of_but HNX9.out hn⟩

end Go.Proofs.YthcckfofpocbhabGreatDoor
