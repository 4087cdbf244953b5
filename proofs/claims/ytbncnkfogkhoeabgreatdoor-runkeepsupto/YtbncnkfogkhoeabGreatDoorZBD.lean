/- Walks over package parse: item, module. -/
import Derived.Test.YtbncnkfogkhoeabGreatDoorZBC
namespace Go.Proofs.YtbncnkfogkhoeabGreatDoor
open Go.RowKit

theorem frozen_alloc {w : World} {q i : Nat} (h : w.frozen? ⟨q, i, none⟩ = false) (hq : q < w.heap.size) {o : Obj} : (w.alloc o).frozen? ⟨q, i, none⟩ = false := by
  rw [World.frozen?_of_block (w := w) ((boxBelow w o).block q hq)]; exact h
theorem frozen_keep {w w' : World} {r : Option Nat} {q i : Nat} (hg : w.grownBy w' r) (hq : q < w.heap.size) (hr : some q ≠ r) (h : w.frozen? ⟨q, i, none⟩ = false) : w'.frozen? ⟨q, i, none⟩ = false := by
  rw [World.frozen?_of_block (w := w) (hg.block q hq hr)]; exact h
/-- What was made behind w0 isn't in rows that were there. -/
theorem fu_new {n : Nat} {w0 w1 : World} {vi vv vf : Value} {M : Nat} {c : List Value} {f : Fu} (h : n ≤ w0.heap.size) (hi : ∀ k, vi.ownBlock = some k → k < w0.heap.size) (hv : ∀ k, vv.ownBlock = some k → k < w0.heap.size) (hf : ∀ k, vf.ownBlock = some k → k < w0.heap.size)
    (hx : FuL M (fr w0 w1) c f) : FuH vi vv M (only (fun b => decide (n ≤ b) && decide (vf.ownBlock ≠ some b)) w1) c f :=
  FuL.sub (fun a u hu => by
    obtain ⟨h1, h2⟩ := only_cell.1 (row_new (v := vf) h hf a u hu)
    have hle := of_decide_eq_true (only_cell.1 hu).1
    refine only_cell.2 ⟨?_, only_cell.2 ⟨h1, h2⟩⟩
    unfold seen
    exact Bool.and_eq_true_iff.2 ⟨decide_eq_true (fun e => by have := hi _ e; omega), decide_eq_true (fun e => by have := hv _ e; omega)⟩) hx

set_option maxHeartbeats 4000000 in
set_option maxRecDepth 100000 in
theorem item_any (K n q : Nat) (w : World) (p : Nat) (ws : List ByteArray) (ps : List Int) (d : Nat) (st : Rd.Sr) (h : RdAt w p ws ps d st) (m : Mo) (vi vv vf : Value) (hM : MdV w n q (K + 1 + K + 1) m vi vv vf) (hpq : p < q) (hqn : q < n) (hn : n ≤ w.heap.size)
    (hK : Rd.Ok K st) (hd : DOk d st) (hd2 : d ≤ 28) (hl1 : m.imports.length ≤ 8000) (hl2 : m.vars.length ≤ 8000) (hl3 : m.funs.length ≤ 8000) :
    Calls Tryz.prog 54 #[.pointer (some ⟨p, 0, none⟩), .pointer (some ⟨q, 0, none⟩)] w fun e w' => ∃ vi' vv' vf', e = .returned (.tuple #[]) ∧ MdV w' n q (K + 1 + K + 1) (Rd.pI K d m st).1 vi' vv' vf' ∧ RdAt w' p ws ps d (Rd.pI K d m st).2 ∧ But2 p q n w w' := by
  have HPI : Hid (Rd.pI K d m st = if Rd.is (Rd.pk (Rd.op d st)) [105, 109, 112, 111, 114, 116] then ({ m with imports := m.imports ++ [(Rd.nmP (Rd.tk (Rd.op d st))).1] }, Rd.sh (Rd.nmP (Rd.tk (Rd.op d st))).2)
      else if Rd.is (Rd.pk (Rd.op d st)) [118, 97, 114] then ({ m with vars := m.vars ++ [(Rd.pV (Rd.tk (Rd.op d st))).1] }, Rd.sh (Rd.pV (Rd.tk (Rd.op d st))).2)
      else if Rd.is (Rd.pk (Rd.op d st)) [102, 117, 110] then ({ m with funs := m.funs ++ [(Rd.pF K (d + 1) (Rd.tk (Rd.op d st))).1] }, Rd.sh (Rd.pF K (d + 1) (Rd.tk (Rd.op d st))).2)
      else (m, Rd.sh (Rd.fl (Rd.op d st)))) := rfl
  have HM0 := hide hM
  obtain ⟨rc, hrc⟩ := h.block
  have HRB0 := hide hrc
  have HLE := hide (Rd.op_lt d st).1
  have hK1 := hK.le HLE.out
  have hd1 := hd.op (by omega)
  clear hM hrc hK hd
  go_enter Tryz.func54, Tryz.ntmps54
  go_wp2_with fail
  refine (open_any w p ws ps d st h (by omega)).mono ?_
  rintro e w1 ⟨rfl, h1, hb1⟩
  have HB1 := hide hb1
  clear hb1 h
  generalize Rd.op d st = s1 at *
  go_wp2_with fail
  refine (peek_any w1 p ws ps _ _ h1).mono ?_
  rintro e w2 ⟨rfl, h2, hb2⟩
  have HB2 := hide (HB1.out.trans hb2)
  have HR2 := hide h2
  clear hb2 HB1 h1 h2
  obtain ⟨x, hx⟩ : ∃ x, x = Rd.pk s1 := ⟨_, rfl⟩
  rw [← hx] at HPI ⊢
  clear hx
  by_cases c1 : x.toList = [105, 109, 112, 111, 114, 116]
  · rw [is_t c1, if_pos rfl] at HPI
    go_wp2_with fail
    refine (take_any _ p ws ps _ _ HR2.out).mono ?_
    rintro e w4 ⟨rfl, h4, hb4⟩
    have HR4 := hide h4
    have HNX := hide (HB2.out.trans hb4)
    have HM4 := hide (HM0.out.but HRB0.out (by omega) (by omega) HNX.out)
    obtain ⟨rc4, hrc4⟩ := h4.block
    have HRB4 := hide hrc4
    have hsz4 := HNX.out.size
    have hK4 := hK1.le (Rd.tk_lt s1).1
    have hd4 := hd1.le (Rd.tk_lt s1).1
    clear h4 hb4 HR2 HB2 hrc4 HM0 HRB0
    obtain ⟨u3, z3⟩ := HM4.out.cell (i := 1) rfl
    go_wp2_with fail
    go_region_law (first
      | (go_simp; go_at_call 52; refine (name_any' _ p ws ps (d + 1) _ (by repeat (first | exact HR4.out | apply RdAt.drew1))).mono ?_; rintro e w6 ⟨rfl, hR6, hb6⟩; have HSZ := hide (nm_size HR4.out); have HB6 : Hid (But p w4 w6) := hide ((by repeat (first | exact But.refl _ _ | apply But.drew1) : But p w4 _).trans hb6); have HM6 := hide (HM4.out.but HRB4.out (by omega) (by omega) HB6.out); have HR6 := hide hR6; obtain ⟨u36, z36⟩ := HM6.out.cell (i := 1) rfl; have hz6 : q < w6.heap.size := (by have := HB6.out.size; omega); have hsz6 : n ≤ w6.heap.size := (by have := HB6.out.size; omega); clear hR6 hb6; dsimp only)
      | (refine step_append_G strMono (by rfl) _ _ 22 9 1 16 _ (by rfl) Tryz.underlying22 infoStr (by decide) (by decide) (by decide) n _ _ (by rfl) (HM6.out.below (boxBelow _ _)).2.2.1 _ _ (Rd.nmP (Rd.tk s1)).1 (by rfl) (cell1 _ _ _) rfl (StrL.one (w := w) ⟨rfl, HSZ.out⟩) ⟨rfl, HSZ.out⟩ (by omega) (by simp; omega) ?_; intro g cap w7 hown7 hgrow7 hat7; have HM7 := hide ((HM6.out.below (boxBelow _ _)).pushI hqn hown7 hgrow7 hat7); have HR7 := hide ((HR6.out.below (boxBelow _ _)).grown hgrow7 (fun k hk => by have := (HM6.out.2.2.1.lt k hk).1; omega)); have HB7 := hide (((But2.of_but (q := q) (HNX.out.trans (HB6.out.alloc _)) hn).grown hgrow7 (by simp; omega) (fun k hk => (HM6.out.2.2.1.lt k hk).1))); have hq7 : w7.cell? ⟨q, 1, none⟩ = _ := (hgrow7.cell (cellUp u36 (boxBelow _ _)) (fun e => by have := (HM6.out.2.2.1.lt q e.symm).1; omega)); have hz7 : w7.frozen? ⟨q, 1, none⟩ = false := (by have e1 := hgrow7.frozen_far (a := ⟨q, 1, none⟩); exact frozen_keep hgrow7 (by simp; omega) (fun e => by have := (HM6.out.2.2.1.lt q e.symm).1; omega) (frozen_alloc z36 hz6)); clear hown7 hgrow7 hat7)
      | fail)
    all_goals
      have HR8 := hide (HR7.out.set (a := ⟨q, 1, none⟩) (by simpa using hpq) (.slice (some ⟨g, 0, none⟩) (m.imports.length + 1) cap))
      have HB8 := hide (HB7.out.set 1 (.slice (some ⟨g, 0, none⟩) (m.imports.length + 1) cap))
      clear HM6 HR6 HR7 HB7 u36 z36 hz6 hsz6
      go_wp2_with fail
      clear hq7 hz7
      generalize w7.setCell ⟨q, 1, none⟩ (.slice (some ⟨g, 0, none⟩) (m.imports.length + 1) cap) = W8 at *
      refine (shut_any W8 p ws ps d _ HR8.out (by omega)).mono ?_
      rintro e w9 ⟨rfl, hR9, hb9⟩
      obtain ⟨rc8, hrc8⟩ := HR8.out.block
      have HM9 := hide (HM7.out.but hrc8 (by omega) (by omega) hb9)
      have HB9 := hide (HB8.out.trans (But2.of_but (q := q) hb9 (by have := HB8.out.size; omega)))
      clear hrc8 hb9
      go_wp2
      go_end0
      exact ⟨_, _, _, rfl, by rw [HPI.out]; exact HM9.out, by rw [HPI.out]; exact hR9, HB9.out⟩
  rw [is_f c1, if_neg (by simp)] at HPI
  have b1 := beq_f c1
  by_cases c2 : x.toList = [118, 97, 114]
  · rw [is_t c2, if_pos rfl] at HPI
    go_wp2_with fail
    refine (take_any _ p ws ps _ _ HR2.out).mono ?_
    rintro e w4 ⟨rfl, h4, hb4⟩
    have HR4 := hide h4
    have HNX := hide (HB2.out.trans hb4)
    have HM4 := hide (HM0.out.but HRB0.out (by omega) (by omega) HNX.out)
    obtain ⟨rc4, hrc4⟩ := h4.block
    have HRB4 := hide hrc4
    have hsz4 := HNX.out.size
    have hK4 := hK1.le (Rd.tk_lt s1).1
    have hd4 := hd1.le (Rd.tk_lt s1).1
    clear h4 hb4 HR2 HB2 hrc4 HM0 HRB0
    obtain ⟨u3, z3⟩ := HM4.out.cell (i := 2) rfl
    go_wp2_with fail
    go_region_law (first
      | (go_simp; go_at_call 81; refine (variable_any _ p ws ps (d + 1) _ (by repeat (first | exact HR4.out | apply RdAt.drew1))).mono ?_; rintro e w6 ⟨rfl, hs1, hs2, hR6, hb6⟩; have HSZ := hide (And.intro hs1 hs2); clear hs1 hs2; have HB6 : Hid (But p w4 w6) := hide ((by repeat (first | exact But.refl _ _ | apply But.drew1) : But p w4 _).trans hb6); have HM6 := hide (HM4.out.but HRB4.out (by omega) (by omega) HB6.out); have HR6 := hide hR6; obtain ⟨u36, z36⟩ := HM6.out.cell (i := 2) rfl; have hz6 : q < w6.heap.size := (by have := HB6.out.size; omega); have hsz6 : n ≤ w6.heap.size := (by have := HB6.out.size; omega); clear hR6 hb6; dsimp only)
      | (refine step_append_G vaMono (by rfl) _ _ 23 67 2 32 _ (by rfl) Tryz.underlying23 infoVa (by decide) (by decide) (by decide) n _ _ (by rfl) (HM6.out.below (boxBelow _ _)).2.2.2.1 _ _ (Rd.pV (Rd.tk s1)).1 (by rfl) (cells2 _ _ _ _) rfl (VaL.one (w := w) ⟨rfl, HSZ.out⟩) ⟨rfl, HSZ.out⟩ (by omega) (by simp; omega) ?_; intro g cap w7 hown7 hgrow7 hat7; have HM7 := hide ((HM6.out.below (boxBelow _ _)).pushV hqn hown7 hgrow7 hat7); have HR7 := hide ((HR6.out.below (boxBelow _ _)).grown hgrow7 (fun k hk => by have := (HM6.out.2.2.2.1.lt k hk).1; omega)); have HB7 := hide (((But2.of_but (q := q) (HNX.out.trans (HB6.out.alloc _)) hn).grown hgrow7 (by simp; omega) (fun k hk => (HM6.out.2.2.2.1.lt k hk).1))); have hq7 : w7.cell? ⟨q, 2, none⟩ = _ := (hgrow7.cell (cellUp u36 (boxBelow _ _)) (fun e => by have := (HM6.out.2.2.2.1.lt q e.symm).1; omega)); have hz7 : w7.frozen? ⟨q, 2, none⟩ = false := (by have e1 := hgrow7.frozen_far (a := ⟨q, 2, none⟩); exact frozen_keep hgrow7 (by simp; omega) (fun e => by have := (HM6.out.2.2.2.1.lt q e.symm).1; omega) (frozen_alloc z36 hz6)); clear hown7 hgrow7 hat7)
      | fail)
    all_goals
      have HR8 := hide (HR7.out.set (a := ⟨q, 2, none⟩) (by simpa using hpq) (.slice (some ⟨g, 0, none⟩) (m.vars.length + 1) cap))
      have HB8 := hide (HB7.out.set 2 (.slice (some ⟨g, 0, none⟩) (m.vars.length + 1) cap))
      clear HM6 HR6 HR7 HB7 u36 z36 hz6 hsz6
      go_wp2_with fail
      clear hq7 hz7
      generalize w7.setCell ⟨q, 2, none⟩ (.slice (some ⟨g, 0, none⟩) (m.vars.length + 1) cap) = W8 at *
      refine (shut_any W8 p ws ps d _ HR8.out (by omega)).mono ?_
      rintro e w9 ⟨rfl, hR9, hb9⟩
      obtain ⟨rc8, hrc8⟩ := HR8.out.block
      have HM9 := hide (HM7.out.but hrc8 (by omega) (by omega) hb9)
      have HB9 := hide (HB8.out.trans (But2.of_but (q := q) hb9 (by have := HB8.out.size; omega)))
      clear hrc8 hb9
      go_wp2
      go_end0
      exact ⟨_, _, _, rfl, by rw [HPI.out]; exact HM9.out, by rw [HPI.out]; exact hR9, HB9.out⟩
  rw [is_f c2, if_neg (by simp)] at HPI
  have b2 := beq_f c2
  by_cases c3 : x.toList = [102, 117, 110]
  · rw [is_t c3, if_pos rfl] at HPI
    go_wp2_with fail
    refine (take_any _ p ws ps _ _ HR2.out).mono ?_
    rintro e w4 ⟨rfl, h4, hb4⟩
    have HR4 := hide h4
    have HNX := hide (HB2.out.trans hb4)
    have HM4 := hide (HM0.out.but HRB0.out (by omega) (by omega) HNX.out)
    obtain ⟨rc4, hrc4⟩ := h4.block
    have HRB4 := hide hrc4
    have hsz4 := HNX.out.size
    have hK4 := hK1.le (Rd.tk_lt s1).1
    have hd4 := hd1.le (Rd.tk_lt s1).1
    clear h4 hb4 HR2 HB2 hrc4 HM0 HRB0
    obtain ⟨u3, z3⟩ := HM4.out.cell (i := 3) rfl
    go_wp2_with fail
    go_region_law (first
      | (go_simp; go_at_call 82; refine (fun_any K _ p ws ps (d + 1) _ (by repeat (first | exact HR4.out | apply RdAt.drew1)) hK4 hd4 (by omega)).mono ?_; rintro e w6 ⟨c0, c1, c2, c3, c4, c5, c6, rfl, hx6, hR6, hb6⟩; have HONE := hide hx6.one; obtain ⟨ap, cp, ab, cb, ax, cx, hsh⟩ := hx6.shape; simp only [List.cons.injEq, and_true] at hsh; obtain ⟨rfl, rfl, rfl, rfl, rfl, rfl, rfl⟩ := hsh; have HX6 := hide hx6; clear hx6; have HB6 : Hid (But p w4 w6) := hide ((by repeat (first | exact But.refl _ _ | apply But.drew1) : But p w4 _).trans hb6); have HM6 := hide (HM4.out.but HRB4.out (by omega) (by omega) HB6.out); have HR6 := hide hR6; obtain ⟨u36, z36⟩ := HM6.out.cell (i := 3) rfl; have hz6 : q < w6.heap.size := (by have := HB6.out.size; omega); have hsz6 : n ≤ w6.heap.size := (by have := HB6.out.size; omega); clear hR6 hb6; dsimp only)
      | (refine step_append_G (fuMono _ _ _) (by rfl) _ _ 24 74 7 120 _ (by rfl) Tryz.underlying24 infoFu (by decide) (by decide) (by decide) n _ _ (by rfl) (HM6.out.below (boxBelow _ _)).2.2.2.2 _ _ (Rd.pF K (d + 1) (Rd.tk s1)).1 (by rfl) (cells7 _ _ _ _ _ _ _ _ _) rfl HONE.out (fuMono _ _ _ _ _ _ _ (only_alloc _ _ _) (fu_new (w0 := w4) (by omega) (fun k hk => (HM4.out.2.2.1.lt k hk).2) (fun k hk => (HM4.out.2.2.2.1.lt k hk).2) (fun k hk => (HM4.out.2.2.2.2.lt k hk).2) HX6.out)) (by omega) (by simp; omega) ?_; intro g cap w7 hown7 hgrow7 hat7; have HM7 := hide ((HM6.out.below (boxBelow _ _)).pushF hqn hown7 hgrow7); have HR7 := hide ((HR6.out.below (boxBelow _ _)).grown hgrow7 (fun k hk => by have := (HM6.out.2.2.2.2.lt k hk).1; omega)); have HB7 := hide (((But2.of_but (q := q) (HNX.out.trans (HB6.out.alloc _)) hn).grown hgrow7 (by simp; omega) (fun k hk => (HM6.out.2.2.2.2.lt k hk).1))); have hq7 : w7.cell? ⟨q, 3, none⟩ = _ := (hgrow7.cell (cellUp u36 (boxBelow _ _)) (fun e => by have := (HM6.out.2.2.2.2.lt q e.symm).1; omega)); have hz7 : w7.frozen? ⟨q, 3, none⟩ = false := (by have e1 := hgrow7.frozen_far (a := ⟨q, 3, none⟩); exact frozen_keep hgrow7 (by simp; omega) (fun e => by have := (HM6.out.2.2.2.2.lt q e.symm).1; omega) (frozen_alloc z36 hz6)); clear hown7 hgrow7 hat7)
      | fail)
    all_goals
      have HR8 := hide (HR7.out.set (a := ⟨q, 3, none⟩) (by simpa using hpq) (.slice (some ⟨g, 0, none⟩) (m.funs.length + 1) cap))
      have HB8 := hide (HB7.out.set 3 (.slice (some ⟨g, 0, none⟩) (m.funs.length + 1) cap))
      clear HM6 HR6 HR7 HB7 u36 z36 hz6 hsz6
      go_wp2_with fail
      clear hq7 hz7
      generalize w7.setCell ⟨q, 3, none⟩ (.slice (some ⟨g, 0, none⟩) (m.funs.length + 1) cap) = W8 at *
      refine (shut_any W8 p ws ps d _ HR8.out (by omega)).mono ?_
      rintro e w9 ⟨rfl, hR9, hb9⟩
      obtain ⟨rc8, hrc8⟩ := HR8.out.block
      have HM9 := hide (HM7.out.but hrc8 (by omega) (by omega) hb9)
      have HB9 := hide (HB8.out.trans (But2.of_but (q := q) hb9 (by have := HB8.out.size; omega)))
      clear hrc8 hb9
      go_wp2
      go_end0
      exact ⟨_, _, _, rfl, by rw [HPI.out]; exact HM9.out, by rw [HPI.out]; exact hR9, HB9.out⟩
  · rw [is_f c3, if_neg (by simp)] at HPI
    have b3 := beq_f c3
    go_wp2_with fail
    refine (fail_any _ p ws ps _ _ HR2.out).mono ?_
    rintro e w4 ⟨rfl, h4, hb4⟩
    have HR4 := hide h4
    have HNX := hide (HB2.out.trans hb4)
    clear h4 hb4 HR2 HB2
    go_wp2_with fail
    refine (shut_any _ p ws ps d _ HR4.out (by omega)).mono ?_
    rintro e w9 ⟨rfl, hR9, hb9⟩
    have HNX9 := hide (HNX.out.trans hb9)
    have HM9 := hide (HM0.out.but HRB0.out (by omega) (by omega) HNX9.out)
    clear hb9
    go_wp2
    go_end0
    exact ⟨_, _, _, rfl, by rw [HPI.out]; exact HM9.out, by rw [HPI.out]; exact hR9, But2.of_but HNX9.out hn⟩

end Go.Proofs.YtbncnkfogkhoeabGreatDoor

/- Walks over package parse: module. -/
namespace Go.Proofs.YtbncnkfogkhoeabGreatDoor
open Go.RowKit

namespace Rd
def moL (m : Mo) : Nat := m.imports.length + m.vars.length + m.funs.length
theorem pI_len (K d : Nat) (m : Mo) (st : Sr) : moL (pI K d m st).1 ≤ moL m + 1 := by
  unfold pI moL
  cases is (pk (op d st)) [105, 109, 112, 111, 114, 116]
  · cases is (pk (op d st)) [118, 97, 114]
    · cases is (pk (op d st)) [102, 117, 110]
      · simp only [Bool.false_eq_true, if_false]; omega
      · simp only [Bool.false_eq_true, if_false, if_true, List.length_append, List.length_singleton]; omega
    · simp only [Bool.false_eq_true, if_false, if_true, List.length_append, List.length_singleton]; omega
  · simp only [if_true, List.length_append, List.length_singleton]; omega
theorem pIs_step {K d n : Nat} {m : Mo} {st : Sr} (h : brc st = true) : pIs K d (n + 1) m st = pIs K d n (pI K d m st).1 (pI K d m st).2 := by simp only [pIs]; rw [if_pos h]
theorem pIs_stop {K d n : Nat} {m : Mo} {st : Sr} (h : brc st = false) : pIs K d n m st = (m, st) := by
  cases n with
  | zero => rfl
  | succ n => simp only [pIs]; rw [if_neg (by rw [h]; simp)]
end Rd
theorem own_sliceC {α : Type} {At : World → List Value → α → Prop} {w : World} {n e k : Nat} {v : Value} {l : List α} (h : OwnL At w n e k v l) : ∃ a c, v = .slice a l.length c ∧ l.length ≤ c := by
  rcases h.shape with ⟨rfl, rfl⟩ | ⟨g, cap, rfl, hc, _⟩
  · exact ⟨_, _, rfl, Nat.le_refl _⟩
  · exact ⟨_, _, rfl, hc⟩
theorem own_slice {α : Type} {At : World → List Value → α → Prop} {w : World} {n e k : Nat} {v : Value} {l : List α} (h : OwnL At w n e k v l) : ∃ a c, v = .slice a l.length c := by
  rcases h.shape with ⟨rfl, rfl⟩ | ⟨g, cap, rfl, _⟩
  · exact ⟨_, _, rfl⟩
  · exact ⟨_, _, rfl⟩

set_option maxHeartbeats 4000000 in
set_option maxRecDepth 100000 in
theorem module_any (K : Nat) (w : World) (p : Nat) (ws : List ByteArray) (ps : List Int) (st : Rd.Sr) (h : RdAt w p ws ps 0 st) (hK : Rd.Ok K st) :
    Calls Tryz.prog 23 #[.pointer (some ⟨p, 0, none⟩)] w fun e w' => ∃ a1 n1 c1 a2 n2 c2 a3 n3 c3, e = .returned (.agg #[.string (Rd.pM K st).1.name, .slice a1 n1 c1, .slice a2 n2 c2, .slice a3 n3 c3]) ∧ MoAt (fr w w') (K + 1 + K + 1) (.agg #[.string (Rd.pM K st).1.name, .slice a1 n1 c1, .slice a2 n2 c2, .slice a3 n3 c3]) (Rd.pM K st).1 ∧ RdAt w' p ws ps 0 (Rd.pM K st).2 ∧ But p w w' ∧ n3 ≤ c3 := by
  have HPM : Hid (Rd.pM K st = ((Rd.pIs K 1 K ⟨(Rd.nmP (Rd.m1 st)).1, [], [], []⟩ (Rd.nmP (Rd.m1 st)).2).1, Rd.sh (Rd.pIs K 1 K ⟨(Rd.nmP (Rd.m1 st)).1, [], [], []⟩ (Rd.nmP (Rd.m1 st)).2).2)) := rfl
  have HPN := hide h.lt
  have HL0 := hide (Loc.start w p 26 #[.string ⟨#[]⟩, .slice none 0 0, .slice none 0 0, .slice none 0 0] #[.string ⟨#[]⟩, .slice none 0 0, .slice none 0 0, .slice none 0 0] h.lt)
  have HR0 := hide (h.below (up (boxBelow w (.cells #[.string ⟨#[]⟩, .slice none 0 0, .slice none 0 0, .slice none 0 0] 26)) (boxBelow _ (.cells #[.string ⟨#[]⟩, .slice none 0 0, .slice none 0 0, .slice none 0 0] 26))))
  have HM1 : Hid (Rd.m1 st = Rd.kw [109, 111, 100, 117, 108, 101] (Rd.op 0 st)) := rfl
  have HD0 : Hid (DOk 1 (Rd.op 0 st)) := hide (DOk.op ⟨by omega, Or.inr (by omega)⟩ (by omega))
  have hlen : st.r.length ≤ 4096 := Nat.le_trans h.suffix.length_le h.len
  have HLE0 := hide (Rd.op_lt 0 st).1
  clear h
  go_enter Tryz.func23, Tryz.ntmps23
  go_wp2_with fail
  generalize ((w.alloc (.cells #[.string ⟨#[]⟩, .slice none 0 0, .slice none 0 0, .slice none 0 0] 26)).alloc (.cells #[.string ⟨#[]⟩, .slice none 0 0, .slice none 0 0, .slice none 0 0] 26)) = W0 at *
  refine (open_any W0 p ws ps 0 st HR0.out (by omega)).mono ?_
  rintro e w1 ⟨rfl, h1, hb1⟩
  have HL1 := hide (HL0.out.step hb1)
  have HR1 := hide h1
  clear hb1 HL0 HR0 h1
  go_wp2_with fail
  refine (keyword_any w1 p ws ps _ _ HR1.out ⟨#[109, 111, 100, 117, 108, 101]⟩).mono ?_
  rintro e w2 ⟨rfl, h2, hb2⟩
  have HL2 := hide (HL1.out.step hb2)
  have HR2 : Hid (RdAt w2 p ws ps 1 (Rd.m1 st)) := hide h2
  have HLE1 : Hid (Rd.Le (Rd.m1 st) st) := hide (Rd.m1_le st)
  have HD1 : Hid (DOk 1 (Rd.m1 st)) := hide (HD0.out.le (Rd.kw_lt _ _).1)
  clear hb2 HL1 HR1 h2 HD0 HM1 HLE0
  generalize Rd.m1 st = s1 at *
  go_wp2_with fail
  refine (name_any' w2 p ws ps 1 s1 HR2.out).mono ?_
  rintro e w3 ⟨rfl, h3, hb3⟩
  have HZ3 := hide (nm_size HR2.out)
  have HL3 := hide (HL2.out.step hb3)
  have HR3 := hide h3
  have HLE3 := hide ((Rd.nmP_lt s1).1.trans HLE1.out)
  have HD3 := hide (HD1.out.le (Rd.nmP_lt s1).1)
  clear hb3 HL2 HR2 h3 HLE1 HD1
  generalize Rd.nmP s1 = nm at *
  obtain ⟨nn, s2⟩ := nm
  simp only at HPM HZ3 HR3 HLE3 HD3 ⊢
  obtain ⟨u0, z0⟩ := HL3.out.cell (i := 0) rfl
  have HL4 : Hid (Loc w p (w3.setCell ⟨w.heap.size + 1, 0, none⟩ (.string nn)) 26 #[.string ⟨#[]⟩, .slice none 0 0, .slice none 0 0, .slice none 0 0] #[.string nn, .slice none 0 0, .slice none 0 0, .slice none 0 0]) := hide (HL3.out.set 0 (.string nn))
  have HR4 := hide (HL3.out.rd HR3.out 0 (.string nn))
  clear HL3 HR3
  go_wp2
  clear u0 z0
  generalize w3.setCell ⟨w.heap.size + 1, 0, none⟩ (.string nn) = W4 at *
  have HMD : Hid (MdV W4 (w.heap.size + 2) (w.heap.size + 1) (K + 1 + K + 1) ⟨nn, [], [], []⟩ (.slice none 0 0) (.slice none 0 0) (.slice none 0 0)) := hide ⟨HL4.out.loc, HZ3.out, OwnL.nil _ _ _ _, OwnL.nil _ _ _ _, OwnL.nil _ _ _ _⟩
  have hK2 := hK.le HLE3.out
  have hlen2 : s2.r.length ≤ 4096 := Nat.le_trans HLE3.out.2 hlen
  go_loopw [] (fun wr => ∃ (m : Mo) (st' : Rd.Sr) (n' : Nat) (vi vv vf : Value), Rd.pIs K 1 K ⟨nn, [], [], []⟩ s2 = Rd.pIs K 1 n' m st' ∧ Rd.Ok n' st' ∧ Rd.Ok K st' ∧ DOk 1 st' ∧ (Rd.moL m ≤ 4097 ∧ (st'.f = true ∨ Rd.moL m + st'.r.length ≤ 4096)) ∧
      MdV wr (w.heap.size + 2) (w.heap.size + 1) (K + 1 + K + 1) m vi vv vf ∧ RdAt wr p ws ps 1 st' ∧ wr.heap[w.heap.size]? = some (.cells #[.string ⟨#[]⟩, .slice none 0 0, .slice none 0 0, .slice none 0 0] 26 (0, 0)) ∧ But p w wr ∧ w.heap.size + 2 ≤ wr.heap.size) (fun wr => meas ws.length p wr)
  case atStart => exact ⟨_, s2, K, _, _, _, rfl, hK2, hK2, HD3.out, ⟨by unfold Rd.moL; simp, Or.inr (by unfold Rd.moL; simpa using hlen2)⟩, HMD.out, HR4.out, HL4.out.res, HL4.out.but, HL4.out.size⟩
  case round =>
    clear HMD HR4 HL4 hK2 hlen2 hK hlen HLE3 HD3
    obtain ⟨m, st', n', vi, vv, vf, hI, hnk, hk', hd', ⟨hacc, hacc'⟩, hmd, hR, hres, hnx, hsz⟩ := hrel
    have HI := hide hI
    have HMD := hide hmd
    have HRr := hide hR
    have HRES := hide hres
    have HNX := hide hnx
    obtain ⟨rc, hrc⟩ := hR.block
    have HR0 := hide (And.intro hrc HPN.out)
    clear hI hmd hnx hrc hres
    go_wp2_with fail
    refine (peek_any _ p ws ps 1 st' hR).mono ?_
    rintro e w1 ⟨rfl, h1, hb1⟩
    have HR1 := hide h1
    have HB1 := hide hb1
    have HMD1 := hide (HMD.out.but HR0.out.1 (by have := HR0.out.2; omega) (by have := HR0.out.2; omega) hb1)
    have HRES1 := hide (hb1.at (by have := HR0.out.2; omega) HRES.out)
    have hsz1 : w.heap.size + 2 ≤ w1.heap.size := Nat.le_trans hsz hb1.size
    clear hR h1 hb1 HMD
    by_cases h0 : (Rd.pk st').toList = [40]
    · have HC : Hid (Rd.brc st' = true) := hide (is_t h0)
      have hf' : st'.f = false := Rd.brc_ne HC.out
      obtain ⟨n', rfl⟩ := hnk.pos hf'
      rw [hf'] at hacc'
      have hacc2 : Rd.moL m + st'.r.length ≤ 4096 := by simpa using hacc'
      have hl1 : m.imports.length ≤ 8000 := by unfold Rd.moL at hacc; omega
      have hl2 : m.vars.length ≤ 8000 := by unfold Rd.moL at hacc; omega
      have hl3 : m.funs.length ≤ 8000 := by unfold Rd.moL at hacc; omega
      have HLT := hide (Rd.pI_lt K 1 m st')
      have HLN := hide (Rd.pI_len K 1 m st')
      clear hacc'
      go_wp2_with fail
      refine (item_any K (w.heap.size + 2) (w.heap.size + 1) w1 p ws ps 1 st' HR1.out m vi vv vf HMD1.out (by have := HR0.out.2; omega) (by omega) hsz1 hk' hd' (by omega) hl1 hl2 hl3).mono ?_
      rintro e w5 ⟨vi', vv', vf', rfl, hmd5, hR5, hb5⟩
      have HMD5 := hide hmd5
      have HR5 := hide hR5
      have HRES5 : Hid (w5.heap[w.heap.size]? = _) := hide ((hb5.block w.heap.size (by omega) (by have := HR0.out.2; omega) (by omega)).trans HRES1.out)
      have HB5 : Hid (But p w w5) := hide ⟨hb5.os.trans (HNX.out.trans HB1.out).os, hb5.tape.trans (HNX.out.trans HB1.out).tape, hb5.output.trans (HNX.out.trans HB1.out).output, Nat.le_trans (HNX.out.trans HB1.out).size hb5.size, fun k hk hp => (hb5.block k (by omega) hp (by omega)).trans ((HNX.out.trans HB1.out).block k hk hp)⟩
      have hsz5 : w.heap.size + 2 ≤ w5.heap.size := Nat.le_trans hsz1 hb5.size
      clear hmd5 hR5 hb5
      go_wp2_with fail
      go_roundw
      case rel => exact ⟨(Rd.pI K 1 m st').1, (Rd.pI K 1 m st').2, n', vi', vv', vf', by rw [HI.out, Rd.pIs_step HC.out], hnk.lt HLT.out, hk'.le HLT.out.1, hd'.le HLT.out.1, by
          have h7 := HLN.out
          rcases HLT.out.2 with e | e
          · exact ⟨by omega, Or.inl e⟩
          · exact ⟨by omega, Or.inr (by omega)⟩, HMD5.out, HR5.out, HRES5.out, HB5.out, hsz5⟩
      case measure => exact meas_lt HRr.out HR5.out hf' HLT.out
    · have b0 := beq_f h0
      have HC : Hid (Rd.brc st' = false) := hide (is_f h0)
      have HPM2 : Hid (Rd.pM K st = (m, Rd.sh st')) := hide (by rw [HPM.out, HI.out, Rd.pIs_stop HC.out])
      have hl1 : m.imports.length ≤ 8192 := by unfold Rd.moL at hacc; omega
      have hl2 : m.vars.length ≤ 8192 := by unfold Rd.moL at hacc; omega
      have hl3 : m.funs.length ≤ 8192 := by unfold Rd.moL at hacc; omega
      go_wp2_with fail
      refine (shut_any _ p ws ps 0 _ HR1.out (by omega)).mono ?_
      rintro e w2 ⟨rfl, h2, hb2⟩
      obtain ⟨rc1, hrc1⟩ := HR1.out.block
      have HMD2 := hide (HMD1.out.but hrc1 (by have := HR0.out.2; omega) (by have := HR0.out.2; omega) hb2)
      have HLS : Hid (Loc w p w2 26 #[.string ⟨#[]⟩, .slice none 0 0, .slice none 0 0, .slice none 0 0] #[.string m.name, vi, vv, vf]) := hide ⟨hb2.at (by have := HR0.out.2; omega) HRES1.out, HMD2.out.1, (HNX.out.trans HB1.out).trans hb2, Nat.le_trans hsz1 hb2.size, HR0.out.2⟩
      have HR2 := hide h2
      have HMO := hide (HMD2.out.mo hl1 hl2 hl3)
      obtain ⟨a1, c1, rfl⟩ := own_slice HMD2.out.2.2.1
      obtain ⟨a2, c2, rfl⟩ := own_slice HMD2.out.2.2.2.1
      obtain ⟨a3, c3, rfl, hc3⟩ := own_sliceC HMD2.out.2.2.2.2
      clear hrc1 hb2 h2 HMD1 HMD2
      generalize m.imports.length = n1 at *
      generalize m.vars.length = n2 at *
      generalize m.funs.length = n3 at *
      obtain ⟨u0, z0⟩ := HLS.out.cell (i := 0) rfl
      obtain ⟨u1, z1⟩ := HLS.out.cell (i := 1) rfl
      obtain ⟨u2, z2⟩ := HLS.out.cell (i := 2) rfl
      obtain ⟨u3, z3⟩ := HLS.out.cell (i := 3) rfl
      obtain ⟨r0, y0⟩ := HLS.out.rcell (i := 0) rfl
      obtain ⟨r1, y1⟩ := HLS.out.rcell (i := 1) rfl
      obtain ⟨r2, y2⟩ := HLS.out.rcell (i := 2) rfl
      obtain ⟨r3, y3⟩ := HLS.out.rcell (i := 3) rfl
      go_wp2_with fail
      obtain ⟨⟨Wf, hWf, f0, f1, f2, f3⟩, hBf, hRf, hSf⟩ := HLS.out.fin4 HR2.out (.string m.name) (.slice a1 n1 c1) (.slice a2 n2 c2) (.slice a3 n3 c3)
      unfold put4 at hWf hBf hRf hSf
      rw [← hWf] at hBf hRf hSf ⊢
      clear hWf u0 u1 u2 u3 z0 z1 z2 z3 r0 r1 r2 r3 y0 y1 y2 y3
      refine bodyPost_ret (v := .agg #[.string m.name, .slice a1 n1 c1, .slice a2 n2 c2, .slice a3 n3 c3]) (by simp [results, Tryz.results23, go_sem, f0, f1, f2, f3]) rfl ?_
      rw [HPM2.out]
      exact ⟨_, _, _, _, _, _, _, _, _, rfl, MoAt.sub hSf HMO.out, hRf, hBf, hc3⟩

end Go.Proofs.YtbncnkfogkhoeabGreatDoor
