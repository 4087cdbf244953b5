/- Walks over package parse: the reader's own calls that take or look at one word. -/
import Derived.Test.YtbncnkfogkhoeabGreatDoorZAW
import Derived.Test.YtbncnkfogkhoeabGreatDoorZAB
namespace Go.Proofs.YtbncnkfogkhoeabGreatDoor
open Go.RowKit

/-- The reader lies in block p; what it reads lies in older blocks. -/
def RdAt (w : World) (p : Nat) (ws : List ByteArray) (ps : List Int) (d : Nat) (st : Rd.Sr) : Prop :=
  ∃ (aw : Option Addr) (cw : Nat) (vs : Value), w.heap[p]? = some (.cells #[.slice aw ws.length cw, vs, .int .i64 ((ws.length - st.r.length : Nat) : Int), .int .i64 (d : Nat), .bool st.f] 62 (0, 0)) ∧
    Strs (only (fun b => decide (b < p)) w) (.slice aw ws.length cw) ws ∧ Ints (only (fun b => decide (b < p)) w) vs ps ∧
    (∃ g tp x t fz, Tryz.prog.globalNamed "strconv.ErrSyntax" = some g ∧ g < p ∧ w.heap[g]? = some (.cells #[.iface tp x] t fz)) ∧
    st.r <:+ ws ∧ ws.length ≤ 4096 ∧ (∀ x ∈ ws, x.size ≤ 4096) ∧ ps.length = ws.length + 1
theorem RdAt.keep {w w' : World} {p : Nat} {ws : List ByteArray} {ps : List Int} {d : Nat} {st : Rd.Sr} (h : RdAt w p ws ps d st) (hk : ∀ k, k ≤ p → w'.heap[k]? = w.heap[k]?) : RdAt w' p ws ps d st := by
  obtain ⟨aw, cw, vs, h1, h2, h3, ⟨g, tp, x, t, fz, h4, h5, h6⟩, h7⟩ := h
  have hs : Sub (only (fun b => decide (b < p)) w) (only (fun b => decide (b < p)) w') := fun a v hv => by
    obtain ⟨b1, b2⟩ := only_cell.1 hv
    refine only_cell.2 ⟨b1, ?_⟩
    have := of_decide_eq_true b1
    rw [World.cell?_of_block (w := w) (hk _ (by omega))]; exact b2
  refine ⟨aw, cw, vs, by rw [hk p (Nat.le_refl _)]; exact h1, h2.sub hs, ?_, ⟨g, tp, x, t, fz, h4, h5, by rw [hk g (by omega)]; exact h6⟩, h7⟩
  obtain ⟨a, b, off, cap, e, h0, hl, h1'⟩ := h3
  exact ⟨a, b, off, cap, e, h0, hl, fun j z hz => hs _ _ (h1' j z hz)⟩
theorem RdAt.lt {w : World} {p : Nat} {ws : List ByteArray} {ps : List Int} {d : Nat} {st : Rd.Sr} (h : RdAt w p ws ps d st) : p < w.heap.size := by
  obtain ⟨aw, cw, vs, h1, _⟩ := h
  exact block_lt h1
theorem RdAt.below {w w' : World} {p : Nat} {ws : List ByteArray} {ps : List Int} {d : Nat} {st : Rd.Sr} (h : RdAt w p ws ps d st) (hb : Below w.heap.size w w') : RdAt w' p ws ps d st :=
  h.keep (fun k hk => hb.block k (by have := h.lt; omega))
theorem RdAt.set {w : World} {p : Nat} {ws : List ByteArray} {ps : List Int} {d : Nat} {st : Rd.Sr} (h : RdAt w p ws ps d st) {a : Addr} (ha : p < a.block) (v : Value) : RdAt (w.setCell a v) p ws ps d st :=
  h.keep (fun k hk => Below.heap_setCell _ _ _ _ (by omega))
theorem RdAt.grown {w w' : World} {p : Nat} {ws : List ByteArray} {ps : List Int} {d : Nat} {st : Rd.Sr} {r : Option Nat} (h : RdAt w p ws ps d st) (hg : w.grownBy w' r) (hr : ∀ k, r = some k → p < k) : RdAt w' p ws ps d st :=
  h.keep (fun k hk => hg.block k (by have := h.lt; omega) (fun e => by have := hr k e.symm; omega))
theorem RdAt.drew {w : World} {p : Nat} {ws : List ByteArray} {ps : List Int} {d : Nat} {st : Rd.Sr} (h : RdAt w p ws ps d st) (n : Nat) : RdAt (w.drewN n) p ws ps d st := h.keep (fun _ _ => rfl)
/-- How deep it is may be told otherwise. -/
theorem pk_size {w : World} {p : Nat} {ws : List ByteArray} {ps : List Int} {d : Nat} {st : Rd.Sr} (h : RdAt w p ws ps d st) (n : Nat) : (Rd.pkN st n).size ≤ 4096 := by
  obtain ⟨aw, cw, vs, _, _, _, _, h7, _, h8, _⟩ := h
  unfold Rd.pkN
  split
  · exact Nat.zero_le _
  · by_cases hn : n < st.r.length
    · have e : st.r.getD n ⟨#[]⟩ = st.r[n] := by simp [hn]
      rw [e]
      exact h8 _ (h7.subset (List.getElem_mem hn))
    · have e : st.r.getD n ⟨#[]⟩ = ⟨#[]⟩ := by simp [List.getD, List.getElem?_eq_none (Nat.le_of_not_lt hn)]
      rw [e]; exact Nat.zero_le _

set_option maxHeartbeats 2000000 in
set_option maxRecDepth 100000 in
theorem ahead_any (w : World) (p : Nat) (ws : List ByteArray) (ps : List Int) (d : Nat) (st : Rd.Sr) (h : RdAt w p ws ps d st) (n : Nat) (hn : n ≤ 1) :
    Calls Tryz.prog 80 #[.pointer (some ⟨p, 0, none⟩), .int .i64 n] w fun e w' => e = .returned (.string (Rd.pkN st n)) ∧ RdAt w' p ws ps d st ∧ But p w w' := by
  have HR := hide h
  obtain ⟨aw, cw, vs, h1, h2, h3, h4, h7, h8, h9, h10⟩ := h
  have q0 := block_at h1 0
  have q2 := block_at h1 2
  have q4 := block_at h1 4
  simp only [List.getElem?_toArray, List.getElem?_cons_zero, List.getElem?_cons_succ] at q0 q2 q4
  have hle : st.r.length ≤ ws.length := h7.length_le
  have HPK : Hid (Rd.pkN st n = if st.f then ⟨#[]⟩ else st.r.getD n ⟨#[]⟩) := rfl
  cases hf : st.f
  · rw [hf] at q4 HPK
    obtain ⟨nx, hnx⟩ : ∃ nx, nx = ws.length - st.r.length := ⟨_, rfl⟩
    rw [← hnx] at q2
    by_cases hlt : n < st.r.length
    · have hgt : st.r.getD n ⟨#[]⟩ = ws.getD (nx + n) ⟨#[]⟩ := by
        obtain ⟨t, ht⟩ := h7
        have e1 : nx = t.length := by rw [← ht] at hnx; rw [List.length_append] at hnx; omega
        rw [← ht, e1, List.getD, List.getD, List.getElem?_append_right (by omega)]
        congr 2; omega
      obtain ⟨a, b, off, cap, hv, ha, _, _, hc⟩ := h2
      have hcell := (only_cell.1 (hc (nx + n) (by omega))).2
      obtain rfl : aw = a := by simpa using (congrArg (fun v => match v with | Value.slice a _ _ => a | _ => none) hv)
      obtain rfl := ha (by omega)
      have HG : Hid (Rd.pkN st n = ws.getD (nx + n) ByteArray.empty) := hide (by rw [HPK.out]; exact hgt)
      have b1 : ¬ ((nx : Int) + n ≥ (ws.length : Int)) := by omega
      have b2 : (0 : Int) ≤ (nx : Int) + n := by omega
      have b3 : (nx : Int) + n < (ws.length : Int) := by omega
      have b4 : (nx : Int) ≤ 4096 := by omega
      have b5 : (n : Int) ≤ 1 := by omega
      have b6 : decide ((nx : Int) + n ≥ (ws.length : Int)) = false := decide_eq_false b1
      have e1 : ((nx : Int) + n).toNat = nx + n := by omega
      rw [HG.out]
      clear h1 h3 h4 h7 h9 h10 hc HPK hgt hv hnx hle HG hf ha
      generalize ws.getD (nx + n) ByteArray.empty = x at *
      generalize ws.length = len at *
      go_enter Tryz.func80, Tryz.ntmps80
      go_wp2
      go_quiet (fail)
      go_wp2
      go_quiet (fail)
      go_wp2
      go_ret
      exact ⟨rfl, (HR.out.drew _).drew _, ((But.refl _ _).drew _).drew _⟩
    · have HG : Hid (Rd.pkN st n = ⟨#[]⟩) := hide (by rw [HPK.out, if_neg (by simp), List.getD, List.getElem?_eq_none (Nat.le_of_not_lt hlt)]; rfl)
      have b1 : (nx : Int) + n ≥ (ws.length : Int) := by omega
      have b4 : (nx : Int) ≤ 4096 := by omega
      have b5 : (n : Int) ≤ 1 := by omega
      have b6 : decide ((nx : Int) + n ≥ (ws.length : Int)) = true := decide_eq_true b1
      rw [HG.out]
      clear h1 h2 h3 h4 h7 h9 h10 HPK hnx hle HG hf hlt
      generalize ws.length = len at *
      go_enter Tryz.func80, Tryz.ntmps80
      go_wp2
      go_quiet (fail)
      go_wp2
      go_ret
      exact ⟨rfl, HR.out.drew _, (But.refl _ _).drew _⟩
  · rw [hf] at q4 HPK
    have HG : Hid (Rd.pkN st n = ⟨#[]⟩) := HPK
    rw [HG.out]
    clear h1 h2 h3 h4 h7 h9 h10 HPK hle HG hf
    go_enter Tryz.func80, Tryz.ntmps80
    go_wp2
    go_quiet (fail)
    go_wp2
    go_ret
    exact ⟨rfl, HR.out.drew _, (But.refl _ _).drew _⟩

section
variable (w : World) (p : Nat) (ws : List ByteArray) (ps : List Int) (d : Nat) (st : Rd.Sr) (h : RdAt w p ws ps d st)
include h
theorem peek_any : Calls Tryz.prog 53 #[.pointer (some ⟨p, 0, none⟩)] w fun e w' => e = .returned (.string (Rd.pk st)) ∧ RdAt w' p ws ps d st ∧ But p w w' := by
  go_enter Tryz.func53, Tryz.ntmps53
  go_wp2_with fail
  refine (ahead_any w p ws ps d st h 0 (by omega)).mono ?_
  rintro e w' ⟨rfl, h1, h2⟩
  go_wp2
  go_ret
  exact ⟨rfl, h1, h2⟩
theorem second_any : Calls Tryz.prog 133 #[.pointer (some ⟨p, 0, none⟩)] w fun e w' => e = .returned (.string (Rd.pkN st 1)) ∧ RdAt w' p ws ps d st ∧ But p w w' := by
  go_enter Tryz.func133, Tryz.ntmps133
  go_wp2_with fail
  refine (ahead_any w p ws ps d st h 1 (by omega)).mono ?_
  rintro e w' ⟨rfl, h1, h2⟩
  go_wp2
  go_ret
  exact ⟨rfl, h1, h2⟩
/-- A cell of the reader turns. -/
theorem rd_set {st' : Rd.Sr} {d' : Nat} (i : Nat) (v : Value) (hr : st'.r <:+ ws)
    (hc : ∀ aw cw vs, (#[.slice aw ws.length cw, vs, .int .i64 ((ws.length - st.r.length : Nat) : Int), .int .i64 (d : Nat), .bool st.f] : Array Value).setIfInBounds i v = #[.slice aw ws.length cw, vs, .int .i64 ((ws.length - st'.r.length : Nat) : Int), .int .i64 (d' : Nat), .bool st'.f]) :
    RdAt (w.setCell ⟨p, i, none⟩ v) p ws ps d' st' ∧ But p w (w.setCell ⟨p, i, none⟩ v) := by
  refine ⟨?_, (But.refl p w).set (a := ⟨p, i, none⟩) (Or.inl rfl) v⟩
  obtain ⟨aw, cw, vs, h1, h2, h3, ⟨g, tp, x, t, fz, h4, h5, h6⟩, h7, h8⟩ := h
  have hs : Sub (only (fun b => decide (b < p)) w) (only (fun b => decide (b < p)) (w.setCell ⟨p, i, none⟩ v)) := ((But.refl p w).set (a := ⟨p, i, none⟩) (Or.inl rfl) v).sub (decide_eq_false (Nat.lt_irrefl _))
  refine ⟨aw, cw, vs, by rw [block_set h1, hc], h2.sub hs, ?_, ⟨g, tp, x, t, fz, h4, h5, block_other h6 (by simp; omega) _⟩, hr, h8⟩
  obtain ⟨a, b, off, cap, e, h0, hl, h1'⟩ := h3
  exact ⟨a, b, off, cap, e, h0, hl, fun j z hz => hs _ _ (h1' j z hz)⟩
theorem RdAt.suffix : st.r <:+ ws := by obtain ⟨_, _, _, _, _, _, _, h7, _⟩ := h; exact h7
theorem RdAt.len : ws.length ≤ 4096 := by obtain ⟨_, _, _, _, _, _, _, _, h7, _⟩ := h; exact h7
theorem RdAt.cells : ∃ aw cw vs, w.cell? ⟨p, 0, none⟩ = some (.slice aw ws.length cw) ∧ w.cell? ⟨p, 1, none⟩ = some vs ∧ w.cell? ⟨p, 2, none⟩ = some (.int .i64 ((ws.length - st.r.length : Nat) : Int)) ∧ w.cell? ⟨p, 3, none⟩ = some (.int .i64 (d : Nat)) ∧ w.cell? ⟨p, 4, none⟩ = some (.bool st.f) ∧ ∀ i, w.frozen? ⟨p, i, none⟩ = false := by
  obtain ⟨aw, cw, vs, h1, _⟩ := h
  exact ⟨aw, cw, vs, block_at h1 0, block_at h1 1, block_at h1 2, block_at h1 3, block_at h1 4, fun i => block_free h1 i⟩

set_option maxHeartbeats 1000000 in
theorem fail_any : Calls Tryz.prog 56 #[.pointer (some ⟨p, 0, none⟩)] w fun e w' => e = .returned (.tuple #[]) ∧ RdAt w' p ws ps d (Rd.fl st) ∧ But p w w' := by
  have HS := hide (rd_set w p ws ps d st h (st' := Rd.fl st) (d' := d) 4 (.bool true) h.suffix (fun _ _ _ => rfl))
  obtain ⟨aw, cw, vs, _, _, _, _, q4, z⟩ := h.cells
  have z4 := z 4
  clear z h
  go_enter Tryz.func56, Tryz.ntmps56
  go_wp2
  go_end0
  exact ⟨rfl, HS.out⟩

set_option maxHeartbeats 1000000 in
theorem take_any : Calls Tryz.prog 78 #[.pointer (some ⟨p, 0, none⟩)] w fun e w' => e = .returned (.string (Rd.pk st)) ∧ RdAt w' p ws ps d (Rd.tk st) ∧ But p w w' := by
  have HT : Hid (Rd.tk st = if Rd.is (Rd.pk st) [] then Rd.fl st else ⟨st.r.tail, st.f⟩) := rfl
  have HP : Hid (Rd.is (Rd.pk st) [] = false → st.r ≠ []) := hide (fun h1 h2 => by
    have e : Rd.pk st = ⟨#[]⟩ := by
      unfold Rd.pk Rd.pkN
      rw [h2]
      cases st.f <;> rfl
    rw [e] at h1
    cases h1)
  go_enter Tryz.func78, Tryz.ntmps78
  go_wp2_with fail
  refine (peek_any w p ws ps d st h).mono ?_
  rintro e w1 ⟨rfl, h1, hb1⟩
  obtain ⟨x, hx⟩ : ∃ x, x = Rd.pk st := ⟨_, rfl⟩
  have HX := hide hx
  rw [← hx] at HT HP ⊢
  clear hx h
  by_cases h0 : x.toList = []
  · rw [is_t h0, if_pos rfl] at HT
    go_wp2_with fail
    refine (fail_any w1 p ws ps d st h1).mono ?_
    rintro e w2 ⟨rfl, h2, hb2⟩
    go_wp2
    go_ret
    refine ⟨?_, by rw [HT.out]; exact h2, hb1.trans hb2⟩
    have e0 : x = ⟨#[]⟩ := by
      cases x with | mk x => congr 1; rw [ByteArray.toList_eq] at h0; exact Array.toList_inj.1 h0
    rw [← HX.out, e0]; rfl
  · rw [is_f h0, if_neg (by simp)] at HT
    have h0b : x.toList.isEmpty = false := by simpa using h0
    have hne := HP.out (is_f h0)
    have hsf := h1.suffix
    have hll := hsf.length_le
    have hlen := h1.len
    have hpos : 0 < st.r.length := List.length_pos_iff.2 hne
    have HS := hide (rd_set w1 p ws ps d st h1 (st' := ⟨st.r.tail, st.f⟩) (d' := d) 2 (.int .i64 ((ws.length - st.r.length : Nat) + 1 : Int)) ((List.tail_suffix _).trans hsf) (fun _ _ _ => by
      have e : ((ws.length - st.r.length : Nat) + 1 : Int) = ((ws.length - st.r.tail.length : Nat) : Int) := by rw [List.length_tail]; omega
      rw [e]; rfl))
    obtain ⟨aw, cw, vs, _, _, q2, _, _, z⟩ := h1.cells
    have z2 := z 2
    obtain ⟨nx, hnx⟩ : ∃ nx, nx = ws.length - st.r.length := ⟨_, rfl⟩
    have hn4 : (nx : Int) ≤ 4096 := by omega
    rw [← hnx] at HS q2
    clear z h1 hnx HP
    go_wp2
    go_ret
    exact ⟨by rw [← HX.out]; rfl, by rw [HT.out]; exact HS.out.1, hb1.trans HS.out.2⟩

set_option maxHeartbeats 1000000 in
theorem keyword_any (a : ByteArray) : Calls Tryz.prog 51 #[.pointer (some ⟨p, 0, none⟩), .string a] w fun e w' => e = .returned (.tuple #[]) ∧ RdAt w' p ws ps d (Rd.kw a.data.toList st) ∧ But p w w' := by
  have HT : Hid (Rd.kw a.data.toList st = if Rd.is (Rd.pk st) a.data.toList then Rd.tk st else Rd.fl st) := rfl
  go_enter Tryz.func51, Tryz.ntmps51
  go_wp2_with fail
  refine (peek_any w p ws ps d st h).mono ?_
  rintro e w1 ⟨rfl, h1, hb1⟩
  by_cases h0 : (Rd.pk st).toList = a.toList
  · rw [is_t (by rw [h0, ByteArray.toList_eq]), if_pos rfl] at HT
    have h0' : ((Rd.pk st).toList != a.toList) = false := by simp [h0]
    go_wp2_with fail
    refine (take_any w1 p ws ps d st h1).mono ?_
    rintro e w2 ⟨rfl, h2, hb2⟩
    go_wp2
    go_end0
    exact ⟨rfl, by rw [HT.out]; exact h2, hb1.trans hb2⟩
  · rw [is_f (by rw [← ByteArray.toList_eq]; exact h0), if_neg (by simp)] at HT
    have h0' : ((Rd.pk st).toList != a.toList) = true := by simpa using h0
    have h0'' : ((Rd.pk st).toList == a.toList) = false := by simpa using h0
    go_wp2_with fail
    refine (fail_any w1 p ws ps d st h1).mono ?_
    rintro e w2 ⟨rfl, h2, hb2⟩
    go_wp2
    (try simp only [Exit.inBlock, Exit.then])
    refine bodyPost_ret (results_none rfl _ _ _) rfl ?_
    exact ⟨rfl, by rw [HT.out]; exact h2, hb1.trans hb2⟩

set_option maxHeartbeats 1000000 in
theorem open_any (hd : d ≤ 100) : Calls Tryz.prog 50 #[.pointer (some ⟨p, 0, none⟩)] w fun e w' => e = .returned (.tuple #[]) ∧ RdAt w' p ws ps (d + 1) (Rd.op d st) ∧ But p w w' := by
  have HM : Hid (Rd.op d st = Rd.kw [40] (if d = 20 then Rd.fl st else st)) := rfl
  obtain ⟨_, _, _, _, _, _, q3, _, _⟩ := h.cells
  have hd' : (d : Int) ≤ 100 := by omega
  by_cases h20 : d = 20
  · rw [if_pos h20] at HM
    subst h20
    go_enter Tryz.func50, Tryz.ntmps50
    go_wp2_with fail
    refine (fail_any w p ws ps _ st h).mono ?_
    rintro e w1 ⟨rfl, h1, hb1⟩
    clear q3
    go_wp2_with fail
    refine (keyword_any w1 p ws ps _ _ h1 ⟨#[40]⟩).mono ?_
    rintro e w2 ⟨rfl, h2, hb2⟩
    have HS := hide (rd_set w2 p ws ps 20 _ h2 (st' := Rd.kw [40] (Rd.fl st)) (d' := 20 + 1) 3 (.int .i64 21) h2.suffix (fun _ _ _ => rfl))
    obtain ⟨_, _, _, _, _, _, q3, _, z⟩ := h2.cells
    have z3 := z 3
    clear z h2
    go_wp2
    go_end0
    exact ⟨rfl, by rw [HM.out]; exact HS.out.1, (hb1.trans hb2).trans HS.out.2⟩
  · rw [if_neg h20] at HM
    have h20' : ((d : Int) == 20) = false := by simp; omega
    go_enter Tryz.func50, Tryz.ntmps50
    go_wp2_with fail
    clear q3
    refine (keyword_any w p ws ps d _ h ⟨#[40]⟩).mono ?_
    rintro e w2 ⟨rfl, h2, hb2⟩
    have HS := hide (rd_set w2 p ws ps d _ h2 (st' := Rd.kw [40] st) (d' := d + 1) 3 (.int .i64 ((d : Int) + 1)) h2.suffix (fun _ _ _ => rfl))
    obtain ⟨_, _, _, _, _, _, q3, _, z⟩ := h2.cells
    have z3 := z 3
    clear z h2
    go_wp2
    go_end0
    exact ⟨rfl, by rw [HM.out]; exact HS.out.1, hb2.trans HS.out.2⟩
end

section
variable (w : World) (p : Nat) (ws : List ByteArray) (ps : List Int) (d : Nat) (st : Rd.Sr)
set_option maxHeartbeats 1000000 in
theorem shut_any (h : RdAt w p ws ps (d + 1) st) (hd : d ≤ 100) : Calls Tryz.prog 55 #[.pointer (some ⟨p, 0, none⟩)] w fun e w' => e = .returned (.tuple #[]) ∧ RdAt w' p ws ps d (Rd.sh st) ∧ But p w w' := by
  have hd' : (d : Int) ≤ 100 := by omega
  go_enter Tryz.func55, Tryz.ntmps55
  go_wp2_with fail
  refine (keyword_any w p ws ps (d + 1) _ h ⟨#[41]⟩).mono ?_
  rintro e w2 ⟨rfl, h2, hb2⟩
  have HS := hide (rd_set w2 p ws ps (d + 1) _ h2 (st' := Rd.sh st) (d' := d) 3 (.int .i64 (d : Nat)) h2.suffix (fun _ _ _ => rfl))
  obtain ⟨_, _, _, _, _, _, q3, _, z⟩ := h2.cells
  have z3 := z 3
  have e3 : ((d + 1 : Nat) : Int) = (d : Int) + 1 := by omega
  rw [e3] at q3
  clear z h2 h
  go_wp2
  go_end0
  refine ⟨rfl, ?_, ?_⟩
  · have := HS.out.1
    simpa using this
  · have := hb2.trans HS.out.2
    simpa using this

variable (h : RdAt w p ws ps d st)
include h
set_option maxHeartbeats 1000000 in
theorem end_any : Calls Tryz.prog 24 #[.pointer (some ⟨p, 0, none⟩)] w fun e w' => e = .returned (.tuple #[]) ∧ RdAt w' p ws ps d (Rd.pEnd st) ∧ But p w w' := by
  have HT : Hid (Rd.pEnd st = if Rd.is (Rd.pk st) [] then st else Rd.fl st) := rfl
  go_enter Tryz.func24, Tryz.ntmps24
  go_wp2_with fail
  refine (peek_any w p ws ps d st h).mono ?_
  rintro e w1 ⟨rfl, h1, hb1⟩
  by_cases h0 : (Rd.pk st).toList = []
  · rw [is_t h0, if_pos rfl] at HT
    go_wp2
    go_end0
    exact ⟨rfl, by rw [HT.out]; exact h1, hb1⟩
  · rw [is_f h0, if_neg (by simp)] at HT
    have h0b : (Rd.pk st).toList.isEmpty = false := by simpa using h0
    go_wp2_with fail
    refine (fail_any w1 p ws ps d st h1).mono ?_
    rintro e w2 ⟨rfl, h2, hb2⟩
    go_wp2
    go_end0
    exact ⟨rfl, by rw [HT.out]; exact h2, hb1.trans hb2⟩

set_option maxHeartbeats 1000000 in
theorem name_any' : Calls Tryz.prog 52 #[.pointer (some ⟨p, 0, none⟩)] w fun e w' => e = .returned (.string (Rd.nmP st).1) ∧ RdAt w' p ws ps d (Rd.nmP st).2 ∧ But p w w' := by
  have HT : Hid (Rd.nmP st = (Rd.pk (if Rd.plain (Rd.pk st) then st else Rd.fl st), Rd.tk (if Rd.plain (Rd.pk st) then st else Rd.fl st))) := rfl
  go_enter Tryz.func52, Tryz.ntmps52
  go_wp2_with fail
  refine (peek_any w p ws ps d st h).mono ?_
  rintro e w1 ⟨rfl, h1, hb1⟩
  go_wp2_with fail
  refine (isPlain_any _ _).mono ?_
  rintro e w2 ⟨rfl, hw⟩
  subst hw
  generalize hp : Rd.plain (Rd.pk st) = b at *
  cases b
  · rw [if_neg (by simp)] at HT
    go_wp2_with fail
    refine (fail_any w2 p ws ps d st h1).mono ?_
    rintro e w3 ⟨rfl, h3, hb3⟩
    go_wp2_with fail
    refine (take_any w3 p ws ps d _ h3).mono ?_
    rintro e w4 ⟨rfl, h4, hb4⟩
    go_wp2
    go_ret
    exact ⟨by rw [HT.out]; rfl, by rw [HT.out]; exact h4, (hb1.trans hb3).trans hb4⟩
  · rw [if_pos rfl] at HT
    go_wp2_with fail
    refine (take_any w2 p ws ps d _ h1).mono ?_
    rintro e w4 ⟨rfl, h4, hb4⟩
    go_wp2
    go_ret
    exact ⟨by rw [HT.out]; rfl, by rw [HT.out]; exact h4, hb1.trans hb4⟩

set_option maxHeartbeats 1000000 in
set_option maxRecDepth 100000 in
theorem where_any : Calls Tryz.prog 25 #[.pointer (some ⟨p, 0, none⟩)] w fun e w' => e = .returned (.int .i64 (ps.getD (ws.length - st.r.length) 0)) ∧ Below w.heap.size w w' := by
  obtain ⟨aw, cw, vs, h1, h2, h3, h4, h7, h8, h9, h10⟩ := h
  have q1 := block_at h1 1
  have q2 := block_at h1 2
  simp only [List.getElem?_toArray, List.getElem?_cons_zero, List.getElem?_cons_succ] at q1 q2
  obtain ⟨nx, hnx⟩ : ∃ nx, nx = ws.length - st.r.length := ⟨_, rfl⟩
  rw [← hnx] at q2 ⊢
  obtain ⟨a, b, off, cap, rfl, ha, hl, hc⟩ := h3
  have hlt : nx < ps.length := by omega
  have hcell := (only_cell.1 (hc nx _ (List.getElem?_eq_getElem hlt))).2
  obtain rfl := ha (by omega)
  have e1 : ps.getD nx 0 = ps[nx] := by simp [hlt]
  rw [e1]
  have b2 : (0 : Int) ≤ (nx : Int) := by omega
  have b3 : (nx : Int) < (ps.length : Int) := by omega
  clear h1 h2 h4 h7 h9 hc hnx ha e1
  generalize ps[nx] = x at *
  generalize ps.length = len at *
  go_enter Tryz.func25, Tryz.ntmps25
  go_wp2
  go_quiet (fail)
  go_wp2
  go_ret
  exact ⟨rfl, drewBelow (Below.refl _ _) _⟩
end
end Go.Proofs.YtbncnkfogkhoeabGreatDoor
