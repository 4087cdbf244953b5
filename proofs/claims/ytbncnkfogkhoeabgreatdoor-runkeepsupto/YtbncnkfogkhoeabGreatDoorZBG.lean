/- Walks over package parse: Parse answers what the plain functions do. -/
import Derived.Test.YtbncnkfogkhoeabGreatDoorZBE
import Derived.Test.YtbncnkfogkhoeabGreatDoorZBF
import Derived.Test.YtbncnkfogkhoeabGreatDoorZAO
namespace Go.Proofs.YtbncnkfogkhoeabGreatDoor
open Go.RowKit

theorem tok_sum (s : ByteArray) : ∀ k, ((Lat.tok s k).1.map fun p => p.2 - p.1).sum ≤ k
  | 0 => by simp [Lat.tok]
  | k + 1 => by
    have ih := tok_sum s k
    simp only [Lat.tok]
    split
    · simp only; omega
    · split
      · simp only [List.map_append, List.sum_append, List.map_cons, List.map_nil, List.sum_cons, List.sum_nil]; omega
      · split
        · rename_i ho
          obtain ⟨L, a, e⟩ := (tok_inv s k).2.2 ho
          have ha := (tok_inv s k).2.1 (a, k) (by rw [e]; simp)
          rw [e] at ih ⊢
          simp only [List.dropLast_concat, List.getLastD_concat, List.map_append, List.sum_append, List.map_cons, List.map_nil, List.sum_cons, List.sum_nil] at ih ha ⊢
          omega
        · simp only [List.map_append, List.sum_append, List.map_cons, List.map_nil, List.sum_cons, List.sum_nil]; omega
theorem wds_facts (s : ByteArray) : (Lat.wds s).length ≤ 4096 ∧ (∀ x ∈ Lat.wds s, x.size ≤ 4096) ∧ (Lat.wats s).length = (Lat.wds s).length ∧ Rd.T (Lat.wds s) ≤ 69632 ∧ (∀ z ∈ Lat.wats s, 0 ≤ z ∧ z ≤ s.size) := by
  unfold Lat.wds Lat.wats
  by_cases h4 : 4096 < s.size
  · rw [if_pos h4, if_pos h4]
    exact ⟨by simp, fun x hx => by simp at hx, rfl, by simp [Rd.T], fun z hz => by simp at hz⟩
  · rw [if_neg h4, if_neg h4]
    cases Lat.badAt s with
    | some k => exact ⟨by simp, fun x hx => by simp at hx, rfl, by simp [Rd.T], fun z hz => by simp at hz⟩
    | none =>
      have hi := tok_inv s s.size
      have hs := tok_sum s s.size
      refine ⟨by simp only [List.length_map]; omega, fun x hx => ?_, by simp, ?_, fun z hz => ?_⟩
      · simp only at hx
        obtain ⟨p, _, rfl⟩ := List.mem_map.1 hx
        unfold Lat.ext
        rw [ByteArray.size_extract]; omega
      · have : ∀ l : List (Nat × Nat), (∀ p ∈ l, p.2 ≤ s.size) → Rd.T (l.map (Lat.ext s)) ≤ (l.map fun p => p.2 - p.1).sum + 16 * l.length := by
          intro l
          induction l with
          | nil => intro _; simp [Rd.T]
          | cons p l ih =>
            intro h
            have h1 := ih (fun q hq => h q (by simp [hq]))
            have h2 := h p (by simp)
            have h3 : (Lat.ext s p).size = p.2 - p.1 := by unfold Lat.ext; rw [ByteArray.size_extract]; omega
            unfold Rd.T at h1 ⊢
            simp only [List.map_cons, List.sum_cons, List.length_cons, List.map_map] at h1 ⊢
            rw [h3]
            omega
        have := this _ (fun p hp => (hi.2.1 p hp).2)
        simp only
        omega
      · simp only at hz
        obtain ⟨p, hp, rfl⟩ := List.mem_map.1 hz
        have := hi.2.1 p hp
        omega

namespace Rd
def mo0 : Mo := ⟨⟨#[]⟩, [], [], []⟩
/-- What Parse reads, whether it may be or not. -/
def prM (s : ByteArray) : Mo × Sr := pM 4097 ⟨Lat.wds s, false⟩
def prS (s : ByteArray) : Sr := pEnd (prM s).2
def prE (s : ByteArray) : Int := if Lat.we s = 0 then (if (prS s).f then 3 else Lat.moE 8196 (prM s).1) else Lat.we s
def prN (s : ByteArray) : Int := if Lat.we s = 0 then (if (prS s).f then (Lat.wats s ++ [(s.size : Int)]).getD ((Lat.wds s).length - (prS s).r.length) 0 else 0) else Lat.wn s
def prX (s : ByteArray) : Mo := if prE s = 0 then (prM s).1 else mo0
end Rd

/-- The library's variable ErrSyntax holds an error. -/
def ErrV (w : World) : Prop := ∃ g tp x t fz, Tryz.prog.globalNamed "strconv.ErrSyntax" = some g ∧ w.heap[g]? = some (.cells #[.iface tp x] t fz)
theorem ErrV.below {w w' : World} (h : ErrV w) (hb : Below w.heap.size w w') : ErrV w' := by
  obtain ⟨g, tp, x, t, fz, h1, h2⟩ := h
  exact ⟨g, tp, x, t, fz, h1, by rw [hb.block g (block_lt h2)]; exact h2⟩
theorem mo0_at (w : World) (m : Nat) : MoAt w m (.agg #[.string ⟨#[]⟩, .slice none 0 0, .slice none 0 0, .slice none 0 0]) Rd.mo0 :=
  ⟨_, _, _, rfl, Nat.zero_le _, ⟨none, 0, 0, 0, rfl, fun h => absurd h (by simp [Rd.mo0]), by simp [Rd.mo0], fun s hs => absurd hs (by simp [Rd.mo0]), fun j hj => absurd hj (by simp [Rd.mo0])⟩,
    ⟨none, 0, 0, 0, rfl, fun h => absurd h (by simp [Rd.mo0]), by simp [Rd.mo0], fun i y hy => absurd hy (by simp [Rd.mo0])⟩, ⟨none, 0, 0, 0, rfl, fun h => absurd h (by simp [Rd.mo0]), by simp [Rd.mo0], fun i y hy => absurd hy (by simp [Rd.mo0])⟩⟩

theorem rd_start {w : World} {aw : Option Addr} {cw : Nat} {ws : List ByteArray} {vs : Value} {ps : List Int} (h1 : Strs w (.slice aw ws.length cw) ws) (h2 : Ints w vs ps) (h3 : ErrV w) (h4 : ws.length ≤ 4096) (h5 : ∀ x ∈ ws, x.size ≤ 4096) (h6 : ps.length = ws.length + 1) :
    RdAt (w.alloc (.cells #[.slice aw ws.length cw, vs, .int .i64 0, .int .i64 0, .bool false] 62)) w.heap.size ws ps 0 ⟨ws, false⟩ := by
  obtain ⟨g, tp, x, t, fz, g1, g2⟩ := h3
  have hs : Sub w (only (fun b => decide (b < w.heap.size)) (w.alloc (.cells #[.slice aw ws.length cw, vs, .int .i64 0, .int .i64 0, .bool false] 62))) := fun a v hv => only_cell.2 ⟨decide_eq_true (World.block_lt_of_cell? _ _ hv), cellUp hv (boxBelow _ _)⟩
  refine ⟨aw, cw, vs, ?_, h1.sub hs, ?_, ⟨g, tp, x, t, fz, g1, block_lt g2, block_alloc g2 _⟩, List.suffix_refl _, h4, h5, h6⟩
  · rw [block_new]
    simp
  · obtain ⟨a, b, off, cap, e, k0, kl, k1⟩ := h2
    exact ⟨a, b, off, cap, e, k0, kl, fun j z hz => hs _ _ (k1 j z hz)⟩
theorem pend_le (st : Rd.Sr) : Rd.Le (Rd.pEnd st) st := by
  unfold Rd.pEnd
  split
  · exact Rd.Le.refl _
  · exact Rd.fl_le _
theorem but_base {p : Nat} {w w0 w1 : World} (h : Below w.heap.size w w0) (hb : But p w0 w1) (hp : w.heap.size ≤ p) : Below w.heap.size w w1 := h.trans (hb.below hp h.size)
theorem set_base {w w0 : World} (h : Below w.heap.size w w0) (i : Nat) (v : Value) : Below w.heap.size w (w0.setCell ⟨w.heap.size, i, none⟩ v) := h.setCell (Nat.le_refl _) v
/-- The result's block, of four cells. -/
theorem res4 {w W : World} {T : TypeId} {r0 r1 r2 r3 : Value} (h : W.heap[w.heap.size]? = some (.cells #[r0, r1, r2, r3] T (0, 0))) (hb : Below w.heap.size w W) (c0 c1 c2 c3 : Value) :
    (∃ Wf, Wf = put4 W w.heap.size c0 c1 c2 c3 ∧ Wf.cell? ⟨w.heap.size, 0, none⟩ = some c0 ∧ Wf.cell? ⟨w.heap.size, 1, none⟩ = some c1 ∧ Wf.cell? ⟨w.heap.size, 2, none⟩ = some c2 ∧ Wf.cell? ⟨w.heap.size, 3, none⟩ = some c3) ∧ Below w.heap.size w (put4 W w.heap.size c0 c1 c2 c3) ∧ Sub (only (fun b => decide (w.heap.size + 1 ≤ b)) W) (fr w (put4 W w.heap.size c0 c1 c2 c3)) := by
  have h0 : (W.setCell ⟨w.heap.size, 0, none⟩ c0).heap[w.heap.size]? = some (.cells #[c0, r1, r2, r3] T (0, 0)) := block_set h 0 c0
  have h1 : ((W.setCell ⟨w.heap.size, 0, none⟩ c0).setCell ⟨w.heap.size, 1, none⟩ c1).heap[w.heap.size]? = some (.cells #[c0, c1, r2, r3] T (0, 0)) := block_set h0 1 c1
  have h2 : (((W.setCell ⟨w.heap.size, 0, none⟩ c0).setCell ⟨w.heap.size, 1, none⟩ c1).setCell ⟨w.heap.size, 2, none⟩ c2).heap[w.heap.size]? = some (.cells #[c0, c1, c2, r3] T (0, 0)) := block_set h1 2 c2
  have h3 : (put4 W w.heap.size c0 c1 c2 c3).heap[w.heap.size]? = some (.cells #[c0, c1, c2, c3] T (0, 0)) := block_set h2 3 c3
  refine ⟨⟨_, rfl, block_at h3 0, block_at h3 1, block_at h3 2, block_at h3 3⟩, set_base (set_base (set_base (set_base hb 0 c0) 1 c1) 2 c2) 3 c3, ?_⟩
  refine Sub.trans ?_ (fresh_mono (n := w.heap.size + 1) (m := w.heap.size) (by omega))
  exact sees_set (sees_set (sees_set (sees_set (Sub.refl _) (by simp) _) (by simp) _) (by simp) _) (by simp) _

set_option maxHeartbeats 4000000 in
set_option maxRecDepth 100000 in
theorem parse_anyC (w : World) (s : ByteArray) (hs : s.size ≤ maxLen) (ht : Tab w) (he : ErrV w) :
    Calls Tryz.prog 8 #[.string s] w fun e w' => ∃ a1 n1 c1 a2 n2 c2 a3 n3 c3, e = .returned (.tuple #[.agg #[.string (Rd.prX s).name, .slice a1 n1 c1, .slice a2 n2 c2, .slice a3 n3 c3], .int .i64 (Rd.prN s), .int .i64 (Rd.prE s)]) ∧
      MoAt (fr w w') 8196 (.agg #[.string (Rd.prX s).name, .slice a1 n1 c1, .slice a2 n2 c2, .slice a3 n3 c3]) (Rd.prX s) ∧ Below w.heap.size w w' ∧ n3 ≤ c3 := by
  have HX : Hid (Rd.prX s = if Rd.prE s = 0 then (Rd.prM s).1 else Rd.mo0) := rfl
  have HE : Hid (Rd.prE s = if Lat.we s = 0 then (if (Rd.prS s).f then 3 else Lat.moE 8196 (Rd.prM s).1) else Lat.we s) := rfl
  have HN : Hid (Rd.prN s = if Lat.we s = 0 then (if (Rd.prS s).f then (Lat.wats s ++ [(s.size : Int)]).getD ((Lat.wds s).length - (Rd.prS s).r.length) 0 else 0) else Lat.wn s) := rfl
  have HB0 := hide (boxBelow w (.cells #[.string ⟨#[]⟩, .slice none 0 0, .slice none 0 0, .slice none 0 0] 26))
  have HW0 := hide (block_new w (.cells #[.string ⟨#[]⟩, .slice none 0 0, .slice none 0 0, .slice none 0 0] 26))
  have HSZ : Hid ((w.alloc (.cells #[.string ⟨#[]⟩, .slice none 0 0, .slice none 0 0, .slice none 0 0] 26)).heap.size = w.heap.size + 1) := hide (by simp)
  have HT := hide ht
  have HEV := hide he
  have HS := hide hs
  have HF := hide (wds_facts s)
  have hs' : s.size ≤ 9223372036854775807 := by unfold maxLen at hs; omega
  clear ht he hs
  go_enter Tryz.func8, Tryz.ntmps8
  go_wp2_with fail
  generalize (w.alloc (.cells #[.string ⟨#[]⟩, .slice none 0 0, .slice none 0 0, .slice none 0 0] 26)) = W0 at *
  refine (words_own W0 s HS.out).mono ?_
  rintro e w1 ⟨v6, v7, rfl, h6, h7, ho7, ho6, hb1⟩
  have HW1 := hide ((hb1.block w.heap.size (by have := HSZ.out; omega)).trans HW0.out)
  have HB1 := hide (up HB0.out hb1)
  have hsz1 : w.heap.size + 1 ≤ w1.heap.size := by have := HSZ.out; have := hb1.size; omega
  obtain ⟨a6, c6, rfl, hc6⟩ := h6.2
  have H6 := hide h6.1
  by_cases hwe : Lat.we s = 0
  · rw [if_pos hwe] at HE HN
    have HO7 : Hid (OwnI w1 (w.heap.size + 1) v7 (Lat.wats s)) := hide (by rw [← HSZ.out]; exact ho7)
    have HO6 : Hid (Own w1 (w.heap.size + 1) (.slice a6 (Lat.wds s).length c6) (Lat.wds s)) := hide (by rw [← HSZ.out]; exact ho6)
    rw [hwe]
    have hl7 : (Lat.wats s).length ≤ 4096 := by have := HF.out.1; have := HF.out.2.2.1; omega
    clear h6 h7 ho7 ho6 hb1 HB0 HW0 hwe H6
    go_wp2_with (first
      | (at_builtin; refine wpList_append_int rfl _ _ rfl (w.heap.size + 1) _ _ rfl (World.ownsRow.alloc HO7.out _) _ (s.size : Int) rfl (cell_int1 _ _) (by omega) (by simp; omega) ?_; intro v7' w3 hown3 hgrow3; obtain ⟨g7, cap7, rfl, hg7, hg7'⟩ := World.ownsRow.form hown3 (by simp); have HO3 := hide hown3; have HO63 := hide (Own.kept HO6.out HO7.out hgrow3); have HB3 := hide ((HB1.out.alloc (by omega) (.cells #[.int .i64 (s.size : Int)] 3)).grown hgrow3 (by simp; omega) (fun j hj => by have := (HO7.out.lt j hj).1; omega)); have HW3 := hide ((hgrow3.block w.heap.size (by simp; omega) (fun e => by have := (HO7.out.lt w.heap.size e.symm).1; omega)).trans (block_alloc HW1.out _)); have hsz3 : w.heap.size + 1 ≤ w3.heap.size := (by have := hgrow3.size; simp at this; omega); clear hown3 hgrow3)
      | fail)
    have HRD : Hid (RdAt (w3.alloc (.cells #[.slice a6 (Lat.wds s).length c6, .slice (some ⟨g7, 0, none⟩) ((Lat.wats s).length + 1) cap7, .int .i64 0, .int .i64 0, .bool false] 62)) w3.heap.size (Lat.wds s) (Lat.wats s ++ [(s.size : Int)]) 0 ⟨Lat.wds s, false⟩) :=
      hide (rd_start (HO63.out.strs (fun x hx => Nat.le_trans (HF.out.2.1 x hx) (by decide)) (by have := HF.out.1; omega)) (by
        have := HO3.out.ints (by rw [List.length_append, List.length_singleton]; omega)
        rw [List.length_append, List.length_singleton] at this
        exact this) (HEV.out.below HB3.out) HF.out.1 HF.out.2.1 (by rw [List.length_append, List.length_singleton, HF.out.2.2.1]))
    have HB4 := hide (up HB3.out (boxBelow w3 (.cells #[.slice a6 (Lat.wds s).length c6, .slice (some ⟨g7, 0, none⟩) ((Lat.wats s).length + 1) cap7, .int .i64 0, .int .i64 0, .bool false] 62)))
    have HW4 := hide (block_alloc HW3.out (.cells #[.slice a6 (Lat.wds s).length c6, .slice (some ⟨g7, 0, none⟩) ((Lat.wats s).length + 1) cap7, .int .i64 0, .int .i64 0, .bool false] 62))
    have hsz4 : w3.heap.size < (w3.alloc (.cells #[.slice a6 (Lat.wds s).length c6, .slice (some ⟨g7, 0, none⟩) ((Lat.wats s).length + 1) cap7, .int .i64 0, .int .i64 0, .bool false] 62)).heap.size := by simp
    generalize (w3.alloc (.cells #[.slice a6 (Lat.wds s).length c6, .slice (some ⟨g7, 0, none⟩) ((Lat.wats s).length + 1) cap7, .int .i64 0, .int .i64 0, .bool false] 62)) = W4 at *
    generalize w3.heap.size = p at *
    clear HO3 HO63 HB3 HW3 HO6 HO7 HB1 HW1
    have HOK : Hid (Rd.Ok 4097 ⟨Lat.wds s, false⟩) := hide (Or.inr (by have := HF.out.1; simp only; omega))
    refine (module_any 4097 W4 p (Lat.wds s) (Lat.wats s ++ [(s.size : Int)]) _ HRD.out HOK.out).mono ?_
    rintro e w5 ⟨a1, n1, c1, a2, n2, c2, a3, n3, c3, rfl, hm5, hR5, hb5, hc5⟩
    have HC5 := hide hc5
    clear hc5
    have HPM : Hid (Rd.prM s = Rd.pM 4097 ⟨Lat.wds s, false⟩) := rfl
    have HPS : Hid (Rd.prS s = Rd.pEnd (Rd.prM s).2) := rfl
    have HWT : Hid ((Rd.prM s).2.f = false → moW 8196 (Rd.prM s).1 ≤ 1048576) := hide (fun hf => by
      have := Rd.pM_w (m := 8196) HOK.out hf
      have h2 := HF.out.2.2.2.1
      show moW 8196 (Rd.pM 4097 ⟨Lat.wds s, false⟩).1 ≤ _
      simp only at this
      omega)
    rw [← HPM.out] at hm5 hR5 ⊢
    have HB5 := hide (but_base HB4.out hb5 (by omega))
    have HW5 := hide (hb5.at (by omega) HW4.out)
    have hsz5 : w.heap.size + 1 ≤ w5.heap.size := by have := hb5.size; omega
    have HMO5 : Hid (MoAt (only (fun b => decide (p + 1 ≤ b)) w5) 8196 _ (Rd.prM s).1) := hide (hm5.sub (fresh_mono (by omega)))
    have hpl : p < w5.heap.size := hR5.lt
    have HR5 := hide hR5
    clear hm5 hR5 hb5 HRD HB4 HW4 HOK HPM
    obtain ⟨x, hx⟩ : ∃ x, x = (Rd.prM s).1.name := ⟨_, rfl⟩
    have HXN := hide hx
    rw [← hx] at HMO5 ⊢
    clear hx
    have HR6 := hide (HR5.out.below (boxBelow w5 (.cells #[.string x, .slice a1 n1 c1, .slice a2 n2 c2, .slice a3 n3 c3] 26)))
    have HB6 := hide (up HB5.out (boxBelow w5 (.cells #[.string x, .slice a1 n1 c1, .slice a2 n2 c2, .slice a3 n3 c3] 26)))
    have HW6 := hide (block_alloc HW5.out (.cells #[.string x, .slice a1 n1 c1, .slice a2 n2 c2, .slice a3 n3 c3] 26))
    have HM6 := hide (block_new w5 (.cells #[.string x, .slice a1 n1 c1, .slice a2 n2 c2, .slice a3 n3 c3] 26))
    have HMO6 := hide (HMO5.out.sub (only_alloc _ _ (.cells #[.string x, .slice a1 n1 c1, .slice a2 n2 c2, .slice a3 n3 c3] 26)))
    clear HR5 HB5 HW5 HMO5
    go_wp2_with fail
    generalize (w5.alloc (.cells #[.string x, .slice a1 n1 c1, .slice a2 n2 c2, .slice a3 n3 c3] 26)) = W6 at *
    generalize w5.heap.size = q at *
    refine (end_any W6 p _ _ 0 _ HR6.out).mono ?_
    rintro e w7 ⟨rfl, hR7, hb7⟩
    have HR7 : Hid (RdAt w7 p (Lat.wds s) (Lat.wats s ++ [(s.size : Int)]) 0 (Rd.prS s)) := hide hR7
    have HB7 := hide (but_base HB6.out hb7 (by omega))
    have HW7 := hide (hb7.at (by omega) HW6.out)
    have HM7 := hide (hb7.at (by omega) HM6.out)
    have HMO7 : Hid (MoAt (only (fun b => decide (p + 1 ≤ b)) w7) 8196 _ (Rd.prM s).1) := hide (HMO6.out.sub (hb7.sub (decide_eq_false (by omega))))
    clear hR7 hb7 HR6 HB6 HW6 HM6 HMO6
    have HPL : Hid (Rd.Le (Rd.prS s) (Rd.prM s).2) := hide (by rw [HPS.out]; exact pend_le _)
    obtain ⟨_, _, _, _, _, _, _, q4, _⟩ := HR7.out.cells
    cases hf : (Rd.prS s).f
    · rw [hf] at q4 HE HN
      simp only [Bool.false_eq_true, if_false] at HE HN
      have HMW := hide (HWT.out (HPL.out.nf hf))
      obtain ⟨k0, _⟩ : w7.cell? ⟨q, 0, none⟩ = some (.string x) ∧ True := ⟨block_at HM7.out 0, trivial⟩
      obtain ⟨k1, _⟩ : w7.cell? ⟨q, 1, none⟩ = some (.slice a1 n1 c1) ∧ True := ⟨block_at HM7.out 1, trivial⟩
      obtain ⟨k2, _⟩ : w7.cell? ⟨q, 2, none⟩ = some (.slice a2 n2 c2) ∧ True := ⟨block_at HM7.out 2, trivial⟩
      obtain ⟨k3, _⟩ : w7.cell? ⟨q, 3, none⟩ = some (.slice a3 n3 c3) ∧ True := ⟨block_at HM7.out 3, trivial⟩
      go_wp2_with fail
      refine (tcheck_any 8196 w7 _ (Rd.prM s).1 (HMO7.out.sub (only_sub _ _)) HMW.out (HT.out.below HB7.out)).mono ?_
      rintro e w8 ⟨rfl, hb8⟩
      have HB8 := hide (up HB7.out hb8)
      have HW8 := hide ((hb8.block w.heap.size (block_lt HW7.out)).trans HW7.out)
      have HM8 := hide ((hb8.block q (block_lt HM7.out)).trans HM7.out)
      have HMO8 : Hid (MoAt (only (fun b => decide (p + 1 ≤ b)) w8) 8196 _ (Rd.prM s).1) := hide (HMO7.out.sub (fun a v hv => by
        obtain ⟨m1, m2⟩ := only_cell.1 hv
        exact only_cell.2 ⟨m1, cellUp m2 hb8⟩))
      clear q4 hb8 k0 k1 k2 k3 HB7 HW7 HM7 HMO7 HR7
      obtain ⟨E, hE⟩ : ∃ E, E = Lat.moE 8196 (Rd.prM s).1 := ⟨_, rfl⟩
      have HEE := hide hE
      rw [← hE] at HE ⊢
      clear hE
      obtain ⟨r0, y0⟩ : w8.cell? ⟨w.heap.size, 0, none⟩ = some (.string ⟨#[]⟩) ∧ w8.frozen? ⟨w.heap.size, 0, none⟩ = false := ⟨block_at HW8.out 0, block_free HW8.out 0⟩
      obtain ⟨r1, y1⟩ : w8.cell? ⟨w.heap.size, 1, none⟩ = some (.slice none 0 0) ∧ w8.frozen? ⟨w.heap.size, 1, none⟩ = false := ⟨block_at HW8.out 1, block_free HW8.out 1⟩
      obtain ⟨r2, y2⟩ : w8.cell? ⟨w.heap.size, 2, none⟩ = some (.slice none 0 0) ∧ w8.frozen? ⟨w.heap.size, 2, none⟩ = false := ⟨block_at HW8.out 2, block_free HW8.out 2⟩
      obtain ⟨r3, y3⟩ : w8.cell? ⟨w.heap.size, 3, none⟩ = some (.slice none 0 0) ∧ w8.frozen? ⟨w.heap.size, 3, none⟩ = false := ⟨block_at HW8.out 3, block_free HW8.out 3⟩
      by_cases h0 : E = 0
      · subst h0
        obtain ⟨k0, _⟩ : w8.cell? ⟨q, 0, none⟩ = some (.string x) ∧ True := ⟨block_at HM8.out 0, trivial⟩
        obtain ⟨k1, _⟩ : w8.cell? ⟨q, 1, none⟩ = some (.slice a1 n1 c1) ∧ True := ⟨block_at HM8.out 1, trivial⟩
        obtain ⟨k2, _⟩ : w8.cell? ⟨q, 2, none⟩ = some (.slice a2 n2 c2) ∧ True := ⟨block_at HM8.out 2, trivial⟩
        obtain ⟨k3, _⟩ : w8.cell? ⟨q, 3, none⟩ = some (.slice a3 n3 c3) ∧ True := ⟨block_at HM8.out 3, trivial⟩
        go_wp2_with fail
        obtain ⟨⟨Wf, hWf, f0, f1, f2, f3⟩, hBf, hSf⟩ := res4 HW8.out HB8.out (.string x) (.slice a1 n1 c1) (.slice a2 n2 c2) (.slice a3 n3 c3)
        unfold put4 at hWf hBf hSf
        rw [← hWf] at hBf hSf ⊢
        clear hWf r0 r1 r2 r3 y0 y1 y2 y3 k0 k1 k2 k3
        refine bodyPost_ret (v := .tuple #[.agg #[.string x, .slice a1 n1 c1, .slice a2 n2 c2, .slice a3 n3 c3], .int .i64 0, .int .i64 0]) (by simp [results, Tryz.results8, go_sem, f0, f1, f2, f3]) rfl ?_
        have HX2 : Rd.prX s = (Rd.prM s).1 := by rw [HX.out, if_pos HE.out]
        rw [HX2, HN.out, HE.out, ← HXN.out]
        exact ⟨_, _, _, _, _, _, _, _, _, rfl, (HMO8.out.sub (fresh_mono (by omega))).sub hSf, hBf, HC5.out⟩
      · have h0' := bne_zero_true h0
        go_wp2_with fail
        obtain ⟨⟨Wf, hWf, f0, f1, f2, f3⟩, hBf, hSf⟩ := res4 HW8.out HB8.out (.string ⟨#[]⟩) (.slice none 0 0) (.slice none 0 0) (.slice none 0 0)
        unfold put4 at hWf hBf hSf
        rw [← hWf] at hBf hSf ⊢
        clear hWf r0 r1 r2 r3 y0 y1 y2 y3
        refine bodyPost_ret (v := .tuple #[.agg #[.string ⟨#[]⟩, .slice none 0 0, .slice none 0 0, .slice none 0 0], .int .i64 0, .int .i64 E]) (by simp [results, Tryz.results8, go_sem, f0, f1, f2, f3]) rfl ?_
        have HX2 : Rd.prX s = Rd.mo0 := by rw [HX.out, if_neg (by rw [HE.out]; exact h0)]
        rw [HX2, HN.out, HE.out]
        exact ⟨_, _, _, _, _, _, _, _, _, rfl, mo0_at _ _, hBf, Nat.le_refl _⟩
    · rw [hf] at q4 HE HN
      simp only [if_true] at HE HN
      go_wp2_with fail
      refine (where_any w7 p _ _ 0 _ HR7.out).mono ?_
      rintro e w8 ⟨rfl, hb8⟩
      have HB8 := hide (up HB7.out hb8)
      have HW8 := hide ((hb8.block w.heap.size (block_lt HW7.out)).trans HW7.out)
      clear q4 hb8
      obtain ⟨r0, y0⟩ : w8.cell? ⟨w.heap.size, 0, none⟩ = some (.string ⟨#[]⟩) ∧ w8.frozen? ⟨w.heap.size, 0, none⟩ = false := ⟨block_at HW8.out 0, block_free HW8.out 0⟩
      obtain ⟨r1, y1⟩ : w8.cell? ⟨w.heap.size, 1, none⟩ = some (.slice none 0 0) ∧ w8.frozen? ⟨w.heap.size, 1, none⟩ = false := ⟨block_at HW8.out 1, block_free HW8.out 1⟩
      obtain ⟨r2, y2⟩ : w8.cell? ⟨w.heap.size, 2, none⟩ = some (.slice none 0 0) ∧ w8.frozen? ⟨w.heap.size, 2, none⟩ = false := ⟨block_at HW8.out 2, block_free HW8.out 2⟩
      obtain ⟨r3, y3⟩ : w8.cell? ⟨w.heap.size, 3, none⟩ = some (.slice none 0 0) ∧ w8.frozen? ⟨w.heap.size, 3, none⟩ = false := ⟨block_at HW8.out 3, block_free HW8.out 3⟩
      go_wp2_with fail
      obtain ⟨⟨Wf, hWf, f0, f1, f2, f3⟩, hBf, hSf⟩ := res4 HW8.out HB8.out (.string ⟨#[]⟩) (.slice none 0 0) (.slice none 0 0) (.slice none 0 0)
      unfold put4 at hWf hBf hSf
      rw [← hWf] at hBf hSf ⊢
      clear hWf r0 r1 r2 r3 y0 y1 y2 y3
      refine bodyPost_ret (v := .tuple #[.agg #[.string ⟨#[]⟩, .slice none 0 0, .slice none 0 0, .slice none 0 0], .int .i64 ((Lat.wats s ++ [(s.size : Int)]).getD ((Lat.wds s).length - (Rd.prS s).r.length) 0), .int .i64 3]) (by simp [results, Tryz.results8, go_sem, f0, f1, f2, f3]) rfl ?_
      have HX2 : Rd.prX s = Rd.mo0 := by rw [HX.out, if_neg (by rw [HE.out]; decide)]
      rw [HX2, HN.out, HE.out]
      exact ⟨_, _, _, _, _, _, _, _, _, rfl, mo0_at _ _, hBf, Nat.le_refl _⟩
  · rw [if_neg hwe] at HE HN
    have hwe' := bne_zero_true hwe
    obtain ⟨a7, n7, c7, rfl⟩ : ∃ a n c, v7 = .slice a n c := by
      obtain ⟨a, _, _, c, e, _⟩ := h7
      exact ⟨a, _, c, e⟩
    clear h6 h7 ho7 ho6 hb1 HB0 HW0 H6
    have HWE := hide hwe
    clear hwe
    generalize Lat.we s = er at *
    generalize Lat.wn s = nn at *
    obtain ⟨r0, y0⟩ : w1.cell? ⟨w.heap.size, 0, none⟩ = some (.string ⟨#[]⟩) ∧ w1.frozen? ⟨w.heap.size, 0, none⟩ = false := ⟨block_at HW1.out 0, block_free HW1.out 0⟩
    obtain ⟨r1, y1⟩ : w1.cell? ⟨w.heap.size, 1, none⟩ = some (.slice none 0 0) ∧ w1.frozen? ⟨w.heap.size, 1, none⟩ = false := ⟨block_at HW1.out 1, block_free HW1.out 1⟩
    obtain ⟨r2, y2⟩ : w1.cell? ⟨w.heap.size, 2, none⟩ = some (.slice none 0 0) ∧ w1.frozen? ⟨w.heap.size, 2, none⟩ = false := ⟨block_at HW1.out 2, block_free HW1.out 2⟩
    obtain ⟨r3, y3⟩ : w1.cell? ⟨w.heap.size, 3, none⟩ = some (.slice none 0 0) ∧ w1.frozen? ⟨w.heap.size, 3, none⟩ = false := ⟨block_at HW1.out 3, block_free HW1.out 3⟩
    go_wp2_with fail
    obtain ⟨⟨Wf, hWf, f0, f1, f2, f3⟩, hBf, hSf⟩ := res4 HW1.out HB1.out (.string ⟨#[]⟩) (.slice none 0 0) (.slice none 0 0) (.slice none 0 0)
    unfold put4 at hWf hBf hSf
    rw [← hWf] at hBf hSf ⊢
    clear hWf r0 r1 r2 r3 y0 y1 y2 y3
    refine bodyPost_ret (v := .tuple #[.agg #[.string ⟨#[]⟩, .slice none 0 0, .slice none 0 0, .slice none 0 0], .int .i64 nn, .int .i64 er]) (by simp [results, Tryz.results8, go_sem, f0, f1, f2, f3]) rfl ?_
    have HX2 : Rd.prX s = Rd.mo0 := by rw [HX.out, if_neg (by rw [HE.out]; exact HWE.out)]
    rw [HX2, HN.out, HE.out]
    exact ⟨_, _, _, _, _, _, _, _, _, rfl, mo0_at _ _, hBf, Nat.le_refl _⟩

theorem parse_any (w : World) (s : ByteArray) (hs : s.size ≤ maxLen) (ht : Tab w) (he : ErrV w) :
    Calls Tryz.prog 8 #[.string s] w fun e w' => ∃ a1 n1 c1 a2 n2 c2 a3 n3 c3, e = .returned (.tuple #[.agg #[.string (Rd.prX s).name, .slice a1 n1 c1, .slice a2 n2 c2, .slice a3 n3 c3], .int .i64 (Rd.prN s), .int .i64 (Rd.prE s)]) ∧
      MoAt (fr w w') 8196 (.agg #[.string (Rd.prX s).name, .slice a1 n1 c1, .slice a2 n2 c2, .slice a3 n3 c3]) (Rd.prX s) ∧ Below w.heap.size w w' :=
  (parse_anyC w s hs ht he).mono fun _ _ ⟨a1, n1, c1, a2, n2, c2, a3, n3, c3, h1, h2, h3, _⟩ => ⟨a1, n1, c1, a2, n2, c2, a3, n3, c3, h1, h2, h3⟩

end Go.Proofs.YtbncnkfogkhoeabGreatDoor
