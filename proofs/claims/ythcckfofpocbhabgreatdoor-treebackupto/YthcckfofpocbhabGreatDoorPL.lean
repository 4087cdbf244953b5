/- Walks over package parse: expr answers what the plain function does. -/
import Derived.Test.YthcckfofpocbhabGreatDoorPK
namespace Go.Proofs.YthcckfofpocbhabGreatDoor
open Go.RowKit

/-- A call's result alone, in the block that it makes first. -/
structure Res (w : World) (p : Nat) (W : World) (T : TypeId) (r : Array Value) : Prop where
  res : W.heap[w.heap.size]? = some (.cells r T (0, 0))
  but : But p w W
  size : w.heap.size + 1 ≤ W.heap.size
  plt : p < w.heap.size
theorem Res.start (w : World) (p : Nat) (T : TypeId) (r : Array Value) (hp : p < w.heap.size) : Res w p (w.alloc (.cells r T (0, 0))) T r :=
  ⟨block_new w _, But.of_below (boxBelow _ _), by simp, hp⟩
theorem Res.step {w : World} {p : Nat} {W W' : World} {T : TypeId} {r : Array Value} (h : Res w p W T r) (hb : But p W W') : Res w p W' T r :=
  ⟨hb.at (by have := h.plt; omega) h.res, h.but.trans hb, Nat.le_trans h.size hb.size, h.plt⟩
theorem Res.cell {w : World} {p : Nat} {W : World} {T : TypeId} {r : Array Value} (h : Res w p W T r) {i : Nat} {v : Value} (hv : r[i]? = some v) : W.cell? ⟨w.heap.size, i, none⟩ = some v ∧ W.frozen? ⟨w.heap.size, i, none⟩ = false := ⟨(block_at h.res i).trans hv, block_free h.res i⟩
theorem Res.setr {w : World} {p : Nat} {W : World} {T : TypeId} {r : Array Value} (h : Res w p W T r) (i : Nat) (v : Value) : Res w p (W.setCell ⟨w.heap.size, i, none⟩ v) T (r.setIfInBounds i v) :=
  ⟨block_set h.res i v, h.but.set (Or.inr (by simp)) v, by simp only [World.setCell, Array.size_modify]; exact h.size, h.plt⟩
theorem Res.rd {w : World} {p : Nat} {W : World} {T : TypeId} {r : Array Value} {ws : List ByteArray} {ps : List Int} {d : Nat} {st : Rd.Sr} (h : Res w p W T r) (hR : RdAt W p ws ps d st) (i : Nat) (v : Value) : RdAt (W.setCell ⟨w.heap.size, i, none⟩ v) p ws ps d st := hR.set (by have := h.plt; simp; omega) v
theorem Res.fin4 {w : World} {p : Nat} {W : World} {T : TypeId} {r0 r1 r2 r3 : Value} {ws : List ByteArray} {ps : List Int} {d : Nat} {st : Rd.Sr} (h : Res w p W T #[r0, r1, r2, r3]) (hR : RdAt W p ws ps d st) (c0 c1 c2 c3 : Value) :
    (∃ Wf, Wf = put4 W w.heap.size c0 c1 c2 c3 ∧ Wf.cell? ⟨w.heap.size, 0, none⟩ = some c0 ∧ Wf.cell? ⟨w.heap.size, 1, none⟩ = some c1 ∧ Wf.cell? ⟨w.heap.size, 2, none⟩ = some c2 ∧ Wf.cell? ⟨w.heap.size, 3, none⟩ = some c3) ∧ But p w (put4 W w.heap.size c0 c1 c2 c3) ∧ RdAt (put4 W w.heap.size c0 c1 c2 c3) p ws ps d st ∧ Sub (only (fun b => decide (w.heap.size + 1 ≤ b)) W) (fr w (put4 W w.heap.size c0 c1 c2 c3)) := by
  have h0 := h.setr 0 c0
  have h1 := h0.setr 1 c1
  have h2 := h1.setr 2 c2
  have h3 := h2.setr 3 c3
  refine ⟨⟨_, rfl, (h3.cell (i := 0) rfl).1, (h3.cell (i := 1) rfl).1, (h3.cell (i := 2) rfl).1, (h3.cell (i := 3) rfl).1⟩, h3.but, h2.rd (h1.rd (h0.rd (h.rd hR 0 c0) 1 c1) 2 c2) 3 c3, fun a v hv => ?_⟩
  obtain ⟨k1, k2⟩ := only_cell.1 hv
  have hle := of_decide_eq_true k1
  refine only_cell.2 ⟨decide_eq_true (by omega), ?_⟩
  unfold put4
  rw [World.cell?_of_block (Below.heap_setCell _ _ _ _ (by simp only; omega)), World.cell?_of_block (Below.heap_setCell _ _ _ _ (by simp only; omega)), World.cell?_of_block (Below.heap_setCell _ _ _ _ (by simp only; omega)), World.cell?_of_block (Below.heap_setCell _ _ _ _ (by simp only; omega))]
  exact k2

set_option maxHeartbeats 4000000 in
set_option maxRecDepth 100000 in
theorem expr_of (k : Nat) (hC : ∀ (w : World) (p : Nat) (ws : List ByteArray) (ps : List Int) (d : Nat) (st : Rd.Sr), RdAt w p ws ps d st → Rd.Ok k st → DOk d st → d ≤ 20 → Rd.is (Rd.pk st) [40] = true →
      Calls Tryz.prog 84 #[.pointer (some ⟨p, 0, none⟩)] w fun e w' => ∃ c0 c1 c2 c3, e = .returned (.agg #[c0, c1, c2, c3]) ∧ ExAt (fr w w') (k + 1) c0 c1 c2 c3 (Rd.pE k d st).1 ∧ RdAt w' p ws ps d (Rd.pE k d st).2 ∧ But p w w')
    (hE : ∀ d st, Rd.is (Rd.pk st) [40] = false → Rd.Ok k st → Rd.pE k d st = if Rd.digs (Rd.pk st) then Rd.nuE st else Rd.nmE st) : ExprC k := by
  intro w p ws ps d st h hk hd
  have HC := hide hC
  have HE := hide (hE d st)
  have HS0 := hide (Res.start w p 52 #[.int .i64 0, .int .i64 0, .string ⟨#[]⟩, .slice none 0 0] h.lt)
  have HR0 := hide (h.below (boxBelow w (.cells #[.int .i64 0, .int .i64 0, .string ⟨#[]⟩, .slice none 0 0] 52)))
  clear hC hE
  go_enter Tryz.func72, Tryz.ntmps72
  go_wp2_with fail
  generalize (w.alloc (.cells #[.int .i64 0, .int .i64 0, .string ⟨#[]⟩, .slice none 0 0] 52)) = W0 at *
  refine (peek_any W0 p ws ps d st HR0.out).mono ?_
  rintro e w1 ⟨rfl, h1, hb1⟩
  have HS1 := hide (HS0.out.step hb1)
  have HR1 := hide h1
  have hxs : (Rd.pk st).size ≤ 4096 := pk_size h1 0
  clear hb1 HS0 HR0 h h1
  obtain ⟨x, hx⟩ : ∃ x, x = Rd.pk st := ⟨_, rfl⟩
  have HXE := hide hx
  rw [← hx] at HE hxs ⊢
  clear hx
  by_cases h0 : x.toList = [40]
  · have hp : Rd.is (Rd.pk st) [40] = true := by rw [← HXE.out]; exact is_t h0
    have hf : st.f = false := Rd.pk_ne (n := 0) hp (by simp)
    have hd20 : d ≤ 20 := by
      rcases hd.2 with e | e
      · rw [hf] at e; cases e
      · exact e
    go_wp2_with fail
    refine (HC.out _ p ws ps d st HR1.out hk hd hd20 hp).mono ?_
    rintro e w2 ⟨c0, c1, c2, c3, rfl, hx2, hR2, hb2⟩
    have HS2 := hide (HS1.out.step hb2)
    obtain ⟨ax, cx, rfl, rfl, rfl, rfl⟩ := hx2.shape
    have HX2 := hide (hx2.sub (fresh_mono HS1.out.size))
    have HR2 := hide hR2
    clear hx2 hR2 hb2 HS1 HR1
    obtain ⟨r0, y0⟩ := HS2.out.cell (i := 0) rfl
    obtain ⟨r1, y1⟩ := HS2.out.cell (i := 1) rfl
    obtain ⟨r2, y2⟩ := HS2.out.cell (i := 2) rfl
    obtain ⟨r3, y3⟩ := HS2.out.cell (i := 3) rfl
    go_wp2_with fail
    obtain ⟨⟨Wf, hWf, f0, f1, f2, f3⟩, hBf, hRf, hSf⟩ := HS2.out.fin4 HR2.out (.int .i64 (Rd.pE k d st).1.kind) (.int .i64 (Rd.pE k d st).1.n) (.string (Rd.pE k d st).1.name) (.slice ax (Rd.pE k d st).1.args.length cx)
    unfold put4 at hWf hBf hRf hSf
    rw [← hWf] at hBf hRf hSf ⊢
    clear hWf r0 r1 r2 r3 y0 y1 y2 y3
    refine bodyPost_ret (v := .agg #[.int .i64 (Rd.pE k d st).1.kind, .int .i64 (Rd.pE k d st).1.n, .string (Rd.pE k d st).1.name, .slice ax (Rd.pE k d st).1.args.length cx]) (by simp [results, Tryz.results72, go_sem, f0, f1, f2, f3]) rfl ?_
    exact ⟨_, _, _, _, rfl, HX2.out.sub hSf, hRf, hBf⟩
  · have b0 := beq_f h0
    have HEE := hide (HE.out (is_f h0) hk)
    clear HE
    go_wp2_with fail
    refine (isDigits_any _ x (by unfold maxLen; omega)).mono ?_
    rintro e w2 ⟨rfl, hw2⟩
    subst hw2
    obtain ⟨b, hb⟩ : ∃ b, b = Rd.digs x := ⟨_, rfl⟩
    rw [← hb] at HEE ⊢
    clear hb
    cases b
    · rw [if_neg (by simp)] at HEE
      go_wp2_with fail
      refine (name_any' _ p ws ps d st HR1.out).mono ?_
      rintro e w3 ⟨rfl, hR3, hb3⟩
      have HNZ := hide (nm_size HR1.out)
      have HS2 := hide (HS1.out.step hb3)
      have HR2 := hide hR3
      have HEE2 : Hid (Rd.pE k d st = (⟨2, 0, (Rd.nmP st).1, []⟩, (Rd.nmP st).2)) := HEE
      clear hR3 hb3 HS1 HR1 HEE
      obtain ⟨r0, y0⟩ := HS2.out.cell (i := 0) rfl
      obtain ⟨r1, y1⟩ := HS2.out.cell (i := 1) rfl
      obtain ⟨r2, y2⟩ := HS2.out.cell (i := 2) rfl
      obtain ⟨r3, y3⟩ := HS2.out.cell (i := 3) rfl
      generalize Rd.nmP st = nm at *
      obtain ⟨nn, s3⟩ := nm
      simp only at HNZ HR2 HEE2 ⊢
      go_wp2_with fail
      obtain ⟨⟨Wf, hWf, f0, f1, f2, f3⟩, hBf, hRf, hSf⟩ := HS2.out.fin4 HR2.out (.int .i64 2) (.int .i64 0) (.string nn) (.slice none 0 0)
      unfold put4 at hWf hBf hRf hSf
      rw [← hWf] at hBf hRf hSf ⊢
      clear hWf r0 r1 r2 r3 y0 y1 y2 y3
      refine bodyPost_ret (v := .agg #[.int .i64 2, .int .i64 0, .string nn, .slice none 0 0]) (by simp [results, Tryz.results72, go_sem, f0, f1, f2, f3]) rfl ?_
      refine ⟨_, _, _, _, rfl, ?_, ?_, hBf⟩
      · rw [HEE2.out]
        exact ExAt.mk (exs_nil _ _) HNZ.out ⟨by decide, by decide⟩ ⟨by decide, by decide⟩
      · rw [HEE2.out]
        exact hRf
    · rw [if_pos rfl] at HEE
      go_wp2_with fail
      refine (number_any _ p ws ps d st HR1.out).mono ?_
      rintro e w3 ⟨rfl, hR3, hb3⟩
      have HNZ : Hid (I64 (Rd.numV (Rd.pk (Rd.nu st)))) := hide (by
        refine numV_i64 _ ?_
        unfold Rd.nu
        split
        · exact Nat.zero_le _
        · rename_i hbad
          unfold Rd.badN at hbad
          simp only [Bool.or_eq_true, decide_eq_true_eq, not_or] at hbad
          omega)
      have HS2 := hide (HS1.out.step hb3)
      have HR2 := hide hR3
      have HEE2 : Hid (Rd.pE k d st = (⟨1, Rd.numV (Rd.pk (Rd.nu st)), ⟨#[]⟩, []⟩, Rd.tk (Rd.nu st))) := HEE
      clear hR3 hb3 HS1 HR1 HEE
      obtain ⟨r0, y0⟩ := HS2.out.cell (i := 0) rfl
      obtain ⟨r1, y1⟩ := HS2.out.cell (i := 1) rfl
      obtain ⟨r2, y2⟩ := HS2.out.cell (i := 2) rfl
      obtain ⟨r3, y3⟩ := HS2.out.cell (i := 3) rfl
      generalize Rd.numV (Rd.pk (Rd.nu st)) = nn at *
      go_wp2_with fail
      obtain ⟨⟨Wf, hWf, f0, f1, f2, f3⟩, hBf, hRf, hSf⟩ := HS2.out.fin4 HR2.out (.int .i64 1) (.int .i64 nn) (.string ⟨#[]⟩) (.slice none 0 0)
      unfold put4 at hWf hBf hRf hSf
      rw [← hWf] at hBf hRf hSf ⊢
      clear hWf r0 r1 r2 r3 y0 y1 y2 y3
      refine bodyPost_ret (v := .agg #[.int .i64 1, .int .i64 nn, .string ⟨#[]⟩, .slice none 0 0]) (by simp [results, Tryz.results72, go_sem, f0, f1, f2, f3]) rfl ?_
      refine ⟨_, _, _, _, rfl, ?_, ?_, hBf⟩
      · rw [HEE2.out]
        exact ExAt.mk (exs_nil _ _) (Nat.zero_le _) ⟨by decide, by decide⟩ HNZ.out
      · rw [HEE2.out]
        exact hRf

theorem pexpr_any : ∀ k, ExprC k
  | 0 => by
    refine expr_of 0 (fun w p ws ps d st h hk hd hd20 hp => ?_) (fun d st h hk => ?_)
    · have hf := Rd.pk_ne (n := 0) hp (by simp)
      rcases hk with e | e
      · rw [hf] at e; cases e
      · omega
    · have hf : st.f = true := by
        rcases hk with e | e
        · exact e
        · omega
      have e1 : Rd.pk st = ⟨#[]⟩ := Rd.pk_failed hf 0
      rw [e1]
      rfl
  | k + 1 => by
    refine expr_of (k + 1) (fun w p ws ps d st h hk hd hd20 hp => ?_) (fun d st h hk => ?_)
    · have e : Rd.pE (k + 1) d st = Rd.cE (Rd.pE k (d + 1)) k d st := by simp only [Rd.pE]; rw [if_pos hp]
      rw [e]
      exact compound_of k (pexpr_any k) w p ws ps d st h hk hd hd20
    · simp only [Rd.pE]
      rw [if_neg (by rw [h]; simp)]

end Go.Proofs.YthcckfofpocbhabGreatDoor
