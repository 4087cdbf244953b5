/- Walks over package parse: compound, expr. -/
import Derived.Test.YtbncnkfogkhoeabGreatDoorZAY
import Derived.Deep.RegionHeld3
import Derived.Deep.CutRange
import Derived.Deep.CutBlock
import Derived.Deep.RegionLaw
namespace Go.Proofs.YtbncnkfogkhoeabGreatDoor
open Go.RowKit

theorem two_new (w : World) (o1 o2 : Obj) : ((w.alloc o1).alloc o2).heap[w.heap.size]? = some o1 ∧ ((w.alloc o1).alloc o2).heap[w.heap.size + 1]? = some o2 ∧ ((w.alloc o1).alloc o2).heap.size = w.heap.size + 2 := by
  have e : (w.alloc o1).heap.size = w.heap.size + 1 := by simp
  refine ⟨block_alloc (block_new w o1) o2, ?_, by simp⟩
  have := block_new (w.alloc o1) o2
  rw [e] at this
  exact this

/-- A call's result and its one variable, in the two blocks that it makes first. -/
structure Loc (w : World) (p : Nat) (W : World) (T : TypeId) (r c : Array Value) : Prop where
  res : W.heap[w.heap.size]? = some (.cells r T (0, 0))
  loc : W.heap[w.heap.size + 1]? = some (.cells c T (0, 0))
  but : But p w W
  size : w.heap.size + 2 ≤ W.heap.size
  plt : p < w.heap.size
section
variable {w : World} {p : Nat} {W W' : World} {T : TypeId} {r c : Array Value}
theorem Loc.start (w : World) (p : Nat) (T : TypeId) (r c : Array Value) (hp : p < w.heap.size) : Loc w p ((w.alloc (.cells r T (0, 0))).alloc (.cells c T (0, 0))) T r c := by
  obtain ⟨h1, h2, h3⟩ := two_new w (.cells r T (0, 0)) (.cells c T (0, 0))
  exact ⟨h1, h2, But.of_below (up (boxBelow _ _) (boxBelow _ _)), by rw [h3]; exact Nat.le_refl _, hp⟩
theorem Loc.step (h : Loc w p W T r c) (hb : But p W W') : Loc w p W' T r c :=
  ⟨hb.at (by have := h.plt; omega) h.res, hb.at (by have := h.plt; omega) h.loc, h.but.trans hb, Nat.le_trans h.size hb.size, h.plt⟩
theorem Loc.set (h : Loc w p W T r c) (i : Nat) (v : Value) : Loc w p (W.setCell ⟨w.heap.size + 1, i, none⟩ v) T r (c.setIfInBounds i v) :=
  ⟨block_other h.res (by simp) _, block_set h.loc i v, h.but.set (Or.inr (by simp)) v, by simp only [World.setCell, Array.size_modify]; exact h.size, h.plt⟩
theorem Loc.setr (h : Loc w p W T r c) (i : Nat) (v : Value) : Loc w p (W.setCell ⟨w.heap.size, i, none⟩ v) T (r.setIfInBounds i v) c :=
  ⟨block_set h.res i v, block_other h.loc (by simp) _, h.but.set (Or.inr (by simp)) v, by simp only [World.setCell, Array.size_modify]; exact h.size, h.plt⟩
theorem Loc.grown {row : Option Nat} (h : Loc w p W T r c) (hg : W.grownBy W' row) (hr : ∀ k, row = some k → w.heap.size + 2 ≤ k) : Loc w p W' T r c :=
  ⟨by rw [hg.block _ (by have := h.size; omega) (fun e => by have := hr _ e.symm; omega)]; exact h.res, by rw [hg.block _ (by have := h.size; omega) (fun e => by have := hr _ e.symm; omega)]; exact h.loc,
    h.but.grown hg (fun k hk => by have := hr k hk; omega), Nat.le_trans h.size hg.size, h.plt⟩
theorem Loc.alloc (h : Loc w p W T r c) (o : Obj) : Loc w p (W.alloc o) T r c := h.step (But.of_below (boxBelow _ _))
theorem Loc.drew (h : Loc w p W T r c) (n : Nat) : Loc w p (W.drewN n) T r c := h.step ((But.refl _ _).drew n)
theorem Loc.cell (h : Loc w p W T r c) {i : Nat} {v : Value} (hv : c[i]? = some v) : W.cell? ⟨w.heap.size + 1, i, none⟩ = some v ∧ W.frozen? ⟨w.heap.size + 1, i, none⟩ = false := ⟨(block_at h.loc i).trans hv, block_free h.loc i⟩
theorem Loc.rcell (h : Loc w p W T r c) {i : Nat} {v : Value} (hv : r[i]? = some v) : W.cell? ⟨w.heap.size, i, none⟩ = some v ∧ W.frozen? ⟨w.heap.size, i, none⟩ = false := ⟨(block_at h.res i).trans hv, block_free h.res i⟩
theorem Loc.rd {ws : List ByteArray} {ps : List Int} {d : Nat} {st : Rd.Sr} (h : Loc w p W T r c) (hR : RdAt W p ws ps d st) (i : Nat) (v : Value) : RdAt (W.setCell ⟨w.heap.size + 1, i, none⟩ v) p ws ps d st := hR.set (by have := h.plt; simp; omega) v
theorem Loc.rdr {ws : List ByteArray} {ps : List Int} {d : Nat} {st : Rd.Sr} (h : Loc w p W T r c) (hR : RdAt W p ws ps d st) (i : Nat) (v : Value) : RdAt (W.setCell ⟨w.heap.size, i, none⟩ v) p ws ps d st := hR.set (by have := h.plt; simp; omega) v
end

/-- The world, with four cells of block b laid. -/
def put4 (W : World) (b : Nat) (c0 c1 c2 c3 : Value) : World := (((W.setCell ⟨b, 0, none⟩ c0).setCell ⟨b, 1, none⟩ c1).setCell ⟨b, 2, none⟩ c2).setCell ⟨b, 3, none⟩ c3
theorem Loc.fin4 {w : World} {p : Nat} {W : World} {T : TypeId} {r0 r1 r2 r3 : Value} {c : Array Value} {ws : List ByteArray} {ps : List Int} {d : Nat} {st : Rd.Sr} (h : Loc w p W T #[r0, r1, r2, r3] c) (hR : RdAt W p ws ps d st) (c0 c1 c2 c3 : Value) :
    (∃ Wf, Wf = put4 W w.heap.size c0 c1 c2 c3 ∧ Wf.cell? ⟨w.heap.size, 0, none⟩ = some c0 ∧ Wf.cell? ⟨w.heap.size, 1, none⟩ = some c1 ∧ Wf.cell? ⟨w.heap.size, 2, none⟩ = some c2 ∧ Wf.cell? ⟨w.heap.size, 3, none⟩ = some c3) ∧ But p w (put4 W w.heap.size c0 c1 c2 c3) ∧ RdAt (put4 W w.heap.size c0 c1 c2 c3) p ws ps d st ∧ Sub (only (fun b => decide (w.heap.size + 2 ≤ b)) W) (fr w (put4 W w.heap.size c0 c1 c2 c3)) := by
  have h0 := h.setr 0 c0
  have h1 := h0.setr 1 c1
  have h2 := h1.setr 2 c2
  have h3 := h2.setr 3 c3
  refine ⟨⟨_, rfl, (h3.rcell (i := 0) rfl).1, (h3.rcell (i := 1) rfl).1, (h3.rcell (i := 2) rfl).1, (h3.rcell (i := 3) rfl).1⟩, h3.but, h2.rdr (h1.rdr (h0.rdr (h.rdr hR 0 c0) 1 c1) 2 c2) 3 c3, fun a v hv => ?_⟩
  obtain ⟨k1, k2⟩ := only_cell.1 hv
  have hle := of_decide_eq_true k1
  refine only_cell.2 ⟨decide_eq_true (by omega), ?_⟩
  unfold put4
  rw [World.cell?_of_block (Below.heap_setCell _ _ _ _ (by simp only; omega)), World.cell?_of_block (Below.heap_setCell _ _ _ _ (by simp only; omega)), World.cell?_of_block (Below.heap_setCell _ _ _ _ (by simp only; omega)), World.cell?_of_block (Below.heap_setCell _ _ _ _ (by simp only; omega))]
  exact k2
theorem ExAt.mk {W : World} {m : Nat} {v : Value} {kd n : Int} {s : ByteArray} {l : List Ex} (h : ExsAt W m v l) (hs : s.size ≤ 4096) (h1 : I64 kd) (h2 : I64 n) : ExAt W (m + 1) (.int .i64 kd) (.int .i64 n) (.string s) v ⟨kd, n, s, l⟩ := by
  obtain ⟨a, b, off, cap, rfl, h0, hl, hel⟩ := h
  exact ⟨rfl, rfl, rfl, by unfold maxLen; simp only; omega, h1, h2, a, b, off, cap, rfl, h0, hl, hel⟩
theorem exs_nil (W : World) (m : Nat) : ExsAt W m (.slice none 0 0) [] := ⟨none, 0, 0, 0, rfl, fun h => absurd h (by simp), by simp, fun i y hy => by simp at hy⟩

theorem only_set {n : Nat} {W : World} {a : Addr} (ha : a.block < n) (x : Value) : Sub (only (fun b => decide (n ≤ b)) W) (only (fun b => decide (n ≤ b)) (W.setCell a x)) := fun b v hv => by
  obtain ⟨h1, h2⟩ := only_cell.1 hv
  refine only_cell.2 ⟨h1, ?_⟩
  have hle := of_decide_eq_true h1
  rw [World.cell?_of_block (w := W) (Below.heap_setCell _ _ _ _ (by omega))]; exact h2
theorem nm_size {w : World} {p : Nat} {ws : List ByteArray} {ps : List Int} {d : Nat} {st : Rd.Sr} (h : RdAt w p ws ps d st) : (Rd.nmP st).1.size ≤ 4096 := by
  show (Rd.pk (Rd.nm st)).size ≤ 4096
  unfold Rd.nm
  split
  · exact pk_size h 0
  · exact Nat.zero_le _
theorem RdAt.drew1 {w : World} {p : Nat} {ws : List ByteArray} {ps : List Int} {d : Nat} {st : Rd.Sr} (h : RdAt w p ws ps d st) : RdAt w.drew p ws ps d st := h.keep (fun _ _ => rfl)
theorem But.drew1 {p : Nat} {w w' : World} (h : But p w w') : But p w w'.drew := ⟨h.os, h.tape, h.output, h.size, h.block⟩
theorem Loc.drew1 {w : World} {p : Nat} {W : World} {T : TypeId} {r c : Array Value} (h : Loc w p W T r c) : Loc w p W.drew T r c := h.step (But.refl _ _).drew1
/-- One cell of the variable. -/
def LocS (w : World) (i : Nat) (v : Value) (wx : World) : Prop := wx.cell? ⟨w.heap.size + 1, i, none⟩ = some v ∧ wx.frozen? ⟨w.heap.size + 1, i, none⟩ = false

set_option maxHeartbeats 4000000 in
set_option maxRecDepth 100000 in
theorem compound_of (k : Nat) (ih : ExprC k) (w : World) (p : Nat) (ws : List ByteArray) (ps : List Int) (d : Nat) (st : Rd.Sr) (h : RdAt w p ws ps d st) (hk : Rd.Ok (k + 1) st) (hd : DOk d st) (hd20 : d ≤ 20) :
    Calls Tryz.prog 135 #[.pointer (some ⟨p, 0, none⟩)] w fun e w' => ∃ c0 c1 c2 c3, e = .returned (.agg #[c0, c1, c2, c3]) ∧ ExAt (fr w w') (k + 2) c0 c1 c2 c3 (Rd.cE (Rd.pE k (d + 1)) k d st).1 ∧ RdAt w' p ws ps d (Rd.cE (Rd.pE k (d + 1)) k d st).2 ∧ But p w w' := by
  have HL0 := hide (Loc.start w p 72 #[.int .i64 0, .int .i64 0, .string ⟨#[]⟩, .slice none 0 0] #[.int .i64 0, .int .i64 0, .string ⟨#[]⟩, .slice none 0 0] h.lt)
  have HR0 := hide (h.below (up (boxBelow w (.cells #[.int .i64 0, .int .i64 0, .string ⟨#[]⟩, .slice none 0 0] 72)) (boxBelow _ (.cells #[.int .i64 0, .int .i64 0, .string ⟨#[]⟩, .slice none 0 0] 72))))
  have HCE : Hid (Rd.cE (Rd.pE k (d + 1)) k d st = if Rd.opc (Rd.pk (Rd.op d st)) then Rd.opE (Rd.pE k (d + 1)) (Rd.op d st)
      else if Rd.is (Rd.pk (Rd.op d st)) [99, 97, 108, 108] then Rd.caE (Rd.pE k (d + 1)) k (Rd.tk (Rd.op d st))
      else (⟨0, 0, ⟨#[]⟩, []⟩, Rd.sh (Rd.fl (Rd.op d st)))) := rfl
  have IH := hide ih
  have hd1 := hd.1
  go_enter Tryz.func135, Tryz.ntmps135
  go_wp2_with fail
  generalize ((w.alloc (.cells #[.int .i64 0, .int .i64 0, .string ⟨#[]⟩, .slice none 0 0] 72)).alloc (.cells #[.int .i64 0, .int .i64 0, .string ⟨#[]⟩, .slice none 0 0] 72)) = W0 at *
  refine (open_any W0 p ws ps d st HR0.out (by omega)).mono ?_
  rintro e w1 ⟨rfl, h1, hb1⟩
  have HL1 := hide (HL0.out.step hb1)
  clear hb1 HL0 HR0 h ih
  go_wp2_with fail
  refine (peek_any w1 p ws ps _ _ h1).mono ?_
  rintro e w2 ⟨rfl, h2, hb2⟩
  have HL2 := hide (HL1.out.step hb2)
  have HR2 := hide h2
  have HX : Hid (∀ b, b = Rd.pk (Rd.op d st) → b.size ≤ 4096) := hide (fun b hb => by rw [hb]; exact pk_size h1 0)
  clear hb2 HL1 h1 h2
  have HS1 := hide (Rd.op_lt d st)
  have HK1 := hide (hk.lt HS1.out)
  have HD1 : Hid (DOk (d + 1) (Rd.op d st)) := hide (hd.op (by omega))
  obtain ⟨s1, hs1⟩ : ∃ s1, s1 = Rd.op d st := ⟨_, rfl⟩
  rw [← hs1] at HCE HR2 HX HS1 HK1 HD1 ⊢
  have HSE := hide hs1
  clear hs1 hk hd
  obtain ⟨x, hx⟩ : ∃ x, x = Rd.pk s1 := ⟨_, rfl⟩
  have HXE := hide hx
  rw [← hx] at HCE HX ⊢
  clear hx
  go_wp2_with fail
  refine (pIsOp_any _ x).mono ?_
  rintro e w3 ⟨rfl, hw3⟩
  subst hw3
  obtain ⟨b, hb⟩ : ∃ b, b = Rd.opc x := ⟨_, rfl⟩
  rw [← hb] at HCE ⊢
  clear hb
  cases b
  · rw [if_neg (by simp)] at HCE
    by_cases hc : x.toList = [99, 97, 108, 108]
    · rw [is_t hc, if_pos rfl] at HCE
      go_wp2_with fail
      refine (take_any _ p ws ps _ _ HR2.out).mono ?_
      rintro e w4 ⟨rfl, h4, hb4⟩
      have HL4 := hide (HL2.out.step hb4)
      obtain ⟨u0, z0⟩ := HL4.out.cell (i := 0) rfl
      have HL5 : Hid (Loc w p (w4.setCell ⟨w.heap.size + 1, 0, none⟩ (.int .i64 4)) 72 #[.int .i64 0, .int .i64 0, .string ⟨#[]⟩, .slice none 0 0] #[.int .i64 4, .int .i64 0, .string ⟨#[]⟩, .slice none 0 0]) := hide (HL4.out.set 0 (.int .i64 4))
      have HR5 := hide (HL4.out.rd h4 0 (.int .i64 4))
      clear hb4 h4 HL2 HR2 HL4
      go_wp2_with fail
      clear u0 z0
      generalize w4.setCell ⟨w.heap.size + 1, 0, none⟩ (.int .i64 4) = W5 at *
      refine (name_any' _ p ws ps _ _ HR5.out).mono ?_
      rintro e w6 ⟨rfl, h6, hb6⟩
      have HNZ : Hid ((Rd.nmP (Rd.tk s1)).1.size ≤ 4096) := hide (nm_size HR5.out)
      have HL6 := hide (HL5.out.step hb6)
      obtain ⟨u2, z2⟩ := HL6.out.cell (i := 2) rfl
      have HL7 : Hid (Loc w p (w6.setCell ⟨w.heap.size + 1, 2, none⟩ (.string (Rd.nmP (Rd.tk s1)).1)) 72 #[.int .i64 0, .int .i64 0, .string ⟨#[]⟩, .slice none 0 0] #[.int .i64 4, .int .i64 0, .string (Rd.nmP (Rd.tk s1)).1, .slice none 0 0]) := hide (HL6.out.set 2 (.string (Rd.nmP (Rd.tk s1)).1))
      have HR7 := hide (HL6.out.rd h6 2 (.string (Rd.nmP (Rd.tk s1)).1))
      have HK7 : Hid (Rd.Ok k (Rd.nmP (Rd.tk s1)).2) := hide (HK1.out.le ((Rd.nmP_lt _).1.trans (Rd.tk_lt _).1))
      have HD7 : Hid (DOk (d + 1) (Rd.nmP (Rd.tk s1)).2) := hide (HD1.out.le ((Rd.nmP_lt _).1.trans (Rd.tk_lt _).1))
      have HCE2 : Hid (Rd.cE (Rd.pE k (d + 1)) k d st = (⟨4, 0, (Rd.nmP (Rd.tk s1)).1, (Rd.loop Rd.argc (Rd.pE k (d + 1)) k (Rd.nmP (Rd.tk s1)).2).1⟩, Rd.sh (Rd.loop Rd.argc (Rd.pE k (d + 1)) k (Rd.nmP (Rd.tk s1)).2).2)) := HCE
      clear hb6 h6 HL5 HR5 HL6 HCE
      have HCE := HCE2
      clear HCE2
      generalize Rd.nmP (Rd.tk s1) = nm at *
      obtain ⟨nn, s3⟩ := nm
      simp only at HNZ HL7 HR7 HK7 HD7 HCE u2 ⊢
      go_wp2_with fail
      clear u2 z2
      generalize w6.setCell ⟨w.heap.size + 1, 2, none⟩ (.string nn) = W7 at *
      refine (args_of k IH.out W7 p ws ps (d + 1) s3 HR7.out HK7.out HD7.out k HK7.out).mono ?_
      rintro e w8 ⟨v, rfl, hx8, hR8, hb8⟩
      have HL8 := hide (HL7.out.step hb8)
      obtain ⟨u3, z3⟩ := HL8.out.cell (i := 3) rfl
      have HX8 : Hid (ExsAt (only (fun b => decide (w.heap.size + 2 ≤ b)) w8) (k + 1) v _) := hide (hx8.sub (fresh_mono HL7.out.size))
      have HR8 := hide hR8
      clear hb8 hx8 hR8 HL7 HR7 HK7 HD7
      obtain ⟨av, cv, hv⟩ : ∃ a c, v = .slice a (Rd.loop Rd.argc (Rd.pE k (d + 1)) k s3).1.length c := by
        obtain ⟨a, _, _, c, e, _⟩ := HX8.out
        exact ⟨a, c, e⟩
      subst hv
      generalize Rd.loop Rd.argc (Rd.pE k (d + 1)) k s3 = lp at *
      obtain ⟨ll, s4⟩ := lp
      simp only at HX8 HL8 HR8 HCE ⊢
      have HL9 : Hid (Loc w p (w8.setCell ⟨w.heap.size + 1, 3, none⟩ (.slice av ll.length cv)) 72 #[.int .i64 0, .int .i64 0, .string ⟨#[]⟩, .slice none 0 0] #[.int .i64 4, .int .i64 0, .string nn, .slice av ll.length cv]) := hide (HL8.out.set 3 (.slice av ll.length cv))
      have HR9 := hide (HL8.out.rd HR8.out 3 (.slice av ll.length cv))
      have HX9 : Hid (ExsAt (only (fun b => decide (w.heap.size + 2 ≤ b)) (w8.setCell ⟨w.heap.size + 1, 3, none⟩ (.slice av ll.length cv))) (k + 1) (.slice av ll.length cv) ll) := hide (HX8.out.sub (only_set (by simp) _))
      clear HL8 HR8 HX8
      go_wp2_with fail
      refine (shut_any _ p ws ps d _ HR9.out (by omega)).mono ?_
      rintro e w10 ⟨rfl, h10, hb10⟩
      have HL10 := hide (HL9.out.step hb10)
      have HR10 := hide h10
      have HEX : Hid (ExsAt (only (fun b => decide (w.heap.size + 2 ≤ b)) w10) (k + 1) (.slice av ll.length cv) ll) := hide (HX9.out.sub (hb10.sub (decide_eq_false (by have := HL10.out.plt; omega))))
      clear h10 hb10
      obtain ⟨u0, z0⟩ := HL10.out.cell (i := 0) rfl
      obtain ⟨u1, z1⟩ := HL10.out.cell (i := 1) rfl
      obtain ⟨u2, z2⟩ := HL10.out.cell (i := 2) rfl
      obtain ⟨u3, z3⟩ := HL10.out.cell (i := 3) rfl
      obtain ⟨r0, y0⟩ := HL10.out.rcell (i := 0) rfl
      obtain ⟨r1, y1⟩ := HL10.out.rcell (i := 1) rfl
      obtain ⟨r2, y2⟩ := HL10.out.rcell (i := 2) rfl
      obtain ⟨r3, y3⟩ := HL10.out.rcell (i := 3) rfl
      go_wp2_with fail
      obtain ⟨⟨Wf, hWf, f0, f1, f2, f3⟩, hBf, hRf, hSf⟩ := HL10.out.fin4 HR10.out (.int .i64 4) (.int .i64 0) (.string nn) (.slice av ll.length cv)
      unfold put4 at hWf hBf hRf hSf
      rw [← hWf] at hBf hRf hSf ⊢
      clear hWf u0 u1 u2 u3 z0 z1 z2 z3 r0 r1 r2 r3 y0 y1 y2 y3
      refine bodyPost_ret (v := .agg #[.int .i64 4, .int .i64 0, .string nn, (.slice av ll.length cv)]) (by simp [results, Tryz.results135, go_sem, f0, f1, f2, f3]) rfl ?_
      refine ⟨_, _, _, _, rfl, ?_, ?_, hBf⟩
      · rw [HCE.out]
        exact ExAt.mk (HEX.out.sub hSf) HNZ.out ⟨by decide, by decide⟩ ⟨by decide, by decide⟩
      · rw [HCE.out]
        exact hRf
    · rw [is_f hc, if_neg (by simp)] at HCE
      have bc := beq_f hc
      go_wp2_with fail
      refine (fail_any _ p ws ps _ _ HR2.out).mono ?_
      rintro e w4 ⟨rfl, h4, hb4⟩
      have HL4 := hide (HL2.out.step hb4)
      have HR4 := hide h4
      clear hb4 h4 HL2 HR2
      go_wp2_with fail
      refine (shut_any _ p ws ps d _ HR4.out (by omega)).mono ?_
      rintro e w10 ⟨rfl, h10, hb10⟩
      have HL10 := hide (HL4.out.step hb10)
      have HR10 := hide h10
      have HEX : Hid (ExsAt (only (fun b => decide (w.heap.size + 2 ≤ b)) w10) (k + 1) (.slice none 0 0) []) := hide ((exs_nil (only (fun b => decide (w.heap.size + 2 ≤ b)) w4) (k + 1)).sub (hb10.sub (decide_eq_false (by have := HL10.out.plt; omega))))
      clear h10 hb10
      obtain ⟨u0, z0⟩ := HL10.out.cell (i := 0) rfl
      obtain ⟨u1, z1⟩ := HL10.out.cell (i := 1) rfl
      obtain ⟨u2, z2⟩ := HL10.out.cell (i := 2) rfl
      obtain ⟨u3, z3⟩ := HL10.out.cell (i := 3) rfl
      obtain ⟨r0, y0⟩ := HL10.out.rcell (i := 0) rfl
      obtain ⟨r1, y1⟩ := HL10.out.rcell (i := 1) rfl
      obtain ⟨r2, y2⟩ := HL10.out.rcell (i := 2) rfl
      obtain ⟨r3, y3⟩ := HL10.out.rcell (i := 3) rfl
      go_wp2_with fail
      obtain ⟨⟨Wf, hWf, f0, f1, f2, f3⟩, hBf, hRf, hSf⟩ := HL10.out.fin4 HR10.out (.int .i64 0) (.int .i64 0) (.string ⟨#[]⟩) (.slice none 0 0)
      unfold put4 at hWf hBf hRf hSf
      rw [← hWf] at hBf hRf hSf ⊢
      clear hWf u0 u1 u2 u3 z0 z1 z2 z3 r0 r1 r2 r3 y0 y1 y2 y3
      refine bodyPost_ret (v := .agg #[.int .i64 0, .int .i64 0, .string ⟨#[]⟩, (.slice none 0 0)]) (by simp [results, Tryz.results135, go_sem, f0, f1, f2, f3]) rfl ?_
      refine ⟨_, _, _, _, rfl, ?_, ?_, hBf⟩
      · rw [HCE.out]
        exact ExAt.mk (HEX.out.sub hSf) (Nat.zero_le _) ⟨by decide, by decide⟩ ⟨by decide, by decide⟩
      · rw [HCE.out]
        exact hRf
  · rw [if_pos rfl] at HCE
    obtain ⟨u0, z0⟩ := HL2.out.cell (i := 0) rfl
    have HL3 := hide (HL2.out.set 0 (.int .i64 3))
    have HR3 := hide (HL2.out.rd HR2.out 0 (.int .i64 3))
    go_wp2_with fail
    clear u0 z0
    refine (take_any _ p ws ps _ _ HR3.out).mono ?_
    rintro e w4 ⟨rfl, h4, hb4⟩
    rw [← HXE.out]
    have HL4 := hide (HL3.out.step hb4)
    have HR4 := hide h4
    obtain ⟨u2, z2⟩ := HL4.out.cell (i := 2) rfl
    have HL5 : Hid (Loc w p (w4.setCell ⟨w.heap.size + 1, 2, none⟩ (.string x)) 72 #[.int .i64 0, .int .i64 0, .string ⟨#[]⟩, .slice none 0 0] #[.int .i64 3, .int .i64 0, .string x, .slice none 0 0]) := hide (HL4.out.set 2 (.string x))
    have HR5 := hide (HL4.out.rd HR4.out 2 (.string x))
    clear hb4 h4 HL3 HR3 HL2 HR2 HL4 HR4
    go_upto_region 8 with fail
    clear u2 z2
    generalize w4.setCell ⟨w.heap.size + 1, 2, none⟩ (.string x) = W5 at *
    obtain ⟨u3, z3⟩ := HL5.out.cell (i := 3) rfl
    have HK5 : Hid (Rd.Ok k (Rd.tk s1)) := hide (HK1.out.le (Rd.tk_lt _).1)
    have HD5 : Hid (DOk (d + 1) (Rd.tk s1)) := hide (HD1.out.le (Rd.tk_lt _).1)
    have HO5 : Hid (OwnL (ExL (k + 1)) W5 (w.heap.size + 2) 72 4 (.slice none 0 0) []) := hide (OwnL.nil _ _ _ _)
    obtain ⟨rc5, hrc5⟩ := HR5.out.block
    have HRB5 := hide hrc5
    clear hrc5
    go_cut [] from 18 to 24 (fun wx => ∃ v, Loc w p wx 72 #[.int .i64 0, .int .i64 0, .string ⟨#[]⟩, .slice none 0 0] #[.int .i64 3, .int .i64 0, .string x, v] ∧ OwnL (ExL (k + 1)) wx (w.heap.size + 2) 72 4 v [(Rd.pE k (d + 1) (Rd.tk s1)).1] ∧ RdAt wx p ws ps (d + 1) (Rd.pE k (d + 1) (Rd.tk s1)).2)
    case first =>
      go_region_law (first
        | (go_simp; go_at_call 106; refine (IH.out _ p ws ps (d + 1) _ (by repeat (first | exact HR5.out | apply RdAt.drew1)) HK5.out HD5.out).mono ?_; rintro e w6 ⟨c0, c1, c2, c3, rfl, hx6, hR6, hb6⟩; have HL6 := hide ((by repeat (first | exact HL5.out | apply Loc.drew1) : Loc w p _ 72 _ _).step hb6); obtain ⟨u36, z36⟩ := HL6.out.cell (i := 3) rfl; obtain ⟨ax, cx, rfl, rfl, rfl, rfl⟩ := hx6.shape; have HX6 := hide hx6; have HR6 := hide hR6; have HB6 : Hid (But p W5 w6) := hide ((by repeat (first | exact But.refl _ _ | apply But.drew1) : But p W5 _).trans hb6); have HO6 := hide (HO5.out.but (exMono _) HRB5.out (by decide) (by have := HL6.out.plt; omega) HB6.out); have hz6 : w.heap.size + 1 < w6.heap.size := (by have := HL6.out.size; omega); clear hx6 hR6 hb6; dsimp only)
        | (refine step_append_L (exMono _) (by rfl) _ _ 70 72 4 56 _ (by rfl) Tryz.underlying70 infoEx (by decide) (by decide) (by decide) (w.heap.size + 2) _ _ (by rfl) (HO6.out.below (exMono _) (boxBelow _ _)) _ _ (Rd.pE k (d + 1) (Rd.tk s1)).1 (by rfl) (cells4 _ _ _ _ _ _) rfl HX6.out.one (exMono _ _ _ _ _ ((row_new (w0 := W5) HL5.out.size (fun k hk => (HO5.out.lt k hk).2)).trans (only_alloc _ _ _)) ⟨_, _, _, _, rfl, HX6.out⟩) (by simp) (by have := HL6.out.size; simp; omega) ?_; intro g cap w7 hown7 hgrow7; have HO7 := hide hown7; have HL7 := hide ((HL6.out.alloc _).grown hgrow7 (fun k hk => (HO6.out.lt k hk).1)); have HR7 := hide ((HR6.out.below (boxBelow _ _)).grown hgrow7 (fun k hk => by have := (HO6.out.lt k hk).1; have := HL6.out.plt; omega)); obtain ⟨u37, z37⟩ := HL7.out.cell (i := 3) rfl; clear hown7 hgrow7)
        | fail)
      all_goals
        go_wp2_with fail
        go_meet
        case rel => exact ⟨_, HL7.out.set 3 _, HO7.out.setOld (exMono _) (by simp) _, HL7.out.rd HR7.out 3 _⟩
    case rest =>
      obtain ⟨v8, hL8, hO8, hR8⟩ := hcut
      clear u3 z3 HL5 HR5 HO5 HRB5
      have HL8 := hide hL8
      have HO8 := hide hO8
      have HR8 := hide hR8
      have HK8 : Hid (Rd.Ok k (Rd.pE k (d + 1) (Rd.tk s1)).2) := hide (HK5.out.le (Rd.pE_lt _ _ _).1)
      have HD8 : Hid (DOk (d + 1) (Rd.pE k (d + 1) (Rd.tk s1)).2) := hide (HD5.out.le (Rd.pE_lt _ _ _).1)
      obtain ⟨u3, z3⟩ := HL8.out.cell (i := 3) rfl
      obtain ⟨rc8, hrc8⟩ := HR8.out.block
      have HRB8 := hide hrc8
      clear hrc8 hL8 hO8 hR8 HK5 HD5
      go_upto_region 9 with fail
      go_region_law (first
        | (go_simp; go_at_call 106; refine (IH.out _ p ws ps (d + 1) _ (by repeat (first | exact HR8.out | apply RdAt.drew1)) HK8.out HD8.out).mono ?_; rintro e w6 ⟨c0, c1, c2, c3, rfl, hx6, hR6, hb6⟩; have HL6 := hide ((by repeat (first | exact HL8.out | apply Loc.drew1) : Loc w p _ 72 _ _).step hb6); obtain ⟨u36, z36⟩ := HL6.out.cell (i := 3) rfl; obtain ⟨ax, cx, rfl, rfl, rfl, rfl⟩ := hx6.shape; have HX6 := hide hx6; have HR6 := hide hR6; have HB6 : Hid (But p wc w6) := hide ((by repeat (first | exact But.refl _ _ | apply But.drew1) : But p wc _).trans hb6); have HO6 := hide (HO8.out.but (exMono _) HRB8.out (by decide) (by have := HL6.out.plt; omega) HB6.out); have hz6 : w.heap.size + 1 < w6.heap.size := (by have := HL6.out.size; omega); clear hx6 hR6 hb6; dsimp only)
        | (refine step_append_L (exMono _) (by rfl) _ _ 70 72 4 56 _ (by rfl) Tryz.underlying70 infoEx (by decide) (by decide) (by decide) (w.heap.size + 2) _ _ (by rfl) (HO6.out.below (exMono _) (boxBelow _ _)) _ _ (Rd.pE k (d + 1) (Rd.pE k (d + 1) (Rd.tk s1)).2).1 (by rfl) (cells4 _ _ _ _ _ _) rfl HX6.out.one (exMono _ _ _ _ _ ((row_new (w0 := wc) HL8.out.size (fun k hk => (HO8.out.lt k hk).2)).trans (only_alloc _ _ _)) ⟨_, _, _, _, rfl, HX6.out⟩) (by simp) (by have := HL6.out.size; simp; omega) ?_; intro g cap w7 hown7 hgrow7; have HO7 := hide hown7; have HL7 := hide ((HL6.out.alloc _).grown hgrow7 (fun k hk => (HO6.out.lt k hk).1)); have HR7 := hide ((HR6.out.below (boxBelow _ _)).grown hgrow7 (fun k hk => by have := (HO6.out.lt k hk).1; have := HL6.out.plt; omega)); obtain ⟨u37, z37⟩ := HL7.out.cell (i := 3) rfl; clear hown7 hgrow7)
        | fail)
      all_goals
          have HL9 := hide (HL7.out.set 3 (.slice (some ⟨g, 0, none⟩) 2 cap))
          have HO9 := hide (HO7.out.setOld (exMono _) (a := ⟨w.heap.size + 1, 3, none⟩) (by simp) (.slice (some ⟨g, 0, none⟩) 2 cap))
          have HR9 := hide (HL7.out.rd HR7.out 3 (.slice (some ⟨g, 0, none⟩) 2 cap))
          clear HL7 HO7 HR7 u37 z37 u36 z36 hz6 HL6 HX6 HR6 HB6 HO6 u3 z3
          go_wp2_with fail
          refine (shut_any _ p ws ps d _ HR9.out (by omega)).mono ?_
          rintro e w10 ⟨rfl, h10, hb10⟩
          have HL10 := hide (HL9.out.step hb10)
          obtain ⟨rc9, hrc9⟩ := HR9.out.block
          have HO10 := hide (HO9.out.but (exMono _) hrc9 (by decide) (by have := HL10.out.plt; omega) hb10)
          have HR10 := hide h10
          have HEX := hide (HO10.out.exsN (by simp))
          clear h10 hb10 hrc9 HL9 HR9 HO9
          obtain ⟨u0, z0⟩ := HL10.out.cell (i := 0) rfl
          obtain ⟨u1, z1⟩ := HL10.out.cell (i := 1) rfl
          obtain ⟨u2, z2⟩ := HL10.out.cell (i := 2) rfl
          obtain ⟨u3, z3⟩ := HL10.out.cell (i := 3) rfl
          obtain ⟨r0, y0⟩ := HL10.out.rcell (i := 0) rfl
          obtain ⟨r1, y1⟩ := HL10.out.rcell (i := 1) rfl
          obtain ⟨r2, y2⟩ := HL10.out.rcell (i := 2) rfl
          obtain ⟨r3, y3⟩ := HL10.out.rcell (i := 3) rfl
          go_wp2_with fail
          obtain ⟨⟨Wf, hWf, f0, f1, f2, f3⟩, hBf, hRf, hSf⟩ := HL10.out.fin4 HR10.out (.int .i64 3) (.int .i64 0) (.string x) (.slice (some ⟨g, 0, none⟩) 2 cap)
          unfold put4 at hWf hBf hRf hSf
          rw [← hWf] at hBf hRf hSf ⊢
          clear hWf u0 u1 u2 u3 z0 z1 z2 z3 r0 r1 r2 r3 y0 y1 y2 y3
          refine bodyPost_ret (v := .agg #[.int .i64 3, .int .i64 0, .string x, .slice (some ⟨g, 0, none⟩) 2 cap]) (by simp [results, Tryz.results135, go_sem, f0, f1, f2, f3]) rfl ?_
          refine ⟨_, _, _, _, rfl, ?_, ?_, hBf⟩
          · rw [HCE.out]
            have := ExAt.mk (kd := 3) (n := 0) (HEX.out.sub hSf) (HX.out x rfl) ⟨by decide, by decide⟩ ⟨by decide, by decide⟩
            unfold Rd.opE
            rw [← HXE.out]
            exact this
          · rw [HCE.out]
            exact hRf

end Go.Proofs.YtbncnkfogkhoeabGreatDoor

/- Walks over package parse: expr answers what the plain function does. -/
namespace Go.Proofs.YtbncnkfogkhoeabGreatDoor
open Go.RowKit

/-- A call's result alone, in the block that it makes first. -/
structure Res (w : World) (p : Nat) (W : World) (T : TypeId) (r : Array Value) : Prop where
  res : W.heap[w.heap.size]? = some (.cells r T (0, 0))
  but : But p w W
  size : w.heap.size + 1 ≤ W.heap.size
  plt : p < w.heap.size
theorem Res.start (w : World) (p : Nat) (T : TypeId) (r : Array Value) (hp : p < w.heap.size) : Res w p (w.alloc (.cells r T (0, 0))) T r :=
  ⟨block_new w _, But.of_below (boxBelow _ _), by simp, hp⟩
theorem Res.step {w : World} {p : Nat} {W W' : World} {T : TypeId} {r : Array Value} (h : Res w p W T r) (hb : But p W W') : Res w p W' T r :=
  ⟨hb.at (by have := h.plt; omega) h.res, h.but.trans hb, Nat.le_trans h.size hb.size, h.plt⟩
theorem Res.cell {w : World} {p : Nat} {W : World} {T : TypeId} {r : Array Value} (h : Res w p W T r) {i : Nat} {v : Value} (hv : r[i]? = some v) : W.cell? ⟨w.heap.size, i, none⟩ = some v ∧ W.frozen? ⟨w.heap.size, i, none⟩ = false := ⟨(block_at h.res i).trans hv, block_free h.res i⟩
theorem Res.setr {w : World} {p : Nat} {W : World} {T : TypeId} {r : Array Value} (h : Res w p W T r) (i : Nat) (v : Value) : Res w p (W.setCell ⟨w.heap.size, i, none⟩ v) T (r.setIfInBounds i v) :=
  ⟨block_set h.res i v, h.but.set (Or.inr (by simp)) v, by simp only [World.setCell, Array.size_modify]; exact h.size, h.plt⟩
theorem Res.rd {w : World} {p : Nat} {W : World} {T : TypeId} {r : Array Value} {ws : List ByteArray} {ps : List Int} {d : Nat} {st : Rd.Sr} (h : Res w p W T r) (hR : RdAt W p ws ps d st) (i : Nat) (v : Value) : RdAt (W.setCell ⟨w.heap.size, i, none⟩ v) p ws ps d st := hR.set (by have := h.plt; simp; omega) v
theorem Res.fin4 {w : World} {p : Nat} {W : World} {T : TypeId} {r0 r1 r2 r3 : Value} {ws : List ByteArray} {ps : List Int} {d : Nat} {st : Rd.Sr} (h : Res w p W T #[r0, r1, r2, r3]) (hR : RdAt W p ws ps d st) (c0 c1 c2 c3 : Value) :
    (∃ Wf, Wf = put4 W w.heap.size c0 c1 c2 c3 ∧ Wf.cell? ⟨w.heap.size, 0, none⟩ = some c0 ∧ Wf.cell? ⟨w.heap.size, 1, none⟩ = some c1 ∧ Wf.cell? ⟨w.heap.size, 2, none⟩ = some c2 ∧ Wf.cell? ⟨w.heap.size, 3, none⟩ = some c3) ∧ But p w (put4 W w.heap.size c0 c1 c2 c3) ∧ RdAt (put4 W w.heap.size c0 c1 c2 c3) p ws ps d st ∧ Sub (only (fun b => decide (w.heap.size + 1 ≤ b)) W) (fr w (put4 W w.heap.size c0 c1 c2 c3)) := by
  have h0 := h.setr 0 c0
  have h1 := h0.setr 1 c1
  have h2 := h1.setr 2 c2
  have h3 := h2.setr 3 c3
  refine ⟨⟨_, rfl, (h3.cell (i := 0) rfl).1, (h3.cell (i := 1) rfl).1, (h3.cell (i := 2) rfl).1, (h3.cell (i := 3) rfl).1⟩, h3.but, h2.rd (h1.rd (h0.rd (h.rd hR 0 c0) 1 c1) 2 c2) 3 c3, fun a v hv => ?_⟩
  obtain ⟨k1, k2⟩ := only_cell.1 hv
  have hle := of_decide_eq_true k1
  refine only_cell.2 ⟨decide_eq_true (by omega), ?_⟩
  unfold put4
  rw [World.cell?_of_block (Below.heap_setCell _ _ _ _ (by simp only; omega)), World.cell?_of_block (Below.heap_setCell _ _ _ _ (by simp only; omega)), World.cell?_of_block (Below.heap_setCell _ _ _ _ (by simp only; omega)), World.cell?_of_block (Below.heap_setCell _ _ _ _ (by simp only; omega))]
  exact k2

set_option maxHeartbeats 4000000 in
set_option maxRecDepth 100000 in
theorem expr_of (k : Nat) (hC : ∀ (w : World) (p : Nat) (ws : List ByteArray) (ps : List Int) (d : Nat) (st : Rd.Sr), RdAt w p ws ps d st → Rd.Ok k st → DOk d st → d ≤ 20 → Rd.is (Rd.pk st) [40] = true →
      Calls Tryz.prog 135 #[.pointer (some ⟨p, 0, none⟩)] w fun e w' => ∃ c0 c1 c2 c3, e = .returned (.agg #[c0, c1, c2, c3]) ∧ ExAt (fr w w') (k + 1) c0 c1 c2 c3 (Rd.pE k d st).1 ∧ RdAt w' p ws ps d (Rd.pE k d st).2 ∧ But p w w')
    (hE : ∀ d st, Rd.is (Rd.pk st) [40] = false → Rd.Ok k st → Rd.pE k d st = if Rd.digs (Rd.pk st) then Rd.nuE st else Rd.nmE st) : ExprC k := by
  intro w p ws ps d st h hk hd
  have HC := hide hC
  have HE := hide (hE d st)
  have HS0 := hide (Res.start w p 72 #[.int .i64 0, .int .i64 0, .string ⟨#[]⟩, .slice none 0 0] h.lt)
  have HR0 := hide (h.below (boxBelow w (.cells #[.int .i64 0, .int .i64 0, .string ⟨#[]⟩, .slice none 0 0] 72)))
  clear hC hE
  go_enter Tryz.func106, Tryz.ntmps106
  go_wp2_with fail
  generalize (w.alloc (.cells #[.int .i64 0, .int .i64 0, .string ⟨#[]⟩, .slice none 0 0] 72)) = W0 at *
  refine (peek_any W0 p ws ps d st HR0.out).mono ?_
  rintro e w1 ⟨rfl, h1, hb1⟩
  have HS1 := hide (HS0.out.step hb1)
  have HR1 := hide h1
  have hxs : (Rd.pk st).size ≤ 4096 := pk_size h1 0
  clear hb1 HS0 HR0 h h1
  obtain ⟨x, hx⟩ : ∃ x, x = Rd.pk st := ⟨_, rfl⟩
  have HXE := hide hx
  rw [← hx] at HE hxs ⊢
  clear hx
  by_cases h0 : x.toList = [40]
  · have hp : Rd.is (Rd.pk st) [40] = true := by rw [← HXE.out]; exact is_t h0
    have hf : st.f = false := Rd.pk_ne (n := 0) hp (by simp)
    have hd20 : d ≤ 20 := by
      rcases hd.2 with e | e
      · rw [hf] at e; cases e
      · exact e
    go_wp2_with fail
    refine (HC.out _ p ws ps d st HR1.out hk hd hd20 hp).mono ?_
    rintro e w2 ⟨c0, c1, c2, c3, rfl, hx2, hR2, hb2⟩
    have HS2 := hide (HS1.out.step hb2)
    obtain ⟨ax, cx, rfl, rfl, rfl, rfl⟩ := hx2.shape
    have HX2 := hide (hx2.sub (fresh_mono HS1.out.size))
    have HR2 := hide hR2
    clear hx2 hR2 hb2 HS1 HR1
    obtain ⟨r0, y0⟩ := HS2.out.cell (i := 0) rfl
    obtain ⟨r1, y1⟩ := HS2.out.cell (i := 1) rfl
    obtain ⟨r2, y2⟩ := HS2.out.cell (i := 2) rfl
    obtain ⟨r3, y3⟩ := HS2.out.cell (i := 3) rfl
    go_wp2_with fail
    obtain ⟨⟨Wf, hWf, f0, f1, f2, f3⟩, hBf, hRf, hSf⟩ := HS2.out.fin4 HR2.out (.int .i64 (Rd.pE k d st).1.kind) (.int .i64 (Rd.pE k d st).1.n) (.string (Rd.pE k d st).1.name) (.slice ax (Rd.pE k d st).1.args.length cx)
    unfold put4 at hWf hBf hRf hSf
    rw [← hWf] at hBf hRf hSf ⊢
    clear hWf r0 r1 r2 r3 y0 y1 y2 y3
    refine bodyPost_ret (v := .agg #[.int .i64 (Rd.pE k d st).1.kind, .int .i64 (Rd.pE k d st).1.n, .string (Rd.pE k d st).1.name, .slice ax (Rd.pE k d st).1.args.length cx]) (by simp [results, Tryz.results106, go_sem, f0, f1, f2, f3]) rfl ?_
    exact ⟨_, _, _, _, rfl, HX2.out.sub hSf, hRf, hBf⟩
  · have b0 := beq_f h0
    have HEE := hide (HE.out (is_f h0) hk)
    clear HE
    go_wp2_with fail
    refine (isDigits_any _ x (by unfold maxLen; omega)).mono ?_
    rintro e w2 ⟨rfl, hw2⟩
    subst hw2
    obtain ⟨b, hb⟩ : ∃ b, b = Rd.digs x := ⟨_, rfl⟩
    rw [← hb] at HEE ⊢
    clear hb
    cases b
    · rw [if_neg (by simp)] at HEE
      go_wp2_with fail
      refine (name_any' _ p ws ps d st HR1.out).mono ?_
      rintro e w3 ⟨rfl, hR3, hb3⟩
      have HNZ := hide (nm_size HR1.out)
      have HS2 := hide (HS1.out.step hb3)
      have HR2 := hide hR3
      have HEE2 : Hid (Rd.pE k d st = (⟨2, 0, (Rd.nmP st).1, []⟩, (Rd.nmP st).2)) := HEE
      clear hR3 hb3 HS1 HR1 HEE
      obtain ⟨r0, y0⟩ := HS2.out.cell (i := 0) rfl
      obtain ⟨r1, y1⟩ := HS2.out.cell (i := 1) rfl
      obtain ⟨r2, y2⟩ := HS2.out.cell (i := 2) rfl
      obtain ⟨r3, y3⟩ := HS2.out.cell (i := 3) rfl
      generalize Rd.nmP st = nm at *
      obtain ⟨nn, s3⟩ := nm
      simp only at HNZ HR2 HEE2 ⊢
      go_wp2_with fail
      obtain ⟨⟨Wf, hWf, f0, f1, f2, f3⟩, hBf, hRf, hSf⟩ := HS2.out.fin4 HR2.out (.int .i64 2) (.int .i64 0) (.string nn) (.slice none 0 0)
      unfold put4 at hWf hBf hRf hSf
      rw [← hWf] at hBf hRf hSf ⊢
      clear hWf r0 r1 r2 r3 y0 y1 y2 y3
      refine bodyPost_ret (v := .agg #[.int .i64 2, .int .i64 0, .string nn, .slice none 0 0]) (by simp [results, Tryz.results106, go_sem, f0, f1, f2, f3]) rfl ?_
      refine ⟨_, _, _, _, rfl, ?_, ?_, hBf⟩
      · rw [HEE2.out]
        exact ExAt.mk (exs_nil _ _) HNZ.out ⟨by decide, by decide⟩ ⟨by decide, by decide⟩
      · rw [HEE2.out]
        exact hRf
    · rw [if_pos rfl] at HEE
      go_wp2_with fail
      refine (number_any _ p ws ps d st HR1.out).mono ?_
      rintro e w3 ⟨rfl, hR3, hb3⟩
      have HNZ : Hid (I64 (Rd.numV (Rd.pk (Rd.nu st)))) := hide (by
        refine numV_i64 _ ?_
        unfold Rd.nu
        split
        · exact Nat.zero_le _
        · rename_i hbad
          unfold Rd.badN at hbad
          simp only [Bool.or_eq_true, decide_eq_true_eq, not_or] at hbad
          omega)
      have HS2 := hide (HS1.out.step hb3)
      have HR2 := hide hR3
      have HEE2 : Hid (Rd.pE k d st = (⟨1, Rd.numV (Rd.pk (Rd.nu st)), ⟨#[]⟩, []⟩, Rd.tk (Rd.nu st))) := HEE
      clear hR3 hb3 HS1 HR1 HEE
      obtain ⟨r0, y0⟩ := HS2.out.cell (i := 0) rfl
      obtain ⟨r1, y1⟩ := HS2.out.cell (i := 1) rfl
      obtain ⟨r2, y2⟩ := HS2.out.cell (i := 2) rfl
      obtain ⟨r3, y3⟩ := HS2.out.cell (i := 3) rfl
      generalize Rd.numV (Rd.pk (Rd.nu st)) = nn at *
      go_wp2_with fail
      obtain ⟨⟨Wf, hWf, f0, f1, f2, f3⟩, hBf, hRf, hSf⟩ := HS2.out.fin4 HR2.out (.int .i64 1) (.int .i64 nn) (.string ⟨#[]⟩) (.slice none 0 0)
      unfold put4 at hWf hBf hRf hSf
      rw [← hWf] at hBf hRf hSf ⊢
      clear hWf r0 r1 r2 r3 y0 y1 y2 y3
      refine bodyPost_ret (v := .agg #[.int .i64 1, .int .i64 nn, .string ⟨#[]⟩, .slice none 0 0]) (by simp [results, Tryz.results106, go_sem, f0, f1, f2, f3]) rfl ?_
      refine ⟨_, _, _, _, rfl, ?_, ?_, hBf⟩
      · rw [HEE2.out]
        exact ExAt.mk (exs_nil _ _) (Nat.zero_le _) ⟨by decide, by decide⟩ HNZ.out
      · rw [HEE2.out]
        exact hRf

theorem pexpr_any : ∀ k, ExprC k
  | 0 => by
    refine expr_of 0 (fun w p ws ps d st h hk hd hd20 hp => ?_) (fun d st h hk => ?_)
    · have hf := Rd.pk_ne (n := 0) hp (by simp)
      rcases hk with e | e
      · rw [hf] at e; cases e
      · omega
    · have hf : st.f = true := by
        rcases hk with e | e
        · exact e
        · omega
      have e1 : Rd.pk st = ⟨#[]⟩ := Rd.pk_failed hf 0
      rw [e1]
      rfl
  | k + 1 => by
    refine expr_of (k + 1) (fun w p ws ps d st h hk hd hd20 hp => ?_) (fun d st h hk => ?_)
    · have e : Rd.pE (k + 1) d st = Rd.cE (Rd.pE k (d + 1)) k d st := by simp only [Rd.pE]; rw [if_pos hp]
      rw [e]
      exact compound_of k (pexpr_any k) w p ws ps d st h hk hd hd20
    · simp only [Rd.pE]
      rw [if_neg (by rw [h]; simp)]

end Go.Proofs.YtbncnkfogkhoeabGreatDoor
