/- Walks over package parse: command answers what the plain function does. -/
import Derived.Test.YtbncnkfogkhoeabGreatDoorZBA
namespace Go.Proofs.YtbncnkfogkhoeabGreatDoor
open Go.RowKit

def putE (W : World) (b : Nat) (c0 c1 c2 c3 : Value) : World := (((W.setCell ⟨b, 2, none⟩ c0).setCell ⟨b, 2 + 1, none⟩ c1).setCell ⟨b, 2 + 2, none⟩ c2).setCell ⟨b, 2 + 3, none⟩ c3
def put8 (W : World) (b : Nat) (c0 c1 c2 c3 c4 c5 c6 c7 : Value) : World := (((((((W.setCell ⟨b, 0, none⟩ c0).setCell ⟨b, 1, none⟩ c1).setCell ⟨b, 2, none⟩ c2).setCell ⟨b, 3, none⟩ c3).setCell ⟨b, 4, none⟩ c4).setCell ⟨b, 5, none⟩ c5).setCell ⟨b, 6, none⟩ c6).setCell ⟨b, 7, none⟩ c7
theorem sees_set {n : Nat} {W0 W : World} {a : Addr} (h : Sub (only (fun b => decide (n ≤ b)) W0) (only (fun b => decide (n ≤ b)) W)) (ha : a.block < n) (x : Value) : Sub (only (fun b => decide (n ≤ b)) W0) (only (fun b => decide (n ≤ b)) (W.setCell a x)) := h.trans (only_set ha x)
theorem Loc.setE {w : World} {p : Nat} {W : World} {T : TypeId} {r : Array Value} {a0 a1 a2 a3 a4 a5 a6 a7 : Value} {ws : List ByteArray} {ps : List Int} {d : Nat} {st : Rd.Sr} (h : Loc w p W T r #[a0, a1, a2, a3, a4, a5, a6, a7]) (hR : RdAt W p ws ps d st) (c0 c1 c2 c3 : Value) :
    Loc w p (putE W (w.heap.size + 1) c0 c1 c2 c3) T r #[a0, a1, c0, c1, c2, c3, a6, a7] ∧ RdAt (putE W (w.heap.size + 1) c0 c1 c2 c3) p ws ps d st ∧ Sub (only (fun b => decide (w.heap.size + 2 ≤ b)) W) (only (fun b => decide (w.heap.size + 2 ≤ b)) (putE W (w.heap.size + 1) c0 c1 c2 c3)) := by
  have h0 : Loc w p (W.setCell ⟨w.heap.size + 1, 2, none⟩ c0) T r #[a0, a1, c0, a3, a4, a5, a6, a7] := h.set 2 c0
  have h1 : Loc w p ((W.setCell ⟨w.heap.size + 1, 2, none⟩ c0).setCell ⟨w.heap.size + 1, 3, none⟩ c1) T r #[a0, a1, c0, c1, a4, a5, a6, a7] := h0.set 3 c1
  have h2 : Loc w p (((W.setCell ⟨w.heap.size + 1, 2, none⟩ c0).setCell ⟨w.heap.size + 1, 3, none⟩ c1).setCell ⟨w.heap.size + 1, 4, none⟩ c2) T r #[a0, a1, c0, c1, c2, a5, a6, a7] := h1.set 4 c2
  have h3 : Loc w p ((((W.setCell ⟨w.heap.size + 1, 2, none⟩ c0).setCell ⟨w.heap.size + 1, 3, none⟩ c1).setCell ⟨w.heap.size + 1, 4, none⟩ c2).setCell ⟨w.heap.size + 1, 5, none⟩ c3) T r #[a0, a1, c0, c1, c2, c3, a6, a7] := h2.set 5 c3
  refine ⟨h3, h2.rd (h1.rd (h0.rd (h.rd hR 2 c0) 3 c1) 4 c2) 5 c3, ?_⟩
  exact sees_set (sees_set (sees_set (sees_set (Sub.refl _) (by simp) _) (by simp) _) (by simp) _) (by simp) _
set_option maxHeartbeats 1000000 in
theorem Loc.fin8 {w : World} {p : Nat} {W : World} {T : TypeId} {r0 r1 r2 r3 r4 r5 r6 r7 : Value} {c : Array Value} {ws : List ByteArray} {ps : List Int} {d : Nat} {st : Rd.Sr} (h : Loc w p W T #[r0, r1, r2, r3, r4, r5, r6, r7] c) (hR : RdAt W p ws ps d st) (c0 c1 c2 c3 c4 c5 c6 c7 : Value) :
    (∃ Wf, Wf = put8 W w.heap.size c0 c1 c2 c3 c4 c5 c6 c7 ∧ Wf.cell? ⟨w.heap.size, 0, none⟩ = some c0 ∧ Wf.cell? ⟨w.heap.size, 1, none⟩ = some c1 ∧ Wf.cell? ⟨w.heap.size, 2, none⟩ = some c2 ∧ Wf.cell? ⟨w.heap.size, 3, none⟩ = some c3 ∧ Wf.cell? ⟨w.heap.size, 4, none⟩ = some c4 ∧ Wf.cell? ⟨w.heap.size, 5, none⟩ = some c5 ∧ Wf.cell? ⟨w.heap.size, 6, none⟩ = some c6 ∧ Wf.cell? ⟨w.heap.size, 7, none⟩ = some c7) ∧ But p w (put8 W w.heap.size c0 c1 c2 c3 c4 c5 c6 c7) ∧ RdAt (put8 W w.heap.size c0 c1 c2 c3 c4 c5 c6 c7) p ws ps d st ∧ Sub (only (fun b => decide (w.heap.size + 2 ≤ b)) W) (fr w (put8 W w.heap.size c0 c1 c2 c3 c4 c5 c6 c7)) := by
  have h0 : Loc w p (W.setCell ⟨w.heap.size, 0, none⟩ c0) T #[c0, r1, r2, r3, r4, r5, r6, r7] c := h.setr 0 c0
  have h1 : Loc w p ((W.setCell ⟨w.heap.size, 0, none⟩ c0).setCell ⟨w.heap.size, 1, none⟩ c1) T #[c0, c1, r2, r3, r4, r5, r6, r7] c := h0.setr 1 c1
  have h2 : Loc w p (((W.setCell ⟨w.heap.size, 0, none⟩ c0).setCell ⟨w.heap.size, 1, none⟩ c1).setCell ⟨w.heap.size, 2, none⟩ c2) T #[c0, c1, c2, r3, r4, r5, r6, r7] c := h1.setr 2 c2
  have h3 : Loc w p ((((W.setCell ⟨w.heap.size, 0, none⟩ c0).setCell ⟨w.heap.size, 1, none⟩ c1).setCell ⟨w.heap.size, 2, none⟩ c2).setCell ⟨w.heap.size, 3, none⟩ c3) T #[c0, c1, c2, c3, r4, r5, r6, r7] c := h2.setr 3 c3
  have h4 : Loc w p (((((W.setCell ⟨w.heap.size, 0, none⟩ c0).setCell ⟨w.heap.size, 1, none⟩ c1).setCell ⟨w.heap.size, 2, none⟩ c2).setCell ⟨w.heap.size, 3, none⟩ c3).setCell ⟨w.heap.size, 4, none⟩ c4) T #[c0, c1, c2, c3, c4, r5, r6, r7] c := h3.setr 4 c4
  have h5 : Loc w p ((((((W.setCell ⟨w.heap.size, 0, none⟩ c0).setCell ⟨w.heap.size, 1, none⟩ c1).setCell ⟨w.heap.size, 2, none⟩ c2).setCell ⟨w.heap.size, 3, none⟩ c3).setCell ⟨w.heap.size, 4, none⟩ c4).setCell ⟨w.heap.size, 5, none⟩ c5) T #[c0, c1, c2, c3, c4, c5, r6, r7] c := h4.setr 5 c5
  have h6 : Loc w p (((((((W.setCell ⟨w.heap.size, 0, none⟩ c0).setCell ⟨w.heap.size, 1, none⟩ c1).setCell ⟨w.heap.size, 2, none⟩ c2).setCell ⟨w.heap.size, 3, none⟩ c3).setCell ⟨w.heap.size, 4, none⟩ c4).setCell ⟨w.heap.size, 5, none⟩ c5).setCell ⟨w.heap.size, 6, none⟩ c6) T #[c0, c1, c2, c3, c4, c5, c6, r7] c := h5.setr 6 c6
  have h7 : Loc w p ((((((((W.setCell ⟨w.heap.size, 0, none⟩ c0).setCell ⟨w.heap.size, 1, none⟩ c1).setCell ⟨w.heap.size, 2, none⟩ c2).setCell ⟨w.heap.size, 3, none⟩ c3).setCell ⟨w.heap.size, 4, none⟩ c4).setCell ⟨w.heap.size, 5, none⟩ c5).setCell ⟨w.heap.size, 6, none⟩ c6).setCell ⟨w.heap.size, 7, none⟩ c7) T #[c0, c1, c2, c3, c4, c5, c6, c7] c := h6.setr 7 c7
  refine ⟨⟨_, rfl, (h7.rcell (i := 0) rfl).1, (h7.rcell (i := 1) rfl).1, (h7.rcell (i := 2) rfl).1, (h7.rcell (i := 3) rfl).1, (h7.rcell (i := 4) rfl).1, (h7.rcell (i := 5) rfl).1, (h7.rcell (i := 6) rfl).1, (h7.rcell (i := 7) rfl).1⟩, h7.but, h6.rdr (h5.rdr (h4.rdr (h3.rdr (h2.rdr (h1.rdr (h0.rdr (h.rdr hR 0 c0) 1 c1) 2 c2) 3 c3) 4 c4) 5 c5) 6 c6) 7 c7, ?_⟩
  refine Sub.trans ?_ (fresh_mono (n := w.heap.size + 2) (m := w.heap.size) (by omega))
  exact sees_set (sees_set (sees_set (sees_set (sees_set (sees_set (sees_set (sees_set (Sub.refl _) (by simp) _) (by simp) _) (by simp) _) (by simp) _) (by simp) _) (by simp) _) (by simp) _) (by simp) _

namespace Rd
section
variable {K k d : Nat} {st : Sr}
theorem pS_0 (h : cmd (pk (op d st)) = 0) : pS K (k + 1) d st = (⟨0, ⟨#[]⟩, (pE K (d + 1) (tk (fl (op d st)))).1, [], []⟩, sh (pE K (d + 1) (tk (fl (op d st)))).2) := by
  have e3 : s4 d st = (⟨#[]⟩, tk (fl (op d st))) := by unfold s4 s3 s2; rw [h]; rfl
  simp only [pS, h, e3]; rfl
theorem pS_1 (h : cmd (pk (op d st)) = 1) : pS K (k + 1) d st = (⟨1, (nmP (tk (op d st))).1, (pE K (d + 1) (nmP (tk (op d st))).2).1, [], []⟩, sh (pE K (d + 1) (nmP (tk (op d st))).2).2) := by
  have e3 : s4 d st = nmP (tk (op d st)) := by unfold s4 s3 s2; rw [h]; rfl
  simp only [pS, h, e3]; rfl
theorem pS_4 (h : cmd (pk (op d st)) = 4) : pS K (k + 1) d st = (⟨4, (nmP (tk (op d st))).1, (pE K (d + 1) (nmP (tk (op d st))).2).1, [], []⟩, sh (pE K (d + 1) (nmP (tk (op d st))).2).2) := by
  have e3 : s4 d st = nmP (tk (op d st)) := by unfold s4 s3 s2; rw [h]; rfl
  simp only [pS, h, e3]; rfl
theorem pS_3 (h : cmd (pk (op d st)) = 3) : pS K (k + 1) d st = (⟨3, ⟨#[]⟩, (pE K (d + 1) (tk (op d st))).1, (blk (pS K k (d + 1 + 1)) k (d + 1) (pE K (d + 1) (tk (op d st))).2).1, []⟩, sh (blk (pS K k (d + 1 + 1)) k (d + 1) (pE K (d + 1) (tk (op d st))).2).2) := by
  have e3 : s4 d st = (⟨#[]⟩, tk (op d st)) := by unfold s4 s3 s2; rw [h]; rfl
  simp only [pS, h, e3]; rfl
theorem pS_2 (h : cmd (pk (op d st)) = 2) : pS K (k + 1) d st = (⟨2, ⟨#[]⟩, (pE K (d + 1) (tk (op d st))).1, (blk (pS K k (d + 1 + 1)) k (d + 1) (pE K (d + 1) (tk (op d st))).2).1, (blk (pS K k (d + 1 + 1)) k (d + 1) (blk (pS K k (d + 1 + 1)) k (d + 1) (pE K (d + 1) (tk (op d st))).2).2).1⟩,
      sh (blk (pS K k (d + 1 + 1)) k (d + 1) (blk (pS K k (d + 1 + 1)) k (d + 1) (pE K (d + 1) (tk (op d st))).2).2).2) := by
  have e3 : s4 d st = (⟨#[]⟩, tk (op d st)) := by unfold s4 s3 s2; rw [h]; rfl
  simp only [pS, h, e3]; rfl
end
end Rd

set_option maxHeartbeats 4000000 in
set_option maxRecDepth 100000 in
theorem command_0 (K k : Nat) (ih : CmdC K k) (w : World) (p : Nat) (ws : List ByteArray) (ps : List Int) (d : Nat) (st : Rd.Sr) (h : RdAt w p ws ps d st) (hk : Rd.Ok (k + 1) st) (hK : Rd.Ok K st) (hd : DOk d st) (hd20 : d ≤ 20) (hkd : Rd.cmd (Rd.pk (Rd.op d st)) = 0) :
    Calls Tryz.prog 134 #[.pointer (some ⟨p, 0, none⟩)] w fun e w' => ∃ c0 c1 c2 c3 c4 c5 c6 c7, e = .returned (.agg #[c0, c1, c2, c3, c4, c5, c6, c7]) ∧ StL (K + 1 + (k + 1)) (fr w w') [c0, c1, c2, c3, c4, c5, c6, c7] (Rd.pS K (k + 1) d st).1 ∧ RdAt w' p ws ps d (Rd.pS K (k + 1) d st).2 ∧ But p w w' := by
  have IH := hide ih
  have HPS := hide (Rd.pS_0 (K := K) (k := k) hkd)
  have HL0 := hide (Loc.start w p 107 #[.int .i64 0, .string ⟨#[]⟩, .int .i64 0, .int .i64 0, .string ⟨#[]⟩, .slice none 0 0, .slice none 0 0, .slice none 0 0] #[.int .i64 0, .string ⟨#[]⟩, .int .i64 0, .int .i64 0, .string ⟨#[]⟩, .slice none 0 0, .slice none 0 0, .slice none 0 0] h.lt)
  have HR0 := hide (h.below (up (boxBelow w (.cells #[.int .i64 0, .string ⟨#[]⟩, .int .i64 0, .int .i64 0, .string ⟨#[]⟩, .slice none 0 0, .slice none 0 0, .slice none 0 0] 107)) (boxBelow _ (.cells #[.int .i64 0, .string ⟨#[]⟩, .int .i64 0, .int .i64 0, .string ⟨#[]⟩, .slice none 0 0, .slice none 0 0, .slice none 0 0] 107))))
  have HS1 := hide (Rd.op_lt d st)
  have HK1 := hide (hk.lt HS1.out)
  have HKK1 := hide (hK.le HS1.out.1)
  have HD1 := hide (hd.op (by omega))
  have HKD := hide hkd
  clear hk hK hd hkd ih
  go_enter Tryz.func134, Tryz.ntmps134
  go_wp2_with fail
  generalize ((w.alloc (.cells #[.int .i64 0, .string ⟨#[]⟩, .int .i64 0, .int .i64 0, .string ⟨#[]⟩, .slice none 0 0, .slice none 0 0, .slice none 0 0] 107)).alloc (.cells #[.int .i64 0, .string ⟨#[]⟩, .int .i64 0, .int .i64 0, .string ⟨#[]⟩, .slice none 0 0, .slice none 0 0, .slice none 0 0] 107)) = W0 at *
  refine (open_any W0 p ws ps d st HR0.out (by omega)).mono ?_
  rintro e w1 ⟨rfl, h1, hb1⟩
  have HL1 := hide (HL0.out.step hb1)
  clear hb1 HL0 HR0 h
  obtain ⟨s1, hs1⟩ : ∃ s1, s1 = Rd.op d st := ⟨_, rfl⟩
  rw [← hs1] at HPS HS1 HK1 HKK1 HD1 HKD h1
  clear hs1
  go_wp2_with fail
  refine (peek_any w1 p ws ps _ _ h1).mono ?_
  rintro e w2 ⟨rfl, h2, hb2⟩
  have HL2 := hide (HL1.out.step hb2)
  have HR2 := hide h2
  clear hb2 HL1 h1 h2
  go_wp2_with fail
  refine (cmdKind_any _ _).mono ?_
  rintro e w3 ⟨rfl, hw3⟩
  subst hw3
  rw [HKD.out]
  obtain ⟨u0, z0⟩ := HL2.out.cell (i := 0) rfl
  have HL3 : Hid (Loc w p (w3.setCell ⟨w.heap.size + 1, 0, none⟩ (.int .i64 0)) 107 #[.int .i64 0, .string ⟨#[]⟩, .int .i64 0, .int .i64 0, .string ⟨#[]⟩, .slice none 0 0, .slice none 0 0, .slice none 0 0] #[.int .i64 0, .string ⟨#[]⟩, .int .i64 0, .int .i64 0, .string ⟨#[]⟩, .slice none 0 0, .slice none 0 0, .slice none 0 0]) := hide (HL2.out.set 0 (.int .i64 0))
  have HR3 := hide (HL2.out.rd HR2.out 0 (.int .i64 0))
  clear HL2 HR2
  obtain ⟨q0, _⟩ := HL3.out.cell (i := 0) rfl
  go_wp2_with fail
  clear u0 z0 q0
  generalize w3.setCell ⟨w.heap.size + 1, 0, none⟩ (.int .i64 0) = W3 at *
  refine (fail_any _ p ws ps _ _ HR3.out).mono ?_
  rintro e w4 ⟨rfl, h4, hb4⟩
  have HL4 := hide (HL3.out.step hb4)
  have HR4 := hide h4
  clear h4 hb4 HL3 HR3
  go_wp2_with fail
  refine (take_any _ p ws ps _ _ HR4.out).mono ?_
  rintro e w5 ⟨rfl, h5, hb5⟩
  have HL5 := hide (HL4.out.step hb5)
  have HR5 := hide h5
  clear h5 hb5 HL4 HR4
  have HLE : Hid (Rd.Le (Rd.tk (Rd.fl s1)) s1) := hide ((Rd.tk_lt _).1.trans (Rd.fl_le _))
  generalize Rd.tk (Rd.fl s1) = s3 at *
  obtain ⟨q0, _⟩ := HL5.out.cell (i := 0) rfl
  go_wp2_with fail
  clear q0
  have HNZ : Hid ((⟨#[]⟩ : ByteArray).size ≤ 4096) := hide (Nat.zero_le _)
  have HK3 := hide (HK1.out.le HLE.out)
  have HKK3 := hide (HKK1.out.le HLE.out)
  have HD3 := hide (HD1.out.le HLE.out)
  refine (pexpr_any K _ p ws ps (d + 1) s3 HR5.out HKK3.out HD3.out).mono ?_
  rintro e w8 ⟨c0, c1, c2, c3, rfl, hx8, hR8, hb8⟩
  have HL8 := hide (HL5.out.step hb8)
  have HR8 := hide hR8
  have HLE8 := hide ((Rd.pE_lt K (d + 1) s3).1)
  have HX8 := hide (hx8.sub (fresh_mono HL5.out.size))
  obtain ⟨ax, cx, rfl, rfl, rfl, rfl⟩ := hx8.shape
  clear hx8 hR8 hb8 HL5 HR5
  generalize Rd.pE K (d + 1) s3 = ex at *
  obtain ⟨e, s5⟩ := ex
  obtain ⟨ek, en, es, eas⟩ := e
  simp only at HL8 HR8 HLE8 HX8 HPS ⊢
  obtain ⟨u2, z2⟩ := HL8.out.cell (i := 2) rfl
  obtain ⟨u3, z3⟩ := HL8.out.cell (i := 3) rfl
  obtain ⟨u4, z4⟩ := HL8.out.cell (i := 4) rfl
  obtain ⟨u5, z5⟩ := HL8.out.cell (i := 5) rfl
  obtain ⟨q0, _⟩ := HL8.out.cell (i := 0) rfl
  obtain ⟨hL9, hR9, hS9⟩ := HL8.out.setE HR8.out (.int .i64 ek) (.int .i64 en) (.string es) (.slice ax eas.length cx)
  have HL9 := hide hL9
  have HR9 := hide hR9
  have HX9 := hide (HX8.out.sub hS9)
  obtain ⟨q9, _⟩ := hL9.cell (i := 0) rfl
  clear hL9 hR9 hS9 HL8 HR8 HX8
  generalize eas.length = le at *
  unfold putE at HL9 HR9 HX9 q9
  go_wp2_with fail
  clear u2 u3 u4 u5 z2 z3 z4 z5 q0 q9
  generalize (((w8.setCell ⟨w.heap.size + 1, 2, none⟩ (.int .i64 ek)).setCell ⟨w.heap.size + 1, 2 + 1, none⟩ (.int .i64 en)).setCell ⟨w.heap.size + 1, 2 + 2, none⟩ (.string es)).setCell ⟨w.heap.size + 1, 2 + 3, none⟩ (.slice ax le cx) = W9 at *
  have HK5 := hide (HK3.out.le HLE8.out)
  have HKK5 := hide (HKK3.out.le HLE8.out)
  have HD5 := hide (HD3.out.le HLE8.out)
  refine (shut_any _ p ws ps d _ HR9.out (by omega)).mono ?_
  rintro e wS ⟨rfl, hRS, hbS⟩
  have HLS := hide (HL9.out.step hbS)
  have HRS := hide hRS
  have HXS := hide (HX9.out.sub (hbS.sub (decide_eq_false (by have := HLS.out.plt; omega))))
  clear hRS hbS
  obtain ⟨u0, z0⟩ := HLS.out.cell (i := 0) rfl
  obtain ⟨r0, y0⟩ := HLS.out.rcell (i := 0) rfl
  obtain ⟨u1, z1⟩ := HLS.out.cell (i := 1) rfl
  obtain ⟨r1, y1⟩ := HLS.out.rcell (i := 1) rfl
  obtain ⟨u2, z2⟩ := HLS.out.cell (i := 2) rfl
  obtain ⟨r2, y2⟩ := HLS.out.rcell (i := 2) rfl
  obtain ⟨u3, z3⟩ := HLS.out.cell (i := 3) rfl
  obtain ⟨r3, y3⟩ := HLS.out.rcell (i := 3) rfl
  obtain ⟨u4, z4⟩ := HLS.out.cell (i := 4) rfl
  obtain ⟨r4, y4⟩ := HLS.out.rcell (i := 4) rfl
  obtain ⟨u5, z5⟩ := HLS.out.cell (i := 5) rfl
  obtain ⟨r5, y5⟩ := HLS.out.rcell (i := 5) rfl
  obtain ⟨u6, z6⟩ := HLS.out.cell (i := 6) rfl
  obtain ⟨r6, y6⟩ := HLS.out.rcell (i := 6) rfl
  obtain ⟨u7, z7⟩ := HLS.out.cell (i := 7) rfl
  obtain ⟨r7, y7⟩ := HLS.out.rcell (i := 7) rfl
  go_wp2_with fail
  obtain ⟨⟨Wf, hWf, f0, f1, f2, f3, f4, f5, f6, f7⟩, hBf, hRf, hSf⟩ := HLS.out.fin8 HRS.out (.int .i64 0) (.string ⟨#[]⟩) (.int .i64 ek) (.int .i64 en) (.string es) (.slice ax le cx) (.slice none 0 0) (.slice none 0 0)
  unfold put8 at hWf hBf hRf hSf
  rw [← hWf] at hBf hRf hSf ⊢
  clear hWf u0 u1 u2 u3 u4 u5 u6 u7 z0 z1 z2 z3 z4 z5 z6 z7 r0 r1 r2 r3 r4 r5 r6 r7 y0 y1 y2 y3 y4 y5 y6 y7
  refine bodyPost_ret (v := .agg #[.int .i64 0, .string ⟨#[]⟩, .int .i64 ek, .int .i64 en, .string es, .slice ax le cx, .slice none 0 0, .slice none 0 0]) (by simp [results, Tryz.results134, go_sem, f0, f1, f2, f3, f4, f5, f6, f7]) rfl ?_
  refine ⟨_, _, _, _, _, _, _, _, rfl, ?_, ?_, hBf⟩
  · rw [HPS.out]
    exact ⟨_, _, _, _, _, _, rfl, ⟨by show (-9223372036854775808 : Int) ≤ 0; decide, by show (0 : Int) ≤ 9223372036854775807; decide⟩, Nat.le_trans HNZ.out (by decide), (HXS.out.sub hSf).mono _ (by omega), (sts_nil _ 0).mono _ (by omega), (sts_nil _ 0).mono _ (by omega)⟩
  · rw [HPS.out]
    exact hRf

set_option maxHeartbeats 4000000 in
set_option maxRecDepth 100000 in
theorem command_1 (K k : Nat) (ih : CmdC K k) (w : World) (p : Nat) (ws : List ByteArray) (ps : List Int) (d : Nat) (st : Rd.Sr) (h : RdAt w p ws ps d st) (hk : Rd.Ok (k + 1) st) (hK : Rd.Ok K st) (hd : DOk d st) (hd20 : d ≤ 20) (hkd : Rd.cmd (Rd.pk (Rd.op d st)) = 1) :
    Calls Tryz.prog 134 #[.pointer (some ⟨p, 0, none⟩)] w fun e w' => ∃ c0 c1 c2 c3 c4 c5 c6 c7, e = .returned (.agg #[c0, c1, c2, c3, c4, c5, c6, c7]) ∧ StL (K + 1 + (k + 1)) (fr w w') [c0, c1, c2, c3, c4, c5, c6, c7] (Rd.pS K (k + 1) d st).1 ∧ RdAt w' p ws ps d (Rd.pS K (k + 1) d st).2 ∧ But p w w' := by
  have IH := hide ih
  have HPS := hide (Rd.pS_1 (K := K) (k := k) hkd)
  have HL0 := hide (Loc.start w p 107 #[.int .i64 0, .string ⟨#[]⟩, .int .i64 0, .int .i64 0, .string ⟨#[]⟩, .slice none 0 0, .slice none 0 0, .slice none 0 0] #[.int .i64 0, .string ⟨#[]⟩, .int .i64 0, .int .i64 0, .string ⟨#[]⟩, .slice none 0 0, .slice none 0 0, .slice none 0 0] h.lt)
  have HR0 := hide (h.below (up (boxBelow w (.cells #[.int .i64 0, .string ⟨#[]⟩, .int .i64 0, .int .i64 0, .string ⟨#[]⟩, .slice none 0 0, .slice none 0 0, .slice none 0 0] 107)) (boxBelow _ (.cells #[.int .i64 0, .string ⟨#[]⟩, .int .i64 0, .int .i64 0, .string ⟨#[]⟩, .slice none 0 0, .slice none 0 0, .slice none 0 0] 107))))
  have HS1 := hide (Rd.op_lt d st)
  have HK1 := hide (hk.lt HS1.out)
  have HKK1 := hide (hK.le HS1.out.1)
  have HD1 := hide (hd.op (by omega))
  have HKD := hide hkd
  clear hk hK hd hkd ih
  go_enter Tryz.func134, Tryz.ntmps134
  go_wp2_with fail
  generalize ((w.alloc (.cells #[.int .i64 0, .string ⟨#[]⟩, .int .i64 0, .int .i64 0, .string ⟨#[]⟩, .slice none 0 0, .slice none 0 0, .slice none 0 0] 107)).alloc (.cells #[.int .i64 0, .string ⟨#[]⟩, .int .i64 0, .int .i64 0, .string ⟨#[]⟩, .slice none 0 0, .slice none 0 0, .slice none 0 0] 107)) = W0 at *
  refine (open_any W0 p ws ps d st HR0.out (by omega)).mono ?_
  rintro e w1 ⟨rfl, h1, hb1⟩
  have HL1 := hide (HL0.out.step hb1)
  clear hb1 HL0 HR0 h
  obtain ⟨s1, hs1⟩ : ∃ s1, s1 = Rd.op d st := ⟨_, rfl⟩
  rw [← hs1] at HPS HS1 HK1 HKK1 HD1 HKD h1
  clear hs1
  go_wp2_with fail
  refine (peek_any w1 p ws ps _ _ h1).mono ?_
  rintro e w2 ⟨rfl, h2, hb2⟩
  have HL2 := hide (HL1.out.step hb2)
  have HR2 := hide h2
  clear hb2 HL1 h1 h2
  go_wp2_with fail
  refine (cmdKind_any _ _).mono ?_
  rintro e w3 ⟨rfl, hw3⟩
  subst hw3
  rw [HKD.out]
  obtain ⟨u0, z0⟩ := HL2.out.cell (i := 0) rfl
  have HL3 : Hid (Loc w p (w3.setCell ⟨w.heap.size + 1, 0, none⟩ (.int .i64 1)) 107 #[.int .i64 0, .string ⟨#[]⟩, .int .i64 0, .int .i64 0, .string ⟨#[]⟩, .slice none 0 0, .slice none 0 0, .slice none 0 0] #[.int .i64 1, .string ⟨#[]⟩, .int .i64 0, .int .i64 0, .string ⟨#[]⟩, .slice none 0 0, .slice none 0 0, .slice none 0 0]) := hide (HL2.out.set 0 (.int .i64 1))
  have HR3 := hide (HL2.out.rd HR2.out 0 (.int .i64 1))
  clear HL2 HR2
  obtain ⟨q0, _⟩ := HL3.out.cell (i := 0) rfl
  go_wp2_with fail
  clear u0 z0 q0
  generalize w3.setCell ⟨w.heap.size + 1, 0, none⟩ (.int .i64 1) = W3 at *
  refine (take_any _ p ws ps _ _ HR3.out).mono ?_
  rintro e w5 ⟨rfl, h5, hb5⟩
  have HL5 := hide (HL3.out.step hb5)
  have HR5 := hide h5
  clear h5 hb5 HL3 HR3
  obtain ⟨q0, _⟩ := HL5.out.cell (i := 0) rfl
  have HLE0 : Hid (Rd.Le (Rd.tk s1) s1) := hide (Rd.tk_lt _).1
  generalize Rd.tk s1 = s2 at *
  go_wp2_with fail
  clear q0
  refine (name_any' _ p ws ps _ _ HR5.out).mono ?_
  rintro e w6 ⟨rfl, h6, hb6⟩
  have HNZ := hide (nm_size HR5.out)
  have HL6 := hide (HL5.out.step hb6)
  have HLE : Hid (Rd.Le (Rd.nmP s2).2 s1) := hide ((Rd.nmP_lt _).1.trans HLE0.out)
  have HR6 := hide h6
  clear h6 hb6 HL5 HR5 HLE0
  generalize Rd.nmP s2 = nm at *
  obtain ⟨nn, s3⟩ := nm
  simp only at HNZ HR6 HLE HPS ⊢
  obtain ⟨u1, z1⟩ := HL6.out.cell (i := 1) rfl
  have HL7 : Hid (Loc w p (w6.setCell ⟨w.heap.size + 1, 1, none⟩ (.string nn)) 107 #[.int .i64 0, .string ⟨#[]⟩, .int .i64 0, .int .i64 0, .string ⟨#[]⟩, .slice none 0 0, .slice none 0 0, .slice none 0 0] #[.int .i64 1, .string nn, .int .i64 0, .int .i64 0, .string ⟨#[]⟩, .slice none 0 0, .slice none 0 0, .slice none 0 0]) := hide (HL6.out.set 1 (.string nn))
  have HR7 := hide (HL6.out.rd HR6.out 1 (.string nn))
  clear HL6 HR6
  go_wp2_with fail
  clear u1 z1
  generalize w6.setCell ⟨w.heap.size + 1, 1, none⟩ (.string nn) = W7 at *
  have HK3 := hide (HK1.out.le HLE.out)
  have HKK3 := hide (HKK1.out.le HLE.out)
  have HD3 := hide (HD1.out.le HLE.out)
  refine (pexpr_any K _ p ws ps (d + 1) s3 HR7.out HKK3.out HD3.out).mono ?_
  rintro e w8 ⟨c0, c1, c2, c3, rfl, hx8, hR8, hb8⟩
  have HL8 := hide (HL7.out.step hb8)
  have HR8 := hide hR8
  have HLE8 := hide ((Rd.pE_lt K (d + 1) s3).1)
  have HX8 := hide (hx8.sub (fresh_mono HL7.out.size))
  obtain ⟨ax, cx, rfl, rfl, rfl, rfl⟩ := hx8.shape
  clear hx8 hR8 hb8 HL7 HR7
  generalize Rd.pE K (d + 1) s3 = ex at *
  obtain ⟨e, s5⟩ := ex
  obtain ⟨ek, en, es, eas⟩ := e
  simp only at HL8 HR8 HLE8 HX8 HPS ⊢
  obtain ⟨u2, z2⟩ := HL8.out.cell (i := 2) rfl
  obtain ⟨u3, z3⟩ := HL8.out.cell (i := 3) rfl
  obtain ⟨u4, z4⟩ := HL8.out.cell (i := 4) rfl
  obtain ⟨u5, z5⟩ := HL8.out.cell (i := 5) rfl
  obtain ⟨q0, _⟩ := HL8.out.cell (i := 0) rfl
  obtain ⟨hL9, hR9, hS9⟩ := HL8.out.setE HR8.out (.int .i64 ek) (.int .i64 en) (.string es) (.slice ax eas.length cx)
  have HL9 := hide hL9
  have HR9 := hide hR9
  have HX9 := hide (HX8.out.sub hS9)
  obtain ⟨q9, _⟩ := hL9.cell (i := 0) rfl
  clear hL9 hR9 hS9 HL8 HR8 HX8
  generalize eas.length = le at *
  unfold putE at HL9 HR9 HX9 q9
  go_wp2_with fail
  clear u2 u3 u4 u5 z2 z3 z4 z5 q0 q9
  generalize (((w8.setCell ⟨w.heap.size + 1, 2, none⟩ (.int .i64 ek)).setCell ⟨w.heap.size + 1, 2 + 1, none⟩ (.int .i64 en)).setCell ⟨w.heap.size + 1, 2 + 2, none⟩ (.string es)).setCell ⟨w.heap.size + 1, 2 + 3, none⟩ (.slice ax le cx) = W9 at *
  have HK5 := hide (HK3.out.le HLE8.out)
  have HKK5 := hide (HKK3.out.le HLE8.out)
  have HD5 := hide (HD3.out.le HLE8.out)
  refine (shut_any _ p ws ps d _ HR9.out (by omega)).mono ?_
  rintro e wS ⟨rfl, hRS, hbS⟩
  have HLS := hide (HL9.out.step hbS)
  have HRS := hide hRS
  have HXS := hide (HX9.out.sub (hbS.sub (decide_eq_false (by have := HLS.out.plt; omega))))
  clear hRS hbS
  obtain ⟨u0, z0⟩ := HLS.out.cell (i := 0) rfl
  obtain ⟨r0, y0⟩ := HLS.out.rcell (i := 0) rfl
  obtain ⟨u1, z1⟩ := HLS.out.cell (i := 1) rfl
  obtain ⟨r1, y1⟩ := HLS.out.rcell (i := 1) rfl
  obtain ⟨u2, z2⟩ := HLS.out.cell (i := 2) rfl
  obtain ⟨r2, y2⟩ := HLS.out.rcell (i := 2) rfl
  obtain ⟨u3, z3⟩ := HLS.out.cell (i := 3) rfl
  obtain ⟨r3, y3⟩ := HLS.out.rcell (i := 3) rfl
  obtain ⟨u4, z4⟩ := HLS.out.cell (i := 4) rfl
  obtain ⟨r4, y4⟩ := HLS.out.rcell (i := 4) rfl
  obtain ⟨u5, z5⟩ := HLS.out.cell (i := 5) rfl
  obtain ⟨r5, y5⟩ := HLS.out.rcell (i := 5) rfl
  obtain ⟨u6, z6⟩ := HLS.out.cell (i := 6) rfl
  obtain ⟨r6, y6⟩ := HLS.out.rcell (i := 6) rfl
  obtain ⟨u7, z7⟩ := HLS.out.cell (i := 7) rfl
  obtain ⟨r7, y7⟩ := HLS.out.rcell (i := 7) rfl
  go_wp2_with fail
  obtain ⟨⟨Wf, hWf, f0, f1, f2, f3, f4, f5, f6, f7⟩, hBf, hRf, hSf⟩ := HLS.out.fin8 HRS.out (.int .i64 1) (.string nn) (.int .i64 ek) (.int .i64 en) (.string es) (.slice ax le cx) (.slice none 0 0) (.slice none 0 0)
  unfold put8 at hWf hBf hRf hSf
  rw [← hWf] at hBf hRf hSf ⊢
  clear hWf u0 u1 u2 u3 u4 u5 u6 u7 z0 z1 z2 z3 z4 z5 z6 z7 r0 r1 r2 r3 r4 r5 r6 r7 y0 y1 y2 y3 y4 y5 y6 y7
  refine bodyPost_ret (v := .agg #[.int .i64 1, .string nn, .int .i64 ek, .int .i64 en, .string es, .slice ax le cx, .slice none 0 0, .slice none 0 0]) (by simp [results, Tryz.results134, go_sem, f0, f1, f2, f3, f4, f5, f6, f7]) rfl ?_
  refine ⟨_, _, _, _, _, _, _, _, rfl, ?_, ?_, hBf⟩
  · rw [HPS.out]
    exact ⟨_, _, _, _, _, _, rfl, ⟨by show (-9223372036854775808 : Int) ≤ 1; decide, by show (1 : Int) ≤ 9223372036854775807; decide⟩, Nat.le_trans HNZ.out (by decide), (HXS.out.sub hSf).mono _ (by omega), (sts_nil _ 0).mono _ (by omega), (sts_nil _ 0).mono _ (by omega)⟩
  · rw [HPS.out]
    exact hRf

set_option maxHeartbeats 4000000 in
set_option maxRecDepth 100000 in
theorem command_2 (K k : Nat) (ih : CmdC K k) (w : World) (p : Nat) (ws : List ByteArray) (ps : List Int) (d : Nat) (st : Rd.Sr) (h : RdAt w p ws ps d st) (hk : Rd.Ok (k + 1) st) (hK : Rd.Ok K st) (hd : DOk d st) (hd20 : d ≤ 20) (hkd : Rd.cmd (Rd.pk (Rd.op d st)) = 2) :
    Calls Tryz.prog 134 #[.pointer (some ⟨p, 0, none⟩)] w fun e w' => ∃ c0 c1 c2 c3 c4 c5 c6 c7, e = .returned (.agg #[c0, c1, c2, c3, c4, c5, c6, c7]) ∧ StL (K + 1 + (k + 1)) (fr w w') [c0, c1, c2, c3, c4, c5, c6, c7] (Rd.pS K (k + 1) d st).1 ∧ RdAt w' p ws ps d (Rd.pS K (k + 1) d st).2 ∧ But p w w' := by
  have IH := hide ih
  have HPS := hide (Rd.pS_2 (K := K) (k := k) hkd)
  have HL0 := hide (Loc.start w p 107 #[.int .i64 0, .string ⟨#[]⟩, .int .i64 0, .int .i64 0, .string ⟨#[]⟩, .slice none 0 0, .slice none 0 0, .slice none 0 0] #[.int .i64 0, .string ⟨#[]⟩, .int .i64 0, .int .i64 0, .string ⟨#[]⟩, .slice none 0 0, .slice none 0 0, .slice none 0 0] h.lt)
  have HR0 := hide (h.below (up (boxBelow w (.cells #[.int .i64 0, .string ⟨#[]⟩, .int .i64 0, .int .i64 0, .string ⟨#[]⟩, .slice none 0 0, .slice none 0 0, .slice none 0 0] 107)) (boxBelow _ (.cells #[.int .i64 0, .string ⟨#[]⟩, .int .i64 0, .int .i64 0, .string ⟨#[]⟩, .slice none 0 0, .slice none 0 0, .slice none 0 0] 107))))
  have HS1 := hide (Rd.op_lt d st)
  have HK1 := hide (hk.lt HS1.out)
  have HKK1 := hide (hK.le HS1.out.1)
  have HD1 := hide (hd.op (by omega))
  have HKD := hide hkd
  clear hk hK hd hkd ih
  go_enter Tryz.func134, Tryz.ntmps134
  go_wp2_with fail
  generalize ((w.alloc (.cells #[.int .i64 0, .string ⟨#[]⟩, .int .i64 0, .int .i64 0, .string ⟨#[]⟩, .slice none 0 0, .slice none 0 0, .slice none 0 0] 107)).alloc (.cells #[.int .i64 0, .string ⟨#[]⟩, .int .i64 0, .int .i64 0, .string ⟨#[]⟩, .slice none 0 0, .slice none 0 0, .slice none 0 0] 107)) = W0 at *
  refine (open_any W0 p ws ps d st HR0.out (by omega)).mono ?_
  rintro e w1 ⟨rfl, h1, hb1⟩
  have HL1 := hide (HL0.out.step hb1)
  clear hb1 HL0 HR0 h
  obtain ⟨s1, hs1⟩ : ∃ s1, s1 = Rd.op d st := ⟨_, rfl⟩
  rw [← hs1] at HPS HS1 HK1 HKK1 HD1 HKD h1
  clear hs1
  go_wp2_with fail
  refine (peek_any w1 p ws ps _ _ h1).mono ?_
  rintro e w2 ⟨rfl, h2, hb2⟩
  have HL2 := hide (HL1.out.step hb2)
  have HR2 := hide h2
  clear hb2 HL1 h1 h2
  go_wp2_with fail
  refine (cmdKind_any _ _).mono ?_
  rintro e w3 ⟨rfl, hw3⟩
  subst hw3
  rw [HKD.out]
  obtain ⟨u0, z0⟩ := HL2.out.cell (i := 0) rfl
  have HL3 : Hid (Loc w p (w3.setCell ⟨w.heap.size + 1, 0, none⟩ (.int .i64 2)) 107 #[.int .i64 0, .string ⟨#[]⟩, .int .i64 0, .int .i64 0, .string ⟨#[]⟩, .slice none 0 0, .slice none 0 0, .slice none 0 0] #[.int .i64 2, .string ⟨#[]⟩, .int .i64 0, .int .i64 0, .string ⟨#[]⟩, .slice none 0 0, .slice none 0 0, .slice none 0 0]) := hide (HL2.out.set 0 (.int .i64 2))
  have HR3 := hide (HL2.out.rd HR2.out 0 (.int .i64 2))
  clear HL2 HR2
  obtain ⟨q0, _⟩ := HL3.out.cell (i := 0) rfl
  go_wp2_with fail
  clear u0 z0 q0
  generalize w3.setCell ⟨w.heap.size + 1, 0, none⟩ (.int .i64 2) = W3 at *
  refine (take_any _ p ws ps _ _ HR3.out).mono ?_
  rintro e w5 ⟨rfl, h5, hb5⟩
  have HL5 := hide (HL3.out.step hb5)
  have HR5 := hide h5
  clear h5 hb5 HL3 HR3
  obtain ⟨q0, _⟩ := HL5.out.cell (i := 0) rfl
  have HLE : Hid (Rd.Le (Rd.tk s1) s1) := hide (Rd.tk_lt _).1
  generalize Rd.tk s1 = s3 at *
  go_wp2_with fail
  clear q0
  have HNZ : Hid ((⟨#[]⟩ : ByteArray).size ≤ 4096) := hide (Nat.zero_le _)
  have HK3 := hide (HK1.out.le HLE.out)
  have HKK3 := hide (HKK1.out.le HLE.out)
  have HD3 := hide (HD1.out.le HLE.out)
  refine (pexpr_any K _ p ws ps (d + 1) s3 HR5.out HKK3.out HD3.out).mono ?_
  rintro e w8 ⟨c0, c1, c2, c3, rfl, hx8, hR8, hb8⟩
  have HL8 := hide (HL5.out.step hb8)
  have HR8 := hide hR8
  have HLE8 := hide ((Rd.pE_lt K (d + 1) s3).1)
  have HX8 := hide (hx8.sub (fresh_mono HL5.out.size))
  obtain ⟨ax, cx, rfl, rfl, rfl, rfl⟩ := hx8.shape
  clear hx8 hR8 hb8 HL5 HR5
  generalize Rd.pE K (d + 1) s3 = ex at *
  obtain ⟨e, s5⟩ := ex
  obtain ⟨ek, en, es, eas⟩ := e
  simp only at HL8 HR8 HLE8 HX8 HPS ⊢
  obtain ⟨u2, z2⟩ := HL8.out.cell (i := 2) rfl
  obtain ⟨u3, z3⟩ := HL8.out.cell (i := 3) rfl
  obtain ⟨u4, z4⟩ := HL8.out.cell (i := 4) rfl
  obtain ⟨u5, z5⟩ := HL8.out.cell (i := 5) rfl
  obtain ⟨q0, _⟩ := HL8.out.cell (i := 0) rfl
  obtain ⟨hL9, hR9, hS9⟩ := HL8.out.setE HR8.out (.int .i64 ek) (.int .i64 en) (.string es) (.slice ax eas.length cx)
  have HL9 := hide hL9
  have HR9 := hide hR9
  have HX9 := hide (HX8.out.sub hS9)
  obtain ⟨q9, _⟩ := hL9.cell (i := 0) rfl
  clear hL9 hR9 hS9 HL8 HR8 HX8
  generalize eas.length = le at *
  unfold putE at HL9 HR9 HX9 q9
  go_wp2_with fail
  clear u2 u3 u4 u5 z2 z3 z4 z5 q0 q9
  generalize (((w8.setCell ⟨w.heap.size + 1, 2, none⟩ (.int .i64 ek)).setCell ⟨w.heap.size + 1, 2 + 1, none⟩ (.int .i64 en)).setCell ⟨w.heap.size + 1, 2 + 2, none⟩ (.string es)).setCell ⟨w.heap.size + 1, 2 + 3, none⟩ (.slice ax le cx) = W9 at *
  have HK5 := hide (HK3.out.le HLE8.out)
  have HKK5 := hide (HKK3.out.le HLE8.out)
  have HD5 := hide (HD3.out.le HLE8.out)
  refine (block_of K k IH.out _ p ws ps (d + 1) s5 HR9.out HK5.out HKK5.out HD5.out (by omega) k HK5.out).mono ?_
  rintro e wA0 ⟨vA, rfl, hxA, hRA, hbA⟩
  have HLA := hide (HL9.out.step hbA)
  have HRA := hide hRA
  have HLEA := hide ((Rd.blk_lt (fun s => Rd.pS_le K k (d + 1 + 1) s) k (d + 1) s5).1)
  have HXA := hide (HX9.out.sub (hbA.sub (decide_eq_false (by have := HLA.out.plt; omega))))
  have HSA := hide (hxA.sub (fresh_mono HL9.out.size))
  obtain ⟨aA, bA, rfl, _⟩ := hxA.shape
  clear hxA hRA hbA
  generalize Rd.blk (Rd.pS K k (d + 1 + 1)) k (d + 1) s5 = bk at *
  obtain ⟨lA, sA⟩ := bk
  simp only at HLA HRA HLEA HSA HPS ⊢
  generalize hlenA : lA.length = nA at *
  clear hlenA
  have HKA := hide (HK5.out.le HLEA.out)
  have HKKA := hide (HKK5.out.le HLEA.out)
  have HDA := hide (HD5.out.le HLEA.out)
  obtain ⟨u6, z6⟩ := HLA.out.cell (i := 6) rfl
  have HLA2 : Hid (Loc w p (wA0.setCell ⟨w.heap.size + 1, 6, none⟩ (.slice aA nA bA)) 107 #[.int .i64 0, .string ⟨#[]⟩, .int .i64 0, .int .i64 0, .string ⟨#[]⟩, .slice none 0 0, .slice none 0 0, .slice none 0 0] #[.int .i64 2, .string ⟨#[]⟩, .int .i64 ek, .int .i64 en, .string es, .slice ax le cx, .slice aA nA bA, .slice none 0 0]) := hide (HLA.out.set 6 (.slice aA nA bA))
  have HRA2 := hide (HLA.out.rd HRA.out 6 (.slice aA nA bA))
  have HXA2 := hide (HXA.out.sub (only_set (a := ⟨w.heap.size + 1, 6, none⟩) (by simp) (.slice aA nA bA)))
  have HSA2 := hide (HSA.out.sub (only_set (a := ⟨w.heap.size + 1, 6, none⟩) (by simp) (.slice aA nA bA)))
  obtain ⟨q0, _⟩ := HLA2.out.cell (i := 0) rfl
  go_wp2_with fail
  clear u6 z6 q0
  generalize wA0.setCell ⟨w.heap.size + 1, 6, none⟩ (.slice aA nA bA) = WB0 at *
  refine (block_of K k IH.out _ p ws ps (d + 1) sA HRA2.out HKA.out HKKA.out HDA.out (by omega) k HKA.out).mono ?_
  rintro e wA1 ⟨vB, rfl, hxB, hRA, hbA⟩
  have HLB := hide (HLA2.out.step hbA)
  have HRB := hide hRA
  have HLEB := hide ((Rd.blk_lt (fun s => Rd.pS_le K k (d + 1 + 1) s) k (d + 1) sA).1)
  have HXB := hide (HXA2.out.sub (hbA.sub (decide_eq_false (by have := HLB.out.plt; omega))))
  have HSA2B := hide (HSA2.out.sub (hbA.sub (decide_eq_false (by have := HLB.out.plt; omega))))
  have HSB := hide (hxB.sub (fresh_mono HLA2.out.size))
  obtain ⟨aB, bB, rfl, _⟩ := hxB.shape
  clear hxB hRA hbA
  generalize Rd.blk (Rd.pS K k (d + 1 + 1)) k (d + 1) sA = bk at *
  obtain ⟨lB, sB⟩ := bk
  simp only at HLB HRB HLEB HSB HPS ⊢
  generalize hlenB : lB.length = nB at *
  clear hlenB
  have HKB := hide (HKA.out.le HLEB.out)
  have HKKB := hide (HKKA.out.le HLEB.out)
  have HDB := hide (HDA.out.le HLEB.out)
  obtain ⟨u6, z6⟩ := HLB.out.cell (i := 7) rfl
  have HLB2 : Hid (Loc w p (wA1.setCell ⟨w.heap.size + 1, 7, none⟩ (.slice aB nB bB)) 107 #[.int .i64 0, .string ⟨#[]⟩, .int .i64 0, .int .i64 0, .string ⟨#[]⟩, .slice none 0 0, .slice none 0 0, .slice none 0 0] #[.int .i64 2, .string ⟨#[]⟩, .int .i64 ek, .int .i64 en, .string es, .slice ax le cx, .slice aA nA bA, .slice aB nB bB]) := hide (HLB.out.set 7 (.slice aB nB bB))
  have HRB2 := hide (HLB.out.rd HRB.out 7 (.slice aB nB bB))
  have HXB2 := hide (HXB.out.sub (only_set (a := ⟨w.heap.size + 1, 7, none⟩) (by simp) (.slice aB nB bB)))
  have HSB2 := hide (HSB.out.sub (only_set (a := ⟨w.heap.size + 1, 7, none⟩) (by simp) (.slice aB nB bB)))
  have HSA2B2 := hide (HSA2B.out.sub (only_set (a := ⟨w.heap.size + 1, 7, none⟩) (by simp) (.slice aB nB bB)))
  obtain ⟨q0, _⟩ := HLB2.out.cell (i := 0) rfl
  go_wp2_with fail
  clear u6 z6 q0
  generalize wA1.setCell ⟨w.heap.size + 1, 7, none⟩ (.slice aB nB bB) = WB1 at *
  refine (shut_any _ p ws ps d _ HRB2.out (by omega)).mono ?_
  rintro e wS ⟨rfl, hRS, hbS⟩
  have HLS := hide (HLB2.out.step hbS)
  have HRS := hide hRS
  have HXS := hide (HXB2.out.sub (hbS.sub (decide_eq_false (by have := HLS.out.plt; omega))))
  have HSSlA := hide (HSA2B2.out.sub (hbS.sub (decide_eq_false (by have := HLS.out.plt; omega))))
  have HSSlB := hide (HSB2.out.sub (hbS.sub (decide_eq_false (by have := HLS.out.plt; omega))))
  clear hRS hbS
  obtain ⟨u0, z0⟩ := HLS.out.cell (i := 0) rfl
  obtain ⟨r0, y0⟩ := HLS.out.rcell (i := 0) rfl
  obtain ⟨u1, z1⟩ := HLS.out.cell (i := 1) rfl
  obtain ⟨r1, y1⟩ := HLS.out.rcell (i := 1) rfl
  obtain ⟨u2, z2⟩ := HLS.out.cell (i := 2) rfl
  obtain ⟨r2, y2⟩ := HLS.out.rcell (i := 2) rfl
  obtain ⟨u3, z3⟩ := HLS.out.cell (i := 3) rfl
  obtain ⟨r3, y3⟩ := HLS.out.rcell (i := 3) rfl
  obtain ⟨u4, z4⟩ := HLS.out.cell (i := 4) rfl
  obtain ⟨r4, y4⟩ := HLS.out.rcell (i := 4) rfl
  obtain ⟨u5, z5⟩ := HLS.out.cell (i := 5) rfl
  obtain ⟨r5, y5⟩ := HLS.out.rcell (i := 5) rfl
  obtain ⟨u6, z6⟩ := HLS.out.cell (i := 6) rfl
  obtain ⟨r6, y6⟩ := HLS.out.rcell (i := 6) rfl
  obtain ⟨u7, z7⟩ := HLS.out.cell (i := 7) rfl
  obtain ⟨r7, y7⟩ := HLS.out.rcell (i := 7) rfl
  go_wp2_with fail
  obtain ⟨⟨Wf, hWf, f0, f1, f2, f3, f4, f5, f6, f7⟩, hBf, hRf, hSf⟩ := HLS.out.fin8 HRS.out (.int .i64 2) (.string ⟨#[]⟩) (.int .i64 ek) (.int .i64 en) (.string es) (.slice ax le cx) (.slice aA nA bA) (.slice aB nB bB)
  unfold put8 at hWf hBf hRf hSf
  rw [← hWf] at hBf hRf hSf ⊢
  clear hWf u0 u1 u2 u3 u4 u5 u6 u7 z0 z1 z2 z3 z4 z5 z6 z7 r0 r1 r2 r3 r4 r5 r6 r7 y0 y1 y2 y3 y4 y5 y6 y7
  refine bodyPost_ret (v := .agg #[.int .i64 2, .string ⟨#[]⟩, .int .i64 ek, .int .i64 en, .string es, .slice ax le cx, .slice aA nA bA, .slice aB nB bB]) (by simp [results, Tryz.results134, go_sem, f0, f1, f2, f3, f4, f5, f6, f7]) rfl ?_
  refine ⟨_, _, _, _, _, _, _, _, rfl, ?_, ?_, hBf⟩
  · rw [HPS.out]
    exact ⟨_, _, _, _, _, _, rfl, ⟨by show (-9223372036854775808 : Int) ≤ 2; decide, by show (2 : Int) ≤ 9223372036854775807; decide⟩, Nat.le_trans HNZ.out (by decide), (HXS.out.sub hSf).mono _ (by omega), (HSSlA.out.sub hSf).mono _ (by omega), (HSSlB.out.sub hSf).mono _ (by omega)⟩
  · rw [HPS.out]
    exact hRf

set_option maxHeartbeats 4000000 in
set_option maxRecDepth 100000 in
theorem command_3 (K k : Nat) (ih : CmdC K k) (w : World) (p : Nat) (ws : List ByteArray) (ps : List Int) (d : Nat) (st : Rd.Sr) (h : RdAt w p ws ps d st) (hk : Rd.Ok (k + 1) st) (hK : Rd.Ok K st) (hd : DOk d st) (hd20 : d ≤ 20) (hkd : Rd.cmd (Rd.pk (Rd.op d st)) = 3) :
    Calls Tryz.prog 134 #[.pointer (some ⟨p, 0, none⟩)] w fun e w' => ∃ c0 c1 c2 c3 c4 c5 c6 c7, e = .returned (.agg #[c0, c1, c2, c3, c4, c5, c6, c7]) ∧ StL (K + 1 + (k + 1)) (fr w w') [c0, c1, c2, c3, c4, c5, c6, c7] (Rd.pS K (k + 1) d st).1 ∧ RdAt w' p ws ps d (Rd.pS K (k + 1) d st).2 ∧ But p w w' := by
  have IH := hide ih
  have HPS := hide (Rd.pS_3 (K := K) (k := k) hkd)
  have HL0 := hide (Loc.start w p 107 #[.int .i64 0, .string ⟨#[]⟩, .int .i64 0, .int .i64 0, .string ⟨#[]⟩, .slice none 0 0, .slice none 0 0, .slice none 0 0] #[.int .i64 0, .string ⟨#[]⟩, .int .i64 0, .int .i64 0, .string ⟨#[]⟩, .slice none 0 0, .slice none 0 0, .slice none 0 0] h.lt)
  have HR0 := hide (h.below (up (boxBelow w (.cells #[.int .i64 0, .string ⟨#[]⟩, .int .i64 0, .int .i64 0, .string ⟨#[]⟩, .slice none 0 0, .slice none 0 0, .slice none 0 0] 107)) (boxBelow _ (.cells #[.int .i64 0, .string ⟨#[]⟩, .int .i64 0, .int .i64 0, .string ⟨#[]⟩, .slice none 0 0, .slice none 0 0, .slice none 0 0] 107))))
  have HS1 := hide (Rd.op_lt d st)
  have HK1 := hide (hk.lt HS1.out)
  have HKK1 := hide (hK.le HS1.out.1)
  have HD1 := hide (hd.op (by omega))
  have HKD := hide hkd
  clear hk hK hd hkd ih
  go_enter Tryz.func134, Tryz.ntmps134
  go_wp2_with fail
  generalize ((w.alloc (.cells #[.int .i64 0, .string ⟨#[]⟩, .int .i64 0, .int .i64 0, .string ⟨#[]⟩, .slice none 0 0, .slice none 0 0, .slice none 0 0] 107)).alloc (.cells #[.int .i64 0, .string ⟨#[]⟩, .int .i64 0, .int .i64 0, .string ⟨#[]⟩, .slice none 0 0, .slice none 0 0, .slice none 0 0] 107)) = W0 at *
  refine (open_any W0 p ws ps d st HR0.out (by omega)).mono ?_
  rintro e w1 ⟨rfl, h1, hb1⟩
  have HL1 := hide (HL0.out.step hb1)
  clear hb1 HL0 HR0 h
  obtain ⟨s1, hs1⟩ : ∃ s1, s1 = Rd.op d st := ⟨_, rfl⟩
  rw [← hs1] at HPS HS1 HK1 HKK1 HD1 HKD h1
  clear hs1
  go_wp2_with fail
  refine (peek_any w1 p ws ps _ _ h1).mono ?_
  rintro e w2 ⟨rfl, h2, hb2⟩
  have HL2 := hide (HL1.out.step hb2)
  have HR2 := hide h2
  clear hb2 HL1 h1 h2
  go_wp2_with fail
  refine (cmdKind_any _ _).mono ?_
  rintro e w3 ⟨rfl, hw3⟩
  subst hw3
  rw [HKD.out]
  obtain ⟨u0, z0⟩ := HL2.out.cell (i := 0) rfl
  have HL3 : Hid (Loc w p (w3.setCell ⟨w.heap.size + 1, 0, none⟩ (.int .i64 3)) 107 #[.int .i64 0, .string ⟨#[]⟩, .int .i64 0, .int .i64 0, .string ⟨#[]⟩, .slice none 0 0, .slice none 0 0, .slice none 0 0] #[.int .i64 3, .string ⟨#[]⟩, .int .i64 0, .int .i64 0, .string ⟨#[]⟩, .slice none 0 0, .slice none 0 0, .slice none 0 0]) := hide (HL2.out.set 0 (.int .i64 3))
  have HR3 := hide (HL2.out.rd HR2.out 0 (.int .i64 3))
  clear HL2 HR2
  obtain ⟨q0, _⟩ := HL3.out.cell (i := 0) rfl
  go_wp2_with fail
  clear u0 z0 q0
  generalize w3.setCell ⟨w.heap.size + 1, 0, none⟩ (.int .i64 3) = W3 at *
  refine (take_any _ p ws ps _ _ HR3.out).mono ?_
  rintro e w5 ⟨rfl, h5, hb5⟩
  have HL5 := hide (HL3.out.step hb5)
  have HR5 := hide h5
  clear h5 hb5 HL3 HR3
  obtain ⟨q0, _⟩ := HL5.out.cell (i := 0) rfl
  have HLE : Hid (Rd.Le (Rd.tk s1) s1) := hide (Rd.tk_lt _).1
  generalize Rd.tk s1 = s3 at *
  go_wp2_with fail
  clear q0
  have HNZ : Hid ((⟨#[]⟩ : ByteArray).size ≤ 4096) := hide (Nat.zero_le _)
  have HK3 := hide (HK1.out.le HLE.out)
  have HKK3 := hide (HKK1.out.le HLE.out)
  have HD3 := hide (HD1.out.le HLE.out)
  refine (pexpr_any K _ p ws ps (d + 1) s3 HR5.out HKK3.out HD3.out).mono ?_
  rintro e w8 ⟨c0, c1, c2, c3, rfl, hx8, hR8, hb8⟩
  have HL8 := hide (HL5.out.step hb8)
  have HR8 := hide hR8
  have HLE8 := hide ((Rd.pE_lt K (d + 1) s3).1)
  have HX8 := hide (hx8.sub (fresh_mono HL5.out.size))
  obtain ⟨ax, cx, rfl, rfl, rfl, rfl⟩ := hx8.shape
  clear hx8 hR8 hb8 HL5 HR5
  generalize Rd.pE K (d + 1) s3 = ex at *
  obtain ⟨e, s5⟩ := ex
  obtain ⟨ek, en, es, eas⟩ := e
  simp only at HL8 HR8 HLE8 HX8 HPS ⊢
  obtain ⟨u2, z2⟩ := HL8.out.cell (i := 2) rfl
  obtain ⟨u3, z3⟩ := HL8.out.cell (i := 3) rfl
  obtain ⟨u4, z4⟩ := HL8.out.cell (i := 4) rfl
  obtain ⟨u5, z5⟩ := HL8.out.cell (i := 5) rfl
  obtain ⟨q0, _⟩ := HL8.out.cell (i := 0) rfl
  obtain ⟨hL9, hR9, hS9⟩ := HL8.out.setE HR8.out (.int .i64 ek) (.int .i64 en) (.string es) (.slice ax eas.length cx)
  have HL9 := hide hL9
  have HR9 := hide hR9
  have HX9 := hide (HX8.out.sub hS9)
  obtain ⟨q9, _⟩ := hL9.cell (i := 0) rfl
  clear hL9 hR9 hS9 HL8 HR8 HX8
  generalize eas.length = le at *
  unfold putE at HL9 HR9 HX9 q9
  go_wp2_with fail
  clear u2 u3 u4 u5 z2 z3 z4 z5 q0 q9
  generalize (((w8.setCell ⟨w.heap.size + 1, 2, none⟩ (.int .i64 ek)).setCell ⟨w.heap.size + 1, 2 + 1, none⟩ (.int .i64 en)).setCell ⟨w.heap.size + 1, 2 + 2, none⟩ (.string es)).setCell ⟨w.heap.size + 1, 2 + 3, none⟩ (.slice ax le cx) = W9 at *
  have HK5 := hide (HK3.out.le HLE8.out)
  have HKK5 := hide (HKK3.out.le HLE8.out)
  have HD5 := hide (HD3.out.le HLE8.out)
  refine (block_of K k IH.out _ p ws ps (d + 1) s5 HR9.out HK5.out HKK5.out HD5.out (by omega) k HK5.out).mono ?_
  rintro e wA0 ⟨vA, rfl, hxA, hRA, hbA⟩
  have HLA := hide (HL9.out.step hbA)
  have HRA := hide hRA
  have HLEA := hide ((Rd.blk_lt (fun s => Rd.pS_le K k (d + 1 + 1) s) k (d + 1) s5).1)
  have HXA := hide (HX9.out.sub (hbA.sub (decide_eq_false (by have := HLA.out.plt; omega))))
  have HSA := hide (hxA.sub (fresh_mono HL9.out.size))
  obtain ⟨aA, bA, rfl, _⟩ := hxA.shape
  clear hxA hRA hbA
  generalize Rd.blk (Rd.pS K k (d + 1 + 1)) k (d + 1) s5 = bk at *
  obtain ⟨lA, sA⟩ := bk
  simp only at HLA HRA HLEA HSA HPS ⊢
  generalize hlenA : lA.length = nA at *
  clear hlenA
  have HKA := hide (HK5.out.le HLEA.out)
  have HKKA := hide (HKK5.out.le HLEA.out)
  have HDA := hide (HD5.out.le HLEA.out)
  obtain ⟨u6, z6⟩ := HLA.out.cell (i := 6) rfl
  have HLA2 : Hid (Loc w p (wA0.setCell ⟨w.heap.size + 1, 6, none⟩ (.slice aA nA bA)) 107 #[.int .i64 0, .string ⟨#[]⟩, .int .i64 0, .int .i64 0, .string ⟨#[]⟩, .slice none 0 0, .slice none 0 0, .slice none 0 0] #[.int .i64 3, .string ⟨#[]⟩, .int .i64 ek, .int .i64 en, .string es, .slice ax le cx, .slice aA nA bA, .slice none 0 0]) := hide (HLA.out.set 6 (.slice aA nA bA))
  have HRA2 := hide (HLA.out.rd HRA.out 6 (.slice aA nA bA))
  have HXA2 := hide (HXA.out.sub (only_set (a := ⟨w.heap.size + 1, 6, none⟩) (by simp) (.slice aA nA bA)))
  have HSA2 := hide (HSA.out.sub (only_set (a := ⟨w.heap.size + 1, 6, none⟩) (by simp) (.slice aA nA bA)))
  obtain ⟨q0, _⟩ := HLA2.out.cell (i := 0) rfl
  go_wp2_with fail
  clear u6 z6 q0
  generalize wA0.setCell ⟨w.heap.size + 1, 6, none⟩ (.slice aA nA bA) = WB0 at *
  refine (shut_any _ p ws ps d _ HRA2.out (by omega)).mono ?_
  rintro e wS ⟨rfl, hRS, hbS⟩
  have HLS := hide (HLA2.out.step hbS)
  have HRS := hide hRS
  have HXS := hide (HXA2.out.sub (hbS.sub (decide_eq_false (by have := HLS.out.plt; omega))))
  have HSSlA := hide (HSA2.out.sub (hbS.sub (decide_eq_false (by have := HLS.out.plt; omega))))
  clear hRS hbS
  obtain ⟨u0, z0⟩ := HLS.out.cell (i := 0) rfl
  obtain ⟨r0, y0⟩ := HLS.out.rcell (i := 0) rfl
  obtain ⟨u1, z1⟩ := HLS.out.cell (i := 1) rfl
  obtain ⟨r1, y1⟩ := HLS.out.rcell (i := 1) rfl
  obtain ⟨u2, z2⟩ := HLS.out.cell (i := 2) rfl
  obtain ⟨r2, y2⟩ := HLS.out.rcell (i := 2) rfl
  obtain ⟨u3, z3⟩ := HLS.out.cell (i := 3) rfl
  obtain ⟨r3, y3⟩ := HLS.out.rcell (i := 3) rfl
  obtain ⟨u4, z4⟩ := HLS.out.cell (i := 4) rfl
  obtain ⟨r4, y4⟩ := HLS.out.rcell (i := 4) rfl
  obtain ⟨u5, z5⟩ := HLS.out.cell (i := 5) rfl
  obtain ⟨r5, y5⟩ := HLS.out.rcell (i := 5) rfl
  obtain ⟨u6, z6⟩ := HLS.out.cell (i := 6) rfl
  obtain ⟨r6, y6⟩ := HLS.out.rcell (i := 6) rfl
  obtain ⟨u7, z7⟩ := HLS.out.cell (i := 7) rfl
  obtain ⟨r7, y7⟩ := HLS.out.rcell (i := 7) rfl
  go_wp2_with fail
  obtain ⟨⟨Wf, hWf, f0, f1, f2, f3, f4, f5, f6, f7⟩, hBf, hRf, hSf⟩ := HLS.out.fin8 HRS.out (.int .i64 3) (.string ⟨#[]⟩) (.int .i64 ek) (.int .i64 en) (.string es) (.slice ax le cx) (.slice aA nA bA) (.slice none 0 0)
  unfold put8 at hWf hBf hRf hSf
  rw [← hWf] at hBf hRf hSf ⊢
  clear hWf u0 u1 u2 u3 u4 u5 u6 u7 z0 z1 z2 z3 z4 z5 z6 z7 r0 r1 r2 r3 r4 r5 r6 r7 y0 y1 y2 y3 y4 y5 y6 y7
  refine bodyPost_ret (v := .agg #[.int .i64 3, .string ⟨#[]⟩, .int .i64 ek, .int .i64 en, .string es, .slice ax le cx, .slice aA nA bA, .slice none 0 0]) (by simp [results, Tryz.results134, go_sem, f0, f1, f2, f3, f4, f5, f6, f7]) rfl ?_
  refine ⟨_, _, _, _, _, _, _, _, rfl, ?_, ?_, hBf⟩
  · rw [HPS.out]
    exact ⟨_, _, _, _, _, _, rfl, ⟨by show (-9223372036854775808 : Int) ≤ 3; decide, by show (3 : Int) ≤ 9223372036854775807; decide⟩, Nat.le_trans HNZ.out (by decide), (HXS.out.sub hSf).mono _ (by omega), (HSSlA.out.sub hSf).mono _ (by omega), (sts_nil _ 0).mono _ (by omega)⟩
  · rw [HPS.out]
    exact hRf

set_option maxHeartbeats 4000000 in
set_option maxRecDepth 100000 in
theorem command_4 (K k : Nat) (ih : CmdC K k) (w : World) (p : Nat) (ws : List ByteArray) (ps : List Int) (d : Nat) (st : Rd.Sr) (h : RdAt w p ws ps d st) (hk : Rd.Ok (k + 1) st) (hK : Rd.Ok K st) (hd : DOk d st) (hd20 : d ≤ 20) (hkd : Rd.cmd (Rd.pk (Rd.op d st)) = 4) :
    Calls Tryz.prog 134 #[.pointer (some ⟨p, 0, none⟩)] w fun e w' => ∃ c0 c1 c2 c3 c4 c5 c6 c7, e = .returned (.agg #[c0, c1, c2, c3, c4, c5, c6, c7]) ∧ StL (K + 1 + (k + 1)) (fr w w') [c0, c1, c2, c3, c4, c5, c6, c7] (Rd.pS K (k + 1) d st).1 ∧ RdAt w' p ws ps d (Rd.pS K (k + 1) d st).2 ∧ But p w w' := by
  have IH := hide ih
  have HPS := hide (Rd.pS_4 (K := K) (k := k) hkd)
  have HL0 := hide (Loc.start w p 107 #[.int .i64 0, .string ⟨#[]⟩, .int .i64 0, .int .i64 0, .string ⟨#[]⟩, .slice none 0 0, .slice none 0 0, .slice none 0 0] #[.int .i64 0, .string ⟨#[]⟩, .int .i64 0, .int .i64 0, .string ⟨#[]⟩, .slice none 0 0, .slice none 0 0, .slice none 0 0] h.lt)
  have HR0 := hide (h.below (up (boxBelow w (.cells #[.int .i64 0, .string ⟨#[]⟩, .int .i64 0, .int .i64 0, .string ⟨#[]⟩, .slice none 0 0, .slice none 0 0, .slice none 0 0] 107)) (boxBelow _ (.cells #[.int .i64 0, .string ⟨#[]⟩, .int .i64 0, .int .i64 0, .string ⟨#[]⟩, .slice none 0 0, .slice none 0 0, .slice none 0 0] 107))))
  have HS1 := hide (Rd.op_lt d st)
  have HK1 := hide (hk.lt HS1.out)
  have HKK1 := hide (hK.le HS1.out.1)
  have HD1 := hide (hd.op (by omega))
  have HKD := hide hkd
  clear hk hK hd hkd ih
  go_enter Tryz.func134, Tryz.ntmps134
  go_wp2_with fail
  generalize ((w.alloc (.cells #[.int .i64 0, .string ⟨#[]⟩, .int .i64 0, .int .i64 0, .string ⟨#[]⟩, .slice none 0 0, .slice none 0 0, .slice none 0 0] 107)).alloc (.cells #[.int .i64 0, .string ⟨#[]⟩, .int .i64 0, .int .i64 0, .string ⟨#[]⟩, .slice none 0 0, .slice none 0 0, .slice none 0 0] 107)) = W0 at *
  refine (open_any W0 p ws ps d st HR0.out (by omega)).mono ?_
  rintro e w1 ⟨rfl, h1, hb1⟩
  have HL1 := hide (HL0.out.step hb1)
  clear hb1 HL0 HR0 h
  obtain ⟨s1, hs1⟩ : ∃ s1, s1 = Rd.op d st := ⟨_, rfl⟩
  rw [← hs1] at HPS HS1 HK1 HKK1 HD1 HKD h1
  clear hs1
  go_wp2_with fail
  refine (peek_any w1 p ws ps _ _ h1).mono ?_
  rintro e w2 ⟨rfl, h2, hb2⟩
  have HL2 := hide (HL1.out.step hb2)
  have HR2 := hide h2
  clear hb2 HL1 h1 h2
  go_wp2_with fail
  refine (cmdKind_any _ _).mono ?_
  rintro e w3 ⟨rfl, hw3⟩
  subst hw3
  rw [HKD.out]
  obtain ⟨u0, z0⟩ := HL2.out.cell (i := 0) rfl
  have HL3 : Hid (Loc w p (w3.setCell ⟨w.heap.size + 1, 0, none⟩ (.int .i64 4)) 107 #[.int .i64 0, .string ⟨#[]⟩, .int .i64 0, .int .i64 0, .string ⟨#[]⟩, .slice none 0 0, .slice none 0 0, .slice none 0 0] #[.int .i64 4, .string ⟨#[]⟩, .int .i64 0, .int .i64 0, .string ⟨#[]⟩, .slice none 0 0, .slice none 0 0, .slice none 0 0]) := hide (HL2.out.set 0 (.int .i64 4))
  have HR3 := hide (HL2.out.rd HR2.out 0 (.int .i64 4))
  clear HL2 HR2
  obtain ⟨q0, _⟩ := HL3.out.cell (i := 0) rfl
  go_wp2_with fail
  clear u0 z0 q0
  generalize w3.setCell ⟨w.heap.size + 1, 0, none⟩ (.int .i64 4) = W3 at *
  refine (take_any _ p ws ps _ _ HR3.out).mono ?_
  rintro e w5 ⟨rfl, h5, hb5⟩
  have HL5 := hide (HL3.out.step hb5)
  have HR5 := hide h5
  clear h5 hb5 HL3 HR3
  obtain ⟨q0, _⟩ := HL5.out.cell (i := 0) rfl
  have HLE0 : Hid (Rd.Le (Rd.tk s1) s1) := hide (Rd.tk_lt _).1
  generalize Rd.tk s1 = s2 at *
  go_wp2_with fail
  clear q0
  refine (name_any' _ p ws ps _ _ HR5.out).mono ?_
  rintro e w6 ⟨rfl, h6, hb6⟩
  have HNZ := hide (nm_size HR5.out)
  have HL6 := hide (HL5.out.step hb6)
  have HLE : Hid (Rd.Le (Rd.nmP s2).2 s1) := hide ((Rd.nmP_lt _).1.trans HLE0.out)
  have HR6 := hide h6
  clear h6 hb6 HL5 HR5 HLE0
  generalize Rd.nmP s2 = nm at *
  obtain ⟨nn, s3⟩ := nm
  simp only at HNZ HR6 HLE HPS ⊢
  obtain ⟨u1, z1⟩ := HL6.out.cell (i := 1) rfl
  have HL7 : Hid (Loc w p (w6.setCell ⟨w.heap.size + 1, 1, none⟩ (.string nn)) 107 #[.int .i64 0, .string ⟨#[]⟩, .int .i64 0, .int .i64 0, .string ⟨#[]⟩, .slice none 0 0, .slice none 0 0, .slice none 0 0] #[.int .i64 4, .string nn, .int .i64 0, .int .i64 0, .string ⟨#[]⟩, .slice none 0 0, .slice none 0 0, .slice none 0 0]) := hide (HL6.out.set 1 (.string nn))
  have HR7 := hide (HL6.out.rd HR6.out 1 (.string nn))
  clear HL6 HR6
  go_wp2_with fail
  clear u1 z1
  generalize w6.setCell ⟨w.heap.size + 1, 1, none⟩ (.string nn) = W7 at *
  have HK3 := hide (HK1.out.le HLE.out)
  have HKK3 := hide (HKK1.out.le HLE.out)
  have HD3 := hide (HD1.out.le HLE.out)
  refine (pexpr_any K _ p ws ps (d + 1) s3 HR7.out HKK3.out HD3.out).mono ?_
  rintro e w8 ⟨c0, c1, c2, c3, rfl, hx8, hR8, hb8⟩
  have HL8 := hide (HL7.out.step hb8)
  have HR8 := hide hR8
  have HLE8 := hide ((Rd.pE_lt K (d + 1) s3).1)
  have HX8 := hide (hx8.sub (fresh_mono HL7.out.size))
  obtain ⟨ax, cx, rfl, rfl, rfl, rfl⟩ := hx8.shape
  clear hx8 hR8 hb8 HL7 HR7
  generalize Rd.pE K (d + 1) s3 = ex at *
  obtain ⟨e, s5⟩ := ex
  obtain ⟨ek, en, es, eas⟩ := e
  simp only at HL8 HR8 HLE8 HX8 HPS ⊢
  obtain ⟨u2, z2⟩ := HL8.out.cell (i := 2) rfl
  obtain ⟨u3, z3⟩ := HL8.out.cell (i := 3) rfl
  obtain ⟨u4, z4⟩ := HL8.out.cell (i := 4) rfl
  obtain ⟨u5, z5⟩ := HL8.out.cell (i := 5) rfl
  obtain ⟨q0, _⟩ := HL8.out.cell (i := 0) rfl
  obtain ⟨hL9, hR9, hS9⟩ := HL8.out.setE HR8.out (.int .i64 ek) (.int .i64 en) (.string es) (.slice ax eas.length cx)
  have HL9 := hide hL9
  have HR9 := hide hR9
  have HX9 := hide (HX8.out.sub hS9)
  obtain ⟨q9, _⟩ := hL9.cell (i := 0) rfl
  clear hL9 hR9 hS9 HL8 HR8 HX8
  generalize eas.length = le at *
  unfold putE at HL9 HR9 HX9 q9
  go_wp2_with fail
  clear u2 u3 u4 u5 z2 z3 z4 z5 q0 q9
  generalize (((w8.setCell ⟨w.heap.size + 1, 2, none⟩ (.int .i64 ek)).setCell ⟨w.heap.size + 1, 2 + 1, none⟩ (.int .i64 en)).setCell ⟨w.heap.size + 1, 2 + 2, none⟩ (.string es)).setCell ⟨w.heap.size + 1, 2 + 3, none⟩ (.slice ax le cx) = W9 at *
  have HK5 := hide (HK3.out.le HLE8.out)
  have HKK5 := hide (HKK3.out.le HLE8.out)
  have HD5 := hide (HD3.out.le HLE8.out)
  refine (shut_any _ p ws ps d _ HR9.out (by omega)).mono ?_
  rintro e wS ⟨rfl, hRS, hbS⟩
  have HLS := hide (HL9.out.step hbS)
  have HRS := hide hRS
  have HXS := hide (HX9.out.sub (hbS.sub (decide_eq_false (by have := HLS.out.plt; omega))))
  clear hRS hbS
  obtain ⟨u0, z0⟩ := HLS.out.cell (i := 0) rfl
  obtain ⟨r0, y0⟩ := HLS.out.rcell (i := 0) rfl
  obtain ⟨u1, z1⟩ := HLS.out.cell (i := 1) rfl
  obtain ⟨r1, y1⟩ := HLS.out.rcell (i := 1) rfl
  obtain ⟨u2, z2⟩ := HLS.out.cell (i := 2) rfl
  obtain ⟨r2, y2⟩ := HLS.out.rcell (i := 2) rfl
  obtain ⟨u3, z3⟩ := HLS.out.cell (i := 3) rfl
  obtain ⟨r3, y3⟩ := HLS.out.rcell (i := 3) rfl
  obtain ⟨u4, z4⟩ := HLS.out.cell (i := 4) rfl
  obtain ⟨r4, y4⟩ := HLS.out.rcell (i := 4) rfl
  obtain ⟨u5, z5⟩ := HLS.out.cell (i := 5) rfl
  obtain ⟨r5, y5⟩ := HLS.out.rcell (i := 5) rfl
  obtain ⟨u6, z6⟩ := HLS.out.cell (i := 6) rfl
  obtain ⟨r6, y6⟩ := HLS.out.rcell (i := 6) rfl
  obtain ⟨u7, z7⟩ := HLS.out.cell (i := 7) rfl
  obtain ⟨r7, y7⟩ := HLS.out.rcell (i := 7) rfl
  go_wp2_with fail
  obtain ⟨⟨Wf, hWf, f0, f1, f2, f3, f4, f5, f6, f7⟩, hBf, hRf, hSf⟩ := HLS.out.fin8 HRS.out (.int .i64 4) (.string nn) (.int .i64 ek) (.int .i64 en) (.string es) (.slice ax le cx) (.slice none 0 0) (.slice none 0 0)
  unfold put8 at hWf hBf hRf hSf
  rw [← hWf] at hBf hRf hSf ⊢
  clear hWf u0 u1 u2 u3 u4 u5 u6 u7 z0 z1 z2 z3 z4 z5 z6 z7 r0 r1 r2 r3 r4 r5 r6 r7 y0 y1 y2 y3 y4 y5 y6 y7
  refine bodyPost_ret (v := .agg #[.int .i64 4, .string nn, .int .i64 ek, .int .i64 en, .string es, .slice ax le cx, .slice none 0 0, .slice none 0 0]) (by simp [results, Tryz.results134, go_sem, f0, f1, f2, f3, f4, f5, f6, f7]) rfl ?_
  refine ⟨_, _, _, _, _, _, _, _, rfl, ?_, ?_, hBf⟩
  · rw [HPS.out]
    exact ⟨_, _, _, _, _, _, rfl, ⟨by show (-9223372036854775808 : Int) ≤ 4; decide, by show (4 : Int) ≤ 9223372036854775807; decide⟩, Nat.le_trans HNZ.out (by decide), (HXS.out.sub hSf).mono _ (by omega), (sts_nil _ 0).mono _ (by omega), (sts_nil _ 0).mono _ (by omega)⟩
  · rw [HPS.out]
    exact hRf

theorem command_any (K : Nat) : ∀ k, CmdC K k
  | 0 => by
    intro w p ws ps d st h hk hK hd hb
    have hf := Rd.brc_ne hb
    rcases hk with e | e
    · rw [hf] at e; cases e
    · omega
  | k + 1 => by
    intro w p ws ps d st h hk hK hd hb
    have hf := Rd.brc_ne hb
    have hd20 : d ≤ 20 := by
      rcases hd.2 with e | e
      · rw [hf] at e; cases e
      · exact e
    have hr := cmd_range (Rd.pk (Rd.op d st))
    obtain e | e | e | e | e : Rd.cmd (Rd.pk (Rd.op d st)) = 0 ∨ Rd.cmd (Rd.pk (Rd.op d st)) = 1 ∨ Rd.cmd (Rd.pk (Rd.op d st)) = 2 ∨ Rd.cmd (Rd.pk (Rd.op d st)) = 3 ∨ Rd.cmd (Rd.pk (Rd.op d st)) = 4 := by omega
    · exact command_0 K k (command_any K k) w p ws ps d st h hk hK hd hd20 e
    · exact command_1 K k (command_any K k) w p ws ps d st h hk hK hd hd20 e
    · exact command_2 K k (command_any K k) w p ws ps d st h hk hK hd hd20 e
    · exact command_3 K k (command_any K k) w p ws ps d st h hk hK hd hd20 e
    · exact command_4 K k (command_any K k) w p ws ps d st h hk hK hd hd20 e

end Go.Proofs.YtbncnkfogkhoeabGreatDoor
