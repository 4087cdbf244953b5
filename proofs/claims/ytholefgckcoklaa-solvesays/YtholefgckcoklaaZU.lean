/- SolveSays: the law's walk. -/
import Derived.Test.YtholefgckcoklaaZT
import Derived.Test.YtholefgckcoklaaRG
namespace Go.Proofs.Ytholefgckcoklaa
open Go.RowKit

namespace Sv
/-- What the law thinks ahead of looking at constraints. -/
def preE (n : Int) (len : Nat) : Int := if (decide (0 ≤ n) && decide (n ≤ 40)) = false then 1 else if 1000 < len then 2 else 0
def wrongB (N : Nat) (d : Int) (c : Co) : Bool := !(labB N c.mask c.level) || outB d c.to || c.fr.any (outB d)
/-- What it thinks behind some of them. -/
def eAt (pre : Int) (N : Nat) (d : Int) (l : List Co) : Int := if pre = 0 then (if l.any (wrongB N d) then 1 else 0) else pre
theorem eAt_nil (pre : Int) (N : Nat) (d : Int) : eAt pre N d [] = pre := by
  unfold eAt
  by_cases h : pre = 0
  · rw [if_pos h, h]; rfl
  · rw [if_neg h]
theorem eAt_yes {pre : Int} {N : Nat} {d : Int} {l : List Co} {c : Co} (h : eAt pre N d l = 0) (hw : wrongB N d c = true) : eAt pre N d (l ++ [c]) = 1 := by
  unfold eAt at *
  by_cases hp : pre = 0
  · rw [if_pos hp, if_pos]
    rw [List.any_append]
    simp [hw]
  · rw [if_neg hp] at h; exact absurd h hp
theorem eAt_no {pre : Int} {N : Nat} {d : Int} {l : List Co} {c : Co} (h : eAt pre N d l ≠ 0 ∨ wrongB N d c = false) : eAt pre N d (l ++ [c]) = eAt pre N d l := by
  unfold eAt at *
  by_cases hp : pre = 0
  · rw [if_pos hp] at *
    rw [if_pos hp, List.any_append]
    rcases h with h | h
    · by_cases ha : l.any (wrongB N d) = true
      · simp [ha]
      · rw [if_neg ha] at h; exact absurd rfl h
    · simp [h]
  · rw [if_neg hp, if_neg hp]
theorem wrong_co {N n : Nat} (c : Co) : wrongB N ((n : Int) - 1) c = !(coB N n c) := by
  have ho : ∀ k : Int, outB ((n : Int) - 1) k = !(varB n k) := fun k => by
    unfold outB varB
    congr 1
    rw [Bool.eq_iff_iff]
    simp only [Bool.and_eq_true, decide_eq_true_eq]
    omega
  unfold wrongB coB
  have h1 : c.fr.any (outB ((n : Int) - 1)) = !(c.fr.all (varB n)) := by
    rw [List.not_all_eq_any_not]
    congr 1
    funext k
    exact ho k
  rw [ho, h1]
  cases labB N c.mask c.level <;> cases varB n c.to <;> cases c.fr.all (varB n) <;> rfl
theorem sys_eq {N : Nat} {n : Int} {cs : List Co} : sysE N n cs = eAt (preE n cs.length) N (pred64 n) cs := by
  unfold sysE preE
  by_cases h0 : n < 0
  · rw [if_pos h0, if_pos (by simp; omega), eAt, if_neg (by decide)]
  · by_cases h1 : 40 < n
    · rw [if_neg h0, if_pos h1, if_pos (by simp; omega), eAt, if_neg (by decide)]
    · have hin : (decide (0 ≤ n) && decide (n ≤ 40)) = true := by simp; omega
      rw [if_neg h0, if_neg h1, hin, if_neg (show ¬ (true = false) by simp)]
      by_cases h2 : 1000 < cs.length
      · rw [if_pos h2, if_pos h2, eAt, if_neg (by decide)]
      · rw [if_neg h2, if_neg h2, eAt, if_pos rfl, pred_in (by omega) (by omega)]
        obtain ⟨m, rfl⟩ : ∃ m : Nat, n = m := ⟨n.toNat, by omega⟩
        rw [Int.toNat_natCast, show wrongB N ((m : Int) - 1) = fun c => !(coB N m c) from funext fun c => wrong_co c, ← List.not_all_eq_any_not]
        cases cs.all (coB N m) <;> rfl
end Sv

/-- The law's four boxes. -/
structure BX (w wx : World) (vn vl : Value) (am al bm bl ni : Int) : Prop where
  since : Below w.heap.size w wx
  b0 : wx.heap[w.heap.size]? = some (.cells #[vn, vl] 25 (0, 0))
  b1 : wx.heap[w.heap.size + 1]? = some (.cells #[.int .i64 am, .int .i64 al] 46 (0, 0))
  b2 : wx.heap[w.heap.size + 1 + 1]? = some (.cells #[.int .i64 bm, .int .i64 bl] 46 (0, 0))
  b3 : wx.heap[w.heap.size + 1 + 1 + 1]? = some (.cells #[.int .i64 ni] 3 (0, 0))
section
variable {w wx wy : World} {vn vl : Value} {am al bm bl ni : Int}
theorem BX.below (h : BX w wx vn vl am al bm bl ni) (hb : Below wx.heap.size wx wy) : BX w wy vn vl am al bm bl ni := ⟨up h.since hb, at_up h.b0 hb, at_up h.b1 hb, at_up h.b2 hb, at_up h.b3 hb⟩
theorem BX.set (h : BX w wx vn vl am al bm bl ni) {a : Addr} (ha : w.heap.size + 1 + 1 + 1 < a.block) (v : Value) : BX w (wx.setCell a v) vn vl am al bm bl ni :=
  ⟨h.since.setCell (by omega) v, block_other h.b0 (by omega) v, block_other h.b1 (by omega) v, block_other h.b2 (by omega) v, block_other h.b3 (by omega) v⟩
theorem BX.cells (h : BX w wx vn vl am al bm bl ni) : wx.cell? ⟨w.heap.size, 0, none⟩ = some vn ∧ wx.cell? ⟨w.heap.size, 1, none⟩ = some vl ∧ wx.cell? ⟨w.heap.size + 1, 0, none⟩ = some (.int .i64 am) ∧ wx.cell? ⟨w.heap.size + 1, 1, none⟩ = some (.int .i64 al) ∧
    wx.cell? ⟨w.heap.size + 1 + 1, 0, none⟩ = some (.int .i64 bm) ∧ wx.cell? ⟨w.heap.size + 1 + 1, 1, none⟩ = some (.int .i64 bl) ∧ wx.cell? ⟨w.heap.size + 1 + 1 + 1, 0, none⟩ = some (.int .i64 ni) :=
  ⟨(block_at h.b0 0).trans rfl, (block_at h.b0 1).trans rfl, (block_at h.b1 0).trans rfl, (block_at h.b1 1).trans rfl, (block_at h.b2 0).trans rfl, (block_at h.b2 1).trans rfl, (block_at h.b3 0).trans rfl⟩
end
theorem bx_start (w : World) (vn vl : Value) (am al bm bl ni : Int) (W : World) (hW : W = (((w.alloc (.cells #[vn, vl] 25)).alloc (.cells #[.int .i64 am, .int .i64 al] 46)).alloc (.cells #[.int .i64 bm, .int .i64 bl] 46)).alloc (.cells #[.int .i64 ni] 3)) : BX w W vn vl am al bm bl ni := by
  obtain ⟨b0, b1, b2, bs, hB⟩ := box3i_at w vn vl am al bm bl _ rfl
  subst hW
  refine ⟨up hB (boxBelow _ _), block_alloc b0 _, block_alloc b1 _, block_alloc b2 _, ?_⟩
  have h := block_new (((w.alloc (.cells #[vn, vl] 25)).alloc (.cells #[.int .i64 am, .int .i64 al] 46)).alloc (.cells #[.int .i64 bm, .int .i64 bl] 46)) (.cells #[.int .i64 ni] 3)
  rw [bs] at h
  exact h
/-- Two of them. -/
structure BY (w wx : World) (vn vl : Value) (ni : Int) : Prop where
  since : Below w.heap.size w wx
  b0 : wx.heap[w.heap.size]? = some (.cells #[vn, vl] 25 (0, 0))
  b3 : wx.heap[w.heap.size + 1 + 1 + 1]? = some (.cells #[.int .i64 ni] 3 (0, 0))
section
variable {w wx wy : World} {vn vl : Value} {am al bm bl ni : Int}
theorem BX.two (h : BX w wx vn vl am al bm bl ni) : BY w wx vn vl ni := ⟨h.since, h.b0, h.b3⟩
theorem BY.below (h : BY w wx vn vl ni) (hb : Below wx.heap.size wx wy) : BY w wy vn vl ni := ⟨up h.since hb, at_up h.b0 hb, at_up h.b3 hb⟩
theorem BY.cells (h : BY w wx vn vl ni) : wx.cell? ⟨w.heap.size, 0, none⟩ = some vn ∧ wx.cell? ⟨w.heap.size, 1, none⟩ = some vl ∧ wx.cell? ⟨w.heap.size + 1 + 1 + 1, 0, none⟩ = some (.int .i64 ni) :=
  ⟨(block_at h.b0 0).trans rfl, (block_at h.b0 1).trans rfl, (block_at h.b3 0).trans rfl⟩
end
theorem pre_cases (ni : Int) (len : Nat) : ((decide (0 ≤ ni) && decide (ni ≤ 40)) = false ∧ Sv.preE ni len = 1) ∨ ((decide (0 ≤ ni) && decide (ni ≤ 40)) = true ∧ 1000 < len ∧ Sv.preE ni len = 2) ∨ ((decide (0 ≤ ni) && decide (ni ≤ 40)) = true ∧ ¬ 1000 < len ∧ Sv.preE ni len = 0) := by
  unfold Sv.preE
  cases (decide (0 ≤ ni) && decide (ni ≤ 40))
  · exact Or.inl ⟨rfl, rfl⟩
  · by_cases h : 1000 < len
    · exact Or.inr (Or.inl ⟨rfl, h, by simp [h]⟩)
    · exact Or.inr (Or.inr ⟨rfl, h, by simp [h]⟩)
theorem las_nil (w : World) : LasAt w (.slice none 0 0) [] := ⟨none, 0, 0, 0, rfl, fun h => absurd h (by simp), by simp, fun i x hx => by simp at hx⟩
theorem beq_zero_false {x : Int} (h : x ≠ 0) : (x == 0) = false := by simp [h]

set_option maxHeartbeats 4000000 in
set_option maxRecDepth 100000 in
theorem ssays_err (w : World) (vn vl vc : Value) (ss : List ByteArray) (G : Nat) (L : Nat → Nat) (Z : Nat → Nat → Bool) (am al bm bl ni : Int) (hS : Strs w vn ss) (hR : Rag w vl G L Z) (hE : Lat.checkE ss G L Z ≠ 0) :
    Calls Try.prog 5 #[.agg #[vn, vl], .agg #[.int .i64 am, .int .i64 al], .agg #[.int .i64 bm, .int .i64 bl], .int .i64 ni, vc] w fun e w' => e = .returned (.bool true) ∧ Below w.heap.size w w' := by
  obtain ⟨W, hW⟩ : ∃ W, W = (((w.alloc (.cells #[vn, vl] 25)).alloc (.cells #[.int .i64 am, .int .i64 al] 46)).alloc (.cells #[.int .i64 bm, .int .i64 bl] 46)).alloc (.cells #[.int .i64 ni] 3) := ⟨_, rfl⟩
  have HX := hide (bx_start w vn vl am al bm bl ni W hW)
  have HS := hide hS
  have HR := hide hR
  obtain ⟨E, hEE⟩ : ∃ E, E = Lat.checkE ss G L Z := ⟨_, rfl⟩
  have HEE := hide hEE
  have hz : E ≠ 0 := by rw [hEE]; exact hE
  have HSP : Hid (spE ss G L Z am al bm bl = E) := hide (by unfold spE; rw [if_neg hE, hEE])
  have hz1 := beq_zero_false hz
  have hz2 := bne_zero_true hz
  have HNE := hide hE
  have HZ := hide hz
  have hee : (E == E) = true := by simp
  have hee2 : (E != E) = false := by simp
  have heq : ∀ w, Sem.run Try.prog (Op.equalIn 10000 46 (.agg #[.int .i64 0, .int .i64 0]) (.agg #[.int .i64 0, .int .i64 0])) w = .ok true w := fun w => by rw [eqIn_lb]; rfl
  have hgd : ∀ op a b w, Sem.run Try.prog (eqGuard op 46 a b (.agg #[.int .i64 0, .int .i64 0]) (.agg #[.int .i64 0, .int .i64 0])) w = .ok () w := fun op a b w => guard_lb op a b _ _ _ _ w
  clear hS hR hEE hE hz
  go_enter Try.func5, Try.ntmps5
  go_wp2_with fail
  rw [← hW]
  clear hW
  refine (rlattice_any W vn vl ss G L Z (HS.out.below HX.out.since) (HR.out.below HX.out.since)).mono ?_
  rintro e w1 ⟨rfl, hb1⟩
  rw [← HEE.out]
  have HX1 := hide (HX.out.below (up hb1 (boxBelow w1 (.cells #[.int .i64 0, .int .i64 0] 46))))
  have HJ1 := hide (block_new w1 (.cells #[.int .i64 0, .int .i64 0] 46))
  obtain ⟨q0, q1, q2, q3, q4, q5, q6⟩ := HX1.out.cells
  clear hb1 HX
  go_wp2_with fail
  clear q0 q1 q2 q3 q4 q5 q6
  refine (sjoin_err _ vn vl ss G L Z am al bm bl (HS.out.below HX1.out.since) (HR.out.below HX1.out.since) (by rw [HSP.out]; exact HZ.out)).mono ?_
  rintro e w2 ⟨rfl, hb2⟩
  rw [HSP.out]
  have HJ2 := hide (block_alloc (at_up HJ1.out hb2) (.cells #[.int .i64 0, .int .i64 0] 46))
  have HX2 := hide (HX1.out.below (up hb2 (boxBelow w2 (.cells #[.int .i64 0, .int .i64 0] 46))))
  have HJ3 := hide (block_new w2 (.cells #[.int .i64 0, .int .i64 0] 46))
  obtain ⟨q0, q1, q2, q3, q4, q5, q6⟩ := HX2.out.cells
  clear hb2 HX1 HJ1
  go_wp2_with fail
  clear q0 q1 q2 q3 q4 q5 q6
  refine (sbelow_err _ vn vl ss G L Z am al bm bl (HS.out.below HX2.out.since) (HR.out.below HX2.out.since) (by rw [HSP.out]; exact HZ.out)).mono ?_
  rintro e w9 ⟨rfl, hb9⟩
  rw [HSP.out]
  have HX9 := hide (HX2.out.below hb9)
  have u0 := (block_at (at_up HJ2.out hb9) 0).trans rfl
  have u1 := (block_at (at_up HJ2.out hb9) 1).trans rfl
  have u2 := (block_at (at_up HJ3.out hb9) 0).trans rfl
  have u3 := (block_at (at_up HJ3.out hb9) 1).trans rfl
  obtain ⟨q0, q1, q2, q3, q4, q5, q6⟩ := HX9.out.cells
  clear hb9 HX2 HJ2 HJ3
  go_wp2_with fail
  clear q0 q1 q2 q3 q4 q5 q6 u0 u1 u2 u3
  refine (least_err1 w9 vn vl vc ss G L Z ni (HS.out.below HX9.out.since) (HR.out.below HX9.out.since) HNE.out).mono ?_
  rintro e w10 ⟨rfl, hb10⟩
  rw [← HEE.out]
  have HX10 := hide (HX9.out.below hb10)
  clear hb10
  go_wp2_with fail
  refine (eqL_same w10 _ _ [] (las_nil _) (las_nil _)).mono ?_
  rintro e w11 ⟨rfl, hb11⟩
  have HB11 := hide (up HX10.out.since hb11)
  clear hb11
  go_wp2_with fail
  go_ret
  exact ⟨rfl, HB11.out⟩

/-- What is told of two labels: join is theirs just if the one is below the other. -/
theorem both_is {Z : Nat → Nat → Bool} {N : Nat} (J : Lat.Joins Z N) {x y : Nat × Nat} (hx : Sv.Ok N x) (hy : Sv.Ok N y) :
    ((((Sv.join Z N x y).1 : Nat) : Int) == ((y.1 : Nat) : Int) && (((Sv.join Z N x y).2 : Nat) : Int) == ((y.2 : Nat) : Int)) = Sv.le Z x y := by
  rw [Bool.eq_iff_iff, Sv.le_join J hx hy, Bool.and_eq_true, beq_iff_eq, beq_iff_eq]
  constructor
  · rintro ⟨h1, h2⟩
    exact Prod.ext (by omega) (by omega)
  · intro h
    rw [h]
    exact ⟨rfl, rfl⟩

/-- What Join tells of two labels, and Below. -/
def jA (ss : List ByteArray) (G : Nat) (L : Nat → Nat) (Z : Nat → Nat → Bool) (am al bm bl : Int) : Int × Int :=
  if spE ss G L Z am al bm bl = 0 then (((Sv.join Z ss.length (am.toNat, al.toNat) (bm.toNat, bl.toNat)).1 : Nat), ((Sv.join Z ss.length (am.toNat, al.toNat) (bm.toNat, bl.toNat)).2 : Nat)) else (0, 0)
def rA (ss : List ByteArray) (G : Nat) (L : Nat → Nat) (Z : Nat → Nat → Bool) (am al bm bl : Int) : Bool :=
  if spE ss G L Z am al bm bl = 0 then Sv.le Z (am.toNat, al.toNat) (bm.toNat, bl.toNat) else false
section
variable {ss : List ByteArray} {G : Nat} {L : Nat → Nat} {Z : Nat → Nat → Bool} {am al bm bl : Int}
theorem jA_err (h : spE ss G L Z am al bm bl ≠ 0) : jA ss G L Z am al bm bl = (0, 0) ∧ rA ss G L Z am al bm bl = false := by
  unfold jA rA; rw [if_neg h, if_neg h]; exact ⟨rfl, rfl⟩
theorem jA_ok {x y : Nat × Nat} (h : spE ss G L Z (x.1 : Nat) (x.2 : Nat) (y.1 : Nat) (y.2 : Nat) = 0) :
    jA ss G L Z (x.1 : Nat) (x.2 : Nat) (y.1 : Nat) (y.2 : Nat) = ((((Sv.join Z ss.length x y).1 : Nat) : Int), (((Sv.join Z ss.length x y).2 : Nat) : Int)) ∧ rA ss G L Z (x.1 : Nat) (x.2 : Nat) (y.1 : Nat) (y.2 : Nat) = Sv.le Z x y := by
  unfold jA rA
  rw [if_pos h, if_pos h, Int.toNat_natCast, Int.toNat_natCast, Int.toNat_natCast, Int.toNat_natCast]
  exact ⟨rfl, rfl⟩
end
theorem sjoin_all (w : World) (vn vl : Value) (ss : List ByteArray) (G : Nat) (L : Nat → Nat) (Z : Nat → Nat → Bool) (am al bm bl : Int) (hL : LaAt w vn vl ss G L Z) :
    Calls Try.prog 23 #[.agg #[vn, vl], .agg #[.int .i64 am, .int .i64 al], .agg #[.int .i64 bm, .int .i64 bl]] w fun e w' => e = .returned (.tuple #[.agg #[.int .i64 (jA ss G L Z am al bm bl).1, .int .i64 (jA ss G L Z am al bm bl).2], .int .i64 (spE ss G L Z am al bm bl)]) ∧ Below w.heap.size w w' := by
  by_cases h : spE ss G L Z am al bm bl = 0
  · obtain ⟨-, h1, h2⟩ := spE_ok h
    obtain ⟨x, hxo, rfl, rfl⟩ := lab_nat h1
    obtain ⟨y, hyo, rfl, rfl⟩ := lab_nat h2
    rw [(jA_ok h).1, h]
    exact sjoin_ok w vn vl ss G L Z x y hL hxo hyo
  · rw [(jA_err h).1]
    exact sjoin_err w vn vl ss G L Z am al bm bl hL.strs hL.rag h
theorem sbelow_all (w : World) (vn vl : Value) (ss : List ByteArray) (G : Nat) (L : Nat → Nat) (Z : Nat → Nat → Bool) (am al bm bl : Int) (hL : LaAt w vn vl ss G L Z) :
    Calls Try.prog 24 #[.agg #[vn, vl], .agg #[.int .i64 am, .int .i64 al], .agg #[.int .i64 bm, .int .i64 bl]] w fun e w' => e = .returned (.tuple #[.bool (rA ss G L Z am al bm bl), .int .i64 (spE ss G L Z am al bm bl)]) ∧ Below w.heap.size w w' := by
  by_cases h : spE ss G L Z am al bm bl = 0
  · obtain ⟨-, h1, h2⟩ := spE_ok h
    obtain ⟨x, hxo, rfl, rfl⟩ := lab_nat h1
    obtain ⟨y, hyo, rfl, rfl⟩ := lab_nat h2
    rw [(jA_ok h).2, h]
    exact sbelow_ok w vn vl ss G L Z x y hL hxo hyo
  · rw [(jA_err h).2]
    exact sbelow_err w vn vl ss G L Z am al bm bl hL.strs hL.rag h

end Go.Proofs.Ytholefgckcoklaa
