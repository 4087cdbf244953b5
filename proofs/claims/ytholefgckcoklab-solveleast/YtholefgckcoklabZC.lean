/- Walks over package solve, first part: isVariable, isLabel, isBelow, joined, checkPair, Join, Below. -/
import Derived.Test.YtholefgckcoklabZB
import Derived.Test.YtholefgckcoklabQT
import Derived.BigQuiet
import Derived.Deep.QuietTactic
import Derived.Laws.BitsAllLaws
namespace Go.Proofs.Ytholefgckcoklab
open Go.RowKit

theorem andNot16 : ∀ a : Fin 16, ∀ b : Fin 16, (bits .andNot .i64 ((a : Nat) : Int) ((b : Nat) : Int) == 0) = Sv.sub a b := by decide +kernel
theorem or16 : ∀ a : Fin 16, ∀ b : Fin 16, bits .or .i64 ((a : Nat) : Int) ((b : Nat) : Int) = (((a : Nat) ||| (b : Nat) : Nat) : Int) := by decide +kernel

theorem isVariable_any (w : World) (n : Nat) (v : Int) :
    Calls Try.prog 71 #[.int .i64 n, .int .i64 v] w fun e w' => e = .returned (.bool (Sv.varB n v)) ∧ w' = w := by
  have HV : Hid (Sv.varB n v = (decide (0 ≤ v) && decide (v < n))) := rfl
  by_cases h0 : 0 ≤ v
  · go_enter Try.func71, Try.ntmps71
    go_wp2
    go_ret
    exact ⟨ret_bool (by rw [HV.out]; simp [h0]), rfl⟩
  · have h0' : decide (0 ≤ v) = false := by simpa using h0
    rw [h0', Bool.false_and] at HV
    go_enter Try.func71, Try.ntmps71
    go_wp2
    go_ret
    exact ⟨ret_bool (by rw [HV.out]), rfl⟩

theorem isLabel_any (w : World) (va : Option Addr) (vl : Value) (N cap : Nat) (m l : Int) :
    Calls Try.prog 66 #[.agg #[.slice va N cap, vl], .agg #[.int .i64 m, .int .i64 l]] w fun e w' => e = .returned (.bool (Sv.labB N m l)) ∧ Below w.heap.size w w' := by
  have HV : Hid (Sv.labB N m l = (decide (0 ≤ m) && decide (m ≤ 15) && decide (0 ≤ l) && decide (l < N))) := rfl
  have hb : Below w.heap.size w ((w.alloc (.cells #[.slice va N cap, vl] 25)).alloc (.cells #[.int .i64 m, .int .i64 l] 48)) := ((Below.refl _ _).alloc (Nat.le_refl _) _).alloc (by simp) _
  have HB := hide hb
  clear hb
  by_cases h0 : 0 ≤ m
  · by_cases h1 : m ≤ 15
    · have HC := hide (isLevel_any ((w.alloc (.cells #[.slice va N cap, vl] 25)).alloc (.cells #[.int .i64 m, .int .i64 l] 48)) va vl N cap l)
      have HVV : Hid (Sv.labB N m l = (decide (0 ≤ l) && decide (l < N))) := hide (by rw [HV.out]; simp [h0, h1])
      go_enter Try.func66, Try.ntmps66
      go_wp2_with fail
      refine HC.out.mono ?_
      rintro e w1 ⟨rfl, hb1⟩
      have HB1 := hide (up HB.out hb1)
      clear hb1 HC
      rw [← HVV.out]
      go_wp2_with fail
      go_ret
      exact ⟨rfl, HB1.out⟩
    · have h1' : decide (m ≤ 15) = false := by simpa using h1
      rw [h1', Bool.and_false, Bool.false_and, Bool.false_and] at HV
      go_enter Try.func66, Try.ntmps66
      go_wp2
      go_ret
      exact ⟨ret_bool (by rw [HV.out]), HB.out⟩
  · have h0' : decide (0 ≤ m) = false := by simpa using h0
    rw [h0', Bool.false_and, Bool.false_and, Bool.false_and] at HV
    go_enter Try.func66, Try.ntmps66
    go_wp2
    go_ret
    exact ⟨ret_bool (by rw [HV.out]), HB.out⟩

def box3 (w : World) (vn vl : Value) (x y : Nat × Nat) : World :=
  ((w.alloc (.cells #[vn, vl] 25)).alloc (.cells #[.int .i64 (x.1 : Nat), .int .i64 (x.2 : Nat)] 48)).alloc (.cells #[.int .i64 (y.1 : Nat), .int .i64 (y.2 : Nat)] 48)
theorem box3_below (w : World) (vn vl : Value) (x y : Nat × Nat) : Below w.heap.size w (box3 w vn vl x y) := (((Below.refl _ _).alloc (Nat.le_refl _) _).alloc (by simp) _).alloc (by simp; omega) _

set_option maxHeartbeats 2000000 in
set_option maxRecDepth 100000 in
theorem isBelow_any (w : World) (vn vl : Value) (N : Nat) (Z : Nat → Nat → Bool) (x y : Nat × Nat) (hG : Grid w vl N Z) (_hN : N ≤ 6) (hx : Sv.Ok N x) (hy : Sv.Ok N y) :
    Calls Try.prog 50 #[.agg #[vn, vl], .agg #[.int .i64 (x.1 : Nat), .int .i64 (x.2 : Nat)], .agg #[.int .i64 (y.1 : Nat), .int .i64 (y.2 : Nat)]] w fun e w' => e = .returned (.bool (Sv.le Z x y)) ∧ Below w.heap.size w w' := by
  have HLE : Hid (Sv.le Z x y = (Sv.sub x.1 y.1 && Z x.2 y.2)) := rfl
  obtain ⟨xm, xl⟩ := x
  obtain ⟨ym, yl⟩ := y
  have hxl : xl < N := hx.2
  have hyl : yl < N := hy.2
  have hs := andNot16 ⟨xm, hx.1⟩ ⟨ym, hy.1⟩
  simp only at hs HLE ⊢
  have HB := hide (box3_below w vn vl (xm, xl) (ym, yl))
  obtain ⟨gb, go, gc, RB, RO, C, rfl, h1, h2⟩ := hG
  have r1 := cellUp (h1 xl hxl) HB.out
  have r2 := cellUp (h2 xl yl hxl hyl) HB.out
  simp only [box3] at r1 r2 HB
  clear h1 h2 hx hy
  cases hz : Sv.sub xm ym
  · rw [hz] at hs HLE
    go_enter Try.func50, Try.ntmps50
    go_wp2_with fail
    go_quiet (fail)
    go_wp2_with fail
    go_ret
    exact ⟨ret_bool (by rw [HLE.out]; rfl), drewBelow HB.out _⟩
  · rw [hz] at hs HLE
    go_enter Try.func50, Try.ntmps50
    go_wp2_with fail
    go_quiet (fail)
    go_wp2_with fail
    go_ret
    exact ⟨ret_bool (by rw [HLE.out]; rfl), drewBelow HB.out _⟩

theorem box3_at (w : World) (vn vl : Value) (x y : Nat × Nat) : (box3 w vn vl x y).heap[w.heap.size]? = some (.cells #[vn, vl] 25 (0, 0)) ∧ (box3 w vn vl x y).heap[w.heap.size + 1]? = some (.cells #[.int .i64 (x.1 : Nat), .int .i64 (x.2 : Nat)] 48 (0, 0)) ∧
    (box3 w vn vl x y).heap[w.heap.size + 1 + 1]? = some (.cells #[.int .i64 (y.1 : Nat), .int .i64 (y.2 : Nat)] 48 (0, 0)) ∧ (box3 w vn vl x y).heap.size = w.heap.size + 1 + 1 + 1 := by
  refine ⟨block_alloc (block_alloc (block_new w _) _) _, ?_, ?_, by simp [box3]⟩
  · have h := block_new (w.alloc (.cells #[vn, vl] 25)) (.cells #[.int .i64 (x.1 : Nat), .int .i64 (x.2 : Nat)] 48)
    rw [show (w.alloc (.cells #[vn, vl] 25)).heap.size = w.heap.size + 1 by simp] at h
    exact block_alloc h _
  · have h := block_new ((w.alloc (.cells #[vn, vl] 25)).alloc (.cells #[.int .i64 (x.1 : Nat), .int .i64 (x.2 : Nat)] 48)) (.cells #[.int .i64 (y.1 : Nat), .int .i64 (y.2 : Nat)] 48)
    rw [show ((w.alloc (.cells #[vn, vl] 25)).alloc (.cells #[.int .i64 (x.1 : Nat), .int .i64 (x.2 : Nat)] 48)).heap.size = w.heap.size + 1 + 1 by simp] at h
    exact h
theorem set2 {W : World} {B : Nat} {t : TypeId} {r0 r1 : Value} (h : W.heap[B]? = some (.cells #[r0, r1] t (0, 0))) (c0 c1 : Value) : ((W.setCell ⟨B, 0, none⟩ c0).setCell ⟨B, 1, none⟩ c1).heap[B]? = some (.cells #[c0, c1] t (0, 0)) := block_set (block_set h 0 c0) 1 c1
theorem at_up {w w' : World} {k : Nat} {ob : Obj} (h : w.heap[k]? = some ob) (hb : Below w.heap.size w w') : w'.heap[k]? = some ob := by rw [hb.block _ (block_lt h)]; exact h

/-- What all calls want of the lattice. -/
structure LaAt (w : World) (vn vl : Value) (ss : List ByteArray) (G : Nat) (L : Nat → Nat) (Z : Nat → Nat → Bool) : Prop where
  strs : Strs w vn ss
  rag : Rag w vl G L Z
  ok : Lat.checkE ss G L Z = 0
theorem LaAt.below {w w' : World} {vn vl : Value} {ss : List ByteArray} {G : Nat} {L : Nat → Nat} {Z : Nat → Nat → Bool} (h : LaAt w vn vl ss G L Z) (hb : Below w.heap.size w w') : LaAt w' vn vl ss G L Z := ⟨h.strs.below hb, h.rag.below hb, h.ok⟩
theorem LaAt.grid {w : World} {vn vl : Value} {ss : List ByteArray} {G : Nat} {L : Nat → Nat} {Z : Nat → Nat → Bool} (h : LaAt w vn vl ss G L Z) : Grid w vl ss.length Z := rag_grid h.rag (Lat.ok_of h.ok).pos (Lat.ok_of h.ok).square
theorem LaAt.six {w : World} {vn vl : Value} {ss : List ByteArray} {G : Nat} {L : Nat → Nat} {Z : Nat → Nat → Bool} (h : LaAt w vn vl ss G L Z) : ss.length ≤ 6 := (Lat.ok_of h.ok).six
theorem LaAt.joins {w : World} {vn vl : Value} {ss : List ByteArray} {G : Nat} {L : Nat → Nat} {Z : Nat → Nat → Bool} (h : LaAt w vn vl ss G L Z) : Lat.Joins Z ss.length := Lat.joins_of (Lat.ord_of (Lat.ok_of h.ok).order) (Lat.ok_of h.ok).joins
theorem LaAt.meets {w : World} {vn vl : Value} {ss : List ByteArray} {G : Nat} {L : Nat → Nat} {Z : Nat → Nat → Bool} (h : LaAt w vn vl ss G L Z) : Lat.Joins (Lat.tr Z) ss.length := Lat.joins_of (Lat.ord_of (Lat.ok_of h.ok).order).turn (Lat.ok_of h.ok).meets
theorem pairE_in {ss : List ByteArray} {G : Nat} {L : Nat → Nat} {Z : Nat → Nat → Bool} {i j : Nat} (h : Lat.checkE ss G L Z = 0) (hi : i < ss.length) (hj : j < ss.length) : Lat.pairE ss G L Z i j = 0 := by
  unfold Lat.pairE Lat.inB
  rw [if_pos h, if_pos]
  simp
  omega

set_option maxHeartbeats 1000000 in
theorem ljoined_any (w : World) (vn vl : Value) (n a b : Nat) (Z : Nat → Nat → Bool) (hG : Grid w vl n Z) (hn : n ≤ 6) (ha : a < n) (hb : b < n) :
    Calls Try.prog 74 #[.agg #[vn, vl], .int .i64 a, .int .i64 b] w fun e w' => e = .returned (.int .i64 (Lat.joinN Z n a b : Nat)) ∧ Below w.heap.size w w' := by
  have q1 := cellBox1 w vn vl 25
  have HB := hide (boxBelow w (.cells #[vn, vl] 25))
  have HG := hide (hG.below HB.out)
  obtain ⟨gb, go, gc, RB, RO, C, rfl, -⟩ := hG
  go_enter Try.func74, Try.ntmps74
  go_wp2_with fail
  refine (joined_any _ _ n a b Z HG.out hn ha hb).mono ?_
  rintro e w' ⟨rfl, rfl⟩
  go_wp2_with fail
  go_ret
  exact ⟨rfl, HB.out⟩

set_option maxHeartbeats 2000000 in
set_option maxRecDepth 100000 in
theorem sjoined_any (w : World) (vn vl : Value) (ss : List ByteArray) (G : Nat) (L : Nat → Nat) (Z : Nat → Nat → Bool) (x y : Nat × Nat) (hL : LaAt w vn vl ss G L Z) (hx : Sv.Ok ss.length x) (hy : Sv.Ok ss.length y) :
    Calls Try.prog 72 #[.agg #[vn, vl], .agg #[.int .i64 (x.1 : Nat), .int .i64 (x.2 : Nat)], .agg #[.int .i64 (y.1 : Nat), .int .i64 (y.2 : Nat)]] w fun e w' => e = .returned (.agg #[.int .i64 ((Sv.join Z ss.length x y).1 : Nat), .int .i64 ((Sv.join Z ss.length x y).2 : Nat)]) ∧ Below w.heap.size w w' := by
  obtain ⟨W, hW⟩ : ∃ W, W = (box3 w vn vl x y).alloc (.cells #[.int .i64 0, .int .i64 0] 48) := ⟨_, rfl⟩
  obtain ⟨b0, b1, b2, bs⟩ := box3_at w vn vl x y
  have b3 := block_new (box3 w vn vl x y) (.cells #[.int .i64 0, .int .i64 0] 48)
  have c0 := block_alloc b0 (.cells #[.int .i64 0, .int .i64 0] 48)
  have c1 := block_alloc b1 (.cells #[.int .i64 0, .int .i64 0] 48)
  have c2 := block_alloc b2 (.cells #[.int .i64 0, .int .i64 0] 48)
  rw [bs, ← hW] at b3
  rw [← hW] at c0 c1 c2
  have hB : Below w.heap.size w W := by rw [hW]; exact up (box3_below w vn vl x y) (boxBelow _ _)
  have hLW := hL.below hB
  have HBW := hide hB
  have HJ := hide (fun k os => ljoined_any (gn W k os) vn vl ss.length x.2 y.2 Z (hLW.below (below_gn W k os)).grid hL.six hx.2 hy.2)
  have ho := or16 ⟨x.1, hx.1⟩ ⟨y.1, hy.1⟩
  simp only at ho
  have HE : Hid (Sv.join Z ss.length x y = (x.1 ||| y.1, Lat.joinN Z ss.length x.2 y.2)) := rfl
  obtain ⟨J, hJ⟩ : ∃ J, J = Sv.join Z ss.length x y := ⟨_, rfl⟩
  rw [← hJ] at HE ⊢
  have HB3 := hide b3
  have q0 := cell_gn ((block_at c0 0).trans (rfl : _ = some vn))
  have q1 := cell_gn ((block_at c0 1).trans (rfl : _ = some vl))
  have q2 := cell_gn ((block_at c1 0).trans (rfl : _ = some (Value.int .i64 (x.1 : Nat))))
  have q3 := cell_gn ((block_at c1 1).trans (rfl : _ = some (Value.int .i64 (x.2 : Nat))))
  have q4 := cell_gn ((block_at c2 0).trans (rfl : _ = some (Value.int .i64 (y.1 : Nat))))
  have q5 := cell_gn ((block_at c2 1).trans (rfl : _ = some (Value.int .i64 (y.2 : Nat))))
  simp only [box3] at hW
  clear b0 b1 b2 bs b3 c0 c1 c2 hB hL hLW hx hy hJ
  go_enter Try.func72, Try.ntmps72
  go_wp2_with fail
  rw [← hW]
  clear hW
  refine wp_region_tail_gn 12 (by kernel_rfl) (by kernel_rfl) ?_
  dsimp only [List.take, List.drop]
  repeat (quiet_step ((exact Calls.gn_of (HJ.out _ _))))
  refine wpQuiet_nil ?_
  intro w2 hw'
  obtain ⟨⟨nq, osq⟩, hw''⟩ := hw'
  have hb2 : Below W.heap.size W w2 := by rw [hw'']; exact below_gn W nq osq
  have HB := hide (up HBW.out hb2)
  have r3 := (block_at (at_up HB3.out hb2) 0).trans rfl
  have r4 := (block_at (at_up HB3.out hb2) 1).trans rfl
  have z3 := block_free (at_up HB3.out hb2) 0
  have z4 := block_free (at_up HB3.out hb2) 1
  have HR := hide (at_up HB3.out hb2)
  clear hb2 hw'' q0 q1 q2 q3 q4 q5 HJ
  go_wp2_with fail
  have hs := set2 HR.out (.int .i64 ((x.1 ||| y.1 : Nat) : Int)) (.int .i64 (Lat.joinN Z ss.length x.2 y.2 : Nat))
  have f0 := (block_at hs 0).trans rfl
  have f1 := (block_at hs 1).trans rfl
  obtain rfl := HE.out
  refine bodyPost_ret (v := .agg #[.int .i64 ((x.1 ||| y.1 : Nat) : Int), .int .i64 (Lat.joinN Z ss.length x.2 y.2 : Nat)]) (by simp [results, Try.results72, go_sem, f0, f1]) rfl ⟨rfl, ?_⟩
  exact (HB.out.setCell (by show w.heap.size ≤ w.heap.size + 1 + 1 + 1; omega) _).setCell (by show w.heap.size ≤ w.heap.size + 1 + 1 + 1; omega) _

/-- What solve's checkPair answers. -/
def spE (ss : List ByteArray) (G : Nat) (L : Nat → Nat) (Z : Nat → Nat → Bool) (m l m' l' : Int) : Int :=
  if Lat.checkE ss G L Z = 0 then (if Sv.labB ss.length m l && Sv.labB ss.length m' l' then 0 else 1) else Lat.checkE ss G L Z
theorem box3i_at (w : World) (vn vl : Value) (m l m' l' : Int) (W : World) (hW : W = ((w.alloc (.cells #[vn, vl] 25)).alloc (.cells #[.int .i64 m, .int .i64 l] 48)).alloc (.cells #[.int .i64 m', .int .i64 l'] 48)) :
    W.heap[w.heap.size]? = some (.cells #[vn, vl] 25 (0, 0)) ∧ W.heap[w.heap.size + 1]? = some (.cells #[.int .i64 m, .int .i64 l] 48 (0, 0)) ∧
    W.heap[w.heap.size + 1 + 1]? = some (.cells #[.int .i64 m', .int .i64 l'] 48 (0, 0)) ∧ W.heap.size = w.heap.size + 1 + 1 + 1 ∧ Below w.heap.size w W := by
  subst hW
  refine ⟨block_alloc (block_alloc (block_new w _) _) _, ?_, ?_, by simp, (((Below.refl _ _).alloc (Nat.le_refl _) _).alloc (by simp) _).alloc (by simp; omega) _⟩
  · have h := block_new (w.alloc (.cells #[vn, vl] 25)) (.cells #[.int .i64 m, .int .i64 l] 48)
    rw [show (w.alloc (.cells #[vn, vl] 25)).heap.size = w.heap.size + 1 by simp] at h
    exact block_alloc h _
  · have h := block_new ((w.alloc (.cells #[vn, vl] 25)).alloc (.cells #[.int .i64 m, .int .i64 l] 48)) (.cells #[.int .i64 m', .int .i64 l'] 48)
    rw [show ((w.alloc (.cells #[vn, vl] 25)).alloc (.cells #[.int .i64 m, .int .i64 l] 48)).heap.size = w.heap.size + 1 + 1 by simp] at h
    exact h

set_option maxHeartbeats 2000000 in
set_option maxRecDepth 100000 in
theorem scheckPair_any (w : World) (vn vl : Value) (ss : List ByteArray) (G : Nat) (L : Nat → Nat) (Z : Nat → Nat → Bool) (m l m' l' : Int) (hS : Strs w vn ss) (hR : Rag w vl G L Z) :
    Calls Try.prog 49 #[.agg #[vn, vl], .agg #[.int .i64 m, .int .i64 l], .agg #[.int .i64 m', .int .i64 l']] w fun e w' => e = .returned (.int .i64 (spE ss G L Z m l m' l')) ∧ Below w.heap.size w w' := by
  obtain ⟨W, hW⟩ : ∃ W, W = ((w.alloc (.cells #[vn, vl] 25)).alloc (.cells #[.int .i64 m, .int .i64 l] 48)).alloc (.cells #[.int .i64 m', .int .i64 l'] 48) := ⟨_, rfl⟩
  obtain ⟨b0, b1, b2, -, hB⟩ := box3i_at w vn vl m l m' l' W hW
  have H0 := hide b0
  have H1 := hide b1
  have H2 := hide b2
  have HB := hide hB
  have HS := hide (hS.below hB)
  have HR := hide (hR.below hB)
  obtain ⟨E, hE⟩ : ∃ E, E = spE ss G L Z m l m' l' := ⟨_, rfl⟩
  have HE := hide hE
  rw [← hE]
  obtain ⟨C, hC⟩ : ∃ C, C = Lat.checkE ss G L Z := ⟨_, rfl⟩
  have HC := hide hC
  obtain ⟨ad, bl, off, cap, rfl, -, hl, -, -⟩ := hS
  obtain ⟨N, hN⟩ : ∃ N, N = ss.length := ⟨_, rfl⟩
  have HN := hide hN
  rw [← hN] at hl HS H0 hW ⊢
  clear b0 b1 b2 hB hR hE hN
  go_enter Try.func49, Try.ntmps49
  go_wp2_with fail
  rw [← hW]
  refine (check_any W _ vl ss G L Z HS.out HR.out).mono ?_
  rintro e w1 ⟨rfl, hb1⟩
  rw [← HC.out]
  have p0 := at_up H0.out hb1
  have p1 := at_up H1.out hb1
  have p2 := at_up H2.out hb1
  have HP0 := hide p0
  have HP1 := hide p1
  have HP2 := hide p2
  have HB1 := hide (up HB.out hb1)
  have q0 := (block_at p0 0).trans rfl
  have q1 := (block_at p0 1).trans rfl
  have q2 := (block_at p1 0).trans rfl
  have q3 := (block_at p1 1).trans rfl
  clear p0 p1 p2 hb1 hW hC
  by_cases hz : C = 0
  · subst hz
    go_wp2_with fail
    refine (isLabel_any w1 ad vl N cap m l).mono ?_
    rintro e w2 ⟨rfl, hb2⟩
    have HB2 := hide (up HB1.out hb2)
    have p0 := at_up HP0.out hb2
    have p2 := at_up HP2.out hb2
    have q0 := (block_at p0 0).trans rfl
    have q1 := (block_at p0 1).trans rfl
    have q2 := (block_at p2 0).trans rfl
    have q3 := (block_at p2 1).trans rfl
    clear p0 p2 hb2
    cases h1 : Sv.labB N m l
    · go_wp2_with fail
      go_ret
      exact ⟨ret_int (by rw [HE.out, spE, if_pos HC.out.symm, ← HN.out, h1]; rfl), HB2.out⟩
    · go_wp2_with fail
      refine (isLabel_any w2 ad vl N cap m' l').mono ?_
      rintro e w3 ⟨rfl, hb3⟩
      have HB3 := hide (up HB2.out hb3)
      clear hb3
      cases h2 : Sv.labB N m' l'
      · go_wp2_with fail
        go_ret
        exact ⟨ret_int (by rw [HE.out, spE, if_pos HC.out.symm, ← HN.out, h1, h2]; rfl), HB3.out⟩
      · go_wp2_with fail
        go_ret
        exact ⟨ret_int (by rw [HE.out, spE, if_pos HC.out.symm, ← HN.out, h1, h2]; rfl), HB3.out⟩
  · have hz' := bne_zero_true hz
    go_wp2_with fail
    go_ret
    exact ⟨ret_int (by rw [HE.out, spE, if_neg (by rw [← HC.out]; exact hz), HC.out]), HB1.out⟩

theorem lab_nat {N : Nat} {m l : Int} (h : Sv.labB N m l = true) : ∃ x : Nat × Nat, Sv.Ok N x ∧ m = (x.1 : Nat) ∧ l = (x.2 : Nat) := by
  obtain ⟨h1, h2, h3⟩ := Sv.labB_ok h
  exact ⟨(m.toNat, l.toNat), h1, h2, h3⟩
theorem spE_ok {ss : List ByteArray} {G : Nat} {L : Nat → Nat} {Z : Nat → Nat → Bool} {m l m' l' : Int} (h : spE ss G L Z m l m' l' = 0) : Lat.checkE ss G L Z = 0 ∧ Sv.labB ss.length m l = true ∧ Sv.labB ss.length m' l' = true := by
  unfold spE at h
  by_cases h0 : Lat.checkE ss G L Z = 0
  · rw [if_pos h0] at h
    by_cases h1 : (Sv.labB ss.length m l && Sv.labB ss.length m' l') = true
    · exact ⟨h0, Bool.and_eq_true_iff.1 h1⟩
    · rw [if_neg h1] at h; omega
  · rw [if_neg h0] at h; exact absurd h h0
theorem labB_of {N : Nat} {x : Nat × Nat} (h : Sv.Ok N x) : Sv.labB N (x.1 : Nat) (x.2 : Nat) = true := by
  unfold Sv.labB
  have h1 := h.1
  have h2 := h.2
  simp
  omega
theorem spE_of {ss : List ByteArray} {G : Nat} {L : Nat → Nat} {Z : Nat → Nat → Bool} {x y : Nat × Nat} (h : Lat.checkE ss G L Z = 0) (hx : Sv.Ok ss.length x) (hy : Sv.Ok ss.length y) : spE ss G L Z (x.1 : Nat) (x.2 : Nat) (y.1 : Nat) (y.2 : Nat) = 0 := by
  unfold spE
  rw [if_pos h, labB_of hx, labB_of hy]
  rfl

set_option maxHeartbeats 2000000 in
set_option maxRecDepth 100000 in
theorem sbelow_ok (w : World) (vn vl : Value) (ss : List ByteArray) (G : Nat) (L : Nat → Nat) (Z : Nat → Nat → Bool) (x y : Nat × Nat) (hL : LaAt w vn vl ss G L Z) (hx : Sv.Ok ss.length x) (hy : Sv.Ok ss.length y) :
    Calls Try.prog 22 #[.agg #[vn, vl], .agg #[.int .i64 (x.1 : Nat), .int .i64 (x.2 : Nat)], .agg #[.int .i64 (y.1 : Nat), .int .i64 (y.2 : Nat)]] w fun e w' => e = .returned (.tuple #[.bool (Sv.le Z x y), .int .i64 0]) ∧ Below w.heap.size w w' := by
  obtain ⟨W, hW⟩ : ∃ W, W = ((w.alloc (.cells #[vn, vl] 25)).alloc (.cells #[.int .i64 (x.1 : Nat), .int .i64 (x.2 : Nat)] 48)).alloc (.cells #[.int .i64 (y.1 : Nat), .int .i64 (y.2 : Nat)] 48) := ⟨_, rfl⟩
  obtain ⟨b0, b1, b2, -, hB⟩ := box3i_at w vn vl _ _ _ _ W hW
  have H0 := hide b0
  have H1 := hide b1
  have H2 := hide b2
  have HB := hide hB
  have HL := hide (hL.below hB)
  have HX := hide hx
  have HY := hide hy
  have HE := hide (spE_of hL.ok hx hy)
  clear b0 b1 b2 hB hL hx hy
  go_enter Try.func22, Try.ntmps22
  go_wp2_with fail
  rw [← hW]
  refine (scheckPair_any W vn vl ss G L Z _ _ _ _ HL.out.strs HL.out.rag).mono ?_
  rintro e w1 ⟨rfl, hb1⟩
  rw [HE.out]
  have p0 := at_up H0.out hb1
  have p1 := at_up H1.out hb1
  have p2 := at_up H2.out hb1
  have HL1 := hide (HL.out.below hb1)
  have HB1 := hide (up HB.out hb1)
  have q0 := (block_at p0 0).trans rfl
  have q1 := (block_at p0 1).trans rfl
  have q2 := (block_at p1 0).trans rfl
  have q3 := (block_at p1 1).trans rfl
  have q4 := (block_at p2 0).trans rfl
  have q5 := (block_at p2 1).trans rfl
  clear p0 p1 p2 hb1 hW
  go_wp2_with fail
  refine (isBelow_any w1 vn vl ss.length Z x y HL1.out.grid HL1.out.six HX.out HY.out).mono ?_
  rintro e w2 ⟨rfl, hb2⟩
  have HB2 := hide (up HB1.out hb2)
  clear hb2
  go_wp2_with fail
  go_ret2
  exact ⟨rfl, HB2.out⟩

set_option maxHeartbeats 2000000 in
set_option maxRecDepth 100000 in
theorem sbelow_err (w : World) (vn vl : Value) (ss : List ByteArray) (G : Nat) (L : Nat → Nat) (Z : Nat → Nat → Bool) (m l m' l' : Int) (hS : Strs w vn ss) (hR : Rag w vl G L Z) (hne : spE ss G L Z m l m' l' ≠ 0) :
    Calls Try.prog 22 #[.agg #[vn, vl], .agg #[.int .i64 m, .int .i64 l], .agg #[.int .i64 m', .int .i64 l']] w fun e w' => e = .returned (.tuple #[.bool false, .int .i64 (spE ss G L Z m l m' l')]) ∧ Below w.heap.size w w' := by
  obtain ⟨W, hW⟩ : ∃ W, W = ((w.alloc (.cells #[vn, vl] 25)).alloc (.cells #[.int .i64 m, .int .i64 l] 48)).alloc (.cells #[.int .i64 m', .int .i64 l'] 48) := ⟨_, rfl⟩
  obtain ⟨-, -, -, -, hB⟩ := box3i_at w vn vl m l m' l' W hW
  have HB := hide hB
  have HS := hide (hS.below hB)
  have HR := hide (hR.below hB)
  have hz' := bne_zero_true hne
  clear hB hS hR hne
  go_enter Try.func22, Try.ntmps22
  go_wp2_with fail
  rw [← hW]
  refine (scheckPair_any W vn vl ss G L Z _ _ _ _ HS.out HR.out).mono ?_
  rintro e w1 ⟨rfl, hb1⟩
  have HB1 := hide (up HB.out hb1)
  clear hb1 hW
  go_wp2_with fail
  go_ret2
  exact ⟨rfl, HB1.out⟩

end Go.Proofs.Ytholefgckcoklab
