/- SolveLeast: the law's walk. -/
import Derived.Test.YtholefgckcoklabJA
import Derived.Test.YtholefgckcoklabJC
import Derived.Deep.RegionHeld3
import Derived.Deep.CutRange
import Derived.Deep.CutBlock
namespace Go.Proofs.Ytholefgckcoklab
open Go.RowKit

/-- The law's three boxes. -/
structure DX (w wx : World) (vn vl vc : Value) (mt : Int) (vf : Value) (mm ml : Int) : Prop where
  since : Below w.heap.size w wx
  b0 : wx.heap[w.heap.size]? = some (.cells #[vn, vl] 25 (0, 0))
  b1 : wx.heap[w.heap.size + 1]? = some (.cells #[vc] 45 (0, 0))
  b2 : wx.heap[w.heap.size + 1 + 1]? = some (.cells #[.int .i64 mt, vf, .int .i64 mm, .int .i64 ml] 50 (0, 0))
section
variable {w wx wy : World} {vn vl vc vf : Value} {mt mm ml : Int}
theorem DX.below (h : DX w wx vn vl vc mt vf mm ml) (hb : Below wx.heap.size wx wy) : DX w wy vn vl vc mt vf mm ml := ⟨up h.since hb, at_up h.b0 hb, at_up h.b1 hb, at_up h.b2 hb⟩
theorem DX.cells (h : DX w wx vn vl vc mt vf mm ml) : wx.cell? ⟨w.heap.size, 0, none⟩ = some vn ∧ wx.cell? ⟨w.heap.size, 1, none⟩ = some vl ∧ wx.cell? ⟨w.heap.size + 1, 0, none⟩ = some vc ∧ wx.cell? ⟨w.heap.size + 1 + 1, 0, none⟩ = some (.int .i64 mt) ∧ wx.cell? ⟨w.heap.size + 1 + 1, 1, none⟩ = some vf ∧
    wx.cell? ⟨w.heap.size + 1 + 1, 2, none⟩ = some (.int .i64 mm) ∧ wx.cell? ⟨w.heap.size + 1 + 1, 3, none⟩ = some (.int .i64 ml) :=
  ⟨(block_at h.b0 0).trans rfl, (block_at h.b0 1).trans rfl, (block_at h.b1 0).trans rfl, (block_at h.b2 0).trans rfl, (block_at h.b2 1).trans rfl, (block_at h.b2 2).trans rfl, (block_at h.b2 3).trans rfl⟩
theorem dx_start (w : World) (vn vl vc vf : Value) (mt mm ml : Int) (W : World) (hW : W = ((w.alloc (.cells #[vn, vl] 25)).alloc (.cells #[vc] 45)).alloc (.cells #[.int .i64 mt, vf, .int .i64 mm, .int .i64 ml] 50)) : DX w W vn vl vc mt vf mm ml := by
  subst hW
  refine ⟨(((Below.refl _ _).alloc (Nat.le_refl _) _).alloc (by simp) _).alloc (by simp; omega) _, block_alloc (block_alloc (block_new w _) _) _, ?_, ?_⟩
  · have h := block_new (w.alloc (.cells #[vn, vl] 25)) (.cells #[vc] 45)
    rw [show (w.alloc (.cells #[vn, vl] 25)).heap.size = w.heap.size + 1 by simp] at h
    exact block_alloc h _
  · have h := block_new ((w.alloc (.cells #[vn, vl] 25)).alloc (.cells #[vc] 45)) (.cells #[.int .i64 mt, vf, .int .i64 mm, .int .i64 ml] 50)
    rw [show ((w.alloc (.cells #[vn, vl] 25)).alloc (.cells #[vc] 45)).heap.size = w.heap.size + 1 + 1 by simp] at h
    exact h
end
/-- What Least answers where it tells an error. -/
theorem least_err (w : World) (vn vl vc : Value) (ss : List ByteArray) (G : Nat) (L : Nat → Nat) (Z : Nat → Nat → Bool) (ni : Int) (cs : List Sv.Co) (hS : Strs w vn ss) (hR : Rag w vl G L Z) (hC : CosAt w vc cs) (hE : ¬ (Lat.checkE ss G L Z = 0 ∧ Sv.sysE ss.length ni cs = 0)) :
    Calls Try.prog 20 #[.agg #[vn, vl], .int .i64 ni, vc] w fun e w' => ∃ E : Int, E ≠ 0 ∧ e = .returned (.tuple #[.slice none 0 0, .int .i64 E]) ∧ Below w.heap.size w w' := by
  by_cases h : Lat.checkE ss G L Z = 0
  · refine (least_err2 w vn vl vc ss G L Z ni cs ⟨hS, hR, h⟩ hC (fun h2 => hE ⟨h, h2⟩)).mono ?_
    rintro e w' ⟨he, hb⟩
    exact ⟨_, fun h2 => hE ⟨h, h2⟩, he, hb⟩
  · refine (least_err1 w vn vl vc ss G L Z ni hS hR h).mono ?_
    rintro e w' ⟨he, hb⟩
    exact ⟨_, h, he, hb⟩

set_option maxHeartbeats 2000000 in
set_option maxRecDepth 100000 in
theorem sleast_err (w : World) (vn vl vc vo vf : Value) (ss : List ByteArray) (G : Nat) (L : Nat → Nat) (Z : Nat → Nat → Bool) (ni mt mm ml : Int) (cs : List Sv.Co) (hS : Strs w vn ss) (hR : Rag w vl G L Z) (hC : CosAt w vc cs) (hE : ¬ (Lat.checkE ss G L Z = 0 ∧ Sv.sysE ss.length ni cs = 0)) :
    Calls Try.prog 5 #[.agg #[vn, vl], .int .i64 ni, vc, vo, .agg #[.int .i64 mt, vf, .int .i64 mm, .int .i64 ml]] w fun e w' => e = .returned (.bool true) ∧ Below w.heap.size w w' := by
  have HS := hide hS
  have HR := hide hR
  have HC := hide hC
  have HE := hide hE
  obtain ⟨ca, cb, co, cc, rfl, -⟩ := hC
  obtain ⟨W, hW⟩ : ∃ W, W = ((w.alloc (.cells #[vn, vl] 25)).alloc (.cells #[.slice ca cs.length cc] 45)).alloc (.cells #[.int .i64 mt, vf, .int .i64 mm, .int .i64 ml] 50) := ⟨_, rfl⟩
  have HX := hide (dx_start w vn vl (.slice ca cs.length cc) vf mt mm ml W hW)
  clear hS hR hE
  go_enter Try.func5, Try.ntmps5
  go_wp2_with fail
  rw [← hW]
  clear hW
  refine (tiny_any W).mono ?_
  rintro e w1 ⟨rfl, hb1⟩
  have HX1 := hide (HX.out.below hb1)
  obtain ⟨q0, q1, q2, q3, q4, q5, q6⟩ := HX1.out.cells
  clear hb1
  go_wp2_with fail
  clear q0 q1 q2 q3 q4 q5 q6
  refine (least_err w1 vn vl _ ss G L Z ni cs (HS.out.below HX1.out.since) (HR.out.below HX1.out.since) (HC.out.below HX1.out.since) HE.out).mono ?_
  rintro e w2 ⟨E, hne, rfl, hb2⟩
  have HB2 := hide (up HX1.out.since hb2)
  have hz := bne_zero_true hne
  clear hb2
  go_wp2_with fail
  go_ret
  exact ⟨rfl, HB2.out⟩

end Go.Proofs.Ytholefgckcoklab
