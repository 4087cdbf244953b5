/- The walk over LatticeLaws, where Check refuses what came in. -/
import Derived.Test.YtnheahdcfadclabKB
namespace Go.Proofs.Ytnheahdcfadclab
open Go.RowKit

theorem join_two (w : World) (un ul : Value) (hS : Strs w un twoS) (hR : Rag w ul 2 (fun _ => 2) twoZ) :
    Calls Try.prog 6 #[.agg #[un, ul], .int .i64 0, .int .i64 1] w fun e w' => e = .returned (.tuple #[.int .i64 1, .int .i64 0]) ∧ Below w.heap.size w w' := by
  refine (join_ok w un ul twoS 2 (fun _ => 2) twoZ 0 1 hS hR (pairE_ok two_check (by decide) (by decide))).mono ?_
  rintro e w' ⟨rfl, hb⟩
  obtain ⟨h1, h2, _, _⟩ := two_join
  exact ⟨by rw [show twoS.length = 2 from rfl, h1, h2]; rfl, hb⟩

theorem ends_two (w : World) (un ul : Value) (hS : Strs w un twoS) (hR : Rag w ul 2 (fun _ => 2) twoZ) :
    Calls Try.prog 8 #[.agg #[un, ul]] w fun e w' => e = .returned (.tuple #[.int .i64 0, .int .i64 1, .int .i64 0]) ∧ Below w.heap.size w w' := by
  refine (ends_ok w un ul twoS 2 (fun _ => 2) twoZ hS hR two_check).mono ?_
  rintro e w' ⟨rfl, hb⟩
  obtain ⟨_, _, h1, h2⟩ := two_join
  exact ⟨by rw [show twoS.length = 2 from rfl, h1, h2]; rfl, hb⟩

set_option maxHeartbeats 1000000 in
set_option maxRecDepth 100000 in
theorem laws_err (w : World) (vn vl : Value) (ss : List ByteArray) (G : Nat) (L : Nat → Nat) (Z : Nat → Nat → Bool) (a b c : Int) (hS : Strs w vn ss) (hR : Rag w vl G L Z) (hE : Lat.checkE ss G L Z ≠ 0) :
    Calls Try.prog 3 #[.agg #[vn, vl], .int .i64 a, .int .i64 b, .int .i64 c] w fun e w' => e = .returned (.bool true) ∧ Below w.heap.size w w' := by
  have HS := hide hS
  have HR := hide hR
  have hz' := bne_zero_true hE
  clear hS hR hE
  go_enter Try.func3, Try.ntmps3
  go_wp2_with fail
  refine (two_any _).mono ?_
  rintro e w1 ⟨un, ul, rfl, hS1, hR1, hb1⟩
  have HS1 := hide hS1
  have HR1 := hide hR1
  have HB1 := hide (up1 hb1)
  have q0 := cellUp (cellBox0 w vn vl 25) hb1
  have q1 := cellUp (cellBox1 w vn vl 25) hb1
  clear hS1 hR1 hb1
  go_wp2_with fail
  refine (join_two _ un ul HS1.out HR1.out).mono ?_
  rintro e w2 ⟨rfl, hb2⟩
  replace q0 := cellUp q0 hb2
  replace q1 := cellUp q1 hb2
  have HB2 := hide (up HB1.out hb2)
  clear hb2 HB1 HS1 HR1
  go_wp2_with fail
  refine (two_any _).mono ?_
  rintro e w3 ⟨un, ul, rfl, hS1, hR1, hb3⟩
  have HS1 := hide hS1
  have HR1 := hide hR1
  replace q0 := cellUp q0 hb3
  replace q1 := cellUp q1 hb3
  have HB3 := hide (up HB2.out hb3)
  clear hb3 HB2 hS1 hR1
  go_wp2_with fail
  refine (ends_two _ un ul HS1.out HR1.out).mono ?_
  rintro e w4 ⟨rfl, hb4⟩
  replace q0 := cellUp q0 hb4
  replace q1 := cellUp q1 hb4
  have HB4 := hide (up HB3.out hb4)
  clear hb4 HB3 HS1 HR1
  go_wp2_with fail
  refine (check_any _ vn vl ss G L Z (HS.out.below HB4.out) (HR.out.below HB4.out)).mono ?_
  rintro e w5 ⟨rfl, hb5⟩
  have HB5 := hide (up HB4.out hb5)
  clear hb5 HB4
  go_wp2
  go_ret
  exact ⟨rfl, HB5.out⟩
end Go.Proofs.Ytnheahdcfadclab
