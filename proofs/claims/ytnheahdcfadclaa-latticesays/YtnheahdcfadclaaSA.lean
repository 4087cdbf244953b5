/- The walk over LatticeSays, where the lattice is no right one: all calls answer its error. -/
import Derived.Test.YtnheahdcfadclaaRH
namespace Go.Proofs.Ytnheahdcfadclaa
open Go.RowKit

theorem pairE_err {ss : List ByteArray} {G : Nat} {L : Nat → Nat} {Z : Nat → Nat → Bool} (h : Lat.checkE ss G L Z ≠ 0) (a b : Int) : Lat.pairE ss G L Z a b = Lat.checkE ss G L Z := by
  unfold Lat.pairE; rw [if_neg h]
theorem join_err' (w : World) (vn vl : Value) (ss : List ByteArray) (G : Nat) (L : Nat → Nat) (Z : Nat → Nat → Bool) (a b : Int) (hS : Strs w vn ss) (hR : Rag w vl G L Z) (x : Int) (hx : Lat.pairE ss G L Z a b = x) (hE : x ≠ 0) :
    Calls Try.prog 13 #[.agg #[vn, vl], .int .i64 a, .int .i64 b] w fun e w' => e = .returned (.tuple #[.int .i64 0, .int .i64 x]) ∧ Below w.heap.size w w' := by
  subst hx; exact join_err w vn vl ss G L Z a b hS hR hE
theorem meet_err' (w : World) (vn vl : Value) (ss : List ByteArray) (G : Nat) (L : Nat → Nat) (Z : Nat → Nat → Bool) (a b : Int) (hS : Strs w vn ss) (hR : Rag w vl G L Z) (x : Int) (hx : Lat.pairE ss G L Z a b = x) (hE : x ≠ 0) :
    Calls Try.prog 14 #[.agg #[vn, vl], .int .i64 a, .int .i64 b] w fun e w' => e = .returned (.tuple #[.int .i64 0, .int .i64 x]) ∧ Below w.heap.size w w' := by
  subst hx; exact meet_err w vn vl ss G L Z a b hS hR hE

set_option maxHeartbeats 2000000 in
set_option maxRecDepth 100000 in
theorem says_err (w : World) (vn vl : Value) (ss : List ByteArray) (G : Nat) (L : Nat → Nat) (Z : Nat → Nat → Bool) (t : ByteArray) (a b : Int) (hS : Strs w vn ss) (hR : Rag w vl G L Z) (hE : Lat.checkE ss G L Z ≠ 0) :
    Calls Try.prog 3 #[.agg #[vn, vl], .string t, .int .i64 a, .int .i64 b] w fun e w' => e = .returned (.bool true) ∧ Below w.heap.size w w' := by
  have HS := hide hS
  have HR := hide hR
  have HP := hide (pairE_err hE a b)
  have HE := hide hE
  clear hS hR
  obtain ⟨x, hx⟩ : ∃ x, x = Lat.checkE ss G L Z := ⟨_, rfl⟩
  have HX := hide hx
  rw [← hx] at HP HE hE
  have hx0 : (x == 0) = false := by simp [hE]
  clear hx hE
  have R1 : Hid (∀ w, Strs w vn ss → Rag w vl G L Z → Calls Try.prog 6 #[.agg #[vn, vl]] w fun e w' => e = .returned (.int .i64 x) ∧ Below w.heap.size w w') := by
    rw [HX.out]; exact fun w h1 h2 => rlattice_any w vn vl ss G L Z h1 h2
  have R2 : Hid (∀ w, Strs w vn ss → Rag w vl G L Z → Calls Try.prog 12 #[.agg #[vn, vl], .string t] w fun e w' => e = .returned (.tuple #[.int .i64 0, .int .i64 x]) ∧ Below w.heap.size w w') := by
    have he := HE.out; rw [HX.out] at he ⊢; exact fun w h1 h2 => find_err w vn vl ss G L Z t h1 h2 he
  have R3 : Hid (∀ w, Strs w vn ss → Rag w vl G L Z → Calls Try.prog 15 #[.agg #[vn, vl]] w fun e w' => e = .returned (.tuple #[.int .i64 0, .int .i64 0, .int .i64 x]) ∧ Below w.heap.size w w') := by
    have he := HE.out; rw [HX.out] at he ⊢; exact fun w h1 h2 => ends_err w vn vl ss G L Z h1 h2 he
  have R4 : Hid (∀ w, Strs w vn ss → Rag w vl G L Z → Calls Try.prog 16 #[.agg #[vn, vl]] w fun e w' => e = .returned (.int .i64 x) ∧ Below w.heap.size w w') := by
    rw [HX.out]; exact fun w h1 h2 => check_any w vn vl ss G L Z h1 h2
  go_enter Try.func3, Try.ntmps3
  go_wp2_with fail
  refine (R1.out _ (HS.out.below (boxBelow w _)) (HR.out.below (boxBelow w _))).mono ?_
  rintro e w1 ⟨rfl, hb1⟩
  have q0 := cellUp (cellBox0 w vn vl 25) hb1
  have q1 := cellUp (cellBox1 w vn vl 25) hb1
  have HB1 := hide (up1 hb1)
  clear hb1
  go_wp2_with fail
  refine (R2.out _ (HS.out.below HB1.out) (HR.out.below HB1.out)).mono ?_
  rintro e w2 ⟨rfl, hb2⟩
  replace q0 := cellUp q0 hb2
  replace q1 := cellUp q1 hb2
  have HB2 := hide (up HB1.out hb2)
  clear hb2 HB1
  go_wp2_with fail
  refine (join_err' _ vn vl ss G L Z a b (HS.out.below HB2.out) (HR.out.below HB2.out) x HP.out HE.out).mono ?_
  rintro e w3 ⟨rfl, hb3⟩
  replace q0 := cellUp q0 hb3
  replace q1 := cellUp q1 hb3
  have HB3 := hide (up HB2.out hb3)
  clear hb3 HB2
  go_wp2_with fail
  refine (meet_err' _ vn vl ss G L Z a b (HS.out.below HB3.out) (HR.out.below HB3.out) x HP.out HE.out).mono ?_
  rintro e w4 ⟨rfl, hb4⟩
  replace q0 := cellUp q0 hb4
  replace q1 := cellUp q1 hb4
  have HB4 := hide (up HB3.out hb4)
  clear hb4 HB3
  go_wp2_with fail
  refine (R3.out _ (HS.out.below HB4.out) (HR.out.below HB4.out)).mono ?_
  rintro e w5 ⟨rfl, hb5⟩
  replace q0 := cellUp q0 hb5
  replace q1 := cellUp q1 hb5
  have HB5 := hide (up HB4.out hb5)
  clear hb5 HB4
  go_wp2_with fail
  refine (R4.out _ (HS.out.below HB5.out) (HR.out.below HB5.out)).mono ?_
  rintro e w6 ⟨rfl, hb6⟩
  have HB6 := hide (up HB5.out hb6)
  clear hb6 HB5
  go_wp2
  go_ret
  exact ⟨rfl, HB6.out⟩

end Go.Proofs.Ytnheahdcfadclaa
