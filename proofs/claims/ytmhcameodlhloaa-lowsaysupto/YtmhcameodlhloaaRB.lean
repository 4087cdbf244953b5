/- Walks over package downref, second part: lattice.Find. -/
import Derived.Test.YtmhcameodlhloaaRI
import Derived.Test.YtmhcameodlhloaaLG
import Derived.Test.YtmhcameodlhloaaLatM
namespace Go.Proofs.Ytmhcameodlhloaa
open Go.RowKit

namespace Lat
def findN (ss : List ByteArray) (t : ByteArray) : Int := if indexI ss t < 0 then 0 else indexI ss t
def findE (ss : List ByteArray) (t : ByteArray) : Int := if indexI ss t < 0 then 4 else 0
end Lat

set_option maxHeartbeats 2000000 in
set_option maxRecDepth 100000 in
theorem find_err (w : World) (vn vl : Value) (ss : List ByteArray) (G : Nat) (L : Nat → Nat) (Z : Nat → Nat → Bool) (t : ByteArray) (hS : Strs w vn ss) (hR : Rag w vl G L Z) (hE : Lat.checkE ss G L Z ≠ 0) :
    Calls Try.prog 13 #[.agg #[vn, vl], .string t] w fun e w' => e = .returned (.tuple #[.int .i64 0, .int .i64 (Lat.checkE ss G L Z)]) ∧ Below w.heap.size w w' := by
  have HS := hide hS
  have HR := hide hR
  have hz' := bne_zero_true hE
  clear hS hR hE
  go_enter Try.func13, Try.ntmps13
  go_wp2_with fail
  refine (check_any _ vn vl ss G L Z (HS.out.below ((Below.refl _ _).alloc (Nat.le_refl _) _)) (HR.out.below ((Below.refl _ _).alloc (Nat.le_refl _) _))).mono ?_
  rintro e w1 ⟨rfl, hb1⟩
  have HB := hide (up1 hb1)
  clear hb1
  go_wp2
  go_ret2
  exact ⟨rfl, HB.out⟩

set_option maxHeartbeats 2000000 in
set_option maxRecDepth 100000 in
theorem find_ok (w : World) (vn vl : Value) (ss : List ByteArray) (G : Nat) (L : Nat → Nat) (Z : Nat → Nat → Bool) (t : ByteArray) (hS : Strs w vn ss) (hR : Rag w vl G L Z) (hE : Lat.checkE ss G L Z = 0) :
    Calls Try.prog 13 #[.agg #[vn, vl], .string t] w fun e w' => e = .returned (.tuple #[.int .i64 (Lat.findN ss t), .int .i64 (Lat.findE ss t)]) ∧ Below w.heap.size w w' := by
  have HS := hide hS
  have HR := hide hR
  clear hS hR
  go_enter Try.func13, Try.ntmps13
  go_wp2_with fail
  refine (check_any _ vn vl ss G L Z (HS.out.below ((Below.refl _ _).alloc (Nat.le_refl _) _)) (HR.out.below ((Below.refl _ _).alloc (Nat.le_refl _) _))).mono ?_
  rintro e w1 ⟨rfl, hb1⟩
  rw [hE]
  have q0 := cellUp (cellBox0 w vn vl 25) hb1
  have HB := hide (up1 hb1)
  clear hb1 hE
  go_wp2_with fail
  refine (indexS_any _ vn ss t (HS.out.below HB.out)).mono ?_
  rintro e w2 ⟨rfl, hw⟩
  subst hw
  obtain ⟨i, hi⟩ : ∃ i, i = Lat.indexI ss t := ⟨_, rfl⟩
  have HI := hide hi
  rw [← hi]
  clear hi
  by_cases h0 : i < 0
  · go_wp2
    go_ret2
    exact ⟨ret_two (by unfold Lat.findN; rw [← HI.out, if_pos h0]) (by unfold Lat.findE; rw [← HI.out, if_pos h0]), HB.out⟩
  · go_wp2
    go_ret2
    exact ⟨ret_two (by unfold Lat.findN; rw [← HI.out, if_neg (by omega)]) (by unfold Lat.findE; rw [← HI.out, if_neg (by omega)]), HB.out⟩

end Go.Proofs.Ytmhcameodlhloaa
