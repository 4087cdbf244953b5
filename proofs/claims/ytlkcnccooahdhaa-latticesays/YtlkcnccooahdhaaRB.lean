/- Walks over package downref, second part: slices.Index of strings, lattice.Find. -/
import Derived.Test.YtlkcnccooahdhaaRA
namespace Go.Proofs.Ytlkcnccooahdhaa
open Go.RowKit

namespace Lat
def isAt (ss : List ByteArray) (t : ByteArray) (i : Nat) : Bool := t.toList == (ss.getD i ByteArray.empty).toList
/-- The place of a name; -1: there is none. -/
def indexI (ss : List ByteArray) (t : ByteArray) : Int := match (List.range ss.length).find? (isAt ss t) with | some i => i | none => -1
end Lat

set_option maxHeartbeats 1000000 in
theorem indexS_any (w : World) (v : Value) (ss : List ByteArray) (t : ByteArray) (hS : Strs w v ss) :
    Calls Try.prog 6 #[v, .string t] w fun e w' => e = .returned (.int .i64 (Lat.indexI ss t)) ∧ w' = w := by
  obtain ⟨a, b, off, cap, rfl, ha, hl, hs, h1⟩ := hS
  obtain ⟨len, hlen⟩ : ∃ len, len = ss.length := ⟨_, rfl⟩
  rw [← hlen] at ha hl h1 ⊢
  have HL : Hid (len = ss.length) := hlen
  clear hlen
  go_enter Try.func6, Try.ntmps6
  go_wp2
  go_loop [8] (fun i => ∃ k : Nat, k ≤ len ∧ i = .int .i64 k ∧ ∀ d, d < k → Lat.isAt ss t d = false) (fun i => len - (intOf i).toNat)
  case atStart => exact ⟨0, Nat.zero_le _, rfl, fun d hd => absurd hd (Nat.not_lt_zero _)⟩
  case round =>
    obtain ⟨k, hk, rfl, hall⟩ := hrel
    have HA : Hid (∀ d, d < k → Lat.isAt ss t d = false) := hall
    clear hall
    by_cases hlt : k < len
    · obtain rfl := ha (by omega)
      obtain ⟨s, hsk⟩ : ∃ s, s = ss.getD k ByteArray.empty := ⟨_, rfl⟩
      have hcx := h1 k hlt
      rw [← hsk] at hcx
      have HK := hide hsk
      clear hsk h1 hs
      cases hh : (t.toList == s.toList)
      · go_wp2
        go_round
        case rel => exact ⟨k + 1, by omega, by go_num, fun d hd => by
            by_cases e : d = k
            · subst e; unfold Lat.isAt; rw [← HK.out]; exact hh
            · exact HA.out d (by omega)⟩
        case measure => simp [intOf]; omega
      · go_wp2
        go_ret
        exact ⟨ret_int (by unfold Lat.indexI; rw [Lat.find_hit (by rw [← HL.out]; exact hlt) HA.out (by unfold Lat.isAt; rw [← HK.out]; exact hh)]), rfl⟩
    · go_wp2
      go_ret
      exact ⟨ret_int (by unfold Lat.indexI; rw [Lat.find_none (fun d hd => HA.out d (by have := HL.out; omega))]), rfl⟩

namespace Lat
def findN (ss : List ByteArray) (t : ByteArray) : Int := if indexI ss t < 0 then 0 else indexI ss t
def findE (ss : List ByteArray) (t : ByteArray) : Int := if indexI ss t < 0 then 4 else 0
end Lat

set_option maxHeartbeats 2000000 in
set_option maxRecDepth 100000 in
theorem find_err (w : World) (vn vl : Value) (ss : List ByteArray) (G : Nat) (L : Nat → Nat) (Z : Nat → Nat → Bool) (t : ByteArray) (hS : Strs w vn ss) (hR : Rag w vl G L Z) (hE : Lat.checkE ss G L Z ≠ 0) :
    Calls Try.prog 10 #[.agg #[vn, vl], .string t] w fun e w' => e = .returned (.tuple #[.int .i64 0, .int .i64 (Lat.checkE ss G L Z)]) ∧ Below w.heap.size w w' := by
  have HS := hide hS
  have HR := hide hR
  have hz' := bne_zero_true hE
  clear hS hR hE
  go_enter Try.func10, Try.ntmps10
  go_wp2_with fail
  refine (check_any _ vn vl ss G L Z (HS.out.below ((Below.refl _ _).alloc (Nat.le_refl _) _)) (HR.out.below ((Below.refl _ _).alloc (Nat.le_refl _) _))).mono ?_
  rintro e w1 ⟨rfl, hb1⟩
  have HB := hide (up1 hb1)
  clear hb1
  go_wp2
  go_ret2
  exact ⟨rfl, HB.out⟩

set_option maxHeartbeats 2000000 in
set_option maxRecDepth 100000 in
theorem find_ok (w : World) (vn vl : Value) (ss : List ByteArray) (G : Nat) (L : Nat → Nat) (Z : Nat → Nat → Bool) (t : ByteArray) (hS : Strs w vn ss) (hR : Rag w vl G L Z) (hE : Lat.checkE ss G L Z = 0) :
    Calls Try.prog 10 #[.agg #[vn, vl], .string t] w fun e w' => e = .returned (.tuple #[.int .i64 (Lat.findN ss t), .int .i64 (Lat.findE ss t)]) ∧ Below w.heap.size w w' := by
  have HS := hide hS
  have HR := hide hR
  clear hS hR
  go_enter Try.func10, Try.ntmps10
  go_wp2_with fail
  refine (check_any _ vn vl ss G L Z (HS.out.below ((Below.refl _ _).alloc (Nat.le_refl _) _)) (HR.out.below ((Below.refl _ _).alloc (Nat.le_refl _) _))).mono ?_
  rintro e w1 ⟨rfl, hb1⟩
  rw [hE]
  have q0 := cellUp (cellBox0 w vn vl 25) hb1
  have HB := hide (up1 hb1)
  clear hb1 hE
  go_wp2_with fail
  refine (indexS_any _ vn ss t (HS.out.below HB.out)).mono ?_
  rintro e w2 ⟨rfl, hw⟩
  subst hw
  obtain ⟨i, hi⟩ : ∃ i, i = Lat.indexI ss t := ⟨_, rfl⟩
  have HI := hide hi
  rw [← hi]
  clear hi
  by_cases h0 : i < 0
  · go_wp2
    go_ret2
    exact ⟨ret_two (by unfold Lat.findN; rw [← HI.out, if_pos h0]) (by unfold Lat.findE; rw [← HI.out, if_pos h0]), HB.out⟩
  · go_wp2
    go_ret2
    exact ⟨ret_two (by unfold Lat.findN; rw [← HI.out, if_neg (by omega)]) (by unfold Lat.findE; rw [← HI.out, if_neg (by omega)]), HB.out⟩

end Go.Proofs.Ytlkcnccooahdhaa
