/- Walks over package lattice, seventh part: checkPair, Join, Meet, Ends. -/
import Derived.Test.YtmhcameodlhloaaLF
namespace Go.Proofs.Ytmhcameodlhloaa
open Go.RowKit

namespace Lat
/-- All that Check asks, of n levels. -/
structure Ok (ss : List ByteArray) (G : Nat) (L : Nat → Nat) (Z : Nat → Nat → Bool) : Prop where
  names : namesB ss = true
  pos : 0 < ss.length
  six : ss.length ≤ 6
  square : squareB G L ss.length = true
  order : orderB Z ss.length = true
  joins : joinsB Z ss.length = true
  meets : joinsB (tr Z) ss.length = true
theorem ok_of {ss : List ByteArray} {G : Nat} {L : Nat → Nat} {Z : Nat → Nat → Bool} (h : checkE ss G L Z = 0) : Ok ss G L Z := by
  unfold checkE at h
  by_cases h1 : namesB ss = false
  · rw [if_pos h1] at h; omega
  rw [if_neg h1] at h
  by_cases h2 : 6 < ss.length
  · rw [if_pos h2] at h; omega
  rw [if_neg h2] at h
  by_cases h3 : squareB G L ss.length = false
  · rw [if_pos h3] at h; omega
  rw [if_neg h3] at h
  by_cases h4 : orderB Z ss.length = false
  · rw [if_pos h4] at h; omega
  rw [if_neg h4] at h
  by_cases h5 : joinsB Z ss.length = false
  · rw [if_pos h5] at h; omega
  rw [if_neg h5] at h
  by_cases h6 : joinsB (tr Z) ss.length = false
  · rw [if_pos h6] at h; omega
  have hn : namesB ss = true := by simpa using h1
  exact ⟨hn, by unfold namesB at hn; simpa using (Bool.and_eq_true_iff.1 hn).2, by omega, by simpa using h3, by simpa using h4, by simpa using h5, by simpa using h6⟩
theorem checkE_range (ss : List ByteArray) (G : Nat) (L : Nat → Nat) (Z : Nat → Nat → Bool) : 0 ≤ checkE ss G L Z ∧ checkE ss G L Z ≤ 5 := by
  unfold checkE
  repeat' split
  all_goals omega
def inB (n : Nat) (a : Int) : Bool := decide (0 ≤ a) && decide (a < n)
/-- What checkPair answers. -/
def pairE (ss : List ByteArray) (G : Nat) (L : Nat → Nat) (Z : Nat → Nat → Bool) (a b : Int) : Int :=
  if checkE ss G L Z = 0 then (if inB ss.length a && inB ss.length b then 0 else 1) else checkE ss G L Z
end Lat


set_option maxHeartbeats 2000000 in
set_option maxRecDepth 100000 in
theorem checkPair_any (w : World) (vn vl : Value) (ss : List ByteArray) (G : Nat) (L : Nat → Nat) (Z : Nat → Nat → Bool) (a b : Int) (hS : Strs w vn ss) (hR : Rag w vl G L Z) :
    Calls Try.prog 40 #[.agg #[vn, vl], .int .i64 a, .int .i64 b] w fun e w' => e = .returned (.int .i64 (Lat.pairE ss G L Z a b)) ∧ Below w.heap.size w w' := by
  have HS := hide hS
  have HR := hide hR
  obtain ⟨ad, bl, off, cap, rfl, ha, hl, hs, h1⟩ := hS
  clear ha hs h1 hR
  obtain ⟨n, hlen⟩ : ∃ n, n = ss.length := ⟨_, rfl⟩
  have HN : Hid (n = ss.length) := hlen
  rw [← hlen] at hl HS ⊢
  clear hlen
  obtain ⟨c, hc⟩ : ∃ c, c = Lat.checkE ss G L Z := ⟨_, rfl⟩
  have HC : Hid (c = Lat.checkE ss G L Z) := hc
  go_enter Try.func40, Try.ntmps40
  go_wp2_with fail
  refine (check_any _ _ vl ss G L Z (HS.out.below ((Below.refl _ _).alloc (Nat.le_refl _) _)) (HR.out.below ((Below.refl _ _).alloc (Nat.le_refl _) _))).mono ?_
  rintro e w1 ⟨rfl, hb1⟩
  rw [← hc]
  clear hc
  have q0 := cellUp (cellBox0 w (.slice ad n cap) vl 25) hb1
  have q1 := cellUp (cellBox1 w (.slice ad n cap) vl 25) hb1
  have HB := hide (up1 hb1)
  clear hb1
  by_cases hz : c = 0
  · subst hz
    have hO := Lat.ok_of HC.out.symm
    have h6 : n ≤ 6 := by have := hO.six; have := HN.out; omega
    go_wp2_with fail
    refine (isLevel_any _ ad vl n cap a).mono ?_
    rintro e w2 ⟨rfl, hb2⟩
    rw [show (decide (0 ≤ a) && decide (a < (n : Int))) = Lat.inB n a from rfl]
    have p0 := cellUp q0 hb2
    have p1 := cellUp q1 hb2
    have HB2 := hide (up HB.out hb2)
    clear hb2 q0 q1
    cases za : Lat.inB n a
    · go_wp2
      go_ret
      exact ⟨ret_int (by unfold Lat.pairE; rw [← HN.out, za, if_pos HC.out.symm]; rfl), HB2.out⟩
    · go_wp2_with fail
      refine (isLevel_any _ ad vl n cap b).mono ?_
      rintro e w3 ⟨rfl, hb3⟩
      rw [show (decide (0 ≤ b) && decide (b < (n : Int))) = Lat.inB n b from rfl]
      have HB3 := hide (up HB2.out hb3)
      clear hb3
      cases zb : Lat.inB n b
      · go_wp2
        go_ret
        exact ⟨ret_int (by unfold Lat.pairE; rw [← HN.out, za, zb, if_pos HC.out.symm]; rfl), HB3.out⟩
      · go_wp2
        go_ret
        exact ⟨ret_int (by unfold Lat.pairE; rw [← HN.out, za, zb, if_pos HC.out.symm]; rfl), HB3.out⟩
  · have hz' := bne_zero_true hz
    go_wp2
    go_ret
    exact ⟨ret_int (by unfold Lat.pairE; rw [← HC.out, if_neg hz]), HB.out⟩

set_option maxHeartbeats 2000000 in
set_option maxRecDepth 100000 in
theorem join_err (w : World) (vn vl : Value) (ss : List ByteArray) (G : Nat) (L : Nat → Nat) (Z : Nat → Nat → Bool) (a b : Int) (hS : Strs w vn ss) (hR : Rag w vl G L Z) (hE : Lat.pairE ss G L Z a b ≠ 0) :
    Calls Try.prog 14 #[.agg #[vn, vl], .int .i64 a, .int .i64 b] w fun e w' => e = .returned (.tuple #[.int .i64 0, .int .i64 (Lat.pairE ss G L Z a b)]) ∧ Below w.heap.size w w' := by
  have HS := hide hS
  have HR := hide hR
  have hz' := bne_zero_true hE
  clear hS hR hE
  go_enter Try.func14, Try.ntmps14
  go_wp2_with fail
  refine (checkPair_any _ vn vl ss G L Z a b (HS.out.below ((Below.refl _ _).alloc (Nat.le_refl _) _)) (HR.out.below ((Below.refl _ _).alloc (Nat.le_refl _) _))).mono ?_
  rintro e w1 ⟨rfl, hb1⟩
  have HB := hide (up1 hb1)
  clear hb1
  go_wp2
  go_ret2
  exact ⟨rfl, HB.out⟩

set_option maxHeartbeats 2000000 in
set_option maxRecDepth 100000 in
theorem meet_err (w : World) (vn vl : Value) (ss : List ByteArray) (G : Nat) (L : Nat → Nat) (Z : Nat → Nat → Bool) (a b : Int) (hS : Strs w vn ss) (hR : Rag w vl G L Z) (hE : Lat.pairE ss G L Z a b ≠ 0) :
    Calls Try.prog 15 #[.agg #[vn, vl], .int .i64 a, .int .i64 b] w fun e w' => e = .returned (.tuple #[.int .i64 0, .int .i64 (Lat.pairE ss G L Z a b)]) ∧ Below w.heap.size w w' := by
  have HS := hide hS
  have HR := hide hR
  have hz' := bne_zero_true hE
  clear hS hR hE
  go_enter Try.func15, Try.ntmps15
  go_wp2_with fail
  refine (checkPair_any _ vn vl ss G L Z a b (HS.out.below ((Below.refl _ _).alloc (Nat.le_refl _) _)) (HR.out.below ((Below.refl _ _).alloc (Nat.le_refl _) _))).mono ?_
  rintro e w1 ⟨rfl, hb1⟩
  have HB := hide (up1 hb1)
  clear hb1
  go_wp2
  go_ret2
  exact ⟨rfl, HB.out⟩

theorem pair_ok {ss : List ByteArray} {G : Nat} {L : Nat → Nat} {Z : Nat → Nat → Bool} {a b : Int} (h : Lat.pairE ss G L Z a b = 0) :
    Lat.Ok ss G L Z ∧ ∃ i j : Nat, a = i ∧ b = j ∧ i < ss.length ∧ j < ss.length := by
  unfold Lat.pairE at h
  by_cases hc : Lat.checkE ss G L Z = 0
  · rw [if_pos hc] at h
    refine ⟨Lat.ok_of hc, ?_⟩
    by_cases hi : (Lat.inB ss.length a && Lat.inB ss.length b) = true
    · simp only [Lat.inB, Bool.and_eq_true, decide_eq_true_eq] at hi
      exact ⟨a.toNat, b.toNat, by omega, by omega, by omega, by omega⟩
    · rw [if_neg hi] at h; omega
  · rw [if_neg hc] at h; exact absurd h hc

set_option maxHeartbeats 2000000 in
set_option maxRecDepth 100000 in
theorem join_ok (w : World) (vn vl : Value) (ss : List ByteArray) (G : Nat) (L : Nat → Nat) (Z : Nat → Nat → Bool) (i j : Nat) (hS : Strs w vn ss) (hR : Rag w vl G L Z) (hE : Lat.pairE ss G L Z i j = 0) :
    Calls Try.prog 14 #[.agg #[vn, vl], .int .i64 i, .int .i64 j] w fun e w' => e = .returned (.tuple #[.int .i64 (Lat.joinN Z ss.length i j : Nat), .int .i64 (Lat.joinE Z ss.length i j)]) ∧ Below w.heap.size w w' := by
  have HS := hide hS
  have HR := hide hR
  obtain ⟨hO, i', j', hi, hj, hi', hj'⟩ := pair_ok hE
  have hi'' : i < ss.length := by omega
  have hj'' : j < ss.length := by omega
  clear hS hR hi hj hi' hj'
  have HO := hide hO
  have h6 := hO.six
  clear hO
  go_enter Try.func14, Try.ntmps14
  go_wp2_with fail
  refine (checkPair_any _ vn vl ss G L Z i j (HS.out.below ((Below.refl _ _).alloc (Nat.le_refl _) _)) (HR.out.below ((Below.refl _ _).alloc (Nat.le_refl _) _))).mono ?_
  rintro e w1 ⟨rfl, hb1⟩
  have q1 := cellUp (cellBox1 w vn vl 25) hb1
  have HB := hide (up1 hb1)
  clear hb1
  rw [hE]
  have HG := hide (rag_grid (HR.out.below HB.out) HO.out.pos HO.out.square)
  clear hE
  go_wp2_with fail
  refine (joined_any _ vl ss.length i j Z HG.out h6 hi'' hj'').mono ?_
  rintro e w2 ⟨rfl, hw⟩
  subst hw
  go_wp2
  go_ret2
  exact ⟨rfl, HB.out⟩

set_option maxHeartbeats 2000000 in
set_option maxRecDepth 100000 in
theorem meet_ok (w : World) (vn vl : Value) (ss : List ByteArray) (G : Nat) (L : Nat → Nat) (Z : Nat → Nat → Bool) (i j : Nat) (hS : Strs w vn ss) (hR : Rag w vl G L Z) (hE : Lat.pairE ss G L Z i j = 0) :
    Calls Try.prog 15 #[.agg #[vn, vl], .int .i64 i, .int .i64 j] w fun e w' => e = .returned (.tuple #[.int .i64 (Lat.joinN (Lat.tr Z) ss.length i j : Nat), .int .i64 (Lat.joinE (Lat.tr Z) ss.length i j)]) ∧ Below w.heap.size w w' := by
  have HS := hide hS
  have HR := hide hR
  obtain ⟨hO, i', j', hi, hj, hi', hj'⟩ := pair_ok hE
  have hi'' : i < ss.length := by omega
  have hj'' : j < ss.length := by omega
  clear hS hR hi hj hi' hj'
  have HO := hide hO
  have h6 := hO.six
  clear hO
  go_enter Try.func15, Try.ntmps15
  go_wp2_with fail
  refine (checkPair_any _ vn vl ss G L Z i j (HS.out.below ((Below.refl _ _).alloc (Nat.le_refl _) _)) (HR.out.below ((Below.refl _ _).alloc (Nat.le_refl _) _))).mono ?_
  rintro e w1 ⟨rfl, hb1⟩
  have q1 := cellUp (cellBox1 w vn vl 25) hb1
  have HB := hide (up1 hb1)
  clear hb1
  rw [hE]
  have HG := hide (rag_grid (HR.out.below HB.out) HO.out.pos HO.out.square)
  clear hE
  go_wp2_with fail
  refine (turned_any _ vl ss.length Z HG.out h6).mono ?_
  rintro e w2 ⟨v', rfl, hG2, hb2⟩
  have HG2 := hide hG2
  have HB2 := hide (up HB.out hb2)
  clear hG2 hb2
  go_wp2_with fail
  refine (joined_any _ v' ss.length i j (Lat.tr Z) HG2.out h6 hi'' hj'').mono ?_
  rintro e w3 ⟨rfl, hw⟩
  subst hw
  go_wp2
  go_ret2
  exact ⟨rfl, HB2.out⟩

set_option maxHeartbeats 2000000 in
set_option maxRecDepth 100000 in
theorem ends_err (w : World) (vn vl : Value) (ss : List ByteArray) (G : Nat) (L : Nat → Nat) (Z : Nat → Nat → Bool) (hS : Strs w vn ss) (hR : Rag w vl G L Z) (hE : Lat.checkE ss G L Z ≠ 0) :
    Calls Try.prog 16 #[.agg #[vn, vl]] w fun e w' => e = .returned (.tuple #[.int .i64 0, .int .i64 0, .int .i64 (Lat.checkE ss G L Z)]) ∧ Below w.heap.size w w' := by
  have HS := hide hS
  have HR := hide hR
  have hz' := bne_zero_true hE
  clear hS hR hE
  go_enter Try.func16, Try.ntmps16
  go_wp2_with fail
  refine (check_any _ vn vl ss G L Z (HS.out.below ((Below.refl _ _).alloc (Nat.le_refl _) _)) (HR.out.below ((Below.refl _ _).alloc (Nat.le_refl _) _))).mono ?_
  rintro e w1 ⟨rfl, hb1⟩
  have HB := hide (up1 hb1)
  clear hb1
  go_wp2
  go_ret3
  exact ⟨rfl, HB.out⟩

theorem Grid.drew {w : World} {v : Value} {n : Nat} {Z : Nat → Nat → Bool} (h : Grid w v n Z) : Grid w.drew v n Z := h.below (Below.refl _ _).drew

set_option maxHeartbeats 2000000 in
set_option maxRecDepth 100000 in
theorem ends_ok (w : World) (vn vl : Value) (ss : List ByteArray) (G : Nat) (L : Nat → Nat) (Z : Nat → Nat → Bool) (hS : Strs w vn ss) (hR : Rag w vl G L Z) (hE : Lat.checkE ss G L Z = 0) :
    Calls Try.prog 16 #[.agg #[vn, vl]] w fun e w' => e = .returned (.tuple #[.int .i64 (Lat.lowN Z ss.length : Nat), .int .i64 (Lat.lowN (Lat.tr Z) ss.length : Nat), .int .i64 0]) ∧ Below w.heap.size w w' := by
  have HS := hide hS
  have HR := hide hR
  have hO := Lat.ok_of hE
  have HO := hide hO
  have h6 := hO.six
  clear hS hR hO
  go_enter Try.func16, Try.ntmps16
  go_wp2_with fail
  refine (check_any _ vn vl ss G L Z (HS.out.below ((Below.refl _ _).alloc (Nat.le_refl _) _)) (HR.out.below ((Below.refl _ _).alloc (Nat.le_refl _) _))).mono ?_
  rintro e w1 ⟨rfl, hb1⟩
  rw [hE]
  have q1 := cellUp (cellBox1 w vn vl 25) hb1
  have HB := hide (up1 hb1)
  have HG := hide (rag_grid (HR.out.below HB.out) HO.out.pos HO.out.square)
  clear hb1 hE
  go_wp2_with fail
  go_region_with (first
    | (go_at_call_of 43 (vl); refine (lowest_any _ vl ss.length Z ?_ h6).mono ?_; (first | exact HG.out | exact HG.out.drew | exact (HG.out.drew.below hb2)); rintro e w' ⟨rfl, hw'⟩; subst hw')
    | (go_at_call 42; refine (turned_any _ vl ss.length Z ?_ h6).mono ?_; (first | exact HG.out | exact HG.out.drew); rintro e w2 ⟨v', rfl, hG2, hb2⟩; have q2 := cellUp (a := ⟨w.heap.size, 1, none⟩) (v := vl) (by exact q1) hb2; have HG2 := hide hG2; clear hG2)
    | (go_at_call 43; refine (lowest_any _ v' ss.length (Lat.tr Z) ?_ h6).mono ?_; (exact HG2.out); rintro e w' ⟨rfl, hw'⟩; subst hw'))
  all_goals
    go_wp2
    go_ret3
    exact ⟨rfl, up HB.out.drew hb2⟩

end Go.Proofs.Ytmhcameodlhloaa
