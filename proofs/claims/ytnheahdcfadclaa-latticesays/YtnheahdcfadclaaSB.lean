/- The walk over LatticeSays, where the lattice is a right one. -/
import Derived.Test.YtnheahdcfadclaaSA
namespace Go.Proofs.Ytnheahdcfadclaa
open Go.RowKit

theorem in_eq {n : Nat} (a : Int) : (decide ((0 : Int) ≤ a) && decide (a ≤ (n : Int) - 1)) = Lat.inB n a := by
  unfold Lat.inB
  rw [show decide (a ≤ (n : Int) - 1) = decide (a < (n : Int)) from decide_eq_decide.2 (by omega)]

theorem find_cases (ss : List ByteArray) (t : ByteArray) : (Lat.indexI ss t < 0 ∧ Lat.findN ss t = 0 ∧ Lat.findE ss t = 4) ∨ (¬ Lat.indexI ss t < 0 ∧ Lat.findN ss t = Lat.indexI ss t ∧ Lat.findE ss t = 0) := by
  by_cases h : Lat.indexI ss t < 0
  · exact Or.inl ⟨h, by unfold Lat.findN; rw [if_pos h], by unfold Lat.findE; rw [if_pos h]⟩
  · exact Or.inr ⟨h, by unfold Lat.findN; rw [if_neg h], by unfold Lat.findE; rw [if_neg h]⟩

/-- What the calls answer, of a right lattice of n levels; low, high its ends; idx: where the name stands. -/
structure Right (vn vl : Value) (ss : List ByteArray) (G : Nat) (L : Nat → Nat) (Z : Nat → Nat → Bool) (t : ByteArray) (n low high : Nat) (idx fv fe : Int) : Prop where
  rl : ∀ w, Strs w vn ss → Rag w vl G L Z → Calls Try.prog 6 #[.agg #[vn, vl]] w fun e w' => e = .returned (.int .i64 0) ∧ Below w.heap.size w w'
  re : ∀ w, Strs w vn ss → Rag w vl G L Z → Calls Try.prog 7 #[.agg #[vn, vl]] w fun e w' => e = .returned (.tuple #[.int .i64 low, .int .i64 high]) ∧ Below w.heap.size w w'
  ri : ∀ w, Strs w vn ss → Calls Try.prog 8 #[vn, .string t] w fun e w' => e = .returned (.int .i64 idx) ∧ Below w.heap.size w w'
  lf : ∀ w, Strs w vn ss → Rag w vl G L Z → Calls Try.prog 12 #[.agg #[vn, vl], .string t] w fun e w' => e = .returned (.tuple #[.int .i64 fv, .int .i64 fe]) ∧ Below w.heap.size w w'
  le : ∀ w, Strs w vn ss → Rag w vl G L Z → Calls Try.prog 15 #[.agg #[vn, vl]] w fun e w' => e = .returned (.tuple #[.int .i64 low, .int .i64 high, .int .i64 0]) ∧ Below w.heap.size w w'
  lc : ∀ w, Strs w vn ss → Rag w vl G L Z → Calls Try.prog 16 #[.agg #[vn, vl]] w fun e w' => e = .returned (.int .i64 0) ∧ Below w.heap.size w w'

theorem right_of {ss : List ByteArray} {G : Nat} {L : Nat → Nat} {Z : Nat → Nat → Bool} (vl : Value) (ad : Option Addr) (cap : Nat) (t : ByteArray) (hE : Lat.checkE ss G L Z = 0) :
    Right (.slice ad ss.length cap) vl ss G L Z t ss.length (Lat.lowN Z ss.length) (Lat.lowN (Lat.tr Z) ss.length) (Lat.indexI ss t) (Lat.findN ss t) (Lat.findE ss t) := by
  have hO := Lat.ok_of hE
  have hJ := Lat.joins_of (Lat.ord_of hO.order) hO.joins
  have hM := Lat.joins_of (Lat.ord_of hO.order).turn hO.meets
  refine ⟨fun w h1 h2 => ?_, fun w _ h2 => ?_, fun w h1 => ?_, fun w h1 h2 => ?_, fun w h1 h2 => ?_, fun w h1 h2 => ?_⟩
  · have := rlattice_any w _ vl ss G L Z h1 h2
    rw [hE] at this; exact this
  · exact rends_any w ad vl ss.length cap Z (rag_grid h2 hO.pos hO.square) hO.pos hO.six hJ hM
  · refine (indexS_any w _ ss t h1).mono ?_
    rintro e w' ⟨rfl, rfl⟩
    exact ⟨rfl, Below.refl _ _⟩
  · exact find_ok w _ vl ss G L Z t h1 h2 hE
  · exact ends_ok w _ vl ss G L Z h1 h2 hE
  · have := check_any w _ vl ss G L Z h1 h2
    rw [hE] at this; exact this

theorem pairE_out {ss : List ByteArray} {G : Nat} {L : Nat → Nat} {Z : Nat → Nat → Bool} (h : Lat.checkE ss G L Z = 0) (a b : Int) (hi : (Lat.inB ss.length a && Lat.inB ss.length b) = false) : Lat.pairE ss G L Z a b = 1 := by
  unfold Lat.pairE; rw [if_pos h, if_neg (by simp [hi])]

set_option maxHeartbeats 4000000 in
set_option maxRecDepth 100000 in
theorem says_out (w : World) (ad : Option Addr) (cap : Nat) (vl : Value) (ss : List ByteArray) (G : Nat) (L : Nat → Nat) (Z : Nat → Nat → Bool) (t : ByteArray) (n low high : Nat) (idx fv fe a b : Int) (hn0 : 0 < n) (hn : n ≤ 6)
    (hS : Strs w (.slice ad n cap) ss) (hR : Rag w vl G L Z) (hK : Right (.slice ad n cap) vl ss G L Z t n low high idx fv fe) (hP : Lat.pairE ss G L Z a b = 1)
    (hab : (Lat.inB n a && Lat.inB n b) = false) (hf : (idx < 0 ∧ fv = 0 ∧ fe = 4) ∨ (¬ idx < 0 ∧ fv = idx ∧ fe = 0)) :
    Calls Try.prog 3 #[.agg #[.slice ad n cap, vl], .string t, .int .i64 a, .int .i64 b] w fun e w' => e = .returned (.bool true) ∧ Below w.heap.size w w' := by
  have HS := hide hS
  have HR := hide hR
  have HK := hide hK
  have HP := hide hP
  clear hS hR hK hP
  have hab' : Lat.inB n a = false ∨ Lat.inB n a = true ∧ Lat.inB n b = false := by
    cases h1 : Lat.inB n a
    · exact Or.inl rfl
    · rw [h1] at hab; exact Or.inr ⟨rfl, by simpa using hab⟩
  have HAB := hide hab'
  have HF := hide hf
  clear hab hab' hf
  go_enter Try.func3, Try.ntmps3
  go_wp2_with fail
  refine (HK.out.rl _ (HS.out.below (boxBelow w _)) (HR.out.below (boxBelow w _))).mono ?_
  rintro e w1 ⟨rfl, hb1⟩
  have q0 := cellUp (cellBox0 w (.slice ad n cap) vl 25) hb1
  have q1 := cellUp (cellBox1 w (.slice ad n cap) vl 25) hb1
  have HB1 := hide (up1 hb1)
  clear hb1
  go_wp2_with fail
  refine (HK.out.re _ (HS.out.below HB1.out) (HR.out.below HB1.out)).mono ?_
  rintro e w2 ⟨rfl, hb2⟩
  replace q0 := cellUp q0 hb2
  replace q1 := cellUp q1 hb2
  have HB2 := hide (up HB1.out hb2)
  clear hb2 HB1
  go_wp2_with fail
  refine (HK.out.ri _ (HS.out.below HB2.out)).mono ?_
  rintro e w3 ⟨rfl, hb3⟩
  replace q0 := cellUp q0 hb3
  replace q1 := cellUp q1 hb3
  have HB3 := hide (up HB2.out hb3)
  clear hb3 HB2
  rcases HF.out with ⟨hi, hfv, hfe⟩ | ⟨hi, hfv, hfe⟩
  all_goals
    have HV := hide hfv
    have HEV := hide hfe
    clear hfv hfe HF
    go_wp2_with fail
    refine (in_any _ _ _ _).mono ?_
    rintro e w4 ⟨rfl, hw⟩
    subst hw
    rw [in_eq]
    rcases HAB.out with ha | ⟨ha, hb⟩
    case' inr =>
      rw [ha]
      go_wp2_with fail
      refine (in_any _ _ _ _).mono ?_
      rintro e w4 ⟨rfl, hw⟩
      subst hw
      rw [in_eq, hb]
    case' inl => rw [ha]
    all_goals
      clear HAB
      go_wp2_with fail
      refine (HK.out.lf _ (HS.out.below HB3.out) (HR.out.below HB3.out)).mono ?_
      rintro e w5 ⟨rfl, hb5⟩
      rw [HV.out, HEV.out]
      replace q0 := cellUp q0 hb5
      replace q1 := cellUp q1 hb5
      have HB5 := hide (up HB3.out hb5)
      clear hb5 HB3
      go_wp2_with fail
      refine (join_err' _ _ vl ss G L Z a b (HS.out.below HB5.out) (HR.out.below HB5.out) 1 HP.out (by decide)).mono ?_
      rintro e w6 ⟨rfl, hb6⟩
      replace q0 := cellUp q0 hb6
      replace q1 := cellUp q1 hb6
      have HB6 := hide (up HB5.out hb6)
      clear hb6 HB5
      go_wp2_with fail
      refine (meet_err' _ _ vl ss G L Z a b (HS.out.below HB6.out) (HR.out.below HB6.out) 1 HP.out (by decide)).mono ?_
      rintro e w7 ⟨rfl, hb7⟩
      replace q0 := cellUp q0 hb7
      replace q1 := cellUp q1 hb7
      have HB7 := hide (up HB6.out hb7)
      clear hb7 HB6
      go_wp2_with fail
      refine (HK.out.le _ (HS.out.below HB7.out) (HR.out.below HB7.out)).mono ?_
      rintro e w8 ⟨rfl, hb8⟩
      replace q0 := cellUp q0 hb8
      replace q1 := cellUp q1 hb8
      have HB8 := hide (up HB7.out hb8)
      clear hb8 HB7
      go_wp2_with fail
      refine (HK.out.lc _ (HS.out.below HB8.out) (HR.out.below HB8.out)).mono ?_
      rintro e w9 ⟨rfl, hb9⟩
      have HB9 := hide (up HB8.out hb9)
      clear hb9 HB8
      go_wp2
      go_ret
      exact ⟨rfl, HB9.out⟩

end Go.Proofs.Ytnheahdcfadclaa
