/- The walk over LatticeSays, where the lattice is a right one and both numbers are levels. -/
import Derived.Test.YtnheahdcfadclaaSB
namespace Go.Proofs.Ytnheahdcfadclaa
open Go.RowKit

/-- What is answered of two levels, by the program and by the document: jn their join, mn their meet. -/
structure Both (vn vl : Value) (ss : List ByteArray) (G : Nat) (L : Nat → Nat) (Z : Nat → Nat → Bool) (i j jn mn : Nat) : Prop where
  rj : ∀ w, Strs w vn ss → Rag w vl G L Z → Calls Try.prog 10 #[.agg #[vn, vl], .int .i64 i, .int .i64 j] w fun e w' => e = .returned (.int .i64 jn) ∧ Below w.heap.size w w'
  rm : ∀ w, Strs w vn ss → Rag w vl G L Z → Calls Try.prog 11 #[.agg #[vn, vl], .int .i64 i, .int .i64 j] w fun e w' => e = .returned (.int .i64 mn) ∧ Below w.heap.size w w'
  lj : ∀ w, Strs w vn ss → Rag w vl G L Z → Calls Try.prog 13 #[.agg #[vn, vl], .int .i64 i, .int .i64 j] w fun e w' => e = .returned (.tuple #[.int .i64 jn, .int .i64 0]) ∧ Below w.heap.size w w'
  lm : ∀ w, Strs w vn ss → Rag w vl G L Z → Calls Try.prog 14 #[.agg #[vn, vl], .int .i64 i, .int .i64 j] w fun e w' => e = .returned (.tuple #[.int .i64 mn, .int .i64 0]) ∧ Below w.heap.size w w'

theorem both_of {ss : List ByteArray} {G : Nat} {L : Nat → Nat} {Z : Nat → Nat → Bool} (vl : Value) (ad : Option Addr) (cap : Nat) (hE : Lat.checkE ss G L Z = 0) (i j : Nat) (hi : i < ss.length) (hj : j < ss.length) :
    Both (.slice ad ss.length cap) vl ss G L Z i j (Lat.joinN Z ss.length i j) (Lat.joinN (Lat.tr Z) ss.length i j) := by
  have hO := Lat.ok_of hE
  have hJ := Lat.joins_of (Lat.ord_of hO.order) hO.joins
  have hM := Lat.joins_of (Lat.ord_of hO.order).turn hO.meets
  have hP : Lat.pairE ss G L Z i j = 0 := by
    unfold Lat.pairE
    rw [if_pos hE, if_pos (by simp [Lat.inB, hi, hj])]
  refine ⟨fun w _ h2 => ?_, fun w _ h2 => ?_, fun w h1 h2 => ?_, fun w h1 h2 => ?_⟩
  · have := rjoin_any w ad vl ss.length cap i j Z (rag_grid h2 hO.pos hO.square) hO.six hi hj
    rw [Lat.joinI_of hJ hi hj] at this; exact this
  · have := rmeet_any w ad vl ss.length cap i j Z (rag_grid h2 hO.pos hO.square) hO.six hi hj
    rw [Lat.joinI_of hM hi hj] at this; exact this
  · have := join_ok w _ vl ss G L Z i j h1 h2 hP
    rw [hJ.err hi hj] at this; exact this
  · have := meet_ok w _ vl ss G L Z i j h1 h2 hP
    rw [hM.err hi hj] at this; exact this

set_option maxHeartbeats 4000000 in
set_option maxRecDepth 100000 in
theorem says_in (w : World) (ad : Option Addr) (cap : Nat) (vl : Value) (ss : List ByteArray) (G : Nat) (L : Nat → Nat) (Z : Nat → Nat → Bool) (t : ByteArray) (n low high : Nat) (idx fv fe : Int) (i j jn mn : Nat) (hn0 : 0 < n) (hn : n ≤ 6)
    (hS : Strs w (.slice ad n cap) ss) (hR : Rag w vl G L Z) (hK : Right (.slice ad n cap) vl ss G L Z t n low high idx fv fe) (hj : Both (.slice ad n cap) vl ss G L Z i j jn mn) (hi : i < n) (hjn : j < n) (hf : (idx < 0 ∧ fv = 0 ∧ fe = 4) ∨ (¬ idx < 0 ∧ fv = idx ∧ fe = 0)) :
    Calls Try.prog 3 #[.agg #[.slice ad n cap, vl], .string t, .int .i64 i, .int .i64 j] w fun e w' => e = .returned (.bool true) ∧ Below w.heap.size w w' := by
  have HS := hide hS
  have HR := hide hR
  have HK := hide hK
  have HJ := hide hj
  have hia : Lat.inB n i = true := by simp [Lat.inB, hi]
  have hib : Lat.inB n j = true := by simp [Lat.inB, hjn]
  clear hS hR hK hj
  have HF := hide hf
  clear hf
  go_enter Try.func3, Try.ntmps3
  go_wp2_with fail
  refine (HK.out.rl _ (HS.out.below (boxBelow w _)) (HR.out.below (boxBelow w _))).mono ?_
  rintro e w1 ⟨rfl, hb1⟩
  have q0 := cellUp (cellBox0 w (.slice ad n cap) vl 25) hb1
  have q1 := cellUp (cellBox1 w (.slice ad n cap) vl 25) hb1
  have HB1 := hide (up1 hb1)
  clear hb1
  go_wp2_with fail
  refine (HK.out.re _ (HS.out.below HB1.out) (HR.out.below HB1.out)).mono ?_
  rintro e w2 ⟨rfl, hb2⟩
  replace q0 := cellUp q0 hb2
  replace q1 := cellUp q1 hb2
  have HB2 := hide (up HB1.out hb2)
  clear hb2 HB1
  go_wp2_with fail
  refine (HK.out.ri _ (HS.out.below HB2.out)).mono ?_
  rintro e w3 ⟨rfl, hb3⟩
  replace q0 := cellUp q0 hb3
  replace q1 := cellUp q1 hb3
  have HB3 := hide (up HB2.out hb3)
  clear hb3 HB2
  rcases HF.out with ⟨hi, hfv, hfe⟩ | ⟨hi, hfv, hfe⟩
  all_goals
    have HV := hide hfv
    have HEV := hide hfe
    clear hfv hfe HF
    go_wp2_with fail
    refine (in_any _ _ _ _).mono ?_
    rintro e w4 ⟨rfl, hw⟩
    subst hw
    rw [in_eq, hia]
    go_wp2_with fail
    refine (in_any _ _ _ _).mono ?_
    rintro e w4 ⟨rfl, hw⟩
    subst hw
    rw [in_eq, hib]
    generalize w4 = wS at *
    have HF2 : Hid (∀ wx, Hid (Below wS.heap.size wS wx) → Hid (Below wS.heap.size wS wx) ∧ wx.cell? ⟨w.heap.size, 0, none⟩ = some (.slice ad n cap) ∧ wx.cell? ⟨w.heap.size, 1, none⟩ = some vl) :=
      fun wx h => ⟨h, cellUp q0 h.out, cellUp q1 h.out⟩
    have H00 : Hid (Below wS.heap.size wS wS) := hide (Below.refl _ _)
    have HSS := hide (HS.out.below HB3.out)
    have HRS := hide (HR.out.below HB3.out)
    clear q0 q1
    go_wp2_with fail
    go_region_held3 (fun wx => Hid (Below wS.heap.size wS wx) ∧ wx.cell? ⟨w.heap.size, 0, none⟩ = some (.slice ad n cap) ∧ wx.cell? ⟨w.heap.size, 1, none⟩ = some vl)
      (first | exact HF2.out _ HW31 | exact HF2.out _ HW30 | exact HF2.out _ (hide H00.out.drew))
      (first
        | (go_at_call 10; refine (HJ.out.rj _ ?_ ?_).mono ?_; (exact HSS.out.below H00.out.drew); (exact HRS.out.below H00.out.drew); rintro e w30 ⟨rfl, hb30⟩; have HW30 := hide (up H00.out.drew hb30); clear hb30)
        | (go_at_call 11; refine (HJ.out.rm _ ?_ ?_).mono ?_; (exact HSS.out.below HW30.out); (exact HRS.out.below HW30.out); rintro e w31 ⟨rfl, hb31⟩; have HW31 := hide (up HW30.out hb31); clear hb31))
    all_goals
      have q0 := (HF2.out _ HW31).2.1
      have q1 := (HF2.out _ HW31).2.2
      have HB4 := hide (up HB3.out HW31.out)
      clear HB3 HW30 HSS HRS HF2 H00
      go_wp2_with fail
      refine (HK.out.lf _ (HS.out.below HB4.out) (HR.out.below HB4.out)).mono ?_
      rintro e w5 ⟨rfl, hb5⟩
      rw [HV.out, HEV.out]
      replace q0 := cellUp q0 hb5
      replace q1 := cellUp q1 hb5
      have HB5 := hide (up HB4.out hb5)
      clear hb5 HB4 HW31
      go_wp2_with fail
      refine (HJ.out.lj _ (HS.out.below HB5.out) (HR.out.below HB5.out)).mono ?_
      rintro e w6 ⟨rfl, hb6⟩
      replace q0 := cellUp q0 hb6
      replace q1 := cellUp q1 hb6
      have HB6 := hide (up HB5.out hb6)
      clear hb6 HB5
      go_wp2_with fail
      refine (HJ.out.lm _ (HS.out.below HB6.out) (HR.out.below HB6.out)).mono ?_
      rintro e w7 ⟨rfl, hb7⟩
      replace q0 := cellUp q0 hb7
      replace q1 := cellUp q1 hb7
      have HB7 := hide (up HB6.out hb7)
      clear hb7 HB6
      go_wp2_with fail
      refine (HK.out.le _ (HS.out.below HB7.out) (HR.out.below HB7.out)).mono ?_
      rintro e w8 ⟨rfl, hb8⟩
      replace q0 := cellUp q0 hb8
      replace q1 := cellUp q1 hb8
      have HB8 := hide (up HB7.out hb8)
      clear hb8 HB7
      go_wp2_with fail
      refine (HK.out.lc _ (HS.out.below HB8.out) (HR.out.below HB8.out)).mono ?_
      rintro e w9 ⟨rfl, hb9⟩
      have HB9 := hide (up HB8.out hb9)
      clear hb9 HB8
      go_wp2
      go_ret
      exact ⟨rfl, HB9.out⟩

end Go.Proofs.Ytnheahdcfadclaa
