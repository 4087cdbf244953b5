/- Walks over package lattice, sixth part: Check, checkPair, Join, Meet, Ends: each answers what plain functions of the names and the table say. -/
import Derived.Test.YtmhcameodlhloaaLE
import Derived.Deep.RegionWith
namespace Go.Proofs.Ytmhcameodlhloaa
open Go.RowKit

namespace Lat
/-- What Check answers. -/
def checkE (ss : List ByteArray) (G : Nat) (L : Nat → Nat) (Z : Nat → Nat → Bool) : Int :=
  if namesB ss = false then 1 else if 6 < ss.length then 2 else if squareB G L ss.length = false then 5 else if orderB Z ss.length = false then 5
  else if joinsB Z ss.length = false then 5 else if joinsB (tr Z) ss.length = false then 5 else 0
end Lat


theorem rag_grid {w : World} {v : Value} {G n : Nat} {L : Nat → Nat} {Z : Nat → Nat → Bool} (h : Rag w v G L Z) (hn : 0 < n) (hs : Lat.squareB G L n = true) : Grid w v n Z := by
  unfold Lat.squareB at hs
  obtain ⟨h1, h2⟩ := Bool.and_eq_true_iff.1 hs
  have e : G = n := by simpa using h1
  subst e
  exact h.grid hn (fun r hr => by simpa [Lat.squareP] using Lat.all_get h2 hr)

theorem names_pos {ss : List ByteArray} (h : Lat.namesB ss = true) : 0 < ss.length := by
  unfold Lat.namesB at h
  simpa using (Bool.and_eq_true_iff.1 h).2

set_option maxHeartbeats 2000000 in
set_option maxRecDepth 100000 in
theorem check_any (w : World) (vn vl : Value) (ss : List ByteArray) (G : Nat) (L : Nat → Nat) (Z : Nat → Nat → Bool) (hS : Strs w vn ss) (hR : Rag w vl G L Z) :
    Calls Try.prog 17 #[.agg #[vn, vl]] w fun e w' => e = .returned (.int .i64 (Lat.checkE ss G L Z)) ∧ Below w.heap.size w w' := by
  have HS := hide hS
  have HR := hide hR
  obtain ⟨a, b, off, cap, rfl, ha, hl, hs, h1⟩ := hS
  clear ha hs h1 hR
  obtain ⟨n, hlen⟩ : ∃ n, n = ss.length := ⟨_, rfl⟩
  have HE : Hid (Lat.checkE ss G L Z = if Lat.namesB ss = false then 1 else if 6 < n then 2 else if Lat.squareB G L n = false then 5 else if Lat.orderB Z n = false then 5
    else if Lat.joinsB Z n = false then 5 else if Lat.joinsB (Lat.tr Z) n = false then 5 else 0) := by rw [hlen]; rfl
  have HP : Hid (Lat.namesB ss = true → 0 < n) := by rw [hlen]; exact names_pos
  rw [← hlen] at hl HS ⊢
  clear hlen
  go_enter Try.func17, Try.ntmps17
  go_wp2_with fail
  refine (lareNames_any _ _ ss (HS.out.below ((Below.refl _ _).alloc (Nat.le_refl _) _))).mono ?_
  rintro e w1 ⟨rfl, hb1⟩
  have q0 := cellUp (cellBox0 w (.slice a n cap) vl 25) hb1
  have q1 := cellUp (cellBox1 w (.slice a n cap) vl 25) hb1
  have HB := hide (up1 hb1)
  clear hb1
  cases zn : Lat.namesB ss
  · go_wp2
    go_ret
    exact ⟨ret_int (by rw [HE.out, if_pos zn]), HB.out⟩
  · have hpos := HP.out zn
    by_cases h6 : 6 < n
    · go_wp2
      go_ret
      exact ⟨ret_int (by rw [HE.out, zn, if_neg (by simp), if_pos h6]), HB.out⟩
    · have HR1 := hide (HR.out.below HB.out)
      go_wp2_with fail
      refine (isSquare_any w1 vl G n L Z HR1.out (by omega)).mono ?_
      rintro e w' ⟨rfl, hw⟩
      subst hw
      cases zs : Lat.squareB G L n
      · go_wp2
        go_ret
        exact ⟨ret_int (by rw [HE.out, zn, if_neg (by simp), if_neg h6, if_pos zs]), HB.out⟩
      · have HG := hide (rag_grid HR1.out hpos zs)
        go_wp2_with fail
        refine (isOrder_any w' vl n Z HG.out (by omega)).mono ?_
        rintro e w'' ⟨rfl, hw⟩
        subst hw
        cases zo : Lat.orderB Z n
        · go_wp2
          go_ret
          exact ⟨ret_int (by rw [HE.out, zn, if_neg (by simp), if_neg h6, zs, if_neg (by simp), if_pos zo]), HB.out⟩
        · go_wp2_with fail
          refine (hasJoins_any w'' vl n Z HG.out (by omega)).mono ?_
          rintro e w3 ⟨rfl, hw⟩
          subst hw
          cases zj : Lat.joinsB Z n
          · go_wp2
            go_ret
            exact ⟨ret_int (by rw [HE.out, zn, if_neg (by simp), if_neg h6, zs, if_neg (by simp), zo, if_neg (by simp), if_pos zj]), HB.out⟩
          · go_wp2_with fail
            refine (turned_any w3 vl n Z HG.out (by omega)).mono ?_
            rintro e w4 ⟨v', rfl, hG4, hb4⟩
            have HG4 := hide hG4
            have HB4 := hide (up HB.out hb4)
            clear hG4 hb4
            go_wp2_with fail
            refine (hasJoins_any w4 v' n (Lat.tr Z) HG4.out (by omega)).mono ?_
            rintro e w5 ⟨rfl, hw⟩
            subst hw
            cases zt : Lat.joinsB (Lat.tr Z) n
            · go_wp2
              go_ret
              exact ⟨ret_int (by rw [HE.out, zn, if_neg (by simp), if_neg h6, zs, if_neg (by simp), zo, if_neg (by simp), zj, if_neg (by simp), if_pos zt]), HB4.out⟩
            · go_wp2
              go_ret
              exact ⟨ret_int (by rw [HE.out, zn, if_neg (by simp), if_neg h6, zs, if_neg (by simp), zo, if_neg (by simp), zj, if_neg (by simp), zt, if_neg (by simp)]), HB4.out⟩

end Go.Proofs.Ytmhcameodlhloaa
