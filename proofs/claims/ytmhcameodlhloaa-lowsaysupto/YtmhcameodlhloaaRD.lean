/- Walks over package downref, fourth part: Join: the first of those above both that is below them all. -/
import Derived.Test.YtmhcameodlhloaaRC
import Derived.Deep.QuietTactic
import Derived.BigQuiet
namespace Go.Proofs.Ytmhcameodlhloaa
open Go.RowKit

namespace Lat
def joinI (Z : Nat → Nat → Bool) (n a b : Nat) : Int := match joinO Z n a b with | some c => c | none => -1
theorem below_up (Z : Nat → Nat → Bool) (n a b c : Nat) : belowB Z n a b c = (upTo Z a b n).all (Z c) := by
  unfold belowB upTo
  rw [List.all_filter]
  congr 1
  funext d
  cases Z a d <;> cases Z b d <;> simp
theorem joinO_up (Z : Nat → Nat → Bool) (n a b : Nat) : joinO Z n a b = (upTo Z a b n).find? (fun c => (upTo Z a b n).all (Z c)) := by
  unfold joinO
  conv => rhs; unfold upTo
  rw [List.find?_filter]
  congr 1
  funext c
  unfold joinP
  rw [below_up, upTo, Bool.eq_iff_iff]
  simp only [Bool.and_eq_true, decide_eq_true_eq]
theorem joinI_hit (Z : Nat → Nat → Bool) (n a b i : Nat) (hi : i < (upTo Z a b n).length) (h0 : ∀ j, j < i → (upTo Z a b n).all (Z ((upTo Z a b n).getD j 0)) = false) (h1 : (upTo Z a b n).all (Z ((upTo Z a b n).getD i 0)) = true) :
    joinI Z n a b = ((upTo Z a b n).getD i 0 : Nat) := by
  have e : joinO Z n a b = some ((upTo Z a b n).getD i 0) := by
    rw [joinO_up, List.find?_eq_some_iff_getElem]
    refine ⟨h1, i, hi, by simp [List.getD, List.getElem?_eq_getElem hi], fun j hj => ?_⟩
    have := h0 j hj
    simp only [List.getD, List.getElem?_eq_getElem (Nat.lt_trans hj hi), Option.getD_some] at this
    simp [this]
  unfold joinI; rw [e]
theorem joinI_miss {Z : Nat → Nat → Bool} {n a b : Nat} (h0 : ∀ j, j < (upTo Z a b n).length → (upTo Z a b n).all (Z ((upTo Z a b n).getD j 0)) = false) : joinI Z n a b = -1 := by
  have e : joinO Z n a b = none := by
    rw [joinO_up, List.find?_eq_none]
    intro x hx
    obtain ⟨j, hj, rfl⟩ := List.mem_iff_getElem.1 hx
    have := h0 j hj
    simp only [List.getD, List.getElem?_eq_getElem hj, Option.getD_some] at this
    simp [this]
  unfold joinI; rw [e]
theorem upTo_lt {Z : Nat → Nat → Bool} {n a b j : Nat} (hj : j < (upTo Z a b n).length) : (upTo Z a b n).getD j 0 < n := by
  have : (upTo Z a b n).getD j 0 ∈ upTo Z a b n := by
    simp only [List.getD, List.getElem?_eq_getElem hj, Option.getD_some]; exact List.getElem_mem hj
  unfold upTo at this
  exact List.mem_range.1 (List.mem_filter.1 this).1
theorem all_take {U : List Nat} {p : Nat → Bool} {k : Nat} (hk : k < U.length) : (U.take (k + 1)).all p = ((U.take k).all p && p (U.getD k 0)) := by
  rw [List.take_succ_eq_append_getElem hk, List.all_append]
  simp [List.getD, List.getElem?_eq_getElem hk]
end Lat

set_option maxHeartbeats 2000000 in
set_option maxRecDepth 100000 in
theorem rjoin_any (w : World) (ad : Option Addr) (vl : Value) (n cap a b : Nat) (Z : Nat → Nat → Bool) (hG : Grid w vl n Z) (hn : n ≤ 6) (ha : a < n) (hb : b < n) :
    Calls Try.prog 11 #[.agg #[.slice ad n cap, vl], .int .i64 a, .int .i64 b] w fun e w' => e = .returned (.int .i64 (Lat.joinI Z n a b)) ∧ Below w.heap.size w w' := by
  have HG := hide (hG.below (boxBelow w (.cells #[.slice ad n cap, vl] 25)))
  go_enter Try.func11, Try.ntmps11
  go_wp2_with fail
  refine (above_any _ ad vl n cap a b Z HG.out hn ha hb).mono ?_
  rintro e W0 ⟨vu, rfl, hI, hb0⟩
  have q1 := cellUp (cellBox1 w (.slice ad n cap) vl 25) hb0
  have HB0 := hide (up1 hb0)
  obtain ⟨gb, go, gc, RB, RO, C, hvl, h1, h2⟩ := HG.out.below hb0
  rw [hvl] at q1
  obtain ⟨ua, g, uc, hvu, hu0, hu1⟩ := hI
  rw [hvu]
  clear hb0 hG HG hvl hvu
  have HX : ∀ j, j < (Lat.upTo Z a b n).length → (Lat.upTo Z a b n).getD j 0 < n := fun j hj => Lat.upTo_lt hj
  have hJ0 := hide (Lat.joinI_hit Z n a b)
  have hJ1 := hide (@Lat.joinI_miss Z n a b)
  have hm6 := Lat.upTo_le Z a b n
  generalize Lat.upTo Z a b n = U at *
  obtain ⟨m, hm⟩ : ∃ m, m = U.length := ⟨_, rfl⟩
  have HM := hide hm
  rw [← hm] at hu0 hu1 HX hm6 ⊢
  clear hm
  go_wp2
  go_loopw [8] (fun i wr => ∃ k : Nat, k ≤ m ∧ i = .int .i64 k ∧ (∀ j, j < k → U.all (Z (U.getD j 0)) = false) ∧ Below W0.heap.size W0 wr) (fun i _ => m - (intOf i).toNat)
  case atStart => exact ⟨0, Nat.zero_le _, rfl, fun d hd => absurd hd (Nat.not_lt_zero _), Below.refl _ _⟩
  case round =>
    obtain ⟨k, hk, rfl, hall, hnx⟩ := hrel
    have HA := hide hall
    clear hall
    by_cases hlt : k < m
    · obtain rfl := hu0 (by omega)
      obtain ⟨c, hc⟩ : ∃ c, c = U.getD k 0 := ⟨_, rfl⟩
      have hcn : c < n := by rw [hc]; exact HX k hlt
      have HC := hide hc
      have u1 := hu1 k hlt
      rw [← hc] at u1
      clear hc
      have HNX := hide hnx
      clear hnx
      go_wp2
      go_loopw [9, 10] (fun s i wi => ∃ k2 : Nat, k2 ≤ m ∧ i = .int .i64 k2 ∧ s = .bool ((U.take k2).all (Z c)) ∧ Below W0.heap.size W0 wi) (fun _ i _ => m - (intOf i).toNat)
      case atStart => exact ⟨0, Nat.zero_le _, rfl, rfl, HNX.out⟩
      case round =>
        obtain ⟨k2, hk2, rfl, rfl, hnx⟩ := hrel
        by_cases hlt2 : k2 < m
        · obtain ⟨d, hd⟩ : ∃ d, d = U.getD k2 0 := ⟨_, rfl⟩
          have hdn : d < n := by rw [hd]; exact HX k2 hlt2
          have HS : Hid ((U.take (k2 + 1)).all (Z c) = ((U.take k2).all (Z c) && Z c d)) := by
            rw [hd]; exact Lat.all_take (by rw [← HM.out]; exact hlt2)
          have t1 := cellUp q1 hnx
          have t2 := cellUp u1 hnx
          have t3 := cellUp (hu1 k2 hlt2) hnx
          rw [← hd] at t3
          have t4 := cellUp (h1 c hcn) hnx
          have t5 := cellUp (h2 c d hcn hdn) hnx
          have b1 : (0 : Int) ≤ (c : Int) := by omega
          have b2 : (c : Int) < (n : Int) := by omega
          have b3 : (0 : Int) ≤ (d : Int) := by omega
          have b4 : (d : Int) < (n : Int) := by omega
          have b5 : (0 : Int) ≤ (k : Int) := by omega
          have b6 : (k : Int) < (m : Int) := by omega
          have b7 : (0 : Int) ≤ (k2 : Int) := by omega
          have b8 : (k2 : Int) < (m : Int) := by omega
          clear hd h1 h2 hu1 u1 q1 HX
          generalize hL : (U.take k2).all (Z c) = le at *
          clear hL
          cases le
          all_goals
            go_wp2_with fail
            go_quiet (fail)
            go_wp2
            go_roundw
            case rel => exact ⟨k2 + 1, by omega, by go_num, val_bool (by rw [HS.out]; simp), hnx.trans ⟨rfl, rfl, rfl, Nat.le_refl _, fun _ _ => rfl⟩⟩
            case measure => simp [intOf]; omega
        · have e2 : k2 = U.length := by have := HM.out; omega
          have t1 := cellUp u1 hnx
          have e3 : (U.take k2).all (Z c) = U.all (Z (U.getD k 0)) := by rw [e2, List.take_length, HC.out]
          rw [e3]
          cases hle : U.all (Z (U.getD k 0))
          · have HLE := hide hle
            go_wp2
            go_roundw
            case rel => exact ⟨k + 1, by omega, by go_num, fun j hj => by
                by_cases e : j = k
                · subst e; exact HLE.out
                · exact HA.out j (by omega), hnx⟩
            case measure => simp [intOf]; omega
          · have HLE := hide hle
            go_wp2
            go_ret
            exact ⟨ret_int (by rw [hJ0.out k (by rw [← HM.out]; exact hlt) HA.out HLE.out, ← HC.out]), up HB0.out hnx⟩
    · go_wp2
      go_ret
      exact ⟨ret_int (by rw [hJ1.out (fun j hj => HA.out j (by have := HM.out; omega))]), up HB0.out hnx⟩

end Go.Proofs.Ytmhcameodlhloaa
