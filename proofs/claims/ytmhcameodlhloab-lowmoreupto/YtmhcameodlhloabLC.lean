/- Walks over package lattice, third part: isSquare, isLevel, isName. -/
import Derived.Test.YtmhcameodlhloabLB
namespace Go.Proofs.Ytmhcameodlhloab
open Go.RowKit

namespace Lat
def squareP (L : Nat → Nat) (n r : Nat) : Bool := L r == n
def squareB (G : Nat) (L : Nat → Nat) (n : Nat) : Bool := G == n && (List.range G).all (squareP L n)
end Lat


set_option maxHeartbeats 1000000 in
theorem isSquare_any (w : World) (v : Value) (G n : Nat) (L : Nat → Nat) (Z : Nat → Nat → Bool) (hR : Rag w v G L Z) (hn : n ≤ 6) :
    Calls Try.prog 38 #[v, .int .i64 n] w fun e w' => e = .returned (.bool (Lat.squareB G L n)) ∧ w' = w := by
  obtain ⟨ga, gb, go, gc, A, RB, RO, C, rfl, hg, hGm, hLm, h1, h2⟩ := hR
  clear h2
  by_cases hGn : G = n
  · subst hGn
    have HF : Hid (Lat.squareB G L G = (List.range G).all (Lat.squareP L G)) := by
      show Lat.squareB G L G = _
      unfold Lat.squareB; simp
    go_enter Try.func38, Try.ntmps38
    go_wp2
    go_loop [13] (fun i => ∃ k : Nat, k ≤ G ∧ i = .int .i64 k ∧ ∀ d, d < k → Lat.squareP L G d = true) (fun i => G - (intOf i).toNat)
    case atStart => exact ⟨0, Nat.zero_le _, rfl, fun d hd => absurd hd (Nat.not_lt_zero _)⟩
    case round =>
      obtain ⟨k, hk, rfl, hall⟩ := hrel
      have HA : Hid (∀ d, d < k → Lat.squareP L G d = true) := hall
      clear hall
      by_cases hlt : k < G
      · obtain rfl := hg (by omega)
        have ra := h1 k hlt
        have rl := hLm k hlt
        by_cases hs : L k = G
        · have hs' : ((L k : Int) != (G : Int)) = false := by rw [nat_bne]; simp [hs]
          have HS : Hid (L k = G) := hs
          clear hs
          go_wp2
          go_round
          case rel => exact ⟨k + 1, by omega, by go_num, fun d hd => by
              by_cases e : d = k
              · subst e; simp [Lat.squareP, HS.out]
              · exact HA.out d (by omega)⟩
          case measure => simp [intOf]; omega
        · have hs' : ((L k : Int) != (G : Int)) = true := by rw [nat_bne]; simp [hs]
          have HS : Hid (¬ L k = G) := hs
          clear hs
          go_wp2
          go_ret
          exact ⟨ret_bool (by rw [HF.out]; exact (Lat.all_false hlt (by simp [Lat.squareP, HS.out])).symm), rfl⟩
      · go_wp2
        go_ret
        exact ⟨ret_bool (by rw [HF.out]; exact (Lat.all_true (fun d hd => HA.out d (by omega))).symm), rfl⟩
  · have hs' : ((G : Int) != (n : Int)) = true := by rw [nat_bne]; simp [hGn]
    have HS : Hid (¬ G = n) := hGn
    clear hGn
    go_enter Try.func38, Try.ntmps38
    go_wp2
    go_ret
    exact ⟨ret_bool (by simp [Lat.squareB, HS.out]), rfl⟩

theorem isLevel_any (w : World) (va : Option Addr) (vl : Value) (n cap : Nat) (a : Int) :
    Calls Try.prog 62 #[.agg #[.slice va n cap, vl], .int .i64 a] w fun e w' => e = .returned (.bool (decide (0 ≤ a) && decide (a < n))) ∧ Below w.heap.size w w' := by
  by_cases h0 : 0 ≤ a
  · by_cases h1 : a < n
    · go_enter Try.func62, Try.ntmps62
      go_wp2
      go_ret
      exact ⟨ret_bool (by simp [h0, h1]), (Below.refl _ _).alloc (Nat.le_refl _) _⟩
    · go_enter Try.func62, Try.ntmps62
      go_wp2
      go_ret
      exact ⟨ret_bool (by simp [h1]), (Below.refl _ _).alloc (Nat.le_refl _) _⟩
  · go_enter Try.func62, Try.ntmps62
    go_wp2
    go_ret
    exact ⟨ret_bool (by rw [decide_eq_false (by omega : ¬ 0 ≤ a)]; rfl), (Below.refl _ _).alloc (Nat.le_refl _) _⟩


set_option maxHeartbeats 1000000 in
theorem lisName_any (w : World) (s : ByteArray) (hs : s.size ≤ maxLen) :
    Calls Try.prog 65 #[.string s] w fun e w' => e = .returned (.bool (Lat.nameB s.data.toList)) ∧ w' = w := by
  unfold maxLen at hs
  by_cases h1 : s.size < 1
  · have HF : Hid (Lat.nameB s.data.toList = false) := by
      show Lat.nameB s.data.toList = false
      unfold Lat.nameB; rw [size_list]; simp; omega
    go_enter Try.func65, Try.ntmps65
    go_wp2
    go_ret
    exact ⟨ret_bool HF.out.symm, rfl⟩
  · by_cases h8 : 8 < s.size
    · have HF : Hid (Lat.nameB s.data.toList = false) := by
        show Lat.nameB s.data.toList = false
        unfold Lat.nameB; rw [size_list]; simp; omega
      go_enter Try.func65, Try.ntmps65
      go_wp2
      go_ret
      exact ⟨ret_bool HF.out.symm, rfl⟩
    · have HF : Hid (Lat.nameB s.data.toList = s.data.toList.all Lat.letterB) := by
        show Lat.nameB s.data.toList = _
        unfold Lat.nameB; rw [size_list]
        rw [decide_eq_true (by omega : 1 ≤ s.size), decide_eq_true (by omega : s.size ≤ 8)]; rfl
      go_enter Try.func65, Try.ntmps65
      go_wp2
      go_loop [14] (fun i => ∃ k : Nat, k ≤ s.size ∧ i = .int .i64 k ∧ ∀ j (hj : j < s.size), j < k → Lat.letterB s[j] = true) (fun i => s.size - (intOf i).toNat)
      case atStart => exact ⟨0, Nat.zero_le _, rfl, fun j hj hd => absurd hd (Nat.not_lt_zero _)⟩
      case round =>
        obtain ⟨k, hk, rfl, hall⟩ := hrel
        have HA : Hid (∀ j (hj : j < s.size), j < k → Lat.letterB s[j] = true) := hall
        clear hall
        by_cases hlt : k < s.size
        · go_wp2
          · go_ret
            exact ⟨ret_bool (by rw [HF.out, letters_not s k hlt (by simp [Lat.letterB]; omega)]), rfl⟩
          · go_round
            case rel => exact ⟨k + 1, by omega, by go_num, fun j hj hd => by
                by_cases e : j = k
                · subst e; simp [Lat.letterB]; omega
                · exact HA.out j hj (by omega)⟩
            case measure => simp [intOf]; omega
          · go_ret
            exact ⟨ret_bool (by rw [HF.out, letters_not s k hlt (by simp [Lat.letterB]; omega)]), rfl⟩
        · go_wp2
          go_ret
          exact ⟨ret_bool (by rw [HF.out, letters_all s (fun j hj => HA.out j hj (by omega))]), rfl⟩

end Go.Proofs.Ytmhcameodlhloab
