/- Walks over package downref, first part: In, Name, Index of strings, Find. -/
import Derived.Test.YtmhcameodlhloaaChecked
import Derived.Test.YtmhcameodlhloaaBa
namespace Go.Proofs.Ytmhcameodlhloaa
open Go.RowKit

theorem in_any (w : World) (a lo hi : Int) :
    Calls Try.prog 10 #[.int .i64 a, .int .i64 lo, .int .i64 hi] w fun e w' => e = .returned (.bool (decide (lo ≤ a) && decide (a ≤ hi))) ∧ w' = w := by
  by_cases h0 : lo ≤ a
  · by_cases h1 : a ≤ hi
    · go_enter Try.func10, Try.ntmps10
      go_wp2
      go_ret
      exact ⟨ret_bool (by simp [h0, h1]), rfl⟩
    · go_enter Try.func10, Try.ntmps10
      go_wp2
      go_ret
      exact ⟨ret_bool (by rw [decide_eq_false (by omega : ¬ a ≤ hi)]), rfl⟩
  · go_enter Try.func10, Try.ntmps10
    go_wp2
    go_ret
    exact ⟨ret_bool (by rw [decide_eq_false (by omega : ¬ lo ≤ a)]; rfl), rfl⟩

/-- What Name's ok holds behind k letters. -/
def nameTo (s : ByteArray) (k : Nat) : Bool := decide (1 ≤ s.size) && decide (s.size ≤ 8) && (s.data.toList.take k).all Lat.letterB

theorem nameTo_succ (s : ByteArray) (k : Nat) (hk : k < s.size) : nameTo s (k + 1) = (nameTo s k && Lat.letterB s[k]) := by
  unfold nameTo
  have e : s.data.toList.take (k + 1) = s.data.toList.take k ++ [s[k]] := by
    rw [List.take_succ_eq_append_getElem (by simpa using hk)]; rfl
  rw [e, List.all_append]
  simp [Bool.and_assoc]
theorem nameTo_all (s : ByteArray) : nameTo s s.size = Lat.nameB s.data.toList := by
  unfold nameTo Lat.nameB
  rw [List.take_of_length_le (by simp), size_list]

set_option maxHeartbeats 1000000 in
theorem name_any (w : World) (s : ByteArray) (hs : s.size ≤ maxLen) :
    Calls Try.prog 37 #[.string s] w fun e w' => e = .returned (.bool (Lat.nameB s.data.toList)) ∧ w' = w := by
  unfold maxLen at hs
  go_enter Try.func37, Try.ntmps37
  go_wp2_with fail
  refine (in_any _ _ _ _).mono ?_
  rintro e w' ⟨rfl, rfl⟩
  have h0 : (decide ((1 : Int) ≤ (s.size : Int)) && decide ((s.size : Int) ≤ 8)) = nameTo s 0 := by
    unfold nameTo
    rw [show decide ((1 : Int) ≤ (s.size : Int)) = decide (1 ≤ s.size) from decide_eq_decide.2 (by omega), show decide ((s.size : Int) ≤ 8) = decide (s.size ≤ 8) from decide_eq_decide.2 (by omega)]
    simp
  rw [h0]
  clear h0
  go_wp2
  go_loop [3, 4] (fun b i => ∃ k : Nat, k ≤ s.size ∧ i = .int .i64 k ∧ b = .bool (nameTo s k)) (fun _ i => s.size - (intOf i).toNat)
  case atStart => exact ⟨0, Nat.zero_le _, rfl, rfl⟩
  case round =>
    obtain ⟨k, hk, rfl, rfl⟩ := hrel
    by_cases hlt : k < s.size
    · have HS := hide (nameTo_succ s k hlt)
      cases hb : nameTo s k
      · have HB := hide hb
        go_wp2
        go_round
        case rel => exact ⟨k + 1, by omega, by go_num, val_bool (by rw [HS.out, HB.out]; rfl)⟩
        case measure => simp [intOf]; omega
      · have HB := hide hb
        go_wp2
        all_goals
          go_round
          case rel => exact ⟨k + 1, by omega, by go_num, val_bool (by rw [HS.out, HB.out]; unfold Lat.letterB; rw [Bool.eq_iff_iff]; simp; omega)⟩
          case measure => simp [intOf]; omega
    · go_wp2
      go_ret
      have e : k = s.size := by omega
      exact ⟨ret_bool (by rw [e, nameTo_all]), rfl⟩

end Go.Proofs.Ytmhcameodlhloaa
