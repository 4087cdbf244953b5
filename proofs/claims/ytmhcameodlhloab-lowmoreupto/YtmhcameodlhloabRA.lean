/- Walks over package downref, first part: In, Name, Index of strings, Find. -/
import Derived.Test.YtmhcameodlhloabChecked
import Derived.Test.YtmhcameodlhloabBa
namespace Go.Proofs.Ytmhcameodlhloab
open Go.RowKit

theorem in_any (w : World) (a lo hi : Int) :
    Calls Try.prog 57 #[.int .i64 a, .int .i64 lo, .int .i64 hi] w fun e w' => e = .returned (.bool (decide (lo ≤ a) && decide (a ≤ hi))) ∧ w' = w := by
  by_cases h0 : lo ≤ a
  · by_cases h1 : a ≤ hi
    · go_enter Try.func57, Try.ntmps57
      go_wp2
      go_ret
      exact ⟨ret_bool (by simp [h0, h1]), rfl⟩
    · go_enter Try.func57, Try.ntmps57
      go_wp2
      go_ret
      exact ⟨ret_bool (by rw [decide_eq_false (by omega : ¬ a ≤ hi)]), rfl⟩
  · go_enter Try.func57, Try.ntmps57
    go_wp2
    go_ret
    exact ⟨ret_bool (by rw [decide_eq_false (by omega : ¬ lo ≤ a)]; rfl), rfl⟩

/-- What Name's ok holds behind k letters. -/
def nameTo (s : ByteArray) (k : Nat) : Bool := decide (1 ≤ s.size) && decide (s.size ≤ 8) && (s.data.toList.take k).all Lat.letterB

theorem nameTo_succ (s : ByteArray) (k : Nat) (hk : k < s.size) : nameTo s (k + 1) = (nameTo s k && Lat.letterB s[k]) := by
  unfold nameTo
  have e : s.data.toList.take (k + 1) = s.data.toList.take k ++ [s[k]] := by
    rw [List.take_succ_eq_append_getElem (by simpa using hk)]; rfl
  rw [e, List.all_append]
  simp [Bool.and_assoc]
theorem nameTo_all (s : ByteArray) : nameTo s s.size = Lat.nameB s.data.toList := by
  unfold nameTo Lat.nameB
  rw [List.take_of_length_le (by simp), size_list]

end Go.Proofs.Ytmhcameodlhloab
