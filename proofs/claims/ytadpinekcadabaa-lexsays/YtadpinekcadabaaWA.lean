/- The words of a text, as plain data. -/
import Derived.Test.YtadpinekcadabaaOW
namespace Go.Proofs.Ytadpinekcadabaa
open Go.RowKit

namespace Lat
def blankN (n : Nat) : Bool := n == 32 || n == 10
def brackN (n : Nat) : Bool := n == 40 || n == 41
def longN (n : Nat) : Bool := (decide (97 ≤ n) && decide (n ≤ 122)) || (decide (48 ≤ n) && decide (n ≤ 57)) || n == 46 || n == 43 || n == 45 || n == 42 || n == 60 || n == 61
def bt (s : ByteArray) (k : Nat) : Nat := (s.data.toList.getD k 0).toNat
/-- May byte k be? -/
def okAt (s : ByteArray) (k : Nat) : Bool := blankN (bt s k) || brackN (bt s k) || longN (bt s k)
/-- The words among the first k bytes, each by its begin and its end; and may the last grow? -/
def tok (s : ByteArray) : Nat → List (Nat × Nat) × Bool
  | 0 => ([], false)
  | k + 1 =>
    if blankN (bt s k) then ((tok s k).1, false)
    else if brackN (bt s k) then ((tok s k).1 ++ [(k, k + 1)], false)
    else if (tok s k).2 then ((tok s k).1.dropLast ++ [(((tok s k).1.getLastD (0, 0)).1, k + 1)], true)
    else ((tok s k).1 ++ [(k, k + 1)], true)
def ext (s : ByteArray) (p : Nat × Nat) : ByteArray := s.extract p.1 p.2
def badAt (s : ByteArray) : Option Nat := (List.range s.size).find? fun k => !okAt s k
/-- What Words answers: the words, where they begin, the number of the first byte that may not be, the error. -/
def wds (s : ByteArray) : List ByteArray := if 4096 < s.size then [] else match badAt s with | some _ => [] | none => (tok s s.size).1.map (ext s)
def wats (s : ByteArray) : List Int := if 4096 < s.size then [] else match badAt s with | some _ => [] | none => (tok s s.size).1.map fun p => (p.1 : Int)
def wn (s : ByteArray) : Nat := if 4096 < s.size then 0 else (badAt s).getD 0
def we (s : ByteArray) : Int := if 4096 < s.size then 2 else if (badAt s).isSome then 3 else 0
end Lat

theorem bt_at (s : ByteArray) (k : Nat) (hk : k < s.size) : Lat.bt s k = s[k].toNat := by
  unfold Lat.bt
  have h : k < s.data.toList.length := by simpa using hk
  rw [List.getD, List.getElem?_eq_getElem h]; rfl

/-- An open word ends where the next byte stands. -/
theorem tok_inv (s : ByteArray) : ∀ k, (Lat.tok s k).1.length ≤ k ∧ (∀ p ∈ (Lat.tok s k).1, p.1 < p.2 ∧ p.2 ≤ k) ∧ ((Lat.tok s k).2 = true → ∃ L a, (Lat.tok s k).1 = L ++ [(a, k)])
  | 0 => ⟨Nat.le_refl _, fun p hp => absurd hp (by simp [Lat.tok]), fun h => absurd h (by simp [Lat.tok])⟩
  | k + 1 => by
    obtain ⟨h1, h2, h3⟩ := tok_inv s k
    simp only [Lat.tok]
    split
    · exact ⟨by simp only; omega, fun p hp => ⟨(h2 p hp).1, by have := (h2 p hp).2; omega⟩, fun h => by cases h⟩
    · split
      · refine ⟨by simp only [List.length_append, List.length_singleton]; omega, fun p hp => ?_, fun h => by cases h⟩
        rcases List.mem_append.1 hp with hp | hp
        · exact ⟨(h2 p hp).1, by have := (h2 p hp).2; omega⟩
        · rw [List.mem_singleton] at hp; subst hp; exact ⟨by simp only; omega, Nat.le_refl _⟩
      · split
        · rename_i ho
          obtain ⟨L, a, e⟩ := h3 ho
          have ha := h2 (a, k) (by rw [e]; simp)
          rw [e] at h1 h2 ⊢
          refine ⟨by simp at h1 ⊢; omega, fun p hp => ?_, fun _ => ⟨_, _, rfl⟩⟩
          simp only [List.dropLast_concat, List.getLastD_concat] at hp
          rcases List.mem_append.1 hp with hp | hp
          · have := h2 p (List.mem_append_left _ hp)
            exact ⟨this.1, by omega⟩
          · rw [List.mem_singleton] at hp; subst hp; simp only at ha ⊢; exact ⟨by omega, Nat.le_refl _⟩
        · refine ⟨by simp only [List.length_append, List.length_singleton]; omega, fun p hp => ?_, fun _ => ⟨_, _, rfl⟩⟩
          rcases List.mem_append.1 hp with hp | hp
          · exact ⟨(h2 p hp).1, by have := (h2 p hp).2; omega⟩
          · rw [List.mem_singleton] at hp; subst hp; exact ⟨by simp only; omega, Nat.le_refl _⟩
theorem ext_grow (s : ByteArray) (a k : Nat) (h1 : a ≤ k) : Lat.ext s (a, k) ++ s.extract k (k + 1) = Lat.ext s (a, k + 1) := by
  unfold Lat.ext
  simp only
  rw [ByteArray.extract_append_extract]
  congr 1 <;> omega

end Go.Proofs.Ytadpinekcadabaa
