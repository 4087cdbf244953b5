/- Walks over package downref: cutDot, slices.Contains of strings, expr. -/
import Derived.Test.YtmhcameodlhloaaRI
import Derived.Test.YtmhcameodlhloaaTD
import Derived.Deep.QuietTactic
import Derived.BigQuiet
namespace Go.Proofs.Ytmhcameodlhloaa
open Go.RowKit

namespace Lat
/-- Where the first dot stands. -/
def dotAt (s : ByteArray) : Option Nat := (List.range s.size).find? fun i => s.data.toList.getD i 0 == 46
def preS (s : ByteArray) : ByteArray := match dotAt s with | some i => s.extract 0 i | none => s
def sufS (s : ByteArray) : ByteArray := match dotAt s with | some i => s.extract (i + 1) s.size | none => ⟨#[]⟩
end Lat

theorem byte_at (s : ByteArray) (k : Nat) (hk : k < s.size) : s.data.toList.getD k 0 = s[k] := by
  have h : k < s.data.toList.length := by simpa using hk
  rw [List.getD, List.getElem?_eq_getElem h]; rfl

theorem extract_size (s : ByteArray) (a b : Nat) : (s.extract a b).size ≤ s.size := by
  rw [ByteArray.size_extract]; omega
theorem preS_le (s : ByteArray) : (Lat.preS s).size ≤ s.size := by
  unfold Lat.preS
  split
  · exact extract_size _ _ _
  · exact Nat.le_refl _
theorem sufS_le (s : ByteArray) : (Lat.sufS s).size ≤ s.size := by
  unfold Lat.sufS
  split
  · exact extract_size _ _ _
  · exact Nat.zero_le _

theorem byte_eq (c : UInt8) (n : Nat) (hn : n < 256) : (c == UInt8.ofNat n) = ((c.toNat : Int) == (n : Int)) := by
  rw [Bool.eq_iff_iff]
  simp only [beq_iff_eq]
  constructor
  · rintro rfl; simp; omega
  · intro h
    have : c.toNat = n := by omega
    rw [← this]; simp

namespace Lat
def opS : List ByteArray := [⟨#[43]⟩, ⟨#[45]⟩, ⟨#[42]⟩, ⟨#[60]⟩, ⟨#[61]⟩]
def opB (s : ByteArray) : Bool := decide (0 ≤ indexI opS s)
def callB (s : ByteArray) : Bool := nameB (preS s).data.toList && (!(dotAt s).isSome || nameB (sufS s).data.toList)
/-- May the expression be? m bounds how deep it is looked into. -/
def exprB : Nat → Ex → Bool
  | 0, _ => false
  | m + 1, x =>
    if x.kind = 1 then decide (0 ≤ x.n) && decide (x.n ≤ 999999) && x.name.toList.isEmpty && (x.args.length == 0)
    else if x.kind = 2 then (x.n == 0) && nameB x.name.data.toList && (x.args.length == 0)
    else if x.kind = 3 then (x.n == 0) && opB x.name && (x.args.length == 2) && x.args.all (exprB m)
    else if x.kind = 4 then (x.n == 0) && callB x.name && decide (x.args.length ≤ 4) && x.args.all (exprB m)
    else false
end Lat

theorem boxCells4 (w : World) (c0 c1 c2 c3 : Value) (t : TypeId) : (w.alloc (.cells #[c0, c1, c2, c3] t)).cell? ⟨w.heap.size, 3, none⟩ = some c3 := by simp [go_sem]

theorem all_get? {p : Ex → Bool} {l : List Ex} (h : ∀ (i : Nat) (x : Ex), l[i]? = some x → p x = true) : l.all p = true := by
  rw [List.all_eq_true]; intro x hx
  obtain ⟨i, hi, rfl⟩ := List.mem_iff_getElem.1 hx
  exact h i _ (List.getElem?_eq_getElem hi)
theorem all_not? {p : Ex → Bool} {l : List Ex} {i : Nat} {x : Ex} (hx : l[i]? = some x) (h : p x = false) : l.all p = false := by
  rw [List.all_eq_false]
  exact ⟨x, List.mem_of_getElem? hx, by simp [h]⟩

theorem ops_strs (w2 : World) : Strs (w2.alloc (.cells #[.string ⟨#[43]⟩, .string ⟨#[45]⟩, .string ⟨#[42]⟩, .string ⟨#[60]⟩, .string ⟨#[61]⟩] 9)) (.slice (some ⟨w2.heap.size, 0, none⟩) 5 5) Lat.opS := by
  refine ⟨_, w2.heap.size, 0, 5, rfl, fun _ => rfl, by decide, fun s hs => ?_, fun j hj => ?_⟩
  · simp only [Lat.opS, List.mem_cons, List.not_mem_nil, or_false] at hs
    rcases hs with rfl | rfl | rfl | rfl | rfl <;> decide
  · have hj' : j < 5 := hj
    obtain rfl | rfl | rfl | rfl | rfl : j = 0 ∨ j = 1 ∨ j = 2 ∨ j = 3 ∨ j = 4 := by omega
    all_goals simp [go_sem, Lat.opS]

end Go.Proofs.Ytmhcameodlhloaa
