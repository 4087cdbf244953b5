/- Plain mathematics of levels, without any program: what a table of bools says of joins, told by functions of numbers. -/
namespace Go.Proofs.Ytmhcameodlhloab
namespace Lat

theorem all_true {p : Nat → Bool} {n : Nat} (h : ∀ d, d < n → p d = true) : (List.range n).all p = true := by
  rw [List.all_eq_true]; intro x hx; exact h x (List.mem_range.1 hx)
theorem all_false {p : Nat → Bool} {n k : Nat} (hk : k < n) (h : p k = false) : (List.range n).all p = false := by
  rw [List.all_eq_false]; exact ⟨k, List.mem_range.2 hk, by simp [h]⟩
theorem all_get {p : Nat → Bool} {n k : Nat} (h : (List.range n).all p = true) (hk : k < n) : p k = true :=
  List.all_eq_true.1 h k (List.mem_range.2 hk)
theorem find_none {p : Nat → Bool} {n : Nat} (h : ∀ c, c < n → p c = false) : (List.range n).find? p = none := by
  rw [List.find?_eq_none]; intro x hx; simp [h x (List.mem_range.1 hx)]
theorem find_hit {p : Nat → Bool} : ∀ {n k : Nat}, k < n → (∀ c, c < k → p c = false) → p k = true → (List.range n).find? p = some k := by
  intro n k hk h0 h1
  induction n with
  | zero => omega
  | succ n ih =>
    rw [List.range_succ, List.find?_append]
    by_cases e : k < n
    · rw [ih e]; rfl
    · have : k = n := by omega
      subst this
      rw [find_none h0]; simp [h1]
theorem find_spec {p : Nat → Bool} {n k : Nat} (h : (List.range n).find? p = some k) : k < n ∧ p k = true :=
  ⟨List.mem_range.1 (List.mem_of_find?_eq_some h), List.find?_some h⟩

/-- Is c below all that is above both a and b? -/
def belowB (Z : Nat → Nat → Bool) (n a b c : Nat) : Bool := (List.range n).all fun d => !(Z a d && Z b d && !Z c d)
def joinP (Z : Nat → Nat → Bool) (n a b c : Nat) : Bool := Z a c && Z b c && belowB Z n a b c
/-- The join of a and b, if there is one. -/
def joinO (Z : Nat → Nat → Bool) (n a b : Nat) : Option Nat := (List.range n).find? (joinP Z n a b)
def fitsP (Z : Nat → Nat → Bool) (a b c : Nat) : Bool := !(Z b c && !Z a c)
def fitsB (Z : Nat → Nat → Bool) (n a b : Nat) : Bool := !(a != b && Z b a) && (List.range n).all (fitsP Z a b)
def orderR (Z : Nat → Nat → Bool) (n a b : Nat) : Bool := !(Z a b && !fitsB Z n a b)
def orderP (Z : Nat → Nat → Bool) (n a : Nat) : Bool := Z a a && (List.range n).all (orderR Z n a)
def orderB (Z : Nat → Nat → Bool) (n : Nat) : Bool := (List.range n).all (orderP Z n)
def tr (Z : Nat → Nat → Bool) : Nat → Nat → Bool := fun a b => Z b a
def joinsP (Z : Nat → Nat → Bool) (n a b : Nat) : Bool := (joinO Z n a b).isSome
def joinsB (Z : Nat → Nat → Bool) (n : Nat) : Bool := (List.range n).all fun a => (List.range a).all (joinsP Z n a)
def lowP (Z : Nat → Nat → Bool) (n a : Nat) : Bool := (List.range n).all (Z a)
def lowN (Z : Nat → Nat → Bool) (n : Nat) : Nat := ((List.range n).find? (lowP Z n)).getD 0
def joinN (Z : Nat → Nat → Bool) (n a b : Nat) : Nat := (joinO Z n a b).getD 0
def joinE (Z : Nat → Nat → Bool) (n a b : Nat) : Int := if (joinO Z n a b).isSome then 0 else 5

end Lat
end Go.Proofs.Ytmhcameodlhloab
