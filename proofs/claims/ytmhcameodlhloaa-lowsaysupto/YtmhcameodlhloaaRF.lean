/- Walks over package downref, sixth part: Meet; and the plain functions that Lattice goes by, which say the same as Check's. -/
import Derived.Test.YtmhcameodlhloaaRE
namespace Go.Proofs.Ytmhcameodlhloaa
open Go.RowKit

set_option maxHeartbeats 1000000 in
set_option maxRecDepth 100000 in
theorem rmeet_any (w : World) (ad : Option Addr) (vl : Value) (n cap a b : Nat) (Z : Nat → Nat → Bool) (hG : Grid w vl n Z) (hn : n ≤ 6) (ha : a < n) (hb : b < n) :
    Calls Try.prog 12 #[.agg #[.slice ad n cap, vl], .int .i64 a, .int .i64 b] w fun e w' => e = .returned (.int .i64 (Lat.joinI (Lat.tr Z) n a b)) ∧ Below w.heap.size w w' := by
  have HG := hide (hG.below (boxBelow w (.cells #[.slice ad n cap, vl] 25)))
  clear hG
  go_enter Try.func12, Try.ntmps12
  go_wp2_with fail
  refine (rturned_any _ ad vl n cap Z HG.out (by omega) hn).mono ?_
  rintro e w1 ⟨vl', rfl, hG1, hb1⟩
  have HG1 := hide hG1
  have HB1 := hide (up1 hb1)
  clear hG1 hb1
  go_wp2_with fail
  refine (rjoin_any _ ad vl' n cap a b (Lat.tr Z) HG1.out hn ha hb).mono ?_
  rintro e w2 ⟨rfl, hb2⟩
  have HB2 := hide (up HB1.out hb2)
  clear hb2
  go_wp2
  go_ret
  exact ⟨rfl, HB2.out⟩

namespace Lat
variable {Z : Nat → Nat → Bool} {n : Nat}
def ordT (Z : Nat → Nat → Bool) (a b : Nat) : Bool := !((Z a b && (Z b a != (a == b))) || ((a == b) && !Z a b))
def ordC (Z : Nat → Nat → Bool) (a b c : Nat) : Bool := !(Z a b && Z b c && !Z a c)
def ordR (Z : Nat → Nat → Bool) (n a b : Nat) : Bool := ordT Z a b && (List.range n).all (ordC Z a b)
def ordA (Z : Nat → Nat → Bool) (n a : Nat) : Bool := (List.range n).all (ordR Z n a)
def rOrd (Z : Nat → Nat → Bool) (n : Nat) : Bool := (List.range n).all (ordA Z n)
def jP (Z : Nat → Nat → Bool) (n a b : Nat) : Bool := decide (0 ≤ joinI Z n a b) && decide (0 ≤ joinI (tr Z) n a b)
def jA (Z : Nat → Nat → Bool) (n a : Nat) : Bool := (List.range n).all (jP Z n a)
def rJoins (Z : Nat → Nat → Bool) (n : Nat) : Bool := (List.range n).all (jA Z n)

theorem order_of_ord (o : Ord Z n) : orderB Z n = true := by
  refine all_true fun a ha => ?_
  unfold orderP
  rw [o.refl a ha, Bool.true_and]
  refine all_true fun b hb => ?_
  unfold orderR
  cases hab : Z a b
  · rfl
  · have hf : fitsB Z n a b = true := by
      unfold fitsB
      have h1 : (a != b && Z b a) = false := by
        cases hba : Z b a
        · simp
        · have := o.anti a b ha hb hab hba
          simp [this]
      rw [h1]
      refine all_true fun c hc => ?_
      unfold fitsP
      cases hbc : Z b c
      · rfl
      · rw [o.trans a b c ha hb hc hab hbc]; rfl
    rw [hf]; rfl

theorem rOrd_eq : rOrd Z n = orderB Z n := by
  rw [Bool.eq_iff_iff]
  constructor
  · intro h
    have h1 : ∀ a b, a < n → b < n → ordT Z a b = true ∧ ∀ c, c < n → ordC Z a b c = true := by
      intro a b ha hb
      have := all_get (all_get h ha) hb
      unfold ordR at this
      obtain ⟨x, y⟩ := Bool.and_eq_true_iff.1 this
      exact ⟨x, fun c hc => all_get y hc⟩
    refine order_of_ord ⟨fun a ha => ?_, fun a b ha hb hab hba => ?_, fun a b c ha hb hc hab hbc => ?_⟩
    · have := (h1 a a ha ha).1
      unfold ordT at this
      cases hz : Z a a
      · rw [hz] at this; simp at this
      · rfl
    · have := (h1 a b ha hb).1
      unfold ordT at this
      rw [hab, hba] at this
      by_cases e : a = b
      · exact e
      · simp [e] at this
    · have := (h1 a b ha hb).2 c hc
      unfold ordC at this
      rw [hab, hbc] at this
      simpa using this
  · intro h
    have o := ord_of h
    refine all_true fun a ha => all_true fun b hb => ?_
    unfold ordR
    have h1 : ordT Z a b = true := by
      unfold ordT
      by_cases e : a = b
      · subst e
        simp [o.refl a ha]
      · cases hab : Z a b
        · simp [e]
        · cases hba : Z b a
          · simp [e]
          · exact absurd (o.anti a b ha hb hab hba) e
    rw [h1, Bool.true_and]
    refine all_true fun c hc => ?_
    unfold ordC
    cases hab : Z a b
    · rfl
    · cases hbc : Z b c
      · rfl
      · rw [o.trans a b c ha hb hc hab hbc]; rfl

theorem joinI_nonneg {a b : Nat} : decide (0 ≤ joinI Z n a b) = (joinO Z n a b).isSome := by
  unfold joinI
  cases h : joinO Z n a b
  · rfl
  · simp

theorem joinsB_all (o : Ord Z n) : joinsB Z n = true ↔ ∀ a b, a < n → b < n → (joinO Z n a b).isSome = true := by
  constructor
  · intro h a b ha hb
    obtain ⟨c, hc⟩ := (joins_of o h).has a b ha hb
    rw [hc]; rfl
  · intro h
    exact all_true fun a ha => all_true fun b hb => h a b ha (by omega)

theorem rJoins_eq (h : orderB Z n = true) : rJoins Z n = (joinsB Z n && joinsB (tr Z) n) := by
  have o := ord_of h
  rw [Bool.eq_iff_iff, Bool.and_eq_true_iff, joinsB_all o, joinsB_all o.turn]
  constructor
  · intro hj
    have h1 : ∀ a b, a < n → b < n → (joinO Z n a b).isSome = true ∧ (joinO (tr Z) n a b).isSome = true := by
      intro a b ha hb
      have := all_get (all_get hj ha) hb
      unfold jP at this
      rw [joinI_nonneg, joinI_nonneg] at this
      exact Bool.and_eq_true_iff.1 this
    exact ⟨fun a b ha hb => (h1 a b ha hb).1, fun a b ha hb => (h1 a b ha hb).2⟩
  · rintro ⟨h1, h2⟩
    refine all_true fun a ha => all_true fun b hb => ?_
    unfold jP
    rw [joinI_nonneg, joinI_nonneg, h1 a b ha hb, h2 a b ha hb]; rfl

/-- What R.Lattice answers is what Check answers. -/
theorem rcheck_eq (ss : List ByteArray) (G : Nat) (L : Nat → Nat) (Z : Nat → Nat → Bool) :
    checkE ss G L Z = if namesB ss = false then 1 else if 6 < ss.length then 2 else if squareB G L ss.length = false then 5 else if rOrd Z ss.length = false then 5 else if rJoins Z ss.length = false then 5 else 0 := by
  unfold checkE
  rw [rOrd_eq]
  cases h : orderB Z ss.length
  · rfl
  · rw [rJoins_eq h]
    cases joinsB Z ss.length <;> cases joinsB (tr Z) ss.length <;> simp
end Lat

end Go.Proofs.Ytmhcameodlhloaa
