/- Plain mathematics of levels: where the table is an order with joins and meets, joinN is the join: in any order, of itself itself, and so on. -/
import Derived.Test.YtmhcameodlhloabLat
namespace Go.Proofs.Ytmhcameodlhloab
namespace Lat

/-- An order on the numbers below n. -/
structure Ord (Z : Nat → Nat → Bool) (n : Nat) : Prop where
  refl : ∀ a, a < n → Z a a = true
  anti : ∀ a b, a < n → b < n → Z a b = true → Z b a = true → a = b
  trans : ∀ a b c, a < n → b < n → c < n → Z a b = true → Z b c = true → Z a c = true

theorem ord_of {Z : Nat → Nat → Bool} {n : Nat} (h : orderB Z n = true) : Ord Z n := by
  have hp : ∀ a, a < n → Z a a = true ∧ ∀ b, b < n → Z a b = true → (a ≠ b → Z b a = false) ∧ ∀ c, c < n → Z b c = true → Z a c = true := by
    intro a ha
    have h1 := all_get h ha
    unfold orderP at h1
    obtain ⟨h2, h3⟩ := Bool.and_eq_true_iff.1 h1
    refine ⟨h2, fun b hb hab => ?_⟩
    have h4 := all_get h3 hb
    unfold orderR at h4
    rw [hab] at h4
    have h5 : fitsB Z n a b = true := by simpa using h4
    unfold fitsB at h5
    obtain ⟨h6, h7⟩ := Bool.and_eq_true_iff.1 h5
    refine ⟨fun hne => ?_, fun c hc hbc => ?_⟩
    · simpa [hne] using h6
    · have h8 := all_get h7 hc
      unfold fitsP at h8
      rw [hbc] at h8
      simpa using h8
  refine ⟨fun a ha => (hp a ha).1, fun a b ha hb hab hba => ?_, fun a b c ha hb hc hab hbc => ((hp a ha).2 b hb hab).2 c hc hbc⟩
  by_cases e : a = b
  · exact e
  · have := ((hp a ha).2 b hb hab).1 e
    rw [this] at hba; cases hba

theorem Ord.turn {Z : Nat → Nat → Bool} {n : Nat} (h : Ord Z n) : Ord (tr Z) n :=
  ⟨h.refl, fun a b ha hb hab hba => h.anti a b ha hb hba hab, fun a b c ha hb hc hab hbc => h.trans c b a hc hb ha hbc hab⟩

/-- c is the least above both. -/
structure IsJoin (Z : Nat → Nat → Bool) (n a b c : Nat) : Prop where
  lt : c < n
  left : Z a c = true
  right : Z b c = true
  least : ∀ d, d < n → Z a d = true → Z b d = true → Z c d = true

theorem join_spec {Z : Nat → Nat → Bool} {n a b c : Nat} (h : joinO Z n a b = some c) : IsJoin Z n a b c := by
  obtain ⟨h1, h2⟩ := find_spec h
  unfold joinP at h2
  simp only [Bool.and_eq_true] at h2
  refine ⟨h1, h2.1.1, h2.1.2, fun d hd had hbd => ?_⟩
  have := all_get h2.2 hd
  rw [had, hbd] at this
  simpa using this

theorem joinP_of {Z : Nat → Nat → Bool} {n a b c : Nat} (h : IsJoin Z n a b c) : joinP Z n a b c = true := by
  unfold joinP
  rw [h.left, h.right]
  simp only [Bool.and_self, Bool.true_and]
  refine all_true fun d hd => ?_
  cases had : Z a d <;> cases hbd : Z b d <;> simp
  exact h.least d hd had hbd

theorem IsJoin.unique {Z : Nat → Nat → Bool} {n a b c d : Nat} (o : Ord Z n) (h : IsJoin Z n a b c) (k : IsJoin Z n a b d) : c = d :=
  o.anti c d h.lt k.lt (h.least d k.lt k.left k.right) (k.least c h.lt h.left h.right)

theorem IsJoin.symm {Z : Nat → Nat → Bool} {n a b c : Nat} (h : IsJoin Z n a b c) : IsJoin Z n b a c :=
  ⟨h.lt, h.right, h.left, fun d hd hb ha => h.least d hd ha hb⟩

theorem isSome_of_join {Z : Nat → Nat → Bool} {n a b c : Nat} (h : IsJoin Z n a b c) : ∃ d, joinO Z n a b = some d := by
  cases hj : joinO Z n a b with
  | some d => exact ⟨d, rfl⟩
  | none =>
    exfalso
    have := List.find?_eq_none.1 hj c (List.mem_range.2 h.lt)
    exact this (joinP_of h)

/-- An order in which any two have a join. -/
structure Joins (Z : Nat → Nat → Bool) (n : Nat) : Prop extends Ord Z n where
  has : ∀ a b, a < n → b < n → ∃ c, joinO Z n a b = some c

theorem joins_of {Z : Nat → Nat → Bool} {n : Nat} (o : Ord Z n) (h : joinsB Z n = true) : Joins Z n := by
  have hlt : ∀ a b, a < n → b < a → ∃ c, joinO Z n a b = some c := by
    intro a b ha hb
    have h1 := all_get (all_get h ha) hb
    unfold joinsP at h1
    exact Option.isSome_iff_exists.1 h1
  refine ⟨o, fun a b ha hb => ?_⟩
  rcases Nat.lt_trichotomy b a with hba | hba | hba
  · exact hlt a b ha hba
  · subst hba
    exact isSome_of_join (c := b) ⟨hb, o.refl b hb, o.refl b hb, fun d _ h _ => h⟩
  · obtain ⟨c, hc⟩ := hlt b a hb hba
    exact isSome_of_join (join_spec hc).symm

variable {Z : Nat → Nat → Bool} {n : Nat}

theorem Joins.spec (h : Joins Z n) {a b : Nat} (ha : a < n) (hb : b < n) : IsJoin Z n a b (joinN Z n a b) := by
  obtain ⟨c, hc⟩ := h.has a b ha hb
  unfold joinN
  rw [hc]
  exact join_spec hc
theorem Joins.err (h : Joins Z n) {a b : Nat} (ha : a < n) (hb : b < n) : joinE Z n a b = 0 := by
  obtain ⟨c, hc⟩ := h.has a b ha hb
  simp [joinE, hc]
theorem Joins.lt (h : Joins Z n) {a b : Nat} (ha : a < n) (hb : b < n) : joinN Z n a b < n := (h.spec ha hb).lt
theorem Joins.eq_of (h : Joins Z n) {a b c : Nat} (ha : a < n) (hb : b < n) (k : IsJoin Z n a b c) : joinN Z n a b = c := (h.spec ha hb).unique h.toOrd k
theorem Joins.comm (h : Joins Z n) {a b : Nat} (ha : a < n) (hb : b < n) : joinN Z n a b = joinN Z n b a := h.eq_of ha hb (h.spec hb ha).symm
theorem Joins.same (h : Joins Z n) {a : Nat} (ha : a < n) : joinN Z n a a = a := h.eq_of ha ha ⟨ha, h.refl a ha, h.refl a ha, fun _ _ k _ => k⟩
theorem Joins.of_le (h : Joins Z n) {a b : Nat} (ha : a < n) (hb : b < n) (k : Z a b = true) : joinN Z n a b = b := h.eq_of ha hb ⟨hb, k, h.refl b hb, fun _ _ _ k' => k'⟩
theorem Joins.le_of (h : Joins Z n) {a b : Nat} (ha : a < n) (hb : b < n) (k : joinN Z n a b = b) : Z a b = true := by
  have := (h.spec ha hb).left
  rwa [k] at this
theorem Joins.le_iff (h : Joins Z n) {a b : Nat} (ha : a < n) (hb : b < n) : Z a b = (joinN Z n a b == b) := by
  rw [Bool.eq_iff_iff]
  simp only [beq_iff_eq]
  exact ⟨h.of_le ha hb, h.le_of ha hb⟩
theorem Joins.assoc (h : Joins Z n) {a b c : Nat} (ha : a < n) (hb : b < n) (hc : c < n) : joinN Z n (joinN Z n a b) c = joinN Z n a (joinN Z n b c) := by
  have p := h.spec ha hb
  have q := h.spec hb hc
  have r := h.spec ha q.lt
  refine h.eq_of p.lt hc ⟨r.lt, ?_, ?_, fun d hd h1 h2 => ?_⟩
  · exact p.least _ r.lt r.left (h.trans _ _ _ hb q.lt r.lt q.left r.right)
  · exact h.trans _ _ _ hc q.lt r.lt q.right r.right
  · exact r.least d hd (h.trans _ _ _ ha p.lt hd p.left h1) (q.least d hd (h.trans _ _ _ hb p.lt hd p.right h1) h2)
/-- Each swallows the other one. -/
theorem absorb (h : Joins Z n) (k : Joins (tr Z) n) {a b : Nat} (ha : a < n) (hb : b < n) : joinN Z n a (joinN (tr Z) n a b) = a := by
  have p := k.spec ha hb
  rw [h.comm ha p.lt]
  exact h.of_le p.lt ha p.left

/-- The least of all. -/
theorem low_spec (k : Joins (tr Z) n) (hn : 0 < n) : lowN Z n < n ∧ ∀ a, a < n → Z (lowN Z n) a = true := by
  have main : ∀ m, 0 < m → m ≤ n → ∃ c, c < n ∧ ∀ a, a < m → Z c a = true := by
    intro m
    induction m with
    | zero => intro h; omega
    | succ m ih =>
      intro _ hm
      by_cases h0 : m = 0
      · subst h0
        exact ⟨0, hn, fun a ha => by
          have : a = 0 := by omega
          subst this; exact k.refl 0 hn⟩
      · obtain ⟨c, hc, hall⟩ := ih (by omega) (by omega)
        have p := k.spec hc (show m < n by omega)
        refine ⟨_, p.lt, fun a ha => ?_⟩
        by_cases e : a = m
        · subst e; exact p.right
        · exact k.trans a c _ (by omega) hc p.lt (hall a (by omega)) p.left
  obtain ⟨c, hc, hall⟩ := main n hn (Nat.le_refl _)
  have hP : lowP Z n c = true := all_true (fun a ha => hall a ha)
  cases hf : (List.range n).find? (lowP Z n) with
  | none => exact absurd hP (by have := List.find?_eq_none.1 hf c (List.mem_range.2 hc); simpa using this)
  | some d =>
    have e : lowN Z n = d := by unfold lowN; rw [hf]; rfl
    obtain ⟨h1, h2⟩ := find_spec hf
    rw [e]
    exact ⟨h1, fun a ha => all_get h2 ha⟩

theorem tr_tr : tr (tr Z) = Z := rfl

end Lat
end Go.Proofs.Ytmhcameodlhloab
