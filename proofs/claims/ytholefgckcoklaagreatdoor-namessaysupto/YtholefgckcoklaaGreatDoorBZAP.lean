/- The order of diagnostics: two lists that ascend and hold the same are one. -/
import Derived.Test.YtholefgckcoklaaGreatDoorBZAN
namespace Go.Proofs.YtholefgckcoklaaGreatDoor
open Go.RowKit
theorem bl_eq : ∀ (x y : List UInt8), Op.bytesLess x y = decide (x < y)
  | [], [] => by simp [Op.bytesLess]
  | _ :: _, [] => by simp [Op.bytesLess]
  | [], _ :: _ => by simp [Op.bytesLess]
  | a :: x, b :: y => by
    rw [Op.bytesLess, bl_eq x y]
    simp only [List.cons_lt_cons_iff]
    by_cases h1 : a < b <;> by_cases h2 : a = b <;> by_cases h3 : x < y <;> simp [h1, h2, h3]
theorem bl_irr (x : List UInt8) : Op.bytesLess x x = false := by rw [bl_eq]; simp [List.lt_irrefl]
theorem bl_trans {x y z : List UInt8} (h1 : Op.bytesLess x y = true) (h2 : Op.bytesLess y z = true) : Op.bytesLess x z = true := by
  rw [bl_eq] at *
  simp only [decide_eq_true_eq] at *
  exact List.lt_trans h1 h2
theorem bl_tri {x y : List UInt8} (h1 : Op.bytesLess x y = false) (h2 : Op.bytesLess y x = false) : x = y := by
  rw [bl_eq] at *
  simp only [decide_eq_false_iff_not] at *
  exact List.le_antisymm (List.not_lt.1 h2) (List.not_lt.1 h1)
theorem toList_inj {x y : ByteArray} (h : x.toList = y.toList) : x = y := by
  rw [Lib.toList_data, Lib.toList_data] at h
  cases x; cases y
  simp only at h
  congr 1
  exact Array.toList_inj.1 h
namespace Nm
theorem aheadB_iff (a b : Dg) : aheadB a b = true ↔ Op.bytesLess a.fn.toList b.fn.toList = true ∨ (a.fn = b.fn ∧ (a.code < b.code ∨ (a.code = b.code ∧ Op.bytesLess a.name.toList b.name.toList = true))) := by
  unfold aheadB
  by_cases h1 : a.fn = b.fn
  · rw [h1, bl_irr]
    rw [if_neg (by simp)]
    by_cases h2 : a.code = b.code
    · rw [if_neg (by simp [h2])]; simp [h2]
    · rw [if_pos (by simp [h2])]; simp [h2]
  · have h1' : ¬ a.fn.toList = b.fn.toList := fun h => h1 (toList_inj h)
    rw [if_pos (by simpa using h1')]
    simp [h1]
theorem aheadB_irr (a : Dg) : aheadB a a = false := by
  cases h : aheadB a a with
  | false => rfl
  | true =>
    rw [aheadB_iff, bl_irr, bl_irr] at h
    simp at h
theorem aheadB_trans {a b c : Dg} (h1 : aheadB a b = true) (h2 : aheadB b c = true) : aheadB a c = true := by
  rw [aheadB_iff] at *
  rcases h1 with h1 | ⟨e1, h1⟩
  · rcases h2 with h2 | ⟨e2, h2⟩
    · exact Or.inl (bl_trans h1 h2)
    · rw [← e2]; exact Or.inl h1
  · rcases h2 with h2 | ⟨e2, h2⟩
    · rw [e1]; exact Or.inl h2
    · refine Or.inr ⟨e1.trans e2, ?_⟩
      rcases h1 with h1 | ⟨f1, h1⟩
      · rcases h2 with h2 | ⟨f2, h2⟩
        · exact Or.inl (by omega)
        · exact Or.inl (by omega)
      · rcases h2 with h2 | ⟨f2, h2⟩
        · exact Or.inl (by omega)
        · exact Or.inr ⟨by omega, bl_trans h1 h2⟩
theorem aheadB_tri {a b : Dg} (h1 : aheadB a b = false) (h2 : aheadB b a = false) : a = b := by
  have n1 : ¬ aheadB a b = true := by rw [h1]; simp
  have n2 : ¬ aheadB b a = true := by rw [h2]; simp
  rw [aheadB_iff] at n1 n2
  have e1 : a.fn.toList = b.fn.toList := bl_tri (Bool.eq_false_iff.2 fun h => n1 (Or.inl h)) (Bool.eq_false_iff.2 fun h => n2 (Or.inl h))
  have e1' := toList_inj e1
  have e2 : a.code = b.code := by
    have a1 : ¬ a.code < b.code := fun h => n1 (Or.inr ⟨e1', Or.inl h⟩)
    have a2 : ¬ b.code < a.code := fun h => n2 (Or.inr ⟨e1'.symm, Or.inl h⟩)
    omega
  have e3 : a.name.toList = b.name.toList := bl_tri (Bool.eq_false_iff.2 fun h => n1 (Or.inr ⟨e1', Or.inr ⟨e2, h⟩⟩)) (Bool.eq_false_iff.2 fun h => n2 (Or.inr ⟨e1'.symm, Or.inr ⟨e2.symm, h⟩⟩))
  have e3' := toList_inj e3
  cases a; cases b; simp_all
theorem sameD_iff {a b : Dg} : sameD a b = true ↔ a = b := by
  unfold sameD
  simp only [Bool.and_eq_true, beq_iff_eq]
  constructor
  · rintro ⟨⟨h1, h2⟩, h3⟩
    have h2' := toList_inj h2
    have h3' := toList_inj h3
    cases a; cases b; simp_all
  · rintro rfl; simp
def Asc (l : List Dg) : Prop := l.Pairwise fun a b => aheadB a b = true
theorem mem_ins {l : List Dg} {d x : Dg} : x ∈ ins l d ↔ x ∈ l ∨ x = d := by
  induction l with
  | nil => simp [ins]
  | cons y r ih =>
    unfold ins
    split
    · simp only [List.mem_cons, ih, or_assoc]
    · split
      · rename_i h; rw [sameD_iff] at h; subst h; simp only [List.mem_cons]
        constructor
        · exact fun h => Or.inl h
        · rintro (h | h)
          · exact h
          · exact Or.inl h
      · simp only [List.mem_cons]
        constructor
        · rintro (h | h | h)
          · exact Or.inr h
          · exact Or.inl (Or.inl h)
          · exact Or.inl (Or.inr h)
        · rintro ((h | h) | h)
          · exact Or.inr (Or.inl h)
          · exact Or.inr (Or.inr h)
          · exact Or.inl h
theorem asc_ins {l : List Dg} {d : Dg} (h : Asc l) : Asc (ins l d) := by
  induction l with
  | nil => simp [ins, Asc]
  | cons y r ih =>
    have h0 : (∀ z ∈ r, aheadB y z = true) ∧ Asc r := List.pairwise_cons.1 h
    unfold ins
    split
    · rename_i hy
      refine List.pairwise_cons.2 ⟨fun z hz => ?_, ih h0.2⟩
      rcases mem_ins.1 hz with hz | rfl
      · exact h0.1 z hz
      · exact hy
    · rename_i hy
      split
      · exact h
      · rename_i hs
        have hdy : aheadB d y = true := by
          cases hc : aheadB d y with
          | true => rfl
          | false => exact absurd (sameD_iff.2 (aheadB_tri (by simpa using hy) hc)) hs
        refine List.pairwise_cons.2 ⟨fun z hz => ?_, h⟩
        rcases List.mem_cons.1 hz with rfl | hz
        · exact hdy
        · exact aheadB_trans hdy (h0.1 z hz)
theorem foldl_ins {l acc : List Dg} (h : Asc acc) : Asc (l.foldl ins acc) ∧ ∀ x, x ∈ l.foldl ins acc ↔ x ∈ acc ∨ x ∈ l := by
  induction l generalizing acc with
  | nil => exact ⟨h, fun x => by simp⟩
  | cons y r ih =>
    obtain ⟨h1, h2⟩ := ih (asc_ins (d := y) h)
    refine ⟨h1, fun x => ?_⟩
    rw [List.foldl_cons, h2 x, mem_ins, List.mem_cons, or_assoc]
theorem once_asc (l : List Dg) : Asc (once l) := (foldl_ins (l := l) (acc := []) List.Pairwise.nil).1
theorem once_mem (l : List Dg) (x : Dg) : x ∈ once l ↔ x ∈ l := by
  rw [once, (foldl_ins (l := l) (acc := []) List.Pairwise.nil).2 x]; simp
theorem asc_unique : ∀ {l1 l2 : List Dg}, Asc l1 → Asc l2 → (∀ x, x ∈ l1 ↔ x ∈ l2) → l1 = l2
  | [], [], _, _, _ => rfl
  | [], y :: _, _, _, h => absurd ((h y).2 (by simp)) (by simp)
  | x :: _, [], _, _, h => absurd ((h x).1 (by simp)) (by simp)
  | x :: r, y :: s, h1, h2, h => by
    have a1 : (∀ z ∈ r, aheadB x z = true) ∧ Asc r := List.pairwise_cons.1 h1
    have a2 : (∀ z ∈ s, aheadB y z = true) ∧ Asc s := List.pairwise_cons.1 h2
    have irr : ∀ {a b : Dg}, aheadB a b = true → aheadB b a = true → False := fun {a b} p q => by
      have := aheadB_irr a
      rw [aheadB_trans p q] at this
      cases this
    have hxy : x = y := by
      rcases List.mem_cons.1 ((h x).1 (by simp)) with e | hx
      · exact e
      · rcases List.mem_cons.1 ((h y).2 (by simp)) with e | hy
        · exact e.symm
        · exact (irr (a1.1 y hy) (a2.1 x hx)).elim
    subst hxy
    congr 1
    refine asc_unique a1.2 a2.2 fun z => ?_
    constructor
    · intro hz
      rcases List.mem_cons.1 ((h z).1 (List.mem_cons_of_mem _ hz)) with e | hz'
      · subst e; have := aheadB_irr z; rw [a1.1 z hz] at this; cases this
      · exact hz'
    · intro hz
      rcases List.mem_cons.1 ((h z).2 (List.mem_cons_of_mem _ hz)) with e | hz'
      · subst e; have := aheadB_irr z; rw [a2.1 z hz] at this; cases this
      · exact hz'
end Nm
end Go.Proofs.YtholefgckcoklaaGreatDoor
