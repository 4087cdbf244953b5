/- How deep the brackets of a module's text are nested: what the text's bytes say, and what the tree says. -/
import Derived.Test.YtnheahdcfadclaaGreatDoorZAT
namespace Go.Proofs.YtnheahdcfadclaaGreatDoor
open Go.RowKit

namespace Lat
def bal : List UInt8 → Int
  | [] => 0
  | b :: l => step b + bal l
/-- The most brackets that stand open. -/
def pk : List UInt8 → Int
  | [] => 0
  | b :: l => max 0 (step b + pk l)
def dpt (t : ByteArray) : Nat := (pk t.data.toList).toNat
def Bal (t : ByteArray) : Prop := bal t.data.toList = 0
end Lat

theorem pk_nonneg : ∀ l, 0 ≤ Lat.pk l
  | [] => Int.le_refl _
  | b :: l => by simp only [Lat.pk]; omega
theorem bal_app : ∀ a b, Lat.bal (a ++ b) = Lat.bal a + Lat.bal b
  | [], b => by simp [Lat.bal]
  | c :: a, b => by simp only [List.cons_append, Lat.bal, bal_app a b]; omega
theorem pk_app : ∀ a b, Lat.pk (a ++ b) = max (Lat.pk a) (Lat.bal a + Lat.pk b)
  | [], b => by have := pk_nonneg b; simp only [List.nil_append, Lat.pk, Lat.bal]; omega
  | c :: a, b => by simp only [List.cons_append, Lat.pk, Lat.bal, pk_app a b]; omega
theorem flat_pk : ∀ {l : List UInt8}, (∀ b ∈ l, Lat.step b = 0) → Lat.pk l = 0 ∧ Lat.bal l = 0
  | [], _ => ⟨rfl, rfl⟩
  | b :: l, h => by
    obtain ⟨h1, h2⟩ := flat_pk (l := l) (fun c hc => h c (by simp [hc]))
    have h3 := h b (by simp)
    simp only [Lat.pk, Lat.bal, h1, h2, h3]
    exact ⟨by omega, by omega⟩
theorem dpt_eq (t : ByteArray) : (Lat.dpt t : Int) = Lat.pk t.data.toList := by
  have := pk_nonneg t.data.toList
  unfold Lat.dpt; omega
theorem step_blank : Lat.step 32 = 0 := by decide
theorem tail_pk : ∀ {l : List ByteArray}, (∀ t ∈ l, Lat.Bal t) → Lat.pk (Lib.joinTail [32] (l.map (·.data.toList))) = (Lat.maxN Lat.dpt l : Nat) ∧ Lat.bal (Lib.joinTail [32] (l.map (·.data.toList))) = 0
  | [], _ => ⟨rfl, rfl⟩
  | t :: l, h => by
    obtain ⟨h1, h2⟩ := tail_pk (l := l) (fun c hc => h c (by simp [hc]))
    have h3 : Lat.bal t.data.toList = 0 := h t (by simp)
    have h4 := dpt_eq t
    have h5 := pk_nonneg t.data.toList
    rw [List.map_cons, tail_cons, maxN_cons]
    simp only [Lat.pk, Lat.bal, pk_app, bal_app, h1, h2, h3, step_blank]
    exact ⟨by omega, by omega⟩
theorem join_pk {l : List ByteArray} (h : ∀ t ∈ l, Lat.Bal t) : Lat.pk (Lib.join (l.map (·.data.toList)) [32]) = (Lat.maxN Lat.dpt l : Nat) ∧ Lat.bal (Lib.join (l.map (·.data.toList)) [32]) = 0 := by
  cases l with
  | nil => exact ⟨rfl, rfl⟩
  | cons t l =>
    obtain ⟨h1, h2⟩ := tail_pk (l := l) (fun c hc => h c (by simp [hc]))
    have h3 : Lat.bal t.data.toList = 0 := h t (by simp)
    have h4 := dpt_eq t
    rw [List.map_cons, Lib.join_cons, pk_app, bal_app, h1, h2, h3, maxN_cons]
    exact ⟨by omega, by omega⟩
theorem step_open : Lat.step 40 = 1 := by decide
theorem step_shut : Lat.step 41 = -1 := by decide
theorem brk_dpt {l : List ByteArray} (h : ∀ t ∈ l, Lat.Bal t) : Lat.dpt (Lat.brk l) = 1 + Lat.maxN Lat.dpt l ∧ Lat.Bal (Lat.brk l) := by
  obtain ⟨h1, h2⟩ := join_pk h
  have h3 := dpt_eq (Lat.brk l)
  rw [brk_list] at h3
  simp only [Lat.pk, pk_app, h1, h2, step_open, step_shut] at h3
  refine ⟨by omega, ?_⟩
  unfold Lat.Bal
  rw [brk_list]
  simp only [Lat.bal, bal_app, h2, step_open, step_shut]
  omega
theorem flat_dpt {t : ByteArray} (h : ∀ b ∈ t.data.toList, Lat.step b = 0) : Lat.dpt t = 0 ∧ Lat.Bal t := by
  obtain ⟨h1, h2⟩ := flat_pk h
  exact ⟨by unfold Lat.dpt; rw [h1]; rfl, h2⟩

theorem pk_iff : ∀ (l : List UInt8) (c : Int), 0 ≤ c → (c < Lat.pk l ↔ ∃ j, j < l.length ∧ c < Lat.bal (l.take (j + 1)))
  | [], c, hc => ⟨fun h => by simp only [Lat.pk] at h; omega, fun ⟨j, hj, _⟩ => absurd hj (Nat.not_lt_zero _)⟩
  | b :: l, c, hc => by
    have hp := pk_nonneg l
    constructor
    · intro h
      simp only [Lat.pk] at h
      by_cases h0 : 0 ≤ c - Lat.step b
      · obtain ⟨j, hj, hb⟩ := (pk_iff l (c - Lat.step b) h0).1 (by omega)
        exact ⟨j + 1, by simpa using hj, by rw [List.take_succ_cons]; simp only [Lat.bal]; omega⟩
      · exact ⟨0, by simp, by simp only [List.take_succ_cons, List.take_zero, Lat.bal]; omega⟩
    · rintro ⟨j, hj, hb⟩
      rw [List.take_succ_cons] at hb
      simp only [Lat.bal] at hb
      simp only [Lat.pk]
      cases j with
      | zero => simp only [List.take_zero, Lat.bal] at hb; omega
      | succ j =>
        by_cases h0 : 0 ≤ c - Lat.step b
        · have := (pk_iff l (c - Lat.step b) h0).2 ⟨j, by simpa using hj, by omega⟩
          omega
        · omega
theorem openTo_bal (t : ByteArray) : ∀ j, j ≤ t.size → Lat.openTo t j = Lat.bal (t.data.toList.take j)
  | 0, _ => rfl
  | j + 1, hj => by
    have hj' : j < t.data.toList.length := by rw [size_list]; omega
    rw [openTo_succ t j (by omega), openTo_bal t j (by omega), List.take_succ_eq_append_getElem hj', bal_app]
    simp only [Lat.bal]
    have : t[j] = t.data.toList[j] := rfl
    rw [this]; omega
theorem deepB_dpt (t : ByteArray) : Lat.deepB t = decide (20 < Lat.dpt t) := by
  have h0 := dpt_eq t
  by_cases h : 20 < Lat.dpt t
  · rw [decide_eq_true h]
    obtain ⟨j, hj, hb⟩ := (pk_iff t.data.toList 20 (by omega)).1 (by omega)
    rw [size_list] at hj
    exact deepB_at hj (by rw [openTo_bal t (j + 1) (by omega)]; exact hb)
  · rw [decide_eq_false h]
    refine deepB_not (fun j hj hb => h ?_)
    rw [openTo_bal t (j + 1) (by omega)] at hb
    have := (pk_iff t.data.toList 20 (by omega)).2 ⟨j, by rw [size_list]; omega, hb⟩
    omega

theorem step_letter {c : UInt8} (h : Lat.letterB c = true) : Lat.step c = 0 := by
  unfold Lat.letterB at h
  simp only [Bool.and_eq_true, decide_eq_true_eq] at h
  unfold Lat.step
  rw [if_neg (by rintro rfl; exact absurd h.1 (by decide)), if_neg (by rintro rfl; exact absurd h.1 (by decide))]
theorem name_flat {l : List UInt8} (h : Lat.nameB l = true) : ∀ b ∈ l, Lat.step b = 0 := by
  unfold Lat.nameB at h
  simp only [Bool.and_eq_true] at h
  exact fun b hb => step_letter (List.all_eq_true.1 h.2 b hb)
theorem op_flat {s : ByteArray} (h : Lat.opB s = true) : ∀ b ∈ s.data.toList, Lat.step b = 0 := by
  by_cases h1 : s.size = 1
  · obtain ⟨c, rfl⟩ := one_byte h1
    have : ∀ c : Fin 256, Lat.opB ⟨#[UInt8.ofFin c]⟩ = true → Lat.step (UInt8.ofFin c) = 0 := by decide +kernel
    intro b hb
    simp at hb
    subst hb
    exact this b.toFin h
  · rw [op_size h1] at h; cases h
theorem step_dot : Lat.step 46 = 0 := by decide
theorem call_flat {s : ByteArray} (h : Lat.callB s = true) : ∀ b ∈ s.data.toList, Lat.step b = 0 := by
  unfold Lat.callB at h
  simp only [Bool.and_eq_true, Bool.or_eq_true, Bool.not_eq_true'] at h
  cases hd : Lat.dotAt s with
  | none =>
    have h1 := h.1
    unfold Lat.preS at h1
    rw [hd] at h1
    exact name_flat h1
  | some i =>
    have h1 := h.1
    have h2 : Lat.nameB (Lat.sufS s).data.toList = true := by
      rcases h.2 with h2 | h2
      · rw [hd] at h2; cases h2
      · exact h2
    unfold Lat.preS at h1
    unfold Lat.sufS at h2
    rw [hd] at h1 h2
    obtain ⟨hi, hdot⟩ := Lat.find_spec hd
    intro b hb
    obtain ⟨k, hk, rfl⟩ := List.mem_iff_getElem.1 hb
    have hks : k < s.size := by rw [size_list] at hk; exact hk
    have e1 : (s.extract 0 i).data.toList = s.data.toList.take i := by simp [ByteArray.data_extract]
    have e2 : (s.extract (i + 1) s.size).data.toList = s.data.toList.drop (i + 1) := by
      simp [ByteArray.data_extract]
      exact List.take_of_length_le (by rw [List.length_drop, size_list]; omega)
    simp only [e1] at h1
    simp only [e2] at h2
    rcases Nat.lt_trichotomy k i with hlt | rfl | hgt
    · exact name_flat h1 _ (List.mem_iff_getElem.2 ⟨k, by rw [List.length_take]; omega, by rw [List.getElem_take]⟩)
    · have : s.data.toList[k] = 46 := by
        have := hdot
        simp only [beq_iff_eq] at this
        rw [List.getD, List.getElem?_eq_getElem hk] at this
        exact this
      rw [this]; exact step_dot
    · exact name_flat h2 _ (List.mem_iff_getElem.2 ⟨k - (i + 1), by rw [List.length_drop]; omega, by rw [List.getElem_drop]; congr 1; omega⟩)
theorem step_digit : ∀ d : Fin 10, Lat.step (UInt8.ofNat (48 + d.val)) = 0 := by decide
theorem dec_flat : ∀ (u : Nat), ∀ b ∈ Lib.decDigits u, Lat.step b = 0 := by
  intro u
  induction u using Nat.strongRecOn with
  | ind u ih =>
    intro b hb
    rw [Lib.decDigits] at hb
    split at hb
    · rename_i h
      rw [List.mem_singleton] at hb
      subst hb
      exact step_digit ⟨u, h⟩
    · rename_i h
      rcases List.mem_append.1 hb with hb | hb
      · exact ih (u / 10) (by omega) b hb
      · rw [List.mem_singleton] at hb
        subst hb
        exact step_digit ⟨u % 10, by omega⟩
theorem num_flat {n : Int} (h : 0 ≤ n) : ∀ b ∈ (⟨(Lib.itoa n).toArray⟩ : ByteArray).data.toList, Lat.step b = 0 := by
  intro b hb
  have hb' : b ∈ Lib.itoa n := by simpa using hb
  unfold Lib.itoa at hb'
  rw [if_neg (by omega)] at hb'
  exact dec_flat _ b hb'

theorem maxN_map {α β : Type} {f : β → Nat} {g : α → β} (l : List α) : Lat.maxN f (l.map g) = Lat.maxN (fun y => f (g y)) l := by
  induction l with
  | nil => rfl
  | cons y l ih => rw [List.map_cons, maxN_cons, maxN_cons, ih]
theorem maxN_congr {α : Type} {f g : α → Nat} {l : List α} (h : ∀ y ∈ l, f y = g y) : Lat.maxN f l = Lat.maxN g l := by
  induction l with
  | nil => rfl
  | cons y l ih => rw [maxN_cons, maxN_cons, h y (by simp), ih (fun z hz => h z (by simp [hz]))]
theorem maxN_zero {α : Type} {f : α → Nat} {l : List α} (h : ∀ y ∈ l, f y = 0) : Lat.maxN f l = 0 := by
  have := maxN_le (f := f) (B := 0) (l := l) (fun y hy => by rw [h y hy]; omega)
  omega
theorem maxN_nil {α : Type} {f : α → Nat} : Lat.maxN f [] = 0 := rfl

theorem exT_dpt : ∀ (m : Nat) (x : Ex), Lat.exprB m x = true → Lat.dpt (Lat.exT m x) = Lat.exD m x ∧ Lat.Bal (Lat.exT m x)
  | 0, x, h => by simp [Lat.exprB] at h
  | m + 1, x, h => by
    rw [exprB_parts, Bool.and_eq_true] at h
    obtain ⟨hp, hall⟩ := h
    have hargs : ∀ y ∈ x.args, Lat.dpt (Lat.exT m y) = Lat.exD m y ∧ Lat.Bal (Lat.exT m y) := fun y hy => exT_dpt m y (List.all_eq_true.1 hall y hy)
    unfold Lat.partsB at hp
    by_cases h1 : x.kind = 1
    · rw [if_pos h1] at hp
      simp only [Bool.and_eq_true, decide_eq_true_eq] at hp
      have := flat_dpt (num_flat hp.1.1.1)
      simp only [Lat.exT, Lat.exD]
      rw [if_pos h1, if_pos (Or.inl h1)]
      exact this
    rw [if_neg h1] at hp
    by_cases h2 : x.kind = 2
    · rw [if_pos h2] at hp
      simp only [Bool.and_eq_true] at hp
      have := flat_dpt (name_flat hp.1.1)
      simp only [Lat.exT, Lat.exD]
      rw [if_neg h1, if_pos h2, if_pos (Or.inr h2)]
      exact this
    rw [if_neg h2] at hp
    have hD : Lat.exD (m + 1) x = 1 + Lat.maxN (Lat.exD m) x.args := by
      simp only [Lat.exD]; rw [if_neg (by omega)]
    have hT : Lat.exT (m + 1) x = x.args.foldl (Lat.exStep (Lat.exT m)) (Lat.exHead x) ++ (⟨#[41]⟩ : ByteArray) := by
      simp only [Lat.exT]; rw [if_neg h1, if_neg h2]
    have hM : Lat.maxN Lat.dpt (x.args.map (Lat.exT m)) = Lat.maxN (Lat.exD m) x.args := by
      rw [maxN_map]; exact maxN_congr (fun y hy => (hargs y hy).1)
    have hB : ∀ t ∈ x.args.map (Lat.exT m), Lat.Bal t := fun t ht => by
      obtain ⟨y, hy, rfl⟩ := List.mem_map.1 ht
      exact (hargs y hy).2
    by_cases h3 : x.kind = 3
    · rw [if_pos h3] at hp
      simp only [Bool.and_eq_true] at hp
      obtain ⟨f1, f2⟩ := flat_dpt (op_flat hp.1.1)
      rw [hT, ← op_text x (Lat.exT m) (by omega), hD]
      obtain ⟨g1, g2⟩ := brk_dpt (l := x.name :: x.args.map (Lat.exT m)) (fun t ht => by
        rcases List.mem_cons.1 ht with rfl | ht
        · exact f2
        · exact hB t ht)
      refine ⟨?_, g2⟩
      rw [g1, maxN_cons, f1, hM]; omega
    rw [if_neg h3] at hp
    by_cases h4 : x.kind = 4
    · rw [if_pos h4] at hp
      simp only [Bool.and_eq_true] at hp
      obtain ⟨f1, f2⟩ := flat_dpt (call_flat hp.1.1)
      obtain ⟨k1, k2⟩ : Lat.dpt ⟨#[99, 97, 108, 108]⟩ = 0 ∧ Lat.Bal ⟨#[99, 97, 108, 108]⟩ := flat_dpt (by decide)
      rw [hT, ← call_text x (Lat.exT m) h4, hD]
      obtain ⟨g1, g2⟩ := brk_dpt (l := ⟨#[99, 97, 108, 108]⟩ :: x.name :: x.args.map (Lat.exT m)) (fun t ht => by
        rcases List.mem_cons.1 ht with rfl | ht
        · exact k2
        · rcases List.mem_cons.1 ht with rfl | ht
          · exact f2
          · exact hB t ht)
      refine ⟨?_, g2⟩
      rw [g1, maxN_cons, maxN_cons, k1, f1, hM]; omega
    rw [if_neg h4] at hp
    cases hp

theorem txs_dpt : ∀ (m : Nat) (l : List St), Lat.bodyB m l = true → Lat.maxN Lat.dpt (Lat.txs m l) = Lat.bdD m l ∧ ∀ t ∈ Lat.txs m l, Lat.Bal t
  | 0, l, h => by simp [Lat.bodyB] at h
  | m + 1, l, h => by
    rw [Lat.bodyB_succ] at h
    have hst : ∀ s ∈ l, Lat.dpt (Lat.stX m s) = Lat.stD m s ∧ Lat.Bal (Lat.stX m s) := fun s hs => by
      have h1 := List.all_eq_true.1 h s hs
      unfold Lat.stB at h1
      simp only [Bool.and_eq_true] at h1
      obtain ⟨⟨⟨okh, oke⟩, oka⟩, okb⟩ := h1
      obtain ⟨x1, x2⟩ := exT_dpt m s.e oke
      obtain ⟨a1, a2⟩ := txs_dpt m s.a oka
      obtain ⟨b1, b2⟩ := txs_dpt m s.b okb
      obtain ⟨a3, a4⟩ := brk_dpt a2
      obtain ⟨b3, b4⟩ := brk_dpt b2
      unfold Lat.stH at okh
      by_cases k14 : s.kind = 1 ∨ s.kind = 4
      · rw [if_pos k14] at okh
        simp only [Bool.and_eq_true] at okh
        obtain ⟨n1, n2⟩ := flat_dpt (name_flat okh.1.1)
        have hd : Lat.stD m s = 1 + Lat.exD m s.e := by unfold Lat.stD; rw [if_neg (by omega)]
        rw [hd]
        rcases k14 with hk | hk
        · rw [← set_text m s hk]
          obtain ⟨w1, w2⟩ : Lat.dpt ⟨#[115, 101, 116]⟩ = 0 ∧ Lat.Bal ⟨#[115, 101, 116]⟩ := flat_dpt (by decide)
          obtain ⟨g1, g2⟩ := brk_dpt (l := [⟨#[115, 101, 116]⟩, s.name, Lat.exT m s.e]) (by
            intro t ht
            simp only [List.mem_cons, List.not_mem_nil, or_false] at ht
            rcases ht with rfl | rfl | rfl <;> assumption)
          refine ⟨?_, g2⟩
          rw [g1, maxN_cons, maxN_cons, maxN_cons, maxN_nil, w1, n1, x1]; omega
        · rw [← print_text m s hk]
          obtain ⟨w1, w2⟩ : Lat.dpt ⟨#[112, 114, 105, 110, 116]⟩ = 0 ∧ Lat.Bal ⟨#[112, 114, 105, 110, 116]⟩ := flat_dpt (by decide)
          obtain ⟨g1, g2⟩ := brk_dpt (l := [⟨#[112, 114, 105, 110, 116]⟩, s.name, Lat.exT m s.e]) (by
            intro t ht
            simp only [List.mem_cons, List.not_mem_nil, or_false] at ht
            rcases ht with rfl | rfl | rfl <;> assumption)
          refine ⟨?_, g2⟩
          rw [g1, maxN_cons, maxN_cons, maxN_cons, maxN_nil, w1, n1, x1]; omega
      rw [if_neg k14] at okh
      by_cases k2 : s.kind = 2
      · have hd : Lat.stD m s = 1 + max (max (Lat.exD m s.e) (1 + Lat.bdD m s.a)) (1 + Lat.bdD m s.b) := by unfold Lat.stD; rw [if_pos (Or.inl k2)]
        rw [hd, ← if_text m s k2]
        obtain ⟨w1, w2⟩ : Lat.dpt ⟨#[105, 102]⟩ = 0 ∧ Lat.Bal ⟨#[105, 102]⟩ := flat_dpt (by decide)
        obtain ⟨g1, g2⟩ := brk_dpt (l := [⟨#[105, 102]⟩, Lat.exT m s.e, Lat.brk (Lat.txs m s.a), Lat.brk (Lat.txs m s.b)]) (by
          intro t ht
          simp only [List.mem_cons, List.not_mem_nil, or_false] at ht
          rcases ht with rfl | rfl | rfl | rfl <;> assumption)
        refine ⟨?_, g2⟩
        rw [g1, maxN_cons, maxN_cons, maxN_cons, maxN_cons, maxN_nil, w1, x1, a3, b3, a1, b1]; omega
      rw [if_neg k2] at okh
      by_cases k3 : s.kind = 3
      · rw [if_pos k3] at okh
        simp only [Bool.and_eq_true, beq_iff_eq] at okh
        have hb0 : s.b = [] := List.length_eq_zero_iff.1 okh.2
        have hbd : Lat.bdD m s.b = 0 := by rw [hb0]; cases m <;> rfl
        have hd : Lat.stD m s = 1 + max (max (Lat.exD m s.e) (1 + Lat.bdD m s.a)) (1 + Lat.bdD m s.b) := by unfold Lat.stD; rw [if_pos (Or.inr k3)]
        rw [hd, ← while_text m s k3]
        obtain ⟨w1, w2⟩ : Lat.dpt ⟨#[119, 104, 105, 108, 101]⟩ = 0 ∧ Lat.Bal ⟨#[119, 104, 105, 108, 101]⟩ := flat_dpt (by decide)
        obtain ⟨g1, g2⟩ := brk_dpt (l := [⟨#[119, 104, 105, 108, 101]⟩, Lat.exT m s.e, Lat.brk (Lat.txs m s.a)]) (by
          intro t ht
          simp only [List.mem_cons, List.not_mem_nil, or_false] at ht
          rcases ht with rfl | rfl | rfl <;> assumption)
        refine ⟨?_, g2⟩
        rw [g1, maxN_cons, maxN_cons, maxN_cons, maxN_nil, w1, x1, a3, a1, hbd]; omega
      rw [if_neg k3] at okh
      cases okh
    simp only [Lat.txs]
    rw [Lat.bdD_succ, maxN_map]
    refine ⟨maxN_congr (fun s hs => (hst s hs).1), fun t ht => ?_⟩
    obtain ⟨s, hs, rfl⟩ := List.mem_map.1 ht
    exact (hst s hs).2

theorem fuX_dpt {m : Nat} {f : Fu} (h : Lat.fuOk m f = true) : Lat.dpt (Lat.fuX m f) = Lat.fuD m f ∧ Lat.Bal (Lat.fuX m f) := by
  unfold Lat.fuOk at h
  simp only [Bool.and_eq_true] at h
  obtain ⟨⟨⟨hn, hb⟩, hx⟩, hp⟩ := h
  obtain ⟨n1, n2⟩ := flat_dpt (name_flat hn)
  obtain ⟨b1, b2⟩ := txs_dpt m f.body hb
  obtain ⟨x1, x2⟩ := exT_dpt m f.result hx
  have hpar : ∀ p ∈ f.params, Lat.dpt p = 0 ∧ Lat.Bal p := fun p hpm => flat_dpt (name_flat (List.all_eq_true.1 hp p hpm))
  obtain ⟨p1, p2⟩ := brk_dpt (l := f.params) (fun p hpm => (hpar p hpm).2)
  rw [maxN_zero (fun p hpm => (hpar p hpm).1)] at p1
  obtain ⟨w1, w2⟩ : Lat.dpt ⟨#[102, 117, 110]⟩ = 0 ∧ Lat.Bal ⟨#[102, 117, 110]⟩ := flat_dpt (by decide)
  have hfl : [[(⟨#[102, 117, 110]⟩ : ByteArray), f.name, Lat.brk f.params], Lat.txs m f.body, [Lat.exT m f.result]].flatten = ⟨#[102, 117, 110]⟩ :: f.name :: Lat.brk f.params :: (Lat.txs m f.body ++ [Lat.exT m f.result]) := by simp
  unfold Lat.fuX
  rw [hfl]
  obtain ⟨g1, g2⟩ := brk_dpt (l := ⟨#[102, 117, 110]⟩ :: f.name :: Lat.brk f.params :: (Lat.txs m f.body ++ [Lat.exT m f.result])) (by
    intro t ht
    simp only [List.mem_cons, List.mem_append, List.not_mem_nil, or_false] at ht
    rcases ht with rfl | rfl | rfl | ht | rfl
    · exact w2
    · exact n2
    · exact p2
    · exact b2 t ht
    · exact x2)
  refine ⟨?_, g2⟩
  rw [g1, maxN_cons, maxN_cons, maxN_cons, maxN_append, maxN_cons, maxN_nil, w1, n1, p1, b1, x1]
  unfold Lat.fuD; omega

theorem moT_dpt {m : Nat} {x : Mo} (hm : x.funs ≠ [] → m ≠ 0) (hn : Lat.strB x.name = true) (hi : x.imports.all Lat.strB = true) (hv : x.vars.all Lat.vaB = true) (hf : ∀ f ∈ x.funs, Lat.fuOk m f = true) :
    Lat.deepB (Lat.moT m x) = decide (20 < Lat.moD m x) := by
  rw [deepB_dpt, ← moX_eq hm]
  obtain ⟨n1, n2⟩ := flat_dpt (name_flat hn)
  have hI : ∀ y ∈ x.imports, Lat.dpt (Lat.impX y) = 1 ∧ Lat.Bal (Lat.impX y) := fun y hy => by
    obtain ⟨f1, f2⟩ := flat_dpt (name_flat (List.all_eq_true.1 hi y hy))
    obtain ⟨w1, w2⟩ : Lat.dpt ⟨#[105, 109, 112, 111, 114, 116]⟩ = 0 ∧ Lat.Bal ⟨#[105, 109, 112, 111, 114, 116]⟩ := flat_dpt (by decide)
    obtain ⟨g1, g2⟩ := brk_dpt (l := [⟨#[105, 109, 112, 111, 114, 116]⟩, y]) (by
      intro t ht
      simp only [List.mem_cons, List.not_mem_nil, or_false] at ht
      rcases ht with rfl | rfl <;> assumption)
    refine ⟨?_, g2⟩
    unfold Lat.impX
    rw [g1, maxN_cons, maxN_cons, maxN_nil, w1, f1]; omega
  have hV : ∀ y ∈ x.vars, Lat.dpt (Lat.vaX y) = 1 ∧ Lat.Bal (Lat.vaX y) := fun y hy => by
    have hy' := List.all_eq_true.1 hv y hy
    unfold Lat.vaB at hy'
    simp only [Bool.and_eq_true] at hy'
    obtain ⟨f1, f2⟩ := flat_dpt (name_flat hy'.1)
    obtain ⟨e1, e2⟩ := flat_dpt (name_flat hy'.2)
    obtain ⟨w1, w2⟩ : Lat.dpt ⟨#[118, 97, 114]⟩ = 0 ∧ Lat.Bal ⟨#[118, 97, 114]⟩ := flat_dpt (by decide)
    obtain ⟨g1, g2⟩ := brk_dpt (l := [⟨#[118, 97, 114]⟩, y.name, y.level]) (by
      intro t ht
      simp only [List.mem_cons, List.not_mem_nil, or_false] at ht
      rcases ht with rfl | rfl | rfl <;> assumption)
    refine ⟨?_, g2⟩
    unfold Lat.vaX
    rw [g1, maxN_cons, maxN_cons, maxN_cons, maxN_nil, w1, f1, e1]; omega
  obtain ⟨w1, w2⟩ : Lat.dpt ⟨#[109, 111, 100, 117, 108, 101]⟩ = 0 ∧ Lat.Bal ⟨#[109, 111, 100, 117, 108, 101]⟩ := flat_dpt (by decide)
  have hfl : [[(⟨#[109, 111, 100, 117, 108, 101]⟩ : ByteArray), x.name], x.imports.map Lat.impX, x.vars.map Lat.vaX, x.funs.map (Lat.fuX m)].flatten = ⟨#[109, 111, 100, 117, 108, 101]⟩ :: x.name :: (x.imports.map Lat.impX ++ (x.vars.map Lat.vaX ++ x.funs.map (Lat.fuX m))) := by simp
  unfold Lat.moX
  rw [hfl]
  obtain ⟨g1, _⟩ := brk_dpt (l := ⟨#[109, 111, 100, 117, 108, 101]⟩ :: x.name :: (x.imports.map Lat.impX ++ (x.vars.map Lat.vaX ++ x.funs.map (Lat.fuX m)))) (by
    intro t ht
    simp only [List.mem_cons, List.mem_append, List.mem_map] at ht
    rcases ht with rfl | rfl | ⟨y, hy, rfl⟩ | ⟨y, hy, rfl⟩ | ⟨y, hy, rfl⟩
    · exact w2
    · exact n2
    · exact (hI y hy).2
    · exact (hV y hy).2
    · exact (fuX_dpt (hf y hy)).2)
  have m1 : Lat.maxN Lat.dpt (x.imports.map Lat.impX) ≤ 1 := by rw [maxN_map]; exact maxN_le (fun y hy => by rw [(hI y hy).1]; omega)
  have m2 : Lat.maxN Lat.dpt (x.vars.map Lat.vaX) ≤ 1 := by rw [maxN_map]; exact maxN_le (fun y hy => by rw [(hV y hy).1]; omega)
  have m3 : Lat.maxN Lat.dpt (x.funs.map (Lat.fuX m)) = Lat.maxN (Lat.fuD m) x.funs := by rw [maxN_map]; exact maxN_congr (fun y hy => (fuX_dpt (hf y hy)).1)
  rw [g1, maxN_cons, maxN_cons, maxN_append, maxN_append, w1, n1, m3]
  unfold Lat.moD
  exact decide_eq_decide.2 (by omega)

end Go.Proofs.YtnheahdcfadclaaGreatDoor

/- Walks over package tree: checkFun, Check, Print: what the document asks. -/
namespace Go.Proofs.YtnheahdcfadclaaGreatDoor
open Go.RowKit

namespace Lat
/-- What Print answers. -/
def prT (m : Nat) (x : Mo) : ByteArray := if moE m x = 0 then moT m x else ⟨#[]⟩
end Lat

theorem ret_print {a b : ByteArray} {c d : Int} (h : a = b) (h' : c = d) : Ending.returned (.tuple #[.string a, .int .i64 c]) = .returned (.tuple #[.string b, .int .i64 d]) := by rw [h, h']

set_option maxHeartbeats 2000000 in
set_option maxRecDepth 100000 in
theorem checkFun_any (m : Nat) (w : World) (vp vb e0 e1 e2 e3 : Value) (f : Fu) (h : FuAt w m vp vb e0 e1 e2 e3 f) :
    Calls Tryz.prog 101 #[.agg #[.string f.name, vp, vb, e0, e1, e2, e3]] w fun e w' => e = .returned (.int .i64 (Lat.fuE m f)) ∧ Below w.heap.size w w' := by
  have HS := hide h
  obtain ⟨hnm, hp, hsb, hx⟩ := h
  obtain ⟨ae, ce, rfl, rfl, rfl, rfl⟩ := hx.shape
  obtain ⟨a1, cap1, rfl, hl1⟩ := hsb.shape
  obtain ⟨a2, cap2, rfl, hl2⟩ := hp.shape
  clear hx hsb hp
  have HE : Hid (Lat.fuE m f = if 4 < f.params.length then 2 else if (Lat.nameB f.name.data.toList && Lat.bodyB m f.body && Lat.exprB m f.result && f.params.all fun s => Lat.nameB s.data.toList) then 0 else 5) := rfl
  generalize f.result.args.length = le at *
  generalize f.body.length = l1 at *
  generalize f.params.length = l2 at *
  have HB0 := hide (boxBelow w (.cells #[.string f.name, .slice a2 l2 cap2, .slice a1 l1 cap1, .int .i64 f.result.kind, .int .i64 f.result.n, .string f.result.name, .slice ae le ce] 102))
  have q0 := box7_0 w (.string f.name) (.slice a2 l2 cap2) (.slice a1 l1 cap1) (.int .i64 f.result.kind) (.int .i64 f.result.n) (.string f.result.name) (.slice ae le ce) 102
  have q1 := box7_1 w (.string f.name) (.slice a2 l2 cap2) (.slice a1 l1 cap1) (.int .i64 f.result.kind) (.int .i64 f.result.n) (.string f.result.name) (.slice ae le ce) 102
  have q2 := box7_2 w (.string f.name) (.slice a2 l2 cap2) (.slice a1 l1 cap1) (.int .i64 f.result.kind) (.int .i64 f.result.n) (.string f.result.name) (.slice ae le ce) 102
  have q3 := box7_3 w (.string f.name) (.slice a2 l2 cap2) (.slice a1 l1 cap1) (.int .i64 f.result.kind) (.int .i64 f.result.n) (.string f.result.name) (.slice ae le ce) 102
  have q4 := box7_4 w (.string f.name) (.slice a2 l2 cap2) (.slice a1 l1 cap1) (.int .i64 f.result.kind) (.int .i64 f.result.n) (.string f.result.name) (.slice ae le ce) 102
  have q5 := box7_5 w (.string f.name) (.slice a2 l2 cap2) (.slice a1 l1 cap1) (.int .i64 f.result.kind) (.int .i64 f.result.n) (.string f.result.name) (.slice ae le ce) 102
  have q6 := box7_6 w (.string f.name) (.slice a2 l2 cap2) (.slice a1 l1 cap1) (.int .i64 f.result.kind) (.int .i64 f.result.n) (.string f.result.name) (.slice ae le ce) 102
  by_cases h4 : 4 < l2
  · rw [if_pos h4] at HE
    clear q0 q1 q2 q3 q4 q5 q6
    go_enter Tryz.func101, Tryz.ntmps101
    go_wp2
    go_ret
    exact ⟨ret_int HE.out.symm, HB0.out⟩
  rw [if_neg h4] at HE
  go_enter Tryz.func101, Tryz.ntmps101
  go_wp2_with fail
  refine (isName_any _ f.name hnm).mono ?_
  rintro e w1 ⟨rfl, hw1⟩
  subst hw1
  generalize (w.alloc (.cells #[.string f.name, .slice a2 l2 cap2, .slice a1 l1 cap1, .int .i64 f.result.kind, .int .i64 f.result.n, .string f.result.name, .slice ae le ce] 102)) = W0 at *
  generalize Lat.nameB f.name.data.toList = b1 at *
  cases b1
  · go_wp2
    go_ret
    exact ⟨ret_int (by rw [HE.out]; rfl), HB0.out⟩
  go_wp2_with fail
  refine (areNames_any _ _ f.params (HS.out.below HB0.out).2.1).mono ?_
  rintro e w1 ⟨rfl, hw1⟩
  subst hw1
  generalize (f.params.all fun s => Lat.nameB s.data.toList) = b2 at *
  cases b2
  · go_wp2
    go_ret
    exact ⟨ret_int (by rw [HE.out, Bool.and_false]; rfl), HB0.out⟩
  go_wp2_with fail
  refine (areCommands_any m _ _ f.body (HS.out.below HB0.out).2.2.1).mono ?_
  rintro e w1 ⟨rfl, hb1⟩
  replace q3 := cellUp q3 hb1
  replace q4 := cellUp q4 hb1
  replace q5 := cellUp q5 hb1
  replace q6 := cellUp q6 hb1
  have HB1 := hide (up HB0.out hb1)
  clear hb1 q0 q1 q2 HB0
  generalize Lat.bodyB m f.body = b3 at *
  cases b3
  · go_wp2
    go_ret
    exact ⟨ret_int (by rw [HE.out]; rfl), HB1.out⟩
  go_wp2_with fail
  refine (isExpr_any m _ _ _ _ _ f.result (HS.out.below HB1.out).2.2.2).mono ?_
  rintro e w2 ⟨rfl, hb2⟩
  have HB2 := hide (up HB1.out hb2)
  clear hb2 q3 q4 q5 q6
  generalize Lat.exprB m f.result = b4 at *
  cases b4
  · go_wp2
    go_ret
    exact ⟨ret_int (by rw [HE.out]; rfl), HB2.out⟩
  · go_wp2
    go_ret
    exact ⟨ret_int (by rw [HE.out]; rfl), HB2.out⟩

theorem fuE_ok {m : Nat} {f : Fu} (h : Lat.fuE m f = 0) : Lat.fuOk m f = true := by
  unfold Lat.fuE at h
  split at h
  · cases h
  · split at h
    · assumption
    · cases h
theorem fusE_ok {m : Nat} : ∀ {l : List Fu}, Lat.fusE m l = 0 → ∀ f ∈ l, Lat.fuE m f = 0
  | [], _, f, hf => by cases hf
  | g :: l, h, f, hf => by
    simp only [Lat.fusE] at h
    by_cases hg : Lat.fuE m g = 0
    · rw [if_pos hg] at h
      rcases List.mem_cons.1 hf with rfl | hf
      · exact hg
      · exact fusE_ok h f hf
    · rw [if_neg hg] at h
      exact absurd h hg
theorem funs_deep {w : World} {m : Nat} {v : Value} {l : List Fu} (h : FusAt w m v l) : l ≠ [] → m ≠ 0 := by
  rintro hne rfl
  obtain ⟨a, b, off, cap, _, _, _, hel⟩ := h
  obtain ⟨f, hf⟩ : ∃ f, l[0]? = some f := ⟨_, List.getElem?_eq_getElem (List.length_pos_iff.2 hne)⟩
  obtain ⟨_, vp, vb, e0, e1, e2, e3, _, _, _, _, _, _, _, _, hsb, _⟩ := hel 0 f hf
  exact hsb

set_option maxHeartbeats 4000000 in
set_option maxRecDepth 100000 in
theorem tcheck_any (m : Nat) (w : World) (v : Value) (x : Mo) (h : MoAt w m v x) (hw : moW m x ≤ 1048576) (_ht : Tab w) :
    Calls Tryz.prog 30 #[v] w fun e w' => e = .returned (.int .i64 (Lat.moE m x)) ∧ Below w.heap.size w w' := by
  have HM := hide h
  have HMD := hide (fun W (hW : Hid (Below w.heap.size w W)) => moduleDepth_any m W v x (h.below hW.out) hw)
  obtain ⟨vi, vv, vf, rfl, hnm, hI, hV, hF⟩ := h
  have hmz := funs_deep hF
  have HDP : Hid (Lat.strB x.name = true → x.imports.all Lat.strB = true → x.vars.all Lat.vaB = true → Lat.fusE m x.funs = 0 → Lat.deepB (Lat.moT m x) = decide (20 < Lat.moD m x)) :=
    fun h1 h2 h3 h4 => moT_dpt hmz h1 h2 h3 (fun f hf => fuE_ok (fusE_ok h4 f hf))
  have HE : Hid (Lat.moE m x = if 8 < x.imports.length ∨ 8 < x.vars.length ∨ 8 < x.funs.length then 2 else if ((Lat.strB x.name && x.imports.all Lat.strB) && x.vars.all Lat.vaB) = false then 5
      else if Lat.fusE m x.funs ≠ 0 then Lat.fusE m x.funs else if Lat.deepB (Lat.moT m x) then 2 else 0) := rfl
  have HIN := hide (fun W (hW : Hid (Below w.heap.size w W)) => areNames_any W vi x.imports (hI.below hW.out))
  have HVN := hide (fun W (hW : Hid (Below w.heap.size w W)) => areVars_any W vv x.vars (hV.below hW.out))
  obtain ⟨ai, ci, rfl, hli⟩ := hI.shape
  obtain ⟨av, cv, rfl, hlv⟩ : ∃ a c, vv = .slice a x.vars.length c ∧ x.vars.length ≤ 9223372036854775807 := by
    obtain ⟨a, _, _, c, e, _, e2, _⟩ := hV
    exact ⟨a, c, e, e2⟩
  obtain ⟨a, b, off, cap, rfl, ha, hl, hel⟩ := hF
  have HEL := hide hel
  have HA := hide ha
  clear hI hV hel ha hmz hw
  obtain ⟨l, hfs⟩ : ∃ l, l = x.funs := ⟨_, rfl⟩
  rw [← hfs] at HEL HA hl HE HDP HMD ⊢
  have HFS := hide hfs
  clear hfs
  obtain ⟨len, hlen⟩ : ∃ len, len = l.length := ⟨_, rfl⟩
  have HL := hide hlen
  rw [← hlen] at hl HA HE HMD ⊢
  clear hlen
  generalize x.imports.length = li at *
  generalize x.vars.length = lv at *
  have HB0 := hide (boxBelow w (.cells #[.string x.name, .slice ai li ci, .slice av lv cv, .slice a len cap] 26))
  have q0 := boxM0 w (.string x.name) (.slice ai li ci) (.slice av lv cv) (.slice a len cap) 26
  have q1 := boxM1 w (.string x.name) (.slice ai li ci) (.slice av lv cv) (.slice a len cap) 26
  have q2 := boxM2 w (.string x.name) (.slice ai li ci) (.slice av lv cv) (.slice a len cap) 26
  have q3 := boxM3 w (.string x.name) (.slice ai li ci) (.slice av lv cv) (.slice a len cap) 26
  by_cases hbig : 8 < li ∨ 8 < lv ∨ 8 < len
  · rw [if_pos hbig] at HE
    clear q0 q1 q2 q3
    by_cases b1 : 8 < li
    · clear hbig
      go_enter Tryz.func30, Tryz.ntmps30
      go_wp2
      go_ret
      exact ⟨ret_int HE.out.symm, HB0.out⟩
    · by_cases b2 : 8 < lv
      · clear hbig
        go_enter Tryz.func30, Tryz.ntmps30
        go_wp2
        go_ret
        exact ⟨ret_int HE.out.symm, HB0.out⟩
      · have b3 : 8 < len := by omega
        clear hbig
        go_enter Tryz.func30, Tryz.ntmps30
        go_wp2
        go_ret
        exact ⟨ret_int HE.out.symm, HB0.out⟩
  rw [if_neg hbig] at HE
  have b1 : ¬ 8 < li := by omega
  have b2 : ¬ 8 < lv := by omega
  have b3 : ¬ 8 < len := by omega
  clear hbig
  go_enter Tryz.func30, Tryz.ntmps30
  go_wp2_with fail
  refine (isName_any _ x.name hnm).mono ?_
  rintro e w1 ⟨rfl, hw1⟩
  subst hw1
  generalize (w.alloc (.cells #[.string x.name, .slice ai li ci, .slice av lv cv, .slice a len cap] 26)) = W0 at *
  cases hn : Lat.nameB x.name.data.toList
  · have HN : Hid (Lat.strB x.name = false) := hn
    go_wp2
    go_ret
    exact ⟨ret_int (by rw [HE.out, HN.out]; rfl), HB0.out⟩
  have HN : Hid (Lat.strB x.name = true) := hn
  go_wp2_with fail
  refine (HIN.out _ HB0).mono ?_
  rintro e w1 ⟨rfl, hw1⟩
  subst hw1
  cases hi : (x.imports.all fun s => Lat.nameB s.data.toList)
  · have HI : Hid (x.imports.all Lat.strB = false) := hi
    go_wp2
    go_ret
    exact ⟨ret_int (by rw [HE.out, HN.out, HI.out]; rfl), HB0.out⟩
  have HI : Hid (x.imports.all Lat.strB = true) := hi
  go_wp2_with fail
  refine (HVN.out _ HB0).mono ?_
  rintro e W1 ⟨rfl, hb1⟩
  replace q0 := cellUp q0 hb1
  replace q1 := cellUp q1 hb1
  replace q2 := cellUp q2 hb1
  replace q3 := cellUp q3 hb1
  have HB1 := hide (up HB0.out hb1)
  clear hb1 HB0 hn hi
  cases hv : (x.vars.all fun s => Lat.nameB s.name.data.toList && Lat.nameB s.level.data.toList)
  · have HV : Hid (x.vars.all Lat.vaB = false) := hv
    go_wp2
    go_ret
    exact ⟨ret_int (by rw [HE.out, HN.out, HI.out, HV.out]; rfl), HB1.out⟩
  have HV : Hid (x.vars.all Lat.vaB = true) := hv
  have HE2 : Hid (Lat.moE m x = if Lat.fusE m l ≠ 0 then Lat.fusE m l else if Lat.deepB (Lat.moT m x) then 2 else 0) := hide (by
    rw [HE.out, HN.out, HI.out, HV.out]; rfl)
  clear hv HE
  go_wp2
  go_loopw [41] (fun i wr => ∃ j : Nat, j ≤ len ∧ i = .int .i64 j ∧ (∀ d z, d < j → l[d]? = some z → Lat.fuE m z = 0) ∧ Below W1.heap.size W1 wr) (fun i _ => len - (intOf i).toNat)
  case atStart => exact ⟨0, Nat.zero_le _, rfl, fun d z hd => absurd hd (Nat.not_lt_zero _), Below.refl _ _⟩
  case round =>
    obtain ⟨j, hj, rfl, hall, hnx⟩ := hrel
    have HALL := hide hall
    clear hall
    by_cases hjl : j < len
    · obtain ⟨y, hy⟩ : ∃ y, l[j]? = some y := ⟨_, List.getElem?_eq_getElem (by rw [← HL.out]; exact hjl)⟩
      obtain ⟨k1, vp, vb, e0, e1, e2, e3, g0, g1, g2, g3, g4, g5, g6, hp, hsb, hx⟩ := HEL.out j y hy
      have HY := hide hy
      obtain rfl := HA.out (by omega)
      have hbb := up HB1.out hnx
      have u0 := cellUp g0 hbb
      have u1 := cellUp g1 hbb
      have u2' := cellUp g2 hbb
      have u3' := cellUp g3 hbb
      have u4 := cellUp g4 hbb
      have u5 := cellUp g5 hbb
      have u6 := cellUp g6 hbb
      have HAT : Hid (FuAt wr m vp vb e0 e1 e2 e3 y) := hide ⟨k1, hp.below hbb, hsb.below hbb, hx.below hbb⟩
      obtain ⟨ae, ce, rfl, rfl, rfl, rfl⟩ := hx.shape
      obtain ⟨a1, cap1, rfl, hl1⟩ := hsb.shape
      obtain ⟨a2, cap2, rfl, hl2⟩ := hp.shape
      have HNX := hide hnx
      clear g0 g1 g2 g3 g4 g5 g6 hx hsb hp hy hnx hbb q0 q1 q2 q3
      go_wp2_with fail
      refine (checkFun_any m _ _ _ _ _ _ _ y (HAT.out.below (boxBelow _ _))).mono ?_
      rintro e w5 ⟨rfl, hb5⟩
      have HN5 := hide (up HNX.out (up1 hb5))
      clear hb5 HNX
      obtain ⟨E, hE⟩ : ∃ E, E = Lat.fuE m y := ⟨_, rfl⟩
      have HEY := hide hE
      rw [← hE]
      clear hE
      by_cases h0 : E = 0
      · subst h0
        go_wp2_with fail
        go_roundw
        case rel => exact ⟨j + 1, by omega, by go_num, fun d z hd hz => by
            by_cases e : d = j
            · subst e
              rw [HY.out] at hz
              cases hz
              exact HEY.out.symm
            · exact HALL.out d z (by omega) hz, HN5.out⟩
        case measure => simp [intOf]; omega
      · have h0' := bne_zero_true h0
        have H0 := hide h0
        clear h0
        go_wp2
        go_ret
        exact ⟨ret_int (by rw [HE2.out, fusE_at HALL.out HY.out (by rw [← HEY.out]; exact H0.out), if_pos (by rw [← HEY.out]; exact H0.out)]; exact HEY.out), up HB1.out HN5.out⟩
    · have hf0 : Lat.fusE m l = 0 := fusE_zero (fun d z hz => HALL.out d z (by
        have := (List.getElem?_eq_some_iff.1 hz).1
        have := HL.out
        omega) hz)
      have HD := hide (HDP.out HN.out HI.out HV.out hf0)
      have HE3 : Hid (Lat.moE m x = if 20 < Lat.moD m x then 2 else 0) := hide (by
        rw [HE2.out, hf0, HD.out]; simp)
      have u0 := cellUp q0 hnx
      have u1 := cellUp q1 hnx
      have u2' := cellUp q2 hnx
      have u3' := cellUp q3 hnx
      have HNX := hide (up HB1.out hnx)
      clear hnx q0 q1 q2 q3 hf0
      go_wp2_with fail
      refine (HMD.out _ HNX).mono ?_
      rintro e w6 ⟨rfl, hb6⟩
      have HB6 := hide (up HNX.out hb6)
      clear hb6
      generalize Lat.moD m x = dd at *
      by_cases hd : 20 < dd
      · rw [if_pos hd] at HE3
        have hd' : (dd : Int) > 20 := by omega
        clear hd
        go_wp2
        go_ret
        exact ⟨ret_int HE3.out.symm, HB6.out⟩
      · rw [if_neg hd] at HE3
        have hd' : ¬ ((dd : Int) > 20) := by omega
        clear hd
        go_wp2
        go_ret
        exact ⟨ret_int HE3.out.symm, HB6.out⟩

theorem moE_ok {m : Nat} {x : Mo} (h : Lat.moE m x = 0) : ∀ f ∈ x.funs, Lat.bodyB m f.body = true ∧ Lat.exprB m f.result = true := by
  have h1 : Lat.fusE m x.funs = 0 := by
    unfold Lat.moE at h
    split at h
    · cases h
    · split at h
      · cases h
      · split at h
        · rename_i hne; exact absurd h hne
        · rename_i hne; exact Classical.byContradiction hne
  intro f hf
  have h2 := fuE_ok (fusE_ok h1 f hf)
  unfold Lat.fuOk at h2
  simp only [Bool.and_eq_true] at h2
  exact ⟨h2.1.1.2, h2.1.2⟩

end Go.Proofs.YtnheahdcfadclaaGreatDoor

/- The first error among modules. -/
namespace Go.Proofs.YtnheahdcfadclaaGreatDoor
open Go.RowKit

namespace Nm
/-- The first error among modules. -/
def mosE (m : Nat) : List Mo → Int
  | [] => 0
  | x :: r => if Lat.moE m x = 0 then mosE m r else Lat.moE m x
/-- The error of a lattice, a module, and others. -/
def thE (e0 : Int) (m : Nat) (x : Mo) (known : List Mo) : Int := if e0 = 0 then (if Lat.moE m x = 0 then mosE m known else Lat.moE m x) else e0
theorem mosE_all {m : Nat} {l : List Mo} (h : ∀ x ∈ l, Lat.moE m x = 0) : mosE m l = 0 := by
  induction l with
  | nil => rfl
  | cons x r ih =>
    unfold mosE
    rw [if_pos (h x (by simp)), ih (fun y hy => h y (by simp [hy]))]
theorem mosE_first {m : Nat} {l : List Mo} {j : Nat} {x : Mo} (hx : l[j]? = some x) (h : ∀ (q : Nat) y, q < j → l[q]? = some y → Lat.moE m y = 0) (he : Lat.moE m x ≠ 0) : mosE m l = Lat.moE m x := by
  induction l generalizing j with
  | nil => simp at hx
  | cons y r ih =>
    cases j with
    | zero => simp at hx; subst hx; unfold mosE; rw [if_neg he]
    | succ j =>
      unfold mosE
      rw [if_pos (h 0 y (by omega) (by simp)), ih (j := j) (by simpa using hx) (fun q z hq hz => h (q + 1) z (by omega) (by simpa using hz))]
end Nm

end Go.Proofs.YtnheahdcfadclaaGreatDoor
