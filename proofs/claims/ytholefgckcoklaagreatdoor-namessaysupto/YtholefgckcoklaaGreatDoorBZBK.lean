/- How deep the brackets of a module's text are nested: what the text's bytes say, and what the tree says. -/
import Derived.Test.YtholefgckcoklaaGreatDoorBZBI
namespace Go.Proofs.YtholefgckcoklaaGreatDoor
open Go.RowKit
namespace Lat
def bal : List UInt8 → Int
  | [] => 0
  | b :: l => step b + bal l
def pk : List UInt8 → Int
  | [] => 0
  | b :: l => max 0 (step b + pk l)
def dpt (t : ByteArray) : Nat := (pk t.data.toList).toNat
def Bal (t : ByteArray) : Prop := bal t.data.toList = 0
end Lat
theorem pk_nonneg : ∀ l, 0 ≤ Lat.pk l
  | [] => Int.le_refl _
  | b :: l => by simp only [Lat.pk]; omega
theorem bal_app : ∀ a b, Lat.bal (a ++ b) = Lat.bal a + Lat.bal b
  | [], b => by simp [Lat.bal]
  | c :: a, b => by simp only [List.cons_append, Lat.bal, bal_app a b]; omega
theorem pk_app : ∀ a b, Lat.pk (a ++ b) = max (Lat.pk a) (Lat.bal a + Lat.pk b)
  | [], b => by have := pk_nonneg b; simp only [List.nil_append, Lat.pk, Lat.bal]; omega
  | c :: a, b => by simp only [List.cons_append, Lat.pk, Lat.bal, pk_app a b]; omega
theorem flat_pk : ∀ {l : List UInt8}, (∀ b ∈ l, Lat.step b = 0) → Lat.pk l = 0 ∧ Lat.bal l = 0
  | [], _ => ⟨rfl, rfl⟩
  | b :: l, h => by
    obtain ⟨h1, h2⟩ := flat_pk (l := l) (fun c hc => h c (by simp [hc]))
    have h3 := h b (by simp)
    simp only [Lat.pk, Lat.bal, h1, h2, h3]
    exact ⟨by omega, by omega⟩
theorem dpt_eq (t : ByteArray) : (Lat.dpt t : Int) = Lat.pk t.data.toList := by
  have := pk_nonneg t.data.toList
  unfold Lat.dpt; omega
theorem step_blank : Lat.step 32 = 0 := by decide
theorem tail_pk : ∀ {l : List ByteArray}, (∀ t ∈ l, Lat.Bal t) → Lat.pk (Lib.joinTail [32] (l.map (·.data.toList))) = (Lat.maxN Lat.dpt l : Nat) ∧ Lat.bal (Lib.joinTail [32] (l.map (·.data.toList))) = 0
  | [], _ => ⟨rfl, rfl⟩
  | t :: l, h => by
    obtain ⟨h1, h2⟩ := tail_pk (l := l) (fun c hc => h c (by simp [hc]))
    have h3 : Lat.bal t.data.toList = 0 := h t (by simp)
    have h4 := dpt_eq t
    have h5 := pk_nonneg t.data.toList
    rw [List.map_cons, tail_cons, maxN_cons]
    simp only [Lat.pk, Lat.bal, pk_app, bal_app, h1, h2, h3, step_blank]
    exact ⟨by omega, by omega⟩
theorem join_pk {l : List ByteArray} (h : ∀ t ∈ l, Lat.Bal t) : Lat.pk (Lib.join (l.map (·.data.toList)) [32]) = (Lat.maxN Lat.dpt l : Nat) ∧ Lat.bal (Lib.join (l.map (·.data.toList)) [32]) = 0 := by
  cases l with
  | nil => exact ⟨rfl, rfl⟩
  | cons t l =>
    obtain ⟨h1, h2⟩ := tail_pk (l := l) (fun c hc => h c (by simp [hc]))
    have h3 : Lat.bal t.data.toList = 0 := h t (by simp)
    have h4 := dpt_eq t
    rw [List.map_cons, Lib.join_cons, pk_app, bal_app, h1, h2, h3, maxN_cons]
    exact ⟨by omega, by omega⟩
theorem step_open : Lat.step 40 = 1 := by decide
theorem step_shut : Lat.step 41 = -1 := by decide
theorem brk_dpt {l : List ByteArray} (h : ∀ t ∈ l, Lat.Bal t) : Lat.dpt (Lat.brk l) = 1 + Lat.maxN Lat.dpt l ∧ Lat.Bal (Lat.brk l) := by
  obtain ⟨h1, h2⟩ := join_pk h
  have h3 := dpt_eq (Lat.brk l)
  rw [brk_list] at h3
  simp only [Lat.pk, pk_app, h1, h2, step_open, step_shut] at h3
  refine ⟨by omega, ?_⟩
  unfold Lat.Bal
  rw [brk_list]
  simp only [Lat.bal, bal_app, h2, step_open, step_shut]
  omega
theorem flat_dpt {t : ByteArray} (h : ∀ b ∈ t.data.toList, Lat.step b = 0) : Lat.dpt t = 0 ∧ Lat.Bal t := by
  obtain ⟨h1, h2⟩ := flat_pk h
  exact ⟨by unfold Lat.dpt; rw [h1]; rfl, h2⟩
theorem pk_iff : ∀ (l : List UInt8) (c : Int), 0 ≤ c → (c < Lat.pk l ↔ ∃ j, j < l.length ∧ c < Lat.bal (l.take (j + 1)))
  | [], c, hc => ⟨fun h => by simp only [Lat.pk] at h; omega, fun ⟨j, hj, _⟩ => absurd hj (Nat.not_lt_zero _)⟩
  | b :: l, c, hc => by
    have hp := pk_nonneg l
    constructor
    · intro h
      simp only [Lat.pk] at h
      by_cases h0 : 0 ≤ c - Lat.step b
      · obtain ⟨j, hj, hb⟩ := (pk_iff l (c - Lat.step b) h0).1 (by omega)
        exact ⟨j + 1, by simpa using hj, by rw [List.take_succ_cons]; simp only [Lat.bal]; omega⟩
      · exact ⟨0, by simp, by simp only [List.take_succ_cons, List.take_zero, Lat.bal]; omega⟩
    · rintro ⟨j, hj, hb⟩
      rw [List.take_succ_cons] at hb
      simp only [Lat.bal] at hb
      simp only [Lat.pk]
      cases j with
      | zero => simp only [List.take_zero, Lat.bal] at hb; omega
      | succ j =>
        by_cases h0 : 0 ≤ c - Lat.step b
        · have := (pk_iff l (c - Lat.step b) h0).2 ⟨j, by simpa using hj, by omega⟩
          omega
        · omega
theorem openTo_bal (t : ByteArray) : ∀ j, j ≤ t.size → Lat.openTo t j = Lat.bal (t.data.toList.take j)
  | 0, _ => rfl
  | j + 1, hj => by
    have hj' : j < t.data.toList.length := by rw [size_list]; omega
    rw [openTo_succ t j (by omega), openTo_bal t j (by omega), List.take_succ_eq_append_getElem hj', bal_app]
    simp only [Lat.bal]
    have : t[j] = t.data.toList[j] := rfl
    rw [this]; omega
theorem deepB_dpt (t : ByteArray) : Lat.deepB t = decide (20 < Lat.dpt t) := by
  have h0 := dpt_eq t
  by_cases h : 20 < Lat.dpt t
  · rw [decide_eq_true h]
    obtain ⟨j, hj, hb⟩ := (pk_iff t.data.toList 20 (by omega)).1 (by omega)
    rw [size_list] at hj
    exact deepB_at hj (by rw [openTo_bal t (j + 1) (by omega)]; exact hb)
  · rw [decide_eq_false h]
    refine deepB_not (fun j hj hb => h ?_)
    rw [openTo_bal t (j + 1) (by omega)] at hb
    have := (pk_iff t.data.toList 20 (by omega)).2 ⟨j, by rw [size_list]; omega, hb⟩
    omega
theorem step_letter {c : UInt8} (h : Lat.letterB c = true) : Lat.step c = 0 := by
  unfold Lat.letterB at h
  simp only [Bool.and_eq_true, decide_eq_true_eq] at h
  unfold Lat.step
  rw [if_neg (by rintro rfl; exact absurd h.1 (by decide)), if_neg (by rintro rfl; exact absurd h.1 (by decide))]
theorem name_flat {l : List UInt8} (h : Lat.nameB l = true) : ∀ b ∈ l, Lat.step b = 0 := by
  unfold Lat.nameB at h
  simp only [Bool.and_eq_true] at h
  exact fun b hb => step_letter (List.all_eq_true.1 h.2 b hb)
theorem op_flat {s : ByteArray} (h : Lat.opB s = true) : ∀ b ∈ s.data.toList, Lat.step b = 0 := by
  by_cases h1 : s.size = 1
  · obtain ⟨c, rfl⟩ := one_byte h1
    have : ∀ c : Fin 256, Lat.opB ⟨#[UInt8.ofFin c]⟩ = true → Lat.step (UInt8.ofFin c) = 0 := by decide +kernel
    intro b hb
    simp at hb
    subst hb
    exact this b.toFin h
  · rw [op_size h1] at h; cases h
theorem step_dot : Lat.step 46 = 0 := by decide
theorem call_flat {s : ByteArray} (h : Lat.callB s = true) : ∀ b ∈ s.data.toList, Lat.step b = 0 := by
  unfold Lat.callB at h
  simp only [Bool.and_eq_true, Bool.or_eq_true, Bool.not_eq_true'] at h
  cases hd : Lat.dotAt s with
  | none =>
    have h1 := h.1
    unfold Lat.preS at h1
    rw [hd] at h1
    exact name_flat h1
  | some i =>
    have h1 := h.1
    have h2 : Lat.nameB (Lat.sufS s).data.toList = true := by
      rcases h.2 with h2 | h2
      · rw [hd] at h2; cases h2
      · exact h2
    unfold Lat.preS at h1
    unfold Lat.sufS at h2
    rw [hd] at h1 h2
    obtain ⟨hi, hdot⟩ := Lat.find_spec hd
    intro b hb
    obtain ⟨k, hk, rfl⟩ := List.mem_iff_getElem.1 hb
    have hks : k < s.size := by rw [size_list] at hk; exact hk
    have e1 : (s.extract 0 i).data.toList = s.data.toList.take i := by simp [ByteArray.data_extract]
    have e2 : (s.extract (i + 1) s.size).data.toList = s.data.toList.drop (i + 1) := by
      simp [ByteArray.data_extract]
      exact List.take_of_length_le (by rw [List.length_drop, size_list]; omega)
    simp only [e1] at h1
    simp only [e2] at h2
    rcases Nat.lt_trichotomy k i with hlt | rfl | hgt
    · exact name_flat h1 _ (List.mem_iff_getElem.2 ⟨k, by rw [List.length_take]; omega, by rw [List.getElem_take]⟩)
    · have : s.data.toList[k] = 46 := by
        have := hdot
        simp only [beq_iff_eq] at this
        rw [List.getD, List.getElem?_eq_getElem hk] at this
        exact this
      rw [this]; exact step_dot
    · exact name_flat h2 _ (List.mem_iff_getElem.2 ⟨k - (i + 1), by rw [List.length_drop]; omega, by rw [List.getElem_drop]; congr 1; omega⟩)
theorem step_digit : ∀ d : Fin 10, Lat.step (UInt8.ofNat (48 + d.val)) = 0 := by decide
theorem dec_flat : ∀ (u : Nat), ∀ b ∈ Lib.decDigits u, Lat.step b = 0 := by
  intro u
  induction u using Nat.strongRecOn with
  | ind u ih =>
    intro b hb
    rw [Lib.decDigits] at hb
    split at hb
    · rename_i h
      rw [List.mem_singleton] at hb
      subst hb
      exact step_digit ⟨u, h⟩
    · rename_i h
      rcases List.mem_append.1 hb with hb | hb
      · exact ih (u / 10) (by omega) b hb
      · rw [List.mem_singleton] at hb
        subst hb
        exact step_digit ⟨u % 10, by omega⟩
theorem num_flat {n : Int} (h : 0 ≤ n) : ∀ b ∈ (⟨(Lib.itoa n).toArray⟩ : ByteArray).data.toList, Lat.step b = 0 := by
  intro b hb
  have hb' : b ∈ Lib.itoa n := by simpa using hb
  unfold Lib.itoa at hb'
  rw [if_neg (by omega)] at hb'
  exact dec_flat _ b hb'
theorem maxN_map {α β : Type} {f : β → Nat} {g : α → β} (l : List α) : Lat.maxN f (l.map g) = Lat.maxN (fun y => f (g y)) l := by
  induction l with
  | nil => rfl
  | cons y l ih => rw [List.map_cons, maxN_cons, maxN_cons, ih]
theorem maxN_congr {α : Type} {f g : α → Nat} {l : List α} (h : ∀ y ∈ l, f y = g y) : Lat.maxN f l = Lat.maxN g l := by
  induction l with
  | nil => rfl
  | cons y l ih => rw [maxN_cons, maxN_cons, h y (by simp), ih (fun z hz => h z (by simp [hz]))]
theorem maxN_zero {α : Type} {f : α → Nat} {l : List α} (h : ∀ y ∈ l, f y = 0) : Lat.maxN f l = 0 := by
  have := maxN_le (f := f) (B := 0) (l := l) (fun y hy => by rw [h y hy]; omega)
  omega
theorem maxN_nil {α : Type} {f : α → Nat} : Lat.maxN f [] = 0 := rfl
theorem exT_dpt : ∀ (m : Nat) (x : Ex), Lat.exprB m x = true → Lat.dpt (Lat.exT m x) = Lat.exD m x ∧ Lat.Bal (Lat.exT m x)
  | 0, x, h => by simp [Lat.exprB] at h
  | m + 1, x, h => by
    rw [exprB_parts, Bool.and_eq_true] at h
    obtain ⟨hp, hall⟩ := h
    have hargs : ∀ y ∈ x.args, Lat.dpt (Lat.exT m y) = Lat.exD m y ∧ Lat.Bal (Lat.exT m y) := fun y hy => exT_dpt m y (List.all_eq_true.1 hall y hy)
    unfold Lat.partsB at hp
    by_cases h1 : x.kind = 1
    · rw [if_pos h1] at hp
      simp only [Bool.and_eq_true, decide_eq_true_eq] at hp
      have := flat_dpt (num_flat hp.1.1.1)
      simp only [Lat.exT, Lat.exD]
      rw [if_pos h1, if_pos (Or.inl h1)]
      exact this
    rw [if_neg h1] at hp
    by_cases h2 : x.kind = 2
    · rw [if_pos h2] at hp
      simp only [Bool.and_eq_true] at hp
      have := flat_dpt (name_flat hp.1.1)
      simp only [Lat.exT, Lat.exD]
      rw [if_neg h1, if_pos h2, if_pos (Or.inr h2)]
      exact this
    rw [if_neg h2] at hp
    have hD : Lat.exD (m + 1) x = 1 + Lat.maxN (Lat.exD m) x.args := by
      simp only [Lat.exD]; rw [if_neg (by omega)]
    have hT : Lat.exT (m + 1) x = x.args.foldl (Lat.exStep (Lat.exT m)) (Lat.exHead x) ++ (⟨#[41]⟩ : ByteArray) := by
      simp only [Lat.exT]; rw [if_neg h1, if_neg h2]
    have hM : Lat.maxN Lat.dpt (x.args.map (Lat.exT m)) = Lat.maxN (Lat.exD m) x.args := by
      rw [maxN_map]; exact maxN_congr (fun y hy => (hargs y hy).1)
    have hB : ∀ t ∈ x.args.map (Lat.exT m), Lat.Bal t := fun t ht => by
      obtain ⟨y, hy, rfl⟩ := List.mem_map.1 ht
      exact (hargs y hy).2
    by_cases h3 : x.kind = 3
    · rw [if_pos h3] at hp
      simp only [Bool.and_eq_true] at hp
      obtain ⟨f1, f2⟩ := flat_dpt (op_flat hp.1.1)
      rw [hT, ← op_text x (Lat.exT m) (by omega), hD]
      obtain ⟨g1, g2⟩ := brk_dpt (l := x.name :: x.args.map (Lat.exT m)) (fun t ht => by
        rcases List.mem_cons.1 ht with rfl | ht
        · exact f2
        · exact hB t ht)
      refine ⟨?_, g2⟩
      rw [g1, maxN_cons, f1, hM]; omega
    rw [if_neg h3] at hp
    by_cases h4 : x.kind = 4
    · rw [if_pos h4] at hp
      simp only [Bool.and_eq_true] at hp
      obtain ⟨f1, f2⟩ := flat_dpt (call_flat hp.1.1)
      obtain ⟨k1, k2⟩ : Lat.dpt ⟨#[99, 97, 108, 108]⟩ = 0 ∧ Lat.Bal ⟨#[99, 97, 108, 108]⟩ := flat_dpt (by decide)
      rw [hT, ← call_text x (Lat.exT m) h4, hD]
      obtain ⟨g1, g2⟩ := brk_dpt (l := ⟨#[99, 97, 108, 108]⟩ :: x.name :: x.args.map (Lat.exT m)) (fun t ht => by
        rcases List.mem_cons.1 ht with rfl | ht
        · exact k2
        · rcases List.mem_cons.1 ht with rfl | ht
          · exact f2
          · exact hB t ht)
      refine ⟨?_, g2⟩
      rw [g1, maxN_cons, maxN_cons, k1, f1, hM]; omega
    rw [if_neg h4] at hp
    cases hp
theorem txs_dpt : ∀ (m : Nat) (l : List St), Lat.bodyB m l = true → Lat.maxN Lat.dpt (Lat.txs m l) = Lat.bdD m l ∧ ∀ t ∈ Lat.txs m l, Lat.Bal t
  | 0, l, h => by simp [Lat.bodyB] at h
  | m + 1, l, h => by
    rw [Lat.bodyB_succ] at h
    have hst : ∀ s ∈ l, Lat.dpt (Lat.stX m s) = Lat.stD m s ∧ Lat.Bal (Lat.stX m s) := fun s hs => by
      have h1 := List.all_eq_true.1 h s hs
      unfold Lat.stB at h1
      simp only [Bool.and_eq_true] at h1
      obtain ⟨⟨⟨okh, oke⟩, oka⟩, okb⟩ := h1
      obtain ⟨x1, x2⟩ := exT_dpt m s.e oke
      obtain ⟨a1, a2⟩ := txs_dpt m s.a oka
      obtain ⟨b1, b2⟩ := txs_dpt m s.b okb
      obtain ⟨a3, a4⟩ := brk_dpt a2
      obtain ⟨b3, b4⟩ := brk_dpt b2
      unfold Lat.stH at okh
      by_cases k14 : s.kind = 1 ∨ s.kind = 4
      · rw [if_pos k14] at okh
        simp only [Bool.and_eq_true] at okh
        obtain ⟨n1, n2⟩ := flat_dpt (name_flat okh.1.1)
        have hd : Lat.stD m s = 1 + Lat.exD m s.e := by unfold Lat.stD; rw [if_neg (by omega)]
        rw [hd]
        rcases k14 with hk | hk
        · rw [← set_text m s hk]
          obtain ⟨w1, w2⟩ : Lat.dpt ⟨#[115, 101, 116]⟩ = 0 ∧ Lat.Bal ⟨#[115, 101, 116]⟩ := flat_dpt (by decide)
          obtain ⟨g1, g2⟩ := brk_dpt (l := [⟨#[115, 101, 116]⟩, s.name, Lat.exT m s.e]) (by
            intro t ht
            simp only [List.mem_cons, List.not_mem_nil, or_false] at ht
            rcases ht with rfl | rfl | rfl <;> assumption)
          refine ⟨?_, g2⟩
          rw [g1, maxN_cons, maxN_cons, maxN_cons, maxN_nil, w1, n1, x1]; omega
        · rw [← print_text m s hk]
          obtain ⟨w1, w2⟩ : Lat.dpt ⟨#[112, 114, 105, 110, 116]⟩ = 0 ∧ Lat.Bal ⟨#[112, 114, 105, 110, 116]⟩ := flat_dpt (by decide)
          obtain ⟨g1, g2⟩ := brk_dpt (l := [⟨#[112, 114, 105, 110, 116]⟩, s.name, Lat.exT m s.e]) (by
            intro t ht
            simp only [List.mem_cons, List.not_mem_nil, or_false] at ht
            rcases ht with rfl | rfl | rfl <;> assumption)
          refine ⟨?_, g2⟩
          rw [g1, maxN_cons, maxN_cons, maxN_cons, maxN_nil, w1, n1, x1]; omega
      rw [if_neg k14] at okh
      by_cases k2 : s.kind = 2
      · have hd : Lat.stD m s = 1 + max (max (Lat.exD m s.e) (1 + Lat.bdD m s.a)) (1 + Lat.bdD m s.b) := by unfold Lat.stD; rw [if_pos (Or.inl k2)]
        rw [hd, ← if_text m s k2]
        obtain ⟨w1, w2⟩ : Lat.dpt ⟨#[105, 102]⟩ = 0 ∧ Lat.Bal ⟨#[105, 102]⟩ := flat_dpt (by decide)
        obtain ⟨g1, g2⟩ := brk_dpt (l := [⟨#[105, 102]⟩, Lat.exT m s.e, Lat.brk (Lat.txs m s.a), Lat.brk (Lat.txs m s.b)]) (by
          intro t ht
          simp only [List.mem_cons, List.not_mem_nil, or_false] at ht
          rcases ht with rfl | rfl | rfl | rfl <;> assumption)
        refine ⟨?_, g2⟩
        rw [g1, maxN_cons, maxN_cons, maxN_cons, maxN_cons, maxN_nil, w1, x1, a3, b3, a1, b1]; omega
      rw [if_neg k2] at okh
      by_cases k3 : s.kind = 3
      · rw [if_pos k3] at okh
        simp only [Bool.and_eq_true, beq_iff_eq] at okh
        have hb0 : s.b = [] := List.length_eq_zero_iff.1 okh.2
        have hbd : Lat.bdD m s.b = 0 := by rw [hb0]; cases m <;> rfl
        have hd : Lat.stD m s = 1 + max (max (Lat.exD m s.e) (1 + Lat.bdD m s.a)) (1 + Lat.bdD m s.b) := by unfold Lat.stD; rw [if_pos (Or.inr k3)]
        rw [hd, ← while_text m s k3]
        obtain ⟨w1, w2⟩ : Lat.dpt ⟨#[119, 104, 105, 108, 101]⟩ = 0 ∧ Lat.Bal ⟨#[119, 104, 105, 108, 101]⟩ := flat_dpt (by decide)
        obtain ⟨g1, g2⟩ := brk_dpt (l := [⟨#[119, 104, 105, 108, 101]⟩, Lat.exT m s.e, Lat.brk (Lat.txs m s.a)]) (by
          intro t ht
          simp only [List.mem_cons, List.not_mem_nil, or_false] at ht
          rcases ht with rfl | rfl | rfl <;> assumption)
        refine ⟨?_, g2⟩
        rw [g1, maxN_cons, maxN_cons, maxN_cons, maxN_nil, w1, x1, a3, a1, hbd]; omega
      rw [if_neg k3] at okh
      cases okh
    simp only [Lat.txs]
    rw [Lat.bdD_succ, maxN_map]
    refine ⟨maxN_congr (fun s hs => (hst s hs).1), fun t ht => ?_⟩
    obtain ⟨s, hs, rfl⟩ := List.mem_map.1 ht
    exact (hst s hs).2
theorem fuX_dpt {m : Nat} {f : Fu} (h : Lat.fuOk m f = true) : Lat.dpt (Lat.fuX m f) = Lat.fuD m f ∧ Lat.Bal (Lat.fuX m f) := by
  unfold Lat.fuOk at h
  simp only [Bool.and_eq_true] at h
  obtain ⟨⟨⟨hn, hb⟩, hx⟩, hp⟩ := h
  obtain ⟨n1, n2⟩ := flat_dpt (name_flat hn)
  obtain ⟨b1, b2⟩ := txs_dpt m f.body hb
  obtain ⟨x1, x2⟩ := exT_dpt m f.result hx
  have hpar : ∀ p ∈ f.params, Lat.dpt p = 0 ∧ Lat.Bal p := fun p hpm => flat_dpt (name_flat (List.all_eq_true.1 hp p hpm))
  obtain ⟨p1, p2⟩ := brk_dpt (l := f.params) (fun p hpm => (hpar p hpm).2)
  rw [maxN_zero (fun p hpm => (hpar p hpm).1)] at p1
  obtain ⟨w1, w2⟩ : Lat.dpt ⟨#[102, 117, 110]⟩ = 0 ∧ Lat.Bal ⟨#[102, 117, 110]⟩ := flat_dpt (by decide)
  have hfl : [[(⟨#[102, 117, 110]⟩ : ByteArray), f.name, Lat.brk f.params], Lat.txs m f.body, [Lat.exT m f.result]].flatten = ⟨#[102, 117, 110]⟩ :: f.name :: Lat.brk f.params :: (Lat.txs m f.body ++ [Lat.exT m f.result]) := by simp
  unfold Lat.fuX
  rw [hfl]
  obtain ⟨g1, g2⟩ := brk_dpt (l := ⟨#[102, 117, 110]⟩ :: f.name :: Lat.brk f.params :: (Lat.txs m f.body ++ [Lat.exT m f.result])) (by
    intro t ht
    simp only [List.mem_cons, List.mem_append, List.not_mem_nil, or_false] at ht
    rcases ht with rfl | rfl | rfl | ht | rfl
    · exact w2
    · exact n2
    · exact p2
    · exact b2 t ht
    · exact x2)
  refine ⟨?_, g2⟩
  rw [g1, maxN_cons, maxN_cons, maxN_cons, maxN_append, maxN_cons, maxN_nil, w1, n1, p1, b1, x1]
  unfold Lat.fuD; omega
theorem moT_dpt {m : Nat} {x : Mo} (hm : x.funs ≠ [] → m ≠ 0) (hn : Lat.strB x.name = true) (hi : x.imports.all Lat.strB = true) (hv : x.vars.all Lat.vaB = true) (hf : ∀ f ∈ x.funs, Lat.fuOk m f = true) :
    Lat.deepB (Lat.moT m x) = decide (20 < Lat.moD m x) := by
  rw [deepB_dpt, ← moX_eq hm]
  obtain ⟨n1, n2⟩ := flat_dpt (name_flat hn)
  have hI : ∀ y ∈ x.imports, Lat.dpt (Lat.impX y) = 1 ∧ Lat.Bal (Lat.impX y) := fun y hy => by
    obtain ⟨f1, f2⟩ := flat_dpt (name_flat (List.all_eq_true.1 hi y hy))
    obtain ⟨w1, w2⟩ : Lat.dpt ⟨#[105, 109, 112, 111, 114, 116]⟩ = 0 ∧ Lat.Bal ⟨#[105, 109, 112, 111, 114, 116]⟩ := flat_dpt (by decide)
    obtain ⟨g1, g2⟩ := brk_dpt (l := [⟨#[105, 109, 112, 111, 114, 116]⟩, y]) (by
      intro t ht
      simp only [List.mem_cons, List.not_mem_nil, or_false] at ht
      rcases ht with rfl | rfl <;> assumption)
    refine ⟨?_, g2⟩
    unfold Lat.impX
    rw [g1, maxN_cons, maxN_cons, maxN_nil, w1, f1]; omega
  have hV : ∀ y ∈ x.vars, Lat.dpt (Lat.vaX y) = 1 ∧ Lat.Bal (Lat.vaX y) := fun y hy => by
    have hy' := List.all_eq_true.1 hv y hy
    unfold Lat.vaB at hy'
    simp only [Bool.and_eq_true] at hy'
    obtain ⟨f1, f2⟩ := flat_dpt (name_flat hy'.1)
    obtain ⟨e1, e2⟩ := flat_dpt (name_flat hy'.2)
    obtain ⟨w1, w2⟩ : Lat.dpt ⟨#[118, 97, 114]⟩ = 0 ∧ Lat.Bal ⟨#[118, 97, 114]⟩ := flat_dpt (by decide)
    obtain ⟨g1, g2⟩ := brk_dpt (l := [⟨#[118, 97, 114]⟩, y.name, y.level]) (by
      intro t ht
      simp only [List.mem_cons, List.not_mem_nil, or_false] at ht
      rcases ht with rfl | rfl | rfl <;> assumption)
    refine ⟨?_, g2⟩
    unfold Lat.vaX
    rw [g1, maxN_cons, maxN_cons, maxN_cons, maxN_nil, w1, f1, e1]; omega
  obtain ⟨w1, w2⟩ : Lat.dpt ⟨#[109, 111, 100, 117, 108, 101]⟩ = 0 ∧ Lat.Bal ⟨#[109, 111, 100, 117, 108, 101]⟩ := flat_dpt (by decide)
  have hfl : [[(⟨#[109, 111, 100, 117, 108, 101]⟩ : ByteArray), x.name], x.imports.map Lat.impX, x.vars.map Lat.vaX, x.funs.map (Lat.fuX m)].flatten = ⟨#[109, 111, 100, 117, 108, 101]⟩ :: x.name :: (x.imports.map Lat.impX ++ (x.vars.map Lat.vaX ++ x.funs.map (Lat.fuX m))) := by simp
  unfold Lat.moX
  rw [hfl]
  obtain ⟨g1, _⟩ := brk_dpt (l := ⟨#[109, 111, 100, 117, 108, 101]⟩ :: x.name :: (x.imports.map Lat.impX ++ (x.vars.map Lat.vaX ++ x.funs.map (Lat.fuX m)))) (by
    intro t ht
    simp only [List.mem_cons, List.mem_append, List.mem_map] at ht
    rcases ht with rfl | rfl | ⟨y, hy, rfl⟩ | ⟨y, hy, rfl⟩ | ⟨y, hy, rfl⟩
    · exact w2
    · exact n2
    · exact (hI y hy).2
    · exact (hV y hy).2
    · exact (fuX_dpt (hf y hy)).2)
  have m1 : Lat.maxN Lat.dpt (x.imports.map Lat.impX) ≤ 1 := by rw [maxN_map]; exact maxN_le (fun y hy => by rw [(hI y hy).1]; omega)
  have m2 : Lat.maxN Lat.dpt (x.vars.map Lat.vaX) ≤ 1 := by rw [maxN_map]; exact maxN_le (fun y hy => by rw [(hV y hy).1]; omega)
  have m3 : Lat.maxN Lat.dpt (x.funs.map (Lat.fuX m)) = Lat.maxN (Lat.fuD m) x.funs := by rw [maxN_map]; exact maxN_congr (fun y hy => (fuX_dpt (hf y hy)).1)
  rw [g1, maxN_cons, maxN_cons, maxN_append, maxN_append, w1, n1, m3]
  unfold Lat.moD
  exact decide_eq_decide.2 (by omega)
end Go.Proofs.YtholefgckcoklaaGreatDoor
