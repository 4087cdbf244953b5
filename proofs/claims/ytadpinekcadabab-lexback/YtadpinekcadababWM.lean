/- Words, with a blank between, are the same words: plain mathematics. -/
import Derived.Test.YtadpinekcadababWC
import Derived.Lib.Join
namespace Go.Proofs.Ytadpinekcadabab
open Go.RowKit

namespace Lat
def wstep (st : List (List UInt8) × Bool) (b : UInt8) : List (List UInt8) × Bool :=
  if blankN b.toNat then (st.1, false)
  else if brackN b.toNat then (st.1 ++ [[b]], false)
  else if st.2 then (st.1.dropLast ++ [st.1.getLastD [] ++ [b]], true)
  else (st.1 ++ [[b]], true)
def wfold (l : List UInt8) : List (List UInt8) × Bool := l.foldl wstep ([], false)
def longW (l : List UInt8) : Prop := l ≠ [] ∧ ∀ b ∈ l, blankN b.toNat = false ∧ brackN b.toNat = false ∧ longN b.toNat = true
def wordW (l : List UInt8) : Prop := (∃ b, l = [b] ∧ blankN b.toNat = false ∧ brackN b.toNat = true) ∨ longW l
def okN (n : Nat) : Bool := blankN n || brackN n || longN n
end Lat

theorem ext_list (s : ByteArray) (a b : Nat) : (Lat.ext s (a, b)).data.toList = (s.data.toList.take b).drop a := by
  unfold Lat.ext
  rw [ByteArray.data_extract]
  simp [List.drop_take]

theorem tok_fold (s : ByteArray) : ∀ k, k ≤ s.size → ((Lat.tok s k).1.map fun p => (Lat.ext s p).data.toList) = (Lat.wfold (s.data.toList.take k)).1 ∧ (Lat.tok s k).2 = (Lat.wfold (s.data.toList.take k)).2
  | 0, _ => ⟨rfl, rfl⟩
  | k + 1, hk => by
    obtain ⟨h1, h2⟩ := tok_fold s k (by omega)
    have hkl : k < s.data.toList.length := by rw [size_list]; omega
    have e : Lat.wfold (s.data.toList.take (k + 1)) = Lat.wstep (Lat.wfold (s.data.toList.take k)) s.data.toList[k] := by
      unfold Lat.wfold
      rw [List.take_succ_eq_append_getElem hkl, List.foldl_append]; rfl
    have hb : Lat.bt s k = (s.data.toList[k]).toNat := by
      unfold Lat.bt; rw [List.getD, List.getElem?_eq_getElem hkl]; rfl
    have e1 : (Lat.ext s (k, k + 1)).data.toList = [s.data.toList[k]] := by
      rw [ext_list s, List.take_succ_eq_append_getElem hkl]
      exact List.drop_left' (by rw [List.length_take]; omega)
    rw [e]
    unfold Lat.wstep
    simp only [Lat.tok]
    rw [hb, h2]
    split
    · exact ⟨h1, rfl⟩
    · split
      · refine ⟨?_, rfl⟩
        rw [List.map_append, h1]
        simp only [List.map_cons, List.map_nil, e1]
      · split
        · rename_i ho
          rw [← h2] at ho
          obtain ⟨L, a, eL⟩ := (tok_inv s k).2.2 ho
          have ha := (tok_inv s k).2.1 (a, k) (by rw [eL]; simp)
          refine ⟨?_, rfl⟩
          rw [← h1, eL]
          simp only [List.dropLast_concat, List.getLastD_concat, List.map_append, List.map_cons, List.map_nil]
          congr 2
          rw [← ext_grow s a k (by simp only at ha; omega)]
          rw [ByteArray.data_append, Array.toList_append]
          congr 1
        · refine ⟨?_, rfl⟩
          rw [List.map_append, h1]
          simp only [List.map_cons, List.map_nil, e1]

theorem fold_words : ∀ (l : List UInt8), (∀ b ∈ l, Lat.okN b.toNat = true) → (∀ x ∈ (Lat.wfold l).1, Lat.wordW x) ∧ ((Lat.wfold l).2 = true → ∃ L x, (Lat.wfold l).1 = L ++ [x] ∧ Lat.longW x) := by
  suffices H : ∀ m : List UInt8, (∀ b ∈ m.reverse, Lat.okN b.toNat = true) → (∀ x ∈ (Lat.wfold m.reverse).1, Lat.wordW x) ∧ ((Lat.wfold m.reverse).2 = true → ∃ L x, (Lat.wfold m.reverse).1 = L ++ [x] ∧ Lat.longW x) by
    intro l hl
    have := H l.reverse (by rw [List.reverse_reverse]; exact hl)
    rw [List.reverse_reverse] at this
    exact this
  intro m
  induction m
  case nil => exact fun _ => ⟨fun x hx => absurd hx (by simp [Lat.wfold]), fun h => absurd h (by simp [Lat.wfold])⟩
  rename_i b m ih
  rw [List.reverse_cons]
  intro hok
  generalize m.reverse = l at *
  obtain ⟨h1, h2⟩ := ih (fun c hc => hok c (by simp [hc]))
  have hb := hok b (by simp)
  have e : Lat.wfold (l ++ [b]) = Lat.wstep (Lat.wfold l) b := by unfold Lat.wfold; rw [List.foldl_append]; rfl
  rw [e]
  unfold Lat.wstep
  cases hbl : Lat.blankN b.toNat
  · cases hbr : Lat.brackN b.toNat
    · have hlg : Lat.longN b.toNat = true := by
        unfold Lat.okN at hb
        rw [hbl, hbr] at hb
        simpa using hb
      rw [if_neg (by simp), if_neg (by simp)]
      cases ho : (Lat.wfold l).2
      · rw [if_neg (by simp)]
        have hx : Lat.longW [b] := ⟨by simp, fun c hc => by rw [List.mem_singleton] at hc; subst hc; exact ⟨hbl, hbr, hlg⟩⟩
        refine ⟨fun x hxm => ?_, fun _ => ⟨_, _, rfl, hx⟩⟩
        rcases List.mem_append.1 hxm with hxm | hxm
        · exact h1 x hxm
        · rw [List.mem_singleton] at hxm; subst hxm; exact Or.inr hx
      · rw [if_pos rfl]
        obtain ⟨L, y, eL, hy⟩ := h2 ho
        rw [eL] at h1 ⊢
        simp only [List.dropLast_concat, List.getLastD_concat]
        have hx : Lat.longW (y ++ [b]) := ⟨by simp, fun c hc => by
          rcases List.mem_append.1 hc with hc | hc
          · exact hy.2 c hc
          · rw [List.mem_singleton] at hc; subst hc; exact ⟨hbl, hbr, hlg⟩⟩
        refine ⟨fun x hxm => ?_, fun _ => ⟨_, _, rfl, hx⟩⟩
        rcases List.mem_append.1 hxm with hxm | hxm
        · exact h1 x (List.mem_append_left _ hxm)
        · rw [List.mem_singleton] at hxm; subst hxm; exact Or.inr hx
    · rw [if_neg (by simp), if_pos rfl]
      refine ⟨fun x hxm => ?_, fun h => by cases h⟩
      rcases List.mem_append.1 hxm with hxm | hxm
      · exact h1 x hxm
      · rw [List.mem_singleton] at hxm; subst hxm; exact Or.inl ⟨b, rfl, hbl, hbr⟩
  · rw [if_pos rfl]
    exact ⟨h1, fun h => by cases h⟩

theorem fold_open : ∀ (x : List UInt8) (acc : List (List UInt8)) (y : List UInt8), (∀ b ∈ x, Lat.blankN b.toNat = false ∧ Lat.brackN b.toNat = false) → x.foldl Lat.wstep (acc ++ [y], true) = (acc ++ [y ++ x], true)
  | [], acc, y, _ => by simp
  | b :: x, acc, y, h => by
    obtain ⟨hb1, hb2⟩ := h b (by simp)
    rw [List.foldl_cons]
    have e : Lat.wstep (acc ++ [y], true) b = (acc ++ [y ++ [b]], true) := by
      unfold Lat.wstep
      rw [if_neg (by simp [hb1]), if_neg (by simp [hb2]), if_pos rfl]
      simp
    rw [e, fold_open x acc (y ++ [b]) (fun c hc => h c (by simp [hc]))]
    simp
theorem fold_word (x : List UInt8) (acc : List (List UInt8)) (h : Lat.wordW x) : ∃ o, x.foldl Lat.wstep (acc, false) = (acc ++ [x], o) := by
  rcases h with ⟨b, rfl, hb1, hb2⟩ | ⟨hne, hx⟩
  · refine ⟨false, ?_⟩
    rw [List.foldl_cons, List.foldl_nil]
    unfold Lat.wstep
    rw [if_neg (by simp [hb1]), if_pos hb2]
  · cases x with
    | nil => exact absurd rfl hne
    | cons b x =>
      obtain ⟨hb1, hb2, _⟩ := hx b (by simp)
      refine ⟨true, ?_⟩
      rw [List.foldl_cons]
      have e : Lat.wstep (acc, false) b = (acc ++ [[b]], true) := by
        unfold Lat.wstep
        rw [if_neg (by simp [hb1]), if_neg (by simp [hb2]), if_neg (by simp)]
      rw [e, fold_open x acc [b] (fun c hc => ⟨(hx c (by simp [hc])).1, (hx c (by simp [hc])).2.1⟩)]
      rfl
theorem fold_tail : ∀ (r : List (List UInt8)) (acc : List (List UInt8)) (o : Bool), (∀ x ∈ r, Lat.wordW x) → ((Lib.joinTail [32] r).foldl Lat.wstep (acc, o)).1 = acc ++ r
  | [], acc, o, _ => by simp [Lib.joinTail]
  | x :: r, acc, o, h => by
    have e : Lib.joinTail [32] (x :: r) = 32 :: (x ++ Lib.joinTail [32] r) := by simp [Lib.joinTail]
    rw [e, List.foldl_cons, List.foldl_append]
    have e2 : Lat.wstep (acc, o) 32 = (acc, false) := by
      unfold Lat.wstep; rw [if_pos (by decide)]
    obtain ⟨o', e3⟩ := fold_word x acc (h x (by simp))
    rw [e2, e3, fold_tail r _ _ (fun y hy => h y (by simp [hy]))]
    simp
theorem fold_join (r : List (List UInt8)) (h : ∀ x ∈ r, Lat.wordW x) : (Lat.wfold (Lib.join r [32])).1 = r := by
  unfold Lat.wfold
  cases r with
  | nil => rfl
  | cons x r =>
    rw [Lib.join_cons, List.foldl_append]
    obtain ⟨o', e3⟩ := fold_word x [] (h x (by simp))
    rw [e3, fold_tail r _ _ (fun y hy => h y (by simp [hy]))]
    rfl
theorem word_ok {x : List UInt8} (h : Lat.wordW x) : ∀ b ∈ x, Lat.okN b.toNat = true := by
  intro b hb
  unfold Lat.okN
  rcases h with ⟨c, rfl, _, h2⟩ | ⟨_, hx⟩
  · rw [List.mem_singleton] at hb; subst hb; rw [h2]; simp
  · rw [(hx b hb).2.2]; simp
theorem tail_ok : ∀ (r : List (List UInt8)), (∀ x ∈ r, Lat.wordW x) → ∀ b ∈ Lib.joinTail [32] r, Lat.okN b.toNat = true
  | [], _, b, hb => by simp [Lib.joinTail] at hb
  | x :: r, h, b, hb => by
    have e : Lib.joinTail [32] (x :: r) = 32 :: (x ++ Lib.joinTail [32] r) := by simp [Lib.joinTail]
    rw [e] at hb
    rcases List.mem_cons.1 hb with rfl | hb
    · decide
    · rcases List.mem_append.1 hb with hb | hb
      · exact word_ok (h x (by simp)) b hb
      · exact tail_ok r (fun y hy => h y (by simp [hy])) b hb
theorem join_ok (r : List (List UInt8)) (h : ∀ x ∈ r, Lat.wordW x) : ∀ b ∈ Lib.join r [32], Lat.okN b.toNat = true := by
  cases r with
  | nil => intro b hb; simp [Lib.join_nil] at hb
  | cons x r =>
    intro b hb
    rw [Lib.join_cons] at hb
    rcases List.mem_append.1 hb with hb | hb
    · exact word_ok (h x (by simp)) b hb
    · exact tail_ok r (fun y hy => h y (by simp [hy])) b hb

theorem bad_none {s : ByteArray} : Lat.badAt s = none ↔ ∀ b ∈ s.data.toList, Lat.okN b.toNat = true := by
  constructor
  · intro h b hb
    obtain ⟨k, hk, rfl⟩ := List.mem_iff_getElem.1 hb
    have h1 := List.find?_eq_none.1 h k (List.mem_range.2 (by rw [size_list] at hk; exact hk))
    have h2 : Lat.okAt s k = true := by simpa using h1
    have hbt : Lat.bt s k = (s.data.toList[k]).toNat := by
      unfold Lat.bt; rw [List.getD, List.getElem?_eq_getElem hk]; rfl
    unfold Lat.okAt at h2
    rw [hbt] at h2
    exact h2
  · intro h
    refine Lat.find_none (fun k hk => ?_)
    have hk' : k < s.data.toList.length := by rw [size_list]; exact hk
    have hbt : Lat.bt s k = (s.data.toList[k]).toNat := by
      unfold Lat.bt; rw [List.getD, List.getElem?_eq_getElem hk']; rfl
    have := h s.data.toList[k] (List.getElem_mem hk')
    unfold Lat.okAt
    rw [hbt]
    unfold Lat.okN at this
    rw [this]; rfl

/-- The words of a text, as lists of bytes. -/
theorem wds_fold {s : ByteArray} (h1 : ¬ 4096 < s.size) (h2 : Lat.badAt s = none) : (Lat.wds s).map (·.data.toList) = (Lat.wfold s.data.toList).1 := by
  unfold Lat.wds
  rw [if_neg h1, h2]
  simp only [List.map_map]
  have := (tok_fold s s.size (Nat.le_refl _)).1
  rw [List.take_of_length_le (by rw [size_list]; exact Nat.le_refl _)] at this
  exact this
theorem bytes_inj : ∀ {a b : List ByteArray}, a.map (·.data.toList) = b.map (·.data.toList) → a = b
  | [], [], _ => rfl
  | [], y :: b, h => by simp at h
  | x :: a, [], h => by simp at h
  | x :: a, y :: b, h => by
    simp only [List.map_cons, List.cons.injEq] at h
    obtain ⟨h1, h2⟩ := h
    rw [bytes_inj h2]
    congr 1
    cases x with | mk x => cases y with | mk y => congr 1; exact Array.toList_inj.1 h1
/-- Words, with a blank between, are the same words. -/
theorem words_back {s t : ByteArray} (he : Lat.we s = 0) (ht : t.data.toList = Lib.join ((Lat.wds s).map (·.data.toList)) [32]) (h4 : ¬ 4096 < t.size) : Lat.we t = 0 ∧ Lat.wds t = Lat.wds s := by
  have h1 : ¬ 4096 < s.size := by
    intro h
    unfold Lat.we at he
    rw [if_pos h] at he
    cases he
  have h2 : Lat.badAt s = none := by
    unfold Lat.we at he
    rw [if_neg h1] at he
    cases hb : Lat.badAt s with
    | none => rfl
    | some k => rw [hb] at he; simp at he
  have hf := wds_fold h1 h2
  have hw : ∀ x ∈ (Lat.wds s).map (·.data.toList), Lat.wordW x := by
    rw [hf]
    exact (fold_words _ (bad_none.1 h2)).1
  have hb : Lat.badAt t = none := bad_none.2 (by rw [ht]; exact join_ok _ hw)
  refine ⟨by unfold Lat.we; rw [if_neg h4, hb]; rfl, bytes_inj ?_⟩
  rw [wds_fold h4 hb, ht, fold_join _ hw]

end Go.Proofs.Ytadpinekcadabab
