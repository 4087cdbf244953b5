/- The words of a module are read as that module; its text is. -/
import Derived.Test.YtbncnkfogkhoeabGreatDoorZBE
import Derived.Test.YtbncnkfogkhoeabGreatDoorZBG
namespace Go.Proofs.YtbncnkfogkhoeabGreatDoor
open Go.RowKit

namespace Rd
open Lat (longW nameB exprB exD bodyB bdD stB stD strB)
theorem name_plain {w : ByteArray} (h : strB w = true) : plain w = true := long_plain (Lat.name_long h)
/-- A loop over commands, whose end is told by c. -/
theorem loop_sts {K k d m : Nat} {c : Sr → Bool} (hc : ∀ (s : St) (r : List ByteArray), stB m s = true → c ⟨Tk.stk (Tk.ex m) (Tk.bd m) s ++ r, false⟩ = true) (R : List ByteArray) (hR : c ⟨R, false⟩ = false)
    (hp : ∀ (s : St) (r : List ByteArray), stB m s = true → stD m s + d ≤ 20 → (Tk.stk (Tk.ex m) (Tk.bd m) s ++ r).length < k → (Tk.stk (Tk.ex m) (Tk.bd m) s ++ r).length < K → pS K k d ⟨Tk.stk (Tk.ex m) (Tk.bd m) s ++ r, false⟩ = (s, ⟨r, false⟩)) :
    ∀ (l : List St) (n : Nat), (∀ s ∈ l, stB m s = true) → (∀ s ∈ l, stD m s + d ≤ 20) → ((l.map (Tk.stk (Tk.ex m) (Tk.bd m))).flatten ++ R).length < k → ((l.map (Tk.stk (Tk.ex m) (Tk.bd m))).flatten ++ R).length < K → l.length ≤ n →
      loop c (pS K k d) n ⟨(l.map (Tk.stk (Tk.ex m) (Tk.bd m))).flatten ++ R, false⟩ = (l, ⟨R, false⟩)
  | [], n, _, _, _, _, _ => by simp only [List.map_nil, List.flatten_nil, List.nil_append]; exact loop_stop hR
  | s :: l, n, hB, hD, hk, hK, hn => by
    obtain ⟨n, rfl⟩ : ∃ j, n = j + 1 := ⟨n - 1, by simp at hn; omega⟩
    have e : ((s :: l).map (Tk.stk (Tk.ex m) (Tk.bd m))).flatten ++ R = Tk.stk (Tk.ex m) (Tk.bd m) s ++ ((l.map (Tk.stk (Tk.ex m) (Tk.bd m))).flatten ++ R) := by simp
    rw [e] at hk hK ⊢
    rw [loop_step (hc s _ (hB s (by simp))), hp s _ (hB s (by simp)) (hD s (by simp)) hk hK]
    have ih := loop_sts hc R hR hp l n (fun z hz => hB z (by simp [hz])) (fun z hz => hD z (by simp [hz])) (by rw [List.length_append] at hk; omega) (by rw [List.length_append] at hK; omega) (by simp at hn; omega)
    simp only [ih]
theorem stk_len (m : Nat) (s : St) : 1 ≤ (Tk.stk (Tk.ex m) (Tk.bd m) s).length := by
  unfold Tk.stk
  repeat' split
  all_goals simp
theorem brc_stk (m : Nat) (s : St) (r : List ByteArray) : brc ⟨Tk.stk (Tk.ex m) (Tk.bd m) s ++ r, false⟩ = true := by
  unfold Tk.stk
  repeat' split
  all_goals rfl
theorem bodyc_stk (m : Nat) (s : St) (r : List ByteArray) : bodyc ⟨Tk.stk (Tk.ex m) (Tk.bd m) s ++ r, false⟩ = true := by
  unfold Tk.stk
  repeat' split
  all_goals rfl
theorem stH_cases {s : St} (h : Lat.stH s = true) : (s.kind = 1 ∧ strB s.name = true ∧ s.a = [] ∧ s.b = []) ∨ (s.kind = 4 ∧ strB s.name = true ∧ s.a = [] ∧ s.b = []) ∨ (s.kind = 2 ∧ s.name = ⟨#[]⟩) ∨ (s.kind = 3 ∧ s.name = ⟨#[]⟩ ∧ s.b = []) := by
  unfold Lat.stH at h
  by_cases k1 : s.kind = 1 ∨ s.kind = 4
  · rw [if_pos k1] at h
    simp only [Bool.and_eq_true, beq_iff_eq] at h
    obtain ⟨⟨h1, h2⟩, h3⟩ := h
    rcases k1 with k | k
    · exact Or.inl ⟨k, h1, List.length_eq_zero_iff.1 h3, List.length_eq_zero_iff.1 h2⟩
    · exact Or.inr (Or.inl ⟨k, h1, List.length_eq_zero_iff.1 h3, List.length_eq_zero_iff.1 h2⟩)
  · rw [if_neg k1] at h
    by_cases k2 : s.kind = 2
    · rw [if_pos k2] at h
      exact Or.inr (Or.inr (Or.inl ⟨k2, bytes_ext (by rw [ByteArray.toList_eq] at h; simpa using h)⟩))
    · rw [if_neg k2] at h
      by_cases k3 : s.kind = 3
      · rw [if_pos k3] at h
        simp only [Bool.and_eq_true, beq_iff_eq] at h
        exact Or.inr (Or.inr (Or.inr ⟨k3, bytes_ext (by have := h.1; rw [ByteArray.toList_eq] at this; simpa using this), List.length_eq_zero_iff.1 h.2⟩))
      · rw [if_neg k3] at h; cases h
theorem bd_len {m : Nat} {l : List St} : l.length ≤ ((l.map (Tk.stk (Tk.ex m) (Tk.bd m))).flatten).length := flat_len (fun y _ => stk_len m y)
/-- A block of commands. -/
theorem blk_tok {K k d m : Nat} (hp : ∀ (s : St) (r : List ByteArray), stB m s = true → stD m s + (d + 1) ≤ 20 → (Tk.stk (Tk.ex m) (Tk.bd m) s ++ r).length < k → (Tk.stk (Tk.ex m) (Tk.bd m) s ++ r).length < K → pS K k (d + 1) ⟨Tk.stk (Tk.ex m) (Tk.bd m) s ++ r, false⟩ = (s, ⟨r, false⟩))
    (l : List St) (r : List ByteArray) (hB : bodyB (m + 1) l = true) (hD : bdD (m + 1) l + (d + 1) ≤ 20) (hk : (Tk.bd (m + 1) l ++ Tk.c :: r).length < k) (hK : (Tk.bd (m + 1) l ++ Tk.c :: r).length < K) :
    blk (pS K k (d + 1)) k d ⟨Tk.o :: (Tk.bd (m + 1) l ++ Tk.c :: r), false⟩ = (l, ⟨r, false⟩) := by
  rw [Lat.bodyB_succ] at hB
  rw [Lat.bdD_succ] at hD
  have il := loop_sts (c := brc) (fun s r _ => brc_stk m s r) (Tk.c :: r) rfl hp l k (fun s hs => List.all_eq_true.1 hB s hs) (fun s hs => by have := mem_maxN (f := stD m) hs; omega) hk hK (by
    have := bd_len (m := m) (l := l)
    have e : Tk.bd (m + 1) l = (l.map (Tk.stk (Tk.ex m) (Tk.bd m))).flatten := rfl
    rw [← e] at this
    rw [List.length_append] at hk; omega)
  have e : Tk.bd (m + 1) l = (l.map (Tk.stk (Tk.ex m) (Tk.bd m))).flatten := rfl
  unfold blk
  rw [op_cons (by omega), e, il]
  simp only
  rw [sh_cons]
theorem pS_tok (K : Nat) : ∀ (m : Nat) (s : St) (k d : Nat) (r : List ByteArray), stB m s = true → stD m s + d ≤ 20 → (Tk.stk (Tk.ex m) (Tk.bd m) s ++ r).length < k → (Tk.stk (Tk.ex m) (Tk.bd m) s ++ r).length < K → pS K k d ⟨Tk.stk (Tk.ex m) (Tk.bd m) s ++ r, false⟩ = (s, ⟨r, false⟩)
  | m, s, 0, d, r, h, hd, hk, hK => by omega
  | 0, s, k + 1, d, r, h, hd, hk, hK => by
    unfold Lat.stB at h
    simp [Lat.exprB] at h
  | m + 1, s, k + 1, d, r, h, hd, hk, hK => by
    unfold Lat.stB at h
    simp only [Bool.and_eq_true] at h
    obtain ⟨⟨⟨hh, he⟩, ha⟩, hb⟩ := h
    obtain ⟨kd, nn, e, a, b⟩ := s
    simp only at he ha hb
    unfold Lat.stD at hd
    simp only at hd
    unfold Tk.stk at hk hK ⊢
    have ihp : ∀ (s : St) (r : List ByteArray), stB m s = true → stD m s + (d + 1 + 1) ≤ 20 → (Tk.stk (Tk.ex m) (Tk.bd m) s ++ r).length < k → (Tk.stk (Tk.ex m) (Tk.bd m) s ++ r).length < K → pS K k (d + 1 + 1) ⟨Tk.stk (Tk.ex m) (Tk.bd m) s ++ r, false⟩ = (s, ⟨r, false⟩) :=
      fun s r h1 h2 h3 h4 => pS_tok K m s k (d + 1 + 1) r h1 h2 h3 h4
    rcases stH_cases hh with ⟨k1, hn, ea, eb⟩ | ⟨k1, hn, ea, eb⟩ | ⟨k1, en⟩ | ⟨k1, en, eb⟩
    · simp only at k1 hn ea eb
      subst k1 ea eb
      simp only [if_true] at hk hK ⊢
      rw [if_neg (by decide)] at hd
      have el : (Tk.o :: ([(⟨#[115, 101, 116]⟩ : ByteArray)] ++ ([nn] ++ (Tk.ex (m + 1) e ++ []))) ++ [Tk.c]) ++ r = Tk.o :: (⟨#[115, 101, 116]⟩ : ByteArray) :: nn :: (Tk.ex (m + 1) e ++ Tk.c :: r) := by simp
      rw [el] at hk hK ⊢
      simp only [List.length_cons] at hk hK
      have ho : op d ⟨Tk.o :: (⟨#[115, 101, 116]⟩ : ByteArray) :: nn :: (Tk.ex (m + 1) e ++ Tk.c :: r), false⟩ = ⟨(⟨#[115, 101, 116]⟩ : ByteArray) :: nn :: (Tk.ex (m + 1) e ++ Tk.c :: r), false⟩ := op_cons (by omega)
      rw [pS_1 (by rw [ho]; rfl), ho, tk_cons rfl, nmP_cons (name_plain hn)]
      simp only
      rw [pE_tok (m + 1) e K (d + 1) (Tk.c :: r) he (by omega) (by omega)]
      simp only
      rw [sh_cons]
    · simp only at k1 hn ea eb
      subst k1 ea eb
      simp only at hk hK ⊢
      rw [if_neg (by decide), if_pos trivial] at hk hK ⊢
      rw [if_neg (by decide)] at hd
      have el : (Tk.o :: ([(⟨#[112, 114, 105, 110, 116]⟩ : ByteArray)] ++ ([nn] ++ (Tk.ex (m + 1) e ++ []))) ++ [Tk.c]) ++ r = Tk.o :: (⟨#[112, 114, 105, 110, 116]⟩ : ByteArray) :: nn :: (Tk.ex (m + 1) e ++ Tk.c :: r) := by simp
      rw [el] at hk hK ⊢
      simp only [List.length_cons] at hk hK
      have ho : op d ⟨Tk.o :: (⟨#[112, 114, 105, 110, 116]⟩ : ByteArray) :: nn :: (Tk.ex (m + 1) e ++ Tk.c :: r), false⟩ = ⟨(⟨#[112, 114, 105, 110, 116]⟩ : ByteArray) :: nn :: (Tk.ex (m + 1) e ++ Tk.c :: r), false⟩ := op_cons (by omega)
      rw [pS_4 (by rw [ho]; rfl), ho, tk_cons rfl, nmP_cons (name_plain hn)]
      simp only
      rw [pE_tok (m + 1) e K (d + 1) (Tk.c :: r) he (by omega) (by omega)]
      simp only
      rw [sh_cons]
    · simp only at k1 en
      subst k1 en
      simp only at hk hK ⊢
      rw [if_neg (by decide), if_neg (by decide), if_neg (by decide)] at hk hK ⊢
      rw [if_pos (Or.inl rfl)] at hd
      have el : (Tk.o :: ([(⟨#[105, 102]⟩ : ByteArray)] ++ (Tk.ex (m + 1) e ++ ((Tk.o :: Tk.bd (m + 1) a ++ [Tk.c]) ++ ((Tk.o :: Tk.bd (m + 1) b ++ [Tk.c]) ++ [])))) ++ [Tk.c]) ++ r = Tk.o :: (⟨#[105, 102]⟩ : ByteArray) :: (Tk.ex (m + 1) e ++ Tk.o :: (Tk.bd (m + 1) a ++ Tk.c :: (Tk.o :: (Tk.bd (m + 1) b ++ Tk.c :: (Tk.c :: r))))) := by simp
      rw [el] at hk hK ⊢
      simp only [List.length_cons, List.length_append] at hk hK
      have ho : op d ⟨Tk.o :: (⟨#[105, 102]⟩ : ByteArray) :: (Tk.ex (m + 1) e ++ Tk.o :: (Tk.bd (m + 1) a ++ Tk.c :: (Tk.o :: (Tk.bd (m + 1) b ++ Tk.c :: (Tk.c :: r))))), false⟩ = ⟨(⟨#[105, 102]⟩ : ByteArray) :: (Tk.ex (m + 1) e ++ Tk.o :: (Tk.bd (m + 1) a ++ Tk.c :: (Tk.o :: (Tk.bd (m + 1) b ++ Tk.c :: (Tk.c :: r))))), false⟩ := op_cons (by omega)
      rw [pS_2 (by rw [ho]; rfl), ho, tk_cons rfl]
      rw [pE_tok (m + 1) e K (d + 1) _ he (by omega) (by simp only [List.length_cons, List.length_append]; omega)]
      simp only
      rw [blk_tok ihp a _ ha (by omega) (by simp only [List.length_cons, List.length_append]; omega) (by simp only [List.length_cons, List.length_append]; omega)]
      simp only
      rw [blk_tok ihp b _ hb (by omega) (by simp only [List.length_cons, List.length_append]; omega) (by simp only [List.length_cons, List.length_append]; omega)]
      simp only
      rw [sh_cons]
    · simp only at k1 en eb
      subst k1 en eb
      simp only at hk hK ⊢
      rw [if_neg (by decide), if_neg (by decide), if_pos trivial] at hk hK ⊢
      rw [if_pos (Or.inr rfl)] at hd
      have el : (Tk.o :: ([(⟨#[119, 104, 105, 108, 101]⟩ : ByteArray)] ++ (Tk.ex (m + 1) e ++ ((Tk.o :: Tk.bd (m + 1) a ++ [Tk.c]) ++ []))) ++ [Tk.c]) ++ r = Tk.o :: (⟨#[119, 104, 105, 108, 101]⟩ : ByteArray) :: (Tk.ex (m + 1) e ++ Tk.o :: (Tk.bd (m + 1) a ++ Tk.c :: (Tk.c :: r))) := by simp
      rw [el] at hk hK ⊢
      simp only [List.length_cons, List.length_append] at hk hK
      have ho : op d ⟨Tk.o :: (⟨#[119, 104, 105, 108, 101]⟩ : ByteArray) :: (Tk.ex (m + 1) e ++ Tk.o :: (Tk.bd (m + 1) a ++ Tk.c :: (Tk.c :: r))), false⟩ = ⟨(⟨#[119, 104, 105, 108, 101]⟩ : ByteArray) :: (Tk.ex (m + 1) e ++ Tk.o :: (Tk.bd (m + 1) a ++ Tk.c :: (Tk.c :: r))), false⟩ := op_cons (by omega)
      rw [pS_3 (by rw [ho]; rfl), ho, tk_cons rfl]
      rw [pE_tok (m + 1) e K (d + 1) _ he (by omega) (by simp only [List.length_cons, List.length_append]; omega)]
      simp only
      rw [blk_tok ihp a _ ha (by omega) (by simp only [List.length_cons, List.length_append]; omega) (by simp only [List.length_cons, List.length_append]; omega)]
      simp only
      rw [sh_cons]

/-- The words of an expression begin no command. -/
theorem bodyc_ex {m : Nat} {x : Ex} (h : exprB m x = true) (r : List ByteArray) : bodyc ⟨Tk.ex m x ++ r, false⟩ = false := by
  cases m with
  | zero => cases h
  | succ m =>
    simp only [Lat.exprB] at h
    simp only [Tk.ex]
    by_cases k1 : x.kind = 1
    · rw [if_pos k1] at h ⊢
      simp only [Bool.and_eq_true, decide_eq_true_eq] at h
      have := (plain_parts (long_plain (Lat.num_long h.1.1.1))).2.1
      show (is _ [40] && _) = false
      rw [show is (pk ⟨[(⟨(Lib.itoa x.n).toArray⟩ : ByteArray)] ++ r, false⟩) [40] = false from this]; rfl
    · rw [if_neg k1] at h ⊢
      by_cases k2 : x.kind = 2
      · rw [if_pos k2] at h ⊢
        simp only [Bool.and_eq_true] at h
        have := (plain_parts (long_plain (Lat.name_long h.1.2))).2.1
        show (is _ [40] && _) = false
        rw [show is (pk ⟨[x.name] ++ r, false⟩) [40] = false from this]; rfl
      · rw [if_neg k2] at h ⊢
        by_cases k3 : x.kind = 3
        · rw [if_pos k3] at h
          simp only [Bool.and_eq_true] at h
          rw [if_neg (by omega)]
          have hc : cmd x.name = 0 := by
            rcases Lat.op_cases h.1.1.2 with e | e | e | e | e <;> rw [e] <;> rfl
          show (true && decide (cmd x.name ≠ 0)) = false
          rw [hc]; rfl
        · rw [if_neg k3] at h
          by_cases k4 : x.kind = 4
          · rw [if_pos k4]
            rfl
          · rw [if_neg k4] at h; cases h
theorem loop_names : ∀ (l : List ByteArray) (n : Nat) (r : List ByteArray), (∀ s ∈ l, strB s = true) → l.length ≤ n → loop plc nmP n ⟨l ++ Tk.c :: r, false⟩ = (l, ⟨Tk.c :: r, false⟩)
  | [], n, r, _, _ => loop_stop rfl
  | s :: l, n, r, h, hn => by
    obtain ⟨n, rfl⟩ : ∃ j, n = j + 1 := ⟨n - 1, by simp at hn; omega⟩
    have hs := name_plain (h s (by simp))
    rw [loop_step (show plc ⟨(s :: l) ++ Tk.c :: r, false⟩ = true from hs)]
    rw [List.cons_append, nmP_cons hs]
    have ih := loop_names l n r (fun z hz => h z (by simp [hz])) (by simp at hn; omega)
    simp only [ih]
theorem pF_tok {K m d : Nat} {f : Fu} {r : List ByteArray} (h : Lat.fuOk m f = true) (hd : 1 + max (max 1 (bdD m f.body)) (exD m f.result) + d ≤ 21) (hd1 : 1 ≤ d) (hK : ([f.name] ++ ((Tk.o :: f.params ++ [Tk.c]) ++ (Tk.bd m f.body ++ (Tk.ex m f.result ++ r)))).length < K) :
    pF K d ⟨[f.name] ++ ((Tk.o :: f.params ++ [Tk.c]) ++ (Tk.bd m f.body ++ (Tk.ex m f.result ++ r))), false⟩ = (f, ⟨r, false⟩) := by
  unfold Lat.fuOk at h
  simp only [Bool.and_eq_true] at h
  obtain ⟨⟨⟨hn, hb⟩, hx⟩, hp⟩ := h
  cases m with
  | zero => cases hb
  | succ m =>
    have e1 : [f.name] ++ ((Tk.o :: f.params ++ [Tk.c]) ++ (Tk.bd (m + 1) f.body ++ (Tk.ex (m + 1) f.result ++ r))) = f.name :: (Tk.o :: (f.params ++ Tk.c :: (Tk.bd (m + 1) f.body ++ (Tk.ex (m + 1) f.result ++ r)))) := by simp
    rw [e1] at hK ⊢
    simp only [List.length_cons, List.length_append] at hK
    have hb' := hb
    rw [Lat.bodyB_succ] at hb'
    have il := loop_sts (K := K) (k := K) (d := d) (m := m) (c := bodyc) (fun s r _ => bodyc_stk m s r) (Tk.ex (m + 1) f.result ++ r) (bodyc_ex hx r) (fun s r h1 h2 h3 h4 => pS_tok K m s K d r h1 h2 h3 h4) f.body K (fun s hs => List.all_eq_true.1 hb' s hs)
      (fun s hs => by have := mem_maxN (f := stD m) hs; rw [← Lat.bdD_succ] at this; omega)
      (by have e : Tk.bd (m + 1) f.body = (f.body.map (Tk.stk (Tk.ex m) (Tk.bd m))).flatten := rfl
          rw [← e]; simp only [List.length_append]; omega)
      (by have e : Tk.bd (m + 1) f.body = (f.body.map (Tk.stk (Tk.ex m) (Tk.bd m))).flatten := rfl
          rw [← e]; simp only [List.length_append]; omega)
      (by have := bd_len (m := m) (l := f.body)
          have e : Tk.bd (m + 1) f.body = (f.body.map (Tk.stk (Tk.ex m) (Tk.bd m))).flatten := rfl
          rw [← e] at this; omega)
    have e2 : Tk.bd (m + 1) f.body = (f.body.map (Tk.stk (Tk.ex m) (Tk.bd m))).flatten := rfl
    have hpar : pars K d ⟨Tk.o :: (f.params ++ Tk.c :: (Tk.bd (m + 1) f.body ++ (Tk.ex (m + 1) f.result ++ r))), false⟩ = (f.params, ⟨Tk.bd (m + 1) f.body ++ (Tk.ex (m + 1) f.result ++ r), false⟩) := by
      unfold pars
      rw [op_cons (by omega), loop_names f.params K _ (fun s hs => List.all_eq_true.1 hp s hs) (by omega)]
      simp only
      rw [sh_cons]
    have hpf : ∀ st, pF K d st = (⟨(nmP st).1, (pars K d (nmP st).2).1, (loop bodyc (pS K K d) K (pars K d (nmP st).2).2).1, (pE K d (loop bodyc (pS K K d) K (pars K d (nmP st).2).2).2).1⟩, (pE K d (loop bodyc (pS K K d) K (pars K d (nmP st).2).2).2).2) := fun _ => rfl
    rw [hpf, nmP_cons (name_plain hn)]
    simp only
    rw [hpar]
    simp only
    rw [e2, il]
    simp only
    rw [pE_tok (m + 1) f.result K d r hx (by omega) (by simp only [List.length_append]; omega)]
theorem pI_im {K : Nat} {m : Mo} {s : ByteArray} {r : List ByteArray} (h : strB s = true) : pI K 1 m ⟨Tk.im s ++ r, false⟩ = ({ m with imports := m.imports ++ [s] }, ⟨r, false⟩) := by
  have e : Tk.im s ++ r = Tk.o :: (⟨#[105, 109, 112, 111, 114, 116]⟩ : ByteArray) :: s :: (Tk.c :: r) := by unfold Tk.im; simp
  have ho : op 1 ⟨Tk.o :: (⟨#[105, 109, 112, 111, 114, 116]⟩ : ByteArray) :: s :: (Tk.c :: r), false⟩ = ⟨(⟨#[105, 109, 112, 111, 114, 116]⟩ : ByteArray) :: s :: (Tk.c :: r), false⟩ := op_cons (by decide)
  rw [e]
  unfold pI
  rw [ho, pk_cons, if_pos (by rfl), tk_cons rfl, nmP_cons (name_plain h)]
  simp only
  rw [sh_cons]
theorem pI_va {K : Nat} {m : Mo} {v : Va} {r : List ByteArray} (h : Lat.vaB v = true) : pI K 1 m ⟨Tk.va v ++ r, false⟩ = ({ m with vars := m.vars ++ [v] }, ⟨r, false⟩) := by
  unfold Lat.vaB at h
  simp only [Bool.and_eq_true] at h
  have e : Tk.va v ++ r = Tk.o :: (⟨#[118, 97, 114]⟩ : ByteArray) :: v.name :: v.level :: (Tk.c :: r) := by unfold Tk.va; simp
  have ho : op 1 ⟨Tk.o :: (⟨#[118, 97, 114]⟩ : ByteArray) :: v.name :: v.level :: (Tk.c :: r), false⟩ = ⟨(⟨#[118, 97, 114]⟩ : ByteArray) :: v.name :: v.level :: (Tk.c :: r), false⟩ := op_cons (by decide)
  rw [e]
  unfold pI
  rw [ho, pk_cons, if_neg (by decide), if_pos (by rfl), tk_cons rfl, pV_eq, nmP_cons (name_plain h.1)]
  simp only
  rw [nmP_cons (name_plain h.2)]
  simp only
  rw [sh_cons]
theorem pI_fu {K M : Nat} {m : Mo} {f : Fu} {r : List ByteArray} (h : Lat.fuOk M f = true) (hd : Lat.fuD M f ≤ 19) (hK : (Tk.fu M f ++ r).length < K) : pI K 1 m ⟨Tk.fu M f ++ r, false⟩ = ({ m with funs := m.funs ++ [f] }, ⟨r, false⟩) := by
  have e : Tk.fu M f ++ r = Tk.o :: (⟨#[102, 117, 110]⟩ : ByteArray) :: ([f.name] ++ ((Tk.o :: f.params ++ [Tk.c]) ++ (Tk.bd M f.body ++ (Tk.ex M f.result ++ (Tk.c :: r))))) := by unfold Tk.fu; simp
  have ho : op 1 ⟨Tk.o :: (⟨#[102, 117, 110]⟩ : ByteArray) :: ([f.name] ++ ((Tk.o :: f.params ++ [Tk.c]) ++ (Tk.bd M f.body ++ (Tk.ex M f.result ++ (Tk.c :: r))))), false⟩ = ⟨(⟨#[102, 117, 110]⟩ : ByteArray) :: ([f.name] ++ ((Tk.o :: f.params ++ [Tk.c]) ++ (Tk.bd M f.body ++ (Tk.ex M f.result ++ (Tk.c :: r))))), false⟩ := op_cons (by decide)
  rw [e] at hK ⊢
  simp only [List.length_cons] at hK
  unfold Lat.fuD at hd
  unfold pI
  rw [ho, pk_cons, if_neg (by decide), if_neg (by decide), if_pos (by rfl), tk_cons rfl, pF_tok h (by omega) (by omega) (by omega)]
  simp only
  rw [sh_cons]
/-- Items of one kind. -/
theorem pIs_list {α : Type} {K : Nat} {t : α → List ByteArray} {f : Mo → α → Mo} : ∀ (l : List α) (n : Nat) (m : Mo) (r : List ByteArray), (∀ y ∈ l, ∀ m r, (t y ++ r).length < K → pI K 1 m ⟨t y ++ r, false⟩ = (f m y, ⟨r, false⟩)) → (∀ y ∈ l, ∀ r, brc ⟨t y ++ r, false⟩ = true) →
    ((l.map t).flatten ++ r).length < K → l.length ≤ n → pIs K 1 n m ⟨(l.map t).flatten ++ r, false⟩ = pIs K 1 (n - l.length) (l.foldl f m) ⟨r, false⟩
  | [], n, m, r, _, _, _, _ => by simp
  | y :: l, n, m, r, h1, h2, hk, hn => by
    obtain ⟨n, rfl⟩ : ∃ j, n = j + 1 := ⟨n - 1, by simp at hn; omega⟩
    have e : ((y :: l).map t).flatten ++ r = t y ++ ((l.map t).flatten ++ r) := by simp
    rw [e] at hk ⊢
    rw [pIs_step (h2 y (by simp) _), h1 y (by simp) m _ hk]
    simp only
    rw [pIs_list l n _ r (fun z hz => h1 z (by simp [hz])) (fun z hz => h2 z (by simp [hz])) (by rw [List.length_append] at hk; omega) (by simp at hn; omega), List.foldl_cons, List.length_cons, Nat.add_sub_add_right]
theorem fold_im : ∀ (l : List ByteArray) (m : Mo), l.foldl (fun m s => { m with imports := m.imports ++ [s] }) m = { m with imports := m.imports ++ l }
  | [], m => by simp
  | s :: l, m => by rw [List.foldl_cons, fold_im l]; simp
theorem fold_va : ∀ (l : List Va) (m : Mo), l.foldl (fun m s => { m with vars := m.vars ++ [s] }) m = { m with vars := m.vars ++ l }
  | [], m => by simp
  | s :: l, m => by rw [List.foldl_cons, fold_va l]; simp
theorem fold_fu : ∀ (l : List Fu) (m : Mo), l.foldl (fun m s => { m with funs := m.funs ++ [s] }) m = { m with funs := m.funs ++ l }
  | [], m => by simp
  | s :: l, m => by rw [List.foldl_cons, fold_fu l]; simp
theorem pM_tok {K M : Nat} {x : Mo} (hn : strB x.name = true) (hi : x.imports.all strB = true) (hv : x.vars.all Lat.vaB = true) (hf : ∀ f ∈ x.funs, Lat.fuOk M f = true) (hd : Lat.moD M x ≤ 20) (hK : (Tk.mo M x).length < K) : pM K ⟨Tk.mo M x, false⟩ = (x, ⟨[], false⟩) := by
  have e : Tk.mo M x = Tk.o :: (⟨#[109, 111, 100, 117, 108, 101]⟩ : ByteArray) :: x.name :: ((x.imports.map Tk.im).flatten ++ ((x.vars.map Tk.va).flatten ++ ((x.funs.map (Tk.fu M)).flatten ++ [Tk.c]))) := by unfold Tk.mo; simp
  rw [e] at hK ⊢
  simp only [List.length_cons, List.length_append, List.length_nil] at hK
  have hpm : ∀ st, pM K st = ((pIs K 1 K ⟨(nmP (m1 st)).1, [], [], []⟩ (nmP (m1 st)).2).1, sh (pIs K 1 K ⟨(nmP (m1 st)).1, [], [], []⟩ (nmP (m1 st)).2).2) := fun _ => rfl
  have hm1 : ∀ r, m1 ⟨Tk.o :: (⟨#[109, 111, 100, 117, 108, 101]⟩ : ByteArray) :: r, false⟩ = ⟨r, false⟩ := fun r => by
    unfold m1
    rw [op_cons (by decide), kw_cons rfl (by simp)]
  have l1 : x.imports.length ≤ (x.imports.map Tk.im).flatten.length := flat_len (fun y _ => by unfold Tk.im; simp)
  have l2 : x.vars.length ≤ (x.vars.map Tk.va).flatten.length := flat_len (fun y _ => by unfold Tk.va; simp)
  have l3 : x.funs.length ≤ (x.funs.map (Tk.fu M)).flatten.length := flat_len (fun y _ => by unfold Tk.fu; simp)
  rw [hpm, hm1, nmP_cons (name_plain hn)]
  simp only
  rw [pIs_list (t := Tk.im) (f := fun m s => { m with imports := m.imports ++ [s] }) x.imports K _ _ (fun y hy m r _ => pI_im (List.all_eq_true.1 hi y hy)) (fun _ _ _ => rfl) (by simp only [List.length_append, List.length_cons, List.length_nil]; omega) (by omega)]
  rw [pIs_list (t := Tk.va) (f := fun m s => { m with vars := m.vars ++ [s] }) x.vars _ _ _ (fun y hy m r _ => pI_va (List.all_eq_true.1 hv y hy)) (fun _ _ _ => rfl) (by simp only [List.length_append, List.length_cons, List.length_nil]; omega) (by omega)]
  rw [pIs_list (t := Tk.fu M) (f := fun m s => { m with funs := m.funs ++ [s] }) x.funs _ _ _ (fun y hy m r hr => pI_fu (hf y hy) (by
      have := mem_maxN (f := Lat.fuD M) hy
      unfold Lat.moD at hd
      omega) hr) (fun _ _ _ => rfl) (by simp only [List.length_append, List.length_cons, List.length_nil]; omega) (by omega)]
  rw [pIs_stop (show brc ⟨[Tk.c], false⟩ = false from rfl), fold_im, fold_va, fold_fu, sh_cons]
  simp

/-! ### With more fuel the same is told. -/
theorem ex_up : ∀ (m : Nat) (x : Ex) (k : Nat), exprB m x = true → exD m x < k → exprB k x = true ∧ Lat.exT k x = Lat.exT m x
  | 0, x, k, h, _ => by cases h
  | m + 1, x, 0, h, hk => by omega
  | m + 1, x, k + 1, h, hk => by
    simp only [Lat.exD] at hk
    simp only [Lat.exprB] at h ⊢
    simp only [Lat.exT]
    by_cases k1 : x.kind = 1
    · rw [if_pos k1] at h ⊢
      rw [if_pos k1, if_pos k1]
      exact ⟨h, rfl⟩
    · rw [if_neg k1] at h ⊢
      rw [if_neg k1, if_neg k1]
      by_cases k2 : x.kind = 2
      · rw [if_pos k2] at h ⊢
        rw [if_pos k2, if_pos k2]
        exact ⟨h, rfl⟩
      · rw [if_neg k2] at h ⊢
        rw [if_neg k2, if_neg k2]
        rw [if_neg (by omega)] at hk
        have ih : ∀ y ∈ x.args, exprB m y = true → exprB k y = true ∧ Lat.exT k y = Lat.exT m y := fun y hy hB => ex_up m y k hB (by have := mem_maxN (f := exD m) hy; omega)
        have key : x.args.all (exprB m) = true → x.args.all (exprB k) = true ∧ x.args.foldl (Lat.exStep (Lat.exT k)) (Lat.exHead x) = x.args.foldl (Lat.exStep (Lat.exT m)) (Lat.exHead x) := fun hall => by
          have h1 : ∀ y ∈ x.args, exprB k y = true ∧ Lat.exT k y = Lat.exT m y := fun y hy => ih y hy (List.all_eq_true.1 hall y hy)
          refine ⟨List.all_eq_true.2 (fun y hy => (h1 y hy).1), ?_⟩
          have : ∀ (l : List Ex) (acc : ByteArray), (∀ y ∈ l, Lat.exT k y = Lat.exT m y) → l.foldl (Lat.exStep (Lat.exT k)) acc = l.foldl (Lat.exStep (Lat.exT m)) acc := by
            intro l
            induction l with
            | nil => intro acc _; rfl
            | cons y l ih2 =>
              intro acc hl
              rw [List.foldl_cons, List.foldl_cons, ih2 _ (fun z hz => hl z (by simp [hz]))]
              unfold Lat.exStep
              rw [hl y (by simp)]
          exact this _ _ (fun y hy => (h1 y hy).2)
        by_cases k3 : x.kind = 3
        · rw [if_pos k3] at h ⊢
          simp only [Bool.and_eq_true] at h ⊢
          obtain ⟨h1, h2⟩ := key h.2
          exact ⟨⟨h.1, h1⟩, by rw [h2]⟩
        · rw [if_neg k3] at h ⊢
          by_cases k4 : x.kind = 4
          · rw [if_pos k4] at h ⊢
            simp only [Bool.and_eq_true] at h ⊢
            obtain ⟨h1, h2⟩ := key h.2
            exact ⟨⟨h.1, h1⟩, by rw [h2]⟩
          · rw [if_neg k4] at h; cases h
theorem bd_up : ∀ (m : Nat) (l : List St) (k : Nat), bodyB m l = true → bdD m l < k → bodyB k l = true ∧ Lat.txs k l = Lat.txs m l
  | 0, l, k, h, _ => by cases h
  | m + 1, l, 0, h, hk => by omega
  | m + 1, l, k + 1, h, hk => by
    rw [Lat.bodyB_succ] at h
    rw [Lat.bdD_succ] at hk
    have h1 : ∀ s ∈ l, stB k s = true ∧ Lat.stX k s = Lat.stX m s := fun s hs => by
      have hB := List.all_eq_true.1 h s hs
      have hD : stD m s < k + 1 := Nat.lt_of_le_of_lt (mem_maxN (f := stD m) hs) hk
      unfold Lat.stB at hB ⊢
      simp only [Bool.and_eq_true] at hB ⊢
      obtain ⟨⟨⟨hh, he⟩, ha⟩, hb⟩ := hB
      unfold Lat.stD at hD
      rcases stH_cases hh with ⟨k1, hn, ea, eb⟩ | ⟨k1, hn, ea, eb⟩ | ⟨k1, en⟩ | ⟨k1, en, eb⟩
      · rw [if_neg (by omega)] at hD
        obtain ⟨e1, e2⟩ := ex_up m s.e k he (by omega)
        have hkk : bodyB k [] = true := by
          cases k with
          | zero => omega
          | succ k => rfl
        refine ⟨⟨⟨⟨hh, e1⟩, by rw [ea]; exact hkk⟩, by rw [eb]; exact hkk⟩, ?_⟩
        rw [← set_text k s k1, ← set_text m s k1, e2]
      · rw [if_neg (by omega)] at hD
        obtain ⟨e1, e2⟩ := ex_up m s.e k he (by omega)
        have hkk : bodyB k [] = true := by
          cases k with
          | zero => omega
          | succ k => rfl
        refine ⟨⟨⟨⟨hh, e1⟩, by rw [ea]; exact hkk⟩, by rw [eb]; exact hkk⟩, ?_⟩
        rw [← print_text k s k1, ← print_text m s k1, e2]
      · rw [if_pos (Or.inl k1)] at hD
        obtain ⟨e1, e2⟩ := ex_up m s.e k he (by omega)
        obtain ⟨a1, a2⟩ := bd_up m s.a k ha (by omega)
        obtain ⟨b1, b2⟩ := bd_up m s.b k hb (by omega)
        refine ⟨⟨⟨⟨hh, e1⟩, a1⟩, b1⟩, ?_⟩
        rw [← if_text k s k1, ← if_text m s k1, e2, a2, b2]
      · rw [if_pos (Or.inr k1)] at hD
        obtain ⟨e1, e2⟩ := ex_up m s.e k he (by omega)
        obtain ⟨a1, a2⟩ := bd_up m s.a k ha (by omega)
        obtain ⟨b1, b2⟩ := bd_up m s.b k hb (by omega)
        refine ⟨⟨⟨⟨hh, e1⟩, a1⟩, b1⟩, ?_⟩
        rw [← while_text k s k1, ← while_text m s k1, e2, a2]
    refine ⟨by rw [Lat.bodyB_succ]; exact List.all_eq_true.2 (fun s hs => (h1 s hs).1), ?_⟩
    simp only [Lat.txs]
    exact List.map_congr_left (fun s hs => (h1 s hs).2)
theorem fu_up {m k : Nat} {f : Fu} (h : Lat.fuOk m f = true) (hd : Lat.fuD m f ≤ k) : Lat.fuOk k f = true ∧ Lat.fuX k f = Lat.fuX m f := by
  unfold Lat.fuD at hd
  unfold Lat.fuOk at h ⊢
  simp only [Bool.and_eq_true] at h ⊢
  obtain ⟨⟨⟨hn, hb⟩, hx⟩, hp⟩ := h
  obtain ⟨b1, b2⟩ := bd_up m f.body k hb (by omega)
  obtain ⟨x1, x2⟩ := ex_up m f.result k hx (by omega)
  refine ⟨⟨⟨⟨hn, b1⟩, x1⟩, hp⟩, ?_⟩
  unfold Lat.fuX
  rw [b2, x2]
/-- What moE 0 says. -/
theorem moE_parts {m : Nat} {x : Mo} (h : Lat.moE m x = 0) : (x.imports.length ≤ 8 ∧ x.vars.length ≤ 8 ∧ x.funs.length ≤ 8) ∧ strB x.name = true ∧ x.imports.all strB = true ∧ x.vars.all Lat.vaB = true ∧ (∀ f ∈ x.funs, Lat.fuE m f = 0 ∧ Lat.fuOk m f = true) ∧ Lat.deepB (Lat.moT m x) = false := by
  unfold Lat.moE at h
  split at h
  · cases h
  · rename_i h1
    split at h
    · cases h
    · rename_i h2
      split at h
      · rename_i h3; exact absurd h h3
      · rename_i h3
        split at h
        · cases h
        · rename_i h4
          have h2' : ((strB x.name && x.imports.all strB) && x.vars.all Lat.vaB) = true := eq_true_of_ne_false h2
          simp only [Bool.and_eq_true] at h2'
          have h3' : Lat.fusE m x.funs = 0 := Classical.byContradiction h3
          exact ⟨⟨by omega, by omega, by omega⟩, h2'.1.1, h2'.1.2, h2'.2, fun f hf => ⟨fusE_ok h3' f hf, fuE_ok (fusE_ok h3' f hf)⟩, eq_false_of_ne_true h4⟩
/-- Fuel above what is nested tells the same. -/
theorem moE_up {m k : Nat} {x : Mo} (hm : x.funs ≠ [] → m ≠ 0) (h : Lat.moE m x = 0) (hk : 21 ≤ k) : Lat.moE k x = 0 ∧ Lat.moT k x = Lat.moT m x ∧ Lat.moD m x ≤ 20 := by
  obtain ⟨⟨l1, l2, l3⟩, hn, hi, hv, hf, hd⟩ := moE_parts h
  have hD : Lat.moD m x ≤ 20 := by
    have := moT_dpt hm hn hi hv (fun f hf' => (hf f hf').2)
    rw [hd] at this
    have := of_decide_eq_false this.symm
    omega
  have hup : ∀ f ∈ x.funs, Lat.fuOk k f = true ∧ Lat.fuX k f = Lat.fuX m f := fun f hf' => fu_up (hf f hf').2 (by
    have := mem_maxN (f := Lat.fuD m) hf'
    unfold Lat.moD at hD
    omega)
  have hT : Lat.moT k x = Lat.moT m x := by
    rw [← moX_eq hm, ← moX_eq (m := k) (fun _ => by omega)]
    unfold Lat.moX
    rw [List.map_congr_left (fun f hf' => (hup f hf').2)]
  refine ⟨?_, hT, hD⟩
  have hF : Lat.fusE k x.funs = 0 := fusE_zero (fun d z hz => by
    have hz' := List.mem_of_getElem? hz
    have h1 := (hf z hz').1
    unfold Lat.fuE at h1 ⊢
    split at h1
    · cases h1
    · rename_i h5
      rw [if_neg h5, if_pos (hup z hz').1])
  unfold Lat.moE
  rw [if_neg (by omega), hn, hi, hv, hF, hT, hd]
  rfl
/-- What is printed is read as it was. -/
theorem parse_text {m : Nat} {x : Mo} (hm : x.funs ≠ [] → m ≠ 0) (h : Lat.moE m x = 0) (h4 : ¬ 4096 < (Lat.moT m x).size) : prE (Lat.moT m x) = 0 ∧ prX (Lat.moT m x) = x := by
  obtain ⟨_, hn, hi, hv, hf, _⟩ := moE_parts h
  obtain ⟨hE, _, hD⟩ := moE_up (k := 8196) hm h (by decide)
  obtain ⟨w1, w2⟩ := (Lat.moT_lx hm hn hi hv (fun f hf' => (hf f hf').2)).words h4
  have hl : (Tk.mo m x).length < 4097 := by
    rw [← w2]
    have := (wds_facts (Lat.moT m x)).1
    omega
  have hpm : prM (Lat.moT m x) = (x, ⟨[], false⟩) := by
    unfold prM
    rw [w2]
    exact pM_tok hn hi hv (fun f hf' => (hf f hf').2) hD hl
  have hps : prS (Lat.moT m x) = ⟨[], false⟩ := by unfold prS; rw [hpm]; rfl
  have e1 : prE (Lat.moT m x) = 0 := by
    unfold prE
    rw [if_pos w1, hps, hpm]
    simp only [Bool.false_eq_true, if_false]
    exact hE
  exact ⟨e1, by unfold prX; rw [if_pos e1, hpm]⟩
/-- A text that is too long. -/
theorem parse_long {t : ByteArray} (h : 4096 < t.size) : prE t = 2 := by
  have : Lat.we t = 2 := by unfold Lat.we; rw [if_pos h]
  unfold prE
  rw [this]
  rfl
end Rd

end Go.Proofs.YtbncnkfogkhoeabGreatDoor
