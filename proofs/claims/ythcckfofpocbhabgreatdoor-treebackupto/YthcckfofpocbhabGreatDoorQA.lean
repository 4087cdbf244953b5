/- The words of a module's text. -/
import Derived.Test.YthcckfofpocbhabGreatDoorZD
import Derived.Test.YthcckfofpocbhabGreatDoorZE
namespace Go.Proofs.YthcckfofpocbhabGreatDoor
open Go.RowKit

namespace Tk
abbrev o : ByteArray := ⟨#[40]⟩
abbrev c : ByteArray := ⟨#[41]⟩
/-- The words of an expression. -/
def ex : Nat → Ex → List ByteArray
  | 0, _ => []
  | m + 1, x => if x.kind = 1 then [⟨(Lib.itoa x.n).toArray⟩] else if x.kind = 2 then [x.name]
    else if x.kind = 4 then o :: ([⟨#[99, 97, 108, 108]⟩] ++ ([x.name] ++ (x.args.map (ex m)).flatten)) ++ [c] else o :: ([x.name] ++ (x.args.map (ex m)).flatten) ++ [c]
def stk (et : Ex → List ByteArray) (bt : List St → List ByteArray) (s : St) : List ByteArray :=
  if s.kind = 1 then o :: ([⟨#[115, 101, 116]⟩] ++ ([s.name] ++ (et s.e ++ []))) ++ [c]
  else if s.kind = 4 then o :: ([⟨#[112, 114, 105, 110, 116]⟩] ++ ([s.name] ++ (et s.e ++ []))) ++ [c]
  else if s.kind = 3 then o :: ([⟨#[119, 104, 105, 108, 101]⟩] ++ (et s.e ++ ((o :: bt s.a ++ [c]) ++ []))) ++ [c]
  else o :: ([⟨#[105, 102]⟩] ++ (et s.e ++ ((o :: bt s.a ++ [c]) ++ ((o :: bt s.b ++ [c]) ++ [])))) ++ [c]
def bd : Nat → List St → List ByteArray
  | 0, _ => []
  | m + 1, l => (l.map (stk (ex m) (bd m))).flatten
def im (s : ByteArray) : List ByteArray := o :: ([⟨#[105, 109, 112, 111, 114, 116]⟩] ++ ([s] ++ [])) ++ [c]
def va (v : Va) : List ByteArray := o :: ([⟨#[118, 97, 114]⟩] ++ ([v.name] ++ ([v.level] ++ []))) ++ [c]
def fu (m : Nat) (f : Fu) : List ByteArray := o :: ([⟨#[102, 117, 110]⟩] ++ ([f.name] ++ ((o :: f.params ++ [c]) ++ (bd m f.body ++ (ex m f.result ++ []))))) ++ [c]
def mo (m : Nat) (x : Mo) : List ByteArray := o :: ([⟨#[109, 111, 100, 117, 108, 101]⟩] ++ ([x.name] ++ ((x.imports.map im).flatten ++ ((x.vars.map va).flatten ++ (x.funs.map (fu m)).flatten)))) ++ [c]
end Tk

namespace Lat
def dl (L : List ByteArray) : List (List UInt8) := L.map (·.data.toList)
/-- The text t has the words L. -/
def Lx (t : ByteArray) (L : List ByteArray) : Prop := (∀ acc, ∃ o, t.data.toList.foldl wstep (acc, false) = (acc ++ dl L, o)) ∧ ∀ b ∈ t.data.toList, okN b.toNat = true
/-- The texts l, each behind a blank, have the words L. -/
def LxT (l L : List ByteArray) : Prop := (∀ acc o, ∃ o', (Lib.joinTail [32] (dl l)).foldl wstep (acc, o) = (acc ++ dl L, o')) ∧ ∀ b ∈ Lib.joinTail [32] (dl l), okN b.toNat = true
theorem dl_app (a b : List ByteArray) : dl (a ++ b) = dl a ++ dl b := by unfold dl; rw [List.map_append]
theorem LxT.nil : LxT [] [] := ⟨fun acc o => ⟨o, by simp [dl, Lib.joinTail]⟩, fun b hb => by simp [dl, Lib.joinTail] at hb⟩
theorem step_blk (acc : List (List UInt8)) (o : Bool) : wstep (acc, o) 32 = (acc, false) := by unfold wstep; rw [if_pos (by decide)]
theorem LxT.cons {t : ByteArray} {l L1 L2 : List ByteArray} (h1 : Lx t L1) (h2 : LxT l L2) : LxT (t :: l) (L1 ++ L2) := by
  have e : Lib.joinTail [32] (dl (t :: l)) = 32 :: (t.data.toList ++ Lib.joinTail [32] (dl l)) := by simp [dl, Lib.joinTail]
  refine ⟨fun acc o => ?_, fun b hb => ?_⟩
  · obtain ⟨o1, e1⟩ := h1.1 acc
    obtain ⟨o2, e2⟩ := h2.1 (acc ++ dl L1) o1
    refine ⟨o2, ?_⟩
    rw [e, List.foldl_cons, step_blk, List.foldl_append, e1, e2, dl_app, List.append_assoc]
  · rw [e] at hb
    rcases List.mem_cons.1 hb with rfl | hb
    · decide
    · rcases List.mem_append.1 hb with hb | hb
      · exact h1.2 b hb
      · exact h2.2 b hb
theorem LxT.map {α : Type} {t : α → ByteArray} {f : α → List ByteArray} : ∀ {l : List α} {r R : List ByteArray}, (∀ y ∈ l, Lx (t y) (f y)) → LxT r R → LxT (l.map t ++ r) ((l.map f).flatten ++ R)
  | [], r, R, _, h2 => by simpa using h2
  | y :: l, r, R, h, h2 => by
    have := LxT.cons (h y (by simp)) (LxT.map (l := l) (fun z hz => h z (by simp [hz])) h2)
    simpa using this
theorem Lx.brk {l L : List ByteArray} (h : LxT l L) : Lx (Lat.brk l) (Tk.o :: L ++ [Tk.c]) := by
  have e1 : ∀ acc : List (List UInt8), wstep (acc, false) 40 = (acc ++ [[40]], false) := fun acc => by unfold wstep; rw [if_neg (by decide), if_pos (by decide)]
  have e2 : ∀ (acc : List (List UInt8)) (o : Bool), wstep (acc, o) 41 = (acc ++ [[41]], false) := fun acc o => by unfold wstep; rw [if_neg (by decide), if_pos (by decide)]
  have e3 : ∀ acc, ∃ o', (Lib.join (l.map (·.data.toList)) [32]).foldl wstep (acc, false) = (acc ++ dl L, o') := fun acc => by
    cases l with
    | nil =>
      obtain ⟨o', e⟩ := h.1 acc false
      refine ⟨o', ?_⟩
      rw [← e]; simp [dl, Lib.joinTail, Lib.join_nil]
    | cons x r =>
      obtain ⟨o', e⟩ := h.1 acc false
      refine ⟨o', ?_⟩
      rw [← e]
      have e5 : Lib.joinTail [32] (dl (x :: r)) = 32 :: (x.data.toList ++ Lib.joinTail [32] (dl r)) := by simp [dl, Lib.joinTail]
      rw [e5, List.foldl_cons, step_blk, List.map_cons, Lib.join_cons]
      rfl
  constructor
  · intro acc
    obtain ⟨o', e⟩ := e3 (acc ++ [[40]])
    refine ⟨false, ?_⟩
    rw [brk_list, List.foldl_cons, e1, List.foldl_append, e, List.foldl_cons, List.foldl_nil, e2]
    have e6 : dl (Tk.o :: L ++ [Tk.c]) = [40] :: (dl L ++ [[41]]) := by simp [dl]
    rw [e6]
    simp
  · intro b hb
    rw [brk_list] at hb
    rcases List.mem_cons.1 hb with rfl | hb
    · decide
    · rcases List.mem_append.1 hb with hb | hb
      · cases l with
        | nil => simp [Lib.join_nil] at hb
        | cons x r =>
          refine h.2 b ?_
          have e5 : Lib.joinTail [32] (dl (x :: r)) = 32 :: (x.data.toList ++ Lib.joinTail [32] (dl r)) := by simp [dl, Lib.joinTail]
          rw [e5]
          rw [List.map_cons, Lib.join_cons] at hb
          exact List.mem_cons_of_mem _ hb
      · rw [List.mem_singleton] at hb; subst hb; decide
theorem Lx.word {w : ByteArray} (h : wordW w.data.toList) : Lx w [w] := ⟨fun acc => by
    obtain ⟨o, e⟩ := fold_word w.data.toList acc h
    exact ⟨o, by rw [e]; rfl⟩, word_ok h⟩
theorem long_of {l : List UInt8} (h0 : l ≠ []) (h : ∀ b ∈ l, longN b.toNat = true) : longW l := ⟨h0, fun b hb => by
  have h1 := h b hb
  refine ⟨?_, ?_, h1⟩
  · unfold longN at h1
    unfold blankN
    simp only [Bool.or_eq_true, Bool.and_eq_true, decide_eq_true_eq, beq_iff_eq] at h1
    simp only [Bool.or_eq_false_iff, beq_eq_false_iff_ne]
    omega
  · unfold longN at h1
    unfold brackN
    simp only [Bool.or_eq_true, Bool.and_eq_true, decide_eq_true_eq, beq_iff_eq] at h1
    simp only [Bool.or_eq_false_iff, beq_eq_false_iff_ne]
    omega⟩
theorem letter_long {b : UInt8} (h : letterB b = true) : longN b.toNat = true := by
  unfold letterB at h
  unfold longN
  rw [h]; rfl
theorem name_long {l : List UInt8} (h : nameB l = true) : longW l := by
  unfold nameB at h
  simp only [Bool.and_eq_true, decide_eq_true_eq] at h
  exact long_of (fun e => by rw [e] at h; simp at h) (fun b hb => letter_long (List.all_eq_true.1 h.2 b hb))
theorem Lx.name {w : ByteArray} (h : strB w = true) : Lx w [w] := Lx.word (Or.inr (name_long h))
theorem op_cases {s : ByteArray} (h : opB s = true) : s = ⟨#[43]⟩ ∨ s = ⟨#[45]⟩ ∨ s = ⟨#[42]⟩ ∨ s = ⟨#[60]⟩ ∨ s = ⟨#[61]⟩ := by
  unfold opB at h
  have h1 := of_decide_eq_true h
  unfold indexI at h1
  cases hf : (List.range opS.length).find? (isAt opS s) with
  | none => rw [hf] at h1; simp at h1
  | some k =>
    obtain ⟨h2, h3⟩ := find_spec hf
    unfold isAt at h3
    have h4 := beq_iff_eq.1 h3
    rw [ByteArray.toList_eq, ByteArray.toList_eq] at h4
    have h5 : k < 5 := h2
    have h6 := bytes_ext h4
    obtain rfl | rfl | rfl | rfl | rfl : k = 0 ∨ k = 1 ∨ k = 2 ∨ k = 3 ∨ k = 4 := by omega
    · exact Or.inl h6
    · exact Or.inr (Or.inl h6)
    · exact Or.inr (Or.inr (Or.inl h6))
    · exact Or.inr (Or.inr (Or.inr (Or.inl h6)))
    · exact Or.inr (Or.inr (Or.inr (Or.inr h6)))
theorem op_long {s : ByteArray} (h : opB s = true) : longW s.data.toList := by
  rcases op_cases h with rfl | rfl | rfl | rfl | rfl <;> exact long_of (by simp) (by decide)
theorem dec_long (u : Nat) : ∀ b ∈ Lib.decDigits u, 48 ≤ b.toNat ∧ b.toNat ≤ 57 := by
  induction u using Nat.strongRecOn with
  | ind u ih =>
    intro b hb
    have key : ∀ v, v < 10 → 48 ≤ (UInt8.ofNat (48 + v)).toNat ∧ (UInt8.ofNat (48 + v)).toNat ≤ 57 := fun v hv => by
      rw [UInt8.toNat_ofNat']
      omega
    by_cases h : u < 10
    · rw [Lib.decDigits_one h, List.mem_singleton] at hb
      rw [hb]; exact key u h
    · rw [Lib.decDigits, dif_neg h] at hb
      rcases List.mem_append.1 hb with hb | hb
      · exact ih (u / 10) (by omega) b hb
      · rw [List.mem_singleton] at hb
        rw [hb]; exact key (u % 10) (by omega)
theorem dec_ne (u : Nat) : Lib.decDigits u ≠ [] := by
  intro e
  have := Lib.decDigits_length u
  have h2 := Lib.nDigits_pos u
  rw [e] at this
  simp at this
  omega
theorem num_long {n : Int} (h : 0 ≤ n) : longW (⟨(Lib.itoa n).toArray⟩ : ByteArray).data.toList := by
  obtain ⟨u, rfl⟩ := Int.eq_ofNat_of_zero_le h
  have e : (⟨(Lib.itoa (u : Int)).toArray⟩ : ByteArray).data.toList = Lib.decDigits u := by
    show (Lib.itoa (u : Int)).toArray.toList = _
    rw [Lib.itoa_nonneg]
  rw [e]
  exact long_of (dec_ne u) (fun b hb => by
    have := dec_long u b hb
    unfold longN
    simp only [Bool.or_eq_true, Bool.and_eq_true, decide_eq_true_eq, beq_iff_eq]
    omega)
theorem call_long {s : ByteArray} (h : callB s = true) : longW s.data.toList := by
  unfold callB at h
  rw [Bool.and_eq_true] at h
  obtain ⟨h1, h2⟩ := h
  unfold preS sufS at *
  cases hd : dotAt s with
  | none =>
    rw [hd] at h1
    exact name_long h1
  | some i =>
    rw [hd] at h1 h2
    simp only [Option.isSome_some, Bool.not_true, Bool.false_or] at h1 h2
    obtain ⟨hi, hdot⟩ := find_spec hd
    have hi' : i < s.data.toList.length := hi
    have hsplit : s.data.toList = (s.extract 0 i).data.toList ++ 46 :: (s.extract (i + 1) s.size).data.toList := by
      have e1 : (s.extract 0 i).data.toList = s.data.toList.take i := by rw [ByteArray.data_extract]; simp
      have e2 : (s.extract (i + 1) s.size).data.toList = s.data.toList.drop (i + 1) := by
        rw [ByteArray.data_extract]
        simp only [Array.toList_extract]
        rw [List.extract_eq_take_drop]
        exact List.take_of_length_le (by rw [List.length_drop, size_list]; omega)
      have e3 : s.data.toList[i] = 46 := by
        have := beq_iff_eq.1 hdot
        rw [List.getD, List.getElem?_eq_getElem hi'] at this
        exact this
      rw [e1, e2, ← e3, ← List.drop_eq_getElem_cons hi', List.take_append_drop]
    rw [hsplit]
    refine long_of (by simp) (fun b hb => ?_)
    rcases List.mem_append.1 hb with hb | hb
    · exact ((name_long h1).2 b hb).2.2
    · rcases List.mem_cons.1 hb with rfl | hb
      · decide
      · exact ((name_long h2).2 b hb).2.2

theorem exT_lx : ∀ (m : Nat) (x : Ex), exprB m x = true → Lx (exT m x) (Tk.ex m x)
  | 0, x, h => by cases h
  | m + 1, x, h => by
    simp only [exprB] at h
    simp only [exT, Tk.ex]
    by_cases k1 : x.kind = 1
    · rw [if_pos k1] at h
      simp only [Bool.and_eq_true, decide_eq_true_eq] at h
      rw [if_pos k1, if_pos k1]
      exact Lx.word (Or.inr (num_long h.1.1.1))
    · rw [if_neg k1] at h
      rw [if_neg k1, if_neg k1]
      by_cases k2 : x.kind = 2
      · rw [if_pos k2] at h
        simp only [Bool.and_eq_true] at h
        rw [if_pos k2, if_pos k2]
        exact Lx.word (Or.inr (name_long h.1.2))
      · rw [if_neg k2] at h
        rw [if_neg k2, if_neg k2]
        by_cases k3 : x.kind = 3
        · rw [if_pos k3] at h
          simp only [Bool.and_eq_true] at h
          rw [← op_text x (exT m) (by omega), if_neg (by omega)]
          have hm := LxT.map (l := x.args) (t := exT m) (f := Tk.ex m) (fun y hy => exT_lx m y (List.all_eq_true.1 h.2 y hy)) LxT.nil
          rw [List.append_nil, List.append_nil] at hm
          exact Lx.brk (LxT.cons (Lx.word (Or.inr (op_long h.1.1.2))) hm)
        · rw [if_neg k3] at h
          by_cases k4 : x.kind = 4
          · rw [if_pos k4] at h
            simp only [Bool.and_eq_true] at h
            rw [← call_text x (exT m) k4, if_pos k4]
            have hm := LxT.map (l := x.args) (t := exT m) (f := Tk.ex m) (fun y hy => exT_lx m y (List.all_eq_true.1 h.2 y hy)) LxT.nil
            rw [List.append_nil, List.append_nil] at hm
            exact Lx.brk (LxT.cons (Lx.word (Or.inr (long_of (by simp) (by decide)))) (LxT.cons (Lx.word (Or.inr (call_long h.1.1.2))) hm))
          · rw [if_neg k4] at h; cases h
theorem LxT.txs {m : Nat} {l : List St} (h : ∀ s ∈ l, Lx (stX m s) (Tk.stk (Tk.ex m) (Tk.bd m) s)) : LxT (txs (m + 1) l) (Tk.bd (m + 1) l) := by
  have := LxT.map h LxT.nil
  rw [List.append_nil, List.append_nil] at this
  exact this
theorem txs_lx : ∀ (m : Nat) (l : List St), bodyB m l = true → LxT (txs m l) (Tk.bd m l)
  | 0, l, h => by cases h
  | m + 1, l, h => by
    rw [bodyB_succ] at h
    refine LxT.txs (fun s hs => ?_)
    have h1 := List.all_eq_true.1 h s hs
    unfold stB at h1
    simp only [Bool.and_eq_true] at h1
    obtain ⟨⟨⟨hh, he⟩, ha⟩, hb⟩ := h1
    have we := exT_lx m s.e he
    have wa := txs_lx m s.a ha
    have wb := txs_lx m s.b hb
    unfold stH at hh
    unfold Tk.stk
    by_cases k1 : s.kind = 1
    · rw [if_pos (Or.inl k1)] at hh
      simp only [Bool.and_eq_true] at hh
      rw [if_pos k1, ← set_text m s k1]
      exact Lx.brk (LxT.cons (Lx.word (Or.inr (long_of (by simp) (by decide)))) (LxT.cons (Lx.name hh.1.1) (LxT.cons we LxT.nil)))
    · by_cases k4 : s.kind = 4
      · rw [if_pos (Or.inr k4)] at hh
        simp only [Bool.and_eq_true] at hh
        rw [if_neg k1, if_pos k4, ← print_text m s k4]
        exact Lx.brk (LxT.cons (Lx.word (Or.inr (long_of (by simp) (by decide)))) (LxT.cons (Lx.name hh.1.1) (LxT.cons we LxT.nil)))
      · rw [if_neg (by omega)] at hh
        by_cases k2 : s.kind = 2
        · rw [if_neg k1, if_neg k4, if_neg (by omega), ← if_text m s k2]
          exact Lx.brk (LxT.cons (Lx.word (Or.inr (long_of (by simp) (by decide)))) (LxT.cons we (LxT.cons (Lx.brk wa) (LxT.cons (Lx.brk wb) LxT.nil))))
        · rw [if_neg k2] at hh
          by_cases k3 : s.kind = 3
          · rw [if_neg k1, if_neg k4, if_pos k3, ← while_text m s k3]
            exact Lx.brk (LxT.cons (Lx.word (Or.inr (long_of (by simp) (by decide)))) (LxT.cons we (LxT.cons (Lx.brk wa) LxT.nil)))
          · rw [if_neg k3] at hh; cases hh
theorem LxT.app {a b A B : List ByteArray} (h1 : LxT a A) (h2 : LxT b B) : LxT (a ++ b) (A ++ B) := by
  have e : Lib.joinTail [32] (dl (a ++ b)) = Lib.joinTail [32] (dl a) ++ Lib.joinTail [32] (dl b) := by rw [dl_app, joinTail_app]
  refine ⟨fun acc o => ?_, fun x hx => ?_⟩
  · obtain ⟨o1, e1⟩ := h1.1 acc o
    obtain ⟨o2, e2⟩ := h2.1 (acc ++ dl A) o1
    exact ⟨o2, by rw [e, List.foldl_append, e1, e2, dl_app, List.append_assoc]⟩
  · rw [e] at hx
    rcases List.mem_append.1 hx with hx | hx
    · exact h1.2 x hx
    · exact h2.2 x hx
theorem fuX_lx {m : Nat} {f : Fu} (h : fuOk m f = true) : Lx (fuX m f) (Tk.fu m f) := by
  unfold fuOk at h
  simp only [Bool.and_eq_true] at h
  obtain ⟨⟨⟨hn, hb⟩, hx⟩, hp⟩ := h
  have hfl : [[(⟨#[102, 117, 110]⟩ : ByteArray), f.name, brk f.params], txs m f.body, [exT m f.result]].flatten = ⟨#[102, 117, 110]⟩ :: f.name :: brk f.params :: (txs m f.body ++ [exT m f.result]) := by simp
  unfold fuX Tk.fu
  rw [hfl]
  have hps : LxT f.params f.params := by
    have := LxT.map (l := f.params) (t := id) (f := fun s => [s]) (fun y hy => Lx.name (List.all_eq_true.1 hp y hy)) LxT.nil
    have e : ∀ l : List ByteArray, (l.map fun s => [s]).flatten = l := fun l => by induction l <;> simp_all
    rw [e] at this
    simpa using this
  exact Lx.brk (LxT.cons (Lx.word (Or.inr (long_of (by simp) (by decide)))) (LxT.cons (Lx.name hn) (LxT.cons (Lx.brk hps) (LxT.app (txs_lx m f.body hb) (LxT.cons (exT_lx m f.result hx) LxT.nil)))))
theorem moT_lx {m : Nat} {x : Mo} (hm : x.funs ≠ [] → m ≠ 0) (hn : strB x.name = true) (hi : x.imports.all strB = true) (hv : x.vars.all vaB = true) (hf : ∀ f ∈ x.funs, fuOk m f = true) : Lx (moT m x) (Tk.mo m x) := by
  rw [← moX_eq hm]
  have hfl : [[(⟨#[109, 111, 100, 117, 108, 101]⟩ : ByteArray), x.name], x.imports.map impX, x.vars.map vaX, x.funs.map (fuX m)].flatten = ⟨#[109, 111, 100, 117, 108, 101]⟩ :: x.name :: (x.imports.map impX ++ (x.vars.map vaX ++ x.funs.map (fuX m))) := by simp
  unfold moX Tk.mo
  rw [hfl]
  have hF := LxT.map (l := x.funs) (t := fuX m) (f := Tk.fu m) (fun y hy => fuX_lx (hf y hy)) LxT.nil
  rw [List.append_nil, List.append_nil] at hF
  have hV := LxT.map (l := x.vars) (t := vaX) (f := Tk.va) (fun y hy => by
    have hy' := List.all_eq_true.1 hv y hy
    unfold vaB at hy'
    simp only [Bool.and_eq_true] at hy'
    exact Lx.brk (LxT.cons (Lx.word (Or.inr (long_of (by simp) (by decide)))) (LxT.cons (Lx.name hy'.1) (LxT.cons (Lx.name hy'.2) LxT.nil)))) hF
  have hI := LxT.map (l := x.imports) (t := impX) (f := Tk.im) (fun y hy => Lx.brk (LxT.cons (Lx.word (Or.inr (long_of (by simp) (by decide)))) (LxT.cons (Lx.name (List.all_eq_true.1 hi y hy)) LxT.nil))) hV
  exact Lx.brk (LxT.cons (Lx.word (Or.inr (long_of (by simp) (by decide)))) (LxT.cons (Lx.name hn) hI))
/-- A text that has the words L, and isn't too long, is told as L. -/
theorem Lx.words {t : ByteArray} {L : List ByteArray} (h : Lx t L) (h4 : ¬ 4096 < t.size) : we t = 0 ∧ wds t = L := by
  have hb : badAt t = none := bad_none.2 h.2
  refine ⟨by unfold we; rw [if_neg h4, hb]; rfl, bytes_inj ?_⟩
  rw [wds_fold h4 hb]
  obtain ⟨o, e⟩ := h.1 []
  unfold wfold
  rw [e]; rfl
end Lat

end Go.Proofs.YthcckfofpocbhabGreatDoor
