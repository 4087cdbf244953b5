/- Walks over package tree: exprTexts, exprText: of expressions that may be, the text that the document asks. -/
import Derived.Test.YtholefgckcoklaaGreatDoorZAM
import Derived.Test.YtholefgckcoklaaGreatDoorZAU
import Derived.Test.YtholefgckcoklaaGreatDoorZAH
import Derived.Deep.RegionHeld
import Derived.OrdersHeld
namespace Go.Proofs.YtholefgckcoklaaGreatDoor
open Go.RowKit
theorem bytes_ext {a b : ByteArray} (h : a.data.toList = b.data.toList) : a = b := by
  cases a with | mk a => cases b with | mk b => congr 1; exact Array.toList_inj.1 h
theorem app_list (a b : ByteArray) : (a ++ b).data.toList = a.data.toList ++ b.data.toList := by
  rw [ByteArray.data_append, Array.toList_append]
theorem brk_list (l : List ByteArray) : (Lat.brk l).data.toList = 40 :: (Lib.join (l.map (·.data.toList)) [32] ++ [41]) := by
  unfold Lat.brk Lat.jn
  rw [app_list, app_list]; rfl
theorem fold_list {t : Ex → ByteArray} (l : List Ex) (acc : ByteArray) : (l.foldl (Lat.exStep t) acc).data.toList = acc.data.toList ++ Lib.joinTail [32] ((l.map t).map (·.data.toList)) := by
  induction l generalizing acc with
  | nil => simp [Lib.joinTail]
  | cons y l ih =>
    rw [List.foldl_cons, ih]
    unfold Lat.exStep
    rw [app_list, app_list]
    simp [Lib.joinTail]
theorem op_text (x : Ex) (t : Ex → ByteArray) (h : x.kind ≠ 4) : Lat.brk (x.name :: x.args.map t) = x.args.foldl (Lat.exStep t) (Lat.exHead x) ++ (⟨#[41]⟩ : ByteArray) := by
  apply bytes_ext
  rw [brk_list, app_list, fold_list, List.map_cons, Lib.join_cons]
  unfold Lat.exHead
  rw [if_neg h, app_list]
  simp
theorem call_text (x : Ex) (t : Ex → ByteArray) (h : x.kind = 4) : Lat.brk (⟨#[99, 97, 108, 108]⟩ :: x.name :: x.args.map t) = x.args.foldl (Lat.exStep t) (Lat.exHead x) ++ (⟨#[41]⟩ : ByteArray) := by
  apply bytes_ext
  rw [brk_list, app_list, fold_list, List.map_cons, Lib.join_cons]
  unfold Lat.exHead
  rw [if_pos h, app_list]
  simp [Lib.joinTail]
theorem map_take {α β : Type} {f : α → β} {l : List α} {j : Nat} {y : α} (h : l[j]? = some y) : (l.take (j + 1)).map f = (l.take j).map f ++ [f y] := by
  obtain ⟨hj, rfl⟩ := List.getElem?_eq_some_iff.1 h
  rw [List.take_succ_eq_append_getElem hj, List.map_append]; rfl
end Go.Proofs.YtholefgckcoklaaGreatDoor
namespace Go.Proofs.YtholefgckcoklaaGreatDoor
open Go.RowKit
namespace Rn
def up (d : Nat) (s : Sta) : Sta := { s with fuel := s.fuel + d }
structure Mono (d : Nat) (F : Fns) : Prop where
  ev : ∀ a k o x s, (F.ev a k o x s).2.1 ≠ 6 → F.ev a k o x (up d s) = ((F.ev a k o x s).1, (F.ev a k o x s).2.1, up d (F.ev a k o x s).2.2)
  dO : ∀ a k o c s, (F.dO a k o c s).1 ≠ 6 → F.dO a k o c (up d s) = ((F.dO a k o c s).1, (F.dO a k o c s).2.1, up d (F.dO a k o c s).2.2)
  lp : ∀ a k o c s, (F.lp a k o c s).1 ≠ 6 → F.lp a k o c (up d s) = ((F.lp a k o c s).1, (F.lp a k o c s).2.1, up d (F.lp a k o c s).2.2)
end Rn
end Go.Proofs.YtholefgckcoklaaGreatDoor
namespace Go.Proofs.YtholefgckcoklaaGreatDoor
open Go.RowKit
section
variable {P : Program} {ops : Array Oper} {Q : Exit → Act → World → Prop} {md : Region.Mode} {S : World → Prop} {st : Nat}
def wpAnyG (P : Program) (md : Region.Mode) (ops : Array Oper) (Q : Exit → Act → World → Prop) (S : World → Prop) (st : Nat) : Nat → Array Bool → Act → World → Prop
  | 0, listed, a, w => Region.ready md ops listed = [] ∧ Q .normal a w
  | fuel + 1, listed, a, w =>
    (Region.ready md ops listed = [] → Q .normal a w) ∧
    ∀ i ∈ Region.ready md ops listed, wpOp P ops Q i (fun a' w' => ((listed.setIfInBounds i true).getD st true = false → S w') ∧ wpAnyG P md ops Q S st fuel (listed.setIfInBounds i true) a' w') a w
theorem wpAny_of_G : ∀ (fuel : Nat) (listed : Array Bool) (a : Act) (w : World), wpAnyG P md ops Q S st fuel listed a w → wpAny P md ops Q fuel listed a w
  | 0, _, _, _, h => h
  | fuel + 1, _, _, _, h => ⟨h.1, fun i hi => wpOp_mono (fun a' w' h' => wpAny_of_G fuel _ a' w' h'.2) (h.2 i hi)⟩
def waitsB (md : Region.Mode) (ops : Array Oper) (st i : Nat) : Bool := match ops[st]? with
  | some o => o.after.toList.any fun e => Region.binds md e && e.on == i
  | none => false
theorem waits_not {i : Nat} {listed : Array Bool} (hw : waitsB md ops st i = true) (hi : listed.getD i true = false) : st ∉ Region.ready md ops listed := by
  intro hr
  obtain ⟨_, o, ho, hall⟩ := mem_ready.1 hr
  unfold waitsB at hw
  rw [ho] at hw
  obtain ⟨e, he, hb⟩ := List.any_eq_true.1 hw
  simp only [Bool.and_eq_true, beq_iff_eq] at hb
  have h1 := hall e (by simpa using he) hb.1
  rw [hb.2, getD_both hi] at h1
  cases h1
theorem wpAnyG_first {i : Nat} {oi : Oper} {v : Value} (hi : ops[i]? = some oi) (hsel : ∀ (j : Nat) (o : Oper) cs b, ops[j]? = some o → o.op ≠ .select cs b)
    (hQ : ∀ c a w, Q (.panic c) (a.put oi.dst v) w → Q (.panic c) a w) (hwt : waitsB md ops st i = true) :
    ∀ (fuel : Nat) (listed : Array Bool) (a : Act) (w : World),
      (∀ j oj, ops[j]? = some oj → j ≠ i → listed.getD j true = false → (∀ e ∈ oj.after, Region.binds md e = true → e.on ≠ i) → oi.apart ops oj = true) →
      i ∈ Region.ready md ops listed → listed.getD st true = false → YieldsIf P ops S oi v a → S w →
      wpAnyG P md ops Q S st fuel (listed.setIfInBounds i true) (a.put oi.dst v) w → wpAnyG P md ops Q S st (fuel + 1) listed a w := by
  intro fuel
  induction fuel with
  | zero =>
    intro listed a w _ hr _ hy hS H
    refine ⟨fun h => (by rw [h] at hr; cases hr), fun j hj => ?_⟩
    by_cases hji : j = i
    · subst hji; exact hy.wpOp hi hS ⟨fun _ => hS, H⟩
    · have := ready_mono hj hji
      rw [H.1] at this
      cases this
  | succ fuel ih =>
    intro listed a w hfree hr hst hy hS H
    refine ⟨fun h => (by rw [h] at hr; cases hr), fun j hj => ?_⟩
    by_cases hji : j = i
    · subst hji; exact hy.wpOp hi hS ⟨fun _ => hS, H⟩
    · have h1 := H.2 j (ready_mono hj hji)
      obtain ⟨hjun, oj, hoj, hall⟩ := mem_ready.1 hj
      have h0 := (mem_ready.1 hr).1
      have hnot : ∀ e ∈ oj.after, Region.binds md e = true → e.on ≠ i := fun e he hb heq => by
        have h1 := hall e he hb
        rw [heq, getD_both h0] at h1
        cases h1
      have hjs : j ≠ st := fun e => waits_not hwt h0 (by rw [← e]; exact hj)
      have his : i ≠ st := fun e => waits_not hwt h0 (by rw [← e]; exact hr)
      have h2 := wpOp_putIf hoj (hfree j oj hoj hji hjun hnot) (fun cs b => hsel i oi cs b hi) (fun cs b => hsel j oj cs b hoj) hQ hy h1
      have hfree' : ∀ k ok, ops[k]? = some ok → k ≠ i → (listed.setIfInBounds j true).getD k true = false →
          (∀ e ∈ ok.after, Region.binds md e = true → e.on ≠ i) → oi.apart ops ok = true := fun k ok hk hki hun hno => by
        refine hfree k ok hk hki ?_ hno
        by_cases hjk : j = k
        · subst hjk; exact hjun
        · rw [getD_set_ne true hjk] at hun; exact hun
      refine wpOp_mono (fun a' w' h3 => ?_) h2
      have hS' : S w' := h3.2.1 (by rw [getD_set_ne true hjs, getD_set_ne true his]; exact hst)
      refine ⟨fun _ => hS', ih (listed.setIfInBounds j true) a' w' hfree' (ready_mono hr (Ne.symm hji)) (by rw [getD_set_ne true hjs]; exact hst) h3.1 hS' ?_⟩
      rw [Array.setIfInBounds_comm _ _ hji]
      exact h3.2.2
theorem wpAnyG_firstT {i : Nat} {oi : Oper} {v : Value} (hi : ops[i]? = some oi) (hsel : ∀ (j : Nat) (o : Oper) cs b, ops[j]? = some o → o.op ≠ .select cs b)
    (hQ : ∀ c a w, Q (.panic c) (a.put oi.dst v) w → Q (.panic c) a w) (his : i ≠ st) :
    ∀ (fuel : Nat) (listed : Array Bool) (a : Act) (w : World),
      (∀ j oj, ops[j]? = some oj → j ≠ i → listed.getD j true = false → (∀ e ∈ oj.after, Region.binds md e = true → e.on ≠ i) → oi.apart ops oj = true) →
      i ∈ Region.ready md ops listed → YieldsIf P ops (fun _ => True) oi v a → (listed.getD st true = false → S w) →
      wpAnyG P md ops Q S st fuel (listed.setIfInBounds i true) (a.put oi.dst v) w → wpAnyG P md ops Q S st (fuel + 1) listed a w := by
  intro fuel
  induction fuel with
  | zero =>
    intro listed a w _ hr hy hS H
    refine ⟨fun h => (by rw [h] at hr; cases hr), fun j hj => ?_⟩
    by_cases hji : j = i
    · subst hji; exact hy.wpOp hi trivial ⟨fun h => hS (by rw [getD_set_ne true his] at h; exact h), H⟩
    · have := ready_mono hj hji
      rw [H.1] at this
      cases this
  | succ fuel ih =>
    intro listed a w hfree hr hy hS H
    refine ⟨fun h => (by rw [h] at hr; cases hr), fun j hj => ?_⟩
    by_cases hji : j = i
    · subst hji; exact hy.wpOp hi trivial ⟨fun h => hS (by rw [getD_set_ne true his] at h; exact h), H⟩
    · have h1 := H.2 j (ready_mono hj hji)
      obtain ⟨hjun, oj, hoj, hall⟩ := mem_ready.1 hj
      have h0 := (mem_ready.1 hr).1
      have hnot : ∀ e ∈ oj.after, Region.binds md e = true → e.on ≠ i := fun e he hb heq => by
        have h1 := hall e he hb
        rw [heq, getD_both h0] at h1
        cases h1
      have h2 := wpOp_putIf hoj (hfree j oj hoj hji hjun hnot) (fun cs b => hsel i oi cs b hi) (fun cs b => hsel j oj cs b hoj) hQ hy h1
      have hfree' : ∀ k ok, ops[k]? = some ok → k ≠ i → (listed.setIfInBounds j true).getD k true = false →
          (∀ e ∈ ok.after, Region.binds md e = true → e.on ≠ i) → oi.apart ops ok = true := fun k ok hk hki hun hno => by
        refine hfree k ok hk hki ?_ hno
        by_cases hjk : j = k
        · subst hjk; exact hjun
        · rw [getD_set_ne true hjk] at hun; exact hun
      refine wpOp_mono (fun a' w' h3 => ?_) h2
      have hS' : (listed.setIfInBounds j true).getD st true = false → S w' := fun h => h3.2.1 (by rw [Array.setIfInBounds_comm _ _ (Ne.symm hji), getD_set_ne true his]; exact h)
      refine ⟨hS', ih (listed.setIfInBounds j true) a' w' hfree' (ready_mono hr (Ne.symm hji)) h3.1 hS' ?_⟩
      rw [Array.setIfInBounds_comm _ _ hji]
      exact h3.2.2
theorem wpAnyG_done {listed : Array Bool} {a : Act} {w : World} (hr : Region.ready md ops listed = []) (h : Q .normal a w) : ∀ fuel, wpAnyG P md ops Q S st fuel listed a w
  | 0 => ⟨hr, h⟩
  | _ + 1 => ⟨fun _ => h, by rw [hr]; simp⟩
theorem wpAnyG_one {i fuel : Nat} {listed : Array Bool} {a : Act} {w : World} {o : Oper} (hr : Region.ready md ops listed = [i]) (ho : ops[i]? = some o)
    (h : ∀ K' : Act → World → Prop, Hid (∀ a w, ((listed.setIfInBounds i true).getD st true = false → S w) → wpAnyG P md ops Q S st fuel (listed.setIfInBounds i true) a w → K' a w) → if Region.wanted o (yielded ops a.tmps) = true then Oper.wp P o a w K' Q else K' (a.put o.dst undef) w) :
    wpAnyG P md ops Q S st (fuel + 1) listed a w := by
  refine ⟨fun h0 => (by rw [hr] at h0; cases h0), fun j hj => ?_⟩
  rw [hr, List.mem_singleton] at hj
  subst hj
  exact wpOp_step ho (fun K' hK => h K' (hide (fun a w h1 h2 => hK a w ⟨h1, h2⟩)))
theorem wpAnyG_two {i k fuel : Nat} {listed : Array Bool} {a : Act} {w : World} {o o2 : Oper} (hr : Region.ready md ops listed = [i, k]) (ho : ops[i]? = some o) (ho2 : ops[k]? = some o2)
    (h : ∀ K' : Act → World → Prop, Hid (∀ a w, ((listed.setIfInBounds i true).getD st true = false → S w) → wpAnyG P md ops Q S st fuel (listed.setIfInBounds i true) a w → K' a w) → if Region.wanted o (yielded ops a.tmps) = true then Oper.wp P o a w K' Q else K' (a.put o.dst undef) w)
    (h2 : ∀ K' : Act → World → Prop, Hid (∀ a w, ((listed.setIfInBounds k true).getD st true = false → S w) → wpAnyG P md ops Q S st fuel (listed.setIfInBounds k true) a w → K' a w) → if Region.wanted o2 (yielded ops a.tmps) = true then Oper.wp P o2 a w K' Q else K' (a.put o2.dst undef) w) :
    wpAnyG P md ops Q S st (fuel + 1) listed a w := by
  refine ⟨fun h0 => (by rw [hr] at h0; cases h0), fun j hj => ?_⟩
  rw [hr] at hj
  rcases List.mem_cons.1 hj with rfl | hj
  · exact wpOp_step ho (fun K' hK => h K' (hide (fun a w h1 h2 => hK a w ⟨h1, h2⟩)))
  · rw [List.mem_singleton] at hj
    subst hj
    exact wpOp_step ho2 (fun K' hK => h2 K' (hide (fun a w h1 h2 => hK a w ⟨h1, h2⟩)))
def wpPlain (P : Program) (ops : Array Oper) (S : World → Prop) (L : Act → Prop) : List (Bool × Oper) → Act → Prop
  | [], a => L a
  | (true, o) :: rest, a => ∃ v, YieldsIf P ops S o v a ∧ wpPlain P ops S L rest (a.put o.dst v)
  | (false, o) :: rest, a => ∃ v, YieldsIf P ops (fun _ => True) o v a ∧ wpPlain P ops S L rest (a.put o.dst v)
theorem wpPlain_nil {L : Act → Prop} {a : Act} (h : L a) : wpPlain P ops S L [] a := h
theorem wpPlain_T {L : Act → Prop} {a : Act} {o : Oper} {rest : List (Bool × Oper)} {v : Value} (hw : Region.wanted o (yielded ops a.tmps) = true) (hy : ∀ w, (execOp a.eval o).run P w = .ok (.value v) w) (h : wpPlain P ops S L rest (a.put o.dst v)) : wpPlain P ops S L ((false, o) :: rest) a := ⟨v, Or.inl ⟨hw, fun w _ => hy w⟩, h⟩
theorem wpPlain_S {L : Act → Prop} {a : Act} {o : Oper} {rest : List (Bool × Oper)} {v : Value} (hw : Region.wanted o (yielded ops a.tmps) = true) (hy : ∀ w, S w → (execOp a.eval o).run P w = .ok (.value v) w) (h : wpPlain P ops S L rest (a.put o.dst v)) : wpPlain P ops S L ((true, o) :: rest) a := ⟨v, Or.inl ⟨hw, hy⟩, h⟩
def maskOps : List (Option Bool) → List Oper → List (Bool × Oper)
  | some b :: bs, o :: l => (b, o) :: maskOps bs l
  | none :: bs, _ :: l => maskOps bs l
  | _, _ => []
def maskCnt : List (Option Bool) → Nat
  | [] => 0
  | some _ :: bs => maskCnt bs + 1
  | none :: bs => maskCnt bs
def maskDone : List (Option Bool) → Nat → Array Bool → Array Bool
  | [], _, s => s
  | some _ :: bs, k, s => maskDone bs (k + 1) (s.setIfInBounds k true)
  | none :: bs, k, s => maskDone bs (k + 1) s
def maskB (md : Region.Mode) (ops : Array Oper) (st : Nat) : List (Option Bool) → Nat → Array Bool → Bool
  | [], _, _ => true
  | some b :: bs, k, s => Region.free md ops s k && (Region.ready md ops s).contains k && (!b || waitsB md ops st k) && (!(k == st)) && (!(s.getD st true)) && maskB md ops st bs (k + 1) (s.setIfInBounds k true)
  | none :: bs, k, s => maskB md ops st bs (k + 1) s
theorem mask_lex {f : Nat} {w : World} (hs : Region.noSelect ops = true) (hQ : ∀ c a d v w, Q (.panic c) (Act.put a d v) w → Q (.panic c) a w) (hS : S w) : ∀ (bs : List (Option Bool)) (l : List Oper) (k : Nat) (s : Array Bool) (a : Act), bs.length ≤ l.length → (∀ j, l[j]? = ops[k + j]?) → maskB md ops st bs k s = true →
    wpPlain P ops S (fun a' => wpAnyG P md ops Q S st f (maskDone bs k s) a' w) (maskOps bs l) a → wpAnyG P md ops Q S st (f + maskCnt bs) s a w
  | [], l, k, s, a, _, _, _, h => by
    have e : maskOps [] l = [] := by unfold maskOps; rfl
    rw [e] at h
    exact h
  | b :: bs, [], k, s, a, hl, _, _, _ => by simp at hl
  | none :: bs, o :: l, k, s, a, hl, hk, hB, h => by
    refine mask_lex hs hQ hS bs l (k + 1) s a (by simpa using hl) (fun j => ?_) hB h
    have := hk (j + 1)
    rw [List.getElem?_cons_succ] at this
    rw [this]
    congr 1
    omega
  | some b :: bs, o :: l, k, s, a, hl, hk, hB, h => by
    have h0 : ops[k]? = some o := by simpa using (hk 0).symm
    simp only [maskB, Bool.and_eq_true, Bool.not_eq_true', beq_eq_false_iff_ne] at hB
    obtain ⟨⟨⟨⟨⟨h1, h2⟩, h3⟩, h6⟩, h4⟩, h5⟩ := hB
    have hk' : ∀ j, l[j]? = ops[k + 1 + j]? := fun j => by
      have := hk (j + 1)
      rw [List.getElem?_cons_succ] at this
      rw [this]
      congr 1
      omega
    cases b with
    | true =>
      obtain ⟨v, hy, hr⟩ := h
      exact wpAnyG_first (v := v) h0 (Region.noSelect_spec hs) (fun c a w h => hQ c a _ _ w h) (by simpa using h3) (f + maskCnt bs) s a w (Region.free_spec h0 h1) (by simpa using h2) h4 hy hS (mask_lex hs hQ hS bs l (k + 1) _ _ (by simpa using hl) hk' h5 hr)
    | false =>
      obtain ⟨v, hy, hr⟩ := h
      exact wpAnyG_firstT (v := v) h0 (Region.noSelect_spec hs) (fun c a w h => hQ c a _ _ w h) h6 (f + maskCnt bs) s a w (Region.free_spec h0 h1) (by simpa using h2) hy (fun _ => hS) (mask_lex hs hQ hS bs l (k + 1) _ _ (by simpa using hl) hk' h5 hr)
theorem wp_region_mask {id : Nat} {a : Act} {w : World} {l : List Oper} (bs : List (Option Bool)) (st : Nat) (S : World → Prop) (f : Nat) (hm : P.follows .mixedOrders = true) (hB : (Region.noSelect l.toArray && maskB .any l.toArray st bs 0 (Array.replicate l.toArray.size false) && decide (bs.length = l.length) && decide (f + maskCnt bs = l.length)) = true)
    (hQ : ∀ c a d v w, Q (.panic c) (Act.put a d v) w → Q (.panic c) a w) (hS : S w.drew)
    (h : wpPlain P l.toArray S (fun a' => wpAnyG P .any l.toArray Q S st f (maskDone bs 0 (Array.replicate l.toArray.size false)) a' w.drew) (maskOps bs l) a) : (Code.region id l.toArray true).wp P Q a w := by
  simp only [Bool.and_eq_true, decide_eq_true_eq] at hB
  obtain ⟨⟨⟨h1, h2⟩, h3⟩, h4⟩ := hB
  have K := mask_lex (f := f) (w := w.drew) h1 hQ hS bs l 0 _ a (by omega) (fun j => by rw [Nat.zero_add]; simp) h2 h
  rw [h4] at K
  exact wp_region_any hm (wpAny_of_G _ _ _ _ (by simpa using K))
end
end Go.Proofs.YtholefgckcoklaaGreatDoor
