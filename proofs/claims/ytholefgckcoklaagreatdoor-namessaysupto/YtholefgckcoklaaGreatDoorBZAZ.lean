/- What a call means, by the document and by the program: plain mathematics. -/
import Derived.Test.YtholefgckcoklaaGreatDoorBZAI
import Derived.Test.YtholefgckcoklaaGreatDoorBZAX
import Derived.Test.YtholefgckcoklaaGreatDoorBZAW
import Derived.Test.YtholefgckcoklaaGreatDoorBZAV
import Derived.Test.YtholefgckcoklaaGreatDoorBZAH
import Derived.Deep.OwnRows
import Derived.Laws.OwnMore
import Derived.OwnWalk
import Derived.Lib.AppendZerosOnto
import Derived.Lib.SliceRun
import Derived.Lib.Join
namespace Go.Proofs.YtholefgckcoklaaGreatDoor
open Go.RowKit
namespace Nm
theorem index_same {l : List ByteArray} {s : ByteArray} {i : Nat} (h : Lat.indexI l s = (i : Int)) : l.getD i ByteArray.empty = s := by
  unfold Lat.indexI at h
  cases hf : (List.range l.length).find? (Lat.isAt l s) with
  | none => rw [hf] at h; simp at h
  | some j =>
    rw [hf] at h
    have hji : j = i := by simp at h; omega
    subst hji
    have := List.find?_some hf
    unfold Lat.isAt at this
    rw [beq_iff_eq] at this
    exact (toList_inj this).symm
theorem tgt_ptgt (x : Mo) (k : Nat) (call : ByteArray) (known : List Mo) : (tgt x k call known).2.2 = (ptgt x k call known).2.2 ∧ ((tgt x k call known).2.2 = true → tgt x k call known = ptgt x k call known) := by
  cases hd : Lat.dotAt call with
  | none =>
    have e : ptgt x k call known = fnd (-1) x.funs call k := by simp [ptgt, hd]
    rw [e]
    unfold fnd
    cases hf : fnAt x.funs call k with
    | none => rw [tgt_here0 hd hf]; exact ⟨rfl, fun h => by simp at h⟩
    | some i => rw [tgt_here hd hf]; exact ⟨rfl, fun _ => rfl⟩
  | some d =>
    rcases idx_cases x.imports (Lat.preS call) with hi | ⟨i, hi, _⟩
    · have e : ptgt x k call known = (0, 0, false) := by simp [ptgt, hd, hi]
      rw [e, tgt_notI hd (by rw [hi]; rfl)]
      exact ⟨rfl, fun h => by simp at h⟩
    · have hs := index_same hi
      have hi0 : decide (0 ≤ Lat.indexI x.imports (Lat.preS call)) = true := by rw [hi]; simp
      cases hm : moAt known (Lat.preS call) with
      | none =>
        rw [ptgt_noM hd hi (by rw [hs]; exact hm), tgt_noM hd hi0 hm]
        exact ⟨rfl, fun h => by simp at h⟩
      | some a =>
        obtain ⟨y, hy, _⟩ := moAt_lt hm
        rw [ptgt_fn hd hi (by rw [hs]; exact hm) hy]
        unfold fnd
        cases hf : fnAt y.funs (Lat.sufS call) y.funs.length with
        | none => rw [tgt_nofn hd hi0 hm hy hf]; exact ⟨rfl, fun h => by simp at h⟩
        | some j => rw [tgt_fn hd hi0 hm hy hf]; exact ⟨rfl, fun _ => rfl⟩
end Nm
end Go.Proofs.YtholefgckcoklaaGreatDoor
namespace Go.Proofs.YtholefgckcoklaaGreatDoor
open Go.RowKit
def allTo {α : Type} (b : Bool) (p : α → Bool) (l : List α) (k : Nat) : Bool := b && (l.take k).all p
theorem allTo_zero {α : Type} (b : Bool) (p : α → Bool) (l : List α) : allTo b p l 0 = b := by simp [allTo]
theorem allTo_succ {α : Type} {b : Bool} {p : α → Bool} {l : List α} {k : Nat} {y : α} (h : l[k]? = some y) : allTo b p l (k + 1) = (allTo b p l k && p y) := by
  obtain ⟨hj, rfl⟩ := List.getElem?_eq_some_iff.1 h
  unfold allTo
  rw [List.take_succ_eq_append_getElem hj, List.all_append]
  simp [Bool.and_assoc]
theorem allTo_all {α : Type} {b : Bool} {p : α → Bool} {l : List α} {n k : Nat} (h : n = l.length) (e : k = n) : allTo b p l k = (b && l.all p) := by
  unfold allTo; rw [List.take_of_length_le (by omega)]
namespace Lat
def strB (s : ByteArray) : Bool := nameB s.data.toList
def vaB (v : Va) : Bool := strB v.name && strB v.level
def fuOk (m : Nat) (f : Fu) : Bool := strB f.name && bodyB m f.body && exprB m f.result && f.params.all strB
def fuE (m : Nat) (f : Fu) : Int := if 4 < f.params.length then 2 else if fuOk m f then 0 else 5
def fusE (m : Nat) : List Fu → Int
  | [] => 0
  | f :: l => if fuE m f = 0 then fusE m l else fuE m f
def step (b : UInt8) : Int := if b = 40 then 1 else if b = 41 then -1 else 0
def openTo (t : ByteArray) : Nat → Int
  | 0 => 0
  | j + 1 => openTo t j + step (t.data.getD j 0)
def deepB (t : ByteArray) : Bool := (List.range t.size).any fun j => decide (20 < openTo t (j + 1))
def moE (m : Nat) (x : Mo) : Int :=
  if 8 < x.imports.length ∨ 8 < x.vars.length ∨ 8 < x.funs.length then 2
  else if ((strB x.name && x.imports.all strB) && x.vars.all vaB) = false then 5
  else if fusE m x.funs ≠ 0 then fusE m x.funs
  else if deepB (moT m x) then 2 else 0
end Lat
theorem fusE_at {m : Nat} : ∀ {l : List Fu} {k : Nat} {y : Fu}, (∀ (d : Nat) (z : Fu), d < k → l[d]? = some z → Lat.fuE m z = 0) → l[k]? = some y → Lat.fuE m y ≠ 0 → Lat.fusE m l = Lat.fuE m y
  | [], k, y, _, h, _ => by simp at h
  | f :: l, 0, y, _, h, h0 => by
    simp only [List.getElem?_cons_zero, Option.some.injEq] at h
    subst h
    simp only [Lat.fusE]; rw [if_neg h0]
  | f :: l, k + 1, y, ha, h, h0 => by
    have := ha 0 f (by omega) rfl
    simp only [Lat.fusE]; rw [if_pos this]
    exact fusE_at (k := k) (fun d z hd hz => ha (d + 1) z (by omega) (by simpa using hz)) (by simpa using h) h0
theorem fusE_zero {m : Nat} : ∀ {l : List Fu}, (∀ (d : Nat) (z : Fu), l[d]? = some z → Lat.fuE m z = 0) → Lat.fusE m l = 0
  | [], _ => rfl
  | f :: l, ha => by
    simp only [Lat.fusE]; rw [if_pos (ha 0 f rfl)]
    exact fusE_zero (fun d z hz => ha (d + 1) z (by simpa using hz))
theorem openTo_le (t : ByteArray) : ∀ j : Nat, -(j : Int) ≤ Lat.openTo t j ∧ Lat.openTo t j ≤ j
  | 0 => ⟨Int.le_refl _, Int.le_refl _⟩
  | j + 1 => by
    have := openTo_le t j
    simp only [Lat.openTo, Lat.step]
    split
    · omega
    · split <;> omega
theorem openTo_succ (t : ByteArray) (j : Nat) (h : j < t.size) : Lat.openTo t (j + 1) = Lat.openTo t j + Lat.step t[j] := by
  have e : t.data.getD j 0 = t[j] := by
    have : j < t.data.size := h
    unfold Array.getD; rw [dif_pos this]; rfl
  simp only [Lat.openTo, e]
theorem deepB_at {t : ByteArray} {j : Nat} (hj : j < t.size) (h : 20 < Lat.openTo t (j + 1)) : Lat.deepB t = true :=
  List.any_eq_true.2 ⟨j, List.mem_range.2 hj, decide_eq_true h⟩
theorem deepB_not {t : ByteArray} (h : ∀ j, j < t.size → ¬ 20 < Lat.openTo t (j + 1)) : Lat.deepB t = false := by
  unfold Lat.deepB; rw [List.any_eq_false]; intro j hj; simpa using h j (List.mem_range.1 hj)
theorem moT_size {w : World} {m : Nat} {v : Value} {x : Mo} (h : MoAt w m v x) (hw : moW m x ≤ 1048576) : (Lat.moT m x).size ≤ 12582920 := by
  obtain ⟨vi, vv, vf, rfl, hnm, hI, hV, hF⟩ := h
  have hwm : x.name.size + 2 + strsW x.imports + vasW x.vars + fusW m x.funs ≤ 1048576 := hw
  have h1 := foldg_all (f := Lat.impT) (wt := fun s : ByteArray => s.size + 1) (l := x.imports) (fun i y _ acc => impT_size acc y) (Lat.moH x) x.imports.length (Nat.le_refl _)
  rw [moH_size, List.take_length] at h1
  have h2 := foldg_all (f := Lat.vaT) (wt := fun s : Va => s.name.size + s.level.size + 3) (l := x.vars) (fun i y _ acc => vaT_size acc y) (Lat.moI x) x.vars.length (Nat.le_refl _)
  rw [List.take_length] at h2
  obtain ⟨a, b, off, cap, _, _, _, h9⟩ := hF
  have h3 := foldg_all (f := Lat.fuT m) (wt := fuW m) (l := x.funs) (fun i y hy acc => by
      obtain ⟨_, vp, vb, e0, e1, e2, e3, _, _, _, _, _, _, _, _, hsb, hx⟩ := h9 i y hy
      exact fuT_size hsb hx acc) (Lat.moV x) x.funs.length (Nat.le_refl _)
  rw [List.take_length] at h3
  have e1 : x.imports.foldl Lat.impT (Lat.moH x) = Lat.moI x := rfl
  have e2 : x.vars.foldl Lat.vaT (Lat.moI x) = Lat.moV x := rfl
  have e3 : x.funs.foldl (Lat.fuT m) (Lat.moV x) = Lat.moF m x := rfl
  rw [e1] at h1; rw [e2] at h2; rw [e3] at h3
  unfold Lat.moT
  rw [ByteArray.size_append]
  show _ + 1 ≤ _
  rw [fusW_eq] at hwm
  unfold strsW vasW at hwm
  omega
end Go.Proofs.YtholefgckcoklaaGreatDoor
namespace Go.Proofs.YtholefgckcoklaaGreatDoor
open Go.RowKit
namespace Lat
def jn (l : List ByteArray) : ByteArray := ⟨(Lib.join (l.map (·.data.toList)) [32]).toArray⟩
def brk (l : List ByteArray) : ByteArray := (⟨#[40]⟩ : ByteArray) ++ jn l ++ (⟨#[41]⟩ : ByteArray)
end Lat
end Go.Proofs.YtholefgckcoklaaGreatDoor
namespace Go.Proofs.YtholefgckcoklaaGreatDoor
open Go.RowKit
theorem bytes_ext {a b : ByteArray} (h : a.data.toList = b.data.toList) : a = b := by
  cases a with | mk a => cases b with | mk b => congr 1; exact Array.toList_inj.1 h
theorem app_list (a b : ByteArray) : (a ++ b).data.toList = a.data.toList ++ b.data.toList := by
  rw [ByteArray.data_append, Array.toList_append]
theorem brk_list (l : List ByteArray) : (Lat.brk l).data.toList = 40 :: (Lib.join (l.map (·.data.toList)) [32] ++ [41]) := by
  unfold Lat.brk Lat.jn
  rw [app_list, app_list]; rfl
theorem fold_list {t : Ex → ByteArray} (l : List Ex) (acc : ByteArray) : (l.foldl (Lat.exStep t) acc).data.toList = acc.data.toList ++ Lib.joinTail [32] ((l.map t).map (·.data.toList)) := by
  induction l generalizing acc with
  | nil => simp [Lib.joinTail]
  | cons y l ih =>
    rw [List.foldl_cons, ih]
    unfold Lat.exStep
    rw [app_list, app_list]
    simp [Lib.joinTail]
theorem op_text (x : Ex) (t : Ex → ByteArray) (h : x.kind ≠ 4) : Lat.brk (x.name :: x.args.map t) = x.args.foldl (Lat.exStep t) (Lat.exHead x) ++ (⟨#[41]⟩ : ByteArray) := by
  apply bytes_ext
  rw [brk_list, app_list, fold_list, List.map_cons, Lib.join_cons]
  unfold Lat.exHead
  rw [if_neg h, app_list]
  simp
theorem call_text (x : Ex) (t : Ex → ByteArray) (h : x.kind = 4) : Lat.brk (⟨#[99, 97, 108, 108]⟩ :: x.name :: x.args.map t) = x.args.foldl (Lat.exStep t) (Lat.exHead x) ++ (⟨#[41]⟩ : ByteArray) := by
  apply bytes_ext
  rw [brk_list, app_list, fold_list, List.map_cons, Lib.join_cons]
  unfold Lat.exHead
  rw [if_pos h, app_list]
  simp [Lib.joinTail]
theorem map_take {α β : Type} {f : α → β} {l : List α} {j : Nat} {y : α} (h : l[j]? = some y) : (l.take (j + 1)).map f = (l.take j).map f ++ [f y] := by
  obtain ⟨hj, rfl⟩ := List.getElem?_eq_some_iff.1 h
  rw [List.take_succ_eq_append_getElem hj, List.map_append]; rfl
end Go.Proofs.YtholefgckcoklaaGreatDoor
namespace Go.Proofs.YtholefgckcoklaaGreatDoor
open Go.RowKit
namespace Lat
def stX (m : Nat) (s : St) : ByteArray := stT (exT m) (bdT m) s ⟨#[]⟩
def txs : Nat → List St → List ByteArray
  | 0, _ => []
  | m + 1, l => l.map (stX m)
end Lat
theorem stT_acc (et : Ex → ByteArray) (bt : List St → ByteArray) (s : St) (acc : ByteArray) : Lat.stT et bt s acc = acc ++ Lat.stT et bt s ⟨#[]⟩ := by
  have e : ∀ x : ByteArray, (⟨#[]⟩ : ByteArray) ++ x = x := fun x => by apply bytes_ext; rw [app_list]; rfl
  have e2 : ∀ x : ByteArray, x ++ (⟨#[]⟩ : ByteArray) = x := fun x => by apply bytes_ext; rw [app_list]; simp
  unfold Lat.stT
  simp only [e]
  split
  · rfl
  · split
    · rfl
    · split
      · rfl
      · split
        · rfl
        · rw [e2]
theorem joinTail_app (sep : List UInt8) (a b : List (List UInt8)) : Lib.joinTail sep (a ++ b) = Lib.joinTail sep a ++ Lib.joinTail sep b := by
  simp [Lib.joinTail]
theorem jn_list (l : List ByteArray) : (Lat.jn l).data.toList = Lib.join (l.map (·.data.toList)) [32] := by unfold Lat.jn; rfl
theorem jn_snoc (l : List ByteArray) (x : ByteArray) : Lat.jn (l ++ [x]) = (if 0 < l.length then Lat.jn l ++ (⟨#[32]⟩ : ByteArray) else Lat.jn l) ++ x := by
  cases l with
  | nil =>
    apply bytes_ext
    rw [if_neg (by simp), app_list, jn_list, jn_list]
    simp [Lib.join_one, Lib.join_nil]
  | cons y l =>
    apply bytes_ext
    rw [if_pos (by simp), app_list, app_list, jn_list, jn_list, List.cons_append, List.map_cons, List.map_cons, Lib.join_cons, Lib.join_cons, List.map_append, joinTail_app]
    simp [Lib.joinTail]
theorem bdTo_jn (m : Nat) (l : List St) : ∀ j, j ≤ l.length → Lat.bdTo (Lat.exT m) (Lat.bdT m) l j = Lat.jn ((l.take j).map (Lat.stX m))
  | 0, _ => by
    apply bytes_ext
    rw [jn_list]; simp [Lat.bdTo, Lib.join_nil]
  | j + 1, hj => by
    obtain ⟨s, hs⟩ : ∃ s, l[j]? = some s := ⟨_, List.getElem?_eq_getElem (by omega)⟩
    rw [bdTo_succ hs, stT_acc, map_take hs, jn_snoc, bdTo_jn m l j (by omega)]
    have e : ((l.take j).map (Lat.stX m)).length = j := by rw [List.length_map, List.length_take]; omega
    rw [e]; rfl
theorem bdT_jn (m : Nat) (l : List St) : Lat.bdT m l = Lat.jn (Lat.txs m l) := by
  cases m with
  | zero => apply bytes_ext; rw [jn_list]; simp [Lat.bdT, Lat.txs, Lib.join_nil]
  | succ m =>
    simp only [Lat.bdT, Lat.txs]
    rw [bdTo_jn m l l.length (Nat.le_refl _), List.take_length]
section
variable (m : Nat) (s : St)
theorem set_text (h : s.kind = 1) : Lat.brk [⟨#[115, 101, 116]⟩, s.name, Lat.exT m s.e] = Lat.stX m s := by
  apply bytes_ext
  rw [brk_list]
  unfold Lat.stX Lat.stT
  rw [if_pos h]
  simp [Lib.join_cons, Lib.joinTail]
theorem print_text (h : s.kind = 4) : Lat.brk [⟨#[112, 114, 105, 110, 116]⟩, s.name, Lat.exT m s.e] = Lat.stX m s := by
  apply bytes_ext
  rw [brk_list]
  unfold Lat.stX Lat.stT
  rw [if_neg (by omega), if_pos h]
  simp [Lib.join_cons, Lib.joinTail]
theorem while_text (h : s.kind = 3) : Lat.brk [⟨#[119, 104, 105, 108, 101]⟩, Lat.exT m s.e, Lat.brk (Lat.txs m s.a)] = Lat.stX m s := by
  apply bytes_ext
  rw [brk_list]
  unfold Lat.stX Lat.stT
  rw [if_neg (by omega), if_neg (by omega), if_pos h, bdT_jn]
  simp [Lib.join_cons, Lib.joinTail, brk_list, jn_list]
theorem if_text (h : s.kind = 2) : Lat.brk [⟨#[105, 102]⟩, Lat.exT m s.e, Lat.brk (Lat.txs m s.a), Lat.brk (Lat.txs m s.b)] = Lat.stX m s := by
  apply bytes_ext
  rw [brk_list]
  unfold Lat.stX Lat.stT
  rw [if_neg (by omega), if_neg (by omega), if_neg (by omega), if_pos h, bdT_jn, bdT_jn]
  simp [Lib.join_cons, Lib.joinTail, brk_list, jn_list]
end
end Go.Proofs.YtholefgckcoklaaGreatDoor
