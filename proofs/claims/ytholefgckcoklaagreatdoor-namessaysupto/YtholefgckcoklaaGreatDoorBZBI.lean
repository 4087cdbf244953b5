/- Walks over package tree: funTexts. -/
import Derived.Test.YtholefgckcoklaaGreatDoorBZBG
import Derived.Deep.AppendLies
import Derived.Test.YtholefgckcoklaaGreatDoorBZBE
namespace Go.Proofs.YtholefgckcoklaaGreatDoor
open Go.RowKit
namespace Lat
def fuX (m : Nat) (f : Fu) : ByteArray := brk [[⟨#[102, 117, 110]⟩, f.name, brk f.params], txs m f.body, [exT m f.result]].flatten
end Lat
theorem par_jn (l : List ByteArray) (acc : ByteArray) : ∀ j, j ≤ l.length → Lat.parTo l acc j = acc ++ Lat.jn (l.take j)
  | 0, _ => by
    apply bytes_ext
    rw [app_list, jn_list]; simp [Lat.parTo, Lib.join_nil]
  | j + 1, hj => by
    obtain ⟨y, hy⟩ : ∃ y, l[j]? = some y := ⟨_, List.getElem?_eq_getElem (by omega)⟩
    have e1 : l.take (j + 1) = l.take j ++ [y] := by
      have := map_take (f := id) hy
      simpa using this
    have e2 : l.getD j ByteArray.empty = y := by rw [List.getD, hy]; rfl
    have e3 : (l.take j).length = j := by rw [List.length_take]; omega
    rw [parTo_succ, par_jn l acc j (by omega), e1, e2, jn_snoc, e3]
    apply bytes_ext
    by_cases h : 0 < j
    · rw [if_pos h, if_pos h]; simp only [app_list, List.append_assoc]
    · rw [if_neg h, if_neg h]; simp only [app_list, List.append_assoc]
theorem tail_jn {l : List ByteArray} (h : l ≠ []) : Lib.joinTail [32] (l.map (·.data.toList)) = 32 :: (Lat.jn l).data.toList := by
  cases l with
  | nil => exact absurd rfl h
  | cons y l =>
    rw [jn_list, List.map_cons, Lib.join_cons]
    simp [Lib.joinTail]
theorem tail_cons (x : List UInt8) (r : List (List UInt8)) : Lib.joinTail [32] (x :: r) = 32 :: (x ++ Lib.joinTail [32] r) := by simp [Lib.joinTail]
theorem txs_nil {m : Nat} (hm : m ≠ 0) (l : List St) : Lat.txs m l = [] ↔ l = [] := by
  cases m with
  | zero => exact absurd rfl hm
  | succ m => simp [Lat.txs]
theorem fuT_eq {m : Nat} (hm : m ≠ 0) (acc : ByteArray) (f : Fu) : (Lat.fuT m acc f).data.toList = acc.data.toList ++ 32 :: (Lat.fuX m f).data.toList := by
  unfold Lat.fuT Lat.fuB Lat.fuP Lat.fuH Lat.fuX
  rw [par_jn _ _ _ (Nat.le_refl _), List.take_length, brk_list]
  by_cases h : 0 < f.body.length
  · have hne : Lat.txs m f.body ≠ [] := by
      rw [ne_eq, txs_nil hm]; intro e; rw [e] at h; simp at h
    rw [if_pos h, bdT_jn]
    have hfl : [[(⟨#[102, 117, 110]⟩ : ByteArray), f.name, Lat.brk f.params], Lat.txs m f.body, [Lat.exT m f.result]].flatten = ⟨#[102, 117, 110]⟩ :: f.name :: Lat.brk f.params :: (Lat.txs m f.body ++ [Lat.exT m f.result]) := by simp
    rw [hfl, List.map_cons, Lib.join_cons, List.map_cons, tail_cons, List.map_cons, tail_cons, List.map_append, joinTail_app, tail_jn hne, List.map_cons, tail_cons, List.map_nil, brk_list, jn_list]
    simp [jn_list, Lib.joinTail]
  · have he : f.body = [] := List.length_eq_zero_iff.1 (by omega)
    have hne : Lat.txs m f.body = [] := (txs_nil hm _).2 he
    rw [if_neg h, hne]
    simp [Lib.join_cons, Lib.joinTail, brk_list, jn_list]
end Go.Proofs.YtholefgckcoklaaGreatDoor
namespace Go.Proofs.YtholefgckcoklaaGreatDoor
open Go.RowKit
namespace Lat
def moX (m : Nat) (x : Mo) : ByteArray := brk [[⟨#[109, 111, 100, 117, 108, 101]⟩, x.name], x.imports.map impX, x.vars.map vaX, x.funs.map (fuX m)].flatten
end Lat
theorem foldx {α : Type} {f : ByteArray → α → ByteArray} {g : α → ByteArray} : ∀ (l : List α) (acc : ByteArray), (∀ y ∈ l, ∀ acc, (f acc y).data.toList = acc.data.toList ++ 32 :: (g y).data.toList) →
    (l.foldl f acc).data.toList = acc.data.toList ++ Lib.joinTail [32] ((l.map g).map (·.data.toList))
  | [], acc, _ => by simp [Lib.joinTail]
  | y :: l, acc, h => by
    rw [List.foldl_cons, foldx l _ (fun z hz => h z (by simp [hz])), h y (by simp), List.map_cons, List.map_cons, tail_cons]
    simp
theorem impT_eq (acc s : ByteArray) : (Lat.impT acc s).data.toList = acc.data.toList ++ 32 :: (Lat.impX s).data.toList := by
  unfold Lat.impT Lat.impX
  rw [brk_list]
  simp [Lib.join_cons, Lib.joinTail]
theorem vaT_eq (acc : ByteArray) (v : Va) : (Lat.vaT acc v).data.toList = acc.data.toList ++ 32 :: (Lat.vaX v).data.toList := by
  unfold Lat.vaT Lat.vaX
  rw [brk_list]
  simp [Lib.join_cons, Lib.joinTail]
theorem moX_eq {m : Nat} {x : Mo} (hm : x.funs ≠ [] → m ≠ 0) : Lat.moX m x = Lat.moT m x := by
  apply bytes_ext
  unfold Lat.moX Lat.moT Lat.moF Lat.moV Lat.moI Lat.moH
  have hfl : [[(⟨#[109, 111, 100, 117, 108, 101]⟩ : ByteArray), x.name], x.imports.map Lat.impX, x.vars.map Lat.vaX, x.funs.map (Lat.fuX m)].flatten = ⟨#[109, 111, 100, 117, 108, 101]⟩ :: x.name :: (x.imports.map Lat.impX ++ (x.vars.map Lat.vaX ++ x.funs.map (Lat.fuX m))) := by simp
  rw [hfl, brk_list, app_list, foldx (g := Lat.fuX m) x.funs _ (fun y hy acc => fuT_eq (hm (List.ne_nil_of_mem hy)) acc y), foldx (g := Lat.vaX) x.vars _ (fun y _ acc => vaT_eq acc y), foldx (g := Lat.impX) x.imports _ (fun y _ acc => impT_eq acc y),
    List.map_cons, Lib.join_cons, List.map_cons, tail_cons, List.map_append, joinTail_app, List.map_append, joinTail_app, app_list]
  simp
end Go.Proofs.YtholefgckcoklaaGreatDoor
