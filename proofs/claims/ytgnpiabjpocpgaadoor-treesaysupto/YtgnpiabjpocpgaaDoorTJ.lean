/- The text of a module, as plain data, and how long it is. -/
import Derived.Test.YtgnpiabjpocpgaaDoorTI
namespace Go.Proofs.YtgnpiabjpocpgaaDoor
open Go.RowKit

namespace Lat
def impT (acc s : ByteArray) : ByteArray := acc ++ ((⟨#[32, 40, 105, 109, 112, 111, 114, 116, 32]⟩ : ByteArray) ++ s ++ (⟨#[41]⟩ : ByteArray))
def vaT (acc : ByteArray) (v : Va) : ByteArray := acc ++ ((⟨#[32, 40, 118, 97, 114, 32]⟩ : ByteArray) ++ v.name ++ (⟨#[32]⟩ : ByteArray) ++ v.level ++ (⟨#[41]⟩ : ByteArray))
def parTo (l : List ByteArray) (acc : ByteArray) : Nat → ByteArray
  | 0 => acc
  | j + 1 => (if 0 < j then parTo l acc j ++ (⟨#[32]⟩ : ByteArray) else parTo l acc j) ++ l.getD j ByteArray.empty
def fuH (acc : ByteArray) (f : Fu) : ByteArray := acc ++ ((⟨#[32, 40, 102, 117, 110, 32]⟩ : ByteArray) ++ f.name ++ (⟨#[32, 40]⟩ : ByteArray))
def fuP (acc : ByteArray) (f : Fu) : ByteArray := parTo f.params (fuH acc f) f.params.length ++ (⟨#[41]⟩ : ByteArray)
def fuB (m : Nat) (acc : ByteArray) (f : Fu) : ByteArray := if 0 < f.body.length then fuP acc f ++ ((⟨#[32]⟩ : ByteArray) ++ bdT m f.body) else fuP acc f
def fuT (m : Nat) (acc : ByteArray) (f : Fu) : ByteArray := fuB m acc f ++ ((⟨#[32]⟩ : ByteArray) ++ exT m f.result ++ (⟨#[41]⟩ : ByteArray))
def moH (x : Mo) : ByteArray := (⟨#[40, 109, 111, 100, 117, 108, 101, 32]⟩ : ByteArray) ++ x.name
def moI (x : Mo) : ByteArray := x.imports.foldl impT (moH x)
def moV (x : Mo) : ByteArray := x.vars.foldl vaT (moI x)
def moF (m : Nat) (x : Mo) : ByteArray := x.funs.foldl (fuT m) (moV x)
/-- The text of a module. -/
def moT (m : Nat) (x : Mo) : ByteArray := moF m x ++ (⟨#[41]⟩ : ByteArray)
end Lat

section
variable {α : Type} {f : ByteArray → α → ByteArray} {wt : α → Nat}
theorem foldg_take {l : List α} {j : Nat} {y : α} (h : l[j]? = some y) (acc : ByteArray) : (l.take (j + 1)).foldl f acc = f ((l.take j).foldl f acc) y := by
  obtain ⟨hj, rfl⟩ := List.getElem?_eq_some_iff.1 h
  rw [List.take_succ_eq_append_getElem hj, List.foldl_append]; rfl
theorem sumg_take (l : List α) (j : Nat) : ((l.take j).map wt).sum ≤ (l.map wt).sum := by
  conv => rhs; rw [← List.take_append_drop j l]
  rw [List.map_append, List.sum_append]; omega
theorem foldg_size {l : List α} (h : ∀ (i : Nat) (y : α), l[i]? = some y → ∀ acc, (f acc y).size ≤ acc.size + 12 * wt y) (acc : ByteArray) :
    ∀ j, j ≤ l.length → ((l.take j).foldl f acc).size ≤ acc.size + 12 * ((l.take j).map wt).sum
  | 0, _ => by simp
  | j + 1, hj => by
    have ih := foldg_size h acc j (by omega)
    obtain ⟨y, hy⟩ : ∃ y, l[j]? = some y := ⟨_, List.getElem?_eq_getElem (by omega)⟩
    rw [foldg_take hy]
    have h1 := h j y hy ((l.take j).foldl f acc)
    have h2 : ((l.take (j + 1)).map wt).sum = ((l.take j).map wt).sum + wt y := by
      obtain ⟨hj', rfl⟩ := List.getElem?_eq_some_iff.1 hy
      rw [List.take_succ_eq_append_getElem hj', List.map_append, List.sum_append]; simp
    omega
theorem foldg_all {l : List α} (h : ∀ (i : Nat) (y : α), l[i]? = some y → ∀ acc, (f acc y).size ≤ acc.size + 12 * wt y) (acc : ByteArray) (j : Nat) (hj : j ≤ l.length) :
    ((l.take j).foldl f acc).size ≤ acc.size + 12 * (l.map wt).sum := by
  have h1 := foldg_size h acc j hj
  have h2 := sumg_take (wt := wt) l j
  omega
end

theorem impT_size (acc s : ByteArray) : (Lat.impT acc s).size ≤ acc.size + 12 * (s.size + 1) := by
  unfold Lat.impT
  simp only [ByteArray.size_append]
  show acc.size + (9 + s.size + 1) ≤ _
  omega
theorem vaT_size (acc : ByteArray) (s : Va) : (Lat.vaT acc s).size ≤ acc.size + 12 * (s.name.size + s.level.size + 3) := by
  unfold Lat.vaT
  simp only [ByteArray.size_append]
  show acc.size + (6 + s.name.size + 1 + s.level.size + 1) ≤ _
  omega
theorem getD_size (l : List ByteArray) (j : Nat) : (l.getD j ByteArray.empty).size ≤ (l.map fun s => s.size + 1).sum := by
  by_cases h : j < l.length
  · have e : l.getD j ByteArray.empty = l[j] := by simp [h]
    rw [e]
    have := mem_le_sum (f := fun s : ByteArray => s.size + 1) (List.getElem_mem h)
    omega
  · have e : l.getD j ByteArray.empty = ByteArray.empty := by simp [List.getD, List.getElem?_eq_none (Nat.le_of_not_lt h)]
    rw [e]; exact Nat.zero_le _
theorem parTo_size (l : List ByteArray) (acc : ByteArray) : ∀ j, j ≤ l.length → (Lat.parTo l acc j).size ≤ acc.size + ((l.take j).map fun s => s.size + 1).sum
  | 0, _ => by simp [Lat.parTo]
  | j + 1, hj => by
    have ih := parTo_size l acc j (by omega)
    have h2 : ((l.take (j + 1)).map fun s => s.size + 1).sum = ((l.take j).map fun s => s.size + 1).sum + ((l.getD j ByteArray.empty).size + 1) := by
      rw [List.take_succ_eq_append_getElem (by omega), List.map_append, List.sum_append]
      simp [show j < l.length by omega]
    have e1 : (⟨#[32]⟩ : ByteArray).size = 1 := rfl
    simp only [Lat.parTo]
    split <;> simp only [ByteArray.size_append, e1] <;> omega
theorem parTo_all (l : List ByteArray) (acc : ByteArray) (j : Nat) (hj : j ≤ l.length) : (Lat.parTo l acc j).size ≤ acc.size + (l.map fun s => s.size + 1).sum := by
  have h1 := parTo_size l acc j hj
  have h2 := sumg_take (wt := fun s : ByteArray => s.size + 1) l j
  omega
/-- What one function weighs. -/
def fuW (m : Nat) (s : Fu) : Nat := s.name.size + 2 + strsW s.params + stsW m s.body + exW m s.result
theorem fusW_eq (m : Nat) (l : List Fu) : fusW m l = (l.map (fuW m)).sum + 1 := rfl
theorem fuH_size (acc : ByteArray) (f : Fu) : (Lat.fuH acc f).size = acc.size + (f.name.size + 8) := by
  unfold Lat.fuH
  simp only [ByteArray.size_append]
  show acc.size + (6 + f.name.size + 2) = _
  omega
theorem fuP_size (acc : ByteArray) (f : Fu) : (Lat.fuP acc f).size ≤ acc.size + (f.name.size + 8 + strsW f.params) := by
  unfold Lat.fuP
  have h := parTo_all f.params (Lat.fuH acc f) f.params.length (Nat.le_refl _)
  rw [fuH_size] at h
  rw [ByteArray.size_append]
  show _ + 1 ≤ _
  unfold strsW
  omega
theorem fuT_size {w : World} {m : Nat} {f : Fu} {vb e0 e1 e2 e3 : Value} (hb : StsAt w m vb f.body) (hx : ExAt w m e0 e1 e2 e3 f.result) (acc : ByteArray) : (Lat.fuT m acc f).size ≤ acc.size + 12 * fuW m f := by
  have h1 := fuP_size acc f
  have h2 := bdT_size hb
  have h3 := exT_size hx
  have e1 : (⟨#[32]⟩ : ByteArray).size = 1 := rfl
  have e2 : (⟨#[41]⟩ : ByteArray).size = 1 := rfl
  unfold Lat.fuT Lat.fuB fuW
  split <;> simp only [ByteArray.size_append, e1, e2] <;> omega
theorem moH_size (x : Mo) : (Lat.moH x).size = 8 + x.name.size := by
  unfold Lat.moH; rw [ByteArray.size_append]; rfl

theorem boxM0 (w : World) (c0 c1 c2 c3 : Value) (t : TypeId) : (w.alloc (.cells #[c0, c1, c2, c3] t)).cell? ⟨w.heap.size, 0, none⟩ = some c0 := by simp [go_sem]
theorem boxM1 (w : World) (c0 c1 c2 c3 : Value) (t : TypeId) : (w.alloc (.cells #[c0, c1, c2, c3] t)).cell? ⟨w.heap.size, 1, none⟩ = some c1 := by simp [go_sem]
theorem boxM2 (w : World) (c0 c1 c2 c3 : Value) (t : TypeId) : (w.alloc (.cells #[c0, c1, c2, c3] t)).cell? ⟨w.heap.size, 2, none⟩ = some c2 := by simp [go_sem]
theorem boxM3 (w : World) (c0 c1 c2 c3 : Value) (t : TypeId) : (w.alloc (.cells #[c0, c1, c2, c3] t)).cell? ⟨w.heap.size, 3, none⟩ = some c3 := by simp [go_sem]

end Go.Proofs.YtgnpiabjpocpgaaDoor
