/- What the document answers of a module, as plain data. -/
import Derived.Test.YtholefgckcoklaaGreatDoorBZBB
namespace Go.Proofs.YtholefgckcoklaaGreatDoor
open Go.RowKit
def allTo {α : Type} (b : Bool) (p : α → Bool) (l : List α) (k : Nat) : Bool := b && (l.take k).all p
theorem allTo_zero {α : Type} (b : Bool) (p : α → Bool) (l : List α) : allTo b p l 0 = b := by simp [allTo]
theorem allTo_succ {α : Type} {b : Bool} {p : α → Bool} {l : List α} {k : Nat} {y : α} (h : l[k]? = some y) : allTo b p l (k + 1) = (allTo b p l k && p y) := by
  obtain ⟨hj, rfl⟩ := List.getElem?_eq_some_iff.1 h
  unfold allTo
  rw [List.take_succ_eq_append_getElem hj, List.all_append]
  simp [Bool.and_assoc]
theorem allTo_all {α : Type} {b : Bool} {p : α → Bool} {l : List α} {n k : Nat} (h : n = l.length) (e : k = n) : allTo b p l k = (b && l.all p) := by
  unfold allTo; rw [List.take_of_length_le (by omega)]
namespace Lat
def strB (s : ByteArray) : Bool := nameB s.data.toList
def vaB (v : Va) : Bool := strB v.name && strB v.level
def fuOk (m : Nat) (f : Fu) : Bool := strB f.name && bodyB m f.body && exprB m f.result && f.params.all strB
def fuE (m : Nat) (f : Fu) : Int := if 4 < f.params.length then 2 else if fuOk m f then 0 else 5
def fusE (m : Nat) : List Fu → Int
  | [] => 0
  | f :: l => if fuE m f = 0 then fusE m l else fuE m f
def step (b : UInt8) : Int := if b = 40 then 1 else if b = 41 then -1 else 0
def openTo (t : ByteArray) : Nat → Int
  | 0 => 0
  | j + 1 => openTo t j + step (t.data.getD j 0)
def deepB (t : ByteArray) : Bool := (List.range t.size).any fun j => decide (20 < openTo t (j + 1))
def moE (m : Nat) (x : Mo) : Int :=
  if 8 < x.imports.length ∨ 8 < x.vars.length ∨ 8 < x.funs.length then 2
  else if ((strB x.name && x.imports.all strB) && x.vars.all vaB) = false then 5
  else if fusE m x.funs ≠ 0 then fusE m x.funs
  else if deepB (moT m x) then 2 else 0
end Lat
theorem fusE_at {m : Nat} : ∀ {l : List Fu} {k : Nat} {y : Fu}, (∀ (d : Nat) (z : Fu), d < k → l[d]? = some z → Lat.fuE m z = 0) → l[k]? = some y → Lat.fuE m y ≠ 0 → Lat.fusE m l = Lat.fuE m y
  | [], k, y, _, h, _ => by simp at h
  | f :: l, 0, y, _, h, h0 => by
    simp only [List.getElem?_cons_zero, Option.some.injEq] at h
    subst h
    simp only [Lat.fusE]; rw [if_neg h0]
  | f :: l, k + 1, y, ha, h, h0 => by
    have := ha 0 f (by omega) rfl
    simp only [Lat.fusE]; rw [if_pos this]
    exact fusE_at (k := k) (fun d z hd hz => ha (d + 1) z (by omega) (by simpa using hz)) (by simpa using h) h0
theorem fusE_zero {m : Nat} : ∀ {l : List Fu}, (∀ (d : Nat) (z : Fu), l[d]? = some z → Lat.fuE m z = 0) → Lat.fusE m l = 0
  | [], _ => rfl
  | f :: l, ha => by
    simp only [Lat.fusE]; rw [if_pos (ha 0 f rfl)]
    exact fusE_zero (fun d z hz => ha (d + 1) z (by simpa using hz))
theorem openTo_le (t : ByteArray) : ∀ j : Nat, -(j : Int) ≤ Lat.openTo t j ∧ Lat.openTo t j ≤ j
  | 0 => ⟨Int.le_refl _, Int.le_refl _⟩
  | j + 1 => by
    have := openTo_le t j
    simp only [Lat.openTo, Lat.step]
    split
    · omega
    · split <;> omega
theorem openTo_succ (t : ByteArray) (j : Nat) (h : j < t.size) : Lat.openTo t (j + 1) = Lat.openTo t j + Lat.step t[j] := by
  have e : t.data.getD j 0 = t[j] := by
    have : j < t.data.size := h
    unfold Array.getD; rw [dif_pos this]; rfl
  simp only [Lat.openTo, e]
theorem deepB_at {t : ByteArray} {j : Nat} (hj : j < t.size) (h : 20 < Lat.openTo t (j + 1)) : Lat.deepB t = true :=
  List.any_eq_true.2 ⟨j, List.mem_range.2 hj, decide_eq_true h⟩
theorem deepB_not {t : ByteArray} (h : ∀ j, j < t.size → ¬ 20 < Lat.openTo t (j + 1)) : Lat.deepB t = false := by
  unfold Lat.deepB; rw [List.any_eq_false]; intro j hj; simpa using h j (List.mem_range.1 hj)
theorem moT_size {w : World} {m : Nat} {v : Value} {x : Mo} (h : MoAt w m v x) (hw : moW m x ≤ 1048576) : (Lat.moT m x).size ≤ 12582920 := by
  obtain ⟨vi, vv, vf, rfl, hnm, hI, hV, hF⟩ := h
  have hwm : x.name.size + 2 + strsW x.imports + vasW x.vars + fusW m x.funs ≤ 1048576 := hw
  have h1 := foldg_all (f := Lat.impT) (wt := fun s : ByteArray => s.size + 1) (l := x.imports) (fun i y _ acc => impT_size acc y) (Lat.moH x) x.imports.length (Nat.le_refl _)
  rw [moH_size, List.take_length] at h1
  have h2 := foldg_all (f := Lat.vaT) (wt := fun s : Va => s.name.size + s.level.size + 3) (l := x.vars) (fun i y _ acc => vaT_size acc y) (Lat.moI x) x.vars.length (Nat.le_refl _)
  rw [List.take_length] at h2
  obtain ⟨a, b, off, cap, _, _, _, h9⟩ := hF
  have h3 := foldg_all (f := Lat.fuT m) (wt := fuW m) (l := x.funs) (fun i y hy acc => by
      obtain ⟨_, vp, vb, e0, e1, e2, e3, _, _, _, _, _, _, _, _, hsb, hx⟩ := h9 i y hy
      exact fuT_size hsb hx acc) (Lat.moV x) x.funs.length (Nat.le_refl _)
  rw [List.take_length] at h3
  have e1 : x.imports.foldl Lat.impT (Lat.moH x) = Lat.moI x := rfl
  have e2 : x.vars.foldl Lat.vaT (Lat.moI x) = Lat.moV x := rfl
  have e3 : x.funs.foldl (Lat.fuT m) (Lat.moV x) = Lat.moF m x := rfl
  rw [e1] at h1; rw [e2] at h2; rw [e3] at h3
  unfold Lat.moT
  rw [ByteArray.size_append]
  show _ + 1 ≤ _
  rw [fusW_eq] at hwm
  unfold strsW vasW at hwm
  omega
end Go.Proofs.YtholefgckcoklaaGreatDoor
