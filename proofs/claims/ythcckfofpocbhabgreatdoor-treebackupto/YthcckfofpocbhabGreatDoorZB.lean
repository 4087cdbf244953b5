/- Walks over package downref: exprText: the text of an expression. -/
import Derived.Test.YthcckfofpocbhabGreatDoorZA
import Derived.Test.YthcckfofpocbhabGreatDoorShelf
import Derived.Lib.SmallJoins
import Derived.Lib.AppendIntMem
import Derived.Lib.ItoaLen
import Derived.Deep.RegionHeld3
import Derived.Test.YthcckfofpocbhabGreatDoorChecked
import Derived.Deep.OwnRows
import Derived.Laws.OwnMore
import Derived.OwnWalk
import Derived.Deep.AppendLies
import Derived.Lib.IndexLaws
namespace Go.Proofs.YthcckfofpocbhabGreatDoor
open Go.RowKit

/-- The library's table of powers of ten lies as its initialiser lays it. -/
def Tab (w : World) : Prop := Lib.TabIs Tryz.prog w "internal/strconv.uint64pow10" .u64 Lib.pow10Tab

theorem tabNamed : (Tryz.prog.globalNamed "internal/strconv.uint64pow10").isSome = true := by kernel_rfl
theorem Tab.below {w w' : World} (h : Tab w) (hb : Below w.heap.size w w') : Tab w' := by
  obtain ⟨g, hg⟩ := Option.isSome_iff_exists.1 tabNamed
  exact Joins.tab_stays hg h hb (Nat.le_refl _)

theorem itoa_any (w : World) (n : Int) (hn : I64 n) (ht : Tab w) :
    Calls Tryz.prog 67 #[.int .i64 n] w fun e w' => e = .returned (.string ⟨(Lib.itoa n).toArray⟩) ∧ Below w.heap.size w w' := by
  refine (Tryz.strconv_Itoa n hn.1 hn.2 w ht).mono ?_
  rintro e w' ⟨rfl, k, os, rfl⟩
  exact ⟨rfl, Lib.below_grow _ _ (Nat.le_refl _) _ _⟩

namespace Lat
/-- One argument more, behind what there is. -/
def exStep (t : Ex → ByteArray) (acc : ByteArray) (y : Ex) : ByteArray := acc ++ ((⟨#[32]⟩ : ByteArray) ++ t y)
def exHead (x : Ex) : ByteArray := (if x.kind = 4 then (⟨#[40, 99, 97, 108, 108, 32]⟩ : ByteArray) else ⟨#[40]⟩) ++ x.name
/-- The text of an expression. -/
def exT : Nat → Ex → ByteArray
  | 0, _ => ⟨#[]⟩
  | m + 1, x => if x.kind = 1 then ⟨(Lib.itoa x.n).toArray⟩ else if x.kind = 2 then x.name else x.args.foldl (exStep (exT m)) (exHead x) ++ (⟨#[41]⟩ : ByteArray)
end Lat

theorem foldl_size {t : Ex → ByteArray} : ∀ (l : List Ex) (acc : ByteArray), (l.foldl (Lat.exStep t) acc).size = acc.size + (l.map fun y => (t y).size + 1).sum
  | [], acc => by simp
  | y :: l, acc => by
    rw [List.foldl_cons, foldl_size l]
    have e : (Lat.exStep t acc y).size = acc.size + (1 + (t y).size) := by
      unfold Lat.exStep; rw [ByteArray.size_append, ByteArray.size_append]; rfl
    rw [e, List.map_cons, List.sum_cons]; omega

theorem sum_mono {f g : Ex → Nat} : ∀ {l : List Ex}, (∀ (i : Nat) (x : Ex), l[i]? = some x → f x ≤ g x) → (l.map f).sum ≤ (l.map g).sum
  | [], _ => Nat.le_refl _
  | x :: l, h => by
    have h0 := h 0 x rfl
    have h1 := sum_mono (l := l) (fun i y hy => h (i + 1) y (by simpa using hy))
    simp only [List.map_cons, List.sum_cons]; omega
theorem sum_mul (k : Nat) (f : Ex → Nat) : ∀ l : List Ex, (l.map fun x => k * f x).sum = k * (l.map f).sum
  | [] => rfl
  | x :: l => by simp only [List.map_cons, List.sum_cons, sum_mul k f l, Nat.mul_add]

/-- A text is at most six times as long as what it tells of weighs. -/
theorem exT_size {w : World} : ∀ {m : Nat} {c0 c1 c2 c3 : Value} {x : Ex}, ExAt w m c0 c1 c2 c3 x → (Lat.exT m x).size + 1 ≤ 6 * exW m x
  | 0, _, _, _, _, _, h => False.elim h
  | m + 1, c0, c1, c2, c3, x, h => by
    obtain ⟨_, _, _, _, _, hn, a, b, off, cap, _, _, _, h9⟩ := h
    have hs : (x.args.map fun y => (Lat.exT m y).size + 1).sum ≤ 6 * (x.args.map (exW m)).sum := by
      rw [← sum_mul]
      exact sum_mono (fun i y hy => by
        obtain ⟨e0, e1, e2, e3, _, _, _, _, hx⟩ := h9 i y hy
        exact exT_size hx)
    have hh : (Lat.exHead x).size ≤ x.name.size + 6 := by
      unfold Lat.exHead
      rw [ByteArray.size_append]
      split
      · show 6 + _ ≤ _; omega
      · show 1 + _ ≤ _; omega
    simp only [Lat.exT, exW]
    split
    · have := Lib.itoa_length_le x.n hn.1 hn.2
      show (Lib.itoa x.n).toArray.size + 1 ≤ _
      rw [List.size_toArray]; omega
    · split
      · omega
      · rw [ByteArray.size_append, foldl_size]
        show _ + 1 + 1 ≤ _
        omega

theorem ret_str {a b : ByteArray} (h : a = b) : Ending.returned (.string a) = .returned (.string b) := by rw [h]

end Go.Proofs.YthcckfofpocbhabGreatDoor

/- Walks over package downref: exprText answers the text of an expression. -/
namespace Go.Proofs.YthcckfofpocbhabGreatDoor
open Go.RowKit

theorem val_str {a b : ByteArray} (h : a = b) : Value.string a = .string b := by rw [h]
theorem mem_le_sum {α : Type} {f : α → Nat} {y : α} : ∀ {l : List α}, y ∈ l → f y ≤ (l.map f).sum
  | x :: l, h => by
    simp only [List.map_cons, List.sum_cons]
    rcases List.mem_cons.1 h with rfl | h
    · omega
    · have := mem_le_sum (f := f) h; omega

theorem fold_take {t : Ex → ByteArray} {l : List Ex} {j : Nat} {y : Ex} (h : l[j]? = some y) (acc : ByteArray) : (l.take (j + 1)).foldl (Lat.exStep t) acc = Lat.exStep t ((l.take j).foldl (Lat.exStep t) acc) y := by
  obtain ⟨hj, rfl⟩ := List.getElem?_eq_some_iff.1 h
  rw [List.take_succ_eq_append_getElem hj, List.foldl_append]; rfl

theorem fold_take_size {t : Ex → ByteArray} (l : List Ex) (j : Nat) (acc : ByteArray) : ((l.take j).foldl (Lat.exStep t) acc).size ≤ (l.foldl (Lat.exStep t) acc).size := by
  rw [foldl_size, foldl_size]
  have : ((l.take j).map fun y => (t y).size + 1).sum ≤ (l.map fun y => (t y).size + 1).sum := by
    conv => rhs; rw [← List.take_append_drop j l]
    rw [List.map_append, List.sum_append]; omega
  omega

end Go.Proofs.YthcckfofpocbhabGreatDoor

/- Walks over package downref: bodyText answers the text of commands. -/
namespace Go.Proofs.YthcckfofpocbhabGreatDoor
open Go.RowKit

namespace Lat
/-- A command's text, behind what there is. -/
def stT (et : Ex → ByteArray) (bt : List St → ByteArray) (s : St) (acc : ByteArray) : ByteArray :=
  if s.kind = 1 then acc ++ ((⟨#[40, 115, 101, 116, 32]⟩ : ByteArray) ++ s.name ++ (⟨#[32]⟩ : ByteArray) ++ et s.e ++ (⟨#[41]⟩ : ByteArray))
  else if s.kind = 4 then acc ++ ((⟨#[40, 112, 114, 105, 110, 116, 32]⟩ : ByteArray) ++ s.name ++ (⟨#[32]⟩ : ByteArray) ++ et s.e ++ (⟨#[41]⟩ : ByteArray))
  else if s.kind = 3 then acc ++ ((⟨#[40, 119, 104, 105, 108, 101, 32]⟩ : ByteArray) ++ et s.e ++ (⟨#[32, 40]⟩ : ByteArray) ++ bt s.a ++ (⟨#[41, 41]⟩ : ByteArray))
  else if s.kind = 2 then acc ++ ((⟨#[40, 105, 102, 32]⟩ : ByteArray) ++ et s.e ++ (⟨#[32, 40]⟩ : ByteArray) ++ bt s.a ++ (⟨#[41, 32, 40]⟩ : ByteArray) ++ bt s.b ++ (⟨#[41, 41]⟩ : ByteArray))
  else acc
/-- The text of the first j commands. -/
def bdTo (et : Ex → ByteArray) (bt : List St → ByteArray) (l : List St) : Nat → ByteArray
  | 0 => ⟨#[]⟩
  | j + 1 => match l[j]? with
    | some s => stT et bt s (if 0 < j then bdTo et bt l j ++ (⟨#[32]⟩ : ByteArray) else bdTo et bt l j)
    | none => bdTo et bt l j
def bdT : Nat → List St → ByteArray
  | 0, _ => ⟨#[]⟩
  | m + 1, l => bdTo (exT m) (bdT m) l l.length
end Lat

theorem bdTo_succ {et : Ex → ByteArray} {bt : List St → ByteArray} {l : List St} {j : Nat} {s : St} (h : l[j]? = some s) :
    Lat.bdTo et bt l (j + 1) = Lat.stT et bt s (if 0 < j then Lat.bdTo et bt l j ++ (⟨#[32]⟩ : ByteArray) else Lat.bdTo et bt l j) := by
  simp only [Lat.bdTo, h]

theorem stT_size (et : Ex → ByteArray) (bt : List St → ByteArray) (s : St) (acc : ByteArray) : acc.size ≤ (Lat.stT et bt s acc).size ∧ (Lat.stT et bt s acc).size ≤ acc.size + s.name.size + (et s.e).size + (bt s.a).size + (bt s.b).size + 11 := by
  have z0 : (⟨#[40, 115, 101, 116, 32]⟩ : ByteArray).size = 5 := rfl
  have z1 : (⟨#[40, 112, 114, 105, 110, 116, 32]⟩ : ByteArray).size = 7 := rfl
  have z2 : (⟨#[40, 119, 104, 105, 108, 101, 32]⟩ : ByteArray).size = 7 := rfl
  have z3 : (⟨#[40, 105, 102, 32]⟩ : ByteArray).size = 4 := rfl
  have z4 : (⟨#[32, 40]⟩ : ByteArray).size = 2 := rfl
  have z5 : (⟨#[41, 41]⟩ : ByteArray).size = 2 := rfl
  have z6 : (⟨#[41, 32, 40]⟩ : ByteArray).size = 3 := rfl
  have z7 : (⟨#[32]⟩ : ByteArray).size = 1 := rfl
  have z8 : (⟨#[41]⟩ : ByteArray).size = 1 := rfl
  unfold Lat.stT
  repeat' split
  all_goals (try simp only [ByteArray.size_append, z0, z1, z2, z3, z4, z5, z6, z7, z8])
  all_goals omega

/-- What one command weighs. -/
def stW (m : Nat) (s : St) : Nat := s.name.size + 3 + exW m s.e + stsW m s.a + stsW m s.b
theorem stsW_succ (m : Nat) (l : List St) : stsW (m + 1) l = (l.map (stW m)).sum + 1 := rfl

theorem sum_take_succ {f : St → Nat} {l : List St} {j : Nat} {s : St} (h : l[j]? = some s) : ((l.take (j + 1)).map f).sum = ((l.take j).map f).sum + f s := by
  obtain ⟨hj, rfl⟩ := List.getElem?_eq_some_iff.1 h
  rw [List.take_succ_eq_append_getElem hj, List.map_append, List.sum_append]; simp
theorem sum_take_le {f : St → Nat} (l : List St) (j : Nat) : ((l.take j).map f).sum ≤ (l.map f).sum := by
  conv => rhs; rw [← List.take_append_drop j l]
  rw [List.map_append, List.sum_append]; omega

theorem bdTo_size {m : Nat} {l : List St} (h : ∀ (i : Nat) (s : St), l[i]? = some s → (Lat.exT m s.e).size + 1 ≤ 6 * exW m s.e ∧ (Lat.bdT m s.a).size + 1 ≤ 6 * stsW m s.a ∧ (Lat.bdT m s.b).size + 1 ≤ 6 * stsW m s.b) :
    ∀ j, j ≤ l.length → (Lat.bdTo (Lat.exT m) (Lat.bdT m) l j).size ≤ 6 * ((l.take j).map (stW m)).sum
  | 0, _ => Nat.zero_le _
  | j + 1, hj => by
    have ih := bdTo_size h j (by omega)
    obtain ⟨s, hs⟩ : ∃ s, l[j]? = some s := ⟨_, List.getElem?_eq_getElem (by omega)⟩
    rw [bdTo_succ hs, sum_take_succ hs]
    have h1 := (stT_size (Lat.exT m) (Lat.bdT m) s (if 0 < j then Lat.bdTo (Lat.exT m) (Lat.bdT m) l j ++ (⟨#[32]⟩ : ByteArray) else Lat.bdTo (Lat.exT m) (Lat.bdT m) l j)).2
    have h2 : (if 0 < j then Lat.bdTo (Lat.exT m) (Lat.bdT m) l j ++ (⟨#[32]⟩ : ByteArray) else Lat.bdTo (Lat.exT m) (Lat.bdT m) l j).size ≤ (Lat.bdTo (Lat.exT m) (Lat.bdT m) l j).size + 1 := by
      split
      · rw [ByteArray.size_append]; exact Nat.le_refl _
      · omega
    obtain ⟨g1, g2, g3⟩ := h j s hs
    have hst : stW m s = s.name.size + 3 + exW m s.e + stsW m s.a + stsW m s.b := rfl
    omega

theorem bdT_size {w : World} : ∀ {m : Nat} {v : Value} {l : List St}, StsAt w m v l → (Lat.bdT m l).size + 1 ≤ 6 * stsW m l
  | 0, _, _, h => False.elim h
  | m + 1, v, l, h => by
    obtain ⟨a, b, off, cap, _, _, _, h9⟩ := h
    have := bdTo_size (m := m) (l := l) (fun i s hs => by
      obtain ⟨_, _, e0, e1, e2, e3, va, vb, _, _, _, _, _, _, _, _, hx, ha, hb⟩ := h9 i s hs
      exact ⟨exT_size hx, bdT_size ha, bdT_size hb⟩) l.length (Nat.le_refl _)
    rw [List.take_length] at this
    rw [stsW_succ]
    simp only [Lat.bdT]
    omega

end Go.Proofs.YthcckfofpocbhabGreatDoor

/- The text of a module, as plain data, and how long it is. -/
namespace Go.Proofs.YthcckfofpocbhabGreatDoor
open Go.RowKit

namespace Lat
def impT (acc s : ByteArray) : ByteArray := acc ++ ((⟨#[32, 40, 105, 109, 112, 111, 114, 116, 32]⟩ : ByteArray) ++ s ++ (⟨#[41]⟩ : ByteArray))
def vaT (acc : ByteArray) (v : Va) : ByteArray := acc ++ ((⟨#[32, 40, 118, 97, 114, 32]⟩ : ByteArray) ++ v.name ++ (⟨#[32]⟩ : ByteArray) ++ v.level ++ (⟨#[41]⟩ : ByteArray))
def parTo (l : List ByteArray) (acc : ByteArray) : Nat → ByteArray
  | 0 => acc
  | j + 1 => (if 0 < j then parTo l acc j ++ (⟨#[32]⟩ : ByteArray) else parTo l acc j) ++ l.getD j ByteArray.empty
def fuH (acc : ByteArray) (f : Fu) : ByteArray := acc ++ ((⟨#[32, 40, 102, 117, 110, 32]⟩ : ByteArray) ++ f.name ++ (⟨#[32, 40]⟩ : ByteArray))
def fuP (acc : ByteArray) (f : Fu) : ByteArray := parTo f.params (fuH acc f) f.params.length ++ (⟨#[41]⟩ : ByteArray)
def fuB (m : Nat) (acc : ByteArray) (f : Fu) : ByteArray := if 0 < f.body.length then fuP acc f ++ ((⟨#[32]⟩ : ByteArray) ++ bdT m f.body) else fuP acc f
def fuT (m : Nat) (acc : ByteArray) (f : Fu) : ByteArray := fuB m acc f ++ ((⟨#[32]⟩ : ByteArray) ++ exT m f.result ++ (⟨#[41]⟩ : ByteArray))
def moH (x : Mo) : ByteArray := (⟨#[40, 109, 111, 100, 117, 108, 101, 32]⟩ : ByteArray) ++ x.name
def moI (x : Mo) : ByteArray := x.imports.foldl impT (moH x)
def moV (x : Mo) : ByteArray := x.vars.foldl vaT (moI x)
def moF (m : Nat) (x : Mo) : ByteArray := x.funs.foldl (fuT m) (moV x)
/-- The text of a module. -/
def moT (m : Nat) (x : Mo) : ByteArray := moF m x ++ (⟨#[41]⟩ : ByteArray)
end Lat

section
variable {α : Type} {f : ByteArray → α → ByteArray} {wt : α → Nat}
theorem foldg_take {l : List α} {j : Nat} {y : α} (h : l[j]? = some y) (acc : ByteArray) : (l.take (j + 1)).foldl f acc = f ((l.take j).foldl f acc) y := by
  obtain ⟨hj, rfl⟩ := List.getElem?_eq_some_iff.1 h
  rw [List.take_succ_eq_append_getElem hj, List.foldl_append]; rfl
theorem sumg_take (l : List α) (j : Nat) : ((l.take j).map wt).sum ≤ (l.map wt).sum := by
  conv => rhs; rw [← List.take_append_drop j l]
  rw [List.map_append, List.sum_append]; omega
theorem foldg_size {l : List α} (h : ∀ (i : Nat) (y : α), l[i]? = some y → ∀ acc, (f acc y).size ≤ acc.size + 12 * wt y) (acc : ByteArray) :
    ∀ j, j ≤ l.length → ((l.take j).foldl f acc).size ≤ acc.size + 12 * ((l.take j).map wt).sum
  | 0, _ => by simp
  | j + 1, hj => by
    have ih := foldg_size h acc j (by omega)
    obtain ⟨y, hy⟩ : ∃ y, l[j]? = some y := ⟨_, List.getElem?_eq_getElem (by omega)⟩
    rw [foldg_take hy]
    have h1 := h j y hy ((l.take j).foldl f acc)
    have h2 : ((l.take (j + 1)).map wt).sum = ((l.take j).map wt).sum + wt y := by
      obtain ⟨hj', rfl⟩ := List.getElem?_eq_some_iff.1 hy
      rw [List.take_succ_eq_append_getElem hj', List.map_append, List.sum_append]; simp
    omega
theorem foldg_all {l : List α} (h : ∀ (i : Nat) (y : α), l[i]? = some y → ∀ acc, (f acc y).size ≤ acc.size + 12 * wt y) (acc : ByteArray) (j : Nat) (hj : j ≤ l.length) :
    ((l.take j).foldl f acc).size ≤ acc.size + 12 * (l.map wt).sum := by
  have h1 := foldg_size h acc j hj
  have h2 := sumg_take (wt := wt) l j
  omega
end

theorem impT_size (acc s : ByteArray) : (Lat.impT acc s).size ≤ acc.size + 12 * (s.size + 1) := by
  unfold Lat.impT
  simp only [ByteArray.size_append]
  show acc.size + (9 + s.size + 1) ≤ _
  omega
theorem vaT_size (acc : ByteArray) (s : Va) : (Lat.vaT acc s).size ≤ acc.size + 12 * (s.name.size + s.level.size + 3) := by
  unfold Lat.vaT
  simp only [ByteArray.size_append]
  show acc.size + (6 + s.name.size + 1 + s.level.size + 1) ≤ _
  omega
theorem getD_size (l : List ByteArray) (j : Nat) : (l.getD j ByteArray.empty).size ≤ (l.map fun s => s.size + 1).sum := by
  by_cases h : j < l.length
  · have e : l.getD j ByteArray.empty = l[j] := by simp [h]
    rw [e]
    have := mem_le_sum (f := fun s : ByteArray => s.size + 1) (List.getElem_mem h)
    omega
  · have e : l.getD j ByteArray.empty = ByteArray.empty := by simp [List.getD, List.getElem?_eq_none (Nat.le_of_not_lt h)]
    rw [e]; exact Nat.zero_le _
theorem parTo_size (l : List ByteArray) (acc : ByteArray) : ∀ j, j ≤ l.length → (Lat.parTo l acc j).size ≤ acc.size + ((l.take j).map fun s => s.size + 1).sum
  | 0, _ => by simp [Lat.parTo]
  | j + 1, hj => by
    have ih := parTo_size l acc j (by omega)
    have h2 : ((l.take (j + 1)).map fun s => s.size + 1).sum = ((l.take j).map fun s => s.size + 1).sum + ((l.getD j ByteArray.empty).size + 1) := by
      rw [List.take_succ_eq_append_getElem (by omega), List.map_append, List.sum_append]
      simp [show j < l.length by omega]
    have e1 : (⟨#[32]⟩ : ByteArray).size = 1 := rfl
    simp only [Lat.parTo]
    split <;> simp only [ByteArray.size_append, e1] <;> omega
theorem parTo_all (l : List ByteArray) (acc : ByteArray) (j : Nat) (hj : j ≤ l.length) : (Lat.parTo l acc j).size ≤ acc.size + (l.map fun s => s.size + 1).sum := by
  have h1 := parTo_size l acc j hj
  have h2 := sumg_take (wt := fun s : ByteArray => s.size + 1) l j
  omega
/-- What one function weighs. -/
def fuW (m : Nat) (s : Fu) : Nat := s.name.size + 2 + strsW s.params + stsW m s.body + exW m s.result
theorem fusW_eq (m : Nat) (l : List Fu) : fusW m l = (l.map (fuW m)).sum + 1 := rfl
theorem fuH_size (acc : ByteArray) (f : Fu) : (Lat.fuH acc f).size = acc.size + (f.name.size + 8) := by
  unfold Lat.fuH
  simp only [ByteArray.size_append]
  show acc.size + (6 + f.name.size + 2) = _
  omega
theorem fuP_size (acc : ByteArray) (f : Fu) : (Lat.fuP acc f).size ≤ acc.size + (f.name.size + 8 + strsW f.params) := by
  unfold Lat.fuP
  have h := parTo_all f.params (Lat.fuH acc f) f.params.length (Nat.le_refl _)
  rw [fuH_size] at h
  rw [ByteArray.size_append]
  show _ + 1 ≤ _
  unfold strsW
  omega
theorem fuT_size {w : World} {m : Nat} {f : Fu} {vb e0 e1 e2 e3 : Value} (hb : StsAt w m vb f.body) (hx : ExAt w m e0 e1 e2 e3 f.result) (acc : ByteArray) : (Lat.fuT m acc f).size ≤ acc.size + 12 * fuW m f := by
  have h1 := fuP_size acc f
  have h2 := bdT_size hb
  have h3 := exT_size hx
  have e1 : (⟨#[32]⟩ : ByteArray).size = 1 := rfl
  have e2 : (⟨#[41]⟩ : ByteArray).size = 1 := rfl
  unfold Lat.fuT Lat.fuB fuW
  split <;> simp only [ByteArray.size_append, e1, e2] <;> omega
theorem moH_size (x : Mo) : (Lat.moH x).size = 8 + x.name.size := by
  unfold Lat.moH; rw [ByteArray.size_append]; rfl

theorem boxM0 (w : World) (c0 c1 c2 c3 : Value) (t : TypeId) : (w.alloc (.cells #[c0, c1, c2, c3] t)).cell? ⟨w.heap.size, 0, none⟩ = some c0 := by simp [go_sem]
theorem boxM1 (w : World) (c0 c1 c2 c3 : Value) (t : TypeId) : (w.alloc (.cells #[c0, c1, c2, c3] t)).cell? ⟨w.heap.size, 1, none⟩ = some c1 := by simp [go_sem]
theorem boxM2 (w : World) (c0 c1 c2 c3 : Value) (t : TypeId) : (w.alloc (.cells #[c0, c1, c2, c3] t)).cell? ⟨w.heap.size, 2, none⟩ = some c2 := by simp [go_sem]
theorem boxM3 (w : World) (c0 c1 c2 c3 : Value) (t : TypeId) : (w.alloc (.cells #[c0, c1, c2, c3] t)).cell? ⟨w.heap.size, 3, none⟩ = some c3 := by simp [go_sem]

end Go.Proofs.YthcckfofpocbhabGreatDoor

/- Walks over package downref: Text answers the text of a module. -/
namespace Go.Proofs.YthcckfofpocbhabGreatDoor
open Go.RowKit

theorem boxF0 (w : World) (c0 c1 c2 c3 c4 c5 c6 : Value) (t : TypeId) : (w.alloc (.cells #[c0, c1, c2, c3, c4, c5, c6] t)).cell? ⟨w.heap.size, 0, none⟩ = some c0 := by simp [go_sem]
theorem boxF1 (w : World) (c0 c1 c2 c3 c4 c5 c6 : Value) (t : TypeId) : (w.alloc (.cells #[c0, c1, c2, c3, c4, c5, c6] t)).cell? ⟨w.heap.size, 1, none⟩ = some c1 := by simp [go_sem]
theorem boxF2 (w : World) (c0 c1 c2 c3 c4 c5 c6 : Value) (t : TypeId) : (w.alloc (.cells #[c0, c1, c2, c3, c4, c5, c6] t)).cell? ⟨w.heap.size, 2, none⟩ = some c2 := by simp [go_sem]
theorem boxF3 (w : World) (c0 c1 c2 c3 c4 c5 c6 : Value) (t : TypeId) : (w.alloc (.cells #[c0, c1, c2, c3, c4, c5, c6] t)).cell? ⟨w.heap.size, 3, none⟩ = some c3 := by simp [go_sem]
theorem boxF4 (w : World) (c0 c1 c2 c3 c4 c5 c6 : Value) (t : TypeId) : (w.alloc (.cells #[c0, c1, c2, c3, c4, c5, c6] t)).cell? ⟨w.heap.size, 4, none⟩ = some c4 := by simp [go_sem]
theorem boxF5 (w : World) (c0 c1 c2 c3 c4 c5 c6 : Value) (t : TypeId) : (w.alloc (.cells #[c0, c1, c2, c3, c4, c5, c6] t)).cell? ⟨w.heap.size, 5, none⟩ = some c5 := by simp [go_sem]
theorem boxF6 (w : World) (c0 c1 c2 c3 c4 c5 c6 : Value) (t : TypeId) : (w.alloc (.cells #[c0, c1, c2, c3, c4, c5, c6] t)).cell? ⟨w.heap.size, 6, none⟩ = some c6 := by simp [go_sem]

theorem parTo_succ (l : List ByteArray) (acc : ByteArray) (j : Nat) : Lat.parTo l acc (j + 1) = (if 0 < j then Lat.parTo l acc j ++ (⟨#[32]⟩ : ByteArray) else Lat.parTo l acc j) ++ l.getD j ByteArray.empty := rfl
theorem take_all {α : Type} {f : ByteArray → α → ByteArray} {l : List α} {acc : ByteArray} {n j : Nat} (h : n = l.length) (e : j = n) : (l.take j).foldl f acc = l.foldl f acc := by
  rw [List.take_of_length_le (by omega)]

end Go.Proofs.YthcckfofpocbhabGreatDoor

/- What the document answers of a module, as plain data. -/
namespace Go.Proofs.YthcckfofpocbhabGreatDoor
open Go.RowKit

/-- A flag behind k things: it was b, and each of them holds. -/
def allTo {α : Type} (b : Bool) (p : α → Bool) (l : List α) (k : Nat) : Bool := b && (l.take k).all p
theorem allTo_zero {α : Type} (b : Bool) (p : α → Bool) (l : List α) : allTo b p l 0 = b := by simp [allTo]
theorem allTo_succ {α : Type} {b : Bool} {p : α → Bool} {l : List α} {k : Nat} {y : α} (h : l[k]? = some y) : allTo b p l (k + 1) = (allTo b p l k && p y) := by
  obtain ⟨hj, rfl⟩ := List.getElem?_eq_some_iff.1 h
  unfold allTo
  rw [List.take_succ_eq_append_getElem hj, List.all_append]
  simp [Bool.and_assoc]
theorem allTo_all {α : Type} {b : Bool} {p : α → Bool} {l : List α} {n k : Nat} (h : n = l.length) (e : k = n) : allTo b p l k = (b && l.all p) := by
  unfold allTo; rw [List.take_of_length_le (by omega)]

namespace Lat
def strB (s : ByteArray) : Bool := nameB s.data.toList
def vaB (v : Va) : Bool := strB v.name && strB v.level
def fuOk (m : Nat) (f : Fu) : Bool := strB f.name && bodyB m f.body && exprB m f.result && f.params.all strB
def fuE (m : Nat) (f : Fu) : Int := if 4 < f.params.length then 2 else if fuOk m f then 0 else 5
/-- The first function that may not be tells. -/
def fusE (m : Nat) : List Fu → Int
  | [] => 0
  | f :: l => if fuE m f = 0 then fusE m l else fuE m f
def step (b : UInt8) : Int := if b = 40 then 1 else if b = 41 then -1 else 0
/-- How many brackets are open behind the first j bytes. -/
def openTo (t : ByteArray) : Nat → Int
  | 0 => 0
  | j + 1 => openTo t j + step (t.data.getD j 0)
def deepB (t : ByteArray) : Bool := (List.range t.size).any fun j => decide (20 < openTo t (j + 1))
/-- What is told of a module. -/
def moE (m : Nat) (x : Mo) : Int :=
  if 8 < x.imports.length ∨ 8 < x.vars.length ∨ 8 < x.funs.length then 2
  else if ((strB x.name && x.imports.all strB) && x.vars.all vaB) = false then 5
  else if fusE m x.funs ≠ 0 then fusE m x.funs
  else if deepB (moT m x) then 2 else 0
end Lat

theorem fusE_at {m : Nat} : ∀ {l : List Fu} {k : Nat} {y : Fu}, (∀ (d : Nat) (z : Fu), d < k → l[d]? = some z → Lat.fuE m z = 0) → l[k]? = some y → Lat.fuE m y ≠ 0 → Lat.fusE m l = Lat.fuE m y
  | [], k, y, _, h, _ => by simp at h
  | f :: l, 0, y, _, h, h0 => by
    simp only [List.getElem?_cons_zero, Option.some.injEq] at h
    subst h
    simp only [Lat.fusE]; rw [if_neg h0]
  | f :: l, k + 1, y, ha, h, h0 => by
    have := ha 0 f (by omega) rfl
    simp only [Lat.fusE]; rw [if_pos this]
    exact fusE_at (k := k) (fun d z hd hz => ha (d + 1) z (by omega) (by simpa using hz)) (by simpa using h) h0
theorem fusE_zero {m : Nat} : ∀ {l : List Fu}, (∀ (d : Nat) (z : Fu), l[d]? = some z → Lat.fuE m z = 0) → Lat.fusE m l = 0
  | [], _ => rfl
  | f :: l, ha => by
    simp only [Lat.fusE]; rw [if_pos (ha 0 f rfl)]
    exact fusE_zero (fun d z hz => ha (d + 1) z (by simpa using hz))

theorem openTo_le (t : ByteArray) : ∀ j : Nat, -(j : Int) ≤ Lat.openTo t j ∧ Lat.openTo t j ≤ j
  | 0 => ⟨Int.le_refl _, Int.le_refl _⟩
  | j + 1 => by
    have := openTo_le t j
    simp only [Lat.openTo, Lat.step]
    split
    · omega
    · split <;> omega
theorem openTo_succ (t : ByteArray) (j : Nat) (h : j < t.size) : Lat.openTo t (j + 1) = Lat.openTo t j + Lat.step t[j] := by
  have e : t.data.getD j 0 = t[j] := by
    have : j < t.data.size := h
    unfold Array.getD; rw [dif_pos this]; rfl
  simp only [Lat.openTo, e]
theorem deepB_at {t : ByteArray} {j : Nat} (hj : j < t.size) (h : 20 < Lat.openTo t (j + 1)) : Lat.deepB t = true :=
  List.any_eq_true.2 ⟨j, List.mem_range.2 hj, decide_eq_true h⟩
theorem deepB_not {t : ByteArray} (h : ∀ j, j < t.size → ¬ 20 < Lat.openTo t (j + 1)) : Lat.deepB t = false := by
  unfold Lat.deepB; rw [List.any_eq_false]; intro j hj; simpa using h j (List.mem_range.1 hj)

theorem moT_size {w : World} {m : Nat} {v : Value} {x : Mo} (h : MoAt w m v x) (hw : moW m x ≤ 1048576) : (Lat.moT m x).size ≤ 12582920 := by
  obtain ⟨vi, vv, vf, rfl, hnm, hI, hV, hF⟩ := h
  have hwm : x.name.size + 2 + strsW x.imports + vasW x.vars + fusW m x.funs ≤ 1048576 := hw
  have h1 := foldg_all (f := Lat.impT) (wt := fun s : ByteArray => s.size + 1) (l := x.imports) (fun i y _ acc => impT_size acc y) (Lat.moH x) x.imports.length (Nat.le_refl _)
  rw [moH_size, List.take_length] at h1
  have h2 := foldg_all (f := Lat.vaT) (wt := fun s : Va => s.name.size + s.level.size + 3) (l := x.vars) (fun i y _ acc => vaT_size acc y) (Lat.moI x) x.vars.length (Nat.le_refl _)
  rw [List.take_length] at h2
  obtain ⟨a, b, off, cap, _, _, _, h9⟩ := hF
  have h3 := foldg_all (f := Lat.fuT m) (wt := fuW m) (l := x.funs) (fun i y hy acc => by
      obtain ⟨_, vp, vb, e0, e1, e2, e3, _, _, _, _, _, _, _, _, hsb, hx⟩ := h9 i y hy
      exact fuT_size hsb hx acc) (Lat.moV x) x.funs.length (Nat.le_refl _)
  rw [List.take_length] at h3
  have e1 : x.imports.foldl Lat.impT (Lat.moH x) = Lat.moI x := rfl
  have e2 : x.vars.foldl Lat.vaT (Lat.moI x) = Lat.moV x := rfl
  have e3 : x.funs.foldl (Lat.fuT m) (Lat.moV x) = Lat.moF m x := rfl
  rw [e1] at h1; rw [e2] at h2; rw [e3] at h3
  unfold Lat.moT
  rw [ByteArray.size_append]
  show _ + 1 ≤ _
  rw [fusW_eq] at hwm
  unfold strsW vasW at hwm
  omega

end Go.Proofs.YthcckfofpocbhabGreatDoor

/- Walks over package downref: Module answers what the document says of a module. -/
namespace Go.Proofs.YthcckfofpocbhabGreatDoor
open Go.RowKit

theorem byteEq (a c : UInt8) (n : Int) (h : (c.toNat : Int) = n) : ((a.toNat : Int) == n) = (a == c) := by
  rw [Bool.eq_iff_iff]; simp only [beq_iff_eq]
  constructor
  · intro e; exact UInt8.toNat_inj.1 (by omega)
  · intro e; subst e; exact h
theorem step3 (c : UInt8) : (((c.toNat : Int) == 40) = true ∧ ((c.toNat : Int) == 41) = false ∧ Lat.step c = 1) ∨ (((c.toNat : Int) == 40) = false ∧ ((c.toNat : Int) == 41) = true ∧ Lat.step c = -1) ∨
    (((c.toNat : Int) == 40) = false ∧ ((c.toNat : Int) == 41) = false ∧ Lat.step c = 0) := by
  rw [byteEq c 40 40 rfl, byteEq c 41 41 rfl]
  unfold Lat.step
  by_cases h : c = 40
  · subst h; exact Or.inl ⟨rfl, rfl, rfl⟩
  · by_cases h' : c = 41
    · subst h'; exact Or.inr (Or.inl ⟨rfl, rfl, rfl⟩)
    · refine Or.inr (Or.inr ⟨by simp [h], by simp [h'], by simp [h, h']⟩)

end Go.Proofs.YthcckfofpocbhabGreatDoor

/- Rows of strings and of ints that a call makes for itself by append; lists of ints in memory. -/
namespace Go.Proofs.YthcckfofpocbhabGreatDoor
open Go.RowKit

theorem infoStr : (Tryz.prog.info? 9).map (fun i => (i.zero, i.size, i.bytes)) = some (some (.string ⟨#[]⟩), 1, 16) := by kernel_rfl
theorem infoInt : (Tryz.prog.info? 3).map (fun i => (i.zero, i.size, i.bytes)) = some (some (.int .i64 0), 1, 8) := by kernel_rfl

/-- The slice v is a row of the strings l, of the call's own. -/
def Own (w : World) (B : Nat) (v : Value) (l : List ByteArray) : Prop := w.ownsRow B 9 1 v l.length (l.map Value.string)

theorem own_below {w w' : World} {base e size n : Nat} {v : Value} {xs : List Value} (h : w.ownsRow base e size v n xs) (hb : Below w.heap.size w w') : w'.ownsRow base e size v n xs := by
  obtain ⟨h1, h2⟩ := h
  refine ⟨h1, ?_⟩
  rcases h2 with h2 | ⟨g, cap, cur, hv, hg, hh, r⟩
  · exact Or.inl h2
  · refine Or.inr ⟨g, cap, cur, hv, hg, ?_, r⟩
    have hlt : g < w.heap.size := by
      rcases Nat.lt_or_ge g w.heap.size with h' | h'
      · exact h'
      · rw [Array.getElem?_eq_none h'] at hh; cases hh
    rw [hb.block g hlt]; exact hh

theorem Own.strs {w : World} {B : Nat} {v : Value} {l : List ByteArray} (h : Own w B v l) (hs : ∀ s ∈ l, s.size ≤ maxLen) (hl : l.length ≤ 9223372036854775807) : Strs w v l := by
  have h0 := h
  rcases h.2 with ⟨rfl, h1⟩ | ⟨g, cap, cur, rfl, _⟩
  · have : l = [] := List.length_eq_zero_iff.1 (by omega)
    subst this
    exact ⟨none, 0, 0, 0, rfl, fun h => absurd h (by simp), by simp, fun s hs => absurd hs (by simp), fun j hj => absurd hj (by simp)⟩
  · refine ⟨_, g, 0, cap, rfl, fun _ => rfl, hl, hs, fun j hj => ?_⟩
    have := World.ownsRow.cellAt h0 j (by omega)
    rw [Nat.zero_add, this]
    simp [hj]
theorem Own.shape {w : World} {B : Nat} {v : Value} {l : List ByteArray} (h : Own w B v l) : (v = .slice none 0 0 ∧ l = []) ∨ ∃ g cap, v = .slice (some ⟨g, 0, none⟩) l.length cap ∧ l.length ≤ cap ∧ g < w.heap.size := by
  rcases h.2 with ⟨rfl, h1⟩ | ⟨g, cap, cur, rfl, _, hh, hc, _⟩
  · exact Or.inl ⟨rfl, List.length_eq_zero_iff.1 (by omega)⟩
  · refine Or.inr ⟨g, cap, rfl, hc, ?_⟩
    rcases Nat.lt_or_ge g w.heap.size with h' | h'
    · exact h'
    · rw [Array.getElem?_eq_none h'] at hh; cases hh

/-- The slice v is the list l of strings, and is no longer than its capacity. -/
def StrsC (w : World) (v : Value) (l : List ByteArray) : Prop := Strs w v l ∧ ∃ a c, v = .slice a l.length c ∧ l.length ≤ c
theorem StrsC.below {w w' : World} {v : Value} {l : List ByteArray} (h : StrsC w v l) (hb : Below w.heap.size w w') : StrsC w' v l := ⟨h.1.below hb, h.2⟩
theorem Own.strsC {w : World} {B : Nat} {v : Value} {l : List ByteArray} (h : Own w B v l) (hs : ∀ s ∈ l, s.size ≤ maxLen) (hl : l.length ≤ 9223372036854775807) : StrsC w v l := by
  refine ⟨h.strs hs hl, ?_⟩
  rcases h.shape with ⟨rfl, rfl⟩ | ⟨g, cap, rfl, hc, _⟩
  · exact ⟨_, _, rfl, Nat.le_refl _⟩
  · exact ⟨_, _, rfl, hc⟩
/-- The slice v is the list l of ints. -/
def Ints (w : World) (v : Value) (l : List Int) : Prop :=
  ∃ (a : Option Addr) (b off cap : Nat), v = .slice a l.length cap ∧ (0 < l.length → a = some ⟨b, off, none⟩) ∧ l.length ≤ 9223372036854775807 ∧
    ∀ j z, l[j]? = some z → w.cell? ⟨b, off + j, none⟩ = some (.int .i64 z)
theorem Ints.below {w w' : World} {v : Value} {l : List Int} (h : Ints w v l) (hb : Below w.heap.size w w') : Ints w' v l := by
  obtain ⟨a, b, off, cap, e, h0, hl, h1⟩ := h
  exact ⟨a, b, off, cap, e, h0, hl, fun j z hz => cellUp (h1 j z hz) hb⟩
/-- The slice v is a row of the ints l, of the call's own. -/
def OwnI (w : World) (B : Nat) (v : Value) (l : List Int) : Prop := w.ownsRow B 3 1 v l.length (l.map (Value.int .i64))
theorem OwnI.ints {w : World} {B : Nat} {v : Value} {l : List Int} (h : OwnI w B v l) (hl : l.length ≤ 9223372036854775807) : Ints w v l := by
  have h0 := h
  rcases h.2 with ⟨rfl, h1⟩ | ⟨g, cap, cur, rfl, _⟩
  · have : l = [] := List.length_eq_zero_iff.1 (by omega)
    subst this
    exact ⟨none, 0, 0, 0, rfl, fun h => absurd h (by simp), by simp, fun j z hz => absurd hz (by simp)⟩
  · refine ⟨_, g, 0, cap, rfl, fun _ => rfl, hl, fun j z hz => ?_⟩
    obtain ⟨hj, rfl⟩ := List.getElem?_eq_some_iff.1 hz
    have := World.ownsRow.cellAt h0 j (by omega)
    rw [Nat.zero_add, this]
    simp [hj]
theorem own_ne {w : World} {base e size n : Nat} {v : Value} {xs : List Value} {base' e' size' n' : Nat} {v' : Value} {xs' : List Value} (h : w.ownsRow base e size v n xs) (h' : w.ownsRow base' e' size' v' n' xs') (hne : e ≠ e') : v.ownBlock = none ∨ v.ownBlock ≠ v'.ownBlock := by
  rcases h.2 with ⟨rfl, _⟩ | ⟨g, cap, cur, rfl, _, hh, _⟩
  · exact Or.inl rfl
  · right
    intro e1
    rcases h'.2 with ⟨rfl, _⟩ | ⟨g', cap', cur', rfl, _, hh', _⟩
    · simp [Value.ownBlock] at e1
    · simp [Value.ownBlock] at e1
      subst e1
      rw [hh] at hh'
      simp at hh'
      exact hne hh'.2

/-- append of one string. -/
theorem wpList_append_str {w : World} {ops : Array Oper} {rest : List Oper} {o : Oper} {a : Act} {Q : Exit → Act → World → Prop} (hgd : o.guard = none) (s x : Operand)
    (ho : o.op = .call { callee := .builtin .append, args := #[s, x], argTypes := #[22, 22] })
    (base : Nat) (v : Value) (l : List ByteArray) (hs : a.eval s = v) (hown : Own w base v l) (B : Nat) (t : ByteArray) (hx : a.eval x = .slice (some ⟨B, 0, none⟩) 1 1)
    (hc : w.cell? ⟨B, 0, none⟩ = some (.string t)) (hl : l.length ≤ 1048576) (hbase : base ≤ w.heap.size)
    (h : ∀ v' w', Own w' base v' (l ++ [t]) → w.grownBy w' v.ownBlock → wpList Tryz.prog ops Q rest (a.put o.dst v') w') : wpList Tryz.prog ops Q (o :: rest) a w := by
  obtain ⟨iS, hiS, hz0, hz1, hz2⟩ := info_parts infoStr
  have hown' : w.ownsRow base 9 1 v l.length (l.map Value.string) := hown
  refine wpList_append_own _ hgd s x 22 ho base 9 iS (.string ⟨#[]⟩) 1 16 Tryz.underlying22 hiS hz0 hz1 hz2 rfl (by decide) v l.length (l.map Value.string) hs hown' ⟨B, 0, none⟩ 1 1 [.string t] hx rfl (fun j u hu => ?_) (fun u hu => ?_) (by unfold maxLen; omega) (by omega) hbase ?_
  · cases j with
    | zero =>
      simp at hu
      subst hu
      rw [Addr.add_lit]; exact hc
    | succ j => simp at hu
  · simp at hu
    subst hu
    rfl
  · intro v' w' h1 h2 _
    refine h v' w' ?_ h2
    unfold Own
    rw [List.length_append, List.map_append]
    exact h1
/-- append of one int. -/
theorem wpList_append_int {w : World} {ops : Array Oper} {rest : List Oper} {o : Oper} {a : Act} {Q : Exit → Act → World → Prop} (hgd : o.guard = none) (s x : Operand)
    (ho : o.op = .call { callee := .builtin .append, args := #[s, x], argTypes := #[37, 37] })
    (base : Nat) (v : Value) (l : List Int) (hs : a.eval s = v) (hown : OwnI w base v l) (B : Nat) (t : Int) (hx : a.eval x = .slice (some ⟨B, 0, none⟩) 1 1)
    (hc : w.cell? ⟨B, 0, none⟩ = some (.int .i64 t)) (hl : l.length ≤ 1048576) (hbase : base ≤ w.heap.size)
    (h : ∀ v' w', OwnI w' base v' (l ++ [t]) → w.grownBy w' v.ownBlock → wpList Tryz.prog ops Q rest (a.put o.dst v') w') : wpList Tryz.prog ops Q (o :: rest) a w := by
  obtain ⟨iS, hiS, hz0, hz1, hz2⟩ := info_parts infoInt
  have hown' : w.ownsRow base 3 1 v l.length (l.map (Value.int .i64)) := hown
  refine wpList_append_own _ hgd s x 37 ho base 3 iS (.int .i64 0) 1 8 Tryz.underlying37 hiS hz0 hz1 hz2 rfl (by decide) v l.length (l.map (Value.int .i64)) hs hown' ⟨B, 0, none⟩ 1 1 [.int .i64 t] hx rfl (fun j u hu => ?_) (fun u hu => ?_) (by unfold maxLen; omega) (by omega) hbase ?_
  · cases j with
    | zero =>
      simp at hu
      subst hu
      rw [Addr.add_lit]; exact hc
    | succ j => simp at hu
  · simp at hu
    subst hu
    rfl
  · intro v' w' h1 h2 _
    refine h v' w' ?_ h2
    unfold OwnI
    rw [List.length_append, List.map_append]
    exact h1

theorem Own.kept {w w' : World} {B : Nat} {v : Value} {l : List ByteArray} {o : Obj} {v2 : Value} {l2 : List Int} (h : Own w B v l) (h2 : OwnI w B v2 l2) (hg : (w.alloc o).grownBy w' v2.ownBlock) : Own w' B v l :=
  (World.ownsRow.alloc h o).kept hg (own_ne (World.ownsRow.alloc h o) (World.ownsRow.alloc h2 o) (by decide))
theorem OwnI.kept {w w' : World} {B : Nat} {v : Value} {l : List ByteArray} {o : Obj} {v2 : Value} {l2 : List Int} (h2 : OwnI w B v2 l2) (h : Own w B v l) (hg : (w.alloc o).grownBy w' v.ownBlock) : OwnI w' B v2 l2 :=
  (World.ownsRow.alloc h2 o).kept hg (own_ne (World.ownsRow.alloc h2 o) (World.ownsRow.alloc h o) (by decide))

end Go.Proofs.YthcckfofpocbhabGreatDoor

/- Walks over package lattice: IsName alone, and what package tree makes of it: areNames, areVars. -/
namespace Go.Proofs.YthcckfofpocbhabGreatDoor
open Go.RowKit

set_option maxHeartbeats 1000000 in
theorem isName_any (w : World) (s : ByteArray) (hs : s.size ≤ maxLen) :
    Calls Tryz.prog 20 #[.string s] w fun e w' => e = .returned (.bool (Lat.nameB s.data.toList)) ∧ w' = w := by
  unfold maxLen at hs
  by_cases h1 : s.size < 1
  · have HF : Hid (Lat.nameB s.data.toList = false) := by
      show Lat.nameB s.data.toList = false
      unfold Lat.nameB; rw [size_list]; simp; omega
    go_enter Tryz.func20, Tryz.ntmps20
    go_wp2
    go_ret
    exact ⟨ret_bool HF.out.symm, rfl⟩
  · by_cases h8 : 8 < s.size
    · have HF : Hid (Lat.nameB s.data.toList = false) := by
        show Lat.nameB s.data.toList = false
        unfold Lat.nameB; rw [size_list]; simp; omega
      go_enter Tryz.func20, Tryz.ntmps20
      go_wp2
      go_ret
      exact ⟨ret_bool HF.out.symm, rfl⟩
    · have HF : Hid (Lat.nameB s.data.toList = s.data.toList.all Lat.letterB) := by
        show Lat.nameB s.data.toList = _
        unfold Lat.nameB; rw [size_list]
        rw [decide_eq_true (by omega : 1 ≤ s.size), decide_eq_true (by omega : s.size ≤ 8)]; rfl
      go_enter Tryz.func20, Tryz.ntmps20
      go_wp2
      go_loop [14] (fun i => ∃ k : Nat, k ≤ s.size ∧ i = .int .i64 k ∧ ∀ j (hj : j < s.size), j < k → Lat.letterB s[j] = true) (fun i => s.size - (intOf i).toNat)
      case atStart => exact ⟨0, Nat.zero_le _, rfl, fun j hj hd => absurd hd (Nat.not_lt_zero _)⟩
      case round =>
        obtain ⟨k, hk, rfl, hall⟩ := hrel
        have HA : Hid (∀ j (hj : j < s.size), j < k → Lat.letterB s[j] = true) := hall
        clear hall
        by_cases hlt : k < s.size
        · go_wp2
          · go_ret
            exact ⟨ret_bool (by rw [HF.out, letters_not s k hlt (by simp [Lat.letterB]; omega)]), rfl⟩
          · go_round
            case rel => exact ⟨k + 1, by omega, by go_num, fun j hj hd => by
                by_cases e : j = k
                · subst e; simp [Lat.letterB]; omega
                · exact HA.out j hj (by omega)⟩
            case measure => simp [intOf]; omega
          · go_ret
            exact ⟨ret_bool (by rw [HF.out, letters_not s k hlt (by simp [Lat.letterB]; omega)]), rfl⟩
        · go_wp2
          go_ret
          exact ⟨ret_bool (by rw [HF.out, letters_all s (fun j hj => HA.out j hj (by omega))]), rfl⟩

theorem strs_all {p : ByteArray → Bool} {l : List ByteArray} (h : ∀ d, d < l.length → p (l.getD d ByteArray.empty) = true) : l.all p = true := by
  rw [List.all_eq_true]; intro x hx
  obtain ⟨i, hi, rfl⟩ := List.mem_iff_getElem.1 hx
  have := h i hi
  simpa [hi] using this
theorem strs_not {p : ByteArray → Bool} {l : List ByteArray} {d : Nat} (hd : d < l.length) (h : p (l.getD d ByteArray.empty) = false) : l.all p = false := by
  rw [List.all_eq_false]
  exact ⟨l[d], List.getElem_mem hd, by simp [hd] at h; simp [h]⟩

set_option maxHeartbeats 1000000 in
theorem areNames_any (w : World) (v : Value) (ss : List ByteArray) (h : Strs w v ss) :
    Calls Tryz.prog 21 #[v] w fun e w' => e = .returned (.bool (ss.all fun s => Lat.nameB s.data.toList)) ∧ w' = w := by
  obtain ⟨a, b, off, cap, rfl, ha, hl, hs, hc⟩ := h
  obtain ⟨len, hlen⟩ : ∃ len, len = ss.length := ⟨_, rfl⟩
  have HL := hide hlen
  rw [← hlen] at ha hl hc ⊢
  have HA := hide ha
  have HC := hide hc
  have HS : Hid (∀ j, j < len → (ss.getD j ByteArray.empty).size ≤ maxLen) := hide (fun j hj => hs _ (by
    have hj' : j < ss.length := by omega
    rw [show ss.getD j ByteArray.empty = ss[j] by simp [hj']]; exact List.getElem_mem hj'))
  clear ha hc hs hlen
  go_enter Tryz.func21, Tryz.ntmps21
  go_wp2
  go_loop [7] (fun i => ∃ k : Nat, k ≤ len ∧ i = .int .i64 k ∧ ∀ d, d < k → Lat.nameB (ss.getD d ByteArray.empty).data.toList = true) (fun i => len - (intOf i).toNat)
  case atStart => exact ⟨0, Nat.zero_le _, rfl, fun d hd => absurd hd (Nat.not_lt_zero _)⟩
  case round =>
    obtain ⟨k, hk, rfl, hall⟩ := hrel
    have HALL := hide hall
    clear hall
    by_cases hlt : k < len
    · obtain rfl := HA.out (by omega)
      have hck := HC.out k hlt
      have hsk := HS.out k hlt
      obtain ⟨s, hse⟩ : ∃ s, s = ss.getD k ByteArray.empty := ⟨_, rfl⟩
      have HSE := hide hse
      rw [← hse] at hck hsk
      clear hse
      go_wp2_with fail
      refine (isName_any _ s hsk).mono ?_
      rintro e w' ⟨rfl, hw⟩
      subst hw
      cases hb : Lat.nameB s.data.toList
      · have HB := hide hb
        go_wp2
        go_ret
        exact ⟨ret_bool (strs_not (d := k) (by have := HL.out; omega) (by rw [← HSE.out]; exact HB.out)).symm, rfl⟩
      · have HB := hide hb
        go_wp2
        go_round
        case rel => exact ⟨k + 1, by omega, by go_num, fun d hd => by
            by_cases e : d = k
            · subst e; rw [← HSE.out]; exact HB.out
            · exact HALL.out d (by omega)⟩
        case measure => simp [intOf]; omega
    · go_wp2
      go_ret
      exact ⟨ret_bool (strs_all (fun d hd => HALL.out d (by have := HL.out; omega))).symm, rfl⟩

theorem vas_all {p : Va → Bool} {l : List Va} (h : ∀ (i : Nat) (x : Va), l[i]? = some x → p x = true) : l.all p = true := by
  rw [List.all_eq_true]; intro x hx
  obtain ⟨i, hi, rfl⟩ := List.mem_iff_getElem.1 hx
  exact h i _ (List.getElem?_eq_getElem hi)
theorem vas_not {p : Va → Bool} {l : List Va} {i : Nat} {x : Va} (hx : l[i]? = some x) (h : p x = false) : l.all p = false := by
  rw [List.all_eq_false]
  exact ⟨x, List.mem_of_getElem? hx, by simp [h]⟩

set_option maxHeartbeats 1000000 in
theorem areVars_any (w : World) (v : Value) (vs : List Va) (h : VasAt w v vs) :
    Calls Tryz.prog 22 #[v] w fun e w' => e = .returned (.bool (vs.all fun s => Lat.nameB s.name.data.toList && Lat.nameB s.level.data.toList)) ∧ Below w.heap.size w w' := by
  obtain ⟨a, b, off, cap, rfl, ha, hl, hc⟩ := h
  obtain ⟨len, hlen⟩ : ∃ len, len = vs.length := ⟨_, rfl⟩
  have HL := hide hlen
  rw [← hlen] at ha hl ⊢
  have HA := hide ha
  have HC := hide hc
  clear ha hc hlen
  go_enter Tryz.func22, Tryz.ntmps22
  go_wp2
  go_loopw [7] (fun i wr => ∃ k : Nat, k ≤ len ∧ i = .int .i64 k ∧ (∀ d y, d < k → vs[d]? = some y → (Lat.nameB y.name.data.toList && Lat.nameB y.level.data.toList) = true) ∧ Below w.heap.size w wr) (fun i _ => len - (intOf i).toNat)
  case atStart => exact ⟨0, Nat.zero_le _, rfl, fun d y hd => absurd hd (Nat.not_lt_zero _), Below.refl _ _⟩
  case round =>
    obtain ⟨k, hk, rfl, hall, hnx⟩ := hrel
    have HALL := hide hall
    clear hall
    by_cases hlt : k < len
    · obtain rfl := HA.out (by omega)
      obtain ⟨y, hy⟩ : ∃ y, vs[k]? = some y := ⟨_, List.getElem?_eq_getElem (by rw [← HL.out]; exact hlt)⟩
      obtain ⟨k1, k2, g0, g1⟩ := HC.out k y hy
      have HY := hide hy
      have u0 := cellUp g0 hnx
      have u1 := cellUp g1 hnx
      have HNX := hide (hnx.trans ((boxBelow wr (.cells #[.string y.name, .string y.level] 47)).mono hnx.size))
      clear g0 g1 hy hnx
      go_wp2_with fail
      refine (isName_any _ y.name k1).mono ?_
      rintro e w' ⟨rfl, hw⟩
      subst hw
      cases hb : Lat.nameB y.name.data.toList
      · have HB := hide hb
        go_wp2
        go_ret
        exact ⟨ret_bool (vas_not HY.out (by rw [HB.out]; rfl)).symm, HNX.out⟩
      · have HB := hide hb
        go_wp2_with fail
        refine (isName_any _ y.level k2).mono ?_
        rintro e w' ⟨rfl, hw⟩
        subst hw
        cases hb2 : Lat.nameB y.level.data.toList
        · have HB2 := hide hb2
          go_wp2
          go_ret
          exact ⟨ret_bool (vas_not HY.out (by rw [HB.out, HB2.out]; rfl)).symm, HNX.out⟩
        · have HB2 := hide hb2
          go_wp2
          go_roundw
          case rel => exact ⟨k + 1, by omega, by go_num, fun d z hd hz => by
              by_cases e : d = k
              · subst e
                rw [HY.out] at hz
                cases hz
                rw [HB.out, HB2.out]; rfl
              · exact HALL.out d z (by omega) hz, HNX.out⟩
          case measure => simp [intOf]; omega
    · go_wp2
      go_ret
      exact ⟨ret_bool (vas_all (fun d z hz => HALL.out d z (by
        have := (List.getElem?_eq_some_iff.1 hz).1
        have := HL.out
        omega) hz)).symm, hnx⟩

end Go.Proofs.YthcckfofpocbhabGreatDoor

/- Walks over package tree: isOperator, isCallee (and strings.Cut at one byte), hasParts. -/
namespace Go.Proofs.YthcckfofpocbhabGreatDoor
open Go.RowKit

theorem op_size {s : ByteArray} (h : ¬ s.size = 1) : Lat.opB s = false := by
  unfold Lat.opB
  have : Lat.indexI Lat.opS s = -1 := by
    unfold Lat.indexI
    rw [Lat.find_none (p := Lat.isAt Lat.opS s) (fun c hc => ?_)]
    have hc' : c < 5 := hc
    unfold Lat.isAt
    rw [beq_eq_false_iff_ne]
    intro e
    rw [ByteArray.toList_eq, ByteArray.toList_eq] at e
    have e2 := congrArg List.length e
    rw [size_list, size_list] at e2
    apply h
    rw [e2]
    obtain rfl | rfl | rfl | rfl | rfl : c = 0 ∨ c = 1 ∨ c = 2 ∨ c = 3 ∨ c = 4 := by omega
    all_goals rfl
  rw [this]; rfl
theorem op_table : ∀ c : Fin 256, decide (0 ≤ Lib.indexByte [43, 45, 42, 60, 61] (UInt8.ofFin c)) = Lat.opB ⟨#[UInt8.ofFin c]⟩ := by
  decide +kernel
theorem op_one (c : UInt8) : decide (0 ≤ Lib.indexByte [43, 45, 42, 60, 61] c) = Lat.opB ⟨#[c]⟩ := op_table c.toFin
theorem one_byte {s : ByteArray} (h : s.size = 1) : ∃ c, s = ⟨#[c]⟩ := by
  obtain ⟨⟨l⟩⟩ := s
  match l, h with
  | [c], _ => exact ⟨c, rfl⟩

theorem isOperator_any (w : World) (s : ByteArray) (hs : s.size ≤ maxLen) :
    Calls Tryz.prog 74 #[.string s] w fun e w' => e = .returned (.bool (Lat.opB s)) ∧ w' = w := by
  unfold maxLen at hs
  by_cases h1 : s.size = 1
  · obtain ⟨c, rfl⟩ := one_byte h1
    clear h1
    have h1' : (((⟨#[c]⟩ : ByteArray).size : Int) == 1) = true := rfl
    have HO := hide (op_one c)
    go_enter Tryz.func74, Tryz.ntmps74
    go_wp2_with fail
    refine (Tryz.strings_Contains_one _ c _).mono ?_
    rintro e w' ⟨rfl, hw⟩
    subst hw
    rw [show decide (0 ≤ Lib.indexByte (⟨#[43, 45, 42, 60, 61]⟩ : ByteArray).data.toList c) = Lat.opB ⟨#[c]⟩ from HO.out]
    go_wp2
    go_ret
    exact ⟨rfl, rfl⟩
  · have h1' : ((s.size : Int) == 1) = false := by simp; omega
    have HO := hide (op_size h1)
    clear h1
    go_enter Tryz.func74, Tryz.ntmps74
    go_wp2
    go_ret
    exact ⟨ret_bool HO.out.symm, rfl⟩

theorem dot_index (s : ByteArray) : Lib.indexByte s.data.toList 46 = match Lat.dotAt s with | some i => (i : Int) | none => -1 := by
  have hge := Lib.indexByte_ge s.data.toList 46
  by_cases h : Lib.indexByte s.data.toList 46 = -1
  · have hn := Lib.indexByte_none h
    have : Lat.dotAt s = none := Lat.find_none (fun d hd => by
      have hd' : d < s.data.toList.length := hd
      have h' := hn d
      rw [List.getD, List.getElem?_eq_getElem hd']
      rw [List.getElem?_eq_getElem hd'] at h'
      simpa using h')
    rw [h, this]
  · obtain ⟨o, ho⟩ : ∃ o : Nat, Lib.indexByte s.data.toList 46 = o := ⟨(Lib.indexByte s.data.toList 46).toNat, by omega⟩
    obtain ⟨h1, h2⟩ := Lib.indexByte_some ho
    have ho' : o < s.size := (List.getElem?_eq_some_iff.1 h1).1
    have : Lat.dotAt s = some o := Lat.find_hit ho' (fun c hc => by
      have hc' : c < s.data.toList.length := Nat.lt_trans hc ho'
      have h' := h2 c hc
      rw [List.getD, List.getElem?_eq_getElem hc']
      rw [List.getElem?_eq_getElem hc'] at h'
      simpa using h') (by rw [List.getD, h1]; rfl)
    rw [ho, this]

theorem dotAt_lt {s : ByteArray} {k : Nat} (h : Lat.dotAt s = some k) : k < s.size := (Lat.find_spec h).1

set_option maxHeartbeats 1000000 in
theorem lcut_any (w : World) (s : ByteArray) (hs : s.size ≤ maxLen) :
    Calls Tryz.prog 99 #[.string s, .string ⟨#[46]⟩] w fun e w' => e = .returned (.tuple #[.string (Lat.preS s), .string (Lat.sufS s), .bool (Lat.dotAt s).isSome]) ∧ Below w.heap.size w w' := by
  unfold maxLen at hs
  have HI := hide (dot_index s)
  cases hd : Lat.dotAt s
  · rw [hd] at HI
    have HD := hide hd
    clear hd
    go_enter Tryz.func99, Tryz.ntmps99
    go_wp2_with fail
    refine (Tryz.stringslite_Index_one s 46 _).mono ?_
    rintro e w' ⟨rfl, hw⟩
    subst hw
    rw [HI.out]
    go_wp2
    go_ret3
    exact ⟨by simp [Lat.preS, Lat.sufS, HD.out], Below.refl _ _⟩
  · rename_i k
    rw [hd] at HI
    have hk := dotAt_lt hd
    have HD := hide hd
    have b1 : (0 : Int) ≤ (k : Int) := by omega
    have b2 : (k : Int) ≤ (s.size : Int) := by omega
    have b3 : (k : Int) + 1 ≤ (s.size : Int) := by omega
    clear hd
    go_enter Tryz.func99, Tryz.ntmps99
    go_wp2_with fail
    refine (Tryz.stringslite_Index_one s 46 _).mono ?_
    rintro e w' ⟨rfl, hw⟩
    subst hw
    rw [HI.out]
    go_wp2_with fail
    go_quiet (fail)
    go_wp2
    go_ret3
    exact ⟨by simp [Lat.preS, Lat.sufS, HD.out], drewBelow (Below.refl _ _) _⟩

theorem cut_any (w : World) (s : ByteArray) (hs : s.size ≤ maxLen) :
    Calls Tryz.prog 88 #[.string s, .string ⟨#[46]⟩] w fun e w' => e = .returned (.tuple #[.string (Lat.preS s), .string (Lat.sufS s), .bool (Lat.dotAt s).isSome]) ∧ Below w.heap.size w w' := by
  have HC := hide (lcut_any w s hs)
  generalize Lat.preS s = pre at *
  generalize Lat.sufS s = suf at *
  generalize (Lat.dotAt s).isSome = dot at *
  go_enter Tryz.func88, Tryz.ntmps88
  go_wp2_with fail
  refine HC.out.mono ?_
  rintro e w1 ⟨rfl, hb1⟩
  have HB := hide hb1
  clear hb1
  go_wp2
  go_ret3
  exact ⟨rfl, HB.out⟩

theorem isCallee_any (w : World) (s : ByteArray) (hs : s.size ≤ maxLen) :
    Calls Tryz.prog 75 #[.string s] w fun e w' => e = .returned (.bool (Lat.callB s)) ∧ Below w.heap.size w w' := by
  have HC := hide (cut_any w s hs)
  have hp1 : (Lat.preS s).size ≤ maxLen := Nat.le_trans (preS_le s) hs
  have hp2 : (Lat.sufS s).size ≤ maxLen := Nat.le_trans (sufS_le s) hs
  have HE : Hid (Lat.callB s = (Lat.nameB (Lat.preS s).data.toList && (!(Lat.dotAt s).isSome || Lat.nameB (Lat.sufS s).data.toList))) := rfl
  generalize Lat.preS s = pre at *
  generalize Lat.sufS s = suf at *
  generalize (Lat.dotAt s).isSome = dot at *
  go_enter Tryz.func75, Tryz.ntmps75
  go_wp2_with fail
  refine HC.out.mono ?_
  rintro e w1 ⟨rfl, hb1⟩
  have HB := hide hb1
  clear hb1
  go_wp2_with fail
  refine (isName_any _ pre hp1).mono ?_
  rintro e w' ⟨rfl, hw⟩
  subst hw
  cases hb : Lat.nameB pre.data.toList
  · have HB1 := hide hb
    go_wp2
    go_ret
    exact ⟨ret_bool (by rw [HE.out, HB1.out]; rfl), HB.out⟩
  · have HB1 := hide hb
    cases dot
    · go_wp2
      go_ret
      exact ⟨ret_bool (by rw [HE.out, HB1.out]; rfl), HB.out⟩
    · go_wp2_with fail
      refine (isName_any _ suf hp2).mono ?_
      rintro e w' ⟨rfl, hw⟩
      subst hw
      generalize Lat.nameB suf.data.toList = b2 at *
      go_wp2
      go_ret
      exact ⟨ret_bool (by rw [HE.out, HB1.out]; simp), HB.out⟩

end Go.Proofs.YthcckfofpocbhabGreatDoor

/- Walks over package tree: hasParts, isExpr. -/
namespace Go.Proofs.YthcckfofpocbhabGreatDoor
open Go.RowKit

namespace Lat
/-- The expression itself, without its arguments. -/
def partsB (x : Ex) : Bool :=
  if x.kind = 1 then decide (0 ≤ x.n) && decide (x.n ≤ 999999) && x.name.toList.isEmpty && (x.args.length == 0)
  else if x.kind = 2 then nameB x.name.data.toList && (x.n == 0) && (x.args.length == 0)
  else if x.kind = 3 then opB x.name && (x.n == 0) && (x.args.length == 2)
  else if x.kind = 4 then callB x.name && (x.n == 0) && decide (x.args.length ≤ 4)
  else false
end Lat

theorem exprB_parts (m : Nat) (x : Ex) : Lat.exprB (m + 1) x = (Lat.partsB x && x.args.all (Lat.exprB m)) := by
  obtain ⟨k, n, s, args⟩ := x
  simp only [Lat.exprB, Lat.partsB]
  by_cases h1 : k = 1
  · rw [if_pos h1, if_pos h1]
    cases args with
    | nil => simp
    | cons a l => simp
  rw [if_neg h1, if_neg h1]
  by_cases h2 : k = 2
  · rw [if_pos h2, if_pos h2]
    cases args with
    | nil => simp [Bool.and_comm]
    | cons a l => simp
  rw [if_neg h2, if_neg h2]
  by_cases h3 : k = 3
  · rw [if_pos h3, if_pos h3]
    simp only [Bool.and_assoc]
    rw [← Bool.and_assoc, ← Bool.and_assoc (Lat.opB s), Bool.and_comm (n == 0)]
  rw [if_neg h3, if_neg h3]
  by_cases h4 : k = 4
  · rw [if_pos h4, if_pos h4]
    simp only [Bool.and_assoc]
    rw [← Bool.and_assoc, ← Bool.and_assoc (Lat.callB s), Bool.and_comm (n == 0)]
  rw [if_neg h4, if_neg h4]; rfl

set_option maxHeartbeats 2000000 in
set_option maxRecDepth 100000 in
theorem hasParts_any (w : World) (k n : Int) (s : ByteArray) (a : Option Addr) (args : List Ex) (cap : Nat) (hs : s.size ≤ maxLen) (hl : args.length ≤ 9223372036854775807) :
    Calls Tryz.prog 59 #[.agg #[.int .i64 k, .int .i64 n, .string s, .slice a args.length cap]] w fun e w' => e = .returned (.bool (Lat.partsB ⟨k, n, s, args⟩)) ∧ Below w.heap.size w w' := by
  have HP : Hid (Lat.partsB ⟨k, n, s, args⟩ = if k = 1 then decide (0 ≤ n) && decide (n ≤ 999999) && s.toList.isEmpty && (args.length == 0)
      else if k = 2 then Lat.nameB s.data.toList && (n == 0) && (args.length == 0)
      else if k = 3 then Lat.opB s && (n == 0) && (args.length == 2)
      else if k = 4 then Lat.callB s && (n == 0) && decide (args.length ≤ 4)
      else false) := rfl
  generalize Lat.partsB ⟨k, n, s, args⟩ = R at *
  generalize args.length = len at *
  clear args
  by_cases h1 : k = 1
  · subst h1
    rw [if_pos rfl] at HP
    by_cases hn0 : 0 ≤ n
    · rw [decide_eq_true hn0, Bool.true_and] at HP
      by_cases hn1 : n ≤ 999999
      · rw [decide_eq_true hn1, Bool.true_and] at HP
        cases hb2 : s.toList.isEmpty
        · rw [hb2] at HP
          go_enter Tryz.func59, Tryz.ntmps59
          go_wp2
          go_ret
          exact ⟨ret_bool (by rw [HP.out]; rfl), boxBelow _ _⟩
        · rw [hb2, Bool.true_and] at HP
          go_enter Tryz.func59, Tryz.ntmps59
          go_wp2
          go_ret
          exact ⟨ret_bool (by rw [HP.out]; exact nat_beq len 0), boxBelow _ _⟩
      · rw [decide_eq_false hn1] at HP
        go_enter Tryz.func59, Tryz.ntmps59
        go_wp2
        go_ret
        exact ⟨ret_bool (by rw [HP.out]; rfl), boxBelow _ _⟩
    · rw [decide_eq_false hn0] at HP
      go_enter Tryz.func59, Tryz.ntmps59
      go_wp2
      go_ret
      exact ⟨ret_bool (by rw [HP.out]; rfl), boxBelow _ _⟩
  rw [if_neg h1] at HP
  by_cases h2 : k = 2
  · subst h2
    rw [if_pos rfl] at HP
    clear h1
    go_enter Tryz.func59, Tryz.ntmps59
    go_wp2_with fail
    refine (isName_any _ s hs).mono ?_
    rintro e w' ⟨rfl, hw⟩
    subst hw
    cases hb : Lat.nameB s.data.toList
    · rw [hb] at HP
      go_wp2
      go_ret
      exact ⟨ret_bool (by rw [HP.out]; rfl), boxBelow _ _⟩
    · rw [hb, Bool.true_and] at HP
      cases hn : (n == 0)
      · rw [hn] at HP
        go_wp2
        go_ret
        exact ⟨ret_bool (by rw [HP.out]; rfl), boxBelow _ _⟩
      · rw [hn, Bool.true_and] at HP
        go_wp2
        go_ret
        exact ⟨ret_bool (by rw [HP.out]; exact nat_beq len 0), boxBelow _ _⟩
  rw [if_neg h2] at HP
  by_cases h3 : k = 3
  · subst h3
    rw [if_pos rfl] at HP
    clear h1 h2
    go_enter Tryz.func59, Tryz.ntmps59
    go_wp2_with fail
    refine (isOperator_any _ s hs).mono ?_
    rintro e w' ⟨rfl, hw⟩
    subst hw
    cases hb : Lat.opB s
    · rw [hb] at HP
      go_wp2
      go_ret
      exact ⟨ret_bool (by rw [HP.out]; rfl), boxBelow _ _⟩
    · rw [hb, Bool.true_and] at HP
      cases hn : (n == 0)
      · rw [hn] at HP
        go_wp2
        go_ret
        exact ⟨ret_bool (by rw [HP.out]; rfl), boxBelow _ _⟩
      · rw [hn, Bool.true_and] at HP
        go_wp2
        go_ret
        exact ⟨ret_bool (by rw [HP.out]; exact nat_beq len 2), boxBelow _ _⟩
  rw [if_neg h3] at HP
  by_cases h4 : k = 4
  · subst h4
    rw [if_pos rfl] at HP
    clear h1 h2 h3
    have q1 : (w.alloc (.cells #[.int .i64 4, .int .i64 n, .string s, .slice a len cap] 52)).cell? ⟨w.heap.size, 1, none⟩ = some (.int .i64 n) := by simp [go_sem]
    have q3 := boxCells4 w (.int .i64 4) (.int .i64 n) (.string s) (.slice a len cap) 52
    go_enter Tryz.func59, Tryz.ntmps59
    go_wp2_with fail
    refine (isCallee_any _ s hs).mono ?_
    rintro e w1 ⟨rfl, hb1⟩
    have p1 := cellUp q1 hb1
    have p3 := cellUp q3 hb1
    have HB := hide (up1 hb1)
    clear q1 q3 hb1
    cases hb : Lat.callB s
    · rw [hb] at HP
      go_wp2
      go_ret
      exact ⟨ret_bool (by rw [HP.out]; rfl), HB.out⟩
    · rw [hb, Bool.true_and] at HP
      cases hn : (n == 0)
      · rw [hn] at HP
        go_wp2
        go_ret
        exact ⟨ret_bool (by rw [HP.out]; rfl), HB.out⟩
      · rw [hn, Bool.true_and] at HP
        go_wp2
        go_ret
        exact ⟨ret_bool (by rw [HP.out]; exact decide_eq_decide.2 (by omega)), HB.out⟩
  rw [if_neg h4] at HP
  have k1 : (k == 1) = false := by simp [h1]
  have k2 : (k == 2) = false := by simp [h2]
  have k3 : (k == 3) = false := by simp [h3]
  have k4 : (k == 4) = false := by simp [h4]
  clear h1 h2 h3 h4
  go_enter Tryz.func59, Tryz.ntmps59
  go_wp2
  go_ret
  exact ⟨ret_bool (by rw [HP.out]), boxBelow _ _⟩

set_option maxHeartbeats 2000000 in
set_option maxRecDepth 100000 in
theorem isExpr_any (m : Nat) : ∀ (w : World) (c0 c1 c2 c3 : Value) (x : Ex), ExAt w m c0 c1 c2 c3 x →
    Calls Tryz.prog 44 #[.agg #[c0, c1, c2, c3]] w fun e w' => e = .returned (.bool (Lat.exprB m x)) ∧ Below w.heap.size w w' := by
  induction m with
  | zero => intro w c0 c1 c2 c3 x h; exact False.elim h
  | succ m ih =>
    intro w c0 c1 c2 c3 x h
    have HI := hide ih
    clear ih
    obtain ⟨rfl, rfl, rfl, hsz, hk1, hk2, a, b, off, cap, rfl, ha, hl, hel⟩ := h
    obtain ⟨k, n, s, args⟩ := x
    simp only at hsz hk1 hk2 ha hl hel ⊢
    have HE := hide (exprB_parts m ⟨k, n, s, args⟩)
    have HPC := hide (fun w => hasParts_any w k n s a args cap hsz hl)
    have HEL := hide hel
    have HA := hide ha
    clear hel ha
    generalize Lat.partsB ⟨k, n, s, args⟩ = pb at *
    obtain ⟨len, hlen⟩ : ∃ len, len = args.length := ⟨_, rfl⟩
    have HL := hide hlen
    rw [← hlen] at hl HA HPC ⊢
    clear hlen
    have q3 := boxCells4 w (.int .i64 k) (.int .i64 n) (.string s) (.slice a len cap) 52
    go_enter Tryz.func44, Tryz.ntmps44
    go_wp2_with fail
    refine (HPC.out _).mono ?_
    rintro e W0 ⟨rfl, hb1⟩
    replace q3 := cellUp q3 hb1
    have HB0 := hide (up1 hb1)
    clear hb1
    cases pb
    · go_wp2
      go_ret
      exact ⟨ret_bool (by rw [HE.out]; rfl), HB0.out⟩
    · go_wp2
      go_loopw [11] (fun i wr => ∃ j : Nat, j ≤ len ∧ i = .int .i64 j ∧ (∀ d y, d < j → args[d]? = some y → Lat.exprB m y = true) ∧ Below W0.heap.size W0 wr) (fun i _ => len - (intOf i).toNat)
      case atStart => exact ⟨0, Nat.zero_le _, rfl, fun d y hd => absurd hd (Nat.not_lt_zero _), Below.refl _ _⟩
      case round =>
        obtain ⟨j, hj, rfl, hall, hnx⟩ := hrel
        have HALL := hide hall
        clear hall
        by_cases hjl : j < len
        · obtain ⟨y, hy⟩ : ∃ y, args[j]? = some y := ⟨_, List.getElem?_eq_getElem (by rw [← HL.out]; exact hjl)⟩
          obtain ⟨e0, e1, e2, e3, g0, g1, g2, g3, hye⟩ := HEL.out j y hy
          have HY := hide hy
          obtain rfl := HA.out (by omega)
          have hbb := up HB0.out hnx
          have u0 := cellUp g0 hbb
          have u1 := cellUp g1 hbb
          have u2' := cellUp g2 hbb
          have u3' := cellUp g3 hbb
          have HYE := hide (hye.below hbb)
          obtain ⟨a', cap', rfl, rfl, rfl, rfl⟩ := hye.shape
          have HNX := hide hnx
          clear g0 g1 g2 g3 hye hy hbb hnx
          go_wp2_with fail
          refine (HI.out _ _ _ _ _ y (HYE.out.below (boxBelow _ _))).mono ?_
          rintro e w5 ⟨rfl, hb5⟩
          have HN5 := hide (up HNX.out (up1 hb5))
          clear hb5 HNX
          cases hyb : Lat.exprB m y
          · have HYB := hide hyb
            go_wp2
            go_ret
            exact ⟨ret_bool (by rw [HE.out, all_not? HY.out HYB.out]; rfl), up HB0.out HN5.out⟩
          · have HYB := hide hyb
            go_wp2
            go_roundw
            case rel => exact ⟨j + 1, by omega, by go_num, fun d z hd hz => by
                by_cases e : d = j
                · subst e
                  rw [HY.out] at hz
                  cases hz
                  exact HYB.out
                · exact HALL.out d z (by omega) hz, HN5.out⟩
            case measure => simp [intOf]; omega
        · go_wp2
          go_ret
          have hall : args.all (Lat.exprB m) = true := all_get? (fun d z hz => HALL.out d z (by
            have := (List.getElem?_eq_some_iff.1 hz).1
            have := HL.out
            omega) hz)
          exact ⟨ret_bool (by rw [HE.out, hall]; rfl), up HB0.out hnx⟩

end Go.Proofs.YthcckfofpocbhabGreatDoor

/- Walks over package tree: hasShape, isCommand, areCommands. -/
namespace Go.Proofs.YthcckfofpocbhabGreatDoor
open Go.RowKit

set_option maxHeartbeats 2000000 in
set_option maxRecDepth 100000 in
theorem hasShape_any (w : World) (k : Int) (nm : ByteArray) (ke ne : Int) (se : ByteArray) (ae : Option Addr) (le ce : Nat) (a1 a2 : Option Addr) (l1 l2 c1 c2 : Nat) (R : Bool)
    (hR : R = if k = 1 ∨ k = 4 then Lat.nameB nm.data.toList && (l2 == 0) && (l1 == 0) else if k = 2 then nm.toList.isEmpty else if k = 3 then nm.toList.isEmpty && (l2 == 0) else false)
    (hs : nm.size ≤ maxLen) (_h1 : l1 ≤ 9223372036854775807) (_h2 : l2 ≤ 9223372036854775807) :
    Calls Tryz.prog 73 #[.agg #[.int .i64 k, .string nm, .int .i64 ke, .int .i64 ne, .string se, .slice ae le ce, .slice a1 l1 c1, .slice a2 l2 c2]] w fun e w' => e = .returned (.bool R) ∧ Below w.heap.size w w' := by
  have HP := hide hR
  clear hR
  by_cases k14 : k = 1 ∨ k = 4
  · rw [if_pos k14] at HP
    rcases k14 with rfl | rfl
    all_goals
      go_enter Tryz.func73, Tryz.ntmps73
      go_wp2_with fail
      refine (isName_any _ nm hs).mono ?_
      rintro e w' ⟨rfl, hw⟩
      subst hw
      cases hb : Lat.nameB nm.data.toList
      · rw [hb] at HP
        go_wp2
        go_ret
        exact ⟨ret_bool (by rw [HP.out]; rfl), boxBelow _ _⟩
      · rw [hb, Bool.true_and] at HP
        by_cases hl1 : l1 = 0
        · have hl1' : ((l1 : Int) == 0) = true := by simp [hl1]
          rw [show (l1 == 0) = true from by simp [hl1], Bool.and_true] at HP
          clear hl1
          go_wp2
          go_ret
          exact ⟨ret_bool (by rw [HP.out]; exact nat_beq l2 0), boxBelow _ _⟩
        · have hl1' : ((l1 : Int) == 0) = false := by simp [hl1]
          rw [show (l1 == 0) = false from by simp [hl1], Bool.and_false] at HP
          clear hl1
          go_wp2
          go_ret
          exact ⟨ret_bool (by rw [HP.out]), boxBelow _ _⟩
  rw [if_neg k14] at HP
  have n1 : (k == 1) = false := by simp; omega
  have n4 : (k == 4) = false := by simp; omega
  by_cases k2 : k = 2
  · subst k2
    rw [if_pos rfl] at HP
    clear k14 n1 n4
    generalize hb : nm.toList.isEmpty = b2 at *
    have HB := hide hb
    cases b2
    all_goals
      go_enter Tryz.func73, Tryz.ntmps73
      go_wp2
      go_ret
      exact ⟨ret_bool (by rw [HP.out]), boxBelow _ _⟩
  rw [if_neg k2] at HP
  have n2 : (k == 2) = false := by simp; omega
  by_cases k3 : k = 3
  · subst k3
    rw [if_pos rfl] at HP
    clear k14 k2 n1 n2 n4
    cases hb : nm.toList.isEmpty
    · rw [hb] at HP
      go_enter Tryz.func73, Tryz.ntmps73
      go_wp2
      go_ret
      exact ⟨ret_bool (by rw [HP.out]; rfl), boxBelow _ _⟩
    · rw [hb, Bool.true_and] at HP
      go_enter Tryz.func73, Tryz.ntmps73
      go_wp2
      go_ret
      exact ⟨ret_bool (by rw [HP.out]; exact nat_beq l2 0), boxBelow _ _⟩
  rw [if_neg k3] at HP
  have n3 : (k == 3) = false := by simp; omega
  clear k14 k2 k3
  go_enter Tryz.func73, Tryz.ntmps73
  go_wp2
  go_ret
  exact ⟨ret_bool (by rw [HP.out]), boxBelow _ _⟩

/-- The eight values are the command s. -/
def StAt (w : World) (m : Nat) (e0 e1 e2 e3 va vb : Value) (s : St) : Prop :=
  I64 s.kind ∧ s.name.size ≤ maxLen ∧ ExAt w m e0 e1 e2 e3 s.e ∧ StsAt w m va s.a ∧ StsAt w m vb s.b
theorem StAt.below {w w' : World} {m : Nat} {e0 e1 e2 e3 va vb : Value} {s : St} (h : StAt w m e0 e1 e2 e3 va vb s) (hb : Below w.heap.size w w') : StAt w' m e0 e1 e2 e3 va vb s :=
  ⟨h.1, h.2.1, h.2.2.1.below hb, h.2.2.2.1.below hb, h.2.2.2.2.below hb⟩

section
variable (w : World) (c0 c1 c2 c3 c4 c5 c6 c7 : Value) (t : TypeId)
theorem box8_0 : (w.alloc (.cells #[c0, c1, c2, c3, c4, c5, c6, c7] t)).cell? ⟨w.heap.size, 0, none⟩ = some c0 := by simp [go_sem]
theorem box8_1 : (w.alloc (.cells #[c0, c1, c2, c3, c4, c5, c6, c7] t)).cell? ⟨w.heap.size, 1, none⟩ = some c1 := by simp [go_sem]
theorem box8_2 : (w.alloc (.cells #[c0, c1, c2, c3, c4, c5, c6, c7] t)).cell? ⟨w.heap.size, 2, none⟩ = some c2 := by simp [go_sem]
theorem box8_3 : (w.alloc (.cells #[c0, c1, c2, c3, c4, c5, c6, c7] t)).cell? ⟨w.heap.size, 3, none⟩ = some c3 := by simp [go_sem]
theorem box8_4 : (w.alloc (.cells #[c0, c1, c2, c3, c4, c5, c6, c7] t)).cell? ⟨w.heap.size, 4, none⟩ = some c4 := by simp [go_sem]
theorem box8_5 : (w.alloc (.cells #[c0, c1, c2, c3, c4, c5, c6, c7] t)).cell? ⟨w.heap.size, 5, none⟩ = some c5 := by simp [go_sem]
end

set_option maxHeartbeats 2000000 in
set_option maxRecDepth 100000 in
theorem isCommand_of (m : Nat) (hi : ∀ (w : World) (v : Value) (l : List St), StsAt w m v l → Calls Tryz.prog 43 #[v] w fun e w' => e = .returned (.bool (Lat.bodyB m l)) ∧ Below w.heap.size w w')
    (w : World) (e0 e1 e2 e3 va vb : Value) (s : St) (h : StAt w m e0 e1 e2 e3 va vb s) :
    Calls Tryz.prog 58 #[.agg #[.int .i64 s.kind, .string s.name, e0, e1, e2, e3, va, vb]] w fun e w' => e = .returned (.bool (Lat.stB m s)) ∧ Below w.heap.size w w' := by
  have HI := hide hi
  clear hi
  have HS := hide h
  obtain ⟨_, hnm, hx, hsa, hsb⟩ := h
  obtain ⟨ae, ce, rfl, rfl, rfl, rfl⟩ := hx.shape
  obtain ⟨a1, cap1, rfl, hl1⟩ := hsa.shape
  obtain ⟨a2, cap2, rfl, hl2⟩ := hsb.shape
  clear hx hsa hsb
  have HE : Hid (Lat.stB m s = (Lat.stH s && Lat.exprB m s.e && Lat.bodyB m s.a && Lat.bodyB m s.b)) := rfl
  have HSH := hide (fun w => hasShape_any w s.kind s.name s.e.kind s.e.n s.e.name ae s.e.args.length ce a1 a2 s.a.length s.b.length cap1 cap2 (Lat.stH s) rfl hnm hl1 hl2)
  generalize s.e.args.length = le at *
  generalize s.a.length = l1 at *
  generalize s.b.length = l2 at *
  have q2 := box8_2 w (.int .i64 s.kind) (.string s.name) (.int .i64 s.e.kind) (.int .i64 s.e.n) (.string s.e.name) (.slice ae le ce) (.slice a1 l1 cap1) (.slice a2 l2 cap2) 78
  have q3 := box8_3 w (.int .i64 s.kind) (.string s.name) (.int .i64 s.e.kind) (.int .i64 s.e.n) (.string s.e.name) (.slice ae le ce) (.slice a1 l1 cap1) (.slice a2 l2 cap2) 78
  have q4 := box8_4 w (.int .i64 s.kind) (.string s.name) (.int .i64 s.e.kind) (.int .i64 s.e.n) (.string s.e.name) (.slice ae le ce) (.slice a1 l1 cap1) (.slice a2 l2 cap2) 78
  have q5 := box8_5 w (.int .i64 s.kind) (.string s.name) (.int .i64 s.e.kind) (.int .i64 s.e.n) (.string s.e.name) (.slice ae le ce) (.slice a1 l1 cap1) (.slice a2 l2 cap2) 78
  have q6 := boxCells86 w (.int .i64 s.kind) (.string s.name) (.int .i64 s.e.kind) (.int .i64 s.e.n) (.string s.e.name) (.slice ae le ce) (.slice a1 l1 cap1) (.slice a2 l2 cap2) 78
  have q7 := boxCells87 w (.int .i64 s.kind) (.string s.name) (.int .i64 s.e.kind) (.int .i64 s.e.n) (.string s.e.name) (.slice ae le ce) (.slice a1 l1 cap1) (.slice a2 l2 cap2) 78
  go_enter Tryz.func58, Tryz.ntmps58
  go_wp2_with fail
  refine (HSH.out _).mono ?_
  rintro e w1 ⟨rfl, hb1⟩
  replace q2 := cellUp q2 hb1
  replace q3 := cellUp q3 hb1
  replace q4 := cellUp q4 hb1
  replace q5 := cellUp q5 hb1
  replace q6 := cellUp q6 hb1
  replace q7 := cellUp q7 hb1
  have HB1 := hide (up1 hb1)
  clear hb1 HSH
  generalize Lat.stH s = sh at *
  cases sh
  · go_wp2
    go_ret
    exact ⟨ret_bool (by rw [HE.out]; rfl), HB1.out⟩
  go_wp2_with fail
  refine (isExpr_any m _ _ _ _ _ s.e (HS.out.below HB1.out).2.2.1).mono ?_
  rintro e w2 ⟨rfl, hb2⟩
  replace q6 := cellUp q6 hb2
  replace q7 := cellUp q7 hb2
  have HB2 := hide (up HB1.out hb2)
  clear hb2 q2 q3 q4 q5
  generalize Lat.exprB m s.e = xb at *
  cases xb
  · go_wp2
    go_ret
    exact ⟨ret_bool (by rw [HE.out]; rfl), HB2.out⟩
  go_wp2_with fail
  refine (HI.out _ _ s.a (HS.out.below HB2.out).2.2.2.1).mono ?_
  rintro e w3 ⟨rfl, hb3⟩
  replace q7 := cellUp q7 hb3
  have HB3 := hide (up HB2.out hb3)
  clear hb3 q6
  generalize Lat.bodyB m s.a = ab at *
  cases ab
  · go_wp2
    go_ret
    exact ⟨ret_bool (by rw [HE.out]; rfl), HB3.out⟩
  go_wp2_with fail
  refine (HI.out _ _ s.b (HS.out.below HB3.out).2.2.2.2).mono ?_
  rintro e w4 ⟨rfl, hb4⟩
  have HB4 := hide (up HB3.out hb4)
  clear hb4 q7
  generalize Lat.bodyB m s.b = bb at *
  go_wp2
  go_ret
  exact ⟨ret_bool (by rw [HE.out]; cases bb <;> rfl), HB4.out⟩

set_option maxHeartbeats 2000000 in
set_option maxRecDepth 100000 in
theorem areCommands_any (m : Nat) : ∀ (w : World) (v : Value) (l : List St), StsAt w m v l →
    Calls Tryz.prog 43 #[v] w fun e w' => e = .returned (.bool (Lat.bodyB m l)) ∧ Below w.heap.size w w' := by
  induction m with
  | zero => intro w v l h; exact False.elim h
  | succ m ih =>
    intro w v l h
    have HI := hide (isCommand_of m ih)
    clear ih
    obtain ⟨a, b, off, cap, rfl, ha, hl, hel⟩ := h
    have HE := hide (Lat.bodyB_succ m l)
    have HEL := hide hel
    have HA := hide ha
    clear hel ha
    obtain ⟨len, hlen⟩ : ∃ len, len = l.length := ⟨_, rfl⟩
    have HL := hide hlen
    rw [← hlen] at hl HA ⊢
    clear hlen
    go_enter Tryz.func43, Tryz.ntmps43
    go_wp2
    go_loopw [7] (fun i wr => ∃ j : Nat, j ≤ len ∧ i = .int .i64 j ∧ (∀ d y, d < j → l[d]? = some y → Lat.stB m y = true) ∧ Below w.heap.size w wr) (fun i _ => len - (intOf i).toNat)
    case atStart => exact ⟨0, Nat.zero_le _, rfl, fun d y hd => absurd hd (Nat.not_lt_zero _), Below.refl _ _⟩
    case round =>
      obtain ⟨j, hj, rfl, hall, hnx⟩ := hrel
      have HALL := hide hall
      clear hall
      by_cases hjl : j < len
      · obtain ⟨y, hy⟩ : ∃ y, l[j]? = some y := ⟨_, List.getElem?_eq_getElem (by rw [← HL.out]; exact hjl)⟩
        obtain ⟨k1, k2, e0, e1, e2, e3, va, vb, g0, g1, g2, g3, g4, g5, g6, g7, hx, hsa, hsb⟩ := HEL.out j y hy
        have HY := hide hy
        obtain rfl := HA.out (by omega)
        have u0 := cellUp g0 hnx
        have u1 := cellUp g1 hnx
        have u2' := cellUp g2 hnx
        have u3' := cellUp g3 hnx
        have u4 := cellUp g4 hnx
        have u5 := cellUp g5 hnx
        have u6 := cellUp g6 hnx
        have u7 := cellUp g7 hnx
        have HST : Hid (StAt wr m e0 e1 e2 e3 va vb y) := hide ⟨k1, k2, hx.below hnx, hsa.below hnx, hsb.below hnx⟩
        obtain ⟨ae, ce, rfl, rfl, rfl, rfl⟩ := hx.shape
        obtain ⟨a1, cap1, rfl, hl1⟩ := hsa.shape
        obtain ⟨a2, cap2, rfl, hl2⟩ := hsb.shape
        have HNX := hide hnx
        clear g0 g1 g2 g3 g4 g5 g6 g7 hx hsa hsb hy hnx
        go_wp2_with fail
        refine (HI.out _ _ _ _ _ _ _ y (HST.out.below (boxBelow _ _))).mono ?_
        rintro e w5 ⟨rfl, hb5⟩
        have HN5 := hide (up HNX.out (up1 hb5))
        clear hb5 HNX
        cases hyb : Lat.stB m y
        · have HYB := hide hyb
          go_wp2
          go_ret
          exact ⟨ret_bool (by rw [HE.out, sts_not? HY.out HYB.out]), HN5.out⟩
        · have HYB := hide hyb
          go_wp2
          go_roundw
          case rel => exact ⟨j + 1, by omega, by go_num, fun d z hd hz => by
              by_cases e : d = j
              · subst e
                rw [HY.out] at hz
                cases hz
                exact HYB.out
              · exact HALL.out d z (by omega) hz, HN5.out⟩
          case measure => simp [intOf]; omega
      · go_wp2
        go_ret
        have hall : l.all (Lat.stB m) = true := sts_get? (fun d z hz => HALL.out d z (by
          have := (List.getElem?_eq_some_iff.1 hz).1
          have := HL.out
          omega) hz)
        exact ⟨ret_bool (by rw [HE.out, hall]), hnx⟩

end Go.Proofs.YthcckfofpocbhabGreatDoor
