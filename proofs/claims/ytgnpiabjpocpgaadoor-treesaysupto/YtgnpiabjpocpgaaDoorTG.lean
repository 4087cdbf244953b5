/- Walks over package downref: exprText: the text of an expression. -/
import Derived.Test.YtgnpiabjpocpgaaDoorTF
import Derived.Test.YtgnpiabjpocpgaaDoorShelf
import Derived.Lib.SmallJoins
import Derived.Lib.AppendIntMem
import Derived.Lib.ItoaLen
import Derived.Test.YtgnpiabjpocpgaaDoorTW
namespace Go.Proofs.YtgnpiabjpocpgaaDoor
open Go.RowKit

/-- The library's table of powers of ten lies as its initialiser lays it. -/
def Tab (w : World) : Prop := Lib.TabIs Tryd.prog w "internal/strconv.uint64pow10" .u64 Lib.pow10Tab

theorem tabNamed : (Tryd.prog.globalNamed "internal/strconv.uint64pow10").isSome = true := by kernel_rfl
theorem Tab.below {w w' : World} (h : Tab w) (hb : Below w.heap.size w w') : Tab w' := by
  obtain ⟨g, hg⟩ := Option.isSome_iff_exists.1 tabNamed
  exact Joins.tab_stays hg h hb (Nat.le_refl _)

theorem itoa_any (w : World) (n : Int) (hn : I64 n) (ht : Tab w) :
    Calls Tryd.prog 22 #[.int .i64 n] w fun e w' => e = .returned (.string ⟨(Lib.itoa n).toArray⟩) ∧ Below w.heap.size w w' := by
  refine (Tryd.strconv_Itoa n hn.1 hn.2 w ht).mono ?_
  rintro e w' ⟨rfl, k, os, rfl⟩
  exact ⟨rfl, Lib.below_grow _ _ (Nat.le_refl _) _ _⟩

namespace Lat
/-- One argument more, behind what there is. -/
def exStep (t : Ex → ByteArray) (acc : ByteArray) (y : Ex) : ByteArray := acc ++ ((⟨#[32]⟩ : ByteArray) ++ t y)
def exHead (x : Ex) : ByteArray := (if x.kind = 4 then (⟨#[40, 99, 97, 108, 108, 32]⟩ : ByteArray) else ⟨#[40]⟩) ++ x.name
/-- The text of an expression. -/
def exT : Nat → Ex → ByteArray
  | 0, _ => ⟨#[]⟩
  | m + 1, x => if x.kind = 1 then ⟨(Lib.itoa x.n).toArray⟩ else if x.kind = 2 then x.name else x.args.foldl (exStep (exT m)) (exHead x) ++ (⟨#[41]⟩ : ByteArray)
end Lat

theorem foldl_size {t : Ex → ByteArray} : ∀ (l : List Ex) (acc : ByteArray), (l.foldl (Lat.exStep t) acc).size = acc.size + (l.map fun y => (t y).size + 1).sum
  | [], acc => by simp
  | y :: l, acc => by
    rw [List.foldl_cons, foldl_size l]
    have e : (Lat.exStep t acc y).size = acc.size + (1 + (t y).size) := by
      unfold Lat.exStep; rw [ByteArray.size_append, ByteArray.size_append]; rfl
    rw [e, List.map_cons, List.sum_cons]; omega

theorem sum_mono {f g : Ex → Nat} : ∀ {l : List Ex}, (∀ (i : Nat) (x : Ex), l[i]? = some x → f x ≤ g x) → (l.map f).sum ≤ (l.map g).sum
  | [], _ => Nat.le_refl _
  | x :: l, h => by
    have h0 := h 0 x rfl
    have h1 := sum_mono (l := l) (fun i y hy => h (i + 1) y (by simpa using hy))
    simp only [List.map_cons, List.sum_cons]; omega
theorem sum_mul (k : Nat) (f : Ex → Nat) : ∀ l : List Ex, (l.map fun x => k * f x).sum = k * (l.map f).sum
  | [] => rfl
  | x :: l => by simp only [List.map_cons, List.sum_cons, sum_mul k f l, Nat.mul_add]

/-- A text is at most six times as long as what it tells of weighs. -/
theorem exT_size {w : World} : ∀ {m : Nat} {c0 c1 c2 c3 : Value} {x : Ex}, ExAt w m c0 c1 c2 c3 x → (Lat.exT m x).size + 1 ≤ 6 * exW m x
  | 0, _, _, _, _, _, h => False.elim h
  | m + 1, c0, c1, c2, c3, x, h => by
    obtain ⟨_, _, _, _, _, hn, a, b, off, cap, _, _, _, h9⟩ := h
    have hs : (x.args.map fun y => (Lat.exT m y).size + 1).sum ≤ 6 * (x.args.map (exW m)).sum := by
      rw [← sum_mul]
      exact sum_mono (fun i y hy => by
        obtain ⟨e0, e1, e2, e3, _, _, _, _, hx⟩ := h9 i y hy
        exact exT_size hx)
    have hh : (Lat.exHead x).size ≤ x.name.size + 6 := by
      unfold Lat.exHead
      rw [ByteArray.size_append]
      split
      · show 6 + _ ≤ _; omega
      · show 1 + _ ≤ _; omega
    simp only [Lat.exT, exW]
    split
    · have := Lib.itoa_length_le x.n hn.1 hn.2
      show (Lib.itoa x.n).toArray.size + 1 ≤ _
      rw [List.size_toArray]; omega
    · split
      · omega
      · rw [ByteArray.size_append, foldl_size]
        show _ + 1 + 1 ≤ _
        omega

theorem ret_str {a b : ByteArray} (h : a = b) : Ending.returned (.string a) = .returned (.string b) := by rw [h]

end Go.Proofs.YtgnpiabjpocpgaaDoor
