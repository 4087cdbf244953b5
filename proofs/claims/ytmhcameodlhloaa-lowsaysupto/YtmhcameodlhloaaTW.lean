/- What expressions, commands, functions and modules weigh: bounds of how long their texts are. -/
import Derived.Test.YtmhcameodlhloaaTD
namespace Go.Proofs.Ytmhcameodlhloaa
open Go.RowKit

def exW : Nat → Ex → Nat
  | 0, _ => 0
  | m + 1, x => x.name.size + 4 + (x.args.map (exW m)).sum
def stsW : Nat → List St → Nat
  | 0, _ => 0
  | m + 1, l => (l.map fun s => s.name.size + 3 + exW m s.e + stsW m s.a + stsW m s.b).sum + 1
def strsW (l : List ByteArray) : Nat := (l.map fun s => s.size + 1).sum + 1
def vasW (l : List Va) : Nat := (l.map fun s => s.name.size + s.level.size + 3).sum + 1
def fusW (m : Nat) (l : List Fu) : Nat := (l.map fun s => s.name.size + 2 + strsW s.params + stsW m s.body + exW m s.result).sum + 1
def moW (m : Nat) (x : Mo) : Nat := x.name.size + 2 + strsW x.imports + vasW x.vars + fusW m x.funs

theorem map_congr_get {α β : Type} {f g : α → β} {l : List α} (h : ∀ (i : Nat) (x : α), l[i]? = some x → f x = g x) : l.map f = l.map g :=
  List.map_congr_left fun x hx => by
    obtain ⟨i, hi, rfl⟩ := List.mem_iff_getElem.1 hx
    exact h i _ (List.getElem?_eq_getElem hi)

theorem exW_mono {w : World} : ∀ {m : Nat} {c0 c1 c2 c3 : Value} {x : Ex}, ExAt w m c0 c1 c2 c3 x → ∀ k, m ≤ k → exW k x = exW m x
  | 0, _, _, _, _, _, h, _, _ => False.elim h
  | m + 1, c0, c1, c2, c3, x, h, 0, hk => by omega
  | m + 1, c0, c1, c2, c3, x, h, k + 1, hk => by
    obtain ⟨_, _, _, _, _, _, a, b, off, cap, _, _, _, h9⟩ := h
    simp only [exW]
    rw [map_congr_get (f := exW k) (g := exW m) (fun i y hy => by
      obtain ⟨e0, e1, e2, e3, _, _, _, _, hx⟩ := h9 i y hy
      exact exW_mono hx k (by omega))]
theorem stsW_mono {w : World} : ∀ {m : Nat} {v : Value} {l : List St}, StsAt w m v l → ∀ k, m ≤ k → stsW k l = stsW m l
  | 0, _, _, h, _, _ => False.elim h
  | m + 1, v, l, h, 0, hk => by omega
  | m + 1, v, l, h, k + 1, hk => by
    obtain ⟨a, b, off, cap, _, _, _, h9⟩ := h
    simp only [stsW]
    rw [map_congr_get (fun i s hs => by
      obtain ⟨_, _, e0, e1, e2, e3, va, vb, _, _, _, _, _, _, _, _, hx, ha, hb⟩ := h9 i s hs
      rw [exW_mono hx k (by omega), stsW_mono ha k (by omega), stsW_mono hb k (by omega)])]

end Go.Proofs.Ytmhcameodlhloaa
