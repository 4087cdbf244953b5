/- Names, as plain data: what a call means; lists of modules in memory. -/
import Derived.Test.YtmhcameodlhloaaTE
import Derived.Test.YtmhcameodlhloaaTD
namespace Go.Proofs.Ytmhcameodlhloaa
open Go.RowKit

/-- The slice v is a list of modules. -/
def MosAt (w : World) (m : Nat) (v : Value) (l : List Mo) : Prop :=
  ∃ (a : Option Addr) (b off cap : Nat), v = .slice a l.length cap ∧ (0 < l.length → a = some ⟨b, off, none⟩) ∧ l.length ≤ 9223372036854775807 ∧
    ∀ i x, l[i]? = some x → ∃ vi vv vf, w.cell? ⟨b, off + i * 4, none⟩ = some (.string x.name) ∧ w.cell? ⟨b, off + i * 4 + 1, none⟩ = some vi ∧ w.cell? ⟨b, off + i * 4 + 2, none⟩ = some vv ∧ w.cell? ⟨b, off + i * 4 + 3, none⟩ = some vf ∧ MoAt w m (.agg #[.string x.name, vi, vv, vf]) x
theorem MosAt.below {w w' : World} {m : Nat} {v : Value} {l : List Mo} (h : MosAt w m v l) (hb : Below w.heap.size w w') : MosAt w' m v l := by
  obtain ⟨a, b, off, cap, e, h0, hl, h1⟩ := h
  refine ⟨a, b, off, cap, e, h0, hl, fun i x hx => ?_⟩
  obtain ⟨vi, vv, vf, g0, g1, g2, g3, hm⟩ := h1 i x hx
  exact ⟨vi, vv, vf, cellUp g0 hb, cellUp g1 hb, cellUp g2 hb, cellUp g3 hb, hm.below hb⟩

namespace Nm
def sameB (s t : ByteArray) : Bool := s.toList == t.toList
/-- The first function of that name among the first n. -/
def fnAt (l : List Fu) (s : ByteArray) (n : Nat) : Option Nat := (List.range n).find? fun i => match l[i]? with | some f => sameB f.name s | none => false
/-- The first module of that name. -/
def moAt (l : List Mo) (s : ByteArray) : Option Nat := (List.range l.length).find? fun i => match l[i]? with | some x => sameB x.name s | none => false
/-- What a call means: which module (-1: this one), which function, and is there one? -/
def tgt (x : Mo) (k : Nat) (call : ByteArray) (known : List Mo) : Int × Int × Bool :=
  match Lat.dotAt call with
  | none => match fnAt x.funs call k with
    | some i => (-1, i, true)
    | none => (-1, 0, false)
  | some _ =>
    if 0 ≤ Lat.indexI x.imports (Lat.preS call) then
      match moAt known (Lat.preS call) with
      | none => (0, 0, false)
      | some i => match fnAt ((known[i]?.map (·.funs)).getD []) (Lat.sufS call) ((known[i]?.map (·.funs)).getD []).length with
        | some j => (i, j, true)
        | none => (i, 0, false)
    else (0, 0, false)
theorem fnAt_hit {l : List Fu} {s : ByteArray} {n i : Nat} {f : Fu} (hi : i < n) (hf : l[i]? = some f) (h : sameB f.name s = true) (h0 : ∀ d g, d < i → l[d]? = some g → sameB g.name s = false) : fnAt l s n = some i := by
  refine Lat.find_hit hi (fun c hc => ?_) (by simp only [hf]; exact h)
  cases hg : l[c]? with
  | none => rfl
  | some g => exact h0 c g hc hg
theorem fnAt_none {l : List Fu} {s : ByteArray} {n : Nat} (h0 : ∀ d g, d < n → l[d]? = some g → sameB g.name s = false) : fnAt l s n = none := by
  refine Lat.find_none (fun c hc => ?_)
  cases hg : l[c]? with
  | none => rfl
  | some g => exact h0 c g hc hg
theorem moAt_hit {l : List Mo} {s : ByteArray} {i : Nat} {x : Mo} (hx : l[i]? = some x) (h : sameB x.name s = true) (h0 : ∀ d g, d < i → l[d]? = some g → sameB g.name s = false) : moAt l s = some i := by
  refine Lat.find_hit (List.getElem?_eq_some_iff.1 hx).1 (fun c hc => ?_) (by simp only [hx]; exact h)
  cases hg : l[c]? with
  | none => rfl
  | some g => exact h0 c g hc hg
theorem moAt_none {l : List Mo} {s : ByteArray} (h0 : ∀ (d : Nat) (g : Mo), l[d]? = some g → sameB g.name s = false) : moAt l s = none := by
  refine Lat.find_none (fun c hc => ?_)
  cases hg : l[c]? with
  | none => rfl
  | some g => exact h0 c g hg
end Nm

end Go.Proofs.Ytmhcameodlhloaa
