/- Cells of a store and prints, in memory. -/
import Derived.Test.YtmhcameodlhloaaOK
namespace Go.Proofs.Ytmhcameodlhloaa
open Go.RowKit

structure Ce where
  mod : ByteArray
  name : ByteArray
  val : Int
/-- The slice v is a list of cells. -/
def CesAt (w : World) (v : Value) (l : List Ce) : Prop :=
  ∃ (a : Option Addr) (b off cap : Nat), v = .slice a l.length cap ∧ (0 < l.length → a = some ⟨b, off, none⟩) ∧ l.length ≤ 9223372036854775807 ∧
    ∀ (i : Nat) (x : Ce), l[i]? = some x → I64 x.val ∧ w.cell? ⟨b, off + i * 3, none⟩ = some (.string x.mod) ∧ w.cell? ⟨b, off + i * 3 + 1, none⟩ = some (.string x.name) ∧ w.cell? ⟨b, off + i * 3 + 2, none⟩ = some (.int .i64 x.val)
theorem CesAt.below {w w' : World} {v : Value} {l : List Ce} (h : CesAt w v l) (hb : Below w.heap.size w w') : CesAt w' v l := by
  obtain ⟨a, b, off, cap, e, h0, hl, h1⟩ := h
  refine ⟨a, b, off, cap, e, h0, hl, fun i x hx => ?_⟩
  obtain ⟨k, g0, g1, g2⟩ := h1 i x hx
  exact ⟨k, cellUp g0 hb, cellUp g1 hb, cellUp g2 hb⟩
def PrC (c : List Value) (d : ByteArray × Int) : Prop := c = [.string d.1, .int .i64 d.2]
theorem PrC.one {c : List Value} {d : ByteArray × Int} (h : PrC c d) : ∀ u ∈ c, u.oneCell' = true := by
  unfold PrC at h
  subst h
  intro u hu
  simp at hu
  rcases hu with rfl | rfl <;> rfl
theorem infoPr : (Try.prog.info? 72).map (fun i => (i.zero, i.size, i.bytes)) = some (some (.agg #[.string ⟨#[]⟩, .int .i64 0]), 2, 24) := by kernel_rfl
def CeC (c : List Value) (d : Ce) : Prop := c = [.string d.mod, .string d.name, .int .i64 d.val]
theorem CeC.one {c : List Value} {d : Ce} (h : CeC c d) : ∀ u ∈ c, u.oneCell' = true := by
  unfold CeC at h
  subst h
  intro u hu
  simp at hu
  rcases hu with rfl | rfl | rfl <;> rfl
theorem infoCe : (Try.prog.info? 68).map (fun i => (i.zero, i.size, i.bytes)) = some (some (.agg #[.string ⟨#[]⟩, .string ⟨#[]⟩, .int .i64 0]), 3, 40) := by kernel_rfl
theorem OwnK.ces {w : World} {n : Nat} {v : Value} {l : List Ce} (h : OwnK CeC w n 68 3 v l) (hI : ∀ c ∈ l, I64 c.val) (hl : l.length ≤ 16777216) : CesAt w v l := by
  rcases h.shape with ⟨rfl, rfl⟩ | ⟨g, cap, rfl, _, _, _, _⟩
  · exact ⟨none, 0, 0, 0, rfl, fun h => absurd h (by simp), by simp, fun i x hx => absurd hx (by simp)⟩
  · refine ⟨_, g, 0, cap, rfl, fun _ => rfl, by omega, fun i x hx => ?_⟩
    obtain ⟨c, _, hcell, hat⟩ := h.cell hx
    unfold CeC at hat
    subst hat
    have h0 := hcell 0 (by decide)
    have h1 := hcell 1 (by decide)
    have h2 := hcell 2 (by decide)
    rw [Nat.zero_add]
    exact ⟨hI x (List.mem_of_getElem? hx), h0, h1, h2⟩
/-- The slice v is a list of prints. -/
def PrsAt (w : World) (v : Value) (l : List (ByteArray × Int)) : Prop :=
  ∃ (a : Option Addr) (b off cap : Nat), v = .slice a l.length cap ∧ (0 < l.length → a = some ⟨b, off, none⟩) ∧ l.length ≤ 9223372036854775807 ∧
    ∀ (i : Nat) (x : ByteArray × Int), l[i]? = some x → w.cell? ⟨b, off + i * 2, none⟩ = some (.string x.1) ∧ w.cell? ⟨b, off + i * 2 + 1, none⟩ = some (.int .i64 x.2)
theorem PrsAt.below {w w' : World} {v : Value} {l : List (ByteArray × Int)} (h : PrsAt w v l) (hb : Below w.heap.size w w') : PrsAt w' v l := by
  obtain ⟨a, b, off, cap, e, h0, hl, h1⟩ := h
  refine ⟨a, b, off, cap, e, h0, hl, fun i x hx => ?_⟩
  obtain ⟨g0, g1⟩ := h1 i x hx
  exact ⟨cellUp g0 hb, cellUp g1 hb⟩
theorem OwnK.prs {w : World} {n : Nat} {v : Value} {l : List (ByteArray × Int)} (h : OwnK PrC w n 72 2 v l) (hl : l.length ≤ 16777216) : PrsAt w v l := by
  rcases h.shape with ⟨rfl, rfl⟩ | ⟨g, cap, rfl, _, _, _, _⟩
  · exact ⟨none, 0, 0, 0, rfl, fun h => absurd h (by simp), by simp, fun i x hx => absurd hx (by simp)⟩
  · refine ⟨_, g, 0, cap, rfl, fun _ => rfl, by omega, fun i x hx => ?_⟩
    obtain ⟨c, _, hcell, hat⟩ := h.cell hx
    unfold PrC at hat
    subst hat
    have h0 := hcell 0 (by decide)
    have h1 := hcell 1 (by decide)
    rw [Nat.zero_add]
    exact ⟨h0, h1⟩

end Go.Proofs.Ytmhcameodlhloaa
