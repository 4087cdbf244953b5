/- Modules, commands and expressions as plain data, and how they lie in memory: told by a number that bounds how deep they are nested. -/
import Derived.Test.YtmhcameodlhloabGr
namespace Go.Proofs.Ytmhcameodlhloab
open Go.RowKit

structure Ex where
  kind : Int
  n : Int
  name : ByteArray
  args : List Ex

structure St where
  kind : Int
  name : ByteArray
  e : Ex
  a : List St
  b : List St

structure Fu where
  name : ByteArray
  params : List ByteArray
  body : List St
  result : Ex

structure Va where
  name : ByteArray
  level : ByteArray

structure Mo where
  name : ByteArray
  imports : List ByteArray
  vars : List Va
  funs : List Fu

def I64 (n : Int) : Prop := -9223372036854775808 ≤ n ∧ n ≤ 9223372036854775807

/-- The four values are the expression x, whose arguments lie in memory. -/
def ExAt (w : World) : Nat → Value → Value → Value → Value → Ex → Prop
  | 0, _, _, _, _, _ => False
  | m + 1, c0, c1, c2, c3, x =>
    c0 = .int .i64 x.kind ∧ c1 = .int .i64 x.n ∧ c2 = .string x.name ∧ x.name.size ≤ maxLen ∧ I64 x.kind ∧ I64 x.n ∧
    ∃ (a : Option Addr) (b off cap : Nat), c3 = .slice a x.args.length cap ∧ (0 < x.args.length → a = some ⟨b, off, none⟩) ∧ x.args.length ≤ 9223372036854775807 ∧
      ∀ i y, x.args[i]? = some y → ∃ e0 e1 e2 e3, w.cell? ⟨b, off + i * 4, none⟩ = some e0 ∧ w.cell? ⟨b, off + i * 4 + 1, none⟩ = some e1 ∧ w.cell? ⟨b, off + i * 4 + 2, none⟩ = some e2 ∧ w.cell? ⟨b, off + i * 4 + 3, none⟩ = some e3 ∧ ExAt w m e0 e1 e2 e3 y

theorem ExAt.below {w w' : World} (hb : Below w.heap.size w w') : ∀ {m : Nat} {c0 c1 c2 c3 : Value} {x : Ex}, ExAt w m c0 c1 c2 c3 x → ExAt w' m c0 c1 c2 c3 x
  | 0, _, _, _, _, _, h => h
  | m + 1, c0, c1, c2, c3, x, h => by
    obtain ⟨h0, h1, h2, h3, h4, h5, a, b, off, cap, h6, h7, h8, h9⟩ := h
    refine ⟨h0, h1, h2, h3, h4, h5, a, b, off, cap, h6, h7, h8, fun i y hy => ?_⟩
    obtain ⟨e0, e1, e2, e3, g0, g1, g2, g3, hx⟩ := h9 i y hy
    exact ⟨e0, e1, e2, e3, by rw [hb.cell (World.block_lt_of_cell? _ _ g0)]; exact g0, by rw [hb.cell (World.block_lt_of_cell? _ _ g1)]; exact g1, by rw [hb.cell (World.block_lt_of_cell? _ _ g2)]; exact g2,
      by rw [hb.cell (World.block_lt_of_cell? _ _ g3)]; exact g3, ExAt.below hb hx⟩

theorem ExAt.mono {w : World} : ∀ {m : Nat} {c0 c1 c2 c3 : Value} {x : Ex}, ExAt w m c0 c1 c2 c3 x → ∀ k, m ≤ k → ExAt w k c0 c1 c2 c3 x
  | 0, _, _, _, _, _, h, _, _ => False.elim h
  | m + 1, c0, c1, c2, c3, x, h, 0, hk => by omega
  | m + 1, c0, c1, c2, c3, x, h, k + 1, hk => by
    obtain ⟨h0, h1, h2, h3, h4, h5, a, b, off, cap, h6, h7, h8, h9⟩ := h
    refine ⟨h0, h1, h2, h3, h4, h5, a, b, off, cap, h6, h7, h8, fun i y hy => ?_⟩
    obtain ⟨e0, e1, e2, e3, g0, g1, g2, g3, hx⟩ := h9 i y hy
    exact ⟨e0, e1, e2, e3, g0, g1, g2, g3, ExAt.mono hx k (by omega)⟩

/-- The slice v is a list of commands. -/
def StsAt (w : World) : Nat → Value → List St → Prop
  | 0, _, _ => False
  | m + 1, v, l => ∃ (a : Option Addr) (b off cap : Nat), v = .slice a l.length cap ∧ (0 < l.length → a = some ⟨b, off, none⟩) ∧ l.length ≤ 9223372036854775807 ∧
      ∀ i s, l[i]? = some s → I64 s.kind ∧ s.name.size ≤ maxLen ∧ ∃ e0 e1 e2 e3 va vb, w.cell? ⟨b, off + i * 8, none⟩ = some (.int .i64 s.kind) ∧ w.cell? ⟨b, off + i * 8 + 1, none⟩ = some (.string s.name) ∧
        w.cell? ⟨b, off + i * 8 + 2, none⟩ = some e0 ∧ w.cell? ⟨b, off + i * 8 + 3, none⟩ = some e1 ∧ w.cell? ⟨b, off + i * 8 + 4, none⟩ = some e2 ∧ w.cell? ⟨b, off + i * 8 + 5, none⟩ = some e3 ∧
        w.cell? ⟨b, off + i * 8 + 6, none⟩ = some va ∧ w.cell? ⟨b, off + i * 8 + 7, none⟩ = some vb ∧ ExAt w m e0 e1 e2 e3 s.e ∧ StsAt w m va s.a ∧ StsAt w m vb s.b

theorem StsAt.below {w w' : World} (hb : Below w.heap.size w w') : ∀ {m : Nat} {v : Value} {l : List St}, StsAt w m v l → StsAt w' m v l
  | 0, _, _, h => h
  | m + 1, v, l, h => by
    obtain ⟨a, b, off, cap, h6, h7, h8, h9⟩ := h
    refine ⟨a, b, off, cap, h6, h7, h8, fun i s hs => ?_⟩
    obtain ⟨k1, k2, e0, e1, e2, e3, va, vb, g0, g1, g2, g3, g4, g5, g6, g7, hx, ha, hb'⟩ := h9 i s hs
    exact ⟨k1, k2, e0, e1, e2, e3, va, vb, by rw [hb.cell (World.block_lt_of_cell? _ _ g0)]; exact g0, by rw [hb.cell (World.block_lt_of_cell? _ _ g1)]; exact g1, by rw [hb.cell (World.block_lt_of_cell? _ _ g2)]; exact g2,
      by rw [hb.cell (World.block_lt_of_cell? _ _ g3)]; exact g3, by rw [hb.cell (World.block_lt_of_cell? _ _ g4)]; exact g4, by rw [hb.cell (World.block_lt_of_cell? _ _ g5)]; exact g5,
      by rw [hb.cell (World.block_lt_of_cell? _ _ g6)]; exact g6, by rw [hb.cell (World.block_lt_of_cell? _ _ g7)]; exact g7, hx.below hb, ha.below hb, hb'.below hb⟩

theorem StsAt.mono {w : World} : ∀ {m : Nat} {v : Value} {l : List St}, StsAt w m v l → ∀ k, m ≤ k → StsAt w k v l
  | 0, _, _, h, _, _ => False.elim h
  | m + 1, v, l, h, 0, hk => by omega
  | m + 1, v, l, h, k + 1, hk => by
    obtain ⟨a, b, off, cap, h6, h7, h8, h9⟩ := h
    refine ⟨a, b, off, cap, h6, h7, h8, fun i s hs => ?_⟩
    obtain ⟨k1, k2, e0, e1, e2, e3, va, vb, g0, g1, g2, g3, g4, g5, g6, g7, hx, ha, hb'⟩ := h9 i s hs
    exact ⟨k1, k2, e0, e1, e2, e3, va, vb, g0, g1, g2, g3, g4, g5, g6, g7, hx.mono k (by omega), ha.mono k (by omega), hb'.mono k (by omega)⟩

/-- The slice v is a list of variables. -/
def VasAt (w : World) (v : Value) (l : List Va) : Prop :=
  ∃ (a : Option Addr) (b off cap : Nat), v = .slice a l.length cap ∧ (0 < l.length → a = some ⟨b, off, none⟩) ∧ l.length ≤ 9223372036854775807 ∧
    ∀ i s, l[i]? = some s → s.name.size ≤ maxLen ∧ s.level.size ≤ maxLen ∧ w.cell? ⟨b, off + i * 2, none⟩ = some (.string s.name) ∧ w.cell? ⟨b, off + i * 2 + 1, none⟩ = some (.string s.level)

theorem VasAt.below {w w' : World} {v : Value} {l : List Va} (h : VasAt w v l) (hb : Below w.heap.size w w') : VasAt w' v l := by
  obtain ⟨a, b, off, cap, h6, h7, h8, h9⟩ := h
  refine ⟨a, b, off, cap, h6, h7, h8, fun i s hs => ?_⟩
  obtain ⟨k1, k2, g0, g1⟩ := h9 i s hs
  exact ⟨k1, k2, by rw [hb.cell (World.block_lt_of_cell? _ _ g0)]; exact g0, by rw [hb.cell (World.block_lt_of_cell? _ _ g1)]; exact g1⟩

/-- The slice v is a list of functions. -/
def FusAt (w : World) (m : Nat) (v : Value) (l : List Fu) : Prop :=
  ∃ (a : Option Addr) (b off cap : Nat), v = .slice a l.length cap ∧ (0 < l.length → a = some ⟨b, off, none⟩) ∧ l.length ≤ 9223372036854775807 ∧
    ∀ i s, l[i]? = some s → s.name.size ≤ maxLen ∧ ∃ vp vb e0 e1 e2 e3, w.cell? ⟨b, off + i * 7, none⟩ = some (.string s.name) ∧ w.cell? ⟨b, off + i * 7 + 1, none⟩ = some vp ∧ w.cell? ⟨b, off + i * 7 + 2, none⟩ = some vb ∧
      w.cell? ⟨b, off + i * 7 + 3, none⟩ = some e0 ∧ w.cell? ⟨b, off + i * 7 + 4, none⟩ = some e1 ∧ w.cell? ⟨b, off + i * 7 + 5, none⟩ = some e2 ∧ w.cell? ⟨b, off + i * 7 + 6, none⟩ = some e3 ∧
      Strs w vp s.params ∧ StsAt w m vb s.body ∧ ExAt w m e0 e1 e2 e3 s.result

theorem FusAt.below {w w' : World} {m : Nat} {v : Value} {l : List Fu} (h : FusAt w m v l) (hb : Below w.heap.size w w') : FusAt w' m v l := by
  obtain ⟨a, b, off, cap, h6, h7, h8, h9⟩ := h
  refine ⟨a, b, off, cap, h6, h7, h8, fun i s hs => ?_⟩
  obtain ⟨k1, vp, vb, e0, e1, e2, e3, g0, g1, g2, g3, g4, g5, g6, hp, hs', hx⟩ := h9 i s hs
  exact ⟨k1, vp, vb, e0, e1, e2, e3, by rw [hb.cell (World.block_lt_of_cell? _ _ g0)]; exact g0, by rw [hb.cell (World.block_lt_of_cell? _ _ g1)]; exact g1, by rw [hb.cell (World.block_lt_of_cell? _ _ g2)]; exact g2,
    by rw [hb.cell (World.block_lt_of_cell? _ _ g3)]; exact g3, by rw [hb.cell (World.block_lt_of_cell? _ _ g4)]; exact g4, by rw [hb.cell (World.block_lt_of_cell? _ _ g5)]; exact g5,
    by rw [hb.cell (World.block_lt_of_cell? _ _ g6)]; exact g6, hp.below hb, hs'.below hb, hx.below hb⟩

/-- The value v is the module x. -/
def MoAt (w : World) (m : Nat) (v : Value) (x : Mo) : Prop :=
  ∃ vi vv vf, v = .agg #[.string x.name, vi, vv, vf] ∧ x.name.size ≤ maxLen ∧ Strs w vi x.imports ∧ VasAt w vv x.vars ∧ FusAt w m vf x.funs

theorem MoAt.below {w w' : World} {m : Nat} {v : Value} {x : Mo} (h : MoAt w m v x) (hb : Below w.heap.size w w') : MoAt w' m v x := by
  obtain ⟨vi, vv, vf, h0, h1, h2, h3, h4⟩ := h
  exact ⟨vi, vv, vf, h0, h1, h2.below hb, h3.below hb, h4.below hb⟩

end Go.Proofs.Ytmhcameodlhloab
