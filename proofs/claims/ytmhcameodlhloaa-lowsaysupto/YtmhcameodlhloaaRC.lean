/- Walks over package downref, third part: above: the list of all that is above both. -/
import Derived.Test.YtmhcameodlhloaaRB
import Derived.Maps.AppendAt
namespace Go.Proofs.Ytmhcameodlhloaa
open Go.RowKit

theorem infoIntR : (Try.prog.info? 3).map (fun i => (i.zero, i.size, i.bytes)) = some (some (.int .i64 0), 1, 8) := by kernel_rfl

/-- The slice v is the list xs of numbers. -/
def IntsR (w : World) (v : Value) (xs : List Nat) : Prop :=
  ∃ (a : Option Addr) (g cap : Nat), v = .slice a xs.length cap ∧ (0 < xs.length → a = some ⟨g, 0, none⟩) ∧ ∀ j, j < xs.length → w.cell? ⟨g, j, none⟩ = some (.int .i64 (xs.getD j 0 : Nat))

theorem IntsR.below {w w' : World} {v : Value} {xs : List Nat} (h : IntsR w v xs) (hb : Below w.heap.size w w') : IntsR w' v xs := by
  obtain ⟨a, g, cap, e, h0, h1⟩ := h
  exact ⟨a, g, cap, e, h0, fun r hr => by rw [hb.cell (World.block_lt_of_cell? _ _ (h1 r hr))]; exact h1 r hr⟩

def intV (c : Nat) : Value := .int .i64 c

theorem ints_of {w : World} {base : Nat} {v : Value} {xs : List Nat} (h : w.ownsRow base 3 1 v xs.length (xs.map intV)) : IntsR w v xs := by
  obtain ⟨h1, h2⟩ := h
  rcases h2 with ⟨rfl, h0⟩ | ⟨g, cap, cur, rfl, hg, hh, hn, hc, hs, ht⟩
  · have : xs = [] := List.eq_nil_of_length_eq_zero h0
    subst this
    exact ⟨none, 0, 0, rfl, fun h => absurd h (Nat.lt_irrefl _), fun j hj => absurd hj (Nat.not_lt_zero _)⟩
  · refine ⟨_, g, cap, rfl, fun _ => rfl, fun j hj => ?_⟩
    have hown : w.ownsRow base 3 1 (.slice (some ⟨g, 0, none⟩) xs.length cap) xs.length (xs.map intV) := ⟨h1, Or.inr ⟨g, cap, cur, rfl, hg, hh, hn, hc, hs, ht⟩⟩
    rw [hown.cellAt j (by omega)]
    simp [List.getElem?_map, List.getElem?_eq_getElem hj, intV, List.getD]

namespace Lat
/-- All that is above both, of those below k. -/
def upTo (Z : Nat → Nat → Bool) (a b k : Nat) : List Nat := (List.range k).filter fun c => Z a c && Z b c
theorem upTo_yes {Z : Nat → Nat → Bool} {a b k : Nat} (h1 : Z a k = true) (h2 : Z b k = true) : upTo Z a b (k + 1) = upTo Z a b k ++ [k] := by
  unfold upTo; rw [List.range_succ, List.filter_append]; simp [h1, h2]
theorem upTo_no1 {Z : Nat → Nat → Bool} {a b k : Nat} (h1 : Z a k = false) : upTo Z a b (k + 1) = upTo Z a b k := by
  unfold upTo; rw [List.range_succ, List.filter_append]; simp [h1]
theorem upTo_no2 {Z : Nat → Nat → Bool} {a b k : Nat} (h2 : Z b k = false) : upTo Z a b (k + 1) = upTo Z a b k := by
  unfold upTo; rw [List.range_succ, List.filter_append]; simp [h2]
theorem upTo_le (Z : Nat → Nat → Bool) (a b k : Nat) : (upTo Z a b k).length ≤ k := by
  unfold upTo; have := List.length_filter_le (fun c => Z a c && Z b c) (List.range k); simpa using this
end Lat


set_option maxHeartbeats 2000000 in
set_option maxRecDepth 100000 in
theorem above_any (w : World) (ad : Option Addr) (vl : Value) (n cap a b : Nat) (Z : Nat → Nat → Bool) (hG : Grid w vl n Z) (hn : n ≤ 6) (ha : a < n) (hb : b < n) :
    Calls Try.prog 38 #[.agg #[.slice ad n cap, vl], .int .i64 a, .int .i64 b] w fun e w' => ∃ v, e = .returned v ∧ IntsR w' v (Lat.upTo Z a b n) ∧ Below w.heap.size w w' := by
  obtain ⟨gb, go, gc, RB, RO, C, rfl, h1, h2⟩ := hG.below (boxBelow w (.cells #[.slice ad n cap, vl] 25))
  obtain ⟨i0, hi, hz0, hz1, hz2⟩ := info_parts infoIntR
  have q0 := cellBox0 w (.slice ad n cap) (.slice (some ⟨gb, go, none⟩) n gc) 25
  have q1 := cellBox1 w (.slice ad n cap) (.slice (some ⟨gb, go, none⟩) n gc) 25
  have HB0 := hide (boxBelow w (.cells #[.slice ad n cap, .slice (some ⟨gb, go, none⟩) n gc] 25))
  go_enter Try.func38, Try.ntmps38
  go_wp2
  generalize w.alloc (.cells #[.slice ad n cap, .slice (some ⟨gb, go, none⟩) n gc] 25) = W0 at *
  go_loopw [7, 8] (fun v i wr => ∃ k : Nat, k ≤ n ∧ i = .int .i64 k ∧ wr.ownsRow W0.heap.size 3 1 v (Lat.upTo Z a b k).length ((Lat.upTo Z a b k).map intV) ∧ Below W0.heap.size W0 wr)
    (fun _ i _ => n - (intOf i).toNat)
  case atStart => exact ⟨0, Nat.zero_le _, rfl, World.ownsRow_nil _ _ _ _, Below.refl _ _⟩
  case round =>
    obtain ⟨k, hk, rfl, hrow, hnx⟩ := hrel
    have p0 := cellUp q0 hnx
    by_cases hlt : k < n
    · have p1 := cellUp q1 hnx
      have ra := cellUp (h1 a ha) hnx
      have rb := cellUp (h1 b hb) hnx
      have ca := cellUp (h2 a k ha hlt) hnx
      have cb := cellUp (h2 b k hb hlt) hnx
      have hle := Lat.upTo_le Z a b k
      cases za : Z a k
      · rw [za] at ca
        have HZ := hide (Lat.upTo_no1 (b := b) za)
        clear za
        go_wp2
        go_roundw
        case rel => exact ⟨k + 1, by omega, by go_num, by rw [HZ.out]; exact hrow, hnx⟩
        case measure => simp [intOf]; omega
      · rw [za] at ca
        cases zb : Z b k
        · rw [zb] at cb
          have HZ := hide (Lat.upTo_no2 (a := a) zb)
          clear za zb
          go_wp2
          go_roundw
          case rel => exact ⟨k + 1, by omega, by go_num, by rw [HZ.out]; exact hrow, hnx⟩
          case measure => simp [intOf]; omega
        · rw [zb] at cb
          have HZ := hide (Lat.upTo_yes za zb)
          clear za zb
          go_wp2_with (first
            | (at_builtin; refine wpList_append_own _ rfl _ _ 39 rfl W0.heap.size 3 i0 (.int .i64 0) 1 8 Try.underlying39 hi hz0 hz1 hz2 rfl (by decide) _ _ _ rfl (hrow.alloc _) ⟨wr.heap.size, 0, none⟩ 1 1 [.int .i64 k] rfl rfl (cell_one_new _ _ _) (ints_oneCell .i64 [(k : Int)]) (by unfold maxLen; omega) (by omega) (by have := hnx.size; simp; omega) ?_; intro v' w2 hown' hgrow2 hnil2)
            | go_in)
          have hs2 := hnx.size
          have R2 := (hnx.alloc hnx.size (.cells #[.int .i64 k] 3)).grown hgrow2 (by simp; omega) (fun j hj => (hrow.lt j hj).1)
          clear hnil2 hgrow2 ra rb ca cb p0 p1
          go_roundw
          case rel => exact ⟨k + 1, by omega, by go_num, by rw [HZ.out]; simpa [intV] using hown', R2⟩
          case measure => simp [intOf]; omega
    · go_wp2
      go_ret
      have e : k = n := by omega
      subst e
      exact ⟨_, rfl, ints_of hrow, HB0.out.trans (hnx.mono HB0.out.size)⟩

end Go.Proofs.Ytmhcameodlhloaa
