/- Walks over LatticeLaws, second part: its two closures, join and meet: what they answer; that ok stays true. -/
import Derived.Test.YtnheahdcfadclabKA
import Derived.Test.YtnheahdcfadclabLatM
namespace Go.Proofs.Ytnheahdcfadclab
open Go.RowKit

/-- The world behind the making of ok (its block: as many as there were in w0): nothing older has turned; ok is true. -/
structure St (w0 w : World) : Prop where
  below : Below w0.heap.size w0 w
  cell : w.cell? ⟨w0.heap.size, 0, none⟩ = some (.bool true)
  frozen : w.frozen? ⟨w0.heap.size, 0, none⟩ = false

/-- What is known of l, ahead of ok: its box at block N. -/
structure Lt (w0 : World) (N : Nat) (vn vl : Value) (ss : List ByteArray) (G : Nat) (L : Nat → Nat) (Z : Nat → Nat → Bool) : Prop where
  box0 : w0.cell? ⟨N, 0, none⟩ = some vn
  box1 : w0.cell? ⟨N, 1, none⟩ = some vl
  strs : Strs w0 vn ss
  rag : Rag w0 vl G L Z
  ok : Lat.checkE ss G L Z = 0

theorem pairE_ok {ss : List ByteArray} {G : Nat} {L : Nat → Nat} {Z : Nat → Nat → Bool} (h : Lat.checkE ss G L Z = 0) {i j : Nat} (hi : i < ss.length) (hj : j < ss.length) : Lat.pairE ss G L Z i j = 0 := by
  unfold Lat.pairE
  rw [if_pos h, if_pos]
  simp [Lat.inB]; omega

theorem Ok.joins {ss : List ByteArray} {G : Nat} {L : Nat → Nat} {Z : Nat → Nat → Bool} (h : Lat.Ok ss G L Z) : Lat.Joins Z ss.length ∧ Lat.Joins (Lat.tr Z) ss.length :=
  ⟨Lat.joins_of (Lat.ord_of h.order) h.joins, Lat.joins_of (Lat.ord_of h.order).turn h.meets⟩

set_option maxHeartbeats 1000000 in
set_option maxRecDepth 100000 in
theorem joinC (w0 w : World) (N : Nat) (vn vl : Value) (ss : List ByteArray) (G : Nat) (L : Nat → Nat) (Z : Nat → Nat → Bool) (i j : Nat) (hL : Lt w0 N vn vl ss G L Z) (hW : St w0 w) (hi : i < ss.length) (hj : j < ss.length) :
    Calls Try.prog 11 #[.int .i64 i, .int .i64 j, .pointer (some ⟨N, 0, none⟩), .pointer (some ⟨w0.heap.size, 0, none⟩)] w
      fun e w' => e = .returned (.int .i64 (Lat.joinN Z ss.length i j : Nat)) ∧ St w0 w' := by
  have HW := hide hW
  have HL := hide hL
  have q0 := cellUp hL.box0 hW.below
  have q1 := cellUp hL.box1 hW.below
  have hE : Lat.joinE Z ss.length i j = 0 := (Ok.joins (Lat.ok_of hL.ok)).1.err hi hj
  clear hW hL
  go_enter Try.func11, Try.ntmps11
  go_wp2_with fail
  refine (join_ok _ vn vl ss G L Z i j (HL.out.strs.below HW.out.below) (HL.out.rag.below HW.out.below) (pairE_ok HL.out.ok hi hj)).mono ?_
  rintro e w1 ⟨rfl, hb1⟩
  rw [hE]
  clear hE
  have hs : w0.heap.size < w.heap.size := World.block_lt_of_cell? _ _ HW.out.cell
  have p0 : w1.cell? ⟨w0.heap.size, 0, none⟩ = some (.bool true) := cellUp HW.out.cell hb1
  have p1 : w1.frozen? ⟨w0.heap.size, 0, none⟩ = false := by rw [hb1.frozen (by exact hs)]; exact HW.out.frozen
  have HB := hide (HW.out.below.trans (hb1.mono HW.out.below.size))
  clear hb1
  go_wp2
  go_ret
  refine ⟨rfl, HB.out.setCell (Nat.le_refl _) _, ?_, ?_⟩
  · simp [go_sem, p0]
  · simp [go_sem, p1]

set_option maxHeartbeats 1000000 in
set_option maxRecDepth 100000 in
theorem meetC (w0 w : World) (N : Nat) (vn vl : Value) (ss : List ByteArray) (G : Nat) (L : Nat → Nat) (Z : Nat → Nat → Bool) (i j : Nat) (hL : Lt w0 N vn vl ss G L Z) (hW : St w0 w) (hi : i < ss.length) (hj : j < ss.length) :
    Calls Try.prog 12 #[.int .i64 i, .int .i64 j, .pointer (some ⟨N, 0, none⟩), .pointer (some ⟨w0.heap.size, 0, none⟩)] w
      fun e w' => e = .returned (.int .i64 (Lat.joinN (Lat.tr Z) ss.length i j : Nat)) ∧ St w0 w' := by
  have HW := hide hW
  have HL := hide hL
  have q0 := cellUp hL.box0 hW.below
  have q1 := cellUp hL.box1 hW.below
  have hE : Lat.joinE (Lat.tr Z) ss.length i j = 0 := (Ok.joins (Lat.ok_of hL.ok)).2.err hi hj
  clear hW hL
  go_enter Try.func12, Try.ntmps12
  go_wp2_with fail
  refine (meet_ok _ vn vl ss G L Z i j (HL.out.strs.below HW.out.below) (HL.out.rag.below HW.out.below) (pairE_ok HL.out.ok hi hj)).mono ?_
  rintro e w1 ⟨rfl, hb1⟩
  rw [hE]
  clear hE
  have hs : w0.heap.size < w.heap.size := World.block_lt_of_cell? _ _ HW.out.cell
  have p0 : w1.cell? ⟨w0.heap.size, 0, none⟩ = some (.bool true) := cellUp HW.out.cell hb1
  have p1 : w1.frozen? ⟨w0.heap.size, 0, none⟩ = false := by rw [hb1.frozen (by exact hs)]; exact HW.out.frozen
  have HB := hide (HW.out.below.trans (hb1.mono HW.out.below.size))
  clear hb1
  go_wp2
  go_ret
  refine ⟨rfl, HB.out.setCell (Nat.le_refl _) _, ?_, ?_⟩
  · simp [go_sem, p0]
  · simp [go_sem, p1]

end Go.Proofs.Ytnheahdcfadclab
