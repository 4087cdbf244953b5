/- Walks over package solve, fourth part: newSystem. -/
import Derived.Test.YtholefgckcoklabZD
import Derived.Deep.RegionLaw
import Derived.Laws.MakeOwn
namespace Go.Proofs.Ytholefgckcoklab
open Go.RowKit

theorem infoLb : (Try.prog.info? 48).map (fun i => (i.zero, i.size, i.bytes)) = some (some (.agg #[.int .i64 0, .int .i64 0]), 2, 16) := by kernel_rfl
theorem infoU64 : (Try.prog.info? 104).map (fun i => (i.zero, i.size, i.bytes)) = some (some (.int .u64 0), 1, 8) := by kernel_rfl
theorem make_lbs (n : Nat) (hn : n ≤ 40) (w : World) :
    (Instr.makeSlice 46 (.int .i64 (n : Int)) (.int .i64 (n : Int))).run Try.prog w = .ok (.slice (some ⟨w.heap.size, 0, none⟩) n n) (w.alloc (.cells (madeCells #[.int .i64 0, .int .i64 0] (n * 2)) 48)) := by
  obtain ⟨i, hi, hzz⟩ := Option.map_eq_some_iff.1 infoLb
  simp only [Prod.mk.injEq] at hzz
  obtain ⟨hz, hs, hb⟩ := hzz
  have hr := run_make (P := Try.prog) w 46 48 i _ Try.underlying46 hi hz .i64 .i64 n n (by omega) (Int.le_refl _) (by rw [hb]; omega) (by omega)
  rw [hs, show (Value.agg #[Value.int .i64 0, Value.int .i64 0]).cells = #[.int .i64 0, .int .i64 0] from rfl] at hr
  simpa using hr
theorem made2 (z0 z1 : Value) (n i : Nat) (hi : i < n) : (madeCells #[z0, z1] (n * 2))[i * 2]? = some z0 ∧ (madeCells #[z0, z1] (n * 2))[i * 2 + 1]? = some z1 := by
  have h1 : i * 2 < n * 2 := by omega
  have h2 : i * 2 + 1 < n * 2 := by omega
  have e1 : i * 2 % 2 = 0 := by omega
  have e2 : (i * 2 + 1) % 2 = 1 := by omega
  constructor
  · simp [madeCells, h1, e1]
  · simp [madeCells, h2, e2]
theorem made1 (z : Value) (n i : Nat) (hi : i < n) : (madeCells #[z] n)[i]? = some z := by
  simp [madeCells, hi, Nat.mod_one]

theorem sy_start1 (w : World) (vn vl : Value) (n : Nat) :
    SyAt w ((((w.alloc (.cells #[vn, vl] 25)).alloc (.cells (madeCells #[.int .i64 0, .int .i64 0] (n * 2)) 48)).alloc (.cells (madeCells #[.int .u64 0] n) 104)).alloc (.cells #[vn, vl, .slice (some ⟨w.heap.size + 1, 0, none⟩) n n, .slice (some ⟨w.heap.size + 1 + 1, 0, none⟩) n n] 90))
      ⟨w.heap.size + 1 + 1 + 1, w.heap.size + 1, w.heap.size + 1 + 1, n, vn, vl⟩ (fun _ => (0, 0)) (fun _ => 0) := by
  have hs : (w.alloc (.cells #[vn, vl] 25)).heap.size = w.heap.size + 1 := by simp
  have h1 := block_new (w.alloc (.cells #[vn, vl] 25)) (.cells (madeCells #[.int .i64 0, .int .i64 0] (n * 2)) 48)
  have h2 := block_new ((w.alloc (.cells #[vn, vl] 25)).alloc (.cells (madeCells #[.int .i64 0, .int .i64 0] (n * 2)) 48)) (.cells (madeCells #[.int .u64 0] n) 104)
  have h3 := block_new (((w.alloc (.cells #[vn, vl] 25)).alloc (.cells (madeCells #[.int .i64 0, .int .i64 0] (n * 2)) 48)).alloc (.cells (madeCells #[.int .u64 0] n) 104)) (.cells #[vn, vl, .slice (some ⟨w.heap.size + 1, 0, none⟩) n n, .slice (some ⟨w.heap.size + 1 + 1, 0, none⟩) n n] 90)
  rw [hs] at h1
  rw [show ((w.alloc (.cells #[vn, vl] 25)).alloc (.cells (madeCells #[.int .i64 0, .int .i64 0] (n * 2)) 48)).heap.size = w.heap.size + 1 + 1 by simp] at h2
  rw [show (((w.alloc (.cells #[vn, vl] 25)).alloc (.cells (madeCells #[.int .i64 0, .int .i64 0] (n * 2)) 48)).alloc (.cells (madeCells #[.int .u64 0] n) 104)).heap.size = w.heap.size + 1 + 1 + 1 by simp] at h3
  refine ⟨((((Below.refl _ _).alloc (Nat.le_refl _) _).alloc (by simp) _).alloc (by simp; omega) _).alloc (by simp; omega) _, by show w.heap.size ≤ w.heap.size + 1 + 1 + 1; omega, by show w.heap.size ≤ w.heap.size + 1; omega, by show w.heap.size ≤ w.heap.size + 1 + 1; omega, h3,
    ⟨_, block_alloc (block_alloc h1 _) _, fun i hi => made2 _ _ n i hi⟩, ⟨_, block_alloc h2 _, fun i hi => made1 _ n i hi⟩⟩
theorem sy_start2 (w : World) (vn vl : Value) (n : Nat) :
    SyAt w ((((w.alloc (.cells #[vn, vl] 25)).alloc (.cells (madeCells #[.int .u64 0] n) 104)).alloc (.cells (madeCells #[.int .i64 0, .int .i64 0] (n * 2)) 48)).alloc (.cells #[vn, vl, .slice (some ⟨w.heap.size + 1 + 1, 0, none⟩) n n, .slice (some ⟨w.heap.size + 1, 0, none⟩) n n] 90))
      ⟨w.heap.size + 1 + 1 + 1, w.heap.size + 1 + 1, w.heap.size + 1, n, vn, vl⟩ (fun _ => (0, 0)) (fun _ => 0) := by
  have hs : (w.alloc (.cells #[vn, vl] 25)).heap.size = w.heap.size + 1 := by simp
  have h1 := block_new (w.alloc (.cells #[vn, vl] 25)) (.cells (madeCells #[.int .u64 0] n) 104)
  have h2 := block_new ((w.alloc (.cells #[vn, vl] 25)).alloc (.cells (madeCells #[.int .u64 0] n) 104)) (.cells (madeCells #[.int .i64 0, .int .i64 0] (n * 2)) 48)
  have h3 := block_new (((w.alloc (.cells #[vn, vl] 25)).alloc (.cells (madeCells #[.int .u64 0] n) 104)).alloc (.cells (madeCells #[.int .i64 0, .int .i64 0] (n * 2)) 48)) (.cells #[vn, vl, .slice (some ⟨w.heap.size + 1 + 1, 0, none⟩) n n, .slice (some ⟨w.heap.size + 1, 0, none⟩) n n] 90)
  rw [hs] at h1
  rw [show ((w.alloc (.cells #[vn, vl] 25)).alloc (.cells (madeCells #[.int .u64 0] n) 104)).heap.size = w.heap.size + 1 + 1 by simp] at h2
  rw [show (((w.alloc (.cells #[vn, vl] 25)).alloc (.cells (madeCells #[.int .u64 0] n) 104)).alloc (.cells (madeCells #[.int .i64 0, .int .i64 0] (n * 2)) 48)).heap.size = w.heap.size + 1 + 1 + 1 by simp] at h3
  refine ⟨((((Below.refl _ _).alloc (Nat.le_refl _) _).alloc (by simp) _).alloc (by simp; omega) _).alloc (by simp; omega) _, by show w.heap.size ≤ w.heap.size + 1 + 1 + 1; omega, by show w.heap.size ≤ w.heap.size + 1 + 1; omega, by show w.heap.size ≤ w.heap.size + 1; omega, h3,
    ⟨_, block_alloc h2 _, fun i hi => made2 _ _ n i hi⟩, ⟨_, block_alloc (block_alloc h1 _) _, fun i hi => made1 _ n i hi⟩⟩
theorem SyAt.congr {w0 w : World} {c : Cf} {V V' : Nat → Nat × Nat} {S : Nat → Nat} (h : SyAt w0 w c V S) (he : V = V') : SyAt w0 w c V' S := by rw [← he]; exact h

set_option maxHeartbeats 2000000 in
set_option maxRecDepth 100000 in
theorem newSystem_any (w : World) (vn vl : Value) (n low : Nat) (hn : n ≤ 40) :
    Calls Try.prog 46 #[.agg #[vn, vl], .int .i64 n, .int .i64 low] w fun e w' => ∃ p lb sb, e = .returned (.pointer (some ⟨p, 0, none⟩)) ∧ SyAt w w' ⟨p, lb, sb, n, vn, vl⟩ (fun _ => (0, low)) (fun _ => 0) := by
  have hmk1 := make_lbs n hn
  have hmk2 := run_make_row' (P := Try.prog) 88 104 (.int .u64 0) 8 Try.underlying88 infoU64 rfl .i64 .i64 n (by omega) (by omega)
  go_enter Try.func46, Try.ntmps46
  go_wp2_with fail
  go_region_law (fail)
  all_goals clear hmk1 hmk2
  all_goals
    go_wp2_with fail
    go_loopw [21] (fun i wx => ∃ k : Nat, k ≤ n ∧ i = .int .i64 k ∧ ∃ lb sb, SyAt w wx ⟨w.heap.size + 1 + 1 + 1, lb, sb, n, vn, vl⟩ (fun v => if v < k then (0, low) else (0, 0)) (fun _ => 0)) (fun i _ => n - (intOf i).toNat)
    case atStart => exact ⟨0, Nat.zero_le _, rfl, _, _, by first | exact ((sy_start1 w vn vl n).below (Below.refl _ _).drew).congr (by funext v; simp) | exact ((sy_start2 w vn vl n).below (Below.refl _ _).drew).congr (by funext v; simp)⟩
    case round =>
      obtain ⟨k, hk, rfl, lb, sb, hsy⟩ := hrel
      have HS := hide hsy
      by_cases hlt : k < n
      · obtain ⟨c0, c1, c2, c3⟩ := hsy.cell
        obtain ⟨l0, l1, z0, z1⟩ := hsy.labc (i := k) hlt
        simp only at c0 c1 c2 c3 l0 l1 z0 z1
        rw [if_neg (by omega)] at l0 l1
        clear hsy
        go_wp2_with fail
        go_roundw
        case rel =>
          refine ⟨k + 1, by omega, by go_num, lb, sb, (HS.out.putLevel hlt low).congr ?_⟩
          funext v
          simp only [Sv.put]
          by_cases e : v = k
          · subst e; simp
          · rw [if_neg e]
            by_cases h' : v < k
            · rw [if_pos h', if_pos (by omega)]
            · rw [if_neg h', if_neg (by omega)]
        case measure => simp [intOf]; omega
      · clear hsy
        go_wp2_with fail
        go_ret
        exact ⟨_, _, _, rfl, by
          obtain rfl : k = n := by omega
          have h := HS.out
          exact ⟨h.since, h.pn, h.ln, h.sn, h.blk, by
            obtain ⟨cs, h1, h2⟩ := h.lab
            exact ⟨cs, h1, fun i hi => by have := h2 i hi; rw [if_pos hi] at this; exact this⟩, h.src⟩⟩

end Go.Proofs.Ytholefgckcoklab
