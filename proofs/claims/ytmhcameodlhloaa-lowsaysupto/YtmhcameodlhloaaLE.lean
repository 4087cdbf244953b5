/- Walks over package lattice, fifth part: turned: a new table with below what was above. -/
import Derived.Test.YtmhcameodlhloaaLD
import Derived.Deep.LoopGhost
import Derived.Deep.OwnRows
import Derived.Deep.Light
import Derived.CellFam
import Derived.BigGuard
namespace Go.Proofs.Ytmhcameodlhloaa
open Go.RowKit

theorem infoBool : (Try.prog.info? 4).map (fun i => (i.zero, i.size, i.bytes)) = some (some (.bool false), 1, 1) := by kernel_rfl
theorem infoRow : (Try.prog.info? 80).map (fun i => (i.zero, i.size, i.bytes)) = some (some (.slice none 0 0), 1, 24) := by kernel_rfl

/-- The new table's own row of rows, when r of them are made. -/
def top (N n : Nat) (r : Nat) : Nat → Value := fun j => if j < r then .slice (some ⟨N + 1 + j, 0, none⟩) n n else .slice none 0 0

structure Outer (w wr : World) (n r : Nat) (Z : Nat → Nat → Bool) : Prop where
  since : Below w.heap.size w wr
  size : wr.heap.size = w.heap.size + 1 + r
  top : wr.rowIs w.heap.size 80 n (top w.heap.size n r)
  done : ∀ j, j < r → wr.rowIs (w.heap.size + 1 + j) 4 n (fun c => .bool (Z j c))

structure Inner (w wi : World) (n r c : Nat) (Z : Nat → Nat → Bool) : Prop where
  since : Below w.heap.size w wi
  size : wi.heap.size = w.heap.size + 1 + r + 1
  top : wi.rowIs w.heap.size 80 n (top w.heap.size n (r + 1))
  done : ∀ j, j < r → wi.rowIs (w.heap.size + 1 + j) 4 n (fun c => .bool (Z j c))
  cur : wi.rowIs (w.heap.size + 1 + r) 4 n (fun i => if i < c then .bool (Z r i) else .bool false)

theorem outer_start (w : World) (n : Nat) (Z : Nat → Nat → Bool) : Outer w (w.alloc (.cells (madeCells #[.slice none 0 0] n) 80)) n 0 Z :=
  ⟨(Below.refl _ _).alloc (Nat.le_refl _) _, by simp, (World.rowIs_made w _ n 80).congr (fun j _ => by simp [top]), fun j hj => absurd hj (Nat.not_lt_zero _)⟩

theorem inner_start {w wr : World} {n r : Nat} {Z : Nat → Nat → Bool} (h : Outer w wr n r Z) :
    Inner w ((wr.alloc (.cells (madeCells #[.bool false] n) 4)).setCell ⟨w.heap.size, r, none⟩ (.slice (some ⟨w.heap.size + 1 + r, 0, none⟩) n n)) n r 0 Z := by
  have hnew := World.rowIs_made wr (.bool false) n 4
  rw [h.size] at hnew
  refine ⟨(h.since.alloc (by rw [h.size]; omega) _).setCell (Nat.le_refl _) _, by simp [h.size], ((h.top.alloc _).set r _).congr (fun j _ => ?_), fun j hj => ((h.done j hj).alloc _).setOther (by show w.heap.size + 1 + j ≠ w.heap.size; omega) _,
    (hnew.setOther (by show w.heap.size + 1 + r ≠ w.heap.size; omega) _).congr (fun i _ => by simp)⟩
  simp only [top]
  by_cases e : j = r
  · subst e; simp
  · rw [if_neg e]
    by_cases hlt : j < r
    · rw [if_pos hlt, if_pos (by omega)]
    · rw [if_neg hlt, if_neg (by omega)]

theorem inner_step {w wi : World} {n r c : Nat} {Z : Nat → Nat → Bool} (h : Inner w wi n r c Z) {b : Bool} (hb : b = Z r c) :
    Inner w (wi.setCell ⟨w.heap.size + 1 + r, c, none⟩ (.bool b)).drew n r (c + 1) Z := by
  subst hb
  refine ⟨(h.since.setCell (by show w.heap.size ≤ w.heap.size + 1 + r; omega) _).drew, by simp [h.size], (h.top.setOther (by show w.heap.size ≠ w.heap.size + 1 + r; omega) _).drew,
    fun j hj => ((h.done j hj).setOther (by show w.heap.size + 1 + j ≠ w.heap.size + 1 + r; omega) _).drew, ((h.cur.set c _).congr (fun i _ => ?_)).drew⟩
  by_cases e : i = c
  · subst e; simp
  · rw [if_neg e]
    by_cases hlt : i < c
    · rw [if_pos hlt, if_pos (by omega)]
    · rw [if_neg hlt, if_neg (by omega)]

theorem inner_done {w wi : World} {n r : Nat} {Z : Nat → Nat → Bool} (h : Inner w wi n r n Z) : Outer w wi n (r + 1) Z :=
  ⟨h.since, by rw [h.size]; omega, h.top, fun j hj => by
    by_cases e : j = r
    · subst e
      exact h.cur.congr (fun i hi => by rw [if_pos hi])
    · exact h.done j (by omega)⟩

theorem outer_grid {w w' : World} {n : Nat} {Z : Nat → Nat → Bool} (h : Outer w w' n n Z) : Grid w' (.slice (some ⟨w.heap.size, 0, none⟩) n n) n Z :=
  ⟨w.heap.size, 0, n, fun j => w.heap.size + 1 + j, fun _ => 0, fun _ => n, rfl,
    fun r hr => by rw [Nat.zero_add, h.top.cell hr]; simp [top, hr],
    fun r c hr hc => by rw [Nat.zero_add]; exact (h.done r hr).cell hc⟩

set_option maxHeartbeats 2000000 in
set_option maxRecDepth 1000000 in
theorem turned_any (w : World) (v : Value) (n : Nat) (Z : Nat → Nat → Bool) (hG : Grid w v n Z) (hn : n ≤ 6) :
    Calls Try.prog 42 #[v] w fun e w' => ∃ v', e = .returned v' ∧ Grid w' v' n (Lat.tr Z) ∧ Below w.heap.size w w' := by
  obtain ⟨gb, go, gc, RB, RO, C, rfl, hrow, hcell⟩ := hG
  have hmk22 := run_make_row' (P := Try.prog) 23 80 (.slice none 0 0) 24 Try.underlying23 infoRow rfl .i64 .i64 n (by omega) (by omega)
  go_enter Try.func42, Try.ntmps42
  go_wp2
  clear hmk22
  go_loopg [11] n (fun g i wr => ∃ r : Nat, r ≤ n ∧ g = n - r ∧ i = .int .i64 r ∧ Outer w wr n r (Lat.tr Z))
  case atStart => exact ⟨0, Nat.zero_le _, rfl, rfl, outer_start w n _⟩
  case round =>
    obtain ⟨r, hr, rfl, rfl, hO⟩ := hrel
    by_cases hrG : r < n
    · have hrz : (r : Int) < (n : Int) := by omega
      have hsize := hO.size
      have hmk23 := run_make_row' (P := Try.prog) 80 4 (.bool false) 1 Try.underlying80 infoBool rfl .i64 .i64 n (by omega) (by omega)
      have hst1 : ∀ o, (wr.alloc o).cell? ⟨w.heap.size, r, none⟩ = some (top w.heap.size n r r) := fun o => (hO.top.alloc o).cell hrG
      have hst2 : ∀ o, (wr.alloc o).frozen? ⟨w.heap.size, r, none⟩ = false := fun o => (hO.top.alloc o).frozen r
      go_wp2
      have hI0 := inner_start hO
      clear hmk23 hst1 hst2 hsize hO
      go_loopg [25] n (fun g i wi => ∃ c : Nat, c ≤ n ∧ g = n - c ∧ i = .int .i64 c ∧ Inner w wi n r c (Lat.tr Z))
      case atStart => exact ⟨0, Nat.zero_le _, rfl, rfl, hI0⟩
      case round =>
        obtain ⟨c, hc, rfl, rfl, hI⟩ := hrel
        clear hI0
        by_cases hcL : c < n
        · have hcz : (c : Int) < (n : Int) := by omega
          have t1 : wr.cell? ⟨w.heap.size, r, none⟩ = some (.slice (some ⟨w.heap.size + 1 + r, 0, none⟩) n n) := by simpa [top] using hI.top.cell hrG
          have t2 : wr.cell? ⟨gb, go + c, none⟩ = some (.slice (some ⟨RB c, RO c, none⟩) n (C c)) := by
            rw [hI.since.cell (World.block_lt_of_cell? _ _ (hrow c hcL))]; exact hrow c hcL
          have t3 : wr.cell? ⟨RB c, RO c + r, none⟩ = some (.bool (Z c r)) := by
            rw [hI.since.cell (World.block_lt_of_cell? _ _ (hcell c r hcL hrG))]; exact hcell c r hcL hrG
          have t4 : wr.cell? ⟨w.heap.size + 1 + r, c, none⟩ = some (.bool false) := by simpa using hI.cur.cell hcL
          have t5 : wr.frozen? ⟨w.heap.size + 1 + r, c, none⟩ = false := hI.cur.frozen c
          clear hrow hcell
          go_wp2_with fail
          go_big_region
          go_wp2
          go_roundg (n - (c + 1))
          case measure => go_light; omega
          case rel => go_light; exact ⟨c + 1, by omega, rfl, by simp, inner_step hI rfl⟩
        · obtain rfl : c = n := by omega
          have hcz : ¬ ((c : Int) < (c : Int)) := by omega
          go_wp2
          go_roundg (c - (r + 1))
          case measure => go_light; omega
          case rel => go_light; exact ⟨r + 1, by omega, rfl, by simp, inner_done hI⟩
    · have hrz : ¬ ((r : Int) < (n : Int)) := by omega
      go_wp2
      go_ret
      obtain rfl : r = n := by omega
      exact ⟨_, rfl, outer_grid hO, hO.since⟩

end Go.Proofs.Ytmhcameodlhloaa
