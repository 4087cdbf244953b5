/- downref.Label; the comparison of labels; slices.Equal of labels. -/
import Derived.Test.YtholefgckcoklaaZC
import Derived.Test.YtholefgckcoklaaRA
import Derived.Laws.StructEq
namespace Go.Proofs.Ytholefgckcoklaa
open Go.RowKit

set_option maxHeartbeats 1000000 in
theorem rlabel_any (w : World) (va : Option Addr) (vl : Value) (N cap : Nat) (m l : Int) (hN : N ≤ 9223372036854775807) :
    Calls Try.prog 21 #[.agg #[.slice va N cap, vl], .agg #[.int .i64 m, .int .i64 l]] w fun e w' => e = .returned (.bool (Sv.labB N m l)) ∧ Below w.heap.size w w' := by
  obtain ⟨W, hW⟩ : ∃ W, W = (w.alloc (.cells #[.slice va N cap, vl] 25)).alloc (.cells #[.int .i64 m, .int .i64 l] 46) := ⟨_, rfl⟩
  have hb : Below w.heap.size w W := by rw [hW]; exact ((Below.refl _ _).alloc (Nat.le_refl _) _).alloc (by simp) _
  have HB := hide hb
  obtain ⟨E, hE⟩ : ∃ E, E = Sv.labB N m l := ⟨_, rfl⟩
  have HE : Hid (E = (decide (0 ≤ m) && decide (m ≤ 15) && (decide (0 ≤ l) && decide (l ≤ (N : Int) - 1)))) := hide (by
    rw [hE, Sv.labB, Bool.eq_iff_iff]
    simp only [Bool.and_eq_true, decide_eq_true_eq]
    omega)
  rw [← hE]
  have HI := hide (fun a lo hi => in_any W a lo hi)
  have q0 : W.cell? ⟨w.heap.size, 0, none⟩ = some (.slice va N cap) := by rw [hW]; simp [go_sem]
  have q1 : W.cell? ⟨w.heap.size + 1, 1, none⟩ = some (.int .i64 l) := by rw [hW]; simp [go_sem]
  clear hb hE
  go_enter Try.func21, Try.ntmps21
  go_wp2_with fail
  rw [← hW]
  clear hW
  refine (HI.out m 0 15).mono ?_
  rintro e w' ⟨rfl, rfl⟩
  cases h1 : (decide (0 ≤ m) && decide (m ≤ 15))
  · rw [h1, Bool.false_and] at HE
    go_wp2_with fail
    go_ret
    exact ⟨ret_bool (by rw [HE.out]), HB.out⟩
  · rw [h1, Bool.true_and] at HE
    go_wp2_with fail
    refine (HI.out l 0 ((N : Int) - 1)).mono ?_
    rintro e w' ⟨rfl, rfl⟩
    go_wp2_with fail
    go_ret
    exact ⟨ret_bool (by rw [HE.out]), HB.out⟩

set_option maxHeartbeats 1000000 in
theorem eqIn_lb (a b c d : Int) (w : World) : (Op.equalIn 10000 46 (.agg #[.int .i64 a, .int .i64 b]) (.agg #[.int .i64 c, .int .i64 d])).run Try.prog w = .ok ((a == c) && (b == d)) w := by
  have u3 := Try.underlying3
  have a3 := Try.isAgg3
  have z3 := Try.sizeOf3
  have hS : Try.prog.underlying 46 = some (.struct (Try.prog.fieldsOf 46)) := by kernel_rfl
  have hp : Try.prog.stoodInHeld 46 = false := by kernel_rfl
  rw [show (10000 : Nat) = 9999 + 1 from rfl, run_equalIn_agg w 9999 46 _ _ hS hp]
  simp only [Program.fieldsOf, Try.underlying46]
  go_simp
  cases h1 : (a == c) <;> cases h2 : (b == d) <;> simp_all
theorem guard_lb (op : BinOp) (p q : Operand) (a b c d : Int) (w : World) : (eqGuard op 46 p q (.agg #[.int .i64 a, .int .i64 b]) (.agg #[.int .i64 c, .int .i64 d])).run Try.prog w = .ok () w :=
  run_eqGuard_agg w op _ p q _ _ (by kernel_rfl)

set_option maxHeartbeats 1000000 in
set_option maxRecDepth 100000 in
theorem eqL_same (w : World) (va vb : Value) (l : List (Int × Int)) (ha : LasAt w va l) (hb : LasAt w vb l) :
    Calls Try.prog 29 #[va, vb] w fun e w' => e = .returned (.bool true) ∧ Below w.heap.size w w' := by
  obtain ⟨a, b, off, cap, rfl, h0, hl, hel⟩ := ha
  obtain ⟨a', b', off', cap', rfl, h0', -, hel'⟩ := hb
  have HEL := hide hel
  have HEL' := hide hel'
  have HA := hide h0
  have HA' := hide h0'
  obtain ⟨len, hlen⟩ : ∃ n, n = l.length := ⟨_, rfl⟩
  have HL := hide hlen
  rw [← hlen] at hl HA HA' ⊢
  clear hel hel' h0 h0' hlen
  go_enter Try.func29, Try.ntmps29
  go_wp2_with fail
  go_loopw [5, 13] (fun _ i wx => ∃ j : Nat, j ≤ len ∧ i = .int .i64 j ∧ ∃ n, wx = w.drewN n) (fun _ i _ => len - (intOf i).toNat)
  case atStart => exact ⟨0, Nat.zero_le _, rfl, 0, rfl⟩
  case round =>
    obtain ⟨j, hj, rfl, n, rfl⟩ := hrel
    by_cases hjl : j < len
    · obtain ⟨d, hd⟩ : ∃ d, l[j]? = some d := ⟨_, List.getElem?_eq_getElem (by rw [← HL.out]; exact hjl)⟩
      obtain ⟨p0, p1⟩ := HEL.out j d hd
      obtain ⟨q0, q1⟩ := HEL'.out j d hd
      obtain rfl := HA.out (by omega)
      obtain rfl := HA'.out (by omega)
      have heq : ∀ w, Sem.run Try.prog (Op.equalIn 10000 46 (.agg #[.int .i64 d.1, .int .i64 d.2]) (.agg #[.int .i64 d.1, .int .i64 d.2])) w = .ok true w := fun w => by rw [eqIn_lb]; simp
      have hgd : ∀ op a b w, Sem.run Try.prog (eqGuard op 46 a b (.agg #[.int .i64 d.1, .int .i64 d.2]) (.agg #[.int .i64 d.1, .int .i64 d.2])) w = .ok () w := fun op a b w => guard_lb op a b _ _ _ _ w
      clear hd
      go_wp2_with fail
      go_quiet (fail)
      go_wp2_with fail
      go_roundw
      case rel => exact ⟨j + 1, by omega, by go_num, n + nq, by rw [← World.drewN_drewN]⟩
      case measure => simp [intOf]; omega
    · go_wp2_with fail
      go_ret
      exact ⟨rfl, drewBelow (Below.refl _ _) n⟩

end Go.Proofs.Ytholefgckcoklaa
