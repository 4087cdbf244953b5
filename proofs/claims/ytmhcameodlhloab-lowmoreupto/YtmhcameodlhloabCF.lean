/- Walks over the library: slices.Equal of cells and of prints that are the same. -/
import Derived.Test.YtmhcameodlhloabCE
import Derived.Laws.StructEq
import Derived.BigQuiet
namespace Go.Proofs.Ytmhcameodlhloab
open Go.RowKit

set_option maxHeartbeats 1000000 in
theorem eqIn_ce (x : Ce) (w : World) : (Op.equalIn 10000 75 (.agg #[.string x.mod, .string x.name, .int .i64 x.val]) (.agg #[.string x.mod, .string x.name, .int .i64 x.val])).run Try.prog w = .ok true w := by
  have u3 := Try.underlying3
  have a3 := Try.isAgg3
  have z3 := Try.sizeOf3
  have u9 := Try.underlying9
  have a9 := Try.isAgg9
  have z9 := Try.sizeOf9
  have hS : Try.prog.underlying 75 = some (.struct (Try.prog.fieldsOf 75)) := by kernel_rfl
  have hp : Try.prog.stoodInHeld 75 = false := by kernel_rfl
  rw [show (10000 : Nat) = 9999 + 1 from rfl, run_equalIn_agg w 9999 75 _ _ hS hp]
  simp only [Program.fieldsOf, Try.underlying75]
  go_simp
theorem guard_ce (op : BinOp) (a b : Operand) (x : Ce) (w : World) : (eqGuard op 75 a b (.agg #[.string x.mod, .string x.name, .int .i64 x.val]) (.agg #[.string x.mod, .string x.name, .int .i64 x.val])).run Try.prog w = .ok () w :=
  run_eqGuard_agg w op _ a b _ _ (by kernel_rfl)
set_option maxHeartbeats 1000000 in
theorem eqIn_pr (x : ByteArray × Int) (w : World) : (Op.equalIn 10000 69 (.agg #[.string x.1, .int .i64 x.2]) (.agg #[.string x.1, .int .i64 x.2])).run Try.prog w = .ok true w := by
  have u3 := Try.underlying3
  have a3 := Try.isAgg3
  have z3 := Try.sizeOf3
  have u9 := Try.underlying9
  have a9 := Try.isAgg9
  have z9 := Try.sizeOf9
  have hS : Try.prog.underlying 69 = some (.struct (Try.prog.fieldsOf 69)) := by kernel_rfl
  have hp : Try.prog.stoodInHeld 69 = false := by kernel_rfl
  rw [show (10000 : Nat) = 9999 + 1 from rfl, run_equalIn_agg w 9999 69 _ _ hS hp]
  simp only [Program.fieldsOf, Try.underlying69]
  go_simp
theorem guard_pr (op : BinOp) (a b : Operand) (x : ByteArray × Int) (w : World) : (eqGuard op 69 a b (.agg #[.string x.1, .int .i64 x.2]) (.agg #[.string x.1, .int .i64 x.2])).run Try.prog w = .ok () w :=
  run_eqGuard_agg w op _ a b _ _ (by kernel_rfl)

set_option maxHeartbeats 1000000 in
set_option maxRecDepth 100000 in
theorem eqC_same (w : World) (va vb : Value) (l : List Ce) (ha : CesAt w va l) (hb : CesAt w vb l) :
    Calls Try.prog 32 #[va, vb] w fun e w' => e = .returned (.bool true) ∧ Below w.heap.size w w' := by
  obtain ⟨a, b, off, cap, rfl, h0, hl, hel⟩ := ha
  obtain ⟨a', b', off', cap', rfl, h0', -, hel'⟩ := hb
  have HEL := hide hel
  have HEL' := hide hel'
  have HA := hide h0
  have HA' := hide h0'
  obtain ⟨len, hlen⟩ : ∃ n, n = l.length := ⟨_, rfl⟩
  have HL := hide hlen
  rw [← hlen] at hl HA HA' ⊢
  clear hel hel' h0 h0' hlen
  go_enter Try.func32, Try.ntmps32
  go_wp2_with fail
  go_loopw [5, 13] (fun _ i wx => ∃ j : Nat, j ≤ len ∧ i = .int .i64 j ∧ ∃ n, wx = w.drewN n) (fun _ i _ => len - (intOf i).toNat)
  case atStart => exact ⟨0, Nat.zero_le _, rfl, 0, rfl⟩
  case round =>
    obtain ⟨j, hj, rfl, n, rfl⟩ := hrel
    by_cases hjl : j < len
    · obtain ⟨d, hd⟩ : ∃ d, l[j]? = some d := ⟨_, List.getElem?_eq_getElem (by rw [← HL.out]; exact hjl)⟩
      obtain ⟨-, p0, p1, p2⟩ := HEL.out j d hd
      obtain ⟨-, q0, q1, q2⟩ := HEL'.out j d hd
      obtain rfl := HA.out (by omega)
      obtain rfl := HA'.out (by omega)
      have heq : ∀ w, Sem.run Try.prog (Op.equalIn 10000 75 (.agg #[.string d.mod, .string d.name, .int .i64 d.val]) (.agg #[.string d.mod, .string d.name, .int .i64 d.val])) w = .ok true w := fun w => eqIn_ce d w
      have hgd : ∀ op a b w, Sem.run Try.prog (eqGuard op 75 a b (.agg #[.string d.mod, .string d.name, .int .i64 d.val]) (.agg #[.string d.mod, .string d.name, .int .i64 d.val])) w = .ok () w := fun op a b w => guard_ce op a b d w
      clear hd
      go_wp2_with fail
      go_quiet (fail)
      go_wp2_with fail
      go_roundw
      case rel => exact ⟨j + 1, by omega, by go_num, n + nq, by rw [← World.drewN_drewN]⟩
      case measure => simp [intOf]; omega
    · go_wp2_with fail
      go_ret
      exact ⟨rfl, drewBelow (Below.refl _ _) _⟩

set_option maxHeartbeats 1000000 in
set_option maxRecDepth 100000 in
theorem eqP_same (w : World) (va vb : Value) (l : List (ByteArray × Int)) (ha : PrsAt w va l) (hb : PrsAt w vb l) :
    Calls Try.prog 30 #[va, vb] w fun e w' => e = .returned (.bool true) ∧ Below w.heap.size w w' := by
  obtain ⟨a, b, off, cap, rfl, h0, hl, hel⟩ := ha
  obtain ⟨a', b', off', cap', rfl, h0', -, hel'⟩ := hb
  have HEL := hide hel
  have HEL' := hide hel'
  have HA := hide h0
  have HA' := hide h0'
  obtain ⟨len, hlen⟩ : ∃ n, n = l.length := ⟨_, rfl⟩
  have HL := hide hlen
  rw [← hlen] at hl HA HA' ⊢
  clear hel hel' h0 h0' hlen
  go_enter Try.func30, Try.ntmps30
  go_wp2_with fail
  go_loopw [5, 13] (fun _ i wx => ∃ j : Nat, j ≤ len ∧ i = .int .i64 j ∧ ∃ n, wx = w.drewN n) (fun _ i _ => len - (intOf i).toNat)
  case atStart => exact ⟨0, Nat.zero_le _, rfl, 0, rfl⟩
  case round =>
    obtain ⟨j, hj, rfl, n, rfl⟩ := hrel
    by_cases hjl : j < len
    · obtain ⟨d, hd⟩ : ∃ d, l[j]? = some d := ⟨_, List.getElem?_eq_getElem (by rw [← HL.out]; exact hjl)⟩
      obtain ⟨p0, p1⟩ := HEL.out j d hd
      obtain ⟨q0, q1⟩ := HEL'.out j d hd
      obtain rfl := HA.out (by omega)
      obtain rfl := HA'.out (by omega)
      have heq : ∀ w, Sem.run Try.prog (Op.equalIn 10000 69 (.agg #[.string d.1, .int .i64 d.2]) (.agg #[.string d.1, .int .i64 d.2])) w = .ok true w := fun w => eqIn_pr d w
      have hgd : ∀ op a b w, Sem.run Try.prog (eqGuard op 69 a b (.agg #[.string d.1, .int .i64 d.2]) (.agg #[.string d.1, .int .i64 d.2])) w = .ok () w := fun op a b w => guard_pr op a b d w
      clear hd
      go_wp2_with fail
      go_quiet (fail)
      go_wp2_with fail
      go_roundw
      case rel => exact ⟨j + 1, by omega, by go_num, n + nq, by rw [← World.drewN_drewN]⟩
      case measure => simp [intOf]; omega
    · go_wp2_with fail
      go_ret
      exact ⟨rfl, drewBelow (Below.refl _ _) _⟩

end Go.Proofs.Ytmhcameodlhloab
