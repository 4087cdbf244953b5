/- The model's comparison of two diagnostics. -/
import Derived.Test.YtholefgckcoklaaGreatDoorBZAN
import Derived.Laws.StructEq
namespace Go.Proofs.YtholefgckcoklaaGreatDoor
open Go.RowKit
set_option maxHeartbeats 1000000 in
theorem eqIn_dg (x y : Dg) (w : World) : (Op.equalIn 10000 43 (.agg #[.int .i64 x.code, .string x.fn, .string x.name]) (.agg #[.int .i64 y.code, .string y.fn, .string y.name])).run Tryz.prog w = .ok (Nm.sameD x y) w := by
  have u3 := Tryz.underlying3
  have a3 := Tryz.isAgg3
  have z3 := Tryz.sizeOf3
  have u9 := Tryz.underlying9
  have a9 := Tryz.isAgg9
  have z9 := Tryz.sizeOf9
  have hS : Tryz.prog.underlying 43 = some (.struct (Tryz.prog.fieldsOf 43)) := by kernel_rfl
  have hp : Tryz.prog.stoodInHeld 43 = false := by kernel_rfl
  rw [show (10000 : Nat) = 9999 + 1 from rfl, run_equalIn_agg w 9999 43 _ _ hS hp]
  simp only [Program.fieldsOf, Tryz.underlying43]
  go_simp
  unfold Nm.sameD
  cases h1 : (x.code == y.code) <;> cases h2 : (x.fn.toList == y.fn.toList) <;> cases h3 : (x.name.toList == y.name.toList) <;> simp_all
theorem guard_dg (op : BinOp) (a b : Operand) (x y : Dg) (w : World) : (eqGuard op 43 a b (.agg #[.int .i64 x.code, .string x.fn, .string x.name]) (.agg #[.int .i64 y.code, .string y.fn, .string y.name])).run Tryz.prog w = .ok () w :=
  run_eqGuard_agg w op _ a b _ _ (by kernel_rfl)
end Go.Proofs.YtholefgckcoklaaGreatDoor
