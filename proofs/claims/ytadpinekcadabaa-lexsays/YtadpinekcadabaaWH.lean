/- Four results; one cell; numbers of bytes. -/
import Derived.Test.YtadpinekcadabaaWA
import Derived.Deep.RegionHeld3
import Derived.Deep.QuietTactic
import Derived.BigQuiet
namespace Go.Proofs.Ytadpinekcadabaa
open Go.RowKit

theorem results_tmp4 {fn : Func} {t u v x : Tmp} (h : fn.results = #[.tmp t, .tmp u, .tmp v, .tmp x]) (tmps : Array Value) (P : Program) (w : World) :
    (results fn tmps).run P w = .ok (.tuple #[tmps.getD t undef, tmps.getD u undef, tmps.getD v undef, tmps.getD x undef]) w := by
  simp [results, h]
theorem ret4 {v6 v7 : Value} {a b c d : Int} (h : a = b) (h' : c = d) : Ending.returned (.tuple #[v6, v7, .int .i64 a, .int .i64 c]) = .returned (.tuple #[v6, v7, .int .i64 b, .int .i64 d]) := by rw [h, h']
theorem cell_str1 (w : World) (t : ByteArray) : (w.alloc (.cells #[.string t] 9)).cell? ⟨w.heap.size, 0, none⟩ = some (.string t) := by simp [go_sem]
theorem cell_int1 (w : World) (z : Int) : (w.alloc (.cells #[.int .i64 z] 3)).cell? ⟨w.heap.size, 0, none⟩ = some (.int .i64 z) := by simp [go_sem]
theorem nat_eqF {n c : Nat} (h : ¬ n = c) : ((n : Int) == (c : Int)) = false := by rw [nat_beq]; simp [h]
theorem nat_eqT {n c : Nat} (h : n = c) : ((n : Int) == (c : Int)) = true := by rw [nat_beq]; simp [h]

end Go.Proofs.Ytadpinekcadabaa
