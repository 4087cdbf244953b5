/- Walks over LatticeLaws, first part: downref.Two, downref.Rest. -/
import Derived.Test.YtmhcameodlhloabLG
namespace Go.Proofs.Ytmhcameodlhloab
open Go.RowKit

def twoS : List ByteArray := [⟨#[108, 111, 119]⟩, ⟨#[104, 105, 103, 104]⟩]
def twoZ : Nat → Nat → Bool := fun a b => !(a == 1 && b == 0)

theorem two_check : Lat.checkE twoS 2 (fun _ => 2) twoZ = 0 := by decide +kernel
theorem two_join : Lat.joinN twoZ 2 0 1 = 1 ∧ Lat.joinE twoZ 2 0 1 = 0 ∧ Lat.lowN twoZ 2 = 0 ∧ Lat.lowN (Lat.tr twoZ) 2 = 1 := by decide +kernel

set_option maxHeartbeats 400000 in
set_option maxRecDepth 100000 in
theorem two_any (w : World) :
    Calls Try.prog 8 #[] w fun e w' => ∃ vn vl, e = .returned (.agg #[vn, vl]) ∧ Strs w' vn twoS ∧ Rag w' vl 2 (fun _ => 2) twoZ ∧ Below w.heap.size w w' := by
  go_enter Try.func8, Try.ntmps8
  go_wp2
  refine bodyPost_ret (v := .agg #[.slice (some ⟨w.heap.size + 1, 0, none⟩) 2 2, .slice (some ⟨w.heap.size + 1 + 1 + 1 + 1, 0, none⟩) 2 2]) (by simp [results, Try.results8, go_sem]) rfl ⟨_, _, rfl, ?_, ?_, ?_⟩
  · refine ⟨_, w.heap.size + 1, 0, 2, rfl, fun _ => rfl, by decide, fun s hs => ?_, fun j hj => ?_⟩
    · simp only [twoS, List.mem_cons, List.not_mem_nil, or_false] at hs
      rcases hs with rfl | rfl <;> decide
    · have hj' : j < 2 := hj
      obtain rfl | rfl : j = 0 ∨ j = 1 := by omega
      · simp [go_sem, twoS]
      · simp [go_sem, twoS]
  · refine ⟨_, w.heap.size + 1 + 1 + 1 + 1, 0, 2, fun r => some ⟨w.heap.size + 1 + 1 + r, 0, none⟩, fun r => w.heap.size + 1 + 1 + r, fun _ => 0, fun _ => 2, rfl, fun _ => rfl, by decide, fun r _ => (by decide : (2 : Nat) ≤ 9223372036854775807), fun r hr => ?_, fun r c hr hc => ⟨rfl, ?_⟩⟩
    · obtain rfl | rfl : r = 0 ∨ r = 1 := by omega
      · simp [go_sem]
      · simp [go_sem]
    · have hc' : c < 2 := hc
      obtain rfl | rfl : r = 0 ∨ r = 1 := by omega
      · obtain rfl | rfl : c = 0 ∨ c = 1 := by omega
        · simp [go_sem, twoZ]
        · simp [go_sem, twoZ]
      · obtain rfl | rfl : c = 0 ∨ c = 1 := by omega
        · simp [go_sem, twoZ]
        · simp [go_sem, twoZ]
  · exact (((((Below.refl _ _).alloc (Nat.le_refl _) _).alloc (by simp) _).alloc (by simp; omega) _).alloc (by simp; omega) _).alloc (by simp; omega) _

set_option maxHeartbeats 400000 in
theorem rest_any (w : World) (x : Int) (n : Nat) (hn : 0 < n) (h6 : n ≤ 6) :
    Calls Try.prog 11 #[.int .i64 x, .int .i64 n] w fun e w' => (∃ r : Nat, r < n ∧ e = .returned (.int .i64 r)) ∧ w' = w := by
  have t1 : x.tmod n < n := Int.tmod_lt_of_pos x (by omega)
  have t2 : -(n : Int) < x.tmod n := Int.lt_tmod_of_pos x (by omega)
  go_enter Try.func11, Try.ntmps11
  go_wp2
  · go_ret
    exact ⟨⟨(x.tmod n + n).toNat, by omega, ret_int (by omega)⟩, rfl⟩
  · go_ret
    exact ⟨⟨(x.tmod n).toNat, by omega, ret_int (by omega)⟩, rfl⟩
end Go.Proofs.Ytmhcameodlhloab
