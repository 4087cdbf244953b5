/- slices.Equal of lists of strings and of ints, where both are the same. -/
import Derived.Test.YtadpinekcadabaaWH
namespace Go.Proofs.Ytadpinekcadabaa
open Go.RowKit

set_option maxHeartbeats 1000000 in
theorem eqS_same (w : World) (v1 v2 : Value) (l : List ByteArray) (h1 : Strs w v1 l) (h2 : Strs w v2 l) :
    Calls Try.prog 18 #[v1, v2] w fun e w' => e = .returned (.bool true) ∧ Below w.heap.size w w' := by
  obtain ⟨a1, b1, o1, c1, rfl, ha1, hl, _, hc1⟩ := h1
  obtain ⟨a2, b2, o2, c2, rfl, ha2, _, _, hc2⟩ := h2
  have HA1 := hide ha1
  have HA2 := hide ha2
  have HC1 := hide hc1
  have HC2 := hide hc2
  clear ha1 ha2 hc1 hc2
  generalize hlen : l.length = len at *
  go_enter Try.func18, Try.ntmps18
  go_wp2
  go_loopw [13] (fun i wr => ∃ k : Nat, k ≤ len ∧ i = .int .i64 k ∧ Below w.heap.size w wr) (fun i _ => len - (intOf i).toNat)
  case atStart => exact ⟨0, Nat.zero_le _, rfl, Below.refl _ _⟩
  case round =>
    obtain ⟨k, hk, rfl, hnx⟩ := hrel
    by_cases hlt : k < len
    · obtain rfl := HA1.out (by omega)
      obtain rfl := HA2.out (by omega)
      have g1 := cellUp (HC1.out k hlt) hnx
      have g2 := cellUp (HC2.out k hlt) hnx
      generalize l.getD k ByteArray.empty = t at *
      have HNX := hide hnx
      have i1 : (0 : Int) ≤ (k : Int) := by omega
      have i2 : (k : Int) < (len : Int) := by omega
      clear hnx
      go_wp2_with fail
      go_quiet (fail)
      go_wp2
      go_roundw
      case rel => exact ⟨k + 1, by omega, by go_num, drewBelow HNX.out _⟩
      case measure => simp [intOf]; omega
    · go_wp2
      go_ret
      exact ⟨rfl, hnx⟩

set_option maxHeartbeats 1000000 in
theorem eqI_same (w : World) (v1 v2 : Value) (l : List Int) (h1 : Ints w v1 l) (h2 : Ints w v2 l) :
    Calls Try.prog 19 #[v1, v2] w fun e w' => e = .returned (.bool true) ∧ Below w.heap.size w w' := by
  obtain ⟨a1, b1, o1, c1, rfl, ha1, hl, hc1⟩ := h1
  obtain ⟨a2, b2, o2, c2, rfl, ha2, _, hc2⟩ := h2
  have HA1 := hide ha1
  have HA2 := hide ha2
  have HC1 := hide hc1
  have HC2 := hide hc2
  clear ha1 ha2 hc1 hc2
  generalize hlen : l.length = len at *
  have HL := hide hlen
  clear hlen
  go_enter Try.func19, Try.ntmps19
  go_wp2
  go_loopw [13] (fun i wr => ∃ k : Nat, k ≤ len ∧ i = .int .i64 k ∧ Below w.heap.size w wr) (fun i _ => len - (intOf i).toNat)
  case atStart => exact ⟨0, Nat.zero_le _, rfl, Below.refl _ _⟩
  case round =>
    obtain ⟨k, hk, rfl, hnx⟩ := hrel
    by_cases hlt : k < len
    · obtain ⟨z, hz⟩ : ∃ z, l[k]? = some z := ⟨_, List.getElem?_eq_getElem (by rw [HL.out]; exact hlt)⟩
      obtain rfl := HA1.out (by omega)
      obtain rfl := HA2.out (by omega)
      have g1 := cellUp (HC1.out k z hz) hnx
      have g2 := cellUp (HC2.out k z hz) hnx
      have HNX := hide hnx
      have i1 : (0 : Int) ≤ (k : Int) := by omega
      have i2 : (k : Int) < (len : Int) := by omega
      clear hnx hz
      go_wp2_with fail
      go_quiet (fail)
      go_wp2
      go_roundw
      case rel => exact ⟨k + 1, by omega, by go_num, drewBelow HNX.out _⟩
      case measure => simp [intOf]; omega
    · go_wp2
      go_ret
      exact ⟨rfl, hnx⟩

end Go.Proofs.Ytadpinekcadabaa
