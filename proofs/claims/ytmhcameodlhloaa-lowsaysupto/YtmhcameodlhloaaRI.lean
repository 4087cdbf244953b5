/- Walks over package downref, beside: slices.Index of strings. -/
import Derived.Test.YtmhcameodlhloaaRA
namespace Go.Proofs.Ytmhcameodlhloaa
open Go.RowKit

namespace Lat
def isAt (ss : List ByteArray) (t : ByteArray) (i : Nat) : Bool := t.toList == (ss.getD i ByteArray.empty).toList
/-- The place of a name; -1: there is none. -/
def indexI (ss : List ByteArray) (t : ByteArray) : Int := match (List.range ss.length).find? (isAt ss t) with | some i => i | none => -1
end Lat

set_option maxHeartbeats 1000000 in
theorem indexS_any (w : World) (v : Value) (ss : List ByteArray) (t : ByteArray) (hS : Strs w v ss) :
    Calls Try.prog 9 #[v, .string t] w fun e w' => e = .returned (.int .i64 (Lat.indexI ss t)) ∧ w' = w := by
  obtain ⟨a, b, off, cap, rfl, ha, hl, hs, h1⟩ := hS
  obtain ⟨len, hlen⟩ : ∃ len, len = ss.length := ⟨_, rfl⟩
  rw [← hlen] at ha hl h1 ⊢
  have HL : Hid (len = ss.length) := hlen
  clear hlen
  go_enter Try.func9, Try.ntmps9
  go_wp2
  go_loop [8] (fun i => ∃ k : Nat, k ≤ len ∧ i = .int .i64 k ∧ ∀ d, d < k → Lat.isAt ss t d = false) (fun i => len - (intOf i).toNat)
  case atStart => exact ⟨0, Nat.zero_le _, rfl, fun d hd => absurd hd (Nat.not_lt_zero _)⟩
  case round =>
    obtain ⟨k, hk, rfl, hall⟩ := hrel
    have HA : Hid (∀ d, d < k → Lat.isAt ss t d = false) := hall
    clear hall
    by_cases hlt : k < len
    · obtain rfl := ha (by omega)
      obtain ⟨s, hsk⟩ : ∃ s, s = ss.getD k ByteArray.empty := ⟨_, rfl⟩
      have hcx := h1 k hlt
      rw [← hsk] at hcx
      have HK := hide hsk
      clear hsk h1 hs
      cases hh : (t.toList == s.toList)
      · go_wp2
        go_round
        case rel => exact ⟨k + 1, by omega, by go_num, fun d hd => by
            by_cases e : d = k
            · subst e; unfold Lat.isAt; rw [← HK.out]; exact hh
            · exact HA.out d (by omega)⟩
        case measure => simp [intOf]; omega
      · go_wp2
        go_ret
        exact ⟨ret_int (by unfold Lat.indexI; rw [Lat.find_hit (by rw [← HL.out]; exact hlt) HA.out (by unfold Lat.isAt; rw [← HK.out]; exact hh)]), rfl⟩
    · go_wp2
      go_ret
      exact ⟨ret_int (by unfold Lat.indexI; rw [Lat.find_none (fun d hd => HA.out d (by have := HL.out; omega))]), rfl⟩

end Go.Proofs.Ytmhcameodlhloaa
