/- SolveSays: slices.ContainsFunc with the law's function. -/
import Derived.Test.YtholefgckcoklaaZS
namespace Go.Proofs.Ytholefgckcoklaa
open Go.RowKit

/-- What the law's function asks of a number: d is n - 1. -/
def outB (d k : Int) : Bool := !(decide (0 ≤ k) && decide (k ≤ d))
/-- n - 1, as the machine reckons it. -/
def pred64 (n : Int) : Int := wrap64 (n - 1)
theorem pred_in {n : Int} (h : -9223372036854775808 < n) (h' : n ≤ 9223372036854775807) : pred64 n = n - 1 := by
  unfold pred64 wrap64
  omega

set_option maxHeartbeats 1000000 in
theorem sclo_any (w : World) (B : Nat) (n k : Int) (hB : w.cell? ⟨B, 0, none⟩ = some (.int .i64 n)) :
    Calls Try.prog 26 #[.int .i64 k, .pointer (some ⟨B, 0, none⟩)] w fun e w' => e = .returned (.bool (outB (pred64 n) k)) ∧ w' = w := by
  go_enter Try.func26, Try.ntmps26
  go_wp2_with fail
  refine (in_any w k 0 _).mono ?_
  rintro e w' ⟨rfl, rfl⟩
  go_wp2_with fail
  go_ret
  exact ⟨ret_bool (by rw [outB, pred64, Bool.not_and]), rfl⟩

/-- i tells whether one of l is out. -/
structure OutIs (l : List Int) (d i : Int) : Prop where
  is : decide (0 ≤ i) = l.any (outB d)

set_option maxHeartbeats 1000000 in
theorem indexF_any (w : World) (v : Value) (l : List Int) (B : Nat) (n : Int) (hB : w.cell? ⟨B, 0, none⟩ = some (.int .i64 n)) (hI : Ints w v l) :
    Calls Try.prog 48 #[v, .func (.func 26) #[] #[.pointer (some ⟨B, 0, none⟩)]] w fun e w' => (∃ i : Int, e = .returned (.int .i64 i) ∧ OutIs l (pred64 n) i) ∧ w' = w := by
  obtain ⟨a, b, off, cap, rfl, h0, hl, hel⟩ := hI
  have HEL := hide hel
  have HA := hide h0
  obtain ⟨len, hlen⟩ : ∃ n, n = l.length := ⟨_, rfl⟩
  have HL := hide hlen
  have HCL := hide (fun k => sclo_any w B n k hB)
  obtain ⟨d, hd⟩ : ∃ d, d = pred64 n := ⟨_, rfl⟩
  rw [← hd] at HCL ⊢
  rw [← hlen] at hl HA ⊢
  clear hel h0 hlen hd
  go_enter Try.func48, Try.ntmps48
  go_wp2
  go_loop [8] (fun i => ∃ k : Nat, k ≤ len ∧ i = .int .i64 k ∧ ∀ x ∈ l.take k, outB d x = false) (fun i => len - (intOf i).toNat)
  case atStart => exact ⟨0, Nat.zero_le _, rfl, by simp⟩
  case round =>
    obtain ⟨k, hk, rfl, hall⟩ := hrel
    have HN := hide hall
    clear hall
    by_cases hlt : k < len
    · obtain ⟨g, hg⟩ : ∃ g, l[k]? = some g := ⟨_, List.getElem?_eq_getElem (by rw [← HL.out]; exact hlt)⟩
      have c := HEL.out k g hg
      obtain rfl := HA.out (by omega)
      have HG := hide hg
      clear hg
      go_wp2_with fail
      refine (HCL.out g).mono ?_
      rintro e w' ⟨rfl, rfl⟩
      cases ho : outB d g
      · go_wp2_with fail
        go_round
        case rel => exact ⟨k + 1, by omega, by go_num, fun x hx => by
            rw [take_snoc HG.out] at hx
            rcases List.mem_append.1 hx with hx | hx
            · exact HN.out x hx
            · simp at hx; subst hx; exact ho⟩
        case measure => simp [intOf]; omega
      · go_wp2_with fail
        go_ret
        exact ⟨⟨k, rfl, ⟨by rw [List.any_eq_true.2 ⟨g, List.mem_of_getElem? HG.out, ho⟩]; simp⟩⟩, rfl⟩
    · go_wp2_with fail
      go_ret
      exact ⟨⟨-1, rfl, ⟨by rw [List.any_eq_false.2 fun x hx => by rw [HN.out x (by rw [List.take_of_length_le (by rw [← HL.out]; omega)]; exact hx)]; simp]; rfl⟩⟩, rfl⟩
theorem containsF_any (w : World) (v : Value) (l : List Int) (B : Nat) (n : Int) (hB : w.cell? ⟨B, 0, none⟩ = some (.int .i64 n)) (hI : Ints w v l) :
    Calls Try.prog 25 #[v, .func (.func 26) #[] #[.pointer (some ⟨B, 0, none⟩)]] w fun e w' => e = .returned (.bool (l.any (outB (pred64 n)))) ∧ w' = w := by
  have HX := hide (indexF_any w v l B n hB hI)
  obtain ⟨a, b, off, cap, rfl, -⟩ := hI
  obtain ⟨r, hr⟩ : ∃ r, r = l.any (outB (pred64 n)) := ⟨_, rfl⟩
  have HR := hide hr
  rw [← hr]
  clear hr
  go_enter Try.func25, Try.ntmps25
  go_wp2_with fail
  refine HX.out.mono ?_
  rintro e w' ⟨⟨i, rfl, hi⟩, rfl⟩
  go_wp2
  go_ret
  exact ⟨ret_bool (by rw [HR.out]; exact hi.is), rfl⟩

end Go.Proofs.Ytholefgckcoklaa
