/- Walks over package lattice, second part: joined, hasJoins, isOrder, lowest, isSquare, isLevel: each answers what the plain function of Lat says, and nothing that was there turns. -/
import Derived.Test.YtmhcameodlhloabLA
namespace Go.Proofs.Ytmhcameodlhloab
open Go.RowKit


set_option maxHeartbeats 1000000 in
theorem joined_any (w : World) (v : Value) (n a b : Nat) (Z : Nat → Nat → Bool) (hG : Grid w v n Z) (hn : n ≤ 6) (ha : a < n) (hb : b < n) :
    Calls Try.prog 34 #[v, .int .i64 a, .int .i64 b] w fun e w' => e = .returned (.tuple #[.int .i64 (Lat.joinN Z n a b : Nat), .int .i64 (Lat.joinE Z n a b)]) ∧ w' = w := by
  have hG' := hG
  obtain ⟨gb, go, gc, RB, RO, C, rfl, h1, h2⟩ := hG
  have HG : Hid (Grid w (.slice (some ⟨gb, go, none⟩) n gc) n Z) := hG'
  clear hG'
  have ra := h1 a ha
  have rb := h1 b hb
  go_enter Try.func34, Try.ntmps34
  go_wp2
  go_loop [11] (fun i => ∃ k : Nat, k ≤ n ∧ i = .int .i64 k ∧ ∀ d, d < k → Lat.joinP Z n a b d = false) (fun i => n - (intOf i).toNat)
  case atStart => exact ⟨0, Nat.zero_le _, rfl, fun d hd => absurd hd (Nat.not_lt_zero _)⟩
  case round =>
    obtain ⟨k, hk, rfl, hall⟩ := hrel
    have HA : Hid (∀ d, d < k → Lat.joinP Z n a b d = false) := hall
    clear hall
    by_cases hlt : k < n
    · have ca := h2 a k ha hlt
      have cb := h2 b k hb hlt
      clear h1 h2
      cases za : Z a k
      · rw [za] at ca
        go_wp2
        go_round
        case rel => exact ⟨k + 1, by omega, by go_num, fun d hd => by
            by_cases e : d = k
            · subst e; simp [Lat.joinP, za]
            · exact HA.out d (by omega)⟩
        case measure => simp [intOf]; omega
      · rw [za] at ca
        cases zb : Z b k
        · rw [zb] at cb
          go_wp2
          go_round
          case rel => exact ⟨k + 1, by omega, by go_num, fun d hd => by
              by_cases e : d = k
              · subst e; simp [Lat.joinP, zb]
              · exact HA.out d (by omega)⟩
          case measure => simp [intOf]; omega
        · rw [zb] at cb
          go_wp2_with fail
          refine (belowBounds_any w _ n a b k Z HG.out hn ha hb hlt).mono ?_
          rintro e w' ⟨rfl, rfl⟩
          cases zc : Lat.belowB Z n a b k
          · go_wp2
            go_round
            case rel => exact ⟨k + 1, by omega, by go_num, fun d hd => by
                by_cases e : d = k
                · subst e; simp [Lat.joinP, zc]
                · exact HA.out d (by omega)⟩
            case measure => simp [intOf]; omega
          · go_wp2
            go_ret2
            have hj : Lat.joinO Z n a b = some k := Lat.find_hit hlt HA.out (by simp [Lat.joinP, za, zb, zc])
            exact ⟨ret_two (by simp [Lat.joinN, hj]) (by simp [Lat.joinE, hj]), rfl⟩
    · go_wp2
      go_ret2
      have hj : Lat.joinO Z n a b = none := Lat.find_none (fun d hd => HA.out d (by omega))
      exact ⟨ret_two (by simp [Lat.joinN, hj]) (by simp [Lat.joinE, hj]), rfl⟩

theorem joinE_of {Z : Nat → Nat → Bool} {n a b : Nat} : Lat.joinE Z n a b = if Lat.joinsP Z n a b then 0 else 5 := rfl

set_option maxHeartbeats 1000000 in
theorem hasJoins_any (w : World) (v : Value) (n : Nat) (Z : Nat → Nat → Bool) (hG : Grid w v n Z) (hn : n ≤ 6) :
    Calls Try.prog 40 #[v] w fun e w' => e = .returned (.bool (Lat.joinsB Z n)) ∧ w' = w := by
  have HG : Hid (Grid w v n Z) := hG
  obtain ⟨gb, go, gc, RB, RO, C, rfl, h1, h2⟩ := hG
  clear h1 h2
  go_enter Try.func40, Try.ntmps40
  go_wp2
  go_loop [9] (fun i => ∃ k : Nat, k ≤ n ∧ i = .int .i64 k ∧ ∀ d, d < k → (List.range d).all (Lat.joinsP Z n d) = true) (fun i => n - (intOf i).toNat)
  case atStart => exact ⟨0, Nat.zero_le _, rfl, fun d hd => absurd hd (Nat.not_lt_zero _)⟩
  case round =>
    obtain ⟨k, hk, rfl, hall⟩ := hrel
    have HA : Hid (∀ d, d < k → (List.range d).all (Lat.joinsP Z n d) = true) := hall
    clear hall
    by_cases hlt : k < n
    · go_wp2
      go_loop [13] (fun i => ∃ m : Nat, m ≤ k ∧ i = .int .i64 m ∧ ∀ d, d < m → Lat.joinsP Z n k d = true) (fun i => k - (intOf i).toNat)
      case atStart => exact ⟨0, Nat.zero_le _, rfl, fun d hd => absurd hd (Nat.not_lt_zero _)⟩
      case round =>
        obtain ⟨m, hm, rfl, hall⟩ := hrel
        have HB : Hid (∀ d, d < m → Lat.joinsP Z n k d = true) := hall
        clear hall
        by_cases hml : m < k
        · go_wp2_with fail
          refine (joined_any w _ n k m Z HG.out hn hlt (by omega)).mono ?_
          rintro e w' ⟨rfl, rfl⟩
          rw [joinE_of]
          cases zj : Lat.joinsP Z n k m
          · rw [if_neg (by simp)]
            go_wp2
            go_ret
            exact ⟨ret_bool (Lat.all_false hlt (Lat.all_false hml zj)).symm, rfl⟩
          · rw [if_pos rfl]
            go_wp2
            go_round
            case rel => exact ⟨m + 1, by omega, by go_num, fun d hd => by
                by_cases e : d = m
                · subst e; exact zj
                · exact HB.out d (by omega)⟩
            case measure => simp [intOf]; omega
        · go_wp2
          go_round
          case rel => exact ⟨k + 1, by omega, by go_num, fun d hd => by
              by_cases e : d = k
              · subst e; exact Lat.all_true (fun c hc => HB.out c (by omega))
              · exact HA.out d (by omega)⟩
          case measure => simp [intOf]; omega
    · go_wp2
      go_ret
      exact ⟨ret_bool (Lat.all_true (fun d hd => HA.out d (by omega))).symm, rfl⟩

set_option maxHeartbeats 1000000 in
theorem isOrder_any (w : World) (v : Value) (n : Nat) (Z : Nat → Nat → Bool) (hG : Grid w v n Z) (hn : n ≤ 6) :
    Calls Try.prog 39 #[v] w fun e w' => e = .returned (.bool (Lat.orderB Z n)) ∧ w' = w := by
  have HG : Hid (Grid w v n Z) := hG
  obtain ⟨gb, go, gc, RB, RO, C, rfl, h1, h2⟩ := hG
  go_enter Try.func39, Try.ntmps39
  go_wp2
  go_loop [7] (fun i => ∃ k : Nat, k ≤ n ∧ i = .int .i64 k ∧ ∀ d, d < k → Lat.orderP Z n d = true) (fun i => n - (intOf i).toNat)
  case atStart => exact ⟨0, Nat.zero_le _, rfl, fun d hd => absurd hd (Nat.not_lt_zero _)⟩
  case round =>
    obtain ⟨k, hk, rfl, hall⟩ := hrel
    have HA : Hid (∀ d, d < k → Lat.orderP Z n d = true) := hall
    clear hall
    by_cases hlt : k < n
    · have ra := h1 k hlt
      have caa := h2 k k hlt hlt
      cases zkk : Z k k
      · rw [zkk] at caa
        go_wp2
        go_ret
        exact ⟨ret_bool (Lat.all_false hlt (by simp [Lat.orderP, zkk])).symm, rfl⟩
      · rw [zkk] at caa
        go_wp2
        clear caa
        go_loop [20] (fun i => ∃ m : Nat, m ≤ n ∧ i = .int .i64 m ∧ ∀ d, d < m → Lat.orderR Z n k d = true) (fun i => n - (intOf i).toNat)
        case atStart => exact ⟨0, Nat.zero_le _, rfl, fun d hd => absurd hd (Nat.not_lt_zero _)⟩
        case round =>
          obtain ⟨m, hm, rfl, hall⟩ := hrel
          have HB : Hid (∀ d, d < m → Lat.orderR Z n k d = true) := hall
          clear hall
          by_cases hml : m < n
          · have cab := h2 k m hlt hml
            cases zkm : Z k m
            · rw [zkm] at cab
              go_wp2
              go_round
              case rel => exact ⟨m + 1, by omega, by go_num, fun d hd => by
                  by_cases e : d = m
                  · subst e; simp [Lat.orderR, zkm]
                  · exact HB.out d (by omega)⟩
              case measure => simp [intOf]; omega
            · rw [zkm] at cab
              go_wp2_with fail
              refine (fits_any w _ n k m Z HG.out hn hlt hml).mono ?_
              rintro e w' ⟨rfl, rfl⟩
              cases zf : Lat.fitsB Z n k m
              · go_wp2
                go_ret
                exact ⟨ret_bool (Lat.all_false hlt (by unfold Lat.orderP; rw [Lat.all_false hml (by simp [Lat.orderR, zkm, zf])]; simp)).symm, rfl⟩
              · go_wp2
                go_round
                case rel => exact ⟨m + 1, by omega, by go_num, fun d hd => by
                    by_cases e : d = m
                    · subst e; simp [Lat.orderR, zf]
                    · exact HB.out d (by omega)⟩
                case measure => simp [intOf]; omega
          · go_wp2
            go_round
            case rel => exact ⟨k + 1, by omega, by go_num, fun d hd => by
                by_cases e : d = k
                · subst e; unfold Lat.orderP; rw [zkk, Lat.all_true (fun c hc => HB.out c (by omega))]; rfl
                · exact HA.out d (by omega)⟩
            case measure => simp [intOf]; omega
    · go_wp2
      go_ret
      exact ⟨ret_bool (Lat.all_true (fun d hd => HA.out d (by omega))).symm, rfl⟩

set_option maxHeartbeats 1000000 in
theorem lowest_any (w : World) (v : Value) (n : Nat) (Z : Nat → Nat → Bool) (hG : Grid w v n Z) (hn : n ≤ 6) :
    Calls Try.prog 35 #[v] w fun e w' => e = .returned (.int .i64 (Lat.lowN Z n : Nat)) ∧ w' = w := by
  obtain ⟨gb, go, gc, RB, RO, C, rfl, h1, h2⟩ := hG
  go_enter Try.func35, Try.ntmps35
  go_wp2
  go_loop [6] (fun i => ∃ k : Nat, k ≤ n ∧ i = .int .i64 k ∧ ∀ d, d < k → Lat.lowP Z n d = false) (fun i => n - (intOf i).toNat)
  case atStart => exact ⟨0, Nat.zero_le _, rfl, fun d hd => absurd hd (Nat.not_lt_zero _)⟩
  case round =>
    obtain ⟨k, hk, rfl, hall⟩ := hrel
    have HA : Hid (∀ d, d < k → Lat.lowP Z n d = false) := hall
    clear hall
    by_cases hlt : k < n
    · have ra := h1 k hlt
      have H2 : Hid (∀ c, c < n → w.cell? ⟨RB k, RO k + c, none⟩ = some (.bool (Z k c))) := fun c hc => h2 k c hlt hc
      go_wp2_with fail
      refine (containsB_any w (RB k) (RO k) n (C k) (Z k) hn H2.out).mono ?_
      rintro e w' ⟨rfl, rfl⟩
      rw [show (List.range n).all (Z k) = Lat.lowP Z n k from rfl]
      cases zf : Lat.lowP Z n k
      · go_wp2
        go_round
        case rel => exact ⟨k + 1, by omega, by go_num, fun d hd => by
            by_cases e : d = k
            · subst e; exact zf
            · exact HA.out d (by omega)⟩
        case measure => simp [intOf]; omega
      · go_wp2
        go_ret
        exact ⟨ret_int (by unfold Lat.lowN; rw [Lat.find_hit hlt HA.out zf]; rfl), rfl⟩
    · go_wp2
      go_ret
      exact ⟨ret_int (by unfold Lat.lowN; rw [Lat.find_none (fun d hd => HA.out d (by omega))]; rfl), rfl⟩

end Go.Proofs.Ytmhcameodlhloab
