/- Walks over package lattice, first part: belowBounds, fits, slices.Index and Contains of bools: each answers what the plain function of Lat says, and the world stays. -/
import Derived.Test.YtmhcameodlhloabChecked
import Derived.Test.YtmhcameodlhloabBa
import Derived.WalkLawsBesides
namespace Go.Proofs.Ytmhcameodlhloab
open Go.RowKit


set_option maxHeartbeats 1000000 in
theorem belowBounds_any (w : World) (v : Value) (n a b c : Nat) (Z : Nat → Nat → Bool) (hG : Grid w v n Z) (hn : n ≤ 6) (ha : a < n) (hb : b < n) (hc : c < n) :
    Calls Try.prog 63 #[v, .int .i64 a, .int .i64 b, .int .i64 c] w fun e w' => e = .returned (.bool (Lat.belowB Z n a b c)) ∧ w' = w := by
  obtain ⟨gb, go, gc, RB, RO, C, rfl, h1, h2⟩ := hG
  have ra := h1 a ha
  have rb := h1 b hb
  have rc := h1 c hc
  go_enter Try.func63, Try.ntmps63
  go_wp2
  go_loop [12] (fun i => ∃ k : Nat, k ≤ n ∧ i = .int .i64 k ∧ ∀ d, d < k → (!(Z a d && Z b d && !Z c d)) = true) (fun i => n - (intOf i).toNat)
  case atStart => exact ⟨0, Nat.zero_le _, rfl, fun d hd => absurd hd (Nat.not_lt_zero _)⟩
  case round =>
    obtain ⟨k, hk, rfl, hall⟩ := hrel
    have HA : Hid (∀ d, d < k → (!(Z a d && Z b d && !Z c d)) = true) := hall
    clear hall
    by_cases hlt : k < n
    · have ca := h2 a k ha hlt
      have cb := h2 b k hb hlt
      have cc := h2 c k hc hlt
      clear h1 h2
      cases za : Z a k
      · rw [za] at ca
        go_wp2
        go_round
        case rel => exact ⟨k + 1, by omega, by go_num, fun d hd => by
            by_cases e : d = k
            · subst e; simp [za]
            · exact HA.out d (by omega)⟩
        case measure => simp [intOf]; omega
      · rw [za] at ca
        cases zb : Z b k
        · rw [zb] at cb
          go_wp2
          go_round
          case rel => exact ⟨k + 1, by omega, by go_num, fun d hd => by
              by_cases e : d = k
              · subst e; simp [zb]
              · exact HA.out d (by omega)⟩
          case measure => simp [intOf]; omega
        · rw [zb] at cb
          cases zc : Z c k
          · rw [zc] at cc
            go_wp2
            go_ret
            exact ⟨ret_bool (Lat.all_false hlt (by simp [za, zb, zc])).symm, rfl⟩
          · rw [zc] at cc
            go_wp2
            go_round
            case rel => exact ⟨k + 1, by omega, by go_num, fun d hd => by
                by_cases e : d = k
                · subst e; simp [zc]
                · exact HA.out d (by omega)⟩
            case measure => simp [intOf]; omega
    · go_wp2
      go_ret
      exact ⟨ret_bool (Lat.all_true (fun d hd => HA.out d (by omega))).symm, rfl⟩

set_option maxHeartbeats 1000000 in
theorem fits_any (w : World) (v : Value) (n a b : Nat) (Z : Nat → Nat → Bool) (hG : Grid w v n Z) (hn : n ≤ 6) (ha : a < n) (hb : b < n) :
    Calls Try.prog 66 #[v, .int .i64 a, .int .i64 b] w fun e w' => e = .returned (.bool (Lat.fitsB Z n a b)) ∧ w' = w := by
  obtain ⟨gb, go, gc, RB, RO, C, rfl, h1, h2⟩ := hG
  have ra := h1 a ha
  have rb := h1 b hb
  have cab := h2 b a hb ha
  cases hab : (((a : Int) != (b : Int)) && Z b a)
  · have HF : Hid (Lat.fitsB Z n a b = (List.range n).all (Lat.fitsP Z a b)) := by
      have e : (a != b) = ((a : Int) != (b : Int)) := by
        rw [Bool.eq_iff_iff]; simp only [bne_iff_ne, ne_eq]; omega
      show Lat.fitsB Z n a b = _
      unfold Lat.fitsB
      rw [e, hab]; rfl
    have hguard : ((a : Int) != (b : Int)) = false ∨ ((a : Int) != (b : Int)) = true ∧ Z b a = false := by
      cases h : ((a : Int) != (b : Int))
      · exact Or.inl rfl
      · rw [h] at hab; exact Or.inr ⟨rfl, by simpa using hab⟩
    clear hab
    rcases hguard with hg | ⟨hg, hz⟩
    case' inr => rw [hz] at cab
    all_goals
      go_enter Try.func66, Try.ntmps66
      go_wp2
      clear cab
      go_loop [22] (fun i => ∃ k : Nat, k ≤ n ∧ i = .int .i64 k ∧ ∀ d, d < k → Lat.fitsP Z a b d = true) (fun i => n - (intOf i).toNat)
      case atStart => exact ⟨0, Nat.zero_le _, rfl, fun d hd => absurd hd (Nat.not_lt_zero _)⟩
      case round =>
        obtain ⟨k, hk, rfl, hall⟩ := hrel
        have HA : Hid (∀ d, d < k → Lat.fitsP Z a b d = true) := hall
        clear hall
        by_cases hlt : k < n
        · have ca := h2 a k ha hlt
          have cb := h2 b k hb hlt
          clear h1 h2
          cases zb : Z b k
          · rw [zb] at cb
            go_wp2
            go_round
            case rel => exact ⟨k + 1, by omega, by go_num, fun d hd => by
                by_cases e : d = k
                · subst e; simp [Lat.fitsP, zb]
                · exact HA.out d (by omega)⟩
            case measure => simp [intOf]; omega
          · rw [zb] at cb
            cases za : Z a k
            · rw [za] at ca
              go_wp2
              go_ret
              exact ⟨ret_bool (by rw [HF.out]; exact (Lat.all_false hlt (by simp [Lat.fitsP, za, zb])).symm), rfl⟩
            · rw [za] at ca
              go_wp2
              go_round
              case rel => exact ⟨k + 1, by omega, by go_num, fun d hd => by
                  by_cases e : d = k
                  · subst e; simp [Lat.fitsP, za]
                  · exact HA.out d (by omega)⟩
              case measure => simp [intOf]; omega
        · go_wp2
          go_ret
          exact ⟨ret_bool (by rw [HF.out]; exact (Lat.all_true (fun d hd => HA.out d (by omega))).symm), rfl⟩
  · obtain ⟨hg, hz⟩ : ((a : Int) != (b : Int)) = true ∧ Z b a = true := by simpa using hab
    have HF : Hid (Lat.fitsB Z n a b = false) := by
      have e : (a != b) = ((a : Int) != (b : Int)) := by
        rw [Bool.eq_iff_iff]; simp only [bne_iff_ne, ne_eq]; omega
      show Lat.fitsB Z n a b = _
      unfold Lat.fitsB
      rw [e, hab]; rfl
    clear hab
    rw [hz] at cab
    go_enter Try.func66, Try.ntmps66
    go_wp2
    go_ret
    exact ⟨ret_bool HF.out.symm, rfl⟩

/-- slices.Index of bools, in a row of n of them, at false. -/
theorem indexB_any (w : World) (b off n cap : Nat) (R : Nat → Bool) (hn : n ≤ 6) (hc : ∀ c, c < n → w.cell? ⟨b, off + c, none⟩ = some (.bool (R c))) :
    Calls Try.prog 77 #[.slice (some ⟨b, off, none⟩) n cap, .bool false] w fun e w' =>
      (∃ i : Int, e = .returned (.int .i64 i) ∧ decide (0 ≤ i) = !((List.range n).all R)) ∧ w' = w := by
  go_enter Try.func77, Try.ntmps77
  go_wp2
  go_loop [8] (fun i => ∃ k : Nat, k ≤ n ∧ i = .int .i64 k ∧ ∀ d, d < k → R d = true) (fun i => n - (intOf i).toNat)
  case atStart => exact ⟨0, Nat.zero_le _, rfl, fun d hd => absurd hd (Nat.not_lt_zero _)⟩
  case round =>
    obtain ⟨k, hk, rfl, hall⟩ := hrel
    have HA : Hid (∀ d, d < k → R d = true) := hall
    clear hall
    by_cases hlt : k < n
    · have ca := hc k hlt
      cases za : R k
      · rw [za] at ca
        go_wp2
        go_ret
        exact ⟨⟨_, rfl, by rw [Lat.all_false hlt za]; simp⟩, rfl⟩
      · rw [za] at ca
        go_wp2
        go_round
        case rel => exact ⟨k + 1, by omega, by go_num, fun d hd => by
            by_cases e : d = k
            · subst e; exact za
            · exact HA.out d (by omega)⟩
        case measure => simp [intOf]; omega
    · go_wp2
      go_ret
      exact ⟨⟨-1, rfl, by rw [Lat.all_true (fun d hd => HA.out d (by omega))]; rfl⟩, rfl⟩

theorem containsB_any (w : World) (b off n cap : Nat) (R : Nat → Bool) (hn : n ≤ 6) (hc : ∀ c, c < n → w.cell? ⟨b, off + c, none⟩ = some (.bool (R c))) :
    Calls Try.prog 64 #[.slice (some ⟨b, off, none⟩) n cap, .bool false] w fun e w' => e = .returned (.bool (!((List.range n).all R))) ∧ w' = w := by
  go_enter Try.func64, Try.ntmps64
  go_wp2_with fail
  refine (indexB_any w b off n cap R hn hc).mono ?_
  rintro e w' ⟨⟨i, rfl, hi⟩, rfl⟩
  have HI : Hid (decide (0 ≤ i) = !((List.range n).all R)) := hi
  clear hi
  go_wp2
  go_ret
  exact ⟨ret_bool HI.out, rfl⟩

end Go.Proofs.Ytmhcameodlhloab
