/- Walks over package lattice, first part: belowBounds, fits, slices.Index and Contains of bools: each answers what the plain function of Lat says, and the world stays. -/
import Derived.Test.YtbncnkfogkhoeaaGreatDoorChecked
import Derived.Test.YtbncnkfogkhoeaaGreatDoorZA
import Derived.WalkLawsBesides
import Derived.Maps.OwnSet
import Derived.Deep.LoopGhost
import Derived.Deep.OwnRows
import Derived.Deep.Light
import Derived.CellFam
import Derived.BigGuard
import Derived.Deep.RegionWith
namespace Go.Proofs.YtbncnkfogkhoeaaGreatDoor
open Go.RowKit


set_option maxHeartbeats 1000000 in
theorem belowBounds_any (w : World) (v : Value) (n a b c : Nat) (Z : Nat → Nat → Bool) (hG : Grid w v n Z) (hn : n ≤ 6) (ha : a < n) (hb : b < n) (hc : c < n) :
    Calls Tryz.prog 221 #[v, .int .i64 a, .int .i64 b, .int .i64 c] w fun e w' => e = .returned (.bool (Lat.belowB Z n a b c)) ∧ w' = w := by
  obtain ⟨gb, go, gc, RB, RO, C, rfl, h1, h2⟩ := hG
  have ra := h1 a ha
  have rb := h1 b hb
  have rc := h1 c hc
  go_enter Tryz.func221, Tryz.ntmps221
  go_wp2
  go_loop [12] (fun i => ∃ k : Nat, k ≤ n ∧ i = .int .i64 k ∧ ∀ d, d < k → (!(Z a d && Z b d && !Z c d)) = true) (fun i => n - (intOf i).toNat)
  case atStart => exact ⟨0, Nat.zero_le _, rfl, fun d hd => absurd hd (Nat.not_lt_zero _)⟩
  case round =>
    obtain ⟨k, hk, rfl, hall⟩ := hrel
    have HA : Hid (∀ d, d < k → (!(Z a d && Z b d && !Z c d)) = true) := hall
    clear hall
    by_cases hlt : k < n
    · have ca := h2 a k ha hlt
      have cb := h2 b k hb hlt
      have cc := h2 c k hc hlt
      clear h1 h2
      cases za : Z a k
      · rw [za] at ca
        go_wp2
        go_round
        case rel => exact ⟨k + 1, by omega, by go_num, fun d hd => by
            by_cases e : d = k
            · subst e; simp [za]
            · exact HA.out d (by omega)⟩
        case measure => simp [intOf]; omega
      · rw [za] at ca
        cases zb : Z b k
        · rw [zb] at cb
          go_wp2
          go_round
          case rel => exact ⟨k + 1, by omega, by go_num, fun d hd => by
              by_cases e : d = k
              · subst e; simp [zb]
              · exact HA.out d (by omega)⟩
          case measure => simp [intOf]; omega
        · rw [zb] at cb
          cases zc : Z c k
          · rw [zc] at cc
            go_wp2
            go_ret
            exact ⟨ret_bool (Lat.all_false hlt (by simp [za, zb, zc])).symm, rfl⟩
          · rw [zc] at cc
            go_wp2
            go_round
            case rel => exact ⟨k + 1, by omega, by go_num, fun d hd => by
                by_cases e : d = k
                · subst e; simp [zc]
                · exact HA.out d (by omega)⟩
            case measure => simp [intOf]; omega
    · go_wp2
      go_ret
      exact ⟨ret_bool (Lat.all_true (fun d hd => HA.out d (by omega))).symm, rfl⟩

set_option maxHeartbeats 1000000 in
theorem fits_any (w : World) (v : Value) (n a b : Nat) (Z : Nat → Nat → Bool) (hG : Grid w v n Z) (hn : n ≤ 6) (ha : a < n) (hb : b < n) :
    Calls Tryz.prog 191 #[v, .int .i64 a, .int .i64 b] w fun e w' => e = .returned (.bool (Lat.fitsB Z n a b)) ∧ w' = w := by
  obtain ⟨gb, go, gc, RB, RO, C, rfl, h1, h2⟩ := hG
  have ra := h1 a ha
  have rb := h1 b hb
  have cab := h2 b a hb ha
  cases hab : (((a : Int) != (b : Int)) && Z b a)
  · have HF : Hid (Lat.fitsB Z n a b = (List.range n).all (Lat.fitsP Z a b)) := by
      have e : (a != b) = ((a : Int) != (b : Int)) := by
        rw [Bool.eq_iff_iff]; simp only [bne_iff_ne, ne_eq]; omega
      show Lat.fitsB Z n a b = _
      unfold Lat.fitsB
      rw [e, hab]; rfl
    have hguard : ((a : Int) != (b : Int)) = false ∨ ((a : Int) != (b : Int)) = true ∧ Z b a = false := by
      cases h : ((a : Int) != (b : Int))
      · exact Or.inl rfl
      · rw [h] at hab; exact Or.inr ⟨rfl, by simpa using hab⟩
    clear hab
    rcases hguard with hg | ⟨hg, hz⟩
    case' inr => rw [hz] at cab
    all_goals
      go_enter Tryz.func191, Tryz.ntmps191
      go_wp2
      clear cab
      go_loop [22] (fun i => ∃ k : Nat, k ≤ n ∧ i = .int .i64 k ∧ ∀ d, d < k → Lat.fitsP Z a b d = true) (fun i => n - (intOf i).toNat)
      case atStart => exact ⟨0, Nat.zero_le _, rfl, fun d hd => absurd hd (Nat.not_lt_zero _)⟩
      case round =>
        obtain ⟨k, hk, rfl, hall⟩ := hrel
        have HA : Hid (∀ d, d < k → Lat.fitsP Z a b d = true) := hall
        clear hall
        by_cases hlt : k < n
        · have ca := h2 a k ha hlt
          have cb := h2 b k hb hlt
          clear h1 h2
          cases zb : Z b k
          · rw [zb] at cb
            go_wp2
            go_round
            case rel => exact ⟨k + 1, by omega, by go_num, fun d hd => by
                by_cases e : d = k
                · subst e; simp [Lat.fitsP, zb]
                · exact HA.out d (by omega)⟩
            case measure => simp [intOf]; omega
          · rw [zb] at cb
            cases za : Z a k
            · rw [za] at ca
              go_wp2
              go_ret
              exact ⟨ret_bool (by rw [HF.out]; exact (Lat.all_false hlt (by simp [Lat.fitsP, za, zb])).symm), rfl⟩
            · rw [za] at ca
              go_wp2
              go_round
              case rel => exact ⟨k + 1, by omega, by go_num, fun d hd => by
                  by_cases e : d = k
                  · subst e; simp [Lat.fitsP, za]
                  · exact HA.out d (by omega)⟩
              case measure => simp [intOf]; omega
        · go_wp2
          go_ret
          exact ⟨ret_bool (by rw [HF.out]; exact (Lat.all_true (fun d hd => HA.out d (by omega))).symm), rfl⟩
  · obtain ⟨hg, hz⟩ : ((a : Int) != (b : Int)) = true ∧ Z b a = true := by simpa using hab
    have HF : Hid (Lat.fitsB Z n a b = false) := by
      have e : (a != b) = ((a : Int) != (b : Int)) := by
        rw [Bool.eq_iff_iff]; simp only [bne_iff_ne, ne_eq]; omega
      show Lat.fitsB Z n a b = _
      unfold Lat.fitsB
      rw [e, hab]; rfl
    clear hab
    rw [hz] at cab
    go_enter Tryz.func191, Tryz.ntmps191
    go_wp2
    go_ret
    exact ⟨ret_bool HF.out.symm, rfl⟩

end Go.Proofs.YtbncnkfogkhoeaaGreatDoor

/- Walks over package lattice, second part: joined, hasJoins, isOrder, lowest, isSquare, isLevel: each answers what the plain function of Lat says, and nothing that was there turns. -/
namespace Go.Proofs.YtbncnkfogkhoeaaGreatDoor
open Go.RowKit


set_option maxHeartbeats 1000000 in
theorem joined_any (w : World) (v : Value) (n a b : Nat) (Z : Nat → Nat → Bool) (hG : Grid w v n Z) (hn : n ≤ 6) (ha : a < n) (hb : b < n) :
    Calls Tryz.prog 192 #[v, .int .i64 a, .int .i64 b] w fun e w' => e = .returned (.tuple #[.int .i64 (Lat.joinN Z n a b : Nat), .int .i64 (Lat.joinE Z n a b)]) ∧ w' = w := by
  have hG' := hG
  obtain ⟨gb, go, gc, RB, RO, C, rfl, h1, h2⟩ := hG
  have HG : Hid (Grid w (.slice (some ⟨gb, go, none⟩) n gc) n Z) := hG'
  clear hG'
  have ra := h1 a ha
  have rb := h1 b hb
  go_enter Tryz.func192, Tryz.ntmps192
  go_wp2
  go_loop [11] (fun i => ∃ k : Nat, k ≤ n ∧ i = .int .i64 k ∧ ∀ d, d < k → Lat.joinP Z n a b d = false) (fun i => n - (intOf i).toNat)
  case atStart => exact ⟨0, Nat.zero_le _, rfl, fun d hd => absurd hd (Nat.not_lt_zero _)⟩
  case round =>
    obtain ⟨k, hk, rfl, hall⟩ := hrel
    have HA : Hid (∀ d, d < k → Lat.joinP Z n a b d = false) := hall
    clear hall
    by_cases hlt : k < n
    · have ca := h2 a k ha hlt
      have cb := h2 b k hb hlt
      clear h1 h2
      cases za : Z a k
      · rw [za] at ca
        go_wp2
        go_round
        case rel => exact ⟨k + 1, by omega, by go_num, fun d hd => by
            by_cases e : d = k
            · subst e; simp [Lat.joinP, za]
            · exact HA.out d (by omega)⟩
        case measure => simp [intOf]; omega
      · rw [za] at ca
        cases zb : Z b k
        · rw [zb] at cb
          go_wp2
          go_round
          case rel => exact ⟨k + 1, by omega, by go_num, fun d hd => by
              by_cases e : d = k
              · subst e; simp [Lat.joinP, zb]
              · exact HA.out d (by omega)⟩
          case measure => simp [intOf]; omega
        · rw [zb] at cb
          go_wp2_with fail
          refine (belowBounds_any w _ n a b k Z HG.out hn ha hb hlt).mono ?_
          rintro e w' ⟨rfl, rfl⟩
          cases zc : Lat.belowB Z n a b k
          · go_wp2
            go_round
            case rel => exact ⟨k + 1, by omega, by go_num, fun d hd => by
                by_cases e : d = k
                · subst e; simp [Lat.joinP, zc]
                · exact HA.out d (by omega)⟩
            case measure => simp [intOf]; omega
          · go_wp2
            go_ret2
            have hj : Lat.joinO Z n a b = some k := Lat.find_hit hlt HA.out (by simp [Lat.joinP, za, zb, zc])
            exact ⟨ret_two (by simp [Lat.joinN, hj]) (by simp [Lat.joinE, hj]), rfl⟩
    · go_wp2
      go_ret2
      have hj : Lat.joinO Z n a b = none := Lat.find_none (fun d hd => HA.out d (by omega))
      exact ⟨ret_two (by simp [Lat.joinN, hj]) (by simp [Lat.joinE, hj]), rfl⟩

theorem joinE_of {Z : Nat → Nat → Bool} {n a b : Nat} : Lat.joinE Z n a b = if Lat.joinsP Z n a b then 0 else 5 := rfl

set_option maxHeartbeats 1000000 in
theorem hasJoins_any (w : World) (v : Value) (n : Nat) (Z : Nat → Nat → Bool) (hG : Grid w v n Z) (hn : n ≤ 6) :
    Calls Tryz.prog 144 #[v] w fun e w' => e = .returned (.bool (Lat.joinsB Z n)) ∧ w' = w := by
  have HG : Hid (Grid w v n Z) := hG
  obtain ⟨gb, go, gc, RB, RO, C, rfl, h1, h2⟩ := hG
  clear h1 h2
  go_enter Tryz.func144, Tryz.ntmps144
  go_wp2
  go_loop [9] (fun i => ∃ k : Nat, k ≤ n ∧ i = .int .i64 k ∧ ∀ d, d < k → (List.range d).all (Lat.joinsP Z n d) = true) (fun i => n - (intOf i).toNat)
  case atStart => exact ⟨0, Nat.zero_le _, rfl, fun d hd => absurd hd (Nat.not_lt_zero _)⟩
  case round =>
    obtain ⟨k, hk, rfl, hall⟩ := hrel
    have HA : Hid (∀ d, d < k → (List.range d).all (Lat.joinsP Z n d) = true) := hall
    clear hall
    by_cases hlt : k < n
    · go_wp2
      go_loop [13] (fun i => ∃ m : Nat, m ≤ k ∧ i = .int .i64 m ∧ ∀ d, d < m → Lat.joinsP Z n k d = true) (fun i => k - (intOf i).toNat)
      case atStart => exact ⟨0, Nat.zero_le _, rfl, fun d hd => absurd hd (Nat.not_lt_zero _)⟩
      case round =>
        obtain ⟨m, hm, rfl, hall⟩ := hrel
        have HB : Hid (∀ d, d < m → Lat.joinsP Z n k d = true) := hall
        clear hall
        by_cases hml : m < k
        · go_wp2_with fail
          refine (joined_any w _ n k m Z HG.out hn hlt (by omega)).mono ?_
          rintro e w' ⟨rfl, rfl⟩
          rw [joinE_of]
          cases zj : Lat.joinsP Z n k m
          · rw [if_neg (by simp)]
            go_wp2
            go_ret
            exact ⟨ret_bool (Lat.all_false hlt (Lat.all_false hml zj)).symm, rfl⟩
          · rw [if_pos rfl]
            go_wp2
            go_round
            case rel => exact ⟨m + 1, by omega, by go_num, fun d hd => by
                by_cases e : d = m
                · subst e; exact zj
                · exact HB.out d (by omega)⟩
            case measure => simp [intOf]; omega
        · go_wp2
          go_round
          case rel => exact ⟨k + 1, by omega, by go_num, fun d hd => by
              by_cases e : d = k
              · subst e; exact Lat.all_true (fun c hc => HB.out c (by omega))
              · exact HA.out d (by omega)⟩
          case measure => simp [intOf]; omega
    · go_wp2
      go_ret
      exact ⟨ret_bool (Lat.all_true (fun d hd => HA.out d (by omega))).symm, rfl⟩

set_option maxHeartbeats 1000000 in
theorem isOrder_any (w : World) (v : Value) (n : Nat) (Z : Nat → Nat → Bool) (hG : Grid w v n Z) (hn : n ≤ 6) :
    Calls Tryz.prog 143 #[v] w fun e w' => e = .returned (.bool (Lat.orderB Z n)) ∧ w' = w := by
  have HG : Hid (Grid w v n Z) := hG
  obtain ⟨gb, go, gc, RB, RO, C, rfl, h1, h2⟩ := hG
  go_enter Tryz.func143, Tryz.ntmps143
  go_wp2
  go_loop [7] (fun i => ∃ k : Nat, k ≤ n ∧ i = .int .i64 k ∧ ∀ d, d < k → Lat.orderP Z n d = true) (fun i => n - (intOf i).toNat)
  case atStart => exact ⟨0, Nat.zero_le _, rfl, fun d hd => absurd hd (Nat.not_lt_zero _)⟩
  case round =>
    obtain ⟨k, hk, rfl, hall⟩ := hrel
    have HA : Hid (∀ d, d < k → Lat.orderP Z n d = true) := hall
    clear hall
    by_cases hlt : k < n
    · have ra := h1 k hlt
      have caa := h2 k k hlt hlt
      cases zkk : Z k k
      · rw [zkk] at caa
        go_wp2
        go_ret
        exact ⟨ret_bool (Lat.all_false hlt (by simp [Lat.orderP, zkk])).symm, rfl⟩
      · rw [zkk] at caa
        go_wp2
        clear caa
        go_loop [20] (fun i => ∃ m : Nat, m ≤ n ∧ i = .int .i64 m ∧ ∀ d, d < m → Lat.orderR Z n k d = true) (fun i => n - (intOf i).toNat)
        case atStart => exact ⟨0, Nat.zero_le _, rfl, fun d hd => absurd hd (Nat.not_lt_zero _)⟩
        case round =>
          obtain ⟨m, hm, rfl, hall⟩ := hrel
          have HB : Hid (∀ d, d < m → Lat.orderR Z n k d = true) := hall
          clear hall
          by_cases hml : m < n
          · have cab := h2 k m hlt hml
            cases zkm : Z k m
            · rw [zkm] at cab
              go_wp2
              go_round
              case rel => exact ⟨m + 1, by omega, by go_num, fun d hd => by
                  by_cases e : d = m
                  · subst e; simp [Lat.orderR, zkm]
                  · exact HB.out d (by omega)⟩
              case measure => simp [intOf]; omega
            · rw [zkm] at cab
              go_wp2_with fail
              refine (fits_any w _ n k m Z HG.out hn hlt hml).mono ?_
              rintro e w' ⟨rfl, rfl⟩
              cases zf : Lat.fitsB Z n k m
              · go_wp2
                go_ret
                exact ⟨ret_bool (Lat.all_false hlt (by unfold Lat.orderP; rw [Lat.all_false hml (by simp [Lat.orderR, zkm, zf])]; simp)).symm, rfl⟩
              · go_wp2
                go_round
                case rel => exact ⟨m + 1, by omega, by go_num, fun d hd => by
                    by_cases e : d = m
                    · subst e; simp [Lat.orderR, zf]
                    · exact HB.out d (by omega)⟩
                case measure => simp [intOf]; omega
          · go_wp2
            go_round
            case rel => exact ⟨k + 1, by omega, by go_num, fun d hd => by
                by_cases e : d = k
                · subst e; unfold Lat.orderP; rw [zkk, Lat.all_true (fun c hc => HB.out c (by omega))]; rfl
                · exact HA.out d (by omega)⟩
            case measure => simp [intOf]; omega
    · go_wp2
      go_ret
      exact ⟨ret_bool (Lat.all_true (fun d hd => HA.out d (by omega))).symm, rfl⟩

end Go.Proofs.YtbncnkfogkhoeaaGreatDoor

/- Walks over package lattice, third part: isSquare, isLevel, isName. -/
namespace Go.Proofs.YtbncnkfogkhoeaaGreatDoor
open Go.RowKit

namespace Lat
def squareP (L : Nat → Nat) (n r : Nat) : Bool := L r == n
def squareB (G : Nat) (L : Nat → Nat) (n : Nat) : Bool := G == n && (List.range G).all (squareP L n)
end Lat


set_option maxHeartbeats 1000000 in
theorem isSquare_any (w : World) (v : Value) (G n : Nat) (L : Nat → Nat) (Z : Nat → Nat → Bool) (hR : Rag w v G L Z) (hn : n ≤ 6) :
    Calls Tryz.prog 142 #[v, .int .i64 n] w fun e w' => e = .returned (.bool (Lat.squareB G L n)) ∧ w' = w := by
  obtain ⟨ga, gb, go, gc, A, RB, RO, C, rfl, hg, hGm, hLm, h1, h2⟩ := hR
  clear h2
  by_cases hGn : G = n
  · subst hGn
    have HF : Hid (Lat.squareB G L G = (List.range G).all (Lat.squareP L G)) := by
      show Lat.squareB G L G = _
      unfold Lat.squareB; simp
    go_enter Tryz.func142, Tryz.ntmps142
    go_wp2
    go_loop [13] (fun i => ∃ k : Nat, k ≤ G ∧ i = .int .i64 k ∧ ∀ d, d < k → Lat.squareP L G d = true) (fun i => G - (intOf i).toNat)
    case atStart => exact ⟨0, Nat.zero_le _, rfl, fun d hd => absurd hd (Nat.not_lt_zero _)⟩
    case round =>
      obtain ⟨k, hk, rfl, hall⟩ := hrel
      have HA : Hid (∀ d, d < k → Lat.squareP L G d = true) := hall
      clear hall
      by_cases hlt : k < G
      · obtain rfl := hg (by omega)
        have ra := h1 k hlt
        have rl := hLm k hlt
        by_cases hs : L k = G
        · have hs' : ((L k : Int) != (G : Int)) = false := by rw [nat_bne]; simp [hs]
          have HS : Hid (L k = G) := hs
          clear hs
          go_wp2
          go_round
          case rel => exact ⟨k + 1, by omega, by go_num, fun d hd => by
              by_cases e : d = k
              · subst e; simp [Lat.squareP, HS.out]
              · exact HA.out d (by omega)⟩
          case measure => simp [intOf]; omega
        · have hs' : ((L k : Int) != (G : Int)) = true := by rw [nat_bne]; simp [hs]
          have HS : Hid (¬ L k = G) := hs
          clear hs
          go_wp2
          go_ret
          exact ⟨ret_bool (by rw [HF.out]; exact (Lat.all_false hlt (by simp [Lat.squareP, HS.out])).symm), rfl⟩
      · go_wp2
        go_ret
        exact ⟨ret_bool (by rw [HF.out]; exact (Lat.all_true (fun d hd => HA.out d (by omega))).symm), rfl⟩
  · have hs' : ((G : Int) != (n : Int)) = true := by rw [nat_bne]; simp [hGn]
    have HS : Hid (¬ G = n) := hGn
    clear hGn
    go_enter Tryz.func142, Tryz.ntmps142
    go_wp2
    go_ret
    exact ⟨ret_bool (by simp [Lat.squareB, HS.out]), rfl⟩

set_option maxHeartbeats 1000000 in
theorem lisName_any (w : World) (s : ByteArray) (hs : s.size ≤ maxLen) :
    Calls Tryz.prog 75 #[.string s] w fun e w' => e = .returned (.bool (Lat.nameB s.data.toList)) ∧ w' = w := by
  unfold maxLen at hs
  by_cases h1 : s.size < 1
  · have HF : Hid (Lat.nameB s.data.toList = false) := by
      show Lat.nameB s.data.toList = false
      unfold Lat.nameB; rw [size_list]; simp; omega
    go_enter Tryz.func75, Tryz.ntmps75
    go_wp2
    go_ret
    exact ⟨ret_bool HF.out.symm, rfl⟩
  · by_cases h8 : 8 < s.size
    · have HF : Hid (Lat.nameB s.data.toList = false) := by
        show Lat.nameB s.data.toList = false
        unfold Lat.nameB; rw [size_list]; simp; omega
      go_enter Tryz.func75, Tryz.ntmps75
      go_wp2
      go_ret
      exact ⟨ret_bool HF.out.symm, rfl⟩
    · have HF : Hid (Lat.nameB s.data.toList = s.data.toList.all Lat.letterB) := by
        show Lat.nameB s.data.toList = _
        unfold Lat.nameB; rw [size_list]
        rw [decide_eq_true (by omega : 1 ≤ s.size), decide_eq_true (by omega : s.size ≤ 8)]; rfl
      go_enter Tryz.func75, Tryz.ntmps75
      go_wp2
      go_loop [14] (fun i => ∃ k : Nat, k ≤ s.size ∧ i = .int .i64 k ∧ ∀ j (hj : j < s.size), j < k → Lat.letterB s[j] = true) (fun i => s.size - (intOf i).toNat)
      case atStart => exact ⟨0, Nat.zero_le _, rfl, fun j hj hd => absurd hd (Nat.not_lt_zero _)⟩
      case round =>
        obtain ⟨k, hk, rfl, hall⟩ := hrel
        have HA : Hid (∀ j (hj : j < s.size), j < k → Lat.letterB s[j] = true) := hall
        clear hall
        by_cases hlt : k < s.size
        · go_wp2
          · go_ret
            exact ⟨ret_bool (by rw [HF.out, letters_not s k hlt (by simp [Lat.letterB]; omega)]), rfl⟩
          · go_round
            case rel => exact ⟨k + 1, by omega, by go_num, fun j hj hd => by
                by_cases e : j = k
                · subst e; simp [Lat.letterB]; omega
                · exact HA.out j hj (by omega)⟩
            case measure => simp [intOf]; omega
          · go_ret
            exact ⟨ret_bool (by rw [HF.out, letters_not s k hlt (by simp [Lat.letterB]; omega)]), rfl⟩
        · go_wp2
          go_ret
          exact ⟨ret_bool (by rw [HF.out, letters_all s (fun j hj => HA.out j hj (by omega))]), rfl⟩

end Go.Proofs.YtbncnkfogkhoeaaGreatDoor

/- Walks over package lattice, fourth part: areNames: names that are NAMEs, none of them twice, at least one. -/
namespace Go.Proofs.YtbncnkfogkhoeaaGreatDoor
open Go.RowKit Go.Maps Go.WideMaps

namespace Lat
def namesR (ss : List ByteArray) (k : Nat) : Bool := !((ss.take k).any fun t => t.data.toList == (ss.getD k ByteArray.empty).data.toList) && nameB (ss.getD k ByteArray.empty).data.toList
def namesB (ss : List ByteArray) : Bool := (List.range ss.length).all (namesR ss) && decide (0 < ss.length)
end Lat

theorem lawS : Keyed Tryz.prog 9 := string_keyed Tryz.underlying9
theorem zeroI (w : World) : (zeroValue 3).run Tryz.prog w = .ok (.int .i64 0) w := by kernel_rfl

theorem any_take (ss : List ByteArray) (k : Nat) (hk : k < ss.length) (p : ByteArray → Bool) : (ss.take (k + 1)).any p = ((ss.take k).any p || p (ss.getD k ByteArray.empty)) := by
  rw [List.take_succ_eq_append_getElem hk, List.any_append]
  simp [List.getD, List.getElem?_eq_getElem hk]

theorem has_next {ss : List ByteArray} {k : Nat} (hk : k < ss.length) {D : DataW Unit} (hm : IsMap D) (h : ∀ l, Maps.has D (.string l) = (ss.take k).any fun t => t.data.toList == l) (d : DataW Unit) :
    ∀ l, Maps.has (D.put (.string (ss.getD k ByteArray.empty).data.toList) d) (.string l) = (ss.take (k + 1)).any fun t => t.data.toList == l := by
  intro l
  rw [any_take ss k hk]
  by_cases e : l = (ss.getD k ByteArray.empty).data.toList
  · subst e
    rw [has_put_same hm (by simp [WideAt.IsKeyLit])]
    simp
  · rw [has_put_other (by intro h'; exact e (by injection h')), h l]
    have e' : ((ss.getD k ByteArray.empty).data.toList == l) = false := beq_eq_false_iff_ne.2 (fun h' => e h'.symm)
    rw [e', Bool.or_false]

theorem size_getD {ss : List ByteArray} (h : ∀ s ∈ ss, s.size ≤ maxLen) (k : Nat) : (ss.getD k ByteArray.empty).size ≤ maxLen := by
  by_cases hk : k < ss.length
  · rw [List.getD, List.getElem?_eq_getElem hk]; exact h _ (List.getElem_mem hk)
  · rw [List.getD, List.getElem?_eq_none (by omega)]; exact Nat.zero_le _

set_option maxHeartbeats 1000000 in
set_option maxRecDepth 100000 in
theorem lareNames_any (w : World) (v : Value) (ss : List ByteArray) (hS : Strs w v ss) :
    Calls Tryz.prog 141 #[v] w fun e w' => e = .returned (.bool (Lat.namesB ss)) ∧ Below w.heap.size w w' := by
  obtain ⟨a, b, off, cap, rfl, ha, hl, hs, h1⟩ := hS
  obtain ⟨len, hlen⟩ : ∃ len, len = ss.length := ⟨_, rfl⟩
  rw [← hlen] at ha hl h1 ⊢
  have HL : Hid (len = ss.length) := hlen
  clear hlen
  have hmm := @run_makeMap Tryz.prog
  go_enter Tryz.func141, Tryz.ntmps141
  go_wp2
  go_loopw [11] (fun i wr => ∃ k : Nat, k ≤ len ∧ i = .int .i64 k ∧ (∀ d, d < k → Lat.namesR ss d = true) ∧ Below w.heap.size w wr ∧
      ∃ D : DataW Unit, wr.ownsMap Tryz.prog 9 (plainElem Tryz.prog 3) w.heap.size k D ∧ ∀ l, Maps.has D (.string l) = (ss.take k).any fun t => t.data.toList == l)
    (fun i _ => len - (intOf i).toNat)
  case atStart => exact ⟨0, Nat.zero_le _, rfl, fun d hd => absurd hd (Nat.not_lt_zero _), (Below.refl _ _).alloc (Nat.le_refl _) _, .map [], World.ownsMap_made _ _ _ _, fun l => rfl⟩
  case round =>
    obtain ⟨k, hk, rfl, hall, hnx, D, hown, hhas⟩ := hrel
    have HA : Hid (∀ d, d < k → Lat.namesR ss d = true) := hall
    have HH : Hid (∀ l, Maps.has D (.string l) = (ss.take k).any fun t => t.data.toList == l) := hhas
    clear hall hhas hmm
    by_cases hlt : k < len
    · obtain rfl := ha (by omega)
      obtain ⟨s, hsk⟩ : ∃ s, s = ss.getD k ByteArray.empty := ⟨_, rfl⟩
      have hcx : wr.cell? ⟨b, off + k, none⟩ = some (.string s) := by
        rw [hsk]; rw [hnx.cell (World.block_lt_of_cell? _ _ (h1 k hlt))]; exact h1 k hlt
      have hsz : s.size ≤ maxLen := by rw [hsk]; exact size_getD hs k
      have hkey : keyOf Tryz.prog 9 (.string s) = some (.string s.data.toList) := keyOf_string_mk Tryz.underlying9 hsz
      have HK : Hid (s = ss.getD k ByteArray.empty) := hsk
      have hbad : Maps.has D (.string s.data.toList) = true ∨ Lat.nameB s.data.toList = false → Lat.namesB ss = false := by
        intro h
        have : Lat.namesR ss k = false := by
          unfold Lat.namesR
          rw [← HK.out, ← HH.out]
          rcases h with h | h <;> simp [h]
        unfold Lat.namesB
        rw [Lat.all_false (by rw [← HL.out]; exact hlt) this]; rfl
      have HB := hide hbad
      clear hsk h1 hs hbad
      cases hh : Maps.has D (.string s.data.toList)
      · cases hnm : Lat.nameB s.data.toList
        · go_wp2_with (first
            | (at_lookup; refine wpList_lookup_own_ok_int _ rfl _ _ 184 rfl 9 3 .i64 lawS Tryz.underlying184 Tryz.underlying3 (zeroI _) w.heap.size k D rfl hown _ _ rfl hkey ?_; intro c _ _)
            | (go_at_call 75; refine (lisName_any _ s hsz).mono ?_; rintro e w' ⟨rfl, rfl⟩)
            | go_in)
          go_ret
          exact ⟨ret_bool ((unhide HB) (Or.inr hnm)).symm, hnx⟩
        · go_wp2_with (first
            | (at_lookup; refine wpList_lookup_own_ok_int _ rfl _ _ 184 rfl 9 3 .i64 lawS Tryz.underlying184 Tryz.underlying3 (zeroI _) w.heap.size k D rfl hown _ _ rfl hkey ?_; intro c _ _)
            | (go_at_call 75; refine (lisName_any _ s hsz).mono ?_; rintro e w' ⟨rfl, rfl⟩)
            | (at_mapUpdate; refine wpList_mapUpdate_own _ rfl _ _ _ 184 rfl 9 3 lawS Tryz.underlying184 _ w.heap.size k _ rfl hown (by unfold maxLen; omega) _ _ _ rfl rfl hkey _ [] (plainElem_int Tryz.underlying3 (WalkArith.wf_i64 (by omega))) ?_)
            | go_in)
          intro w1 hown1 hgrow1
          have R2 := hnx.grown hgrow1 hnx.size (fun j hj => by cases hj; exact Nat.le_refl _)
          have hn1 : Lat.namesR ss k = true := by
            unfold Lat.namesR
            rw [← HK.out, ← HH.out, hh, hnm]; rfl
          have hn2 := has_next (k := k) (by rw [← HL.out]; exact hlt) hown.isMap HH.out (.lit (.int .i64 k))
          rw [← HK.out] at hn2
          have H2 := hide hn2
          have H1 := hide hn1
          clear hgrow1 hown hcx hn1 hn2 hh
          go_wp2
          go_roundw
          case rel => exact ⟨k + 1, by omega, by go_num, fun d hd => by
              by_cases e : d = k
              · subst e; exact unhide H1
              · exact HA.out d (by omega), R2, _, hown1, unhide H2⟩
          case measure => simp [intOf]; omega
      · go_wp2_with (first
            | (at_lookup; refine wpList_lookup_own_ok_int _ rfl _ _ 184 rfl 9 3 .i64 lawS Tryz.underlying184 Tryz.underlying3 (zeroI _) w.heap.size k D rfl hown _ _ rfl hkey ?_; intro c _ _)
            | go_in)
        go_ret
        exact ⟨ret_bool ((unhide HB) (Or.inl hh)).symm, hnx⟩
    · go_wp2
      go_ret
      refine ⟨ret_bool ?_, hnx⟩
      unfold Lat.namesB
      rw [Lat.all_true (fun d hd => HA.out d (by have := HL.out; omega)), ← HL.out]
      simp

end Go.Proofs.YtbncnkfogkhoeaaGreatDoor

/- Walks over package lattice, fifth part: turned: a new table with below what was above. -/
namespace Go.Proofs.YtbncnkfogkhoeaaGreatDoor
open Go.RowKit

theorem infoBool : (Tryz.prog.info? 4).map (fun i => (i.zero, i.size, i.bytes)) = some (some (.bool false), 1, 1) := by kernel_rfl
theorem infoRow : (Tryz.prog.info? 150).map (fun i => (i.zero, i.size, i.bytes)) = some (some (.slice none 0 0), 1, 24) := by kernel_rfl

/-- The new table's own row of rows, when r of them are made. -/
def top (N n : Nat) (r : Nat) : Nat → Value := fun j => if j < r then .slice (some ⟨N + 1 + j, 0, none⟩) n n else .slice none 0 0

structure Outer (w wr : World) (n r : Nat) (Z : Nat → Nat → Bool) : Prop where
  since : Below w.heap.size w wr
  size : wr.heap.size = w.heap.size + 1 + r
  top : wr.rowIs w.heap.size 150 n (top w.heap.size n r)
  done : ∀ j, j < r → wr.rowIs (w.heap.size + 1 + j) 4 n (fun c => .bool (Z j c))

structure Inner (w wi : World) (n r c : Nat) (Z : Nat → Nat → Bool) : Prop where
  since : Below w.heap.size w wi
  size : wi.heap.size = w.heap.size + 1 + r + 1
  top : wi.rowIs w.heap.size 150 n (top w.heap.size n (r + 1))
  done : ∀ j, j < r → wi.rowIs (w.heap.size + 1 + j) 4 n (fun c => .bool (Z j c))
  cur : wi.rowIs (w.heap.size + 1 + r) 4 n (fun i => if i < c then .bool (Z r i) else .bool false)

theorem outer_start (w : World) (n : Nat) (Z : Nat → Nat → Bool) : Outer w (w.alloc (.cells (madeCells #[.slice none 0 0] n) 150)) n 0 Z :=
  ⟨(Below.refl _ _).alloc (Nat.le_refl _) _, by simp, (World.rowIs_made w _ n 150).congr (fun j _ => by simp [top]), fun j hj => absurd hj (Nat.not_lt_zero _)⟩

theorem inner_start {w wr : World} {n r : Nat} {Z : Nat → Nat → Bool} (h : Outer w wr n r Z) :
    Inner w ((wr.alloc (.cells (madeCells #[.bool false] n) 4)).setCell ⟨w.heap.size, r, none⟩ (.slice (some ⟨w.heap.size + 1 + r, 0, none⟩) n n)) n r 0 Z := by
  have hnew := World.rowIs_made wr (.bool false) n 4
  rw [h.size] at hnew
  refine ⟨(h.since.alloc (by rw [h.size]; omega) _).setCell (Nat.le_refl _) _, by simp [h.size], ((h.top.alloc _).set r _).congr (fun j _ => ?_), fun j hj => ((h.done j hj).alloc _).setOther (by show w.heap.size + 1 + j ≠ w.heap.size; omega) _,
    (hnew.setOther (by show w.heap.size + 1 + r ≠ w.heap.size; omega) _).congr (fun i _ => by simp)⟩
  simp only [top]
  by_cases e : j = r
  · subst e; simp
  · rw [if_neg e]
    by_cases hlt : j < r
    · rw [if_pos hlt, if_pos (by omega)]
    · rw [if_neg hlt, if_neg (by omega)]

theorem inner_step {w wi : World} {n r c : Nat} {Z : Nat → Nat → Bool} (h : Inner w wi n r c Z) {b : Bool} (hb : b = Z r c) :
    Inner w (wi.setCell ⟨w.heap.size + 1 + r, c, none⟩ (.bool b)).drew n r (c + 1) Z := by
  subst hb
  refine ⟨(h.since.setCell (by show w.heap.size ≤ w.heap.size + 1 + r; omega) _).drew, by simp [h.size], (h.top.setOther (by show w.heap.size ≠ w.heap.size + 1 + r; omega) _).drew,
    fun j hj => ((h.done j hj).setOther (by show w.heap.size + 1 + j ≠ w.heap.size + 1 + r; omega) _).drew, ((h.cur.set c _).congr (fun i _ => ?_)).drew⟩
  by_cases e : i = c
  · subst e; simp
  · rw [if_neg e]
    by_cases hlt : i < c
    · rw [if_pos hlt, if_pos (by omega)]
    · rw [if_neg hlt, if_neg (by omega)]

theorem inner_done {w wi : World} {n r : Nat} {Z : Nat → Nat → Bool} (h : Inner w wi n r n Z) : Outer w wi n (r + 1) Z :=
  ⟨h.since, by rw [h.size]; omega, h.top, fun j hj => by
    by_cases e : j = r
    · subst e
      exact h.cur.congr (fun i hi => by rw [if_pos hi])
    · exact h.done j (by omega)⟩

theorem outer_grid {w w' : World} {n : Nat} {Z : Nat → Nat → Bool} (h : Outer w w' n n Z) : Grid w' (.slice (some ⟨w.heap.size, 0, none⟩) n n) n Z :=
  ⟨w.heap.size, 0, n, fun j => w.heap.size + 1 + j, fun _ => 0, fun _ => n, rfl,
    fun r hr => by rw [Nat.zero_add, h.top.cell hr]; simp [top, hr],
    fun r c hr hc => by rw [Nat.zero_add]; exact (h.done r hr).cell hc⟩

set_option maxHeartbeats 2000000 in
set_option maxRecDepth 1000000 in
theorem turned_any (w : World) (v : Value) (n : Nat) (Z : Nat → Nat → Bool) (hG : Grid w v n Z) (hn : n ≤ 6) :
    Calls Tryz.prog 145 #[v] w fun e w' => ∃ v', e = .returned v' ∧ Grid w' v' n (Lat.tr Z) ∧ Below w.heap.size w w' := by
  obtain ⟨gb, go, gc, RB, RO, C, rfl, hrow, hcell⟩ := hG
  have hmk22 := run_make_row' (P := Tryz.prog) 32 150 (.slice none 0 0) 24 Tryz.underlying32 infoRow rfl .i64 .i64 n (by omega) (by omega)
  go_enter Tryz.func145, Tryz.ntmps145
  go_wp2
  clear hmk22
  go_loopg [11] n (fun g i wr => ∃ r : Nat, r ≤ n ∧ g = n - r ∧ i = .int .i64 r ∧ Outer w wr n r (Lat.tr Z))
  case atStart => exact ⟨0, Nat.zero_le _, rfl, rfl, outer_start w n _⟩
  case round =>
    obtain ⟨r, hr, rfl, rfl, hO⟩ := hrel
    by_cases hrG : r < n
    · have hrz : (r : Int) < (n : Int) := by omega
      have hsize := hO.size
      have hmk23 := run_make_row' (P := Tryz.prog) 150 4 (.bool false) 1 Tryz.underlying150 infoBool rfl .i64 .i64 n (by omega) (by omega)
      have hst1 : ∀ o, (wr.alloc o).cell? ⟨w.heap.size, r, none⟩ = some (top w.heap.size n r r) := fun o => (hO.top.alloc o).cell hrG
      have hst2 : ∀ o, (wr.alloc o).frozen? ⟨w.heap.size, r, none⟩ = false := fun o => (hO.top.alloc o).frozen r
      go_wp2
      have hI0 := inner_start hO
      clear hmk23 hst1 hst2 hsize hO
      go_loopg [25] n (fun g i wi => ∃ c : Nat, c ≤ n ∧ g = n - c ∧ i = .int .i64 c ∧ Inner w wi n r c (Lat.tr Z))
      case atStart => exact ⟨0, Nat.zero_le _, rfl, rfl, hI0⟩
      case round =>
        obtain ⟨c, hc, rfl, rfl, hI⟩ := hrel
        clear hI0
        by_cases hcL : c < n
        · have hcz : (c : Int) < (n : Int) := by omega
          have t1 : wr.cell? ⟨w.heap.size, r, none⟩ = some (.slice (some ⟨w.heap.size + 1 + r, 0, none⟩) n n) := by simpa [top] using hI.top.cell hrG
          have t2 : wr.cell? ⟨gb, go + c, none⟩ = some (.slice (some ⟨RB c, RO c, none⟩) n (C c)) := by
            rw [hI.since.cell (World.block_lt_of_cell? _ _ (hrow c hcL))]; exact hrow c hcL
          have t3 : wr.cell? ⟨RB c, RO c + r, none⟩ = some (.bool (Z c r)) := by
            rw [hI.since.cell (World.block_lt_of_cell? _ _ (hcell c r hcL hrG))]; exact hcell c r hcL hrG
          have t4 : wr.cell? ⟨w.heap.size + 1 + r, c, none⟩ = some (.bool false) := by simpa using hI.cur.cell hcL
          have t5 : wr.frozen? ⟨w.heap.size + 1 + r, c, none⟩ = false := hI.cur.frozen c
          clear hrow hcell
          go_wp2_with fail
          go_big_region
          go_wp2
          go_roundg (n - (c + 1))
          case measure => go_light; omega
          case rel => go_light; exact ⟨c + 1, by omega, rfl, by simp, inner_step hI rfl⟩
        · obtain rfl : c = n := by omega
          have hcz : ¬ ((c : Int) < (c : Int)) := by omega
          go_wp2
          go_roundg (c - (r + 1))
          case measure => go_light; omega
          case rel => go_light; exact ⟨r + 1, by omega, rfl, by simp, inner_done hI⟩
    · have hrz : ¬ ((r : Int) < (n : Int)) := by omega
      go_wp2
      go_ret
      obtain rfl : r = n := by omega
      exact ⟨_, rfl, outer_grid hO, hO.since⟩

end Go.Proofs.YtbncnkfogkhoeaaGreatDoor

/- Walks over package lattice, sixth part: Check, checkPair, Join, Meet, Ends: each answers what plain functions of the names and the table say. -/
namespace Go.Proofs.YtbncnkfogkhoeaaGreatDoor
open Go.RowKit

namespace Lat
/-- What Check answers. -/
def checkE (ss : List ByteArray) (G : Nat) (L : Nat → Nat) (Z : Nat → Nat → Bool) : Int :=
  if namesB ss = false then 1 else if 6 < ss.length then 2 else if squareB G L ss.length = false then 5 else if orderB Z ss.length = false then 5
  else if joinsB Z ss.length = false then 5 else if joinsB (tr Z) ss.length = false then 5 else 0
end Lat


theorem rag_grid {w : World} {v : Value} {G n : Nat} {L : Nat → Nat} {Z : Nat → Nat → Bool} (h : Rag w v G L Z) (hn : 0 < n) (hs : Lat.squareB G L n = true) : Grid w v n Z := by
  unfold Lat.squareB at hs
  obtain ⟨h1, h2⟩ := Bool.and_eq_true_iff.1 hs
  have e : G = n := by simpa using h1
  subst e
  exact h.grid hn (fun r hr => by simpa [Lat.squareP] using Lat.all_get h2 hr)

theorem names_pos {ss : List ByteArray} (h : Lat.namesB ss = true) : 0 < ss.length := by
  unfold Lat.namesB at h
  simpa using (Bool.and_eq_true_iff.1 h).2

set_option maxHeartbeats 2000000 in
set_option maxRecDepth 100000 in
theorem check_any (w : World) (vn vl : Value) (ss : List ByteArray) (G : Nat) (L : Nat → Nat) (Z : Nat → Nat → Bool) (hS : Strs w vn ss) (hR : Rag w vl G L Z) :
    Calls Tryz.prog 95 #[.agg #[vn, vl]] w fun e w' => e = .returned (.int .i64 (Lat.checkE ss G L Z)) ∧ Below w.heap.size w w' := by
  have HS := hide hS
  have HR := hide hR
  obtain ⟨a, b, off, cap, rfl, ha, hl, hs, h1⟩ := hS
  clear ha hs h1 hR
  obtain ⟨n, hlen⟩ : ∃ n, n = ss.length := ⟨_, rfl⟩
  have HE : Hid (Lat.checkE ss G L Z = if Lat.namesB ss = false then 1 else if 6 < n then 2 else if Lat.squareB G L n = false then 5 else if Lat.orderB Z n = false then 5
    else if Lat.joinsB Z n = false then 5 else if Lat.joinsB (Lat.tr Z) n = false then 5 else 0) := by rw [hlen]; rfl
  have HP : Hid (Lat.namesB ss = true → 0 < n) := by rw [hlen]; exact names_pos
  rw [← hlen] at hl HS ⊢
  clear hlen
  go_enter Tryz.func95, Tryz.ntmps95
  go_wp2_with fail
  refine (lareNames_any _ _ ss (HS.out.below ((Below.refl _ _).alloc (Nat.le_refl _) _))).mono ?_
  rintro e w1 ⟨rfl, hb1⟩
  have q0 := cellUp (cellBox0 w (.slice a n cap) vl 34) hb1
  have q1 := cellUp (cellBox1 w (.slice a n cap) vl 34) hb1
  have HB := hide (up1 hb1)
  clear hb1
  cases zn : Lat.namesB ss
  · go_wp2
    go_ret
    exact ⟨ret_int (by rw [HE.out, if_pos zn]), HB.out⟩
  · have hpos := HP.out zn
    by_cases h6 : 6 < n
    · go_wp2
      go_ret
      exact ⟨ret_int (by rw [HE.out, zn, if_neg (by simp), if_pos h6]), HB.out⟩
    · have HR1 := hide (HR.out.below HB.out)
      go_wp2_with fail
      refine (isSquare_any w1 vl G n L Z HR1.out (by omega)).mono ?_
      rintro e w' ⟨rfl, hw⟩
      subst hw
      cases zs : Lat.squareB G L n
      · go_wp2
        go_ret
        exact ⟨ret_int (by rw [HE.out, zn, if_neg (by simp), if_neg h6, if_pos zs]), HB.out⟩
      · have HG := hide (rag_grid HR1.out hpos zs)
        go_wp2_with fail
        refine (isOrder_any w' vl n Z HG.out (by omega)).mono ?_
        rintro e w'' ⟨rfl, hw⟩
        subst hw
        cases zo : Lat.orderB Z n
        · go_wp2
          go_ret
          exact ⟨ret_int (by rw [HE.out, zn, if_neg (by simp), if_neg h6, zs, if_neg (by simp), if_pos zo]), HB.out⟩
        · go_wp2_with fail
          refine (hasJoins_any w'' vl n Z HG.out (by omega)).mono ?_
          rintro e w3 ⟨rfl, hw⟩
          subst hw
          cases zj : Lat.joinsB Z n
          · go_wp2
            go_ret
            exact ⟨ret_int (by rw [HE.out, zn, if_neg (by simp), if_neg h6, zs, if_neg (by simp), zo, if_neg (by simp), if_pos zj]), HB.out⟩
          · go_wp2_with fail
            refine (turned_any w3 vl n Z HG.out (by omega)).mono ?_
            rintro e w4 ⟨v', rfl, hG4, hb4⟩
            have HG4 := hide hG4
            have HB4 := hide (up HB.out hb4)
            clear hG4 hb4
            go_wp2_with fail
            refine (hasJoins_any w4 v' n (Lat.tr Z) HG4.out (by omega)).mono ?_
            rintro e w5 ⟨rfl, hw⟩
            subst hw
            cases zt : Lat.joinsB (Lat.tr Z) n
            · go_wp2
              go_ret
              exact ⟨ret_int (by rw [HE.out, zn, if_neg (by simp), if_neg h6, zs, if_neg (by simp), zo, if_neg (by simp), zj, if_neg (by simp), if_pos zt]), HB4.out⟩
            · go_wp2
              go_ret
              exact ⟨ret_int (by rw [HE.out, zn, if_neg (by simp), if_neg h6, zs, if_neg (by simp), zo, if_neg (by simp), zj, if_neg (by simp), zt, if_neg (by simp)]), HB4.out⟩

end Go.Proofs.YtbncnkfogkhoeaaGreatDoor

/- Walks over package lattice, seventh part: checkPair, Join, Meet, Ends. -/
namespace Go.Proofs.YtbncnkfogkhoeaaGreatDoor
open Go.RowKit

namespace Lat
/-- All that Check asks, of n levels. -/
structure Ok (ss : List ByteArray) (G : Nat) (L : Nat → Nat) (Z : Nat → Nat → Bool) : Prop where
  names : namesB ss = true
  pos : 0 < ss.length
  six : ss.length ≤ 6
  square : squareB G L ss.length = true
  order : orderB Z ss.length = true
  joins : joinsB Z ss.length = true
  meets : joinsB (tr Z) ss.length = true
theorem ok_of {ss : List ByteArray} {G : Nat} {L : Nat → Nat} {Z : Nat → Nat → Bool} (h : checkE ss G L Z = 0) : Ok ss G L Z := by
  unfold checkE at h
  by_cases h1 : namesB ss = false
  · rw [if_pos h1] at h; omega
  rw [if_neg h1] at h
  by_cases h2 : 6 < ss.length
  · rw [if_pos h2] at h; omega
  rw [if_neg h2] at h
  by_cases h3 : squareB G L ss.length = false
  · rw [if_pos h3] at h; omega
  rw [if_neg h3] at h
  by_cases h4 : orderB Z ss.length = false
  · rw [if_pos h4] at h; omega
  rw [if_neg h4] at h
  by_cases h5 : joinsB Z ss.length = false
  · rw [if_pos h5] at h; omega
  rw [if_neg h5] at h
  by_cases h6 : joinsB (tr Z) ss.length = false
  · rw [if_pos h6] at h; omega
  have hn : namesB ss = true := by simpa using h1
  exact ⟨hn, by unfold namesB at hn; simpa using (Bool.and_eq_true_iff.1 hn).2, by omega, by simpa using h3, by simpa using h4, by simpa using h5, by simpa using h6⟩
theorem checkE_range (ss : List ByteArray) (G : Nat) (L : Nat → Nat) (Z : Nat → Nat → Bool) : 0 ≤ checkE ss G L Z ∧ checkE ss G L Z ≤ 5 := by
  unfold checkE
  repeat' split
  all_goals omega
def inB (n : Nat) (a : Int) : Bool := decide (0 ≤ a) && decide (a < n)
/-- What checkPair answers. -/
def pairE (ss : List ByteArray) (G : Nat) (L : Nat → Nat) (Z : Nat → Nat → Bool) (a b : Int) : Int :=
  if checkE ss G L Z = 0 then (if inB ss.length a && inB ss.length b then 0 else 1) else checkE ss G L Z
end Lat


theorem pair_ok {ss : List ByteArray} {G : Nat} {L : Nat → Nat} {Z : Nat → Nat → Bool} {a b : Int} (h : Lat.pairE ss G L Z a b = 0) :
    Lat.Ok ss G L Z ∧ ∃ i j : Nat, a = i ∧ b = j ∧ i < ss.length ∧ j < ss.length := by
  unfold Lat.pairE at h
  by_cases hc : Lat.checkE ss G L Z = 0
  · rw [if_pos hc] at h
    refine ⟨Lat.ok_of hc, ?_⟩
    by_cases hi : (Lat.inB ss.length a && Lat.inB ss.length b) = true
    · simp only [Lat.inB, Bool.and_eq_true, decide_eq_true_eq] at hi
      exact ⟨a.toNat, b.toNat, by omega, by omega, by omega, by omega⟩
    · rw [if_neg hi] at h; omega
  · rw [if_neg hc] at h; exact absurd h hc

theorem Grid.drew {w : World} {v : Value} {n : Nat} {Z : Nat → Nat → Bool} (h : Grid w v n Z) : Grid w.drew v n Z := h.below (Below.refl _ _).drew

end Go.Proofs.YtbncnkfogkhoeaaGreatDoor

/- Plain mathematics of levels: where the table is an order with joins and meets, joinN is the join: in any order, of itself itself, and so on. -/
namespace Go.Proofs.YtbncnkfogkhoeaaGreatDoor
namespace Lat

/-- An order on the numbers below n. -/
structure Ord (Z : Nat → Nat → Bool) (n : Nat) : Prop where
  refl : ∀ a, a < n → Z a a = true
  anti : ∀ a b, a < n → b < n → Z a b = true → Z b a = true → a = b
  trans : ∀ a b c, a < n → b < n → c < n → Z a b = true → Z b c = true → Z a c = true

theorem ord_of {Z : Nat → Nat → Bool} {n : Nat} (h : orderB Z n = true) : Ord Z n := by
  have hp : ∀ a, a < n → Z a a = true ∧ ∀ b, b < n → Z a b = true → (a ≠ b → Z b a = false) ∧ ∀ c, c < n → Z b c = true → Z a c = true := by
    intro a ha
    have h1 := all_get h ha
    unfold orderP at h1
    obtain ⟨h2, h3⟩ := Bool.and_eq_true_iff.1 h1
    refine ⟨h2, fun b hb hab => ?_⟩
    have h4 := all_get h3 hb
    unfold orderR at h4
    rw [hab] at h4
    have h5 : fitsB Z n a b = true := by simpa using h4
    unfold fitsB at h5
    obtain ⟨h6, h7⟩ := Bool.and_eq_true_iff.1 h5
    refine ⟨fun hne => ?_, fun c hc hbc => ?_⟩
    · simpa [hne] using h6
    · have h8 := all_get h7 hc
      unfold fitsP at h8
      rw [hbc] at h8
      simpa using h8
  refine ⟨fun a ha => (hp a ha).1, fun a b ha hb hab hba => ?_, fun a b c ha hb hc hab hbc => ((hp a ha).2 b hb hab).2 c hc hbc⟩
  by_cases e : a = b
  · exact e
  · have := ((hp a ha).2 b hb hab).1 e
    rw [this] at hba; cases hba

theorem Ord.turn {Z : Nat → Nat → Bool} {n : Nat} (h : Ord Z n) : Ord (tr Z) n :=
  ⟨h.refl, fun a b ha hb hab hba => h.anti a b ha hb hba hab, fun a b c ha hb hc hab hbc => h.trans c b a hc hb ha hbc hab⟩

/-- c is the least above both. -/
structure IsJoin (Z : Nat → Nat → Bool) (n a b c : Nat) : Prop where
  lt : c < n
  left : Z a c = true
  right : Z b c = true
  least : ∀ d, d < n → Z a d = true → Z b d = true → Z c d = true

theorem join_spec {Z : Nat → Nat → Bool} {n a b c : Nat} (h : joinO Z n a b = some c) : IsJoin Z n a b c := by
  obtain ⟨h1, h2⟩ := find_spec h
  unfold joinP at h2
  simp only [Bool.and_eq_true] at h2
  refine ⟨h1, h2.1.1, h2.1.2, fun d hd had hbd => ?_⟩
  have := all_get h2.2 hd
  rw [had, hbd] at this
  simpa using this

theorem joinP_of {Z : Nat → Nat → Bool} {n a b c : Nat} (h : IsJoin Z n a b c) : joinP Z n a b c = true := by
  unfold joinP
  rw [h.left, h.right]
  simp only [Bool.and_self, Bool.true_and]
  refine all_true fun d hd => ?_
  cases had : Z a d <;> cases hbd : Z b d <;> simp
  exact h.least d hd had hbd

theorem IsJoin.unique {Z : Nat → Nat → Bool} {n a b c d : Nat} (o : Ord Z n) (h : IsJoin Z n a b c) (k : IsJoin Z n a b d) : c = d :=
  o.anti c d h.lt k.lt (h.least d k.lt k.left k.right) (k.least c h.lt h.left h.right)

theorem IsJoin.symm {Z : Nat → Nat → Bool} {n a b c : Nat} (h : IsJoin Z n a b c) : IsJoin Z n b a c :=
  ⟨h.lt, h.right, h.left, fun d hd hb ha => h.least d hd ha hb⟩

theorem isSome_of_join {Z : Nat → Nat → Bool} {n a b c : Nat} (h : IsJoin Z n a b c) : ∃ d, joinO Z n a b = some d := by
  cases hj : joinO Z n a b with
  | some d => exact ⟨d, rfl⟩
  | none =>
    exfalso
    have := List.find?_eq_none.1 hj c (List.mem_range.2 h.lt)
    exact this (joinP_of h)

/-- An order in which any two have a join. -/
structure Joins (Z : Nat → Nat → Bool) (n : Nat) : Prop extends Ord Z n where
  has : ∀ a b, a < n → b < n → ∃ c, joinO Z n a b = some c

theorem joins_of {Z : Nat → Nat → Bool} {n : Nat} (o : Ord Z n) (h : joinsB Z n = true) : Joins Z n := by
  have hlt : ∀ a b, a < n → b < a → ∃ c, joinO Z n a b = some c := by
    intro a b ha hb
    have h1 := all_get (all_get h ha) hb
    unfold joinsP at h1
    exact Option.isSome_iff_exists.1 h1
  refine ⟨o, fun a b ha hb => ?_⟩
  rcases Nat.lt_trichotomy b a with hba | hba | hba
  · exact hlt a b ha hba
  · subst hba
    exact isSome_of_join (c := b) ⟨hb, o.refl b hb, o.refl b hb, fun d _ h _ => h⟩
  · obtain ⟨c, hc⟩ := hlt b a hb hba
    exact isSome_of_join (join_spec hc).symm

variable {Z : Nat → Nat → Bool} {n : Nat}

theorem Joins.spec (h : Joins Z n) {a b : Nat} (ha : a < n) (hb : b < n) : IsJoin Z n a b (joinN Z n a b) := by
  obtain ⟨c, hc⟩ := h.has a b ha hb
  unfold joinN
  rw [hc]
  exact join_spec hc
theorem Joins.err (h : Joins Z n) {a b : Nat} (ha : a < n) (hb : b < n) : joinE Z n a b = 0 := by
  obtain ⟨c, hc⟩ := h.has a b ha hb
  simp [joinE, hc]
theorem Joins.lt (h : Joins Z n) {a b : Nat} (ha : a < n) (hb : b < n) : joinN Z n a b < n := (h.spec ha hb).lt
theorem Joins.eq_of (h : Joins Z n) {a b c : Nat} (ha : a < n) (hb : b < n) (k : IsJoin Z n a b c) : joinN Z n a b = c := (h.spec ha hb).unique h.toOrd k
theorem Joins.comm (h : Joins Z n) {a b : Nat} (ha : a < n) (hb : b < n) : joinN Z n a b = joinN Z n b a := h.eq_of ha hb (h.spec hb ha).symm
theorem Joins.same (h : Joins Z n) {a : Nat} (ha : a < n) : joinN Z n a a = a := h.eq_of ha ha ⟨ha, h.refl a ha, h.refl a ha, fun _ _ k _ => k⟩
theorem Joins.of_le (h : Joins Z n) {a b : Nat} (ha : a < n) (hb : b < n) (k : Z a b = true) : joinN Z n a b = b := h.eq_of ha hb ⟨hb, k, h.refl b hb, fun _ _ _ k' => k'⟩
theorem Joins.le_of (h : Joins Z n) {a b : Nat} (ha : a < n) (hb : b < n) (k : joinN Z n a b = b) : Z a b = true := by
  have := (h.spec ha hb).left
  rwa [k] at this
theorem Joins.le_iff (h : Joins Z n) {a b : Nat} (ha : a < n) (hb : b < n) : Z a b = (joinN Z n a b == b) := by
  rw [Bool.eq_iff_iff]
  simp only [beq_iff_eq]
  exact ⟨h.of_le ha hb, h.le_of ha hb⟩
theorem Joins.assoc (h : Joins Z n) {a b c : Nat} (ha : a < n) (hb : b < n) (hc : c < n) : joinN Z n (joinN Z n a b) c = joinN Z n a (joinN Z n b c) := by
  have p := h.spec ha hb
  have q := h.spec hb hc
  have r := h.spec ha q.lt
  refine h.eq_of p.lt hc ⟨r.lt, ?_, ?_, fun d hd h1 h2 => ?_⟩
  · exact p.least _ r.lt r.left (h.trans _ _ _ hb q.lt r.lt q.left r.right)
  · exact h.trans _ _ _ hc q.lt r.lt q.right r.right
  · exact r.least d hd (h.trans _ _ _ ha p.lt hd p.left h1) (q.least d hd (h.trans _ _ _ hb p.lt hd p.right h1) h2)
/-- Each swallows the other one. -/
theorem absorb (h : Joins Z n) (k : Joins (tr Z) n) {a b : Nat} (ha : a < n) (hb : b < n) : joinN Z n a (joinN (tr Z) n a b) = a := by
  have p := k.spec ha hb
  rw [h.comm ha p.lt]
  exact h.of_le p.lt ha p.left

/-- The least of all. -/
theorem low_spec (k : Joins (tr Z) n) (hn : 0 < n) : lowN Z n < n ∧ ∀ a, a < n → Z (lowN Z n) a = true := by
  have main : ∀ m, 0 < m → m ≤ n → ∃ c, c < n ∧ ∀ a, a < m → Z c a = true := by
    intro m
    induction m with
    | zero => intro h; omega
    | succ m ih =>
      intro _ hm
      by_cases h0 : m = 0
      · subst h0
        exact ⟨0, hn, fun a ha => by
          have : a = 0 := by omega
          subst this; exact k.refl 0 hn⟩
      · obtain ⟨c, hc, hall⟩ := ih (by omega) (by omega)
        have p := k.spec hc (show m < n by omega)
        refine ⟨_, p.lt, fun a ha => ?_⟩
        by_cases e : a = m
        · subst e; exact p.right
        · exact k.trans a c _ (by omega) hc p.lt (hall a (by omega)) p.left
  obtain ⟨c, hc, hall⟩ := main n hn (Nat.le_refl _)
  have hP : lowP Z n c = true := all_true (fun a ha => hall a ha)
  cases hf : (List.range n).find? (lowP Z n) with
  | none => exact absurd hP (by have := List.find?_eq_none.1 hf c (List.mem_range.2 hc); simpa using this)
  | some d =>
    have e : lowN Z n = d := by unfold lowN; rw [hf]; rfl
    obtain ⟨h1, h2⟩ := find_spec hf
    rw [e]
    exact ⟨h1, fun a ha => all_get h2 ha⟩

theorem tr_tr : tr (tr Z) = Z := rfl

end Lat
end Go.Proofs.YtbncnkfogkhoeaaGreatDoor
