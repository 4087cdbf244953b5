/- Walks over package lex: what a byte may be; the first byte that may not be; where a word ends. -/
import Derived.Test.YtadpinekcadababWC
import Derived.Test.YtadpinekcadababShelf
namespace Go.Proofs.Ytadpinekcadabab
open Go.RowKit

set_option maxHeartbeats 1000000 in
theorem clone_any (w : World) (s : ByteArray) (hs : s.size ≤ 281474976710656) :
    Calls Try.prog 29 #[.string s] w fun e w' => e = .returned (.string s) ∧ Below w.heap.size w w' := by
  have HC := hide (Try.stringslite_Clone s w hs)
  go_enter Try.func29, Try.ntmps29
  go_wp2_with fail
  refine HC.out.mono ?_
  rintro e w' ⟨rfl, hb⟩
  go_wp2
  go_ret
  exact ⟨rfl, hb⟩

set_option maxHeartbeats 1000000 in
theorem isBetween_any (w : World) (c : UInt8) :
    Calls Try.prog 27 #[.int .u8 (c.toNat : Int)] w fun e w' => e = .returned (.bool (Lat.blankN c.toNat)) ∧ w' = w := by
  have HB : Hid (Lat.blankN c.toNat = (c.toNat == 32 || c.toNat == 10)) := rfl
  generalize c.toNat = n at *
  by_cases h1 : n = 32
  · have c1 : ((n : Int) == 32) = true := by simp [h1]
    go_enter Try.func27, Try.ntmps27
    go_wp2
    go_ret
    exact ⟨ret_bool (by rw [HB.out, h1]; rfl), rfl⟩
  · have c1 : ((n : Int) == 32) = false := by simp; omega
    go_enter Try.func27, Try.ntmps27
    go_wp2
    go_ret
    exact ⟨ret_bool (by rw [HB.out, Bool.eq_iff_iff]; simp; omega), rfl⟩

set_option maxHeartbeats 1000000 in
theorem isBracket_any (w : World) (c : UInt8) :
    Calls Try.prog 39 #[.int .u8 (c.toNat : Int)] w fun e w' => e = .returned (.bool (Lat.brackN c.toNat)) ∧ w' = w := by
  have HB : Hid (Lat.brackN c.toNat = (c.toNat == 40 || c.toNat == 41)) := rfl
  generalize c.toNat = n at *
  by_cases h1 : n = 40
  · have c1 : ((n : Int) == 40) = true := by simp [h1]
    go_enter Try.func39, Try.ntmps39
    go_wp2
    go_ret
    exact ⟨ret_bool (by rw [HB.out, h1]; rfl), rfl⟩
  · have c1 : ((n : Int) == 40) = false := by simp; omega
    go_enter Try.func39, Try.ntmps39
    go_wp2
    go_ret
    exact ⟨ret_bool (by rw [HB.out, Bool.eq_iff_iff]; simp; omega), rfl⟩

theorem sign_at (c : UInt8) : decide (0 ≤ Lib.indexByte [46, 43, 45, 42, 60, 61] c) = (c.toNat == 46 || c.toNat == 43 || c.toNat == 45 || c.toNat == 42 || c.toNat == 60 || c.toNat == 61) := by
  have h : ∀ n : Fin 256, decide (0 ≤ Lib.indexByte [46, 43, 45, 42, 60, 61] (UInt8.ofNat n.val)) = (n.val == 46 || n.val == 43 || n.val == 45 || n.val == 42 || n.val == 60 || n.val == 61) := by decide +kernel
  have := h ⟨c.toNat, c.toNat_lt⟩
  simpa using this

set_option maxHeartbeats 2000000 in
theorem isPart_any (w : World) (c : UInt8) :
    Calls Try.prog 40 #[.int .u8 (c.toNat : Int)] w fun e w' => e = .returned (.bool (Lat.longN c.toNat)) ∧ w' = w := by
  have HB : Hid (Lat.longN c.toNat = ((decide (97 ≤ c.toNat) && decide (c.toNat ≤ 122)) || (decide (48 ≤ c.toNat) && decide (c.toNat ≤ 57)) || c.toNat == 46 || c.toNat == 43 || c.toNat == 45 || c.toNat == 42 || c.toNat == 60 || c.toNat == 61)) := rfl
  have HI : Hid (∀ w, Calls Try.prog 45 #[.string ⟨#[46, 43, 45, 42, 60, 61]⟩, .int .u8 (c.toNat : Int)] w fun e w' => ∃ z : Int, e = .returned (.int .i64 z) ∧ decide (0 ≤ z) = (c.toNat == 46 || c.toNat == 43 || c.toNat == 45 || c.toNat == 42 || c.toNat == 60 || c.toNat == 61) ∧ w' = w) := hide (fun w => by
    refine (Try.strings_IndexByte ⟨#[46, 43, 45, 42, 60, 61]⟩ (c.toNat : Int) w).mono ?_
    rintro e w' ⟨rfl, rfl⟩
    refine ⟨_, rfl, ?_, rfl⟩
    rw [← sign_at]
    simp)
  generalize c.toNat = n at *
  by_cases l1 : 97 ≤ n ∧ n ≤ 122
  · have f1 : (97 : Int) ≤ (n : Int) := by omega
    have f2 : (n : Int) ≤ 122 := by omega
    go_enter Try.func40, Try.ntmps40
    go_wp2
    go_ret
    exact ⟨ret_bool (by rw [HB.out, Bool.eq_iff_iff]; simp; omega), rfl⟩
  by_cases l2 : 48 ≤ n ∧ n ≤ 57
  · have f1 : ¬ (97 : Int) ≤ (n : Int) := by omega
    have f3 : (48 : Int) ≤ (n : Int) := by omega
    have f4 : (n : Int) ≤ 57 := by omega
    go_enter Try.func40, Try.ntmps40
    go_wp2
    go_ret
    exact ⟨ret_bool (by rw [HB.out, Bool.eq_iff_iff]; simp; omega), rfl⟩
  have hcase : n < 48 ∨ (57 < n ∧ n < 97) ∨ 122 < n := by omega
  have HB2 : Hid (Lat.longN n = (n == 46 || n == 43 || n == 45 || n == 42 || n == 60 || n == 61)) := hide (by
    rw [HB.out, Bool.eq_iff_iff]; simp; omega)
  rcases hcase with l | l | l
  case' inl =>
    have f1 : ¬ (97 : Int) ≤ (n : Int) := by omega
    have f3 : ¬ (48 : Int) ≤ (n : Int) := by omega
  case' inr.inl =>
    have f1 : ¬ (97 : Int) ≤ (n : Int) := by omega
    have f3 : (48 : Int) ≤ (n : Int) := by omega
    have f4 : ¬ (n : Int) ≤ 57 := by omega
  case' inr.inr =>
    have f1 : (97 : Int) ≤ (n : Int) := by omega
    have f2 : ¬ (n : Int) ≤ 122 := by omega
    have f3 : (48 : Int) ≤ (n : Int) := by omega
    have f4 : ¬ (n : Int) ≤ 57 := by omega
  all_goals
    clear l l1 l2
    go_enter Try.func40, Try.ntmps40
    go_wp2_with fail
    refine (HI.out _).mono ?_
    rintro e w' ⟨z, rfl, hz, hw⟩
    subst hw
    have HZ := hide hz
    clear hz
    go_wp2
    go_ret
    exact ⟨ret_bool (by rw [HB2.out]; exact HZ.out), rfl⟩

set_option maxHeartbeats 2000000 in
theorem firstBad_any (w : World) (s : ByteArray) (hs : s.size ≤ 4096) :
    Calls Try.prog 26 #[.string s] w fun e w' => e = .returned (.int .i64 ((((Lat.badAt s).getD s.size : Nat)) : Int)) ∧ w' = w := by
  go_enter Try.func26, Try.ntmps26
  go_wp2
  go_loop [3] (fun i => ∃ k : Nat, k ≤ s.size ∧ i = .int .i64 k ∧ ∀ d, d < k → Lat.okAt s d = true) (fun i => s.size - (intOf i).toNat)
  case atStart => exact ⟨0, Nat.zero_le _, rfl, fun d hd => absurd hd (Nat.not_lt_zero _)⟩
  case round =>
    obtain ⟨k, hk, rfl, hall⟩ := hrel
    have HALL := hide hall
    clear hall
    by_cases hlt : k < s.size
    · have HB := hide (bt_at s k hlt)
      have HOK : Hid (Lat.okAt s k = (Lat.blankN (Lat.bt s k) || Lat.brackN (Lat.bt s k) || Lat.longN (Lat.bt s k))) := rfl
      rw [HB.out] at HOK
      have HOKS : Hid (Lat.okAt s k = true → ∀ d, d < k + 1 → Lat.okAt s d = true) := hide (fun h d hd => by
        by_cases e : d = k
        · subst e; exact h
        · exact HALL.out d (by omega))
      have b1 : (0 : Int) ≤ (k : Int) := by omega
      have b3 : (k : Int) < (s.size : Int) := by omega
      go_wp2_with fail
      refine (isBetween_any _ s[k]).mono ?_
      rintro e w' ⟨rfl, hw⟩
      subst hw
      cases c1 : Lat.blankN s[k].toNat
      · go_wp2_with fail
        refine (isBracket_any _ s[k]).mono ?_
        rintro e w' ⟨rfl, hw⟩
        subst hw
        cases c2 : Lat.brackN s[k].toNat
        · go_wp2_with fail
          refine (isPart_any _ s[k]).mono ?_
          rintro e w' ⟨rfl, hw⟩
          subst hw
          cases c3 : Lat.longN s[k].toNat
          · have HBAD : Hid (Lat.badAt s = some k) := hide (Lat.find_hit hlt (fun d hd => by rw [HALL.out d hd]; rfl) (by rw [HOK.out, c1, c2, c3]; rfl))
            go_wp2
            go_ret
            exact ⟨ret_int (by rw [HBAD.out]; rfl), rfl⟩
          · have HK : Hid (Lat.okAt s k = true) := hide (by rw [HOK.out, c1, c2, c3]; rfl)
            go_wp2
            go_round
            case rel => exact ⟨k + 1, by omega, by go_num, HOKS.out HK.out⟩
            case measure => simp [intOf]; omega
        · have HK : Hid (Lat.okAt s k = true) := hide (by rw [HOK.out, c1, c2]; rfl)
          go_wp2
          go_round
          case rel => exact ⟨k + 1, by omega, by go_num, HOKS.out HK.out⟩
          case measure => simp [intOf]; omega
      · have HK : Hid (Lat.okAt s k = true) := hide (by rw [HOK.out, c1]; rfl)
        go_wp2
        go_round
        case rel => exact ⟨k + 1, by omega, by go_num, HOKS.out HK.out⟩
        case measure => simp [intOf]; omega
    · have HBAD : Hid (Lat.badAt s = none) := hide (Lat.find_none (fun d hd => by rw [HALL.out d (by omega)]; rfl))
      go_wp2
      go_ret
      exact ⟨ret_int (by rw [HBAD.out]; rfl), rfl⟩

namespace Lat
/-- Where the word that begins at a ends. -/
def EndsAt (s : ByteArray) (a b : Nat) : Prop :=
  a < b ∧ b ≤ s.size ∧ ((Lat.brackN (Lat.bt s a) = true ∧ b = a + 1) ∨ (Lat.brackN (Lat.bt s a) = false ∧ (∀ d, a < d → d < b → Lat.longN (Lat.bt s d) = true) ∧ (b = s.size ∨ Lat.longN (Lat.bt s b) = false)))
end Lat

set_option maxHeartbeats 2000000 in
theorem wordEnd_any (w : World) (s : ByteArray) (a : Nat) (hs : s.size ≤ 4096) (ha : a < s.size) :
    Calls Try.prog 28 #[.string s, .int .i64 (a : Int)] w fun e w' => ∃ b : Nat, e = .returned (.int .i64 (b : Int)) ∧ Lat.EndsAt s a b ∧ w' = w := by
  have HB := hide (bt_at s a ha)
  have b1 : (0 : Int) ≤ (a : Int) := by omega
  have b3 : (a : Int) < (s.size : Int) := by omega
  go_enter Try.func28, Try.ntmps28
  go_wp2_with fail
  refine (isBracket_any _ s[a]).mono ?_
  rintro e w' ⟨rfl, hw⟩
  subst hw
  cases c1 : Lat.brackN s[a].toNat
  · go_wp2
    go_loop [5] (fun i => ∃ k : Nat, a < k ∧ k ≤ s.size ∧ i = .int .i64 k ∧ ∀ d, a < d → d < k → Lat.longN (Lat.bt s d) = true) (fun i => s.size - (intOf i).toNat)
    case atStart => exact ⟨a + 1, by omega, by omega, by go_num, fun d h1 h2 => absurd h2 (by omega)⟩
    case round =>
      obtain ⟨k, hk1, hk, rfl, hall⟩ := hrel
      have HALL := hide hall
      clear hall
      by_cases hlt : k < s.size
      · have HBK := hide (bt_at s k hlt)
        have d1 : (0 : Int) ≤ (k : Int) := by omega
        have d3 : (k : Int) < (s.size : Int) := by omega
        go_wp2_with fail
        refine (isPart_any _ s[k]).mono ?_
        rintro e w' ⟨rfl, hw⟩
        subst hw
        cases c3 : Lat.longN s[k].toNat
        · go_wp2
          go_ret
          exact ⟨k, rfl, ⟨hk1, hk, Or.inr ⟨by rw [HB.out]; exact c1, HALL.out, Or.inr (by rw [HBK.out]; exact c3)⟩⟩, rfl⟩
        · go_wp2
          go_round
          case rel => exact ⟨k + 1, by omega, by omega, by go_num, fun d h1 h2 => by
              by_cases e : d = k
              · subst e; rw [HBK.out]; exact c3
              · exact HALL.out d h1 (by omega)⟩
          case measure => simp [intOf]; omega
      · go_wp2
        go_ret
        exact ⟨k, rfl, ⟨hk1, hk, Or.inr ⟨by rw [HB.out]; exact c1, HALL.out, Or.inl (by omega)⟩⟩, rfl⟩
  · go_wp2
    go_ret
    exact ⟨a + 1, by go_num, ⟨by omega, by omega, Or.inl ⟨by rw [HB.out]; exact c1, rfl⟩⟩, rfl⟩

end Go.Proofs.Ytadpinekcadabab
