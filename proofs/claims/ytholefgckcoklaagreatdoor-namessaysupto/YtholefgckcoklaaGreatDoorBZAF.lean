/- Walks over package lattice, first part: belowBounds, fits, slices.Index and Contains of bools: each answers what the plain function of Lat says, and the world stays. -/
import Derived.Test.YtholefgckcoklaaGreatDoorChecked
import Derived.Test.YtholefgckcoklaaGreatDoorBZAC
import Derived.WalkLawsBesides
import Derived.Test.YtholefgckcoklaaGreatDoorBZAA
namespace Go.Proofs.YtholefgckcoklaaGreatDoor
open Go.RowKit
set_option maxHeartbeats 1000000 in
theorem belowBounds_any (w : World) (v : Value) (n a b c : Nat) (Z : Nat → Nat → Bool) (hG : Grid w v n Z) (hn : n ≤ 6) (ha : a < n) (hb : b < n) (hc : c < n) :
    Calls Tryz.prog 302 #[v, .int .i64 a, .int .i64 b, .int .i64 c] w fun e w' => e = .returned (.bool (Lat.belowB Z n a b c)) ∧ w' = w := by
  obtain ⟨gb, go, gc, RB, RO, C, rfl, h1, h2⟩ := hG
  have ra := h1 a ha
  have rb := h1 b hb
  have rc := h1 c hc
  go_enter Tryz.func302, Tryz.ntmps302
  go_wp2
  go_loop [12] (fun i => ∃ k : Nat, k ≤ n ∧ i = .int .i64 k ∧ ∀ d, d < k → (!(Z a d && Z b d && !Z c d)) = true) (fun i => n - (intOf i).toNat)
  case atStart => exact ⟨0, Nat.zero_le _, rfl, fun d hd => absurd hd (Nat.not_lt_zero _)⟩
  case round =>
    obtain ⟨k, hk, rfl, hall⟩ := hrel
    have HA : Hid (∀ d, d < k → (!(Z a d && Z b d && !Z c d)) = true) := hall
    clear hall
    by_cases hlt : k < n
    · have ca := h2 a k ha hlt
      have cb := h2 b k hb hlt
      have cc := h2 c k hc hlt
      clear h1 h2
      cases za : Z a k
      · rw [za] at ca
        go_wp2
        go_round
        case rel => exact ⟨k + 1, by omega, by go_num, fun d hd => by
            by_cases e : d = k
            · subst e; simp [za]
            · exact HA.out d (by omega)⟩
        case measure => simp [intOf]; omega
      · rw [za] at ca
        cases zb : Z b k
        · rw [zb] at cb
          go_wp2
          go_round
          case rel => exact ⟨k + 1, by omega, by go_num, fun d hd => by
              by_cases e : d = k
              · subst e; simp [zb]
              · exact HA.out d (by omega)⟩
          case measure => simp [intOf]; omega
        · rw [zb] at cb
          cases zc : Z c k
          · rw [zc] at cc
            go_wp2
            go_ret
            exact ⟨ret_bool (Lat.all_false hlt (by simp [za, zb, zc])).symm, rfl⟩
          · rw [zc] at cc
            go_wp2
            go_round
            case rel => exact ⟨k + 1, by omega, by go_num, fun d hd => by
                by_cases e : d = k
                · subst e; simp [zc]
                · exact HA.out d (by omega)⟩
            case measure => simp [intOf]; omega
    · go_wp2
      go_ret
      exact ⟨ret_bool (Lat.all_true (fun d hd => HA.out d (by omega))).symm, rfl⟩
set_option maxHeartbeats 1000000 in
theorem fits_any (w : World) (v : Value) (n a b : Nat) (Z : Nat → Nat → Bool) (hG : Grid w v n Z) (hn : n ≤ 6) (ha : a < n) (hb : b < n) :
    Calls Tryz.prog 248 #[v, .int .i64 a, .int .i64 b] w fun e w' => e = .returned (.bool (Lat.fitsB Z n a b)) ∧ w' = w := by
  obtain ⟨gb, go, gc, RB, RO, C, rfl, h1, h2⟩ := hG
  have ra := h1 a ha
  have rb := h1 b hb
  have cab := h2 b a hb ha
  cases hab : (((a : Int) != (b : Int)) && Z b a)
  · have HF : Hid (Lat.fitsB Z n a b = (List.range n).all (Lat.fitsP Z a b)) := by
      have e : (a != b) = ((a : Int) != (b : Int)) := by
        rw [Bool.eq_iff_iff]; simp only [bne_iff_ne, ne_eq]; omega
      show Lat.fitsB Z n a b = _
      unfold Lat.fitsB
      rw [e, hab]; rfl
    have hguard : ((a : Int) != (b : Int)) = false ∨ ((a : Int) != (b : Int)) = true ∧ Z b a = false := by
      cases h : ((a : Int) != (b : Int))
      · exact Or.inl rfl
      · rw [h] at hab; exact Or.inr ⟨rfl, by simpa using hab⟩
    clear hab
    rcases hguard with hg | ⟨hg, hz⟩
    case' inr => rw [hz] at cab
    all_goals
      go_enter Tryz.func248, Tryz.ntmps248
      go_wp2
      clear cab
      go_loop [22] (fun i => ∃ k : Nat, k ≤ n ∧ i = .int .i64 k ∧ ∀ d, d < k → Lat.fitsP Z a b d = true) (fun i => n - (intOf i).toNat)
      case atStart => exact ⟨0, Nat.zero_le _, rfl, fun d hd => absurd hd (Nat.not_lt_zero _)⟩
      case round =>
        obtain ⟨k, hk, rfl, hall⟩ := hrel
        have HA : Hid (∀ d, d < k → Lat.fitsP Z a b d = true) := hall
        clear hall
        by_cases hlt : k < n
        · have ca := h2 a k ha hlt
          have cb := h2 b k hb hlt
          clear h1 h2
          cases zb : Z b k
          · rw [zb] at cb
            go_wp2
            go_round
            case rel => exact ⟨k + 1, by omega, by go_num, fun d hd => by
                by_cases e : d = k
                · subst e; simp [Lat.fitsP, zb]
                · exact HA.out d (by omega)⟩
            case measure => simp [intOf]; omega
          · rw [zb] at cb
            cases za : Z a k
            · rw [za] at ca
              go_wp2
              go_ret
              exact ⟨ret_bool (by rw [HF.out]; exact (Lat.all_false hlt (by simp [Lat.fitsP, za, zb])).symm), rfl⟩
            · rw [za] at ca
              go_wp2
              go_round
              case rel => exact ⟨k + 1, by omega, by go_num, fun d hd => by
                  by_cases e : d = k
                  · subst e; simp [Lat.fitsP, za]
                  · exact HA.out d (by omega)⟩
              case measure => simp [intOf]; omega
        · go_wp2
          go_ret
          exact ⟨ret_bool (by rw [HF.out]; exact (Lat.all_true (fun d hd => HA.out d (by omega))).symm), rfl⟩
  · obtain ⟨hg, hz⟩ : ((a : Int) != (b : Int)) = true ∧ Z b a = true := by simpa using hab
    have HF : Hid (Lat.fitsB Z n a b = false) := by
      have e : (a != b) = ((a : Int) != (b : Int)) := by
        rw [Bool.eq_iff_iff]; simp only [bne_iff_ne, ne_eq]; omega
      show Lat.fitsB Z n a b = _
      unfold Lat.fitsB
      rw [e, hab]; rfl
    clear hab
    rw [hz] at cab
    go_enter Tryz.func248, Tryz.ntmps248
    go_wp2
    go_ret
    exact ⟨ret_bool HF.out.symm, rfl⟩
end Go.Proofs.YtholefgckcoklaaGreatDoor
namespace Go.Proofs.YtholefgckcoklaaGreatDoor
namespace Lat
structure Ord (Z : Nat → Nat → Bool) (n : Nat) : Prop where
  refl : ∀ a, a < n → Z a a = true
  anti : ∀ a b, a < n → b < n → Z a b = true → Z b a = true → a = b
  trans : ∀ a b c, a < n → b < n → c < n → Z a b = true → Z b c = true → Z a c = true
theorem ord_of {Z : Nat → Nat → Bool} {n : Nat} (h : orderB Z n = true) : Ord Z n := by
  have hp : ∀ a, a < n → Z a a = true ∧ ∀ b, b < n → Z a b = true → (a ≠ b → Z b a = false) ∧ ∀ c, c < n → Z b c = true → Z a c = true := by
    intro a ha
    have h1 := all_get h ha
    unfold orderP at h1
    obtain ⟨h2, h3⟩ := Bool.and_eq_true_iff.1 h1
    refine ⟨h2, fun b hb hab => ?_⟩
    have h4 := all_get h3 hb
    unfold orderR at h4
    rw [hab] at h4
    have h5 : fitsB Z n a b = true := by simpa using h4
    unfold fitsB at h5
    obtain ⟨h6, h7⟩ := Bool.and_eq_true_iff.1 h5
    refine ⟨fun hne => ?_, fun c hc hbc => ?_⟩
    · simpa [hne] using h6
    · have h8 := all_get h7 hc
      unfold fitsP at h8
      rw [hbc] at h8
      simpa using h8
  refine ⟨fun a ha => (hp a ha).1, fun a b ha hb hab hba => ?_, fun a b c ha hb hc hab hbc => ((hp a ha).2 b hb hab).2 c hc hbc⟩
  by_cases e : a = b
  · exact e
  · have := ((hp a ha).2 b hb hab).1 e
    rw [this] at hba; cases hba
theorem Ord.turn {Z : Nat → Nat → Bool} {n : Nat} (h : Ord Z n) : Ord (tr Z) n :=
  ⟨h.refl, fun a b ha hb hab hba => h.anti a b ha hb hba hab, fun a b c ha hb hc hab hbc => h.trans c b a hc hb ha hbc hab⟩
structure IsJoin (Z : Nat → Nat → Bool) (n a b c : Nat) : Prop where
  lt : c < n
  left : Z a c = true
  right : Z b c = true
  least : ∀ d, d < n → Z a d = true → Z b d = true → Z c d = true
theorem join_spec {Z : Nat → Nat → Bool} {n a b c : Nat} (h : joinO Z n a b = some c) : IsJoin Z n a b c := by
  obtain ⟨h1, h2⟩ := find_spec h
  unfold joinP at h2
  simp only [Bool.and_eq_true] at h2
  refine ⟨h1, h2.1.1, h2.1.2, fun d hd had hbd => ?_⟩
  have := all_get h2.2 hd
  rw [had, hbd] at this
  simpa using this
theorem joinP_of {Z : Nat → Nat → Bool} {n a b c : Nat} (h : IsJoin Z n a b c) : joinP Z n a b c = true := by
  unfold joinP
  rw [h.left, h.right]
  simp only [Bool.and_self, Bool.true_and]
  refine all_true fun d hd => ?_
  cases had : Z a d <;> cases hbd : Z b d <;> simp
  exact h.least d hd had hbd
theorem IsJoin.symm {Z : Nat → Nat → Bool} {n a b c : Nat} (h : IsJoin Z n a b c) : IsJoin Z n b a c :=
  ⟨h.lt, h.right, h.left, fun d hd hb ha => h.least d hd ha hb⟩
theorem isSome_of_join {Z : Nat → Nat → Bool} {n a b c : Nat} (h : IsJoin Z n a b c) : ∃ d, joinO Z n a b = some d := by
  cases hj : joinO Z n a b with
  | some d => exact ⟨d, rfl⟩
  | none =>
    exfalso
    have := List.find?_eq_none.1 hj c (List.mem_range.2 h.lt)
    exact this (joinP_of h)
structure Joins (Z : Nat → Nat → Bool) (n : Nat) : Prop extends Ord Z n where
  has : ∀ a b, a < n → b < n → ∃ c, joinO Z n a b = some c
theorem joins_of {Z : Nat → Nat → Bool} {n : Nat} (o : Ord Z n) (h : joinsB Z n = true) : Joins Z n := by
  have hlt : ∀ a b, a < n → b < a → ∃ c, joinO Z n a b = some c := by
    intro a b ha hb
    have h1 := all_get (all_get h ha) hb
    unfold joinsP at h1
    exact Option.isSome_iff_exists.1 h1
  refine ⟨o, fun a b ha hb => ?_⟩
  rcases Nat.lt_trichotomy b a with hba | hba | hba
  · exact hlt a b ha hba
  · subst hba
    exact isSome_of_join (c := b) ⟨hb, o.refl b hb, o.refl b hb, fun d _ h _ => h⟩
  · obtain ⟨c, hc⟩ := hlt b a hb hba
    exact isSome_of_join (join_spec hc).symm
variable {Z : Nat → Nat → Bool} {n : Nat}
theorem Joins.spec (h : Joins Z n) {a b : Nat} (ha : a < n) (hb : b < n) : IsJoin Z n a b (joinN Z n a b) := by
  obtain ⟨c, hc⟩ := h.has a b ha hb
  unfold joinN
  rw [hc]
  exact join_spec hc
theorem Joins.lt (h : Joins Z n) {a b : Nat} (ha : a < n) (hb : b < n) : joinN Z n a b < n := (h.spec ha hb).lt
end Lat
end Go.Proofs.YtholefgckcoklaaGreatDoor
