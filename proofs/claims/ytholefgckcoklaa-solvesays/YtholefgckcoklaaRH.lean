/- Walks over package downref, eighth part: Ends of a right lattice: the level below all, and the one above all. -/
import Derived.Test.YtholefgckcoklaaRG
import Derived.Deep.RegionHeld3
namespace Go.Proofs.Ytholefgckcoklaa
open Go.RowKit

namespace Lat
variable {Z : Nat → Nat → Bool} {n : Nat}
theorem joinI_of (h : Joins Z n) {a b : Nat} (ha : a < n) (hb : b < n) : joinI Z n a b = (joinN Z n a b : Nat) := by
  obtain ⟨c, hc⟩ := h.has a b ha hb
  unfold joinI joinN
  rw [hc]; rfl
theorem low_unique (k : Joins (tr Z) n) (hn : 0 < n) {x : Nat} (hx : x < n) (h : ∀ d, d < n → Z x d = true) : x = lowN Z n := by
  obtain ⟨h1, h2⟩ := low_spec k hn
  exact k.anti x (lowN Z n) hx h1 (h2 x hx) (h _ h1)
/-- One step: the meet with a is below a, and below all that was above what was. -/
theorem meet_step (k : Joins (tr Z) n) {x a m : Nat} (hx : x < n) (ha : a < n) (h : ∀ d, d < m → Z x d = true) (hma : m = a) : joinN (tr Z) n x a < n ∧ ∀ d, d < m + 1 → Z (joinN (tr Z) n x a) d = true := by
  have p := k.spec hx ha
  refine ⟨p.lt, fun d hd => ?_⟩
  by_cases e : d = a
  · subst e; exact p.right
  · exact k.trans d x _ (by omega) hx p.lt (h d (by omega)) p.left
end Lat


set_option maxHeartbeats 2000000 in
set_option maxRecDepth 100000 in
theorem rends_any (w : World) (ad : Option Addr) (vl : Value) (n cap : Nat) (Z : Nat → Nat → Bool) (hG : Grid w vl n Z) (hn0 : 0 < n) (hn : n ≤ 6) (hJ : Lat.Joins Z n) (hM : Lat.Joins (Lat.tr Z) n) :
    Calls Try.prog 7 #[.agg #[.slice ad n cap, vl]] w fun e w' => e = .returned (.tuple #[.int .i64 (Lat.lowN Z n : Nat), .int .i64 (Lat.lowN (Lat.tr Z) n : Nat)]) ∧ Below w.heap.size w w' := by
  have HG := hide (hG.below (boxBelow w (.cells #[.slice ad n cap, vl] 25)))
  have HJ := hide hJ
  have HM := hide hM
  have q0 := cellBox0 w (.slice ad n cap) vl 25
  have Q1 := hide (cellBox1 w (.slice ad n cap) vl 25)
  have HB0 := hide (boxBelow w (.cells #[.slice ad n cap, vl] 25))
  clear hG hJ hM
  go_enter Try.func7, Try.ntmps7
  go_wp2
  generalize w.alloc (.cells #[.slice ad n cap, vl] 25) = W0 at *
  obtain ⟨gb, go, gc, RB, RO, C, hvl, g1, g2⟩ := HG.out
  have p1 := Q1.out
  rw [hvl] at p1
  have HG1 := hide g1
  have HG2 := hide g2
  clear g1 g2 hvl
  go_loop [4, 5, 6] (fun x y i => ∃ lo hi k : Nat, lo < n ∧ hi < n ∧ k ≤ n ∧ x = .int .i64 lo ∧ y = .int .i64 hi ∧ i = .int .i64 k) (fun _ _ i => n - (intOf i).toNat)
  case atStart => exact ⟨0, 0, 0, hn0, hn0, Nat.zero_le _, rfl, rfl, rfl⟩
  case round =>
    obtain ⟨lo, hi, k, hlo, hhi, hk, rfl, rfl, rfl⟩ := hrel
    by_cases hlt : k < n
    · have r1 := HG1.out k hlt
      have r2 := HG1.out hi hhi
      have c1 := HG2.out k lo hlt hlo
      have c2 := HG2.out hi k hhi hlt
      cases z1 : Z k lo
      all_goals cases z2 : Z hi k
      all_goals
        rw [z1] at c1
        rw [z2] at c2
        clear z1 z2
        go_wp2
        go_round
        case rel => first | exact ⟨lo, hi, k + 1, hlo, hhi, by omega, rfl, rfl, by go_num⟩ | exact ⟨lo, k, k + 1, hlo, hlt, by omega, rfl, rfl, by go_num⟩ | exact ⟨k, hi, k + 1, hlt, hhi, by omega, rfl, rfl, by go_num⟩ | exact ⟨k, k, k + 1, hlt, hlt, by omega, rfl, rfl, by go_num⟩
        case measure => simp [intOf]; omega
    · clear p1 HG1 HG2
      go_wp2
      go_loopw [4, 5, 7] (fun x y i wr => ∃ lo hi k : Nat, lo < n ∧ hi < n ∧ k ≤ n ∧ x = .int .i64 lo ∧ y = .int .i64 hi ∧ i = .int .i64 k ∧ (0 < k → (∀ d, d < n → Z lo d = true) ∧ ∀ d, d < n → Lat.tr Z hi d = true) ∧ Below W0.heap.size W0 wr) (fun _ _ i _ => n - (intOf i).toNat)
      case atStart => exact ⟨lo, hi, 0, hlo, hhi, Nat.zero_le _, rfl, rfl, rfl, fun h => absurd h (Nat.lt_irrefl _), Below.refl _ _⟩
      case round =>
        obtain ⟨lo, hi, k, hlo, hhi, hk, rfl, rfl, rfl, hall, hnx⟩ := hrel
        have HA := hide hall
        clear hall
        have t0 := cellUp q0 hnx
        by_cases hlt : k < n
        · have HNX := hide hnx
          clear hnx
          go_wp2
          clear t0
          go_loopw [4, 5, 8] (fun x y i wi => ∃ lo hi m : Nat, lo < n ∧ hi < n ∧ m ≤ n ∧ x = .int .i64 lo ∧ y = .int .i64 hi ∧ i = .int .i64 m ∧ (∀ d, d < m → Z lo d = true) ∧ (∀ d, d < m → Lat.tr Z hi d = true) ∧ Below W0.heap.size W0 wi) (fun _ _ i _ => n - (intOf i).toNat)
          case atStart => exact ⟨lo, hi, 0, hlo, hhi, Nat.zero_le _, rfl, rfl, rfl, fun d hd => absurd hd (Nat.not_lt_zero _), fun d hd => absurd hd (Nat.not_lt_zero _), HNX.out⟩
          case round =>
            obtain ⟨lo, hi, m, hlo, hhi, hm, rfl, rfl, rfl, hall, hall2, hnx⟩ := hrel
            have HL := hide hall
            have HH := hide hall2
            clear hall hall2 HNX
            have t0 := cellUp q0 hnx
            have HNX := hide hnx
            clear hnx
            by_cases hmn : m < n
            · have HF : Hid (∀ wx, Hid (Below W0.heap.size W0 wx) → Hid (Below W0.heap.size W0 wx) ∧ wx.cell? ⟨w.heap.size, 0, none⟩ = some (.slice ad n cap) ∧ wx.cell? ⟨w.heap.size, 1, none⟩ = some vl) :=
                fun wx h => ⟨h, cellUp q0 h.out, cellUp Q1.out h.out⟩
              have E1 := hide (Lat.joinI_of HM.out hlo hmn)
              have E2 := hide (Lat.joinI_of HJ.out hhi hmn)
              have S1 := hide (Lat.meet_step HM.out hlo hmn HL.out rfl)
              have S2 := hide (Lat.meet_step (Z := Lat.tr Z) HJ.out hhi hmn HH.out rfl)
              obtain ⟨lo2, hlo2⟩ : ∃ x, x = Lat.joinN (Lat.tr Z) n lo m := ⟨_, rfl⟩
              obtain ⟨hi2, hhi2⟩ : ∃ x, x = Lat.joinN Z n hi m := ⟨_, rfl⟩
              rw [← hlo2] at E1 S1
              rw [Lat.tr_tr, ← hhi2] at S2
              rw [← hhi2] at E2
              clear hlo2 hhi2 q0
              go_wp2_with fail
              go_region_held3 (fun wx => Hid (Below W0.heap.size W0 wx) ∧ wx.cell? ⟨w.heap.size, 0, none⟩ = some (.slice ad n cap) ∧ wx.cell? ⟨w.heap.size, 1, none⟩ = some vl)
                (first | exact HF.out _ HW31 | exact HF.out _ HW30 | exact HF.out _ (hide HNX.out.drew))
                (first
                  | (go_at_call 11; refine (rmeet_any _ ad vl n cap lo m Z ?_ hn hlo hmn).mono ?_; (exact HG.out.below HNX.out.drew); rintro e w30 ⟨rfl, hb30⟩; have HW30 := hide (up HNX.out.drew hb30); clear hb30; rw [E1.out])
                  | (go_at_call 10; refine (rjoin_any _ ad vl n cap hi m Z ?_ hn hhi hmn).mono ?_; (exact HG.out.below HW30.out); rintro e w31 ⟨rfl, hb31⟩; have HW31 := hide (up HW30.out hb31); clear hb31; rw [E2.out]))
              all_goals
                go_wp2
                go_roundw
                case rel => exact ⟨lo2, hi2, m + 1, S1.out.1, S2.out.1, by omega, rfl, rfl, by go_num, S1.out.2, S2.out.2, HW31.out⟩
                case measure => simp [intOf]; omega
            · go_wp2
              go_roundw
              case rel => exact ⟨lo, hi, k + 1, hlo, hhi, by omega, rfl, rfl, by go_num, fun _ => ⟨fun d hd => HL.out d (by omega), fun d hd => HH.out d (by omega)⟩, HNX.out⟩
              case measure => simp [intOf]; omega
        · go_wp2
          go_ret2
          obtain ⟨a1, a2⟩ := HA.out (by omega)
          exact ⟨ret_two' (by rw [← Lat.low_unique HM.out hn0 hlo a1]) (by rw [← Lat.low_unique (Z := Lat.tr Z) HJ.out hn0 hhi a2]), up HB0.out hnx⟩

end Go.Proofs.Ytholefgckcoklaa
