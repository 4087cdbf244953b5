/- Walks over package downref, third part: above: the list of all that is above both. -/
import Derived.Test.YtholefgckcoklaaGreatDoorBZBG
import Derived.Maps.AppendAt
import Derived.Deep.QuietTactic
import Derived.BigQuiet
namespace Go.Proofs.YtholefgckcoklaaGreatDoor
open Go.RowKit
theorem infoIntR : (Tryz.prog.info? 3).map (fun i => (i.zero, i.size, i.bytes)) = some (some (.int .i64 0), 1, 8) := by kernel_rfl
def IntsR (w : World) (v : Value) (xs : List Nat) : Prop :=
  ∃ (a : Option Addr) (g cap : Nat), v = .slice a xs.length cap ∧ (0 < xs.length → a = some ⟨g, 0, none⟩) ∧ ∀ j, j < xs.length → w.cell? ⟨g, j, none⟩ = some (.int .i64 (xs.getD j 0 : Nat))
theorem IntsR.below {w w' : World} {v : Value} {xs : List Nat} (h : IntsR w v xs) (hb : Below w.heap.size w w') : IntsR w' v xs := by
  obtain ⟨a, g, cap, e, h0, h1⟩ := h
  exact ⟨a, g, cap, e, h0, fun r hr => by rw [hb.cell (World.block_lt_of_cell? _ _ (h1 r hr))]; exact h1 r hr⟩
def intV (c : Nat) : Value := .int .i64 c
theorem ints_of {w : World} {base : Nat} {v : Value} {xs : List Nat} (h : w.ownsRow base 3 1 v xs.length (xs.map intV)) : IntsR w v xs := by
  obtain ⟨h1, h2⟩ := h
  rcases h2 with ⟨rfl, h0⟩ | ⟨g, cap, cur, rfl, hg, hh, hn, hc, hs, ht⟩
  · have : xs = [] := List.eq_nil_of_length_eq_zero h0
    subst this
    exact ⟨none, 0, 0, rfl, fun h => absurd h (Nat.lt_irrefl _), fun j hj => absurd hj (Nat.not_lt_zero _)⟩
  · refine ⟨_, g, cap, rfl, fun _ => rfl, fun j hj => ?_⟩
    have hown : w.ownsRow base 3 1 (.slice (some ⟨g, 0, none⟩) xs.length cap) xs.length (xs.map intV) := ⟨h1, Or.inr ⟨g, cap, cur, rfl, hg, hh, hn, hc, hs, ht⟩⟩
    rw [hown.cellAt j (by omega)]
    simp [List.getElem?_map, List.getElem?_eq_getElem hj, intV, List.getD]
namespace Lat
def upTo (Z : Nat → Nat → Bool) (a b k : Nat) : List Nat := (List.range k).filter fun c => Z a c && Z b c
theorem upTo_yes {Z : Nat → Nat → Bool} {a b k : Nat} (h1 : Z a k = true) (h2 : Z b k = true) : upTo Z a b (k + 1) = upTo Z a b k ++ [k] := by
  unfold upTo; rw [List.range_succ, List.filter_append]; simp [h1, h2]
theorem upTo_no1 {Z : Nat → Nat → Bool} {a b k : Nat} (h1 : Z a k = false) : upTo Z a b (k + 1) = upTo Z a b k := by
  unfold upTo; rw [List.range_succ, List.filter_append]; simp [h1]
theorem upTo_no2 {Z : Nat → Nat → Bool} {a b k : Nat} (h2 : Z b k = false) : upTo Z a b (k + 1) = upTo Z a b k := by
  unfold upTo; rw [List.range_succ, List.filter_append]; simp [h2]
theorem upTo_le (Z : Nat → Nat → Bool) (a b k : Nat) : (upTo Z a b k).length ≤ k := by
  unfold upTo; have := List.length_filter_le (fun c => Z a c && Z b c) (List.range k); simpa using this
end Lat
set_option maxHeartbeats 2000000 in
set_option maxRecDepth 100000 in
theorem above_any (w : World) (ad : Option Addr) (vl : Value) (n cap a b : Nat) (Z : Nat → Nat → Bool) (hG : Grid w vl n Z) (hn : n ≤ 6) (ha : a < n) (hb : b < n) :
    Calls Tryz.prog 183 #[.agg #[.slice ad n cap, vl], .int .i64 a, .int .i64 b] w fun e w' => ∃ v, e = .returned v ∧ IntsR w' v (Lat.upTo Z a b n) ∧ Below w.heap.size w w' := by
  obtain ⟨gb, go, gc, RB, RO, C, rfl, h1, h2⟩ := hG.below (boxBelow w (.cells #[.slice ad n cap, vl] 34))
  obtain ⟨i0, hi, hz0, hz1, hz2⟩ := info_parts infoIntR
  have q0 := cellBox0 w (.slice ad n cap) (.slice (some ⟨gb, go, none⟩) n gc) 34
  have q1 := cellBox1 w (.slice ad n cap) (.slice (some ⟨gb, go, none⟩) n gc) 34
  have HB0 := hide (boxBelow w (.cells #[.slice ad n cap, .slice (some ⟨gb, go, none⟩) n gc] 34))
  go_enter Tryz.func183, Tryz.ntmps183
  go_wp2
  generalize w.alloc (.cells #[.slice ad n cap, .slice (some ⟨gb, go, none⟩) n gc] 34) = W0 at *
  go_loopw [7, 8] (fun v i wr => ∃ k : Nat, k ≤ n ∧ i = .int .i64 k ∧ wr.ownsRow W0.heap.size 3 1 v (Lat.upTo Z a b k).length ((Lat.upTo Z a b k).map intV) ∧ Below W0.heap.size W0 wr)
    (fun _ i _ => n - (intOf i).toNat)
  case atStart => exact ⟨0, Nat.zero_le _, rfl, World.ownsRow_nil _ _ _ _, Below.refl _ _⟩
  case round =>
    obtain ⟨k, hk, rfl, hrow, hnx⟩ := hrel
    have p0 := cellUp q0 hnx
    by_cases hlt : k < n
    · have p1 := cellUp q1 hnx
      have ra := cellUp (h1 a ha) hnx
      have rb := cellUp (h1 b hb) hnx
      have ca := cellUp (h2 a k ha hlt) hnx
      have cb := cellUp (h2 b k hb hlt) hnx
      have hle := Lat.upTo_le Z a b k
      cases za : Z a k
      · rw [za] at ca
        have HZ := hide (Lat.upTo_no1 (b := b) za)
        clear za
        go_wp2
        go_roundw
        case rel => exact ⟨k + 1, by omega, by go_num, by rw [HZ.out]; exact hrow, hnx⟩
        case measure => simp [intOf]; omega
      · rw [za] at ca
        cases zb : Z b k
        · rw [zb] at cb
          have HZ := hide (Lat.upTo_no2 (a := a) zb)
          clear za zb
          go_wp2
          go_roundw
          case rel => exact ⟨k + 1, by omega, by go_num, by rw [HZ.out]; exact hrow, hnx⟩
          case measure => simp [intOf]; omega
        · rw [zb] at cb
          have HZ := hide (Lat.upTo_yes za zb)
          clear za zb
          go_wp2_with (first
            | (at_builtin; refine wpList_append_own _ rfl _ _ 47 rfl W0.heap.size 3 i0 (.int .i64 0) 1 8 Tryz.underlying47 hi hz0 hz1 hz2 rfl (by decide) _ _ _ rfl (hrow.alloc _) ⟨wr.heap.size, 0, none⟩ 1 1 [.int .i64 k] rfl rfl (cell_one_new _ _ _) (ints_oneCell .i64 [(k : Int)]) (by unfold maxLen; omega) (by omega) (by have := hnx.size; simp; omega) ?_; intro v' w2 hown' hgrow2 hnil2)
            | go_in)
          have hs2 := hnx.size
          have R2 := (hnx.alloc hnx.size (.cells #[.int .i64 k] 3)).grown hgrow2 (by simp; omega) (fun j hj => (hrow.lt j hj).1)
          clear hnil2 hgrow2 ra rb ca cb p0 p1
          go_roundw
          case rel => exact ⟨k + 1, by omega, by go_num, by rw [HZ.out]; simpa [intV] using hown', R2⟩
          case measure => simp [intOf]; omega
    · go_wp2
      go_ret
      have e : k = n := by omega
      subst e
      exact ⟨_, rfl, ints_of hrow, HB0.out.trans (hnx.mono HB0.out.size)⟩
end Go.Proofs.YtholefgckcoklaaGreatDoor
namespace Go.Proofs.YtholefgckcoklaaGreatDoor
open Go.RowKit
namespace Lat
def joinI (Z : Nat → Nat → Bool) (n a b : Nat) : Int := match joinO Z n a b with | some c => c | none => -1
theorem below_up (Z : Nat → Nat → Bool) (n a b c : Nat) : belowB Z n a b c = (upTo Z a b n).all (Z c) := by
  unfold belowB upTo
  rw [List.all_filter]
  congr 1
  funext d
  cases Z a d <;> cases Z b d <;> simp
theorem joinO_up (Z : Nat → Nat → Bool) (n a b : Nat) : joinO Z n a b = (upTo Z a b n).find? (fun c => (upTo Z a b n).all (Z c)) := by
  unfold joinO
  conv => rhs; unfold upTo
  rw [List.find?_filter]
  congr 1
  funext c
  unfold joinP
  rw [below_up, upTo, Bool.eq_iff_iff]
  simp only [Bool.and_eq_true, decide_eq_true_eq]
theorem joinI_hit (Z : Nat → Nat → Bool) (n a b i : Nat) (hi : i < (upTo Z a b n).length) (h0 : ∀ j, j < i → (upTo Z a b n).all (Z ((upTo Z a b n).getD j 0)) = false) (h1 : (upTo Z a b n).all (Z ((upTo Z a b n).getD i 0)) = true) :
    joinI Z n a b = ((upTo Z a b n).getD i 0 : Nat) := by
  have e : joinO Z n a b = some ((upTo Z a b n).getD i 0) := by
    rw [joinO_up, List.find?_eq_some_iff_getElem]
    refine ⟨h1, i, hi, by simp [List.getD, List.getElem?_eq_getElem hi], fun j hj => ?_⟩
    have := h0 j hj
    simp only [List.getD, List.getElem?_eq_getElem (Nat.lt_trans hj hi), Option.getD_some] at this
    simp [this]
  unfold joinI; rw [e]
theorem joinI_miss {Z : Nat → Nat → Bool} {n a b : Nat} (h0 : ∀ j, j < (upTo Z a b n).length → (upTo Z a b n).all (Z ((upTo Z a b n).getD j 0)) = false) : joinI Z n a b = -1 := by
  have e : joinO Z n a b = none := by
    rw [joinO_up, List.find?_eq_none]
    intro x hx
    obtain ⟨j, hj, rfl⟩ := List.mem_iff_getElem.1 hx
    have := h0 j hj
    simp only [List.getD, List.getElem?_eq_getElem hj, Option.getD_some] at this
    simp [this]
  unfold joinI; rw [e]
theorem upTo_lt {Z : Nat → Nat → Bool} {n a b j : Nat} (hj : j < (upTo Z a b n).length) : (upTo Z a b n).getD j 0 < n := by
  have : (upTo Z a b n).getD j 0 ∈ upTo Z a b n := by
    simp only [List.getD, List.getElem?_eq_getElem hj, Option.getD_some]; exact List.getElem_mem hj
  unfold upTo at this
  exact List.mem_range.1 (List.mem_filter.1 this).1
theorem all_take {U : List Nat} {p : Nat → Bool} {k : Nat} (hk : k < U.length) : (U.take (k + 1)).all p = ((U.take k).all p && p (U.getD k 0)) := by
  rw [List.take_succ_eq_append_getElem hk, List.all_append]
  simp [List.getD, List.getElem?_eq_getElem hk]
end Lat
set_option maxHeartbeats 2000000 in
set_option maxRecDepth 100000 in
theorem rjoin_any (w : World) (ad : Option Addr) (vl : Value) (n cap a b : Nat) (Z : Nat → Nat → Bool) (hG : Grid w vl n Z) (hn : n ≤ 6) (ha : a < n) (hb : b < n) :
    Calls Tryz.prog 120 #[.agg #[.slice ad n cap, vl], .int .i64 a, .int .i64 b] w fun e w' => e = .returned (.int .i64 (Lat.joinI Z n a b)) ∧ Below w.heap.size w w' := by
  have HG := hide (hG.below (boxBelow w (.cells #[.slice ad n cap, vl] 34)))
  go_enter Tryz.func120, Tryz.ntmps120
  go_wp2_with fail
  refine (above_any _ ad vl n cap a b Z HG.out hn ha hb).mono ?_
  rintro e W0 ⟨vu, rfl, hI, hb0⟩
  have q1 := cellUp (cellBox1 w (.slice ad n cap) vl 34) hb0
  have HB0 := hide (up1 hb0)
  obtain ⟨gb, go, gc, RB, RO, C, hvl, h1, h2⟩ := HG.out.below hb0
  rw [hvl] at q1
  obtain ⟨ua, g, uc, hvu, hu0, hu1⟩ := hI
  rw [hvu]
  clear hb0 hG HG hvl hvu
  have HX : ∀ j, j < (Lat.upTo Z a b n).length → (Lat.upTo Z a b n).getD j 0 < n := fun j hj => Lat.upTo_lt hj
  have hJ0 := hide (Lat.joinI_hit Z n a b)
  have hJ1 := hide (@Lat.joinI_miss Z n a b)
  have hm6 := Lat.upTo_le Z a b n
  generalize Lat.upTo Z a b n = U at *
  obtain ⟨m, hm⟩ : ∃ m, m = U.length := ⟨_, rfl⟩
  have HM := hide hm
  rw [← hm] at hu0 hu1 HX hm6 ⊢
  clear hm
  go_wp2
  go_loopw [8] (fun i wr => ∃ k : Nat, k ≤ m ∧ i = .int .i64 k ∧ (∀ j, j < k → U.all (Z (U.getD j 0)) = false) ∧ Below W0.heap.size W0 wr) (fun i _ => m - (intOf i).toNat)
  case atStart => exact ⟨0, Nat.zero_le _, rfl, fun d hd => absurd hd (Nat.not_lt_zero _), Below.refl _ _⟩
  case round =>
    obtain ⟨k, hk, rfl, hall, hnx⟩ := hrel
    have HA := hide hall
    clear hall
    by_cases hlt : k < m
    · obtain rfl := hu0 (by omega)
      obtain ⟨c, hc⟩ : ∃ c, c = U.getD k 0 := ⟨_, rfl⟩
      have hcn : c < n := by rw [hc]; exact HX k hlt
      have HC := hide hc
      have u1 := hu1 k hlt
      rw [← hc] at u1
      clear hc
      have HNX := hide hnx
      clear hnx
      go_wp2
      go_loopw [9, 10] (fun s i wi => ∃ k2 : Nat, k2 ≤ m ∧ i = .int .i64 k2 ∧ s = .bool ((U.take k2).all (Z c)) ∧ Below W0.heap.size W0 wi) (fun _ i _ => m - (intOf i).toNat)
      case atStart => exact ⟨0, Nat.zero_le _, rfl, rfl, HNX.out⟩
      case round =>
        obtain ⟨k2, hk2, rfl, rfl, hnx⟩ := hrel
        by_cases hlt2 : k2 < m
        · obtain ⟨d, hd⟩ : ∃ d, d = U.getD k2 0 := ⟨_, rfl⟩
          have hdn : d < n := by rw [hd]; exact HX k2 hlt2
          have HS : Hid ((U.take (k2 + 1)).all (Z c) = ((U.take k2).all (Z c) && Z c d)) := by
            rw [hd]; exact Lat.all_take (by rw [← HM.out]; exact hlt2)
          have t1 := cellUp q1 hnx
          have t2 := cellUp u1 hnx
          have t3 := cellUp (hu1 k2 hlt2) hnx
          rw [← hd] at t3
          have t4 := cellUp (h1 c hcn) hnx
          have t5 := cellUp (h2 c d hcn hdn) hnx
          have b1 : (0 : Int) ≤ (c : Int) := by omega
          have b2 : (c : Int) < (n : Int) := by omega
          have b3 : (0 : Int) ≤ (d : Int) := by omega
          have b4 : (d : Int) < (n : Int) := by omega
          have b5 : (0 : Int) ≤ (k : Int) := by omega
          have b6 : (k : Int) < (m : Int) := by omega
          have b7 : (0 : Int) ≤ (k2 : Int) := by omega
          have b8 : (k2 : Int) < (m : Int) := by omega
          clear hd h1 h2 hu1 u1 q1 HX
          generalize hL : (U.take k2).all (Z c) = le at *
          clear hL
          cases le
          all_goals
            go_wp2_with fail
            go_quiet (fail)
            go_wp2
            go_roundw
            case rel => exact ⟨k2 + 1, by omega, by go_num, val_bool (by rw [HS.out]; simp), hnx.trans ⟨rfl, rfl, rfl, Nat.le_refl _, fun _ _ => rfl⟩⟩
            case measure => simp [intOf]; omega
        · have e2 : k2 = U.length := by have := HM.out; omega
          have t1 := cellUp u1 hnx
          have e3 : (U.take k2).all (Z c) = U.all (Z (U.getD k 0)) := by rw [e2, List.take_length, HC.out]
          rw [e3]
          cases hle : U.all (Z (U.getD k 0))
          · have HLE := hide hle
            go_wp2
            go_roundw
            case rel => exact ⟨k + 1, by omega, by go_num, fun j hj => by
                by_cases e : j = k
                · subst e; exact HLE.out
                · exact HA.out j (by omega), hnx⟩
            case measure => simp [intOf]; omega
          · have HLE := hide hle
            go_wp2
            go_ret
            exact ⟨ret_int (by rw [hJ0.out k (by rw [← HM.out]; exact hlt) HA.out HLE.out, ← HC.out]), up HB0.out hnx⟩
    · go_wp2
      go_ret
      exact ⟨ret_int (by rw [hJ1.out (fun j hj => HA.out j (by have := HM.out; omega))]), up HB0.out hnx⟩
end Go.Proofs.YtholefgckcoklaaGreatDoor
