/- Walks over package downref, second part: lattice.Find. -/
import Derived.Test.YtbncnkfogkhoeaaGreatDoorZA
import Derived.Test.YtbncnkfogkhoeaaGreatDoorZJ
import Derived.Maps.AppendAt
import Derived.Deep.QuietTactic
import Derived.BigQuiet
import Derived.Deep.OwnRows
import Derived.Laws.OwnMore
namespace Go.Proofs.YtbncnkfogkhoeaaGreatDoor
open Go.RowKit

namespace Lat
def findN (ss : List ByteArray) (t : ByteArray) : Int := if indexI ss t < 0 then 0 else indexI ss t
def findE (ss : List ByteArray) (t : ByteArray) : Int := if indexI ss t < 0 then 4 else 0
end Lat

end Go.Proofs.YtbncnkfogkhoeaaGreatDoor

/- Walks over package downref, third part: above: the list of all that is above both. -/
namespace Go.Proofs.YtbncnkfogkhoeaaGreatDoor
open Go.RowKit

theorem infoIntR : (Tryz.prog.info? 3).map (fun i => (i.zero, i.size, i.bytes)) = some (some (.int .i64 0), 1, 8) := by kernel_rfl

/-- The slice v is the list xs of numbers. -/
def IntsR (w : World) (v : Value) (xs : List Nat) : Prop :=
  ∃ (a : Option Addr) (g cap : Nat), v = .slice a xs.length cap ∧ (0 < xs.length → a = some ⟨g, 0, none⟩) ∧ ∀ j, j < xs.length → w.cell? ⟨g, j, none⟩ = some (.int .i64 (xs.getD j 0 : Nat))

theorem IntsR.below {w w' : World} {v : Value} {xs : List Nat} (h : IntsR w v xs) (hb : Below w.heap.size w w') : IntsR w' v xs := by
  obtain ⟨a, g, cap, e, h0, h1⟩ := h
  exact ⟨a, g, cap, e, h0, fun r hr => by rw [hb.cell (World.block_lt_of_cell? _ _ (h1 r hr))]; exact h1 r hr⟩

def intV (c : Nat) : Value := .int .i64 c

theorem ints_of {w : World} {base : Nat} {v : Value} {xs : List Nat} (h : w.ownsRow base 3 1 v xs.length (xs.map intV)) : IntsR w v xs := by
  obtain ⟨h1, h2⟩ := h
  rcases h2 with ⟨rfl, h0⟩ | ⟨g, cap, cur, rfl, hg, hh, hn, hc, hs, ht⟩
  · have : xs = [] := List.eq_nil_of_length_eq_zero h0
    subst this
    exact ⟨none, 0, 0, rfl, fun h => absurd h (Nat.lt_irrefl _), fun j hj => absurd hj (Nat.not_lt_zero _)⟩
  · refine ⟨_, g, cap, rfl, fun _ => rfl, fun j hj => ?_⟩
    have hown : w.ownsRow base 3 1 (.slice (some ⟨g, 0, none⟩) xs.length cap) xs.length (xs.map intV) := ⟨h1, Or.inr ⟨g, cap, cur, rfl, hg, hh, hn, hc, hs, ht⟩⟩
    rw [hown.cellAt j (by omega)]
    simp [List.getElem?_map, List.getElem?_eq_getElem hj, intV, List.getD]

namespace Lat
/-- All that is above both, of those below k. -/
def upTo (Z : Nat → Nat → Bool) (a b k : Nat) : List Nat := (List.range k).filter fun c => Z a c && Z b c
theorem upTo_yes {Z : Nat → Nat → Bool} {a b k : Nat} (h1 : Z a k = true) (h2 : Z b k = true) : upTo Z a b (k + 1) = upTo Z a b k ++ [k] := by
  unfold upTo; rw [List.range_succ, List.filter_append]; simp [h1, h2]
theorem upTo_no1 {Z : Nat → Nat → Bool} {a b k : Nat} (h1 : Z a k = false) : upTo Z a b (k + 1) = upTo Z a b k := by
  unfold upTo; rw [List.range_succ, List.filter_append]; simp [h1]
theorem upTo_no2 {Z : Nat → Nat → Bool} {a b k : Nat} (h2 : Z b k = false) : upTo Z a b (k + 1) = upTo Z a b k := by
  unfold upTo; rw [List.range_succ, List.filter_append]; simp [h2]
theorem upTo_le (Z : Nat → Nat → Bool) (a b k : Nat) : (upTo Z a b k).length ≤ k := by
  unfold upTo; have := List.length_filter_le (fun c => Z a c && Z b c) (List.range k); simpa using this
end Lat


set_option maxHeartbeats 2000000 in
set_option maxRecDepth 100000 in
theorem above_any (w : World) (ad : Option Addr) (vl : Value) (n cap a b : Nat) (Z : Nat → Nat → Bool) (hG : Grid w vl n Z) (hn : n ≤ 6) (ha : a < n) (hb : b < n) :
    Calls Tryz.prog 137 #[.agg #[.slice ad n cap, vl], .int .i64 a, .int .i64 b] w fun e w' => ∃ v, e = .returned v ∧ IntsR w' v (Lat.upTo Z a b n) ∧ Below w.heap.size w w' := by
  obtain ⟨gb, go, gc, RB, RO, C, rfl, h1, h2⟩ := hG.below (boxBelow w (.cells #[.slice ad n cap, vl] 34))
  obtain ⟨i0, hi, hz0, hz1, hz2⟩ := info_parts infoIntR
  have q0 := cellBox0 w (.slice ad n cap) (.slice (some ⟨gb, go, none⟩) n gc) 34
  have q1 := cellBox1 w (.slice ad n cap) (.slice (some ⟨gb, go, none⟩) n gc) 34
  have HB0 := hide (boxBelow w (.cells #[.slice ad n cap, .slice (some ⟨gb, go, none⟩) n gc] 34))
  go_enter Tryz.func137, Tryz.ntmps137
  go_wp2
  generalize w.alloc (.cells #[.slice ad n cap, .slice (some ⟨gb, go, none⟩) n gc] 34) = W0 at *
  go_loopw [7, 8] (fun v i wr => ∃ k : Nat, k ≤ n ∧ i = .int .i64 k ∧ wr.ownsRow W0.heap.size 3 1 v (Lat.upTo Z a b k).length ((Lat.upTo Z a b k).map intV) ∧ Below W0.heap.size W0 wr)
    (fun _ i _ => n - (intOf i).toNat)
  case atStart => exact ⟨0, Nat.zero_le _, rfl, World.ownsRow_nil _ _ _ _, Below.refl _ _⟩
  case round =>
    obtain ⟨k, hk, rfl, hrow, hnx⟩ := hrel
    have p0 := cellUp q0 hnx
    by_cases hlt : k < n
    · have p1 := cellUp q1 hnx
      have ra := cellUp (h1 a ha) hnx
      have rb := cellUp (h1 b hb) hnx
      have ca := cellUp (h2 a k ha hlt) hnx
      have cb := cellUp (h2 b k hb hlt) hnx
      have hle := Lat.upTo_le Z a b k
      cases za : Z a k
      · rw [za] at ca
        have HZ := hide (Lat.upTo_no1 (b := b) za)
        clear za
        go_wp2
        go_roundw
        case rel => exact ⟨k + 1, by omega, by go_num, by rw [HZ.out]; exact hrow, hnx⟩
        case measure => simp [intOf]; omega
      · rw [za] at ca
        cases zb : Z b k
        · rw [zb] at cb
          have HZ := hide (Lat.upTo_no2 (a := a) zb)
          clear za zb
          go_wp2
          go_roundw
          case rel => exact ⟨k + 1, by omega, by go_num, by rw [HZ.out]; exact hrow, hnx⟩
          case measure => simp [intOf]; omega
        · rw [zb] at cb
          have HZ := hide (Lat.upTo_yes za zb)
          clear za zb
          go_wp2_with (first
            | (at_builtin; refine wpList_append_own _ rfl _ _ 47 rfl W0.heap.size 3 i0 (.int .i64 0) 1 8 Tryz.underlying47 hi hz0 hz1 hz2 rfl (by decide) _ _ _ rfl (hrow.alloc _) ⟨wr.heap.size, 0, none⟩ 1 1 [.int .i64 k] rfl rfl (cell_one_new _ _ _) (ints_oneCell .i64 [(k : Int)]) (by unfold maxLen; omega) (by omega) (by have := hnx.size; simp; omega) ?_; intro v' w2 hown' hgrow2 hnil2)
            | go_in)
          have hs2 := hnx.size
          have R2 := (hnx.alloc hnx.size (.cells #[.int .i64 k] 3)).grown hgrow2 (by simp; omega) (fun j hj => (hrow.lt j hj).1)
          clear hnil2 hgrow2 ra rb ca cb p0 p1
          go_roundw
          case rel => exact ⟨k + 1, by omega, by go_num, by rw [HZ.out]; simpa [intV] using hown', R2⟩
          case measure => simp [intOf]; omega
    · go_wp2
      go_ret
      have e : k = n := by omega
      subst e
      exact ⟨_, rfl, ints_of hrow, HB0.out.trans (hnx.mono HB0.out.size)⟩

end Go.Proofs.YtbncnkfogkhoeaaGreatDoor

/- Walks over package downref, fourth part: Join: the first of those above both that is below them all. -/
namespace Go.Proofs.YtbncnkfogkhoeaaGreatDoor
open Go.RowKit

namespace Lat
def joinI (Z : Nat → Nat → Bool) (n a b : Nat) : Int := match joinO Z n a b with | some c => c | none => -1
theorem below_up (Z : Nat → Nat → Bool) (n a b c : Nat) : belowB Z n a b c = (upTo Z a b n).all (Z c) := by
  unfold belowB upTo
  rw [List.all_filter]
  congr 1
  funext d
  cases Z a d <;> cases Z b d <;> simp
theorem joinO_up (Z : Nat → Nat → Bool) (n a b : Nat) : joinO Z n a b = (upTo Z a b n).find? (fun c => (upTo Z a b n).all (Z c)) := by
  unfold joinO
  conv => rhs; unfold upTo
  rw [List.find?_filter]
  congr 1
  funext c
  unfold joinP
  rw [below_up, upTo, Bool.eq_iff_iff]
  simp only [Bool.and_eq_true, decide_eq_true_eq]
theorem joinI_hit (Z : Nat → Nat → Bool) (n a b i : Nat) (hi : i < (upTo Z a b n).length) (h0 : ∀ j, j < i → (upTo Z a b n).all (Z ((upTo Z a b n).getD j 0)) = false) (h1 : (upTo Z a b n).all (Z ((upTo Z a b n).getD i 0)) = true) :
    joinI Z n a b = ((upTo Z a b n).getD i 0 : Nat) := by
  have e : joinO Z n a b = some ((upTo Z a b n).getD i 0) := by
    rw [joinO_up, List.find?_eq_some_iff_getElem]
    refine ⟨h1, i, hi, by simp [List.getD, List.getElem?_eq_getElem hi], fun j hj => ?_⟩
    have := h0 j hj
    simp only [List.getD, List.getElem?_eq_getElem (Nat.lt_trans hj hi), Option.getD_some] at this
    simp [this]
  unfold joinI; rw [e]
theorem joinI_miss {Z : Nat → Nat → Bool} {n a b : Nat} (h0 : ∀ j, j < (upTo Z a b n).length → (upTo Z a b n).all (Z ((upTo Z a b n).getD j 0)) = false) : joinI Z n a b = -1 := by
  have e : joinO Z n a b = none := by
    rw [joinO_up, List.find?_eq_none]
    intro x hx
    obtain ⟨j, hj, rfl⟩ := List.mem_iff_getElem.1 hx
    have := h0 j hj
    simp only [List.getD, List.getElem?_eq_getElem hj, Option.getD_some] at this
    simp [this]
  unfold joinI; rw [e]
theorem upTo_lt {Z : Nat → Nat → Bool} {n a b j : Nat} (hj : j < (upTo Z a b n).length) : (upTo Z a b n).getD j 0 < n := by
  have : (upTo Z a b n).getD j 0 ∈ upTo Z a b n := by
    simp only [List.getD, List.getElem?_eq_getElem hj, Option.getD_some]; exact List.getElem_mem hj
  unfold upTo at this
  exact List.mem_range.1 (List.mem_filter.1 this).1
theorem all_take {U : List Nat} {p : Nat → Bool} {k : Nat} (hk : k < U.length) : (U.take (k + 1)).all p = ((U.take k).all p && p (U.getD k 0)) := by
  rw [List.take_succ_eq_append_getElem hk, List.all_append]
  simp [List.getD, List.getElem?_eq_getElem hk]
end Lat

set_option maxHeartbeats 2000000 in
set_option maxRecDepth 100000 in
theorem rjoin_any (w : World) (ad : Option Addr) (vl : Value) (n cap a b : Nat) (Z : Nat → Nat → Bool) (hG : Grid w vl n Z) (hn : n ≤ 6) (ha : a < n) (hb : b < n) :
    Calls Tryz.prog 90 #[.agg #[.slice ad n cap, vl], .int .i64 a, .int .i64 b] w fun e w' => e = .returned (.int .i64 (Lat.joinI Z n a b)) ∧ Below w.heap.size w w' := by
  have HG := hide (hG.below (boxBelow w (.cells #[.slice ad n cap, vl] 34)))
  go_enter Tryz.func90, Tryz.ntmps90
  go_wp2_with fail
  refine (above_any _ ad vl n cap a b Z HG.out hn ha hb).mono ?_
  rintro e W0 ⟨vu, rfl, hI, hb0⟩
  have q1 := cellUp (cellBox1 w (.slice ad n cap) vl 34) hb0
  have HB0 := hide (up1 hb0)
  obtain ⟨gb, go, gc, RB, RO, C, hvl, h1, h2⟩ := HG.out.below hb0
  rw [hvl] at q1
  obtain ⟨ua, g, uc, hvu, hu0, hu1⟩ := hI
  rw [hvu]
  clear hb0 hG HG hvl hvu
  have HX : ∀ j, j < (Lat.upTo Z a b n).length → (Lat.upTo Z a b n).getD j 0 < n := fun j hj => Lat.upTo_lt hj
  have hJ0 := hide (Lat.joinI_hit Z n a b)
  have hJ1 := hide (@Lat.joinI_miss Z n a b)
  have hm6 := Lat.upTo_le Z a b n
  generalize Lat.upTo Z a b n = U at *
  obtain ⟨m, hm⟩ : ∃ m, m = U.length := ⟨_, rfl⟩
  have HM := hide hm
  rw [← hm] at hu0 hu1 HX hm6 ⊢
  clear hm
  go_wp2
  go_loopw [8] (fun i wr => ∃ k : Nat, k ≤ m ∧ i = .int .i64 k ∧ (∀ j, j < k → U.all (Z (U.getD j 0)) = false) ∧ Below W0.heap.size W0 wr) (fun i _ => m - (intOf i).toNat)
  case atStart => exact ⟨0, Nat.zero_le _, rfl, fun d hd => absurd hd (Nat.not_lt_zero _), Below.refl _ _⟩
  case round =>
    obtain ⟨k, hk, rfl, hall, hnx⟩ := hrel
    have HA := hide hall
    clear hall
    by_cases hlt : k < m
    · obtain rfl := hu0 (by omega)
      obtain ⟨c, hc⟩ : ∃ c, c = U.getD k 0 := ⟨_, rfl⟩
      have hcn : c < n := by rw [hc]; exact HX k hlt
      have HC := hide hc
      have u1 := hu1 k hlt
      rw [← hc] at u1
      clear hc
      have HNX := hide hnx
      clear hnx
      go_wp2
      go_loopw [9, 10] (fun s i wi => ∃ k2 : Nat, k2 ≤ m ∧ i = .int .i64 k2 ∧ s = .bool ((U.take k2).all (Z c)) ∧ Below W0.heap.size W0 wi) (fun _ i _ => m - (intOf i).toNat)
      case atStart => exact ⟨0, Nat.zero_le _, rfl, rfl, HNX.out⟩
      case round =>
        obtain ⟨k2, hk2, rfl, rfl, hnx⟩ := hrel
        by_cases hlt2 : k2 < m
        · obtain ⟨d, hd⟩ : ∃ d, d = U.getD k2 0 := ⟨_, rfl⟩
          have hdn : d < n := by rw [hd]; exact HX k2 hlt2
          have HS : Hid ((U.take (k2 + 1)).all (Z c) = ((U.take k2).all (Z c) && Z c d)) := by
            rw [hd]; exact Lat.all_take (by rw [← HM.out]; exact hlt2)
          have t1 := cellUp q1 hnx
          have t2 := cellUp u1 hnx
          have t3 := cellUp (hu1 k2 hlt2) hnx
          rw [← hd] at t3
          have t4 := cellUp (h1 c hcn) hnx
          have t5 := cellUp (h2 c d hcn hdn) hnx
          have b1 : (0 : Int) ≤ (c : Int) := by omega
          have b2 : (c : Int) < (n : Int) := by omega
          have b3 : (0 : Int) ≤ (d : Int) := by omega
          have b4 : (d : Int) < (n : Int) := by omega
          have b5 : (0 : Int) ≤ (k : Int) := by omega
          have b6 : (k : Int) < (m : Int) := by omega
          have b7 : (0 : Int) ≤ (k2 : Int) := by omega
          have b8 : (k2 : Int) < (m : Int) := by omega
          clear hd h1 h2 hu1 u1 q1 HX
          generalize hL : (U.take k2).all (Z c) = le at *
          clear hL
          cases le
          all_goals
            go_wp2_with fail
            go_quiet (fail)
            go_wp2
            go_roundw
            case rel => exact ⟨k2 + 1, by omega, by go_num, val_bool (by rw [HS.out]; simp), hnx.trans ⟨rfl, rfl, rfl, Nat.le_refl _, fun _ _ => rfl⟩⟩
            case measure => simp [intOf]; omega
        · have e2 : k2 = U.length := by have := HM.out; omega
          have t1 := cellUp u1 hnx
          have e3 : (U.take k2).all (Z c) = U.all (Z (U.getD k 0)) := by rw [e2, List.take_length, HC.out]
          rw [e3]
          cases hle : U.all (Z (U.getD k 0))
          · have HLE := hide hle
            go_wp2
            go_roundw
            case rel => exact ⟨k + 1, by omega, by go_num, fun j hj => by
                by_cases e : j = k
                · subst e; exact HLE.out
                · exact HA.out j (by omega), hnx⟩
            case measure => simp [intOf]; omega
          · have HLE := hide hle
            go_wp2
            go_ret
            exact ⟨ret_int (by rw [hJ0.out k (by rw [← HM.out]; exact hlt) HA.out HLE.out, ← HC.out]), up HB0.out hnx⟩
    · go_wp2
      go_ret
      exact ⟨ret_int (by rw [hJ1.out (fun j hj => HA.out j (by have := HM.out; omega))]), up HB0.out hnx⟩

end Go.Proofs.YtbncnkfogkhoeaaGreatDoor

/- Walks over package downref, fifth part: turned: a lattice of the same names, with below what was above, its table made by appends. -/
namespace Go.Proofs.YtbncnkfogkhoeaaGreatDoor
open Go.RowKit

section
variable {w w' : World} {base e size n : Nat} {v : Value} {xs : List Value}

theorem own_belowR (h : w.ownsRow base e size v n xs) (hb : Below w.heap.size w w') : w'.ownsRow base e size v n xs := by
  obtain ⟨h1, h2⟩ := h
  refine ⟨h1, ?_⟩
  rcases h2 with h2 | ⟨g, cap, cur, hv, hg, hh, r⟩
  · exact Or.inl h2
  · refine Or.inr ⟨g, cap, cur, hv, hg, ?_, r⟩
    have hlt : g < w.heap.size := by
      rcases Nat.lt_or_ge g w.heap.size with h' | h'
      · exact h'
      · rw [Array.getElem?_eq_none h'] at hh; cases hh
    rw [hb.block g hlt]; exact hh
theorem own_base {base' : Nat} (h : w.ownsRow base e size v n xs) (hb : base' ≤ base) : w.ownsRow base' e size v n xs := by
  obtain ⟨h1, h2⟩ := h
  refine ⟨h1, ?_⟩
  rcases h2 with h2 | ⟨g, cap, cur, hv, hg, r⟩
  · exact Or.inl h2
  · exact Or.inr ⟨g, cap, cur, hv, by omega, r⟩
theorem own_neR {base' e' size' n' : Nat} {v' : Value} {xs' : List Value} (h : w.ownsRow base e size v n xs) (h' : w.ownsRow base' e' size' v' n' xs') (hne : e ≠ e') : v.ownBlock = none ∨ v.ownBlock ≠ v'.ownBlock := by
  rcases h.2 with ⟨rfl, _⟩ | ⟨g, cap, cur, rfl, _, hh, _⟩
  · exact Or.inl rfl
  · right
    intro e1
    rcases h'.2 with ⟨rfl, _⟩ | ⟨g', cap', cur', rfl, _, hh', _⟩
    · simp [Value.ownBlock] at e1
    · simp [Value.ownBlock] at e1
      subst e1
      rw [hh] at hh'
      simp at hh'
      exact hne hh'.2
theorem own_one (h : w.ownsRow base e size v n xs) : v.oneCell' = true := by
  rcases h.2 with ⟨rfl, _⟩ | ⟨g, cap, cur, rfl, _⟩ <;> rfl
theorem own_slice (h : w.ownsRow base e 1 v n xs) (hn : 0 < n) : ∃ g cap, v = .slice (some ⟨g, 0, none⟩) n cap ∧ ∀ j, j < n → w.cell? ⟨g, j, none⟩ = xs[j]? := by
  have h0 := h
  rcases h.2 with ⟨rfl, h1⟩ | ⟨g, cap, cur, rfl, _⟩
  · omega
  · exact ⟨g, cap, rfl, fun j hj => h0.cellAt j (by omega)⟩
end

theorem grid_of {w : World} {B n : Nat} {vo : Value} {vr : Nat → Value} {Z : Nat → Nat → Bool} (hn : 0 < n) (ho : w.ownsRow B 150 1 vo n ((List.range n).map vr))
    (hd : ∀ j, j < n → w.ownsRow B 4 1 (vr j) n ((List.range n).map fun c => .bool (Z j c))) : Grid w vo n Z := by
  obtain ⟨g, cap, rfl, hc⟩ := own_slice ho hn
  have each : ∀ j, ∃ p : Nat × Nat, j < n → vr j = .slice (some ⟨p.1, 0, none⟩) n p.2 ∧ ∀ c, c < n → w.cell? ⟨p.1, c, none⟩ = some (.bool (Z j c)) := by
    intro j
    by_cases hj : j < n
    · obtain ⟨g', cap', e', hc'⟩ := own_slice (hd j hj) hn
      refine ⟨(g', cap'), fun _ => ⟨e', fun c hcn => ?_⟩⟩
      rw [hc' c hcn]; simp [hcn]
    · exact ⟨(0, 0), fun h => absurd h hj⟩
  refine ⟨g, 0, cap, fun j => (Classical.choose (each j)).1, fun _ => 0, fun j => (Classical.choose (each j)).2, rfl, fun r hr => ?_, fun r c hr hcn => ?_⟩
  · rw [Nat.zero_add, hc r hr]
    have := (Classical.choose_spec (each r) hr).1
    simp only [List.getElem?_map, List.getElem?_range hr, Option.map_some]
    exact congrArg some this
  · rw [Nat.zero_add]
    exact (Classical.choose_spec (each r) hr).2 c hcn

def oF (vn vo : Value) : Nat → Value := fun i => if i = 0 then vn else vo

/-- k rows are made and lie in the table of out, whose own block is N + 2. -/
structure RO (W0 wr : World) (N n k : Nat) (vn : Value) (Z : Nat → Nat → Bool) (vr : Nat → Value) (vo : Value) : Prop where
  below : Below (N + 2) W0 wr
  size : N + 3 ≤ wr.heap.size
  out : wr.rowIs (N + 2) 34 2 (oF vn vo)
  outer : wr.ownsRow (N + 3) 150 1 vo k ((List.range k).map vr)
  done : ∀ j, j < k → wr.ownsRow (N + 3) 4 1 (vr j) n ((List.range n).map fun c => .bool (Z j c))

theorem below_trans2 {B : Nat} {a b c : World} (h : Below B a b) (h2 : Below b.heap.size b c) (hB : B ≤ b.heap.size) : Below B a c := h.trans (h2.mono hB)

theorem ro_grown {W0 wk wi : World} {N n k : Nat} {vn : Value} {Z : Nat → Nat → Bool} {vr : Nat → Value} {vo : Value} (h : RO W0 wk N n k vn Z vr vo) (hb : Below wk.heap.size wk wi) : RO W0 wi N n k vn Z vr vo := by
  have hs := h.size
  refine ⟨below_trans2 h.below hb (by omega), by have := hb.size; omega, h.out.of_block (hb.block _ (by omega)), own_belowR h.outer hb, fun j hj => own_belowR (h.done j hj) hb⟩

theorem ro_out {W0 wi w2 : World} {N n k : Nat} {vn : Value} {Z : Nat → Nat → Bool} {vr : Nat → Value} {vo : Value} {o : Obj} (h : RO W0 wi N n k vn Z vr vo) (hg : (wi.alloc o).grownBy w2 vo.ownBlock) : w2.rowIs (N + 2) 34 2 (oF vn vo) := by
  refine (h.out.alloc o).of_block (hg.block (N + 2) (by have := h.size; simp; omega) (fun e => ?_))
  have := (h.outer.lt (N + 2) e.symm).1
  omega

theorem ro_step {W0 wi w2 : World} {N n k : Nat} {vn : Value} {Z : Nat → Nat → Bool} {vr : Nat → Value} {vo v v' : Value} {o : Obj} (h : RO W0 wi N n k vn Z vr vo)
    (hv : wi.ownsRow (N + 3) 4 1 v n ((List.range n).map fun c => .bool (Z k c))) (hg : (wi.alloc o).grownBy w2 vo.ownBlock) (hown : w2.ownsRow (N + 3) 150 1 v' (k + 1) ((List.range k).map vr ++ [v])) :
    RO W0 (w2.setCell ⟨N + 2, 1, none⟩ v') N n (k + 1) vn Z (fun j => if j = k then v else vr j) v' := by
  have hs := h.size
  have hs2 := hg.size
  simp at hs2
  refine ⟨((h.below.alloc (by omega) o).grown hg (by simp; omega) (fun j hj => ?_)).setCell (Nat.le_refl _) _, by simp [World.setCell]; omega, ((ro_out h hg).set 1 v').congr (fun i hi => ?_), ?_, fun j hj => ?_⟩
  · have := (h.outer.lt j hj).1; omega
  · obtain rfl | rfl : i = 0 ∨ i = 1 := by omega
    · rfl
    · rfl
  · refine ownsRow_setCell_below ?_ (by show N + 2 < N + 3; omega) _
    have e : (List.range (k + 1)).map (fun j => if j = k then v else vr j) = (List.range k).map vr ++ [v] := by
      rw [List.range_succ, List.map_append]
      congr 1
      · refine List.map_congr_left fun j hj => ?_
        have := List.mem_range.1 hj
        rw [if_neg (by omega)]
      · simp
    rw [e]; exact hown
  · refine ownsRow_setCell_below ?_ (by show N + 2 < N + 3; omega) _
    by_cases e : j = k
    · subst e
      rw [if_pos rfl]
      exact (hv.alloc o).kept hg (own_neR (hv.alloc o) (h.outer.alloc o) (by decide))
    · rw [if_neg e]
      have hd := (h.done j (by omega)).alloc o
      exact hd.kept hg (own_neR hd (h.outer.alloc o) (by decide))

theorem row_succ (Z : Nat → Nat → Bool) (r c : Nat) : (List.range (c + 1)).map (fun i => Value.bool (Z r i)) = (List.range c).map (fun i => Value.bool (Z r i)) ++ [.bool (Z r c)] := by
  rw [List.range_succ, List.map_append]; rfl

theorem infoBoolR : (Tryz.prog.info? 4).map (fun i => (i.zero, i.size, i.bytes)) = some (some (.bool false), 1, 1) := infoBool

theorem cellB {B : Nat} {w w1 : World} {a : Addr} {v : Value} (h : w.cell? a = some v) (hb : Below B w w1) (ha : a.block < B) : w1.cell? a = some v := by
  rw [hb.cell ha]; exact h

theorem ro_start (w : World) (vn vl : Value) (n : Nat) (Z : Nat → Nat → Bool) :
    RO (((w.alloc (.cells #[vn, vl] 34)).alloc (.cells #[.slice none 0 0, .slice none 0 0] 34)).alloc (.cells #[vn, .slice none 0 0] 34))
      (((w.alloc (.cells #[vn, vl] 34)).alloc (.cells #[.slice none 0 0, .slice none 0 0] 34)).alloc (.cells #[vn, .slice none 0 0] 34)) w.heap.size n 0 vn Z (fun _ => .slice none 0 0) (.slice none 0 0) := by
  refine ⟨Below.refl _ _, by simp, ?_, World.ownsRow_nil _ _ _ _, fun j hj => absurd hj (Nat.not_lt_zero _)⟩
  have := World.rowIs_alloc ((w.alloc (.cells #[vn, vl] 34)).alloc (.cells #[.slice none 0 0, .slice none 0 0] 34)) #[vn, .slice none 0 0] 34 (oF vn (.slice none 0 0)) (fun i hi => by
    have hi' : i < 2 := hi
    obtain rfl | rfl : i = 0 ∨ i = 1 := by omega
    · rfl
    · rfl)
  simpa using this

set_option maxHeartbeats 2000000 in
set_option maxRecDepth 100000 in
theorem rturned_any (w : World) (ad : Option Addr) (vl : Value) (n cap : Nat) (Z : Nat → Nat → Bool) (hG : Grid w vl n Z) (hn0 : 0 < n) (hn : n ≤ 6) :
    Calls Tryz.prog 138 #[.agg #[.slice ad n cap, vl]] w fun e w' => ∃ vl', e = .returned (.agg #[.slice ad n cap, vl']) ∧ Grid w' vl' n (Lat.tr Z) ∧ Below w.heap.size w w' := by
  obtain ⟨iB, hiB, hzB0, hzB1, hzB2⟩ := info_parts infoBool
  obtain ⟨iR, hiR, hzR0, hzR1, hzR2⟩ := info_parts infoRow
  obtain ⟨gb, go, gc, RB, RO', C, rfl, h1, h2⟩ := hG
  have hst := ro_start w (.slice ad n cap) (.slice (some ⟨gb, go, none⟩) n gc) n (Lat.tr Z)
  have hbw : Below w.heap.size w (((w.alloc (.cells #[.slice ad n cap, .slice (some ⟨gb, go, none⟩) n gc] 34)).alloc (.cells #[.slice none 0 0, .slice none 0 0] 34)).alloc (.cells #[.slice ad n cap, .slice none 0 0] 34)) :=
    (((Below.refl _ _).alloc (Nat.le_refl _) _).alloc (by simp) _).alloc (by simp; omega) _
  have q0 : (((w.alloc (.cells #[.slice ad n cap, .slice (some ⟨gb, go, none⟩) n gc] 34)).alloc (.cells #[.slice none 0 0, .slice none 0 0] 34)).alloc (.cells #[.slice ad n cap, .slice none 0 0] 34)).cell? ⟨w.heap.size, 0, none⟩ = some (.slice ad n cap) := by simp [go_sem]
  have q1 : (((w.alloc (.cells #[.slice ad n cap, .slice (some ⟨gb, go, none⟩) n gc] 34)).alloc (.cells #[.slice none 0 0, .slice none 0 0] 34)).alloc (.cells #[.slice ad n cap, .slice none 0 0] 34)).cell? ⟨w.heap.size, 1, none⟩ = some (.slice (some ⟨gb, go, none⟩) n gc) := by simp [go_sem]
  have r0 : (((w.alloc (.cells #[.slice ad n cap, .slice (some ⟨gb, go, none⟩) n gc] 34)).alloc (.cells #[.slice none 0 0, .slice none 0 0] 34)).alloc (.cells #[.slice ad n cap, .slice none 0 0] 34)).rowIs (w.heap.size + 1) 34 2 (oF (.slice none 0 0) (.slice none 0 0)) := by
    have := (World.rowIs_alloc (w.alloc (.cells #[.slice ad n cap, .slice (some ⟨gb, go, none⟩) n gc] 34)) #[.slice none 0 0, .slice none 0 0] 34 (oF (.slice none 0 0) (.slice none 0 0)) (fun i hi => by
      have hi' : i < 2 := hi
      obtain rfl | rfl : i = 0 ∨ i = 1 := by omega
      · rfl
      · rfl)).alloc (.cells #[.slice ad n cap, .slice none 0 0] 34)
    simpa using this
  go_enter Tryz.func138, Tryz.ntmps138
  go_wp2
  generalize (((w.alloc (.cells #[.slice ad n cap, .slice (some ⟨gb, go, none⟩) n gc] 34)).alloc (.cells #[.slice none 0 0, .slice none 0 0] 34)).alloc (.cells #[.slice ad n cap, .slice none 0 0] 34)) = W0 at *
  have HBW := hide hbw
  have HG1 : Hid (∀ r, r < n → W0.cell? ⟨gb, go + r, none⟩ = some (.slice (some ⟨RB r, RO' r, none⟩) n (C r))) := fun r hr => cellUp (h1 r hr) hbw
  have HG2 : Hid (∀ r c, r < n → c < n → W0.cell? ⟨RB r, RO' r + c, none⟩ = some (.bool (Z r c))) := fun r c hr hc => cellUp (h2 r c hr hc) hbw
  have HGB : Hid (∀ r, r < n → gb < w.heap.size) := fun r hr => World.block_lt_of_cell? _ _ (h1 r hr)
  have HGC : Hid (∀ r c, r < n → c < n → RB r < w.heap.size) := fun r c hr hc => World.block_lt_of_cell? _ _ (h2 r c hr hc)
  clear h1 h2 hbw
  go_loopw [4] (fun i wr => ∃ k : Nat, k ≤ n ∧ i = .int .i64 k ∧ ∃ vr vo, RO W0 wr w.heap.size n k (.slice ad n cap) (Lat.tr Z) vr vo) (fun i _ => n - (intOf i).toNat)
  case atStart => exact ⟨0, Nat.zero_le _, rfl, _, _, hst⟩
  case round =>
    obtain ⟨k, hk, rfl, vr, vo, hO⟩ := hrel
    generalize wr = wk at *
    have HO := hide hO
    have p0 : wk.cell? ⟨w.heap.size, 0, none⟩ = some (.slice ad n cap) := cellB q0 hO.below (by show w.heap.size < w.heap.size + 2; omega)
    by_cases hlt : k < n
    · have hz3 := hO.size
      clear hst hO
      go_wp2
      clear p0
      go_loopw [5, 6] (fun v i wi => ∃ c : Nat, c ≤ n ∧ i = .int .i64 c ∧ wi.ownsRow wk.heap.size 4 1 v c ((List.range c).map fun i => .bool (Lat.tr Z k i)) ∧ Below wk.heap.size wk wi) (fun _ i _ => n - (intOf i).toNat)
      case atStart => exact ⟨0, Nat.zero_le _, rfl, World.ownsRow_nil _ _ _ _, Below.refl _ _⟩
      case round =>
        obtain ⟨c, hc, rfl, hrow, hnx⟩ := hrel
        have hb2 := below_trans2 HO.out.below hnx (by omega)
        have p0 := cellB q0 hb2 (by show w.heap.size < w.heap.size + 2; omega)
        have hs1 := hnx.size
        by_cases hcn : c < n
        · have p1 := cellB q1 hb2 (by show w.heap.size < w.heap.size + 2; omega)
          have t1 := cellB (HG1.out c hcn) hb2 (by have := HGB.out c hcn; show gb < w.heap.size + 2; omega)
          have t2 := cellB (HG2.out c k hcn hlt) hb2 (by have := HGC.out c k hcn hlt; show RB c < w.heap.size + 2; omega)
          clear hb2 q0 q1 r0
          go_wp2_with (first
            | (at_builtin; refine wpList_append_own _ rfl _ _ 150 rfl wk.heap.size 4 iB (.bool false) 1 1 Tryz.underlying150 hiB hzB0 hzB1 hzB2 rfl (by decide) _ _ _ rfl (hrow.alloc _) ⟨wr.heap.size, 0, none⟩ 1 1 [.bool (Z c k)] rfl rfl (cell_one_new _ _ _) (fun u hu => by simp at hu; subst hu; rfl) (by unfold maxLen; omega) (by omega) (by simp; omega) ?_; intro v' w2 hown' hgrow2 hnil2)
            | go_in)
          have R2 := (hnx.alloc hnx.size (.cells #[.bool (Z c k)] 4)).grown hgrow2 (by simp; omega) (fun j hj => (hrow.lt j hj).1)
          have hown2 : w2.ownsRow wk.heap.size 4 1 v' (c + 1) ((List.range (c + 1)).map fun i => .bool (Lat.tr Z k i)) := by rw [row_succ]; exact hown'
          clear hnil2 hgrow2 t1 t2 p0 p1 hown'
          go_roundw
          case rel => exact ⟨c + 1, by omega, by go_num, hown2, R2⟩
          case measure => simp [intOf]; omega
        · have e : c = n := by omega
          subst e
          have hOi := ro_grown HO.out hnx
          have HOi := hide hOi
          have t1 : wr.cell? ⟨w.heap.size + 1 + 1, 1, none⟩ = some vo := hOi.out.cell (i := 1) (by decide)
          have hown := hOi.outer
          obtain ⟨gx, cx, hvx, _⟩ := own_slice hrow hn0
          rw [hvx] at hrow ⊢
          have hv1 := own_one hrow
          clear hOi hb2 q0 q1 r0 hvx
          go_wp2_with (first
            | (at_builtin; refine wpList_append_own _ rfl _ _ 32 rfl (w.heap.size + 3) 150 iR (.slice none 0 0) 1 24 Tryz.underlying32 hiR hzR0 hzR1 hzR2 rfl (by decide) _ _ _ rfl (hown.alloc _) ⟨wr.heap.size, 0, none⟩ 1 1 [_] rfl rfl (cell_one_new _ _ _) (fun u hu => by simp at hu; subst hu; exact hv1) (by unfold maxLen; omega) (by omega) (by simp; omega) ?_; intro v' w2 hown' hgrow2 hnil2; have c1 : w2.cell? ⟨w.heap.size + 1 + 1, 1, none⟩ = some vo := (ro_out HOi.out hgrow2).cell (i := 1) (by decide); have f1 : w2.frozen? ⟨w.heap.size + 1 + 1, 1, none⟩ = false := (ro_out HOi.out hgrow2).frozen 1; obtain ⟨g2, c2, hv2, _⟩ := own_slice hown' (by omega); rw [hv2] at hown' ⊢; clear hv2)
            | go_in)
          have R3 := ro_step HOi.out (own_base hrow (by omega)) hgrow2 hown'
          clear hnil2 hgrow2 t1 c1 f1 hown' hown hrow
          go_roundw
          case rel => exact ⟨k + 1, by omega, by go_num, _, _, R3⟩
          case measure => simp [intOf]; omega
    · have e : k = n := by omega
      subst e
      obtain ⟨g, cg, hvo, _⟩ := own_slice hO.outer hn0
      subst hvo
      have rr := r0.of_block (hO.below.block (w.heap.size + 1) (by omega))
      have c0 : wk.cell? ⟨w.heap.size + 1, 0, none⟩ = some (.slice none 0 0) := rr.cell (i := 0) (by decide)
      have c1 : wk.cell? ⟨w.heap.size + 1, 1, none⟩ = some (.slice none 0 0) := rr.cell (i := 1) (by decide)
      have f0 := rr.frozen 0
      have f1 := rr.frozen 1
      have o0 : wk.cell? ⟨w.heap.size + 1 + 1, 0, none⟩ = some (.slice ad k cap) := hO.out.cell (i := 0) (by decide)
      have o1 : wk.cell? ⟨w.heap.size + 1 + 1, 1, none⟩ = some (.slice (some ⟨g, 0, none⟩) k cg) := hO.out.cell (i := 1) (by decide)
      clear hO rr r0 hst q0 q1
      go_wp2
      refine bodyPost_ret (v := .agg #[.slice ad k cap, .slice (some ⟨g, 0, none⟩) k cg]) (by simp [results, Tryz.results138, go_sem, c0, c1]) rfl ⟨_, rfl, ?_, ?_⟩
      · refine grid_of (B := w.heap.size + 3) (vr := vr) hn0 ?_ (fun j hj => ?_)
        · exact ownsRow_setCell_below (ownsRow_setCell_below HO.out.outer (by show w.heap.size + 1 < w.heap.size + 3; omega) _) (by show w.heap.size + 1 < w.heap.size + 3; omega) _
        · exact ownsRow_setCell_below (ownsRow_setCell_below (HO.out.done j hj) (by show w.heap.size + 1 < w.heap.size + 3; omega) _) (by show w.heap.size + 1 < w.heap.size + 3; omega) _
      · exact ((HBW.out.trans (HO.out.below.mono (by omega))).setCell (by show w.heap.size ≤ w.heap.size + 1; omega) _).setCell (by show w.heap.size ≤ w.heap.size + 1; omega) _

end Go.Proofs.YtbncnkfogkhoeaaGreatDoor

/- Walks over package downref, sixth part: Meet; and the plain functions that Lattice goes by, which say the same as Check's. -/
namespace Go.Proofs.YtbncnkfogkhoeaaGreatDoor
open Go.RowKit

set_option maxHeartbeats 1000000 in
set_option maxRecDepth 100000 in
theorem rmeet_any (w : World) (ad : Option Addr) (vl : Value) (n cap a b : Nat) (Z : Nat → Nat → Bool) (hG : Grid w vl n Z) (hn : n ≤ 6) (ha : a < n) (hb : b < n) :
    Calls Tryz.prog 91 #[.agg #[.slice ad n cap, vl], .int .i64 a, .int .i64 b] w fun e w' => e = .returned (.int .i64 (Lat.joinI (Lat.tr Z) n a b)) ∧ Below w.heap.size w w' := by
  have HG := hide (hG.below (boxBelow w (.cells #[.slice ad n cap, vl] 34)))
  clear hG
  go_enter Tryz.func91, Tryz.ntmps91
  go_wp2_with fail
  refine (rturned_any _ ad vl n cap Z HG.out (by omega) hn).mono ?_
  rintro e w1 ⟨vl', rfl, hG1, hb1⟩
  have HG1 := hide hG1
  have HB1 := hide (up1 hb1)
  clear hG1 hb1
  go_wp2_with fail
  refine (rjoin_any _ ad vl' n cap a b (Lat.tr Z) HG1.out hn ha hb).mono ?_
  rintro e w2 ⟨rfl, hb2⟩
  have HB2 := hide (up HB1.out hb2)
  clear hb2
  go_wp2
  go_ret
  exact ⟨rfl, HB2.out⟩

namespace Lat
variable {Z : Nat → Nat → Bool} {n : Nat}
def ordT (Z : Nat → Nat → Bool) (a b : Nat) : Bool := !((Z a b && (Z b a != (a == b))) || ((a == b) && !Z a b))
def ordC (Z : Nat → Nat → Bool) (a b c : Nat) : Bool := !(Z a b && Z b c && !Z a c)
def ordR (Z : Nat → Nat → Bool) (n a b : Nat) : Bool := ordT Z a b && (List.range n).all (ordC Z a b)
def ordA (Z : Nat → Nat → Bool) (n a : Nat) : Bool := (List.range n).all (ordR Z n a)
def rOrd (Z : Nat → Nat → Bool) (n : Nat) : Bool := (List.range n).all (ordA Z n)
def jP (Z : Nat → Nat → Bool) (n a b : Nat) : Bool := decide (0 ≤ joinI Z n a b) && decide (0 ≤ joinI (tr Z) n a b)
def jA (Z : Nat → Nat → Bool) (n a : Nat) : Bool := (List.range n).all (jP Z n a)
def rJoins (Z : Nat → Nat → Bool) (n : Nat) : Bool := (List.range n).all (jA Z n)

theorem order_of_ord (o : Ord Z n) : orderB Z n = true := by
  refine all_true fun a ha => ?_
  unfold orderP
  rw [o.refl a ha, Bool.true_and]
  refine all_true fun b hb => ?_
  unfold orderR
  cases hab : Z a b
  · rfl
  · have hf : fitsB Z n a b = true := by
      unfold fitsB
      have h1 : (a != b && Z b a) = false := by
        cases hba : Z b a
        · simp
        · have := o.anti a b ha hb hab hba
          simp [this]
      rw [h1]
      refine all_true fun c hc => ?_
      unfold fitsP
      cases hbc : Z b c
      · rfl
      · rw [o.trans a b c ha hb hc hab hbc]; rfl
    rw [hf]; rfl

theorem rOrd_eq : rOrd Z n = orderB Z n := by
  rw [Bool.eq_iff_iff]
  constructor
  · intro h
    have h1 : ∀ a b, a < n → b < n → ordT Z a b = true ∧ ∀ c, c < n → ordC Z a b c = true := by
      intro a b ha hb
      have := all_get (all_get h ha) hb
      unfold ordR at this
      obtain ⟨x, y⟩ := Bool.and_eq_true_iff.1 this
      exact ⟨x, fun c hc => all_get y hc⟩
    refine order_of_ord ⟨fun a ha => ?_, fun a b ha hb hab hba => ?_, fun a b c ha hb hc hab hbc => ?_⟩
    · have := (h1 a a ha ha).1
      unfold ordT at this
      cases hz : Z a a
      · rw [hz] at this; simp at this
      · rfl
    · have := (h1 a b ha hb).1
      unfold ordT at this
      rw [hab, hba] at this
      by_cases e : a = b
      · exact e
      · simp [e] at this
    · have := (h1 a b ha hb).2 c hc
      unfold ordC at this
      rw [hab, hbc] at this
      simpa using this
  · intro h
    have o := ord_of h
    refine all_true fun a ha => all_true fun b hb => ?_
    unfold ordR
    have h1 : ordT Z a b = true := by
      unfold ordT
      by_cases e : a = b
      · subst e
        simp [o.refl a ha]
      · cases hab : Z a b
        · simp [e]
        · cases hba : Z b a
          · simp [e]
          · exact absurd (o.anti a b ha hb hab hba) e
    rw [h1, Bool.true_and]
    refine all_true fun c hc => ?_
    unfold ordC
    cases hab : Z a b
    · rfl
    · cases hbc : Z b c
      · rfl
      · rw [o.trans a b c ha hb hc hab hbc]; rfl

theorem joinI_nonneg {a b : Nat} : decide (0 ≤ joinI Z n a b) = (joinO Z n a b).isSome := by
  unfold joinI
  cases h : joinO Z n a b
  · rfl
  · simp

theorem joinsB_all (o : Ord Z n) : joinsB Z n = true ↔ ∀ a b, a < n → b < n → (joinO Z n a b).isSome = true := by
  constructor
  · intro h a b ha hb
    obtain ⟨c, hc⟩ := (joins_of o h).has a b ha hb
    rw [hc]; rfl
  · intro h
    exact all_true fun a ha => all_true fun b hb => h a b ha (by omega)

theorem rJoins_eq (h : orderB Z n = true) : rJoins Z n = (joinsB Z n && joinsB (tr Z) n) := by
  have o := ord_of h
  rw [Bool.eq_iff_iff, Bool.and_eq_true_iff, joinsB_all o, joinsB_all o.turn]
  constructor
  · intro hj
    have h1 : ∀ a b, a < n → b < n → (joinO Z n a b).isSome = true ∧ (joinO (tr Z) n a b).isSome = true := by
      intro a b ha hb
      have := all_get (all_get hj ha) hb
      unfold jP at this
      rw [joinI_nonneg, joinI_nonneg] at this
      exact Bool.and_eq_true_iff.1 this
    exact ⟨fun a b ha hb => (h1 a b ha hb).1, fun a b ha hb => (h1 a b ha hb).2⟩
  · rintro ⟨h1, h2⟩
    refine all_true fun a ha => all_true fun b hb => ?_
    unfold jP
    rw [joinI_nonneg, joinI_nonneg, h1 a b ha hb, h2 a b ha hb]; rfl

/-- What R.Lattice answers is what Check answers. -/
theorem rcheck_eq (ss : List ByteArray) (G : Nat) (L : Nat → Nat) (Z : Nat → Nat → Bool) :
    checkE ss G L Z = if namesB ss = false then 1 else if 6 < ss.length then 2 else if squareB G L ss.length = false then 5 else if rOrd Z ss.length = false then 5 else if rJoins Z ss.length = false then 5 else 0 := by
  unfold checkE
  rw [rOrd_eq]
  cases h : orderB Z ss.length
  · rfl
  · rw [rJoins_eq h]
    cases joinsB Z ss.length <;> cases joinsB (tr Z) ss.length <;> simp
end Lat

end Go.Proofs.YtbncnkfogkhoeaaGreatDoor

/- Walks over package downref, seventh part: Lattice answers what Check answers. -/
namespace Go.Proofs.YtbncnkfogkhoeaaGreatDoor
open Go.RowKit

namespace Lat
def sameB (ss : List ByteArray) (i d : Nat) : Bool := (ss.getD i ByteArray.empty).toList == (ss.getD d ByteArray.empty).toList
theorem any_range (ss : List ByteArray) (p : ByteArray → Bool) : ∀ k, k ≤ ss.length → (ss.take k).any p = (List.range k).any (fun d => p (ss.getD d ByteArray.empty))
  | 0, _ => rfl
  | k + 1, h => by rw [any_take ss k (by omega), any_range ss p k (by omega), List.range_succ, List.any_append]; simp
theorem namesR_eq (ss : List ByteArray) (i : Nat) (hi : i < ss.length) : namesR ss i = (!((List.range i).any (sameB ss i)) && nameB (ss.getD i ByteArray.empty).data.toList) := by
  unfold namesR
  rw [any_range ss _ i (by omega)]
  congr 2
  refine congrArg _ (funext fun d => ?_)
  unfold sameB
  rw [ByteArray.toList_eq, ByteArray.toList_eq, Bool.eq_iff_iff]
  simp only [beq_iff_eq]
  exact eq_comm
theorem names_bad {ss : List ByteArray} {i : Nat} (hi : i < ss.length) (h : namesR ss i = false) : namesB ss = false := by
  unfold namesB; rw [all_false hi h]; rfl
theorem names_good {ss : List ByteArray} (h0 : 0 < ss.length) (h : ∀ d, d < ss.length → namesR ss d = true) : namesB ss = true := by
  unfold namesB; rw [all_true h]; simpa using h0
theorem namesR_same {ss : List ByteArray} {i d : Nat} (hi : i < ss.length) (hd : d < i) (h : sameB ss i d = true) : namesR ss i = false := by
  rw [namesR_eq ss i hi]
  have : (List.range i).any (sameB ss i) = true := List.any_eq_true.2 ⟨d, List.mem_range.2 hd, h⟩
  rw [this]; rfl
theorem namesR_new {ss : List ByteArray} {i : Nat} (hi : i < ss.length) (h : ∀ d, d < i → sameB ss i d = false) : namesR ss i = nameB (ss.getD i ByteArray.empty).data.toList := by
  rw [namesR_eq ss i hi]
  have : (List.range i).any (sameB ss i) = false := by
    rw [List.any_eq_false]; intro x hx; simp [h x (List.mem_range.1 hx)]
  rw [this]; rfl
end Lat

namespace Lat
variable {Z : Nat → Nat → Bool} {n : Nat}
theorem ord_bad {a b : Nat} (ha : a < n) (hb : b < n) (h : ordR Z n a b = false) : rOrd Z n = false := all_false ha (all_false hb h)
theorem ordR_bad1 {a b : Nat} (h : ordT Z a b = false) : ordR Z n a b = false := by unfold ordR; rw [h]; rfl
theorem ordR_bad2 {a b c : Nat} (hc : c < n) (h : ordC Z a b c = false) : ordR Z n a b = false := by unfold ordR; rw [all_false hc h, Bool.and_false]
theorem ordR_good {a b : Nat} (h : ordT Z a b = true) (h2 : ∀ c, c < n → ordC Z a b c = true) : ordR Z n a b = true := by unfold ordR; rw [h, all_true h2]; rfl
theorem joins_bad {a b : Nat} (ha : a < n) (hb : b < n) (h : jP Z n a b = false) : rJoins Z n = false := all_false ha (all_false hb h)
end Lat



set_option maxHeartbeats 4000000 in
set_option maxRecDepth 100000 in
theorem rlattice_any (w : World) (vn vl : Value) (ss : List ByteArray) (G : Nat) (L : Nat → Nat) (Z : Nat → Nat → Bool) (hS : Strs w vn ss) (hR : Rag w vl G L Z) :
    Calls Tryz.prog 36 #[.agg #[vn, vl]] w fun e w' => e = .returned (.int .i64 (Lat.checkE ss G L Z)) ∧ Below w.heap.size w w' := by
  have HE := hide (Lat.rcheck_eq ss G L Z)
  obtain ⟨ad, b, off, cap, rfl, ha, hl, hs, h1⟩ := hS.below (boxBelow w (.cells #[vn, vl] 34))
  have HR := hide (hR.below (boxBelow w (.cells #[.slice ad ss.length cap, vl] 34)))
  have q0 := cellBox0 w (.slice ad ss.length cap) vl 34
  have q1 := cellBox1 w (.slice ad ss.length cap) vl 34
  have HB0 := hide (boxBelow w (.cells #[.slice ad ss.length cap, vl] 34))
  clear hS hR
  generalize hlen : ss.length = n at *
  have HN := hide hlen
  clear hlen
  by_cases hn0 : n = 0
  · subst hn0
    have hE1 : Hid (Lat.namesB ss = false) := by
      show Lat.namesB ss = false
      unfold Lat.namesB; rw [HN.out]; simp
    clear ha h1 hs q1
    go_enter Tryz.func36, Tryz.ntmps36
    go_wp2
    go_ret
    exact ⟨ret_int (by rw [HE.out, if_pos hE1.out]), HB0.out⟩
  obtain rfl := ha (by omega)
  have hn0' : ((n : Int) == 0) = false := by simp; omega
  go_enter Tryz.func36, Tryz.ntmps36
  go_wp2
  generalize w.alloc (.cells #[.slice (some ⟨b, off, none⟩) n cap, vl] 34) = W0 at *
  -- the names
  go_loopw [4] (fun i wr => ∃ k : Nat, k ≤ n ∧ i = .int .i64 k ∧ (∀ d, d < k → Lat.namesR ss d = true) ∧ Below W0.heap.size W0 wr) (fun i _ => n - (intOf i).toNat)
  case atStart => exact ⟨0, Nat.zero_le _, rfl, fun d hd => absurd hd (Nat.not_lt_zero _), Below.refl _ _⟩
  case round =>
    obtain ⟨i, hi, rfl, hall, hnx⟩ := hrel
    have HA := hide hall
    clear hall
    by_cases hlt : i < n
    · obtain ⟨s, hsk⟩ : ∃ s, s = ss.getD i ByteArray.empty := ⟨_, rfl⟩
      have hc0 := h1 i hlt
      rw [← hsk] at hc0
      have hsz : s.size ≤ maxLen := by rw [hsk]; exact size_getD hs i
      have HK := hide hsk
      have HNX := hide hnx
      clear hsk hnx
      go_wp2
      go_loopw [5] (fun j wi => ∃ k : Nat, k ≤ i ∧ j = .int .i64 k ∧ (∀ d, d < k → Lat.sameB ss i d = false) ∧ Below W0.heap.size W0 wi) (fun j _ => i - (intOf j).toNat)
      case atStart => exact ⟨0, Nat.zero_le _, rfl, fun d hd => absurd hd (Nat.not_lt_zero _), HNX.out⟩
      case round =>
        obtain ⟨k, hk, rfl, hall, hnx⟩ := hrel
        have HB := hide hall
        clear hall HNX
        have t0 := cellUp q0 hnx
        have t1 := cellUp hc0 hnx
        by_cases hki : k < i
        · obtain ⟨t, htk⟩ : ∃ t, t = ss.getD k ByteArray.empty := ⟨_, rfl⟩
          have t2 := cellUp (h1 k (by omega)) hnx
          rw [← htk] at t2
          have HT := hide htk
          have b1 : (0 : Int) ≤ (i : Int) := by omega
          have b2 : (i : Int) < (n : Int) := by omega
          have b3 : (0 : Int) ≤ (k : Int) := by omega
          have b4 : (k : Int) < (n : Int) := by omega
          have HSB : Hid (Lat.sameB ss i k = (s.toList == t.toList)) := by
            show Lat.sameB ss i k = _
            unfold Lat.sameB; rw [← HK.out, ← htk]
          clear htk h1 hs q0 q1 hc0
          cases hst : (s.toList == t.toList)
          · go_wp2_with fail
            go_quiet (fail)
            go_wp2
            go_roundw
            case rel => exact ⟨k + 1, by omega, by go_num, fun d hd => by
                by_cases e : d = k
                · subst e; rw [HSB.out]; exact hst
                · exact HB.out d (by omega), drewBelow hnx _⟩
            case measure => simp [intOf]; omega
          · go_wp2_with fail
            go_quiet (fail)
            go_wp2
            go_ret
            exact ⟨ret_int (by rw [HE.out, if_pos (Lat.names_bad (by rw [HN.out]; exact hlt) (Lat.namesR_same (by rw [HN.out]; exact hlt) hki (by rw [HSB.out]; exact hst)))]), up HB0.out (drewBelow hnx _)⟩
        · go_wp2_with fail
          refine (name_any _ s hsz).mono ?_
          rintro e w' ⟨rfl, hw⟩
          subst hw
          have e : k = i := by omega
          subst e
          have HNM : Hid (Lat.namesR ss k = Lat.nameB s.data.toList) := by
            rw [HK.out]; exact Lat.namesR_new (by rw [HN.out]; exact hlt) HB.out
          cases hnm : Lat.nameB s.data.toList
          · go_wp2
            go_ret
            exact ⟨ret_int (by rw [HE.out, if_pos (Lat.names_bad (by rw [HN.out]; exact hlt) (by rw [HNM.out]; exact hnm))]), up HB0.out hnx⟩
          · go_wp2
            go_roundw
            case rel => exact ⟨k + 1, by omega, by go_num, fun d hd => by
                by_cases e : d = k
                · subst e; rw [HNM.out]; exact hnm
                · exact HA.out d (by omega), hnx⟩
            case measure => simp [intOf]; omega
    · have HNB : Hid (Lat.namesB ss = true) := Lat.names_good (by rw [HN.out]; omega) (fun d hd => HA.out d (by have := HN.out; omega))
      by_cases h6 : 6 < n
      · go_wp2
        go_ret
        exact ⟨ret_int (by rw [HE.out, HNB.out, if_neg (by simp), if_pos h6]), up HB0.out hnx⟩
      have HE5 : Hid (Lat.checkE ss G L Z = if Lat.squareB G L n = false then 5 else if Lat.rOrd Z n = false then 5 else if Lat.rJoins Z n = false then 5 else 0) := hide (by
        rw [HE.out, HNB.out, if_neg (by simp), if_neg h6])
      clear HE HNB HA
      have HR1 := hide (HR.out.below hnx)
      have HNX := hide hnx
      have p1 := cellUp q1 hnx
      have P0 := hide (cellUp q0 hnx)
      have P1 := hide p1
      obtain ⟨ga, gb, go, gc, A, RB, RO, C, hvl, hg, hGm, hLm, r1, r2⟩ := HR1.out
      rw [hvl] at p1
      clear hnx hs h1 q0 HR
      by_cases hGn : n = G
      · subst hGn
        obtain rfl := hg (by omega)
        have hnb : ((n : Int) != (n : Int)) = false := by simp
        clear r2 hGm
        go_wp2
        go_loop [6] (fun i => ∃ k : Nat, k ≤ n ∧ i = .int .i64 k ∧ ∀ d, d < k → Lat.squareP L n d = true) (fun i => n - (intOf i).toNat)
        case atStart => exact ⟨0, Nat.zero_le _, rfl, fun d hd => absurd hd (Nat.not_lt_zero _)⟩
        case round =>
          obtain ⟨k, hk, rfl, hall⟩ := hrel
          have HA := hide hall
          clear hall
          by_cases hkn : k < n
          · have rk := r1 k hkn
            have lk := hLm k hkn
            by_cases hLk : L k = n
            · have hs' : ((L k : Int) != (n : Int)) = false := by rw [nat_bne]; simp [hLk]
              have HS := hide hLk
              clear hLk r1 hLm
              go_wp2
              go_round
              case rel => exact ⟨k + 1, by omega, by go_num, fun d hd => by
                  by_cases e : d = k
                  · subst e; simp [Lat.squareP, HS.out]
                  · exact HA.out d (by omega)⟩
              case measure => simp [intOf]; omega
            · have hs' : ((L k : Int) != (n : Int)) = true := by rw [nat_bne]; simp [hLk]
              have HS := hide hLk
              clear hLk r1 hLm
              go_wp2
              go_ret
              have hsq : Lat.squareB n L n = false := by
                unfold Lat.squareB; rw [Lat.all_false hkn (by simp [Lat.squareP, HS.out])]; simp
              exact ⟨ret_int (by rw [HE5.out, if_pos hsq]), up HB0.out HNX.out⟩
          · have HSQ : Hid (Lat.squareB n L n = true) := by
              show Lat.squareB n L n = true
              unfold Lat.squareB; rw [Lat.all_true (fun d hd => HA.out d (by omega))]; simp
            have HG := hide (rag_grid HR1.out (by omega) HSQ.out)
            clear HA HR1 r1 hLm
            have HE4 : Hid (Lat.checkE ss n L Z = if Lat.rOrd Z n = false then 5 else if Lat.rJoins Z n = false then 5 else 0) := hide (by
              rw [HE5.out, HSQ.out, if_neg (by simp)])
            clear HE5 HSQ
            obtain ⟨gb', go', gc', RB', RO'', C', hv2, g1, g2⟩ := HG.out
            rw [← hvl] at p1
            rw [hv2] at p1
            have h6' : n ≤ 6 := by omega
            have HG1 := hide g1
            have HG2 := hide g2
            clear hvl q1 g1 g2
            go_wp2
            go_loop [7] (fun i => ∃ k : Nat, k ≤ n ∧ i = .int .i64 k ∧ ∀ d, d < k → Lat.ordA Z n d = true) (fun i => n - (intOf i).toNat)
            case atStart => exact ⟨0, Nat.zero_le _, rfl, fun d hd => absurd hd (Nat.not_lt_zero _)⟩
            case round =>
              obtain ⟨a, hka, rfl, hall⟩ := hrel
              have HA := hide hall
              clear hall
              by_cases han : a < n
              · have ra := HG1.out a han
                go_wp2
                go_loop [8] (fun i => ∃ k : Nat, k ≤ n ∧ i = .int .i64 k ∧ ∀ d, d < k → Lat.ordR Z n a d = true) (fun i => n - (intOf i).toNat)
                case atStart => exact ⟨0, Nat.zero_le _, rfl, fun d hd => absurd hd (Nat.not_lt_zero _)⟩
                case round =>
                  obtain ⟨c, hkc, rfl, hall⟩ := hrel
                  have HB := hide hall
                  clear hall
                  by_cases hcn : c < n
                  · have rc := HG1.out c hcn
                    have cac := HG2.out a c han hcn
                    have cca := HG2.out c a hcn han
                    by_cases hac : a = c
                    · subst hac
                      have hee : ((a : Int) == (a : Int)) = true := by simp
                      cases zaa : Z a a
                      · rw [zaa] at cac
                        have HT : Hid (Lat.ordT Z a a = false) := hide (by simp [Lat.ordT, zaa])
                        clear zaa cca
                        go_wp2
                        go_ret
                        exact ⟨ret_int (by rw [HE4.out, if_pos (Lat.ord_bad han han (Lat.ordR_bad1 HT.out))]), up HB0.out HNX.out⟩
                      · have HT : Hid (Lat.ordT Z a a = true) := hide (by simp [Lat.ordT, zaa])
                        rw [zaa] at cac
                        clear cca zaa
                        go_wp2
                        clear cac
                        go_loop [9] (fun i => ∃ k : Nat, k ≤ n ∧ i = .int .i64 k ∧ ∀ d, d < k → Lat.ordC Z a a d = true) (fun i => n - (intOf i).toNat)
                        case atStart => exact ⟨0, Nat.zero_le _, rfl, fun d hd => absurd hd (Nat.not_lt_zero _)⟩
                        case round =>
                          obtain ⟨d, hkd, rfl, hall⟩ := hrel
                          have HC := hide hall
                          clear hall
                          by_cases hdn : d < n
                          · have cab := HG2.out a a han han
                            have cbd := HG2.out a d han hdn
                            have cad := HG2.out a d han hdn
                            have HCD : Hid (Lat.ordC Z a a d = !(Z a a && Z a d && !Z a d)) := rfl
                            generalize Z a a = x1 at *
                            generalize Z a d = x2 at *
                            cases x1
                            · go_wp2
                              go_round
                              case rel => exact ⟨d + 1, by omega, by go_num, fun y hy => by
                                  by_cases e : y = d
                                  · subst e; rw [HCD.out]; rfl
                                  · exact HC.out y (by omega)⟩
                              case measure => simp [intOf]; omega
                            · cases x2
                              · go_wp2
                                go_round
                                case rel => exact ⟨d + 1, by omega, by go_num, fun y hy => by
                                    by_cases e : y = d
                                    · subst e; rw [HCD.out]; rfl
                                    · exact HC.out y (by omega)⟩
                                case measure => simp [intOf]; omega
                              · go_wp2
                                go_round
                                case rel => exact ⟨d + 1, by omega, by go_num, fun y hy => by
                                    by_cases e : y = d
                                    · subst e; rw [HCD.out]; rfl
                                    · exact HC.out y (by omega)⟩
                                case measure => simp [intOf]; omega
                          · have HR2 : Hid (Lat.ordR Z n a a = true) := hide (Lat.ordR_good HT.out (fun x hx => HC.out x (by omega)))
                            go_wp2
                            go_round
                            case rel => exact ⟨a + 1, by omega, by go_num, fun y hy => by
                                by_cases e : y = a
                                · subst e; exact HR2.out
                                · exact HB.out y (by omega)⟩
                            case measure => simp [intOf]; omega
                    · have hee : ((a : Int) == (c : Int)) = false := by rw [nat_beq]; simp [hac]
                      cases zac : Z a c
                      · have HT : Hid (Lat.ordT Z a c = true) := hide (by simp [Lat.ordT, zac, hac])
                        rw [zac] at cac
                        clear zac cca
                        go_wp2
                        clear cac
                        go_loop [9] (fun i => ∃ k : Nat, k ≤ n ∧ i = .int .i64 k ∧ ∀ d, d < k → Lat.ordC Z a c d = true) (fun i => n - (intOf i).toNat)
                        case atStart => exact ⟨0, Nat.zero_le _, rfl, fun d hd => absurd hd (Nat.not_lt_zero _)⟩
                        case round =>
                          obtain ⟨d, hkd, rfl, hall⟩ := hrel
                          have HC := hide hall
                          clear hall
                          by_cases hdn : d < n
                          · have cab := HG2.out a c han hcn
                            have cbd := HG2.out c d hcn hdn
                            have cad := HG2.out a d han hdn
                            have HCD : Hid (Lat.ordC Z a c d = !(Z a c && Z c d && !Z a d)) := rfl
                            generalize Z a c = x1 at *
                            generalize Z c d = x2 at *
                            generalize Z a d = x3 at *
                            cases x1
                            · go_wp2
                              go_round
                              case rel => exact ⟨d + 1, by omega, by go_num, fun y hy => by
                                  by_cases e : y = d
                                  · subst e; rw [HCD.out]; rfl
                                  · exact HC.out y (by omega)⟩
                              case measure => simp [intOf]; omega
                            · cases x2
                              · go_wp2
                                go_round
                                case rel => exact ⟨d + 1, by omega, by go_num, fun y hy => by
                                    by_cases e : y = d
                                    · subst e; rw [HCD.out]; rfl
                                    · exact HC.out y (by omega)⟩
                                case measure => simp [intOf]; omega
                              · cases x3
                                · go_wp2
                                  go_ret
                                  exact ⟨ret_int (by rw [HE4.out, if_pos (Lat.ord_bad han hcn (Lat.ordR_bad2 hdn (by rw [HCD.out]; rfl)))]), up HB0.out HNX.out⟩
                                · go_wp2
                                  go_round
                                  case rel => exact ⟨d + 1, by omega, by go_num, fun y hy => by
                                      by_cases e : y = d
                                      · subst e; rw [HCD.out]; rfl
                                      · exact HC.out y (by omega)⟩
                                  case measure => simp [intOf]; omega
                          · have HR2 : Hid (Lat.ordR Z n a c = true) := hide (Lat.ordR_good HT.out (fun x hx => HC.out x (by omega)))
                            go_wp2
                            go_round
                            case rel => exact ⟨c + 1, by omega, by go_num, fun y hy => by
                                by_cases e : y = c
                                · subst e; exact HR2.out
                                · exact HB.out y (by omega)⟩
                            case measure => simp [intOf]; omega
                      · rw [zac] at cac
                        cases zca : Z c a
                        · have HT : Hid (Lat.ordT Z a c = true) := hide (by simp [Lat.ordT, zca, hac])
                          rw [zca] at cca
                          clear zac zca
                          go_wp2
                          clear cac cca
                          go_loop [9] (fun i => ∃ k : Nat, k ≤ n ∧ i = .int .i64 k ∧ ∀ d, d < k → Lat.ordC Z a c d = true) (fun i => n - (intOf i).toNat)
                          case atStart => exact ⟨0, Nat.zero_le _, rfl, fun d hd => absurd hd (Nat.not_lt_zero _)⟩
                          case round =>
                            obtain ⟨d, hkd, rfl, hall⟩ := hrel
                            have HC := hide hall
                            clear hall
                            by_cases hdn : d < n
                            · have cab := HG2.out a c han hcn
                              have cbd := HG2.out c d hcn hdn
                              have cad := HG2.out a d han hdn
                              have HCD : Hid (Lat.ordC Z a c d = !(Z a c && Z c d && !Z a d)) := rfl
                              generalize Z a c = x1 at *
                              generalize Z c d = x2 at *
                              generalize Z a d = x3 at *
                              cases x1
                              · go_wp2
                                go_round
                                case rel => exact ⟨d + 1, by omega, by go_num, fun y hy => by
                                    by_cases e : y = d
                                    · subst e; rw [HCD.out]; rfl
                                    · exact HC.out y (by omega)⟩
                                case measure => simp [intOf]; omega
                              · cases x2
                                · go_wp2
                                  go_round
                                  case rel => exact ⟨d + 1, by omega, by go_num, fun y hy => by
                                      by_cases e : y = d
                                      · subst e; rw [HCD.out]; rfl
                                      · exact HC.out y (by omega)⟩
                                  case measure => simp [intOf]; omega
                                · cases x3
                                  · go_wp2
                                    go_ret
                                    exact ⟨ret_int (by rw [HE4.out, if_pos (Lat.ord_bad han hcn (Lat.ordR_bad2 hdn (by rw [HCD.out]; rfl)))]), up HB0.out HNX.out⟩
                                  · go_wp2
                                    go_round
                                    case rel => exact ⟨d + 1, by omega, by go_num, fun y hy => by
                                        by_cases e : y = d
                                        · subst e; rw [HCD.out]; rfl
                                        · exact HC.out y (by omega)⟩
                                    case measure => simp [intOf]; omega
                            · have HR2 : Hid (Lat.ordR Z n a c = true) := hide (Lat.ordR_good HT.out (fun x hx => HC.out x (by omega)))
                              go_wp2
                              go_round
                              case rel => exact ⟨c + 1, by omega, by go_num, fun y hy => by
                                  by_cases e : y = c
                                  · subst e; exact HR2.out
                                  · exact HB.out y (by omega)⟩
                              case measure => simp [intOf]; omega
                        · have HT : Hid (Lat.ordT Z a c = false) := hide (by simp [Lat.ordT, zca, zac, hac])
                          rw [zca] at cca
                          clear zac zca
                          go_wp2
                          go_ret
                          exact ⟨ret_int (by rw [HE4.out, if_pos (Lat.ord_bad han hcn (Lat.ordR_bad1 HT.out))]), up HB0.out HNX.out⟩
                  · go_wp2
                    go_round
                    case rel => exact ⟨a + 1, by omega, by go_num, fun d hd => by
                        by_cases e : d = a
                        · subst e; exact Lat.all_true (fun x hx => HB.out x (by omega))
                        · exact HA.out d (by omega)⟩
                    case measure => simp [intOf]; omega
              · have HO : Hid (Lat.rOrd Z n = true) := Lat.all_true (fun x hx => HA.out x (by omega))
                have HE3 : Hid (Lat.checkE ss n L Z = if Lat.rJoins Z n = false then 5 else 0) := hide (by
                  rw [HE4.out, HO.out, if_neg (by simp)])
                clear HE4 HO HA HG1 HG2
                go_wp2
                clear p1
                have HWR := hide (up HB0.out HNX.out)
                generalize wr = wb at *
                clear HNX HB0 hv2
                go_loopw [10] (fun i wi => ∃ k : Nat, k ≤ n ∧ i = .int .i64 k ∧ (∀ d, d < k → Lat.jA Z n d = true) ∧ Below wb.heap.size wb wi) (fun i _ => n - (intOf i).toNat)
                case atStart => exact ⟨0, Nat.zero_le _, rfl, fun d hd => absurd hd (Nat.not_lt_zero _), Below.refl _ _⟩
                case round =>
                  obtain ⟨a, hka, rfl, hall, hnx⟩ := hrel
                  have HA := hide hall
                  clear hall
                  by_cases han : a < n
                  · have HNX := hide hnx
                    clear hnx
                    go_wp2
                    go_loopw [11] (fun i wi => ∃ k : Nat, k ≤ n ∧ i = .int .i64 k ∧ (∀ d, d < k → Lat.jP Z n a d = true) ∧ Below wb.heap.size wb wi) (fun i _ => n - (intOf i).toNat)
                    case atStart => exact ⟨0, Nat.zero_le _, rfl, fun d hd => absurd hd (Nat.not_lt_zero _), HNX.out⟩
                    case round =>
                      obtain ⟨c, hkc, rfl, hall, hnx⟩ := hrel
                      have HB := hide hall
                      clear hall HNX
                      by_cases hcn : c < n
                      · have t0 := cellUp P0.out hnx
                        have t1 := cellUp P1.out hnx
                        have HNX := hide hnx
                        clear hnx
                        go_wp2_with fail
                        refine (rjoin_any _ _ vl n cap a c Z (HG.out.below HNX.out) h6' han hcn).mono ?_
                        rintro e w5 ⟨rfl, hb5⟩
                        have HJ : Hid (Lat.jP Z n a c = (decide (0 ≤ Lat.joinI Z n a c) && decide (0 ≤ Lat.joinI (Lat.tr Z) n a c))) := rfl
                        generalize Lat.joinI Z n a c = x at *
                        replace t0 := cellUp t0 hb5
                        replace t1 := cellUp t1 hb5
                        have HN5 := hide (up HNX.out hb5)
                        clear hb5 HNX
                        by_cases hx : x < 0
                        · go_wp2
                          go_ret
                          exact ⟨ret_int (by rw [HE3.out, if_pos (Lat.joins_bad han hcn (by rw [HJ.out, decide_eq_false (by omega)]; rfl))]), up HWR.out HN5.out⟩
                        · go_wp2_with fail
                          refine (rmeet_any _ _ vl n cap a c Z (HG.out.below HN5.out) h6' han hcn).mono ?_
                          rintro e w6 ⟨rfl, hb6⟩
                          generalize Lat.joinI (Lat.tr Z) n a c = y at *
                          have HN6 := hide (up HN5.out hb6)
                          clear hb6 HN5 t0 t1
                          by_cases hy : y < 0
                          · go_wp2
                            go_ret
                            exact ⟨ret_int (by rw [HE3.out, if_pos (Lat.joins_bad han hcn (by rw [HJ.out, decide_eq_false (by omega : ¬ 0 ≤ y), Bool.and_false]))]), up HWR.out HN6.out⟩
                          · have HJ2 : Hid (Lat.jP Z n a c = true) := hide (by rw [HJ.out, decide_eq_true (by omega : 0 ≤ x), decide_eq_true (by omega : 0 ≤ y)]; rfl)
                            go_wp2
                            go_roundw
                            case rel => exact ⟨c + 1, by omega, by go_num, fun d hd => by
                                by_cases e : d = c
                                · subst e; exact HJ2.out
                                · exact HB.out d (by omega), HN6.out⟩
                            case measure => simp [intOf]; omega
                      · go_wp2
                        go_roundw
                        case rel => exact ⟨a + 1, by omega, by go_num, fun d hd => by
                            by_cases e : d = a
                            · subst e; exact Lat.all_true (fun x hx => HB.out x (by omega))
                            · exact HA.out d (by omega), hnx⟩
                        case measure => simp [intOf]; omega
                  · have HJJ : Hid (Lat.rJoins Z n = true) := Lat.all_true (fun x hx => HA.out x (by omega))
                    go_wp2
                    go_ret
                    exact ⟨ret_int (by rw [HE3.out, HJJ.out, if_neg (by simp)]), up HWR.out hnx⟩
      · have hnb : ((G : Int) != (n : Int)) = true := by rw [nat_bne]; simp; omega
        have hsq : Hid (Lat.squareB G L n = false) := by
          show Lat.squareB G L n = false
          unfold Lat.squareB
          rw [show (G == n) = false from by simp; omega]; rfl
        clear r1 r2 hg hLm
        go_wp2
        go_ret
        exact ⟨ret_int (by rw [HE5.out, if_pos hsq.out]), up HB0.out HNX.out⟩

end Go.Proofs.YtbncnkfogkhoeaaGreatDoor
