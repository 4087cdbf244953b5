/- Closed facts of the card of NamesSays: its function, its laying, that it is no instance and no wrapper of another. -/
import Derived.Test.YtholefgckcoklaaGreatDoorCards
import Derived.Test.YtholefgckcoklaaGreatDoorTie
import Derived.WalkKit
import Derived.ProofKit
import Derived.OpenShut
import Derived.ChangeOld
import Derived.Below
import Derived.ChangeMaps
import Derived.Deep.DeepHandedRow
import Derived.Lib.LaidTab
import Derived.Stop.LaidErr
import Derived.Lib.SmallJoins
import Derived.Test.YtholefgckcoklaaGreatDoorBZAZ
import Derived.Deep.AppendLies
import Derived.Test.YtholefgckcoklaaGreatDoorBZAC
import Derived.Test.YtholefgckcoklaaGreatDoorBZAN
import Derived.Test.YtholefgckcoklaaGreatDoorBZAO
import Derived.Maps.AppendAt
import Derived.Deep.QuietTactic
import Derived.BigQuiet
import Derived.Test.YtholefgckcoklaaGreatDoorBZAX
import Derived.Test.YtholefgckcoklaaGreatDoorBZBD
namespace Go.Proofs.YtholefgckcoklaaGreatDoor
open Go.ChangeShapes Go.WideShapes Go.ChangeAt Go.RowKit Go.Deep Go.Joins
open Go.ChangeMaps (open_string shut_string)
theorem names_fn : Tryz.pinned.checked.prog.funcNamed Rows.namesSaysUptoRow.func = some 4 := by kernel_rfl
theorem names_closed : joinedFacts Tryz.pinned.checked.prog 4 Tryz.f4 (Rows.OpenSpec.upto Rows.namesSaysSpec).bare Rows.namesSaysUptoRow = true := by kernel_rfl
theorem names_inst : Tryz.f4.isInstance Tryz.pinned.checked.prog Rows.namesSaysUptoRow.origin Rows.namesSaysUptoRow.targs := of_decide_eq_true (by kernel_rfl)
theorem names_wrap : Tryz.f4.isWrapper Tryz.pinned.checked.prog Rows.namesSaysUptoRow.wrapper Rows.namesSaysUptoRow.mainSum := by
  unfold Func.isWrapper
  first | (rw [if_pos (by decide +kernel)]; kernel_rfl) | (rw [if_neg (by decide +kernel)]; exact ⟨rfl, rfl⟩)
end Go.Proofs.YtholefgckcoklaaGreatDoor
namespace Go.Proofs.YtholefgckcoklaaGreatDoor
open Go.RowKit
namespace Lat
def impX (s : ByteArray) : ByteArray := brk [⟨#[105, 109, 112, 111, 114, 116]⟩, s]
def vaX (v : Va) : ByteArray := brk [⟨#[118, 97, 114]⟩, v.name, v.level]
end Lat
end Go.Proofs.YtholefgckcoklaaGreatDoor
namespace Go.Proofs.YtholefgckcoklaaGreatDoor
open Go.RowKit
namespace Lat
def fuX (m : Nat) (f : Fu) : ByteArray := brk [[⟨#[102, 117, 110]⟩, f.name, brk f.params], txs m f.body, [exT m f.result]].flatten
end Lat
theorem par_jn (l : List ByteArray) (acc : ByteArray) : ∀ j, j ≤ l.length → Lat.parTo l acc j = acc ++ Lat.jn (l.take j)
  | 0, _ => by
    apply bytes_ext
    rw [app_list, jn_list]; simp [Lat.parTo, Lib.join_nil]
  | j + 1, hj => by
    obtain ⟨y, hy⟩ : ∃ y, l[j]? = some y := ⟨_, List.getElem?_eq_getElem (by omega)⟩
    have e1 : l.take (j + 1) = l.take j ++ [y] := by
      have := map_take (f := id) hy
      simpa using this
    have e2 : l.getD j ByteArray.empty = y := by rw [List.getD, hy]; rfl
    have e3 : (l.take j).length = j := by rw [List.length_take]; omega
    rw [parTo_succ, par_jn l acc j (by omega), e1, e2, jn_snoc, e3]
    apply bytes_ext
    by_cases h : 0 < j
    · rw [if_pos h, if_pos h]; simp only [app_list, List.append_assoc]
    · rw [if_neg h, if_neg h]; simp only [app_list, List.append_assoc]
theorem tail_jn {l : List ByteArray} (h : l ≠ []) : Lib.joinTail [32] (l.map (·.data.toList)) = 32 :: (Lat.jn l).data.toList := by
  cases l with
  | nil => exact absurd rfl h
  | cons y l =>
    rw [jn_list, List.map_cons, Lib.join_cons]
    simp [Lib.joinTail]
theorem tail_cons (x : List UInt8) (r : List (List UInt8)) : Lib.joinTail [32] (x :: r) = 32 :: (x ++ Lib.joinTail [32] r) := by simp [Lib.joinTail]
theorem txs_nil {m : Nat} (hm : m ≠ 0) (l : List St) : Lat.txs m l = [] ↔ l = [] := by
  cases m with
  | zero => exact absurd rfl hm
  | succ m => simp [Lat.txs]
theorem fuT_eq {m : Nat} (hm : m ≠ 0) (acc : ByteArray) (f : Fu) : (Lat.fuT m acc f).data.toList = acc.data.toList ++ 32 :: (Lat.fuX m f).data.toList := by
  unfold Lat.fuT Lat.fuB Lat.fuP Lat.fuH Lat.fuX
  rw [par_jn _ _ _ (Nat.le_refl _), List.take_length, brk_list]
  by_cases h : 0 < f.body.length
  · have hne : Lat.txs m f.body ≠ [] := by
      rw [ne_eq, txs_nil hm]; intro e; rw [e] at h; simp at h
    rw [if_pos h, bdT_jn]
    have hfl : [[(⟨#[102, 117, 110]⟩ : ByteArray), f.name, Lat.brk f.params], Lat.txs m f.body, [Lat.exT m f.result]].flatten = ⟨#[102, 117, 110]⟩ :: f.name :: Lat.brk f.params :: (Lat.txs m f.body ++ [Lat.exT m f.result]) := by simp
    rw [hfl, List.map_cons, Lib.join_cons, List.map_cons, tail_cons, List.map_cons, tail_cons, List.map_append, joinTail_app, tail_jn hne, List.map_cons, tail_cons, List.map_nil, brk_list, jn_list]
    simp [jn_list, Lib.joinTail]
  · have he : f.body = [] := List.length_eq_zero_iff.1 (by omega)
    have hne : Lat.txs m f.body = [] := (txs_nil hm _).2 he
    rw [if_neg h, hne]
    simp [Lib.join_cons, Lib.joinTail, brk_list, jn_list]
end Go.Proofs.YtholefgckcoklaaGreatDoor
namespace Go.Proofs.YtholefgckcoklaaGreatDoor
open Go.RowKit
namespace Lat
end Lat
end Go.Proofs.YtholefgckcoklaaGreatDoor
namespace Go.Proofs.YtholefgckcoklaaGreatDoor
open Go.RowKit
theorem infoIntR : (Tryz.prog.info? 3).map (fun i => (i.zero, i.size, i.bytes)) = some (some (.int .i64 0), 1, 8) := by kernel_rfl
def IntsR (w : World) (v : Value) (xs : List Nat) : Prop :=
  ∃ (a : Option Addr) (g cap : Nat), v = .slice a xs.length cap ∧ (0 < xs.length → a = some ⟨g, 0, none⟩) ∧ ∀ j, j < xs.length → w.cell? ⟨g, j, none⟩ = some (.int .i64 (xs.getD j 0 : Nat))
theorem IntsR.below {w w' : World} {v : Value} {xs : List Nat} (h : IntsR w v xs) (hb : Below w.heap.size w w') : IntsR w' v xs := by
  obtain ⟨a, g, cap, e, h0, h1⟩ := h
  exact ⟨a, g, cap, e, h0, fun r hr => by rw [hb.cell (World.block_lt_of_cell? _ _ (h1 r hr))]; exact h1 r hr⟩
def intV (c : Nat) : Value := .int .i64 c
theorem ints_of {w : World} {base : Nat} {v : Value} {xs : List Nat} (h : w.ownsRow base 3 1 v xs.length (xs.map intV)) : IntsR w v xs := by
  obtain ⟨h1, h2⟩ := h
  rcases h2 with ⟨rfl, h0⟩ | ⟨g, cap, cur, rfl, hg, hh, hn, hc, hs, ht⟩
  · have : xs = [] := List.eq_nil_of_length_eq_zero h0
    subst this
    exact ⟨none, 0, 0, rfl, fun h => absurd h (Nat.lt_irrefl _), fun j hj => absurd hj (Nat.not_lt_zero _)⟩
  · refine ⟨_, g, cap, rfl, fun _ => rfl, fun j hj => ?_⟩
    have hown : w.ownsRow base 3 1 (.slice (some ⟨g, 0, none⟩) xs.length cap) xs.length (xs.map intV) := ⟨h1, Or.inr ⟨g, cap, cur, rfl, hg, hh, hn, hc, hs, ht⟩⟩
    rw [hown.cellAt j (by omega)]
    simp [List.getElem?_map, List.getElem?_eq_getElem hj, intV, List.getD]
namespace Lat
def upTo (Z : Nat → Nat → Bool) (a b k : Nat) : List Nat := (List.range k).filter fun c => Z a c && Z b c
theorem upTo_yes {Z : Nat → Nat → Bool} {a b k : Nat} (h1 : Z a k = true) (h2 : Z b k = true) : upTo Z a b (k + 1) = upTo Z a b k ++ [k] := by
  unfold upTo; rw [List.range_succ, List.filter_append]; simp [h1, h2]
theorem upTo_no1 {Z : Nat → Nat → Bool} {a b k : Nat} (h1 : Z a k = false) : upTo Z a b (k + 1) = upTo Z a b k := by
  unfold upTo; rw [List.range_succ, List.filter_append]; simp [h1]
theorem upTo_no2 {Z : Nat → Nat → Bool} {a b k : Nat} (h2 : Z b k = false) : upTo Z a b (k + 1) = upTo Z a b k := by
  unfold upTo; rw [List.range_succ, List.filter_append]; simp [h2]
theorem upTo_le (Z : Nat → Nat → Bool) (a b k : Nat) : (upTo Z a b k).length ≤ k := by
  unfold upTo; have := List.length_filter_le (fun c => Z a c && Z b c) (List.range k); simpa using this
end Lat
set_option maxHeartbeats 2000000 in
set_option maxRecDepth 100000 in
theorem above_any (w : World) (ad : Option Addr) (vl : Value) (n cap a b : Nat) (Z : Nat → Nat → Bool) (hG : Grid w vl n Z) (hn : n ≤ 6) (ha : a < n) (hb : b < n) :
    Calls Tryz.prog 183 #[.agg #[.slice ad n cap, vl], .int .i64 a, .int .i64 b] w fun e w' => ∃ v, e = .returned v ∧ IntsR w' v (Lat.upTo Z a b n) ∧ Below w.heap.size w w' := by
  obtain ⟨gb, go, gc, RB, RO, C, rfl, h1, h2⟩ := hG.below (boxBelow w (.cells #[.slice ad n cap, vl] 34))
  obtain ⟨i0, hi, hz0, hz1, hz2⟩ := info_parts infoIntR
  have q0 := cellBox0 w (.slice ad n cap) (.slice (some ⟨gb, go, none⟩) n gc) 34
  have q1 := cellBox1 w (.slice ad n cap) (.slice (some ⟨gb, go, none⟩) n gc) 34
  have HB0 := hide (boxBelow w (.cells #[.slice ad n cap, .slice (some ⟨gb, go, none⟩) n gc] 34))
  go_enter Tryz.func183, Tryz.ntmps183
  go_wp2
  generalize w.alloc (.cells #[.slice ad n cap, .slice (some ⟨gb, go, none⟩) n gc] 34) = W0 at *
  go_loopw [7, 8] (fun v i wr => ∃ k : Nat, k ≤ n ∧ i = .int .i64 k ∧ wr.ownsRow W0.heap.size 3 1 v (Lat.upTo Z a b k).length ((Lat.upTo Z a b k).map intV) ∧ Below W0.heap.size W0 wr)
    (fun _ i _ => n - (intOf i).toNat)
  case atStart => exact ⟨0, Nat.zero_le _, rfl, World.ownsRow_nil _ _ _ _, Below.refl _ _⟩
  case round =>
    obtain ⟨k, hk, rfl, hrow, hnx⟩ := hrel
    have p0 := cellUp q0 hnx
    by_cases hlt : k < n
    · have p1 := cellUp q1 hnx
      have ra := cellUp (h1 a ha) hnx
      have rb := cellUp (h1 b hb) hnx
      have ca := cellUp (h2 a k ha hlt) hnx
      have cb := cellUp (h2 b k hb hlt) hnx
      have hle := Lat.upTo_le Z a b k
      cases za : Z a k
      · rw [za] at ca
        have HZ := hide (Lat.upTo_no1 (b := b) za)
        clear za
        go_wp2
        go_roundw
        case rel => exact ⟨k + 1, by omega, by go_num, by rw [HZ.out]; exact hrow, hnx⟩
        case measure => simp [intOf]; omega
      · rw [za] at ca
        cases zb : Z b k
        · rw [zb] at cb
          have HZ := hide (Lat.upTo_no2 (a := a) zb)
          clear za zb
          go_wp2
          go_roundw
          case rel => exact ⟨k + 1, by omega, by go_num, by rw [HZ.out]; exact hrow, hnx⟩
          case measure => simp [intOf]; omega
        · rw [zb] at cb
          have HZ := hide (Lat.upTo_yes za zb)
          clear za zb
          go_wp2_with (first
            | (at_builtin; refine wpList_append_own _ rfl _ _ 47 rfl W0.heap.size 3 i0 (.int .i64 0) 1 8 Tryz.underlying47 hi hz0 hz1 hz2 rfl (by decide) _ _ _ rfl (hrow.alloc _) ⟨wr.heap.size, 0, none⟩ 1 1 [.int .i64 k] rfl rfl (cell_one_new _ _ _) (ints_oneCell .i64 [(k : Int)]) (by unfold maxLen; omega) (by omega) (by have := hnx.size; simp; omega) ?_; intro v' w2 hown' hgrow2 hnil2)
            | go_in)
          have hs2 := hnx.size
          have R2 := (hnx.alloc hnx.size (.cells #[.int .i64 k] 3)).grown hgrow2 (by simp; omega) (fun j hj => (hrow.lt j hj).1)
          clear hnil2 hgrow2 ra rb ca cb p0 p1
          go_roundw
          case rel => exact ⟨k + 1, by omega, by go_num, by rw [HZ.out]; simpa [intV] using hown', R2⟩
          case measure => simp [intOf]; omega
    · go_wp2
      go_ret
      have e : k = n := by omega
      subst e
      exact ⟨_, rfl, ints_of hrow, HB0.out.trans (hnx.mono HB0.out.size)⟩
end Go.Proofs.YtholefgckcoklaaGreatDoor
namespace Go.Proofs.YtholefgckcoklaaGreatDoor
open Go.RowKit
namespace Lat
def joinI (Z : Nat → Nat → Bool) (n a b : Nat) : Int := match joinO Z n a b with | some c => c | none => -1
theorem below_up (Z : Nat → Nat → Bool) (n a b c : Nat) : belowB Z n a b c = (upTo Z a b n).all (Z c) := by
  unfold belowB upTo
  rw [List.all_filter]
  congr 1
  funext d
  cases Z a d <;> cases Z b d <;> simp
theorem joinO_up (Z : Nat → Nat → Bool) (n a b : Nat) : joinO Z n a b = (upTo Z a b n).find? (fun c => (upTo Z a b n).all (Z c)) := by
  unfold joinO
  conv => rhs; unfold upTo
  rw [List.find?_filter]
  congr 1
  funext c
  unfold joinP
  rw [below_up, upTo, Bool.eq_iff_iff]
  simp only [Bool.and_eq_true, decide_eq_true_eq]
theorem joinI_hit (Z : Nat → Nat → Bool) (n a b i : Nat) (hi : i < (upTo Z a b n).length) (h0 : ∀ j, j < i → (upTo Z a b n).all (Z ((upTo Z a b n).getD j 0)) = false) (h1 : (upTo Z a b n).all (Z ((upTo Z a b n).getD i 0)) = true) :
    joinI Z n a b = ((upTo Z a b n).getD i 0 : Nat) := by
  have e : joinO Z n a b = some ((upTo Z a b n).getD i 0) := by
    rw [joinO_up, List.find?_eq_some_iff_getElem]
    refine ⟨h1, i, hi, by simp [List.getD, List.getElem?_eq_getElem hi], fun j hj => ?_⟩
    have := h0 j hj
    simp only [List.getD, List.getElem?_eq_getElem (Nat.lt_trans hj hi), Option.getD_some] at this
    simp [this]
  unfold joinI; rw [e]
theorem joinI_miss {Z : Nat → Nat → Bool} {n a b : Nat} (h0 : ∀ j, j < (upTo Z a b n).length → (upTo Z a b n).all (Z ((upTo Z a b n).getD j 0)) = false) : joinI Z n a b = -1 := by
  have e : joinO Z n a b = none := by
    rw [joinO_up, List.find?_eq_none]
    intro x hx
    obtain ⟨j, hj, rfl⟩ := List.mem_iff_getElem.1 hx
    have := h0 j hj
    simp only [List.getD, List.getElem?_eq_getElem hj, Option.getD_some] at this
    simp [this]
  unfold joinI; rw [e]
theorem upTo_lt {Z : Nat → Nat → Bool} {n a b j : Nat} (hj : j < (upTo Z a b n).length) : (upTo Z a b n).getD j 0 < n := by
  have : (upTo Z a b n).getD j 0 ∈ upTo Z a b n := by
    simp only [List.getD, List.getElem?_eq_getElem hj, Option.getD_some]; exact List.getElem_mem hj
  unfold upTo at this
  exact List.mem_range.1 (List.mem_filter.1 this).1
theorem all_take {U : List Nat} {p : Nat → Bool} {k : Nat} (hk : k < U.length) : (U.take (k + 1)).all p = ((U.take k).all p && p (U.getD k 0)) := by
  rw [List.take_succ_eq_append_getElem hk, List.all_append]
  simp [List.getD, List.getElem?_eq_getElem hk]
end Lat
set_option maxHeartbeats 2000000 in
set_option maxRecDepth 100000 in
theorem rjoin_any (w : World) (ad : Option Addr) (vl : Value) (n cap a b : Nat) (Z : Nat → Nat → Bool) (hG : Grid w vl n Z) (hn : n ≤ 6) (ha : a < n) (hb : b < n) :
    Calls Tryz.prog 120 #[.agg #[.slice ad n cap, vl], .int .i64 a, .int .i64 b] w fun e w' => e = .returned (.int .i64 (Lat.joinI Z n a b)) ∧ Below w.heap.size w w' := by
  have HG := hide (hG.below (boxBelow w (.cells #[.slice ad n cap, vl] 34)))
  go_enter Tryz.func120, Tryz.ntmps120
  go_wp2_with fail
  refine (above_any _ ad vl n cap a b Z HG.out hn ha hb).mono ?_
  rintro e W0 ⟨vu, rfl, hI, hb0⟩
  have q1 := cellUp (cellBox1 w (.slice ad n cap) vl 34) hb0
  have HB0 := hide (up1 hb0)
  obtain ⟨gb, go, gc, RB, RO, C, hvl, h1, h2⟩ := HG.out.below hb0
  rw [hvl] at q1
  obtain ⟨ua, g, uc, hvu, hu0, hu1⟩ := hI
  rw [hvu]
  clear hb0 hG HG hvl hvu
  have HX : ∀ j, j < (Lat.upTo Z a b n).length → (Lat.upTo Z a b n).getD j 0 < n := fun j hj => Lat.upTo_lt hj
  have hJ0 := hide (Lat.joinI_hit Z n a b)
  have hJ1 := hide (@Lat.joinI_miss Z n a b)
  have hm6 := Lat.upTo_le Z a b n
  generalize Lat.upTo Z a b n = U at *
  obtain ⟨m, hm⟩ : ∃ m, m = U.length := ⟨_, rfl⟩
  have HM := hide hm
  rw [← hm] at hu0 hu1 HX hm6 ⊢
  clear hm
  go_wp2
  go_loopw [8] (fun i wr => ∃ k : Nat, k ≤ m ∧ i = .int .i64 k ∧ (∀ j, j < k → U.all (Z (U.getD j 0)) = false) ∧ Below W0.heap.size W0 wr) (fun i _ => m - (intOf i).toNat)
  case atStart => exact ⟨0, Nat.zero_le _, rfl, fun d hd => absurd hd (Nat.not_lt_zero _), Below.refl _ _⟩
  case round =>
    obtain ⟨k, hk, rfl, hall, hnx⟩ := hrel
    have HA := hide hall
    clear hall
    by_cases hlt : k < m
    · obtain rfl := hu0 (by omega)
      obtain ⟨c, hc⟩ : ∃ c, c = U.getD k 0 := ⟨_, rfl⟩
      have hcn : c < n := by rw [hc]; exact HX k hlt
      have HC := hide hc
      have u1 := hu1 k hlt
      rw [← hc] at u1
      clear hc
      have HNX := hide hnx
      clear hnx
      go_wp2
      go_loopw [9, 10] (fun s i wi => ∃ k2 : Nat, k2 ≤ m ∧ i = .int .i64 k2 ∧ s = .bool ((U.take k2).all (Z c)) ∧ Below W0.heap.size W0 wi) (fun _ i _ => m - (intOf i).toNat)
      case atStart => exact ⟨0, Nat.zero_le _, rfl, rfl, HNX.out⟩
      case round =>
        obtain ⟨k2, hk2, rfl, rfl, hnx⟩ := hrel
        by_cases hlt2 : k2 < m
        · obtain ⟨d, hd⟩ : ∃ d, d = U.getD k2 0 := ⟨_, rfl⟩
          have hdn : d < n := by rw [hd]; exact HX k2 hlt2
          have HS : Hid ((U.take (k2 + 1)).all (Z c) = ((U.take k2).all (Z c) && Z c d)) := by
            rw [hd]; exact Lat.all_take (by rw [← HM.out]; exact hlt2)
          have t1 := cellUp q1 hnx
          have t2 := cellUp u1 hnx
          have t3 := cellUp (hu1 k2 hlt2) hnx
          rw [← hd] at t3
          have t4 := cellUp (h1 c hcn) hnx
          have t5 := cellUp (h2 c d hcn hdn) hnx
          have b1 : (0 : Int) ≤ (c : Int) := by omega
          have b2 : (c : Int) < (n : Int) := by omega
          have b3 : (0 : Int) ≤ (d : Int) := by omega
          have b4 : (d : Int) < (n : Int) := by omega
          have b5 : (0 : Int) ≤ (k : Int) := by omega
          have b6 : (k : Int) < (m : Int) := by omega
          have b7 : (0 : Int) ≤ (k2 : Int) := by omega
          have b8 : (k2 : Int) < (m : Int) := by omega
          clear hd h1 h2 hu1 u1 q1 HX
          generalize hL : (U.take k2).all (Z c) = le at *
          clear hL
          cases le
          all_goals
            go_wp2_with fail
            go_quiet (fail)
            go_wp2
            go_roundw
            case rel => exact ⟨k2 + 1, by omega, by go_num, val_bool (by rw [HS.out]; simp), hnx.trans ⟨rfl, rfl, rfl, Nat.le_refl _, fun _ _ => rfl⟩⟩
            case measure => simp [intOf]; omega
        · have e2 : k2 = U.length := by have := HM.out; omega
          have t1 := cellUp u1 hnx
          have e3 : (U.take k2).all (Z c) = U.all (Z (U.getD k 0)) := by rw [e2, List.take_length, HC.out]
          rw [e3]
          cases hle : U.all (Z (U.getD k 0))
          · have HLE := hide hle
            go_wp2
            go_roundw
            case rel => exact ⟨k + 1, by omega, by go_num, fun j hj => by
                by_cases e : j = k
                · subst e; exact HLE.out
                · exact HA.out j (by omega), hnx⟩
            case measure => simp [intOf]; omega
          · have HLE := hide hle
            go_wp2
            go_ret
            exact ⟨ret_int (by rw [hJ0.out k (by rw [← HM.out]; exact hlt) HA.out HLE.out, ← HC.out]), up HB0.out hnx⟩
    · go_wp2
      go_ret
      exact ⟨ret_int (by rw [hJ1.out (fun j hj => HA.out j (by have := HM.out; omega))]), up HB0.out hnx⟩
end Go.Proofs.YtholefgckcoklaaGreatDoor
namespace Go.Proofs.YtholefgckcoklaaGreatDoor
open Go.RowKit
set_option maxHeartbeats 1000000 in
theorem ntarget_anyF (m : Nat) (w : World) (vi vv vf vk : Value) (x : Mo) (known : List Mo) (k : Nat) (call : ByteArray) (h : MoAt w m (.agg #[.string x.name, vi, vv, vf]) x) (hK : MosAt w m vk known) (hC : CapOK vf) (hk : k ≤ x.funs.length) (hc : call.size ≤ maxLen) (hli : x.imports.length ≤ 1048576) :
    Calls Tryz.prog 15 #[.agg #[.string x.name, vi, vv, vf], .int .i64 k, .string call, vk] w fun e w' => e = .returned (.tuple #[.int .i64 (Nm.ptgt x k call known).1, .int .i64 (Nm.ptgt x k call known).2.1, .bool (Nm.ptgt x k call known).2.2]) ∧ Below w.heap.size w w' := by
  have HM := hide h
  have HK := hide hK
  have HSC := hide (fun wx (hb : Below w.heap.size w wx) => newScope_any m wx _ _ _ _ x known (h.below hb) (hK.below hb) hli)
  have HST := hide (fun wx (hb : Below w.heap.size w wx) va (hI : Ints wx va (x.imports.map fun s => Nm.oI (Nm.moAt known s))) => starget_any m wx x known vi vv vf vk va k call ⟨h.below hb, hK.below hb, hI, hC⟩ hk hc)
  have HBX := fun i v hv => boxD w #[.string x.name, vi, vv, vf] 26 i v hv
  have r0 := HBX 0 _ rfl
  have r1 := HBX 1 _ rfl
  have r2 := HBX 2 _ rfl
  have r3 := HBX 3 _ rfl
  have HB0 := hide (boxBelow w (.cells #[.string x.name, vi, vv, vf] 26))
  obtain ⟨R, hR⟩ : ∃ R, R = Nm.ptgt x k call known := ⟨_, rfl⟩
  rw [← hR] at HST ⊢
  obtain ⟨hI, hV, hF⟩ := h.split
  obtain ⟨ai, bi, oi, ci, rfl, -⟩ := hI
  obtain ⟨av, bv, ov, cv, rfl, -⟩ := hV
  obtain ⟨af, bf, of, cf, rfl, -⟩ := hF
  obtain ⟨ak, bk, ok, ck, rfl, -⟩ := hK
  generalize x.imports.length = ni at *
  generalize x.vars.length = nv at *
  generalize x.funs.length = nf at *
  generalize known.length = nk at *
  clear h hC HBX hR
  go_enter Tryz.func15, Tryz.ntmps15
  go_wp2_with fail
  refine (HSC.out _ HB0.out).mono ?_
  rintro e w1 ⟨va, rfl, hints, hb1⟩
  have HIN := hide hints
  have HB1 := hide (up HB0.out hb1)
  clear r0 r1 r2 r3 hb1 hints
  go_wp2_with fail
  refine (HST.out _ HB1.out _ HIN.out).mono ?_
  rintro e w2 ⟨rfl, hb2⟩
  have HB2 := hide (up HB1.out hb2)
  clear hb2
  go_wp2_with fail
  go_ret3
  exact ⟨rfl, HB2.out⟩
theorem ntarget_any (m : Nat) (w : World) (vi vv vf vk : Value) (x : Mo) (known : List Mo) (k : Nat) (call : ByteArray) (h : MoAt w m (.agg #[.string x.name, vi, vv, vf]) x) (hK : MosAt w m vk known) (hC : MoCap w vi vf) (hk : k ≤ x.funs.length) (hc : call.size ≤ maxLen) (hli : x.imports.length ≤ 1048576) :
    Calls Tryz.prog 15 #[.agg #[.string x.name, vi, vv, vf], .int .i64 k, .string call, vk] w fun e w' => e = .returned (.tuple #[.int .i64 (Nm.ptgt x k call known).1, .int .i64 (Nm.ptgt x k call known).2.1, .bool (Nm.ptgt x k call known).2.2]) ∧ Below w.heap.size w w' :=
  ntarget_anyF m w vi vv vf vk x known k call h hK hC.fus hk hc hli
end Go.Proofs.YtholefgckcoklaaGreatDoor
