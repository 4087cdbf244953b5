/- The words of a text, as plain data. -/
import Derived.Test.YthcckfofpocbhabGreatDoorZB
import Derived.Deep.RegionHeld3
import Derived.Deep.QuietTactic
import Derived.BigQuiet
import Derived.Test.YthcckfofpocbhabGreatDoorShelf
import Derived.Lib.Join
import Derived.Test.YthcckfofpocbhabGreatDoorZA
import Derived.Lib.Atoi
import Derived.OwnWalk
import Derived.Deep.AppendLies
import Derived.Laws.OwnMore
import Derived.Deep.OwnRows
namespace Go.Proofs.YthcckfofpocbhabGreatDoor
open Go.RowKit

namespace Lat
def blankN (n : Nat) : Bool := n == 32 || n == 10
def brackN (n : Nat) : Bool := n == 40 || n == 41
def longN (n : Nat) : Bool := (decide (97 ≤ n) && decide (n ≤ 122)) || (decide (48 ≤ n) && decide (n ≤ 57)) || n == 46 || n == 43 || n == 45 || n == 42 || n == 60 || n == 61
def bt (s : ByteArray) (k : Nat) : Nat := (s.data.toList.getD k 0).toNat
/-- May byte k be? -/
def okAt (s : ByteArray) (k : Nat) : Bool := blankN (bt s k) || brackN (bt s k) || longN (bt s k)
/-- The words among the first k bytes, each by its begin and its end; and may the last grow? -/
def tok (s : ByteArray) : Nat → List (Nat × Nat) × Bool
  | 0 => ([], false)
  | k + 1 =>
    if blankN (bt s k) then ((tok s k).1, false)
    else if brackN (bt s k) then ((tok s k).1 ++ [(k, k + 1)], false)
    else if (tok s k).2 then ((tok s k).1.dropLast ++ [(((tok s k).1.getLastD (0, 0)).1, k + 1)], true)
    else ((tok s k).1 ++ [(k, k + 1)], true)
def ext (s : ByteArray) (p : Nat × Nat) : ByteArray := s.extract p.1 p.2
def badAt (s : ByteArray) : Option Nat := (List.range s.size).find? fun k => !okAt s k
/-- What Words answers: the words, where they begin, the number of the first byte that may not be, the error. -/
def wds (s : ByteArray) : List ByteArray := if 4096 < s.size then [] else match badAt s with | some _ => [] | none => (tok s s.size).1.map (ext s)
def wats (s : ByteArray) : List Int := if 4096 < s.size then [] else match badAt s with | some _ => [] | none => (tok s s.size).1.map fun p => (p.1 : Int)
def wn (s : ByteArray) : Nat := if 4096 < s.size then 0 else (badAt s).getD 0
def we (s : ByteArray) : Int := if 4096 < s.size then 2 else if (badAt s).isSome then 3 else 0
end Lat

theorem bt_at (s : ByteArray) (k : Nat) (hk : k < s.size) : Lat.bt s k = s[k].toNat := by
  unfold Lat.bt
  have h : k < s.data.toList.length := by simpa using hk
  rw [List.getD, List.getElem?_eq_getElem h]; rfl

/-- An open word ends where the next byte stands. -/
theorem tok_inv (s : ByteArray) : ∀ k, (Lat.tok s k).1.length ≤ k ∧ (∀ p ∈ (Lat.tok s k).1, p.1 < p.2 ∧ p.2 ≤ k) ∧ ((Lat.tok s k).2 = true → ∃ L a, (Lat.tok s k).1 = L ++ [(a, k)])
  | 0 => ⟨Nat.le_refl _, fun p hp => absurd hp (by simp [Lat.tok]), fun h => absurd h (by simp [Lat.tok])⟩
  | k + 1 => by
    obtain ⟨h1, h2, h3⟩ := tok_inv s k
    simp only [Lat.tok]
    split
    · exact ⟨by simp only; omega, fun p hp => ⟨(h2 p hp).1, by have := (h2 p hp).2; omega⟩, fun h => by cases h⟩
    · split
      · refine ⟨by simp only [List.length_append, List.length_singleton]; omega, fun p hp => ?_, fun h => by cases h⟩
        rcases List.mem_append.1 hp with hp | hp
        · exact ⟨(h2 p hp).1, by have := (h2 p hp).2; omega⟩
        · rw [List.mem_singleton] at hp; subst hp; exact ⟨by simp only; omega, Nat.le_refl _⟩
      · split
        · rename_i ho
          obtain ⟨L, a, e⟩ := h3 ho
          have ha := h2 (a, k) (by rw [e]; simp)
          rw [e] at h1 h2 ⊢
          refine ⟨by simp at h1 ⊢; omega, fun p hp => ?_, fun _ => ⟨_, _, rfl⟩⟩
          simp only [List.dropLast_concat, List.getLastD_concat] at hp
          rcases List.mem_append.1 hp with hp | hp
          · have := h2 p (List.mem_append_left _ hp)
            exact ⟨this.1, by omega⟩
          · rw [List.mem_singleton] at hp; subst hp; simp only at ha ⊢; exact ⟨by omega, Nat.le_refl _⟩
        · refine ⟨by simp only [List.length_append, List.length_singleton]; omega, fun p hp => ?_, fun _ => ⟨_, _, rfl⟩⟩
          rcases List.mem_append.1 hp with hp | hp
          · exact ⟨(h2 p hp).1, by have := (h2 p hp).2; omega⟩
          · rw [List.mem_singleton] at hp; subst hp; exact ⟨by simp only; omega, Nat.le_refl _⟩
theorem ext_grow (s : ByteArray) (a k : Nat) (h1 : a ≤ k) : Lat.ext s (a, k) ++ s.extract k (k + 1) = Lat.ext s (a, k + 1) := by
  unfold Lat.ext
  simp only
  rw [ByteArray.extract_append_extract]
  congr 1 <;> omega

end Go.Proofs.YthcckfofpocbhabGreatDoor

/- Four results; one cell; numbers of bytes. -/
namespace Go.Proofs.YthcckfofpocbhabGreatDoor
open Go.RowKit

theorem results_tmp4 {fn : Func} {t u v x : Tmp} (h : fn.results = #[.tmp t, .tmp u, .tmp v, .tmp x]) (tmps : Array Value) (P : Program) (w : World) :
    (results fn tmps).run P w = .ok (.tuple #[tmps.getD t undef, tmps.getD u undef, tmps.getD v undef, tmps.getD x undef]) w := by
  simp [results, h]
theorem ret4 {v6 v7 : Value} {a b c d : Int} (h : a = b) (h' : c = d) : Ending.returned (.tuple #[v6, v7, .int .i64 a, .int .i64 c]) = .returned (.tuple #[v6, v7, .int .i64 b, .int .i64 d]) := by rw [h, h']
theorem cell_str1 (w : World) (t : ByteArray) : (w.alloc (.cells #[.string t] 9)).cell? ⟨w.heap.size, 0, none⟩ = some (.string t) := by simp [go_sem]
theorem cell_int1 (w : World) (z : Int) : (w.alloc (.cells #[.int .i64 z] 3)).cell? ⟨w.heap.size, 0, none⟩ = some (.int .i64 z) := by simp [go_sem]
theorem nat_eqF {n c : Nat} (h : ¬ n = c) : ((n : Int) == (c : Int)) = false := by rw [nat_beq]; simp [h]
theorem nat_eqT {n c : Nat} (h : n = c) : ((n : Int) == (c : Int)) = true := by rw [nat_beq]; simp [h]

end Go.Proofs.YthcckfofpocbhabGreatDoor

/- slices.Equal of lists of strings and of ints, where both are the same. -/
namespace Go.Proofs.YthcckfofpocbhabGreatDoor
open Go.RowKit

set_option maxHeartbeats 1000000 in
theorem eqS_same (w : World) (v1 v2 : Value) (l : List ByteArray) (h1 : Strs w v1 l) (h2 : Strs w v2 l) :
    Calls Tryz.prog 14 #[v1, v2] w fun e w' => e = .returned (.bool true) ∧ Below w.heap.size w w' := by
  obtain ⟨a1, b1, o1, c1, rfl, ha1, hl, _, hc1⟩ := h1
  obtain ⟨a2, b2, o2, c2, rfl, ha2, _, _, hc2⟩ := h2
  have HA1 := hide ha1
  have HA2 := hide ha2
  have HC1 := hide hc1
  have HC2 := hide hc2
  clear ha1 ha2 hc1 hc2
  generalize hlen : l.length = len at *
  go_enter Tryz.func14, Tryz.ntmps14
  go_wp2
  go_loopw [13] (fun i wr => ∃ k : Nat, k ≤ len ∧ i = .int .i64 k ∧ Below w.heap.size w wr) (fun i _ => len - (intOf i).toNat)
  case atStart => exact ⟨0, Nat.zero_le _, rfl, Below.refl _ _⟩
  case round =>
    obtain ⟨k, hk, rfl, hnx⟩ := hrel
    by_cases hlt : k < len
    · obtain rfl := HA1.out (by omega)
      obtain rfl := HA2.out (by omega)
      have g1 := cellUp (HC1.out k hlt) hnx
      have g2 := cellUp (HC2.out k hlt) hnx
      generalize l.getD k ByteArray.empty = t at *
      have HNX := hide hnx
      have i1 : (0 : Int) ≤ (k : Int) := by omega
      have i2 : (k : Int) < (len : Int) := by omega
      clear hnx
      go_wp2_with fail
      go_quiet (fail)
      go_wp2
      go_roundw
      case rel => exact ⟨k + 1, by omega, by go_num, drewBelow HNX.out _⟩
      case measure => simp [intOf]; omega
    · go_wp2
      go_ret
      exact ⟨rfl, hnx⟩

end Go.Proofs.YthcckfofpocbhabGreatDoor

/- Walks over package lex: what a byte may be; the first byte that may not be; where a word ends. -/
namespace Go.Proofs.YthcckfofpocbhabGreatDoor
open Go.RowKit

set_option maxHeartbeats 1000000 in
theorem clone_any (w : World) (s : ByteArray) (hs : s.size ≤ 281474976710656) :
    Calls Tryz.prog 32 #[.string s] w fun e w' => e = .returned (.string s) ∧ Below w.heap.size w w' := by
  have HC := hide (Tryz.stringslite_Clone s w hs)
  go_enter Tryz.func32, Tryz.ntmps32
  go_wp2_with fail
  refine HC.out.mono ?_
  rintro e w' ⟨rfl, hb⟩
  go_wp2
  go_ret
  exact ⟨rfl, hb⟩

set_option maxHeartbeats 1000000 in
theorem isBetween_any (w : World) (c : UInt8) :
    Calls Tryz.prog 30 #[.int .u8 (c.toNat : Int)] w fun e w' => e = .returned (.bool (Lat.blankN c.toNat)) ∧ w' = w := by
  have HB : Hid (Lat.blankN c.toNat = (c.toNat == 32 || c.toNat == 10)) := rfl
  generalize c.toNat = n at *
  by_cases h1 : n = 32
  · have c1 : ((n : Int) == 32) = true := by simp [h1]
    go_enter Tryz.func30, Tryz.ntmps30
    go_wp2
    go_ret
    exact ⟨ret_bool (by rw [HB.out, h1]; rfl), rfl⟩
  · have c1 : ((n : Int) == 32) = false := by simp; omega
    go_enter Tryz.func30, Tryz.ntmps30
    go_wp2
    go_ret
    exact ⟨ret_bool (by rw [HB.out, Bool.eq_iff_iff]; simp; omega), rfl⟩

set_option maxHeartbeats 1000000 in
theorem isBracket_any (w : World) (c : UInt8) :
    Calls Tryz.prog 50 #[.int .u8 (c.toNat : Int)] w fun e w' => e = .returned (.bool (Lat.brackN c.toNat)) ∧ w' = w := by
  have HB : Hid (Lat.brackN c.toNat = (c.toNat == 40 || c.toNat == 41)) := rfl
  generalize c.toNat = n at *
  by_cases h1 : n = 40
  · have c1 : ((n : Int) == 40) = true := by simp [h1]
    go_enter Tryz.func50, Tryz.ntmps50
    go_wp2
    go_ret
    exact ⟨ret_bool (by rw [HB.out, h1]; rfl), rfl⟩
  · have c1 : ((n : Int) == 40) = false := by simp; omega
    go_enter Tryz.func50, Tryz.ntmps50
    go_wp2
    go_ret
    exact ⟨ret_bool (by rw [HB.out, Bool.eq_iff_iff]; simp; omega), rfl⟩

theorem sign_at (c : UInt8) : decide (0 ≤ Lib.indexByte [46, 43, 45, 42, 60, 61] c) = (c.toNat == 46 || c.toNat == 43 || c.toNat == 45 || c.toNat == 42 || c.toNat == 60 || c.toNat == 61) := by
  have h : ∀ n : Fin 256, decide (0 ≤ Lib.indexByte [46, 43, 45, 42, 60, 61] (UInt8.ofNat n.val)) = (n.val == 46 || n.val == 43 || n.val == 45 || n.val == 42 || n.val == 60 || n.val == 61) := by decide +kernel
  have := h ⟨c.toNat, c.toNat_lt⟩
  simpa using this

set_option maxHeartbeats 2000000 in
theorem isPart_any (w : World) (c : UInt8) :
    Calls Tryz.prog 51 #[.int .u8 (c.toNat : Int)] w fun e w' => e = .returned (.bool (Lat.longN c.toNat)) ∧ w' = w := by
  have HB : Hid (Lat.longN c.toNat = ((decide (97 ≤ c.toNat) && decide (c.toNat ≤ 122)) || (decide (48 ≤ c.toNat) && decide (c.toNat ≤ 57)) || c.toNat == 46 || c.toNat == 43 || c.toNat == 45 || c.toNat == 42 || c.toNat == 60 || c.toNat == 61)) := rfl
  have HI : Hid (∀ w, Calls Tryz.prog 69 #[.string ⟨#[46, 43, 45, 42, 60, 61]⟩, .int .u8 (c.toNat : Int)] w fun e w' => ∃ z : Int, e = .returned (.int .i64 z) ∧ decide (0 ≤ z) = (c.toNat == 46 || c.toNat == 43 || c.toNat == 45 || c.toNat == 42 || c.toNat == 60 || c.toNat == 61) ∧ w' = w) := hide (fun w => by
    refine (Tryz.strings_IndexByte ⟨#[46, 43, 45, 42, 60, 61]⟩ (c.toNat : Int) w).mono ?_
    rintro e w' ⟨rfl, rfl⟩
    refine ⟨_, rfl, ?_, rfl⟩
    rw [← sign_at]
    simp)
  generalize c.toNat = n at *
  by_cases l1 : 97 ≤ n ∧ n ≤ 122
  · have f1 : (97 : Int) ≤ (n : Int) := by omega
    have f2 : (n : Int) ≤ 122 := by omega
    go_enter Tryz.func51, Tryz.ntmps51
    go_wp2
    go_ret
    exact ⟨ret_bool (by rw [HB.out, Bool.eq_iff_iff]; simp; omega), rfl⟩
  by_cases l2 : 48 ≤ n ∧ n ≤ 57
  · have f1 : ¬ (97 : Int) ≤ (n : Int) := by omega
    have f3 : (48 : Int) ≤ (n : Int) := by omega
    have f4 : (n : Int) ≤ 57 := by omega
    go_enter Tryz.func51, Tryz.ntmps51
    go_wp2
    go_ret
    exact ⟨ret_bool (by rw [HB.out, Bool.eq_iff_iff]; simp; omega), rfl⟩
  have hcase : n < 48 ∨ (57 < n ∧ n < 97) ∨ 122 < n := by omega
  have HB2 : Hid (Lat.longN n = (n == 46 || n == 43 || n == 45 || n == 42 || n == 60 || n == 61)) := hide (by
    rw [HB.out, Bool.eq_iff_iff]; simp; omega)
  rcases hcase with l | l | l
  case' inl =>
    have f1 : ¬ (97 : Int) ≤ (n : Int) := by omega
    have f3 : ¬ (48 : Int) ≤ (n : Int) := by omega
  case' inr.inl =>
    have f1 : ¬ (97 : Int) ≤ (n : Int) := by omega
    have f3 : (48 : Int) ≤ (n : Int) := by omega
    have f4 : ¬ (n : Int) ≤ 57 := by omega
  case' inr.inr =>
    have f1 : (97 : Int) ≤ (n : Int) := by omega
    have f2 : ¬ (n : Int) ≤ 122 := by omega
    have f3 : (48 : Int) ≤ (n : Int) := by omega
    have f4 : ¬ (n : Int) ≤ 57 := by omega
  all_goals
    clear l l1 l2
    go_enter Tryz.func51, Tryz.ntmps51
    go_wp2_with fail
    refine (HI.out _).mono ?_
    rintro e w' ⟨z, rfl, hz, hw⟩
    subst hw
    have HZ := hide hz
    clear hz
    go_wp2
    go_ret
    exact ⟨ret_bool (by rw [HB2.out]; exact HZ.out), rfl⟩

set_option maxHeartbeats 2000000 in
theorem firstBad_any (w : World) (s : ByteArray) (hs : s.size ≤ 4096) :
    Calls Tryz.prog 29 #[.string s] w fun e w' => e = .returned (.int .i64 ((((Lat.badAt s).getD s.size : Nat)) : Int)) ∧ w' = w := by
  go_enter Tryz.func29, Tryz.ntmps29
  go_wp2
  go_loop [3] (fun i => ∃ k : Nat, k ≤ s.size ∧ i = .int .i64 k ∧ ∀ d, d < k → Lat.okAt s d = true) (fun i => s.size - (intOf i).toNat)
  case atStart => exact ⟨0, Nat.zero_le _, rfl, fun d hd => absurd hd (Nat.not_lt_zero _)⟩
  case round =>
    obtain ⟨k, hk, rfl, hall⟩ := hrel
    have HALL := hide hall
    clear hall
    by_cases hlt : k < s.size
    · have HB := hide (bt_at s k hlt)
      have HOK : Hid (Lat.okAt s k = (Lat.blankN (Lat.bt s k) || Lat.brackN (Lat.bt s k) || Lat.longN (Lat.bt s k))) := rfl
      rw [HB.out] at HOK
      have HOKS : Hid (Lat.okAt s k = true → ∀ d, d < k + 1 → Lat.okAt s d = true) := hide (fun h d hd => by
        by_cases e : d = k
        · subst e; exact h
        · exact HALL.out d (by omega))
      have b1 : (0 : Int) ≤ (k : Int) := by omega
      have b3 : (k : Int) < (s.size : Int) := by omega
      go_wp2_with fail
      refine (isBetween_any _ s[k]).mono ?_
      rintro e w' ⟨rfl, hw⟩
      subst hw
      cases c1 : Lat.blankN s[k].toNat
      · go_wp2_with fail
        refine (isBracket_any _ s[k]).mono ?_
        rintro e w' ⟨rfl, hw⟩
        subst hw
        cases c2 : Lat.brackN s[k].toNat
        · go_wp2_with fail
          refine (isPart_any _ s[k]).mono ?_
          rintro e w' ⟨rfl, hw⟩
          subst hw
          cases c3 : Lat.longN s[k].toNat
          · have HBAD : Hid (Lat.badAt s = some k) := hide (Lat.find_hit hlt (fun d hd => by rw [HALL.out d hd]; rfl) (by rw [HOK.out, c1, c2, c3]; rfl))
            go_wp2
            go_ret
            exact ⟨ret_int (by rw [HBAD.out]; rfl), rfl⟩
          · have HK : Hid (Lat.okAt s k = true) := hide (by rw [HOK.out, c1, c2, c3]; rfl)
            go_wp2
            go_round
            case rel => exact ⟨k + 1, by omega, by go_num, HOKS.out HK.out⟩
            case measure => simp [intOf]; omega
        · have HK : Hid (Lat.okAt s k = true) := hide (by rw [HOK.out, c1, c2]; rfl)
          go_wp2
          go_round
          case rel => exact ⟨k + 1, by omega, by go_num, HOKS.out HK.out⟩
          case measure => simp [intOf]; omega
      · have HK : Hid (Lat.okAt s k = true) := hide (by rw [HOK.out, c1]; rfl)
        go_wp2
        go_round
        case rel => exact ⟨k + 1, by omega, by go_num, HOKS.out HK.out⟩
        case measure => simp [intOf]; omega
    · have HBAD : Hid (Lat.badAt s = none) := hide (Lat.find_none (fun d hd => by rw [HALL.out d (by omega)]; rfl))
      go_wp2
      go_ret
      exact ⟨ret_int (by rw [HBAD.out]; rfl), rfl⟩

namespace Lat
/-- Where the word that begins at a ends. -/
def EndsAt (s : ByteArray) (a b : Nat) : Prop :=
  a < b ∧ b ≤ s.size ∧ ((Lat.brackN (Lat.bt s a) = true ∧ b = a + 1) ∨ (Lat.brackN (Lat.bt s a) = false ∧ (∀ d, a < d → d < b → Lat.longN (Lat.bt s d) = true) ∧ (b = s.size ∨ Lat.longN (Lat.bt s b) = false)))
end Lat

set_option maxHeartbeats 2000000 in
theorem wordEnd_any (w : World) (s : ByteArray) (a : Nat) (hs : s.size ≤ 4096) (ha : a < s.size) :
    Calls Tryz.prog 31 #[.string s, .int .i64 (a : Int)] w fun e w' => ∃ b : Nat, e = .returned (.int .i64 (b : Int)) ∧ Lat.EndsAt s a b ∧ w' = w := by
  have HB := hide (bt_at s a ha)
  have b1 : (0 : Int) ≤ (a : Int) := by omega
  have b3 : (a : Int) < (s.size : Int) := by omega
  go_enter Tryz.func31, Tryz.ntmps31
  go_wp2_with fail
  refine (isBracket_any _ s[a]).mono ?_
  rintro e w' ⟨rfl, hw⟩
  subst hw
  cases c1 : Lat.brackN s[a].toNat
  · go_wp2
    go_loop [5] (fun i => ∃ k : Nat, a < k ∧ k ≤ s.size ∧ i = .int .i64 k ∧ ∀ d, a < d → d < k → Lat.longN (Lat.bt s d) = true) (fun i => s.size - (intOf i).toNat)
    case atStart => exact ⟨a + 1, by omega, by omega, by go_num, fun d h1 h2 => absurd h2 (by omega)⟩
    case round =>
      obtain ⟨k, hk1, hk, rfl, hall⟩ := hrel
      have HALL := hide hall
      clear hall
      by_cases hlt : k < s.size
      · have HBK := hide (bt_at s k hlt)
        have d1 : (0 : Int) ≤ (k : Int) := by omega
        have d3 : (k : Int) < (s.size : Int) := by omega
        go_wp2_with fail
        refine (isPart_any _ s[k]).mono ?_
        rintro e w' ⟨rfl, hw⟩
        subst hw
        cases c3 : Lat.longN s[k].toNat
        · go_wp2
          go_ret
          exact ⟨k, rfl, ⟨hk1, hk, Or.inr ⟨by rw [HB.out]; exact c1, HALL.out, Or.inr (by rw [HBK.out]; exact c3)⟩⟩, rfl⟩
        · go_wp2
          go_round
          case rel => exact ⟨k + 1, by omega, by omega, by go_num, fun d h1 h2 => by
              by_cases e : d = k
              · subst e; rw [HBK.out]; exact c3
              · exact HALL.out d h1 (by omega)⟩
          case measure => simp [intOf]; omega
      · go_wp2
        go_ret
        exact ⟨k, rfl, ⟨hk1, hk, Or.inr ⟨by rw [HB.out]; exact c1, HALL.out, Or.inl (by omega)⟩⟩, rfl⟩
  · go_wp2
    go_ret
    exact ⟨a + 1, by go_num, ⟨by omega, by omega, Or.inl ⟨by rw [HB.out]; exact c1, rfl⟩⟩, rfl⟩

end Go.Proofs.YthcckfofpocbhabGreatDoor

/- Walks over package lex: Words. -/
namespace Go.Proofs.YthcckfofpocbhabGreatDoor
open Go.RowKit

theorem long_not {n : Nat} (h : Lat.longN n = true) : Lat.blankN n = false ∧ Lat.brackN n = false := by
  unfold Lat.longN at h
  unfold Lat.blankN Lat.brackN
  simp only [Bool.or_eq_true, Bool.and_eq_true, decide_eq_true_eq, beq_iff_eq] at h
  simp only [Bool.or_eq_false_iff, beq_eq_false_iff_ne]
  omega
theorem tok_long {s : ByteArray} {a : Nat} (h1 : Lat.blankN (Lat.bt s a) = false) (h2 : Lat.brackN (Lat.bt s a) = false) (h3 : (Lat.tok s a).2 = false) :
    ∀ b, a < b → (∀ d, a < d → d < b → Lat.longN (Lat.bt s d) = true) → Lat.tok s b = ((Lat.tok s a).1 ++ [(a, b)], true)
  | 0, hb, _ => absurd hb (by omega)
  | b + 1, hb, h => by
    by_cases e : a = b
    · subst e
      simp only [Lat.tok, h1, h2, h3, if_neg Bool.false_ne_true]
    · have ih := tok_long h1 h2 h3 b (by omega) (fun d d1 d2 => h d d1 (by omega))
      obtain ⟨g1, g2⟩ := long_not (h b (by omega) (by omega))
      rw [Lat.tok, ih, g1, g2]
      simp
theorem tok_word {s : ByteArray} {a b : Nat} (h : Lat.EndsAt s a b) (h1 : Lat.blankN (Lat.bt s a) = false) (h3 : Lat.brackN (Lat.bt s a) = false → (Lat.tok s a).2 = false) :
    (Lat.tok s b).1 = (Lat.tok s a).1 ++ [(a, b)] ∧ ((Lat.tok s b).2 = true → b = s.size ∨ Lat.longN (Lat.bt s b) = false) := by
  obtain ⟨hb, _, ⟨hk, rfl⟩ | ⟨hk, hl, he⟩⟩ := h
  · simp only [Lat.tok, h1, hk, if_neg Bool.false_ne_true, if_pos]
    exact ⟨trivial, fun h => by cases h⟩
  · rw [tok_long h1 hk (h3 hk) b hb hl]
    exact ⟨rfl, fun _ => he⟩

set_option maxHeartbeats 4000000 in
set_option maxRecDepth 100000 in
theorem words_own (w : World) (s : ByteArray) (hs : s.size ≤ maxLen) :
    Calls Tryz.prog 10 #[.string s] w fun e w' => ∃ v6 v7, e = .returned (.tuple #[v6, v7, .int .i64 (Lat.wn s), .int .i64 (Lat.we s)]) ∧ StrsC w' v6 (Lat.wds s) ∧ Ints w' v7 (Lat.wats s) ∧ OwnI w' w.heap.size v7 (Lat.wats s) ∧ Own w' w.heap.size v6 (Lat.wds s) ∧ Below w.heap.size w w' := by
  unfold maxLen at hs
  have HS0 : Hid (StrsC w (.slice none 0 0) []) := hide (Own.strsC (World.ownsRow_nil w 0 _ _) (fun s hs => absurd hs (by simp)) (by simp))
  have HI0 : Hid (Ints w (.slice none 0 0) []) := hide (OwnI.ints (World.ownsRow_nil w 0 _ _) (by simp))
  by_cases hbig : 4096 < s.size
  · have e1 : Lat.wn s = 0 := by unfold Lat.wn; rw [if_pos hbig]
    have e2 : Lat.we s = 2 := by unfold Lat.we; rw [if_pos hbig]
    have e3 : Lat.wds s = [] := by unfold Lat.wds; rw [if_pos hbig]
    have e4 : Lat.wats s = [] := by unfold Lat.wats; rw [if_pos hbig]
    rw [e1, e2, e3, e4]
    clear e1 e2 e3 e4
    go_enter Tryz.func10, Tryz.ntmps10
    go_wp2
    (try simp only [Exit.inBlock, Exit.then])
    refine bodyPost_ret (results_tmp4 rfl _ _ _) rfl ?_
    exact ⟨_, _, rfl, HS0.out, HI0.out, World.ownsRow_nil _ _ _ _, World.ownsRow_nil _ _ _ _, Below.refl _ _⟩
  have HBG := hide hbig
  have hs4 : s.size ≤ 4096 := by omega
  clear hbig
  cases hbad : Lat.badAt s with
  | some k =>
    have hk : k < s.size := (Lat.find_spec hbad).1
    have e1 : Lat.wn s = k := by unfold Lat.wn; rw [if_neg HBG.out, hbad]; rfl
    have e2 : Lat.we s = 3 := by unfold Lat.we; rw [if_neg HBG.out, hbad]; rfl
    have e3 : Lat.wds s = [] := by unfold Lat.wds; rw [if_neg HBG.out, hbad]
    have e4 : Lat.wats s = [] := by unfold Lat.wats; rw [if_neg HBG.out, hbad]
    rw [e1, e2, e3, e4]
    have HF := hide (firstBad_any w s hs4)
    rw [hbad, Option.getD_some] at HF
    clear e1 e2 e3 e4 hbad
    have b3 : (k : Int) < (s.size : Int) := by omega
    go_enter Tryz.func10, Tryz.ntmps10
    go_wp2_with fail
    refine HF.out.mono ?_
    rintro e w' ⟨rfl, hw⟩
    subst hw
    go_wp2
    (try simp only [Exit.inBlock, Exit.then])
    refine bodyPost_ret (results_tmp4 rfl _ _ _) rfl ?_
    exact ⟨_, _, rfl, HS0.out, HI0.out, World.ownsRow_nil _ _ _ _, World.ownsRow_nil _ _ _ _, Below.refl _ _⟩
  | none =>
    have HOKA : Hid (∀ d, d < s.size → Lat.okAt s d = true) := hide (fun d hd => by
      have := List.find?_eq_none.1 hbad d (List.mem_range.2 hd)
      simpa using this)
    have HE1 : Hid (Lat.wn s = 0) := hide (by unfold Lat.wn; rw [if_neg HBG.out, hbad]; rfl)
    have HE2 : Hid (Lat.we s = 0) := hide (by unfold Lat.we; rw [if_neg HBG.out, hbad]; rfl)
    have HE3 : Hid (Lat.wds s = (Lat.tok s s.size).1.map (Lat.ext s)) := hide (by unfold Lat.wds; rw [if_neg HBG.out, hbad])
    have HE4 : Hid (Lat.wats s = (Lat.tok s s.size).1.map fun p => (p.1 : Int)) := hide (by unfold Lat.wats; rw [if_neg HBG.out, hbad])
    have HF := hide (firstBad_any w s hs4)
    rw [hbad, Option.getD_none] at HF
    clear hbad
    go_enter Tryz.func10, Tryz.ntmps10
    go_wp2_with fail
    refine HF.out.mono ?_
    rintro e w1 ⟨rfl, hw⟩
    subst hw
    go_wp2
    go_loopw [7, 8, 9] (fun v6 v7 i wr => ∃ k : Nat, k ≤ s.size ∧ i = .int .i64 k ∧ ((Lat.tok s k).2 = true → k = s.size ∨ Lat.longN (Lat.bt s k) = false) ∧ Own wr w1.heap.size v6 ((Lat.tok s k).1.map (Lat.ext s)) ∧ OwnI wr w1.heap.size v7 ((Lat.tok s k).1.map fun p => (p.1 : Int)) ∧ Below w1.heap.size w1 wr) (fun _ _ i _ => s.size - (intOf i).toNat)
    case atStart => exact ⟨0, Nat.zero_le _, rfl, fun h => by simp [Lat.tok] at h, World.ownsRow_nil _ _ _ _, World.ownsRow_nil _ _ _ _, Below.refl _ _⟩
    case round =>
      obtain ⟨k, hk, rfl, hop, ho6, ho7, hnx⟩ := hrel
      have HOP := hide hop
      have HO6 := hide ho6
      have HO7 := hide ho7
      have HNX := hide hnx
      have hbs := hnx.size
      clear hop ho6 ho7 hnx
      by_cases hlt : k < s.size
      · have HB := hide (bt_at s k hlt)
        have HOK := hide (HOKA.out k hlt)
        have b1 : (0 : Int) ≤ (k : Int) := by omega
        have b3 : (k : Int) < (s.size : Int) := by omega
        go_wp2_with fail
        refine (isBetween_any _ s[k]).mono ?_
        rintro e w2 ⟨rfl, hw⟩
        subst hw
        cases c1 : Lat.blankN s[k].toNat
        · have HT : Hid (Lat.brackN (Lat.bt s k) = false → (Lat.tok s k).2 = false) := hide (fun h => by
            cases ho : (Lat.tok s k).2
            · rfl
            · have h5 := HOK.out
              unfold Lat.okAt at h5
              rw [h, HB.out, c1] at h5
              rcases HOP.out ho with h6 | h6
              · omega
              · rw [HB.out] at h6; rw [h6] at h5; cases h5)
          have hlen : ((Lat.tok s k).1.map (Lat.ext s)).length ≤ 4096 := by
            have := (tok_inv s k).1
            rw [List.length_map]; omega
          have hlen7 : ((Lat.tok s k).1.map fun p => (p.1 : Int)).length ≤ 4096 := by
            have := (tok_inv s k).1
            rw [List.length_map]; omega
          go_wp2_with fail
          refine (wordEnd_any _ s k hs4 hlt).mono ?_
          rintro e w3 ⟨b, rfl, hend, hw⟩
          subst hw
          have hb1 := hend.1
          have hb2 := hend.2.1
          have HW := hide (tok_word hend (by rw [HB.out]; exact c1) HT.out)
          clear hend
          have d1 : (k : Int) ≤ (b : Int) := by omega
          have d2 : (b : Int) ≤ (s.size : Int) := by omega
          have d3 : (0 : Int) ≤ (b : Int) := by omega
          have hex : (s.extract k b).size ≤ 4096 := by rw [ByteArray.size_extract]; omega
          go_wp2_with fail
          refine (clone_any _ (s.extract k b) (by omega)).mono ?_
          rintro e w4 ⟨rfl, hb4⟩
          have HO64 : Hid (Own w4 w1.heap.size _ _) := hide (own_below HO6.out hb4)
          have HO74 : Hid (OwnI w4 w1.heap.size _ _) := hide (own_below HO7.out hb4)
          have HNX4 := hide (up HNX.out hb4)
          have hbs4 := HNX4.out.size
          clear hb4 HO6 HO7 HNX
          go_wp2_with (first
            | (at_builtin; refine wpList_append_str rfl _ _ rfl w1.heap.size _ _ rfl (World.ownsRow.alloc HO64.out _) _ (s.extract k b) rfl (cell_str1 _ _) (by omega) (by simp; omega) ?_; intro v6' w5 hown2 hgrow2; have HO62 := hide hown2; have HO72 := hide (OwnI.kept HO74.out HO64.out hgrow2); have HR2 := hide ((HNX4.out.alloc hbs4 (.cells #[.string (s.extract k b)] 9)).grown hgrow2 (by simp; omega) (fun j hj => (HO64.out.lt j hj).1)); have hbs2 := HR2.out.size; clear hown2 hgrow2)
            | (at_builtin; refine wpList_append_int rfl _ _ rfl w1.heap.size _ _ rfl (World.ownsRow.alloc HO72.out _) _ (k : Int) rfl (cell_int1 _ _) (by omega) (by simp; omega) ?_; intro v7' w6 hown3 hgrow3; have HO73 := hide hown3; have HO63 := hide (Own.kept HO62.out HO72.out hgrow3); have HR3 := hide ((HR2.out.alloc hbs2 (.cells #[.int .i64 (k : Int)] 3)).grown hgrow3 (by simp; omega) (fun j hj => (HO72.out.lt j hj).1)); clear hown3 hgrow3)
            | fail)
          go_roundw
          case rel => exact ⟨b, hb2, rfl, HW.out.2, by rw [HW.out.1, List.map_append]; exact HO63.out, by rw [HW.out.1, List.map_append]; exact HO73.out, HR3.out⟩
          case measure => simp [intOf]; omega
        · have HT1 : Hid (Lat.tok s (k + 1) = ((Lat.tok s k).1, false)) := hide (by rw [Lat.tok, HB.out, c1]; simp)
          go_wp2
          go_roundw
          case rel => exact ⟨k + 1, by omega, by go_num, (fun h => by rw [HT1.out] at h; cases h), by rw [HT1.out]; exact HO6.out, by rw [HT1.out]; exact HO7.out, HNX.out⟩
          case measure => simp [intOf]; omega
      · have e : k = s.size := by omega
        subst e
        have hlen := (tok_inv s s.size).1
        have HS := hide (HO6.out.strsC (fun t ht => by
          obtain ⟨p, _, rfl⟩ := List.mem_map.1 ht
          unfold Lat.ext maxLen
          rw [ByteArray.size_extract]; omega) (by rw [List.length_map]; omega))
        have HI := hide (HO7.out.ints (by rw [List.length_map]; omega))
        clear hlen
        go_wp2
        (try simp only [Exit.inBlock, Exit.then])
        refine bodyPost_ret (results_tmp4 rfl _ _ _) rfl ?_
        exact ⟨_, _, ret4 (by rw [HE1.out]; rfl) (by rw [HE2.out]), by rw [HE3.out]; exact HS.out, by rw [HE4.out]; exact HI.out, by rw [HE4.out]; exact HO7.out, by rw [HE3.out]; exact HO6.out, HNX.out⟩

theorem words_any (w : World) (s : ByteArray) (hs : s.size ≤ maxLen) :
    Calls Tryz.prog 10 #[.string s] w fun e w' => ∃ v6 v7, e = .returned (.tuple #[v6, v7, .int .i64 (Lat.wn s), .int .i64 (Lat.we s)]) ∧ StrsC w' v6 (Lat.wds s) ∧ Ints w' v7 (Lat.wats s) ∧ Below w.heap.size w w' :=
  (words_own w s hs).mono fun _ _ ⟨v6, v7, h1, h2, h3, _, _, h5⟩ => ⟨v6, v7, h1, h2, h3, h5⟩

end Go.Proofs.YthcckfofpocbhabGreatDoor

/- Words, with a blank between, are the same words: plain mathematics. -/
namespace Go.Proofs.YthcckfofpocbhabGreatDoor
open Go.RowKit

namespace Lat
def wstep (st : List (List UInt8) × Bool) (b : UInt8) : List (List UInt8) × Bool :=
  if blankN b.toNat then (st.1, false)
  else if brackN b.toNat then (st.1 ++ [[b]], false)
  else if st.2 then (st.1.dropLast ++ [st.1.getLastD [] ++ [b]], true)
  else (st.1 ++ [[b]], true)
def wfold (l : List UInt8) : List (List UInt8) × Bool := l.foldl wstep ([], false)
def longW (l : List UInt8) : Prop := l ≠ [] ∧ ∀ b ∈ l, blankN b.toNat = false ∧ brackN b.toNat = false ∧ longN b.toNat = true
def wordW (l : List UInt8) : Prop := (∃ b, l = [b] ∧ blankN b.toNat = false ∧ brackN b.toNat = true) ∨ longW l
def okN (n : Nat) : Bool := blankN n || brackN n || longN n
end Lat

theorem ext_list (s : ByteArray) (a b : Nat) : (Lat.ext s (a, b)).data.toList = (s.data.toList.take b).drop a := by
  unfold Lat.ext
  rw [ByteArray.data_extract]
  simp [List.drop_take]

theorem tok_fold (s : ByteArray) : ∀ k, k ≤ s.size → ((Lat.tok s k).1.map fun p => (Lat.ext s p).data.toList) = (Lat.wfold (s.data.toList.take k)).1 ∧ (Lat.tok s k).2 = (Lat.wfold (s.data.toList.take k)).2
  | 0, _ => ⟨rfl, rfl⟩
  | k + 1, hk => by
    obtain ⟨h1, h2⟩ := tok_fold s k (by omega)
    have hkl : k < s.data.toList.length := by rw [size_list]; omega
    have e : Lat.wfold (s.data.toList.take (k + 1)) = Lat.wstep (Lat.wfold (s.data.toList.take k)) s.data.toList[k] := by
      unfold Lat.wfold
      rw [List.take_succ_eq_append_getElem hkl, List.foldl_append]; rfl
    have hb : Lat.bt s k = (s.data.toList[k]).toNat := by
      unfold Lat.bt; rw [List.getD, List.getElem?_eq_getElem hkl]; rfl
    have e1 : (Lat.ext s (k, k + 1)).data.toList = [s.data.toList[k]] := by
      rw [ext_list s, List.take_succ_eq_append_getElem hkl]
      exact List.drop_left' (by rw [List.length_take]; omega)
    rw [e]
    unfold Lat.wstep
    simp only [Lat.tok]
    rw [hb, h2]
    split
    · exact ⟨h1, rfl⟩
    · split
      · refine ⟨?_, rfl⟩
        rw [List.map_append, h1]
        simp only [List.map_cons, List.map_nil, e1]
      · split
        · rename_i ho
          rw [← h2] at ho
          obtain ⟨L, a, eL⟩ := (tok_inv s k).2.2 ho
          have ha := (tok_inv s k).2.1 (a, k) (by rw [eL]; simp)
          refine ⟨?_, rfl⟩
          rw [← h1, eL]
          simp only [List.dropLast_concat, List.getLastD_concat, List.map_append, List.map_cons, List.map_nil]
          congr 2
          rw [← ext_grow s a k (by simp only at ha; omega)]
          rw [ByteArray.data_append, Array.toList_append]
          congr 1
        · refine ⟨?_, rfl⟩
          rw [List.map_append, h1]
          simp only [List.map_cons, List.map_nil, e1]

theorem fold_words : ∀ (l : List UInt8), (∀ b ∈ l, Lat.okN b.toNat = true) → (∀ x ∈ (Lat.wfold l).1, Lat.wordW x) ∧ ((Lat.wfold l).2 = true → ∃ L x, (Lat.wfold l).1 = L ++ [x] ∧ Lat.longW x) := by
  suffices H : ∀ m : List UInt8, (∀ b ∈ m.reverse, Lat.okN b.toNat = true) → (∀ x ∈ (Lat.wfold m.reverse).1, Lat.wordW x) ∧ ((Lat.wfold m.reverse).2 = true → ∃ L x, (Lat.wfold m.reverse).1 = L ++ [x] ∧ Lat.longW x) by
    intro l hl
    have := H l.reverse (by rw [List.reverse_reverse]; exact hl)
    rw [List.reverse_reverse] at this
    exact this
  intro m
  induction m
  case nil => exact fun _ => ⟨fun x hx => absurd hx (by simp [Lat.wfold]), fun h => absurd h (by simp [Lat.wfold])⟩
  rename_i b m ih
  rw [List.reverse_cons]
  intro hok
  generalize m.reverse = l at *
  obtain ⟨h1, h2⟩ := ih (fun c hc => hok c (by simp [hc]))
  have hb := hok b (by simp)
  have e : Lat.wfold (l ++ [b]) = Lat.wstep (Lat.wfold l) b := by unfold Lat.wfold; rw [List.foldl_append]; rfl
  rw [e]
  unfold Lat.wstep
  cases hbl : Lat.blankN b.toNat
  · cases hbr : Lat.brackN b.toNat
    · have hlg : Lat.longN b.toNat = true := by
        unfold Lat.okN at hb
        rw [hbl, hbr] at hb
        simpa using hb
      rw [if_neg (by simp), if_neg (by simp)]
      cases ho : (Lat.wfold l).2
      · rw [if_neg (by simp)]
        have hx : Lat.longW [b] := ⟨by simp, fun c hc => by rw [List.mem_singleton] at hc; subst hc; exact ⟨hbl, hbr, hlg⟩⟩
        refine ⟨fun x hxm => ?_, fun _ => ⟨_, _, rfl, hx⟩⟩
        rcases List.mem_append.1 hxm with hxm | hxm
        · exact h1 x hxm
        · rw [List.mem_singleton] at hxm; subst hxm; exact Or.inr hx
      · rw [if_pos rfl]
        obtain ⟨L, y, eL, hy⟩ := h2 ho
        rw [eL] at h1 ⊢
        simp only [List.dropLast_concat, List.getLastD_concat]
        have hx : Lat.longW (y ++ [b]) := ⟨by simp, fun c hc => by
          rcases List.mem_append.1 hc with hc | hc
          · exact hy.2 c hc
          · rw [List.mem_singleton] at hc; subst hc; exact ⟨hbl, hbr, hlg⟩⟩
        refine ⟨fun x hxm => ?_, fun _ => ⟨_, _, rfl, hx⟩⟩
        rcases List.mem_append.1 hxm with hxm | hxm
        · exact h1 x (List.mem_append_left _ hxm)
        · rw [List.mem_singleton] at hxm; subst hxm; exact Or.inr hx
    · rw [if_neg (by simp), if_pos rfl]
      refine ⟨fun x hxm => ?_, fun h => by cases h⟩
      rcases List.mem_append.1 hxm with hxm | hxm
      · exact h1 x hxm
      · rw [List.mem_singleton] at hxm; subst hxm; exact Or.inl ⟨b, rfl, hbl, hbr⟩
  · rw [if_pos rfl]
    exact ⟨h1, fun h => by cases h⟩

theorem fold_open : ∀ (x : List UInt8) (acc : List (List UInt8)) (y : List UInt8), (∀ b ∈ x, Lat.blankN b.toNat = false ∧ Lat.brackN b.toNat = false) → x.foldl Lat.wstep (acc ++ [y], true) = (acc ++ [y ++ x], true)
  | [], acc, y, _ => by simp
  | b :: x, acc, y, h => by
    obtain ⟨hb1, hb2⟩ := h b (by simp)
    rw [List.foldl_cons]
    have e : Lat.wstep (acc ++ [y], true) b = (acc ++ [y ++ [b]], true) := by
      unfold Lat.wstep
      rw [if_neg (by simp [hb1]), if_neg (by simp [hb2]), if_pos rfl]
      simp
    rw [e, fold_open x acc (y ++ [b]) (fun c hc => h c (by simp [hc]))]
    simp
theorem fold_word (x : List UInt8) (acc : List (List UInt8)) (h : Lat.wordW x) : ∃ o, x.foldl Lat.wstep (acc, false) = (acc ++ [x], o) := by
  rcases h with ⟨b, rfl, hb1, hb2⟩ | ⟨hne, hx⟩
  · refine ⟨false, ?_⟩
    rw [List.foldl_cons, List.foldl_nil]
    unfold Lat.wstep
    rw [if_neg (by simp [hb1]), if_pos hb2]
  · cases x with
    | nil => exact absurd rfl hne
    | cons b x =>
      obtain ⟨hb1, hb2, _⟩ := hx b (by simp)
      refine ⟨true, ?_⟩
      rw [List.foldl_cons]
      have e : Lat.wstep (acc, false) b = (acc ++ [[b]], true) := by
        unfold Lat.wstep
        rw [if_neg (by simp [hb1]), if_neg (by simp [hb2]), if_neg (by simp)]
      rw [e, fold_open x acc [b] (fun c hc => ⟨(hx c (by simp [hc])).1, (hx c (by simp [hc])).2.1⟩)]
      rfl
theorem fold_tail : ∀ (r : List (List UInt8)) (acc : List (List UInt8)) (o : Bool), (∀ x ∈ r, Lat.wordW x) → ((Lib.joinTail [32] r).foldl Lat.wstep (acc, o)).1 = acc ++ r
  | [], acc, o, _ => by simp [Lib.joinTail]
  | x :: r, acc, o, h => by
    have e : Lib.joinTail [32] (x :: r) = 32 :: (x ++ Lib.joinTail [32] r) := by simp [Lib.joinTail]
    rw [e, List.foldl_cons, List.foldl_append]
    have e2 : Lat.wstep (acc, o) 32 = (acc, false) := by
      unfold Lat.wstep; rw [if_pos (by decide)]
    obtain ⟨o', e3⟩ := fold_word x acc (h x (by simp))
    rw [e2, e3, fold_tail r _ _ (fun y hy => h y (by simp [hy]))]
    simp
theorem fold_join (r : List (List UInt8)) (h : ∀ x ∈ r, Lat.wordW x) : (Lat.wfold (Lib.join r [32])).1 = r := by
  unfold Lat.wfold
  cases r with
  | nil => rfl
  | cons x r =>
    rw [Lib.join_cons, List.foldl_append]
    obtain ⟨o', e3⟩ := fold_word x [] (h x (by simp))
    rw [e3, fold_tail r _ _ (fun y hy => h y (by simp [hy]))]
    rfl
theorem word_ok {x : List UInt8} (h : Lat.wordW x) : ∀ b ∈ x, Lat.okN b.toNat = true := by
  intro b hb
  unfold Lat.okN
  rcases h with ⟨c, rfl, _, h2⟩ | ⟨_, hx⟩
  · rw [List.mem_singleton] at hb; subst hb; rw [h2]; simp
  · rw [(hx b hb).2.2]; simp
theorem tail_ok : ∀ (r : List (List UInt8)), (∀ x ∈ r, Lat.wordW x) → ∀ b ∈ Lib.joinTail [32] r, Lat.okN b.toNat = true
  | [], _, b, hb => by simp [Lib.joinTail] at hb
  | x :: r, h, b, hb => by
    have e : Lib.joinTail [32] (x :: r) = 32 :: (x ++ Lib.joinTail [32] r) := by simp [Lib.joinTail]
    rw [e] at hb
    rcases List.mem_cons.1 hb with rfl | hb
    · decide
    · rcases List.mem_append.1 hb with hb | hb
      · exact word_ok (h x (by simp)) b hb
      · exact tail_ok r (fun y hy => h y (by simp [hy])) b hb
theorem join_ok (r : List (List UInt8)) (h : ∀ x ∈ r, Lat.wordW x) : ∀ b ∈ Lib.join r [32], Lat.okN b.toNat = true := by
  cases r with
  | nil => intro b hb; simp [Lib.join_nil] at hb
  | cons x r =>
    intro b hb
    rw [Lib.join_cons] at hb
    rcases List.mem_append.1 hb with hb | hb
    · exact word_ok (h x (by simp)) b hb
    · exact tail_ok r (fun y hy => h y (by simp [hy])) b hb

theorem bad_none {s : ByteArray} : Lat.badAt s = none ↔ ∀ b ∈ s.data.toList, Lat.okN b.toNat = true := by
  constructor
  · intro h b hb
    obtain ⟨k, hk, rfl⟩ := List.mem_iff_getElem.1 hb
    have h1 := List.find?_eq_none.1 h k (List.mem_range.2 (by rw [size_list] at hk; exact hk))
    have h2 : Lat.okAt s k = true := by simpa using h1
    have hbt : Lat.bt s k = (s.data.toList[k]).toNat := by
      unfold Lat.bt; rw [List.getD, List.getElem?_eq_getElem hk]; rfl
    unfold Lat.okAt at h2
    rw [hbt] at h2
    exact h2
  · intro h
    refine Lat.find_none (fun k hk => ?_)
    have hk' : k < s.data.toList.length := by rw [size_list]; exact hk
    have hbt : Lat.bt s k = (s.data.toList[k]).toNat := by
      unfold Lat.bt; rw [List.getD, List.getElem?_eq_getElem hk']; rfl
    have := h s.data.toList[k] (List.getElem_mem hk')
    unfold Lat.okAt
    rw [hbt]
    unfold Lat.okN at this
    rw [this]; rfl

/-- The words of a text, as lists of bytes. -/
theorem wds_fold {s : ByteArray} (h1 : ¬ 4096 < s.size) (h2 : Lat.badAt s = none) : (Lat.wds s).map (·.data.toList) = (Lat.wfold s.data.toList).1 := by
  unfold Lat.wds
  rw [if_neg h1, h2]
  simp only [List.map_map]
  have := (tok_fold s s.size (Nat.le_refl _)).1
  rw [List.take_of_length_le (by rw [size_list]; exact Nat.le_refl _)] at this
  exact this
theorem bytes_inj : ∀ {a b : List ByteArray}, a.map (·.data.toList) = b.map (·.data.toList) → a = b
  | [], [], _ => rfl
  | [], y :: b, h => by simp at h
  | x :: a, [], h => by simp at h
  | x :: a, y :: b, h => by
    simp only [List.map_cons, List.cons.injEq] at h
    obtain ⟨h1, h2⟩ := h
    rw [bytes_inj h2]
    congr 1
    cases x with | mk x => cases y with | mk y => congr 1; exact Array.toList_inj.1 h1
/-- Words, with a blank between, are the same words. -/
theorem words_back {s t : ByteArray} (he : Lat.we s = 0) (ht : t.data.toList = Lib.join ((Lat.wds s).map (·.data.toList)) [32]) (h4 : ¬ 4096 < t.size) : Lat.we t = 0 ∧ Lat.wds t = Lat.wds s := by
  have h1 : ¬ 4096 < s.size := by
    intro h
    unfold Lat.we at he
    rw [if_pos h] at he
    cases he
  have h2 : Lat.badAt s = none := by
    unfold Lat.we at he
    rw [if_neg h1] at he
    cases hb : Lat.badAt s with
    | none => rfl
    | some k => rw [hb] at he; simp at he
  have hf := wds_fold h1 h2
  have hw : ∀ x ∈ (Lat.wds s).map (·.data.toList), Lat.wordW x := by
    rw [hf]
    exact (fold_words _ (bad_none.1 h2)).1
  have hb : Lat.badAt t = none := bad_none.2 (by rw [ht]; exact join_ok _ hw)
  refine ⟨by unfold Lat.we; rw [if_neg h4, hb]; rfl, bytes_inj ?_⟩
  rw [wds_fold h4 hb, ht, fold_join _ hw]

end Go.Proofs.YthcckfofpocbhabGreatDoor

/- A walk over package downref: sameExpr answers true of two expressions that are the same. (sameBody and SameModule are still to be typed.) -/
namespace Go.Proofs.YthcckfofpocbhabGreatDoor
open Go.RowKit

section
variable (w : World) (c0 c1 c2 c3 d0 d1 d2 d3 : Value) (t : TypeId)
theorem twoB : Below w.heap.size w ((w.alloc (.cells #[c0, c1, c2, c3] t)).alloc (.cells #[d0, d1, d2, d3] t)) := up (boxBelow _ _) (boxBelow _ _)
end

/-- Where a list of expressions lies. -/
def ExsAt (w : World) (m : Nat) (v : Value) (l : List Ex) : Prop :=
  ∃ (a : Option Addr) (b off cap : Nat), v = .slice a l.length cap ∧ (0 < l.length → a = some ⟨b, off, none⟩) ∧ l.length ≤ 9223372036854775807 ∧
    ∀ i y, l[i]? = some y → ∃ e0 e1 e2 e3, w.cell? ⟨b, off + i * 4, none⟩ = some e0 ∧ w.cell? ⟨b, off + i * 4 + 1, none⟩ = some e1 ∧ w.cell? ⟨b, off + i * 4 + 2, none⟩ = some e2 ∧ w.cell? ⟨b, off + i * 4 + 3, none⟩ = some e3 ∧ ExAt w m e0 e1 e2 e3 y
theorem ExsAt.below {w w' : World} {m : Nat} {v : Value} {l : List Ex} (h : ExsAt w m v l) (hb : Below w.heap.size w w') : ExsAt w' m v l := by
  obtain ⟨a, b, off, cap, e, h0, hl, h1⟩ := h
  refine ⟨a, b, off, cap, e, h0, hl, fun i y hy => ?_⟩
  obtain ⟨e0, e1, e2, e3, g0, g1, g2, g3, hx⟩ := h1 i y hy
  exact ⟨e0, e1, e2, e3, cellUp g0 hb, cellUp g1 hb, cellUp g2 hb, cellUp g3 hb, hx.below hb⟩

set_option maxHeartbeats 2000000 in
set_option maxRecDepth 100000 in
theorem eqfE_of (m : Nat) (hi : ∀ (w : World) (c0 c1 c2 c3 d0 d1 d2 d3 : Value) (x : Ex), ExAt w m c0 c1 c2 c3 x → ExAt w m d0 d1 d2 d3 x →
      Calls Tryz.prog 19 #[.agg #[c0, c1, c2, c3], .agg #[d0, d1, d2, d3]] w fun e w' => e = .returned (.bool true) ∧ Below w.heap.size w w')
    (w : World) (v v' : Value) (l : List Ex) (h : ExsAt w m v l) (h' : ExsAt w m v' l) :
    Calls Tryz.prog 42 #[v, v', .func (.func 19) #[] #[]] w fun e w' => e = .returned (.bool true) ∧ Below w.heap.size w w' := by
  have HI := hide hi
  clear hi
  obtain ⟨a, b, off, cap, rfl, ha, hl, hel⟩ := h
  obtain ⟨a', b', off', cap', rfl, ha', _, hel'⟩ := h'
  have HEL := hide hel
  have HA := hide ha
  have HEL' := hide hel'
  have HA' := hide ha'
  clear hel ha hel' ha'
  obtain ⟨len, hlen⟩ : ∃ len, len = l.length := ⟨_, rfl⟩
  have HL := hide hlen
  rw [← hlen] at hl HA HA' ⊢
  clear hlen
  go_enter Tryz.func42, Tryz.ntmps42
  go_wp2
  go_loopw [17] (fun i wr => ∃ j : Nat, j ≤ len ∧ i = .int .i64 j ∧ Below w.heap.size w wr) (fun i _ => len - (intOf i).toNat)
  case atStart => exact ⟨0, Nat.zero_le _, rfl, Below.refl _ _⟩
  case round =>
    obtain ⟨j, hj, rfl, hnx⟩ := hrel
    by_cases hjl : j < len
    · obtain ⟨y, hy⟩ : ∃ y, l[j]? = some y := ⟨_, List.getElem?_eq_getElem (by rw [← HL.out]; exact hjl)⟩
      obtain ⟨e0, e1, e2, e3, g0, g1, g2, g3, hye⟩ := HEL.out j y hy
      obtain ⟨f0, f1, f2, f3, k0, k1, k2, k3, hyf⟩ := HEL'.out j y hy
      obtain rfl := HA.out (by omega)
      obtain rfl := HA'.out (by omega)
      have u0 := cellUp g0 hnx
      have u1 := cellUp g1 hnx
      have u2' := cellUp g2 hnx
      have u3' := cellUp g3 hnx
      have z0 := cellUp k0 (up hnx (boxBelow wr (.cells #[e0, e1, e2, e3] 52)))
      have z1 := cellUp k1 (up hnx (boxBelow wr (.cells #[e0, e1, e2, e3] 52)))
      have z2 := cellUp k2 (up hnx (boxBelow wr (.cells #[e0, e1, e2, e3] 52)))
      have z3 := cellUp k3 (up hnx (boxBelow wr (.cells #[e0, e1, e2, e3] 52)))
      have HYE := hide (hye.below hnx)
      have HYF := hide (hyf.below hnx)
      obtain ⟨ax, cx, rfl, rfl, rfl, rfl⟩ := hye.shape
      obtain ⟨ay, cy, rfl, rfl, rfl, rfl⟩ := hyf.shape
      have HNX := hide hnx
      clear g0 g1 g2 g3 k0 k1 k2 k3 hye hyf hy hnx
      go_wp2_with fail
      refine (HI.out _ _ _ _ _ _ _ _ _ y (HYE.out.below (up (boxBelow _ _) (boxBelow _ _))) (HYF.out.below (up (boxBelow _ _) (boxBelow _ _)))).mono ?_
      rintro e w5 ⟨rfl, hb5⟩
      have HN5 := hide (up HNX.out (up1 (up1 hb5)))
      clear hb5 HNX
      go_wp2
      go_roundw
      case rel => exact ⟨j + 1, by omega, by go_num, HN5.out⟩
      case measure => simp [intOf]; omega
    · go_wp2
      go_ret
      exact ⟨rfl, hnx⟩

set_option maxHeartbeats 2000000 in
set_option maxRecDepth 100000 in
theorem sameExpr_any (m : Nat) : ∀ (w : World) (c0 c1 c2 c3 d0 d1 d2 d3 : Value) (x : Ex), ExAt w m c0 c1 c2 c3 x → ExAt w m d0 d1 d2 d3 x →
    Calls Tryz.prog 19 #[.agg #[c0, c1, c2, c3], .agg #[d0, d1, d2, d3]] w fun e w' => e = .returned (.bool true) ∧ Below w.heap.size w w' := by
  induction m with
  | zero => intro w c0 c1 c2 c3 d0 d1 d2 d3 x h; exact False.elim h
  | succ m ih =>
    intro w c0 c1 c2 c3 d0 d1 d2 d3 x h h'
    have HI := hide (eqfE_of m ih)
    clear ih
    obtain ⟨rfl, rfl, rfl, hsz, hk1, hk2, a, b, off, cap, rfl, ha, hl, hel⟩ := h
    obtain ⟨rfl, rfl, rfl, _, _, _, a', b', off', cap', rfl, ha', _, hel'⟩ := h'
    obtain ⟨k, n, s, args⟩ := x
    simp only at hsz hk1 hk2 ha hl hel ha' hel' ⊢
    have HX : Hid (ExsAt w m (.slice a args.length cap) args) := hide ⟨a, b, off, cap, rfl, ha, hl, hel⟩
    have HX' : Hid (ExsAt w m (.slice a' args.length cap') args) := hide ⟨a', b', off', cap', rfl, ha', hl, hel'⟩
    clear hel ha hel' ha'
    generalize args.length = len at *
    have HB0 := hide (twoB w (.int .i64 k) (.int .i64 n) (.string s) (.slice a len cap) (.int .i64 k) (.int .i64 n) (.string s) (.slice a' len cap') 52)
    have e1 : (k == k) = true := by simp
    have e2 : (n == n) = true := by simp
    go_enter Tryz.func19, Tryz.ntmps19
    go_wp2_with fail
    refine (HI.out _ _ _ args (HX.out.below HB0.out) (HX'.out.below HB0.out)).mono ?_
    rintro e w5 ⟨rfl, hb5⟩
    have HN5 := hide (up HB0.out hb5)
    clear hb5
    go_wp2
    go_ret
    exact ⟨rfl, HN5.out⟩

end Go.Proofs.YthcckfofpocbhabGreatDoor

/- Reading modules, as plain functions of the words that are left. -/
namespace Go.Proofs.YthcckfofpocbhabGreatDoor
open Go.RowKit

namespace Rd
/-- Where a reader stands: the words that are left, and has one failed? -/
structure Sr where
  r : List ByteArray
  f : Bool

def is (w : ByteArray) (l : List UInt8) : Bool := w.data.toList == l
def pkN (st : Sr) (n : Nat) : ByteArray := if st.f then ⟨#[]⟩ else st.r.getD n ⟨#[]⟩
def pk (st : Sr) : ByteArray := pkN st 0
def fl (st : Sr) : Sr := ⟨st.r, true⟩
def tk (st : Sr) : Sr := if is (pk st) [] then fl st else ⟨st.r.tail, st.f⟩
def kw (l : List UInt8) (st : Sr) : Sr := if is (pk st) l then tk st else fl st
def mx (d : Nat) (st : Sr) : Sr := if d = 20 then fl st else st
def op (d : Nat) (st : Sr) : Sr := kw [40] (mx d st)
def sh (st : Sr) : Sr := kw [41] st
def plain (w : ByteArray) : Bool := !is w [] && !is w [40] && !is w [41]
def nm (st : Sr) : Sr := if plain (pk st) then st else fl st
def digitB (c : UInt8) : Bool := decide (48 ≤ c.toNat) && decide (c.toNat ≤ 57)
def digs (w : ByteArray) : Bool := w.data.toList.all digitB && !is w []
def badN (w : ByteArray) : Bool := decide (6 < w.size) || (decide (1 < w.size) && (w.data.toList.getD 0 0 == 48))
def nu (st : Sr) : Sr := if badN (pk st) then fl st else st
def numV (w : ByteArray) : Int := (Lib.atoi w.data.toList).getD 0
def opc (w : ByteArray) : Bool := is w [43] || is w [45] || is w [42] || is w [60] || is w [61]
def cmd (w : ByteArray) : Int := if is w [115, 101, 116] then 1 else if is w [105, 102] then 2 else if is w [119, 104, 105, 108, 101] then 3 else if is w [112, 114, 105, 110, 116] then 4 else 0

/-- As long as c holds, one after another. -/
def loop {α : Type} (c : Sr → Bool) (g : Sr → α × Sr) : Nat → Sr → List α × Sr
  | 0, st => ([], st)
  | n + 1, st => if c st then ((g st).1 :: (loop c g n (g st).2).1, (loop c g n (g st).2).2) else ([], st)

def brc (st : Sr) : Bool := is (pk st) [40]
def plc (st : Sr) : Bool := plain (pk st)
def argc (st : Sr) : Bool := is (pk st) [40] || plain (pk st)
def bodyc (st : Sr) : Bool := is (pk st) [40] && decide (cmd (pkN st 1) ≠ 0)

def nmP (st : Sr) : ByteArray × Sr := (pk (nm st), tk (nm st))
def nmE (st : Sr) : Ex × Sr := (⟨2, 0, pk (nm st), []⟩, tk (nm st))
def nuE (st : Sr) : Ex × Sr := (⟨1, numV (pk (nu st)), ⟨#[]⟩, []⟩, tk (nu st))
def opE (pe : Sr → Ex × Sr) (s1 : Sr) : Ex × Sr := (⟨3, 0, pk s1, [(pe (tk s1)).1, (pe (pe (tk s1)).2).1]⟩, sh (pe (pe (tk s1)).2).2)
def caE (pe : Sr → Ex × Sr) (n : Nat) (s2 : Sr) : Ex × Sr := (⟨4, 0, pk (nm s2), (loop argc pe n (tk (nm s2))).1⟩, sh (loop argc pe n (tk (nm s2))).2)
def cE (pe : Sr → Ex × Sr) (n d : Nat) (st : Sr) : Ex × Sr :=
  if opc (pk (op d st)) then opE pe (op d st)
  else if is (pk (op d st)) [99, 97, 108, 108] then caE pe n (tk (op d st))
  else (⟨0, 0, ⟨#[]⟩, []⟩, sh (fl (op d st)))
/-- expr. -/
def pE : Nat → Nat → Sr → Ex × Sr
  | 0, _, st => nmE st
  | k + 1, d, st => if is (pk st) [40] then cE (pE k (d + 1)) k d st else if digs (pk st) then nuE st else nmE st

def blk (g : Sr → St × Sr) (n d : Nat) (st : Sr) : List St × Sr := ((loop brc g n (op d st)).1, sh (loop brc g n (op d st)).2)
def s2 (d : Nat) (st : Sr) : Sr := if cmd (pk (op d st)) = 0 then fl (op d st) else op d st
def s3 (d : Nat) (st : Sr) : Sr := tk (s2 d st)
def naB (kd : Int) : Bool := decide (kd = 1) || decide (kd = 4)
def s4 (d : Nat) (st : Sr) : ByteArray × Sr := if naB (cmd (pk (op d st))) then nmP (s3 d st) else (⟨#[]⟩, s3 d st)
def aB (kd : Int) : Bool := decide (kd = 2) || decide (kd = 3)
/-- command. -/
def pS (K : Nat) : Nat → Nat → Sr → St × Sr
  | 0, _, st => (⟨0, ⟨#[]⟩, ⟨0, 0, ⟨#[]⟩, []⟩, [], []⟩, st)
  | k + 1, d, st =>
    let kd := cmd (pk (op d st))
    let e := pE K (d + 1) (s4 d st).2
    let a := if aB kd then blk (pS K k (d + 2)) k (d + 1) e.2 else ([], e.2)
    let b := if kd = 2 then blk (pS K k (d + 2)) k (d + 1) a.2 else ([], a.2)
    (⟨kd, (s4 d st).1, e.1, a.1, b.1⟩, sh b.2)

def pars (n d : Nat) (st : Sr) : List ByteArray × Sr := ((loop plc nmP n (op d st)).1, sh (loop plc nmP n (op d st)).2)
/-- fun. -/
def pF (K d : Nat) (st : Sr) : Fu × Sr :=
  let ps := pars K d (nmP st).2
  let b := loop bodyc (pS K K d) K ps.2
  let e := pE K d b.2
  (⟨(nmP st).1, ps.1, b.1, e.1⟩, e.2)
def pV (st : Sr) : Va × Sr := (⟨(nmP st).1, (nmP (nmP st).2).1⟩, (nmP (nmP st).2).2)
/-- item. -/
def pI (K d : Nat) (m : Mo) (st : Sr) : Mo × Sr :=
  if is (pk (op d st)) [105, 109, 112, 111, 114, 116] then ({ m with imports := m.imports ++ [(nmP (tk (op d st))).1] }, sh (nmP (tk (op d st))).2)
  else if is (pk (op d st)) [118, 97, 114] then ({ m with vars := m.vars ++ [(pV (tk (op d st))).1] }, sh (pV (tk (op d st))).2)
  else if is (pk (op d st)) [102, 117, 110] then ({ m with funs := m.funs ++ [(pF K (d + 1) (tk (op d st))).1] }, sh (pF K (d + 1) (tk (op d st))).2)
  else (m, sh (fl (op d st)))
def pIs (K d : Nat) : Nat → Mo → Sr → Mo × Sr
  | 0, m, st => (m, st)
  | n + 1, m, st => if brc st then pIs K d n (pI K d m st).1 (pI K d m st).2 else (m, st)
def m1 (st : Sr) : Sr := kw [109, 111, 100, 117, 108, 101] (op 0 st)
/-- module. -/
def pM (K : Nat) (st : Sr) : Mo × Sr :=
  let x := pIs K 1 K ⟨(nmP (m1 st)).1, [], [], []⟩ (nmP (m1 st)).2
  (x.1, sh x.2)
def pEnd (st : Sr) : Sr := if is (pk st) [] then st else fl st

/-! ### What is left grows never; what goes on without a failure takes a word. -/
/-- st' comes behind st: a failure stays, and no word comes back. -/
def Le (st' st : Sr) : Prop := (st.f = true → st'.f = true) ∧ st'.r.length ≤ st.r.length
/-- st' failed, or has a word less. -/
def Lt (st' st : Sr) : Prop := Le st' st ∧ (st'.f = true ∨ st'.r.length < st.r.length)
theorem Le.refl (st : Sr) : Le st st := ⟨id, Nat.le_refl _⟩
theorem Le.trans {a b c : Sr} (h : Le a b) (k : Le b c) : Le a c := ⟨fun e => h.1 (k.1 e), Nat.le_trans h.2 k.2⟩
theorem Lt.le {a b : Sr} (h : Lt a b) : Le a b := h.1
theorem Lt.trans_le {a b c : Sr} (h : Lt a b) (k : Le b c) : Lt a c := ⟨h.1.trans k, h.2.elim Or.inl (fun e => Or.inr (Nat.lt_of_lt_of_le e k.2))⟩
theorem Le.trans_lt {a b c : Sr} (h : Le a b) (k : Lt b c) : Lt a c := ⟨h.trans k.1, k.2.elim (fun e => Or.inl (h.1 e)) (fun e => Or.inr (Nat.lt_of_le_of_lt h.2 e))⟩
theorem fl_le (st : Sr) : Le (fl st) st := ⟨fun _ => rfl, Nat.le_refl _⟩
theorem fl_lt (st : Sr) : Lt (fl st) st := ⟨fl_le st, Or.inl rfl⟩
theorem pk_failed {st : Sr} (h : st.f = true) (n : Nat) : pkN st n = ⟨#[]⟩ := by unfold pkN; rw [if_pos h]
theorem is_self (w : ByteArray) : is w w.data.toList = true := by simp [is]
theorem tk_lt (st : Sr) : Lt (tk st) st := by
  unfold tk
  split
  · exact fl_lt st
  · rename_i h
    refine ⟨⟨id, by simp⟩, ?_⟩
    cases hr : st.r with
    | nil =>
      exfalso; apply h
      unfold pk pkN
      rw [hr]
      cases st.f <;> rfl
    | cons a l => right; simp
theorem kw_lt (l : List UInt8) (st : Sr) : Lt (kw l st) st := by
  unfold kw
  split
  · exact tk_lt st
  · exact fl_lt st
theorem mx_le (d : Nat) (st : Sr) : Le (mx d st) st := by
  unfold mx
  split
  · exact fl_le st
  · exact Le.refl st
theorem op_lt (d : Nat) (st : Sr) : Lt (op d st) st := (kw_lt _ _).trans_le (mx_le d st)
theorem sh_lt (st : Sr) : Lt (sh st) st := kw_lt _ _
theorem nm_le (st : Sr) : Le (nm st) st := by
  unfold nm
  split
  · exact Le.refl st
  · exact fl_le st
theorem nmP_lt (st : Sr) : Lt (nmP st).2 st := (tk_lt _).trans_le (nm_le st)
theorem nu_le (st : Sr) : Le (nu st) st := by
  unfold nu
  split
  · exact fl_le st
  · exact Le.refl st
theorem nuE_lt (st : Sr) : Lt (nuE st).2 st := (tk_lt _).trans_le (nu_le st)
theorem nmE_lt (st : Sr) : Lt (nmE st).2 st := (tk_lt _).trans_le (nm_le st)
theorem loop_le {α : Type} {c : Sr → Bool} {g : Sr → α × Sr} (hg : ∀ st, Le (g st).2 st) : ∀ (n : Nat) (st : Sr), Le (loop c g n st).2 st
  | 0, st => Le.refl st
  | n + 1, st => by
    simp only [loop]
    split
    · exact (loop_le hg n _).trans (hg st)
    · exact Le.refl st
theorem cE_lt {pe : Sr → Ex × Sr} (hg : ∀ st, Lt (pe st).2 st) (n d : Nat) (st : Sr) : Lt (cE pe n d st).2 st := by
  unfold cE opE caE
  split
  · exact (((sh_lt _).trans_le (hg _).le).trans_le (hg _).le).trans_le ((tk_lt _).le.trans (op_lt d st).le)
  · split
    · exact ((sh_lt _).trans_le (loop_le (fun s => (hg s).le) _ _)).trans_le ((nmP_lt _).le.trans ((tk_lt _).le.trans (op_lt d st).le))
    · exact (sh_lt _).trans_le ((fl_le _).trans (op_lt d st).le)
theorem pE_lt : ∀ (k d : Nat) (st : Sr), Lt (pE k d st).2 st
  | 0, _, st => nmE_lt st
  | k + 1, d, st => by
    simp only [pE]
    split
    · exact cE_lt (pE_lt k (d + 1)) k d st
    · split
      · exact nuE_lt st
      · exact nmE_lt st
theorem blk_lt {g : Sr → St × Sr} (hg : ∀ st, Le (g st).2 st) (n d : Nat) (st : Sr) : Lt (blk g n d st).2 st :=
  ((sh_lt _).trans_le (loop_le hg _ _)).trans_le (op_lt d st).le
theorem s2_le (d : Nat) (st : Sr) : Le (s2 d st) (op d st) := by
  unfold s2
  split
  · exact fl_le _
  · exact Le.refl _
theorem s3_lt (d : Nat) (st : Sr) : Lt (s3 d st) (op d st) := (tk_lt _).trans_le (s2_le d st)
theorem s4_le (d : Nat) (st : Sr) : Le (s4 d st).2 (s3 d st) := by
  unfold s4
  split
  · exact (nmP_lt _).le
  · exact Le.refl _
theorem pS_le (K : Nat) : ∀ (k d : Nat) (st : Sr), Le (pS K k d st).2 st
  | 0, _, st => Le.refl st
  | k + 1, d, st => by
    simp only [pS]
    have h0 : Le (pE K (d + 1) (s4 d st).2).2 st := (pE_lt _ _ _).le.trans ((s4_le d st).trans ((s3_lt d st).le.trans (op_lt d st).le))
    refine (sh_lt _).le.trans ?_
    have ha : Le (if aB (cmd (pk (op d st))) then blk (pS K k (d + 2)) k (d + 1) (pE K (d + 1) (s4 d st).2).2 else ([], (pE K (d + 1) (s4 d st).2).2)).2 st := by
      split
      · exact (blk_lt (pS_le K k (d + 2)) _ _ _).le.trans h0
      · exact h0
    split
    · exact (blk_lt (pS_le K k (d + 2)) _ _ _).le.trans ha
    · exact ha
theorem pS_lt (K k d : Nat) (st : Sr) : Lt (pS K (k + 1) d st).2 st := by
  simp only [pS]
  have h0 : Lt (pE K (d + 1) (s4 d st).2).2 st := (pE_lt _ _ _).trans_le ((s4_le d st).trans ((s3_lt d st).le.trans (op_lt d st).le))
  refine (sh_lt _).le.trans_lt ?_
  have ha : Lt (if aB (cmd (pk (op d st))) then blk (pS K k (d + 2)) k (d + 1) (pE K (d + 1) (s4 d st).2).2 else ([], (pE K (d + 1) (s4 d st).2).2)).2 st := by
    split
    · exact (blk_lt (pS_le K k (d + 2)) _ _ _).le.trans_lt h0
    · exact h0
  split
  · exact (blk_lt (pS_le K k (d + 2)) _ _ _).le.trans_lt ha
  · exact ha
theorem pars_lt (n d : Nat) (st : Sr) : Lt (pars n d st).2 st := ((sh_lt _).trans_le (loop_le (fun s => (nmP_lt s).le) _ _)).trans_le (op_lt d st).le
theorem pF_lt (K d : Nat) (st : Sr) : Lt (pF K d st).2 st :=
  (pE_lt _ _ _).trans_le ((loop_le (fun s => pS_le K K d s) _ _).trans ((pars_lt _ _ _).le.trans (nmP_lt st).le))
theorem pV_lt (st : Sr) : Lt (pV st).2 st := (nmP_lt _).trans_le (nmP_lt st).le
theorem pI_lt (K d : Nat) (m : Mo) (st : Sr) : Lt (pI K d m st).2 st := by
  have h0 : Le (tk (op d st)) st := (tk_lt _).le.trans (op_lt d st).le
  have h1 := (sh_lt _).trans_le ((nmP_lt (tk (op d st))).le.trans h0)
  have h2 := (sh_lt _).trans_le ((pV_lt (tk (op d st))).le.trans h0)
  have h3 := (sh_lt _).trans_le ((pF_lt K (d + 1) (tk (op d st))).le.trans h0)
  have h4 := (sh_lt _).trans_le ((fl_le (op d st)).trans (op_lt d st).le)
  unfold pI
  cases is (pk (op d st)) [105, 109, 112, 111, 114, 116]
  · cases is (pk (op d st)) [118, 97, 114]
    · cases is (pk (op d st)) [102, 117, 110]
      · simp only [Bool.false_eq_true, if_false]; exact h4
      · simp only [Bool.false_eq_true, if_false, if_true]; exact h3
    · simp only [Bool.false_eq_true, if_false, if_true]; exact h2
  · simp only [if_true]; exact h1
theorem pIs_le (K d : Nat) : ∀ (n : Nat) (m : Mo) (st : Sr), Le (pIs K d n m st).2 st
  | 0, m, st => Le.refl st
  | n + 1, m, st => by
    simp only [pIs]
    split
    · exact (pIs_le K d n _ _).trans (pI_lt K d m st).le
    · exact Le.refl st
theorem m1_le (st : Sr) : Le (m1 st) st := (kw_lt _ _).le.trans (op_lt 0 st).le
theorem pM_le (K : Nat) (st : Sr) : Le (pM K st).2 st := (sh_lt _).le.trans ((pIs_le K 1 K _ _).trans ((nmP_lt _).le.trans (m1_le st)))

/-- Fuel k is enough. -/
def Ok (k : Nat) (st : Sr) : Prop := st.f = true ∨ st.r.length < k
theorem Ok.le {k : Nat} {a b : Sr} (h : Ok k b) (hl : Le a b) : Ok k a := h.elim (fun e => Or.inl (hl.1 e)) (fun e => Or.inr (Nat.lt_of_le_of_lt hl.2 e))
theorem Ok.lt {k : Nat} {a b : Sr} (h : Ok (k + 1) b) (hl : Lt a b) : Ok k a := by
  rcases h with h | h
  · exact Or.inl (hl.1.1 h)
  · exact hl.2.elim Or.inl (fun e => Or.inr (by omega))
theorem Ok.mono {k n : Nat} {a : Sr} (h : Ok k a) (hk : k ≤ n) : Ok n a := h.elim Or.inl (fun e => Or.inr (by omega))
theorem pk_ne {st : Sr} {n : Nat} {l : List UInt8} (h : is (pkN st n) l = true) (hl : l ≠ []) : st.f = false := by
  cases hf : st.f
  · rfl
  · rw [pk_failed hf] at h
    unfold is at h
    exact absurd (beq_iff_eq.1 h).symm hl
theorem plain_ne {st : Sr} (h : plain (pk st) = true) : st.f = false := by
  cases hf : st.f
  · rfl
  · unfold pk at h
    rw [pk_failed hf] at h
    cases h
theorem brc_ne {st : Sr} (h : brc st = true) : st.f = false := pk_ne (n := 0) h (by simp)
theorem argc_ne {st : Sr} (h : argc st = true) : st.f = false := by
  unfold argc at h
  rcases Bool.or_eq_true_iff.1 h with h | h
  · exact pk_ne (n := 0) h (by simp)
  · exact plain_ne h
theorem bodyc_ne {st : Sr} (h : bodyc st = true) : st.f = false := by
  unfold bodyc at h
  exact pk_ne (n := 0) (Bool.and_eq_true_iff.1 h).1 (by simp)
/-- Fuel for one more round. -/
theorem Ok.pos {k : Nat} {st : Sr} (h : Ok k st) (hf : st.f = false) : ∃ j, k = j + 1 := by
  rcases h with h | h
  · rw [hf] at h; cases h
  · exact ⟨k - 1, by omega⟩
/-- One round of a loop. -/
theorem loop_step {α : Type} {c : Sr → Bool} {g : Sr → α × Sr} {n : Nat} {st : Sr} (hc : c st = true) : loop c g (n + 1) st = ((g st).1 :: (loop c g n (g st).2).1, (loop c g n (g st).2).2) := by
  simp only [loop]; rw [if_pos hc]
theorem loop_stop {α : Type} {c : Sr → Bool} {g : Sr → α × Sr} {n : Nat} {st : Sr} (hc : c st = false) : loop c g n st = ([], st) := by
  cases n with
  | zero => rfl
  | succ n => simp only [loop]; rw [if_neg (by rw [hc]; simp)]
end Rd

end Go.Proofs.YthcckfofpocbhabGreatDoor

/- Memory of which one block turns and all else stays; memory of which some blocks alone are seen. -/
namespace Go.Proofs.YthcckfofpocbhabGreatDoor
open Go.RowKit

/-- The world, but the blocks that P doesn't tell hold nothing. -/
def only (P : Nat → Bool) (w : World) : World := { w with heap := w.heap.mapIdx fun i o => if P i then o else .cells #[] 0 (0, 0) }
theorem only_cell {P : Nat → Bool} {w : World} {a : Addr} {v : Value} : (only P w).cell? a = some v ↔ P a.block = true ∧ w.cell? a = some v := by
  unfold only World.cell?
  simp only [Array.getElem?_mapIdx]
  cases hp : P a.block
  · cases w.heap[a.block]? <;> simp
  · cases w.heap[a.block]? <;> simp
/-- What is read here is read there. -/
def Sub (w w' : World) : Prop := ∀ a v, w.cell? a = some v → w'.cell? a = some v
theorem Sub.refl (w : World) : Sub w w := fun _ _ h => h
theorem Sub.trans {a b c : World} (h : Sub a b) (k : Sub b c) : Sub a c := fun x v hx => k x v (h x v hx)
theorem only_sub (P : Nat → Bool) (w : World) : Sub (only P w) w := fun _ _ h => (only_cell.1 h).2
theorem sub_only {P : Nat → Bool} {w w' : World} (h : Sub w w') (hp : ∀ a v, w.cell? a = some v → P a.block = true) : Sub w (only P w') := fun a v hv => only_cell.2 ⟨hp a v hv, h a v hv⟩
theorem below_sub {w w' : World} (h : Below w.heap.size w w') : Sub w w' := fun _ _ hv => cellUp hv h

/-- All blocks but p stay as they were. -/
structure But (p : Nat) (w w' : World) : Prop where
  os : w'.os = w.os
  tape : w'.tape = w.tape
  output : w'.output = w.output
  size : w.heap.size ≤ w'.heap.size
  block : ∀ k, k < w.heap.size → k ≠ p → w'.heap[k]? = w.heap[k]?
theorem But.refl (p : Nat) (w : World) : But p w w := ⟨rfl, rfl, rfl, Nat.le_refl _, fun _ _ _ => rfl⟩
theorem But.trans {p : Nat} {a b c : World} (h : But p a b) (k : But p b c) : But p a c :=
  ⟨k.os.trans h.os, k.tape.trans h.tape, k.output.trans h.output, Nat.le_trans h.size k.size, fun i hi hp => (k.block i (Nat.lt_of_lt_of_le hi h.size) hp).trans (h.block i hi hp)⟩
theorem But.of_below {p : Nat} {w w' : World} (h : Below w.heap.size w w') : But p w w' := ⟨h.os, h.tape, h.output, h.size, fun k hk _ => h.block k hk⟩
theorem But.drew {p : Nat} {w w' : World} (h : But p w w') (n : Nat) : But p w (w'.drewN n) := ⟨h.os, h.tape, h.output, h.size, h.block⟩
theorem But.alloc {p : Nat} {w w' : World} (h : But p w w') (o : Obj) : But p w (w'.alloc o) := h.trans (But.of_below (boxBelow w' o))
theorem But.set {p : Nat} {w w' : World} (h : But p w w') {a : Addr} (ha : a.block = p ∨ w.heap.size ≤ a.block) (v : Value) : But p w (w'.setCell a v) :=
  ⟨h.os, h.tape, h.output, by simp only [World.setCell, Array.size_modify]; exact h.size, fun k hk hp => (Below.heap_setCell _ _ _ _ (by rcases ha with e | e <;> omega)).trans (h.block k hk hp)⟩
theorem But.grown {p : Nat} {w w' w2 : World} (h : But p w w') {r : Option Nat} (hg : w'.grownBy w2 r) (hr : ∀ k, r = some k → w.heap.size ≤ k) : But p w w2 :=
  ⟨hg.os.trans h.os, hg.tape.trans h.tape, hg.output.trans h.output, Nat.le_trans h.size hg.size, fun k hk hp => (hg.block k (Nat.lt_of_lt_of_le hk h.size) (fun e => by have := hr k e.symm; omega)).trans (h.block k hk hp)⟩
theorem But.below {p : Nat} {w w' : World} (h : But p w w') {B : Nat} (hB : B ≤ p) (hs : B ≤ w.heap.size) : Below B w w' := ⟨h.os, h.tape, h.output, h.size, fun k hk => h.block k (by omega) (by omega)⟩
theorem But.at {p q : Nat} {w w' : World} (h : But p w w') (hq : q ≠ p) {o : Obj} (ho : w.heap[q]? = some o) : w'.heap[q]? = some o := by
  have hlt : q < w.heap.size := by
    rcases Nat.lt_or_ge q w.heap.size with h' | h'
    · exact h'
    · rw [Array.getElem?_eq_none h'] at ho; cases ho
  rw [h.block q hlt hq]; exact ho
theorem But.sub {p : Nat} {w w' : World} (h : But p w w') {P : Nat → Bool} (hp : P p = false) : Sub (only P w) (only P w') := fun a v hv => by
  obtain ⟨h1, h2⟩ := only_cell.1 hv
  refine only_cell.2 ⟨h1, ?_⟩
  have hne : a.block ≠ p := fun e => by rw [e, hp] at h1; cases h1
  rw [World.cell?_of_block (w := w) (h.block _ (World.block_lt_of_cell? _ _ h2) hne)]; exact h2
/-- What was made behind world w is seen behind what turns old blocks. -/
theorem fresh_mono {n m : Nat} {w : World} (h : m ≤ n) : Sub (only (fun b => decide (n ≤ b)) w) (only (fun b => decide (m ≤ b)) w) := fun a v hv => by
  obtain ⟨h1, h2⟩ := only_cell.1 hv
  exact only_cell.2 ⟨decide_eq_true (Nat.le_trans h (of_decide_eq_true h1)), h2⟩
theorem fresh_but {n p : Nat} {w w' : World} (h : But p w w') (hp : p < n) : Sub (only (fun b => decide (n ≤ b)) w) (only (fun b => decide (n ≤ b)) w') := h.sub (decide_eq_false (by omega))
theorem block_at {w : World} {q : Nat} {cs : Array Value} {t : TypeId} (h : w.heap[q]? = some (.cells cs t (0, 0))) (i : Nat) : w.cell? ⟨q, i, none⟩ = cs[i]? := by unfold World.cell?; rw [h]; rfl
theorem block_free {w : World} {q : Nat} {cs : Array Value} {t : TypeId} (h : w.heap[q]? = some (.cells cs t (0, 0))) (i : Nat) : w.frozen? ⟨q, i, none⟩ = false := by unfold World.frozen?; rw [h]; simp
theorem block_set {w : World} {q : Nat} {cs : Array Value} {t : TypeId} (h : w.heap[q]? = some (.cells cs t (0, 0))) (i : Nat) (v : Value) : (w.setCell ⟨q, i, none⟩ v).heap[q]? = some (.cells (cs.setIfInBounds i v) t (0, 0)) := by
  unfold World.setCell; simp [Array.getElem?_modify, h]
theorem block_other {w : World} {q : Nat} {o : Obj} (h : w.heap[q]? = some o) {a : Addr} (ha : q ≠ a.block) (v : Value) : (w.setCell a v).heap[q]? = some o := by
  rw [Below.heap_setCell _ _ _ _ ha]; exact h
theorem block_lt {w : World} {q : Nat} {o : Obj} (h : w.heap[q]? = some o) : q < w.heap.size := by
  rcases Nat.lt_or_ge q w.heap.size with h' | h'
  · exact h'
  · rw [Array.getElem?_eq_none h'] at h; cases h
theorem block_alloc {w : World} {q : Nat} {o : Obj} (h : w.heap[q]? = some o) (o' : Obj) : (w.alloc o').heap[q]? = some o := by
  rw [(boxBelow w o').block q (block_lt h)]; exact h
theorem block_new (w : World) (o : Obj) : (w.alloc o).heap[w.heap.size]? = some o := heap_alloc_new w o

theorem ExAt.sub {w w' : World} (hb : Sub w w') : ∀ {m : Nat} {c0 c1 c2 c3 : Value} {x : Ex}, ExAt w m c0 c1 c2 c3 x → ExAt w' m c0 c1 c2 c3 x
  | 0, _, _, _, _, _, h => h
  | m + 1, c0, c1, c2, c3, x, h => by
    obtain ⟨h0, h1, h2, h3, h4, h5, a, b, off, cap, h6, h7, h8, h9⟩ := h
    refine ⟨h0, h1, h2, h3, h4, h5, a, b, off, cap, h6, h7, h8, fun i y hy => ?_⟩
    obtain ⟨e0, e1, e2, e3, g0, g1, g2, g3, hx⟩ := h9 i y hy
    exact ⟨e0, e1, e2, e3, hb _ _ g0, hb _ _ g1, hb _ _ g2, hb _ _ g3, ExAt.sub hb hx⟩
theorem StsAt.sub {w w' : World} (hb : Sub w w') : ∀ {m : Nat} {v : Value} {l : List St}, StsAt w m v l → StsAt w' m v l
  | 0, _, _, h => h
  | m + 1, v, l, h => by
    obtain ⟨a, b, off, cap, h6, h7, h8, h9⟩ := h
    refine ⟨a, b, off, cap, h6, h7, h8, fun i s hs => ?_⟩
    obtain ⟨k1, k2, e0, e1, e2, e3, va, vb, g0, g1, g2, g3, g4, g5, g6, g7, hx, ha, hb'⟩ := h9 i s hs
    exact ⟨k1, k2, e0, e1, e2, e3, va, vb, hb _ _ g0, hb _ _ g1, hb _ _ g2, hb _ _ g3, hb _ _ g4, hb _ _ g5, hb _ _ g6, hb _ _ g7, hx.sub hb, ha.sub hb, hb'.sub hb⟩
theorem Strs.sub {w w' : World} (hb : Sub w w') {v : Value} {ss : List ByteArray} (h : Strs w v ss) : Strs w' v ss := by
  obtain ⟨a, b, off, cap, e, h0, hl, hs, h1⟩ := h
  exact ⟨a, b, off, cap, e, h0, hl, hs, fun r hr => hb _ _ (h1 r hr)⟩
theorem VasAt.sub {w w' : World} (hb : Sub w w') {v : Value} {l : List Va} (h : VasAt w v l) : VasAt w' v l := by
  obtain ⟨a, b, off, cap, h6, h7, h8, h9⟩ := h
  refine ⟨a, b, off, cap, h6, h7, h8, fun i s hs => ?_⟩
  obtain ⟨k1, k2, g0, g1⟩ := h9 i s hs
  exact ⟨k1, k2, hb _ _ g0, hb _ _ g1⟩
theorem FusAt.sub {w w' : World} (hb : Sub w w') {m : Nat} {v : Value} {l : List Fu} (h : FusAt w m v l) : FusAt w' m v l := by
  obtain ⟨a, b, off, cap, h6, h7, h8, h9⟩ := h
  refine ⟨a, b, off, cap, h6, h7, h8, fun i s hs => ?_⟩
  obtain ⟨k1, vp, vb, e0, e1, e2, e3, g0, g1, g2, g3, g4, g5, g6, hp, hs', hx⟩ := h9 i s hs
  exact ⟨k1, vp, vb, e0, e1, e2, e3, hb _ _ g0, hb _ _ g1, hb _ _ g2, hb _ _ g3, hb _ _ g4, hb _ _ g5, hb _ _ g6, hp.sub hb, hs'.sub hb, hx.sub hb⟩

/-! ### Rows of one's own whose elements point to memory of their own -/
/-- What is seen in more memory is seen. -/
def Mono {α : Type} (At : World → List Value → α → Prop) : Prop := ∀ (w w' : World) (c : List Value) (y : α), Sub w w' → At w c y → At w' c y
/-- The slice v is a row of the call's own, of k cells an element, that holds l: At says what lies behind an element's cells, in no block that is older than n, and not in the row's own. -/
def OwnL {α : Type} (At : World → List Value → α → Prop) (w : World) (n e k : Nat) (v : Value) (l : List α) : Prop :=
  ∃ cs : List (List Value), w.ownsRow n e k v l.length cs.flatten ∧ cs.length = l.length ∧ (∀ c ∈ cs, c.length = k) ∧
    ∀ (i : Nat) c y, cs[i]? = some c → l[i]? = some y → At (only (fun b => decide (n ≤ b) && decide (v.ownBlock ≠ some b)) w) c y
section
variable {α : Type} {At : World → List Value → α → Prop} {w w' : World} {n e k : Nat} {v : Value} {l : List α}
theorem OwnL.nil (w : World) (n e k : Nat) : OwnL At w n e k (.slice none 0 0) [] := ⟨[], World.ownsRow_nil _ _ _ _, rfl, (fun c hc => absurd hc (by simp)), (fun i c y hc => absurd hc (by simp))⟩
theorem OwnL.lt (h : OwnL At w n e k v l) : ∀ j, v.ownBlock = some j → n ≤ j ∧ j < w.heap.size := by
  obtain ⟨cs, h1, _⟩ := h
  exact h1.lt
theorem OwnL.shape (h : OwnL At w n e k v l) : (v = .slice none 0 0 ∧ l = []) ∨ ∃ g cap, v = .slice (some ⟨g, 0, none⟩) l.length cap ∧ l.length ≤ cap ∧ n ≤ g ∧ g < w.heap.size := by
  obtain ⟨cs, h, _⟩ := h
  have hlt := h.lt
  rcases h.2 with ⟨rfl, h1⟩ | ⟨g, cap, cur, rfl, _, hh, hc, _⟩
  · exact Or.inl ⟨rfl, List.length_eq_zero_iff.1 (by omega)⟩
  · exact Or.inr ⟨g, cap, rfl, hc, hlt g rfl⟩
theorem own_but {p t xs} {c : Array Value} {fz : Nat × Nat} (h : w.ownsRow n e k v l.length xs) (hp : w.heap[p]? = some (.cells c t fz)) (hne : e ≠ t) (hb : But p w w') : w'.ownsRow n e k v l.length xs := by
  obtain ⟨h1, h2⟩ := h
  refine ⟨h1, ?_⟩
  rcases h2 with h2 | ⟨g, cap, cur, hv, hg, hh, r⟩
  · exact Or.inl h2
  · refine Or.inr ⟨g, cap, cur, hv, hg, hb.at (fun e' => ?_) hh, r⟩
    subst e'
    rw [hp] at hh
    simp at hh
    exact hne hh.2.1.symm
theorem OwnL.but (hm : Mono At) {p t} {c : Array Value} {fz : Nat × Nat} (h : OwnL At w n e k v l) (hp : w.heap[p]? = some (.cells c t fz)) (hne : e ≠ t) (hpn : p < n) (hb : But p w w') : OwnL At w' n e k v l := by
  obtain ⟨cs, h1, h2, h3, h4⟩ := h
  refine ⟨cs, own_but h1 hp hne hb, h2, h3, fun i c y hc hy => hm _ _ _ _ (hb.sub ?_) (h4 i c y hc hy)⟩
  rw [decide_eq_false (by omega)]; rfl
/-- A block that isn't the row's may turn. -/
theorem OwnL.set (h : OwnL At w n e k v l) {a : Addr} (ha : v.ownBlock ≠ some a.block) {x : Value}
    (hsee : ∀ c y, At (only (fun b => decide (n ≤ b) && decide (v.ownBlock ≠ some b)) w) c y → At (only (fun b => decide (n ≤ b) && decide (v.ownBlock ≠ some b)) (w.setCell a x)) c y) : OwnL At (w.setCell a x) n e k v l := by
  obtain ⟨cs, ⟨h0, h1⟩, h2, h3, h4⟩ := h
  refine ⟨cs, ⟨h0, ?_⟩, h2, h3, fun i c y hc hy => hsee c y (h4 i c y hc hy)⟩
  rcases h1 with h1 | ⟨g, cap, cur, hv, hg, hh, r⟩
  · exact Or.inl h1
  · refine Or.inr ⟨g, cap, cur, hv, hg, block_other hh (fun e' => ha (by rw [hv, ← e']; rfl)) _, r⟩
/-- So may a block that is older than the row. -/
theorem OwnL.setOld (hm : Mono At) (h : OwnL At w n e k v l) {a : Addr} (ha : a.block < n) (x : Value) : OwnL At (w.setCell a x) n e k v l :=
  h.set (fun e => by have := h.lt _ e; omega) (fun c y hy => hm _ _ _ _ (fun b u hu => by
    obtain ⟨h1, h2⟩ := only_cell.1 hu
    refine only_cell.2 ⟨h1, ?_⟩
    have hle := of_decide_eq_true (Bool.and_eq_true_iff.1 h1).1
    rw [World.cell?_of_block (w := w) (Below.heap_setCell _ _ _ _ (by omega))]; exact h2) hy)
theorem OwnL.below (hm : Mono At) (h : OwnL At w n e k v l) (hb : Below w.heap.size w w') : OwnL At w' n e k v l := by
  obtain ⟨cs, ⟨h0, h1⟩, h2, h3, h4⟩ := h
  refine ⟨cs, ⟨h0, ?_⟩, h2, h3, fun i c y hc hy => hm _ _ _ _ (fun a v hv => ?_) (h4 i c y hc hy)⟩
  · rcases h1 with h1 | ⟨g, cap, cur, hv, hg, hh, r⟩
    · exact Or.inl h1
    · exact Or.inr ⟨g, cap, cur, hv, hg, by rw [hb.block g (block_lt hh)]; exact hh, r⟩
  · obtain ⟨a1, a2⟩ := only_cell.1 hv
    exact only_cell.2 ⟨a1, cellUp a2 hb⟩
/-- Behind an append of one element. -/
theorem OwnL.push (hm : Mono At) {g cap : Nat} {c : List Value} {y : α} {xs : List Value} {cs : List (List Value)}
    (hcs : cs.length = l.length ∧ (∀ c ∈ cs, c.length = k) ∧ ∀ (i : Nat) c y, cs[i]? = some c → l[i]? = some y → At (only (fun b => decide (n ≤ b) && decide (v.ownBlock ≠ some b)) w) c y) (hxs : xs = cs.flatten)
    (hc : c.length = k) (hy : At (only (fun b => decide (n ≤ b) && decide (v.ownBlock ≠ some b)) w) c y)
    (h1 : w'.ownsRow n e k (.slice (some ⟨g, 0, none⟩) (l.length + 1) cap) (l.length + 1) (xs ++ c)) (h2 : w.grownBy w' v.ownBlock) (h3 : v.ownBlock = some g ∨ g = w.heap.size) :
    OwnL At w' n e k (.slice (some ⟨g, 0, none⟩) (l.length + 1) cap) (l ++ [y]) := by
  obtain ⟨k1, k2, k3⟩ := hcs
  subst hxs
  have hs : Sub (only (fun b => decide (n ≤ b) && decide (v.ownBlock ≠ some b)) w) (only (fun b => decide (n ≤ b) && decide ((Value.slice (some ⟨g, 0, none⟩) (l.length + 1) cap).ownBlock ≠ some b)) w') := fun a u hu => by
    obtain ⟨a1, a2⟩ := only_cell.1 hu
    obtain ⟨b1, b2⟩ := Bool.and_eq_true_iff.1 a1
    have hlt := World.block_lt_of_cell? _ _ a2
    have hne := of_decide_eq_true b2
    refine only_cell.2 ⟨Bool.and_eq_true_iff.2 ⟨b1, decide_eq_true ?_⟩, h2.cell a2 (fun e => hne e.symm)⟩
    intro e'
    have e'' : g = a.block := by simpa [Value.ownBlock] using e'
    rcases h3 with h3 | h3
    · exact hne (by rw [h3, e''])
    · omega
  refine ⟨cs ++ [c], by rw [List.length_append, List.flatten_append]; simpa using h1, by simp [k1], fun d hd => ?_, fun i d z hd hz => ?_⟩
  · rcases List.mem_append.1 hd with hd | hd
    · exact k2 d hd
    · rw [List.mem_singleton] at hd; subst hd; exact hc
  · by_cases hi : i < l.length
    · rw [List.getElem?_append_left (by omega)] at hd
      rw [List.getElem?_append_left hi] at hz
      exact hm _ _ _ _ hs (k3 i d z hd hz)
    · have hi' : i = l.length := by
        have := (List.getElem?_eq_some_iff.1 hz).1
        rw [List.length_append, List.length_singleton] at this
        omega
      subst hi'
      rw [List.getElem?_append_right (by omega), k1, Nat.sub_self] at hd
      rw [List.getElem?_append_right (Nat.le_refl _), Nat.sub_self] at hz
      simp at hd hz
      subst hd hz
      exact hm _ _ _ _ hs hy
/-- An element's cells. -/
theorem OwnL.cell {g cap : Nat} (h : OwnL At w n e k (.slice (some ⟨g, 0, none⟩) l.length cap) l) {i : Nat} {y : α} (hy : l[i]? = some y) :
    ∃ c, c.length = k ∧ (∀ j, j < k → w.cell? ⟨g, i * k + j, none⟩ = c[j]?) ∧ n ≤ g ∧ At (only (fun b => decide (n ≤ b) && decide (some g ≠ some b)) w) c y := by
  obtain ⟨cs, h1, h2, h3, h4⟩ := h
  have hi : i < cs.length := by
    have := (List.getElem?_eq_some_iff.1 hy).1
    omega
  refine ⟨cs[i], h3 _ (List.getElem_mem hi), fun j hj => ?_, (h1.lt g rfl).1, h4 i _ y (List.getElem?_eq_getElem hi) hy⟩
  have hik : i * k + j < l.length * k := by
    have : i + 1 ≤ l.length := by omega
    have h5 := Nat.mul_le_mul_right k this
    rw [Nat.add_mul, Nat.one_mul] at h5
    omega
  rw [World.ownsRow.cellAt h1 _ hik]
  have hfl : ∀ (cs : List (List Value)) (i : Nat) (hi : i < cs.length), (∀ c ∈ cs, c.length = k) → cs.flatten[i * k + j]? = (cs[i])[j]? := by
    intro cs
    induction cs with
    | nil => intro i hi; simp at hi
    | cons c cs ih =>
      intro i hi hk
      have hc := hk c (by simp)
      cases i with
      | zero =>
        rw [List.flatten_cons, Nat.zero_mul, Nat.zero_add, List.getElem?_append_left (by omega)]; rfl
      | succ i =>
        rw [List.flatten_cons, List.getElem?_append_right (by rw [hc, Nat.succ_mul]; omega), hc]
        have e1 : (i + 1) * k + j - k = i * k + j := by rw [Nat.succ_mul]; omega
        rw [e1, ih i (by simpa using hi) (fun d hd => hk d (by simp [hd]))]
        rfl
  exact hfl cs i hi h3
end

end Go.Proofs.YthcckfofpocbhabGreatDoor
