/- Walks over package lex: what a byte may be; the first byte that may not be; where a word ends. -/
import Derived.Test.YtbncnkfogkhoeabGreatDoorZAV
import Derived.Test.YtbncnkfogkhoeabGreatDoorShelf2
namespace Go.Proofs.YtbncnkfogkhoeabGreatDoor
open Go.RowKit

set_option maxHeartbeats 1000000 in
theorem clone_any (w : World) (s : ByteArray) (hs : s.size ≤ 281474976710656) :
    Calls Tryz.prog 49 #[.string s] w fun e w' => e = .returned (.string s) ∧ Below w.heap.size w w' := by
  have HC := hide (Tryz.stringslite_Clone s w hs)
  go_enter Tryz.func49, Tryz.ntmps49
  go_wp2_with fail
  refine HC.out.mono ?_
  rintro e w' ⟨rfl, hb⟩
  go_wp2
  go_ret
  exact ⟨rfl, hb⟩

set_option maxHeartbeats 1000000 in
theorem isBetween_any (w : World) (c : UInt8) :
    Calls Tryz.prog 47 #[.int .u8 (c.toNat : Int)] w fun e w' => e = .returned (.bool (Lat.blankN c.toNat)) ∧ w' = w := by
  have HB : Hid (Lat.blankN c.toNat = (c.toNat == 32 || c.toNat == 10)) := rfl
  generalize c.toNat = n at *
  by_cases h1 : n = 32
  · have c1 : ((n : Int) == 32) = true := by simp [h1]
    go_enter Tryz.func47, Tryz.ntmps47
    go_wp2
    go_ret
    exact ⟨ret_bool (by rw [HB.out, h1]; rfl), rfl⟩
  · have c1 : ((n : Int) == 32) = false := by simp; omega
    go_enter Tryz.func47, Tryz.ntmps47
    go_wp2
    go_ret
    exact ⟨ret_bool (by rw [HB.out, Bool.eq_iff_iff]; simp; omega), rfl⟩

set_option maxHeartbeats 1000000 in
theorem isBracket_any (w : World) (c : UInt8) :
    Calls Tryz.prog 75 #[.int .u8 (c.toNat : Int)] w fun e w' => e = .returned (.bool (Lat.brackN c.toNat)) ∧ w' = w := by
  have HB : Hid (Lat.brackN c.toNat = (c.toNat == 40 || c.toNat == 41)) := rfl
  generalize c.toNat = n at *
  by_cases h1 : n = 40
  · have c1 : ((n : Int) == 40) = true := by simp [h1]
    go_enter Tryz.func75, Tryz.ntmps75
    go_wp2
    go_ret
    exact ⟨ret_bool (by rw [HB.out, h1]; rfl), rfl⟩
  · have c1 : ((n : Int) == 40) = false := by simp; omega
    go_enter Tryz.func75, Tryz.ntmps75
    go_wp2
    go_ret
    exact ⟨ret_bool (by rw [HB.out, Bool.eq_iff_iff]; simp; omega), rfl⟩

theorem sign_at (c : UInt8) : decide (0 ≤ Lib.indexByte [46, 43, 45, 42, 60, 61] c) = (c.toNat == 46 || c.toNat == 43 || c.toNat == 45 || c.toNat == 42 || c.toNat == 60 || c.toNat == 61) := by
  have h : ∀ n : Fin 256, decide (0 ≤ Lib.indexByte [46, 43, 45, 42, 60, 61] (UInt8.ofNat n.val)) = (n.val == 46 || n.val == 43 || n.val == 45 || n.val == 42 || n.val == 60 || n.val == 61) := by decide +kernel
  have := h ⟨c.toNat, c.toNat_lt⟩
  simpa using this

set_option maxHeartbeats 2000000 in
theorem isPart_any (w : World) (c : UInt8) :
    Calls Tryz.prog 76 #[.int .u8 (c.toNat : Int)] w fun e w' => e = .returned (.bool (Lat.longN c.toNat)) ∧ w' = w := by
  have HB : Hid (Lat.longN c.toNat = ((decide (97 ≤ c.toNat) && decide (c.toNat ≤ 122)) || (decide (48 ≤ c.toNat) && decide (c.toNat ≤ 57)) || c.toNat == 46 || c.toNat == 43 || c.toNat == 45 || c.toNat == 42 || c.toNat == 60 || c.toNat == 61)) := rfl
  have HI : Hid (∀ w, Calls Tryz.prog 103 #[.string ⟨#[46, 43, 45, 42, 60, 61]⟩, .int .u8 (c.toNat : Int)] w fun e w' => ∃ z : Int, e = .returned (.int .i64 z) ∧ decide (0 ≤ z) = (c.toNat == 46 || c.toNat == 43 || c.toNat == 45 || c.toNat == 42 || c.toNat == 60 || c.toNat == 61) ∧ w' = w) := hide (fun w => by
    refine (Tryz.strings_IndexByte ⟨#[46, 43, 45, 42, 60, 61]⟩ (c.toNat : Int) w).mono ?_
    rintro e w' ⟨rfl, rfl⟩
    refine ⟨_, rfl, ?_, rfl⟩
    rw [← sign_at]
    simp)
  generalize c.toNat = n at *
  by_cases l1 : 97 ≤ n ∧ n ≤ 122
  · have f1 : (97 : Int) ≤ (n : Int) := by omega
    have f2 : (n : Int) ≤ 122 := by omega
    go_enter Tryz.func76, Tryz.ntmps76
    go_wp2
    go_ret
    exact ⟨ret_bool (by rw [HB.out, Bool.eq_iff_iff]; simp; omega), rfl⟩
  by_cases l2 : 48 ≤ n ∧ n ≤ 57
  · have f1 : ¬ (97 : Int) ≤ (n : Int) := by omega
    have f3 : (48 : Int) ≤ (n : Int) := by omega
    have f4 : (n : Int) ≤ 57 := by omega
    go_enter Tryz.func76, Tryz.ntmps76
    go_wp2
    go_ret
    exact ⟨ret_bool (by rw [HB.out, Bool.eq_iff_iff]; simp; omega), rfl⟩
  have hcase : n < 48 ∨ (57 < n ∧ n < 97) ∨ 122 < n := by omega
  have HB2 : Hid (Lat.longN n = (n == 46 || n == 43 || n == 45 || n == 42 || n == 60 || n == 61)) := hide (by
    rw [HB.out, Bool.eq_iff_iff]; simp; omega)
  rcases hcase with l | l | l
  case' inl =>
    have f1 : ¬ (97 : Int) ≤ (n : Int) := by omega
    have f3 : ¬ (48 : Int) ≤ (n : Int) := by omega
  case' inr.inl =>
    have f1 : ¬ (97 : Int) ≤ (n : Int) := by omega
    have f3 : (48 : Int) ≤ (n : Int) := by omega
    have f4 : ¬ (n : Int) ≤ 57 := by omega
  case' inr.inr =>
    have f1 : (97 : Int) ≤ (n : Int) := by omega
    have f2 : ¬ (n : Int) ≤ 122 := by omega
    have f3 : (48 : Int) ≤ (n : Int) := by omega
    have f4 : ¬ (n : Int) ≤ 57 := by omega
  all_goals
    clear l l1 l2
    go_enter Tryz.func76, Tryz.ntmps76
    go_wp2_with fail
    refine (HI.out _).mono ?_
    rintro e w' ⟨z, rfl, hz, hw⟩
    subst hw
    have HZ := hide hz
    clear hz
    go_wp2
    go_ret
    exact ⟨ret_bool (by rw [HB2.out]; exact HZ.out), rfl⟩

set_option maxHeartbeats 2000000 in
theorem firstBad_any (w : World) (s : ByteArray) (hs : s.size ≤ 4096) :
    Calls Tryz.prog 46 #[.string s] w fun e w' => e = .returned (.int .i64 ((((Lat.badAt s).getD s.size : Nat)) : Int)) ∧ w' = w := by
  go_enter Tryz.func46, Tryz.ntmps46
  go_wp2
  go_loop [3] (fun i => ∃ k : Nat, k ≤ s.size ∧ i = .int .i64 k ∧ ∀ d, d < k → Lat.okAt s d = true) (fun i => s.size - (intOf i).toNat)
  case atStart => exact ⟨0, Nat.zero_le _, rfl, fun d hd => absurd hd (Nat.not_lt_zero _)⟩
  case round =>
    obtain ⟨k, hk, rfl, hall⟩ := hrel
    have HALL := hide hall
    clear hall
    by_cases hlt : k < s.size
    · have HB := hide (bt_at s k hlt)
      have HOK : Hid (Lat.okAt s k = (Lat.blankN (Lat.bt s k) || Lat.brackN (Lat.bt s k) || Lat.longN (Lat.bt s k))) := rfl
      rw [HB.out] at HOK
      have HOKS : Hid (Lat.okAt s k = true → ∀ d, d < k + 1 → Lat.okAt s d = true) := hide (fun h d hd => by
        by_cases e : d = k
        · subst e; exact h
        · exact HALL.out d (by omega))
      have b1 : (0 : Int) ≤ (k : Int) := by omega
      have b3 : (k : Int) < (s.size : Int) := by omega
      go_wp2_with fail
      refine (isBetween_any _ s[k]).mono ?_
      rintro e w' ⟨rfl, hw⟩
      subst hw
      cases c1 : Lat.blankN s[k].toNat
      · go_wp2_with fail
        refine (isBracket_any _ s[k]).mono ?_
        rintro e w' ⟨rfl, hw⟩
        subst hw
        cases c2 : Lat.brackN s[k].toNat
        · go_wp2_with fail
          refine (isPart_any _ s[k]).mono ?_
          rintro e w' ⟨rfl, hw⟩
          subst hw
          cases c3 : Lat.longN s[k].toNat
          · have HBAD : Hid (Lat.badAt s = some k) := hide (Lat.find_hit hlt (fun d hd => by rw [HALL.out d hd]; rfl) (by rw [HOK.out, c1, c2, c3]; rfl))
            go_wp2
            go_ret
            exact ⟨ret_int (by rw [HBAD.out]; rfl), rfl⟩
          · have HK : Hid (Lat.okAt s k = true) := hide (by rw [HOK.out, c1, c2, c3]; rfl)
            go_wp2
            go_round
            case rel => exact ⟨k + 1, by omega, by go_num, HOKS.out HK.out⟩
            case measure => simp [intOf]; omega
        · have HK : Hid (Lat.okAt s k = true) := hide (by rw [HOK.out, c1, c2]; rfl)
          go_wp2
          go_round
          case rel => exact ⟨k + 1, by omega, by go_num, HOKS.out HK.out⟩
          case measure => simp [intOf]; omega
      · have HK : Hid (Lat.okAt s k = true) := hide (by rw [HOK.out, c1]; rfl)
        go_wp2
        go_round
        case rel => exact ⟨k + 1, by omega, by go_num, HOKS.out HK.out⟩
        case measure => simp [intOf]; omega
    · have HBAD : Hid (Lat.badAt s = none) := hide (Lat.find_none (fun d hd => by rw [HALL.out d (by omega)]; rfl))
      go_wp2
      go_ret
      exact ⟨ret_int (by rw [HBAD.out]; rfl), rfl⟩

namespace Lat
/-- Where the word that begins at a ends. -/
def EndsAt (s : ByteArray) (a b : Nat) : Prop :=
  a < b ∧ b ≤ s.size ∧ ((Lat.brackN (Lat.bt s a) = true ∧ b = a + 1) ∨ (Lat.brackN (Lat.bt s a) = false ∧ (∀ d, a < d → d < b → Lat.longN (Lat.bt s d) = true) ∧ (b = s.size ∨ Lat.longN (Lat.bt s b) = false)))
end Lat

set_option maxHeartbeats 2000000 in
theorem wordEnd_any (w : World) (s : ByteArray) (a : Nat) (hs : s.size ≤ 4096) (ha : a < s.size) :
    Calls Tryz.prog 48 #[.string s, .int .i64 (a : Int)] w fun e w' => ∃ b : Nat, e = .returned (.int .i64 (b : Int)) ∧ Lat.EndsAt s a b ∧ w' = w := by
  have HB := hide (bt_at s a ha)
  have b1 : (0 : Int) ≤ (a : Int) := by omega
  have b3 : (a : Int) < (s.size : Int) := by omega
  go_enter Tryz.func48, Tryz.ntmps48
  go_wp2_with fail
  refine (isBracket_any _ s[a]).mono ?_
  rintro e w' ⟨rfl, hw⟩
  subst hw
  cases c1 : Lat.brackN s[a].toNat
  · go_wp2
    go_loop [5] (fun i => ∃ k : Nat, a < k ∧ k ≤ s.size ∧ i = .int .i64 k ∧ ∀ d, a < d → d < k → Lat.longN (Lat.bt s d) = true) (fun i => s.size - (intOf i).toNat)
    case atStart => exact ⟨a + 1, by omega, by omega, by go_num, fun d h1 h2 => absurd h2 (by omega)⟩
    case round =>
      obtain ⟨k, hk1, hk, rfl, hall⟩ := hrel
      have HALL := hide hall
      clear hall
      by_cases hlt : k < s.size
      · have HBK := hide (bt_at s k hlt)
        have d1 : (0 : Int) ≤ (k : Int) := by omega
        have d3 : (k : Int) < (s.size : Int) := by omega
        go_wp2_with fail
        refine (isPart_any _ s[k]).mono ?_
        rintro e w' ⟨rfl, hw⟩
        subst hw
        cases c3 : Lat.longN s[k].toNat
        · go_wp2
          go_ret
          exact ⟨k, rfl, ⟨hk1, hk, Or.inr ⟨by rw [HB.out]; exact c1, HALL.out, Or.inr (by rw [HBK.out]; exact c3)⟩⟩, rfl⟩
        · go_wp2
          go_round
          case rel => exact ⟨k + 1, by omega, by omega, by go_num, fun d h1 h2 => by
              by_cases e : d = k
              · subst e; rw [HBK.out]; exact c3
              · exact HALL.out d h1 (by omega)⟩
          case measure => simp [intOf]; omega
      · go_wp2
        go_ret
        exact ⟨k, rfl, ⟨hk1, hk, Or.inr ⟨by rw [HB.out]; exact c1, HALL.out, Or.inl (by omega)⟩⟩, rfl⟩
  · go_wp2
    go_ret
    exact ⟨a + 1, by go_num, ⟨by omega, by omega, Or.inl ⟨by rw [HB.out]; exact c1, rfl⟩⟩, rfl⟩

end Go.Proofs.YtbncnkfogkhoeabGreatDoor

/- Walks over package lex: Words. -/
namespace Go.Proofs.YtbncnkfogkhoeabGreatDoor
open Go.RowKit

theorem long_not {n : Nat} (h : Lat.longN n = true) : Lat.blankN n = false ∧ Lat.brackN n = false := by
  unfold Lat.longN at h
  unfold Lat.blankN Lat.brackN
  simp only [Bool.or_eq_true, Bool.and_eq_true, decide_eq_true_eq, beq_iff_eq] at h
  simp only [Bool.or_eq_false_iff, beq_eq_false_iff_ne]
  omega
theorem tok_long {s : ByteArray} {a : Nat} (h1 : Lat.blankN (Lat.bt s a) = false) (h2 : Lat.brackN (Lat.bt s a) = false) (h3 : (Lat.tok s a).2 = false) :
    ∀ b, a < b → (∀ d, a < d → d < b → Lat.longN (Lat.bt s d) = true) → Lat.tok s b = ((Lat.tok s a).1 ++ [(a, b)], true)
  | 0, hb, _ => absurd hb (by omega)
  | b + 1, hb, h => by
    by_cases e : a = b
    · subst e
      simp only [Lat.tok, h1, h2, h3, if_neg Bool.false_ne_true]
    · have ih := tok_long h1 h2 h3 b (by omega) (fun d d1 d2 => h d d1 (by omega))
      obtain ⟨g1, g2⟩ := long_not (h b (by omega) (by omega))
      rw [Lat.tok, ih, g1, g2]
      simp
theorem tok_word {s : ByteArray} {a b : Nat} (h : Lat.EndsAt s a b) (h1 : Lat.blankN (Lat.bt s a) = false) (h3 : Lat.brackN (Lat.bt s a) = false → (Lat.tok s a).2 = false) :
    (Lat.tok s b).1 = (Lat.tok s a).1 ++ [(a, b)] ∧ ((Lat.tok s b).2 = true → b = s.size ∨ Lat.longN (Lat.bt s b) = false) := by
  obtain ⟨hb, _, ⟨hk, rfl⟩ | ⟨hk, hl, he⟩⟩ := h
  · simp only [Lat.tok, h1, hk, if_neg Bool.false_ne_true, if_pos]
    exact ⟨trivial, fun h => by cases h⟩
  · rw [tok_long h1 hk (h3 hk) b hb hl]
    exact ⟨rfl, fun _ => he⟩

set_option maxHeartbeats 4000000 in
set_option maxRecDepth 100000 in
theorem words_own (w : World) (s : ByteArray) (hs : s.size ≤ maxLen) :
    Calls Tryz.prog 22 #[.string s] w fun e w' => ∃ v6 v7, e = .returned (.tuple #[v6, v7, .int .i64 (Lat.wn s), .int .i64 (Lat.we s)]) ∧ StrsC w' v6 (Lat.wds s) ∧ Ints w' v7 (Lat.wats s) ∧ OwnI w' w.heap.size v7 (Lat.wats s) ∧ Own w' w.heap.size v6 (Lat.wds s) ∧ Below w.heap.size w w' := by
  unfold maxLen at hs
  have HS0 : Hid (StrsC w (.slice none 0 0) []) := hide (Own.strsC (World.ownsRow_nil w 0 _ _) (fun s hs => absurd hs (by simp)) (by simp))
  have HI0 : Hid (Ints w (.slice none 0 0) []) := hide (OwnI.ints (World.ownsRow_nil w 0 _ _) (by simp))
  by_cases hbig : 4096 < s.size
  · have e1 : Lat.wn s = 0 := by unfold Lat.wn; rw [if_pos hbig]
    have e2 : Lat.we s = 2 := by unfold Lat.we; rw [if_pos hbig]
    have e3 : Lat.wds s = [] := by unfold Lat.wds; rw [if_pos hbig]
    have e4 : Lat.wats s = [] := by unfold Lat.wats; rw [if_pos hbig]
    rw [e1, e2, e3, e4]
    clear e1 e2 e3 e4
    go_enter Tryz.func22, Tryz.ntmps22
    go_wp2
    (try simp only [Exit.inBlock, Exit.then])
    refine bodyPost_ret (results_tmp4 rfl _ _ _) rfl ?_
    exact ⟨_, _, rfl, HS0.out, HI0.out, World.ownsRow_nil _ _ _ _, World.ownsRow_nil _ _ _ _, Below.refl _ _⟩
  have HBG := hide hbig
  have hs4 : s.size ≤ 4096 := by omega
  clear hbig
  cases hbad : Lat.badAt s with
  | some k =>
    have hk : k < s.size := (Lat.find_spec hbad).1
    have e1 : Lat.wn s = k := by unfold Lat.wn; rw [if_neg HBG.out, hbad]; rfl
    have e2 : Lat.we s = 3 := by unfold Lat.we; rw [if_neg HBG.out, hbad]; rfl
    have e3 : Lat.wds s = [] := by unfold Lat.wds; rw [if_neg HBG.out, hbad]
    have e4 : Lat.wats s = [] := by unfold Lat.wats; rw [if_neg HBG.out, hbad]
    rw [e1, e2, e3, e4]
    have HF := hide (firstBad_any w s hs4)
    rw [hbad, Option.getD_some] at HF
    clear e1 e2 e3 e4 hbad
    have b3 : (k : Int) < (s.size : Int) := by omega
    go_enter Tryz.func22, Tryz.ntmps22
    go_wp2_with fail
    refine HF.out.mono ?_
    rintro e w' ⟨rfl, hw⟩
    subst hw
    go_wp2
    (try simp only [Exit.inBlock, Exit.then])
    refine bodyPost_ret (results_tmp4 rfl _ _ _) rfl ?_
    exact ⟨_, _, rfl, HS0.out, HI0.out, World.ownsRow_nil _ _ _ _, World.ownsRow_nil _ _ _ _, Below.refl _ _⟩
  | none =>
    have HOKA : Hid (∀ d, d < s.size → Lat.okAt s d = true) := hide (fun d hd => by
      have := List.find?_eq_none.1 hbad d (List.mem_range.2 hd)
      simpa using this)
    have HE1 : Hid (Lat.wn s = 0) := hide (by unfold Lat.wn; rw [if_neg HBG.out, hbad]; rfl)
    have HE2 : Hid (Lat.we s = 0) := hide (by unfold Lat.we; rw [if_neg HBG.out, hbad]; rfl)
    have HE3 : Hid (Lat.wds s = (Lat.tok s s.size).1.map (Lat.ext s)) := hide (by unfold Lat.wds; rw [if_neg HBG.out, hbad])
    have HE4 : Hid (Lat.wats s = (Lat.tok s s.size).1.map fun p => (p.1 : Int)) := hide (by unfold Lat.wats; rw [if_neg HBG.out, hbad])
    have HF := hide (firstBad_any w s hs4)
    rw [hbad, Option.getD_none] at HF
    clear hbad
    go_enter Tryz.func22, Tryz.ntmps22
    go_wp2_with fail
    refine HF.out.mono ?_
    rintro e w1 ⟨rfl, hw⟩
    subst hw
    go_wp2
    go_loopw [7, 8, 9] (fun v6 v7 i wr => ∃ k : Nat, k ≤ s.size ∧ i = .int .i64 k ∧ ((Lat.tok s k).2 = true → k = s.size ∨ Lat.longN (Lat.bt s k) = false) ∧ Own wr w1.heap.size v6 ((Lat.tok s k).1.map (Lat.ext s)) ∧ OwnI wr w1.heap.size v7 ((Lat.tok s k).1.map fun p => (p.1 : Int)) ∧ Below w1.heap.size w1 wr) (fun _ _ i _ => s.size - (intOf i).toNat)
    case atStart => exact ⟨0, Nat.zero_le _, rfl, fun h => by simp [Lat.tok] at h, World.ownsRow_nil _ _ _ _, World.ownsRow_nil _ _ _ _, Below.refl _ _⟩
    case round =>
      obtain ⟨k, hk, rfl, hop, ho6, ho7, hnx⟩ := hrel
      have HOP := hide hop
      have HO6 := hide ho6
      have HO7 := hide ho7
      have HNX := hide hnx
      have hbs := hnx.size
      clear hop ho6 ho7 hnx
      by_cases hlt : k < s.size
      · have HB := hide (bt_at s k hlt)
        have HOK := hide (HOKA.out k hlt)
        have b1 : (0 : Int) ≤ (k : Int) := by omega
        have b3 : (k : Int) < (s.size : Int) := by omega
        go_wp2_with fail
        refine (isBetween_any _ s[k]).mono ?_
        rintro e w2 ⟨rfl, hw⟩
        subst hw
        cases c1 : Lat.blankN s[k].toNat
        · have HT : Hid (Lat.brackN (Lat.bt s k) = false → (Lat.tok s k).2 = false) := hide (fun h => by
            cases ho : (Lat.tok s k).2
            · rfl
            · have h5 := HOK.out
              unfold Lat.okAt at h5
              rw [h, HB.out, c1] at h5
              rcases HOP.out ho with h6 | h6
              · omega
              · rw [HB.out] at h6; rw [h6] at h5; cases h5)
          have hlen : ((Lat.tok s k).1.map (Lat.ext s)).length ≤ 4096 := by
            have := (tok_inv s k).1
            rw [List.length_map]; omega
          have hlen7 : ((Lat.tok s k).1.map fun p => (p.1 : Int)).length ≤ 4096 := by
            have := (tok_inv s k).1
            rw [List.length_map]; omega
          go_wp2_with fail
          refine (wordEnd_any _ s k hs4 hlt).mono ?_
          rintro e w3 ⟨b, rfl, hend, hw⟩
          subst hw
          have hb1 := hend.1
          have hb2 := hend.2.1
          have HW := hide (tok_word hend (by rw [HB.out]; exact c1) HT.out)
          clear hend
          have d1 : (k : Int) ≤ (b : Int) := by omega
          have d2 : (b : Int) ≤ (s.size : Int) := by omega
          have d3 : (0 : Int) ≤ (b : Int) := by omega
          have hex : (s.extract k b).size ≤ 4096 := by rw [ByteArray.size_extract]; omega
          go_wp2_with fail
          refine (clone_any _ (s.extract k b) (by omega)).mono ?_
          rintro e w4 ⟨rfl, hb4⟩
          have HO64 : Hid (Own w4 w1.heap.size _ _) := hide (own_below HO6.out hb4)
          have HO74 : Hid (OwnI w4 w1.heap.size _ _) := hide (own_below HO7.out hb4)
          have HNX4 := hide (up HNX.out hb4)
          have hbs4 := HNX4.out.size
          clear hb4 HO6 HO7 HNX
          go_wp2_with (first
            | (at_builtin; refine wpList_append_str rfl _ _ rfl w1.heap.size _ _ rfl (World.ownsRow.alloc HO64.out _) _ (s.extract k b) rfl (cell_str1 _ _) (by omega) (by simp; omega) ?_; intro v6' w5 hown2 hgrow2; have HO62 := hide hown2; have HO72 := hide (OwnI.kept HO74.out HO64.out hgrow2); have HR2 := hide ((HNX4.out.alloc hbs4 (.cells #[.string (s.extract k b)] 9)).grown hgrow2 (by simp; omega) (fun j hj => (HO64.out.lt j hj).1)); have hbs2 := HR2.out.size; clear hown2 hgrow2)
            | (at_builtin; refine wpList_append_int rfl _ _ rfl w1.heap.size _ _ rfl (World.ownsRow.alloc HO72.out _) _ (k : Int) rfl (cell_int1 _ _) (by omega) (by simp; omega) ?_; intro v7' w6 hown3 hgrow3; have HO73 := hide hown3; have HO63 := hide (Own.kept HO62.out HO72.out hgrow3); have HR3 := hide ((HR2.out.alloc hbs2 (.cells #[.int .i64 (k : Int)] 3)).grown hgrow3 (by simp; omega) (fun j hj => (HO72.out.lt j hj).1)); clear hown3 hgrow3)
            | fail)
          go_roundw
          case rel => exact ⟨b, hb2, rfl, HW.out.2, by rw [HW.out.1, List.map_append]; exact HO63.out, by rw [HW.out.1, List.map_append]; exact HO73.out, HR3.out⟩
          case measure => simp [intOf]; omega
        · have HT1 : Hid (Lat.tok s (k + 1) = ((Lat.tok s k).1, false)) := hide (by rw [Lat.tok, HB.out, c1]; simp)
          go_wp2
          go_roundw
          case rel => exact ⟨k + 1, by omega, by go_num, (fun h => by rw [HT1.out] at h; cases h), by rw [HT1.out]; exact HO6.out, by rw [HT1.out]; exact HO7.out, HNX.out⟩
          case measure => simp [intOf]; omega
      · have e : k = s.size := by omega
        subst e
        have hlen := (tok_inv s s.size).1
        have HS := hide (HO6.out.strsC (fun t ht => by
          obtain ⟨p, _, rfl⟩ := List.mem_map.1 ht
          unfold Lat.ext maxLen
          rw [ByteArray.size_extract]; omega) (by rw [List.length_map]; omega))
        have HI := hide (HO7.out.ints (by rw [List.length_map]; omega))
        clear hlen
        go_wp2
        (try simp only [Exit.inBlock, Exit.then])
        refine bodyPost_ret (results_tmp4 rfl _ _ _) rfl ?_
        exact ⟨_, _, ret4 (by rw [HE1.out]; rfl) (by rw [HE2.out]), by rw [HE3.out]; exact HS.out, by rw [HE4.out]; exact HI.out, by rw [HE4.out]; exact HO7.out, by rw [HE3.out]; exact HO6.out, HNX.out⟩

theorem words_any (w : World) (s : ByteArray) (hs : s.size ≤ maxLen) :
    Calls Tryz.prog 22 #[.string s] w fun e w' => ∃ v6 v7, e = .returned (.tuple #[v6, v7, .int .i64 (Lat.wn s), .int .i64 (Lat.we s)]) ∧ StrsC w' v6 (Lat.wds s) ∧ Ints w' v7 (Lat.wats s) ∧ Below w.heap.size w w' :=
  (words_own w s hs).mono fun _ _ ⟨v6, v7, h1, h2, h3, _, _, h5⟩ => ⟨v6, v7, h1, h2, h3, h5⟩

end Go.Proofs.YtbncnkfogkhoeabGreatDoor
