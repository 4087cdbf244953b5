/- Walks over package downref: cutDot, slices.Contains of strings, expr. -/
import Derived.Test.YtholefgckcoklaaGreatDoorBZAC
import Derived.Test.YtholefgckcoklaaGreatDoorBZAB
import Derived.Deep.QuietTactic
import Derived.BigQuiet
namespace Go.Proofs.YtholefgckcoklaaGreatDoor
open Go.RowKit
namespace Lat
def dotAt (s : ByteArray) : Option Nat := (List.range s.size).find? fun i => s.data.toList.getD i 0 == 46
def preS (s : ByteArray) : ByteArray := match dotAt s with | some i => s.extract 0 i | none => s
def sufS (s : ByteArray) : ByteArray := match dotAt s with | some i => s.extract (i + 1) s.size | none => ⟨#[]⟩
end Lat
theorem byte_at (s : ByteArray) (k : Nat) (hk : k < s.size) : s.data.toList.getD k 0 = s[k] := by
  have h : k < s.data.toList.length := by simpa using hk
  rw [List.getD, List.getElem?_eq_getElem h]; rfl
theorem extract_size (s : ByteArray) (a b : Nat) : (s.extract a b).size ≤ s.size := by
  rw [ByteArray.size_extract]; omega
theorem preS_le (s : ByteArray) : (Lat.preS s).size ≤ s.size := by
  unfold Lat.preS
  split
  · exact extract_size _ _ _
  · exact Nat.le_refl _
theorem sufS_le (s : ByteArray) : (Lat.sufS s).size ≤ s.size := by
  unfold Lat.sufS
  split
  · exact extract_size _ _ _
  · exact Nat.zero_le _
theorem byte_eq (c : UInt8) (n : Nat) (hn : n < 256) : (c == UInt8.ofNat n) = ((c.toNat : Int) == (n : Int)) := by
  rw [Bool.eq_iff_iff]
  simp only [beq_iff_eq]
  constructor
  · rintro rfl; simp; omega
  · intro h
    have : c.toNat = n := by omega
    rw [← this]; simp
set_option maxHeartbeats 1000000 in
theorem cutDot_any (w : World) (s : ByteArray) (hs : s.size ≤ maxLen) :
    Calls Tryz.prog 62 #[.string s] w fun e w' => e = .returned (.tuple #[.string (Lat.preS s), .string (Lat.sufS s), .bool (Lat.dotAt s).isSome]) ∧ Below w.heap.size w w' := by
  unfold maxLen at hs
  go_enter Tryz.func62, Tryz.ntmps62
  go_wp2
  go_loop [5] (fun i => ∃ k : Nat, k ≤ s.size ∧ i = .int .i64 k ∧ ∀ d, d < k → (s.data.toList.getD d 0 == 46) = false) (fun i => s.size - (intOf i).toNat)
  case atStart => exact ⟨0, Nat.zero_le _, rfl, fun d hd => absurd hd (Nat.not_lt_zero _)⟩
  case round =>
    obtain ⟨k, hk, rfl, hall⟩ := hrel
    have HA := hide hall
    clear hall
    by_cases hlt : k < s.size
    · have hb : (s.data.toList.getD k 0 == 46) = ((s[k].toNat : Int) == 46) := by rw [byte_at s k hlt]; exact byte_eq _ 46 (by decide)
      have HB := hide hb
      clear hb
      cases hc : ((s[k].toNat : Int) == 46)
      · go_wp2
        go_round
        case rel => exact ⟨k + 1, by omega, by go_num, fun d hd => by
            by_cases e : d = k
            · subst e; rw [HB.out]; exact hc
            · exact HA.out d (by omega)⟩
        case measure => simp [intOf]; omega
      · have hd : Lat.dotAt s = some k := Lat.find_hit hlt HA.out (by rw [HB.out]; exact hc)
        have HD := hide hd
        have b1 : (0 : Int) ≤ (k : Int) := by omega
        have b2 : (k : Int) ≤ (s.size : Int) := by omega
        have b3 : (k : Int) + 1 ≤ (s.size : Int) := by omega
        clear hd
        go_wp2_with fail
        go_quiet (fail)
        go_wp2
        go_ret3
        exact ⟨by simp [Lat.preS, Lat.sufS, HD.out], drewBelow (Below.refl _ _) _⟩
    · go_wp2
      go_ret3
      have hd : Lat.dotAt s = none := Lat.find_none (fun d hd => HA.out d (by omega))
      exact ⟨by simp [Lat.preS, Lat.sufS, hd], Below.refl _ _⟩
namespace Lat
def opS : List ByteArray := [⟨#[43]⟩, ⟨#[45]⟩, ⟨#[42]⟩, ⟨#[60]⟩, ⟨#[61]⟩]
def opB (s : ByteArray) : Bool := decide (0 ≤ indexI opS s)
def callB (s : ByteArray) : Bool := nameB (preS s).data.toList && (!(dotAt s).isSome || nameB (sufS s).data.toList)
def exprB : Nat → Ex → Bool
  | 0, _ => false
  | m + 1, x =>
    if x.kind = 1 then decide (0 ≤ x.n) && decide (x.n ≤ 999999) && x.name.toList.isEmpty && (x.args.length == 0)
    else if x.kind = 2 then (x.n == 0) && nameB x.name.data.toList && (x.args.length == 0)
    else if x.kind = 3 then (x.n == 0) && opB x.name && (x.args.length == 2) && x.args.all (exprB m)
    else if x.kind = 4 then (x.n == 0) && callB x.name && decide (x.args.length ≤ 4) && x.args.all (exprB m)
    else false
end Lat
theorem containsS_any (w : World) (v : Value) (ss : List ByteArray) (t : ByteArray) (hS : Strs w v ss) :
    Calls Tryz.prog 49 #[v, .string t] w fun e w' => e = .returned (.bool (decide (0 ≤ Lat.indexI ss t))) ∧ w' = w := by
  have HS := hide hS
  obtain ⟨a, b, off, cap, rfl, _⟩ := hS
  go_enter Tryz.func49, Tryz.ntmps49
  go_wp2_with fail
  refine (indexS_any w _ ss t HS.out).mono ?_
  rintro e w' ⟨rfl, hw⟩
  subst hw
  obtain ⟨i, hi⟩ : ∃ i, i = Lat.indexI ss t := ⟨_, rfl⟩
  have HI := hide hi
  rw [← hi]
  clear hi
  go_wp2
  go_ret
  exact ⟨ret_bool (by rw [HI.out]), rfl⟩
theorem boxCells4 (w : World) (c0 c1 c2 c3 : Value) (t : TypeId) : (w.alloc (.cells #[c0, c1, c2, c3] t)).cell? ⟨w.heap.size, 3, none⟩ = some c3 := by simp [go_sem]
theorem all_get? {p : Ex → Bool} {l : List Ex} (h : ∀ (i : Nat) (x : Ex), l[i]? = some x → p x = true) : l.all p = true := by
  rw [List.all_eq_true]; intro x hx
  obtain ⟨i, hi, rfl⟩ := List.mem_iff_getElem.1 hx
  exact h i _ (List.getElem?_eq_getElem hi)
theorem all_not? {p : Ex → Bool} {l : List Ex} {i : Nat} {x : Ex} (hx : l[i]? = some x) (h : p x = false) : l.all p = false := by
  rw [List.all_eq_false]
  exact ⟨x, List.mem_of_getElem? hx, by simp [h]⟩
theorem ops_strs (w2 : World) : Strs (w2.alloc (.cells #[.string ⟨#[43]⟩, .string ⟨#[45]⟩, .string ⟨#[42]⟩, .string ⟨#[60]⟩, .string ⟨#[61]⟩] 9)) (.slice (some ⟨w2.heap.size, 0, none⟩) 5 5) Lat.opS := by
  refine ⟨_, w2.heap.size, 0, 5, rfl, fun _ => rfl, by decide, fun s hs => ?_, fun j hj => ?_⟩
  · simp only [Lat.opS, List.mem_cons, List.not_mem_nil, or_false] at hs
    rcases hs with rfl | rfl | rfl | rfl | rfl <;> decide
  · have hj' : j < 5 := hj
    obtain rfl | rfl | rfl | rfl | rfl : j = 0 ∨ j = 1 ∨ j = 2 ∨ j = 3 ∨ j = 4 := by omega
    all_goals simp [go_sem, Lat.opS]
set_option maxHeartbeats 2000000 in
set_option maxRecDepth 100000 in
theorem expr_any (m : Nat) : ∀ (w : World) (c0 c1 c2 c3 : Value) (x : Ex), ExAt w m c0 c1 c2 c3 x →
    Calls Tryz.prog 115 #[.agg #[c0, c1, c2, c3]] w fun e w' => e = .returned (.bool (Lat.exprB m x)) ∧ Below w.heap.size w w' := by
  induction m with
  | zero => intro w c0 c1 c2 c3 x h; exact False.elim h
  | succ m ih =>
    intro w c0 c1 c2 c3 x h
    have HI := hide ih
    clear ih
    obtain ⟨rfl, rfl, rfl, hsz, hk1, hk2, a, b, off, cap, rfl, ha, hl, hel⟩ := h
    obtain ⟨k, n, s, args⟩ := x
    simp only at hsz hk1 hk2 ha hl hel ⊢
    have HEL := hide hel
    have HA := hide ha
    clear hel ha
    obtain ⟨len, hlen⟩ : ∃ len, len = args.length := ⟨_, rfl⟩
    have HL := hide hlen
    rw [← hlen] at hl HA ⊢
    clear hlen
    by_cases h1 : k = 1
    · subst h1
      have HE : Hid (Lat.exprB (m + 1) ⟨1, n, s, args⟩ = (decide (0 ≤ n) && decide (n ≤ 999999) && s.toList.isEmpty && (len == 0))) := hide (by
        rw [HL.out]; simp [Lat.exprB])
      go_enter Tryz.func115, Tryz.ntmps115
      go_wp2_with fail
      refine (in_any _ _ _ _).mono ?_
      rintro e w' ⟨rfl, hw⟩
      subst hw
      generalize (decide (0 ≤ n) && decide (n ≤ 999999)) = b1 at *
      cases b1
      · go_wp2
        go_ret
        exact ⟨ret_bool (by rw [HE.out]; rfl), boxBelow _ _⟩
      · cases hb2 : s.toList.isEmpty
        · have HB2 := hide hb2
          go_wp2
          go_ret
          exact ⟨ret_bool (by rw [HE.out, HB2.out]; rfl), boxBelow _ _⟩
        · have HB2 := hide hb2
          go_wp2
          go_ret
          exact ⟨ret_bool (by rw [HE.out, HB2.out]; exact nat_beq len 0), boxBelow _ _⟩
    by_cases h2 : k = 2
    · subst h2
      have HE : Hid (Lat.exprB (m + 1) ⟨2, n, s, args⟩ = ((n == 0) && Lat.nameB s.data.toList && (len == 0))) := hide (by
        rw [HL.out]; simp [Lat.exprB])
      cases hn : (n == 0)
      · have HN := hide hn
        go_enter Tryz.func115, Tryz.ntmps115
        go_wp2_with fail
        go_ret
        exact ⟨ret_bool (by rw [HE.out, HN.out]; rfl), boxBelow _ _⟩
      · have HN := hide hn
        go_enter Tryz.func115, Tryz.ntmps115
        go_wp2_with fail
        refine (name_any _ s hsz).mono ?_
        rintro e w' ⟨rfl, hw⟩
        subst hw
        cases hb2 : Lat.nameB s.data.toList
        · have HB2 := hide hb2
          go_wp2
          go_ret
          exact ⟨ret_bool (by rw [HE.out, HN.out, HB2.out]; rfl), boxBelow _ _⟩
        · have HB2 := hide hb2
          by_cases hl0 : len = 0
          · have hl0' : ((len : Int) == 0) = true := by simp [hl0]
            have HL0 := hide hl0
            clear hl0
            go_wp2
            refine wp_loop_rounds 1 ?_
            rw [rounds_succ]
            go_wp2
            go_ret
            exact ⟨ret_bool (by rw [HE.out, HN.out, HB2.out, HL0.out]; rfl), boxBelow _ _⟩
          · have hl0' : ((len : Int) == 0) = false := by simp [hl0]
            have HL0 := hide hl0
            clear hl0
            go_wp2
            go_ret
            exact ⟨ret_bool (by rw [HE.out, HN.out, HB2.out, show (len == 0) = false from by simp [HL0.out]]; rfl), boxBelow _ _⟩
    by_cases h3 : k = 3
    · subst h3
      have HE : Hid (Lat.exprB (m + 1) ⟨3, n, s, args⟩ = ((n == 0) && Lat.opB s && (len == 2) && args.all (Lat.exprB m))) := hide (by
        rw [HL.out]; simp [Lat.exprB])
      cases hn : (n == 0)
      · have HN := hide hn
        go_enter Tryz.func115, Tryz.ntmps115
        go_wp2_with fail
        go_ret
        exact ⟨ret_bool (by rw [HE.out, HN.out]; rfl), boxBelow _ _⟩
      · have HN := hide hn
        have HS : Hid (∀ w2 : World, Strs (w2.alloc (.cells #[.string ⟨#[43]⟩, .string ⟨#[45]⟩, .string ⟨#[42]⟩, .string ⟨#[60]⟩, .string ⟨#[61]⟩] 9)) (.slice (some ⟨w2.heap.size, 0, none⟩) 5 5) Lat.opS) := hide (ops_strs)
        go_enter Tryz.func115, Tryz.ntmps115
        go_wp2_with fail
        refine (containsS_any _ _ Lat.opS s ?_).mono ?_
        · have := HS.out (w.alloc (.cells #[.int .i64 3, .int .i64 n, .string s, .slice a len cap] 103))
          simpa using this
        rintro e w' ⟨rfl, hw⟩
        rw [show decide (0 ≤ Lat.indexI Lat.opS s) = Lat.opB s from rfl]
        cases hb2 : Lat.opB s
        · have HB2 := hide hb2
          subst hw
          go_wp2
          go_ret
          exact ⟨ret_bool (by rw [HE.out, HN.out, HB2.out]; rfl), ((Below.refl _ _).alloc (Nat.le_refl _) _).alloc (by simp) _⟩
        · have HB2 := hide hb2
          have HB0 : Hid (Below w.heap.size w w') := hide (by rw [hw]; exact ((Below.refl _ _).alloc (Nat.le_refl _) _).alloc (by simp) _)
          have q3 : w'.cell? ⟨w.heap.size, 3, none⟩ = some (.slice a len cap) := by rw [hw]; simp [go_sem]
          clear hw
          by_cases hl0 : len = 2
          · have hl0' : ((len : Int) == 2) = true := by simp; omega
            have HL0 := hide hl0
            have hl2 : (2 : Int) = (len : Int) := by omega
            clear hl0
            go_wp2
            rw [hl2]
            clear hl2 hl0'
            generalize hW0 : w' = W0 at *
            clear hW0
            go_loopw [8] (fun i wr => ∃ j : Nat, j ≤ len ∧ i = .int .i64 j ∧ (∀ d y, d < j → args[d]? = some y → Lat.exprB m y = true) ∧ Below W0.heap.size W0 wr) (fun i _ => len - (intOf i).toNat)
            case atStart => exact ⟨0, Nat.zero_le _, rfl, fun d y hd => absurd hd (Nat.not_lt_zero _), Below.refl _ _⟩
            case round =>
              obtain ⟨j, hj, rfl, hall, hnx⟩ := hrel
              have HALL := hide hall
              clear hall
              have t3 := cellUp q3 hnx
              by_cases hjl : j < len
              · obtain ⟨y, hy⟩ : ∃ y, args[j]? = some y := ⟨_, List.getElem?_eq_getElem (by rw [← HL.out]; exact hjl)⟩
                obtain ⟨e0, e1, e2, e3, g0, g1, g2, g3, hye⟩ := HEL.out j y hy
                have HY := hide hy
                obtain rfl := HA.out (by omega)
                have hbb := up HB0.out hnx
                have u0 := cellUp g0 hbb
                have u1 := cellUp g1 hbb
                have u2' := cellUp g2 hbb
                have u3' := cellUp g3 hbb
                have HYE := hide (hye.below hbb)
                have HNX := hide hnx
                clear g0 g1 g2 g3 hye hy hbb hnx
                go_wp2_with fail
                refine (HI.out _ e0 e1 e2 e3 y HYE.out).mono ?_
                rintro e w5 ⟨rfl, hb5⟩
                have HN5 := hide (up HNX.out hb5)
                clear hb5 HNX
                cases hyb : Lat.exprB m y
                · have HYB := hide hyb
                  go_wp2
                  go_ret
                  exact ⟨ret_bool (by rw [HE.out, all_not? HY.out HYB.out]; rw [HN.out, HB2.out, HL0.out]; rfl), up HB0.out HN5.out⟩
                · have HYB := hide hyb
                  go_wp2
                  go_roundw
                  case rel => exact ⟨j + 1, by omega, by go_num, fun d z hd hz => by
                      by_cases e : d = j
                      · subst e
                        rw [HY.out] at hz
                        cases hz
                        exact HYB.out
                      · exact HALL.out d z (by omega) hz, HN5.out⟩
                  case measure => simp [intOf]; omega
              · go_wp2
                go_ret
                have hall : args.all (Lat.exprB m) = true := all_get? (fun d z hz => HALL.out d z (by
                  have := (List.getElem?_eq_some_iff.1 hz).1
                  have := HL.out
                  omega) hz)
                exact ⟨ret_bool (by rw [HE.out, hall]; rw [HN.out, HB2.out, HL0.out]; rfl), up HB0.out hnx⟩
          · have hl0' : ((len : Int) == 2) = false := by simp; omega
            have HL0 := hide hl0
            clear hl0
            go_wp2
            go_ret
            exact ⟨ret_bool (by rw [HE.out, HN.out, HB2.out, show (len == 2) = false from by simp [HL0.out]]; rfl), HB0.out⟩
    by_cases h4 : k = 4
    · subst h4
      have HE : Hid (Lat.exprB (m + 1) ⟨4, n, s, args⟩ = ((n == 0) && Lat.callB s && decide (len ≤ 4) && args.all (Lat.exprB m))) := hide (by
        rw [HL.out]; simp [Lat.exprB])
      have hp1 : (Lat.preS s).size ≤ maxLen := Nat.le_trans (preS_le s) hsz
      have hp2 : (Lat.sufS s).size ≤ maxLen := Nat.le_trans (sufS_le s) hsz
      have HC : Hid (Lat.callB s = (Lat.nameB (Lat.preS s).data.toList && (!(Lat.dotAt s).isSome || Lat.nameB (Lat.sufS s).data.toList))) := rfl
      have HCUT : Hid (∀ w, Calls Tryz.prog 62 #[.string s] w fun e w' => e = .returned (.tuple #[.string (Lat.preS s), .string (Lat.sufS s), .bool (Lat.dotAt s).isSome]) ∧ Below w.heap.size w w') := fun w => cutDot_any w s hsz
      generalize Lat.preS s = pre at *
      generalize Lat.sufS s = suf at *
      generalize (Lat.dotAt s).isSome = dot at *
      cases hn : (n == 0)
      · have HN := hide hn
        go_enter Tryz.func115, Tryz.ntmps115
        go_wp2_with fail
        refine (HCUT.out _).mono ?_
        rintro e w1 ⟨rfl, hb1⟩
        have q3 := cellUp (boxCells4 w (.int .i64 4) (.int .i64 n) (.string s) (.slice a len cap) 103) hb1
        have HB0 := hide (up1 hb1)
        clear hb1
        go_wp2_with fail
        go_ret
        exact ⟨ret_bool (by rw [HE.out, HN.out]; rfl), HB0.out⟩
      · have HN := hide hn
        go_enter Tryz.func115, Tryz.ntmps115
        go_wp2_with fail
        refine (HCUT.out _).mono ?_
        rintro e w1 ⟨rfl, hb1⟩
        have q3 := cellUp (boxCells4 w (.int .i64 4) (.int .i64 n) (.string s) (.slice a len cap) 103) hb1
        have HB0 := hide (up1 hb1)
        clear hb1
        go_wp2_with fail
        refine (name_any _ pre hp1).mono ?_
        rintro e w' ⟨rfl, hw⟩
        subst hw
        cases hb2 : Lat.nameB pre.data.toList
        · have HB2 := hide hb2
          go_wp2_with fail
          go_ret
          exact ⟨ret_bool (by rw [HE.out, HN.out, HC.out, HB2.out]; rfl), HB0.out⟩
        · have HB2 := hide hb2
          by_cases hl0 : len ≤ 4
          · have hl0' : decide ((len : Int) ≤ 4) = true := by simp; omega
            have HL0 : Hid (decide (len ≤ 4) = true) := hide (by simp [hl0])
            cases dot
            · have HCB : Hid (Lat.callB s = true) := hide (by rw [HC.out, HB2.out]; rfl)
              go_wp2_with fail
              generalize hW0 : w' = W0 at *
              clear hW0
              go_loopw [8] (fun i wr => ∃ j : Nat, j ≤ len ∧ i = .int .i64 j ∧ (∀ d y, d < j → args[d]? = some y → Lat.exprB m y = true) ∧ Below W0.heap.size W0 wr) (fun i _ => len - (intOf i).toNat)
              case atStart => exact ⟨0, Nat.zero_le _, rfl, fun d y hd => absurd hd (Nat.not_lt_zero _), Below.refl _ _⟩
              case round =>
                obtain ⟨j, hj, rfl, hall, hnx⟩ := hrel
                have HALL := hide hall
                clear hall
                have t3 := cellUp q3 hnx
                by_cases hjl : j < len
                · obtain ⟨y, hy⟩ : ∃ y, args[j]? = some y := ⟨_, List.getElem?_eq_getElem (by rw [← HL.out]; exact hjl)⟩
                  obtain ⟨e0, e1, e2, e3, g0, g1, g2, g3, hye⟩ := HEL.out j y hy
                  have HY := hide hy
                  obtain rfl := HA.out (by omega)
                  have hbb := up HB0.out hnx
                  have u0 := cellUp g0 hbb
                  have u1 := cellUp g1 hbb
                  have u2' := cellUp g2 hbb
                  have u3' := cellUp g3 hbb
                  have HYE := hide (hye.below hbb)
                  have HNX := hide hnx
                  clear g0 g1 g2 g3 hye hy hbb hnx
                  go_wp2_with fail
                  refine (HI.out _ e0 e1 e2 e3 y HYE.out).mono ?_
                  rintro e w5 ⟨rfl, hb5⟩
                  have HN5 := hide (up HNX.out hb5)
                  clear hb5 HNX
                  cases hyb : Lat.exprB m y
                  · have HYB := hide hyb
                    go_wp2
                    go_ret
                    exact ⟨ret_bool (by rw [HE.out, all_not? HY.out HYB.out]; rw [HN.out, HCB.out, HL0.out]; rfl), up HB0.out HN5.out⟩
                  · have HYB := hide hyb
                    go_wp2
                    go_roundw
                    case rel => exact ⟨j + 1, by omega, by go_num, fun d z hd hz => by
                        by_cases e : d = j
                        · subst e
                          rw [HY.out] at hz
                          cases hz
                          exact HYB.out
                        · exact HALL.out d z (by omega) hz, HN5.out⟩
                    case measure => simp [intOf]; omega
                · go_wp2
                  go_ret
                  have hall : args.all (Lat.exprB m) = true := all_get? (fun d z hz => HALL.out d z (by
                    have := (List.getElem?_eq_some_iff.1 hz).1
                    have := HL.out
                    omega) hz)
                  exact ⟨ret_bool (by rw [HE.out, hall]; rw [HN.out, HCB.out, HL0.out]; rfl), up HB0.out hnx⟩
            · go_wp2_with fail
              refine (name_any _ suf hp2).mono ?_
              rintro e w'' ⟨rfl, hw⟩
              subst hw
              cases hb3 : Lat.nameB suf.data.toList
              · have HB3 := hide hb3
                go_wp2_with fail
                go_ret
                exact ⟨ret_bool (by rw [HE.out, HN.out, HC.out, HB2.out, HB3.out]; rfl), HB0.out⟩
              · have HCB : Hid (Lat.callB s = true) := hide (by rw [HC.out, HB2.out, hb3]; rfl)
                go_wp2_with fail
                generalize hW0 : w'' = W0 at *
                clear hW0
                go_loopw [8] (fun i wr => ∃ j : Nat, j ≤ len ∧ i = .int .i64 j ∧ (∀ d y, d < j → args[d]? = some y → Lat.exprB m y = true) ∧ Below W0.heap.size W0 wr) (fun i _ => len - (intOf i).toNat)
                case atStart => exact ⟨0, Nat.zero_le _, rfl, fun d y hd => absurd hd (Nat.not_lt_zero _), Below.refl _ _⟩
                case round =>
                  obtain ⟨j, hj, rfl, hall, hnx⟩ := hrel
                  have HALL := hide hall
                  clear hall
                  have t3 := cellUp q3 hnx
                  by_cases hjl : j < len
                  · obtain ⟨y, hy⟩ : ∃ y, args[j]? = some y := ⟨_, List.getElem?_eq_getElem (by rw [← HL.out]; exact hjl)⟩
                    obtain ⟨e0, e1, e2, e3, g0, g1, g2, g3, hye⟩ := HEL.out j y hy
                    have HY := hide hy
                    obtain rfl := HA.out (by omega)
                    have hbb := up HB0.out hnx
                    have u0 := cellUp g0 hbb
                    have u1 := cellUp g1 hbb
                    have u2' := cellUp g2 hbb
                    have u3' := cellUp g3 hbb
                    have HYE := hide (hye.below hbb)
                    have HNX := hide hnx
                    clear g0 g1 g2 g3 hye hy hbb hnx
                    go_wp2_with fail
                    refine (HI.out _ e0 e1 e2 e3 y HYE.out).mono ?_
                    rintro e w5 ⟨rfl, hb5⟩
                    have HN5 := hide (up HNX.out hb5)
                    clear hb5 HNX
                    cases hyb : Lat.exprB m y
                    · have HYB := hide hyb
                      go_wp2
                      go_ret
                      exact ⟨ret_bool (by rw [HE.out, all_not? HY.out HYB.out]; rw [HN.out, HCB.out, HL0.out]; rfl), up HB0.out HN5.out⟩
                    · have HYB := hide hyb
                      go_wp2
                      go_roundw
                      case rel => exact ⟨j + 1, by omega, by go_num, fun d z hd hz => by
                          by_cases e : d = j
                          · subst e
                            rw [HY.out] at hz
                            cases hz
                            exact HYB.out
                          · exact HALL.out d z (by omega) hz, HN5.out⟩
                      case measure => simp [intOf]; omega
                  · go_wp2
                    go_ret
                    have hall : args.all (Lat.exprB m) = true := all_get? (fun d z hz => HALL.out d z (by
                      have := (List.getElem?_eq_some_iff.1 hz).1
                      have := HL.out
                      omega) hz)
                    exact ⟨ret_bool (by rw [HE.out, hall]; rw [HN.out, HCB.out, HL0.out]; rfl), up HB0.out hnx⟩
          · have hl0' : decide ((len : Int) ≤ 4) = false := by simp; omega
            have HL0 : Hid (decide (len ≤ 4) = false) := hide (by simp; omega)
            cases dot
            · go_wp2_with fail
              go_ret
              exact ⟨ret_bool (by rw [HE.out, HN.out, HL0.out, Bool.and_false]; rfl), HB0.out⟩
            · go_wp2_with fail
              refine (name_any _ suf hp2).mono ?_
              rintro e w'' ⟨rfl, hw⟩
              subst hw
              cases hb3 : Lat.nameB suf.data.toList
              · go_wp2_with fail
                go_ret
                exact ⟨ret_bool (by rw [HE.out, HN.out, HL0.out, Bool.and_false]; rfl), HB0.out⟩
              · go_wp2_with fail
                go_ret
                exact ⟨ret_bool (by rw [HE.out, HN.out, HL0.out, Bool.and_false]; rfl), HB0.out⟩
    · have hk1' : (k == 1) = false := by simp [h1]
      have hk2' : (k == 2) = false := by simp [h2]
      have hk3' : (k == 3) = false := by simp [h3]
      have hk4' : (k == 4) = false := by simp [h4]
      have HE : Hid (Lat.exprB (m + 1) ⟨k, n, s, args⟩ = false) := hide (by simp [Lat.exprB, h1, h2, h3, h4])
      clear h1 h2 h3 h4
      go_enter Tryz.func115, Tryz.ntmps115
      go_wp2_with fail
      go_ret
      exact ⟨ret_bool HE.out.symm, boxBelow _ _⟩
end Go.Proofs.YtholefgckcoklaaGreatDoor
