/- Walks over package tree: hasParts, isExpr. -/
import Derived.Test.YtholefgckcoklaaGreatDoorBZAL
namespace Go.Proofs.YtholefgckcoklaaGreatDoor
open Go.RowKit
namespace Lat
def partsB (x : Ex) : Bool :=
  if x.kind = 1 then decide (0 ≤ x.n) && decide (x.n ≤ 999999) && x.name.toList.isEmpty && (x.args.length == 0)
  else if x.kind = 2 then nameB x.name.data.toList && (x.n == 0) && (x.args.length == 0)
  else if x.kind = 3 then opB x.name && (x.n == 0) && (x.args.length == 2)
  else if x.kind = 4 then callB x.name && (x.n == 0) && decide (x.args.length ≤ 4)
  else false
end Lat
theorem exprB_parts (m : Nat) (x : Ex) : Lat.exprB (m + 1) x = (Lat.partsB x && x.args.all (Lat.exprB m)) := by
  obtain ⟨k, n, s, args⟩ := x
  simp only [Lat.exprB, Lat.partsB]
  by_cases h1 : k = 1
  · rw [if_pos h1, if_pos h1]
    cases args with
    | nil => simp
    | cons a l => simp
  rw [if_neg h1, if_neg h1]
  by_cases h2 : k = 2
  · rw [if_pos h2, if_pos h2]
    cases args with
    | nil => simp [Bool.and_comm]
    | cons a l => simp
  rw [if_neg h2, if_neg h2]
  by_cases h3 : k = 3
  · rw [if_pos h3, if_pos h3]
    simp only [Bool.and_assoc]
    rw [← Bool.and_assoc, ← Bool.and_assoc (Lat.opB s), Bool.and_comm (n == 0)]
  rw [if_neg h3, if_neg h3]
  by_cases h4 : k = 4
  · rw [if_pos h4, if_pos h4]
    simp only [Bool.and_assoc]
    rw [← Bool.and_assoc, ← Bool.and_assoc (Lat.callB s), Bool.and_comm (n == 0)]
  rw [if_neg h4, if_neg h4]; rfl
set_option maxHeartbeats 2000000 in
set_option maxRecDepth 100000 in
theorem hasParts_any (w : World) (k n : Int) (s : ByteArray) (a : Option Addr) (args : List Ex) (cap : Nat) (hs : s.size ≤ maxLen) (hl : args.length ≤ 9223372036854775807) :
    Calls Tryz.prog 243 #[.agg #[.int .i64 k, .int .i64 n, .string s, .slice a args.length cap]] w fun e w' => e = .returned (.bool (Lat.partsB ⟨k, n, s, args⟩)) ∧ Below w.heap.size w w' := by
  have HP : Hid (Lat.partsB ⟨k, n, s, args⟩ = if k = 1 then decide (0 ≤ n) && decide (n ≤ 999999) && s.toList.isEmpty && (args.length == 0)
      else if k = 2 then Lat.nameB s.data.toList && (n == 0) && (args.length == 0)
      else if k = 3 then Lat.opB s && (n == 0) && (args.length == 2)
      else if k = 4 then Lat.callB s && (n == 0) && decide (args.length ≤ 4)
      else false) := rfl
  generalize Lat.partsB ⟨k, n, s, args⟩ = R at *
  generalize args.length = len at *
  clear args
  by_cases h1 : k = 1
  · subst h1
    rw [if_pos rfl] at HP
    by_cases hn0 : 0 ≤ n
    · rw [decide_eq_true hn0, Bool.true_and] at HP
      by_cases hn1 : n ≤ 999999
      · rw [decide_eq_true hn1, Bool.true_and] at HP
        cases hb2 : s.toList.isEmpty
        · rw [hb2] at HP
          go_enter Tryz.func243, Tryz.ntmps243
          go_wp2
          go_ret
          exact ⟨ret_bool (by rw [HP.out]; rfl), boxBelow _ _⟩
        · rw [hb2, Bool.true_and] at HP
          go_enter Tryz.func243, Tryz.ntmps243
          go_wp2
          go_ret
          exact ⟨ret_bool (by rw [HP.out]; exact nat_beq len 0), boxBelow _ _⟩
      · rw [decide_eq_false hn1] at HP
        go_enter Tryz.func243, Tryz.ntmps243
        go_wp2
        go_ret
        exact ⟨ret_bool (by rw [HP.out]; rfl), boxBelow _ _⟩
    · rw [decide_eq_false hn0] at HP
      go_enter Tryz.func243, Tryz.ntmps243
      go_wp2
      go_ret
      exact ⟨ret_bool (by rw [HP.out]; rfl), boxBelow _ _⟩
  rw [if_neg h1] at HP
  by_cases h2 : k = 2
  · subst h2
    rw [if_pos rfl] at HP
    clear h1
    go_enter Tryz.func243, Tryz.ntmps243
    go_wp2_with fail
    refine (isName_any _ s hs).mono ?_
    rintro e w' ⟨rfl, hw⟩
    subst hw
    cases hb : Lat.nameB s.data.toList
    · rw [hb] at HP
      go_wp2
      go_ret
      exact ⟨ret_bool (by rw [HP.out]; rfl), boxBelow _ _⟩
    · rw [hb, Bool.true_and] at HP
      cases hn : (n == 0)
      · rw [hn] at HP
        go_wp2
        go_ret
        exact ⟨ret_bool (by rw [HP.out]; rfl), boxBelow _ _⟩
      · rw [hn, Bool.true_and] at HP
        go_wp2
        go_ret
        exact ⟨ret_bool (by rw [HP.out]; exact nat_beq len 0), boxBelow _ _⟩
  rw [if_neg h2] at HP
  by_cases h3 : k = 3
  · subst h3
    rw [if_pos rfl] at HP
    clear h1 h2
    go_enter Tryz.func243, Tryz.ntmps243
    go_wp2_with fail
    refine (isOperator_any _ s hs).mono ?_
    rintro e w' ⟨rfl, hw⟩
    subst hw
    cases hb : Lat.opB s
    · rw [hb] at HP
      go_wp2
      go_ret
      exact ⟨ret_bool (by rw [HP.out]; rfl), boxBelow _ _⟩
    · rw [hb, Bool.true_and] at HP
      cases hn : (n == 0)
      · rw [hn] at HP
        go_wp2
        go_ret
        exact ⟨ret_bool (by rw [HP.out]; rfl), boxBelow _ _⟩
      · rw [hn, Bool.true_and] at HP
        go_wp2
        go_ret
        exact ⟨ret_bool (by rw [HP.out]; exact nat_beq len 2), boxBelow _ _⟩
  rw [if_neg h3] at HP
  by_cases h4 : k = 4
  · subst h4
    rw [if_pos rfl] at HP
    clear h1 h2 h3
    have q1 : (w.alloc (.cells #[.int .i64 4, .int .i64 n, .string s, .slice a len cap] 103)).cell? ⟨w.heap.size, 1, none⟩ = some (.int .i64 n) := by simp [go_sem]
    have q3 := boxCells4 w (.int .i64 4) (.int .i64 n) (.string s) (.slice a len cap) 103
    go_enter Tryz.func243, Tryz.ntmps243
    go_wp2_with fail
    refine (isCallee_any _ s hs).mono ?_
    rintro e w1 ⟨rfl, hb1⟩
    have p1 := cellUp q1 hb1
    have p3 := cellUp q3 hb1
    have HB := hide (up1 hb1)
    clear q1 q3 hb1
    cases hb : Lat.callB s
    · rw [hb] at HP
      go_wp2
      go_ret
      exact ⟨ret_bool (by rw [HP.out]; rfl), HB.out⟩
    · rw [hb, Bool.true_and] at HP
      cases hn : (n == 0)
      · rw [hn] at HP
        go_wp2
        go_ret
        exact ⟨ret_bool (by rw [HP.out]; rfl), HB.out⟩
      · rw [hn, Bool.true_and] at HP
        go_wp2
        go_ret
        exact ⟨ret_bool (by rw [HP.out]; exact decide_eq_decide.2 (by omega)), HB.out⟩
  rw [if_neg h4] at HP
  have k1 : (k == 1) = false := by simp [h1]
  have k2 : (k == 2) = false := by simp [h2]
  have k3 : (k == 3) = false := by simp [h3]
  have k4 : (k == 4) = false := by simp [h4]
  clear h1 h2 h3 h4
  go_enter Tryz.func243, Tryz.ntmps243
  go_wp2
  go_ret
  exact ⟨ret_bool (by rw [HP.out]), boxBelow _ _⟩
set_option maxHeartbeats 2000000 in
set_option maxRecDepth 100000 in
theorem isExpr_any (m : Nat) : ∀ (w : World) (c0 c1 c2 c3 : Value) (x : Ex), ExAt w m c0 c1 c2 c3 x →
    Calls Tryz.prog 179 #[.agg #[c0, c1, c2, c3]] w fun e w' => e = .returned (.bool (Lat.exprB m x)) ∧ Below w.heap.size w w' := by
  induction m with
  | zero => intro w c0 c1 c2 c3 x h; exact False.elim h
  | succ m ih =>
    intro w c0 c1 c2 c3 x h
    have HI := hide ih
    clear ih
    obtain ⟨rfl, rfl, rfl, hsz, hk1, hk2, a, b, off, cap, rfl, ha, hl, hel⟩ := h
    obtain ⟨k, n, s, args⟩ := x
    simp only at hsz hk1 hk2 ha hl hel ⊢
    have HE := hide (exprB_parts m ⟨k, n, s, args⟩)
    have HPC := hide (fun w => hasParts_any w k n s a args cap hsz hl)
    have HEL := hide hel
    have HA := hide ha
    clear hel ha
    generalize Lat.partsB ⟨k, n, s, args⟩ = pb at *
    obtain ⟨len, hlen⟩ : ∃ len, len = args.length := ⟨_, rfl⟩
    have HL := hide hlen
    rw [← hlen] at hl HA HPC ⊢
    clear hlen
    have q3 := boxCells4 w (.int .i64 k) (.int .i64 n) (.string s) (.slice a len cap) 103
    go_enter Tryz.func179, Tryz.ntmps179
    go_wp2_with fail
    refine (HPC.out _).mono ?_
    rintro e W0 ⟨rfl, hb1⟩
    replace q3 := cellUp q3 hb1
    have HB0 := hide (up1 hb1)
    clear hb1
    cases pb
    · go_wp2
      go_ret
      exact ⟨ret_bool (by rw [HE.out]; rfl), HB0.out⟩
    · go_wp2
      go_loopw [11] (fun i wr => ∃ j : Nat, j ≤ len ∧ i = .int .i64 j ∧ (∀ d y, d < j → args[d]? = some y → Lat.exprB m y = true) ∧ Below W0.heap.size W0 wr) (fun i _ => len - (intOf i).toNat)
      case atStart => exact ⟨0, Nat.zero_le _, rfl, fun d y hd => absurd hd (Nat.not_lt_zero _), Below.refl _ _⟩
      case round =>
        obtain ⟨j, hj, rfl, hall, hnx⟩ := hrel
        have HALL := hide hall
        clear hall
        by_cases hjl : j < len
        · obtain ⟨y, hy⟩ : ∃ y, args[j]? = some y := ⟨_, List.getElem?_eq_getElem (by rw [← HL.out]; exact hjl)⟩
          obtain ⟨e0, e1, e2, e3, g0, g1, g2, g3, hye⟩ := HEL.out j y hy
          have HY := hide hy
          obtain rfl := HA.out (by omega)
          have hbb := up HB0.out hnx
          have u0 := cellUp g0 hbb
          have u1 := cellUp g1 hbb
          have u2' := cellUp g2 hbb
          have u3' := cellUp g3 hbb
          have HYE := hide (hye.below hbb)
          obtain ⟨a', cap', rfl, rfl, rfl, rfl⟩ := hye.shape
          have HNX := hide hnx
          clear g0 g1 g2 g3 hye hy hbb hnx
          go_wp2_with fail
          refine (HI.out _ _ _ _ _ y (HYE.out.below (boxBelow _ _))).mono ?_
          rintro e w5 ⟨rfl, hb5⟩
          have HN5 := hide (up HNX.out (up1 hb5))
          clear hb5 HNX
          cases hyb : Lat.exprB m y
          · have HYB := hide hyb
            go_wp2
            go_ret
            exact ⟨ret_bool (by rw [HE.out, all_not? HY.out HYB.out]; rfl), up HB0.out HN5.out⟩
          · have HYB := hide hyb
            go_wp2
            go_roundw
            case rel => exact ⟨j + 1, by omega, by go_num, fun d z hd hz => by
                by_cases e : d = j
                · subst e
                  rw [HY.out] at hz
                  cases hz
                  exact HYB.out
                · exact HALL.out d z (by omega) hz, HN5.out⟩
            case measure => simp [intOf]; omega
        · go_wp2
          go_ret
          have hall : args.all (Lat.exprB m) = true := all_get? (fun d z hz => HALL.out d z (by
            have := (List.getElem?_eq_some_iff.1 hz).1
            have := HL.out
            omega) hz)
          exact ⟨ret_bool (by rw [HE.out, hall]; rfl), up HB0.out hnx⟩
end Go.Proofs.YtholefgckcoklaaGreatDoor
namespace Go.Proofs.YtholefgckcoklaaGreatDoor
open Go.RowKit
namespace Lat
def inB (n : Nat) (a : Int) : Bool := decide (0 ≤ a) && decide (a < n)
end Lat
theorem Grid.drew {w : World} {v : Value} {n : Nat} {Z : Nat → Nat → Bool} (h : Grid w v n Z) : Grid w.drew v n Z := h.below (Below.refl _ _).drew
end Go.Proofs.YtholefgckcoklaaGreatDoor
