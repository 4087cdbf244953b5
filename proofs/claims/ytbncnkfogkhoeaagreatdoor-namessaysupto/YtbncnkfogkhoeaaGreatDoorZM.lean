/- Walks over package tree: hasParts, isExpr. -/
import Derived.Test.YtbncnkfogkhoeaaGreatDoorZF
import Derived.Test.YtbncnkfogkhoeaaGreatDoorZL
import Derived.Deep.RegionHeld3
import Derived.Test.YtbncnkfogkhoeaaGreatDoorZB
import Derived.Deep.OwnRows
import Derived.Laws.OwnMore
import Derived.OwnWalk
import Derived.Lib.AppendZerosOnto
import Derived.Lib.SliceRun
import Derived.Lib.Join
import Derived.Deep.AppendLies
namespace Go.Proofs.YtbncnkfogkhoeaaGreatDoor
open Go.RowKit

namespace Lat
/-- The expression itself, without its arguments. -/
def partsB (x : Ex) : Bool :=
  if x.kind = 1 then decide (0 ≤ x.n) && decide (x.n ≤ 999999) && x.name.toList.isEmpty && (x.args.length == 0)
  else if x.kind = 2 then nameB x.name.data.toList && (x.n == 0) && (x.args.length == 0)
  else if x.kind = 3 then opB x.name && (x.n == 0) && (x.args.length == 2)
  else if x.kind = 4 then callB x.name && (x.n == 0) && decide (x.args.length ≤ 4)
  else false
end Lat

theorem exprB_parts (m : Nat) (x : Ex) : Lat.exprB (m + 1) x = (Lat.partsB x && x.args.all (Lat.exprB m)) := by
  obtain ⟨k, n, s, args⟩ := x
  simp only [Lat.exprB, Lat.partsB]
  by_cases h1 : k = 1
  · rw [if_pos h1, if_pos h1]
    cases args with
    | nil => simp
    | cons a l => simp
  rw [if_neg h1, if_neg h1]
  by_cases h2 : k = 2
  · rw [if_pos h2, if_pos h2]
    cases args with
    | nil => simp [Bool.and_comm]
    | cons a l => simp
  rw [if_neg h2, if_neg h2]
  by_cases h3 : k = 3
  · rw [if_pos h3, if_pos h3]
    simp only [Bool.and_assoc]
    rw [← Bool.and_assoc, ← Bool.and_assoc (Lat.opB s), Bool.and_comm (n == 0)]
  rw [if_neg h3, if_neg h3]
  by_cases h4 : k = 4
  · rw [if_pos h4, if_pos h4]
    simp only [Bool.and_assoc]
    rw [← Bool.and_assoc, ← Bool.and_assoc (Lat.callB s), Bool.and_comm (n == 0)]
  rw [if_neg h4, if_neg h4]; rfl

set_option maxHeartbeats 2000000 in
set_option maxRecDepth 100000 in
theorem hasParts_any (w : World) (k n : Int) (s : ByteArray) (a : Option Addr) (args : List Ex) (cap : Nat) (hs : s.size ≤ maxLen) (hl : args.length ≤ 9223372036854775807) :
    Calls Tryz.prog 186 #[.agg #[.int .i64 k, .int .i64 n, .string s, .slice a args.length cap]] w fun e w' => e = .returned (.bool (Lat.partsB ⟨k, n, s, args⟩)) ∧ Below w.heap.size w w' := by
  have HP : Hid (Lat.partsB ⟨k, n, s, args⟩ = if k = 1 then decide (0 ≤ n) && decide (n ≤ 999999) && s.toList.isEmpty && (args.length == 0)
      else if k = 2 then Lat.nameB s.data.toList && (n == 0) && (args.length == 0)
      else if k = 3 then Lat.opB s && (n == 0) && (args.length == 2)
      else if k = 4 then Lat.callB s && (n == 0) && decide (args.length ≤ 4)
      else false) := rfl
  generalize Lat.partsB ⟨k, n, s, args⟩ = R at *
  generalize args.length = len at *
  clear args
  by_cases h1 : k = 1
  · subst h1
    rw [if_pos rfl] at HP
    by_cases hn0 : 0 ≤ n
    · rw [decide_eq_true hn0, Bool.true_and] at HP
      by_cases hn1 : n ≤ 999999
      · rw [decide_eq_true hn1, Bool.true_and] at HP
        cases hb2 : s.toList.isEmpty
        · rw [hb2] at HP
          go_enter Tryz.func186, Tryz.ntmps186
          go_wp2
          go_ret
          exact ⟨ret_bool (by rw [HP.out]; rfl), boxBelow _ _⟩
        · rw [hb2, Bool.true_and] at HP
          go_enter Tryz.func186, Tryz.ntmps186
          go_wp2
          go_ret
          exact ⟨ret_bool (by rw [HP.out]; exact nat_beq len 0), boxBelow _ _⟩
      · rw [decide_eq_false hn1] at HP
        go_enter Tryz.func186, Tryz.ntmps186
        go_wp2
        go_ret
        exact ⟨ret_bool (by rw [HP.out]; rfl), boxBelow _ _⟩
    · rw [decide_eq_false hn0] at HP
      go_enter Tryz.func186, Tryz.ntmps186
      go_wp2
      go_ret
      exact ⟨ret_bool (by rw [HP.out]; rfl), boxBelow _ _⟩
  rw [if_neg h1] at HP
  by_cases h2 : k = 2
  · subst h2
    rw [if_pos rfl] at HP
    clear h1
    go_enter Tryz.func186, Tryz.ntmps186
    go_wp2_with fail
    refine (isName_any _ s hs).mono ?_
    rintro e w' ⟨rfl, hw⟩
    subst hw
    cases hb : Lat.nameB s.data.toList
    · rw [hb] at HP
      go_wp2
      go_ret
      exact ⟨ret_bool (by rw [HP.out]; rfl), boxBelow _ _⟩
    · rw [hb, Bool.true_and] at HP
      cases hn : (n == 0)
      · rw [hn] at HP
        go_wp2
        go_ret
        exact ⟨ret_bool (by rw [HP.out]; rfl), boxBelow _ _⟩
      · rw [hn, Bool.true_and] at HP
        go_wp2
        go_ret
        exact ⟨ret_bool (by rw [HP.out]; exact nat_beq len 0), boxBelow _ _⟩
  rw [if_neg h2] at HP
  by_cases h3 : k = 3
  · subst h3
    rw [if_pos rfl] at HP
    clear h1 h2
    go_enter Tryz.func186, Tryz.ntmps186
    go_wp2_with fail
    refine (isOperator_any _ s hs).mono ?_
    rintro e w' ⟨rfl, hw⟩
    subst hw
    cases hb : Lat.opB s
    · rw [hb] at HP
      go_wp2
      go_ret
      exact ⟨ret_bool (by rw [HP.out]; rfl), boxBelow _ _⟩
    · rw [hb, Bool.true_and] at HP
      cases hn : (n == 0)
      · rw [hn] at HP
        go_wp2
        go_ret
        exact ⟨ret_bool (by rw [HP.out]; rfl), boxBelow _ _⟩
      · rw [hn, Bool.true_and] at HP
        go_wp2
        go_ret
        exact ⟨ret_bool (by rw [HP.out]; exact nat_beq len 2), boxBelow _ _⟩
  rw [if_neg h3] at HP
  by_cases h4 : k = 4
  · subst h4
    rw [if_pos rfl] at HP
    clear h1 h2 h3
    have q1 : (w.alloc (.cells #[.int .i64 4, .int .i64 n, .string s, .slice a len cap] 84)).cell? ⟨w.heap.size, 1, none⟩ = some (.int .i64 n) := by simp [go_sem]
    have q3 := boxCells4 w (.int .i64 4) (.int .i64 n) (.string s) (.slice a len cap) 84
    go_enter Tryz.func186, Tryz.ntmps186
    go_wp2_with fail
    refine (isCallee_any _ s hs).mono ?_
    rintro e w1 ⟨rfl, hb1⟩
    have p1 := cellUp q1 hb1
    have p3 := cellUp q3 hb1
    have HB := hide (up1 hb1)
    clear q1 q3 hb1
    cases hb : Lat.callB s
    · rw [hb] at HP
      go_wp2
      go_ret
      exact ⟨ret_bool (by rw [HP.out]; rfl), HB.out⟩
    · rw [hb, Bool.true_and] at HP
      cases hn : (n == 0)
      · rw [hn] at HP
        go_wp2
        go_ret
        exact ⟨ret_bool (by rw [HP.out]; rfl), HB.out⟩
      · rw [hn, Bool.true_and] at HP
        go_wp2
        go_ret
        exact ⟨ret_bool (by rw [HP.out]; exact decide_eq_decide.2 (by omega)), HB.out⟩
  rw [if_neg h4] at HP
  have k1 : (k == 1) = false := by simp [h1]
  have k2 : (k == 2) = false := by simp [h2]
  have k3 : (k == 3) = false := by simp [h3]
  have k4 : (k == 4) = false := by simp [h4]
  clear h1 h2 h3 h4
  go_enter Tryz.func186, Tryz.ntmps186
  go_wp2
  go_ret
  exact ⟨ret_bool (by rw [HP.out]), boxBelow _ _⟩

set_option maxHeartbeats 2000000 in
set_option maxRecDepth 100000 in
theorem isExpr_any (m : Nat) : ∀ (w : World) (c0 c1 c2 c3 : Value) (x : Ex), ExAt w m c0 c1 c2 c3 x →
    Calls Tryz.prog 133 #[.agg #[c0, c1, c2, c3]] w fun e w' => e = .returned (.bool (Lat.exprB m x)) ∧ Below w.heap.size w w' := by
  induction m with
  | zero => intro w c0 c1 c2 c3 x h; exact False.elim h
  | succ m ih =>
    intro w c0 c1 c2 c3 x h
    have HI := hide ih
    clear ih
    obtain ⟨rfl, rfl, rfl, hsz, hk1, hk2, a, b, off, cap, rfl, ha, hl, hel⟩ := h
    obtain ⟨k, n, s, args⟩ := x
    simp only at hsz hk1 hk2 ha hl hel ⊢
    have HE := hide (exprB_parts m ⟨k, n, s, args⟩)
    have HPC := hide (fun w => hasParts_any w k n s a args cap hsz hl)
    have HEL := hide hel
    have HA := hide ha
    clear hel ha
    generalize Lat.partsB ⟨k, n, s, args⟩ = pb at *
    obtain ⟨len, hlen⟩ : ∃ len, len = args.length := ⟨_, rfl⟩
    have HL := hide hlen
    rw [← hlen] at hl HA HPC ⊢
    clear hlen
    have q3 := boxCells4 w (.int .i64 k) (.int .i64 n) (.string s) (.slice a len cap) 84
    go_enter Tryz.func133, Tryz.ntmps133
    go_wp2_with fail
    refine (HPC.out _).mono ?_
    rintro e W0 ⟨rfl, hb1⟩
    replace q3 := cellUp q3 hb1
    have HB0 := hide (up1 hb1)
    clear hb1
    cases pb
    · go_wp2
      go_ret
      exact ⟨ret_bool (by rw [HE.out]; rfl), HB0.out⟩
    · go_wp2
      go_loopw [11] (fun i wr => ∃ j : Nat, j ≤ len ∧ i = .int .i64 j ∧ (∀ d y, d < j → args[d]? = some y → Lat.exprB m y = true) ∧ Below W0.heap.size W0 wr) (fun i _ => len - (intOf i).toNat)
      case atStart => exact ⟨0, Nat.zero_le _, rfl, fun d y hd => absurd hd (Nat.not_lt_zero _), Below.refl _ _⟩
      case round =>
        obtain ⟨j, hj, rfl, hall, hnx⟩ := hrel
        have HALL := hide hall
        clear hall
        by_cases hjl : j < len
        · obtain ⟨y, hy⟩ : ∃ y, args[j]? = some y := ⟨_, List.getElem?_eq_getElem (by rw [← HL.out]; exact hjl)⟩
          obtain ⟨e0, e1, e2, e3, g0, g1, g2, g3, hye⟩ := HEL.out j y hy
          have HY := hide hy
          obtain rfl := HA.out (by omega)
          have hbb := up HB0.out hnx
          have u0 := cellUp g0 hbb
          have u1 := cellUp g1 hbb
          have u2' := cellUp g2 hbb
          have u3' := cellUp g3 hbb
          have HYE := hide (hye.below hbb)
          obtain ⟨a', cap', rfl, rfl, rfl, rfl⟩ := hye.shape
          have HNX := hide hnx
          clear g0 g1 g2 g3 hye hy hbb hnx
          go_wp2_with fail
          refine (HI.out _ _ _ _ _ y (HYE.out.below (boxBelow _ _))).mono ?_
          rintro e w5 ⟨rfl, hb5⟩
          have HN5 := hide (up HNX.out (up1 hb5))
          clear hb5 HNX
          cases hyb : Lat.exprB m y
          · have HYB := hide hyb
            go_wp2
            go_ret
            exact ⟨ret_bool (by rw [HE.out, all_not? HY.out HYB.out]; rfl), up HB0.out HN5.out⟩
          · have HYB := hide hyb
            go_wp2
            go_roundw
            case rel => exact ⟨j + 1, by omega, by go_num, fun d z hd hz => by
                by_cases e : d = j
                · subst e
                  rw [HY.out] at hz
                  cases hz
                  exact HYB.out
                · exact HALL.out d z (by omega) hz, HN5.out⟩
            case measure => simp [intOf]; omega
        · go_wp2
          go_ret
          have hall : args.all (Lat.exprB m) = true := all_get? (fun d z hz => HALL.out d z (by
            have := (List.getElem?_eq_some_iff.1 hz).1
            have := HL.out
            omega) hz)
          exact ⟨ret_bool (by rw [HE.out, hall]; rfl), up HB0.out hnx⟩

end Go.Proofs.YtbncnkfogkhoeaaGreatDoor

/- Walks over package tree: hasShape, isCommand, areCommands. -/
namespace Go.Proofs.YtbncnkfogkhoeaaGreatDoor
open Go.RowKit

set_option maxHeartbeats 2000000 in
set_option maxRecDepth 100000 in
theorem hasShape_any (w : World) (k : Int) (nm : ByteArray) (ke ne : Int) (se : ByteArray) (ae : Option Addr) (le ce : Nat) (a1 a2 : Option Addr) (l1 l2 c1 c2 : Nat) (R : Bool)
    (hR : R = if k = 1 ∨ k = 4 then Lat.nameB nm.data.toList && (l2 == 0) && (l1 == 0) else if k = 2 then nm.toList.isEmpty else if k = 3 then nm.toList.isEmpty && (l2 == 0) else false)
    (hs : nm.size ≤ maxLen) (_h1 : l1 ≤ 9223372036854775807) (_h2 : l2 ≤ 9223372036854775807) :
    Calls Tryz.prog 215 #[.agg #[.int .i64 k, .string nm, .int .i64 ke, .int .i64 ne, .string se, .slice ae le ce, .slice a1 l1 c1, .slice a2 l2 c2]] w fun e w' => e = .returned (.bool R) ∧ Below w.heap.size w w' := by
  have HP := hide hR
  clear hR
  by_cases k14 : k = 1 ∨ k = 4
  · rw [if_pos k14] at HP
    rcases k14 with rfl | rfl
    all_goals
      go_enter Tryz.func215, Tryz.ntmps215
      go_wp2_with fail
      refine (isName_any _ nm hs).mono ?_
      rintro e w' ⟨rfl, hw⟩
      subst hw
      cases hb : Lat.nameB nm.data.toList
      · rw [hb] at HP
        go_wp2
        go_ret
        exact ⟨ret_bool (by rw [HP.out]; rfl), boxBelow _ _⟩
      · rw [hb, Bool.true_and] at HP
        by_cases hl1 : l1 = 0
        · have hl1' : ((l1 : Int) == 0) = true := by simp [hl1]
          rw [show (l1 == 0) = true from by simp [hl1], Bool.and_true] at HP
          clear hl1
          go_wp2
          go_ret
          exact ⟨ret_bool (by rw [HP.out]; exact nat_beq l2 0), boxBelow _ _⟩
        · have hl1' : ((l1 : Int) == 0) = false := by simp [hl1]
          rw [show (l1 == 0) = false from by simp [hl1], Bool.and_false] at HP
          clear hl1
          go_wp2
          go_ret
          exact ⟨ret_bool (by rw [HP.out]), boxBelow _ _⟩
  rw [if_neg k14] at HP
  have n1 : (k == 1) = false := by simp; omega
  have n4 : (k == 4) = false := by simp; omega
  by_cases k2 : k = 2
  · subst k2
    rw [if_pos rfl] at HP
    clear k14 n1 n4
    generalize hb : nm.toList.isEmpty = b2 at *
    have HB := hide hb
    cases b2
    all_goals
      go_enter Tryz.func215, Tryz.ntmps215
      go_wp2
      go_ret
      exact ⟨ret_bool (by rw [HP.out]), boxBelow _ _⟩
  rw [if_neg k2] at HP
  have n2 : (k == 2) = false := by simp; omega
  by_cases k3 : k = 3
  · subst k3
    rw [if_pos rfl] at HP
    clear k14 k2 n1 n2 n4
    cases hb : nm.toList.isEmpty
    · rw [hb] at HP
      go_enter Tryz.func215, Tryz.ntmps215
      go_wp2
      go_ret
      exact ⟨ret_bool (by rw [HP.out]; rfl), boxBelow _ _⟩
    · rw [hb, Bool.true_and] at HP
      go_enter Tryz.func215, Tryz.ntmps215
      go_wp2
      go_ret
      exact ⟨ret_bool (by rw [HP.out]; exact nat_beq l2 0), boxBelow _ _⟩
  rw [if_neg k3] at HP
  have n3 : (k == 3) = false := by simp; omega
  clear k14 k2 k3
  go_enter Tryz.func215, Tryz.ntmps215
  go_wp2
  go_ret
  exact ⟨ret_bool (by rw [HP.out]), boxBelow _ _⟩

/-- The eight values are the command s. -/
def StAt (w : World) (m : Nat) (e0 e1 e2 e3 va vb : Value) (s : St) : Prop :=
  I64 s.kind ∧ s.name.size ≤ maxLen ∧ ExAt w m e0 e1 e2 e3 s.e ∧ StsAt w m va s.a ∧ StsAt w m vb s.b
theorem StAt.below {w w' : World} {m : Nat} {e0 e1 e2 e3 va vb : Value} {s : St} (h : StAt w m e0 e1 e2 e3 va vb s) (hb : Below w.heap.size w w') : StAt w' m e0 e1 e2 e3 va vb s :=
  ⟨h.1, h.2.1, h.2.2.1.below hb, h.2.2.2.1.below hb, h.2.2.2.2.below hb⟩

section
variable (w : World) (c0 c1 c2 c3 c4 c5 c6 c7 : Value) (t : TypeId)
theorem box8_0 : (w.alloc (.cells #[c0, c1, c2, c3, c4, c5, c6, c7] t)).cell? ⟨w.heap.size, 0, none⟩ = some c0 := by simp [go_sem]
theorem box8_1 : (w.alloc (.cells #[c0, c1, c2, c3, c4, c5, c6, c7] t)).cell? ⟨w.heap.size, 1, none⟩ = some c1 := by simp [go_sem]
theorem box8_2 : (w.alloc (.cells #[c0, c1, c2, c3, c4, c5, c6, c7] t)).cell? ⟨w.heap.size, 2, none⟩ = some c2 := by simp [go_sem]
theorem box8_3 : (w.alloc (.cells #[c0, c1, c2, c3, c4, c5, c6, c7] t)).cell? ⟨w.heap.size, 3, none⟩ = some c3 := by simp [go_sem]
theorem box8_4 : (w.alloc (.cells #[c0, c1, c2, c3, c4, c5, c6, c7] t)).cell? ⟨w.heap.size, 4, none⟩ = some c4 := by simp [go_sem]
theorem box8_5 : (w.alloc (.cells #[c0, c1, c2, c3, c4, c5, c6, c7] t)).cell? ⟨w.heap.size, 5, none⟩ = some c5 := by simp [go_sem]
end

set_option maxHeartbeats 2000000 in
set_option maxRecDepth 100000 in
theorem isCommand_of (m : Nat) (hi : ∀ (w : World) (v : Value) (l : List St), StsAt w m v l → Calls Tryz.prog 132 #[v] w fun e w' => e = .returned (.bool (Lat.bodyB m l)) ∧ Below w.heap.size w w')
    (w : World) (e0 e1 e2 e3 va vb : Value) (s : St) (h : StAt w m e0 e1 e2 e3 va vb s) :
    Calls Tryz.prog 185 #[.agg #[.int .i64 s.kind, .string s.name, e0, e1, e2, e3, va, vb]] w fun e w' => e = .returned (.bool (Lat.stB m s)) ∧ Below w.heap.size w w' := by
  have HI := hide hi
  clear hi
  have HS := hide h
  obtain ⟨_, hnm, hx, hsa, hsb⟩ := h
  obtain ⟨ae, ce, rfl, rfl, rfl, rfl⟩ := hx.shape
  obtain ⟨a1, cap1, rfl, hl1⟩ := hsa.shape
  obtain ⟨a2, cap2, rfl, hl2⟩ := hsb.shape
  clear hx hsa hsb
  have HE : Hid (Lat.stB m s = (Lat.stH s && Lat.exprB m s.e && Lat.bodyB m s.a && Lat.bodyB m s.b)) := rfl
  have HSH := hide (fun w => hasShape_any w s.kind s.name s.e.kind s.e.n s.e.name ae s.e.args.length ce a1 a2 s.a.length s.b.length cap1 cap2 (Lat.stH s) rfl hnm hl1 hl2)
  generalize s.e.args.length = le at *
  generalize s.a.length = l1 at *
  generalize s.b.length = l2 at *
  have q2 := box8_2 w (.int .i64 s.kind) (.string s.name) (.int .i64 s.e.kind) (.int .i64 s.e.n) (.string s.e.name) (.slice ae le ce) (.slice a1 l1 cap1) (.slice a2 l2 cap2) 100
  have q3 := box8_3 w (.int .i64 s.kind) (.string s.name) (.int .i64 s.e.kind) (.int .i64 s.e.n) (.string s.e.name) (.slice ae le ce) (.slice a1 l1 cap1) (.slice a2 l2 cap2) 100
  have q4 := box8_4 w (.int .i64 s.kind) (.string s.name) (.int .i64 s.e.kind) (.int .i64 s.e.n) (.string s.e.name) (.slice ae le ce) (.slice a1 l1 cap1) (.slice a2 l2 cap2) 100
  have q5 := box8_5 w (.int .i64 s.kind) (.string s.name) (.int .i64 s.e.kind) (.int .i64 s.e.n) (.string s.e.name) (.slice ae le ce) (.slice a1 l1 cap1) (.slice a2 l2 cap2) 100
  have q6 := boxCells86 w (.int .i64 s.kind) (.string s.name) (.int .i64 s.e.kind) (.int .i64 s.e.n) (.string s.e.name) (.slice ae le ce) (.slice a1 l1 cap1) (.slice a2 l2 cap2) 100
  have q7 := boxCells87 w (.int .i64 s.kind) (.string s.name) (.int .i64 s.e.kind) (.int .i64 s.e.n) (.string s.e.name) (.slice ae le ce) (.slice a1 l1 cap1) (.slice a2 l2 cap2) 100
  go_enter Tryz.func185, Tryz.ntmps185
  go_wp2_with fail
  refine (HSH.out _).mono ?_
  rintro e w1 ⟨rfl, hb1⟩
  replace q2 := cellUp q2 hb1
  replace q3 := cellUp q3 hb1
  replace q4 := cellUp q4 hb1
  replace q5 := cellUp q5 hb1
  replace q6 := cellUp q6 hb1
  replace q7 := cellUp q7 hb1
  have HB1 := hide (up1 hb1)
  clear hb1 HSH
  generalize Lat.stH s = sh at *
  cases sh
  · go_wp2
    go_ret
    exact ⟨ret_bool (by rw [HE.out]; rfl), HB1.out⟩
  go_wp2_with fail
  refine (isExpr_any m _ _ _ _ _ s.e (HS.out.below HB1.out).2.2.1).mono ?_
  rintro e w2 ⟨rfl, hb2⟩
  replace q6 := cellUp q6 hb2
  replace q7 := cellUp q7 hb2
  have HB2 := hide (up HB1.out hb2)
  clear hb2 q2 q3 q4 q5
  generalize Lat.exprB m s.e = xb at *
  cases xb
  · go_wp2
    go_ret
    exact ⟨ret_bool (by rw [HE.out]; rfl), HB2.out⟩
  go_wp2_with fail
  refine (HI.out _ _ s.a (HS.out.below HB2.out).2.2.2.1).mono ?_
  rintro e w3 ⟨rfl, hb3⟩
  replace q7 := cellUp q7 hb3
  have HB3 := hide (up HB2.out hb3)
  clear hb3 q6
  generalize Lat.bodyB m s.a = ab at *
  cases ab
  · go_wp2
    go_ret
    exact ⟨ret_bool (by rw [HE.out]; rfl), HB3.out⟩
  go_wp2_with fail
  refine (HI.out _ _ s.b (HS.out.below HB3.out).2.2.2.2).mono ?_
  rintro e w4 ⟨rfl, hb4⟩
  have HB4 := hide (up HB3.out hb4)
  clear hb4 q7
  generalize Lat.bodyB m s.b = bb at *
  go_wp2
  go_ret
  exact ⟨ret_bool (by rw [HE.out]; cases bb <;> rfl), HB4.out⟩

set_option maxHeartbeats 2000000 in
set_option maxRecDepth 100000 in
theorem areCommands_any (m : Nat) : ∀ (w : World) (v : Value) (l : List St), StsAt w m v l →
    Calls Tryz.prog 132 #[v] w fun e w' => e = .returned (.bool (Lat.bodyB m l)) ∧ Below w.heap.size w w' := by
  induction m with
  | zero => intro w v l h; exact False.elim h
  | succ m ih =>
    intro w v l h
    have HI := hide (isCommand_of m ih)
    clear ih
    obtain ⟨a, b, off, cap, rfl, ha, hl, hel⟩ := h
    have HE := hide (Lat.bodyB_succ m l)
    have HEL := hide hel
    have HA := hide ha
    clear hel ha
    obtain ⟨len, hlen⟩ : ∃ len, len = l.length := ⟨_, rfl⟩
    have HL := hide hlen
    rw [← hlen] at hl HA ⊢
    clear hlen
    go_enter Tryz.func132, Tryz.ntmps132
    go_wp2
    go_loopw [7] (fun i wr => ∃ j : Nat, j ≤ len ∧ i = .int .i64 j ∧ (∀ d y, d < j → l[d]? = some y → Lat.stB m y = true) ∧ Below w.heap.size w wr) (fun i _ => len - (intOf i).toNat)
    case atStart => exact ⟨0, Nat.zero_le _, rfl, fun d y hd => absurd hd (Nat.not_lt_zero _), Below.refl _ _⟩
    case round =>
      obtain ⟨j, hj, rfl, hall, hnx⟩ := hrel
      have HALL := hide hall
      clear hall
      by_cases hjl : j < len
      · obtain ⟨y, hy⟩ : ∃ y, l[j]? = some y := ⟨_, List.getElem?_eq_getElem (by rw [← HL.out]; exact hjl)⟩
        obtain ⟨k1, k2, e0, e1, e2, e3, va, vb, g0, g1, g2, g3, g4, g5, g6, g7, hx, hsa, hsb⟩ := HEL.out j y hy
        have HY := hide hy
        obtain rfl := HA.out (by omega)
        have u0 := cellUp g0 hnx
        have u1 := cellUp g1 hnx
        have u2' := cellUp g2 hnx
        have u3' := cellUp g3 hnx
        have u4 := cellUp g4 hnx
        have u5 := cellUp g5 hnx
        have u6 := cellUp g6 hnx
        have u7 := cellUp g7 hnx
        have HST : Hid (StAt wr m e0 e1 e2 e3 va vb y) := hide ⟨k1, k2, hx.below hnx, hsa.below hnx, hsb.below hnx⟩
        obtain ⟨ae, ce, rfl, rfl, rfl, rfl⟩ := hx.shape
        obtain ⟨a1, cap1, rfl, hl1⟩ := hsa.shape
        obtain ⟨a2, cap2, rfl, hl2⟩ := hsb.shape
        have HNX := hide hnx
        clear g0 g1 g2 g3 g4 g5 g6 g7 hx hsa hsb hy hnx
        go_wp2_with fail
        refine (HI.out _ _ _ _ _ _ _ y (HST.out.below (boxBelow _ _))).mono ?_
        rintro e w5 ⟨rfl, hb5⟩
        have HN5 := hide (up HNX.out (up1 hb5))
        clear hb5 HNX
        cases hyb : Lat.stB m y
        · have HYB := hide hyb
          go_wp2
          go_ret
          exact ⟨ret_bool (by rw [HE.out, sts_not? HY.out HYB.out]), HN5.out⟩
        · have HYB := hide hyb
          go_wp2
          go_roundw
          case rel => exact ⟨j + 1, by omega, by go_num, fun d z hd hz => by
              by_cases e : d = j
              · subst e
                rw [HY.out] at hz
                cases hz
                exact HYB.out
              · exact HALL.out d z (by omega) hz, HN5.out⟩
          case measure => simp [intOf]; omega
      · go_wp2
        go_ret
        have hall : l.all (Lat.stB m) = true := sts_get? (fun d z hz => HALL.out d z (by
          have := (List.getElem?_eq_some_iff.1 hz).1
          have := HL.out
          omega) hz)
        exact ⟨ret_bool (by rw [HE.out, hall]), hnx⟩

end Go.Proofs.YtbncnkfogkhoeaaGreatDoor

/- Walks over package tree: exprDepth, commandDepth, commandsDepth, funDepth, moduleDepth: how deep the brackets are nested. -/
namespace Go.Proofs.YtbncnkfogkhoeaaGreatDoor
open Go.RowKit

namespace Lat
def maxN {α : Type} (f : α → Nat) (l : List α) : Nat := l.foldl (fun a y => max a (f y)) 0
def exD : Nat → Ex → Nat
  | 0, _ => 0
  | m + 1, x => if x.kind = 1 ∨ x.kind = 2 then 0 else 1 + maxN (exD m) x.args
def bdD : Nat → List St → Nat
  | 0, _ => 0
  | m + 1, l => maxN (fun s => 1 + if s.kind = 2 ∨ s.kind = 3 then max (max (exD m s.e) (1 + bdD m s.a)) (1 + bdD m s.b) else exD m s.e) l
def stD (m : Nat) (s : St) : Nat := 1 + if s.kind = 2 ∨ s.kind = 3 then max (max (exD m s.e) (1 + bdD m s.a)) (1 + bdD m s.b) else exD m s.e
theorem bdD_succ (m : Nat) (l : List St) : bdD (m + 1) l = maxN (stD m) l := rfl
def fuD (m : Nat) (f : Fu) : Nat := 1 + max (max 1 (bdD m f.body)) (exD m f.result)
def moD (m : Nat) (x : Mo) : Nat := 1 + max 1 (maxN (fuD m) x.funs)
end Lat

section
variable {α : Type} {f : α → Nat}
theorem maxN_fold (l : List α) (a : Nat) : l.foldl (fun a y => max a (f y)) a = max a (Lat.maxN f l) := by
  induction l generalizing a with
  | nil => simp [Lat.maxN]
  | cons y l ih =>
    unfold Lat.maxN
    rw [List.foldl_cons, List.foldl_cons, ih, ih]
    omega
theorem maxN_cons (y : α) (l : List α) : Lat.maxN f (y :: l) = max (f y) (Lat.maxN f l) := by
  rw [Lat.maxN, List.foldl_cons, maxN_fold]; omega
theorem maxN_append (l k : List α) : Lat.maxN f (l ++ k) = max (Lat.maxN f l) (Lat.maxN f k) := by
  rw [Lat.maxN, List.foldl_append, maxN_fold]; rfl
theorem maxN_take {l : List α} {j : Nat} {y : α} (h : l[j]? = some y) : Lat.maxN f (l.take (j + 1)) = max (Lat.maxN f (l.take j)) (f y) := by
  obtain ⟨hj, rfl⟩ := List.getElem?_eq_some_iff.1 h
  rw [List.take_succ_eq_append_getElem hj, maxN_append, maxN_cons]; simp [Lat.maxN]
theorem maxN_le {B : Nat} {l : List α} (h : ∀ y ∈ l, f y ≤ B) : Lat.maxN f l ≤ B := by
  induction l with
  | nil => exact Nat.zero_le _
  | cons y l ih =>
    rw [maxN_cons]
    have h1 := h y (by simp)
    have h2 := ih (fun z hz => h z (by simp [hz]))
    omega
theorem le_maxN {l : List α} {y : α} (h : y ∈ l) : f y ≤ Lat.maxN f l := by
  induction l with
  | nil => cases h
  | cons z l ih =>
    rw [maxN_cons]
    rcases List.mem_cons.1 h with rfl | h
    · omega
    · have := ih h; omega
theorem maxN_sum {g : α → Nat} {l : List α} (h : ∀ y ∈ l, f y ≤ g y) : Lat.maxN f l ≤ (l.map g).sum := by
  induction l with
  | nil => exact Nat.zero_le _
  | cons y l ih =>
    rw [maxN_cons, List.map_cons, List.sum_cons]
    have h1 := h y (by simp)
    have h2 := ih (fun z hz => h z (by simp [hz]))
    omega
theorem maxN_take_le (l : List α) (j : Nat) : Lat.maxN f (l.take j) ≤ Lat.maxN f l := by
  conv => rhs; rw [← List.take_append_drop j l]
  rw [maxN_append]; omega
end

theorem exD_le : ∀ (m : Nat) (x : Ex), Lat.exD m x ≤ exW m x
  | 0, _ => Nat.le_refl _
  | m + 1, x => by
    simp only [Lat.exD, exW]
    have := maxN_sum (f := Lat.exD m) (g := exW m) (l := x.args) (fun y _ => exD_le m y)
    split <;> omega
theorem bdD_le : ∀ (m : Nat) (l : List St), Lat.bdD m l ≤ stsW m l
  | 0, _ => Nat.le_refl _
  | m + 1, l => by
    simp only [Lat.bdD, stsW]
    refine Nat.le_trans (maxN_sum (g := fun s => s.name.size + 3 + exW m s.e + stsW m s.a + stsW m s.b) (fun s _ => ?_)) (Nat.le_succ _)
    have h1 := exD_le m s.e
    have h2 := bdD_le m s.a
    have h3 := bdD_le m s.b
    split <;> omega

theorem wrap_small {x : Int} (h0 : 0 ≤ x) (h1 : x ≤ 9223372036854775807) : IntKind.i64.wrap x = x := by
  rw [IntKind.wrap_i64]; omega
theorem val_imax {a b c : Nat} (h : c = max a b) : Value.int .i64 (max (a : Int) (b : Int)) = .int .i64 c := by rw [h]; congr 1; omega

set_option maxHeartbeats 2000000 in
set_option maxRecDepth 100000 in
theorem exprDepth_any (m : Nat) : ∀ (w : World) (c0 c1 c2 c3 : Value) (x : Ex), ExAt w m c0 c1 c2 c3 x → exW m x ≤ 1048576 →
    Calls Tryz.prog 188 #[.agg #[c0, c1, c2, c3]] w fun e w' => e = .returned (.int .i64 (Lat.exD m x)) ∧ Below w.heap.size w w' := by
  induction m with
  | zero => intro w c0 c1 c2 c3 x h; exact False.elim h
  | succ m ih =>
    intro w c0 c1 c2 c3 x h hw
    have HI := hide ih
    clear ih
    obtain ⟨rfl, rfl, rfl, hsz, hk1, hk2, a, b, off, cap, rfl, ha, hl, hel⟩ := h
    obtain ⟨k, n, s, args⟩ := x
    simp only at hsz hk1 hk2 ha hl hel ⊢
    have HEL := hide hel
    have HA := hide ha
    have HW : Hid (∀ (i : Nat) (y : Ex), args[i]? = some y → exW m y ≤ 1048576) := hide (fun i y hy => by
      have : exW m y ≤ (args.map (exW m)).sum := mem_le_sum (List.mem_of_getElem? hy)
      simp only [exW] at hw; omega)
    have HM : Hid (Lat.maxN (Lat.exD m) args ≤ 1048576) := hide (by
      have := maxN_sum (f := Lat.exD m) (g := exW m) (l := args) (fun y _ => exD_le m y)
      simp only [exW] at hw; omega)
    have HE : Hid (Lat.exD (m + 1) ⟨k, n, s, args⟩ = if k = 1 ∨ k = 2 then 0 else 1 + Lat.maxN (Lat.exD m) args) := rfl
    clear hel ha hw
    obtain ⟨len, hlen⟩ : ∃ len, len = args.length := ⟨_, rfl⟩
    have HL := hide hlen
    rw [← hlen] at hl HA ⊢
    clear hlen
    by_cases h1 : k = 1
    · subst h1
      go_enter Tryz.func188, Tryz.ntmps188
      go_wp2
      go_ret
      exact ⟨ret_int (by rw [HE.out]; rfl), boxBelow _ _⟩
    by_cases h2 : k = 2
    · subst h2
      go_enter Tryz.func188, Tryz.ntmps188
      go_wp2
      go_ret
      exact ⟨ret_int (by rw [HE.out]; rfl), boxBelow _ _⟩
    rw [if_neg (by omega)] at HE
    have k1 : (k == 1) = false := by simp [h1]
    have k2 : (k == 2) = false := by simp [h2]
    clear h1 h2
    have q3 := boxCells4 w (.int .i64 k) (.int .i64 n) (.string s) (.slice a len cap) 84
    have HB0 := hide (boxBelow w (.cells #[.int .i64 k, .int .i64 n, .string s, .slice a len cap] 84))
    go_enter Tryz.func188, Tryz.ntmps188
    go_wp2_with fail
    generalize (w.alloc (.cells #[.int .i64 k, .int .i64 n, .string s, .slice a len cap] 84)) = W0 at *
    go_loopw [3, 17] (fun o i wr => ∃ j : Nat, j ≤ len ∧ i = .int .i64 j ∧ o = .int .i64 (Lat.maxN (Lat.exD m) (args.take j)) ∧ Below W0.heap.size W0 wr) (fun _ i _ => len - (intOf i).toNat)
    case atStart => exact ⟨0, Nat.zero_le _, rfl, rfl, Below.refl _ _⟩
    case round =>
      obtain ⟨j, hj, rfl, rfl, hnx⟩ := hrel
      have hacc := Nat.le_trans (maxN_take_le (f := Lat.exD m) args j) HM.out
      by_cases hjl : j < len
      · obtain ⟨y, hy⟩ : ∃ y, args[j]? = some y := ⟨_, List.getElem?_eq_getElem (by rw [← HL.out]; exact hjl)⟩
        obtain ⟨e0, e1, e2, e3, g0, g1, g2, g3, hye⟩ := HEL.out j y hy
        obtain rfl := HA.out (by omega)
        have hbb := up HB0.out hnx
        have u0 := cellUp g0 hbb
        have u1 := cellUp g1 hbb
        have u2' := cellUp g2 hbb
        have u3' := cellUp g3 hbb
        have HYE := hide (hye.below hbb)
        obtain ⟨a', cap', rfl, rfl, rfl, rfl⟩ := hye.shape
        have hyw := HW.out j y hy
        have HST := hide (maxN_take (f := Lat.exD m) hy)
        have HNX := hide hnx
        clear g0 g1 g2 g3 hye hy hbb hnx
        go_wp2_with fail
        refine (HI.out _ _ _ _ _ y (HYE.out.below (boxBelow _ _)) hyw).mono ?_
        rintro e w5 ⟨rfl, hb5⟩
        have HN5 := hide (up HNX.out (up1 hb5))
        clear hb5 HNX hyw
        generalize Lat.exD m y = dy at *
        generalize Lat.maxN (Lat.exD m) (args.take j) = acc at *
        go_wp2_with fail
        go_roundw
        case rel => exact ⟨j + 1, by omega, by go_num, val_imax HST.out, HN5.out⟩
        case measure => simp [intOf]; omega
      · have e : args.take j = args := List.take_of_length_le (by have := HL.out; omega)
        rw [e] at hacc ⊢
        clear e
        generalize Lat.maxN (Lat.exD m) args = acc at *
        go_wp2
        go_ret
        exact ⟨ret_int (by rw [HE.out]; go_num), up HB0.out hnx⟩

set_option maxHeartbeats 2000000 in
set_option maxRecDepth 100000 in
theorem commandDepth_of (m : Nat) (hi : ∀ (w : World) (v : Value) (l : List St), StsAt w m v l → stsW m l ≤ 1048576 → Calls Tryz.prog 187 #[v] w fun e w' => e = .returned (.int .i64 (Lat.bdD m l)) ∧ Below w.heap.size w w')
    (w : World) (e0 e1 e2 e3 va vb : Value) (s : St) (h : StAt w m e0 e1 e2 e3 va vb s) (hw : s.name.size + 3 + exW m s.e + stsW m s.a + stsW m s.b ≤ 1048576) :
    Calls Tryz.prog 218 #[.agg #[.int .i64 s.kind, .string s.name, e0, e1, e2, e3, va, vb]] w fun e w' => e = .returned (.int .i64 (Lat.stD m s)) ∧ Below w.heap.size w w' := by
  have HI := hide hi
  clear hi
  have HS := hide h
  obtain ⟨_, hnm, hx, hsa, hsb⟩ := h
  obtain ⟨ae, ce, rfl, rfl, rfl, rfl⟩ := hx.shape
  obtain ⟨a1, cap1, rfl, hl1⟩ := hsa.shape
  obtain ⟨a2, cap2, rfl, hl2⟩ := hsb.shape
  clear hx hsa hsb
  have HE : Hid (Lat.stD m s = 1 + if s.kind = 2 ∨ s.kind = 3 then max (max (Lat.exD m s.e) (1 + Lat.bdD m s.a)) (1 + Lat.bdD m s.b) else Lat.exD m s.e) := rfl
  have w1 : exW m s.e ≤ 1048576 := by omega
  have w2 : stsW m s.a ≤ 1048576 := by omega
  have w3 : stsW m s.b ≤ 1048576 := by omega
  have d1 := Nat.le_trans (exD_le m s.e) w1
  have d2 := Nat.le_trans (bdD_le m s.a) w2
  have d3 := Nat.le_trans (bdD_le m s.b) w3
  clear hw
  generalize s.e.args.length = le at *
  generalize s.a.length = l1 at *
  generalize s.b.length = l2 at *
  have q0 := box8_0 w (.int .i64 s.kind) (.string s.name) (.int .i64 s.e.kind) (.int .i64 s.e.n) (.string s.e.name) (.slice ae le ce) (.slice a1 l1 cap1) (.slice a2 l2 cap2) 100
  have q6 := boxCells86 w (.int .i64 s.kind) (.string s.name) (.int .i64 s.e.kind) (.int .i64 s.e.n) (.string s.e.name) (.slice ae le ce) (.slice a1 l1 cap1) (.slice a2 l2 cap2) 100
  have q7 := boxCells87 w (.int .i64 s.kind) (.string s.name) (.int .i64 s.e.kind) (.int .i64 s.e.n) (.string s.e.name) (.slice ae le ce) (.slice a1 l1 cap1) (.slice a2 l2 cap2) 100
  have HB0 := hide (boxBelow w (.cells #[.int .i64 s.kind, .string s.name, .int .i64 s.e.kind, .int .i64 s.e.n, .string s.e.name, .slice ae le ce, .slice a1 l1 cap1, .slice a2 l2 cap2] 100))
  go_enter Tryz.func218, Tryz.ntmps218
  go_wp2_with fail
  refine (exprDepth_any m _ _ _ _ _ s.e (HS.out.below HB0.out).2.2.1 w1).mono ?_
  rintro e w5 ⟨rfl, hb5⟩
  replace q0 := cellUp q0 hb5
  replace q6 := cellUp q6 hb5
  replace q7 := cellUp q7 hb5
  have HN := hide (up HB0.out hb5)
  clear hb5 HB0
  have HSA := hide (HS.out.below HN.out).2.2.2.1
  have HSB := hide (HS.out.below HN.out).2.2.2.2
  generalize Lat.exD m s.e = de at *
  by_cases hk : s.kind = 2 ∨ s.kind = 3
  · rw [if_pos hk] at HE
    have HF : Hid (∀ wx, Hid (Below w5.heap.size w5 wx) → Hid (Below w5.heap.size w5 wx) ∧ wx.cell? ⟨w.heap.size, 6, none⟩ = some (.slice a1 l1 cap1) ∧ wx.cell? ⟨w.heap.size, 7, none⟩ = some (.slice a2 l2 cap2)) :=
      fun wx h => ⟨h, cellUp q6 h.out, cellUp q7 h.out⟩
    have H00 : Hid (Below w5.heap.size w5 w5) := hide (Below.refl _ _)
    generalize hda : Lat.bdD m s.a = da at *
    have HDA := hide hda
    clear hda
    generalize hdb : Lat.bdD m s.b = db at *
    have HDB := hide hdb
    clear hdb q6 q7
    have WA : Hid (IntKind.i64.wrap (1 + (da : Int)) = 1 + (da : Int)) := hide (wrap_small (by omega) (by omega))
    have WB : Hid (IntKind.i64.wrap (1 + (db : Int)) = 1 + (db : Int)) := hide (wrap_small (by omega) (by omega))
    rcases hk with hk | hk
    all_goals
      rw [hk] at q0
      go_wp2_with fail
      go_region_held3 (fun wx => Hid (Below w5.heap.size w5 wx) ∧ wx.cell? ⟨w.heap.size, 6, none⟩ = some (.slice a1 l1 cap1) ∧ wx.cell? ⟨w.heap.size, 7, none⟩ = some (.slice a2 l2 cap2))
        (first | exact HF.out _ HW31 | exact HF.out _ HW30 | exact HF.out _ (hide H00.out.drew))
        (first
          | (go_at_call_of 187 (a1); refine (HI.out _ _ s.a ?_ w2).mono ?_; (exact HSA.out.below H00.out.drew); rintro e w30 ⟨rfl, hb30⟩; have HW30 := hide (up H00.out.drew hb30); clear hb30; rw [HDA.out])
          | (go_at_call_of 187 (a2); refine (HI.out _ _ s.b ?_ w3).mono ?_; (exact HSB.out.below HW30.out); rintro e w31 ⟨rfl, hb31⟩; have HW31 := hide (up HW30.out hb31); clear hb31; rw [HDB.out]))
      all_goals
        go_wp2
      all_goals
        go_ret
        exact ⟨ret_int (by rw [HE.out]; simp only [WA.out, WB.out] at *; omega), up HN.out HW31.out⟩
  · rw [if_neg hk] at HE
    have k2 : (s.kind == 2) = false := by simp; omega
    have k3 : (s.kind == 3) = false := by simp; omega
    clear hk q6 q7
    go_wp2
    go_ret
    exact ⟨ret_int (by rw [HE.out]; go_num), HN.out⟩

set_option maxHeartbeats 2000000 in
set_option maxRecDepth 100000 in
theorem commandsDepth_any (m : Nat) : ∀ (w : World) (v : Value) (l : List St), StsAt w m v l → stsW m l ≤ 1048576 →
    Calls Tryz.prog 187 #[v] w fun e w' => e = .returned (.int .i64 (Lat.bdD m l)) ∧ Below w.heap.size w w' := by
  induction m with
  | zero => intro w v l h; exact False.elim h
  | succ m ih =>
    intro w v l h hw
    have HI := hide (commandDepth_of m ih)
    clear ih
    obtain ⟨a, b, off, cap, rfl, ha, hl, hel⟩ := h
    have HE := hide (Lat.bdD_succ m l)
    have HM : Hid (Lat.maxN (Lat.stD m) l ≤ 1048576) := hide (by rw [← Lat.bdD_succ]; exact Nat.le_trans (bdD_le _ _) hw)
    have HW : Hid (∀ (i : Nat) (y : St), l[i]? = some y → y.name.size + 3 + exW m y.e + stsW m y.a + stsW m y.b ≤ 1048576) := hide (fun i y hy => by
      have : y.name.size + 3 + exW m y.e + stsW m y.a + stsW m y.b ≤ (l.map fun s : St => s.name.size + 3 + exW m s.e + stsW m s.a + stsW m s.b).sum := mem_le_sum (f := fun s : St => s.name.size + 3 + exW m s.e + stsW m s.a + stsW m s.b) (List.mem_of_getElem? hy)
      simp only [stsW] at hw; omega)
    have HEL := hide hel
    have HA := hide ha
    clear hel ha hw
    obtain ⟨len, hlen⟩ : ∃ len, len = l.length := ⟨_, rfl⟩
    have HL := hide hlen
    rw [← hlen] at hl HA ⊢
    clear hlen
    go_enter Tryz.func187, Tryz.ntmps187
    go_wp2
    go_loopw [3, 8] (fun o i wr => ∃ j : Nat, j ≤ len ∧ i = .int .i64 j ∧ o = .int .i64 (Lat.maxN (Lat.stD m) (l.take j)) ∧ Below w.heap.size w wr) (fun _ i _ => len - (intOf i).toNat)
    case atStart => exact ⟨0, Nat.zero_le _, rfl, rfl, Below.refl _ _⟩
    case round =>
      obtain ⟨j, hj, rfl, rfl, hnx⟩ := hrel
      have hacc := Nat.le_trans (maxN_take_le (f := Lat.stD m) l j) HM.out
      by_cases hjl : j < len
      · obtain ⟨y, hy⟩ : ∃ y, l[j]? = some y := ⟨_, List.getElem?_eq_getElem (by rw [← HL.out]; exact hjl)⟩
        obtain ⟨k1, k2, e0, e1, e2, e3, va, vb, g0, g1, g2, g3, g4, g5, g6, g7, hx, hsa, hsb⟩ := HEL.out j y hy
        have HST := hide (maxN_take (f := Lat.stD m) hy)
        have hyw := HW.out j y hy
        obtain rfl := HA.out (by omega)
        have u0 := cellUp g0 hnx
        have u1 := cellUp g1 hnx
        have u2' := cellUp g2 hnx
        have u3' := cellUp g3 hnx
        have u4 := cellUp g4 hnx
        have u5 := cellUp g5 hnx
        have u6 := cellUp g6 hnx
        have u7 := cellUp g7 hnx
        have HAT : Hid (StAt wr m e0 e1 e2 e3 va vb y) := hide ⟨k1, k2, hx.below hnx, hsa.below hnx, hsb.below hnx⟩
        obtain ⟨ae, ce, rfl, rfl, rfl, rfl⟩ := hx.shape
        obtain ⟨a1, cap1, rfl, hl1⟩ := hsa.shape
        obtain ⟨a2, cap2, rfl, hl2⟩ := hsb.shape
        have HNX := hide hnx
        clear g0 g1 g2 g3 g4 g5 g6 g7 hx hsa hsb hy hnx
        go_wp2_with fail
        refine (HI.out _ _ _ _ _ _ _ y (HAT.out.below (boxBelow _ _)) hyw).mono ?_
        rintro e w5 ⟨rfl, hb5⟩
        have HN5 := hide (up HNX.out (up1 hb5))
        clear hb5 HNX
        generalize Lat.stD m y = dy at *
        generalize Lat.maxN (Lat.stD m) (l.take j) = acc at *
        go_wp2_with fail
        go_roundw
        case rel => exact ⟨j + 1, by omega, by go_num, val_imax HST.out, HN5.out⟩
        case measure => simp [intOf]; omega
      · have e : l.take j = l := List.take_of_length_le (by have := HL.out; omega)
        rw [e] at hacc ⊢
        clear e
        generalize Lat.maxN (Lat.stD m) l = acc at *
        go_wp2
        go_ret
        exact ⟨ret_int (by rw [HE.out]), hnx⟩

/-- The seven values are the function f. -/
def FuAt (w : World) (m : Nat) (vp vb e0 e1 e2 e3 : Value) (f : Fu) : Prop :=
  f.name.size ≤ maxLen ∧ Strs w vp f.params ∧ StsAt w m vb f.body ∧ ExAt w m e0 e1 e2 e3 f.result
theorem FuAt.below {w w' : World} {m : Nat} {vp vb e0 e1 e2 e3 : Value} {f : Fu} (h : FuAt w m vp vb e0 e1 e2 e3 f) (hb : Below w.heap.size w w') : FuAt w' m vp vb e0 e1 e2 e3 f :=
  ⟨h.1, h.2.1.below hb, h.2.2.1.below hb, h.2.2.2.below hb⟩
theorem Strs.shape {w : World} {v : Value} {l : List ByteArray} (h : Strs w v l) : ∃ a cap, v = .slice a l.length cap ∧ l.length ≤ 9223372036854775807 := by
  obtain ⟨a, b, off, cap, h1, _, h2, _⟩ := h
  exact ⟨a, cap, h1, h2⟩

section
variable (w : World) (c0 c1 c2 c3 c4 c5 c6 : Value) (t : TypeId)
theorem box7_0 : (w.alloc (.cells #[c0, c1, c2, c3, c4, c5, c6] t)).cell? ⟨w.heap.size, 0, none⟩ = some c0 := by simp [go_sem]
theorem box7_1 : (w.alloc (.cells #[c0, c1, c2, c3, c4, c5, c6] t)).cell? ⟨w.heap.size, 1, none⟩ = some c1 := by simp [go_sem]
theorem box7_2 : (w.alloc (.cells #[c0, c1, c2, c3, c4, c5, c6] t)).cell? ⟨w.heap.size, 2, none⟩ = some c2 := by simp [go_sem]
theorem box7_3 : (w.alloc (.cells #[c0, c1, c2, c3, c4, c5, c6] t)).cell? ⟨w.heap.size, 3, none⟩ = some c3 := by simp [go_sem]
theorem box7_4 : (w.alloc (.cells #[c0, c1, c2, c3, c4, c5, c6] t)).cell? ⟨w.heap.size, 3 + 1, none⟩ = some c4 := by simp [go_sem]
theorem box7_5 : (w.alloc (.cells #[c0, c1, c2, c3, c4, c5, c6] t)).cell? ⟨w.heap.size, 3 + 2, none⟩ = some c5 := by simp [go_sem]
theorem box7_6 : (w.alloc (.cells #[c0, c1, c2, c3, c4, c5, c6] t)).cell? ⟨w.heap.size, 3 + 3, none⟩ = some c6 := by simp [go_sem]
end

set_option maxHeartbeats 2000000 in
set_option maxRecDepth 100000 in
theorem funDepth_any (m : Nat) (w : World) (vp vb e0 e1 e2 e3 : Value) (f : Fu) (h : FuAt w m vp vb e0 e1 e2 e3 f) (hw : stsW m f.body + exW m f.result ≤ 1048576) :
    Calls Tryz.prog 134 #[.agg #[.string f.name, vp, vb, e0, e1, e2, e3]] w fun e w' => e = .returned (.int .i64 (Lat.fuD m f)) ∧ Below w.heap.size w w' := by
  have HS := hide h
  obtain ⟨hnm, hp, hsb, hx⟩ := h
  obtain ⟨ae, ce, rfl, rfl, rfl, rfl⟩ := hx.shape
  obtain ⟨a1, cap1, rfl, hl1⟩ := hsb.shape
  obtain ⟨a2, cap2, rfl, hl2⟩ := hp.shape
  clear hx hsb hp
  have HE : Hid (Lat.fuD m f = 1 + max (max 1 (Lat.bdD m f.body)) (Lat.exD m f.result)) := rfl
  have w1 : exW m f.result ≤ 1048576 := by omega
  have w2 : stsW m f.body ≤ 1048576 := by omega
  have d1 := Nat.le_trans (exD_le m f.result) w1
  have d2 := Nat.le_trans (bdD_le m f.body) w2
  clear hw
  generalize f.result.args.length = le at *
  generalize f.body.length = l1 at *
  generalize f.params.length = l2 at *
  have q2 := box7_2 w (.string f.name) (.slice a2 l2 cap2) (.slice a1 l1 cap1) (.int .i64 f.result.kind) (.int .i64 f.result.n) (.string f.result.name) (.slice ae le ce) 87
  have q3 := box7_3 w (.string f.name) (.slice a2 l2 cap2) (.slice a1 l1 cap1) (.int .i64 f.result.kind) (.int .i64 f.result.n) (.string f.result.name) (.slice ae le ce) 87
  have q4 := box7_4 w (.string f.name) (.slice a2 l2 cap2) (.slice a1 l1 cap1) (.int .i64 f.result.kind) (.int .i64 f.result.n) (.string f.result.name) (.slice ae le ce) 87
  have q5 := box7_5 w (.string f.name) (.slice a2 l2 cap2) (.slice a1 l1 cap1) (.int .i64 f.result.kind) (.int .i64 f.result.n) (.string f.result.name) (.slice ae le ce) 87
  have q6 := box7_6 w (.string f.name) (.slice a2 l2 cap2) (.slice a1 l1 cap1) (.int .i64 f.result.kind) (.int .i64 f.result.n) (.string f.result.name) (.slice ae le ce) 87
  have HB0 := hide (boxBelow w (.cells #[.string f.name, .slice a2 l2 cap2, .slice a1 l1 cap1, .int .i64 f.result.kind, .int .i64 f.result.n, .string f.result.name, .slice ae le ce] 87))
  go_enter Tryz.func134, Tryz.ntmps134
  go_wp2_with fail
  generalize (w.alloc (.cells #[.string f.name, .slice a2 l2 cap2, .slice a1 l1 cap1, .int .i64 f.result.kind, .int .i64 f.result.n, .string f.result.name, .slice ae le ce] 87)) = w5 at *
  have HSB := hide (HS.out.below HB0.out).2.2.1
  have HX := hide (HS.out.below HB0.out).2.2.2
  have HF : Hid (∀ wx, Hid (Below w5.heap.size w5 wx) → Hid (Below w5.heap.size w5 wx) ∧ wx.cell? ⟨w.heap.size, 2, none⟩ = some (.slice a1 l1 cap1) ∧ wx.cell? ⟨w.heap.size, 3, none⟩ = some (.int .i64 f.result.kind) ∧
      wx.cell? ⟨w.heap.size, 3 + 1, none⟩ = some (.int .i64 f.result.n) ∧ wx.cell? ⟨w.heap.size, 3 + 2, none⟩ = some (.string f.result.name) ∧ wx.cell? ⟨w.heap.size, 3 + 3, none⟩ = some (.slice ae le ce)) :=
    fun wx h => ⟨h, cellUp q2 h.out, cellUp q3 h.out, cellUp q4 h.out, cellUp q5 h.out, cellUp q6 h.out⟩
  have H00 : Hid (Below w5.heap.size w5 w5) := hide (Below.refl _ _)
  generalize hda : Lat.bdD m f.body = da at *
  have HDA := hide hda
  clear hda
  generalize hdb : Lat.exD m f.result = db at *
  have HDB := hide hdb
  clear hdb q2 q3 q4 q5 q6
  have WA : Hid (IntKind.i64.wrap (1 + (da : Int)) = 1 + (da : Int)) := hide (wrap_small (by omega) (by omega))
  have WB : Hid (IntKind.i64.wrap (1 + (db : Int)) = 1 + (db : Int)) := hide (wrap_small (by omega) (by omega))
  have W2 : Hid (IntKind.i64.wrap 2 = 2) := hide (wrap_small (by omega) (by omega))
  go_region_held3 (fun wx => Hid (Below w5.heap.size w5 wx) ∧ wx.cell? ⟨w.heap.size, 2, none⟩ = some (.slice a1 l1 cap1) ∧ wx.cell? ⟨w.heap.size, 3, none⟩ = some (.int .i64 f.result.kind) ∧
      wx.cell? ⟨w.heap.size, 3 + 1, none⟩ = some (.int .i64 f.result.n) ∧ wx.cell? ⟨w.heap.size, 3 + 2, none⟩ = some (.string f.result.name) ∧ wx.cell? ⟨w.heap.size, 3 + 3, none⟩ = some (.slice ae le ce))
    (first | exact HF.out _ HW31 | exact HF.out _ HW30 | exact HF.out _ (hide H00.out.drew))
    (first
      | (go_at_call 187; refine (commandsDepth_any m _ _ f.body ?_ w2).mono ?_; (exact HSB.out.below H00.out.drew); rintro e w30 ⟨rfl, hb30⟩; have HW30 := hide (up H00.out.drew hb30); clear hb30; rw [HDA.out])
      | (go_at_call 188; refine (exprDepth_any m _ _ _ _ _ f.result ?_ w1).mono ?_; (exact HX.out.below HW30.out); rintro e w31 ⟨rfl, hb31⟩; have HW31 := hide (up HW30.out hb31); clear hb31; rw [HDB.out]))
  all_goals
    go_wp2
  all_goals
    go_ret
    exact ⟨ret_int (by rw [HE.out]; (try simp only [WA.out, WB.out, W2.out]); omega), up HB0.out HW31.out⟩

theorem fuD_le (m : Nat) (f : Fu) : Lat.fuD m f ≤ 2 + stsW m f.body + exW m f.result := by
  have h1 := bdD_le m f.body
  have h2 := exD_le m f.result
  unfold Lat.fuD; omega

set_option maxHeartbeats 2000000 in
set_option maxRecDepth 100000 in
theorem moduleDepth_any (m : Nat) (w : World) (v : Value) (x : Mo) (h : MoAt w m v x) (hw : moW m x ≤ 1048576) :
    Calls Tryz.prog 79 #[v] w fun e w' => e = .returned (.int .i64 (Lat.moD m x)) ∧ Below w.heap.size w w' := by
  have HE : Hid (Lat.moD m x = 1 + max 1 (Lat.maxN (Lat.fuD m) x.funs)) := rfl
  obtain ⟨vi, vv, vf, rfl, hnm, hI, hV, hF⟩ := h
  have hwm : x.name.size + 2 + strsW x.imports + vasW x.vars + fusW m x.funs ≤ 1048576 := hw
  obtain ⟨ai, ci, rfl, hli⟩ := hI.shape
  obtain ⟨av, bv, ov, cv, rfl, _, hlv, _⟩ := hV
  obtain ⟨a, b, off, cap, rfl, ha, hl, hel⟩ := hF
  clear hI
  generalize hfs : x.funs = l at *
  have HW : Hid (∀ (i : Nat) (y : Fu), l[i]? = some y → stsW m y.body + exW m y.result + 2 ≤ 1048576) := hide (fun i y hy => by
    have : y.name.size + 2 + strsW y.params + stsW m y.body + exW m y.result ≤ (l.map fun s : Fu => s.name.size + 2 + strsW s.params + stsW m s.body + exW m s.result).sum := mem_le_sum (f := fun s : Fu => s.name.size + 2 + strsW s.params + stsW m s.body + exW m s.result) (List.mem_of_getElem? hy)
    unfold fusW at hwm; omega)
  have HM : Hid (Lat.maxN (Lat.fuD m) l ≤ 1048576) := hide (maxN_le (fun y hy => by
    obtain ⟨i, hi, rfl⟩ := List.mem_iff_getElem.1 hy
    have h1 := HW.out i _ (List.getElem?_eq_getElem hi)
    have h2 := fuD_le m l[i]
    omega))
  have HEL := hide hel
  have HA := hide ha
  clear hel ha hw hwm
  obtain ⟨len, hlen⟩ : ∃ len, len = l.length := ⟨_, rfl⟩
  have HL := hide hlen
  rw [← hlen] at hl HA ⊢
  clear hlen
  generalize x.imports.length = li at *
  generalize x.vars.length = lv at *
  have q3 := boxCells4 w (.string x.name) (.slice ai li ci) (.slice av lv cv) (.slice a len cap) 26
  have HB0 := hide (boxBelow w (.cells #[.string x.name, .slice ai li ci, .slice av lv cv, .slice a len cap] 26))
  go_enter Tryz.func79, Tryz.ntmps79
  go_wp2_with fail
  generalize (w.alloc (.cells #[.string x.name, .slice ai li ci, .slice av lv cv, .slice a len cap] 26)) = W0 at *
  go_loopw [3, 9] (fun o i wr => ∃ j : Nat, j ≤ len ∧ i = .int .i64 j ∧ (∃ c : Nat, c = max 1 (Lat.maxN (Lat.fuD m) (l.take j)) ∧ o = .int .i64 c) ∧ Below W0.heap.size W0 wr) (fun _ i _ => len - (intOf i).toNat)
  case atStart => exact ⟨0, Nat.zero_le _, rfl, ⟨1, rfl, rfl⟩, Below.refl _ _⟩
  case round =>
    obtain ⟨j, hj, rfl, ⟨acc, hac, rfl⟩, hnx⟩ := hrel
    have hacc : acc ≤ 1048576 := by
      have := Nat.le_trans (maxN_take_le (f := Lat.fuD m) l j) HM.out
      omega
    have HAC := hide hac
    clear hac
    by_cases hjl : j < len
    · obtain ⟨y, hy⟩ : ∃ y, l[j]? = some y := ⟨_, List.getElem?_eq_getElem (by rw [← HL.out]; exact hjl)⟩
      obtain ⟨k1, vp, vb, e0, e1, e2, e3, g0, g1, g2, g3, g4, g5, g6, hp, hsb, hx⟩ := HEL.out j y hy
      have HST := hide (maxN_take (f := Lat.fuD m) hy)
      have hyw : stsW m y.body + exW m y.result ≤ 1048576 := by have := HW.out j y hy; omega
      obtain rfl := HA.out (by omega)
      have hbb := up HB0.out hnx
      have u0 := cellUp g0 hbb
      have u1 := cellUp g1 hbb
      have u2' := cellUp g2 hbb
      have u3' := cellUp g3 hbb
      have u4 := cellUp g4 hbb
      have u5 := cellUp g5 hbb
      have u6 := cellUp g6 hbb
      have HAT : Hid (FuAt wr m vp vb e0 e1 e2 e3 y) := hide ⟨k1, hp.below hbb, hsb.below hbb, hx.below hbb⟩
      obtain ⟨ae, ce, rfl, rfl, rfl, rfl⟩ := hx.shape
      obtain ⟨a1, cap1, rfl, hl1⟩ := hsb.shape
      obtain ⟨a2, cap2, rfl, hl2⟩ := hp.shape
      have HNX := hide hnx
      clear g0 g1 g2 g3 g4 g5 g6 hx hsb hp hy hnx hbb
      go_wp2_with fail
      refine (funDepth_any m _ _ _ _ _ _ _ y (HAT.out.below (boxBelow _ _)) hyw).mono ?_
      rintro e w5 ⟨rfl, hb5⟩
      have HN5 := hide (up HNX.out (up1 hb5))
      clear hb5 HNX
      generalize Lat.fuD m y = dy at *
      go_wp2_with fail
      go_roundw
      case rel => exact ⟨j + 1, by omega, by go_num, ⟨max acc dy, by rw [HST.out, HAC.out]; omega, val_imax rfl⟩, HN5.out⟩
      case measure => simp [intOf]; omega
    · have e : l.take j = l := List.take_of_length_le (by have := HL.out; omega)
      rw [e] at HAC
      clear e
      go_wp2
      go_ret
      exact ⟨ret_int (by rw [HE.out, ← HAC.out]; go_num), up HB0.out hnx⟩

end Go.Proofs.YtbncnkfogkhoeaaGreatDoor

/- Walks over the library: slices.Grow of nil, slices.Concat of lists of strings; over package tree: brackets. -/
namespace Go.Proofs.YtbncnkfogkhoeaaGreatDoor
open Go.RowKit

/-- append of a slice that came in, whatever its address: nil where nothing is appended. -/
theorem wpList_append_strs {w : World} {ops : Array Oper} {rest : List Oper} {o : Oper} {a : Act} {Q : Exit → Act → World → Prop} (hgd : o.guard = none) (s x : Operand)
    (ho : o.op = .call { callee := .builtin .append, args := #[s, x], argTypes := #[22, 22] })
    (base : Nat) (v : Value) (l k : List ByteArray) (hs : a.eval s = v) (hown : Own w base v l)
    (vx : Value) (hx : a.eval x = vx) (hk : Strs w vx k) (h63 : l.length + k.length ≤ 16777300) (hbase : base ≤ w.heap.size)
    (h : ∀ v' w', Own w' base v' (l ++ k) → w.grownBy w' v.ownBlock → wpList Tryz.prog ops Q rest (a.put o.dst v') w') : wpList Tryz.prog ops Q (o :: rest) a w := by
  obtain ⟨iS, hiS, hz0, hz1, hz2⟩ := info_parts infoStr
  obtain ⟨ao, b, off, c, rfl, ha, _, _, hc⟩ := hk
  have hown' : w.ownsRow base 9 1 v l.length (l.map Value.string) := hown
  cases ao with
  | none =>
    have hk0 : k = [] := by
      cases k with
      | nil => rfl
      | cons y k => exact absurd (ha (by simp)) (by simp)
    subst hk0
    refine wpList_plain hgd fun K hK => ?_
    have hrun : (Builtin.append_ #[22, 22] o.type #[v, .slice none 0 c]).run Tryz.prog w = .ok v w := by
      rcases hown'.2 with ⟨rfl, h0⟩ | ⟨g, cap, cur, rfl, _, _, hnc, _⟩
      · simp [Builtin.append_, run_underlying Tryz.underlying22, sizeOf, typeInfo, hiS, Builtin.lenOf, Builtin.firstCells]
      · simp [Builtin.append_, run_underlying Tryz.underlying22, sizeOf, typeInfo, hiS, Builtin.lenOf, Builtin.firstCells, hnc, storeCells]
    have hx' : a.eval x = .slice none 0 c := hx
    unfold Oper.wp
    simp [execOp, ho, resolve, invoke, builtin, hs, hx', hrun, Result.andThen]
    exact hK _ _ (h v w (by rw [List.append_nil]; exact hown) (World.grownBy.refl _ _))
  | some ad =>
    refine wpList_append_own _ hgd s x 22 ho base 9 iS (.string ⟨#[]⟩) 1 16 Tryz.underlying22 hiS hz0 hz1 hz2 rfl (by decide) v l.length (l.map Value.string) hs hown' ad k.length c (k.map Value.string) hx (by simp) (fun j u hu => ?_) (fun u hu => ?_) (by unfold maxLen; omega) (by omega) hbase ?_
    · obtain ⟨hj, rfl⟩ := List.getElem?_eq_some_iff.1 hu
      have hj' : j < k.length := by simpa using hj
      have e := ha (by omega)
      simp only [Option.some.injEq] at e
      subst e
      rw [Addr.add_lit, hc j hj']
      simp [hj']
    · obtain ⟨y, _, rfl⟩ := List.mem_map.1 hu
      rfl
    · intro v' w' h1 h2 _
      refine h v' w' ?_ h2
      unfold Own
      rw [List.length_append, List.map_append]
      exact h1

/-- The slice v is a list of lists of strings. -/
def StrsS (w : World) (v : Value) (ls : List (List ByteArray)) : Prop :=
  ∃ b off cap, v = .slice (some ⟨b, off, none⟩) ls.length cap ∧ ls.length ≤ 16 ∧ ∀ i l, ls[i]? = some l → ∃ vi, w.cell? ⟨b, off + i, none⟩ = some vi ∧ Strs w vi l

theorem flat_take {ls : List (List ByteArray)} {j : Nat} {l : List ByteArray} (h : ls[j]? = some l) : (ls.take (j + 1)).flatten = (ls.take j).flatten ++ l := by
  obtain ⟨hj, rfl⟩ := List.getElem?_eq_some_iff.1 h
  rw [List.take_succ_eq_append_getElem hj, List.flatten_append]; simp
theorem flatl_le (ls : List (List ByteArray)) (j : Nat) : (ls.take j).flatten.length ≤ ls.flatten.length := by
  conv => rhs; rw [← List.take_append_drop j ls]
  rw [List.flatten_append, List.length_append]; omega

namespace Lat
/-- Words with one blank between two. -/
def jn (l : List ByteArray) : ByteArray := ⟨(Lib.join (l.map (·.data.toList)) [32]).toArray⟩
def brk (l : List ByteArray) : ByteArray := (⟨#[40]⟩ : ByteArray) ++ jn l ++ (⟨#[41]⟩ : ByteArray)
end Lat

theorem jn_size (l : List ByteArray) : (Lat.jn l).size = (Lib.join (l.map (·.data.toList)) [32]).length := by
  unfold Lat.jn; rw [← size_list]
theorem brk_size (l : List ByteArray) : (Lat.brk l).size = (Lat.jn l).size + 2 := by
  unfold Lat.brk
  rw [ByteArray.size_append, ByteArray.size_append]
  show 1 + _ + 1 = _
  omega
theorem jn_len (l : List ByteArray) : l.length ≤ (Lat.jn l).size + 1 := by
  rw [jn_size]
  cases l with
  | nil => simp
  | cons y l =>
    rw [List.map_cons, Lib.join_length]
    simp only [List.length_cons, List.length_map, List.length_nil]
    omega

end Go.Proofs.YtbncnkfogkhoeaaGreatDoor

/- Walks over package tree: exprTexts, exprText: of expressions that may be, the text that the document asks. -/
namespace Go.Proofs.YtbncnkfogkhoeaaGreatDoor
open Go.RowKit

theorem strs_lit1 {w : World} {B : Nat} (hB : w.heap.size = B) (s : ByteArray) (hs : s.size ≤ maxLen) : Strs (w.alloc (.cells #[.string s] 9)) (.slice (some ⟨B, 0, none⟩) 1 1) [s] := by
  subst hB
  exact ⟨_, w.heap.size, 0, 1, rfl, fun _ => rfl, by simp, fun t ht => by simp at ht; subst ht; exact hs, fun j hj => by
    have hj' : j < 1 := hj
    obtain rfl : j = 0 := by omega
    simp [go_sem]⟩
theorem strs_lit2 {w : World} {B : Nat} (hB : w.heap.size = B) (s t : ByteArray) (hs : s.size ≤ maxLen) (ht : t.size ≤ maxLen) : Strs (w.alloc (.cells #[.string s, .string t] 9)) (.slice (some ⟨B, 0, none⟩) 2 2) [s, t] := by
  subst hB
  exact ⟨_, w.heap.size, 0, 2, rfl, fun _ => rfl, by simp, fun u hu => by simp at hu; rcases hu with rfl | rfl <;> assumption, fun j hj => by
    have hj' : j < 2 := hj
    obtain rfl | rfl : j = 0 ∨ j = 1 := by omega
    all_goals simp [go_sem]⟩
theorem strs_lit3 {w : World} {B : Nat} (hB : w.heap.size = B) (s t u : ByteArray) (hs : s.size ≤ maxLen) (ht : t.size ≤ maxLen) (hu : u.size ≤ maxLen) : Strs (w.alloc (.cells #[.string s, .string t, .string u] 9)) (.slice (some ⟨B, 0, none⟩) 3 3) [s, t, u] := by
  subst hB
  exact ⟨_, w.heap.size, 0, 3, rfl, fun _ => rfl, by simp, fun x hx => by simp at hx; rcases hx with rfl | rfl | rfl <;> assumption, fun j hj => by
    have hj' : j < 3 := hj
    obtain rfl | rfl | rfl : j = 0 ∨ j = 1 ∨ j = 2 := by omega
    all_goals simp [go_sem]⟩
theorem strs_lit4 {w : World} {B : Nat} (hB : w.heap.size = B) (s t u x : ByteArray) (hs : s.size ≤ maxLen) (ht : t.size ≤ maxLen) (hu : u.size ≤ maxLen) (hx : x.size ≤ maxLen) : Strs (w.alloc (.cells #[.string s, .string t, .string u, .string x] 9)) (.slice (some ⟨B, 0, none⟩) 4 4) [s, t, u, x] := by
  subst hB
  exact ⟨_, w.heap.size, 0, 4, rfl, fun _ => rfl, by simp, fun y hy => by simp at hy; rcases hy with rfl | rfl | rfl | rfl <;> assumption, fun j hj => by
    have hj' : j < 4 := hj
    obtain rfl | rfl | rfl | rfl : j = 0 ∨ j = 1 ∨ j = 2 ∨ j = 3 := by omega
    all_goals simp [go_sem]⟩
theorem strsS_1 {w : World} {B : Nat} (hB : w.heap.size = B) {v1 : Value} {l1 : List ByteArray} (h1 : Strs w v1 l1) : StrsS (w.alloc (.cells #[v1] 22)) (.slice (some ⟨B, 0, none⟩) 1 1) [l1] := by
  subst hB
  exact ⟨w.heap.size, 0, 1, rfl, by simp, fun i l hl => by
    obtain ⟨hi, rfl⟩ := List.getElem?_eq_some_iff.1 hl
    have hi' : i < 1 := hi
    obtain rfl : i = 0 := by omega
    exact ⟨v1, by simp [go_sem], h1.below (boxBelow _ _)⟩⟩
theorem strsS_2 {w : World} {B : Nat} (hB : w.heap.size = B) {v1 v2 : Value} {l1 l2 : List ByteArray} (h1 : Strs w v1 l1) (h2 : Strs w v2 l2) : StrsS (w.alloc (.cells #[v1, v2] 22)) (.slice (some ⟨B, 0, none⟩) 2 2) [l1, l2] := by
  subst hB
  exact ⟨w.heap.size, 0, 2, rfl, by simp, fun i l hl => by
    obtain ⟨hi, rfl⟩ := List.getElem?_eq_some_iff.1 hl
    have hi' : i < 2 := hi
    obtain rfl | rfl : i = 0 ∨ i = 1 := by omega
    · exact ⟨v1, by simp [go_sem], h1.below (boxBelow _ _)⟩
    · exact ⟨v2, by simp [go_sem], h2.below (boxBelow _ _)⟩⟩
theorem strsS_3 {w : World} {B : Nat} (hB : w.heap.size = B) {v1 v2 v3 : Value} {l1 l2 l3 : List ByteArray} (h1 : Strs w v1 l1) (h2 : Strs w v2 l2) (h3 : Strs w v3 l3) : StrsS (w.alloc (.cells #[v1, v2, v3] 22)) (.slice (some ⟨B, 0, none⟩) 3 3) [l1, l2, l3] := by
  subst hB
  exact ⟨w.heap.size, 0, 3, rfl, by simp, fun i l hl => by
    obtain ⟨hi, rfl⟩ := List.getElem?_eq_some_iff.1 hl
    have hi' : i < 3 := hi
    obtain rfl | rfl | rfl : i = 0 ∨ i = 1 ∨ i = 2 := by omega
    · exact ⟨v1, by simp [go_sem], h1.below (boxBelow _ _)⟩
    · exact ⟨v2, by simp [go_sem], h2.below (boxBelow _ _)⟩
    · exact ⟨v3, by simp [go_sem], h3.below (boxBelow _ _)⟩⟩
theorem strsS_4 {w : World} {B : Nat} (hB : w.heap.size = B) {v1 v2 v3 v4 : Value} {l1 l2 l3 l4 : List ByteArray} (h1 : Strs w v1 l1) (h2 : Strs w v2 l2) (h3 : Strs w v3 l3) (h4 : Strs w v4 l4) : StrsS (w.alloc (.cells #[v1, v2, v3, v4] 22)) (.slice (some ⟨B, 0, none⟩) 4 4) [l1, l2, l3, l4] := by
  subst hB
  exact ⟨w.heap.size, 0, 4, rfl, by simp, fun i l hl => by
    obtain ⟨hi, rfl⟩ := List.getElem?_eq_some_iff.1 hl
    have hi' : i < 4 := hi
    obtain rfl | rfl | rfl | rfl : i = 0 ∨ i = 1 ∨ i = 2 ∨ i = 3 := by omega
    · exact ⟨v1, by simp [go_sem], h1.below (boxBelow _ _)⟩
    · exact ⟨v2, by simp [go_sem], h2.below (boxBelow _ _)⟩
    · exact ⟨v3, by simp [go_sem], h3.below (boxBelow _ _)⟩
    · exact ⟨v4, by simp [go_sem], h4.below (boxBelow _ _)⟩⟩

theorem Strs.allocUp {w : World} {v : Value} {l : List ByteArray} {o : Obj} (h : Strs w v l) : Strs (w.alloc o) v l := h.below (boxBelow _ _)
theorem Strs.drewUp {w : World} {v : Value} {l : List ByteArray} (h : Strs w v l) : Strs w.drew v l := h.below (Below.refl _ _).drew
theorem hidB_alloc {W0 x : World} {o : Obj} (h : Hid (Below W0.heap.size W0 x)) : Hid (Below W0.heap.size W0 (x.alloc o)) := hide (h.out.alloc h.out.size o)
theorem hidB_drew {W0 x : World} (h : Hid (Below W0.heap.size W0 x)) : Hid (Below W0.heap.size W0 x.drew) := hide h.out.drew

theorem bytes_ext {a b : ByteArray} (h : a.data.toList = b.data.toList) : a = b := by
  cases a with | mk a => cases b with | mk b => congr 1; exact Array.toList_inj.1 h
theorem app_list (a b : ByteArray) : (a ++ b).data.toList = a.data.toList ++ b.data.toList := by
  rw [ByteArray.data_append, Array.toList_append]
theorem brk_list (l : List ByteArray) : (Lat.brk l).data.toList = 40 :: (Lib.join (l.map (·.data.toList)) [32] ++ [41]) := by
  unfold Lat.brk Lat.jn
  rw [app_list, app_list]; rfl
theorem fold_list {t : Ex → ByteArray} (l : List Ex) (acc : ByteArray) : (l.foldl (Lat.exStep t) acc).data.toList = acc.data.toList ++ Lib.joinTail [32] ((l.map t).map (·.data.toList)) := by
  induction l generalizing acc with
  | nil => simp [Lib.joinTail]
  | cons y l ih =>
    rw [List.foldl_cons, ih]
    unfold Lat.exStep
    rw [app_list, app_list]
    simp [Lib.joinTail]
theorem op_text (x : Ex) (t : Ex → ByteArray) (h : x.kind ≠ 4) : Lat.brk (x.name :: x.args.map t) = x.args.foldl (Lat.exStep t) (Lat.exHead x) ++ (⟨#[41]⟩ : ByteArray) := by
  apply bytes_ext
  rw [brk_list, app_list, fold_list, List.map_cons, Lib.join_cons]
  unfold Lat.exHead
  rw [if_neg h, app_list]
  simp
theorem call_text (x : Ex) (t : Ex → ByteArray) (h : x.kind = 4) : Lat.brk (⟨#[99, 97, 108, 108]⟩ :: x.name :: x.args.map t) = x.args.foldl (Lat.exStep t) (Lat.exHead x) ++ (⟨#[41]⟩ : ByteArray) := by
  apply bytes_ext
  rw [brk_list, app_list, fold_list, List.map_cons, Lib.join_cons]
  unfold Lat.exHead
  rw [if_pos h, app_list]
  simp [Lib.joinTail]

theorem map_take {α β : Type} {f : α → β} {l : List α} {j : Nat} {y : α} (h : l[j]? = some y) : (l.take (j + 1)).map f = (l.take j).map f ++ [f y] := by
  obtain ⟨hj, rfl⟩ := List.getElem?_eq_some_iff.1 h
  rw [List.take_succ_eq_append_getElem hj, List.map_append]; rfl

theorem texts_small {w : World} {m : Nat} {b off : Nat} {args : List Ex} (hel : ∀ i y, args[i]? = some y → ∃ e0 e1 e2 e3, w.cell? ⟨b, off + i * 4, none⟩ = some e0 ∧ w.cell? ⟨b, off + i * 4 + 1, none⟩ = some e1 ∧ w.cell? ⟨b, off + i * 4 + 2, none⟩ = some e2 ∧ w.cell? ⟨b, off + i * 4 + 3, none⟩ = some e3 ∧ ExAt w m e0 e1 e2 e3 y)
    (hw : (args.map (exW m)).sum ≤ 1048576) : ∀ s ∈ args.map (Lat.exT m), s.size ≤ maxLen := by
  intro s hs
  obtain ⟨y, hy, rfl⟩ := List.mem_map.1 hs
  obtain ⟨i, hi, rfl⟩ := List.mem_iff_getElem.1 hy
  obtain ⟨e0, e1, e2, e3, _, _, _, _, hye⟩ := hel i _ (List.getElem?_eq_getElem hi)
  have h1 := exT_size hye
  have h2 : exW m args[i] ≤ (args.map (exW m)).sum := mem_le_sum (List.getElem_mem hi)
  unfold maxLen; omega

end Go.Proofs.YtbncnkfogkhoeaaGreatDoor

/- Walks over package tree: commandText, commandTexts: of commands that may be, the text that the document asks. -/
namespace Go.Proofs.YtbncnkfogkhoeaaGreatDoor
open Go.RowKit

namespace Lat
/-- A command's text by itself. -/
def stX (m : Nat) (s : St) : ByteArray := stT (exT m) (bdT m) s ⟨#[]⟩
def txs : Nat → List St → List ByteArray
  | 0, _ => []
  | m + 1, l => l.map (stX m)
end Lat

theorem stT_acc (et : Ex → ByteArray) (bt : List St → ByteArray) (s : St) (acc : ByteArray) : Lat.stT et bt s acc = acc ++ Lat.stT et bt s ⟨#[]⟩ := by
  have e : ∀ x : ByteArray, (⟨#[]⟩ : ByteArray) ++ x = x := fun x => by apply bytes_ext; rw [app_list]; rfl
  have e2 : ∀ x : ByteArray, x ++ (⟨#[]⟩ : ByteArray) = x := fun x => by apply bytes_ext; rw [app_list]; simp
  unfold Lat.stT
  simp only [e]
  split
  · rfl
  · split
    · rfl
    · split
      · rfl
      · split
        · rfl
        · rw [e2]

theorem joinTail_app (sep : List UInt8) (a b : List (List UInt8)) : Lib.joinTail sep (a ++ b) = Lib.joinTail sep a ++ Lib.joinTail sep b := by
  simp [Lib.joinTail]
theorem jn_list (l : List ByteArray) : (Lat.jn l).data.toList = Lib.join (l.map (·.data.toList)) [32] := by unfold Lat.jn; rfl
theorem jn_snoc (l : List ByteArray) (x : ByteArray) : Lat.jn (l ++ [x]) = (if 0 < l.length then Lat.jn l ++ (⟨#[32]⟩ : ByteArray) else Lat.jn l) ++ x := by
  cases l with
  | nil =>
    apply bytes_ext
    rw [if_neg (by simp), app_list, jn_list, jn_list]
    simp [Lib.join_one, Lib.join_nil]
  | cons y l =>
    apply bytes_ext
    rw [if_pos (by simp), app_list, app_list, jn_list, jn_list, List.cons_append, List.map_cons, List.map_cons, Lib.join_cons, Lib.join_cons, List.map_append, joinTail_app]
    simp [Lib.joinTail]

theorem bdTo_jn (m : Nat) (l : List St) : ∀ j, j ≤ l.length → Lat.bdTo (Lat.exT m) (Lat.bdT m) l j = Lat.jn ((l.take j).map (Lat.stX m))
  | 0, _ => by
    apply bytes_ext
    rw [jn_list]; simp [Lat.bdTo, Lib.join_nil]
  | j + 1, hj => by
    obtain ⟨s, hs⟩ : ∃ s, l[j]? = some s := ⟨_, List.getElem?_eq_getElem (by omega)⟩
    rw [bdTo_succ hs, stT_acc, map_take hs, jn_snoc, bdTo_jn m l j (by omega)]
    have e : ((l.take j).map (Lat.stX m)).length = j := by rw [List.length_map, List.length_take]; omega
    rw [e]; rfl
theorem bdT_jn (m : Nat) (l : List St) : Lat.bdT m l = Lat.jn (Lat.txs m l) := by
  cases m with
  | zero => apply bytes_ext; rw [jn_list]; simp [Lat.bdT, Lat.txs, Lib.join_nil]
  | succ m =>
    simp only [Lat.bdT, Lat.txs]
    rw [bdTo_jn m l l.length (Nat.le_refl _), List.take_length]

section
variable (m : Nat) (s : St)
theorem set_text (h : s.kind = 1) : Lat.brk [⟨#[115, 101, 116]⟩, s.name, Lat.exT m s.e] = Lat.stX m s := by
  apply bytes_ext
  rw [brk_list]
  unfold Lat.stX Lat.stT
  rw [if_pos h]
  simp [Lib.join_cons, Lib.joinTail]
theorem print_text (h : s.kind = 4) : Lat.brk [⟨#[112, 114, 105, 110, 116]⟩, s.name, Lat.exT m s.e] = Lat.stX m s := by
  apply bytes_ext
  rw [brk_list]
  unfold Lat.stX Lat.stT
  rw [if_neg (by omega), if_pos h]
  simp [Lib.join_cons, Lib.joinTail]
theorem while_text (h : s.kind = 3) : Lat.brk [⟨#[119, 104, 105, 108, 101]⟩, Lat.exT m s.e, Lat.brk (Lat.txs m s.a)] = Lat.stX m s := by
  apply bytes_ext
  rw [brk_list]
  unfold Lat.stX Lat.stT
  rw [if_neg (by omega), if_neg (by omega), if_pos h, bdT_jn]
  simp [Lib.join_cons, Lib.joinTail, brk_list, jn_list]
theorem if_text (h : s.kind = 2) : Lat.brk [⟨#[105, 102]⟩, Lat.exT m s.e, Lat.brk (Lat.txs m s.a), Lat.brk (Lat.txs m s.b)] = Lat.stX m s := by
  apply bytes_ext
  rw [brk_list]
  unfold Lat.stX Lat.stT
  rw [if_neg (by omega), if_neg (by omega), if_neg (by omega), if_pos h, bdT_jn, bdT_jn]
  simp [Lib.join_cons, Lib.joinTail, brk_list, jn_list]
end

theorem brk_txs {w : World} {m : Nat} {v : Value} {l : List St} (h : StsAt w m v l) (hw : stsW m l ≤ 1048576) : (Lat.brk (Lat.txs m l)).size ≤ 6291458 := by
  have := bdT_size h
  rw [brk_size, ← bdT_jn]; omega
theorem stX_size {w : World} {m : Nat} {e0 e1 e2 e3 va vb : Value} {s : St} (h : StAt w m e0 e1 e2 e3 va vb s) (hw : s.name.size + 3 + exW m s.e + stsW m s.a + stsW m s.b ≤ 1048576) : (Lat.stX m s).size ≤ 6291467 := by
  have h1 := (stT_size (Lat.exT m) (Lat.bdT m) s ⟨#[]⟩).2
  have h2 := exT_size h.2.2.1
  have h3 := bdT_size h.2.2.2.1
  have h4 := bdT_size h.2.2.2.2
  have e : (⟨#[]⟩ : ByteArray).size = 0 := rfl
  unfold Lat.stX
  omega

theorem len_le_sum {α : Type} {f : α → Nat} : ∀ {l : List α}, (∀ y ∈ l, 1 ≤ f y) → l.length ≤ (l.map f).sum
  | [], _ => Nat.le_refl _
  | y :: l, h => by
    have h1 := h y (by simp)
    have h2 := len_le_sum (l := l) (fun z hz => h z (by simp [hz]))
    simp only [List.length_cons, List.map_cons, List.sum_cons]; omega

end Go.Proofs.YtbncnkfogkhoeaaGreatDoor

/- Walks over package tree: importTexts, varTexts. -/
namespace Go.Proofs.YtbncnkfogkhoeaaGreatDoor
open Go.RowKit

namespace Lat
def impX (s : ByteArray) : ByteArray := brk [⟨#[105, 109, 112, 111, 114, 116]⟩, s]
def vaX (v : Va) : ByteArray := brk [⟨#[118, 97, 114]⟩, v.name, v.level]
end Lat

theorem impX_size (s : ByteArray) : (Lat.impX s).size = s.size + 9 := by
  unfold Lat.impX
  rw [brk_size, jn_size]
  simp [Lib.join_cons, Lib.joinTail]
theorem vaX_size (v : Va) : (Lat.vaX v).size = v.name.size + v.level.size + 7 := by
  unfold Lat.vaX
  rw [brk_size, jn_size]
  simp [Lib.join_cons, Lib.joinTail]
  omega

end Go.Proofs.YtbncnkfogkhoeaaGreatDoor

/- Walks over package tree: funTexts. -/
namespace Go.Proofs.YtbncnkfogkhoeaaGreatDoor
open Go.RowKit

namespace Lat
def fuX (m : Nat) (f : Fu) : ByteArray := brk [[⟨#[102, 117, 110]⟩, f.name, brk f.params], txs m f.body, [exT m f.result]].flatten
end Lat

theorem par_jn (l : List ByteArray) (acc : ByteArray) : ∀ j, j ≤ l.length → Lat.parTo l acc j = acc ++ Lat.jn (l.take j)
  | 0, _ => by
    apply bytes_ext
    rw [app_list, jn_list]; simp [Lat.parTo, Lib.join_nil]
  | j + 1, hj => by
    obtain ⟨y, hy⟩ : ∃ y, l[j]? = some y := ⟨_, List.getElem?_eq_getElem (by omega)⟩
    have e1 : l.take (j + 1) = l.take j ++ [y] := by
      have := map_take (f := id) hy
      simpa using this
    have e2 : l.getD j ByteArray.empty = y := by rw [List.getD, hy]; rfl
    have e3 : (l.take j).length = j := by rw [List.length_take]; omega
    rw [parTo_succ, par_jn l acc j (by omega), e1, e2, jn_snoc, e3]
    apply bytes_ext
    by_cases h : 0 < j
    · rw [if_pos h, if_pos h]; simp only [app_list, List.append_assoc]
    · rw [if_neg h, if_neg h]; simp only [app_list, List.append_assoc]

theorem tail_jn {l : List ByteArray} (h : l ≠ []) : Lib.joinTail [32] (l.map (·.data.toList)) = 32 :: (Lat.jn l).data.toList := by
  cases l with
  | nil => exact absurd rfl h
  | cons y l =>
    rw [jn_list, List.map_cons, Lib.join_cons]
    simp [Lib.joinTail]
theorem tail_cons (x : List UInt8) (r : List (List UInt8)) : Lib.joinTail [32] (x :: r) = 32 :: (x ++ Lib.joinTail [32] r) := by simp [Lib.joinTail]
theorem txs_nil {m : Nat} (hm : m ≠ 0) (l : List St) : Lat.txs m l = [] ↔ l = [] := by
  cases m with
  | zero => exact absurd rfl hm
  | succ m => simp [Lat.txs]

theorem fuT_eq {m : Nat} (hm : m ≠ 0) (acc : ByteArray) (f : Fu) : (Lat.fuT m acc f).data.toList = acc.data.toList ++ 32 :: (Lat.fuX m f).data.toList := by
  unfold Lat.fuT Lat.fuB Lat.fuP Lat.fuH Lat.fuX
  rw [par_jn _ _ _ (Nat.le_refl _), List.take_length, brk_list]
  by_cases h : 0 < f.body.length
  · have hne : Lat.txs m f.body ≠ [] := by
      rw [ne_eq, txs_nil hm]; intro e; rw [e] at h; simp at h
    rw [if_pos h, bdT_jn]
    have hfl : [[(⟨#[102, 117, 110]⟩ : ByteArray), f.name, Lat.brk f.params], Lat.txs m f.body, [Lat.exT m f.result]].flatten = ⟨#[102, 117, 110]⟩ :: f.name :: Lat.brk f.params :: (Lat.txs m f.body ++ [Lat.exT m f.result]) := by simp
    rw [hfl, List.map_cons, Lib.join_cons, List.map_cons, tail_cons, List.map_cons, tail_cons, List.map_append, joinTail_app, tail_jn hne, List.map_cons, tail_cons, List.map_nil, brk_list, jn_list]
    simp [jn_list, Lib.joinTail]
  · have he : f.body = [] := List.length_eq_zero_iff.1 (by omega)
    have hne : Lat.txs m f.body = [] := (txs_nil hm _).2 he
    rw [if_neg h, hne]
    simp [Lib.join_cons, Lib.joinTail, brk_list, jn_list]

theorem fuX_size {w : World} {m : Nat} {vp vb e0 e1 e2 e3 : Value} {f : Fu} (h : FuAt w m vp vb e0 e1 e2 e3 f) (hw : fuW m f ≤ 1048576) : (Lat.fuX m f).size ≤ 12582912 := by
  have hm : m ≠ 0 := by
    rintro rfl
    exact h.2.2.1
  have h1 := fuT_size h.2.2.1 h.2.2.2 ⟨#[]⟩
  have h2 := congrArg List.length (fuT_eq hm ⟨#[]⟩ f)
  rw [List.length_append, List.length_cons, size_list, size_list, size_list] at h2
  have e : (⟨#[]⟩ : ByteArray).size = 0 := rfl
  omega
theorem par_size {f : Fu} {m : Nat} (hw : fuW m f ≤ 1048576) : (Lat.brk f.params).size ≤ 1048580 := by
  have h1 := parTo_all f.params ⟨#[]⟩ f.params.length (Nat.le_refl _)
  rw [par_jn _ _ _ (Nat.le_refl _), List.take_length, ByteArray.size_append] at h1
  have e : (⟨#[]⟩ : ByteArray).size = 0 := rfl
  unfold fuW strsW at hw
  rw [brk_size]; omega

theorem step_append_one {w : World} {ops : Array Oper} {o : Oper} {a : Act} {K : Act → World → Prop} {Q : Exit → Act → World → Prop} {E : Prop} (hgd : o.guard = none) (s x : Operand)
    (ho : o.op = .call { callee := .builtin .append, args := #[s, x], argTypes := #[22, 22] })
    (base : Nat) (v : Value) (l : List ByteArray) (hs : a.eval s = v) (hown : Own w base v l) (B : Nat) (t : ByteArray) (hx : a.eval x = .slice (some ⟨B, 0, none⟩) 1 1)
    (hc : w.cell? ⟨B, 0, none⟩ = some (.string t)) (hl : l.length ≤ 1048576) (hbase : base ≤ w.heap.size)
    (h : ∀ g cap w', Own w' base (.slice (some ⟨g, 0, none⟩) (l.length + 1) cap) (l ++ [t]) → w.grownBy w' v.ownBlock → K (a.put o.dst (.slice (some ⟨g, 0, none⟩) (l.length + 1) cap)) w') :
    if Region.wanted o (yielded ops a.tmps) = true then Oper.wp Tryz.prog o a w K Q else E := by
  obtain ⟨iS, hiS, hz0, hz1, hz2⟩ := info_parts infoStr
  have hown' : w.ownsRow base 9 1 v l.length (l.map Value.string) := hown
  refine step_append_lies w hgd s x 22 ho base 9 iS (.string ⟨#[]⟩) 1 16 Tryz.underlying22 hiS hz0 hz1 hz2 rfl (by decide) v l.length (l.map Value.string) hs hown' ⟨B, 0, none⟩ 1 1 [.string t] hx rfl (fun j u hu => ?_) (fun u hu => ?_) (by decide) (by unfold maxLen; omega) (by omega) hbase w.heap.size rfl ?_
  · cases j with
    | zero =>
      simp at hu
      subst hu
      rw [Addr.add_lit]; exact hc
    | succ j => simp at hu
  · simp at hu
    subst hu
    rfl
  · intro g cap w' h1 h2 _ _
    refine h g cap w' ?_ h2
    unfold Own
    rw [List.length_append, List.map_append]
    exact h1

theorem keep_app {w wr Wc w2 : World} {o : Value} {l : List ByteArray} (hO : Own wr w.heap.size o l) (hB : Below w.heap.size w Wc) (hlt : wr.heap.size < Wc.heap.size) (hg : Wc.grownBy w2 o.ownBlock) :
    Below w.heap.size w w2 ∧ ∀ k, w2.cell? ⟨wr.heap.size, k, none⟩ = Wc.cell? ⟨wr.heap.size, k, none⟩ := by
  refine ⟨hB.grown hg hB.size (fun j hj => (hO.lt j hj).1), fun k => hg.cell_far _ hlt (fun e => ?_)⟩
  have := (hO.lt wr.heap.size e.symm).2
  omega
theorem app_step {w wr W1 Wc w2 : World} {o : Value} {l : List ByteArray} {c2 c3 c4 c5 c6 : Value} (hO : Own wr w.heap.size o l) (h1 : Hid (Below W1.heap.size W1 Wc)) (hz : wr.heap.size < W1.heap.size) (hg : Wc.grownBy w2 o.ownBlock)
    (hF : ∀ wx, Hid (Below W1.heap.size W1 wx) → Hid (Below w.heap.size w wx) ∧ wx.cell? ⟨wr.heap.size, 2, none⟩ = some c2 ∧ wx.cell? ⟨wr.heap.size, 3, none⟩ = some c3 ∧ wx.cell? ⟨wr.heap.size, 3 + 1, none⟩ = some c4 ∧ wx.cell? ⟨wr.heap.size, 3 + 2, none⟩ = some c5 ∧ wx.cell? ⟨wr.heap.size, 3 + 3, none⟩ = some c6) :
    Hid (Below w.heap.size w w2) ∧ w2.cell? ⟨wr.heap.size, 2, none⟩ = some c2 ∧ w2.cell? ⟨wr.heap.size, 3, none⟩ = some c3 ∧ w2.cell? ⟨wr.heap.size, 3 + 1, none⟩ = some c4 ∧ w2.cell? ⟨wr.heap.size, 3 + 2, none⟩ = some c5 ∧ w2.cell? ⟨wr.heap.size, 3 + 3, none⟩ = some c6 := by
  obtain ⟨f1, f2, f3, f4, f5, f6⟩ := hF Wc h1
  obtain ⟨k1, k2⟩ := keep_app hO f1.out (by have := h1.out.size; omega) hg
  exact ⟨hide k1, by rw [k2]; exact f2, by rw [k2]; exact f3, by rw [k2]; exact f4, by rw [k2]; exact f5, by rw [k2]; exact f6⟩
theorem cell_lit (w : World) (t : ByteArray) (ty : TypeId) : (w.alloc (.cells #[.string t] ty)).cell? ⟨w.heap.size, 0, none⟩ = some (.string t) := by simp [go_sem]

end Go.Proofs.YtbncnkfogkhoeaaGreatDoor

/- Walks over package tree: moduleText: of a module that may be, the text that the document asks. -/
namespace Go.Proofs.YtbncnkfogkhoeaaGreatDoor
open Go.RowKit

namespace Lat
def moX (m : Nat) (x : Mo) : ByteArray := brk [[⟨#[109, 111, 100, 117, 108, 101]⟩, x.name], x.imports.map impX, x.vars.map vaX, x.funs.map (fuX m)].flatten
end Lat

theorem foldx {α : Type} {f : ByteArray → α → ByteArray} {g : α → ByteArray} : ∀ (l : List α) (acc : ByteArray), (∀ y ∈ l, ∀ acc, (f acc y).data.toList = acc.data.toList ++ 32 :: (g y).data.toList) →
    (l.foldl f acc).data.toList = acc.data.toList ++ Lib.joinTail [32] ((l.map g).map (·.data.toList))
  | [], acc, _ => by simp [Lib.joinTail]
  | y :: l, acc, h => by
    rw [List.foldl_cons, foldx l _ (fun z hz => h z (by simp [hz])), h y (by simp), List.map_cons, List.map_cons, tail_cons]
    simp
theorem impT_eq (acc s : ByteArray) : (Lat.impT acc s).data.toList = acc.data.toList ++ 32 :: (Lat.impX s).data.toList := by
  unfold Lat.impT Lat.impX
  rw [brk_list]
  simp [Lib.join_cons, Lib.joinTail]
theorem vaT_eq (acc : ByteArray) (v : Va) : (Lat.vaT acc v).data.toList = acc.data.toList ++ 32 :: (Lat.vaX v).data.toList := by
  unfold Lat.vaT Lat.vaX
  rw [brk_list]
  simp [Lib.join_cons, Lib.joinTail]

theorem moX_eq {m : Nat} {x : Mo} (hm : x.funs ≠ [] → m ≠ 0) : Lat.moX m x = Lat.moT m x := by
  apply bytes_ext
  unfold Lat.moX Lat.moT Lat.moF Lat.moV Lat.moI Lat.moH
  have hfl : [[(⟨#[109, 111, 100, 117, 108, 101]⟩ : ByteArray), x.name], x.imports.map Lat.impX, x.vars.map Lat.vaX, x.funs.map (Lat.fuX m)].flatten = ⟨#[109, 111, 100, 117, 108, 101]⟩ :: x.name :: (x.imports.map Lat.impX ++ (x.vars.map Lat.vaX ++ x.funs.map (Lat.fuX m))) := by simp
  rw [hfl, brk_list, app_list, foldx (g := Lat.fuX m) x.funs _ (fun y hy acc => fuT_eq (hm (List.ne_nil_of_mem hy)) acc y), foldx (g := Lat.vaX) x.vars _ (fun y _ acc => vaT_eq acc y), foldx (g := Lat.impX) x.imports _ (fun y _ acc => impT_eq acc y),
    List.map_cons, Lib.join_cons, List.map_cons, tail_cons, List.map_append, joinTail_app, List.map_append, joinTail_app, app_list]
  simp

end Go.Proofs.YtbncnkfogkhoeaaGreatDoor

/- How deep the brackets of a module's text are nested: what the text's bytes say, and what the tree says. -/
namespace Go.Proofs.YtbncnkfogkhoeaaGreatDoor
open Go.RowKit

namespace Lat
def bal : List UInt8 → Int
  | [] => 0
  | b :: l => step b + bal l
/-- The most brackets that stand open. -/
def pk : List UInt8 → Int
  | [] => 0
  | b :: l => max 0 (step b + pk l)
def dpt (t : ByteArray) : Nat := (pk t.data.toList).toNat
def Bal (t : ByteArray) : Prop := bal t.data.toList = 0
end Lat

theorem pk_nonneg : ∀ l, 0 ≤ Lat.pk l
  | [] => Int.le_refl _
  | b :: l => by simp only [Lat.pk]; omega
theorem bal_app : ∀ a b, Lat.bal (a ++ b) = Lat.bal a + Lat.bal b
  | [], b => by simp [Lat.bal]
  | c :: a, b => by simp only [List.cons_append, Lat.bal, bal_app a b]; omega
theorem pk_app : ∀ a b, Lat.pk (a ++ b) = max (Lat.pk a) (Lat.bal a + Lat.pk b)
  | [], b => by have := pk_nonneg b; simp only [List.nil_append, Lat.pk, Lat.bal]; omega
  | c :: a, b => by simp only [List.cons_append, Lat.pk, Lat.bal, pk_app a b]; omega
theorem flat_pk : ∀ {l : List UInt8}, (∀ b ∈ l, Lat.step b = 0) → Lat.pk l = 0 ∧ Lat.bal l = 0
  | [], _ => ⟨rfl, rfl⟩
  | b :: l, h => by
    obtain ⟨h1, h2⟩ := flat_pk (l := l) (fun c hc => h c (by simp [hc]))
    have h3 := h b (by simp)
    simp only [Lat.pk, Lat.bal, h1, h2, h3]
    exact ⟨by omega, by omega⟩
theorem dpt_eq (t : ByteArray) : (Lat.dpt t : Int) = Lat.pk t.data.toList := by
  have := pk_nonneg t.data.toList
  unfold Lat.dpt; omega
theorem step_blank : Lat.step 32 = 0 := by decide
theorem tail_pk : ∀ {l : List ByteArray}, (∀ t ∈ l, Lat.Bal t) → Lat.pk (Lib.joinTail [32] (l.map (·.data.toList))) = (Lat.maxN Lat.dpt l : Nat) ∧ Lat.bal (Lib.joinTail [32] (l.map (·.data.toList))) = 0
  | [], _ => ⟨rfl, rfl⟩
  | t :: l, h => by
    obtain ⟨h1, h2⟩ := tail_pk (l := l) (fun c hc => h c (by simp [hc]))
    have h3 : Lat.bal t.data.toList = 0 := h t (by simp)
    have h4 := dpt_eq t
    have h5 := pk_nonneg t.data.toList
    rw [List.map_cons, tail_cons, maxN_cons]
    simp only [Lat.pk, Lat.bal, pk_app, bal_app, h1, h2, h3, step_blank]
    exact ⟨by omega, by omega⟩
theorem join_pk {l : List ByteArray} (h : ∀ t ∈ l, Lat.Bal t) : Lat.pk (Lib.join (l.map (·.data.toList)) [32]) = (Lat.maxN Lat.dpt l : Nat) ∧ Lat.bal (Lib.join (l.map (·.data.toList)) [32]) = 0 := by
  cases l with
  | nil => exact ⟨rfl, rfl⟩
  | cons t l =>
    obtain ⟨h1, h2⟩ := tail_pk (l := l) (fun c hc => h c (by simp [hc]))
    have h3 : Lat.bal t.data.toList = 0 := h t (by simp)
    have h4 := dpt_eq t
    rw [List.map_cons, Lib.join_cons, pk_app, bal_app, h1, h2, h3, maxN_cons]
    exact ⟨by omega, by omega⟩
theorem step_open : Lat.step 40 = 1 := by decide
theorem step_shut : Lat.step 41 = -1 := by decide
theorem brk_dpt {l : List ByteArray} (h : ∀ t ∈ l, Lat.Bal t) : Lat.dpt (Lat.brk l) = 1 + Lat.maxN Lat.dpt l ∧ Lat.Bal (Lat.brk l) := by
  obtain ⟨h1, h2⟩ := join_pk h
  have h3 := dpt_eq (Lat.brk l)
  rw [brk_list] at h3
  simp only [Lat.pk, pk_app, h1, h2, step_open, step_shut] at h3
  refine ⟨by omega, ?_⟩
  unfold Lat.Bal
  rw [brk_list]
  simp only [Lat.bal, bal_app, h2, step_open, step_shut]
  omega
theorem flat_dpt {t : ByteArray} (h : ∀ b ∈ t.data.toList, Lat.step b = 0) : Lat.dpt t = 0 ∧ Lat.Bal t := by
  obtain ⟨h1, h2⟩ := flat_pk h
  exact ⟨by unfold Lat.dpt; rw [h1]; rfl, h2⟩

theorem pk_iff : ∀ (l : List UInt8) (c : Int), 0 ≤ c → (c < Lat.pk l ↔ ∃ j, j < l.length ∧ c < Lat.bal (l.take (j + 1)))
  | [], c, hc => ⟨fun h => by simp only [Lat.pk] at h; omega, fun ⟨j, hj, _⟩ => absurd hj (Nat.not_lt_zero _)⟩
  | b :: l, c, hc => by
    have hp := pk_nonneg l
    constructor
    · intro h
      simp only [Lat.pk] at h
      by_cases h0 : 0 ≤ c - Lat.step b
      · obtain ⟨j, hj, hb⟩ := (pk_iff l (c - Lat.step b) h0).1 (by omega)
        exact ⟨j + 1, by simpa using hj, by rw [List.take_succ_cons]; simp only [Lat.bal]; omega⟩
      · exact ⟨0, by simp, by simp only [List.take_succ_cons, List.take_zero, Lat.bal]; omega⟩
    · rintro ⟨j, hj, hb⟩
      rw [List.take_succ_cons] at hb
      simp only [Lat.bal] at hb
      simp only [Lat.pk]
      cases j with
      | zero => simp only [List.take_zero, Lat.bal] at hb; omega
      | succ j =>
        by_cases h0 : 0 ≤ c - Lat.step b
        · have := (pk_iff l (c - Lat.step b) h0).2 ⟨j, by simpa using hj, by omega⟩
          omega
        · omega
theorem openTo_bal (t : ByteArray) : ∀ j, j ≤ t.size → Lat.openTo t j = Lat.bal (t.data.toList.take j)
  | 0, _ => rfl
  | j + 1, hj => by
    have hj' : j < t.data.toList.length := by rw [size_list]; omega
    rw [openTo_succ t j (by omega), openTo_bal t j (by omega), List.take_succ_eq_append_getElem hj', bal_app]
    simp only [Lat.bal]
    have : t[j] = t.data.toList[j] := rfl
    rw [this]; omega
theorem deepB_dpt (t : ByteArray) : Lat.deepB t = decide (20 < Lat.dpt t) := by
  have h0 := dpt_eq t
  by_cases h : 20 < Lat.dpt t
  · rw [decide_eq_true h]
    obtain ⟨j, hj, hb⟩ := (pk_iff t.data.toList 20 (by omega)).1 (by omega)
    rw [size_list] at hj
    exact deepB_at hj (by rw [openTo_bal t (j + 1) (by omega)]; exact hb)
  · rw [decide_eq_false h]
    refine deepB_not (fun j hj hb => h ?_)
    rw [openTo_bal t (j + 1) (by omega)] at hb
    have := (pk_iff t.data.toList 20 (by omega)).2 ⟨j, by rw [size_list]; omega, hb⟩
    omega

theorem step_letter {c : UInt8} (h : Lat.letterB c = true) : Lat.step c = 0 := by
  unfold Lat.letterB at h
  simp only [Bool.and_eq_true, decide_eq_true_eq] at h
  unfold Lat.step
  rw [if_neg (by rintro rfl; exact absurd h.1 (by decide)), if_neg (by rintro rfl; exact absurd h.1 (by decide))]
theorem name_flat {l : List UInt8} (h : Lat.nameB l = true) : ∀ b ∈ l, Lat.step b = 0 := by
  unfold Lat.nameB at h
  simp only [Bool.and_eq_true] at h
  exact fun b hb => step_letter (List.all_eq_true.1 h.2 b hb)
theorem op_flat {s : ByteArray} (h : Lat.opB s = true) : ∀ b ∈ s.data.toList, Lat.step b = 0 := by
  by_cases h1 : s.size = 1
  · obtain ⟨c, rfl⟩ := one_byte h1
    have : ∀ c : Fin 256, Lat.opB ⟨#[UInt8.ofFin c]⟩ = true → Lat.step (UInt8.ofFin c) = 0 := by decide +kernel
    intro b hb
    simp at hb
    subst hb
    exact this b.toFin h
  · rw [op_size h1] at h; cases h
theorem step_dot : Lat.step 46 = 0 := by decide
theorem call_flat {s : ByteArray} (h : Lat.callB s = true) : ∀ b ∈ s.data.toList, Lat.step b = 0 := by
  unfold Lat.callB at h
  simp only [Bool.and_eq_true, Bool.or_eq_true, Bool.not_eq_true'] at h
  cases hd : Lat.dotAt s with
  | none =>
    have h1 := h.1
    unfold Lat.preS at h1
    rw [hd] at h1
    exact name_flat h1
  | some i =>
    have h1 := h.1
    have h2 : Lat.nameB (Lat.sufS s).data.toList = true := by
      rcases h.2 with h2 | h2
      · rw [hd] at h2; cases h2
      · exact h2
    unfold Lat.preS at h1
    unfold Lat.sufS at h2
    rw [hd] at h1 h2
    obtain ⟨hi, hdot⟩ := Lat.find_spec hd
    intro b hb
    obtain ⟨k, hk, rfl⟩ := List.mem_iff_getElem.1 hb
    have hks : k < s.size := by rw [size_list] at hk; exact hk
    have e1 : (s.extract 0 i).data.toList = s.data.toList.take i := by simp [ByteArray.data_extract]
    have e2 : (s.extract (i + 1) s.size).data.toList = s.data.toList.drop (i + 1) := by
      simp [ByteArray.data_extract]
      exact List.take_of_length_le (by rw [List.length_drop, size_list]; omega)
    simp only [e1] at h1
    simp only [e2] at h2
    rcases Nat.lt_trichotomy k i with hlt | rfl | hgt
    · exact name_flat h1 _ (List.mem_iff_getElem.2 ⟨k, by rw [List.length_take]; omega, by rw [List.getElem_take]⟩)
    · have : s.data.toList[k] = 46 := by
        have := hdot
        simp only [beq_iff_eq] at this
        rw [List.getD, List.getElem?_eq_getElem hk] at this
        exact this
      rw [this]; exact step_dot
    · exact name_flat h2 _ (List.mem_iff_getElem.2 ⟨k - (i + 1), by rw [List.length_drop]; omega, by rw [List.getElem_drop]; congr 1; omega⟩)
theorem step_digit : ∀ d : Fin 10, Lat.step (UInt8.ofNat (48 + d.val)) = 0 := by decide
theorem dec_flat : ∀ (u : Nat), ∀ b ∈ Lib.decDigits u, Lat.step b = 0 := by
  intro u
  induction u using Nat.strongRecOn with
  | ind u ih =>
    intro b hb
    rw [Lib.decDigits] at hb
    split at hb
    · rename_i h
      rw [List.mem_singleton] at hb
      subst hb
      exact step_digit ⟨u, h⟩
    · rename_i h
      rcases List.mem_append.1 hb with hb | hb
      · exact ih (u / 10) (by omega) b hb
      · rw [List.mem_singleton] at hb
        subst hb
        exact step_digit ⟨u % 10, by omega⟩
theorem num_flat {n : Int} (h : 0 ≤ n) : ∀ b ∈ (⟨(Lib.itoa n).toArray⟩ : ByteArray).data.toList, Lat.step b = 0 := by
  intro b hb
  have hb' : b ∈ Lib.itoa n := by simpa using hb
  unfold Lib.itoa at hb'
  rw [if_neg (by omega)] at hb'
  exact dec_flat _ b hb'

theorem maxN_map {α β : Type} {f : β → Nat} {g : α → β} (l : List α) : Lat.maxN f (l.map g) = Lat.maxN (fun y => f (g y)) l := by
  induction l with
  | nil => rfl
  | cons y l ih => rw [List.map_cons, maxN_cons, maxN_cons, ih]
theorem maxN_congr {α : Type} {f g : α → Nat} {l : List α} (h : ∀ y ∈ l, f y = g y) : Lat.maxN f l = Lat.maxN g l := by
  induction l with
  | nil => rfl
  | cons y l ih => rw [maxN_cons, maxN_cons, h y (by simp), ih (fun z hz => h z (by simp [hz]))]
theorem maxN_zero {α : Type} {f : α → Nat} {l : List α} (h : ∀ y ∈ l, f y = 0) : Lat.maxN f l = 0 := by
  have := maxN_le (f := f) (B := 0) (l := l) (fun y hy => by rw [h y hy]; omega)
  omega
theorem maxN_nil {α : Type} {f : α → Nat} : Lat.maxN f [] = 0 := rfl

theorem exT_dpt : ∀ (m : Nat) (x : Ex), Lat.exprB m x = true → Lat.dpt (Lat.exT m x) = Lat.exD m x ∧ Lat.Bal (Lat.exT m x)
  | 0, x, h => by simp [Lat.exprB] at h
  | m + 1, x, h => by
    rw [exprB_parts, Bool.and_eq_true] at h
    obtain ⟨hp, hall⟩ := h
    have hargs : ∀ y ∈ x.args, Lat.dpt (Lat.exT m y) = Lat.exD m y ∧ Lat.Bal (Lat.exT m y) := fun y hy => exT_dpt m y (List.all_eq_true.1 hall y hy)
    unfold Lat.partsB at hp
    by_cases h1 : x.kind = 1
    · rw [if_pos h1] at hp
      simp only [Bool.and_eq_true, decide_eq_true_eq] at hp
      have := flat_dpt (num_flat hp.1.1.1)
      simp only [Lat.exT, Lat.exD]
      rw [if_pos h1, if_pos (Or.inl h1)]
      exact this
    rw [if_neg h1] at hp
    by_cases h2 : x.kind = 2
    · rw [if_pos h2] at hp
      simp only [Bool.and_eq_true] at hp
      have := flat_dpt (name_flat hp.1.1)
      simp only [Lat.exT, Lat.exD]
      rw [if_neg h1, if_pos h2, if_pos (Or.inr h2)]
      exact this
    rw [if_neg h2] at hp
    have hD : Lat.exD (m + 1) x = 1 + Lat.maxN (Lat.exD m) x.args := by
      simp only [Lat.exD]; rw [if_neg (by omega)]
    have hT : Lat.exT (m + 1) x = x.args.foldl (Lat.exStep (Lat.exT m)) (Lat.exHead x) ++ (⟨#[41]⟩ : ByteArray) := by
      simp only [Lat.exT]; rw [if_neg h1, if_neg h2]
    have hM : Lat.maxN Lat.dpt (x.args.map (Lat.exT m)) = Lat.maxN (Lat.exD m) x.args := by
      rw [maxN_map]; exact maxN_congr (fun y hy => (hargs y hy).1)
    have hB : ∀ t ∈ x.args.map (Lat.exT m), Lat.Bal t := fun t ht => by
      obtain ⟨y, hy, rfl⟩ := List.mem_map.1 ht
      exact (hargs y hy).2
    by_cases h3 : x.kind = 3
    · rw [if_pos h3] at hp
      simp only [Bool.and_eq_true] at hp
      obtain ⟨f1, f2⟩ := flat_dpt (op_flat hp.1.1)
      rw [hT, ← op_text x (Lat.exT m) (by omega), hD]
      obtain ⟨g1, g2⟩ := brk_dpt (l := x.name :: x.args.map (Lat.exT m)) (fun t ht => by
        rcases List.mem_cons.1 ht with rfl | ht
        · exact f2
        · exact hB t ht)
      refine ⟨?_, g2⟩
      rw [g1, maxN_cons, f1, hM]; omega
    rw [if_neg h3] at hp
    by_cases h4 : x.kind = 4
    · rw [if_pos h4] at hp
      simp only [Bool.and_eq_true] at hp
      obtain ⟨f1, f2⟩ := flat_dpt (call_flat hp.1.1)
      obtain ⟨k1, k2⟩ : Lat.dpt ⟨#[99, 97, 108, 108]⟩ = 0 ∧ Lat.Bal ⟨#[99, 97, 108, 108]⟩ := flat_dpt (by decide)
      rw [hT, ← call_text x (Lat.exT m) h4, hD]
      obtain ⟨g1, g2⟩ := brk_dpt (l := ⟨#[99, 97, 108, 108]⟩ :: x.name :: x.args.map (Lat.exT m)) (fun t ht => by
        rcases List.mem_cons.1 ht with rfl | ht
        · exact k2
        · rcases List.mem_cons.1 ht with rfl | ht
          · exact f2
          · exact hB t ht)
      refine ⟨?_, g2⟩
      rw [g1, maxN_cons, maxN_cons, k1, f1, hM]; omega
    rw [if_neg h4] at hp
    cases hp

theorem txs_dpt : ∀ (m : Nat) (l : List St), Lat.bodyB m l = true → Lat.maxN Lat.dpt (Lat.txs m l) = Lat.bdD m l ∧ ∀ t ∈ Lat.txs m l, Lat.Bal t
  | 0, l, h => by simp [Lat.bodyB] at h
  | m + 1, l, h => by
    rw [Lat.bodyB_succ] at h
    have hst : ∀ s ∈ l, Lat.dpt (Lat.stX m s) = Lat.stD m s ∧ Lat.Bal (Lat.stX m s) := fun s hs => by
      have h1 := List.all_eq_true.1 h s hs
      unfold Lat.stB at h1
      simp only [Bool.and_eq_true] at h1
      obtain ⟨⟨⟨okh, oke⟩, oka⟩, okb⟩ := h1
      obtain ⟨x1, x2⟩ := exT_dpt m s.e oke
      obtain ⟨a1, a2⟩ := txs_dpt m s.a oka
      obtain ⟨b1, b2⟩ := txs_dpt m s.b okb
      obtain ⟨a3, a4⟩ := brk_dpt a2
      obtain ⟨b3, b4⟩ := brk_dpt b2
      unfold Lat.stH at okh
      by_cases k14 : s.kind = 1 ∨ s.kind = 4
      · rw [if_pos k14] at okh
        simp only [Bool.and_eq_true] at okh
        obtain ⟨n1, n2⟩ := flat_dpt (name_flat okh.1.1)
        have hd : Lat.stD m s = 1 + Lat.exD m s.e := by unfold Lat.stD; rw [if_neg (by omega)]
        rw [hd]
        rcases k14 with hk | hk
        · rw [← set_text m s hk]
          obtain ⟨w1, w2⟩ : Lat.dpt ⟨#[115, 101, 116]⟩ = 0 ∧ Lat.Bal ⟨#[115, 101, 116]⟩ := flat_dpt (by decide)
          obtain ⟨g1, g2⟩ := brk_dpt (l := [⟨#[115, 101, 116]⟩, s.name, Lat.exT m s.e]) (by
            intro t ht
            simp only [List.mem_cons, List.not_mem_nil, or_false] at ht
            rcases ht with rfl | rfl | rfl <;> assumption)
          refine ⟨?_, g2⟩
          rw [g1, maxN_cons, maxN_cons, maxN_cons, maxN_nil, w1, n1, x1]; omega
        · rw [← print_text m s hk]
          obtain ⟨w1, w2⟩ : Lat.dpt ⟨#[112, 114, 105, 110, 116]⟩ = 0 ∧ Lat.Bal ⟨#[112, 114, 105, 110, 116]⟩ := flat_dpt (by decide)
          obtain ⟨g1, g2⟩ := brk_dpt (l := [⟨#[112, 114, 105, 110, 116]⟩, s.name, Lat.exT m s.e]) (by
            intro t ht
            simp only [List.mem_cons, List.not_mem_nil, or_false] at ht
            rcases ht with rfl | rfl | rfl <;> assumption)
          refine ⟨?_, g2⟩
          rw [g1, maxN_cons, maxN_cons, maxN_cons, maxN_nil, w1, n1, x1]; omega
      rw [if_neg k14] at okh
      by_cases k2 : s.kind = 2
      · have hd : Lat.stD m s = 1 + max (max (Lat.exD m s.e) (1 + Lat.bdD m s.a)) (1 + Lat.bdD m s.b) := by unfold Lat.stD; rw [if_pos (Or.inl k2)]
        rw [hd, ← if_text m s k2]
        obtain ⟨w1, w2⟩ : Lat.dpt ⟨#[105, 102]⟩ = 0 ∧ Lat.Bal ⟨#[105, 102]⟩ := flat_dpt (by decide)
        obtain ⟨g1, g2⟩ := brk_dpt (l := [⟨#[105, 102]⟩, Lat.exT m s.e, Lat.brk (Lat.txs m s.a), Lat.brk (Lat.txs m s.b)]) (by
          intro t ht
          simp only [List.mem_cons, List.not_mem_nil, or_false] at ht
          rcases ht with rfl | rfl | rfl | rfl <;> assumption)
        refine ⟨?_, g2⟩
        rw [g1, maxN_cons, maxN_cons, maxN_cons, maxN_cons, maxN_nil, w1, x1, a3, b3, a1, b1]; omega
      rw [if_neg k2] at okh
      by_cases k3 : s.kind = 3
      · rw [if_pos k3] at okh
        simp only [Bool.and_eq_true, beq_iff_eq] at okh
        have hb0 : s.b = [] := List.length_eq_zero_iff.1 okh.2
        have hbd : Lat.bdD m s.b = 0 := by rw [hb0]; cases m <;> rfl
        have hd : Lat.stD m s = 1 + max (max (Lat.exD m s.e) (1 + Lat.bdD m s.a)) (1 + Lat.bdD m s.b) := by unfold Lat.stD; rw [if_pos (Or.inr k3)]
        rw [hd, ← while_text m s k3]
        obtain ⟨w1, w2⟩ : Lat.dpt ⟨#[119, 104, 105, 108, 101]⟩ = 0 ∧ Lat.Bal ⟨#[119, 104, 105, 108, 101]⟩ := flat_dpt (by decide)
        obtain ⟨g1, g2⟩ := brk_dpt (l := [⟨#[119, 104, 105, 108, 101]⟩, Lat.exT m s.e, Lat.brk (Lat.txs m s.a)]) (by
          intro t ht
          simp only [List.mem_cons, List.not_mem_nil, or_false] at ht
          rcases ht with rfl | rfl | rfl <;> assumption)
        refine ⟨?_, g2⟩
        rw [g1, maxN_cons, maxN_cons, maxN_cons, maxN_nil, w1, x1, a3, a1, hbd]; omega
      rw [if_neg k3] at okh
      cases okh
    simp only [Lat.txs]
    rw [Lat.bdD_succ, maxN_map]
    refine ⟨maxN_congr (fun s hs => (hst s hs).1), fun t ht => ?_⟩
    obtain ⟨s, hs, rfl⟩ := List.mem_map.1 ht
    exact (hst s hs).2

theorem fuX_dpt {m : Nat} {f : Fu} (h : Lat.fuOk m f = true) : Lat.dpt (Lat.fuX m f) = Lat.fuD m f ∧ Lat.Bal (Lat.fuX m f) := by
  unfold Lat.fuOk at h
  simp only [Bool.and_eq_true] at h
  obtain ⟨⟨⟨hn, hb⟩, hx⟩, hp⟩ := h
  obtain ⟨n1, n2⟩ := flat_dpt (name_flat hn)
  obtain ⟨b1, b2⟩ := txs_dpt m f.body hb
  obtain ⟨x1, x2⟩ := exT_dpt m f.result hx
  have hpar : ∀ p ∈ f.params, Lat.dpt p = 0 ∧ Lat.Bal p := fun p hpm => flat_dpt (name_flat (List.all_eq_true.1 hp p hpm))
  obtain ⟨p1, p2⟩ := brk_dpt (l := f.params) (fun p hpm => (hpar p hpm).2)
  rw [maxN_zero (fun p hpm => (hpar p hpm).1)] at p1
  obtain ⟨w1, w2⟩ : Lat.dpt ⟨#[102, 117, 110]⟩ = 0 ∧ Lat.Bal ⟨#[102, 117, 110]⟩ := flat_dpt (by decide)
  have hfl : [[(⟨#[102, 117, 110]⟩ : ByteArray), f.name, Lat.brk f.params], Lat.txs m f.body, [Lat.exT m f.result]].flatten = ⟨#[102, 117, 110]⟩ :: f.name :: Lat.brk f.params :: (Lat.txs m f.body ++ [Lat.exT m f.result]) := by simp
  unfold Lat.fuX
  rw [hfl]
  obtain ⟨g1, g2⟩ := brk_dpt (l := ⟨#[102, 117, 110]⟩ :: f.name :: Lat.brk f.params :: (Lat.txs m f.body ++ [Lat.exT m f.result])) (by
    intro t ht
    simp only [List.mem_cons, List.mem_append, List.not_mem_nil, or_false] at ht
    rcases ht with rfl | rfl | rfl | ht | rfl
    · exact w2
    · exact n2
    · exact p2
    · exact b2 t ht
    · exact x2)
  refine ⟨?_, g2⟩
  rw [g1, maxN_cons, maxN_cons, maxN_cons, maxN_append, maxN_cons, maxN_nil, w1, n1, p1, b1, x1]
  unfold Lat.fuD; omega

theorem moT_dpt {m : Nat} {x : Mo} (hm : x.funs ≠ [] → m ≠ 0) (hn : Lat.strB x.name = true) (hi : x.imports.all Lat.strB = true) (hv : x.vars.all Lat.vaB = true) (hf : ∀ f ∈ x.funs, Lat.fuOk m f = true) :
    Lat.deepB (Lat.moT m x) = decide (20 < Lat.moD m x) := by
  rw [deepB_dpt, ← moX_eq hm]
  obtain ⟨n1, n2⟩ := flat_dpt (name_flat hn)
  have hI : ∀ y ∈ x.imports, Lat.dpt (Lat.impX y) = 1 ∧ Lat.Bal (Lat.impX y) := fun y hy => by
    obtain ⟨f1, f2⟩ := flat_dpt (name_flat (List.all_eq_true.1 hi y hy))
    obtain ⟨w1, w2⟩ : Lat.dpt ⟨#[105, 109, 112, 111, 114, 116]⟩ = 0 ∧ Lat.Bal ⟨#[105, 109, 112, 111, 114, 116]⟩ := flat_dpt (by decide)
    obtain ⟨g1, g2⟩ := brk_dpt (l := [⟨#[105, 109, 112, 111, 114, 116]⟩, y]) (by
      intro t ht
      simp only [List.mem_cons, List.not_mem_nil, or_false] at ht
      rcases ht with rfl | rfl <;> assumption)
    refine ⟨?_, g2⟩
    unfold Lat.impX
    rw [g1, maxN_cons, maxN_cons, maxN_nil, w1, f1]; omega
  have hV : ∀ y ∈ x.vars, Lat.dpt (Lat.vaX y) = 1 ∧ Lat.Bal (Lat.vaX y) := fun y hy => by
    have hy' := List.all_eq_true.1 hv y hy
    unfold Lat.vaB at hy'
    simp only [Bool.and_eq_true] at hy'
    obtain ⟨f1, f2⟩ := flat_dpt (name_flat hy'.1)
    obtain ⟨e1, e2⟩ := flat_dpt (name_flat hy'.2)
    obtain ⟨w1, w2⟩ : Lat.dpt ⟨#[118, 97, 114]⟩ = 0 ∧ Lat.Bal ⟨#[118, 97, 114]⟩ := flat_dpt (by decide)
    obtain ⟨g1, g2⟩ := brk_dpt (l := [⟨#[118, 97, 114]⟩, y.name, y.level]) (by
      intro t ht
      simp only [List.mem_cons, List.not_mem_nil, or_false] at ht
      rcases ht with rfl | rfl | rfl <;> assumption)
    refine ⟨?_, g2⟩
    unfold Lat.vaX
    rw [g1, maxN_cons, maxN_cons, maxN_cons, maxN_nil, w1, f1, e1]; omega
  obtain ⟨w1, w2⟩ : Lat.dpt ⟨#[109, 111, 100, 117, 108, 101]⟩ = 0 ∧ Lat.Bal ⟨#[109, 111, 100, 117, 108, 101]⟩ := flat_dpt (by decide)
  have hfl : [[(⟨#[109, 111, 100, 117, 108, 101]⟩ : ByteArray), x.name], x.imports.map Lat.impX, x.vars.map Lat.vaX, x.funs.map (Lat.fuX m)].flatten = ⟨#[109, 111, 100, 117, 108, 101]⟩ :: x.name :: (x.imports.map Lat.impX ++ (x.vars.map Lat.vaX ++ x.funs.map (Lat.fuX m))) := by simp
  unfold Lat.moX
  rw [hfl]
  obtain ⟨g1, _⟩ := brk_dpt (l := ⟨#[109, 111, 100, 117, 108, 101]⟩ :: x.name :: (x.imports.map Lat.impX ++ (x.vars.map Lat.vaX ++ x.funs.map (Lat.fuX m)))) (by
    intro t ht
    simp only [List.mem_cons, List.mem_append, List.mem_map] at ht
    rcases ht with rfl | rfl | ⟨y, hy, rfl⟩ | ⟨y, hy, rfl⟩ | ⟨y, hy, rfl⟩
    · exact w2
    · exact n2
    · exact (hI y hy).2
    · exact (hV y hy).2
    · exact (fuX_dpt (hf y hy)).2)
  have m1 : Lat.maxN Lat.dpt (x.imports.map Lat.impX) ≤ 1 := by rw [maxN_map]; exact maxN_le (fun y hy => by rw [(hI y hy).1]; omega)
  have m2 : Lat.maxN Lat.dpt (x.vars.map Lat.vaX) ≤ 1 := by rw [maxN_map]; exact maxN_le (fun y hy => by rw [(hV y hy).1]; omega)
  have m3 : Lat.maxN Lat.dpt (x.funs.map (Lat.fuX m)) = Lat.maxN (Lat.fuD m) x.funs := by rw [maxN_map]; exact maxN_congr (fun y hy => (fuX_dpt (hf y hy)).1)
  rw [g1, maxN_cons, maxN_cons, maxN_append, maxN_append, w1, n1, m3]
  unfold Lat.moD
  exact decide_eq_decide.2 (by omega)

end Go.Proofs.YtbncnkfogkhoeaaGreatDoor

/- Walks over package tree: checkFun, Check, Print: what the document asks. -/
namespace Go.Proofs.YtbncnkfogkhoeaaGreatDoor
open Go.RowKit

namespace Lat
/-- What Print answers. -/
def prT (m : Nat) (x : Mo) : ByteArray := if moE m x = 0 then moT m x else ⟨#[]⟩
end Lat

theorem ret_print {a b : ByteArray} {c d : Int} (h : a = b) (h' : c = d) : Ending.returned (.tuple #[.string a, .int .i64 c]) = .returned (.tuple #[.string b, .int .i64 d]) := by rw [h, h']

set_option maxHeartbeats 2000000 in
set_option maxRecDepth 100000 in
theorem checkFun_any (m : Nat) (w : World) (vp vb e0 e1 e2 e3 : Value) (f : Fu) (h : FuAt w m vp vb e0 e1 e2 e3 f) :
    Calls Tryz.prog 78 #[.agg #[.string f.name, vp, vb, e0, e1, e2, e3]] w fun e w' => e = .returned (.int .i64 (Lat.fuE m f)) ∧ Below w.heap.size w w' := by
  have HS := hide h
  obtain ⟨hnm, hp, hsb, hx⟩ := h
  obtain ⟨ae, ce, rfl, rfl, rfl, rfl⟩ := hx.shape
  obtain ⟨a1, cap1, rfl, hl1⟩ := hsb.shape
  obtain ⟨a2, cap2, rfl, hl2⟩ := hp.shape
  clear hx hsb hp
  have HE : Hid (Lat.fuE m f = if 4 < f.params.length then 2 else if (Lat.nameB f.name.data.toList && Lat.bodyB m f.body && Lat.exprB m f.result && f.params.all fun s => Lat.nameB s.data.toList) then 0 else 5) := rfl
  generalize f.result.args.length = le at *
  generalize f.body.length = l1 at *
  generalize f.params.length = l2 at *
  have HB0 := hide (boxBelow w (.cells #[.string f.name, .slice a2 l2 cap2, .slice a1 l1 cap1, .int .i64 f.result.kind, .int .i64 f.result.n, .string f.result.name, .slice ae le ce] 87))
  have q0 := box7_0 w (.string f.name) (.slice a2 l2 cap2) (.slice a1 l1 cap1) (.int .i64 f.result.kind) (.int .i64 f.result.n) (.string f.result.name) (.slice ae le ce) 87
  have q1 := box7_1 w (.string f.name) (.slice a2 l2 cap2) (.slice a1 l1 cap1) (.int .i64 f.result.kind) (.int .i64 f.result.n) (.string f.result.name) (.slice ae le ce) 87
  have q2 := box7_2 w (.string f.name) (.slice a2 l2 cap2) (.slice a1 l1 cap1) (.int .i64 f.result.kind) (.int .i64 f.result.n) (.string f.result.name) (.slice ae le ce) 87
  have q3 := box7_3 w (.string f.name) (.slice a2 l2 cap2) (.slice a1 l1 cap1) (.int .i64 f.result.kind) (.int .i64 f.result.n) (.string f.result.name) (.slice ae le ce) 87
  have q4 := box7_4 w (.string f.name) (.slice a2 l2 cap2) (.slice a1 l1 cap1) (.int .i64 f.result.kind) (.int .i64 f.result.n) (.string f.result.name) (.slice ae le ce) 87
  have q5 := box7_5 w (.string f.name) (.slice a2 l2 cap2) (.slice a1 l1 cap1) (.int .i64 f.result.kind) (.int .i64 f.result.n) (.string f.result.name) (.slice ae le ce) 87
  have q6 := box7_6 w (.string f.name) (.slice a2 l2 cap2) (.slice a1 l1 cap1) (.int .i64 f.result.kind) (.int .i64 f.result.n) (.string f.result.name) (.slice ae le ce) 87
  by_cases h4 : 4 < l2
  · rw [if_pos h4] at HE
    clear q0 q1 q2 q3 q4 q5 q6
    go_enter Tryz.func78, Tryz.ntmps78
    go_wp2
    go_ret
    exact ⟨ret_int HE.out.symm, HB0.out⟩
  rw [if_neg h4] at HE
  go_enter Tryz.func78, Tryz.ntmps78
  go_wp2_with fail
  refine (isName_any _ f.name hnm).mono ?_
  rintro e w1 ⟨rfl, hw1⟩
  subst hw1
  generalize (w.alloc (.cells #[.string f.name, .slice a2 l2 cap2, .slice a1 l1 cap1, .int .i64 f.result.kind, .int .i64 f.result.n, .string f.result.name, .slice ae le ce] 87)) = W0 at *
  generalize Lat.nameB f.name.data.toList = b1 at *
  cases b1
  · go_wp2
    go_ret
    exact ⟨ret_int (by rw [HE.out]; rfl), HB0.out⟩
  go_wp2_with fail
  refine (areNames_any _ _ f.params (HS.out.below HB0.out).2.1).mono ?_
  rintro e w1 ⟨rfl, hw1⟩
  subst hw1
  generalize (f.params.all fun s => Lat.nameB s.data.toList) = b2 at *
  cases b2
  · go_wp2
    go_ret
    exact ⟨ret_int (by rw [HE.out, Bool.and_false]; rfl), HB0.out⟩
  go_wp2_with fail
  refine (areCommands_any m _ _ f.body (HS.out.below HB0.out).2.2.1).mono ?_
  rintro e w1 ⟨rfl, hb1⟩
  replace q3 := cellUp q3 hb1
  replace q4 := cellUp q4 hb1
  replace q5 := cellUp q5 hb1
  replace q6 := cellUp q6 hb1
  have HB1 := hide (up HB0.out hb1)
  clear hb1 q0 q1 q2 HB0
  generalize Lat.bodyB m f.body = b3 at *
  cases b3
  · go_wp2
    go_ret
    exact ⟨ret_int (by rw [HE.out]; rfl), HB1.out⟩
  go_wp2_with fail
  refine (isExpr_any m _ _ _ _ _ f.result (HS.out.below HB1.out).2.2.2).mono ?_
  rintro e w2 ⟨rfl, hb2⟩
  have HB2 := hide (up HB1.out hb2)
  clear hb2 q3 q4 q5 q6
  generalize Lat.exprB m f.result = b4 at *
  cases b4
  · go_wp2
    go_ret
    exact ⟨ret_int (by rw [HE.out]; rfl), HB2.out⟩
  · go_wp2
    go_ret
    exact ⟨ret_int (by rw [HE.out]; rfl), HB2.out⟩

theorem fuE_ok {m : Nat} {f : Fu} (h : Lat.fuE m f = 0) : Lat.fuOk m f = true := by
  unfold Lat.fuE at h
  split at h
  · cases h
  · split at h
    · assumption
    · cases h
theorem fusE_ok {m : Nat} : ∀ {l : List Fu}, Lat.fusE m l = 0 → ∀ f ∈ l, Lat.fuE m f = 0
  | [], _, f, hf => by cases hf
  | g :: l, h, f, hf => by
    simp only [Lat.fusE] at h
    by_cases hg : Lat.fuE m g = 0
    · rw [if_pos hg] at h
      rcases List.mem_cons.1 hf with rfl | hf
      · exact hg
      · exact fusE_ok h f hf
    · rw [if_neg hg] at h
      exact absurd h hg
theorem funs_deep {w : World} {m : Nat} {v : Value} {l : List Fu} (h : FusAt w m v l) : l ≠ [] → m ≠ 0 := by
  rintro hne rfl
  obtain ⟨a, b, off, cap, _, _, _, hel⟩ := h
  obtain ⟨f, hf⟩ : ∃ f, l[0]? = some f := ⟨_, List.getElem?_eq_getElem (List.length_pos_iff.2 hne)⟩
  obtain ⟨_, vp, vb, e0, e1, e2, e3, _, _, _, _, _, _, _, _, hsb, _⟩ := hel 0 f hf
  exact hsb

set_option maxHeartbeats 4000000 in
set_option maxRecDepth 100000 in
theorem tcheck_any (m : Nat) (w : World) (v : Value) (x : Mo) (h : MoAt w m v x) (hw : moW m x ≤ 1048576) (_ht : Tab w) :
    Calls Tryz.prog 24 #[v] w fun e w' => e = .returned (.int .i64 (Lat.moE m x)) ∧ Below w.heap.size w w' := by
  have HM := hide h
  have HMD := hide (fun W (hW : Hid (Below w.heap.size w W)) => moduleDepth_any m W v x (h.below hW.out) hw)
  obtain ⟨vi, vv, vf, rfl, hnm, hI, hV, hF⟩ := h
  have hmz := funs_deep hF
  have HDP : Hid (Lat.strB x.name = true → x.imports.all Lat.strB = true → x.vars.all Lat.vaB = true → Lat.fusE m x.funs = 0 → Lat.deepB (Lat.moT m x) = decide (20 < Lat.moD m x)) :=
    fun h1 h2 h3 h4 => moT_dpt hmz h1 h2 h3 (fun f hf => fuE_ok (fusE_ok h4 f hf))
  have HE : Hid (Lat.moE m x = if 8 < x.imports.length ∨ 8 < x.vars.length ∨ 8 < x.funs.length then 2 else if ((Lat.strB x.name && x.imports.all Lat.strB) && x.vars.all Lat.vaB) = false then 5
      else if Lat.fusE m x.funs ≠ 0 then Lat.fusE m x.funs else if Lat.deepB (Lat.moT m x) then 2 else 0) := rfl
  have HIN := hide (fun W (hW : Hid (Below w.heap.size w W)) => areNames_any W vi x.imports (hI.below hW.out))
  have HVN := hide (fun W (hW : Hid (Below w.heap.size w W)) => areVars_any W vv x.vars (hV.below hW.out))
  obtain ⟨ai, ci, rfl, hli⟩ := hI.shape
  obtain ⟨av, cv, rfl, hlv⟩ : ∃ a c, vv = .slice a x.vars.length c ∧ x.vars.length ≤ 9223372036854775807 := by
    obtain ⟨a, _, _, c, e, _, e2, _⟩ := hV
    exact ⟨a, c, e, e2⟩
  obtain ⟨a, b, off, cap, rfl, ha, hl, hel⟩ := hF
  have HEL := hide hel
  have HA := hide ha
  clear hI hV hel ha hmz hw
  obtain ⟨l, hfs⟩ : ∃ l, l = x.funs := ⟨_, rfl⟩
  rw [← hfs] at HEL HA hl HE HDP HMD ⊢
  have HFS := hide hfs
  clear hfs
  obtain ⟨len, hlen⟩ : ∃ len, len = l.length := ⟨_, rfl⟩
  have HL := hide hlen
  rw [← hlen] at hl HA HE HMD ⊢
  clear hlen
  generalize x.imports.length = li at *
  generalize x.vars.length = lv at *
  have HB0 := hide (boxBelow w (.cells #[.string x.name, .slice ai li ci, .slice av lv cv, .slice a len cap] 26))
  have q0 := boxM0 w (.string x.name) (.slice ai li ci) (.slice av lv cv) (.slice a len cap) 26
  have q1 := boxM1 w (.string x.name) (.slice ai li ci) (.slice av lv cv) (.slice a len cap) 26
  have q2 := boxM2 w (.string x.name) (.slice ai li ci) (.slice av lv cv) (.slice a len cap) 26
  have q3 := boxM3 w (.string x.name) (.slice ai li ci) (.slice av lv cv) (.slice a len cap) 26
  by_cases hbig : 8 < li ∨ 8 < lv ∨ 8 < len
  · rw [if_pos hbig] at HE
    clear q0 q1 q2 q3
    by_cases b1 : 8 < li
    · clear hbig
      go_enter Tryz.func24, Tryz.ntmps24
      go_wp2
      go_ret
      exact ⟨ret_int HE.out.symm, HB0.out⟩
    · by_cases b2 : 8 < lv
      · clear hbig
        go_enter Tryz.func24, Tryz.ntmps24
        go_wp2
        go_ret
        exact ⟨ret_int HE.out.symm, HB0.out⟩
      · have b3 : 8 < len := by omega
        clear hbig
        go_enter Tryz.func24, Tryz.ntmps24
        go_wp2
        go_ret
        exact ⟨ret_int HE.out.symm, HB0.out⟩
  rw [if_neg hbig] at HE
  have b1 : ¬ 8 < li := by omega
  have b2 : ¬ 8 < lv := by omega
  have b3 : ¬ 8 < len := by omega
  clear hbig
  go_enter Tryz.func24, Tryz.ntmps24
  go_wp2_with fail
  refine (isName_any _ x.name hnm).mono ?_
  rintro e w1 ⟨rfl, hw1⟩
  subst hw1
  generalize (w.alloc (.cells #[.string x.name, .slice ai li ci, .slice av lv cv, .slice a len cap] 26)) = W0 at *
  cases hn : Lat.nameB x.name.data.toList
  · have HN : Hid (Lat.strB x.name = false) := hn
    go_wp2
    go_ret
    exact ⟨ret_int (by rw [HE.out, HN.out]; rfl), HB0.out⟩
  have HN : Hid (Lat.strB x.name = true) := hn
  go_wp2_with fail
  refine (HIN.out _ HB0).mono ?_
  rintro e w1 ⟨rfl, hw1⟩
  subst hw1
  cases hi : (x.imports.all fun s => Lat.nameB s.data.toList)
  · have HI : Hid (x.imports.all Lat.strB = false) := hi
    go_wp2
    go_ret
    exact ⟨ret_int (by rw [HE.out, HN.out, HI.out]; rfl), HB0.out⟩
  have HI : Hid (x.imports.all Lat.strB = true) := hi
  go_wp2_with fail
  refine (HVN.out _ HB0).mono ?_
  rintro e W1 ⟨rfl, hb1⟩
  replace q0 := cellUp q0 hb1
  replace q1 := cellUp q1 hb1
  replace q2 := cellUp q2 hb1
  replace q3 := cellUp q3 hb1
  have HB1 := hide (up HB0.out hb1)
  clear hb1 HB0 hn hi
  cases hv : (x.vars.all fun s => Lat.nameB s.name.data.toList && Lat.nameB s.level.data.toList)
  · have HV : Hid (x.vars.all Lat.vaB = false) := hv
    go_wp2
    go_ret
    exact ⟨ret_int (by rw [HE.out, HN.out, HI.out, HV.out]; rfl), HB1.out⟩
  have HV : Hid (x.vars.all Lat.vaB = true) := hv
  have HE2 : Hid (Lat.moE m x = if Lat.fusE m l ≠ 0 then Lat.fusE m l else if Lat.deepB (Lat.moT m x) then 2 else 0) := hide (by
    rw [HE.out, HN.out, HI.out, HV.out]; rfl)
  clear hv HE
  go_wp2
  go_loopw [41] (fun i wr => ∃ j : Nat, j ≤ len ∧ i = .int .i64 j ∧ (∀ d z, d < j → l[d]? = some z → Lat.fuE m z = 0) ∧ Below W1.heap.size W1 wr) (fun i _ => len - (intOf i).toNat)
  case atStart => exact ⟨0, Nat.zero_le _, rfl, fun d z hd => absurd hd (Nat.not_lt_zero _), Below.refl _ _⟩
  case round =>
    obtain ⟨j, hj, rfl, hall, hnx⟩ := hrel
    have HALL := hide hall
    clear hall
    by_cases hjl : j < len
    · obtain ⟨y, hy⟩ : ∃ y, l[j]? = some y := ⟨_, List.getElem?_eq_getElem (by rw [← HL.out]; exact hjl)⟩
      obtain ⟨k1, vp, vb, e0, e1, e2, e3, g0, g1, g2, g3, g4, g5, g6, hp, hsb, hx⟩ := HEL.out j y hy
      have HY := hide hy
      obtain rfl := HA.out (by omega)
      have hbb := up HB1.out hnx
      have u0 := cellUp g0 hbb
      have u1 := cellUp g1 hbb
      have u2' := cellUp g2 hbb
      have u3' := cellUp g3 hbb
      have u4 := cellUp g4 hbb
      have u5 := cellUp g5 hbb
      have u6 := cellUp g6 hbb
      have HAT : Hid (FuAt wr m vp vb e0 e1 e2 e3 y) := hide ⟨k1, hp.below hbb, hsb.below hbb, hx.below hbb⟩
      obtain ⟨ae, ce, rfl, rfl, rfl, rfl⟩ := hx.shape
      obtain ⟨a1, cap1, rfl, hl1⟩ := hsb.shape
      obtain ⟨a2, cap2, rfl, hl2⟩ := hp.shape
      have HNX := hide hnx
      clear g0 g1 g2 g3 g4 g5 g6 hx hsb hp hy hnx hbb q0 q1 q2 q3
      go_wp2_with fail
      refine (checkFun_any m _ _ _ _ _ _ _ y (HAT.out.below (boxBelow _ _))).mono ?_
      rintro e w5 ⟨rfl, hb5⟩
      have HN5 := hide (up HNX.out (up1 hb5))
      clear hb5 HNX
      obtain ⟨E, hE⟩ : ∃ E, E = Lat.fuE m y := ⟨_, rfl⟩
      have HEY := hide hE
      rw [← hE]
      clear hE
      by_cases h0 : E = 0
      · subst h0
        go_wp2_with fail
        go_roundw
        case rel => exact ⟨j + 1, by omega, by go_num, fun d z hd hz => by
            by_cases e : d = j
            · subst e
              rw [HY.out] at hz
              cases hz
              exact HEY.out.symm
            · exact HALL.out d z (by omega) hz, HN5.out⟩
        case measure => simp [intOf]; omega
      · have h0' := bne_zero_true h0
        have H0 := hide h0
        clear h0
        go_wp2
        go_ret
        exact ⟨ret_int (by rw [HE2.out, fusE_at HALL.out HY.out (by rw [← HEY.out]; exact H0.out), if_pos (by rw [← HEY.out]; exact H0.out)]; exact HEY.out), up HB1.out HN5.out⟩
    · have hf0 : Lat.fusE m l = 0 := fusE_zero (fun d z hz => HALL.out d z (by
        have := (List.getElem?_eq_some_iff.1 hz).1
        have := HL.out
        omega) hz)
      have HD := hide (HDP.out HN.out HI.out HV.out hf0)
      have HE3 : Hid (Lat.moE m x = if 20 < Lat.moD m x then 2 else 0) := hide (by
        rw [HE2.out, hf0, HD.out]; simp)
      have u0 := cellUp q0 hnx
      have u1 := cellUp q1 hnx
      have u2' := cellUp q2 hnx
      have u3' := cellUp q3 hnx
      have HNX := hide (up HB1.out hnx)
      clear hnx q0 q1 q2 q3 hf0
      go_wp2_with fail
      refine (HMD.out _ HNX).mono ?_
      rintro e w6 ⟨rfl, hb6⟩
      have HB6 := hide (up HNX.out hb6)
      clear hb6
      generalize Lat.moD m x = dd at *
      by_cases hd : 20 < dd
      · rw [if_pos hd] at HE3
        have hd' : (dd : Int) > 20 := by omega
        clear hd
        go_wp2
        go_ret
        exact ⟨ret_int HE3.out.symm, HB6.out⟩
      · rw [if_neg hd] at HE3
        have hd' : ¬ ((dd : Int) > 20) := by omega
        clear hd
        go_wp2
        go_ret
        exact ⟨ret_int HE3.out.symm, HB6.out⟩

theorem moE_ok {m : Nat} {x : Mo} (h : Lat.moE m x = 0) : ∀ f ∈ x.funs, Lat.bodyB m f.body = true ∧ Lat.exprB m f.result = true := by
  have h1 : Lat.fusE m x.funs = 0 := by
    unfold Lat.moE at h
    split at h
    · cases h
    · split at h
      · cases h
      · split at h
        · rename_i hne; exact absurd h hne
        · rename_i hne; exact Classical.byContradiction hne
  intro f hf
  have h2 := fuE_ok (fusE_ok h1 f hf)
  unfold Lat.fuOk at h2
  simp only [Bool.and_eq_true] at h2
  exact ⟨h2.1.1.2, h2.1.2⟩

end Go.Proofs.YtbncnkfogkhoeaaGreatDoor
