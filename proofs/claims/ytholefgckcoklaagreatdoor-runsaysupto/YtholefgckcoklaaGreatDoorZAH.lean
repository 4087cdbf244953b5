/- Walks over package tree: isOperator, isCallee (and strings.Cut at one byte), hasParts. -/
import Derived.Test.YtholefgckcoklaaGreatDoorZAF
import Derived.Test.YtholefgckcoklaaGreatDoorZAE
import Derived.Test.YtholefgckcoklaaGreatDoorCShelf
import Derived.Lib.IndexLaws
import Derived.StillTail
namespace Go.Proofs.YtholefgckcoklaaGreatDoor
open Go.RowKit
theorem op_size {s : ByteArray} (h : ¬ s.size = 1) : Lat.opB s = false := by
  unfold Lat.opB
  have : Lat.indexI Lat.opS s = -1 := by
    unfold Lat.indexI
    rw [Lat.find_none (p := Lat.isAt Lat.opS s) (fun c hc => ?_)]
    have hc' : c < 5 := hc
    unfold Lat.isAt
    rw [beq_eq_false_iff_ne]
    intro e
    rw [ByteArray.toList_eq, ByteArray.toList_eq] at e
    have e2 := congrArg List.length e
    rw [size_list, size_list] at e2
    apply h
    rw [e2]
    obtain rfl | rfl | rfl | rfl | rfl : c = 0 ∨ c = 1 ∨ c = 2 ∨ c = 3 ∨ c = 4 := by omega
    all_goals rfl
  rw [this]; rfl
theorem op_table : ∀ c : Fin 256, decide (0 ≤ Lib.indexByte [43, 45, 42, 60, 61] (UInt8.ofFin c)) = Lat.opB ⟨#[UInt8.ofFin c]⟩ := by
  decide +kernel
theorem op_one (c : UInt8) : decide (0 ≤ Lib.indexByte [43, 45, 42, 60, 61] c) = Lat.opB ⟨#[c]⟩ := op_table c.toFin
theorem one_byte {s : ByteArray} (h : s.size = 1) : ∃ c, s = ⟨#[c]⟩ := by
  obtain ⟨⟨l⟩⟩ := s
  match l, h with
  | [c], _ => exact ⟨c, rfl⟩
theorem isOperator_any (w : World) (s : ByteArray) (hs : s.size ≤ maxLen) :
    Calls Tryz.prog 297 #[.string s] w fun e w' => e = .returned (.bool (Lat.opB s)) ∧ w' = w := by
  unfold maxLen at hs
  by_cases h1 : s.size = 1
  · obtain ⟨c, rfl⟩ := one_byte h1
    clear h1
    have h1' : (((⟨#[c]⟩ : ByteArray).size : Int) == 1) = true := rfl
    have HO := hide (op_one c)
    go_enter Tryz.func297, Tryz.ntmps297
    go_wp2_with fail
    refine (Tryz.strings_Contains_one _ c _).mono ?_
    rintro e w' ⟨rfl, hw⟩
    subst hw
    rw [show decide (0 ≤ Lib.indexByte (⟨#[43, 45, 42, 60, 61]⟩ : ByteArray).data.toList c) = Lat.opB ⟨#[c]⟩ from HO.out]
    go_wp2
    go_ret
    exact ⟨rfl, rfl⟩
  · have h1' : ((s.size : Int) == 1) = false := by simp; omega
    have HO := hide (op_size h1)
    clear h1
    go_enter Tryz.func297, Tryz.ntmps297
    go_wp2
    go_ret
    exact ⟨ret_bool HO.out.symm, rfl⟩
theorem dot_index (s : ByteArray) : Lib.indexByte s.data.toList 46 = match Lat.dotAt s with | some i => (i : Int) | none => -1 := by
  have hge := Lib.indexByte_ge s.data.toList 46
  by_cases h : Lib.indexByte s.data.toList 46 = -1
  · have hn := Lib.indexByte_none h
    have : Lat.dotAt s = none := Lat.find_none (fun d hd => by
      have hd' : d < s.data.toList.length := hd
      have h' := hn d
      rw [List.getD, List.getElem?_eq_getElem hd']
      rw [List.getElem?_eq_getElem hd'] at h'
      simpa using h')
    rw [h, this]
  · obtain ⟨o, ho⟩ : ∃ o : Nat, Lib.indexByte s.data.toList 46 = o := ⟨(Lib.indexByte s.data.toList 46).toNat, by omega⟩
    obtain ⟨h1, h2⟩ := Lib.indexByte_some ho
    have ho' : o < s.size := (List.getElem?_eq_some_iff.1 h1).1
    have : Lat.dotAt s = some o := Lat.find_hit ho' (fun c hc => by
      have hc' : c < s.data.toList.length := Nat.lt_trans hc ho'
      have h' := h2 c hc
      rw [List.getD, List.getElem?_eq_getElem hc']
      rw [List.getElem?_eq_getElem hc'] at h'
      simpa using h') (by rw [List.getD, h1]; rfl)
    rw [ho, this]
theorem dotAt_lt {s : ByteArray} {k : Nat} (h : Lat.dotAt s = some k) : k < s.size := (Lat.find_spec h).1
set_option maxHeartbeats 1000000 in
theorem lcut_any (w : World) (s : ByteArray) (hs : s.size ≤ maxLen) :
    Calls Tryz.prog 198 #[.string s, .string ⟨#[46]⟩] w fun e w' => e = .returned (.tuple #[.string (Lat.preS s), .string (Lat.sufS s), .bool (Lat.dotAt s).isSome]) ∧ Below w.heap.size w w' := by
  unfold maxLen at hs
  have HI := hide (dot_index s)
  cases hd : Lat.dotAt s
  · rw [hd] at HI
    have HD := hide hd
    clear hd
    go_enter Tryz.func198, Tryz.ntmps198
    go_wp2_with fail
    refine (Tryz.stringslite_Index_one s 46 _).mono ?_
    rintro e w' ⟨rfl, hw⟩
    subst hw
    rw [HI.out]
    go_wp2
    go_ret3
    exact ⟨by simp [Lat.preS, Lat.sufS, HD.out], Below.refl _ _⟩
  · rename_i k
    rw [hd] at HI
    have hk := dotAt_lt hd
    have HD := hide hd
    have b1 : (0 : Int) ≤ (k : Int) := by omega
    have b2 : (k : Int) ≤ (s.size : Int) := by omega
    have b3 : (k : Int) + 1 ≤ (s.size : Int) := by omega
    clear hd
    go_enter Tryz.func198, Tryz.ntmps198
    go_wp2_with fail
    refine (Tryz.stringslite_Index_one s 46 _).mono ?_
    rintro e w' ⟨rfl, hw⟩
    subst hw
    rw [HI.out]
    go_wp2_with fail
    go_quiet (fail)
    go_wp2
    go_ret3
    exact ⟨by simp [Lat.preS, Lat.sufS, HD.out], drewBelow (Below.refl _ _) _⟩
theorem cut_any (w : World) (s : ByteArray) (hs : s.size ≤ maxLen) :
    Calls Tryz.prog 139 #[.string s, .string ⟨#[46]⟩] w fun e w' => e = .returned (.tuple #[.string (Lat.preS s), .string (Lat.sufS s), .bool (Lat.dotAt s).isSome]) ∧ Below w.heap.size w w' := by
  have HC := hide (lcut_any w s hs)
  generalize Lat.preS s = pre at *
  generalize Lat.sufS s = suf at *
  generalize (Lat.dotAt s).isSome = dot at *
  go_enter Tryz.func139, Tryz.ntmps139
  go_wp2_with fail
  refine HC.out.mono ?_
  rintro e w1 ⟨rfl, hb1⟩
  have HB := hide hb1
  clear hb1
  go_wp2
  go_ret3
  exact ⟨rfl, HB.out⟩
theorem isCallee_any (w : World) (s : ByteArray) (hs : s.size ≤ maxLen) :
    Calls Tryz.prog 298 #[.string s] w fun e w' => e = .returned (.bool (Lat.callB s)) ∧ Below w.heap.size w w' := by
  have HC := hide (cut_any w s hs)
  have hp1 : (Lat.preS s).size ≤ maxLen := Nat.le_trans (preS_le s) hs
  have hp2 : (Lat.sufS s).size ≤ maxLen := Nat.le_trans (sufS_le s) hs
  have HE : Hid (Lat.callB s = (Lat.nameB (Lat.preS s).data.toList && (!(Lat.dotAt s).isSome || Lat.nameB (Lat.sufS s).data.toList))) := rfl
  generalize Lat.preS s = pre at *
  generalize Lat.sufS s = suf at *
  generalize (Lat.dotAt s).isSome = dot at *
  go_enter Tryz.func298, Tryz.ntmps298
  go_wp2_with fail
  refine HC.out.mono ?_
  rintro e w1 ⟨rfl, hb1⟩
  have HB := hide hb1
  clear hb1
  go_wp2_with fail
  refine (isName_any _ pre hp1).mono ?_
  rintro e w' ⟨rfl, hw⟩
  subst hw
  cases hb : Lat.nameB pre.data.toList
  · have HB1 := hide hb
    go_wp2
    go_ret
    exact ⟨ret_bool (by rw [HE.out, HB1.out]; rfl), HB.out⟩
  · have HB1 := hide hb
    cases dot
    · go_wp2
      go_ret
      exact ⟨ret_bool (by rw [HE.out, HB1.out]; rfl), HB.out⟩
    · go_wp2_with fail
      refine (isName_any _ suf hp2).mono ?_
      rintro e w' ⟨rfl, hw⟩
      subst hw
      generalize Lat.nameB suf.data.toList = b2 at *
      go_wp2
      go_ret
      exact ⟨ret_bool (by rw [HE.out, HB1.out]; simp), HB.out⟩
end Go.Proofs.YtholefgckcoklaaGreatDoor
namespace Go.Proofs.YtholefgckcoklaaGreatDoor
open Go.RowKit
namespace Lat
def partsB (x : Ex) : Bool :=
  if x.kind = 1 then decide (0 ≤ x.n) && decide (x.n ≤ 999999) && x.name.toList.isEmpty && (x.args.length == 0)
  else if x.kind = 2 then nameB x.name.data.toList && (x.n == 0) && (x.args.length == 0)
  else if x.kind = 3 then opB x.name && (x.n == 0) && (x.args.length == 2)
  else if x.kind = 4 then callB x.name && (x.n == 0) && decide (x.args.length ≤ 4)
  else false
end Lat
theorem exprB_parts (m : Nat) (x : Ex) : Lat.exprB (m + 1) x = (Lat.partsB x && x.args.all (Lat.exprB m)) := by
  obtain ⟨k, n, s, args⟩ := x
  simp only [Lat.exprB, Lat.partsB]
  by_cases h1 : k = 1
  · rw [if_pos h1, if_pos h1]
    cases args with
    | nil => simp
    | cons a l => simp
  rw [if_neg h1, if_neg h1]
  by_cases h2 : k = 2
  · rw [if_pos h2, if_pos h2]
    cases args with
    | nil => simp [Bool.and_comm]
    | cons a l => simp
  rw [if_neg h2, if_neg h2]
  by_cases h3 : k = 3
  · rw [if_pos h3, if_pos h3]
    simp only [Bool.and_assoc]
    rw [← Bool.and_assoc, ← Bool.and_assoc (Lat.opB s), Bool.and_comm (n == 0)]
  rw [if_neg h3, if_neg h3]
  by_cases h4 : k = 4
  · rw [if_pos h4, if_pos h4]
    simp only [Bool.and_assoc]
    rw [← Bool.and_assoc, ← Bool.and_assoc (Lat.callB s), Bool.and_comm (n == 0)]
  rw [if_neg h4, if_neg h4]; rfl
set_option maxHeartbeats 2000000 in
set_option maxRecDepth 100000 in
theorem hasParts_any (w : World) (k n : Int) (s : ByteArray) (a : Option Addr) (args : List Ex) (cap : Nat) (hs : s.size ≤ maxLen) (hl : args.length ≤ 9223372036854775807) :
    Calls Tryz.prog 243 #[.agg #[.int .i64 k, .int .i64 n, .string s, .slice a args.length cap]] w fun e w' => e = .returned (.bool (Lat.partsB ⟨k, n, s, args⟩)) ∧ Below w.heap.size w w' := by
  have HP : Hid (Lat.partsB ⟨k, n, s, args⟩ = if k = 1 then decide (0 ≤ n) && decide (n ≤ 999999) && s.toList.isEmpty && (args.length == 0)
      else if k = 2 then Lat.nameB s.data.toList && (n == 0) && (args.length == 0)
      else if k = 3 then Lat.opB s && (n == 0) && (args.length == 2)
      else if k = 4 then Lat.callB s && (n == 0) && decide (args.length ≤ 4)
      else false) := rfl
  generalize Lat.partsB ⟨k, n, s, args⟩ = R at *
  generalize args.length = len at *
  clear args
  by_cases h1 : k = 1
  · subst h1
    rw [if_pos rfl] at HP
    by_cases hn0 : 0 ≤ n
    · rw [decide_eq_true hn0, Bool.true_and] at HP
      by_cases hn1 : n ≤ 999999
      · rw [decide_eq_true hn1, Bool.true_and] at HP
        cases hb2 : s.toList.isEmpty
        · rw [hb2] at HP
          go_enter Tryz.func243, Tryz.ntmps243
          go_wp2
          go_ret
          exact ⟨ret_bool (by rw [HP.out]; rfl), boxBelow _ _⟩
        · rw [hb2, Bool.true_and] at HP
          go_enter Tryz.func243, Tryz.ntmps243
          go_wp2
          go_ret
          exact ⟨ret_bool (by rw [HP.out]; exact nat_beq len 0), boxBelow _ _⟩
      · rw [decide_eq_false hn1] at HP
        go_enter Tryz.func243, Tryz.ntmps243
        go_wp2
        go_ret
        exact ⟨ret_bool (by rw [HP.out]; rfl), boxBelow _ _⟩
    · rw [decide_eq_false hn0] at HP
      go_enter Tryz.func243, Tryz.ntmps243
      go_wp2
      go_ret
      exact ⟨ret_bool (by rw [HP.out]; rfl), boxBelow _ _⟩
  rw [if_neg h1] at HP
  by_cases h2 : k = 2
  · subst h2
    rw [if_pos rfl] at HP
    clear h1
    go_enter Tryz.func243, Tryz.ntmps243
    go_wp2_with fail
    refine (isName_any _ s hs).mono ?_
    rintro e w' ⟨rfl, hw⟩
    subst hw
    cases hb : Lat.nameB s.data.toList
    · rw [hb] at HP
      go_wp2
      go_ret
      exact ⟨ret_bool (by rw [HP.out]; rfl), boxBelow _ _⟩
    · rw [hb, Bool.true_and] at HP
      cases hn : (n == 0)
      · rw [hn] at HP
        go_wp2
        go_ret
        exact ⟨ret_bool (by rw [HP.out]; rfl), boxBelow _ _⟩
      · rw [hn, Bool.true_and] at HP
        go_wp2
        go_ret
        exact ⟨ret_bool (by rw [HP.out]; exact nat_beq len 0), boxBelow _ _⟩
  rw [if_neg h2] at HP
  by_cases h3 : k = 3
  · subst h3
    rw [if_pos rfl] at HP
    clear h1 h2
    go_enter Tryz.func243, Tryz.ntmps243
    go_wp2_with fail
    refine (isOperator_any _ s hs).mono ?_
    rintro e w' ⟨rfl, hw⟩
    subst hw
    cases hb : Lat.opB s
    · rw [hb] at HP
      go_wp2
      go_ret
      exact ⟨ret_bool (by rw [HP.out]; rfl), boxBelow _ _⟩
    · rw [hb, Bool.true_and] at HP
      cases hn : (n == 0)
      · rw [hn] at HP
        go_wp2
        go_ret
        exact ⟨ret_bool (by rw [HP.out]; rfl), boxBelow _ _⟩
      · rw [hn, Bool.true_and] at HP
        go_wp2
        go_ret
        exact ⟨ret_bool (by rw [HP.out]; exact nat_beq len 2), boxBelow _ _⟩
  rw [if_neg h3] at HP
  by_cases h4 : k = 4
  · subst h4
    rw [if_pos rfl] at HP
    clear h1 h2 h3
    have q1 : (w.alloc (.cells #[.int .i64 4, .int .i64 n, .string s, .slice a len cap] 103)).cell? ⟨w.heap.size, 1, none⟩ = some (.int .i64 n) := by simp [go_sem]
    have q3 := boxCells4 w (.int .i64 4) (.int .i64 n) (.string s) (.slice a len cap) 103
    go_enter Tryz.func243, Tryz.ntmps243
    go_wp2_with fail
    refine (isCallee_any _ s hs).mono ?_
    rintro e w1 ⟨rfl, hb1⟩
    have p1 := cellUp q1 hb1
    have p3 := cellUp q3 hb1
    have HB := hide (up1 hb1)
    clear q1 q3 hb1
    cases hb : Lat.callB s
    · rw [hb] at HP
      go_wp2
      go_ret
      exact ⟨ret_bool (by rw [HP.out]; rfl), HB.out⟩
    · rw [hb, Bool.true_and] at HP
      cases hn : (n == 0)
      · rw [hn] at HP
        go_wp2
        go_ret
        exact ⟨ret_bool (by rw [HP.out]; rfl), HB.out⟩
      · rw [hn, Bool.true_and] at HP
        go_wp2
        go_ret
        exact ⟨ret_bool (by rw [HP.out]; exact decide_eq_decide.2 (by omega)), HB.out⟩
  rw [if_neg h4] at HP
  have k1 : (k == 1) = false := by simp [h1]
  have k2 : (k == 2) = false := by simp [h2]
  have k3 : (k == 3) = false := by simp [h3]
  have k4 : (k == 4) = false := by simp [h4]
  clear h1 h2 h3 h4
  go_enter Tryz.func243, Tryz.ntmps243
  go_wp2
  go_ret
  exact ⟨ret_bool (by rw [HP.out]), boxBelow _ _⟩
set_option maxHeartbeats 2000000 in
set_option maxRecDepth 100000 in
theorem isExpr_any (m : Nat) : ∀ (w : World) (c0 c1 c2 c3 : Value) (x : Ex), ExAt w m c0 c1 c2 c3 x →
    Calls Tryz.prog 179 #[.agg #[c0, c1, c2, c3]] w fun e w' => e = .returned (.bool (Lat.exprB m x)) ∧ Below w.heap.size w w' := by
  induction m with
  | zero => intro w c0 c1 c2 c3 x h; exact False.elim h
  | succ m ih =>
    intro w c0 c1 c2 c3 x h
    have HI := hide ih
    clear ih
    obtain ⟨rfl, rfl, rfl, hsz, hk1, hk2, a, b, off, cap, rfl, ha, hl, hel⟩ := h
    obtain ⟨k, n, s, args⟩ := x
    simp only at hsz hk1 hk2 ha hl hel ⊢
    have HE := hide (exprB_parts m ⟨k, n, s, args⟩)
    have HPC := hide (fun w => hasParts_any w k n s a args cap hsz hl)
    have HEL := hide hel
    have HA := hide ha
    clear hel ha
    generalize Lat.partsB ⟨k, n, s, args⟩ = pb at *
    obtain ⟨len, hlen⟩ : ∃ len, len = args.length := ⟨_, rfl⟩
    have HL := hide hlen
    rw [← hlen] at hl HA HPC ⊢
    clear hlen
    have q3 := boxCells4 w (.int .i64 k) (.int .i64 n) (.string s) (.slice a len cap) 103
    go_enter Tryz.func179, Tryz.ntmps179
    go_wp2_with fail
    refine (HPC.out _).mono ?_
    rintro e W0 ⟨rfl, hb1⟩
    replace q3 := cellUp q3 hb1
    have HB0 := hide (up1 hb1)
    clear hb1
    cases pb
    · go_wp2
      go_ret
      exact ⟨ret_bool (by rw [HE.out]; rfl), HB0.out⟩
    · go_wp2
      go_loopw [11] (fun i wr => ∃ j : Nat, j ≤ len ∧ i = .int .i64 j ∧ (∀ d y, d < j → args[d]? = some y → Lat.exprB m y = true) ∧ Below W0.heap.size W0 wr) (fun i _ => len - (intOf i).toNat)
      case atStart => exact ⟨0, Nat.zero_le _, rfl, fun d y hd => absurd hd (Nat.not_lt_zero _), Below.refl _ _⟩
      case round =>
        obtain ⟨j, hj, rfl, hall, hnx⟩ := hrel
        have HALL := hide hall
        clear hall
        by_cases hjl : j < len
        · obtain ⟨y, hy⟩ : ∃ y, args[j]? = some y := ⟨_, List.getElem?_eq_getElem (by rw [← HL.out]; exact hjl)⟩
          obtain ⟨e0, e1, e2, e3, g0, g1, g2, g3, hye⟩ := HEL.out j y hy
          have HY := hide hy
          obtain rfl := HA.out (by omega)
          have hbb := up HB0.out hnx
          have u0 := cellUp g0 hbb
          have u1 := cellUp g1 hbb
          have u2' := cellUp g2 hbb
          have u3' := cellUp g3 hbb
          have HYE := hide (hye.below hbb)
          obtain ⟨a', cap', rfl, rfl, rfl, rfl⟩ := hye.shape
          have HNX := hide hnx
          clear g0 g1 g2 g3 hye hy hbb hnx
          go_wp2_with fail
          refine (HI.out _ _ _ _ _ y (HYE.out.below (boxBelow _ _))).mono ?_
          rintro e w5 ⟨rfl, hb5⟩
          have HN5 := hide (up HNX.out (up1 hb5))
          clear hb5 HNX
          cases hyb : Lat.exprB m y
          · have HYB := hide hyb
            go_wp2
            go_ret
            exact ⟨ret_bool (by rw [HE.out, all_not? HY.out HYB.out]; rfl), up HB0.out HN5.out⟩
          · have HYB := hide hyb
            go_wp2
            go_roundw
            case rel => exact ⟨j + 1, by omega, by go_num, fun d z hd hz => by
                by_cases e : d = j
                · subst e
                  rw [HY.out] at hz
                  cases hz
                  exact HYB.out
                · exact HALL.out d z (by omega) hz, HN5.out⟩
            case measure => simp [intOf]; omega
        · go_wp2
          go_ret
          have hall : args.all (Lat.exprB m) = true := all_get? (fun d z hz => HALL.out d z (by
            have := (List.getElem?_eq_some_iff.1 hz).1
            have := HL.out
            omega) hz)
          exact ⟨ret_bool (by rw [HE.out, hall]; rfl), up HB0.out hnx⟩
end Go.Proofs.YtholefgckcoklaaGreatDoor
namespace Go.Proofs.YtholefgckcoklaaGreatDoor
open Go.RowKit
set_option maxHeartbeats 2000000 in
set_option maxRecDepth 100000 in
theorem hasShape_any (w : World) (k : Int) (nm : ByteArray) (ke ne : Int) (se : ByteArray) (ae : Option Addr) (le ce : Nat) (a1 a2 : Option Addr) (l1 l2 c1 c2 : Nat) (R : Bool)
    (hR : R = if k = 1 ∨ k = 4 then Lat.nameB nm.data.toList && (l2 == 0) && (l1 == 0) else if k = 2 then nm.toList.isEmpty else if k = 3 then nm.toList.isEmpty && (l2 == 0) else false)
    (hs : nm.size ≤ maxLen) (_h1 : l1 ≤ 9223372036854775807) (_h2 : l2 ≤ 9223372036854775807) :
    Calls Tryz.prog 296 #[.agg #[.int .i64 k, .string nm, .int .i64 ke, .int .i64 ne, .string se, .slice ae le ce, .slice a1 l1 c1, .slice a2 l2 c2]] w fun e w' => e = .returned (.bool R) ∧ Below w.heap.size w w' := by
  have HP := hide hR
  clear hR
  by_cases k14 : k = 1 ∨ k = 4
  · rw [if_pos k14] at HP
    rcases k14 with rfl | rfl
    all_goals
      go_enter Tryz.func296, Tryz.ntmps296
      go_wp2_with fail
      refine (isName_any _ nm hs).mono ?_
      rintro e w' ⟨rfl, hw⟩
      subst hw
      cases hb : Lat.nameB nm.data.toList
      · rw [hb] at HP
        go_wp2
        go_ret
        exact ⟨ret_bool (by rw [HP.out]; rfl), boxBelow _ _⟩
      · rw [hb, Bool.true_and] at HP
        by_cases hl1 : l1 = 0
        · have hl1' : ((l1 : Int) == 0) = true := by simp [hl1]
          rw [show (l1 == 0) = true from by simp [hl1], Bool.and_true] at HP
          clear hl1
          go_wp2
          go_ret
          exact ⟨ret_bool (by rw [HP.out]; exact nat_beq l2 0), boxBelow _ _⟩
        · have hl1' : ((l1 : Int) == 0) = false := by simp [hl1]
          rw [show (l1 == 0) = false from by simp [hl1], Bool.and_false] at HP
          clear hl1
          go_wp2
          go_ret
          exact ⟨ret_bool (by rw [HP.out]), boxBelow _ _⟩
  rw [if_neg k14] at HP
  have n1 : (k == 1) = false := by simp; omega
  have n4 : (k == 4) = false := by simp; omega
  by_cases k2 : k = 2
  · subst k2
    rw [if_pos rfl] at HP
    clear k14 n1 n4
    generalize hb : nm.toList.isEmpty = b2 at *
    have HB := hide hb
    cases b2
    all_goals
      go_enter Tryz.func296, Tryz.ntmps296
      go_wp2
      go_ret
      exact ⟨ret_bool (by rw [HP.out]), boxBelow _ _⟩
  rw [if_neg k2] at HP
  have n2 : (k == 2) = false := by simp; omega
  by_cases k3 : k = 3
  · subst k3
    rw [if_pos rfl] at HP
    clear k14 k2 n1 n2 n4
    cases hb : nm.toList.isEmpty
    · rw [hb] at HP
      go_enter Tryz.func296, Tryz.ntmps296
      go_wp2
      go_ret
      exact ⟨ret_bool (by rw [HP.out]; rfl), boxBelow _ _⟩
    · rw [hb, Bool.true_and] at HP
      go_enter Tryz.func296, Tryz.ntmps296
      go_wp2
      go_ret
      exact ⟨ret_bool (by rw [HP.out]; exact nat_beq l2 0), boxBelow _ _⟩
  rw [if_neg k3] at HP
  have n3 : (k == 3) = false := by simp; omega
  clear k14 k2 k3
  go_enter Tryz.func296, Tryz.ntmps296
  go_wp2
  go_ret
  exact ⟨ret_bool (by rw [HP.out]), boxBelow _ _⟩
def StAt (w : World) (m : Nat) (e0 e1 e2 e3 va vb : Value) (s : St) : Prop :=
  I64 s.kind ∧ s.name.size ≤ maxLen ∧ ExAt w m e0 e1 e2 e3 s.e ∧ StsAt w m va s.a ∧ StsAt w m vb s.b
theorem StAt.below {w w' : World} {m : Nat} {e0 e1 e2 e3 va vb : Value} {s : St} (h : StAt w m e0 e1 e2 e3 va vb s) (hb : Below w.heap.size w w') : StAt w' m e0 e1 e2 e3 va vb s :=
  ⟨h.1, h.2.1, h.2.2.1.below hb, h.2.2.2.1.below hb, h.2.2.2.2.below hb⟩
section
variable (w : World) (c0 c1 c2 c3 c4 c5 c6 c7 : Value) (t : TypeId)
theorem box8_0 : (w.alloc (.cells #[c0, c1, c2, c3, c4, c5, c6, c7] t)).cell? ⟨w.heap.size, 0, none⟩ = some c0 := by simp [go_sem]
theorem box8_2 : (w.alloc (.cells #[c0, c1, c2, c3, c4, c5, c6, c7] t)).cell? ⟨w.heap.size, 2, none⟩ = some c2 := by simp [go_sem]
theorem box8_3 : (w.alloc (.cells #[c0, c1, c2, c3, c4, c5, c6, c7] t)).cell? ⟨w.heap.size, 3, none⟩ = some c3 := by simp [go_sem]
theorem box8_4 : (w.alloc (.cells #[c0, c1, c2, c3, c4, c5, c6, c7] t)).cell? ⟨w.heap.size, 4, none⟩ = some c4 := by simp [go_sem]
theorem box8_5 : (w.alloc (.cells #[c0, c1, c2, c3, c4, c5, c6, c7] t)).cell? ⟨w.heap.size, 5, none⟩ = some c5 := by simp [go_sem]
end
set_option maxHeartbeats 2000000 in
set_option maxRecDepth 100000 in
theorem isCommand_of (m : Nat) (hi : ∀ (w : World) (v : Value) (l : List St), StsAt w m v l → Calls Tryz.prog 178 #[v] w fun e w' => e = .returned (.bool (Lat.bodyB m l)) ∧ Below w.heap.size w w')
    (w : World) (e0 e1 e2 e3 va vb : Value) (s : St) (h : StAt w m e0 e1 e2 e3 va vb s) :
    Calls Tryz.prog 242 #[.agg #[.int .i64 s.kind, .string s.name, e0, e1, e2, e3, va, vb]] w fun e w' => e = .returned (.bool (Lat.stB m s)) ∧ Below w.heap.size w w' := by
  have HI := hide hi
  clear hi
  have HS := hide h
  obtain ⟨_, hnm, hx, hsa, hsb⟩ := h
  obtain ⟨ae, ce, rfl, rfl, rfl, rfl⟩ := hx.shape
  obtain ⟨a1, cap1, rfl, hl1⟩ := hsa.shape
  obtain ⟨a2, cap2, rfl, hl2⟩ := hsb.shape
  clear hx hsa hsb
  have HE : Hid (Lat.stB m s = (Lat.stH s && Lat.exprB m s.e && Lat.bodyB m s.a && Lat.bodyB m s.b)) := rfl
  have HSH := hide (fun w => hasShape_any w s.kind s.name s.e.kind s.e.n s.e.name ae s.e.args.length ce a1 a2 s.a.length s.b.length cap1 cap2 (Lat.stH s) rfl hnm hl1 hl2)
  generalize s.e.args.length = le at *
  generalize s.a.length = l1 at *
  generalize s.b.length = l2 at *
  have q2 := box8_2 w (.int .i64 s.kind) (.string s.name) (.int .i64 s.e.kind) (.int .i64 s.e.n) (.string s.e.name) (.slice ae le ce) (.slice a1 l1 cap1) (.slice a2 l2 cap2) 119
  have q3 := box8_3 w (.int .i64 s.kind) (.string s.name) (.int .i64 s.e.kind) (.int .i64 s.e.n) (.string s.e.name) (.slice ae le ce) (.slice a1 l1 cap1) (.slice a2 l2 cap2) 119
  have q4 := box8_4 w (.int .i64 s.kind) (.string s.name) (.int .i64 s.e.kind) (.int .i64 s.e.n) (.string s.e.name) (.slice ae le ce) (.slice a1 l1 cap1) (.slice a2 l2 cap2) 119
  have q5 := box8_5 w (.int .i64 s.kind) (.string s.name) (.int .i64 s.e.kind) (.int .i64 s.e.n) (.string s.e.name) (.slice ae le ce) (.slice a1 l1 cap1) (.slice a2 l2 cap2) 119
  have q6 := boxCells86 w (.int .i64 s.kind) (.string s.name) (.int .i64 s.e.kind) (.int .i64 s.e.n) (.string s.e.name) (.slice ae le ce) (.slice a1 l1 cap1) (.slice a2 l2 cap2) 119
  have q7 := boxCells87 w (.int .i64 s.kind) (.string s.name) (.int .i64 s.e.kind) (.int .i64 s.e.n) (.string s.e.name) (.slice ae le ce) (.slice a1 l1 cap1) (.slice a2 l2 cap2) 119
  go_enter Tryz.func242, Tryz.ntmps242
  go_wp2_with fail
  refine (HSH.out _).mono ?_
  rintro e w1 ⟨rfl, hb1⟩
  replace q2 := cellUp q2 hb1
  replace q3 := cellUp q3 hb1
  replace q4 := cellUp q4 hb1
  replace q5 := cellUp q5 hb1
  replace q6 := cellUp q6 hb1
  replace q7 := cellUp q7 hb1
  have HB1 := hide (up1 hb1)
  clear hb1 HSH
  generalize Lat.stH s = sh at *
  cases sh
  · go_wp2
    go_ret
    exact ⟨ret_bool (by rw [HE.out]; rfl), HB1.out⟩
  go_wp2_with fail
  refine (isExpr_any m _ _ _ _ _ s.e (HS.out.below HB1.out).2.2.1).mono ?_
  rintro e w2 ⟨rfl, hb2⟩
  replace q6 := cellUp q6 hb2
  replace q7 := cellUp q7 hb2
  have HB2 := hide (up HB1.out hb2)
  clear hb2 q2 q3 q4 q5
  generalize Lat.exprB m s.e = xb at *
  cases xb
  · go_wp2
    go_ret
    exact ⟨ret_bool (by rw [HE.out]; rfl), HB2.out⟩
  go_wp2_with fail
  refine (HI.out _ _ s.a (HS.out.below HB2.out).2.2.2.1).mono ?_
  rintro e w3 ⟨rfl, hb3⟩
  replace q7 := cellUp q7 hb3
  have HB3 := hide (up HB2.out hb3)
  clear hb3 q6
  generalize Lat.bodyB m s.a = ab at *
  cases ab
  · go_wp2
    go_ret
    exact ⟨ret_bool (by rw [HE.out]; rfl), HB3.out⟩
  go_wp2_with fail
  refine (HI.out _ _ s.b (HS.out.below HB3.out).2.2.2.2).mono ?_
  rintro e w4 ⟨rfl, hb4⟩
  have HB4 := hide (up HB3.out hb4)
  clear hb4 q7
  generalize Lat.bodyB m s.b = bb at *
  go_wp2
  go_ret
  exact ⟨ret_bool (by rw [HE.out]; cases bb <;> rfl), HB4.out⟩
set_option maxHeartbeats 2000000 in
set_option maxRecDepth 100000 in
theorem areCommands_any (m : Nat) : ∀ (w : World) (v : Value) (l : List St), StsAt w m v l →
    Calls Tryz.prog 178 #[v] w fun e w' => e = .returned (.bool (Lat.bodyB m l)) ∧ Below w.heap.size w w' := by
  induction m with
  | zero => intro w v l h; exact False.elim h
  | succ m ih =>
    intro w v l h
    have HI := hide (isCommand_of m ih)
    clear ih
    obtain ⟨a, b, off, cap, rfl, ha, hl, hel⟩ := h
    have HE := hide (Lat.bodyB_succ m l)
    have HEL := hide hel
    have HA := hide ha
    clear hel ha
    obtain ⟨len, hlen⟩ : ∃ len, len = l.length := ⟨_, rfl⟩
    have HL := hide hlen
    rw [← hlen] at hl HA ⊢
    clear hlen
    go_enter Tryz.func178, Tryz.ntmps178
    go_wp2
    go_loopw [7] (fun i wr => ∃ j : Nat, j ≤ len ∧ i = .int .i64 j ∧ (∀ d y, d < j → l[d]? = some y → Lat.stB m y = true) ∧ Below w.heap.size w wr) (fun i _ => len - (intOf i).toNat)
    case atStart => exact ⟨0, Nat.zero_le _, rfl, fun d y hd => absurd hd (Nat.not_lt_zero _), Below.refl _ _⟩
    case round =>
      obtain ⟨j, hj, rfl, hall, hnx⟩ := hrel
      have HALL := hide hall
      clear hall
      by_cases hjl : j < len
      · obtain ⟨y, hy⟩ : ∃ y, l[j]? = some y := ⟨_, List.getElem?_eq_getElem (by rw [← HL.out]; exact hjl)⟩
        obtain ⟨k1, k2, e0, e1, e2, e3, va, vb, g0, g1, g2, g3, g4, g5, g6, g7, hx, hsa, hsb⟩ := HEL.out j y hy
        have HY := hide hy
        obtain rfl := HA.out (by omega)
        have u0 := cellUp g0 hnx
        have u1 := cellUp g1 hnx
        have u2' := cellUp g2 hnx
        have u3' := cellUp g3 hnx
        have u4 := cellUp g4 hnx
        have u5 := cellUp g5 hnx
        have u6 := cellUp g6 hnx
        have u7 := cellUp g7 hnx
        have HST : Hid (StAt wr m e0 e1 e2 e3 va vb y) := hide ⟨k1, k2, hx.below hnx, hsa.below hnx, hsb.below hnx⟩
        obtain ⟨ae, ce, rfl, rfl, rfl, rfl⟩ := hx.shape
        obtain ⟨a1, cap1, rfl, hl1⟩ := hsa.shape
        obtain ⟨a2, cap2, rfl, hl2⟩ := hsb.shape
        have HNX := hide hnx
        clear g0 g1 g2 g3 g4 g5 g6 g7 hx hsa hsb hy hnx
        go_wp2_with fail
        refine (HI.out _ _ _ _ _ _ _ y (HST.out.below (boxBelow _ _))).mono ?_
        rintro e w5 ⟨rfl, hb5⟩
        have HN5 := hide (up HNX.out (up1 hb5))
        clear hb5 HNX
        cases hyb : Lat.stB m y
        · have HYB := hide hyb
          go_wp2
          go_ret
          exact ⟨ret_bool (by rw [HE.out, sts_not? HY.out HYB.out]), HN5.out⟩
        · have HYB := hide hyb
          go_wp2
          go_roundw
          case rel => exact ⟨j + 1, by omega, by go_num, fun d z hd hz => by
              by_cases e : d = j
              · subst e
                rw [HY.out] at hz
                cases hz
                exact HYB.out
              · exact HALL.out d z (by omega) hz, HN5.out⟩
          case measure => simp [intOf]; omega
      · go_wp2
        go_ret
        have hall : l.all (Lat.stB m) = true := sts_get? (fun d z hz => HALL.out d z (by
          have := (List.getElem?_eq_some_iff.1 hz).1
          have := HL.out
          omega) hz)
        exact ⟨ret_bool (by rw [HE.out, hall]), hnx⟩
end Go.Proofs.YtholefgckcoklaaGreatDoor
namespace Go.Proofs.YtholefgckcoklaaGreatDoor
open Go.RowKit
section
variable {P : Program} {ops : Array Oper} {md : Region.Mode} {C : World → Prop}
def anyHead (P : Program) (md : Region.Mode) (ops : Array Oper) (C : World → Prop) (n : Nat) (L : Array Bool → Act → Prop) : Nat → Array Bool → Act → Prop
  | 0, s, a => L s a
  | f + 1, s, a => Region.ready md ops s ≠ [] ∧ ∀ i ∈ Region.ready md ops s, i < n ∧ qOp P ops C i (anyHead P md ops C n L f (s.setIfInBounds i true)) a
theorem anyHead_wp {n g : Nat} {L : Array Bool → Act → Prop} {Q' : Exit → Act → World → Prop} (hL : ∀ s a w, C w → L s a → wpAny P md ops Q' g s a w) (f : Nat) :
    ∀ (s : Array Bool) (a : Act) (w : World), C w → anyHead P md ops C n L f s a → wpAny P md ops Q' (f + g) s a w := by
  induction f with
  | zero => intro s a w hw h; rw [Nat.zero_add]; exact hL s a w hw h
  | succ f ih =>
    intro s a w hw h
    rw [Nat.add_right_comm]
    exact ⟨fun h0 => absurd h0 h.1, fun i hi => wpOp_of_qOp hw (fun a' w' hw' h' => ih _ a' w' hw' h') (h.2 i hi).2⟩
theorem anyHead_take {n i : Nat} {oi : Oper} {v : Value} {L : Array Bool → Act → Prop} (hi : ops[i]? = some oi) (hsel : ∀ (j : Nat) (o : Oper) cs b, ops[j]? = some o → o.op ≠ .select cs b)
    (hs : Region.sinkB md ops n = true) (hc : Region.chainB md ops n = true) (hn : n < ops.size) (hin : i < n) (hdone : ∀ s a, L s a → ∀ j ∈ Region.ready md ops s, n ≤ j) (f : Nat) :
    ∀ (s : Array Bool) (a : Act), HeadInv md ops n s →
      (∀ j oj, ops[j]? = some oj → j ≠ i → s.getD j true = false → (∀ e ∈ oj.after, Region.binds md e = true → e.on ≠ i) → oi.apart ops oj = true) →
      i ∈ Region.ready md ops s → YieldsIn P ops C oi v a → anyHead P md ops C n L f (s.setIfInBounds i true) (a.put oi.dst v) → anyHead P md ops C n L (f + 1) s a := by
  have early : ∀ {s : Array Bool}, HeadInv md ops n s → i ∈ Region.ready md ops s → ∀ j ∈ Region.ready md ops s, j < n := fun {s} inv hr j hj => by
    rcases Nat.lt_or_ge j n with h | h
    · exact h
    · exact absurd hj (tail_waits hs hc hn inv _ i rfl hin (mem_ready.1 hr).1 j h)
  induction f with
  | zero =>
    intro s a inv _ hr hy H
    refine ⟨List.ne_nil_of_mem hr, fun j hj => ⟨early inv hr j hj, ?_⟩⟩
    by_cases e : j = i
    · rw [e]; exact hy.qOp hi H
    · have h1 := hdone _ _ H j (ready_mono hj e)
      have h2 := early inv hr j hj
      omega
  | succ f ih =>
    intro s a inv hfree hr hy H
    refine ⟨List.ne_nil_of_mem hr, fun j hj => ⟨early inv hr j hj, ?_⟩⟩
    by_cases e : j = i
    · rw [e]; exact hy.qOp hi H
    · obtain ⟨hjun, oj, hoj, hall⟩ := mem_ready.1 hj
      have hno : ∀ e ∈ oj.after, Region.binds md e = true → e.on ≠ i := fun e he hb heq => by
        have h1 := hall e he hb
        rw [heq, getD_both (mem_ready.1 hr).1] at h1
        cases h1
      have h2 := qOp_put hoj (hfree j oj hoj e hjun hno) (fun cs b => hsel i oi cs b hi) (fun cs b => hsel j oj cs b hoj) hy (H.2 j (ready_mono hj e)).2
      refine qOp_mono (fun a' h3 => ih _ a' (inv.set hj (early inv hr j hj)) (fun k ok hk hki hun hno' => hfree k ok hk hki ?_ hno') (ready_mono hr (Ne.symm e)) h3.1 ?_) h2
      · by_cases hjk : j = k
        · rw [← hjk]; exact hjun
        · rwa [getD_set_ne true hjk] at hun
      · rw [Array.setIfInBounds_comm _ _ e]
        exact h3.2
theorem anyHead_lex {n g : Nat} {Lq : Act → Prop} (hsel : Region.noSelect ops = true) (hs : Region.sinkB md ops n = true) (hc : Region.chainB md ops n = true) (hn : n < ops.size) :
    ∀ (l : List Oper) (k : Nat) (s : Array Bool) (a : Act), (∀ j, j < l.length → l[j]? = ops[k + j]?) → k + l.length = n → HeadInv md ops n s → Region.lexHead md ops g l.length k s = true → wpQuiet P ops C Lq l a →
      anyHead P md ops C n (fun s' a' => Region.seqB md ops g n s' = true ∧ Lq a') l.length s a := by
  intro l
  induction l with
  | nil =>
    intro k s a _ hk _ hB h
    obtain rfl : k = n := by simpa using hk
    exact ⟨by simpa [Region.lexHead] using hB, h⟩
  | cons o l ih =>
    intro k s a hl hk inv hB h
    have h0 : ops[k]? = some o := by simpa using (hl 0 (by simp)).symm
    simp only [List.length_cons, Region.lexHead, Bool.and_eq_true] at hB hk
    obtain ⟨⟨hr, hf⟩, hB'⟩ := hB
    have hr' : k ∈ Region.ready md ops s := by simpa using hr
    have hq : qOp P ops C k (wpQuiet P ops C Lq l) a := by unfold qOp; simp only [h0]; exact h
    obtain ⟨v, hy, hK⟩ := yieldsIn_of_qOp h0 hq
    refine anyHead_take h0 (Region.noSelect_spec hsel) hs hc hn (by omega) (fun s' a' hL => seqB_ready hL.1) l.length s a inv (Region.free_spec h0 hf) hr' hy (ih (k + 1) _ _ (fun j hj => ?_) (by omega) (inv.set hr' (by omega)) hB' hK)
    have := hl (j + 1) (by simp; omega)
    simpa [Nat.add_assoc, Nat.add_comm 1 j] using this
end
theorem wp_region_quiet_tail {P : Program} {C : World → Prop} {id : Nat} {Q : Exit → Act → World → Prop} {a : Act} {w : World} {l : List Oper} (n : Nat) (hm : P.follows .mixedOrders = true) (hB : Region.lexTailB .any l.toArray n = true) (hC : C { w with drawn := w.drawn + 1 })
    (h : wpQuiet P l.toArray C (fun a' => ∀ w', C w' → wpList P l.toArray Q (l.drop n) a' w') (l.take n) a) : (Code.region id l.toArray true).wp P Q a w := by
  simp only [Region.lexTailB, Bool.and_eq_true, decide_eq_true_eq] at hB
  obtain ⟨⟨⟨⟨hsel, hn⟩, hs⟩, hc⟩, hlex⟩ := hB
  have hn' : n < l.length := by simpa using hn
  have htl : (l.take n).length = n := by simp; omega
  have hdl : (l.drop n).length = l.toArray.size - n := by simp
  have inv0 : HeadInv .any l.toArray n (Array.replicate l.toArray.size false) :=
    ⟨by simp, fun j oj _ hl => absurd hl (by rw [getD_replicate_false]; simp), fun t _ ht => getD_in (by simpa using ht) (getD_replicate_false _ _)⟩
  have H := anyHead_lex (md := .any) (g := l.toArray.size - n) hsel hs hc hn (l.take n) 0 _ a (fun j hj => by
    rw [htl] at hj
    simp [hj]) (by simpa using htl) inv0 (by rw [htl]; exact hlex) h
  have K := anyHead_wp (Q' := Q) (g := l.toArray.size - n) (fun s a' w' hw' hL => by
    have := wpAny_of_seq (md := .any) (Q' := Q) (l.drop n) n s a' w' (fun j => by simp [List.getElem?_drop]) (by rw [hdl]; exact hL.1) (hL.2 w' hw')
    rwa [hdl] at this) _ _ _ _ hC H
  rw [htl, show n + (l.toArray.size - n) = l.toArray.size by omega] at K
  exact wp_region_any hm K
theorem wp_region_tail_gn {P : Program} {id : Nat} {Q : Exit → Act → World → Prop} {a : Act} {w : World} {l : List Oper} (n : Nat) (hm : P.follows .mixedOrders = true) (hB : Region.lexTailB .any l.toArray n = true)
    (h : wpQuiet P l.toArray (fun w' => ∃ p : GrownBy, w' = gn w p.n p.os) (fun a' => ∀ w', (∃ p : GrownBy, w' = gn w p.n p.os) → wpList P l.toArray Q (l.drop n) a' w') (l.take n) a) : (Code.region id l.toArray true).wp P Q a w :=
  wp_region_quiet_tail (C := fun w' => ∃ p : GrownBy, w' = gn w p.n p.os) n hm hB ⟨⟨w.drawn + 1, #[]⟩, by simp [gn]⟩ h
end Go.Proofs.YtholefgckcoklaaGreatDoor
