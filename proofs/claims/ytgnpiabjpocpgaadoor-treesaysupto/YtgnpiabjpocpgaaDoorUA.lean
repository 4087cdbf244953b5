/- Walks over package tree: isOperator, isCallee (and strings.Cut at one byte), hasParts. -/
import Derived.Test.YtgnpiabjpocpgaaDoorLN
import Derived.Test.YtgnpiabjpocpgaaDoorTF
import Derived.Test.YtgnpiabjpocpgaaDoorShelf
import Derived.Lib.IndexLaws
namespace Go.Proofs.YtgnpiabjpocpgaaDoor
open Go.RowKit

theorem op_size {s : ByteArray} (h : ¬ s.size = 1) : Lat.opB s = false := by
  unfold Lat.opB
  have : Lat.indexI Lat.opS s = -1 := by
    unfold Lat.indexI
    rw [Lat.find_none (p := Lat.isAt Lat.opS s) (fun c hc => ?_)]
    have hc' : c < 5 := hc
    unfold Lat.isAt
    rw [beq_eq_false_iff_ne]
    intro e
    rw [ByteArray.toList_eq, ByteArray.toList_eq] at e
    have e2 := congrArg List.length e
    rw [size_list, size_list] at e2
    apply h
    rw [e2]
    obtain rfl | rfl | rfl | rfl | rfl : c = 0 ∨ c = 1 ∨ c = 2 ∨ c = 3 ∨ c = 4 := by omega
    all_goals rfl
  rw [this]; rfl
theorem op_table : ∀ c : Fin 256, decide (0 ≤ Lib.indexByte [43, 45, 42, 60, 61] (UInt8.ofFin c)) = Lat.opB ⟨#[UInt8.ofFin c]⟩ := by
  decide +kernel
theorem op_one (c : UInt8) : decide (0 ≤ Lib.indexByte [43, 45, 42, 60, 61] c) = Lat.opB ⟨#[c]⟩ := op_table c.toFin
theorem one_byte {s : ByteArray} (h : s.size = 1) : ∃ c, s = ⟨#[c]⟩ := by
  obtain ⟨⟨l⟩⟩ := s
  match l, h with
  | [c], _ => exact ⟨c, rfl⟩

theorem isOperator_any (w : World) (s : ByteArray) (hs : s.size ≤ maxLen) :
    Calls Tryd.prog 48 #[.string s] w fun e w' => e = .returned (.bool (Lat.opB s)) ∧ w' = w := by
  unfold maxLen at hs
  by_cases h1 : s.size = 1
  · obtain ⟨c, rfl⟩ := one_byte h1
    clear h1
    have h1' : (((⟨#[c]⟩ : ByteArray).size : Int) == 1) = true := rfl
    have HO := hide (op_one c)
    go_enter Tryd.func48, Tryd.ntmps48
    go_wp2_with fail
    refine (Tryd.strings_Contains_one _ c _).mono ?_
    rintro e w' ⟨rfl, hw⟩
    subst hw
    rw [show decide (0 ≤ Lib.indexByte (⟨#[43, 45, 42, 60, 61]⟩ : ByteArray).data.toList c) = Lat.opB ⟨#[c]⟩ from HO.out]
    go_wp2
    go_ret
    exact ⟨rfl, rfl⟩
  · have h1' : ((s.size : Int) == 1) = false := by simp; omega
    have HO := hide (op_size h1)
    clear h1
    go_enter Tryd.func48, Tryd.ntmps48
    go_wp2
    go_ret
    exact ⟨ret_bool HO.out.symm, rfl⟩

theorem dot_index (s : ByteArray) : Lib.indexByte s.data.toList 46 = match Lat.dotAt s with | some i => (i : Int) | none => -1 := by
  have hge := Lib.indexByte_ge s.data.toList 46
  by_cases h : Lib.indexByte s.data.toList 46 = -1
  · have hn := Lib.indexByte_none h
    have : Lat.dotAt s = none := Lat.find_none (fun d hd => by
      have hd' : d < s.data.toList.length := hd
      have h' := hn d
      rw [List.getD, List.getElem?_eq_getElem hd']
      rw [List.getElem?_eq_getElem hd'] at h'
      simpa using h')
    rw [h, this]
  · obtain ⟨o, ho⟩ : ∃ o : Nat, Lib.indexByte s.data.toList 46 = o := ⟨(Lib.indexByte s.data.toList 46).toNat, by omega⟩
    obtain ⟨h1, h2⟩ := Lib.indexByte_some ho
    have ho' : o < s.size := (List.getElem?_eq_some_iff.1 h1).1
    have : Lat.dotAt s = some o := Lat.find_hit ho' (fun c hc => by
      have hc' : c < s.data.toList.length := Nat.lt_trans hc ho'
      have h' := h2 c hc
      rw [List.getD, List.getElem?_eq_getElem hc']
      rw [List.getElem?_eq_getElem hc'] at h'
      simpa using h') (by rw [List.getD, h1]; rfl)
    rw [ho, this]

theorem dotAt_lt {s : ByteArray} {k : Nat} (h : Lat.dotAt s = some k) : k < s.size := (Lat.find_spec h).1

set_option maxHeartbeats 1000000 in
theorem lcut_any (w : World) (s : ByteArray) (hs : s.size ≤ maxLen) :
    Calls Tryd.prog 67 #[.string s, .string ⟨#[46]⟩] w fun e w' => e = .returned (.tuple #[.string (Lat.preS s), .string (Lat.sufS s), .bool (Lat.dotAt s).isSome]) ∧ Below w.heap.size w w' := by
  unfold maxLen at hs
  have HI := hide (dot_index s)
  cases hd : Lat.dotAt s
  · rw [hd] at HI
    have HD := hide hd
    clear hd
    go_enter Tryd.func67, Tryd.ntmps67
    go_wp2_with fail
    refine (Tryd.stringslite_Index_one s 46 _).mono ?_
    rintro e w' ⟨rfl, hw⟩
    subst hw
    rw [HI.out]
    go_wp2
    go_ret3
    exact ⟨by simp [Lat.preS, Lat.sufS, HD.out], Below.refl _ _⟩
  · rename_i k
    rw [hd] at HI
    have hk := dotAt_lt hd
    have HD := hide hd
    have b1 : (0 : Int) ≤ (k : Int) := by omega
    have b2 : (k : Int) ≤ (s.size : Int) := by omega
    have b3 : (k : Int) + 1 ≤ (s.size : Int) := by omega
    clear hd
    go_enter Tryd.func67, Tryd.ntmps67
    go_wp2_with fail
    refine (Tryd.stringslite_Index_one s 46 _).mono ?_
    rintro e w' ⟨rfl, hw⟩
    subst hw
    rw [HI.out]
    go_wp2_with fail
    go_quiet (fail)
    go_wp2
    go_ret3
    exact ⟨by simp [Lat.preS, Lat.sufS, HD.out], drewBelow (Below.refl _ _) _⟩

theorem cut_any (w : World) (s : ByteArray) (hs : s.size ≤ maxLen) :
    Calls Tryd.prog 58 #[.string s, .string ⟨#[46]⟩] w fun e w' => e = .returned (.tuple #[.string (Lat.preS s), .string (Lat.sufS s), .bool (Lat.dotAt s).isSome]) ∧ Below w.heap.size w w' := by
  have HC := hide (lcut_any w s hs)
  generalize Lat.preS s = pre at *
  generalize Lat.sufS s = suf at *
  generalize (Lat.dotAt s).isSome = dot at *
  go_enter Tryd.func58, Tryd.ntmps58
  go_wp2_with fail
  refine HC.out.mono ?_
  rintro e w1 ⟨rfl, hb1⟩
  have HB := hide hb1
  clear hb1
  go_wp2
  go_ret3
  exact ⟨rfl, HB.out⟩

theorem isCallee_any (w : World) (s : ByteArray) (hs : s.size ≤ maxLen) :
    Calls Tryd.prog 49 #[.string s] w fun e w' => e = .returned (.bool (Lat.callB s)) ∧ Below w.heap.size w w' := by
  have HC := hide (cut_any w s hs)
  have hp1 : (Lat.preS s).size ≤ maxLen := Nat.le_trans (preS_le s) hs
  have hp2 : (Lat.sufS s).size ≤ maxLen := Nat.le_trans (sufS_le s) hs
  have HE : Hid (Lat.callB s = (Lat.nameB (Lat.preS s).data.toList && (!(Lat.dotAt s).isSome || Lat.nameB (Lat.sufS s).data.toList))) := rfl
  generalize Lat.preS s = pre at *
  generalize Lat.sufS s = suf at *
  generalize (Lat.dotAt s).isSome = dot at *
  go_enter Tryd.func49, Tryd.ntmps49
  go_wp2_with fail
  refine HC.out.mono ?_
  rintro e w1 ⟨rfl, hb1⟩
  have HB := hide hb1
  clear hb1
  go_wp2_with fail
  refine (isName_any _ pre hp1).mono ?_
  rintro e w' ⟨rfl, hw⟩
  subst hw
  cases hb : Lat.nameB pre.data.toList
  · have HB1 := hide hb
    go_wp2
    go_ret
    exact ⟨ret_bool (by rw [HE.out, HB1.out]; rfl), HB.out⟩
  · have HB1 := hide hb
    cases dot
    · go_wp2
      go_ret
      exact ⟨ret_bool (by rw [HE.out, HB1.out]; rfl), HB.out⟩
    · go_wp2_with fail
      refine (isName_any _ suf hp2).mono ?_
      rintro e w' ⟨rfl, hw⟩
      subst hw
      generalize Lat.nameB suf.data.toList = b2 at *
      go_wp2
      go_ret
      exact ⟨ret_bool (by rw [HE.out, HB1.out]; simp), HB.out⟩

end Go.Proofs.YtgnpiabjpocpgaaDoor
