/- Walks over package lattice: IsName alone, and what package tree makes of it: areNames, areVars. -/
import Derived.Test.YtbncnkfogkhoeaaGreatDoorZA
import Derived.Test.YtbncnkfogkhoeaaGreatDoorShelf
import Derived.Lib.IndexLaws
namespace Go.Proofs.YtbncnkfogkhoeaaGreatDoor
open Go.RowKit

set_option maxHeartbeats 1000000 in
theorem isName_any (w : World) (s : ByteArray) (hs : s.size ≤ maxLen) :
    Calls Tryz.prog 75 #[.string s] w fun e w' => e = .returned (.bool (Lat.nameB s.data.toList)) ∧ w' = w := by
  unfold maxLen at hs
  by_cases h1 : s.size < 1
  · have HF : Hid (Lat.nameB s.data.toList = false) := by
      show Lat.nameB s.data.toList = false
      unfold Lat.nameB; rw [size_list]; simp; omega
    go_enter Tryz.func75, Tryz.ntmps75
    go_wp2
    go_ret
    exact ⟨ret_bool HF.out.symm, rfl⟩
  · by_cases h8 : 8 < s.size
    · have HF : Hid (Lat.nameB s.data.toList = false) := by
        show Lat.nameB s.data.toList = false
        unfold Lat.nameB; rw [size_list]; simp; omega
      go_enter Tryz.func75, Tryz.ntmps75
      go_wp2
      go_ret
      exact ⟨ret_bool HF.out.symm, rfl⟩
    · have HF : Hid (Lat.nameB s.data.toList = s.data.toList.all Lat.letterB) := by
        show Lat.nameB s.data.toList = _
        unfold Lat.nameB; rw [size_list]
        rw [decide_eq_true (by omega : 1 ≤ s.size), decide_eq_true (by omega : s.size ≤ 8)]; rfl
      go_enter Tryz.func75, Tryz.ntmps75
      go_wp2
      go_loop [14] (fun i => ∃ k : Nat, k ≤ s.size ∧ i = .int .i64 k ∧ ∀ j (hj : j < s.size), j < k → Lat.letterB s[j] = true) (fun i => s.size - (intOf i).toNat)
      case atStart => exact ⟨0, Nat.zero_le _, rfl, fun j hj hd => absurd hd (Nat.not_lt_zero _)⟩
      case round =>
        obtain ⟨k, hk, rfl, hall⟩ := hrel
        have HA : Hid (∀ j (hj : j < s.size), j < k → Lat.letterB s[j] = true) := hall
        clear hall
        by_cases hlt : k < s.size
        · go_wp2
          · go_ret
            exact ⟨ret_bool (by rw [HF.out, letters_not s k hlt (by simp [Lat.letterB]; omega)]), rfl⟩
          · go_round
            case rel => exact ⟨k + 1, by omega, by go_num, fun j hj hd => by
                by_cases e : j = k
                · subst e; simp [Lat.letterB]; omega
                · exact HA.out j hj (by omega)⟩
            case measure => simp [intOf]; omega
          · go_ret
            exact ⟨ret_bool (by rw [HF.out, letters_not s k hlt (by simp [Lat.letterB]; omega)]), rfl⟩
        · go_wp2
          go_ret
          exact ⟨ret_bool (by rw [HF.out, letters_all s (fun j hj => HA.out j hj (by omega))]), rfl⟩

theorem strs_all {p : ByteArray → Bool} {l : List ByteArray} (h : ∀ d, d < l.length → p (l.getD d ByteArray.empty) = true) : l.all p = true := by
  rw [List.all_eq_true]; intro x hx
  obtain ⟨i, hi, rfl⟩ := List.mem_iff_getElem.1 hx
  have := h i hi
  simpa [hi] using this
theorem strs_not {p : ByteArray → Bool} {l : List ByteArray} {d : Nat} (hd : d < l.length) (h : p (l.getD d ByteArray.empty) = false) : l.all p = false := by
  rw [List.all_eq_false]
  exact ⟨l[d], List.getElem_mem hd, by simp [hd] at h; simp [h]⟩

set_option maxHeartbeats 1000000 in
theorem areNames_any (w : World) (v : Value) (ss : List ByteArray) (h : Strs w v ss) :
    Calls Tryz.prog 76 #[v] w fun e w' => e = .returned (.bool (ss.all fun s => Lat.nameB s.data.toList)) ∧ w' = w := by
  obtain ⟨a, b, off, cap, rfl, ha, hl, hs, hc⟩ := h
  obtain ⟨len, hlen⟩ : ∃ len, len = ss.length := ⟨_, rfl⟩
  have HL := hide hlen
  rw [← hlen] at ha hl hc ⊢
  have HA := hide ha
  have HC := hide hc
  have HS : Hid (∀ j, j < len → (ss.getD j ByteArray.empty).size ≤ maxLen) := hide (fun j hj => hs _ (by
    have hj' : j < ss.length := by omega
    rw [show ss.getD j ByteArray.empty = ss[j] by simp [hj']]; exact List.getElem_mem hj'))
  clear ha hc hs hlen
  go_enter Tryz.func76, Tryz.ntmps76
  go_wp2
  go_loop [7] (fun i => ∃ k : Nat, k ≤ len ∧ i = .int .i64 k ∧ ∀ d, d < k → Lat.nameB (ss.getD d ByteArray.empty).data.toList = true) (fun i => len - (intOf i).toNat)
  case atStart => exact ⟨0, Nat.zero_le _, rfl, fun d hd => absurd hd (Nat.not_lt_zero _)⟩
  case round =>
    obtain ⟨k, hk, rfl, hall⟩ := hrel
    have HALL := hide hall
    clear hall
    by_cases hlt : k < len
    · obtain rfl := HA.out (by omega)
      have hck := HC.out k hlt
      have hsk := HS.out k hlt
      obtain ⟨s, hse⟩ : ∃ s, s = ss.getD k ByteArray.empty := ⟨_, rfl⟩
      have HSE := hide hse
      rw [← hse] at hck hsk
      clear hse
      go_wp2_with fail
      refine (isName_any _ s hsk).mono ?_
      rintro e w' ⟨rfl, hw⟩
      subst hw
      cases hb : Lat.nameB s.data.toList
      · have HB := hide hb
        go_wp2
        go_ret
        exact ⟨ret_bool (strs_not (d := k) (by have := HL.out; omega) (by rw [← HSE.out]; exact HB.out)).symm, rfl⟩
      · have HB := hide hb
        go_wp2
        go_round
        case rel => exact ⟨k + 1, by omega, by go_num, fun d hd => by
            by_cases e : d = k
            · subst e; rw [← HSE.out]; exact HB.out
            · exact HALL.out d (by omega)⟩
        case measure => simp [intOf]; omega
    · go_wp2
      go_ret
      exact ⟨ret_bool (strs_all (fun d hd => HALL.out d (by have := HL.out; omega))).symm, rfl⟩

theorem vas_all {p : Va → Bool} {l : List Va} (h : ∀ (i : Nat) (x : Va), l[i]? = some x → p x = true) : l.all p = true := by
  rw [List.all_eq_true]; intro x hx
  obtain ⟨i, hi, rfl⟩ := List.mem_iff_getElem.1 hx
  exact h i _ (List.getElem?_eq_getElem hi)
theorem vas_not {p : Va → Bool} {l : List Va} {i : Nat} {x : Va} (hx : l[i]? = some x) (h : p x = false) : l.all p = false := by
  rw [List.all_eq_false]
  exact ⟨x, List.mem_of_getElem? hx, by simp [h]⟩

set_option maxHeartbeats 1000000 in
theorem areVars_any (w : World) (v : Value) (vs : List Va) (h : VasAt w v vs) :
    Calls Tryz.prog 77 #[v] w fun e w' => e = .returned (.bool (vs.all fun s => Lat.nameB s.name.data.toList && Lat.nameB s.level.data.toList)) ∧ Below w.heap.size w w' := by
  obtain ⟨a, b, off, cap, rfl, ha, hl, hc⟩ := h
  obtain ⟨len, hlen⟩ : ∃ len, len = vs.length := ⟨_, rfl⟩
  have HL := hide hlen
  rw [← hlen] at ha hl ⊢
  have HA := hide ha
  have HC := hide hc
  clear ha hc hlen
  go_enter Tryz.func77, Tryz.ntmps77
  go_wp2
  go_loopw [7] (fun i wr => ∃ k : Nat, k ≤ len ∧ i = .int .i64 k ∧ (∀ d y, d < k → vs[d]? = some y → (Lat.nameB y.name.data.toList && Lat.nameB y.level.data.toList) = true) ∧ Below w.heap.size w wr) (fun i _ => len - (intOf i).toNat)
  case atStart => exact ⟨0, Nat.zero_le _, rfl, fun d y hd => absurd hd (Nat.not_lt_zero _), Below.refl _ _⟩
  case round =>
    obtain ⟨k, hk, rfl, hall, hnx⟩ := hrel
    have HALL := hide hall
    clear hall
    by_cases hlt : k < len
    · obtain rfl := HA.out (by omega)
      obtain ⟨y, hy⟩ : ∃ y, vs[k]? = some y := ⟨_, List.getElem?_eq_getElem (by rw [← HL.out]; exact hlt)⟩
      obtain ⟨k1, k2, g0, g1⟩ := HC.out k y hy
      have HY := hide hy
      have u0 := cellUp g0 hnx
      have u1 := cellUp g1 hnx
      have HNX := hide (hnx.trans ((boxBelow wr (.cells #[.string y.name, .string y.level] 79)).mono hnx.size))
      clear g0 g1 hy hnx
      go_wp2_with fail
      refine (isName_any _ y.name k1).mono ?_
      rintro e w' ⟨rfl, hw⟩
      subst hw
      cases hb : Lat.nameB y.name.data.toList
      · have HB := hide hb
        go_wp2
        go_ret
        exact ⟨ret_bool (vas_not HY.out (by rw [HB.out]; rfl)).symm, HNX.out⟩
      · have HB := hide hb
        go_wp2_with fail
        refine (isName_any _ y.level k2).mono ?_
        rintro e w' ⟨rfl, hw⟩
        subst hw
        cases hb2 : Lat.nameB y.level.data.toList
        · have HB2 := hide hb2
          go_wp2
          go_ret
          exact ⟨ret_bool (vas_not HY.out (by rw [HB.out, HB2.out]; rfl)).symm, HNX.out⟩
        · have HB2 := hide hb2
          go_wp2
          go_roundw
          case rel => exact ⟨k + 1, by omega, by go_num, fun d z hd hz => by
              by_cases e : d = k
              · subst e
                rw [HY.out] at hz
                cases hz
                rw [HB.out, HB2.out]; rfl
              · exact HALL.out d z (by omega) hz, HNX.out⟩
          case measure => simp [intOf]; omega
    · go_wp2
      go_ret
      exact ⟨ret_bool (vas_all (fun d z hz => HALL.out d z (by
        have := (List.getElem?_eq_some_iff.1 hz).1
        have := HL.out
        omega) hz)).symm, hnx⟩

end Go.Proofs.YtbncnkfogkhoeaaGreatDoor

/- Walks over package tree: isOperator, isCallee (and strings.Cut at one byte), hasParts. -/
namespace Go.Proofs.YtbncnkfogkhoeaaGreatDoor
open Go.RowKit

theorem op_size {s : ByteArray} (h : ¬ s.size = 1) : Lat.opB s = false := by
  unfold Lat.opB
  have : Lat.indexI Lat.opS s = -1 := by
    unfold Lat.indexI
    rw [Lat.find_none (p := Lat.isAt Lat.opS s) (fun c hc => ?_)]
    have hc' : c < 5 := hc
    unfold Lat.isAt
    rw [beq_eq_false_iff_ne]
    intro e
    rw [ByteArray.toList_eq, ByteArray.toList_eq] at e
    have e2 := congrArg List.length e
    rw [size_list, size_list] at e2
    apply h
    rw [e2]
    obtain rfl | rfl | rfl | rfl | rfl : c = 0 ∨ c = 1 ∨ c = 2 ∨ c = 3 ∨ c = 4 := by omega
    all_goals rfl
  rw [this]; rfl
theorem op_table : ∀ c : Fin 256, decide (0 ≤ Lib.indexByte [43, 45, 42, 60, 61] (UInt8.ofFin c)) = Lat.opB ⟨#[UInt8.ofFin c]⟩ := by
  decide +kernel
theorem op_one (c : UInt8) : decide (0 ≤ Lib.indexByte [43, 45, 42, 60, 61] c) = Lat.opB ⟨#[c]⟩ := op_table c.toFin
theorem one_byte {s : ByteArray} (h : s.size = 1) : ∃ c, s = ⟨#[c]⟩ := by
  obtain ⟨⟨l⟩⟩ := s
  match l, h with
  | [c], _ => exact ⟨c, rfl⟩

theorem isOperator_any (w : World) (s : ByteArray) (hs : s.size ≤ maxLen) :
    Calls Tryz.prog 216 #[.string s] w fun e w' => e = .returned (.bool (Lat.opB s)) ∧ w' = w := by
  unfold maxLen at hs
  by_cases h1 : s.size = 1
  · obtain ⟨c, rfl⟩ := one_byte h1
    clear h1
    have h1' : (((⟨#[c]⟩ : ByteArray).size : Int) == 1) = true := rfl
    have HO := hide (op_one c)
    go_enter Tryz.func216, Tryz.ntmps216
    go_wp2_with fail
    refine (Tryz.strings_Contains_one _ c _).mono ?_
    rintro e w' ⟨rfl, hw⟩
    subst hw
    rw [show decide (0 ≤ Lib.indexByte (⟨#[43, 45, 42, 60, 61]⟩ : ByteArray).data.toList c) = Lat.opB ⟨#[c]⟩ from HO.out]
    go_wp2
    go_ret
    exact ⟨rfl, rfl⟩
  · have h1' : ((s.size : Int) == 1) = false := by simp; omega
    have HO := hide (op_size h1)
    clear h1
    go_enter Tryz.func216, Tryz.ntmps216
    go_wp2
    go_ret
    exact ⟨ret_bool HO.out.symm, rfl⟩

theorem dot_index (s : ByteArray) : Lib.indexByte s.data.toList 46 = match Lat.dotAt s with | some i => (i : Int) | none => -1 := by
  have hge := Lib.indexByte_ge s.data.toList 46
  by_cases h : Lib.indexByte s.data.toList 46 = -1
  · have hn := Lib.indexByte_none h
    have : Lat.dotAt s = none := Lat.find_none (fun d hd => by
      have hd' : d < s.data.toList.length := hd
      have h' := hn d
      rw [List.getD, List.getElem?_eq_getElem hd']
      rw [List.getElem?_eq_getElem hd'] at h'
      simpa using h')
    rw [h, this]
  · obtain ⟨o, ho⟩ : ∃ o : Nat, Lib.indexByte s.data.toList 46 = o := ⟨(Lib.indexByte s.data.toList 46).toNat, by omega⟩
    obtain ⟨h1, h2⟩ := Lib.indexByte_some ho
    have ho' : o < s.size := (List.getElem?_eq_some_iff.1 h1).1
    have : Lat.dotAt s = some o := Lat.find_hit ho' (fun c hc => by
      have hc' : c < s.data.toList.length := Nat.lt_trans hc ho'
      have h' := h2 c hc
      rw [List.getD, List.getElem?_eq_getElem hc']
      rw [List.getElem?_eq_getElem hc'] at h'
      simpa using h') (by rw [List.getD, h1]; rfl)
    rw [ho, this]

theorem dotAt_lt {s : ByteArray} {k : Nat} (h : Lat.dotAt s = some k) : k < s.size := (Lat.find_spec h).1

set_option maxHeartbeats 1000000 in
theorem lcut_any (w : World) (s : ByteArray) (hs : s.size ≤ maxLen) :
    Calls Tryz.prog 161 #[.string s, .string ⟨#[46]⟩] w fun e w' => e = .returned (.tuple #[.string (Lat.preS s), .string (Lat.sufS s), .bool (Lat.dotAt s).isSome]) ∧ Below w.heap.size w w' := by
  unfold maxLen at hs
  have HI := hide (dot_index s)
  cases hd : Lat.dotAt s
  · rw [hd] at HI
    have HD := hide hd
    clear hd
    go_enter Tryz.func161, Tryz.ntmps161
    go_wp2_with fail
    refine (Tryz.stringslite_Index_one s 46 _).mono ?_
    rintro e w' ⟨rfl, hw⟩
    subst hw
    rw [HI.out]
    go_wp2
    go_ret3
    exact ⟨by simp [Lat.preS, Lat.sufS, HD.out], Below.refl _ _⟩
  · rename_i k
    rw [hd] at HI
    have hk := dotAt_lt hd
    have HD := hide hd
    have b1 : (0 : Int) ≤ (k : Int) := by omega
    have b2 : (k : Int) ≤ (s.size : Int) := by omega
    have b3 : (k : Int) + 1 ≤ (s.size : Int) := by omega
    clear hd
    go_enter Tryz.func161, Tryz.ntmps161
    go_wp2_with fail
    refine (Tryz.stringslite_Index_one s 46 _).mono ?_
    rintro e w' ⟨rfl, hw⟩
    subst hw
    rw [HI.out]
    go_wp2_with fail
    go_quiet (fail)
    go_wp2
    go_ret3
    exact ⟨by simp [Lat.preS, Lat.sufS, HD.out], drewBelow (Below.refl _ _) _⟩

theorem cut_any (w : World) (s : ByteArray) (hs : s.size ≤ maxLen) :
    Calls Tryz.prog 111 #[.string s, .string ⟨#[46]⟩] w fun e w' => e = .returned (.tuple #[.string (Lat.preS s), .string (Lat.sufS s), .bool (Lat.dotAt s).isSome]) ∧ Below w.heap.size w w' := by
  have HC := hide (lcut_any w s hs)
  generalize Lat.preS s = pre at *
  generalize Lat.sufS s = suf at *
  generalize (Lat.dotAt s).isSome = dot at *
  go_enter Tryz.func111, Tryz.ntmps111
  go_wp2_with fail
  refine HC.out.mono ?_
  rintro e w1 ⟨rfl, hb1⟩
  have HB := hide hb1
  clear hb1
  go_wp2
  go_ret3
  exact ⟨rfl, HB.out⟩

theorem isCallee_any (w : World) (s : ByteArray) (hs : s.size ≤ maxLen) :
    Calls Tryz.prog 217 #[.string s] w fun e w' => e = .returned (.bool (Lat.callB s)) ∧ Below w.heap.size w w' := by
  have HC := hide (cut_any w s hs)
  have hp1 : (Lat.preS s).size ≤ maxLen := Nat.le_trans (preS_le s) hs
  have hp2 : (Lat.sufS s).size ≤ maxLen := Nat.le_trans (sufS_le s) hs
  have HE : Hid (Lat.callB s = (Lat.nameB (Lat.preS s).data.toList && (!(Lat.dotAt s).isSome || Lat.nameB (Lat.sufS s).data.toList))) := rfl
  generalize Lat.preS s = pre at *
  generalize Lat.sufS s = suf at *
  generalize (Lat.dotAt s).isSome = dot at *
  go_enter Tryz.func217, Tryz.ntmps217
  go_wp2_with fail
  refine HC.out.mono ?_
  rintro e w1 ⟨rfl, hb1⟩
  have HB := hide hb1
  clear hb1
  go_wp2_with fail
  refine (isName_any _ pre hp1).mono ?_
  rintro e w' ⟨rfl, hw⟩
  subst hw
  cases hb : Lat.nameB pre.data.toList
  · have HB1 := hide hb
    go_wp2
    go_ret
    exact ⟨ret_bool (by rw [HE.out, HB1.out]; rfl), HB.out⟩
  · have HB1 := hide hb
    cases dot
    · go_wp2
      go_ret
      exact ⟨ret_bool (by rw [HE.out, HB1.out]; rfl), HB.out⟩
    · go_wp2_with fail
      refine (isName_any _ suf hp2).mono ?_
      rintro e w' ⟨rfl, hw⟩
      subst hw
      generalize Lat.nameB suf.data.toList = b2 at *
      go_wp2
      go_ret
      exact ⟨ret_bool (by rw [HE.out, HB1.out]; simp), HB.out⟩

end Go.Proofs.YtbncnkfogkhoeaaGreatDoor
