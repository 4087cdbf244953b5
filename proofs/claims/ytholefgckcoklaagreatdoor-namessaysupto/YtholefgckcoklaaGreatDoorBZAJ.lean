/- Walks over package tree: isOperator, isCallee (and strings.Cut at one byte), hasParts. -/
import Derived.Test.YtholefgckcoklaaGreatDoorBZAI
import Derived.Test.YtholefgckcoklaaGreatDoorBZAG
import Derived.Test.YtholefgckcoklaaGreatDoorBShelf
import Derived.Lib.IndexLaws
import Derived.Test.YtholefgckcoklaaGreatDoorBZAH
import Derived.Maps.OwnSet
import Derived.Deep.LoopGhost
import Derived.Deep.OwnRows
import Derived.Deep.Light
import Derived.CellFam
import Derived.BigGuard
namespace Go.Proofs.YtholefgckcoklaaGreatDoor
open Go.RowKit
theorem op_size {s : ByteArray} (h : ¬ s.size = 1) : Lat.opB s = false := by
  unfold Lat.opB
  have : Lat.indexI Lat.opS s = -1 := by
    unfold Lat.indexI
    rw [Lat.find_none (p := Lat.isAt Lat.opS s) (fun c hc => ?_)]
    have hc' : c < 5 := hc
    unfold Lat.isAt
    rw [beq_eq_false_iff_ne]
    intro e
    rw [ByteArray.toList_eq, ByteArray.toList_eq] at e
    have e2 := congrArg List.length e
    rw [size_list, size_list] at e2
    apply h
    rw [e2]
    obtain rfl | rfl | rfl | rfl | rfl : c = 0 ∨ c = 1 ∨ c = 2 ∨ c = 3 ∨ c = 4 := by omega
    all_goals rfl
  rw [this]; rfl
theorem op_table : ∀ c : Fin 256, decide (0 ≤ Lib.indexByte [43, 45, 42, 60, 61] (UInt8.ofFin c)) = Lat.opB ⟨#[UInt8.ofFin c]⟩ := by
  decide +kernel
theorem op_one (c : UInt8) : decide (0 ≤ Lib.indexByte [43, 45, 42, 60, 61] c) = Lat.opB ⟨#[c]⟩ := op_table c.toFin
theorem one_byte {s : ByteArray} (h : s.size = 1) : ∃ c, s = ⟨#[c]⟩ := by
  obtain ⟨⟨l⟩⟩ := s
  match l, h with
  | [c], _ => exact ⟨c, rfl⟩
theorem isOperator_any (w : World) (s : ByteArray) (hs : s.size ≤ maxLen) :
    Calls Tryz.prog 297 #[.string s] w fun e w' => e = .returned (.bool (Lat.opB s)) ∧ w' = w := by
  unfold maxLen at hs
  by_cases h1 : s.size = 1
  · obtain ⟨c, rfl⟩ := one_byte h1
    clear h1
    have h1' : (((⟨#[c]⟩ : ByteArray).size : Int) == 1) = true := rfl
    have HO := hide (op_one c)
    go_enter Tryz.func297, Tryz.ntmps297
    go_wp2_with fail
    refine (Tryz.strings_Contains_one _ c _).mono ?_
    rintro e w' ⟨rfl, hw⟩
    subst hw
    rw [show decide (0 ≤ Lib.indexByte (⟨#[43, 45, 42, 60, 61]⟩ : ByteArray).data.toList c) = Lat.opB ⟨#[c]⟩ from HO.out]
    go_wp2
    go_ret
    exact ⟨rfl, rfl⟩
  · have h1' : ((s.size : Int) == 1) = false := by simp; omega
    have HO := hide (op_size h1)
    clear h1
    go_enter Tryz.func297, Tryz.ntmps297
    go_wp2
    go_ret
    exact ⟨ret_bool HO.out.symm, rfl⟩
theorem dot_index (s : ByteArray) : Lib.indexByte s.data.toList 46 = match Lat.dotAt s with | some i => (i : Int) | none => -1 := by
  have hge := Lib.indexByte_ge s.data.toList 46
  by_cases h : Lib.indexByte s.data.toList 46 = -1
  · have hn := Lib.indexByte_none h
    have : Lat.dotAt s = none := Lat.find_none (fun d hd => by
      have hd' : d < s.data.toList.length := hd
      have h' := hn d
      rw [List.getD, List.getElem?_eq_getElem hd']
      rw [List.getElem?_eq_getElem hd'] at h'
      simpa using h')
    rw [h, this]
  · obtain ⟨o, ho⟩ : ∃ o : Nat, Lib.indexByte s.data.toList 46 = o := ⟨(Lib.indexByte s.data.toList 46).toNat, by omega⟩
    obtain ⟨h1, h2⟩ := Lib.indexByte_some ho
    have ho' : o < s.size := (List.getElem?_eq_some_iff.1 h1).1
    have : Lat.dotAt s = some o := Lat.find_hit ho' (fun c hc => by
      have hc' : c < s.data.toList.length := Nat.lt_trans hc ho'
      have h' := h2 c hc
      rw [List.getD, List.getElem?_eq_getElem hc']
      rw [List.getElem?_eq_getElem hc'] at h'
      simpa using h') (by rw [List.getD, h1]; rfl)
    rw [ho, this]
theorem dotAt_lt {s : ByteArray} {k : Nat} (h : Lat.dotAt s = some k) : k < s.size := (Lat.find_spec h).1
set_option maxHeartbeats 1000000 in
theorem lcut_any (w : World) (s : ByteArray) (hs : s.size ≤ maxLen) :
    Calls Tryz.prog 198 #[.string s, .string ⟨#[46]⟩] w fun e w' => e = .returned (.tuple #[.string (Lat.preS s), .string (Lat.sufS s), .bool (Lat.dotAt s).isSome]) ∧ Below w.heap.size w w' := by
  unfold maxLen at hs
  have HI := hide (dot_index s)
  cases hd : Lat.dotAt s
  · rw [hd] at HI
    have HD := hide hd
    clear hd
    go_enter Tryz.func198, Tryz.ntmps198
    go_wp2_with fail
    refine (Tryz.stringslite_Index_one s 46 _).mono ?_
    rintro e w' ⟨rfl, hw⟩
    subst hw
    rw [HI.out]
    go_wp2
    go_ret3
    exact ⟨by simp [Lat.preS, Lat.sufS, HD.out], Below.refl _ _⟩
  · rename_i k
    rw [hd] at HI
    have hk := dotAt_lt hd
    have HD := hide hd
    have b1 : (0 : Int) ≤ (k : Int) := by omega
    have b2 : (k : Int) ≤ (s.size : Int) := by omega
    have b3 : (k : Int) + 1 ≤ (s.size : Int) := by omega
    clear hd
    go_enter Tryz.func198, Tryz.ntmps198
    go_wp2_with fail
    refine (Tryz.stringslite_Index_one s 46 _).mono ?_
    rintro e w' ⟨rfl, hw⟩
    subst hw
    rw [HI.out]
    go_wp2_with fail
    go_quiet (fail)
    go_wp2
    go_ret3
    exact ⟨by simp [Lat.preS, Lat.sufS, HD.out], drewBelow (Below.refl _ _) _⟩
theorem cut_any (w : World) (s : ByteArray) (hs : s.size ≤ maxLen) :
    Calls Tryz.prog 139 #[.string s, .string ⟨#[46]⟩] w fun e w' => e = .returned (.tuple #[.string (Lat.preS s), .string (Lat.sufS s), .bool (Lat.dotAt s).isSome]) ∧ Below w.heap.size w w' := by
  have HC := hide (lcut_any w s hs)
  generalize Lat.preS s = pre at *
  generalize Lat.sufS s = suf at *
  generalize (Lat.dotAt s).isSome = dot at *
  go_enter Tryz.func139, Tryz.ntmps139
  go_wp2_with fail
  refine HC.out.mono ?_
  rintro e w1 ⟨rfl, hb1⟩
  have HB := hide hb1
  clear hb1
  go_wp2
  go_ret3
  exact ⟨rfl, HB.out⟩
theorem isCallee_any (w : World) (s : ByteArray) (hs : s.size ≤ maxLen) :
    Calls Tryz.prog 298 #[.string s] w fun e w' => e = .returned (.bool (Lat.callB s)) ∧ Below w.heap.size w w' := by
  have HC := hide (cut_any w s hs)
  have hp1 : (Lat.preS s).size ≤ maxLen := Nat.le_trans (preS_le s) hs
  have hp2 : (Lat.sufS s).size ≤ maxLen := Nat.le_trans (sufS_le s) hs
  have HE : Hid (Lat.callB s = (Lat.nameB (Lat.preS s).data.toList && (!(Lat.dotAt s).isSome || Lat.nameB (Lat.sufS s).data.toList))) := rfl
  generalize Lat.preS s = pre at *
  generalize Lat.sufS s = suf at *
  generalize (Lat.dotAt s).isSome = dot at *
  go_enter Tryz.func298, Tryz.ntmps298
  go_wp2_with fail
  refine HC.out.mono ?_
  rintro e w1 ⟨rfl, hb1⟩
  have HB := hide hb1
  clear hb1
  go_wp2_with fail
  refine (isName_any _ pre hp1).mono ?_
  rintro e w' ⟨rfl, hw⟩
  subst hw
  cases hb : Lat.nameB pre.data.toList
  · have HB1 := hide hb
    go_wp2
    go_ret
    exact ⟨ret_bool (by rw [HE.out, HB1.out]; rfl), HB.out⟩
  · have HB1 := hide hb
    cases dot
    · go_wp2
      go_ret
      exact ⟨ret_bool (by rw [HE.out, HB1.out]; rfl), HB.out⟩
    · go_wp2_with fail
      refine (isName_any _ suf hp2).mono ?_
      rintro e w' ⟨rfl, hw⟩
      subst hw
      generalize Lat.nameB suf.data.toList = b2 at *
      go_wp2
      go_ret
      exact ⟨ret_bool (by rw [HE.out, HB1.out]; simp), HB.out⟩
end Go.Proofs.YtholefgckcoklaaGreatDoor
namespace Go.Proofs.YtholefgckcoklaaGreatDoor
open Go.RowKit
namespace Lat
def squareP (L : Nat → Nat) (n r : Nat) : Bool := L r == n
def squareB (G : Nat) (L : Nat → Nat) (n : Nat) : Bool := G == n && (List.range G).all (squareP L n)
end Lat
set_option maxHeartbeats 1000000 in
theorem isSquare_any (w : World) (v : Value) (G n : Nat) (L : Nat → Nat) (Z : Nat → Nat → Bool) (hR : Rag w v G L Z) (hn : n ≤ 6) :
    Calls Tryz.prog 187 #[v, .int .i64 n] w fun e w' => e = .returned (.bool (Lat.squareB G L n)) ∧ w' = w := by
  obtain ⟨ga, gb, go, gc, A, RB, RO, C, rfl, hg, hGm, hLm, h1, h2⟩ := hR
  clear h2
  by_cases hGn : G = n
  · subst hGn
    have HF : Hid (Lat.squareB G L G = (List.range G).all (Lat.squareP L G)) := by
      show Lat.squareB G L G = _
      unfold Lat.squareB; simp
    go_enter Tryz.func187, Tryz.ntmps187
    go_wp2
    go_loop [13] (fun i => ∃ k : Nat, k ≤ G ∧ i = .int .i64 k ∧ ∀ d, d < k → Lat.squareP L G d = true) (fun i => G - (intOf i).toNat)
    case atStart => exact ⟨0, Nat.zero_le _, rfl, fun d hd => absurd hd (Nat.not_lt_zero _)⟩
    case round =>
      obtain ⟨k, hk, rfl, hall⟩ := hrel
      have HA : Hid (∀ d, d < k → Lat.squareP L G d = true) := hall
      clear hall
      by_cases hlt : k < G
      · obtain rfl := hg (by omega)
        have ra := h1 k hlt
        have rl := hLm k hlt
        by_cases hs : L k = G
        · have hs' : ((L k : Int) != (G : Int)) = false := by rw [nat_bne]; simp [hs]
          have HS : Hid (L k = G) := hs
          clear hs
          go_wp2
          go_round
          case rel => exact ⟨k + 1, by omega, by go_num, fun d hd => by
              by_cases e : d = k
              · subst e; simp [Lat.squareP, HS.out]
              · exact HA.out d (by omega)⟩
          case measure => simp [intOf]; omega
        · have hs' : ((L k : Int) != (G : Int)) = true := by rw [nat_bne]; simp [hs]
          have HS : Hid (¬ L k = G) := hs
          clear hs
          go_wp2
          go_ret
          exact ⟨ret_bool (by rw [HF.out]; exact (Lat.all_false hlt (by simp [Lat.squareP, HS.out])).symm), rfl⟩
      · go_wp2
        go_ret
        exact ⟨ret_bool (by rw [HF.out]; exact (Lat.all_true (fun d hd => HA.out d (by omega))).symm), rfl⟩
  · have hs' : ((G : Int) != (n : Int)) = true := by rw [nat_bne]; simp [hGn]
    have HS : Hid (¬ G = n) := hGn
    clear hGn
    go_enter Tryz.func187, Tryz.ntmps187
    go_wp2
    go_ret
    exact ⟨ret_bool (by simp [Lat.squareB, HS.out]), rfl⟩
set_option maxHeartbeats 1000000 in
theorem lisName_any (w : World) (s : ByteArray) (hs : s.size ≤ maxLen) :
    Calls Tryz.prog 105 #[.string s] w fun e w' => e = .returned (.bool (Lat.nameB s.data.toList)) ∧ w' = w := by
  unfold maxLen at hs
  by_cases h1 : s.size < 1
  · have HF : Hid (Lat.nameB s.data.toList = false) := by
      show Lat.nameB s.data.toList = false
      unfold Lat.nameB; rw [size_list]; simp; omega
    go_enter Tryz.func105, Tryz.ntmps105
    go_wp2
    go_ret
    exact ⟨ret_bool HF.out.symm, rfl⟩
  · by_cases h8 : 8 < s.size
    · have HF : Hid (Lat.nameB s.data.toList = false) := by
        show Lat.nameB s.data.toList = false
        unfold Lat.nameB; rw [size_list]; simp; omega
      go_enter Tryz.func105, Tryz.ntmps105
      go_wp2
      go_ret
      exact ⟨ret_bool HF.out.symm, rfl⟩
    · have HF : Hid (Lat.nameB s.data.toList = s.data.toList.all Lat.letterB) := by
        show Lat.nameB s.data.toList = _
        unfold Lat.nameB; rw [size_list]
        rw [decide_eq_true (by omega : 1 ≤ s.size), decide_eq_true (by omega : s.size ≤ 8)]; rfl
      go_enter Tryz.func105, Tryz.ntmps105
      go_wp2
      go_loop [14] (fun i => ∃ k : Nat, k ≤ s.size ∧ i = .int .i64 k ∧ ∀ j (hj : j < s.size), j < k → Lat.letterB s[j] = true) (fun i => s.size - (intOf i).toNat)
      case atStart => exact ⟨0, Nat.zero_le _, rfl, fun j hj hd => absurd hd (Nat.not_lt_zero _)⟩
      case round =>
        obtain ⟨k, hk, rfl, hall⟩ := hrel
        have HA : Hid (∀ j (hj : j < s.size), j < k → Lat.letterB s[j] = true) := hall
        clear hall
        by_cases hlt : k < s.size
        · go_wp2
          · go_ret
            exact ⟨ret_bool (by rw [HF.out, letters_not s k hlt (by simp [Lat.letterB]; omega)]), rfl⟩
          · go_round
            case rel => exact ⟨k + 1, by omega, by go_num, fun j hj hd => by
                by_cases e : j = k
                · subst e; simp [Lat.letterB]; omega
                · exact HA.out j hj (by omega)⟩
            case measure => simp [intOf]; omega
          · go_ret
            exact ⟨ret_bool (by rw [HF.out, letters_not s k hlt (by simp [Lat.letterB]; omega)]), rfl⟩
        · go_wp2
          go_ret
          exact ⟨ret_bool (by rw [HF.out, letters_all s (fun j hj => HA.out j hj (by omega))]), rfl⟩
end Go.Proofs.YtholefgckcoklaaGreatDoor
namespace Go.Proofs.YtholefgckcoklaaGreatDoor
open Go.RowKit Go.Maps Go.WideMaps
namespace Lat
def namesR (ss : List ByteArray) (k : Nat) : Bool := !((ss.take k).any fun t => t.data.toList == (ss.getD k ByteArray.empty).data.toList) && nameB (ss.getD k ByteArray.empty).data.toList
def namesB (ss : List ByteArray) : Bool := (List.range ss.length).all (namesR ss) && decide (0 < ss.length)
end Lat
theorem lawS : Keyed Tryz.prog 9 := string_keyed Tryz.underlying9
theorem zeroI (w : World) : (zeroValue 3).run Tryz.prog w = .ok (.int .i64 0) w := by kernel_rfl
theorem any_take (ss : List ByteArray) (k : Nat) (hk : k < ss.length) (p : ByteArray → Bool) : (ss.take (k + 1)).any p = ((ss.take k).any p || p (ss.getD k ByteArray.empty)) := by
  rw [List.take_succ_eq_append_getElem hk, List.any_append]
  simp [List.getD, List.getElem?_eq_getElem hk]
theorem has_next {ss : List ByteArray} {k : Nat} (hk : k < ss.length) {D : DataW Unit} (hm : IsMap D) (h : ∀ l, Maps.has D (.string l) = (ss.take k).any fun t => t.data.toList == l) (d : DataW Unit) :
    ∀ l, Maps.has (D.put (.string (ss.getD k ByteArray.empty).data.toList) d) (.string l) = (ss.take (k + 1)).any fun t => t.data.toList == l := by
  intro l
  rw [any_take ss k hk]
  by_cases e : l = (ss.getD k ByteArray.empty).data.toList
  · subst e
    rw [has_put_same hm (by simp [WideAt.IsKeyLit])]
    simp
  · rw [has_put_other (by intro h'; exact e (by injection h')), h l]
    have e' : ((ss.getD k ByteArray.empty).data.toList == l) = false := beq_eq_false_iff_ne.2 (fun h' => e h'.symm)
    rw [e', Bool.or_false]
theorem size_getD {ss : List ByteArray} (h : ∀ s ∈ ss, s.size ≤ maxLen) (k : Nat) : (ss.getD k ByteArray.empty).size ≤ maxLen := by
  by_cases hk : k < ss.length
  · rw [List.getD, List.getElem?_eq_getElem hk]; exact h _ (List.getElem_mem hk)
  · rw [List.getD, List.getElem?_eq_none (by omega)]; exact Nat.zero_le _
set_option maxHeartbeats 1000000 in
set_option maxRecDepth 100000 in
theorem lareNames_any (w : World) (v : Value) (ss : List ByteArray) (hS : Strs w v ss) :
    Calls Tryz.prog 186 #[v] w fun e w' => e = .returned (.bool (Lat.namesB ss)) ∧ Below w.heap.size w w' := by
  obtain ⟨a, b, off, cap, rfl, ha, hl, hs, h1⟩ := hS
  obtain ⟨len, hlen⟩ : ∃ len, len = ss.length := ⟨_, rfl⟩
  rw [← hlen] at ha hl h1 ⊢
  have HL : Hid (len = ss.length) := hlen
  clear hlen
  have hmm := @run_makeMap Tryz.prog
  go_enter Tryz.func186, Tryz.ntmps186
  go_wp2
  go_loopw [11] (fun i wr => ∃ k : Nat, k ≤ len ∧ i = .int .i64 k ∧ (∀ d, d < k → Lat.namesR ss d = true) ∧ Below w.heap.size w wr ∧
      ∃ D : DataW Unit, wr.ownsMap Tryz.prog 9 (plainElem Tryz.prog 3) w.heap.size k D ∧ ∀ l, Maps.has D (.string l) = (ss.take k).any fun t => t.data.toList == l)
    (fun i _ => len - (intOf i).toNat)
  case atStart => exact ⟨0, Nat.zero_le _, rfl, fun d hd => absurd hd (Nat.not_lt_zero _), (Below.refl _ _).alloc (Nat.le_refl _) _, .map [], World.ownsMap_made _ _ _ _, fun l => rfl⟩
  case round =>
    obtain ⟨k, hk, rfl, hall, hnx, D, hown, hhas⟩ := hrel
    have HA : Hid (∀ d, d < k → Lat.namesR ss d = true) := hall
    have HH : Hid (∀ l, Maps.has D (.string l) = (ss.take k).any fun t => t.data.toList == l) := hhas
    clear hall hhas hmm
    by_cases hlt : k < len
    · obtain rfl := ha (by omega)
      obtain ⟨s, hsk⟩ : ∃ s, s = ss.getD k ByteArray.empty := ⟨_, rfl⟩
      have hcx : wr.cell? ⟨b, off + k, none⟩ = some (.string s) := by
        rw [hsk]; rw [hnx.cell (World.block_lt_of_cell? _ _ (h1 k hlt))]; exact h1 k hlt
      have hsz : s.size ≤ maxLen := by rw [hsk]; exact size_getD hs k
      have hkey : keyOf Tryz.prog 9 (.string s) = some (.string s.data.toList) := keyOf_string_mk Tryz.underlying9 hsz
      have HK : Hid (s = ss.getD k ByteArray.empty) := hsk
      have hbad : Maps.has D (.string s.data.toList) = true ∨ Lat.nameB s.data.toList = false → Lat.namesB ss = false := by
        intro h
        have : Lat.namesR ss k = false := by
          unfold Lat.namesR
          rw [← HK.out, ← HH.out]
          rcases h with h | h <;> simp [h]
        unfold Lat.namesB
        rw [Lat.all_false (by rw [← HL.out]; exact hlt) this]; rfl
      have HB := hide hbad
      clear hsk h1 hs hbad
      cases hh : Maps.has D (.string s.data.toList)
      · cases hnm : Lat.nameB s.data.toList
        · go_wp2_with (first
            | (at_lookup; refine wpList_lookup_own_ok_int _ rfl _ _ 232 rfl 9 3 .i64 lawS Tryz.underlying232 Tryz.underlying3 (zeroI _) w.heap.size k D rfl hown _ _ rfl hkey ?_; intro c _ _)
            | (go_at_call 105; refine (lisName_any _ s hsz).mono ?_; rintro e w' ⟨rfl, rfl⟩)
            | go_in)
          go_ret
          exact ⟨ret_bool ((unhide HB) (Or.inr hnm)).symm, hnx⟩
        · go_wp2_with (first
            | (at_lookup; refine wpList_lookup_own_ok_int _ rfl _ _ 232 rfl 9 3 .i64 lawS Tryz.underlying232 Tryz.underlying3 (zeroI _) w.heap.size k D rfl hown _ _ rfl hkey ?_; intro c _ _)
            | (go_at_call 105; refine (lisName_any _ s hsz).mono ?_; rintro e w' ⟨rfl, rfl⟩)
            | (at_mapUpdate; refine wpList_mapUpdate_own _ rfl _ _ _ 232 rfl 9 3 lawS Tryz.underlying232 _ w.heap.size k _ rfl hown (by unfold maxLen; omega) _ _ _ rfl rfl hkey _ [] (plainElem_int Tryz.underlying3 (WalkArith.wf_i64 (by omega))) ?_)
            | go_in)
          intro w1 hown1 hgrow1
          have R2 := hnx.grown hgrow1 hnx.size (fun j hj => by cases hj; exact Nat.le_refl _)
          have hn1 : Lat.namesR ss k = true := by
            unfold Lat.namesR
            rw [← HK.out, ← HH.out, hh, hnm]; rfl
          have hn2 := has_next (k := k) (by rw [← HL.out]; exact hlt) hown.isMap HH.out (.lit (.int .i64 k))
          rw [← HK.out] at hn2
          have H2 := hide hn2
          have H1 := hide hn1
          clear hgrow1 hown hcx hn1 hn2 hh
          go_wp2
          go_roundw
          case rel => exact ⟨k + 1, by omega, by go_num, fun d hd => by
              by_cases e : d = k
              · subst e; exact unhide H1
              · exact HA.out d (by omega), R2, _, hown1, unhide H2⟩
          case measure => simp [intOf]; omega
      · go_wp2_with (first
            | (at_lookup; refine wpList_lookup_own_ok_int _ rfl _ _ 232 rfl 9 3 .i64 lawS Tryz.underlying232 Tryz.underlying3 (zeroI _) w.heap.size k D rfl hown _ _ rfl hkey ?_; intro c _ _)
            | go_in)
        go_ret
        exact ⟨ret_bool ((unhide HB) (Or.inl hh)).symm, hnx⟩
    · go_wp2
      go_ret
      refine ⟨ret_bool ?_, hnx⟩
      unfold Lat.namesB
      rw [Lat.all_true (fun d hd => HA.out d (by have := HL.out; omega)), ← HL.out]
      simp
end Go.Proofs.YtholefgckcoklaaGreatDoor
namespace Go.Proofs.YtholefgckcoklaaGreatDoor
open Go.RowKit
theorem infoBool : (Tryz.prog.info? 4).map (fun i => (i.zero, i.size, i.bytes)) = some (some (.bool false), 1, 1) := by kernel_rfl
theorem infoRow : (Tryz.prog.info? 175).map (fun i => (i.zero, i.size, i.bytes)) = some (some (.slice none 0 0), 1, 24) := by kernel_rfl
def top (N n : Nat) (r : Nat) : Nat → Value := fun j => if j < r then .slice (some ⟨N + 1 + j, 0, none⟩) n n else .slice none 0 0
structure Outer (w wr : World) (n r : Nat) (Z : Nat → Nat → Bool) : Prop where
  since : Below w.heap.size w wr
  size : wr.heap.size = w.heap.size + 1 + r
  top : wr.rowIs w.heap.size 175 n (top w.heap.size n r)
  done : ∀ j, j < r → wr.rowIs (w.heap.size + 1 + j) 4 n (fun c => .bool (Z j c))
structure Inner (w wi : World) (n r c : Nat) (Z : Nat → Nat → Bool) : Prop where
  since : Below w.heap.size w wi
  size : wi.heap.size = w.heap.size + 1 + r + 1
  top : wi.rowIs w.heap.size 175 n (top w.heap.size n (r + 1))
  done : ∀ j, j < r → wi.rowIs (w.heap.size + 1 + j) 4 n (fun c => .bool (Z j c))
  cur : wi.rowIs (w.heap.size + 1 + r) 4 n (fun i => if i < c then .bool (Z r i) else .bool false)
theorem outer_start (w : World) (n : Nat) (Z : Nat → Nat → Bool) : Outer w (w.alloc (.cells (madeCells #[.slice none 0 0] n) 175)) n 0 Z :=
  ⟨(Below.refl _ _).alloc (Nat.le_refl _) _, by simp, (World.rowIs_made w _ n 175).congr (fun j _ => by simp [top]), fun j hj => absurd hj (Nat.not_lt_zero _)⟩
theorem inner_start {w wr : World} {n r : Nat} {Z : Nat → Nat → Bool} (h : Outer w wr n r Z) :
    Inner w ((wr.alloc (.cells (madeCells #[.bool false] n) 4)).setCell ⟨w.heap.size, r, none⟩ (.slice (some ⟨w.heap.size + 1 + r, 0, none⟩) n n)) n r 0 Z := by
  have hnew := World.rowIs_made wr (.bool false) n 4
  rw [h.size] at hnew
  refine ⟨(h.since.alloc (by rw [h.size]; omega) _).setCell (Nat.le_refl _) _, by simp [h.size], ((h.top.alloc _).set r _).congr (fun j _ => ?_), fun j hj => ((h.done j hj).alloc _).setOther (by show w.heap.size + 1 + j ≠ w.heap.size; omega) _,
    (hnew.setOther (by show w.heap.size + 1 + r ≠ w.heap.size; omega) _).congr (fun i _ => by simp)⟩
  simp only [top]
  by_cases e : j = r
  · subst e; simp
  · rw [if_neg e]
    by_cases hlt : j < r
    · rw [if_pos hlt, if_pos (by omega)]
    · rw [if_neg hlt, if_neg (by omega)]
theorem inner_step {w wi : World} {n r c : Nat} {Z : Nat → Nat → Bool} (h : Inner w wi n r c Z) {b : Bool} (hb : b = Z r c) :
    Inner w (wi.setCell ⟨w.heap.size + 1 + r, c, none⟩ (.bool b)).drew n r (c + 1) Z := by
  subst hb
  refine ⟨(h.since.setCell (by show w.heap.size ≤ w.heap.size + 1 + r; omega) _).drew, by simp [h.size], (h.top.setOther (by show w.heap.size ≠ w.heap.size + 1 + r; omega) _).drew,
    fun j hj => ((h.done j hj).setOther (by show w.heap.size + 1 + j ≠ w.heap.size + 1 + r; omega) _).drew, ((h.cur.set c _).congr (fun i _ => ?_)).drew⟩
  by_cases e : i = c
  · subst e; simp
  · rw [if_neg e]
    by_cases hlt : i < c
    · rw [if_pos hlt, if_pos (by omega)]
    · rw [if_neg hlt, if_neg (by omega)]
theorem inner_done {w wi : World} {n r : Nat} {Z : Nat → Nat → Bool} (h : Inner w wi n r n Z) : Outer w wi n (r + 1) Z :=
  ⟨h.since, by rw [h.size]; omega, h.top, fun j hj => by
    by_cases e : j = r
    · subst e
      exact h.cur.congr (fun i hi => by rw [if_pos hi])
    · exact h.done j (by omega)⟩
theorem outer_grid {w w' : World} {n : Nat} {Z : Nat → Nat → Bool} (h : Outer w w' n n Z) : Grid w' (.slice (some ⟨w.heap.size, 0, none⟩) n n) n Z :=
  ⟨w.heap.size, 0, n, fun j => w.heap.size + 1 + j, fun _ => 0, fun _ => n, rfl,
    fun r hr => by rw [Nat.zero_add, h.top.cell hr]; simp [top, hr],
    fun r c hr hc => by rw [Nat.zero_add]; exact (h.done r hr).cell hc⟩
set_option maxHeartbeats 2000000 in
set_option maxRecDepth 1000000 in
theorem turned_any (w : World) (v : Value) (n : Nat) (Z : Nat → Nat → Bool) (hG : Grid w v n Z) (hn : n ≤ 6) :
    Calls Tryz.prog 190 #[v] w fun e w' => ∃ v', e = .returned v' ∧ Grid w' v' n (Lat.tr Z) ∧ Below w.heap.size w w' := by
  obtain ⟨gb, go, gc, RB, RO, C, rfl, hrow, hcell⟩ := hG
  have hmk22 := run_make_row' (P := Tryz.prog) 32 175 (.slice none 0 0) 24 Tryz.underlying32 infoRow rfl .i64 .i64 n (by omega) (by omega)
  go_enter Tryz.func190, Tryz.ntmps190
  go_wp2
  clear hmk22
  go_loopg [11] n (fun g i wr => ∃ r : Nat, r ≤ n ∧ g = n - r ∧ i = .int .i64 r ∧ Outer w wr n r (Lat.tr Z))
  case atStart => exact ⟨0, Nat.zero_le _, rfl, rfl, outer_start w n _⟩
  case round =>
    obtain ⟨r, hr, rfl, rfl, hO⟩ := hrel
    by_cases hrG : r < n
    · have hrz : (r : Int) < (n : Int) := by omega
      have hsize := hO.size
      have hmk23 := run_make_row' (P := Tryz.prog) 175 4 (.bool false) 1 Tryz.underlying175 infoBool rfl .i64 .i64 n (by omega) (by omega)
      have hst1 : ∀ o, (wr.alloc o).cell? ⟨w.heap.size, r, none⟩ = some (top w.heap.size n r r) := fun o => (hO.top.alloc o).cell hrG
      have hst2 : ∀ o, (wr.alloc o).frozen? ⟨w.heap.size, r, none⟩ = false := fun o => (hO.top.alloc o).frozen r
      go_wp2
      have hI0 := inner_start hO
      clear hmk23 hst1 hst2 hsize hO
      go_loopg [25] n (fun g i wi => ∃ c : Nat, c ≤ n ∧ g = n - c ∧ i = .int .i64 c ∧ Inner w wi n r c (Lat.tr Z))
      case atStart => exact ⟨0, Nat.zero_le _, rfl, rfl, hI0⟩
      case round =>
        obtain ⟨c, hc, rfl, rfl, hI⟩ := hrel
        clear hI0
        by_cases hcL : c < n
        · have hcz : (c : Int) < (n : Int) := by omega
          have t1 : wr.cell? ⟨w.heap.size, r, none⟩ = some (.slice (some ⟨w.heap.size + 1 + r, 0, none⟩) n n) := by simpa [top] using hI.top.cell hrG
          have t2 : wr.cell? ⟨gb, go + c, none⟩ = some (.slice (some ⟨RB c, RO c, none⟩) n (C c)) := by
            rw [hI.since.cell (World.block_lt_of_cell? _ _ (hrow c hcL))]; exact hrow c hcL
          have t3 : wr.cell? ⟨RB c, RO c + r, none⟩ = some (.bool (Z c r)) := by
            rw [hI.since.cell (World.block_lt_of_cell? _ _ (hcell c r hcL hrG))]; exact hcell c r hcL hrG
          have t4 : wr.cell? ⟨w.heap.size + 1 + r, c, none⟩ = some (.bool false) := by simpa using hI.cur.cell hcL
          have t5 : wr.frozen? ⟨w.heap.size + 1 + r, c, none⟩ = false := hI.cur.frozen c
          clear hrow hcell
          go_wp2_with fail
          go_big_region
          go_wp2
          go_roundg (n - (c + 1))
          case measure => go_light; omega
          case rel => go_light; exact ⟨c + 1, by omega, rfl, by simp, inner_step hI rfl⟩
        · obtain rfl : c = n := by omega
          have hcz : ¬ ((c : Int) < (c : Int)) := by omega
          go_wp2
          go_roundg (c - (r + 1))
          case measure => go_light; omega
          case rel => go_light; exact ⟨r + 1, by omega, rfl, by simp, inner_done hI⟩
    · have hrz : ¬ ((r : Int) < (n : Int)) := by omega
      go_wp2
      go_ret
      obtain rfl : r = n := by omega
      exact ⟨_, rfl, outer_grid hO, hO.since⟩
end Go.Proofs.YtholefgckcoklaaGreatDoor
