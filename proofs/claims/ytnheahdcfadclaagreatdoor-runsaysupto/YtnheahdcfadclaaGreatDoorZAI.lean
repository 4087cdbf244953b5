/- Walks over package lattice: IsName alone, and what package tree makes of it: areNames, areVars. -/
import Derived.Test.YtnheahdcfadclaaGreatDoorZAB
import Derived.Test.YtnheahdcfadclaaGreatDoorZAA
namespace Go.Proofs.YtnheahdcfadclaaGreatDoor
open Go.RowKit

set_option maxHeartbeats 1000000 in
theorem isName_any (w : World) (s : ByteArray) (hs : s.size ≤ maxLen) :
    Calls Tryz.prog 98 #[.string s] w fun e w' => e = .returned (.bool (Lat.nameB s.data.toList)) ∧ w' = w := by
  unfold maxLen at hs
  by_cases h1 : s.size < 1
  · have HF : Hid (Lat.nameB s.data.toList = false) := by
      show Lat.nameB s.data.toList = false
      unfold Lat.nameB; rw [size_list]; simp; omega
    go_enter Tryz.func98, Tryz.ntmps98
    go_wp2
    go_ret
    exact ⟨ret_bool HF.out.symm, rfl⟩
  · by_cases h8 : 8 < s.size
    · have HF : Hid (Lat.nameB s.data.toList = false) := by
        show Lat.nameB s.data.toList = false
        unfold Lat.nameB; rw [size_list]; simp; omega
      go_enter Tryz.func98, Tryz.ntmps98
      go_wp2
      go_ret
      exact ⟨ret_bool HF.out.symm, rfl⟩
    · have HF : Hid (Lat.nameB s.data.toList = s.data.toList.all Lat.letterB) := by
        show Lat.nameB s.data.toList = _
        unfold Lat.nameB; rw [size_list]
        rw [decide_eq_true (by omega : 1 ≤ s.size), decide_eq_true (by omega : s.size ≤ 8)]; rfl
      go_enter Tryz.func98, Tryz.ntmps98
      go_wp2
      go_loop [14] (fun i => ∃ k : Nat, k ≤ s.size ∧ i = .int .i64 k ∧ ∀ j (hj : j < s.size), j < k → Lat.letterB s[j] = true) (fun i => s.size - (intOf i).toNat)
      case atStart => exact ⟨0, Nat.zero_le _, rfl, fun j hj hd => absurd hd (Nat.not_lt_zero _)⟩
      case round =>
        obtain ⟨k, hk, rfl, hall⟩ := hrel
        have HA : Hid (∀ j (hj : j < s.size), j < k → Lat.letterB s[j] = true) := hall
        clear hall
        by_cases hlt : k < s.size
        · go_wp2
          · go_ret
            exact ⟨ret_bool (by rw [HF.out, letters_not s k hlt (by simp [Lat.letterB]; omega)]), rfl⟩
          · go_round
            case rel => exact ⟨k + 1, by omega, by go_num, fun j hj hd => by
                by_cases e : j = k
                · subst e; simp [Lat.letterB]; omega
                · exact HA.out j hj (by omega)⟩
            case measure => simp [intOf]; omega
          · go_ret
            exact ⟨ret_bool (by rw [HF.out, letters_not s k hlt (by simp [Lat.letterB]; omega)]), rfl⟩
        · go_wp2
          go_ret
          exact ⟨ret_bool (by rw [HF.out, letters_all s (fun j hj => HA.out j hj (by omega))]), rfl⟩

theorem strs_all {p : ByteArray → Bool} {l : List ByteArray} (h : ∀ d, d < l.length → p (l.getD d ByteArray.empty) = true) : l.all p = true := by
  rw [List.all_eq_true]; intro x hx
  obtain ⟨i, hi, rfl⟩ := List.mem_iff_getElem.1 hx
  have := h i hi
  simpa [hi] using this
theorem strs_not {p : ByteArray → Bool} {l : List ByteArray} {d : Nat} (hd : d < l.length) (h : p (l.getD d ByteArray.empty) = false) : l.all p = false := by
  rw [List.all_eq_false]
  exact ⟨l[d], List.getElem_mem hd, by simp [hd] at h; simp [h]⟩

set_option maxHeartbeats 1000000 in
theorem areNames_any (w : World) (v : Value) (ss : List ByteArray) (h : Strs w v ss) :
    Calls Tryz.prog 99 #[v] w fun e w' => e = .returned (.bool (ss.all fun s => Lat.nameB s.data.toList)) ∧ w' = w := by
  obtain ⟨a, b, off, cap, rfl, ha, hl, hs, hc⟩ := h
  obtain ⟨len, hlen⟩ : ∃ len, len = ss.length := ⟨_, rfl⟩
  have HL := hide hlen
  rw [← hlen] at ha hl hc ⊢
  have HA := hide ha
  have HC := hide hc
  have HS : Hid (∀ j, j < len → (ss.getD j ByteArray.empty).size ≤ maxLen) := hide (fun j hj => hs _ (by
    have hj' : j < ss.length := by omega
    rw [show ss.getD j ByteArray.empty = ss[j] by simp [hj']]; exact List.getElem_mem hj'))
  clear ha hc hs hlen
  go_enter Tryz.func99, Tryz.ntmps99
  go_wp2
  go_loop [7] (fun i => ∃ k : Nat, k ≤ len ∧ i = .int .i64 k ∧ ∀ d, d < k → Lat.nameB (ss.getD d ByteArray.empty).data.toList = true) (fun i => len - (intOf i).toNat)
  case atStart => exact ⟨0, Nat.zero_le _, rfl, fun d hd => absurd hd (Nat.not_lt_zero _)⟩
  case round =>
    obtain ⟨k, hk, rfl, hall⟩ := hrel
    have HALL := hide hall
    clear hall
    by_cases hlt : k < len
    · obtain rfl := HA.out (by omega)
      have hck := HC.out k hlt
      have hsk := HS.out k hlt
      obtain ⟨s, hse⟩ : ∃ s, s = ss.getD k ByteArray.empty := ⟨_, rfl⟩
      have HSE := hide hse
      rw [← hse] at hck hsk
      clear hse
      go_wp2_with fail
      refine (isName_any _ s hsk).mono ?_
      rintro e w' ⟨rfl, hw⟩
      subst hw
      cases hb : Lat.nameB s.data.toList
      · have HB := hide hb
        go_wp2
        go_ret
        exact ⟨ret_bool (strs_not (d := k) (by have := HL.out; omega) (by rw [← HSE.out]; exact HB.out)).symm, rfl⟩
      · have HB := hide hb
        go_wp2
        go_round
        case rel => exact ⟨k + 1, by omega, by go_num, fun d hd => by
            by_cases e : d = k
            · subst e; rw [← HSE.out]; exact HB.out
            · exact HALL.out d (by omega)⟩
        case measure => simp [intOf]; omega
    · go_wp2
      go_ret
      exact ⟨ret_bool (strs_all (fun d hd => HALL.out d (by have := HL.out; omega))).symm, rfl⟩

theorem vas_all {p : Va → Bool} {l : List Va} (h : ∀ (i : Nat) (x : Va), l[i]? = some x → p x = true) : l.all p = true := by
  rw [List.all_eq_true]; intro x hx
  obtain ⟨i, hi, rfl⟩ := List.mem_iff_getElem.1 hx
  exact h i _ (List.getElem?_eq_getElem hi)
theorem vas_not {p : Va → Bool} {l : List Va} {i : Nat} {x : Va} (hx : l[i]? = some x) (h : p x = false) : l.all p = false := by
  rw [List.all_eq_false]
  exact ⟨x, List.mem_of_getElem? hx, by simp [h]⟩

set_option maxHeartbeats 1000000 in
theorem areVars_any (w : World) (v : Value) (vs : List Va) (h : VasAt w v vs) :
    Calls Tryz.prog 100 #[v] w fun e w' => e = .returned (.bool (vs.all fun s => Lat.nameB s.name.data.toList && Lat.nameB s.level.data.toList)) ∧ Below w.heap.size w w' := by
  obtain ⟨a, b, off, cap, rfl, ha, hl, hc⟩ := h
  obtain ⟨len, hlen⟩ : ∃ len, len = vs.length := ⟨_, rfl⟩
  have HL := hide hlen
  rw [← hlen] at ha hl ⊢
  have HA := hide ha
  have HC := hide hc
  clear ha hc hlen
  go_enter Tryz.func100, Tryz.ntmps100
  go_wp2
  go_loopw [7] (fun i wr => ∃ k : Nat, k ≤ len ∧ i = .int .i64 k ∧ (∀ d y, d < k → vs[d]? = some y → (Lat.nameB y.name.data.toList && Lat.nameB y.level.data.toList) = true) ∧ Below w.heap.size w wr) (fun i _ => len - (intOf i).toNat)
  case atStart => exact ⟨0, Nat.zero_le _, rfl, fun d y hd => absurd hd (Nat.not_lt_zero _), Below.refl _ _⟩
  case round =>
    obtain ⟨k, hk, rfl, hall, hnx⟩ := hrel
    have HALL := hide hall
    clear hall
    by_cases hlt : k < len
    · obtain rfl := HA.out (by omega)
      obtain ⟨y, hy⟩ : ∃ y, vs[k]? = some y := ⟨_, List.getElem?_eq_getElem (by rw [← HL.out]; exact hlt)⟩
      obtain ⟨k1, k2, g0, g1⟩ := HC.out k y hy
      have HY := hide hy
      have u0 := cellUp g0 hnx
      have u1 := cellUp g1 hnx
      have HNX := hide (hnx.trans ((boxBelow wr (.cells #[.string y.name, .string y.level] 94)).mono hnx.size))
      clear g0 g1 hy hnx
      go_wp2_with fail
      refine (isName_any _ y.name k1).mono ?_
      rintro e w' ⟨rfl, hw⟩
      subst hw
      cases hb : Lat.nameB y.name.data.toList
      · have HB := hide hb
        go_wp2
        go_ret
        exact ⟨ret_bool (vas_not HY.out (by rw [HB.out]; rfl)).symm, HNX.out⟩
      · have HB := hide hb
        go_wp2_with fail
        refine (isName_any _ y.level k2).mono ?_
        rintro e w' ⟨rfl, hw⟩
        subst hw
        cases hb2 : Lat.nameB y.level.data.toList
        · have HB2 := hide hb2
          go_wp2
          go_ret
          exact ⟨ret_bool (vas_not HY.out (by rw [HB.out, HB2.out]; rfl)).symm, HNX.out⟩
        · have HB2 := hide hb2
          go_wp2
          go_roundw
          case rel => exact ⟨k + 1, by omega, by go_num, fun d z hd hz => by
              by_cases e : d = k
              · subst e
                rw [HY.out] at hz
                cases hz
                rw [HB.out, HB2.out]; rfl
              · exact HALL.out d z (by omega) hz, HNX.out⟩
          case measure => simp [intOf]; omega
    · go_wp2
      go_ret
      exact ⟨ret_bool (vas_all (fun d z hz => HALL.out d z (by
        have := (List.getElem?_eq_some_iff.1 hz).1
        have := HL.out
        omega) hz)).symm, hnx⟩

end Go.Proofs.YtnheahdcfadclaaGreatDoor
