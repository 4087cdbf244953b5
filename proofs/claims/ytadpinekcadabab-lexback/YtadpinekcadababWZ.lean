/- LexBack: whatever is handed in, the call returns true, and the argument reads afterwards as it read before: words, with a blank between, are the same words, and they stand where it is said. No condition. -/
import Derived.Test.YtadpinekcadababRows
import Derived.Test.YtadpinekcadababWX
import Derived.Test.YtadpinekcadababWM
import Derived.Test.YtadpinekcadababShelf
import Derived.Deep.RegionHeld3
import Derived.WalkKit
import Derived.ProofKit
import Derived.OpenShut
import Derived.ChangeOld
import Derived.ChangeMaps
import Derived.Below
namespace Go.Proofs.Ytadpinekcadabab
open Go.ChangeShapes Go.WideShapes Go.ChangeAt Go.RowKit
open Go.ChangeMaps (open_string shut_string)

def smallT : ByteArray := ⟨#[40, 97, 32, 49, 50, 41, 10, 98]⟩
theorem small_we : Lat.we smallT = 0 := by decide +kernel
theorem small_wds : Lat.wds smallT = [⟨#[40]⟩, ⟨#[97]⟩, ⟨#[49, 50]⟩, ⟨#[41]⟩, ⟨#[98]⟩] := by decide +kernel
theorem small_wats : Lat.wats smallT = [0, 1, 3, 5, 7] := by decide +kernel

theorem wn_le (s : ByteArray) : Lat.wn s ≤ s.size := by
  unfold Lat.wn
  split
  · omega
  · cases h : Lat.badAt s with
    | none => exact Nat.zero_le _
    | some k => exact Nat.le_of_lt (Lat.find_spec h).1
theorem we_bad {s : ByteArray} (h : Lat.we s ≠ 0) : Lat.wds s = [] := by
  unfold Lat.we at h
  unfold Lat.wds
  split
  · rfl
  · rename_i h4
    rw [if_neg h4] at h
    cases hb : Lat.badAt s with
    | none => rw [hb] at h; simp at h
    | some k => rfl
theorem we_good {s : ByteArray} (h : Lat.we s = 0) : s.size ≤ 4096 ∧ Lat.wds s = (Lat.tok s s.size).1.map (Lat.ext s) ∧ Lat.wats s = (Lat.tok s s.size).1.map fun p => (p.1 : Int) := by
  unfold Lat.we at h
  by_cases h4 : 4096 < s.size
  · rw [if_pos h4] at h; cases h
  rw [if_neg h4] at h
  cases hb : Lat.badAt s with
  | some k => rw [hb] at h; simp at h
  | none =>
    refine ⟨by omega, ?_, ?_⟩
    · unfold Lat.wds; rw [if_neg h4, hb]
    · unfold Lat.wats; rw [if_neg h4, hb]
theorem ext_prefix (s : ByteArray) (a b : Nat) : Lib.hasPrefix (s.extract a s.size).data.toList (Lat.ext s (a, b)).data.toList = true := by
  unfold Lib.hasPrefix
  rw [List.isPrefixOf_iff_prefix, ext_list]
  have e : (s.extract a s.size).data.toList = s.data.toList.drop a := by
    have := ext_list s a s.size
    unfold Lat.ext at this
    simp only at this
    rw [this, List.take_of_length_le (by rw [size_list]; exact Nat.le_refl _)]
  rw [e, List.drop_take]
  exact List.take_prefix _ _

theorem ext_prefix' {s tp : ByteArray} {a : Nat} (h : Lib.hasPrefix (s.extract a s.size).data.toList tp.data.toList = true) : Lib.hasPrefix (List.take (s.size - a) (List.drop a s.data.toList)) tp.data.toList = true := by
  have e : (s.extract a s.size).data.toList = List.take (s.size - a) (List.drop a s.data.toList) := by
    rw [ByteArray.data_extract]; simp
  rw [← e]; exact h
theorem lens_le {l : List ByteArray} (h : ∀ t ∈ l, t.size ≤ 4096) : Lib.lens (l.map (·.data.toList)) ≤ 4096 * l.length := by
  unfold Lib.lens
  induction l with
  | nil => simp
  | cons t l ih =>
    have h1 := h t (by simp)
    have h2 := ih (fun x hx => h x (by simp [hx]))
    simp only [List.map_cons, List.sum_cons, List.length_cons, size_list] at h2 ⊢
    omega
theorem join_le {l : List ByteArray} (h : ∀ t ∈ l, t.size ≤ 4096) : (Lib.join (l.map (·.data.toList)) [32]).length ≤ 4097 * l.length := by
  cases l with
  | nil => simp [Lib.join_nil]
  | cons t l =>
    have := lens_le h
    rw [List.map_cons] at this ⊢
    rw [Lib.join_length]
    simp only [List.length_cons, List.length_nil, List.length_map] at this ⊢
    omega
theorem ints_lit5 (w : World) (a b c d e : Int) : Ints (w.alloc (.cells #[.int .i64 a, .int .i64 b, .int .i64 c, .int .i64 d, .int .i64 e] 3)) (.slice (some ⟨w.heap.size, 0, none⟩) 5 5) [a, b, c, d, e] :=
  ⟨_, w.heap.size, 0, 5, rfl, fun _ => rfl, by simp, fun j z hz => by
    obtain ⟨hj, rfl⟩ := List.getElem?_eq_some_iff.1 hz
    have hj' : j < 5 := hj
    obtain rfl | rfl | rfl | rfl | rfl : j = 0 ∨ j = 1 ∨ j = 2 ∨ j = 3 ∨ j = 4 := by omega
    all_goals simp [go_sem]⟩
theorem strs_lit5 (w : World) (a b c d e : ByteArray) (h : ∀ t ∈ [a, b, c, d, e], t.size ≤ maxLen) : Strs (w.alloc (.cells #[.string a, .string b, .string c, .string d, .string e] 9)) (.slice (some ⟨w.heap.size, 0, none⟩) 5 5) [a, b, c, d, e] :=
  ⟨_, w.heap.size, 0, 5, rfl, fun _ => rfl, by simp, h, fun j hj => by
    have hj' : j < 5 := hj
    obtain rfl | rfl | rfl | rfl | rfl : j = 0 ∨ j = 1 ∨ j = 2 ∨ j = 3 ∨ j = 4 := by omega
    all_goals simp [go_sem]⟩

set_option maxHeartbeats 4000000 in
set_option maxRecDepth 100000 in
theorem back_walk (w : World) (s : ByteArray) (hs : s.size ≤ maxLen) :
    Calls Try.prog 4 #[.string s] w fun e w' => e = .returned (.bool true) ∧ Below w.heap.size w w' := by
  have HW := hide (fun w => words_any w s hs)
  have HT := hide (fun w t (ht : t.size ≤ maxLen) => words_any w t ht)
  have HSM : Hid (∀ w, Calls Try.prog 13 #[.string ⟨#[40, 97, 32, 49, 50, 41, 10, 98]⟩] w fun e w' => ∃ v6 v7 n, e = .returned (.tuple #[v6, v7, .int .i64 n, .int .i64 0]) ∧ Strs w' v6 [⟨#[40]⟩, ⟨#[97]⟩, ⟨#[49, 50]⟩, ⟨#[41]⟩, ⟨#[98]⟩] ∧ Ints w' v7 [0, 1, 3, 5, 7] ∧ Below w.heap.size w w') := hide (fun w => by
    refine (words_any w smallT (by decide)).mono ?_
    rintro e w' ⟨v6, v7, rfl, h6, h7, hb⟩
    rw [small_we]
    rw [small_wds] at h6
    rw [small_wats] at h7
    exact ⟨v6, v7, _, rfl, h6.1, h7, hb⟩)
  go_enter Try.func4, Try.ntmps4
  go_wp2_with fail
  refine (HSM.out _).mono ?_
  rintro e w1 ⟨v6, v7, n0, rfl, h6, h7, hb⟩
  have H6 := hide (h6.below (boxBelow w1 (.cells #[.string ⟨#[40]⟩, .string ⟨#[97]⟩, .string ⟨#[49, 50]⟩, .string ⟨#[41]⟩, .string ⟨#[98]⟩] 9)))
  have H7 := hide (h7.below (boxBelow w1 (.cells #[.string ⟨#[40]⟩, .string ⟨#[97]⟩, .string ⟨#[49, 50]⟩, .string ⟨#[41]⟩, .string ⟨#[98]⟩] 9)))
  have HB := hide (up hb (boxBelow w1 (.cells #[.string ⟨#[40]⟩, .string ⟨#[97]⟩, .string ⟨#[49, 50]⟩, .string ⟨#[41]⟩, .string ⟨#[98]⟩] 9)))
  clear h6 h7 hb HSM
  go_wp2_with fail
  refine (eqS_same _ _ _ _ H6.out (strs_lit5 w1 _ _ _ _ _ (by decide))).mono ?_
  rintro e w2 ⟨rfl, hb⟩
  have H72 := hide ((H7.out.below hb).below (boxBelow w2 (.cells #[.int .i64 0, .int .i64 1, .int .i64 3, .int .i64 5, .int .i64 7] 3)))
  have HB2 := hide (up (up HB.out hb) (boxBelow w2 (.cells #[.int .i64 0, .int .i64 1, .int .i64 3, .int .i64 5, .int .i64 7] 3)))
  clear hb H6 H7 HB
  go_wp2_with fail
  refine (eqI_same _ _ _ _ H72.out (ints_lit5 w2 _ _ _ _ _)).mono ?_
  rintro e w3 ⟨rfl, hb⟩
  have HB3 := hide (up HB2.out hb)
  clear hb H72 HB2
  go_wp2_with fail
  refine (HW.out _).mono ?_
  rintro e w4 ⟨y6, y7, rfl, h6, h7, hb⟩
  have H6 := hide h6
  have H7 := hide h7
  have HB4 := hide (up HB3.out hb)
  obtain ⟨ax, cx, hv6, hcap⟩ := h6.2
  obtain ⟨ax', bx, ox, cx', hv6', hax, hlx, _, hcx⟩ := h6.1
  obtain ⟨ay, ny, oy, cy, hv7, hay, hly, hcy⟩ := h7
  rw [hv6] at hv6'
  obtain ⟨rfl, rfl⟩ : ax = ax' ∧ cx = cx' := by simpa using hv6'
  subst hv6
  subst hv7
  clear hb HB3 hv6'
  by_cases he : Lat.we s = 0
  · obtain ⟨hs4, eW, eA⟩ := we_good he
    have HEW := hide eW
    have hel : (Lat.wats s).length = (Lat.wds s).length := by rw [eW, eA, List.length_map, List.length_map]
    have hlen4 : (Lat.wds s).length ≤ 4096 := by
      rw [eW, List.length_map]
      have := (tok_inv s s.size).1
      omega
    rw [hel] at hay hly ⊢
    rw [he]
    have HP : Hid (∀ k, k < (Lat.wds s).length → ∃ p : Nat × Nat, (Lat.wds s).getD k ByteArray.empty = Lat.ext s p ∧ (Lat.wats s)[k]? = some (p.1 : Int) ∧ p.1 ≤ s.size) := hide (fun k hk => by
      have hk' : k < (Lat.tok s s.size).1.length := by rw [eW, List.length_map] at hk; exact hk
      refine ⟨(Lat.tok s s.size).1[k], ?_, ?_, ?_⟩
      · rw [eW, List.getD, List.getElem?_map, List.getElem?_eq_getElem hk']; rfl
      · rw [eA, List.getElem?_map, List.getElem?_eq_getElem hk']; rfl
      · have := (tok_inv s s.size).2.1 _ (List.getElem_mem hk')
        omega)
    have HCX := hide hcx
    have HCY := hide hcy
    have HAX := hide hax
    have HAY := hide hay
    have HE := hide he
    clear eW eA hel hcx hcy hax hay he HT HW
    generalize hn : (Lat.wds s).length = len at *
    have HN := hide hn
    clear hn
    go_wp2
    go_loopw [65] (fun i wr => ∃ k : Nat, k ≤ len ∧ i = .int .i64 k ∧ Below w4.heap.size w4 wr) (fun i _ => len - (intOf i).toNat)
    case atStart => exact ⟨0, Nat.zero_le _, rfl, Below.refl _ _⟩
    case round =>
      obtain ⟨k, hk, rfl, hnx⟩ := hrel
      by_cases hlt : k < len
      · obtain ⟨p, hp1, hp2, hp3⟩ := HP.out k hlt
        have g1 := HCX.out k hlt
        rw [hp1] at g1
        have g2 := HCY.out k _ hp2
        obtain rfl := HAX.out (by omega)
        obtain rfl := HAY.out (by omega)
        have HPX := hide (ext_prefix s p.1 p.2)
        obtain ⟨pa, pb⟩ := p
        simp only at hp3 g2 HPX
        have HF : Hid (∀ wx, Hid (Below w4.heap.size w4 wx) → Hid (Below w4.heap.size w4 wx) ∧ wx.cell? ⟨ny, oy + k, none⟩ = some (.int .i64 pa) ∧ wx.cell? ⟨bx, ox + k, none⟩ = some (.string (Lat.ext s (pa, pb)))) :=
          fun wx h => ⟨h, cellUp g2 h.out, cellUp g1 h.out⟩
        have HNX := hide hnx
        have g1' := cellUp g1 hnx
        have g2' := cellUp g2 hnx
        generalize Lat.ext s (pa, pb) = tp at *
        clear hp1 hp2 g1 g2 hnx
        have i1 : (0 : Int) ≤ (k : Int) := by omega
        have i2 : (k : Int) < (len : Int) := by omega
        have j1 : ¬ ((pa : Int) < 0) := by omega
        have j2 : ¬ ((s.size : Int) < (pa : Int)) := by omega
        have j3 : (pa : Int) ≤ (s.size : Int) := by omega
        have j4 : (0 : Int) ≤ (pa : Int) := by omega
        have j5 : decide ((pa : Int) < 0) = false := decide_eq_false j1
        have j6 : min (pa : Int) (s.size : Int) = (pa : Int) := by omega
        go_wp2_with fail
        go_quiet ((go_at_call 16; exact Calls.quiet_of_same (Try.strings_HasPrefix _ _ _)))
        have hpx := ext_prefix' HPX.out
        go_wp2
        · rename_i hh
          rw [hpx] at hh
          cases hh
        · go_roundw
          case rel => exact ⟨k + 1, by omega, by go_num, drewBelow HNX.out _⟩
          case measure => simp [intOf]; omega
      · have HNX := hide hnx
        have HB5 := hide (up HB4.out hnx)
        have hsm : ∀ t ∈ Lat.wds s, t.size ≤ 4096 := fun t ht => by
          rw [HEW.out] at ht
          obtain ⟨p, _, rfl⟩ := List.mem_map.1 ht
          unfold Lat.ext
          rw [ByteArray.size_extract]; omega
        have hjl := join_le hsm
        rw [HN.out] at hjl
        have HJ : Hid (Calls Try.prog 17 #[.slice ax len cx, .string ⟨#[32]⟩] wr fun e w' => e = .returned (.string ⟨(Lib.join ((Lat.wds s).map (·.data.toList)) [32]).toArray⟩) ∧ Below wr.heap.size wr w') := hide (by
          by_cases h0 : len = 0
          · have hnil : Lat.wds s = [] := List.length_eq_zero_iff.1 (by rw [HN.out]; exact h0)
            rw [hnil, h0]
            exact (Try.strings_Join_none ax cx ⟨#[32]⟩ wr).mono fun e w' ⟨he, hw⟩ => ⟨he, hw ▸ Below.refl _ _⟩
          · obtain rfl := HAX.out (by omega)
            have hc : ∀ (j : Nat) y, (Lat.wds s)[j]? = some y → wr.cell? ⟨bx, ox + j, none⟩ = some (.string y) := fun j y hy => by
              have hj : j < len := by rw [← HN.out]; exact (List.getElem?_eq_some_iff.1 hy).1
              have := cellUp (HCX.out j hj) hnx
              rw [List.getD, hy] at this
              exact this
            have hblk : bx < wr.heap.size := by
              have hj : 0 < len := by omega
              obtain ⟨y, hy⟩ : ∃ y, (Lat.wds s)[0]? = some y := ⟨_, List.getElem?_eq_getElem (by rw [HN.out]; exact hj)⟩
              exact World.block_lt_of_cell? _ _ (hc 0 y hy)
            have := Try.strings_Join bx ox cx (Lat.wds s) ⟨#[32]⟩ wr hc hblk (by rw [HN.out]; omega) (by rw [HN.out]; exact hcap) (Nat.le_trans (by rw [← HN.out] at hjl; exact hjl) (by rw [HN.out]; omega))
            rw [HN.out] at this
            exact this)
        have HTS : Hid ((⟨(Lib.join ((Lat.wds s).map (·.data.toList)) [32]).toArray⟩ : ByteArray).size ≤ maxLen) := hide (by
          rw [← size_list]
          show (Lib.join ((Lat.wds s).map (·.data.toList)) [32]).length ≤ maxLen
          unfold maxLen; omega)
        have HTD : Hid ((⟨(Lib.join ((Lat.wds s).map (·.data.toList)) [32]).toArray⟩ : ByteArray).data.toList = Lib.join ((Lat.wds s).map (·.data.toList)) [32]) := rfl
        generalize (⟨(Lib.join ((Lat.wds s).map (·.data.toList)) [32]).toArray⟩ : ByteArray) = t at *
        have H6' := hide (H6.out.1.below hnx)
        have hts : t.size ≤ 9223372036854775807 := by have := HTS.out; unfold maxLen at this; omega
        clear hnx hjl hsm
        go_wp2_with fail
        refine HJ.out.mono ?_
        rintro e w5 ⟨rfl, hb⟩
        have H65 := hide (H6'.out.below hb)
        have HB6 := hide (up HB5.out hb)
        clear hb
        go_wp2_with fail
        refine (words_any _ t HTS.out).mono ?_
        rintro e w6 ⟨z6, z7, rfl, h6, h7, hb⟩
        have H66 := hide (H65.out.below hb)
        have K6 := hide h6.1
        have HB7 := hide (up HB6.out hb)
        clear h6 h7 hb
        by_cases ht4 : 4096 < t.size
        · go_wp2
          go_ret
          exact ⟨ret_bool (by simp), HB7.out⟩
        · obtain ⟨b1, b2⟩ := words_back HE.out HTD.out ht4
          have K6' : Hid (Strs w6 z6 (Lat.wds s)) := hide (by rw [← b2]; exact K6.out)
          rw [b1]
          clear b1 b2 K6
          go_wp2_with fail
          refine (eqS_same _ _ _ _ K6'.out H66.out).mono ?_
          rintro e w7 ⟨rfl, hb⟩
          have HB8 := hide (up HB7.out hb)
          clear hb
          go_wp2
          go_ret
          exact ⟨ret_bool (by simp), HB8.out⟩
  · have hw0 := we_bad he
    have hn0 := wn_le s
    rw [hw0]
    have he' := bne_zero_true he
    have hs' : s.size ≤ 9223372036854775807 := by unfold maxLen at hs; omega
    clear HT HW hcx hcy hax hay
    generalize Lat.we s = er at *
    generalize Lat.wn s = nn at *
    generalize (Lat.wats s).length = ln at *
    have l1 : (nn : Int) ≤ (s.size : Int) := by omega
    go_wp2
    go_ret
    exact ⟨ret_bool (by simp; try omega), HB4.out⟩

theorem own : ownKnob Try.prog.godebug = none := by kernel_rfl

set_option maxRecDepth 100000 in
theorem back_lifted (os : Os) (started : os.Started) (H : Type) (enc : TypeId × Value → H) :
    ReturnsInHanded {} Try.checked os 4 .any (Rows.lexBackSpec.pre6 enc Try.prog Try.f4 Rows.lexBackRow.domain false) (Rows.lexBackSpec.post enc Try.prog Try.f4 false true false false) := by
  refine returnsInHanded_of_change (C := Try.checked) own started (by kernel_rfl) Try.func4
    (ChangeSpec.witness6 (enc := enc) (C := Try.checked) false ⟨#[], #[.string ⟨#[]⟩], []⟩ 8 (by kernel_rfl) (by kernel_rfl) (by kernel_rfl) (by kernel_rfl)) ?_
  intro W base args ds gs before hval0 hW _ _
  have hval : ∀ (j : Nat) t v, Try.f4.params[j]? = some t → args[j]? = some v → Value.okWide Try.prog W .any base t v := hval0
  have hW' := hW
  obtain ⟨p, q, hA0, hV, rfl, _, _⟩ := hW
  have hA : DataW.TrodAll enc Try.prog W 0 (fun _ => true) true Try.f4.params.toList args.toList ds p := hA0
  rw [Try.params4] at hA hval
  obtain ⟨v0, vs0, d0, ds0, p0, q0, hargs, rfl, rfl, h0, r0⟩ := trodAll_cons hA
  obtain ⟨rfl, rfl, rfl⟩ := trodAll_nil r0
  obtain rfl : args = #[v0] := by cases args; simp_all
  obtain ⟨rfl, rfl⟩ := trodVars_none hV
  obtain ⟨a1, rfl, rfl, rfl, w1⟩ := open_string Try.underlying9 (hval 0 9 v0 rfl rfl) h0
  clear hA0 hval0
  refine (back_walk W a1 w1).mono fun e W' ⟨he, bel⟩ => ?_
  subst he
  exact ⟨_, rfl, _, _, _, [], _, [], hW', trodAll_mk1 (shut_bool Try.underlying4 _), (trodAll_cons_mk (shut_string Try.underlying9 w1) trodAll_mk0), rfl, bel.frame _, fun h => by cases h⟩

theorem back_over : Rows.lexBackRow.holds Try.pinned (OpenSpec.ofChange Rows.lexBackSpec) :=
  OpenClaim.holds_of_wide 4 Try.f4 rfl rfl rfl rfl rfl rfl rfl ⟨rfl, rfl, rfl, rfl, rfl⟩ rfl rfl rfl rfl rfl (by kernel_rfl) Try.func4 (by kernel_rfl)
    (of_decide_eq_true (by kernel_rfl)) (by unfold Func.isWrapper; first | (rw [if_pos (by decide +kernel)]; kernel_rfl) | (rw [if_neg (by decide +kernel)]; exact ⟨rfl, rfl⟩))
    (fun os started H enc _ => back_lifted os started H enc)

theorem back_proved : Rows.LexBackSaid := back_over

#print axioms back_proved
end Go.Proofs.Ytadpinekcadabab
