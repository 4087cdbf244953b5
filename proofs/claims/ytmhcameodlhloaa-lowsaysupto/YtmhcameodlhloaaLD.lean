/- Walks over package lattice, fourth part: areNames: names that are NAMEs, none of them twice, at least one. -/
import Derived.Test.YtmhcameodlhloaaLC
import Derived.Maps.OwnSet
namespace Go.Proofs.Ytmhcameodlhloaa
open Go.RowKit Go.Maps Go.WideMaps

namespace Lat
def namesR (ss : List ByteArray) (k : Nat) : Bool := !((ss.take k).any fun t => t.data.toList == (ss.getD k ByteArray.empty).data.toList) && nameB (ss.getD k ByteArray.empty).data.toList
def namesB (ss : List ByteArray) : Bool := (List.range ss.length).all (namesR ss) && decide (0 < ss.length)
end Lat

theorem lawS : Keyed Try.prog 9 := string_keyed Try.underlying9
theorem zeroI (w : World) : (zeroValue 3).run Try.prog w = .ok (.int .i64 0) w := by kernel_rfl

theorem any_take (ss : List ByteArray) (k : Nat) (hk : k < ss.length) (p : ByteArray → Bool) : (ss.take (k + 1)).any p = ((ss.take k).any p || p (ss.getD k ByteArray.empty)) := by
  rw [List.take_succ_eq_append_getElem hk, List.any_append]
  simp [List.getD, List.getElem?_eq_getElem hk]

theorem has_next {ss : List ByteArray} {k : Nat} (hk : k < ss.length) {D : DataW Unit} (hm : IsMap D) (h : ∀ l, Maps.has D (.string l) = (ss.take k).any fun t => t.data.toList == l) (d : DataW Unit) :
    ∀ l, Maps.has (D.put (.string (ss.getD k ByteArray.empty).data.toList) d) (.string l) = (ss.take (k + 1)).any fun t => t.data.toList == l := by
  intro l
  rw [any_take ss k hk]
  by_cases e : l = (ss.getD k ByteArray.empty).data.toList
  · subst e
    rw [has_put_same hm (by simp [WideAt.IsKeyLit])]
    simp
  · rw [has_put_other (by intro h'; exact e (by injection h')), h l]
    have e' : ((ss.getD k ByteArray.empty).data.toList == l) = false := beq_eq_false_iff_ne.2 (fun h' => e h'.symm)
    rw [e', Bool.or_false]

theorem size_getD {ss : List ByteArray} (h : ∀ s ∈ ss, s.size ≤ maxLen) (k : Nat) : (ss.getD k ByteArray.empty).size ≤ maxLen := by
  by_cases hk : k < ss.length
  · rw [List.getD, List.getElem?_eq_getElem hk]; exact h _ (List.getElem_mem hk)
  · rw [List.getD, List.getElem?_eq_none (by omega)]; exact Nat.zero_le _

set_option maxHeartbeats 1000000 in
set_option maxRecDepth 100000 in
theorem lareNames_any (w : World) (v : Value) (ss : List ByteArray) (hS : Strs w v ss) :
    Calls Try.prog 44 #[v] w fun e w' => e = .returned (.bool (Lat.namesB ss)) ∧ Below w.heap.size w w' := by
  obtain ⟨a, b, off, cap, rfl, ha, hl, hs, h1⟩ := hS
  obtain ⟨len, hlen⟩ : ∃ len, len = ss.length := ⟨_, rfl⟩
  rw [← hlen] at ha hl h1 ⊢
  have HL : Hid (len = ss.length) := hlen
  clear hlen
  have hmm := @run_makeMap Try.prog
  go_enter Try.func44, Try.ntmps44
  go_wp2
  go_loopw [11] (fun i wr => ∃ k : Nat, k ≤ len ∧ i = .int .i64 k ∧ (∀ d, d < k → Lat.namesR ss d = true) ∧ Below w.heap.size w wr ∧
      ∃ D : DataW Unit, wr.ownsMap Try.prog 9 (plainElem Try.prog 3) w.heap.size k D ∧ ∀ l, Maps.has D (.string l) = (ss.take k).any fun t => t.data.toList == l)
    (fun i _ => len - (intOf i).toNat)
  case atStart => exact ⟨0, Nat.zero_le _, rfl, fun d hd => absurd hd (Nat.not_lt_zero _), (Below.refl _ _).alloc (Nat.le_refl _) _, .map [], World.ownsMap_made _ _ _ _, fun l => rfl⟩
  case round =>
    obtain ⟨k, hk, rfl, hall, hnx, D, hown, hhas⟩ := hrel
    have HA : Hid (∀ d, d < k → Lat.namesR ss d = true) := hall
    have HH : Hid (∀ l, Maps.has D (.string l) = (ss.take k).any fun t => t.data.toList == l) := hhas
    clear hall hhas hmm
    by_cases hlt : k < len
    · obtain rfl := ha (by omega)
      obtain ⟨s, hsk⟩ : ∃ s, s = ss.getD k ByteArray.empty := ⟨_, rfl⟩
      have hcx : wr.cell? ⟨b, off + k, none⟩ = some (.string s) := by
        rw [hsk]; rw [hnx.cell (World.block_lt_of_cell? _ _ (h1 k hlt))]; exact h1 k hlt
      have hsz : s.size ≤ maxLen := by rw [hsk]; exact size_getD hs k
      have hkey : keyOf Try.prog 9 (.string s) = some (.string s.data.toList) := keyOf_string_mk Try.underlying9 hsz
      have HK : Hid (s = ss.getD k ByteArray.empty) := hsk
      have hbad : Maps.has D (.string s.data.toList) = true ∨ Lat.nameB s.data.toList = false → Lat.namesB ss = false := by
        intro h
        have : Lat.namesR ss k = false := by
          unfold Lat.namesR
          rw [← HK.out, ← HH.out]
          rcases h with h | h <;> simp [h]
        unfold Lat.namesB
        rw [Lat.all_false (by rw [← HL.out]; exact hlt) this]; rfl
      have HB := hide hbad
      clear hsk h1 hs hbad
      cases hh : Maps.has D (.string s.data.toList)
      · cases hnm : Lat.nameB s.data.toList
        · go_wp2_with (first
            | (at_lookup; refine wpList_lookup_own_ok_int _ rfl _ _ 123 rfl 9 3 .i64 lawS Try.underlying123 Try.underlying3 (zeroI _) w.heap.size k D rfl hown _ _ rfl hkey ?_; intro c _ _)
            | (go_at_call 69; refine (lisName_any _ s hsz).mono ?_; rintro e w' ⟨rfl, rfl⟩)
            | go_in)
          go_ret
          exact ⟨ret_bool ((unhide HB) (Or.inr hnm)).symm, hnx⟩
        · go_wp2_with (first
            | (at_lookup; refine wpList_lookup_own_ok_int _ rfl _ _ 123 rfl 9 3 .i64 lawS Try.underlying123 Try.underlying3 (zeroI _) w.heap.size k D rfl hown _ _ rfl hkey ?_; intro c _ _)
            | (go_at_call 69; refine (lisName_any _ s hsz).mono ?_; rintro e w' ⟨rfl, rfl⟩)
            | (at_mapUpdate; refine wpList_mapUpdate_own _ rfl _ _ _ 123 rfl 9 3 lawS Try.underlying123 _ w.heap.size k _ rfl hown (by unfold maxLen; omega) _ _ _ rfl rfl hkey _ [] (plainElem_int Try.underlying3 (WalkArith.wf_i64 (by omega))) ?_)
            | go_in)
          intro w1 hown1 hgrow1
          have R2 := hnx.grown hgrow1 hnx.size (fun j hj => by cases hj; exact Nat.le_refl _)
          have hn1 : Lat.namesR ss k = true := by
            unfold Lat.namesR
            rw [← HK.out, ← HH.out, hh, hnm]; rfl
          have hn2 := has_next (k := k) (by rw [← HL.out]; exact hlt) hown.isMap HH.out (.lit (.int .i64 k))
          rw [← HK.out] at hn2
          have H2 := hide hn2
          have H1 := hide hn1
          clear hgrow1 hown hcx hn1 hn2 hh
          go_wp2
          go_roundw
          case rel => exact ⟨k + 1, by omega, by go_num, fun d hd => by
              by_cases e : d = k
              · subst e; exact unhide H1
              · exact HA.out d (by omega), R2, _, hown1, unhide H2⟩
          case measure => simp [intOf]; omega
      · go_wp2_with (first
            | (at_lookup; refine wpList_lookup_own_ok_int _ rfl _ _ 123 rfl 9 3 .i64 lawS Try.underlying123 Try.underlying3 (zeroI _) w.heap.size k D rfl hown _ _ rfl hkey ?_; intro c _ _)
            | go_in)
        go_ret
        exact ⟨ret_bool ((unhide HB) (Or.inl hh)).symm, hnx⟩
    · go_wp2
      go_ret
      refine ⟨ret_bool ?_, hnx⟩
      unfold Lat.namesB
      rw [Lat.all_true (fun d hd => HA.out d (by have := HL.out; omega)), ← HL.out]
      simp

end Go.Proofs.Ytmhcameodlhloaa
