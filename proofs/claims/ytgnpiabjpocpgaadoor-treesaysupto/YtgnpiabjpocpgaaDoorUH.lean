/- Walks over package tree: importTexts, varTexts. -/
import Derived.Test.YtgnpiabjpocpgaaDoorUG
namespace Go.Proofs.YtgnpiabjpocpgaaDoor
open Go.RowKit

namespace Lat
def impX (s : ByteArray) : ByteArray := brk [⟨#[105, 109, 112, 111, 114, 116]⟩, s]
def vaX (v : Va) : ByteArray := brk [⟨#[118, 97, 114]⟩, v.name, v.level]
end Lat

theorem impX_size (s : ByteArray) : (Lat.impX s).size = s.size + 9 := by
  unfold Lat.impX
  rw [brk_size, jn_size]
  simp [Lib.join_cons, Lib.joinTail]
theorem vaX_size (v : Va) : (Lat.vaX v).size = v.name.size + v.level.size + 7 := by
  unfold Lat.vaX
  rw [brk_size, jn_size]
  simp [Lib.join_cons, Lib.joinTail]
  omega

set_option maxHeartbeats 2000000 in
set_option maxRecDepth 100000 in
theorem importTexts_any (w : World) (v : Value) (l : List ByteArray) (h : Strs w v l) (hw : strsW l ≤ 1048576) :
    Calls Tryd.prog 24 #[v] w fun e w' => ∃ a n c, e = .returned (.slice a n c) ∧ Strs w' (.slice a n c) (l.map Lat.impX) ∧ Below w.heap.size w w' := by
  obtain ⟨a, b, off, cap, rfl, ha, hl, hs, hc⟩ := h
  have hll : l.length ≤ 1048576 := by
    have := len_le_sum (l := l) (f := fun s : ByteArray => s.size + 1) (fun y _ => by omega)
    unfold strsW at hw; omega
  have HW : Hid (∀ y ∈ l, y.size ≤ 1048576) := hide (fun y hy => by
    have := mem_le_sum (f := fun s : ByteArray => s.size + 1) hy
    unfold strsW at hw; omega)
  have HTS : Hid (∀ t ∈ l.map Lat.impX, t.size ≤ maxLen) := hide (fun t ht => by
    obtain ⟨y, hy, rfl⟩ := List.mem_map.1 ht
    have := HW.out y hy
    rw [impX_size]; unfold maxLen; omega)
  have HC := hide hc
  have HA := hide ha
  clear hc ha hw hs
  obtain ⟨len, hlen⟩ : ∃ len, len = l.length := ⟨_, rfl⟩
  have HL := hide hlen
  rw [← hlen] at hl HA hll HC ⊢
  clear hlen
  go_enter Tryd.func24, Tryd.ntmps24
  go_wp2
  go_loopw [3, 8] (fun o i wr => ∃ j : Nat, j ≤ len ∧ i = .int .i64 j ∧ Own wr w.heap.size o ((l.take j).map Lat.impX) ∧ Below w.heap.size w wr) (fun _ i _ => len - (intOf i).toNat)
  case atStart => exact ⟨0, Nat.zero_le _, rfl, World.ownsRow_nil _ _ _ _, Below.refl _ _⟩
  case round =>
    obtain ⟨j, hj, rfl, hown, hnx⟩ := hrel
    by_cases hjl : j < len
    · obtain ⟨y, hy⟩ : ∃ y, l[j]? = some y := ⟨_, List.getElem?_eq_getElem (by rw [← HL.out]; exact hjl)⟩
      have g0 := HC.out j hjl
      rw [show l.getD j ByteArray.empty = y by rw [List.getD, hy]; rfl] at g0
      have hyw := HW.out y (List.mem_of_getElem? hy)
      have HST := hide (map_take (f := Lat.impX) hy)
      obtain rfl := HA.out (by omega)
      have u0 := cellUp g0 hnx
      have hys := impX_size y
      have hyt : (Lat.impX y).size ≤ maxLen := by unfold maxLen; omega
      have hym : y.size ≤ maxLen := by unfold maxLen; omega
      have HBS : Hid ((Lat.brk [[⟨#[105, 109, 112, 111, 114, 116]⟩, y]].flatten).size ≤ 16777216) := hide (by
        rw [List.flatten_singleton]; show (Lat.impX y).size ≤ _; omega)
      have HE : Hid (Lat.brk [[⟨#[105, 109, 112, 111, 114, 116]⟩, y]].flatten = Lat.impX y) := hide (by rw [List.flatten_singleton]; rfl)
      have HNX := hide hnx
      have HOW := hide hown
      clear g0 hy hnx hown hys
      go_wp2_with fail
      refine (brackets_any _ _ [[⟨#[105, 109, 112, 111, 114, 116]⟩, y]] (strsS_1 (by simp) (strs_lit2 rfl _ _ (by decide) hym)) HBS.out).mono ?_
      rintro e w5 ⟨rfl, hb5⟩
      rw [HE.out]
      have hb5' := up1 (up1 hb5)
      have HN5 := hide (up HNX.out hb5')
      have HOW5 : Hid (Own w5 w.heap.size _ _) := hide (own_below HOW.out hb5')
      clear hb5 hb5' HNX HOW HE HBS
      generalize Lat.impX y = ty at *
      have hbs := HN5.out.size
      have hlt : ((l.take j).map Lat.impX).length ≤ 1048576 := by rw [List.length_map, List.length_take]; omega
      go_wp2_with (first
        | (at_builtin; refine wpList_append_strs rfl _ _ rfl w.heap.size _ _ [ty] rfl (own_below HOW5.out (boxBelow _ _)) _ rfl (strs_lit1 rfl _ hyt) (by simp only [List.length_singleton]; omega) (by simp; omega) ?_; intro v' w2 hown2 hgrow2)
        | fail)
      have R2 := hide ((HN5.out.alloc hbs (.cells #[.string ty] 9)).grown hgrow2 (by simp; omega) (fun j hj => (HOW5.out.lt j hj).1))
      have HO2 := hide hown2
      clear hgrow2 hown2
      go_roundw
      case rel => exact ⟨j + 1, by omega, by go_num, by rw [HST.out]; exact HO2.out, R2.out⟩
      case measure => simp [intOf]; omega
    · have e : l.take j = l := List.take_of_length_le (by have := HL.out; omega)
      rw [e] at hown
      have hs := hown.strs HTS.out (by rw [List.length_map, ← HL.out]; exact hl)
      obtain ⟨a', c', rfl, _⟩ := hs.shape
      have HO2 := hide hs
      clear hown hs
      generalize (l.map Lat.impX).length = nn at *
      go_wp2
      go_ret
      exact ⟨_, _, _, rfl, HO2.out, hnx⟩

set_option maxHeartbeats 2000000 in
set_option maxRecDepth 100000 in
theorem varTexts_any (w : World) (v : Value) (l : List Va) (h : VasAt w v l) (hw : vasW l ≤ 1048576) :
    Calls Tryd.prog 25 #[v] w fun e w' => ∃ a n c, e = .returned (.slice a n c) ∧ Strs w' (.slice a n c) (l.map Lat.vaX) ∧ Below w.heap.size w w' := by
  obtain ⟨a, b, off, cap, rfl, ha, hl, hc⟩ := h
  have hll : l.length ≤ 1048576 := by
    have := len_le_sum (l := l) (f := fun s : Va => s.name.size + s.level.size + 3) (fun y _ => by omega)
    unfold vasW at hw; omega
  have HW : Hid (∀ y ∈ l, y.name.size + y.level.size ≤ 1048576) := hide (fun y hy => by
    have := mem_le_sum (f := fun s : Va => s.name.size + s.level.size + 3) hy
    unfold vasW at hw; omega)
  have HTS : Hid (∀ t ∈ l.map Lat.vaX, t.size ≤ maxLen) := hide (fun t ht => by
    obtain ⟨y, hy, rfl⟩ := List.mem_map.1 ht
    have := HW.out y hy
    rw [vaX_size]; unfold maxLen; omega)
  have HC := hide hc
  have HA := hide ha
  clear hc ha hw
  obtain ⟨len, hlen⟩ : ∃ len, len = l.length := ⟨_, rfl⟩
  have HL := hide hlen
  rw [← hlen] at hl HA hll ⊢
  clear hlen
  go_enter Tryd.func25, Tryd.ntmps25
  go_wp2
  go_loopw [3, 8] (fun o i wr => ∃ j : Nat, j ≤ len ∧ i = .int .i64 j ∧ Own wr w.heap.size o ((l.take j).map Lat.vaX) ∧ Below w.heap.size w wr) (fun _ i _ => len - (intOf i).toNat)
  case atStart => exact ⟨0, Nat.zero_le _, rfl, World.ownsRow_nil _ _ _ _, Below.refl _ _⟩
  case round =>
    obtain ⟨j, hj, rfl, hown, hnx⟩ := hrel
    by_cases hjl : j < len
    · obtain ⟨y, hy⟩ : ∃ y, l[j]? = some y := ⟨_, List.getElem?_eq_getElem (by rw [← HL.out]; exact hjl)⟩
      obtain ⟨k1, k2, g0, g1⟩ := HC.out j y hy
      have hyw := HW.out y (List.mem_of_getElem? hy)
      have HST := hide (map_take (f := Lat.vaX) hy)
      obtain rfl := HA.out (by omega)
      have u0 := cellUp g0 hnx
      have u1 := cellUp g1 hnx
      have hys := vaX_size y
      have hyt : (Lat.vaX y).size ≤ maxLen := by unfold maxLen; omega
      have HBS : Hid ((Lat.brk [[⟨#[118, 97, 114]⟩, y.name, y.level]].flatten).size ≤ 16777216) := hide (by
        rw [List.flatten_singleton]; show (Lat.vaX y).size ≤ _; omega)
      have HE : Hid (Lat.brk [[⟨#[118, 97, 114]⟩, y.name, y.level]].flatten = Lat.vaX y) := hide (by rw [List.flatten_singleton]; rfl)
      have HNX := hide hnx
      have HOW := hide hown
      clear g0 g1 hy hnx hown hys
      go_wp2_with fail
      refine (brackets_any _ _ [[⟨#[118, 97, 114]⟩, y.name, y.level]] (strsS_1 (by simp) (strs_lit3 (by simp) _ _ _ (by decide) k1 k2)) HBS.out).mono ?_
      rintro e w5 ⟨rfl, hb5⟩
      rw [HE.out]
      have hb5' := up1 (up1 (up1 hb5))
      have HN5 := hide (up HNX.out hb5')
      have HOW5 : Hid (Own w5 w.heap.size _ _) := hide (own_below HOW.out hb5')
      clear hb5 hb5' HNX HOW HE HBS
      generalize Lat.vaX y = ty at *
      have hbs := HN5.out.size
      have hlt : ((l.take j).map Lat.vaX).length ≤ 1048576 := by rw [List.length_map, List.length_take]; omega
      go_wp2_with (first
        | (at_builtin; refine wpList_append_strs rfl _ _ rfl w.heap.size _ _ [ty] rfl (own_below HOW5.out (boxBelow _ _)) _ rfl (strs_lit1 rfl _ hyt) (by simp only [List.length_singleton]; omega) (by simp; omega) ?_; intro v' w2 hown2 hgrow2)
        | fail)
      have R2 := hide ((HN5.out.alloc hbs (.cells #[.string ty] 9)).grown hgrow2 (by simp; omega) (fun j hj => (HOW5.out.lt j hj).1))
      have HO2 := hide hown2
      clear hgrow2 hown2
      go_roundw
      case rel => exact ⟨j + 1, by omega, by go_num, by rw [HST.out]; exact HO2.out, R2.out⟩
      case measure => simp [intOf]; omega
    · have e : l.take j = l := List.take_of_length_le (by have := HL.out; omega)
      rw [e] at hown
      have hs := hown.strs HTS.out (by rw [List.length_map, ← HL.out]; exact hl)
      obtain ⟨a', c', rfl, _⟩ := hs.shape
      have HO2 := hide hs
      clear hown hs
      generalize (l.map Lat.vaX).length = nn at *
      go_wp2
      go_ret
      exact ⟨_, _, _, rfl, HO2.out, hnx⟩

end Go.Proofs.YtgnpiabjpocpgaaDoor
