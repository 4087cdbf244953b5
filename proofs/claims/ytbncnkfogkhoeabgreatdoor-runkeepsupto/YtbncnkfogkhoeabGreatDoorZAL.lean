/- Walks over package tree: exprTexts, exprText: of expressions that may be, the text that the document asks. -/
import Derived.Test.YtbncnkfogkhoeabGreatDoorZAK
namespace Go.Proofs.YtbncnkfogkhoeabGreatDoor
open Go.RowKit

theorem strs_lit1 {w : World} {B : Nat} (hB : w.heap.size = B) (s : ByteArray) (hs : s.size ≤ maxLen) : Strs (w.alloc (.cells #[.string s] 9)) (.slice (some ⟨B, 0, none⟩) 1 1) [s] := by
  subst hB
  exact ⟨_, w.heap.size, 0, 1, rfl, fun _ => rfl, by simp, fun t ht => by simp at ht; subst ht; exact hs, fun j hj => by
    have hj' : j < 1 := hj
    obtain rfl : j = 0 := by omega
    simp [go_sem]⟩
theorem strs_lit2 {w : World} {B : Nat} (hB : w.heap.size = B) (s t : ByteArray) (hs : s.size ≤ maxLen) (ht : t.size ≤ maxLen) : Strs (w.alloc (.cells #[.string s, .string t] 9)) (.slice (some ⟨B, 0, none⟩) 2 2) [s, t] := by
  subst hB
  exact ⟨_, w.heap.size, 0, 2, rfl, fun _ => rfl, by simp, fun u hu => by simp at hu; rcases hu with rfl | rfl <;> assumption, fun j hj => by
    have hj' : j < 2 := hj
    obtain rfl | rfl : j = 0 ∨ j = 1 := by omega
    all_goals simp [go_sem]⟩
theorem strs_lit3 {w : World} {B : Nat} (hB : w.heap.size = B) (s t u : ByteArray) (hs : s.size ≤ maxLen) (ht : t.size ≤ maxLen) (hu : u.size ≤ maxLen) : Strs (w.alloc (.cells #[.string s, .string t, .string u] 9)) (.slice (some ⟨B, 0, none⟩) 3 3) [s, t, u] := by
  subst hB
  exact ⟨_, w.heap.size, 0, 3, rfl, fun _ => rfl, by simp, fun x hx => by simp at hx; rcases hx with rfl | rfl | rfl <;> assumption, fun j hj => by
    have hj' : j < 3 := hj
    obtain rfl | rfl | rfl : j = 0 ∨ j = 1 ∨ j = 2 := by omega
    all_goals simp [go_sem]⟩
theorem strs_lit4 {w : World} {B : Nat} (hB : w.heap.size = B) (s t u x : ByteArray) (hs : s.size ≤ maxLen) (ht : t.size ≤ maxLen) (hu : u.size ≤ maxLen) (hx : x.size ≤ maxLen) : Strs (w.alloc (.cells #[.string s, .string t, .string u, .string x] 9)) (.slice (some ⟨B, 0, none⟩) 4 4) [s, t, u, x] := by
  subst hB
  exact ⟨_, w.heap.size, 0, 4, rfl, fun _ => rfl, by simp, fun y hy => by simp at hy; rcases hy with rfl | rfl | rfl | rfl <;> assumption, fun j hj => by
    have hj' : j < 4 := hj
    obtain rfl | rfl | rfl | rfl : j = 0 ∨ j = 1 ∨ j = 2 ∨ j = 3 := by omega
    all_goals simp [go_sem]⟩
theorem strsS_1 {w : World} {B : Nat} (hB : w.heap.size = B) {v1 : Value} {l1 : List ByteArray} (h1 : Strs w v1 l1) : StrsS (w.alloc (.cells #[v1] 22)) (.slice (some ⟨B, 0, none⟩) 1 1) [l1] := by
  subst hB
  exact ⟨w.heap.size, 0, 1, rfl, by simp, fun i l hl => by
    obtain ⟨hi, rfl⟩ := List.getElem?_eq_some_iff.1 hl
    have hi' : i < 1 := hi
    obtain rfl : i = 0 := by omega
    exact ⟨v1, by simp [go_sem], h1.below (boxBelow _ _)⟩⟩
theorem strsS_2 {w : World} {B : Nat} (hB : w.heap.size = B) {v1 v2 : Value} {l1 l2 : List ByteArray} (h1 : Strs w v1 l1) (h2 : Strs w v2 l2) : StrsS (w.alloc (.cells #[v1, v2] 22)) (.slice (some ⟨B, 0, none⟩) 2 2) [l1, l2] := by
  subst hB
  exact ⟨w.heap.size, 0, 2, rfl, by simp, fun i l hl => by
    obtain ⟨hi, rfl⟩ := List.getElem?_eq_some_iff.1 hl
    have hi' : i < 2 := hi
    obtain rfl | rfl : i = 0 ∨ i = 1 := by omega
    · exact ⟨v1, by simp [go_sem], h1.below (boxBelow _ _)⟩
    · exact ⟨v2, by simp [go_sem], h2.below (boxBelow _ _)⟩⟩
theorem strsS_3 {w : World} {B : Nat} (hB : w.heap.size = B) {v1 v2 v3 : Value} {l1 l2 l3 : List ByteArray} (h1 : Strs w v1 l1) (h2 : Strs w v2 l2) (h3 : Strs w v3 l3) : StrsS (w.alloc (.cells #[v1, v2, v3] 22)) (.slice (some ⟨B, 0, none⟩) 3 3) [l1, l2, l3] := by
  subst hB
  exact ⟨w.heap.size, 0, 3, rfl, by simp, fun i l hl => by
    obtain ⟨hi, rfl⟩ := List.getElem?_eq_some_iff.1 hl
    have hi' : i < 3 := hi
    obtain rfl | rfl | rfl : i = 0 ∨ i = 1 ∨ i = 2 := by omega
    · exact ⟨v1, by simp [go_sem], h1.below (boxBelow _ _)⟩
    · exact ⟨v2, by simp [go_sem], h2.below (boxBelow _ _)⟩
    · exact ⟨v3, by simp [go_sem], h3.below (boxBelow _ _)⟩⟩
theorem strsS_4 {w : World} {B : Nat} (hB : w.heap.size = B) {v1 v2 v3 v4 : Value} {l1 l2 l3 l4 : List ByteArray} (h1 : Strs w v1 l1) (h2 : Strs w v2 l2) (h3 : Strs w v3 l3) (h4 : Strs w v4 l4) : StrsS (w.alloc (.cells #[v1, v2, v3, v4] 22)) (.slice (some ⟨B, 0, none⟩) 4 4) [l1, l2, l3, l4] := by
  subst hB
  exact ⟨w.heap.size, 0, 4, rfl, by simp, fun i l hl => by
    obtain ⟨hi, rfl⟩ := List.getElem?_eq_some_iff.1 hl
    have hi' : i < 4 := hi
    obtain rfl | rfl | rfl | rfl : i = 0 ∨ i = 1 ∨ i = 2 ∨ i = 3 := by omega
    · exact ⟨v1, by simp [go_sem], h1.below (boxBelow _ _)⟩
    · exact ⟨v2, by simp [go_sem], h2.below (boxBelow _ _)⟩
    · exact ⟨v3, by simp [go_sem], h3.below (boxBelow _ _)⟩
    · exact ⟨v4, by simp [go_sem], h4.below (boxBelow _ _)⟩⟩

theorem Strs.allocUp {w : World} {v : Value} {l : List ByteArray} {o : Obj} (h : Strs w v l) : Strs (w.alloc o) v l := h.below (boxBelow _ _)
theorem Strs.drewUp {w : World} {v : Value} {l : List ByteArray} (h : Strs w v l) : Strs w.drew v l := h.below (Below.refl _ _).drew
theorem hidB_alloc {W0 x : World} {o : Obj} (h : Hid (Below W0.heap.size W0 x)) : Hid (Below W0.heap.size W0 (x.alloc o)) := hide (h.out.alloc h.out.size o)
theorem hidB_drew {W0 x : World} (h : Hid (Below W0.heap.size W0 x)) : Hid (Below W0.heap.size W0 x.drew) := hide h.out.drew

theorem bytes_ext {a b : ByteArray} (h : a.data.toList = b.data.toList) : a = b := by
  cases a with | mk a => cases b with | mk b => congr 1; exact Array.toList_inj.1 h
theorem app_list (a b : ByteArray) : (a ++ b).data.toList = a.data.toList ++ b.data.toList := by
  rw [ByteArray.data_append, Array.toList_append]
theorem brk_list (l : List ByteArray) : (Lat.brk l).data.toList = 40 :: (Lib.join (l.map (·.data.toList)) [32] ++ [41]) := by
  unfold Lat.brk Lat.jn
  rw [app_list, app_list]; rfl
theorem fold_list {t : Ex → ByteArray} (l : List Ex) (acc : ByteArray) : (l.foldl (Lat.exStep t) acc).data.toList = acc.data.toList ++ Lib.joinTail [32] ((l.map t).map (·.data.toList)) := by
  induction l generalizing acc with
  | nil => simp [Lib.joinTail]
  | cons y l ih =>
    rw [List.foldl_cons, ih]
    unfold Lat.exStep
    rw [app_list, app_list]
    simp [Lib.joinTail]
theorem op_text (x : Ex) (t : Ex → ByteArray) (h : x.kind ≠ 4) : Lat.brk (x.name :: x.args.map t) = x.args.foldl (Lat.exStep t) (Lat.exHead x) ++ (⟨#[41]⟩ : ByteArray) := by
  apply bytes_ext
  rw [brk_list, app_list, fold_list, List.map_cons, Lib.join_cons]
  unfold Lat.exHead
  rw [if_neg h, app_list]
  simp
theorem call_text (x : Ex) (t : Ex → ByteArray) (h : x.kind = 4) : Lat.brk (⟨#[99, 97, 108, 108]⟩ :: x.name :: x.args.map t) = x.args.foldl (Lat.exStep t) (Lat.exHead x) ++ (⟨#[41]⟩ : ByteArray) := by
  apply bytes_ext
  rw [brk_list, app_list, fold_list, List.map_cons, Lib.join_cons]
  unfold Lat.exHead
  rw [if_pos h, app_list]
  simp [Lib.joinTail]

theorem map_take {α β : Type} {f : α → β} {l : List α} {j : Nat} {y : α} (h : l[j]? = some y) : (l.take (j + 1)).map f = (l.take j).map f ++ [f y] := by
  obtain ⟨hj, rfl⟩ := List.getElem?_eq_some_iff.1 h
  rw [List.take_succ_eq_append_getElem hj, List.map_append]; rfl

set_option maxHeartbeats 2000000 in
set_option maxRecDepth 100000 in
theorem exprTexts_of (m : Nat) (hi : ∀ (w : World) (c0 c1 c2 c3 : Value) (x : Ex), ExAt w m c0 c1 c2 c3 x → Lat.exprB m x = true → exW m x ≤ 1048576 → Tab w →
      Calls Tryz.prog 74 #[.agg #[c0, c1, c2, c3]] w fun e w' => e = .returned (.string (Lat.exT m x)) ∧ Below w.heap.size w w')
    (w : World) (a : Option Addr) (b off cap : Nat) (args : List Ex) (ha : 0 < args.length → a = some ⟨b, off, none⟩) (hl : args.length ≤ 4)
    (hel : ∀ i y, args[i]? = some y → ∃ e0 e1 e2 e3, w.cell? ⟨b, off + i * 4, none⟩ = some e0 ∧ w.cell? ⟨b, off + i * 4 + 1, none⟩ = some e1 ∧ w.cell? ⟨b, off + i * 4 + 2, none⟩ = some e2 ∧ w.cell? ⟨b, off + i * 4 + 3, none⟩ = some e3 ∧ ExAt w m e0 e1 e2 e3 y)
    (hok : args.all (Lat.exprB m) = true) (hw : (args.map (exW m)).sum ≤ 1048576) (ht : Tab w) :
    Calls Tryz.prog 102 #[.slice a args.length cap] w fun e w' => ∃ v', e = .returned v' ∧ Own w' w.heap.size v' (args.map (Lat.exT m)) ∧ Below w.heap.size w w' := by
  have HI := hide hi
  have HEL := hide hel
  have HA := hide ha
  have HT := hide ht
  have HOK : Hid (∀ (i : Nat) (y : Ex), args[i]? = some y → Lat.exprB m y = true ∧ exW m y ≤ 1048576) := hide (fun i y hy => ⟨List.all_eq_true.1 hok y (List.mem_of_getElem? hy), by
      have : exW m y ≤ (args.map (exW m)).sum := mem_le_sum (List.mem_of_getElem? hy)
      omega⟩)
  clear hi hel ha ht hok hw
  obtain ⟨len, hlen⟩ : ∃ len, len = args.length := ⟨_, rfl⟩
  have HL := hide hlen
  rw [← hlen] at hl HA ⊢
  clear hlen
  go_enter Tryz.func102, Tryz.ntmps102
  go_wp2
  go_loopw [3, 8] (fun o i wr => ∃ j : Nat, j ≤ len ∧ i = .int .i64 j ∧ Own wr w.heap.size o ((args.take j).map (Lat.exT m)) ∧ Below w.heap.size w wr) (fun _ i _ => len - (intOf i).toNat)
  case atStart => exact ⟨0, Nat.zero_le _, rfl, World.ownsRow_nil _ _ _ _, Below.refl _ _⟩
  case round =>
    obtain ⟨j, hj, rfl, hown, hnx⟩ := hrel
    by_cases hjl : j < len
    · obtain ⟨y, hy⟩ : ∃ y, args[j]? = some y := ⟨_, List.getElem?_eq_getElem (by rw [← HL.out]; exact hjl)⟩
      obtain ⟨e0, e1, e2, e3, g0, g1, g2, g3, hye⟩ := HEL.out j y hy
      obtain rfl := HA.out (by omega)
      have u0 := cellUp g0 hnx
      have u1 := cellUp g1 hnx
      have u2' := cellUp g2 hnx
      have u3' := cellUp g3 hnx
      have HYE := hide (hye.below hnx)
      have hys := exT_size hye
      obtain ⟨a', cap', rfl, rfl, rfl, rfl⟩ := hye.shape
      obtain ⟨hyb, hyw⟩ := HOK.out j y hy
      have hyt : (Lat.exT m y).size ≤ maxLen := by unfold maxLen; omega
      have HST := hide (map_take (f := Lat.exT m) hy)
      have HNX := hide hnx
      have HOW := hide hown
      clear g0 g1 g2 g3 hye hy hnx hown hys
      go_wp2_with fail
      refine (HI.out _ _ _ _ _ y (HYE.out.below (boxBelow _ _)) hyb hyw ((HT.out.below HNX.out).below (boxBelow _ _))).mono ?_
      rintro e w5 ⟨rfl, hb5⟩
      have hb5' := up1 hb5
      have HN5 := hide (up HNX.out hb5')
      have HOW5 : Hid (Own w5 w.heap.size _ _) := hide (own_below HOW.out hb5')
      clear hb5 hb5' HNX HOW
      generalize Lat.exT m y = ty at *
      have hbs := HN5.out.size
      have hlt : ((args.take j).map (Lat.exT m)).length ≤ 4 := by rw [List.length_map, List.length_take]; omega
      go_wp2_with (first
        | (at_builtin; refine wpList_append_strs rfl _ _ rfl w.heap.size _ _ [ty] rfl (own_below HOW5.out (boxBelow _ _)) _ rfl (strs_lit1 rfl _ hyt) (by simp only [List.length_singleton]; omega) (by simp; omega) ?_; intro v' w2 hown2 hgrow2)
        | fail)
      have R2 := hide ((HN5.out.alloc hbs (.cells #[.string ty] 9)).grown hgrow2 (by simp; omega) (fun j hj => (HOW5.out.lt j hj).1))
      have HO2 := hide hown2
      clear hgrow2 hown2
      go_roundw
      case rel => exact ⟨j + 1, by omega, by go_num, by rw [HST.out]; exact HO2.out, R2.out⟩
      case measure => simp [intOf]; omega
    · have e : args.take j = args := List.take_of_length_le (by have := HL.out; omega)
      rw [e] at hown
      have HO2 := hide hown
      clear hown
      go_wp2
      go_ret
      exact ⟨_, rfl, HO2.out, hnx⟩

theorem texts_small {w : World} {m : Nat} {b off : Nat} {args : List Ex} (hel : ∀ i y, args[i]? = some y → ∃ e0 e1 e2 e3, w.cell? ⟨b, off + i * 4, none⟩ = some e0 ∧ w.cell? ⟨b, off + i * 4 + 1, none⟩ = some e1 ∧ w.cell? ⟨b, off + i * 4 + 2, none⟩ = some e2 ∧ w.cell? ⟨b, off + i * 4 + 3, none⟩ = some e3 ∧ ExAt w m e0 e1 e2 e3 y)
    (hw : (args.map (exW m)).sum ≤ 1048576) : ∀ s ∈ args.map (Lat.exT m), s.size ≤ maxLen := by
  intro s hs
  obtain ⟨y, hy, rfl⟩ := List.mem_map.1 hs
  obtain ⟨i, hi, rfl⟩ := List.mem_iff_getElem.1 hy
  obtain ⟨e0, e1, e2, e3, _, _, _, _, hye⟩ := hel i _ (List.getElem?_eq_getElem hi)
  have h1 := exT_size hye
  have h2 : exW m args[i] ≤ (args.map (exW m)).sum := mem_le_sum (List.getElem_mem hi)
  unfold maxLen; omega

set_option maxHeartbeats 4000000 in
set_option maxRecDepth 100000 in
theorem texprText_any (m : Nat) : ∀ (w : World) (c0 c1 c2 c3 : Value) (x : Ex), ExAt w m c0 c1 c2 c3 x → Lat.exprB m x = true → exW m x ≤ 1048576 → Tab w →
    Calls Tryz.prog 74 #[.agg #[c0, c1, c2, c3]] w fun e w' => e = .returned (.string (Lat.exT m x)) ∧ Below w.heap.size w w' := by
  induction m with
  | zero => intro w c0 c1 c2 c3 x h; exact False.elim h
  | succ m ih =>
    intro w c0 c1 c2 c3 x h hok hw ht
    have HI := hide (exprTexts_of m ih)
    clear ih
    have hsize := exT_size h
    obtain ⟨rfl, rfl, rfl, hsz, hk1, hk2, a, b, off, cap, rfl, ha, hl, hel⟩ := h
    rw [exprB_parts, Bool.and_eq_true] at hok
    obtain ⟨hparts, hall⟩ := hok
    obtain ⟨k, n, s, args⟩ := x
    simp only at hsz hk1 hk2 ha hl hel hall ⊢
    have hwa : (args.map (exW m)).sum ≤ 1048576 := by simp only [exW] at hw; omega
    have HB0 := hide (boxBelow w (.cells #[.int .i64 k, .int .i64 n, .string s, .slice a args.length cap] 72))
    have HT := hide (ht.below HB0.out)
    have hts := texts_small hel hwa
    by_cases h1 : k = 1
    · subst h1
      go_enter Tryz.func74, Tryz.ntmps74
      go_wp2_with fail
      refine (itoa_any _ n hk2 HT.out).mono ?_
      rintro e w1 ⟨rfl, hb1⟩
      have HB := hide (up1 hb1)
      clear hb1
      go_wp2_with fail
      go_ret
      exact ⟨ret_str (by simp [Lat.exT]), HB.out⟩
    by_cases h2 : k = 2
    · subst h2
      go_enter Tryz.func74, Tryz.ntmps74
      go_wp2_with fail
      go_ret
      exact ⟨ret_str (by simp [Lat.exT]), boxBelow _ _⟩
    have HEX : Hid (Lat.exT (m + 1) ⟨k, n, s, args⟩ = args.foldl (Lat.exStep (Lat.exT m)) (Lat.exHead ⟨k, n, s, args⟩) ++ (⟨#[41]⟩ : ByteArray)) := hide (by simp only [Lat.exT]; rw [if_neg h1, if_neg h2])
    by_cases h3 : k = 3
    · subst h3
      have hl4 : args.length ≤ 4 := by
        simp [Lat.partsB] at hparts; omega
      have HTX : Hid (Lat.exT (m + 1) ⟨3, n, s, args⟩ = Lat.brk (s :: args.map (Lat.exT m))) := hide (by
        rw [HEX.out]; exact (op_text ⟨3, n, s, args⟩ (Lat.exT m) (by simp)).symm)
      have hbs : (Lat.brk [[s], args.map (Lat.exT m)].flatten).size ≤ 16777216 := by
        have e : [[s], args.map (Lat.exT m)].flatten = s :: args.map (Lat.exT m) := by simp
        rw [e, ← HTX.out]; omega
      have HXT : Hid (∀ W, Hid (Below (w.alloc (.cells #[.int .i64 3, .int .i64 n, .string s, .slice a args.length cap] 72)).heap.size (w.alloc (.cells #[.int .i64 3, .int .i64 n, .string s, .slice a args.length cap] 72)) W) →
          Calls Tryz.prog 102 #[.slice a args.length cap] W fun e w' => ∃ a' cap', e = .returned (.slice a' args.length cap') ∧ Strs w' (.slice a' args.length cap') (args.map (Lat.exT m)) ∧ Below W.heap.size W w') := fun W hW => by
        have hbW := up HB0.out hW.out
        refine (HI.out W a b off cap args ha hl4 (fun i y hy => ?_) hall hwa (ht.below hbW)).mono ?_
        · obtain ⟨e0, e1, e2, e3, g0, g1, g2, g3, hye⟩ := hel i y hy
          exact ⟨e0, e1, e2, e3, cellUp g0 hbW, cellUp g1 hbW, cellUp g2 hbW, cellUp g3 hbW, hye.below hbW⟩
        · rintro e w' ⟨v', rfl, ho, hb'⟩
          have hs' := ho.strs hts (by rw [List.length_map]; omega)
          obtain ⟨a', cap', rfl, _⟩ := hs'.shape
          rw [List.length_map] at hs' ⊢
          exact ⟨a', cap', rfl, hs', hb'⟩
      have q2 : (w.alloc (.cells #[.int .i64 3, .int .i64 n, .string s, .slice a args.length cap] 72)).cell? ⟨w.heap.size, 2, none⟩ = some (.string s) := by simp [go_sem]
      have q3 := boxCells4 w (.int .i64 3) (.int .i64 n) (.string s) (.slice a args.length cap) 72
      have HBS := hide hbs
      clear hel ha hall hts hw hwa hparts h1 h2 hbs hsize ht HI
      generalize args.length = len at *
      go_enter Tryz.func74, Tryz.ntmps74
      go_wp2_with fail
      generalize (w.alloc (.cells #[.int .i64 3, .int .i64 n, .string s, .slice a len cap] 72)) = W0 at *
      have HF : Hid (∀ wx, Hid (Below W0.heap.size W0 wx) → Hid (Below W0.heap.size W0 wx) ∧ wx.cell? ⟨w.heap.size, 2, none⟩ = some (.string s) ∧ wx.cell? ⟨w.heap.size, 3, none⟩ = some (.slice a len cap)) :=
        fun wx h => ⟨h, cellUp q2 h.out, cellUp q3 h.out⟩
      have H00 : Hid (Below W0.heap.size W0 W0) := hide (Below.refl _ _)
      clear q2 q3
      go_region_held3 (fun wx => Hid (Below W0.heap.size W0 wx) ∧ wx.cell? ⟨w.heap.size, 2, none⟩ = some (.string s) ∧ wx.cell? ⟨w.heap.size, 3, none⟩ = some (.slice a len cap))
        ((refine HF.out _ ?_; repeat (first | exact HW31 | exact HW30 | exact H00 | apply hidB_drew | apply hidB_alloc)))
        (first
          | (go_at_call 102; refine (HXT.out _ (hidB_drew (hidB_alloc (o := .cells #[.string s] 9) H00))).mono ?_; rintro e w30 ⟨a', cap', rfl, hs30, hb30⟩; have HW30 := hide (up (hidB_drew (hidB_alloc (o := .cells #[.string s] 9) H00)).out hb30); have HS30 := hide hs30; have HV := hide ((strs_lit1 (w := W0) rfl s hsz).drewUp.below hb30); clear hb30 hs30)
          | (go_at_call 102; refine (HXT.out _ (hidB_drew H00)).mono ?_; rintro e w30 ⟨a', cap', rfl, hs30, hb30⟩; have HW30 := hide (up (hidB_drew H00).out hb30); have HS30 := hide hs30; clear hb30 hs30)
          | (go_at_call 42; refine (brackets_any _ _ [[s], args.map (Lat.exT m)] ?_ HBS.out).mono ?_; (refine strsS_2 (by simp) ?_ ?_ <;> repeat (first | exact HV.out | exact HS30.out | exact strs_lit1 (by simp) s hsz | apply Strs.drewUp | apply Strs.allocUp)); rintro e w31 ⟨rfl, hb31⟩; have HW31 : Hid (Below W0.heap.size W0 w31) := hide (up (w := W0) (unhide (by repeat (first | exact HW30 | apply hidB_drew | apply hidB_alloc))) hb31); clear hb31))
      all_goals
        go_wp2_with fail
        go_ret
        exact ⟨ret_str (by rw [HTX.out]), up HB0.out HW31.out⟩
    by_cases h4 : k = 4
    · subst h4
      have hl4 : args.length ≤ 4 := by
        simp [Lat.partsB] at hparts; omega
      have HTX : Hid (Lat.exT (m + 1) ⟨4, n, s, args⟩ = Lat.brk (⟨#[99, 97, 108, 108]⟩ :: s :: args.map (Lat.exT m))) := hide (by
        rw [HEX.out]; exact (call_text ⟨4, n, s, args⟩ (Lat.exT m) rfl).symm)
      have hbs : (Lat.brk [[⟨#[99, 97, 108, 108]⟩, s], args.map (Lat.exT m)].flatten).size ≤ 16777216 := by
        have e : [[⟨#[99, 97, 108, 108]⟩, s], args.map (Lat.exT m)].flatten = ⟨#[99, 97, 108, 108]⟩ :: s :: args.map (Lat.exT m) := by simp
        rw [e, ← HTX.out]; omega
      have HXT : Hid (∀ W, Hid (Below (w.alloc (.cells #[.int .i64 4, .int .i64 n, .string s, .slice a args.length cap] 72)).heap.size (w.alloc (.cells #[.int .i64 4, .int .i64 n, .string s, .slice a args.length cap] 72)) W) →
          Calls Tryz.prog 102 #[.slice a args.length cap] W fun e w' => ∃ a' cap', e = .returned (.slice a' args.length cap') ∧ Strs w' (.slice a' args.length cap') (args.map (Lat.exT m)) ∧ Below W.heap.size W w') := fun W hW => by
        have hbW := up HB0.out hW.out
        refine (HI.out W a b off cap args ha hl4 (fun i y hy => ?_) hall hwa (ht.below hbW)).mono ?_
        · obtain ⟨e0, e1, e2, e3, g0, g1, g2, g3, hye⟩ := hel i y hy
          exact ⟨e0, e1, e2, e3, cellUp g0 hbW, cellUp g1 hbW, cellUp g2 hbW, cellUp g3 hbW, hye.below hbW⟩
        · rintro e w' ⟨v', rfl, ho, hb'⟩
          have hs' := ho.strs hts (by rw [List.length_map]; omega)
          obtain ⟨a', cap', rfl, _⟩ := hs'.shape
          rw [List.length_map] at hs' ⊢
          exact ⟨a', cap', rfl, hs', hb'⟩
      have q2 : (w.alloc (.cells #[.int .i64 4, .int .i64 n, .string s, .slice a args.length cap] 72)).cell? ⟨w.heap.size, 2, none⟩ = some (.string s) := by simp [go_sem]
      have q3 := boxCells4 w (.int .i64 4) (.int .i64 n) (.string s) (.slice a args.length cap) 72
      have HBS := hide hbs
      clear hel ha hall hts hw hwa hparts h1 h2 h3 hbs hsize ht HI
      generalize args.length = len at *
      go_enter Tryz.func74, Tryz.ntmps74
      go_wp2_with fail
      generalize (w.alloc (.cells #[.int .i64 4, .int .i64 n, .string s, .slice a len cap] 72)) = W0 at *
      have HF : Hid (∀ wx, Hid (Below W0.heap.size W0 wx) → Hid (Below W0.heap.size W0 wx) ∧ wx.cell? ⟨w.heap.size, 2, none⟩ = some (.string s) ∧ wx.cell? ⟨w.heap.size, 3, none⟩ = some (.slice a len cap)) :=
        fun wx h => ⟨h, cellUp q2 h.out, cellUp q3 h.out⟩
      have H00 : Hid (Below W0.heap.size W0 W0) := hide (Below.refl _ _)
      clear q2 q3
      go_region_held3 (fun wx => Hid (Below W0.heap.size W0 wx) ∧ wx.cell? ⟨w.heap.size, 2, none⟩ = some (.string s) ∧ wx.cell? ⟨w.heap.size, 3, none⟩ = some (.slice a len cap))
        ((refine HF.out _ ?_; repeat (first | exact HW31 | exact HW30 | exact H00 | apply hidB_drew | apply hidB_alloc)))
        (first
          | (go_at_call 102; refine (HXT.out _ (hidB_drew (hidB_alloc (o := .cells #[.string ⟨#[99, 97, 108, 108]⟩, .string s] 9) H00))).mono ?_; rintro e w30 ⟨a', cap', rfl, hs30, hb30⟩; have HW30 := hide (up (hidB_drew (hidB_alloc (o := .cells #[.string ⟨#[99, 97, 108, 108]⟩, .string s] 9) H00)).out hb30); have HS30 := hide hs30; have HV := hide ((strs_lit2 (w := W0) rfl ⟨#[99, 97, 108, 108]⟩ s (by decide) hsz).drewUp.below hb30); clear hb30 hs30)
          | (go_at_call 102; refine (HXT.out _ (hidB_drew H00)).mono ?_; rintro e w30 ⟨a', cap', rfl, hs30, hb30⟩; have HW30 := hide (up (hidB_drew H00).out hb30); have HS30 := hide hs30; clear hb30 hs30)
          | (go_at_call 42; refine (brackets_any _ _ [[⟨#[99, 97, 108, 108]⟩, s], args.map (Lat.exT m)] ?_ HBS.out).mono ?_; (refine strsS_2 (by simp) ?_ ?_ <;> repeat (first | exact HV.out | exact HS30.out | exact strs_lit2 (by simp) ⟨#[99, 97, 108, 108]⟩ s (by decide) hsz | apply Strs.drewUp | apply Strs.allocUp)); rintro e w31 ⟨rfl, hb31⟩; have HW31 : Hid (Below W0.heap.size W0 w31) := hide (up (w := W0) (unhide (by repeat (first | exact HW30 | apply hidB_drew | apply hidB_alloc))) hb31); clear hb31))
      all_goals
        go_wp2_with fail
        go_ret
        exact ⟨ret_str (by rw [HTX.out]), up HB0.out HW31.out⟩
    exfalso
    simp [Lat.partsB, h1, h2, h3, h4] at hparts

end Go.Proofs.YtbncnkfogkhoeabGreatDoor
