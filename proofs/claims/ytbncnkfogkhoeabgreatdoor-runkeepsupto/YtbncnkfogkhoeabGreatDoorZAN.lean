/- Walks over package tree: funTexts. -/
import Derived.Test.YtbncnkfogkhoeabGreatDoorZAM
import Derived.Deep.AppendLies
import Derived.Test.YtbncnkfogkhoeabGreatDoorZAK
namespace Go.Proofs.YtbncnkfogkhoeabGreatDoor
open Go.RowKit

namespace Lat
def fuX (m : Nat) (f : Fu) : ByteArray := brk [[⟨#[102, 117, 110]⟩, f.name, brk f.params], txs m f.body, [exT m f.result]].flatten
end Lat

theorem par_jn (l : List ByteArray) (acc : ByteArray) : ∀ j, j ≤ l.length → Lat.parTo l acc j = acc ++ Lat.jn (l.take j)
  | 0, _ => by
    apply bytes_ext
    rw [app_list, jn_list]; simp [Lat.parTo, Lib.join_nil]
  | j + 1, hj => by
    obtain ⟨y, hy⟩ : ∃ y, l[j]? = some y := ⟨_, List.getElem?_eq_getElem (by omega)⟩
    have e1 : l.take (j + 1) = l.take j ++ [y] := by
      have := map_take (f := id) hy
      simpa using this
    have e2 : l.getD j ByteArray.empty = y := by rw [List.getD, hy]; rfl
    have e3 : (l.take j).length = j := by rw [List.length_take]; omega
    rw [parTo_succ, par_jn l acc j (by omega), e1, e2, jn_snoc, e3]
    apply bytes_ext
    by_cases h : 0 < j
    · rw [if_pos h, if_pos h]; simp only [app_list, List.append_assoc]
    · rw [if_neg h, if_neg h]; simp only [app_list, List.append_assoc]

theorem tail_jn {l : List ByteArray} (h : l ≠ []) : Lib.joinTail [32] (l.map (·.data.toList)) = 32 :: (Lat.jn l).data.toList := by
  cases l with
  | nil => exact absurd rfl h
  | cons y l =>
    rw [jn_list, List.map_cons, Lib.join_cons]
    simp [Lib.joinTail]
theorem tail_cons (x : List UInt8) (r : List (List UInt8)) : Lib.joinTail [32] (x :: r) = 32 :: (x ++ Lib.joinTail [32] r) := by simp [Lib.joinTail]
theorem txs_nil {m : Nat} (hm : m ≠ 0) (l : List St) : Lat.txs m l = [] ↔ l = [] := by
  cases m with
  | zero => exact absurd rfl hm
  | succ m => simp [Lat.txs]

theorem fuT_eq {m : Nat} (hm : m ≠ 0) (acc : ByteArray) (f : Fu) : (Lat.fuT m acc f).data.toList = acc.data.toList ++ 32 :: (Lat.fuX m f).data.toList := by
  unfold Lat.fuT Lat.fuB Lat.fuP Lat.fuH Lat.fuX
  rw [par_jn _ _ _ (Nat.le_refl _), List.take_length, brk_list]
  by_cases h : 0 < f.body.length
  · have hne : Lat.txs m f.body ≠ [] := by
      rw [ne_eq, txs_nil hm]; intro e; rw [e] at h; simp at h
    rw [if_pos h, bdT_jn]
    have hfl : [[(⟨#[102, 117, 110]⟩ : ByteArray), f.name, Lat.brk f.params], Lat.txs m f.body, [Lat.exT m f.result]].flatten = ⟨#[102, 117, 110]⟩ :: f.name :: Lat.brk f.params :: (Lat.txs m f.body ++ [Lat.exT m f.result]) := by simp
    rw [hfl, List.map_cons, Lib.join_cons, List.map_cons, tail_cons, List.map_cons, tail_cons, List.map_append, joinTail_app, tail_jn hne, List.map_cons, tail_cons, List.map_nil, brk_list, jn_list]
    simp [jn_list, Lib.joinTail]
  · have he : f.body = [] := List.length_eq_zero_iff.1 (by omega)
    have hne : Lat.txs m f.body = [] := (txs_nil hm _).2 he
    rw [if_neg h, hne]
    simp [Lib.join_cons, Lib.joinTail, brk_list, jn_list]

theorem fuX_size {w : World} {m : Nat} {vp vb e0 e1 e2 e3 : Value} {f : Fu} (h : FuAt w m vp vb e0 e1 e2 e3 f) (hw : fuW m f ≤ 1048576) : (Lat.fuX m f).size ≤ 12582912 := by
  have hm : m ≠ 0 := by
    rintro rfl
    exact h.2.2.1
  have h1 := fuT_size h.2.2.1 h.2.2.2 ⟨#[]⟩
  have h2 := congrArg List.length (fuT_eq hm ⟨#[]⟩ f)
  rw [List.length_append, List.length_cons, size_list, size_list, size_list] at h2
  have e : (⟨#[]⟩ : ByteArray).size = 0 := rfl
  omega
theorem par_size {f : Fu} {m : Nat} (hw : fuW m f ≤ 1048576) : (Lat.brk f.params).size ≤ 1048580 := by
  have h1 := parTo_all f.params ⟨#[]⟩ f.params.length (Nat.le_refl _)
  rw [par_jn _ _ _ (Nat.le_refl _), List.take_length, ByteArray.size_append] at h1
  have e : (⟨#[]⟩ : ByteArray).size = 0 := rfl
  unfold fuW strsW at hw
  rw [brk_size]; omega

theorem step_append_one {w : World} {ops : Array Oper} {o : Oper} {a : Act} {K : Act → World → Prop} {Q : Exit → Act → World → Prop} {E : Prop} (hgd : o.guard = none) (s x : Operand)
    (ho : o.op = .call { callee := .builtin .append, args := #[s, x], argTypes := #[22, 22] })
    (base : Nat) (v : Value) (l : List ByteArray) (hs : a.eval s = v) (hown : Own w base v l) (B : Nat) (t : ByteArray) (hx : a.eval x = .slice (some ⟨B, 0, none⟩) 1 1)
    (hc : w.cell? ⟨B, 0, none⟩ = some (.string t)) (hl : l.length ≤ 1048576) (hbase : base ≤ w.heap.size)
    (h : ∀ g cap w', Own w' base (.slice (some ⟨g, 0, none⟩) (l.length + 1) cap) (l ++ [t]) → w.grownBy w' v.ownBlock → K (a.put o.dst (.slice (some ⟨g, 0, none⟩) (l.length + 1) cap)) w') :
    if Region.wanted o (yielded ops a.tmps) = true then Oper.wp Tryz.prog o a w K Q else E := by
  obtain ⟨iS, hiS, hz0, hz1, hz2⟩ := info_parts infoStr
  have hown' : w.ownsRow base 9 1 v l.length (l.map Value.string) := hown
  refine step_append_lies w hgd s x 22 ho base 9 iS (.string ⟨#[]⟩) 1 16 Tryz.underlying22 hiS hz0 hz1 hz2 rfl (by decide) v l.length (l.map Value.string) hs hown' ⟨B, 0, none⟩ 1 1 [.string t] hx rfl (fun j u hu => ?_) (fun u hu => ?_) (by decide) (by unfold maxLen; omega) (by omega) hbase w.heap.size rfl ?_
  · cases j with
    | zero =>
      simp at hu
      subst hu
      rw [Addr.add_lit]; exact hc
    | succ j => simp at hu
  · simp at hu
    subst hu
    rfl
  · intro g cap w' h1 h2 _ _
    refine h g cap w' ?_ h2
    unfold Own
    rw [List.length_append, List.map_append]
    exact h1

theorem keep_app {w wr Wc w2 : World} {o : Value} {l : List ByteArray} (hO : Own wr w.heap.size o l) (hB : Below w.heap.size w Wc) (hlt : wr.heap.size < Wc.heap.size) (hg : Wc.grownBy w2 o.ownBlock) :
    Below w.heap.size w w2 ∧ ∀ k, w2.cell? ⟨wr.heap.size, k, none⟩ = Wc.cell? ⟨wr.heap.size, k, none⟩ := by
  refine ⟨hB.grown hg hB.size (fun j hj => (hO.lt j hj).1), fun k => hg.cell_far _ hlt (fun e => ?_)⟩
  have := (hO.lt wr.heap.size e.symm).2
  omega
theorem app_step {w wr W1 Wc w2 : World} {o : Value} {l : List ByteArray} {c2 c3 c4 c5 c6 : Value} (hO : Own wr w.heap.size o l) (h1 : Hid (Below W1.heap.size W1 Wc)) (hz : wr.heap.size < W1.heap.size) (hg : Wc.grownBy w2 o.ownBlock)
    (hF : ∀ wx, Hid (Below W1.heap.size W1 wx) → Hid (Below w.heap.size w wx) ∧ wx.cell? ⟨wr.heap.size, 2, none⟩ = some c2 ∧ wx.cell? ⟨wr.heap.size, 3, none⟩ = some c3 ∧ wx.cell? ⟨wr.heap.size, 3 + 1, none⟩ = some c4 ∧ wx.cell? ⟨wr.heap.size, 3 + 2, none⟩ = some c5 ∧ wx.cell? ⟨wr.heap.size, 3 + 3, none⟩ = some c6) :
    Hid (Below w.heap.size w w2) ∧ w2.cell? ⟨wr.heap.size, 2, none⟩ = some c2 ∧ w2.cell? ⟨wr.heap.size, 3, none⟩ = some c3 ∧ w2.cell? ⟨wr.heap.size, 3 + 1, none⟩ = some c4 ∧ w2.cell? ⟨wr.heap.size, 3 + 2, none⟩ = some c5 ∧ w2.cell? ⟨wr.heap.size, 3 + 3, none⟩ = some c6 := by
  obtain ⟨f1, f2, f3, f4, f5, f6⟩ := hF Wc h1
  obtain ⟨k1, k2⟩ := keep_app hO f1.out (by have := h1.out.size; omega) hg
  exact ⟨hide k1, by rw [k2]; exact f2, by rw [k2]; exact f3, by rw [k2]; exact f4, by rw [k2]; exact f5, by rw [k2]; exact f6⟩
theorem cell_lit (w : World) (t : ByteArray) (ty : TypeId) : (w.alloc (.cells #[.string t] ty)).cell? ⟨w.heap.size, 0, none⟩ = some (.string t) := by simp [go_sem]

set_option maxHeartbeats 4000000 in
set_option maxRecDepth 100000 in
theorem funTexts_any (m : Nat) (w : World) (v : Value) (l : List Fu) (h : FusAt w m v l) (hok : ∀ f ∈ l, Lat.bodyB m f.body = true ∧ Lat.exprB m f.result = true) (hw : fusW m l ≤ 1048576) (ht : Tab w) :
    Calls Tryz.prog 45 #[v] w fun e w' => ∃ a n c, e = .returned (.slice a n c) ∧ Strs w' (.slice a n c) (l.map (Lat.fuX m)) ∧ Below w.heap.size w w' := by
  obtain ⟨a, b, off, cap, rfl, ha, hl, hel⟩ := h
  rw [fusW_eq] at hw
  have HW : Hid (∀ y ∈ l, fuW m y ≤ 1048576) := hide (fun y hy => by
    have := mem_le_sum (f := fuW m) hy
    omega)
  have hll : l.length ≤ 1048576 := by
    have := len_le_sum (l := l) (f := fuW m) (fun y _ => by unfold fuW; omega)
    omega
  have HTS : Hid (∀ t ∈ l.map (Lat.fuX m), t.size ≤ maxLen) := hide (fun t htm => by
    obtain ⟨y, hy, rfl⟩ := List.mem_map.1 htm
    obtain ⟨i, hi, rfl⟩ := List.mem_iff_getElem.1 hy
    obtain ⟨k1, vp, vb, e0, e1, e2, e3, _, _, _, _, _, _, _, hp, hsb, hx⟩ := hel i _ (List.getElem?_eq_getElem hi)
    have h1 : FuAt w m vp vb e0 e1 e2 e3 l[i] := ⟨k1, hp, hsb, hx⟩
    have h2 := fuX_size h1 (HW.out _ hy)
    unfold maxLen; omega)
  have HOK := hide hok
  have HEL := hide hel
  have HA := hide ha
  have HT := hide ht
  clear hel ha hw hok ht
  obtain ⟨len, hlen⟩ : ∃ len, len = l.length := ⟨_, rfl⟩
  have HL := hide hlen
  rw [← hlen] at hl HA hll ⊢
  clear hlen
  go_enter Tryz.func45, Tryz.ntmps45
  go_wp2
  go_loopw [3, 9] (fun o i wr => ∃ j : Nat, j ≤ len ∧ i = .int .i64 j ∧ Own wr w.heap.size o ((l.take j).map (Lat.fuX m)) ∧ Below w.heap.size w wr) (fun _ i _ => len - (intOf i).toNat)
  case atStart => exact ⟨0, Nat.zero_le _, rfl, World.ownsRow_nil _ _ _ _, Below.refl _ _⟩
  case round =>
    rename_i o0 _
    obtain ⟨j, hj, rfl, hown, hnx⟩ := hrel
    by_cases hjl : j < len
    · obtain ⟨y, hy⟩ : ∃ y, l[j]? = some y := ⟨_, List.getElem?_eq_getElem (by rw [← HL.out]; exact hjl)⟩
      obtain ⟨k1, vp, vb, e0, e1, e2, e3, g0, g1, g2, g3, g4, g5, g6, hp, hsb, hx⟩ := HEL.out j y hy
      have hyw := HW.out y (List.mem_of_getElem? hy)
      obtain ⟨okb, oke⟩ := HOK.out y (List.mem_of_getElem? hy)
      have HST := hide (map_take (f := Lat.fuX m) hy)
      obtain rfl := HA.out (by omega)
      have u0 := cellUp g0 hnx
      have u1 := cellUp g1 hnx
      have u2' := cellUp g2 hnx
      have u3' := cellUp g3 hnx
      have u4 := cellUp g4 hnx
      have u5 := cellUp g5 hnx
      have u6 := cellUp g6 hnx
      have hat : FuAt wr m vp vb e0 e1 e2 e3 y := ⟨k1, hp.below hnx, hsb.below hnx, hx.below hnx⟩
      have hys := fuX_size hat hyw
      have hps := par_size hyw
      have hyt : (Lat.fuX m y).size ≤ maxLen := by unfold maxLen; omega
      have hpt : (Lat.brk y.params).size ≤ maxLen := by unfold maxLen; omega
      have hxt : (Lat.exT m y.result).size ≤ maxLen := by
        have := exT_size hat.2.2.2
        unfold fuW at hyw
        unfold maxLen; omega
      have w1 : exW m y.result ≤ 1048576 := by unfold fuW at hyw; omega
      have w2 : stsW m y.body ≤ 1048576 := by unfold fuW at hyw; omega
      have HAT := hide hat
      obtain ⟨ae, ce, rfl, rfl, rfl, rfl⟩ := hx.shape
      obtain ⟨a1, cap1, rfl, hl1⟩ := hsb.shape
      obtain ⟨a2, cap2, rfl, hl2⟩ := hp.shape
      have HNX := hide hnx
      have HOW := hide hown
      have HTr := hide (HT.out.below hnx)
      have HPB : Hid (∀ W v, StrsS W v [y.params] → Calls Tryz.prog 42 #[v] W fun e w' => e = .returned (.string (Lat.brk y.params)) ∧ Below W.heap.size W w') := fun W v h => by
        have := brackets_any W v [y.params] h (by rw [List.flatten_singleton]; omega)
        rw [List.flatten_singleton] at this
        exact this
      have HFB : Hid (∀ W v, StrsS W v [[⟨#[102, 117, 110]⟩, y.name, Lat.brk y.params], Lat.txs m y.body, [Lat.exT m y.result]] → Calls Tryz.prog 42 #[v] W fun e w' => e = .returned (.string (Lat.fuX m y)) ∧ Below W.heap.size W w') := fun W v h =>
        brackets_any W v _ h (by show (Lat.fuX m y).size ≤ _; omega)
      have HCT : Hid (∀ W, Hid (Below wr.heap.size wr W) → Calls Tryz.prog 73 #[.slice a1 y.body.length cap1] W fun e w' => ∃ a n c, e = .returned (.slice a n c) ∧ Strs w' (.slice a n c) (Lat.txs m y.body) ∧ Below W.heap.size W w') :=
        fun W hW => commandTexts_any m W _ y.body (HAT.out.below hW.out).2.2.1 okb w2 (HTr.out.below hW.out)
      have HXT : Hid (∀ W, Hid (Below wr.heap.size wr W) → Calls Tryz.prog 74 #[.agg #[.int .i64 y.result.kind, .int .i64 y.result.n, .string y.result.name, .slice ae y.result.args.length ce]] W fun e w' => e = .returned (.string (Lat.exT m y.result)) ∧ Below W.heap.size W w') :=
        fun W hW => texprText_any m W _ _ _ _ y.result (HAT.out.below hW.out).2.2.2 oke w1 (HTr.out.below hW.out)
      have HPS := hide (HAT.out.2.1)
      clear g0 g1 g2 g3 g4 g5 g6 hx hsb hp hy hnx hown hat hys hps hyw
      generalize y.result.args.length = le at *
      generalize y.body.length = l1 at *
      have hl2e : y.params.length ≤ 9223372036854775807 := hl2
      generalize y.params.length = l2 at *
      have q0 := box7_0 wr (.string y.name) (.slice a2 l2 cap2) (.slice a1 l1 cap1) (.int .i64 y.result.kind) (.int .i64 y.result.n) (.string y.result.name) (.slice ae le ce) 74
      have q1 := box7_1 wr (.string y.name) (.slice a2 l2 cap2) (.slice a1 l1 cap1) (.int .i64 y.result.kind) (.int .i64 y.result.n) (.string y.result.name) (.slice ae le ce) 74
      have q2 := box7_2 wr (.string y.name) (.slice a2 l2 cap2) (.slice a1 l1 cap1) (.int .i64 y.result.kind) (.int .i64 y.result.n) (.string y.result.name) (.slice ae le ce) 74
      have q3 := box7_3 wr (.string y.name) (.slice a2 l2 cap2) (.slice a1 l1 cap1) (.int .i64 y.result.kind) (.int .i64 y.result.n) (.string y.result.name) (.slice ae le ce) 74
      have q4 := box7_4 wr (.string y.name) (.slice a2 l2 cap2) (.slice a1 l1 cap1) (.int .i64 y.result.kind) (.int .i64 y.result.n) (.string y.result.name) (.slice ae le ce) 74
      have q5 := box7_5 wr (.string y.name) (.slice a2 l2 cap2) (.slice a1 l1 cap1) (.int .i64 y.result.kind) (.int .i64 y.result.n) (.string y.result.name) (.slice ae le ce) 74
      have q6 := box7_6 wr (.string y.name) (.slice a2 l2 cap2) (.slice a1 l1 cap1) (.int .i64 y.result.kind) (.int .i64 y.result.n) (.string y.result.name) (.slice ae le ce) 74
      have HB0 := hide (boxBelow wr (.cells #[.string y.name, .slice a2 l2 cap2, .slice a1 l1 cap1, .int .i64 y.result.kind, .int .i64 y.result.n, .string y.result.name, .slice ae le ce] 74))
      have HZ : Hid (wr.heap.size < (wr.alloc (.cells #[.string y.name, .slice a2 l2 cap2, .slice a1 l1 cap1, .int .i64 y.result.kind, .int .i64 y.result.n, .string y.result.name, .slice ae le ce] 74)).heap.size) := hide (by simp)
      go_wp2_with fail
      generalize (wr.alloc (.cells #[.string y.name, .slice a2 l2 cap2, .slice a1 l1 cap1, .int .i64 y.result.kind, .int .i64 y.result.n, .string y.result.name, .slice ae le ce] 74)) = W0 at *
      have HF : Hid (∀ wx, Hid (Below W0.heap.size W0 wx) → Hid (Below W0.heap.size W0 wx) ∧ wx.cell? ⟨wr.heap.size, 0, none⟩ = some (.string y.name) ∧ wx.cell? ⟨wr.heap.size, 1, none⟩ = some (.slice a2 l2 cap2)) :=
        fun wx h => ⟨h, cellUp q0 h.out, cellUp q1 h.out⟩
      have H00 : Hid (Below W0.heap.size W0 W0) := hide (Below.refl _ _)
      have HPS0 := hide (HPS.out.below HB0.out)
      have HQ := hide (And.intro q2 (And.intro q3 (And.intro q4 (And.intro q5 q6))))
      clear q0 q1 q2 q3 q4 q5 q6
      go_region_held3 (fun wx => Hid (Below W0.heap.size W0 wx) ∧ wx.cell? ⟨wr.heap.size, 0, none⟩ = some (.string y.name) ∧ wx.cell? ⟨wr.heap.size, 1, none⟩ = some (.slice a2 l2 cap2))
        ((refine HF.out _ ?_; repeat (first | exact HW30 | exact H00 | apply hidB_drew | apply hidB_alloc)))
        (first
          | (go_at_call 42; refine (HPB.out _ _ ?_).mono ?_; (refine strsS_1 (by simp) ?_; repeat (first | exact HPS0.out | apply Strs.drewUp)); rintro e w30 ⟨rfl, hb30⟩; have HW30 : Hid (Below W0.heap.size W0 w30) := hide (up (w := W0) (unhide (by repeat (first | exact H00 | apply hidB_drew | apply hidB_alloc))) hb30); clear hb30))
      all_goals
        go_wp2_with fail
        have HHD := hide (strs_lit3 (w := w30) rfl ⟨#[102, 117, 110]⟩ y.name (Lat.brk y.params) (by decide) k1 hpt)
        have HW1 : Hid (Below W0.heap.size W0 (w30.alloc (.cells #[.string ⟨#[102, 117, 110]⟩, .string y.name, .string (Lat.brk y.params)] 9))) := hidB_alloc HW30
        generalize (w30.alloc (.cells #[.string ⟨#[102, 117, 110]⟩, .string y.name, .string (Lat.brk y.params)] 9)) = W1 at *
        generalize w30.heap.size = B1 at *
        have HR1 : Hid (Below wr.heap.size wr W1) := hide (up HB0.out HW1.out)
        have HZ1 : Hid (wr.heap.size < W1.heap.size) := hide (by have := HZ.out; have := HW1.out.size; omega)
        have HO1 : Hid (Own W1 w.heap.size _ _) := hide (own_below HOW.out HR1.out)
        have HF1 : Hid (∀ wx, Hid (Below W1.heap.size W1 wx) → Hid (Below w.heap.size w wx) ∧ wx.cell? ⟨wr.heap.size, 2, none⟩ = some (.slice a1 l1 cap1) ∧ wx.cell? ⟨wr.heap.size, 3, none⟩ = some (.int .i64 y.result.kind) ∧
            wx.cell? ⟨wr.heap.size, 3 + 1, none⟩ = some (.int .i64 y.result.n) ∧ wx.cell? ⟨wr.heap.size, 3 + 2, none⟩ = some (.string y.result.name) ∧ wx.cell? ⟨wr.heap.size, 3 + 3, none⟩ = some (.slice ae le ce)) :=
          fun wx h => ⟨hide (up HNX.out (up HR1.out h.out)), cellUp (cellUp HQ.out.1 HW1.out) h.out, cellUp (cellUp HQ.out.2.1 HW1.out) h.out, cellUp (cellUp HQ.out.2.2.1 HW1.out) h.out, cellUp (cellUp HQ.out.2.2.2.1 HW1.out) h.out, cellUp (cellUp HQ.out.2.2.2.2 HW1.out) h.out⟩
        have H11 : Hid (Below W1.heap.size W1 W1) := hide (Below.refl _ _)
        have hlt : ((l.take j).map (Lat.fuX m)).length ≤ 1048576 := by rw [List.length_map, List.length_take]; omega
        go_region_held3 (fun wx => Hid (Below w.heap.size w wx) ∧ wx.cell? ⟨wr.heap.size, 2, none⟩ = some (.slice a1 l1 cap1) ∧ wx.cell? ⟨wr.heap.size, 3, none⟩ = some (.int .i64 y.result.kind) ∧
            wx.cell? ⟨wr.heap.size, 3 + 1, none⟩ = some (.int .i64 y.result.n) ∧ wx.cell? ⟨wr.heap.size, 3 + 2, none⟩ = some (.string y.result.name) ∧ wx.cell? ⟨wr.heap.size, 3 + 3, none⟩ = some (.slice ae le ce))
          (first | exact HSA.out | (refine HF1.out _ ?_; repeat (first | exact HW33 | exact HW32 | exact HW31 | exact H11 | apply hidB_drew | apply hidB_alloc)))
          (first
            | (go_at_call 73; refine (HCT.out _ (hide (up HR1.out (unhide (by repeat (first | exact H11 | apply hidB_drew)))))).mono ?_; rintro e w31 ⟨x1, n1, c1, rfl, hs31, hb31⟩; have HW31 : Hid (Below W1.heap.size W1 w31) := hide (up (w := W1) (unhide (by repeat (first | exact H11 | apply hidB_drew))) hb31); have HS31 := hide hs31; clear hb31 hs31)
            | (go_at_call 74; refine (HXT.out _ (hide (up HR1.out (unhide (by repeat (first | exact HW31 | apply hidB_drew)))))).mono ?_; rintro e w32 ⟨rfl, hb32⟩; have HW32 : Hid (Below W1.heap.size W1 w32) := hide (up (w := W1) (unhide (by repeat (first | exact HW31 | apply hidB_drew))) hb32); have HS32 := hide (HS31.out.below (show Below w31.heap.size w31 w32 from hb32)); clear hb32)
            | (go_at_call 42; have hg := HS32; clear hg; refine (HFB.out _ _ ?_).mono ?_; (refine strsS_3 (by simp) ?_ ?_ ?_ <;> repeat (first | exact HS32.out | exact (HHD.out.below HW32.out) | exact strs_lit1 (w := w32) (by simp) _ hxt | apply Strs.drewUp | apply Strs.allocUp)); rintro e w33 ⟨rfl, hb33⟩; have HW33 : Hid (Below W1.heap.size W1 w33) := hide (up (w := W1) (unhide (by repeat (first | exact HW32 | apply hidB_drew | apply hidB_alloc))) hb33); clear hb33)
            | (refine step_append_one (by rfl) _ _ (by rfl) w.heap.size _ _ (by rfl) (own_below HO1.out (unhide (by repeat (first | exact HW33 | apply hidB_drew | apply hidB_alloc)))) _ (Lat.fuX m y) (by rfl) (cell_lit _ _ _) hlt (by have := (HF1.out _ HW33).1.out.size; simp; omega) ?_; intro g cap36 w36 hown36 hgrow36; have HO36 := hide hown36; have HSA : Hid (Hid (Below w.heap.size w w36) ∧ w36.cell? ⟨wr.heap.size, 2, none⟩ = some (.slice a1 l1 cap1) ∧ w36.cell? ⟨wr.heap.size, 3, none⟩ = some (.int .i64 y.result.kind) ∧ w36.cell? ⟨wr.heap.size, 3 + 1, none⟩ = some (.int .i64 y.result.n) ∧ w36.cell? ⟨wr.heap.size, 3 + 2, none⟩ = some (.string y.result.name) ∧ w36.cell? ⟨wr.heap.size, 3 + 3, none⟩ = some (.slice ae le ce)) := hide (app_step HOW.out (by repeat (first | exact HW33 | apply hidB_drew | apply hidB_alloc)) HZ1.out hgrow36 HF1.out); clear hown36 hgrow36))
        all_goals
          go_wp2_with fail
          go_roundw
          case rel => exact ⟨j + 1, by omega, by go_num, by rw [HST.out]; have h36 := HO36.out; rw [List.length_map, List.length_take] at h36; exact h36, HSA.out.1.out⟩
          case measure => simp [intOf]; omega
    · have e : l.take j = l := List.take_of_length_le (by have := HL.out; omega)
      rw [e] at hown
      have hs := hown.strs HTS.out (by rw [List.length_map, ← HL.out]; exact hl)
      obtain ⟨a', c', rfl, _⟩ := hs.shape
      have HO2 := hide hs
      clear hown hs
      generalize (l.map (Lat.fuX m)).length = nn at *
      go_wp2
      go_ret
      exact ⟨_, _, _, rfl, HO2.out, hnx⟩

end Go.Proofs.YtbncnkfogkhoeabGreatDoor

/- What the document answers of a module, as plain data. -/
namespace Go.Proofs.YtbncnkfogkhoeabGreatDoor
open Go.RowKit

/-- A flag behind k things: it was b, and each of them holds. -/
def allTo {α : Type} (b : Bool) (p : α → Bool) (l : List α) (k : Nat) : Bool := b && (l.take k).all p
theorem allTo_zero {α : Type} (b : Bool) (p : α → Bool) (l : List α) : allTo b p l 0 = b := by simp [allTo]
theorem allTo_succ {α : Type} {b : Bool} {p : α → Bool} {l : List α} {k : Nat} {y : α} (h : l[k]? = some y) : allTo b p l (k + 1) = (allTo b p l k && p y) := by
  obtain ⟨hj, rfl⟩ := List.getElem?_eq_some_iff.1 h
  unfold allTo
  rw [List.take_succ_eq_append_getElem hj, List.all_append]
  simp [Bool.and_assoc]
theorem allTo_all {α : Type} {b : Bool} {p : α → Bool} {l : List α} {n k : Nat} (h : n = l.length) (e : k = n) : allTo b p l k = (b && l.all p) := by
  unfold allTo; rw [List.take_of_length_le (by omega)]

namespace Lat
def strB (s : ByteArray) : Bool := nameB s.data.toList
def vaB (v : Va) : Bool := strB v.name && strB v.level
def fuOk (m : Nat) (f : Fu) : Bool := strB f.name && bodyB m f.body && exprB m f.result && f.params.all strB
def fuE (m : Nat) (f : Fu) : Int := if 4 < f.params.length then 2 else if fuOk m f then 0 else 5
/-- The first function that may not be tells. -/
def fusE (m : Nat) : List Fu → Int
  | [] => 0
  | f :: l => if fuE m f = 0 then fusE m l else fuE m f
def step (b : UInt8) : Int := if b = 40 then 1 else if b = 41 then -1 else 0
/-- How many brackets are open behind the first j bytes. -/
def openTo (t : ByteArray) : Nat → Int
  | 0 => 0
  | j + 1 => openTo t j + step (t.data.getD j 0)
def deepB (t : ByteArray) : Bool := (List.range t.size).any fun j => decide (20 < openTo t (j + 1))
/-- What is told of a module. -/
def moE (m : Nat) (x : Mo) : Int :=
  if 8 < x.imports.length ∨ 8 < x.vars.length ∨ 8 < x.funs.length then 2
  else if ((strB x.name && x.imports.all strB) && x.vars.all vaB) = false then 5
  else if fusE m x.funs ≠ 0 then fusE m x.funs
  else if deepB (moT m x) then 2 else 0
end Lat

theorem fusE_at {m : Nat} : ∀ {l : List Fu} {k : Nat} {y : Fu}, (∀ (d : Nat) (z : Fu), d < k → l[d]? = some z → Lat.fuE m z = 0) → l[k]? = some y → Lat.fuE m y ≠ 0 → Lat.fusE m l = Lat.fuE m y
  | [], k, y, _, h, _ => by simp at h
  | f :: l, 0, y, _, h, h0 => by
    simp only [List.getElem?_cons_zero, Option.some.injEq] at h
    subst h
    simp only [Lat.fusE]; rw [if_neg h0]
  | f :: l, k + 1, y, ha, h, h0 => by
    have := ha 0 f (by omega) rfl
    simp only [Lat.fusE]; rw [if_pos this]
    exact fusE_at (k := k) (fun d z hd hz => ha (d + 1) z (by omega) (by simpa using hz)) (by simpa using h) h0
theorem fusE_zero {m : Nat} : ∀ {l : List Fu}, (∀ (d : Nat) (z : Fu), l[d]? = some z → Lat.fuE m z = 0) → Lat.fusE m l = 0
  | [], _ => rfl
  | f :: l, ha => by
    simp only [Lat.fusE]; rw [if_pos (ha 0 f rfl)]
    exact fusE_zero (fun d z hz => ha (d + 1) z (by simpa using hz))

theorem openTo_le (t : ByteArray) : ∀ j : Nat, -(j : Int) ≤ Lat.openTo t j ∧ Lat.openTo t j ≤ j
  | 0 => ⟨Int.le_refl _, Int.le_refl _⟩
  | j + 1 => by
    have := openTo_le t j
    simp only [Lat.openTo, Lat.step]
    split
    · omega
    · split <;> omega
theorem openTo_succ (t : ByteArray) (j : Nat) (h : j < t.size) : Lat.openTo t (j + 1) = Lat.openTo t j + Lat.step t[j] := by
  have e : t.data.getD j 0 = t[j] := by
    have : j < t.data.size := h
    unfold Array.getD; rw [dif_pos this]; rfl
  simp only [Lat.openTo, e]
theorem deepB_at {t : ByteArray} {j : Nat} (hj : j < t.size) (h : 20 < Lat.openTo t (j + 1)) : Lat.deepB t = true :=
  List.any_eq_true.2 ⟨j, List.mem_range.2 hj, decide_eq_true h⟩
theorem deepB_not {t : ByteArray} (h : ∀ j, j < t.size → ¬ 20 < Lat.openTo t (j + 1)) : Lat.deepB t = false := by
  unfold Lat.deepB; rw [List.any_eq_false]; intro j hj; simpa using h j (List.mem_range.1 hj)

theorem moT_size {w : World} {m : Nat} {v : Value} {x : Mo} (h : MoAt w m v x) (hw : moW m x ≤ 1048576) : (Lat.moT m x).size ≤ 12582920 := by
  obtain ⟨vi, vv, vf, rfl, hnm, hI, hV, hF⟩ := h
  have hwm : x.name.size + 2 + strsW x.imports + vasW x.vars + fusW m x.funs ≤ 1048576 := hw
  have h1 := foldg_all (f := Lat.impT) (wt := fun s : ByteArray => s.size + 1) (l := x.imports) (fun i y _ acc => impT_size acc y) (Lat.moH x) x.imports.length (Nat.le_refl _)
  rw [moH_size, List.take_length] at h1
  have h2 := foldg_all (f := Lat.vaT) (wt := fun s : Va => s.name.size + s.level.size + 3) (l := x.vars) (fun i y _ acc => vaT_size acc y) (Lat.moI x) x.vars.length (Nat.le_refl _)
  rw [List.take_length] at h2
  obtain ⟨a, b, off, cap, _, _, _, h9⟩ := hF
  have h3 := foldg_all (f := Lat.fuT m) (wt := fuW m) (l := x.funs) (fun i y hy acc => by
      obtain ⟨_, vp, vb, e0, e1, e2, e3, _, _, _, _, _, _, _, _, hsb, hx⟩ := h9 i y hy
      exact fuT_size hsb hx acc) (Lat.moV x) x.funs.length (Nat.le_refl _)
  rw [List.take_length] at h3
  have e1 : x.imports.foldl Lat.impT (Lat.moH x) = Lat.moI x := rfl
  have e2 : x.vars.foldl Lat.vaT (Lat.moI x) = Lat.moV x := rfl
  have e3 : x.funs.foldl (Lat.fuT m) (Lat.moV x) = Lat.moF m x := rfl
  rw [e1] at h1; rw [e2] at h2; rw [e3] at h3
  unfold Lat.moT
  rw [ByteArray.size_append]
  show _ + 1 ≤ _
  rw [fusW_eq] at hwm
  unfold strsW vasW at hwm
  omega

end Go.Proofs.YtbncnkfogkhoeabGreatDoor

/- Walks over package downref: Module answers what the document says of a module. -/
namespace Go.Proofs.YtbncnkfogkhoeabGreatDoor
open Go.RowKit

theorem byteEq (a c : UInt8) (n : Int) (h : (c.toNat : Int) = n) : ((a.toNat : Int) == n) = (a == c) := by
  rw [Bool.eq_iff_iff]; simp only [beq_iff_eq]
  constructor
  · intro e; exact UInt8.toNat_inj.1 (by omega)
  · intro e; subst e; exact h
theorem step3 (c : UInt8) : (((c.toNat : Int) == 40) = true ∧ ((c.toNat : Int) == 41) = false ∧ Lat.step c = 1) ∨ (((c.toNat : Int) == 40) = false ∧ ((c.toNat : Int) == 41) = true ∧ Lat.step c = -1) ∨
    (((c.toNat : Int) == 40) = false ∧ ((c.toNat : Int) == 41) = false ∧ Lat.step c = 0) := by
  rw [byteEq c 40 40 rfl, byteEq c 41 41 rfl]
  unfold Lat.step
  by_cases h : c = 40
  · subst h; exact Or.inl ⟨rfl, rfl, rfl⟩
  · by_cases h' : c = 41
    · subst h'; exact Or.inr (Or.inl ⟨rfl, rfl, rfl⟩)
    · refine Or.inr (Or.inr ⟨by simp [h], by simp [h'], by simp [h, h']⟩)

end Go.Proofs.YtbncnkfogkhoeabGreatDoor

/- Walks over package tree: moduleText: of a module that may be, the text that the document asks. -/
namespace Go.Proofs.YtbncnkfogkhoeabGreatDoor
open Go.RowKit

namespace Lat
def moX (m : Nat) (x : Mo) : ByteArray := brk [[⟨#[109, 111, 100, 117, 108, 101]⟩, x.name], x.imports.map impX, x.vars.map vaX, x.funs.map (fuX m)].flatten
end Lat

theorem foldx {α : Type} {f : ByteArray → α → ByteArray} {g : α → ByteArray} : ∀ (l : List α) (acc : ByteArray), (∀ y ∈ l, ∀ acc, (f acc y).data.toList = acc.data.toList ++ 32 :: (g y).data.toList) →
    (l.foldl f acc).data.toList = acc.data.toList ++ Lib.joinTail [32] ((l.map g).map (·.data.toList))
  | [], acc, _ => by simp [Lib.joinTail]
  | y :: l, acc, h => by
    rw [List.foldl_cons, foldx l _ (fun z hz => h z (by simp [hz])), h y (by simp), List.map_cons, List.map_cons, tail_cons]
    simp
theorem impT_eq (acc s : ByteArray) : (Lat.impT acc s).data.toList = acc.data.toList ++ 32 :: (Lat.impX s).data.toList := by
  unfold Lat.impT Lat.impX
  rw [brk_list]
  simp [Lib.join_cons, Lib.joinTail]
theorem vaT_eq (acc : ByteArray) (v : Va) : (Lat.vaT acc v).data.toList = acc.data.toList ++ 32 :: (Lat.vaX v).data.toList := by
  unfold Lat.vaT Lat.vaX
  rw [brk_list]
  simp [Lib.join_cons, Lib.joinTail]

theorem moX_eq {m : Nat} {x : Mo} (hm : x.funs ≠ [] → m ≠ 0) : Lat.moX m x = Lat.moT m x := by
  apply bytes_ext
  unfold Lat.moX Lat.moT Lat.moF Lat.moV Lat.moI Lat.moH
  have hfl : [[(⟨#[109, 111, 100, 117, 108, 101]⟩ : ByteArray), x.name], x.imports.map Lat.impX, x.vars.map Lat.vaX, x.funs.map (Lat.fuX m)].flatten = ⟨#[109, 111, 100, 117, 108, 101]⟩ :: x.name :: (x.imports.map Lat.impX ++ (x.vars.map Lat.vaX ++ x.funs.map (Lat.fuX m))) := by simp
  rw [hfl, brk_list, app_list, foldx (g := Lat.fuX m) x.funs _ (fun y hy acc => fuT_eq (hm (List.ne_nil_of_mem hy)) acc y), foldx (g := Lat.vaX) x.vars _ (fun y _ acc => vaT_eq acc y), foldx (g := Lat.impX) x.imports _ (fun y _ acc => impT_eq acc y),
    List.map_cons, Lib.join_cons, List.map_cons, tail_cons, List.map_append, joinTail_app, List.map_append, joinTail_app, app_list]
  simp

set_option maxHeartbeats 4000000 in
set_option maxRecDepth 100000 in
theorem moduleText_any (m : Nat) (w : World) (v : Value) (x : Mo) (h : MoAt w m v x) (hok : ∀ f ∈ x.funs, Lat.bodyB m f.body = true ∧ Lat.exprB m f.result = true) (hw : moW m x ≤ 1048576) (ht : Tab w) :
    Calls Tryz.prog 21 #[v] w fun e w' => e = .returned (.string (Lat.moT m x)) ∧ Below w.heap.size w w' := by
  have hmt := moT_size h hw
  have HM := hide h
  obtain ⟨vi, vv, vf, rfl, hnm, hI, hV, hF⟩ := h
  have hwm : x.name.size + 2 + strsW x.imports + vasW x.vars + fusW m x.funs ≤ 1048576 := hw
  have hm : x.funs ≠ [] → m ≠ 0 := by
    rintro hne rfl
    obtain ⟨a, b, off, cap, _, _, _, hel⟩ := hF
    obtain ⟨f, hf⟩ : ∃ f, x.funs[0]? = some f := ⟨_, List.getElem?_eq_getElem (List.length_pos_iff.2 hne)⟩
    obtain ⟨_, vp, vb, e0, e1, e2, e3, _, _, _, _, _, _, _, _, hsb, _⟩ := hel 0 f hf
    exact hsb
  have hX := moX_eq hm
  obtain ⟨ai, ci, rfl, hli⟩ := hI.shape
  obtain ⟨av, cv, rfl⟩ : ∃ a c, vv = .slice a x.vars.length c := by
    obtain ⟨a, _, _, c, e, _⟩ := hV
    exact ⟨a, c, e⟩
  obtain ⟨af, cf, rfl⟩ : ∃ a c, vf = .slice a x.funs.length c := by
    obtain ⟨a, _, _, c, e, _⟩ := hF
    exact ⟨a, c, e⟩
  have HB0 := hide (boxBelow w (.cells #[.string x.name, .slice ai x.imports.length ci, .slice av x.vars.length cv, .slice af x.funs.length cf] 26))
  have q0 := boxM0 w (.string x.name) (.slice ai x.imports.length ci) (.slice av x.vars.length cv) (.slice af x.funs.length cf) 26
  have q1 := boxM1 w (.string x.name) (.slice ai x.imports.length ci) (.slice av x.vars.length cv) (.slice af x.funs.length cf) 26
  have q2 := boxM2 w (.string x.name) (.slice ai x.imports.length ci) (.slice av x.vars.length cv) (.slice af x.funs.length cf) 26
  have q3 := boxM3 w (.string x.name) (.slice ai x.imports.length ci) (.slice av x.vars.length cv) (.slice af x.funs.length cf) 26
  have HIT : Hid (∀ W, Hid (Below w.heap.size w W) → Calls Tryz.prog 43 #[.slice ai x.imports.length ci] W fun e w' => ∃ a n c, e = .returned (.slice a n c) ∧ Strs w' (.slice a n c) (x.imports.map Lat.impX) ∧ Below W.heap.size W w') :=
    fun W hW => importTexts_any W _ x.imports (hI.below hW.out) (by omega)
  have HVT : Hid (∀ W, Hid (Below w.heap.size w W) → Calls Tryz.prog 44 #[.slice av x.vars.length cv] W fun e w' => ∃ a n c, e = .returned (.slice a n c) ∧ Strs w' (.slice a n c) (x.vars.map Lat.vaX) ∧ Below W.heap.size W w') :=
    fun W hW => varTexts_any W _ x.vars (hV.below hW.out) (by omega)
  have HFT : Hid (∀ W, Hid (Below w.heap.size w W) → Calls Tryz.prog 45 #[.slice af x.funs.length cf] W fun e w' => ∃ a n c, e = .returned (.slice a n c) ∧ Strs w' (.slice a n c) (x.funs.map (Lat.fuX m)) ∧ Below W.heap.size W w') :=
    fun W hW => funTexts_any m W _ x.funs (hF.below hW.out) hok (by omega) (ht.below hW.out)
  have HBR : Hid (∀ W v, StrsS W v [[⟨#[109, 111, 100, 117, 108, 101]⟩, x.name], x.imports.map Lat.impX, x.vars.map Lat.vaX, x.funs.map (Lat.fuX m)] → Calls Tryz.prog 42 #[v] W fun e w' => e = .returned (.string (Lat.moT m x)) ∧ Below W.heap.size W w') := fun W v h => by
    have := brackets_any W v _ h (by show (Lat.moX m x).size ≤ _; rw [hX]; omega)
    rw [show Lat.brk [[⟨#[109, 111, 100, 117, 108, 101]⟩, x.name], x.imports.map Lat.impX, x.vars.map Lat.vaX, x.funs.map (Lat.fuX m)].flatten = Lat.moT m x from hX] at this
    exact this
  clear hwm hw hX hm hmt hI hV hF hok ht HM
  generalize x.imports.length = li at *
  generalize x.vars.length = lv at *
  generalize x.funs.length = lf at *
  go_enter Tryz.func21, Tryz.ntmps21
  go_wp2_with fail
  generalize (w.alloc (.cells #[.string x.name, .slice ai li ci, .slice av lv cv, .slice af lf cf] 26)) = W0 at *
  have HF : Hid (∀ wx, Hid (Below W0.heap.size W0 wx) → Hid (Below W0.heap.size W0 wx) ∧ wx.cell? ⟨w.heap.size, 0, none⟩ = some (.string x.name) ∧ wx.cell? ⟨w.heap.size, 1, none⟩ = some (.slice ai li ci) ∧ wx.cell? ⟨w.heap.size, 2, none⟩ = some (.slice av lv cv) ∧ wx.cell? ⟨w.heap.size, 3, none⟩ = some (.slice af lf cf)) :=
    fun wx h => ⟨h, cellUp q0 h.out, cellUp q1 h.out, cellUp q2 h.out, cellUp q3 h.out⟩
  have H00 : Hid (Below W0.heap.size W0 W0) := hide (Below.refl _ _)
  clear q0 q1 q2 q3
  go_region_held3 (fun wx => Hid (Below W0.heap.size W0 wx) ∧ wx.cell? ⟨w.heap.size, 0, none⟩ = some (.string x.name) ∧ wx.cell? ⟨w.heap.size, 1, none⟩ = some (.slice ai li ci) ∧ wx.cell? ⟨w.heap.size, 2, none⟩ = some (.slice av lv cv) ∧ wx.cell? ⟨w.heap.size, 3, none⟩ = some (.slice af lf cf))
    ((refine HF.out _ ?_; repeat (first | exact HW33 | exact HW32 | exact HW31 | exact HW30 | exact H00 | apply hidB_drew | apply hidB_alloc)))
    (first
      | (go_at_call 43; refine (HIT.out _ (hide (up HB0.out (unhide (by repeat (first | exact H00 | apply hidB_drew | apply hidB_alloc)))))).mono ?_; rintro e w30 ⟨x1, n1, c1, rfl, hs30, hb30⟩; have HW30 : Hid (Below W0.heap.size W0 w30) := hide (up (w := W0) (unhide (by repeat (first | exact H00 | apply hidB_drew | apply hidB_alloc))) hb30); have HD0 := hide hb30; have HS30 := hide hs30; clear hb30 hs30)
      | (go_at_call 44; refine (HVT.out _ (hide (up HB0.out (unhide (by repeat (first | exact HW30 | apply hidB_drew | apply hidB_alloc)))))).mono ?_; rintro e w31 ⟨x2, n2, c2, rfl, hs31, hb31⟩; have HW31 : Hid (Below W0.heap.size W0 w31) := hide (up (w := W0) (unhide (by repeat (first | exact HW30 | apply hidB_drew | apply hidB_alloc))) hb31); have HD1 := hide hb31; have HS31 := hide hs31; clear hb31 hs31)
      | (go_at_call 45; refine (HFT.out _ (hide (up HB0.out (unhide (by repeat (first | exact HW31 | apply hidB_drew | apply hidB_alloc)))))).mono ?_; rintro e w32 ⟨x3, n3, c3, rfl, hs32, hb32⟩; have HW32 : Hid (Below W0.heap.size W0 w32) := hide (up (w := W0) (unhide (by repeat (first | exact HW31 | apply hidB_drew | apply hidB_alloc))) hb32); have HD2 := hide hb32; have HS32 := hide hs32; clear hb32 hs32)
      | (go_at_call 42; refine (HBR.out _ _ ?_).mono ?_; (refine strsS_4 (by simp) ?_ ?_ ?_ ?_ <;> repeat (first | exact HS32.out | exact HS31.out | exact HS30.out | exact strs_lit2 (by simp) _ _ (by decide) hnm | refine Strs.below ?_ HD2.out | refine Strs.below ?_ HD1.out | refine Strs.below ?_ HD0.out | apply Strs.allocUp | apply Strs.drewUp)); rintro e w33 ⟨rfl, hb33⟩; have HW33 : Hid (Below W0.heap.size W0 w33) := hide (up (w := W0) (unhide (by repeat (first | exact HW32 | apply hidB_drew | apply hidB_alloc))) hb33); clear hb33))
  all_goals
    go_wp2_with fail
    go_ret
    exact ⟨rfl, up HB0.out HW33.out⟩

end Go.Proofs.YtbncnkfogkhoeabGreatDoor
