/- Walks over package tree: funTexts. -/
import Derived.Test.YtgnpiabjpocpgaaDoorUH
import Derived.Deep.AppendLies
namespace Go.Proofs.YtgnpiabjpocpgaaDoor
open Go.RowKit

namespace Lat
def fuX (m : Nat) (f : Fu) : ByteArray := brk [[⟨#[102, 117, 110]⟩, f.name, brk f.params], txs m f.body, [exT m f.result]].flatten
end Lat

theorem par_jn (l : List ByteArray) (acc : ByteArray) : ∀ j, j ≤ l.length → Lat.parTo l acc j = acc ++ Lat.jn (l.take j)
  | 0, _ => by
    apply bytes_ext
    rw [app_list, jn_list]; simp [Lat.parTo, Lib.join_nil]
  | j + 1, hj => by
    obtain ⟨y, hy⟩ : ∃ y, l[j]? = some y := ⟨_, List.getElem?_eq_getElem (by omega)⟩
    have e1 : l.take (j + 1) = l.take j ++ [y] := by
      have := map_take (f := id) hy
      simpa using this
    have e2 : l.getD j ByteArray.empty = y := by rw [List.getD, hy]; rfl
    have e3 : (l.take j).length = j := by rw [List.length_take]; omega
    rw [parTo_succ, par_jn l acc j (by omega), e1, e2, jn_snoc, e3]
    apply bytes_ext
    by_cases h : 0 < j
    · rw [if_pos h, if_pos h]; simp only [app_list, List.append_assoc]
    · rw [if_neg h, if_neg h]; simp only [app_list, List.append_assoc]

theorem tail_jn {l : List ByteArray} (h : l ≠ []) : Lib.joinTail [32] (l.map (·.data.toList)) = 32 :: (Lat.jn l).data.toList := by
  cases l with
  | nil => exact absurd rfl h
  | cons y l =>
    rw [jn_list, List.map_cons, Lib.join_cons]
    simp [Lib.joinTail]
theorem tail_cons (x : List UInt8) (r : List (List UInt8)) : Lib.joinTail [32] (x :: r) = 32 :: (x ++ Lib.joinTail [32] r) := by simp [Lib.joinTail]
theorem txs_nil {m : Nat} (hm : m ≠ 0) (l : List St) : Lat.txs m l = [] ↔ l = [] := by
  cases m with
  | zero => exact absurd rfl hm
  | succ m => simp [Lat.txs]

theorem fuT_eq {m : Nat} (hm : m ≠ 0) (acc : ByteArray) (f : Fu) : (Lat.fuT m acc f).data.toList = acc.data.toList ++ 32 :: (Lat.fuX m f).data.toList := by
  unfold Lat.fuT Lat.fuB Lat.fuP Lat.fuH Lat.fuX
  rw [par_jn _ _ _ (Nat.le_refl _), List.take_length, brk_list]
  by_cases h : 0 < f.body.length
  · have hne : Lat.txs m f.body ≠ [] := by
      rw [ne_eq, txs_nil hm]; intro e; rw [e] at h; simp at h
    rw [if_pos h, bdT_jn]
    have hfl : [[(⟨#[102, 117, 110]⟩ : ByteArray), f.name, Lat.brk f.params], Lat.txs m f.body, [Lat.exT m f.result]].flatten = ⟨#[102, 117, 110]⟩ :: f.name :: Lat.brk f.params :: (Lat.txs m f.body ++ [Lat.exT m f.result]) := by simp
    rw [hfl, List.map_cons, Lib.join_cons, List.map_cons, tail_cons, List.map_cons, tail_cons, List.map_append, joinTail_app, tail_jn hne, List.map_cons, tail_cons, List.map_nil, brk_list, jn_list]
    simp [jn_list, Lib.joinTail]
  · have he : f.body = [] := List.length_eq_zero_iff.1 (by omega)
    have hne : Lat.txs m f.body = [] := (txs_nil hm _).2 he
    rw [if_neg h, hne]
    simp [Lib.join_cons, Lib.joinTail, brk_list, jn_list]

theorem fuX_size {w : World} {m : Nat} {vp vb e0 e1 e2 e3 : Value} {f : Fu} (h : FuAt w m vp vb e0 e1 e2 e3 f) (hw : fuW m f ≤ 1048576) : (Lat.fuX m f).size ≤ 12582912 := by
  have hm : m ≠ 0 := by
    rintro rfl
    exact h.2.2.1
  have h1 := fuT_size h.2.2.1 h.2.2.2 ⟨#[]⟩
  have h2 := congrArg List.length (fuT_eq hm ⟨#[]⟩ f)
  rw [List.length_append, List.length_cons, size_list, size_list, size_list] at h2
  have e : (⟨#[]⟩ : ByteArray).size = 0 := rfl
  omega
theorem par_size {f : Fu} {m : Nat} (hw : fuW m f ≤ 1048576) : (Lat.brk f.params).size ≤ 1048580 := by
  have h1 := parTo_all f.params ⟨#[]⟩ f.params.length (Nat.le_refl _)
  rw [par_jn _ _ _ (Nat.le_refl _), List.take_length, ByteArray.size_append] at h1
  have e : (⟨#[]⟩ : ByteArray).size = 0 := rfl
  unfold fuW strsW at hw
  rw [brk_size]; omega

theorem step_append_one {w : World} {ops : Array Oper} {o : Oper} {a : Act} {K : Act → World → Prop} {Q : Exit → Act → World → Prop} {E : Prop} (hgd : o.guard = none) (s x : Operand)
    (ho : o.op = .call { callee := .builtin .append, args := #[s, x], argTypes := #[22, 22] })
    (base : Nat) (v : Value) (l : List ByteArray) (hs : a.eval s = v) (hown : Own w base v l) (B : Nat) (t : ByteArray) (hx : a.eval x = .slice (some ⟨B, 0, none⟩) 1 1)
    (hc : w.cell? ⟨B, 0, none⟩ = some (.string t)) (hl : l.length ≤ 1048576) (hbase : base ≤ w.heap.size)
    (h : ∀ g cap w', Own w' base (.slice (some ⟨g, 0, none⟩) (l.length + 1) cap) (l ++ [t]) → w.grownBy w' v.ownBlock → K (a.put o.dst (.slice (some ⟨g, 0, none⟩) (l.length + 1) cap)) w') :
    if Region.wanted o (yielded ops a.tmps) = true then Oper.wp Tryd.prog o a w K Q else E := by
  obtain ⟨iS, hiS, hz0, hz1, hz2⟩ := info_parts infoStr
  have hown' : w.ownsRow base 9 1 v l.length (l.map Value.string) := hown
  refine step_append_lies w hgd s x 22 ho base 9 iS (.string ⟨#[]⟩) 1 16 Tryd.underlying22 hiS hz0 hz1 hz2 rfl (by decide) v l.length (l.map Value.string) hs hown' ⟨B, 0, none⟩ 1 1 [.string t] hx rfl (fun j u hu => ?_) (fun u hu => ?_) (by decide) (by unfold maxLen; omega) (by omega) hbase w.heap.size rfl ?_
  · cases j with
    | zero =>
      simp at hu
      subst hu
      rw [Addr.add_lit]; exact hc
    | succ j => simp at hu
  · simp at hu
    subst hu
    rfl
  · intro g cap w' h1 h2 _ _
    refine h g cap w' ?_ h2
    unfold Own
    rw [List.length_append, List.map_append]
    exact h1

theorem keep_app {w wr Wc w2 : World} {o : Value} {l : List ByteArray} (hO : Own wr w.heap.size o l) (hB : Below w.heap.size w Wc) (hlt : wr.heap.size < Wc.heap.size) (hg : Wc.grownBy w2 o.ownBlock) :
    Below w.heap.size w w2 ∧ ∀ k, w2.cell? ⟨wr.heap.size, k, none⟩ = Wc.cell? ⟨wr.heap.size, k, none⟩ := by
  refine ⟨hB.grown hg hB.size (fun j hj => (hO.lt j hj).1), fun k => hg.cell_far _ hlt (fun e => ?_)⟩
  have := (hO.lt wr.heap.size e.symm).2
  omega
theorem app_step {w wr W1 Wc w2 : World} {o : Value} {l : List ByteArray} {c2 c3 c4 c5 c6 : Value} (hO : Own wr w.heap.size o l) (h1 : Hid (Below W1.heap.size W1 Wc)) (hz : wr.heap.size < W1.heap.size) (hg : Wc.grownBy w2 o.ownBlock)
    (hF : ∀ wx, Hid (Below W1.heap.size W1 wx) → Hid (Below w.heap.size w wx) ∧ wx.cell? ⟨wr.heap.size, 2, none⟩ = some c2 ∧ wx.cell? ⟨wr.heap.size, 3, none⟩ = some c3 ∧ wx.cell? ⟨wr.heap.size, 3 + 1, none⟩ = some c4 ∧ wx.cell? ⟨wr.heap.size, 3 + 2, none⟩ = some c5 ∧ wx.cell? ⟨wr.heap.size, 3 + 3, none⟩ = some c6) :
    Hid (Below w.heap.size w w2) ∧ w2.cell? ⟨wr.heap.size, 2, none⟩ = some c2 ∧ w2.cell? ⟨wr.heap.size, 3, none⟩ = some c3 ∧ w2.cell? ⟨wr.heap.size, 3 + 1, none⟩ = some c4 ∧ w2.cell? ⟨wr.heap.size, 3 + 2, none⟩ = some c5 ∧ w2.cell? ⟨wr.heap.size, 3 + 3, none⟩ = some c6 := by
  obtain ⟨f1, f2, f3, f4, f5, f6⟩ := hF Wc h1
  obtain ⟨k1, k2⟩ := keep_app hO f1.out (by have := h1.out.size; omega) hg
  exact ⟨hide k1, by rw [k2]; exact f2, by rw [k2]; exact f3, by rw [k2]; exact f4, by rw [k2]; exact f5, by rw [k2]; exact f6⟩
theorem cell_lit (w : World) (t : ByteArray) (ty : TypeId) : (w.alloc (.cells #[.string t] ty)).cell? ⟨w.heap.size, 0, none⟩ = some (.string t) := by simp [go_sem]

set_option maxHeartbeats 4000000 in
set_option maxRecDepth 100000 in
theorem funTexts_any (m : Nat) (w : World) (v : Value) (l : List Fu) (h : FusAt w m v l) (hok : ∀ f ∈ l, Lat.bodyB m f.body = true ∧ Lat.exprB m f.result = true) (hw : fusW m l ≤ 1048576) (ht : Tab w) :
    Calls Tryd.prog 26 #[v] w fun e w' => ∃ a n c, e = .returned (.slice a n c) ∧ Strs w' (.slice a n c) (l.map (Lat.fuX m)) ∧ Below w.heap.size w w' := by
  obtain ⟨a, b, off, cap, rfl, ha, hl, hel⟩ := h
  rw [fusW_eq] at hw
  have HW : Hid (∀ y ∈ l, fuW m y ≤ 1048576) := hide (fun y hy => by
    have := mem_le_sum (f := fuW m) hy
    omega)
  have hll : l.length ≤ 1048576 := by
    have := len_le_sum (l := l) (f := fuW m) (fun y _ => by unfold fuW; omega)
    omega
  have HTS : Hid (∀ t ∈ l.map (Lat.fuX m), t.size ≤ maxLen) := hide (fun t htm => by
    obtain ⟨y, hy, rfl⟩ := List.mem_map.1 htm
    obtain ⟨i, hi, rfl⟩ := List.mem_iff_getElem.1 hy
    obtain ⟨k1, vp, vb, e0, e1, e2, e3, _, _, _, _, _, _, _, hp, hsb, hx⟩ := hel i _ (List.getElem?_eq_getElem hi)
    have h1 : FuAt w m vp vb e0 e1 e2 e3 l[i] := ⟨k1, hp, hsb, hx⟩
    have h2 := fuX_size h1 (HW.out _ hy)
    unfold maxLen; omega)
  have HOK := hide hok
  have HEL := hide hel
  have HA := hide ha
  have HT := hide ht
  clear hel ha hw hok ht
  obtain ⟨len, hlen⟩ : ∃ len, len = l.length := ⟨_, rfl⟩
  have HL := hide hlen
  rw [← hlen] at hl HA hll ⊢
  clear hlen
  go_enter Tryd.func26, Tryd.ntmps26
  go_wp2
  go_loopw [3, 9] (fun o i wr => ∃ j : Nat, j ≤ len ∧ i = .int .i64 j ∧ Own wr w.heap.size o ((l.take j).map (Lat.fuX m)) ∧ Below w.heap.size w wr) (fun _ i _ => len - (intOf i).toNat)
  case atStart => exact ⟨0, Nat.zero_le _, rfl, World.ownsRow_nil _ _ _ _, Below.refl _ _⟩
  case round =>
    rename_i o0 _
    obtain ⟨j, hj, rfl, hown, hnx⟩ := hrel
    by_cases hjl : j < len
    · obtain ⟨y, hy⟩ : ∃ y, l[j]? = some y := ⟨_, List.getElem?_eq_getElem (by rw [← HL.out]; exact hjl)⟩
      obtain ⟨k1, vp, vb, e0, e1, e2, e3, g0, g1, g2, g3, g4, g5, g6, hp, hsb, hx⟩ := HEL.out j y hy
      have hyw := HW.out y (List.mem_of_getElem? hy)
      obtain ⟨okb, oke⟩ := HOK.out y (List.mem_of_getElem? hy)
      have HST := hide (map_take (f := Lat.fuX m) hy)
      obtain rfl := HA.out (by omega)
      have u0 := cellUp g0 hnx
      have u1 := cellUp g1 hnx
      have u2' := cellUp g2 hnx
      have u3' := cellUp g3 hnx
      have u4 := cellUp g4 hnx
      have u5 := cellUp g5 hnx
      have u6 := cellUp g6 hnx
      have hat : FuAt wr m vp vb e0 e1 e2 e3 y := ⟨k1, hp.below hnx, hsb.below hnx, hx.below hnx⟩
      have hys := fuX_size hat hyw
      have hps := par_size hyw
      have hyt : (Lat.fuX m y).size ≤ maxLen := by unfold maxLen; omega
      have hpt : (Lat.brk y.params).size ≤ maxLen := by unfold maxLen; omega
      have hxt : (Lat.exT m y.result).size ≤ maxLen := by
        have := exT_size hat.2.2.2
        unfold fuW at hyw
        unfold maxLen; omega
      have w1 : exW m y.result ≤ 1048576 := by unfold fuW at hyw; omega
      have w2 : stsW m y.body ≤ 1048576 := by unfold fuW at hyw; omega
      have HAT := hide hat
      obtain ⟨ae, ce, rfl, rfl, rfl, rfl⟩ := hx.shape
      obtain ⟨a1, cap1, rfl, hl1⟩ := hsb.shape
      obtain ⟨a2, cap2, rfl, hl2⟩ := hp.shape
      have HNX := hide hnx
      have HOW := hide hown
      have HTr := hide (HT.out.below hnx)
      have HPB : Hid (∀ W v, StrsS W v [y.params] → Calls Tryd.prog 23 #[v] W fun e w' => e = .returned (.string (Lat.brk y.params)) ∧ Below W.heap.size W w') := fun W v h => by
        have := brackets_any W v [y.params] h (by rw [List.flatten_singleton]; omega)
        rw [List.flatten_singleton] at this
        exact this
      have HFB : Hid (∀ W v, StrsS W v [[⟨#[102, 117, 110]⟩, y.name, Lat.brk y.params], Lat.txs m y.body, [Lat.exT m y.result]] → Calls Tryd.prog 23 #[v] W fun e w' => e = .returned (.string (Lat.fuX m y)) ∧ Below W.heap.size W w') := fun W v h =>
        brackets_any W v _ h (by show (Lat.fuX m y).size ≤ _; omega)
      have HCT : Hid (∀ W, Hid (Below wr.heap.size wr W) → Calls Tryd.prog 34 #[.slice a1 y.body.length cap1] W fun e w' => ∃ a n c, e = .returned (.slice a n c) ∧ Strs w' (.slice a n c) (Lat.txs m y.body) ∧ Below W.heap.size W w') :=
        fun W hW => commandTexts_any m W _ y.body (HAT.out.below hW.out).2.2.1 okb w2 (HTr.out.below hW.out)
      have HXT : Hid (∀ W, Hid (Below wr.heap.size wr W) → Calls Tryd.prog 35 #[.agg #[.int .i64 y.result.kind, .int .i64 y.result.n, .string y.result.name, .slice ae y.result.args.length ce]] W fun e w' => e = .returned (.string (Lat.exT m y.result)) ∧ Below W.heap.size W w') :=
        fun W hW => texprText_any m W _ _ _ _ y.result (HAT.out.below hW.out).2.2.2 oke w1 (HTr.out.below hW.out)
      have HPS := hide (HAT.out.2.1)
      clear g0 g1 g2 g3 g4 g5 g6 hx hsb hp hy hnx hown hat hys hps hyw
      generalize y.result.args.length = le at *
      generalize y.body.length = l1 at *
      have hl2e : y.params.length ≤ 9223372036854775807 := hl2
      generalize y.params.length = l2 at *
      have q0 := box7_0 wr (.string y.name) (.slice a2 l2 cap2) (.slice a1 l1 cap1) (.int .i64 y.result.kind) (.int .i64 y.result.n) (.string y.result.name) (.slice ae le ce) 41
      have q1 := box7_1 wr (.string y.name) (.slice a2 l2 cap2) (.slice a1 l1 cap1) (.int .i64 y.result.kind) (.int .i64 y.result.n) (.string y.result.name) (.slice ae le ce) 41
      have q2 := box7_2 wr (.string y.name) (.slice a2 l2 cap2) (.slice a1 l1 cap1) (.int .i64 y.result.kind) (.int .i64 y.result.n) (.string y.result.name) (.slice ae le ce) 41
      have q3 := box7_3 wr (.string y.name) (.slice a2 l2 cap2) (.slice a1 l1 cap1) (.int .i64 y.result.kind) (.int .i64 y.result.n) (.string y.result.name) (.slice ae le ce) 41
      have q4 := box7_4 wr (.string y.name) (.slice a2 l2 cap2) (.slice a1 l1 cap1) (.int .i64 y.result.kind) (.int .i64 y.result.n) (.string y.result.name) (.slice ae le ce) 41
      have q5 := box7_5 wr (.string y.name) (.slice a2 l2 cap2) (.slice a1 l1 cap1) (.int .i64 y.result.kind) (.int .i64 y.result.n) (.string y.result.name) (.slice ae le ce) 41
      have q6 := box7_6 wr (.string y.name) (.slice a2 l2 cap2) (.slice a1 l1 cap1) (.int .i64 y.result.kind) (.int .i64 y.result.n) (.string y.result.name) (.slice ae le ce) 41
      have HB0 := hide (boxBelow wr (.cells #[.string y.name, .slice a2 l2 cap2, .slice a1 l1 cap1, .int .i64 y.result.kind, .int .i64 y.result.n, .string y.result.name, .slice ae le ce] 41))
      have HZ : Hid (wr.heap.size < (wr.alloc (.cells #[.string y.name, .slice a2 l2 cap2, .slice a1 l1 cap1, .int .i64 y.result.kind, .int .i64 y.result.n, .string y.result.name, .slice ae le ce] 41)).heap.size) := hide (by simp)
      go_wp2_with fail
      generalize (wr.alloc (.cells #[.string y.name, .slice a2 l2 cap2, .slice a1 l1 cap1, .int .i64 y.result.kind, .int .i64 y.result.n, .string y.result.name, .slice ae le ce] 41)) = W0 at *
      have HF : Hid (∀ wx, Hid (Below W0.heap.size W0 wx) → Hid (Below W0.heap.size W0 wx) ∧ wx.cell? ⟨wr.heap.size, 0, none⟩ = some (.string y.name) ∧ wx.cell? ⟨wr.heap.size, 1, none⟩ = some (.slice a2 l2 cap2)) :=
        fun wx h => ⟨h, cellUp q0 h.out, cellUp q1 h.out⟩
      have H00 : Hid (Below W0.heap.size W0 W0) := hide (Below.refl _ _)
      have HPS0 := hide (HPS.out.below HB0.out)
      have HQ := hide (And.intro q2 (And.intro q3 (And.intro q4 (And.intro q5 q6))))
      clear q0 q1 q2 q3 q4 q5 q6
      go_region_held3 (fun wx => Hid (Below W0.heap.size W0 wx) ∧ wx.cell? ⟨wr.heap.size, 0, none⟩ = some (.string y.name) ∧ wx.cell? ⟨wr.heap.size, 1, none⟩ = some (.slice a2 l2 cap2))
        ((refine HF.out _ ?_; repeat (first | exact HW30 | exact H00 | apply hidB_drew | apply hidB_alloc)))
        (first
          | (go_at_call 23; refine (HPB.out _ _ ?_).mono ?_; (refine strsS_1 (by simp) ?_; repeat (first | exact HPS0.out | apply Strs.drewUp)); rintro e w30 ⟨rfl, hb30⟩; have HW30 : Hid (Below W0.heap.size W0 w30) := hide (up (w := W0) (unhide (by repeat (first | exact H00 | apply hidB_drew | apply hidB_alloc))) hb30); clear hb30))
      all_goals
        go_wp2_with fail
        have HHD := hide (strs_lit3 (w := w30) rfl ⟨#[102, 117, 110]⟩ y.name (Lat.brk y.params) (by decide) k1 hpt)
        have HW1 : Hid (Below W0.heap.size W0 (w30.alloc (.cells #[.string ⟨#[102, 117, 110]⟩, .string y.name, .string (Lat.brk y.params)] 9))) := hidB_alloc HW30
        generalize (w30.alloc (.cells #[.string ⟨#[102, 117, 110]⟩, .string y.name, .string (Lat.brk y.params)] 9)) = W1 at *
        generalize w30.heap.size = B1 at *
        have HR1 : Hid (Below wr.heap.size wr W1) := hide (up HB0.out HW1.out)
        have HZ1 : Hid (wr.heap.size < W1.heap.size) := hide (by have := HZ.out; have := HW1.out.size; omega)
        have HO1 : Hid (Own W1 w.heap.size _ _) := hide (own_below HOW.out HR1.out)
        have HF1 : Hid (∀ wx, Hid (Below W1.heap.size W1 wx) → Hid (Below w.heap.size w wx) ∧ wx.cell? ⟨wr.heap.size, 2, none⟩ = some (.slice a1 l1 cap1) ∧ wx.cell? ⟨wr.heap.size, 3, none⟩ = some (.int .i64 y.result.kind) ∧
            wx.cell? ⟨wr.heap.size, 3 + 1, none⟩ = some (.int .i64 y.result.n) ∧ wx.cell? ⟨wr.heap.size, 3 + 2, none⟩ = some (.string y.result.name) ∧ wx.cell? ⟨wr.heap.size, 3 + 3, none⟩ = some (.slice ae le ce)) :=
          fun wx h => ⟨hide (up HNX.out (up HR1.out h.out)), cellUp (cellUp HQ.out.1 HW1.out) h.out, cellUp (cellUp HQ.out.2.1 HW1.out) h.out, cellUp (cellUp HQ.out.2.2.1 HW1.out) h.out, cellUp (cellUp HQ.out.2.2.2.1 HW1.out) h.out, cellUp (cellUp HQ.out.2.2.2.2 HW1.out) h.out⟩
        have H11 : Hid (Below W1.heap.size W1 W1) := hide (Below.refl _ _)
        have hlt : ((l.take j).map (Lat.fuX m)).length ≤ 1048576 := by rw [List.length_map, List.length_take]; omega
        go_region_held3 (fun wx => Hid (Below w.heap.size w wx) ∧ wx.cell? ⟨wr.heap.size, 2, none⟩ = some (.slice a1 l1 cap1) ∧ wx.cell? ⟨wr.heap.size, 3, none⟩ = some (.int .i64 y.result.kind) ∧
            wx.cell? ⟨wr.heap.size, 3 + 1, none⟩ = some (.int .i64 y.result.n) ∧ wx.cell? ⟨wr.heap.size, 3 + 2, none⟩ = some (.string y.result.name) ∧ wx.cell? ⟨wr.heap.size, 3 + 3, none⟩ = some (.slice ae le ce))
          (first | exact HSA.out | (refine HF1.out _ ?_; repeat (first | exact HW33 | exact HW32 | exact HW31 | exact H11 | apply hidB_drew | apply hidB_alloc)))
          (first
            | (go_at_call 34; refine (HCT.out _ (hide (up HR1.out (unhide (by repeat (first | exact H11 | apply hidB_drew)))))).mono ?_; rintro e w31 ⟨x1, n1, c1, rfl, hs31, hb31⟩; have HW31 : Hid (Below W1.heap.size W1 w31) := hide (up (w := W1) (unhide (by repeat (first | exact H11 | apply hidB_drew))) hb31); have HS31 := hide hs31; clear hb31 hs31)
            | (go_at_call 35; refine (HXT.out _ (hide (up HR1.out (unhide (by repeat (first | exact HW31 | apply hidB_drew)))))).mono ?_; rintro e w32 ⟨rfl, hb32⟩; have HW32 : Hid (Below W1.heap.size W1 w32) := hide (up (w := W1) (unhide (by repeat (first | exact HW31 | apply hidB_drew))) hb32); have HS32 := hide (HS31.out.below (show Below w31.heap.size w31 w32 from hb32)); clear hb32)
            | (go_at_call 23; have hg := HS32; clear hg; refine (HFB.out _ _ ?_).mono ?_; (refine strsS_3 (by simp) ?_ ?_ ?_ <;> repeat (first | exact HS32.out | exact (HHD.out.below HW32.out) | exact strs_lit1 (w := w32) (by simp) _ hxt | apply Strs.drewUp | apply Strs.allocUp)); rintro e w33 ⟨rfl, hb33⟩; have HW33 : Hid (Below W1.heap.size W1 w33) := hide (up (w := W1) (unhide (by repeat (first | exact HW32 | apply hidB_drew | apply hidB_alloc))) hb33); clear hb33)
            | (refine step_append_one (by rfl) _ _ (by rfl) w.heap.size _ _ (by rfl) (own_below HO1.out (unhide (by repeat (first | exact HW33 | apply hidB_drew | apply hidB_alloc)))) _ (Lat.fuX m y) (by rfl) (cell_lit _ _ _) hlt (by have := (HF1.out _ HW33).1.out.size; simp; omega) ?_; intro g cap36 w36 hown36 hgrow36; have HO36 := hide hown36; have HSA : Hid (Hid (Below w.heap.size w w36) ∧ w36.cell? ⟨wr.heap.size, 2, none⟩ = some (.slice a1 l1 cap1) ∧ w36.cell? ⟨wr.heap.size, 3, none⟩ = some (.int .i64 y.result.kind) ∧ w36.cell? ⟨wr.heap.size, 3 + 1, none⟩ = some (.int .i64 y.result.n) ∧ w36.cell? ⟨wr.heap.size, 3 + 2, none⟩ = some (.string y.result.name) ∧ w36.cell? ⟨wr.heap.size, 3 + 3, none⟩ = some (.slice ae le ce)) := hide (app_step HOW.out (by repeat (first | exact HW33 | apply hidB_drew | apply hidB_alloc)) HZ1.out hgrow36 HF1.out); clear hown36 hgrow36))
        all_goals
          go_wp2_with fail
          go_roundw
          case rel => exact ⟨j + 1, by omega, by go_num, by rw [HST.out]; have h36 := HO36.out; rw [List.length_map, List.length_take] at h36; exact h36, HSA.out.1.out⟩
          case measure => simp [intOf]; omega
    · have e : l.take j = l := List.take_of_length_le (by have := HL.out; omega)
      rw [e] at hown
      have hs := hown.strs HTS.out (by rw [List.length_map, ← HL.out]; exact hl)
      obtain ⟨a', c', rfl, _⟩ := hs.shape
      have HO2 := hide hs
      clear hown hs
      generalize (l.map (Lat.fuX m)).length = nn at *
      go_wp2
      go_ret
      exact ⟨_, _, _, rfl, HO2.out, hnx⟩

end Go.Proofs.YtgnpiabjpocpgaaDoor
