/- Walks over package tree: commandText, commandTexts: of commands that may be, the text that the document asks. -/
import Derived.Test.YtbncnkfogkhoeabGreatDoorZAL
namespace Go.Proofs.YtbncnkfogkhoeabGreatDoor
open Go.RowKit

namespace Lat
/-- A command's text by itself. -/
def stX (m : Nat) (s : St) : ByteArray := stT (exT m) (bdT m) s ⟨#[]⟩
def txs : Nat → List St → List ByteArray
  | 0, _ => []
  | m + 1, l => l.map (stX m)
end Lat

theorem stT_acc (et : Ex → ByteArray) (bt : List St → ByteArray) (s : St) (acc : ByteArray) : Lat.stT et bt s acc = acc ++ Lat.stT et bt s ⟨#[]⟩ := by
  have e : ∀ x : ByteArray, (⟨#[]⟩ : ByteArray) ++ x = x := fun x => by apply bytes_ext; rw [app_list]; rfl
  have e2 : ∀ x : ByteArray, x ++ (⟨#[]⟩ : ByteArray) = x := fun x => by apply bytes_ext; rw [app_list]; simp
  unfold Lat.stT
  simp only [e]
  split
  · rfl
  · split
    · rfl
    · split
      · rfl
      · split
        · rfl
        · rw [e2]

theorem joinTail_app (sep : List UInt8) (a b : List (List UInt8)) : Lib.joinTail sep (a ++ b) = Lib.joinTail sep a ++ Lib.joinTail sep b := by
  simp [Lib.joinTail]
theorem jn_list (l : List ByteArray) : (Lat.jn l).data.toList = Lib.join (l.map (·.data.toList)) [32] := by unfold Lat.jn; rfl
theorem jn_snoc (l : List ByteArray) (x : ByteArray) : Lat.jn (l ++ [x]) = (if 0 < l.length then Lat.jn l ++ (⟨#[32]⟩ : ByteArray) else Lat.jn l) ++ x := by
  cases l with
  | nil =>
    apply bytes_ext
    rw [if_neg (by simp), app_list, jn_list, jn_list]
    simp [Lib.join_one, Lib.join_nil]
  | cons y l =>
    apply bytes_ext
    rw [if_pos (by simp), app_list, app_list, jn_list, jn_list, List.cons_append, List.map_cons, List.map_cons, Lib.join_cons, Lib.join_cons, List.map_append, joinTail_app]
    simp [Lib.joinTail]

theorem bdTo_jn (m : Nat) (l : List St) : ∀ j, j ≤ l.length → Lat.bdTo (Lat.exT m) (Lat.bdT m) l j = Lat.jn ((l.take j).map (Lat.stX m))
  | 0, _ => by
    apply bytes_ext
    rw [jn_list]; simp [Lat.bdTo, Lib.join_nil]
  | j + 1, hj => by
    obtain ⟨s, hs⟩ : ∃ s, l[j]? = some s := ⟨_, List.getElem?_eq_getElem (by omega)⟩
    rw [bdTo_succ hs, stT_acc, map_take hs, jn_snoc, bdTo_jn m l j (by omega)]
    have e : ((l.take j).map (Lat.stX m)).length = j := by rw [List.length_map, List.length_take]; omega
    rw [e]; rfl
theorem bdT_jn (m : Nat) (l : List St) : Lat.bdT m l = Lat.jn (Lat.txs m l) := by
  cases m with
  | zero => apply bytes_ext; rw [jn_list]; simp [Lat.bdT, Lat.txs, Lib.join_nil]
  | succ m =>
    simp only [Lat.bdT, Lat.txs]
    rw [bdTo_jn m l l.length (Nat.le_refl _), List.take_length]

section
variable (m : Nat) (s : St)
theorem set_text (h : s.kind = 1) : Lat.brk [⟨#[115, 101, 116]⟩, s.name, Lat.exT m s.e] = Lat.stX m s := by
  apply bytes_ext
  rw [brk_list]
  unfold Lat.stX Lat.stT
  rw [if_pos h]
  simp [Lib.join_cons, Lib.joinTail]
theorem print_text (h : s.kind = 4) : Lat.brk [⟨#[112, 114, 105, 110, 116]⟩, s.name, Lat.exT m s.e] = Lat.stX m s := by
  apply bytes_ext
  rw [brk_list]
  unfold Lat.stX Lat.stT
  rw [if_neg (by omega), if_pos h]
  simp [Lib.join_cons, Lib.joinTail]
theorem while_text (h : s.kind = 3) : Lat.brk [⟨#[119, 104, 105, 108, 101]⟩, Lat.exT m s.e, Lat.brk (Lat.txs m s.a)] = Lat.stX m s := by
  apply bytes_ext
  rw [brk_list]
  unfold Lat.stX Lat.stT
  rw [if_neg (by omega), if_neg (by omega), if_pos h, bdT_jn]
  simp [Lib.join_cons, Lib.joinTail, brk_list, jn_list]
theorem if_text (h : s.kind = 2) : Lat.brk [⟨#[105, 102]⟩, Lat.exT m s.e, Lat.brk (Lat.txs m s.a), Lat.brk (Lat.txs m s.b)] = Lat.stX m s := by
  apply bytes_ext
  rw [brk_list]
  unfold Lat.stX Lat.stT
  rw [if_neg (by omega), if_neg (by omega), if_neg (by omega), if_pos h, bdT_jn, bdT_jn]
  simp [Lib.join_cons, Lib.joinTail, brk_list, jn_list]
end

theorem brk_txs {w : World} {m : Nat} {v : Value} {l : List St} (h : StsAt w m v l) (hw : stsW m l ≤ 1048576) : (Lat.brk (Lat.txs m l)).size ≤ 6291458 := by
  have := bdT_size h
  rw [brk_size, ← bdT_jn]; omega
theorem stX_size {w : World} {m : Nat} {e0 e1 e2 e3 va vb : Value} {s : St} (h : StAt w m e0 e1 e2 e3 va vb s) (hw : s.name.size + 3 + exW m s.e + stsW m s.a + stsW m s.b ≤ 1048576) : (Lat.stX m s).size ≤ 6291467 := by
  have h1 := (stT_size (Lat.exT m) (Lat.bdT m) s ⟨#[]⟩).2
  have h2 := exT_size h.2.2.1
  have h3 := bdT_size h.2.2.2.1
  have h4 := bdT_size h.2.2.2.2
  have e : (⟨#[]⟩ : ByteArray).size = 0 := rfl
  unfold Lat.stX
  omega

set_option maxHeartbeats 4000000 in
set_option maxRecDepth 100000 in
theorem commandText_of (m : Nat) (hi : ∀ (w : World) (v : Value) (l : List St), StsAt w m v l → Lat.bodyB m l = true → stsW m l ≤ 1048576 → Tab w →
      Calls Tryz.prog 73 #[v] w fun e w' => ∃ a n c, e = .returned (.slice a n c) ∧ Strs w' (.slice a n c) (Lat.txs m l) ∧ Below w.heap.size w w')
    (w : World) (e0 e1 e2 e3 va vb : Value) (s : St) (h : StAt w m e0 e1 e2 e3 va vb s) (hok : Lat.stB m s = true) (hw : s.name.size + 3 + exW m s.e + stsW m s.a + stsW m s.b ≤ 1048576) (ht : Tab w) :
    Calls Tryz.prog 100 #[.agg #[.int .i64 s.kind, .string s.name, e0, e1, e2, e3, va, vb]] w fun e w' => e = .returned (.string (Lat.stX m s)) ∧ Below w.heap.size w w' := by
  have hxs := stX_size h hw
  have hba := brk_txs h.2.2.2.1 (by omega)
  have hbb := brk_txs h.2.2.2.2 (by omega)
  have hxe := exT_size h.2.2.1
  have HS := hide h
  obtain ⟨_, hnm, hx, hsa, hsb⟩ := h
  obtain ⟨ae, ce, rfl, rfl, rfl, rfl⟩ := hx.shape
  obtain ⟨a1, cap1, rfl, hl1⟩ := hsa.shape
  obtain ⟨a2, cap2, rfl, hl2⟩ := hsb.shape
  clear hx hsa hsb
  have hok' : (((Lat.stH s = true ∧ Lat.exprB m s.e = true) ∧ Lat.bodyB m s.a = true) ∧ Lat.bodyB m s.b = true) := by
    unfold Lat.stB at hok
    simpa only [Bool.and_eq_true] using hok
  obtain ⟨⟨⟨okh, oke⟩, oka⟩, okb⟩ := hok'
  have w1 : exW m s.e ≤ 1048576 := by omega
  have w2 : stsW m s.a ≤ 1048576 := by omega
  have w3 : stsW m s.b ≤ 1048576 := by omega
  have te : (Lat.exT m s.e).size ≤ maxLen := by unfold maxLen; omega
  have ta : (Lat.brk (Lat.txs m s.a)).size ≤ maxLen := by unfold maxLen; omega
  have tb : (Lat.brk (Lat.txs m s.b)).size ≤ maxLen := by unfold maxLen; omega
  have ba : (Lat.brk [Lat.txs m s.a].flatten).size ≤ 16777216 := by rw [List.flatten_singleton]; omega
  have bb : (Lat.brk [Lat.txs m s.b].flatten).size ≤ 16777216 := by rw [List.flatten_singleton]; omega
  have HBA := hide ba
  have HBB := hide bb
  have HKS : Hid (s.kind = 1 → Lat.brk [[⟨#[115, 101, 116]⟩, s.name, Lat.exT m s.e]].flatten = Lat.stX m s) := hide (fun h => by rw [List.flatten_singleton]; exact set_text m s h)
  have HKP : Hid (s.kind = 4 → Lat.brk [[⟨#[112, 114, 105, 110, 116]⟩, s.name, Lat.exT m s.e]].flatten = Lat.stX m s) := hide (fun h => by rw [List.flatten_singleton]; exact print_text m s h)
  have HKW : Hid (s.kind = 3 → Lat.brk [[⟨#[119, 104, 105, 108, 101]⟩, Lat.exT m s.e, Lat.brk (Lat.txs m s.a)]].flatten = Lat.stX m s) := hide (fun h => by rw [List.flatten_singleton]; exact while_text m s h)
  have HKI : Hid (s.kind = 2 → Lat.brk [[⟨#[105, 102]⟩, Lat.exT m s.e, Lat.brk (Lat.txs m s.a), Lat.brk (Lat.txs m s.b)]].flatten = Lat.stX m s) := hide (fun h => by rw [List.flatten_singleton]; exact if_text m s h)
  have hkind : s.kind = 1 ∨ s.kind = 2 ∨ s.kind = 3 ∨ s.kind = 4 := by
    apply Classical.byContradiction
    intro hn
    rw [show Lat.stH s = false by
      unfold Lat.stH
      rw [if_neg (by omega), if_neg (by omega), if_neg (by omega)]] at okh
    cases okh
  have HXS := hide hxs
  clear hok hw hba hbb hxe ba bb hxs okh
  generalize s.e.args.length = le at *
  generalize s.a.length = l1 at *
  generalize s.b.length = l2 at *
  have q0 := box8_0 w (.int .i64 s.kind) (.string s.name) (.int .i64 s.e.kind) (.int .i64 s.e.n) (.string s.e.name) (.slice ae le ce) (.slice a1 l1 cap1) (.slice a2 l2 cap2) 107
  have q1 := box8_1 w (.int .i64 s.kind) (.string s.name) (.int .i64 s.e.kind) (.int .i64 s.e.n) (.string s.e.name) (.slice ae le ce) (.slice a1 l1 cap1) (.slice a2 l2 cap2) 107
  have q6 := boxCells86 w (.int .i64 s.kind) (.string s.name) (.int .i64 s.e.kind) (.int .i64 s.e.n) (.string s.e.name) (.slice ae le ce) (.slice a1 l1 cap1) (.slice a2 l2 cap2) 107
  have q7 := boxCells87 w (.int .i64 s.kind) (.string s.name) (.int .i64 s.e.kind) (.int .i64 s.e.n) (.string s.e.name) (.slice ae le ce) (.slice a1 l1 cap1) (.slice a2 l2 cap2) 107
  have HB0 := hide (boxBelow w (.cells #[.int .i64 s.kind, .string s.name, .int .i64 s.e.kind, .int .i64 s.e.n, .string s.e.name, .slice ae le ce, .slice a1 l1 cap1, .slice a2 l2 cap2] 107))
  go_enter Tryz.func100, Tryz.ntmps100
  go_wp2_with fail
  refine (texprText_any m _ _ _ _ _ s.e (HS.out.below HB0.out).2.2.1 oke w1 (ht.below HB0.out)).mono ?_
  rintro e W0 ⟨rfl, hb5⟩
  replace q0 := cellUp q0 hb5
  replace q1 := cellUp q1 hb5
  replace q6 := cellUp q6 hb5
  replace q7 := cellUp q7 hb5
  have HN := hide (up HB0.out hb5)
  clear hb5 HB0
  have HCA : Hid (∀ W, Hid (Below W0.heap.size W0 W) → Calls Tryz.prog 73 #[.slice a1 l1 cap1] W fun e w' => ∃ a n c, e = .returned (.slice a n c) ∧ Strs w' (.slice a n c) (Lat.txs m s.a) ∧ Below W.heap.size W w') :=
    fun W hW => hi W _ s.a (HS.out.below (up HN.out hW.out)).2.2.2.1 oka w2 (ht.below (up HN.out hW.out))
  have HCB : Hid (∀ W, Hid (Below W0.heap.size W0 W) → Calls Tryz.prog 73 #[.slice a2 l2 cap2] W fun e w' => ∃ a n c, e = .returned (.slice a n c) ∧ Strs w' (.slice a n c) (Lat.txs m s.b) ∧ Below W.heap.size W w') :=
    fun W hW => hi W _ s.b (HS.out.below (up HN.out hW.out)).2.2.2.2 okb w3 (ht.below (up HN.out hW.out))
  clear hi
  generalize Lat.exT m s.e = tE at *
  generalize htA : Lat.txs m s.a = tA at *
  generalize htB : Lat.txs m s.b = tB at *
  have H00 : Hid (Below W0.heap.size W0 W0) := hide (Below.refl _ _)
  rcases hkind with hk | hk | hk | hk
  · have hf := HKS.out hk
    rw [hk] at q0
    clear q6 q7 hk
    go_wp2_with fail
    refine (brackets_any _ _ [[⟨#[115, 101, 116]⟩, s.name, tE]] (strsS_1 (by simp) (strs_lit3 rfl _ _ _ (by decide) hnm te)) (by rw [hf]; have := HXS.out; omega)).mono ?_
    rintro e w6 ⟨rfl, hb6⟩
    have HB6 := hide (up HN.out (up (hidB_alloc (hidB_alloc H00)).out hb6))
    have HFF := hide hf
    clear hb6 hf
    go_wp2_with fail
    go_ret
    exact ⟨ret_str HFF.out, HB6.out⟩
  · have hf := HKI.out hk
    rw [hk] at q0
    clear hk
    have HBI : Hid ((Lat.brk [[⟨#[105, 102]⟩, tE, Lat.brk tA, Lat.brk tB]].flatten).size ≤ 16777216) := hide (by rw [hf]; have := HXS.out; omega)
    have HFF := hide hf
    have HF : Hid (∀ wx, Hid (Below W0.heap.size W0 wx) → Hid (Below W0.heap.size W0 wx) ∧ wx.cell? ⟨w.heap.size, 6, none⟩ = some (.slice a1 l1 cap1) ∧ wx.cell? ⟨w.heap.size, 7, none⟩ = some (.slice a2 l2 cap2)) :=
      fun wx h => ⟨h, cellUp q6 h.out, cellUp q7 h.out⟩
    clear hf q6 q7 HKS HKP HKW HKI
    generalize hbA : Lat.brk tA = bA at *
    generalize hbB : Lat.brk tB = bB at *
    rw [List.flatten_singleton, hbA] at HBA
    rw [List.flatten_singleton, hbB] at HBB
    have HTA : Hid (∀ W v, StrsS W v [tA] → Calls Tryz.prog 42 #[v] W fun e w' => e = .returned (.string bA) ∧ Below W.heap.size W w') := fun W v h => by
      have := brackets_any W v [tA] h (by rw [List.flatten_singleton, hbA]; exact HBA.out)
      rw [List.flatten_singleton, hbA] at this
      exact this
    have HTB : Hid (∀ W v, StrsS W v [tB] → Calls Tryz.prog 42 #[v] W fun e w' => e = .returned (.string bB) ∧ Below W.heap.size W w') := fun W v h => by
      have := brackets_any W v [tB] h (by rw [List.flatten_singleton, hbB]; exact HBB.out)
      rw [List.flatten_singleton, hbB] at this
      exact this
    clear hbA hbB htA htB
    go_wp2_with fail
    go_region_held3 (fun wx => Hid (Below W0.heap.size W0 wx) ∧ wx.cell? ⟨w.heap.size, 6, none⟩ = some (.slice a1 l1 cap1) ∧ wx.cell? ⟨w.heap.size, 7, none⟩ = some (.slice a2 l2 cap2))
      ((refine HF.out _ ?_; repeat (first | exact HW34 | exact HW33 | exact HW32 | exact HW31 | exact HW30 | exact H00 | apply hidB_drew | apply hidB_alloc)))
      (first
        | (go_at_call_of 73 (a1); refine (HCA.out _ (by repeat (first | exact H00 | apply hidB_drew))).mono ?_; rintro e w30 ⟨x1, n1, c1, rfl, hs30, hb30⟩; have HW30 : Hid (Below W0.heap.size W0 w30) := hide (up (w := W0) (unhide (by repeat (first | exact H00 | apply hidB_drew))) hb30); have HS30 := hide hs30; clear hb30 hs30)
        | (go_at_call_of 73 (a2); refine (HCB.out _ (by repeat (first | exact HW31 | apply hidB_drew))).mono ?_; rintro e w32 ⟨x2, n2, c2, rfl, hs32, hb32⟩; have HW32 : Hid (Below W0.heap.size W0 w32) := hide (up (w := W0) (unhide (by repeat (first | exact HW31 | apply hidB_drew))) hb32); have HS32 := hide hs32; clear hb32 hs32)
        | (go_at_call 42; have hg := HW33; clear hg; refine (brackets_any _ _ [[⟨#[105, 102]⟩, tE, bA, bB]] ?_ HBI.out).mono ?_; (refine strsS_1 (by simp) ?_; repeat (first | exact strs_lit4 (w := w33) (by simp) _ _ _ _ (by decide) te ta tb | apply Strs.drewUp)); rintro e w34 ⟨rfl, hb34⟩; have HW34 : Hid (Below W0.heap.size W0 w34) := hide (up (w := W0) (unhide (by repeat (first | exact HW33 | apply hidB_drew | apply hidB_alloc))) hb34); clear hb34)
        | (go_at_call 42; have hg := HS32; clear hg; refine (HTB.out _ _ ?_).mono ?_; (refine strsS_1 (by simp) ?_; repeat (first | exact HS32.out | apply Strs.drewUp)); rintro e w33 ⟨rfl, hb33⟩; have HW33 : Hid (Below W0.heap.size W0 w33) := hide (up (w := W0) (unhide (by repeat (first | exact HW32 | apply hidB_drew | apply hidB_alloc))) hb33); clear hb33)
        | (go_at_call 42; have hg := HS30; clear hg; refine (HTA.out _ _ ?_).mono ?_; (refine strsS_1 (by simp) ?_; repeat (first | exact HS30.out | apply Strs.drewUp)); rintro e w31 ⟨rfl, hb31⟩; have HW31 : Hid (Below W0.heap.size W0 w31) := hide (up (w := W0) (unhide (by repeat (first | exact HW30 | apply hidB_drew | apply hidB_alloc))) hb31); clear hb31))
    all_goals
      go_wp2_with fail
      go_ret
      exact ⟨ret_str HFF.out, up HN.out HW34.out⟩
  · have hf := HKW.out hk
    rw [hk] at q0
    clear hk q7
    have HFF := hide hf
    have HBI : Hid ((Lat.brk [[⟨#[119, 104, 105, 108, 101]⟩, tE, Lat.brk tA]].flatten).size ≤ 16777216) := hide (by rw [hf]; have := HXS.out; omega)
    clear hf
    go_wp2_with fail
    refine (HCA.out _ H00).mono ?_
    rintro e w30 ⟨x1, n1, c1, rfl, hs30, hb30⟩
    have HW30 := hide hb30
    have HS30 := hide hs30
    clear hb30 hs30
    go_wp2_with fail
    refine (brackets_any _ _ [tA] (strsS_1 rfl HS30.out) HBA.out).mono ?_
    rintro e w31 ⟨rfl, hb31⟩
    have HW31 := hide (up (hidB_alloc HW30).out hb31)
    rw [List.flatten_singleton]
    clear hb31
    go_wp2_with fail
    refine (brackets_any _ _ [[⟨#[119, 104, 105, 108, 101]⟩, tE, Lat.brk tA]] (strsS_1 (by simp) (strs_lit3 rfl _ _ _ (by decide) te ta)) HBI.out).mono ?_
    rintro e w34 ⟨rfl, hb34⟩
    have HW34 := hide (up (hidB_alloc (hidB_alloc HW31)).out hb34)
    clear hb34
    go_wp2_with fail
    go_ret
    exact ⟨ret_str HFF.out, up HN.out HW34.out⟩
  · have hf := HKP.out hk
    rw [hk] at q0
    clear q6 q7 hk
    go_wp2_with fail
    refine (brackets_any _ _ [[⟨#[112, 114, 105, 110, 116]⟩, s.name, tE]] (strsS_1 (by simp) (strs_lit3 rfl _ _ _ (by decide) hnm te)) (by rw [hf]; have := HXS.out; omega)).mono ?_
    rintro e w6 ⟨rfl, hb6⟩
    have HB6 := hide (up HN.out (up (hidB_alloc (hidB_alloc H00)).out hb6))
    have HFF := hide hf
    clear hb6 hf
    go_wp2_with fail
    go_ret
    exact ⟨ret_str HFF.out, HB6.out⟩

theorem len_le_sum {α : Type} {f : α → Nat} : ∀ {l : List α}, (∀ y ∈ l, 1 ≤ f y) → l.length ≤ (l.map f).sum
  | [], _ => Nat.le_refl _
  | y :: l, h => by
    have h1 := h y (by simp)
    have h2 := len_le_sum (l := l) (fun z hz => h z (by simp [hz]))
    simp only [List.length_cons, List.map_cons, List.sum_cons]; omega

set_option maxHeartbeats 2000000 in
set_option maxRecDepth 100000 in
theorem commandTexts_any (m : Nat) : ∀ (w : World) (v : Value) (l : List St), StsAt w m v l → Lat.bodyB m l = true → stsW m l ≤ 1048576 → Tab w →
    Calls Tryz.prog 73 #[v] w fun e w' => ∃ a n c, e = .returned (.slice a n c) ∧ Strs w' (.slice a n c) (Lat.txs m l) ∧ Below w.heap.size w w' := by
  induction m with
  | zero => intro w v l h; exact False.elim h
  | succ m ih =>
    intro w v l h hok hw ht
    have HI := hide (commandText_of m ih)
    clear ih
    obtain ⟨a, b, off, cap, rfl, ha, hl, hel⟩ := h
    have HT := hide ht
    have HOK : Hid (∀ (i : Nat) (y : St), l[i]? = some y → Lat.stB m y = true ∧ y.name.size + 3 + exW m y.e + stsW m y.a + stsW m y.b ≤ 1048576) := hide (fun i y hy => ⟨List.all_eq_true.1 (by rw [← Lat.bodyB_succ]; exact hok) y (List.mem_of_getElem? hy), by
      have : y.name.size + 3 + exW m y.e + stsW m y.a + stsW m y.b ≤ (l.map fun s : St => s.name.size + 3 + exW m s.e + stsW m s.a + stsW m s.b).sum := mem_le_sum (f := fun s : St => s.name.size + 3 + exW m s.e + stsW m s.a + stsW m s.b) (List.mem_of_getElem? hy)
      simp only [stsW] at hw; omega⟩)
    have hll : l.length ≤ 1048576 := by
      have := len_le_sum (l := l) (f := fun s : St => s.name.size + 3 + exW m s.e + stsW m s.a + stsW m s.b) (fun y _ => by omega)
      simp only [stsW] at hw; omega
    have HTS : Hid (∀ t ∈ Lat.txs (m + 1) l, t.size ≤ maxLen) := hide (fun t htm => by
      obtain ⟨y, hy, rfl⟩ := List.mem_map.1 htm
      obtain ⟨i, hi, rfl⟩ := List.mem_iff_getElem.1 hy
      obtain ⟨k1, k2, e0, e1, e2, e3, va, vb, _, _, _, _, _, _, _, _, hx, hsa, hsb⟩ := hel i _ (List.getElem?_eq_getElem hi)
      have h1 : StAt w m e0 e1 e2 e3 va vb l[i] := ⟨k1, k2, hx, hsa, hsb⟩
      have h2 := stX_size h1 (HOK.out i _ (List.getElem?_eq_getElem hi)).2
      unfold maxLen; omega)
    have HE : Hid (Lat.txs (m + 1) l = l.map (Lat.stX m)) := rfl
    have HEL := hide hel
    have HA := hide ha
    clear hel ha hw hok ht
    obtain ⟨len, hlen⟩ : ∃ len, len = l.length := ⟨_, rfl⟩
    have HL := hide hlen
    rw [← hlen] at hl HA hll ⊢
    clear hlen
    go_enter Tryz.func73, Tryz.ntmps73
    go_wp2
    go_loopw [3, 8] (fun o i wr => ∃ j : Nat, j ≤ len ∧ i = .int .i64 j ∧ Own wr w.heap.size o ((l.take j).map (Lat.stX m)) ∧ Below w.heap.size w wr) (fun _ i _ => len - (intOf i).toNat)
    case atStart => exact ⟨0, Nat.zero_le _, rfl, World.ownsRow_nil _ _ _ _, Below.refl _ _⟩
    case round =>
      obtain ⟨j, hj, rfl, hown, hnx⟩ := hrel
      by_cases hjl : j < len
      · obtain ⟨y, hy⟩ : ∃ y, l[j]? = some y := ⟨_, List.getElem?_eq_getElem (by rw [← HL.out]; exact hjl)⟩
        obtain ⟨k1, k2, e0, e1, e2, e3, va, vb, g0, g1, g2, g3, g4, g5, g6, g7, hx, hsa, hsb⟩ := HEL.out j y hy
        obtain ⟨hyb, hyw⟩ := HOK.out j y hy
        have HST := hide (map_take (f := Lat.stX m) hy)
        obtain rfl := HA.out (by omega)
        have u0 := cellUp g0 hnx
        have u1 := cellUp g1 hnx
        have u2' := cellUp g2 hnx
        have u3' := cellUp g3 hnx
        have u4 := cellUp g4 hnx
        have u5 := cellUp g5 hnx
        have u6 := cellUp g6 hnx
        have u7 := cellUp g7 hnx
        have hat : StAt wr m e0 e1 e2 e3 va vb y := ⟨k1, k2, hx.below hnx, hsa.below hnx, hsb.below hnx⟩
        have hyt : (Lat.stX m y).size ≤ maxLen := by have := stX_size hat hyw; unfold maxLen; omega
        have HAT := hide hat
        obtain ⟨ae, ce, rfl, rfl, rfl, rfl⟩ := hx.shape
        obtain ⟨a1, cap1, rfl, hl1⟩ := hsa.shape
        obtain ⟨a2, cap2, rfl, hl2⟩ := hsb.shape
        have HNX := hide hnx
        have HOW := hide hown
        clear g0 g1 g2 g3 g4 g5 g6 g7 hx hsa hsb hy hnx hown hat
        go_wp2_with fail
        refine (HI.out _ _ _ _ _ _ _ y (HAT.out.below (boxBelow _ _)) hyb hyw ((HT.out.below HNX.out).below (boxBelow _ _))).mono ?_
        rintro e w5 ⟨rfl, hb5⟩
        have hb5' := up1 hb5
        have HN5 := hide (up HNX.out hb5')
        have HOW5 : Hid (Own w5 w.heap.size _ _) := hide (own_below HOW.out hb5')
        clear hb5 hb5' HNX HOW
        generalize Lat.stX m y = ty at *
        have hbs := HN5.out.size
        have hlt : ((l.take j).map (Lat.stX m)).length ≤ 1048576 := by rw [List.length_map, List.length_take]; omega
        go_wp2_with (first
          | (at_builtin; refine wpList_append_strs rfl _ _ rfl w.heap.size _ _ [ty] rfl (own_below HOW5.out (boxBelow _ _)) _ rfl (strs_lit1 rfl _ hyt) (by simp only [List.length_singleton]; omega) (by simp; omega) ?_; intro v' w2 hown2 hgrow2)
          | fail)
        have R2 := hide ((HN5.out.alloc hbs (.cells #[.string ty] 9)).grown hgrow2 (by simp; omega) (fun j hj => (HOW5.out.lt j hj).1))
        have HO2 := hide hown2
        clear hgrow2 hown2
        go_roundw
        case rel => exact ⟨j + 1, by omega, by go_num, by rw [HST.out]; exact HO2.out, R2.out⟩
        case measure => simp [intOf]; omega
      · have e : l.take j = l := List.take_of_length_le (by have := HL.out; omega)
        rw [e, ← HE.out] at hown
        have hs := hown.strs HTS.out (by rw [HE.out, List.length_map, ← HL.out]; exact hl)
        obtain ⟨a', c', rfl, _⟩ := hs.shape
        have HO2 := hide hs
        clear hown hs
        generalize (Lat.txs (m + 1) l).length = nn at *
        go_wp2
        go_ret
        exact ⟨_, _, _, rfl, HO2.out, hnx⟩

end Go.Proofs.YtbncnkfogkhoeabGreatDoor

/- Walks over package tree: importTexts, varTexts. -/
namespace Go.Proofs.YtbncnkfogkhoeabGreatDoor
open Go.RowKit

namespace Lat
def impX (s : ByteArray) : ByteArray := brk [⟨#[105, 109, 112, 111, 114, 116]⟩, s]
def vaX (v : Va) : ByteArray := brk [⟨#[118, 97, 114]⟩, v.name, v.level]
end Lat

theorem impX_size (s : ByteArray) : (Lat.impX s).size = s.size + 9 := by
  unfold Lat.impX
  rw [brk_size, jn_size]
  simp [Lib.join_cons, Lib.joinTail]
theorem vaX_size (v : Va) : (Lat.vaX v).size = v.name.size + v.level.size + 7 := by
  unfold Lat.vaX
  rw [brk_size, jn_size]
  simp [Lib.join_cons, Lib.joinTail]
  omega

set_option maxHeartbeats 2000000 in
set_option maxRecDepth 100000 in
theorem importTexts_any (w : World) (v : Value) (l : List ByteArray) (h : Strs w v l) (hw : strsW l ≤ 1048576) :
    Calls Tryz.prog 43 #[v] w fun e w' => ∃ a n c, e = .returned (.slice a n c) ∧ Strs w' (.slice a n c) (l.map Lat.impX) ∧ Below w.heap.size w w' := by
  obtain ⟨a, b, off, cap, rfl, ha, hl, hs, hc⟩ := h
  have hll : l.length ≤ 1048576 := by
    have := len_le_sum (l := l) (f := fun s : ByteArray => s.size + 1) (fun y _ => by omega)
    unfold strsW at hw; omega
  have HW : Hid (∀ y ∈ l, y.size ≤ 1048576) := hide (fun y hy => by
    have := mem_le_sum (f := fun s : ByteArray => s.size + 1) hy
    unfold strsW at hw; omega)
  have HTS : Hid (∀ t ∈ l.map Lat.impX, t.size ≤ maxLen) := hide (fun t ht => by
    obtain ⟨y, hy, rfl⟩ := List.mem_map.1 ht
    have := HW.out y hy
    rw [impX_size]; unfold maxLen; omega)
  have HC := hide hc
  have HA := hide ha
  clear hc ha hw hs
  obtain ⟨len, hlen⟩ : ∃ len, len = l.length := ⟨_, rfl⟩
  have HL := hide hlen
  rw [← hlen] at hl HA hll HC ⊢
  clear hlen
  go_enter Tryz.func43, Tryz.ntmps43
  go_wp2
  go_loopw [3, 8] (fun o i wr => ∃ j : Nat, j ≤ len ∧ i = .int .i64 j ∧ Own wr w.heap.size o ((l.take j).map Lat.impX) ∧ Below w.heap.size w wr) (fun _ i _ => len - (intOf i).toNat)
  case atStart => exact ⟨0, Nat.zero_le _, rfl, World.ownsRow_nil _ _ _ _, Below.refl _ _⟩
  case round =>
    obtain ⟨j, hj, rfl, hown, hnx⟩ := hrel
    by_cases hjl : j < len
    · obtain ⟨y, hy⟩ : ∃ y, l[j]? = some y := ⟨_, List.getElem?_eq_getElem (by rw [← HL.out]; exact hjl)⟩
      have g0 := HC.out j hjl
      rw [show l.getD j ByteArray.empty = y by rw [List.getD, hy]; rfl] at g0
      have hyw := HW.out y (List.mem_of_getElem? hy)
      have HST := hide (map_take (f := Lat.impX) hy)
      obtain rfl := HA.out (by omega)
      have u0 := cellUp g0 hnx
      have hys := impX_size y
      have hyt : (Lat.impX y).size ≤ maxLen := by unfold maxLen; omega
      have hym : y.size ≤ maxLen := by unfold maxLen; omega
      have HBS : Hid ((Lat.brk [[⟨#[105, 109, 112, 111, 114, 116]⟩, y]].flatten).size ≤ 16777216) := hide (by
        rw [List.flatten_singleton]; show (Lat.impX y).size ≤ _; omega)
      have HE : Hid (Lat.brk [[⟨#[105, 109, 112, 111, 114, 116]⟩, y]].flatten = Lat.impX y) := hide (by rw [List.flatten_singleton]; rfl)
      have HNX := hide hnx
      have HOW := hide hown
      clear g0 hy hnx hown hys
      go_wp2_with fail
      refine (brackets_any _ _ [[⟨#[105, 109, 112, 111, 114, 116]⟩, y]] (strsS_1 (by simp) (strs_lit2 rfl _ _ (by decide) hym)) HBS.out).mono ?_
      rintro e w5 ⟨rfl, hb5⟩
      rw [HE.out]
      have hb5' := up1 (up1 hb5)
      have HN5 := hide (up HNX.out hb5')
      have HOW5 : Hid (Own w5 w.heap.size _ _) := hide (own_below HOW.out hb5')
      clear hb5 hb5' HNX HOW HE HBS
      generalize Lat.impX y = ty at *
      have hbs := HN5.out.size
      have hlt : ((l.take j).map Lat.impX).length ≤ 1048576 := by rw [List.length_map, List.length_take]; omega
      go_wp2_with (first
        | (at_builtin; refine wpList_append_strs rfl _ _ rfl w.heap.size _ _ [ty] rfl (own_below HOW5.out (boxBelow _ _)) _ rfl (strs_lit1 rfl _ hyt) (by simp only [List.length_singleton]; omega) (by simp; omega) ?_; intro v' w2 hown2 hgrow2)
        | fail)
      have R2 := hide ((HN5.out.alloc hbs (.cells #[.string ty] 9)).grown hgrow2 (by simp; omega) (fun j hj => (HOW5.out.lt j hj).1))
      have HO2 := hide hown2
      clear hgrow2 hown2
      go_roundw
      case rel => exact ⟨j + 1, by omega, by go_num, by rw [HST.out]; exact HO2.out, R2.out⟩
      case measure => simp [intOf]; omega
    · have e : l.take j = l := List.take_of_length_le (by have := HL.out; omega)
      rw [e] at hown
      have hs := hown.strs HTS.out (by rw [List.length_map, ← HL.out]; exact hl)
      obtain ⟨a', c', rfl, _⟩ := hs.shape
      have HO2 := hide hs
      clear hown hs
      generalize (l.map Lat.impX).length = nn at *
      go_wp2
      go_ret
      exact ⟨_, _, _, rfl, HO2.out, hnx⟩

set_option maxHeartbeats 2000000 in
set_option maxRecDepth 100000 in
theorem varTexts_any (w : World) (v : Value) (l : List Va) (h : VasAt w v l) (hw : vasW l ≤ 1048576) :
    Calls Tryz.prog 44 #[v] w fun e w' => ∃ a n c, e = .returned (.slice a n c) ∧ Strs w' (.slice a n c) (l.map Lat.vaX) ∧ Below w.heap.size w w' := by
  obtain ⟨a, b, off, cap, rfl, ha, hl, hc⟩ := h
  have hll : l.length ≤ 1048576 := by
    have := len_le_sum (l := l) (f := fun s : Va => s.name.size + s.level.size + 3) (fun y _ => by omega)
    unfold vasW at hw; omega
  have HW : Hid (∀ y ∈ l, y.name.size + y.level.size ≤ 1048576) := hide (fun y hy => by
    have := mem_le_sum (f := fun s : Va => s.name.size + s.level.size + 3) hy
    unfold vasW at hw; omega)
  have HTS : Hid (∀ t ∈ l.map Lat.vaX, t.size ≤ maxLen) := hide (fun t ht => by
    obtain ⟨y, hy, rfl⟩ := List.mem_map.1 ht
    have := HW.out y hy
    rw [vaX_size]; unfold maxLen; omega)
  have HC := hide hc
  have HA := hide ha
  clear hc ha hw
  obtain ⟨len, hlen⟩ : ∃ len, len = l.length := ⟨_, rfl⟩
  have HL := hide hlen
  rw [← hlen] at hl HA hll ⊢
  clear hlen
  go_enter Tryz.func44, Tryz.ntmps44
  go_wp2
  go_loopw [3, 8] (fun o i wr => ∃ j : Nat, j ≤ len ∧ i = .int .i64 j ∧ Own wr w.heap.size o ((l.take j).map Lat.vaX) ∧ Below w.heap.size w wr) (fun _ i _ => len - (intOf i).toNat)
  case atStart => exact ⟨0, Nat.zero_le _, rfl, World.ownsRow_nil _ _ _ _, Below.refl _ _⟩
  case round =>
    obtain ⟨j, hj, rfl, hown, hnx⟩ := hrel
    by_cases hjl : j < len
    · obtain ⟨y, hy⟩ : ∃ y, l[j]? = some y := ⟨_, List.getElem?_eq_getElem (by rw [← HL.out]; exact hjl)⟩
      obtain ⟨k1, k2, g0, g1⟩ := HC.out j y hy
      have hyw := HW.out y (List.mem_of_getElem? hy)
      have HST := hide (map_take (f := Lat.vaX) hy)
      obtain rfl := HA.out (by omega)
      have u0 := cellUp g0 hnx
      have u1 := cellUp g1 hnx
      have hys := vaX_size y
      have hyt : (Lat.vaX y).size ≤ maxLen := by unfold maxLen; omega
      have HBS : Hid ((Lat.brk [[⟨#[118, 97, 114]⟩, y.name, y.level]].flatten).size ≤ 16777216) := hide (by
        rw [List.flatten_singleton]; show (Lat.vaX y).size ≤ _; omega)
      have HE : Hid (Lat.brk [[⟨#[118, 97, 114]⟩, y.name, y.level]].flatten = Lat.vaX y) := hide (by rw [List.flatten_singleton]; rfl)
      have HNX := hide hnx
      have HOW := hide hown
      clear g0 g1 hy hnx hown hys
      go_wp2_with fail
      refine (brackets_any _ _ [[⟨#[118, 97, 114]⟩, y.name, y.level]] (strsS_1 (by simp) (strs_lit3 (by simp) _ _ _ (by decide) k1 k2)) HBS.out).mono ?_
      rintro e w5 ⟨rfl, hb5⟩
      rw [HE.out]
      have hb5' := up1 (up1 (up1 hb5))
      have HN5 := hide (up HNX.out hb5')
      have HOW5 : Hid (Own w5 w.heap.size _ _) := hide (own_below HOW.out hb5')
      clear hb5 hb5' HNX HOW HE HBS
      generalize Lat.vaX y = ty at *
      have hbs := HN5.out.size
      have hlt : ((l.take j).map Lat.vaX).length ≤ 1048576 := by rw [List.length_map, List.length_take]; omega
      go_wp2_with (first
        | (at_builtin; refine wpList_append_strs rfl _ _ rfl w.heap.size _ _ [ty] rfl (own_below HOW5.out (boxBelow _ _)) _ rfl (strs_lit1 rfl _ hyt) (by simp only [List.length_singleton]; omega) (by simp; omega) ?_; intro v' w2 hown2 hgrow2)
        | fail)
      have R2 := hide ((HN5.out.alloc hbs (.cells #[.string ty] 9)).grown hgrow2 (by simp; omega) (fun j hj => (HOW5.out.lt j hj).1))
      have HO2 := hide hown2
      clear hgrow2 hown2
      go_roundw
      case rel => exact ⟨j + 1, by omega, by go_num, by rw [HST.out]; exact HO2.out, R2.out⟩
      case measure => simp [intOf]; omega
    · have e : l.take j = l := List.take_of_length_le (by have := HL.out; omega)
      rw [e] at hown
      have hs := hown.strs HTS.out (by rw [List.length_map, ← HL.out]; exact hl)
      obtain ⟨a', c', rfl, _⟩ := hs.shape
      have HO2 := hide hs
      clear hown hs
      generalize (l.map Lat.vaX).length = nn at *
      go_wp2
      go_ret
      exact ⟨_, _, _, rfl, HO2.out, hnx⟩

end Go.Proofs.YtbncnkfogkhoeabGreatDoor
