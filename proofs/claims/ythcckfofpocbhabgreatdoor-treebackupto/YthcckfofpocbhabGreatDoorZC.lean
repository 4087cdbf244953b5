/- Walks over package tree: exprDepth, commandDepth, commandsDepth, funDepth, moduleDepth: how deep the brackets are nested. -/
import Derived.Test.YthcckfofpocbhabGreatDoorZB
import Derived.Deep.RegionHeld3
import Derived.Deep.OwnRows
import Derived.Laws.OwnMore
import Derived.OwnWalk
import Derived.Lib.AppendZerosOnto
import Derived.Lib.SliceRun
import Derived.Lib.Join
namespace Go.Proofs.YthcckfofpocbhabGreatDoor
open Go.RowKit

namespace Lat
def maxN {α : Type} (f : α → Nat) (l : List α) : Nat := l.foldl (fun a y => max a (f y)) 0
def exD : Nat → Ex → Nat
  | 0, _ => 0
  | m + 1, x => if x.kind = 1 ∨ x.kind = 2 then 0 else 1 + maxN (exD m) x.args
def bdD : Nat → List St → Nat
  | 0, _ => 0
  | m + 1, l => maxN (fun s => 1 + if s.kind = 2 ∨ s.kind = 3 then max (max (exD m s.e) (1 + bdD m s.a)) (1 + bdD m s.b) else exD m s.e) l
def stD (m : Nat) (s : St) : Nat := 1 + if s.kind = 2 ∨ s.kind = 3 then max (max (exD m s.e) (1 + bdD m s.a)) (1 + bdD m s.b) else exD m s.e
theorem bdD_succ (m : Nat) (l : List St) : bdD (m + 1) l = maxN (stD m) l := rfl
def fuD (m : Nat) (f : Fu) : Nat := 1 + max (max 1 (bdD m f.body)) (exD m f.result)
def moD (m : Nat) (x : Mo) : Nat := 1 + max 1 (maxN (fuD m) x.funs)
end Lat

section
variable {α : Type} {f : α → Nat}
theorem maxN_fold (l : List α) (a : Nat) : l.foldl (fun a y => max a (f y)) a = max a (Lat.maxN f l) := by
  induction l generalizing a with
  | nil => simp [Lat.maxN]
  | cons y l ih =>
    unfold Lat.maxN
    rw [List.foldl_cons, List.foldl_cons, ih, ih]
    omega
theorem maxN_cons (y : α) (l : List α) : Lat.maxN f (y :: l) = max (f y) (Lat.maxN f l) := by
  rw [Lat.maxN, List.foldl_cons, maxN_fold]; omega
theorem maxN_append (l k : List α) : Lat.maxN f (l ++ k) = max (Lat.maxN f l) (Lat.maxN f k) := by
  rw [Lat.maxN, List.foldl_append, maxN_fold]; rfl
theorem maxN_take {l : List α} {j : Nat} {y : α} (h : l[j]? = some y) : Lat.maxN f (l.take (j + 1)) = max (Lat.maxN f (l.take j)) (f y) := by
  obtain ⟨hj, rfl⟩ := List.getElem?_eq_some_iff.1 h
  rw [List.take_succ_eq_append_getElem hj, maxN_append, maxN_cons]; simp [Lat.maxN]
theorem maxN_le {B : Nat} {l : List α} (h : ∀ y ∈ l, f y ≤ B) : Lat.maxN f l ≤ B := by
  induction l with
  | nil => exact Nat.zero_le _
  | cons y l ih =>
    rw [maxN_cons]
    have h1 := h y (by simp)
    have h2 := ih (fun z hz => h z (by simp [hz]))
    omega
theorem le_maxN {l : List α} {y : α} (h : y ∈ l) : f y ≤ Lat.maxN f l := by
  induction l with
  | nil => cases h
  | cons z l ih =>
    rw [maxN_cons]
    rcases List.mem_cons.1 h with rfl | h
    · omega
    · have := ih h; omega
theorem maxN_sum {g : α → Nat} {l : List α} (h : ∀ y ∈ l, f y ≤ g y) : Lat.maxN f l ≤ (l.map g).sum := by
  induction l with
  | nil => exact Nat.zero_le _
  | cons y l ih =>
    rw [maxN_cons, List.map_cons, List.sum_cons]
    have h1 := h y (by simp)
    have h2 := ih (fun z hz => h z (by simp [hz]))
    omega
theorem maxN_take_le (l : List α) (j : Nat) : Lat.maxN f (l.take j) ≤ Lat.maxN f l := by
  conv => rhs; rw [← List.take_append_drop j l]
  rw [maxN_append]; omega
end

theorem exD_le : ∀ (m : Nat) (x : Ex), Lat.exD m x ≤ exW m x
  | 0, _ => Nat.le_refl _
  | m + 1, x => by
    simp only [Lat.exD, exW]
    have := maxN_sum (f := Lat.exD m) (g := exW m) (l := x.args) (fun y _ => exD_le m y)
    split <;> omega
theorem bdD_le : ∀ (m : Nat) (l : List St), Lat.bdD m l ≤ stsW m l
  | 0, _ => Nat.le_refl _
  | m + 1, l => by
    simp only [Lat.bdD, stsW]
    refine Nat.le_trans (maxN_sum (g := fun s => s.name.size + 3 + exW m s.e + stsW m s.a + stsW m s.b) (fun s _ => ?_)) (Nat.le_succ _)
    have h1 := exD_le m s.e
    have h2 := bdD_le m s.a
    have h3 := bdD_le m s.b
    split <;> omega

theorem wrap_small {x : Int} (h0 : 0 ≤ x) (h1 : x ≤ 9223372036854775807) : IntKind.i64.wrap x = x := by
  rw [IntKind.wrap_i64]; omega
theorem val_imax {a b c : Nat} (h : c = max a b) : Value.int .i64 (max (a : Int) (b : Int)) = .int .i64 c := by rw [h]; congr 1; omega

set_option maxHeartbeats 2000000 in
set_option maxRecDepth 100000 in
theorem exprDepth_any (m : Nat) : ∀ (w : World) (c0 c1 c2 c3 : Value) (x : Ex), ExAt w m c0 c1 c2 c3 x → exW m x ≤ 1048576 →
    Calls Tryz.prog 61 #[.agg #[c0, c1, c2, c3]] w fun e w' => e = .returned (.int .i64 (Lat.exD m x)) ∧ Below w.heap.size w w' := by
  induction m with
  | zero => intro w c0 c1 c2 c3 x h; exact False.elim h
  | succ m ih =>
    intro w c0 c1 c2 c3 x h hw
    have HI := hide ih
    clear ih
    obtain ⟨rfl, rfl, rfl, hsz, hk1, hk2, a, b, off, cap, rfl, ha, hl, hel⟩ := h
    obtain ⟨k, n, s, args⟩ := x
    simp only at hsz hk1 hk2 ha hl hel ⊢
    have HEL := hide hel
    have HA := hide ha
    have HW : Hid (∀ (i : Nat) (y : Ex), args[i]? = some y → exW m y ≤ 1048576) := hide (fun i y hy => by
      have : exW m y ≤ (args.map (exW m)).sum := mem_le_sum (List.mem_of_getElem? hy)
      simp only [exW] at hw; omega)
    have HM : Hid (Lat.maxN (Lat.exD m) args ≤ 1048576) := hide (by
      have := maxN_sum (f := Lat.exD m) (g := exW m) (l := args) (fun y _ => exD_le m y)
      simp only [exW] at hw; omega)
    have HE : Hid (Lat.exD (m + 1) ⟨k, n, s, args⟩ = if k = 1 ∨ k = 2 then 0 else 1 + Lat.maxN (Lat.exD m) args) := rfl
    clear hel ha hw
    obtain ⟨len, hlen⟩ : ∃ len, len = args.length := ⟨_, rfl⟩
    have HL := hide hlen
    rw [← hlen] at hl HA ⊢
    clear hlen
    by_cases h1 : k = 1
    · subst h1
      go_enter Tryz.func61, Tryz.ntmps61
      go_wp2
      go_ret
      exact ⟨ret_int (by rw [HE.out]; rfl), boxBelow _ _⟩
    by_cases h2 : k = 2
    · subst h2
      go_enter Tryz.func61, Tryz.ntmps61
      go_wp2
      go_ret
      exact ⟨ret_int (by rw [HE.out]; rfl), boxBelow _ _⟩
    rw [if_neg (by omega)] at HE
    have k1 : (k == 1) = false := by simp [h1]
    have k2 : (k == 2) = false := by simp [h2]
    clear h1 h2
    have q3 := boxCells4 w (.int .i64 k) (.int .i64 n) (.string s) (.slice a len cap) 52
    have HB0 := hide (boxBelow w (.cells #[.int .i64 k, .int .i64 n, .string s, .slice a len cap] 52))
    go_enter Tryz.func61, Tryz.ntmps61
    go_wp2_with fail
    generalize (w.alloc (.cells #[.int .i64 k, .int .i64 n, .string s, .slice a len cap] 52)) = W0 at *
    go_loopw [3, 17] (fun o i wr => ∃ j : Nat, j ≤ len ∧ i = .int .i64 j ∧ o = .int .i64 (Lat.maxN (Lat.exD m) (args.take j)) ∧ Below W0.heap.size W0 wr) (fun _ i _ => len - (intOf i).toNat)
    case atStart => exact ⟨0, Nat.zero_le _, rfl, rfl, Below.refl _ _⟩
    case round =>
      obtain ⟨j, hj, rfl, rfl, hnx⟩ := hrel
      have hacc := Nat.le_trans (maxN_take_le (f := Lat.exD m) args j) HM.out
      by_cases hjl : j < len
      · obtain ⟨y, hy⟩ : ∃ y, args[j]? = some y := ⟨_, List.getElem?_eq_getElem (by rw [← HL.out]; exact hjl)⟩
        obtain ⟨e0, e1, e2, e3, g0, g1, g2, g3, hye⟩ := HEL.out j y hy
        obtain rfl := HA.out (by omega)
        have hbb := up HB0.out hnx
        have u0 := cellUp g0 hbb
        have u1 := cellUp g1 hbb
        have u2' := cellUp g2 hbb
        have u3' := cellUp g3 hbb
        have HYE := hide (hye.below hbb)
        obtain ⟨a', cap', rfl, rfl, rfl, rfl⟩ := hye.shape
        have hyw := HW.out j y hy
        have HST := hide (maxN_take (f := Lat.exD m) hy)
        have HNX := hide hnx
        clear g0 g1 g2 g3 hye hy hbb hnx
        go_wp2_with fail
        refine (HI.out _ _ _ _ _ y (HYE.out.below (boxBelow _ _)) hyw).mono ?_
        rintro e w5 ⟨rfl, hb5⟩
        have HN5 := hide (up HNX.out (up1 hb5))
        clear hb5 HNX hyw
        generalize Lat.exD m y = dy at *
        generalize Lat.maxN (Lat.exD m) (args.take j) = acc at *
        go_wp2_with fail
        go_roundw
        case rel => exact ⟨j + 1, by omega, by go_num, val_imax HST.out, HN5.out⟩
        case measure => simp [intOf]; omega
      · have e : args.take j = args := List.take_of_length_le (by have := HL.out; omega)
        rw [e] at hacc ⊢
        clear e
        generalize Lat.maxN (Lat.exD m) args = acc at *
        go_wp2
        go_ret
        exact ⟨ret_int (by rw [HE.out]; go_num), up HB0.out hnx⟩

set_option maxHeartbeats 2000000 in
set_option maxRecDepth 100000 in
theorem commandDepth_of (m : Nat) (hi : ∀ (w : World) (v : Value) (l : List St), StsAt w m v l → stsW m l ≤ 1048576 → Calls Tryz.prog 60 #[v] w fun e w' => e = .returned (.int .i64 (Lat.bdD m l)) ∧ Below w.heap.size w w')
    (w : World) (e0 e1 e2 e3 va vb : Value) (s : St) (h : StAt w m e0 e1 e2 e3 va vb s) (hw : s.name.size + 3 + exW m s.e + stsW m s.a + stsW m s.b ≤ 1048576) :
    Calls Tryz.prog 76 #[.agg #[.int .i64 s.kind, .string s.name, e0, e1, e2, e3, va, vb]] w fun e w' => e = .returned (.int .i64 (Lat.stD m s)) ∧ Below w.heap.size w w' := by
  have HI := hide hi
  clear hi
  have HS := hide h
  obtain ⟨_, hnm, hx, hsa, hsb⟩ := h
  obtain ⟨ae, ce, rfl, rfl, rfl, rfl⟩ := hx.shape
  obtain ⟨a1, cap1, rfl, hl1⟩ := hsa.shape
  obtain ⟨a2, cap2, rfl, hl2⟩ := hsb.shape
  clear hx hsa hsb
  have HE : Hid (Lat.stD m s = 1 + if s.kind = 2 ∨ s.kind = 3 then max (max (Lat.exD m s.e) (1 + Lat.bdD m s.a)) (1 + Lat.bdD m s.b) else Lat.exD m s.e) := rfl
  have w1 : exW m s.e ≤ 1048576 := by omega
  have w2 : stsW m s.a ≤ 1048576 := by omega
  have w3 : stsW m s.b ≤ 1048576 := by omega
  have d1 := Nat.le_trans (exD_le m s.e) w1
  have d2 := Nat.le_trans (bdD_le m s.a) w2
  have d3 := Nat.le_trans (bdD_le m s.b) w3
  clear hw
  generalize s.e.args.length = le at *
  generalize s.a.length = l1 at *
  generalize s.b.length = l2 at *
  have q0 := box8_0 w (.int .i64 s.kind) (.string s.name) (.int .i64 s.e.kind) (.int .i64 s.e.n) (.string s.e.name) (.slice ae le ce) (.slice a1 l1 cap1) (.slice a2 l2 cap2) 78
  have q6 := boxCells86 w (.int .i64 s.kind) (.string s.name) (.int .i64 s.e.kind) (.int .i64 s.e.n) (.string s.e.name) (.slice ae le ce) (.slice a1 l1 cap1) (.slice a2 l2 cap2) 78
  have q7 := boxCells87 w (.int .i64 s.kind) (.string s.name) (.int .i64 s.e.kind) (.int .i64 s.e.n) (.string s.e.name) (.slice ae le ce) (.slice a1 l1 cap1) (.slice a2 l2 cap2) 78
  have HB0 := hide (boxBelow w (.cells #[.int .i64 s.kind, .string s.name, .int .i64 s.e.kind, .int .i64 s.e.n, .string s.e.name, .slice ae le ce, .slice a1 l1 cap1, .slice a2 l2 cap2] 78))
  go_enter Tryz.func76, Tryz.ntmps76
  go_wp2_with fail
  refine (exprDepth_any m _ _ _ _ _ s.e (HS.out.below HB0.out).2.2.1 w1).mono ?_
  rintro e w5 ⟨rfl, hb5⟩
  replace q0 := cellUp q0 hb5
  replace q6 := cellUp q6 hb5
  replace q7 := cellUp q7 hb5
  have HN := hide (up HB0.out hb5)
  clear hb5 HB0
  have HSA := hide (HS.out.below HN.out).2.2.2.1
  have HSB := hide (HS.out.below HN.out).2.2.2.2
  generalize Lat.exD m s.e = de at *
  by_cases hk : s.kind = 2 ∨ s.kind = 3
  · rw [if_pos hk] at HE
    have HF : Hid (∀ wx, Hid (Below w5.heap.size w5 wx) → Hid (Below w5.heap.size w5 wx) ∧ wx.cell? ⟨w.heap.size, 6, none⟩ = some (.slice a1 l1 cap1) ∧ wx.cell? ⟨w.heap.size, 7, none⟩ = some (.slice a2 l2 cap2)) :=
      fun wx h => ⟨h, cellUp q6 h.out, cellUp q7 h.out⟩
    have H00 : Hid (Below w5.heap.size w5 w5) := hide (Below.refl _ _)
    generalize hda : Lat.bdD m s.a = da at *
    have HDA := hide hda
    clear hda
    generalize hdb : Lat.bdD m s.b = db at *
    have HDB := hide hdb
    clear hdb q6 q7
    have WA : Hid (IntKind.i64.wrap (1 + (da : Int)) = 1 + (da : Int)) := hide (wrap_small (by omega) (by omega))
    have WB : Hid (IntKind.i64.wrap (1 + (db : Int)) = 1 + (db : Int)) := hide (wrap_small (by omega) (by omega))
    rcases hk with hk | hk
    all_goals
      rw [hk] at q0
      go_wp2_with fail
      go_region_held3 (fun wx => Hid (Below w5.heap.size w5 wx) ∧ wx.cell? ⟨w.heap.size, 6, none⟩ = some (.slice a1 l1 cap1) ∧ wx.cell? ⟨w.heap.size, 7, none⟩ = some (.slice a2 l2 cap2))
        (first | exact HF.out _ HW31 | exact HF.out _ HW30 | exact HF.out _ (hide H00.out.drew))
        (first
          | (go_at_call_of 60 (a1); refine (HI.out _ _ s.a ?_ w2).mono ?_; (exact HSA.out.below H00.out.drew); rintro e w30 ⟨rfl, hb30⟩; have HW30 := hide (up H00.out.drew hb30); clear hb30; rw [HDA.out])
          | (go_at_call_of 60 (a2); refine (HI.out _ _ s.b ?_ w3).mono ?_; (exact HSB.out.below HW30.out); rintro e w31 ⟨rfl, hb31⟩; have HW31 := hide (up HW30.out hb31); clear hb31; rw [HDB.out]))
      all_goals
        go_wp2
      all_goals
        go_ret
        exact ⟨ret_int (by rw [HE.out]; simp only [WA.out, WB.out] at *; omega), up HN.out HW31.out⟩
  · rw [if_neg hk] at HE
    have k2 : (s.kind == 2) = false := by simp; omega
    have k3 : (s.kind == 3) = false := by simp; omega
    clear hk q6 q7
    go_wp2
    go_ret
    exact ⟨ret_int (by rw [HE.out]; go_num), HN.out⟩

set_option maxHeartbeats 2000000 in
set_option maxRecDepth 100000 in
theorem commandsDepth_any (m : Nat) : ∀ (w : World) (v : Value) (l : List St), StsAt w m v l → stsW m l ≤ 1048576 →
    Calls Tryz.prog 60 #[v] w fun e w' => e = .returned (.int .i64 (Lat.bdD m l)) ∧ Below w.heap.size w w' := by
  induction m with
  | zero => intro w v l h; exact False.elim h
  | succ m ih =>
    intro w v l h hw
    have HI := hide (commandDepth_of m ih)
    clear ih
    obtain ⟨a, b, off, cap, rfl, ha, hl, hel⟩ := h
    have HE := hide (Lat.bdD_succ m l)
    have HM : Hid (Lat.maxN (Lat.stD m) l ≤ 1048576) := hide (by rw [← Lat.bdD_succ]; exact Nat.le_trans (bdD_le _ _) hw)
    have HW : Hid (∀ (i : Nat) (y : St), l[i]? = some y → y.name.size + 3 + exW m y.e + stsW m y.a + stsW m y.b ≤ 1048576) := hide (fun i y hy => by
      have : y.name.size + 3 + exW m y.e + stsW m y.a + stsW m y.b ≤ (l.map fun s : St => s.name.size + 3 + exW m s.e + stsW m s.a + stsW m s.b).sum := mem_le_sum (f := fun s : St => s.name.size + 3 + exW m s.e + stsW m s.a + stsW m s.b) (List.mem_of_getElem? hy)
      simp only [stsW] at hw; omega)
    have HEL := hide hel
    have HA := hide ha
    clear hel ha hw
    obtain ⟨len, hlen⟩ : ∃ len, len = l.length := ⟨_, rfl⟩
    have HL := hide hlen
    rw [← hlen] at hl HA ⊢
    clear hlen
    go_enter Tryz.func60, Tryz.ntmps60
    go_wp2
    go_loopw [3, 8] (fun o i wr => ∃ j : Nat, j ≤ len ∧ i = .int .i64 j ∧ o = .int .i64 (Lat.maxN (Lat.stD m) (l.take j)) ∧ Below w.heap.size w wr) (fun _ i _ => len - (intOf i).toNat)
    case atStart => exact ⟨0, Nat.zero_le _, rfl, rfl, Below.refl _ _⟩
    case round =>
      obtain ⟨j, hj, rfl, rfl, hnx⟩ := hrel
      have hacc := Nat.le_trans (maxN_take_le (f := Lat.stD m) l j) HM.out
      by_cases hjl : j < len
      · obtain ⟨y, hy⟩ : ∃ y, l[j]? = some y := ⟨_, List.getElem?_eq_getElem (by rw [← HL.out]; exact hjl)⟩
        obtain ⟨k1, k2, e0, e1, e2, e3, va, vb, g0, g1, g2, g3, g4, g5, g6, g7, hx, hsa, hsb⟩ := HEL.out j y hy
        have HST := hide (maxN_take (f := Lat.stD m) hy)
        have hyw := HW.out j y hy
        obtain rfl := HA.out (by omega)
        have u0 := cellUp g0 hnx
        have u1 := cellUp g1 hnx
        have u2' := cellUp g2 hnx
        have u3' := cellUp g3 hnx
        have u4 := cellUp g4 hnx
        have u5 := cellUp g5 hnx
        have u6 := cellUp g6 hnx
        have u7 := cellUp g7 hnx
        have HAT : Hid (StAt wr m e0 e1 e2 e3 va vb y) := hide ⟨k1, k2, hx.below hnx, hsa.below hnx, hsb.below hnx⟩
        obtain ⟨ae, ce, rfl, rfl, rfl, rfl⟩ := hx.shape
        obtain ⟨a1, cap1, rfl, hl1⟩ := hsa.shape
        obtain ⟨a2, cap2, rfl, hl2⟩ := hsb.shape
        have HNX := hide hnx
        clear g0 g1 g2 g3 g4 g5 g6 g7 hx hsa hsb hy hnx
        go_wp2_with fail
        refine (HI.out _ _ _ _ _ _ _ y (HAT.out.below (boxBelow _ _)) hyw).mono ?_
        rintro e w5 ⟨rfl, hb5⟩
        have HN5 := hide (up HNX.out (up1 hb5))
        clear hb5 HNX
        generalize Lat.stD m y = dy at *
        generalize Lat.maxN (Lat.stD m) (l.take j) = acc at *
        go_wp2_with fail
        go_roundw
        case rel => exact ⟨j + 1, by omega, by go_num, val_imax HST.out, HN5.out⟩
        case measure => simp [intOf]; omega
      · have e : l.take j = l := List.take_of_length_le (by have := HL.out; omega)
        rw [e] at hacc ⊢
        clear e
        generalize Lat.maxN (Lat.stD m) l = acc at *
        go_wp2
        go_ret
        exact ⟨ret_int (by rw [HE.out]), hnx⟩

/-- The seven values are the function f. -/
def FuAt (w : World) (m : Nat) (vp vb e0 e1 e2 e3 : Value) (f : Fu) : Prop :=
  f.name.size ≤ maxLen ∧ Strs w vp f.params ∧ StsAt w m vb f.body ∧ ExAt w m e0 e1 e2 e3 f.result
theorem FuAt.below {w w' : World} {m : Nat} {vp vb e0 e1 e2 e3 : Value} {f : Fu} (h : FuAt w m vp vb e0 e1 e2 e3 f) (hb : Below w.heap.size w w') : FuAt w' m vp vb e0 e1 e2 e3 f :=
  ⟨h.1, h.2.1.below hb, h.2.2.1.below hb, h.2.2.2.below hb⟩
theorem Strs.shape {w : World} {v : Value} {l : List ByteArray} (h : Strs w v l) : ∃ a cap, v = .slice a l.length cap ∧ l.length ≤ 9223372036854775807 := by
  obtain ⟨a, b, off, cap, h1, _, h2, _⟩ := h
  exact ⟨a, cap, h1, h2⟩

section
variable (w : World) (c0 c1 c2 c3 c4 c5 c6 : Value) (t : TypeId)
theorem box7_0 : (w.alloc (.cells #[c0, c1, c2, c3, c4, c5, c6] t)).cell? ⟨w.heap.size, 0, none⟩ = some c0 := by simp [go_sem]
theorem box7_1 : (w.alloc (.cells #[c0, c1, c2, c3, c4, c5, c6] t)).cell? ⟨w.heap.size, 1, none⟩ = some c1 := by simp [go_sem]
theorem box7_2 : (w.alloc (.cells #[c0, c1, c2, c3, c4, c5, c6] t)).cell? ⟨w.heap.size, 2, none⟩ = some c2 := by simp [go_sem]
theorem box7_3 : (w.alloc (.cells #[c0, c1, c2, c3, c4, c5, c6] t)).cell? ⟨w.heap.size, 3, none⟩ = some c3 := by simp [go_sem]
theorem box7_4 : (w.alloc (.cells #[c0, c1, c2, c3, c4, c5, c6] t)).cell? ⟨w.heap.size, 3 + 1, none⟩ = some c4 := by simp [go_sem]
theorem box7_5 : (w.alloc (.cells #[c0, c1, c2, c3, c4, c5, c6] t)).cell? ⟨w.heap.size, 3 + 2, none⟩ = some c5 := by simp [go_sem]
theorem box7_6 : (w.alloc (.cells #[c0, c1, c2, c3, c4, c5, c6] t)).cell? ⟨w.heap.size, 3 + 3, none⟩ = some c6 := by simp [go_sem]
end

set_option maxHeartbeats 2000000 in
set_option maxRecDepth 100000 in
theorem funDepth_any (m : Nat) (w : World) (vp vb e0 e1 e2 e3 : Value) (f : Fu) (h : FuAt w m vp vb e0 e1 e2 e3 f) (hw : stsW m f.body + exW m f.result ≤ 1048576) :
    Calls Tryz.prog 45 #[.agg #[.string f.name, vp, vb, e0, e1, e2, e3]] w fun e w' => e = .returned (.int .i64 (Lat.fuD m f)) ∧ Below w.heap.size w w' := by
  have HS := hide h
  obtain ⟨hnm, hp, hsb, hx⟩ := h
  obtain ⟨ae, ce, rfl, rfl, rfl, rfl⟩ := hx.shape
  obtain ⟨a1, cap1, rfl, hl1⟩ := hsb.shape
  obtain ⟨a2, cap2, rfl, hl2⟩ := hp.shape
  clear hx hsb hp
  have HE : Hid (Lat.fuD m f = 1 + max (max 1 (Lat.bdD m f.body)) (Lat.exD m f.result)) := rfl
  have w1 : exW m f.result ≤ 1048576 := by omega
  have w2 : stsW m f.body ≤ 1048576 := by omega
  have d1 := Nat.le_trans (exD_le m f.result) w1
  have d2 := Nat.le_trans (bdD_le m f.body) w2
  clear hw
  generalize f.result.args.length = le at *
  generalize f.body.length = l1 at *
  generalize f.params.length = l2 at *
  have q2 := box7_2 w (.string f.name) (.slice a2 l2 cap2) (.slice a1 l1 cap1) (.int .i64 f.result.kind) (.int .i64 f.result.n) (.string f.result.name) (.slice ae le ce) 54
  have q3 := box7_3 w (.string f.name) (.slice a2 l2 cap2) (.slice a1 l1 cap1) (.int .i64 f.result.kind) (.int .i64 f.result.n) (.string f.result.name) (.slice ae le ce) 54
  have q4 := box7_4 w (.string f.name) (.slice a2 l2 cap2) (.slice a1 l1 cap1) (.int .i64 f.result.kind) (.int .i64 f.result.n) (.string f.result.name) (.slice ae le ce) 54
  have q5 := box7_5 w (.string f.name) (.slice a2 l2 cap2) (.slice a1 l1 cap1) (.int .i64 f.result.kind) (.int .i64 f.result.n) (.string f.result.name) (.slice ae le ce) 54
  have q6 := box7_6 w (.string f.name) (.slice a2 l2 cap2) (.slice a1 l1 cap1) (.int .i64 f.result.kind) (.int .i64 f.result.n) (.string f.result.name) (.slice ae le ce) 54
  have HB0 := hide (boxBelow w (.cells #[.string f.name, .slice a2 l2 cap2, .slice a1 l1 cap1, .int .i64 f.result.kind, .int .i64 f.result.n, .string f.result.name, .slice ae le ce] 54))
  go_enter Tryz.func45, Tryz.ntmps45
  go_wp2_with fail
  generalize (w.alloc (.cells #[.string f.name, .slice a2 l2 cap2, .slice a1 l1 cap1, .int .i64 f.result.kind, .int .i64 f.result.n, .string f.result.name, .slice ae le ce] 54)) = w5 at *
  have HSB := hide (HS.out.below HB0.out).2.2.1
  have HX := hide (HS.out.below HB0.out).2.2.2
  have HF : Hid (∀ wx, Hid (Below w5.heap.size w5 wx) → Hid (Below w5.heap.size w5 wx) ∧ wx.cell? ⟨w.heap.size, 2, none⟩ = some (.slice a1 l1 cap1) ∧ wx.cell? ⟨w.heap.size, 3, none⟩ = some (.int .i64 f.result.kind) ∧
      wx.cell? ⟨w.heap.size, 3 + 1, none⟩ = some (.int .i64 f.result.n) ∧ wx.cell? ⟨w.heap.size, 3 + 2, none⟩ = some (.string f.result.name) ∧ wx.cell? ⟨w.heap.size, 3 + 3, none⟩ = some (.slice ae le ce)) :=
    fun wx h => ⟨h, cellUp q2 h.out, cellUp q3 h.out, cellUp q4 h.out, cellUp q5 h.out, cellUp q6 h.out⟩
  have H00 : Hid (Below w5.heap.size w5 w5) := hide (Below.refl _ _)
  generalize hda : Lat.bdD m f.body = da at *
  have HDA := hide hda
  clear hda
  generalize hdb : Lat.exD m f.result = db at *
  have HDB := hide hdb
  clear hdb q2 q3 q4 q5 q6
  have WA : Hid (IntKind.i64.wrap (1 + (da : Int)) = 1 + (da : Int)) := hide (wrap_small (by omega) (by omega))
  have WB : Hid (IntKind.i64.wrap (1 + (db : Int)) = 1 + (db : Int)) := hide (wrap_small (by omega) (by omega))
  have W2 : Hid (IntKind.i64.wrap 2 = 2) := hide (wrap_small (by omega) (by omega))
  go_region_held3 (fun wx => Hid (Below w5.heap.size w5 wx) ∧ wx.cell? ⟨w.heap.size, 2, none⟩ = some (.slice a1 l1 cap1) ∧ wx.cell? ⟨w.heap.size, 3, none⟩ = some (.int .i64 f.result.kind) ∧
      wx.cell? ⟨w.heap.size, 3 + 1, none⟩ = some (.int .i64 f.result.n) ∧ wx.cell? ⟨w.heap.size, 3 + 2, none⟩ = some (.string f.result.name) ∧ wx.cell? ⟨w.heap.size, 3 + 3, none⟩ = some (.slice ae le ce))
    (first | exact HF.out _ HW31 | exact HF.out _ HW30 | exact HF.out _ (hide H00.out.drew))
    (first
      | (go_at_call 60; refine (commandsDepth_any m _ _ f.body ?_ w2).mono ?_; (exact HSB.out.below H00.out.drew); rintro e w30 ⟨rfl, hb30⟩; have HW30 := hide (up H00.out.drew hb30); clear hb30; rw [HDA.out])
      | (go_at_call 61; refine (exprDepth_any m _ _ _ _ _ f.result ?_ w1).mono ?_; (exact HX.out.below HW30.out); rintro e w31 ⟨rfl, hb31⟩; have HW31 := hide (up HW30.out hb31); clear hb31; rw [HDB.out]))
  all_goals
    go_wp2
  all_goals
    go_ret
    exact ⟨ret_int (by rw [HE.out]; (try simp only [WA.out, WB.out, W2.out]); omega), up HB0.out HW31.out⟩

theorem fuD_le (m : Nat) (f : Fu) : Lat.fuD m f ≤ 2 + stsW m f.body + exW m f.result := by
  have h1 := bdD_le m f.body
  have h2 := exD_le m f.result
  unfold Lat.fuD; omega

set_option maxHeartbeats 2000000 in
set_option maxRecDepth 100000 in
theorem moduleDepth_any (m : Nat) (w : World) (v : Value) (x : Mo) (h : MoAt w m v x) (hw : moW m x ≤ 1048576) :
    Calls Tryz.prog 24 #[v] w fun e w' => e = .returned (.int .i64 (Lat.moD m x)) ∧ Below w.heap.size w w' := by
  have HE : Hid (Lat.moD m x = 1 + max 1 (Lat.maxN (Lat.fuD m) x.funs)) := rfl
  obtain ⟨vi, vv, vf, rfl, hnm, hI, hV, hF⟩ := h
  have hwm : x.name.size + 2 + strsW x.imports + vasW x.vars + fusW m x.funs ≤ 1048576 := hw
  obtain ⟨ai, ci, rfl, hli⟩ := hI.shape
  obtain ⟨av, bv, ov, cv, rfl, _, hlv, _⟩ := hV
  obtain ⟨a, b, off, cap, rfl, ha, hl, hel⟩ := hF
  clear hI
  generalize hfs : x.funs = l at *
  have HW : Hid (∀ (i : Nat) (y : Fu), l[i]? = some y → stsW m y.body + exW m y.result + 2 ≤ 1048576) := hide (fun i y hy => by
    have : y.name.size + 2 + strsW y.params + stsW m y.body + exW m y.result ≤ (l.map fun s : Fu => s.name.size + 2 + strsW s.params + stsW m s.body + exW m s.result).sum := mem_le_sum (f := fun s : Fu => s.name.size + 2 + strsW s.params + stsW m s.body + exW m s.result) (List.mem_of_getElem? hy)
    unfold fusW at hwm; omega)
  have HM : Hid (Lat.maxN (Lat.fuD m) l ≤ 1048576) := hide (maxN_le (fun y hy => by
    obtain ⟨i, hi, rfl⟩ := List.mem_iff_getElem.1 hy
    have h1 := HW.out i _ (List.getElem?_eq_getElem hi)
    have h2 := fuD_le m l[i]
    omega))
  have HEL := hide hel
  have HA := hide ha
  clear hel ha hw hwm
  obtain ⟨len, hlen⟩ : ∃ len, len = l.length := ⟨_, rfl⟩
  have HL := hide hlen
  rw [← hlen] at hl HA ⊢
  clear hlen
  generalize x.imports.length = li at *
  generalize x.vars.length = lv at *
  have q3 := boxCells4 w (.string x.name) (.slice ai li ci) (.slice av lv cv) (.slice a len cap) 26
  have HB0 := hide (boxBelow w (.cells #[.string x.name, .slice ai li ci, .slice av lv cv, .slice a len cap] 26))
  go_enter Tryz.func24, Tryz.ntmps24
  go_wp2_with fail
  generalize (w.alloc (.cells #[.string x.name, .slice ai li ci, .slice av lv cv, .slice a len cap] 26)) = W0 at *
  go_loopw [3, 9] (fun o i wr => ∃ j : Nat, j ≤ len ∧ i = .int .i64 j ∧ (∃ c : Nat, c = max 1 (Lat.maxN (Lat.fuD m) (l.take j)) ∧ o = .int .i64 c) ∧ Below W0.heap.size W0 wr) (fun _ i _ => len - (intOf i).toNat)
  case atStart => exact ⟨0, Nat.zero_le _, rfl, ⟨1, rfl, rfl⟩, Below.refl _ _⟩
  case round =>
    obtain ⟨j, hj, rfl, ⟨acc, hac, rfl⟩, hnx⟩ := hrel
    have hacc : acc ≤ 1048576 := by
      have := Nat.le_trans (maxN_take_le (f := Lat.fuD m) l j) HM.out
      omega
    have HAC := hide hac
    clear hac
    by_cases hjl : j < len
    · obtain ⟨y, hy⟩ : ∃ y, l[j]? = some y := ⟨_, List.getElem?_eq_getElem (by rw [← HL.out]; exact hjl)⟩
      obtain ⟨k1, vp, vb, e0, e1, e2, e3, g0, g1, g2, g3, g4, g5, g6, hp, hsb, hx⟩ := HEL.out j y hy
      have HST := hide (maxN_take (f := Lat.fuD m) hy)
      have hyw : stsW m y.body + exW m y.result ≤ 1048576 := by have := HW.out j y hy; omega
      obtain rfl := HA.out (by omega)
      have hbb := up HB0.out hnx
      have u0 := cellUp g0 hbb
      have u1 := cellUp g1 hbb
      have u2' := cellUp g2 hbb
      have u3' := cellUp g3 hbb
      have u4 := cellUp g4 hbb
      have u5 := cellUp g5 hbb
      have u6 := cellUp g6 hbb
      have HAT : Hid (FuAt wr m vp vb e0 e1 e2 e3 y) := hide ⟨k1, hp.below hbb, hsb.below hbb, hx.below hbb⟩
      obtain ⟨ae, ce, rfl, rfl, rfl, rfl⟩ := hx.shape
      obtain ⟨a1, cap1, rfl, hl1⟩ := hsb.shape
      obtain ⟨a2, cap2, rfl, hl2⟩ := hp.shape
      have HNX := hide hnx
      clear g0 g1 g2 g3 g4 g5 g6 hx hsb hp hy hnx hbb
      go_wp2_with fail
      refine (funDepth_any m _ _ _ _ _ _ _ y (HAT.out.below (boxBelow _ _)) hyw).mono ?_
      rintro e w5 ⟨rfl, hb5⟩
      have HN5 := hide (up HNX.out (up1 hb5))
      clear hb5 HNX
      generalize Lat.fuD m y = dy at *
      go_wp2_with fail
      go_roundw
      case rel => exact ⟨j + 1, by omega, by go_num, ⟨max acc dy, by rw [HST.out, HAC.out]; omega, val_imax rfl⟩, HN5.out⟩
      case measure => simp [intOf]; omega
    · have e : l.take j = l := List.take_of_length_le (by have := HL.out; omega)
      rw [e] at HAC
      clear e
      go_wp2
      go_ret
      exact ⟨ret_int (by rw [HE.out, ← HAC.out]; go_num), up HB0.out hnx⟩

end Go.Proofs.YthcckfofpocbhabGreatDoor

/- Walks over the library: slices.Grow of nil, slices.Concat of lists of strings; over package tree: brackets. -/
namespace Go.Proofs.YthcckfofpocbhabGreatDoor
open Go.RowKit

set_option maxHeartbeats 2000000 in
set_option maxRecDepth 100000 in
theorem grow_any (w : World) (n : Nat) (hn : n ≤ 16777300) :
    Calls Tryz.prog 65 #[.slice none 0 0, .int .i64 n] w fun e w' => ∃ v, e = .returned v ∧ Own w' w.heap.size v [] ∧ Below w.heap.size w w' := by
  obtain ⟨iS, hiS, hz0, hz1, hz2⟩ := info_parts infoStr
  by_cases h0 : n = 0
  · subst h0
    go_enter Tryz.func65, Tryz.ntmps65
    go_wp2
    go_ret
    exact ⟨_, rfl, World.ownsRow_nil _ _ _ _, Below.refl _ _⟩
  · have hrz : ∀ ty, (Builtin.append_ #[22, 3] ty #[.slice none 0 0, .int .i64 n]).run Tryz.prog w =
        .ok (.slice (some ⟨w.heap.size, 0, none⟩) n (grownCap w n 0 9)) (w.drew.alloc (.cells (Builtin.zeroCells (Value.string ⟨#[]⟩).cells n ++ Builtin.zeroCells (Value.string ⟨#[]⟩).cells (grownCap w n 0 9 - n)) 9)) := fun ty => by
      have h := Lib.run_append_grow_zeros w 22 3 ty 9 iS (.string ⟨#[]⟩) .i64 .i64 Tryz.underlying22 Tryz.underlying3 hiS hz0 none 0 0 [] (run_firstCells_none w.drew _ 0 0 0) n (by omega) (by omega) (by omega) (by omega) (by rw [hz2]; omega)
        (by rw [Nat.zero_add]; exact growslice_fits (by omega) (by rw [hz2]; omega))
      simpa using h
    have hGn : n ≤ grownCap w n 0 9 := grownCap_ge w _ _ _
    have hGm : grownCap w n 0 9 ≤ maxLen := grownCap_le_maxLen w n 0 9 (by unfold maxLen; omega)
    obtain ⟨G, hG⟩ : ∃ G, G = grownCap w n 0 9 := ⟨_, rfl⟩
    rw [← hG] at hrz hGn hGm
    have hG63 : G ≤ 9223372036854775807 := by unfold maxLen at hGm; omega
    have hown : (w.drew.alloc (.cells (Builtin.zeroCells (Value.string ⟨#[]⟩).cells n ++ Builtin.zeroCells (Value.string ⟨#[]⟩).cells (G - n)) 9)).ownsRow w.heap.size 9 1 (.slice (some ⟨w.heap.size, 0, none⟩) 0 G) 0 [] :=
      ⟨by simp, .inr ⟨w.heap.size, G, _, rfl, Nat.le_refl _, heap_alloc_new w.drew _, Nat.zero_le _, hGm, by
        have e : ∀ k, (Builtin.zeroCells (Value.string ⟨#[]⟩).cells k).size = k := fun k => by simp [Builtin.zeroCells, Value.cells]
        rw [Array.size_append, e, e]; omega, by simp⟩⟩
    have HO := hide hown
    have HBW : Hid (Below w.heap.size w (w.drew.alloc (.cells (Builtin.zeroCells (Value.string ⟨#[]⟩).cells n ++ Builtin.zeroCells (Value.string ⟨#[]⟩).cells (G - n)) 9))) := hide (((Below.refl _ _).drew).alloc (by simp) _)
    clear hown hG
    generalize (w.drew.alloc (.cells (Builtin.zeroCells (Value.string ⟨#[]⟩).cells n ++ Builtin.zeroCells (Value.string ⟨#[]⟩).cells (G - n)) 9)) = W1 at *
    go_enter Tryz.func65, Tryz.ntmps65
    go_wp2_with (at_builtin; refine Lib.wpList_append_run _ rfl _ _ _ _ rfl _ _ rfl rfl _ _ (hrz _) ?_)
    go_ret
    exact ⟨_, rfl, HO.out, HBW.out⟩

/-- append of a slice that came in, whatever its address: nil where nothing is appended. -/
theorem wpList_append_strs {w : World} {ops : Array Oper} {rest : List Oper} {o : Oper} {a : Act} {Q : Exit → Act → World → Prop} (hgd : o.guard = none) (s x : Operand)
    (ho : o.op = .call { callee := .builtin .append, args := #[s, x], argTypes := #[22, 22] })
    (base : Nat) (v : Value) (l k : List ByteArray) (hs : a.eval s = v) (hown : Own w base v l)
    (vx : Value) (hx : a.eval x = vx) (hk : Strs w vx k) (h63 : l.length + k.length ≤ 16777300) (hbase : base ≤ w.heap.size)
    (h : ∀ v' w', Own w' base v' (l ++ k) → w.grownBy w' v.ownBlock → wpList Tryz.prog ops Q rest (a.put o.dst v') w') : wpList Tryz.prog ops Q (o :: rest) a w := by
  obtain ⟨iS, hiS, hz0, hz1, hz2⟩ := info_parts infoStr
  obtain ⟨ao, b, off, c, rfl, ha, _, _, hc⟩ := hk
  have hown' : w.ownsRow base 9 1 v l.length (l.map Value.string) := hown
  cases ao with
  | none =>
    have hk0 : k = [] := by
      cases k with
      | nil => rfl
      | cons y k => exact absurd (ha (by simp)) (by simp)
    subst hk0
    refine wpList_plain hgd fun K hK => ?_
    have hrun : (Builtin.append_ #[22, 22] o.type #[v, .slice none 0 c]).run Tryz.prog w = .ok v w := by
      rcases hown'.2 with ⟨rfl, h0⟩ | ⟨g, cap, cur, rfl, _, _, hnc, _⟩
      · simp [Builtin.append_, run_underlying Tryz.underlying22, sizeOf, typeInfo, hiS, Builtin.lenOf, Builtin.firstCells]
      · simp [Builtin.append_, run_underlying Tryz.underlying22, sizeOf, typeInfo, hiS, Builtin.lenOf, Builtin.firstCells, hnc, storeCells]
    have hx' : a.eval x = .slice none 0 c := hx
    unfold Oper.wp
    simp [execOp, ho, resolve, invoke, builtin, hs, hx', hrun, Result.andThen]
    exact hK _ _ (h v w (by rw [List.append_nil]; exact hown) (World.grownBy.refl _ _))
  | some ad =>
    refine wpList_append_own _ hgd s x 22 ho base 9 iS (.string ⟨#[]⟩) 1 16 Tryz.underlying22 hiS hz0 hz1 hz2 rfl (by decide) v l.length (l.map Value.string) hs hown' ad k.length c (k.map Value.string) hx (by simp) (fun j u hu => ?_) (fun u hu => ?_) (by unfold maxLen; omega) (by omega) hbase ?_
    · obtain ⟨hj, rfl⟩ := List.getElem?_eq_some_iff.1 hu
      have hj' : j < k.length := by simpa using hj
      have e := ha (by omega)
      simp only [Option.some.injEq] at e
      subst e
      rw [Addr.add_lit, hc j hj']
      simp [hj']
    · obtain ⟨y, _, rfl⟩ := List.mem_map.1 hu
      rfl
    · intro v' w' h1 h2 _
      refine h v' w' ?_ h2
      unfold Own
      rw [List.length_append, List.map_append]
      exact h1

/-- The slice v is a list of lists of strings. -/
def StrsS (w : World) (v : Value) (ls : List (List ByteArray)) : Prop :=
  ∃ b off cap, v = .slice (some ⟨b, off, none⟩) ls.length cap ∧ ls.length ≤ 16 ∧ ∀ i l, ls[i]? = some l → ∃ vi, w.cell? ⟨b, off + i, none⟩ = some vi ∧ Strs w vi l

theorem flat_take {ls : List (List ByteArray)} {j : Nat} {l : List ByteArray} (h : ls[j]? = some l) : (ls.take (j + 1)).flatten = (ls.take j).flatten ++ l := by
  obtain ⟨hj, rfl⟩ := List.getElem?_eq_some_iff.1 h
  rw [List.take_succ_eq_append_getElem hj, List.flatten_append]; simp
theorem flat_le (ls : List (List ByteArray)) (j : Nat) : (ls.take j).flatten.length ≤ ls.flatten.length := by
  conv => rhs; rw [← List.take_append_drop j ls]
  rw [List.flatten_append, List.length_append]; omega

set_option maxHeartbeats 2000000 in
set_option maxRecDepth 100000 in
theorem concat_any (w : World) (v : Value) (ls : List (List ByteArray)) (h : StrsS w v ls) (hn : ls.flatten.length ≤ 16777300) :
    Calls Tryz.prog 47 #[v] w fun e w' => ∃ v', e = .returned v' ∧ Own w' w.heap.size v' ls.flatten ∧ Below w.heap.size w w' := by
  obtain ⟨b, off, cap, rfl, hl16, hel⟩ := h
  have HEL := hide hel
  clear hel
  obtain ⟨len, hlen⟩ : ∃ len, len = ls.length := ⟨_, rfl⟩
  have HL := hide hlen
  rw [← hlen] at hl16 ⊢
  clear hlen
  go_enter Tryz.func47, Tryz.ntmps47
  go_wp2
  go_loop [3, 11] (fun o i => ∃ k : Nat, k ≤ len ∧ i = .int .i64 k ∧ o = .int .i64 (ls.take k).flatten.length) (fun _ i => len - (intOf i).toNat)
  case atStart => exact ⟨0, Nat.zero_le _, rfl, rfl⟩
  case round =>
    obtain ⟨k, hk, rfl, rfl⟩ := hrel
    have hacc := Nat.le_trans (flat_le ls k) hn
    by_cases hlt : k < len
    · obtain ⟨l, hy⟩ : ∃ l, ls[k]? = some l := ⟨_, List.getElem?_eq_getElem (by rw [← HL.out]; exact hlt)⟩
      obtain ⟨vi, g0, hst⟩ := HEL.out k l hy
      obtain ⟨a, cp, rfl, hll⟩ := hst.shape
      have HST : Hid ((ls.take (k + 1)).flatten.length = (ls.take k).flatten.length + l.length) := hide (by rw [flat_take hy, List.length_append])
      have hacc2 := Nat.le_trans (flat_le ls (k + 1)) hn
      rw [HST.out] at hacc2
      generalize (ls.take k).flatten.length = n0 at *
      generalize l.length = n1 at *
      clear hy hst
      go_wp2
      go_round
      case rel => exact ⟨k + 1, by omega, by go_num, by rw [HST.out]; go_num⟩
      case measure => simp [intOf]; omega
    · have e : ls.take k = ls := List.take_of_length_le (by have := HL.out; omega)
      rw [e] at hacc ⊢
      clear e
      obtain ⟨N, hN⟩ : ∃ N, N = ls.flatten.length := ⟨_, rfl⟩
      have HN := hide hN
      rw [← hN] at hacc ⊢
      clear hN
      go_wp2_with fail
      refine (grow_any w N hacc).mono ?_
      rintro e w1 ⟨v1, rfl, ho1, hb1⟩
      have HO := hide ho1
      have HB := hide hb1
      clear ho1 hb1 hk hlt
      go_wp2
      go_loopw [6, 27] (fun o i wr => ∃ k : Nat, k ≤ len ∧ i = .int .i64 k ∧ Own wr w.heap.size o (ls.take k).flatten ∧ Below w.heap.size w wr) (fun _ i _ => len - (intOf i).toNat)
      case atStart => exact ⟨0, Nat.zero_le _, rfl, HO.out, HB.out⟩
      case round =>
        obtain ⟨k, hk, rfl, hown, hnx⟩ := hrel
        by_cases hlt : k < len
        · obtain ⟨l, hy⟩ : ∃ l, ls[k]? = some l := ⟨_, List.getElem?_eq_getElem (by rw [← HL.out]; exact hlt)⟩
          obtain ⟨vi, g0, hst⟩ := HEL.out k l hy
          have u0 := cellUp g0 hnx
          have HSS := hide (hst.below hnx)
          obtain ⟨a, cp, rfl, hll⟩ := hst.shape
          have HST := hide (flat_take hy)
          have hacc2 := Nat.le_trans (flat_le ls (k + 1)) hn
          rw [HST.out, List.length_append] at hacc2
          have hbs := hnx.size
          have HOW := hide hown
          have HNX := hide hnx
          clear hy hst g0 hown hnx
          go_wp2_with (first
            | (at_builtin; refine wpList_append_strs rfl _ _ rfl w.heap.size _ _ l rfl HOW.out _ rfl HSS.out (by omega) hbs ?_; intro v' w2 hown2 hgrow2)
            | fail)
          have R2 := hide (HNX.out.grown hgrow2 hbs (fun j hj => (HOW.out.lt j hj).1))
          have HO2 := hide hown2
          clear hgrow2 hown2
          go_roundw
          case rel => exact ⟨k + 1, by omega, by go_num, by rw [HST.out]; exact HO2.out, R2.out⟩
          case measure => simp [intOf]; omega
        · have e : ls.take k = ls := List.take_of_length_le (by have := HL.out; omega)
          rw [e] at hown
          have HO2 := hide hown
          clear hown
          go_wp2
          go_ret
          exact ⟨_, rfl, HO2.out, hnx⟩

namespace Lat
/-- Words with one blank between two. -/
def jn (l : List ByteArray) : ByteArray := ⟨(Lib.join (l.map (·.data.toList)) [32]).toArray⟩
def brk (l : List ByteArray) : ByteArray := (⟨#[40]⟩ : ByteArray) ++ jn l ++ (⟨#[41]⟩ : ByteArray)
end Lat

theorem jn_size (l : List ByteArray) : (Lat.jn l).size = (Lib.join (l.map (·.data.toList)) [32]).length := by
  unfold Lat.jn; rw [← size_list]
theorem brk_size (l : List ByteArray) : (Lat.brk l).size = (Lat.jn l).size + 2 := by
  unfold Lat.brk
  rw [ByteArray.size_append, ByteArray.size_append]
  show 1 + _ + 1 = _
  omega
theorem jn_len (l : List ByteArray) : l.length ≤ (Lat.jn l).size + 1 := by
  rw [jn_size]
  cases l with
  | nil => simp
  | cons y l =>
    rw [List.map_cons, Lib.join_length]
    simp only [List.length_cons, List.length_map, List.length_nil]
    omega

set_option maxHeartbeats 1000000 in
theorem brackets_any (w : World) (v : Value) (ls : List (List ByteArray)) (h : StrsS w v ls) (hn : (Lat.brk ls.flatten).size ≤ 16777216) :
    Calls Tryz.prog 25 #[v] w fun e w' => e = .returned (.string (Lat.brk ls.flatten)) ∧ Below w.heap.size w w' := by
  have HS := hide h
  obtain ⟨b, off, cap, rfl, _, _⟩ := h
  generalize ls.length = len at *
  have hj := jn_len ls.flatten
  have hjs := jn_size ls.flatten
  rw [brk_size] at hn
  have HE : Hid (Lat.brk ls.flatten = (⟨#[40]⟩ : ByteArray) ++ Lat.jn ls.flatten ++ (⟨#[41]⟩ : ByteArray)) := rfl
  go_enter Tryz.func25, Tryz.ntmps25
  go_wp2_with fail
  refine (concat_any w _ ls HS.out (by omega)).mono ?_
  rintro e w1 ⟨v1, rfl, ho1, hb1⟩
  have HB := hide hb1
  clear hb1
  have hjoin : ∀ W, W = w1 → Calls Tryz.prog 46 #[v1, .string ⟨#[32]⟩] W fun e w' => e = .returned (.string (Lat.jn ls.flatten)) ∧ Below W.heap.size W w' := by
    rintro W rfl
    rcases ho1.shape with ⟨rfl, hnil⟩ | ⟨g, cap1, rfl, hc, hg⟩
    · rw [hnil]
      exact (Tryz.strings_Join_none none 0 ⟨#[32]⟩ W).mono fun e w' ⟨he, hw⟩ => ⟨he, hw ▸ Below.refl _ _⟩
    · refine (Tryz.strings_Join g 0 cap1 ls.flatten ⟨#[32]⟩ W (fun j y hy => ?_) hg (by omega) hc ?_).mono fun e w' ⟨he, hw⟩ => ⟨he, hw⟩
      · obtain ⟨hj', rfl⟩ := List.getElem?_eq_some_iff.1 hy
        have := World.ownsRow.cellAt ho1 j (by omega)
        rw [Nat.zero_add, this, List.getElem?_map, List.getElem?_eq_getElem hj']; rfl
      · have : (Lib.join (ls.flatten.map (·.data.toList)) (⟨#[32]⟩ : ByteArray).data.toList).length = (Lat.jn ls.flatten).size := hjs.symm
        omega
  have HJ := hide hjoin
  clear hjoin ho1 hj hjs
  generalize Lat.jn ls.flatten = t at *
  go_wp2_with fail
  refine (HJ.out _ rfl).mono ?_
  rintro e w2 ⟨rfl, hb2⟩
  have HB2 := hide (up HB.out hb2)
  clear hb2
  go_wp2_with fail
  go_ret
  exact ⟨ret_str HE.out.symm, HB2.out⟩

end Go.Proofs.YthcckfofpocbhabGreatDoor

/- Walks over package tree: exprTexts, exprText: of expressions that may be, the text that the document asks. -/
namespace Go.Proofs.YthcckfofpocbhabGreatDoor
open Go.RowKit

theorem strs_lit1 {w : World} {B : Nat} (hB : w.heap.size = B) (s : ByteArray) (hs : s.size ≤ maxLen) : Strs (w.alloc (.cells #[.string s] 9)) (.slice (some ⟨B, 0, none⟩) 1 1) [s] := by
  subst hB
  exact ⟨_, w.heap.size, 0, 1, rfl, fun _ => rfl, by simp, fun t ht => by simp at ht; subst ht; exact hs, fun j hj => by
    have hj' : j < 1 := hj
    obtain rfl : j = 0 := by omega
    simp [go_sem]⟩
theorem strs_lit2 {w : World} {B : Nat} (hB : w.heap.size = B) (s t : ByteArray) (hs : s.size ≤ maxLen) (ht : t.size ≤ maxLen) : Strs (w.alloc (.cells #[.string s, .string t] 9)) (.slice (some ⟨B, 0, none⟩) 2 2) [s, t] := by
  subst hB
  exact ⟨_, w.heap.size, 0, 2, rfl, fun _ => rfl, by simp, fun u hu => by simp at hu; rcases hu with rfl | rfl <;> assumption, fun j hj => by
    have hj' : j < 2 := hj
    obtain rfl | rfl : j = 0 ∨ j = 1 := by omega
    all_goals simp [go_sem]⟩
theorem strs_lit3 {w : World} {B : Nat} (hB : w.heap.size = B) (s t u : ByteArray) (hs : s.size ≤ maxLen) (ht : t.size ≤ maxLen) (hu : u.size ≤ maxLen) : Strs (w.alloc (.cells #[.string s, .string t, .string u] 9)) (.slice (some ⟨B, 0, none⟩) 3 3) [s, t, u] := by
  subst hB
  exact ⟨_, w.heap.size, 0, 3, rfl, fun _ => rfl, by simp, fun x hx => by simp at hx; rcases hx with rfl | rfl | rfl <;> assumption, fun j hj => by
    have hj' : j < 3 := hj
    obtain rfl | rfl | rfl : j = 0 ∨ j = 1 ∨ j = 2 := by omega
    all_goals simp [go_sem]⟩
theorem strs_lit4 {w : World} {B : Nat} (hB : w.heap.size = B) (s t u x : ByteArray) (hs : s.size ≤ maxLen) (ht : t.size ≤ maxLen) (hu : u.size ≤ maxLen) (hx : x.size ≤ maxLen) : Strs (w.alloc (.cells #[.string s, .string t, .string u, .string x] 9)) (.slice (some ⟨B, 0, none⟩) 4 4) [s, t, u, x] := by
  subst hB
  exact ⟨_, w.heap.size, 0, 4, rfl, fun _ => rfl, by simp, fun y hy => by simp at hy; rcases hy with rfl | rfl | rfl | rfl <;> assumption, fun j hj => by
    have hj' : j < 4 := hj
    obtain rfl | rfl | rfl | rfl : j = 0 ∨ j = 1 ∨ j = 2 ∨ j = 3 := by omega
    all_goals simp [go_sem]⟩
theorem strsS_1 {w : World} {B : Nat} (hB : w.heap.size = B) {v1 : Value} {l1 : List ByteArray} (h1 : Strs w v1 l1) : StrsS (w.alloc (.cells #[v1] 22)) (.slice (some ⟨B, 0, none⟩) 1 1) [l1] := by
  subst hB
  exact ⟨w.heap.size, 0, 1, rfl, by simp, fun i l hl => by
    obtain ⟨hi, rfl⟩ := List.getElem?_eq_some_iff.1 hl
    have hi' : i < 1 := hi
    obtain rfl : i = 0 := by omega
    exact ⟨v1, by simp [go_sem], h1.below (boxBelow _ _)⟩⟩
theorem strsS_2 {w : World} {B : Nat} (hB : w.heap.size = B) {v1 v2 : Value} {l1 l2 : List ByteArray} (h1 : Strs w v1 l1) (h2 : Strs w v2 l2) : StrsS (w.alloc (.cells #[v1, v2] 22)) (.slice (some ⟨B, 0, none⟩) 2 2) [l1, l2] := by
  subst hB
  exact ⟨w.heap.size, 0, 2, rfl, by simp, fun i l hl => by
    obtain ⟨hi, rfl⟩ := List.getElem?_eq_some_iff.1 hl
    have hi' : i < 2 := hi
    obtain rfl | rfl : i = 0 ∨ i = 1 := by omega
    · exact ⟨v1, by simp [go_sem], h1.below (boxBelow _ _)⟩
    · exact ⟨v2, by simp [go_sem], h2.below (boxBelow _ _)⟩⟩
theorem strsS_3 {w : World} {B : Nat} (hB : w.heap.size = B) {v1 v2 v3 : Value} {l1 l2 l3 : List ByteArray} (h1 : Strs w v1 l1) (h2 : Strs w v2 l2) (h3 : Strs w v3 l3) : StrsS (w.alloc (.cells #[v1, v2, v3] 22)) (.slice (some ⟨B, 0, none⟩) 3 3) [l1, l2, l3] := by
  subst hB
  exact ⟨w.heap.size, 0, 3, rfl, by simp, fun i l hl => by
    obtain ⟨hi, rfl⟩ := List.getElem?_eq_some_iff.1 hl
    have hi' : i < 3 := hi
    obtain rfl | rfl | rfl : i = 0 ∨ i = 1 ∨ i = 2 := by omega
    · exact ⟨v1, by simp [go_sem], h1.below (boxBelow _ _)⟩
    · exact ⟨v2, by simp [go_sem], h2.below (boxBelow _ _)⟩
    · exact ⟨v3, by simp [go_sem], h3.below (boxBelow _ _)⟩⟩
theorem strsS_4 {w : World} {B : Nat} (hB : w.heap.size = B) {v1 v2 v3 v4 : Value} {l1 l2 l3 l4 : List ByteArray} (h1 : Strs w v1 l1) (h2 : Strs w v2 l2) (h3 : Strs w v3 l3) (h4 : Strs w v4 l4) : StrsS (w.alloc (.cells #[v1, v2, v3, v4] 22)) (.slice (some ⟨B, 0, none⟩) 4 4) [l1, l2, l3, l4] := by
  subst hB
  exact ⟨w.heap.size, 0, 4, rfl, by simp, fun i l hl => by
    obtain ⟨hi, rfl⟩ := List.getElem?_eq_some_iff.1 hl
    have hi' : i < 4 := hi
    obtain rfl | rfl | rfl | rfl : i = 0 ∨ i = 1 ∨ i = 2 ∨ i = 3 := by omega
    · exact ⟨v1, by simp [go_sem], h1.below (boxBelow _ _)⟩
    · exact ⟨v2, by simp [go_sem], h2.below (boxBelow _ _)⟩
    · exact ⟨v3, by simp [go_sem], h3.below (boxBelow _ _)⟩
    · exact ⟨v4, by simp [go_sem], h4.below (boxBelow _ _)⟩⟩

theorem Strs.allocUp {w : World} {v : Value} {l : List ByteArray} {o : Obj} (h : Strs w v l) : Strs (w.alloc o) v l := h.below (boxBelow _ _)
theorem Strs.drewUp {w : World} {v : Value} {l : List ByteArray} (h : Strs w v l) : Strs w.drew v l := h.below (Below.refl _ _).drew
theorem hidB_alloc {W0 x : World} {o : Obj} (h : Hid (Below W0.heap.size W0 x)) : Hid (Below W0.heap.size W0 (x.alloc o)) := hide (h.out.alloc h.out.size o)
theorem hidB_drew {W0 x : World} (h : Hid (Below W0.heap.size W0 x)) : Hid (Below W0.heap.size W0 x.drew) := hide h.out.drew

theorem bytes_ext {a b : ByteArray} (h : a.data.toList = b.data.toList) : a = b := by
  cases a with | mk a => cases b with | mk b => congr 1; exact Array.toList_inj.1 h
theorem app_list (a b : ByteArray) : (a ++ b).data.toList = a.data.toList ++ b.data.toList := by
  rw [ByteArray.data_append, Array.toList_append]
theorem brk_list (l : List ByteArray) : (Lat.brk l).data.toList = 40 :: (Lib.join (l.map (·.data.toList)) [32] ++ [41]) := by
  unfold Lat.brk Lat.jn
  rw [app_list, app_list]; rfl
theorem fold_list {t : Ex → ByteArray} (l : List Ex) (acc : ByteArray) : (l.foldl (Lat.exStep t) acc).data.toList = acc.data.toList ++ Lib.joinTail [32] ((l.map t).map (·.data.toList)) := by
  induction l generalizing acc with
  | nil => simp [Lib.joinTail]
  | cons y l ih =>
    rw [List.foldl_cons, ih]
    unfold Lat.exStep
    rw [app_list, app_list]
    simp [Lib.joinTail]
theorem op_text (x : Ex) (t : Ex → ByteArray) (h : x.kind ≠ 4) : Lat.brk (x.name :: x.args.map t) = x.args.foldl (Lat.exStep t) (Lat.exHead x) ++ (⟨#[41]⟩ : ByteArray) := by
  apply bytes_ext
  rw [brk_list, app_list, fold_list, List.map_cons, Lib.join_cons]
  unfold Lat.exHead
  rw [if_neg h, app_list]
  simp
theorem call_text (x : Ex) (t : Ex → ByteArray) (h : x.kind = 4) : Lat.brk (⟨#[99, 97, 108, 108]⟩ :: x.name :: x.args.map t) = x.args.foldl (Lat.exStep t) (Lat.exHead x) ++ (⟨#[41]⟩ : ByteArray) := by
  apply bytes_ext
  rw [brk_list, app_list, fold_list, List.map_cons, Lib.join_cons]
  unfold Lat.exHead
  rw [if_pos h, app_list]
  simp [Lib.joinTail]

theorem map_take {α β : Type} {f : α → β} {l : List α} {j : Nat} {y : α} (h : l[j]? = some y) : (l.take (j + 1)).map f = (l.take j).map f ++ [f y] := by
  obtain ⟨hj, rfl⟩ := List.getElem?_eq_some_iff.1 h
  rw [List.take_succ_eq_append_getElem hj, List.map_append]; rfl

set_option maxHeartbeats 2000000 in
set_option maxRecDepth 100000 in
theorem exprTexts_of (m : Nat) (hi : ∀ (w : World) (c0 c1 c2 c3 : Value) (x : Ex), ExAt w m c0 c1 c2 c3 x → Lat.exprB m x = true → exW m x ≤ 1048576 → Tab w →
      Calls Tryz.prog 49 #[.agg #[c0, c1, c2, c3]] w fun e w' => e = .returned (.string (Lat.exT m x)) ∧ Below w.heap.size w w')
    (w : World) (a : Option Addr) (b off cap : Nat) (args : List Ex) (ha : 0 < args.length → a = some ⟨b, off, none⟩) (hl : args.length ≤ 4)
    (hel : ∀ i y, args[i]? = some y → ∃ e0 e1 e2 e3, w.cell? ⟨b, off + i * 4, none⟩ = some e0 ∧ w.cell? ⟨b, off + i * 4 + 1, none⟩ = some e1 ∧ w.cell? ⟨b, off + i * 4 + 2, none⟩ = some e2 ∧ w.cell? ⟨b, off + i * 4 + 3, none⟩ = some e3 ∧ ExAt w m e0 e1 e2 e3 y)
    (hok : args.all (Lat.exprB m) = true) (hw : (args.map (exW m)).sum ≤ 1048576) (ht : Tab w) :
    Calls Tryz.prog 68 #[.slice a args.length cap] w fun e w' => ∃ v', e = .returned v' ∧ Own w' w.heap.size v' (args.map (Lat.exT m)) ∧ Below w.heap.size w w' := by
  have HI := hide hi
  have HEL := hide hel
  have HA := hide ha
  have HT := hide ht
  have HOK : Hid (∀ (i : Nat) (y : Ex), args[i]? = some y → Lat.exprB m y = true ∧ exW m y ≤ 1048576) := hide (fun i y hy => ⟨List.all_eq_true.1 hok y (List.mem_of_getElem? hy), by
      have : exW m y ≤ (args.map (exW m)).sum := mem_le_sum (List.mem_of_getElem? hy)
      omega⟩)
  clear hi hel ha ht hok hw
  obtain ⟨len, hlen⟩ : ∃ len, len = args.length := ⟨_, rfl⟩
  have HL := hide hlen
  rw [← hlen] at hl HA ⊢
  clear hlen
  go_enter Tryz.func68, Tryz.ntmps68
  go_wp2
  go_loopw [3, 8] (fun o i wr => ∃ j : Nat, j ≤ len ∧ i = .int .i64 j ∧ Own wr w.heap.size o ((args.take j).map (Lat.exT m)) ∧ Below w.heap.size w wr) (fun _ i _ => len - (intOf i).toNat)
  case atStart => exact ⟨0, Nat.zero_le _, rfl, World.ownsRow_nil _ _ _ _, Below.refl _ _⟩
  case round =>
    obtain ⟨j, hj, rfl, hown, hnx⟩ := hrel
    by_cases hjl : j < len
    · obtain ⟨y, hy⟩ : ∃ y, args[j]? = some y := ⟨_, List.getElem?_eq_getElem (by rw [← HL.out]; exact hjl)⟩
      obtain ⟨e0, e1, e2, e3, g0, g1, g2, g3, hye⟩ := HEL.out j y hy
      obtain rfl := HA.out (by omega)
      have u0 := cellUp g0 hnx
      have u1 := cellUp g1 hnx
      have u2' := cellUp g2 hnx
      have u3' := cellUp g3 hnx
      have HYE := hide (hye.below hnx)
      have hys := exT_size hye
      obtain ⟨a', cap', rfl, rfl, rfl, rfl⟩ := hye.shape
      obtain ⟨hyb, hyw⟩ := HOK.out j y hy
      have hyt : (Lat.exT m y).size ≤ maxLen := by unfold maxLen; omega
      have HST := hide (map_take (f := Lat.exT m) hy)
      have HNX := hide hnx
      have HOW := hide hown
      clear g0 g1 g2 g3 hye hy hnx hown hys
      go_wp2_with fail
      refine (HI.out _ _ _ _ _ y (HYE.out.below (boxBelow _ _)) hyb hyw ((HT.out.below HNX.out).below (boxBelow _ _))).mono ?_
      rintro e w5 ⟨rfl, hb5⟩
      have hb5' := up1 hb5
      have HN5 := hide (up HNX.out hb5')
      have HOW5 : Hid (Own w5 w.heap.size _ _) := hide (own_below HOW.out hb5')
      clear hb5 hb5' HNX HOW
      generalize Lat.exT m y = ty at *
      have hbs := HN5.out.size
      have hlt : ((args.take j).map (Lat.exT m)).length ≤ 4 := by rw [List.length_map, List.length_take]; omega
      go_wp2_with (first
        | (at_builtin; refine wpList_append_strs rfl _ _ rfl w.heap.size _ _ [ty] rfl (own_below HOW5.out (boxBelow _ _)) _ rfl (strs_lit1 rfl _ hyt) (by simp only [List.length_singleton]; omega) (by simp; omega) ?_; intro v' w2 hown2 hgrow2)
        | fail)
      have R2 := hide ((HN5.out.alloc hbs (.cells #[.string ty] 9)).grown hgrow2 (by simp; omega) (fun j hj => (HOW5.out.lt j hj).1))
      have HO2 := hide hown2
      clear hgrow2 hown2
      go_roundw
      case rel => exact ⟨j + 1, by omega, by go_num, by rw [HST.out]; exact HO2.out, R2.out⟩
      case measure => simp [intOf]; omega
    · have e : args.take j = args := List.take_of_length_le (by have := HL.out; omega)
      rw [e] at hown
      have HO2 := hide hown
      clear hown
      go_wp2
      go_ret
      exact ⟨_, rfl, HO2.out, hnx⟩

theorem texts_small {w : World} {m : Nat} {b off : Nat} {args : List Ex} (hel : ∀ i y, args[i]? = some y → ∃ e0 e1 e2 e3, w.cell? ⟨b, off + i * 4, none⟩ = some e0 ∧ w.cell? ⟨b, off + i * 4 + 1, none⟩ = some e1 ∧ w.cell? ⟨b, off + i * 4 + 2, none⟩ = some e2 ∧ w.cell? ⟨b, off + i * 4 + 3, none⟩ = some e3 ∧ ExAt w m e0 e1 e2 e3 y)
    (hw : (args.map (exW m)).sum ≤ 1048576) : ∀ s ∈ args.map (Lat.exT m), s.size ≤ maxLen := by
  intro s hs
  obtain ⟨y, hy, rfl⟩ := List.mem_map.1 hs
  obtain ⟨i, hi, rfl⟩ := List.mem_iff_getElem.1 hy
  obtain ⟨e0, e1, e2, e3, _, _, _, _, hye⟩ := hel i _ (List.getElem?_eq_getElem hi)
  have h1 := exT_size hye
  have h2 : exW m args[i] ≤ (args.map (exW m)).sum := mem_le_sum (List.getElem_mem hi)
  unfold maxLen; omega

set_option maxHeartbeats 4000000 in
set_option maxRecDepth 100000 in
theorem texprText_any (m : Nat) : ∀ (w : World) (c0 c1 c2 c3 : Value) (x : Ex), ExAt w m c0 c1 c2 c3 x → Lat.exprB m x = true → exW m x ≤ 1048576 → Tab w →
    Calls Tryz.prog 49 #[.agg #[c0, c1, c2, c3]] w fun e w' => e = .returned (.string (Lat.exT m x)) ∧ Below w.heap.size w w' := by
  induction m with
  | zero => intro w c0 c1 c2 c3 x h; exact False.elim h
  | succ m ih =>
    intro w c0 c1 c2 c3 x h hok hw ht
    have HI := hide (exprTexts_of m ih)
    clear ih
    have hsize := exT_size h
    obtain ⟨rfl, rfl, rfl, hsz, hk1, hk2, a, b, off, cap, rfl, ha, hl, hel⟩ := h
    rw [exprB_parts, Bool.and_eq_true] at hok
    obtain ⟨hparts, hall⟩ := hok
    obtain ⟨k, n, s, args⟩ := x
    simp only at hsz hk1 hk2 ha hl hel hall ⊢
    have hwa : (args.map (exW m)).sum ≤ 1048576 := by simp only [exW] at hw; omega
    have HB0 := hide (boxBelow w (.cells #[.int .i64 k, .int .i64 n, .string s, .slice a args.length cap] 52))
    have HT := hide (ht.below HB0.out)
    have hts := texts_small hel hwa
    by_cases h1 : k = 1
    · subst h1
      go_enter Tryz.func49, Tryz.ntmps49
      go_wp2_with fail
      refine (itoa_any _ n hk2 HT.out).mono ?_
      rintro e w1 ⟨rfl, hb1⟩
      have HB := hide (up1 hb1)
      clear hb1
      go_wp2_with fail
      go_ret
      exact ⟨ret_str (by simp [Lat.exT]), HB.out⟩
    by_cases h2 : k = 2
    · subst h2
      go_enter Tryz.func49, Tryz.ntmps49
      go_wp2_with fail
      go_ret
      exact ⟨ret_str (by simp [Lat.exT]), boxBelow _ _⟩
    have HEX : Hid (Lat.exT (m + 1) ⟨k, n, s, args⟩ = args.foldl (Lat.exStep (Lat.exT m)) (Lat.exHead ⟨k, n, s, args⟩) ++ (⟨#[41]⟩ : ByteArray)) := hide (by simp only [Lat.exT]; rw [if_neg h1, if_neg h2])
    by_cases h3 : k = 3
    · subst h3
      have hl4 : args.length ≤ 4 := by
        simp [Lat.partsB] at hparts; omega
      have HTX : Hid (Lat.exT (m + 1) ⟨3, n, s, args⟩ = Lat.brk (s :: args.map (Lat.exT m))) := hide (by
        rw [HEX.out]; exact (op_text ⟨3, n, s, args⟩ (Lat.exT m) (by simp)).symm)
      have hbs : (Lat.brk [[s], args.map (Lat.exT m)].flatten).size ≤ 16777216 := by
        have e : [[s], args.map (Lat.exT m)].flatten = s :: args.map (Lat.exT m) := by simp
        rw [e, ← HTX.out]; omega
      have HXT : Hid (∀ W, Hid (Below (w.alloc (.cells #[.int .i64 3, .int .i64 n, .string s, .slice a args.length cap] 52)).heap.size (w.alloc (.cells #[.int .i64 3, .int .i64 n, .string s, .slice a args.length cap] 52)) W) →
          Calls Tryz.prog 68 #[.slice a args.length cap] W fun e w' => ∃ a' cap', e = .returned (.slice a' args.length cap') ∧ Strs w' (.slice a' args.length cap') (args.map (Lat.exT m)) ∧ Below W.heap.size W w') := fun W hW => by
        have hbW := up HB0.out hW.out
        refine (HI.out W a b off cap args ha hl4 (fun i y hy => ?_) hall hwa (ht.below hbW)).mono ?_
        · obtain ⟨e0, e1, e2, e3, g0, g1, g2, g3, hye⟩ := hel i y hy
          exact ⟨e0, e1, e2, e3, cellUp g0 hbW, cellUp g1 hbW, cellUp g2 hbW, cellUp g3 hbW, hye.below hbW⟩
        · rintro e w' ⟨v', rfl, ho, hb'⟩
          have hs' := ho.strs hts (by rw [List.length_map]; omega)
          obtain ⟨a', cap', rfl, _⟩ := hs'.shape
          rw [List.length_map] at hs' ⊢
          exact ⟨a', cap', rfl, hs', hb'⟩
      have q2 : (w.alloc (.cells #[.int .i64 3, .int .i64 n, .string s, .slice a args.length cap] 52)).cell? ⟨w.heap.size, 2, none⟩ = some (.string s) := by simp [go_sem]
      have q3 := boxCells4 w (.int .i64 3) (.int .i64 n) (.string s) (.slice a args.length cap) 52
      have HBS := hide hbs
      clear hel ha hall hts hw hwa hparts h1 h2 hbs hsize ht HI
      generalize args.length = len at *
      go_enter Tryz.func49, Tryz.ntmps49
      go_wp2_with fail
      generalize (w.alloc (.cells #[.int .i64 3, .int .i64 n, .string s, .slice a len cap] 52)) = W0 at *
      have HF : Hid (∀ wx, Hid (Below W0.heap.size W0 wx) → Hid (Below W0.heap.size W0 wx) ∧ wx.cell? ⟨w.heap.size, 2, none⟩ = some (.string s) ∧ wx.cell? ⟨w.heap.size, 3, none⟩ = some (.slice a len cap)) :=
        fun wx h => ⟨h, cellUp q2 h.out, cellUp q3 h.out⟩
      have H00 : Hid (Below W0.heap.size W0 W0) := hide (Below.refl _ _)
      clear q2 q3
      go_region_held3 (fun wx => Hid (Below W0.heap.size W0 wx) ∧ wx.cell? ⟨w.heap.size, 2, none⟩ = some (.string s) ∧ wx.cell? ⟨w.heap.size, 3, none⟩ = some (.slice a len cap))
        ((refine HF.out _ ?_; repeat (first | exact HW31 | exact HW30 | exact H00 | apply hidB_drew | apply hidB_alloc)))
        (first
          | (go_at_call 68; refine (HXT.out _ (hidB_drew (hidB_alloc (o := .cells #[.string s] 9) H00))).mono ?_; rintro e w30 ⟨a', cap', rfl, hs30, hb30⟩; have HW30 := hide (up (hidB_drew (hidB_alloc (o := .cells #[.string s] 9) H00)).out hb30); have HS30 := hide hs30; have HV := hide ((strs_lit1 (w := W0) rfl s hsz).drewUp.below hb30); clear hb30 hs30)
          | (go_at_call 68; refine (HXT.out _ (hidB_drew H00)).mono ?_; rintro e w30 ⟨a', cap', rfl, hs30, hb30⟩; have HW30 := hide (up (hidB_drew H00).out hb30); have HS30 := hide hs30; clear hb30 hs30)
          | (go_at_call 25; refine (brackets_any _ _ [[s], args.map (Lat.exT m)] ?_ HBS.out).mono ?_; (refine strsS_2 (by simp) ?_ ?_ <;> repeat (first | exact HV.out | exact HS30.out | exact strs_lit1 (by simp) s hsz | apply Strs.drewUp | apply Strs.allocUp)); rintro e w31 ⟨rfl, hb31⟩; have HW31 : Hid (Below W0.heap.size W0 w31) := hide (up (w := W0) (unhide (by repeat (first | exact HW30 | apply hidB_drew | apply hidB_alloc))) hb31); clear hb31))
      all_goals
        go_wp2_with fail
        go_ret
        exact ⟨ret_str (by rw [HTX.out]), up HB0.out HW31.out⟩
    by_cases h4 : k = 4
    · subst h4
      have hl4 : args.length ≤ 4 := by
        simp [Lat.partsB] at hparts; omega
      have HTX : Hid (Lat.exT (m + 1) ⟨4, n, s, args⟩ = Lat.brk (⟨#[99, 97, 108, 108]⟩ :: s :: args.map (Lat.exT m))) := hide (by
        rw [HEX.out]; exact (call_text ⟨4, n, s, args⟩ (Lat.exT m) rfl).symm)
      have hbs : (Lat.brk [[⟨#[99, 97, 108, 108]⟩, s], args.map (Lat.exT m)].flatten).size ≤ 16777216 := by
        have e : [[⟨#[99, 97, 108, 108]⟩, s], args.map (Lat.exT m)].flatten = ⟨#[99, 97, 108, 108]⟩ :: s :: args.map (Lat.exT m) := by simp
        rw [e, ← HTX.out]; omega
      have HXT : Hid (∀ W, Hid (Below (w.alloc (.cells #[.int .i64 4, .int .i64 n, .string s, .slice a args.length cap] 52)).heap.size (w.alloc (.cells #[.int .i64 4, .int .i64 n, .string s, .slice a args.length cap] 52)) W) →
          Calls Tryz.prog 68 #[.slice a args.length cap] W fun e w' => ∃ a' cap', e = .returned (.slice a' args.length cap') ∧ Strs w' (.slice a' args.length cap') (args.map (Lat.exT m)) ∧ Below W.heap.size W w') := fun W hW => by
        have hbW := up HB0.out hW.out
        refine (HI.out W a b off cap args ha hl4 (fun i y hy => ?_) hall hwa (ht.below hbW)).mono ?_
        · obtain ⟨e0, e1, e2, e3, g0, g1, g2, g3, hye⟩ := hel i y hy
          exact ⟨e0, e1, e2, e3, cellUp g0 hbW, cellUp g1 hbW, cellUp g2 hbW, cellUp g3 hbW, hye.below hbW⟩
        · rintro e w' ⟨v', rfl, ho, hb'⟩
          have hs' := ho.strs hts (by rw [List.length_map]; omega)
          obtain ⟨a', cap', rfl, _⟩ := hs'.shape
          rw [List.length_map] at hs' ⊢
          exact ⟨a', cap', rfl, hs', hb'⟩
      have q2 : (w.alloc (.cells #[.int .i64 4, .int .i64 n, .string s, .slice a args.length cap] 52)).cell? ⟨w.heap.size, 2, none⟩ = some (.string s) := by simp [go_sem]
      have q3 := boxCells4 w (.int .i64 4) (.int .i64 n) (.string s) (.slice a args.length cap) 52
      have HBS := hide hbs
      clear hel ha hall hts hw hwa hparts h1 h2 h3 hbs hsize ht HI
      generalize args.length = len at *
      go_enter Tryz.func49, Tryz.ntmps49
      go_wp2_with fail
      generalize (w.alloc (.cells #[.int .i64 4, .int .i64 n, .string s, .slice a len cap] 52)) = W0 at *
      have HF : Hid (∀ wx, Hid (Below W0.heap.size W0 wx) → Hid (Below W0.heap.size W0 wx) ∧ wx.cell? ⟨w.heap.size, 2, none⟩ = some (.string s) ∧ wx.cell? ⟨w.heap.size, 3, none⟩ = some (.slice a len cap)) :=
        fun wx h => ⟨h, cellUp q2 h.out, cellUp q3 h.out⟩
      have H00 : Hid (Below W0.heap.size W0 W0) := hide (Below.refl _ _)
      clear q2 q3
      go_region_held3 (fun wx => Hid (Below W0.heap.size W0 wx) ∧ wx.cell? ⟨w.heap.size, 2, none⟩ = some (.string s) ∧ wx.cell? ⟨w.heap.size, 3, none⟩ = some (.slice a len cap))
        ((refine HF.out _ ?_; repeat (first | exact HW31 | exact HW30 | exact H00 | apply hidB_drew | apply hidB_alloc)))
        (first
          | (go_at_call 68; refine (HXT.out _ (hidB_drew (hidB_alloc (o := .cells #[.string ⟨#[99, 97, 108, 108]⟩, .string s] 9) H00))).mono ?_; rintro e w30 ⟨a', cap', rfl, hs30, hb30⟩; have HW30 := hide (up (hidB_drew (hidB_alloc (o := .cells #[.string ⟨#[99, 97, 108, 108]⟩, .string s] 9) H00)).out hb30); have HS30 := hide hs30; have HV := hide ((strs_lit2 (w := W0) rfl ⟨#[99, 97, 108, 108]⟩ s (by decide) hsz).drewUp.below hb30); clear hb30 hs30)
          | (go_at_call 68; refine (HXT.out _ (hidB_drew H00)).mono ?_; rintro e w30 ⟨a', cap', rfl, hs30, hb30⟩; have HW30 := hide (up (hidB_drew H00).out hb30); have HS30 := hide hs30; clear hb30 hs30)
          | (go_at_call 25; refine (brackets_any _ _ [[⟨#[99, 97, 108, 108]⟩, s], args.map (Lat.exT m)] ?_ HBS.out).mono ?_; (refine strsS_2 (by simp) ?_ ?_ <;> repeat (first | exact HV.out | exact HS30.out | exact strs_lit2 (by simp) ⟨#[99, 97, 108, 108]⟩ s (by decide) hsz | apply Strs.drewUp | apply Strs.allocUp)); rintro e w31 ⟨rfl, hb31⟩; have HW31 : Hid (Below W0.heap.size W0 w31) := hide (up (w := W0) (unhide (by repeat (first | exact HW30 | apply hidB_drew | apply hidB_alloc))) hb31); clear hb31))
      all_goals
        go_wp2_with fail
        go_ret
        exact ⟨ret_str (by rw [HTX.out]), up HB0.out HW31.out⟩
    exfalso
    simp [Lat.partsB, h1, h2, h3, h4] at hparts

end Go.Proofs.YthcckfofpocbhabGreatDoor

/- Walks over package tree: commandText, commandTexts: of commands that may be, the text that the document asks. -/
namespace Go.Proofs.YthcckfofpocbhabGreatDoor
open Go.RowKit

namespace Lat
/-- A command's text by itself. -/
def stX (m : Nat) (s : St) : ByteArray := stT (exT m) (bdT m) s ⟨#[]⟩
def txs : Nat → List St → List ByteArray
  | 0, _ => []
  | m + 1, l => l.map (stX m)
end Lat

theorem stT_acc (et : Ex → ByteArray) (bt : List St → ByteArray) (s : St) (acc : ByteArray) : Lat.stT et bt s acc = acc ++ Lat.stT et bt s ⟨#[]⟩ := by
  have e : ∀ x : ByteArray, (⟨#[]⟩ : ByteArray) ++ x = x := fun x => by apply bytes_ext; rw [app_list]; rfl
  have e2 : ∀ x : ByteArray, x ++ (⟨#[]⟩ : ByteArray) = x := fun x => by apply bytes_ext; rw [app_list]; simp
  unfold Lat.stT
  simp only [e]
  split
  · rfl
  · split
    · rfl
    · split
      · rfl
      · split
        · rfl
        · rw [e2]

theorem joinTail_app (sep : List UInt8) (a b : List (List UInt8)) : Lib.joinTail sep (a ++ b) = Lib.joinTail sep a ++ Lib.joinTail sep b := by
  simp [Lib.joinTail]
theorem jn_list (l : List ByteArray) : (Lat.jn l).data.toList = Lib.join (l.map (·.data.toList)) [32] := by unfold Lat.jn; rfl
theorem jn_snoc (l : List ByteArray) (x : ByteArray) : Lat.jn (l ++ [x]) = (if 0 < l.length then Lat.jn l ++ (⟨#[32]⟩ : ByteArray) else Lat.jn l) ++ x := by
  cases l with
  | nil =>
    apply bytes_ext
    rw [if_neg (by simp), app_list, jn_list, jn_list]
    simp [Lib.join_one, Lib.join_nil]
  | cons y l =>
    apply bytes_ext
    rw [if_pos (by simp), app_list, app_list, jn_list, jn_list, List.cons_append, List.map_cons, List.map_cons, Lib.join_cons, Lib.join_cons, List.map_append, joinTail_app]
    simp [Lib.joinTail]

theorem bdTo_jn (m : Nat) (l : List St) : ∀ j, j ≤ l.length → Lat.bdTo (Lat.exT m) (Lat.bdT m) l j = Lat.jn ((l.take j).map (Lat.stX m))
  | 0, _ => by
    apply bytes_ext
    rw [jn_list]; simp [Lat.bdTo, Lib.join_nil]
  | j + 1, hj => by
    obtain ⟨s, hs⟩ : ∃ s, l[j]? = some s := ⟨_, List.getElem?_eq_getElem (by omega)⟩
    rw [bdTo_succ hs, stT_acc, map_take hs, jn_snoc, bdTo_jn m l j (by omega)]
    have e : ((l.take j).map (Lat.stX m)).length = j := by rw [List.length_map, List.length_take]; omega
    rw [e]; rfl
theorem bdT_jn (m : Nat) (l : List St) : Lat.bdT m l = Lat.jn (Lat.txs m l) := by
  cases m with
  | zero => apply bytes_ext; rw [jn_list]; simp [Lat.bdT, Lat.txs, Lib.join_nil]
  | succ m =>
    simp only [Lat.bdT, Lat.txs]
    rw [bdTo_jn m l l.length (Nat.le_refl _), List.take_length]

section
variable (m : Nat) (s : St)
theorem set_text (h : s.kind = 1) : Lat.brk [⟨#[115, 101, 116]⟩, s.name, Lat.exT m s.e] = Lat.stX m s := by
  apply bytes_ext
  rw [brk_list]
  unfold Lat.stX Lat.stT
  rw [if_pos h]
  simp [Lib.join_cons, Lib.joinTail]
theorem print_text (h : s.kind = 4) : Lat.brk [⟨#[112, 114, 105, 110, 116]⟩, s.name, Lat.exT m s.e] = Lat.stX m s := by
  apply bytes_ext
  rw [brk_list]
  unfold Lat.stX Lat.stT
  rw [if_neg (by omega), if_pos h]
  simp [Lib.join_cons, Lib.joinTail]
theorem while_text (h : s.kind = 3) : Lat.brk [⟨#[119, 104, 105, 108, 101]⟩, Lat.exT m s.e, Lat.brk (Lat.txs m s.a)] = Lat.stX m s := by
  apply bytes_ext
  rw [brk_list]
  unfold Lat.stX Lat.stT
  rw [if_neg (by omega), if_neg (by omega), if_pos h, bdT_jn]
  simp [Lib.join_cons, Lib.joinTail, brk_list, jn_list]
theorem if_text (h : s.kind = 2) : Lat.brk [⟨#[105, 102]⟩, Lat.exT m s.e, Lat.brk (Lat.txs m s.a), Lat.brk (Lat.txs m s.b)] = Lat.stX m s := by
  apply bytes_ext
  rw [brk_list]
  unfold Lat.stX Lat.stT
  rw [if_neg (by omega), if_neg (by omega), if_neg (by omega), if_pos h, bdT_jn, bdT_jn]
  simp [Lib.join_cons, Lib.joinTail, brk_list, jn_list]
end

theorem brk_txs {w : World} {m : Nat} {v : Value} {l : List St} (h : StsAt w m v l) (hw : stsW m l ≤ 1048576) : (Lat.brk (Lat.txs m l)).size ≤ 6291458 := by
  have := bdT_size h
  rw [brk_size, ← bdT_jn]; omega
theorem stX_size {w : World} {m : Nat} {e0 e1 e2 e3 va vb : Value} {s : St} (h : StAt w m e0 e1 e2 e3 va vb s) (hw : s.name.size + 3 + exW m s.e + stsW m s.a + stsW m s.b ≤ 1048576) : (Lat.stX m s).size ≤ 6291467 := by
  have h1 := (stT_size (Lat.exT m) (Lat.bdT m) s ⟨#[]⟩).2
  have h2 := exT_size h.2.2.1
  have h3 := bdT_size h.2.2.2.1
  have h4 := bdT_size h.2.2.2.2
  have e : (⟨#[]⟩ : ByteArray).size = 0 := rfl
  unfold Lat.stX
  omega

set_option maxHeartbeats 4000000 in
set_option maxRecDepth 100000 in
theorem commandText_of (m : Nat) (hi : ∀ (w : World) (v : Value) (l : List St), StsAt w m v l → Lat.bodyB m l = true → stsW m l ≤ 1048576 → Tab w →
      Calls Tryz.prog 48 #[v] w fun e w' => ∃ a n c, e = .returned (.slice a n c) ∧ Strs w' (.slice a n c) (Lat.txs m l) ∧ Below w.heap.size w w')
    (w : World) (e0 e1 e2 e3 va vb : Value) (s : St) (h : StAt w m e0 e1 e2 e3 va vb s) (hok : Lat.stB m s = true) (hw : s.name.size + 3 + exW m s.e + stsW m s.a + stsW m s.b ≤ 1048576) (ht : Tab w) :
    Calls Tryz.prog 66 #[.agg #[.int .i64 s.kind, .string s.name, e0, e1, e2, e3, va, vb]] w fun e w' => e = .returned (.string (Lat.stX m s)) ∧ Below w.heap.size w w' := by
  have hxs := stX_size h hw
  have hba := brk_txs h.2.2.2.1 (by omega)
  have hbb := brk_txs h.2.2.2.2 (by omega)
  have hxe := exT_size h.2.2.1
  have HS := hide h
  obtain ⟨_, hnm, hx, hsa, hsb⟩ := h
  obtain ⟨ae, ce, rfl, rfl, rfl, rfl⟩ := hx.shape
  obtain ⟨a1, cap1, rfl, hl1⟩ := hsa.shape
  obtain ⟨a2, cap2, rfl, hl2⟩ := hsb.shape
  clear hx hsa hsb
  have hok' : (((Lat.stH s = true ∧ Lat.exprB m s.e = true) ∧ Lat.bodyB m s.a = true) ∧ Lat.bodyB m s.b = true) := by
    unfold Lat.stB at hok
    simpa only [Bool.and_eq_true] using hok
  obtain ⟨⟨⟨okh, oke⟩, oka⟩, okb⟩ := hok'
  have w1 : exW m s.e ≤ 1048576 := by omega
  have w2 : stsW m s.a ≤ 1048576 := by omega
  have w3 : stsW m s.b ≤ 1048576 := by omega
  have te : (Lat.exT m s.e).size ≤ maxLen := by unfold maxLen; omega
  have ta : (Lat.brk (Lat.txs m s.a)).size ≤ maxLen := by unfold maxLen; omega
  have tb : (Lat.brk (Lat.txs m s.b)).size ≤ maxLen := by unfold maxLen; omega
  have ba : (Lat.brk [Lat.txs m s.a].flatten).size ≤ 16777216 := by rw [List.flatten_singleton]; omega
  have bb : (Lat.brk [Lat.txs m s.b].flatten).size ≤ 16777216 := by rw [List.flatten_singleton]; omega
  have HBA := hide ba
  have HBB := hide bb
  have HKS : Hid (s.kind = 1 → Lat.brk [[⟨#[115, 101, 116]⟩, s.name, Lat.exT m s.e]].flatten = Lat.stX m s) := hide (fun h => by rw [List.flatten_singleton]; exact set_text m s h)
  have HKP : Hid (s.kind = 4 → Lat.brk [[⟨#[112, 114, 105, 110, 116]⟩, s.name, Lat.exT m s.e]].flatten = Lat.stX m s) := hide (fun h => by rw [List.flatten_singleton]; exact print_text m s h)
  have HKW : Hid (s.kind = 3 → Lat.brk [[⟨#[119, 104, 105, 108, 101]⟩, Lat.exT m s.e, Lat.brk (Lat.txs m s.a)]].flatten = Lat.stX m s) := hide (fun h => by rw [List.flatten_singleton]; exact while_text m s h)
  have HKI : Hid (s.kind = 2 → Lat.brk [[⟨#[105, 102]⟩, Lat.exT m s.e, Lat.brk (Lat.txs m s.a), Lat.brk (Lat.txs m s.b)]].flatten = Lat.stX m s) := hide (fun h => by rw [List.flatten_singleton]; exact if_text m s h)
  have hkind : s.kind = 1 ∨ s.kind = 2 ∨ s.kind = 3 ∨ s.kind = 4 := by
    apply Classical.byContradiction
    intro hn
    rw [show Lat.stH s = false by
      unfold Lat.stH
      rw [if_neg (by omega), if_neg (by omega), if_neg (by omega)]] at okh
    cases okh
  have HXS := hide hxs
  clear hok hw hba hbb hxe ba bb hxs okh
  generalize s.e.args.length = le at *
  generalize s.a.length = l1 at *
  generalize s.b.length = l2 at *
  have q0 := box8_0 w (.int .i64 s.kind) (.string s.name) (.int .i64 s.e.kind) (.int .i64 s.e.n) (.string s.e.name) (.slice ae le ce) (.slice a1 l1 cap1) (.slice a2 l2 cap2) 78
  have q1 := box8_1 w (.int .i64 s.kind) (.string s.name) (.int .i64 s.e.kind) (.int .i64 s.e.n) (.string s.e.name) (.slice ae le ce) (.slice a1 l1 cap1) (.slice a2 l2 cap2) 78
  have q6 := boxCells86 w (.int .i64 s.kind) (.string s.name) (.int .i64 s.e.kind) (.int .i64 s.e.n) (.string s.e.name) (.slice ae le ce) (.slice a1 l1 cap1) (.slice a2 l2 cap2) 78
  have q7 := boxCells87 w (.int .i64 s.kind) (.string s.name) (.int .i64 s.e.kind) (.int .i64 s.e.n) (.string s.e.name) (.slice ae le ce) (.slice a1 l1 cap1) (.slice a2 l2 cap2) 78
  have HB0 := hide (boxBelow w (.cells #[.int .i64 s.kind, .string s.name, .int .i64 s.e.kind, .int .i64 s.e.n, .string s.e.name, .slice ae le ce, .slice a1 l1 cap1, .slice a2 l2 cap2] 78))
  go_enter Tryz.func66, Tryz.ntmps66
  go_wp2_with fail
  refine (texprText_any m _ _ _ _ _ s.e (HS.out.below HB0.out).2.2.1 oke w1 (ht.below HB0.out)).mono ?_
  rintro e W0 ⟨rfl, hb5⟩
  replace q0 := cellUp q0 hb5
  replace q1 := cellUp q1 hb5
  replace q6 := cellUp q6 hb5
  replace q7 := cellUp q7 hb5
  have HN := hide (up HB0.out hb5)
  clear hb5 HB0
  have HCA : Hid (∀ W, Hid (Below W0.heap.size W0 W) → Calls Tryz.prog 48 #[.slice a1 l1 cap1] W fun e w' => ∃ a n c, e = .returned (.slice a n c) ∧ Strs w' (.slice a n c) (Lat.txs m s.a) ∧ Below W.heap.size W w') :=
    fun W hW => hi W _ s.a (HS.out.below (up HN.out hW.out)).2.2.2.1 oka w2 (ht.below (up HN.out hW.out))
  have HCB : Hid (∀ W, Hid (Below W0.heap.size W0 W) → Calls Tryz.prog 48 #[.slice a2 l2 cap2] W fun e w' => ∃ a n c, e = .returned (.slice a n c) ∧ Strs w' (.slice a n c) (Lat.txs m s.b) ∧ Below W.heap.size W w') :=
    fun W hW => hi W _ s.b (HS.out.below (up HN.out hW.out)).2.2.2.2 okb w3 (ht.below (up HN.out hW.out))
  clear hi
  generalize Lat.exT m s.e = tE at *
  generalize htA : Lat.txs m s.a = tA at *
  generalize htB : Lat.txs m s.b = tB at *
  have H00 : Hid (Below W0.heap.size W0 W0) := hide (Below.refl _ _)
  rcases hkind with hk | hk | hk | hk
  · have hf := HKS.out hk
    rw [hk] at q0
    clear q6 q7 hk
    go_wp2_with fail
    refine (brackets_any _ _ [[⟨#[115, 101, 116]⟩, s.name, tE]] (strsS_1 (by simp) (strs_lit3 rfl _ _ _ (by decide) hnm te)) (by rw [hf]; have := HXS.out; omega)).mono ?_
    rintro e w6 ⟨rfl, hb6⟩
    have HB6 := hide (up HN.out (up (hidB_alloc (hidB_alloc H00)).out hb6))
    have HFF := hide hf
    clear hb6 hf
    go_wp2_with fail
    go_ret
    exact ⟨ret_str HFF.out, HB6.out⟩
  · have hf := HKI.out hk
    rw [hk] at q0
    clear hk
    have HBI : Hid ((Lat.brk [[⟨#[105, 102]⟩, tE, Lat.brk tA, Lat.brk tB]].flatten).size ≤ 16777216) := hide (by rw [hf]; have := HXS.out; omega)
    have HFF := hide hf
    have HF : Hid (∀ wx, Hid (Below W0.heap.size W0 wx) → Hid (Below W0.heap.size W0 wx) ∧ wx.cell? ⟨w.heap.size, 6, none⟩ = some (.slice a1 l1 cap1) ∧ wx.cell? ⟨w.heap.size, 7, none⟩ = some (.slice a2 l2 cap2)) :=
      fun wx h => ⟨h, cellUp q6 h.out, cellUp q7 h.out⟩
    clear hf q6 q7 HKS HKP HKW HKI
    generalize hbA : Lat.brk tA = bA at *
    generalize hbB : Lat.brk tB = bB at *
    rw [List.flatten_singleton, hbA] at HBA
    rw [List.flatten_singleton, hbB] at HBB
    have HTA : Hid (∀ W v, StrsS W v [tA] → Calls Tryz.prog 25 #[v] W fun e w' => e = .returned (.string bA) ∧ Below W.heap.size W w') := fun W v h => by
      have := brackets_any W v [tA] h (by rw [List.flatten_singleton, hbA]; exact HBA.out)
      rw [List.flatten_singleton, hbA] at this
      exact this
    have HTB : Hid (∀ W v, StrsS W v [tB] → Calls Tryz.prog 25 #[v] W fun e w' => e = .returned (.string bB) ∧ Below W.heap.size W w') := fun W v h => by
      have := brackets_any W v [tB] h (by rw [List.flatten_singleton, hbB]; exact HBB.out)
      rw [List.flatten_singleton, hbB] at this
      exact this
    clear hbA hbB htA htB
    go_wp2_with fail
    go_region_held3 (fun wx => Hid (Below W0.heap.size W0 wx) ∧ wx.cell? ⟨w.heap.size, 6, none⟩ = some (.slice a1 l1 cap1) ∧ wx.cell? ⟨w.heap.size, 7, none⟩ = some (.slice a2 l2 cap2))
      ((refine HF.out _ ?_; repeat (first | exact HW34 | exact HW33 | exact HW32 | exact HW31 | exact HW30 | exact H00 | apply hidB_drew | apply hidB_alloc)))
      (first
        | (go_at_call_of 48 (a1); refine (HCA.out _ (by repeat (first | exact H00 | apply hidB_drew))).mono ?_; rintro e w30 ⟨x1, n1, c1, rfl, hs30, hb30⟩; have HW30 : Hid (Below W0.heap.size W0 w30) := hide (up (w := W0) (unhide (by repeat (first | exact H00 | apply hidB_drew))) hb30); have HS30 := hide hs30; clear hb30 hs30)
        | (go_at_call_of 48 (a2); refine (HCB.out _ (by repeat (first | exact HW31 | apply hidB_drew))).mono ?_; rintro e w32 ⟨x2, n2, c2, rfl, hs32, hb32⟩; have HW32 : Hid (Below W0.heap.size W0 w32) := hide (up (w := W0) (unhide (by repeat (first | exact HW31 | apply hidB_drew))) hb32); have HS32 := hide hs32; clear hb32 hs32)
        | (go_at_call 25; have hg := HW33; clear hg; refine (brackets_any _ _ [[⟨#[105, 102]⟩, tE, bA, bB]] ?_ HBI.out).mono ?_; (refine strsS_1 (by simp) ?_; repeat (first | exact strs_lit4 (w := w33) (by simp) _ _ _ _ (by decide) te ta tb | apply Strs.drewUp)); rintro e w34 ⟨rfl, hb34⟩; have HW34 : Hid (Below W0.heap.size W0 w34) := hide (up (w := W0) (unhide (by repeat (first | exact HW33 | apply hidB_drew | apply hidB_alloc))) hb34); clear hb34)
        | (go_at_call 25; have hg := HS32; clear hg; refine (HTB.out _ _ ?_).mono ?_; (refine strsS_1 (by simp) ?_; repeat (first | exact HS32.out | apply Strs.drewUp)); rintro e w33 ⟨rfl, hb33⟩; have HW33 : Hid (Below W0.heap.size W0 w33) := hide (up (w := W0) (unhide (by repeat (first | exact HW32 | apply hidB_drew | apply hidB_alloc))) hb33); clear hb33)
        | (go_at_call 25; have hg := HS30; clear hg; refine (HTA.out _ _ ?_).mono ?_; (refine strsS_1 (by simp) ?_; repeat (first | exact HS30.out | apply Strs.drewUp)); rintro e w31 ⟨rfl, hb31⟩; have HW31 : Hid (Below W0.heap.size W0 w31) := hide (up (w := W0) (unhide (by repeat (first | exact HW30 | apply hidB_drew | apply hidB_alloc))) hb31); clear hb31))
    all_goals
      go_wp2_with fail
      go_ret
      exact ⟨ret_str HFF.out, up HN.out HW34.out⟩
  · have hf := HKW.out hk
    rw [hk] at q0
    clear hk q7
    have HFF := hide hf
    have HBI : Hid ((Lat.brk [[⟨#[119, 104, 105, 108, 101]⟩, tE, Lat.brk tA]].flatten).size ≤ 16777216) := hide (by rw [hf]; have := HXS.out; omega)
    clear hf
    go_wp2_with fail
    refine (HCA.out _ H00).mono ?_
    rintro e w30 ⟨x1, n1, c1, rfl, hs30, hb30⟩
    have HW30 := hide hb30
    have HS30 := hide hs30
    clear hb30 hs30
    go_wp2_with fail
    refine (brackets_any _ _ [tA] (strsS_1 rfl HS30.out) HBA.out).mono ?_
    rintro e w31 ⟨rfl, hb31⟩
    have HW31 := hide (up (hidB_alloc HW30).out hb31)
    rw [List.flatten_singleton]
    clear hb31
    go_wp2_with fail
    refine (brackets_any _ _ [[⟨#[119, 104, 105, 108, 101]⟩, tE, Lat.brk tA]] (strsS_1 (by simp) (strs_lit3 rfl _ _ _ (by decide) te ta)) HBI.out).mono ?_
    rintro e w34 ⟨rfl, hb34⟩
    have HW34 := hide (up (hidB_alloc (hidB_alloc HW31)).out hb34)
    clear hb34
    go_wp2_with fail
    go_ret
    exact ⟨ret_str HFF.out, up HN.out HW34.out⟩
  · have hf := HKP.out hk
    rw [hk] at q0
    clear q6 q7 hk
    go_wp2_with fail
    refine (brackets_any _ _ [[⟨#[112, 114, 105, 110, 116]⟩, s.name, tE]] (strsS_1 (by simp) (strs_lit3 rfl _ _ _ (by decide) hnm te)) (by rw [hf]; have := HXS.out; omega)).mono ?_
    rintro e w6 ⟨rfl, hb6⟩
    have HB6 := hide (up HN.out (up (hidB_alloc (hidB_alloc H00)).out hb6))
    have HFF := hide hf
    clear hb6 hf
    go_wp2_with fail
    go_ret
    exact ⟨ret_str HFF.out, HB6.out⟩

theorem len_le_sum {α : Type} {f : α → Nat} : ∀ {l : List α}, (∀ y ∈ l, 1 ≤ f y) → l.length ≤ (l.map f).sum
  | [], _ => Nat.le_refl _
  | y :: l, h => by
    have h1 := h y (by simp)
    have h2 := len_le_sum (l := l) (fun z hz => h z (by simp [hz]))
    simp only [List.length_cons, List.map_cons, List.sum_cons]; omega

set_option maxHeartbeats 2000000 in
set_option maxRecDepth 100000 in
theorem commandTexts_any (m : Nat) : ∀ (w : World) (v : Value) (l : List St), StsAt w m v l → Lat.bodyB m l = true → stsW m l ≤ 1048576 → Tab w →
    Calls Tryz.prog 48 #[v] w fun e w' => ∃ a n c, e = .returned (.slice a n c) ∧ Strs w' (.slice a n c) (Lat.txs m l) ∧ Below w.heap.size w w' := by
  induction m with
  | zero => intro w v l h; exact False.elim h
  | succ m ih =>
    intro w v l h hok hw ht
    have HI := hide (commandText_of m ih)
    clear ih
    obtain ⟨a, b, off, cap, rfl, ha, hl, hel⟩ := h
    have HT := hide ht
    have HOK : Hid (∀ (i : Nat) (y : St), l[i]? = some y → Lat.stB m y = true ∧ y.name.size + 3 + exW m y.e + stsW m y.a + stsW m y.b ≤ 1048576) := hide (fun i y hy => ⟨List.all_eq_true.1 (by rw [← Lat.bodyB_succ]; exact hok) y (List.mem_of_getElem? hy), by
      have : y.name.size + 3 + exW m y.e + stsW m y.a + stsW m y.b ≤ (l.map fun s : St => s.name.size + 3 + exW m s.e + stsW m s.a + stsW m s.b).sum := mem_le_sum (f := fun s : St => s.name.size + 3 + exW m s.e + stsW m s.a + stsW m s.b) (List.mem_of_getElem? hy)
      simp only [stsW] at hw; omega⟩)
    have hll : l.length ≤ 1048576 := by
      have := len_le_sum (l := l) (f := fun s : St => s.name.size + 3 + exW m s.e + stsW m s.a + stsW m s.b) (fun y _ => by omega)
      simp only [stsW] at hw; omega
    have HTS : Hid (∀ t ∈ Lat.txs (m + 1) l, t.size ≤ maxLen) := hide (fun t htm => by
      obtain ⟨y, hy, rfl⟩ := List.mem_map.1 htm
      obtain ⟨i, hi, rfl⟩ := List.mem_iff_getElem.1 hy
      obtain ⟨k1, k2, e0, e1, e2, e3, va, vb, _, _, _, _, _, _, _, _, hx, hsa, hsb⟩ := hel i _ (List.getElem?_eq_getElem hi)
      have h1 : StAt w m e0 e1 e2 e3 va vb l[i] := ⟨k1, k2, hx, hsa, hsb⟩
      have h2 := stX_size h1 (HOK.out i _ (List.getElem?_eq_getElem hi)).2
      unfold maxLen; omega)
    have HE : Hid (Lat.txs (m + 1) l = l.map (Lat.stX m)) := rfl
    have HEL := hide hel
    have HA := hide ha
    clear hel ha hw hok ht
    obtain ⟨len, hlen⟩ : ∃ len, len = l.length := ⟨_, rfl⟩
    have HL := hide hlen
    rw [← hlen] at hl HA hll ⊢
    clear hlen
    go_enter Tryz.func48, Tryz.ntmps48
    go_wp2
    go_loopw [3, 8] (fun o i wr => ∃ j : Nat, j ≤ len ∧ i = .int .i64 j ∧ Own wr w.heap.size o ((l.take j).map (Lat.stX m)) ∧ Below w.heap.size w wr) (fun _ i _ => len - (intOf i).toNat)
    case atStart => exact ⟨0, Nat.zero_le _, rfl, World.ownsRow_nil _ _ _ _, Below.refl _ _⟩
    case round =>
      obtain ⟨j, hj, rfl, hown, hnx⟩ := hrel
      by_cases hjl : j < len
      · obtain ⟨y, hy⟩ : ∃ y, l[j]? = some y := ⟨_, List.getElem?_eq_getElem (by rw [← HL.out]; exact hjl)⟩
        obtain ⟨k1, k2, e0, e1, e2, e3, va, vb, g0, g1, g2, g3, g4, g5, g6, g7, hx, hsa, hsb⟩ := HEL.out j y hy
        obtain ⟨hyb, hyw⟩ := HOK.out j y hy
        have HST := hide (map_take (f := Lat.stX m) hy)
        obtain rfl := HA.out (by omega)
        have u0 := cellUp g0 hnx
        have u1 := cellUp g1 hnx
        have u2' := cellUp g2 hnx
        have u3' := cellUp g3 hnx
        have u4 := cellUp g4 hnx
        have u5 := cellUp g5 hnx
        have u6 := cellUp g6 hnx
        have u7 := cellUp g7 hnx
        have hat : StAt wr m e0 e1 e2 e3 va vb y := ⟨k1, k2, hx.below hnx, hsa.below hnx, hsb.below hnx⟩
        have hyt : (Lat.stX m y).size ≤ maxLen := by have := stX_size hat hyw; unfold maxLen; omega
        have HAT := hide hat
        obtain ⟨ae, ce, rfl, rfl, rfl, rfl⟩ := hx.shape
        obtain ⟨a1, cap1, rfl, hl1⟩ := hsa.shape
        obtain ⟨a2, cap2, rfl, hl2⟩ := hsb.shape
        have HNX := hide hnx
        have HOW := hide hown
        clear g0 g1 g2 g3 g4 g5 g6 g7 hx hsa hsb hy hnx hown hat
        go_wp2_with fail
        refine (HI.out _ _ _ _ _ _ _ y (HAT.out.below (boxBelow _ _)) hyb hyw ((HT.out.below HNX.out).below (boxBelow _ _))).mono ?_
        rintro e w5 ⟨rfl, hb5⟩
        have hb5' := up1 hb5
        have HN5 := hide (up HNX.out hb5')
        have HOW5 : Hid (Own w5 w.heap.size _ _) := hide (own_below HOW.out hb5')
        clear hb5 hb5' HNX HOW
        generalize Lat.stX m y = ty at *
        have hbs := HN5.out.size
        have hlt : ((l.take j).map (Lat.stX m)).length ≤ 1048576 := by rw [List.length_map, List.length_take]; omega
        go_wp2_with (first
          | (at_builtin; refine wpList_append_strs rfl _ _ rfl w.heap.size _ _ [ty] rfl (own_below HOW5.out (boxBelow _ _)) _ rfl (strs_lit1 rfl _ hyt) (by simp only [List.length_singleton]; omega) (by simp; omega) ?_; intro v' w2 hown2 hgrow2)
          | fail)
        have R2 := hide ((HN5.out.alloc hbs (.cells #[.string ty] 9)).grown hgrow2 (by simp; omega) (fun j hj => (HOW5.out.lt j hj).1))
        have HO2 := hide hown2
        clear hgrow2 hown2
        go_roundw
        case rel => exact ⟨j + 1, by omega, by go_num, by rw [HST.out]; exact HO2.out, R2.out⟩
        case measure => simp [intOf]; omega
      · have e : l.take j = l := List.take_of_length_le (by have := HL.out; omega)
        rw [e, ← HE.out] at hown
        have hs := hown.strs HTS.out (by rw [HE.out, List.length_map, ← HL.out]; exact hl)
        obtain ⟨a', c', rfl, _⟩ := hs.shape
        have HO2 := hide hs
        clear hown hs
        generalize (Lat.txs (m + 1) l).length = nn at *
        go_wp2
        go_ret
        exact ⟨_, _, _, rfl, HO2.out, hnx⟩

end Go.Proofs.YthcckfofpocbhabGreatDoor
