/- Walks over package tree: exprDepth, commandDepth, commandsDepth, funDepth, moduleDepth: how deep the brackets are nested. -/
import Derived.Test.YtholefgckcoklaaGreatDoorBZAL
import Derived.Test.YtholefgckcoklaaGreatDoorBZAX
import Derived.Deep.RegionHeld3
namespace Go.Proofs.YtholefgckcoklaaGreatDoor
open Go.RowKit
namespace Lat
def maxN {α : Type} (f : α → Nat) (l : List α) : Nat := l.foldl (fun a y => max a (f y)) 0
def exD : Nat → Ex → Nat
  | 0, _ => 0
  | m + 1, x => if x.kind = 1 ∨ x.kind = 2 then 0 else 1 + maxN (exD m) x.args
def bdD : Nat → List St → Nat
  | 0, _ => 0
  | m + 1, l => maxN (fun s => 1 + if s.kind = 2 ∨ s.kind = 3 then max (max (exD m s.e) (1 + bdD m s.a)) (1 + bdD m s.b) else exD m s.e) l
def stD (m : Nat) (s : St) : Nat := 1 + if s.kind = 2 ∨ s.kind = 3 then max (max (exD m s.e) (1 + bdD m s.a)) (1 + bdD m s.b) else exD m s.e
theorem bdD_succ (m : Nat) (l : List St) : bdD (m + 1) l = maxN (stD m) l := rfl
def fuD (m : Nat) (f : Fu) : Nat := 1 + max (max 1 (bdD m f.body)) (exD m f.result)
def moD (m : Nat) (x : Mo) : Nat := 1 + max 1 (maxN (fuD m) x.funs)
end Lat
section
variable {α : Type} {f : α → Nat}
theorem maxN_fold (l : List α) (a : Nat) : l.foldl (fun a y => max a (f y)) a = max a (Lat.maxN f l) := by
  induction l generalizing a with
  | nil => simp [Lat.maxN]
  | cons y l ih =>
    unfold Lat.maxN
    rw [List.foldl_cons, List.foldl_cons, ih, ih]
    omega
theorem maxN_cons (y : α) (l : List α) : Lat.maxN f (y :: l) = max (f y) (Lat.maxN f l) := by
  rw [Lat.maxN, List.foldl_cons, maxN_fold]; omega
theorem maxN_append (l k : List α) : Lat.maxN f (l ++ k) = max (Lat.maxN f l) (Lat.maxN f k) := by
  rw [Lat.maxN, List.foldl_append, maxN_fold]; rfl
theorem maxN_take {l : List α} {j : Nat} {y : α} (h : l[j]? = some y) : Lat.maxN f (l.take (j + 1)) = max (Lat.maxN f (l.take j)) (f y) := by
  obtain ⟨hj, rfl⟩ := List.getElem?_eq_some_iff.1 h
  rw [List.take_succ_eq_append_getElem hj, maxN_append, maxN_cons]; simp [Lat.maxN]
theorem maxN_le {B : Nat} {l : List α} (h : ∀ y ∈ l, f y ≤ B) : Lat.maxN f l ≤ B := by
  induction l with
  | nil => exact Nat.zero_le _
  | cons y l ih =>
    rw [maxN_cons]
    have h1 := h y (by simp)
    have h2 := ih (fun z hz => h z (by simp [hz]))
    omega
theorem maxN_sum {g : α → Nat} {l : List α} (h : ∀ y ∈ l, f y ≤ g y) : Lat.maxN f l ≤ (l.map g).sum := by
  induction l with
  | nil => exact Nat.zero_le _
  | cons y l ih =>
    rw [maxN_cons, List.map_cons, List.sum_cons]
    have h1 := h y (by simp)
    have h2 := ih (fun z hz => h z (by simp [hz]))
    omega
theorem maxN_take_le (l : List α) (j : Nat) : Lat.maxN f (l.take j) ≤ Lat.maxN f l := by
  conv => rhs; rw [← List.take_append_drop j l]
  rw [maxN_append]; omega
end
theorem exD_le : ∀ (m : Nat) (x : Ex), Lat.exD m x ≤ exW m x
  | 0, _ => Nat.le_refl _
  | m + 1, x => by
    simp only [Lat.exD, exW]
    have := maxN_sum (f := Lat.exD m) (g := exW m) (l := x.args) (fun y _ => exD_le m y)
    split <;> omega
theorem bdD_le : ∀ (m : Nat) (l : List St), Lat.bdD m l ≤ stsW m l
  | 0, _ => Nat.le_refl _
  | m + 1, l => by
    simp only [Lat.bdD, stsW]
    refine Nat.le_trans (maxN_sum (g := fun s => s.name.size + 3 + exW m s.e + stsW m s.a + stsW m s.b) (fun s _ => ?_)) (Nat.le_succ _)
    have h1 := exD_le m s.e
    have h2 := bdD_le m s.a
    have h3 := bdD_le m s.b
    split <;> omega
theorem wrap_small {x : Int} (h0 : 0 ≤ x) (h1 : x ≤ 9223372036854775807) : IntKind.i64.wrap x = x := by
  rw [IntKind.wrap_i64]; omega
theorem val_imax {a b c : Nat} (h : c = max a b) : Value.int .i64 (max (a : Int) (b : Int)) = .int .i64 c := by rw [h]; congr 1; omega
set_option maxHeartbeats 2000000 in
set_option maxRecDepth 100000 in
theorem exprDepth_any (m : Nat) : ∀ (w : World) (c0 c1 c2 c3 : Value) (x : Ex), ExAt w m c0 c1 c2 c3 x → exW m x ≤ 1048576 →
    Calls Tryz.prog 245 #[.agg #[c0, c1, c2, c3]] w fun e w' => e = .returned (.int .i64 (Lat.exD m x)) ∧ Below w.heap.size w w' := by
  induction m with
  | zero => intro w c0 c1 c2 c3 x h; exact False.elim h
  | succ m ih =>
    intro w c0 c1 c2 c3 x h hw
    have HI := hide ih
    clear ih
    obtain ⟨rfl, rfl, rfl, hsz, hk1, hk2, a, b, off, cap, rfl, ha, hl, hel⟩ := h
    obtain ⟨k, n, s, args⟩ := x
    simp only at hsz hk1 hk2 ha hl hel ⊢
    have HEL := hide hel
    have HA := hide ha
    have HW : Hid (∀ (i : Nat) (y : Ex), args[i]? = some y → exW m y ≤ 1048576) := hide (fun i y hy => by
      have : exW m y ≤ (args.map (exW m)).sum := mem_le_sum (List.mem_of_getElem? hy)
      simp only [exW] at hw; omega)
    have HM : Hid (Lat.maxN (Lat.exD m) args ≤ 1048576) := hide (by
      have := maxN_sum (f := Lat.exD m) (g := exW m) (l := args) (fun y _ => exD_le m y)
      simp only [exW] at hw; omega)
    have HE : Hid (Lat.exD (m + 1) ⟨k, n, s, args⟩ = if k = 1 ∨ k = 2 then 0 else 1 + Lat.maxN (Lat.exD m) args) := rfl
    clear hel ha hw
    obtain ⟨len, hlen⟩ : ∃ len, len = args.length := ⟨_, rfl⟩
    have HL := hide hlen
    rw [← hlen] at hl HA ⊢
    clear hlen
    by_cases h1 : k = 1
    · subst h1
      go_enter Tryz.func245, Tryz.ntmps245
      go_wp2
      go_ret
      exact ⟨ret_int (by rw [HE.out]; rfl), boxBelow _ _⟩
    by_cases h2 : k = 2
    · subst h2
      go_enter Tryz.func245, Tryz.ntmps245
      go_wp2
      go_ret
      exact ⟨ret_int (by rw [HE.out]; rfl), boxBelow _ _⟩
    rw [if_neg (by omega)] at HE
    have k1 : (k == 1) = false := by simp [h1]
    have k2 : (k == 2) = false := by simp [h2]
    clear h1 h2
    have q3 := boxCells4 w (.int .i64 k) (.int .i64 n) (.string s) (.slice a len cap) 103
    have HB0 := hide (boxBelow w (.cells #[.int .i64 k, .int .i64 n, .string s, .slice a len cap] 103))
    go_enter Tryz.func245, Tryz.ntmps245
    go_wp2_with fail
    generalize (w.alloc (.cells #[.int .i64 k, .int .i64 n, .string s, .slice a len cap] 103)) = W0 at *
    go_loopw [3, 17] (fun o i wr => ∃ j : Nat, j ≤ len ∧ i = .int .i64 j ∧ o = .int .i64 (Lat.maxN (Lat.exD m) (args.take j)) ∧ Below W0.heap.size W0 wr) (fun _ i _ => len - (intOf i).toNat)
    case atStart => exact ⟨0, Nat.zero_le _, rfl, rfl, Below.refl _ _⟩
    case round =>
      obtain ⟨j, hj, rfl, rfl, hnx⟩ := hrel
      have hacc := Nat.le_trans (maxN_take_le (f := Lat.exD m) args j) HM.out
      by_cases hjl : j < len
      · obtain ⟨y, hy⟩ : ∃ y, args[j]? = some y := ⟨_, List.getElem?_eq_getElem (by rw [← HL.out]; exact hjl)⟩
        obtain ⟨e0, e1, e2, e3, g0, g1, g2, g3, hye⟩ := HEL.out j y hy
        obtain rfl := HA.out (by omega)
        have hbb := up HB0.out hnx
        have u0 := cellUp g0 hbb
        have u1 := cellUp g1 hbb
        have u2' := cellUp g2 hbb
        have u3' := cellUp g3 hbb
        have HYE := hide (hye.below hbb)
        obtain ⟨a', cap', rfl, rfl, rfl, rfl⟩ := hye.shape
        have hyw := HW.out j y hy
        have HST := hide (maxN_take (f := Lat.exD m) hy)
        have HNX := hide hnx
        clear g0 g1 g2 g3 hye hy hbb hnx
        go_wp2_with fail
        refine (HI.out _ _ _ _ _ y (HYE.out.below (boxBelow _ _)) hyw).mono ?_
        rintro e w5 ⟨rfl, hb5⟩
        have HN5 := hide (up HNX.out (up1 hb5))
        clear hb5 HNX hyw
        generalize Lat.exD m y = dy at *
        generalize Lat.maxN (Lat.exD m) (args.take j) = acc at *
        go_wp2_with fail
        go_roundw
        case rel => exact ⟨j + 1, by omega, by go_num, val_imax HST.out, HN5.out⟩
        case measure => simp [intOf]; omega
      · have e : args.take j = args := List.take_of_length_le (by have := HL.out; omega)
        rw [e] at hacc ⊢
        clear e
        generalize Lat.maxN (Lat.exD m) args = acc at *
        go_wp2
        go_ret
        exact ⟨ret_int (by rw [HE.out]; go_num), up HB0.out hnx⟩
set_option maxHeartbeats 2000000 in
set_option maxRecDepth 100000 in
theorem commandDepth_of (m : Nat) (hi : ∀ (w : World) (v : Value) (l : List St), StsAt w m v l → stsW m l ≤ 1048576 → Calls Tryz.prog 244 #[v] w fun e w' => e = .returned (.int .i64 (Lat.bdD m l)) ∧ Below w.heap.size w w')
    (w : World) (e0 e1 e2 e3 va vb : Value) (s : St) (h : StAt w m e0 e1 e2 e3 va vb s) (hw : s.name.size + 3 + exW m s.e + stsW m s.a + stsW m s.b ≤ 1048576) :
    Calls Tryz.prog 299 #[.agg #[.int .i64 s.kind, .string s.name, e0, e1, e2, e3, va, vb]] w fun e w' => e = .returned (.int .i64 (Lat.stD m s)) ∧ Below w.heap.size w w' := by
  have HI := hide hi
  clear hi
  have HS := hide h
  obtain ⟨_, hnm, hx, hsa, hsb⟩ := h
  obtain ⟨ae, ce, rfl, rfl, rfl, rfl⟩ := hx.shape
  obtain ⟨a1, cap1, rfl, hl1⟩ := hsa.shape
  obtain ⟨a2, cap2, rfl, hl2⟩ := hsb.shape
  clear hx hsa hsb
  have HE : Hid (Lat.stD m s = 1 + if s.kind = 2 ∨ s.kind = 3 then max (max (Lat.exD m s.e) (1 + Lat.bdD m s.a)) (1 + Lat.bdD m s.b) else Lat.exD m s.e) := rfl
  have w1 : exW m s.e ≤ 1048576 := by omega
  have w2 : stsW m s.a ≤ 1048576 := by omega
  have w3 : stsW m s.b ≤ 1048576 := by omega
  have d1 := Nat.le_trans (exD_le m s.e) w1
  have d2 := Nat.le_trans (bdD_le m s.a) w2
  have d3 := Nat.le_trans (bdD_le m s.b) w3
  clear hw
  generalize s.e.args.length = le at *
  generalize s.a.length = l1 at *
  generalize s.b.length = l2 at *
  have q0 := box8_0 w (.int .i64 s.kind) (.string s.name) (.int .i64 s.e.kind) (.int .i64 s.e.n) (.string s.e.name) (.slice ae le ce) (.slice a1 l1 cap1) (.slice a2 l2 cap2) 119
  have q6 := boxCells86 w (.int .i64 s.kind) (.string s.name) (.int .i64 s.e.kind) (.int .i64 s.e.n) (.string s.e.name) (.slice ae le ce) (.slice a1 l1 cap1) (.slice a2 l2 cap2) 119
  have q7 := boxCells87 w (.int .i64 s.kind) (.string s.name) (.int .i64 s.e.kind) (.int .i64 s.e.n) (.string s.e.name) (.slice ae le ce) (.slice a1 l1 cap1) (.slice a2 l2 cap2) 119
  have HB0 := hide (boxBelow w (.cells #[.int .i64 s.kind, .string s.name, .int .i64 s.e.kind, .int .i64 s.e.n, .string s.e.name, .slice ae le ce, .slice a1 l1 cap1, .slice a2 l2 cap2] 119))
  go_enter Tryz.func299, Tryz.ntmps299
  go_wp2_with fail
  refine (exprDepth_any m _ _ _ _ _ s.e (HS.out.below HB0.out).2.2.1 w1).mono ?_
  rintro e w5 ⟨rfl, hb5⟩
  replace q0 := cellUp q0 hb5
  replace q6 := cellUp q6 hb5
  replace q7 := cellUp q7 hb5
  have HN := hide (up HB0.out hb5)
  clear hb5 HB0
  have HSA := hide (HS.out.below HN.out).2.2.2.1
  have HSB := hide (HS.out.below HN.out).2.2.2.2
  generalize Lat.exD m s.e = de at *
  by_cases hk : s.kind = 2 ∨ s.kind = 3
  · rw [if_pos hk] at HE
    have HF : Hid (∀ wx, Hid (Below w5.heap.size w5 wx) → Hid (Below w5.heap.size w5 wx) ∧ wx.cell? ⟨w.heap.size, 6, none⟩ = some (.slice a1 l1 cap1) ∧ wx.cell? ⟨w.heap.size, 7, none⟩ = some (.slice a2 l2 cap2)) :=
      fun wx h => ⟨h, cellUp q6 h.out, cellUp q7 h.out⟩
    have H00 : Hid (Below w5.heap.size w5 w5) := hide (Below.refl _ _)
    generalize hda : Lat.bdD m s.a = da at *
    have HDA := hide hda
    clear hda
    generalize hdb : Lat.bdD m s.b = db at *
    have HDB := hide hdb
    clear hdb q6 q7
    have WA : Hid (IntKind.i64.wrap (1 + (da : Int)) = 1 + (da : Int)) := hide (wrap_small (by omega) (by omega))
    have WB : Hid (IntKind.i64.wrap (1 + (db : Int)) = 1 + (db : Int)) := hide (wrap_small (by omega) (by omega))
    rcases hk with hk | hk
    all_goals
      rw [hk] at q0
      go_wp2_with fail
      go_region_held3 (fun wx => Hid (Below w5.heap.size w5 wx) ∧ wx.cell? ⟨w.heap.size, 6, none⟩ = some (.slice a1 l1 cap1) ∧ wx.cell? ⟨w.heap.size, 7, none⟩ = some (.slice a2 l2 cap2))
        (first | exact HF.out _ HW31 | exact HF.out _ HW30 | exact HF.out _ (hide H00.out.drew))
        (first
          | (go_at_call_of 244 (a1); refine (HI.out _ _ s.a ?_ w2).mono ?_; (exact HSA.out.below H00.out.drew); rintro e w30 ⟨rfl, hb30⟩; have HW30 := hide (up H00.out.drew hb30); clear hb30; rw [HDA.out])
          | (go_at_call_of 244 (a2); refine (HI.out _ _ s.b ?_ w3).mono ?_; (exact HSB.out.below HW30.out); rintro e w31 ⟨rfl, hb31⟩; have HW31 := hide (up HW30.out hb31); clear hb31; rw [HDB.out]))
      all_goals
        go_wp2
      all_goals
        go_ret
        exact ⟨ret_int (by rw [HE.out]; simp only [WA.out, WB.out] at *; omega), up HN.out HW31.out⟩
  · rw [if_neg hk] at HE
    have k2 : (s.kind == 2) = false := by simp; omega
    have k3 : (s.kind == 3) = false := by simp; omega
    clear hk q6 q7
    go_wp2
    go_ret
    exact ⟨ret_int (by rw [HE.out]; go_num), HN.out⟩
set_option maxHeartbeats 2000000 in
set_option maxRecDepth 100000 in
theorem commandsDepth_any (m : Nat) : ∀ (w : World) (v : Value) (l : List St), StsAt w m v l → stsW m l ≤ 1048576 →
    Calls Tryz.prog 244 #[v] w fun e w' => e = .returned (.int .i64 (Lat.bdD m l)) ∧ Below w.heap.size w w' := by
  induction m with
  | zero => intro w v l h; exact False.elim h
  | succ m ih =>
    intro w v l h hw
    have HI := hide (commandDepth_of m ih)
    clear ih
    obtain ⟨a, b, off, cap, rfl, ha, hl, hel⟩ := h
    have HE := hide (Lat.bdD_succ m l)
    have HM : Hid (Lat.maxN (Lat.stD m) l ≤ 1048576) := hide (by rw [← Lat.bdD_succ]; exact Nat.le_trans (bdD_le _ _) hw)
    have HW : Hid (∀ (i : Nat) (y : St), l[i]? = some y → y.name.size + 3 + exW m y.e + stsW m y.a + stsW m y.b ≤ 1048576) := hide (fun i y hy => by
      have : y.name.size + 3 + exW m y.e + stsW m y.a + stsW m y.b ≤ (l.map fun s : St => s.name.size + 3 + exW m s.e + stsW m s.a + stsW m s.b).sum := mem_le_sum (f := fun s : St => s.name.size + 3 + exW m s.e + stsW m s.a + stsW m s.b) (List.mem_of_getElem? hy)
      simp only [stsW] at hw; omega)
    have HEL := hide hel
    have HA := hide ha
    clear hel ha hw
    obtain ⟨len, hlen⟩ : ∃ len, len = l.length := ⟨_, rfl⟩
    have HL := hide hlen
    rw [← hlen] at hl HA ⊢
    clear hlen
    go_enter Tryz.func244, Tryz.ntmps244
    go_wp2
    go_loopw [3, 8] (fun o i wr => ∃ j : Nat, j ≤ len ∧ i = .int .i64 j ∧ o = .int .i64 (Lat.maxN (Lat.stD m) (l.take j)) ∧ Below w.heap.size w wr) (fun _ i _ => len - (intOf i).toNat)
    case atStart => exact ⟨0, Nat.zero_le _, rfl, rfl, Below.refl _ _⟩
    case round =>
      obtain ⟨j, hj, rfl, rfl, hnx⟩ := hrel
      have hacc := Nat.le_trans (maxN_take_le (f := Lat.stD m) l j) HM.out
      by_cases hjl : j < len
      · obtain ⟨y, hy⟩ : ∃ y, l[j]? = some y := ⟨_, List.getElem?_eq_getElem (by rw [← HL.out]; exact hjl)⟩
        obtain ⟨k1, k2, e0, e1, e2, e3, va, vb, g0, g1, g2, g3, g4, g5, g6, g7, hx, hsa, hsb⟩ := HEL.out j y hy
        have HST := hide (maxN_take (f := Lat.stD m) hy)
        have hyw := HW.out j y hy
        obtain rfl := HA.out (by omega)
        have u0 := cellUp g0 hnx
        have u1 := cellUp g1 hnx
        have u2' := cellUp g2 hnx
        have u3' := cellUp g3 hnx
        have u4 := cellUp g4 hnx
        have u5 := cellUp g5 hnx
        have u6 := cellUp g6 hnx
        have u7 := cellUp g7 hnx
        have HAT : Hid (StAt wr m e0 e1 e2 e3 va vb y) := hide ⟨k1, k2, hx.below hnx, hsa.below hnx, hsb.below hnx⟩
        obtain ⟨ae, ce, rfl, rfl, rfl, rfl⟩ := hx.shape
        obtain ⟨a1, cap1, rfl, hl1⟩ := hsa.shape
        obtain ⟨a2, cap2, rfl, hl2⟩ := hsb.shape
        have HNX := hide hnx
        clear g0 g1 g2 g3 g4 g5 g6 g7 hx hsa hsb hy hnx
        go_wp2_with fail
        refine (HI.out _ _ _ _ _ _ _ y (HAT.out.below (boxBelow _ _)) hyw).mono ?_
        rintro e w5 ⟨rfl, hb5⟩
        have HN5 := hide (up HNX.out (up1 hb5))
        clear hb5 HNX
        generalize Lat.stD m y = dy at *
        generalize Lat.maxN (Lat.stD m) (l.take j) = acc at *
        go_wp2_with fail
        go_roundw
        case rel => exact ⟨j + 1, by omega, by go_num, val_imax HST.out, HN5.out⟩
        case measure => simp [intOf]; omega
      · have e : l.take j = l := List.take_of_length_le (by have := HL.out; omega)
        rw [e] at hacc ⊢
        clear e
        generalize Lat.maxN (Lat.stD m) l = acc at *
        go_wp2
        go_ret
        exact ⟨ret_int (by rw [HE.out]), hnx⟩
def FuAt (w : World) (m : Nat) (vp vb e0 e1 e2 e3 : Value) (f : Fu) : Prop :=
  f.name.size ≤ maxLen ∧ Strs w vp f.params ∧ StsAt w m vb f.body ∧ ExAt w m e0 e1 e2 e3 f.result
theorem FuAt.below {w w' : World} {m : Nat} {vp vb e0 e1 e2 e3 : Value} {f : Fu} (h : FuAt w m vp vb e0 e1 e2 e3 f) (hb : Below w.heap.size w w') : FuAt w' m vp vb e0 e1 e2 e3 f :=
  ⟨h.1, h.2.1.below hb, h.2.2.1.below hb, h.2.2.2.below hb⟩
theorem Strs.shape {w : World} {v : Value} {l : List ByteArray} (h : Strs w v l) : ∃ a cap, v = .slice a l.length cap ∧ l.length ≤ 9223372036854775807 := by
  obtain ⟨a, b, off, cap, h1, _, h2, _⟩ := h
  exact ⟨a, cap, h1, h2⟩
section
variable (w : World) (c0 c1 c2 c3 c4 c5 c6 : Value) (t : TypeId)
theorem box7_0 : (w.alloc (.cells #[c0, c1, c2, c3, c4, c5, c6] t)).cell? ⟨w.heap.size, 0, none⟩ = some c0 := by simp [go_sem]
theorem box7_1 : (w.alloc (.cells #[c0, c1, c2, c3, c4, c5, c6] t)).cell? ⟨w.heap.size, 1, none⟩ = some c1 := by simp [go_sem]
theorem box7_2 : (w.alloc (.cells #[c0, c1, c2, c3, c4, c5, c6] t)).cell? ⟨w.heap.size, 2, none⟩ = some c2 := by simp [go_sem]
theorem box7_3 : (w.alloc (.cells #[c0, c1, c2, c3, c4, c5, c6] t)).cell? ⟨w.heap.size, 3, none⟩ = some c3 := by simp [go_sem]
theorem box7_4 : (w.alloc (.cells #[c0, c1, c2, c3, c4, c5, c6] t)).cell? ⟨w.heap.size, 3 + 1, none⟩ = some c4 := by simp [go_sem]
theorem box7_5 : (w.alloc (.cells #[c0, c1, c2, c3, c4, c5, c6] t)).cell? ⟨w.heap.size, 3 + 2, none⟩ = some c5 := by simp [go_sem]
theorem box7_6 : (w.alloc (.cells #[c0, c1, c2, c3, c4, c5, c6] t)).cell? ⟨w.heap.size, 3 + 3, none⟩ = some c6 := by simp [go_sem]
end
set_option maxHeartbeats 2000000 in
set_option maxRecDepth 100000 in
theorem funDepth_any (m : Nat) (w : World) (vp vb e0 e1 e2 e3 : Value) (f : Fu) (h : FuAt w m vp vb e0 e1 e2 e3 f) (hw : stsW m f.body + exW m f.result ≤ 1048576) :
    Calls Tryz.prog 180 #[.agg #[.string f.name, vp, vb, e0, e1, e2, e3]] w fun e w' => e = .returned (.int .i64 (Lat.fuD m f)) ∧ Below w.heap.size w w' := by
  have HS := hide h
  obtain ⟨hnm, hp, hsb, hx⟩ := h
  obtain ⟨ae, ce, rfl, rfl, rfl, rfl⟩ := hx.shape
  obtain ⟨a1, cap1, rfl, hl1⟩ := hsb.shape
  obtain ⟨a2, cap2, rfl, hl2⟩ := hp.shape
  clear hx hsb hp
  have HE : Hid (Lat.fuD m f = 1 + max (max 1 (Lat.bdD m f.body)) (Lat.exD m f.result)) := rfl
  have w1 : exW m f.result ≤ 1048576 := by omega
  have w2 : stsW m f.body ≤ 1048576 := by omega
  have d1 := Nat.le_trans (exD_le m f.result) w1
  have d2 := Nat.le_trans (bdD_le m f.body) w2
  clear hw
  generalize f.result.args.length = le at *
  generalize f.body.length = l1 at *
  generalize f.params.length = l2 at *
  have q2 := box7_2 w (.string f.name) (.slice a2 l2 cap2) (.slice a1 l1 cap1) (.int .i64 f.result.kind) (.int .i64 f.result.n) (.string f.result.name) (.slice ae le ce) 106
  have q3 := box7_3 w (.string f.name) (.slice a2 l2 cap2) (.slice a1 l1 cap1) (.int .i64 f.result.kind) (.int .i64 f.result.n) (.string f.result.name) (.slice ae le ce) 106
  have q4 := box7_4 w (.string f.name) (.slice a2 l2 cap2) (.slice a1 l1 cap1) (.int .i64 f.result.kind) (.int .i64 f.result.n) (.string f.result.name) (.slice ae le ce) 106
  have q5 := box7_5 w (.string f.name) (.slice a2 l2 cap2) (.slice a1 l1 cap1) (.int .i64 f.result.kind) (.int .i64 f.result.n) (.string f.result.name) (.slice ae le ce) 106
  have q6 := box7_6 w (.string f.name) (.slice a2 l2 cap2) (.slice a1 l1 cap1) (.int .i64 f.result.kind) (.int .i64 f.result.n) (.string f.result.name) (.slice ae le ce) 106
  have HB0 := hide (boxBelow w (.cells #[.string f.name, .slice a2 l2 cap2, .slice a1 l1 cap1, .int .i64 f.result.kind, .int .i64 f.result.n, .string f.result.name, .slice ae le ce] 106))
  go_enter Tryz.func180, Tryz.ntmps180
  go_wp2_with fail
  generalize (w.alloc (.cells #[.string f.name, .slice a2 l2 cap2, .slice a1 l1 cap1, .int .i64 f.result.kind, .int .i64 f.result.n, .string f.result.name, .slice ae le ce] 106)) = w5 at *
  have HSB := hide (HS.out.below HB0.out).2.2.1
  have HX := hide (HS.out.below HB0.out).2.2.2
  have HF : Hid (∀ wx, Hid (Below w5.heap.size w5 wx) → Hid (Below w5.heap.size w5 wx) ∧ wx.cell? ⟨w.heap.size, 2, none⟩ = some (.slice a1 l1 cap1) ∧ wx.cell? ⟨w.heap.size, 3, none⟩ = some (.int .i64 f.result.kind) ∧
      wx.cell? ⟨w.heap.size, 3 + 1, none⟩ = some (.int .i64 f.result.n) ∧ wx.cell? ⟨w.heap.size, 3 + 2, none⟩ = some (.string f.result.name) ∧ wx.cell? ⟨w.heap.size, 3 + 3, none⟩ = some (.slice ae le ce)) :=
    fun wx h => ⟨h, cellUp q2 h.out, cellUp q3 h.out, cellUp q4 h.out, cellUp q5 h.out, cellUp q6 h.out⟩
  have H00 : Hid (Below w5.heap.size w5 w5) := hide (Below.refl _ _)
  generalize hda : Lat.bdD m f.body = da at *
  have HDA := hide hda
  clear hda
  generalize hdb : Lat.exD m f.result = db at *
  have HDB := hide hdb
  clear hdb q2 q3 q4 q5 q6
  have WA : Hid (IntKind.i64.wrap (1 + (da : Int)) = 1 + (da : Int)) := hide (wrap_small (by omega) (by omega))
  have WB : Hid (IntKind.i64.wrap (1 + (db : Int)) = 1 + (db : Int)) := hide (wrap_small (by omega) (by omega))
  have W2 : Hid (IntKind.i64.wrap 2 = 2) := hide (wrap_small (by omega) (by omega))
  go_region_held3 (fun wx => Hid (Below w5.heap.size w5 wx) ∧ wx.cell? ⟨w.heap.size, 2, none⟩ = some (.slice a1 l1 cap1) ∧ wx.cell? ⟨w.heap.size, 3, none⟩ = some (.int .i64 f.result.kind) ∧
      wx.cell? ⟨w.heap.size, 3 + 1, none⟩ = some (.int .i64 f.result.n) ∧ wx.cell? ⟨w.heap.size, 3 + 2, none⟩ = some (.string f.result.name) ∧ wx.cell? ⟨w.heap.size, 3 + 3, none⟩ = some (.slice ae le ce))
    (first | exact HF.out _ HW31 | exact HF.out _ HW30 | exact HF.out _ (hide H00.out.drew))
    (first
      | (go_at_call 244; refine (commandsDepth_any m _ _ f.body ?_ w2).mono ?_; (exact HSB.out.below H00.out.drew); rintro e w30 ⟨rfl, hb30⟩; have HW30 := hide (up H00.out.drew hb30); clear hb30; rw [HDA.out])
      | (go_at_call 245; refine (exprDepth_any m _ _ _ _ _ f.result ?_ w1).mono ?_; (exact HX.out.below HW30.out); rintro e w31 ⟨rfl, hb31⟩; have HW31 := hide (up HW30.out hb31); clear hb31; rw [HDB.out]))
  all_goals
    go_wp2
  all_goals
    go_ret
    exact ⟨ret_int (by rw [HE.out]; (try simp only [WA.out, WB.out, W2.out]); omega), up HB0.out HW31.out⟩
theorem fuD_le (m : Nat) (f : Fu) : Lat.fuD m f ≤ 2 + stsW m f.body + exW m f.result := by
  have h1 := bdD_le m f.body
  have h2 := exD_le m f.result
  unfold Lat.fuD; omega
set_option maxHeartbeats 2000000 in
set_option maxRecDepth 100000 in
theorem moduleDepth_any (m : Nat) (w : World) (v : Value) (x : Mo) (h : MoAt w m v x) (hw : moW m x ≤ 1048576) :
    Calls Tryz.prog 109 #[v] w fun e w' => e = .returned (.int .i64 (Lat.moD m x)) ∧ Below w.heap.size w w' := by
  have HE : Hid (Lat.moD m x = 1 + max 1 (Lat.maxN (Lat.fuD m) x.funs)) := rfl
  obtain ⟨vi, vv, vf, rfl, hnm, hI, hV, hF⟩ := h
  have hwm : x.name.size + 2 + strsW x.imports + vasW x.vars + fusW m x.funs ≤ 1048576 := hw
  obtain ⟨ai, ci, rfl, hli⟩ := hI.shape
  obtain ⟨av, bv, ov, cv, rfl, _, hlv, _⟩ := hV
  obtain ⟨a, b, off, cap, rfl, ha, hl, hel⟩ := hF
  clear hI
  generalize hfs : x.funs = l at *
  have HW : Hid (∀ (i : Nat) (y : Fu), l[i]? = some y → stsW m y.body + exW m y.result + 2 ≤ 1048576) := hide (fun i y hy => by
    have : y.name.size + 2 + strsW y.params + stsW m y.body + exW m y.result ≤ (l.map fun s : Fu => s.name.size + 2 + strsW s.params + stsW m s.body + exW m s.result).sum := mem_le_sum (f := fun s : Fu => s.name.size + 2 + strsW s.params + stsW m s.body + exW m s.result) (List.mem_of_getElem? hy)
    unfold fusW at hwm; omega)
  have HM : Hid (Lat.maxN (Lat.fuD m) l ≤ 1048576) := hide (maxN_le (fun y hy => by
    obtain ⟨i, hi, rfl⟩ := List.mem_iff_getElem.1 hy
    have h1 := HW.out i _ (List.getElem?_eq_getElem hi)
    have h2 := fuD_le m l[i]
    omega))
  have HEL := hide hel
  have HA := hide ha
  clear hel ha hw hwm
  obtain ⟨len, hlen⟩ : ∃ len, len = l.length := ⟨_, rfl⟩
  have HL := hide hlen
  rw [← hlen] at hl HA ⊢
  clear hlen
  generalize x.imports.length = li at *
  generalize x.vars.length = lv at *
  have q3 := boxCells4 w (.string x.name) (.slice ai li ci) (.slice av lv cv) (.slice a len cap) 26
  have HB0 := hide (boxBelow w (.cells #[.string x.name, .slice ai li ci, .slice av lv cv, .slice a len cap] 26))
  go_enter Tryz.func109, Tryz.ntmps109
  go_wp2_with fail
  generalize (w.alloc (.cells #[.string x.name, .slice ai li ci, .slice av lv cv, .slice a len cap] 26)) = W0 at *
  go_loopw [3, 9] (fun o i wr => ∃ j : Nat, j ≤ len ∧ i = .int .i64 j ∧ (∃ c : Nat, c = max 1 (Lat.maxN (Lat.fuD m) (l.take j)) ∧ o = .int .i64 c) ∧ Below W0.heap.size W0 wr) (fun _ i _ => len - (intOf i).toNat)
  case atStart => exact ⟨0, Nat.zero_le _, rfl, ⟨1, rfl, rfl⟩, Below.refl _ _⟩
  case round =>
    obtain ⟨j, hj, rfl, ⟨acc, hac, rfl⟩, hnx⟩ := hrel
    have hacc : acc ≤ 1048576 := by
      have := Nat.le_trans (maxN_take_le (f := Lat.fuD m) l j) HM.out
      omega
    have HAC := hide hac
    clear hac
    by_cases hjl : j < len
    · obtain ⟨y, hy⟩ : ∃ y, l[j]? = some y := ⟨_, List.getElem?_eq_getElem (by rw [← HL.out]; exact hjl)⟩
      obtain ⟨k1, vp, vb, e0, e1, e2, e3, g0, g1, g2, g3, g4, g5, g6, hp, hsb, hx⟩ := HEL.out j y hy
      have HST := hide (maxN_take (f := Lat.fuD m) hy)
      have hyw : stsW m y.body + exW m y.result ≤ 1048576 := by have := HW.out j y hy; omega
      obtain rfl := HA.out (by omega)
      have hbb := up HB0.out hnx
      have u0 := cellUp g0 hbb
      have u1 := cellUp g1 hbb
      have u2' := cellUp g2 hbb
      have u3' := cellUp g3 hbb
      have u4 := cellUp g4 hbb
      have u5 := cellUp g5 hbb
      have u6 := cellUp g6 hbb
      have HAT : Hid (FuAt wr m vp vb e0 e1 e2 e3 y) := hide ⟨k1, hp.below hbb, hsb.below hbb, hx.below hbb⟩
      obtain ⟨ae, ce, rfl, rfl, rfl, rfl⟩ := hx.shape
      obtain ⟨a1, cap1, rfl, hl1⟩ := hsb.shape
      obtain ⟨a2, cap2, rfl, hl2⟩ := hp.shape
      have HNX := hide hnx
      clear g0 g1 g2 g3 g4 g5 g6 hx hsb hp hy hnx hbb
      go_wp2_with fail
      refine (funDepth_any m _ _ _ _ _ _ _ y (HAT.out.below (boxBelow _ _)) hyw).mono ?_
      rintro e w5 ⟨rfl, hb5⟩
      have HN5 := hide (up HNX.out (up1 hb5))
      clear hb5 HNX
      generalize Lat.fuD m y = dy at *
      go_wp2_with fail
      go_roundw
      case rel => exact ⟨j + 1, by omega, by go_num, ⟨max acc dy, by rw [HST.out, HAC.out]; omega, val_imax rfl⟩, HN5.out⟩
      case measure => simp [intOf]; omega
    · have e : l.take j = l := List.take_of_length_le (by have := HL.out; omega)
      rw [e] at HAC
      clear e
      go_wp2
      go_ret
      exact ⟨ret_int (by rw [HE.out, ← HAC.out]; go_num), up HB0.out hnx⟩
end Go.Proofs.YtholefgckcoklaaGreatDoor
