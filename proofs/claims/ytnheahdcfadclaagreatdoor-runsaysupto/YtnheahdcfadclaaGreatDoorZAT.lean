/- Walks over package tree: funTexts. -/
import Derived.Test.YtnheahdcfadclaaGreatDoorZAS
import Derived.Deep.AppendLies
namespace Go.Proofs.YtnheahdcfadclaaGreatDoor
open Go.RowKit

namespace Lat
def fuX (m : Nat) (f : Fu) : ByteArray := brk [[⟨#[102, 117, 110]⟩, f.name, brk f.params], txs m f.body, [exT m f.result]].flatten
end Lat

theorem par_jn (l : List ByteArray) (acc : ByteArray) : ∀ j, j ≤ l.length → Lat.parTo l acc j = acc ++ Lat.jn (l.take j)
  | 0, _ => by
    apply bytes_ext
    rw [app_list, jn_list]; simp [Lat.parTo, Lib.join_nil]
  | j + 1, hj => by
    obtain ⟨y, hy⟩ : ∃ y, l[j]? = some y := ⟨_, List.getElem?_eq_getElem (by omega)⟩
    have e1 : l.take (j + 1) = l.take j ++ [y] := by
      have := map_take (f := id) hy
      simpa using this
    have e2 : l.getD j ByteArray.empty = y := by rw [List.getD, hy]; rfl
    have e3 : (l.take j).length = j := by rw [List.length_take]; omega
    rw [parTo_succ, par_jn l acc j (by omega), e1, e2, jn_snoc, e3]
    apply bytes_ext
    by_cases h : 0 < j
    · rw [if_pos h, if_pos h]; simp only [app_list, List.append_assoc]
    · rw [if_neg h, if_neg h]; simp only [app_list, List.append_assoc]

theorem tail_jn {l : List ByteArray} (h : l ≠ []) : Lib.joinTail [32] (l.map (·.data.toList)) = 32 :: (Lat.jn l).data.toList := by
  cases l with
  | nil => exact absurd rfl h
  | cons y l =>
    rw [jn_list, List.map_cons, Lib.join_cons]
    simp [Lib.joinTail]
theorem tail_cons (x : List UInt8) (r : List (List UInt8)) : Lib.joinTail [32] (x :: r) = 32 :: (x ++ Lib.joinTail [32] r) := by simp [Lib.joinTail]
theorem txs_nil {m : Nat} (hm : m ≠ 0) (l : List St) : Lat.txs m l = [] ↔ l = [] := by
  cases m with
  | zero => exact absurd rfl hm
  | succ m => simp [Lat.txs]

theorem fuT_eq {m : Nat} (hm : m ≠ 0) (acc : ByteArray) (f : Fu) : (Lat.fuT m acc f).data.toList = acc.data.toList ++ 32 :: (Lat.fuX m f).data.toList := by
  unfold Lat.fuT Lat.fuB Lat.fuP Lat.fuH Lat.fuX
  rw [par_jn _ _ _ (Nat.le_refl _), List.take_length, brk_list]
  by_cases h : 0 < f.body.length
  · have hne : Lat.txs m f.body ≠ [] := by
      rw [ne_eq, txs_nil hm]; intro e; rw [e] at h; simp at h
    rw [if_pos h, bdT_jn]
    have hfl : [[(⟨#[102, 117, 110]⟩ : ByteArray), f.name, Lat.brk f.params], Lat.txs m f.body, [Lat.exT m f.result]].flatten = ⟨#[102, 117, 110]⟩ :: f.name :: Lat.brk f.params :: (Lat.txs m f.body ++ [Lat.exT m f.result]) := by simp
    rw [hfl, List.map_cons, Lib.join_cons, List.map_cons, tail_cons, List.map_cons, tail_cons, List.map_append, joinTail_app, tail_jn hne, List.map_cons, tail_cons, List.map_nil, brk_list, jn_list]
    simp [jn_list, Lib.joinTail]
  · have he : f.body = [] := List.length_eq_zero_iff.1 (by omega)
    have hne : Lat.txs m f.body = [] := (txs_nil hm _).2 he
    rw [if_neg h, hne]
    simp [Lib.join_cons, Lib.joinTail, brk_list, jn_list]

theorem fuX_size {w : World} {m : Nat} {vp vb e0 e1 e2 e3 : Value} {f : Fu} (h : FuAt w m vp vb e0 e1 e2 e3 f) (hw : fuW m f ≤ 1048576) : (Lat.fuX m f).size ≤ 12582912 := by
  have hm : m ≠ 0 := by
    rintro rfl
    exact h.2.2.1
  have h1 := fuT_size h.2.2.1 h.2.2.2 ⟨#[]⟩
  have h2 := congrArg List.length (fuT_eq hm ⟨#[]⟩ f)
  rw [List.length_append, List.length_cons, size_list, size_list, size_list] at h2
  have e : (⟨#[]⟩ : ByteArray).size = 0 := rfl
  omega
theorem par_size {f : Fu} {m : Nat} (hw : fuW m f ≤ 1048576) : (Lat.brk f.params).size ≤ 1048580 := by
  have h1 := parTo_all f.params ⟨#[]⟩ f.params.length (Nat.le_refl _)
  rw [par_jn _ _ _ (Nat.le_refl _), List.take_length, ByteArray.size_append] at h1
  have e : (⟨#[]⟩ : ByteArray).size = 0 := rfl
  unfold fuW strsW at hw
  rw [brk_size]; omega

theorem step_append_one {w : World} {ops : Array Oper} {o : Oper} {a : Act} {K : Act → World → Prop} {Q : Exit → Act → World → Prop} {E : Prop} (hgd : o.guard = none) (s x : Operand)
    (ho : o.op = .call { callee := .builtin .append, args := #[s, x], argTypes := #[22, 22] })
    (base : Nat) (v : Value) (l : List ByteArray) (hs : a.eval s = v) (hown : Own w base v l) (B : Nat) (t : ByteArray) (hx : a.eval x = .slice (some ⟨B, 0, none⟩) 1 1)
    (hc : w.cell? ⟨B, 0, none⟩ = some (.string t)) (hl : l.length ≤ 1048576) (hbase : base ≤ w.heap.size)
    (h : ∀ g cap w', Own w' base (.slice (some ⟨g, 0, none⟩) (l.length + 1) cap) (l ++ [t]) → w.grownBy w' v.ownBlock → K (a.put o.dst (.slice (some ⟨g, 0, none⟩) (l.length + 1) cap)) w') :
    if Region.wanted o (yielded ops a.tmps) = true then Oper.wp Tryz.prog o a w K Q else E := by
  obtain ⟨iS, hiS, hz0, hz1, hz2⟩ := info_parts infoStr
  have hown' : w.ownsRow base 9 1 v l.length (l.map Value.string) := hown
  refine step_append_lies w hgd s x 22 ho base 9 iS (.string ⟨#[]⟩) 1 16 Tryz.underlying22 hiS hz0 hz1 hz2 rfl (by decide) v l.length (l.map Value.string) hs hown' ⟨B, 0, none⟩ 1 1 [.string t] hx rfl (fun j u hu => ?_) (fun u hu => ?_) (by decide) (by unfold maxLen; omega) (by omega) hbase w.heap.size rfl ?_
  · cases j with
    | zero =>
      simp at hu
      subst hu
      rw [Addr.add_lit]; exact hc
    | succ j => simp at hu
  · simp at hu
    subst hu
    rfl
  · intro g cap w' h1 h2 _ _
    refine h g cap w' ?_ h2
    unfold Own
    rw [List.length_append, List.map_append]
    exact h1

theorem keep_app {w wr Wc w2 : World} {o : Value} {l : List ByteArray} (hO : Own wr w.heap.size o l) (hB : Below w.heap.size w Wc) (hlt : wr.heap.size < Wc.heap.size) (hg : Wc.grownBy w2 o.ownBlock) :
    Below w.heap.size w w2 ∧ ∀ k, w2.cell? ⟨wr.heap.size, k, none⟩ = Wc.cell? ⟨wr.heap.size, k, none⟩ := by
  refine ⟨hB.grown hg hB.size (fun j hj => (hO.lt j hj).1), fun k => hg.cell_far _ hlt (fun e => ?_)⟩
  have := (hO.lt wr.heap.size e.symm).2
  omega
theorem app_step {w wr W1 Wc w2 : World} {o : Value} {l : List ByteArray} {c2 c3 c4 c5 c6 : Value} (hO : Own wr w.heap.size o l) (h1 : Hid (Below W1.heap.size W1 Wc)) (hz : wr.heap.size < W1.heap.size) (hg : Wc.grownBy w2 o.ownBlock)
    (hF : ∀ wx, Hid (Below W1.heap.size W1 wx) → Hid (Below w.heap.size w wx) ∧ wx.cell? ⟨wr.heap.size, 2, none⟩ = some c2 ∧ wx.cell? ⟨wr.heap.size, 3, none⟩ = some c3 ∧ wx.cell? ⟨wr.heap.size, 3 + 1, none⟩ = some c4 ∧ wx.cell? ⟨wr.heap.size, 3 + 2, none⟩ = some c5 ∧ wx.cell? ⟨wr.heap.size, 3 + 3, none⟩ = some c6) :
    Hid (Below w.heap.size w w2) ∧ w2.cell? ⟨wr.heap.size, 2, none⟩ = some c2 ∧ w2.cell? ⟨wr.heap.size, 3, none⟩ = some c3 ∧ w2.cell? ⟨wr.heap.size, 3 + 1, none⟩ = some c4 ∧ w2.cell? ⟨wr.heap.size, 3 + 2, none⟩ = some c5 ∧ w2.cell? ⟨wr.heap.size, 3 + 3, none⟩ = some c6 := by
  obtain ⟨f1, f2, f3, f4, f5, f6⟩ := hF Wc h1
  obtain ⟨k1, k2⟩ := keep_app hO f1.out (by have := h1.out.size; omega) hg
  exact ⟨hide k1, by rw [k2]; exact f2, by rw [k2]; exact f3, by rw [k2]; exact f4, by rw [k2]; exact f5, by rw [k2]; exact f6⟩
theorem cell_lit (w : World) (t : ByteArray) (ty : TypeId) : (w.alloc (.cells #[.string t] ty)).cell? ⟨w.heap.size, 0, none⟩ = some (.string t) := by simp [go_sem]

end Go.Proofs.YtnheahdcfadclaaGreatDoor

/- What the document answers of a module, as plain data. -/
namespace Go.Proofs.YtnheahdcfadclaaGreatDoor
open Go.RowKit

/-- A flag behind k things: it was b, and each of them holds. -/
def allTo {α : Type} (b : Bool) (p : α → Bool) (l : List α) (k : Nat) : Bool := b && (l.take k).all p
theorem allTo_zero {α : Type} (b : Bool) (p : α → Bool) (l : List α) : allTo b p l 0 = b := by simp [allTo]
theorem allTo_succ {α : Type} {b : Bool} {p : α → Bool} {l : List α} {k : Nat} {y : α} (h : l[k]? = some y) : allTo b p l (k + 1) = (allTo b p l k && p y) := by
  obtain ⟨hj, rfl⟩ := List.getElem?_eq_some_iff.1 h
  unfold allTo
  rw [List.take_succ_eq_append_getElem hj, List.all_append]
  simp [Bool.and_assoc]
theorem allTo_all {α : Type} {b : Bool} {p : α → Bool} {l : List α} {n k : Nat} (h : n = l.length) (e : k = n) : allTo b p l k = (b && l.all p) := by
  unfold allTo; rw [List.take_of_length_le (by omega)]

namespace Lat
def strB (s : ByteArray) : Bool := nameB s.data.toList
def vaB (v : Va) : Bool := strB v.name && strB v.level
def fuOk (m : Nat) (f : Fu) : Bool := strB f.name && bodyB m f.body && exprB m f.result && f.params.all strB
def fuE (m : Nat) (f : Fu) : Int := if 4 < f.params.length then 2 else if fuOk m f then 0 else 5
/-- The first function that may not be tells. -/
def fusE (m : Nat) : List Fu → Int
  | [] => 0
  | f :: l => if fuE m f = 0 then fusE m l else fuE m f
def step (b : UInt8) : Int := if b = 40 then 1 else if b = 41 then -1 else 0
/-- How many brackets are open behind the first j bytes. -/
def openTo (t : ByteArray) : Nat → Int
  | 0 => 0
  | j + 1 => openTo t j + step (t.data.getD j 0)
def deepB (t : ByteArray) : Bool := (List.range t.size).any fun j => decide (20 < openTo t (j + 1))
/-- What is told of a module. -/
def moE (m : Nat) (x : Mo) : Int :=
  if 8 < x.imports.length ∨ 8 < x.vars.length ∨ 8 < x.funs.length then 2
  else if ((strB x.name && x.imports.all strB) && x.vars.all vaB) = false then 5
  else if fusE m x.funs ≠ 0 then fusE m x.funs
  else if deepB (moT m x) then 2 else 0
end Lat

theorem fusE_at {m : Nat} : ∀ {l : List Fu} {k : Nat} {y : Fu}, (∀ (d : Nat) (z : Fu), d < k → l[d]? = some z → Lat.fuE m z = 0) → l[k]? = some y → Lat.fuE m y ≠ 0 → Lat.fusE m l = Lat.fuE m y
  | [], k, y, _, h, _ => by simp at h
  | f :: l, 0, y, _, h, h0 => by
    simp only [List.getElem?_cons_zero, Option.some.injEq] at h
    subst h
    simp only [Lat.fusE]; rw [if_neg h0]
  | f :: l, k + 1, y, ha, h, h0 => by
    have := ha 0 f (by omega) rfl
    simp only [Lat.fusE]; rw [if_pos this]
    exact fusE_at (k := k) (fun d z hd hz => ha (d + 1) z (by omega) (by simpa using hz)) (by simpa using h) h0
theorem fusE_zero {m : Nat} : ∀ {l : List Fu}, (∀ (d : Nat) (z : Fu), l[d]? = some z → Lat.fuE m z = 0) → Lat.fusE m l = 0
  | [], _ => rfl
  | f :: l, ha => by
    simp only [Lat.fusE]; rw [if_pos (ha 0 f rfl)]
    exact fusE_zero (fun d z hz => ha (d + 1) z (by simpa using hz))

theorem openTo_le (t : ByteArray) : ∀ j : Nat, -(j : Int) ≤ Lat.openTo t j ∧ Lat.openTo t j ≤ j
  | 0 => ⟨Int.le_refl _, Int.le_refl _⟩
  | j + 1 => by
    have := openTo_le t j
    simp only [Lat.openTo, Lat.step]
    split
    · omega
    · split <;> omega
theorem openTo_succ (t : ByteArray) (j : Nat) (h : j < t.size) : Lat.openTo t (j + 1) = Lat.openTo t j + Lat.step t[j] := by
  have e : t.data.getD j 0 = t[j] := by
    have : j < t.data.size := h
    unfold Array.getD; rw [dif_pos this]; rfl
  simp only [Lat.openTo, e]
theorem deepB_at {t : ByteArray} {j : Nat} (hj : j < t.size) (h : 20 < Lat.openTo t (j + 1)) : Lat.deepB t = true :=
  List.any_eq_true.2 ⟨j, List.mem_range.2 hj, decide_eq_true h⟩
theorem deepB_not {t : ByteArray} (h : ∀ j, j < t.size → ¬ 20 < Lat.openTo t (j + 1)) : Lat.deepB t = false := by
  unfold Lat.deepB; rw [List.any_eq_false]; intro j hj; simpa using h j (List.mem_range.1 hj)

theorem moT_size {w : World} {m : Nat} {v : Value} {x : Mo} (h : MoAt w m v x) (hw : moW m x ≤ 1048576) : (Lat.moT m x).size ≤ 12582920 := by
  obtain ⟨vi, vv, vf, rfl, hnm, hI, hV, hF⟩ := h
  have hwm : x.name.size + 2 + strsW x.imports + vasW x.vars + fusW m x.funs ≤ 1048576 := hw
  have h1 := foldg_all (f := Lat.impT) (wt := fun s : ByteArray => s.size + 1) (l := x.imports) (fun i y _ acc => impT_size acc y) (Lat.moH x) x.imports.length (Nat.le_refl _)
  rw [moH_size, List.take_length] at h1
  have h2 := foldg_all (f := Lat.vaT) (wt := fun s : Va => s.name.size + s.level.size + 3) (l := x.vars) (fun i y _ acc => vaT_size acc y) (Lat.moI x) x.vars.length (Nat.le_refl _)
  rw [List.take_length] at h2
  obtain ⟨a, b, off, cap, _, _, _, h9⟩ := hF
  have h3 := foldg_all (f := Lat.fuT m) (wt := fuW m) (l := x.funs) (fun i y hy acc => by
      obtain ⟨_, vp, vb, e0, e1, e2, e3, _, _, _, _, _, _, _, _, hsb, hx⟩ := h9 i y hy
      exact fuT_size hsb hx acc) (Lat.moV x) x.funs.length (Nat.le_refl _)
  rw [List.take_length] at h3
  have e1 : x.imports.foldl Lat.impT (Lat.moH x) = Lat.moI x := rfl
  have e2 : x.vars.foldl Lat.vaT (Lat.moI x) = Lat.moV x := rfl
  have e3 : x.funs.foldl (Lat.fuT m) (Lat.moV x) = Lat.moF m x := rfl
  rw [e1] at h1; rw [e2] at h2; rw [e3] at h3
  unfold Lat.moT
  rw [ByteArray.size_append]
  show _ + 1 ≤ _
  rw [fusW_eq] at hwm
  unfold strsW vasW at hwm
  omega

end Go.Proofs.YtnheahdcfadclaaGreatDoor

/- Walks over package downref: Module answers what the document says of a module. -/
namespace Go.Proofs.YtnheahdcfadclaaGreatDoor
open Go.RowKit

theorem byteEq (a c : UInt8) (n : Int) (h : (c.toNat : Int) = n) : ((a.toNat : Int) == n) = (a == c) := by
  rw [Bool.eq_iff_iff]; simp only [beq_iff_eq]
  constructor
  · intro e; exact UInt8.toNat_inj.1 (by omega)
  · intro e; subst e; exact h
theorem step3 (c : UInt8) : (((c.toNat : Int) == 40) = true ∧ ((c.toNat : Int) == 41) = false ∧ Lat.step c = 1) ∨ (((c.toNat : Int) == 40) = false ∧ ((c.toNat : Int) == 41) = true ∧ Lat.step c = -1) ∨
    (((c.toNat : Int) == 40) = false ∧ ((c.toNat : Int) == 41) = false ∧ Lat.step c = 0) := by
  rw [byteEq c 40 40 rfl, byteEq c 41 41 rfl]
  unfold Lat.step
  by_cases h : c = 40
  · subst h; exact Or.inl ⟨rfl, rfl, rfl⟩
  · by_cases h' : c = 41
    · subst h'; exact Or.inr (Or.inl ⟨rfl, rfl, rfl⟩)
    · refine Or.inr (Or.inr ⟨by simp [h], by simp [h'], by simp [h, h']⟩)

set_option maxHeartbeats 8000000 in
set_option maxRecDepth 100000 in
theorem rmodule_any (m : Nat) (w : World) (v : Value) (x : Mo) (h : MoAt w m v x) (hw : moW m x ≤ 1048576) (ht : Tab w) :
    Calls Tryz.prog 36 #[v] w fun e w' => e = .returned (.int .i64 (Lat.moE m x)) ∧ Below w.heap.size w w' := by
  have HM := hide h
  have HMW := hide hw
  have HMS := hide (moT_size h hw)
  obtain ⟨vi, vv, vf, rfl, hnm, hI, hV, hF⟩ := h
  clear hw
  obtain ⟨ai, bi, oi, ci, rfl, hai, hli, hsi, hci⟩ := hI
  obtain ⟨av, bv, ov, cv, rfl, hav, hlv, hcv⟩ := hV
  obtain ⟨af, bf, of, cf, rfl, haf, hlf, hcf⟩ := hF
  have HT := hide ht
  have HE : Hid (Lat.moE m x = if 8 < x.imports.length ∨ 8 < x.vars.length ∨ 8 < x.funs.length then 2
    else if ((Lat.strB x.name && x.imports.all Lat.strB) && x.vars.all Lat.vaB) = false then 5
    else if Lat.fusE m x.funs ≠ 0 then Lat.fusE m x.funs
    else if Lat.deepB (Lat.moT m x) then 2 else 0) := rfl
  generalize Lat.moE m x = XE at *
  obtain ⟨XT, hxt⟩ : ∃ t, t = Lat.moT m x := ⟨_, rfl⟩
  have HXT := hide hxt
  rw [← hxt] at HE HMS
  have hms := HMS.out
  clear hxt HMS
  obtain ⟨xn, xi, xv, xf⟩ := x
  simp only at hnm hai hli hsi hci hav hlv hcv haf hlf hcf HE HM ⊢
  have HSI := hide hsi
  have HAI := hide hai
  have HAV := hide hav
  have HAF := hide haf
  have HCI := hide hci
  have HCV := hide hcv
  have HCF := hide hcf
  obtain ⟨ni, hni⟩ : ∃ n, n = xi.length := ⟨_, rfl⟩
  obtain ⟨nv, hnv⟩ : ∃ n, n = xv.length := ⟨_, rfl⟩
  obtain ⟨nf, hnf⟩ : ∃ n, n = xf.length := ⟨_, rfl⟩
  have HNI := hide hni
  have HNV := hide hnv
  have HNF := hide hnf
  rw [← hni, ← hnv, ← hnf]
  rw [← hni, ← hnv, ← hnf] at HE HM
  rw [← hni] at hli HAI HCI
  rw [← hnv] at hlv HAV
  rw [← hnf] at hlf HAF
  clear hai hav haf hci hcv hcf hni hnv hnf ht hsi
  have q0 := boxM0 w (.string xn) (.slice ai ni ci) (.slice av nv cv) (.slice af nf cf) 26
  have q1 := boxM1 w (.string xn) (.slice ai ni ci) (.slice av nv cv) (.slice af nf cf) 26
  have q2 := boxM2 w (.string xn) (.slice ai ni ci) (.slice av nv cv) (.slice af nf cf) 26
  have q3 := boxM3 w (.string xn) (.slice ai ni ci) (.slice av nv cv) (.slice af nf cf) 26
  have HB0 := hide (boxBelow w (.cells #[.string xn, .slice ai ni ci, .slice av nv cv, .slice af nf cf] 26))
  by_cases h8 : 8 < ni ∨ 8 < nv ∨ 8 < nf
  · rw [if_pos h8] at HE
    by_cases i1 : 8 < ni
    · have i1' : (8 : Int) < (ni : Int) := by omega
      clear h8
      go_enter Tryz.func36, Tryz.ntmps36
      go_wp2_with fail
      go_ret
      exact ⟨ret_int HE.out.symm, HB0.out⟩
    · have i1' : ¬ (8 : Int) < (ni : Int) := by omega
      by_cases i2 : 8 < nv
      · have i2' : (8 : Int) < (nv : Int) := by omega
        clear h8
        go_enter Tryz.func36, Tryz.ntmps36
        go_wp2_with fail
        go_ret
        exact ⟨ret_int HE.out.symm, HB0.out⟩
      · have i2' : ¬ (8 : Int) < (nv : Int) := by omega
        have i3' : (8 : Int) < (nf : Int) := by omega
        clear h8
        go_enter Tryz.func36, Tryz.ntmps36
        go_wp2_with fail
        go_ret
        exact ⟨ret_int HE.out.symm, HB0.out⟩
  rw [if_neg h8] at HE
  have i1' : ¬ (8 : Int) < (ni : Int) := by omega
  have i2' : ¬ (8 : Int) < (nv : Int) := by omega
  have i3' : ¬ (8 : Int) < (nf : Int) := by omega
  clear h8
  go_enter Tryz.func36, Tryz.ntmps36
  go_wp2_with fail
  refine (name_any _ xn hnm).mono ?_
  rintro e w' ⟨rfl, hw'⟩
  subst hw'
  have HS0 := hide (allTo_zero (Lat.strB xn) Lat.strB xi)
  rw [show Lat.nameB xn.data.toList = allTo (Lat.strB xn) Lat.strB xi 0 from HS0.out.symm]
  clear HS0 hnm
  go_wp2_with fail
  generalize w.alloc (.cells #[.string xn, .slice ai ni ci, .slice av nv cv, .slice af nf cf] 26) = W0 at *
  -- the imports
  go_loopw [3, 4] (fun o i wr => ∃ j : Nat, j ≤ ni ∧ i = .int .i64 j ∧ o = .bool (allTo (Lat.strB xn) Lat.strB xi j) ∧ Below W0.heap.size W0 wr) (fun _ i _ => ni - (intOf i).toNat)
  case atStart => exact ⟨0, Nat.zero_le _, rfl, rfl, Below.refl _ _⟩
  case round =>
    obtain ⟨j, hj, rfl, rfl, hnx⟩ := hrel
    have t1 := cellUp q1 hnx
    by_cases hjl : j < ni
    · have hc := cellUp (HCI.out j hjl) (up HB0.out hnx)
      have hgd : xi[j]? = some (xi.getD j ByteArray.empty) := by
        have : j < xi.length := by have := HNI.out; omega
        simp [this]
      have hsz := HSI.out _ (List.mem_of_getElem? hgd)
      have HST := hide (allTo_succ (b := Lat.strB xn) (p := Lat.strB) hgd)
      obtain rfl := HAI.out (by omega)
      generalize xi.getD j ByteArray.empty = s at *
      have HNX := hide hnx
      clear hgd q0 q1 q2 q3 hnx
      cases hok : allTo (Lat.strB xn) Lat.strB xi j
      · have HOK := hide hok
        go_wp2_with fail
        go_roundw
        case rel => exact ⟨j + 1, by omega, by go_num, val_bool (by rw [HST.out, HOK.out]; rfl), HNX.out⟩
        case measure => simp [intOf]; omega
      · have HOK := hide hok
        go_wp2_with fail
        refine (name_any _ s hsz).mono ?_
        rintro e w' ⟨rfl, hw'⟩
        subst hw'
        go_wp2_with fail
        go_roundw
        case rel => exact ⟨j + 1, by omega, by go_num, val_bool (by rw [HST.out, HOK.out]; rfl), HNX.out⟩
        case measure => simp [intOf]; omega
    · have hjn : j = ni := by omega
      clear hj
      go_wp2_with fail
      have HOK := hide (allTo_all (b := Lat.strB xn) (p := Lat.strB) HNI.out hjn)
      have HS0 := hide (allTo_zero (Lat.strB xn && xi.all Lat.strB) Lat.vaB xv)
      rw [show allTo (Lat.strB xn) Lat.strB xi j = allTo (Lat.strB xn && xi.all Lat.strB) Lat.vaB xv 0 by rw [HOK.out, HS0.out]]
      clear t1 hjl hjn HOK HS0
      have HB1 := hide (up HB0.out hnx)
      replace q0 := cellUp q0 hnx
      replace q1 := cellUp q1 hnx
      replace q2 := cellUp q2 hnx
      replace q3 := cellUp q3 hnx
      clear hnx HB0
      -- the variables
      go_loopw [3, 5] (fun o i wy => ∃ k : Nat, k ≤ nv ∧ i = .int .i64 k ∧ o = .bool (allTo (Lat.strB xn && xi.all Lat.strB) Lat.vaB xv k) ∧ Below wr.heap.size wr wy) (fun _ i _ => nv - (intOf i).toNat)
      case atStart => exact ⟨0, Nat.zero_le _, rfl, rfl, Below.refl _ _⟩
      case round =>
        obtain ⟨k, hk, rfl, rfl, hnx⟩ := hrel
        have t2 := cellUp q2 hnx
        by_cases hkl : k < nv
        · obtain ⟨y, hy⟩ : ∃ y, xv[k]? = some y := ⟨_, List.getElem?_eq_getElem (by rw [← HNV.out]; exact hkl)⟩
          obtain ⟨hs1, hs2, g0, g1⟩ := HCV.out k y hy
          have HST := hide (allTo_succ (b := Lat.strB xn && xi.all Lat.strB) (p := Lat.vaB) hy)
          obtain rfl := HAV.out (by omega)
          obtain ⟨yn, yl⟩ := y
          simp only at hs1 hs2 g0 g1
          have HVB : Hid (Lat.vaB ⟨yn, yl⟩ = (Lat.nameB yn.data.toList && Lat.nameB yl.data.toList)) := rfl
          have u0 := cellUp g0 (up HB1.out hnx)
          have u1 := cellUp g1 (up HB1.out hnx)
          have HNX := hide hnx
          clear hy g0 g1 hnx q0 q1 q2 q3
          cases hok : allTo (Lat.strB xn && xi.all Lat.strB) Lat.vaB xv k
          · have HOK := hide hok
            go_wp2_with fail
            go_roundw
            case rel => exact ⟨k + 1, by omega, by go_num, val_bool (by rw [HST.out, HOK.out]; rfl), HNX.out⟩
            case measure => simp [intOf]; omega
          · have HOK := hide hok
            go_wp2_with fail
            refine (name_any _ yn hs1).mono ?_
            rintro e w' ⟨rfl, hw'⟩
            subst hw'
            cases hn1 : Lat.nameB yn.data.toList
            · have HN1 := hide hn1
              go_wp2_with fail
              go_roundw
              case rel => exact ⟨k + 1, by omega, by go_num, val_bool (by rw [HST.out, HOK.out, HVB.out, HN1.out]; rfl), HNX.out⟩
              case measure => simp [intOf]; omega
            · have HN1 := hide hn1
              go_wp2_with fail
              refine (name_any _ yl hs2).mono ?_
              rintro e w' ⟨rfl, hw'⟩
              subst hw'
              go_wp2_with fail
              go_roundw
              case rel => exact ⟨k + 1, by omega, by go_num, val_bool (by rw [HST.out, HOK.out, HVB.out, HN1.out]; rfl), HNX.out⟩
              case measure => simp [intOf]; omega
        · have hkn : k = nv := by omega
          have HOK := hide (allTo_all (b := Lat.strB xn && xi.all Lat.strB) (p := Lat.vaB) HNV.out hkn)
          clear hk hkn
          generalize allTo (Lat.strB xn && xi.all Lat.strB) Lat.vaB xv k = ok at *
          have HB2 := hide (up HB1.out hnx)
          replace q0 := cellUp q0 hnx
          replace q1 := cellUp q1 hnx
          replace q2 := cellUp q2 hnx
          replace q3 := cellUp q3 hnx
          clear hnx HB1
          cases ok
          · have HE5 : Hid (XE = 5) := hide (by rw [HE.out, if_pos HOK.out.symm])
            go_wp2_with fail
            go_ret
            exact ⟨ret_int HE5.out.symm, HB2.out⟩
          rw [if_neg (by rw [← HOK.out]; exact Bool.noConfusion)] at HE
          go_wp2_with fail
          clear t2 hkl HOK
          -- the functions
          go_loopw [6] (fun i wz => ∃ k : Nat, k ≤ nf ∧ i = .int .i64 k ∧ (∀ (d : Nat) (z : Fu), d < k → xf[d]? = some z → Lat.fuE m z = 0) ∧ Below wr.heap.size wr wz) (fun i _ => nf - (intOf i).toNat)
          case atStart => exact ⟨0, Nat.zero_le _, rfl, fun d z hd => absurd hd (Nat.not_lt_zero _), Below.refl _ _⟩
          case round =>
            obtain ⟨i, hi, rfl, hall, hnx⟩ := hrel
            have HALL := hide hall
            clear hall
            have t3 := cellUp q3 hnx
            by_cases hil : i < nf
            · obtain ⟨y, hy⟩ : ∃ y, xf[i]? = some y := ⟨_, List.getElem?_eq_getElem (by rw [← HNF.out]; exact hil)⟩
              obtain ⟨hnm, vp, vb, e0, e1, e2, e3, g0, g1, g2, g3, g4, g5, g6, hp, hsb, hx⟩ := HCF.out i y hy
              obtain rfl := HAF.out (by omega)
              have HBAD : Hid (Lat.fuE m y ≠ 0 → XE = Lat.fuE m y) := hide (fun h => by
                have e := fusE_at (m := m) HALL.out hy h
                rw [HE.out, e, if_pos h])
              have HGOOD : Hid (Lat.fuE m y = 0 → ∀ (d : Nat) (z : Fu), d < i + 1 → xf[d]? = some z → Lat.fuE m z = 0) := hide (fun h d z hd hz => by
                by_cases e : d = i
                · subst e; rw [hy] at hz; cases hz; exact h
                · exact HALL.out d z (by omega) hz)
              obtain ⟨yn, yp, yb, yr⟩ := y
              simp only at g0 hp hsb hx hnm
              have HFE : Hid (Lat.fuE m ⟨yn, yp, yb, yr⟩ = if 4 < yp.length then 2 else if (Lat.strB yn && Lat.bodyB m yb && Lat.exprB m yr && yp.all Lat.strB) then 0 else 5) := rfl
              generalize Lat.fuE m ⟨yn, yp, yb, yr⟩ = FE at *
              obtain ⟨ap, bp, op, cp, rfl, hap, hlp, hsp, hcp⟩ := hp
              have HSP := hide hsp
              have HSB := hide hsb
              have HX := hide hx
              obtain ⟨ab, cb, rfl, hlb⟩ := hsb.shape
              obtain ⟨xa, xc, rfl, rfl, rfl, rfl⟩ := hx.shape
              have HAP := hide hap
              have HCP := hide hcp
              obtain ⟨np, hnp⟩ : ∃ n, n = yp.length := ⟨_, rfl⟩
              obtain ⟨nb, hnb⟩ : ∃ n, n = yb.length := ⟨_, rfl⟩
              have HNP := hide hnp
              have HNB := hide hnb
              rw [← hnp] at g1 hlp HAP HCP HFE
              rw [← hnb] at g2 hlb HSB
              have hbb := up HB2.out hnx
              have u0 := cellUp g0 hbb
              have u1 := cellUp g1 hbb
              have u2 := cellUp g2 hbb
              have u3 := cellUp g3 hbb
              have u4 := cellUp g4 hbb
              have u5 := cellUp g5 hbb
              have u6 := cellUp g6 hbb
              have HNX := hide hnx
              have HBB := hide hbb
              clear hap hcp hsp hsb hx hnp hnb hy g0 g1 g2 g3 g4 g5 g6 hbb hnx q0 q1 q2 q3
              have r0 := boxF0 wr (.string yn) (.slice ap np cp) (.slice ab nb cb) (.int .i64 yr.kind) (.int .i64 yr.n) (.string yr.name) (.slice xa yr.args.length xc) 102
              have r1 := boxF1 wr (.string yn) (.slice ap np cp) (.slice ab nb cb) (.int .i64 yr.kind) (.int .i64 yr.n) (.string yr.name) (.slice xa yr.args.length xc) 102
              have r2 := boxF2 wr (.string yn) (.slice ap np cp) (.slice ab nb cb) (.int .i64 yr.kind) (.int .i64 yr.n) (.string yr.name) (.slice xa yr.args.length xc) 102
              have r3 := boxF3 wr (.string yn) (.slice ap np cp) (.slice ab nb cb) (.int .i64 yr.kind) (.int .i64 yr.n) (.string yr.name) (.slice xa yr.args.length xc) 102
              have r4 := boxF4 wr (.string yn) (.slice ap np cp) (.slice ab nb cb) (.int .i64 yr.kind) (.int .i64 yr.n) (.string yr.name) (.slice xa yr.args.length xc) 102
              have r5 := boxF5 wr (.string yn) (.slice ap np cp) (.slice ab nb cb) (.int .i64 yr.kind) (.int .i64 yr.n) (.string yr.name) (.slice xa yr.args.length xc) 102
              have r6 := boxF6 wr (.string yn) (.slice ap np cp) (.slice ab nb cb) (.int .i64 yr.kind) (.int .i64 yr.n) (.string yr.name) (.slice xa yr.args.length xc) 102
              have HB3 := hide (boxBelow wr (.cells #[.string yn, .slice ap np cp, .slice ab nb cb, .int .i64 yr.kind, .int .i64 yr.n, .string yr.name, .slice xa yr.args.length xc] 102))
              by_cases hp4 : 4 < np
              · have hp4' : (4 : Int) < (np : Int) := by omega
                rw [if_pos hp4] at HFE
                have HXE := hide ((HBAD.out (by rw [HFE.out]; decide)).trans HFE.out)
                clear hp4
                go_wp2_with fail
                go_ret
                exact ⟨ret_int HXE.out.symm, up HBB.out HB3.out⟩
              have hp4' : ¬ (4 : Int) < (np : Int) := by omega
              rw [if_neg hp4] at HFE
              clear hp4
              go_wp2_with fail
              generalize wr.alloc (.cells #[.string yn, .slice ap np cp, .slice ab nb cb, .int .i64 yr.kind, .int .i64 yr.n, .string yr.name, .slice xa yr.args.length xc] 102) = W3 at *
              clear u0 u1 u2 u3 u4 u5 u6
              refine (name_any _ yn hnm).mono ?_
              rintro e w' ⟨rfl, hw'⟩
              rw [hw']
              clear hw' w'
              have HB : Hid ((Lat.strB yn && Lat.bodyB m yb && Lat.exprB m yr) = (Lat.nameB yn.data.toList && Lat.bodyB m yb && Lat.exprB m yr)) := rfl
              generalize (Lat.strB yn && Lat.bodyB m yb && Lat.exprB m yr) = B at *
              have HZ := hide (allTo_zero B Lat.strB yp)
              cases hn1 : Lat.nameB yn.data.toList
              case' false =>
                have HB' : Hid (false = allTo B Lat.strB yp 0) := hide (by rw [HZ.out, HB.out, hn1]; rfl)
                have HQ := hide (Below.refl W3.heap.size W3)
                go_wp2_with fail
              case' true =>
                go_wp2_with fail
                refine (body_any m _ _ yb (HSB.out.below (up HBB.out HB3.out))).mono ?_
                rintro e w5 ⟨rfl, hb5⟩
                have HN5 := hide hb5
                have t3 := cellUp r3 hb5
                have t4 := cellUp r4 hb5
                have t5 := cellUp r5 hb5
                have t6 := cellUp r6 hb5
                clear hb5
                cases hn2 : Lat.bodyB m yb
                case' false =>
                  have HB' : Hid (false = allTo B Lat.strB yp 0) := hide (by rw [HZ.out, HB.out, hn1, hn2]; rfl)
                  have HQ := HN5
                  go_wp2_with fail
                case' true =>
                  go_wp2_with fail
                  refine (expr_any m _ _ _ _ _ yr (HX.out.below (up (up HBB.out HB3.out) HN5.out))).mono ?_
                  rintro e w6 ⟨rfl, hb6⟩
                  have HQ := hide (up HN5.out hb6)
                  have HB' : Hid (Lat.exprB m yr = allTo B Lat.strB yp 0) := hide (by rw [HZ.out, HB.out, hn1, hn2]; rfl)
                  clear hb6
                  go_wp2_with fail
              all_goals
                clear HB HZ r0 r2 r3 r4 r5 r6
                go_loopw [8, 9] (fun o i wp => ∃ k : Nat, k ≤ np ∧ i = .int .i64 k ∧ o = .bool (allTo B Lat.strB yp k) ∧ Below W3.heap.size W3 wp) (fun _ i _ => np - (intOf i).toNat)
                case atStart => exact ⟨0, Nat.zero_le _, rfl, val_bool HB'.out, HQ.out⟩
                case round =>
                  obtain ⟨d, hd, rfl, rfl, hnx⟩ := hrel
                  have t1 := cellUp r1 hnx
                  by_cases hdl : d < np
                  · have hc := cellUp (HCP.out d hdl) (up (up HBB.out HB3.out) hnx)
                    have hgd : yp[d]? = some (yp.getD d ByteArray.empty) := by
                      have : d < yp.length := by have := HNP.out; omega
                      simp [this]
                    have hsz := HSP.out _ (List.mem_of_getElem? hgd)
                    have HST := hide (allTo_succ (b := B) (p := Lat.strB) hgd)
                    obtain rfl := HAP.out (by omega)
                    generalize yp.getD d ByteArray.empty = s at *
                    have HNX2 := hide hnx
                    clear hgd r1 hnx
                    cases hok : allTo B Lat.strB yp d
                    · have HOK := hide hok
                      go_wp2_with fail
                      go_roundw
                      case rel => exact ⟨d + 1, by omega, by go_num, val_bool (by rw [HST.out, HOK.out]; rfl), HNX2.out⟩
                      case measure => simp [intOf]; omega
                    · have HOK := hide hok
                      go_wp2_with fail
                      refine (name_any _ s hsz).mono ?_
                      rintro e w' ⟨rfl, hw'⟩
                      subst hw'
                      go_wp2_with fail
                      go_roundw
                      case rel => exact ⟨d + 1, by omega, by go_num, val_bool (by rw [HST.out, HOK.out]; rfl), HNX2.out⟩
                      case measure => simp [intOf]; omega
                  · have HOK := hide (allTo_all (b := B) (p := Lat.strB) HNP.out (show d = np by omega))
                    rw [← HOK.out] at HFE
                    have HNX2 := hide hnx
                    clear hd HOK hnx r1 HB'
                    generalize allTo B Lat.strB yp d = ok at *
                    cases ok
                    · have HXE : Hid (XE = 5) := hide ((HBAD.out (by rw [HFE.out]; decide)).trans HFE.out)
                      go_wp2_with fail
                      go_ret
                      exact ⟨ret_int HXE.out.symm, up (up HBB.out HB3.out) HNX2.out⟩
                    · go_wp2_with fail
                      go_roundw
                      case rel => exact ⟨i + 1, by omega, by go_num, HGOOD.out (by rw [HFE.out]; rfl), up HNX.out (up HB3.out HNX2.out)⟩
                      case measure => simp [intOf]; omega
            · have HFZ := hide (fusE_zero (m := m) (l := xf) (fun d z hz => HALL.out d z (by
                have := (List.getElem?_eq_some_iff.1 hz).1
                have := HNF.out
                omega) hz))
              rw [if_neg (fun h => h HFZ.out)] at HE
              clear HALL HFZ
              have t0 := cellUp q0 hnx
              have t1 := cellUp q1 hnx
              have t2 := cellUp q2 hnx
              have HBB := hide (up HB2.out hnx)
              clear hnx q0 q1 q2 q3 hi
              go_wp2_with fail
              refine (text_any m _ _ _ (HM.out.below HBB.out) HMW.out (HT.out.below HBB.out)).mono ?_
              rintro e w5 ⟨rfl, hb5⟩
              have HN5 := hide (up HBB.out hb5)
              clear hb5 t0 t1 t2 t3
              rw [← HXT.out]
              go_wp2_with fail
              -- the brackets
              go_loopw [11, 12] (fun o i wt => ∃ j : Nat, j ≤ XT.size ∧ i = .int .i64 j ∧ o = .int .i64 (Lat.openTo XT j) ∧ (∀ d, d < j → Lat.openTo XT (d + 1) ≤ 20) ∧ Below w5.heap.size w5 wt) (fun _ i _ => XT.size - (intOf i).toNat)
              case atStart => exact ⟨0, Nat.zero_le _, rfl, rfl, fun d hd => absurd hd (Nat.not_lt_zero _), Below.refl _ _⟩
              case round =>
                obtain ⟨j, hj, rfl, rfl, hall, hnx⟩ := hrel
                have HALL := hide hall
                have HNX := hide hnx
                clear hall hnx
                by_cases hjl : j < XT.size
                · have hol := openTo_le XT j
                  have HST := hide (openTo_succ XT j hjl)
                  obtain ⟨hol1, hol2⟩ := hol
                  generalize Lat.openTo XT j = o at *
                  rcases step3 XT[j] with ⟨f1, f2, f3⟩ | ⟨f1, f2, f3⟩ | ⟨f1, f2, f3⟩
                  · have HO : Hid (Lat.openTo XT (j + 1) = o + 1) := hide (by rw [HST.out, f3])
                    clear f3
                    by_cases h20 : 20 < o + 1
                    · have HD := hide (deepB_at (t := XT) hjl (by rw [HO.out]; exact h20))
                      rw [HD.out, if_pos rfl] at HE
                      go_wp2_with fail
                      go_ret
                      exact ⟨ret_int HE.out.symm, up HN5.out HNX.out⟩
                    · have HH := hide h20
                      go_wp2_with fail
                      go_roundw
                      case rel => exact ⟨j + 1, by omega, by go_num, by rw [HO.out], fun d hd => by
                          by_cases e : d = j
                          · subst e; rw [HO.out]; have := HH.out; omega
                          · exact HALL.out d (by omega), HNX.out⟩
                      case measure => simp [intOf]; omega
                  · have HO : Hid (Lat.openTo XT (j + 1) = o - 1) := hide (by rw [HST.out, f3]; rfl)
                    clear f3
                    by_cases h20 : 20 < o - 1
                    · have HD := hide (deepB_at (t := XT) hjl (by rw [HO.out]; exact h20))
                      rw [HD.out, if_pos rfl] at HE
                      go_wp2_with fail
                      go_ret
                      exact ⟨ret_int HE.out.symm, up HN5.out HNX.out⟩
                    · have HH := hide h20
                      go_wp2_with fail
                      go_roundw
                      case rel => exact ⟨j + 1, by omega, by go_num, by rw [HO.out], fun d hd => by
                          by_cases e : d = j
                          · subst e; rw [HO.out]; have := HH.out; omega
                          · exact HALL.out d (by omega), HNX.out⟩
                      case measure => simp [intOf]; omega
                  · have HO : Hid (Lat.openTo XT (j + 1) = o) := hide (by rw [HST.out, f3, Int.add_zero])
                    clear f3
                    by_cases h20 : 20 < o
                    · have HD := hide (deepB_at (t := XT) hjl (by rw [HO.out]; exact h20))
                      rw [HD.out, if_pos rfl] at HE
                      go_wp2_with fail
                      go_ret
                      exact ⟨ret_int HE.out.symm, up HN5.out HNX.out⟩
                    · have HH := hide h20
                      go_wp2_with fail
                      go_roundw
                      case rel => exact ⟨j + 1, by omega, by go_num, by rw [HO.out], fun d hd => by
                          by_cases e : d = j
                          · subst e; rw [HO.out]; have := HH.out; omega
                          · exact HALL.out d (by omega), HNX.out⟩
                      case measure => simp [intOf]; omega
                · have HD := hide (deepB_not (t := XT) (fun d hd => by have := HALL.out d (by omega); omega))
                  rw [HD.out, if_neg (by decide)] at HE
                  go_wp2_with fail
                  go_ret
                  exact ⟨ret_int HE.out.symm, up HN5.out HNX.out⟩
end Go.Proofs.YtnheahdcfadclaaGreatDoor

/- Walks over package tree: moduleText: of a module that may be, the text that the document asks. -/
namespace Go.Proofs.YtnheahdcfadclaaGreatDoor
open Go.RowKit

namespace Lat
def moX (m : Nat) (x : Mo) : ByteArray := brk [[⟨#[109, 111, 100, 117, 108, 101]⟩, x.name], x.imports.map impX, x.vars.map vaX, x.funs.map (fuX m)].flatten
end Lat

theorem foldx {α : Type} {f : ByteArray → α → ByteArray} {g : α → ByteArray} : ∀ (l : List α) (acc : ByteArray), (∀ y ∈ l, ∀ acc, (f acc y).data.toList = acc.data.toList ++ 32 :: (g y).data.toList) →
    (l.foldl f acc).data.toList = acc.data.toList ++ Lib.joinTail [32] ((l.map g).map (·.data.toList))
  | [], acc, _ => by simp [Lib.joinTail]
  | y :: l, acc, h => by
    rw [List.foldl_cons, foldx l _ (fun z hz => h z (by simp [hz])), h y (by simp), List.map_cons, List.map_cons, tail_cons]
    simp
theorem impT_eq (acc s : ByteArray) : (Lat.impT acc s).data.toList = acc.data.toList ++ 32 :: (Lat.impX s).data.toList := by
  unfold Lat.impT Lat.impX
  rw [brk_list]
  simp [Lib.join_cons, Lib.joinTail]
theorem vaT_eq (acc : ByteArray) (v : Va) : (Lat.vaT acc v).data.toList = acc.data.toList ++ 32 :: (Lat.vaX v).data.toList := by
  unfold Lat.vaT Lat.vaX
  rw [brk_list]
  simp [Lib.join_cons, Lib.joinTail]

theorem moX_eq {m : Nat} {x : Mo} (hm : x.funs ≠ [] → m ≠ 0) : Lat.moX m x = Lat.moT m x := by
  apply bytes_ext
  unfold Lat.moX Lat.moT Lat.moF Lat.moV Lat.moI Lat.moH
  have hfl : [[(⟨#[109, 111, 100, 117, 108, 101]⟩ : ByteArray), x.name], x.imports.map Lat.impX, x.vars.map Lat.vaX, x.funs.map (Lat.fuX m)].flatten = ⟨#[109, 111, 100, 117, 108, 101]⟩ :: x.name :: (x.imports.map Lat.impX ++ (x.vars.map Lat.vaX ++ x.funs.map (Lat.fuX m))) := by simp
  rw [hfl, brk_list, app_list, foldx (g := Lat.fuX m) x.funs _ (fun y hy acc => fuT_eq (hm (List.ne_nil_of_mem hy)) acc y), foldx (g := Lat.vaX) x.vars _ (fun y _ acc => vaT_eq acc y), foldx (g := Lat.impX) x.imports _ (fun y _ acc => impT_eq acc y),
    List.map_cons, Lib.join_cons, List.map_cons, tail_cons, List.map_append, joinTail_app, List.map_append, joinTail_app, app_list]
  simp

end Go.Proofs.YtnheahdcfadclaaGreatDoor
