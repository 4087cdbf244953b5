/- LowMore's walk. -/
import Derived.Test.YtmhcameodlhloabMD
import Derived.Test.YtmhcameodlhloabCF
import Derived.Test.YtmhcameodlhloabKA
import Derived.Test.YtmhcameodlhloabLatM
namespace Go.Proofs.Ytmhcameodlhloab
open Go.RowKit

namespace Lw
/-- The cells that Cells answers. -/
def ceR (ss : List ByteArray) (G : Nat) (L : Nat → Nat) (Z : Nat → Nat → Bool) (mods : List Mo) (level : Int) (l : List Ce) : List Ce := if chE ss G L Z level = 0 then ceL ss Z mods level.toNat l else []
/-- The prints that Prints answers. -/
def prR (ss : List ByteArray) (G : Nat) (L : Nat → Nat) (Z : Nat → Nat → Bool) (level : Int) (l : List (ByteArray × Int)) : List (ByteArray × Int) := if chE ss G L Z level = 0 then prL ss Z level.toNat l else []
theorem ceL_le (ss : List ByteArray) (Z : Nat → Nat → Bool) (mods : List Mo) (k : Nat) (l : List Ce) : (ceL ss Z mods k l).length ≤ l.length := List.length_filter_le _ _
theorem prL_le (ss : List ByteArray) (Z : Nat → Nat → Bool) (k : Nat) (l : List (ByteArray × Int)) : (prL ss Z k l).length ≤ l.length := List.length_filter_le _ _
/-- Seen twice is seen once. -/
theorem ceL_ceL (ss : List ByteArray) (Z : Nat → Nat → Bool) (mods : List Mo) (k : Nat) (l : List Ce) : ceL ss Z mods k (ceL ss Z mods k l) = ceL ss Z mods k l := by
  unfold ceL
  rw [List.filter_filter]
  simp
theorem sees_up {ss : List ByteArray} {Z : Nat → Nat → Bool} (o : Lat.Ord Z ss.length) {a b : Nat} (ha : a < ss.length) (hb : b < ss.length) (hab : Z a b = true) {t : ByteArray} (h : seesB Z (Lat.indexI ss t) a = true) : seesB Z (Lat.indexI ss t) b = true := by
  unfold seesB at h ⊢
  rw [Bool.and_eq_true] at h ⊢
  refine ⟨h.1, ?_⟩
  rcases indexI_range ss t with e | ⟨i, e, hi⟩
  · rw [e] at h; simp at h
  · rw [e] at h ⊢
    exact o.trans i a b hi ha hb h.2 hab
theorem ce_up {ss : List ByteArray} {Z : Nat → Nat → Bool} (o : Lat.Ord Z ss.length) {mods : List Mo} {a b : Nat} (ha : a < ss.length) (hb : b < ss.length) (hab : Z a b = true) {x y : ByteArray} (h : ceB ss Z mods a x y = true) : ceB ss Z mods b x y = true := by
  unfold ceB at h ⊢
  cases hl : lv mods x y with
  | none => rw [hl] at h; exact h
  | some t => rw [hl] at h; exact sees_up o ha hb hab h
theorem filter_two {α : Type} {p q : α → Bool} (h : ∀ x, p x = true → q x = true) (l : List α) : (l.filter q).filter p = l.filter p := by
  rw [List.filter_filter]
  congr 1
  funext x
  cases hp : p x with
  | false => rfl
  | true => rw [h x hp]; rfl
theorem two_ok : chE twoS 2 (fun _ => 2) twoZ ((0 : Nat) : Int) = 0 := by decide +kernel
theorem two_seen : prL twoS twoZ 0 [(⟨#[104, 105, 103, 104]⟩, 1), (⟨#[108, 111, 119]⟩, 2)] = [(⟨#[108, 111, 119]⟩, 2)] := by
  have h1 : Lat.indexI twoS ⟨#[104, 105, 103, 104]⟩ = 1 := by decide +kernel
  have h2 : Lat.indexI twoS ⟨#[108, 111, 119]⟩ = 0 := by decide +kernel
  unfold prL
  simp [List.filter, h1, h2, seesB, twoZ]
end Lw

theorem lcells_any (m : Nat) (w : World) (vn vl vm vc : Value) (ss : List ByteArray) (G : Nat) (L : Nat → Nat) (Z : Nat → Nat → Bool) (mods : List Mo) (cells : List Ce) (level : Int) (hS : Strs w vn ss) (hR : Rag w vl G L Z) (h : MosAt w m vm mods) (hl : mods.length ≤ 1048576) (hv : ∀ y ∈ mods, y.vars.length ≤ 1048576)
    (hC : CesAt w vc cells) (hcl : cells.length ≤ 1048576) (hcs : ∀ c ∈ cells, c.mod.size ≤ maxLen ∧ c.name.size ≤ maxLen) :
    Calls Try.prog 31 #[.agg #[vn, vl], vm, vc, .int .i64 level] w fun e w' => ∃ v, e = .returned (.tuple #[v, .int .i64 (Lw.chE ss G L Z level)]) ∧ Hid (OwnK CeC w' w.heap.size 75 3 v (Lw.ceR ss G L Z mods level cells) ∧ Below w.heap.size w w') := by
  by_cases hE : Lw.chE ss G L Z level = 0
  · obtain ⟨_, k, rfl, _⟩ := Lw.chE_ok hE
    refine (lcells_ok m w vn vl vm vc ss G L Z mods cells k hS hR h hl hv hC hcl hcs hE).mono ?_
    rintro e w' ⟨v, rfl, hp⟩
    exact ⟨v, by rw [hE], by unfold Lw.ceR; rw [if_pos hE]; exact hp⟩
  · refine (lcells_err w vn vl vm vc ss G L Z level hS hR hE).mono ?_
    rintro e w' ⟨rfl, hb⟩
    exact ⟨_, rfl, hide ⟨by unfold Lw.ceR; rw [if_neg hE]; exact OwnK.nil _ _ _ _, hb⟩⟩
theorem lprints_any (w : World) (vn vl vc : Value) (ss : List ByteArray) (G : Nat) (L : Nat → Nat) (Z : Nat → Nat → Bool) (prints : List (ByteArray × Int)) (level : Int) (hS : Strs w vn ss) (hR : Rag w vl G L Z) (hC : PrsAt w vc prints) (hcl : prints.length ≤ 1048576) :
    Calls Try.prog 29 #[.agg #[vn, vl], vc, .int .i64 level] w fun e w' => ∃ v, e = .returned (.tuple #[v, .int .i64 (Lw.chE ss G L Z level)]) ∧ Hid (OwnK PrC w' w.heap.size 69 2 v (Lw.prR ss G L Z level prints) ∧ Below w.heap.size w w') := by
  by_cases hE : Lw.chE ss G L Z level = 0
  · obtain ⟨_, k, rfl, _⟩ := Lw.chE_ok hE
    refine (lprints_ok w vn vl vc ss G L Z prints k hS hR hC hcl hE).mono ?_
    rintro e w' ⟨v, rfl, hp⟩
    exact ⟨v, by rw [hE], by unfold Lw.prR; rw [if_pos hE]; exact hp⟩
  · refine (lprints_err w vn vl vc ss G L Z level hS hR hE).mono ?_
    rintro e w' ⟨rfl, hb⟩
    exact ⟨_, rfl, hide ⟨by unfold Lw.prR; rw [if_neg hE]; exact OwnK.nil _ _ _ _, hb⟩⟩
theorem prs_two (w : World) : PrsAt (w.alloc (.cells #[.string ⟨#[104, 105, 103, 104]⟩, .int .i64 1, .string ⟨#[108, 111, 119]⟩, .int .i64 2] 69)) (.slice (some ⟨w.heap.size, 0, none⟩) 2 2) [(⟨#[104, 105, 103, 104]⟩, 1), (⟨#[108, 111, 119]⟩, 2)] := by
  have c := fun j => block_at (block_new w (.cells #[.string ⟨#[104, 105, 103, 104]⟩, .int .i64 1, .string ⟨#[108, 111, 119]⟩, .int .i64 2] 69)) j
  refine ⟨_, w.heap.size, 0, 2, rfl, fun _ => rfl, by decide, fun i x hx => ?_⟩
  match i, hx with
  | 0, hx => simp at hx; subst hx; exact ⟨(c 0).trans rfl, (c 1).trans rfl⟩
  | 1, hx => simp at hx; subst hx; exact ⟨(c 2).trans rfl, (c 3).trans rfl⟩
  | i + 2, hx => simp at hx
theorem prs_low (w : World) : PrsAt (w.alloc (.cells #[.string ⟨#[108, 111, 119]⟩, .int .i64 2] 69)) (.slice (some ⟨w.heap.size, 0, none⟩) 1 1) [(⟨#[108, 111, 119]⟩, 2)] := by
  have c := fun j => block_at (block_new w (.cells #[.string ⟨#[108, 111, 119]⟩, .int .i64 2] 69)) j
  refine ⟨_, w.heap.size, 0, 1, rfl, fun _ => rfl, by decide, fun i x hx => ?_⟩
  match i, hx with
  | 0, hx => simp at hx; subst hx; exact ⟨(c 0).trans rfl, (c 1).trans rfl⟩
  | i + 1, hx => simp at hx
theorem CesAt.i64L {w : World} {v : Value} {l : List Ce} (h : CesAt w v l) : ∀ c ∈ l, I64 c.val := fun c hc => by
  obtain ⟨a, b, off, cap, e, h0, hl, h1⟩ := h
  obtain ⟨i, hi, rfl⟩ := List.mem_iff_getElem.1 hc
  exact (h1 i _ (List.getElem?_eq_getElem hi)).1

set_option maxHeartbeats 4000000 in
set_option maxRecDepth 100000 in
theorem more_walk (m : Nat) (w : World) (vn vl vm vc vp : Value) (ss : List ByteArray) (G : Nat) (L : Nat → Nat) (Z : Nat → Nat → Bool) (mods : List Mo) (cells : List Ce) (prints : List (ByteArray × Int)) (a b : Int) (hS : Strs w vn ss) (hR : Rag w vl G L Z) (h : MosAt w m vm mods) (hl : mods.length ≤ 1048576) (hv : ∀ y ∈ mods, y.vars.length ≤ 1048576)
    (hC : CesAt w vc cells) (hcl : cells.length ≤ 1048576) (hcs : ∀ c ∈ cells, c.mod.size ≤ maxLen ∧ c.name.size ≤ maxLen) (hP : PrsAt w vp prints) (hpl : prints.length ≤ 1048576) :
    Calls Try.prog 6 #[.agg #[vn, vl], vm, vc, vp, .int .i64 a, .int .i64 b] w fun e w' => e = .returned (.bool true) ∧ Below w.heap.size w w' := by
  have HB := hide (boxBelow w (.cells #[vn, vl] 25))
  have HBX := hide (block_new w (.cells #[vn, vl] 25))
  have HCE := hide (fun wx (hb : Below w.heap.size w wx) level => lcells_any m wx vn vl vm vc ss G L Z mods cells level (hS.below hb) (hR.below hb) (h.below hb) hl hv (hC.below hb) hcl hcs)
  have HPR := hide (fun wx (hb : Below w.heap.size w wx) level => lprints_any wx vn vl vp ss G L Z prints level (hS.below hb) (hR.below hb) (hP.below hb) hpl)
  have HC2 := hide (fun wx (hb : Below w.heap.size w wx) vd l (hd : CesAt wx vd l) (hsub : ∀ c ∈ l, c ∈ cells) (hll : l.length ≤ 1048576) level => lcells_any m wx vn vl vm vd ss G L Z mods l level (hS.below hb) (hR.below hb) (h.below hb) hl hv hd hll (fun c hc => hcs c (hsub c hc)))
  have HP2 := hide (fun wx (hb : Below w.heap.size w wx) vd l (hd : PrsAt wx vd l) (hll : l.length ≤ 1048576) level => lprints_any wx vn vl vd ss G L Z l level (hS.below hb) (hR.below hb) hd hll)
  have HI64 := hide hC.i64L
  have HCL := hide hcl
  have HPL := hide hpl
  have HRG := hide hR
  have HVN : Hid (∃ ad m c, vn = .slice ad m c) := hide (by obtain ⟨an, bn, on, cn, rfl, -⟩ := hS; exact ⟨_, _, _, rfl⟩)
  have HVL : Hid (∃ ad m c, vl = .slice ad m c) := hide (by obtain ⟨ga, gb, go, gc, A, RB, RO, C, rfl, -⟩ := hR; exact ⟨_, _, _, rfl⟩)
  obtain ⟨ad, nn, nc, hvn⟩ := HVN.out
  obtain ⟨bd, ln, lc, hvl⟩ := HVL.out
  obtain ⟨Ea, hEa⟩ : ∃ E, E = Lw.chE ss G L Z a := ⟨_, rfl⟩
  obtain ⟨Eb, hEb⟩ : ∃ E, E = Lw.chE ss G L Z b := ⟨_, rfl⟩
  have HEA := hide hEa
  have HEB := hide hEb
  obtain ⟨N, hNw⟩ : ∃ N, N = w.heap.size := ⟨_, rfl⟩
  have HNE := hide hNw
  subst hvn hvl
  have HQ : Hid (∀ wx, Below (w.alloc (.cells #[.slice ad nn nc, .slice bd ln lc] 25)).heap.size (w.alloc (.cells #[.slice ad nn nc, .slice bd ln lc] 25)) wx → wx.cell? ⟨N, 0, none⟩ = some (.slice ad nn nc) ∧ wx.cell? ⟨N, 1, none⟩ = some (.slice bd ln lc)) := hide (fun wx h => by
    rw [HNE.out]
    exact ⟨cellUp ((block_at HBX.out 0).trans rfl) h, cellUp ((block_at HBX.out 1).trans rfl) h⟩)
  clear hS hR h hl hv hC hcl hcs hP hpl hEa hEb HVN HVL
  go_enter Try.func6, Try.ntmps6
  go_wp2_with fail
  rw [← hNw]
  clear hNw
  refine (two_any _).mono ?_
  rintro e w1 ⟨un, ul, rfl, hS1, hR1, hb1⟩
  have HB1 := hide (up hb1 (boxBelow w1 (.cells #[.string ⟨#[104, 105, 103, 104]⟩, .int .i64 1, .string ⟨#[108, 111, 119]⟩, .int .i64 2] 69)))
  have HT := hide (lprints_ok _ un ul _ twoS 2 (fun _ => 2) twoZ _ 0 (hS1.below (boxBelow w1 _)) (hR1.below (boxBelow w1 _)) (prs_two w1) (by decide) Lw.two_ok)
  rw [Lw.two_seen] at HT
  clear hS1 hR1 hb1
  go_wp2_with fail
  refine HT.out.mono ?_
  rintro e w2 ⟨v2, rfl, hp2⟩
  have HO2 := hide hp2.out.1
  have HB2 := hide (up HB1.out hp2.out.2)
  clear hp2 HT
  go_wp2_with fail
  refine (eqP_same _ _ _ [(⟨#[108, 111, 119]⟩, 2)] ((HO2.out.prs (by decide)).below (boxBelow _ _)) (prs_low w2)).mono ?_
  rintro e w3 ⟨rfl, hb3⟩
  have HB3 := hide (up HB2.out (up (boxBelow _ _) hb3))
  clear hb3
  obtain ⟨q0, q1⟩ := HQ.out _ HB3.out
  go_wp2_with fail
  refine (HCE.out _ (up HB.out HB3.out) a).mono ?_
  rintro e w4 ⟨vx, rfl, hp4⟩
  rw [← HEA.out]
  have HX4 := hide hp4.out.1
  have HB4 := hide (up HB3.out hp4.out.2)
  clear hp4 q0 q1
  obtain ⟨q0, q1⟩ := HQ.out _ HB4.out
  go_wp2_with fail
  refine (HCE.out _ (up HB.out HB4.out) b).mono ?_
  rintro e w5 ⟨vy, rfl, hp5⟩
  rw [← HEB.out]
  have HX5 := hide (HX4.out.below hp5.out.2)
  have HY5 := hide hp5.out.1
  have HB5 := hide (up HB4.out hp5.out.2)
  clear hp5 q0 q1
  obtain ⟨q0, q1⟩ := HQ.out _ HB5.out
  go_wp2_with fail
  refine (HPR.out _ (up HB.out HB5.out) a).mono ?_
  rintro e w6 ⟨vpa, rfl, hp6⟩
  rw [← HEA.out]
  have HX6 := hide (HX5.out.below hp6.out.2)
  have HY6 := hide (HY5.out.below hp6.out.2)
  have HPA6 := hide hp6.out.1
  have HB6 := hide (up HB5.out hp6.out.2)
  clear hp6 q0 q1
  obtain ⟨q0, q1⟩ := HQ.out _ HB6.out
  go_wp2_with fail
  refine (HPR.out _ (up HB.out HB6.out) b).mono ?_
  rintro e w7 ⟨vpb, rfl, hp7⟩
  rw [← HEB.out]
  have HX7 := hide (HX6.out.below hp7.out.2)
  have HY7 := hide (HY6.out.below hp7.out.2)
  have HPA7 := hide (HPA6.out.below hp7.out.2)
  have HPB7 := hide hp7.out.1
  have HB7 := hide (up HB6.out hp7.out.2)
  clear hp7 q0 q1
  by_cases ha0 : Ea = 0
  · by_cases hb0 : Eb = 0
    · subst ha0 hb0
      obtain ⟨hok, ka, rfl, hka⟩ := Lw.chE_ok HEA.out.symm
      obtain ⟨-, kb, rfl, hkb⟩ := Lw.chE_ok HEB.out.symm
      have HOK := hide (Lat.ok_of hok)
      have HKA := hide hka
      have HKB := hide hkb
      have HG := hide (rag_grid HRG.out HOK.out.pos HOK.out.square)
      have HXE : Hid (Lw.ceR ss G L Z mods (ka : Int) cells = Lw.ceL ss Z mods ka cells) := hide (by unfold Lw.ceR; rw [if_pos HEA.out.symm]; rfl)
      have HYE : Hid (Lw.ceR ss G L Z mods (kb : Int) cells = Lw.ceL ss Z mods kb cells) := hide (by unfold Lw.ceR; rw [if_pos HEB.out.symm]; rfl)
      have HPAE : Hid (Lw.prR ss G L Z (ka : Int) prints = Lw.prL ss Z ka prints) := hide (by unfold Lw.prR; rw [if_pos HEA.out.symm]; rfl)
      have HPBE : Hid (Lw.prR ss G L Z (kb : Int) prints = Lw.prL ss Z kb prints) := hide (by unfold Lw.prR; rw [if_pos HEB.out.symm]; rfl)
      rw [HXE.out] at HX7
      rw [HYE.out] at HY7
      rw [HPAE.out] at HPA7
      rw [HPBE.out] at HPB7
      have HLX : Hid ((Lw.ceL ss Z mods ka cells).length ≤ 1048576 ∧ (∀ c ∈ Lw.ceL ss Z mods ka cells, I64 c.val) ∧ ∀ c ∈ Lw.ceL ss Z mods ka cells, c ∈ cells) := hide ⟨Nat.le_trans (Lw.ceL_le _ _ _ _ _) HCL.out, fun c hc => HI64.out c (List.mem_filter.1 hc).1, fun c hc => (List.mem_filter.1 hc).1⟩
      have HLY : Hid ((Lw.ceL ss Z mods kb cells).length ≤ 1048576 ∧ (∀ c ∈ Lw.ceL ss Z mods kb cells, I64 c.val) ∧ ∀ c ∈ Lw.ceL ss Z mods kb cells, c ∈ cells) := hide ⟨Nat.le_trans (Lw.ceL_le _ _ _ _ _) HCL.out, fun c hc => HI64.out c (List.mem_filter.1 hc).1, fun c hc => (List.mem_filter.1 hc).1⟩
      have HLP : Hid ((Lw.prL ss Z ka prints).length ≤ 1048576 ∧ (Lw.prL ss Z kb prints).length ≤ 1048576) := hide ⟨Nat.le_trans (Lw.prL_le _ _ _ _) HPL.out, Nat.le_trans (Lw.prL_le _ _ _ _) HPL.out⟩
      have HA2 := hide (HC2.out w7 (up HB.out HB7.out) vx _ (HX7.out.ces HLX.out.2.1 (Nat.le_trans HLX.out.1 (by decide))) HLX.out.2.2 HLX.out.1 (ka : Int))
      rw [← HEA.out] at HA2
      rw [show Lw.ceR ss G L Z mods (ka : Int) (Lw.ceL ss Z mods ka cells) = Lw.ceL ss Z mods ka cells by unfold Lw.ceR; rw [if_pos HEA.out.symm]; exact Lw.ceL_ceL _ _ _ _ _] at HA2
      clear hok hka hkb HXE HYE HPAE HPBE
      obtain ⟨q0, q1⟩ := HQ.out _ HB7.out
      go_wp2_with fail
      refine HA2.out.mono ?_
      rintro e w8 ⟨vg, rfl, hp8⟩
      have HG8 := hide hp8.out.1
      have HX8 := hide (HX7.out.below hp8.out.2)
      have HY8 := hide (HY7.out.below hp8.out.2)
      have HPA8 := hide (HPA7.out.below hp8.out.2)
      have HPB8 := hide (HPB7.out.below hp8.out.2)
      have HB8 := hide (up HB7.out hp8.out.2)
      clear hp8 q0 q1 HA2
      go_wp2_with fail
      refine (eqC_same _ _ _ _ (HG8.out.ces HLX.out.2.1 (Nat.le_trans HLX.out.1 (by decide))) (HX8.out.ces HLX.out.2.1 (Nat.le_trans HLX.out.1 (by decide)))).mono ?_
      rintro e w9 ⟨rfl, hb9⟩
      have HX9 := hide (HX8.out.below hb9)
      have HY9 := hide (HY8.out.below hb9)
      have HPA9 := hide (HPA8.out.below hb9)
      have HPB9 := hide (HPB8.out.below hb9)
      have HB9 := hide (up HB8.out hb9)
      clear hb9
      obtain ⟨q0, q1⟩ := HQ.out _ HB9.out
      have HGR := hide (HG.out.below (up HB.out HB9.out))
      obtain ⟨gb, go, gc, RB, RO, C, hvg, h1, h2⟩ := HGR.out
      have r1 := h1 ka HKA.out
      have r2 := h2 ka kb HKA.out HKB.out
      have HZAB := hide (rfl : Z ka kb = Z ka kb)
      obtain ⟨zab, hzab⟩ : ∃ z, z = Z ka kb := ⟨_, rfl⟩
      rw [← hzab] at r2
      have HZ := hide hzab
      clear hzab h1 h2 HZAB
      injection hvg with e1 e2 e3
      subst e1 e3
      have hka := HKA.out
      have hkb := HKB.out
      rw [← e2] at r1 hka hkb
      clear e2
      cases zab with
      | false =>
        go_wp2_with fail
        go_ret
        exact ⟨rfl, up HB.out HB9.out⟩
      | true =>
        have hord := Lat.ord_of HOK.out.order
        have HZ2 := hide (HC2.out w9 (up HB.out HB9.out) vy _ (HY9.out.ces HLY.out.2.1 (Nat.le_trans HLY.out.1 (by decide))) HLY.out.2.2 HLY.out.1 (ka : Int))
        rw [← HEA.out] at HZ2
        rw [show Lw.ceR ss G L Z mods (ka : Int) (Lw.ceL ss Z mods kb cells) = Lw.ceL ss Z mods ka cells by unfold Lw.ceR; rw [if_pos HEA.out.symm]; exact Lw.filter_two (fun c hc => Lw.ce_up hord HKA.out HKB.out HZ.out.symm hc) cells] at HZ2
        have HPC : Hid (Lw.prR ss G L Z (ka : Int) (Lw.prL ss Z kb prints) = Lw.prL ss Z ka prints) := hide (by unfold Lw.prR; rw [if_pos HEA.out.symm]; exact Lw.filter_two (fun p hp => Lw.sees_up hord HKA.out HKB.out HZ.out.symm hp) prints)
        clear hord
        go_wp2_with fail
        clear r1 r2 hka hkb q0 q1
        refine HZ2.out.mono ?_
        rintro e w10 ⟨vz, rfl, hp10⟩
        have HZ10 := hide hp10.out.1
        have HX10 := hide (HX9.out.below hp10.out.2)
        have HPA10 := hide (HPA9.out.below hp10.out.2)
        have HPB10 := hide (HPB9.out.below hp10.out.2)
        have HB10 := hide (up HB9.out hp10.out.2)
        clear hp10 HZ2
        obtain ⟨q0, q1⟩ := HQ.out _ HB10.out
        have HR2 := hide (HP2.out w10 (up HB.out HB10.out) vpb _ (HPB10.out.prs (Nat.le_trans HLP.out.2 (by decide))) HLP.out.2 (ka : Int))
        rw [← HEA.out, HPC.out] at HR2
        go_wp2_with fail
        refine HR2.out.mono ?_
        rintro e w11 ⟨vr, rfl, hp11⟩
        have HR11 := hide hp11.out.1
        have HZ11 := hide (HZ10.out.below hp11.out.2)
        have HX11 := hide (HX10.out.below hp11.out.2)
        have HPA11 := hide (HPA10.out.below hp11.out.2)
        have HB11 := hide (up HB10.out hp11.out.2)
        clear hp11 HR2 q0 q1
        go_wp2_with fail
        refine (eqC_same _ _ _ _ (HZ11.out.ces HLX.out.2.1 (Nat.le_trans HLX.out.1 (by decide))) (HX11.out.ces HLX.out.2.1 (Nat.le_trans HLX.out.1 (by decide)))).mono ?_
        rintro e w12 ⟨rfl, hb12⟩
        have HR12 := hide (HR11.out.below hb12)
        have HPA12 := hide (HPA11.out.below hb12)
        have HB12 := hide (up HB11.out hb12)
        clear hb12
        go_wp2_with fail
        refine (eqP_same _ _ _ _ (HR12.out.prs (Nat.le_trans HLP.out.1 (by decide))) (HPA12.out.prs (Nat.le_trans HLP.out.1 (by decide)))).mono ?_
        rintro e w13 ⟨rfl, hb13⟩
        have HB13 := hide (up HB12.out hb13)
        clear hb13
        go_wp2_with fail
        go_ret
        exact ⟨rfl, up HB.out HB13.out⟩
    · subst ha0
      have hb' := bne_zero_true hb0
      go_wp2_with fail
      go_ret
      exact ⟨rfl, up HB.out HB7.out⟩
  · have ha' := bne_zero_true ha0
    go_wp2_with fail
    go_ret
    exact ⟨rfl, up HB.out HB7.out⟩

end Go.Proofs.Ytmhcameodlhloab
