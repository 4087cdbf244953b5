/- What one may see: low.Cells, low.Prints. -/
import Derived.Test.YtmhcameodlhloaaMC
namespace Go.Proofs.Ytmhcameodlhloaa
open Go.RowKit Go.Maps

theorem OwnK.typL {α : Type} {At : List Value → α → Prop} {w : World} {n e k g : Nat} {v : Value} {l : List α} (h : OwnK At w n e k v l) (hg : v.ownBlock = some g) : ∃ cur, w.heap[g]? = some (.cells cur e (0, 0)) := by
  obtain ⟨_, ⟨_, h1⟩, _⟩ := h
  rcases h1 with ⟨rfl, _⟩ | ⟨g', cap, cur, hv, _, hh, _⟩
  · cases hg
  · rw [hv] at hg
    cases hg
    exact ⟨cur, hh⟩
/-- What was there stays where a row of the call's own grows. -/
theorem below_row {α : Type} {At : List Value → α → Prop} {w wx wy : World} {e k : Nat} {v : Value} {l : List α} {o : Obj} (h : Below w.heap.size w wx) (hr : OwnK At wx w.heap.size e k v l) (hg : (wx.alloc o).grownBy wy v.ownBlock) : Below w.heap.size w wy :=
  ⟨hg.os.trans h.os, hg.tape.trans h.tape, hg.output.trans h.output, Nat.le_trans h.size (Nat.le_trans (boxBelow wx o).size hg.size), fun k hk => by
    have h1 : k < wx.heap.size := Nat.lt_of_lt_of_le hk h.size
    rw [hg.block k (Nat.lt_of_lt_of_le h1 (boxBelow wx o).size) (fun e => by have := (hr.lt k e.symm).1; omega), (boxBelow wx o).block k h1]
    exact h.block k hk⟩
theorem row_other {α : Type} {At : List Value → α → Prop} {wx wy : World} {n e k q : Nat} {v : Value} {l : List α} {o ob : Obj} (hr : OwnK At wx n e k v l) (hg : (wx.alloc o).grownBy wy v.ownBlock) (hq : wx.heap[q]? = some ob) (hne : ∀ cs fz, ob ≠ .cells cs e fz) : wy.heap[q]? = some ob := by
  have h1 := block_lt hq
  rw [hg.block q (Nat.lt_of_lt_of_le h1 (boxBelow wx o).size) (fun h => ?_), (boxBelow wx o).block q h1]
  · exact hq
  · obtain ⟨cur, hc⟩ := hr.typL h.symm
    rw [hq] at hc
    injection hc with hc
    exact hne _ _ hc

/-- Cells' memory while it goes over the cells. -/
structure CeI (w wx : World) (vn vl : Value) (bm nm : Nat) (o : ByteArray → ByteArray → Option Int) (v : Value) (l : List Ce) : Prop where
  own : OwnK CeC wx w.heap.size 68 3 v l
  map : PlI wx bm nm o
  bel : Below w.heap.size w wx
  box : wx.heap[w.heap.size]? = some (.cells #[vn, vl] 25 (0, 0))
section
variable {w wx wy : World} {vn vl : Value} {bm nm : Nat} {o : ByteArray → ByteArray → Option Int} {v : Value} {l : List Ce}
theorem CeI.below (h : CeI w wx vn vl bm nm o v l) (hb : Below wx.heap.size wx wy) : CeI w wy vn vl bm nm o v l :=
  ⟨h.own.below hb, h.map.below hb, up h.bel hb, by rw [hb.block _ (block_lt h.box)]; exact h.box⟩
theorem CeI.push {v' : Value} {c : Ce} {ob : Obj} (h : CeI w wx vn vl bm nm o v l) (hown : OwnK CeC wy w.heap.size 68 3 v' (l ++ [c])) (hg : (wx.alloc ob).grownBy wy v.ownBlock) : CeI w wy vn vl bm nm o v' (l ++ [c]) := by
  obtain ⟨es, cl, hm⟩ := h.map.isMap
  refine ⟨hown, h.map.same ?_, below_row h.bel h.own hg, row_other h.own hg h.box (fun cs fz e => by injection e with _ e; exact absurd e (by decide))⟩
  rw [hm]
  exact row_other h.own hg hm (fun cs fz e => by cases e)
end
/-- Prints' memory while it goes over the prints. -/
structure PrI (w wx : World) (vn vl : Value) (v : Value) (l : List (ByteArray × Int)) : Prop where
  own : OwnK PrC wx w.heap.size 72 2 v l
  bel : Below w.heap.size w wx
  box : wx.heap[w.heap.size]? = some (.cells #[vn, vl] 25 (0, 0))
section
variable {w wx wy : World} {vn vl : Value} {v : Value} {l : List (ByteArray × Int)}
theorem PrI.below (h : PrI w wx vn vl v l) (hb : Below wx.heap.size wx wy) : PrI w wy vn vl v l :=
  ⟨h.own.below hb, up h.bel hb, by rw [hb.block _ (block_lt h.box)]; exact h.box⟩
theorem PrI.push {v' : Value} {c : ByteArray × Int} {ob : Obj} (h : PrI w wx vn vl v l) (hown : OwnK PrC wy w.heap.size 72 2 v' (l ++ [c])) (hg : (wx.alloc ob).grownBy wy v.ownBlock) : PrI w wy vn vl v' (l ++ [c]) :=
  ⟨hown, below_row h.bel h.own hg, row_other h.own hg h.box (fun cs fz e => by injection e with _ e; exact absurd e (by decide))⟩
end
namespace Lw
def oB (Z : Nat → Nat → Bool) (k : Nat) : Option Int → Bool
  | some a => seesB Z a k
  | none => false
theorem ceB_eq (ss : List ByteArray) (Z : Nat → Nat → Bool) (mods : List Mo) (k : Nat) (x y : ByteArray) : ceB ss Z mods k x y = oB Z k ((lv mods x y).map (Lat.indexI ss)) := by
  unfold ceB
  cases lv mods x y <;> rfl
/-- The cells that are seen. -/
def ceL (ss : List ByteArray) (Z : Nat → Nat → Bool) (mods : List Mo) (k : Nat) (l : List Ce) : List Ce := l.filter fun c => ceB ss Z mods k c.mod c.name
/-- The prints that are seen. -/
def prL (ss : List ByteArray) (Z : Nat → Nat → Bool) (k : Nat) (l : List (ByteArray × Int)) : List (ByteArray × Int) := l.filter fun p => seesB Z (Lat.indexI ss p.1) k
theorem filter_yes {α : Type} {p : α → Bool} {l : List α} {j : Nat} {y : α} (h : l[j]? = some y) (hp : p y = true) : (l.take (j + 1)).filter p = (l.take j).filter p ++ [y] := by
  rw [take_snoc h, List.filter_append]
  simp [hp]
theorem filter_no {α : Type} {p : α → Bool} {l : List α} {j : Nat} {y : α} (h : l[j]? = some y) (hp : p y = false) : (l.take (j + 1)).filter p = (l.take j).filter p := by
  rw [take_snoc h, List.filter_append]
  simp [hp]
theorem filter_le {α : Type} (p : α → Bool) (l : List α) (j : Nat) : ((l.take j).filter p).length ≤ l.length := by
  have h1 := List.length_filter_le p (l.take j)
  have h2 := List.length_take_le j l
  have h3 : (l.take j).length ≤ l.length := by rw [List.length_take]; omega
  omega
end Lw

set_option maxHeartbeats 2000000 in
set_option maxRecDepth 100000 in
theorem lcells_err (w : World) (vn vl vm vc : Value) (ss : List ByteArray) (G : Nat) (L : Nat → Nat) (Z : Nat → Nat → Bool) (level : Int) (hS : Strs w vn ss) (hR : Rag w vl G L Z) (hE : Lw.chE ss G L Z level ≠ 0) :
    Calls Try.prog 33 #[.agg #[vn, vl], vm, vc, .int .i64 level] w fun e w' => e = .returned (.tuple #[.slice none 0 0, .int .i64 (Lw.chE ss G L Z level)]) ∧ Below w.heap.size w w' := by
  have HB := hide (boxBelow w (.cells #[vn, vl] 25))
  have HC := hide (lcheck_any _ vn vl ss G L Z level (hS.below HB.out) (hR.below HB.out))
  obtain ⟨an, bn, on, cn, rfl, -⟩ := hS
  obtain ⟨ga, gb, go, gc, A, RB, RO, C, rfl, -⟩ := hR
  have q0 := cellBox0 w (.slice an ss.length cn) (.slice ga G gc) 25
  have q1 := cellBox1 w (.slice an ss.length cn) (.slice ga G gc) 25
  obtain ⟨E, hEE⟩ : ∃ E, E = Lw.chE ss G L Z level := ⟨_, rfl⟩
  rw [← hEE] at HC hE ⊢
  have hz := bne_zero_true hE
  clear hEE hE
  go_enter Try.func33, Try.ntmps33
  go_wp2_with fail
  refine HC.out.mono ?_
  rintro e w1 ⟨rfl, hb1⟩
  have HB1 := hide (up HB.out hb1)
  clear hb1
  go_wp2_with fail
  go_ret2
  exact ⟨rfl, HB1.out⟩

set_option maxHeartbeats 2000000 in
set_option maxRecDepth 100000 in
theorem lprints_err (w : World) (vn vl vc : Value) (ss : List ByteArray) (G : Nat) (L : Nat → Nat) (Z : Nat → Nat → Bool) (level : Int) (hS : Strs w vn ss) (hR : Rag w vl G L Z) (hE : Lw.chE ss G L Z level ≠ 0) :
    Calls Try.prog 34 #[.agg #[vn, vl], vc, .int .i64 level] w fun e w' => e = .returned (.tuple #[.slice none 0 0, .int .i64 (Lw.chE ss G L Z level)]) ∧ Below w.heap.size w w' := by
  have HB := hide (boxBelow w (.cells #[vn, vl] 25))
  have HC := hide (lcheck_any _ vn vl ss G L Z level (hS.below HB.out) (hR.below HB.out))
  obtain ⟨an, bn, on, cn, rfl, -⟩ := hS
  obtain ⟨ga, gb, go, gc, A, RB, RO, C, rfl, -⟩ := hR
  have q0 := cellBox0 w (.slice an ss.length cn) (.slice ga G gc) 25
  have q1 := cellBox1 w (.slice an ss.length cn) (.slice ga G gc) 25
  obtain ⟨E, hEE⟩ : ∃ E, E = Lw.chE ss G L Z level := ⟨_, rfl⟩
  rw [← hEE] at HC hE ⊢
  have hz := bne_zero_true hE
  clear hEE hE
  go_enter Try.func34, Try.ntmps34
  go_wp2_with fail
  refine HC.out.mono ?_
  rintro e w1 ⟨rfl, hb1⟩
  have HB1 := hide (up HB.out hb1)
  clear hb1
  go_wp2_with fail
  go_ret2
  exact ⟨rfl, HB1.out⟩

set_option maxHeartbeats 4000000 in
set_option maxRecDepth 100000 in
theorem lcells_ok (m : Nat) (w : World) (vn vl vm vc : Value) (ss : List ByteArray) (G : Nat) (L : Nat → Nat) (Z : Nat → Nat → Bool) (mods : List Mo) (cells : List Ce) (k : Nat) (hS : Strs w vn ss) (hR : Rag w vl G L Z) (h : MosAt w m vm mods) (hl : mods.length ≤ 1048576) (hv : ∀ y ∈ mods, y.vars.length ≤ 1048576)
    (hC : CesAt w vc cells) (hcl : cells.length ≤ 1048576) (hcs : ∀ c ∈ cells, c.mod.size ≤ maxLen ∧ c.name.size ≤ maxLen) (hE : Lw.chE ss G L Z k = 0) :
    Calls Try.prog 33 #[.agg #[vn, vl], vm, vc, .int .i64 k] w fun e w' => ∃ v, e = .returned (.tuple #[v, .int .i64 0]) ∧ Hid (OwnK CeC w' w.heap.size 68 3 v (Lw.ceL ss Z mods k cells) ∧ Below w.heap.size w w') := by
  obtain ⟨h0, k', hk, hkn⟩ := Lw.chE_ok hE
  obtain rfl : k = k' := by omega
  have hok := Lat.ok_of h0
  have HG := hide (rag_grid hR hok.pos hok.square)
  have HB := hide (boxBelow w (.cells #[vn, vl] 25))
  have HBX := hide (block_new w (.cells #[vn, vl] 25))
  have HC := hide (lcheck_any _ vn vl ss G L Z k (hS.below HB.out) (hR.below HB.out))
  rw [hE] at HC
  have HS := hide hS
  have HM := hide h
  have HLO := hide (fun wx (hb : Below w.heap.size w wx) (hvl : ∃ a n c, vl = .slice a n c) => levelsOf_any m wx vn vl vm ss mods (hS.below hb) (h.below hb) hl hv hvl)
  have HCS := hide hcs
  have HKN := hide hkn
  obtain ⟨ca, cb, co, cc, rfl, hca, hcbig, hcel⟩ := hC
  have HCEL := hide hcel
  have HCA := hide hca
  obtain ⟨n, hn⟩ : ∃ n, n = cells.length := ⟨_, rfl⟩
  have HN := hide hn
  rw [← hn] at hca hcbig hcl HCA ⊢
  have HCL := hide hcl
  have HVN : Hid (∃ ad m c, vn = .slice ad m c) := hide (by obtain ⟨an, bn, on, cn, rfl, -⟩ := hS; exact ⟨_, _, _, rfl⟩)
  have HVL : Hid (∃ ad m c, vl = .slice ad m c) := hide (by obtain ⟨ga, gb, go, gc, A, RB, RO, C, rfl, -⟩ := hR; exact ⟨_, _, _, rfl⟩)
  obtain ⟨ad, nn, nc, hvn⟩ := HVN.out
  obtain ⟨bd, ln, lc, hvl⟩ := HVL.out
  obtain ⟨N, hNw⟩ : ∃ N, N = w.heap.size := ⟨_, rfl⟩
  have HNE := hide hNw
  obtain ⟨o, ho⟩ : ∃ o : ByteArray → ByteArray → Option Int, o = fun x y => (Lw.lv mods x y).map (Lat.indexI ss) := ⟨_, rfl⟩
  have HO := hide ho
  rw [← ho] at HLO
  clear hS hR h hl hv hcel hca hn hok h0 hE hk hkn hcs ho hcl
  subst hvn hvl
  have q0 := cellBox0 w (.slice ad nn nc) (.slice bd ln lc) 25
  have q1 := cellBox1 w (.slice ad nn nc) (.slice bd ln lc) 25
  go_enter Try.func33, Try.ntmps33
  go_wp2_with fail
  refine HC.out.mono ?_
  rintro e w1 ⟨rfl, hb1⟩
  have HB1 := hide (up HB.out hb1)
  have HBX1 : Hid (w1.heap[w.heap.size]? = some (.cells #[.slice ad nn nc, .slice bd ln lc] 25 (0, 0))) := hide (by rw [hb1.block _ (block_lt HBX.out)]; exact HBX.out)
  clear hb1 q0 q1 HC
  have q0 := (block_at HBX1.out 0).trans rfl
  have q1 := (block_at HBX1.out 1).trans rfl
  go_wp2_with fail
  refine (HLO.out w1 HB1.out HVL.out).mono ?_
  rintro e w2 ⟨rfl, hp2⟩
  obtain ⟨bm, hbm⟩ : ∃ b, b = w1.heap.size + 1 := ⟨_, rfl⟩
  obtain ⟨nm, hnm⟩ : ∃ b, b = 1048576 * mods.length := ⟨_, rfl⟩
  rw [← hbm, ← hnm] at hp2
  rw [← hbm]
  have HI2 : Hid (CeI w w2 (.slice ad nn nc) (.slice bd ln lc) bm nm o (.slice none 0 0) []) := hide ⟨OwnK.nil _ _ _ _, hp2.out.1, up HB1.out hp2.out.2, by rw [hp2.out.2.block _ (block_lt HBX1.out)]; exact HBX1.out⟩
  clear hp2 q0 q1 hbm hnm HLO HB1 HBX1
  rw [← hNw]
  clear hNw
  go_wp2_with fail
  go_loopw [12, 28] (fun v i wx => ∃ j : Nat, j ≤ n ∧ i = .int .i64 j ∧ Hid (CeI w wx (.slice ad nn nc) (.slice bd ln lc) bm nm o v (Lw.ceL ss Z mods k (cells.take j)))) (fun _ i _ => n - (intOf i).toNat)
  case atStart => exact ⟨0, Nat.zero_le _, rfl, HI2⟩
  case round =>
    obtain ⟨j, hj, rfl, HI⟩ := hrel
    by_cases hjl : j < n
    · obtain ⟨c, hc⟩ : ∃ f, cells[j]? = some f := ⟨_, List.getElem?_eq_getElem (by have := HN.out; omega)⟩
      obtain ⟨hi, g0, g1, g2⟩ := HCEL.out j c hc
      obtain rfl := HCA.out (by omega)
      have HCJ := hide hc
      obtain ⟨hs0, hs1⟩ := HCS.out c (List.mem_of_getElem? hc)
      replace g0 := cellUp g0 HI.out.bel
      replace g1 := cellUp g1 HI.out.bel
      replace g2 := cellUp g2 HI.out.bel
      obtain ⟨W3, hW3⟩ : ∃ W, W = wr.alloc (.cells #[.string c.mod, .string c.name, .int .i64 c.val] 68) := ⟨_, rfl⟩
      have hb3 : Below wr.heap.size wr W3 := by rw [hW3]; exact boxBelow _ _
      have HE3 : Hid (W3.heap[wr.heap.size]? = some (.cells #[.string c.mod, .string c.name, .int .i64 c.val] 68 (0, 0))) := hide (by rw [hW3]; exact block_new _ _)
      have HI3 := hide (HI.out.below hb3)
      have LK := HI3.out.map.lookOk hs0 hs1
      have c0 := (block_at HE3.out 0).trans rfl
      have c1 := (block_at HE3.out 1).trans rfl
      have l0 := (block_at HI3.out.box 0).trans rfl
      have l1 := (block_at HI3.out.box 1).trans rfl
      rw [← HNE.out] at l0 l1
      have HLEN := hide (Lw.filter_le (fun c => Lw.ceB ss Z mods k c.mod c.name) cells j)
      have HV : Hid (Lw.ceB ss Z mods k c.mod c.name = Lw.oB Z k (o c.mod c.name)) := hide (by
        rw [HO.out]
        exact Lw.ceB_eq _ _ _ _ _ _)
      have HRG : Hid (∀ a, o c.mod c.name = some a → (a = -1 ∨ ∃ i : Nat, a = i ∧ i < ss.length)) := hide (fun a ha => by
        rw [HO.out] at ha
        obtain ⟨t, _, rfl⟩ := Option.map_eq_some_iff.1 ha
        exact Lw.indexI_range ss t)
      clear hc hi hs0 hs1 hb3
      cases hoc : o c.mod c.name with
      | none =>
        rw [hoc] at LK HV
        simp only [Option.getD_none, Option.isSome_none] at LK
        clear hoc
        rw [hW3] at LK c0 c1 l0 l1
        go_wp2_with fail
        rw [← hW3]
        go_roundw
        case rel => exact ⟨j + 1, by omega, by go_num, hide (by
          unfold Lw.ceL
          rw [Lw.filter_no HCJ.out HV.out]
          exact HI3.out)⟩
        case measure => simp [intOf]; omega
      | some a =>
        rw [hoc] at LK HV HRG
        replace HV : Hid (Lw.ceB ss Z mods k c.mod c.name = Lw.seesB Z a k) := HV
        simp only [Option.getD_some, Option.isSome_some] at LK
        have HSE := hide (lsees_any W3 (.slice ad nn nc) (.slice bd ln lc) ss.length Z a k (HG.out.below HI3.out.bel) (HRG.out a rfl) HKN.out HVN.out)
        clear hoc
        generalize Lw.seesB Z a k = sb at *
        rw [hW3] at LK c0 c1 l0 l1
        obtain ⟨wo, rfl⟩ : ∃ wo, wo = wr := ⟨_, rfl⟩
        go_wp2_with fail
        rw [← hW3]
        clear LK c0 c1 l0 l1 hW3
        refine HSE.out.mono ?_
        rintro e w4 ⟨rfl, hb4⟩
        have HI4 := hide (HI3.out.below hb4)
        have HE4 : Hid (w4.heap[wo.heap.size]? = some (.cells #[.string c.mod, .string c.name, .int .i64 c.val] 68 (0, 0))) := hide (by rw [hb4.block _ (block_lt HE3.out)]; exact HE3.out)
        clear hb4
        cases sb with
        | false =>
          go_wp2_with fail
          go_roundw
          case rel => exact ⟨j + 1, by omega, by go_num, hide (by
            unfold Lw.ceL
            rw [Lw.filter_no HCJ.out HV.out]
            exact HI4.out)⟩
          case measure => simp [intOf]; omega
        | true =>
          have c0 := (block_at HE4.out 0).trans rfl
          have c1 := (block_at HE4.out 1).trans rfl
          have c2 := (block_at HE4.out 2).trans rfl
          go_wp2_with (first
            | (at_builtin; refine wpList_append_K (At := CeC) rfl _ _ 65 68 3 40 _ rfl Try.underlying65 infoCe (by decide) (by decide) (by decide) w.heap.size _ _ rfl (HI4.out.own.below (boxBelow _ _)) _ _ [c] rfl (OwnK.one _ _ rfl (CeC.one (d := c) rfl) rfl) (by have h1 := HLEN.out; have h2 := HN.out; have h3 := HCL.out; simp only [List.length_singleton]; unfold Lw.ceL; omega) (Nat.le_trans HI4.out.bel.size (boxBelow _ _).size) ?_; intro v6 w6 hown6 hgrow6; have HP := hide (HI4.out.push hown6 hgrow6); clear hown6 hgrow6)
            | fail)
          go_roundw
          case rel => exact ⟨j + 1, by omega, by go_num, hide (by
            unfold Lw.ceL
            rw [Lw.filter_yes HCJ.out HV.out]
            exact HP.out)⟩
          case measure => simp [intOf]; omega
    · obtain rfl : j = n := by omega
      go_wp2_with fail
      go_ret2
      refine ⟨_, rfl, hide ⟨?_, HI.out.bel⟩⟩
      have h1 := HI.out.own
      rw [HN.out, List.take_length] at h1
      exact h1

set_option maxHeartbeats 4000000 in
set_option maxRecDepth 100000 in
theorem lprints_ok (w : World) (vn vl vc : Value) (ss : List ByteArray) (G : Nat) (L : Nat → Nat) (Z : Nat → Nat → Bool) (cells : List (ByteArray × Int)) (k : Nat) (hS : Strs w vn ss) (hR : Rag w vl G L Z)
    (hC : PrsAt w vc cells) (hcl : cells.length ≤ 1048576) (hE : Lw.chE ss G L Z k = 0) :
    Calls Try.prog 34 #[.agg #[vn, vl], vc, .int .i64 k] w fun e w' => ∃ v, e = .returned (.tuple #[v, .int .i64 0]) ∧ Hid (OwnK PrC w' w.heap.size 72 2 v (Lw.prL ss Z k cells) ∧ Below w.heap.size w w') := by
  obtain ⟨h0, k', hk, hkn⟩ := Lw.chE_ok hE
  obtain rfl : k = k' := by omega
  have hok := Lat.ok_of h0
  have HG := hide (rag_grid hR hok.pos hok.square)
  have HB := hide (boxBelow w (.cells #[vn, vl] 25))
  have HBX := hide (block_new w (.cells #[vn, vl] 25))
  have HC := hide (lcheck_any _ vn vl ss G L Z k (hS.below HB.out) (hR.below HB.out))
  rw [hE] at HC
  have HS := hide hS
  have HKN := hide hkn
  obtain ⟨ca, cb, co, cc, rfl, hca, hcbig, hcel⟩ := hC
  have HCEL := hide hcel
  have HCA := hide hca
  obtain ⟨n, hn⟩ : ∃ n, n = cells.length := ⟨_, rfl⟩
  have HN := hide hn
  rw [← hn] at hca hcbig hcl HCA ⊢
  have HCL := hide hcl
  have HVN : Hid (∃ ad m c, vn = .slice ad m c) := hide (by obtain ⟨an, bn, on, cn, rfl, -⟩ := hS; exact ⟨_, _, _, rfl⟩)
  have HVL : Hid (∃ ad m c, vl = .slice ad m c) := hide (by obtain ⟨ga, gb, go, gc, A, RB, RO, C, rfl, -⟩ := hR; exact ⟨_, _, _, rfl⟩)
  obtain ⟨ad, nn, nc, hvn⟩ := HVN.out
  obtain ⟨bd, ln, lc, hvl⟩ := HVL.out
  obtain ⟨N, hNw⟩ : ∃ N, N = w.heap.size := ⟨_, rfl⟩
  have HNE := hide hNw
  clear hS hR hcel hca hn hok h0 hE hk hkn hcl
  subst hvn hvl
  have q0 := cellBox0 w (.slice ad nn nc) (.slice bd ln lc) 25
  have q1 := cellBox1 w (.slice ad nn nc) (.slice bd ln lc) 25
  go_enter Try.func34, Try.ntmps34
  go_wp2_with fail
  refine HC.out.mono ?_
  rintro e w1 ⟨rfl, hb1⟩
  have HI1 : Hid (PrI w w1 (.slice ad nn nc) (.slice bd ln lc) (.slice none 0 0) []) := hide ⟨OwnK.nil _ _ _ _, up HB.out hb1, by rw [hb1.block _ (block_lt HBX.out)]; exact HBX.out⟩
  clear hb1 q0 q1 HC
  rw [← hNw]
  clear hNw
  go_wp2_with fail
  go_loopw [9, 20] (fun v i wx => ∃ j : Nat, j ≤ n ∧ i = .int .i64 j ∧ Hid (PrI w wx (.slice ad nn nc) (.slice bd ln lc) v (Lw.prL ss Z k (cells.take j)))) (fun _ i _ => n - (intOf i).toNat)
  case atStart => exact ⟨0, Nat.zero_le _, rfl, HI1⟩
  case round =>
    obtain ⟨j, hj, rfl, HI⟩ := hrel
    by_cases hjl : j < n
    · obtain ⟨c, hc⟩ : ∃ f, cells[j]? = some f := ⟨_, List.getElem?_eq_getElem (by have := HN.out; omega)⟩
      obtain ⟨g0, g1⟩ := HCEL.out j c hc
      obtain rfl := HCA.out (by omega)
      have HCJ := hide hc
      replace g0 := cellUp g0 HI.out.bel
      replace g1 := cellUp g1 HI.out.bel
      obtain ⟨W3, hW3⟩ : ∃ W, W = wr.alloc (.cells #[.string c.1, .int .i64 c.2] 72) := ⟨_, rfl⟩
      have hb3 : Below wr.heap.size wr W3 := by rw [hW3]; exact boxBelow _ _
      have HE3 : Hid (W3.heap[wr.heap.size]? = some (.cells #[.string c.1, .int .i64 c.2] 72 (0, 0))) := hide (by rw [hW3]; exact block_new _ _)
      have HI3 := hide (HI.out.below hb3)
      have HLEN := hide (Lw.filter_le (fun p => Lw.seesB Z (Lat.indexI ss p.1) k) cells j)
      have HNU := hide (fun q os => lnumber_any (gn W3 q os) (.slice ad nn nc) (.slice bd ln lc) ss c.1 (HS.out.below (up HI3.out.bel (below_gn W3 q os))))
      have HSE := hide (fun q os => lsees_any (gn W3 q os) (.slice ad nn nc) (.slice bd ln lc) ss.length Z (Lat.indexI ss c.1) k (HG.out.below (up HI3.out.bel (below_gn W3 q os))) (Lw.indexI_range ss c.1) HKN.out HVN.out)
      clear hc hb3
      obtain ⟨sb, hsb⟩ : ∃ sb, sb = Lw.seesB Z (Lat.indexI ss c.1) k := ⟨_, rfl⟩
      have HV := hide hsb
      rw [← hsb] at HSE
      clear hsb
      generalize Lat.indexI ss c.1 = ix at HNU HSE
      obtain ⟨wo, rfl⟩ : ∃ wo, wo = wr := ⟨_, rfl⟩
      go_wp2_with fail
      rw [← hW3]
      clear hW3 g0 g1
      have c0 := cell_gn ((block_at HE3.out 0).trans rfl)
      have l0 := (block_at HI3.out.box 0).trans rfl
      have l1 := (block_at HI3.out.box 1).trans rfl
      rw [← HNE.out] at l0 l1
      replace l0 := cell_gn l0
      replace l1 := cell_gn l1
      refine wp_region_quiet_gn (by kernel_rfl) (by kernel_rfl) ?_
      repeat (quiet_step (first | (exact Calls.gn_of (HNU.out _ _)) | (exact Calls.gn_of (HSE.out _ _))))
      refine wpQuiet_nil ?_
      intro w4 hw'
      obtain ⟨⟨nq, osq⟩, hw''⟩ := hw'
      have hb4 : Below W3.heap.size W3 w4 := by rw [hw'']; exact below_gn W3 nq osq
      have HI4 := hide (HI3.out.below hb4)
      have HE4 : Hid (w4.heap[wo.heap.size]? = some (.cells #[.string c.1, .int .i64 c.2] 72 (0, 0))) := hide (by rw [hb4.block _ (block_lt HE3.out)]; exact HE3.out)
      clear hb4 hw'' c0 l0 l1 HNU HSE
      cases sb with
      | false =>
        go_wp2_with fail
        go_roundw
        case rel => exact ⟨j + 1, by omega, by go_num, hide (by
          unfold Lw.prL
          rw [Lw.filter_no HCJ.out HV.out.symm]
          exact HI4.out)⟩
        case measure => simp [intOf]; omega
      | true =>
        have c0 := (block_at HE4.out 0).trans rfl
        have c1 := (block_at HE4.out 1).trans rfl
        go_wp2_with (first
          | (at_builtin; refine wpList_append_K (At := PrC) rfl _ _ 66 72 2 24 _ rfl Try.underlying66 infoPr (by decide) (by decide) (by decide) w.heap.size _ _ rfl (HI4.out.own.below (boxBelow _ _)) _ _ [c] rfl (OwnK.one _ _ rfl (PrC.one (d := c) rfl) rfl) (by have h1 := HLEN.out; have h2 := HN.out; have h3 := HCL.out; simp only [List.length_singleton]; unfold Lw.prL; omega) (Nat.le_trans HI4.out.bel.size (boxBelow _ _).size) ?_; intro v6 w6 hown6 hgrow6; have HP := hide (HI4.out.push hown6 hgrow6); clear hown6 hgrow6)
          | fail)
        go_roundw
        case rel => exact ⟨j + 1, by omega, by go_num, hide (by
          unfold Lw.prL
          rw [Lw.filter_yes HCJ.out HV.out.symm]
          exact HP.out)⟩
        case measure => simp [intOf]; omega
    · obtain rfl : j = n := by omega
      go_wp2_with fail
      go_ret2
      refine ⟨_, rfl, hide ⟨?_, HI.out.bel⟩⟩
      have h1 := HI.out.own
      rw [HN.out, List.take_length] at h1
      exact h1

end Go.Proofs.Ytmhcameodlhloaa
