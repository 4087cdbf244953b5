/- LowSays' walk, over the contracts of both packages. -/
import Derived.Test.YtmhcameodlhloaaME
import Derived.Test.YtmhcameodlhloaaCF
import Derived.Test.YtmhcameodlhloaaRG
namespace Go.Proofs.Ytmhcameodlhloaa
open Go.RowKit

/-- LowSays' memory: two rows of its own, and the lattice's box. -/
structure LoI (w wx : World) (vn vl : Value) (v1 : Value) (l1 : List Ce) (v2 : Value) (l2 : List (ByteArray × Int)) : Prop where
  own1 : OwnK CeC wx w.heap.size 68 3 v1 l1
  own2 : OwnK PrC wx w.heap.size 72 2 v2 l2
  bel : Below w.heap.size w wx
  box : wx.heap[w.heap.size]? = some (.cells #[vn, vl] 25 (0, 0))
theorem OwnK.other {α β : Type} {At : List Value → α → Prop} {Bt : List Value → β → Prop} {wx wy : World} {n n' e e' k k' : Nat} {v v' : Value} {l : List α} {l' : List β} {o : Obj} (h : OwnK At wx n e k v l) (h' : OwnK Bt wx n' e' k' v' l') (hne : e ≠ e') (hg : (wx.alloc o).grownBy wy v'.ownBlock) : OwnK At wy n e k v l := by
  obtain ⟨cs, ⟨h0, h1⟩, k1, k2, k3, k4⟩ := h
  refine ⟨cs, ⟨h0, ?_⟩, k1, k2, k3, k4⟩
  rcases h1 with ⟨rfl, h2⟩ | ⟨g, cap, cur, hv, hg', hh, hc⟩
  · exact Or.inl ⟨rfl, h2⟩
  · exact Or.inr ⟨g, cap, cur, hv, hg', row_other h' hg hh (fun cs fz e => by injection e with _ e; exact hne e), hc⟩
section
variable {w wx wy : World} {vn vl : Value} {v1 v2 : Value} {l1 : List Ce} {l2 : List (ByteArray × Int)}
theorem LoI.below (h : LoI w wx vn vl v1 l1 v2 l2) (hb : Below wx.heap.size wx wy) : LoI w wy vn vl v1 l1 v2 l2 :=
  ⟨h.own1.below hb, h.own2.below hb, up h.bel hb, by rw [hb.block _ (block_lt h.box)]; exact h.box⟩
theorem LoI.push1 {v' : Value} {c : Ce} {ob : Obj} (h : LoI w wx vn vl v1 l1 v2 l2) (hown : OwnK CeC wy w.heap.size 68 3 v' (l1 ++ [c])) (hg : (wx.alloc ob).grownBy wy v1.ownBlock) : LoI w wy vn vl v' (l1 ++ [c]) v2 l2 :=
  ⟨hown, h.own2.other h.own1 (by decide) hg, below_row h.bel h.own1 hg, row_other h.own1 hg h.box (fun cs fz e => by injection e with _ e; exact absurd e (by decide))⟩
theorem LoI.push2 {v' : Value} {c : ByteArray × Int} {ob : Obj} (h : LoI w wx vn vl v1 l1 v2 l2) (hown : OwnK PrC wy w.heap.size 72 2 v' (l2 ++ [c])) (hg : (wx.alloc ob).grownBy wy v2.ownBlock) : LoI w wy vn vl v1 l1 v' (l2 ++ [c]) :=
  ⟨h.own1.other h.own2 (by decide) hg, hown, below_row h.bel h.own2 hg, row_other h.own2 hg h.box (fun cs fz e => by injection e with _ e; exact absurd e (by decide))⟩
end
theorem OwnK.formL {α : Type} {At : List Value → α → Prop} {w : World} {n e k : Nat} {v : Value} {l : List α} (h : OwnK At w n e k v l) : ∃ a c, v = .slice a l.length c := by
  rcases h.shape with ⟨rfl, rfl⟩ | ⟨g, cap, rfl, _⟩
  · exact ⟨_, _, rfl⟩
  · exact ⟨_, _, rfl⟩
theorem CesAt.i64 {w : World} {v : Value} {l : List Ce} (h : CesAt w v l) : ∀ c ∈ l, I64 c.val := fun c hc => by
  obtain ⟨a, b, off, cap, e, h0, hl, h1⟩ := h
  obtain ⟨i, hi, rfl⟩ := List.mem_iff_getElem.1 hc
  exact (h1 i _ (List.getElem?_eq_getElem hi)).1
theorem ces_nil (w : World) : CesAt w (.slice none 0 0) [] := ⟨none, 0, 0, 0, rfl, fun h => absurd h (by simp), by simp, fun i x hx => absurd hx (by simp)⟩
theorem prs_nil (w : World) : PrsAt w (.slice none 0 0) [] := ⟨none, 0, 0, 0, rfl, fun h => absurd h (by simp), by simp, fun i x hx => absurd hx (by simp)⟩
theorem Lw.inB_in (n : Nat) (level : Int) : (decide (0 ≤ level) && decide (level ≤ (n : Int) - 1)) = Lat.inB n level := by
  unfold Lat.inB
  rw [Bool.eq_iff_iff]
  simp only [Bool.and_eq_true, decide_eq_true_eq]
  omega

set_option maxHeartbeats 4000000 in
set_option maxRecDepth 100000 in
theorem low_err (w : World) (vn vl vm vc vp : Value) (ss : List ByteArray) (G : Nat) (L : Nat → Nat) (Z : Nat → Nat → Bool) (level : Int) (hS : Strs w vn ss) (hR : Rag w vl G L Z) (hE : Lw.chE ss G L Z level ≠ 0) :
    Calls Try.prog 6 #[.agg #[vn, vl], vm, vc, vp, .int .i64 level] w fun e w' => e = .returned (.bool true) ∧ Below w.heap.size w w' := by
  have HB := hide (boxBelow w (.cells #[vn, vl] 25))
  have HBX := hide (block_new w (.cells #[vn, vl] 25))
  have HC := hide (rlattice_any _ vn vl ss G L Z (hS.below HB.out) (hR.below HB.out))
  have HCE := hide (fun wx (hb : Below w.heap.size w wx) => lcells_err wx vn vl vm vc ss G L Z level (hS.below hb) (hR.below hb) hE)
  have HPR := hide (fun wx (hb : Below w.heap.size w wx) => lprints_err wx vn vl vp ss G L Z level (hS.below hb) (hR.below hb) hE)
  obtain ⟨E, hEE⟩ : ∃ E, E = Lw.chE ss G L Z level := ⟨_, rfl⟩
  have HEE := hide hEE
  rw [← hEE] at HCE HPR hE
  obtain ⟨an, bn, on, cn, rfl, -, hln, -⟩ := hS
  obtain ⟨ga, gb, go, gc, A, RB, RO, C, rfl, -⟩ := hR
  obtain ⟨n, hn⟩ : ∃ n, n = ss.length := ⟨_, rfl⟩
  have HN := hide hn
  rw [← hn] at HB HBX HC HCE HPR hln ⊢
  clear hn hEE
  obtain ⟨E0, hE0⟩ : ∃ E, E = Lat.checkE ss G L Z := ⟨_, rfl⟩
  rw [← hE0] at HC
  have HE0 := hide hE0
  obtain ⟨N, hNw⟩ : ∃ N, N = w.heap.size := ⟨_, rfl⟩
  have HNE := hide hNw
  have HQ : Hid (∀ wx, Below (w.alloc (.cells #[.slice an n cn, .slice ga G gc] 25)).heap.size (w.alloc (.cells #[.slice an n cn, .slice ga G gc] 25)) wx → wx.cell? ⟨N, 0, none⟩ = some (.slice an n cn) ∧ wx.cell? ⟨N, 1, none⟩ = some (.slice ga G gc)) := hide (fun wx h => by
    rw [HNE.out]
    exact ⟨cellUp ((block_at HBX.out 0).trans rfl) h, cellUp ((block_at HBX.out 1).trans rfl) h⟩)
  have HHE := hide hE
  have hE' := bne_zero_true hE
  have hE'' : (E == 0) = false := by rw [beq_eq_false_iff_ne]; exact hE
  obtain ⟨q0, q1⟩ := HQ.out _ (Below.refl _ _)
  rw [hNw] at q0 q1
  clear hE0 hE
  go_enter Try.func6, Try.ntmps6
  go_wp2_with fail
  refine HC.out.mono ?_
  rintro e w1 ⟨rfl, hb1⟩
  have HB1 := hide hb1
  clear q0 q1 hb1
  rw [← hNw]
  clear hNw
  obtain ⟨q0, q1⟩ := HQ.out _ HB1.out
  by_cases h0 : E0 = 0
  · subst h0
    have hin : Hid (Lat.inB n level = false ∧ E = 1) := hide (by
      have h1 := HEE.out
      unfold Lw.chE at h1
      rw [if_pos HE0.out.symm, ← HN.out] at h1
      cases hi : Lat.inB n level with
      | false => rw [hi] at h1; exact ⟨rfl, h1⟩
      | true => rw [hi] at h1; exact absurd h1 HHE.out)
    go_wp2_with fail
    refine (in_any _ level 0 ((n : Int) - 1)).mono ?_
    rintro e w2 ⟨rfl, rfl⟩
    rw [Lw.inB_in, hin.out.1]
    obtain rfl := hin.out.2
    go_wp2_with fail
    refine (HCE.out _ (up HB.out HB1.out)).mono ?_
    rintro e w3 ⟨rfl, hb3⟩
    have HB3 := hide (up HB1.out hb3)
    clear hb3 q0 q1
    obtain ⟨q0, q1⟩ := HQ.out _ HB3.out
    go_wp2_with fail
    refine (HPR.out _ (up HB.out HB3.out)).mono ?_
    rintro e w4 ⟨rfl, hb4⟩
    have HB4 := hide (up HB3.out hb4)
    clear hb4 q0 q1
    go_wp2_with fail
    refine (eqC_same _ _ _ [] (ces_nil _) (ces_nil _)).mono ?_
    rintro e w5 ⟨rfl, hb5⟩
    have HB5 := hide (up HB4.out hb5)
    clear hb5
    go_wp2_with fail
    refine (eqP_same _ _ _ [] (prs_nil _) (prs_nil _)).mono ?_
    rintro e w6 ⟨rfl, hb6⟩
    have HB6 := hide (up HB5.out hb6)
    clear hb6
    go_wp2_with fail
    go_ret
    exact ⟨rfl, up HB.out HB6.out⟩
  · have he : E = E0 := by
      have h1 := HEE.out
      unfold Lw.chE at h1
      rw [if_neg (by rw [← HE0.out]; exact h0), ← HE0.out] at h1
      exact h1
    subst he
    go_wp2_with fail
    refine (HCE.out _ (up HB.out HB1.out)).mono ?_
    rintro e w3 ⟨rfl, hb3⟩
    have HB3 := hide (up HB1.out hb3)
    clear hb3 q0 q1
    obtain ⟨q0, q1⟩ := HQ.out _ HB3.out
    go_wp2_with fail
    refine (HPR.out _ (up HB.out HB3.out)).mono ?_
    rintro e w4 ⟨rfl, hb4⟩
    have HB4 := hide (up HB3.out hb4)
    clear hb4 q0 q1
    go_wp2_with fail
    refine (eqC_same _ _ _ [] (ces_nil _) (ces_nil _)).mono ?_
    rintro e w5 ⟨rfl, hb5⟩
    have HB5 := hide (up HB4.out hb5)
    clear hb5
    go_wp2_with fail
    refine (eqP_same _ _ _ [] (prs_nil _) (prs_nil _)).mono ?_
    rintro e w6 ⟨rfl, hb6⟩
    have HB6 := hide (up HB5.out hb6)
    clear hb6
    go_wp2_with fail
    go_ret
    exact ⟨rfl, up HB.out HB6.out⟩

set_option maxHeartbeats 4000000 in
set_option maxRecDepth 100000 in
theorem low_ok (m : Nat) (w : World) (vn vl vm vc vp : Value) (ss : List ByteArray) (G : Nat) (L : Nat → Nat) (Z : Nat → Nat → Bool) (mods : List Mo) (cells : List Ce) (prints : List (ByteArray × Int)) (k : Nat) (hS : Strs w vn ss) (hR : Rag w vl G L Z) (h : MosAt w m vm mods) (hl : mods.length ≤ 1048576) (hv : ∀ y ∈ mods, y.vars.length ≤ 1048576)
    (hC : CesAt w vc cells) (hcl : cells.length ≤ 1048576) (hcs : ∀ c ∈ cells, c.mod.size ≤ maxLen ∧ c.name.size ≤ maxLen) (hP : PrsAt w vp prints) (hpl : prints.length ≤ 1048576) (hE : Lw.chE ss G L Z k = 0) :
    Calls Try.prog 6 #[.agg #[vn, vl], vm, vc, vp, .int .i64 k] w fun e w' => e = .returned (.bool true) ∧ Below w.heap.size w w' := by
  obtain ⟨h0, k', hk, hkn⟩ := Lw.chE_ok hE
  obtain rfl : k = k' := by omega
  have hok := Lat.ok_of h0
  have HOK := hide hok
  have HG := hide (rag_grid hR hok.pos hok.square)
  have HB := hide (boxBelow w (.cells #[vn, vl] 25))
  have HBX := hide (block_new w (.cells #[vn, vl] 25))
  have HLA := hide (rlattice_any _ vn vl ss G L Z (hS.below HB.out) (hR.below HB.out))
  rw [h0] at HLA
  have HCE := hide (fun wx (hb : Below w.heap.size w wx) => lcells_ok m wx vn vl vm vc ss G L Z mods cells k (hS.below hb) (hR.below hb) (h.below hb) hl hv (hC.below hb) hcl hcs hE)
  have HPR := hide (fun wx (hb : Below w.heap.size w wx) => lprints_ok wx vn vl vp ss G L Z prints k (hS.below hb) (hR.below hb) (hP.below hb) hpl hE)
  have HLV := hide (fun wx (hb : Below w.heap.size w wx) c => rlevelOf_any m wx vm mods c (h.below hb))
  have HSE := hide (fun wx (hb : Below w.heap.size w wx) t => rseen_any wx vn vl ss Z t k (hS.below hb) (HG.out.below hb) hkn)
  have HI64 := hide hC.i64
  have hin : (decide ((0 : Int) ≤ k) && decide ((k : Int) ≤ (ss.length : Int) - 1)) = true := by
    simp only [Bool.and_eq_true, decide_eq_true_eq]
    omega
  obtain ⟨an, bn, on, cn, hvn, -, hln, -⟩ := hS
  obtain ⟨ga, gb, go, gc, A, RB, RO, C, hvl, -⟩ := hR
  obtain ⟨ca, cb, co, cc, hvc, hca, hcbig, hcel⟩ := hC
  obtain ⟨pa, pb, po, pc, hvp, hpa, hpbig, hpel⟩ := hP
  have HCEL := hide hcel
  have HCA := hide hca
  have HPEL := hide hpel
  have HPA := hide hpa
  obtain ⟨n, hn⟩ : ∃ n, n = ss.length := ⟨_, rfl⟩
  have HN := hide hn
  rw [← hn] at hvn hin hln
  obtain ⟨cn', hcn⟩ : ∃ n, n = cells.length := ⟨_, rfl⟩
  have HCN := hide hcn
  rw [← hcn] at hvc hcbig hcl HCA
  have HCL := hide hcl
  obtain ⟨pn, hpn⟩ : ∃ n, n = prints.length := ⟨_, rfl⟩
  have HPN := hide hpn
  rw [← hpn] at hvp hpbig hpl HPA
  have HPL := hide hpl
  subst hvn hvl hvc hvp
  obtain ⟨N, hNw⟩ : ∃ N, N = w.heap.size := ⟨_, rfl⟩
  have HNE := hide hNw
  have q0 := cellBox0 w (.slice an n cn) (.slice ga G gc) 25
  have q1 := cellBox1 w (.slice an n cn) (.slice ga G gc) 25
  clear h hl hv hcl hcs hpl hE h0 hk hkn hok hcel hca hpel hpa hn hcn hpn
  go_enter Try.func6, Try.ntmps6
  go_wp2_with fail
  refine HLA.out.mono ?_
  rintro e w1 ⟨rfl, hb1⟩
  have HI1 : Hid (LoI w w1 (.slice an n cn) (.slice ga G gc) (.slice none 0 0) [] (.slice none 0 0) []) := hide ⟨OwnK.nil _ _ _ _, OwnK.nil _ _ _ _, up HB.out hb1, by rw [hb1.block _ (block_lt HBX.out)]; exact HBX.out⟩
  clear hb1 q0 q1 HLA
  rw [← hNw]
  clear hNw
  have q0 := (block_at HI1.out.box 0).trans rfl
  have q1 := (block_at HI1.out.box 1).trans rfl
  rw [← HNE.out] at q0 q1
  go_wp2_with fail
  refine (in_any _ k 0 ((n : Int) - 1)).mono ?_
  rintro e w2 ⟨rfl, hw2⟩
  subst hw2
  rw [hin]
  clear q0 q1
  go_wp2_with fail
  go_loopw [12, 39] (fun v i wx => ∃ j : Nat, j ≤ cn' ∧ i = .int .i64 j ∧ Hid (LoI w wx (.slice an n cn) (.slice ga G gc) v (Lw.ceL ss Z mods k (cells.take j)) (.slice none 0 0) [])) (fun _ i _ => cn' - (intOf i).toNat)
  case atStart => exact ⟨0, Nat.zero_le _, rfl, HI1⟩
  case round =>
    obtain ⟨j, hj, rfl, HI⟩ := hrel
    by_cases hjl : j < cn'
    · obtain ⟨c, hc⟩ : ∃ f, cells[j]? = some f := ⟨_, List.getElem?_eq_getElem (by have := HCN.out; omega)⟩
      obtain ⟨-, g0, g1, g2⟩ := HCEL.out j c hc
      obtain rfl := HCA.out (by omega)
      have HCJ := hide hc
      replace g0 := cellUp g0 HI.out.bel
      replace g1 := cellUp g1 HI.out.bel
      replace g2 := cellUp g2 HI.out.bel
      obtain ⟨W3, hW3⟩ : ∃ W, W = wr.alloc (.cells #[.string c.mod, .string c.name, .int .i64 c.val] 68) := ⟨_, rfl⟩
      have hb3 : Below wr.heap.size wr W3 := by rw [hW3]; exact boxBelow _ _
      have HE3 : Hid (W3.heap[wr.heap.size]? = some (.cells #[.string c.mod, .string c.name, .int .i64 c.val] 68 (0, 0))) := hide (by rw [hW3]; exact block_new _ _)
      have HI3 := hide (HI.out.below hb3)
      have HLEN := hide (Lw.filter_le (fun c => Lw.ceB ss Z mods k c.mod c.name) cells j)
      have HL3 := hide (fun q os => HLV.out (gn W3 q os) (up HI3.out.bel (below_gn W3 q os)) c)
      have HS3 := hide (fun q os => HSE.out (gn W3 q os) (up HI3.out.bel (below_gn W3 q os)) ((Lw.lv mods c.mod c.name).getD ⟨#[]⟩))
      obtain ⟨sb, hsb⟩ : ∃ sb, sb = Lw.ceB ss Z mods k c.mod c.name := ⟨_, rfl⟩
      have HV := hide hsb
      simp only [Lw.ceB_doc HOK.out] at HS3
      rw [← hsb] at HS3
      generalize (Lw.lv mods c.mod c.name).getD ⟨#[]⟩ = lvl at HL3 HS3
      clear hc hb3 hsb
      obtain ⟨wo, rfl⟩ : ∃ wo, wo = wr := ⟨_, rfl⟩
      go_wp2_with fail
      rw [← hW3]
      clear hW3 g0 g1 g2
      have c0 := cell_gn ((block_at HE3.out 0).trans rfl)
      have c1 := cell_gn ((block_at HE3.out 1).trans rfl)
      have c2 := cell_gn ((block_at HE3.out 2).trans rfl)
      have l0 := (block_at HI3.out.box 0).trans rfl
      have l1 := (block_at HI3.out.box 1).trans rfl
      rw [← HNE.out] at l0 l1
      replace l0 := cell_gn l0
      replace l1 := cell_gn l1
      refine wp_region_quiet_gn (by kernel_rfl) (by kernel_rfl) ?_
      repeat (quiet_step (first | (exact Calls.gn_of (HL3.out _ _)) | (exact Calls.gn_of (HS3.out _ _))))
      refine wpQuiet_nil ?_
      intro w4 hw'
      obtain ⟨⟨nq, osq⟩, hw''⟩ := hw'
      have hb4 : Below W3.heap.size W3 w4 := by rw [hw'']; exact below_gn W3 nq osq
      have HI4 := hide (HI3.out.below hb4)
      have HE4 : Hid (w4.heap[wo.heap.size]? = some (.cells #[.string c.mod, .string c.name, .int .i64 c.val] 68 (0, 0))) := hide (by rw [hb4.block _ (block_lt HE3.out)]; exact HE3.out)
      clear hb4 hw'' c0 c1 c2 l0 l1 HL3 HS3
      cases sb with
      | false =>
        go_wp2_with fail
        go_roundw
        case rel => exact ⟨j + 1, by omega, by go_num, hide (by
          unfold Lw.ceL
          rw [Lw.filter_no HCJ.out HV.out.symm]
          exact HI4.out)⟩
        case measure => simp [intOf]; omega
      | true =>
        have c0 := (block_at HE4.out 0).trans rfl
        have c1 := (block_at HE4.out 1).trans rfl
        have c2 := (block_at HE4.out 2).trans rfl
        go_wp2_with (first
          | (at_builtin; refine wpList_append_K (At := CeC) rfl _ _ 65 68 3 40 _ rfl Try.underlying65 infoCe (by decide) (by decide) (by decide) w.heap.size _ _ rfl (HI4.out.own1.below (boxBelow _ _)) _ _ [c] rfl (OwnK.one _ _ rfl (CeC.one (d := c) rfl) rfl) (by have h1 := HLEN.out; have h2 := HCN.out; have h3 := HCL.out; simp only [List.length_singleton]; unfold Lw.ceL; omega) (Nat.le_trans HI4.out.bel.size (boxBelow _ _).size) ?_; intro v6 w6 hown6 hgrow6; have HPU := hide (HI4.out.push1 hown6 hgrow6); clear hown6 hgrow6)
          | fail)
        go_roundw
        case rel => exact ⟨j + 1, by omega, by go_num, hide (by
          unfold Lw.ceL
          rw [Lw.filter_yes HCJ.out HV.out.symm]
          exact HPU.out)⟩
        case measure => simp [intOf]; omega
    · obtain rfl : j = cn' := by omega
      have HI5 : Hid (LoI w wr (.slice an n cn) (.slice ga G gc) u12 (Lw.ceL ss Z mods k cells) (.slice none 0 0) []) := hide (by
        have h1 := HI.out
        rw [HCN.out, List.take_length] at h1
        exact h1)
      clear HI
      obtain ⟨v1, hv1⟩ : ∃ v, v = u12 := ⟨_, rfl⟩
      rw [← hv1] at HI5 ⊢
      clear hv1
      obtain ⟨w5, rfl⟩ : ∃ wo, wo = wr := ⟨_, rfl⟩
      go_wp2_with fail
      go_loopw [13, 56] (fun v i wx => ∃ j : Nat, j ≤ pn ∧ i = .int .i64 j ∧ Hid (LoI w wx (.slice an n cn) (.slice ga G gc) v1 (Lw.ceL ss Z mods k cells) v (Lw.prL ss Z k (prints.take j)))) (fun _ i _ => pn - (intOf i).toNat)
      case atStart => exact ⟨0, Nat.zero_le _, rfl, HI5⟩
      case round =>
        obtain ⟨j, hj, rfl, HI⟩ := hrel
        by_cases hjl : j < pn
        · obtain ⟨c, hc⟩ : ∃ f, prints[j]? = some f := ⟨_, List.getElem?_eq_getElem (by have := HPN.out; omega)⟩
          obtain ⟨g0, g1⟩ := HPEL.out j c hc
          obtain rfl := HPA.out (by omega)
          have HCJ := hide hc
          replace g0 := cellUp g0 HI.out.bel
          replace g1 := cellUp g1 HI.out.bel
          obtain ⟨W3, hW3⟩ : ∃ W, W = wr.alloc (.cells #[.string c.1, .int .i64 c.2] 72) := ⟨_, rfl⟩
          have hb3 : Below wr.heap.size wr W3 := by rw [hW3]; exact boxBelow _ _
          have HE3 : Hid (W3.heap[wr.heap.size]? = some (.cells #[.string c.1, .int .i64 c.2] 72 (0, 0))) := hide (by rw [hW3]; exact block_new _ _)
          have HI3 := hide (HI.out.below hb3)
          have HLEN := hide (Lw.filter_le (fun p => Lw.seesB Z (Lat.indexI ss p.1) k) prints j)
          have HS3 := hide (HSE.out W3 HI3.out.bel c.1)
          obtain ⟨sb, hsb⟩ : ∃ sb, sb = Lw.seesB Z (Lat.indexI ss c.1) k := ⟨_, rfl⟩
          have HV := hide hsb
          rw [← hsb] at HS3
          have c0 := (block_at HE3.out 0).trans rfl
          have l0 := (block_at HI3.out.box 0).trans rfl
          have l1 := (block_at HI3.out.box 1).trans rfl
          rw [← HNE.out] at l0 l1
          rw [hW3] at c0 l0 l1
          clear hc hb3 hsb
          obtain ⟨wo, rfl⟩ : ∃ wo, wo = wr := ⟨_, rfl⟩
          go_wp2_with fail
          rw [← hW3]
          clear hW3 g0 g1 c0 l0 l1
          refine HS3.out.mono ?_
          rintro e w4 ⟨rfl, hb4⟩
          have HI4 := hide (HI3.out.below hb4)
          have HE4 : Hid (w4.heap[wo.heap.size]? = some (.cells #[.string c.1, .int .i64 c.2] 72 (0, 0))) := hide (by rw [hb4.block _ (block_lt HE3.out)]; exact HE3.out)
          clear hb4 HS3
          cases sb with
          | false =>
            go_wp2_with fail
            go_roundw
            case rel => exact ⟨j + 1, by omega, by go_num, hide (by
              unfold Lw.prL
              rw [Lw.filter_no HCJ.out HV.out.symm]
              exact HI4.out)⟩
            case measure => simp [intOf]; omega
          | true =>
            have c0 := (block_at HE4.out 0).trans rfl
            have c1 := (block_at HE4.out 1).trans rfl
            go_wp2_with (first
              | (at_builtin; refine wpList_append_K (At := PrC) rfl _ _ 66 72 2 24 _ rfl Try.underlying66 infoPr (by decide) (by decide) (by decide) w.heap.size _ _ rfl (HI4.out.own2.below (boxBelow _ _)) _ _ [c] rfl (OwnK.one _ _ rfl (PrC.one (d := c) rfl) rfl) (by have h1 := HLEN.out; have h2 := HPN.out; have h3 := HPL.out; simp only [List.length_singleton]; unfold Lw.prL; omega) (Nat.le_trans HI4.out.bel.size (boxBelow _ _).size) ?_; intro v6 w6 hown6 hgrow6; have HPU := hide (HI4.out.push2 hown6 hgrow6); clear hown6 hgrow6)
              | fail)
            go_roundw
            case rel => exact ⟨j + 1, by omega, by go_num, hide (by
              unfold Lw.prL
              rw [Lw.filter_yes HCJ.out HV.out.symm]
              exact HPU.out)⟩
            case measure => simp [intOf]; omega
        · obtain rfl : j = pn := by omega
          have HI6 : Hid (LoI w wr (.slice an n cn) (.slice ga G gc) v1 (Lw.ceL ss Z mods k cells) u13 (Lw.prL ss Z k prints)) := hide (by
            have h1 := HI.out
            rw [HPN.out, List.take_length] at h1
            exact h1)
          clear HI
          have l0 := (block_at HI6.out.box 0).trans rfl
          have l1 := (block_at HI6.out.box 1).trans rfl
          rw [← HNE.out] at l0 l1
          go_wp2_with fail
          refine (HCE.out _ HI6.out.bel).mono ?_
          rintro e w7 ⟨va, rfl, hp7⟩
          have HA7 := hide hp7.out.1
          have HI7 := hide (HI6.out.below hp7.out.2)
          have HLC : Hid ((Lw.ceL ss Z mods k cells).length ≤ 16777216 ∧ (Lw.prL ss Z k prints).length ≤ 16777216 ∧ ∀ c ∈ Lw.ceL ss Z mods k cells, I64 c.val) := hide (by
            have h1 := List.length_filter_le (fun c => Lw.ceB ss Z mods k c.mod c.name) cells
            have h2 := List.length_filter_le (fun p => Lw.seesB Z (Lat.indexI ss p.1) k) prints
            have h3 := HCN.out
            have h4 := HPN.out
            have h5 := HCL.out
            have h6 := HPL.out
            refine ⟨by unfold Lw.ceL; omega, by unfold Lw.prL; omega, fun c hc => HI64.out c (List.mem_filter.1 hc).1⟩)
          clear hp7 l0 l1
          have l0 := (block_at HI7.out.box 0).trans rfl
          have l1 := (block_at HI7.out.box 1).trans rfl
          rw [← HNE.out] at l0 l1
          go_wp2_with fail
          refine (HPR.out _ HI7.out.bel).mono ?_
          rintro e w8 ⟨vb, rfl, hp8⟩
          have HB8 := hide hp8.out.1
          have HA8 := hide (HA7.out.below hp8.out.2)
          have HI8 := hide (HI7.out.below hp8.out.2)
          clear hp8 l0 l1
          go_wp2_with fail
          refine (eqC_same _ _ _ _ (HA8.out.ces HLC.out.2.2 HLC.out.1) (HI8.out.own1.ces HLC.out.2.2 HLC.out.1)).mono ?_
          rintro e w9 ⟨rfl, hb9⟩
          have HB9 := hide (HB8.out.below hb9)
          have HI9 := hide (HI8.out.below hb9)
          clear hb9
          go_wp2_with fail
          refine (eqP_same _ _ _ _ (HB9.out.prs HLC.out.2.1) (HI9.out.own2.prs HLC.out.2.1)).mono ?_
          rintro e w10 ⟨rfl, hb10⟩
          have HI10 := hide (HI9.out.below hb10)
          clear hb10
          go_wp2_with fail
          go_ret
          exact ⟨rfl, HI10.out.bel⟩

end Go.Proofs.Ytmhcameodlhloaa
