/- NamesSays' walk, over the contracts of both packages. -/
import Derived.Test.YtholefgckcoklaaGreatDoorBNR
import Derived.Test.YtholefgckcoklaaGreatDoorBZBF
import Derived.Test.YtholefgckcoklaaGreatDoorBZBN
import Derived.Test.YtholefgckcoklaaGreatDoorBZBG
namespace Go.Proofs.YtholefgckcoklaaGreatDoor
open Go.RowKit
theorem dgs_nil (w : World) : DgsAt w (.slice none 0 0) [] := (OwnK.nil (At := DgC) w 0 43 3).dgs (by simp)
theorem Nm.once_le (l : List Dg) (h : l.length ≤ 16777216) : (Nm.once l).length ≤ 9223372036854775807 := by
  have := once_len l
  omega
theorem Nm.thE_mo {e0 : Int} {m : Nat} {x : Mo} {known : List Mo} (h : Nm.thE e0 m x known = 0) : Lat.moE m x = 0 := by
  unfold Nm.thE at h
  by_cases h0 : e0 = 0
  · rw [if_pos h0] at h
    by_cases h1 : Lat.moE m x = 0
    · exact h1
    · rw [if_neg h1] at h; exact absurd h h1
  · rw [if_neg h0] at h; exact absurd h h0
set_option maxHeartbeats 4000000 in
set_option maxRecDepth 100000 in
theorem names_walk (m : Nat) (w : World) (vn vl vi vv vf vk : Value) (ss : List ByteArray) (G : Nat) (L : Nat → Nat) (Z : Nat → Nat → Bool) (x : Mo) (known : List Mo) (k : Int) (call : ByteArray) (hS : Strs w vn ss) (hR : Rag w vl G L Z)
    (h : MoAt w m (.agg #[.string x.name, vi, vv, vf]) x) (hC : MoCap w vi vf) (hK : MosAt w m vk known) (hw : moW m x ≤ 1048576) (hks : ∀ y ∈ known, moW m y ≤ 1048576) (ht : Tab w) (hc : call.size ≤ maxLen) :
    Calls Tryz.prog 4 #[.agg #[vn, vl], .agg #[.string x.name, vi, vv, vf], vk, .int .i64 k, .string call] w fun e w' => e = .returned (.bool true) ∧ Below w.heap.size w w' := by
  have hlens : x.imports.length ≤ 1048576 ∧ x.vars.length ≤ 1048576 ∧ x.funs.length ≤ 1048576 := by
    have a1 := Nm.strs_len x.imports
    have a2 := Nm.vas_len x.vars
    have a3 := Nm.fus_len m x.funs
    unfold moW at hw
    omega
  obtain ⟨E, hE⟩ : ∃ E, E = Nm.thE (Lat.checkE ss G L Z) m x known := ⟨_, rfl⟩
  have HTH := hide (fun wx (hb : Below w.heap.size w wx) => things_any m wx vn vl vi vv vf vk ss G L Z x known (hS.below hb) (hR.below hb) (h.below hb) (hK.below hb) hw hks (ht.below hb))
  have HCF := hide (fun wx (hb : Below w.heap.size w wx) => checkForms_any m wx vn vl vi vv vf vk ss G L Z x known (hS.below hb) (hR.below hb) (h.below hb) (hK.below hb) hw hks (ht.below hb))
  rw [← hE] at HTH HCF
  have HCK := hide (fun wx (hb : Below w.heap.size w wx) => ncheck_any m wx vn vl vi vv vf vk ss x known E (hS.below hb) (h.below hb) (hK.below hb) (hC.below hb) (fun wy hy => HCF.out wy (up hb hy)) hlens.2.1 hlens.2.2 hlens.1 (Nm.prL_len ss known h hw))
  have HRN : Hid (E = 0 → ∀ wx, Below w.heap.size w wx → Calls Tryz.prog 12 #[.agg #[vn, vl], .agg #[.string x.name, vi, vv, vf], vk] wx fun e w' => ∃ u, e = .returned u ∧ DgsAt w' u (Nm.once (Nm.prL ss x known m)) ∧ Below wx.heap.size wx w') := hide (fun h0 wx hb => by
    have hmo : Lat.moE m x = 0 := Nm.thE_mo (by rw [← hE]; exact h0)
    have hl := Nm.rL_len ss known h hw hmo
    refine (rnames_try m wx vn vl vi vv vf vk ss x known (hS.below hb) (h.below hb) (hK.below hb) (hC.below hb) (by omega) (by omega) (Nm.rC_all h hw) hl).mono ?_
    rintro e w' ⟨u, he, hu, hb'⟩
    rw [Nm.once_both] at hu
    exact ⟨u, he, hu.dgs (Nm.once_le _ (Nm.prL_len ss known h hw)), hb'⟩)
  have HNT := hide (fun wx (hb : Below w.heap.size w wx) kn (hkn : kn ≤ x.funs.length) => ntarget_any m wx vi vv vf vk x known kn call (h.below hb) (hK.below hb) (hC.below hb) hkn hc hlens.1)
  have HRT := hide (fun wx (hb : Below w.heap.size w wx) kn (hkn : kn ≤ x.funs.length) => rtarget_any m wx _ vk x kn call known (h.below hb) hkn hc (hK.below hb))
  have HTT := hide (fun kn => Nm.tgt_ptgt x kn call known)
  have hnf : x.funs.length ≤ 1048576 := hlens.2.2
  obtain ⟨af, bf, of, cf, rfl, -⟩ := h.split.2.2
  obtain ⟨nf, hnf'⟩ : ∃ n, n = x.funs.length := ⟨_, rfl⟩
  rw [← hnf'] at HTH HCF HCK HRN HNT HRT hnf ⊢
  obtain ⟨p0, p1, hb0⟩ := al2 w (.cells #[vn, vl] 34) (.cells #[.string x.name, vi, vv, .slice af nf cf] 26)
  have HP0 := hide p0
  have HP1 := hide p1
  have HB0 := hide hb0
  clear hE hS hR h hC hK hw hks ht hlens hnf' p0 p1 hb0
  go_enter Tryz.func4, Tryz.ntmps4
  go_wp2_with fail
  generalize ((w.alloc (.cells #[vn, vl] 34)).alloc (.cells #[.string x.name, vi, vv, .slice af nf cf] 26)) = W0 at *
  have HBX : Hid (∀ wx, Below W0.heap.size W0 wx → wx.cell? ⟨w.heap.size, 0, none⟩ = some vn ∧ wx.cell? ⟨w.heap.size, 1, none⟩ = some vl ∧ wx.cell? ⟨w.heap.size + 1, 0, none⟩ = some (.string x.name) ∧ wx.cell? ⟨w.heap.size + 1, 1, none⟩ = some vi ∧ wx.cell? ⟨w.heap.size + 1, 2, none⟩ = some vv ∧ wx.cell? ⟨w.heap.size + 1, 3, none⟩ = some (.slice af nf cf)) := hide (fun wx h =>
    ⟨cellUp ((block_at HP0.out 0).trans rfl) h, cellUp ((block_at HP0.out 1).trans rfl) h, cellUp ((block_at HP1.out 0).trans rfl) h, cellUp ((block_at HP1.out 1).trans rfl) h, cellUp ((block_at HP1.out 2).trans rfl) h, cellUp ((block_at HP1.out 3).trans rfl) h⟩)
  obtain ⟨q0, q1, q2, q3, q4, q5⟩ := HBX.out _ (Below.refl _ _)
  clear HP0 HP1
  go_wp2_with fail
  refine (HTH.out _ HB0.out).mono ?_
  rintro e w1 ⟨rfl, hb1⟩
  have HB1 := hide hb1
  clear q0 q1 q2 q3 q4 q5 hb1
  obtain ⟨q0, q1, q2, q3, q4, q5⟩ := HBX.out _ HB1.out
  by_cases h0 : E = 0
  · subst h0
    replace HRN := hide (HRN.out rfl)
    go_wp2_with fail
    refine (HRN.out _ (up HB0.out HB1.out)).mono ?_
    rintro e w2 ⟨u, rfl, hu, hb2⟩
    have HU2 := hide hu
    have HB2 := hide (up HB1.out hb2)
    clear q0 q1 q2 q3 q4 q5 hb2 hu
    obtain ⟨q0, q1, q2, q3, q4, q5⟩ := HBX.out _ HB2.out
    go_wp2_with fail
    refine (HCK.out _ (up HB0.out HB2.out)).mono ?_
    rintro e w3 ⟨u3, rfl, hu3, hb3⟩
    have HU3 := hide hu3
    have HV3 := hide (HU2.out.below hb3)
    have HB3 := hide (up HB2.out hb3)
    clear q0 q1 q2 q3 q4 q5 hb3 hu3
    obtain ⟨q0, q1, q2, q3, q4, q5⟩ := HBX.out _ HB3.out
    go_wp2_with fail
    refine (eqD_same _ _ _ _ HU3.out HV3.out).mono ?_
    rintro e w4 ⟨rfl, hb4⟩
    have HB4 := hide (up HB3.out hb4)
    clear q0 q1 q2 q3 q4 q5 hb4
    obtain ⟨q0, q1, q2, q3, q4, q5⟩ := HBX.out _ HB4.out
    by_cases hk0 : k < 0
    · go_wp2_with fail
      go_ret
      exact ⟨rfl, up HB0.out HB4.out⟩
    · by_cases hkn : k ≥ (nf : Int)
      · go_wp2_with fail
        go_ret
        exact ⟨rfl, up HB0.out HB4.out⟩
      · obtain ⟨kn, rfl⟩ := Int.eq_ofNat_of_zero_le (by omega : 0 ≤ k)
        have HKN := hide (show kn ≤ nf by omega)
        go_wp2_with fail
        refine (HNT.out _ (up HB0.out HB4.out) kn HKN.out).mono ?_
        rintro e w5 ⟨rfl, hb5⟩
        have HB5 := hide (up HB4.out hb5)
        clear q0 q1 q2 q3 q4 q5 hb5
        obtain ⟨q0, q1, q2, q3, q4, q5⟩ := HBX.out _ HB5.out
        go_wp2_with fail
        refine (HRT.out _ (up HB0.out HB5.out) kn HKN.out).mono ?_
        rintro e w6 ⟨rfl, hb6⟩
        have HB6 := hide (up HB5.out hb6)
        clear q0 q1 q2 q3 q4 q5 hb6
        obtain ⟨t1, t2⟩ := HTT.out kn
        generalize Nm.tgt x kn call known = T at *
        generalize Nm.ptgt x kn call known = T' at *
        obtain ⟨a1, a2, a3⟩ := T
        obtain ⟨b1, b2, b3⟩ := T'
        simp only at t1 t2
        subst t1
        cases a3 with
        | false =>
          clear t2
          go_wp2_with fail
          go_ret
          exact ⟨rfl, up HB0.out HB6.out⟩
        | true =>
          have t3 := t2 rfl
          injection t3 with t3 t4
          injection t4 with t4 t5
          subst t3 t4
          clear t2 t5
          go_wp2_with fail
          go_ret
          exact ⟨rfl, up HB0.out HB6.out⟩
  · have h0' : (E == 0) = false := by simp [h0]
    have HPD : Hid (Nm.prD E ss x known m = []) := hide (by unfold Nm.prD; rw [if_neg h0])
    have HNE := hide h0
    clear h0
    go_wp2_with fail
    refine (HCK.out _ (up HB0.out HB1.out)).mono ?_
    rintro e w3 ⟨u3, rfl, hu3, hb3⟩
    rw [HPD.out] at hu3
    have HU3 := hide hu3
    have HB3 := hide (up HB1.out hb3)
    clear q0 q1 q2 q3 q4 q5 hb3 hu3
    obtain ⟨q0, q1, q2, q3, q4, q5⟩ := HBX.out _ HB3.out
    go_wp2_with fail
    refine (eqD_same _ _ _ _ HU3.out (dgs_nil _)).mono ?_
    rintro e w4 ⟨rfl, hb4⟩
    have HB4 := hide (up HB3.out hb4)
    clear q0 q1 q2 q3 q4 q5 hb4
    obtain ⟨q0, q1, q2, q3, q4, q5⟩ := HBX.out _ HB4.out
    go_wp2_with fail
    all_goals first
      | exact absurd ‹E = 0› HNE.out
      | (go_ret; exact ⟨rfl, up HB0.out HB4.out⟩)
end Go.Proofs.YtholefgckcoklaaGreatDoor
