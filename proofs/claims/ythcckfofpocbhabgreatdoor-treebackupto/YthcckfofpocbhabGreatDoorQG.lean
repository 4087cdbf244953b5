/- TreeBack's walk: whatever is handed in, the call returns true. -/
import Derived.Test.YthcckfofpocbhabGreatDoorQF
namespace Go.Proofs.YthcckfofpocbhabGreatDoor
open Go.RowKit

set_option maxHeartbeats 4000000 in
set_option maxRecDepth 100000 in
theorem treeBack_walk (m : Nat) (w : World) (v : Value) (x : Mo) (s : ByteArray) (h : MoAt w m v x) (hw : moW m x ≤ 1048576) (ht : Tab w) (he : ErrV w) (hs : s.size ≤ maxLen) :
    Calls Tryz.prog 3 #[v, .string s] w fun e w' => e = .returned (.bool true) ∧ Below w.heap.size w w' := by
  have HM := hide h
  have HT := hide ht
  have HE := hide he
  have HS := hide hs
  have hs' : s.size ≤ 9223372036854775807 := by unfold maxLen at hs; omega
  have HFD : Hid (x.funs ≠ [] → m ≠ 0) := hide (by obtain ⟨_, _, _, _, _, _, _, hF⟩ := h; exact funs_deep hF)
  have HSZ : Hid ((Lat.moT m x).size ≤ 12582920) := hide (moT_size h hw)
  have HPT : Hid (∀ W, Below w.heap.size w W → ∀ t : ByteArray, t.size ≤ maxLen → Calls Tryz.prog 6 #[.string t] W fun e w' => ∃ a1 n1 c1 a2 n2 c2 a3 n3 c3, e = .returned (.tuple #[.agg #[.string (Rd.prX t).name, .slice a1 n1 c1, .slice a2 n2 c2, .slice a3 n3 c3], .int .i64 (Rd.prN t), .int .i64 (Rd.prE t)]) ∧
      MoAt w' 8196 (.agg #[.string (Rd.prX t).name, .slice a1 n1 c1, .slice a2 n2 c2, .slice a3 n3 c3]) (Rd.prX t) ∧ Below W.heap.size W w') := hide (fun W hW t htz =>
    (parse_any W t htz (ht.below hW) (he.below hW)).mono fun e w' ⟨a1, n1, c1, a2, n2, c2, a3, n3, c3, h1, h2, h3⟩ => ⟨a1, n1, c1, a2, n2, c2, a3, n3, c3, h1, h2.sub (only_sub _ _), h3⟩)
  obtain ⟨vi, vv, vf, rfl, _, hI, hV, hF⟩ := h
  obtain ⟨ai, ci, rfl, _⟩ := hI.shape
  obtain ⟨av, cv, rfl⟩ : ∃ a c, vv = .slice a x.vars.length c := by obtain ⟨a, _, _, c, e, _⟩ := hV; exact ⟨a, c, e⟩
  obtain ⟨af, cf, rfl⟩ : ∃ a c, vf = .slice a x.funs.length c := by obtain ⟨a, _, _, c, e, _⟩ := hF; exact ⟨a, c, e⟩
  clear hI hV hF ht he hs
  generalize x.imports.length = li at *
  generalize x.vars.length = lv at *
  generalize x.funs.length = lf at *
  have q0 := boxM0 w (.string x.name) (.slice ai li ci) (.slice av lv cv) (.slice af lf cf) 26
  have q1 := boxM1 w (.string x.name) (.slice ai li ci) (.slice av lv cv) (.slice af lf cf) 26
  have q2 := boxM2 w (.string x.name) (.slice ai li ci) (.slice av lv cv) (.slice af lf cf) 26
  have q3 := boxM3 w (.string x.name) (.slice ai li ci) (.slice av lv cv) (.slice af lf cf) 26
  have HB0 := hide (boxBelow w (.cells #[.string x.name, .slice ai li ci, .slice av lv cv, .slice af lf cf] 26))
  go_enter Tryz.func3, Tryz.ntmps3
  go_wp2_with fail
  generalize w.alloc (.cells #[.string x.name, .slice ai li ci, .slice av lv cv, .slice af lf cf] 26) = W0 at *
  refine (read_any W0 (HT.out.below HB0.out) (HE.out.below HB0.out)).mono ?_
  rintro e w1 ⟨rfl, hb1⟩
  replace q0 := cellUp q0 hb1
  replace q1 := cellUp q1 hb1
  replace q2 := cellUp q2 hb1
  replace q3 := cellUp q3 hb1
  have HB1 := hide (up HB0.out hb1)
  clear hb1 HB0
  go_wp2_with fail
  refine (print_any m w1 _ x (HM.out.below HB1.out) hw (HT.out.below HB1.out)).mono ?_
  rintro e w2 ⟨rfl, hb2⟩
  replace q0 := cellUp q0 hb2
  replace q1 := cellUp q1 hb2
  replace q2 := cellUp q2 hb2
  replace q3 := cellUp q3 hb2
  have HB2 := hide (up HB1.out hb2)
  clear hb2 HB1
  have HP : Hid (Lat.prT m x = if Lat.moE m x = 0 then Lat.moT m x else ⟨#[]⟩) := rfl
  obtain ⟨E, hE⟩ : ∃ E, E = Lat.moE m x := ⟨_, rfl⟩
  have HEE := hide hE
  rw [← hE] at HP ⊢
  clear hE
  obtain ⟨t, htt⟩ : ∃ t, t = Lat.prT m x := ⟨_, rfl⟩
  rw [← htt] at HP ⊢
  clear htt
  by_cases h0 : E = 0
  · subst h0
    rw [if_pos rfl] at HP
    have HT1 : Hid (¬ 4096 < t.size → Rd.prE t = 0 ∧ Rd.prX t = x) := hide (fun h4 => by
      rw [HP.out] at h4 ⊢
      exact Rd.parse_text HFD.out HEE.out.symm h4)
    have HT2 : Hid (4096 < t.size → Rd.prE t = 2) := hide Rd.parse_long
    have htz : t.size ≤ 12582920 := by rw [HP.out]; exact HSZ.out
    clear HP
    go_wp2_with fail
    refine (HPT.out w2 HB2.out t (by unfold maxLen; omega)).mono ?_
    rintro e w3 ⟨g1, m1, f1, g2, m2, f2, g3, m3, f3, rfl, hm3, hb3⟩
    have HMY := hide (hm3.below (boxBelow w3 (.cells #[.string (Rd.prX t).name, .slice g1 m1 f1, .slice g2 m2 f2, .slice g3 m3 f3] 26)))
    have HBB := hide (up hb3 (boxBelow w3 (.cells #[.string (Rd.prX t).name, .slice g1 m1 f1, .slice g2 m2 f2, .slice g3 m3 f3] 26)))
    replace q0 := cellUp q0 HBB.out
    replace q1 := cellUp q1 HBB.out
    replace q2 := cellUp q2 HBB.out
    replace q3 := cellUp q3 HBB.out
    have HB3 := hide (up HB2.out HBB.out)
    clear hm3 hb3 HBB HB2
    by_cases h4 : 4096 < t.size
    · rw [HT2.out h4]
      have h4' : (t.size : Int) > 4096 := by omega
      clear q0 q1 q2 q3
      go_wp2
      go_ret
      exact ⟨rfl, HB3.out⟩
    · obtain ⟨e1, e2⟩ := HT1.out h4
      rw [e2] at HMY HB3 q0 q1 q2 q3 ⊢
      rw [e1]
      have h4' : ¬ ((t.size : Int) > 4096) := by omega
      have l0 := boxM0 w3 (.string x.name) (.slice g1 m1 f1) (.slice g2 m2 f2) (.slice g3 m3 f3) 26
      have l1 := boxM1 w3 (.string x.name) (.slice g1 m1 f1) (.slice g2 m2 f2) (.slice g3 m3 f3) 26
      have l2 := boxM2 w3 (.string x.name) (.slice g1 m1 f1) (.slice g2 m2 f2) (.slice g3 m3 f3) 26
      have l3 := boxM3 w3 (.string x.name) (.slice g1 m1 f1) (.slice g2 m2 f2) (.slice g3 m3 f3) 26
      go_wp2_with fail
      generalize w3.alloc (.cells #[.string x.name, .slice g1 m1 f1, .slice g2 m2 f2, .slice g3 m3 f3] 26) = W3 at *
      refine (sameModule_any (max m 8196) W3 _ _ x (HMY.out.mono (by omega)) ((HM.out.below HB3.out).mono (by omega))).mono ?_
      rintro e w4 ⟨rfl, hb4⟩
      have HB4 := hide (up HB3.out hb4)
      clear q0 q1 q2 q3 l0 l1 l2 l3 hb4 HB3
      go_wp2_with fail
      refine (HPT.out w4 HB4.out s HS.out).mono ?_
      rintro e w20 ⟨a1, n1, c1, a2, n2, c2, a3, n3, c3, rfl, hm20, hb20⟩
      have HMX := hide (hm20.below (boxBelow w20 (.cells #[.string (Rd.prX s).name, .slice a1 n1 c1, .slice a2 n2 c2, .slice a3 n3 c3] 26)))
      have HB20 := hide (up (up HB4.out hb20) (boxBelow w20 (.cells #[.string (Rd.prX s).name, .slice a1 n1 c1, .slice a2 n2 c2, .slice a3 n3 c3] 26)))
      have k0 := boxM0 w20 (.string (Rd.prX s).name) (.slice a1 n1 c1) (.slice a2 n2 c2) (.slice a3 n3 c3) 26
      have k1 := boxM1 w20 (.string (Rd.prX s).name) (.slice a1 n1 c1) (.slice a2 n2 c2) (.slice a3 n3 c3) 26
      have k2 := boxM2 w20 (.string (Rd.prX s).name) (.slice a1 n1 c1) (.slice a2 n2 c2) (.slice a3 n3 c3) 26
      have k3 := boxM3 w20 (.string (Rd.prX s).name) (.slice a1 n1 c1) (.slice a2 n2 c2) (.slice a3 n3 c3) 26
      clear hm20 hb20
      have HNL := hide (Rd.prN_le s)
      obtain ⟨er, her⟩ : ∃ er, er = Rd.prE s := ⟨_, rfl⟩
      have HER := hide her
      rw [← her]
      clear her
      by_cases hz : er = 0
      · subst hz
        obtain ⟨hxw, hxe⟩ := Rd.prX_w HER.out.symm
        have HXW := hide hxw
        have HXE := hide hxe
        have HFX : Hid ((Rd.prX s).funs ≠ [] → (8196 : Nat) ≠ 0) := hide (fun _ => by decide)
        have HPX : Hid (Lat.prT 8196 (Rd.prX s) = Lat.moT 8196 (Rd.prX s)) := hide (by unfold Lat.prT; rw [hxe, if_pos rfl])
        have HSX : Hid ((Lat.moT 8196 (Rd.prX s)).size ≤ 12582920) := hide (moT_size HMX.out hxw)
        clear hxw hxe
        obtain ⟨y, hy⟩ : ∃ y, y = Rd.prX s := ⟨_, rfl⟩
        rw [← hy] at HMX HXW HXE HFX HPX HSX k0 k1 k2 k3 HB20 ⊢
        clear hy
        go_wp2_with fail
        generalize w20.alloc (.cells #[.string y.name, .slice a1 n1 c1, .slice a2 n2 c2, .slice a3 n3 c3] 26) = W20 at *
        generalize w20.heap.size = B20 at *
        refine (print_any 8196 W20 _ y HMX.out HXW.out (HT.out.below HB20.out)).mono ?_
        rintro e w21 ⟨rfl, hb21⟩
        rw [HXE.out, HPX.out]
        replace k0 := cellUp k0 hb21
        replace k1 := cellUp k1 hb21
        replace k2 := cellUp k2 hb21
        replace k3 := cellUp k3 hb21
        have HMX21 := hide (HMX.out.below hb21)
        have HB21 := hide (up HB20.out hb21)
        clear hb21 HMX HB20
        have HT1 : Hid (¬ 4096 < (Lat.moT 8196 y).size → Rd.prE (Lat.moT 8196 y) = 0 ∧ Rd.prX (Lat.moT 8196 y) = y) := hide (fun h4 => Rd.parse_text HFX.out HXE.out h4)
        have HT2 : Hid (4096 < (Lat.moT 8196 y).size → Rd.prE (Lat.moT 8196 y) = 2) := hide Rd.parse_long
        generalize Lat.moT 8196 y = t2 at *
        have hsx := HSX.out
        go_wp2_with fail
        refine (HPT.out w21 HB21.out t2 (by unfold maxLen; omega)).mono ?_
        rintro e w22 ⟨a4, n4, c4, a5, n5, c5, a6, n6, c6, rfl, hm22, hb22⟩
        have HMY := hide (hm22.below (boxBelow w22 (.cells #[.string (Rd.prX t2).name, .slice a4 n4 c4, .slice a5 n5 c5, .slice a6 n6 c6] 26)))
        have HBB := hide (up hb22 (boxBelow w22 (.cells #[.string (Rd.prX t2).name, .slice a4 n4 c4, .slice a5 n5 c5, .slice a6 n6 c6] 26)))
        replace k0 := cellUp k0 HBB.out
        replace k1 := cellUp k1 HBB.out
        replace k2 := cellUp k2 HBB.out
        replace k3 := cellUp k3 HBB.out
        have HMX22 := hide (HMX21.out.below HBB.out)
        have HB22 := hide (up HB21.out HBB.out)
        clear hm22 hb22 HBB HMX21 HB21
        by_cases h4 : 4096 < t2.size
        · rw [HT2.out h4]
          have h4' : (t2.size : Int) > 4096 := by omega
          clear k0 k1 k2 k3
          go_wp2
          go_ret
          exact ⟨rfl, HB22.out⟩
        · obtain ⟨e1, e2⟩ := HT1.out h4
          rw [e2] at HMY HMX22 HB22 k0 k1 k2 k3 ⊢
          rw [e1]
          have h4' : ¬ ((t2.size : Int) > 4096) := by omega
          have l0 := boxM0 w22 (.string y.name) (.slice a4 n4 c4) (.slice a5 n5 c5) (.slice a6 n6 c6) 26
          have l1 := boxM1 w22 (.string y.name) (.slice a4 n4 c4) (.slice a5 n5 c5) (.slice a6 n6 c6) 26
          have l2 := boxM2 w22 (.string y.name) (.slice a4 n4 c4) (.slice a5 n5 c5) (.slice a6 n6 c6) 26
          have l3 := boxM3 w22 (.string y.name) (.slice a4 n4 c4) (.slice a5 n5 c5) (.slice a6 n6 c6) 26
          go_wp2_with fail
          generalize w22.alloc (.cells #[.string y.name, .slice a4 n4 c4, .slice a5 n5 c5, .slice a6 n6 c6] 26) = W22 at *
          refine (sameModule_any 8196 W22 _ _ y HMX22.out HMY.out).mono ?_
          rintro e w23 ⟨rfl, hb23⟩
          have HB23 := hide (up HB22.out hb23)
          clear k0 k1 k2 k3 l0 l1 l2 l3 hb23
          go_wp2
          go_ret
          exact ⟨rfl, HB23.out⟩
      · have hz' := bne_zero_true hz
        have HBD := hide (Rd.prX_bad (s := s) (by rw [← HER.out]; exact hz))
        rw [HBD.out] at HMX k0 k1 k2 k3 HB20 ⊢
        have e0 : Rd.mo0.name = ⟨#[]⟩ := rfl
        rw [e0] at HMX k0 k1 k2 k3 HB20 ⊢
        have hn1 := HNL.out.1
        have hn2 := HNL.out.2
        have hd1 : decide (Rd.prN s ≥ 0) = true := decide_eq_true hn1
        have hd2 : decide (Rd.prN s ≤ (s.size : Int)) = true := decide_eq_true hn2
        generalize Rd.prN s = nn at *
        go_wp2
        go_ret
        exact ⟨ret_bool (by simp; try omega), HB20.out⟩
  · have h0' : (E == 0) = false := by simp [h0]
    clear q0 q1 q2 q3 HP
    go_wp2_with fail
    refine (HPT.out w2 HB2.out s HS.out).mono ?_
    rintro e w20 ⟨a1, n1, c1, a2, n2, c2, a3, n3, c3, rfl, hm20, hb20⟩
    have HMX := hide (hm20.below (boxBelow w20 (.cells #[.string (Rd.prX s).name, .slice a1 n1 c1, .slice a2 n2 c2, .slice a3 n3 c3] 26)))
    have HB20 := hide (up (up HB2.out hb20) (boxBelow w20 (.cells #[.string (Rd.prX s).name, .slice a1 n1 c1, .slice a2 n2 c2, .slice a3 n3 c3] 26)))
    have k0 := boxM0 w20 (.string (Rd.prX s).name) (.slice a1 n1 c1) (.slice a2 n2 c2) (.slice a3 n3 c3) 26
    have k1 := boxM1 w20 (.string (Rd.prX s).name) (.slice a1 n1 c1) (.slice a2 n2 c2) (.slice a3 n3 c3) 26
    have k2 := boxM2 w20 (.string (Rd.prX s).name) (.slice a1 n1 c1) (.slice a2 n2 c2) (.slice a3 n3 c3) 26
    have k3 := boxM3 w20 (.string (Rd.prX s).name) (.slice a1 n1 c1) (.slice a2 n2 c2) (.slice a3 n3 c3) 26
    clear hm20 hb20
    have HNL := hide (Rd.prN_le s)
    obtain ⟨er, her⟩ : ∃ er, er = Rd.prE s := ⟨_, rfl⟩
    have HER := hide her
    rw [← her]
    clear her
    by_cases hz : er = 0
    · subst hz
      obtain ⟨hxw, hxe⟩ := Rd.prX_w HER.out.symm
      have HXW := hide hxw
      have HXE := hide hxe
      have HFX : Hid ((Rd.prX s).funs ≠ [] → (8196 : Nat) ≠ 0) := hide (fun _ => by decide)
      have HPX : Hid (Lat.prT 8196 (Rd.prX s) = Lat.moT 8196 (Rd.prX s)) := hide (by unfold Lat.prT; rw [hxe, if_pos rfl])
      have HSX : Hid ((Lat.moT 8196 (Rd.prX s)).size ≤ 12582920) := hide (moT_size HMX.out hxw)
      clear hxw hxe
      obtain ⟨y, hy⟩ : ∃ y, y = Rd.prX s := ⟨_, rfl⟩
      rw [← hy] at HMX HXW HXE HFX HPX HSX k0 k1 k2 k3 HB20 ⊢
      clear hy
      go_wp2_with fail
      generalize w20.alloc (.cells #[.string y.name, .slice a1 n1 c1, .slice a2 n2 c2, .slice a3 n3 c3] 26) = W20 at *
      generalize w20.heap.size = B20 at *
      refine (print_any 8196 W20 _ y HMX.out HXW.out (HT.out.below HB20.out)).mono ?_
      rintro e w21 ⟨rfl, hb21⟩
      rw [HXE.out, HPX.out]
      replace k0 := cellUp k0 hb21
      replace k1 := cellUp k1 hb21
      replace k2 := cellUp k2 hb21
      replace k3 := cellUp k3 hb21
      have HMX21 := hide (HMX.out.below hb21)
      have HB21 := hide (up HB20.out hb21)
      clear hb21 HMX HB20
      have HT1 : Hid (¬ 4096 < (Lat.moT 8196 y).size → Rd.prE (Lat.moT 8196 y) = 0 ∧ Rd.prX (Lat.moT 8196 y) = y) := hide (fun h4 => Rd.parse_text HFX.out HXE.out h4)
      have HT2 : Hid (4096 < (Lat.moT 8196 y).size → Rd.prE (Lat.moT 8196 y) = 2) := hide Rd.parse_long
      generalize Lat.moT 8196 y = t2 at *
      have hsx := HSX.out
      go_wp2_with fail
      refine (HPT.out w21 HB21.out t2 (by unfold maxLen; omega)).mono ?_
      rintro e w22 ⟨a4, n4, c4, a5, n5, c5, a6, n6, c6, rfl, hm22, hb22⟩
      have HMY := hide (hm22.below (boxBelow w22 (.cells #[.string (Rd.prX t2).name, .slice a4 n4 c4, .slice a5 n5 c5, .slice a6 n6 c6] 26)))
      have HBB := hide (up hb22 (boxBelow w22 (.cells #[.string (Rd.prX t2).name, .slice a4 n4 c4, .slice a5 n5 c5, .slice a6 n6 c6] 26)))
      replace k0 := cellUp k0 HBB.out
      replace k1 := cellUp k1 HBB.out
      replace k2 := cellUp k2 HBB.out
      replace k3 := cellUp k3 HBB.out
      have HMX22 := hide (HMX21.out.below HBB.out)
      have HB22 := hide (up HB21.out HBB.out)
      clear hm22 hb22 HBB HMX21 HB21
      by_cases h4 : 4096 < t2.size
      · rw [HT2.out h4]
        have h4' : (t2.size : Int) > 4096 := by omega
        clear k0 k1 k2 k3
        go_wp2
        go_ret
        exact ⟨rfl, HB22.out⟩
      · obtain ⟨e1, e2⟩ := HT1.out h4
        rw [e2] at HMY HMX22 HB22 k0 k1 k2 k3 ⊢
        rw [e1]
        have h4' : ¬ ((t2.size : Int) > 4096) := by omega
        have l0 := boxM0 w22 (.string y.name) (.slice a4 n4 c4) (.slice a5 n5 c5) (.slice a6 n6 c6) 26
        have l1 := boxM1 w22 (.string y.name) (.slice a4 n4 c4) (.slice a5 n5 c5) (.slice a6 n6 c6) 26
        have l2 := boxM2 w22 (.string y.name) (.slice a4 n4 c4) (.slice a5 n5 c5) (.slice a6 n6 c6) 26
        have l3 := boxM3 w22 (.string y.name) (.slice a4 n4 c4) (.slice a5 n5 c5) (.slice a6 n6 c6) 26
        go_wp2_with fail
        generalize w22.alloc (.cells #[.string y.name, .slice a4 n4 c4, .slice a5 n5 c5, .slice a6 n6 c6] 26) = W22 at *
        refine (sameModule_any 8196 W22 _ _ y HMX22.out HMY.out).mono ?_
        rintro e w23 ⟨rfl, hb23⟩
        have HB23 := hide (up HB22.out hb23)
        clear k0 k1 k2 k3 l0 l1 l2 l3 hb23
        go_wp2
        go_ret
        exact ⟨rfl, HB23.out⟩
    · have hz' := bne_zero_true hz
      have HBD := hide (Rd.prX_bad (s := s) (by rw [← HER.out]; exact hz))
      rw [HBD.out] at HMX k0 k1 k2 k3 HB20 ⊢
      have e0 : Rd.mo0.name = ⟨#[]⟩ := rfl
      rw [e0] at HMX k0 k1 k2 k3 HB20 ⊢
      have hn1 := HNL.out.1
      have hn2 := HNL.out.2
      have hd1 : decide (Rd.prN s ≥ 0) = true := decide_eq_true hn1
      have hd2 : decide (Rd.prN s ≤ (s.size : Int)) = true := decide_eq_true hn2
      generalize Rd.prN s = nn at *
      go_wp2
      go_ret
      exact ⟨ret_bool (by simp; try omega), HB20.out⟩

end Go.Proofs.YthcckfofpocbhabGreatDoor
