/- Walks over package solve, second part: Join, isConstraint, checkSystem. -/
import Derived.Test.YtholefgckcoklaaZC
namespace Go.Proofs.Ytholefgckcoklaa
open Go.RowKit

theorem box4_at (w : World) (vn vl : Value) (m l m' l' : Int) (W : World) (hW : W = (((w.alloc (.cells #[vn, vl] 25)).alloc (.cells #[.int .i64 m, .int .i64 l] 46)).alloc (.cells #[.int .i64 m', .int .i64 l'] 46)).alloc (.cells #[.int .i64 0, .int .i64 0] 46)) :
    W.heap[w.heap.size]? = some (.cells #[vn, vl] 25 (0, 0)) ∧ W.heap[w.heap.size + 1]? = some (.cells #[.int .i64 m, .int .i64 l] 46 (0, 0)) ∧
    W.heap[w.heap.size + 1 + 1]? = some (.cells #[.int .i64 m', .int .i64 l'] 46 (0, 0)) ∧ W.heap[w.heap.size + 1 + 1 + 1]? = some (.cells #[.int .i64 0, .int .i64 0] 46 (0, 0)) ∧ Below w.heap.size w W := by
  obtain ⟨b0, b1, b2, bs, hB⟩ := box3i_at w vn vl m l m' l' _ rfl
  subst hW
  refine ⟨block_alloc b0 _, block_alloc b1 _, block_alloc b2 _, ?_, up hB (boxBelow _ _)⟩
  have h := block_new (((w.alloc (.cells #[vn, vl] 25)).alloc (.cells #[.int .i64 m, .int .i64 l] 46)).alloc (.cells #[.int .i64 m', .int .i64 l'] 46)) (.cells #[.int .i64 0, .int .i64 0] 46)
  rw [bs] at h
  exact h

set_option maxHeartbeats 2000000 in
set_option maxRecDepth 100000 in
theorem sjoin_ok (w : World) (vn vl : Value) (ss : List ByteArray) (G : Nat) (L : Nat → Nat) (Z : Nat → Nat → Bool) (x y : Nat × Nat) (hL : LaAt w vn vl ss G L Z) (hx : Sv.Ok ss.length x) (hy : Sv.Ok ss.length y) :
    Calls Try.prog 23 #[.agg #[vn, vl], .agg #[.int .i64 (x.1 : Nat), .int .i64 (x.2 : Nat)], .agg #[.int .i64 (y.1 : Nat), .int .i64 (y.2 : Nat)]] w fun e w' => e = .returned (.tuple #[.agg #[.int .i64 ((Sv.join Z ss.length x y).1 : Nat), .int .i64 ((Sv.join Z ss.length x y).2 : Nat)], .int .i64 0]) ∧ Below w.heap.size w w' := by
  obtain ⟨W, hW⟩ : ∃ W, W = (((w.alloc (.cells #[vn, vl] 25)).alloc (.cells #[.int .i64 (x.1 : Nat), .int .i64 (x.2 : Nat)] 46)).alloc (.cells #[.int .i64 (y.1 : Nat), .int .i64 (y.2 : Nat)] 46)).alloc (.cells #[.int .i64 0, .int .i64 0] 46) := ⟨_, rfl⟩
  obtain ⟨b0, b1, b2, b3, hB⟩ := box4_at w vn vl _ _ _ _ W hW
  have H0 := hide b0
  have H1 := hide b1
  have H2 := hide b2
  have H3 := hide b3
  have HB := hide hB
  have HL := hide (hL.below hB)
  have HX := hide hx
  have HY := hide hy
  have HE := hide (spE_of hL.ok hx hy)
  obtain ⟨J, hJ⟩ : ∃ J, J = Sv.join Z ss.length x y := ⟨_, rfl⟩
  have HJ := hide hJ
  rw [← hJ]
  clear b0 b1 b2 b3 hB hL hx hy hJ
  go_enter Try.func23, Try.ntmps23
  go_wp2_with fail
  rw [← hW]
  refine (scheckPair_any W vn vl ss G L Z _ _ _ _ HL.out.strs HL.out.rag).mono ?_
  rintro e w1 ⟨rfl, hb1⟩
  rw [HE.out]
  have p0 := at_up H0.out hb1
  have p1 := at_up H1.out hb1
  have p2 := at_up H2.out hb1
  have HP3 := hide (at_up H3.out hb1)
  have HL1 := hide (HL.out.below hb1)
  have HB1 := hide (up HB.out hb1)
  have q0 := (block_at p0 0).trans rfl
  have q1 := (block_at p0 1).trans rfl
  have q2 := (block_at p1 0).trans rfl
  have q3 := (block_at p1 1).trans rfl
  have q4 := (block_at p2 0).trans rfl
  have q5 := (block_at p2 1).trans rfl
  clear p0 p1 p2 hb1 hW
  go_wp2_with fail
  refine (sjoined_any w1 vn vl ss G L Z x y HL1.out HX.out HY.out).mono ?_
  rintro e w2 ⟨rfl, hb2⟩
  rw [← HJ.out]
  have HB2 := hide (up HB1.out hb2)
  have HR := hide (at_up HP3.out hb2)
  have q6 := (block_at HR.out 0).trans rfl
  have q7 := (block_at HR.out 1).trans rfl
  have z6 := block_free HR.out 0
  have z7 := block_free HR.out 1
  clear hb2
  go_wp2_with fail
  have hs := set2 HR.out (.int .i64 (J.1 : Nat)) (.int .i64 (J.2 : Nat))
  have f0 := (block_at hs 0).trans rfl
  have f1 := (block_at hs 1).trans rfl
  refine bodyPost_ret (v := .tuple #[.agg #[.int .i64 (J.1 : Nat), .int .i64 (J.2 : Nat)], .int .i64 0]) (by simp [results, Try.results23, go_sem, f0, f1]) rfl ⟨rfl, ?_⟩
  exact (HB2.out.setCell (by show w.heap.size ≤ w.heap.size + 1 + 1 + 1; omega) _).setCell (by show w.heap.size ≤ w.heap.size + 1 + 1 + 1; omega) _

set_option maxHeartbeats 2000000 in
set_option maxRecDepth 100000 in
theorem sjoin_err (w : World) (vn vl : Value) (ss : List ByteArray) (G : Nat) (L : Nat → Nat) (Z : Nat → Nat → Bool) (m l m' l' : Int) (hS : Strs w vn ss) (hR : Rag w vl G L Z) (hne : spE ss G L Z m l m' l' ≠ 0) :
    Calls Try.prog 23 #[.agg #[vn, vl], .agg #[.int .i64 m, .int .i64 l], .agg #[.int .i64 m', .int .i64 l']] w fun e w' => e = .returned (.tuple #[.agg #[.int .i64 0, .int .i64 0], .int .i64 (spE ss G L Z m l m' l')]) ∧ Below w.heap.size w w' := by
  obtain ⟨W, hW⟩ : ∃ W, W = (((w.alloc (.cells #[vn, vl] 25)).alloc (.cells #[.int .i64 m, .int .i64 l] 46)).alloc (.cells #[.int .i64 m', .int .i64 l'] 46)).alloc (.cells #[.int .i64 0, .int .i64 0] 46) := ⟨_, rfl⟩
  obtain ⟨-, -, -, b3, hB⟩ := box4_at w vn vl m l m' l' W hW
  have HB := hide hB
  have H3 := hide b3
  have HS := hide (hS.below hB)
  have HR := hide (hR.below hB)
  have hz' := bne_zero_true hne
  clear hB hS hR hne b3
  go_enter Try.func23, Try.ntmps23
  go_wp2_with fail
  rw [← hW]
  refine (scheckPair_any W vn vl ss G L Z _ _ _ _ HS.out HR.out).mono ?_
  rintro e w1 ⟨rfl, hb1⟩
  have HB1 := hide (up HB.out hb1)
  have HR1 := hide (at_up H3.out hb1)
  have q6 := (block_at HR1.out 0).trans rfl
  have q7 := (block_at HR1.out 1).trans rfl
  have z6 := block_free HR1.out 0
  have z7 := block_free HR1.out 1
  clear hb1 hW
  go_wp2_with fail
  have hs := set2 HR1.out (.int .i64 0) (.int .i64 0)
  have f0 := (block_at hs 0).trans rfl
  have f1 := (block_at hs 1).trans rfl
  refine bodyPost_ret (v := .tuple #[.agg #[.int .i64 0, .int .i64 0], .int .i64 (spE ss G L Z m l m' l')]) (by simp [results, Try.results23, go_sem, f0, f1]) rfl ⟨rfl, ?_⟩
  exact (HB1.out.setCell (by show w.heap.size ≤ w.heap.size + 1 + 1 + 1; omega) _).setCell (by show w.heap.size ≤ w.heap.size + 1 + 1 + 1; omega) _

/-! ### Constraints -/
theorem boxC (w : World) (vn vl : Value) (a b c d : Value) (W : World) (hW : W = (w.alloc (.cells #[vn, vl] 25)).alloc (.cells #[a, b, c, d] 55)) :
    W.heap[w.heap.size]? = some (.cells #[vn, vl] 25 (0, 0)) ∧ W.heap[w.heap.size + 1]? = some (.cells #[a, b, c, d] 55 (0, 0)) ∧ Below w.heap.size w W := by
  subst hW
  refine ⟨block_alloc (block_new w _) _, ?_, ((Below.refl _ _).alloc (Nat.le_refl _) _).alloc (by simp) _⟩
  have h := block_new (w.alloc (.cells #[vn, vl] 25)) (.cells #[a, b, c, d] 55)
  rw [show (w.alloc (.cells #[vn, vl] 25)).heap.size = w.heap.size + 1 by simp] at h
  exact h

set_option maxHeartbeats 2000000 in
set_option maxRecDepth 100000 in
theorem isConstraint_any (w : World) (vn vl : Value) (ss : List ByteArray) (n : Nat) (c : Sv.Co) (vf : Value) (hS : Strs w vn ss) (hF : Ints w vf c.fr) (_hn : n ≤ 40) :
    Calls Try.prog 65 #[.agg #[vn, vl], .int .i64 n, .agg #[.int .i64 c.to, vf, .int .i64 c.mask, .int .i64 c.level]] w fun e w' => e = .returned (.bool (Sv.coB ss.length n c)) ∧ Below w.heap.size w w' := by
  obtain ⟨ct, cf, cm, cl⟩ := c
  simp only at hF ⊢
  obtain ⟨E, hE⟩ : ∃ E, E = Sv.coB ss.length n ⟨ct, cf, cm, cl⟩ := ⟨_, rfl⟩
  have HE := hide hE
  rw [← hE]
  obtain ⟨ad, bl, off, cap, rfl, -, hl, -, -⟩ := hS
  obtain ⟨N, hN⟩ : ∃ N, N = ss.length := ⟨_, rfl⟩
  have HN := hide hN
  rw [← hN] at hl ⊢
  obtain ⟨fa, fb, fo, fc, rfl, hf0, hfl, hfe⟩ := hF
  obtain ⟨len, hlen⟩ : ∃ n, n = cf.length := ⟨_, rfl⟩
  have HLn := hide hlen
  rw [← hlen] at hf0 hfl ⊢
  obtain ⟨W, hW⟩ : ∃ W, W = (w.alloc (.cells #[.slice ad N cap, vl] 25)).alloc (.cells #[.int .i64 ct, .slice fa len fc, .int .i64 cm, .int .i64 cl] 55) := ⟨_, rfl⟩
  obtain ⟨b0, b1, hB⟩ := boxC w _ _ _ _ _ _ W hW
  have H0 := hide b0
  have H1 := hide b1
  have HB := hide hB
  have HFE := hide hfe
  have HF0 := hide hf0
  have q0 := (block_at b0 0).trans rfl
  have q1 := (block_at b0 1).trans rfl
  have q2 := (block_at b1 0).trans rfl
  have q3 := (block_at b1 1).trans rfl
  have q4 := (block_at b1 2).trans rfl
  have q5 := (block_at b1 3).trans rfl
  clear b0 b1 hB hfe hf0 hE hN hlen
  go_enter Try.func65, Try.ntmps65
  go_wp2_with fail
  try rw [← hW]
  clear hW
  go_loop [12] (fun i => ∃ k : Nat, k ≤ len ∧ i = .int .i64 k ∧ ∀ f ∈ cf.take k, Sv.varB n f = true) (fun i => len - (intOf i).toNat)
  case atStart => exact ⟨0, Nat.zero_le _, rfl, by simp⟩
  case round =>
    obtain ⟨k, hk, rfl, hall⟩ := hrel
    have HA := hide hall
    clear hall
    by_cases hlt : k < len
    · obtain ⟨f, hf⟩ : ∃ f, cf[k]? = some f := ⟨_, List.getElem?_eq_getElem (by rw [← HLn.out]; exact hlt)⟩
      have cf' := cellUp (HFE.out k f hf) HB.out
      obtain rfl := HF0.out (by omega)
      have HFK := hide hf
      clear hf
      go_wp2_with fail
      refine (isVariable_any W n f).mono ?_
      rintro e w' ⟨rfl, rfl⟩
      cases hv : Sv.varB n f
      · go_wp2_with fail
        go_ret
        refine ⟨ret_bool ?_, HB.out⟩
        rw [HE.out, Sv.coB, List.all_eq_false.2 ⟨f, List.mem_of_getElem? HFK.out, by simp [hv]⟩]
        rfl
      · go_wp2_with fail
        go_round
        case rel => exact ⟨k + 1, by omega, by go_num, fun g hg => by
            rw [List.take_add_one, HFK.out] at hg
            rcases List.mem_append.1 hg with h | h
            · exact HA.out g h
            · simp at h; subst h; exact hv⟩
        case measure => simp [intOf]; omega
    · have HALL : Hid (cf.all (Sv.varB n) = true) := hide (List.all_eq_true.2 fun f hf => HA.out f (by rw [List.take_of_length_le (by rw [← HLn.out]; omega)]; exact hf))
      go_wp2_with fail
      refine (isVariable_any W n ct).mono ?_
      rintro e w' ⟨rfl, rfl⟩
      cases hv : Sv.varB n ct
      · go_wp2_with fail
        go_ret
        exact ⟨ret_bool (by rw [HE.out, Sv.coB, HALL.out, hv]; rfl), HB.out⟩
      · go_wp2_with fail
        refine (isLabel_any w' ad vl N cap cm cl).mono ?_
        rintro e w2 ⟨rfl, hb2⟩
        have HB2 := hide (up HB.out hb2)
        clear hb2
        cases hb : Sv.labB N cm cl
        · go_wp2_with fail
          go_ret
          exact ⟨ret_bool (by rw [HE.out, Sv.coB, HALL.out, hv, ← HN.out, hb]; rfl), HB2.out⟩
        · go_wp2_with fail
          go_ret
          exact ⟨ret_bool (by rw [HE.out, Sv.coB, HALL.out, hv, ← HN.out, hb]; rfl), HB2.out⟩

namespace Sv
/-- What checkSystem answers. -/
def sysE (N : Nat) (n : Int) (cs : List Co) : Int := if n < 0 then 1 else if 40 < n then 1 else if 1000 < cs.length then 2 else if cs.all (coB N n.toNat) then 0 else 1
end Sv
theorem box1_at (w : World) (vn vl : Value) (W : World) (hW : W = w.alloc (.cells #[vn, vl] 25)) : W.heap[w.heap.size]? = some (.cells #[vn, vl] 25 (0, 0)) ∧ Below w.heap.size w W := by
  subst hW
  exact ⟨block_new w _, boxBelow w _⟩

set_option maxHeartbeats 2000000 in
set_option maxRecDepth 100000 in
theorem checkSystem_any (w : World) (vn vl vc : Value) (ss : List ByteArray) (ni : Int) (cs : List Sv.Co) (hS : Strs w vn ss) (hC : CosAt w vc cs) :
    Calls Try.prog 50 #[.agg #[vn, vl], .int .i64 ni, vc] w fun e w' => e = .returned (.int .i64 (Sv.sysE ss.length ni cs)) ∧ Below w.heap.size w w' := by
  have HS := hide hS
  obtain ⟨E, hE⟩ : ∃ E, E = Sv.sysE ss.length ni cs := ⟨_, rfl⟩
  have HE := hide hE
  rw [← hE]
  obtain ⟨W, hW⟩ : ∃ W, W = w.alloc (.cells #[vn, vl] 25) := ⟨_, rfl⟩
  obtain ⟨b0, hB⟩ := box1_at w vn vl W hW
  have H0 := hide b0
  have HB := hide hB
  obtain ⟨a, b, off, cap, rfl, h0, hl, hel⟩ := hC
  obtain ⟨len, hlen⟩ : ∃ n, n = cs.length := ⟨_, rfl⟩
  have HLn := hide hlen
  rw [← hlen] at h0 hl ⊢
  have HEL := hide hel
  have HA0 := hide h0
  clear b0 hB hS hE hel h0 hlen
  by_cases hn0 : ni < 0
  · have HX : Hid (E = 1) := hide (by rw [HE.out, Sv.sysE, if_pos hn0])
    go_enter Try.func50, Try.ntmps50
    go_wp2_with fail
    go_ret
    exact ⟨ret_int HX.out.symm, by rw [← hW]; exact HB.out⟩
  · by_cases hn1 : 40 < ni
    · have HX : Hid (E = 1) := hide (by rw [HE.out, Sv.sysE, if_neg hn0, if_pos hn1])
      go_enter Try.func50, Try.ntmps50
      go_wp2_with fail
      go_ret
      exact ⟨ret_int HX.out.symm, by rw [← hW]; exact HB.out⟩
    · obtain ⟨n, rfl⟩ : ∃ n : Nat, ni = n := ⟨ni.toNat, by omega⟩
      by_cases hbig : 1000 < len
      · have HX : Hid (E = 2) := hide (by rw [HE.out, Sv.sysE, if_neg hn0, if_neg hn1, if_pos (by rw [← HLn.out]; exact hbig)])
        go_enter Try.func50, Try.ntmps50
        go_wp2_with fail
        go_ret
        exact ⟨ret_int HX.out.symm, by rw [← hW]; exact HB.out⟩
      · have HX : Hid (E = if cs.all (Sv.coB ss.length n) then 0 else 1) := hide (by rw [HE.out, Sv.sysE, if_neg hn0, if_neg hn1, if_neg (by rw [← HLn.out]; exact hbig)]; rfl)
        go_enter Try.func50, Try.ntmps50
        go_wp2_with fail
        try rw [← hW]
        clear hW
        go_loopw [20] (fun i wx => ∃ k : Nat, k ≤ len ∧ i = .int .i64 k ∧ Below W.heap.size W wx ∧ ∀ f ∈ cs.take k, Sv.coB ss.length n f = true) (fun i _ => len - (intOf i).toNat)
        case atStart => exact ⟨0, Nat.zero_le _, rfl, Below.refl _ _, by simp⟩
        case round =>
          obtain ⟨k, hk, rfl, hbw, hall⟩ := hrel
          have HA := hide hall
          have HW := hide hbw
          clear hall hbw
          by_cases hlt : k < len
          · obtain ⟨f, hf⟩ : ∃ f, cs[k]? = some f := ⟨_, List.getElem?_eq_getElem (by rw [← HLn.out]; exact hlt)⟩
            have HFK := hide hf
            have hbx := up HB.out HW.out
            obtain ⟨vf, hvf, g0, g1, g2, g3⟩ := HEL.out k f hf
            have g0 := cellUp g0 hbx
            have g1 := cellUp g1 hbx
            have g2 := cellUp g2 hbx
            have g3 := cellUp g3 hbx
            have HVF := hide (hvf.below hbx)
            obtain ⟨fa, fb, fo, fc, rfl, -⟩ := hvf
            obtain rfl := HA0.out (by omega)
            have p0 := block_alloc (at_up H0.out HW.out) (.cells #[.int .i64 f.to, .slice fa f.fr.length fc, .int .i64 f.mask, .int .i64 f.level] 55)
            have q0 := (block_at p0 0).trans rfl
            have q1 := (block_at p0 1).trans rfl
            have HBX := hide (up hbx (boxBelow wr (.cells #[.int .i64 f.to, .slice fa f.fr.length fc, .int .i64 f.mask, .int .i64 f.level] 55)))
            have HWX := hide (up HW.out (boxBelow wr (.cells #[.int .i64 f.to, .slice fa f.fr.length fc, .int .i64 f.mask, .int .i64 f.level] 55)))
            have HVX := hide (HVF.out.below (boxBelow wr (.cells #[.int .i64 f.to, .slice fa f.fr.length fc, .int .i64 f.mask, .int .i64 f.level] 55)))
            clear hf hbx p0
            go_wp2_with fail
            refine (isConstraint_any _ vn vl ss n f _ (HS.out.below HBX.out) HVX.out (by omega)).mono ?_
            rintro e w2 ⟨rfl, hb2⟩
            have HW2 := hide (up HWX.out hb2)
            clear hb2
            cases hv : Sv.coB ss.length n f
            · go_wp2_with fail
              go_ret
              refine ⟨ret_int ?_, up HB.out HW2.out⟩
              rw [HX.out, List.all_eq_false.2 ⟨f, List.mem_of_getElem? HFK.out, by simp [hv]⟩]
              rfl
            · go_wp2_with fail
              go_roundw
              case rel => exact ⟨k + 1, by omega, by go_num, HW2.out, fun g hg => by
                  rw [List.take_add_one, HFK.out] at hg
                  rcases List.mem_append.1 hg with h | h
                  · exact HA.out g h
                  · simp at h; subst h; exact hv⟩
              case measure => simp [intOf]; omega
          · have HALL : Hid (cs.all (Sv.coB ss.length n) = true) := hide (List.all_eq_true.2 fun f hf => HA.out f (by rw [List.take_of_length_le (by rw [← HLn.out]; omega)]; exact hf))
            go_wp2_with fail
            go_ret
            exact ⟨ret_int (by rw [HX.out, HALL.out]; rfl), up HB.out HW.out⟩

end Go.Proofs.Ytholefgckcoklaa
