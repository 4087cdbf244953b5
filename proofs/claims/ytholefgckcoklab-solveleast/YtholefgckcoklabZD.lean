/- Walks over package solve, second part: Join, isConstraint, checkSystem. -/
import Derived.Test.YtholefgckcoklabZC
namespace Go.Proofs.Ytholefgckcoklab
open Go.RowKit

theorem box4_at (w : World) (vn vl : Value) (m l m' l' : Int) (W : World) (hW : W = (((w.alloc (.cells #[vn, vl] 25)).alloc (.cells #[.int .i64 m, .int .i64 l] 48)).alloc (.cells #[.int .i64 m', .int .i64 l'] 48)).alloc (.cells #[.int .i64 0, .int .i64 0] 48)) :
    W.heap[w.heap.size]? = some (.cells #[vn, vl] 25 (0, 0)) ∧ W.heap[w.heap.size + 1]? = some (.cells #[.int .i64 m, .int .i64 l] 48 (0, 0)) ∧
    W.heap[w.heap.size + 1 + 1]? = some (.cells #[.int .i64 m', .int .i64 l'] 48 (0, 0)) ∧ W.heap[w.heap.size + 1 + 1 + 1]? = some (.cells #[.int .i64 0, .int .i64 0] 48 (0, 0)) ∧ Below w.heap.size w W := by
  obtain ⟨b0, b1, b2, bs, hB⟩ := box3i_at w vn vl m l m' l' _ rfl
  subst hW
  refine ⟨block_alloc b0 _, block_alloc b1 _, block_alloc b2 _, ?_, up hB (boxBelow _ _)⟩
  have h := block_new (((w.alloc (.cells #[vn, vl] 25)).alloc (.cells #[.int .i64 m, .int .i64 l] 48)).alloc (.cells #[.int .i64 m', .int .i64 l'] 48)) (.cells #[.int .i64 0, .int .i64 0] 48)
  rw [bs] at h
  exact h

/-! ### Constraints -/
theorem boxC (w : World) (vn vl : Value) (a b c d : Value) (W : World) (hW : W = (w.alloc (.cells #[vn, vl] 25)).alloc (.cells #[a, b, c, d] 50)) :
    W.heap[w.heap.size]? = some (.cells #[vn, vl] 25 (0, 0)) ∧ W.heap[w.heap.size + 1]? = some (.cells #[a, b, c, d] 50 (0, 0)) ∧ Below w.heap.size w W := by
  subst hW
  refine ⟨block_alloc (block_new w _) _, ?_, ((Below.refl _ _).alloc (Nat.le_refl _) _).alloc (by simp) _⟩
  have h := block_new (w.alloc (.cells #[vn, vl] 25)) (.cells #[a, b, c, d] 50)
  rw [show (w.alloc (.cells #[vn, vl] 25)).heap.size = w.heap.size + 1 by simp] at h
  exact h

set_option maxHeartbeats 2000000 in
set_option maxRecDepth 100000 in
theorem isConstraint_any (w : World) (vn vl : Value) (ss : List ByteArray) (n : Nat) (c : Sv.Co) (vf : Value) (hS : Strs w vn ss) (hF : Ints w vf c.fr) (_hn : n ≤ 40) :
    Calls Try.prog 63 #[.agg #[vn, vl], .int .i64 n, .agg #[.int .i64 c.to, vf, .int .i64 c.mask, .int .i64 c.level]] w fun e w' => e = .returned (.bool (Sv.coB ss.length n c)) ∧ Below w.heap.size w w' := by
  obtain ⟨ct, cf, cm, cl⟩ := c
  simp only at hF ⊢
  obtain ⟨E, hE⟩ : ∃ E, E = Sv.coB ss.length n ⟨ct, cf, cm, cl⟩ := ⟨_, rfl⟩
  have HE := hide hE
  rw [← hE]
  obtain ⟨ad, bl, off, cap, rfl, -, hl, -, -⟩ := hS
  obtain ⟨N, hN⟩ : ∃ N, N = ss.length := ⟨_, rfl⟩
  have HN := hide hN
  rw [← hN] at hl ⊢
  obtain ⟨fa, fb, fo, fc, rfl, hf0, hfl, hfe⟩ := hF
  obtain ⟨len, hlen⟩ : ∃ n, n = cf.length := ⟨_, rfl⟩
  have HLn := hide hlen
  rw [← hlen] at hf0 hfl ⊢
  obtain ⟨W, hW⟩ : ∃ W, W = (w.alloc (.cells #[.slice ad N cap, vl] 25)).alloc (.cells #[.int .i64 ct, .slice fa len fc, .int .i64 cm, .int .i64 cl] 50) := ⟨_, rfl⟩
  obtain ⟨b0, b1, hB⟩ := boxC w _ _ _ _ _ _ W hW
  have H0 := hide b0
  have H1 := hide b1
  have HB := hide hB
  have HFE := hide hfe
  have HF0 := hide hf0
  have q0 := (block_at b0 0).trans rfl
  have q1 := (block_at b0 1).trans rfl
  have q2 := (block_at b1 0).trans rfl
  have q3 := (block_at b1 1).trans rfl
  have q4 := (block_at b1 2).trans rfl
  have q5 := (block_at b1 3).trans rfl
  clear b0 b1 hB hfe hf0 hE hN hlen
  go_enter Try.func63, Try.ntmps63
  go_wp2_with fail
  try rw [← hW]
  clear hW
  go_loop [12] (fun i => ∃ k : Nat, k ≤ len ∧ i = .int .i64 k ∧ ∀ f ∈ cf.take k, Sv.varB n f = true) (fun i => len - (intOf i).toNat)
  case atStart => exact ⟨0, Nat.zero_le _, rfl, by simp⟩
  case round =>
    obtain ⟨k, hk, rfl, hall⟩ := hrel
    have HA := hide hall
    clear hall
    by_cases hlt : k < len
    · obtain ⟨f, hf⟩ : ∃ f, cf[k]? = some f := ⟨_, List.getElem?_eq_getElem (by rw [← HLn.out]; exact hlt)⟩
      have cf' := cellUp (HFE.out k f hf) HB.out
      obtain rfl := HF0.out (by omega)
      have HFK := hide hf
      clear hf
      go_wp2_with fail
      refine (isVariable_any W n f).mono ?_
      rintro e w' ⟨rfl, rfl⟩
      cases hv : Sv.varB n f
      · go_wp2_with fail
        go_ret
        refine ⟨ret_bool ?_, HB.out⟩
        rw [HE.out, Sv.coB, List.all_eq_false.2 ⟨f, List.mem_of_getElem? HFK.out, by simp [hv]⟩]
        rfl
      · go_wp2_with fail
        go_round
        case rel => exact ⟨k + 1, by omega, by go_num, fun g hg => by
            rw [List.take_add_one, HFK.out] at hg
            rcases List.mem_append.1 hg with h | h
            · exact HA.out g h
            · simp at h; subst h; exact hv⟩
        case measure => simp [intOf]; omega
    · have HALL : Hid (cf.all (Sv.varB n) = true) := hide (List.all_eq_true.2 fun f hf => HA.out f (by rw [List.take_of_length_le (by rw [← HLn.out]; omega)]; exact hf))
      go_wp2_with fail
      refine (isVariable_any W n ct).mono ?_
      rintro e w' ⟨rfl, rfl⟩
      cases hv : Sv.varB n ct
      · go_wp2_with fail
        go_ret
        exact ⟨ret_bool (by rw [HE.out, Sv.coB, HALL.out, hv]; rfl), HB.out⟩
      · go_wp2_with fail
        refine (isLabel_any w' ad vl N cap cm cl).mono ?_
        rintro e w2 ⟨rfl, hb2⟩
        have HB2 := hide (up HB.out hb2)
        clear hb2
        cases hb : Sv.labB N cm cl
        · go_wp2_with fail
          go_ret
          exact ⟨ret_bool (by rw [HE.out, Sv.coB, HALL.out, hv, ← HN.out, hb]; rfl), HB2.out⟩
        · go_wp2_with fail
          go_ret
          exact ⟨ret_bool (by rw [HE.out, Sv.coB, HALL.out, hv, ← HN.out, hb]; rfl), HB2.out⟩

namespace Sv
/-- What checkSystem answers. -/
def sysE (N : Nat) (n : Int) (cs : List Co) : Int := if n < 0 then 1 else if 40 < n then 1 else if 1000 < cs.length then 2 else if cs.all (coB N n.toNat) then 0 else 1
end Sv
theorem box1_at (w : World) (vn vl : Value) (W : World) (hW : W = w.alloc (.cells #[vn, vl] 25)) : W.heap[w.heap.size]? = some (.cells #[vn, vl] 25 (0, 0)) ∧ Below w.heap.size w W := by
  subst hW
  exact ⟨block_new w _, boxBelow w _⟩

set_option maxHeartbeats 2000000 in
set_option maxRecDepth 100000 in
theorem checkSystem_any (w : World) (vn vl vc : Value) (ss : List ByteArray) (ni : Int) (cs : List Sv.Co) (hS : Strs w vn ss) (hC : CosAt w vc cs) :
    Calls Try.prog 45 #[.agg #[vn, vl], .int .i64 ni, vc] w fun e w' => e = .returned (.int .i64 (Sv.sysE ss.length ni cs)) ∧ Below w.heap.size w w' := by
  have HS := hide hS
  obtain ⟨E, hE⟩ : ∃ E, E = Sv.sysE ss.length ni cs := ⟨_, rfl⟩
  have HE := hide hE
  rw [← hE]
  obtain ⟨W, hW⟩ : ∃ W, W = w.alloc (.cells #[vn, vl] 25) := ⟨_, rfl⟩
  obtain ⟨b0, hB⟩ := box1_at w vn vl W hW
  have H0 := hide b0
  have HB := hide hB
  obtain ⟨a, b, off, cap, rfl, h0, hl, hel⟩ := hC
  obtain ⟨len, hlen⟩ : ∃ n, n = cs.length := ⟨_, rfl⟩
  have HLn := hide hlen
  rw [← hlen] at h0 hl ⊢
  have HEL := hide hel
  have HA0 := hide h0
  clear b0 hB hS hE hel h0 hlen
  by_cases hn0 : ni < 0
  · have HX : Hid (E = 1) := hide (by rw [HE.out, Sv.sysE, if_pos hn0])
    go_enter Try.func45, Try.ntmps45
    go_wp2_with fail
    go_ret
    exact ⟨ret_int HX.out.symm, by rw [← hW]; exact HB.out⟩
  · by_cases hn1 : 40 < ni
    · have HX : Hid (E = 1) := hide (by rw [HE.out, Sv.sysE, if_neg hn0, if_pos hn1])
      go_enter Try.func45, Try.ntmps45
      go_wp2_with fail
      go_ret
      exact ⟨ret_int HX.out.symm, by rw [← hW]; exact HB.out⟩
    · obtain ⟨n, rfl⟩ : ∃ n : Nat, ni = n := ⟨ni.toNat, by omega⟩
      by_cases hbig : 1000 < len
      · have HX : Hid (E = 2) := hide (by rw [HE.out, Sv.sysE, if_neg hn0, if_neg hn1, if_pos (by rw [← HLn.out]; exact hbig)])
        go_enter Try.func45, Try.ntmps45
        go_wp2_with fail
        go_ret
        exact ⟨ret_int HX.out.symm, by rw [← hW]; exact HB.out⟩
      · have HX : Hid (E = if cs.all (Sv.coB ss.length n) then 0 else 1) := hide (by rw [HE.out, Sv.sysE, if_neg hn0, if_neg hn1, if_neg (by rw [← HLn.out]; exact hbig)]; rfl)
        go_enter Try.func45, Try.ntmps45
        go_wp2_with fail
        try rw [← hW]
        clear hW
        go_loopw [20] (fun i wx => ∃ k : Nat, k ≤ len ∧ i = .int .i64 k ∧ Below W.heap.size W wx ∧ ∀ f ∈ cs.take k, Sv.coB ss.length n f = true) (fun i _ => len - (intOf i).toNat)
        case atStart => exact ⟨0, Nat.zero_le _, rfl, Below.refl _ _, by simp⟩
        case round =>
          obtain ⟨k, hk, rfl, hbw, hall⟩ := hrel
          have HA := hide hall
          have HW := hide hbw
          clear hall hbw
          by_cases hlt : k < len
          · obtain ⟨f, hf⟩ : ∃ f, cs[k]? = some f := ⟨_, List.getElem?_eq_getElem (by rw [← HLn.out]; exact hlt)⟩
            have HFK := hide hf
            have hbx := up HB.out HW.out
            obtain ⟨vf, hvf, g0, g1, g2, g3⟩ := HEL.out k f hf
            have g0 := cellUp g0 hbx
            have g1 := cellUp g1 hbx
            have g2 := cellUp g2 hbx
            have g3 := cellUp g3 hbx
            have HVF := hide (hvf.below hbx)
            obtain ⟨fa, fb, fo, fc, rfl, -⟩ := hvf
            obtain rfl := HA0.out (by omega)
            have p0 := block_alloc (at_up H0.out HW.out) (.cells #[.int .i64 f.to, .slice fa f.fr.length fc, .int .i64 f.mask, .int .i64 f.level] 50)
            have q0 := (block_at p0 0).trans rfl
            have q1 := (block_at p0 1).trans rfl
            have HBX := hide (up hbx (boxBelow wr (.cells #[.int .i64 f.to, .slice fa f.fr.length fc, .int .i64 f.mask, .int .i64 f.level] 50)))
            have HWX := hide (up HW.out (boxBelow wr (.cells #[.int .i64 f.to, .slice fa f.fr.length fc, .int .i64 f.mask, .int .i64 f.level] 50)))
            have HVX := hide (HVF.out.below (boxBelow wr (.cells #[.int .i64 f.to, .slice fa f.fr.length fc, .int .i64 f.mask, .int .i64 f.level] 50)))
            clear hf hbx p0
            go_wp2_with fail
            refine (isConstraint_any _ vn vl ss n f _ (HS.out.below HBX.out) HVX.out (by omega)).mono ?_
            rintro e w2 ⟨rfl, hb2⟩
            have HW2 := hide (up HWX.out hb2)
            clear hb2
            cases hv : Sv.coB ss.length n f
            · go_wp2_with fail
              go_ret
              refine ⟨ret_int ?_, up HB.out HW2.out⟩
              rw [HX.out, List.all_eq_false.2 ⟨f, List.mem_of_getElem? HFK.out, by simp [hv]⟩]
              rfl
            · go_wp2_with fail
              go_roundw
              case rel => exact ⟨k + 1, by omega, by go_num, HW2.out, fun g hg => by
                  rw [List.take_add_one, HFK.out] at hg
                  rcases List.mem_append.1 hg with h | h
                  · exact HA.out g h
                  · simp at h; subst h; exact hv⟩
              case measure => simp [intOf]; omega
          · have HALL : Hid (cs.all (Sv.coB ss.length n) = true) := hide (List.all_eq_true.2 fun f hf => HA.out f (by rw [List.take_of_length_le (by rw [← HLn.out]; omega)]; exact hf))
            go_wp2_with fail
            go_ret
            exact ⟨ret_int (by rw [HX.out, HALL.out]; rfl), up HB.out HW.out⟩

end Go.Proofs.Ytholefgckcoklab
