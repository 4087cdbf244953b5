/- SolveSays: the law's walk where the lattice is right. -/
import Derived.Test.YtholefgckcoklaaZU
import Derived.Deep.CutRange
import Derived.Deep.CutBlock
namespace Go.Proofs.Ytholefgckcoklaa
open Go.RowKit

set_option maxHeartbeats 8000000 in
set_option maxRecDepth 100000 in
theorem ssays_ok (w : World) (vn vl vc : Value) (ss : List ByteArray) (G : Nat) (L : Nat → Nat) (Z : Nat → Nat → Bool) (am al bm bl ni : Int) (cs : List Sv.Co) (hL : LaAt w vn vl ss G L Z) (hC : CosAt w vc cs) :
    Calls Try.prog 5 #[.agg #[vn, vl], .agg #[.int .i64 am, .int .i64 al], .agg #[.int .i64 bm, .int .i64 bl], .int .i64 ni, vc] w fun e w' => e = .returned (.bool true) ∧ Below w.heap.size w w' := by
  have HL := hide hL
  have HC := hide hC
  have HS := hide hL.strs
  have HR := hide hL.rag
  have HE := hide hL.ok
  have HJ := hide hL.joins
  obtain ⟨ad, sb, so, scap, hvn, -, hsl, -, -⟩ := hL.strs
  obtain ⟨ca, cb, co, cc, hvc, h0, hl, hel⟩ := hC
  subst hvn hvc
  have HEL := hide hel
  have HA0 := hide h0
  obtain ⟨N, hN⟩ : ∃ N, N = ss.length := ⟨_, rfl⟩
  have HN := hide hN
  obtain ⟨len, hlen⟩ : ∃ n, n = cs.length := ⟨_, rfl⟩
  have HLn := hide hlen
  rw [← hN] at HL HS hsl ⊢
  rw [← hlen] at HC HA0 hl ⊢
  obtain ⟨W, hW⟩ : ∃ W, W = (((w.alloc (.cells #[.slice ad N scap, vl] 25)).alloc (.cells #[.int .i64 am, .int .i64 al] 46)).alloc (.cells #[.int .i64 bm, .int .i64 bl] 46)).alloc (.cells #[.int .i64 ni] 3) := ⟨_, rfl⟩
  have HX := hide (bx_start w (.slice ad N scap) vl am al bm bl ni W hW)
  have hcase : Sv.labB N am al = false ∨ (Sv.labB N am al = true ∧ Sv.labB N bm bl = false) ∨ (Sv.labB N am al = true ∧ Sv.labB N bm bl = true) := by
    cases Sv.labB N am al <;> cases Sv.labB N bm bl <;> simp
  have HCASE := hide hcase
  obtain ⟨F, hF⟩ : ∃ F, F = spE ss G L Z am al bm bl := ⟨_, rfl⟩
  obtain ⟨jm, hjm⟩ : ∃ x, x = (jA ss G L Z am al bm bl).1 := ⟨_, rfl⟩
  obtain ⟨jl, hjl⟩ : ∃ x, x = (jA ss G L Z am al bm bl).2 := ⟨_, rfl⟩
  obtain ⟨R, hR⟩ : ∃ x, x = rA ss G L Z am al bm bl := ⟨_, rfl⟩
  have HF := hide hF
  have HJM := hide hjm
  have HJL := hide hjl
  have HRR := hide hR
  clear hL h0 hel hN hlen hcase hF hjm hjl hR
  go_enter Try.func5, Try.ntmps5
  go_wp2_with fail
  rw [← hW]
  clear hW
  refine (rlattice_any W _ vl ss G L Z (HS.out.below HX.out.since) (HR.out.below HX.out.since)).mono ?_
  rintro e w1 ⟨rfl, hb1⟩
  rw [HE.out]
  have HX1 := hide (HX.out.below (up hb1 (boxBelow w1 (.cells #[.int .i64 0, .int .i64 0] 46))))
  have HJ1 := hide (block_new w1 (.cells #[.int .i64 0, .int .i64 0] 46))
  have HW1 : Hid (w.heap.size + 1 + 1 + 1 < w1.heap.size) := hide (by have h1 := block_lt HX.out.b3; have h2 := hb1.size; omega)
  clear hb1 HX
  go_upto_if 29 with fail
  go_cut [12, 14] from 25 (fun f r wx => f = .int .i64 F ∧ r = .bool R ∧ Hid (BX w wx (.slice ad N scap) vl am al bm bl ni ∧ wx.heap[w1.heap.size]? = some (.cells #[.int .i64 jm, .int .i64 jl] 46 (0, 0))))
  case first =>
    obtain ⟨q0, q1, q2, q3, q4, q5, q6⟩ := HX1.out.cells
    go_wp2_with fail
    refine (rlabel_any _ ad vl N scap am al hsl).mono ?_
    rintro e w2 ⟨rfl, hb2⟩
    have HX2 := hide (HX1.out.below hb2)
    have HJ2 := hide (at_up HJ1.out hb2)
    clear hb2 HX1 HJ1 q0 q1 q2 q3 q4 q5 q6
    obtain ⟨q0, q1, q2, q3, q4, q5, q6⟩ := HX2.out.cells
    rcases HCASE.out with h1 | ⟨h1, h2⟩ | ⟨h1, h2⟩
    · rw [h1]
      have HSP : Hid (F = 1) := hide (by rw [HF.out]; unfold spE; rw [if_pos HE.out, ← HN.out, h1]; rfl)
      have HJA := hide (jA_err (show spE ss G L Z am al bm bl ≠ 0 by rw [← HF.out, HSP.out]; decide))
      go_wp2_with fail
      go_meet
      case rel => exact ⟨by rw [HSP.out], by rw [HRR.out, HJA.out.2], hide ⟨HX2.out, by rw [HJM.out, HJL.out, HJA.out.1]; exact HJ2.out⟩⟩
    · rw [h1]
      have HSP : Hid (F = 1) := hide (by rw [HF.out]; unfold spE; rw [if_pos HE.out, ← HN.out, h1, h2]; rfl)
      have HJA := hide (jA_err (show spE ss G L Z am al bm bl ≠ 0 by rw [← HF.out, HSP.out]; decide))
      go_wp2_with fail
      refine (rlabel_any _ ad vl N scap bm bl hsl).mono ?_
      rintro e w3 ⟨rfl, hb3⟩
      rw [h2]
      have HX3 := hide (HX2.out.below hb3)
      have HJ3 := hide (at_up HJ2.out hb3)
      clear hb3 HX2 HJ2 q0 q1 q2 q3 q4 q5 q6
      go_wp2_with fail
      go_meet
      case rel => exact ⟨by rw [HSP.out], by rw [HRR.out, HJA.out.2], hide ⟨HX3.out, by rw [HJM.out, HJL.out, HJA.out.1]; exact HJ3.out⟩⟩
    · rw [h1]
      obtain ⟨x, hxo, hx1, hx2⟩ := lab_nat h1
      obtain ⟨y, hyo, hy1, hy2⟩ := lab_nat h2
      subst hx1 hx2 hy1 hy2
      rw [HN.out] at hxo hyo
      have HXO := hide hxo
      have HYO := hide hyo
      have HSP : Hid (F = 0) := hide (by rw [HF.out]; exact spE_of HE.out hxo hyo)
      have HJA := hide (jA_ok (show spE ss G L Z (x.1 : Nat) (x.2 : Nat) (y.1 : Nat) (y.2 : Nat) = 0 from spE_of HE.out hxo hyo))
      have HIS := hide (both_is HJ.out hxo hyo)
      obtain ⟨J, hJ⟩ : ∃ J, J = Sv.join Z ss.length x y := ⟨_, rfl⟩
      have HJJ := hide hJ
      rw [← hJ] at HIS HJA
      have HR1 : Hid (R = Sv.le Z x y) := hide (by rw [HRR.out, HJA.out.2])
      rw [← HR1.out] at HIS
      clear hxo hyo hJ
      go_wp2_with fail
      refine (rlabel_any _ ad vl N scap _ _ hsl).mono ?_
      rintro e w3 ⟨rfl, hb3⟩
      rw [h2]
      have HX3 := hide (HX2.out.below hb3)
      have HJ3 := hide (at_up HJ2.out hb3)
      clear hb3 HX2 HJ2 q0 q1 q2 q3 q4 q5 q6
      obtain ⟨q0, q1, q2, q3, q4, q5, q6⟩ := HX3.out.cells
      go_wp2_with fail
      clear q0 q1 q2 q3 q4 q5 q6
      refine (both_any _ _ vl ss G L Z x y (HL.out.below HX3.out.since) HXO.out HYO.out).mono ?_
      rintro e w4 ⟨rfl, hb4⟩
      rw [← HJJ.out]
      have HX4 := hide (HX3.out.below hb4)
      have HJ4 := hide (at_up HJ3.out hb4)
      have u0 := (block_at HJ4.out 0).trans rfl
      have u1 := (block_at HJ4.out 1).trans rfl
      have z0 := block_free HJ4.out 0
      have z1 := block_free HJ4.out 1
      have HJ5 := hide (set2 HJ4.out (.int .i64 (J.1 : Nat)) (.int .i64 (J.2 : Nat)))
      have HX5 := hide ((HX4.out.set (a := ⟨w1.heap.size, 0, none⟩) HW1.out (.int .i64 (J.1 : Nat))).set (a := ⟨w1.heap.size, 1, none⟩) HW1.out (.int .i64 (J.2 : Nat)))
      clear hb4 HX3 HJ3
      go_wp2_with fail
      clear u0 u1 z0 z1
      generalize (w4.setCell ⟨w1.heap.size, 0, none⟩ (.int .i64 (J.1 : Nat))).setCell ⟨w1.heap.size, 1, none⟩ (.int .i64 (J.2 : Nat)) = W5 at *
      obtain ⟨q0, q1, q2, q3, q4, q5, q6⟩ := HX5.out.cells
      have HBO := hide (fun k os => both_any (gn W5 k os) (.slice ad N scap) vl ss G L Z x y (HL.out.below (up HX5.out.since (below_gn W5 k os))) HXO.out HYO.out)
      rw [← HJJ.out] at HBO
      have heq : ∀ w, Sem.run Try.prog (Op.equalIn 10000 46 (.agg #[.int .i64 (J.1 : Nat), .int .i64 (J.2 : Nat)]) (.agg #[.int .i64 (y.1 : Nat), .int .i64 (y.2 : Nat)])) w = .ok R w := fun w => by rw [eqIn_lb, HIS.out]
      have hgd : ∀ op a b w, Sem.run Try.prog (eqGuard op 46 a b (.agg #[.int .i64 (J.1 : Nat), .int .i64 (J.2 : Nat)]) (.agg #[.int .i64 (y.1 : Nat), .int .i64 (y.2 : Nat)])) w = .ok () w := fun op a b w => guard_lb op a b _ _ _ _ w
      replace q0 := cell_gn q0
      replace q1 := cell_gn q1
      replace q2 := cell_gn q2
      replace q3 := cell_gn q3
      replace q4 := cell_gn q4
      replace q5 := cell_gn q5
      refine wp_region_quiet_gn (by kernel_rfl) (by kernel_rfl) ?_
      repeat (quiet_step ((exact Calls.gn_of (HBO.out _ _))))
      refine wpQuiet_nil ?_
      intro w6 hw'
      obtain ⟨⟨nq, osq⟩, hw''⟩ := hw'
      have hb6 : Below W5.heap.size W5 w6 := by rw [hw'']; exact below_gn W5 nq osq
      have HX6 := hide (HX5.out.below hb6)
      have HJ6 := hide (at_up HJ5.out hb6)
      clear hw'' hb6 q0 q1 q2 q3 q4 q5 q6 heq hgd HX5 HJ5 HBO
      go_wp2_with fail
      go_meet
      case rel => exact ⟨by rw [HSP.out], rfl, hide ⟨HX6.out, by rw [HJM.out, HJL.out, HJA.out.1]; exact HJ6.out⟩⟩
  case rest =>
    obtain ⟨rfl, rfl, hcut'⟩ := hcut
    have HX6 := hide hcut'.out.1
    have HJ6 := hide hcut'.out.2
    clear hcut' HX1 HJ1 HW1
    obtain ⟨q0, q1, q2, q3, q4, q5, q6⟩ := HX6.out.cells
    go_wp2_with fail
    clear q0 q1 q2 q3 q4 q5 q6
    refine (sjoin_all _ _ vl ss G L Z am al bm bl (HL.out.below HX6.out.since)).mono ?_
    rintro e w7 ⟨rfl, hb7⟩
    rw [← HJM.out, ← HJL.out, ← HF.out]
    have HJ7 := hide (block_alloc (at_up HJ6.out hb7) (.cells #[.int .i64 jm, .int .i64 jl] 46))
    have HX7 := hide (HX6.out.below (up hb7 (boxBelow w7 (.cells #[.int .i64 jm, .int .i64 jl] 46))))
    have HJ8 := hide (block_new w7 (.cells #[.int .i64 jm, .int .i64 jl] 46))
    obtain ⟨q0, q1, q2, q3, q4, q5, q6⟩ := HX7.out.cells
    clear hb7 HX6 HJ6
    go_wp2_with fail
    clear q0 q1 q2 q3 q4 q5 q6
    refine (sbelow_all _ _ vl ss G L Z am al bm bl (HL.out.below HX7.out.since)).mono ?_
    rintro e w9 ⟨rfl, hb9⟩
    rw [← HRR.out, ← HF.out]
    have HY9 := hide (HX7.out.below hb9).two
    have u0 := (block_at (at_up HJ7.out hb9) 0).trans rfl
    have u1 := (block_at (at_up HJ7.out hb9) 1).trans rfl
    have u2 := (block_at (at_up HJ8.out hb9) 0).trans rfl
    have u3 := (block_at (at_up HJ8.out hb9) 1).trans rfl
    have heq : ∀ w, Sem.run Try.prog (Op.equalIn 10000 46 (.agg #[.int .i64 jm, .int .i64 jl]) (.agg #[.int .i64 jm, .int .i64 jl])) w = .ok true w := fun w => by rw [eqIn_lb]; simp
    have hgd : ∀ op a b w, Sem.run Try.prog (eqGuard op 46 a b (.agg #[.int .i64 jm, .int .i64 jl]) (.agg #[.int .i64 jm, .int .i64 jl])) w = .ok () w := fun op a b w => guard_lb op a b _ _ _ _ w
    have hff : (F != F) = false := by simp
    have hrr : (R != R) = false := by simp
    clear hb9 HX7 HJ7 HJ8
    go_upto_block 0 with fail
    clear u0 u1 u2 u3 heq hgd hff hrr
    go_cut [11] from 25 (fun ev wx => ev = .int .i64 (Sv.preE ni len) ∧ Hid (BY w wx (.slice ad N scap) vl ni))
    case first =>
      obtain ⟨q0, q1, q6⟩ := HY9.out.cells
      go_wp2_with fail
      refine (in_any w9 ni 0 40).mono ?_
      rintro e w10 ⟨rfl, rfl⟩
      rcases pre_cases ni len with ⟨hA, hP⟩ | ⟨hA, hbig, hP⟩ | ⟨hA, hbig, hP⟩
      all_goals
        rw [hA]
        have HP := hide hP
        clear hP hA q0 q1 q6
        go_wp2_with fail
        go_meet
        case rel => exact ⟨by rw [HP.out], HY9⟩
    case rest =>
      obtain ⟨rfl, hcut'⟩ := hcut
      have HY9 := hcut'
      clear hcut'
      go_wp2_with fail
      go_loopw [11, 92] (fun ev i wx => ∃ k : Nat, k ≤ len ∧ i = .int .i64 k ∧ ev = .int .i64 (Sv.eAt (Sv.preE ni len) N (pred64 ni) (cs.take k)) ∧ BY w wx (.slice ad N scap) vl ni) (fun _ i _ => len - (intOf i).toNat)
      case atStart => exact ⟨0, Nat.zero_le _, rfl, by rw [List.take_zero, Sv.eAt_nil], HY9.out⟩
      case round =>
        obtain ⟨k, hk, rfl, rfl, hby⟩ := hrel
        have HY := hide hby
        obtain ⟨E1, hE1⟩ : ∃ E1, E1 = Sv.eAt (Sv.preE ni len) N (pred64 ni) (cs.take k) := ⟨_, rfl⟩
        have HE1 := hide hE1
        rw [← hE1]
        clear hby hE1 HY9
        by_cases hlt : k < len
        · obtain ⟨c, hc⟩ : ∃ c, cs[k]? = some c := ⟨_, List.getElem?_eq_getElem (by rw [← HLn.out]; exact hlt)⟩
          have HCK := hide hc
          obtain ⟨vf, hvf, g0, g1, g2, g3⟩ := HEL.out k c hc
          replace g0 := cellUp g0 HY.out.since
          replace g1 := cellUp g1 HY.out.since
          replace g2 := cellUp g2 HY.out.since
          replace g3 := cellUp g3 HY.out.since
          have HVF0 := hide (hvf.below HY.out.since)
          obtain ⟨fa, fb, fo, fc, rfl, -⟩ := hvf
          obtain rfl := HA0.out (by omega)
          have HYB := hide (HY.out.below (boxBelow wr (.cells #[.int .i64 c.to, .slice fa c.fr.length fc, .int .i64 c.mask, .int .i64 c.level] 55)))
          have HVF := hide (HVF0.out.below (boxBelow wr (.cells #[.int .i64 c.to, .slice fa c.fr.length fc, .int .i64 c.mask, .int .i64 c.level] 55)))
          have HBC := hide (block_new wr (.cells #[.int .i64 c.to, .slice fa c.fr.length fc, .int .i64 c.mask, .int .i64 c.level] 55))
          obtain ⟨q0, q1, q6⟩ := HYB.out.cells
          clear hc HVF0 HY
          go_wp2_with fail
          clear q0 q1 q6 g0 g1 g2 g3
          refine (rlabel_any _ ad vl N scap c.mask c.level hsl).mono ?_
          rintro e w11 ⟨rfl, hb11⟩
          have HY11 := hide (HYB.out.below hb11)
          have HV11 := hide (HVF.out.below hb11)
          have hbc := at_up HBC.out hb11
          have g0 := (block_at hbc 0).trans rfl
          have g1 := (block_at hbc 1).trans rfl
          obtain ⟨q0, q1, q6⟩ := HY11.out.cells
          have HWR : Hid (∀ b, b = Sv.wrongB N (pred64 ni) c → ((E1 = 0 ∧ b = true) → Sv.eAt (Sv.preE ni len) N (pred64 ni) (cs.take (k + 1)) = 1) ∧ ((E1 ≠ 0 ∨ b = false) → Sv.eAt (Sv.preE ni len) N (pred64 ni) (cs.take (k + 1)) = E1)) := hide (by
            intro b hb
            rw [take_snoc HCK.out, HE1.out, hb]
            exact ⟨fun h => Sv.eAt_yes h.1 h.2, fun h => Sv.eAt_no h⟩)
          clear hb11 hbc HYB HVF HBC
          cases hw1 : Sv.labB N c.mask c.level
          · have HWB : Hid (true = Sv.wrongB N (pred64 ni) c) := hide (by unfold Sv.wrongB; rw [hw1]; rfl)
            by_cases hz : E1 = 0
            · have hz1 : (E1 == 0) = true := by simp [hz]
              go_wp2_with fail
              go_roundw
              case rel => exact ⟨k + 1, by omega, by go_num, by rw [(HWR.out _ HWB.out).1 ⟨hz, rfl⟩], HY11.out⟩
              case measure => simp [intOf]; omega
            · have hz1 := beq_zero_false hz
              go_wp2_with fail
              go_roundw
              case rel => exact ⟨k + 1, by omega, by go_num, by rw [(HWR.out _ HWB.out).2 (Or.inl hz)], HY11.out⟩
              case measure => simp [intOf]; omega
          · go_wp2_with fail
            refine (in_any _ c.to 0 _).mono ?_
            rintro e w12 ⟨rfl, rfl⟩
            cases hw2 : (decide (0 ≤ c.to) && decide (c.to ≤ wrap64 (ni - 1)))
            · have HWB : Hid (true = Sv.wrongB N (pred64 ni) c) := hide (by unfold Sv.wrongB outB pred64; rw [hw1, hw2]; rfl)
              by_cases hz : E1 = 0
              · have hz1 : (E1 == 0) = true := by simp [hz]
                go_wp2_with fail
                go_roundw
                case rel => exact ⟨k + 1, by omega, by go_num, by rw [(HWR.out _ HWB.out).1 ⟨hz, rfl⟩], HY11.out⟩
                case measure => simp [intOf]; omega
              · have hz1 := beq_zero_false hz
                go_wp2_with fail
                go_roundw
                case rel => exact ⟨k + 1, by omega, by go_num, by rw [(HWR.out _ HWB.out).2 (Or.inl hz)], HY11.out⟩
                case measure => simp [intOf]; omega
            · go_wp2_with fail
              refine (containsF_any _ _ c.fr _ ni (by exact q6) HV11.out).mono ?_
              rintro e w13 ⟨rfl, rfl⟩
              obtain ⟨b, hb⟩ : ∃ b, b = c.fr.any (outB (pred64 ni)) := ⟨_, rfl⟩
              rw [← hb]
              have HWB : Hid (b = Sv.wrongB N (pred64 ni) c) := hide (by rw [hb]; unfold Sv.wrongB; rw [hw1, show outB (pred64 ni) c.to = false by unfold outB pred64; rw [hw2]; rfl]; rfl)
              clear hb
              by_cases hz : E1 = 0
              · have hz1 : (E1 == 0) = true := by simp [hz]
                cases b
                · go_wp2_with fail
                  go_roundw
                  case rel => exact ⟨k + 1, by omega, by go_num, by rw [(HWR.out _ HWB.out).2 (Or.inr rfl), hz], HY11.out⟩
                  case measure => simp [intOf]; omega
                · go_wp2_with fail
                  go_roundw
                  case rel => exact ⟨k + 1, by omega, by go_num, by rw [(HWR.out _ HWB.out).1 ⟨hz, rfl⟩], HY11.out⟩
                  case measure => simp [intOf]; omega
              · have hz1 := beq_zero_false hz
                go_wp2_with fail
                go_roundw
                case rel => exact ⟨k + 1, by omega, by go_num, by rw [(HWR.out _ HWB.out).2 (Or.inl hz)], HY11.out⟩
                case measure => simp [intOf]; omega
        · have HSY : Hid (Sv.sysE ss.length ni cs = E1) := hide (by
            rw [Sv.sys_eq, ← HLn.out, ← HN.out, HE1.out, List.take_of_length_le (by rw [← HLn.out]; omega)])
          obtain ⟨q0, q1, q6⟩ := HY.out.cells
          by_cases hz : E1 = 0
          · have hz1 : (E1 == 0) = true := by simp [hz]
            obtain ⟨m, hm, hm40, hcl, hall⟩ := sysE_ok (HSY.out.trans hz)
            subst hm
            have HALL := hide hall
            have HM40 := hide hm40
            have HCL := hide hcl
            clear hall hm40 hcl
            go_wp2_with fail
            clear q0 q1 q6
            refine (rleast_any wr _ vl _ ss G L Z m cs (HL.out.below HY.out.since) (HC.out.below HY.out.since) HM40.out HCL.out HALL.out).mono ?_
            rintro e w14 ⟨V, vv, rfl, hlas, hleast, hb14⟩
            have HLAS := hide hlas
            have HLEAST := hide hleast
            have HY14 := hide (HY.out.below hb14)
            obtain ⟨la, lb, lo, lc, rfl, -⟩ := hlas
            obtain ⟨q0, q1, q6⟩ := HY14.out.cells
            clear hleast hb14
            go_wp2_with fail
            clear q0 q1 q6
            refine (least_ok w14 _ vl _ ss G L Z m cs (HL.out.below HY14.out.since) (HC.out.below HY14.out.since) (HSY.out.trans hz)).mono ?_
            rintro e w15 ⟨V2, lb2, rfl, hlas2, hleast2, hb15⟩
            have HLAS2 : Hid (LasAt w15 (.slice (some ⟨lb2, 0, none⟩) m m) (Sv.list m V)) := hide (by
              have he : Sv.list m V = Sv.list m V2 := List.map_congr_left fun u hu => by
                rw [HLEAST.out.unique HJ.out hleast2 u (List.mem_range.1 hu)]
              rw [he]; exact hlas2)
            have HLAS1 := hide (HLAS.out.below hb15)
            have HB15 := hide (up HY14.out.since hb15)
            clear hlas2 hleast2 hb15
            subst hz
            go_wp2_with fail
            refine (eqL_same w15 _ _ _ HLAS2.out HLAS1.out).mono ?_
            rintro e w16 ⟨rfl, hb16⟩
            have HB16 := hide (up HB15.out hb16)
            clear hb16
            go_wp2_with fail
            go_ret
            exact ⟨rfl, HB16.out⟩
          · have hz1 := beq_zero_false hz
            have hee : (E1 == E1) = true := by simp
            go_wp2_with fail
            clear q0 q1 q6
            refine (least_err2 wr _ vl _ ss G L Z ni cs (HL.out.below HY.out.since) (HC.out.below HY.out.since) (by rw [HSY.out]; exact hz)).mono ?_
            rintro e w15 ⟨rfl, hb15⟩
            rw [HSY.out]
            have HB15 := hide (up HY.out.since hb15)
            clear hb15
            go_wp2_with fail
            refine (eqL_same w15 _ _ [] (las_nil _) (las_nil _)).mono ?_
            rintro e w16 ⟨rfl, hb16⟩
            have HB16 := hide (up HB15.out hb16)
            clear hb16
            go_wp2_with fail
            go_ret
            exact ⟨rfl, HB16.out⟩


end Go.Proofs.Ytholefgckcoklaa
