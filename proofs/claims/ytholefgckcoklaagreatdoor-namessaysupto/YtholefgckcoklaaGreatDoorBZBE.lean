/- Walks over package downref: Module answers what the document says of a module. -/
import Derived.Test.YtholefgckcoklaaGreatDoorBZBC
namespace Go.Proofs.YtholefgckcoklaaGreatDoor
open Go.RowKit
theorem byteEq (a c : UInt8) (n : Int) (h : (c.toNat : Int) = n) : ((a.toNat : Int) == n) = (a == c) := by
  rw [Bool.eq_iff_iff]; simp only [beq_iff_eq]
  constructor
  · intro e; exact UInt8.toNat_inj.1 (by omega)
  · intro e; subst e; exact h
theorem step3 (c : UInt8) : (((c.toNat : Int) == 40) = true ∧ ((c.toNat : Int) == 41) = false ∧ Lat.step c = 1) ∨ (((c.toNat : Int) == 40) = false ∧ ((c.toNat : Int) == 41) = true ∧ Lat.step c = -1) ∨
    (((c.toNat : Int) == 40) = false ∧ ((c.toNat : Int) == 41) = false ∧ Lat.step c = 0) := by
  rw [byteEq c 40 40 rfl, byteEq c 41 41 rfl]
  unfold Lat.step
  by_cases h : c = 40
  · subst h; exact Or.inl ⟨rfl, rfl, rfl⟩
  · by_cases h' : c = 41
    · subst h'; exact Or.inr (Or.inl ⟨rfl, rfl, rfl⟩)
    · refine Or.inr (Or.inr ⟨by simp [h], by simp [h'], by simp [h, h']⟩)
set_option maxHeartbeats 8000000 in
set_option maxRecDepth 100000 in
theorem rmodule_any (m : Nat) (w : World) (v : Value) (x : Mo) (h : MoAt w m v x) (hw : moW m x ≤ 1048576) (ht : Tab w) :
    Calls Tryz.prog 40 #[v] w fun e w' => e = .returned (.int .i64 (Lat.moE m x)) ∧ Below w.heap.size w w' := by
  have HM := hide h
  have HMW := hide hw
  have HMS := hide (moT_size h hw)
  obtain ⟨vi, vv, vf, rfl, hnm, hI, hV, hF⟩ := h
  clear hw
  obtain ⟨ai, bi, oi, ci, rfl, hai, hli, hsi, hci⟩ := hI
  obtain ⟨av, bv, ov, cv, rfl, hav, hlv, hcv⟩ := hV
  obtain ⟨af, bf, of, cf, rfl, haf, hlf, hcf⟩ := hF
  have HT := hide ht
  have HE : Hid (Lat.moE m x = if 8 < x.imports.length ∨ 8 < x.vars.length ∨ 8 < x.funs.length then 2
    else if ((Lat.strB x.name && x.imports.all Lat.strB) && x.vars.all Lat.vaB) = false then 5
    else if Lat.fusE m x.funs ≠ 0 then Lat.fusE m x.funs
    else if Lat.deepB (Lat.moT m x) then 2 else 0) := rfl
  generalize Lat.moE m x = XE at *
  obtain ⟨XT, hxt⟩ : ∃ t, t = Lat.moT m x := ⟨_, rfl⟩
  have HXT := hide hxt
  rw [← hxt] at HE HMS
  have hms := HMS.out
  clear hxt HMS
  obtain ⟨xn, xi, xv, xf⟩ := x
  simp only at hnm hai hli hsi hci hav hlv hcv haf hlf hcf HE HM ⊢
  have HSI := hide hsi
  have HAI := hide hai
  have HAV := hide hav
  have HAF := hide haf
  have HCI := hide hci
  have HCV := hide hcv
  have HCF := hide hcf
  obtain ⟨ni, hni⟩ : ∃ n, n = xi.length := ⟨_, rfl⟩
  obtain ⟨nv, hnv⟩ : ∃ n, n = xv.length := ⟨_, rfl⟩
  obtain ⟨nf, hnf⟩ : ∃ n, n = xf.length := ⟨_, rfl⟩
  have HNI := hide hni
  have HNV := hide hnv
  have HNF := hide hnf
  rw [← hni, ← hnv, ← hnf]
  rw [← hni, ← hnv, ← hnf] at HE HM
  rw [← hni] at hli HAI HCI
  rw [← hnv] at hlv HAV
  rw [← hnf] at hlf HAF
  clear hai hav haf hci hcv hcf hni hnv hnf ht hsi
  have q0 := boxM0 w (.string xn) (.slice ai ni ci) (.slice av nv cv) (.slice af nf cf) 26
  have q1 := boxM1 w (.string xn) (.slice ai ni ci) (.slice av nv cv) (.slice af nf cf) 26
  have q2 := boxM2 w (.string xn) (.slice ai ni ci) (.slice av nv cv) (.slice af nf cf) 26
  have q3 := boxM3 w (.string xn) (.slice ai ni ci) (.slice av nv cv) (.slice af nf cf) 26
  have HB0 := hide (boxBelow w (.cells #[.string xn, .slice ai ni ci, .slice av nv cv, .slice af nf cf] 26))
  by_cases h8 : 8 < ni ∨ 8 < nv ∨ 8 < nf
  · rw [if_pos h8] at HE
    by_cases i1 : 8 < ni
    · have i1' : (8 : Int) < (ni : Int) := by omega
      clear h8
      go_enter Tryz.func40, Tryz.ntmps40
      go_wp2_with fail
      go_ret
      exact ⟨ret_int HE.out.symm, HB0.out⟩
    · have i1' : ¬ (8 : Int) < (ni : Int) := by omega
      by_cases i2 : 8 < nv
      · have i2' : (8 : Int) < (nv : Int) := by omega
        clear h8
        go_enter Tryz.func40, Tryz.ntmps40
        go_wp2_with fail
        go_ret
        exact ⟨ret_int HE.out.symm, HB0.out⟩
      · have i2' : ¬ (8 : Int) < (nv : Int) := by omega
        have i3' : (8 : Int) < (nf : Int) := by omega
        clear h8
        go_enter Tryz.func40, Tryz.ntmps40
        go_wp2_with fail
        go_ret
        exact ⟨ret_int HE.out.symm, HB0.out⟩
  rw [if_neg h8] at HE
  have i1' : ¬ (8 : Int) < (ni : Int) := by omega
  have i2' : ¬ (8 : Int) < (nv : Int) := by omega
  have i3' : ¬ (8 : Int) < (nf : Int) := by omega
  clear h8
  go_enter Tryz.func40, Tryz.ntmps40
  go_wp2_with fail
  refine (name_any _ xn hnm).mono ?_
  rintro e w' ⟨rfl, hw'⟩
  subst hw'
  have HS0 := hide (allTo_zero (Lat.strB xn) Lat.strB xi)
  rw [show Lat.nameB xn.data.toList = allTo (Lat.strB xn) Lat.strB xi 0 from HS0.out.symm]
  clear HS0 hnm
  go_wp2_with fail
  generalize w.alloc (.cells #[.string xn, .slice ai ni ci, .slice av nv cv, .slice af nf cf] 26) = W0 at *
  -- the imports
  go_loopw [3, 4] (fun o i wr => ∃ j : Nat, j ≤ ni ∧ i = .int .i64 j ∧ o = .bool (allTo (Lat.strB xn) Lat.strB xi j) ∧ Below W0.heap.size W0 wr) (fun _ i _ => ni - (intOf i).toNat)
  case atStart => exact ⟨0, Nat.zero_le _, rfl, rfl, Below.refl _ _⟩
  case round =>
    obtain ⟨j, hj, rfl, rfl, hnx⟩ := hrel
    have t1 := cellUp q1 hnx
    by_cases hjl : j < ni
    · have hc := cellUp (HCI.out j hjl) (up HB0.out hnx)
      have hgd : xi[j]? = some (xi.getD j ByteArray.empty) := by
        have : j < xi.length := by have := HNI.out; omega
        simp [this]
      have hsz := HSI.out _ (List.mem_of_getElem? hgd)
      have HST := hide (allTo_succ (b := Lat.strB xn) (p := Lat.strB) hgd)
      obtain rfl := HAI.out (by omega)
      generalize xi.getD j ByteArray.empty = s at *
      have HNX := hide hnx
      clear hgd q0 q1 q2 q3 hnx
      cases hok : allTo (Lat.strB xn) Lat.strB xi j
      · have HOK := hide hok
        go_wp2_with fail
        go_roundw
        case rel => exact ⟨j + 1, by omega, by go_num, val_bool (by rw [HST.out, HOK.out]; rfl), HNX.out⟩
        case measure => simp [intOf]; omega
      · have HOK := hide hok
        go_wp2_with fail
        refine (name_any _ s hsz).mono ?_
        rintro e w' ⟨rfl, hw'⟩
        subst hw'
        go_wp2_with fail
        go_roundw
        case rel => exact ⟨j + 1, by omega, by go_num, val_bool (by rw [HST.out, HOK.out]; rfl), HNX.out⟩
        case measure => simp [intOf]; omega
    · have hjn : j = ni := by omega
      clear hj
      go_wp2_with fail
      have HOK := hide (allTo_all (b := Lat.strB xn) (p := Lat.strB) HNI.out hjn)
      have HS0 := hide (allTo_zero (Lat.strB xn && xi.all Lat.strB) Lat.vaB xv)
      rw [show allTo (Lat.strB xn) Lat.strB xi j = allTo (Lat.strB xn && xi.all Lat.strB) Lat.vaB xv 0 by rw [HOK.out, HS0.out]]
      clear t1 hjl hjn HOK HS0
      have HB1 := hide (up HB0.out hnx)
      replace q0 := cellUp q0 hnx
      replace q1 := cellUp q1 hnx
      replace q2 := cellUp q2 hnx
      replace q3 := cellUp q3 hnx
      clear hnx HB0
      -- the variables
      go_loopw [3, 5] (fun o i wy => ∃ k : Nat, k ≤ nv ∧ i = .int .i64 k ∧ o = .bool (allTo (Lat.strB xn && xi.all Lat.strB) Lat.vaB xv k) ∧ Below wr.heap.size wr wy) (fun _ i _ => nv - (intOf i).toNat)
      case atStart => exact ⟨0, Nat.zero_le _, rfl, rfl, Below.refl _ _⟩
      case round =>
        obtain ⟨k, hk, rfl, rfl, hnx⟩ := hrel
        have t2 := cellUp q2 hnx
        by_cases hkl : k < nv
        · obtain ⟨y, hy⟩ : ∃ y, xv[k]? = some y := ⟨_, List.getElem?_eq_getElem (by rw [← HNV.out]; exact hkl)⟩
          obtain ⟨hs1, hs2, g0, g1⟩ := HCV.out k y hy
          have HST := hide (allTo_succ (b := Lat.strB xn && xi.all Lat.strB) (p := Lat.vaB) hy)
          obtain rfl := HAV.out (by omega)
          obtain ⟨yn, yl⟩ := y
          simp only at hs1 hs2 g0 g1
          have HVB : Hid (Lat.vaB ⟨yn, yl⟩ = (Lat.nameB yn.data.toList && Lat.nameB yl.data.toList)) := rfl
          have u0 := cellUp g0 (up HB1.out hnx)
          have u1 := cellUp g1 (up HB1.out hnx)
          have HNX := hide hnx
          clear hy g0 g1 hnx q0 q1 q2 q3
          cases hok : allTo (Lat.strB xn && xi.all Lat.strB) Lat.vaB xv k
          · have HOK := hide hok
            go_wp2_with fail
            go_roundw
            case rel => exact ⟨k + 1, by omega, by go_num, val_bool (by rw [HST.out, HOK.out]; rfl), HNX.out⟩
            case measure => simp [intOf]; omega
          · have HOK := hide hok
            go_wp2_with fail
            refine (name_any _ yn hs1).mono ?_
            rintro e w' ⟨rfl, hw'⟩
            subst hw'
            cases hn1 : Lat.nameB yn.data.toList
            · have HN1 := hide hn1
              go_wp2_with fail
              go_roundw
              case rel => exact ⟨k + 1, by omega, by go_num, val_bool (by rw [HST.out, HOK.out, HVB.out, HN1.out]; rfl), HNX.out⟩
              case measure => simp [intOf]; omega
            · have HN1 := hide hn1
              go_wp2_with fail
              refine (name_any _ yl hs2).mono ?_
              rintro e w' ⟨rfl, hw'⟩
              subst hw'
              go_wp2_with fail
              go_roundw
              case rel => exact ⟨k + 1, by omega, by go_num, val_bool (by rw [HST.out, HOK.out, HVB.out, HN1.out]; rfl), HNX.out⟩
              case measure => simp [intOf]; omega
        · have hkn : k = nv := by omega
          have HOK := hide (allTo_all (b := Lat.strB xn && xi.all Lat.strB) (p := Lat.vaB) HNV.out hkn)
          clear hk hkn
          generalize allTo (Lat.strB xn && xi.all Lat.strB) Lat.vaB xv k = ok at *
          have HB2 := hide (up HB1.out hnx)
          replace q0 := cellUp q0 hnx
          replace q1 := cellUp q1 hnx
          replace q2 := cellUp q2 hnx
          replace q3 := cellUp q3 hnx
          clear hnx HB1
          cases ok
          · have HE5 : Hid (XE = 5) := hide (by rw [HE.out, if_pos HOK.out.symm])
            go_wp2_with fail
            go_ret
            exact ⟨ret_int HE5.out.symm, HB2.out⟩
          rw [if_neg (by rw [← HOK.out]; exact Bool.noConfusion)] at HE
          go_wp2_with fail
          clear t2 hkl HOK
          -- the functions
          go_loopw [6] (fun i wz => ∃ k : Nat, k ≤ nf ∧ i = .int .i64 k ∧ (∀ (d : Nat) (z : Fu), d < k → xf[d]? = some z → Lat.fuE m z = 0) ∧ Below wr.heap.size wr wz) (fun i _ => nf - (intOf i).toNat)
          case atStart => exact ⟨0, Nat.zero_le _, rfl, fun d z hd => absurd hd (Nat.not_lt_zero _), Below.refl _ _⟩
          case round =>
            obtain ⟨i, hi, rfl, hall, hnx⟩ := hrel
            have HALL := hide hall
            clear hall
            have t3 := cellUp q3 hnx
            by_cases hil : i < nf
            · obtain ⟨y, hy⟩ : ∃ y, xf[i]? = some y := ⟨_, List.getElem?_eq_getElem (by rw [← HNF.out]; exact hil)⟩
              obtain ⟨hnm, vp, vb, e0, e1, e2, e3, g0, g1, g2, g3, g4, g5, g6, hp, hsb, hx⟩ := HCF.out i y hy
              obtain rfl := HAF.out (by omega)
              have HBAD : Hid (Lat.fuE m y ≠ 0 → XE = Lat.fuE m y) := hide (fun h => by
                have e := fusE_at (m := m) HALL.out hy h
                rw [HE.out, e, if_pos h])
              have HGOOD : Hid (Lat.fuE m y = 0 → ∀ (d : Nat) (z : Fu), d < i + 1 → xf[d]? = some z → Lat.fuE m z = 0) := hide (fun h d z hd hz => by
                by_cases e : d = i
                · subst e; rw [hy] at hz; cases hz; exact h
                · exact HALL.out d z (by omega) hz)
              obtain ⟨yn, yp, yb, yr⟩ := y
              simp only at g0 hp hsb hx hnm
              have HFE : Hid (Lat.fuE m ⟨yn, yp, yb, yr⟩ = if 4 < yp.length then 2 else if (Lat.strB yn && Lat.bodyB m yb && Lat.exprB m yr && yp.all Lat.strB) then 0 else 5) := rfl
              generalize Lat.fuE m ⟨yn, yp, yb, yr⟩ = FE at *
              obtain ⟨ap, bp, op, cp, rfl, hap, hlp, hsp, hcp⟩ := hp
              have HSP := hide hsp
              have HSB := hide hsb
              have HX := hide hx
              obtain ⟨ab, cb, rfl, hlb⟩ := hsb.shape
              obtain ⟨xa, xc, rfl, rfl, rfl, rfl⟩ := hx.shape
              have HAP := hide hap
              have HCP := hide hcp
              obtain ⟨np, hnp⟩ : ∃ n, n = yp.length := ⟨_, rfl⟩
              obtain ⟨nb, hnb⟩ : ∃ n, n = yb.length := ⟨_, rfl⟩
              have HNP := hide hnp
              have HNB := hide hnb
              rw [← hnp] at g1 hlp HAP HCP HFE
              rw [← hnb] at g2 hlb HSB
              have hbb := up HB2.out hnx
              have u0 := cellUp g0 hbb
              have u1 := cellUp g1 hbb
              have u2 := cellUp g2 hbb
              have u3 := cellUp g3 hbb
              have u4 := cellUp g4 hbb
              have u5 := cellUp g5 hbb
              have u6 := cellUp g6 hbb
              have HNX := hide hnx
              have HBB := hide hbb
              clear hap hcp hsp hsb hx hnp hnb hy g0 g1 g2 g3 g4 g5 g6 hbb hnx q0 q1 q2 q3
              have r0 := boxF0 wr (.string yn) (.slice ap np cp) (.slice ab nb cb) (.int .i64 yr.kind) (.int .i64 yr.n) (.string yr.name) (.slice xa yr.args.length xc) 106
              have r1 := boxF1 wr (.string yn) (.slice ap np cp) (.slice ab nb cb) (.int .i64 yr.kind) (.int .i64 yr.n) (.string yr.name) (.slice xa yr.args.length xc) 106
              have r2 := boxF2 wr (.string yn) (.slice ap np cp) (.slice ab nb cb) (.int .i64 yr.kind) (.int .i64 yr.n) (.string yr.name) (.slice xa yr.args.length xc) 106
              have r3 := boxF3 wr (.string yn) (.slice ap np cp) (.slice ab nb cb) (.int .i64 yr.kind) (.int .i64 yr.n) (.string yr.name) (.slice xa yr.args.length xc) 106
              have r4 := boxF4 wr (.string yn) (.slice ap np cp) (.slice ab nb cb) (.int .i64 yr.kind) (.int .i64 yr.n) (.string yr.name) (.slice xa yr.args.length xc) 106
              have r5 := boxF5 wr (.string yn) (.slice ap np cp) (.slice ab nb cb) (.int .i64 yr.kind) (.int .i64 yr.n) (.string yr.name) (.slice xa yr.args.length xc) 106
              have r6 := boxF6 wr (.string yn) (.slice ap np cp) (.slice ab nb cb) (.int .i64 yr.kind) (.int .i64 yr.n) (.string yr.name) (.slice xa yr.args.length xc) 106
              have HB3 := hide (boxBelow wr (.cells #[.string yn, .slice ap np cp, .slice ab nb cb, .int .i64 yr.kind, .int .i64 yr.n, .string yr.name, .slice xa yr.args.length xc] 106))
              by_cases hp4 : 4 < np
              · have hp4' : (4 : Int) < (np : Int) := by omega
                rw [if_pos hp4] at HFE
                have HXE := hide ((HBAD.out (by rw [HFE.out]; decide)).trans HFE.out)
                clear hp4
                go_wp2_with fail
                go_ret
                exact ⟨ret_int HXE.out.symm, up HBB.out HB3.out⟩
              have hp4' : ¬ (4 : Int) < (np : Int) := by omega
              rw [if_neg hp4] at HFE
              clear hp4
              go_wp2_with fail
              generalize wr.alloc (.cells #[.string yn, .slice ap np cp, .slice ab nb cb, .int .i64 yr.kind, .int .i64 yr.n, .string yr.name, .slice xa yr.args.length xc] 106) = W3 at *
              clear u0 u1 u2 u3 u4 u5 u6
              refine (name_any _ yn hnm).mono ?_
              rintro e w' ⟨rfl, hw'⟩
              rw [hw']
              clear hw' w'
              have HB : Hid ((Lat.strB yn && Lat.bodyB m yb && Lat.exprB m yr) = (Lat.nameB yn.data.toList && Lat.bodyB m yb && Lat.exprB m yr)) := rfl
              generalize (Lat.strB yn && Lat.bodyB m yb && Lat.exprB m yr) = B at *
              have HZ := hide (allTo_zero B Lat.strB yp)
              cases hn1 : Lat.nameB yn.data.toList
              case' false =>
                have HB' : Hid (false = allTo B Lat.strB yp 0) := hide (by rw [HZ.out, HB.out, hn1]; rfl)
                have HQ := hide (Below.refl W3.heap.size W3)
                go_wp2_with fail
              case' true =>
                go_wp2_with fail
                refine (body_any m _ _ yb (HSB.out.below (up HBB.out HB3.out))).mono ?_
                rintro e w5 ⟨rfl, hb5⟩
                have HN5 := hide hb5
                have t3 := cellUp r3 hb5
                have t4 := cellUp r4 hb5
                have t5 := cellUp r5 hb5
                have t6 := cellUp r6 hb5
                clear hb5
                cases hn2 : Lat.bodyB m yb
                case' false =>
                  have HB' : Hid (false = allTo B Lat.strB yp 0) := hide (by rw [HZ.out, HB.out, hn1, hn2]; rfl)
                  have HQ := HN5
                  go_wp2_with fail
                case' true =>
                  go_wp2_with fail
                  refine (expr_any m _ _ _ _ _ yr (HX.out.below (up (up HBB.out HB3.out) HN5.out))).mono ?_
                  rintro e w6 ⟨rfl, hb6⟩
                  have HQ := hide (up HN5.out hb6)
                  have HB' : Hid (Lat.exprB m yr = allTo B Lat.strB yp 0) := hide (by rw [HZ.out, HB.out, hn1, hn2]; rfl)
                  clear hb6
                  go_wp2_with fail
              all_goals
                clear HB HZ r0 r2 r3 r4 r5 r6
                go_loopw [8, 9] (fun o i wp => ∃ k : Nat, k ≤ np ∧ i = .int .i64 k ∧ o = .bool (allTo B Lat.strB yp k) ∧ Below W3.heap.size W3 wp) (fun _ i _ => np - (intOf i).toNat)
                case atStart => exact ⟨0, Nat.zero_le _, rfl, val_bool HB'.out, HQ.out⟩
                case round =>
                  obtain ⟨d, hd, rfl, rfl, hnx⟩ := hrel
                  have t1 := cellUp r1 hnx
                  by_cases hdl : d < np
                  · have hc := cellUp (HCP.out d hdl) (up (up HBB.out HB3.out) hnx)
                    have hgd : yp[d]? = some (yp.getD d ByteArray.empty) := by
                      have : d < yp.length := by have := HNP.out; omega
                      simp [this]
                    have hsz := HSP.out _ (List.mem_of_getElem? hgd)
                    have HST := hide (allTo_succ (b := B) (p := Lat.strB) hgd)
                    obtain rfl := HAP.out (by omega)
                    generalize yp.getD d ByteArray.empty = s at *
                    have HNX2 := hide hnx
                    clear hgd r1 hnx
                    cases hok : allTo B Lat.strB yp d
                    · have HOK := hide hok
                      go_wp2_with fail
                      go_roundw
                      case rel => exact ⟨d + 1, by omega, by go_num, val_bool (by rw [HST.out, HOK.out]; rfl), HNX2.out⟩
                      case measure => simp [intOf]; omega
                    · have HOK := hide hok
                      go_wp2_with fail
                      refine (name_any _ s hsz).mono ?_
                      rintro e w' ⟨rfl, hw'⟩
                      subst hw'
                      go_wp2_with fail
                      go_roundw
                      case rel => exact ⟨d + 1, by omega, by go_num, val_bool (by rw [HST.out, HOK.out]; rfl), HNX2.out⟩
                      case measure => simp [intOf]; omega
                  · have HOK := hide (allTo_all (b := B) (p := Lat.strB) HNP.out (show d = np by omega))
                    rw [← HOK.out] at HFE
                    have HNX2 := hide hnx
                    clear hd HOK hnx r1 HB'
                    generalize allTo B Lat.strB yp d = ok at *
                    cases ok
                    · have HXE : Hid (XE = 5) := hide ((HBAD.out (by rw [HFE.out]; decide)).trans HFE.out)
                      go_wp2_with fail
                      go_ret
                      exact ⟨ret_int HXE.out.symm, up (up HBB.out HB3.out) HNX2.out⟩
                    · go_wp2_with fail
                      go_roundw
                      case rel => exact ⟨i + 1, by omega, by go_num, HGOOD.out (by rw [HFE.out]; rfl), up HNX.out (up HB3.out HNX2.out)⟩
                      case measure => simp [intOf]; omega
            · have HFZ := hide (fusE_zero (m := m) (l := xf) (fun d z hz => HALL.out d z (by
                have := (List.getElem?_eq_some_iff.1 hz).1
                have := HNF.out
                omega) hz))
              rw [if_neg (fun h => h HFZ.out)] at HE
              clear HALL HFZ
              have t0 := cellUp q0 hnx
              have t1 := cellUp q1 hnx
              have t2 := cellUp q2 hnx
              have HBB := hide (up HB2.out hnx)
              clear hnx q0 q1 q2 q3 hi
              go_wp2_with fail
              refine (text_any m _ _ _ (HM.out.below HBB.out) HMW.out (HT.out.below HBB.out)).mono ?_
              rintro e w5 ⟨rfl, hb5⟩
              have HN5 := hide (up HBB.out hb5)
              clear hb5 t0 t1 t2 t3
              rw [← HXT.out]
              go_wp2_with fail
              -- the brackets
              go_loopw [11, 12] (fun o i wt => ∃ j : Nat, j ≤ XT.size ∧ i = .int .i64 j ∧ o = .int .i64 (Lat.openTo XT j) ∧ (∀ d, d < j → Lat.openTo XT (d + 1) ≤ 20) ∧ Below w5.heap.size w5 wt) (fun _ i _ => XT.size - (intOf i).toNat)
              case atStart => exact ⟨0, Nat.zero_le _, rfl, rfl, fun d hd => absurd hd (Nat.not_lt_zero _), Below.refl _ _⟩
              case round =>
                obtain ⟨j, hj, rfl, rfl, hall, hnx⟩ := hrel
                have HALL := hide hall
                have HNX := hide hnx
                clear hall hnx
                by_cases hjl : j < XT.size
                · have hol := openTo_le XT j
                  have HST := hide (openTo_succ XT j hjl)
                  obtain ⟨hol1, hol2⟩ := hol
                  generalize Lat.openTo XT j = o at *
                  rcases step3 XT[j] with ⟨f1, f2, f3⟩ | ⟨f1, f2, f3⟩ | ⟨f1, f2, f3⟩
                  · have HO : Hid (Lat.openTo XT (j + 1) = o + 1) := hide (by rw [HST.out, f3])
                    clear f3
                    by_cases h20 : 20 < o + 1
                    · have HD := hide (deepB_at (t := XT) hjl (by rw [HO.out]; exact h20))
                      rw [HD.out, if_pos rfl] at HE
                      go_wp2_with fail
                      go_ret
                      exact ⟨ret_int HE.out.symm, up HN5.out HNX.out⟩
                    · have HH := hide h20
                      go_wp2_with fail
                      go_roundw
                      case rel => exact ⟨j + 1, by omega, by go_num, by rw [HO.out], fun d hd => by
                          by_cases e : d = j
                          · subst e; rw [HO.out]; have := HH.out; omega
                          · exact HALL.out d (by omega), HNX.out⟩
                      case measure => simp [intOf]; omega
                  · have HO : Hid (Lat.openTo XT (j + 1) = o - 1) := hide (by rw [HST.out, f3]; rfl)
                    clear f3
                    by_cases h20 : 20 < o - 1
                    · have HD := hide (deepB_at (t := XT) hjl (by rw [HO.out]; exact h20))
                      rw [HD.out, if_pos rfl] at HE
                      go_wp2_with fail
                      go_ret
                      exact ⟨ret_int HE.out.symm, up HN5.out HNX.out⟩
                    · have HH := hide h20
                      go_wp2_with fail
                      go_roundw
                      case rel => exact ⟨j + 1, by omega, by go_num, by rw [HO.out], fun d hd => by
                          by_cases e : d = j
                          · subst e; rw [HO.out]; have := HH.out; omega
                          · exact HALL.out d (by omega), HNX.out⟩
                      case measure => simp [intOf]; omega
                  · have HO : Hid (Lat.openTo XT (j + 1) = o) := hide (by rw [HST.out, f3, Int.add_zero])
                    clear f3
                    by_cases h20 : 20 < o
                    · have HD := hide (deepB_at (t := XT) hjl (by rw [HO.out]; exact h20))
                      rw [HD.out, if_pos rfl] at HE
                      go_wp2_with fail
                      go_ret
                      exact ⟨ret_int HE.out.symm, up HN5.out HNX.out⟩
                    · have HH := hide h20
                      go_wp2_with fail
                      go_roundw
                      case rel => exact ⟨j + 1, by omega, by go_num, by rw [HO.out], fun d hd => by
                          by_cases e : d = j
                          · subst e; rw [HO.out]; have := HH.out; omega
                          · exact HALL.out d (by omega), HNX.out⟩
                      case measure => simp [intOf]; omega
                · have HD := hide (deepB_not (t := XT) (fun d hd => by have := HALL.out d (by omega); omega))
                  rw [HD.out, if_neg (by decide)] at HE
                  go_wp2_with fail
                  go_ret
                  exact ⟨ret_int HE.out.symm, up HN5.out HNX.out⟩
end Go.Proofs.YtholefgckcoklaaGreatDoor
