/- Walks over package downref: Text answers the text of a module. -/
import Derived.Test.YtholefgckcoklaaGreatDoorBZAT
namespace Go.Proofs.YtholefgckcoklaaGreatDoor
open Go.RowKit
theorem boxF0 (w : World) (c0 c1 c2 c3 c4 c5 c6 : Value) (t : TypeId) : (w.alloc (.cells #[c0, c1, c2, c3, c4, c5, c6] t)).cell? ⟨w.heap.size, 0, none⟩ = some c0 := by simp [go_sem]
theorem boxF1 (w : World) (c0 c1 c2 c3 c4 c5 c6 : Value) (t : TypeId) : (w.alloc (.cells #[c0, c1, c2, c3, c4, c5, c6] t)).cell? ⟨w.heap.size, 1, none⟩ = some c1 := by simp [go_sem]
theorem boxF2 (w : World) (c0 c1 c2 c3 c4 c5 c6 : Value) (t : TypeId) : (w.alloc (.cells #[c0, c1, c2, c3, c4, c5, c6] t)).cell? ⟨w.heap.size, 2, none⟩ = some c2 := by simp [go_sem]
theorem boxF3 (w : World) (c0 c1 c2 c3 c4 c5 c6 : Value) (t : TypeId) : (w.alloc (.cells #[c0, c1, c2, c3, c4, c5, c6] t)).cell? ⟨w.heap.size, 3, none⟩ = some c3 := by simp [go_sem]
theorem boxF4 (w : World) (c0 c1 c2 c3 c4 c5 c6 : Value) (t : TypeId) : (w.alloc (.cells #[c0, c1, c2, c3, c4, c5, c6] t)).cell? ⟨w.heap.size, 4, none⟩ = some c4 := by simp [go_sem]
theorem boxF5 (w : World) (c0 c1 c2 c3 c4 c5 c6 : Value) (t : TypeId) : (w.alloc (.cells #[c0, c1, c2, c3, c4, c5, c6] t)).cell? ⟨w.heap.size, 5, none⟩ = some c5 := by simp [go_sem]
theorem boxF6 (w : World) (c0 c1 c2 c3 c4 c5 c6 : Value) (t : TypeId) : (w.alloc (.cells #[c0, c1, c2, c3, c4, c5, c6] t)).cell? ⟨w.heap.size, 6, none⟩ = some c6 := by simp [go_sem]
theorem parTo_succ (l : List ByteArray) (acc : ByteArray) (j : Nat) : Lat.parTo l acc (j + 1) = (if 0 < j then Lat.parTo l acc j ++ (⟨#[32]⟩ : ByteArray) else Lat.parTo l acc j) ++ l.getD j ByteArray.empty := rfl
theorem take_all {α : Type} {f : ByteArray → α → ByteArray} {l : List α} {acc : ByteArray} {n j : Nat} (h : n = l.length) (e : j = n) : (l.take j).foldl f acc = l.foldl f acc := by
  rw [List.take_of_length_le (by omega)]
set_option maxHeartbeats 8000000 in
set_option maxRecDepth 100000 in
theorem text_any (m : Nat) (w : World) (v : Value) (x : Mo) (h : MoAt w m v x) (hw : moW m x ≤ 1048576) (ht : Tab w) :
    Calls Tryz.prog 116 #[v] w fun e w' => e = .returned (.string (Lat.moT m x)) ∧ Below w.heap.size w w' := by
  obtain ⟨vi, vv, vf, rfl, hnm, hI, hV, hF⟩ := h
  have hwm : x.name.size + 2 + strsW x.imports + vasW x.vars + fusW m x.funs ≤ 1048576 := hw
  clear hw
  have hnz : x.name.size ≤ 1048576 := by omega
  have HI1 : Hid (∀ j, j ≤ x.imports.length → ((x.imports.take j).foldl Lat.impT (Lat.moH x)).size ≤ 12582920) := hide (fun j hj => by
    have := foldg_all (f := Lat.impT) (wt := fun s : ByteArray => s.size + 1) (l := x.imports) (fun i y _ acc => impT_size acc y) (Lat.moH x) j hj
    rw [moH_size] at this
    unfold strsW at hwm; omega)
  have HI2 : Hid (∀ j, (x.imports.getD j ByteArray.empty).size ≤ 1048576) := hide (fun j => by
    have := getD_size x.imports j
    unfold strsW at hwm; omega)
  have hIs : (Lat.moI x).size ≤ 8 + x.name.size + 12 * strsW x.imports := by
    have := foldg_all (f := Lat.impT) (wt := fun s : ByteArray => s.size + 1) (l := x.imports) (fun i y _ acc => impT_size acc y) (Lat.moH x) x.imports.length (Nat.le_refl _)
    rw [moH_size, List.take_length] at this
    unfold strsW Lat.moI; omega
  have HV1 : Hid (∀ j, j ≤ x.vars.length → ((x.vars.take j).foldl Lat.vaT (Lat.moI x)).size ≤ 12582920) := hide (fun j hj => by
    have := foldg_all (f := Lat.vaT) (wt := fun s : Va => s.name.size + s.level.size + 3) (l := x.vars) (fun i y _ acc => vaT_size acc y) (Lat.moI x) j hj
    unfold vasW at hwm; omega)
  have HV2 : Hid (∀ (j : Nat) (y : Va), x.vars[j]? = some y → y.name.size ≤ 1048576 ∧ y.level.size ≤ 1048576) := hide (fun j y hy => by
    have := mem_le_sum (f := fun s : Va => s.name.size + s.level.size + 3) (List.mem_of_getElem? hy)
    unfold vasW at hwm; omega)
  have hVs : (Lat.moV x).size ≤ 8 + x.name.size + 12 * strsW x.imports + 12 * vasW x.vars := by
    have := foldg_all (f := Lat.vaT) (wt := fun s : Va => s.name.size + s.level.size + 3) (l := x.vars) (fun i y _ acc => vaT_size acc y) (Lat.moI x) x.vars.length (Nat.le_refl _)
    rw [List.take_length] at this
    have e : (x.vars.foldl Lat.vaT (Lat.moI x)) = Lat.moV x := rfl
    rw [e] at this
    unfold vasW; omega
  have HF2 : Hid (∀ (j : Nat) (y : Fu), x.funs[j]? = some y → fuW m y ≤ 1048576) := hide (fun j y hy => by
    have := mem_le_sum (f := fuW m) (List.mem_of_getElem? hy)
    rw [fusW_eq] at hwm; omega)
  have HF1 : Hid (∀ j, j ≤ x.funs.length → ((x.funs.take j).foldl (Lat.fuT m) (Lat.moV x)).size ≤ 12582920) := hide (fun j hj => by
    obtain ⟨a, b, off, cap, _, _, _, h9⟩ := hF
    have := foldg_all (f := Lat.fuT m) (wt := fuW m) (l := x.funs) (fun i y hy acc => by
      obtain ⟨_, vp, vb, e0, e1, e2, e3, _, _, _, _, _, _, _, _, hsb, hx⟩ := h9 i y hy
      exact fuT_size hsb hx acc) (Lat.moV x) j hj
    rw [fusW_eq] at hwm; omega)
  clear hIs hVs hwm
  obtain ⟨ai, bi, oi, ci, rfl, hai, hli, _, hci⟩ := hI
  obtain ⟨av, bv, ov, cv, rfl, hav, hlv, hcv⟩ := hV
  obtain ⟨af, bf, of, cf, rfl, haf, hlf, hcf⟩ := hF
  have HT := hide ht
  obtain ⟨xn, xi, xv, xf⟩ := x
  simp only at hnm hnz hai hli hci hav hlv hcv haf hlf hcf HI1 HI2 HV1 HV2 HF1 HF2 ⊢
  have HE : Hid (Lat.moT m ⟨xn, xi, xv, xf⟩ = xf.foldl (Lat.fuT m) (Lat.moV ⟨xn, xi, xv, xf⟩) ++ (⟨#[41]⟩ : ByteArray)) := rfl
  have HVE : Hid (Lat.moV ⟨xn, xi, xv, xf⟩ = xv.foldl Lat.vaT (Lat.moI ⟨xn, xi, xv, xf⟩)) := rfl
  have HIE : Hid (Lat.moI ⟨xn, xi, xv, xf⟩ = xi.foldl Lat.impT (Lat.moH ⟨xn, xi, xv, xf⟩)) := rfl
  have HHE : Hid (Lat.moH ⟨xn, xi, xv, xf⟩ = (⟨#[40, 109, 111, 100, 117, 108, 101, 32]⟩ : ByteArray) ++ xn) := rfl
  generalize Lat.moT m ⟨xn, xi, xv, xf⟩ = XT at *
  generalize Lat.moV ⟨xn, xi, xv, xf⟩ = XV at *
  generalize Lat.moI ⟨xn, xi, xv, xf⟩ = XI at *
  generalize Lat.moH ⟨xn, xi, xv, xf⟩ = XH at *
  have HAI := hide hai
  have HAV := hide hav
  have HAF := hide haf
  have HCI := hide hci
  have HCV := hide hcv
  have HCF := hide hcf
  obtain ⟨ni, hni⟩ : ∃ n, n = xi.length := ⟨_, rfl⟩
  obtain ⟨nv, hnv⟩ : ∃ n, n = xv.length := ⟨_, rfl⟩
  obtain ⟨nf, hnf⟩ : ∃ n, n = xf.length := ⟨_, rfl⟩
  have HNI := hide hni
  have HNV := hide hnv
  have HNF := hide hnf
  rw [← hni, ← hnv, ← hnf]
  rw [← hni] at hli HAI HCI HI1
  rw [← hnv] at hlv HAV HV1
  rw [← hnf] at hlf HAF HF1
  clear hai hav haf hci hcv hcf hni hnv hnf ht
  have q1 := boxM1 w (.string xn) (.slice ai ni ci) (.slice av nv cv) (.slice af nf cf) 26
  have q2 := boxM2 w (.string xn) (.slice ai ni ci) (.slice av nv cv) (.slice af nf cf) 26
  have q3 := boxM3 w (.string xn) (.slice ai ni ci) (.slice av nv cv) (.slice af nf cf) 26
  have HB0 := hide (boxBelow w (.cells #[.string xn, .slice ai ni ci, .slice av nv cv, .slice af nf cf] 26))
  go_enter Tryz.func116, Tryz.ntmps116
  go_wp2_with fail
  rw [← HHE.out]
  generalize w.alloc (.cells #[.string xn, .slice ai ni ci, .slice av nv cv, .slice af nf cf] 26) = W0 at *
  clear HHE hnm hnz
  -- the imports
  go_loopw [3, 4] (fun o i wr => ∃ j : Nat, j ≤ ni ∧ i = .int .i64 j ∧ o = .string ((xi.take j).foldl Lat.impT XH) ∧ Below W0.heap.size W0 wr) (fun _ i _ => ni - (intOf i).toNat)
  case atStart => exact ⟨0, Nat.zero_le _, rfl, rfl, Below.refl _ _⟩
  case round =>
    obtain ⟨j, hj, rfl, rfl, hnx⟩ := hrel
    have t1 := cellUp q1 hnx
    by_cases hjl : j < ni
    · have hacc := HI1.out j hj
      have hs := HI2.out j
      have hc := cellUp (HCI.out j hjl) (up HB0.out hnx)
      have hgd : xi[j]? = some (xi.getD j ByteArray.empty) := by
        have : j < xi.length := by have := HNI.out; omega
        simp [this]
      have HST := hide (foldg_take (f := Lat.impT) hgd XH)
      obtain rfl := HAI.out (by omega)
      generalize xi.getD j ByteArray.empty = s at *
      generalize (xi.take j).foldl Lat.impT XH = acc at *
      clear hgd q1 q2 q3
      have HNX := hide hnx
      clear hnx
      go_wp2_with fail
      go_roundw
      case rel => exact ⟨j + 1, by omega, by go_num, val_str (by rw [HST.out]; rfl), HNX.out⟩
      case measure => simp [intOf]; omega
    · have hjn : j = ni := by omega
      clear hj
      go_wp2_with fail
      rw [take_all HNI.out hjn, ← HIE.out]
      clear q1 t1 hjl hjn HIE
      have HB1 := hide (up HB0.out hnx)
      replace q2 := cellUp q2 hnx
      replace q3 := cellUp q3 hnx
      clear hnx HB0
      -- the variables
      go_loopw [3, 5] (fun o i wy => ∃ k : Nat, k ≤ nv ∧ i = .int .i64 k ∧ o = .string ((xv.take k).foldl Lat.vaT XI) ∧ Below wr.heap.size wr wy) (fun _ i _ => nv - (intOf i).toNat)
      case atStart => exact ⟨0, Nat.zero_le _, rfl, rfl, Below.refl _ _⟩
      case round =>
        obtain ⟨k, hk, rfl, rfl, hnx⟩ := hrel
        have t2 := cellUp q2 hnx
        by_cases hkl : k < nv
        · obtain ⟨y, hy⟩ : ∃ y, xv[k]? = some y := ⟨_, List.getElem?_eq_getElem (by rw [← HNV.out]; exact hkl)⟩
          have hacc := HV1.out k hk
          obtain ⟨hs1, hs2⟩ := HV2.out k y hy
          obtain ⟨_, _, g0, g1⟩ := HCV.out k y hy
          have HST := hide (foldg_take (f := Lat.vaT) hy XI)
          obtain rfl := HAV.out (by omega)
          obtain ⟨yn, yl⟩ := y
          simp only at hs1 hs2 g0 g1
          have u0 := cellUp g0 (up HB1.out hnx)
          have u1 := cellUp g1 (up HB1.out hnx)
          generalize (xv.take k).foldl Lat.vaT XI = acc at *
          have HNX := hide hnx
          have b1 : (0 : Int) ≤ (k : Int) := by omega
          have b2 : (k : Int) < (nv : Int) := by omega
          have c1 : ¬ (9223372036854775807 < 6 + yn.size) := by omega
          have c2 : ¬ (9223372036854775807 < 6 + yn.size + 1) := by omega
          have c3 : ¬ (9223372036854775807 < 6 + yn.size + 1 + yl.size) := by omega
          have c4 : ¬ (9223372036854775807 < 6 + yn.size + 1 + yl.size + 1) := by omega
          have c5 : ¬ (9223372036854775807 < acc.size + (6 + yn.size + 1 + yl.size + 1)) := by omega
          clear hy g0 g1 hnx q2 q3
          go_wp2_with fail
          go_quiet (fail)
          go_wp2_with fail
          go_roundw
          case rel => exact ⟨k + 1, by omega, by go_num, val_str (by rw [HST.out]; rfl), drewBelow HNX.out _⟩
          case measure => simp [intOf]; omega
        · have hkn : k = nv := by omega
          clear hk
          go_wp2_with fail
          rw [take_all HNV.out hkn, ← HVE.out]
          clear q2 t2 hkl hkn HVE
          have HB2 := hide (up HB1.out hnx)
          replace q3 := cellUp q3 hnx
          clear hnx HB1
          -- the functions
          go_loopw [3, 6] (fun o i wz => ∃ k : Nat, k ≤ nf ∧ i = .int .i64 k ∧ o = .string ((xf.take k).foldl (Lat.fuT m) XV) ∧ Below wr.heap.size wr wz) (fun _ i _ => nf - (intOf i).toNat)
          case atStart => exact ⟨0, Nat.zero_le _, rfl, rfl, Below.refl _ _⟩
          case round =>
            obtain ⟨i, hi, rfl, rfl, hnx⟩ := hrel
            have t3 := cellUp q3 hnx
            have hacc := HF1.out i hi
            by_cases hil : i < nf
            · obtain ⟨y, hy⟩ : ∃ y, xf[i]? = some y := ⟨_, List.getElem?_eq_getElem (by rw [← HNF.out]; exact hil)⟩
              have hfw := HF2.out i y hy
              obtain ⟨_, vp, vb, e0, e1, e2, e3, g0, g1, g2, g3, g4, g5, g6, hp, hsb, hx⟩ := HCF.out i y hy
              have HST := hide (foldg_take (f := Lat.fuT m) hy XV)
              obtain rfl := HAF.out (by omega)
              have s1 := bdT_size hsb
              have s2 := exT_size hx
              have hps := parTo_all y.params (Lat.fuH ((xf.take i).foldl (Lat.fuT m) XV) y)
              have hpd := getD_size y.params
              rw [fuH_size] at hps
              obtain ⟨yn, yp, yb, yr⟩ := y
              simp only at g0 hp hsb hx s1 s2 hps hpd
              have hfw' : yn.size + 2 + ((yp.map fun s => s.size + 1).sum + 1) + stsW m yb + exW m yr ≤ 1048576 := hfw
              clear hfw
              generalize (xf.take i).foldl (Lat.fuT m) XV = acc at *
              generalize (yp.map fun s => s.size + 1).sum = pw at *
              have hn : yn.size ≤ 1048576 := by omega
              have hyb : stsW m yb ≤ 1048576 := by omega
              have hyr : exW m yr ≤ 1048576 := by omega
              have s1' : (Lat.bdT m yb).size ≤ 6291456 := by omega
              have s2' : (Lat.exT m yr).size ≤ 6291456 := by omega
              have HPS : Hid (∀ j, j ≤ yp.length → (Lat.parTo yp (Lat.fuH acc ⟨yn, yp, yb, yr⟩) j).size ≤ 25165824) := hide (fun j hj => by have := hps j hj; omega)
              have HPD : Hid (∀ j, (yp.getD j ByteArray.empty).size ≤ 1048576) := hide (fun j => by have := hpd j; omega)
              have HFT : Hid (Lat.fuT m acc ⟨yn, yp, yb, yr⟩ = (if 0 < yb.length then Lat.fuP acc ⟨yn, yp, yb, yr⟩ ++ ((⟨#[32]⟩ : ByteArray) ++ Lat.bdT m yb) else Lat.fuP acc ⟨yn, yp, yb, yr⟩) ++ ((⟨#[32]⟩ : ByteArray) ++ Lat.exT m yr ++ (⟨#[41]⟩ : ByteArray))) := rfl
              have HFP : Hid (Lat.fuP acc ⟨yn, yp, yb, yr⟩ = Lat.parTo yp (Lat.fuH acc ⟨yn, yp, yb, yr⟩) yp.length ++ (⟨#[41]⟩ : ByteArray)) := rfl
              have HFH : Hid (Lat.fuH acc ⟨yn, yp, yb, yr⟩ = acc ++ ((⟨#[32, 40, 102, 117, 110, 32]⟩ : ByteArray) ++ yn ++ (⟨#[32, 40]⟩ : ByteArray))) := rfl
              generalize Lat.fuT m acc ⟨yn, yp, yb, yr⟩ = FT at *
              generalize Lat.fuP acc ⟨yn, yp, yb, yr⟩ = FP at *
              generalize Lat.fuH acc ⟨yn, yp, yb, yr⟩ = FH at *
              obtain ⟨ap, bp, op, cp, rfl, hap, hlp, _, hcp⟩ := hp
              have HSB := hide hsb
              have HX := hide hx
              obtain ⟨ab, cb, rfl, hlb⟩ := hsb.shape
              obtain ⟨xa, xc, rfl, rfl, rfl, rfl⟩ := hx.shape
              have HAP := hide hap
              have HCP := hide hcp
              obtain ⟨np, hnp⟩ : ∃ n, n = yp.length := ⟨_, rfl⟩
              obtain ⟨nb, hnb⟩ : ∃ n, n = yb.length := ⟨_, rfl⟩
              have HNP := hide hnp
              have HNB := hide hnb
              rw [← hnp] at g1 hlp HAP HCP HPS HFP
              rw [← hnb] at g2 hlb HSB HFT
              have hbb := up HB2.out hnx
              have u0 := cellUp g0 hbb
              have u1 := cellUp g1 hbb
              have u2 := cellUp g2 hbb
              have u3 := cellUp g3 hbb
              have u4 := cellUp g4 hbb
              have u5 := cellUp g5 hbb
              have u6 := cellUp g6 hbb
              have HNX := hide hnx
              have HBB := hide hbb
              clear hps hpd hap hcp hsb hx hnp hnb hy hfw' s1 s2 g0 g1 g2 g3 g4 g5 g6 hbb hnx q3
              have r1 := boxF1 wr (.string yn) (.slice ap np cp) (.slice ab nb cb) (.int .i64 yr.kind) (.int .i64 yr.n) (.string yr.name) (.slice xa yr.args.length xc) 106
              have r2 := boxF2 wr (.string yn) (.slice ap np cp) (.slice ab nb cb) (.int .i64 yr.kind) (.int .i64 yr.n) (.string yr.name) (.slice xa yr.args.length xc) 106
              have r3 := boxF3 wr (.string yn) (.slice ap np cp) (.slice ab nb cb) (.int .i64 yr.kind) (.int .i64 yr.n) (.string yr.name) (.slice xa yr.args.length xc) 106
              have r4 := boxF4 wr (.string yn) (.slice ap np cp) (.slice ab nb cb) (.int .i64 yr.kind) (.int .i64 yr.n) (.string yr.name) (.slice xa yr.args.length xc) 106
              have r5 := boxF5 wr (.string yn) (.slice ap np cp) (.slice ab nb cb) (.int .i64 yr.kind) (.int .i64 yr.n) (.string yr.name) (.slice xa yr.args.length xc) 106
              have r6 := boxF6 wr (.string yn) (.slice ap np cp) (.slice ab nb cb) (.int .i64 yr.kind) (.int .i64 yr.n) (.string yr.name) (.slice xa yr.args.length xc) 106
              have HB3 := hide (boxBelow wr (.cells #[.string yn, .slice ap np cp, .slice ab nb cb, .int .i64 yr.kind, .int .i64 yr.n, .string yr.name, .slice xa yr.args.length xc] 106))
              go_wp2_with fail
              rw [← HFH.out]
              generalize wr.alloc (.cells #[.string yn, .slice ap np cp, .slice ab nb cb, .int .i64 yr.kind, .int .i64 yr.n, .string yr.name, .slice xa yr.args.length xc] 106) = W3 at *
              clear u0 u1 u2 u3 u4 u5 u6 HFH
              -- the parameters
              go_loopw [3, 8] (fun o i wp => ∃ k : Nat, k ≤ np ∧ i = .int .i64 k ∧ o = .string (Lat.parTo yp FH k) ∧ Below W3.heap.size W3 wp) (fun _ i _ => np - (intOf i).toNat)
              case atStart => exact ⟨0, Nat.zero_le _, rfl, rfl, Below.refl _ _⟩
              case round =>
                obtain ⟨d, hd, rfl, rfl, hnx⟩ := hrel
                have t1 := cellUp r1 hnx
                have hpa := HPS.out d hd
                by_cases hdl : d < np
                · have hs := HPD.out d
                  have hc := cellUp (HCP.out d hdl) (up (up HBB.out HB3.out) hnx)
                  obtain rfl := HAP.out (by omega)
                  have HPT := hide (parTo_succ yp FH d)
                  generalize yp.getD d ByteArray.empty = s at *
                  generalize Lat.parTo yp FH d = pa at *
                  have HNX2 := hide hnx
                  clear r1 r2 r3 r4 r5 r6 hnx t3
                  by_cases hd0 : 0 < d
                  · rw [if_pos hd0] at HPT
                    go_wp2_with fail
                    go_roundw
                    case rel => exact ⟨d + 1, by omega, by go_num, val_str (by rw [HPT.out]), HNX2.out⟩
                    case measure => simp [intOf]; omega
                  · rw [if_neg hd0] at HPT
                    go_wp2_with fail
                    go_roundw
                    case rel => exact ⟨d + 1, by omega, by go_num, val_str (by rw [HPT.out]), HNX2.out⟩
                    case measure => simp [intOf]; omega
                · have hdn : d = np := by omega
                  subst hdn
                  replace r2 := cellUp r2 hnx
                  replace r3 := cellUp r3 hnx
                  replace r4 := cellUp r4 hnx
                  replace r5 := cellUp r5 hnx
                  replace r6 := cellUp r6 hnx
                  have HNX2 := hide hnx
                  clear r1 hnx t3
                  have hfp : FP.size ≤ 25165825 := by rw [HFP.out, ByteArray.size_append]; show _ + 1 ≤ _; omega
                  by_cases hb0 : 0 < nb
                  · rw [if_pos hb0] at HFT
                    go_wp2_with fail
                    rw [← HFP.out]
                    refine (bodyText_any m _ _ yb (HSB.out.below (up (up HBB.out HB3.out) HNX2.out)) hyb (HT.out.below (up (up HBB.out HB3.out) HNX2.out))).mono ?_
                    rintro e w5 ⟨rfl, hb5⟩
                    have HN5 := hide (up HNX2.out hb5)
                    replace r3 := cellUp r3 hb5
                    replace r4 := cellUp r4 hb5
                    replace r5 := cellUp r5 hb5
                    replace r6 := cellUp r6 hb5
                    clear r2 hb5
                    generalize Lat.bdT m yb = tb at *
                    go_wp2_with fail
                    refine (exprText_any m _ _ _ _ _ yr (HX.out.below (up (up HBB.out HB3.out) HN5.out)) hyr (HT.out.below (up (up HBB.out HB3.out) HN5.out))).mono ?_
                    rintro e w6 ⟨rfl, hb6⟩
                    have HN6 := hide (up HN5.out hb6)
                    clear hb6
                    generalize Lat.exT m yr = tx at *
                    go_wp2_with fail
                    go_roundw
                    case rel => exact ⟨i + 1, by omega, by go_num, val_str (by rw [HST.out, HFT.out]), up HNX.out (up HB3.out HN6.out)⟩
                    case measure => simp [intOf]; omega
                  · rw [if_neg hb0] at HFT
                    go_wp2_with fail
                    rw [← HFP.out]
                    refine (exprText_any m _ _ _ _ _ yr (HX.out.below (up (up HBB.out HB3.out) HNX2.out)) hyr (HT.out.below (up (up HBB.out HB3.out) HNX2.out))).mono ?_
                    rintro e w6 ⟨rfl, hb6⟩
                    have HN6 := hide (up HNX2.out hb6)
                    clear hb6
                    generalize Lat.exT m yr = tx at *
                    go_wp2_with fail
                    go_roundw
                    case rel => exact ⟨i + 1, by omega, by go_num, val_str (by rw [HST.out, HFT.out]), up HNX.out (up HB3.out HN6.out)⟩
                    case measure => simp [intOf]; omega
            · have HIN := hide (take_all (f := Lat.fuT m) (acc := XV) HNF.out (show i = nf by omega))
              generalize (xf.take i).foldl (Lat.fuT m) XV = acc at *
              go_wp2_with fail
              go_ret
              exact ⟨ret_str (by rw [HE.out, HIN.out]), up HB2.out hnx⟩
end Go.Proofs.YtholefgckcoklaaGreatDoor
