/- Walks over package downref: Text answers the text of a module. -/
import Derived.Test.YtnheahdcfadclaaGreatDoorZAR
namespace Go.Proofs.YtnheahdcfadclaaGreatDoor
open Go.RowKit

theorem boxF0 (w : World) (c0 c1 c2 c3 c4 c5 c6 : Value) (t : TypeId) : (w.alloc (.cells #[c0, c1, c2, c3, c4, c5, c6] t)).cell? ⟨w.heap.size, 0, none⟩ = some c0 := by simp [go_sem]
theorem boxF1 (w : World) (c0 c1 c2 c3 c4 c5 c6 : Value) (t : TypeId) : (w.alloc (.cells #[c0, c1, c2, c3, c4, c5, c6] t)).cell? ⟨w.heap.size, 1, none⟩ = some c1 := by simp [go_sem]
theorem boxF2 (w : World) (c0 c1 c2 c3 c4 c5 c6 : Value) (t : TypeId) : (w.alloc (.cells #[c0, c1, c2, c3, c4, c5, c6] t)).cell? ⟨w.heap.size, 2, none⟩ = some c2 := by simp [go_sem]
theorem boxF3 (w : World) (c0 c1 c2 c3 c4 c5 c6 : Value) (t : TypeId) : (w.alloc (.cells #[c0, c1, c2, c3, c4, c5, c6] t)).cell? ⟨w.heap.size, 3, none⟩ = some c3 := by simp [go_sem]
theorem boxF4 (w : World) (c0 c1 c2 c3 c4 c5 c6 : Value) (t : TypeId) : (w.alloc (.cells #[c0, c1, c2, c3, c4, c5, c6] t)).cell? ⟨w.heap.size, 4, none⟩ = some c4 := by simp [go_sem]
theorem boxF5 (w : World) (c0 c1 c2 c3 c4 c5 c6 : Value) (t : TypeId) : (w.alloc (.cells #[c0, c1, c2, c3, c4, c5, c6] t)).cell? ⟨w.heap.size, 5, none⟩ = some c5 := by simp [go_sem]
theorem boxF6 (w : World) (c0 c1 c2 c3 c4 c5 c6 : Value) (t : TypeId) : (w.alloc (.cells #[c0, c1, c2, c3, c4, c5, c6] t)).cell? ⟨w.heap.size, 6, none⟩ = some c6 := by simp [go_sem]

theorem parTo_succ (l : List ByteArray) (acc : ByteArray) (j : Nat) : Lat.parTo l acc (j + 1) = (if 0 < j then Lat.parTo l acc j ++ (⟨#[32]⟩ : ByteArray) else Lat.parTo l acc j) ++ l.getD j ByteArray.empty := rfl
theorem take_all {α : Type} {f : ByteArray → α → ByteArray} {l : List α} {acc : ByteArray} {n j : Nat} (h : n = l.length) (e : j = n) : (l.take j).foldl f acc = l.foldl f acc := by
  rw [List.take_of_length_le (by omega)]

set_option maxHeartbeats 8000000 in
set_option maxRecDepth 100000 in
theorem text_any (m : Nat) (w : World) (v : Value) (x : Mo) (h : MoAt w m v x) (hw : moW m x ≤ 1048576) (ht : Tab w) :
    Calls Tryz.prog 109 #[v] w fun e w' => e = .returned (.string (Lat.moT m x)) ∧ Below w.heap.size w w' := by
  obtain ⟨vi, vv, vf, rfl, hnm, hI, hV, hF⟩ := h
  have hwm : x.name.size + 2 + strsW x.imports + vasW x.vars + fusW m x.funs ≤ 1048576 := hw
  clear hw
  have hnz : x.name.size ≤ 1048576 := by omega
  have HI1 : Hid (∀ j, j ≤ x.imports.length → ((x.imports.take j).foldl Lat.impT (Lat.moH x)).size ≤ 12582920) := hide (fun j hj => by
    have := foldg_all (f := Lat.impT) (wt := fun s : ByteArray => s.size + 1) (l := x.imports) (fun i y _ acc => impT_size acc y) (Lat.moH x) j hj
    rw [moH_size] at this
    unfold strsW at hwm; omega)
  have HI2 : Hid (∀ j, (x.imports.getD j ByteArray.empty).size ≤ 1048576) := hide (fun j => by
    have := getD_size x.imports j
    unfold strsW at hwm; omega)
  have hIs : (Lat.moI x).size ≤ 8 + x.name.size + 12 * strsW x.imports := by
    have := foldg_all (f := Lat.impT) (wt := fun s : ByteArray => s.size + 1) (l := x.imports) (fun i y _ acc => impT_size acc y) (Lat.moH x) x.imports.length (Nat.le_refl _)
    rw [moH_size, List.take_length] at this
    unfold strsW Lat.moI; omega
  have HV1 : Hid (∀ j, j ≤ x.vars.length → ((x.vars.take j).foldl Lat.vaT (Lat.moI x)).size ≤ 12582920) := hide (fun j hj => by
    have := foldg_all (f := Lat.vaT) (wt := fun s : Va => s.name.size + s.level.size + 3) (l := x.vars) (fun i y _ acc => vaT_size acc y) (Lat.moI x) j hj
    unfold vasW at hwm; omega)
  have HV2 : Hid (∀ (j : Nat) (y : Va), x.vars[j]? = some y → y.name.size ≤ 1048576 ∧ y.level.size ≤ 1048576) := hide (fun j y hy => by
    have := mem_le_sum (f := fun s : Va => s.name.size + s.level.size + 3) (List.mem_of_getElem? hy)
    unfold vasW at hwm; omega)
  have hVs : (Lat.moV x).size ≤ 8 + x.name.size + 12 * strsW x.imports + 12 * vasW x.vars := by
    have := foldg_all (f := Lat.vaT) (wt := fun s : Va => s.name.size + s.level.size + 3) (l := x.vars) (fun i y _ acc => vaT_size acc y) (Lat.moI x) x.vars.length (Nat.le_refl _)
    rw [List.take_length] at this
    have e : (x.vars.foldl Lat.vaT (Lat.moI x)) = Lat.moV x := rfl
    rw [e] at this
    unfold vasW; omega
  have HF2 : Hid (∀ (j : Nat) (y : Fu), x.funs[j]? = some y → fuW m y ≤ 1048576) := hide (fun j y hy => by
    have := mem_le_sum (f := fuW m) (List.mem_of_getElem? hy)
    rw [fusW_eq] at hwm; omega)
  have HF1 : Hid (∀ j, j ≤ x.funs.length → ((x.funs.take j).foldl (Lat.fuT m) (Lat.moV x)).size ≤ 12582920) := hide (fun j hj => by
    obtain ⟨a, b, off, cap, _, _, _, h9⟩ := hF
    have := foldg_all (f := Lat.fuT m) (wt := fuW m) (l := x.funs) (fun i y hy acc => by
      obtain ⟨_, vp, vb, e0, e1, e2, e3, _, _, _, _, _, _, _, _, hsb, hx⟩ := h9 i y hy
      exact fuT_size hsb hx acc) (Lat.moV x) j hj
    rw [fusW_eq] at hwm; omega)
  clear hIs hVs hwm
  obtain ⟨ai, bi, oi, ci, rfl, hai, hli, _, hci⟩ := hI
  obtain ⟨av, bv, ov, cv, rfl, hav, hlv, hcv⟩ := hV
  obtain ⟨af, bf, of, cf, rfl, haf, hlf, hcf⟩ := hF
  have HT := hide ht
  obtain ⟨xn, xi, xv, xf⟩ := x
  simp only at hnm hnz hai hli hci hav hlv hcv haf hlf hcf HI1 HI2 HV1 HV2 HF1 HF2 ⊢
  have HE : Hid (Lat.moT m ⟨xn, xi, xv, xf⟩ = xf.foldl (Lat.fuT m) (Lat.moV ⟨xn, xi, xv, xf⟩) ++ (⟨#[41]⟩ : ByteArray)) := rfl
  have HVE : Hid (Lat.moV ⟨xn, xi, xv, xf⟩ = xv.foldl Lat.vaT (Lat.moI ⟨xn, xi, xv, xf⟩)) := rfl
  have HIE : Hid (Lat.moI ⟨xn, xi, xv, xf⟩ = xi.foldl Lat.impT (Lat.moH ⟨xn, xi, xv, xf⟩)) := rfl
  have HHE : Hid (Lat.moH ⟨xn, xi, xv, xf⟩ = (⟨#[40, 109, 111, 100, 117, 108, 101, 32]⟩ : ByteArray) ++ xn) := rfl
  generalize Lat.moT m ⟨xn, xi, xv, xf⟩ = XT at *
  generalize Lat.moV ⟨xn, xi, xv, xf⟩ = XV at *
  generalize Lat.moI ⟨xn, xi, xv, xf⟩ = XI at *
  generalize Lat.moH ⟨xn, xi, xv, xf⟩ = XH at *
  have HAI := hide hai
  have HAV := hide hav
  have HAF := hide haf
  have HCI := hide hci
  have HCV := hide hcv
  have HCF := hide hcf
  obtain ⟨ni, hni⟩ : ∃ n, n = xi.length := ⟨_, rfl⟩
  obtain ⟨nv, hnv⟩ : ∃ n, n = xv.length := ⟨_, rfl⟩
  obtain ⟨nf, hnf⟩ : ∃ n, n = xf.length := ⟨_, rfl⟩
  have HNI := hide hni
  have HNV := hide hnv
  have HNF := hide hnf
  rw [← hni, ← hnv, ← hnf]
  rw [← hni] at hli HAI HCI HI1
  rw [← hnv] at hlv HAV HV1
  rw [← hnf] at hlf HAF HF1
  clear hai hav haf hci hcv hcf hni hnv hnf ht
  have q1 := boxM1 w (.string xn) (.slice ai ni ci) (.slice av nv cv) (.slice af nf cf) 26
  have q2 := boxM2 w (.string xn) (.slice ai ni ci) (.slice av nv cv) (.slice af nf cf) 26
  have q3 := boxM3 w (.string xn) (.slice ai ni ci) (.slice av nv cv) (.slice af nf cf) 26
  have HB0 := hide (boxBelow w (.cells #[.string xn, .slice ai ni ci, .slice av nv cv, .slice af nf cf] 26))
  go_enter Tryz.func109, Tryz.ntmps109
  go_wp2_with fail
  rw [← HHE.out]
  generalize w.alloc (.cells #[.string xn, .slice ai ni ci, .slice av nv cv, .slice af nf cf] 26) = W0 at *
  clear HHE hnm hnz
  -- the imports
  go_loopw [3, 4] (fun o i wr => ∃ j : Nat, j ≤ ni ∧ i = .int .i64 j ∧ o = .string ((xi.take j).foldl Lat.impT XH) ∧ Below W0.heap.size W0 wr) (fun _ i _ => ni - (intOf i).toNat)
  case atStart => exact ⟨0, Nat.zero_le _, rfl, rfl, Below.refl _ _⟩
  case round =>
    obtain ⟨j, hj, rfl, rfl, hnx⟩ := hrel
    have t1 := cellUp q1 hnx
    by_cases hjl : j < ni
    · have hacc := HI1.out j hj
      have hs := HI2.out j
      have hc := cellUp (HCI.out j hjl) (up HB0.out hnx)
      have hgd : xi[j]? = some (xi.getD j ByteArray.empty) := by
        have : j < xi.length := by have := HNI.out; omega
        simp [this]
      have HST := hide (foldg_take (f := Lat.impT) hgd XH)
      obtain rfl := HAI.out (by omega)
      generalize xi.getD j ByteArray.empty = s at *
      generalize (xi.take j).foldl Lat.impT XH = acc at *
      clear hgd q1 q2 q3
      have HNX := hide hnx
      clear hnx
      go_wp2_with fail
      go_roundw
      case rel => exact ⟨j + 1, by omega, by go_num, val_str (by rw [HST.out]; rfl), HNX.out⟩
      case measure => simp [intOf]; omega
    · have hjn : j = ni := by omega
      clear hj
      go_wp2_with fail
      rw [take_all HNI.out hjn, ← HIE.out]
      clear q1 t1 hjl hjn HIE
      have HB1 := hide (up HB0.out hnx)
      replace q2 := cellUp q2 hnx
      replace q3 := cellUp q3 hnx
      clear hnx HB0
      -- the variables
      go_loopw [3, 5] (fun o i wy => ∃ k : Nat, k ≤ nv ∧ i = .int .i64 k ∧ o = .string ((xv.take k).foldl Lat.vaT XI) ∧ Below wr.heap.size wr wy) (fun _ i _ => nv - (intOf i).toNat)
      case atStart => exact ⟨0, Nat.zero_le _, rfl, rfl, Below.refl _ _⟩
      case round =>
        obtain ⟨k, hk, rfl, rfl, hnx⟩ := hrel
        have t2 := cellUp q2 hnx
        by_cases hkl : k < nv
        · obtain ⟨y, hy⟩ : ∃ y, xv[k]? = some y := ⟨_, List.getElem?_eq_getElem (by rw [← HNV.out]; exact hkl)⟩
          have hacc := HV1.out k hk
          obtain ⟨hs1, hs2⟩ := HV2.out k y hy
          obtain ⟨_, _, g0, g1⟩ := HCV.out k y hy
          have HST := hide (foldg_take (f := Lat.vaT) hy XI)
          obtain rfl := HAV.out (by omega)
          obtain ⟨yn, yl⟩ := y
          simp only at hs1 hs2 g0 g1
          have u0 := cellUp g0 (up HB1.out hnx)
          have u1 := cellUp g1 (up HB1.out hnx)
          generalize (xv.take k).foldl Lat.vaT XI = acc at *
          have HNX := hide hnx
          have b1 : (0 : Int) ≤ (k : Int) := by omega
          have b2 : (k : Int) < (nv : Int) := by omega
          have c1 : ¬ (9223372036854775807 < 6 + yn.size) := by omega
          have c2 : ¬ (9223372036854775807 < 6 + yn.size + 1) := by omega
          have c3 : ¬ (9223372036854775807 < 6 + yn.size + 1 + yl.size) := by omega
          have c4 : ¬ (9223372036854775807 < 6 + yn.size + 1 + yl.size + 1) := by omega
          have c5 : ¬ (9223372036854775807 < acc.size + (6 + yn.size + 1 + yl.size + 1)) := by omega
          clear hy g0 g1 hnx q2 q3
          go_wp2_with fail
          go_quiet (fail)
          go_wp2_with fail
          go_roundw
          case rel => exact ⟨k + 1, by omega, by go_num, val_str (by rw [HST.out]; rfl), drewBelow HNX.out _⟩
          case measure => simp [intOf]; omega
        · have hkn : k = nv := by omega
          clear hk
          go_wp2_with fail
          rw [take_all HNV.out hkn, ← HVE.out]
          clear q2 t2 hkl hkn HVE
          have HB2 := hide (up HB1.out hnx)
          replace q3 := cellUp q3 hnx
          clear hnx HB1
          -- the functions
          go_loopw [3, 6] (fun o i wz => ∃ k : Nat, k ≤ nf ∧ i = .int .i64 k ∧ o = .string ((xf.take k).foldl (Lat.fuT m) XV) ∧ Below wr.heap.size wr wz) (fun _ i _ => nf - (intOf i).toNat)
          case atStart => exact ⟨0, Nat.zero_le _, rfl, rfl, Below.refl _ _⟩
          case round =>
            obtain ⟨i, hi, rfl, rfl, hnx⟩ := hrel
            have t3 := cellUp q3 hnx
            have hacc := HF1.out i hi
            by_cases hil : i < nf
            · obtain ⟨y, hy⟩ : ∃ y, xf[i]? = some y := ⟨_, List.getElem?_eq_getElem (by rw [← HNF.out]; exact hil)⟩
              have hfw := HF2.out i y hy
              obtain ⟨_, vp, vb, e0, e1, e2, e3, g0, g1, g2, g3, g4, g5, g6, hp, hsb, hx⟩ := HCF.out i y hy
              have HST := hide (foldg_take (f := Lat.fuT m) hy XV)
              obtain rfl := HAF.out (by omega)
              have s1 := bdT_size hsb
              have s2 := exT_size hx
              have hps := parTo_all y.params (Lat.fuH ((xf.take i).foldl (Lat.fuT m) XV) y)
              have hpd := getD_size y.params
              rw [fuH_size] at hps
              obtain ⟨yn, yp, yb, yr⟩ := y
              simp only at g0 hp hsb hx s1 s2 hps hpd
              have hfw' : yn.size + 2 + ((yp.map fun s => s.size + 1).sum + 1) + stsW m yb + exW m yr ≤ 1048576 := hfw
              clear hfw
              generalize (xf.take i).foldl (Lat.fuT m) XV = acc at *
              generalize (yp.map fun s => s.size + 1).sum = pw at *
              have hn : yn.size ≤ 1048576 := by omega
              have hyb : stsW m yb ≤ 1048576 := by omega
              have hyr : exW m yr ≤ 1048576 := by omega
              have s1' : (Lat.bdT m yb).size ≤ 6291456 := by omega
              have s2' : (Lat.exT m yr).size ≤ 6291456 := by omega
              have HPS : Hid (∀ j, j ≤ yp.length → (Lat.parTo yp (Lat.fuH acc ⟨yn, yp, yb, yr⟩) j).size ≤ 25165824) := hide (fun j hj => by have := hps j hj; omega)
              have HPD : Hid (∀ j, (yp.getD j ByteArray.empty).size ≤ 1048576) := hide (fun j => by have := hpd j; omega)
              have HFT : Hid (Lat.fuT m acc ⟨yn, yp, yb, yr⟩ = (if 0 < yb.length then Lat.fuP acc ⟨yn, yp, yb, yr⟩ ++ ((⟨#[32]⟩ : ByteArray) ++ Lat.bdT m yb) else Lat.fuP acc ⟨yn, yp, yb, yr⟩) ++ ((⟨#[32]⟩ : ByteArray) ++ Lat.exT m yr ++ (⟨#[41]⟩ : ByteArray))) := rfl
              have HFP : Hid (Lat.fuP acc ⟨yn, yp, yb, yr⟩ = Lat.parTo yp (Lat.fuH acc ⟨yn, yp, yb, yr⟩) yp.length ++ (⟨#[41]⟩ : ByteArray)) := rfl
              have HFH : Hid (Lat.fuH acc ⟨yn, yp, yb, yr⟩ = acc ++ ((⟨#[32, 40, 102, 117, 110, 32]⟩ : ByteArray) ++ yn ++ (⟨#[32, 40]⟩ : ByteArray))) := rfl
              generalize Lat.fuT m acc ⟨yn, yp, yb, yr⟩ = FT at *
              generalize Lat.fuP acc ⟨yn, yp, yb, yr⟩ = FP at *
              generalize Lat.fuH acc ⟨yn, yp, yb, yr⟩ = FH at *
              obtain ⟨ap, bp, op, cp, rfl, hap, hlp, _, hcp⟩ := hp
              have HSB := hide hsb
              have HX := hide hx
              obtain ⟨ab, cb, rfl, hlb⟩ := hsb.shape
              obtain ⟨xa, xc, rfl, rfl, rfl, rfl⟩ := hx.shape
              have HAP := hide hap
              have HCP := hide hcp
              obtain ⟨np, hnp⟩ : ∃ n, n = yp.length := ⟨_, rfl⟩
              obtain ⟨nb, hnb⟩ : ∃ n, n = yb.length := ⟨_, rfl⟩
              have HNP := hide hnp
              have HNB := hide hnb
              rw [← hnp] at g1 hlp HAP HCP HPS HFP
              rw [← hnb] at g2 hlb HSB HFT
              have hbb := up HB2.out hnx
              have u0 := cellUp g0 hbb
              have u1 := cellUp g1 hbb
              have u2 := cellUp g2 hbb
              have u3 := cellUp g3 hbb
              have u4 := cellUp g4 hbb
              have u5 := cellUp g5 hbb
              have u6 := cellUp g6 hbb
              have HNX := hide hnx
              have HBB := hide hbb
              clear hps hpd hap hcp hsb hx hnp hnb hy hfw' s1 s2 g0 g1 g2 g3 g4 g5 g6 hbb hnx q3
              have r1 := boxF1 wr (.string yn) (.slice ap np cp) (.slice ab nb cb) (.int .i64 yr.kind) (.int .i64 yr.n) (.string yr.name) (.slice xa yr.args.length xc) 102
              have r2 := boxF2 wr (.string yn) (.slice ap np cp) (.slice ab nb cb) (.int .i64 yr.kind) (.int .i64 yr.n) (.string yr.name) (.slice xa yr.args.length xc) 102
              have r3 := boxF3 wr (.string yn) (.slice ap np cp) (.slice ab nb cb) (.int .i64 yr.kind) (.int .i64 yr.n) (.string yr.name) (.slice xa yr.args.length xc) 102
              have r4 := boxF4 wr (.string yn) (.slice ap np cp) (.slice ab nb cb) (.int .i64 yr.kind) (.int .i64 yr.n) (.string yr.name) (.slice xa yr.args.length xc) 102
              have r5 := boxF5 wr (.string yn) (.slice ap np cp) (.slice ab nb cb) (.int .i64 yr.kind) (.int .i64 yr.n) (.string yr.name) (.slice xa yr.args.length xc) 102
              have r6 := boxF6 wr (.string yn) (.slice ap np cp) (.slice ab nb cb) (.int .i64 yr.kind) (.int .i64 yr.n) (.string yr.name) (.slice xa yr.args.length xc) 102
              have HB3 := hide (boxBelow wr (.cells #[.string yn, .slice ap np cp, .slice ab nb cb, .int .i64 yr.kind, .int .i64 yr.n, .string yr.name, .slice xa yr.args.length xc] 102))
              go_wp2_with fail
              rw [← HFH.out]
              generalize wr.alloc (.cells #[.string yn, .slice ap np cp, .slice ab nb cb, .int .i64 yr.kind, .int .i64 yr.n, .string yr.name, .slice xa yr.args.length xc] 102) = W3 at *
              clear u0 u1 u2 u3 u4 u5 u6 HFH
              -- the parameters
              go_loopw [3, 8] (fun o i wp => ∃ k : Nat, k ≤ np ∧ i = .int .i64 k ∧ o = .string (Lat.parTo yp FH k) ∧ Below W3.heap.size W3 wp) (fun _ i _ => np - (intOf i).toNat)
              case atStart => exact ⟨0, Nat.zero_le _, rfl, rfl, Below.refl _ _⟩
              case round =>
                obtain ⟨d, hd, rfl, rfl, hnx⟩ := hrel
                have t1 := cellUp r1 hnx
                have hpa := HPS.out d hd
                by_cases hdl : d < np
                · have hs := HPD.out d
                  have hc := cellUp (HCP.out d hdl) (up (up HBB.out HB3.out) hnx)
                  obtain rfl := HAP.out (by omega)
                  have HPT := hide (parTo_succ yp FH d)
                  generalize yp.getD d ByteArray.empty = s at *
                  generalize Lat.parTo yp FH d = pa at *
                  have HNX2 := hide hnx
                  clear r1 r2 r3 r4 r5 r6 hnx t3
                  by_cases hd0 : 0 < d
                  · rw [if_pos hd0] at HPT
                    go_wp2_with fail
                    go_roundw
                    case rel => exact ⟨d + 1, by omega, by go_num, val_str (by rw [HPT.out]), HNX2.out⟩
                    case measure => simp [intOf]; omega
                  · rw [if_neg hd0] at HPT
                    go_wp2_with fail
                    go_roundw
                    case rel => exact ⟨d + 1, by omega, by go_num, val_str (by rw [HPT.out]), HNX2.out⟩
                    case measure => simp [intOf]; omega
                · have hdn : d = np := by omega
                  subst hdn
                  replace r2 := cellUp r2 hnx
                  replace r3 := cellUp r3 hnx
                  replace r4 := cellUp r4 hnx
                  replace r5 := cellUp r5 hnx
                  replace r6 := cellUp r6 hnx
                  have HNX2 := hide hnx
                  clear r1 hnx t3
                  have hfp : FP.size ≤ 25165825 := by rw [HFP.out, ByteArray.size_append]; show _ + 1 ≤ _; omega
                  by_cases hb0 : 0 < nb
                  · rw [if_pos hb0] at HFT
                    go_wp2_with fail
                    rw [← HFP.out]
                    refine (bodyText_any m _ _ yb (HSB.out.below (up (up HBB.out HB3.out) HNX2.out)) hyb (HT.out.below (up (up HBB.out HB3.out) HNX2.out))).mono ?_
                    rintro e w5 ⟨rfl, hb5⟩
                    have HN5 := hide (up HNX2.out hb5)
                    replace r3 := cellUp r3 hb5
                    replace r4 := cellUp r4 hb5
                    replace r5 := cellUp r5 hb5
                    replace r6 := cellUp r6 hb5
                    clear r2 hb5
                    generalize Lat.bdT m yb = tb at *
                    go_wp2_with fail
                    refine (exprText_any m _ _ _ _ _ yr (HX.out.below (up (up HBB.out HB3.out) HN5.out)) hyr (HT.out.below (up (up HBB.out HB3.out) HN5.out))).mono ?_
                    rintro e w6 ⟨rfl, hb6⟩
                    have HN6 := hide (up HN5.out hb6)
                    clear hb6
                    generalize Lat.exT m yr = tx at *
                    go_wp2_with fail
                    go_roundw
                    case rel => exact ⟨i + 1, by omega, by go_num, val_str (by rw [HST.out, HFT.out]), up HNX.out (up HB3.out HN6.out)⟩
                    case measure => simp [intOf]; omega
                  · rw [if_neg hb0] at HFT
                    go_wp2_with fail
                    rw [← HFP.out]
                    refine (exprText_any m _ _ _ _ _ yr (HX.out.below (up (up HBB.out HB3.out) HNX2.out)) hyr (HT.out.below (up (up HBB.out HB3.out) HNX2.out))).mono ?_
                    rintro e w6 ⟨rfl, hb6⟩
                    have HN6 := hide (up HNX2.out hb6)
                    clear hb6
                    generalize Lat.exT m yr = tx at *
                    go_wp2_with fail
                    go_roundw
                    case rel => exact ⟨i + 1, by omega, by go_num, val_str (by rw [HST.out, HFT.out]), up HNX.out (up HB3.out HN6.out)⟩
                    case measure => simp [intOf]; omega
            · have HIN := hide (take_all (f := Lat.fuT m) (acc := XV) HNF.out (show i = nf by omega))
              generalize (xf.take i).foldl (Lat.fuT m) XV = acc at *
              go_wp2_with fail
              go_ret
              exact ⟨ret_str (by rw [HE.out, HIN.out]), up HB2.out hnx⟩
end Go.Proofs.YtnheahdcfadclaaGreatDoor

/- Walks over package tree: exprTexts, exprText: of expressions that may be, the text that the document asks. -/
namespace Go.Proofs.YtnheahdcfadclaaGreatDoor
open Go.RowKit

theorem strs_lit1 {w : World} {B : Nat} (hB : w.heap.size = B) (s : ByteArray) (hs : s.size ≤ maxLen) : Strs (w.alloc (.cells #[.string s] 9)) (.slice (some ⟨B, 0, none⟩) 1 1) [s] := by
  subst hB
  exact ⟨_, w.heap.size, 0, 1, rfl, fun _ => rfl, by simp, fun t ht => by simp at ht; subst ht; exact hs, fun j hj => by
    have hj' : j < 1 := hj
    obtain rfl : j = 0 := by omega
    simp [go_sem]⟩
theorem strs_lit2 {w : World} {B : Nat} (hB : w.heap.size = B) (s t : ByteArray) (hs : s.size ≤ maxLen) (ht : t.size ≤ maxLen) : Strs (w.alloc (.cells #[.string s, .string t] 9)) (.slice (some ⟨B, 0, none⟩) 2 2) [s, t] := by
  subst hB
  exact ⟨_, w.heap.size, 0, 2, rfl, fun _ => rfl, by simp, fun u hu => by simp at hu; rcases hu with rfl | rfl <;> assumption, fun j hj => by
    have hj' : j < 2 := hj
    obtain rfl | rfl : j = 0 ∨ j = 1 := by omega
    all_goals simp [go_sem]⟩
theorem strs_lit3 {w : World} {B : Nat} (hB : w.heap.size = B) (s t u : ByteArray) (hs : s.size ≤ maxLen) (ht : t.size ≤ maxLen) (hu : u.size ≤ maxLen) : Strs (w.alloc (.cells #[.string s, .string t, .string u] 9)) (.slice (some ⟨B, 0, none⟩) 3 3) [s, t, u] := by
  subst hB
  exact ⟨_, w.heap.size, 0, 3, rfl, fun _ => rfl, by simp, fun x hx => by simp at hx; rcases hx with rfl | rfl | rfl <;> assumption, fun j hj => by
    have hj' : j < 3 := hj
    obtain rfl | rfl | rfl : j = 0 ∨ j = 1 ∨ j = 2 := by omega
    all_goals simp [go_sem]⟩
theorem strs_lit4 {w : World} {B : Nat} (hB : w.heap.size = B) (s t u x : ByteArray) (hs : s.size ≤ maxLen) (ht : t.size ≤ maxLen) (hu : u.size ≤ maxLen) (hx : x.size ≤ maxLen) : Strs (w.alloc (.cells #[.string s, .string t, .string u, .string x] 9)) (.slice (some ⟨B, 0, none⟩) 4 4) [s, t, u, x] := by
  subst hB
  exact ⟨_, w.heap.size, 0, 4, rfl, fun _ => rfl, by simp, fun y hy => by simp at hy; rcases hy with rfl | rfl | rfl | rfl <;> assumption, fun j hj => by
    have hj' : j < 4 := hj
    obtain rfl | rfl | rfl | rfl : j = 0 ∨ j = 1 ∨ j = 2 ∨ j = 3 := by omega
    all_goals simp [go_sem]⟩
theorem strsS_1 {w : World} {B : Nat} (hB : w.heap.size = B) {v1 : Value} {l1 : List ByteArray} (h1 : Strs w v1 l1) : StrsS (w.alloc (.cells #[v1] 22)) (.slice (some ⟨B, 0, none⟩) 1 1) [l1] := by
  subst hB
  exact ⟨w.heap.size, 0, 1, rfl, by simp, fun i l hl => by
    obtain ⟨hi, rfl⟩ := List.getElem?_eq_some_iff.1 hl
    have hi' : i < 1 := hi
    obtain rfl : i = 0 := by omega
    exact ⟨v1, by simp [go_sem], h1.below (boxBelow _ _)⟩⟩
theorem strsS_2 {w : World} {B : Nat} (hB : w.heap.size = B) {v1 v2 : Value} {l1 l2 : List ByteArray} (h1 : Strs w v1 l1) (h2 : Strs w v2 l2) : StrsS (w.alloc (.cells #[v1, v2] 22)) (.slice (some ⟨B, 0, none⟩) 2 2) [l1, l2] := by
  subst hB
  exact ⟨w.heap.size, 0, 2, rfl, by simp, fun i l hl => by
    obtain ⟨hi, rfl⟩ := List.getElem?_eq_some_iff.1 hl
    have hi' : i < 2 := hi
    obtain rfl | rfl : i = 0 ∨ i = 1 := by omega
    · exact ⟨v1, by simp [go_sem], h1.below (boxBelow _ _)⟩
    · exact ⟨v2, by simp [go_sem], h2.below (boxBelow _ _)⟩⟩
theorem strsS_3 {w : World} {B : Nat} (hB : w.heap.size = B) {v1 v2 v3 : Value} {l1 l2 l3 : List ByteArray} (h1 : Strs w v1 l1) (h2 : Strs w v2 l2) (h3 : Strs w v3 l3) : StrsS (w.alloc (.cells #[v1, v2, v3] 22)) (.slice (some ⟨B, 0, none⟩) 3 3) [l1, l2, l3] := by
  subst hB
  exact ⟨w.heap.size, 0, 3, rfl, by simp, fun i l hl => by
    obtain ⟨hi, rfl⟩ := List.getElem?_eq_some_iff.1 hl
    have hi' : i < 3 := hi
    obtain rfl | rfl | rfl : i = 0 ∨ i = 1 ∨ i = 2 := by omega
    · exact ⟨v1, by simp [go_sem], h1.below (boxBelow _ _)⟩
    · exact ⟨v2, by simp [go_sem], h2.below (boxBelow _ _)⟩
    · exact ⟨v3, by simp [go_sem], h3.below (boxBelow _ _)⟩⟩
theorem strsS_4 {w : World} {B : Nat} (hB : w.heap.size = B) {v1 v2 v3 v4 : Value} {l1 l2 l3 l4 : List ByteArray} (h1 : Strs w v1 l1) (h2 : Strs w v2 l2) (h3 : Strs w v3 l3) (h4 : Strs w v4 l4) : StrsS (w.alloc (.cells #[v1, v2, v3, v4] 22)) (.slice (some ⟨B, 0, none⟩) 4 4) [l1, l2, l3, l4] := by
  subst hB
  exact ⟨w.heap.size, 0, 4, rfl, by simp, fun i l hl => by
    obtain ⟨hi, rfl⟩ := List.getElem?_eq_some_iff.1 hl
    have hi' : i < 4 := hi
    obtain rfl | rfl | rfl | rfl : i = 0 ∨ i = 1 ∨ i = 2 ∨ i = 3 := by omega
    · exact ⟨v1, by simp [go_sem], h1.below (boxBelow _ _)⟩
    · exact ⟨v2, by simp [go_sem], h2.below (boxBelow _ _)⟩
    · exact ⟨v3, by simp [go_sem], h3.below (boxBelow _ _)⟩
    · exact ⟨v4, by simp [go_sem], h4.below (boxBelow _ _)⟩⟩

theorem Strs.allocUp {w : World} {v : Value} {l : List ByteArray} {o : Obj} (h : Strs w v l) : Strs (w.alloc o) v l := h.below (boxBelow _ _)
theorem Strs.drewUp {w : World} {v : Value} {l : List ByteArray} (h : Strs w v l) : Strs w.drew v l := h.below (Below.refl _ _).drew
theorem hidB_alloc {W0 x : World} {o : Obj} (h : Hid (Below W0.heap.size W0 x)) : Hid (Below W0.heap.size W0 (x.alloc o)) := hide (h.out.alloc h.out.size o)
theorem hidB_drew {W0 x : World} (h : Hid (Below W0.heap.size W0 x)) : Hid (Below W0.heap.size W0 x.drew) := hide h.out.drew

theorem bytes_ext {a b : ByteArray} (h : a.data.toList = b.data.toList) : a = b := by
  cases a with | mk a => cases b with | mk b => congr 1; exact Array.toList_inj.1 h
theorem app_list (a b : ByteArray) : (a ++ b).data.toList = a.data.toList ++ b.data.toList := by
  rw [ByteArray.data_append, Array.toList_append]
theorem brk_list (l : List ByteArray) : (Lat.brk l).data.toList = 40 :: (Lib.join (l.map (·.data.toList)) [32] ++ [41]) := by
  unfold Lat.brk Lat.jn
  rw [app_list, app_list]; rfl
theorem fold_list {t : Ex → ByteArray} (l : List Ex) (acc : ByteArray) : (l.foldl (Lat.exStep t) acc).data.toList = acc.data.toList ++ Lib.joinTail [32] ((l.map t).map (·.data.toList)) := by
  induction l generalizing acc with
  | nil => simp [Lib.joinTail]
  | cons y l ih =>
    rw [List.foldl_cons, ih]
    unfold Lat.exStep
    rw [app_list, app_list]
    simp [Lib.joinTail]
theorem op_text (x : Ex) (t : Ex → ByteArray) (h : x.kind ≠ 4) : Lat.brk (x.name :: x.args.map t) = x.args.foldl (Lat.exStep t) (Lat.exHead x) ++ (⟨#[41]⟩ : ByteArray) := by
  apply bytes_ext
  rw [brk_list, app_list, fold_list, List.map_cons, Lib.join_cons]
  unfold Lat.exHead
  rw [if_neg h, app_list]
  simp
theorem call_text (x : Ex) (t : Ex → ByteArray) (h : x.kind = 4) : Lat.brk (⟨#[99, 97, 108, 108]⟩ :: x.name :: x.args.map t) = x.args.foldl (Lat.exStep t) (Lat.exHead x) ++ (⟨#[41]⟩ : ByteArray) := by
  apply bytes_ext
  rw [brk_list, app_list, fold_list, List.map_cons, Lib.join_cons]
  unfold Lat.exHead
  rw [if_pos h, app_list]
  simp [Lib.joinTail]

theorem map_take {α β : Type} {f : α → β} {l : List α} {j : Nat} {y : α} (h : l[j]? = some y) : (l.take (j + 1)).map f = (l.take j).map f ++ [f y] := by
  obtain ⟨hj, rfl⟩ := List.getElem?_eq_some_iff.1 h
  rw [List.take_succ_eq_append_getElem hj, List.map_append]; rfl

theorem texts_small {w : World} {m : Nat} {b off : Nat} {args : List Ex} (hel : ∀ i y, args[i]? = some y → ∃ e0 e1 e2 e3, w.cell? ⟨b, off + i * 4, none⟩ = some e0 ∧ w.cell? ⟨b, off + i * 4 + 1, none⟩ = some e1 ∧ w.cell? ⟨b, off + i * 4 + 2, none⟩ = some e2 ∧ w.cell? ⟨b, off + i * 4 + 3, none⟩ = some e3 ∧ ExAt w m e0 e1 e2 e3 y)
    (hw : (args.map (exW m)).sum ≤ 1048576) : ∀ s ∈ args.map (Lat.exT m), s.size ≤ maxLen := by
  intro s hs
  obtain ⟨y, hy, rfl⟩ := List.mem_map.1 hs
  obtain ⟨i, hi, rfl⟩ := List.mem_iff_getElem.1 hy
  obtain ⟨e0, e1, e2, e3, _, _, _, _, hye⟩ := hel i _ (List.getElem?_eq_getElem hi)
  have h1 := exT_size hye
  have h2 : exW m args[i] ≤ (args.map (exW m)).sum := mem_le_sum (List.getElem_mem hi)
  unfold maxLen; omega

end Go.Proofs.YtnheahdcfadclaaGreatDoor

/- Walks over package tree: commandText, commandTexts: of commands that may be, the text that the document asks. -/
namespace Go.Proofs.YtnheahdcfadclaaGreatDoor
open Go.RowKit

namespace Lat
/-- A command's text by itself. -/
def stX (m : Nat) (s : St) : ByteArray := stT (exT m) (bdT m) s ⟨#[]⟩
def txs : Nat → List St → List ByteArray
  | 0, _ => []
  | m + 1, l => l.map (stX m)
end Lat

theorem stT_acc (et : Ex → ByteArray) (bt : List St → ByteArray) (s : St) (acc : ByteArray) : Lat.stT et bt s acc = acc ++ Lat.stT et bt s ⟨#[]⟩ := by
  have e : ∀ x : ByteArray, (⟨#[]⟩ : ByteArray) ++ x = x := fun x => by apply bytes_ext; rw [app_list]; rfl
  have e2 : ∀ x : ByteArray, x ++ (⟨#[]⟩ : ByteArray) = x := fun x => by apply bytes_ext; rw [app_list]; simp
  unfold Lat.stT
  simp only [e]
  split
  · rfl
  · split
    · rfl
    · split
      · rfl
      · split
        · rfl
        · rw [e2]

theorem joinTail_app (sep : List UInt8) (a b : List (List UInt8)) : Lib.joinTail sep (a ++ b) = Lib.joinTail sep a ++ Lib.joinTail sep b := by
  simp [Lib.joinTail]
theorem jn_list (l : List ByteArray) : (Lat.jn l).data.toList = Lib.join (l.map (·.data.toList)) [32] := by unfold Lat.jn; rfl
theorem jn_snoc (l : List ByteArray) (x : ByteArray) : Lat.jn (l ++ [x]) = (if 0 < l.length then Lat.jn l ++ (⟨#[32]⟩ : ByteArray) else Lat.jn l) ++ x := by
  cases l with
  | nil =>
    apply bytes_ext
    rw [if_neg (by simp), app_list, jn_list, jn_list]
    simp [Lib.join_one, Lib.join_nil]
  | cons y l =>
    apply bytes_ext
    rw [if_pos (by simp), app_list, app_list, jn_list, jn_list, List.cons_append, List.map_cons, List.map_cons, Lib.join_cons, Lib.join_cons, List.map_append, joinTail_app]
    simp [Lib.joinTail]

theorem bdTo_jn (m : Nat) (l : List St) : ∀ j, j ≤ l.length → Lat.bdTo (Lat.exT m) (Lat.bdT m) l j = Lat.jn ((l.take j).map (Lat.stX m))
  | 0, _ => by
    apply bytes_ext
    rw [jn_list]; simp [Lat.bdTo, Lib.join_nil]
  | j + 1, hj => by
    obtain ⟨s, hs⟩ : ∃ s, l[j]? = some s := ⟨_, List.getElem?_eq_getElem (by omega)⟩
    rw [bdTo_succ hs, stT_acc, map_take hs, jn_snoc, bdTo_jn m l j (by omega)]
    have e : ((l.take j).map (Lat.stX m)).length = j := by rw [List.length_map, List.length_take]; omega
    rw [e]; rfl
theorem bdT_jn (m : Nat) (l : List St) : Lat.bdT m l = Lat.jn (Lat.txs m l) := by
  cases m with
  | zero => apply bytes_ext; rw [jn_list]; simp [Lat.bdT, Lat.txs, Lib.join_nil]
  | succ m =>
    simp only [Lat.bdT, Lat.txs]
    rw [bdTo_jn m l l.length (Nat.le_refl _), List.take_length]

section
variable (m : Nat) (s : St)
theorem set_text (h : s.kind = 1) : Lat.brk [⟨#[115, 101, 116]⟩, s.name, Lat.exT m s.e] = Lat.stX m s := by
  apply bytes_ext
  rw [brk_list]
  unfold Lat.stX Lat.stT
  rw [if_pos h]
  simp [Lib.join_cons, Lib.joinTail]
theorem print_text (h : s.kind = 4) : Lat.brk [⟨#[112, 114, 105, 110, 116]⟩, s.name, Lat.exT m s.e] = Lat.stX m s := by
  apply bytes_ext
  rw [brk_list]
  unfold Lat.stX Lat.stT
  rw [if_neg (by omega), if_pos h]
  simp [Lib.join_cons, Lib.joinTail]
theorem while_text (h : s.kind = 3) : Lat.brk [⟨#[119, 104, 105, 108, 101]⟩, Lat.exT m s.e, Lat.brk (Lat.txs m s.a)] = Lat.stX m s := by
  apply bytes_ext
  rw [brk_list]
  unfold Lat.stX Lat.stT
  rw [if_neg (by omega), if_neg (by omega), if_pos h, bdT_jn]
  simp [Lib.join_cons, Lib.joinTail, brk_list, jn_list]
theorem if_text (h : s.kind = 2) : Lat.brk [⟨#[105, 102]⟩, Lat.exT m s.e, Lat.brk (Lat.txs m s.a), Lat.brk (Lat.txs m s.b)] = Lat.stX m s := by
  apply bytes_ext
  rw [brk_list]
  unfold Lat.stX Lat.stT
  rw [if_neg (by omega), if_neg (by omega), if_neg (by omega), if_pos h, bdT_jn, bdT_jn]
  simp [Lib.join_cons, Lib.joinTail, brk_list, jn_list]
end

theorem brk_txs {w : World} {m : Nat} {v : Value} {l : List St} (h : StsAt w m v l) (hw : stsW m l ≤ 1048576) : (Lat.brk (Lat.txs m l)).size ≤ 6291458 := by
  have := bdT_size h
  rw [brk_size, ← bdT_jn]; omega
theorem stX_size {w : World} {m : Nat} {e0 e1 e2 e3 va vb : Value} {s : St} (h : StAt w m e0 e1 e2 e3 va vb s) (hw : s.name.size + 3 + exW m s.e + stsW m s.a + stsW m s.b ≤ 1048576) : (Lat.stX m s).size ≤ 6291467 := by
  have h1 := (stT_size (Lat.exT m) (Lat.bdT m) s ⟨#[]⟩).2
  have h2 := exT_size h.2.2.1
  have h3 := bdT_size h.2.2.2.1
  have h4 := bdT_size h.2.2.2.2
  have e : (⟨#[]⟩ : ByteArray).size = 0 := rfl
  unfold Lat.stX
  omega

theorem len_le_sum {α : Type} {f : α → Nat} : ∀ {l : List α}, (∀ y ∈ l, 1 ≤ f y) → l.length ≤ (l.map f).sum
  | [], _ => Nat.le_refl _
  | y :: l, h => by
    have h1 := h y (by simp)
    have h2 := len_le_sum (l := l) (fun z hz => h z (by simp [hz]))
    simp only [List.length_cons, List.map_cons, List.sum_cons]; omega

end Go.Proofs.YtnheahdcfadclaaGreatDoor

/- Walks over package tree: importTexts, varTexts. -/
namespace Go.Proofs.YtnheahdcfadclaaGreatDoor
open Go.RowKit

namespace Lat
def impX (s : ByteArray) : ByteArray := brk [⟨#[105, 109, 112, 111, 114, 116]⟩, s]
def vaX (v : Va) : ByteArray := brk [⟨#[118, 97, 114]⟩, v.name, v.level]
end Lat

theorem impX_size (s : ByteArray) : (Lat.impX s).size = s.size + 9 := by
  unfold Lat.impX
  rw [brk_size, jn_size]
  simp [Lib.join_cons, Lib.joinTail]
theorem vaX_size (v : Va) : (Lat.vaX v).size = v.name.size + v.level.size + 7 := by
  unfold Lat.vaX
  rw [brk_size, jn_size]
  simp [Lib.join_cons, Lib.joinTail]
  omega

end Go.Proofs.YtnheahdcfadclaaGreatDoor
