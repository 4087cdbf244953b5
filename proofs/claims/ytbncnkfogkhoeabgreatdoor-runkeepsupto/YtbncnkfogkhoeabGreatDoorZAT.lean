/- Walks over package run: do. -/
import Derived.Test.YtbncnkfogkhoeabGreatDoorXP
import Derived.Test.YtbncnkfogkhoeabGreatDoorZAO
import Derived.Deep.RegionLaw
import Derived.Test.YtbncnkfogkhoeabGreatDoorZAF
namespace Go.Proofs.YtbncnkfogkhoeabGreatDoor
open Go.RowKit Go.Maps

set_option maxHeartbeats 8000000 in
set_option maxRecDepth 100000 in
theorem do_step (W : World) (c : Cfg) (nm : List (ByteArray × ByteArray)) (l : List Mo) (m K : Nat) (F : Rn.Fns) (g : Nat) (hK : 2 ≤ K) (hLe : Rn.Le (·.fuel) F) (hTo : Rn.Le (fun s => s.pr.length + s.fuel) F) (hE : EvOk W c nm l m K F g) (hL : LpOk W c nm l m K F g) (hD : DoOk W c nm l m K F g) :
    DoOk W c nm l m K (Rn.step nm l F) (g + 1) := by
  intro w s q a f om n o mm vs st hR hF hST hSB hg
  by_cases hpr : s.fuel ≠ 0 ∧ st.kind = 4 ∧ (F.ev a f o st.e (Rn.burnS s)).2.1 = 0
  · exact do_print W c nm l m K F g hK hLe hTo hE w s q a f om n o mm vs st hR hF hST hSB hg hpr.1 hpr.2.1 hpr.2.2
  have HPR := hide hpr
  clear hpr
  obtain ⟨e0, e1, e2, e3, va, vb, rfl, hnm, hx, ha, hb⟩ := hST
  have HST : Hid (StV W mm st #[.int .i64 st.kind, .string st.name, e0, e1, e2, e3, va, vb]) := hide ⟨e0, e1, e2, e3, va, vb, rfl, hnm, hx, ha, hb⟩
  have HX := hide hx
  have HA := hide ha
  have HB := hide hb
  have HNM := hide hnm
  have HSB := hide hSB
  have HF := hide hF
  obtain ⟨xa, xc, rfl, rfl, rfl, rfl⟩ := hx.shape
  obtain ⟨aa, ac, rfl⟩ := ha.shapeN
  obtain ⟨ba, bc, rfl⟩ := hb.shapeN
  have HST2 := Rn.step_dO nm l F a f o st s
  obtain ⟨D, hDD⟩ : ∃ D, D = (Rn.step nm l F).dO a f o st s := ⟨_, rfl⟩
  rw [← hDD] at HST2 ⊢
  have HDV := hide HST2
  have hB1 : Lat.stH st = true ∧ Lat.exprB mm st.e = true ∧ Lat.bodyB mm st.a = true ∧ Lat.bodyB mm st.b = true := by
    unfold Lat.stB at hSB
    simp only [Bool.and_eq_true] at hSB
    exact ⟨hSB.1.1.1, hSB.1.1.2, hSB.1.2, hSB.2⟩
  have HB1 := hide hB1
  have HG := hide hg
  generalize st.e.args.length = ne at *
  generalize st.a.length = na at *
  generalize st.b.length = nb at *
  have HR0 := hide (hR.box (.cells #[.int .i64 st.kind, .string st.name, .int .i64 st.e.kind, .int .i64 st.e.n, .string st.e.name, .slice xa ne xc, .slice aa na ac, .slice ba nb bc] 107))
  have HBX0 := hide (block_new w (.cells #[.int .i64 st.kind, .string st.name, .int .i64 st.e.kind, .int .i64 st.e.n, .string st.e.name, .slice xa ne xc, .slice aa na ac, .slice ba nb bc] 107))
  have HNE := hide hR.nle
  have HRM := hide hR.ma.room
  obtain ⟨r0, r1, r2, r3⟩ := HR0.out.fr.cell
  have HCB := hide (burn_any _ c nm s HR0.out.ma)
  clear hDD HST2 hB1 hg hSB hF hnm hx ha hb r1 r2 r3 hR
  go_enter Tryz.func86, Tryz.ntmps86
  go_wp2_with fail
  refine HCB.out.mono ?_
  rintro e w1 ⟨rfl, HMK⟩
  have HS1 : Hid ((Rn.burnS s).fuel ≤ s.fuel) := hide (Nat.sub_le _ _)
  have HR1 := hide (HR0.out.ev HMK.out.1 HMK.out.2 HS1.out)
  have HA1 := hide ((HR0.out.aft HMK.out.1 HMK.out.2 HS1.out).box HNE.out)
  have HBX1 := hide (HR0.out.stay HMK.out.2 (Or.inl rfl) HBX0.out (by decide) (by decide) (by decide))
  obtain ⟨B, hBw⟩ : ∃ b, b = w.heap.size := ⟨_, rfl⟩
  rw [← hBw] at HBX1 ⊢
  clear r0 HBX0 HR0 HCB HMK hBw
  by_cases h0 : s.fuel = 0
  · as_aux_lemma =>
      have HV := hide (HDV.out.1 h0)
      have HBN := hide (Rn.burn_zero h0)
      rw [(Rn.burn_zero h0).2.1]
      clear h0
      go_wp2_with fail
      go_ret
      exact ⟨by rw [HV.out]; rfl, hide (by rw [HV.out]; have := HA1.out; rw [HBN.out.2.2] at this; exact this)⟩
  · have HV := hide (HDV.out.2 h0)
    rw [(Rn.burn_pos h0).2]
    have HFU : Hid ((Rn.burnS s).fuel * K + K + mm ≤ g + 1) := hide (by
      have h1 := HG.out
      have h2 : (Rn.burnS s).fuel + 1 = s.fuel := by show s.fuel - 1 + 1 = s.fuel; omega
      have h3 : ((Rn.burnS s).fuel + 1) * K = (Rn.burnS s).fuel * K + K := Nat.succ_mul _ _
      rw [h2] at h3
      omega)
    have HFB : Hid ((Rn.burnS s).fuel + 1 ≤ s.fuel) := hide (by show s.fuel - 1 + 1 ≤ s.fuel; omega)
    have HTT : Hid ((Rn.burnS s).pr.length + (Rn.burnS s).fuel + 1 ≤ 16777215) := hide (by
      have h1 := HR1.out.ma.room
      have h2 : (Rn.burnS s).fuel + 1 = s.fuel := by show s.fuel - 1 + 1 = s.fuel; omega
      have h3 := HG.out
      have h4 := HRM.out
      show s.pr.length + (Rn.burnS s).fuel + 1 ≤ 16777215
      omega)
    have HFZ := hide h0
    clear h0 HDV
    obtain ⟨s1, hs1⟩ : ∃ s1, s1 = Rn.burnS s := ⟨_, rfl⟩
    have HS1E := hide hs1
    rw [← hs1] at HV HR1 HA1 HFU HTT HS1 HFB
    clear hs1
    have b0 := (block_at HBX1.out 0).trans rfl
    have b1 := (block_at HBX1.out 1).trans rfl
    have b2 := (block_at HBX1.out 2).trans rfl
    have b3 := (block_at HBX1.out 3).trans rfl
    have b4 := (block_at HBX1.out 4).trans rfl
    have b5 := (block_at HBX1.out 5).trans rfl
    have b6 := (block_at HBX1.out 6).trans rfl
    have b7 := (block_at HBX1.out 7).trans rfl
    by_cases h3 : st.kind = 3
    · as_aux_lemma =>
        have h3' : (st.kind == 3) = true := by simp [h3]
        have HVL : Hid (D = F.lp a f o st s1) := hide (by rw [HV.out, if_pos h3])
        have HC := hide (hL w1 s1 q a f om n o mm _ st HR1.out HF.out HST.out HSB.out (by have := HFU.out; omega))
        rw [← HVL.out] at HC
        clear h3 HV
        go_wp2_with fail
        refine HC.out.mono ?_
        rintro e w2 ⟨rfl, HA2⟩
        clear b0 b1 b2 b3 b4 b5 b6 b7
        go_wp2_with fail
        go_ret
        exact ⟨rfl, hide (HA1.out.trans HA2.out (by have := HS1.out; show n + s1.fuel ≤ n + s.fuel; omega))⟩
    · have h3' : (st.kind == 3) = false := by simp [h3]
      rw [if_neg h3] at HV
      clear h3
      have HC := hide (hE w1 s1 q a f om n o mm _ _ _ _ st.e HR1.out HF.out HX.out HB1.out.2.1 (by have := HFU.out; omega))
      obtain ⟨V, hVV⟩ : ∃ V, V = F.ev a f o st.e s1 := ⟨_, rfl⟩
      have HVL : Hid (V.2.2.fuel ≤ s1.fuel ∧ V.2.2.pr.length + V.2.2.fuel ≤ s1.pr.length + s1.fuel) := hide (by rw [hVV]; exact ⟨hLe.1 a f o st.e s1, hTo.1 a f o st.e s1⟩)
      rw [← hVV] at HC HV
      have HVE := hide hVV
      clear hVV
      go_wp2_with fail
      refine HC.out.mono ?_
      rintro e w2 ⟨rfl, HM2⟩
      have HR2 := hide (HR1.out.ev HM2.out.1 HM2.out.2.1 HVL.out.1)
      have HA2 := hide (HA1.out.trans (HR1.out.aft HM2.out.1 HM2.out.2.1 HVL.out.1) (show n + s1.fuel ≤ n + s.fuel by have := HS1.out; omega))
      have HBX2 := hide (HR1.out.stay HM2.out.2.1 (Or.inl rfl) HBX1.out (by decide) (by decide) (by decide))
      have HI2 := hide HM2.out.2.2
      clear b0 b1 b2 b3 b4 b5 b6 b7 HBX1 HC HM2
      have b0 := (block_at HBX2.out 0).trans rfl
      have b1 := (block_at HBX2.out 1).trans rfl
      have b6 := (block_at HBX2.out 6).trans rfl
      have b7 := (block_at HBX2.out 7).trans rfl
      by_cases hv : V.2.1 = 0
      · rw [if_pos hv] at HV
        have HVZ : Hid ((F.ev a f o st.e (Rn.burnS s)).2.1 = 0) := hide (by rw [← HS1E.out, ← HVE.out]; exact hv)
        rw [hv]
        clear hv
        obtain ⟨x2, hx2⟩ : ∃ x, x = V.1 := ⟨_, rfl⟩
        obtain ⟨s2, hs2⟩ : ∃ x, x = V.2.2 := ⟨_, rfl⟩
        rw [← hx2, ← hs2] at HV
        rw [← hx2] at HI2 ⊢
        rw [← hs2] at HR2 HA2 HVL
        clear hx2 hs2
        by_cases h1 : st.kind = 1
        · as_aux_lemma =>
            have h1' : (st.kind == 1) = true := by simp [h1]
            rw [if_pos h1] at HV
            have HC := hide (put_any W w2 c nm l m s2 q a f om n o st.name x2 HR2.out HNM.out HI2.out)
            clear h1
            go_wp2_with fail
            refine HC.out.mono ?_
            rintro e w3 ⟨rfl, HP⟩
            clear b0 b1 b6 b7
            go_wp2_with fail
            go_ret
            refine ⟨by rw [HV.out]; rfl, hide ?_⟩
            rw [HV.out]
            have hpf : (Rn.pt nm (Rn.mn l a) o st.name x2 s2).2.fuel = s2.fuel := Rn.pt_mea Rn.mea_fuel _ _ _ _ _ _
            have k1 := HS1.out
            have k2 := HVL.out.1
            have k3 := HFB.out
            exact ⟨HP.out.1, HA2.out.kp.trans HP.out.2.1, ⟨n + 1, HP.out.2.2.1, by rw [hpf]; omega⟩, HP.out.2.2.2, by rw [hpf]; omega⟩
        · have h1' : (st.kind == 1) = false := by simp [h1]
          rw [if_neg h1] at HV
          by_cases h4 : st.kind = 4
          · exact absurd ⟨HFZ.out, h4, HVZ.out⟩ HPR.out
          · have h4' : (st.kind == 4) = false := by simp [h4]
            rw [if_neg h4] at HV
            obtain ⟨m', rfl⟩ : ∃ m', mm = m' + 1 := by
              cases mm with
              | zero => exact absurd HX.out (fun h => h)
              | succ k => exact ⟨k, rfl⟩
            have HG2 : Hid (s2.fuel * K + m' ≤ g) := hide (by
              have h1 := HFU.out
              have h2 : s2.fuel * K ≤ s1.fuel * K := Nat.mul_le_mul_right K HVL.out.1
              omega)
            by_cases hx0 : x2 = 0
            · as_aux_lemma =>
                have hx0' : (x2 == 0) = true := by simp [hx0]
                rw [if_pos hx0] at HV
                have HC := hide (doAll_any W c nm l m K F g hD w2 s2 q a f om n o m' _ st.b HR2.out HF.out HB.out HB1.out.2.2.2 HG2.out)
                rw [← HV.out] at HC
                clear h1 h4 hx0
                go_wp2_with fail
                refine HC.out.mono ?_
                rintro e w3 ⟨rfl, HA3⟩
                clear b0 b1 b6 b7
                go_wp2_with fail
                go_ret
                exact ⟨rfl, hide (HA2.out.trans HA3.out (by have h1 := HS1.out; have h2 := HVL.out.1; show n + s2.fuel ≤ n + s.fuel; omega))⟩
            · as_aux_lemma =>
                have hx0' : (x2 == 0) = false := by simp [hx0]
                rw [if_neg hx0] at HV
                have HC := hide (doAll_any W c nm l m K F g hD w2 s2 q a f om n o m' _ st.a HR2.out HF.out HA.out HB1.out.2.2.1 HG2.out)
                rw [← HV.out] at HC
                clear h1 h4 hx0
                go_wp2_with fail
                refine HC.out.mono ?_
                rintro e w3 ⟨rfl, HA3⟩
                clear b0 b1 b6 b7
                go_wp2_with fail
                go_ret
                exact ⟨rfl, hide (HA2.out.trans HA3.out (by have h1 := HS1.out; have h2 := HVL.out.1; show n + s2.fuel ≤ n + s.fuel; omega))⟩
      · as_aux_lemma =>
          have hv' : (V.2.1 == 0) = false := by simp [hv]
          rw [if_neg hv] at HV
          clear hv
          go_wp2_with fail
          go_ret
          exact ⟨by rw [HV.out]; rfl, hide (by rw [HV.out]; exact HA2.out)⟩

end Go.Proofs.YtbncnkfogkhoeabGreatDoor

/- Walks over package run: loop. -/
namespace Go.Proofs.YtbncnkfogkhoeabGreatDoor
open Go.RowKit Go.Maps

/-- The machine's fuel, read from memory. -/
def fuelOf (c : Cfg) (w : World) : Nat := match w.cell? ⟨c.p, 3, none⟩ with
  | some (.int _ k) => k.toNat
  | _ => 0
theorem MaAt.fuelOf {w : World} {c : Cfg} {nm : List (ByteArray × ByteArray)} {s : Rn.Sta} (h : MaAt w c nm s) : Go.Proofs.YtbncnkfogkhoeabGreatDoor.fuelOf c w = s.fuel := by
  obtain ⟨_, _, _, c3, _⟩ := h.cell
  unfold Go.Proofs.YtbncnkfogkhoeabGreatDoor.fuelOf
  rw [c3]
  simp
theorem Rn.step_lp (nm : List (ByteArray × ByteArray)) (l : List Mo) (F : Rn.Fns) (a k : Nat) (o : Rn.Own) (c : St) (s : Rn.Sta) :
    ((F.ev a k o c.e s).2.1 ≠ 0 ∨ (F.ev a k o c.e s).1 = 0 → (Rn.step nm l F).lp a k o c s = ((F.ev a k o c.e s).2.1, o, (F.ev a k o c.e s).2.2)) ∧
    ((F.ev a k o c.e s).2.1 = 0 → (F.ev a k o c.e s).1 ≠ 0 →
      ((Rn.dos (F.dO a k) c.a o (F.ev a k o c.e s).2.2).1 ≠ 0 → (Rn.step nm l F).lp a k o c s = Rn.dos (F.dO a k) c.a o (F.ev a k o c.e s).2.2) ∧
      ((Rn.dos (F.dO a k) c.a o (F.ev a k o c.e s).2.2).1 = 0 → (Rn.dos (F.dO a k) c.a o (F.ev a k o c.e s).2.2).2.2.fuel = 0 → (Rn.step nm l F).lp a k o c s = (6, (Rn.dos (F.dO a k) c.a o (F.ev a k o c.e s).2.2).2)) ∧
      ((Rn.dos (F.dO a k) c.a o (F.ev a k o c.e s).2.2).1 = 0 → (Rn.dos (F.dO a k) c.a o (F.ev a k o c.e s).2.2).2.2.fuel ≠ 0 → (Rn.step nm l F).lp a k o c s = F.lp a k (Rn.dos (F.dO a k) c.a o (F.ev a k o c.e s).2.2).2.1 c (Rn.burnS (Rn.dos (F.dO a k) c.a o (F.ev a k o c.e s).2.2).2.2))) := by
  refine ⟨fun h => ?_, fun h1 h2 => ⟨fun h3 => ?_, fun h3 h4 => ?_, fun h3 h4 => ?_⟩⟩
  · simp only [Rn.step]
    rw [if_neg (fun hh => by rcases h with h | h; exact h hh.1; exact hh.2 h)]
  · simp only [Rn.step]
    rw [if_pos ⟨h1, h2⟩, if_neg h3]
  · simp only [Rn.step]
    rw [if_pos ⟨h1, h2⟩, if_pos h3, (Rn.burn_zero h4).1]
  · simp only [Rn.step]
    rw [if_pos ⟨h1, h2⟩, if_pos h3, (Rn.burn_pos h4).1]

set_option maxHeartbeats 8000000 in
set_option maxRecDepth 100000 in
theorem loop_step (W : World) (c : Cfg) (nm : List (ByteArray × ByteArray)) (l : List Mo) (m K : Nat) (g : Nat) (hK : 2 ≤ K) (hE : ∀ g', g' ≤ g → EvOk W c nm l m K (Rn.M nm l g') g') (hD : ∀ g', g' ≤ g → DoOk W c nm l m K (Rn.M nm l g') g') :
    LpOk W c nm l m K (Rn.M nm l (g + 1)) (g + 1) := by
  intro w s q a f om n o mm vs st hR hF hST hSB hg
  obtain ⟨e0, e1, e2, e3, va, vb, rfl, hnm, hx, ha, hb⟩ := hST
  have HX := hide hx
  have HA := hide ha
  have HF := hide hF
  obtain ⟨xa, xc, rfl, rfl, rfl, rfl⟩ := hx.shape
  obtain ⟨aa, ac, rfl⟩ := ha.shapeN
  obtain ⟨ba, bc, rfl⟩ := hb.shapeN
  obtain ⟨m', rfl⟩ : ∃ m', mm = m' + 1 := by
    cases mm with
    | zero => exact absurd hx (fun h => h)
    | succ k => exact ⟨k, rfl⟩
  obtain ⟨R, hRR⟩ : ∃ R, R = (Rn.M nm l (g + 1)).lp a f o st s := ⟨_, rfl⟩
  have HRR := hide hRR
  rw [← hRR]
  have hB1 : Lat.exprB (m' + 1) st.e = true ∧ Lat.bodyB (m' + 1) st.a = true := by
    unfold Lat.stB at hSB
    simp only [Bool.and_eq_true] at hSB
    exact ⟨hSB.1.1.2, hSB.1.2⟩
  have HB1 := hide hB1
  have HG := hide hg
  have HEE := hide hE
  have HDD := hide hD
  generalize st.e.args.length = ne at *
  generalize st.a.length = na at *
  generalize st.b.length = nb at *
  have HR0 := hide (hR.box (.cells #[.int .i64 st.kind, .string st.name, .int .i64 st.e.kind, .int .i64 st.e.n, .string st.e.name, .slice xa ne xc, .slice aa na ac, .slice ba nb bc] 107))
  have HBX0 := hide (block_new w (.cells #[.int .i64 st.kind, .string st.name, .int .i64 st.e.kind, .int .i64 st.e.n, .string st.e.name, .slice xa ne xc, .slice aa na ac, .slice ba nb bc] 107))
  have HA0 := hide ((Aft.refl HR0.out).box hR.nle)
  obtain ⟨B, hBw⟩ : ∃ b, b = w.heap.size := ⟨_, rfl⟩
  rw [← hBw] at HBX0
  have HBW := hide hBw
  clear hRR hB1 hg hSB hF hnm hx ha hb hR hE hD hBw
  go_enter Tryz.func108, Tryz.ntmps108
  go_wp2_with fail
  rw [← HBW.out]
  generalize (w.alloc (.cells #[.int .i64 st.kind, .string st.name, .int .i64 st.e.kind, .int .i64 st.e.n, .string st.e.name, .slice xa ne xc, .slice aa na ac, .slice ba nb bc] 107)) = W0 at *
  go_loopw [5] (fun _ wx => ∃ (g' : Nat) (o' : Rn.Own) (s' : Rn.Sta) (n' : Nat), Hid (g' ≤ g ∧ Run W wx c nm l m s' q a f om n' o' ∧ Aft w wx c nm s om n (o', s') ∧ n' + s'.fuel ≤ n + s.fuel ∧
      wx.heap[B]? = some (.cells #[.int .i64 st.kind, .string st.name, .int .i64 st.e.kind, .int .i64 st.e.n, .string st.e.name, .slice xa ne xc, .slice aa na ac, .slice ba nb bc] 107 (0, 0)) ∧ R = (Rn.M nm l (g' + 1)).lp a f o' st s' ∧ s'.fuel * K + (m' + 1) ≤ g')) (fun _ wx => fuelOf c wx)
  case atStart => exact ⟨g, o, s, n, hide ⟨Nat.le_refl _, HR0.out, HA0.out, Nat.le_refl _, HBX0.out, HRR.out, by have := HG.out; omega⟩⟩
  case round =>
    obtain ⟨g', o', s', n', HI⟩ := hrel
    have HST := hide (Rn.step_lp nm l (Rn.M nm l g') a f o' st s')
    have HC := hide (HEE.out g' HI.out.1 wr s' q a f om n' o' (m' + 1) _ _ _ _ st.e HI.out.2.1 HF.out HX.out HB1.out.1 HI.out.2.2.2.2.2.2)
    obtain ⟨V, hVV⟩ : ∃ V, V = (Rn.M nm l g').ev a f o' st.e s' := ⟨_, rfl⟩
    have HVL : Hid (V.2.2.fuel ≤ s'.fuel) := hide (by rw [hVV]; exact (Rn.M_le nm l g').1 a f o' st.e s')
    rw [← hVV] at HC HST
    have HEQ : Hid (R = (Rn.step nm l (Rn.M nm l g')).lp a f o' st s') := hide HI.out.2.2.2.2.2.1
    rw [← HEQ.out] at HST
    have b2 := (block_at HI.out.2.2.2.2.1 2).trans rfl
    have b3 := (block_at HI.out.2.2.2.2.1 3).trans rfl
    have b4 := (block_at HI.out.2.2.2.2.1 4).trans rfl
    have b5 := (block_at HI.out.2.2.2.2.1 5).trans rfl
    clear hVV
    obtain ⟨wo, rfl⟩ : ∃ wo, wo = wr := ⟨_, rfl⟩
    go_wp2_with fail
    refine HC.out.mono ?_
    rintro e w2 ⟨rfl, HM2⟩
    have HR2 := hide (HI.out.2.1.ev HM2.out.1 HM2.out.2.1 HVL.out)
    have HA2 := hide (HI.out.2.2.1.trans (HI.out.2.1.aft HM2.out.1 HM2.out.2.1 HVL.out) HI.out.2.2.2.1)
    have HBX2 := hide (HI.out.2.1.stay HM2.out.2.1 (Or.inl rfl) HI.out.2.2.2.2.1 (by decide) (by decide) (by decide))
    clear b2 b3 b4 b5 HC HM2
    have b6 := (block_at HBX2.out 6).trans rfl
    by_cases hv : V.2.1 = 0
    · by_cases hz : V.1 = 0
      · as_aux_lemma =>
          have HV := hide (HST.out.1 (Or.inr hz))
          rw [hv, hz]
          have HVZ := hide hv
          clear hv hz
          go_wp2_with fail
          go_ret
          exact ⟨by rw [HV.out, HVZ.out]; rfl, hide (by rw [HV.out]; exact HA2.out)⟩
      · have hz' : (V.1 == 0) = false := by simp [hz]
        have HS2 := hide (HST.out.2 hv hz)
        rw [hv]
        clear hv hz HST
        obtain ⟨x2, hx2⟩ : ∃ x, x = V.1 := ⟨_, rfl⟩
        obtain ⟨s2, hs2⟩ : ∃ x, x = V.2.2 := ⟨_, rfl⟩
        rw [← hx2] at hz' ⊢
        rw [← hs2] at HR2 HA2 HVL HS2
        clear hx2 hs2
        have HG2 : Hid (s2.fuel * K + m' ≤ g') := hide (by
          have h1 := HI.out.2.2.2.2.2.2
          have h2 : s2.fuel * K ≤ s'.fuel * K := Nat.mul_le_mul_right K HVL.out
          omega)
        have HC := hide (doAll_any W c nm l m K (Rn.M nm l g') g' (HDD.out g' HI.out.1) w2 s2 q a f om n' o' m' _ st.a HR2.out HF.out HA.out HB1.out.2 HG2.out)
        obtain ⟨D, hDe⟩ : ∃ D, D = Rn.dos ((Rn.M nm l g').dO a f) st.a o' s2 := ⟨_, rfl⟩
        rw [← hDe] at HC HS2
        clear hDe
        go_wp2_with fail
        refine HC.out.mono ?_
        rintro e w3 ⟨rfl, HA3⟩
        have HN2 : Hid (n' + s2.fuel ≤ n + s.fuel) := hide (by have := HI.out.2.2.2.1; have := HVL.out; omega)
        have HA4 := hide (HA2.out.trans HA3.out HN2.out)
        obtain ⟨n3, hr3, hn3⟩ := HA3.out.run HR2.out
        have HR3 := hide hr3
        have HN3 := hide hn3
        have HBX3 := hide (HR2.out.stay HA3.out.kp (Or.inr rfl) HBX2.out (by decide) (by decide) (by decide))
        have HF3 := hide HA3.out.le
        clear b6 HC HA3 hr3 hn3
        by_cases hd : D.1 = 0
        · rw [hd]
          have HDZ := hide hd
          clear hd
          have HCB := hide (burn_any w3 c nm D.2.2 HR3.out.ma)
          obtain ⟨r0, r1, r2, r3⟩ := HR3.out.fr.cell
          clear r1 r2 r3
          go_wp2_with fail
          refine HCB.out.mono ?_
          rintro e w4 ⟨rfl, HM4⟩
          clear r0 HCB
          have HLE4 : Hid ((Rn.burnS D.2.2).fuel ≤ D.2.2.fuel) := hide (Nat.sub_le _ _)
          have HR4 := hide (HR3.out.ev HM4.out.1 HM4.out.2 HLE4.out)
          have HN4 : Hid (n3 + D.2.2.fuel ≤ n + s.fuel) := hide (by have := HN3.out; have := HN2.out; omega)
          have HA5 := hide (HA4.out.trans (HR3.out.aft HM4.out.1 HM4.out.2 HLE4.out) HN4.out)
          have HBX4 := hide (HR3.out.stay HM4.out.2 (Or.inl rfl) HBX3.out (by decide) (by decide) (by decide))
          by_cases hf : D.2.2.fuel = 0
          · as_aux_lemma =>
              have HV := hide (HS2.out.2.1 HDZ.out hf)
              have HBZ := hide (Rn.burn_zero hf)
              rw [(Rn.burn_zero hf).2.1]
              clear hf
              go_wp2_with fail
              go_ret
              exact ⟨by rw [HV.out]; rfl, hide (by rw [HV.out]; have := HA5.out; rw [HBZ.out.2.2] at this; exact this)⟩
          · have HV := hide (HS2.out.2.2 HDZ.out hf)
            rw [(Rn.burn_pos hf).2]
            have HFF : Hid ((Rn.burnS D.2.2).fuel + 1 ≤ s'.fuel) := hide (by
              have h1 := HF3.out
              have h2 := HVL.out
              show D.2.2.fuel - 1 + 1 ≤ s'.fuel
              omega)
            obtain ⟨g2, hg2⟩ : ∃ g2, g' = g2 + 1 := ⟨g' - 1, by
              have h1 := HI.out.2.2.2.2.2.2
              omega⟩
            have HG4 : Hid ((Rn.burnS D.2.2).fuel * K + (m' + 1) ≤ g2) := hide (by
              have h1 := HI.out.2.2.2.2.2.2
              have h2 : ((Rn.burnS D.2.2).fuel + 1) * K ≤ s'.fuel * K := Nat.mul_le_mul_right K HFF.out
              have h3 : ((Rn.burnS D.2.2).fuel + 1) * K = (Rn.burnS D.2.2).fuel * K + K := Nat.succ_mul _ _
              omega)
            have HGL : Hid (g2 ≤ g) := hide (by have := HI.out.1; omega)
            rw [hg2] at HV
            clear hf hg2
            go_wp2_with fail
            go_roundw
            case rel => exact ⟨g2, D.2.1, Rn.burnS D.2.2, n3, hide ⟨HGL.out, HR4.out, HA5.out, by have := HN4.out; have := HLE4.out; omega, HBX4.out, HV.out, HG4.out⟩⟩
            case measure =>
              rw [HM4.out.1.fuelOf, HI.out.2.1.ma.fuelOf]
              have := HFF.out
              omega
        · as_aux_lemma =>
            have hd' : (D.1 == 0) = false := by simp [hd]
            have HV := hide (HS2.out.1 hd)
            clear hd
            go_wp2_with fail
            go_ret
            exact ⟨by rw [HV.out]; rfl, hide (by rw [HV.out]; exact HA4.out)⟩
    · as_aux_lemma =>
        have hv' : (V.2.1 == 0) = false := by simp [hv]
        have HV := hide (HST.out.1 (Or.inl hv))
        clear hv
        go_wp2_with fail
        go_ret
        exact ⟨by rw [HV.out]; rfl, hide (by rw [HV.out]; exact HA2.out)⟩

end Go.Proofs.YtbncnkfogkhoeabGreatDoor

/- Walks over package run: enter. -/
namespace Go.Proofs.YtbncnkfogkhoeabGreatDoor
open Go.RowKit Go.Maps

theorem own0_succ {ps : List ByteArray} {zs : List Int} {t : Nat} {x : ByteArray} {v : Int} (hx : ps[t]? = some x) (hv : zs[t]? = some v) : Rn.own0 (ps.take (t + 1)) (zs.take (t + 1)) = Rn.put (Rn.own0 (ps.take t) (zs.take t)) x v := by
  have h1 := (List.getElem?_eq_some_iff.1 hx).1
  have h2 := (List.getElem?_eq_some_iff.1 hv).1
  unfold Rn.own0
  rw [List.take_add_one, List.take_add_one, hx, hv, Option.toList_some, Option.toList_some, List.zip_append (by rw [List.length_take, List.length_take]; omega), List.foldl_append]
  rfl
theorem Rn.enter_eq {F : Rn.Fns} {l : List Mo} {a k : Nat} {y : Mo} {fu : Fu} (hy : l[a]? = some y) (hf : y.funs[k]? = some fu) (args : List Int) (s : Rn.Sta) : Rn.enter F l a k args s =
    if fu.params.length = args.length then
      if (Rn.dos (F.dO a k) fu.body (Rn.own0 fu.params args) s).1 = 0 then F.ev a k (Rn.dos (F.dO a k) fu.body (Rn.own0 fu.params args) s).2.1 fu.result (Rn.dos (F.dO a k) fu.body (Rn.own0 fu.params args) s).2.2
      else (0, (Rn.dos (F.dO a k) fu.body (Rn.own0 fu.params args) s).1, (Rn.dos (F.dO a k) fu.body (Rn.own0 fu.params args) s).2.2)
    else (0, 5, s) := by
  unfold Rn.enter
  rw [hy]
  simp only [Option.bind_some, hf]
theorem Ints.grown {w w' : World} {v : Value} {l : List Int} {om : Nat} (h : Ints w v l) (hg : w.grownBy w' (some om)) (hom : ∃ es cl, w.heap[om]? = some (.map es cl)) : Ints w' v l := by
  obtain ⟨es, cl, hm⟩ := hom
  obtain ⟨a, b, off, cap, e, h0, hl, h1⟩ := h
  refine ⟨a, b, off, cap, e, h0, hl, fun j z hz => ?_⟩
  have hc := h1 j z hz
  have hlt := World.block_lt_of_cell? _ _ hc
  rw [World.cell?_of_block (w := w) (hg.block b hlt (fun e => by
    injection e with e
    subst e
    simp [World.cell?, hm] at hc))]
  exact hc
theorem Ints.drew {w : World} {v : Value} {l : List Int} (h : Ints w v l) : Ints w.drew v l := h.below (Below.refl _ _).drew

set_option maxHeartbeats 8000000 in
set_option maxRecDepth 100000 in
theorem enter_any (W : World) (c : Cfg) (nm : List (ByteArray × ByteArray)) (l : List Mo) (m K : Nat) (F : Rn.Fns) (g : Nat) (hE : EvOk W c nm l m K F g) (hD : DoOk W c nm l m K F g) (w : World) (s : Rn.Sta) (a k : Nat) (va : Value) (args : List Int)
    (hb : Below c.n W w) (hn : c.n = W.heap.size) (hL : MosAt W m c.vl l) (hM : MaAt w c nm s) (y : Mo) (fu : Fu) (hy : l[a]? = some y) (hf : y.funs[k]? = some fu) (hok : Lat.fuE m fu = 0) (hA : Ints w va args) (hAI : ∀ x ∈ args, I64 x) (hg : s.fuel * K + m ≤ g) :
    Calls Tryz.prog 34 #[.pointer (some ⟨c.p, 0, none⟩), .int .i64 a, .int .i64 k, va] w fun e w' => e = .returned (.tuple #[.int .i64 (Rn.enter F l a k args s).1, .int .i64 (Rn.enter F l a k args s).2.1]) ∧ Hid (MaAt w' c nm (Rn.enter F l a k args s).2.2 ∧ Kp c none w w' ∧ I64 (Rn.enter F l a k args s).1) := by
  have HL := hide hL
  have HM := hide hM
  have HW := hide hb
  have HN := hide hn
  have HEE := hide hE
  have HDD := hide hD
  have HG := hide hg
  have HAI := hide hAI
  have hfo : Lat.bodyB m fu.body = true ∧ Lat.exprB m fu.result = true := by
    have := fuE_ok hok
    unfold Lat.fuOk at this
    simp only [Bool.and_eq_true] at this
    exact ⟨this.1.1.2, this.1.2⟩
  have HFO := hide hfo
  have HFI : Hid (FunIn l a k) := hide ⟨y, hy, (List.getElem?_eq_some_iff.1 hf).1⟩
  have hal : a < l.length := (List.getElem?_eq_some_iff.1 hy).1
  have hkl : k < y.funs.length := (List.getElem?_eq_some_iff.1 hf).1
  have HALT := hide hal
  have hup : ∀ {p : Addr} {v : Value}, W.cell? p = some v → w.cell? p = some v := fun {p v} hp => by
    rw [hb.cell (by rw [hn]; exact World.block_lt_of_cell? _ _ hp)]
    exact hp
  obtain ⟨ad, b, off, cap, hvl, h0, hll, h1⟩ := hL
  obtain ⟨vi, vv, vf, -, -, -, g3, hmo⟩ := h1 a y hy
  obtain ⟨fa, fb, fo, fc, rfl, hfa, hfl, hfe⟩ := hmo.split.2.2
  obtain ⟨-, vp, vb, e0, e1, e2, e3, f0, f1, f2, f3, f4, f5, f6, hp, hsb, hxr⟩ := hfe k fu hf
  have HSB := hide hsb
  have HXR := hide hxr
  obtain rfl := h0 (by omega)
  obtain rfl := hfa (by omega)
  obtain ⟨pa, pb, po, pc, rfl, hpa, hpl, hps, hpcel⟩ := hp
  have HPS := hide hps
  have HPC := hide hpcel
  have HPA := hide hpa
  obtain ⟨sb, sc, rfl⟩ := hsb.shapeN
  obtain ⟨xa, xc, rfl, rfl, rfl, rfl⟩ := hxr.shape
  obtain ⟨m0, rfl⟩ : ∃ m0, m = m0 + 1 := by
    cases m with
    | zero => exact absurd hxr (fun h => h)
    | succ j => exact ⟨j, rfl⟩
  replace g3 := hup g3
  replace f0 := hup f0
  replace f1 := hup f1
  replace f2 := hup f2
  replace f3 := hup f3
  replace f4 := hup f4
  replace f5 := hup f5
  replace f6 := hup f6
  obtain ⟨vpr, c0, -, -, -, -, -⟩ := hM.cell
  rw [hvl] at c0
  have HIN := hide hA
  obtain ⟨aa, ab, ao, ac, rfl, haa, hla, hac⟩ := hA
  have HAA := hide haa
  obtain ⟨R, hRR⟩ : ∃ R, R = Rn.enter F l a k args s := ⟨_, rfl⟩
  have hRE := hRR
  rw [Rn.enter_eq hy hf] at hRE
  have HRE := hide hRE
  rw [← hRR]
  obtain ⟨np, hnp⟩ : ∃ n, n = fu.params.length := ⟨_, rfl⟩
  obtain ⟨na, hna⟩ : ∃ n, n = args.length := ⟨_, rfl⟩
  obtain ⟨nl, hnl⟩ : ∃ n, n = l.length := ⟨_, rfl⟩
  obtain ⟨nf, hnf⟩ : ∃ n, n = y.funs.length := ⟨_, rfl⟩
  have HNP := hide hnp
  have HNA := hide hna
  rw [← hnp] at f1 hpl HPA
  rw [← hnp, ← hna] at HRE
  rw [← hna] at HIN HAA hla ⊢
  rw [← hnl] at c0 hal hll
  rw [← hnf] at g3 hkl hfl
  generalize fu.body.length = nb at *
  generalize fu.result.args.length = ne at *
  have hnp4 : np ≤ 4 := by
    unfold Lat.fuE at hok
    by_cases h4 : 4 < fu.params.length
    · rw [if_pos h4] at hok; cases hok
    · omega
  have HCN : Hid (c.n ≤ w.heap.size) := hide (by rw [hn]; exact hb.size)
  have HB0 := hide (boxBelow w (.cells #[.string fu.name, .slice pa np pc, .slice sb nb sc, .int .i64 fu.result.kind, .int .i64 fu.result.n, .string fu.result.name, .slice xa ne xc] 74))
  have hmm := @run_makeMap Tryz.prog
  clear hRR hRE hnp hna hnl hnf hok hfo hpa hps hpcel haa hac hxr hsb hfe hfa hmo h1 h0 hvl hM hb hE hD hg hAI hy hf hn hup
  by_cases hlen : np = na
  · have hl' : ((np : Int) == (na : Int)) = true := by simp [hlen]
    have hl2 : ((np : Int) != (na : Int)) = false := by simp [hlen]
    rw [if_pos hlen] at HRE
    have HLEN := hide hlen
    clear hlen
    have e1 := block_new w (.cells #[.string fu.name, .slice pa np pc, .slice sb nb sc, .int .i64 fu.result.kind, .int .i64 fu.result.n, .string fu.result.name, .slice xa ne xc] 74)
    have e2 := block_new (w.alloc (.cells #[.string fu.name, .slice pa np pc, .slice sb nb sc, .int .i64 fu.result.kind, .int .i64 fu.result.n, .string fu.result.name, .slice xa ne xc] 74)) (.map #[] 0)
    have e3 := block_new ((w.alloc (.cells #[.string fu.name, .slice pa np pc, .slice sb nb sc, .int .i64 fu.result.kind, .int .i64 fu.result.n, .string fu.result.name, .slice xa ne xc] 74)).alloc (.map #[] 0)) (.cells #[.pointer (some ⟨c.p, 0, none⟩), .int .i64 a, .int .i64 k, .map (some (w.heap.size + 1))] 123)
    have HB2 : Hid (Below w.heap.size w (((w.alloc (.cells #[.string fu.name, .slice pa np pc, .slice sb nb sc, .int .i64 fu.result.kind, .int .i64 fu.result.n, .string fu.result.name, .slice xa ne xc] 74)).alloc (.map #[] 0)).alloc (.cells #[.pointer (some ⟨c.p, 0, none⟩), .int .i64 a, .int .i64 k, .map (some (w.heap.size + 1))] 123))) := hide (up (up (boxBelow _ _) (boxBelow _ _)) (boxBelow _ _))
    have HBX2 := hide (block_alloc (block_alloc e1 (.map #[] 0)) (.cells #[.pointer (some ⟨c.p, 0, none⟩), .int .i64 a, .int .i64 k, .map (some (w.heap.size + 1))] 123))
    have HOW2 : Hid (OwM (((w.alloc (.cells #[.string fu.name, .slice pa np pc, .slice sb nb sc, .int .i64 fu.result.kind, .int .i64 fu.result.n, .string fu.result.name, .slice xa ne xc] 74)).alloc (.map #[] 0)).alloc (.cells #[.pointer (some ⟨c.p, 0, none⟩), .int .i64 a, .int .i64 k, .map (some (w.heap.size + 1))] 123)) (w.heap.size + 1) 0 (Rn.own0 (fu.params.take 0) (args.take 0))) := hide (by
      have h1 := OwM.new (w.alloc (.cells #[.string fu.name, .slice pa np pc, .slice sb nb sc, .int .i64 fu.result.kind, .int .i64 fu.result.n, .string fu.result.name, .slice xa ne xc] 74))
      rw [World.size_alloc] at h1
      refine h1.same ?_
      rw [World.size_alloc] at e2
      rw [block_alloc e2 (.cells #[.pointer (some ⟨c.p, 0, none⟩), .int .i64 a, .int .i64 k, .map (some (w.heap.size + 1))] 123), e2])
    have HFR2 : Hid (FrAt (((w.alloc (.cells #[.string fu.name, .slice pa np pc, .slice sb nb sc, .int .i64 fu.result.kind, .int .i64 fu.result.n, .string fu.result.name, .slice xa ne xc] 74)).alloc (.map #[] 0)).alloc (.cells #[.pointer (some ⟨c.p, 0, none⟩), .int .i64 a, .int .i64 k, .map (some (w.heap.size + 1))] 123)) c (w.heap.size + 1 + 1) a k (w.heap.size + 1)) := hide ⟨by have := HCN.out; omega, by rw [World.size_alloc, World.size_alloc] at e3; exact e3⟩
    clear e1 e2 e3
    go_enter Tryz.func34, Tryz.ntmps34
    go_wp2_with fail
    have HMA2 := hide (HM.out.below HB2.out)
    have HIN2 := hide (HIN.out.below HB2.out)
    have HKP2 : Hid (Kp c none w (((w.alloc (.cells #[.string fu.name, .slice pa np pc, .slice sb nb sc, .int .i64 fu.result.kind, .int .i64 fu.result.n, .string fu.result.name, .slice xa ne xc] 74)).alloc (.map #[] 0)).alloc (.cells #[.pointer (some ⟨c.p, 0, none⟩), .int .i64 a, .int .i64 k, .map (some (w.heap.size + 1))] 123))) := hide (Kp.of_below HB2.out HCN.out)
    obtain ⟨B, hBw⟩ : ∃ b, b = w.heap.size := ⟨_, rfl⟩
    generalize (((w.alloc (.cells #[.string fu.name, .slice pa np pc, .slice sb nb sc, .int .i64 fu.result.kind, .int .i64 fu.result.n, .string fu.result.name, .slice xa ne xc] 74)).alloc (.map #[] 0)).alloc (.cells #[.pointer (some ⟨c.p, 0, none⟩), .int .i64 a, .int .i64 k, .map (some (w.heap.size + 1))] 123)) = W2 at *
    have HMPL : Hid (c.mp < w.heap.size) := hide (by obtain ⟨es, cl, he⟩ := HM.out.map.isMap; exact block_lt he)
    rw [← hBw] at HBX2 HOW2 HFR2 HMPL HCN ⊢
    have HBW := hide hBw
    clear hBw c0 g3 f0 f1 f2 f3 f4 f5 f6 hmm HB2 HB0
    go_loopw [41] (fun i wx => ∃ t : Nat, t ≤ np ∧ i = .int .i64 t ∧ Hid (MaAt wx c nm s ∧ Kp c none w wx ∧ FrAt wx c (B + 1 + 1) a k (B + 1) ∧ OwM wx (B + 1) t (Rn.own0 (fu.params.take t) (args.take t)) ∧ (∀ z v, Rn.own0 (fu.params.take t) (args.take t) z = some v → I64 v) ∧
        wx.heap[B]? = some (.cells #[.string fu.name, .slice pa np pc, .slice sb nb sc, .int .i64 fu.result.kind, .int .i64 fu.result.n, .string fu.result.name, .slice xa ne xc] 74 (0, 0)) ∧ Ints wx (.slice aa na ac) args)) (fun i _ => np - (intOf i).toNat)
    case atStart => exact ⟨0, Nat.zero_le _, rfl, hide ⟨HMA2.out, HKP2.out, HFR2.out, HOW2.out, fun z v h => by simp [Rn.own0] at h, HBX2.out, HIN2.out⟩⟩
    case round =>
      obtain ⟨t, ht, rfl, HI⟩ := hrel
      by_cases htn : t < np
      · obtain ⟨x, hx⟩ : ∃ x, fu.params[t]? = some x := ⟨_, List.getElem?_eq_getElem (by rw [← HNP.out]; exact htn)⟩
        obtain ⟨z, hz⟩ : ∃ z, args[t]? = some z := ⟨_, List.getElem?_eq_getElem (by rw [← HNA.out, ← HLEN.out]; exact htn)⟩
        have HSC := hide (own0_succ hx hz)
        have hxs := HPS.out x (List.mem_of_getElem? hx)
        have hzi := HAI.out z (List.mem_of_getElem? hz)
        have x0 := HPC.out t (by rw [← HNP.out]; exact htn)
        rw [List.getD_eq_getElem?_getD, hx, Option.getD_some] at x0
        have x1 : wr.cell? ⟨pb, po + t, none⟩ = some (.string x) := by
          have hlt := World.block_lt_of_cell? _ _ x0
          rw [(HW.out.trans HI.out.2.1.below).cell (by rw [HN.out]; exact hlt)]
          exact x0
        obtain rfl := HPA.out (by omega)
        obtain ⟨aa', ab', ao', ac', hva, haa, -, hac⟩ := HI.out.2.2.2.2.2.2
        rw [← HNA.out] at hva haa
        injection hva with hva1 hva2 hva3
        obtain rfl := haa (by have := HLEN.out; omega)
        subst hva1 hva3
        have z1 := hac t z hz
        have q3 := HI.out.2.2.1.cell.2.2.2
        obtain ⟨w5, L1, ho5, hg5⟩ := (HI.out.2.2.2.1.same (w' := wr.drew) rfl).put (by unfold maxLen; omega) hxs hzi
        have htna : t < na := by have := HLEN.out; omega
        have hom : ∃ es cl, wr.drew.heap[B + 1]? = some (.map es cl) := HI.out.2.2.2.1.isMap
        have HM5 := hide ((HI.out.1.below (Below.refl _ _).drew).but hom hg5 (by have := HMPL.out; omega))
        have HK5 : Hid (Kp c none w w5) := hide (((HI.out.2.1.drewN 1).more.trans (Kp.but hg5 (by have := HCN.out; omega) (Nat.le_trans (by have := HCN.out; omega : c.n ≤ B) (Nat.le_of_lt (block_lt HI.out.2.2.2.2.2.1))))).fresh (by have := HBW.out; omega))
        have HF5 : Hid (FrAt w5 c (B + 1 + 1) a k (B + 1)) := hide ⟨HI.out.2.2.1.1, by rw [hg5.block _ (block_lt HI.out.2.2.1.2) (by simp)]; exact HI.out.2.2.1.2⟩
        have HX5 : Hid (w5.heap[B]? = some (.cells #[.string fu.name, .slice (some ⟨pb, po, none⟩) np pc, .slice sb nb sc, .int .i64 fu.result.kind, .int .i64 fu.result.n, .string fu.result.name, .slice xa ne xc] 74 (0, 0))) := hide (by rw [hg5.block _ (block_lt HI.out.2.2.2.2.2.1) (by simp)]; exact HI.out.2.2.2.2.2.1)
        have HI5 := hide (HI.out.2.2.2.2.2.2.drew.grown hg5 hom)
        have HO5 := hide ho5
        have HZI := hide hzi
        clear hx hz x0 hac ho5 hg5 hom hva2 haa hxs hzi
        obtain ⟨wo, rfl⟩ : ∃ wo, wo = wr := ⟨_, rfl⟩
        go_wp2_with fail
        go_region_law (fail)
        all_goals
          go_wp2_with fail
          go_roundw
          case rel => exact ⟨t + 1, by omega, by go_num, hide ⟨HM5.out, HK5.out, HF5.out, by rw [HSC.out]; exact HO5.out, by rw [HSC.out]; exact put_own HI.out.2.2.2.2.1 HZI.out, HX5.out, HI5.out⟩⟩
          case measure => simp [intOf]; omega
      · have hte : t = np := by omega
        have HOE : Hid (Rn.own0 (fu.params.take t) (args.take t) = Rn.own0 fu.params args) := hide (by
          have h1 : fu.params.take t = fu.params := List.take_of_length_le (by rw [← HNP.out]; omega)
          have h2 : args.take t = args := List.take_of_length_le (by rw [← HNA.out, ← HLEN.out]; omega)
          rw [h1, h2])
        have HRUN : Hid (Run W wr c nm l (m0 + 1) s (B + 1 + 1) a k (B + 1) t (Rn.own0 fu.params args)) := hide ⟨HW.out.trans HI.out.2.1.below, HN.out, HL.out, HI.out.1, HI.out.2.2.1, by rw [← HOE.out]; exact HI.out.2.2.2.1, by have := HCN.out; omega, by have := HMPL.out; omega, HALT.out, by rw [← HOE.out]; exact HI.out.2.2.2.2.1, by have := HI.out.1.room; omega⟩
        have HC := hide (doAll_any W c nm l (m0 + 1) K F g HDD.out wr s (B + 1 + 1) a k (B + 1) t _ m0 _ fu.body HRUN.out HFI.out HSB.out HFO.out.1 (by have := HG.out; omega))
        obtain ⟨D, hDe⟩ : ∃ D, D = Rn.dos (F.dO a k) fu.body (Rn.own0 fu.params args) s := ⟨_, rfl⟩
        rw [← hDe] at HC HRE
        have b2 := (block_at HI.out.2.2.2.2.2.1 2).trans rfl
        clear hte hDe
        obtain ⟨wo, rfl⟩ : ∃ wo, wo = wr := ⟨_, rfl⟩
        go_wp2_with fail
        refine HC.out.mono ?_
        rintro e w5 ⟨rfl, HA5⟩
        have HKP5 : Hid (Kp c none w w5) := hide ((HI.out.2.1.more.trans HA5.out.kp).fresh (by have := HBW.out; omega))
        obtain ⟨n5, hr5, -⟩ := HA5.out.run HRUN.out
        have HR5 := hide hr5
        have HBX5 := hide (HRUN.out.stay HA5.out.kp (Or.inr rfl) HI.out.2.2.2.2.2.1 (by decide) (by decide) (by decide))
        have HLE5 := hide HA5.out.le
        clear b2 hr5 HC HA5
        by_cases hd : D.1 = 0
        · rw [if_pos hd] at HRE
          rw [hd]
          clear hd
          have HC2 := hide (HEE.out w5 D.2.2 (B + 1 + 1) a k (B + 1) n5 D.2.1 (m0 + 1) _ _ _ _ fu.result HR5.out HFI.out HXR.out HFO.out.2 (by
            have h1 := HG.out
            have h2 : D.2.2.fuel * K ≤ s.fuel * K := Nat.mul_le_mul_right K HLE5.out
            omega))
          rw [← HRE.out] at HC2
          have b3 := (block_at HBX5.out 3).trans rfl
          have b4 := (block_at HBX5.out 4).trans rfl
          have b5 := (block_at HBX5.out 5).trans rfl
          have b6 := (block_at HBX5.out 6).trans rfl
          go_wp2_with fail
          refine HC2.out.mono ?_
          rintro e w6 ⟨rfl, HM6⟩
          clear b3 b4 b5 b6
          go_wp2_with fail
          go_ret2
          exact ⟨rfl, hide ⟨HM6.out.1, HKP5.out.trans HM6.out.2.1, HM6.out.2.2⟩⟩
        · as_aux_lemma =>
            have hd' : (D.1 == 0) = false := by simp [hd]
            rw [if_neg hd] at HRE
            clear hd
            go_wp2_with fail
            go_ret2
            exact ⟨by rw [HRE.out]; rfl, hide (by rw [HRE.out]; exact ⟨HR5.out.ma, HKP5.out, by unfold I64; omega⟩)⟩
  · as_aux_lemma =>
      have hl' : ((np : Int) == (na : Int)) = false := by rw [beq_eq_false_iff_ne]; omega
      rw [if_neg hlen] at HRE
      clear hlen hmm
      go_enter Tryz.func34, Tryz.ntmps34
      go_wp2_with fail
      go_ret2
      exact ⟨by rw [HRE.out]; rfl, hide (by rw [HRE.out]; exact ⟨HM.out.below HB0.out, Kp.of_below HB0.out HCN.out, by unfold I64; omega⟩)⟩

end Go.Proofs.YtbncnkfogkhoeabGreatDoor

/- Walks over package names: Target. -/
namespace Go.Proofs.YtbncnkfogkhoeabGreatDoor
open Go.RowKit

set_option maxHeartbeats 1000000 in
theorem ntarget_anyF (m : Nat) (w : World) (vi vv vf vk : Value) (x : Mo) (known : List Mo) (k : Nat) (call : ByteArray) (h : MoAt w m (.agg #[.string x.name, vi, vv, vf]) x) (hK : MosAt w m vk known) (hC : CapOK vf) (hk : k ≤ x.funs.length) (hc : call.size ≤ maxLen) (hli : x.imports.length ≤ 1048576) :
    Calls Tryz.prog 111 #[.agg #[.string x.name, vi, vv, vf], .int .i64 k, .string call, vk] w fun e w' => e = .returned (.tuple #[.int .i64 (Nm.ptgt x k call known).1, .int .i64 (Nm.ptgt x k call known).2.1, .bool (Nm.ptgt x k call known).2.2]) ∧ Below w.heap.size w w' := by
  have HM := hide h
  have HK := hide hK
  have HSC := hide (fun wx (hb : Below w.heap.size w wx) => newScope_any m wx _ _ _ _ x known (h.below hb) (hK.below hb) hli)
  have HST := hide (fun wx (hb : Below w.heap.size w wx) va (hI : Ints wx va (x.imports.map fun s => Nm.oI (Nm.moAt known s))) => starget_any m wx x known vi vv vf vk va k call ⟨h.below hb, hK.below hb, hI, hC⟩ hk hc)
  have HBX := fun i v hv => boxD w #[.string x.name, vi, vv, vf] 26 i v hv
  have r0 := HBX 0 _ rfl
  have r1 := HBX 1 _ rfl
  have r2 := HBX 2 _ rfl
  have r3 := HBX 3 _ rfl
  have HB0 := hide (boxBelow w (.cells #[.string x.name, vi, vv, vf] 26))
  obtain ⟨R, hR⟩ : ∃ R, R = Nm.ptgt x k call known := ⟨_, rfl⟩
  rw [← hR] at HST ⊢
  obtain ⟨hI, hV, hF⟩ := h.split
  obtain ⟨ai, bi, oi, ci, rfl, -⟩ := hI
  obtain ⟨av, bv, ov, cv, rfl, -⟩ := hV
  obtain ⟨af, bf, of, cf, rfl, -⟩ := hF
  obtain ⟨ak, bk, ok, ck, rfl, -⟩ := hK
  generalize x.imports.length = ni at *
  generalize x.vars.length = nv at *
  generalize x.funs.length = nf at *
  generalize known.length = nk at *
  clear h hC HBX hR
  go_enter Tryz.func111, Tryz.ntmps111
  go_wp2_with fail
  refine (HSC.out _ HB0.out).mono ?_
  rintro e w1 ⟨va, rfl, hints, hb1⟩
  have HIN := hide hints
  have HB1 := hide (up HB0.out hb1)
  clear r0 r1 r2 r3 hb1 hints
  go_wp2_with fail
  refine (HST.out _ HB1.out _ HIN.out).mono ?_
  rintro e w2 ⟨rfl, hb2⟩
  have HB2 := hide (up HB1.out hb2)
  clear hb2
  go_wp2_with fail
  go_ret3
  exact ⟨rfl, HB2.out⟩

theorem ntarget_any (m : Nat) (w : World) (vi vv vf vk : Value) (x : Mo) (known : List Mo) (k : Nat) (call : ByteArray) (h : MoAt w m (.agg #[.string x.name, vi, vv, vf]) x) (hK : MosAt w m vk known) (hC : MoCap w vi vf) (hk : k ≤ x.funs.length) (hc : call.size ≤ maxLen) (hli : x.imports.length ≤ 1048576) :
    Calls Tryz.prog 111 #[.agg #[.string x.name, vi, vv, vf], .int .i64 k, .string call, vk] w fun e w' => e = .returned (.tuple #[.int .i64 (Nm.ptgt x k call known).1, .int .i64 (Nm.ptgt x k call known).2.1, .bool (Nm.ptgt x k call known).2.2]) ∧ Below w.heap.size w w' :=
  ntarget_anyF m w vi vv vf vk x known k call h hK hC.fus hk hc hli

end Go.Proofs.YtbncnkfogkhoeabGreatDoor
