/- Walks over package run: do, where it prints. -/
import Derived.Test.YtholefgckcoklaaGreatDoorZBD
import Derived.Deep.RegionLaw
namespace Go.Proofs.YtholefgckcoklaaGreatDoor
open Go.RowKit Go.Maps
theorem Run.stay {W w w' : World} {c : Cfg} {nm : List (ByteArray × ByteArray)} {l : List Mo} {m : Nat} {s : Rn.Sta} {q a f om n : Nat} {o : Rn.Own} (hr : Run W w c nm l m s q a f om n o) {ob : Option Nat} (hk : Kp c ob w w') (hob : ob = none ∨ ob = some om) {k : Nat} {cs : Array Value} {t : TypeId} {fz : Nat × Nat} (ho : w.heap[k]? = some (.cells cs t fz))
    (ht : t ≠ 62) (h1 : t ≠ 227) (h2 : t ≠ 239) : w'.heap[k]? = some (.cells cs t fz) := by
  refine hk.cells hr.ma ho ht h1 h2 ?_
  rcases hob with rfl | rfl
  · simp
  · intro e
    injection e with e
    obtain ⟨es, cl, he⟩ := hr.ow.isMap
    rw [e, he] at ho
    cases ho
theorem stH_name8 {s : St} (h : Lat.stH s = true) (k : s.kind = 4) : s.name.size ≤ 8 := by
  unfold Lat.stH at h
  rw [if_pos (Or.inr k)] at h
  simp only [Bool.and_eq_true] at h
  have h1 := h.1.1
  unfold Lat.nameB at h1
  simp only [Bool.and_eq_true, decide_eq_true_eq] at h1
  have h2 := h1.1.2
  rw [Array.length_toList] at h2
  exact h2
theorem Rn.step_dO (nm : List (ByteArray × ByteArray)) (l : List Mo) (F : Rn.Fns) (a k : Nat) (o : Rn.Own) (c : St) (s : Rn.Sta) :
    (s.fuel = 0 → (Rn.step nm l F).dO a k o c s = (6, o, s)) ∧ (s.fuel ≠ 0 → (Rn.step nm l F).dO a k o c s =
      if c.kind = 3 then F.lp a k o c (Rn.burnS s)
      else if (F.ev a k o c.e (Rn.burnS s)).2.1 = 0 then
        if c.kind = 1 then (0, Rn.pt nm (Rn.mn l a) o c.name (F.ev a k o c.e (Rn.burnS s)).1 (F.ev a k o c.e (Rn.burnS s)).2.2)
        else if c.kind = 4 then (0, o, { (F.ev a k o c.e (Rn.burnS s)).2.2 with pr := (F.ev a k o c.e (Rn.burnS s)).2.2.pr ++ [(c.name, (F.ev a k o c.e (Rn.burnS s)).1)] })
        else if (F.ev a k o c.e (Rn.burnS s)).1 = 0 then Rn.dos (F.dO a k) c.b o (F.ev a k o c.e (Rn.burnS s)).2.2
        else Rn.dos (F.dO a k) c.a o (F.ev a k o c.e (Rn.burnS s)).2.2
      else ((F.ev a k o c.e (Rn.burnS s)).2.1, o, (F.ev a k o c.e (Rn.burnS s)).2.2)) := by
  refine ⟨fun h => ?_, fun h => ?_⟩
  · simp only [Rn.step, (Rn.burn_zero h).1]
  · simp only [Rn.step, (Rn.burn_pos h).1]
set_option maxHeartbeats 40000000 in
set_option maxRecDepth 100000 in
theorem do_print (W : World) (c : Cfg) (nm : List (ByteArray × ByteArray)) (l : List Mo) (m K : Nat) (F : Rn.Fns) (g : Nat) (hK : 2 ≤ K) (hLe : Rn.Le (·.fuel) F) (hTo : Rn.Le (fun s => s.pr.length + s.fuel) F) (hE : EvOk W c nm l m K F g)
    (w : World) (s : Rn.Sta) (q a f om n : Nat) (o : Rn.Own) (mm : Nat) (vs : Array Value) (st : St) (hR : Run W w c nm l m s q a f om n o) (hF : FunIn l a f) (hST : StV W mm st vs) (hSB : Lat.stB mm st = true) (hg : s.fuel * K + mm ≤ g + 1)
    (h0 : s.fuel ≠ 0) (h4 : st.kind = 4) (hv : (F.ev a f o st.e (Rn.burnS s)).2.1 = 0) :
    Calls Tryz.prog 203 #[.pointer (some ⟨q, 0, none⟩), .agg vs] w fun e w' => e = .returned (.int .i64 ((Rn.step nm l F).dO a f o st s).1) ∧ Hid (Aft w w' c nm s om n ((Rn.step nm l F).dO a f o st s).2) := by
  have H4 := hide h4
  have H0 := hide h0
  have HVV := hide hv
  clear h4 h0 hv
  obtain ⟨e0, e1, e2, e3, va, vb, rfl, hnm, hx, ha, hb⟩ := hST
  have HST : Hid (StV W mm st #[.int .i64 st.kind, .string st.name, e0, e1, e2, e3, va, vb]) := hide ⟨e0, e1, e2, e3, va, vb, rfl, hnm, hx, ha, hb⟩
  have HX := hide hx
  have HA := hide ha
  have HB := hide hb
  have HNM := hide hnm
  have HSB := hide hSB
  have HF := hide hF
  obtain ⟨xa, xc, rfl, rfl, rfl, rfl⟩ := hx.shape
  obtain ⟨aa, ac, rfl⟩ := ha.shapeN
  obtain ⟨ba, bc, rfl⟩ := hb.shapeN
  have HST2 := Rn.step_dO nm l F a f o st s
  obtain ⟨D, hDD⟩ : ∃ D, D = (Rn.step nm l F).dO a f o st s := ⟨_, rfl⟩
  rw [← hDD] at HST2 ⊢
  have HDV := hide HST2
  have hB1 : Lat.stH st = true ∧ Lat.exprB mm st.e = true ∧ Lat.bodyB mm st.a = true ∧ Lat.bodyB mm st.b = true := by
    unfold Lat.stB at hSB
    simp only [Bool.and_eq_true] at hSB
    exact ⟨hSB.1.1.1, hSB.1.1.2, hSB.1.2, hSB.2⟩
  have HB1 := hide hB1
  have HN8 : Hid (st.name.size ≤ 8) := hide (stH_name8 hB1.1 H4.out)
  have HG := hide hg
  generalize st.e.args.length = ne at *
  generalize st.a.length = na at *
  generalize st.b.length = nb at *
  have HR0 := hide (hR.box (.cells #[.int .i64 st.kind, .string st.name, .int .i64 st.e.kind, .int .i64 st.e.n, .string st.e.name, .slice xa ne xc, .slice aa na ac, .slice ba nb bc] 119))
  have HBX0 := hide (block_new w (.cells #[.int .i64 st.kind, .string st.name, .int .i64 st.e.kind, .int .i64 st.e.n, .string st.e.name, .slice xa ne xc, .slice aa na ac, .slice ba nb bc] 119))
  have HNE := hide hR.nle
  have HRM := hide hR.ma.room
  obtain ⟨r0, r1, r2, r3⟩ := HR0.out.fr.cell
  have HCB := hide (burn_any _ c nm s HR0.out.ma)
  clear hDD HST2 hB1 hg hSB hF hnm hx ha hb r1 r2 r3 hR
  go_enter Tryz.func203, Tryz.ntmps203
  go_wp2_with fail
  refine HCB.out.mono ?_
  rintro e w1 ⟨rfl, HMK⟩
  have HS1 : Hid ((Rn.burnS s).fuel ≤ s.fuel) := hide (Nat.sub_le _ _)
  have HR1 := hide (HR0.out.ev HMK.out.1 HMK.out.2 HS1.out)
  have HA1 := hide ((HR0.out.aft HMK.out.1 HMK.out.2 HS1.out).box HNE.out)
  have HBX1 := hide (HR0.out.stay HMK.out.2 (Or.inl rfl) HBX0.out (by decide) (by decide) (by decide))
  obtain ⟨B, hBw⟩ : ∃ b, b = w.heap.size := ⟨_, rfl⟩
  rw [← hBw] at HBX1 ⊢
  clear r0 HBX0 HR0 HCB HMK hBw
  have h0 := H0.out
  have HV := hide (HDV.out.2 h0)
  rw [(Rn.burn_pos h0).2]
  have HFU : Hid ((Rn.burnS s).fuel * K + K + mm ≤ g + 1) := hide (by
    have h1 := HG.out
    have h2 : (Rn.burnS s).fuel + 1 = s.fuel := by show s.fuel - 1 + 1 = s.fuel; omega
    have h3 : ((Rn.burnS s).fuel + 1) * K = (Rn.burnS s).fuel * K + K := Nat.succ_mul _ _
    rw [h2] at h3
    omega)
  have HFB : Hid ((Rn.burnS s).fuel + 1 ≤ s.fuel) := hide (by show s.fuel - 1 + 1 ≤ s.fuel; omega)
  have HTT : Hid ((Rn.burnS s).pr.length + (Rn.burnS s).fuel + 1 ≤ 16777215) := hide (by
    have h1 := HR1.out.ma.room
    have h2 : (Rn.burnS s).fuel + 1 = s.fuel := by show s.fuel - 1 + 1 = s.fuel; omega
    have h3 := HG.out
    have h4 := HRM.out
    show s.pr.length + (Rn.burnS s).fuel + 1 ≤ 16777215
    omega)
  clear h0 HDV
  obtain ⟨s1, hs1⟩ : ∃ s1, s1 = Rn.burnS s := ⟨_, rfl⟩
  have HS1E := hide hs1
  rw [← hs1] at HV HR1 HA1 HFU HTT HS1 HFB
  clear hs1
  have b0 := (block_at HBX1.out 0).trans rfl
  have b1 := (block_at HBX1.out 1).trans rfl
  have b2 := (block_at HBX1.out 2).trans rfl
  have b3 := (block_at HBX1.out 3).trans rfl
  have b4 := (block_at HBX1.out 4).trans rfl
  have b5 := (block_at HBX1.out 5).trans rfl
  have b6 := (block_at HBX1.out 6).trans rfl
  have b7 := (block_at HBX1.out 7).trans rfl
  have h4 := H4.out
  have h3' : (st.kind == 3) = false := by simp [h4]
  have h1' : (st.kind == 1) = false := by simp [h4]
  have h4' : (st.kind == 4) = true := by simp [h4]
  rw [if_neg (by omega)] at HV
  clear h4
  have HC := hide (hE w1 s1 q a f om n o mm _ _ _ _ st.e HR1.out HF.out HX.out HB1.out.2.1 (by have := HFU.out; omega))
  obtain ⟨V, hVV⟩ : ∃ V, V = F.ev a f o st.e s1 := ⟨_, rfl⟩
  have HVL : Hid (V.2.2.fuel ≤ s1.fuel ∧ V.2.2.pr.length + V.2.2.fuel ≤ s1.pr.length + s1.fuel) := hide (by rw [hVV]; exact ⟨hLe.1 a f o st.e s1, hTo.1 a f o st.e s1⟩)
  rw [← hVV] at HC HV
  have HVZ : Hid (V.2.1 = 0) := hide (by rw [hVV, HS1E.out]; exact HVV.out)
  clear hVV
  go_wp2_with fail
  refine HC.out.mono ?_
  rintro e w2 ⟨rfl, HM2⟩
  have HR2 := hide (HR1.out.ev HM2.out.1 HM2.out.2.1 HVL.out.1)
  have HA2 := hide (HA1.out.trans (HR1.out.aft HM2.out.1 HM2.out.2.1 HVL.out.1) (show n + s1.fuel ≤ n + s.fuel by have := HS1.out; omega))
  have HBX2 := hide (HR1.out.stay HM2.out.2.1 (Or.inl rfl) HBX1.out (by decide) (by decide) (by decide))
  have HI2 := hide HM2.out.2.2
  clear b0 b1 b2 b3 b4 b5 b6 b7 HBX1 HC HM2
  have b0 := (block_at HBX2.out 0).trans rfl
  have b1 := (block_at HBX2.out 1).trans rfl
  have b6 := (block_at HBX2.out 6).trans rfl
  have b7 := (block_at HBX2.out 7).trans rfl
  have h4 := H4.out
  rw [if_pos HVZ.out, if_neg (by omega), if_pos h4] at HV
  clear h4
  rw [HVZ.out]
  obtain ⟨x2, hx2⟩ : ∃ x, x = V.1 := ⟨_, rfl⟩
  obtain ⟨s2, hs2⟩ : ∃ x, x = V.2.2 := ⟨_, rfl⟩
  rw [← hx2, ← hs2] at HV
  rw [← hx2] at HI2 ⊢
  rw [← hs2] at HR2 HA2 HVL
  clear hx2 hs2
  obtain ⟨r0, r1, r2, r3⟩ := HR2.out.fr.cell
  obtain ⟨vp, hp, hown⟩ := HR2.out.ma.mach
  obtain ⟨pa, pc, rfl⟩ := hown.form
  have c4 := (block_at hp 4).trans rfl
  have HOP := hide hown
  have HMP := hide hp
  have HLE : Hid (s2.pr.length + 1 + s2.fuel ≤ 16777215) := hide (by have := HTT.out; have := HVL.out.2; omega)
  have HNL := hide HR2.out.nle
  obtain ⟨pl, hpl⟩ : ∃ k, k = s2.pr.length := ⟨_, rfl⟩
  have HPL := hide hpl
  rw [← hpl] at c4 HOP HMP
  have zq : q < w2.heap.size := block_lt HR2.out.fr.2
  have zp : c.p < w2.heap.size := block_lt hp
  have zB : B < w2.heap.size := block_lt HBX2.out
  clear r1 r2 r3 hp hown hpl
  go_wp2_with fail
  go_region_law (first
    | (refine step_append_K (At := PrC) (by rfl) _ _ 49 62 2 24 _ (by rfl) Tryz.underlying49 infoPr (by decide) (by decide) (by decide) c.n _ s2.pr (by rfl) (HOP.out.below (by repeat (first | exact boxBelow _ _ | apply below_drew1))) _ [.string st.name, .int .i64 x2] (st.name, x2) (by rfl) (fun j u hu => (by have hj := (List.getElem?_eq_some_iff.1 hu).1; simp at hj; obtain rfl | rfl : j = 0 ∨ j = 1 := (by omega); all_goals (simp at hu; subst hu; simp [go_sem]))) rfl (PrC.one (d := (st.name, x2)) rfl) rfl (by have := HLE.out; omega) (Nat.le_trans HNL.out (boxBelow w2 (.cells #[.string st.name, .int .i64 x2] 62)).size) ?_; intro g' cap w7 hown7 hgrow7; have HPU := hide (MaAt.push (w := w2.drew) (ob := (.cells #[.string st.name, .int .i64 x2] 62)) (HR2.out.ma.below (below_drew1 (Below.refl _ _))) HMP.out (HOP.out.below (below_drew1 (Below.refl _ _))) hown7 hgrow7 HLE.out HNL.out HN8.out); have u4 := (block_at HPU.out.1 4).trans rfl; have z4 := block_free HPU.out.1 4; have r07 := (block_at (HPU.out.2.2.2 HR2.out.fr.2 (by decide)) 0).trans rfl; clear hown7 hgrow7)
    | fail)
  all_goals
    go_wp2_with fail
    go_ret
    refine ⟨by rw [HV.out]; rfl, hide ?_⟩
    rw [HV.out]
    have hk := HA2.out.kp.trans (((Kp.refl c none w2).drewN 1).trans HPU.out.2.2.1).more
    exact ⟨HPU.out.2.1, hk, ⟨n, HR2.out.ow.keep (((Kp.refl c none w2).drewN 1).trans HPU.out.2.2.1) HR2.out.ma (by simp), by have h1 := HS1.out; have h2 := HVL.out.1; show n + s2.fuel ≤ n + s.fuel; omega⟩, HR2.out.oi, by have h1 := HS1.out; have h2 := HVL.out.1; show s2.fuel ≤ s.fuel; omega⟩
end Go.Proofs.YtholefgckcoklaaGreatDoor
