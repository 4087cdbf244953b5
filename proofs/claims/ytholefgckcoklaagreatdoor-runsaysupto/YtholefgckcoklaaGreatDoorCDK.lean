/- Walks over package downref: body. -/
import Derived.Test.YtholefgckcoklaaGreatDoorZBK
import Derived.Test.YtholefgckcoklaaGreatDoorZBM
import Derived.Test.YtholefgckcoklaaGreatDoorZBF
import Derived.Deep.CutBlock
import Derived.Test.YtholefgckcoklaaGreatDoorZAX
namespace Go.Proofs.YtholefgckcoklaaGreatDoor
open Go.RowKit
theorem Rn.body_round (nm : List (ByteArray × ByteArray)) (l : List Mo) (g' gE a f : Nat) (o : Rn.Own) (st : St) (s : Rn.Sta) (V : Int × Int × Rn.Sta) (DD : Int × Rn.Own × Rn.Sta) (hk : (st.kind = 3 ∧ g' = gE + 1) ∨ (st.kind ≠ 3 ∧ g' = gE)) (hf : s.fuel ≠ 0) (hV : V = (Rn.M nm l gE).ev a f o st.e (Rn.burnS s)) (hD : DD = (Rn.M nm l (g' + 1)).dO a f o st s) :
    (V.2.1 ≠ 0 → DD = (V.2.1, o, V.2.2)) ∧
    (V.2.1 = 0 → st.kind = 1 → DD = (0, Rn.pt nm (Rn.mn l a) o st.name V.1 V.2.2)) ∧
    (V.2.1 = 0 → st.kind = 4 → DD = (0, o, { V.2.2 with pr := V.2.2.pr ++ [(st.name, V.1)] })) ∧
    (V.2.1 = 0 → st.kind = 2 → DD = if V.1 = 0 then Rn.dos ((Rn.M nm l gE).dO a f) st.b o V.2.2 else Rn.dos ((Rn.M nm l gE).dO a f) st.a o V.2.2) ∧
    (V.2.1 = 0 → st.kind = 3 → V.1 = 0 → DD = (0, o, V.2.2)) ∧
    (V.2.1 = 0 → st.kind = 3 → V.1 ≠ 0 → DD = if (Rn.dos ((Rn.M nm l gE).dO a f) st.a o V.2.2).1 = 0 then (Rn.M nm l (gE + 1)).dO a f (Rn.dos ((Rn.M nm l gE).dO a f) st.a o V.2.2).2.1 st (Rn.dos ((Rn.M nm l gE).dO a f) st.a o V.2.2).2.2 else Rn.dos ((Rn.M nm l gE).dO a f) st.a o V.2.2) := by
  have h1 := (Rn.step_dO nm l (Rn.M nm l g') a f o st s).2 hf
  have hD' : DD = (Rn.step nm l (Rn.M nm l g')).dO a f o st s := hD
  rw [h1] at hD'
  rcases hk with ⟨h3, rfl⟩ | ⟨h3, rfl⟩
  · rw [if_pos h3] at hD'
    have h2 := Rn.step_lp nm l (Rn.M nm l gE) a f o st (Rn.burnS s)
    rw [← hV] at h2
    have hD2 : DD = (Rn.step nm l (Rn.M nm l gE)).lp a f o st (Rn.burnS s) := hD'
    rw [← hD2] at h2
    refine ⟨fun hv => h2.1 (Or.inl hv), fun _ e => by omega, fun _ e => by omega, fun _ e => by omega, fun hv _ h0 => by rw [h2.1 (Or.inr h0), hv], fun hv _ h0 => ?_⟩
    obtain ⟨k1, k2, k3⟩ := h2.2 hv h0
    by_cases he : (Rn.dos ((Rn.M nm l gE).dO a f) st.a o V.2.2).1 = 0
    · rw [if_pos he]
      by_cases hf0 : (Rn.dos ((Rn.M nm l gE).dO a f) st.a o V.2.2).2.2.fuel = 0
      · rw [k2 he hf0]
        exact ((Rn.step_dO nm l (Rn.M nm l gE) a f _ st _).1 hf0).symm
      · rw [k3 he hf0]
        have h4 := (Rn.step_dO nm l (Rn.M nm l gE) a f (Rn.dos ((Rn.M nm l gE).dO a f) st.a o V.2.2).2.1 st (Rn.dos ((Rn.M nm l gE).dO a f) st.a o V.2.2).2.2).2 hf0
        rw [if_pos h3] at h4
        exact h4.symm
    · rw [if_neg he]
      exact k1 he
  · rw [if_neg h3, ← hV] at hD'
    exact ⟨fun hv => by rw [hD', if_neg hv], fun hv h => by rw [hD', if_pos hv, if_pos h], fun hv h => by rw [hD', if_pos hv, if_neg (by omega), if_pos h], fun hv h => by rw [hD', if_pos hv, if_neg (by omega), if_neg (by omega)], fun _ h => absurd h h3, fun _ h => absurd h h3⟩
def fuelD (c : Dc) (w : World) : Nat := match w.cell? ⟨c.p, 6, none⟩ with
  | some (.int _ k) => k.toNat
  | _ => 0
theorem DoM.fuelD {w : World} {c : Dc} {nm : List (ByteArray × ByteArray)} {s : Rn.Sta} {vp vd : Value} {D : List ByteArray} (h : DoM w c nm s vp vd D) : Go.Proofs.YtholefgckcoklaaGreatDoor.fuelD c w = s.fuel := by
  obtain ⟨_, _, _, _, c6, _⟩ := h.cell
  unfold Go.Proofs.YtholefgckcoklaaGreatDoor.fuelD
  rw [c6]
  simp
structure Rnd (W wx w : World) (c : Dc) (nm : List (ByteArray × ByteArray)) (l : List Mo) (m : Nat) (vp vd : Value) (q a : Nat) (x : Mo) (f : Nat) (vns vvs : Value) (B : Nat) (box : Obj) (s6 : Rn.Sta) (vp6 vd6 : Value) (D6 : List ByteArray) (ns6 : List ByteArray) (vals6 : List Int) (vns6 vvs6 : Value) : Prop where
  run : DRun W wx c nm l m s6 vp6 vd6 D6 q a x f ns6 vals6 vns6 vvs6
  kb : Kb c q vp vd vns vvs w vp6 vd6 vns6 vvs6 wx
  box : wx.heap[B]? = some box
theorem stH_cases {st : St} (h : Lat.stH st = true) : (st.kind = 1 ∧ st.a = []) ∨ (st.kind = 4 ∧ st.a = [] ∧ st.name.size ≤ 8) ∨ st.kind = 2 ∨ st.kind = 3 := by
  by_cases k4 : st.kind = 4
  · refine Or.inr (Or.inl ⟨k4, ?_, stH_name8 h k4⟩)
    unfold Lat.stH at h
    rw [if_pos (Or.inr k4)] at h
    simp only [Bool.and_eq_true, beq_iff_eq] at h
    exact List.length_eq_zero_iff.1 h.2
  · unfold Lat.stH at h
    by_cases k1 : st.kind = 1
    · rw [if_pos (Or.inl k1)] at h
      simp only [Bool.and_eq_true, beq_iff_eq] at h
      exact Or.inl ⟨k1, List.length_eq_zero_iff.1 h.2⟩
    · rw [if_neg (by omega)] at h
      by_cases k2 : st.kind = 2
      · exact Or.inr (Or.inr (Or.inl k2))
      · rw [if_neg k2] at h
        by_cases k3 : st.kind = 3
        · exact Or.inr (Or.inr (Or.inr k3))
        · rw [if_neg k3] at h
          cases h
theorem Kb.box {W w w' : World} {c : Dc} {nm : List (ByteArray × ByteArray)} {l : List Mo} {m : Nat} {s : Rn.Sta} {vp vd vp' vd' vns' vvs' : Value} {D : List ByteArray} {q a : Nat} {x : Mo} {f : Nat} {ns : List ByteArray} {vals : List Int} {vns vvs : Value} (h : Kb c q vp vd vns vvs w vp' vd' vns' vvs' w') (hR : DRun W w c nm l m s vp vd D q a x f ns vals vns vvs) {B : Nat} {cs : Array Value}
    (hb : w.heap[B]? = some (.cells cs 119 (0, 0))) : w'.heap[B]? = some (.cells cs 119 (0, 0)) := by
  obtain ⟨vi, vv, vf, hq, _⟩ := hR.on.blk
  refine h.block _ _ hb (hR.dm.cold hb (by decide) (by decide) (by decide) (by decide)) (block_ne hb hq (by decide)) (fun e => ?_) (fun e => ?_)
  · obtain ⟨cur, hc⟩ := row_typ hR.on.nrow e
    exact block_ne hb hc (by decide) rfl
  · obtain ⟨cur, hc⟩ := row_typ hR.on.vrow e
    exact block_ne hb hc (by decide) rfl
theorem stsNil (W : World) {mm : Nat} (h : mm ≠ 0) : StsAt W mm (.slice none 0 0) [] := by
  cases mm with
  | zero => exact absurd rfl h
  | succ k => exact ⟨none, 0, 0, 0, rfl, fun h => absurd h (by simp), by simp, fun i s hs => by simp at hs⟩
theorem bodyNil {mm : Nat} (h : mm ≠ 0) : Lat.bodyB mm [] = true := by
  cases mm with
  | zero => exact absurd rfl h
  | succ k => rfl
theorem pushed {W w w7 w8 : World} {c : Dc} {nm : List (ByteArray × ByteArray)} {l : List Mo} {m : Nat} {s : Rn.Sta} {vp vd : Value} {D : List ByteArray} {q a : Nat} {x : Mo} {f : Nat} {ns : List ByteArray} {vals : List Int} {vns vvs : Value} {n : ByteArray} {u : Int} {nn g7 g8 c7 c8 : Nat} (h : DRun W w c nm l m s vp vd D q a x f ns vals vns vvs) (hn : ns.length = nn) (hv : vals.length = nn)
    (h7 : ∃ wp, Below w.heap.size w wp ∧ wp.grownBy w7 vns.ownBlock ∧ (vns.ownBlock = some g7 ∨ g7 = wp.heap.size)) (hN : w7.ownsRow c.n 9 1 (.slice (some ⟨g7, 0, none⟩) (nn + 1) c7) (nn + 1) (ns.map Value.string ++ [.string n]))
    (h8 : ∃ wq, Below w7.heap.size w7 wq ∧ wq.grownBy w8 vvs.ownBlock ∧ (vvs.ownBlock = some g8 ∨ g8 = wq.heap.size)) (hV : w8.ownsRow c.n 3 1 (.slice (some ⟨g8, 0, none⟩) (nn + 1) c8) (nn + 1) (vals.map (Value.int .i64) ++ [.int .i64 u]))
    (hmi : Rn.mineB x f n = true) (hsz : n.size ≤ maxLen) (hu : I64 u) (hlim : nn + 1 + s.fuel ≤ 20000) :
    (∀ ob, w.heap[q]? = some ob → w8.heap[q]? = some ob) ∧
    DRun W ((w8.setCell ⟨q, 5, none⟩ (.slice (some ⟨g7, 0, none⟩) (nn + 1) c7)).setCell ⟨q, 6, none⟩ (.slice (some ⟨g8, 0, none⟩) (nn + 1) c8)) c nm l m s vp vd D q a x f (ns ++ [n]) (vals ++ [u]) (.slice (some ⟨g7, 0, none⟩) (nn + 1) c7) (.slice (some ⟨g8, 0, none⟩) (nn + 1) c8) ∧
    Kb c q vp vd vns vvs w vp vd (.slice (some ⟨g7, 0, none⟩) (nn + 1) c7) (.slice (some ⟨g8, 0, none⟩) (nn + 1) c8) ((w8.setCell ⟨q, 5, none⟩ (.slice (some ⟨g7, 0, none⟩) (nn + 1) c7)).setCell ⟨q, 6, none⟩ (.slice (some ⟨g8, 0, none⟩) (nn + 1) c8)) := by
  obtain ⟨wp, hb, hg, hl⟩ := h7
  obtain ⟨wq, hb2, hg2, hl2⟩ := h8
  refine h.push hb hg ?_ hl hb2 hg2 ?_ hl2 hmi hsz hu (by omega)
  · unfold Own
    rw [List.length_append, List.map_append, hn]
    exact hN
  · unfold OwnI
    rw [List.length_append, List.map_append, hv]
    exact hV
set_option maxHeartbeats 20000000 in
set_option maxRecDepth 100000 in
theorem dbody_step (W : World) (c : Dc) (nm : List (ByteArray × ByteArray)) (l : List Mo) (m K : Nat) (g : Nat) (hK : 2 ≤ K) (hE : ∀ g', g' ≤ g → EvD W c nm l m K (Rn.M nm l g') g') (hB : ∀ g', g' ≤ g → BoD W c nm l m K (Rn.M nm l g') g') :
    BoD W c nm l m K (Rn.M nm l (g + 1)) (g + 1) := by
  intro w s vp vd D q a x f ns vals vns vvs mm vb b hR hS hBB hg
  obtain ⟨m', rfl⟩ : ∃ m', mm = m' + 1 := by
    cases mm with
    | zero => exact absurd hS (fun h => h)
    | succ k => exact ⟨k, rfl⟩
  obtain ⟨ad, bb, off, cap, rfl, h0, hl, h1⟩ := hS
  have HEL := hide h1
  have HAD := hide h0
  have HR0 := hide hR
  have HEE := hide hE
  have HBD := hide hB
  have HW := hide hBB
  have HG := hide hg
  obtain ⟨nl, hnl⟩ : ∃ n, n = b.length := ⟨_, rfl⟩
  have HNL := hide hnl
  rw [← hnl] at hl HAD ⊢
  obtain ⟨R, hRR⟩ : ∃ R, R = Rn.dos ((Rn.M nm l (g + 1)).dO a f) b (Rn.own0 ns vals) s := ⟨_, rfl⟩
  have HRR := hide hRR
  rw [← hRR]
  clear hRR hnl h0 h1 hR hE hB hBB hg
  go_enter Tryz.func149, Tryz.ntmps149
  go_wp2_with fail
  go_loopw [7] (fun i wx => ∃ t : Nat, t ≤ nl ∧ i = .int .i64 t ∧ ∃ (s' : Rn.Sta) (vp' vd' : Value) (D' : List ByteArray) (ns' : List ByteArray) (vals' : List Int) (vns' vvs' : Value), Hid (DRun W wx c nm l m s' vp' vd' D' q a x f ns' vals' vns' vvs' ∧ Kb c q vp vd vns vvs w vp' vd' vns' vvs' wx ∧ R = Rn.dos ((Rn.M nm l (g + 1)).dO a f) (b.drop t) (Rn.own0 ns' vals') s' ∧ s'.fuel ≤ s.fuel)) (fun i _ => nl - (intOf i).toNat)
  case atStart => exact ⟨0, Nat.zero_le _, rfl, s, vp, vd, D, ns, vals, vns, vvs, hide ⟨HR0.out, Kb.of (Kq.refl _ _ _ _) q vns vvs, by rw [List.drop_zero]; exact HRR.out, Nat.le_refl _⟩⟩
  case round =>
    obtain ⟨t, ht, rfl, s', vp', vd', D', ns', vals', vns', vvs', HI⟩ := hrel
    by_cases htl : t < nl
    · obtain ⟨st, hst⟩ : ∃ st, b[t]? = some st := ⟨_, List.getElem?_eq_getElem (by rw [← HNL.out]; exact htl)⟩
      obtain ⟨-, hnm, e0, e1, e2, e3, va, vb, g0, g1, g2, g3, g4, g5, g6, g7, hx, ha, hb⟩ := HEL.out t st hst
      obtain rfl := HAD.out (by omega)
      replace g0 := cellUp g0 HI.out.1.bel
      replace g1 := cellUp g1 HI.out.1.bel
      replace g2 := cellUp g2 HI.out.1.bel
      replace g3 := cellUp g3 HI.out.1.bel
      replace g4 := cellUp g4 HI.out.1.bel
      replace g5 := cellUp g5 HI.out.1.bel
      replace g6 := cellUp g6 HI.out.1.bel
      replace g7 := cellUp g7 HI.out.1.bel
      have HX := hide hx
      have HA := hide ha
      have HB := hide hb
      have HNM := hide hnm
      have HSB : Hid (Lat.stB m' st = true) := hide (by
        have := HW.out
        rw [Lat.bodyB_succ, List.all_eq_true] at this
        exact this st (List.mem_of_getElem? hst))
      have HB1 : Hid (Lat.stH st = true ∧ Lat.exprB m' st.e = true ∧ Lat.bodyB m' st.a = true ∧ Lat.bodyB m' st.b = true) := hide (by
        have hSB := HSB.out
        unfold Lat.stB at hSB
        simp only [Bool.and_eq_true] at hSB
        exact ⟨hSB.1.1.1, hSB.1.1.2, hSB.1.2, hSB.2⟩)
      have HM0 : Hid (m' ≠ 0) := hide (fun e => by subst e; exact absurd hx (fun h => h))
      have HAT := hide (dos_at (f := (Rn.M nm l (g + 1)).dO a f) hst (Rn.own0 ns' vals') s')
      obtain ⟨xa, xc, rfl, rfl, rfl, rfl⟩ := hx.shape
      obtain ⟨aa, ac, rfl⟩ := ha.shapeN
      obtain ⟨ba, bc, rfl⟩ := hb.shapeN
      generalize st.e.args.length = ne at *
      generalize st.a.length = na at *
      generalize st.b.length = nb at *
      obtain ⟨DD, hDD⟩ : ∃ D, D = (Rn.M nm l (g + 1)).dO a f (Rn.own0 ns' vals') st s' := ⟨_, rfl⟩
      have HDD := hide hDD
      rw [← hDD] at HAT
      have HRD : Hid ((DD.1 ≠ 0 → R = DD) ∧ (DD.1 = 0 → R = Rn.dos ((Rn.M nm l (g + 1)).dO a f) (b.drop (t + 1)) DD.2.1 DD.2.2)) := hide (by
        rw [HI.out.2.2.1, HAT.out]
        exact ⟨fun h => if_neg h, fun h => if_pos h⟩)
      obtain ⟨wo, rfl⟩ : ∃ wo, wo = wr := ⟨_, rfl⟩
      obtain ⟨W4, hW4⟩ : ∃ W4, W4 = wo.alloc (.cells #[.int .i64 st.kind, .string st.name, .int .i64 st.e.kind, .int .i64 st.e.n, .string st.e.name, .slice xa ne xc, .slice aa na ac, .slice ba nb bc] 119) := ⟨_, rfl⟩
      obtain ⟨B, hBw⟩ : ∃ b, b = wo.heap.size := ⟨_, rfl⟩
      have hb4 : Below wo.heap.size wo W4 := by rw [hW4]; exact boxBelow _ _
      have HR4 := hide (HI.out.1.box hb4)
      have HK4 := hide (HI.out.2.1.trans (Kb.of (Kq.of_below (vp := vp') (vd := vd') hb4 HI.out.1.dm.nle) q vns' vvs'))
      have HBX4 : Hid (W4.heap[B]? = some (.cells #[.int .i64 st.kind, .string st.name, .int .i64 st.e.kind, .int .i64 st.e.n, .string st.e.name, .slice xa ne xc, .slice aa na ac, .slice ba nb bc] 119 (0, 0))) := hide (by rw [hW4, hBw]; exact block_new _ _)
      have HGS : Hid (s'.fuel * K + (m' + 1) ≤ g + 1) := hide (by
        have h1 := HG.out
        have h3 : s'.fuel * K ≤ s.fuel * K := Nat.mul_le_mul_right K HI.out.2.2.2
        omega)
      have HSF : Hid (s'.fuel ≤ s.fuel) := hide HI.out.2.2.2
      clear hst hnm hx ha hb hDD hb4 HAT HRR HI
      go_wp2_with fail
      rw [← hW4, ← hBw]
      clear hW4 hBw g0 g1 g2 g3 g4 g5 g6 g7
      go_loopw [9] (fun _ wx => ∃ (g' : Nat) (s2 : Rn.Sta) (vp2 vd2 : Value) (D2 : List ByteArray) (ns2 : List ByteArray) (vals2 : List Int) (vns2 vvs2 : Value), Hid (Rnd W wx w c nm l m vp vd q a x f vns vvs B (.cells #[.int .i64 st.kind, .string st.name, .int .i64 st.e.kind, .int .i64 st.e.n, .string st.e.name, .slice xa ne xc, .slice aa na ac, .slice ba nb bc] 119 (0, 0)) s2 vp2 vd2 D2 ns2 vals2 vns2 vvs2 ∧
          DD = (Rn.M nm l (g' + 1)).dO a f (Rn.own0 ns2 vals2) st s2 ∧ g' ≤ g ∧ s2.fuel * K + (m' + 1) ≤ g' + 1 ∧ s2.fuel ≤ s.fuel)) (fun _ wx => fuelD c wx)
      case atStart => exact ⟨g, s', vp', vd', D', ns', vals', vns', vvs', hide ⟨⟨HR4.out, HK4.out, HBX4.out⟩, HDD.out, Nat.le_refl _, HGS.out, HSF.out⟩⟩
      case round =>
        obtain ⟨g', s2, vp2, vd2, D2, ns2, vals2, vns2, vvs2, HJ⟩ := hrel
        clear HR4 HK4 HBX4 HDD HGS HSF
        obtain ⟨w1, rfl⟩ : ∃ w1, w1 = wr := ⟨_, rfl⟩
        obtain ⟨-, -, -, -, d6, -, -, y6⟩ := HJ.out.1.run.dm.cell
        have hroom := HJ.out.1.run.dm.room
        obtain ⟨fu, hfu⟩ : ∃ n, n = s2.fuel := ⟨_, rfl⟩
        rw [← hfu] at d6
        by_cases h0 : fu = 0
        · as_aux_lemma =>
            have HV : Hid (DD = (6, Rn.own0 ns2 vals2, s2)) := hide (by
              rw [HJ.out.2.1]
              exact (Rn.step_dO nm l (Rn.M nm l g') a f (Rn.own0 ns2 vals2) st s2).1 (by omega))
            have HRV : Hid (R = (6, Rn.own0 ns2 vals2, s2)) := hide (by rw [HRD.out.1 (by rw [HV.out]; simp), HV.out])
            subst h0
            clear hfu
            go_wp2_with fail
            go_ret
            exact ⟨by rw [HRV.out]; rfl, hide (by rw [HRV.out]; exact ⟨vp2, vd2, D2, ns2, vals2, vns2, vvs2, HJ.out.1.run, rfl, HJ.out.1.kb⟩)⟩
        · obtain ⟨k, rfl⟩ : ∃ k, fu = k + 1 := ⟨fu - 1, by omega⟩
          have hk : k + 1 ≤ 16777215 := by omega
          have hz : (((k + 1 : Nat) : Int) == 0) = false := by rw [beq_eq_false_iff_ne]; omega
          have hfl := HJ.out.1.run.dm.fuel (f := k) (by omega)
          have HR2 := hide (HJ.out.1.run.ev hfl.1 ⟨HJ.out.1.run.dk.once, HJ.out.1.run.dk.mem⟩ hfl.2 (show k ≤ s2.fuel by omega))
          have HK2 := hide (HJ.out.1.kb.trans (Kb.of hfl.2 q vns2 vvs2))
          have HBX2 := hide ((Kb.of hfl.2 q vns2 vvs2).box HJ.out.1.run HJ.out.1.box)
          obtain ⟨gE, hgE⟩ : ∃ gE, (st.kind = 3 ∧ g' = gE + 1) ∨ (st.kind ≠ 3 ∧ g' = gE) := by
            have h1 := HJ.out.2.2.2.1
            rw [← hfu, Nat.succ_mul] at h1
            by_cases h3 : st.kind = 3
            · exact ⟨g' - 1, Or.inl ⟨h3, by omega⟩⟩
            · exact ⟨g', Or.inr ⟨h3, rfl⟩⟩
          have HGE : Hid (gE ≤ g ∧ k * K + m' + 1 ≤ gE + 1 ∧ k * K + m' ≤ gE ∧ (st.kind = 3 → gE + 1 = g' ∧ k * K + m' + 1 ≤ gE)) := hide (by
            have h1 := HJ.out.2.2.2.1
            have h2 := HJ.out.2.2.1
            rw [← hfu, Nat.succ_mul] at h1
            rcases hgE with ⟨h3, h4⟩ | ⟨h3, h4⟩
            · exact ⟨by omega, by omega, by omega, fun _ => ⟨by omega, by omega⟩⟩
            · exact ⟨by omega, by omega, by omega, fun h => absurd h h3⟩)
          obtain ⟨s3, hs3⟩ : ∃ z, z = ({ s2 with fuel := k } : Rn.Sta) := ⟨_, rfl⟩
          have HS3 : Hid (s3.fuel = k ∧ s3.fuel + 1 = s2.fuel ∧ s3.pr = s2.pr) := hide (by rw [hs3]; exact ⟨rfl, hfu, rfl⟩)
          obtain ⟨V, hVV⟩ : ∃ V, V = (Rn.M nm l gE).ev a f (Rn.own0 ns2 vals2) st.e s3 := ⟨_, rfl⟩
          have HBR := hide (Rn.body_round nm l g' gE a f (Rn.own0 ns2 vals2) st s2 V DD hgE (by omega) (by rw [hVV, show Rn.burnS s2 = s3 by rw [hs3]; unfold Rn.burnS; rw [← hfu]; rfl]) HJ.out.2.1)
          have HVL : Hid (V.2.2.fuel ≤ s3.fuel ∧ V.2.2.pr.length + V.2.2.fuel ≤ s3.pr.length + s3.fuel) := hide (by rw [hVV]; exact ⟨(Rn.M_le nm l gE).1 a f _ st.e s3, (Rn.M_tot nm l gE).1 a f _ st.e s3⟩)
          rw [← hs3] at HR2
          have HC := hide (HEE.out gE HGE.out.1 _ s3 vp2 vd2 D2 q a x f ns2 vals2 vns2 vvs2 m' _ _ _ _ st.e HR2.out HX.out HB1.out.2.1 (by rw [HS3.out.1]; exact HGE.out.2.2.1))
          rw [← hVV] at HC
          have HRM : Hid (s2.pr.length + s2.fuel ≤ 10000) := hide hroom
          have HLM : Hid (ns2.length + s2.fuel ≤ 20000) := hide HJ.out.1.run.lim
          have HLS : Hid (s2.fuel ≤ s.fuel) := hide HJ.out.2.2.2.2
          have b2 := (block_at HBX2.out 2).trans rfl
          have b3 := (block_at HBX2.out 3).trans rfl
          have b4 := (block_at HBX2.out 4).trans rfl
          have b5 := (block_at HBX2.out 5).trans rfl
          obtain ⟨w2, hw2⟩ : ∃ w2, w2 = w1.setCell ⟨c.p, 6, none⟩ (.int .i64 (k : Nat)) := ⟨_, rfl⟩
          rw [← hw2] at HR2 HK2 HBX2 HC
          have HMF := hide HJ.out.1.run.dm.fuelD
          clear hfl hs3 hVV hfu hroom h0 hgE HJ
          go_wp2_with fail
          rw [← hw2]
          refine HC.out.mono ?_
          rintro r w5 ⟨rfl, HM5⟩
          clear hw2 d6 y6 b2 b3 b4 b5 HC hk hz
          obtain ⟨⟨vp5, vd5, D5, hm5, hd5, hk5⟩, hi5⟩ := HM5.out
          have HR5 := hide (HR2.out.ev hm5 hd5 hk5 HVL.out.1)
          have HK5 := hide (HK2.out.trans (Kb.of hk5 q vns2 vvs2))
          have HBX5 := hide ((Kb.of hk5 q vns2 vvs2).box HR2.out HBX2.out)
          have HI5 := hide hi5
          clear hm5 hd5 hk5 hi5 HM5 HR2 HK2 HBX2
          by_cases hv : V.2.1 = 0
          · have HVZ := hide hv
            rw [hv]
            clear hv
            obtain ⟨x5, hx5⟩ : ∃ x, x = V.1 := ⟨_, rfl⟩
            obtain ⟨s5, hs5⟩ : ∃ x, x = V.2.2 := ⟨_, rfl⟩
            rw [← hx5] at HI5 HBR ⊢
            rw [← hs5] at HR5 HVL HBR
            clear hx5 hs5
            have b0 := (block_at HBX5.out 0).trans rfl
            have b1 := (block_at HBX5.out 1).trans rfl
            have b6 := (block_at HBX5.out 6).trans rfl
            have b7 := (block_at HBX5.out 7).trans rfl
            go_upto_block 4 with fail
            go_cut [11] from 25 to 166 (fun nx wx => ∃ (s6 : Rn.Sta) (vp6 vd6 : Value) (D6 : List ByteArray) (ns6 : List ByteArray) (vals6 : List Int) (vns6 vvs6 : Value) (bl : List St), Hid (Rnd W wx w c nm l m vp vd q a x f vns vvs B (.cells #[.int .i64 st.kind, .string st.name, .int .i64 st.e.kind, .int .i64 st.e.n, .string st.e.name, .slice xa ne xc, .slice aa na ac, .slice ba nb bc] 119 (0, 0)) s6 vp6 vd6 D6 ns6 vals6 vns6 vvs6 ∧
              StsAt W m' nx bl ∧ Lat.bodyB m' bl = true ∧ s6.fuel ≤ s3.fuel ∧ (DD = if (Rn.dos ((Rn.M nm l gE).dO a f) bl (Rn.own0 ns6 vals6) s6).1 = 0 ∧ st.kind = 3 ∧ x5 ≠ 0 then (Rn.M nm l (gE + 1)).dO a f (Rn.dos ((Rn.M nm l gE).dO a f) bl (Rn.own0 ns6 vals6) s6).2.1 st (Rn.dos ((Rn.M nm l gE).dO a f) bl (Rn.own0 ns6 vals6) s6).2.2 else Rn.dos ((Rn.M nm l gE).dO a f) bl (Rn.own0 ns6 vals6) s6)))
            case first =>
              rename_i Q1 K1 a3 Q0 h0 K0 a2 J0 K2 a1 a0
              clear a3 a2
              have HNK : Hid (∀ o6 s6, DD = (0, o6, s6) → st.a = [] → st.kind ≠ 3 → DD = if (Rn.dos ((Rn.M nm l gE).dO a f) st.a o6 s6).1 = 0 ∧ st.kind = 3 ∧ x5 ≠ 0 then (Rn.M nm l (gE + 1)).dO a f (Rn.dos ((Rn.M nm l gE).dO a f) st.a o6 s6).2.1 st (Rn.dos ((Rn.M nm l gE).dO a f) st.a o6 s6).2.2 else Rn.dos ((Rn.M nm l gE).dO a f) st.a o6 s6) := hide (fun o6 s6 h1 h2 h3 => by
                rw [if_neg (fun h => h3 h.2.1), h2, h1]
                rfl)
              rcases stH_cases HB1.out.1 with ⟨h1, hnil⟩ | ⟨h4, hnil, h8⟩ | h2 | h3
              · as_aux_lemma =>
                  have HNA := hide hnil
                  have h1' : (st.kind == 1) = true := by simp [h1]
                  have HDV := hide (HBR.out.2.1 HVZ.out h1)
                  have HN3 : Hid (st.kind ≠ 3) := hide (by omega)
                  have HSH := hide (HR5.out.sh st.name)
                  have HC := hide (dmine_any W w5 c m x q f ns2 vals2 vns2 vvs2 st.name HR5.out.on HR5.out.bel HR5.out.hf (by have := HR5.out.lim; omega))
                  obtain ⟨at', hat⟩ : ∃ z, z = Rn.lastTo ns2 st.name ns2.length := ⟨_, rfl⟩
                  obtain ⟨mb, hmb⟩ : ∃ z, z = Rn.mineB x f st.name := ⟨_, rfl⟩
                  rw [← hat, ← hmb] at HC
                  rw [← hmb] at HSH
                  have HAT := hide hat
                  have HMB := hide hmb
                  rw [HR5.out.mn] at HDV
                  clear h1 hnil hat hmb b0 b6 b7
                  go_wp2_with fail
                  refine HC.out.mono ?_
                  rintro r w6 ⟨rfl, hb6⟩
                  have HR6 := hide (HR5.out.box hb6)
                  have HK6 := hide (HK5.out.trans (Kb.of (Kq.of_below (vp := vp5) (vd := vd5) hb6 HR5.out.dm.nle) q vns2 vvs2))
                  have HBX6 := hide (at_upD HBX5.out hb6)
                  clear hb6 HC b1 HR5 HK5 HBX5
                  have b1 := (block_at HBX6.out 1).trans rfl
                  obtain ⟨p0, p6⟩ := HR6.out.own_cell
                  cases mb
                  · as_aux_lemma =>
                      obtain ⟨i, hp, hsh⟩ := HSH.out.2 rfl
                      have hi := pos_lt hp
                      obtain ⟨v, hv⟩ : ∃ v, s5.vs[i]? = some v := ⟨_, List.getElem?_eq_getElem (by rw [HR6.out.dm.lens]; exact hi)⟩
                      have HRV : Hid (DD = (0, Rn.own0 ns2 vals2, { s5 with vs := s5.vs.modify i fun v => { v with val := x5, st := true } })) := hide (by
                        rw [HDV.out]
                        unfold Rn.pt
                        rw [hsh])
                      have hnx := Rn.pos_some hp
                      have hsz : x.name.size ≤ 8 ∧ st.name.size ≤ 8 := HR6.out.dm.nms _ (List.mem_of_getElem? hnx)
                      have HCE : Hid (∀ ex, Rn.ceAt (Rn.sto nm s5.vs ++ ex) x.name st.name = some i) := hide (fun ex => ce_pos HR6.out.dm.lens hp)
                      have HGT : Hid ((c.tot nm s5)[i]? = some ⟨x.name, st.name, v.val⟩) := hide (HR6.out.dm.tot_get hnx hv)
                      have HDK := hide (HR6.out.dk.write x5 hnx hv)
                      have HNX := hide hnx
                      have HVI := hide hv
                      have HDI := hide (fun w7 (hb : Below w6.heap.size w6 w7) => ddid_any w7 c nm s5 vp5 vd5 D5 (Rn.tag 119 (x.name, st.name)) (HR6.out.dm.below hb) (tag_size hsz.1 hsz.2) (HR6.out.dm.dlt HR6.out.dk))
                      have HTG : Hid (Rn.tag 119 (x.name, st.name) = (((⟨#[119, 58]⟩ : ByteArray) ++ x.name) ++ ⟨#[46]⟩) ++ st.name) := hide rfl
                      rw [HTG.out] at HDI HDK
                      have k1 : (9223372036854775807 < 2 + x.name.size) = False := eq_false (by have := hsz.1; omega)
                      have k2 : (9223372036854775807 < 2 + x.name.size + 1) = False := eq_false (by have := hsz.1; omega)
                      have k3 : (9223372036854775807 < 2 + x.name.size + 1 + st.name.size) = False := eq_false (by have := hsz.1; have := hsz.2; omega)
                      clear hp hsh hi hv hnx hsz HSH HDV p6
                      replace p0 := cell_gn p0
                      replace b1 := cell_gn b1
                      go_wp2_with fail
                      refine wp_region_tail_gn 11 (by kernel_rfl) (by kernel_rfl) ?_
                      dsimp only [List.take, List.drop]
                      repeat (quiet_step (fail))
                      refine wpQuiet_nil ?_
                      intro w7 hw'
                      obtain ⟨⟨nq, osq⟩, hw''⟩ := hw'
                      have HB7 := hide (show Below w6.heap.size w6 w7 by rw [hw'']; exact below_gn w6 nq osq)
                      clear hw'' p0 b1
                      go_wp2_with fail
                      refine (HDI.out w7 HB7.out).mono ?_
                      rintro r w8 ⟨rfl, vd8, hm8, hk8⟩
                      have HM8 := hide hm8
                      have HON8 := hide (HR6.out.on.below HB7.out |>.keep (HR6.out.dm.below HB7.out) HR6.out.sep hk8).1
                      have HBX8 := hide (hk8.block _ _ (at_upD HBX6.out HB7.out) ((HR6.out.dm.below HB7.out).cold (at_upD HBX6.out HB7.out) (by decide) (by decide) (by decide) (by decide)))
                      have HK8 := hide ((Kq.of_below (vp := vp5) (vd := vd5) HB7.out HR6.out.dm.nle).trans hk8)
                      clear hm8 hk8 HDI
                      obtain ⟨-, c1, -⟩ := HM8.out.cell
                      obtain ⟨cap, hvc, -⟩ := HM8.out.ce HGT.out
                      have hlen := tot_len HM8.out
                      have hil : i < (c.tot nm s5).length := (List.getElem?_eq_some_iff.1 HGT.out).1
                      have HDC := hide (fun k os => dcell_any (gn w8 k os) c nm s5 vp5 vd8 _ x.name st.name (HM8.out.below (below_gn w8 k os)))
                      rw [show Nm.oI (Rn.ceAt (c.tot nm s5) x.name st.name) = (i : Int) by rw [show Rn.ceAt (c.tot nm s5) x.name st.name = some i from HCE.out _]; rfl] at HDC
                      generalize (c.tot nm s5).length = nt at *
                      rw [hvc] at c1
                      obtain ⟨vi, vv, vf, hown, -⟩ := HON8.out.blk
                      have p0 := (block_at hown 0).trans rfl
                      have b1 := (block_at HBX8.out 1).trans rfl
                      have hii : (i : Int) < (nt : Int) := by omega
                      clear hown hvc
                      replace p0 := cell_gn p0
                      replace b1 := cell_gn b1
                      replace c1 := cell_gn c1
                      go_wp2_with fail
                      refine wp_region_tail_gn 16 (by kernel_rfl) (by kernel_rfl) ?_
                      dsimp only [List.take, List.drop]
                      repeat (quiet_step (first | (exact Calls.gn_of' (HDC.out _ _))))
                      refine wpQuiet_nil ?_
                      intro w9 hw'
                      obtain ⟨⟨nq9, osq9⟩, hw''⟩ := hw'
                      have HB9 := hide (show Below w8.heap.size w8 w9 by rw [hw'']; exact below_gn w8 nq9 osq9)
                      clear hw'' p0 b1 c1
                      obtain ⟨-, -, -, -, g2, y2⟩ := (HM8.out.below HB9.out).ce HGT.out
                      have HWR := hide ((HM8.out.below HB9.out).write HNX.out HVI.out HI5.out)
                      go_wp2_with fail
                      go_meet
                      case rel =>
                        have hK := (HK8.out.trans (Kq.of_below HB9.out HM8.out.nle)).trans HWR.out.2
                        refine ⟨_, _, _, _, _, _, _, _, st.a, hide ⟨⟨HR6.out.ev HWR.out.1 HDK.out hK (Nat.le_refl _), HK6.out.trans (Kb.of hK q vns2 vvs2), (Kb.of hK q vns2 vvs2).box HR6.out HBX6.out⟩, HA.out, HB1.out.2.2.1, HVL.out.1, HNK.out _ _ HRV.out HNA.out HN3.out⟩⟩
                  · have HRV : Hid (DD = (0, Rn.put (Rn.own0 ns2 vals2) st.name x5, s5)) := hide (by
                      rw [HDV.out]
                      unfold Rn.pt
                      rw [HSH.out.1 rfl])
                    have hr := Rn.lastTo_range ns2 st.name ns2.length
                    rw [← HAT.out] at hr
                    by_cases hneg : at' < 0
                    · as_aux_lemma =>
                        obtain ⟨va5, vc5, hvns⟩ := HR6.out.on.nrow.formD
                        obtain ⟨va6, vc6, hvvs⟩ : ∃ a cc, vvs2 = .slice a vals2.length cc := by
                          rcases HR6.out.on.vrow.2 with ⟨e, e2⟩ | ⟨g, cap, cur, e, _⟩
                          · exact ⟨none, 0, by rw [e, e2]⟩
                          · exact ⟨_, _, e⟩
                        obtain ⟨nn, hnn⟩ : ∃ n, n = ns2.length := ⟨_, rfl⟩
                        have HLV : Hid (vals2.length = nn) := hide (by rw [hnn, HR6.out.on.len])
                        rw [HLV.out] at hvvs
                        rw [← hnn] at hvns
                        have HLN : Hid (ns2.length = nn) := hide hnn.symm
                        obtain ⟨vi, vv, vf, hown, -⟩ := HR6.out.on.blk
                        subst hvns hvvs
                        have HOB := hide hown
                        have HLIM : Hid (nn + 1 + s5.fuel ≤ 20000) := hide (by
                          have h1 := HR6.out.lim
                          have h2 := HVL.out.1
                          have h3 := HS3.out.2.1
                          have h4 := HLM.out
                          omega)
                        have hnq : (Value.slice va5 nn vc5).ownBlock ≠ some q := fun e => by
                          obtain ⟨cur, hc⟩ := row_typ HR6.out.on.nrow e
                          exact block_ne HOB.out hc (by decide) rfl
                        have HROWN : Hid (∀ wx, Below w6.heap.size w6 wx → wx.ownsRow c.n 9 1 (.slice va5 nn vc5) nn (ns2.map Value.string)) := hide (fun wx hb => by have := own_below HR6.out.on.nrow hb; rw [HLN.out] at this; exact this)
                        have HBASE : Hid (∀ wx, Below w6.heap.size w6 wx → c.n ≤ wx.heap.size) := hide (fun wx hb => Nat.le_trans HR6.out.dm.nle hb.size)
                        have HK7 : Hid (∀ wp w7, Below w6.heap.size w6 wp → wp.grownBy w7 (Value.slice va5 nn vc5).ownBlock → w7.heap[q]? = some (.cells #[.string x.name, vi, vv, vf, .int .i64 f, .slice va5 nn vc5, .slice va6 nn vc6] 243 (0, 0)) ∧ w7.ownsRow c.n 3 1 (.slice va6 nn vc6) nn (vals2.map (Value.int .i64)) ∧ c.n ≤ w7.heap.size ∧ w7.heap[B]? = some (.cells #[.int .i64 st.kind, .string st.name, .int .i64 st.e.kind, .int .i64 st.e.n, .string st.e.name, .slice xa ne xc, .slice aa na ac, .slice ba nb bc] 119 (0, 0)) ∧
                            ∀ ib, w6.heap.size ≤ ib → wp.cell? ⟨ib, 0, none⟩ = some (.int .i64 x5) → w7.cell? ⟨ib, 0, none⟩ = some (.int .i64 x5)) := hide (fun wp w7 hb hg => by
                          have hkk := grown_keep hb hg
                          refine ⟨hkk q _ HOB.out hnq, ?_, Nat.le_trans (Nat.le_trans HR6.out.dm.nle hb.size) hg.size, hkk B _ HBX6.out (fun e => by
                            obtain ⟨cur, hc⟩ := row_typ HR6.out.on.nrow e
                            exact block_ne HBX6.out hc (by decide) rfl), fun ib hge hib => ?_⟩
                          · have h1 : OwnI w7 c.n (.slice va6 nn vc6) vals2 := row_same HR6.out.on.vrow (fun k ob hk ho => hkk k ob ho (fun e => by
                              obtain ⟨c1, h1⟩ := row_typ HR6.out.on.nrow e
                              obtain ⟨c2, h2⟩ := row_typ HR6.out.on.vrow hk
                              exact block_ne h1 h2 (by decide) rfl))
                            have h2 : w7.ownsRow c.n 3 1 (.slice va6 nn vc6) vals2.length (vals2.map (Value.int .i64)) := h1
                            rw [HLV.out] at h2
                            exact h2
                          · have hlt : ib < wp.heap.size := World.block_lt_of_cell? _ _ hib
                            have hne : (Value.slice va5 nn vc5).ownBlock ≠ some ib := fun e => by
                              have := (World.ownsRow.lt HR6.out.on.nrow ib e).2
                              omega
                            rw [World.cell?_of_block (w := wp) (hg.block ib hlt (fun e => hne e.symm))]
                            exact hib)
                        obtain ⟨iS, hiS, hz0, hz1, hz2⟩ := info_parts infoStr
                        obtain ⟨iI, hiI, hi0, hi1, hi2⟩ := info_parts infoInt
                        have q5 := (block_at hown 5).trans rfl
                        have q6 := (block_at hown 6).trans rfl
                        have zq : q < w6.heap.size := block_lt hown
                        have zB : B < w6.heap.size := block_lt HBX6.out
                        have HMI : Hid (Rn.mineB x f st.name = true) := hide HMB.out.symm
                        clear hr hown hnn hnq p0 p6 HDV HSH
                        go_wp2_with fail
                        refine wp_region_mask [some false, some false, some false, some false, some false, some true, some false, some true, none, none, some false, some false, some false, some true, some false, none, none, none, none, none, none, none, none] 17 (fun w' => w'.cell? ⟨q, 5, none⟩ = some (.slice va5 nn vc5) ∧ w'.cell? ⟨q, 6, none⟩ = some (.slice va6 nn vc6) ∧ w'.cell? ⟨B, 1, none⟩ = some (.string st.name)) 10 (by kernel_rfl) (by kernel_rfl) (fun _ _ d _ _ h => (by cases d <;> exact h)) ⟨q5, q6, b1⟩ ?_
                        dsimp only [maskOps]
                        refine wpPlain_T (v := ?_) (by rfl) ?_ ?_
                        rotate_left 1
                        · (intro w; go_simp; try (with_reducible rfl))
                        simp only [Act.put, List.setIfInBounds_toArray, List.set_cons_zero, List.set_cons_succ]
                        refine wpPlain_T (v := ?_) (by rfl) ?_ ?_
                        rotate_left 1
                        · (intro w; go_simp; try (with_reducible rfl))
                        simp only [Act.put, List.setIfInBounds_toArray, List.set_cons_zero, List.set_cons_succ]
                        refine wpPlain_T (v := ?_) (by rfl) ?_ ?_
                        rotate_left 1
                        · (intro w; go_simp; try (with_reducible rfl))
                        simp only [Act.put, List.setIfInBounds_toArray, List.set_cons_zero, List.set_cons_succ]
                        refine wpPlain_T (v := ?_) (by rfl) ?_ ?_
                        rotate_left 1
                        · (intro w; go_simp; try (with_reducible rfl))
                        simp only [Act.put, List.setIfInBounds_toArray, List.set_cons_zero, List.set_cons_succ]
                        refine wpPlain_T (v := ?_) (by rfl) ?_ ?_
                        rotate_left 1
                        · (intro w; go_simp; try (with_reducible rfl))
                        simp only [Act.put, List.setIfInBounds_toArray, List.set_cons_zero, List.set_cons_succ]
                        refine wpPlain_S (v := ?_) (by rfl) ?_ ?_
                        rotate_left 1
                        · (intro w hSw; go_simp; try (with_reducible rfl))
                        simp only [Act.put, List.setIfInBounds_toArray, List.set_cons_zero, List.set_cons_succ]
                        refine wpPlain_T (v := ?_) (by rfl) ?_ ?_
                        rotate_left 1
                        · (intro w; go_simp; try (with_reducible rfl))
                        simp only [Act.put, List.setIfInBounds_toArray, List.set_cons_zero, List.set_cons_succ]
                        refine wpPlain_S (v := ?_) (by rfl) ?_ ?_
                        rotate_left 1
                        · (intro w hSw; go_simp; try (with_reducible rfl))
                        simp only [Act.put, List.setIfInBounds_toArray, List.set_cons_zero, List.set_cons_succ]
                        refine wpPlain_T (v := ?_) (by rfl) ?_ ?_
                        rotate_left 1
                        · (intro w; go_simp; try (with_reducible rfl))
                        simp only [Act.put, List.setIfInBounds_toArray, List.set_cons_zero, List.set_cons_succ]
                        refine wpPlain_T (v := ?_) (by rfl) ?_ ?_
                        rotate_left 1
                        · (intro w; go_simp; try (with_reducible rfl))
                        simp only [Act.put, List.setIfInBounds_toArray, List.set_cons_zero, List.set_cons_succ]
                        refine wpPlain_T (v := ?_) (by rfl) ?_ ?_
                        rotate_left 1
                        · (intro w; go_simp; try (with_reducible rfl))
                        simp only [Act.put, List.setIfInBounds_toArray, List.set_cons_zero, List.set_cons_succ]
                        refine wpPlain_S (v := ?_) (by rfl) ?_ ?_
                        rotate_left 1
                        · (intro w hSw; go_simp; try (with_reducible rfl))
                        simp only [Act.put, List.setIfInBounds_toArray, List.set_cons_zero, List.set_cons_succ]
                        refine wpPlain_T (v := ?_) (by rfl) ?_ ?_
                        rotate_left 1
                        · (intro w; go_simp; try (with_reducible rfl))
                        simp only [Act.put, List.setIfInBounds_toArray, List.set_cons_zero, List.set_cons_succ]
                        refine wpPlain_nil ?_
                        refine wpAnyG_two (i := 8) (k := 15) (by kernel_rfl) (by rfl) (by rfl) (fun K hK => ?_) (fun K hK => ?_)
                        · go_simp
                          refine hK.out _ _ (fun _ => ⟨cellUp q5 (by repeat (first | exact Below.refl _ _ | apply below_drew1 | apply below_al)), cellUp q6 (by repeat (first | exact Below.refl _ _ | apply below_drew1 | apply below_al)), cellUp b1 (by repeat (first | exact Below.refl _ _ | apply below_drew1 | apply below_al))⟩) ?_
                          clear hK K
                          refine wpAnyG_two (i := 9) (k := 15) (by kernel_rfl) (by rfl) (by rfl) (fun K hK => ?_) (fun K hK => ?_)
                          · refine step_append_lies _ (by rfl) _ _ 22 (by rfl) c.n 9 iS (.string ⟨#[]⟩) 1 16 Tryz.underlying22 hiS hz0 hz1 hz2 rfl (by decide) (.slice va5 nn vc5) nn (ns2.map Value.string) (by rfl) (HROWN.out _ (by repeat (first | exact Below.refl _ _ | apply below_drew1 | apply below_al))) ⟨_, 0, none⟩ 1 1 [.string st.name] (by rfl) (by rfl) (fun j u hu => (by have hj := (List.getElem?_eq_some_iff.1 hu).1; simp at hj; obtain rfl : j = 0 := (by omega); simp at hu; subst hu; rw [Addr.add_lit]; simp [go_sem])) (fun u hu => by simp at hu; subst hu; rfl) (by decide) (by have := HLIM.out; unfold maxLen; omega) (by have := HLIM.out; omega) (HBASE.out _ (by repeat (first | exact Below.refl _ _ | apply below_drew1 | apply below_al))) _ rfl ?_
                            intro g7 cap7 w7 hown7 hgrow7 hlie7 hlt7
                            have HX7 := hide (HK7.out _ w7 (by repeat (first | exact Below.refl _ _ | apply below_drew1 | apply below_al)) hgrow7)
                            have HG7 : Hid (∃ wp, Below w6.heap.size w6 wp ∧ wp.grownBy w7 (Value.slice va5 nn vc5).ownBlock ∧ ((Value.slice va5 nn vc5).ownBlock = some g7 ∨ g7 = wp.heap.size)) := hide ⟨_, (by repeat (first | exact Below.refl _ _ | apply below_drew1 | apply below_al)), hgrow7, hlie7⟩
                            have HN7 := hide hown7
                            have p57 := (block_at HX7.out.1 5).trans rfl
                            have p67 := (block_at HX7.out.1 6).trans rfl
                            have b17 := (block_at HX7.out.2.2.2.1 1).trans rfl
                            clear hown7 hgrow7 hlie7 hlt7
                            refine hK.out _ _ (fun _ => ⟨p57, p67, b17⟩) ?_
                            clear hK K
                            simp only [Act.put, List.setIfInBounds_toArray]
                            refine wpAnyG_one (i := 15) (by kernel_rfl) (by rfl) (fun K hK => ?_)
                            go_simp
                            refine hK.out _ _ (fun _ => ⟨cellUp p57 (by repeat (first | exact Below.refl _ _ | apply below_drew1 | apply below_al)), cellUp p67 (by repeat (first | exact Below.refl _ _ | apply below_drew1 | apply below_al)), cellUp b17 (by repeat (first | exact Below.refl _ _ | apply below_drew1 | apply below_al))⟩) ?_
                            clear hK K
                            refine wpAnyG_one (i := 16) (by kernel_rfl) (by rfl) (fun K hK => ?_)
                            refine step_append_lies _ (by rfl) _ _ 47 (by rfl) c.n 3 iI (.int .i64 0) 1 8 Tryz.underlying47 hiI hi0 hi1 hi2 rfl (by decide) (.slice va6 nn vc6) nn (vals2.map (Value.int .i64)) (by rfl) (own_below HX7.out.2.1 (by repeat (first | exact Below.refl _ _ | apply below_drew1 | apply below_al))) ⟨_, 0, none⟩ 1 1 [.int .i64 x5] (by rfl) (by rfl) (fun j u hu => (by have hj := (List.getElem?_eq_some_iff.1 hu).1; simp at hj; obtain rfl : j = 0 := (by omega); simp at hu; subst hu; rw [Addr.add_lit]; first | (simp [go_sem]; done) | exact HX7.out.2.2.2.2 _ (by simp) (by simp [go_sem]))) (fun u hu => by simp at hu; subst hu; rfl) (by decide) (by have := HLIM.out; unfold maxLen; omega) (by have := HLIM.out; omega) (by have := HX7.out.2.2.1; first | exact this | exact Nat.le_trans this (boxBelow _ _).size) _ rfl ?_
                            intro g8 cap8 w8 hown8 hgrow8 hlie8 hlt8
                            have HG8 : Hid (∃ wq, Below w7.heap.size w7 wq ∧ wq.grownBy w8 (Value.slice va6 nn vc6).ownBlock ∧ ((Value.slice va6 nn vc6).ownBlock = some g8 ∨ g8 = wq.heap.size)) := hide ⟨_, (by repeat (first | exact Below.refl _ _ | apply below_drew1 | apply below_al)), hgrow8, hlie8⟩
                            have HN8 := hide hown8
                            have HPU := hide (pushed HR6.out HLN.out HLV.out HG7.out HN7.out HG8.out HN8.out HMI.out HNM.out HI5.out HLIM.out)
                            have p5 := (block_at (HPU.out.1 _ HOB.out) 5).trans rfl
                            have y5 := block_free (HPU.out.1 _ HOB.out) 5
                            have p6 := (block_at (HPU.out.1 _ HOB.out) 6).trans rfl
                            have b18 := (block_at (grown_keep (w := w7) (by repeat (first | exact Below.refl _ _ | apply below_drew1 | apply below_al)) hgrow8 B _ HX7.out.2.2.2.1 (fun e => (by obtain ⟨cur, hc⟩ := row_typ HX7.out.2.1 e; exact block_ne HX7.out.2.2.2.1 hc (by decide) rfl))) 1).trans rfl
                            have p6' := (block_at (block_set (HPU.out.1 _ HOB.out) 5 (.slice (some ⟨g7, 0, none⟩) (nn + 1) cap7)) 6).trans rfl
                            have y6 := block_free (block_set (HPU.out.1 _ HOB.out) 5 (.slice (some ⟨g7, 0, none⟩) (nn + 1) cap7)) 6
                            clear hown8 hgrow8 hlie8 hlt8
                            refine hK.out _ _ (fun _ => ⟨p5, p6, b18⟩) ?_
                            clear hK K
                            simp only [Act.put, List.setIfInBounds_toArray]
                            refine wpAnyG_one (i := 17) (by kernel_rfl) (by rfl) (fun K hK => ?_)
                            go_simp
                            refine hK.out _ _ (fun h => absurd (h.symm.trans (by kernel_rfl)) Bool.false_ne_true) ?_
                            clear hK K
                            refine wpAnyG_one (i := 18) (by kernel_rfl) (by rfl) (fun K hK => ?_)
                            go_simp
                            refine hK.out _ _ (fun h => absurd (h.symm.trans (by kernel_rfl)) Bool.false_ne_true) ?_
                            clear hK K
                            refine wpAnyG_one (i := 19) (by kernel_rfl) (by rfl) (fun K hK => ?_)
                            go_simp
                            refine hK.out _ _ (fun h => absurd (h.symm.trans (by kernel_rfl)) Bool.false_ne_true) ?_
                            clear hK K
                            refine wpAnyG_one (i := 20) (by kernel_rfl) (by rfl) (fun K hK => ?_)
                            go_simp
                            refine hK.out _ _ (fun h => absurd (h.symm.trans (by kernel_rfl)) Bool.false_ne_true) ?_
                            clear hK K
                            refine wpAnyG_one (i := 21) (by kernel_rfl) (by rfl) (fun K hK => ?_)
                            go_simp
                            refine hK.out _ _ (fun h => absurd (h.symm.trans (by kernel_rfl)) Bool.false_ne_true) ?_
                            clear hK K
                            refine wpAnyG_one (i := 22) (by kernel_rfl) (by rfl) (fun K hK => ?_)
                            go_simp
                            refine hK.out _ _ (fun h => absurd (h.symm.trans (by kernel_rfl)) Bool.false_ne_true) ?_
                            clear hK K
                            refine wpAnyG_done (by kernel_rfl) ?_ _
                            go_wp2_with fail
                            go_meet
                            case rel =>
                              refine ⟨_, _, _, _, _, _, _, _, st.a, hide ⟨⟨HPU.out.2.1, HK6.out.trans HPU.out.2.2, HPU.out.2.2.box HR6.out HBX6.out⟩, HA.out, HB1.out.2.2.1, HVL.out.1, HNK.out _ _ (by rw [HRV.out, Rn.own0_snoc (by rw [HLN.out, HLV.out])]) HNA.out HN3.out⟩⟩
                          · go_simp
                            refine hK.out _ _ (fun _ => ⟨cellUp q5 (by repeat (first | exact Below.refl _ _ | apply below_drew1 | apply below_al)), cellUp q6 (by repeat (first | exact Below.refl _ _ | apply below_drew1 | apply below_al)), cellUp b1 (by repeat (first | exact Below.refl _ _ | apply below_drew1 | apply below_al))⟩) ?_
                            clear hK K
                            refine wpAnyG_one (i := 9) (by kernel_rfl) (by rfl) (fun K hK => ?_)
                            refine step_append_lies _ (by rfl) _ _ 22 (by rfl) c.n 9 iS (.string ⟨#[]⟩) 1 16 Tryz.underlying22 hiS hz0 hz1 hz2 rfl (by decide) (.slice va5 nn vc5) nn (ns2.map Value.string) (by rfl) (HROWN.out _ (by repeat (first | exact Below.refl _ _ | apply below_drew1 | apply below_al))) ⟨_, 0, none⟩ 1 1 [.string st.name] (by rfl) (by rfl) (fun j u hu => (by have hj := (List.getElem?_eq_some_iff.1 hu).1; simp at hj; obtain rfl : j = 0 := (by omega); simp at hu; subst hu; rw [Addr.add_lit]; simp [go_sem])) (fun u hu => by simp at hu; subst hu; rfl) (by decide) (by have := HLIM.out; unfold maxLen; omega) (by have := HLIM.out; omega) (HBASE.out _ (by repeat (first | exact Below.refl _ _ | apply below_drew1 | apply below_al))) _ rfl ?_
                            intro g7 cap7 w7 hown7 hgrow7 hlie7 hlt7
                            have HX7 := hide (HK7.out _ w7 (by repeat (first | exact Below.refl _ _ | apply below_drew1 | apply below_al)) hgrow7)
                            have HG7 : Hid (∃ wp, Below w6.heap.size w6 wp ∧ wp.grownBy w7 (Value.slice va5 nn vc5).ownBlock ∧ ((Value.slice va5 nn vc5).ownBlock = some g7 ∨ g7 = wp.heap.size)) := hide ⟨_, (by repeat (first | exact Below.refl _ _ | apply below_drew1 | apply below_al)), hgrow7, hlie7⟩
                            have HN7 := hide hown7
                            have p57 := (block_at HX7.out.1 5).trans rfl
                            have p67 := (block_at HX7.out.1 6).trans rfl
                            have b17 := (block_at HX7.out.2.2.2.1 1).trans rfl
                            clear hown7 hgrow7 hlie7 hlt7
                            refine hK.out _ _ (fun _ => ⟨p57, p67, b17⟩) ?_
                            clear hK K
                            simp only [Act.put, List.setIfInBounds_toArray]
                            refine wpAnyG_one (i := 16) (by kernel_rfl) (by rfl) (fun K hK => ?_)
                            refine step_append_lies _ (by rfl) _ _ 47 (by rfl) c.n 3 iI (.int .i64 0) 1 8 Tryz.underlying47 hiI hi0 hi1 hi2 rfl (by decide) (.slice va6 nn vc6) nn (vals2.map (Value.int .i64)) (by rfl) (own_below HX7.out.2.1 (by repeat (first | exact Below.refl _ _ | apply below_drew1 | apply below_al))) ⟨_, 0, none⟩ 1 1 [.int .i64 x5] (by rfl) (by rfl) (fun j u hu => (by have hj := (List.getElem?_eq_some_iff.1 hu).1; simp at hj; obtain rfl : j = 0 := (by omega); simp at hu; subst hu; rw [Addr.add_lit]; first | (simp [go_sem]; done) | exact HX7.out.2.2.2.2 _ (by simp) (by simp [go_sem]))) (fun u hu => by simp at hu; subst hu; rfl) (by decide) (by have := HLIM.out; unfold maxLen; omega) (by have := HLIM.out; omega) (by have := HX7.out.2.2.1; first | exact this | exact Nat.le_trans this (boxBelow _ _).size) _ rfl ?_
                            intro g8 cap8 w8 hown8 hgrow8 hlie8 hlt8
                            have HG8 : Hid (∃ wq, Below w7.heap.size w7 wq ∧ wq.grownBy w8 (Value.slice va6 nn vc6).ownBlock ∧ ((Value.slice va6 nn vc6).ownBlock = some g8 ∨ g8 = wq.heap.size)) := hide ⟨_, (by repeat (first | exact Below.refl _ _ | apply below_drew1 | apply below_al)), hgrow8, hlie8⟩
                            have HN8 := hide hown8
                            have HPU := hide (pushed HR6.out HLN.out HLV.out HG7.out HN7.out HG8.out HN8.out HMI.out HNM.out HI5.out HLIM.out)
                            have p5 := (block_at (HPU.out.1 _ HOB.out) 5).trans rfl
                            have y5 := block_free (HPU.out.1 _ HOB.out) 5
                            have p6 := (block_at (HPU.out.1 _ HOB.out) 6).trans rfl
                            have b18 := (block_at (grown_keep (w := w7) (by repeat (first | exact Below.refl _ _ | apply below_drew1 | apply below_al)) hgrow8 B _ HX7.out.2.2.2.1 (fun e => (by obtain ⟨cur, hc⟩ := row_typ HX7.out.2.1 e; exact block_ne HX7.out.2.2.2.1 hc (by decide) rfl))) 1).trans rfl
                            have p6' := (block_at (block_set (HPU.out.1 _ HOB.out) 5 (.slice (some ⟨g7, 0, none⟩) (nn + 1) cap7)) 6).trans rfl
                            have y6 := block_free (block_set (HPU.out.1 _ HOB.out) 5 (.slice (some ⟨g7, 0, none⟩) (nn + 1) cap7)) 6
                            clear hown8 hgrow8 hlie8 hlt8
                            refine hK.out _ _ (fun _ => ⟨p5, p6, b18⟩) ?_
                            clear hK K
                            simp only [Act.put]
                            refine wpAnyG_one (i := 17) (by kernel_rfl) (by rfl) (fun K hK => ?_)
                            go_simp
                            refine hK.out _ _ (fun h => absurd (h.symm.trans (by kernel_rfl)) Bool.false_ne_true) ?_
                            clear hK K
                            refine wpAnyG_one (i := 18) (by kernel_rfl) (by rfl) (fun K hK => ?_)
                            go_simp
                            refine hK.out _ _ (fun h => absurd (h.symm.trans (by kernel_rfl)) Bool.false_ne_true) ?_
                            clear hK K
                            refine wpAnyG_one (i := 19) (by kernel_rfl) (by rfl) (fun K hK => ?_)
                            go_simp
                            refine hK.out _ _ (fun h => absurd (h.symm.trans (by kernel_rfl)) Bool.false_ne_true) ?_
                            clear hK K
                            refine wpAnyG_one (i := 20) (by kernel_rfl) (by rfl) (fun K hK => ?_)
                            go_simp
                            refine hK.out _ _ (fun h => absurd (h.symm.trans (by kernel_rfl)) Bool.false_ne_true) ?_
                            clear hK K
                            refine wpAnyG_one (i := 21) (by kernel_rfl) (by rfl) (fun K hK => ?_)
                            go_simp
                            refine hK.out _ _ (fun h => absurd (h.symm.trans (by kernel_rfl)) Bool.false_ne_true) ?_
                            clear hK K
                            refine wpAnyG_one (i := 22) (by kernel_rfl) (by rfl) (fun K hK => ?_)
                            go_simp
                            refine hK.out _ _ (fun h => absurd (h.symm.trans (by kernel_rfl)) Bool.false_ne_true) ?_
                            clear hK K
                            refine wpAnyG_done (by kernel_rfl) ?_ _
                            go_wp2_with fail
                            go_meet
                            case rel =>
                              refine ⟨_, _, _, _, _, _, _, _, st.a, hide ⟨⟨HPU.out.2.1, HK6.out.trans HPU.out.2.2, HPU.out.2.2.box HR6.out HBX6.out⟩, HA.out, HB1.out.2.2.1, HVL.out.1, HNK.out _ _ (by rw [HRV.out, Rn.own0_snoc (by rw [HLN.out, HLV.out])]) HNA.out HN3.out⟩⟩
                        · go_simp
                          refine hK.out _ _ (fun _ => ⟨cellUp q5 (by repeat (first | exact Below.refl _ _ | apply below_drew1 | apply below_al)), cellUp q6 (by repeat (first | exact Below.refl _ _ | apply below_drew1 | apply below_al)), cellUp b1 (by repeat (first | exact Below.refl _ _ | apply below_drew1 | apply below_al))⟩) ?_
                          clear hK K
                          refine wpAnyG_one (i := 8) (by kernel_rfl) (by rfl) (fun K hK => ?_)
                          go_simp
                          refine hK.out _ _ (fun _ => ⟨cellUp q5 (by repeat (first | exact Below.refl _ _ | apply below_drew1 | apply below_al)), cellUp q6 (by repeat (first | exact Below.refl _ _ | apply below_drew1 | apply below_al)), cellUp b1 (by repeat (first | exact Below.refl _ _ | apply below_drew1 | apply below_al))⟩) ?_
                          clear hK K
                          refine wpAnyG_one (i := 9) (by kernel_rfl) (by rfl) (fun K hK => ?_)
                          refine step_append_lies _ (by rfl) _ _ 22 (by rfl) c.n 9 iS (.string ⟨#[]⟩) 1 16 Tryz.underlying22 hiS hz0 hz1 hz2 rfl (by decide) (.slice va5 nn vc5) nn (ns2.map Value.string) (by rfl) (HROWN.out _ (by repeat (first | exact Below.refl _ _ | apply below_drew1 | apply below_al))) ⟨_, 0, none⟩ 1 1 [.string st.name] (by rfl) (by rfl) (fun j u hu => (by have hj := (List.getElem?_eq_some_iff.1 hu).1; simp at hj; obtain rfl : j = 0 := (by omega); simp at hu; subst hu; rw [Addr.add_lit]; simp [go_sem])) (fun u hu => by simp at hu; subst hu; rfl) (by decide) (by have := HLIM.out; unfold maxLen; omega) (by have := HLIM.out; omega) (HBASE.out _ (by repeat (first | exact Below.refl _ _ | apply below_drew1 | apply below_al))) _ rfl ?_
                          intro g7 cap7 w7 hown7 hgrow7 hlie7 hlt7
                          have HX7 := hide (HK7.out _ w7 (by repeat (first | exact Below.refl _ _ | apply below_drew1 | apply below_al)) hgrow7)
                          have HG7 : Hid (∃ wp, Below w6.heap.size w6 wp ∧ wp.grownBy w7 (Value.slice va5 nn vc5).ownBlock ∧ ((Value.slice va5 nn vc5).ownBlock = some g7 ∨ g7 = wp.heap.size)) := hide ⟨_, (by repeat (first | exact Below.refl _ _ | apply below_drew1 | apply below_al)), hgrow7, hlie7⟩
                          have HN7 := hide hown7
                          have p57 := (block_at HX7.out.1 5).trans rfl
                          have p67 := (block_at HX7.out.1 6).trans rfl
                          have b17 := (block_at HX7.out.2.2.2.1 1).trans rfl
                          clear hown7 hgrow7 hlie7 hlt7
                          refine hK.out _ _ (fun _ => ⟨p57, p67, b17⟩) ?_
                          clear hK K
                          simp only [Act.put, List.setIfInBounds_toArray]
                          refine wpAnyG_one (i := 16) (by kernel_rfl) (by rfl) (fun K hK => ?_)
                          refine step_append_lies _ (by rfl) _ _ 47 (by rfl) c.n 3 iI (.int .i64 0) 1 8 Tryz.underlying47 hiI hi0 hi1 hi2 rfl (by decide) (.slice va6 nn vc6) nn (vals2.map (Value.int .i64)) (by rfl) (own_below HX7.out.2.1 (by repeat (first | exact Below.refl _ _ | apply below_drew1 | apply below_al))) ⟨_, 0, none⟩ 1 1 [.int .i64 x5] (by rfl) (by rfl) (fun j u hu => (by have hj := (List.getElem?_eq_some_iff.1 hu).1; simp at hj; obtain rfl : j = 0 := (by omega); simp at hu; subst hu; rw [Addr.add_lit]; first | (simp [go_sem]; done) | exact HX7.out.2.2.2.2 _ (by simp) (by simp [go_sem]))) (fun u hu => by simp at hu; subst hu; rfl) (by decide) (by have := HLIM.out; unfold maxLen; omega) (by have := HLIM.out; omega) (by have := HX7.out.2.2.1; first | exact this | exact Nat.le_trans this (boxBelow _ _).size) _ rfl ?_
                          intro g8 cap8 w8 hown8 hgrow8 hlie8 hlt8
                          have HG8 : Hid (∃ wq, Below w7.heap.size w7 wq ∧ wq.grownBy w8 (Value.slice va6 nn vc6).ownBlock ∧ ((Value.slice va6 nn vc6).ownBlock = some g8 ∨ g8 = wq.heap.size)) := hide ⟨_, (by repeat (first | exact Below.refl _ _ | apply below_drew1 | apply below_al)), hgrow8, hlie8⟩
                          have HN8 := hide hown8
                          have HPU := hide (pushed HR6.out HLN.out HLV.out HG7.out HN7.out HG8.out HN8.out HMI.out HNM.out HI5.out HLIM.out)
                          have p5 := (block_at (HPU.out.1 _ HOB.out) 5).trans rfl
                          have y5 := block_free (HPU.out.1 _ HOB.out) 5
                          have p6 := (block_at (HPU.out.1 _ HOB.out) 6).trans rfl
                          have b18 := (block_at (grown_keep (w := w7) (by repeat (first | exact Below.refl _ _ | apply below_drew1 | apply below_al)) hgrow8 B _ HX7.out.2.2.2.1 (fun e => (by obtain ⟨cur, hc⟩ := row_typ HX7.out.2.1 e; exact block_ne HX7.out.2.2.2.1 hc (by decide) rfl))) 1).trans rfl
                          have p6' := (block_at (block_set (HPU.out.1 _ HOB.out) 5 (.slice (some ⟨g7, 0, none⟩) (nn + 1) cap7)) 6).trans rfl
                          have y6 := block_free (block_set (HPU.out.1 _ HOB.out) 5 (.slice (some ⟨g7, 0, none⟩) (nn + 1) cap7)) 6
                          clear hown8 hgrow8 hlie8 hlt8
                          refine hK.out _ _ (fun _ => ⟨p5, p6, b18⟩) ?_
                          clear hK K
                          simp only [Act.put]
                          refine wpAnyG_one (i := 17) (by kernel_rfl) (by rfl) (fun K hK => ?_)
                          go_simp
                          refine hK.out _ _ (fun h => absurd (h.symm.trans (by kernel_rfl)) Bool.false_ne_true) ?_
                          clear hK K
                          refine wpAnyG_one (i := 18) (by kernel_rfl) (by rfl) (fun K hK => ?_)
                          go_simp
                          refine hK.out _ _ (fun h => absurd (h.symm.trans (by kernel_rfl)) Bool.false_ne_true) ?_
                          clear hK K
                          refine wpAnyG_one (i := 19) (by kernel_rfl) (by rfl) (fun K hK => ?_)
                          go_simp
                          refine hK.out _ _ (fun h => absurd (h.symm.trans (by kernel_rfl)) Bool.false_ne_true) ?_
                          clear hK K
                          refine wpAnyG_one (i := 20) (by kernel_rfl) (by rfl) (fun K hK => ?_)
                          go_simp
                          refine hK.out _ _ (fun h => absurd (h.symm.trans (by kernel_rfl)) Bool.false_ne_true) ?_
                          clear hK K
                          refine wpAnyG_one (i := 21) (by kernel_rfl) (by rfl) (fun K hK => ?_)
                          go_simp
                          refine hK.out _ _ (fun h => absurd (h.symm.trans (by kernel_rfl)) Bool.false_ne_true) ?_
                          clear hK K
                          refine wpAnyG_one (i := 22) (by kernel_rfl) (by rfl) (fun K hK => ?_)
                          go_simp
                          refine hK.out _ _ (fun h => absurd (h.symm.trans (by kernel_rfl)) Bool.false_ne_true) ?_
                          clear hK K
                          refine wpAnyG_done (by kernel_rfl) ?_ _
                          go_wp2_with fail
                          go_meet
                          case rel =>
                            refine ⟨_, _, _, _, _, _, _, _, st.a, hide ⟨⟨HPU.out.2.1, HK6.out.trans HPU.out.2.2, HPU.out.2.2.box HR6.out HBX6.out⟩, HA.out, HB1.out.2.2.1, HVL.out.1, HNK.out _ _ (by rw [HRV.out, Rn.own0_snoc (by rw [HLN.out, HLV.out])]) HNA.out HN3.out⟩⟩
                    · as_aux_lemma =>
                        obtain ⟨z, rfl⟩ : ∃ z : Nat, at' = z := ⟨at'.toNat, by omega⟩
                        have hzl : z < vals2.length := by have := HR6.out.on.len; omega
                        obtain ⟨va, vb, vo, vc, hvv, hva, hvl, hve⟩ := HR6.out.on.vrow.ints (by have := HR6.out.on.len; have := HR6.out.lim; omega)
                        obtain ⟨gv, gc, hgv⟩ : ∃ g cap, vvs2 = .slice (some ⟨g, 0, none⟩) vals2.length cap := by
                          rcases HR6.out.on.vrow.2 with ⟨e, e2⟩ | ⟨g, cap, cur, e, _⟩
                          · omega
                          · exact ⟨g, cap, e⟩
                        subst hgv
                        have HSV := hide (HR6.out.setVal (n := st.name) (u := x5) HAT.out.symm HI5.out)
                        have HO := hide (Rn.own0_set HR6.out.on.len HAT.out.symm x5)
                        obtain ⟨cur, hcur⟩ := row_typ HR6.out.on.vrow (rfl : Value.ownBlock (.slice (some ⟨gv, 0, none⟩) vals2.length gc) = some gv)
                        obtain ⟨u0, hu0⟩ : ∃ u, vals2[z]? = some u := ⟨_, List.getElem?_eq_getElem hzl⟩
                        have g0 : w6.cell? ⟨gv, z, none⟩ = some (.int .i64 u0) := by
                          have h1 : w6.ownsRow c.n 3 1 (.slice (some ⟨gv, 0, none⟩) vals2.length gc) vals2.length (vals2.map (Value.int .i64)) := HR6.out.on.vrow
                          rw [World.ownsRow.cellAt h1 z (by omega), List.getElem?_map, hu0]
                          rfl
                        have y0 := block_free hcur z
                        generalize vals2.length = nv at *
                        have hzi : (z : Int) < (nv : Int) := by omega
                        clear hr hvv hve hva hu0 hcur hneg
                        go_wp2_with fail
                        go_meet
                        case rel =>
                          refine ⟨_, _, _, _, _, _, _, _, st.a, hide ⟨⟨HSV.out.1, HK6.out.trans HSV.out.2, HSV.out.2.box HR6.out HBX6.out⟩, HA.out, HB1.out.2.2.1, HVL.out.1, HNK.out _ _ (by rw [HRV.out, HO.out]) HNA.out HN3.out⟩⟩
              · as_aux_lemma =>
                  have HNA := hide hnil
                  have h4' : (st.kind == 4) = true := by simp [h4]
                  have h1' : (st.kind == 1) = false := by simp [h4]
                  have HDV := hide (HBR.out.2.2.1 HVZ.out h4)
                  have HN3 : Hid (st.kind ≠ 3) := hide (by omega)
                  have HN8 := hide h8
                  have HDI := hide (ddid_any w5 c nm s5 vp5 vd5 D5 (Rn.tagP st.name) HR5.out.dm (by unfold Rn.tagP; rw [ByteArray.size_append]; have e1 : (⟨#[112, 58]⟩ : ByteArray).size = 2 := rfl; rw [e1]; unfold maxLen; omega) (HR5.out.dm.dlt HR5.out.dk))
                  have HTG : Hid (Rn.tagP st.name = (⟨#[112, 58]⟩ : ByteArray) ++ st.name) := hide rfl
                  have HDK := hide (HR5.out.dk.print (st.name, x5))
                  rw [HTG.out] at HDI
                  have k1 : (9223372036854775807 < 2 + st.name.size) = False := eq_false (by omega)
                  clear h4 hnil h8 b0 b6 b7
                  go_wp2_with fail
                  refine HDI.out.mono ?_
                  rintro r w6 ⟨rfl, vd6, hm6, hk6⟩
                  have HM6 := hide hm6
                  have HKQ6 := hide hk6
                  have HBX6 := hide ((Kb.of hk6 q vns2 vvs2).box HR5.out HBX5.out)
                  clear hm6 hk6 b1 HDI
                  have b1 := (block_at HBX6.out 1).trans rfl
                  have hblk := HM6.out.blk
                  have HMP := hide hblk
                  obtain ⟨pa, pc, hvp⟩ := HM6.out.pr.form
                  obtain ⟨pl, hpl⟩ : ∃ k, k = s5.pr.length := ⟨_, rfl⟩
                  have HPL := hide hpl
                  rw [← hpl] at hvp
                  subst hvp
                  have c4 := (block_at hblk 4).trans rfl
                  have zp : c.p < w6.heap.size := block_lt hblk
                  have zB : B < w6.heap.size := block_lt HBX6.out
                  have HLE : Hid (s5.pr.length + 1 + s5.fuel ≤ 10000) := hide (by have h1 := HVL.out; have h2 := HS3.out; have h3 := HRM.out; rw [h2.2.2] at h1; omega)
                  have HBASE : Hid (∀ wx, Below w6.heap.size w6 wx → c.n ≤ wx.heap.size) := hide (fun wx hb => Nat.le_trans HM6.out.nle hb.size)
                  clear hblk hpl k1
                  go_wp2_with fail
                  refine wp_region_mask [some false, some false, some false, some false, some false, some true, some false, some true, some false, some false, none, none, none, none, none, none] 12 (fun w' => w'.cell? ⟨c.p, 4, none⟩ = some (.slice pa pl pc) ∧ w'.cell? ⟨B, 1, none⟩ = some (.string st.name)) 6 (by kernel_rfl) (by kernel_rfl) (fun _ _ d _ _ h => (by cases d <;> exact h)) ⟨c4, b1⟩ ?_
                  dsimp only [maskOps]
                  refine wpPlain_T (v := ?_) (by rfl) ?_ ?_
                  rotate_left 1
                  · (intro w; go_simp; try (with_reducible rfl))
                  simp only [Act.put, List.setIfInBounds_toArray, List.set_cons_zero, List.set_cons_succ]
                  refine wpPlain_T (v := ?_) (by rfl) ?_ ?_
                  rotate_left 1
                  · (intro w; go_simp; try (with_reducible rfl))
                  simp only [Act.put, List.setIfInBounds_toArray, List.set_cons_zero, List.set_cons_succ]
                  refine wpPlain_T (v := ?_) (by rfl) ?_ ?_
                  rotate_left 1
                  · (intro w; go_simp; try (with_reducible rfl))
                  simp only [Act.put, List.setIfInBounds_toArray, List.set_cons_zero, List.set_cons_succ]
                  refine wpPlain_T (v := ?_) (by rfl) ?_ ?_
                  rotate_left 1
                  · (intro w; go_simp; try (with_reducible rfl))
                  simp only [Act.put, List.setIfInBounds_toArray, List.set_cons_zero, List.set_cons_succ]
                  refine wpPlain_T (v := ?_) (by rfl) ?_ ?_
                  rotate_left 1
                  · (intro w; go_simp; try (with_reducible rfl))
                  simp only [Act.put, List.setIfInBounds_toArray, List.set_cons_zero, List.set_cons_succ]
                  refine wpPlain_S (v := ?_) (by rfl) ?_ ?_
                  rotate_left 1
                  · (intro w hSw; go_simp; try (with_reducible rfl))
                  simp only [Act.put, List.setIfInBounds_toArray, List.set_cons_zero, List.set_cons_succ]
                  refine wpPlain_T (v := ?_) (by rfl) ?_ ?_
                  rotate_left 1
                  · (intro w; go_simp; try (with_reducible rfl))
                  simp only [Act.put, List.setIfInBounds_toArray, List.set_cons_zero, List.set_cons_succ]
                  refine wpPlain_S (v := ?_) (by rfl) ?_ ?_
                  rotate_left 1
                  · (intro w hSw; go_simp; try (with_reducible rfl))
                  simp only [Act.put, List.setIfInBounds_toArray, List.set_cons_zero, List.set_cons_succ]
                  refine wpPlain_T (v := ?_) (by rfl) ?_ ?_
                  rotate_left 1
                  · (intro w; go_simp; try (with_reducible rfl))
                  simp only [Act.put, List.setIfInBounds_toArray, List.set_cons_zero, List.set_cons_succ]
                  refine wpPlain_T (v := ?_) (by rfl) ?_ ?_
                  rotate_left 1
                  · (intro w; go_simp; try (with_reducible rfl))
                  simp only [Act.put, List.setIfInBounds_toArray, List.set_cons_zero, List.set_cons_succ]
                  refine wpPlain_nil ?_
                  refine wpAnyG_one (i := 10) (by kernel_rfl) (by rfl) (fun K hK => ?_)
                  go_simp
                  refine hK.out _ _ (fun _ => ⟨cellUp c4 (by repeat (first | exact Below.refl _ _ | apply below_drew1 | apply below_al)), cellUp b1 (by repeat (first | exact Below.refl _ _ | apply below_drew1 | apply below_al))⟩) ?_
                  clear hK K
                  refine wpAnyG_one (i := 11) (by kernel_rfl) (by rfl) (fun K hK => ?_)
                  refine step_append_KL (At := PrC) (by rfl) _ _ 49 62 2 24 _ (by rfl) Tryz.underlying49 infoPr (by decide) (by decide) (by decide) c.n _ s5.pr (by rfl) (HM6.out.pr.below (by repeat (first | exact Below.refl _ _ | apply below_drew1 | apply below_al))) _ [.string st.name, .int .i64 x5] (st.name, x5) (by rfl) (fun j u hu => (by have hj := (List.getElem?_eq_some_iff.1 hu).1; simp at hj; obtain rfl | rfl : j = 0 ∨ j = 1 := (by omega); all_goals (simp at hu; subst hu; simp [go_sem]))) rfl (PrC.one (d := (st.name, x5)) rfl) rfl (by have := HLE.out; omega) (HBASE.out _ (by repeat (first | exact Below.refl _ _ | apply below_drew1 | apply below_al))) ?_
                  intro g7 cap7 w7 hown7 hgrow7 hlie7
                  have HPU := hide (DoM.prPut (w := w6.drew) (o := (.cells #[.string st.name, .int .i64 x5] 62)) (HM6.out.below (below_drew1 (Below.refl _ _))) hown7 hgrow7 (fun k hk => (by injection hk with hk; subst hk; rcases hlie7 with e | e; exact Or.inl e; exact Or.inr (by rw [e]; exact (boxBelow _ _).size))) HLE.out)
                  have u4 := (block_at HPU.out.1 4).trans rfl
                  have z4 := block_free HPU.out.1 4
                  have b7 := (block_at (grown_keep (w := w6) (by repeat (first | exact Below.refl _ _ | apply below_drew1 | apply below_al)) hgrow7 B _ HBX6.out (HM6.out.pr.apart HBX6.out (by decide))) 1).trans rfl
                  clear hown7 hgrow7 hlie7
                  refine hK.out _ _ (fun _ => ⟨u4, b7⟩) ?_
                  clear hK K
                  simp only [Act.put, List.setIfInBounds_toArray]
                  refine wpAnyG_one (i := 12) (by kernel_rfl) (by rfl) (fun K hK => ?_)
                  go_simp
                  refine hK.out _ _ (fun h => absurd (h.symm.trans (by kernel_rfl)) Bool.false_ne_true) ?_
                  clear hK K
                  refine wpAnyG_one (i := 13) (by kernel_rfl) (by rfl) (fun K hK => ?_)
                  go_simp
                  refine hK.out _ _ (fun h => absurd (h.symm.trans (by kernel_rfl)) Bool.false_ne_true) ?_
                  clear hK K
                  refine wpAnyG_one (i := 14) (by kernel_rfl) (by rfl) (fun K hK => ?_)
                  go_simp
                  refine hK.out _ _ (fun h => absurd (h.symm.trans (by kernel_rfl)) Bool.false_ne_true) ?_
                  clear hK K
                  refine wpAnyG_one (i := 15) (by kernel_rfl) (by rfl) (fun K hK => ?_)
                  go_simp
                  refine hK.out _ _ (fun h => absurd (h.symm.trans (by kernel_rfl)) Bool.false_ne_true) ?_
                  clear hK K
                  refine wpAnyG_done (by kernel_rfl) ?_ _
                  all_goals
                    go_wp2_with fail
                    go_meet
                    case rel =>
                      have hK := (HKQ6.out.trans (Kq.of_below (below_drew1 (Below.refl _ _)) HM6.out.nle)).trans HPU.out.2.2
                      refine ⟨_, _, _, _, _, _, _, _, st.a, hide ⟨⟨HR5.out.ev HPU.out.2.1 (by rw [← HTG.out]; exact HDK.out) hK (Nat.le_refl _), HK5.out.trans (Kb.of hK q vns2 vvs2), (Kb.of hK q vns2 vvs2).box HR5.out HBX5.out⟩, HA.out, HB1.out.2.2.1, HVL.out.1, HNK.out _ _ HDV.out HNA.out HN3.out⟩⟩
              · as_aux_lemma =>
                  have h2' : (st.kind == 2) = true := by simp [h2]
                  have h1' : (st.kind == 1) = false := by simp [h2]
                  have h4' : (st.kind == 4) = false := by simp [h2]
                  have HDV := hide (HBR.out.2.2.2.1 HVZ.out h2)
                  have HN3 : Hid (st.kind ≠ 3) := hide (by omega)
                  clear h2 b0 b1 b6
                  by_cases hx0 : x5 = 0
                  · have hx0' : (x5 == 0) = true := by simp [hx0]
                    rw [if_pos hx0] at HDV
                    clear hx0
                    go_wp2_with fail
                    go_meet
                    case rel =>
                      exact ⟨_, _, _, _, _, _, _, _, st.b, hide ⟨⟨HR5.out, HK5.out, HBX5.out⟩, HB.out, HB1.out.2.2.2, HVL.out.1, by rw [if_neg (fun h => HN3.out h.2.1)]; exact HDV.out⟩⟩
                  · have hx0' : (x5 == 0) = false := by simp [hx0]
                    rw [if_neg hx0] at HDV
                    clear hx0
                    go_wp2_with fail
                    go_meet
                    case rel =>
                      exact ⟨_, _, _, _, _, _, _, _, st.a, hide ⟨⟨HR5.out, HK5.out, HBX5.out⟩, HA.out, HB1.out.2.2.1, HVL.out.1, by rw [if_neg (fun h => HN3.out h.2.1)]; exact HDV.out⟩⟩
              · as_aux_lemma =>
                  have h3' : (st.kind == 3) = true := by simp [h3]
                  have h1' : (st.kind == 1) = false := by simp [h3]
                  have h4' : (st.kind == 4) = false := by simp [h3]
                  have h2' : (st.kind == 2) = false := by simp [h3]
                  have H3 := hide h3
                  clear h3 b0 b1 b6 b7
                  by_cases hx0 : x5 = 0
                  · have hx0' : (x5 == 0) = true := by simp [hx0]
                    have HX0 := hide hx0
                    have HDV := hide (HBR.out.2.2.2.2.1 HVZ.out H3.out hx0)
                    clear hx0
                    go_wp2_with fail
                    go_meet
                    case rel =>
                      exact ⟨_, _, _, _, _, _, _, _, [], hide ⟨⟨HR5.out, HK5.out, HBX5.out⟩, stsNil W HM0.out, bodyNil HM0.out, HVL.out.1, by rw [if_neg (fun h => h.2.2 HX0.out)]; exact HDV.out⟩⟩
                  · have hx0' : (x5 == 0) = false := by simp [hx0]
                    have HX0 := hide hx0
                    have HDV := hide (HBR.out.2.2.2.2.2 HVZ.out H3.out hx0)
                    clear hx0
                    go_wp2_with fail
                    go_meet
                    case rel =>
                      refine ⟨_, _, _, _, _, _, _, _, st.a, hide ⟨⟨HR5.out, HK5.out, HBX5.out⟩, HA.out, HB1.out.2.2.1, HVL.out.1, ?_⟩⟩
                      rw [HDV.out]
                      by_cases he : (Rn.dos ((Rn.M nm l gE).dO a f) st.a (Rn.own0 ns2 vals2) s5).1 = 0
                      · rw [if_pos he, if_pos ⟨he, H3.out, HX0.out⟩]
                      · rw [if_neg he, if_neg (fun h => he h.1)]
            case rest =>
              obtain ⟨s6, vp6, vd6, D6, ns6, vals6, vns6, vvs6, bl, HQ⟩ := hcut
              have HC := hide (HBD.out gE HGE.out.1 wc s6 vp6 vd6 D6 q a x f ns6 vals6 vns6 vvs6 m' _ bl HQ.out.1.run HQ.out.2.1 HQ.out.2.2.1 (by
                have h1 := HGE.out.2.2.1
                have h2 := HQ.out.2.2.2.1
                rw [HS3.out.1] at h2
                have h3 : s6.fuel * K ≤ k * K := Nat.mul_le_mul_right K h2
                omega))
              obtain ⟨EE, hEE⟩ : ∃ E, E = Rn.dos ((Rn.M nm l gE).dO a f) bl (Rn.own0 ns6 vals6) s6 := ⟨_, rfl⟩
              have HEF : Hid (EE.2.2.fuel ≤ s6.fuel) := hide (by rw [hEE]; exact Rn.dos_mea (μ := (·.fuel)) (fun o c s => (Rn.M_le nm l gE).2.1 a f o c s) _ _ _)
              have HDE : Hid (DD = if EE.1 = 0 ∧ st.kind = 3 ∧ x5 ≠ 0 then (Rn.M nm l (gE + 1)).dO a f EE.2.1 st EE.2.2 else EE) := hide (by rw [hEE]; exact HQ.out.2.2.2.2)
              rw [← hEE] at HC
              clear hEE b0 b1 b6 b7 HBX5 HK5 HR5
              go_wp2_with fail
              refine HC.out.mono ?_
              rintro r w7 ⟨rfl, HM7⟩
              obtain ⟨vp7, vd7, D7, ns7, vals7, vns7, vvs7, hrun7, hown7, hkb7⟩ := HM7.out
              have HR7 := hide hrun7
              have HO7 := hide hown7
              have HK7 := hide (HQ.out.1.kb.trans hkb7)
              have HBX7 := hide (hkb7.box HQ.out.1.run HQ.out.1.box)
              have HFE : Hid (EE.2.2.fuel ≤ k) := hide (by have h1 := HEF.out; have h2 := HQ.out.2.2.2.1; rw [HS3.out.1] at h2; omega)
              clear hrun7 hown7 hkb7 HM7 HC HQ HEF
              have b0 := (block_at HBX7.out 0).trans rfl
              by_cases he : EE.1 = 0
              · have HEZ := hide he
                rw [he]
                clear he
                by_cases h3 : st.kind = 3
                · have h3' : (st.kind == 3) = true := by simp [h3]
                  have h3n : (st.kind != 3) = false := by simp [h3]
                  have H3 := hide h3
                  clear h3
                  by_cases hx0 : x5 = 0
                  · have hx0' : (x5 == 0) = true := by simp [hx0]
                    have HD : Hid (DD = EE) := hide (by rw [HDE.out, if_neg (fun h => h.2.2 hx0)])
                    clear hx0
                    go_wp2_with fail
                    go_roundw
                    case rel => exact ⟨t + 1, by omega, by go_num, EE.2.2, vp7, vd7, D7, ns7, vals7, vns7, vvs7, hide ⟨HR7.out, HK7.out, by rw [HRD.out.2 (by rw [HD.out]; exact HEZ.out), HD.out, HO7.out], by have h1 := HFE.out; have h2 := HLS.out; have h3 := HS3.out; omega⟩⟩
                    case measure => simp [intOf]; omega
                  · have hx0' : (x5 == 0) = false := by simp [hx0]
                    have HD : Hid (DD = (Rn.M nm l (gE + 1)).dO a f (Rn.own0 ns7 vals7) st EE.2.2) := hide (by rw [HDE.out, if_pos ⟨HEZ.out, H3.out, hx0⟩, HO7.out])
                    clear hx0
                    go_wp2_with fail
                    go_roundw
                    case rel => exact ⟨gE, EE.2.2, vp7, vd7, D7, ns7, vals7, vns7, vvs7, hide ⟨⟨HR7.out, HK7.out, HBX7.out⟩, HD.out, HGE.out.1, by
                        have h1 := (HGE.out.2.2.2 H3.out).2
                        have h2 : EE.2.2.fuel * K ≤ k * K := Nat.mul_le_mul_right K HFE.out
                        omega, by have h1 := HFE.out; have h2 := HLS.out; have h3 := HS3.out; omega⟩⟩
                    case measure =>
                      rw [HR7.out.dm.fuelD, HMF.out]
                      have h1 := HFE.out
                      have h3 := HS3.out
                      omega
                · have h3' : (st.kind == 3) = false := by simp [h3]
                  have h3n : (st.kind != 3) = true := by simp [h3]
                  have HD : Hid (DD = EE) := hide (by rw [HDE.out, if_neg (fun h => h3 h.2.1)])
                  clear h3
                  go_wp2_with fail
                  go_roundw
                  case rel => exact ⟨t + 1, by omega, by go_num, EE.2.2, vp7, vd7, D7, ns7, vals7, vns7, vvs7, hide ⟨HR7.out, HK7.out, by rw [HRD.out.2 (by rw [HD.out]; exact HEZ.out), HD.out, HO7.out], by have h1 := HFE.out; have h2 := HLS.out; have h3 := HS3.out; omega⟩⟩
                  case measure => simp [intOf]; omega
              · as_aux_lemma =>
                  have he' : (EE.1 == 0) = false := by simp [he]
                  have HD : Hid (DD = EE) := hide (by rw [HDE.out, if_neg (fun h => he h.1)])
                  have HRV : Hid (R = EE) := hide (by rw [HRD.out.1 (by rw [HD.out]; exact he), HD.out])
                  clear he
                  go_wp2_with fail
                  go_ret
                  exact ⟨by rw [HRV.out]; rfl, hide (by rw [HRV.out]; exact ⟨vp7, vd7, D7, ns7, vals7, vns7, vvs7, HR7.out, HO7.out, HK7.out⟩)⟩
          · as_aux_lemma =>
              have hv' : (V.2.1 == 0) = false := by simp [hv]
              have HV := hide (HBR.out.1 hv)
              have HRV : Hid (R = (V.2.1, Rn.own0 ns2 vals2, V.2.2)) := hide (by rw [HRD.out.1 (by rw [HV.out]; exact hv), HV.out])
              clear hv
              go_wp2_with fail
              go_ret
              exact ⟨by rw [HRV.out]; rfl, hide (by rw [HRV.out]; exact ⟨vp5, vd5, D5, ns2, vals2, vns2, vvs2, HR5.out, rfl, HK5.out⟩)⟩
    · have hte : t = nl := by omega
      have HV : Hid (R = (0, Rn.own0 ns' vals', s')) := hide (by rw [HI.out.2.2.1, hte, HNL.out, List.drop_length]; rfl)
      clear hte
      go_wp2_with fail
      go_ret
      exact ⟨by rw [HV.out]; rfl, hide (by rw [HV.out]; exact ⟨vp', vd', D', ns', vals', vns', vvs', HI.out.1, rfl, HI.out.2.1⟩)⟩
end Go.Proofs.YtholefgckcoklaaGreatDoor
