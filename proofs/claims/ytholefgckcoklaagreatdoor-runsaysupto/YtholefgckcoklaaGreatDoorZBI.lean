/- Walks over package run: enter. -/
import Derived.Test.YtholefgckcoklaaGreatDoorZBF
import Derived.Test.YtholefgckcoklaaGreatDoorZBE
import Derived.Deep.RegionLaw
import Derived.Test.YtholefgckcoklaaGreatDoorZBG
import Derived.Test.YtholefgckcoklaaGreatDoorZAP
namespace Go.Proofs.YtholefgckcoklaaGreatDoor
open Go.RowKit Go.Maps
theorem own0_succ {ps : List ByteArray} {zs : List Int} {t : Nat} {x : ByteArray} {v : Int} (hx : ps[t]? = some x) (hv : zs[t]? = some v) : Rn.own0 (ps.take (t + 1)) (zs.take (t + 1)) = Rn.put (Rn.own0 (ps.take t) (zs.take t)) x v := by
  have h1 := (List.getElem?_eq_some_iff.1 hx).1
  have h2 := (List.getElem?_eq_some_iff.1 hv).1
  unfold Rn.own0
  rw [List.take_add_one, List.take_add_one, hx, hv, Option.toList_some, Option.toList_some, List.zip_append (by rw [List.length_take, List.length_take]; omega), List.foldl_append]
  rfl
theorem Rn.enter_eq {F : Rn.Fns} {l : List Mo} {a k : Nat} {y : Mo} {fu : Fu} (hy : l[a]? = some y) (hf : y.funs[k]? = some fu) (args : List Int) (s : Rn.Sta) : Rn.enter F l a k args s =
    if fu.params.length = args.length then
      if (Rn.dos (F.dO a k) fu.body (Rn.own0 fu.params args) s).1 = 0 then F.ev a k (Rn.dos (F.dO a k) fu.body (Rn.own0 fu.params args) s).2.1 fu.result (Rn.dos (F.dO a k) fu.body (Rn.own0 fu.params args) s).2.2
      else (0, (Rn.dos (F.dO a k) fu.body (Rn.own0 fu.params args) s).1, (Rn.dos (F.dO a k) fu.body (Rn.own0 fu.params args) s).2.2)
    else (0, 5, s) := by
  unfold Rn.enter
  rw [hy]
  simp only [Option.bind_some, hf]
theorem Ints.grown {w w' : World} {v : Value} {l : List Int} {om : Nat} (h : Ints w v l) (hg : w.grownBy w' (some om)) (hom : ∃ es cl, w.heap[om]? = some (.map es cl)) : Ints w' v l := by
  obtain ⟨es, cl, hm⟩ := hom
  obtain ⟨a, b, off, cap, e, h0, hl, h1⟩ := h
  refine ⟨a, b, off, cap, e, h0, hl, fun j z hz => ?_⟩
  have hc := h1 j z hz
  have hlt := World.block_lt_of_cell? _ _ hc
  rw [World.cell?_of_block (w := w) (hg.block b hlt (fun e => by
    injection e with e
    subst e
    simp [World.cell?, hm] at hc))]
  exact hc
theorem Ints.drew {w : World} {v : Value} {l : List Int} (h : Ints w v l) : Ints w.drew v l := h.below (Below.refl _ _).drew
set_option maxHeartbeats 8000000 in
set_option maxRecDepth 100000 in
theorem enter_any (W : World) (c : Cfg) (nm : List (ByteArray × ByteArray)) (l : List Mo) (m K : Nat) (F : Rn.Fns) (g : Nat) (hE : EvOk W c nm l m K F g) (hD : DoOk W c nm l m K F g) (w : World) (s : Rn.Sta) (a k : Nat) (va : Value) (args : List Int)
    (hb : Below c.n W w) (hn : c.n = W.heap.size) (hL : MosAt W m c.vl l) (hM : MaAt w c nm s) (y : Mo) (fu : Fu) (hy : l[a]? = some y) (hf : y.funs[k]? = some fu) (hok : Lat.fuE m fu = 0) (hA : Ints w va args) (hAI : ∀ x ∈ args, I64 x) (hg : s.fuel * K + m ≤ g) :
    Calls Tryz.prog 66 #[.pointer (some ⟨c.p, 0, none⟩), .int .i64 a, .int .i64 k, va] w fun e w' => e = .returned (.tuple #[.int .i64 (Rn.enter F l a k args s).1, .int .i64 (Rn.enter F l a k args s).2.1]) ∧ Hid (MaAt w' c nm (Rn.enter F l a k args s).2.2 ∧ Kp c none w w' ∧ I64 (Rn.enter F l a k args s).1) := by
  have HL := hide hL
  have HM := hide hM
  have HW := hide hb
  have HN := hide hn
  have HEE := hide hE
  have HDD := hide hD
  have HG := hide hg
  have HAI := hide hAI
  have hfo : Lat.bodyB m fu.body = true ∧ Lat.exprB m fu.result = true := by
    have := fuE_ok hok
    unfold Lat.fuOk at this
    simp only [Bool.and_eq_true] at this
    exact ⟨this.1.1.2, this.1.2⟩
  have HFO := hide hfo
  have HFI : Hid (FunIn l a k) := hide ⟨y, hy, (List.getElem?_eq_some_iff.1 hf).1⟩
  have hal : a < l.length := (List.getElem?_eq_some_iff.1 hy).1
  have hkl : k < y.funs.length := (List.getElem?_eq_some_iff.1 hf).1
  have HALT := hide hal
  have hup : ∀ {p : Addr} {v : Value}, W.cell? p = some v → w.cell? p = some v := fun {p v} hp => by
    rw [hb.cell (by rw [hn]; exact World.block_lt_of_cell? _ _ hp)]
    exact hp
  obtain ⟨ad, b, off, cap, hvl, h0, hll, h1⟩ := hL
  obtain ⟨vi, vv, vf, -, -, -, g3, hmo⟩ := h1 a y hy
  obtain ⟨fa, fb, fo, fc, rfl, hfa, hfl, hfe⟩ := hmo.split.2.2
  obtain ⟨-, vp, vb, e0, e1, e2, e3, f0, f1, f2, f3, f4, f5, f6, hp, hsb, hxr⟩ := hfe k fu hf
  have HSB := hide hsb
  have HXR := hide hxr
  obtain rfl := h0 (by omega)
  obtain rfl := hfa (by omega)
  obtain ⟨pa, pb, po, pc, rfl, hpa, hpl, hps, hpcel⟩ := hp
  have HPS := hide hps
  have HPC := hide hpcel
  have HPA := hide hpa
  obtain ⟨sb, sc, rfl⟩ := hsb.shapeN
  obtain ⟨xa, xc, rfl, rfl, rfl, rfl⟩ := hxr.shape
  obtain ⟨m0, rfl⟩ : ∃ m0, m = m0 + 1 := by
    cases m with
    | zero => exact absurd hxr (fun h => h)
    | succ j => exact ⟨j, rfl⟩
  replace g3 := hup g3
  replace f0 := hup f0
  replace f1 := hup f1
  replace f2 := hup f2
  replace f3 := hup f3
  replace f4 := hup f4
  replace f5 := hup f5
  replace f6 := hup f6
  obtain ⟨vpr, c0, -, -, -, -, -⟩ := hM.cell
  rw [hvl] at c0
  have HIN := hide hA
  obtain ⟨aa, ab, ao, ac, rfl, haa, hla, hac⟩ := hA
  have HAA := hide haa
  obtain ⟨R, hRR⟩ : ∃ R, R = Rn.enter F l a k args s := ⟨_, rfl⟩
  have hRE := hRR
  rw [Rn.enter_eq hy hf] at hRE
  have HRE := hide hRE
  rw [← hRR]
  obtain ⟨np, hnp⟩ : ∃ n, n = fu.params.length := ⟨_, rfl⟩
  obtain ⟨na, hna⟩ : ∃ n, n = args.length := ⟨_, rfl⟩
  obtain ⟨nl, hnl⟩ : ∃ n, n = l.length := ⟨_, rfl⟩
  obtain ⟨nf, hnf⟩ : ∃ n, n = y.funs.length := ⟨_, rfl⟩
  have HNP := hide hnp
  have HNA := hide hna
  rw [← hnp] at f1 hpl HPA
  rw [← hnp, ← hna] at HRE
  rw [← hna] at HIN HAA hla ⊢
  rw [← hnl] at c0 hal hll
  rw [← hnf] at g3 hkl hfl
  generalize fu.body.length = nb at *
  generalize fu.result.args.length = ne at *
  have hnp4 : np ≤ 4 := by
    unfold Lat.fuE at hok
    by_cases h4 : 4 < fu.params.length
    · rw [if_pos h4] at hok; cases hok
    · omega
  have HCN : Hid (c.n ≤ w.heap.size) := hide (by rw [hn]; exact hb.size)
  have HB0 := hide (boxBelow w (.cells #[.string fu.name, .slice pa np pc, .slice sb nb sc, .int .i64 fu.result.kind, .int .i64 fu.result.n, .string fu.result.name, .slice xa ne xc] 106))
  have hmm := @run_makeMap Tryz.prog
  clear hRR hRE hnp hna hnl hnf hok hfo hpa hps hpcel haa hac hxr hsb hfe hfa hmo h1 h0 hvl hM hb hE hD hg hAI hy hf hn hup
  by_cases hlen : np = na
  · have hl' : ((np : Int) == (na : Int)) = true := by simp [hlen]
    have hl2 : ((np : Int) != (na : Int)) = false := by simp [hlen]
    rw [if_pos hlen] at HRE
    have HLEN := hide hlen
    clear hlen
    have e1 := block_new w (.cells #[.string fu.name, .slice pa np pc, .slice sb nb sc, .int .i64 fu.result.kind, .int .i64 fu.result.n, .string fu.result.name, .slice xa ne xc] 106)
    have e2 := block_new (w.alloc (.cells #[.string fu.name, .slice pa np pc, .slice sb nb sc, .int .i64 fu.result.kind, .int .i64 fu.result.n, .string fu.result.name, .slice xa ne xc] 106)) (.map #[] 0)
    have e3 := block_new ((w.alloc (.cells #[.string fu.name, .slice pa np pc, .slice sb nb sc, .int .i64 fu.result.kind, .int .i64 fu.result.n, .string fu.result.name, .slice xa ne xc] 106)).alloc (.map #[] 0)) (.cells #[.pointer (some ⟨c.p, 0, none⟩), .int .i64 a, .int .i64 k, .map (some (w.heap.size + 1))] 234)
    have HB2 : Hid (Below w.heap.size w (((w.alloc (.cells #[.string fu.name, .slice pa np pc, .slice sb nb sc, .int .i64 fu.result.kind, .int .i64 fu.result.n, .string fu.result.name, .slice xa ne xc] 106)).alloc (.map #[] 0)).alloc (.cells #[.pointer (some ⟨c.p, 0, none⟩), .int .i64 a, .int .i64 k, .map (some (w.heap.size + 1))] 234))) := hide (up (up (boxBelow _ _) (boxBelow _ _)) (boxBelow _ _))
    have HBX2 := hide (block_alloc (block_alloc e1 (.map #[] 0)) (.cells #[.pointer (some ⟨c.p, 0, none⟩), .int .i64 a, .int .i64 k, .map (some (w.heap.size + 1))] 234))
    have HOW2 : Hid (OwM (((w.alloc (.cells #[.string fu.name, .slice pa np pc, .slice sb nb sc, .int .i64 fu.result.kind, .int .i64 fu.result.n, .string fu.result.name, .slice xa ne xc] 106)).alloc (.map #[] 0)).alloc (.cells #[.pointer (some ⟨c.p, 0, none⟩), .int .i64 a, .int .i64 k, .map (some (w.heap.size + 1))] 234)) (w.heap.size + 1) 0 (Rn.own0 (fu.params.take 0) (args.take 0))) := hide (by
      have h1 := OwM.new (w.alloc (.cells #[.string fu.name, .slice pa np pc, .slice sb nb sc, .int .i64 fu.result.kind, .int .i64 fu.result.n, .string fu.result.name, .slice xa ne xc] 106))
      rw [World.size_alloc] at h1
      refine h1.same ?_
      rw [World.size_alloc] at e2
      rw [block_alloc e2 (.cells #[.pointer (some ⟨c.p, 0, none⟩), .int .i64 a, .int .i64 k, .map (some (w.heap.size + 1))] 234), e2])
    have HFR2 : Hid (FrAt (((w.alloc (.cells #[.string fu.name, .slice pa np pc, .slice sb nb sc, .int .i64 fu.result.kind, .int .i64 fu.result.n, .string fu.result.name, .slice xa ne xc] 106)).alloc (.map #[] 0)).alloc (.cells #[.pointer (some ⟨c.p, 0, none⟩), .int .i64 a, .int .i64 k, .map (some (w.heap.size + 1))] 234)) c (w.heap.size + 1 + 1) a k (w.heap.size + 1)) := hide ⟨by have := HCN.out; omega, by rw [World.size_alloc, World.size_alloc] at e3; exact e3⟩
    clear e1 e2 e3
    go_enter Tryz.func66, Tryz.ntmps66
    go_wp2_with fail
    have HMA2 := hide (HM.out.below HB2.out)
    have HIN2 := hide (HIN.out.below HB2.out)
    have HKP2 : Hid (Kp c none w (((w.alloc (.cells #[.string fu.name, .slice pa np pc, .slice sb nb sc, .int .i64 fu.result.kind, .int .i64 fu.result.n, .string fu.result.name, .slice xa ne xc] 106)).alloc (.map #[] 0)).alloc (.cells #[.pointer (some ⟨c.p, 0, none⟩), .int .i64 a, .int .i64 k, .map (some (w.heap.size + 1))] 234))) := hide (Kp.of_below HB2.out HCN.out)
    obtain ⟨B, hBw⟩ : ∃ b, b = w.heap.size := ⟨_, rfl⟩
    generalize (((w.alloc (.cells #[.string fu.name, .slice pa np pc, .slice sb nb sc, .int .i64 fu.result.kind, .int .i64 fu.result.n, .string fu.result.name, .slice xa ne xc] 106)).alloc (.map #[] 0)).alloc (.cells #[.pointer (some ⟨c.p, 0, none⟩), .int .i64 a, .int .i64 k, .map (some (w.heap.size + 1))] 234)) = W2 at *
    have HMPL : Hid (c.mp < w.heap.size) := hide (by obtain ⟨es, cl, he⟩ := HM.out.map.isMap; exact block_lt he)
    rw [← hBw] at HBX2 HOW2 HFR2 HMPL HCN ⊢
    have HBW := hide hBw
    clear hBw c0 g3 f0 f1 f2 f3 f4 f5 f6 hmm HB2 HB0
    go_loopw [41] (fun i wx => ∃ t : Nat, t ≤ np ∧ i = .int .i64 t ∧ Hid (MaAt wx c nm s ∧ Kp c none w wx ∧ FrAt wx c (B + 1 + 1) a k (B + 1) ∧ OwM wx (B + 1) t (Rn.own0 (fu.params.take t) (args.take t)) ∧ (∀ z v, Rn.own0 (fu.params.take t) (args.take t) z = some v → I64 v) ∧
        wx.heap[B]? = some (.cells #[.string fu.name, .slice pa np pc, .slice sb nb sc, .int .i64 fu.result.kind, .int .i64 fu.result.n, .string fu.result.name, .slice xa ne xc] 106 (0, 0)) ∧ Ints wx (.slice aa na ac) args)) (fun i _ => np - (intOf i).toNat)
    case atStart => exact ⟨0, Nat.zero_le _, rfl, hide ⟨HMA2.out, HKP2.out, HFR2.out, HOW2.out, fun z v h => by simp [Rn.own0] at h, HBX2.out, HIN2.out⟩⟩
    case round =>
      obtain ⟨t, ht, rfl, HI⟩ := hrel
      by_cases htn : t < np
      · obtain ⟨x, hx⟩ : ∃ x, fu.params[t]? = some x := ⟨_, List.getElem?_eq_getElem (by rw [← HNP.out]; exact htn)⟩
        obtain ⟨z, hz⟩ : ∃ z, args[t]? = some z := ⟨_, List.getElem?_eq_getElem (by rw [← HNA.out, ← HLEN.out]; exact htn)⟩
        have HSC := hide (own0_succ hx hz)
        have hxs := HPS.out x (List.mem_of_getElem? hx)
        have hzi := HAI.out z (List.mem_of_getElem? hz)
        have x0 := HPC.out t (by rw [← HNP.out]; exact htn)
        rw [List.getD_eq_getElem?_getD, hx, Option.getD_some] at x0
        have x1 : wr.cell? ⟨pb, po + t, none⟩ = some (.string x) := by
          have hlt := World.block_lt_of_cell? _ _ x0
          rw [(HW.out.trans HI.out.2.1.below).cell (by rw [HN.out]; exact hlt)]
          exact x0
        obtain rfl := HPA.out (by omega)
        obtain ⟨aa', ab', ao', ac', hva, haa, -, hac⟩ := HI.out.2.2.2.2.2.2
        rw [← HNA.out] at hva haa
        injection hva with hva1 hva2 hva3
        obtain rfl := haa (by have := HLEN.out; omega)
        subst hva1 hva3
        have z1 := hac t z hz
        have q3 := HI.out.2.2.1.cell.2.2.2
        obtain ⟨w5, L1, ho5, hg5⟩ := (HI.out.2.2.2.1.same (w' := wr.drew) rfl).put (by unfold maxLen; omega) hxs hzi
        have htna : t < na := by have := HLEN.out; omega
        have hom : ∃ es cl, wr.drew.heap[B + 1]? = some (.map es cl) := HI.out.2.2.2.1.isMap
        have HM5 := hide ((HI.out.1.below (Below.refl _ _).drew).but hom hg5 (by have := HMPL.out; omega))
        have HK5 : Hid (Kp c none w w5) := hide (((HI.out.2.1.drewN 1).more.trans (Kp.but hg5 (by have := HCN.out; omega) (Nat.le_trans (by have := HCN.out; omega : c.n ≤ B) (Nat.le_of_lt (block_lt HI.out.2.2.2.2.2.1))))).fresh (by have := HBW.out; omega))
        have HF5 : Hid (FrAt w5 c (B + 1 + 1) a k (B + 1)) := hide ⟨HI.out.2.2.1.1, by rw [hg5.block _ (block_lt HI.out.2.2.1.2) (by simp)]; exact HI.out.2.2.1.2⟩
        have HX5 : Hid (w5.heap[B]? = some (.cells #[.string fu.name, .slice (some ⟨pb, po, none⟩) np pc, .slice sb nb sc, .int .i64 fu.result.kind, .int .i64 fu.result.n, .string fu.result.name, .slice xa ne xc] 106 (0, 0))) := hide (by rw [hg5.block _ (block_lt HI.out.2.2.2.2.2.1) (by simp)]; exact HI.out.2.2.2.2.2.1)
        have HI5 := hide (HI.out.2.2.2.2.2.2.drew.grown hg5 hom)
        have HO5 := hide ho5
        have HZI := hide hzi
        clear hx hz x0 hac ho5 hg5 hom hva2 haa hxs hzi
        obtain ⟨wo, rfl⟩ : ∃ wo, wo = wr := ⟨_, rfl⟩
        go_wp2_with fail
        go_region_law (fail)
        all_goals
          go_wp2_with fail
          go_roundw
          case rel => exact ⟨t + 1, by omega, by go_num, hide ⟨HM5.out, HK5.out, HF5.out, by rw [HSC.out]; exact HO5.out, by rw [HSC.out]; exact put_own HI.out.2.2.2.2.1 HZI.out, HX5.out, HI5.out⟩⟩
          case measure => simp [intOf]; omega
      · have hte : t = np := by omega
        have HOE : Hid (Rn.own0 (fu.params.take t) (args.take t) = Rn.own0 fu.params args) := hide (by
          have h1 : fu.params.take t = fu.params := List.take_of_length_le (by rw [← HNP.out]; omega)
          have h2 : args.take t = args := List.take_of_length_le (by rw [← HNA.out, ← HLEN.out]; omega)
          rw [h1, h2])
        have HRUN : Hid (Run W wr c nm l (m0 + 1) s (B + 1 + 1) a k (B + 1) t (Rn.own0 fu.params args)) := hide ⟨HW.out.trans HI.out.2.1.below, HN.out, HL.out, HI.out.1, HI.out.2.2.1, by rw [← HOE.out]; exact HI.out.2.2.2.1, by have := HCN.out; omega, by have := HMPL.out; omega, HALT.out, by rw [← HOE.out]; exact HI.out.2.2.2.2.1, by have := HI.out.1.room; omega⟩
        have HC := hide (doAll_any W c nm l (m0 + 1) K F g HDD.out wr s (B + 1 + 1) a k (B + 1) t _ m0 _ fu.body HRUN.out HFI.out HSB.out HFO.out.1 (by have := HG.out; omega))
        obtain ⟨D, hDe⟩ : ∃ D, D = Rn.dos (F.dO a k) fu.body (Rn.own0 fu.params args) s := ⟨_, rfl⟩
        rw [← hDe] at HC HRE
        have b2 := (block_at HI.out.2.2.2.2.2.1 2).trans rfl
        clear hte hDe
        obtain ⟨wo, rfl⟩ : ∃ wo, wo = wr := ⟨_, rfl⟩
        go_wp2_with fail
        refine HC.out.mono ?_
        rintro e w5 ⟨rfl, HA5⟩
        have HKP5 : Hid (Kp c none w w5) := hide ((HI.out.2.1.more.trans HA5.out.kp).fresh (by have := HBW.out; omega))
        obtain ⟨n5, hr5, -⟩ := HA5.out.run HRUN.out
        have HR5 := hide hr5
        have HBX5 := hide (HRUN.out.stay HA5.out.kp (Or.inr rfl) HI.out.2.2.2.2.2.1 (by decide) (by decide) (by decide))
        have HLE5 := hide HA5.out.le
        clear b2 hr5 HC HA5
        by_cases hd : D.1 = 0
        · rw [if_pos hd] at HRE
          rw [hd]
          clear hd
          have HC2 := hide (HEE.out w5 D.2.2 (B + 1 + 1) a k (B + 1) n5 D.2.1 (m0 + 1) _ _ _ _ fu.result HR5.out HFI.out HXR.out HFO.out.2 (by
            have h1 := HG.out
            have h2 : D.2.2.fuel * K ≤ s.fuel * K := Nat.mul_le_mul_right K HLE5.out
            omega))
          rw [← HRE.out] at HC2
          have b3 := (block_at HBX5.out 3).trans rfl
          have b4 := (block_at HBX5.out 4).trans rfl
          have b5 := (block_at HBX5.out 5).trans rfl
          have b6 := (block_at HBX5.out 6).trans rfl
          go_wp2_with fail
          refine HC2.out.mono ?_
          rintro e w6 ⟨rfl, HM6⟩
          clear b3 b4 b5 b6
          go_wp2_with fail
          go_ret2
          exact ⟨rfl, hide ⟨HM6.out.1, HKP5.out.trans HM6.out.2.1, HM6.out.2.2⟩⟩
        · as_aux_lemma =>
            have hd' : (D.1 == 0) = false := by simp [hd]
            rw [if_neg hd] at HRE
            clear hd
            go_wp2_with fail
            go_ret2
            exact ⟨by rw [HRE.out]; rfl, hide (by rw [HRE.out]; exact ⟨HR5.out.ma, HKP5.out, by unfold I64; omega⟩)⟩
  · as_aux_lemma =>
      have hl' : ((np : Int) == (na : Int)) = false := by rw [beq_eq_false_iff_ne]; omega
      rw [if_neg hlen] at HRE
      clear hlen hmm
      go_enter Tryz.func66, Tryz.ntmps66
      go_wp2_with fail
      go_ret2
      exact ⟨by rw [HRE.out]; rfl, hide (by rw [HRE.out]; exact ⟨HM.out.below HB0.out, Kp.of_below HB0.out HCN.out, by unfold I64; omega⟩)⟩
end Go.Proofs.YtholefgckcoklaaGreatDoor
namespace Go.Proofs.YtholefgckcoklaaGreatDoor
open Go.RowKit Go.Maps
structure ModsOk (W : World) (m : Nat) (vl : Value) (l : List Mo) : Prop where
  ok : ∀ y ∈ l, Lat.moE m y = 0
  cap : ∀ (b off cap : Nat), vl = .slice (some ⟨b, off, none⟩) l.length cap → ∀ (i : Nat) (y : Mo) (vf : Value), l[i]? = some y → W.cell? ⟨b, off + i * 4 + 3, none⟩ = some vf → CapOK vf
theorem moE_len {m : Nat} {y : Mo} (h : Lat.moE m y = 0) : y.imports.length ≤ 8 ∧ Lat.fusE m y.funs = 0 := by
  unfold Lat.moE at h
  by_cases h8 : 8 < y.imports.length ∨ 8 < y.vars.length ∨ 8 < y.funs.length
  · rw [if_pos h8] at h; cases h
  · rw [if_neg h8] at h
    refine ⟨by omega, ?_⟩
    by_cases h5 : ((Lat.strB y.name && y.imports.all Lat.strB) && y.vars.all Lat.vaB) = false
    · rw [if_pos h5] at h; cases h
    · rw [if_neg h5] at h
      by_cases hf : Lat.fusE m y.funs = 0
      · exact hf
      · rw [if_pos hf] at h; exact absurd h hf
theorem Rn.call_eq (F : Rn.Fns) {l : List Mo} {a : Nat} {y : Mo} (hy : l[a]? = some y) (f : Nat) (name : ByteArray) (args : List Int) (s : Rn.Sta) :
    (s.fuel = 0 → Rn.call F l a f name args s = (0, 6, s)) ∧ (s.fuel ≠ 0 → Rn.call F l a f name args s = if (Nm.ptgt y f name l).2.2 = false then (0, 4, Rn.burnS s) else Rn.enter F l (if (Nm.ptgt y f name l).1 < 0 then a else (Nm.ptgt y f name l).1.toNat) (Nm.ptgt y f name l).2.1.toNat args (Rn.burnS s)) := by
  refine ⟨fun h => ?_, fun h => ?_⟩
  · unfold Rn.call
    rw [(Rn.burn_zero h).1]
  · unfold Rn.call
    rw [(Rn.burn_pos h).1, hy]
set_option maxHeartbeats 8000000 in
set_option maxRecDepth 100000 in
theorem call_any (W : World) (c : Cfg) (nm : List (ByteArray × ByteArray)) (l : List Mo) (m K : Nat) (F : Rn.Fns) (g : Nat) (hKm : m ≤ K) (hE : EvOk W c nm l m K F g) (hD : DoOk W c nm l m K F g) (hO : ModsOk W m c.vl l) (w : World) (s : Rn.Sta) (q a f om n : Nat) (o : Rn.Own) (x : ByteArray) (va : Value) (args : List Int)
    (hR : Run W w c nm l m s q a f om n o) (hF : FunIn l a f) (hx : x.size ≤ maxLen) (hA : Ints w va args) (hAK : ∀ w', Kp c none w w' → Ints w' va args) (hAI : ∀ z ∈ args, I64 z) (hg : s.fuel * K ≤ g) :
    Calls Tryz.prog 205 #[.pointer (some ⟨q, 0, none⟩), .string x, va] w fun e w' => e = .returned (.tuple #[.int .i64 (Rn.call F l a f x args s).1, .int .i64 (Rn.call F l a f x args s).2.1]) ∧ Hid (MaAt w' c nm (Rn.call F l a f x args s).2.2 ∧ Kp c none w w' ∧ I64 (Rn.call F l a f x args s).1) := by
  have HR := hide hR
  have HAK := hide hAK
  have HAI := hide hAI
  have HO := hide hO
  have HG := hide hg
  have HEE := hide hE
  have HDD := hide hD
  have HX := hide hx
  have HF := hide hF
  obtain ⟨y, hy, hfl⟩ := hF
  have HCE := hide (Rn.call_eq F hy f x args s)
  have HY := hide hy
  have HFL := hide hfl
  obtain ⟨aa, ab, ao, ac, rfl, -⟩ := hA
  obtain ⟨na, hna⟩ : ∃ n, n = args.length := ⟨_, rfl⟩
  rw [← hna] at HAK ⊢
  obtain ⟨R, hRR⟩ : ∃ R, R = Rn.call F l a f x args s := ⟨_, rfl⟩
  rw [← hRR] at HCE ⊢
  have HCB := hide (burn_any w c nm s hR.ma)
  obtain ⟨r0, r1, r2, r3⟩ := hR.fr.cell
  clear hR hAK hAI hO hg hE hD hx hy hfl hna hRR r1 r2 r3
  go_enter Tryz.func205, Tryz.ntmps205
  go_wp2_with fail
  refine HCB.out.mono ?_
  rintro e w1 ⟨rfl, HM1⟩
  clear r0 HCB
  by_cases h0 : s.fuel = 0
  · as_aux_lemma =>
      have HV := hide (HCE.out.1 h0)
      have HBZ := hide (Rn.burn_zero h0)
      rw [(Rn.burn_zero h0).2.1]
      clear h0
      go_wp2_with fail
      go_ret2
      exact ⟨by rw [HV.out]; rfl, hide (by rw [HV.out]; have := HM1.out.1; rw [HBZ.out.2.2] at this; exact ⟨this, HM1.out.2, by unfold I64; omega⟩)⟩
  · have HV := hide (HCE.out.2 h0)
    rw [(Rn.burn_pos h0).2]
    have HFU : Hid ((Rn.burnS s).fuel * K + m ≤ g) := hide (by
      have h1 := HG.out
      have h2 : (Rn.burnS s).fuel + 1 = s.fuel := by show s.fuel - 1 + 1 = s.fuel; omega
      have h3 : ((Rn.burnS s).fuel + 1) * K = (Rn.burnS s).fuel * K + K := Nat.succ_mul _ _
      rw [h2] at h3
      omega)
    have HLE : Hid ((Rn.burnS s).fuel ≤ s.fuel) := hide (Nat.sub_le _ _)
    have HR1 := hide (HR.out.ev HM1.out.1 HM1.out.2 HLE.out)
    have HK1 := hide HM1.out.2
    obtain ⟨s1, hs1⟩ : ∃ s1, s1 = Rn.burnS s := ⟨_, rfl⟩
    rw [← hs1] at HV HFU HLE HR1
    clear h0 HCE HM1 hs1
    obtain ⟨b, off, cap, y', vi, vv, vf, hvl, hll, hy', g0, g1, g2, g3, hmo, -, -⟩ := HR1.out.mod
    obtain rfl : y = y' := by rw [HY.out] at hy'; exact Option.some.inj hy'
    obtain ⟨vpr, c0, -, -, -, -, -⟩ := HR1.out.ma.cell
    obtain ⟨r0, r1, r2, r3⟩ := HR1.out.fr.cell
    have hmods : ∃ vi0 vf0, W.cell? ⟨b, off + a * 4 + 1, none⟩ = some vi0 ∧ W.cell? ⟨b, off + a * 4 + 3, none⟩ = some vf0 := by
      obtain ⟨ad, b', off', cap', e', h0', -, h1'⟩ := HR1.out.mods
      rw [h0' (by have := HR1.out.alt; omega), hvl] at e'
      injection e' with e1 e2 e3
      injection e1 with e1
      injection e1 with e4 e5
      subst e4 e5
      obtain ⟨vi0, vv0, vf0, -, k1, -, k3, -⟩ := h1' a y HY.out
      exact ⟨vi0, vf0, k1, k3⟩
    obtain ⟨vi0, vf0, k1, k3⟩ := hmods
    obtain rfl : vi = vi0 := by have := HR1.out.cell k1; rw [g1] at this; exact Option.some.inj this
    obtain rfl : vf = vf0 := by have := HR1.out.cell k3; rw [g3] at this; exact Option.some.inj this
    have HCAP := hide (HO.out.cap b off cap hvl a y vf HY.out k3)
    have HMO := hide hmo
    have HNI := hide (moE_len (HO.out.ok y (List.mem_of_getElem? HY.out))).1
    have hWb : ∀ {wx : World}, Below w1.heap.size w1 wx → Below W.heap.size W wx := fun {wx} h => by
      have h1 := HR1.out.below
      rw [HR1.out.size] at h1
      exact up h1 h
    have HTG : Hid (∀ n os, Calls Tryz.prog 15 #[.agg #[.string y.name, vi, vv, vf], .int .i64 f, .string x, c.vl] (gn w1 n os) fun e w' => e = .returned (.tuple #[.int .i64 (Nm.ptgt y f x l).1, .int .i64 (Nm.ptgt y f x l).2.1, .bool (Nm.ptgt y f x l).2.2]) ∧ Below (gn w1 n os).heap.size (gn w1 n os) w') := hide (fun n os =>
      ntarget_anyF m (gn w1 n os) vi vv vf c.vl y l f x (HMO.out.below (hWb (below_gn w1 n os))) (HR1.out.mods.below (hWb (below_gn w1 n os))) HCAP.out (Nat.le_of_lt HFL.out) HX.out (by have := HNI.out; omega))
    obtain ⟨ai, bi, oi, ci, rfl, -⟩ := hmo.split.1
    obtain ⟨av, bv, ov, cv, rfl, -⟩ := hmo.split.2.1
    obtain ⟨af, bf, of, cf, rfl, -⟩ := hmo.split.2.2
    generalize y.imports.length = ni at *
    generalize y.vars.length = nv at *
    obtain ⟨nf, hnf⟩ : ∃ n, n = y.funs.length := ⟨_, rfl⟩
    rw [← hnf] at g3 HTG
    have hal := HR1.out.alt
    obtain ⟨nl, hnl⟩ : ∃ n, n = l.length := ⟨_, rfl⟩
    rw [hvl, ← hnl] at c0 HTG
    rw [← hnl] at hal hll
    have HPT := hide (fun h => Nm.ptgt_true (x := y) (k := f) (call := x) (known := l) h)
    obtain ⟨⟨T1, T2, T3⟩, hT⟩ : ∃ T, T = Nm.ptgt y f x l := ⟨_, rfl⟩
    rw [← hT] at HV HTG HPT
    clear hT hmo hvl hy' k1 k3 hnf hnl r3 HMO hWb
    replace r0 := cell_gn r0
    replace r1 := cell_gn r1
    replace r2 := cell_gn r2
    replace c0 := cell_gn c0
    replace g0 := cell_gn g0
    replace g1 := cell_gn g1
    replace g2 := cell_gn g2
    replace g3 := cell_gn g3
    go_wp2_with fail
    refine wp_region_quiet_gn (by kernel_rfl) (by kernel_rfl) ?_
    repeat (quiet_step ((exact Calls.gn_of (HTG.out _ _))))
    refine wpQuiet_nil ?_
    intro _ hw'
    obtain ⟨⟨nq, osq⟩, hw''⟩ := hw'
    subst hw''
    have HB5 := hide (below_gn w1 nq osq)
    generalize gn w1 nq osq = W5 at *
    have HR5 := hide (HR1.out.ev (HR1.out.ma.below HB5.out) (Kp.of_below HB5.out HR1.out.nle) (Nat.le_refl _))
    have HK5 : Hid (Kp c none w W5) := hide (HK1.out.trans (Kp.of_below HB5.out HR1.out.nle))
    have HIN := hide (HAK.out _ HK5.out)
    clear r0 r1 r2 c0 g0 g1 g2 g3 HTG
    cases T3 with
    | false =>
      as_aux_lemma =>
        rw [if_pos rfl] at HV
        go_wp2_with fail
        go_ret2
        exact ⟨by rw [HV.out]; rfl, hide (by rw [HV.out]; exact ⟨HR5.out.ma, HK5.out, by unfold I64; omega⟩)⟩
    | true =>
      rw [if_neg (by simp)] at HV
      obtain ⟨r0, r1, r2, r3⟩ := HR5.out.fr.cell
      rcases HPT.out rfl with ⟨i, fu, hT, hfu⟩ | ⟨a', z, j, fu, hT, hz, hfu⟩
      · as_aux_lemma =>
          injection hT with hT1 hT2
          injection hT2 with hT2 hT3
          subst hT1 hT2
          have HC := hide (enter_any W c nm l m K F g HEE.out HDD.out W5 s1 a i (.slice aa na ac) args HR5.out.below HR5.out.size HR5.out.mods HR5.out.ma y fu HY.out hfu (fusE_ok (moE_len (HO.out.ok y (List.mem_of_getElem? HY.out))).2 fu (List.mem_of_getElem? hfu)) HIN.out HAI.out HFU.out)
          have HVE : Hid (R = Rn.enter F l a i args s1) := hide (by rw [HV.out]; simp)
          rw [← HVE.out] at HC
          clear hfu hT3 r2 r3
          go_wp2_with fail
          refine HC.out.mono ?_
          rintro e w6 ⟨rfl, HM6⟩
          clear r0 r1
          go_wp2_with fail
          go_ret2
          exact ⟨rfl, hide ⟨HM6.out.1, HK5.out.trans HM6.out.2.1, HM6.out.2.2⟩⟩
      · as_aux_lemma =>
          injection hT with hT1 hT2
          injection hT2 with hT2 hT3
          subst hT1 hT2
          have HC := hide (enter_any W c nm l m K F g HEE.out HDD.out W5 s1 a' j (.slice aa na ac) args HR5.out.below HR5.out.size HR5.out.mods HR5.out.ma z fu hz hfu (fusE_ok (moE_len (HO.out.ok z (List.mem_of_getElem? hz))).2 fu (List.mem_of_getElem? hfu)) HIN.out HAI.out HFU.out)
          have hneg : ¬ ((a' : Int) < 0) := by omega
          have HVE : Hid (R = Rn.enter F l a' j args s1) := hide (by rw [HV.out, if_neg hneg]; simp)
          rw [← HVE.out] at HC
          clear hfu hT3 r1 r2 r3 hz
          go_wp2_with fail
          refine HC.out.mono ?_
          rintro e w6 ⟨rfl, HM6⟩
          clear r0
          go_wp2_with fail
          go_ret2
          exact ⟨rfl, hide ⟨HM6.out.1, HK5.out.trans HM6.out.2.1, HM6.out.2.2⟩⟩
end Go.Proofs.YtholefgckcoklaaGreatDoor
namespace Go.Proofs.YtholefgckcoklaaGreatDoor
open Go.RowKit Go.Maps
theorem evs_at {f : Ex → Rn.Sta → Int × Int × Rn.Sta} {l : List Ex} {t : Nat} {y : Ex} (h : l[t]? = some y) (s : Rn.Sta) : Rn.evs f (l.drop t) s = if (f y s).2.1 = 0 then ((f y s).1 :: (Rn.evs f (l.drop (t + 1)) (f y s).2.2).1, (Rn.evs f (l.drop (t + 1)) (f y s).2.2).2) else ([], (f y s).2) := by
  obtain ⟨ht, e⟩ := List.getElem?_eq_some_iff.1 h
  rw [List.drop_eq_getElem_cons ht, e]
  rfl
def RowI (w : World) (B n : Nat) (vals : List Int) : Prop := ∃ cs : Array Value, w.heap[B]? = some (.cells cs 3 (0, 0)) ∧ cs.size = n ∧ ∀ (i : Nat) (v : Int), vals[i]? = some v → cs[i]? = some (.int .i64 v)
theorem RowI.same {w w' : World} {B n : Nat} {vals : List Int} (h : RowI w B n vals) (hs : ∀ cs, w.heap[B]? = some (.cells cs 3 (0, 0)) → w'.heap[B]? = some (.cells cs 3 (0, 0))) : RowI w' B n vals := by
  obtain ⟨cs, h1, h2, h3⟩ := h
  exact ⟨cs, hs cs h1, h2, h3⟩
theorem RowI.cell {w : World} {B n : Nat} {vals : List Int} (h : RowI w B n vals) {i : Nat} (hi : i < n) : (∃ u, w.cell? ⟨B, i, none⟩ = some u) ∧ w.frozen? ⟨B, i, none⟩ = false := by
  obtain ⟨cs, h1, h2, h3⟩ := h
  exact ⟨⟨cs[i]'(by omega), (block_at h1 i).trans (Array.getElem?_eq_getElem (by omega))⟩, block_free h1 i⟩
theorem RowI.val {w : World} {B n : Nat} {vals : List Int} (h : RowI w B n vals) {i : Nat} {v : Int} (hv : vals[i]? = some v) : w.cell? ⟨B, i, none⟩ = some (.int .i64 v) := by
  obtain ⟨cs, h1, h2, h3⟩ := h
  exact (block_at h1 i).trans (h3 i v hv)
theorem RowI.set {w : World} {B n : Nat} {vals : List Int} (h : RowI w B n vals) {t : Nat} (ht : vals.length = t) (htn : t < n) (v : Int) : RowI (w.setCell ⟨B, t, none⟩ (.int .i64 v)) B n (vals ++ [v]) := by
  obtain ⟨cs, h1, h2, h3⟩ := h
  refine ⟨cs.setIfInBounds t (.int .i64 v), block_set h1 t _, by rw [Array.size_setIfInBounds]; exact h2, fun i u hu => ?_⟩
  by_cases hi : i < vals.length
  · rw [List.getElem?_append_left hi] at hu
    rw [Array.getElem?_setIfInBounds_ne (by omega)]
    exact h3 i u hu
  · rw [List.getElem?_append_right (by omega)] at hu
    have hi0 : i = t := by
      have := (List.getElem?_eq_some_iff.1 hu).1
      simp at this
      omega
    subst hi0
    rw [ht] at hu
    simp at hu
    subst hu
    rw [Array.getElem?_setIfInBounds_self_of_lt (by omega)]
theorem RowI.ints {w : World} {B n : Nat} {vals : List Int} (h : RowI w B n vals) (hl : vals.length = n) (hn : n ≤ 9223372036854775807) : Ints w (.slice (some ⟨B, 0, none⟩) n n) vals :=
  ⟨some ⟨B, 0, none⟩, B, 0, n, by rw [hl], fun _ => rfl, by omega, fun j z hz => by rw [Nat.zero_add]; exact h.val hz⟩
theorem Run.setI {W w : World} {c : Cfg} {nm : List (ByteArray × ByteArray)} {l : List Mo} {m : Nat} {s : Rn.Sta} {q a f om n : Nat} {o : Rn.Own} (h : Run W w c nm l m s q a f om n o) {B : Nat} {cs : Array Value} (hB : w.heap[B]? = some (.cells cs 3 (0, 0))) (hn : c.n ≤ B) (i : Nat) (v : Value) :
    Run W (w.setCell ⟨B, i, none⟩ v) c nm l m s q a f om n o ∧ Kp c (some B) w (w.setCell ⟨B, i, none⟩ v) := by
  have cne : ∀ {k : Nat} {cs' : Array Value} {t : TypeId} {fz : Nat × Nat}, w.heap[k]? = some (.cells cs' t fz) → t ≠ 3 → k ≠ B := fun ho ht e => by
    rw [e, hB] at ho
    injection ho with ho
    injection ho with _ ho
    exact ht ho.symm
  have mne : ∀ {k : Nat} {es : Array MapEntry} {cl : Nat}, w.heap[k]? = some (.map es cl) → k ≠ B := fun ho e => by rw [e, hB] at ho; cases ho
  have hk : Kp c (some B) w (w.setCell ⟨B, i, none⟩ v) := ⟨(Below.refl _ _).setCell hn v, fun k _ ho _ _ h3 _ => block_other ho (fun e => h3 (by have e' : k = B := e; rw [e'])) v⟩
  obtain ⟨vp, h1, h2⟩ := h.ma.mach
  obtain ⟨es, cl, he⟩ := h.ma.map.isMap
  obtain ⟨es2, cl2, he2⟩ := h.ow.isMap
  have hma : MaAt (w.setCell ⟨B, i, none⟩ v) c nm s := ⟨h.ma.base, ⟨vp, block_other h1 (cne h1 (by decide)) v, h2.set (h2.apart hB (by decide)) v⟩, h.ma.lenb, h.ma.lens, fun i' b x u k1 k2 k3 => block_other (h.ma.var i' b x u k1 k2 k3) (cne (h.ma.var i' b x u k1 k2 k3) (by decide)) v, h.ma.bsn, h.ma.val, h.ma.nodup, h.ma.map.same (by rw [block_other he (mne he) v, he]), h.ma.mpn, h.ma.room, h.ma.prs⟩
  exact ⟨⟨h.below.trans hk.below, h.size, h.mods, hma, ⟨h.fr.1, block_other h.fr.2 (cne h.fr.2 (by decide)) v⟩, h.ow.same (by rw [block_other he2 (mne he2) v, he2]), h.omn, h.omp, h.alt, h.oi, h.nb⟩, hk⟩
theorem wrap_I64 (z : Int) : I64 (wrap64 z) := by
  have := RowKit.wrap64_wf z
  simpa [I64, Lit.wf, IntKind.min, IntKind.max, IntKind.signed, IntKind.bits] using this
theorem ap_I64 (op : ByteArray) (a b : Int) : I64 (Rn.ap op a b) := by
  unfold Rn.ap Rn.tr
  split
  · exact wrap_I64 _
  · split
    · exact wrap_I64 _
    · split
      · exact wrap_I64 _
      · split
        · split <;> (unfold I64; omega)
        · split <;> (unfold I64; omega)
theorem gt_I64 {w : World} {c : Cfg} {nm : List (ByteArray × ByteArray)} {s : Rn.Sta} (h : MaAt w c nm s) {mn : ByteArray} {o : Rn.Own} (ho : ∀ s v, o s = some v → I64 v) (n : ByteArray) : I64 (Rn.gt nm mn o n s).1 := by
  unfold Rn.gt
  split
  · cases hn : o n with
    | none => simp only [Option.getD_none]; unfold I64; omega
    | some v => simp only [Option.getD_some]; exact ho n v hn
  · rename_i i _
    cases hv : s.vs[i]? with
    | none => simp only [Option.map_none, Option.getD_none]; unfold I64; omega
    | some v => simp only [Option.map_some, Option.getD_some]; exact h.val v (List.mem_of_getElem? hv)
set_option maxHeartbeats 8000000 in
set_option maxRecDepth 100000 in
theorem eval_step (W : World) (c : Cfg) (nm : List (ByteArray × ByteArray)) (l : List Mo) (m K : Nat) (F : Rn.Fns) (g : Nat) (hKm : m ≤ K) (hLe : Rn.Le (·.fuel) F) (hE : EvOk W c nm l m K F g) (hD : DoOk W c nm l m K F g) (hO : ModsOk W m c.vl l) :
    EvOk W c nm l m K (Rn.step nm l F) (g + 1) := by
  intro w s q a f om n o mm c0 c1 c2 c3 x hR hF hX hB hg
  have HEE := hide hE
  have HDD := hide hD
  have HOO := hide hO
  have HG := hide hg
  have HF := hide hF
  obtain ⟨m', rfl⟩ : ∃ m', mm = m' + 1 := by
    cases mm with
    | zero => exact absurd hX (fun h => h)
    | succ k => exact ⟨k, rfl⟩
  obtain ⟨rfl, rfl, rfl, hxs, hk64, hn64, xa, xb, xo, xc, rfl, hxa, hxl, hxe⟩ := hX
  have HXE := hide hxe
  have HXA := hide hxa
  have HXS := hide hxs
  have HN64 := hide hn64
  obtain ⟨R, hRR⟩ : ∃ R, R = (Rn.step nm l F).ev a f o x s := ⟨_, rfl⟩
  have hRE := hRR
  simp only [Rn.step] at hRE
  have HRE := hide hRE
  rw [← hRR]
  have HR := hide hR
  have HCN := hide hR.nle
  obtain ⟨na, hna⟩ : ∃ n, n = x.args.length := ⟨_, rfl⟩
  have HNA := hide hna
  have hkind : x.kind = 1 ∨ x.kind = 2 ∨ (x.kind = 3 ∧ x.args.length = 2 ∧ x.args.all (Lat.exprB m') = true) ∨ (x.kind = 4 ∧ x.args.length ≤ 4 ∧ x.args.all (Lat.exprB m') = true) := by
    unfold Lat.exprB at hB
    by_cases k1 : x.kind = 1
    · exact Or.inl k1
    · rw [if_neg k1] at hB
      by_cases k2 : x.kind = 2
      · exact Or.inr (Or.inl k2)
      · rw [if_neg k2] at hB
        by_cases k3 : x.kind = 3
        · rw [if_pos k3] at hB
          simp only [Bool.and_eq_true, beq_iff_eq] at hB
          exact Or.inr (Or.inr (Or.inl ⟨k3, hB.1.2, hB.2⟩))
        · rw [if_neg k3] at hB
          by_cases k4 : x.kind = 4
          · rw [if_pos k4] at hB
            simp only [Bool.and_eq_true, decide_eq_true_eq] at hB
            exact Or.inr (Or.inr (Or.inr ⟨k4, hB.1.2, hB.2⟩))
          · rw [if_neg k4] at hB; cases hB
  rw [← hna] at hxl HXA hkind ⊢
  have HR0 := hide (hR.box (.cells #[.int .i64 x.kind, .int .i64 x.n, .string x.name, .slice xa na xc] 103))
  have HBX0 := hide (block_new w (.cells #[.int .i64 x.kind, .int .i64 x.n, .string x.name, .slice xa na xc] 103))
  have HK0 : Hid (Kp c none w (w.alloc (.cells #[.int .i64 x.kind, .int .i64 x.n, .string x.name, .slice xa na xc] 103))) := hide (Kp.of_below (boxBelow _ _) hR.nle)
  clear hR hE hD hO hg hF hB hxs hk64 hn64 hxa hxe hRE hRR hna
  by_cases k1 : x.kind = 1
  · as_aux_lemma =>
      have k1' : (x.kind == 1) = true := by simp [k1]
      rw [if_pos k1] at HRE
      clear k1 hkind
      go_enter Tryz.func147, Tryz.ntmps147
      go_wp2_with fail
      go_ret2
      exact ⟨by rw [HRE.out]; rfl, hide (by rw [HRE.out]; exact ⟨HR0.out.ma, HK0.out, HN64.out⟩)⟩
  · have k1' : (x.kind == 1) = false := by simp [k1]
    rw [if_neg k1] at HRE
    by_cases k2 : x.kind = 2
    · as_aux_lemma =>
        have k2' : (x.kind == 2) = true := by simp [k2]
        rw [if_pos k2] at HRE
        clear k1 k2 hkind
        have HC := hide (get_any W _ c nm l m s q a f om n o x.name HR0.out HXS.out)
        have HI6 := hide (gt_I64 HR0.out.ma (mn := Rn.mn l a) HR0.out.oi x.name)
        go_enter Tryz.func147, Tryz.ntmps147
        go_wp2_with fail
        refine HC.out.mono ?_
        rintro e w5 ⟨rfl, HM5⟩
        go_wp2_with fail
        go_ret2
        exact ⟨by rw [HRE.out]; rfl, hide (by rw [HRE.out]; exact ⟨HM5.out.1, HK0.out.trans HM5.out.2, HI6.out⟩)⟩
    · have k2' : (x.kind == 2) = false := by simp [k2]
      rw [if_neg k2] at HRE
      have hna4 : na ≤ 4 := by rcases hkind with h | h | h | h <;> omega
      have HAL : Hid (x.args.all (Lat.exprB m') = true) := hide (by rcases hkind with h | h | h | h; exact absurd h k1; exact absurd h k2; exact h.2.2; exact h.2.2)
      have HKD : Hid ((x.kind = 3 ∧ na = 2) ∨ x.kind = 4) := hide (by rcases hkind with h | h | h | h; exact absurd h k1; exact absurd h k2; exact Or.inl ⟨h.1, h.2.1⟩; exact Or.inr h.1)
      have hmk := run_make_row' (P := Tryz.prog) 47 3 (.int .i64 0) 8 Tryz.underlying47 infoInt rfl .i64 .i64 na (by omega) (by omega)
      have HR1 := hide (HR0.out.box (.cells (madeCells #[.int .i64 0] na) 3))
      have HRW1 := hide (block_new (w.alloc (.cells #[.int .i64 x.kind, .int .i64 x.n, .string x.name, .slice xa na xc] 103)) (.cells (madeCells #[.int .i64 0] na) 3))
      have HBX1 := hide (block_alloc HBX0.out (.cells (madeCells #[.int .i64 0] na) 3))
      have HK1 := hide (HK0.out.trans (Kp.of_below (boxBelow _ (.cells (madeCells #[.int .i64 0] na) 3)) HR0.out.nle))
      clear k1 k2 hkind HBX0 HK0 HR0
      go_enter Tryz.func147, Tryz.ntmps147
      go_wp2_with fail
      obtain ⟨B, hBw⟩ : ∃ b, b = w.heap.size := ⟨_, rfl⟩
      rw [World.size_alloc] at HRW1
      have HBX1' : Hid (((w.alloc (.cells #[.int .i64 x.kind, .int .i64 x.n, .string x.name, .slice xa na xc] 103)).alloc (.cells (madeCells #[.int .i64 0] na) 3)).heap[B]? = some (.cells #[.int .i64 x.kind, .int .i64 x.n, .string x.name, .slice xa na xc] 103 (0, 0))) := hide (by rw [hBw]; exact HBX1.out)
      have HRW : Hid (RowI ((w.alloc (.cells #[.int .i64 x.kind, .int .i64 x.n, .string x.name, .slice xa na xc] 103)).alloc (.cells (madeCells #[.int .i64 0] na) 3)) (B + 1) na []) := hide ⟨madeCells #[.int .i64 0] na, by rw [hBw]; exact HRW1.out, by simp [madeCells], fun i v h => by simp at h⟩
      generalize ((w.alloc (.cells #[.int .i64 x.kind, .int .i64 x.n, .string x.name, .slice xa na xc] 103)).alloc (.cells (madeCells #[.int .i64 0] na) 3)) = W2 at *
      rw [← hBw] at HCN ⊢
      have HBW := hide hBw
      clear hBw hmk HBX1 HRW1
      obtain ⟨EV, hEV⟩ : ∃ E, E = Rn.evs (F.ev a f o) x.args s := ⟨_, rfl⟩
      have HEV := hide hEV
      rw [← hEV] at HRE
      clear hEV
      go_loopw [30] (fun i wx => ∃ t : Nat, t ≤ na ∧ i = .int .i64 t ∧ ∃ (s' : Rn.Sta) (vals : List Int), Hid (Run W wx c nm l m s' q a f om n o ∧ Kp c none w wx ∧ wx.heap[B]? = some (.cells #[.int .i64 x.kind, .int .i64 x.n, .string x.name, .slice xa na xc] 103 (0, 0)) ∧ RowI wx (B + 1) na vals ∧ vals.length = t ∧ (∀ v ∈ vals, I64 v) ∧
          EV = (vals ++ (Rn.evs (F.ev a f o) (x.args.drop t) s').1, (Rn.evs (F.ev a f o) (x.args.drop t) s').2) ∧ s'.fuel ≤ s.fuel)) (fun i _ => na - (intOf i).toNat)
      case atStart => exact ⟨0, Nat.zero_le _, rfl, s, [], hide ⟨HR1.out, HK1.out, HBX1'.out, HRW.out, rfl, fun v h => by simp at h, by rw [List.drop_zero, List.nil_append]; exact HEV.out, Nat.le_refl _⟩⟩
      case round =>
        obtain ⟨t, ht, rfl, s', vals, HI⟩ := hrel
        by_cases htn : t < na
        · obtain ⟨y, hy⟩ : ∃ y, x.args[t]? = some y := ⟨_, List.getElem?_eq_getElem (by rw [← HNA.out]; exact htn)⟩
          obtain ⟨e0, e1, e2, e3, g0, g1, g2, g3, hye⟩ := HXE.out t y hy
          obtain rfl := HXA.out (by omega)
          have HAT := hide (evs_at (f := F.ev a f o) hy s')
          have HYB : Hid (Lat.exprB m' y = true) := hide (by have h1 := HAL.out; rw [List.all_eq_true] at h1; exact h1 y (List.mem_of_getElem? hy))
          have HYE := hide hye
          replace g0 := HI.out.1.cell g0
          replace g1 := HI.out.1.cell g1
          replace g2 := HI.out.1.cell g2
          replace g3 := HI.out.1.cell g3
          obtain ⟨ya, yc, rfl, rfl, rfl, rfl⟩ := hye.shape
          generalize y.args.length = ny at *
          have HR2 := hide (HI.out.1.box (.cells #[.int .i64 y.kind, .int .i64 y.n, .string y.name, .slice ya ny yc] 103))
          have HK2 : Hid (Kp c none w (wr.alloc (.cells #[.int .i64 y.kind, .int .i64 y.n, .string y.name, .slice ya ny yc] 103))) := hide (HI.out.2.1.trans (Kp.of_below (boxBelow _ _) HI.out.1.nle))
          have HBX2 := hide (block_alloc HI.out.2.2.1 (.cells #[.int .i64 y.kind, .int .i64 y.n, .string y.name, .slice ya ny yc] 103))
          have HRW2 := hide (HI.out.2.2.2.1.same (w' := wr.alloc (.cells #[.int .i64 y.kind, .int .i64 y.n, .string y.name, .slice ya ny yc] 103)) (fun cs h => block_alloc h _))
          have HC := hide (HEE.out _ s' q a f om n o m' _ _ _ _ y HR2.out HF.out HYE.out HYB.out (by
            have h1 := HG.out
            have h2 : s'.fuel * K ≤ s.fuel * K := Nat.mul_le_mul_right K HI.out.2.2.2.2.2.2.2
            omega))
          obtain ⟨V, hVV⟩ : ∃ V, V = F.ev a f o y s' := ⟨_, rfl⟩
          have HVL : Hid (V.2.2.fuel ≤ s'.fuel) := hide (by rw [hVV]; exact hLe.1 a f o y s')
          rw [← hVV] at HC HAT
          clear hVV hy hye
          obtain ⟨wo, rfl⟩ : ∃ wo, wo = wr := ⟨_, rfl⟩
          go_wp2_with fail
          refine HC.out.mono ?_
          rintro e w5 ⟨rfl, HM5⟩
          have HR5 := hide (HR2.out.ev HM5.out.1 HM5.out.2.1 HVL.out)
          have HK5 := hide (HK2.out.trans HM5.out.2.1)
          have HBX5 := hide (HR2.out.stay HM5.out.2.1 (Or.inl rfl) HBX2.out (by decide) (by decide) (by decide))
          have HRW5 := hide (HRW2.out.same (w' := w5) (fun cs h => HR2.out.stay HM5.out.2.1 (Or.inl rfl) h (by decide) (by decide) (by decide)))
          have HI5 := hide HM5.out.2.2
          clear g0 g1 g2 g3 HC HM5 HR2 HK2 HBX2 HRW2
          by_cases hv : V.2.1 = 0
          · rw [if_pos hv] at HAT
            rw [hv]
            clear hv
            obtain ⟨⟨u, hu⟩, hz⟩ := HRW5.out.cell htn
            obtain ⟨cs, hcs, hcz, hcv⟩ := HRW5.out
            have hcn : c.n ≤ B + 1 := by have := HCN.out; omega
            have hr6 := HR5.out.setI hcs hcn t (.int .i64 V.1)
            have HR6 := hide hr6.1
            have HK6 : Hid (Kp c none w (w5.setCell ⟨B + 1, t, none⟩ (.int .i64 V.1))) := hide ((HK5.out.more.trans hr6.2).fresh (by have := HBW.out; omega))
            have HRW6 := hide (HRW5.out.set HI.out.2.2.2.2.1 htn V.1)
            have HBX6 := hide (block_other (a := ⟨B + 1, t, none⟩) HBX5.out (by show B ≠ B + 1; omega) (.int .i64 V.1))
            clear hcs hcz hcv hcn hr6
            go_wp2_with fail
            go_roundw
            case rel => exact ⟨t + 1, by omega, by go_num, V.2.2, vals ++ [V.1], hide ⟨HR6.out, HK6.out, HBX6.out, HRW6.out, by rw [List.length_append, HI.out.2.2.2.2.1]; rfl, fun v hv => by
              rcases List.mem_append.1 hv with hv | hv
              · exact HI.out.2.2.2.2.2.1 v hv
              · simp at hv; subst hv; exact HI5.out, by rw [HI.out.2.2.2.2.2.2.1, HAT.out, List.append_assoc]; rfl, Nat.le_trans HVL.out HI.out.2.2.2.2.2.2.2⟩⟩
            case measure => simp [intOf]; omega
          · as_aux_lemma =>
              have hv' : (V.2.1 == 0) = false := by simp [hv]
              rw [if_neg hv] at HAT
              have HEE2 : Hid (EV.2 = V.2) := hide (by rw [HI.out.2.2.2.2.2.2.1, HAT.out])
              have HRV : Hid (R = (0, V.2)) := hide (by rw [HRE.out, if_neg (by rw [HEE2.out]; exact hv), HEE2.out])
              clear hv
              go_wp2_with fail
              go_ret2
              exact ⟨by rw [HRV.out]; rfl, hide (by rw [HRV.out]; exact ⟨HR5.out.ma, HK5.out, by unfold I64; omega⟩)⟩
        · have hte : t = na := by omega
          have HEE2 : Hid (EV = (vals, 0, s')) := hide (by rw [HI.out.2.2.2.2.2.2.1, hte, HNA.out, List.drop_length]; simp [Rn.evs])
          rw [HEE2.out, if_pos rfl] at HRE
          have HVN : Hid (vals.length = na) := hide (by rw [HI.out.2.2.2.2.1, hte])
          have b0 := (block_at HI.out.2.2.1 0).trans rfl
          have b2 := (block_at HI.out.2.2.1 2).trans rfl
          clear hte
          obtain ⟨wo, rfl⟩ : ∃ wo, wo = wr := ⟨_, rfl⟩
          by_cases k4 : x.kind = 4
          · as_aux_lemma =>
              have k4' : (x.kind == 4) = true := by simp [k4]
              rw [if_pos k4] at HRE
              clear k4
              have HC := hide (call_any W c nm l m K F g hKm HEE.out HDD.out HOO.out wo s' q a f om n o x.name (.slice (some ⟨B + 1, 0, none⟩) na na) vals HI.out.1 HF.out HXS.out (HI.out.2.2.2.1.ints HVN.out (by omega))
                (fun w' hk => (HI.out.2.2.2.1.same (w' := w') (fun cs h => HI.out.1.stay hk (Or.inl rfl) h (by decide) (by decide) (by decide))).ints HVN.out (by omega)) HI.out.2.2.2.2.2.1 (by
                  have h1 := HG.out
                  have h2 : s'.fuel * K ≤ s.fuel * K := Nat.mul_le_mul_right K HI.out.2.2.2.2.2.2.2
                  omega))
              rw [← HRE.out] at HC
              go_wp2_with fail
              refine HC.out.mono ?_
              rintro e w6 ⟨rfl, HM6⟩
              clear b0 b2
              go_wp2_with fail
              go_ret2
              exact ⟨rfl, hide ⟨HM6.out.1, HI.out.2.1.trans HM6.out.2.1, HM6.out.2.2⟩⟩
          · as_aux_lemma =>
              have k4' : (x.kind == 4) = false := by simp [k4]
              rw [if_neg k4] at HRE
              have hn2 : na = 2 := by rcases HKD.out with h | h; exact h.2; exact absurd h k4
              clear k4
              obtain ⟨v0, v1, hvs⟩ : ∃ v0 v1, vals = [v0, v1] := by
                have := HVN.out
                rw [hn2] at this
                match vals, this with
                | [v0, v1], _ => exact ⟨v0, v1, rfl⟩
              have y0 := HI.out.2.2.2.1.val (i := 0) (v := v0) (by rw [hvs]; rfl)
              have y1 := HI.out.2.2.2.1.val (i := 1) (v := v1) (by rw [hvs]; rfl)
              have HAP := hide (fun n => apply_any (wo.drewN n) x.name v0 v1)
              have HRV : Hid (R = (Rn.ap x.name v0 v1, 0, s')) := hide (by rw [HRE.out, hvs]; rfl)
              subst hn2
              go_wp2_with fail
              go_quiet ((exact Calls.quiet_of_same (HAP.out _)))
              go_wp2_with fail
              go_ret2
              exact ⟨by rw [HRV.out]; rfl, hide (by rw [HRV.out]; exact ⟨HI.out.1.ma.drewN _, HI.out.2.1.drewN _, ap_I64 _ _ _⟩)⟩
end Go.Proofs.YtholefgckcoklaaGreatDoor
