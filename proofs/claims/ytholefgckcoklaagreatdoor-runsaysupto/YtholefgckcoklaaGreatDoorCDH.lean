/- Walks over package downref: call. -/
import Derived.Test.YtholefgckcoklaaGreatDoorZBL
import Derived.Test.YtholefgckcoklaaGreatDoorZBM
namespace Go.Proofs.YtholefgckcoklaaGreatDoor
open Go.RowKit
def FunsOk (m : Nat) (l : List Mo) : Prop := ∀ (a : Nat) (x : Mo), l[a]? = some x → ∀ (f : Nat) (fu : Fu), x.funs[f]? = some fu → Lat.bodyB m fu.body = true ∧ Lat.exprB m fu.result = true
theorem rowBase {w : World} {n n' e k len : Nat} {v : Value} {xs : List Value} (h : w.ownsRow n e k v len xs) (hn : n' ≤ n) : w.ownsRow n' e k v len xs := by
  obtain ⟨h0, h1⟩ := h
  refine ⟨h0, ?_⟩
  rcases h1 with h1 | ⟨g, cap, cur, hv, hg, r⟩
  · exact Or.inl h1
  · exact Or.inr ⟨g, cap, cur, hv, Nat.le_trans hn hg, r⟩
theorem drun_new {W w W9 : World} {c : Dc} {nm : List (ByteArray × ByteArray)} {l : List Mo} {m : Nat} {s : Rn.Sta} {vp vd : Value} {D : List ByteArray} {q a : Nat} {x : Mo} {f : Nat} {fu : Fu} {args : List Int} {vns vvs vi vv vf vpar : Value} (hbel : Below W.heap.size W w) (hcn : c.n = W.heap.size) (hM : MosAt W m c.vl l) (hdm : DoM w c nm s vp vd D) (hdk : Rn.DidOk nm s D) (hx : l[a]? = some x) (hfu : x.funs[f]? = some fu) (hpos : ∀ n, (Rn.pos nm x.name n).isSome = Rn.hasB x n) (hxs : x.name.size ≤ 8)
    (hmo : MoAt W m (.agg #[.string x.name, vi, vv, vf]) x) (hst : Strs W vpar fu.params) (hvi : ∀ v ∈ args, I64 v) (hla : args.length ≤ 4) (hlen : fu.params.length = args.length) (hb9 : Below w.heap.size w W9) (hblk : W9.heap[q]? = some (.cells #[.string x.name, vi, vv, vf, .int .i64 f, vns, vvs] 243 (0, 0))) (hq : w.heap.size ≤ q) (hn : Own W9 w.heap.size vns fu.params) (hv : OwnI W9 w.heap.size vvs args) :
    DRun W W9 c nm l m s vp vd D q a x f fu.params args vns vvs ∧ Kq c vp vd w vp vd W9 ∧ (∀ k, vns.ownBlock = some k → w.heap.size ≤ k) ∧ (∀ k, vvs.ownBlock = some k → w.heap.size ≤ k) := by
  have hnl := hdm.nle
  have hnb : ∀ k, vns.ownBlock = some k → w.heap.size ≤ k := fun k hk => (World.ownsRow.lt hn k hk).1
  have hpa : (x.funs[f]?.map (·.params)).getD [] = fu.params := by rw [hfu]; rfl
  refine ⟨⟨up hbel hb9, hcn, hM, hdm.below hb9, hdk, ⟨Nat.le_trans hnl hq, ⟨vi, vv, vf, hblk, hmo⟩, rowBase hn hnl, rowBase hv hnl, hlen, ?_, hvi⟩, fun k h1 h2 => ?_, hx, (List.getElem?_eq_some_iff.1 hfu).1, hpos, fun p hp => by rw [hpa] at hp; exact hp, fun n hn' => ?_, ?_, hxs⟩, Kq.of_below hb9 hnl, hnb, fun k hk => (World.ownsRow.lt hv k hk).1⟩
  · obtain ⟨_, _, _, _, _, _, _, h1, _⟩ := hst
    exact h1
  · obtain ⟨cur, hc⟩ := row_typ hdm.did h2
    have := block_lt hc
    have := hnb k h1
    omega
  · unfold Rn.mineB
    rw [hpa, Bool.or_eq_true]
    exact Or.inl (by simpa using Rn.index_mem.2 hn')
  · have := hdm.room
    omega
set_option maxHeartbeats 8000000 in
set_option maxRecDepth 100000 in
theorem dcall_step (W : World) (c : Dc) (nm : List (ByteArray × ByteArray)) (l : List Mo) (m K : Nat) (F : Rn.Fns) (g : Nat) (hcn : c.n = W.heap.size) (hM : MosAt W m c.vl l) (hLe : Rn.Le (·.fuel) F) (hE : EvD W c nm l m K F g) (hB : BoD W c nm l m K F g) (hO : FunsOk m l) :
    CaD W c nm l m K F g := by
  intro w s vp vd D a x f args va vi vv vf hbel hdm hdk hx hf hpos hxs hmo hva hvi hvl hg
  obtain ⟨fu, hfu⟩ : ∃ fu, x.funs[f]? = some fu := ⟨_, List.getElem?_eq_getElem hf⟩
  obtain ⟨R, hR⟩ : ∃ R, R = Rn.enter F l a f args s := ⟨_, rfl⟩
  rw [← hR]
  have HRE : Hid (R = if fu.params.length = args.length then
      if (Rn.dos (F.dO a f) fu.body (Rn.own0 fu.params args) s).1 = 0 then F.ev a f (Rn.dos (F.dO a f) fu.body (Rn.own0 fu.params args) s).2.1 fu.result (Rn.dos (F.dO a f) fu.body (Rn.own0 fu.params args) s).2.2
      else (0, (Rn.dos (F.dO a f) fu.body (Rn.own0 fu.params args) s).1, (Rn.dos (F.dO a f) fu.body (Rn.own0 fu.params args) s).2.2)
    else (0, 5, s)) := hide (by rw [hR]; unfold Rn.enter; rw [hx]; simp only [Option.bind_some, hfu])
  have HMO := hide hmo
  obtain ⟨fa, fb, fo, fc, rfl, hfa, hfl, hfe⟩ := hmo.split.2.2
  obtain ⟨hfn, vpar, vbo, e0, e1, e2, e3, g0, g1, g2, g3, g4, g5, g6, hpar, hbo, hre⟩ := hfe f fu hfu
  have HPAR := hide hpar
  have HBO := hide hbo
  have HRS := hide hre
  obtain ⟨pa, pb, po, pc, rfl, hpa, hpl, hps⟩ := hpar
  have hbos := hbo
  obtain ⟨ba, bc, rfl, hbl⟩ := hbo.shape
  obtain ⟨ra, rc, rfl, rfl, rfl, rfl⟩ := hre.shape
  obtain ⟨ia, ib, io, ic, rfl, -⟩ := hmo.split.1
  obtain ⟨vva, vvb, vvo, vvc, rfl, -⟩ := hmo.split.2.1
  obtain ⟨ga, gc, hgv⟩ : ∃ a cc, va = .slice a args.length cc := by
    obtain ⟨a, _, _, cc, e, _⟩ := hva
    exact ⟨a, cc, e⟩
  subst hgv
  have HVA := hide hva
  have HVI := hide hvi
  have HG := hide hg
  have HDM := hide hdm
  have HDK := hide hdk
  have HBEL := hide hbel
  have HPOS := hide hpos
  have HX := hide hx
  have HFU := hide hfu
  have HFO := hide (hO a x hx f fu hfu)
  have HM := hide hM
  have HEE := hide hE
  have HBB := hide hB
  replace g0 := fun o => cellUp (cellUp g0 hbel) (boxBelow w o)
  replace g1 := fun o => cellUp (cellUp g1 hbel) (boxBelow w o)
  replace g2 := fun o => cellUp (cellUp g2 hbel) (boxBelow w o)
  replace g3 := fun o => cellUp (cellUp g3 hbel) (boxBelow w o)
  replace g4 := fun o => cellUp (cellUp g4 hbel) (boxBelow w o)
  replace g5 := fun o => cellUp (cellUp g5 hbel) (boxBelow w o)
  replace g6 := fun o => cellUp (cellUp g6 hbel) (boxBelow w o)
  obtain ⟨np, hnp⟩ : ∃ n, n = fu.params.length := ⟨_, rfl⟩
  obtain ⟨ng, hng⟩ : ∃ n, n = args.length := ⟨_, rfl⟩
  have HNP := hide hnp
  have HNG := hide hng
  rw [← hnp] at g1 HRE hpl
  rw [← hng] at HRE HVA hvl ⊢
  obtain ⟨nf, hnf⟩ : ∃ n, n = x.funs.length := ⟨_, rfl⟩
  have HNF := hide hnf
  rw [← hnf] at hf hfa hfl HMO ⊢
  obtain rfl := hfa (by omega)
  generalize x.imports.length = ni at *
  generalize x.vars.length = nv at *
  generalize fu.body.length = nb at *
  generalize fu.result.args.length = nr at *
  have hff : (f : Int) < (nf : Int) := by omega
  have HXS := hide hxs
  obtain ⟨xn, hxn⟩ : ∃ z, z = x.name := ⟨_, rfl⟩
  clear hR hmo hfe hbo hre hva hvi hg hdm hdk hbel hpos hx hfu hO hE hB hnp hng hnf hbos hps hfa hM hxs
  by_cases hlen : np = ng
  · subst hlen
    rw [if_pos rfl] at HRE
    obtain ⟨W2, hW2⟩ : ∃ W2, W2 = (w.alloc (.cells #[.string x.name, .slice ia ni ic, .slice vva nv vvc, .slice (some ⟨fb, fo, none⟩) nf fc] 26)).alloc (.cells #[.string fu.name, .slice pa np pc, .slice ba nb bc, .int .i64 fu.result.kind, .int .i64 fu.result.n, .string fu.result.name, .slice ra nr rc] 106) := ⟨_, rfl⟩
    obtain ⟨B, hBw⟩ : ∃ b, b = w.heap.size := ⟨_, rfl⟩
    have HB2 : Hid (Below w.heap.size w W2) := hide (by rw [hW2]; exact up (boxBelow _ _) (boxBelow _ _))
    have HMB : Hid (W2.heap[B]? = some (.cells #[.string x.name, .slice ia ni ic, .slice vva nv vvc, .slice (some ⟨fb, fo, none⟩) nf fc] 26 (0, 0))) := hide (by rw [hW2, hBw]; exact block_alloc (block_new _ _) _)
    have HFB : Hid (W2.heap[B + 1]? = some (.cells #[.string fu.name, .slice pa np pc, .slice ba nb bc, .int .i64 fu.result.kind, .int .i64 fu.result.n, .string fu.result.name, .slice ra nr rc] 106 (0, 0))) := hide (by rw [hW2, hBw, ← World.size_alloc]; exact block_new _ _)
    have HB0 := hide hBw
    go_enter Tryz.func69, Tryz.ntmps69
    go_wp2_with fail
    rw [← hW2, ← hBw]
    clear hW2 hBw g0 g1 g2 g3 g4 g5 g6 hff hfn hpl hbl hfl hf
    by_cases hz : 0 < np
    · obtain rfl := hpa (by rw [← HNP.out]; exact hz)
      obtain ⟨ga', gb, go, gcc, hge, hga, -, hgc⟩ := (show Ints w (.slice ga args.length gc) args by rw [← HNG.out]; exact HVA.out)
      injection hge with e1 e2 e3
      subst e1 e3
      obtain rfl := hga (by rw [← HNG.out]; exact hz)
      have HGC := hide hgc
      have HS1 : Hid (∀ wx, Below W2.heap.size W2 wx → ∀ j u, (fu.params.map Value.string)[j]? = some u → wx.cell? ((⟨pb, po, none⟩ : Addr).add j) = some u) := hide (fun wx hb j u hu => by
        obtain ⟨pa', pb', po', pc', he, hpa', _, _, hps⟩ := HPAR.out
        injection he with he1 he2 he3
        have hj := (List.getElem?_eq_some_iff.1 hu).1
        rw [List.length_map] at hj
        have e4 := hpa' (by omega)
        rw [← he1] at e4
        injection e4 with e4
        injection e4 with e5 e6
        subst e5 e6
        rw [Addr.add_lit]
        have h1 := hps j hj
        rw [List.getElem?_map, List.getElem?_eq_getElem hj] at hu
        simp at hu
        rw [← hu]
        rw [List.getD, List.getElem?_eq_getElem hj, Option.getD_some] at h1
        exact cellUp h1 (up (up HBEL.out HB2.out) hb))
      have HS2 : Hid (∀ wx, Below W2.heap.size W2 wx → ∀ j u, (args.map (Value.int .i64))[j]? = some u → wx.cell? ((⟨gb, go, none⟩ : Addr).add j) = some u) := hide (fun wx hb j u hu => by
        rw [List.getElem?_map] at hu
        obtain ⟨z, hz1, rfl⟩ := Option.map_eq_some_iff.1 hu
        rw [Addr.add_lit]
        exact cellUp (HGC.out j z hz1) (up HB2.out hb))
      obtain ⟨iS, hiS, hz0, hz1, hz2⟩ := info_parts infoStr
      obtain ⟨iI, hiI, hi0, hi1, hi2⟩ := info_parts infoInt
      have HSZ : Hid (c.n ≤ W2.heap.size ∧ w.heap.size ≤ W2.heap.size) := hide ⟨Nat.le_trans HDM.out.nle HB2.out.size, HB2.out.size⟩
      have q0 := (block_at HMB.out 0).trans rfl
      have q1 := (block_at HMB.out 1).trans rfl
      have q2 := (block_at HMB.out 2).trans rfl
      have q3 := (block_at HMB.out 3).trans rfl
      have r1 := (block_at HFB.out 1).trans rfl
      have HLA : Hid (args.length = np ∧ fu.params.length = np) := hide ⟨HNG.out.symm, HNP.out.symm⟩
      have HZ := hide hz
      clear hz e2 hga hgc
      go_region_law (first
        | (refine step_append_lies _ (by rfl) _ _ 22 (by rfl) w.heap.size 9 iS (.string ⟨#[]⟩) 1 16 Tryz.underlying22 hiS hz0 hz1 hz2 rfl (by decide) (.slice none 0 0) 0 [] (by rfl) ⟨by simp, Or.inl ⟨rfl, rfl⟩⟩ ⟨pb, po, none⟩ np pc (fu.params.map Value.string) (by rfl) (by rw [List.length_map, HLA.out.2, Nat.mul_one]) (HS1.out _ (below_drew1 (Below.refl _ _))) (fun u hu => by simp at hu; obtain ⟨a, _, rfl⟩ := hu; rfl) HZ.out (by have := hvl; unfold maxLen; omega) (by have := hvl; omega) HSZ.out.2 _ rfl ?_; intro g7 cap7 w7 hown7 hgrow7 hlie7 hlt7; have HB7 : Hid (Below W2.heap.size W2 w7) := hide (Below.grown (below_drew1 (Below.refl _ _)) hgrow7 (Nat.le_refl _) (fun k e => by cases e)); have HN7 := hide hown7; have HL7 := hide hlie7; have q0' := cellUp q0 HB7.out; have q1' := cellUp q1 HB7.out; have q2' := cellUp q2 HB7.out; have q3' := cellUp q3 HB7.out; clear hown7 hgrow7 hlie7 hlt7)
        | (refine step_append_lies _ (by rfl) _ _ 47 (by rfl) w.heap.size 3 iI (.int .i64 0) 1 8 Tryz.underlying47 hiI hi0 hi1 hi2 rfl (by decide) (.slice none 0 0) 0 [] (by rfl) ⟨by simp, Or.inl ⟨rfl, rfl⟩⟩ ⟨gb, go, none⟩ np gc (args.map (Value.int .i64)) (by rfl) (by rw [List.length_map, HLA.out.1, Nat.mul_one]) (HS2.out _ HB7.out) (fun u hu => by simp at hu; obtain ⟨a, _, rfl⟩ := hu; rfl) HZ.out (by have := hvl; unfold maxLen; omega) (by have := hvl; omega) (Nat.le_trans HSZ.out.2 HB7.out.size) _ rfl ?_; intro g8 cap8 w8 hown8 hgrow8 hlie8 hlt8; have HB8 : Hid (Below W2.heap.size W2 w8) := hide (Below.grown HB7.out hgrow8 HB7.out.size (fun k e => by cases e)); have HN8 := hide hown8; have HL8 := hide hlie8; have HG8 := hide hgrow8; have q0'' := cellUp q0 HB8.out; have q1'' := cellUp q1 HB8.out; have q2'' := cellUp q2 HB8.out; have q3'' := cellUp q3 HB8.out; clear hown8 hgrow8 hlie8 hlt8)
        | fail)
      all_goals
        clear q0 q1 q2 q3 r1 q0' q1' q2' q3' q0'' q1'' q2'' q3''
        have HO7 : Hid (Own w8 w.heap.size (.slice (some ⟨g7, 0, none⟩) np cap7) fu.params) := hide (by
          have h1 := own_below HN7.out (show Below w7.heap.size w7 w8 from Below.grown (Below.refl _ _) HG8.out (Nat.le_refl _) (fun k e => by cases e))
          unfold Own
          rw [HLA.out.2]
          simpa using h1)
        have HO8 : Hid (OwnI w8 w.heap.size (.slice (some ⟨g8, 0, none⟩) np cap8) args) := hide (by
          unfold OwnI
          rw [HLA.out.1]
          simpa using HN8.out)
        obtain ⟨W9, hW9⟩ : ∃ W9, W9 = w8.alloc (.cells #[.string x.name, .slice ia ni ic, .slice vva nv vvc, .slice (some ⟨fb, fo, none⟩) nf fc, .int .i64 f, .slice (some ⟨g7, 0, none⟩) np cap7, .slice (some ⟨g8, 0, none⟩) np cap8] 243) := ⟨_, rfl⟩
        have HW9 : Hid (Below w8.heap.size w8 W9) := hide (by rw [hW9]; exact boxBelow _ _)
        have HQ9 : Hid (W9.heap[w8.heap.size]? = some (.cells #[.string x.name, .slice ia ni ic, .slice vva nv vvc, .slice (some ⟨fb, fo, none⟩) nf fc, .int .i64 f, .slice (some ⟨g7, 0, none⟩) np cap7, .slice (some ⟨g8, 0, none⟩) np cap8] 243 (0, 0))) := hide (by rw [hW9]; exact block_new _ _)
        have HD9 := hide (drun_new (a := a) HBEL.out hcn HM.out HDM.out HDK.out HX.out HFU.out HPOS.out HXS.out HMO.out HPAR.out HVI.out (by rw [HLA.out.1]; exact hvl) (by rw [HLA.out.1, HLA.out.2]) (up (up HB2.out HB8.out) HW9.out) HQ9.out (Nat.le_trans HSZ.out.2 HB8.out.size) (own_below HO7.out HW9.out) (own_below HO8.out HW9.out))
        have HF9 := hide (at_upD HFB.out (up HB8.out HW9.out))
        obtain ⟨q, hq⟩ : ∃ q, q = w8.heap.size := ⟨_, rfl⟩
        rw [← hq] at HD9
        have f2 : ∀ o, (w8.alloc o).cell? ⟨B + 1, 2, none⟩ = some (.slice ba nb bc) := fun o => (block_at (at_upD HFB.out (up HB8.out (boxBelow w8 o))) 2).trans rfl
        have HC := hide (HBB.out W9 s vp vd D q a x f fu.params args _ _ m _ fu.body HD9.out.1 HBO.out HFO.out.1 HG.out)
        obtain ⟨DD, hDD⟩ : ∃ z, z = Rn.dos (F.dO a f) fu.body (Rn.own0 fu.params args) s := ⟨_, rfl⟩
        have HDL : Hid (DD.2.2.fuel ≤ s.fuel) := hide (by rw [hDD]; exact Rn.dos_mea (μ := (·.fuel)) (fun o c s => hLe.2.1 a f o c s) _ _ _)
        rw [← hDD] at HC HRE
        have HQB : Hid (B + 1 ≠ q) := hide (fun e => by have h1 := block_lt HFB.out; have h2 := HB8.out.size; omega)
        have HQL : Hid (w.heap.size ≤ q) := hide (by rw [hq]; exact Nat.le_trans HSZ.out.2 HB8.out.size)
        clear hDD
        go_wp2_with fail
        rw [← hW9, ← hq]
        refine HC.out.mono ?_
        rintro r w10 ⟨rfl, HM10⟩
        clear hW9 hq f2 HC
        obtain ⟨vp1, vd1, D1, ns1, vals1, vns1, vvs1, hrun, hown, hkb⟩ := HM10.out
        have HRUN := hide hrun
        have HOWN := hide hown
        have HK10 := hide (Kb.fresh HD9.out.2.1 hkb HQL.out HD9.out.2.2.1 HD9.out.2.2.2)
        have hfb := hkb.block _ _ HF9.out (HD9.out.1.dm.cold HF9.out (by decide) (by decide) (by decide) (by decide)) HQB.out (fun e => by
          obtain ⟨cur, hc⟩ := row_typ HD9.out.1.on.nrow e
          exact block_ne HF9.out hc (by decide) rfl) (fun e => by
          obtain ⟨cur, hc⟩ := row_typ HD9.out.1.on.vrow e
          exact block_ne HF9.out hc (by decide) rfl)
        have f3 := (block_at hfb 3).trans rfl
        have f4 := (block_at hfb 4).trans rfl
        have f5 := (block_at hfb 5).trans rfl
        have f6 := (block_at hfb 6).trans rfl
        clear hrun hown hkb hfb HM10
        by_cases hv : DD.1 = 0
        · rw [if_pos hv] at HRE
          rw [hv]
          clear hv
          rw [HOWN.out] at HRE
          have HC := hide (HEE.out w10 DD.2.2 vp1 vd1 D1 q a x f ns1 vals1 vns1 vvs1 m _ _ _ _ fu.result HRUN.out HRS.out HFO.out.2 (by
            have h1 := HG.out
            have h2 : DD.2.2.fuel * K ≤ s.fuel * K := Nat.mul_le_mul_right K HDL.out
            omega))
          rw [← HRE.out] at HC
          go_wp2_with fail
          refine HC.out.mono ?_
          rintro r w11 ⟨rfl, HM11⟩
          clear f3 f4 f5 f6
          go_wp2_with fail
          go_ret2
          refine ⟨rfl, hide ⟨?_, HM11.out.2⟩⟩
          obtain ⟨vp2, vd2, D2, h1, h2, h3⟩ := HM11.out.1
          exact ⟨vp2, vd2, D2, h1, h2, HK10.out.trans h3⟩
        · have hv' : (DD.1 == 0) = false := by simp [hv]
          rw [if_neg hv] at HRE
          clear hv
          go_wp2_with fail
          go_ret2
          exact ⟨by rw [HRE.out]; rfl, hide (by rw [HRE.out]; exact ⟨⟨vp1, vd1, D1, HRUN.out.dm, HRUN.out.dk, HK10.out⟩, by unfold I64; omega⟩)⟩
    · obtain rfl : np = 0 := by omega
      have q0 := (block_at HMB.out 0).trans rfl
      have q1 := (block_at HMB.out 1).trans rfl
      have q2 := (block_at HMB.out 2).trans rfl
      have q3 := (block_at HMB.out 3).trans rfl
      have r1 := (block_at HFB.out 1).trans rfl
      have HLA : Hid (args.length = 0 ∧ fu.params.length = 0) := hide ⟨HNG.out.symm, HNP.out.symm⟩
      have HSZ : Hid (c.n ≤ W2.heap.size ∧ w.heap.size ≤ W2.heap.size) := hide ⟨Nat.le_trans HDM.out.nle HB2.out.size, HB2.out.size⟩
      clear hz
      cases pa <;> cases ga
      all_goals go_region_law (fail)
      all_goals
        clear q0 q1 q2 q3 r1
        have HB8 : Hid (Below W2.heap.size W2 W2) := hide (Below.refl _ _)
        have HO7 : Hid (Own W2 w.heap.size (.slice none 0 0) fu.params) := hide (by
          rw [List.length_eq_zero_iff.1 HLA.out.2]
          exact ⟨by simp, Or.inl ⟨rfl, rfl⟩⟩)
        have HO8 : Hid (OwnI W2 w.heap.size (.slice none 0 0) args) := hide (by
          rw [List.length_eq_zero_iff.1 HLA.out.1]
          exact ⟨by simp, Or.inl ⟨rfl, rfl⟩⟩)
        obtain ⟨W9, hW9⟩ : ∃ W9, W9 = (W2.alloc (.cells #[.string x.name, .slice ia ni ic, .slice vva nv vvc, .slice (some ⟨fb, fo, none⟩) nf fc, .int .i64 f, .slice none 0 0, .slice none 0 0] 243)).drew := ⟨_, rfl⟩
        have HW9 : Hid (Below W2.heap.size W2 W9) := hide (by rw [hW9]; exact below_drew1 (boxBelow _ _))
        have HQ9 : Hid (W9.heap[W2.heap.size]? = some (.cells #[.string x.name, .slice ia ni ic, .slice vva nv vvc, .slice (some ⟨fb, fo, none⟩) nf fc, .int .i64 f, .slice none 0 0, .slice none 0 0] 243 (0, 0))) := hide (by rw [hW9]; exact block_new _ _)
        have HD9 := hide (drun_new (a := a) HBEL.out hcn HM.out HDM.out HDK.out HX.out HFU.out HPOS.out HXS.out HMO.out HPAR.out HVI.out (by rw [HLA.out.1]; exact hvl) (by rw [HLA.out.1, HLA.out.2]) (up (up HB2.out HB8.out) HW9.out) HQ9.out (Nat.le_trans HSZ.out.2 HB8.out.size) (own_below HO7.out HW9.out) (own_below HO8.out HW9.out))
        have HF9 := hide (at_upD HFB.out (up HB8.out HW9.out))
        obtain ⟨q, hq⟩ : ∃ q, q = W2.heap.size := ⟨_, rfl⟩
        rw [← hq] at HD9
        have f2 : ∀ o, (W2.alloc o).cell? ⟨B + 1, 2, none⟩ = some (.slice ba nb bc) := fun o => (block_at (at_upD HFB.out (up HB8.out (boxBelow W2 o))) 2).trans rfl
        have HC := hide (HBB.out W9 s vp vd D q a x f fu.params args _ _ m _ fu.body HD9.out.1 HBO.out HFO.out.1 HG.out)
        obtain ⟨DD, hDD⟩ : ∃ z, z = Rn.dos (F.dO a f) fu.body (Rn.own0 fu.params args) s := ⟨_, rfl⟩
        have HDL : Hid (DD.2.2.fuel ≤ s.fuel) := hide (by rw [hDD]; exact Rn.dos_mea (μ := (·.fuel)) (fun o c s => hLe.2.1 a f o c s) _ _ _)
        rw [← hDD] at HC HRE
        have HQB : Hid (B + 1 ≠ q) := hide (fun e => by have h1 := block_lt HFB.out; have h2 := HB8.out.size; omega)
        have HQL : Hid (w.heap.size ≤ q) := hide (by rw [hq]; exact Nat.le_trans HSZ.out.2 HB8.out.size)
        clear hDD
        go_wp2_with fail
        rw [← hW9, ← hq]
        refine HC.out.mono ?_
        rintro r w10 ⟨rfl, HM10⟩
        clear hW9 hq f2 HC
        obtain ⟨vp1, vd1, D1, ns1, vals1, vns1, vvs1, hrun, hown, hkb⟩ := HM10.out
        have HRUN := hide hrun
        have HOWN := hide hown
        have HK10 := hide (Kb.fresh HD9.out.2.1 hkb HQL.out HD9.out.2.2.1 HD9.out.2.2.2)
        have hfb := hkb.block _ _ HF9.out (HD9.out.1.dm.cold HF9.out (by decide) (by decide) (by decide) (by decide)) HQB.out (fun e => by
          obtain ⟨cur, hc⟩ := row_typ HD9.out.1.on.nrow e
          exact block_ne HF9.out hc (by decide) rfl) (fun e => by
          obtain ⟨cur, hc⟩ := row_typ HD9.out.1.on.vrow e
          exact block_ne HF9.out hc (by decide) rfl)
        have f3 := (block_at hfb 3).trans rfl
        have f4 := (block_at hfb 4).trans rfl
        have f5 := (block_at hfb 5).trans rfl
        have f6 := (block_at hfb 6).trans rfl
        clear hrun hown hkb hfb HM10
        by_cases hv : DD.1 = 0
        · rw [if_pos hv] at HRE
          rw [hv]
          clear hv
          rw [HOWN.out] at HRE
          have HC := hide (HEE.out w10 DD.2.2 vp1 vd1 D1 q a x f ns1 vals1 vns1 vvs1 m _ _ _ _ fu.result HRUN.out HRS.out HFO.out.2 (by
            have h1 := HG.out
            have h2 : DD.2.2.fuel * K ≤ s.fuel * K := Nat.mul_le_mul_right K HDL.out
            omega))
          rw [← HRE.out] at HC
          go_wp2_with fail
          refine HC.out.mono ?_
          rintro r w11 ⟨rfl, HM11⟩
          clear f3 f4 f5 f6
          go_wp2_with fail
          go_ret2
          refine ⟨rfl, hide ⟨?_, HM11.out.2⟩⟩
          obtain ⟨vp2, vd2, D2, h1, h2, h3⟩ := HM11.out.1
          exact ⟨vp2, vd2, D2, h1, h2, HK10.out.trans h3⟩
        · have hv' : (DD.1 == 0) = false := by simp [hv]
          rw [if_neg hv] at HRE
          clear hv
          go_wp2_with fail
          go_ret2
          exact ⟨by rw [HRE.out]; rfl, hide (by rw [HRE.out]; exact ⟨⟨vp1, vd1, D1, HRUN.out.dm, HRUN.out.dk, HK10.out⟩, by unfold I64; omega⟩)⟩
  · as_aux_lemma =>
      rw [if_neg hlen] at HRE
      have hn1 : ((np : Int) == (ng : Int)) = false := by rw [beq_eq_false_iff_ne]; omega
      have hn2 : ((np : Int) = (ng : Int)) = False := eq_false (by omega)
      go_enter Tryz.func69, Tryz.ntmps69
      go_wp2_with fail
      go_ret2
      have hb := up (boxBelow w (.cells #[.string x.name, .slice ia ni ic, .slice vva nv vvc, .slice (some ⟨fb, fo, none⟩) nf fc] 26)) (boxBelow _ (.cells #[.string fu.name, .slice pa np pc, .slice ba nb bc, .int .i64 fu.result.kind, .int .i64 fu.result.n, .string fu.result.name, .slice ra nr rc] 106))
      exact ⟨by rw [HRE.out]; rfl, hide (by rw [HRE.out]; exact ⟨⟨vp, vd, D, HDM.out.below hb, HDK.out, Kq.of_below hb HDM.out.nle⟩, by unfold I64; omega⟩)⟩
end Go.Proofs.YtholefgckcoklaaGreatDoor
