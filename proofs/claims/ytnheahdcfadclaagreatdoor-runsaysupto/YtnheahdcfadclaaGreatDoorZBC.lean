/- What a call means, by the document and by the program: plain mathematics. -/
import Derived.Test.YtnheahdcfadclaaGreatDoorZAD
import Derived.Test.YtnheahdcfadclaaGreatDoorZAJ
import Derived.Test.YtnheahdcfadclaaGreatDoorZBB
import Derived.Test.YtnheahdcfadclaaGreatDoorZAU
import Derived.Deep.RegionLaw
import Derived.Test.YtnheahdcfadclaaGreatDoorZAM
import Derived.Test.YtnheahdcfadclaaGreatDoorZAG
namespace Go.Proofs.YtnheahdcfadclaaGreatDoor
open Go.RowKit

namespace Nm
theorem index_same {l : List ByteArray} {s : ByteArray} {i : Nat} (h : Lat.indexI l s = (i : Int)) : l.getD i ByteArray.empty = s := by
  unfold Lat.indexI at h
  cases hf : (List.range l.length).find? (Lat.isAt l s) with
  | none => rw [hf] at h; simp at h
  | some j =>
    rw [hf] at h
    have hji : j = i := by simp at h; omega
    subst hji
    have := List.find?_some hf
    unfold Lat.isAt at this
    rw [beq_iff_eq] at this
    exact (toList_inj this).symm
theorem fnd_fst {a : Int} {l : List Fu} {s : ByteArray} {n : Nat} : (fnd a l s n).2.2 = (fnAt l s n).isSome := by
  unfold fnd; cases fnAt l s n <;> rfl
/-- What a call means: both say the same where there is one. -/
theorem tgt_ptgt (x : Mo) (k : Nat) (call : ByteArray) (known : List Mo) : (tgt x k call known).2.2 = (ptgt x k call known).2.2 ∧ ((tgt x k call known).2.2 = true → tgt x k call known = ptgt x k call known) := by
  cases hd : Lat.dotAt call with
  | none =>
    have e : ptgt x k call known = fnd (-1) x.funs call k := by simp [ptgt, hd]
    rw [e]
    unfold fnd
    cases hf : fnAt x.funs call k with
    | none => rw [tgt_here0 hd hf]; exact ⟨rfl, fun h => by simp at h⟩
    | some i => rw [tgt_here hd hf]; exact ⟨rfl, fun _ => rfl⟩
  | some d =>
    rcases idx_cases x.imports (Lat.preS call) with hi | ⟨i, hi, _⟩
    · have e : ptgt x k call known = (0, 0, false) := by simp [ptgt, hd, hi]
      rw [e, tgt_notI hd (by rw [hi]; rfl)]
      exact ⟨rfl, fun h => by simp at h⟩
    · have hs := index_same hi
      have hi0 : decide (0 ≤ Lat.indexI x.imports (Lat.preS call)) = true := by rw [hi]; simp
      cases hm : moAt known (Lat.preS call) with
      | none =>
        rw [ptgt_noM hd hi (by rw [hs]; exact hm), tgt_noM hd hi0 hm]
        exact ⟨rfl, fun h => by simp at h⟩
      | some a =>
        obtain ⟨y, hy, _⟩ := moAt_lt hm
        rw [ptgt_fn hd hi (by rw [hs]; exact hm) hy]
        unfold fnd
        cases hf : fnAt y.funs (Lat.sufS call) y.funs.length with
        | none => rw [tgt_nofn hd hi0 hm hy hf]; exact ⟨rfl, fun h => by simp at h⟩
        | some j => rw [tgt_fn hd hi0 hm hy hf]; exact ⟨rfl, fun _ => rfl⟩
/-- Of the modules, the first of that name is meant. -/
theorem moAt_firstT {l : List Mo} {s : ByteArray} {a : Nat} (h : moAt l s = some a) : ∀ (j : Nat) (y : Mo), j < a → l[j]? = some y → sameB y.name s = false := by
  intro j
  induction j using Nat.strongRecOn with
  | _ j ih =>
    intro y hj hy
    cases hp : sameB y.name s with
    | false => rfl
    | true =>
      have hl : a < l.length := List.mem_range.1 (List.mem_of_find?_eq_some h)
      have : moAt l s = some j := Lat.find_hit (n := l.length) (k := j) (Nat.lt_trans hj hl) (fun c hc => by
        cases hz : l[c]? with
        | none => rfl
        | some z => exact ih c hc z (Nat.lt_trans hc hj) hz) (by simp only [hy]; exact hp)
      rw [h] at this
      cases this
      omega
theorem fnAt_ltT {l : List Fu} {s : ByteArray} {n i : Nat} (h : fnAt l s n = some i) : i < n := List.mem_range.1 (List.mem_of_find?_eq_some h)
theorem ptgt_okT {x : Mo} {k : Nat} {call : ByteArray} {known : List Mo} (h : (ptgt x k call known).2.2 = true) : ((ptgt x k call known).1 = -1 ∧ ∃ i : Nat, (ptgt x k call known).2.1 = i ∧ i < k) ∨ ∃ (a i : Nat) (y : Mo), (ptgt x k call known).1 = a ∧ (ptgt x k call known).2.1 = i ∧ known[a]? = some y ∧ i < y.funs.length ∧ (∀ (j : Nat) (z : Mo), j < a → known[j]? = some z → sameB z.name y.name = false) := by
  cases hd : Lat.dotAt call with
  | none =>
    have e : ptgt x k call known = fnd (-1) x.funs call k := by simp [ptgt, hd]
    rw [e] at h ⊢
    unfold fnd at h ⊢
    cases hf : fnAt x.funs call k with
    | none => rw [hf] at h; cases h
    | some i => exact Or.inl ⟨rfl, i, rfl, fnAt_ltT hf⟩
  | some d =>
    rcases idx_cases x.imports (Lat.preS call) with hi | ⟨i, hi, _⟩
    · have e : ptgt x k call known = (0, 0, false) := by simp [ptgt, hd, hi]
      rw [e] at h
      cases h
    · cases hm : moAt known (x.imports.getD i ByteArray.empty) with
      | none => rw [ptgt_noM hd hi hm] at h; cases h
      | some a =>
        obtain ⟨y, hy, hs⟩ := moAt_lt hm
        rw [ptgt_fn hd hi hm hy] at h ⊢
        unfold fnd at h ⊢
        cases hf : fnAt y.funs (Lat.sufS call) y.funs.length with
        | none => rw [hf] at h; cases h
        | some j => exact Or.inr ⟨a, j, y, rfl, rfl, hy, fnAt_ltT hf, fun k z hk hz => by
            have := moAt_firstT hm k z hk hz
            have e : y.name = x.imports.getD i ByteArray.empty := toList_inj (by simpa [sameB] using hs)
            rw [e]; exact this⟩
end Nm
end Go.Proofs.YtnheahdcfadclaaGreatDoor

/- Walks over package run: enter. -/
namespace Go.Proofs.YtnheahdcfadclaaGreatDoor
open Go.RowKit Go.Maps

theorem own0_succ {ps : List ByteArray} {zs : List Int} {t : Nat} {x : ByteArray} {v : Int} (hx : ps[t]? = some x) (hv : zs[t]? = some v) : Rn.own0 (ps.take (t + 1)) (zs.take (t + 1)) = Rn.put (Rn.own0 (ps.take t) (zs.take t)) x v := by
  have h1 := (List.getElem?_eq_some_iff.1 hx).1
  have h2 := (List.getElem?_eq_some_iff.1 hv).1
  unfold Rn.own0
  rw [List.take_add_one, List.take_add_one, hx, hv, Option.toList_some, Option.toList_some, List.zip_append (by rw [List.length_take, List.length_take]; omega), List.foldl_append]
  rfl
theorem Rn.enter_eq {F : Rn.Fns} {l : List Mo} {a k : Nat} {y : Mo} {fu : Fu} (hy : l[a]? = some y) (hf : y.funs[k]? = some fu) (args : List Int) (s : Rn.Sta) : Rn.enter F l a k args s =
    if fu.params.length = args.length then
      if (Rn.dos (F.dO a k) fu.body (Rn.own0 fu.params args) s).1 = 0 then F.ev a k (Rn.dos (F.dO a k) fu.body (Rn.own0 fu.params args) s).2.1 fu.result (Rn.dos (F.dO a k) fu.body (Rn.own0 fu.params args) s).2.2
      else (0, (Rn.dos (F.dO a k) fu.body (Rn.own0 fu.params args) s).1, (Rn.dos (F.dO a k) fu.body (Rn.own0 fu.params args) s).2.2)
    else (0, 5, s) := by
  unfold Rn.enter
  rw [hy]
  simp only [Option.bind_some, hf]
theorem Ints.grown {w w' : World} {v : Value} {l : List Int} {om : Nat} (h : Ints w v l) (hg : w.grownBy w' (some om)) (hom : ∃ es cl, w.heap[om]? = some (.map es cl)) : Ints w' v l := by
  obtain ⟨es, cl, hm⟩ := hom
  obtain ⟨a, b, off, cap, e, h0, hl, h1⟩ := h
  refine ⟨a, b, off, cap, e, h0, hl, fun j z hz => ?_⟩
  have hc := h1 j z hz
  have hlt := World.block_lt_of_cell? _ _ hc
  rw [World.cell?_of_block (w := w) (hg.block b hlt (fun e => by
    injection e with e
    subst e
    simp [World.cell?, hm] at hc))]
  exact hc
theorem Ints.drew {w : World} {v : Value} {l : List Int} (h : Ints w v l) : Ints w.drew v l := h.below (Below.refl _ _).drew

set_option maxHeartbeats 8000000 in
set_option maxRecDepth 100000 in
theorem enter_any (W : World) (c : Cfg) (nm : List (ByteArray × ByteArray)) (l : List Mo) (m K : Nat) (F : Rn.Fns) (g : Nat) (hE : EvOk W c nm l m K F g) (hD : DoOk W c nm l m K F g) (w : World) (s : Rn.Sta) (a k : Nat) (va : Value) (args : List Int)
    (hb : Below c.n W w) (hn : c.n = W.heap.size) (hL : MosAt W m c.vl l) (hM : MaAt w c nm s) (y : Mo) (fu : Fu) (hy : l[a]? = some y) (hf : y.funs[k]? = some fu) (hok : Lat.fuE m fu = 0) (hA : Ints w va args) (hAI : ∀ x ∈ args, I64 x) (hg : s.fuel * K + m ≤ g) :
    Calls Tryz.prog 64 #[.pointer (some ⟨c.p, 0, none⟩), .int .i64 a, .int .i64 k, va] w fun e w' => e = .returned (.tuple #[.int .i64 (Rn.enter F l a k args s).1, .int .i64 (Rn.enter F l a k args s).2.1]) ∧ Hid (MaAt w' c nm (Rn.enter F l a k args s).2.2 ∧ Kp c none w w' ∧ I64 (Rn.enter F l a k args s).1) := by
  have HL := hide hL
  have HM := hide hM
  have HW := hide hb
  have HN := hide hn
  have HEE := hide hE
  have HDD := hide hD
  have HG := hide hg
  have HAI := hide hAI
  have hfo : Lat.bodyB m fu.body = true ∧ Lat.exprB m fu.result = true := by
    have := fuE_ok hok
    unfold Lat.fuOk at this
    simp only [Bool.and_eq_true] at this
    exact ⟨this.1.1.2, this.1.2⟩
  have HFO := hide hfo
  have HFI : Hid (FunIn l a k) := hide ⟨y, hy, (List.getElem?_eq_some_iff.1 hf).1⟩
  have hal : a < l.length := (List.getElem?_eq_some_iff.1 hy).1
  have hkl : k < y.funs.length := (List.getElem?_eq_some_iff.1 hf).1
  have HALT := hide hal
  have hup : ∀ {p : Addr} {v : Value}, W.cell? p = some v → w.cell? p = some v := fun {p v} hp => by
    rw [hb.cell (by rw [hn]; exact World.block_lt_of_cell? _ _ hp)]
    exact hp
  obtain ⟨ad, b, off, cap, hvl, h0, hll, h1⟩ := hL
  obtain ⟨vi, vv, vf, -, -, -, g3, hmo⟩ := h1 a y hy
  obtain ⟨fa, fb, fo, fc, rfl, hfa, hfl, hfe⟩ := hmo.split.2.2
  obtain ⟨-, vp, vb, e0, e1, e2, e3, f0, f1, f2, f3, f4, f5, f6, hp, hsb, hxr⟩ := hfe k fu hf
  have HSB := hide hsb
  have HXR := hide hxr
  obtain rfl := h0 (by omega)
  obtain rfl := hfa (by omega)
  obtain ⟨pa, pb, po, pc, rfl, hpa, hpl, hps, hpcel⟩ := hp
  have HPS := hide hps
  have HPC := hide hpcel
  have HPA := hide hpa
  obtain ⟨sb, sc, rfl⟩ := hsb.shapeN
  obtain ⟨xa, xc, rfl, rfl, rfl, rfl⟩ := hxr.shape
  obtain ⟨m0, rfl⟩ : ∃ m0, m = m0 + 1 := by
    cases m with
    | zero => exact absurd hxr (fun h => h)
    | succ j => exact ⟨j, rfl⟩
  replace g3 := hup g3
  replace f0 := hup f0
  replace f1 := hup f1
  replace f2 := hup f2
  replace f3 := hup f3
  replace f4 := hup f4
  replace f5 := hup f5
  replace f6 := hup f6
  obtain ⟨vpr, c0, -, -, -, -, -⟩ := hM.cell
  rw [hvl] at c0
  have HIN := hide hA
  obtain ⟨aa, ab, ao, ac, rfl, haa, hla, hac⟩ := hA
  have HAA := hide haa
  obtain ⟨R, hRR⟩ : ∃ R, R = Rn.enter F l a k args s := ⟨_, rfl⟩
  have hRE := hRR
  rw [Rn.enter_eq hy hf] at hRE
  have HRE := hide hRE
  rw [← hRR]
  obtain ⟨np, hnp⟩ : ∃ n, n = fu.params.length := ⟨_, rfl⟩
  obtain ⟨na, hna⟩ : ∃ n, n = args.length := ⟨_, rfl⟩
  obtain ⟨nl, hnl⟩ : ∃ n, n = l.length := ⟨_, rfl⟩
  obtain ⟨nf, hnf⟩ : ∃ n, n = y.funs.length := ⟨_, rfl⟩
  have HNP := hide hnp
  have HNA := hide hna
  rw [← hnp] at f1 hpl HPA
  rw [← hnp, ← hna] at HRE
  rw [← hna] at HIN HAA hla ⊢
  rw [← hnl] at c0 hal hll
  rw [← hnf] at g3 hkl hfl
  generalize fu.body.length = nb at *
  generalize fu.result.args.length = ne at *
  have hnp4 : np ≤ 4 := by
    unfold Lat.fuE at hok
    by_cases h4 : 4 < fu.params.length
    · rw [if_pos h4] at hok; cases hok
    · omega
  have HCN : Hid (c.n ≤ w.heap.size) := hide (by rw [hn]; exact hb.size)
  have HB0 := hide (boxBelow w (.cells #[.string fu.name, .slice pa np pc, .slice sb nb sc, .int .i64 fu.result.kind, .int .i64 fu.result.n, .string fu.result.name, .slice xa ne xc] 102))
  have hmm := @run_makeMap Tryz.prog
  clear hRR hRE hnp hna hnl hnf hok hfo hpa hps hpcel haa hac hxr hsb hfe hfa hmo h1 h0 hvl hM hb hE hD hg hAI hy hf hn hup
  by_cases hlen : np = na
  · have hl' : ((np : Int) == (na : Int)) = true := by simp [hlen]
    have hl2 : ((np : Int) != (na : Int)) = false := by simp [hlen]
    rw [if_pos hlen] at HRE
    have HLEN := hide hlen
    clear hlen
    have e1 := block_new w (.cells #[.string fu.name, .slice pa np pc, .slice sb nb sc, .int .i64 fu.result.kind, .int .i64 fu.result.n, .string fu.result.name, .slice xa ne xc] 102)
    have e2 := block_new (w.alloc (.cells #[.string fu.name, .slice pa np pc, .slice sb nb sc, .int .i64 fu.result.kind, .int .i64 fu.result.n, .string fu.result.name, .slice xa ne xc] 102)) (.map #[] 0)
    have e3 := block_new ((w.alloc (.cells #[.string fu.name, .slice pa np pc, .slice sb nb sc, .int .i64 fu.result.kind, .int .i64 fu.result.n, .string fu.result.name, .slice xa ne xc] 102)).alloc (.map #[] 0)) (.cells #[.pointer (some ⟨c.p, 0, none⟩), .int .i64 a, .int .i64 k, .map (some (w.heap.size + 1))] 231)
    have HB2 : Hid (Below w.heap.size w (((w.alloc (.cells #[.string fu.name, .slice pa np pc, .slice sb nb sc, .int .i64 fu.result.kind, .int .i64 fu.result.n, .string fu.result.name, .slice xa ne xc] 102)).alloc (.map #[] 0)).alloc (.cells #[.pointer (some ⟨c.p, 0, none⟩), .int .i64 a, .int .i64 k, .map (some (w.heap.size + 1))] 231))) := hide (up (up (boxBelow _ _) (boxBelow _ _)) (boxBelow _ _))
    have HBX2 := hide (block_alloc (block_alloc e1 (.map #[] 0)) (.cells #[.pointer (some ⟨c.p, 0, none⟩), .int .i64 a, .int .i64 k, .map (some (w.heap.size + 1))] 231))
    have HOW2 : Hid (OwM (((w.alloc (.cells #[.string fu.name, .slice pa np pc, .slice sb nb sc, .int .i64 fu.result.kind, .int .i64 fu.result.n, .string fu.result.name, .slice xa ne xc] 102)).alloc (.map #[] 0)).alloc (.cells #[.pointer (some ⟨c.p, 0, none⟩), .int .i64 a, .int .i64 k, .map (some (w.heap.size + 1))] 231)) (w.heap.size + 1) 0 (Rn.own0 (fu.params.take 0) (args.take 0))) := hide (by
      have h1 := OwM.new (w.alloc (.cells #[.string fu.name, .slice pa np pc, .slice sb nb sc, .int .i64 fu.result.kind, .int .i64 fu.result.n, .string fu.result.name, .slice xa ne xc] 102))
      rw [World.size_alloc] at h1
      refine h1.same ?_
      rw [World.size_alloc] at e2
      rw [block_alloc e2 (.cells #[.pointer (some ⟨c.p, 0, none⟩), .int .i64 a, .int .i64 k, .map (some (w.heap.size + 1))] 231), e2])
    have HFR2 : Hid (FrAt (((w.alloc (.cells #[.string fu.name, .slice pa np pc, .slice sb nb sc, .int .i64 fu.result.kind, .int .i64 fu.result.n, .string fu.result.name, .slice xa ne xc] 102)).alloc (.map #[] 0)).alloc (.cells #[.pointer (some ⟨c.p, 0, none⟩), .int .i64 a, .int .i64 k, .map (some (w.heap.size + 1))] 231)) c (w.heap.size + 1 + 1) a k (w.heap.size + 1)) := hide ⟨by have := HCN.out; omega, by rw [World.size_alloc, World.size_alloc] at e3; exact e3⟩
    clear e1 e2 e3
    go_enter Tryz.func64, Tryz.ntmps64
    go_wp2_with fail
    have HMA2 := hide (HM.out.below HB2.out)
    have HIN2 := hide (HIN.out.below HB2.out)
    have HKP2 : Hid (Kp c none w (((w.alloc (.cells #[.string fu.name, .slice pa np pc, .slice sb nb sc, .int .i64 fu.result.kind, .int .i64 fu.result.n, .string fu.result.name, .slice xa ne xc] 102)).alloc (.map #[] 0)).alloc (.cells #[.pointer (some ⟨c.p, 0, none⟩), .int .i64 a, .int .i64 k, .map (some (w.heap.size + 1))] 231))) := hide (Kp.of_below HB2.out HCN.out)
    obtain ⟨B, hBw⟩ : ∃ b, b = w.heap.size := ⟨_, rfl⟩
    generalize (((w.alloc (.cells #[.string fu.name, .slice pa np pc, .slice sb nb sc, .int .i64 fu.result.kind, .int .i64 fu.result.n, .string fu.result.name, .slice xa ne xc] 102)).alloc (.map #[] 0)).alloc (.cells #[.pointer (some ⟨c.p, 0, none⟩), .int .i64 a, .int .i64 k, .map (some (w.heap.size + 1))] 231)) = W2 at *
    have HMPL : Hid (c.mp < w.heap.size) := hide (by obtain ⟨es, cl, he⟩ := HM.out.map.isMap; exact block_lt he)
    rw [← hBw] at HBX2 HOW2 HFR2 HMPL HCN ⊢
    have HBW := hide hBw
    clear hBw c0 g3 f0 f1 f2 f3 f4 f5 f6 hmm HB2 HB0
    go_loopw [41] (fun i wx => ∃ t : Nat, t ≤ np ∧ i = .int .i64 t ∧ Hid (MaAt wx c nm s ∧ Kp c none w wx ∧ FrAt wx c (B + 1 + 1) a k (B + 1) ∧ OwM wx (B + 1) t (Rn.own0 (fu.params.take t) (args.take t)) ∧ (∀ z v, Rn.own0 (fu.params.take t) (args.take t) z = some v → I64 v) ∧
        wx.heap[B]? = some (.cells #[.string fu.name, .slice pa np pc, .slice sb nb sc, .int .i64 fu.result.kind, .int .i64 fu.result.n, .string fu.result.name, .slice xa ne xc] 102 (0, 0)) ∧ Ints wx (.slice aa na ac) args)) (fun i _ => np - (intOf i).toNat)
    case atStart => exact ⟨0, Nat.zero_le _, rfl, hide ⟨HMA2.out, HKP2.out, HFR2.out, HOW2.out, fun z v h => by simp [Rn.own0] at h, HBX2.out, HIN2.out⟩⟩
    case round =>
      obtain ⟨t, ht, rfl, HI⟩ := hrel
      by_cases htn : t < np
      · obtain ⟨x, hx⟩ : ∃ x, fu.params[t]? = some x := ⟨_, List.getElem?_eq_getElem (by rw [← HNP.out]; exact htn)⟩
        obtain ⟨z, hz⟩ : ∃ z, args[t]? = some z := ⟨_, List.getElem?_eq_getElem (by rw [← HNA.out, ← HLEN.out]; exact htn)⟩
        have HSC := hide (own0_succ hx hz)
        have hxs := HPS.out x (List.mem_of_getElem? hx)
        have hzi := HAI.out z (List.mem_of_getElem? hz)
        have x0 := HPC.out t (by rw [← HNP.out]; exact htn)
        rw [List.getD_eq_getElem?_getD, hx, Option.getD_some] at x0
        have x1 : wr.cell? ⟨pb, po + t, none⟩ = some (.string x) := by
          have hlt := World.block_lt_of_cell? _ _ x0
          rw [(HW.out.trans HI.out.2.1.below).cell (by rw [HN.out]; exact hlt)]
          exact x0
        obtain rfl := HPA.out (by omega)
        obtain ⟨aa', ab', ao', ac', hva, haa, -, hac⟩ := HI.out.2.2.2.2.2.2
        rw [← HNA.out] at hva haa
        injection hva with hva1 hva2 hva3
        obtain rfl := haa (by have := HLEN.out; omega)
        subst hva1 hva3
        have z1 := hac t z hz
        have q3 := HI.out.2.2.1.cell.2.2.2
        obtain ⟨w5, L1, ho5, hg5⟩ := (HI.out.2.2.2.1.same (w' := wr.drew) rfl).put (by unfold maxLen; omega) hxs hzi
        have htna : t < na := by have := HLEN.out; omega
        have hom : ∃ es cl, wr.drew.heap[B + 1]? = some (.map es cl) := HI.out.2.2.2.1.isMap
        have HM5 := hide ((HI.out.1.below (Below.refl _ _).drew).but hom hg5 (by have := HMPL.out; omega))
        have HK5 : Hid (Kp c none w w5) := hide (((HI.out.2.1.drewN 1).more.trans (Kp.but hg5 (by have := HCN.out; omega) (Nat.le_trans (by have := HCN.out; omega : c.n ≤ B) (Nat.le_of_lt (block_lt HI.out.2.2.2.2.2.1))))).fresh (by have := HBW.out; omega))
        have HF5 : Hid (FrAt w5 c (B + 1 + 1) a k (B + 1)) := hide ⟨HI.out.2.2.1.1, by rw [hg5.block _ (block_lt HI.out.2.2.1.2) (by simp)]; exact HI.out.2.2.1.2⟩
        have HX5 : Hid (w5.heap[B]? = some (.cells #[.string fu.name, .slice (some ⟨pb, po, none⟩) np pc, .slice sb nb sc, .int .i64 fu.result.kind, .int .i64 fu.result.n, .string fu.result.name, .slice xa ne xc] 102 (0, 0))) := hide (by rw [hg5.block _ (block_lt HI.out.2.2.2.2.2.1) (by simp)]; exact HI.out.2.2.2.2.2.1)
        have HI5 := hide (HI.out.2.2.2.2.2.2.drew.grown hg5 hom)
        have HO5 := hide ho5
        have HZI := hide hzi
        clear hx hz x0 hac ho5 hg5 hom hva2 haa hxs hzi
        obtain ⟨wo, rfl⟩ : ∃ wo, wo = wr := ⟨_, rfl⟩
        go_wp2_with fail
        go_region_law (fail)
        all_goals
          go_wp2_with fail
          go_roundw
          case rel => exact ⟨t + 1, by omega, by go_num, hide ⟨HM5.out, HK5.out, HF5.out, by rw [HSC.out]; exact HO5.out, by rw [HSC.out]; exact put_own HI.out.2.2.2.2.1 HZI.out, HX5.out, HI5.out⟩⟩
          case measure => simp [intOf]; omega
      · have hte : t = np := by omega
        have HOE : Hid (Rn.own0 (fu.params.take t) (args.take t) = Rn.own0 fu.params args) := hide (by
          have h1 : fu.params.take t = fu.params := List.take_of_length_le (by rw [← HNP.out]; omega)
          have h2 : args.take t = args := List.take_of_length_le (by rw [← HNA.out, ← HLEN.out]; omega)
          rw [h1, h2])
        have HRUN : Hid (Run W wr c nm l (m0 + 1) s (B + 1 + 1) a k (B + 1) t (Rn.own0 fu.params args)) := hide ⟨HW.out.trans HI.out.2.1.below, HN.out, HL.out, HI.out.1, HI.out.2.2.1, by rw [← HOE.out]; exact HI.out.2.2.2.1, by have := HCN.out; omega, by have := HMPL.out; omega, HALT.out, by rw [← HOE.out]; exact HI.out.2.2.2.2.1, by have := HI.out.1.room; omega⟩
        have HC := hide (doAll_any W c nm l (m0 + 1) K F g HDD.out wr s (B + 1 + 1) a k (B + 1) t _ m0 _ fu.body HRUN.out HFI.out HSB.out HFO.out.1 (by have := HG.out; omega))
        obtain ⟨D, hDe⟩ : ∃ D, D = Rn.dos (F.dO a k) fu.body (Rn.own0 fu.params args) s := ⟨_, rfl⟩
        rw [← hDe] at HC HRE
        have b2 := (block_at HI.out.2.2.2.2.2.1 2).trans rfl
        clear hte hDe
        obtain ⟨wo, rfl⟩ : ∃ wo, wo = wr := ⟨_, rfl⟩
        go_wp2_with fail
        refine HC.out.mono ?_
        rintro e w5 ⟨rfl, HA5⟩
        have HKP5 : Hid (Kp c none w w5) := hide ((HI.out.2.1.more.trans HA5.out.kp).fresh (by have := HBW.out; omega))
        obtain ⟨n5, hr5, -⟩ := HA5.out.run HRUN.out
        have HR5 := hide hr5
        have HBX5 := hide (HRUN.out.stay HA5.out.kp (Or.inr rfl) HI.out.2.2.2.2.2.1 (by decide) (by decide) (by decide))
        have HLE5 := hide HA5.out.le
        clear b2 hr5 HC HA5
        by_cases hd : D.1 = 0
        · rw [if_pos hd] at HRE
          rw [hd]
          clear hd
          have HC2 := hide (HEE.out w5 D.2.2 (B + 1 + 1) a k (B + 1) n5 D.2.1 (m0 + 1) _ _ _ _ fu.result HR5.out HFI.out HXR.out HFO.out.2 (by
            have h1 := HG.out
            have h2 : D.2.2.fuel * K ≤ s.fuel * K := Nat.mul_le_mul_right K HLE5.out
            omega))
          rw [← HRE.out] at HC2
          have b3 := (block_at HBX5.out 3).trans rfl
          have b4 := (block_at HBX5.out 4).trans rfl
          have b5 := (block_at HBX5.out 5).trans rfl
          have b6 := (block_at HBX5.out 6).trans rfl
          go_wp2_with fail
          refine HC2.out.mono ?_
          rintro e w6 ⟨rfl, HM6⟩
          clear b3 b4 b5 b6
          go_wp2_with fail
          go_ret2
          exact ⟨rfl, hide ⟨HM6.out.1, HKP5.out.trans HM6.out.2.1, HM6.out.2.2⟩⟩
        · as_aux_lemma =>
            have hd' : (D.1 == 0) = false := by simp [hd]
            rw [if_neg hd] at HRE
            clear hd
            go_wp2_with fail
            go_ret2
            exact ⟨by rw [HRE.out]; rfl, hide (by rw [HRE.out]; exact ⟨HR5.out.ma, HKP5.out, by unfold I64; omega⟩)⟩
  · as_aux_lemma =>
      have hl' : ((np : Int) == (na : Int)) = false := by rw [beq_eq_false_iff_ne]; omega
      rw [if_neg hlen] at HRE
      clear hlen hmm
      go_enter Tryz.func64, Tryz.ntmps64
      go_wp2_with fail
      go_ret2
      exact ⟨by rw [HRE.out]; rfl, hide (by rw [HRE.out]; exact ⟨HM.out.below HB0.out, Kp.of_below HB0.out HCN.out, by unfold I64; omega⟩)⟩

end Go.Proofs.YtnheahdcfadclaaGreatDoor

/- Walks over package names: Target. -/
namespace Go.Proofs.YtnheahdcfadclaaGreatDoor
open Go.RowKit

set_option maxHeartbeats 1000000 in
theorem ntarget_anyF (m : Nat) (w : World) (vi vv vf vk : Value) (x : Mo) (known : List Mo) (k : Nat) (call : ByteArray) (h : MoAt w m (.agg #[.string x.name, vi, vv, vf]) x) (hK : MosAt w m vk known) (hC : CapOK vf) (hk : k ≤ x.funs.length) (hc : call.size ≤ maxLen) (hli : x.imports.length ≤ 1048576) :
    Calls Tryz.prog 14 #[.agg #[.string x.name, vi, vv, vf], .int .i64 k, .string call, vk] w fun e w' => e = .returned (.tuple #[.int .i64 (Nm.ptgt x k call known).1, .int .i64 (Nm.ptgt x k call known).2.1, .bool (Nm.ptgt x k call known).2.2]) ∧ Below w.heap.size w w' := by
  have HM := hide h
  have HK := hide hK
  have HSC := hide (fun wx (hb : Below w.heap.size w wx) => newScope_any m wx _ _ _ _ x known (h.below hb) (hK.below hb) hli)
  have HST := hide (fun wx (hb : Below w.heap.size w wx) va (hI : Ints wx va (x.imports.map fun s => Nm.oI (Nm.moAt known s))) => starget_any m wx x known vi vv vf vk va k call ⟨h.below hb, hK.below hb, hI, hC⟩ hk hc)
  have HBX := fun i v hv => boxD w #[.string x.name, vi, vv, vf] 26 i v hv
  have r0 := HBX 0 _ rfl
  have r1 := HBX 1 _ rfl
  have r2 := HBX 2 _ rfl
  have r3 := HBX 3 _ rfl
  have HB0 := hide (boxBelow w (.cells #[.string x.name, vi, vv, vf] 26))
  obtain ⟨R, hR⟩ : ∃ R, R = Nm.ptgt x k call known := ⟨_, rfl⟩
  rw [← hR] at HST ⊢
  obtain ⟨hI, hV, hF⟩ := h.split
  obtain ⟨ai, bi, oi, ci, rfl, -⟩ := hI
  obtain ⟨av, bv, ov, cv, rfl, -⟩ := hV
  obtain ⟨af, bf, of, cf, rfl, -⟩ := hF
  obtain ⟨ak, bk, ok, ck, rfl, -⟩ := hK
  generalize x.imports.length = ni at *
  generalize x.vars.length = nv at *
  generalize x.funs.length = nf at *
  generalize known.length = nk at *
  clear h hC HBX hR
  go_enter Tryz.func14, Tryz.ntmps14
  go_wp2_with fail
  refine (HSC.out _ HB0.out).mono ?_
  rintro e w1 ⟨va, rfl, hints, hb1⟩
  have HIN := hide hints
  have HB1 := hide (up HB0.out hb1)
  clear r0 r1 r2 r3 hb1 hints
  go_wp2_with fail
  refine (HST.out _ HB1.out _ HIN.out).mono ?_
  rintro e w2 ⟨rfl, hb2⟩
  have HB2 := hide (up HB1.out hb2)
  clear hb2
  go_wp2_with fail
  go_ret3
  exact ⟨rfl, HB2.out⟩

theorem ntarget_any (m : Nat) (w : World) (vi vv vf vk : Value) (x : Mo) (known : List Mo) (k : Nat) (call : ByteArray) (h : MoAt w m (.agg #[.string x.name, vi, vv, vf]) x) (hK : MosAt w m vk known) (hC : MoCap w vi vf) (hk : k ≤ x.funs.length) (hc : call.size ≤ maxLen) (hli : x.imports.length ≤ 1048576) :
    Calls Tryz.prog 14 #[.agg #[.string x.name, vi, vv, vf], .int .i64 k, .string call, vk] w fun e w' => e = .returned (.tuple #[.int .i64 (Nm.ptgt x k call known).1, .int .i64 (Nm.ptgt x k call known).2.1, .bool (Nm.ptgt x k call known).2.2]) ∧ Below w.heap.size w w' :=
  ntarget_anyF m w vi vv vf vk x known k call h hK hC.fus hk hc hli

end Go.Proofs.YtnheahdcfadclaaGreatDoor

/- Walks over package run: call. -/
namespace Go.Proofs.YtnheahdcfadclaaGreatDoor
open Go.RowKit Go.Maps

/-- The modules are right, and their lists' lengths are within their capacities. -/
structure ModsOk (W : World) (m : Nat) (vl : Value) (l : List Mo) : Prop where
  ok : ∀ y ∈ l, Lat.moE m y = 0
  cap : ∀ (b off cap : Nat), vl = .slice (some ⟨b, off, none⟩) l.length cap → ∀ (i : Nat) (y : Mo) (vf : Value), l[i]? = some y → W.cell? ⟨b, off + i * 4 + 3, none⟩ = some vf → CapOK vf
theorem moE_len {m : Nat} {y : Mo} (h : Lat.moE m y = 0) : y.imports.length ≤ 8 ∧ Lat.fusE m y.funs = 0 := by
  unfold Lat.moE at h
  by_cases h8 : 8 < y.imports.length ∨ 8 < y.vars.length ∨ 8 < y.funs.length
  · rw [if_pos h8] at h; cases h
  · rw [if_neg h8] at h
    refine ⟨by omega, ?_⟩
    by_cases h5 : ((Lat.strB y.name && y.imports.all Lat.strB) && y.vars.all Lat.vaB) = false
    · rw [if_pos h5] at h; cases h
    · rw [if_neg h5] at h
      by_cases hf : Lat.fusE m y.funs = 0
      · exact hf
      · rw [if_pos hf] at h; exact absurd h hf
theorem Rn.call_eq (F : Rn.Fns) {l : List Mo} {a : Nat} {y : Mo} (hy : l[a]? = some y) (f : Nat) (name : ByteArray) (args : List Int) (s : Rn.Sta) :
    (s.fuel = 0 → Rn.call F l a f name args s = (0, 6, s)) ∧ (s.fuel ≠ 0 → Rn.call F l a f name args s = if (Nm.ptgt y f name l).2.2 = false then (0, 4, Rn.burnS s) else Rn.enter F l (if (Nm.ptgt y f name l).1 < 0 then a else (Nm.ptgt y f name l).1.toNat) (Nm.ptgt y f name l).2.1.toNat args (Rn.burnS s)) := by
  refine ⟨fun h => ?_, fun h => ?_⟩
  · unfold Rn.call
    rw [(Rn.burn_zero h).1]
  · unfold Rn.call
    rw [(Rn.burn_pos h).1, hy]

set_option maxHeartbeats 8000000 in
set_option maxRecDepth 100000 in
theorem call_any (W : World) (c : Cfg) (nm : List (ByteArray × ByteArray)) (l : List Mo) (m K : Nat) (F : Rn.Fns) (g : Nat) (hKm : m ≤ K) (hE : EvOk W c nm l m K F g) (hD : DoOk W c nm l m K F g) (hO : ModsOk W m c.vl l) (w : World) (s : Rn.Sta) (q a f om n : Nat) (o : Rn.Own) (x : ByteArray) (va : Value) (args : List Int)
    (hR : Run W w c nm l m s q a f om n o) (hF : FunIn l a f) (hx : x.size ≤ maxLen) (hA : Ints w va args) (hAK : ∀ w', Kp c none w w' → Ints w' va args) (hAI : ∀ z ∈ args, I64 z) (hg : s.fuel * K ≤ g) :
    Calls Tryz.prog 206 #[.pointer (some ⟨q, 0, none⟩), .string x, va] w fun e w' => e = .returned (.tuple #[.int .i64 (Rn.call F l a f x args s).1, .int .i64 (Rn.call F l a f x args s).2.1]) ∧ Hid (MaAt w' c nm (Rn.call F l a f x args s).2.2 ∧ Kp c none w w' ∧ I64 (Rn.call F l a f x args s).1) := by
  have HR := hide hR
  have HAK := hide hAK
  have HAI := hide hAI
  have HO := hide hO
  have HG := hide hg
  have HEE := hide hE
  have HDD := hide hD
  have HX := hide hx
  have HF := hide hF
  obtain ⟨y, hy, hfl⟩ := hF
  have HCE := hide (Rn.call_eq F hy f x args s)
  have HY := hide hy
  have HFL := hide hfl
  obtain ⟨aa, ab, ao, ac, rfl, -⟩ := hA
  obtain ⟨na, hna⟩ : ∃ n, n = args.length := ⟨_, rfl⟩
  rw [← hna] at HAK ⊢
  obtain ⟨R, hRR⟩ : ∃ R, R = Rn.call F l a f x args s := ⟨_, rfl⟩
  rw [← hRR] at HCE ⊢
  have HCB := hide (burn_any w c nm s hR.ma)
  obtain ⟨r0, r1, r2, r3⟩ := hR.fr.cell
  clear hR hAK hAI hO hg hE hD hx hy hfl hna hRR r1 r2 r3
  go_enter Tryz.func206, Tryz.ntmps206
  go_wp2_with fail
  refine HCB.out.mono ?_
  rintro e w1 ⟨rfl, HM1⟩
  clear r0 HCB
  by_cases h0 : s.fuel = 0
  · as_aux_lemma =>
      have HV := hide (HCE.out.1 h0)
      have HBZ := hide (Rn.burn_zero h0)
      rw [(Rn.burn_zero h0).2.1]
      clear h0
      go_wp2_with fail
      go_ret2
      exact ⟨by rw [HV.out]; rfl, hide (by rw [HV.out]; have := HM1.out.1; rw [HBZ.out.2.2] at this; exact ⟨this, HM1.out.2, by unfold I64; omega⟩)⟩
  · have HV := hide (HCE.out.2 h0)
    rw [(Rn.burn_pos h0).2]
    have HFU : Hid ((Rn.burnS s).fuel * K + m ≤ g) := hide (by
      have h1 := HG.out
      have h2 : (Rn.burnS s).fuel + 1 = s.fuel := by show s.fuel - 1 + 1 = s.fuel; omega
      have h3 : ((Rn.burnS s).fuel + 1) * K = (Rn.burnS s).fuel * K + K := Nat.succ_mul _ _
      rw [h2] at h3
      omega)
    have HLE : Hid ((Rn.burnS s).fuel ≤ s.fuel) := hide (Nat.sub_le _ _)
    have HR1 := hide (HR.out.ev HM1.out.1 HM1.out.2 HLE.out)
    have HK1 := hide HM1.out.2
    obtain ⟨s1, hs1⟩ : ∃ s1, s1 = Rn.burnS s := ⟨_, rfl⟩
    rw [← hs1] at HV HFU HLE HR1
    clear h0 HCE HM1 hs1
    obtain ⟨b, off, cap, y', vi, vv, vf, hvl, hll, hy', g0, g1, g2, g3, hmo, -, -⟩ := HR1.out.mod
    obtain rfl : y = y' := by rw [HY.out] at hy'; exact Option.some.inj hy'
    obtain ⟨vpr, c0, -, -, -, -, -⟩ := HR1.out.ma.cell
    obtain ⟨r0, r1, r2, r3⟩ := HR1.out.fr.cell
    have hmods : ∃ vi0 vf0, W.cell? ⟨b, off + a * 4 + 1, none⟩ = some vi0 ∧ W.cell? ⟨b, off + a * 4 + 3, none⟩ = some vf0 := by
      obtain ⟨ad, b', off', cap', e', h0', -, h1'⟩ := HR1.out.mods
      rw [h0' (by have := HR1.out.alt; omega), hvl] at e'
      injection e' with e1 e2 e3
      injection e1 with e1
      injection e1 with e4 e5
      subst e4 e5
      obtain ⟨vi0, vv0, vf0, -, k1, -, k3, -⟩ := h1' a y HY.out
      exact ⟨vi0, vf0, k1, k3⟩
    obtain ⟨vi0, vf0, k1, k3⟩ := hmods
    obtain rfl : vi = vi0 := by have := HR1.out.cell k1; rw [g1] at this; exact Option.some.inj this
    obtain rfl : vf = vf0 := by have := HR1.out.cell k3; rw [g3] at this; exact Option.some.inj this
    have HCAP := hide (HO.out.cap b off cap hvl a y vf HY.out k3)
    have HMO := hide hmo
    have HNI := hide (moE_len (HO.out.ok y (List.mem_of_getElem? HY.out))).1
    have hWb : ∀ {wx : World}, Below w1.heap.size w1 wx → Below W.heap.size W wx := fun {wx} h => by
      have h1 := HR1.out.below
      rw [HR1.out.size] at h1
      exact up h1 h
    have HTG : Hid (∀ n os, Calls Tryz.prog 14 #[.agg #[.string y.name, vi, vv, vf], .int .i64 f, .string x, c.vl] (gn w1 n os) fun e w' => e = .returned (.tuple #[.int .i64 (Nm.ptgt y f x l).1, .int .i64 (Nm.ptgt y f x l).2.1, .bool (Nm.ptgt y f x l).2.2]) ∧ Below (gn w1 n os).heap.size (gn w1 n os) w') := hide (fun n os =>
      ntarget_anyF m (gn w1 n os) vi vv vf c.vl y l f x (HMO.out.below (hWb (below_gn w1 n os))) (HR1.out.mods.below (hWb (below_gn w1 n os))) HCAP.out (Nat.le_of_lt HFL.out) HX.out (by have := HNI.out; omega))
    obtain ⟨ai, bi, oi, ci, rfl, -⟩ := hmo.split.1
    obtain ⟨av, bv, ov, cv, rfl, -⟩ := hmo.split.2.1
    obtain ⟨af, bf, of, cf, rfl, -⟩ := hmo.split.2.2
    generalize y.imports.length = ni at *
    generalize y.vars.length = nv at *
    obtain ⟨nf, hnf⟩ : ∃ n, n = y.funs.length := ⟨_, rfl⟩
    rw [← hnf] at g3 HTG
    have hal := HR1.out.alt
    obtain ⟨nl, hnl⟩ : ∃ n, n = l.length := ⟨_, rfl⟩
    rw [hvl, ← hnl] at c0 HTG
    rw [← hnl] at hal hll
    have HPT := hide (fun h => Nm.ptgt_true (x := y) (k := f) (call := x) (known := l) h)
    obtain ⟨⟨T1, T2, T3⟩, hT⟩ : ∃ T, T = Nm.ptgt y f x l := ⟨_, rfl⟩
    rw [← hT] at HV HTG HPT
    clear hT hmo hvl hy' k1 k3 hnf hnl r3 HMO hWb
    replace r0 := cell_gn r0
    replace r1 := cell_gn r1
    replace r2 := cell_gn r2
    replace c0 := cell_gn c0
    replace g0 := cell_gn g0
    replace g1 := cell_gn g1
    replace g2 := cell_gn g2
    replace g3 := cell_gn g3
    go_wp2_with fail
    refine wp_region_quiet_gn (by kernel_rfl) (by kernel_rfl) ?_
    repeat (quiet_step ((exact Calls.gn_of (HTG.out _ _))))
    refine wpQuiet_nil ?_
    intro _ hw'
    obtain ⟨⟨nq, osq⟩, hw''⟩ := hw'
    subst hw''
    have HB5 := hide (below_gn w1 nq osq)
    generalize gn w1 nq osq = W5 at *
    have HR5 := hide (HR1.out.ev (HR1.out.ma.below HB5.out) (Kp.of_below HB5.out HR1.out.nle) (Nat.le_refl _))
    have HK5 : Hid (Kp c none w W5) := hide (HK1.out.trans (Kp.of_below HB5.out HR1.out.nle))
    have HIN := hide (HAK.out _ HK5.out)
    clear r0 r1 r2 c0 g0 g1 g2 g3 HTG
    cases T3 with
    | false =>
      as_aux_lemma =>
        rw [if_pos rfl] at HV
        go_wp2_with fail
        go_ret2
        exact ⟨by rw [HV.out]; rfl, hide (by rw [HV.out]; exact ⟨HR5.out.ma, HK5.out, by unfold I64; omega⟩)⟩
    | true =>
      rw [if_neg (by simp)] at HV
      obtain ⟨r0, r1, r2, r3⟩ := HR5.out.fr.cell
      rcases HPT.out rfl with ⟨i, fu, hT, hfu⟩ | ⟨a', z, j, fu, hT, hz, hfu⟩
      · as_aux_lemma =>
          injection hT with hT1 hT2
          injection hT2 with hT2 hT3
          subst hT1 hT2
          have HC := hide (enter_any W c nm l m K F g HEE.out HDD.out W5 s1 a i (.slice aa na ac) args HR5.out.below HR5.out.size HR5.out.mods HR5.out.ma y fu HY.out hfu (fusE_ok (moE_len (HO.out.ok y (List.mem_of_getElem? HY.out))).2 fu (List.mem_of_getElem? hfu)) HIN.out HAI.out HFU.out)
          have HVE : Hid (R = Rn.enter F l a i args s1) := hide (by rw [HV.out]; simp)
          rw [← HVE.out] at HC
          clear hfu hT3 r2 r3
          go_wp2_with fail
          refine HC.out.mono ?_
          rintro e w6 ⟨rfl, HM6⟩
          clear r0 r1
          go_wp2_with fail
          go_ret2
          exact ⟨rfl, hide ⟨HM6.out.1, HK5.out.trans HM6.out.2.1, HM6.out.2.2⟩⟩
      · as_aux_lemma =>
          injection hT with hT1 hT2
          injection hT2 with hT2 hT3
          subst hT1 hT2
          have HC := hide (enter_any W c nm l m K F g HEE.out HDD.out W5 s1 a' j (.slice aa na ac) args HR5.out.below HR5.out.size HR5.out.mods HR5.out.ma z fu hz hfu (fusE_ok (moE_len (HO.out.ok z (List.mem_of_getElem? hz))).2 fu (List.mem_of_getElem? hfu)) HIN.out HAI.out HFU.out)
          have hneg : ¬ ((a' : Int) < 0) := by omega
          have HVE : Hid (R = Rn.enter F l a' j args s1) := hide (by rw [HV.out, if_neg hneg]; simp)
          rw [← HVE.out] at HC
          clear hfu hT3 r1 r2 r3 hz
          go_wp2_with fail
          refine HC.out.mono ?_
          rintro e w6 ⟨rfl, HM6⟩
          clear r0
          go_wp2_with fail
          go_ret2
          exact ⟨rfl, hide ⟨HM6.out.1, HK5.out.trans HM6.out.2.1, HM6.out.2.2⟩⟩

end Go.Proofs.YtnheahdcfadclaaGreatDoor
