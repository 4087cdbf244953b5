/- Running functions by the document: the cells that are being laid; a call whose arguments don't fit; all functions by induction. -/
import Derived.Test.YtholefgckcoklaaGreatDoorCDK
import Derived.Test.YtholefgckcoklaaGreatDoorZBN
import Derived.Test.YtholefgckcoklaaGreatDoorCDF
import Derived.Test.YtholefgckcoklaaGreatDoorCDH
import Derived.Test.YtholefgckcoklaaGreatDoorZBJ
namespace Go.Proofs.YtholefgckcoklaaGreatDoor
open Go.RowKit
structure CbI (W wx : World) (vl : Value) (fuel : Nat) (T : List Ce) (vc : Value) : Prop where
  bel : Below W.heap.size W wx
  blk : wx.heap[W.heap.size]? = some (.cells #[vl, vc, .int .i64 0, .slice none 0 0, .slice none 0 0, .slice none 0 0, .int .i64 fuel] 140 (0, 0))
  row : OwnK CeC wx W.heap.size 59 3 vc T
theorem CbI.below {W wx wy : World} {vl vc : Value} {fuel : Nat} {T : List Ce} (h : CbI W wx vl fuel T vc) (hb : Below wx.heap.size wx wy) : CbI W wy vl fuel T vc := ⟨up h.bel hb, at_upD h.blk hb, h.row.below hb⟩
theorem CbI.new (W : World) (vl : Value) (fuel : Nat) : CbI W (W.alloc (.cells #[vl, .slice none 0 0, .int .i64 0, .slice none 0 0, .slice none 0 0, .slice none 0 0, .int .i64 fuel] 140)) vl fuel [] (.slice none 0 0) := ⟨boxBelow _ _, block_new _ _, OwnK.nil _ _ _ _⟩
theorem CbI.dom {W wx : World} {vl vc : Value} {fuel : Nat} {T : List Ce} (h : CbI W wx vl fuel T vc) {nm : List (ByteArray × ByteArray)} {vs : List Rn.Vr} {ex : List Ce} (hT : T = Rn.sto nm vs ++ ex) (hf : fuel ≤ 10000) (hl : vs.length = nm.length) (hv : ∀ v ∈ vs, I64 v.val) (hn : nm.length + ex.length ≤ 1000) (h8 : ∀ x ∈ nm, x.1.size ≤ 8 ∧ x.2.size ≤ 8) :
    ∃ cb, DoM wx ⟨W.heap.size, W.heap.size, cb, vl, vc, ex⟩ nm ⟨fuel, vs, []⟩ (.slice none 0 0) (.slice none 0 0) [] := by
  have hOwn : Own wx W.heap.size (.slice none 0 0) [] := ⟨by simp, Or.inl ⟨rfl, rfl⟩⟩
  rcases h.row.shape with ⟨hvc, hnil⟩ | ⟨g, cap, hvc, _, hg, _, _⟩
  · exact ⟨W.heap.size, ⟨Nat.le_refl _, h.blk, OwnK.nil _ _ _ _, hOwn, Nat.le_refl _, Or.inl ⟨by show Rn.sto nm vs ++ ex = []; rw [← hT]; exact hnil, hvc, rfl⟩, hl, hv, by show 0 + fuel ≤ 10000; omega, by simp, hn, h8, fun t ht => absurd ht (by simp)⟩⟩
  · have hrow := h.row
    rw [hvc] at hrow
    obtain ⟨cur, hc⟩ := hrow.typ (g := g) rfl
    refine ⟨g, ⟨Nat.le_refl _, h.blk, OwnK.nil _ _ _ _, hOwn, hg, Or.inr ⟨cap, cur, by rw [hvc]; show Value.slice _ T.length cap = .slice _ (Rn.sto nm vs ++ ex).length cap; rw [hT], hc, fun i x hx => ?_⟩, hl, hv, by show 0 + fuel ≤ 10000; omega, by simp, hn, h8, fun t ht => absurd ht (by simp)⟩⟩
    have hx' : T[i]? = some x := by rw [hT]; exact hx
    obtain ⟨c, _, hcell, hat⟩ := hrow.cell hx'
    unfold CeC at hat
    subst hat
    have h0 := hcell 0 (by decide)
    have h1 := hcell 1 (by decide)
    have h2 := hcell 2 (by decide)
    rw [block_at hc] at h0 h1 h2
    exact ⟨h0, h1, h2⟩
theorem CbI.push {W wx w7 : World} {vl vc v7 : Value} {fuel : Nat} {T : List Ce} {y : Ce} {ob : Obj} (h : CbI W wx vl fuel T vc) (hown : OwnK CeC w7 W.heap.size 59 3 v7 (T ++ [y])) (hg : (wx.alloc ob).grownBy w7 vc.ownBlock) :
    w7.heap[W.heap.size]? = some (.cells #[vl, vc, .int .i64 0, .slice none 0 0, .slice none 0 0, .slice none 0 0, .int .i64 fuel] 140 (0, 0)) ∧ CbI W (w7.setCell ⟨W.heap.size, 1, none⟩ v7) vl fuel (T ++ [y]) v7 := by
  have hp7 := grown_keep (boxBelow wx ob) hg W.heap.size _ h.blk (h.row.apart h.blk (by decide))
  have hv7 : v7.ownBlock ≠ some W.heap.size := hown.apart hp7 (by decide)
  refine ⟨hp7, ⟨?_, (block_set hp7 1 _).trans rfl, hown.sameK (fun g ob hg' ho => block_other ho (fun e => hv7 (by rw [hg']; exact congrArg some e)) _)⟩⟩
  have hW : W.heap.size ≤ wx.heap.size := h.bel.size
  exact ((h.bel.alloc hW ob).grown hg (Nat.le_trans hW (boxBelow wx ob).size) (fun k hk => (h.row.lt k hk).1)).setCell (Nat.le_refl _) _
set_option maxHeartbeats 4000000 in
set_option maxRecDepth 100000 in
theorem dcall_len (W w : World) (c : Dc) (m : Nat) (x : Mo) (f : Nat) (fu : Fu) (args : List Int) (va vi vv vf : Value) (hbel : Below W.heap.size W w) (hmo : MoAt W m (.agg #[.string x.name, vi, vv, vf]) x) (hfu : x.funs[f]? = some fu) (hva : Ints w va args) (hlen : fu.params.length ≠ args.length) :
    Calls Tryz.prog 69 #[.pointer (some ⟨c.p, 0, none⟩), .agg #[.string x.name, vi, vv, vf], .int .i64 f, va] w fun r w' => r = .returned (.tuple #[.int .i64 0, .int .i64 5]) ∧ Below w.heap.size w w' := by
  have hf : f < x.funs.length := (List.getElem?_eq_some_iff.1 hfu).1
  obtain ⟨fa, fb, fo, fc, rfl, hfa, hfl, hfe⟩ := hmo.split.2.2
  obtain ⟨hfn, vpar, vbo, e0, e1, e2, e3, g0, g1, g2, g3, g4, g5, g6, hpar, hbo, hre⟩ := hfe f fu hfu
  obtain ⟨pa, pb, po, pc, rfl, -, hpl, -⟩ := hpar
  obtain ⟨ba, bc, rfl, hbl⟩ := hbo.shape
  obtain ⟨ra, rc, rfl, rfl, rfl, rfl⟩ := hre.shape
  obtain ⟨ia, ib, io, ic, rfl, -⟩ := hmo.split.1
  obtain ⟨vva, vvb, vvo, vvc, rfl, -⟩ := hmo.split.2.1
  obtain ⟨ga, gb, go, gc, rfl, -, hgl, -⟩ := hva
  replace g0 := fun o => cellUp (cellUp g0 hbel) (boxBelow w o)
  replace g1 := fun o => cellUp (cellUp g1 hbel) (boxBelow w o)
  replace g2 := fun o => cellUp (cellUp g2 hbel) (boxBelow w o)
  replace g3 := fun o => cellUp (cellUp g3 hbel) (boxBelow w o)
  replace g4 := fun o => cellUp (cellUp g4 hbel) (boxBelow w o)
  replace g5 := fun o => cellUp (cellUp g5 hbel) (boxBelow w o)
  replace g6 := fun o => cellUp (cellUp g6 hbel) (boxBelow w o)
  obtain ⟨nf, hnf⟩ : ∃ n, n = x.funs.length := ⟨_, rfl⟩
  rw [← hnf] at hf hfa hfl ⊢
  obtain rfl := hfa (by omega)
  generalize fu.params.length = np at *
  generalize args.length = ng at *
  generalize x.imports.length = ni at *
  generalize x.vars.length = nv at *
  generalize fu.body.length = nb at *
  generalize fu.result.args.length = nr at *
  have hff : (f : Int) < (nf : Int) := by omega
  have hn1 : ((np : Int) == (ng : Int)) = false := by rw [beq_eq_false_iff_ne]; omega
  have hn2 : ((np : Int) = (ng : Int)) = False := eq_false (by omega)
  have hb := up (boxBelow w (.cells #[.string x.name, .slice ia ni ic, .slice vva nv vvc, .slice (some ⟨fb, fo, none⟩) nf fc] 26)) (boxBelow _ (.cells #[.string fu.name, .slice pa np pc, .slice ba nb bc, .int .i64 fu.result.kind, .int .i64 fu.result.n, .string fu.result.name, .slice ra nr rc] 106))
  have HB := hide hb
  clear hmo hfe hbo hre hfu hfa hbel hnf hb
  go_enter Tryz.func69, Tryz.ntmps69
  go_wp2_with fail
  go_ret2
  exact ⟨rfl, HB.out⟩
theorem moE_funs {m : Nat} {y : Mo} (h : Lat.moE m y = 0) {f : Nat} {fu : Fu} (hf : y.funs[f]? = some fu) : Lat.bodyB m fu.body = true ∧ Lat.exprB m fu.result = true ∧ fu.params.length ≤ 4 := by
  have h1 := fusE_ok (moE_len h).2 fu (List.mem_of_getElem? hf)
  unfold Lat.fuE at h1
  by_cases h4 : 4 < fu.params.length
  · rw [if_pos h4] at h1; cases h1
  · rw [if_neg h4] at h1
    by_cases hk : Lat.fuOk m fu = true
    · unfold Lat.fuOk at hk
      simp only [Bool.and_eq_true] at hk
      exact ⟨hk.1.1.2, hk.1.2, by omega⟩
    · rw [if_neg hk] at h1; cases h1
theorem dall_ok (W : World) (c : Dc) (nm : List (ByteArray × ByteArray)) (l : List Mo) (m K : Nat) (hK : m + 2 ≤ K) (hcn : c.n = W.heap.size) (hM : MosAt W m c.vl l) (hG : Firsts nm l) (hO : FunsOk m l) : ∀ g, EvD W c nm l m K (Rn.M nm l g) g ∧ BoD W c nm l m K (Rn.M nm l g) g := by
  intro g
  induction g using Nat.strongRecOn with
  | ind g ih =>
    cases g with
    | zero =>
      refine ⟨fun w s vp vd D q a x f ns vals vns vvs mm c0 c1 c2 c3 e _ hX _ hg => ?_, fun w s vp vd D q a x f ns vals vns vvs mm vb b _ hS _ hg => ?_⟩
      · have : mm = 0 := by omega
        subst this
        exact absurd hX (fun h => h)
      · have : mm = 0 := by omega
        subst this
        exact absurd hS (fun h => h)
    | succ g =>
      obtain ⟨h1, h2⟩ := ih g (Nat.lt_succ_self g)
      have h3 := dcall_step W c nm l m K _ g hcn hM (Rn.M_le nm l g) h1 h2 hO
      exact ⟨dval_step W c nm l m K _ g (by omega) (Rn.M_le nm l g) h1 h3 hG, dbody_step W c nm l m K g (by omega) (fun g' hg => (ih g' (by omega)).1) (fun g' hg => (ih g' (by omega)).2)⟩
end Go.Proofs.YtholefgckcoklaaGreatDoor
