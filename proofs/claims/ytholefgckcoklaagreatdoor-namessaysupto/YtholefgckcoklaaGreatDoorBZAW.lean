/- Walks over package names: eachCall, callDiags. -/
import Derived.Test.YtholefgckcoklaaGreatDoorBZAT
import Derived.Deep.OwnRows
import Derived.Laws.OwnMore
import Derived.OwnWalk
import Derived.Lib.AppendZerosOnto
import Derived.Lib.SliceRun
namespace Go.Proofs.YtholefgckcoklaaGreatDoor
open Go.RowKit
theorem VisE.up {W0 W W1 : World} {M p g : Nat} {cb : Array Value} {D : Ex → List Dg} (h : VisE W0 W M p g cb D) (hT : Tells p W W1) : VisE W0 W1 M p g cb D :=
  fun w c0 c1 c2 c3 y l h1 h2 h3 h4 h5 => h w c0 c1 c2 c3 y l h1 (hT.trans h2) h3 h4 h5
set_option maxHeartbeats 2000000 in
set_option maxRecDepth 100000 in
theorem eachCallP_any (W0 W : World) (M p g r : Nat) (cb : Array Value) (D : Ex → List Dg) (eg : ∀ args w, (callFunc g args).run Tryz.prog w = .ok (.enter g args) w) (hv : VisE W0 W M p g cb D)
    (hr : W.heap[r]? = some (.cells #[.func (.func g) #[] cb] 158 (0, 0))) (hrp : r ≠ p) :
    VisS W0 W M p 191 #[.pointer (some ⟨r, 0, none⟩)] (fun s => (Nm.pcalls M s.e).flatMap D) := by
  intro w e0 e1 e2 e3 va vb s l hW hT hl hst hlen
  have HB0 := hide (boxBelow w (.cells #[.int .i64 s.kind, .string s.name, e0, e1, e2, e3, va, vb] 119))
  have hz := box8 w (.int .i64 s.kind) (.string s.name) e0 e1 e2 e3 va vb 119
  have z2 := hz 2 _ rfl
  have z3 := hz 3 _ rfl
  have z4 := hz 4 _ rfl
  have z5 := hz 5 _ rfl
  have hr1 := cellUp ((block_at (hT.at hrp hr (by decide)) 0).trans rfl) HB0.out
  have HTO := hide (hl.below HB0.out)
  have HW := hide hW
  have HT := hide hT
  have HV := hide hv
  have HLE := hide hlen
  obtain ⟨f0, f1, f2, f3, fa, fb, hc, -, -, hx, -, -⟩ := hst
  simp only [List.cons.injEq, and_true, true_and] at hc
  obtain ⟨rfl, rfl, rfl, rfl, rfl, rfl⟩ := hc
  have HX := hide hx
  obtain ⟨xa, xc, rfl, rfl, rfl, rfl⟩ := hx.shape
  generalize s.e.args.length = ne at *
  have EG := hide eg
  clear hz hr hl hT hW hv hlen hx eg
  show Calls Tryz.prog 191 #[.agg #[.int .i64 s.kind, .string s.name, .int .i64 s.e.kind, .int .i64 s.e.n, .string s.e.name, .slice xa ne xc, va, vb], .pointer (some ⟨r, 0, none⟩)] w _
  go_enter Tryz.func191, Tryz.ntmps191
  go_wp2_with fail
  refine (callsIn_any W0 W M p g cb D EG.out HV.out M _ _ _ _ _ s.e l (Nat.le_refl _) (HW.out.trans (HB0.out.mono HW.out.size)) (HT.out.trans (Tells.of_below HB0.out)) HTO.out HX.out HLE.out).mono ?_
  rintro e w5 ⟨rfl, hto5, hb5, ht5⟩
  have HTO5 := hide hto5
  have HB5 := hide ((HB0.out.mono HW.out.size).trans hb5)
  have HT5 : Hid (Tells p w w5) := hide ((Tells.of_below HB0.out).trans ht5)
  clear hto5 hb5 ht5
  go_wp2
  go_end0
  exact ⟨rfl, HTO5.out, HB5.out, HT5.out⟩
namespace Nm
def fcalls (m : Nat) (f : Fu) : List Ex := ((all m f.body).flatMap fun s => pcalls m s.e) ++ pcalls m f.result
end Nm
theorem al2 (w : World) (a b : Obj) : ((w.alloc a).alloc b).heap[w.heap.size]? = some a ∧ ((w.alloc a).alloc b).heap[w.heap.size + 1]? = some b ∧ Below w.heap.size w ((w.alloc a).alloc b) := by
  have h1 := block_new w a
  have h2 := block_new (w.alloc a) b
  simp only [World.size_alloc] at h2
  refine ⟨?_, h2, up (boxBelow _ _) (boxBelow _ _)⟩
  rw [(boxBelow _ b).block _ (by simp)]; exact h1
set_option maxHeartbeats 2000000 in
set_option maxRecDepth 100000 in
theorem eachCall_any (W0 W : World) (M p g : Nat) (cb : Array Value) (D : Ex → List Dg) (eg : ∀ args w, (callFunc g args).run Tryz.prog w = .ok (.enter g args) w) (hv : VisE W0 W M p g cb D) (w : World) (fn : ByteArray) (vp vb e0 e1 e2 e3 : Value) (f : Fu) (l : List Dg)
    (hW : Below W0.heap.size W0 w) (hT : Tells p W w) (hl : Told w W0.heap.size p l) (hb : StsAt W0 M vb f.body) (hx : ExAt W0 M e0 e1 e2 e3 f.result) (hlen : l.length + ((Nm.fcalls M f).flatMap D).length ≤ 16777216) :
    Calls Tryz.prog 132 #[.agg #[.string fn, vp, vb, e0, e1, e2, e3], .func (.func g) #[] cb] w fun e w' => e = .returned (.tuple #[]) ∧ Told w' W0.heap.size p (l ++ (Nm.fcalls M f).flatMap D) ∧ Below W0.heap.size w w' ∧ Tells p w w' := by
  have HX := hide hx
  have HVB := hide hb
  obtain ⟨sb, cb', rfl⟩ := hb.shapeN
  obtain ⟨xa, xc, rfl, rfl, rfl, rfl⟩ := hx.shape
  generalize f.body.length = nb at *
  generalize f.result.args.length = ne at *
  obtain ⟨b0, b1, hb0⟩ := al2 w (.cells #[.string fn, vp, .slice sb nb cb', .int .i64 f.result.kind, .int .i64 f.result.n, .string f.result.name, .slice xa ne xc] 106) (.cells #[.func (.func g) #[] cb] 158)
  have HB0 := hide b0
  have HB1 := hide b1
  have HBL := hide hb0
  have HP := hide hl.lt
  have HW := hide hW
  have HT := hide hT
  have HTO := hide (hl.below hb0)
  have EG := hide eg
  have HV := hide (hv.up (hT.trans (Tells.of_below hb0)))
  have HS := hide (eachCallP_any W0 _ M p g (w.heap.size + 1) cb D eg (hv.up (hT.trans (Tells.of_below hb0))) b1 (by have := hl.lt; omega))
  have HFL : Hid ((Nm.fcalls M f).flatMap D = ((Nm.all M f.body).flatMap fun s => (Nm.pcalls M s.e).flatMap D) ++ (Nm.pcalls M f.result).flatMap D) := hide (by unfold Nm.fcalls; rw [List.flatMap_append, List.flatMap_assoc])
  rw [HFL.out, List.length_append] at hlen
  have HLE := hide hlen
  have q2 := (block_at b0 2).trans (rfl : _ = some (Value.slice sb nb cb'))
  clear hx hb b0 b1 hb0 hl hW hT eg hv hlen
  go_enter Tryz.func132, Tryz.ntmps132
  go_wp2_with fail
  generalize ((w.alloc (.cells #[.string fn, vp, .slice sb nb cb', .int .i64 f.result.kind, .int .i64 f.result.n, .string f.result.name, .slice xa ne xc] 106)).alloc (.cells #[.func (.func g) #[] cb] 158)) = W1 at *
  refine (eachCommand_any W0 W1 M p 191 _ _ (enters_of Tryz.func191 (by kernel_rfl) rfl) HS.out M _ _ f.body l (Nat.le_refl _) (HW.out.trans (HBL.out.mono HW.out.size)) (Tells.refl _ _) HTO.out HVB.out (by have := HLE.out; omega)).mono ?_
  rintro e w5 ⟨rfl, hto5, hb5, ht5⟩
  have HTO5 := hide hto5
  have HB5 := hide ((HBL.out.mono HW.out.size).trans hb5)
  have HT5 := hide ht5
  have hb05 := ht5.at (by have := HP.out; omega) HB0.out (by decide)
  have hb15 := ht5.at (by have := HP.out; omega) HB1.out (by decide)
  have k3 := (block_at hb05 3).trans (rfl : _ = some (Value.int .i64 f.result.kind))
  have k4 := (block_at hb05 4).trans (rfl : _ = some (Value.int .i64 f.result.n))
  have k5 := (block_at hb05 5).trans (rfl : _ = some (Value.string f.result.name))
  have k6 := (block_at hb05 6).trans (rfl : _ = some (Value.slice xa ne xc))
  have k7 := (block_at hb15 0).trans (rfl : _ = some (Value.func (.func g) #[] cb))
  clear hto5 hb5 ht5 hb05 hb15 q2
  go_wp2_with fail
  refine (callsIn_any W0 W1 M p g cb D EG.out HV.out M _ _ _ _ _ f.result _ (Nat.le_refl _) (HW.out.trans HB5.out) HT5.out HTO5.out HX.out (by have := HLE.out; rw [List.length_append]; omega)).mono ?_
  rintro e w6 ⟨rfl, hto6, hb6, ht6⟩
  have HTO6 := hide hto6
  have HB6 := hide (HB5.out.trans hb6)
  have HT6 : Hid (Tells p w w6) := hide (((Tells.of_below HBL.out).trans HT5.out).trans ht6)
  clear hto6 hb6 ht6
  go_wp2
  go_end0
  exact ⟨rfl, by rw [HFL.out, ← List.append_assoc]; exact HTO6.out, HB6.out, HT6.out⟩
namespace Nm
def clE (x : Mo) (known : List Mo) (k : Nat) (fn : ByteArray) (y : Ex) : List Dg := if code x known k y.name y.args.length = 0 then [] else [⟨code x known k y.name y.args.length, fn, y.name⟩]
end Nm
set_option maxHeartbeats 2000000 in
set_option maxRecDepth 100000 in
theorem callP_any (W0 W : World) (m p qs qk qf : Nat) (x : Mo) (known : List Mo) (vi vv vf vk va : Value) (k : Nat) (fn : ByteArray) (cf : Array Value) (hS : ScV W0 m x known vi vv vf vk va) (hk : k ≤ x.funs.length)
    (hs : W.heap[qs]? = some (.cells #[.string x.name, vi, vv, vf, vk, va] 122 (0, 0))) (hqk : W.heap[qk]? = some (.cells #[.int .i64 k] 3 (0, 0))) (hqf : W.heap[qf]? = some (.cells cf 106 (0, 0))) (hfn : cf[0]? = some (.string fn))
    (hsp : qs ≠ p) (hkp : qk ≠ p) (hfp : qf ≠ p) :
    VisE W0 W m p 133 #[.pointer (some ⟨qs, 0, none⟩), .pointer (some ⟨qk, 0, none⟩), .pointer (some ⟨p, 0, none⟩), .pointer (some ⟨qf, 0, none⟩)] (Nm.clE x known k fn) := by
  intro w c0 c1 c2 c3 y l hW hT hl hE hlen
  have HEX := hide hE
  obtain ⟨xa, xc, rfl, rfl, rfl, rfl⟩ := hE.shape
  have HB0 := hide (boxBelow w (.cells #[.int .i64 y.kind, .int .i64 y.n, .string y.name, .slice xa y.args.length xc] 103))
  have HBN := hide (block_new w (.cells #[.int .i64 y.kind, .int .i64 y.n, .string y.name, .slice xa y.args.length xc] 103))
  have s1 := hT.at hsp hs (by decide)
  have s2 := hT.at hkp hqk (by decide)
  have s3 := hT.at hfp hqf (by decide)
  have u0 := cellUp ((block_at s1 0).trans (rfl : _ = some (Value.string x.name))) HB0.out
  have u1 := cellUp ((block_at s1 1).trans (rfl : _ = some vi)) HB0.out
  have u2 := cellUp ((block_at s1 2).trans (rfl : _ = some vv)) HB0.out
  have u3' := cellUp ((block_at s1 3).trans (rfl : _ = some vf)) HB0.out
  have u4' := cellUp ((block_at s1 4).trans (rfl : _ = some vk)) HB0.out
  have u5 := cellUp ((block_at s1 5).trans (rfl : _ = some va)) HB0.out
  have u6 := cellUp ((block_at s2 0).trans (rfl : _ = some (Value.int .i64 k))) HB0.out
  have HF0 := hide ((block_at s3 0).trans hfn)
  have z0 := boxD0 w (.int .i64 y.kind) (.int .i64 y.n) (.string y.name) (.slice xa y.args.length xc) 103
  have z1 := boxD1 w (.int .i64 y.kind) (.int .i64 y.n) (.string y.name) (.slice xa y.args.length xc) 103
  have z2 := boxD2 w (.int .i64 y.kind) (.int .i64 y.n) (.string y.name) (.slice xa y.args.length xc) 103
  have z3 := boxN3 w (.int .i64 y.kind) (.int .i64 y.n) (.string y.name) (.slice xa y.args.length xc) 103
  have HZ2 := hide z2
  have HW := hide hW
  have HTO := hide hl
  have HCC := hide (callCode_any m m _ x known vi vv vf vk va k _ _ _ _ y (hS.below (hW.trans (HB0.out.mono hW.size))) hk (HEX.out.below (hW.trans (HB0.out.mono hW.size))))
  have HD : Hid (Nm.clE x known k fn y = if Nm.code x known k y.name y.args.length = 0 then [] else [⟨Nm.code x known k y.name y.args.length, fn, y.name⟩]) := rfl
  rw [HD.out] at hlen
  generalize Nm.code x known k y.name y.args.length = cd at *
  obtain ⟨hI, hV, hF⟩ := hS.mo.split
  have hK := hS.kn
  have hA := hS.ats
  obtain ⟨ai, bi, oi, ci, rfl, -⟩ := hI
  obtain ⟨av, bv, ov, cv, rfl, -⟩ := hV
  obtain ⟨af, bf, of, cf', rfl, -⟩ := hF
  obtain ⟨ak, bk, ok, ck, rfl, -⟩ := hK
  obtain ⟨aa, ba, oa, ca, rfl, -⟩ := hA
  generalize (x.imports.map fun s => Nm.oI (Nm.moAt known s)).length = nat at *
  generalize x.imports.length = ni at *
  generalize x.vars.length = nv at *
  generalize x.funs.length = nf at *
  generalize known.length = nk at *
  generalize y.args.length = na at *
  clear hs hqk hqf hfn s1 s2 s3 hE hT hS
  show Calls Tryz.prog 133 #[.agg #[.int .i64 y.kind, .int .i64 y.n, .string y.name, .slice xa na xc], .pointer (some ⟨qs, 0, none⟩), .pointer (some ⟨qk, 0, none⟩), .pointer (some ⟨p, 0, none⟩), .pointer (some ⟨qf, 0, none⟩)] w _
  by_cases h0 : cd = 0
  · have h0' : (cd == 0) = true := by simp [h0]
    rw [if_pos h0] at HD
    clear h0 hl hW hlen
    go_enter Tryz.func133, Tryz.ntmps133
    go_wp2_with fail
    refine HCC.out.mono ?_
    rintro e w5 ⟨rfl, hb5⟩
    have HB5 := hide (up HB0.out hb5)
    clear hb5 z0 z1 z2 z3 u0 u1 u2 u3' u4' u5 u6
    go_wp2_with fail
    go_end0
    exact ⟨rfl, by rw [HD.out, List.append_nil]; exact HTO.out.below HB5.out, HB5.out.mono HW.out.size, Tells.of_below HB5.out⟩
  · have h0' : (cd == 0) = false := by simp [h0]
    rw [if_neg h0] at HD hlen
    clear h0 hl hW
    have hl2 : l.length < 16777216 := by simp at hlen; omega
    clear hlen
    go_enter Tryz.func133, Tryz.ntmps133
    go_wp2_with fail
    refine HCC.out.mono ?_
    rintro e w5 ⟨rfl, hb5⟩
    have HB5 := hide (up HB0.out hb5)
    have hto5 := HTO.out.below HB5.out
    obtain ⟨t0, v, t1, t2⟩ := hto5
    have q0 : w5.cell? ⟨p, 0, none⟩ = some v := by rw [block_at t1]; rfl
    have H0 := hide t0
    have H1 := hide t1
    have H2 := hide t2
    have y2 := cellUp HZ2.out hb5
    have f0 := cellUp HF0.out HB5.out
    have hn5 := Nat.le_trans HW.out.size HB5.out.size
    clear hb5 z0 z1 z2 z3 u0 u1 u2 u3' u4' u5 u6 t0 t1 t2
    go_wp2_with (first
      | (at_builtin; refine wpList_append_K (At := DgC) rfl _ _ 37 43 3 40 _ rfl Tryz.underlying37 infoDg (by decide) (by decide) (by decide) W0.heap.size _ _ rfl (H2.out.below (boxBelow _ _)) _ _ [⟨cd, fn, y.name⟩] rfl (OwnK.one _ _ rfl (DgC.one (d := ⟨cd, fn, y.name⟩) rfl) rfl) (by simp only [List.length_singleton]; omega) (Nat.le_trans hn5 (boxBelow _ _).size) ?_; intro v6 w6 hown6 hgrow6; obtain ⟨a6, c6, hv6⟩ := hown6.form; subst hv6; have HP := hide (Told.push H0.out H1.out H2.out hown6 hgrow6); have z0 := (block_at HP.out.1 0).trans (show _ = some v from rfl); have zf := block_free HP.out.1 0; clear hown6 hgrow6)
      | fail)
    go_end0
    have hl1 : (l ++ [(⟨cd, fn, y.name⟩ : Dg)]).length = l.length + 1 := by simp
    rw [hl1] at HP
    exact ⟨rfl, by rw [HD.out]; exact HP.out.2.1, (HB5.out.mono HW.out.size).trans HP.out.2.2.1, (Tells.of_below HB5.out).trans HP.out.2.2.2⟩
end Go.Proofs.YtholefgckcoklaaGreatDoor
namespace Go.Proofs.YtholefgckcoklaaGreatDoor
open Go.RowKit
namespace Nm
def upto (g : Nat → List Dg) (n : Nat) : List Dg := (List.range n).flatMap g
theorem upto_succ (g : Nat → List Dg) (n : Nat) : upto g (n + 1) = upto g n ++ g n := by unfold upto; rw [List.range_succ, List.flatMap_append]; simp
theorem upto_zero (g : Nat → List Dg) : upto g 0 = [] := rfl
theorem upto_le (g : Nat → List Dg) {j n : Nat} (h : j ≤ n) : (upto g j).length ≤ (upto g n).length := by
  induction n with
  | zero => have : j = 0 := by omega
            subst this; exact Nat.le_refl _
  | succ n ih =>
    by_cases e : j = n + 1
    · subst e; exact Nat.le_refl _
    · rw [upto_succ, List.length_append]; have := ih (by omega); omega
theorem mem_upto {g : Nat → List Dg} {n : Nat} {d : Dg} : d ∈ upto g n ↔ ∃ i, i < n ∧ d ∈ g i := by
  unfold upto; simp
def atD {α : Type} (l : List α) (f : Nat → α → List Dg) (i : Nat) : List Dg := match l[i]? with
  | some x => f i x
  | none => []
theorem atD_some {α : Type} {l : List α} {f : Nat → α → List Dg} {i : Nat} {x : α} (h : l[i]? = some x) : atD l f i = f i x := by unfold atD; rw [h]
def clD (x : Mo) (known : List Mo) (m : Nat) : List Dg := upto (atD x.funs fun k f => (fcalls m f).flatMap (clE x known k f.name)) x.funs.length
def imD (x : Mo) (known : List Mo) : List Dg := upto (atD x.imports fun _ s => if (sameB s x.name || (moAt known s).isNone) = true then [⟨1, ⟨#[]⟩, s⟩] else []) x.imports.length
end Nm
set_option maxHeartbeats 4000000 in
set_option maxRecDepth 100000 in
theorem callDiags_any (m : Nat) (w : World) (x : Mo) (known : List Mo) (vi vv vf vk va : Value) (h : ScV w m x known vi vv vf vk va) (hlen : (Nm.clD x known m).length ≤ 16777216) :
    Calls Tryz.prog 59 #[.agg #[.string x.name, vi, vv, vf, vk, va]] w fun e w' => ∃ u, e = .returned u ∧ OwnK DgC w' w.heap.size 43 3 u (Nm.clD x known m) ∧ Below w.heap.size w w' := by
  have HS := hide h
  obtain ⟨hI, hV, hF⟩ := h.mo.split
  have hK := h.kn
  have hA := h.ats
  obtain ⟨ai, bi, oi, ci, rfl, -⟩ := hI
  obtain ⟨av, bv, ov, cv, rfl, -⟩ := hV
  obtain ⟨af, bf, of, cf, rfl, haf, hlf, hcf⟩ := hF
  obtain ⟨ak, bk, ok, ck, rfl, -⟩ := hK
  obtain ⟨aa, ba, oa, ca, rfl, -⟩ := hA
  have HCF : Hid (FuEl w m bf of x.funs) := hcf
  have HAF := hide haf
  obtain ⟨G, hG⟩ : ∃ G, G = Nm.atD x.funs fun k f => (Nm.fcalls m f).flatMap (Nm.clE x known k f.name) := ⟨_, rfl⟩
  have HG := hide hG
  have HLD : Hid (Nm.clD x known m = Nm.upto G x.funs.length) := hide (by rw [hG]; rfl)
  have HLE := hide hlen
  rw [HLD.out] at HLE ⊢
  obtain ⟨nf, hnf⟩ : ∃ n, n = x.funs.length := ⟨_, rfl⟩
  have HNF := hide hnf
  rw [← hnf] at hlf HAF HLE HS ⊢
  generalize (x.imports.map fun s => Nm.oI (Nm.moAt known s)).length = nat at *
  generalize x.imports.length = ni at *
  generalize x.vars.length = nv at *
  generalize known.length = nk at *
  obtain ⟨b0, b1, hb0⟩ := al2 w (.cells #[.string x.name, .slice ai ni ci, .slice av nv cv, .slice af nf cf, .slice ak nk ck, .slice aa nat ca] 122) (.cells #[.slice none 0 0] 37)
  have HB0 := hide b0
  have HBL := hide hb0
  have q3 := (block_at b0 3).trans (rfl : _ = some (Value.slice af nf cf))
  have HTO : Hid (Told _ w.heap.size (w.heap.size + 1) []) := hide ⟨by omega, _, b1, OwnK.nil _ _ _ _⟩
  clear hcf haf hlen hG hnf h b0 b1 hb0
  go_enter Tryz.func59, Tryz.ntmps59
  go_wp2_with fail
  generalize ((w.alloc (.cells #[.string x.name, .slice ai ni ci, .slice av nv cv, .slice af nf cf, .slice ak nk ck, .slice aa nat ca] 122)).alloc (.cells #[.slice none 0 0] 37)) = W1 at *
  clear q3
  go_loopw [10] (fun i wr => ∃ j : Nat, j ≤ nf ∧ i = .int .i64 j ∧ Told wr w.heap.size (w.heap.size + 1) (Nm.upto G j) ∧ Below w.heap.size w wr ∧ Tells (w.heap.size + 1) W1 wr) (fun i _ => nf - (intOf i).toNat)
  case atStart => exact ⟨0, Nat.zero_le _, rfl, HTO.out, HBL.out, Tells.refl _ _⟩
  case round =>
    obtain ⟨t, ht, rfl, hto, hnx, htl⟩ := hrel
    have HTO3 := hide hto
    have HNX3 := hide hnx
    have HTL3 := hide htl
    by_cases htl' : t < nf
    · obtain ⟨y, hy⟩ : ∃ y, x.funs[t]? = some y := ⟨_, List.getElem?_eq_getElem (by rw [← HNF.out]; exact htl')⟩
      obtain ⟨-, vp, vb, e0, e1, e2, e3, g0, g1, g2, g3, g4, g5, g6, hp, hb, hx⟩ := HCF.out t y hy
      obtain rfl := HAF.out (by omega)
      have HY : Hid (G t = (Nm.fcalls m y).flatMap (Nm.clE x known t y.name)) := hide (by rw [HG.out]; exact Nm.atD_some hy)
      have HVB := hide hb
      have HVX := hide hx
      replace g0 := cellUp g0 hnx
      replace g1 := cellUp g1 hnx
      replace g2 := cellUp g2 hnx
      replace g3 := cellUp g3 hnx
      replace g4 := cellUp g4 hnx
      replace g5 := cellUp g5 hnx
      replace g6 := cellUp g6 hnx
      obtain ⟨ap, bp, op, cp, rfl, -⟩ := hp
      obtain ⟨sb, cb', rfl⟩ := hb.shapeN
      obtain ⟨xa, xc, rfl, rfl, rfl, rfl⟩ := hx.shape
      generalize y.params.length = np at *
      generalize y.body.length = nb at *
      generalize y.result.args.length = ne at *
      obtain ⟨c0, c1, hb5⟩ := al2 wr (.cells #[.int .i64 t] 3) (.cells #[.string y.name, .slice ap np cp, .slice sb nb cb', .int .i64 y.result.kind, .int .i64 y.result.n, .string y.result.name, .slice xa ne xc] 106)
      have HB5 := hide hb5
      have d0 := (block_at c1 0).trans (rfl : _ = some (Value.string y.name))
      have d1 := (block_at c1 1).trans (rfl : _ = some (Value.slice ap np cp))
      have d2 := (block_at c1 2).trans (rfl : _ = some (Value.slice sb nb cb'))
      have d3 := (block_at c1 3).trans (rfl : _ = some (Value.int .i64 y.result.kind))
      have d4 := (block_at c1 4).trans (rfl : _ = some (Value.int .i64 y.result.n))
      have d5 := (block_at c1 5).trans (rfl : _ = some (Value.string y.result.name))
      have d6 := (block_at c1 6).trans (rfl : _ = some (Value.slice xa ne xc))
      have hplt := hto.lt
      have hT2 := htl.trans (Tells.of_below hb5)
      have HVI := hide (callP_any w _ m (w.heap.size + 1) w.heap.size wr.heap.size (wr.heap.size + 1) x known _ _ _ _ _ t y.name _ HS.out (by rw [← HNF.out]; exact ht) (hT2.at (by omega) HB0.out (by decide)) c0 c1 rfl (by omega) (by omega) (by omega))
      have HLS : Hid ((Nm.upto G t).length + ((Nm.fcalls m y).flatMap (Nm.clE x known t y.name)).length ≤ 16777216) := hide (by
        have h1 := Nm.upto_le G (show t + 1 ≤ nf by omega)
        rw [Nm.upto_succ, List.length_append, HY.out] at h1
        have h2 := HLE.out
        omega)
      clear hto hnx htl hy hb hx hT2 c0 c1 hb5
      go_wp2_with fail
      refine (eachCall_any w _ m (w.heap.size + 1) 133 _ _ (enters_of Tryz.func133 (by kernel_rfl) rfl) HVI.out _ y.name _ _ _ _ _ _ y _ (up HNX3.out HB5.out) (Tells.refl _ _) (HTO3.out.below HB5.out) HVB.out HVX.out HLS.out).mono ?_
      rintro e w5 ⟨rfl, hto5, hb5, ht5⟩
      have HTO5 := hide hto5
      have HB6 := hide ((up HNX3.out HB5.out).trans hb5)
      have HT6 := hide ((HTL3.out.trans (Tells.of_below HB5.out)).trans ht5)
      clear hto5 hb5 ht5 g0 g1 g2 g3 g4 g5 g6 d0 d1 d2 d3 d4 d5 d6
      go_wp2_with fail
      go_roundw
      case rel => exact ⟨t + 1, by omega, by go_num, by rw [Nm.upto_succ, HY.out]; exact HTO5.out, HB6.out, HT6.out⟩
      case measure => simp [intOf]; omega
    · have hje : t = nf := by omega
      rw [hje] at hto
      obtain ⟨-, v, hv1, hv2⟩ := hto
      have c0 := (block_at hv1 0).trans (rfl : _ = some v)
      have HV2 := hide hv2
      obtain ⟨a9, c9, rfl⟩ := hv2.form
      generalize (Nm.upto G nf).length = nu at *
      clear hv1 hv2 hje htl hnx
      go_wp2_with fail
      go_ret
      exact ⟨_, rfl, HV2.out, HNX3.out⟩
set_option maxHeartbeats 2000000 in
set_option maxRecDepth 100000 in
theorem importDiags_any (m : Nat) (w : World) (x : Mo) (known : List Mo) (vi vv vf vk va : Value) (h : ScV w m x known vi vv vf vk va) (hlen : (Nm.imD x known).length ≤ 16777216) :
    Calls Tryz.prog 56 #[.agg #[.string x.name, vi, vv, vf, vk, va]] w fun e w' => ∃ u, e = .returned u ∧ OwnK DgC w' w.heap.size 43 3 u (Nm.imD x known) ∧ Below w.heap.size w w' := by
  obtain ⟨hI, hV, hF⟩ := h.mo.split
  have hK := h.kn
  have hA := h.ats
  obtain ⟨ai, bi, oi, ci, rfl, hai, hli, hcs, hci⟩ := hI
  obtain ⟨av, bv, ov, cv, rfl, -⟩ := hV
  obtain ⟨af, bf, of, cf, rfl, -⟩ := hF
  obtain ⟨ak, bk, ok, ck, rfl, -⟩ := hK
  obtain ⟨aa, ba, oa, ca, rfl, haa, hla, hca⟩ := hA
  have HCI := hide hci
  have HAI := hide hai
  have HCA := hide hca
  obtain ⟨G, hG⟩ : ∃ G, G = Nm.atD x.imports fun _ s => if (Nm.sameB s x.name || (Nm.moAt known s).isNone) = true then [⟨1, ⟨#[]⟩, s⟩] else [] := ⟨_, rfl⟩
  have HG := hide hG
  have HLD : Hid (Nm.imD x known = Nm.upto G x.imports.length) := hide (by rw [hG]; rfl)
  have HLE := hide hlen
  rw [HLD.out] at HLE ⊢
  have hla' : (x.imports.map fun s => Nm.oI (Nm.moAt known s)).length = x.imports.length := by rw [List.length_map]
  rw [hla'] at hla haa ⊢
  have HAA := hide haa
  obtain ⟨ni, hni⟩ : ∃ n, n = x.imports.length := ⟨_, rfl⟩
  have HNI := hide hni
  rw [← hni] at hli HAI HLE hla HAA ⊢
  generalize x.funs.length = nf at *
  generalize x.vars.length = nv at *
  generalize known.length = nk at *
  have HBX := fun i v h => box6 w (.string x.name) (.slice ai ni ci) (.slice av nv cv) (.slice af nf cf) (.slice ak nk ck) (.slice aa ni ca) 122 i v h
  have HB0 := hide (boxBelow w (.cells #[.string x.name, .slice ai ni ci, .slice av nv cv, .slice af nf cf, .slice ak nk ck, .slice aa ni ca] 122))
  have q0 := HBX 0 _ rfl
  have q1 := HBX 1 _ rfl
  have q5 := HBX 5 _ rfl
  clear hci hai hcs hca haa hlen hG hni h hla' HBX
  go_enter Tryz.func56, Tryz.ntmps56
  go_wp2_with fail
  generalize (w.alloc (.cells #[.string x.name, .slice ai ni ci, .slice av nv cv, .slice af nf cf, .slice ak nk ck, .slice aa ni ca] 122)) = W1 at *
  go_loopw [3, 10] (fun v i wr => ∃ j : Nat, j ≤ ni ∧ i = .int .i64 j ∧ OwnK DgC wr W1.heap.size 43 3 v (Nm.upto G j) ∧ Below W1.heap.size W1 wr) (fun _ i _ => ni - (intOf i).toNat)
  case atStart => exact ⟨0, Nat.zero_le _, rfl, OwnK.nil _ _ _ _, Below.refl _ _⟩
  case round =>
    obtain ⟨t, ht, rfl, hown, hnx⟩ := hrel
    have HOW := hide hown
    have HNX := hide hnx
    by_cases htl' : t < ni
    · obtain ⟨s, hs⟩ : ∃ y, x.imports[t]? = some y := ⟨_, List.getElem?_eq_getElem (by rw [← HNI.out]; exact htl')⟩
      have c0 := cellUp (cellUp (HCI.out t (by rw [← HNI.out]; exact htl')) HB0.out) hnx
      rw [List.getD_eq_getElem?_getD, hs, Option.getD_some] at c0
      obtain rfl := HAI.out (by omega)
      obtain rfl := HAA.out (by omega)
      have c5 := cellUp (cellUp (HCA.out t (Nm.oI (Nm.moAt known s)) (by rw [List.getElem?_map, hs]; rfl)) HB0.out) hnx
      have HY : Hid (G t = if (Nm.sameB s x.name || (Nm.moAt known s).isNone) = true then [⟨1, ⟨#[]⟩, s⟩] else []) := hide (by rw [HG.out]; exact Nm.atD_some hs)
      replace q0 := cellUp q0 hnx
      replace q5 := cellUp q5 hnx
      obtain ⟨a3, c3, rfl⟩ := hown.form
      have hul : (Nm.upto G t).length < 16777216 ∨ G t = [] := by
        have h1 := Nm.upto_le G (show t + 1 ≤ ni by omega)
        rw [Nm.upto_succ, List.length_append] at h1
        have h2 := HLE.out
        by_cases hg : G t = []
        · exact Or.inr hg
        · have := List.length_pos_iff.2 hg
          exact Or.inl (by omega)
      have HUL := hide hul
      obtain ⟨ul, hut⟩ : ∃ n, n = (Nm.upto G t).length := ⟨_, rfl⟩
      have HUT := hide hut
      rw [← hut] at HOW ⊢
      clear hs hown hnx hut hul q1
      cases hb1 : (s.toList == x.name.toList)
      · have hsb : Nm.sameB s x.name = false := hb1
        rw [hsb, Bool.false_or] at HY
        clear hsb
        cases hmo : Nm.moAt known s with
        | none =>
          rw [hmo] at HY c5
          have ho : Nm.oI none = -1 := rfl
          rw [ho] at c5
          rw [Option.isNone_none, if_pos rfl] at HY
          have hul : ul < 16777216 := by
            rcases HUL.out with h | h
            · rw [HUT.out]; exact h
            · rw [HY.out] at h; cases h
          clear hmo ho
          go_wp2_with (first
            | (at_builtin; refine wpList_append_K (At := DgC) rfl _ _ 37 43 3 40 _ rfl Tryz.underlying37 infoDg (by decide) (by decide) (by decide) W1.heap.size _ _ rfl (HOW.out.below (boxBelow _ _)) _ _ [⟨1, ⟨#[]⟩, s⟩] rfl (OwnK.one _ _ rfl (DgC.one (d := ⟨1, ⟨#[]⟩, s⟩) rfl) rfl) (by have := HUT.out; simp only [List.length_singleton]; omega) (Nat.le_trans HNX.out.size (boxBelow _ _).size) ?_; intro v6 w6 hown6 hgrow6; have HOW6 := hide hown6; have HN6 := hide (grown_below (up HNX.out (boxBelow _ _)) hgrow6 (fun j hj => (HOW.out.lt j hj).1)); clear hown6 hgrow6)
            | fail)
          go_roundw
          case rel => exact ⟨t + 1, by omega, by go_num, by rw [Nm.upto_succ, HY.out]; exact HOW6.out, HN6.out⟩
          case measure => simp [intOf]; omega
        | some a =>
          rw [hmo] at HY c5
          have ho : Nm.oI (some a) = (a : Int) := rfl
          rw [ho] at c5
          rw [Option.isNone_some, if_neg (by simp)] at HY
          clear hmo ho
          go_wp2_with fail
          go_roundw
          case rel => exact ⟨t + 1, by omega, by go_num, by rw [Nm.upto_succ, HY.out, List.append_nil]; exact HOW.out, HNX.out⟩
          case measure => simp [intOf]; omega
      · have hsb : Nm.sameB s x.name = true := hb1
        rw [hsb, Bool.true_or, if_pos rfl] at HY
        have hul : ul < 16777216 := by
          rcases HUL.out with h | h
          · rw [HUT.out]; exact h
          · rw [HY.out] at h; cases h
        clear hsb
        go_wp2_with (first
          | (at_builtin; refine wpList_append_K (At := DgC) rfl _ _ 37 43 3 40 _ rfl Tryz.underlying37 infoDg (by decide) (by decide) (by decide) W1.heap.size _ _ rfl (HOW.out.below (boxBelow _ _)) _ _ [⟨1, ⟨#[]⟩, s⟩] rfl (OwnK.one _ _ rfl (DgC.one (d := ⟨1, ⟨#[]⟩, s⟩) rfl) rfl) (by have := HUT.out; simp only [List.length_singleton]; omega) (Nat.le_trans HNX.out.size (boxBelow _ _).size) ?_; intro v6 w6 hown6 hgrow6; have HOW6 := hide hown6; have HN6 := hide (grown_below (up HNX.out (boxBelow _ _)) hgrow6 (fun j hj => (HOW.out.lt j hj).1)); clear hown6 hgrow6)
          | fail)
        go_roundw
        case rel => exact ⟨t + 1, by omega, by go_num, by rw [Nm.upto_succ, HY.out]; exact HOW6.out, HN6.out⟩
        case measure => simp [intOf]; omega
    · have hje : t = ni := by omega
      rw [hje] at HOW
      obtain ⟨a9, c9, rfl⟩ := hown.form
      have HO2 := HOW
      rw [hje] at HO2 ⊢
      generalize (Nm.upto G ni).length = nu at *
      clear hown hje hnx
      go_wp2_with fail
      go_ret
      exact ⟨_, rfl, HO2.out.old HB0.out.size, up HB0.out HNX.out⟩
end Go.Proofs.YtholefgckcoklaaGreatDoor
namespace Go.Proofs.YtholefgckcoklaaGreatDoor
open Go.RowKit
def OwnR {α : Type} (At : List Value → α → Prop) (w : World) (n e k : Nat) (v : Value) (l : List α) : Prop :=
  ∃ cs : List (List Value), w.ownsRow n e k v l.length cs.flatten ∧ cs.length = l.length ∧ (∀ c ∈ cs, c.length = k ∧ ∀ u ∈ c, u.oneCell' = true) ∧ (∀ (i : Nat) c y, cs[i]? = some c → l[i]? = some y → At c y)
section
variable {α : Type} {At : List Value → α → Prop} {w w' : World} {n e k : Nat} {v : Value} {l : List α}
theorem OwnK.toR (h : OwnK At w n e k v l) : OwnR At w n e k v l := by
  obtain ⟨cs, h1, h2, h3, h4, _⟩ := h
  exact ⟨cs, h1, h2, h3, h4⟩
theorem OwnR.toK (h : OwnR At w n e k v l) (hz : l = [] → v = .slice none 0 0) : OwnK At w n e k v l := by
  obtain ⟨cs, h1, h2, h3, h4⟩ := h
  exact ⟨cs, h1, h2, h3, h4, hz⟩
theorem OwnR.lt (h : OwnR At w n e k v l) : ∀ j, v.ownBlock = some j → n ≤ j ∧ j < w.heap.size := by
  obtain ⟨cs, h1, _⟩ := h
  exact h1.lt
theorem OwnR.below (h : OwnR At w n e k v l) (hb : Below w.heap.size w w') : OwnR At w' n e k v l := by
  obtain ⟨cs, h1, h2⟩ := h
  exact ⟨cs, own_below h1 hb, h2⟩
end
section
variable {α : Type} {At : List Value → α → Prop} {w : World} {ops : Array Oper} {rest : List Oper} {o : Oper} {a : Act} {Q : Exit → Act → World → Prop}
theorem wpList_append_R (hgd : o.guard = none) (s x : Operand) (t e k bytes : Nat) (z : Value)
    (ho : o.op = .call { callee := .builtin .append, args := #[s, x], argTypes := #[t, t] }) (ht : Tryz.prog.underlying t = some (.slice e)) (hinfo : (Tryz.prog.info? e).map (fun i => (i.zero, i.size, i.bytes)) = some (some z, k, bytes)) (hzs : z.cells.size = k) (hk : 0 < k) (hby : bytes ≤ 1024)
    (n : Nat) (v : Value) (l : List α) (hs : a.eval s = v) (hown : OwnR At w n e k v l) (n2 : Nat) (v2 : Value) (l2 : List α) (hx : a.eval x = v2) (hown2 : OwnK At w n2 e k v2 l2) (hl : l.length + l2.length ≤ 16777216) (hbase : n ≤ w.heap.size)
    (h : ∀ v' w', OwnR At w' n e k v' (l ++ l2) → (l2 = [] → v' = v) → w.grownBy w' v.ownBlock → wpList Tryz.prog ops Q rest (a.put o.dst v') w') : wpList Tryz.prog ops Q (o :: rest) a w := by
  obtain ⟨iS, hiS, hz0, hz1, hz2⟩ := info_parts hinfo
  have HO := hown
  obtain ⟨cs, hr, k1, k2, k3⟩ := hown
  rcases hown2.shape with ⟨rfl, rfl⟩ | ⟨g2, cap2, rfl, _, _, _, hne⟩
  · refine wpList_append_own_none hgd s x t ho n e iS k ht hiS v l.length cs.flatten hs hr hx ?_
    exact h v w (by simpa using HO) (fun _ => rfl) ⟨rfl, rfl, rfl, Nat.le_refl _, fun _ _ _ => rfl⟩
  · obtain ⟨cs2, hr2, b1, b2, b3, _⟩ := hown2
    have hpos : 0 < l2.length := List.length_pos_iff.2 hne
    refine wpList_append_lies w hgd s x t ho n e iS z k bytes ht hiS hz0 hz1 hz2 hzs hk v l.length cs.flatten hs hr ⟨g2, 0, none⟩ l2.length cap2 cs2.flatten hx (by rw [flat_len cs2 (fun c hc => (b2 c hc).1), b1]) (fun j u hu => ?_) (fun u hu => ?_) hpos (by unfold maxLen; omega)
      (Nat.le_trans (Nat.mul_le_mul hl hby) (by decide)) hbase w.heap.size rfl ?_
    · rw [Addr.add_lit, Nat.zero_add, World.ownsRow.cellAt hr2 j (by have := (List.getElem?_eq_some_iff.1 hu).1; rw [flat_len cs2 (fun c hc => (b2 c hc).1), b1] at this; exact this)]
      exact hu
    · obtain ⟨c, hc, hu'⟩ := List.mem_flatten.1 hu
      exact (b2 c hc).2 u hu'
    · intro g cap w' h1' h2 _ _
      exact h _ w' (OwnK.cat ⟨k1, k2, k3⟩ ⟨b1, b2, b3⟩ hne h1').toR (fun e => absurd e hne) h2
end
set_option maxHeartbeats 2000000 in
set_option maxRecDepth 100000 in
theorem growD_any (w : World) (n : Nat) (hn : n ≤ 16777216) :
    Calls Tryz.prog 127 #[.slice none 0 0, .int .i64 n] w fun e w' => ∃ v, e = .returned v ∧ OwnR DgC w' w.heap.size 43 3 v [] ∧ (n = 0 → v = .slice none 0 0) ∧ Below w.heap.size w w' := by
  obtain ⟨iS, hiS, hz0, hz1, hz2⟩ := info_parts infoDg
  by_cases h0 : n = 0
  · subst h0
    go_enter Tryz.func127, Tryz.ntmps127
    go_wp2
    go_ret
    exact ⟨_, rfl, (OwnK.nil _ _ _ _).toR, fun _ => rfl, Below.refl _ _⟩
  · obtain ⟨Z, hZ⟩ : ∃ Z : Value, Z = .agg #[.int .i64 0, .string ⟨#[]⟩, .string ⟨#[]⟩] := ⟨_, rfl⟩
    rw [← hZ] at hz0
    have hrz : ∀ ty, (Builtin.append_ #[37, 3] ty #[.slice none 0 0, .int .i64 n]).run Tryz.prog w =
        .ok (.slice (some ⟨w.heap.size, 0, none⟩) n (grownCap w n 0 43)) (w.drew.alloc (.cells (Builtin.zeroCells Z.cells n ++ Builtin.zeroCells Z.cells (grownCap w n 0 43 - n)) 43)) := fun ty => by
      have h := Lib.run_append_grow_zeros w 37 3 ty 43 iS Z .i64 .i64 Tryz.underlying37 Tryz.underlying3 hiS hz0 none 0 0 [] (run_firstCells_none w.drew _ 0 0 0) n (by omega) (by omega) (by omega) (by omega) (by rw [hz2]; omega)
        (by rw [Nat.zero_add]; exact growslice_fits (by omega) (by rw [hz2]; omega))
      simpa using h
    have hGn : n ≤ grownCap w n 0 43 := grownCap_ge w _ _ _
    have hGm : grownCap w n 0 43 ≤ maxLen := grownCap_le_maxLen w n 0 43 (by unfold maxLen; omega)
    obtain ⟨G, hG⟩ : ∃ G, G = grownCap w n 0 43 := ⟨_, rfl⟩
    rw [← hG] at hrz hGn hGm
    have hG63 : G ≤ 9223372036854775807 := by unfold maxLen at hGm; omega
    have hown : (w.drew.alloc (.cells (Builtin.zeroCells Z.cells n ++ Builtin.zeroCells Z.cells (G - n)) 43)).ownsRow w.heap.size 43 3 (.slice (some ⟨w.heap.size, 0, none⟩) 0 G) 0 [] :=
      ⟨by simp, .inr ⟨w.heap.size, G, _, rfl, Nat.le_refl _, heap_alloc_new w.drew _, Nat.zero_le _, hGm, by
        have e : ∀ k, (Builtin.zeroCells Z.cells k).size = k * 3 := fun k => by rw [hZ]; simp [Builtin.zeroCells, Value.cells]
        rw [Array.size_append, e, e]; omega, by simp⟩⟩
    have HO := hide hown
    have HBW : Hid (Below w.heap.size w (w.drew.alloc (.cells (Builtin.zeroCells Z.cells n ++ Builtin.zeroCells Z.cells (G - n)) 43))) := hide (((Below.refl _ _).drew).alloc (by simp) _)
    clear hown hG
    generalize (w.drew.alloc (.cells (Builtin.zeroCells Z.cells n ++ Builtin.zeroCells Z.cells (G - n)) 43)) = W1 at *
    go_enter Tryz.func127, Tryz.ntmps127
    go_wp2_with (at_builtin; refine Lib.wpList_append_run _ rfl _ _ _ _ rfl _ _ rfl rfl _ _ (hrz _) ?_)
    go_ret
    exact ⟨_, rfl, ⟨[], HO.out, rfl, (fun c hc => absurd hc (by simp)), (fun i c y hc => absurd hc (by simp))⟩, fun h => absurd h h0, HBW.out⟩
def DgsS (w : World) (n : Nat) (v : Value) (ls : List (List Dg)) : Prop :=
  ∃ b off cap, v = .slice (some ⟨b, off, none⟩) ls.length cap ∧ ls.length ≤ 16 ∧ ∀ i l, ls[i]? = some l → ∃ vi, w.cell? ⟨b, off + i, none⟩ = some vi ∧ OwnK DgC w n 43 3 vi l
theorem flatD_take {ls : List (List Dg)} {j : Nat} {l : List Dg} (h : ls[j]? = some l) : (ls.take (j + 1)).flatten = (ls.take j).flatten ++ l := by
  obtain ⟨hj, rfl⟩ := List.getElem?_eq_some_iff.1 h
  rw [List.take_succ_eq_append_getElem hj, List.flatten_append]; simp
theorem flatD_le (ls : List (List Dg)) (j : Nat) : (ls.take j).flatten.length ≤ ls.flatten.length := by
  conv => rhs; rw [← List.take_append_drop j ls]
  rw [List.flatten_append, List.length_append]; omega
set_option maxHeartbeats 2000000 in
set_option maxRecDepth 100000 in
theorem concatD_any (w : World) (n0 : Nat) (v : Value) (ls : List (List Dg)) (h : DgsS w n0 v ls) (hn : ls.flatten.length ≤ 16777216) :
    Calls Tryz.prog 55 #[v] w fun e w' => ∃ v', e = .returned v' ∧ OwnK DgC w' w.heap.size 43 3 v' ls.flatten ∧ Below w.heap.size w w' := by
  obtain ⟨b, off, cap, rfl, hl16, hel⟩ := h
  have HEL := hide hel
  clear hel
  obtain ⟨len, hlen⟩ : ∃ len, len = ls.length := ⟨_, rfl⟩
  have HL := hide hlen
  rw [← hlen] at hl16 ⊢
  clear hlen
  go_enter Tryz.func55, Tryz.ntmps55
  go_wp2
  go_loop [3, 11] (fun o i => ∃ k : Nat, k ≤ len ∧ i = .int .i64 k ∧ o = .int .i64 (ls.take k).flatten.length) (fun _ i => len - (intOf i).toNat)
  case atStart => exact ⟨0, Nat.zero_le _, rfl, rfl⟩
  case round =>
    obtain ⟨k, hk, rfl, rfl⟩ := hrel
    have hacc := Nat.le_trans (flatD_le ls k) hn
    by_cases hlt : k < len
    · obtain ⟨l, hy⟩ : ∃ l, ls[k]? = some l := ⟨_, List.getElem?_eq_getElem (by rw [← HL.out]; exact hlt)⟩
      obtain ⟨vi, g0, hst⟩ := HEL.out k l hy
      obtain ⟨a, cp, rfl⟩ := hst.form
      have HST : Hid ((ls.take (k + 1)).flatten.length = (ls.take k).flatten.length + l.length) := hide (by rw [flatD_take hy, List.length_append])
      have hacc2 := Nat.le_trans (flatD_le ls (k + 1)) hn
      rw [HST.out] at hacc2
      generalize (ls.take k).flatten.length = n0 at *
      generalize l.length = n1 at *
      clear hy hst
      go_wp2
      go_round
      case rel => exact ⟨k + 1, by omega, by go_num, by rw [HST.out]; go_num⟩
      case measure => simp [intOf]; omega
    · have e : ls.take k = ls := List.take_of_length_le (by have := HL.out; omega)
      rw [e] at hacc ⊢
      clear e
      obtain ⟨N, hN⟩ : ∃ N, N = ls.flatten.length := ⟨_, rfl⟩
      have HN := hide hN
      rw [← hN] at hacc ⊢
      clear hN
      go_wp2_with fail
      refine (growD_any w N hacc).mono ?_
      rintro e w1 ⟨v1, rfl, ho1, hz1, hb1⟩
      have HO := hide ho1
      have HB := hide hb1
      have HZ : Hid (ls.flatten = [] → v1 = .slice none 0 0) := hide (fun h => hz1 (by rw [HN.out, h]; rfl))
      clear ho1 hb1 hk hlt hz1
      go_wp2
      go_loopw [6, 27] (fun o i wr => ∃ k : Nat, k ≤ len ∧ i = .int .i64 k ∧ OwnR DgC wr w.heap.size 43 3 o (ls.take k).flatten ∧ (ls.flatten = [] → o = .slice none 0 0) ∧ Below w.heap.size w wr) (fun _ i _ => len - (intOf i).toNat)
      case atStart => exact ⟨0, Nat.zero_le _, rfl, HO.out, HZ.out, HB.out⟩
      case round =>
        obtain ⟨k, hk, rfl, hown, hzz, hnx⟩ := hrel
        by_cases hlt : k < len
        · obtain ⟨l, hy⟩ : ∃ l, ls[k]? = some l := ⟨_, List.getElem?_eq_getElem (by rw [← HL.out]; exact hlt)⟩
          obtain ⟨vi, g0, hst⟩ := HEL.out k l hy
          have u0 := cellUp g0 hnx
          have HSS := hide (hst.below hnx)
          obtain ⟨a, cp, rfl⟩ := hst.form
          have HST := hide (flatD_take hy)
          have hacc2 := Nat.le_trans (flatD_le ls (k + 1)) hn
          rw [HST.out, List.length_append] at hacc2
          have hbs := hnx.size
          have HOW := hide hown
          have HNX := hide hnx
          have HZZ := hide hzz
          have HEM : Hid (ls.flatten = [] → l = []) := hide (fun h => by
            have h1 := flatD_le ls (k + 1)
            rw [HST.out, List.length_append, h] at h1
            exact List.length_eq_zero_iff.1 (by simp at h1; simpa using h1.2))
          obtain ⟨n1, hn1⟩ : ∃ n, n = l.length := ⟨_, rfl⟩
          rw [← hn1] at u0 HSS
          clear hn1
          clear hy hst g0 hown hnx hzz
          go_wp2_with (first
            | (at_builtin; refine wpList_append_R (At := DgC) rfl _ _ 37 43 3 40 _ rfl Tryz.underlying37 infoDg (by decide) (by decide) (by decide) w.heap.size _ _ rfl HOW.out _ _ l rfl HSS.out (by omega) hbs ?_; intro v' w2 hown2 hz2 hgrow2)
            | fail)
          have R2 := hide (HNX.out.grown hgrow2 hbs (fun j hj => (HOW.out.lt j hj).1))
          have HO2 := hide hown2
          have HZ2 := hide hz2
          clear hgrow2 hown2 hz2
          go_roundw
          case rel => exact ⟨k + 1, by omega, by go_num, by rw [HST.out]; exact HO2.out, fun h => by rw [HZ2.out (HEM.out h)]; exact HZZ.out h, R2.out⟩
          case measure => simp [intOf]; omega
        · have e : ls.take k = ls := List.take_of_length_le (by have := HL.out; omega)
          rw [e] at hown
          have HO2 := hide (hown.toK hzz)
          clear hown hzz
          go_wp2
          go_ret
          exact ⟨_, rfl, HO2.out, hnx⟩
end Go.Proofs.YtholefgckcoklaaGreatDoor
namespace Go.Proofs.YtholefgckcoklaaGreatDoor
open Go.RowKit
theorem Strs.takeS {w : World} {a : Option Addr} {n cap i : Nat} {ss : List ByteArray} (h : Strs w (.slice a n cap) ss) (hi : i ≤ ss.length) : Strs w (.slice a i cap) (ss.take i) := by
  obtain ⟨a', b, off, c, e, h0, h1, h2, h3⟩ := h
  injection e with e1 e2 e3
  subst e1 e2 e3
  have hl : (ss.take i).length = i := by rw [List.length_take]; omega
  refine ⟨a, b, off, cap, by rw [hl], fun h => h0 (by omega), by omega, fun s hs => h2 s (List.mem_of_mem_take hs), fun j hj => ?_⟩
  rw [h3 j (by omega)]
  rw [hl] at hj
  simp [List.getD_eq_getElem?_getD, hj]
namespace Nm
def inB (l : List ByteArray) (s : ByteArray) : Bool := decide (0 ≤ Lat.indexI l s)
def twA (fn : ByteArray) (l : List ByteArray) : List Dg := upto (atD l fun i s => if inB (l.take i) s = true then [⟨2, fn, s⟩] else []) l.length
def twD (x : Mo) : List Dg := [twA ⟨#[]⟩ x.imports, twA ⟨#[]⟩ (x.vars.map (·.name)), twA ⟨#[]⟩ (x.funs.map (·.name))].flatten ++ x.funs.flatMap fun f => twA f.name f.params
end Nm
set_option maxHeartbeats 2000000 in
set_option maxRecDepth 100000 in
theorem twiceAmong_any (w : World) (v : Value) (l : List ByteArray) (fn : ByteArray) (h : StrsC w v l) (hlen : (Nm.twA fn l).length ≤ 16777216) :
    Calls Tryz.prog 128 #[.string fn, v] w fun e w' => ∃ u, e = .returned u ∧ OwnK DgC w' w.heap.size 43 3 u (Nm.twA fn l) ∧ Below w.heap.size w w' := by
  obtain ⟨hS, a, cap, rfl, hcap⟩ := h
  have HS := hide hS
  obtain ⟨a', b, off, c', he, ha, hl, hcs, hci⟩ := hS
  injection he with he1 he2 he3
  subst he1 he3
  have HCI := hide hci
  have HA := hide ha
  obtain ⟨G, hG⟩ : ∃ G, G = Nm.atD l fun i s => if Nm.inB (l.take i) s = true then [⟨2, fn, s⟩] else [] := ⟨_, rfl⟩
  have HG := hide hG
  have HLD : Hid (Nm.twA fn l = Nm.upto G l.length) := hide (by rw [hG]; rfl)
  have HLE := hide hlen
  rw [HLD.out] at HLE ⊢
  obtain ⟨ni, hni⟩ : ∃ n, n = l.length := ⟨_, rfl⟩
  have HNI := hide hni
  rw [← hni] at hl HA HLE hcap HS ⊢
  clear hci ha hcs hlen hG hni he2
  go_enter Tryz.func128, Tryz.ntmps128
  go_wp2_with fail
  go_loopw [5, 10] (fun v i wr => ∃ j : Nat, j ≤ ni ∧ i = .int .i64 j ∧ OwnK DgC wr w.heap.size 43 3 v (Nm.upto G j) ∧ Below w.heap.size w wr) (fun _ i _ => ni - (intOf i).toNat)
  case atStart => exact ⟨0, Nat.zero_le _, rfl, OwnK.nil _ _ _ _, Below.refl _ _⟩
  case round =>
    obtain ⟨t, ht, rfl, hown, hnx⟩ := hrel
    have HOW := hide hown
    have HNX := hide hnx
    by_cases htl' : t < ni
    · obtain ⟨s, hs⟩ : ∃ y, l[t]? = some y := ⟨_, List.getElem?_eq_getElem (by rw [← HNI.out]; exact htl')⟩
      have c0 := cellUp (HCI.out t (by rw [← HNI.out]; exact htl')) hnx
      rw [List.getD_eq_getElem?_getD, hs, Option.getD_some] at c0
      obtain rfl := HA.out (by omega)
      have HY : Hid (G t = if Nm.inB (l.take t) s = true then [⟨2, fn, s⟩] else []) := hide (by rw [HG.out]; exact Nm.atD_some hs)
      have HCO := hide (containsS_any wr _ (l.take t) s ((HS.out.takeS (by rw [← HNI.out]; exact ht)).below hnx))
      rw [show decide (0 ≤ Lat.indexI (l.take t) s) = Nm.inB (l.take t) s from rfl] at HCO
      obtain ⟨a3, c3, rfl⟩ := hown.form
      have hul : (Nm.upto G t).length < 16777216 ∨ G t = [] := by
        have h1 := Nm.upto_le G (show t + 1 ≤ ni by omega)
        rw [Nm.upto_succ, List.length_append] at h1
        have h2 := HLE.out
        by_cases hg : G t = []
        · exact Or.inr hg
        · have := List.length_pos_iff.2 hg
          exact Or.inl (by omega)
      have HUL := hide hul
      obtain ⟨ul, hut⟩ : ∃ n, n = (Nm.upto G t).length := ⟨_, rfl⟩
      have HUT := hide hut
      rw [← hut] at HOW ⊢
      clear hs hown hnx hut hul
      go_wp2_with fail
      refine HCO.out.mono ?_
      rintro e w2 ⟨rfl, hw2⟩
      subst hw2
      generalize Nm.inB (l.take t) s = ib at *
      cases ib
      · rw [if_neg (by simp)] at HY
        go_wp2_with fail
        go_roundw
        case rel => exact ⟨t + 1, by omega, by go_num, by rw [Nm.upto_succ, HY.out, List.append_nil]; exact HOW.out, HNX.out⟩
        case measure => simp [intOf]; omega
      · rw [if_pos rfl] at HY
        have hul : ul < 16777216 := by
          rcases HUL.out with h | h
          · rw [HUT.out]; exact h
          · rw [HY.out] at h; cases h
        go_wp2_with (first
          | (at_builtin; refine wpList_append_K (At := DgC) rfl _ _ 37 43 3 40 _ rfl Tryz.underlying37 infoDg (by decide) (by decide) (by decide) w.heap.size _ _ rfl (HOW.out.below (boxBelow _ _)) _ _ [⟨2, fn, s⟩] rfl (OwnK.one _ _ rfl (DgC.one (d := ⟨2, fn, s⟩) rfl) rfl) (by have := HUT.out; simp only [List.length_singleton]; omega) (Nat.le_trans HNX.out.size (boxBelow _ _).size) ?_; intro v6 w6 hown6 hgrow6; have HOW6 := hide hown6; have HN6 := hide (grown_below (up HNX.out (boxBelow _ _)) hgrow6 (fun j hj => (HOW.out.lt j hj).1)); clear hown6 hgrow6)
          | fail)
        go_roundw
        case rel => exact ⟨t + 1, by omega, by go_num, by rw [Nm.upto_succ, HY.out]; exact HOW6.out, HN6.out⟩
        case measure => simp [intOf]; omega
    · have hje : t = ni := by omega
      obtain ⟨a9, c9, rfl⟩ := hown.form
      rw [hje] at HOW ⊢
      generalize (Nm.upto G ni).length = nu at *
      clear hown hje hnx
      go_wp2_with fail
      go_ret
      exact ⟨_, rfl, HOW.out, HNX.out⟩
theorem boxD (w : World) (cs : Array Value) (t : TypeId) (i : Nat) (v : Value) (h : cs[i]? = some v) : (w.alloc (.cells cs t)).cell? ⟨w.heap.size, i, none⟩ = some v := (block_at (block_new w (.cells cs t)) i).trans h
def CapOK (v : Value) : Prop := ∀ a n c, v = .slice a n c → n ≤ c
structure MoCap (w : World) (vi vf : Value) : Prop where
  imp : CapOK vi
  fus : CapOK vf
  par : ∀ b off n c, vf = .slice (some ⟨b, off, none⟩) n c → ∀ i, i < n → ∃ vp, w.cell? ⟨b, off + i * 7 + 1, none⟩ = some vp ∧ CapOK vp
theorem MoCap.below {w w' : World} {vi vf : Value} (h : MoCap w vi vf) (hb : Below w.heap.size w w') : MoCap w' vi vf :=
  ⟨h.imp, h.fus, fun b off n c e i hi => by
    obtain ⟨vp, h1, h2⟩ := h.par b off n c e i hi
    exact ⟨vp, cellUp h1 hb, h2⟩⟩
end Go.Proofs.YtholefgckcoklaaGreatDoor
