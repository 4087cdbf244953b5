/- Walks over package names: eachCall, callDiags. -/
import Derived.Test.YtholefgckcoklaaGreatDoorBZBA
namespace Go.Proofs.YtholefgckcoklaaGreatDoor
open Go.RowKit
theorem VisE.up {W0 W W1 : World} {M p g : Nat} {cb : Array Value} {D : Ex → List Dg} (h : VisE W0 W M p g cb D) (hT : Tells p W W1) : VisE W0 W1 M p g cb D :=
  fun w c0 c1 c2 c3 y l h1 h2 h3 h4 h5 => h w c0 c1 c2 c3 y l h1 (hT.trans h2) h3 h4 h5
set_option maxHeartbeats 2000000 in
set_option maxRecDepth 100000 in
theorem eachCallP_any (W0 W : World) (M p g r : Nat) (cb : Array Value) (D : Ex → List Dg) (eg : ∀ args w, (callFunc g args).run Tryz.prog w = .ok (.enter g args) w) (hv : VisE W0 W M p g cb D)
    (hr : W.heap[r]? = some (.cells #[.func (.func g) #[] cb] 158 (0, 0))) (hrp : r ≠ p) :
    VisS W0 W M p 191 #[.pointer (some ⟨r, 0, none⟩)] (fun s => (Nm.pcalls M s.e).flatMap D) := by
  intro w e0 e1 e2 e3 va vb s l hW hT hl hst hlen
  have HB0 := hide (boxBelow w (.cells #[.int .i64 s.kind, .string s.name, e0, e1, e2, e3, va, vb] 119))
  have hz := box8 w (.int .i64 s.kind) (.string s.name) e0 e1 e2 e3 va vb 119
  have z2 := hz 2 _ rfl
  have z3 := hz 3 _ rfl
  have z4 := hz 4 _ rfl
  have z5 := hz 5 _ rfl
  have hr1 := cellUp ((block_at (hT.at hrp hr (by decide)) 0).trans rfl) HB0.out
  have HTO := hide (hl.below HB0.out)
  have HW := hide hW
  have HT := hide hT
  have HV := hide hv
  have HLE := hide hlen
  obtain ⟨f0, f1, f2, f3, fa, fb, hc, -, -, hx, -, -⟩ := hst
  simp only [List.cons.injEq, and_true, true_and] at hc
  obtain ⟨rfl, rfl, rfl, rfl, rfl, rfl⟩ := hc
  have HX := hide hx
  obtain ⟨xa, xc, rfl, rfl, rfl, rfl⟩ := hx.shape
  generalize s.e.args.length = ne at *
  have EG := hide eg
  clear hz hr hl hT hW hv hlen hx eg
  show Calls Tryz.prog 191 #[.agg #[.int .i64 s.kind, .string s.name, .int .i64 s.e.kind, .int .i64 s.e.n, .string s.e.name, .slice xa ne xc, va, vb], .pointer (some ⟨r, 0, none⟩)] w _
  go_enter Tryz.func191, Tryz.ntmps191
  go_wp2_with fail
  refine (callsIn_any W0 W M p g cb D EG.out HV.out M _ _ _ _ _ s.e l (Nat.le_refl _) (HW.out.trans (HB0.out.mono HW.out.size)) (HT.out.trans (Tells.of_below HB0.out)) HTO.out HX.out HLE.out).mono ?_
  rintro e w5 ⟨rfl, hto5, hb5, ht5⟩
  have HTO5 := hide hto5
  have HB5 := hide ((HB0.out.mono HW.out.size).trans hb5)
  have HT5 : Hid (Tells p w w5) := hide ((Tells.of_below HB0.out).trans ht5)
  clear hto5 hb5 ht5
  go_wp2
  go_end0
  exact ⟨rfl, HTO5.out, HB5.out, HT5.out⟩
namespace Nm
def fcalls (m : Nat) (f : Fu) : List Ex := ((all m f.body).flatMap fun s => pcalls m s.e) ++ pcalls m f.result
end Nm
theorem al2 (w : World) (a b : Obj) : ((w.alloc a).alloc b).heap[w.heap.size]? = some a ∧ ((w.alloc a).alloc b).heap[w.heap.size + 1]? = some b ∧ Below w.heap.size w ((w.alloc a).alloc b) := by
  have h1 := block_new w a
  have h2 := block_new (w.alloc a) b
  simp only [World.size_alloc] at h2
  refine ⟨?_, h2, up (boxBelow _ _) (boxBelow _ _)⟩
  rw [(boxBelow _ b).block _ (by simp)]; exact h1
set_option maxHeartbeats 2000000 in
set_option maxRecDepth 100000 in
theorem eachCall_any (W0 W : World) (M p g : Nat) (cb : Array Value) (D : Ex → List Dg) (eg : ∀ args w, (callFunc g args).run Tryz.prog w = .ok (.enter g args) w) (hv : VisE W0 W M p g cb D) (w : World) (fn : ByteArray) (vp vb e0 e1 e2 e3 : Value) (f : Fu) (l : List Dg)
    (hW : Below W0.heap.size W0 w) (hT : Tells p W w) (hl : Told w W0.heap.size p l) (hb : StsAt W0 M vb f.body) (hx : ExAt W0 M e0 e1 e2 e3 f.result) (hlen : l.length + ((Nm.fcalls M f).flatMap D).length ≤ 16777216) :
    Calls Tryz.prog 132 #[.agg #[.string fn, vp, vb, e0, e1, e2, e3], .func (.func g) #[] cb] w fun e w' => e = .returned (.tuple #[]) ∧ Told w' W0.heap.size p (l ++ (Nm.fcalls M f).flatMap D) ∧ Below W0.heap.size w w' ∧ Tells p w w' := by
  have HX := hide hx
  have HVB := hide hb
  obtain ⟨sb, cb', rfl⟩ := hb.shapeN
  obtain ⟨xa, xc, rfl, rfl, rfl, rfl⟩ := hx.shape
  generalize f.body.length = nb at *
  generalize f.result.args.length = ne at *
  obtain ⟨b0, b1, hb0⟩ := al2 w (.cells #[.string fn, vp, .slice sb nb cb', .int .i64 f.result.kind, .int .i64 f.result.n, .string f.result.name, .slice xa ne xc] 106) (.cells #[.func (.func g) #[] cb] 158)
  have HB0 := hide b0
  have HB1 := hide b1
  have HBL := hide hb0
  have HP := hide hl.lt
  have HW := hide hW
  have HT := hide hT
  have HTO := hide (hl.below hb0)
  have EG := hide eg
  have HV := hide (hv.up (hT.trans (Tells.of_below hb0)))
  have HS := hide (eachCallP_any W0 _ M p g (w.heap.size + 1) cb D eg (hv.up (hT.trans (Tells.of_below hb0))) b1 (by have := hl.lt; omega))
  have HFL : Hid ((Nm.fcalls M f).flatMap D = ((Nm.all M f.body).flatMap fun s => (Nm.pcalls M s.e).flatMap D) ++ (Nm.pcalls M f.result).flatMap D) := hide (by unfold Nm.fcalls; rw [List.flatMap_append, List.flatMap_assoc])
  rw [HFL.out, List.length_append] at hlen
  have HLE := hide hlen
  have q2 := (block_at b0 2).trans (rfl : _ = some (Value.slice sb nb cb'))
  clear hx hb b0 b1 hb0 hl hW hT eg hv hlen
  go_enter Tryz.func132, Tryz.ntmps132
  go_wp2_with fail
  generalize ((w.alloc (.cells #[.string fn, vp, .slice sb nb cb', .int .i64 f.result.kind, .int .i64 f.result.n, .string f.result.name, .slice xa ne xc] 106)).alloc (.cells #[.func (.func g) #[] cb] 158)) = W1 at *
  refine (eachCommand_any W0 W1 M p 191 _ _ (enters_of Tryz.func191 (by kernel_rfl) rfl) HS.out M _ _ f.body l (Nat.le_refl _) (HW.out.trans (HBL.out.mono HW.out.size)) (Tells.refl _ _) HTO.out HVB.out (by have := HLE.out; omega)).mono ?_
  rintro e w5 ⟨rfl, hto5, hb5, ht5⟩
  have HTO5 := hide hto5
  have HB5 := hide ((HBL.out.mono HW.out.size).trans hb5)
  have HT5 := hide ht5
  have hb05 := ht5.at (by have := HP.out; omega) HB0.out (by decide)
  have hb15 := ht5.at (by have := HP.out; omega) HB1.out (by decide)
  have k3 := (block_at hb05 3).trans (rfl : _ = some (Value.int .i64 f.result.kind))
  have k4 := (block_at hb05 4).trans (rfl : _ = some (Value.int .i64 f.result.n))
  have k5 := (block_at hb05 5).trans (rfl : _ = some (Value.string f.result.name))
  have k6 := (block_at hb05 6).trans (rfl : _ = some (Value.slice xa ne xc))
  have k7 := (block_at hb15 0).trans (rfl : _ = some (Value.func (.func g) #[] cb))
  clear hto5 hb5 ht5 hb05 hb15 q2
  go_wp2_with fail
  refine (callsIn_any W0 W1 M p g cb D EG.out HV.out M _ _ _ _ _ f.result _ (Nat.le_refl _) (HW.out.trans HB5.out) HT5.out HTO5.out HX.out (by have := HLE.out; rw [List.length_append]; omega)).mono ?_
  rintro e w6 ⟨rfl, hto6, hb6, ht6⟩
  have HTO6 := hide hto6
  have HB6 := hide (HB5.out.trans hb6)
  have HT6 : Hid (Tells p w w6) := hide (((Tells.of_below HBL.out).trans HT5.out).trans ht6)
  clear hto6 hb6 ht6
  go_wp2
  go_end0
  exact ⟨rfl, by rw [HFL.out, ← List.append_assoc]; exact HTO6.out, HB6.out, HT6.out⟩
namespace Nm
def clE (x : Mo) (known : List Mo) (k : Nat) (fn : ByteArray) (y : Ex) : List Dg := if code x known k y.name y.args.length = 0 then [] else [⟨code x known k y.name y.args.length, fn, y.name⟩]
end Nm
set_option maxHeartbeats 2000000 in
set_option maxRecDepth 100000 in
theorem callP_any (W0 W : World) (m p qs qk qf : Nat) (x : Mo) (known : List Mo) (vi vv vf vk va : Value) (k : Nat) (fn : ByteArray) (cf : Array Value) (hS : ScV W0 m x known vi vv vf vk va) (hk : k ≤ x.funs.length)
    (hs : W.heap[qs]? = some (.cells #[.string x.name, vi, vv, vf, vk, va] 122 (0, 0))) (hqk : W.heap[qk]? = some (.cells #[.int .i64 k] 3 (0, 0))) (hqf : W.heap[qf]? = some (.cells cf 106 (0, 0))) (hfn : cf[0]? = some (.string fn))
    (hsp : qs ≠ p) (hkp : qk ≠ p) (hfp : qf ≠ p) :
    VisE W0 W m p 133 #[.pointer (some ⟨qs, 0, none⟩), .pointer (some ⟨qk, 0, none⟩), .pointer (some ⟨p, 0, none⟩), .pointer (some ⟨qf, 0, none⟩)] (Nm.clE x known k fn) := by
  intro w c0 c1 c2 c3 y l hW hT hl hE hlen
  have HEX := hide hE
  obtain ⟨xa, xc, rfl, rfl, rfl, rfl⟩ := hE.shape
  have HB0 := hide (boxBelow w (.cells #[.int .i64 y.kind, .int .i64 y.n, .string y.name, .slice xa y.args.length xc] 103))
  have HBN := hide (block_new w (.cells #[.int .i64 y.kind, .int .i64 y.n, .string y.name, .slice xa y.args.length xc] 103))
  have s1 := hT.at hsp hs (by decide)
  have s2 := hT.at hkp hqk (by decide)
  have s3 := hT.at hfp hqf (by decide)
  have u0 := cellUp ((block_at s1 0).trans (rfl : _ = some (Value.string x.name))) HB0.out
  have u1 := cellUp ((block_at s1 1).trans (rfl : _ = some vi)) HB0.out
  have u2 := cellUp ((block_at s1 2).trans (rfl : _ = some vv)) HB0.out
  have u3' := cellUp ((block_at s1 3).trans (rfl : _ = some vf)) HB0.out
  have u4' := cellUp ((block_at s1 4).trans (rfl : _ = some vk)) HB0.out
  have u5 := cellUp ((block_at s1 5).trans (rfl : _ = some va)) HB0.out
  have u6 := cellUp ((block_at s2 0).trans (rfl : _ = some (Value.int .i64 k))) HB0.out
  have HF0 := hide ((block_at s3 0).trans hfn)
  have z0 := boxD0 w (.int .i64 y.kind) (.int .i64 y.n) (.string y.name) (.slice xa y.args.length xc) 103
  have z1 := boxD1 w (.int .i64 y.kind) (.int .i64 y.n) (.string y.name) (.slice xa y.args.length xc) 103
  have z2 := boxD2 w (.int .i64 y.kind) (.int .i64 y.n) (.string y.name) (.slice xa y.args.length xc) 103
  have z3 := boxN3 w (.int .i64 y.kind) (.int .i64 y.n) (.string y.name) (.slice xa y.args.length xc) 103
  have HZ2 := hide z2
  have HW := hide hW
  have HTO := hide hl
  have HCC := hide (callCode_any m m _ x known vi vv vf vk va k _ _ _ _ y (hS.below (hW.trans (HB0.out.mono hW.size))) hk (HEX.out.below (hW.trans (HB0.out.mono hW.size))))
  have HD : Hid (Nm.clE x known k fn y = if Nm.code x known k y.name y.args.length = 0 then [] else [⟨Nm.code x known k y.name y.args.length, fn, y.name⟩]) := rfl
  rw [HD.out] at hlen
  generalize Nm.code x known k y.name y.args.length = cd at *
  obtain ⟨hI, hV, hF⟩ := hS.mo.split
  have hK := hS.kn
  have hA := hS.ats
  obtain ⟨ai, bi, oi, ci, rfl, -⟩ := hI
  obtain ⟨av, bv, ov, cv, rfl, -⟩ := hV
  obtain ⟨af, bf, of, cf', rfl, -⟩ := hF
  obtain ⟨ak, bk, ok, ck, rfl, -⟩ := hK
  obtain ⟨aa, ba, oa, ca, rfl, -⟩ := hA
  generalize (x.imports.map fun s => Nm.oI (Nm.moAt known s)).length = nat at *
  generalize x.imports.length = ni at *
  generalize x.vars.length = nv at *
  generalize x.funs.length = nf at *
  generalize known.length = nk at *
  generalize y.args.length = na at *
  clear hs hqk hqf hfn s1 s2 s3 hE hT hS
  show Calls Tryz.prog 133 #[.agg #[.int .i64 y.kind, .int .i64 y.n, .string y.name, .slice xa na xc], .pointer (some ⟨qs, 0, none⟩), .pointer (some ⟨qk, 0, none⟩), .pointer (some ⟨p, 0, none⟩), .pointer (some ⟨qf, 0, none⟩)] w _
  by_cases h0 : cd = 0
  · have h0' : (cd == 0) = true := by simp [h0]
    rw [if_pos h0] at HD
    clear h0 hl hW hlen
    go_enter Tryz.func133, Tryz.ntmps133
    go_wp2_with fail
    refine HCC.out.mono ?_
    rintro e w5 ⟨rfl, hb5⟩
    have HB5 := hide (up HB0.out hb5)
    clear hb5 z0 z1 z2 z3 u0 u1 u2 u3' u4' u5 u6
    go_wp2_with fail
    go_end0
    exact ⟨rfl, by rw [HD.out, List.append_nil]; exact HTO.out.below HB5.out, HB5.out.mono HW.out.size, Tells.of_below HB5.out⟩
  · have h0' : (cd == 0) = false := by simp [h0]
    rw [if_neg h0] at HD hlen
    clear h0 hl hW
    have hl2 : l.length < 16777216 := by simp at hlen; omega
    clear hlen
    go_enter Tryz.func133, Tryz.ntmps133
    go_wp2_with fail
    refine HCC.out.mono ?_
    rintro e w5 ⟨rfl, hb5⟩
    have HB5 := hide (up HB0.out hb5)
    have hto5 := HTO.out.below HB5.out
    obtain ⟨t0, v, t1, t2⟩ := hto5
    have q0 : w5.cell? ⟨p, 0, none⟩ = some v := by rw [block_at t1]; rfl
    have H0 := hide t0
    have H1 := hide t1
    have H2 := hide t2
    have y2 := cellUp HZ2.out hb5
    have f0 := cellUp HF0.out HB5.out
    have hn5 := Nat.le_trans HW.out.size HB5.out.size
    clear hb5 z0 z1 z2 z3 u0 u1 u2 u3' u4' u5 u6 t0 t1 t2
    go_wp2_with (first
      | (at_builtin; refine wpList_append_K (At := DgC) rfl _ _ 37 43 3 40 _ rfl Tryz.underlying37 infoDg (by decide) (by decide) (by decide) W0.heap.size _ _ rfl (H2.out.below (boxBelow _ _)) _ _ [⟨cd, fn, y.name⟩] rfl (OwnK.one _ _ rfl (DgC.one (d := ⟨cd, fn, y.name⟩) rfl) rfl) (by simp only [List.length_singleton]; omega) (Nat.le_trans hn5 (boxBelow _ _).size) ?_; intro v6 w6 hown6 hgrow6; obtain ⟨a6, c6, hv6⟩ := hown6.form; subst hv6; have HP := hide (Told.push H0.out H1.out H2.out hown6 hgrow6); have z0 := (block_at HP.out.1 0).trans (show _ = some v from rfl); have zf := block_free HP.out.1 0; clear hown6 hgrow6)
      | fail)
    go_end0
    have hl1 : (l ++ [(⟨cd, fn, y.name⟩ : Dg)]).length = l.length + 1 := by simp
    rw [hl1] at HP
    exact ⟨rfl, by rw [HD.out]; exact HP.out.2.1, (HB5.out.mono HW.out.size).trans HP.out.2.2.1, (Tells.of_below HB5.out).trans HP.out.2.2.2⟩
end Go.Proofs.YtholefgckcoklaaGreatDoor
namespace Go.Proofs.YtholefgckcoklaaGreatDoor
open Go.RowKit
namespace Nm
def upto (g : Nat → List Dg) (n : Nat) : List Dg := (List.range n).flatMap g
theorem upto_succ (g : Nat → List Dg) (n : Nat) : upto g (n + 1) = upto g n ++ g n := by unfold upto; rw [List.range_succ, List.flatMap_append]; simp
theorem upto_zero (g : Nat → List Dg) : upto g 0 = [] := rfl
theorem upto_le (g : Nat → List Dg) {j n : Nat} (h : j ≤ n) : (upto g j).length ≤ (upto g n).length := by
  induction n with
  | zero => have : j = 0 := by omega
            subst this; exact Nat.le_refl _
  | succ n ih =>
    by_cases e : j = n + 1
    · subst e; exact Nat.le_refl _
    · rw [upto_succ, List.length_append]; have := ih (by omega); omega
theorem mem_upto {g : Nat → List Dg} {n : Nat} {d : Dg} : d ∈ upto g n ↔ ∃ i, i < n ∧ d ∈ g i := by
  unfold upto; simp
def atD {α : Type} (l : List α) (f : Nat → α → List Dg) (i : Nat) : List Dg := match l[i]? with
  | some x => f i x
  | none => []
theorem atD_some {α : Type} {l : List α} {f : Nat → α → List Dg} {i : Nat} {x : α} (h : l[i]? = some x) : atD l f i = f i x := by unfold atD; rw [h]
def clD (x : Mo) (known : List Mo) (m : Nat) : List Dg := upto (atD x.funs fun k f => (fcalls m f).flatMap (clE x known k f.name)) x.funs.length
def imD (x : Mo) (known : List Mo) : List Dg := upto (atD x.imports fun _ s => if (sameB s x.name || (moAt known s).isNone) = true then [⟨1, ⟨#[]⟩, s⟩] else []) x.imports.length
end Nm
set_option maxHeartbeats 4000000 in
set_option maxRecDepth 100000 in
theorem callDiags_any (m : Nat) (w : World) (x : Mo) (known : List Mo) (vi vv vf vk va : Value) (h : ScV w m x known vi vv vf vk va) (hlen : (Nm.clD x known m).length ≤ 16777216) :
    Calls Tryz.prog 59 #[.agg #[.string x.name, vi, vv, vf, vk, va]] w fun e w' => ∃ u, e = .returned u ∧ OwnK DgC w' w.heap.size 43 3 u (Nm.clD x known m) ∧ Below w.heap.size w w' := by
  have HS := hide h
  obtain ⟨hI, hV, hF⟩ := h.mo.split
  have hK := h.kn
  have hA := h.ats
  obtain ⟨ai, bi, oi, ci, rfl, -⟩ := hI
  obtain ⟨av, bv, ov, cv, rfl, -⟩ := hV
  obtain ⟨af, bf, of, cf, rfl, haf, hlf, hcf⟩ := hF
  obtain ⟨ak, bk, ok, ck, rfl, -⟩ := hK
  obtain ⟨aa, ba, oa, ca, rfl, -⟩ := hA
  have HCF : Hid (FuEl w m bf of x.funs) := hcf
  have HAF := hide haf
  obtain ⟨G, hG⟩ : ∃ G, G = Nm.atD x.funs fun k f => (Nm.fcalls m f).flatMap (Nm.clE x known k f.name) := ⟨_, rfl⟩
  have HG := hide hG
  have HLD : Hid (Nm.clD x known m = Nm.upto G x.funs.length) := hide (by rw [hG]; rfl)
  have HLE := hide hlen
  rw [HLD.out] at HLE ⊢
  obtain ⟨nf, hnf⟩ : ∃ n, n = x.funs.length := ⟨_, rfl⟩
  have HNF := hide hnf
  rw [← hnf] at hlf HAF HLE HS ⊢
  generalize (x.imports.map fun s => Nm.oI (Nm.moAt known s)).length = nat at *
  generalize x.imports.length = ni at *
  generalize x.vars.length = nv at *
  generalize known.length = nk at *
  obtain ⟨b0, b1, hb0⟩ := al2 w (.cells #[.string x.name, .slice ai ni ci, .slice av nv cv, .slice af nf cf, .slice ak nk ck, .slice aa nat ca] 122) (.cells #[.slice none 0 0] 37)
  have HB0 := hide b0
  have HBL := hide hb0
  have q3 := (block_at b0 3).trans (rfl : _ = some (Value.slice af nf cf))
  have HTO : Hid (Told _ w.heap.size (w.heap.size + 1) []) := hide ⟨by omega, _, b1, OwnK.nil _ _ _ _⟩
  clear hcf haf hlen hG hnf h b0 b1 hb0
  go_enter Tryz.func59, Tryz.ntmps59
  go_wp2_with fail
  generalize ((w.alloc (.cells #[.string x.name, .slice ai ni ci, .slice av nv cv, .slice af nf cf, .slice ak nk ck, .slice aa nat ca] 122)).alloc (.cells #[.slice none 0 0] 37)) = W1 at *
  clear q3
  go_loopw [10] (fun i wr => ∃ j : Nat, j ≤ nf ∧ i = .int .i64 j ∧ Told wr w.heap.size (w.heap.size + 1) (Nm.upto G j) ∧ Below w.heap.size w wr ∧ Tells (w.heap.size + 1) W1 wr) (fun i _ => nf - (intOf i).toNat)
  case atStart => exact ⟨0, Nat.zero_le _, rfl, HTO.out, HBL.out, Tells.refl _ _⟩
  case round =>
    obtain ⟨t, ht, rfl, hto, hnx, htl⟩ := hrel
    have HTO3 := hide hto
    have HNX3 := hide hnx
    have HTL3 := hide htl
    by_cases htl' : t < nf
    · obtain ⟨y, hy⟩ : ∃ y, x.funs[t]? = some y := ⟨_, List.getElem?_eq_getElem (by rw [← HNF.out]; exact htl')⟩
      obtain ⟨-, vp, vb, e0, e1, e2, e3, g0, g1, g2, g3, g4, g5, g6, hp, hb, hx⟩ := HCF.out t y hy
      obtain rfl := HAF.out (by omega)
      have HY : Hid (G t = (Nm.fcalls m y).flatMap (Nm.clE x known t y.name)) := hide (by rw [HG.out]; exact Nm.atD_some hy)
      have HVB := hide hb
      have HVX := hide hx
      replace g0 := cellUp g0 hnx
      replace g1 := cellUp g1 hnx
      replace g2 := cellUp g2 hnx
      replace g3 := cellUp g3 hnx
      replace g4 := cellUp g4 hnx
      replace g5 := cellUp g5 hnx
      replace g6 := cellUp g6 hnx
      obtain ⟨ap, bp, op, cp, rfl, -⟩ := hp
      obtain ⟨sb, cb', rfl⟩ := hb.shapeN
      obtain ⟨xa, xc, rfl, rfl, rfl, rfl⟩ := hx.shape
      generalize y.params.length = np at *
      generalize y.body.length = nb at *
      generalize y.result.args.length = ne at *
      obtain ⟨c0, c1, hb5⟩ := al2 wr (.cells #[.int .i64 t] 3) (.cells #[.string y.name, .slice ap np cp, .slice sb nb cb', .int .i64 y.result.kind, .int .i64 y.result.n, .string y.result.name, .slice xa ne xc] 106)
      have HB5 := hide hb5
      have d0 := (block_at c1 0).trans (rfl : _ = some (Value.string y.name))
      have d1 := (block_at c1 1).trans (rfl : _ = some (Value.slice ap np cp))
      have d2 := (block_at c1 2).trans (rfl : _ = some (Value.slice sb nb cb'))
      have d3 := (block_at c1 3).trans (rfl : _ = some (Value.int .i64 y.result.kind))
      have d4 := (block_at c1 4).trans (rfl : _ = some (Value.int .i64 y.result.n))
      have d5 := (block_at c1 5).trans (rfl : _ = some (Value.string y.result.name))
      have d6 := (block_at c1 6).trans (rfl : _ = some (Value.slice xa ne xc))
      have hplt := hto.lt
      have hT2 := htl.trans (Tells.of_below hb5)
      have HVI := hide (callP_any w _ m (w.heap.size + 1) w.heap.size wr.heap.size (wr.heap.size + 1) x known _ _ _ _ _ t y.name _ HS.out (by rw [← HNF.out]; exact ht) (hT2.at (by omega) HB0.out (by decide)) c0 c1 rfl (by omega) (by omega) (by omega))
      have HLS : Hid ((Nm.upto G t).length + ((Nm.fcalls m y).flatMap (Nm.clE x known t y.name)).length ≤ 16777216) := hide (by
        have h1 := Nm.upto_le G (show t + 1 ≤ nf by omega)
        rw [Nm.upto_succ, List.length_append, HY.out] at h1
        have h2 := HLE.out
        omega)
      clear hto hnx htl hy hb hx hT2 c0 c1 hb5
      go_wp2_with fail
      refine (eachCall_any w _ m (w.heap.size + 1) 133 _ _ (enters_of Tryz.func133 (by kernel_rfl) rfl) HVI.out _ y.name _ _ _ _ _ _ y _ (up HNX3.out HB5.out) (Tells.refl _ _) (HTO3.out.below HB5.out) HVB.out HVX.out HLS.out).mono ?_
      rintro e w5 ⟨rfl, hto5, hb5, ht5⟩
      have HTO5 := hide hto5
      have HB6 := hide ((up HNX3.out HB5.out).trans hb5)
      have HT6 := hide ((HTL3.out.trans (Tells.of_below HB5.out)).trans ht5)
      clear hto5 hb5 ht5 g0 g1 g2 g3 g4 g5 g6 d0 d1 d2 d3 d4 d5 d6
      go_wp2_with fail
      go_roundw
      case rel => exact ⟨t + 1, by omega, by go_num, by rw [Nm.upto_succ, HY.out]; exact HTO5.out, HB6.out, HT6.out⟩
      case measure => simp [intOf]; omega
    · have hje : t = nf := by omega
      rw [hje] at hto
      obtain ⟨-, v, hv1, hv2⟩ := hto
      have c0 := (block_at hv1 0).trans (rfl : _ = some v)
      have HV2 := hide hv2
      obtain ⟨a9, c9, rfl⟩ := hv2.form
      generalize (Nm.upto G nf).length = nu at *
      clear hv1 hv2 hje htl hnx
      go_wp2_with fail
      go_ret
      exact ⟨_, rfl, HV2.out, HNX3.out⟩
set_option maxHeartbeats 2000000 in
set_option maxRecDepth 100000 in
theorem importDiags_any (m : Nat) (w : World) (x : Mo) (known : List Mo) (vi vv vf vk va : Value) (h : ScV w m x known vi vv vf vk va) (hlen : (Nm.imD x known).length ≤ 16777216) :
    Calls Tryz.prog 56 #[.agg #[.string x.name, vi, vv, vf, vk, va]] w fun e w' => ∃ u, e = .returned u ∧ OwnK DgC w' w.heap.size 43 3 u (Nm.imD x known) ∧ Below w.heap.size w w' := by
  obtain ⟨hI, hV, hF⟩ := h.mo.split
  have hK := h.kn
  have hA := h.ats
  obtain ⟨ai, bi, oi, ci, rfl, hai, hli, hcs, hci⟩ := hI
  obtain ⟨av, bv, ov, cv, rfl, -⟩ := hV
  obtain ⟨af, bf, of, cf, rfl, -⟩ := hF
  obtain ⟨ak, bk, ok, ck, rfl, -⟩ := hK
  obtain ⟨aa, ba, oa, ca, rfl, haa, hla, hca⟩ := hA
  have HCI := hide hci
  have HAI := hide hai
  have HCA := hide hca
  obtain ⟨G, hG⟩ : ∃ G, G = Nm.atD x.imports fun _ s => if (Nm.sameB s x.name || (Nm.moAt known s).isNone) = true then [⟨1, ⟨#[]⟩, s⟩] else [] := ⟨_, rfl⟩
  have HG := hide hG
  have HLD : Hid (Nm.imD x known = Nm.upto G x.imports.length) := hide (by rw [hG]; rfl)
  have HLE := hide hlen
  rw [HLD.out] at HLE ⊢
  have hla' : (x.imports.map fun s => Nm.oI (Nm.moAt known s)).length = x.imports.length := by rw [List.length_map]
  rw [hla'] at hla haa ⊢
  have HAA := hide haa
  obtain ⟨ni, hni⟩ : ∃ n, n = x.imports.length := ⟨_, rfl⟩
  have HNI := hide hni
  rw [← hni] at hli HAI HLE hla HAA ⊢
  generalize x.funs.length = nf at *
  generalize x.vars.length = nv at *
  generalize known.length = nk at *
  have HBX := fun i v h => box6 w (.string x.name) (.slice ai ni ci) (.slice av nv cv) (.slice af nf cf) (.slice ak nk ck) (.slice aa ni ca) 122 i v h
  have HB0 := hide (boxBelow w (.cells #[.string x.name, .slice ai ni ci, .slice av nv cv, .slice af nf cf, .slice ak nk ck, .slice aa ni ca] 122))
  have q0 := HBX 0 _ rfl
  have q1 := HBX 1 _ rfl
  have q5 := HBX 5 _ rfl
  clear hci hai hcs hca haa hlen hG hni h hla' HBX
  go_enter Tryz.func56, Tryz.ntmps56
  go_wp2_with fail
  generalize (w.alloc (.cells #[.string x.name, .slice ai ni ci, .slice av nv cv, .slice af nf cf, .slice ak nk ck, .slice aa ni ca] 122)) = W1 at *
  go_loopw [3, 10] (fun v i wr => ∃ j : Nat, j ≤ ni ∧ i = .int .i64 j ∧ OwnK DgC wr W1.heap.size 43 3 v (Nm.upto G j) ∧ Below W1.heap.size W1 wr) (fun _ i _ => ni - (intOf i).toNat)
  case atStart => exact ⟨0, Nat.zero_le _, rfl, OwnK.nil _ _ _ _, Below.refl _ _⟩
  case round =>
    obtain ⟨t, ht, rfl, hown, hnx⟩ := hrel
    have HOW := hide hown
    have HNX := hide hnx
    by_cases htl' : t < ni
    · obtain ⟨s, hs⟩ : ∃ y, x.imports[t]? = some y := ⟨_, List.getElem?_eq_getElem (by rw [← HNI.out]; exact htl')⟩
      have c0 := cellUp (cellUp (HCI.out t (by rw [← HNI.out]; exact htl')) HB0.out) hnx
      rw [List.getD_eq_getElem?_getD, hs, Option.getD_some] at c0
      obtain rfl := HAI.out (by omega)
      obtain rfl := HAA.out (by omega)
      have c5 := cellUp (cellUp (HCA.out t (Nm.oI (Nm.moAt known s)) (by rw [List.getElem?_map, hs]; rfl)) HB0.out) hnx
      have HY : Hid (G t = if (Nm.sameB s x.name || (Nm.moAt known s).isNone) = true then [⟨1, ⟨#[]⟩, s⟩] else []) := hide (by rw [HG.out]; exact Nm.atD_some hs)
      replace q0 := cellUp q0 hnx
      replace q5 := cellUp q5 hnx
      obtain ⟨a3, c3, rfl⟩ := hown.form
      have hul : (Nm.upto G t).length < 16777216 ∨ G t = [] := by
        have h1 := Nm.upto_le G (show t + 1 ≤ ni by omega)
        rw [Nm.upto_succ, List.length_append] at h1
        have h2 := HLE.out
        by_cases hg : G t = []
        · exact Or.inr hg
        · have := List.length_pos_iff.2 hg
          exact Or.inl (by omega)
      have HUL := hide hul
      obtain ⟨ul, hut⟩ : ∃ n, n = (Nm.upto G t).length := ⟨_, rfl⟩
      have HUT := hide hut
      rw [← hut] at HOW ⊢
      clear hs hown hnx hut hul q1
      cases hb1 : (s.toList == x.name.toList)
      · have hsb : Nm.sameB s x.name = false := hb1
        rw [hsb, Bool.false_or] at HY
        clear hsb
        cases hmo : Nm.moAt known s with
        | none =>
          rw [hmo] at HY c5
          have ho : Nm.oI none = -1 := rfl
          rw [ho] at c5
          rw [Option.isNone_none, if_pos rfl] at HY
          have hul : ul < 16777216 := by
            rcases HUL.out with h | h
            · rw [HUT.out]; exact h
            · rw [HY.out] at h; cases h
          clear hmo ho
          go_wp2_with (first
            | (at_builtin; refine wpList_append_K (At := DgC) rfl _ _ 37 43 3 40 _ rfl Tryz.underlying37 infoDg (by decide) (by decide) (by decide) W1.heap.size _ _ rfl (HOW.out.below (boxBelow _ _)) _ _ [⟨1, ⟨#[]⟩, s⟩] rfl (OwnK.one _ _ rfl (DgC.one (d := ⟨1, ⟨#[]⟩, s⟩) rfl) rfl) (by have := HUT.out; simp only [List.length_singleton]; omega) (Nat.le_trans HNX.out.size (boxBelow _ _).size) ?_; intro v6 w6 hown6 hgrow6; have HOW6 := hide hown6; have HN6 := hide (grown_below (up HNX.out (boxBelow _ _)) hgrow6 (fun j hj => (HOW.out.lt j hj).1)); clear hown6 hgrow6)
            | fail)
          go_roundw
          case rel => exact ⟨t + 1, by omega, by go_num, by rw [Nm.upto_succ, HY.out]; exact HOW6.out, HN6.out⟩
          case measure => simp [intOf]; omega
        | some a =>
          rw [hmo] at HY c5
          have ho : Nm.oI (some a) = (a : Int) := rfl
          rw [ho] at c5
          rw [Option.isNone_some, if_neg (by simp)] at HY
          clear hmo ho
          go_wp2_with fail
          go_roundw
          case rel => exact ⟨t + 1, by omega, by go_num, by rw [Nm.upto_succ, HY.out, List.append_nil]; exact HOW.out, HNX.out⟩
          case measure => simp [intOf]; omega
      · have hsb : Nm.sameB s x.name = true := hb1
        rw [hsb, Bool.true_or, if_pos rfl] at HY
        have hul : ul < 16777216 := by
          rcases HUL.out with h | h
          · rw [HUT.out]; exact h
          · rw [HY.out] at h; cases h
        clear hsb
        go_wp2_with (first
          | (at_builtin; refine wpList_append_K (At := DgC) rfl _ _ 37 43 3 40 _ rfl Tryz.underlying37 infoDg (by decide) (by decide) (by decide) W1.heap.size _ _ rfl (HOW.out.below (boxBelow _ _)) _ _ [⟨1, ⟨#[]⟩, s⟩] rfl (OwnK.one _ _ rfl (DgC.one (d := ⟨1, ⟨#[]⟩, s⟩) rfl) rfl) (by have := HUT.out; simp only [List.length_singleton]; omega) (Nat.le_trans HNX.out.size (boxBelow _ _).size) ?_; intro v6 w6 hown6 hgrow6; have HOW6 := hide hown6; have HN6 := hide (grown_below (up HNX.out (boxBelow _ _)) hgrow6 (fun j hj => (HOW.out.lt j hj).1)); clear hown6 hgrow6)
          | fail)
        go_roundw
        case rel => exact ⟨t + 1, by omega, by go_num, by rw [Nm.upto_succ, HY.out]; exact HOW6.out, HN6.out⟩
        case measure => simp [intOf]; omega
    · have hje : t = ni := by omega
      rw [hje] at HOW
      obtain ⟨a9, c9, rfl⟩ := hown.form
      have HO2 := HOW
      rw [hje] at HO2 ⊢
      generalize (Nm.upto G ni).length = nu at *
      clear hown hje hnx
      go_wp2_with fail
      go_ret
      exact ⟨_, rfl, HO2.out.old HB0.out.size, up HB0.out HNX.out⟩
end Go.Proofs.YtholefgckcoklaaGreatDoor
