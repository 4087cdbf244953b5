/- SolveLeast: whatever is handed in, the call returns true, and each argument reads afterwards as it read before: what solve.Least tells makes all constraints right; whatever else does is at least that; with one constraint more nothing is less. No condition. -/
import Derived.Test.YtholefgckcoklabZW
import Derived.Test.YtholefgckcoklabJE
namespace Go.Proofs.Ytholefgckcoklab
open Go.ChangeShapes Go.WideShapes Go.ChangeAt Go.RowKit

theorem sleast_walk (w : World) (vn vl vc vf : Value) (ua : Option Addr) (un uc : Nat) (ss : List ByteArray) (G : Nat) (L : Nat → Nat) (Z : Nat → Nat → Bool) (ni mt mm ml : Int) (mfr : List Int) (cs : List Sv.Co) (lo : List (Int × Int)) (hS : Strs w vn ss) (hR : Rag w vl G L Z) (hC : CosAt w vc cs) (hO : LasAt w (.slice ua un uc) lo) (hcap : un ≤ uc) (hF : Ints w vf mfr) :
    Calls Try.prog 5 #[.agg #[vn, vl], .int .i64 ni, vc, .slice ua un uc, .agg #[.int .i64 mt, vf, .int .i64 mm, .int .i64 ml]] w fun e w' => e = .returned (.bool true) ∧ Below w.heap.size w w' := by
  by_cases h : Lat.checkE ss G L Z = 0 ∧ Sv.sysE ss.length ni cs = 0
  · obtain ⟨n, rfl, -⟩ := sysE_ok h.2
    have hun : un = lo.length := by
      obtain ⟨a', b, off, cap, e, _⟩ := hO
      injection e
    subst hun
    exact sleast_ok w vn vl vc vf ua uc ss G L Z n mt mm ml mfr cs lo ⟨hS, hR, h.1⟩ hC h.2 hO hcap hF
  · exact sleast_err w vn vl vc _ vf ss G L Z ni mt mm ml cs hS hR hC h

set_option maxRecDepth 100000 in
theorem sleast_lifted (os : Os) (started : os.Started) (H : Type) (enc : TypeId × Value → H) :
    ReturnsInHanded {} Try.checked os 5 .any (Rows.solveLeastSpec.pre6 enc Try.prog Try.f5 Rows.solveLeastRow.domain false) (Rows.solveLeastSpec.post enc Try.prog Try.f5 false true false false) := by
  refine returnsInHanded_of_change (C := Try.checked) own started (by kernel_rfl) Try.func5
    (ChangeSpec.witness6 (enc := enc) (C := Try.checked) false ⟨#[], #[.agg #[.slice none 0 0, .slice none 0 0], .int .i64 0, .slice none 0 0, .slice none 0 0, .agg #[.int .i64 0, .slice none 0 0, .int .i64 0, .int .i64 0]], []⟩ 8 (by kernel_rfl) (by kernel_rfl) (by kernel_rfl) (by kernel_rfl)) ?_
  intro W base args ds gs before hval0 hW _ _
  have hval : ∀ (j : Nat) t v, Try.f5.params[j]? = some t → args[j]? = some v → Value.okWide Try.prog W .any base t v := hval0
  have hW' := hW
  obtain ⟨p, q, hA0, hV, rfl, _, _⟩ := hW
  have hA : DataW.TrodAll enc Try.prog W 0 (fun _ => true) true Try.f5.params.toList args.toList ds p := hA0
  rw [Try.params5] at hA hval
  obtain ⟨v0, vs0, d0, ds0, p0, q0, hargs, rfl, rfl, h0, r0⟩ := trodAll_cons hA
  obtain ⟨v1, vs1, d1, ds1, p1, q1, rfl, rfl, rfl, h1, r1⟩ := trodAll_cons r0
  obtain ⟨v2, vs2, d2, ds2, p2, q2, rfl, rfl, rfl, h2, r2⟩ := trodAll_cons r1
  obtain ⟨v3, vs3, d3, ds3, p3, q3, rfl, rfl, rfl, h3, r3⟩ := trodAll_cons r2
  obtain ⟨v4, vs4, d4, ds4, p4, q4, rfl, rfl, rfl, h4, r4⟩ := trodAll_cons r3
  obtain ⟨rfl, rfl, rfl⟩ := trodAll_nil r4
  obtain rfl : args = #[v0, v1, v2, v3, v4] := by cases args; simp_all
  obtain ⟨rfl, rfl⟩ := trodVars_none hV
  have k0 := h0
  have k2 := h2
  have k3 := h3
  have k4 := h4
  have lt0 : ∀ x ∈ p0, x.block < W.heap.size := by obtain ⟨m, hm⟩ := k0; exact DataW.trod_lt m _ _ _ hm
  have lt2 : ∀ x ∈ p2, x.block < W.heap.size := by obtain ⟨m, hm⟩ := k2; exact DataW.trod_lt m _ _ _ hm
  have lt3 : ∀ x ∈ p3, x.block < W.heap.size := by obtain ⟨m, hm⟩ := k3; exact DataW.trod_lt m _ _ _ hm
  have lt4 : ∀ x ∈ p4, x.block < W.heap.size := by obtain ⟨m, hm⟩ := k4; exact DataW.trod_lt m _ _ _ hm
  obtain ⟨vn, vl, ss, G, L, Z, rfl, hS, hR⟩ := open_lattice (hval 0 25 v0 rfl rfl) h0
  obtain ⟨a1, rfl, rfl, rfl, w1⟩ := open_int Try.underlying3 (hval 1 3 v1 rfl rfl) h1
  obtain ⟨sa, sl, sc, rfl⟩ := okWide_slice Try.underlying45 (hval 2 45 v2 rfl rfl)
  obtain ⟨cs, hC⟩ := open_cons h2 rfl
  obtain ⟨ua, un, uc, rfl⟩ := okWide_slice Try.underlying46 (hval 3 46 v3 rfl rfl)
  obtain ⟨lo, hO⟩ := open_las h3 rfl
  have hcap := open_capO Try.underlying46 h3 rfl _ _ _ rfl
  obtain ⟨x, vf, hF, rfl⟩ := open_more (hval 4 50 v4 rfl rfl) h4
  clear hA0 hval0
  refine (sleast_walk W vn vl _ vf ua un uc ss G L Z a1 x.to x.mask x.level x.fr cs lo hS hR hC hO hcap hF).mono fun e W' ⟨he, bel⟩ => ?_
  subst he
  exact ⟨_, rfl, _, _, _, [], _, [], hW', trodAll_mk1 (shut_bool Try.underlying4 _), (trodAll_cons_mk (Below.trod laidOut (by kernel_rfl) (of_decide_eq_true (by kernel_rfl)) k0 bel lt0) (trodAll_cons_mk (shut_int Try.underlying3 w1) (trodAll_cons_mk (Below.trod laidOut (by kernel_rfl) (of_decide_eq_true (by kernel_rfl)) k2 bel lt2) (trodAll_cons_mk (Below.trod laidOut (by kernel_rfl) (of_decide_eq_true (by kernel_rfl)) k3 bel lt3) (trodAll_cons_mk (Below.trod laidOut (by kernel_rfl) (of_decide_eq_true (by kernel_rfl)) k4 bel lt4) trodAll_mk0))))), rfl, bel.frame _, fun h => by cases h⟩

theorem sleast_over : Rows.solveLeastRow.holds Try.pinned (OpenSpec.ofChange Rows.solveLeastSpec) :=
  OpenClaim.holds_of_wide 5 Try.f5 rfl rfl rfl rfl rfl rfl rfl ⟨rfl, rfl, rfl, rfl, rfl⟩ rfl rfl rfl rfl rfl (by kernel_rfl) Try.func5 (by kernel_rfl)
    (of_decide_eq_true (by kernel_rfl)) (by unfold Func.isWrapper; first | (rw [if_pos (by decide +kernel)]; kernel_rfl) | (rw [if_neg (by decide +kernel)]; exact ⟨rfl, rfl⟩))
    (fun os started H enc _ => sleast_lifted os started H enc)

theorem sleast_proved : Rows.SolveLeastSaid := sleast_over
#print axioms sleast_proved
end Go.Proofs.Ytholefgckcoklab
