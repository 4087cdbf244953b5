/- LatticeSays: whatever is handed in, the call returns true, and each argument reads afterwards as it read before: Check, Find, Join, Meet and Ends of package lattice answer what the document says. No condition. -/
import Derived.Test.YtnheahdcfadclaaOP
import Derived.Test.YtnheahdcfadclaaSC
namespace Go.Proofs.Ytnheahdcfadclaa
open Go.ChangeShapes Go.WideShapes Go.ChangeAt Go.RowKit
open Go.ChangeMaps (open_string shut_string)

theorem says_walk (w : World) (vn vl : Value) (ss : List ByteArray) (G : Nat) (L : Nat → Nat) (Z : Nat → Nat → Bool) (t : ByteArray) (a b : Int) (hS : Strs w vn ss) (hR : Rag w vl G L Z) :
    Calls Try.prog 3 #[.agg #[vn, vl], .string t, .int .i64 a, .int .i64 b] w fun e w' => e = .returned (.bool true) ∧ Below w.heap.size w w' := by
  by_cases h : Lat.checkE ss G L Z = 0
  · have hO := Lat.ok_of h
    have hS' := hS
    obtain ⟨ad, bl, off, cap, rfl, _⟩ := hS
    by_cases hin : (Lat.inB ss.length a && Lat.inB ss.length b) = true
    · have hin' := hin
      simp only [Lat.inB, Bool.and_eq_true, decide_eq_true_eq] at hin'
      obtain ⟨i, rfl⟩ := Int.eq_ofNat_of_zero_le hin'.1.1
      obtain ⟨j, rfl⟩ := Int.eq_ofNat_of_zero_le hin'.2.1
      have hi : i < ss.length := by omega
      have hj : j < ss.length := by omega
      exact says_in w ad cap vl ss G L Z t ss.length _ _ _ _ _ i j _ _ hO.pos hO.six hS' hR (right_of vl ad cap t h) (both_of vl ad cap h i j hi hj) hi hj (find_cases ss t)
    · have hin' : (Lat.inB ss.length a && Lat.inB ss.length b) = false := by simpa using hin
      exact says_out w ad cap vl ss G L Z t ss.length _ _ _ _ _ a b hO.pos hO.six hS' hR (right_of vl ad cap t h) (pairE_out h a b hin') hin' (find_cases ss t)
  · exact says_err w vn vl ss G L Z t a b hS hR h

set_option maxRecDepth 100000 in
theorem says_lifted (os : Os) (started : os.Started) (H : Type) (enc : TypeId × Value → H) :
    ReturnsInHanded {} Try.checked os 3 .any (Rows.latticeSaysSpec.pre6 enc Try.prog Try.f3 Rows.latticeSaysRow.domain false) (Rows.latticeSaysSpec.post enc Try.prog Try.f3 false true false false) := by
  refine returnsInHanded_of_change (C := Try.checked) own started (by kernel_rfl) Try.func3
    (ChangeSpec.witness6 (enc := enc) (C := Try.checked) false ⟨#[], #[.agg #[.slice none 0 0, .slice none 0 0], .string ⟨#[]⟩, .int .i64 0, .int .i64 0], []⟩ 8 (by kernel_rfl) (by kernel_rfl) (by kernel_rfl) (by kernel_rfl)) ?_
  intro W base args ds gs before hval0 hW _ _
  have hval : ∀ (j : Nat) t v, Try.f3.params[j]? = some t → args[j]? = some v → Value.okWide Try.prog W .any base t v := hval0
  have hW' := hW
  obtain ⟨p, q, hA0, hV, rfl, _, _⟩ := hW
  have hA : DataW.TrodAll enc Try.prog W 0 (fun _ => true) true Try.f3.params.toList args.toList ds p := hA0
  rw [Try.params3] at hA hval
  obtain ⟨v0, vs0, d0, ds0, p0, q0, hargs, rfl, rfl, h0, r0⟩ := trodAll_cons hA
  obtain ⟨v1, vs1, d1, ds1, p1, q1, rfl, rfl, rfl, h1, r1⟩ := trodAll_cons r0
  obtain ⟨v2, vs2, d2, ds2, p2, q2, rfl, rfl, rfl, h2, r2⟩ := trodAll_cons r1
  obtain ⟨v3, vs3, d3, ds3, p3, q3, rfl, rfl, rfl, h3, r3⟩ := trodAll_cons r2
  obtain ⟨rfl, rfl, rfl⟩ := trodAll_nil r3
  obtain rfl : args = #[v0, v1, v2, v3] := by cases args; simp_all
  obtain ⟨rfl, rfl⟩ := trodVars_none hV
  have k0 := h0
  have lt0 : ∀ x ∈ p0, x.block < W.heap.size := by obtain ⟨m, hm⟩ := k0; exact DataW.trod_lt m _ _ _ hm
  obtain ⟨vn, vl, ss, G, L, Z, rfl, hS, hR⟩ := open_lattice (hval 0 25 v0 rfl rfl) h0
  obtain ⟨a1, rfl, rfl, rfl, w1⟩ := open_string Try.underlying9 (hval 1 9 v1 rfl rfl) h1
  obtain ⟨a2, rfl, rfl, rfl, w2⟩ := open_int Try.underlying3 (hval 2 3 v2 rfl rfl) h2
  obtain ⟨a3, rfl, rfl, rfl, w3⟩ := open_int Try.underlying3 (hval 3 3 v3 rfl rfl) h3
  clear hA0 hval0
  refine (says_walk W vn vl ss G L Z a1 a2 a3 hS hR).mono fun e W' ⟨he, bel⟩ => ?_
  subst he
  exact ⟨_, rfl, _, _, _, [], _, [], hW', trodAll_mk1 (shut_bool Try.underlying4 _), (trodAll_cons_mk (Below.trod laidOut (by kernel_rfl) (of_decide_eq_true (by kernel_rfl)) k0 bel lt0) (trodAll_cons_mk (shut_string Try.underlying9 w1) (trodAll_cons_mk (shut_int Try.underlying3 w2) (trodAll_cons_mk (shut_int Try.underlying3 w3) trodAll_mk0)))), rfl, bel.frame _, fun h => by cases h⟩

theorem says_over : Rows.latticeSaysRow.holds Try.pinned (OpenSpec.ofChange Rows.latticeSaysSpec) :=
  OpenClaim.holds_of_wide 3 Try.f3 rfl rfl rfl rfl rfl rfl rfl ⟨rfl, rfl, rfl, rfl, rfl⟩ rfl rfl rfl rfl rfl (by kernel_rfl) Try.func3 (by kernel_rfl)
    (of_decide_eq_true (by kernel_rfl)) (by unfold Func.isWrapper; first | (rw [if_pos (by decide +kernel)]; kernel_rfl) | (rw [if_neg (by decide +kernel)]; exact ⟨rfl, rfl⟩))
    (fun os started H enc _ => says_lifted os started H enc)

theorem says_proved : Rows.LatticeSaysSaid := says_over
#print axioms says_proved
end Go.Proofs.Ytnheahdcfadclaa
