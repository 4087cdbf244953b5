/- LexSays: whatever is handed in, the call returns true, and the argument reads afterwards as it read before: Words of package lex answers what the document says. No condition. -/
import Derived.Test.YtadpinekcadabaaRows
import Derived.Test.YtadpinekcadabaaWX
import Derived.Test.YtadpinekcadabaaWB
import Derived.WalkKit
import Derived.ProofKit
import Derived.OpenShut
import Derived.ChangeOld
import Derived.ChangeMaps
import Derived.Below
namespace Go.Proofs.Ytadpinekcadabaa
open Go.ChangeShapes Go.WideShapes Go.ChangeAt Go.RowKit
open Go.ChangeMaps (open_string shut_string)

set_option maxHeartbeats 1000000 in
theorem lex_walk (w : World) (s : ByteArray) (hs : s.size ≤ maxLen) :
    Calls Try.prog 4 #[.string s] w fun e w' => e = .returned (.bool true) ∧ Below w.heap.size w w' := by
  have HW := hide (words_any w s hs)
  have HR := hide (fun w => rwords_any w s hs)
  generalize Lat.wds s = l6 at *
  generalize Lat.wats s = l7 at *
  generalize (Lat.wn s : Int) = n at *
  generalize Lat.we s = er at *
  have cn : (n == n) = true := by simp
  have ce : (er == er) = true := by simp
  go_enter Try.func4, Try.ntmps4
  go_wp2_with fail
  refine HW.out.mono ?_
  rintro e w1 ⟨v6, v7, rfl, h6, h7, hb⟩
  have H6 := hide h6
  have H7 := hide h7
  have HB := hide hb
  clear h6 h7 hb
  go_wp2_with fail
  refine (HR.out _).mono ?_
  rintro e w2 ⟨y6, y7, rfl, h6, h7, hb⟩
  have K6 := hide h6
  have K7 := hide h7
  have J6 := hide (H6.out.below hb)
  have J7 := hide (H7.out.below hb)
  have HB2 := hide (up HB.out hb)
  clear h6 h7 hb H6 H7 HB
  go_wp2_with fail
  refine (eqS_same _ _ _ l6 J6.out.1 K6.out.1).mono ?_
  rintro e w3 ⟨rfl, hb⟩
  have I7 := hide (J7.out.below hb)
  have L7 := hide (K7.out.below hb)
  have HB3 := hide (up HB2.out hb)
  clear hb
  go_wp2_with fail
  refine (eqI_same _ _ _ l7 I7.out L7.out).mono ?_
  rintro e w4 ⟨rfl, hb⟩
  have HB4 := hide (up HB3.out hb)
  clear hb
  go_wp2
  go_ret
  exact ⟨ret_bool (by simp), HB4.out⟩

theorem own : ownKnob Try.prog.godebug = none := by kernel_rfl

set_option maxRecDepth 100000 in
theorem lex_lifted (os : Os) (started : os.Started) (H : Type) (enc : TypeId × Value → H) :
    ReturnsInHanded {} Try.checked os 4 .any (Rows.lexSaysSpec.pre6 enc Try.prog Try.f4 Rows.lexSaysRow.domain false) (Rows.lexSaysSpec.post enc Try.prog Try.f4 false true false false) := by
  refine returnsInHanded_of_change (C := Try.checked) own started (by kernel_rfl) Try.func4
    (ChangeSpec.witness6 (enc := enc) (C := Try.checked) false ⟨#[], #[.string ⟨#[]⟩], []⟩ 8 (by kernel_rfl) (by kernel_rfl) (by kernel_rfl) (by kernel_rfl)) ?_
  intro W base args ds gs before hval0 hW _ _
  have hval : ∀ (j : Nat) t v, Try.f4.params[j]? = some t → args[j]? = some v → Value.okWide Try.prog W .any base t v := hval0
  have hW' := hW
  obtain ⟨p, q, hA0, hV, rfl, _, _⟩ := hW
  have hA : DataW.TrodAll enc Try.prog W 0 (fun _ => true) true Try.f4.params.toList args.toList ds p := hA0
  rw [Try.params4] at hA hval
  obtain ⟨v0, vs0, d0, ds0, p0, q0, hargs, rfl, rfl, h0, r0⟩ := trodAll_cons hA
  obtain ⟨rfl, rfl, rfl⟩ := trodAll_nil r0
  obtain rfl : args = #[v0] := by cases args; simp_all
  obtain ⟨rfl, rfl⟩ := trodVars_none hV
  obtain ⟨a1, rfl, rfl, rfl, w1⟩ := open_string Try.underlying9 (hval 0 9 v0 rfl rfl) h0
  clear hA0 hval0
  refine (lex_walk W a1 w1).mono fun e W' ⟨he, bel⟩ => ?_
  subst he
  exact ⟨_, rfl, _, _, _, [], _, [], hW', trodAll_mk1 (shut_bool Try.underlying4 _), (trodAll_cons_mk (shut_string Try.underlying9 w1) trodAll_mk0), rfl, bel.frame _, fun h => by cases h⟩

theorem lex_over : Rows.lexSaysRow.holds Try.pinned (OpenSpec.ofChange Rows.lexSaysSpec) :=
  OpenClaim.holds_of_wide 4 Try.f4 rfl rfl rfl rfl rfl rfl rfl ⟨rfl, rfl, rfl, rfl, rfl⟩ rfl rfl rfl rfl rfl (by kernel_rfl) Try.func4 (by kernel_rfl)
    (of_decide_eq_true (by kernel_rfl)) (by unfold Func.isWrapper; first | (rw [if_pos (by decide +kernel)]; kernel_rfl) | (rw [if_neg (by decide +kernel)]; exact ⟨rfl, rfl⟩))
    (fun os started H enc _ => lex_lifted os started H enc)

theorem lex_proved : Rows.LexSaysSaid := lex_over

#print axioms lex_proved
end Go.Proofs.Ytadpinekcadabaa
