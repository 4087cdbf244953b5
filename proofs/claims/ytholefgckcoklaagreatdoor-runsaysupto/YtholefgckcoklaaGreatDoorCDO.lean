/- RunSays' walk. -/
import Derived.Test.YtholefgckcoklaaGreatDoorCDN
import Derived.Test.YtholefgckcoklaaGreatDoorZBN
import Derived.Test.YtholefgckcoklaaGreatDoorZBL
namespace Go.Proofs.YtholefgckcoklaaGreatDoor
open Go.RowKit Go.Maps
theorem OutAt.formsD {w : World} {r : Rn.Res} {v1 v2 v3 : Value} (h : OutAt w r v1 v2 v3) : ∃ a1 c1 a2 c2 a3 c3, v1 = .slice a1 r.sto.length c1 ∧ v2 = .slice a2 r.pr.length c2 ∧ v3 = .slice a3 r.did.length c3 := by
  obtain ⟨⟨a1, _, _, c1, e1, _⟩, ⟨a2, _, _, c2, e2, _⟩, ⟨a3, _, _, c3, e3, _⟩⟩ := h
  exact ⟨a1, c1, a2, c2, a3, c3, e1, e2, e3⟩
set_option maxHeartbeats 8000000 in
set_option maxRecDepth 100000 in
theorem says_walk (m : Nat) (w : World) (vl va vs : Value) (l : List Mo) (mod fn : ByteArray) (args : List Int) (store : List Ce) (f : Int) (hL : MosAt w m vl l) (hks : ∀ y ∈ l, moW m y ≤ 1048576)
    (hcap : ∀ (b off cap : Nat), vl = .slice (some ⟨b, off, none⟩) l.length cap → ∀ (i : Nat) (y : Mo) (vf : Value), l[i]? = some y → w.cell? ⟨b, off + i * 4 + 3, none⟩ = some vf → CapOK vf)
    (hA : Ints w va args) (hAI : ∀ x ∈ args, I64 x) (hS : CesAt w vs store) (ht : Tab w) :
    Calls Tryz.prog 5 #[vl, .string mod, .string fn, va, vs, .int .i64 f] w fun e w' => e = .returned (.bool true) ∧ Below w.heap.size w w' := by
  obtain ⟨G, hG⟩ : ∃ G, G = 10000 * (m + 2) + m := ⟨_, rfl⟩
  have HR1 := hide (run_any m w vl va vs l mod fn args store f hL hks hcap hA hAI hS ht G (by omega))
  have HR2 := hide (fun wx (hb : Below w.heap.size w wx) => dran_any m wx vl va vs l mod fn args store f (hL.below hb) hks (hA.below hb) hAI (hS.below hb) (ht.below hb) G (by omega))
  obtain ⟨A, hAA⟩ : ∃ A, A = Rn.run G m l mod fn args store f := ⟨_, rfl⟩
  rw [← hAA] at HR1 HR2
  obtain ⟨al, bl, ol, cl, hvl, -⟩ := hL
  obtain ⟨aa, ba, oa, ca, hva, -⟩ := hA
  obtain ⟨as', bs, os, cs, hvs, -⟩ := hS
  obtain ⟨nl, hnl⟩ : ∃ n, n = l.length := ⟨_, rfl⟩
  obtain ⟨na, hna⟩ : ∃ n, n = args.length := ⟨_, rfl⟩
  obtain ⟨nst, hnst⟩ : ∃ n, n = store.length := ⟨_, rfl⟩
  rw [← hnl] at hvl
  rw [← hna] at hva
  rw [← hnst] at hvs
  clear hnl hna hnst hks hcap hAI ht hG hAA
  subst hvl hva hvs
  go_enter Tryz.func5, Tryz.ntmps5
  go_wp2_with fail
  refine HR1.out.mono ?_
  rintro e w2 ⟨v1, v2, v3, rfl, hO⟩
  have HO2 := hide hO.out.1
  have HB2 := hide hO.out.2
  obtain ⟨a1, c1, a2, c2, a3, c3, h1, h2, h3⟩ := hO.out.1.formsD
  obtain ⟨n1, hn1⟩ : ∃ n, n = A.sto.length := ⟨_, rfl⟩
  obtain ⟨n2, hn2⟩ : ∃ n, n = A.pr.length := ⟨_, rfl⟩
  obtain ⟨n3, hn3⟩ : ∃ n, n = A.did.length := ⟨_, rfl⟩
  rw [← hn1] at h1
  rw [← hn2] at h2
  rw [← hn3] at h3
  subst h1 h2 h3
  have HN := hide (And.intro hn1 (And.intro hn2 hn3))
  clear hO HR1 hn1 hn2 hn3
  have HBX := hide (block_new w2 (.cells #[.int .i64 A.res, .slice a1 n1 c1, .slice a2 n2 c2, .slice a3 n3 c3] 51))
  have HBB := hide (boxBelow w2 (.cells #[.int .i64 A.res, .slice a1 n1 c1, .slice a2 n2 c2, .slice a3 n3 c3] 51))
  obtain ⟨W2, hW2⟩ : ∃ W, W = w2.alloc (.cells #[.int .i64 A.res, .slice a1 n1 c1, .slice a2 n2 c2, .slice a3 n3 c3] 51) := ⟨_, rfl⟩
  have HW2 := hide hW2
  rw [← hW2] at HBX HBB
  clear hW2
  have HC0 := hide (HR2.out W2 (up HB2.out HBB.out))
  go_wp2_with fail
  rw [← HW2.out]
  refine HC0.out.mono ?_
  rintro e w4 ⟨u1, u2, u3, rfl, hO⟩
  have HO4 := hide hO.out.1
  have HB4 := hide (up (up HB2.out HBB.out) hO.out.2)
  have HO24 := hide ((HO2.out.below HBB.out).below hO.out.2)
  have HX4 := hide ((hO.out.2.block _ (block_lt HBX.out)).trans HBX.out)
  obtain ⟨e1, d1, e2, d2, e3, d3, h1, h2, h3⟩ := hO.out.1.formsD
  rw [← HN.out.1] at h1
  rw [← HN.out.2.1] at h2
  rw [← HN.out.2.2] at h3
  subst h1 h2 h3
  clear hO HR2 HC0
  have zX : w2.heap.size < w4.heap.size := block_lt HX4.out
  have x0 := (block_at HX4.out 0).trans rfl
  have x1 := (block_at HX4.out 1).trans rfl
  have x2 := (block_at HX4.out 2).trans rfl
  have x3 := (block_at HX4.out 3).trans rfl
  have HBY := hide (boxBelow w4 (.cells #[.int .i64 A.res, .slice e1 n1 d1, .slice e2 n2 d2, .slice e3 n3 d3] 54))
  have HNY := hide (block_new w4 (.cells #[.int .i64 A.res, .slice e1 n1 d1, .slice e2 n2 d2, .slice e3 n3 d3] 54))
  have kr : (A.res == A.res) = true := by simp
  have ke : (A.err == A.err) = true := by simp
  have HC1 := hide (eqC_same (w4.alloc (.cells #[.int .i64 A.res, .slice e1 n1 d1, .slice e2 n2 d2, .slice e3 n3 d3] 54)) _ _ A.sto (HO24.out.1.below HBY.out) (HO4.out.1.below HBY.out))
  go_wp2_with fail
  refine HC1.out.mono ?_
  rintro e w5 ⟨rfl, hb5⟩
  have HB5 := hide (up HBY.out hb5)
  have HY5 := hide ((hb5.block _ (block_lt HNY.out)).trans HNY.out)
  have HX5 := hide (((up HBY.out hb5).block _ (block_lt HX4.out)).trans HX4.out)
  clear hb5 HC1 x0 x1 x2 x3
  have x2 := (block_at HX5.out 2).trans rfl
  have x3 := (block_at HX5.out 3).trans rfl
  have y2 := (block_at HY5.out 2).trans rfl
  have y3 := (block_at HY5.out 3).trans rfl
  have HC2 := hide (eqP_same w5 (.slice a2 n2 c2) (.slice e2 n2 d2) A.pr (HO24.out.2.1.below HB5.out) (HO4.out.2.1.below HB5.out))
  go_wp2_with fail
  refine HC2.out.mono ?_
  rintro e w6 ⟨rfl, hb6⟩
  have HB6 := hide (up HB5.out hb6)
  have HY6 := hide ((hb6.block _ (block_lt HY5.out)).trans HY5.out)
  have HX6 := hide ((hb6.block _ (block_lt HX5.out)).trans HX5.out)
  clear hb6 HC2 x2 x3 y2 y3
  have x3 := (block_at HX6.out 3).trans rfl
  have y3 := (block_at HY6.out 3).trans rfl
  have HC3 := hide (eqT_same w6 (.slice a3 n3 c3) (.slice e3 n3 d3) A.did (HO24.out.2.2.below HB6.out) (HO4.out.2.2.below HB6.out))
  go_wp2_with fail
  refine HC3.out.mono ?_
  rintro e w7 ⟨rfl, hb7⟩
  have HB7 := hide (up HB6.out hb7)
  clear hb7 HC3 x3 y3
  go_wp2_with fail
  go_ret
  exact ⟨rfl, up HB4.out HB7.out⟩
end Go.Proofs.YtholefgckcoklaaGreatDoor
