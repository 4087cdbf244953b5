/- RunKeeps' walk. -/
import Derived.Test.YtbncnkfogkhoeabGreatDoorYN
import Derived.Test.YtbncnkfogkhoeabGreatDoorZBK
namespace Go.Proofs.YtbncnkfogkhoeabGreatDoor
open Go.RowKit Go.Maps

set_option maxHeartbeats 16000000 in
set_option maxRecDepth 100000 in
theorem keeps_walk (m : Nat) (w : World) (vl va vs : Value) (l : List Mo) (mod fn : ByteArray) (args : List Int) (store : List Ce) (hL : MosAt w m vl l) (hks : ∀ y ∈ l, moW m y ≤ 1048576)
    (hcap : ∀ (b off cap : Nat), vl = .slice (some ⟨b, off, none⟩) l.length cap → ∀ (i : Nat) (y : Mo) (vf : Value), l[i]? = some y → w.cell? ⟨b, off + i * 4 + 3, none⟩ = some vf → CapOK vf)
    (hA : Ints w va args) (hAI : ∀ x ∈ args, I64 x) (hS : CesAt w vs store) (hsl : store.length ≤ 1048576) (ht : Tab w) (he : ErrV w) :
    Calls Tryz.prog 5 #[vl, .string mod, .string fn, va, vs] w fun e w' => e = .returned (.bool true) ∧ Below w.heap.size w w' := by
  obtain ⟨G, hG⟩ : ∃ G, G = 10000 * (m + 2) + m := ⟨_, rfl⟩
  have HRUN := hide (fun wx (hb : Below w.heap.size w wx) (sv : Value) (st : List Ce) (hs : CesAt wx sv st) => run_any m wx vl va sv l mod fn args st 1000 (hL.below hb) hks (caps_below hcap hL hb) (hA.below hb) hAI hs (ht.below hb) G (by omega))
  have HRAN := hide (ran_any w ht he)
  have HS := hide hS
  have HSL := hide hsl
  obtain ⟨al, bl, ol, cl, hvl, -⟩ := hL
  obtain ⟨aa, ba, oa, ca, hva, -⟩ := hA
  obtain ⟨as', bs, os, cs, hvs, hs0, -, hsel⟩ := hS
  have HS0 := hide hs0
  have HSE := hide hsel
  obtain ⟨nl, hnl⟩ : ∃ n, n = l.length := ⟨_, rfl⟩
  obtain ⟨na, hna⟩ : ∃ n, n = args.length := ⟨_, rfl⟩
  obtain ⟨nst, hnst⟩ : ∃ n, n = store.length := ⟨_, rfl⟩
  rw [← hnl] at hvl
  rw [← hna] at hva
  rw [← hnst] at hvs
  have HNST := hide hnst
  have HG := hide hG
  clear hnl hna hnst hks hcap hAI ht he hG hs0 hsel hsl
  subst hvl hva hvs
  obtain ⟨A, hAA⟩ : ∃ A, A = Rn.run G m l mod fn args store 1000 := ⟨_, rfl⟩
  have HAE := hide hAA
  clear hAA
  go_enter Tryz.func5, Tryz.ntmps5
  go_wp2_with fail
  refine HRAN.out.mono ?_
  rintro e w1 ⟨rfl, hb1⟩
  have HB1 := hide hb1
  have HR1 := hide (HRUN.out w1 hb1 _ store (HS.out.below hb1))
  rw [← HAE.out] at HR1
  clear hb1 HRAN
  go_wp2_with fail
  refine HR1.out.mono ?_
  rintro e w2 ⟨v1, v2, v3, rfl, hO⟩
  have HO2 := hide hO.out.1
  have HB2 := hide (up HB1.out hO.out.2)
  obtain ⟨a1, c1, a2, c2, a3, c3, h1, h2, h3⟩ := hO.out.1.forms
  obtain ⟨n1, hn1⟩ : ∃ n, n = A.sto.length := ⟨_, rfl⟩
  obtain ⟨n2, hn2⟩ : ∃ n, n = A.pr.length := ⟨_, rfl⟩
  obtain ⟨n3, hn3⟩ : ∃ n, n = A.did.length := ⟨_, rfl⟩
  rw [← hn1] at h1
  rw [← hn2] at h2
  rw [← hn3] at h3
  subst h1 h2 h3
  have HN := hide (And.intro hn1 (And.intro hn2 hn3))
  clear hO HR1 hn1 hn2 hn3
  have HBX := hide (block_new w2 (.cells #[.int .i64 A.res, .slice a1 n1 c1, .slice a2 n2 c2, .slice a3 n3 c3] 41))
  have HBB := hide (boxBelow w2 (.cells #[.int .i64 A.res, .slice a1 n1 c1, .slice a2 n2 c2, .slice a3 n3 c3] 41))
  by_cases h0 : A.err = 0
  · rw [h0]
    have H0 := hide h0
    clear h0
    go_wp2_with fail
    obtain ⟨W2, hW2⟩ : ∃ W, W = w2.alloc (.cells #[.int .i64 A.res, .slice a1 n1 c1, .slice a2 n2 c2, .slice a3 n3 c3] 41) := ⟨_, rfl⟩
    rw [← hW2] at HBX HBB ⊢
    clear hW2
    have HOW := hide (HO2.out.below HBB.out)
    have HBW := hide (up HB2.out HBB.out)
    clear HB2 HO2 HBB
    have n48 : n1 ≤ 48 := by rw [HN.out.1, HAE.out]; exact Rn.run_len
    have hst9 : nst ≤ 1048576 := by rw [HNST.out]; exact HSL.out
    go_loopw [14, 15, 16, 48] (fun _ _ _ i wx => ∃ j : Nat, j ≤ n1 ∧ i = .int .i64 j ∧ Below W2.heap.size W2 wx) (fun _ _ _ i _ => n1 - (intOf i).toNat)
    case atStart => exact ⟨0, Nat.zero_le _, rfl, Below.refl _ _⟩
    case round =>
      obtain ⟨j, hj, rfl, hnx⟩ := hrel
      have HNX := hide hnx
      clear hnx
      by_cases hjl : j < n1
      · obtain ⟨c, hc⟩ : ∃ c, A.sto[j]? = some c := ⟨_, List.getElem?_eq_getElem (by rw [← HN.out.1]; exact hjl)⟩
        have HKV : Hid (c.val = Rn.val0 store c.mod c.name ∨ Rn.tag 119 (c.mod, c.name) ∈ A.did) := hide (by
          have h := Rn.run_stays (g := G) (m := m) (l := l) (mod := mod) (fn := fn) (args := args) (store := store) (f := 1000) (by rw [← HAE.out]; exact H0.out) (c := c) (by rw [← HAE.out]; exact List.mem_of_getElem? hc)
          rw [← HAE.out] at h
          exact h)
        have HC8 : Hid (c.mod.size ≤ 8 ∧ c.name.size ≤ 8) := hide (Rn.run_names (g := G) (m := m) (l := l) (mod := mod) (fn := fn) (args := args) (store := store) (f := 1000) (by rw [← HAE.out]; exact H0.out) (c := c) (by rw [← HAE.out]; exact List.mem_of_getElem? hc))
        obtain ⟨b, off, rfl, p0, p1, p2⟩ : ∃ b off, a1 = some ⟨b, off, none⟩ ∧ W2.cell? ⟨b, off + j * 3, none⟩ = some (.string c.mod) ∧ W2.cell? ⟨b, off + j * 3 + 1, none⟩ = some (.string c.name) ∧ W2.cell? ⟨b, off + j * 3 + 2, none⟩ = some (.int .i64 c.val) := by
          obtain ⟨a, b, off, cap, e, h0, _, hel⟩ := HOW.out.1
          injection e with e1
          obtain ⟨_, g0, g1, g2⟩ := hel j c hc
          exact ⟨b, off, by rw [e1]; exact h0 (by have := (List.getElem?_eq_some_iff.1 hc).1; omega), g0, g1, g2⟩
        replace p0 := cellUp p0 HNX.out
        replace p1 := cellUp p1 HNX.out
        replace p2 := cellUp p2 HNX.out
        have HBK := hide (boxBelow wr (.cells #[.string c.mod, .string c.name, .int .i64 c.val] 46))
        have HK3 := hide (block_new wr (.cells #[.string c.mod, .string c.name, .int .i64 c.val] 46))
        have HIX := hide (ixKeep_any (wr.alloc (.cells #[.string c.mod, .string c.name, .int .i64 c.val] 46)) (.slice as' nst cs) store c.mod c.name wr.heap.size (HS.out.below (up (up HBW.out HNX.out) HBK.out)) ((block_at HK3.out 0).trans rfl) ((block_at HK3.out 1).trans rfl))
        clear hc
        go_wp2_with fail
        refine HIX.out.mono ?_
        rintro e w5 ⟨rfl, hb5⟩
        have HB5 := hide (up (up HNX.out HBK.out) hb5)
        have HK5 := hide ((hb5.block _ (block_lt HK3.out)).trans HK3.out)
        have HX5 := hide ((HB5.out.block _ (block_lt HBX.out)).trans HBX.out)
        have HST5 := hide (HS.out.below (up HBW.out HB5.out))
        clear p0 p1 p2 hb5 HIX HK3 HBK
        have x3 := (block_at HX5.out 3).trans rfl
        have y0 := (block_at HK5.out 0).trans rfl
        have y1 := (block_at HK5.out 1).trans rfl
        have y2 := (block_at HK5.out 2).trans rfl
        have k1 : (9223372036854775807 < 2 + c.mod.size) = False := eq_false (by have := HC8.out; omega)
        have k2 : (9223372036854775807 < 2 + c.mod.size + 1) = False := eq_false (by have := HC8.out; omega)
        have k3 : (9223372036854775807 < 2 + c.mod.size + 1 + c.name.size) = False := eq_false (by have := HC8.out; omega)
        have HCO := hide (containsS_any w5 (.slice a3 n3 c3) A.did (Rn.tag 119 (c.mod, c.name)) (HOW.out.2.2.below HB5.out))
        obtain ⟨K, hK⟩ : ∃ K, K = wr.heap.size := ⟨_, rfl⟩
        rw [← hK] at y0 y1 y2 ⊢
        clear hK
        cases hce : Rn.ceAt store c.mod c.name with
        | none =>
          have hv0 : Rn.val0 store c.mod c.name = 0 := by unfold Rn.val0; rw [hce]; rfl
          rw [hv0] at HKV
          clear hv0 hce
          simp only [Nm.oI]
          by_cases hcv : c.val = 0
          · have q1 : (c.val != 0) = false := by simp [hcv]
            have q2 : (c.val == 0) = true := by simp [hcv]
            clear hcv
            go_wp2_with fail
            go_roundw
            case rel => exact ⟨j + 1, by omega, by go_num, HB5.out⟩
            case measure => simp [intOf]; omega
          · have q1 : (c.val != 0) = true := by simp [hcv]
            have q2 : (c.val == 0) = false := by simp [hcv]
            have HIN := hide (HKV.out.resolve_left hcv)
            rw [indexI_mem HIN.out] at HCO
            clear hcv
            go_wp2_with fail
            refine HCO.out.mono ?_
            rintro e w6 ⟨rfl, rfl⟩
            go_wp2_with fail
            go_roundw
            case rel => exact ⟨j + 1, by omega, by go_num, HB5.out⟩
            case measure => simp [intOf]; omega
        | some i =>
          obtain ⟨⟨d, hd, _⟩, _⟩ := Rn.ceAt_some hce
          have hv0 : Rn.val0 store c.mod c.name = d.val := by unfold Rn.val0; rw [hce]; simp [hd]
          have hin : i < nst := by rw [HNST.out]; exact (List.getElem?_eq_some_iff.1 hd).1
          obtain ⟨_, _, _, g2⟩ := HSE.out i d hd
          obtain rfl := HS0.out (by rw [← HNST.out]; omega)
          replace g2 := cellUp g2 (up HBW.out HB5.out)
          rw [hv0] at HKV
          clear hv0 hce hd
          simp only [Nm.oI]
          by_cases hcv : c.val = d.val
          · have q1 : (c.val != d.val) = false := by simp [hcv]
            have q2 : (c.val == d.val) = true := by simp [hcv]
            clear hcv
            go_wp2_with fail
            go_roundw
            case rel => exact ⟨j + 1, by omega, by go_num, HB5.out⟩
            case measure => simp [intOf]; omega
          · have q1 : (c.val != d.val) = true := by simp [hcv]
            have q2 : (c.val == d.val) = false := by simp [hcv]
            have HIN := hide (HKV.out.resolve_left hcv)
            rw [indexI_mem HIN.out] at HCO
            clear hcv
            go_wp2_with fail
            refine HCO.out.mono ?_
            rintro e w6 ⟨rfl, rfl⟩
            go_wp2_with fail
            go_roundw
            case rel => exact ⟨j + 1, by omega, by go_num, HB5.out⟩
            case measure => simp [intOf]; omega
      · have HX := hide ((HNX.out.block _ (block_lt HBX.out)).trans HBX.out)
        have x2 := (block_at HX.out 2).trans rfl
        have hn2 : n2 ≤ 9223372036854775807 := by
          obtain ⟨_, _, _, _, _, _, hl, _⟩ := HOW.out.2.1
          rw [HN.out.2.1]
          exact hl
        go_wp2_with fail
        clear x2 HX
        obtain ⟨W3, hW3⟩ : ∃ W, W = wr := ⟨_, rfl⟩
        rw [← hW3] at HNX ⊢
        have HB3 := HNX
        clear HNX hW3 hj hjl
        clear wr
        go_loopw [18, 83] (fun _ i wx => ∃ t : Nat, t ≤ n2 ∧ i = .int .i64 t ∧ Below W2.heap.size W2 wx) (fun _ i _ => n2 - (intOf i).toNat)
        case atStart => exact ⟨0, Nat.zero_le _, rfl, HB3.out⟩
        case round =>
          clear HB3
          obtain ⟨t, htn, rfl, hnx⟩ := hrel
          have HNX := hide hnx
          clear hnx
          have HX := hide ((HNX.out.block _ (block_lt HBX.out)).trans HBX.out)
          by_cases htl : t < n2
          · obtain ⟨d, hd⟩ : ∃ d, A.pr[t]? = some d := ⟨_, List.getElem?_eq_getElem (by rw [← HN.out.2.1]; exact htl)⟩
            have HPK : Hid (Rn.tagP d.1 ∈ A.did) := hide (by
              have h := Rn.run_prints (g := G) (m := m) (l := l) (mod := mod) (fn := fn) (args := args) (store := store) (f := 1000) (by rw [← HAE.out]; exact H0.out) (d := d) (by rw [← HAE.out]; exact List.mem_of_getElem? hd)
              rw [← HAE.out] at h
              exact h)
            have k1 : (9223372036854775807 < 2 + d.1.size) = False := eq_false (by
              obtain ⟨_, _, _, _, _, _, _, hsz, _⟩ := HOW.out.2.2
              have h := hsz _ HPK.out
              unfold Rn.tagP at h
              rw [ByteArray.size_append] at h
              have e1 : (⟨#[112, 58]⟩ : ByteArray).size = 2 := rfl
              unfold maxLen at h
              omega)
            obtain ⟨b, off, rfl, p0, p1⟩ : ∃ b off, a2 = some ⟨b, off, none⟩ ∧ W2.cell? ⟨b, off + t * 2, none⟩ = some (.string d.1) ∧ W2.cell? ⟨b, off + t * 2 + 1, none⟩ = some (.int .i64 d.2) := by
              obtain ⟨a, b, off, cap, e, h0, _, hel⟩ := HOW.out.2.1
              injection e with e1
              obtain ⟨g0, g1⟩ := hel t d hd
              exact ⟨b, off, by rw [e1]; exact h0 (by have := (List.getElem?_eq_some_iff.1 hd).1; omega), g0, g1⟩
            replace p0 := cellUp p0 HNX.out
            replace p1 := cellUp p1 HNX.out
            have x3 := (block_at HX.out 3).trans rfl
            have zX : w2.heap.size < wr.heap.size := block_lt HX.out
            have HBK := hide (boxBelow wr (.cells #[.string d.1, .int .i64 d.2] 49))
            have HCO := hide (containsS_any (wr.alloc (.cells #[.string d.1, .int .i64 d.2] 49)) (.slice a3 n3 c3) A.did (Rn.tagP d.1) (HOW.out.2.2.below (up HNX.out HBK.out)))
            rw [indexI_mem HPK.out] at HCO
            clear hd HX
            go_wp2_with fail
            refine HCO.out.mono ?_
            rintro e w6 ⟨rfl, rfl⟩
            go_wp2_with fail
            go_roundw
            case rel => exact ⟨t + 1, by omega, by go_num, up HNX.out HBK.out⟩
            case measure => simp [intOf]; omega
          · have x1 := (block_at HX.out 1).trans rfl
            obtain ⟨P, hP⟩ : ∃ A', A' = Rn.run G m l mod fn args A.sto 1000 := ⟨_, rfl⟩
            have HR2 := hide (HRUN.out wr (up HBW.out HNX.out) (.slice a1 n1 c1) A.sto (HOW.out.1.below HNX.out))
            rw [← hP] at HR2
            have HQP : Hid (Rn.run G m l mod fn args (A.sto ++ store) 1000 = P) := hide (by
              have h := Rn.run_again (g := G) (m := m) (l := l) (mod := mod) (fn := fn) (args := args) (store := store) (f := 1000) (by rw [← HAE.out]; exact H0.out) G 1000
              rw [← HAE.out] at h
              rw [h, hP])
            clear hP
            go_wp2_with fail
            refine HR2.out.mono ?_
            rintro e w6 ⟨u1, u2, u3, rfl, hO⟩
            have HO6 := hide hO.out.1
            have HB6 := hide (up HNX.out hO.out.2)
            have HX6 := hide ((hO.out.2.block _ (block_lt HX.out)).trans HX.out)
            obtain ⟨e1, d1, e2, d2, e3, d3, h1, h2, h3⟩ := hO.out.1.forms
            obtain ⟨m1, hm1⟩ : ∃ n, n = P.sto.length := ⟨_, rfl⟩
            obtain ⟨m2, hm2⟩ : ∃ n, n = P.pr.length := ⟨_, rfl⟩
            obtain ⟨m3, hm3⟩ : ∃ n, n = P.did.length := ⟨_, rfl⟩
            rw [← hm1] at h1
            rw [← hm2] at h2
            rw [← hm3] at h3
            subst h1 h2 h3
            clear hO HR2 hm1 hm2 hm3 x1 HX HNX
            have HPB := hide (boxBelow w6 (.cells #[.int .i64 P.res, .slice e1 m1 d1, .slice e2 m2 d2, .slice e3 m3 d3] 41))
            have HPN := hide (block_new w6 (.cells #[.int .i64 P.res, .slice e1 m1 d1, .slice e2 m2 d2, .slice e3 m3 d3] 41))
            have zX : w2.heap.size < w6.heap.size := block_lt HX6.out
            have x1 := (block_at HX6.out 1).trans rfl
            have HCL := hide (cloneC_any (w6.alloc (.cells #[.int .i64 P.res, .slice e1 m1 d1, .slice e2 m2 d2, .slice e3 m3 d3] 41)) (.slice a1 n1 c1) A.sto (HOW.out.1.below (up HB6.out HPB.out)) (by rw [← HN.out.1]; omega))
            go_wp2_with fail
            obtain ⟨W6, hW6⟩ : ∃ W, W = w6.alloc (.cells #[.int .i64 P.res, .slice e1 m1 d1, .slice e2 m2 d2, .slice e3 m3 d3] 41) := ⟨_, rfl⟩
            rw [← hW6] at HPB HPN HCL ⊢
            clear hW6
            refine HCL.out.mono ?_
            rintro e w7 ⟨v7, rfl, hown7, hb7⟩
            have HO7 := hide hown7
            have HB7 := hide hb7
            have HWL : Hid (Below w.heap.size w w7) := hide (up (up (up HBW.out HB6.out) HPB.out) hb7)
            obtain ⟨q7, r7, hv7⟩ : ∃ a c, v7 = .slice a A.sto.length c := hown7.formR
            rw [← HN.out.1] at hv7
            subst hv7
            clear hown7 hb7 HCL x1
            go_wp2_with (first
              | (at_builtin; refine wpList_append_C rfl _ _ rfl W6.heap.size _ A.sto rfl HO7.out _ store rfl (HS.out.below HWL.out) (by have := HSL.out; have := HN.out.1; omega) HB7.out.size ?_; intro v8 w8 hown8 hgrow8; have HO8 := hide hown8; have HB8 := hide (Below.grown HB7.out hgrow8 HB7.out.size (fun k e => (HO7.out.lt k e).1)); obtain ⟨q8, r8, hv8⟩ : ∃ a c, v8 = .slice a (A.sto ++ store).length c := hown8.formR; obtain ⟨l8, hl8⟩ : ∃ n, n = (A.sto ++ store).length := ⟨_, rfl⟩; rw [← hl8] at hv8; subst hv8; clear hown8 hgrow8 hl8)
              | fail)
            have HC8 : Hid (CesAt w8 (.slice q8 l8 r8) (A.sto ++ store)) := hide (HO8.out.ces (fun x hx => by
              rcases List.mem_append.1 hx with hx | hx
              · obtain ⟨_, _, _, _, _, _, _, hel⟩ := HOW.out.1
                obtain ⟨i, hi⟩ := List.mem_iff_getElem?.1 hx
                exact (hel i x hi).1
              · obtain ⟨i, hi⟩ := List.mem_iff_getElem?.1 hx
                exact (HSE.out i x hi).1) (by rw [List.length_append]; have := HSL.out; have := HN.out.1; omega))
            have HW8 : Hid (Below w.heap.size w w8) := hide (up (up (up HBW.out HB6.out) HPB.out) HB8.out)
            have HR3 := hide (HRUN.out w8 HW8.out (.slice q8 l8 r8) (A.sto ++ store) HC8.out)
            rw [HQP.out] at HR3
            have HPN8 := hide ((HB8.out.block _ (block_lt HPN.out)).trans HPN.out)
            refine HR3.out.mono ?_
            rintro e w9 ⟨z1, z2, z3, rfl, hO⟩
            have HO9 := hide hO.out.1
            have HO69 := hide ((((HO6.out.below HPB.out).below HB8.out).below hO.out.2))
            have HW9 := hide (up HW8.out hO.out.2)
            have HPN9 := hide ((hO.out.2.block _ (block_lt HPN8.out)).trans HPN8.out)
            obtain ⟨f1, g1, f2, g2, f3, g3, h1, h2, h3⟩ := hO.out.1.forms
            obtain ⟨l1, hl1⟩ : ∃ n, n = P.sto.length := ⟨_, rfl⟩
            obtain ⟨l2, hl2⟩ : ∃ n, n = P.pr.length := ⟨_, rfl⟩
            obtain ⟨l3, hl3⟩ : ∃ n, n = P.did.length := ⟨_, rfl⟩
            rw [← hl1] at h1
            rw [← hl2] at h2
            rw [← hl3] at h3
            subst h1 h2 h3
            clear hO HR3 hl1 hl2 hl3
            have zP : w6.heap.size < w9.heap.size := block_lt HPN9.out
            have x0 := (block_at HPN9.out 0).trans rfl
            have x1 := (block_at HPN9.out 1).trans rfl
            have HQB := hide (boxBelow w9 (.cells #[.int .i64 P.res, .slice f1 l1 g1, .slice f2 l2 g2, .slice f3 l3 g3] 41))
            have HEC := hide (eqC_same (w9.alloc (.cells #[.int .i64 P.res, .slice f1 l1 g1, .slice f2 l2 g2, .slice f3 l3 g3] 41)) (.slice e1 m1 d1) (.slice f1 l1 g1) P.sto (HO69.out.1.below HQB.out) (HO9.out.1.below HQB.out))
            go_wp2_with fail
            refine HEC.out.mono ?_
            rintro e w10 ⟨rfl, hb10⟩
            have HBF := hide (up (up HW9.out HQB.out) hb10)
            clear hb10
            go_wp2_with fail
            go_ret
            exact ⟨rfl, HBF.out⟩
  · have HZ : Hid (n1 = 0 ∧ n2 = 0) := hide (by
      have h := Rn.run_err (g := G) (m := m) (l := l) (mod := mod) (fn := fn) (args := args) (store := store) (f := 1000) (by rw [← HAE.out]; exact h0)
      rw [← HAE.out] at h
      rw [HN.out.1, HN.out.2.1, h.1, h.2]
      exact ⟨rfl, rfl⟩)
    have h0' := bne_zero_true h0
    obtain ⟨hz1, hz2⟩ := HZ.out
    clear h0 HZ
    rw [hz1, hz2] at HBB
    clear HO2 HN HBX
    subst hz1 hz2
    go_wp2_with fail
    go_ret
    exact ⟨rfl, up HB2.out HBB.out⟩

end Go.Proofs.YtbncnkfogkhoeabGreatDoor
