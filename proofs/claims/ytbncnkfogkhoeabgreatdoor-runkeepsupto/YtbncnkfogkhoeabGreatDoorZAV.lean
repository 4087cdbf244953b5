/- Walks over package run: Run. -/
import Derived.Test.YtbncnkfogkhoeabGreatDoorYE
import Derived.Test.YtbncnkfogkhoeabGreatDoorZAU
import Derived.Test.YtbncnkfogkhoeabGreatDoorZAB
import Derived.Deep.RegionHeld3
import Derived.Deep.QuietTactic
import Derived.BigQuiet
import Derived.Lib.Join
namespace Go.Proofs.YtbncnkfogkhoeabGreatDoor
open Go.RowKit Go.Maps

/-- Capacities that stay. -/
theorem caps_below {w W : World} {m : Nat} {vl : Value} {l : List Mo} (h : ∀ (b off cap : Nat), vl = .slice (some ⟨b, off, none⟩) l.length cap → ∀ (i : Nat) (y : Mo) (vf : Value), l[i]? = some y → w.cell? ⟨b, off + i * 4 + 3, none⟩ = some vf → CapOK vf) (hM : MosAt w m vl l) (hb : Below w.heap.size w W) :
    ∀ (b off cap : Nat), vl = .slice (some ⟨b, off, none⟩) l.length cap → ∀ (i : Nat) (y : Mo) (vf : Value), l[i]? = some y → W.cell? ⟨b, off + i * 4 + 3, none⟩ = some vf → CapOK vf := fun b off cap e i y vf hy k3 => by
  obtain ⟨a', b', off', cap', e', ha', _, hel⟩ := hM
  have e0 := e
  rw [e'] at e0
  injection e0 with e1 e2 e3
  have hlt : 0 < l.length := by have := (List.getElem?_eq_some_iff.1 hy).1; omega
  rw [ha' hlt] at e1
  injection e1 with e1
  injection e1 with e4 e5
  subst e4 e5
  obtain ⟨vi, vv, vf', g0, g1, g2, g3, hm⟩ := hel i y hy
  have h3 := cellUp g3 hb
  rw [k3] at h3
  injection h3 with h3
  subst h3
  exact h _ _ _ e i y _ hy g3
theorem ModsOk.below {w W : World} {m : Nat} {vl : Value} {l : List Mo} (h : ModsOk w m vl l) (hM : MosAt w m vl l) (hb : Below w.heap.size w W) : ModsOk W m vl l := ⟨h.ok, caps_below h.cap hM hb⟩

set_option maxHeartbeats 8000000 in
set_option maxRecDepth 100000 in
theorem run_any (m : Nat) (w : World) (vl va vs : Value) (l : List Mo) (mod fn : ByteArray) (args : List Int) (store : List Ce) (fuel : Int) (hL : MosAt w m vl l) (hks : ∀ y ∈ l, moW m y ≤ 1048576)
    (hcap : ∀ (b off cap : Nat), vl = .slice (some ⟨b, off, none⟩) l.length cap → ∀ (i : Nat) (y : Mo) (vf : Value), l[i]? = some y → w.cell? ⟨b, off + i * 4 + 3, none⟩ = some vf → CapOK vf)
    (hA : Ints w va args) (hAI : ∀ x ∈ args, I64 x) (hS : CesAt w vs store) (ht : Tab w) (g : Nat) (hg : 10000 * (m + 2) + m ≤ g) :
    Calls Tryz.prog 12 #[vl, .string mod, .string fn, va, vs, .int .i64 fuel] w fun e w' => ∃ v1 v2 v3, e = .returned (.tuple #[.agg #[.int .i64 (Rn.run g m l mod fn args store fuel).res, v1, v2, v3], .int .i64 (Rn.run g m l mod fn args store fuel).err]) ∧ Hid (OutAt w' (Rn.run g m l mod fn args store fuel) v1 v2 v3 ∧ Below w.heap.size w w') := by
  obtain ⟨RR, hRR⟩ : ∃ r, r = Rn.run g m l mod fn args store fuel := ⟨_, rfl⟩
  rw [← hRR]
  have HR := hide hRR
  clear hRR
  have HL := hide hL
  have HKS := hide hks
  have HCAP := hide hcap
  have HA := hide hA
  have HAI := hide hAI
  have HS := hide hS
  have HT := hide ht
  have HG := hide hg
  have HB0 := hide (boxBelow w (.cells #[.int .i64 0, .slice none 0 0, .slice none 0 0, .slice none 0 0] 41))
  have HW0 := hide (block_new w (.cells #[.int .i64 0, .slice none 0 0, .slice none 0 0, .slice none 0 0] 41))
  obtain ⟨W0, hW0⟩ : ∃ W, W = w.alloc (.cells #[.int .i64 0, .slice none 0 0, .slice none 0 0, .slice none 0 0] 41) := ⟨_, rfl⟩
  have HW0E := hide hW0
  rw [← hW0] at HB0 HW0
  obtain ⟨al, bl, ol, cl, hvl, _⟩ := hL
  obtain ⟨aa, ba, oa, ca, hva, _⟩ := hA
  obtain ⟨as', bs, os, cs, hvs, _⟩ := hS
  generalize l.length = nl at hvl
  generalize args.length = na at hva
  generalize store.length = nst at hvs
  have HVL := hide hvl
  subst hvl hva hvs
  clear hW0 hks hcap hAI ht hg
  go_enter Tryz.func12, Tryz.ntmps12
  go_wp2_with fail
  rw [← HW0E.out]
  refine (checkModules_any m W0 _ l (HL.out.below HB0.out) HKS.out (HT.out.below HB0.out)).mono ?_
  rintro e w1 ⟨rfl, hb1⟩
  by_cases h0 : Rn.mosR m l = 0
  · have HOK := hide (Rn.mosR_ok h0)
    have HR1 : Hid (RR = if fuel < 1 ∨ 10000 < fuel then Rn.bad 1 else match Rn.fnd l mod fn with
      | none => Rn.bad 4
      | some (a, k) => Rn.out (Rn.mkTo store l l.length).1 (Rn.enter (Rn.M (Rn.mkTo store l l.length).1 l g) l a k args ⟨fuel.toNat, (Rn.mkTo store l l.length).2, []⟩)) := hide (by rw [HR.out, Rn.run, if_neg (by rw [h0]; simp)]; rfl)
    rw [h0]
    have HB := hide (up HB0.out hb1)
    have HW := hide ((hb1.block _ (block_lt HW0.out)).trans HW0.out)
    clear hb1 h0
    by_cases hf : fuel < 1 ∨ 10000 < fuel
    · rw [if_pos hf] at HR1
      have r0 := (block_at HW.out 0).trans rfl
      have r1 := (block_at HW.out 1).trans rfl
      have r2 := (block_at HW.out 2).trans rfl
      have r3 := (block_at HW.out 3).trans rfl
      have z0 := block_free HW.out 0
      have z1 := block_free HW.out 1
      have z2 := block_free HW.out 2
      have z3 := block_free HW.out 3
      have hcut : (decide (fuel < 1) = true) ∨ (decide (fuel < 1) = false ∧ decide (fuel > 10000) = true) := by
        rcases hf with h | h
        · exact Or.inl (by simpa using h)
        · exact Or.inr ⟨by simp; omega, by simpa using h⟩
      rcases hcut with d1 | ⟨d1, d2⟩
      all_goals
        go_wp2_with fail
        obtain ⟨Wf, hWf⟩ : ∃ Wf, Wf = ((((w1.setCell ⟨w.heap.size, 0, none⟩ (.int .i64 0)).setCell ⟨w.heap.size, 1, none⟩ (.slice none 0 0)).setCell ⟨w.heap.size, 2, none⟩ (.slice none 0 0)).setCell ⟨w.heap.size, 3, none⟩ (.slice none 0 0)) := ⟨_, rfl⟩
        have i4 := set4 HW.out (.int .i64 0) (.slice none 0 0) (.slice none 0 0) (.slice none 0 0)
        have HBF : Hid (Below w.heap.size w Wf) := hide (by rw [hWf]; exact (((HB.out.setCell (by simp) _).setCell (by simp) _).setCell (by simp) _).setCell (by simp) _)
        rw [← hWf] at i4 ⊢
        have f0 := (block_at i4 0).trans rfl
        have f1 := (block_at i4 1).trans rfl
        have f2 := (block_at i4 2).trans rfl
        have f3 := (block_at i4 3).trans rfl
        clear i4
        refine bodyPost_ret (v := .tuple #[.agg #[.int .i64 0, .slice none 0 0, .slice none 0 0, .slice none 0 0], .int .i64 1]) (by simp [results, Tryz.results12, go_sem, f0, f1, f2, f3]) rfl ?_
        exact ⟨_, _, _, by rw [HR1.out]; rfl, hide ⟨by rw [HR1.out]; exact OutAt.bad _ _, HBF.out⟩⟩
    · rw [if_neg hf] at HR1
      have d1 : decide (fuel < 1) = false := by simp; omega
      have d2 : decide (fuel > 10000) = false := by simp; omega
      obtain ⟨fu, hfu⟩ : ∃ n : Nat, fuel = n := ⟨fuel.toNat, by omega⟩
      subst hfu
      have hfu : fu ≤ 10000 := by omega
      rw [Int.toNat_natCast] at HR1
      go_wp2_with fail
      refine (find_any m w1 _ l mod fn (HL.out.below HB.out)).mono ?_
      rintro e w2 ⟨a, k, rfl, hF⟩
      have HF := hide hF.out.1
      have HB2 := hide (up HB.out hF.out.2)
      have HW2 := hide ((hF.out.2.block _ (block_lt HW.out)).trans HW.out)
      clear hF HB HW d1 d2 hf
      have HB := HB2
      have HW := HW2
      clear HB2 HW2
      cases hk : Rn.fnd l mod fn with
      | none =>
        rw [hk] at HR1
        simp only at HR1
        simp only [Option.isSome_none]
        have r0 := (block_at HW.out 0).trans rfl
        have r1 := (block_at HW.out 1).trans rfl
        have r2 := (block_at HW.out 2).trans rfl
        have r3 := (block_at HW.out 3).trans rfl
        have z0 := block_free HW.out 0
        have z1 := block_free HW.out 1
        have z2 := block_free HW.out 2
        have z3 := block_free HW.out 3
        go_wp2_with fail
        obtain ⟨Wf, hWf⟩ : ∃ Wf, Wf = ((((w2.setCell ⟨w.heap.size, 0, none⟩ (.int .i64 0)).setCell ⟨w.heap.size, 1, none⟩ (.slice none 0 0)).setCell ⟨w.heap.size, 2, none⟩ (.slice none 0 0)).setCell ⟨w.heap.size, 3, none⟩ (.slice none 0 0)) := ⟨_, rfl⟩
        have i4 := set4 HW.out (.int .i64 0) (.slice none 0 0) (.slice none 0 0) (.slice none 0 0)
        have HBF : Hid (Below w.heap.size w Wf) := hide (by rw [hWf]; exact (((HB.out.setCell (by simp) _).setCell (by simp) _).setCell (by simp) _).setCell (by simp) _)
        rw [← hWf] at i4 ⊢
        have f0 := (block_at i4 0).trans rfl
        have f1 := (block_at i4 1).trans rfl
        have f2 := (block_at i4 2).trans rfl
        have f3 := (block_at i4 3).trans rfl
        clear i4
        refine bodyPost_ret (v := .tuple #[.agg #[.int .i64 0, .slice none 0 0, .slice none 0 0, .slice none 0 0], .int .i64 4]) (by simp [results, Tryz.results12, go_sem, f0, f1, f2, f3]) rfl ?_
        exact ⟨_, _, _, by rw [HR1.out]; rfl, hide ⟨by rw [HR1.out]; exact OutAt.bad _ _, HBF.out⟩⟩
      | some p =>
        obtain ⟨a', k'⟩ := p
        rw [hk] at HR1
        simp only at HR1
        simp only [Option.isSome_some]
        obtain ⟨rfl, rfl⟩ := HF.out a' k' hk
        obtain ⟨y, fn', hy, hfn⟩ := Rn.fnd_some hk
        have HY := hide (And.intro hy hfn)
        clear hk HF hy hfn
        go_wp2_with fail
        refine (newMachine_any m w2 _ _ l store fu (HL.out.below HB.out) (HS.out.below HB.out) hfu HOK.out.1 (fun y hy => (Rn.moE_facts (HOK.out.2 y hy)).1)).mono ?_
        rintro e w3 ⟨rfl, hMk⟩
        obtain ⟨c, hcn, hcp, hcl, hcm, hmk, hb3⟩ := hMk.out
        have HMK := hide hmk
        have HB3 := hide hb3
        have HCN := hide hcn
        have HN8 : Hid (∀ z ∈ (Rn.mkTo store l l.length).1, z.1.size ≤ 8 ∧ z.2.size ≤ 8) := hide (fun z hz => Rn.mkTo_small HOK.out.2 hz)
        obtain ⟨st, hst⟩ : ∃ st, st = Rn.mkTo store l l.length := ⟨_, rfl⟩
        rw [← hst] at HMK HN8 HR1
        rw [show w2.heap.size + 1 = c.p from hcp.symm]
        have HEN := hide (enter_all w2 c st.1 l m (by rw [hcl]; exact ModsOk.below ⟨HOK.out.2, HCAP.out⟩ HL.out HB.out) w3 ⟨fu, st.2, []⟩ a' k' _ args (by rw [hcn]; exact hb3) hcn (by rw [hcl]; exact HL.out.below HB.out) HMK.out.ma y fn' HY.out.1 HY.out.2 ((HA.out.below HB.out).below hb3) HAI.out g (by
          have := HG.out
          have h2 : fu * (m + 2) ≤ 10000 * (m + 2) := Nat.mul_le_mul_right _ hfu
          show fu * (m + 2) + m ≤ g
          omega))
        obtain ⟨E, hE⟩ : ∃ E, E = Rn.enter (Rn.M st.1 l g) l a' k' args ⟨fu, st.2, []⟩ := ⟨_, rfl⟩
        have HPR : Hid (E.2.2.pr.length ≤ 1048576) := hide (by
          have h1 := Rn.enter_mea (Rn.M_tot st.1 l g) l a' k' args ⟨fu, st.2, []⟩
          rw [← hE] at h1
          simp only [List.length_nil] at h1
          omega)
        rw [← hE] at HEN HR1
        have HW3 := hide ((hb3.block _ (block_lt HW.out)).trans HW.out)
        have hcB : w.heap.size < c.n := by rw [hcn]; exact block_lt HW.out
        clear hMk hcn hcp hcl hcm hmk hb3 hst hE
        go_wp2_with fail
        refine HEN.out.mono ?_
        rintro e w4 ⟨rfl, hM4⟩
        have HM4 := hide hM4.out.1
        have HV4 := hide (HMK.out.vv.kp hM4.out.2.1 HMK.out.ma (by decide) (by decide) (by decide))
        have HW4 := hide ((hM4.out.2.1.below.block _ hcB).trans HW3.out)
        have HB4 : Hid (Below w.heap.size w w4) := hide (HB.out.trans ((HB3.out.trans (by rw [← HCN.out]; exact hM4.out.2.1.below)).mono (by have := HCN.out; omega)))
        clear hM4 HEN HW3 HB HW
        have HB := HB4
        have HW := HW4
        clear HB4 HW4
        by_cases he : E.2.1 = 0
        · rw [he]
          unfold Rn.out at HR1
          rw [if_pos he] at HR1
          have HSM : Hid (st.1.length ≤ 1048576) := hide HMK.out.small
          have HOC := hide (outcome_any w4 c st.1 E.2.2 E.1 HM4.out HV4.out HN8.out HSM.out HPR.out)
          have HRK : Hid (ResOk RR) := hide (by
            rw [HR1.out]
            refine ⟨fun x hx => ?_, ⟨?_, ?_, ?_⟩, fun t ht => ?_⟩
            · simp only at hx
              unfold Rn.sto at hx
              obtain ⟨⟨z, v⟩, hz, rfl⟩ := List.mem_map.1 hx
              exact HM4.out.val v (List.of_mem_zip hz).2
            · simp only
              unfold Rn.sto
              rw [List.length_map, List.length_zip]
              have := HSM.out
              omega
            · have := HPR.out
              simp only
              omega
            · simp only
              have h1 := Rn.cptS_len (Rn.srtS (Rn.did st.1 E.2.2.vs E.2.2.pr))
              rw [Rn.srtS_len] at h1
              have h2 : (Rn.did st.1 E.2.2.vs E.2.2.pr).length ≤ 2 * (st.1.zip E.2.2.vs).length + E.2.2.pr.length := by
                unfold Rn.did
                rw [List.length_append, List.length_map]
                exact Nat.add_le_add_right (Rn.didZ_len _) _
              rw [List.length_zip] at h2
              have := HPR.out
              have := HSM.out
              omega
            · simp only at ht
              rw [Rn.cptS_mem, Rn.srtS_mem] at ht
              exact Nat.le_trans (did_small HN8.out HM4.out.prs ht) (by decide))
          go_wp2_with fail
          refine HOC.out.mono ?_
          rintro e w5 ⟨v1, v2, v3, rfl, hO⟩
          have HO5 := hide hO.out.1
          have HB5 := hide (HB.out.trans (hO.out.2.mono (by have := HB.out.size; omega)))
          have HW5 := hide ((hO.out.2.block _ (block_lt HW.out)).trans HW.out)
          obtain ⟨x1, y1, rfl⟩ := HO5.out.st.form
          obtain ⟨x2, y2, rfl⟩ := HO5.out.pr.form
          obtain ⟨x3, n3, y3, rfl⟩ : ∃ a n c, v3 = .slice a n c := by
            rcases HO5.out.di with ⟨_, h⟩ | ⟨g', c', h, _⟩
            · exact ⟨_, _, _, h⟩
            · exact ⟨_, _, _, h⟩
          obtain ⟨n1, hn1⟩ : ∃ n, n = (Rn.sto st.1 E.2.2.vs).length := ⟨_, rfl⟩
          obtain ⟨n2, hn2⟩ : ∃ n, n = E.2.2.pr.length := ⟨_, rfl⟩
          rw [← hn1, ← hn2] at HO5 ⊢
          rw [← HR1.out] at HO5
          clear hO HB HW HOC hn1 hn2
          have HB := HB5
          have HW := HW5
          clear HB5 HW5
          have r0 := (block_at HW.out 0).trans rfl
          have r1 := (block_at HW.out 1).trans rfl
          have r2 := (block_at HW.out 2).trans rfl
          have r3 := (block_at HW.out 3).trans rfl
          have z0 := block_free HW.out 0
          have z1 := block_free HW.out 1
          have z2 := block_free HW.out 2
          have z3 := block_free HW.out 3
          go_wp2_with fail
          obtain ⟨Wf, hWf⟩ : ∃ Wf, Wf = ((((w5.setCell ⟨w.heap.size, 0, none⟩ (.int .i64 E.1)).setCell ⟨w.heap.size, 1, none⟩ (.slice x1 n1 y1)).setCell ⟨w.heap.size, 2, none⟩ (.slice x2 n2 y2)).setCell ⟨w.heap.size, 3, none⟩ (.slice x3 n3 y3)) := ⟨_, rfl⟩
          have i4 := set4 HW.out (.int .i64 E.1) (.slice x1 n1 y1) (.slice x2 n2 y2) (.slice x3 n3 y3)
          have HBF : Hid (Below w.heap.size w Wf) := hide (by rw [hWf]; exact (((HB.out.setCell (by simp) _).setCell (by simp) _).setCell (by simp) _).setCell (by simp) _)
          have HOF : Hid (OcAt Wf c.n RR (.slice x1 n1 y1) (.slice x2 n2 y2) (.slice x3 n3 y3)) := hide (by rw [hWf]; exact (((HO5.out.set hcB 0 _).set hcB 1 _).set hcB 2 _).set hcB 3 _)
          rw [← hWf] at i4 ⊢
          have f0 := (block_at i4 0).trans rfl
          have f1 := (block_at i4 1).trans rfl
          have f2 := (block_at i4 2).trans rfl
          have f3 := (block_at i4 3).trans rfl
          clear i4
          refine bodyPost_ret (v := .tuple #[.agg #[.int .i64 E.1, .slice x1 n1 y1, .slice x2 n2 y2, .slice x3 n3 y3], .int .i64 0]) (by simp [results, Tryz.results12, go_sem, f0, f1, f2, f3]) rfl ?_
          exact ⟨_, _, _, by rw [HR1.out], hide ⟨HOF.out.out HRK.out, HBF.out⟩⟩
        · have he' := bne_zero_true he
          unfold Rn.out at HR1
          rw [if_neg he] at HR1
          obtain ⟨ee, hee⟩ : ∃ z, z = E.2.1 := ⟨_, rfl⟩
          rw [← hee] at HR1 he' ⊢
          clear hee he
          have r0 := (block_at HW.out 0).trans rfl
          have r1 := (block_at HW.out 1).trans rfl
          have r2 := (block_at HW.out 2).trans rfl
          have r3 := (block_at HW.out 3).trans rfl
          have z0 := block_free HW.out 0
          have z1 := block_free HW.out 1
          have z2 := block_free HW.out 2
          have z3 := block_free HW.out 3
          go_wp2_with fail
          obtain ⟨Wf, hWf⟩ : ∃ Wf, Wf = ((((w4.setCell ⟨w.heap.size, 0, none⟩ (.int .i64 0)).setCell ⟨w.heap.size, 1, none⟩ (.slice none 0 0)).setCell ⟨w.heap.size, 2, none⟩ (.slice none 0 0)).setCell ⟨w.heap.size, 3, none⟩ (.slice none 0 0)) := ⟨_, rfl⟩
          have i4 := set4 HW.out (.int .i64 0) (.slice none 0 0) (.slice none 0 0) (.slice none 0 0)
          have HBF : Hid (Below w.heap.size w Wf) := hide (by rw [hWf]; exact (((HB.out.setCell (by simp) _).setCell (by simp) _).setCell (by simp) _).setCell (by simp) _)
          rw [← hWf] at i4 ⊢
          have f0 := (block_at i4 0).trans rfl
          have f1 := (block_at i4 1).trans rfl
          have f2 := (block_at i4 2).trans rfl
          have f3 := (block_at i4 3).trans rfl
          clear i4
          refine bodyPost_ret (v := .tuple #[.agg #[.int .i64 0, .slice none 0 0, .slice none 0 0, .slice none 0 0], .int .i64 ee]) (by simp [results, Tryz.results12, go_sem, f0, f1, f2, f3]) rfl ?_
          exact ⟨_, _, _, by rw [HR1.out]; rfl, hide ⟨by rw [HR1.out]; exact OutAt.bad _ _, HBF.out⟩⟩
  · have HR1 : Hid (RR = Rn.bad (Rn.mosR m l)) := hide (by rw [HR.out, Rn.run, if_pos h0])
    have h0' := bne_zero_true h0
    have HB := hide (up HB0.out hb1)
    have HW := hide ((hb1.block _ (block_lt HW0.out)).trans HW0.out)
    obtain ⟨ee, hee⟩ : ∃ z, z = Rn.mosR m l := ⟨_, rfl⟩
    rw [← hee] at HR1 h0' ⊢
    clear hb1 h0 hee
    have r0 := (block_at HW.out 0).trans rfl
    have r1 := (block_at HW.out 1).trans rfl
    have r2 := (block_at HW.out 2).trans rfl
    have r3 := (block_at HW.out 3).trans rfl
    have z0 := block_free HW.out 0
    have z1 := block_free HW.out 1
    have z2 := block_free HW.out 2
    have z3 := block_free HW.out 3
    go_wp2_with fail
    obtain ⟨Wf, hWf⟩ : ∃ Wf, Wf = ((((w1.setCell ⟨w.heap.size, 0, none⟩ (.int .i64 0)).setCell ⟨w.heap.size, 1, none⟩ (.slice none 0 0)).setCell ⟨w.heap.size, 2, none⟩ (.slice none 0 0)).setCell ⟨w.heap.size, 3, none⟩ (.slice none 0 0)) := ⟨_, rfl⟩
    have i4 := set4 HW.out (.int .i64 0) (.slice none 0 0) (.slice none 0 0) (.slice none 0 0)
    have HBF : Hid (Below w.heap.size w Wf) := hide (by rw [hWf]; exact (((HB.out.setCell (by simp) _).setCell (by simp) _).setCell (by simp) _).setCell (by simp) _)
    rw [← hWf] at i4 ⊢
    have f0 := (block_at i4 0).trans rfl
    have f1 := (block_at i4 1).trans rfl
    have f2 := (block_at i4 2).trans rfl
    have f3 := (block_at i4 3).trans rfl
    clear i4
    refine bodyPost_ret (v := .tuple #[.agg #[.int .i64 0, .slice none 0 0, .slice none 0 0, .slice none 0 0], .int .i64 ee]) (by simp [results, Tryz.results12, go_sem, f0, f1, f2, f3]) rfl ?_
    exact ⟨_, _, _, by rw [HR1.out]; rfl, hide ⟨by rw [HR1.out]; exact OutAt.bad _ _, HBF.out⟩⟩

end Go.Proofs.YtbncnkfogkhoeabGreatDoor

/- The words of a text, as plain data. -/
namespace Go.Proofs.YtbncnkfogkhoeabGreatDoor
open Go.RowKit

namespace Lat
def blankN (n : Nat) : Bool := n == 32 || n == 10
def brackN (n : Nat) : Bool := n == 40 || n == 41
def longN (n : Nat) : Bool := (decide (97 ≤ n) && decide (n ≤ 122)) || (decide (48 ≤ n) && decide (n ≤ 57)) || n == 46 || n == 43 || n == 45 || n == 42 || n == 60 || n == 61
def bt (s : ByteArray) (k : Nat) : Nat := (s.data.toList.getD k 0).toNat
/-- May byte k be? -/
def okAt (s : ByteArray) (k : Nat) : Bool := blankN (bt s k) || brackN (bt s k) || longN (bt s k)
/-- The words among the first k bytes, each by its begin and its end; and may the last grow? -/
def tok (s : ByteArray) : Nat → List (Nat × Nat) × Bool
  | 0 => ([], false)
  | k + 1 =>
    if blankN (bt s k) then ((tok s k).1, false)
    else if brackN (bt s k) then ((tok s k).1 ++ [(k, k + 1)], false)
    else if (tok s k).2 then ((tok s k).1.dropLast ++ [(((tok s k).1.getLastD (0, 0)).1, k + 1)], true)
    else ((tok s k).1 ++ [(k, k + 1)], true)
def ext (s : ByteArray) (p : Nat × Nat) : ByteArray := s.extract p.1 p.2
def badAt (s : ByteArray) : Option Nat := (List.range s.size).find? fun k => !okAt s k
/-- What Words answers: the words, where they begin, the number of the first byte that may not be, the error. -/
def wds (s : ByteArray) : List ByteArray := if 4096 < s.size then [] else match badAt s with | some _ => [] | none => (tok s s.size).1.map (ext s)
def wats (s : ByteArray) : List Int := if 4096 < s.size then [] else match badAt s with | some _ => [] | none => (tok s s.size).1.map fun p => (p.1 : Int)
def wn (s : ByteArray) : Nat := if 4096 < s.size then 0 else (badAt s).getD 0
def we (s : ByteArray) : Int := if 4096 < s.size then 2 else if (badAt s).isSome then 3 else 0
end Lat

theorem bt_at (s : ByteArray) (k : Nat) (hk : k < s.size) : Lat.bt s k = s[k].toNat := by
  unfold Lat.bt
  have h : k < s.data.toList.length := by simpa using hk
  rw [List.getD, List.getElem?_eq_getElem h]; rfl

/-- An open word ends where the next byte stands. -/
theorem tok_inv (s : ByteArray) : ∀ k, (Lat.tok s k).1.length ≤ k ∧ (∀ p ∈ (Lat.tok s k).1, p.1 < p.2 ∧ p.2 ≤ k) ∧ ((Lat.tok s k).2 = true → ∃ L a, (Lat.tok s k).1 = L ++ [(a, k)])
  | 0 => ⟨Nat.le_refl _, fun p hp => absurd hp (by simp [Lat.tok]), fun h => absurd h (by simp [Lat.tok])⟩
  | k + 1 => by
    obtain ⟨h1, h2, h3⟩ := tok_inv s k
    simp only [Lat.tok]
    split
    · exact ⟨by simp only; omega, fun p hp => ⟨(h2 p hp).1, by have := (h2 p hp).2; omega⟩, fun h => by cases h⟩
    · split
      · refine ⟨by simp only [List.length_append, List.length_singleton]; omega, fun p hp => ?_, fun h => by cases h⟩
        rcases List.mem_append.1 hp with hp | hp
        · exact ⟨(h2 p hp).1, by have := (h2 p hp).2; omega⟩
        · rw [List.mem_singleton] at hp; subst hp; exact ⟨by simp only; omega, Nat.le_refl _⟩
      · split
        · rename_i ho
          obtain ⟨L, a, e⟩ := h3 ho
          have ha := h2 (a, k) (by rw [e]; simp)
          rw [e] at h1 h2 ⊢
          refine ⟨by simp at h1 ⊢; omega, fun p hp => ?_, fun _ => ⟨_, _, rfl⟩⟩
          simp only [List.dropLast_concat, List.getLastD_concat] at hp
          rcases List.mem_append.1 hp with hp | hp
          · have := h2 p (List.mem_append_left _ hp)
            exact ⟨this.1, by omega⟩
          · rw [List.mem_singleton] at hp; subst hp; simp only at ha ⊢; exact ⟨by omega, Nat.le_refl _⟩
        · refine ⟨by simp only [List.length_append, List.length_singleton]; omega, fun p hp => ?_, fun _ => ⟨_, _, rfl⟩⟩
          rcases List.mem_append.1 hp with hp | hp
          · exact ⟨(h2 p hp).1, by have := (h2 p hp).2; omega⟩
          · rw [List.mem_singleton] at hp; subst hp; exact ⟨by simp only; omega, Nat.le_refl _⟩
theorem ext_grow (s : ByteArray) (a k : Nat) (h1 : a ≤ k) : Lat.ext s (a, k) ++ s.extract k (k + 1) = Lat.ext s (a, k + 1) := by
  unfold Lat.ext
  simp only
  rw [ByteArray.extract_append_extract]
  congr 1 <;> omega

end Go.Proofs.YtbncnkfogkhoeabGreatDoor

/- Four results; one cell; numbers of bytes. -/
namespace Go.Proofs.YtbncnkfogkhoeabGreatDoor
open Go.RowKit

theorem results_tmp4 {fn : Func} {t u v x : Tmp} (h : fn.results = #[.tmp t, .tmp u, .tmp v, .tmp x]) (tmps : Array Value) (P : Program) (w : World) :
    (results fn tmps).run P w = .ok (.tuple #[tmps.getD t undef, tmps.getD u undef, tmps.getD v undef, tmps.getD x undef]) w := by
  simp [results, h]
theorem ret4 {v6 v7 : Value} {a b c d : Int} (h : a = b) (h' : c = d) : Ending.returned (.tuple #[v6, v7, .int .i64 a, .int .i64 c]) = .returned (.tuple #[v6, v7, .int .i64 b, .int .i64 d]) := by rw [h, h']
theorem cell_str1 (w : World) (t : ByteArray) : (w.alloc (.cells #[.string t] 9)).cell? ⟨w.heap.size, 0, none⟩ = some (.string t) := by simp [go_sem]
theorem cell_int1 (w : World) (z : Int) : (w.alloc (.cells #[.int .i64 z] 3)).cell? ⟨w.heap.size, 0, none⟩ = some (.int .i64 z) := by simp [go_sem]
theorem nat_eqF {n c : Nat} (h : ¬ n = c) : ((n : Int) == (c : Int)) = false := by rw [nat_beq]; simp [h]
theorem nat_eqT {n c : Nat} (h : n = c) : ((n : Int) == (c : Int)) = true := by rw [nat_beq]; simp [h]

end Go.Proofs.YtbncnkfogkhoeabGreatDoor

/- slices.Equal of lists of strings and of ints, where both are the same. -/
namespace Go.Proofs.YtbncnkfogkhoeabGreatDoor
open Go.RowKit

set_option maxHeartbeats 1000000 in
theorem eqS_same (w : World) (v1 v2 : Value) (l : List ByteArray) (h1 : Strs w v1 l) (h2 : Strs w v2 l) :
    Calls Tryz.prog 15 #[v1, v2] w fun e w' => e = .returned (.bool true) ∧ Below w.heap.size w w' := by
  obtain ⟨a1, b1, o1, c1, rfl, ha1, hl, _, hc1⟩ := h1
  obtain ⟨a2, b2, o2, c2, rfl, ha2, _, _, hc2⟩ := h2
  have HA1 := hide ha1
  have HA2 := hide ha2
  have HC1 := hide hc1
  have HC2 := hide hc2
  clear ha1 ha2 hc1 hc2
  generalize hlen : l.length = len at *
  go_enter Tryz.func15, Tryz.ntmps15
  go_wp2
  go_loopw [13] (fun i wr => ∃ k : Nat, k ≤ len ∧ i = .int .i64 k ∧ Below w.heap.size w wr) (fun i _ => len - (intOf i).toNat)
  case atStart => exact ⟨0, Nat.zero_le _, rfl, Below.refl _ _⟩
  case round =>
    obtain ⟨k, hk, rfl, hnx⟩ := hrel
    by_cases hlt : k < len
    · obtain rfl := HA1.out (by omega)
      obtain rfl := HA2.out (by omega)
      have g1 := cellUp (HC1.out k hlt) hnx
      have g2 := cellUp (HC2.out k hlt) hnx
      generalize l.getD k ByteArray.empty = t at *
      have HNX := hide hnx
      have i1 : (0 : Int) ≤ (k : Int) := by omega
      have i2 : (k : Int) < (len : Int) := by omega
      clear hnx
      go_wp2_with fail
      go_quiet (fail)
      go_wp2
      go_roundw
      case rel => exact ⟨k + 1, by omega, by go_num, drewBelow HNX.out _⟩
      case measure => simp [intOf]; omega
    · go_wp2
      go_ret
      exact ⟨rfl, hnx⟩

end Go.Proofs.YtbncnkfogkhoeabGreatDoor

/- Words, with a blank between, are the same words: plain mathematics. -/
namespace Go.Proofs.YtbncnkfogkhoeabGreatDoor
open Go.RowKit

namespace Lat
def wstep (st : List (List UInt8) × Bool) (b : UInt8) : List (List UInt8) × Bool :=
  if blankN b.toNat then (st.1, false)
  else if brackN b.toNat then (st.1 ++ [[b]], false)
  else if st.2 then (st.1.dropLast ++ [st.1.getLastD [] ++ [b]], true)
  else (st.1 ++ [[b]], true)
def wfold (l : List UInt8) : List (List UInt8) × Bool := l.foldl wstep ([], false)
def longW (l : List UInt8) : Prop := l ≠ [] ∧ ∀ b ∈ l, blankN b.toNat = false ∧ brackN b.toNat = false ∧ longN b.toNat = true
def wordW (l : List UInt8) : Prop := (∃ b, l = [b] ∧ blankN b.toNat = false ∧ brackN b.toNat = true) ∨ longW l
def okN (n : Nat) : Bool := blankN n || brackN n || longN n
end Lat

theorem ext_list (s : ByteArray) (a b : Nat) : (Lat.ext s (a, b)).data.toList = (s.data.toList.take b).drop a := by
  unfold Lat.ext
  rw [ByteArray.data_extract]
  simp [List.drop_take]

theorem tok_fold (s : ByteArray) : ∀ k, k ≤ s.size → ((Lat.tok s k).1.map fun p => (Lat.ext s p).data.toList) = (Lat.wfold (s.data.toList.take k)).1 ∧ (Lat.tok s k).2 = (Lat.wfold (s.data.toList.take k)).2
  | 0, _ => ⟨rfl, rfl⟩
  | k + 1, hk => by
    obtain ⟨h1, h2⟩ := tok_fold s k (by omega)
    have hkl : k < s.data.toList.length := by rw [size_list]; omega
    have e : Lat.wfold (s.data.toList.take (k + 1)) = Lat.wstep (Lat.wfold (s.data.toList.take k)) s.data.toList[k] := by
      unfold Lat.wfold
      rw [List.take_succ_eq_append_getElem hkl, List.foldl_append]; rfl
    have hb : Lat.bt s k = (s.data.toList[k]).toNat := by
      unfold Lat.bt; rw [List.getD, List.getElem?_eq_getElem hkl]; rfl
    have e1 : (Lat.ext s (k, k + 1)).data.toList = [s.data.toList[k]] := by
      rw [ext_list s, List.take_succ_eq_append_getElem hkl]
      exact List.drop_left' (by rw [List.length_take]; omega)
    rw [e]
    unfold Lat.wstep
    simp only [Lat.tok]
    rw [hb, h2]
    split
    · exact ⟨h1, rfl⟩
    · split
      · refine ⟨?_, rfl⟩
        rw [List.map_append, h1]
        simp only [List.map_cons, List.map_nil, e1]
      · split
        · rename_i ho
          rw [← h2] at ho
          obtain ⟨L, a, eL⟩ := (tok_inv s k).2.2 ho
          have ha := (tok_inv s k).2.1 (a, k) (by rw [eL]; simp)
          refine ⟨?_, rfl⟩
          rw [← h1, eL]
          simp only [List.dropLast_concat, List.getLastD_concat, List.map_append, List.map_cons, List.map_nil]
          congr 2
          rw [← ext_grow s a k (by simp only at ha; omega)]
          rw [ByteArray.data_append, Array.toList_append]
          congr 1
        · refine ⟨?_, rfl⟩
          rw [List.map_append, h1]
          simp only [List.map_cons, List.map_nil, e1]

theorem fold_words : ∀ (l : List UInt8), (∀ b ∈ l, Lat.okN b.toNat = true) → (∀ x ∈ (Lat.wfold l).1, Lat.wordW x) ∧ ((Lat.wfold l).2 = true → ∃ L x, (Lat.wfold l).1 = L ++ [x] ∧ Lat.longW x) := by
  suffices H : ∀ m : List UInt8, (∀ b ∈ m.reverse, Lat.okN b.toNat = true) → (∀ x ∈ (Lat.wfold m.reverse).1, Lat.wordW x) ∧ ((Lat.wfold m.reverse).2 = true → ∃ L x, (Lat.wfold m.reverse).1 = L ++ [x] ∧ Lat.longW x) by
    intro l hl
    have := H l.reverse (by rw [List.reverse_reverse]; exact hl)
    rw [List.reverse_reverse] at this
    exact this
  intro m
  induction m
  case nil => exact fun _ => ⟨fun x hx => absurd hx (by simp [Lat.wfold]), fun h => absurd h (by simp [Lat.wfold])⟩
  rename_i b m ih
  rw [List.reverse_cons]
  intro hok
  generalize m.reverse = l at *
  obtain ⟨h1, h2⟩ := ih (fun c hc => hok c (by simp [hc]))
  have hb := hok b (by simp)
  have e : Lat.wfold (l ++ [b]) = Lat.wstep (Lat.wfold l) b := by unfold Lat.wfold; rw [List.foldl_append]; rfl
  rw [e]
  unfold Lat.wstep
  cases hbl : Lat.blankN b.toNat
  · cases hbr : Lat.brackN b.toNat
    · have hlg : Lat.longN b.toNat = true := by
        unfold Lat.okN at hb
        rw [hbl, hbr] at hb
        simpa using hb
      rw [if_neg (by simp), if_neg (by simp)]
      cases ho : (Lat.wfold l).2
      · rw [if_neg (by simp)]
        have hx : Lat.longW [b] := ⟨by simp, fun c hc => by rw [List.mem_singleton] at hc; subst hc; exact ⟨hbl, hbr, hlg⟩⟩
        refine ⟨fun x hxm => ?_, fun _ => ⟨_, _, rfl, hx⟩⟩
        rcases List.mem_append.1 hxm with hxm | hxm
        · exact h1 x hxm
        · rw [List.mem_singleton] at hxm; subst hxm; exact Or.inr hx
      · rw [if_pos rfl]
        obtain ⟨L, y, eL, hy⟩ := h2 ho
        rw [eL] at h1 ⊢
        simp only [List.dropLast_concat, List.getLastD_concat]
        have hx : Lat.longW (y ++ [b]) := ⟨by simp, fun c hc => by
          rcases List.mem_append.1 hc with hc | hc
          · exact hy.2 c hc
          · rw [List.mem_singleton] at hc; subst hc; exact ⟨hbl, hbr, hlg⟩⟩
        refine ⟨fun x hxm => ?_, fun _ => ⟨_, _, rfl, hx⟩⟩
        rcases List.mem_append.1 hxm with hxm | hxm
        · exact h1 x (List.mem_append_left _ hxm)
        · rw [List.mem_singleton] at hxm; subst hxm; exact Or.inr hx
    · rw [if_neg (by simp), if_pos rfl]
      refine ⟨fun x hxm => ?_, fun h => by cases h⟩
      rcases List.mem_append.1 hxm with hxm | hxm
      · exact h1 x hxm
      · rw [List.mem_singleton] at hxm; subst hxm; exact Or.inl ⟨b, rfl, hbl, hbr⟩
  · rw [if_pos rfl]
    exact ⟨h1, fun h => by cases h⟩

theorem fold_open : ∀ (x : List UInt8) (acc : List (List UInt8)) (y : List UInt8), (∀ b ∈ x, Lat.blankN b.toNat = false ∧ Lat.brackN b.toNat = false) → x.foldl Lat.wstep (acc ++ [y], true) = (acc ++ [y ++ x], true)
  | [], acc, y, _ => by simp
  | b :: x, acc, y, h => by
    obtain ⟨hb1, hb2⟩ := h b (by simp)
    rw [List.foldl_cons]
    have e : Lat.wstep (acc ++ [y], true) b = (acc ++ [y ++ [b]], true) := by
      unfold Lat.wstep
      rw [if_neg (by simp [hb1]), if_neg (by simp [hb2]), if_pos rfl]
      simp
    rw [e, fold_open x acc (y ++ [b]) (fun c hc => h c (by simp [hc]))]
    simp
theorem fold_word (x : List UInt8) (acc : List (List UInt8)) (h : Lat.wordW x) : ∃ o, x.foldl Lat.wstep (acc, false) = (acc ++ [x], o) := by
  rcases h with ⟨b, rfl, hb1, hb2⟩ | ⟨hne, hx⟩
  · refine ⟨false, ?_⟩
    rw [List.foldl_cons, List.foldl_nil]
    unfold Lat.wstep
    rw [if_neg (by simp [hb1]), if_pos hb2]
  · cases x with
    | nil => exact absurd rfl hne
    | cons b x =>
      obtain ⟨hb1, hb2, _⟩ := hx b (by simp)
      refine ⟨true, ?_⟩
      rw [List.foldl_cons]
      have e : Lat.wstep (acc, false) b = (acc ++ [[b]], true) := by
        unfold Lat.wstep
        rw [if_neg (by simp [hb1]), if_neg (by simp [hb2]), if_neg (by simp)]
      rw [e, fold_open x acc [b] (fun c hc => ⟨(hx c (by simp [hc])).1, (hx c (by simp [hc])).2.1⟩)]
      rfl
theorem fold_tail : ∀ (r : List (List UInt8)) (acc : List (List UInt8)) (o : Bool), (∀ x ∈ r, Lat.wordW x) → ((Lib.joinTail [32] r).foldl Lat.wstep (acc, o)).1 = acc ++ r
  | [], acc, o, _ => by simp [Lib.joinTail]
  | x :: r, acc, o, h => by
    have e : Lib.joinTail [32] (x :: r) = 32 :: (x ++ Lib.joinTail [32] r) := by simp [Lib.joinTail]
    rw [e, List.foldl_cons, List.foldl_append]
    have e2 : Lat.wstep (acc, o) 32 = (acc, false) := by
      unfold Lat.wstep; rw [if_pos (by decide)]
    obtain ⟨o', e3⟩ := fold_word x acc (h x (by simp))
    rw [e2, e3, fold_tail r _ _ (fun y hy => h y (by simp [hy]))]
    simp
theorem fold_join (r : List (List UInt8)) (h : ∀ x ∈ r, Lat.wordW x) : (Lat.wfold (Lib.join r [32])).1 = r := by
  unfold Lat.wfold
  cases r with
  | nil => rfl
  | cons x r =>
    rw [Lib.join_cons, List.foldl_append]
    obtain ⟨o', e3⟩ := fold_word x [] (h x (by simp))
    rw [e3, fold_tail r _ _ (fun y hy => h y (by simp [hy]))]
    rfl
theorem word_ok {x : List UInt8} (h : Lat.wordW x) : ∀ b ∈ x, Lat.okN b.toNat = true := by
  intro b hb
  unfold Lat.okN
  rcases h with ⟨c, rfl, _, h2⟩ | ⟨_, hx⟩
  · rw [List.mem_singleton] at hb; subst hb; rw [h2]; simp
  · rw [(hx b hb).2.2]; simp
theorem tail_ok : ∀ (r : List (List UInt8)), (∀ x ∈ r, Lat.wordW x) → ∀ b ∈ Lib.joinTail [32] r, Lat.okN b.toNat = true
  | [], _, b, hb => by simp [Lib.joinTail] at hb
  | x :: r, h, b, hb => by
    have e : Lib.joinTail [32] (x :: r) = 32 :: (x ++ Lib.joinTail [32] r) := by simp [Lib.joinTail]
    rw [e] at hb
    rcases List.mem_cons.1 hb with rfl | hb
    · decide
    · rcases List.mem_append.1 hb with hb | hb
      · exact word_ok (h x (by simp)) b hb
      · exact tail_ok r (fun y hy => h y (by simp [hy])) b hb
theorem join_ok (r : List (List UInt8)) (h : ∀ x ∈ r, Lat.wordW x) : ∀ b ∈ Lib.join r [32], Lat.okN b.toNat = true := by
  cases r with
  | nil => intro b hb; simp [Lib.join_nil] at hb
  | cons x r =>
    intro b hb
    rw [Lib.join_cons] at hb
    rcases List.mem_append.1 hb with hb | hb
    · exact word_ok (h x (by simp)) b hb
    · exact tail_ok r (fun y hy => h y (by simp [hy])) b hb

theorem bad_none {s : ByteArray} : Lat.badAt s = none ↔ ∀ b ∈ s.data.toList, Lat.okN b.toNat = true := by
  constructor
  · intro h b hb
    obtain ⟨k, hk, rfl⟩ := List.mem_iff_getElem.1 hb
    have h1 := List.find?_eq_none.1 h k (List.mem_range.2 (by rw [size_list] at hk; exact hk))
    have h2 : Lat.okAt s k = true := by simpa using h1
    have hbt : Lat.bt s k = (s.data.toList[k]).toNat := by
      unfold Lat.bt; rw [List.getD, List.getElem?_eq_getElem hk]; rfl
    unfold Lat.okAt at h2
    rw [hbt] at h2
    exact h2
  · intro h
    refine Lat.find_none (fun k hk => ?_)
    have hk' : k < s.data.toList.length := by rw [size_list]; exact hk
    have hbt : Lat.bt s k = (s.data.toList[k]).toNat := by
      unfold Lat.bt; rw [List.getD, List.getElem?_eq_getElem hk']; rfl
    have := h s.data.toList[k] (List.getElem_mem hk')
    unfold Lat.okAt
    rw [hbt]
    unfold Lat.okN at this
    rw [this]; rfl

/-- The words of a text, as lists of bytes. -/
theorem wds_fold {s : ByteArray} (h1 : ¬ 4096 < s.size) (h2 : Lat.badAt s = none) : (Lat.wds s).map (·.data.toList) = (Lat.wfold s.data.toList).1 := by
  unfold Lat.wds
  rw [if_neg h1, h2]
  simp only [List.map_map]
  have := (tok_fold s s.size (Nat.le_refl _)).1
  rw [List.take_of_length_le (by rw [size_list]; exact Nat.le_refl _)] at this
  exact this
theorem bytes_inj : ∀ {a b : List ByteArray}, a.map (·.data.toList) = b.map (·.data.toList) → a = b
  | [], [], _ => rfl
  | [], y :: b, h => by simp at h
  | x :: a, [], h => by simp at h
  | x :: a, y :: b, h => by
    simp only [List.map_cons, List.cons.injEq] at h
    obtain ⟨h1, h2⟩ := h
    rw [bytes_inj h2]
    congr 1
    cases x with | mk x => cases y with | mk y => congr 1; exact Array.toList_inj.1 h1
/-- Words, with a blank between, are the same words. -/
theorem words_back {s t : ByteArray} (he : Lat.we s = 0) (ht : t.data.toList = Lib.join ((Lat.wds s).map (·.data.toList)) [32]) (h4 : ¬ 4096 < t.size) : Lat.we t = 0 ∧ Lat.wds t = Lat.wds s := by
  have h1 : ¬ 4096 < s.size := by
    intro h
    unfold Lat.we at he
    rw [if_pos h] at he
    cases he
  have h2 : Lat.badAt s = none := by
    unfold Lat.we at he
    rw [if_neg h1] at he
    cases hb : Lat.badAt s with
    | none => rfl
    | some k => rw [hb] at he; simp at he
  have hf := wds_fold h1 h2
  have hw : ∀ x ∈ (Lat.wds s).map (·.data.toList), Lat.wordW x := by
    rw [hf]
    exact (fold_words _ (bad_none.1 h2)).1
  have hb : Lat.badAt t = none := bad_none.2 (by rw [ht]; exact join_ok _ hw)
  refine ⟨by unfold Lat.we; rw [if_neg h4, hb]; rfl, bytes_inj ?_⟩
  rw [wds_fold h4 hb, ht, fold_join _ hw]

end Go.Proofs.YtbncnkfogkhoeabGreatDoor
