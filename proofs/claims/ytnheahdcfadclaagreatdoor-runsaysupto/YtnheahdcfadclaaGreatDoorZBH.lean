/- Walks over package run: the functions that call each other do what they must, whatever the fuel. -/
import Derived.Test.YtnheahdcfadclaaGreatDoorZBD
import Derived.Test.YtnheahdcfadclaaGreatDoorYE
import Derived.Test.YtnheahdcfadclaaGreatDoorZBG
import Derived.Laws.StructEq
namespace Go.Proofs.YtnheahdcfadclaaGreatDoor
open Go.RowKit Go.Maps

theorem all_ok (W : World) (c : Cfg) (nm : List (ByteArray × ByteArray)) (l : List Mo) (m K : Nat) (hK : m + 2 ≤ K) (hO : ModsOk W m c.vl l) : ∀ g, EvOk W c nm l m K (Rn.M nm l g) g ∧ DoOk W c nm l m K (Rn.M nm l g) g ∧ LpOk W c nm l m K (Rn.M nm l g) g := by
  intro g
  induction g using Nat.strongRecOn with
  | ind g ih =>
    cases g with
    | zero =>
      refine ⟨fun w s q a f om n o mm c0 c1 c2 c3 x _ _ hX _ hg => ?_, fun w s q a f om n o mm vs st _ _ hS _ hg => ?_, fun w s q a f om n o mm vs st _ _ _ _ hg => ?_⟩
      · have : mm = 0 := by omega
        subst this
        exact absurd hX (fun h => h)
      · have : mm = 0 := by omega
        subst this
        obtain ⟨_, _, _, _, _, _, _, _, hX, _⟩ := hS
        exact absurd hX (fun h => h)
      · omega
    | succ g =>
      obtain ⟨h1, h2, h3⟩ := ih g (Nat.lt_succ_self g)
      refine ⟨eval_step W c nm l m K _ g (by omega) (Rn.M_le nm l g) h1 h2 hO, do_step W c nm l m K _ g (by omega) (Rn.M_le nm l g) (Rn.M_tot nm l g) h1 h3 h2, loop_step W c nm l m K g (by omega) (fun g' hg => (ih g' (by omega)).1) (fun g' hg => (ih g' (by omega)).2.1)⟩

/-- A function of a module is run, with whatever fuel there is. -/
theorem enter_all (W : World) (c : Cfg) (nm : List (ByteArray × ByteArray)) (l : List Mo) (m : Nat) (hO : ModsOk W m c.vl l) (w : World) (s : Rn.Sta) (a k : Nat) (va : Value) (args : List Int)
    (hb : Below c.n W w) (hn : c.n = W.heap.size) (hL : MosAt W m c.vl l) (hM : MaAt w c nm s) (y : Mo) (fu : Fu) (hy : l[a]? = some y) (hf : y.funs[k]? = some fu) (hA : Ints w va args) (hAI : ∀ x ∈ args, I64 x) (g : Nat) (hg : s.fuel * (m + 2) + m ≤ g) :
    Calls Tryz.prog 64 #[.pointer (some ⟨c.p, 0, none⟩), .int .i64 a, .int .i64 k, va] w fun e w' => e = .returned (.tuple #[.int .i64 (Rn.enter (Rn.M nm l g) l a k args s).1, .int .i64 (Rn.enter (Rn.M nm l g) l a k args s).2.1]) ∧ Hid (MaAt w' c nm (Rn.enter (Rn.M nm l g) l a k args s).2.2 ∧ Kp c none w w' ∧ I64 (Rn.enter (Rn.M nm l g) l a k args s).1) := by
  obtain ⟨h1, h2, _⟩ := all_ok W c nm l m (m + 2) (Nat.le_refl _) hO g
  exact enter_any W c nm l m (m + 2) _ g h1 h2 w s a k va args hb hn hL hM y fu hy hf (fusE_ok (moE_len (hO.ok y (List.mem_of_getElem? hy))).2 fu (List.mem_of_getElem? hf)) hA hAI hg

end Go.Proofs.YtnheahdcfadclaaGreatDoor

/- Walks over package run: Run. -/
namespace Go.Proofs.YtnheahdcfadclaaGreatDoor
open Go.RowKit Go.Maps

/-- Capacities that stay. -/
theorem caps_below {w W : World} {m : Nat} {vl : Value} {l : List Mo} (h : ∀ (b off cap : Nat), vl = .slice (some ⟨b, off, none⟩) l.length cap → ∀ (i : Nat) (y : Mo) (vf : Value), l[i]? = some y → w.cell? ⟨b, off + i * 4 + 3, none⟩ = some vf → CapOK vf) (hM : MosAt w m vl l) (hb : Below w.heap.size w W) :
    ∀ (b off cap : Nat), vl = .slice (some ⟨b, off, none⟩) l.length cap → ∀ (i : Nat) (y : Mo) (vf : Value), l[i]? = some y → W.cell? ⟨b, off + i * 4 + 3, none⟩ = some vf → CapOK vf := fun b off cap e i y vf hy k3 => by
  obtain ⟨a', b', off', cap', e', ha', _, hel⟩ := hM
  have e0 := e
  rw [e'] at e0
  injection e0 with e1 e2 e3
  have hlt : 0 < l.length := by have := (List.getElem?_eq_some_iff.1 hy).1; omega
  rw [ha' hlt] at e1
  injection e1 with e1
  injection e1 with e4 e5
  subst e4 e5
  obtain ⟨vi, vv, vf', g0, g1, g2, g3, hm⟩ := hel i y hy
  have h3 := cellUp g3 hb
  rw [k3] at h3
  injection h3 with h3
  subst h3
  exact h _ _ _ e i y _ hy g3
theorem ModsOk.below {w W : World} {m : Nat} {vl : Value} {l : List Mo} (h : ModsOk w m vl l) (hM : MosAt w m vl l) (hb : Below w.heap.size w W) : ModsOk W m vl l := ⟨h.ok, caps_below h.cap hM hb⟩

set_option maxHeartbeats 8000000 in
set_option maxRecDepth 100000 in
theorem run_any (m : Nat) (w : World) (vl va vs : Value) (l : List Mo) (mod fn : ByteArray) (args : List Int) (store : List Ce) (fuel : Int) (hL : MosAt w m vl l) (hks : ∀ y ∈ l, moW m y ≤ 1048576)
    (hcap : ∀ (b off cap : Nat), vl = .slice (some ⟨b, off, none⟩) l.length cap → ∀ (i : Nat) (y : Mo) (vf : Value), l[i]? = some y → w.cell? ⟨b, off + i * 4 + 3, none⟩ = some vf → CapOK vf)
    (hA : Ints w va args) (hAI : ∀ x ∈ args, I64 x) (hS : CesAt w vs store) (ht : Tab w) (g : Nat) (hg : 10000 * (m + 2) + m ≤ g) :
    Calls Tryz.prog 16 #[vl, .string mod, .string fn, va, vs, .int .i64 fuel] w fun e w' => ∃ v1 v2 v3, e = .returned (.tuple #[.agg #[.int .i64 (Rn.run g m l mod fn args store fuel).res, v1, v2, v3], .int .i64 (Rn.run g m l mod fn args store fuel).err]) ∧ Hid (OutAt w' (Rn.run g m l mod fn args store fuel) v1 v2 v3 ∧ Below w.heap.size w w') := by
  obtain ⟨RR, hRR⟩ : ∃ r, r = Rn.run g m l mod fn args store fuel := ⟨_, rfl⟩
  rw [← hRR]
  have HR := hide hRR
  clear hRR
  have HL := hide hL
  have HKS := hide hks
  have HCAP := hide hcap
  have HA := hide hA
  have HAI := hide hAI
  have HS := hide hS
  have HT := hide ht
  have HG := hide hg
  have HB0 := hide (boxBelow w (.cells #[.int .i64 0, .slice none 0 0, .slice none 0 0, .slice none 0 0] 51))
  have HW0 := hide (block_new w (.cells #[.int .i64 0, .slice none 0 0, .slice none 0 0, .slice none 0 0] 51))
  obtain ⟨W0, hW0⟩ : ∃ W, W = w.alloc (.cells #[.int .i64 0, .slice none 0 0, .slice none 0 0, .slice none 0 0] 51) := ⟨_, rfl⟩
  have HW0E := hide hW0
  rw [← hW0] at HB0 HW0
  obtain ⟨al, bl, ol, cl, hvl, _⟩ := hL
  obtain ⟨aa, ba, oa, ca, hva, _⟩ := hA
  obtain ⟨as', bs, os, cs, hvs, _⟩ := hS
  generalize l.length = nl at hvl
  generalize args.length = na at hva
  generalize store.length = nst at hvs
  have HVL := hide hvl
  subst hvl hva hvs
  clear hW0 hks hcap hAI ht hg
  go_enter Tryz.func16, Tryz.ntmps16
  go_wp2_with fail
  rw [← HW0E.out]
  refine (checkModules_any m W0 _ l (HL.out.below HB0.out) HKS.out (HT.out.below HB0.out)).mono ?_
  rintro e w1 ⟨rfl, hb1⟩
  by_cases h0 : Rn.mosR m l = 0
  · have HOK := hide (Rn.mosR_ok h0)
    have HR1 : Hid (RR = if fuel < 1 ∨ 10000 < fuel then Rn.bad 1 else match Rn.fnd l mod fn with
      | none => Rn.bad 4
      | some (a, k) => Rn.out (Rn.mkTo store l l.length).1 (Rn.enter (Rn.M (Rn.mkTo store l l.length).1 l g) l a k args ⟨fuel.toNat, (Rn.mkTo store l l.length).2, []⟩)) := hide (by rw [HR.out, Rn.run, if_neg (by rw [h0]; simp)]; rfl)
    rw [h0]
    have HB := hide (up HB0.out hb1)
    have HW := hide ((hb1.block _ (block_lt HW0.out)).trans HW0.out)
    clear hb1 h0
    by_cases hf : fuel < 1 ∨ 10000 < fuel
    · rw [if_pos hf] at HR1
      have r0 := (block_at HW.out 0).trans rfl
      have r1 := (block_at HW.out 1).trans rfl
      have r2 := (block_at HW.out 2).trans rfl
      have r3 := (block_at HW.out 3).trans rfl
      have z0 := block_free HW.out 0
      have z1 := block_free HW.out 1
      have z2 := block_free HW.out 2
      have z3 := block_free HW.out 3
      have hcut : (decide (fuel < 1) = true) ∨ (decide (fuel < 1) = false ∧ decide (fuel > 10000) = true) := by
        rcases hf with h | h
        · exact Or.inl (by simpa using h)
        · exact Or.inr ⟨by simp; omega, by simpa using h⟩
      rcases hcut with d1 | ⟨d1, d2⟩
      all_goals
        go_wp2_with fail
        obtain ⟨Wf, hWf⟩ : ∃ Wf, Wf = ((((w1.setCell ⟨w.heap.size, 0, none⟩ (.int .i64 0)).setCell ⟨w.heap.size, 1, none⟩ (.slice none 0 0)).setCell ⟨w.heap.size, 2, none⟩ (.slice none 0 0)).setCell ⟨w.heap.size, 3, none⟩ (.slice none 0 0)) := ⟨_, rfl⟩
        have i4 := set4 HW.out (.int .i64 0) (.slice none 0 0) (.slice none 0 0) (.slice none 0 0)
        have HBF : Hid (Below w.heap.size w Wf) := hide (by rw [hWf]; exact (((HB.out.setCell (by simp) _).setCell (by simp) _).setCell (by simp) _).setCell (by simp) _)
        rw [← hWf] at i4 ⊢
        have f0 := (block_at i4 0).trans rfl
        have f1 := (block_at i4 1).trans rfl
        have f2 := (block_at i4 2).trans rfl
        have f3 := (block_at i4 3).trans rfl
        clear i4
        refine bodyPost_ret (v := .tuple #[.agg #[.int .i64 0, .slice none 0 0, .slice none 0 0, .slice none 0 0], .int .i64 1]) (by simp [results, Tryz.results16, go_sem, f0, f1, f2, f3]) rfl ?_
        exact ⟨_, _, _, by rw [HR1.out]; rfl, hide ⟨by rw [HR1.out]; exact OutAt.bad _ _, HBF.out⟩⟩
    · rw [if_neg hf] at HR1
      have d1 : decide (fuel < 1) = false := by simp; omega
      have d2 : decide (fuel > 10000) = false := by simp; omega
      obtain ⟨fu, hfu⟩ : ∃ n : Nat, fuel = n := ⟨fuel.toNat, by omega⟩
      subst hfu
      have hfu : fu ≤ 10000 := by omega
      rw [Int.toNat_natCast] at HR1
      go_wp2_with fail
      refine (find_any m w1 _ l mod fn (HL.out.below HB.out)).mono ?_
      rintro e w2 ⟨a, k, rfl, hF⟩
      have HF := hide hF.out.1
      have HB2 := hide (up HB.out hF.out.2)
      have HW2 := hide ((hF.out.2.block _ (block_lt HW.out)).trans HW.out)
      clear hF HB HW d1 d2 hf
      have HB := HB2
      have HW := HW2
      clear HB2 HW2
      cases hk : Rn.fnd l mod fn with
      | none =>
        rw [hk] at HR1
        simp only at HR1
        simp only [Option.isSome_none]
        have r0 := (block_at HW.out 0).trans rfl
        have r1 := (block_at HW.out 1).trans rfl
        have r2 := (block_at HW.out 2).trans rfl
        have r3 := (block_at HW.out 3).trans rfl
        have z0 := block_free HW.out 0
        have z1 := block_free HW.out 1
        have z2 := block_free HW.out 2
        have z3 := block_free HW.out 3
        go_wp2_with fail
        obtain ⟨Wf, hWf⟩ : ∃ Wf, Wf = ((((w2.setCell ⟨w.heap.size, 0, none⟩ (.int .i64 0)).setCell ⟨w.heap.size, 1, none⟩ (.slice none 0 0)).setCell ⟨w.heap.size, 2, none⟩ (.slice none 0 0)).setCell ⟨w.heap.size, 3, none⟩ (.slice none 0 0)) := ⟨_, rfl⟩
        have i4 := set4 HW.out (.int .i64 0) (.slice none 0 0) (.slice none 0 0) (.slice none 0 0)
        have HBF : Hid (Below w.heap.size w Wf) := hide (by rw [hWf]; exact (((HB.out.setCell (by simp) _).setCell (by simp) _).setCell (by simp) _).setCell (by simp) _)
        rw [← hWf] at i4 ⊢
        have f0 := (block_at i4 0).trans rfl
        have f1 := (block_at i4 1).trans rfl
        have f2 := (block_at i4 2).trans rfl
        have f3 := (block_at i4 3).trans rfl
        clear i4
        refine bodyPost_ret (v := .tuple #[.agg #[.int .i64 0, .slice none 0 0, .slice none 0 0, .slice none 0 0], .int .i64 4]) (by simp [results, Tryz.results16, go_sem, f0, f1, f2, f3]) rfl ?_
        exact ⟨_, _, _, by rw [HR1.out]; rfl, hide ⟨by rw [HR1.out]; exact OutAt.bad _ _, HBF.out⟩⟩
      | some p =>
        obtain ⟨a', k'⟩ := p
        rw [hk] at HR1
        simp only at HR1
        simp only [Option.isSome_some]
        obtain ⟨rfl, rfl⟩ := HF.out a' k' hk
        obtain ⟨y, fn', hy, hfn⟩ := Rn.fnd_some hk
        have HY := hide (And.intro hy hfn)
        clear hk HF hy hfn
        go_wp2_with fail
        refine (newMachine_any m w2 _ _ l store fu (HL.out.below HB.out) (HS.out.below HB.out) hfu HOK.out.1 (fun y hy => (Rn.moE_facts (HOK.out.2 y hy)).1)).mono ?_
        rintro e w3 ⟨rfl, hMk⟩
        obtain ⟨c, hcn, hcp, hcl, hcm, hmk, hb3⟩ := hMk.out
        have HMK := hide hmk
        have HB3 := hide hb3
        have HCN := hide hcn
        have HN8 : Hid (∀ z ∈ (Rn.mkTo store l l.length).1, z.1.size ≤ 8 ∧ z.2.size ≤ 8) := hide (fun z hz => Rn.mkTo_small HOK.out.2 hz)
        obtain ⟨st, hst⟩ : ∃ st, st = Rn.mkTo store l l.length := ⟨_, rfl⟩
        rw [← hst] at HMK HN8 HR1
        rw [show w2.heap.size + 1 = c.p from hcp.symm]
        have HEN := hide (enter_all w2 c st.1 l m (by rw [hcl]; exact ModsOk.below ⟨HOK.out.2, HCAP.out⟩ HL.out HB.out) w3 ⟨fu, st.2, []⟩ a' k' _ args (by rw [hcn]; exact hb3) hcn (by rw [hcl]; exact HL.out.below HB.out) HMK.out.ma y fn' HY.out.1 HY.out.2 ((HA.out.below HB.out).below hb3) HAI.out g (by
          have := HG.out
          have h2 : fu * (m + 2) ≤ 10000 * (m + 2) := Nat.mul_le_mul_right _ hfu
          show fu * (m + 2) + m ≤ g
          omega))
        obtain ⟨E, hE⟩ : ∃ E, E = Rn.enter (Rn.M st.1 l g) l a' k' args ⟨fu, st.2, []⟩ := ⟨_, rfl⟩
        have HPR : Hid (E.2.2.pr.length ≤ 1048576) := hide (by
          have h1 := Rn.enter_mea (Rn.M_tot st.1 l g) l a' k' args ⟨fu, st.2, []⟩
          rw [← hE] at h1
          simp only [List.length_nil] at h1
          omega)
        rw [← hE] at HEN HR1
        have HW3 := hide ((hb3.block _ (block_lt HW.out)).trans HW.out)
        have hcB : w.heap.size < c.n := by rw [hcn]; exact block_lt HW.out
        clear hMk hcn hcp hcl hcm hmk hb3 hst hE
        go_wp2_with fail
        refine HEN.out.mono ?_
        rintro e w4 ⟨rfl, hM4⟩
        have HM4 := hide hM4.out.1
        have HV4 := hide (HMK.out.vv.kp hM4.out.2.1 HMK.out.ma (by decide) (by decide) (by decide))
        have HW4 := hide ((hM4.out.2.1.below.block _ hcB).trans HW3.out)
        have HB4 : Hid (Below w.heap.size w w4) := hide (HB.out.trans ((HB3.out.trans (by rw [← HCN.out]; exact hM4.out.2.1.below)).mono (by have := HCN.out; omega)))
        clear hM4 HEN HW3 HB HW
        have HB := HB4
        have HW := HW4
        clear HB4 HW4
        by_cases he : E.2.1 = 0
        · rw [he]
          unfold Rn.out at HR1
          rw [if_pos he] at HR1
          have HSM : Hid (st.1.length ≤ 1048576) := hide HMK.out.small
          have HOC := hide (outcome_any w4 c st.1 E.2.2 E.1 HM4.out HV4.out HN8.out HSM.out HPR.out)
          have HRK : Hid (ResOk RR) := hide (by
            rw [HR1.out]
            refine ⟨fun x hx => ?_, ⟨?_, ?_, ?_⟩, fun t ht => ?_⟩
            · simp only at hx
              unfold Rn.sto at hx
              obtain ⟨⟨z, v⟩, hz, rfl⟩ := List.mem_map.1 hx
              exact HM4.out.val v (List.of_mem_zip hz).2
            · simp only
              unfold Rn.sto
              rw [List.length_map, List.length_zip]
              have := HSM.out
              omega
            · have := HPR.out
              simp only
              omega
            · simp only
              have h1 := Rn.cptS_len (Rn.srtS (Rn.did st.1 E.2.2.vs E.2.2.pr))
              rw [Rn.srtS_len] at h1
              have h2 : (Rn.did st.1 E.2.2.vs E.2.2.pr).length ≤ 2 * (st.1.zip E.2.2.vs).length + E.2.2.pr.length := by
                unfold Rn.did
                rw [List.length_append, List.length_map]
                exact Nat.add_le_add_right (Rn.didZ_len _) _
              rw [List.length_zip] at h2
              have := HPR.out
              have := HSM.out
              omega
            · simp only at ht
              rw [Rn.cptS_mem, Rn.srtS_mem] at ht
              exact Nat.le_trans (did_small HN8.out HM4.out.prs ht) (by decide))
          go_wp2_with fail
          refine HOC.out.mono ?_
          rintro e w5 ⟨v1, v2, v3, rfl, hO⟩
          have HO5 := hide hO.out.1
          have HB5 := hide (HB.out.trans (hO.out.2.mono (by have := HB.out.size; omega)))
          have HW5 := hide ((hO.out.2.block _ (block_lt HW.out)).trans HW.out)
          obtain ⟨x1, y1, rfl⟩ := HO5.out.st.form
          obtain ⟨x2, y2, rfl⟩ := HO5.out.pr.form
          obtain ⟨x3, n3, y3, rfl⟩ : ∃ a n c, v3 = .slice a n c := by
            rcases HO5.out.di with ⟨_, h⟩ | ⟨g', c', h, _⟩
            · exact ⟨_, _, _, h⟩
            · exact ⟨_, _, _, h⟩
          obtain ⟨n1, hn1⟩ : ∃ n, n = (Rn.sto st.1 E.2.2.vs).length := ⟨_, rfl⟩
          obtain ⟨n2, hn2⟩ : ∃ n, n = E.2.2.pr.length := ⟨_, rfl⟩
          rw [← hn1, ← hn2] at HO5 ⊢
          rw [← HR1.out] at HO5
          clear hO HB HW HOC hn1 hn2
          have HB := HB5
          have HW := HW5
          clear HB5 HW5
          have r0 := (block_at HW.out 0).trans rfl
          have r1 := (block_at HW.out 1).trans rfl
          have r2 := (block_at HW.out 2).trans rfl
          have r3 := (block_at HW.out 3).trans rfl
          have z0 := block_free HW.out 0
          have z1 := block_free HW.out 1
          have z2 := block_free HW.out 2
          have z3 := block_free HW.out 3
          go_wp2_with fail
          obtain ⟨Wf, hWf⟩ : ∃ Wf, Wf = ((((w5.setCell ⟨w.heap.size, 0, none⟩ (.int .i64 E.1)).setCell ⟨w.heap.size, 1, none⟩ (.slice x1 n1 y1)).setCell ⟨w.heap.size, 2, none⟩ (.slice x2 n2 y2)).setCell ⟨w.heap.size, 3, none⟩ (.slice x3 n3 y3)) := ⟨_, rfl⟩
          have i4 := set4 HW.out (.int .i64 E.1) (.slice x1 n1 y1) (.slice x2 n2 y2) (.slice x3 n3 y3)
          have HBF : Hid (Below w.heap.size w Wf) := hide (by rw [hWf]; exact (((HB.out.setCell (by simp) _).setCell (by simp) _).setCell (by simp) _).setCell (by simp) _)
          have HOF : Hid (OcAt Wf c.n RR (.slice x1 n1 y1) (.slice x2 n2 y2) (.slice x3 n3 y3)) := hide (by rw [hWf]; exact (((HO5.out.set hcB 0 _).set hcB 1 _).set hcB 2 _).set hcB 3 _)
          rw [← hWf] at i4 ⊢
          have f0 := (block_at i4 0).trans rfl
          have f1 := (block_at i4 1).trans rfl
          have f2 := (block_at i4 2).trans rfl
          have f3 := (block_at i4 3).trans rfl
          clear i4
          refine bodyPost_ret (v := .tuple #[.agg #[.int .i64 E.1, .slice x1 n1 y1, .slice x2 n2 y2, .slice x3 n3 y3], .int .i64 0]) (by simp [results, Tryz.results16, go_sem, f0, f1, f2, f3]) rfl ?_
          exact ⟨_, _, _, by rw [HR1.out], hide ⟨HOF.out.out HRK.out, HBF.out⟩⟩
        · have he' := bne_zero_true he
          unfold Rn.out at HR1
          rw [if_neg he] at HR1
          obtain ⟨ee, hee⟩ : ∃ z, z = E.2.1 := ⟨_, rfl⟩
          rw [← hee] at HR1 he' ⊢
          clear hee he
          have r0 := (block_at HW.out 0).trans rfl
          have r1 := (block_at HW.out 1).trans rfl
          have r2 := (block_at HW.out 2).trans rfl
          have r3 := (block_at HW.out 3).trans rfl
          have z0 := block_free HW.out 0
          have z1 := block_free HW.out 1
          have z2 := block_free HW.out 2
          have z3 := block_free HW.out 3
          go_wp2_with fail
          obtain ⟨Wf, hWf⟩ : ∃ Wf, Wf = ((((w4.setCell ⟨w.heap.size, 0, none⟩ (.int .i64 0)).setCell ⟨w.heap.size, 1, none⟩ (.slice none 0 0)).setCell ⟨w.heap.size, 2, none⟩ (.slice none 0 0)).setCell ⟨w.heap.size, 3, none⟩ (.slice none 0 0)) := ⟨_, rfl⟩
          have i4 := set4 HW.out (.int .i64 0) (.slice none 0 0) (.slice none 0 0) (.slice none 0 0)
          have HBF : Hid (Below w.heap.size w Wf) := hide (by rw [hWf]; exact (((HB.out.setCell (by simp) _).setCell (by simp) _).setCell (by simp) _).setCell (by simp) _)
          rw [← hWf] at i4 ⊢
          have f0 := (block_at i4 0).trans rfl
          have f1 := (block_at i4 1).trans rfl
          have f2 := (block_at i4 2).trans rfl
          have f3 := (block_at i4 3).trans rfl
          clear i4
          refine bodyPost_ret (v := .tuple #[.agg #[.int .i64 0, .slice none 0 0, .slice none 0 0, .slice none 0 0], .int .i64 ee]) (by simp [results, Tryz.results16, go_sem, f0, f1, f2, f3]) rfl ?_
          exact ⟨_, _, _, by rw [HR1.out]; rfl, hide ⟨by rw [HR1.out]; exact OutAt.bad _ _, HBF.out⟩⟩
  · have HR1 : Hid (RR = Rn.bad (Rn.mosR m l)) := hide (by rw [HR.out, Rn.run, if_pos h0])
    have h0' := bne_zero_true h0
    have HB := hide (up HB0.out hb1)
    have HW := hide ((hb1.block _ (block_lt HW0.out)).trans HW0.out)
    obtain ⟨ee, hee⟩ : ∃ z, z = Rn.mosR m l := ⟨_, rfl⟩
    rw [← hee] at HR1 h0' ⊢
    clear hb1 h0 hee
    have r0 := (block_at HW.out 0).trans rfl
    have r1 := (block_at HW.out 1).trans rfl
    have r2 := (block_at HW.out 2).trans rfl
    have r3 := (block_at HW.out 3).trans rfl
    have z0 := block_free HW.out 0
    have z1 := block_free HW.out 1
    have z2 := block_free HW.out 2
    have z3 := block_free HW.out 3
    go_wp2_with fail
    obtain ⟨Wf, hWf⟩ : ∃ Wf, Wf = ((((w1.setCell ⟨w.heap.size, 0, none⟩ (.int .i64 0)).setCell ⟨w.heap.size, 1, none⟩ (.slice none 0 0)).setCell ⟨w.heap.size, 2, none⟩ (.slice none 0 0)).setCell ⟨w.heap.size, 3, none⟩ (.slice none 0 0)) := ⟨_, rfl⟩
    have i4 := set4 HW.out (.int .i64 0) (.slice none 0 0) (.slice none 0 0) (.slice none 0 0)
    have HBF : Hid (Below w.heap.size w Wf) := hide (by rw [hWf]; exact (((HB.out.setCell (by simp) _).setCell (by simp) _).setCell (by simp) _).setCell (by simp) _)
    rw [← hWf] at i4 ⊢
    have f0 := (block_at i4 0).trans rfl
    have f1 := (block_at i4 1).trans rfl
    have f2 := (block_at i4 2).trans rfl
    have f3 := (block_at i4 3).trans rfl
    clear i4
    refine bodyPost_ret (v := .tuple #[.agg #[.int .i64 0, .slice none 0 0, .slice none 0 0, .slice none 0 0], .int .i64 ee]) (by simp [results, Tryz.results16, go_sem, f0, f1, f2, f3]) rfl ?_
    exact ⟨_, _, _, by rw [HR1.out]; rfl, hide ⟨by rw [HR1.out]; exact OutAt.bad _ _, HBF.out⟩⟩

end Go.Proofs.YtnheahdcfadclaaGreatDoor

/- Walks over the library: slices.Equal of cells, of prints and of strings that are the same. -/
namespace Go.Proofs.YtnheahdcfadclaaGreatDoor
open Go.RowKit

set_option maxHeartbeats 1000000 in
theorem eqIn_ce (x : Ce) (w : World) : (Op.equalIn 10000 59 (.agg #[.string x.mod, .string x.name, .int .i64 x.val]) (.agg #[.string x.mod, .string x.name, .int .i64 x.val])).run Tryz.prog w = .ok true w := by
  have u3 := Tryz.underlying3
  have a3 := Tryz.isAgg3
  have z3 := Tryz.sizeOf3
  have u9 := Tryz.underlying9
  have a9 := Tryz.isAgg9
  have z9 := Tryz.sizeOf9
  have hS : Tryz.prog.underlying 59 = some (.struct (Tryz.prog.fieldsOf 59)) := by kernel_rfl
  have hp : Tryz.prog.stoodInHeld 59 = false := by kernel_rfl
  rw [show (10000 : Nat) = 9999 + 1 from rfl, run_equalIn_agg w 9999 59 _ _ hS hp]
  simp only [Program.fieldsOf, Tryz.underlying59]
  go_simp
theorem guard_ce (op : BinOp) (a b : Operand) (x : Ce) (w : World) : (eqGuard op 59 a b (.agg #[.string x.mod, .string x.name, .int .i64 x.val]) (.agg #[.string x.mod, .string x.name, .int .i64 x.val])).run Tryz.prog w = .ok () w :=
  run_eqGuard_agg w op _ a b _ _ (by kernel_rfl)
set_option maxHeartbeats 1000000 in
theorem eqIn_pr (x : ByteArray × Int) (w : World) : (Op.equalIn 10000 62 (.agg #[.string x.1, .int .i64 x.2]) (.agg #[.string x.1, .int .i64 x.2])).run Tryz.prog w = .ok true w := by
  have u3 := Tryz.underlying3
  have a3 := Tryz.isAgg3
  have z3 := Tryz.sizeOf3
  have u9 := Tryz.underlying9
  have a9 := Tryz.isAgg9
  have z9 := Tryz.sizeOf9
  have hS : Tryz.prog.underlying 62 = some (.struct (Tryz.prog.fieldsOf 62)) := by kernel_rfl
  have hp : Tryz.prog.stoodInHeld 62 = false := by kernel_rfl
  rw [show (10000 : Nat) = 9999 + 1 from rfl, run_equalIn_agg w 9999 62 _ _ hS hp]
  simp only [Program.fieldsOf, Tryz.underlying62]
  go_simp
theorem guard_pr (op : BinOp) (a b : Operand) (x : ByteArray × Int) (w : World) : (eqGuard op 62 a b (.agg #[.string x.1, .int .i64 x.2]) (.agg #[.string x.1, .int .i64 x.2])).run Tryz.prog w = .ok () w :=
  run_eqGuard_agg w op _ a b _ _ (by kernel_rfl)

set_option maxHeartbeats 1000000 in
set_option maxRecDepth 100000 in
theorem eqC_same (w : World) (va vb : Value) (l : List Ce) (ha : CesAt w va l) (hb : CesAt w vb l) :
    Calls Tryz.prog 18 #[va, vb] w fun e w' => e = .returned (.bool true) ∧ Below w.heap.size w w' := by
  obtain ⟨a, b, off, cap, rfl, h0, hl, hel⟩ := ha
  obtain ⟨a', b', off', cap', rfl, h0', -, hel'⟩ := hb
  have HEL := hide hel
  have HEL' := hide hel'
  have HA := hide h0
  have HA' := hide h0'
  obtain ⟨len, hlen⟩ : ∃ n, n = l.length := ⟨_, rfl⟩
  have HL := hide hlen
  rw [← hlen] at hl HA HA' ⊢
  clear hel hel' h0 h0' hlen
  go_enter Tryz.func18, Tryz.ntmps18
  go_wp2_with fail
  go_loopw [5, 13] (fun _ i wx => ∃ j : Nat, j ≤ len ∧ i = .int .i64 j ∧ ∃ n, wx = w.drewN n) (fun _ i _ => len - (intOf i).toNat)
  case atStart => exact ⟨0, Nat.zero_le _, rfl, 0, rfl⟩
  case round =>
    obtain ⟨j, hj, rfl, n, rfl⟩ := hrel
    by_cases hjl : j < len
    · obtain ⟨d, hd⟩ : ∃ d, l[j]? = some d := ⟨_, List.getElem?_eq_getElem (by rw [← HL.out]; exact hjl)⟩
      obtain ⟨-, p0, p1, p2⟩ := HEL.out j d hd
      obtain ⟨-, q0, q1, q2⟩ := HEL'.out j d hd
      obtain rfl := HA.out (by omega)
      obtain rfl := HA'.out (by omega)
      have heq : ∀ w, Sem.run Tryz.prog (Op.equalIn 10000 59 (.agg #[.string d.mod, .string d.name, .int .i64 d.val]) (.agg #[.string d.mod, .string d.name, .int .i64 d.val])) w = .ok true w := fun w => eqIn_ce d w
      have hgd : ∀ op a b w, Sem.run Tryz.prog (eqGuard op 59 a b (.agg #[.string d.mod, .string d.name, .int .i64 d.val]) (.agg #[.string d.mod, .string d.name, .int .i64 d.val])) w = .ok () w := fun op a b w => guard_ce op a b d w
      clear hd
      go_wp2_with fail
      go_quiet (fail)
      go_wp2_with fail
      go_roundw
      case rel => exact ⟨j + 1, by omega, by go_num, n + nq, by rw [← World.drewN_drewN]⟩
      case measure => simp [intOf]; omega
    · go_wp2_with fail
      go_ret
      exact ⟨rfl, below_drew (Below.refl _ _)⟩

set_option maxHeartbeats 1000000 in
set_option maxRecDepth 100000 in
theorem eqP_same (w : World) (va vb : Value) (l : List (ByteArray × Int)) (ha : PrsAt w va l) (hb : PrsAt w vb l) :
    Calls Tryz.prog 19 #[va, vb] w fun e w' => e = .returned (.bool true) ∧ Below w.heap.size w w' := by
  obtain ⟨a, b, off, cap, rfl, h0, hl, hel⟩ := ha
  obtain ⟨a', b', off', cap', rfl, h0', -, hel'⟩ := hb
  have HEL := hide hel
  have HEL' := hide hel'
  have HA := hide h0
  have HA' := hide h0'
  obtain ⟨len, hlen⟩ : ∃ n, n = l.length := ⟨_, rfl⟩
  have HL := hide hlen
  rw [← hlen] at hl HA HA' ⊢
  clear hel hel' h0 h0' hlen
  go_enter Tryz.func19, Tryz.ntmps19
  go_wp2_with fail
  go_loopw [5, 13] (fun _ i wx => ∃ j : Nat, j ≤ len ∧ i = .int .i64 j ∧ ∃ n, wx = w.drewN n) (fun _ i _ => len - (intOf i).toNat)
  case atStart => exact ⟨0, Nat.zero_le _, rfl, 0, rfl⟩
  case round =>
    obtain ⟨j, hj, rfl, n, rfl⟩ := hrel
    by_cases hjl : j < len
    · obtain ⟨d, hd⟩ : ∃ d, l[j]? = some d := ⟨_, List.getElem?_eq_getElem (by rw [← HL.out]; exact hjl)⟩
      obtain ⟨p0, p1⟩ := HEL.out j d hd
      obtain ⟨q0, q1⟩ := HEL'.out j d hd
      obtain rfl := HA.out (by omega)
      obtain rfl := HA'.out (by omega)
      have heq : ∀ w, Sem.run Tryz.prog (Op.equalIn 10000 62 (.agg #[.string d.1, .int .i64 d.2]) (.agg #[.string d.1, .int .i64 d.2])) w = .ok true w := fun w => eqIn_pr d w
      have hgd : ∀ op a b w, Sem.run Tryz.prog (eqGuard op 62 a b (.agg #[.string d.1, .int .i64 d.2]) (.agg #[.string d.1, .int .i64 d.2])) w = .ok () w := fun op a b w => guard_pr op a b d w
      clear hd
      go_wp2_with fail
      go_quiet (fail)
      go_wp2_with fail
      go_roundw
      case rel => exact ⟨j + 1, by omega, by go_num, n + nq, by rw [← World.drewN_drewN]⟩
      case measure => simp [intOf]; omega
    · go_wp2_with fail
      go_ret
      exact ⟨rfl, below_drew (Below.refl _ _)⟩

set_option maxHeartbeats 1000000 in
set_option maxRecDepth 100000 in
theorem eqT_same (w : World) (va vb : Value) (l : List ByteArray) (ha : Strs w va l) (hb : Strs w vb l) :
    Calls Tryz.prog 20 #[va, vb] w fun e w' => e = .returned (.bool true) ∧ Below w.heap.size w w' := by
  obtain ⟨a, b, off, cap, rfl, h0, hl, -, hel⟩ := ha
  obtain ⟨a', b', off', cap', rfl, h0', -, -, hel'⟩ := hb
  have HEL := hide hel
  have HEL' := hide hel'
  have HA := hide h0
  have HA' := hide h0'
  obtain ⟨len, hlen⟩ : ∃ n, n = l.length := ⟨_, rfl⟩
  have HL := hide hlen
  rw [← hlen] at hl HA HA' ⊢
  clear hel hel' h0 h0' hlen
  go_enter Tryz.func20, Tryz.ntmps20
  go_wp2_with fail
  go_loopw [5, 13] (fun _ i wx => ∃ j : Nat, j ≤ len ∧ i = .int .i64 j ∧ ∃ n, wx = w.drewN n) (fun _ i _ => len - (intOf i).toNat)
  case atStart => exact ⟨0, Nat.zero_le _, rfl, 0, rfl⟩
  case round =>
    obtain ⟨j, hj, rfl, n, rfl⟩ := hrel
    by_cases hjl : j < len
    · have hlt : j < l.length := by rw [← HL.out]; exact hjl
      have p0 := HEL.out j hlt
      have q0 := HEL'.out j hlt
      generalize l[j] = d at p0 q0
      obtain rfl := HA.out (by omega)
      obtain rfl := HA'.out (by omega)
      have heq : (d.toList == d.toList) = true := by simp
      clear hlt
      go_wp2_with fail
      go_quiet (fail)
      go_wp2_with fail
      go_roundw
      case rel => exact ⟨j + 1, by omega, by go_num, n + nq, by rw [← World.drewN_drewN]⟩
      case measure => simp [intOf]; omega
    · go_wp2_with fail
      go_ret
      exact ⟨rfl, below_drew (Below.refl _ _)⟩

end Go.Proofs.YtnheahdcfadclaaGreatDoor
