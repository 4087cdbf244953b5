/- Walks over package downref: Ran. -/
import Derived.Test.YtholefgckcoklaaGreatDoorZBO
import Derived.Test.YtholefgckcoklaaGreatDoorZBM
import Derived.Test.YtholefgckcoklaaGreatDoorZAO
import Derived.Test.YtholefgckcoklaaGreatDoorZBJ
import Derived.Test.YtholefgckcoklaaGreatDoorZAX
import Derived.Deep.RegionLaw
namespace Go.Proofs.YtholefgckcoklaaGreatDoor
open Go.RowKit
theorem set4C {w : World} {B : Nat} {c0 c1 c2 c3 : Value} (h : w.heap[B]? = some (.cells #[c0, c1, c2, c3] 54 (0, 0))) (v0 v1 v2 v3 : Value) :
    ((((w.setCell ⟨B, 0, none⟩ v0).setCell ⟨B, 1, none⟩ v1).setCell ⟨B, 2, none⟩ v2).setCell ⟨B, 3, none⟩ v3).heap[B]? = some (.cells #[v0, v1, v2, v3] 54 (0, 0)) :=
  (block_set (block_set (block_set (block_set h 0 v0) 1 v1) 2 v2) 3 v3).trans rfl
theorem Nm.moAt_names (l : List Mo) (s : ByteArray) : Nm.moAt l s = (List.range (l.map (·.name)).length).find? fun i => match (l.map (·.name))[i]? with | some t => Nm.sameB t s | none => false := by
  unfold Nm.moAt
  rw [List.length_map]
  congr 1
  funext i
  rw [List.getElem?_map]
  cases l[i]? <;> rfl
theorem Nm.fnAt_names (l : List Fu) (s : ByteArray) : Nm.fnAt l s l.length = (List.range (l.map (·.name)).length).find? fun i => match (l.map (·.name))[i]? with | some t => Nm.sameB t s | none => false := by
  unfold Nm.fnAt
  rw [List.length_map]
  congr 1
  funext i
  rw [List.getElem?_map]
  cases l[i]? <;> rfl
theorem Rn.lowF_yes {ns : List ByteArray} {x s : ByteArray} {d k : Nat} (h : ns[k]? = some s) (hs : Nm.sameB s x = true) : Rn.lowF ns x (d + 1) k = k := by unfold Rn.lowF; rw [h]; simp only [hs, if_true]
theorem Rn.lowF_no {ns : List ByteArray} {x s : ByteArray} {d k : Nat} (h : ns[k]? = some s) (hs : Nm.sameB s x = false) : Rn.lowF ns x (d + 1) k = Rn.lowF ns x d (k + 1) := by
  show (if (match ns[k]? with | some s => Nm.sameB s x | none => false) = true then (k : Int) else Rn.lowF ns x d (k + 1)) = _
  rw [h]; simp [hs]
theorem Rn.valF_yes {store : List Ce} {x y : ByteArray} {c : Ce} {d k : Nat} (h : store[k]? = some c) (hs : Rn.isC x y c = true) : Rn.valF store x y (d + 1) k = c.val := by unfold Rn.valF; rw [h]; simp only [hs, if_true]
theorem Rn.valF_no {store : List Ce} {x y : ByteArray} {c : Ce} {d k : Nat} (h : store[k]? = some c) (hs : Rn.isC x y c = false) : Rn.valF store x y (d + 1) k = Rn.valF store x y d (k + 1) := by
  show (match store[k]? with | some c => if Rn.isC x y c = true then c.val else Rn.valF store x y d (k + 1) | none => 0) = _
  rw [h]; simp [hs]
theorem Rn.isFst_succ {l : List Mo} {j : Nat} {x : ByteArray} {z : Mo} (h : l[j]? = some z) : Rn.isFst l (j + 1) x = (Rn.isFst l j x && !(Nm.sameB z.name x)) := by
  unfold Rn.isFst
  rw [List.take_add_one, h, Option.toList_some, List.all_append]
  simp
namespace Rn
theorem pasT_len {store : List Ce} {l : List Mo} (h8 : ∀ y ∈ l, y.vars.length ≤ 8) (h6 : l.length ≤ 6) : ∀ q, (pasT store l q).length ≤ 48 * q
  | 0 => by simp [pasT]
  | q + 1 => by
    have ih := pasT_len (store := store) h8 h6 q
    obtain ⟨r, h1, h2⟩ := celTo_pre (p := (q == 0)) (store := store) h8 (pasT store l q) l.length
    show (celTo (q == 0) store l (pasT store l q) l.length).length ≤ _
    rw [h1, List.length_append]
    omega
theorem T_len {store : List Ce} {l : List Mo} (h8 : ∀ y ∈ l, y.vars.length ≤ 8) {p : Bool} {T0 : List Ce} (h0 : T0.length ≤ 48) {t : Nat} (ht : t ≤ 6) (x : ByteArray) {vs : List Va} (hv : vs.length ≤ 8) : (celVs store x (celTo p store l T0 t) vs).length ≤ 200 := by
  obtain ⟨r, h1, h2⟩ := celTo_pre (p := p) (store := store) h8 T0 t
  obtain ⟨r2, h3, h4⟩ := celVs_pre store x vs (celTo p store l T0 t)
  rw [h3, h1, List.length_append, List.length_append]
  omega
theorem addV_mem {store : List Ce} {nm : List (ByteArray × ByteArray)} {vs : List Vr} {x y : ByteArray} {v : Vr} (h : v ∈ addV store nm vs x y) : v ∈ vs ∨ v = ⟨val0 store x y, false, false⟩ := by
  unfold addV at h
  split at h
  · exact Or.inl h
  · simpa using h
theorem mkVs_vals {store : List Ce} {mod : ByteArray} {v : Vr} : ∀ {vs : List Va} {st : List (ByteArray × ByteArray) × List Vr}, v ∈ (mkVs store mod st vs).2 → v ∈ st.2 ∨ ∃ x y, v = ⟨val0 store x y, false, false⟩
  | [], st, h => Or.inl h
  | u :: vs, st, h => by
    have h' : v ∈ (mkVs store mod (addN st.1 mod u.name, addV store st.1 st.2 mod u.name) vs).2 := h
    rcases mkVs_vals h' with h1 | h1
    · rcases addV_mem h1 with h2 | h2
      · exact Or.inl h2
      · exact Or.inr ⟨_, _, h2⟩
    · exact Or.inr h1
theorem mkTo_vals {store : List Ce} {l : List Mo} {v : Vr} : ∀ {i : Nat}, v ∈ (mkTo store l i).2 → ∃ x y, v = ⟨val0 store x y, false, false⟩
  | 0, h => absurd h (by simp [mkTo])
  | i + 1, h => by
    unfold mkTo at h
    cases hy : l[i]? with
    | none => rw [hy] at h; exact mkTo_vals h
    | some y =>
      rw [hy] at h
      simp only at h
      split at h
      · exact mkTo_vals h
      · rcases mkVs_vals h with h1 | h1
        · exact mkTo_vals h1
        · exact h1
theorem val0_64 {store : List Ce} (h : ∀ c ∈ store, I64 c.val) (x y : ByteArray) : I64 (val0 store x y) := by
  unfold val0
  cases hc : ceAt store x y with
  | none => show I64 0; unfold I64; omega
  | some i =>
    rw [Option.bind_some]
    cases hs : store[i]? with
    | none => show I64 0; unfold I64; omega
    | some c => exact h c (List.mem_of_getElem? hs)
theorem did_none {nm : List (ByteArray × ByteArray)} {vs : List Vr} {f : Nat} (h : ∀ v ∈ vs, v.rd = false ∧ v.st = false) : DidOk nm ⟨f, vs, []⟩ [] := by
  refine ⟨List.nodup_nil, fun t => ⟨fun ht => absurd ht (by simp), fun ht => ?_⟩⟩
  rcases did_mem.1 ht with ⟨i, x, v, _, hv, h1 | h1⟩ | ⟨d, hd, _⟩
  · have := (h v (List.mem_of_getElem? hv)).1
    rw [h1.1] at this; cases this
  · have := (h v (List.mem_of_getElem? hv)).2
    rw [h1.1] at this; cases this
  · simp at hd
end Rn
theorem Own.rowS {w : World} {B g len cap : Nat} {l : List ByteArray} (h : Own w B (.slice (some ⟨g, 0, none⟩) len cap) l) : RowS w g l := by
  have h0 : w.ownsRow B 9 1 (.slice (some ⟨g, 0, none⟩) len cap) l.length (l.map Value.string) := h
  rcases h0.2 with ⟨e, _⟩ | ⟨g', cap', cur, e, _, hh, hn, _, hs, htk⟩
  · cases e
  · injection e with e1 e2 e3
    injection e1 with e1
    injection e1 with e1
    subst e1
    refine ⟨cur, hh, by omega, fun i d hd => ?_⟩
    have hi := (List.getElem?_eq_some_iff.1 hd).1
    have h2 : (cur.toList.take (l.length * 1))[i]? = some (.string d) := by rw [htk, List.getElem?_map, hd]; rfl
    rw [List.getElem?_take, if_pos (by omega)] at h2
    simpa using h2
theorem dout_at {w5 wf : World} {c : Dc} {nm : List (ByteArray × ByteArray)} {s : Rn.Sta} {vp vd : Value} {D : List ByteArray} (h : DoM w5 c nm s vp vd D) (hD : Rn.DidOk nm s D) {a : Option Addr} {cap : Nat} (hvc : c.vc = .slice a (c.tot nm s).length cap) (hk : ∀ k ob, w5.heap[k]? = some ob → k ≠ c.p → vd.ownBlock ≠ some k → c.n ≤ k → wf.heap[k]? = some ob)
    (hd : (D = [] ∧ vd = .slice none 0 0) ∨ ∃ g cap, vd = .slice (some ⟨g, 0, none⟩) D.length cap ∧ RowS wf g (Rn.srtS D)) (R : Int) :
    OutAt wf ⟨R, Rn.sto nm s.vs, s.pr, Rn.cptS (Rn.srtS (Rn.did nm s.vs s.pr)), 0⟩ (.slice a nm.length cap) vp vd := by
  have hsl := Rn.sto_len h.lens
  have hroom := h.room
  refine ⟨?_, ?_, ?_⟩
  · rcases h.cel with ⟨h1, h2, h3⟩ | ⟨cap', cs, h1, h2, h3⟩
    · have h4 : Rn.sto nm s.vs = [] := (List.append_eq_nil_iff.1 h1).1
      have h5 : nm.length = 0 := by rw [← hsl, h4]; rfl
      show CesAt wf _ (Rn.sto nm s.vs)
      rw [h4]
      exact ⟨a, 0, 0, cap, by rw [h5]; rfl, fun h => absurd h (by simp), by simp, fun i x hx => by simp at hx⟩
    · rw [hvc] at h1
      injection h1 with e1 e2 e3
      have hcb := hk c.cb _ h2 (fun e => by
        rw [e, h.blk] at h2
        injection h2 with h2
        injection h2 with _ h2
        exact absurd h2 (by decide)) (fun e => by
        obtain ⟨c2, h4⟩ := row_typ h.did e
        exact block_ne h2 h4 (by decide) rfl) h.cbn
      have hn := h.nml
      refine ⟨a, c.cb, 0, cap, by rw [hsl], fun _ => e1, by rw [hsl]; omega, fun i x hx => ?_⟩
      have hx' : (c.tot nm s)[i]? = some x := by
        unfold Dc.tot
        rw [List.getElem?_append_left (List.getElem?_eq_some_iff.1 hx).1]
        exact hx
      obtain ⟨g0, g1, g2⟩ := h3 i x hx'
      refine ⟨?_, ?_, ?_, ?_⟩
      · have hx2 : x ∈ Rn.sto nm s.vs := List.mem_of_getElem? hx
        unfold Rn.sto at hx2
        obtain ⟨p, hp, rfl⟩ := List.mem_map.1 hx2
        exact h.val p.2 (List.of_mem_zip hp).2
      · rw [Nat.zero_add]; exact (block_at hcb _).trans g0
      · rw [Nat.zero_add]; exact (block_at hcb _).trans g1
      · rw [Nat.zero_add]; exact (block_at hcb _).trans g2
  · exact (h.pr.sameK (fun g ob hg ho => hk g ob ho (fun e => h.pp (by rw [hg, e])) (fun e => by
      obtain ⟨c1, h1⟩ := h.pr.typ hg
      obtain ⟨c2, h2⟩ := row_typ h.did e
      exact block_ne h1 h2 (by decide) rfl) (h.pr.lt g hg).1)).prs (by show s.pr.length ≤ 16777216; omega)
  · show Strs wf vd (Rn.cptS (Rn.srtS (Rn.did nm s.vs s.pr)))
    rw [← Rn.srt_cpt hD.once hD.mem]
    rcases hd with ⟨rfl, rfl⟩ | ⟨g, cap, rfl, hr⟩
    · have e : Rn.srtS [] = [] := List.eq_nil_of_length_eq_zero (by rw [Rn.srtS_len]; rfl)
      rw [e]
      exact ⟨none, 0, 0, 0, rfl, fun h => absurd h (by simp), by simp, fun s hs => absurd hs (by simp), fun j hj => absurd hj (by simp)⟩
    · have hl : (Rn.srtS D).length = D.length := Rn.srtS_len D
      rw [← hl]
      exact hr.strs (fun t ht => h.dsz t ((Rn.srtS_mem _ _).1 ht)) (by rw [hl]; have := h.lenD; omega)
set_option maxHeartbeats 20000000 in
set_option maxRecDepth 100000 in
theorem dran_any (m : Nat) (w : World) (vl va vs : Value) (l : List Mo) (mod fn : ByteArray) (args : List Int) (store : List Ce) (fuel : Int) (hL : MosAt w m vl l) (hks : ∀ y ∈ l, moW m y ≤ 1048576)
    (hA : Ints w va args) (hAI : ∀ x ∈ args, I64 x) (hS : CesAt w vs store) (ht : Tab w) (g : Nat) (hg : 10000 * (m + 2) + m ≤ g) :
    Calls Tryz.prog 18 #[vl, .string mod, .string fn, va, vs, .int .i64 fuel] w fun e w' => ∃ v1 v2 v3, e = .returned (.tuple #[.agg #[.int .i64 (Rn.run g m l mod fn args store fuel).res, v1, v2, v3], .int .i64 (Rn.run g m l mod fn args store fuel).err]) ∧ Hid (OutAt w' (Rn.run g m l mod fn args store fuel) v1 v2 v3 ∧ Below w.heap.size w w') := by
  obtain ⟨RR, hRR⟩ : ∃ r, r = Rn.run g m l mod fn args store fuel := ⟨_, rfl⟩
  rw [← hRR]
  have HR := hide hRR
  clear hRR
  have HL := hide hL
  have HKS := hide hks
  have HA := hide hA
  have HAI := hide hAI
  have HS := hide hS
  have HT := hide ht
  have HG := hide hg
  obtain ⟨al, bl, ol, cl, hvl, hal, hll, hel⟩ := hL
  have HEL : Hid (MoEl w m bl ol l) := hel
  have HAL := hide hal
  obtain ⟨nl, hnl⟩ : ∃ n, n = l.length := ⟨_, rfl⟩
  have HNL := hide hnl
  rw [← hnl] at hvl hll HAL
  obtain ⟨aa, ba, oa, ca, hva, -⟩ := hA
  obtain ⟨as', bs, os, cs, hvs, has, hsl, hse⟩ := hS
  have HSE := hide hse
  have HAS := hide has
  obtain ⟨nst, hnst⟩ : ∃ n, n = store.length := ⟨_, rfl⟩
  have HNS := hide hnst
  rw [← hnst] at hvs hsl HAS
  generalize args.length = na at hva
  subst hvl hva hvs
  obtain ⟨W0, hW0⟩ : ∃ W, W = w.alloc (.cells #[.int .i64 0, .slice none 0 0, .slice none 0 0, .slice none 0 0] 54) := ⟨_, rfl⟩
  have HB0 : Hid (Below w.heap.size w W0) := hide (by rw [hW0]; exact boxBelow _ _)
  have HW0 : Hid (W0.heap[w.heap.size]? = some (.cells #[.int .i64 0, .slice none 0 0, .slice none 0 0, .slice none 0 0] 54 (0, 0))) := hide (by rw [hW0]; exact block_new _ _)
  clear hks hAI ht hg hal hel has hse hnl hnst
  go_enter Tryz.func18, Tryz.ntmps18
  go_wp2_with fail
  rw [← hW0]
  clear hW0
  go_loopw [14] (fun i wx => ∃ j : Nat, j ≤ nl ∧ i = .int .i64 j ∧ (∀ (q : Nat) y, q < j → l[q]? = some y → Lat.moE m y = 0) ∧ Hid (Below W0.heap.size W0 wx)) (fun i _ => nl - (intOf i).toNat)
  case atStart => exact ⟨0, Nat.zero_le _, rfl, fun q y hq => absurd hq (Nat.not_lt_zero _), hide (Below.refl _ _)⟩
  case round =>
    obtain ⟨j, hj, rfl, hall, HNX⟩ := hrel
    have HALL := hide hall
    clear hall
    have HBR := hide (up HB0.out HNX.out)
    have HWR := hide (at_upD HW0.out HNX.out)
    by_cases hjl : j < nl
    · obtain ⟨y, hy⟩ : ∃ y, l[j]? = some y := ⟨_, List.getElem?_eq_getElem (by rw [← HNL.out]; exact hjl)⟩
      obtain ⟨yi, yv, yf, g0, g1, g2, g3, hmy⟩ := HEL.out j y hy
      obtain rfl := HAL.out (by omega)
      have HY := hide hy
      replace g0 := cellUp g0 HBR.out
      replace g1 := cellUp g1 HBR.out
      replace g2 := cellUp g2 HBR.out
      replace g3 := cellUp g3 HBR.out
      have HCY := hide (rmodule_any m wr _ y (hmy.below HBR.out) (HKS.out y (List.mem_of_getElem? hy)) (HT.out.below HBR.out))
      obtain ⟨hyI, hyV, hyF⟩ := hmy.split
      obtain ⟨a1, b1, o1, c1, rfl, -⟩ := hyI
      obtain ⟨a2, b2, o2, c2, rfl, -⟩ := hyV
      obtain ⟨a3, b3, o3, c3, rfl, -⟩ := hyF
      obtain ⟨ey, hey⟩ : ∃ e, e = Lat.moE m y := ⟨_, rfl⟩
      have HEY := hide hey
      rw [← hey] at HCY
      generalize y.imports.length = n1 at *
      generalize y.vars.length = n2 at *
      generalize y.funs.length = n3 at *
      clear hy hmy hey
      go_wp2_with fail
      refine HCY.out.mono ?_
      rintro e w5 ⟨rfl, hb5⟩
      have HB6 := hide (up HNX.out hb5)
      have HB7 := hide (up HBR.out hb5)
      have HW7 := hide (at_upD HWR.out hb5)
      clear hb5 g0 g1 g2 g3
      by_cases h2 : ey = 0
      · have HE2 : Hid (Lat.moE m y = 0) := hide (by rw [← HEY.out]; exact h2)
        subst h2
        go_wp2_with fail
        go_roundw
        case rel => exact ⟨j + 1, by omega, by go_num, fun q z hq hz => by
            by_cases e : q = j
            · subst e; rw [HY.out] at hz; cases hz; exact HE2.out
            · exact HALL.out q z (by omega) hz, HB6⟩
        case measure => simp [intOf]; omega
      · as_aux_lemma =>
          have h2' : (ey == 0) = false := by simp [h2]
          have HRE : Hid (RR = Rn.bad ey) := hide (by
            have h3 : Nm.mosE m l = ey := by rw [HEY.out]; exact Nm.mosE_first HY.out HALL.out (by rw [← HEY.out]; exact h2)
            have h4 : Rn.mosR m l = ey := by unfold Rn.mosR; rw [if_neg (by rw [h3]; exact h2), h3]
            rw [HR.out, Rn.run, if_pos (by rw [h4]; exact h2), h4])
          clear h2
          have r0 := (block_at HW7.out 0).trans rfl
          have r1 := (block_at HW7.out 1).trans rfl
          have r2 := (block_at HW7.out 2).trans rfl
          have r3 := (block_at HW7.out 3).trans rfl
          have z0 := block_free HW7.out 0
          have z1 := block_free HW7.out 1
          have z2 := block_free HW7.out 2
          have z3 := block_free HW7.out 3
          go_wp2_with fail
          obtain ⟨Wf, hWf⟩ : ∃ Wf, Wf = ((((w5.setCell ⟨w.heap.size, 0, none⟩ (.int .i64 0)).setCell ⟨w.heap.size, 1, none⟩ (.slice none 0 0)).setCell ⟨w.heap.size, 2, none⟩ (.slice none 0 0)).setCell ⟨w.heap.size, 3, none⟩ (.slice none 0 0)) := ⟨_, rfl⟩
          have i4 := set4C HW7.out (.int .i64 0) (.slice none 0 0) (.slice none 0 0) (.slice none 0 0)
          have HBF : Hid (Below w.heap.size w Wf) := hide (by rw [hWf]; exact (((HB7.out.setCell (by simp) _).setCell (by simp) _).setCell (by simp) _).setCell (by simp) _)
          rw [← hWf] at i4 ⊢
          have f0 := (block_at i4 0).trans rfl
          have f1 := (block_at i4 1).trans rfl
          have f2 := (block_at i4 2).trans rfl
          have f3 := (block_at i4 3).trans rfl
          clear i4
          refine bodyPost_ret (v := .tuple #[.agg #[.int .i64 0, .slice none 0 0, .slice none 0 0, .slice none 0 0], .int .i64 ey]) (by simp [results, Tryz.results18, go_sem, f0, f1, f2, f3]) rfl ?_
          exact ⟨_, _, _, by rw [HRE.out]; rfl, hide ⟨by rw [HRE.out]; exact OutAt.bad _ _, HBF.out⟩⟩
    · have HME : Hid (Nm.mosE m l = 0) := hide (Nm.mosE_all fun y hy => by
        obtain ⟨i, hi, rfl⟩ := List.mem_iff_getElem.1 hy
        exact HALL.out i _ (by have := HNL.out; omega) (List.getElem?_eq_getElem hi))
      clear HALL HNX HW0 HB0 HT HKS
      obtain ⟨w1, rfl⟩ : ∃ w1, w1 = wr := ⟨_, rfl⟩
      by_cases h6 : 6 < nl
      · as_aux_lemma =>
          have HRE : Hid (RR = Rn.bad 2) := hide (by
            have h4 : Rn.mosR m l = 2 := by unfold Rn.mosR; rw [if_pos HME.out, if_pos (by rw [← HNL.out]; exact h6)]
            rw [HR.out, Rn.run, if_pos (by rw [h4]; decide), h4])
          have r0 := (block_at HWR.out 0).trans rfl
          have r1 := (block_at HWR.out 1).trans rfl
          have r2 := (block_at HWR.out 2).trans rfl
          have r3 := (block_at HWR.out 3).trans rfl
          have z0 := block_free HWR.out 0
          have z1 := block_free HWR.out 1
          have z2 := block_free HWR.out 2
          have z3 := block_free HWR.out 3
          go_wp2_with fail
          obtain ⟨Wf, hWf⟩ : ∃ Wf, Wf = ((((w1.setCell ⟨w.heap.size, 0, none⟩ (.int .i64 0)).setCell ⟨w.heap.size, 1, none⟩ (.slice none 0 0)).setCell ⟨w.heap.size, 2, none⟩ (.slice none 0 0)).setCell ⟨w.heap.size, 3, none⟩ (.slice none 0 0)) := ⟨_, rfl⟩
          have i4 := set4C HWR.out (.int .i64 0) (.slice none 0 0) (.slice none 0 0) (.slice none 0 0)
          have HBF : Hid (Below w.heap.size w Wf) := hide (by rw [hWf]; exact (((HBR.out.setCell (by simp) _).setCell (by simp) _).setCell (by simp) _).setCell (by simp) _)
          rw [← hWf] at i4 ⊢
          have f0 := (block_at i4 0).trans rfl
          have f1 := (block_at i4 1).trans rfl
          have f2 := (block_at i4 2).trans rfl
          have f3 := (block_at i4 3).trans rfl
          clear i4
          refine bodyPost_ret (v := .tuple #[.agg #[.int .i64 0, .slice none 0 0, .slice none 0 0, .slice none 0 0], .int .i64 2]) (by simp [results, Tryz.results18, go_sem, f0, f1, f2, f3]) rfl ?_
          exact ⟨_, _, _, by rw [HRE.out]; rfl, hide ⟨by rw [HRE.out]; exact OutAt.bad _ _, HBF.out⟩⟩
      · have HMR : Hid (Rn.mosR m l = 0) := hide (by unfold Rn.mosR; rw [if_pos HME.out, if_neg (by rw [← HNL.out]; exact h6)])
        have HOK := hide (Rn.mosR_ok HMR.out)
        have HR1 : Hid (RR = if fuel < 1 ∨ 10000 < fuel then Rn.bad 1 else match Rn.fnd l mod fn with
          | none => Rn.bad 4
          | some (a, k) => Rn.out (Rn.mkTo store l l.length).1 (Rn.enter (Rn.M (Rn.mkTo store l l.length).1 l g) l a k args ⟨fuel.toNat, (Rn.mkTo store l l.length).2, []⟩)) := hide (by rw [HR.out, Rn.run, if_neg (by rw [HMR.out]; simp)]; rfl)
        have hn6 : nl ≤ 6 := by omega
        clear h6 HR HMR HME
        have HIN := hide (in_any w1 fuel 1 10000)
        by_cases hf : fuel < 1 ∨ 10000 < fuel
        · as_aux_lemma =>
            rw [if_pos hf] at HR1
            have hd : (decide (1 ≤ fuel) && decide (fuel ≤ 10000)) = false := by rw [Bool.and_eq_false_iff]; simp; omega
            rw [hd] at HIN
            clear hf hd
            go_wp2_with fail
            refine HIN.out.mono ?_
            rintro e w2 ⟨rfl, hw2⟩
            rw [hw2]
            clear hw2
            have r0 := (block_at HWR.out 0).trans rfl
            have r1 := (block_at HWR.out 1).trans rfl
            have r2 := (block_at HWR.out 2).trans rfl
            have r3 := (block_at HWR.out 3).trans rfl
            have z0 := block_free HWR.out 0
            have z1 := block_free HWR.out 1
            have z2 := block_free HWR.out 2
            have z3 := block_free HWR.out 3
            go_wp2_with fail
            obtain ⟨Wf, hWf⟩ : ∃ Wf, Wf = ((((w1.setCell ⟨w.heap.size, 0, none⟩ (.int .i64 0)).setCell ⟨w.heap.size, 1, none⟩ (.slice none 0 0)).setCell ⟨w.heap.size, 2, none⟩ (.slice none 0 0)).setCell ⟨w.heap.size, 3, none⟩ (.slice none 0 0)) := ⟨_, rfl⟩
            have i4 := set4C HWR.out (.int .i64 0) (.slice none 0 0) (.slice none 0 0) (.slice none 0 0)
            have HBF : Hid (Below w.heap.size w Wf) := hide (by rw [hWf]; exact (((HBR.out.setCell (by simp) _).setCell (by simp) _).setCell (by simp) _).setCell (by simp) _)
            rw [← hWf] at i4 ⊢
            have f0 := (block_at i4 0).trans rfl
            have f1 := (block_at i4 1).trans rfl
            have f2 := (block_at i4 2).trans rfl
            have f3 := (block_at i4 3).trans rfl
            clear i4
            refine bodyPost_ret (v := .tuple #[.agg #[.int .i64 0, .slice none 0 0, .slice none 0 0, .slice none 0 0], .int .i64 1]) (by simp [results, Tryz.results18, go_sem, f0, f1, f2, f3]) rfl ?_
            exact ⟨_, _, _, by rw [HR1.out]; rfl, hide ⟨by rw [HR1.out]; exact OutAt.bad _ _, HBF.out⟩⟩
        · rw [if_neg hf] at HR1
          have hd : (decide (1 ≤ fuel) && decide (fuel ≤ 10000)) = true := by rw [Bool.and_eq_true]; simp; omega
          rw [hd] at HIN
          obtain ⟨fu, hfu⟩ : ∃ n : Nat, fuel = n := ⟨fuel.toNat, by omega⟩
          subst hfu
          have hfu : fu ≤ 10000 := by omega
          rw [Int.toNat_natCast] at HR1
          have HW1 := HWR
          have HB1 := HBR
          clear hf hd HWR HBR
          go_wp2_with fail
          refine HIN.out.mono ?_
          rintro e w2 ⟨rfl, hw2⟩
          rw [hw2]
          clear hw2
          have HCB := hide (CbI.new w1 (.slice al nl cl) fu)
          obtain ⟨W2, hW2⟩ : ∃ W, W = w1.alloc (.cells #[.slice al nl cl, .slice none 0 0, .int .i64 0, .slice none 0 0, .slice none 0 0, .slice none 0 0, .int .i64 (fu : Nat)] 140) := ⟨_, rfl⟩
          rw [← hW2] at HCB
          clear HIN
          go_wp2_with fail
          rw [← hW2]
          clear hW2
          have HB2 := hide (up HB1.out HCB.out.bel)
          have HW2 := hide (at_upD HW1.out HCB.out.bel)
          go_loop [16, 19] (fun a i => ∃ k : Nat, k ≤ nl ∧ i = .int .i64 ((k : Int) - 1) ∧ a = .int .i64 (Rn.lowF (l.map (·.name)) mod (nl - k) k)) (fun _ i => (intOf i + 1).toNat)
          case atStart => exact ⟨nl, Nat.le_refl _, by first | rfl | go_num, by rw [Nat.sub_self]; rfl⟩
          case round =>
            obtain ⟨k, hk, rfl, rfl⟩ := hrel
            rename (∀ (a : Act) (w : World), Code.wp _ _ _ a w → _) => hcK
            have HCK := And.intro trivial hcK
            clear hcK
            repeat (rename (∀ (a : Act) (w : World), Code.wp _ _ _ a w → _) => hcX; clear hcX)
            have hcK := HCK.2
            clear HCK
            by_cases hk0 : 0 < k
            · as_aux_lemma =>
                obtain ⟨k', rfl⟩ : ∃ k', k = k' + 1 := ⟨k - 1, by omega⟩
                obtain ⟨y, hy⟩ : ∃ y, l[k']? = some y := ⟨_, List.getElem?_eq_getElem (by rw [← HNL.out]; omega)⟩
                obtain ⟨yi, yv, yf, g0, -⟩ := HEL.out k' y hy
                obtain rfl := HAL.out (by omega)
                replace g0 := cellUp g0 HB2.out
                have HNK : Hid ((l.map (·.name))[k']? = some y.name) := hide (by rw [List.getElem?_map, hy]; rfl)
                have HSU : Hid (nl - k' = (nl - (k' + 1)) + 1) := hide (by omega)
                rw [show (((k' + 1 : Nat) : Int) - 1) = (k' : Int) by omega]
                have hkl : (k' : Int) < (nl : Int) := by omega
                clear hy hk0
                cases h1 : (y.name.toList == mod.toList)
                · have HLF : Hid (Rn.lowF (l.map (·.name)) mod (nl - k') k' = Rn.lowF (l.map (·.name)) mod (nl - (k' + 1)) (k' + 1)) := hide (by rw [HSU.out]; exact Rn.lowF_no HNK.out h1)
                  go_wp2_with fail
                  go_round
                  case rel => exact ⟨k', by omega, by first | rfl | go_num, by rw [HLF.out]⟩
                  case measure => simp [intOf]; try omega
                · have HLF : Hid (Rn.lowF (l.map (·.name)) mod (nl - k') k' = k') := hide (by rw [HSU.out]; exact Rn.lowF_yes HNK.out h1)
                  go_wp2_with fail
                  go_round
                  case rel => exact ⟨k', by omega, by first | rfl | go_num, by rw [HLF.out]⟩
                  case measure => simp [intOf]; try omega
            · obtain rfl : k = 0 := by omega
              have HLW : Hid (Rn.lowF (l.map (·.name)) mod (nl - 0) 0 = Nm.oI (Nm.moAt l mod)) := hide (by
                rw [Nm.moAt_names]
                exact Rn.lowF_find _ _ _ _ (by rw [List.length_map, ← HNL.out]; omega) (fun j hj => absurd hj (Nat.not_lt_zero _)))
              rw [HLW.out]
              rw [show (((0 : Nat) : Int) - 1) = -1 by omega]
              clear hk hk0 HLW
              cases hm : Nm.moAt l mod with
              | none =>
                as_aux_lemma =>
                  have HR2 : Hid (RR = Rn.bad 4) := hide (by rw [HR1.out]; unfold Rn.fnd; rw [hm]; rfl)
                  have hoI : Nm.oI (none : Option Nat) = -1 := rfl
                  rw [hoI]
                  clear hm hoI
                  have r0 := (block_at HW2.out 0).trans rfl
                  have r1 := (block_at HW2.out 1).trans rfl
                  have r2 := (block_at HW2.out 2).trans rfl
                  have r3 := (block_at HW2.out 3).trans rfl
                  have z0 := block_free HW2.out 0
                  have z1 := block_free HW2.out 1
                  have z2 := block_free HW2.out 2
                  have z3 := block_free HW2.out 3
                  go_wp2_with fail
                  obtain ⟨Wf, hWf⟩ : ∃ Wf, Wf = ((((W2.setCell ⟨w.heap.size, 0, none⟩ (.int .i64 0)).setCell ⟨w.heap.size, 1, none⟩ (.slice none 0 0)).setCell ⟨w.heap.size, 2, none⟩ (.slice none 0 0)).setCell ⟨w.heap.size, 3, none⟩ (.slice none 0 0)) := ⟨_, rfl⟩
                  have i4 := set4C HW2.out (.int .i64 0) (.slice none 0 0) (.slice none 0 0) (.slice none 0 0)
                  have HBF : Hid (Below w.heap.size w Wf) := hide (by rw [hWf]; exact (((HB2.out.setCell (by simp) _).setCell (by simp) _).setCell (by simp) _).setCell (by simp) _)
                  rw [← hWf] at i4 ⊢
                  have f0 := (block_at i4 0).trans rfl
                  have f1 := (block_at i4 1).trans rfl
                  have f2 := (block_at i4 2).trans rfl
                  have f3 := (block_at i4 3).trans rfl
                  clear i4
                  refine bodyPost_ret (v := .tuple #[.agg #[.int .i64 0, .slice none 0 0, .slice none 0 0, .slice none 0 0], .int .i64 4]) (by simp [results, Tryz.results18, go_sem, f0, f1, f2, f3]) rfl ?_
                  exact ⟨_, _, _, by rw [HR2.out]; rfl, hide ⟨by rw [HR2.out]; exact OutAt.bad _ _, HBF.out⟩⟩
              | some a =>
                obtain ⟨y, hy, hys⟩ := Nm.moAt_lt hm
                have HY := hide hy
                have HFS : Hid (∀ (j : Nat) (z : Mo), j < a → l[j]? = some z → Nm.sameB z.name y.name = false) := hide (fun j z hj hz => by
                  have h1 := find_before (show (List.range l.length).find? (fun i => match l[i]? with | some x => Nm.sameB x.name mod | none => false) = some a from hm) j hj
                  rw [hz] at h1
                  rw [Rn.sameB_iff.1 hys]
                  exact h1)
                have hal : a < nl := by rw [HNL.out]; exact (List.getElem?_eq_some_iff.1 hy).1
                have HFD : Hid (Rn.fnd l mod fn = (Nm.fnAt y.funs fn y.funs.length).map fun k => (a, k)) := hide (by unfold Rn.fnd; rw [hm, Option.bind_some, hy]; rfl)
                rw [HFD.out] at HR1
                obtain ⟨yi, yv, yf, g0, g1, g2, g3, hmy⟩ := HEL.out a y hy
                have HMY := hide hmy
                obtain rfl := HAL.out (by omega)
                have HG4 := hide (show w.cell? ⟨bl, ol + a * 4, none⟩ = _ ∧ w.cell? ⟨bl, ol + a * 4 + 1, none⟩ = _ ∧ w.cell? ⟨bl, ol + a * 4 + 2, none⟩ = _ ∧ w.cell? ⟨bl, ol + a * 4 + 3, none⟩ = _ from ⟨g0, g1, g2, g3⟩)
                obtain ⟨fa, fb, fo, fc, rfl, hfa, hfl, hfe⟩ := hmy.split.2.2
                have HFE := hide hfe
                have HFA := hide hfa
                obtain ⟨nf, hnf⟩ : ∃ n, n = y.funs.length := ⟨_, rfl⟩
                have HNF := hide hnf
                rw [← hnf] at hfl HFA HG4 g3 HMY
                replace g3 := cellUp g3 HB2.out
                have hoI : Nm.oI (some a) = (a : Int) := rfl
                rw [hoI]
                have hai : (a : Int) < (nl : Int) := by omega
                have han : ((a : Int) < 0) = False := eq_false (by omega)
                have ha0 : ((a : Int) ≥ 0) = True := eq_true (by omega)
                clear hm hy hys hmy hfe hfa hnf g0 g1 g2 hoI HFD
                go_wp2_with fail
                go_loop [17, 20] (fun a i => ∃ k : Nat, k ≤ nf ∧ i = .int .i64 ((k : Int) - 1) ∧ a = .int .i64 (Rn.lowF (y.funs.map (·.name)) fn (nf - k) k)) (fun _ i => (intOf i + 1).toNat)
                case atStart => exact ⟨nf, Nat.le_refl _, by first | rfl | go_num, by rw [Nat.sub_self]; rfl⟩
                case round =>
                  obtain ⟨k, hk, rfl, rfl⟩ := hrel
                  rename (∀ (a : Act) (w : World), Code.wp _ _ _ a w → _) => hcK
                  have HCK := And.intro trivial hcK
                  clear hcK
                  repeat (rename (∀ (a : Act) (w : World), Code.wp _ _ _ a w → _) => hcX; clear hcX)
                  have hcK := HCK.2
                  clear HCK
                  by_cases hk0 : 0 < k
                  · as_aux_lemma =>
                      obtain ⟨k', rfl⟩ : ∃ k', k = k' + 1 := ⟨k - 1, by omega⟩
                      obtain ⟨fu', hfu'⟩ : ∃ y', y.funs[k']? = some y' := ⟨_, List.getElem?_eq_getElem (by rw [← HNF.out]; omega)⟩
                      obtain ⟨-, vp0, vb0, e0, e1, e2, e3, q0, -⟩ := HFE.out k' fu' hfu'
                      obtain rfl := HFA.out (by omega)
                      replace q0 := cellUp q0 HB2.out
                      have HNK : Hid ((y.funs.map (·.name))[k']? = some fu'.name) := hide (by rw [List.getElem?_map, hfu']; rfl)
                      have HSU : Hid (nf - k' = (nf - (k' + 1)) + 1) := hide (by omega)
                      rw [show (((k' + 1 : Nat) : Int) - 1) = (k' : Int) by omega]
                      have hkl : (k' : Int) < (nf : Int) := by omega
                      clear hfu' hk0
                      cases h1 : (fu'.name.toList == fn.toList)
                      · have HLF : Hid (Rn.lowF (y.funs.map (·.name)) fn (nf - k') k' = Rn.lowF (y.funs.map (·.name)) fn (nf - (k' + 1)) (k' + 1)) := hide (by rw [HSU.out]; exact Rn.lowF_no HNK.out h1)
                        go_wp2_with fail
                        go_round
                        case rel => exact ⟨k', by omega, by first | rfl | go_num, by rw [HLF.out]⟩
                        case measure => simp [intOf]; try omega
                      · have HLF : Hid (Rn.lowF (y.funs.map (·.name)) fn (nf - k') k' = k') := hide (by rw [HSU.out]; exact Rn.lowF_yes HNK.out h1)
                        go_wp2_with fail
                        go_round
                        case rel => exact ⟨k', by omega, by first | rfl | go_num, by rw [HLF.out]⟩
                        case measure => simp [intOf]; try omega
                  · obtain rfl : k = 0 := by omega
                    have HLW : Hid (Rn.lowF (y.funs.map (·.name)) fn (nf - 0) 0 = Nm.oI (Nm.fnAt y.funs fn y.funs.length)) := hide (by
                      rw [Nm.fnAt_names]
                      exact Rn.lowF_find _ _ _ _ (by rw [List.length_map, ← HNF.out]; omega) (fun j hj => absurd hj (Nat.not_lt_zero _)))
                    rw [HLW.out]
                    rw [show (((0 : Nat) : Int) - 1) = -1 by omega]
                    clear hk hk0 HLW
                    cases hm : Nm.fnAt y.funs fn y.funs.length with
                    | none =>
                      as_aux_lemma =>
                        have HR2 : Hid (RR = Rn.bad 4) := hide (by rw [HR1.out, hm]; rfl)
                        have hoI : Nm.oI (none : Option Nat) = -1 := rfl
                        rw [hoI]
                        clear hm hoI
                        have r0 := (block_at HW2.out 0).trans rfl
                        have r1 := (block_at HW2.out 1).trans rfl
                        have r2 := (block_at HW2.out 2).trans rfl
                        have r3 := (block_at HW2.out 3).trans rfl
                        have z0 := block_free HW2.out 0
                        have z1 := block_free HW2.out 1
                        have z2 := block_free HW2.out 2
                        have z3 := block_free HW2.out 3
                        go_wp2_with fail
                        obtain ⟨Wf, hWf⟩ : ∃ Wf, Wf = ((((W2.setCell ⟨w.heap.size, 0, none⟩ (.int .i64 0)).setCell ⟨w.heap.size, 1, none⟩ (.slice none 0 0)).setCell ⟨w.heap.size, 2, none⟩ (.slice none 0 0)).setCell ⟨w.heap.size, 3, none⟩ (.slice none 0 0)) := ⟨_, rfl⟩
                        have i4 := set4C HW2.out (.int .i64 0) (.slice none 0 0) (.slice none 0 0) (.slice none 0 0)
                        have HBF : Hid (Below w.heap.size w Wf) := hide (by rw [hWf]; exact (((HB2.out.setCell (by simp) _).setCell (by simp) _).setCell (by simp) _).setCell (by simp) _)
                        rw [← hWf] at i4 ⊢
                        have f0 := (block_at i4 0).trans rfl
                        have f1 := (block_at i4 1).trans rfl
                        have f2 := (block_at i4 2).trans rfl
                        have f3 := (block_at i4 3).trans rfl
                        clear i4
                        refine bodyPost_ret (v := .tuple #[.agg #[.int .i64 0, .slice none 0 0, .slice none 0 0, .slice none 0 0], .int .i64 4]) (by simp [results, Tryz.results18, go_sem, f0, f1, f2, f3]) rfl ?_
                        exact ⟨_, _, _, by rw [HR2.out]; rfl, hide ⟨by rw [HR2.out]; exact OutAt.bad _ _, HBF.out⟩⟩
                    | some k =>
                      rw [hm] at HR1
                      simp only [Option.map_some] at HR1
                      have hkf : k < nf := by
                        rw [HNF.out]
                        unfold Nm.fnAt at hm
                        have := List.mem_of_find?_eq_some hm
                        simpa using this
                      obtain ⟨fu', hfu'⟩ : ∃ y', y.funs[k]? = some y' := ⟨_, List.getElem?_eq_getElem (by rw [← HNF.out]; exact hkf)⟩
                      have HFU := hide hfu'
                      have hoI : Nm.oI (some k) = (k : Int) := rfl
                      rw [hoI]
                      have hk0 : ((k : Int) < 0) = False := eq_false (by omega)
                      clear hm hfu' hoI
                      go_wp2_with fail
                      have H8 : Hid (∀ y ∈ l, y.vars.length ≤ 8) := hide (fun y hy => (Rn.moE_facts (HOK.out.2 y hy)).1)
                      have HL6 : Hid (l.length ≤ 6) := hide HOK.out.1
                      clear g3 hkf hk0 hfl HB2 HW2 HFE HFA
                      go_loopw [21, 22] (fun td ps wx => ∃ q : Nat, q ≤ 2 ∧ ps = .int .i64 q ∧ td = .int .i64 ((if q = 0 then 0 else (Rn.pasT store l 1).length : Nat) : Nat) ∧ ∃ vc, Hid (CbI w1 wx (.slice (some ⟨bl, ol, none⟩) nl cl) fu (Rn.pasT store l q) vc)) (fun _ ps _ => 2 - (intOf ps).toNat)
                      case atStart => exact ⟨0, by omega, rfl, rfl, _, HCB⟩
                      case round =>
                        obtain ⟨q, hq, rfl, rfl, vc, HC⟩ := hrel
                        rename (∀ (a : Act) (w : World), Code.wp _ _ _ a w → _) => hcK
                        have HCK := And.intro trivial hcK
                        clear hcK
                        repeat (rename (∀ (a : Act) (w : World), Code.wp _ _ _ a w → _) => hcX; clear hcX)
                        have hcK := HCK.2
                        clear HCK
                        clear HCB
                        obtain ⟨td, htd⟩ : ∃ n : Nat, n = (if q = 0 then 0 else (Rn.pasT store l 1).length) := ⟨_, rfl⟩
                        have HTD := hide htd
                        rw [← htd]
                        clear htd
                        by_cases hq2 : q < 2
                        · as_aux_lemma =>
                            obtain ⟨P, hP⟩ : ∃ P, P = (q == 0) := ⟨_, rfl⟩
                            have HPP := hide hP
                            have hqP : ((q : Int) == 0) = P := by rw [hP, Bool.eq_iff_iff]; simp
                            have hqd : ((q : Int) < 2) = True := eq_true (by omega)
                            have hqQ : decide ((q : Int) = 0) = P := by rw [hP, Bool.eq_iff_iff]; simp
                            obtain ⟨T0, hT0⟩ : ∃ T, T = Rn.pasT store l q := ⟨_, rfl⟩
                            have HTN : Hid (Rn.pasT store l (q + 1) = Rn.celTo P store l T0 l.length) := hide (by rw [hT0, hP]; rfl)
                            have HTL : Hid (T0.length ≤ 48) := hide (by rw [hT0]; have := Rn.pasT_len (store := store) H8.out HL6.out q; omega)
                            rw [← hT0] at HC
                            clear hP hT0
                            go_wp2_with fail
                            go_loopw [23] (fun i wx => ∃ t : Nat, t ≤ nl ∧ i = .int .i64 t ∧ ∃ vc, Hid (CbI w1 wx (.slice (some ⟨bl, ol, none⟩) nl cl) fu (Rn.celTo P store l T0 t) vc)) (fun i _ => nl - (intOf i).toNat)
                            case atStart => exact ⟨0, Nat.zero_le _, rfl, vc, HC⟩
                            case round =>
                              obtain ⟨t, ht, rfl, vc1, HC1⟩ := hrel
                              try (rename (∀ (a : Act) (w : World), Code.wp _ _ _ a w → _) => hcK0; have HCK0 := And.intro trivial hcK0; clear hcK0)
                              try (rename (∀ (a : Act) (w : World), Code.wp _ _ _ a w → _) => hcK1; have HCK1 := And.intro trivial hcK1; clear hcK1)
                              try (rename (∀ (a : Act) (w : World), Code.wp _ _ _ a w → _) => hcK2; have HCK2 := And.intro trivial hcK2; clear hcK2)
                              repeat (rename (∀ (a : Act) (w : World), Code.wp _ _ _ a w → _) => hcX; clear hcX)
                              try (have hcK2 := HCK2.2; clear HCK2)
                              try (have hcK1 := HCK1.2; clear HCK1)
                              try (have hcK0 := HCK0.2; clear HCK0)
                              clear HC
                              have HBX := hide (up HB1.out HC1.out.bel)
                              by_cases htl : t < nl
                              · as_aux_lemma =>
                                  obtain ⟨z, hz⟩ : ∃ z, l[t]? = some z := ⟨_, List.getElem?_eq_getElem (by rw [← HNL.out]; exact htl)⟩
                                  have HZ := hide hz
                                  obtain ⟨zi, zv, zf, g0, -, g2, -, hmz⟩ := HEL.out t z hz
                                  obtain ⟨xa, xb, xo, xc, rfl, hxa, hxl, hxe⟩ := hmz.split.2.1
                                  have HXE := hide hxe
                                  have HXA := hide hxa
                                  obtain ⟨nv, hnv⟩ : ∃ n, n = z.vars.length := ⟨_, rfl⟩
                                  have HNV := hide hnv
                                  rw [← hnv] at g2 hxl HXA
                                  have HG0 := hide g0
                                  have HG2 := hide g2
                                  replace g0 := cellUp g0 HBX.out
                                  obtain ⟨T1, hT1⟩ : ∃ T, T = Rn.celTo P store l T0 t := ⟨_, rfl⟩
                                  have HT1 := hide hT1
                                  rw [← hT1] at HC1
                                  have hti : (t : Int) < (nl : Int) := by omega
                                  have HV8 : Hid (nv ≤ 8) := hide (by rw [hnv]; exact H8.out z (List.mem_of_getElem? hz))
                                  clear hz hmz hxa hxe hnv g2 hT1
                                  obtain ⟨wo, rfl⟩ : ∃ wo, wo = wr := ⟨_, rfl⟩
                                  go_wp2_with fail
                                  go_loopw [24, 25] (fun b j wx => ∃ u : Nat, u ≤ t ∧ j = .int .i64 u ∧ b = .bool (Rn.isFst l u z.name) ∧ Hid (Below wo.heap.size wo wx)) (fun _ j _ => t - (intOf j).toNat)
                                  case atStart => exact ⟨0, Nat.zero_le _, rfl, by simp [Rn.isFst], hide (Below.refl _ _)⟩
                                  case round =>
                                    obtain ⟨u, hu, rfl, rfl, HBU⟩ := hrel
                                    try (rename (∀ (a : Act) (w : World), Code.wp _ _ _ a w → _) => hcK0; have HCK0 := And.intro trivial hcK0; clear hcK0)
                                    try (rename (∀ (a : Act) (w : World), Code.wp _ _ _ a w → _) => hcK1; have HCK1 := And.intro trivial hcK1; clear hcK1)
                                    try (rename (∀ (a : Act) (w : World), Code.wp _ _ _ a w → _) => hcK2; have HCK2 := And.intro trivial hcK2; clear hcK2)
                                    try (rename (∀ (a : Act) (w : World), Code.wp _ _ _ a w → _) => hcK3; have HCK3 := And.intro trivial hcK3; clear hcK3)
                                    repeat (rename (∀ (a : Act) (w : World), Code.wp _ _ _ a w → _) => hcX; clear hcX)
                                    try (have hcK3 := HCK3.2; clear HCK3)
                                    try (have hcK2 := HCK2.2; clear HCK2)
                                    try (have hcK1 := HCK1.2; clear HCK1)
                                    try (have hcK0 := HCK0.2; clear HCK0)
                                    obtain ⟨F, hF⟩ : ∃ F, F = Rn.isFst l u z.name := ⟨_, rfl⟩
                                    have HF := hide hF
                                    rw [← hF]
                                    clear hF
                                    have g0 := cellUp g0 HBU.out
                                    by_cases hut : u < t
                                    · as_aux_lemma =>
                                        obtain ⟨x, hx⟩ : ∃ x, l[u]? = some x := ⟨_, List.getElem?_eq_getElem (by rw [← HNL.out]; omega)⟩
                                        obtain ⟨-, -, -, k0, -⟩ := HEL.out u x hx
                                        replace k0 := cellUp k0 (up HBX.out HBU.out)
                                        have HST : Hid (Rn.isFst l (u + 1) z.name = (F && !(Nm.sameB x.name z.name))) := hide (by rw [Rn.isFst_succ hx, HF.out])
                                        have hui : (u : Int) < (nl : Int) := by omega
                                        clear hx
                                        cases F
                                        · go_wp2_with fail
                                          go_quiet (fail)
                                          go_wp2_with fail
                                          go_roundw
                                          case rel => exact ⟨u + 1, by omega, by go_num, by rw [HST.out]; rfl, hide (below_drew (n := nq) HBU.out)⟩
                                          case measure => simp [intOf]; omega
                                        · have HSM : Hid (Nm.sameB x.name z.name = (x.name.toList == z.name.toList)) := rfl
                                          cases h1 : (x.name.toList == z.name.toList)
                                          · rw [h1] at HSM
                                            have h1n : (x.name.toList != z.name.toList) = true := by rw [bne, h1]; rfl
                                            go_wp2_with fail
                                            go_quiet (fail)
                                            go_wp2_with fail
                                            go_roundw
                                            case rel => exact ⟨u + 1, by omega, by go_num, by rw [HST.out, HSM.out]; rfl, hide (below_drew (n := nq) HBU.out)⟩
                                            case measure => simp [intOf]; omega
                                          · rw [h1] at HSM
                                            have h1n : (x.name.toList != z.name.toList) = false := by rw [bne, h1]; rfl
                                            go_wp2_with fail
                                            go_quiet (fail)
                                            go_wp2_with fail
                                            go_roundw
                                            case rel => exact ⟨u + 1, by omega, by go_num, by rw [HST.out, HSM.out]; rfl, hide (below_drew (n := nq) HBU.out)⟩
                                            case measure => simp [intOf]; omega
                                    · obtain rfl : u = t := by omega
                                      have HC2 := hide (HC1.out.below HBU.out)
                                      clear hut g0 HC1 HBX HBU hu
                                      by_cases hFP : (F == P) = true
                                      · have HFP : Hid ((Rn.isFst l u z.name == P) = true) := hide (by rw [← HF.out]; exact hFP)
                                        go_wp2_with fail
                                        go_loopw [26] (fun j wx => ∃ e : Nat, e ≤ nv ∧ j = .int .i64 e ∧ ∃ vc, Hid (CbI w1 wx (.slice (some ⟨bl, ol, none⟩) nl cl) fu (Rn.celVs store z.name T1 (z.vars.take e)) vc)) (fun j _ => nv - (intOf j).toNat)
                                        case atStart => exact ⟨0, Nat.zero_le _, rfl, vc1, HC2⟩
                                        case round =>
                                          obtain ⟨e, he, rfl, vc3, HC3⟩ := hrel
                                          try (rename (∀ (a : Act) (w : World), Code.wp _ _ _ a w → _) => hcK0; have HCK0 := And.intro trivial hcK0; clear hcK0)
                                          try (rename (∀ (a : Act) (w : World), Code.wp _ _ _ a w → _) => hcK1; have HCK1 := And.intro trivial hcK1; clear hcK1)
                                          try (rename (∀ (a : Act) (w : World), Code.wp _ _ _ a w → _) => hcK2; have HCK2 := And.intro trivial hcK2; clear hcK2)
                                          try (rename (∀ (a : Act) (w : World), Code.wp _ _ _ a w → _) => hcK3; have HCK3 := And.intro trivial hcK3; clear hcK3)
                                          try (rename (∀ (a : Act) (w : World), Code.wp _ _ _ a w → _) => hcK4; have HCK4 := And.intro trivial hcK4; clear hcK4)
                                          repeat (rename (∀ (a : Act) (w : World), Code.wp _ _ _ a w → _) => hcX; clear hcX)
                                          try (have hcK4 := HCK4.2; clear HCK4)
                                          try (have hcK3 := HCK3.2; clear HCK3)
                                          try (have hcK2 := HCK2.2; clear HCK2)
                                          try (have hcK1 := HCK1.2; clear HCK1)
                                          try (have hcK0 := HCK0.2; clear HCK0)
                                          clear HC2
                                          have HB3 := hide (up HB1.out HC3.out.bel)
                                          have g0 := cellUp HG0.out HB3.out
                                          have g2 := cellUp HG2.out HB3.out
                                          by_cases hev : e < nv
                                          · obtain ⟨v, hv⟩ : ∃ v, z.vars[e]? = some v := ⟨_, List.getElem?_eq_getElem (by rw [← HNV.out]; exact hev)⟩
                                            obtain ⟨-, -, q0, -⟩ := HXE.out e v hv
                                            obtain rfl := HXA.out (by omega)
                                            have HQ0 := hide q0
                                            replace q0 := cellUp q0 HB3.out
                                            have HSN := hide (Rn.celVs_snoc (store := store) (mod := z.name) (T := T1) hv)
                                            have HTB : Hid ((Rn.celVs store z.name T1 (z.vars.take e)).length ≤ 200) := hide (by rw [HT1.out]; exact Rn.T_len H8.out HTL.out (by omega) _ (by rw [List.length_take]; have := HV8.out; omega))
                                            obtain ⟨T3, hT3⟩ : ∃ T, T = Rn.celVs store z.name T1 (z.vars.take e) := ⟨_, rfl⟩
                                            rw [← hT3] at HC3 HSN HTB
                                            obtain ⟨cb, hdm⟩ := HC3.out.dom (nm := []) (vs := []) (ex := T3) rfl hfu rfl (fun v hv => absurd hv (by simp)) (by have := HTB.out; simp; omega) (fun x hx => absurd hx (by simp))
                                            have HDC : Hid (∀ k os, Calls Tryz.prog 68 #[.pointer (some ⟨w1.heap.size, 0, none⟩), .string z.name, .string v.name] (gn wr k os) fun e w' => e = .returned (.int .i64 (Nm.oI (Rn.ceAt T3 z.name v.name))) ∧ w' = gn wr k os) := hide (fun k os => dcell_any (gn wr k os) _ [] _ _ _ [] z.name v.name (hdm.below (below_gn wr k os)))
                                            have hei : (e : Int) < (nv : Int) := by omega
                                            clear hv hT3 hdm
                                            have g0' := cell_gn g0
                                            have g2' := cell_gn g2
                                            have q0' := cell_gn q0
                                            obtain ⟨wo, rfl⟩ : ∃ wo, wo = wr := ⟨_, rfl⟩
                                            cases hce : Rn.ceAt T3 z.name v.name with
                                            | some i =>
                                              as_aux_lemma =>
                                                have HAD : Hid (Rn.addC store T3 z.name v.name = T3) := hide (by unfold Rn.addC; rw [hce]; rfl)
                                                rw [hce] at HDC
                                                have hoI : Nm.oI (some i) = (i : Int) := rfl
                                                rw [hoI] at HDC
                                                clear hce hoI
                                                go_wp2_with fail
                                                refine wp_region_quiet_gn (by kernel_rfl) (by kernel_rfl) ?_
                                                repeat (quiet_step (first | (exact Calls.gn_of' (HDC.out _ _))))
                                                refine wpQuiet_nil ?_
                                                intro w6 hw'
                                                obtain ⟨⟨nq, osq⟩, hw''⟩ := hw'
                                                have HB6 := hide (show Below wo.heap.size wo w6 by rw [hw'']; exact below_gn wo nq osq)
                                                clear hw'' g0 g2 q0 g0' g2' q0'
                                                have hi0 : ((i : Int) ≥ 0) = True := eq_true (by omega)
                                                go_wp2_with fail
                                                go_roundw
                                                case rel => exact ⟨e + 1, by omega, by go_num, vc3, hide (by rw [HSN.out, HAD.out]; exact HC3.out.below HB6.out)⟩
                                                case measure => simp [intOf]; omega
                                            | none =>
                                              have HAD : Hid (Rn.addC store T3 z.name v.name = T3 ++ [⟨z.name, v.name, Rn.val0 store z.name v.name⟩]) := hide (by unfold Rn.addC; rw [hce]; rfl)
                                              rw [hce] at HDC
                                              have hoI : Nm.oI (none : Option Nat) = -1 := rfl
                                              rw [hoI] at HDC
                                              clear hce hoI
                                              go_wp2_with fail
                                              refine wp_region_quiet_gn (by kernel_rfl) (by kernel_rfl) ?_
                                              repeat (quiet_step (first | (exact Calls.gn_of' (HDC.out _ _))))
                                              refine wpQuiet_nil ?_
                                              intro w6 hw'
                                              obtain ⟨⟨nq, osq⟩, hw''⟩ := hw'
                                              have HB6 := hide (show Below wo.heap.size wo w6 by rw [hw'']; exact below_gn wo nq osq)
                                              clear hw'' g0 g2 q0 HDC g0' g2' q0'
                                              have HBW6 := hide (up HB3.out HB6.out)
                                              have g0 := cellUp HG0.out HBW6.out
                                              have g2 := cellUp HG2.out HBW6.out
                                              have q0 := cellUp HQ0.out HBW6.out
                                              go_wp2_with fail
                                              refine wp_region_mask [some false, some false, some false, some false, some true, some false, some false, some false, some false, some true, some false, some false, some false, some true, some false, none, none] 16 (fun w' => w'.cell? ⟨bl, ol + u * 4, none⟩ = some (.string z.name) ∧ w'.cell? ⟨bl, ol + u * 4 + 2, none⟩ = some (.slice (some ⟨xb, xo, none⟩) nv xc) ∧ w'.cell? ⟨xb, xo + e * 2, none⟩ = some (.string v.name)) 2 (by kernel_rfl) (by kernel_rfl) (fun _ _ d _ _ h => (by cases d <;> exact h)) ⟨g0, g2, q0⟩ ?_
                                              dsimp only [maskOps]
                                              refine wpPlain_T (v := ?_) (by rfl) ?_ ?_
                                              rotate_left 1
                                              · (intro w; go_simp; try (with_reducible rfl))
                                              simp only [Act.put, List.setIfInBounds_toArray, List.set_cons_zero, List.set_cons_succ]
                                              refine wpPlain_T (v := ?_) (by rfl) ?_ ?_
                                              rotate_left 1
                                              · (intro w; go_simp; try (with_reducible rfl))
                                              simp only [Act.put, List.setIfInBounds_toArray, List.set_cons_zero, List.set_cons_succ]
                                              refine wpPlain_T (v := ?_) (by rfl) ?_ ?_
                                              rotate_left 1
                                              · (intro w; go_simp; try (with_reducible rfl))
                                              simp only [Act.put, List.setIfInBounds_toArray, List.set_cons_zero, List.set_cons_succ]
                                              refine wpPlain_T (v := ?_) (by rfl) ?_ ?_
                                              rotate_left 1
                                              · (intro w; go_simp; try (with_reducible rfl))
                                              simp only [Act.put, List.setIfInBounds_toArray, List.set_cons_zero, List.set_cons_succ]
                                              refine wpPlain_S (v := ?_) (by rfl) ?_ ?_
                                              rotate_left 1
                                              · (intro w hSw; go_simp; try (with_reducible rfl))
                                              simp only [Act.put, List.setIfInBounds_toArray, List.set_cons_zero, List.set_cons_succ]
                                              refine wpPlain_T (v := ?_) (by rfl) ?_ ?_
                                              rotate_left 1
                                              · (intro w; go_simp; try (with_reducible rfl))
                                              simp only [Act.put, List.setIfInBounds_toArray, List.set_cons_zero, List.set_cons_succ]
                                              refine wpPlain_T (v := ?_) (by rfl) ?_ ?_
                                              rotate_left 1
                                              · (intro w; go_simp; try (with_reducible rfl))
                                              simp only [Act.put, List.setIfInBounds_toArray, List.set_cons_zero, List.set_cons_succ]
                                              refine wpPlain_T (v := ?_) (by rfl) ?_ ?_
                                              rotate_left 1
                                              · (intro w; go_simp; try (with_reducible rfl))
                                              simp only [Act.put, List.setIfInBounds_toArray, List.set_cons_zero, List.set_cons_succ]
                                              refine wpPlain_T (v := ?_) (by rfl) ?_ ?_
                                              rotate_left 1
                                              · (intro w; go_simp; try (with_reducible rfl))
                                              simp only [Act.put, List.setIfInBounds_toArray, List.set_cons_zero, List.set_cons_succ]
                                              refine wpPlain_S (v := ?_) (by rfl) ?_ ?_
                                              rotate_left 1
                                              · (intro w hSw; go_simp; try (with_reducible rfl))
                                              simp only [Act.put, List.setIfInBounds_toArray, List.set_cons_zero, List.set_cons_succ]
                                              refine wpPlain_T (v := ?_) (by rfl) ?_ ?_
                                              rotate_left 1
                                              · (intro w; go_simp; try (with_reducible rfl))
                                              simp only [Act.put, List.setIfInBounds_toArray, List.set_cons_zero, List.set_cons_succ]
                                              refine wpPlain_T (v := ?_) (by rfl) ?_ ?_
                                              rotate_left 1
                                              · (intro w; go_simp; try (with_reducible rfl))
                                              simp only [Act.put, List.setIfInBounds_toArray, List.set_cons_zero, List.set_cons_succ]
                                              refine wpPlain_T (v := ?_) (by rfl) ?_ ?_
                                              rotate_left 1
                                              · (intro w; go_simp; try (with_reducible rfl))
                                              simp only [Act.put, List.setIfInBounds_toArray, List.set_cons_zero, List.set_cons_succ]
                                              refine wpPlain_S (v := ?_) (by rfl) ?_ ?_
                                              rotate_left 1
                                              · (intro w hSw; go_simp; try (with_reducible rfl))
                                              simp only [Act.put, List.setIfInBounds_toArray, List.set_cons_zero, List.set_cons_succ]
                                              refine wpPlain_T (v := ?_) (by rfl) ?_ ?_
                                              rotate_left 1
                                              · (intro w; go_simp; try (with_reducible rfl))
                                              simp only [Act.put, List.setIfInBounds_toArray, List.set_cons_zero, List.set_cons_succ]
                                              refine wpPlain_nil ?_
                                              refine wpAnyG_one (i := 15) (by kernel_rfl) (by rfl) (fun K hK => ?_)
                                              go_simp
                                              refine hK.out _ _ (fun _ => ⟨cellUp g0 (by repeat (first | exact Below.refl _ _ | apply below_drew1 | apply below_al)), cellUp g2 (by repeat (first | exact Below.refl _ _ | apply below_drew1 | apply below_al)), cellUp q0 (by repeat (first | exact Below.refl _ _ | apply below_drew1 | apply below_al))⟩) ?_
                                              clear hK K
                                              refine wpAnyG_one (i := 16) (by kernel_rfl) (by rfl) (fun K hK => ?_)
                                              go_simp
                                              refine hK.out _ _ (fun h => absurd (h.symm.trans (by kernel_rfl)) Bool.false_ne_true) ?_
                                              clear hK K
                                              refine wpAnyG_done (by kernel_rfl) ?_ _
                                              obtain ⟨w7, rfl⟩ : ∃ w7, w7 = w6 := ⟨_, rfl⟩
                                              clear g0 g2 q0
                                              have HC7 := hide (HC3.out.below HB6.out)
                                              have HBW7 := hide HBW6.out
                                              obtain ⟨W8, hW8⟩ : ∃ W8, W8 = (w7.alloc (.cells #[.string z.name, .string v.name, .int .i64 0] 59)).drew := ⟨_, rfl⟩
                                              obtain ⟨B8, hB8⟩ : ∃ b, b = w7.heap.size := ⟨_, rfl⟩
                                              have HB8 : Hid (Below w7.heap.size w7 W8) := hide (by rw [hW8]; exact below_drew1 (boxBelow _ _))
                                              have HX8 : Hid (W8.heap[B8]? = some (.cells #[.string z.name, .string v.name, .int .i64 0] 59 (0, 0))) := hide (by rw [hW8, hB8]; exact block_new _ _)
                                              have HB88 := hide hB8
                                              clear HC3 HB6 HBW6 HB3
                                              rw [← hW8, ← hB8]
                                              clear hW8 hB8
                                              go_wp2_with fail
                                              go_loopw [28] (fun i wx => ∃ k : Nat, k ≤ nst ∧ i = .int .i64 ((k : Int) - 1) ∧ Hid (Below w7.heap.size w7 wx ∧ wx.heap[B8]? = some (.cells #[.string z.name, .string v.name, .int .i64 (Rn.valF store z.name v.name (nst - k) k)] 59 (0, 0)))) (fun i _ => (intOf i + 1).toNat)
                                              case atStart => exact ⟨nst, Nat.le_refl _, by first | rfl | go_num, hide ⟨HB8.out, by rw [Nat.sub_self]; exact HX8.out⟩⟩
                                              case round =>
                                                obtain ⟨k, hk, rfl, HI⟩ := hrel
                                                try (rename (∀ (a : Act) (w : World), Code.wp _ _ _ a w → _) => hcK0; have HCK0 := And.intro trivial hcK0; clear hcK0)
                                                try (rename (∀ (a : Act) (w : World), Code.wp _ _ _ a w → _) => hcK1; have HCK1 := And.intro trivial hcK1; clear hcK1)
                                                try (rename (∀ (a : Act) (w : World), Code.wp _ _ _ a w → _) => hcK2; have HCK2 := And.intro trivial hcK2; clear hcK2)
                                                try (rename (∀ (a : Act) (w : World), Code.wp _ _ _ a w → _) => hcK3; have HCK3 := And.intro trivial hcK3; clear hcK3)
                                                try (rename (∀ (a : Act) (w : World), Code.wp _ _ _ a w → _) => hcK4; have HCK4 := And.intro trivial hcK4; clear hcK4)
                                                try (rename (∀ (a : Act) (w : World), Code.wp _ _ _ a w → _) => hcK5; have HCK5 := And.intro trivial hcK5; clear hcK5)
                                                repeat (rename (∀ (a : Act) (w : World), Code.wp _ _ _ a w → _) => hcX; clear hcX)
                                                try (have hcK5 := HCK5.2; clear HCK5)
                                                try (have hcK4 := HCK4.2; clear HCK4)
                                                try (have hcK3 := HCK3.2; clear HCK3)
                                                try (have hcK2 := HCK2.2; clear HCK2)
                                                try (have hcK1 := HCK1.2; clear HCK1)
                                                try (have hcK0 := HCK0.2; clear HCK0)
                                                clear HB8 HX8
                                                by_cases hk0 : 0 < k
                                                · as_aux_lemma =>
                                                    obtain ⟨k', rfl⟩ : ∃ k', k = k' + 1 := ⟨k - 1, by omega⟩
                                                    obtain ⟨y', hy'⟩ : ∃ y', store[k']? = some y' := ⟨_, List.getElem?_eq_getElem (by rw [← HNS.out]; omega)⟩
                                                    obtain ⟨-, s0, s1, s2⟩ := HSE.out k' y' hy'
                                                    obtain rfl := HAS.out (by omega)
                                                    have hbw := up HBW7.out HI.out.1
                                                    replace s0 := cellUp s0 hbw
                                                    replace s1 := cellUp s1 hbw
                                                    replace s2 := cellUp s2 hbw
                                                    have r0 := (block_at HI.out.2 0).trans rfl
                                                    have r1 := (block_at HI.out.2 1).trans rfl
                                                    have r2 := (block_at HI.out.2 2).trans rfl
                                                    have z2 := block_free HI.out.2 2
                                                    have HSU : Hid (nst - k' = (nst - (k' + 1)) + 1) := hide (by omega)
                                                    have HYK := hide hy'
                                                    rw [show (((k' + 1 : Nat) : Int) - 1) = (k' : Int) by omega]
                                                    have hkl : (k' : Int) < (nst : Int) := by omega
                                                    have HIC : Hid (Rn.isC z.name v.name y' = ((y'.mod.toList == z.name.toList) && (y'.name.toList == v.name.toList))) := rfl
                                                    obtain ⟨V0, hV0⟩ : ∃ V, V = Rn.valF store z.name v.name (nst - (k' + 1)) (k' + 1) := ⟨_, rfl⟩
                                                    have HV0 := hide hV0
                                                    rw [← hV0] at HI r2
                                                    have hB8w : w7.heap.size ≤ B8 := by rw [HB88.out]; exact Nat.le_refl _
                                                    have HB8W := hide hB8w
                                                    clear hy' hk0 hbw hV0 hB8w
                                                    obtain ⟨wq, rfl⟩ : ∃ wq, wq = wr := ⟨_, rfl⟩
                                                    cases h1 : (y'.mod.toList == z.name.toList)
                                                    · rw [h1, Bool.false_and] at HIC
                                                      have HVF : Hid (Rn.valF store z.name v.name (nst - k') k' = V0) := hide (by rw [HSU.out, Rn.valF_no HYK.out HIC.out, HV0.out])
                                                      go_wp2_with fail
                                                      go_quiet (fail)
                                                      go_wp2_with fail
                                                      go_roundw
                                                      case rel => exact ⟨k', by omega, by first | rfl | go_num, hide ⟨below_drew (n := nq) HI.out.1, by rw [HVF.out]; exact HI.out.2⟩⟩
                                                      case measure => simp [intOf]; try omega
                                                    · rw [h1, Bool.true_and] at HIC
                                                      cases h2 : (y'.name.toList == v.name.toList)
                                                      · rw [h2] at HIC
                                                        have HVF : Hid (Rn.valF store z.name v.name (nst - k') k' = V0) := hide (by rw [HSU.out, Rn.valF_no HYK.out HIC.out, HV0.out])
                                                        go_wp2_with fail
                                                        go_quiet (fail)
                                                        go_wp2_with fail
                                                        go_roundw
                                                        case rel => exact ⟨k', by omega, by first | rfl | go_num, hide ⟨below_drew (n := nq) HI.out.1, by rw [HVF.out]; exact HI.out.2⟩⟩
                                                        case measure => simp [intOf]; try omega
                                                      · rw [h2] at HIC
                                                        have HVF : Hid (Rn.valF store z.name v.name (nst - k') k' = y'.val) := hide (by rw [HSU.out, Rn.valF_yes HYK.out HIC.out])
                                                        go_wp2_with fail
                                                        go_quiet (fail)
                                                        go_wp2_with fail
                                                        go_roundw
                                                        case rel => exact ⟨k', by omega, by first | rfl | go_num, hide ⟨(below_drew (n := nq) HI.out.1).setCell HB8W.out _, by rw [HVF.out]; exact (block_set (show (wq.drewN nq).heap[B8]? = _ from HI.out.2) 2 _).trans rfl⟩⟩
                                                        case measure => simp [intOf]; try omega
                                                · as_aux_lemma =>
                                                    obtain rfl : k = 0 := by omega
                                                    rw [show (((0 : Nat) : Int) - 1) = -1 by omega]
                                                    have HVV : Hid (Rn.valF store z.name v.name (nst - 0) 0 = Rn.val0 store z.name v.name) := hide (Rn.valF_find _ _ _ _ _ (by rw [← HNS.out]; omega) (fun j g hj => absurd hj (Nat.not_lt_zero _)))
                                                    rw [HVV.out] at HI
                                                    obtain ⟨V0, hV0⟩ : ∃ V, V = Rn.val0 store z.name v.name := ⟨_, rfl⟩
                                                    rw [← hV0] at HI HAD
                                                    have HC9 := hide (HC7.out.below HI.out.1)
                                                    obtain ⟨w9, rfl⟩ : ∃ w9, w9 = wr := ⟨_, rfl⟩
                                                    obtain ⟨pa, pc, hvc⟩ := HC9.out.row.form
                                                    obtain ⟨nt, hnt⟩ : ∃ n, n = T3.length := ⟨_, rfl⟩
                                                    have HNT := hide hnt
                                                    rw [← hnt] at hvc
                                                    subst hvc
                                                    have c1 := (block_at HC9.out.blk 1).trans rfl
                                                    have r0 := (block_at HI.out.2 0).trans rfl
                                                    have r1 := (block_at HI.out.2 1).trans rfl
                                                    have r2 := (block_at HI.out.2 2).trans rfl
                                                    have zp : w1.heap.size < w9.heap.size := block_lt HC9.out.blk
                                                    have zB : B8 < w9.heap.size := block_lt HI.out.2
                                                    have HBASE : Hid (∀ wx, Below w9.heap.size w9 wx → w1.heap.size ≤ wx.heap.size) := hide (fun wx hb => Nat.le_trans HC9.out.bel.size hb.size)
                                                    clear hk0 hk hV0 hnt HVV
                                                    go_wp2_with fail
                                                    refine wp_region_mask [some false, some false, some false, some false, some true, some true, none, none, none, none, none] 8 (fun w' => w'.cell? ⟨w1.heap.size, 1, none⟩ = some (.slice pa nt pc) ∧ w'.cell? ⟨B8, 0, none⟩ = some (.string z.name) ∧ w'.cell? ⟨B8, 1, none⟩ = some (.string v.name) ∧ w'.cell? ⟨B8, 2, none⟩ = some (.int .i64 V0)) 5 (by kernel_rfl) (by kernel_rfl) (fun _ _ d _ _ h => (by cases d <;> exact h)) ⟨c1, r0, r1, r2⟩ ?_
                                                    dsimp only [maskOps]
                                                    refine wpPlain_T (v := ?_) (by rfl) ?_ ?_
                                                    rotate_left 1
                                                    · (intro w; go_simp; try (with_reducible rfl))
                                                    simp only [Act.put, List.setIfInBounds_toArray, List.set_cons_zero, List.set_cons_succ]
                                                    refine wpPlain_T (v := ?_) (by rfl) ?_ ?_
                                                    rotate_left 1
                                                    · (intro w; go_simp; try (with_reducible rfl))
                                                    simp only [Act.put, List.setIfInBounds_toArray, List.set_cons_zero, List.set_cons_succ]
                                                    refine wpPlain_T (v := ?_) (by rfl) ?_ ?_
                                                    rotate_left 1
                                                    · (intro w; go_simp; try (with_reducible rfl))
                                                    simp only [Act.put, List.setIfInBounds_toArray, List.set_cons_zero, List.set_cons_succ]
                                                    refine wpPlain_T (v := ?_) (by rfl) ?_ ?_
                                                    rotate_left 1
                                                    · (intro w; go_simp; try (with_reducible rfl))
                                                    simp only [Act.put, List.setIfInBounds_toArray, List.set_cons_zero, List.set_cons_succ]
                                                    refine wpPlain_S (v := ?_) (by rfl) ?_ ?_
                                                    rotate_left 1
                                                    · (intro w hSw; go_simp; try (with_reducible rfl))
                                                    simp only [Act.put, List.setIfInBounds_toArray, List.set_cons_zero, List.set_cons_succ]
                                                    refine wpPlain_S (v := ?_) (by rfl) ?_ ?_
                                                    rotate_left 1
                                                    · (intro w hSw; go_simp; try (with_reducible rfl))
                                                    simp only [Act.put, List.setIfInBounds_toArray, List.set_cons_zero, List.set_cons_succ]
                                                    refine wpPlain_nil ?_
                                                    refine wpAnyG_one (i := 6) (by kernel_rfl) (by rfl) (fun K hK => ?_)
                                                    go_simp
                                                    refine hK.out _ _ (fun _ => ⟨cellUp c1 (by repeat (first | exact Below.refl _ _ | apply below_drew1 | apply below_al)), cellUp r0 (by repeat (first | exact Below.refl _ _ | apply below_drew1 | apply below_al)), cellUp r1 (by repeat (first | exact Below.refl _ _ | apply below_drew1 | apply below_al)), cellUp r2 (by repeat (first | exact Below.refl _ _ | apply below_drew1 | apply below_al))⟩) ?_
                                                    clear hK K
                                                    refine wpAnyG_one (i := 7) (by kernel_rfl) (by rfl) (fun K hK => ?_)
                                                    refine step_append_KL (At := CeC) (by rfl) _ _ 48 59 3 40 _ (by rfl) Tryz.underlying48 infoCe (by decide) (by decide) (by decide) w1.heap.size _ T3 (by rfl) (HC9.out.row.below (by repeat (first | exact Below.refl _ _ | apply below_drew1 | apply below_al))) _ [.string z.name, .string v.name, .int .i64 V0] ⟨z.name, v.name, V0⟩ (by rfl) (fun j u hu => (by have hj := (List.getElem?_eq_some_iff.1 hu).1; simp at hj; obtain rfl | rfl | rfl : j = 0 ∨ j = 1 ∨ j = 2 := (by omega); all_goals (simp at hu; subst hu; simp [go_sem]))) rfl (CeC.one (d := ⟨z.name, v.name, V0⟩) rfl) rfl (by have := HTB.out; omega) (HBASE.out _ (by repeat (first | exact Below.refl _ _ | apply below_drew1 | apply below_al))) ?_
                                                    intro g7 cap7 w10 hown7 hgrow7 hlie7
                                                    have HPU := hide (CbI.push (wx := w9.drew) (ob := (.cells #[.string z.name, .string v.name, .int .i64 V0] 59)) (HC9.out.below (below_drew1 (Below.refl _ _))) hown7 hgrow7)
                                                    have u1 := (block_at HPU.out.1 1).trans rfl
                                                    have z1 := block_free HPU.out.1 1
                                                    have hb10 := grown_keep (w := w9) (by repeat (first | exact Below.refl _ _ | apply below_drew1 | apply below_al)) hgrow7 B8 _ HI.out.2 (fun e => by have h1 := (HC7.out.row.lt _ e).2; have h2 := HB88.out; omega)
                                                    have r0' := (block_at hb10 0).trans rfl
                                                    have r1' := (block_at hb10 1).trans rfl
                                                    have r2' := (block_at hb10 2).trans rfl
                                                    clear hown7 hgrow7 hlie7 hb10
                                                    refine hK.out _ _ (fun _ => ⟨u1, r0', r1', r2'⟩) ?_
                                                    clear hK K
                                                    simp only [Act.put, List.setIfInBounds_toArray]
                                                    refine wpAnyG_one (i := 8) (by kernel_rfl) (by rfl) (fun K hK => ?_)
                                                    go_simp
                                                    refine hK.out _ _ (fun h => absurd (h.symm.trans (by kernel_rfl)) Bool.false_ne_true) ?_
                                                    clear hK K
                                                    refine wpAnyG_one (i := 9) (by kernel_rfl) (by rfl) (fun K hK => ?_)
                                                    go_simp
                                                    refine hK.out _ _ (fun h => absurd (h.symm.trans (by kernel_rfl)) Bool.false_ne_true) ?_
                                                    clear hK K
                                                    refine wpAnyG_one (i := 10) (by kernel_rfl) (by rfl) (fun K hK => ?_)
                                                    go_simp
                                                    refine hK.out _ _ (fun h => absurd (h.symm.trans (by kernel_rfl)) Bool.false_ne_true) ?_
                                                    clear hK K
                                                    refine wpAnyG_done (by kernel_rfl) ?_ _
                                                    go_wp2_with fail
                                                    go_roundw
                                                    case rel => exact ⟨e + 1, by omega, by go_num, _, hide (by rw [HSN.out, HAD.out]; exact HPU.out.2)⟩
                                                    case measure => simp [intOf]; omega
                                          · as_aux_lemma =>
                                              have hee : e = nv := by omega
                                              have HTE : Hid (Rn.celVs store z.name T1 (z.vars.take e) = Rn.celTo P store l T0 (u + 1)) := hide (by rw [hee, HNV.out, List.take_length, Rn.celTo_yes HZ.out HFP.out, HT1.out])
                                              rw [HTE.out] at HC3
                                              clear hee HTE
                                              go_wp2_with fail
                                              go_roundw
                                              case rel => exact ⟨u + 1, by omega, by go_num, vc3, HC3⟩
                                              case measure => simp [intOf]; omega
                                      · as_aux_lemma =>
                                          have hFP' : (F == P) = false := by simpa using hFP
                                          have HTE : Hid (Rn.celTo P store l T0 (u + 1) = T1) := hide (by rw [Rn.celTo_no HZ.out (by rw [← HF.out]; exact hFP'), HT1.out])
                                          have HB3 := hide (up HB1.out HC2.out.bel)
                                          have g2 := cellUp HG2.out HB3.out
                                          clear hFP
                                          obtain ⟨wo2, rfl⟩ : ∃ wo, wo = wr := ⟨_, rfl⟩
                                          go_wp2_with fail
                                          go_loopw [26] (fun j wx => j = .int .i64 0 ∧ wx = wo2) (fun _ _ => 0)
                                          case atStart => exact ⟨rfl, rfl⟩
                                          case round =>
                                            obtain ⟨rfl, hwx⟩ := hrel
                                            rw [hwx]
                                            clear hwx
                                            by_cases hnv0 : 0 < nv
                                            · have hnvi : ((0 : Int) < (nv : Int)) = True := eq_true (by omega)
                                              go_wp2_with fail
                                              go_roundw
                                              case rel => exact ⟨u + 1, by omega, by go_num, vc1, hide (by rw [HTE.out]; exact HC2.out)⟩
                                              case measure => simp [intOf]; omega
                                            · obtain rfl : nv = 0 := by omega
                                              go_wp2_with fail
                                              go_roundw
                                              case rel => exact ⟨u + 1, by omega, by go_num, vc1, hide (by rw [HTE.out]; exact HC2.out)⟩
                                              case measure => simp [intOf]; omega
                              · as_aux_lemma =>
                                  have hte : t = nl := by omega
                                  have HTE : Hid (Rn.celTo P store l T0 t = Rn.pasT store l (q + 1)) := hide (by rw [HTN.out, hte, HNL.out])
                                  rw [HTE.out] at HC1
                                  obtain ⟨pa, pc, hvc⟩ := HC1.out.row.form
                                  obtain ⟨nt, hnt⟩ : ∃ n, n = (Rn.pasT store l (q + 1)).length := ⟨_, rfl⟩
                                  have HNT := hide hnt
                                  rw [← hnt] at hvc
                                  subst hvc
                                  have c1 := (block_at HC1.out.blk 1).trans rfl
                                  clear hte hnt HTE
                                  cases P
                                  · have HQ1 : Hid (q ≠ 0) := hide (by have := HPP.out; intro h; subst h; simp at this)
                                    go_wp2_with fail
                                    go_roundw
                                    case rel => exact ⟨q + 1, by omega, by go_num, by rw [HTD.out, if_neg HQ1.out, if_neg (by omega)], _, HC1⟩
                                    case measure => simp [intOf]; omega
                                  · have HQ0 : Hid (q = 0) := hide (by have := HPP.out; simpa using this.symm)
                                    go_wp2_with fail
                                    go_roundw
                                    case rel => exact ⟨q + 1, by omega, by go_num, by rw [if_neg (by omega), HNT.out, HQ0.out], _, HC1⟩
                                    case measure => simp [intOf]; omega
                        · have hq2' : q = 2 := by omega
                          subst hq2'
                          obtain ⟨stt, hstt⟩ : ∃ z, z = Rn.mkTo store l l.length := ⟨_, rfl⟩
                          have HST := hide hstt
                          rw [← hstt] at HR1
                          have hmk := Rn.mk_sto (store := store) (l := l) l.length
                          rw [← hstt] at hmk
                          have hp1 : Rn.pasT store l 1 = Rn.sto stt.1 stt.2 := hmk.1
                          obtain ⟨ex, hex, hexl⟩ := Rn.celTo_pre (p := false) (store := store) H8.out (Rn.pasT store l 1) l.length
                          have hT2 : Rn.pasT store l 2 = Rn.sto stt.1 stt.2 ++ ex := by
                            rw [← hp1]
                            exact hex
                          have HTD2 : Hid (td = stt.1.length) := hide (by rw [HTD.out, if_neg (by omega), hp1, Rn.sto_len hmk.2])
                          have hnm : stt.1.length ≤ 48 := by
                            rw [hstt]
                            have := Rn.mkTo_len (store := store) H8.out l.length
                            have := HL6.out
                            omega
                          have HVS : Hid (∀ v ∈ stt.2, (I64 v.val) ∧ v.rd = false ∧ v.st = false) := hide (fun v hv => by
                            rw [hstt] at hv
                            obtain ⟨x, y, rfl⟩ := Rn.mkTo_vals hv
                            exact ⟨Rn.val0_64 (fun c hc => by
                              obtain ⟨i, hi, e⟩ := List.mem_iff_getElem.1 hc
                              exact (HSE.out i c (by rw [List.getElem?_eq_getElem hi, e])).1) x y, rfl, rfl⟩)
                          obtain ⟨cb, hdm⟩ := HC.out.dom hT2 hfu hmk.2 (fun v hv => (HVS.out v hv).1) (by have := HL6.out; omega) (fun x hx => by rw [hstt] at hx; exact Rn.mkTo_small HOK.out.2 hx)
                          have HDM := hide hdm
                          have hshape := HC.out.row.shape
                          rw [hT2] at hshape
                          obtain ⟨ca0, cc0, hvc0, hcc0, hca⟩ : ∃ a cc, vc = .slice a (Rn.sto stt.1 stt.2 ++ ex).length cc ∧ (Rn.sto stt.1 stt.2 ++ ex).length ≤ cc ∧ (a = none ∨ ∃ g, a = some ⟨g, 0, none⟩) := by
                            rcases hshape with ⟨h1, h2⟩ | ⟨g', cap', h1, h2, _⟩
                            · exact ⟨none, 0, by rw [h1, h2]; rfl, by rw [h2]; exact Nat.le_refl _, Or.inl rfl⟩
                            · exact ⟨_, cap', h1, h2, Or.inr ⟨g', rfl⟩⟩
                          have HVC0 := hide hvc0
                          have HCC0 := hide hcc0
                          have HCA0 := hide hca
                          have HTDL : Hid (td ≤ (Rn.sto stt.1 stt.2 ++ ex).length) := hide (by rw [HTD2.out, List.length_append, Rn.sto_len hmk.2]; omega)
                          have HLS : Hid (stt.2.length = stt.1.length) := hide hmk.2
                          have HBX := hide (up HB1.out HC.out.bel)
                          have HWX := hide (at_upD HW1.out HC.out.bel)
                          obtain ⟨cdc, hcdc⟩ : ∃ c : Dc, c = ⟨w1.heap.size, w1.heap.size, cb, (.slice (some ⟨bl, ol, none⟩) nl cl), vc, ex⟩ := ⟨_, rfl⟩
                          rw [← hcdc] at HDM
                          have HCD : Hid (cdc.n = w1.heap.size ∧ cdc.p = w1.heap.size ∧ cdc.vl = (.slice (some ⟨bl, ol, none⟩) nl cl) ∧ cdc.vc = vc ∧ cdc.ex = ex) := hide (by rw [hcdc]; exact ⟨rfl, rfl, rfl, rfl, rfl⟩)
                          have hM1 : MosAt w1 m (.slice (some ⟨bl, ol, none⟩) nl cl) l := by rw [HNL.out]; rw [HNL.out] at HL; exact HL.out.below HB1.out
                          have HFUN : Hid (FunsOk m l) := hide (fun a x hx f fu hf => ⟨(moE_funs (HOK.out.2 x (List.mem_of_getElem? hx)) hf).1, (moE_funs (HOK.out.2 x (List.mem_of_getElem? hx)) hf).2.1⟩)
                          have HFI : Hid (Firsts stt.1 l) := hide (by rw [hstt]; exact Rn.mk_firsts HOK.out.2)
                          obtain ⟨hev, hbo⟩ := dall_ok w1 cdc stt.1 l m (m + 2) (Nat.le_refl _) HCD.out.1 (by rw [HCD.out.2.2.1]; exact hM1) HFI.out HFUN.out g
                          have HCA := hide (dcall_step w1 cdc stt.1 l m (m + 2) _ g HCD.out.1 (by rw [HCD.out.2.2.1]; exact hM1) (Rn.M_le stt.1 l g) hev hbo HFUN.out)
                          obtain ⟨E, hE⟩ : ∃ E, E = Rn.enter (Rn.M stt.1 l g) l a k args ⟨fu, stt.2, []⟩ := ⟨_, rfl⟩
                          have HEE := hide hE
                          rw [← hE] at HR1
                          have HDID : Hid (Rn.DidOk stt.1 ⟨fu, stt.2, []⟩ []) := hide (Rn.did_none (fun v hv => (HVS.out v hv).2))
                          have hkf : k < y.funs.length := (List.getElem?_eq_some_iff.1 HFU.out).1
                          obtain ⟨h8y, hposy⟩ := HFI.out a y HY.out HFS.out
                          have HMY1 : Hid (MoAt w1 m (.agg #[.string y.name, yi, yv, .slice fa nf fc]) y) := hide (HMY.out.below HB1.out)
                          have HCALL : Hid (Calls Tryz.prog 69 #[.pointer (some ⟨w1.heap.size, 0, none⟩), .agg #[.string y.name, yi, yv, .slice fa nf fc], .int .i64 k, .slice aa na ca] wr fun r w' => r = .returned (.tuple #[.int .i64 E.1, .int .i64 E.2.1]) ∧ Hid (AfE wr w' cdc stt.1 (.slice none 0 0) (.slice none 0 0) E.2.2 ∧ I64 E.1)) := hide (by
                            by_cases hna : args.length ≤ 4
                            · have := HCA.out wr ⟨fu, stt.2, []⟩ (.slice none 0 0) (.slice none 0 0) [] a y k args (.slice aa na ca) yi yv (.slice fa nf fc) HC.out.bel HDM.out HDID.out HY.out hkf hposy h8y HMY1.out (HA.out.below HBX.out) HAI.out hna (by
                                have h1 := HG.out
                                have h2 : fu * (m + 2) ≤ 10000 * (m + 2) := Nat.mul_le_mul_right _ hfu
                                show fu * (m + 2) + m ≤ g
                                omega)
                              rw [HCD.out.2.1, ← hE] at this
                              exact this
                            · have hp4 := (moE_funs (HOK.out.2 y (List.mem_of_getElem? HY.out)) HFU.out).2.2
                              have hEv : E = (0, 5, ⟨fu, stt.2, []⟩) := by
                                rw [hE]
                                unfold Rn.enter
                                rw [HY.out]
                                simp only [Option.bind_some, HFU.out]
                                rw [if_neg (by omega)]
                              have := dcall_len w1 wr cdc m y k fu' args (.slice aa na ca) yi yv (.slice fa nf fc) HC.out.bel HMY1.out HFU.out (HA.out.below HBX.out) (by omega)
                              rw [HCD.out.2.1] at this
                              rw [hEv]
                              exact this.mono (fun r w' ⟨h1, h2⟩ => ⟨h1, hide ⟨⟨_, _, _, HDM.out.below h2, HDID.out, Kq.of_below h2 HDM.out.nle⟩, by unfold I64; omega⟩⟩))
                          have HPRN : Hid (E.2.2.pr.length ≤ 10000) := hide (by
                            have h1 := Rn.enter_mea (Rn.M_tot stt.1 l g) l a k args ⟨fu, stt.2, []⟩
                            rw [← hE] at h1
                            simp only [List.length_nil] at h1
                            omega)
                          have g0 := cellUp HG4.out.1 HBX.out
                          have g1 := cellUp HG4.out.2.1 HBX.out
                          have g2 := cellUp HG4.out.2.2.1 HBX.out
                          have g3 := cellUp HG4.out.2.2.2 HBX.out
                          obtain ⟨wo, rfl⟩ : ∃ wo, wo = wr := ⟨_, rfl⟩
                          have HW1S : Hid (w.heap.size < w1.heap.size) := hide (block_lt HW1.out)
                          obtain ⟨ia, ib, io, ic, rfl, -⟩ := HMY1.out.split.1
                          obtain ⟨xa, xb, xo, xc, rfl, -⟩ := HMY1.out.split.2.1
                          generalize y.imports.length = ni at *
                          generalize y.vars.length = nv at *
                          clear hstt hmk hp1 hex hT2 hnm hdm hshape hcdc hM1 hev hbo hE hkf h8y hposy hq hq2 HC HMY1 HCA HMY hvc0 hcc0 hca
                          go_wp2_with fail
                          refine HCALL.out.mono ?_
                          rintro r w5 ⟨rfl, HM5⟩
                          rename (∀ (a : Act) (w : World), Code.wp _ _ _ a w → _) => hcK
                          have HCK := And.intro trivial hcK
                          clear hcK
                          rename (∀ (a : Act) (w : World), Code.wp _ _ _ a w → _) => hcL
                          have HCL := And.intro trivial hcL
                          clear hcL
                          repeat (rename (∀ (a : Act) (w : World), Code.wp _ _ _ a w → _) => hcX; clear hcX)
                          have hcL := HCL.2
                          have hcK := HCK.2
                          clear HCK HCL
                          clear g0 g1 g2 g3 HCALL
                          obtain ⟨⟨vp5, vd5, D5, hm5, hd5, hk5⟩, hi5⟩ := HM5.out
                          have HDM5 := hide hm5
                          have HDD5 := hide hd5
                          have HB5 : Hid (Below w.heap.size w w5) := hide (HBX.out.trans (hk5.below.mono (by rw [HCD.out.1]; exact Nat.le_of_lt HW1S.out)))
                          have HW5 : Hid (w5.heap[w.heap.size]? = some (.cells #[.int .i64 0, .slice none 0 0, .slice none 0 0, .slice none 0 0] 54 (0, 0))) := hide (by rw [hk5.below.block _ (by rw [HCD.out.1]; exact HW1S.out)]; exact HWX.out)
                          clear hm5 hd5 hk5 hi5 HM5 HDM HWX HBX
                          by_cases he : E.2.1 = 0
                          · unfold Rn.out at HR1
                            rw [if_pos he] at HR1
                            rw [he]
                            clear he
                            obtain ⟨nt, hnt⟩ : ∃ n, n = (Rn.sto stt.1 stt.2 ++ ex).length := ⟨_, rfl⟩
                            have hvc0 := HVC0.out
                            have HTT : Hid ((cdc.tot stt.1 E.2.2).length = nt) := hide (by
                              unfold Dc.tot
                              rw [hnt, HCD.out.2.2.2.2, List.length_append, List.length_append, Rn.sto_len HLS.out, Rn.sto_len HDM5.out.lens])
                            have htn : td ≤ nt := by rw [hnt]; exact HTDL.out
                            have htc : nt ≤ cc0 := by rw [hnt]; exact HCC0.out
                            rw [← hnt] at hvc0
                            have HVC : Hid (cdc.vc = .slice ca0 (cdc.tot stt.1 E.2.2).length cc0) := hide (by rw [HCD.out.2.2.2.1, hvc0, HTT.out])
                            have hblk := HDM5.out.blk
                            rw [HCD.out.2.1, HCD.out.2.2.1, HCD.out.2.2.2.1, hvc0] at hblk
                            obtain ⟨pa, pc, hvp⟩ := HDM5.out.pr.form
                            obtain ⟨da, dc, hvd⟩ := HDM5.out.did.formD
                            obtain ⟨np, hnp⟩ : ∃ n, n = E.2.2.pr.length := ⟨_, rfl⟩
                            obtain ⟨nd, hnd⟩ : ∃ n, n = D5.length := ⟨_, rfl⟩
                            rw [← hnp] at hvp
                            rw [← hnd] at hvd
                            have HND := hide hnd
                            subst hvp hvd
                            have HSORT : Hid (∀ W6, (∀ k ob, w5.heap[k]? = some ob → k ≠ w1.heap.size → W6.heap[k]? = some ob) → w1.heap.size ≤ W6.heap.size → Calls Tryz.prog 70 #[.slice da nd dc] W6 fun e w' => e = .returned (.tuple #[]) ∧ Hid ((∀ k ob, W6.heap[k]? = some ob → (Value.slice da nd dc).ownBlock ≠ some k → w'.heap[k]? = some ob) ∧ Below w1.heap.size W6 w' ∧ ((D5 = [] ∧ (Value.slice da nd dc) = .slice none 0 0) ∨ ∃ g cap, (Value.slice da nd dc) = .slice (some ⟨g, 0, none⟩) D5.length cap ∧ RowS w' g (Rn.srtS D5) ∧ w1.heap.size < g))) := hide (fun W6 hk6 hs6 => by
                              have hne : (Value.slice da nd dc).ownBlock ≠ some w1.heap.size := by have := HDM5.out.pd; rw [HCD.out.2.1] at this; exact this
                              rcases HDM5.out.did.shape with ⟨h1, h2⟩ | ⟨g', cap', h1, _, _⟩
                              · injection h1 with e1 e2 e3
                                subst e1 e2 e3
                                exact (sortS_none W6 none 0).mono (fun e w' ⟨h3, h4⟩ => ⟨h3, hide ⟨fun k ob ho _ => by rw [h4]; exact ho, by rw [h4]; exact Below.refl _ _, Or.inl ⟨h2, rfl⟩⟩⟩)
                              · injection h1 with e1 e2 e3
                                subst e1 e3
                                have hrow : Own w5 cdc.n (.slice (some ⟨g', 0, none⟩) nd dc) D5 := HDM5.out.did
                                have hgn := (World.ownsRow.lt hrow g' rfl).1
                                rw [HCD.out.1] at hgn
                                have hg1 : g' ≠ w1.heap.size := fun e => hne (by rw [← e]; rfl)
                                have hr5 := hrow.rowS
                                have hr6 : RowS W6 g' D5 := by
                                  obtain ⟨cur, hc, hr⟩ := hr5
                                  exact ⟨cur, hk6 _ _ hc hg1, hr⟩
                                refine (sortS_any W6 g' nd dc D5 hr6 HND.out (by have := HDM5.out.lenD; omega)).mono (fun e w' ⟨h3, h4, h5⟩ => ⟨h3, hide ⟨fun k ob ho hk => h5.at (fun e => hk (by rw [e]; rfl)) ho, h5.below hgn hs6, Or.inr ⟨g', dc, by rw [HND.out], h4, by omega⟩⟩⟩))
                            have hsw : w1.heap.size < w5.heap.size := block_lt hblk
                            have c1 := (block_at hblk 1).trans rfl
                            have q2 := (block_at hblk 2).trans rfl
                            have z2 := block_free hblk 2
                            have hb2 := block_set hblk 2 (.int .i64 E.1)
                            have q3 := (block_at hb2 3).trans rfl
                            have z3 := block_free hb2 3
                            have htci : (td : Int) ≤ (cc0 : Int) := by omega
                            have htc' : td ≤ cc0 := by omega
                            have HBK := hide hblk
                            have hca := HCA0.out
                            clear hblk hvc0 hnt hnp hnd
                            rcases hca with rfl | ⟨gc, rfl⟩
                            · as_aux_lemma =>
                                go_wp2_with fail
                                refine wp_region_mask [some false, some false, some false, some false, some false, some false, some true, some false, some false, none, none, none, none, none, none, none, none] 9 (fun w' => w'.cell? ⟨w1.heap.size, 1, none⟩ = some (.slice none nt cc0)) 8 (by kernel_rfl) (by kernel_rfl) (fun _ _ d _ _ h => (by cases d <;> exact h)) c1 ?_
                                dsimp only [maskOps]
                                refine wpPlain_T (v := ?_) (by rfl) ?_ ?_
                                rotate_left 1
                                · (intro w; go_simp; try (with_reducible rfl))
                                simp only [Act.put, List.setIfInBounds_toArray, List.set_cons_zero, List.set_cons_succ]
                                refine wpPlain_T (v := ?_) (by rfl) ?_ ?_
                                rotate_left 1
                                · (intro w; go_simp; try (with_reducible rfl))
                                simp only [Act.put, List.setIfInBounds_toArray, List.set_cons_zero, List.set_cons_succ]
                                refine wpPlain_T (v := ?_) (by rfl) ?_ ?_
                                rotate_left 1
                                · (intro w; go_simp; try (with_reducible rfl))
                                simp only [Act.put, List.setIfInBounds_toArray, List.set_cons_zero, List.set_cons_succ]
                                refine wpPlain_T (v := ?_) (by rfl) ?_ ?_
                                rotate_left 1
                                · (intro w; go_simp; try (with_reducible rfl))
                                simp only [Act.put, List.setIfInBounds_toArray, List.set_cons_zero, List.set_cons_succ]
                                refine wpPlain_T (v := ?_) (by rfl) ?_ ?_
                                rotate_left 1
                                · (intro w; go_simp; try (with_reducible rfl))
                                simp only [Act.put, List.setIfInBounds_toArray, List.set_cons_zero, List.set_cons_succ]
                                refine wpPlain_T (v := ?_) (by rfl) ?_ ?_
                                rotate_left 1
                                · (intro w; go_simp; try (with_reducible rfl))
                                simp only [Act.put, List.setIfInBounds_toArray, List.set_cons_zero, List.set_cons_succ]
                                refine wpPlain_S (v := ?_) (by rfl) ?_ ?_
                                rotate_left 1
                                · (intro w hSw; go_simp; try (with_reducible rfl))
                                simp only [Act.put, List.setIfInBounds_toArray, List.set_cons_zero, List.set_cons_succ]
                                refine wpPlain_T (v := ?_) (by rfl) ?_ ?_
                                rotate_left 1
                                · (intro w; go_simp; try (with_reducible rfl))
                                simp only [Act.put, List.setIfInBounds_toArray, List.set_cons_zero, List.set_cons_succ]
                                refine wpPlain_T (v := ?_) (by rfl) ?_ ?_
                                rotate_left 1
                                · (intro w; go_simp; try (with_reducible rfl))
                                simp only [Act.put, List.setIfInBounds_toArray, List.set_cons_zero, List.set_cons_succ]
                                refine wpPlain_nil ?_
                                refine wpAnyG_one (i := 9) (by kernel_rfl) (by rfl) (fun K hK => ?_)
                                go_simp
                                refine hK.out _ _ (fun h => absurd (h.symm.trans (by kernel_rfl)) Bool.false_ne_true) ?_
                                clear hK K
                                refine wpAnyG_one (i := 10) (by kernel_rfl) (by rfl) (fun K hK => ?_)
                                go_simp
                                refine hK.out _ _ (fun h => absurd (h.symm.trans (by kernel_rfl)) Bool.false_ne_true) ?_
                                clear hK K
                                refine wpAnyG_one (i := 11) (by kernel_rfl) (by rfl) (fun K hK => ?_)
                                go_simp
                                refine hK.out _ _ (fun h => absurd (h.symm.trans (by kernel_rfl)) Bool.false_ne_true) ?_
                                clear hK K
                                refine wpAnyG_one (i := 12) (by kernel_rfl) (by rfl) (fun K hK => ?_)
                                go_simp
                                refine hK.out _ _ (fun h => absurd (h.symm.trans (by kernel_rfl)) Bool.false_ne_true) ?_
                                clear hK K
                                refine wpAnyG_one (i := 13) (by kernel_rfl) (by rfl) (fun K hK => ?_)
                                go_simp
                                refine hK.out _ _ (fun h => absurd (h.symm.trans (by kernel_rfl)) Bool.false_ne_true) ?_
                                clear hK K
                                refine wpAnyG_one (i := 14) (by kernel_rfl) (by rfl) (fun K hK => ?_)
                                go_simp
                                refine hK.out _ _ (fun h => absurd (h.symm.trans (by kernel_rfl)) Bool.false_ne_true) ?_
                                clear hK K
                                refine wpAnyG_one (i := 15) (by kernel_rfl) (by rfl) (fun K hK => ?_)
                                go_simp
                                refine hK.out _ _ (fun h => absurd (h.symm.trans (by kernel_rfl)) Bool.false_ne_true) ?_
                                clear hK K
                                refine wpAnyG_one (i := 16) (by kernel_rfl) (by rfl) (fun K hK => ?_)
                                go_simp
                                refine hK.out _ _ (fun h => absurd (h.symm.trans (by kernel_rfl)) Bool.false_ne_true) ?_
                                clear hK K
                                refine wpAnyG_done (by kernel_rfl) ?_ _
                                obtain ⟨W6, hW6⟩ : ∃ W6, W6 = ((w5.setCell ⟨w1.heap.size, 2, none⟩ (.int .i64 E.1)).setCell ⟨w1.heap.size, 3, none⟩ (.slice none td cc0)).drew := ⟨_, rfl⟩
                                rw [← hW6]
                                have HK6 : Hid (∀ k ob, w5.heap[k]? = some ob → k ≠ w1.heap.size → W6.heap[k]? = some ob) := hide (fun k ob ho hk => by rw [hW6]; exact block_other (block_other ho hk _) hk _)
                                have HP6 : Hid (W6.heap[w1.heap.size]? = some (.cells #[(.slice (some ⟨bl, ol, none⟩) nl cl), .slice none nt cc0, .int .i64 E.1, .slice none td cc0, .slice pa np pc, .slice da nd dc, .int .i64 E.2.2.fuel] 140 (0, 0))) := hide (by rw [hW6]; exact (block_set (block_set HBK.out 2 _) 3 _).trans rfl)
                                have HB6 : Hid (Below w.heap.size w W6) := hide (by rw [hW6]; exact Below.drew ((HB5.out.setCell (Nat.le_of_lt HW1S.out) _).setCell (Nat.le_of_lt HW1S.out) _))
                                have HS6 : Hid (w1.heap.size ≤ W6.heap.size) := hide (Nat.le_of_lt (block_lt HP6.out))
                                have HDB : Hid (∀ k, (Value.slice da nd dc).ownBlock = some k → w1.heap.size < k) := hide (fun k hk => by
                                  have h1 := (World.ownsRow.lt HDM5.out.did k hk).1
                                  rw [HCD.out.1] at h1
                                  have h2 := HDM5.out.pd
                                  rw [HCD.out.2.1, hk] at h2
                                  have h3 : k ≠ w1.heap.size := fun e => h2 (by rw [e])
                                  omega)
                                clear c1 q2 z2 hb2 q3 z3 hW6
                                have s5 := (block_at HP6.out 5).trans rfl
                                have HC := hide (HSORT.out W6 HK6.out HS6.out)
                                go_wp2_with fail
                                refine HC.out.mono ?_
                                rintro r w7 ⟨rfl, HM7⟩
                                have HP7 := hide (HM7.out.1 _ _ HP6.out (fun e => absurd (HDB.out _ e) (Nat.lt_irrefl _)))
                                have HB7 : Hid (Below w.heap.size w w7) := hide (HB6.out.trans (HM7.out.2.1.mono (Nat.le_of_lt HW1S.out)))
                                have HW7 := hide (HM7.out.1 _ _ (HK6.out _ _ HW5.out (Nat.ne_of_lt HW1S.out)) (fun e => by have h1 := HDB.out _ e; have h2 := HW1S.out; omega))
                                clear s5 HC
                                have p2 := (block_at HP7.out 2).trans rfl
                                have p3 := (block_at HP7.out 3).trans rfl
                                have p4 := (block_at HP7.out 4).trans rfl
                                have p5 := (block_at HP7.out 5).trans rfl
                                have r0 := (block_at HW7.out 0).trans rfl
                                have r1 := (block_at HW7.out 1).trans rfl
                                have r2 := (block_at HW7.out 2).trans rfl
                                have r3 := (block_at HW7.out 3).trans rfl
                                have z0 := block_free HW7.out 0
                                have z1 := block_free HW7.out 1
                                have z2 := block_free HW7.out 2
                                have z3 := block_free HW7.out 3
                                go_wp2_with fail
                                obtain ⟨Wf, hWf⟩ : ∃ Wf, Wf = ((((w7.setCell ⟨w.heap.size, 0, none⟩ (.int .i64 E.1)).setCell ⟨w.heap.size, 1, none⟩ (.slice none td cc0)).setCell ⟨w.heap.size, 2, none⟩ (.slice pa np pc)).setCell ⟨w.heap.size, 3, none⟩ (.slice da nd dc)) := ⟨_, rfl⟩
                                have i4 := set4C HW7.out (.int .i64 E.1) (.slice none td cc0) (.slice pa np pc) (.slice da nd dc)
                                have HBF : Hid (Below w.heap.size w Wf) := hide (by rw [hWf]; exact (((HB7.out.setCell (by simp) _).setCell (by simp) _).setCell (by simp) _).setCell (by simp) _)
                                have HOUT := dout_at (wf := Wf) HDM5.out HDD5.out HVC.out (fun k ob ho h1 h2 h3 => by
                                    have h4 : k ≠ w.heap.size := by have h5 := HW1S.out; rw [HCD.out.1] at h3; omega
                                    rw [hWf]
                                    exact block_other (block_other (block_other (block_other (HM7.out.1 _ _ (HK6.out _ _ ho (by rw [HCD.out.2.1] at h1; exact h1)) h2) h4 _) h4 _) h4 _) h4 _) (by
                                    rcases HM7.out.2.2 with h | ⟨g', cap', h1, h2, h3⟩
                                    · exact Or.inl h
                                    · refine Or.inr ⟨g', cap', h1, ?_⟩
                                      have h4 : w.heap.size ≠ g' := by have h5 := HW1S.out; omega
                                      rw [hWf]
                                      exact (((h2.other h4 _ _).other h4 _ _).other h4 _ _).other h4 _ _) E.1
                                rw [← HTD2.out] at HOUT
                                have HOU := hide HOUT
                                rw [← hWf] at i4 ⊢
                                have f0 := (block_at i4 0).trans rfl
                                have f1 := (block_at i4 1).trans rfl
                                have f2 := (block_at i4 2).trans rfl
                                have f3 := (block_at i4 3).trans rfl
                                clear i4 HOUT
                                refine bodyPost_ret (v := .tuple #[.agg #[.int .i64 E.1, .slice none td cc0, .slice pa np pc, .slice da nd dc], .int .i64 0]) (by simp [results, Tryz.results18, go_sem, f0, f1, f2, f3]) rfl ?_
                                exact ⟨_, _, _, by rw [HR1.out], hide ⟨by rw [HR1.out]; exact HOU.out, HBF.out⟩⟩
                            · as_aux_lemma =>
                                go_wp2_with fail
                                refine wp_region_mask [some false, some false, some false, some false, some false, some false, some true, some false, some false, none, none, none, none, none, none, none, none] 9 (fun w' => w'.cell? ⟨w1.heap.size, 1, none⟩ = some (.slice (some ⟨gc, 0, none⟩) nt cc0)) 8 (by kernel_rfl) (by kernel_rfl) (fun _ _ d _ _ h => (by cases d <;> exact h)) c1 ?_
                                dsimp only [maskOps]
                                refine wpPlain_T (v := ?_) (by rfl) ?_ ?_
                                rotate_left 1
                                · (intro w; go_simp; try (with_reducible rfl))
                                simp only [Act.put, List.setIfInBounds_toArray, List.set_cons_zero, List.set_cons_succ]
                                refine wpPlain_T (v := ?_) (by rfl) ?_ ?_
                                rotate_left 1
                                · (intro w; go_simp; try (with_reducible rfl))
                                simp only [Act.put, List.setIfInBounds_toArray, List.set_cons_zero, List.set_cons_succ]
                                refine wpPlain_T (v := ?_) (by rfl) ?_ ?_
                                rotate_left 1
                                · (intro w; go_simp; try (with_reducible rfl))
                                simp only [Act.put, List.setIfInBounds_toArray, List.set_cons_zero, List.set_cons_succ]
                                refine wpPlain_T (v := ?_) (by rfl) ?_ ?_
                                rotate_left 1
                                · (intro w; go_simp; try (with_reducible rfl))
                                simp only [Act.put, List.setIfInBounds_toArray, List.set_cons_zero, List.set_cons_succ]
                                refine wpPlain_T (v := ?_) (by rfl) ?_ ?_
                                rotate_left 1
                                · (intro w; go_simp; try (with_reducible rfl))
                                simp only [Act.put, List.setIfInBounds_toArray, List.set_cons_zero, List.set_cons_succ]
                                refine wpPlain_T (v := ?_) (by rfl) ?_ ?_
                                rotate_left 1
                                · (intro w; go_simp; try (with_reducible rfl))
                                simp only [Act.put, List.setIfInBounds_toArray, List.set_cons_zero, List.set_cons_succ]
                                refine wpPlain_S (v := ?_) (by rfl) ?_ ?_
                                rotate_left 1
                                · (intro w hSw; go_simp; try (with_reducible rfl))
                                simp only [Act.put, List.setIfInBounds_toArray, List.set_cons_zero, List.set_cons_succ]
                                refine wpPlain_T (v := ?_) (by rfl) ?_ ?_
                                rotate_left 1
                                · (intro w; go_simp; try (with_reducible rfl))
                                simp only [Act.put, List.setIfInBounds_toArray, List.set_cons_zero, List.set_cons_succ]
                                refine wpPlain_T (v := ?_) (by rfl) ?_ ?_
                                rotate_left 1
                                · (intro w; go_simp; try (with_reducible rfl))
                                simp only [Act.put, List.setIfInBounds_toArray, List.set_cons_zero, List.set_cons_succ]
                                refine wpPlain_nil ?_
                                refine wpAnyG_one (i := 9) (by kernel_rfl) (by rfl) (fun K hK => ?_)
                                go_simp
                                refine hK.out _ _ (fun h => absurd (h.symm.trans (by kernel_rfl)) Bool.false_ne_true) ?_
                                clear hK K
                                refine wpAnyG_one (i := 10) (by kernel_rfl) (by rfl) (fun K hK => ?_)
                                go_simp
                                refine hK.out _ _ (fun h => absurd (h.symm.trans (by kernel_rfl)) Bool.false_ne_true) ?_
                                clear hK K
                                refine wpAnyG_one (i := 11) (by kernel_rfl) (by rfl) (fun K hK => ?_)
                                go_simp
                                refine hK.out _ _ (fun h => absurd (h.symm.trans (by kernel_rfl)) Bool.false_ne_true) ?_
                                clear hK K
                                refine wpAnyG_one (i := 12) (by kernel_rfl) (by rfl) (fun K hK => ?_)
                                go_simp
                                refine hK.out _ _ (fun h => absurd (h.symm.trans (by kernel_rfl)) Bool.false_ne_true) ?_
                                clear hK K
                                refine wpAnyG_one (i := 13) (by kernel_rfl) (by rfl) (fun K hK => ?_)
                                go_simp
                                refine hK.out _ _ (fun h => absurd (h.symm.trans (by kernel_rfl)) Bool.false_ne_true) ?_
                                clear hK K
                                refine wpAnyG_one (i := 14) (by kernel_rfl) (by rfl) (fun K hK => ?_)
                                go_simp
                                refine hK.out _ _ (fun h => absurd (h.symm.trans (by kernel_rfl)) Bool.false_ne_true) ?_
                                clear hK K
                                refine wpAnyG_one (i := 15) (by kernel_rfl) (by rfl) (fun K hK => ?_)
                                go_simp
                                refine hK.out _ _ (fun h => absurd (h.symm.trans (by kernel_rfl)) Bool.false_ne_true) ?_
                                clear hK K
                                refine wpAnyG_one (i := 16) (by kernel_rfl) (by rfl) (fun K hK => ?_)
                                go_simp
                                refine hK.out _ _ (fun h => absurd (h.symm.trans (by kernel_rfl)) Bool.false_ne_true) ?_
                                clear hK K
                                refine wpAnyG_done (by kernel_rfl) ?_ _
                                obtain ⟨W6, hW6⟩ : ∃ W6, W6 = ((w5.setCell ⟨w1.heap.size, 2, none⟩ (.int .i64 E.1)).setCell ⟨w1.heap.size, 3, none⟩ (.slice (some ⟨gc, 0, none⟩) td cc0)).drew := ⟨_, rfl⟩
                                rw [← hW6]
                                have HK6 : Hid (∀ k ob, w5.heap[k]? = some ob → k ≠ w1.heap.size → W6.heap[k]? = some ob) := hide (fun k ob ho hk => by rw [hW6]; exact block_other (block_other ho hk _) hk _)
                                have HP6 : Hid (W6.heap[w1.heap.size]? = some (.cells #[(.slice (some ⟨bl, ol, none⟩) nl cl), .slice (some ⟨gc, 0, none⟩) nt cc0, .int .i64 E.1, .slice (some ⟨gc, 0, none⟩) td cc0, .slice pa np pc, .slice da nd dc, .int .i64 E.2.2.fuel] 140 (0, 0))) := hide (by rw [hW6]; exact (block_set (block_set HBK.out 2 _) 3 _).trans rfl)
                                have HB6 : Hid (Below w.heap.size w W6) := hide (by rw [hW6]; exact Below.drew ((HB5.out.setCell (Nat.le_of_lt HW1S.out) _).setCell (Nat.le_of_lt HW1S.out) _))
                                have HS6 : Hid (w1.heap.size ≤ W6.heap.size) := hide (Nat.le_of_lt (block_lt HP6.out))
                                have HDB : Hid (∀ k, (Value.slice da nd dc).ownBlock = some k → w1.heap.size < k) := hide (fun k hk => by
                                  have h1 := (World.ownsRow.lt HDM5.out.did k hk).1
                                  rw [HCD.out.1] at h1
                                  have h2 := HDM5.out.pd
                                  rw [HCD.out.2.1, hk] at h2
                                  have h3 : k ≠ w1.heap.size := fun e => h2 (by rw [e])
                                  omega)
                                clear c1 q2 z2 hb2 q3 z3 hW6
                                have s5 := (block_at HP6.out 5).trans rfl
                                have HC := hide (HSORT.out W6 HK6.out HS6.out)
                                go_wp2_with fail
                                refine HC.out.mono ?_
                                rintro r w7 ⟨rfl, HM7⟩
                                have HP7 := hide (HM7.out.1 _ _ HP6.out (fun e => absurd (HDB.out _ e) (Nat.lt_irrefl _)))
                                have HB7 : Hid (Below w.heap.size w w7) := hide (HB6.out.trans (HM7.out.2.1.mono (Nat.le_of_lt HW1S.out)))
                                have HW7 := hide (HM7.out.1 _ _ (HK6.out _ _ HW5.out (Nat.ne_of_lt HW1S.out)) (fun e => by have h1 := HDB.out _ e; have h2 := HW1S.out; omega))
                                clear s5 HC
                                have p2 := (block_at HP7.out 2).trans rfl
                                have p3 := (block_at HP7.out 3).trans rfl
                                have p4 := (block_at HP7.out 4).trans rfl
                                have p5 := (block_at HP7.out 5).trans rfl
                                have r0 := (block_at HW7.out 0).trans rfl
                                have r1 := (block_at HW7.out 1).trans rfl
                                have r2 := (block_at HW7.out 2).trans rfl
                                have r3 := (block_at HW7.out 3).trans rfl
                                have z0 := block_free HW7.out 0
                                have z1 := block_free HW7.out 1
                                have z2 := block_free HW7.out 2
                                have z3 := block_free HW7.out 3
                                go_wp2_with fail
                                obtain ⟨Wf, hWf⟩ : ∃ Wf, Wf = ((((w7.setCell ⟨w.heap.size, 0, none⟩ (.int .i64 E.1)).setCell ⟨w.heap.size, 1, none⟩ (.slice (some ⟨gc, 0, none⟩) td cc0)).setCell ⟨w.heap.size, 2, none⟩ (.slice pa np pc)).setCell ⟨w.heap.size, 3, none⟩ (.slice da nd dc)) := ⟨_, rfl⟩
                                have i4 := set4C HW7.out (.int .i64 E.1) (.slice (some ⟨gc, 0, none⟩) td cc0) (.slice pa np pc) (.slice da nd dc)
                                have HBF : Hid (Below w.heap.size w Wf) := hide (by rw [hWf]; exact (((HB7.out.setCell (by simp) _).setCell (by simp) _).setCell (by simp) _).setCell (by simp) _)
                                have HOUT := dout_at (wf := Wf) HDM5.out HDD5.out HVC.out (fun k ob ho h1 h2 h3 => by
                                    have h4 : k ≠ w.heap.size := by have h5 := HW1S.out; rw [HCD.out.1] at h3; omega
                                    rw [hWf]
                                    exact block_other (block_other (block_other (block_other (HM7.out.1 _ _ (HK6.out _ _ ho (by rw [HCD.out.2.1] at h1; exact h1)) h2) h4 _) h4 _) h4 _) h4 _) (by
                                    rcases HM7.out.2.2 with h | ⟨g', cap', h1, h2, h3⟩
                                    · exact Or.inl h
                                    · refine Or.inr ⟨g', cap', h1, ?_⟩
                                      have h4 : w.heap.size ≠ g' := by have h5 := HW1S.out; omega
                                      rw [hWf]
                                      exact (((h2.other h4 _ _).other h4 _ _).other h4 _ _).other h4 _ _) E.1
                                rw [← HTD2.out] at HOUT
                                have HOU := hide HOUT
                                rw [← hWf] at i4 ⊢
                                have f0 := (block_at i4 0).trans rfl
                                have f1 := (block_at i4 1).trans rfl
                                have f2 := (block_at i4 2).trans rfl
                                have f3 := (block_at i4 3).trans rfl
                                clear i4 HOUT
                                refine bodyPost_ret (v := .tuple #[.agg #[.int .i64 E.1, .slice (some ⟨gc, 0, none⟩) td cc0, .slice pa np pc, .slice da nd dc], .int .i64 0]) (by simp [results, Tryz.results18, go_sem, f0, f1, f2, f3]) rfl ?_
                                exact ⟨_, _, _, by rw [HR1.out], hide ⟨by rw [HR1.out]; exact HOU.out, HBF.out⟩⟩
                          · as_aux_lemma =>
                              unfold Rn.out at HR1
                              rw [if_neg he] at HR1
                              have he' := bne_zero_true he
                              obtain ⟨ee, hee⟩ : ∃ z, z = E.2.1 := ⟨_, rfl⟩
                              rw [← hee] at HR1 he' he ⊢
                              have hne : (ee == 0) = false := by simp [he]
                              clear hee he
                              have r0 := (block_at HW5.out 0).trans rfl
                              have r1 := (block_at HW5.out 1).trans rfl
                              have r2 := (block_at HW5.out 2).trans rfl
                              have r3 := (block_at HW5.out 3).trans rfl
                              have z0 := block_free HW5.out 0
                              have z1 := block_free HW5.out 1
                              have z2 := block_free HW5.out 2
                              have z3 := block_free HW5.out 3
                              go_wp2_with fail
                              obtain ⟨Wf, hWf⟩ : ∃ Wf, Wf = ((((w5.setCell ⟨w.heap.size, 0, none⟩ (.int .i64 0)).setCell ⟨w.heap.size, 1, none⟩ (.slice none 0 0)).setCell ⟨w.heap.size, 2, none⟩ (.slice none 0 0)).setCell ⟨w.heap.size, 3, none⟩ (.slice none 0 0)) := ⟨_, rfl⟩
                              have i4 := set4C HW5.out (.int .i64 0) (.slice none 0 0) (.slice none 0 0) (.slice none 0 0)
                              have HBF : Hid (Below w.heap.size w Wf) := hide (by rw [hWf]; exact (((HB5.out.setCell (by simp) _).setCell (by simp) _).setCell (by simp) _).setCell (by simp) _)
                              rw [← hWf] at i4 ⊢
                              have f0 := (block_at i4 0).trans rfl
                              have f1 := (block_at i4 1).trans rfl
                              have f2 := (block_at i4 2).trans rfl
                              have f3 := (block_at i4 3).trans rfl
                              clear i4
                              refine bodyPost_ret (v := .tuple #[.agg #[.int .i64 0, .slice none 0 0, .slice none 0 0, .slice none 0 0], .int .i64 ee]) (by simp [results, Tryz.results18, go_sem, f0, f1, f2, f3]) rfl ?_
                              exact ⟨_, _, _, by rw [HR1.out]; rfl, hide ⟨by rw [HR1.out]; exact OutAt.bad _ _, HBF.out⟩⟩
end Go.Proofs.YtholefgckcoklaaGreatDoor
