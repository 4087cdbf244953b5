/- Walks over package run: outcome. -/
import Derived.Test.YtholefgckcoklaaGreatDoorZBJ
import Derived.Deep.RegionLaw
namespace Go.Proofs.YtholefgckcoklaaGreatDoor
open Go.RowKit Go.Maps
theorem OcI.cells {w wx : World} {R : Int} {vp vs vd : Value} {cs : List Ce} {ds : List ByteArray} (h : OcI w wx R vp cs ds vs vd) : wx.cell? ⟨w.heap.size + 1, 0, none⟩ = some (.int .i64 R) ∧ wx.cell? ⟨w.heap.size + 1, 1, none⟩ = some vs ∧ wx.cell? ⟨w.heap.size + 1, 2, none⟩ = some vp ∧ wx.cell? ⟨w.heap.size + 1, 3, none⟩ = some vd := ⟨(block_at h.loc 0).trans rfl, (block_at h.loc 1).trans rfl, (block_at h.loc 2).trans rfl, (block_at h.loc 3).trans rfl⟩
theorem VrAt.cells {w : World} {b : Nat} {x : ByteArray × ByteArray} {v : Rn.Vr} (h : VrAt w b x v) : w.cell? ⟨b, 0, none⟩ = some (.string x.1) ∧ w.cell? ⟨b, 1, none⟩ = some (.string x.2) ∧ w.cell? ⟨b, 2, none⟩ = some (.int .i64 v.val) ∧ w.cell? ⟨b, 3, none⟩ = some (.bool v.rd) ∧ w.cell? ⟨b, 4, none⟩ = some (.bool v.st) :=
  ⟨(block_at h 0).trans rfl, (block_at h 1).trans rfl, (block_at h 2).trans rfl, (block_at h 3).trans rfl, (block_at h 4).trans rfl⟩
theorem VrAt.below {w w' : World} {b : Nat} {x : ByteArray × ByteArray} {v : Rn.Vr} (h : VrAt w b x v) (hb : Below w.heap.size w w') : VrAt w' b x v := by
  unfold VrAt at *
  rw [hb.block _ (block_lt h)]; exact h
namespace Rn
def stoZ (zs : List ((ByteArray × ByteArray) × Vr)) : List Ce := zs.map fun p => ⟨p.1.1, p.1.2, p.2.val⟩
def didZ (zs : List ((ByteArray × ByteArray) × Vr)) : List ByteArray := (zs.map did1).flatten
theorem stoZ_snoc (zs : List ((ByteArray × ByteArray) × Vr)) (x : ByteArray × ByteArray) (v : Vr) : stoZ (zs ++ [(x, v)]) = stoZ zs ++ [⟨x.1, x.2, v.val⟩] := by unfold stoZ; simp
theorem didZ_snoc (zs : List ((ByteArray × ByteArray) × Vr)) (x : ByteArray × ByteArray) (v : Vr) : didZ (zs ++ [(x, v)]) = didZ zs ++ ((if v.rd = true then [tag 114 x] else []) ++ (if v.st = true then [tag 119 x] else [])) := by unfold didZ; simp [did1]
theorem didZ_len (zs : List ((ByteArray × ByteArray) × Vr)) : (didZ zs).length ≤ 2 * zs.length := by
  induction zs with
  | nil => simp [didZ]
  | cons p r ih =>
    have h1 : (did1 p).length ≤ 2 := by
      unfold did1
      split <;> split <;> simp
    have h2 : didZ (p :: r) = did1 p ++ didZ r := by simp [didZ]
    rw [h2, List.length_append, List.length_cons]
    omega
end Rn
theorem did_small {nm : List (ByteArray × ByteArray)} {vs : List Rn.Vr} {pr : List (ByteArray × Int)} (hN : ∀ z ∈ nm, z.1.size ≤ 8 ∧ z.2.size ≤ 8) (hP : ∀ d ∈ pr, d.1.size ≤ 8) {t : ByteArray} (h : t ∈ Rn.did nm vs pr) : t.size ≤ 64 := by
  unfold Rn.did at h
  rcases List.mem_append.1 h with h | h
  · unfold Rn.didV at h
    obtain ⟨l, hl, ht⟩ := List.mem_flatten.1 h
    obtain ⟨⟨z, v⟩, hz, rfl⟩ := List.mem_map.1 hl
    have h8 := hN z (List.of_mem_zip hz).1
    have ht2 : ∀ u : UInt8, (Rn.tag u z).size ≤ 64 := fun u => by
      unfold Rn.tag
      simp only [ByteArray.size_append]
      have e1 : (⟨#[u, 58]⟩ : ByteArray).size = 2 := rfl
      have e2 : (⟨#[46]⟩ : ByteArray).size = 1 := rfl
      omega
    unfold Rn.did1 at ht
    rcases List.mem_append.1 ht with ht | ht
    · split at ht
      · rw [List.mem_singleton] at ht; subst ht; exact ht2 _
      · simp at ht
    · split at ht
      · rw [List.mem_singleton] at ht; subst ht; exact ht2 _
      · simp at ht
  · obtain ⟨d, hd, rfl⟩ := List.mem_map.1 h
    have h8 := hP d hd
    unfold Rn.tagP
    simp only [ByteArray.size_append]
    have e1 : (⟨#[112, 58]⟩ : ByteArray).size = 2 := rfl
    omega
theorem sorted_strs (w : World) (n : Nat) (v : Value) (ds : List ByteArray) (h : OwnK TxC w n 9 1 v ds) (hl : ds.length ≤ 16777216) :
    Calls Tryz.prog 70 #[v] w fun e w' => e = .returned (.tuple #[]) ∧ ((ds = [] ∧ v = .slice none 0 0 ∧ w' = w) ∨ ∃ g cap, v = .slice (some ⟨g, 0, none⟩) ds.length cap ∧ ds.length ≤ cap ∧ n ≤ g ∧ RowS w' g (Rn.srtS ds) ∧ But g w w') := by
  rcases h.shape with ⟨rfl, rfl⟩ | ⟨g, cap, rfl, hc, hg, hlt, hne⟩
  · refine (sortS_none w none 0).mono ?_
    rintro e w' ⟨rfl, rfl⟩
    exact ⟨rfl, Or.inl ⟨rfl, rfl, rfl⟩⟩
  · refine (sortS_any w g ds.length cap ds (h.rowS rfl) rfl hl).mono ?_
    rintro e w' ⟨rfl, h1, h2⟩
    exact ⟨rfl, Or.inr ⟨g, cap, rfl, hc, hg, h1, h2⟩⟩
theorem OwnK.but1 {α : Type} {At : List Value → α → Prop} {w w' : World} {n e k g : Nat} {v : Value} {l : List α} (h : OwnK At w n e k v l) (hb : But g w w') (hne : v.ownBlock ≠ some g) : OwnK At w' n e k v l := by
  obtain ⟨cs, ⟨a1, a2⟩, r⟩ := h
  refine ⟨cs, ⟨a1, ?_⟩, r⟩
  rcases a2 with a2 | ⟨g', cap, cur, hv, hg, hh, r'⟩
  · exact Or.inl a2
  · exact Or.inr ⟨g', cap, cur, hv, hg, hb.at (fun e => hne (by rw [hv, e]; rfl)) hh, r'⟩
theorem one_two (w : World) (o : Obj) (t : ByteArray) : OwnK TxC ((w.alloc o).alloc (.cells #[.string t] 9)) (w.heap.size + 1) 9 1 (.slice (some ⟨w.heap.size + 1, 0, none⟩) 1 1) [t] := by
  have h := OwnK.one (At := TxC) (c := [.string t]) (y := t) (w.alloc o) 9 rfl (TxC.one (d := t) rfl) rfl
  rw [World.size_alloc] at h
  exact h
theorem srt_nil : Rn.cptS (Rn.srtS []) = [] := by simp [Rn.srtS, Rn.cptS]
theorem set4 {W : World} {B : Nat} {t : TypeId} {r0 r1 r2 r3 : Value} (h : W.heap[B]? = some (.cells #[r0, r1, r2, r3] t (0, 0))) (c0 c1 c2 c3 : Value) : ((((W.setCell ⟨B, 0, none⟩ c0).setCell ⟨B, 1, none⟩ c1).setCell ⟨B, 2, none⟩ c2).setCell ⟨B, 3, none⟩ c3).heap[B]? = some (.cells #[c0, c1, c2, c3] t (0, 0)) := by
  have h0 : (W.setCell ⟨B, 0, none⟩ c0).heap[B]? = some (.cells #[c0, r1, r2, r3] t (0, 0)) := block_set h 0 c0
  have h1 : ((W.setCell ⟨B, 0, none⟩ c0).setCell ⟨B, 1, none⟩ c1).heap[B]? = some (.cells #[c0, c1, r2, r3] t (0, 0)) := block_set h0 1 c1
  have h2 : (((W.setCell ⟨B, 0, none⟩ c0).setCell ⟨B, 1, none⟩ c1).setCell ⟨B, 2, none⟩ c2).heap[B]? = some (.cells #[c0, c1, c2, r3] t (0, 0)) := block_set h1 2 c2
  exact block_set h2 3 c3
theorem OcI.fin {w wr w2 : World} {R : Int} {vp vs vd v3 : Value} {cs : List Ce} {ds fs : List ByteArray} {prs : List (ByteArray × Int)} {g n : Nat} (h : OcI w wr R vp cs ds vs vd) (hg : w.heap.size + 2 ≤ g) (hb : But g wr w2) (hvs : vs.ownBlock ≠ some g) (hvp : vp.ownBlock ≠ some g)
    (hp : OwnK PrC w n 62 2 vp prs) (hn : n ≤ w.heap.size) (hrow : (fs = [] ∧ v3 = .slice none 0 0) ∨ ∃ cap, v3 = .slice (some ⟨g, 0, none⟩) fs.length cap ∧ RowS w2 g fs) (W3 Wf : World) (hW3 : W3 = w2.setCell ⟨w.heap.size + 1, 3, none⟩ v3)
    (hWf : Wf = (((W3.setCell ⟨w.heap.size, 0, none⟩ (.int .i64 R)).setCell ⟨w.heap.size, 1, none⟩ vs).setCell ⟨w.heap.size, 2, none⟩ vp).setCell ⟨w.heap.size, 3, none⟩ v3) :
    w2.heap[w.heap.size + 1]? = some (.cells #[.int .i64 R, vs, vp, vd] 51 (0, 0)) ∧ W3.heap[w.heap.size + 1]? = some (.cells #[.int .i64 R, vs, vp, v3] 51 (0, 0)) ∧ W3.heap[w.heap.size]? = some (.cells #[.int .i64 0, .slice none 0 0, .slice none 0 0, .slice none 0 0] 51 (0, 0)) ∧
      Wf.heap[w.heap.size]? = some (.cells #[.int .i64 R, vs, vp, v3] 51 (0, 0)) ∧ OcAt Wf n ⟨R, cs, prs, fs, 0⟩ vs vp v3 ∧ Below w.heap.size w Wf := by
  have l2 := hb.at (by omega) h.loc
  have r2 := hb.at (by omega) h.res
  have hsz := h.siz
  have b2 : Below w.heap.size w w2 := h.bel.trans (hb.below (by omega) (by omega))
  have s2 : OwnK CeC w2 (w.heap.size + 2) 59 3 vs cs := h.st.but1 hb hvs
  have p2 : OwnK PrC w2 n 62 2 vp prs := (hp.below h.bel).but1 hb hvp
  have l3 : W3.heap[w.heap.size + 1]? = some (.cells #[.int .i64 R, vs, vp, v3] 51 (0, 0)) := by rw [hW3]; exact (block_set l2 3 _).trans rfl
  have r3 : W3.heap[w.heap.size]? = some (.cells #[.int .i64 0, .slice none 0 0, .slice none 0 0, .slice none 0 0] 51 (0, 0)) := by rw [hW3]; exact block_other r2 (by simp) _
  have b3 : Below w.heap.size w W3 := by rw [hW3]; exact b2.setCell (by simp) _
  have s3 : OwnK CeC W3 (w.heap.size + 2) 59 3 vs cs := by rw [hW3]; exact s2.set (s2.apart l2 (by decide)) _
  have p3 : OwnK PrC W3 n 62 2 vp prs := by rw [hW3]; exact p2.set (p2.apart l2 (by decide)) _
  have o3 : OcAt W3 n ⟨R, cs, prs, fs, 0⟩ vs vp v3 := by
    refine ⟨s3.old (by omega), p3, ?_⟩
    rcases hrow with h1 | ⟨cap, h1, h2⟩
    · exact Or.inl h1
    · exact Or.inr ⟨g, cap, h1, by omega, by rw [hW3]; exact h2.other (by omega) _ _⟩
  have e4 := set4 r3 (.int .i64 R) vs vp v3
  rw [← hWf] at e4
  have ser : ∀ {W : World} {j : Nat} {u : Value}, OcAt W n ⟨R, cs, prs, fs, 0⟩ vs vp v3 ∧ W.heap[w.heap.size]?.isSome = true → (∃ c, W.heap[w.heap.size]? = some (.cells c 51 (0, 0))) → OcAt (W.setCell ⟨w.heap.size, j, none⟩ u) n ⟨R, cs, prs, fs, 0⟩ vs vp v3 ∧ (W.setCell ⟨w.heap.size, j, none⟩ u).heap[w.heap.size]?.isSome = true ∧ ∃ c, (W.setCell ⟨w.heap.size, j, none⟩ u).heap[w.heap.size]? = some (.cells c 51 (0, 0)) := fun {W j u} ho hc => by
    obtain ⟨c, hc⟩ := hc
    have hs := block_set hc j u
    refine ⟨⟨ho.1.st.set (ho.1.st.apart hc (by decide)) _, ho.1.pr.set (ho.1.pr.apart hc (by decide)) _, ?_⟩, by rw [hs]; rfl, _, hs⟩
    rcases ho.1.di with h1 | ⟨g', cap, h1, h2, h3⟩
    · exact Or.inl h1
    · refine Or.inr ⟨g', cap, h1, h2, h3.other (fun e => ?_) _ _⟩
      obtain ⟨cur, hcur, _⟩ := h3
      rw [← e, hc] at hcur
      injection hcur with hcur
      injection hcur with _ hcur
      exact absurd hcur (by decide)
  obtain ⟨o4, i4, c4⟩ := ser (j := 0) (u := .int .i64 R) ⟨o3, by rw [r3]; rfl⟩ ⟨_, r3⟩
  obtain ⟨o5, i5, c5⟩ := ser (j := 1) (u := vs) ⟨o4, i4⟩ c4
  obtain ⟨o6, i6, c6⟩ := ser (j := 2) (u := vp) ⟨o5, i5⟩ c5
  obtain ⟨o7, _, _⟩ := ser (j := 3) (u := v3) ⟨o6, i6⟩ c6
  rw [← hWf] at o7
  refine ⟨l2, l3, r3, e4, o7, ?_⟩
  rw [hWf]
  exact (((b3.setCell (by simp) _).setCell (by simp) _).setCell (by simp) _).setCell (by simp) _
set_option maxHeartbeats 40000000 in
set_option maxRecDepth 100000 in
theorem outcome_any (w : World) (c : Cfg) (nm : List (ByteArray × ByteArray)) (s : Rn.Sta) (R : Int) (hM : MaAt w c nm s) (hV : OwnK PtC w c.n 237 1 c.vv c.bs) (hN : ∀ z ∈ nm, z.1.size ≤ 8 ∧ z.2.size ≤ 8) (hn : nm.length ≤ 1048576) (hpr : s.pr.length ≤ 1048576) :
    Calls Tryz.prog 67 #[.pointer (some ⟨c.p, 0, none⟩), .int .i64 R] w fun e w' => ∃ v1 v2 v3, e = .returned (.agg #[.int .i64 R, v1, v2, v3]) ∧ Hid (OcAt w' c.n ⟨R, Rn.sto nm s.vs, s.pr, Rn.cptS (Rn.srtS (Rn.did nm s.vs s.pr)), 0⟩ v1 v2 v3 ∧ Below w.heap.size w w') := by
  have HM := hide hM
  have HV := hide hV
  have HN := hide hN
  obtain ⟨vp, hp, hown⟩ := hM.mach
  have HOP := hide hown
  obtain ⟨ap, cp, rfl⟩ := hown.form
  obtain ⟨av, cv, hvv⟩ := hV.form
  have HVV := hide hvv
  rw [hvv] at hp
  have m1 := (block_at hp 1).trans rfl
  have m4 := (block_at hp 4).trans rfl
  obtain ⟨nb, hnb⟩ : ∃ n, n = c.bs.length := ⟨_, rfl⟩
  obtain ⟨np, hnp⟩ : ∃ n, n = s.pr.length := ⟨_, rfl⟩
  rw [← hnb] at m1 HVV
  rw [← hnp] at m4 HOP
  have HC := hide (fun wx (hb : Below w.heap.size w wx) => And.intro (cellUp m1 hb) (cellUp m4 hb))
  have HNB := hide hnb
  have HNP := hide hnp
  have HNN : Hid (nb = nm.length ∧ nb = s.vs.length ∧ nb ≤ 1048576 ∧ np ≤ 1048576) := hide ⟨by rw [hnb, hM.lenb], by rw [hnb, hM.lenb, hM.lens], by rw [hnb, hM.lenb]; exact hn, by rw [hnp]; exact hpr⟩
  obtain ⟨zs, hzs⟩ : ∃ zs, zs = nm.zip s.vs := ⟨_, rfl⟩
  have HZ := hide hzs
  have HO0 := hide (OcI.new w R (.slice ap np cp))
  have zp : c.p < w.heap.size := block_lt hp
  have hb9 : nb ≤ 1048576 := HNN.out.2.2.1
  have hp9 : np ≤ 1048576 := HNN.out.2.2.2
  clear hM hV hN hn hpr hown hvv hnb hnp hzs hp
  go_enter Tryz.func67, Tryz.ntmps67
  go_wp2_with fail
  generalize ((w.alloc (.cells #[.int .i64 0, .slice none 0 0, .slice none 0 0, .slice none 0 0] 51)).alloc (.cells #[.int .i64 R, .slice none 0 0, .slice ap np cp, .slice none 0 0] 51)) = W1 at *
  clear m1 m4
  go_loopw [7, 21] (fun _ i wx => ∃ j : Nat, j ≤ nb ∧ i = .int .i64 j ∧ ∃ vs vd, OcI w wx R (.slice ap np cp) (Rn.stoZ (zs.take j)) (Rn.didZ (zs.take j)) vs vd) (fun _ i _ => nb - (intOf i).toNat)
  case atStart => exact ⟨0, Nat.zero_le _, rfl, _, _, HO0.out⟩
  case round =>
    rename_i Qa Ka a4
    obtain ⟨j, hj, rfl, vs, vd, hoc⟩ := hrel
    by_cases hjl : j < nb
    · obtain ⟨b, hb⟩ : ∃ b, c.bs[j]? = some b := ⟨_, List.getElem?_eq_getElem (by rw [← HNB.out]; exact hjl)⟩
      obtain ⟨x, hx⟩ : ∃ b, nm[j]? = some b := ⟨_, List.getElem?_eq_getElem (by rw [← HNN.out.1]; exact hjl)⟩
      obtain ⟨v, hv⟩ : ∃ b, s.vs[j]? = some b := ⟨_, List.getElem?_eq_getElem (by rw [← HNN.out.2.1]; exact hjl)⟩
      have HZJ : Hid (zs.take (j + 1) = zs.take j ++ [(x, v)]) := hide (by rw [HZ.out]; exact Rn.zip_take hx hv)
      obtain ⟨g, hg⟩ : ∃ g, av = some ⟨g, 0, none⟩ ∧ w.cell? ⟨g, j, none⟩ = some (.pointer (some ⟨b, 0, none⟩)) := by
        have hVo := HV.out
        rcases hVo.shape with ⟨e1, e2⟩ | ⟨g, cap, e, _⟩
        · rw [e2] at hb; simp at hb
        · rw [e] at hVo
          obtain ⟨cc, _, hcell, hat⟩ := hVo.cell hb
          have h0 := hcell 0 (by decide)
          unfold PtC at hat
          subst hat
          have e' := HVV.out
          rw [e] at e'
          injection e' with e1
          exact ⟨g, e1.symm, by simpa using h0⟩
      obtain ⟨rfl, p0⟩ := hg
      have HVA := hide (HM.out.var j b x v hb hx hv)
      have HX8 : Hid (x.1.size ≤ 8 ∧ x.2.size ≤ 8) := hide (HN.out x (List.mem_of_getElem? hx))
      have p0' := cellUp p0 hoc.bel
      have HOC := hide hoc
      obtain ⟨-, l1, -, l3⟩ := hoc.cells
      obtain ⟨q0, q1, q2, q3, q4⟩ := (HVA.out.below hoc.bel).cells
      have zB : w.heap.size + 1 < wr.heap.size := block_lt hoc.loc
      have zb : b < wr.heap.size := block_lt (HVA.out.below hoc.bel)
      obtain ⟨sa, sc, hvs⟩ := hoc.st.form
      obtain ⟨da, dc, hvd⟩ := hoc.di.form
      subst hvs hvd
      obtain ⟨ns, hns⟩ : ∃ k, k = (Rn.stoZ (zs.take j)).length := ⟨_, rfl⟩
      obtain ⟨nd, hnd⟩ : ∃ k, k = (Rn.didZ (zs.take j)).length := ⟨_, rfl⟩
      rw [← hns] at l1 HOC
      rw [← hnd] at l3 HOC
      have HNS : Hid (ns = (Rn.stoZ (zs.take j)).length ∧ (Rn.stoZ (zs.take j)).length ≤ 1048576) := hide ⟨hns, by unfold Rn.stoZ; rw [List.length_map, List.length_take]; omega⟩
      have HND : Hid (nd = (Rn.didZ (zs.take j)).length ∧ (Rn.didZ (zs.take j)).length ≤ 2097152) := hide ⟨hnd, by have := Rn.didZ_len (zs.take j); rw [List.length_take] at this; omega⟩
      clear hns hnd hb hx hv hoc p0
      go_wp2_with fail
      go_cut [7, 21] from 21 to 89 (fun a i wx => a = .pointer (some ⟨b, 0, none⟩) ∧ i = .int .i64 j ∧ ∃ v1, OcI w wx R (.slice ap np cp) (Rn.stoZ (zs.take j) ++ [⟨x.1, x.2, v.val⟩]) (Rn.didZ (zs.take j)) v1 (.slice da nd dc))
      case first =>
        rename_i Qb Kb a3 Kc a2 Jd Kd a1 a0
        clear a4 a3 a2
        go_region_law (first
          | (refine step_append_K (At := CeC) (by rfl) _ _ 48 59 3 40 _ (by rfl) Tryz.underlying48 infoCe (by decide) (by decide) (by decide) (w.heap.size + 2) _ (Rn.stoZ (zs.take j)) (by rfl) (HOC.out.st.below (by repeat (first | exact boxBelow _ _ | apply below_drew1))) _ [.string x.1, .string x.2, .int .i64 v.val] (⟨x.1, x.2, v.val⟩ : Ce) (by rfl) (fun j' u hu => (by have hj' := (List.getElem?_eq_some_iff.1 hu).1; simp at hj'; obtain rfl | rfl | rfl : j' = 0 ∨ j' = 1 ∨ j' = 2 := (by omega); all_goals (simp at hu; subst hu; simp [go_sem]))) rfl (CeC.one (d := (⟨x.1, x.2, v.val⟩ : Ce)) rfl) rfl (by have := HNS.out; omega) (Nat.le_trans HOC.out.siz (boxBelow wr (.cells #[.string x.1, .string x.2, .int .i64 v.val] 59)).size) ?_; intro g' cap' w7 hown7 hgrow7; have HPU := hide (OcI.pushC (wx := wr.drew) (ob := (.cells #[.string x.1, .string x.2, .int .i64 v.val] 59)) (HOC.out.below (below_drew1 (Below.refl _ _))) hown7 hgrow7); have u1 := (block_at HPU.out.1 1).trans rfl; have z1 := block_free HPU.out.1 1; clear hown7 hgrow7)
          | fail)
        all_goals
          go_wp2_with fail
          go_meet
          case rel => exact ⟨rfl, rfl, _, HPU.out.2.1⟩
      case rest =>
        obtain ⟨rfl, rfl, v1, hoc⟩ := hcut
        clear l1 l3 q0 q1 q2 q3 q4 zB zb HOC p0'
        have HOC := hide hoc
        obtain ⟨-, -, -, l3⟩ := hoc.cells
        obtain ⟨q0, q1, q2, q3, q4⟩ := (HVA.out.below hoc.bel).cells
        have zB : w.heap.size + 1 < wc.heap.size := block_lt hoc.loc
        have zb : b < wc.heap.size := block_lt (HVA.out.below hoc.bel)
        have k1 : (9223372036854775807 < 2 + x.1.size) = False := eq_false (by have := HX8.out; omega)
        have k2 : (9223372036854775807 < 2 + x.1.size + 1) = False := eq_false (by have := HX8.out; omega)
        have k3 : (9223372036854775807 < 2 + x.1.size + 1 + x.2.size) = False := eq_false (by have := HX8.out; omega)
        clear hoc
        go_upto_if 48 with fail
        go_cut [7, 21] from 21 to 89 (fun a i wx => a = .pointer (some ⟨b, 0, none⟩) ∧ i = .int .i64 j ∧ ∃ v3, OcI w wx R (.slice ap np cp) (Rn.stoZ (zs.take j) ++ [⟨x.1, x.2, v.val⟩]) (Rn.didZ (zs.take j) ++ (if v.rd = true then [Rn.tag 114 x] else [])) v1 v3)
        case first =>
          rename_i Qb Kb a3 Kc a2 Jd Kd a1 a0
          clear a4 a3 a2
          cases hrd : v.rd
          · rw [hrd] at q3
            go_wp2_with fail
            go_meet
            case rel => exact ⟨rfl, rfl, _, by rw [if_neg (by rw [hrd]; simp), List.append_nil]; exact HOC.out⟩
          · rw [hrd] at q3
            go_wp2_with fail
            go_region_law (first
            | (refine step_append_K (At := TxC) (by rfl) _ _ 22 9 1 16 _ (by rfl) Tryz.underlying22 infoStr (by decide) (by decide) (by decide) (w.heap.size + 2) _ (Rn.didZ (zs.take j)) (by rfl) (HOC.out.di.below (by repeat (first | exact boxBelow _ _ | apply below_drew1))) _ [.string (Rn.tag 114 x)] (Rn.tag 114 x) (by rfl) (fun j' u hu => (by have hj' := (List.getElem?_eq_some_iff.1 hu).1; simp at hj'; subst hj'; simp at hu; subst hu; simp [go_sem]; rfl)) rfl (TxC.one (d := Rn.tag 114 x) rfl) rfl (by have := HND.out; simp; omega) (Nat.le_trans HOC.out.siz (boxBelow wc (.cells #[.string (Rn.tag 114 x)] 9)).size) ?_; intro g' cap' w7 hown7 hgrow7; have HPU := hide (OcI.pushD (wx := wc.drew) (ob := (.cells #[.string (Rn.tag 114 x)] 9)) (HOC.out.below (below_drew1 (Below.refl _ _))) hown7 hgrow7); have u1 := (block_at HPU.out.1 3).trans rfl; have z1 := block_free HPU.out.1 3; clear hown7 hgrow7)
            | fail)
            all_goals
              go_wp2_with fail
              go_meet
              case rel => exact ⟨rfl, rfl, _, by rw [if_pos hrd]; exact HPU.out.2.1⟩
        case rest =>
          obtain ⟨rfl, rfl, v3, hoc⟩ := hcut
          clear l3 q0 q1 q2 q3 q4 zB zb HOC
          have HOD := hide hoc
          obtain ⟨-, -, -, l3⟩ := hoc.cells
          obtain ⟨q0, q1, q2, q3, q4⟩ := (HVA.out.below hoc.bel).cells
          have zB : w.heap.size + 1 < wc.heap.size := block_lt hoc.loc
          have zb : b < wc.heap.size := block_lt (HVA.out.below hoc.bel)
          obtain ⟨ea, ec, hve⟩ := hoc.di.form
          subst hve
          have HNE : Hid ((Rn.didZ (zs.take j) ++ (if v.rd = true then [Rn.tag 114 x] else [])).length ≤ 2097153) := hide (by
            have := HND.out
            rw [List.length_append]
            split <;> simp <;> omega)
          obtain ⟨dr, hdr⟩ : ∃ d, d = Rn.didZ (zs.take j) ++ (if v.rd = true then [Rn.tag 114 x] else []) := ⟨_, rfl⟩
          rw [← hdr] at l3 HOD HNE
          have HDR := hide hdr
          obtain ⟨ne, hne⟩ : ∃ k, k = dr.length := ⟨_, rfl⟩
          rw [← hne] at l3 HOD
          clear hne hdr
          clear hoc
          clear a4
          cases hst : v.st
          · rw [hst] at q4
            go_wp2_with fail
            go_roundw
            case rel => exact ⟨j + 1, by omega, by go_num, _, _, by rw [HZJ.out, Rn.stoZ_snoc, Rn.didZ_snoc, if_neg (show ¬ v.st = true by rw [hst]; simp), List.append_nil, ← HDR.out]; exact HOD.out⟩
            case measure => simp [intOf]; omega
          · rw [hst] at q4
            go_wp2_with fail
            go_region_law (first
              | (refine step_append_K (At := TxC) (by rfl) _ _ 22 9 1 16 _ (by rfl) Tryz.underlying22 infoStr (by decide) (by decide) (by decide) (w.heap.size + 2) _ dr (by rfl) (HOD.out.di.below (by repeat (first | exact boxBelow _ _ | apply below_drew1))) _ [.string (Rn.tag 119 x)] (Rn.tag 119 x) (by rfl) (fun j' u hu => (by have hj' := (List.getElem?_eq_some_iff.1 hu).1; simp at hj'; subst hj'; simp at hu; subst hu; simp [go_sem]; rfl)) rfl (TxC.one (d := Rn.tag 119 x) rfl) rfl (by exact Nat.le_trans HNE.out (by decide)) (Nat.le_trans HOD.out.siz (boxBelow wc (.cells #[.string (Rn.tag 119 x)] 9)).size) ?_; intro g' cap' w7 hown7 hgrow7; have HPU := hide (OcI.pushD (wx := wc.drew) (ob := (.cells #[.string (Rn.tag 119 x)] 9)) (HOD.out.below (below_drew1 (Below.refl _ _))) hown7 hgrow7); have u1 := (block_at HPU.out.1 3).trans rfl; have z1 := block_free HPU.out.1 3; clear hown7 hgrow7)
              | fail)
            all_goals
              go_wp2_with fail
              go_roundw
              case rel => exact ⟨j + 1, by omega, by go_num, _, _, by rw [HZJ.out, Rn.stoZ_snoc, Rn.didZ_snoc, if_pos hst, ← List.append_assoc, ← HDR.out]; exact HPU.out.2.1⟩
              case measure => simp [intOf]; omega
    · have hjn : j = nb := by omega
      subst hjn
      have HTK : Hid (zs.take j = zs) := hide (List.take_of_length_le (by rw [HZ.out, List.length_zip, ← HNN.out.1, ← HNN.out.2.1]; omega))
      rw [HTK.out] at hoc
      obtain ⟨-, m4⟩ := HC.out wr hoc.bel
      have HOC := hide hoc
      clear hoc
      go_wp2_with fail
      clear m4
      go_loopw [9, 95] (fun _ i wx => ∃ t : Nat, t ≤ np ∧ i = .int .i64 t ∧ ∃ v1' vd', OcI w wx R (.slice ap np cp) (Rn.stoZ zs) (Rn.didZ zs ++ (s.pr.take t).map fun d => Rn.tagP d.1) v1' vd') (fun _ i _ => np - (intOf i).toNat)
      case atStart => exact ⟨0, Nat.zero_le _, rfl, _, _, by rw [List.take_zero, List.map_nil, List.append_nil]; exact HOC.out⟩
      case round =>
        clear HOC vs vd
        obtain ⟨t, ht, rfl, vs, vd, hoc⟩ := hrel
        have HLN : Hid ((Rn.didZ zs ++ (s.pr.take t).map fun d => Rn.tagP d.1).length ≤ 16777000) := hide (by
          have h1 := Rn.didZ_len zs
          have h2 : zs.length ≤ j := by rw [HZ.out, List.length_zip, ← HNN.out.1, ← HNN.out.2.1]; omega
          rw [List.length_append, List.length_map, List.length_take]
          omega)
        by_cases htl : t < np
        · obtain ⟨d, hd⟩ : ∃ b, s.pr[t]? = some b := ⟨_, List.getElem?_eq_getElem (by rw [← HNP.out]; exact htl)⟩
          obtain ⟨g, rfl, p0, p1⟩ : ∃ g, ap = some ⟨g, 0, none⟩ ∧ w.cell? ⟨g, t * 2, none⟩ = some (.string d.1) ∧ w.cell? ⟨g, t * 2 + 1, none⟩ = some (.int .i64 d.2) := by
            have hPo := HOP.out
            rcases hPo.shape with ⟨e1, e2⟩ | ⟨g, cap, e, _⟩
            · rw [e2] at hd; simp at hd
            · rw [e] at hPo
              obtain ⟨cc, _, hcell, hat⟩ := hPo.cell hd
              have h0 := hcell 0 (by decide)
              have h1 := hcell 1 (by decide)
              unfold PrC at hat
              subst hat
              injection e with e1
              exact ⟨g, e1, h0, h1⟩
          have k1 : (9223372036854775807 < 2 + d.1.size) = False := eq_false (by have := HM.out.prs d (List.mem_of_getElem? hd); omega)
          have HTT : Hid ((s.pr.take (t + 1)).map (fun d => Rn.tagP d.1) = (s.pr.take t).map (fun d => Rn.tagP d.1) ++ [Rn.tagP d.1]) := hide (by rw [List.take_add_one, hd]; simp)
          replace p0 := cellUp p0 hoc.bel
          replace p1 := cellUp p1 hoc.bel
          have HOC := hide hoc
          obtain ⟨-, -, -, l3⟩ := hoc.cells
          have zB : w.heap.size + 1 < wr.heap.size := block_lt hoc.loc
          obtain ⟨da, dc, rfl⟩ := hoc.di.form
          generalize hds : Rn.didZ zs ++ (s.pr.take t).map (fun d => Rn.tagP d.1) = ds at *
          have HDS := hide hds
          clear hds hd
          obtain ⟨nd, hnd⟩ : ∃ k, k = ds.length := ⟨_, rfl⟩
          rw [← hnd] at l3 HOC
          have HND := hide hnd
          clear hoc hnd
          go_wp2_with ((at_builtin; refine wpList_append_K (At := TxC) rfl _ _ 22 9 1 16 _ rfl Tryz.underlying22 infoStr (by decide) (by decide) (by decide) (w.heap.size + 2) _ ds rfl (HOC.out.di.below (up (boxBelow _ _) (boxBelow _ _))) _ _ [Rn.tagP d.1] rfl (one_two _ _ (Rn.tagP d.1)) (by have := HLN.out; simp; omega) (by have := HOC.out.siz; simp; omega) ?_; intro v7 w7 hown7 hgrow7; have HPU := hide (OcI.pushD (HOC.out.below (boxBelow _ _)) hown7 hgrow7); obtain ⟨a7, c7, rfl⟩ := hown7.form; generalize (ds ++ [Rn.tagP d.1]).length = n7 at *; have u3 := (block_at HPU.out.1 3).trans rfl; have z3 := block_free HPU.out.1 3; clear hown7 hgrow7))
          go_roundw
          case rel => exact ⟨t + 1, by omega, by go_num, _, _, by rw [HTT.out, ← List.append_assoc, HDS.out]; exact HPU.out.2.1⟩
          case measure => simp [intOf]; omega
        · have htn : t = np := by omega
          subst htn
          have HTK2 : Hid (s.pr.take t = s.pr) := hide (List.take_of_length_le (by rw [← HNP.out]; omega))
          rw [HTK2.out] at hoc HLN
          have HCN : Hid (c.n ≤ w.heap.size) := hide (by have := HM.out.base; omega)
          have HOC := hide hoc
          obtain ⟨-, -, -, l3⟩ := hoc.cells
          have HDD : Hid (Rn.did nm s.vs s.pr = Rn.didZ zs ++ s.pr.map fun d => Rn.tagP d.1) := hide (by rw [HZ.out]; rfl)
          have HSS : Hid (Rn.sto nm s.vs = Rn.stoZ zs) := hide (by rw [HZ.out]; rfl)
          obtain ⟨ds, hds⟩ : ∃ ds, ds = Rn.didZ zs ++ s.pr.map fun d => Rn.tagP d.1 := ⟨_, rfl⟩
          rw [← hds] at HOC HLN HDD
          have HSO := hide (sorted_strs wr (w.heap.size + 2) vd ds HOC.out.di (by have := HLN.out; omega))
          obtain ⟨da, dc, hvd⟩ := HOC.out.di.form
          obtain ⟨nd, hnd⟩ : ∃ k, k = ds.length := ⟨_, rfl⟩
          rw [← hnd] at hvd
          subst hvd
          have HND := hide hnd
          obtain ⟨sa, sc, hvs⟩ := HOC.out.st.form
          obtain ⟨ns, hns⟩ : ∃ k, k = (Rn.stoZ zs).length := ⟨_, rfl⟩
          rw [← hns] at hvs
          subst hvs
          clear hds hnd hoc hns
          go_wp2_with fail
          refine HSO.out.mono ?_
          rintro e w1 ⟨rfl, hor⟩
          clear l3
          rcases hor with ⟨hd0, hv0, rfl⟩ | ⟨g, cap, hv0, hcap, hgn, hrow, hbut⟩
          · injection hv0 with e1 e2 e3
            subst e1 e2 e3
            have HF0 := hide (fun W3 Wf h3 hf => OcI.fin (v3 := .slice none 0 0) (fs := []) (g := w1.heap.size) HOC.out HOC.out.siz (But.refl _ _) (fun e => by have := (HOC.out.st.lt _ e).2; omega) (fun e => by have := (HOP.out.lt _ e).2; have := HOC.out.siz; omega) HOP.out HCN.out (Or.inl ⟨rfl, rfl⟩) W3 Wf h3 hf)
            obtain ⟨x0, x1, x2, x3⟩ := HOC.out.cells
            have y3 := block_free HOC.out.loc 3
            have r0 := (block_at HOC.out.res 0).trans rfl
            have r1 := (block_at HOC.out.res 1).trans rfl
            have r2 := (block_at HOC.out.res 2).trans rfl
            have r3 := (block_at HOC.out.res 3).trans rfl
            have z0 := block_free HOC.out.res 0
            have z1 := block_free HOC.out.res 1
            have z2 := block_free HOC.out.res 2
            have z3 := block_free HOC.out.res 3
            have HCO := hide (compactS_none w1)
            have HE0 := hide hd0
            clear hd0
            go_wp2_with fail
            refine HCO.out.mono ?_
            rintro e w2 ⟨rfl, rfl⟩
            obtain ⟨Wf, hWf⟩ : ∃ Wf, Wf = (((((w2.setCell ⟨w.heap.size + 1, 3, none⟩ (.slice none 0 0)).setCell ⟨w.heap.size, 0, none⟩ (.int .i64 R)).setCell ⟨w.heap.size, 1, none⟩ (.slice sa ns sc)).setCell ⟨w.heap.size, 2, none⟩ (.slice ap t cp)).setCell ⟨w.heap.size, 3, none⟩ (.slice none 0 0)) := ⟨_, rfl⟩
            obtain ⟨-, -, -, i4, ho, hb⟩ := HF0.out _ Wf rfl hWf
            have f0 := (block_at i4 0).trans rfl
            have f1 := (block_at i4 1).trans rfl
            have f2 := (block_at i4 2).trans rfl
            have f3 := (block_at i4 3).trans rfl
            have HO := hide ho
            have HB := hide hb
            clear ho hb i4
            go_wp2_with fail
            rw [← hWf]
            clear hWf
            refine bodyPost_ret (v := .agg #[.int .i64 R, .slice sa ns sc, .slice ap t cp, (.slice none 0 0)]) (by simp [results, Tryz.results67, go_sem, f0, f1, f2, f3]) rfl ?_
            exact ⟨_, _, _, rfl, hide ⟨by rw [HDD.out, HE0.out, HSS.out, srt_nil]; exact HO.out, HB.out⟩⟩
          · injection hv0 with e1 e2 e3
            subst e1 e3
            obtain ⟨cur, hcur⟩ := HOC.out.di.typ (g := g) rfl
            have HCB := hide (compactS_any w1 g nd dc (Rn.srtS ds) hrow (by rw [Rn.srtS_len]; exact HND.out) (by rw [HND.out]; exact hcap) (by have := HLN.out; have := HND.out; omega))
            have HF0 := hide (fun w2 (hb2 : But g w1 w2) (hrow2 : RowS w2 g (Rn.cptS (Rn.srtS ds))) cap' W3 Wf h3 hf => OcI.fin (v3 := .slice (some ⟨g, 0, none⟩) (Rn.cptS (Rn.srtS ds)).length cap') (fs := Rn.cptS (Rn.srtS ds)) (g := g) HOC.out hgn (hbut.trans hb2) (HOC.out.st.apart hcur (by decide)) ((HOP.out.below HOC.out.bel).apart hcur (by decide)) HOP.out HCN.out (Or.inr ⟨cap', rfl, hrow2⟩) W3 Wf h3 hf)
            have HLC := hide (hbut.at (show w.heap.size + 1 ≠ g by omega) HOC.out.loc)
            have HRS := hide (hbut.at (show w.heap.size ≠ g by omega) HOC.out.res)
            have HGN := hide hgn
            clear hcur hrow hbut hcap e2 hgn
            have x3 := (block_at HLC.out 3).trans rfl
            go_wp2_with fail
            refine HCB.out.mono ?_
            rintro e w2 ⟨c9, rfl, hrow2, hbut2⟩
            clear x3
            have HLC2 := hide (hbut2.at (show w.heap.size + 1 ≠ g by have := HGN.out; omega) HLC.out)
            have HRS2 := hide (hbut2.at (show w.heap.size ≠ g by have := HGN.out; omega) HRS.out)
            have HF1 := hide (HF0.out w2 hbut2 hrow2 c9)
            clear hrow2 hbut2 HLC HRS HF0 HCB
            obtain ⟨fl, hfl⟩ : ∃ k, k = (Rn.cptS (Rn.srtS ds)).length := ⟨_, rfl⟩
            rw [← hfl] at HF1 ⊢
            clear hfl
            have x0 := (block_at HLC2.out 0).trans rfl
            have x1 := (block_at HLC2.out 1).trans rfl
            have x2 := (block_at HLC2.out 2).trans rfl
            have x3 := (block_at HLC2.out 3).trans rfl
            have y3 := block_free HLC2.out 3
            have r0 := (block_at HRS2.out 0).trans rfl
            have r1 := (block_at HRS2.out 1).trans rfl
            have r2 := (block_at HRS2.out 2).trans rfl
            have r3 := (block_at HRS2.out 3).trans rfl
            have z0 := block_free HRS2.out 0
            have z1 := block_free HRS2.out 1
            have z2 := block_free HRS2.out 2
            have z3 := block_free HRS2.out 3
            obtain ⟨Wf, hWf⟩ : ∃ Wf, Wf = (((((w2.setCell ⟨w.heap.size + 1, 3, none⟩ (.slice (some ⟨g, 0, none⟩) fl c9)).setCell ⟨w.heap.size, 0, none⟩ (.int .i64 R)).setCell ⟨w.heap.size, 1, none⟩ (.slice sa ns sc)).setCell ⟨w.heap.size, 2, none⟩ (.slice ap t cp)).setCell ⟨w.heap.size, 3, none⟩ (.slice (some ⟨g, 0, none⟩) fl c9)) := ⟨_, rfl⟩
            obtain ⟨-, -, -, i4, ho, hb⟩ := HF1.out _ Wf rfl hWf
            have f0 := (block_at i4 0).trans rfl
            have f1 := (block_at i4 1).trans rfl
            have f2 := (block_at i4 2).trans rfl
            have f3 := (block_at i4 3).trans rfl
            have HO := hide ho
            have HB := hide hb
            clear ho hb i4
            go_wp2_with fail
            rw [← hWf]
            clear hWf
            refine bodyPost_ret (v := .agg #[.int .i64 R, .slice sa ns sc, .slice ap t cp, (.slice (some ⟨g, 0, none⟩) fl c9)]) (by simp [results, Tryz.results67, go_sem, f0, f1, f2, f3]) rfl ?_
            exact ⟨_, _, _, rfl, hide ⟨by rw [HDD.out, HSS.out]; exact HO.out, HB.out⟩⟩
end Go.Proofs.YtholefgckcoklaaGreatDoor
