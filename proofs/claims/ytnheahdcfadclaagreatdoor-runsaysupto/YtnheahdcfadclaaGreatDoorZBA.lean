/- Walks over package downref: value, of a number and of a name. -/
import Derived.Test.YtnheahdcfadclaaGreatDoorZAZ
namespace Go.Proofs.YtnheahdcfadclaaGreatDoor
open Go.RowKit

namespace Rn
theorem didV_len (nm : List (ByteArray × ByteArray)) (vs : List Vr) : (didV nm vs).length ≤ 2 * vs.length := by
  have h : ∀ l : List ((ByteArray × ByteArray) × Vr), ((l.map did1).flatten).length ≤ 2 * l.length := fun l => by
    induction l with
    | nil => simp
    | cons p l ih =>
      rw [List.map_cons, List.flatten_cons, List.length_append, List.length_cons]
      have : (did1 p).length ≤ 2 := by
        unfold did1
        rw [List.length_append]
        split <;> split <;> simp
      omega
  unfold didV
  refine Nat.le_trans (h _) ?_
  rw [List.length_zip]
  omega
theorem DidOk.len {nm : List (ByteArray × ByteArray)} {s : Sta} {D : List ByteArray} (h : DidOk nm s D) : D.length ≤ 2 * s.vs.length + s.pr.length := by
  have h1 := nodup_sub h.once (fun t ht => (h.mem t).1 ht)
  have h2 := didV_len nm s.vs
  unfold did at h1
  rw [List.length_append, List.length_map] at h1
  omega
theorem sto_rd (nm : List (ByteArray × ByteArray)) (vs : List Vr) (i : Nat) : sto nm (vs.modify i fun v => { v with rd := true }) = sto nm vs := by
  unfold sto
  apply List.ext_getElem?
  intro j
  rw [List.getElem?_map, List.getElem?_map]
  have hg := mod_get vs i j (fun v => { v with rd := true })
  by_cases e : i = j
  · subst e
    rw [if_pos rfl] at hg
    cases hx : nm[i]? with
    | none => rw [List.getElem?_eq_none (by rw [List.length_zip, List.length_modify]; have := List.getElem?_eq_none_iff.1 hx; omega), List.getElem?_eq_none (by rw [List.length_zip]; have := List.getElem?_eq_none_iff.1 hx; omega)]
    | some x =>
      cases hv : vs[i]? with
      | none => rw [List.getElem?_eq_none (by rw [List.length_zip, List.length_modify]; have := List.getElem?_eq_none_iff.1 hv; omega), List.getElem?_eq_none (by rw [List.length_zip]; have := List.getElem?_eq_none_iff.1 hv; omega)]
      | some v =>
        rw [hv] at hg
        rw [show (nm.zip (vs.modify i fun v => { v with rd := true }))[i]? = some (x, { v with rd := true }) from List.getElem?_zip_eq_some.2 ⟨hx, hg⟩, show (nm.zip vs)[i]? = some (x, v) from List.getElem?_zip_eq_some.2 ⟨hx, hv⟩]
        rfl
  · rw [if_neg e] at hg
    congr 1
    cases hz : (nm.zip vs)[j]? with
    | some p =>
      obtain ⟨h1, h2⟩ := List.getElem?_zip_eq_some.1 hz
      exact List.getElem?_zip_eq_some.2 ⟨h1, by rw [hg]; exact h2⟩
    | none =>
      rw [List.getElem?_eq_none_iff, List.length_zip] at hz ⊢
      rw [List.length_modify]
      exact hz
end Rn
section
variable {w w' : World} {c : Dc} {nm : List (ByteArray × ByteArray)} {s : Rn.Sta} {vp vd : Value} {D : List ByteArray}
/-- That a variable was read doesn't turn its cell. -/
theorem DoM.rd (h : DoM w c nm s vp vd D) (i : Nat) : DoM w c nm { s with vs := s.vs.modify i fun v => { v with rd := true } } vp vd D := by
  have e : c.tot nm { s with vs := s.vs.modify i fun v => { v with rd := true } } = c.tot nm s := by unfold Dc.tot; rw [Rn.sto_rd]
  refine ⟨h.base, h.blk, h.pr, h.did, h.cbn, by rw [e]; exact h.cel, by rw [List.length_modify]; exact h.lens, fun v hv => ?_, h.room, h.lenD, h.nml, h.nms, h.dsz⟩
  obtain ⟨j, hj, e2⟩ := List.mem_iff_getElem.1 hv
  have hg := mod_get s.vs i j (fun v => { v with rd := true })
  rw [List.getElem?_eq_getElem hj, e2] at hg
  by_cases e3 : i = j
  · rw [if_pos e3] at hg
    cases hx : s.vs[j]? with
    | none => rw [hx] at hg; cases hg
    | some u =>
      rw [hx] at hg
      simp at hg
      rw [hg]
      exact h.val u (List.mem_of_getElem? hx)
  · rw [if_neg e3] at hg
    exact h.val v (List.mem_of_getElem? hg.symm)
theorem DoM.dlt (h : DoM w c nm s vp vd D) (hd : Rn.DidOk nm s D) : D.length < 100000 := by
  have := hd.len
  have := h.lens
  have := h.nml
  have := h.room
  omega
theorem tag_size {t : UInt8} {x : ByteArray × ByteArray} (h1 : x.1.size ≤ 8) (h2 : x.2.size ≤ 8) : (Rn.tag t x).size ≤ maxLen := by
  unfold Rn.tag
  simp only [ByteArray.size_append]
  have e1 : (⟨#[t, 58]⟩ : ByteArray).size = 2 := rfl
  have e2 : (⟨#[46]⟩ : ByteArray).size = 1 := rfl
  rw [e1, e2]
  unfold maxLen
  omega
end
section
variable {W w : World} {c : Dc} {nm : List (ByteArray × ByteArray)} {l : List Mo} {m : Nat} {s : Rn.Sta} {vp vd : Value} {D : List ByteArray} {q a : Nat} {x : Mo} {f : Nat} {ns : List ByteArray} {vals : List Int} {vns vvs : Value}
theorem DRun.own_cell (h : DRun W w c nm l m s vp vd D q a x f ns vals vns vvs) : w.cell? ⟨q, 0, none⟩ = some (.string x.name) ∧ w.cell? ⟨q, 6, none⟩ = some vvs := by
  obtain ⟨vi, vv, vf, h1, _⟩ := h.on.blk
  exact ⟨(block_at h1 0).trans rfl, (block_at h1 6).trans rfl⟩
end

set_option maxHeartbeats 8000000 in
set_option maxRecDepth 100000 in
theorem dval_name (W w : World) (c : Dc) (nm : List (ByteArray × ByteArray)) (l : List Mo) (m : Nat) (s : Rn.Sta) (vp vd : Value) (D : List ByteArray) (q a : Nat) (x : Mo) (f : Nat) (ns : List ByteArray) (vals : List Int) (vns vvs : Value) (mm : Nat) (c0 c1 c2 c3 : Value) (e : Ex)
    (hR : DRun W w c nm l m s vp vd D q a x f ns vals vns vvs) (hX : ExAt W mm c0 c1 c2 c3 e) (hk : e.kind = 2) :
    Calls Tryz.prog 145 #[.pointer (some ⟨c.p, 0, none⟩), .pointer (some ⟨q, 0, none⟩), .agg #[c0, c1, c2, c3]] w fun r w' => r = .returned (.tuple #[.int .i64 (Rn.gt nm x.name (Rn.own0 ns vals) e.name s).1, .int .i64 0]) ∧ Hid (AfE w w' c nm vp vd (Rn.gt nm x.name (Rn.own0 ns vals) e.name s).2 ∧ I64 (Rn.gt nm x.name (Rn.own0 ns vals) e.name s).1) := by
  obtain ⟨xa, xc, rfl, rfl, rfl, rfl⟩ := hX.shape
  obtain ⟨R, hRR⟩ : ∃ R, R = Rn.gt nm x.name (Rn.own0 ns vals) e.name s := ⟨_, rfl⟩
  rw [← hRR]
  have HRE := hide hRR
  obtain ⟨n, hn⟩ : ∃ n, n = e.name := ⟨_, rfl⟩
  rw [← hn] at HRE ⊢
  rw [hk]
  generalize e.args.length = na at *
  generalize e.n = en at *
  obtain ⟨W1, hW1⟩ : ∃ W1, W1 = w.alloc (.cells #[.int .i64 2, .int .i64 en, .string n, .slice xa na xc] 99) := ⟨_, rfl⟩
  have hb1 : Below w.heap.size w W1 := by rw [hW1]; exact boxBelow _ _
  have HB1 := hide hb1
  have HR1 := hide (hR.box hb1)
  obtain ⟨B, hBw⟩ : ∃ b, b = w.heap.size := ⟨_, rfl⟩
  have HBX1 : Hid (W1.heap[B]? = some (.cells #[.int .i64 2, .int .i64 en, .string n, .slice xa na xc] 99 (0, 0))) := hide (by rw [hW1, hBw]; exact block_new _ _)
  have HNL := hide hR.dm.nle
  have HSH := hide (hR.sh n)
  have HR := hide hR
  have HC := hide (dmine_any W W1 c m x q f ns vals vns vvs n HR1.out.on HR1.out.bel HR1.out.hf (by have := HR1.out.lim; omega))
  obtain ⟨at', hat⟩ : ∃ z, z = Rn.lastTo ns n ns.length := ⟨_, rfl⟩
  obtain ⟨mb, hmb⟩ : ∃ z, z = Rn.mineB x f n := ⟨_, rfl⟩
  rw [← hat, ← hmb] at HC
  rw [← hmb] at HSH
  have HAT := hide hat
  have b0 := (block_at HBX1.out 0).trans rfl
  have b2 := (block_at HBX1.out 2).trans rfl
  have ho0 := hW1
  clear hR hX hRR hk hb1 hmb hat hn
  go_enter Tryz.func145, Tryz.ntmps145
  go_wp2_with fail
  rw [← hW1, ← hBw]
  refine HC.out.mono ?_
  rintro r w2 ⟨rfl, hb2⟩
  have HR2 := hide (HR1.out.box hb2)
  have HBX2 := hide (at_upD HBX1.out hb2)
  have HK2 : Hid (Kq c vp vd w vp vd w2) := hide (Kq.of_below (HB1.out.trans (hb2.mono HB1.out.size)) HNL.out)
  clear HC HBX1 HR1 b0 b2 ho0 hW1 hb2 HB1 hBw
  obtain ⟨p0, p6⟩ := HR2.out.own_cell
  have b2 := (block_at HBX2.out 2).trans rfl
  cases mb
  · obtain ⟨i, hp, hsh⟩ := HSH.out.2 rfl
    have hi := pos_lt hp
    obtain ⟨v, hv⟩ : ∃ v, s.vs[i]? = some v := ⟨_, List.getElem?_eq_getElem (by rw [HR.out.dm.lens]; exact hi)⟩
    have HRV : Hid (R = (v.val, { s with vs := s.vs.modify i fun v => { v with rd := true } })) := hide (by
      rw [HRE.out]
      unfold Rn.gt
      rw [hsh]
      simp [hv])
    have hnx := Rn.pos_some hp
    have hsz : x.name.size ≤ 8 ∧ n.size ≤ 8 := HR.out.dm.nms _ (List.mem_of_getElem? hnx)
    have HCE : Hid (∀ ex, Rn.ceAt (Rn.sto nm s.vs ++ ex) x.name n = some i) := hide (fun ex => ce_pos HR.out.dm.lens hp)
    have HGT : Hid ((c.tot nm s)[i]? = some ⟨x.name, n, v.val⟩) := hide (by
      unfold Dc.tot
      rw [List.getElem?_append_left (by unfold Rn.sto; rw [List.length_map, List.length_zip, HR.out.dm.lens]; omega)]
      unfold Rn.sto
      rw [List.getElem?_map, show (nm.zip s.vs)[i]? = some ((x.name, n), v) from List.getElem?_zip_eq_some.2 ⟨hnx, hv⟩]
      rfl)
    have HDK := hide (HR.out.dk.read hnx hv)
    have HV6 := hide (HR.out.dm.val v (List.mem_of_getElem? hv))
    have HDD := hide (fun w6 (hb : Below w2.heap.size w2 w6) => ddid_any w6 c nm s vp vd D (Rn.tag 114 (x.name, n)) (HR2.out.dm.below hb) (tag_size hsz.1 hsz.2) (HR.out.dm.dlt HR.out.dk))
    have HTG : Hid (Rn.tag 114 (x.name, n) = (((⟨#[114, 58]⟩ : ByteArray) ++ x.name) ++ ⟨#[46]⟩) ++ n) := hide rfl
    rw [HTG.out] at HDD HDK
    have k1 : (9223372036854775807 < 2 + x.name.size) = False := eq_false (by have := hsz.1; omega)
    have k2 : (9223372036854775807 < 2 + x.name.size + 1) = False := eq_false (by have := hsz.1; omega)
    have k3 : (9223372036854775807 < 2 + x.name.size + 1 + n.size) = False := eq_false (by have := hsz.1; have := hsz.2; omega)
    clear hp hsh hi hv hnx hsz HSH HRE
    replace p0 := cell_gn p0
    replace b2 := cell_gn b2
    clear p6
    go_wp2_with fail
    refine wp_region_tail_gn 11 (by kernel_rfl) (by kernel_rfl) ?_
    dsimp only [List.take, List.drop]
    repeat (quiet_step (fail))
    refine wpQuiet_nil ?_
    intro w6 hw'
    obtain ⟨⟨nq, osq⟩, hw''⟩ := hw'
    have HB6 := hide (show Below w2.heap.size w2 w6 by rw [hw'']; exact below_gn w2 nq osq)
    clear hw'' p0 b2
    go_wp2_with fail
    refine (HDD.out w6 HB6.out).mono ?_
    rintro r w7 ⟨rfl, vd7, hm7, hk7⟩
    have HM7 := hide hm7
    have HON7 := hide (HR2.out.on.below HB6.out |>.keep (HR2.out.dm.below HB6.out) HR2.out.sep hk7).1
    have HBX7 := hide (hk7.block _ _ (at_upD HBX2.out HB6.out) ((HR2.out.dm.below HB6.out).cold (at_upD HBX2.out HB6.out) (by decide) (by decide) (by decide) (by decide)))
    have HK7 := hide ((HK2.out.trans (Kq.of_below HB6.out HR2.out.dm.nle)).trans hk7)
    clear hm7 hk7 HDD
    obtain ⟨-, c1, -⟩ := HM7.out.cell
    obtain ⟨cap, hvc, g0, g1, g2, -⟩ := HM7.out.ce HGT.out
    have hlen := tot_len HM7.out
    have hil : i < (c.tot nm s).length := (List.getElem?_eq_some_iff.1 HGT.out).1
    have HDC := hide (fun k os => dcell_any (gn w7 k os) c nm s vp vd7 _ x.name n (HM7.out.below (below_gn w7 k os)))
    rw [show Nm.oI (Rn.ceAt (c.tot nm s) x.name n) = (i : Int) by rw [show Rn.ceAt (c.tot nm s) x.name n = some i from HCE.out _]; rfl] at HDC
    generalize (c.tot nm s).length = nt at *
    rw [hvc] at c1
    obtain ⟨vi, vv, vf, hown, -⟩ := HON7.out.blk
    have p0 := (block_at hown 0).trans rfl
    have b2 := (block_at HBX7.out 2).trans rfl
    have hii : (i : Int) < (nt : Int) := by omega
    clear hown hvc g0 g1
    replace p0 := cell_gn p0
    replace b2 := cell_gn b2
    replace c1 := cell_gn c1
    replace g2 := cell_gn g2
    go_wp2_with fail
    refine wp_region_quiet_gn (by kernel_rfl) (by kernel_rfl) ?_
    repeat (quiet_step (first | (exact Calls.gn_of' (HDC.out _ _))))
    refine wpQuiet_nil ?_
    intro w8 hw'
    obtain ⟨⟨nq8, osq8⟩, hw''⟩ := hw'
    have HB8 := hide (show Below w7.heap.size w7 w8 by rw [hw'']; exact below_gn w7 nq8 osq8)
    clear hw'' p0 b2 c1 g2
    go_wp2_with fail
    go_ret2
    refine ⟨by rw [HRV.out]; rfl, hide ?_⟩
    rw [HRV.out]
    exact ⟨⟨vp, vd7, _, (HM7.out.below HB8.out).rd i, HDK.out, HK7.out.trans (Kq.of_below HB8.out HM7.out.nle)⟩, HV6.out⟩
  · have HRV : Hid (R = ((Rn.own0 ns vals n).getD 0, s)) := hide (by
      rw [HRE.out]
      unfold Rn.gt
      rw [HSH.out.1 rfl])
    have HOL := hide (Rn.own0_last HR.out.on.len n)
    rw [← HAT.out] at HOL
    have hr := Rn.lastTo_range ns n ns.length
    rw [← HAT.out] at hr
    by_cases hneg : at' < 0
    · as_aux_lemma =>
        rw [if_pos hneg] at HOL
        rw [HOL.out] at HRV
        clear hr
        go_wp2_with fail
        go_ret2
        refine ⟨by rw [HRV.out]; rfl, hide ?_⟩
        rw [HRV.out]
        exact ⟨⟨vp, vd, D, HR2.out.dm, HR2.out.dk, HK2.out⟩, by show I64 0; unfold I64; omega⟩
    · as_aux_lemma =>
        rw [if_neg hneg] at HOL
        obtain ⟨z, rfl⟩ : ∃ z : Nat, at' = z := ⟨at'.toNat, by omega⟩
        have hzl : z < vals.length := by have := HR.out.on.len; omega
        obtain ⟨u, hu⟩ : ∃ u, vals[z]? = some u := ⟨_, List.getElem?_eq_getElem hzl⟩
        rw [Int.toNat_natCast, hu] at HOL
        rw [HOL.out] at HRV
        have HU6 := hide (HR.out.on.v64 u (List.mem_of_getElem? hu))
        obtain ⟨va, vb, vo, vc, hvv, hva, hvl, hve⟩ := HR2.out.on.vrow.ints (by have := HR.out.on.len; have := HR.out.lim; omega)
        have g0 := hve z u hu
        obtain rfl := hva (by omega)
        rw [hvv] at p6
        generalize vals.length = nv at *
        have hzi : (z : Int) < (nv : Int) := by omega
        clear hr hvv hve hva hu
        go_wp2_with fail
        go_ret2
        refine ⟨by rw [HRV.out]; rfl, hide ?_⟩
        rw [HRV.out]
        exact ⟨⟨vp, vd, D, HR2.out.dm, HR2.out.dk, HK2.out⟩, HU6.out⟩


set_option maxHeartbeats 2000000 in
set_option maxRecDepth 100000 in
theorem dval_num (W w : World) (c : Dc) (nm : List (ByteArray × ByteArray)) (l : List Mo) (m : Nat) (s : Rn.Sta) (vp vd : Value) (D : List ByteArray) (q a : Nat) (x : Mo) (f : Nat) (ns : List ByteArray) (vals : List Int) (vns vvs : Value) (mm : Nat) (c0 c1 c2 c3 : Value) (e : Ex)
    (hR : DRun W w c nm l m s vp vd D q a x f ns vals vns vvs) (hX : ExAt W mm c0 c1 c2 c3 e) (hn : I64 e.n) (hk : e.kind = 1) :
    Calls Tryz.prog 145 #[.pointer (some ⟨c.p, 0, none⟩), .pointer (some ⟨q, 0, none⟩), .agg #[c0, c1, c2, c3]] w fun r w' => r = .returned (.tuple #[.int .i64 e.n, .int .i64 0]) ∧ Hid (AfE w w' c nm vp vd s ∧ I64 e.n) := by
  obtain ⟨xa, xc, rfl, rfl, rfl, rfl⟩ := hX.shape
  have HN := hide hn
  rw [hk]
  obtain ⟨n, hn⟩ : ∃ n, n = e.name := ⟨_, rfl⟩
  rw [← hn]
  generalize e.args.length = na at *
  obtain ⟨en, hen⟩ : ∃ n, n = e.n := ⟨_, rfl⟩
  rw [← hen] at HN ⊢
  have HR := hide hR
  clear hR hX hk hn hen
  go_enter Tryz.func145, Tryz.ntmps145
  go_wp2_with fail
  go_ret2
  have hb := boxBelow w (.cells #[.int .i64 1, .int .i64 en, .string n, .slice xa na xc] 99)
  exact ⟨rfl, hide ⟨⟨vp, vd, D, HR.out.dm.below hb, HR.out.dk, Kq.of_below hb HR.out.dm.nle⟩, HN.out⟩⟩

end Go.Proofs.YtnheahdcfadclaaGreatDoor

/- Running functions by the document: what the commands turn in memory: a variable is set, a name is new, a name is set, something is printed. -/
namespace Go.Proofs.YtnheahdcfadclaaGreatDoor
open Go.RowKit

namespace Rn
theorem sto_len {nm : List (ByteArray × ByteArray)} {vs : List Vr} (h : vs.length = nm.length) : (sto nm vs).length = nm.length := by unfold sto; rw [List.length_map, List.length_zip]; omega
theorem sto_get {nm : List (ByteArray × ByteArray)} {vs : List Vr} {j : Nat} {u : ByteArray × ByteArray} {v : Vr} (hu : nm[j]? = some u) (hv : vs[j]? = some v) : (sto nm vs)[j]? = some ⟨u.1, u.2, v.val⟩ := by
  unfold sto
  rw [List.getElem?_map, show (nm.zip vs)[j]? = some (u, v) from List.getElem?_zip_eq_some.2 ⟨hu, hv⟩]
  rfl
theorem sto_st {nm : List (ByteArray × ByteArray)} {vs : List Vr} (h : vs.length = nm.length) {i : Nat} {x : ByteArray × ByteArray} {v : Vr} (hx : nm[i]? = some x) (hv : vs[i]? = some v) (u : Int) : sto nm (vs.modify i fun v => { v with val := u, st := true }) = (sto nm vs).set i ⟨x.1, x.2, u⟩ := by
  have hi := (List.getElem?_eq_some_iff.1 hx).1
  have hl := sto_len h
  apply List.ext_getElem?
  intro j
  have hg := mod_get vs i j (fun v => { v with val := u, st := true })
  by_cases hj : j < nm.length
  · have hy := List.getElem?_eq_getElem hj
    have hw := List.getElem?_eq_getElem (show j < vs.length by omega)
    by_cases e : i = j
    · subst e
      rw [if_pos rfl, hv] at hg
      rw [sto_get hx hg, List.getElem?_set_self (by omega)]
    · rw [if_neg e, hw] at hg
      rw [sto_get hy hg, List.getElem?_set_ne e, sto_get hy hw]
  · rw [List.getElem?_eq_none (by rw [sto_len (by rw [List.length_modify]; exact h)]; omega), List.getElem?_eq_none (by rw [List.length_set]; omega)]
end Rn
section
variable {W w w' w7 : World} {c : Dc} {nm : List (ByteArray × ByteArray)} {l : List Mo} {m : Nat} {s : Rn.Sta} {vp vd : Value} {D : List ByteArray} {q a : Nat} {x : Mo} {f : Nat} {ns : List ByteArray} {vals : List Int} {vns vvs : Value}
/-- A variable's cell among all. -/
theorem DoM.tot_get (h : DoM w c nm s vp vd D) {i : Nat} {y : ByteArray × ByteArray} {v : Rn.Vr} (hx : nm[i]? = some y) (hv : s.vs[i]? = some v) : (c.tot nm s)[i]? = some ⟨y.1, y.2, v.val⟩ := by
  unfold Dc.tot
  rw [List.getElem?_append_left (by rw [Rn.sto_len h.lens]; exact (List.getElem?_eq_some_iff.1 hx).1), Rn.sto_get hx hv]
/-- A variable is set. -/
theorem DoM.write (h : DoM w c nm s vp vd D) {i : Nat} {y : ByteArray × ByteArray} {v : Rn.Vr} (hx : nm[i]? = some y) (hv : s.vs[i]? = some v) {u : Int} (hu : I64 u) :
    DoM (w.setCell ⟨c.cb, i * 3 + 2, none⟩ (.int .i64 u)) c nm { s with vs := s.vs.modify i fun v => { v with val := u, st := true } } vp vd D ∧ Kq c vp vd w vp vd (w.setCell ⟨c.cb, i * 3 + 2, none⟩ (.int .i64 u)) := by
  have hi := (List.getElem?_eq_some_iff.1 hx).1
  have hT := h.tot_get hx hv
  have hTs : c.tot nm { s with vs := s.vs.modify i fun v => { v with val := u, st := true } } = (c.tot nm s).set i ⟨y.1, y.2, u⟩ := by
    unfold Dc.tot
    show Rn.sto nm (s.vs.modify i fun v => { v with val := u, st := true }) ++ c.ex = _
    rw [Rn.sto_st h.lens hx hv u, List.set_append_left _ _ (by rw [Rn.sto_len h.lens]; exact hi)]
  rcases h.cel with ⟨h1, _, _⟩ | ⟨cap, cs, h1, h2, h3⟩
  · rw [h1] at hT; simp at hT
  have hcs : i * 3 + 2 < cs.size := (Array.getElem?_eq_some_iff.1 (h3 i _ hT).2.2).1
  have hp : c.p ≠ c.cb := fun e => by
    have := h.blk
    rw [e, h2] at this
    injection this with this
    injection this with _ this
    exact absurd this (by decide)
  have hvp : ∀ g ob, vp.ownBlock = some g → w.heap[g]? = some ob → (w.setCell ⟨c.cb, i * 3 + 2, none⟩ (.int .i64 u)).heap[g]? = some ob := fun g ob hg ho => block_other ho (fun e => by
    obtain ⟨cur, hc⟩ := h.pr.typ hg
    rw [show g = c.cb from e, h2] at hc
    injection hc with hc
    injection hc with _ hc
    exact absurd hc (by decide)) _
  have hvd : ∀ g ob, vd.ownBlock = some g → w.heap[g]? = some ob → (w.setCell ⟨c.cb, i * 3 + 2, none⟩ (.int .i64 u)).heap[g]? = some ob := fun g ob hg ho => block_other ho (fun e => by
    obtain ⟨cur, hc⟩ := row_typ h.did hg
    rw [show g = c.cb from e, h2] at hc
    injection hc with hc
    injection hc with _ hc
    exact absurd hc (by decide)) _
  refine ⟨⟨h.base, block_other h.blk hp _, h.pr.sameK hvp, row_same h.did hvd, h.cbn, Or.inr ⟨cap, cs.setIfInBounds (i * 3 + 2) (.int .i64 u), by rw [hTs, List.length_set]; exact h1, block_set h2 _ _, fun j z hz => ?_⟩, by rw [List.length_modify]; exact h.lens, fun z hz => ?_, h.room, h.lenD, h.nml, h.nms, h.dsz⟩,
    ⟨(Below.refl _ _).setCell h.cbn _, fun k ob ho hn => block_other ho (fun e => hn (Or.inr (Or.inl e))) _, fun _ h => Or.inl h, fun _ h => Or.inl h⟩⟩
  · rw [hTs] at hz
    by_cases e : i = j
    · subst e
      rw [List.getElem?_set_self (List.getElem?_eq_some_iff.1 hT).1] at hz
      cases hz
      obtain ⟨g0, g1, g2⟩ := h3 i _ hT
      refine ⟨?_, ?_, ?_⟩
      · rw [Array.getElem?_setIfInBounds_ne (by omega)]; exact g0
      · rw [Array.getElem?_setIfInBounds_ne (by omega)]; exact g1
      · rw [Array.getElem?_setIfInBounds_self_of_lt hcs]
    · rw [List.getElem?_set_ne e] at hz
      obtain ⟨g0, g1, g2⟩ := h3 j _ hz
      refine ⟨?_, ?_, ?_⟩
      · rw [Array.getElem?_setIfInBounds_ne (by omega)]; exact g0
      · rw [Array.getElem?_setIfInBounds_ne (by omega)]; exact g1
      · rw [Array.getElem?_setIfInBounds_ne (by omega)]; exact g2
  · obtain ⟨j, hj, e2⟩ := List.mem_iff_getElem.1 hz
    have hg := mod_get s.vs i j (fun v => { v with val := u, st := true })
    rw [List.getElem?_eq_getElem hj, e2] at hg
    by_cases e3 : i = j
    · subst e3
      rw [if_pos rfl, hv] at hg
      simp at hg
      rw [hg]
      exact hu
    · rw [if_neg e3] at hg
      exact h.val z (List.mem_of_getElem? hg.symm)
/-- Something is printed. -/
theorem DoM.prPut {v7 : Value} {d : ByteArray × Int} {o : Obj} (h : DoM w c nm s vp vd D) (hown : OwnK PrC w7 c.n 62 2 v7 (s.pr ++ [d])) (hg : (w.alloc o).grownBy w7 vp.ownBlock) (hl : ∀ k, v7.ownBlock = some k → vp.ownBlock = some k ∨ w.heap.size ≤ k) (hr : s.pr.length + 1 + s.fuel ≤ 10000) :
    w7.heap[c.p]? = some (.cells #[c.vl, c.vc, .int .i64 0, .slice none 0 0, vp, vd, .int .i64 s.fuel] 138 (0, 0)) ∧ DoM (w7.setCell ⟨c.p, 4, none⟩ v7) c nm { s with pr := s.pr ++ [d] } v7 vd D ∧ Kq c vp vd w v7 vd (w7.setCell ⟨c.p, 4, none⟩ v7) := by
  have keep : ∀ k ob, w.heap[k]? = some ob → vp.ownBlock ≠ some k → w7.heap[k]? = some ob := fun k ob ho hk => by
    rw [hg.block k (by have := block_lt ho; have := (boxBelow w o).size; omega) (fun e => hk e.symm)]
    exact block_alloc ho o
  have hp7 := keep c.p _ h.blk h.pp
  have hv7 : v7.ownBlock ≠ some c.p := hown.apart hp7 (by decide)
  have hdv : ∀ g, vd.ownBlock = some g → vp.ownBlock ≠ some g := fun g hg' e => by
    obtain ⟨c1, h1⟩ := h.pr.typ e
    obtain ⟨c2, h2⟩ := row_typ h.did hg'
    rw [h1] at h2
    injection h2 with h2
    injection h2 with _ h2
    exact absurd h2 (by decide)
  refine ⟨hp7, ⟨h.base, (block_set hp7 4 _).trans rfl, hown.sameK (fun g ob hg' ho => block_other ho (fun e => hv7 (by rw [hg']; exact congrArg some e)) _), row_same h.did (fun g ob hg' ho => block_other (keep g ob ho (hdv g hg')) (fun e => h.pd (by rw [hg']; exact congrArg some e)) _), h.cbn, ?_, h.lens, h.val, by show (s.pr ++ [d]).length + s.fuel ≤ 10000; rw [List.length_append]; simpa using hr, h.lenD, h.nml, h.nms, h.dsz⟩,
    ⟨((Below.refl c.n w).alloc h.nle o |>.grown hg (Nat.le_trans h.nle (boxBelow w o).size) (fun k hk => (h.pr.lt k hk).1)).setCell h.base _, fun k ob ho hn => block_other (keep k ob ho (fun e => hn (Or.inr (Or.inr (Or.inl e))))) (fun e => hn (Or.inl e)) _, hl, fun _ h => Or.inl h⟩⟩
  rcases h.cel with ⟨h1, h2, h3⟩ | ⟨cap, cs, h1, h2, h3⟩
  · exact Or.inl ⟨h1, h2, h3⟩
  · refine Or.inr ⟨cap, cs, h1, block_other (keep _ _ h2 (fun e => ?_)) (fun e => ?_) _, h3⟩
    · obtain ⟨c2, h4⟩ := h.pr.typ e
      rw [h2] at h4
      injection h4 with h4
      injection h4 with _ h4
      exact absurd h4 (by decide)
    · have e' : c.cb = c.p := e
      rw [e', h.blk] at h2
      injection h2 with h2
      injection h2 with _ h2
      exact absurd h2 (by decide)
/-- The call's own block and its rows turn. -/
theorem DRun.turn {n : ByteArray} {u : Int} {vns' vvs' : Value} {ns' : List ByteArray} {vals' : List Int} (h : DRun W w c nm l m s vp vd D q a x f ns vals vns vvs) (hb : Below c.n w w') (keep : ∀ k ob, w.heap[k]? = some ob → k ≠ q → vns.ownBlock ≠ some k → vvs.ownBlock ≠ some k → w'.heap[k]? = some ob)
    (hq : ∀ vi vv vf, w.heap[q]? = some (.cells #[.string x.name, vi, vv, vf, .int .i64 f, vns, vvs] 240 (0, 0)) → w'.heap[q]? = some (.cells #[.string x.name, vi, vv, vf, .int .i64 f, vns', vvs'] 240 (0, 0)))
    (hN : Own w' c.n vns' ns') (hV : OwnI w' c.n vvs' vals') (hl : ns'.length = vals'.length) (hns : ∀ z ∈ ns', z ∈ ns ∨ z = n) (hns2 : ∀ z ∈ ns, z ∈ ns') (hmi : Rn.mineB x f n = true) (hsz : n.size ≤ maxLen) (hvs : ∀ z ∈ vals', z ∈ vals ∨ z = u) (hu : I64 u) (hlim : ns'.length + s.fuel ≤ 20000)
    (fn : ∀ k, vns'.ownBlock = some k → vns.ownBlock = some k ∨ w.heap.size ≤ k) (fv : ∀ k, vvs'.ownBlock = some k → vvs.ownBlock = some k ∨ w.heap.size ≤ k) :
    DRun W w' c nm l m s vp vd D q a x f ns' vals' vns' vvs' ∧ Kb c q vp vd vns vvs w vp vd vns' vvs' w' := by
  obtain ⟨vi, vv, vf, hblk, hmo⟩ := h.on.blk
  have hot1 : ∀ k ob, w.heap[k]? = some ob → hot c vp vd k → w'.heap[k]? = some ob := fun k ob ho hh => by
    refine keep k ob ho (fun e => ?_) (fun e => ?_) (fun e => ?_)
    · subst e
      exact h.dm.cold hblk (by decide) (by decide) (by decide) (by decide) hh
    · obtain ⟨cur, hc⟩ := row_typ h.on.nrow e
      exact h.dm.coldS hc (h.sep k e) hh
    · obtain ⟨cur, hc⟩ := row_typ h.on.vrow e
      exact h.dm.cold hc (by decide) (by decide) (by decide) (by decide) hh
  have hdm : DoM w' c nm s vp vd D := by
    refine ⟨h.dm.base, hot1 _ _ h.dm.blk (Or.inl rfl), h.dm.pr.sameK (fun g ob hg ho => hot1 g ob ho (Or.inr (Or.inr (Or.inl hg)))), row_same h.dm.did (fun g ob hg ho => hot1 g ob ho (Or.inr (Or.inr (Or.inr hg)))), h.dm.cbn, ?_, h.dm.lens, h.dm.val, h.dm.room, h.dm.lenD, h.dm.nml, h.dm.nms, h.dm.dsz⟩
    rcases h.dm.cel with ⟨h1, h2, h3⟩ | ⟨cap, cs, h1, h2, h3⟩
    · exact Or.inl ⟨h1, h2, h3⟩
    · exact Or.inr ⟨cap, cs, h1, hot1 _ _ h2 (Or.inr (Or.inl rfl)), h3⟩
  refine ⟨⟨h.bel.trans (by rw [← h.cn]; exact hb), h.cn, h.mods, hdm, h.dk, ⟨h.on.qn, ⟨vi, vv, vf, hq vi vv vf hblk, hmo⟩, hN, hV, hl, fun z hz => ?_, fun z hz => ?_⟩, fun k h1 h2 => ?_, h.hx, h.hf, h.pos, fun p hp => hns2 p (h.par p hp), fun z hz => ?_, hlim, h.xsz⟩,
    ⟨hb, fun k ob ho _ hk h1 h2 => keep k ob ho hk h1 h2, fun _ h => Or.inl h, fun _ h => Or.inl h, fn, fv⟩⟩
  · rcases hns z hz with e | e
    · exact h.on.nsz z e
    · rw [e]; exact hsz
  · rcases hvs z hz with e | e
    · exact h.on.v64 z e
    · rw [e]; exact hu
  · rcases fn k h1 with e | e
    · exact h.sep k e h2
    · obtain ⟨cur, hc⟩ := row_typ h.dm.did h2
      have := block_lt hc
      omega
  · rcases hns z hz with e | e
    · exact h.own z e
    · rw [e]; exact hmi
/-- A name that is there is set. -/
theorem DRun.setVal {n : ByteArray} {u : Int} {i g cap : Nat} (h : DRun W w c nm l m s vp vd D q a x f ns vals vns (.slice (some ⟨g, 0, none⟩) vals.length cap)) (hi : Rn.lastTo ns n ns.length = i) (hu : I64 u) :
    DRun W (w.setCell ⟨g, i, none⟩ (.int .i64 u)) c nm l m s vp vd D q a x f ns (vals.set i u) vns (.slice (some ⟨g, 0, none⟩) vals.length cap) ∧ Kb c q vp vd vns (.slice (some ⟨g, 0, none⟩) vals.length cap) w vp vd vns (.slice (some ⟨g, 0, none⟩) vals.length cap) (w.setCell ⟨g, i, none⟩ (.int .i64 u)) := by
  obtain ⟨vi, vv, vf, hblk, hmo⟩ := h.on.blk
  obtain ⟨cur, hc⟩ := row_typ h.on.vrow (rfl : Value.ownBlock (.slice (some ⟨g, 0, none⟩) vals.length cap) = some g)
  have hqg : q ≠ g := block_ne hblk hc (by decide)
  have hr := Rn.lastTo_range ns n ns.length
  have hmem : n ∈ ns := List.mem_of_getElem? (Rn.lastTo_at (k := ns.length) (by omega))
  have hlen := h.on.len
  refine h.turn (n := n) (u := u) ((Below.refl _ _).setCell ((World.ownsRow.lt h.on.vrow g rfl).1) _) (fun k ob ho _ _ hk => block_other ho (fun e => hk (by rw [show k = g from e]; rfl)) _) (fun vi vv vf hb => block_other hb hqg _) ?_ ?_ (by rw [List.length_set]; exact hlen) (fun z hz => Or.inl hz) (fun z hz => hz) (h.own n hmem) (h.on.nsz n hmem) (fun z hz => ?_) hu h.lim (fun _ h => Or.inl h) (fun _ h => Or.inl h)
  · refine row_same h.on.nrow (fun k ob hk ho => block_other ho (fun e => ?_) _)
    obtain ⟨c1, h1⟩ := row_typ h.on.nrow hk
    exact block_ne h1 hc (by decide) e
  · have := (World.ownsRow.stored h.on.vrow i (.int .i64 u)).1
    unfold OwnI
    rw [List.length_set, List.map_set]
    exact this
  · rcases List.mem_or_eq_of_mem_set hz with e | e
    · exact Or.inl e
    · exact Or.inr e
end

theorem below_al {a w : World} {o : Obj} (h : Below a.heap.size a w) : Below a.heap.size a (w.alloc o) := up h (boxBelow w o)
theorem grown_keep {w wp w7 : World} {row : Option Nat} (hb : Below w.heap.size w wp) (hg : wp.grownBy w7 row) : ∀ k ob, w.heap[k]? = some ob → row ≠ some k → w7.heap[k]? = some ob := fun k ob ho hk => by
  rw [hg.block k (by have := block_lt ho; have := hb.size; omega) (fun e => hk e.symm)]
  exact at_upD ho hb
section
variable {W w w' w7 wp wq w8 : World} {c : Dc} {nm : List (ByteArray × ByteArray)} {l : List Mo} {m : Nat} {s : Rn.Sta} {vp vd : Value} {D : List ByteArray} {q a : Nat} {x : Mo} {f : Nat} {ns : List ByteArray} {vals : List Int} {vns vvs : Value}
/-- A name is new. -/
theorem DRun.push {n : ByteArray} {u : Int} {g7 g8 l7 l8 c7 c8 : Nat} (h : DRun W w c nm l m s vp vd D q a x f ns vals vns vvs) (hb : Below w.heap.size w wp) (hg : wp.grownBy w7 vns.ownBlock) (hN : Own w7 c.n (.slice (some ⟨g7, 0, none⟩) l7 c7) (ns ++ [n])) (hl7 : vns.ownBlock = some g7 ∨ g7 = wp.heap.size)
    (hb2 : Below w7.heap.size w7 wq) (hg2 : wq.grownBy w8 vvs.ownBlock) (hV : OwnI w8 c.n (.slice (some ⟨g8, 0, none⟩) l8 c8) (vals ++ [u])) (hl8 : vvs.ownBlock = some g8 ∨ g8 = wq.heap.size) (hmi : Rn.mineB x f n = true) (hsz : n.size ≤ maxLen) (hu : I64 u) (hlim : ns.length + 1 + s.fuel ≤ 20000) :
    (∀ ob, w.heap[q]? = some ob → w8.heap[q]? = some ob) ∧
    DRun W ((w8.setCell ⟨q, 5, none⟩ (.slice (some ⟨g7, 0, none⟩) l7 c7)).setCell ⟨q, 6, none⟩ (.slice (some ⟨g8, 0, none⟩) l8 c8)) c nm l m s vp vd D q a x f (ns ++ [n]) (vals ++ [u]) (.slice (some ⟨g7, 0, none⟩) l7 c7) (.slice (some ⟨g8, 0, none⟩) l8 c8) ∧
    Kb c q vp vd vns vvs w vp vd (.slice (some ⟨g7, 0, none⟩) l7 c7) (.slice (some ⟨g8, 0, none⟩) l8 c8) ((w8.setCell ⟨q, 5, none⟩ (.slice (some ⟨g7, 0, none⟩) l7 c7)).setCell ⟨q, 6, none⟩ (.slice (some ⟨g8, 0, none⟩) l8 c8)) := by
  obtain ⟨vi0, vv0, vf0, hblk, hmo⟩ := h.on.blk
  have k7 := grown_keep hb hg
  have k8 : ∀ k ob, w7.heap[k]? = some ob → vvs.ownBlock ≠ some k → w8.heap[k]? = some ob := grown_keep hb2 hg2
  have hvq : vvs.ownBlock ≠ some q := fun e => by
    obtain ⟨cur, hc⟩ := row_typ h.on.vrow e
    exact block_ne hblk hc (by decide) rfl
  have hnq : vns.ownBlock ≠ some q := fun e => by
    obtain ⟨cur, hc⟩ := row_typ h.on.nrow e
    exact block_ne hblk hc (by decide) rfl
  have keep : ∀ k ob, w.heap[k]? = some ob → vns.ownBlock ≠ some k → vvs.ownBlock ≠ some k → w8.heap[k]? = some ob := fun k ob ho h1 h2 => k8 k ob (k7 k ob ho h1) h2
  have hq8 : ∀ ob, w.heap[q]? = some ob → w8.heap[q]? = some ob := fun ob ho => keep q ob ho hnq hvq
  have hsz1 : w.heap.size ≤ wp.heap.size := hb.size
  have hsz2 : w.heap.size ≤ wq.heap.size := Nat.le_trans (Nat.le_trans hsz1 hg.size) hb2.size
  have hN8 : Own w8 c.n (.slice (some ⟨g7, 0, none⟩) l7 c7) (ns ++ [n]) := row_same hN (fun k ob hk ho => k8 k ob ho (fun e => by
    obtain ⟨c1, h1⟩ := row_typ hN hk
    have hvr : vvs.ownBlock = some k := e
    obtain ⟨c2, h2⟩ := row_typ h.on.vrow hvr
    have h3 := k7 k _ h2 (fun e2 => by
      obtain ⟨c4, h4⟩ := row_typ h.on.nrow e2
      exact block_ne h4 h2 (by decide) rfl)
    exact block_ne h1 h3 (by decide) rfl))
  have hbel : Below c.n w w8 := by
    have hn := h.dm.nle
    have b1 : Below c.n w wp := hb.mono hn
    have b2 : Below c.n w w7 := b1.grown hg (Nat.le_trans hn hsz1) (fun k hk => (World.ownsRow.lt h.on.nrow k hk).1)
    have b3 : Below c.n w wq := b2.trans (hb2.mono (Nat.le_trans hn b2.size))
    exact b3.grown hg2 (Nat.le_trans hn hsz2) (fun k hk => (World.ownsRow.lt h.on.vrow k hk).1)
  have hq7 : (g7 : Nat) ≠ q := fun e => by
    obtain ⟨c1, h1⟩ := row_typ hN (rfl : Value.ownBlock (.slice (some ⟨g7, 0, none⟩) l7 c7) = some g7)
    exact block_ne (k7 q _ hblk hnq) h1 (by decide) e.symm
  have hq8' : (g8 : Nat) ≠ q := fun e => by
    obtain ⟨c1, h1⟩ := row_typ hV (rfl : Value.ownBlock (.slice (some ⟨g8, 0, none⟩) l8 c8) = some g8)
    exact block_ne (hq8 _ hblk) h1 (by decide) e.symm
  have two : ∀ {k : Nat} {ob : Obj}, w8.heap[k]? = some ob → k ≠ q → ((w8.setCell ⟨q, 5, none⟩ (.slice (some ⟨g7, 0, none⟩) l7 c7)).setCell ⟨q, 6, none⟩ (.slice (some ⟨g8, 0, none⟩) l8 c8)).heap[k]? = some ob := fun ho hk => block_other (block_other ho hk _) hk _
  have hqn : c.n ≤ q := h.on.qn
  refine ⟨hq8, h.turn (n := n) (u := u) ((hbel.setCell hqn _).setCell hqn _) (fun k ob ho hk h1 h2 => two (keep k ob ho h1 h2) hk) (fun vi vv vf hb' => ?_) (row_same hN8 (fun k ob hk ho => two ho (fun e => hq7 (by injection hk with hk; exact (show g7 = k from hk).trans e)))) (row_same hV (fun k ob hk ho => two ho (fun e => hq8' (by injection hk with hk; exact (show g8 = k from hk).trans e)))) (by simp [h.on.len]) (fun z hz => by simpa using hz) (fun z hz => by simp [hz]) hmi hsz (fun z hz => by simpa using hz) hu (by simpa using hlim) (fun k hk => ?_) (fun k hk => ?_)⟩
  · exact (block_set (block_set (hq8 _ hb') 5 _) 6 _).trans rfl
  · injection hk with hk
    subst hk
    rcases hl7 with e | e
    · exact Or.inl e
    · exact Or.inr (by show w.heap.size ≤ g7; omega)
  · injection hk with hk
    subst hk
    rcases hl8 with e | e
    · exact Or.inl e
    · exact Or.inr (by show w.heap.size ≤ g8; omega)
end
/-- append of one element to a row of the call's own, and where the new row lies. -/
theorem step_append_KL {α : Type} {At : List Value → α → Prop} {w : World} {ops : Array Oper} {o : Oper} {a : Act} {K : Act → World → Prop} {Q : Exit → Act → World → Prop} {E : Prop} (hgd : o.guard = none) (s x : Operand) (t e k bytes : Nat) (z : Value)
    (ho : o.op = .call { callee := .builtin .append, args := #[s, x], argTypes := #[t, t] }) (ht : Tryz.prog.underlying t = some (.slice e)) (hinfo : (Tryz.prog.info? e).map (fun i => (i.zero, i.size, i.bytes)) = some (some z, k, bytes)) (hzs : z.cells.size = k) (hk : 0 < k) (hby : bytes ≤ 1024)
    (n : Nat) (v : Value) (l : List α) (hs : a.eval s = v) (hown : OwnK At w n e k v l) (B : Nat) (c : List Value) (y : α) (hx : a.eval x = .slice (some ⟨B, 0, none⟩) 1 1)
    (hc : ∀ (j : Nat) u, c[j]? = some u → w.cell? ⟨B, j, none⟩ = some u) (hck : c.length = k) (h1 : ∀ u ∈ c, u.oneCell' = true) (hat : At c y) (hl : l.length ≤ 16777216) (hbase : n ≤ w.heap.size)
    (h : ∀ g cap w', OwnK At w' n e k (.slice (some ⟨g, 0, none⟩) (l.length + 1) cap) (l ++ [y]) → w.grownBy w' v.ownBlock → (v.ownBlock = some g ∨ g = w.heap.size) → K (a.put o.dst (.slice (some ⟨g, 0, none⟩) (l.length + 1) cap)) w') :
    if Region.wanted o (yielded ops a.tmps) = true then Oper.wp Tryz.prog o a w K Q else E := by
  obtain ⟨iS, hiS, hz0, hz1, hz2⟩ := info_parts hinfo
  obtain ⟨cs, hr, k1, k2, k3, _⟩ := hown
  refine step_append_lies w hgd s x t ho n e iS z k bytes ht hiS hz0 hz1 hz2 hzs hk v l.length cs.flatten hs hr ⟨B, 0, none⟩ 1 1 c hx (by rw [hck, Nat.one_mul]) (fun j u hu => by rw [Addr.add_lit, Nat.zero_add]; exact hc j u hu) h1 (by decide) (by unfold maxLen; omega)
    (Nat.le_trans (Nat.mul_le_mul (show l.length + 1 ≤ 16777217 by omega) hby) (by decide)) hbase w.heap.size rfl ?_
  intro g cap w' h1' h2 h3 _
  refine h g cap w' ⟨cs ++ [c], ?_, by simp [k1], fun d hd => ?_, fun i d u hd hu => ?_, fun e => by simp at e⟩ h2 h3
  · rw [List.flatten_append, List.length_append]
    simpa using h1'
  · rcases List.mem_append.1 hd with hd | hd
    · exact k2 d hd
    · simp at hd
      subst hd
      exact ⟨hck, h1⟩
  · by_cases hi : i < l.length
    · rw [List.getElem?_append_left (by omega)] at hd
      rw [List.getElem?_append_left hi] at hu
      exact k3 i d u hd hu
    · rw [List.getElem?_append_right (by omega)] at hd
      rw [List.getElem?_append_right (by omega)] at hu
      have hi0 : i - l.length = 0 := by
        have := (List.getElem?_eq_some_iff.1 hu).1
        simp at this
        omega
      rw [k1, hi0] at hd
      rw [hi0] at hu
      simp at hd hu
      subst hd hu
      exact hat

end Go.Proofs.YtnheahdcfadclaaGreatDoor
