/- What one may see: low.levelsOf. -/
import Derived.Test.YtmhcameodlhloabMB
import Derived.Deep.QuietTactic
namespace Go.Proofs.Ytmhcameodlhloab
open Go.RowKit Go.Maps

/-- levelsOf's memory behind j modules. -/
structure LvI (w wx : World) (vn vl : Value) (ss : List ByteArray) (l : List Mo) (j : Nat) : Prop where
  lev : PlI wx (w.heap.size + 1) (1048576 * j) (fun x y => (Lw.lv (l.take j) x y).map (Lat.indexI ss))
  fst : SiM wx (w.heap.size + 1 + 1) j (Lw.hasM (l.take j))
  bel : Below w.heap.size w wx
  box : wx.heap[w.heap.size]? = some (.cells #[vn, vl] 25 (0, 0))
theorem LvI.below {w wx wy : World} {vn vl : Value} {ss : List ByteArray} {l : List Mo} {j : Nat} (h : LvI w wx vn vl ss l j) (hb : Below wx.heap.size wx wy) : LvI w wy vn vl ss l j :=
  ⟨h.lev.below hb, h.fst.below hb, up h.bel hb, by rw [hb.block _ (block_lt h.box)]; exact h.box⟩
theorem LvI.new (w : World) (vn vl : Value) (ss : List ByteArray) (l : List Mo) : LvI w (((w.alloc (.cells #[vn, vl] 25)).alloc (.map #[] 0)).alloc (.map #[] 0)) vn vl ss l 0 := by
  have e1 := block_new w (.cells #[vn, vl] 25)
  have s1 : (w.alloc (.cells #[vn, vl] 25)).heap.size = w.heap.size + 1 := World.size_alloc _ _
  have s2 : ((w.alloc (.cells #[vn, vl] 25)).alloc (.map #[] 0)).heap.size = w.heap.size + 1 + 1 := by rw [World.size_alloc, s1]
  have h1 := PlI.new (w.alloc (.cells #[vn, vl] 25))
  have h2 := SiM.new ((w.alloc (.cells #[vn, vl] 25)).alloc (.map #[] 0))
  rw [s1] at h1
  rw [s2] at h2
  refine ⟨((h1.below (boxBelow _ _)).ext fun x y => ?_).mono (Nat.zero_le _), h2.ext fun x => ?_, up (up (boxBelow _ _) (boxBelow _ _)) (boxBelow _ _), block_alloc (block_alloc e1 _) _⟩
  · simp [Lw.lv]
  · simp [Lw.hasM]
theorem take_snoc {α : Type} {l : List α} {j : Nat} {y : α} (h : l[j]? = some y) : l.take (j + 1) = l.take j ++ [y] := by
  rw [List.take_add_one, h, Option.toList_some]
/-- levelsOf's memory within a module. -/
structure LvT (w wx : World) (vn vl : Value) (ss : List ByteArray) (l : List Mo) (j : Nat) (y : Mo) (t : Nat) (Bm : Nat) (cs : Array Value) : Prop where
  lev : PlI wx (w.heap.size + 1) (1048576 * j + t) (Lw.oAt ss (l.take j) y.name (y.vars.take t))
  fst : SiM wx (w.heap.size + 1 + 1) (j + 1) (Lw.hasM (l.take (j + 1)))
  bel : Below w.heap.size w wx
  box : wx.heap[w.heap.size]? = some (.cells #[vn, vl] 25 (0, 0))
  mod : wx.heap[Bm]? = some (.cells cs 130 (0, 0))
theorem LvT.below {w wx wy : World} {vn vl : Value} {ss : List ByteArray} {l : List Mo} {j : Nat} {y : Mo} {t Bm : Nat} {cs : Array Value} (h : LvT w wx vn vl ss l j y t Bm cs) (hb : Below wx.heap.size wx wy) : LvT w wy vn vl ss l j y t Bm cs :=
  ⟨h.lev.below hb, h.fst.below hb, up h.bel hb, by rw [hb.block _ (block_lt h.box)]; exact h.box, by rw [hb.block _ (block_lt h.mod)]; exact h.mod⟩
theorem map_other {w w' : World} {b q : Nat} {cs : Array Value} {t : TypeId} {fz : Nat × Nat} (hg : w.grownBy w' (some b)) (hm : ∃ es cl, w.heap[b]? = some (.map es cl)) (hq : w.heap[q]? = some (.cells cs t fz)) : w'.heap[q]? = some (.cells cs t fz) := by
  rw [hg.block q (block_lt hq) (fun e => ?_)]
  · exact hq
  · injection e with e
    subst e
    obtain ⟨es, cl, h⟩ := hm
    rw [hq] at h
    cases h
theorem SiM.isMap {w : World} {b n : Nat} {o : ByteArray → Bool} (h : SiM w b n o) : ∃ es cl, w.heap[b]? = some (.map es cl) := by
  obtain ⟨D, ⟨es, cl, h0, _⟩, _⟩ := h
  exact ⟨es, cl, h0⟩
theorem PlI.isMap {w : World} {b n : Nat} {o : ByteArray → ByteArray → Option Int} (h : PlI w b n o) : ∃ es cl, w.heap[b]? = some (.map es cl) := by
  obtain ⟨D, ⟨es, cl, h0, _⟩, _⟩ := h
  exact ⟨es, cl, h0⟩
theorem below_map {w wx wy : World} {b : Nat} (h : Below w.heap.size w wx) (hg : wx.grownBy wy (some b)) (hb : w.heap.size ≤ b) : Below w.heap.size w wy :=
  ⟨hg.os.trans h.os, hg.tape.trans h.tape, hg.output.trans h.output, Nat.le_trans h.size hg.size, fun k hk => by
    rw [hg.block k (Nat.lt_of_lt_of_le hk h.size) (fun e => by injection e with e; omega)]
    exact h.block k hk⟩
/-- A module more, whose name is new. -/
theorem LvI.begin {w wx wy : World} {vn vl : Value} {ss : List ByteArray} {l : List Mo} {j : Nat} {y : Mo} {Bm : Nat} {cs : Array Value} (h : LvI w wx vn vl ss l j) (hy : l[j]? = some y) (hm : wx.heap[Bm]? = some (.cells cs 130 (0, 0)))
    (hs : SiM wy (w.heap.size + 1 + 1) (j + 1) (fun t => Nm.sameB t y.name || Lw.hasM (l.take j) t)) (hg : wx.grownBy wy (some (w.heap.size + 1 + 1))) : LvT w wy vn vl ss l j y 0 Bm cs := by
  refine ⟨?_, hs.ext fun t => ?_, below_map h.bel hg (by omega), map_other hg h.fst.isMap h.box, map_other hg h.fst.isMap hm⟩
  · refine (PlI.ext (h.lev.same ?_) fun a b => ?_)
    · exact hg.block _ h.lev.lt (by simp)
    · rw [List.take_zero, Lw.oAt_start]
  · rw [take_snoc hy, Lw.hasM_snoc]
theorem LvT.done {w wx : World} {vn vl : Value} {ss : List ByteArray} {l : List Mo} {j : Nat} {y : Mo} {Bm : Nat} {cs : Array Value} (h : LvT w wx vn vl ss l j y y.vars.length Bm cs) (hy : l[j]? = some y) (hv : y.vars.length ≤ 1048576) : LvI w wx vn vl ss l (j + 1) := by
  refine ⟨(h.lev.ext fun a b => ?_).mono (by omega), h.fst, h.bel, h.box⟩
  rw [List.take_length, take_snoc hy, Lw.oAt_end]
theorem LvI.skip {w wx : World} {vn vl : Value} {ss : List ByteArray} {l : List Mo} {j : Nat} {y : Mo} (h : LvI w wx vn vl ss l j) (hy : l[j]? = some y) (ht : Lw.hasM (l.take j) y.name = true) : LvI w wx vn vl ss l (j + 1) := by
  refine ⟨(h.lev.ext fun a b => ?_).mono (by omega), (h.fst.ext fun a => ?_).mono (by omega), h.bel, h.box⟩
  · rw [take_snoc hy, Lw.lv_twice ht]
  · rw [take_snoc hy, Lw.hasM_snoc]
    cases hs : Nm.sameB a y.name with
    | false => rfl
    | true => rw [key_eqL hs, ht]; rfl
theorem LvT.skip {w wx : World} {vn vl : Value} {ss : List ByteArray} {l : List Mo} {j : Nat} {y : Mo} {v : Va} {t Bm : Nat} {cs : Array Value} (h : LvT w wx vn vl ss l j y t Bm cs) (hn : Lw.hasM (l.take j) y.name = false) (hv : y.vars[t]? = some v)
    (hs : (Lw.oAt ss (l.take j) y.name (y.vars.take t) y.name v.name).isSome = true) : LvT w wx vn vl ss l j y (t + 1) Bm cs := by
  refine ⟨(h.lev.ext fun a b => ?_).mono (by omega), h.fst, h.bel, h.box, h.mod⟩
  rw [take_snoc hv, ← Lw.oAt_skip hn hs]
theorem LvT.put {w wx wy : World} {vn vl : Value} {ss : List ByteArray} {l : List Mo} {j : Nat} {y : Mo} {v : Va} {t Bm : Nat} {cs : Array Value} (h : LvT w wx vn vl ss l j y t Bm cs) (hn : Lw.hasM (l.take j) y.name = false) (hv : y.vars[t]? = some v)
    (hs : Lw.oAt ss (l.take j) y.name (y.vars.take t) y.name v.name = none) (hp : PlI wy (w.heap.size + 1) (1048576 * j + t + 1) (fun x' y' => if (Nm.sameB y.name x' && Nm.sameB v.name y') = true then some (Lat.indexI ss v.level) else Lw.oAt ss (l.take j) y.name (y.vars.take t) x' y'))
    (hg : wx.grownBy wy (some (w.heap.size + 1))) : LvT w wy vn vl ss l j y (t + 1) Bm cs := by
  refine ⟨hp.ext fun a b => ?_, h.fst.same ?_, below_map h.bel hg (by omega), map_other hg h.lev.isMap h.box, map_other hg h.lev.isMap h.mod⟩
  · rw [take_snoc hv, Lw.oAt_put hn hs]
  · exact hg.block _ h.fst.lt (by simp)
theorem indexI_i64 (ss : List ByteArray) (t : ByteArray) (h : ss.length ≤ 9223372036854775807) : I64 (Lat.indexI ss t) := by
  rcases Lw.indexI_range ss t with e | ⟨i, e, hi⟩ <;> rw [e] <;> unfold I64 <;> omega
theorem MoAt.splitL {w : World} {m : Nat} {n : ByteArray} {vi vv vf : Value} {x : Mo} (h : MoAt w m (.agg #[.string n, vi, vv, vf]) x) : x.name.size ≤ maxLen ∧ Strs w vi x.imports ∧ VasAt w vv x.vars ∧ FusAt w m vf x.funs := by
  obtain ⟨vi', vv', vf', e, h0, h1, h2, h3⟩ := h
  simp at e
  obtain ⟨-, rfl, rfl, rfl⟩ := e
  exact ⟨h0, h1, h2, h3⟩

set_option maxHeartbeats 4000000 in
set_option maxRecDepth 100000 in
theorem levelsOf_any (m : Nat) (w : World) (vn vl vm : Value) (ss : List ByteArray) (l : List Mo) (hS : Strs w vn ss) (h : MosAt w m vm l) (hl : l.length ≤ 1048576) (hv : ∀ y ∈ l, y.vars.length ≤ 1048576) (hvl : ∃ a n c, vl = .slice a n c) :
    Calls Try.prog 61 #[.agg #[vn, vl], vm] w fun e w' => e = .returned (.map (some (w.heap.size + 1))) ∧ Hid (PlI w' (w.heap.size + 1) (1048576 * l.length) (fun x y => (Lw.lv l x y).map (Lat.indexI ss)) ∧ Below w.heap.size w w') := by
  obtain ⟨al, nl, cl, rfl⟩ := hvl
  have HS := hide hS
  have HV := hide hv
  obtain ⟨an, bn, on, cn, hvn, -, hns, -⟩ := hS
  have HNS := hide hns
  obtain ⟨a, b, off, cap, rfl, ha, hbig, hel⟩ := h
  have HEL := hide hel
  obtain ⟨n, hn⟩ : ∃ n, n = l.length := ⟨_, rfl⟩
  have HN := hide hn
  rw [← hn] at ha hbig hl ⊢
  have HA := hide ha
  have HI0 := hide (LvI.new w vn (.slice al nl cl) ss l)
  have hmm := @run_makeMap Try.prog
  obtain ⟨N, hN⟩ : ∃ N, N = w.heap.size := ⟨_, rfl⟩
  have HNE := hide hN
  clear hel ha hn hv hns
  subst hvn
  go_enter Try.func61, Try.ntmps61
  go_wp2_with fail
  generalize (((w.alloc (.cells #[.slice an ss.length cn, .slice al nl cl] 25)).alloc (.map #[] 0)).alloc (.map #[] 0)) = W1 at *
  clear hmm
  rw [← hN]
  clear hN
  go_loopw [20] (fun i wx => ∃ j : Nat, j ≤ n ∧ i = .int .i64 j ∧ Hid (LvI w wx (.slice an ss.length cn) (.slice al nl cl) ss l j)) (fun i _ => n - (intOf i).toNat)
  case atStart => exact ⟨0, Nat.zero_le _, rfl, HI0⟩
  case round =>
    obtain ⟨j, hj, rfl, HI⟩ := hrel
    by_cases hjl : j < n
    · obtain ⟨y, hy⟩ : ∃ f, l[j]? = some f := ⟨_, List.getElem?_eq_getElem (by have := HN.out; omega)⟩
      obtain ⟨vi, vv, vf, g0, g1, g2, g3, hm⟩ := HEL.out j y hy
      obtain rfl := HA.out (by omega)
      have HY := hide hy
      replace g0 := cellUp g0 HI.out.bel
      replace g1 := cellUp g1 HI.out.bel
      replace g2 := cellUp g2 HI.out.bel
      replace g3 := cellUp g3 HI.out.bel
      obtain ⟨hns, h1, h2, h3⟩ := hm.splitL
      have HNS1 := hide hns
      obtain ⟨ai, bi, oi, ci, rfl, -⟩ := h1
      obtain ⟨av, bv, ov, cv, rfl, hav, hlv, hcv⟩ := h2
      obtain ⟨af, bf, of, cf, rfl, -⟩ := h3
      have HCV := hide hcv
      have HAV := hide hav
      have HV8 := hide (HV.out y (List.mem_of_getElem? hy))
      generalize y.imports.length = ni at *
      generalize y.funs.length = nf at *
      obtain ⟨nv, hnv⟩ : ∃ n, n = y.vars.length := ⟨_, rfl⟩
      have HNV := hide hnv
      rw [← hnv] at g2 hlv HAV HV8
      obtain ⟨W2, hW2⟩ : ∃ W, W = wr.alloc (.cells #[.string y.name, .slice ai ni ci, .slice av nv cv, .slice af nf cf] 130) := ⟨_, rfl⟩
      have HB1 := hide (boxBelow wr (.cells #[.string y.name, .slice ai ni ci, .slice av nv cv, .slice af nf cf] 130))
      have HBX1 := hide (block_new wr (.cells #[.string y.name, .slice ai ni ci, .slice av nv cv, .slice af nf cf] 130))
      rw [← hW2] at HB1 HBX1
      have HI1 := hide (HI.out.below HB1.out)
      obtain ⟨z, LK⟩ := HI1.out.fst.lookOk (s := y.name) hns
      obtain ⟨wo, rfl⟩ : ∃ wo, wo = wr := ⟨_, rfl⟩
      obtain ⟨Bm, hBm⟩ : ∃ b, b = wo.heap.size := ⟨_, rfl⟩
      have m0 : W2.cell? ⟨wo.heap.size, 0, none⟩ = some (.string y.name) := (block_at HBX1.out 0).trans rfl
      rw [← HNE.out] at LK
      clear hy hm hns hav hcv hnv
      cases htw : Lw.hasM (l.take j) y.name with
      | true =>
        have HTW := hide htw
        rw [htw] at LK
        clear htw
        rw [hW2] at LK m0
        go_wp2_with fail
        rw [← hW2]
        go_roundw
        case rel => exact ⟨j + 1, by omega, by go_num, hide (HI1.out.skip HY.out HTW.out)⟩
        case measure => simp [intOf]; omega
      | false =>
        have HTW := hide htw
        rw [htw] at LK
        obtain ⟨w3, L3, hs3, hg3⟩ := HI1.out.fst.put (s := y.name) (v := (j : Int)) (by unfold maxLen; omega) HNS1.out (by unfold I64; omega)
        have HT0 : Hid (LvT w w3 (.slice an ss.length cn) (.slice al nl cl) ss l j y 0 Bm #[.string y.name, .slice ai ni ci, .slice av nv cv, .slice af nf cf]) := hide (HI1.out.begin HY.out (by rw [hBm]; exact HBX1.out) hs3 hg3)
        have b2 := (block_at HT0.out.mod 2).trans rfl
        rw [← HNE.out] at L3
        rw [hBm] at b2
        rw [hW2] at LK L3 m0
        clear htw hs3 hg3
        go_wp2_with fail
        rw [← hBm]
        clear LK L3 m0 b2 hW2 hBm HI HI1 HB1 HBX1 g0 g1 g2 g3
        go_loopw [40] (fun i wx => ∃ t : Nat, t ≤ nv ∧ i = .int .i64 t ∧ Hid (LvT w wx (.slice an ss.length cn) (.slice al nl cl) ss l j y t Bm #[.string y.name, .slice ai ni ci, .slice av nv cv, .slice af nf cf])) (fun i _ => nv - (intOf i).toNat)
        case atStart => exact ⟨0, Nat.zero_le _, rfl, HT0⟩
        case round =>
          obtain ⟨t, ht, rfl, HT⟩ := hrel
          by_cases htn : t < nv
          · obtain ⟨v, hv⟩ : ∃ v, y.vars[t]? = some v := ⟨_, List.getElem?_eq_getElem (by rw [← HNV.out]; exact htn)⟩
            obtain ⟨hz0, hz1, g0, g1⟩ := HCV.out t v hv
            obtain rfl := HAV.out (by omega)
            have HVT := hide hv
            have HZ0 := hide hz0
            have HZ1 := hide hz1
            replace g0 := cellUp g0 HT.out.bel
            replace g1 := cellUp g1 HT.out.bel
            obtain ⟨W5, hW5⟩ : ∃ W, W = wr.alloc (.cells #[.string v.name, .string v.level] 132) := ⟨_, rfl⟩
            obtain ⟨W6, hW6⟩ : ∃ W, W = W5.alloc (.cells #[.string y.name, .string v.name] 116) := ⟨_, rfl⟩
            have hb5 : Below wr.heap.size wr W5 := by rw [hW5]; exact boxBelow _ _
            have hb6 : Below W5.heap.size W5 W6 := by rw [hW6]; exact boxBelow _ _
            have e5 : W5.heap[wr.heap.size]? = some (.cells #[.string v.name, .string v.level] 132 (0, 0)) := by rw [hW5]; exact block_new _ _
            have e6 : W6.heap[W5.heap.size]? = some (.cells #[.string y.name, .string v.name] 116 (0, 0)) := by rw [hW6]; exact block_new _ _
            have HT5 := hide (HT.out.below hb5)
            have HT6 := hide (HT5.out.below hb6)
            have m0 := (block_at HT5.out.mod 0).trans rfl
            have v0 := (block_at e5 0).trans rfl
            have p0 := (block_at e6 0).trans rfl
            have p1 := (block_at e6 1).trans rfl
            have LK := HT6.out.lev.lookOk (x := y.name) (y := v.name) HNS1.out hz0
            rw [← HNE.out] at LK
            have HE5 : Hid (W6.heap[wr.heap.size]? = some (.cells #[.string v.name, .string v.level] 132 (0, 0))) := hide (by rw [hb6.block _ (block_lt e5)]; exact e5)
            have HE6 := hide e6
            clear hv hz0 hz1 hb5 hb6 e5 e6
            obtain ⟨wi, rfl⟩ : ∃ wi, wi = wr := ⟨_, rfl⟩
            have hs5 : W5.heap.size = wi.heap.size + 1 := by rw [hW5]; exact World.size_alloc _ _
            rw [hs5] at p0 p1 HE6
            cases ho : Lw.oAt ss (l.take j) y.name (y.vars.take t) y.name v.name with
            | some q =>
              have HO := hide (show (Lw.oAt ss (l.take j) y.name (y.vars.take t) y.name v.name).isSome = true by rw [ho]; rfl)
              rw [ho] at LK
              simp only [Option.getD_some, Option.isSome_some] at LK
              clear ho
              rw [hW6, hW5] at LK p0 p1
              rw [hW5] at m0 v0
              go_wp2_with fail
              rw [← hW5, ← hW6]
              go_roundw
              case rel => exact ⟨t + 1, by omega, by go_num, hide (HT6.out.skip HTW.out HVT.out HO.out)⟩
              case measure => simp [intOf]; omega
            | none =>
              have HO := hide ho
              rw [ho] at LK
              simp only [Option.getD_none, Option.isSome_none] at LK
              clear ho
              rw [hW6, hW5] at LK p0 p1
              rw [hW5] at m0 v0
              go_wp2_with fail
              rw [← hW5, ← hW6]
              clear LK m0 v0 p0 p1 g0 g1 hW6 hW5 hs5
              have p0 := (block_at HE6.out 0).trans rfl
              have p1 := (block_at HE6.out 1).trans rfl
              have v1 := (block_at HE5.out 1).trans rfl
              have l0 := (block_at HT6.out.box 0).trans rfl
              have l1 := (block_at HT6.out.box 1).trans rfl
              rw [← HNE.out] at l0 l1
              have HNU := hide (fun k os => lnumber_any (gn W6 k os) _ (.slice al nl cl) ss v.level (HS.out.below (up HT6.out.bel (below_gn W6 k os))))
              replace p0 := cell_gn p0
              replace p1 := cell_gn p1
              replace v1 := cell_gn v1
              replace l0 := cell_gn l0
              replace l1 := cell_gn l1
              refine wp_region_tail_gn 6 (by kernel_rfl) (by kernel_rfl) ?_
              dsimp only [List.take, List.drop]
              repeat (quiet_step ((exact Calls.gn_of (HNU.out _ _))))
              refine wpQuiet_nil ?_
              intro w7 hw'
              obtain ⟨⟨nq, osq⟩, hw''⟩ := hw'
              have HT7 : Hid (LvT w w7 (.slice an ss.length cn) (.slice al nl cl) ss l j y t Bm #[.string y.name, .slice ai ni ci, .slice (some ⟨bv, ov, none⟩) nv cv, .slice af nf cf]) := hide (HT6.out.below (by rw [hw'']; exact below_gn W6 nq osq))
              clear hw'' p0 p1 v1 l0 l1 HNU
              obtain ⟨w8, L8, hp8, hg8⟩ := HT7.out.lev.put (x := y.name) (y := v.name) (v := Lat.indexI ss v.level) (by have := HV8.out; unfold maxLen; omega) HNS1.out HZ0.out (indexI_i64 _ _ HNS.out)
              have HT8 := hide (HT7.out.put HTW.out HVT.out HO.out hp8 hg8)
              rw [← HNE.out] at L8
              clear hp8 hg8
              go_wp2_with fail
              go_roundw
              case rel => exact ⟨t + 1, by omega, by go_num, HT8⟩
              case measure => simp [intOf]; omega
          · obtain rfl : t = nv := by omega
            go_wp2_with fail
            go_roundw
            case rel => exact ⟨j + 1, by omega, by go_num, hide (by
              have h1 := HT.out
              rw [HNV.out] at h1
              exact h1.done HY.out (by rw [← HNV.out]; exact HV8.out))⟩
            case measure => simp [intOf]; omega
    · obtain rfl : j = n := by omega
      go_wp2_with fail
      go_ret
      refine ⟨by rw [← HNE.out]; rfl, hide ⟨?_, HI.out.bel⟩⟩
      have h1 := HI.out.lev
      rw [HN.out, List.take_length] at h1
      rw [HN.out]
      exact h1

end Go.Proofs.Ytmhcameodlhloab
