/- Walks over package names: twiceDiags. -/
import Derived.Test.YtholefgckcoklaaGreatDoorBZBD
namespace Go.Proofs.YtholefgckcoklaaGreatDoor
open Go.RowKit
theorem Own.form {w : World} {B : Nat} {v : Value} {l : List ByteArray} (h : Own w B v l) : ∃ a c, v = .slice a l.length c := by
  rcases h.shape with ⟨rfl, rfl⟩ | ⟨g, cap, rfl, _⟩
  · exact ⟨_, _, rfl⟩
  · exact ⟨_, _, rfl⟩
theorem box1_2 (w : World) (o : Obj) (c : Value) (t : TypeId) : ((w.alloc o).alloc (.cells #[c] t)).cell? ⟨w.heap.size + 1, 0, none⟩ = some c := (block_at (al2 w o (.cells #[c] t)).2.1 0).trans rfl
theorem dgsS_list (w : World) (n : Nat) (t : TypeId) (vs : List Value) (ls : List (List Dg)) (hlen : vs.length = ls.length) (h16 : ls.length ≤ 16) (h : ∀ (i : Nat) v l, vs[i]? = some v → ls[i]? = some l → OwnK DgC w n 43 3 v l) :
    DgsS (w.alloc (.cells vs.toArray t)) n (.slice (some ⟨w.heap.size, 0, none⟩) ls.length ls.length) ls := by
  refine ⟨w.heap.size, 0, ls.length, rfl, h16, fun i l hl => ?_⟩
  have hi : i < vs.length := by rw [hlen]; exact (List.getElem?_eq_some_iff.1 hl).1
  refine ⟨vs[i], ?_, (h i _ l (List.getElem?_eq_getElem hi) hl).below (boxBelow _ _)⟩
  rw [Nat.zero_add, block_at (block_new w (.cells vs.toArray t)) i]
  simp [hi]
theorem names_le {α : Type} (l : List α) (f : α → ByteArray) (j : Nat) : ((l.take j).map f).length ≤ l.length := by
  rw [List.length_map, List.length_take]; omega
set_option maxHeartbeats 4000000 in
set_option maxRecDepth 100000 in
theorem twiceDiags_any (m : Nat) (w : World) (vi vv vf : Value) (x : Mo) (h : MoAt w m (.agg #[.string x.name, vi, vv, vf]) x) (hc : MoCap w vi vf) (hlv : x.vars.length ≤ 1048576) (hlf : x.funs.length ≤ 1048576) (hlen : (Nm.twD x).length ≤ 16777216) :
    Calls Tryz.prog 57 #[.agg #[.string x.name, vi, vv, vf]] w fun e w' => ∃ u, e = .returned u ∧ OwnK DgC w' w.heap.size 43 3 u (Nm.twD x) ∧ Below w.heap.size w w' := by
  obtain ⟨hI, hV, hF⟩ := h.split
  have HIC : Hid (StrsC w vi x.imports) := by
    refine hide ⟨hI, ?_⟩
    obtain ⟨a, b, off, c, rfl, _⟩ := hI
    exact ⟨a, c, rfl, hc.imp _ _ _ rfl⟩
  obtain ⟨ai, bi, oi, ci, rfl, -⟩ := hI
  obtain ⟨av, bv, ov, cv, rfl, hav, -, hcv⟩ := hV
  obtain ⟨af, bf, of, cf, rfl, haf, -, hcf⟩ := hF
  have HCV := hide hcv
  have HAV := hide hav
  have HCF : Hid (FuEl w m bf of x.funs) := hcf
  have HAF := hide haf
  have HMC := hide hc
  have HLD : Hid (Nm.twD x = [Nm.twA ⟨#[]⟩ x.imports, Nm.twA ⟨#[]⟩ (x.vars.map (·.name)), Nm.twA ⟨#[]⟩ (x.funs.map (·.name))].flatten ++ x.funs.flatMap fun f => Nm.twA f.name f.params) := rfl
  have HLE := hide hlen
  rw [HLD.out] at HLE
  obtain ⟨R, hR⟩ : ∃ R, R = Nm.twD x := ⟨_, rfl⟩
  rw [← hR] at HLD ⊢
  obtain ⟨T1, hT1⟩ : ∃ T, T = Nm.twA ⟨#[]⟩ x.imports := ⟨_, rfl⟩
  obtain ⟨T2, hT2⟩ : ∃ T, T = Nm.twA ⟨#[]⟩ (x.vars.map (·.name)) := ⟨_, rfl⟩
  obtain ⟨T3, hT3⟩ : ∃ T, T = Nm.twA ⟨#[]⟩ (x.funs.map (·.name)) := ⟨_, rfl⟩
  have HT1 := hide hT1
  have HT2 := hide hT2
  have HT3 := hide hT3
  rw [← hT1, ← hT2, ← hT3] at HLD HLE
  have HL3 : Hid (T1.length + T2.length + T3.length + (x.funs.flatMap fun f => Nm.twA f.name f.params).length ≤ 16777216) := hide (by
    have := HLE.out
    simp only [List.flatten_cons, List.flatten_nil, List.append_nil, List.length_append] at this
    omega)
  obtain ⟨vars, hvars⟩ : ∃ l, l = x.vars := ⟨_, rfl⟩
  obtain ⟨funs, hfuns⟩ : ∃ l, l = x.funs := ⟨_, rfl⟩
  rw [← hvars] at hlv HCV HAV HT2 ⊢
  rw [← hfuns] at hlf HCF HAF HLD HT3 HL3 HMC ⊢
  obtain ⟨nv, hnv⟩ : ∃ n, n = vars.length := ⟨_, rfl⟩
  obtain ⟨nf, hnf⟩ : ∃ n, n = funs.length := ⟨_, rfl⟩
  have HNV := hide hnv
  have HNF := hide hnf
  rw [← hnv] at hlv HAV ⊢
  rw [← hnf] at hlf HAF HMC ⊢
  generalize x.imports.length = ni at *
  generalize x.name = xn at *
  have HBX := hide (block_new w (.cells #[.string xn, .slice ai ni ci, .slice av nv cv, .slice af nf cf] 26))
  have q1 := boxD1 w (.string xn) (.slice ai ni ci) (.slice av nv cv) (.slice af nf cf) 26
  have q2 := boxD2 w (.string xn) (.slice ai ni ci) (.slice av nv cv) (.slice af nf cf) 26
  have q3 := boxN3 w (.string xn) (.slice ai ni ci) (.slice av nv cv) (.slice af nf cf) 26
  have HB0 := hide (boxBelow w (.cells #[.string xn, .slice ai ni ci, .slice av nv cv, .slice af nf cf] 26))
  clear hcv hav hcf haf hlen hR hvars hfuns hnv hnf h hc hT1 hT2 hT3 HLE
  go_enter Tryz.func57, Tryz.ntmps57
  go_wp2_with fail
  generalize (w.alloc (.cells #[.string xn, .slice ai ni ci, .slice av nv cv, .slice af nf cf] 26)) = W1 at *
  go_loopw [3, 15] (fun v i wr => ∃ j : Nat, j ≤ nv ∧ i = .int .i64 j ∧ Own wr W1.heap.size v ((vars.take j).map (·.name)) ∧ Below W1.heap.size W1 wr) (fun _ i _ => nv - (intOf i).toNat)
  case atStart => exact ⟨0, Nat.zero_le _, rfl, World.ownsRow_nil _ _ _ _, Below.refl _ _⟩
  case round =>
    obtain ⟨j, hj, rfl, hown, hnx⟩ := hrel
    have HOW := hide hown
    have HNX := hide hnx
    by_cases hjl : j < nv
    · obtain ⟨y, hy⟩ : ∃ y, vars[j]? = some y := ⟨_, List.getElem?_eq_getElem (by rw [← HNV.out]; exact hjl)⟩
      obtain ⟨-, -, g0, g1⟩ := HCV.out j y hy
      obtain rfl := HAV.out (by omega)
      replace g0 := cellUp g0 (up HB0.out hnx)
      replace g1 := cellUp g1 (up HB0.out hnx)
      have HST := hide (map_succ (f := fun v : Va => v.name) hy)
      have HB5 := hide (boxBelow wr (.cells #[.string y.name, .string y.level] 98))
      have c0 := (block_at (block_new wr (.cells #[.string y.name, .string y.level] 98)) 0).trans (rfl : _ = some (Value.string y.name))
      have hml := names_le vars (·.name) j
      rw [← HNV.out] at hml
      obtain ⟨a3, c3, rfl⟩ := hown.form
      obtain ⟨ln, hln⟩ : ∃ n, n = ((vars.take j).map (·.name)).length := ⟨_, rfl⟩
      have HLN := hide hln
      rw [← hln] at HOW hml ⊢
      clear hy hown hnx hln
      go_wp2_with (first
        | (at_builtin; refine wpList_append_str rfl _ _ rfl W1.heap.size _ _ rfl (own_below HOW.out (up HB5.out (boxBelow _ _))) _ y.name rfl (box1_2 _ _ _ _) (by have := HLN.out; omega) (Nat.le_trans HNX.out.size (up HB5.out (boxBelow _ _)).size) ?_; intro v6 w6 hown6 hgrow6; have HOW6 := hide hown6; have HN6 := hide (grown_below (up HNX.out (up HB5.out (boxBelow _ _))) hgrow6 (fun j hj => (World.ownsRow.lt HOW.out j hj).1)); clear hown6 hgrow6)
        | fail)
      go_roundw
      case rel => exact ⟨j + 1, by omega, by go_num, by rw [HST.out]; exact HOW6.out, HN6.out⟩
      case measure => simp [intOf]; omega
    · have hje : (vars.take j) = vars := List.take_of_length_le (by have := HNV.out; omega)
      rw [hje] at HOW hown
      obtain ⟨a3, c3, rfl⟩ := hown.form
      obtain ⟨ln, hln⟩ : ∃ n, n = (vars.map (·.name)).length := ⟨_, rfl⟩
      rw [← hln] at HOW ⊢
      replace q1 := cellUp q1 hnx
      replace q3 := cellUp q3 hnx
      have HQ := hide (And.intro q1 q3)
      clear hje hown hnx hln q2
      obtain ⟨wo, rfl⟩ : ∃ wo, wo = wr := ⟨_, rfl⟩
      go_wp2_with fail
      go_loopw [4, 28] (fun v i wx => ∃ t : Nat, t ≤ nf ∧ i = .int .i64 t ∧ Own wx wo.heap.size v ((funs.take t).map (·.name)) ∧ Below wo.heap.size wo wx) (fun _ i _ => nf - (intOf i).toNat)
      case atStart => exact ⟨0, Nat.zero_le _, rfl, World.ownsRow_nil _ _ _ _, Below.refl _ _⟩
      case round =>
        obtain ⟨t, ht, rfl, hown, hnx⟩ := hrel
        have HO4 := hide hown
        have HX4 := hide hnx
        by_cases htl : t < nf
        · obtain ⟨y, hy⟩ : ∃ y, funs[t]? = some y := ⟨_, List.getElem?_eq_getElem (by rw [← HNF.out]; exact htl)⟩
          obtain ⟨-, vp, vb, e0, e1, e2, e3, g0, g1, g2, g3, g4, g5, g6, hp, hb, hx⟩ := HCF.out t y hy
          obtain rfl := HAF.out (by omega)
          have hbb := up (up HB0.out HNX.out) hnx
          replace g0 := cellUp g0 hbb
          replace g1 := cellUp g1 hbb
          replace g2 := cellUp g2 hbb
          replace g3 := cellUp g3 hbb
          replace g4 := cellUp g4 hbb
          replace g5 := cellUp g5 hbb
          replace g6 := cellUp g6 hbb
          obtain ⟨ap, bp, op, cp, rfl, -⟩ := hp
          obtain ⟨sb, cb', rfl⟩ := hb.shapeN
          obtain ⟨xa, xc, rfl, rfl, rfl, rfl⟩ := hx.shape
          generalize y.params.length = np at *
          generalize y.body.length = nb at *
          generalize y.result.args.length = ne at *
          have HST := hide (map_succ (f := fun v : Fu => v.name) hy)
          have HB5 := hide (boxBelow wr (.cells #[.string y.name, .slice ap np cp, .slice sb nb cb', .int .i64 y.result.kind, .int .i64 y.result.n, .string y.result.name, .slice xa ne xc] 106))
          have c0 := (block_at (block_new wr (.cells #[.string y.name, .slice ap np cp, .slice sb nb cb', .int .i64 y.result.kind, .int .i64 y.result.n, .string y.result.name, .slice xa ne xc] 106)) 0).trans (rfl : _ = some (Value.string y.name))
          have hml := names_le funs (·.name) t
          rw [← HNF.out] at hml
          obtain ⟨a4, c4, rfl⟩ := hown.form
          obtain ⟨l4, hl4⟩ : ∃ n, n = ((funs.take t).map (·.name)).length := ⟨_, rfl⟩
          have HL4 := hide hl4
          rw [← hl4] at HO4 hml ⊢
          clear hy hown hnx hl4 hb hx hbb q1 q3
          go_wp2_with (first
            | (at_builtin; refine wpList_append_str rfl _ _ rfl wo.heap.size _ _ rfl (own_below HO4.out (up HB5.out (boxBelow _ _))) _ y.name rfl (box1_2 _ _ _ _) (by have := HL4.out; omega) (Nat.le_trans HX4.out.size (up HB5.out (boxBelow _ _)).size) ?_; intro v6 w6 hown6 hgrow6; have HOW6 := hide hown6; have HN6 := hide (grown_below (up HX4.out (up HB5.out (boxBelow _ _))) hgrow6 (fun j hj => (World.ownsRow.lt HO4.out j hj).1)); clear hown6 hgrow6)
            | fail)
          go_roundw
          case rel => exact ⟨t + 1, by omega, by go_num, by rw [HST.out]; exact HOW6.out, HN6.out⟩
          case measure => simp [intOf]; omega
        · have hje : (funs.take t) = funs := List.take_of_length_le (by have := HNF.out; omega)
          rw [hje] at HO4 hown
          have HS3 : Hid (StrsC wr (.slice a3 ln c3) (vars.map (·.name))) := hide (Own.strsC (own_below HOW.out HX4.out) (fun s hs => by
            obtain ⟨y, hy, rfl⟩ := List.mem_map.1 hs
            obtain ⟨i, hi, rfl⟩ := List.mem_iff_getElem.1 hy
            exact (HCV.out i _ (List.getElem?_eq_getElem hi)).1) (by rw [List.length_map, ← HNV.out]; omega))
          obtain ⟨a4, c4, rfl⟩ := hown.form
          obtain ⟨l4, hl4⟩ : ∃ n, n = (funs.map (·.name)).length := ⟨_, rfl⟩
          rw [← hl4] at HO4 ⊢
          have HS4 : Hid (StrsC wr (.slice a4 l4 c4) (funs.map (·.name))) := hide (Own.strsC HO4.out (fun s hs => by
            obtain ⟨y, hy, rfl⟩ := List.mem_map.1 hs
            obtain ⟨i, hi, rfl⟩ := List.mem_iff_getElem.1 hy
            exact (HCF.out i _ (List.getElem?_eq_getElem hi)).1) (by rw [List.length_map, ← HNF.out]; omega))
          have HBW := hide (up (up HB0.out HNX.out) hnx)
          replace q1 := cellUp q1 hnx
          have HQ3 := hide (cellUp HQ.out.2 hnx)
          clear hje hown hnx hl4 q3 HOW HO4
          go_wp2_with fail
          refine (twiceAmong_any wr _ x.imports ⟨#[]⟩ (HIC.out.below HBW.out) (by rw [← HT1.out]; have := HL3.out; omega)).mono ?_
          rintro e w5 ⟨u5, rfl, hu5, hb5⟩
          rw [← HT1.out] at hu5
          have HU5 := hide hu5
          have HB5 := hide hb5
          obtain ⟨a5, c5, rfl⟩ := hu5.form
          clear hu5 hb5 q1
          generalize hz5 : T1.length = t1 at *
          go_wp2_with fail
          refine (twiceAmong_any w5 _ (vars.map (·.name)) ⟨#[]⟩ (HS3.out.below HB5.out) (by rw [← HT2.out]; have := HL3.out; omega)).mono ?_
          rintro e w6 ⟨u6, rfl, hu6, hb6⟩
          rw [← HT2.out] at hu6
          have HU6 := hide hu6
          have HB6 := hide hb6
          obtain ⟨a6, c6, rfl⟩ := hu6.form
          clear hu6 hb6
          generalize hz6 : T2.length = t2 at *
          go_wp2_with fail
          refine (twiceAmong_any w6 _ (funs.map (·.name)) ⟨#[]⟩ ((HS4.out.below HB5.out).below HB6.out) (by rw [← HT3.out]; have := HL3.out; omega)).mono ?_
          rintro e w7 ⟨u7, rfl, hu7, hb7⟩
          rw [← HT3.out] at hu7
          have HU7 := hide hu7
          have HB7 := hide hb7
          obtain ⟨a7, c7, rfl⟩ := hu7.form
          clear hu7 hb7
          generalize hz7 : T3.length = t3 at *
          have HDS : Hid (DgsS (w7.alloc (.cells #[.slice a5 t1 c5, .slice a6 t2 c6, .slice a7 t3 c7] 37)) wr.heap.size (.slice (some ⟨w7.heap.size, 0, none⟩) 3 3) [T1, T2, T3]) :=
            hide (dgsS_list w7 wr.heap.size 37 [.slice a5 t1 c5, .slice a6 t2 c6, .slice a7 t3 c7] [T1, T2, T3] rfl (by simp) (fun i v l hv hl => by
              match i, hv, hl with
              | 0, hv, hl => simp at hv hl; subst hv hl; exact (HU5.out.below HB6.out).below HB7.out
              | 1, hv, hl => simp at hv hl; subst hv hl; exact (HU6.out.below HB7.out).old HB5.out.size
              | 2, hv, hl => simp at hv hl; subst hv hl; exact HU7.out.old (Nat.le_trans HB5.out.size HB6.out.size)
              | i + 3, hv, hl => simp at hv))
          have HC3 : Hid (([T1, T2, T3] : List (List Dg)).flatten.length ≤ 16777216) := hide (by
            have := HL3.out
            simp only [List.flatten_cons, List.flatten_nil, List.append_nil, List.length_append]
            omega)
          have HB8 := hide (up (up (up HBW.out HB5.out) HB6.out) (up HB7.out (boxBelow w7 (.cells #[.slice a5 t1 c5, .slice a6 t2 c6, .slice a7 t3 c7] 37))))
          have hq3 := cellUp (cellUp (cellUp (cellUp HQ3.out HB5.out) HB6.out) HB7.out) (boxBelow w7 (.cells #[.slice a5 t1 c5, .slice a6 t2 c6, .slice a7 t3 c7] 37))
          have HQ8 := hide hq3
          clear hq3 HS3 HS4 HU5 HU6 HU7 HQ3 HIC HT1 HT2 HT3
          go_wp2_with fail
          refine (concatD_any _ _ _ _ HDS.out HC3.out).mono ?_
          rintro e w9 ⟨u9, rfl, hu9, hb9⟩
          have HU9 := hide (hu9.old HB8.out.size)
          have HB9 := hide (up HB8.out hb9)
          have q9 := cellUp HQ8.out hb9
          obtain ⟨F, hF⟩ : ∃ F, F = ([T1, T2, T3] : List (List Dg)).flatten := ⟨_, rfl⟩
          have HF := hide hF
          rw [← hF] at HU9 hu9
          obtain ⟨a9, c9, rfl⟩ := hu9.form
          generalize hz9 : F.length = t9 at *
          have HFL : Hid (F.length + (funs.flatMap fun f => Nm.twA f.name f.params).length ≤ 16777216) := hide (by
            have := HL3.out
            rw [HF.out]
            simp only [List.flatten_cons, List.flatten_nil, List.append_nil, List.length_append]
            omega)
          rw [← HF.out] at HLD
          clear hu9 hb9 hF HQ8 HB5 HB6 HB7 HDS HC3 HL3 HF
          go_wp2_with fail
          go_loopw [9, 50] (fun v i wx => ∃ t : Nat, t ≤ nf ∧ i = .int .i64 t ∧ OwnK DgC wx w.heap.size 43 3 v (F ++ (funs.take t).flatMap fun f => Nm.twA f.name f.params) ∧ Below w.heap.size w wx) (fun _ i _ => nf - (intOf i).toNat)
          case atStart => exact ⟨0, Nat.zero_le _, rfl, by simpa using HU9.out, HB9.out⟩
          case round =>
            obtain ⟨s, hs, rfl, hown, hnx⟩ := hrel
            have HO4 := hide hown
            have HX4 := hide hnx
            by_cases hsl : s < nf
            · obtain ⟨y, hy⟩ : ∃ y, funs[s]? = some y := ⟨_, List.getElem?_eq_getElem (by rw [← HNF.out]; exact hsl)⟩
              obtain ⟨-, vp, vb, e0, e1, e2, e3, g0, g1, g2, g3, g4, g5, g6, hp, hb, hx⟩ := HCF.out s y hy
              obtain rfl := HAF.out (by omega)
              have HPC : Hid (StrsC w vp y.params) := by
                refine hide ⟨hp, ?_⟩
                obtain ⟨vp', k1, k2⟩ := HMC.out.par bf of nf cf rfl s hsl
                rw [g1] at k1
                cases k1
                obtain ⟨a, b, off, c, rfl, _⟩ := hp
                exact ⟨a, c, rfl, k2 _ _ _ rfl⟩
              have HST := hide (flat_succ (f := fun f : Fu => Nm.twA f.name f.params) hy)
              have HLS : Hid ((F ++ (funs.take s).flatMap fun f => Nm.twA f.name f.params).length + (Nm.twA y.name y.params).length ≤ 16777216) := hide (by
                have h1 := flat_le (f := fun f : Fu => Nm.twA f.name f.params) (l := funs) (s + 1)
                rw [HST.out, List.length_append] at h1
                have h2 := HFL.out
                rw [List.length_append]
                omega)
              replace g0 := cellUp g0 hnx
              replace g1 := cellUp g1 hnx
              replace g2 := cellUp g2 hnx
              replace g3 := cellUp g3 hnx
              replace g4 := cellUp g4 hnx
              replace g5 := cellUp g5 hnx
              replace g6 := cellUp g6 hnx
              obtain ⟨ap, bp, op, cp, rfl, -⟩ := hp
              obtain ⟨sb, cb', rfl⟩ := hb.shapeN
              obtain ⟨xa, xc, rfl, rfl, rfl, rfl⟩ := hx.shape
              generalize y.params.length = np at *
              generalize y.body.length = nb at *
              generalize y.result.args.length = ne at *
              have HB5 := hide (boxBelow wr (.cells #[.string y.name, .slice ap np cp, .slice sb nb cb', .int .i64 y.result.kind, .int .i64 y.result.n, .string y.result.name, .slice xa ne xc] 106))
              have hbn := block_new wr (.cells #[.string y.name, .slice ap np cp, .slice sb nb cb', .int .i64 y.result.kind, .int .i64 y.result.n, .string y.result.name, .slice xa ne xc] 106)
              have c0 := (block_at hbn 0).trans (rfl : _ = some (Value.string y.name))
              have c1 := (block_at hbn 1).trans (rfl : _ = some (Value.slice ap np cp))
              obtain ⟨a4, c4, rfl⟩ := hown.form
              obtain ⟨l4, hl4⟩ : ∃ n, n = (F ++ (funs.take s).flatMap fun f => Nm.twA f.name f.params).length := ⟨_, rfl⟩
              rw [← hl4] at HO4 ⊢
              clear hy hown hnx hl4 hb hx hbn
              go_wp2_with fail
              refine (twiceAmong_any _ _ y.params y.name (HPC.out.below (up HX4.out HB5.out)) (by have := HLS.out; omega)).mono ?_
              rintro e w5 ⟨u5, rfl, hu5, hb5⟩
              have HU5 := hide hu5
              have HB6 := hide (up HB5.out hb5)
              clear hu5 hb5
              go_wp2_with (first
                | (at_builtin; refine wpList_append_K (At := DgC) rfl _ _ 37 43 3 40 _ rfl Tryz.underlying37 infoDg (by decide) (by decide) (by decide) w.heap.size _ _ rfl (HO4.out.below HB6.out) _ _ _ rfl HU5.out HLS.out (up HX4.out HB6.out).size ?_; intro v6 w6 hown6 hgrow6; have HOW6 := hide hown6; have HN6 := hide (grown_below (up HX4.out HB6.out) hgrow6 (fun j hj => (HO4.out.lt j hj).1)); clear hown6 hgrow6)
                | fail)
              go_roundw
              case rel => exact ⟨s + 1, by omega, by go_num, by rw [HST.out, ← List.append_assoc]; exact HOW6.out, HN6.out⟩
              case measure => simp [intOf]; omega
            · have hje : (funs.take s) = funs := List.take_of_length_le (by have := HNF.out; omega)
              rw [hje, ← HLD.out] at HO4 hown
              obtain ⟨a4, c4, rfl⟩ := hown.form
              generalize R.length = nr at *
              clear hown hnx hje
              go_wp2_with fail
              go_ret
              exact ⟨_, rfl, HO4.out, HX4.out⟩
end Go.Proofs.YtholefgckcoklaaGreatDoor
