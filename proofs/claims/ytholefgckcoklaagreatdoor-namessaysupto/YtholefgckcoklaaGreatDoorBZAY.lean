/- Walks over package names: twiceDiags. -/
import Derived.Test.YtholefgckcoklaaGreatDoorBZAW
import Derived.Deep.RegionHeld3
import Derived.Sort.Grow
import Derived.Test.YtholefgckcoklaaGreatDoorBVS
namespace Go.Proofs.YtholefgckcoklaaGreatDoor
open Go.RowKit
theorem Own.form {w : World} {B : Nat} {v : Value} {l : List ByteArray} (h : Own w B v l) : ∃ a c, v = .slice a l.length c := by
  rcases h.shape with ⟨rfl, rfl⟩ | ⟨g, cap, rfl, _⟩
  · exact ⟨_, _, rfl⟩
  · exact ⟨_, _, rfl⟩
theorem box1_2 (w : World) (o : Obj) (c : Value) (t : TypeId) : ((w.alloc o).alloc (.cells #[c] t)).cell? ⟨w.heap.size + 1, 0, none⟩ = some c := (block_at (al2 w o (.cells #[c] t)).2.1 0).trans rfl
theorem dgsS_list (w : World) (n : Nat) (t : TypeId) (vs : List Value) (ls : List (List Dg)) (hlen : vs.length = ls.length) (h16 : ls.length ≤ 16) (h : ∀ (i : Nat) v l, vs[i]? = some v → ls[i]? = some l → OwnK DgC w n 43 3 v l) :
    DgsS (w.alloc (.cells vs.toArray t)) n (.slice (some ⟨w.heap.size, 0, none⟩) ls.length ls.length) ls := by
  refine ⟨w.heap.size, 0, ls.length, rfl, h16, fun i l hl => ?_⟩
  have hi : i < vs.length := by rw [hlen]; exact (List.getElem?_eq_some_iff.1 hl).1
  refine ⟨vs[i], ?_, (h i _ l (List.getElem?_eq_getElem hi) hl).below (boxBelow _ _)⟩
  rw [Nat.zero_add, block_at (block_new w (.cells vs.toArray t)) i]
  simp [hi]
theorem names_le {α : Type} (l : List α) (f : α → ByteArray) (j : Nat) : ((l.take j).map f).length ≤ l.length := by
  rw [List.length_map, List.length_take]; omega
set_option maxHeartbeats 4000000 in
set_option maxRecDepth 100000 in
theorem twiceDiags_any (m : Nat) (w : World) (vi vv vf : Value) (x : Mo) (h : MoAt w m (.agg #[.string x.name, vi, vv, vf]) x) (hc : MoCap w vi vf) (hlv : x.vars.length ≤ 1048576) (hlf : x.funs.length ≤ 1048576) (hlen : (Nm.twD x).length ≤ 16777216) :
    Calls Tryz.prog 57 #[.agg #[.string x.name, vi, vv, vf]] w fun e w' => ∃ u, e = .returned u ∧ OwnK DgC w' w.heap.size 43 3 u (Nm.twD x) ∧ Below w.heap.size w w' := by
  obtain ⟨hI, hV, hF⟩ := h.split
  have HIC : Hid (StrsC w vi x.imports) := by
    refine hide ⟨hI, ?_⟩
    obtain ⟨a, b, off, c, rfl, _⟩ := hI
    exact ⟨a, c, rfl, hc.imp _ _ _ rfl⟩
  obtain ⟨ai, bi, oi, ci, rfl, -⟩ := hI
  obtain ⟨av, bv, ov, cv, rfl, hav, -, hcv⟩ := hV
  obtain ⟨af, bf, of, cf, rfl, haf, -, hcf⟩ := hF
  have HCV := hide hcv
  have HAV := hide hav
  have HCF : Hid (FuEl w m bf of x.funs) := hcf
  have HAF := hide haf
  have HMC := hide hc
  have HLD : Hid (Nm.twD x = [Nm.twA ⟨#[]⟩ x.imports, Nm.twA ⟨#[]⟩ (x.vars.map (·.name)), Nm.twA ⟨#[]⟩ (x.funs.map (·.name))].flatten ++ x.funs.flatMap fun f => Nm.twA f.name f.params) := rfl
  have HLE := hide hlen
  rw [HLD.out] at HLE
  obtain ⟨R, hR⟩ : ∃ R, R = Nm.twD x := ⟨_, rfl⟩
  rw [← hR] at HLD ⊢
  obtain ⟨T1, hT1⟩ : ∃ T, T = Nm.twA ⟨#[]⟩ x.imports := ⟨_, rfl⟩
  obtain ⟨T2, hT2⟩ : ∃ T, T = Nm.twA ⟨#[]⟩ (x.vars.map (·.name)) := ⟨_, rfl⟩
  obtain ⟨T3, hT3⟩ : ∃ T, T = Nm.twA ⟨#[]⟩ (x.funs.map (·.name)) := ⟨_, rfl⟩
  have HT1 := hide hT1
  have HT2 := hide hT2
  have HT3 := hide hT3
  rw [← hT1, ← hT2, ← hT3] at HLD HLE
  have HL3 : Hid (T1.length + T2.length + T3.length + (x.funs.flatMap fun f => Nm.twA f.name f.params).length ≤ 16777216) := hide (by
    have := HLE.out
    simp only [List.flatten_cons, List.flatten_nil, List.append_nil, List.length_append] at this
    omega)
  obtain ⟨vars, hvars⟩ : ∃ l, l = x.vars := ⟨_, rfl⟩
  obtain ⟨funs, hfuns⟩ : ∃ l, l = x.funs := ⟨_, rfl⟩
  rw [← hvars] at hlv HCV HAV HT2 ⊢
  rw [← hfuns] at hlf HCF HAF HLD HT3 HL3 HMC ⊢
  obtain ⟨nv, hnv⟩ : ∃ n, n = vars.length := ⟨_, rfl⟩
  obtain ⟨nf, hnf⟩ : ∃ n, n = funs.length := ⟨_, rfl⟩
  have HNV := hide hnv
  have HNF := hide hnf
  rw [← hnv] at hlv HAV ⊢
  rw [← hnf] at hlf HAF HMC ⊢
  generalize x.imports.length = ni at *
  generalize x.name = xn at *
  have HBX := hide (block_new w (.cells #[.string xn, .slice ai ni ci, .slice av nv cv, .slice af nf cf] 26))
  have q1 := boxD1 w (.string xn) (.slice ai ni ci) (.slice av nv cv) (.slice af nf cf) 26
  have q2 := boxD2 w (.string xn) (.slice ai ni ci) (.slice av nv cv) (.slice af nf cf) 26
  have q3 := boxN3 w (.string xn) (.slice ai ni ci) (.slice av nv cv) (.slice af nf cf) 26
  have HB0 := hide (boxBelow w (.cells #[.string xn, .slice ai ni ci, .slice av nv cv, .slice af nf cf] 26))
  clear hcv hav hcf haf hlen hR hvars hfuns hnv hnf h hc hT1 hT2 hT3 HLE
  go_enter Tryz.func57, Tryz.ntmps57
  go_wp2_with fail
  generalize (w.alloc (.cells #[.string xn, .slice ai ni ci, .slice av nv cv, .slice af nf cf] 26)) = W1 at *
  go_loopw [3, 15] (fun v i wr => ∃ j : Nat, j ≤ nv ∧ i = .int .i64 j ∧ Own wr W1.heap.size v ((vars.take j).map (·.name)) ∧ Below W1.heap.size W1 wr) (fun _ i _ => nv - (intOf i).toNat)
  case atStart => exact ⟨0, Nat.zero_le _, rfl, World.ownsRow_nil _ _ _ _, Below.refl _ _⟩
  case round =>
    obtain ⟨j, hj, rfl, hown, hnx⟩ := hrel
    have HOW := hide hown
    have HNX := hide hnx
    by_cases hjl : j < nv
    · obtain ⟨y, hy⟩ : ∃ y, vars[j]? = some y := ⟨_, List.getElem?_eq_getElem (by rw [← HNV.out]; exact hjl)⟩
      obtain ⟨-, -, g0, g1⟩ := HCV.out j y hy
      obtain rfl := HAV.out (by omega)
      replace g0 := cellUp g0 (up HB0.out hnx)
      replace g1 := cellUp g1 (up HB0.out hnx)
      have HST := hide (map_succ (f := fun v : Va => v.name) hy)
      have HB5 := hide (boxBelow wr (.cells #[.string y.name, .string y.level] 98))
      have c0 := (block_at (block_new wr (.cells #[.string y.name, .string y.level] 98)) 0).trans (rfl : _ = some (Value.string y.name))
      have hml := names_le vars (·.name) j
      rw [← HNV.out] at hml
      obtain ⟨a3, c3, rfl⟩ := hown.form
      obtain ⟨ln, hln⟩ : ∃ n, n = ((vars.take j).map (·.name)).length := ⟨_, rfl⟩
      have HLN := hide hln
      rw [← hln] at HOW hml ⊢
      clear hy hown hnx hln
      go_wp2_with (first
        | (at_builtin; refine wpList_append_str rfl _ _ rfl W1.heap.size _ _ rfl (own_below HOW.out (up HB5.out (boxBelow _ _))) _ y.name rfl (box1_2 _ _ _ _) (by have := HLN.out; omega) (Nat.le_trans HNX.out.size (up HB5.out (boxBelow _ _)).size) ?_; intro v6 w6 hown6 hgrow6; have HOW6 := hide hown6; have HN6 := hide (grown_below (up HNX.out (up HB5.out (boxBelow _ _))) hgrow6 (fun j hj => (World.ownsRow.lt HOW.out j hj).1)); clear hown6 hgrow6)
        | fail)
      go_roundw
      case rel => exact ⟨j + 1, by omega, by go_num, by rw [HST.out]; exact HOW6.out, HN6.out⟩
      case measure => simp [intOf]; omega
    · have hje : (vars.take j) = vars := List.take_of_length_le (by have := HNV.out; omega)
      rw [hje] at HOW hown
      obtain ⟨a3, c3, rfl⟩ := hown.form
      obtain ⟨ln, hln⟩ : ∃ n, n = (vars.map (·.name)).length := ⟨_, rfl⟩
      rw [← hln] at HOW ⊢
      replace q1 := cellUp q1 hnx
      replace q3 := cellUp q3 hnx
      have HQ := hide (And.intro q1 q3)
      clear hje hown hnx hln q2
      obtain ⟨wo, rfl⟩ : ∃ wo, wo = wr := ⟨_, rfl⟩
      go_wp2_with fail
      go_loopw [4, 28] (fun v i wx => ∃ t : Nat, t ≤ nf ∧ i = .int .i64 t ∧ Own wx wo.heap.size v ((funs.take t).map (·.name)) ∧ Below wo.heap.size wo wx) (fun _ i _ => nf - (intOf i).toNat)
      case atStart => exact ⟨0, Nat.zero_le _, rfl, World.ownsRow_nil _ _ _ _, Below.refl _ _⟩
      case round =>
        obtain ⟨t, ht, rfl, hown, hnx⟩ := hrel
        have HO4 := hide hown
        have HX4 := hide hnx
        by_cases htl : t < nf
        · obtain ⟨y, hy⟩ : ∃ y, funs[t]? = some y := ⟨_, List.getElem?_eq_getElem (by rw [← HNF.out]; exact htl)⟩
          obtain ⟨-, vp, vb, e0, e1, e2, e3, g0, g1, g2, g3, g4, g5, g6, hp, hb, hx⟩ := HCF.out t y hy
          obtain rfl := HAF.out (by omega)
          have hbb := up (up HB0.out HNX.out) hnx
          replace g0 := cellUp g0 hbb
          replace g1 := cellUp g1 hbb
          replace g2 := cellUp g2 hbb
          replace g3 := cellUp g3 hbb
          replace g4 := cellUp g4 hbb
          replace g5 := cellUp g5 hbb
          replace g6 := cellUp g6 hbb
          obtain ⟨ap, bp, op, cp, rfl, -⟩ := hp
          obtain ⟨sb, cb', rfl⟩ := hb.shapeN
          obtain ⟨xa, xc, rfl, rfl, rfl, rfl⟩ := hx.shape
          generalize y.params.length = np at *
          generalize y.body.length = nb at *
          generalize y.result.args.length = ne at *
          have HST := hide (map_succ (f := fun v : Fu => v.name) hy)
          have HB5 := hide (boxBelow wr (.cells #[.string y.name, .slice ap np cp, .slice sb nb cb', .int .i64 y.result.kind, .int .i64 y.result.n, .string y.result.name, .slice xa ne xc] 106))
          have c0 := (block_at (block_new wr (.cells #[.string y.name, .slice ap np cp, .slice sb nb cb', .int .i64 y.result.kind, .int .i64 y.result.n, .string y.result.name, .slice xa ne xc] 106)) 0).trans (rfl : _ = some (Value.string y.name))
          have hml := names_le funs (·.name) t
          rw [← HNF.out] at hml
          obtain ⟨a4, c4, rfl⟩ := hown.form
          obtain ⟨l4, hl4⟩ : ∃ n, n = ((funs.take t).map (·.name)).length := ⟨_, rfl⟩
          have HL4 := hide hl4
          rw [← hl4] at HO4 hml ⊢
          clear hy hown hnx hl4 hb hx hbb q1 q3
          go_wp2_with (first
            | (at_builtin; refine wpList_append_str rfl _ _ rfl wo.heap.size _ _ rfl (own_below HO4.out (up HB5.out (boxBelow _ _))) _ y.name rfl (box1_2 _ _ _ _) (by have := HL4.out; omega) (Nat.le_trans HX4.out.size (up HB5.out (boxBelow _ _)).size) ?_; intro v6 w6 hown6 hgrow6; have HOW6 := hide hown6; have HN6 := hide (grown_below (up HX4.out (up HB5.out (boxBelow _ _))) hgrow6 (fun j hj => (World.ownsRow.lt HO4.out j hj).1)); clear hown6 hgrow6)
            | fail)
          go_roundw
          case rel => exact ⟨t + 1, by omega, by go_num, by rw [HST.out]; exact HOW6.out, HN6.out⟩
          case measure => simp [intOf]; omega
        · have hje : (funs.take t) = funs := List.take_of_length_le (by have := HNF.out; omega)
          rw [hje] at HO4 hown
          have HS3 : Hid (StrsC wr (.slice a3 ln c3) (vars.map (·.name))) := hide (Own.strsC (own_below HOW.out HX4.out) (fun s hs => by
            obtain ⟨y, hy, rfl⟩ := List.mem_map.1 hs
            obtain ⟨i, hi, rfl⟩ := List.mem_iff_getElem.1 hy
            exact (HCV.out i _ (List.getElem?_eq_getElem hi)).1) (by rw [List.length_map, ← HNV.out]; omega))
          obtain ⟨a4, c4, rfl⟩ := hown.form
          obtain ⟨l4, hl4⟩ : ∃ n, n = (funs.map (·.name)).length := ⟨_, rfl⟩
          rw [← hl4] at HO4 ⊢
          have HS4 : Hid (StrsC wr (.slice a4 l4 c4) (funs.map (·.name))) := hide (Own.strsC HO4.out (fun s hs => by
            obtain ⟨y, hy, rfl⟩ := List.mem_map.1 hs
            obtain ⟨i, hi, rfl⟩ := List.mem_iff_getElem.1 hy
            exact (HCF.out i _ (List.getElem?_eq_getElem hi)).1) (by rw [List.length_map, ← HNF.out]; omega))
          have HBW := hide (up (up HB0.out HNX.out) hnx)
          replace q1 := cellUp q1 hnx
          have HQ3 := hide (cellUp HQ.out.2 hnx)
          clear hje hown hnx hl4 q3 HOW HO4
          go_wp2_with fail
          refine (twiceAmong_any wr _ x.imports ⟨#[]⟩ (HIC.out.below HBW.out) (by rw [← HT1.out]; have := HL3.out; omega)).mono ?_
          rintro e w5 ⟨u5, rfl, hu5, hb5⟩
          rw [← HT1.out] at hu5
          have HU5 := hide hu5
          have HB5 := hide hb5
          obtain ⟨a5, c5, rfl⟩ := hu5.form
          clear hu5 hb5 q1
          generalize hz5 : T1.length = t1 at *
          go_wp2_with fail
          refine (twiceAmong_any w5 _ (vars.map (·.name)) ⟨#[]⟩ (HS3.out.below HB5.out) (by rw [← HT2.out]; have := HL3.out; omega)).mono ?_
          rintro e w6 ⟨u6, rfl, hu6, hb6⟩
          rw [← HT2.out] at hu6
          have HU6 := hide hu6
          have HB6 := hide hb6
          obtain ⟨a6, c6, rfl⟩ := hu6.form
          clear hu6 hb6
          generalize hz6 : T2.length = t2 at *
          go_wp2_with fail
          refine (twiceAmong_any w6 _ (funs.map (·.name)) ⟨#[]⟩ ((HS4.out.below HB5.out).below HB6.out) (by rw [← HT3.out]; have := HL3.out; omega)).mono ?_
          rintro e w7 ⟨u7, rfl, hu7, hb7⟩
          rw [← HT3.out] at hu7
          have HU7 := hide hu7
          have HB7 := hide hb7
          obtain ⟨a7, c7, rfl⟩ := hu7.form
          clear hu7 hb7
          generalize hz7 : T3.length = t3 at *
          have HDS : Hid (DgsS (w7.alloc (.cells #[.slice a5 t1 c5, .slice a6 t2 c6, .slice a7 t3 c7] 37)) wr.heap.size (.slice (some ⟨w7.heap.size, 0, none⟩) 3 3) [T1, T2, T3]) :=
            hide (dgsS_list w7 wr.heap.size 37 [.slice a5 t1 c5, .slice a6 t2 c6, .slice a7 t3 c7] [T1, T2, T3] rfl (by simp) (fun i v l hv hl => by
              match i, hv, hl with
              | 0, hv, hl => simp at hv hl; subst hv hl; exact (HU5.out.below HB6.out).below HB7.out
              | 1, hv, hl => simp at hv hl; subst hv hl; exact (HU6.out.below HB7.out).old HB5.out.size
              | 2, hv, hl => simp at hv hl; subst hv hl; exact HU7.out.old (Nat.le_trans HB5.out.size HB6.out.size)
              | i + 3, hv, hl => simp at hv))
          have HC3 : Hid (([T1, T2, T3] : List (List Dg)).flatten.length ≤ 16777216) := hide (by
            have := HL3.out
            simp only [List.flatten_cons, List.flatten_nil, List.append_nil, List.length_append]
            omega)
          have HB8 := hide (up (up (up HBW.out HB5.out) HB6.out) (up HB7.out (boxBelow w7 (.cells #[.slice a5 t1 c5, .slice a6 t2 c6, .slice a7 t3 c7] 37))))
          have hq3 := cellUp (cellUp (cellUp (cellUp HQ3.out HB5.out) HB6.out) HB7.out) (boxBelow w7 (.cells #[.slice a5 t1 c5, .slice a6 t2 c6, .slice a7 t3 c7] 37))
          have HQ8 := hide hq3
          clear hq3 HS3 HS4 HU5 HU6 HU7 HQ3 HIC HT1 HT2 HT3
          go_wp2_with fail
          refine (concatD_any _ _ _ _ HDS.out HC3.out).mono ?_
          rintro e w9 ⟨u9, rfl, hu9, hb9⟩
          have HU9 := hide (hu9.old HB8.out.size)
          have HB9 := hide (up HB8.out hb9)
          have q9 := cellUp HQ8.out hb9
          obtain ⟨F, hF⟩ : ∃ F, F = ([T1, T2, T3] : List (List Dg)).flatten := ⟨_, rfl⟩
          have HF := hide hF
          rw [← hF] at HU9 hu9
          obtain ⟨a9, c9, rfl⟩ := hu9.form
          generalize hz9 : F.length = t9 at *
          have HFL : Hid (F.length + (funs.flatMap fun f => Nm.twA f.name f.params).length ≤ 16777216) := hide (by
            have := HL3.out
            rw [HF.out]
            simp only [List.flatten_cons, List.flatten_nil, List.append_nil, List.length_append]
            omega)
          rw [← HF.out] at HLD
          clear hu9 hb9 hF HQ8 HB5 HB6 HB7 HDS HC3 HL3 HF
          go_wp2_with fail
          go_loopw [9, 50] (fun v i wx => ∃ t : Nat, t ≤ nf ∧ i = .int .i64 t ∧ OwnK DgC wx w.heap.size 43 3 v (F ++ (funs.take t).flatMap fun f => Nm.twA f.name f.params) ∧ Below w.heap.size w wx) (fun _ i _ => nf - (intOf i).toNat)
          case atStart => exact ⟨0, Nat.zero_le _, rfl, by simpa using HU9.out, HB9.out⟩
          case round =>
            obtain ⟨s, hs, rfl, hown, hnx⟩ := hrel
            have HO4 := hide hown
            have HX4 := hide hnx
            by_cases hsl : s < nf
            · obtain ⟨y, hy⟩ : ∃ y, funs[s]? = some y := ⟨_, List.getElem?_eq_getElem (by rw [← HNF.out]; exact hsl)⟩
              obtain ⟨-, vp, vb, e0, e1, e2, e3, g0, g1, g2, g3, g4, g5, g6, hp, hb, hx⟩ := HCF.out s y hy
              obtain rfl := HAF.out (by omega)
              have HPC : Hid (StrsC w vp y.params) := by
                refine hide ⟨hp, ?_⟩
                obtain ⟨vp', k1, k2⟩ := HMC.out.par bf of nf cf rfl s hsl
                rw [g1] at k1
                cases k1
                obtain ⟨a, b, off, c, rfl, _⟩ := hp
                exact ⟨a, c, rfl, k2 _ _ _ rfl⟩
              have HST := hide (flat_succ (f := fun f : Fu => Nm.twA f.name f.params) hy)
              have HLS : Hid ((F ++ (funs.take s).flatMap fun f => Nm.twA f.name f.params).length + (Nm.twA y.name y.params).length ≤ 16777216) := hide (by
                have h1 := flat_le (f := fun f : Fu => Nm.twA f.name f.params) (l := funs) (s + 1)
                rw [HST.out, List.length_append] at h1
                have h2 := HFL.out
                rw [List.length_append]
                omega)
              replace g0 := cellUp g0 hnx
              replace g1 := cellUp g1 hnx
              replace g2 := cellUp g2 hnx
              replace g3 := cellUp g3 hnx
              replace g4 := cellUp g4 hnx
              replace g5 := cellUp g5 hnx
              replace g6 := cellUp g6 hnx
              obtain ⟨ap, bp, op, cp, rfl, -⟩ := hp
              obtain ⟨sb, cb', rfl⟩ := hb.shapeN
              obtain ⟨xa, xc, rfl, rfl, rfl, rfl⟩ := hx.shape
              generalize y.params.length = np at *
              generalize y.body.length = nb at *
              generalize y.result.args.length = ne at *
              have HB5 := hide (boxBelow wr (.cells #[.string y.name, .slice ap np cp, .slice sb nb cb', .int .i64 y.result.kind, .int .i64 y.result.n, .string y.result.name, .slice xa ne xc] 106))
              have hbn := block_new wr (.cells #[.string y.name, .slice ap np cp, .slice sb nb cb', .int .i64 y.result.kind, .int .i64 y.result.n, .string y.result.name, .slice xa ne xc] 106)
              have c0 := (block_at hbn 0).trans (rfl : _ = some (Value.string y.name))
              have c1 := (block_at hbn 1).trans (rfl : _ = some (Value.slice ap np cp))
              obtain ⟨a4, c4, rfl⟩ := hown.form
              obtain ⟨l4, hl4⟩ : ∃ n, n = (F ++ (funs.take s).flatMap fun f => Nm.twA f.name f.params).length := ⟨_, rfl⟩
              rw [← hl4] at HO4 ⊢
              clear hy hown hnx hl4 hb hx hbn
              go_wp2_with fail
              refine (twiceAmong_any _ _ y.params y.name (HPC.out.below (up HX4.out HB5.out)) (by have := HLS.out; omega)).mono ?_
              rintro e w5 ⟨u5, rfl, hu5, hb5⟩
              have HU5 := hide hu5
              have HB6 := hide (up HB5.out hb5)
              clear hu5 hb5
              go_wp2_with (first
                | (at_builtin; refine wpList_append_K (At := DgC) rfl _ _ 37 43 3 40 _ rfl Tryz.underlying37 infoDg (by decide) (by decide) (by decide) w.heap.size _ _ rfl (HO4.out.below HB6.out) _ _ _ rfl HU5.out HLS.out (up HX4.out HB6.out).size ?_; intro v6 w6 hown6 hgrow6; have HOW6 := hide hown6; have HN6 := hide (grown_below (up HX4.out HB6.out) hgrow6 (fun j hj => (HO4.out.lt j hj).1)); clear hown6 hgrow6)
                | fail)
              go_roundw
              case rel => exact ⟨s + 1, by omega, by go_num, by rw [HST.out, ← List.append_assoc]; exact HOW6.out, HN6.out⟩
              case measure => simp [intOf]; omega
            · have hje : (funs.take s) = funs := List.take_of_length_le (by have := HNF.out; omega)
              rw [hje, ← HLD.out] at HO4 hown
              obtain ⟨a4, c4, rfl⟩ := hown.form
              generalize R.length = nr at *
              clear hown hnx hje
              go_wp2_with fail
              go_ret
              exact ⟨_, rfl, HO4.out, HX4.out⟩
end Go.Proofs.YtholefgckcoklaaGreatDoor
namespace Go.Proofs.YtholefgckcoklaaGreatDoor
open Go.RowKit
namespace Nm
def cs (s t : ByteArray) : Int := if Op.bytesLess s.toList t.toList = true then -1 else if (s.toList == t.toList) = true then 0 else 1
def ci (a b : Int) : Int := if a < b then -1 else if a = b then 0 else 1
def or3 (a b c : Int) : Int := if a ≠ 0 then a else if b ≠ 0 then b else c
def cmpD (x y : Dg) : Int := or3 (cs x.fn y.fn) (ci x.code y.code) (cs x.name y.name)
theorem cs_neg (s t : ByteArray) : cs s t < 0 ↔ Op.bytesLess s.toList t.toList = true := by
  unfold cs; split
  · rename_i h; simp [h]
  · rename_i h; split <;> simp [h]
theorem cs_zero (s t : ByteArray) : cs s t = 0 ↔ s = t := by
  unfold cs; split
  · rename_i h
    constructor
    · intro h'; simp at h'
    · rintro rfl; rw [bl_irr] at h; simp at h
  · split
    · rename_i h; rw [beq_iff_eq] at h; simp [toList_inj h]
    · rename_i h
      constructor
      · intro h'; simp at h'
      · rintro rfl; simp at h
theorem ci_neg (a b : Int) : ci a b < 0 ↔ a < b := by
  unfold ci; split
  · rename_i h; simp [h]
  · rename_i h; split <;> simp [h]
theorem ci_zero (a b : Int) : ci a b = 0 ↔ a = b := by
  unfold ci; split
  · constructor
    · intro h'; simp at h'
    · intro h; omega
  · split
    · rename_i h; simp [h]
    · rename_i h; simp [h]
theorem cmpD_ahead (x y : Dg) : decide (cmpD x y < 0) = aheadB x y := by
  rw [Bool.eq_iff_iff, decide_eq_true_iff, aheadB_iff]
  unfold cmpD or3
  by_cases h1 : cs x.fn y.fn = 0
  · rw [if_neg (by simp [h1])]
    have e1 := (cs_zero _ _).1 h1
    by_cases h2 : ci x.code y.code = 0
    · rw [if_neg (by simp [h2]), cs_neg]
      have e2 := (ci_zero _ _).1 h2
      rw [e1, bl_irr]; simp [e2]
    · rw [if_pos h2, ci_neg]
      have e2 : ¬ x.code = y.code := fun h => h2 ((ci_zero _ _).2 h)
      rw [e1, bl_irr]; simp [e2]
  · rw [if_pos h1, cs_neg]
    have e1 : ¬ x.fn = y.fn := fun h => h1 ((cs_zero _ _).2 h)
    simp [e1]
end Nm
set_option maxHeartbeats 1000000 in
theorem cmpS_any (w : World) (s t : ByteArray) : Calls Tryz.prog 196 #[.string s, .string t] w fun e w' => e = .returned (.int .i64 (Nm.cs s t)) ∧ w' = w := by
  have HE : Hid (Nm.cs s t = if Op.bytesLess s.toList t.toList = true then -1 else if (s.toList == t.toList) = true then 0 else 1) := rfl
  cases h1 : Op.bytesLess s.toList t.toList
  · rw [if_neg (by rw [h1]; simp)] at HE
    cases h2 : (s.toList == t.toList)
    · rw [if_neg (by rw [h2]; simp)] at HE
      go_enter Tryz.func196, Tryz.ntmps196
      go_wp2
      go_ret
      exact ⟨by rw [HE.out]; rfl, rfl⟩
    · rw [if_pos h2] at HE
      go_enter Tryz.func196, Tryz.ntmps196
      go_wp2
      go_ret
      exact ⟨by rw [HE.out]; rfl, rfl⟩
  · rw [if_pos h1] at HE
    go_enter Tryz.func196, Tryz.ntmps196
    go_wp2
    go_ret
    exact ⟨by rw [HE.out]; rfl, rfl⟩
set_option maxHeartbeats 1000000 in
theorem cmpI_any (w : World) (s t : Int) : Calls Tryz.prog 197 #[.int .i64 s, .int .i64 t] w fun e w' => e = .returned (.int .i64 (Nm.ci s t)) ∧ w' = w := by
  have HE : Hid (Nm.ci s t = if s < t then -1 else if s = t then 0 else 1) := rfl
  by_cases h1 : s < t
  · rw [if_pos h1] at HE
    go_enter Tryz.func197, Tryz.ntmps197
    go_wp2
    go_ret
    exact ⟨by rw [HE.out]; rfl, rfl⟩
  · rw [if_neg h1] at HE
    by_cases h2 : s = t
    · rw [if_pos h2] at HE
      subst h2
      go_enter Tryz.func197, Tryz.ntmps197
      go_wp2
      go_ret
      exact ⟨by rw [HE.out]; rfl, rfl⟩
    · rw [if_neg h2] at HE
      have h3 : t < s := by omega
      go_enter Tryz.func197, Tryz.ntmps197
      go_wp2
      go_ret
      exact ⟨by rw [HE.out]; rfl, rfl⟩
set_option maxHeartbeats 1000000 in
set_option maxRecDepth 100000 in
theorem or3_any (w : World) (B : Nat) (a b c : Int) (h0 : w.cell? ⟨B, 0, none⟩ = some (.int .i64 a)) (h1 : w.cell? ⟨B, 1, none⟩ = some (.int .i64 b)) (h2 : w.cell? ⟨B, 2, none⟩ = some (.int .i64 c)) :
    Calls Tryz.prog 195 #[.slice (some ⟨B, 0, none⟩) 3 3] w fun e w' => e = .returned (.int .i64 (Nm.or3 a b c)) ∧ w' = w := by
  have HE : Hid (Nm.or3 a b c = if a ≠ 0 then a else if b ≠ 0 then b else c) := rfl
  obtain ⟨R, hR⟩ : ∃ R, R = Nm.or3 a b c := ⟨_, rfl⟩
  rw [← hR] at HE ⊢
  have HC : Hid (∀ j : Nat, j < 3 → w.cell? ⟨B, j, none⟩ = some (.int .i64 ([a, b, c].getD j 0))) := hide (fun j hj => by
    match j, hj with
    | 0, _ => exact h0
    | 1, _ => exact h1
    | 2, _ => exact h2)
  clear h0 h1 h2 hR
  go_enter Tryz.func195, Tryz.ntmps195
  go_wp2_with fail
  go_loop [5, 8] (fun _ i => ∃ j : Nat, j ≤ 3 ∧ i = .int .i64 j ∧ ∀ k, k < j → [a, b, c].getD k 0 = 0) (fun _ i => 3 - (intOf i).toNat)
  case atStart => exact ⟨0, Nat.zero_le _, rfl, fun k hk => absurd hk (Nat.not_lt_zero _)⟩
  case round =>
    obtain ⟨j, hj, rfl, hall⟩ := hrel
    have HA := hide hall
    clear hall
    by_cases hjl : j < 3
    · have c0 := HC.out j hjl
      obtain ⟨z, hz⟩ : ∃ z, z = [a, b, c].getD j 0 := ⟨_, rfl⟩
      have HZ := hide hz
      rw [← hz] at c0
      clear hz
      by_cases hz0 : z = 0
      · have hz1 : (z == 0) = true := by simp [hz0]
        have HZ0 := hide hz0
        clear hz0
        go_wp2
        go_round
        case rel => exact ⟨j + 1, by omega, by go_num, fun k hk => by
            by_cases e : k = j
            · subst e; rw [← HZ.out]; exact HZ0.out
            · exact HA.out k (by omega)⟩
        case measure => simp [intOf]; omega
      · have hz1 : (z == 0) = false := by simp [hz0]
        have HZ0 := hide hz0
        clear hz0
        go_wp2
        go_ret
        refine ⟨?_, rfl⟩
        have hRz : R = z := by
          rw [HE.out]
          have h1 := HZ.out
          have h2 := HA.out
          have h3 := HZ0.out
          match j, hjl with
          | 0, _ => simp at h1; subst h1; rw [if_pos h3]
          | 1, _ => simp at h1; have h4 := h2 0 (by decide); simp at h4; subst h1; rw [if_neg (by simp [h4]), if_pos h3]
          | 2, _ => simp at h1; have h4 := h2 0 (by decide); have h5 := h2 1 (by decide); simp at h4 h5; subst h1; rw [if_neg (by simp [h4]), if_neg (by simp [h5])]
        rw [hRz]; rfl
    · have hj3 : j = 3 := by omega
      have HRZ : Hid (R = 0) := hide (by
        rw [HE.out]
        have h4 := HA.out 0 (by omega)
        have h5 := HA.out 1 (by omega)
        have h6 := HA.out 2 (by omega)
        simp at h4 h5 h6
        rw [if_neg (by simp [h4]), if_neg (by simp [h5])]; exact h6)
      clear hj3
      go_wp2
      go_ret
      exact ⟨by rw [HRZ.out]; rfl, rfl⟩
end Go.Proofs.YtholefgckcoklaaGreatDoor
namespace Go.Proofs.YtholefgckcoklaaGreatDoor
open Go.RowKit
def GrB (w w' : World) : Prop := ∃ q os, w' = Sort.grow (w.drewN q) os
theorem GrB.refl (w : World) : GrB w w := ⟨0, #[], by simp [Sort.grow, World.drewN]⟩
theorem GrB.drew {w w' : World} (h : GrB w w') : GrB w w'.drew := by
  obtain ⟨q, os, rfl⟩ := h
  exact ⟨q + 1, os, rfl⟩
theorem GrB.alloc {w w' : World} (h : GrB w w') (o : Obj) : GrB w (w'.alloc o) := by
  obtain ⟨q, os, rfl⟩ := h
  refine ⟨q, os.push o, ?_⟩
  simp [Sort.grow, World.alloc, World.drewN]
theorem GrB.below {w w' : World} (h : GrB w w') : Below w.heap.size w w' := by
  obtain ⟨q, os, rfl⟩ := h
  exact ⟨rfl, rfl, rfl, by simp [Sort.grow, World.drewN], fun k hk => by simp [Sort.grow, World.drewN, Array.getElem?_append, hk]⟩
theorem GrB.trans {a b c : World} (h : GrB a b) (k : GrB b c) : GrB a c := by
  obtain ⟨q, os, rfl⟩ := h
  obtain ⟨q', os', rfl⟩ := k
  exact ⟨q + q', os ++ os', by simp [Sort.grow, World.drewN, Nat.add_assoc]⟩
theorem hidG_alloc {W0 x : World} {o : Obj} (h : Hid (GrB W0 x)) : Hid (GrB W0 (x.alloc o)) := hide (h.out.alloc o)
theorem hidG_drew {W0 x : World} (h : Hid (GrB W0 x)) : Hid (GrB W0 x.drew) := hide h.out.drew
theorem box3 (w : World) (c0 c1 c2 : Value) (t : TypeId) (i : Nat) (v : Value) (h : (#[c0, c1, c2] : Array Value)[i]? = some v) : (w.alloc (.cells #[c0, c1, c2] t)).cell? ⟨w.heap.size, i, none⟩ = some v :=
  (block_at (block_new w (.cells #[c0, c1, c2] t)) i).trans h
theorem box3d (w : World) (c0 c1 c2 : Value) (t : TypeId) (i : Nat) (v : Value) (h : (#[c0, c1, c2] : Array Value)[i]? = some v) : (w.alloc (.cells #[c0, c1, c2] t)).drew.cell? ⟨w.heap.size, i, none⟩ = some v := box3 w c0 c1 c2 t i v h
set_option maxHeartbeats 800000 in
set_option maxRecDepth 100000 in
theorem compareDiags_any (w : World) (x y : Dg) :
    Calls Tryz.prog 137 #[.agg #[.int .i64 x.code, .string x.fn, .string x.name], .agg #[.int .i64 y.code, .string y.fn, .string y.name]] w fun e w' => e = .returned (.int .i64 (Nm.cmpD x y)) ∧ GrB w w' := by
  have HC1 : Hid (∀ w s t, Calls Tryz.prog 196 #[.string s, .string t] w fun e w' => e = .returned (.int .i64 (Nm.cs s t)) ∧ w' = w) := hide cmpS_any
  have HC2 : Hid (∀ w s t, Calls Tryz.prog 197 #[.int .i64 s, .int .i64 t] w fun e w' => e = .returned (.int .i64 (Nm.ci s t)) ∧ w' = w) := hide cmpI_any
  have HC4 : Hid (∀ w (B : Nat), w.cell? ⟨B, 0, none⟩ = some (.int .i64 (Nm.cs x.fn y.fn)) → w.cell? ⟨B, 1, none⟩ = some (.int .i64 (Nm.ci x.code y.code)) → w.cell? ⟨B, 2, none⟩ = some (.int .i64 (Nm.cs x.name y.name)) → Calls Tryz.prog 195 #[.slice (some ⟨B, 0, none⟩) 3 3] w fun e w' => e = .returned (.int .i64 (Nm.cmpD x y)) ∧ w' = w) :=
    hide (fun w B h0 h1 h2 => or3_any w B _ _ _ h0 h1 h2)
  obtain ⟨R, hR⟩ : ∃ R, R = Nm.cmpD x y := ⟨_, rfl⟩
  rw [← hR] at HC4 ⊢
  clear hR
  obtain ⟨cx, fx, nx⟩ := x
  obtain ⟨cy, fy, ny⟩ := y
  simp only at HC4 ⊢
  obtain ⟨b0, b1, hb0⟩ := al2 w (.cells #[.int .i64 cx, .string fx, .string nx] 43) (.cells #[.int .i64 cy, .string fy, .string ny] 43)
  have HG0 : Hid (GrB w ((w.alloc (.cells #[.int .i64 cx, .string fx, .string nx] 43)).alloc (.cells #[.int .i64 cy, .string fy, .string ny] 43))) := hide (((GrB.refl w).alloc _).alloc _)
  have HF : Hid (∀ wx, Hid (GrB ((w.alloc (.cells #[.int .i64 cx, .string fx, .string nx] 43)).alloc (.cells #[.int .i64 cy, .string fy, .string ny] 43)) wx) →
      Hid (GrB ((w.alloc (.cells #[.int .i64 cx, .string fx, .string nx] 43)).alloc (.cells #[.int .i64 cy, .string fy, .string ny] 43)) wx) ∧ wx.cell? ⟨w.heap.size, 0, none⟩ = some (.int .i64 cx) ∧ wx.cell? ⟨w.heap.size, 1, none⟩ = some (.string fx) ∧ wx.cell? ⟨w.heap.size, 2, none⟩ = some (.string nx) ∧
        wx.cell? ⟨w.heap.size + 1, 0, none⟩ = some (.int .i64 cy) ∧ wx.cell? ⟨w.heap.size + 1, 1, none⟩ = some (.string fy) ∧ wx.cell? ⟨w.heap.size + 1, 2, none⟩ = some (.string ny)) := hide (fun wx h =>
    ⟨h, cellUp ((block_at b0 0).trans rfl) h.out.below, cellUp ((block_at b0 1).trans rfl) h.out.below, cellUp ((block_at b0 2).trans rfl) h.out.below, cellUp ((block_at b1 0).trans rfl) h.out.below, cellUp ((block_at b1 1).trans rfl) h.out.below, cellUp ((block_at b1 2).trans rfl) h.out.below⟩)
  clear b0 b1 hb0
  go_enter Tryz.func137, Tryz.ntmps137
  go_wp2_with fail
  generalize ((w.alloc (.cells #[.int .i64 cx, .string fx, .string nx] 43)).alloc (.cells #[.int .i64 cy, .string fy, .string ny] 43)) = W0 at *
  have H00 : Hid (GrB W0 W0) := hide (GrB.refl _)
  go_region_held3 (fun wx => Hid (GrB W0 wx) ∧ wx.cell? ⟨w.heap.size, 0, none⟩ = some (.int .i64 cx) ∧ wx.cell? ⟨w.heap.size, 1, none⟩ = some (.string fx) ∧ wx.cell? ⟨w.heap.size, 2, none⟩ = some (.string nx) ∧
        wx.cell? ⟨w.heap.size + 1, 0, none⟩ = some (.int .i64 cy) ∧ wx.cell? ⟨w.heap.size + 1, 1, none⟩ = some (.string fy) ∧ wx.cell? ⟨w.heap.size + 1, 2, none⟩ = some (.string ny))
    ((refine HF.out _ ?_; repeat (first | exact HW4 | exact H00 | apply hidG_drew | apply hidG_alloc)))
    (first
      | (go_at_call 195; refine (HC4.out _ _ (box3d _ _ _ _ _ 0 _ rfl) (box3d _ _ _ _ _ 1 _ rfl) (box3d _ _ _ _ _ 2 _ rfl)).mono ?_; rintro e w4 ⟨rfl, hw4⟩; have HW4 : Hid (GrB W0 w4) := (by subst hw4; repeat (first | exact H00 | apply hidG_drew | apply hidG_alloc)); clear hw4)
      | (go_at_call 197; refine (HC2.out _ _ _).mono ?_; rintro e w2 ⟨rfl, rfl⟩)
      | (go_at_call 196; refine (HC1.out _ _ _).mono ?_; rintro e w2 ⟨rfl, rfl⟩))
  all_goals
    go_wp2_with fail
    go_ret
    exact ⟨rfl, HG0.out.trans HW4.out⟩
end Go.Proofs.YtholefgckcoklaaGreatDoor
namespace Go.Proofs.YtholefgckcoklaaGreatDoor
open Go.RowKit Go.Shelf
def RowD (w : World) (g : Nat) (l : List Dg) : Prop :=
  ∃ cur, w.heap[g]? = some (.cells cur 43 (0, 0)) ∧ l.length * 3 ≤ cur.size ∧ ∀ i d, l[i]? = some d → cur[i * 3]? = some (.int .i64 d.code) ∧ cur[i * 3 + 1]? = some (.string d.fn) ∧ cur[i * 3 + 2]? = some (.string d.name)
def encD (d : Dg) : List Value := [.int .i64 d.code, .string d.fn, .string d.name]
instance : Inhabited Dg := ⟨⟨0, ⟨#[]⟩, ⟨#[]⟩⟩⟩
theorem ltOf_ahead (x y : Dg) : ltOf Nm.cmpD x y = Nm.aheadB x y := Nm.cmpD_ahead x y
theorem swoD : Sort.SWO (ltOf Nm.cmpD) where
  irrefl x := by rw [ltOf_ahead]; exact Nm.aheadB_irr x
  trans x y z h1 h2 := by
    rw [ltOf_ahead] at *
    exact Nm.aheadB_trans h1 h2
  ntrans x y z h1 h2 := by
    rw [ltOf_ahead] at *
    cases h : Nm.aheadB x z with
    | false => rfl
    | true =>
      cases hy : Nm.aheadB y x with
      | true => rw [Nm.aheadB_trans hy h] at h2; cases h2
      | false => rw [Nm.aheadB_tri h1 hy, h2] at h; cases h
theorem encD_get (d : Dg) : (encD d)[0]! = .int .i64 d.code ∧ (encD d)[1]! = .string d.fn ∧ (encD d)[2]! = .string d.name := ⟨rfl, rfl, rfl⟩
theorem RowD.cell {w : World} {g : Nat} {l : List Dg} (h : RowD w g l) {i : Nat} {d : Dg} (hd : l[i]? = some d) : w.cell? ⟨g, i * 3, none⟩ = some (.int .i64 d.code) ∧ w.cell? ⟨g, i * 3 + 1, none⟩ = some (.string d.fn) ∧ w.cell? ⟨g, i * 3 + 2, none⟩ = some (.string d.name) := by
  obtain ⟨cur, hc, _, hel⟩ := h
  obtain ⟨h0, h1, h2⟩ := hel i d hd
  exact ⟨(block_at hc _).trans h0, (block_at hc _).trans h1, (block_at hc _).trans h2⟩
theorem RowD.holds {w : World} {g : Nat} {l : List Dg} (h : RowD w g l) : Sort.HoldsK encD 3 w g 0 l.toArray := by
  obtain ⟨cur, hc, hsz, hel⟩ := h
  intro j hj
  rw [Sort.size_flatK] at hj
  have hjl : j < l.length * 3 := by simpa using hj
  refine ⟨?_, block_free hc _⟩
  rw [Nat.zero_add, block_at hc, Sort.get_flatK _ _ _ _ hj]
  have hi : j / 3 < l.length := by omega
  have hl : l[j / 3]? = some l[j / 3] := List.getElem?_eq_getElem hi
  have e : (l.toArray)[j / 3]! = l[j / 3] := by simp [hi]
  rw [e]
  obtain ⟨h0, h1, h2⟩ := hel _ _ hl
  obtain ⟨k0, k1, k2⟩ := encD_get l[j / 3]
  have hm : j % 3 = 0 ∨ j % 3 = 1 ∨ j % 3 = 2 := by omega
  rcases hm with hm | hm | hm
  · rw [hm, k0]; rw [show j / 3 * 3 = j by omega] at h0; exact h0
  · rw [hm, k1]; rw [show j / 3 * 3 + 1 = j by omega] at h1; exact h1
  · rw [hm, k2]; rw [show j / 3 * 3 + 2 = j by omega] at h2; exact h2
theorem RowD.of_holds {w : World} {g : Nat} {d : Array Dg} {cur : Array Value} (hc : w.heap[g]? = some (.cells cur 43 (0, 0))) (hsz : d.size * 3 ≤ cur.size) (h : Sort.HoldsK encD 3 w g 0 d) : RowD w g d.toList := by
  refine ⟨cur, hc, by simpa using hsz, fun i x hx => ?_⟩
  have hi : i < d.size := by simpa using (List.getElem?_eq_some_iff.1 hx).1
  have e : d[i]! = x := by
    have := (List.getElem?_eq_some_iff.1 hx).2
    simp at this
    simp [hi, this]
  have k0 := (h.cell (c := 0) hi (by decide)).1
  have k1 := (h.cell (c := 1) hi (by decide)).1
  have k2 := (h.cell (c := 2) hi (by decide)).1
  rw [e, block_at hc] at k0 k1 k2
  obtain ⟨j0, j1, j2⟩ := encD_get x
  rw [j0] at k0
  rw [j1] at k1
  rw [j2] at k2
  refine ⟨?_, ?_, ?_⟩
  · simpa using k0
  · simpa using k1
  · simpa using k2
theorem sortD_any (w : World) (n g len cap : Nat) (l : List Dg) (h : RowD w g l) (hlen : len = l.length) (hn : n ≤ g) (hl : l.length ≤ 16777216) :
    Calls Tryz.prog 136 #[.slice (some ⟨g, 0, none⟩) len cap, .func (.func 137) #[] #[]] w fun e w' => e = .returned (.tuple #[]) ∧ ∃ l', l'.length = l.length ∧ (∀ x, x ∈ l' ↔ x ∈ l) ∧ (l'.Pairwise fun a b => Nm.aheadB b a = false) ∧ RowD w' g l' ∧ Below n w w' := by
  subst hlen
  have h0 := h
  obtain ⟨cur, hc, hsz, hel⟩ := h
  have hcon := AnyQ.slices_SortFunc Tryz.lSoDg 3 Tryz.isAgg43 Tryz.sizeOf43 encD (fun _ => rfl) (fun x v hv => by simp [encD] at hv; rcases hv with rfl | rfl | rfl <;> rfl) Nm.cmpD swoD 137 #[] g 0 cap l.toArray w
    (enters_of Tryz.func137 (by kernel_rfl) rfl) (fun m os dk _ x y => compareDiags_any _ x y) h0.holds (block_lt hc) (by simp; omega)
  refine Calls.mono (show Calls Tryz.prog 136 #[.slice (some ⟨g, 0, none⟩) l.length cap, .func (.func 137) #[] #[]] w _ from hcon) ?_
  rintro e w' ⟨he, d', k, os, hp, hs, hw⟩
  refine ⟨he, d'.toList, ?_, ?_, ?_, ?_, ?_⟩
  · simpa using hp.1
  · intro x
    have h1 := hp.2.2.mem_iff (a := x)
    have e1 : d'.extract 0 l.toArray.size = d' := by
      have : l.toArray.size = d'.size := hp.1.symm
      rw [this]; simp
    rw [e1] at h1
    simpa using h1
  · rw [List.pairwise_iff_getElem]
    intro i j hi hj hij
    have hsd : d'.size = l.toArray.size := hp.1
    have h1 := hs i j (Nat.zero_le _) hij (by rw [← hsd]; simpa using hj)
    rw [ltOf_ahead] at h1
    have ei : d'[i]! = d'.toList[i] := by simp at hi; simp [hi]
    have ej : d'[j]! = d'.toList[j] := by simp at hj; simp [hj]
    rw [ei, ej] at h1
    exact h1
  · have hblk : w'.heap[g]? = some (.cells (Sort.putCells id 0 (Sort.flatK encD 3 d') cur) 43 (0, 0)) := by
      rw [hw]
      have hg := block_lt hc
      simp only [sortWorldK, Sort.grow, Sort.putRowK, Sort.putRow, Sort.mapBlock, Sort.ahead]
      rw [Array.getElem?_append_left (by simpa using hg)]
      simp [Array.getElem?_modify, hc, Sort.onCells]
    refine RowD.of_holds hblk ?_ ?_
    · have : d'.size = l.toArray.size := hp.1
      simp only [Sort.putCells, Array.size_mapIdx]
      rw [this]; simpa using hsz
    · rw [hw]
      exact holdsK_sortWorldK_c _ _ _ _ _ l.toArray d' k os h0.holds (block_lt hc) hp.1
  · rw [hw]
    refine ⟨rfl, rfl, rfl, size_sortWorldK_c _ _ _ _ _ _ _ _, fun j hj => ?_⟩
    have hg := block_lt hc
    simp only [sortWorldK, Sort.grow, Sort.putRowK, Sort.putRow, Sort.mapBlock, Sort.ahead]
    rw [Array.getElem?_append_left (by simp; omega)]
    simp [Array.getElem?_modify]
    intro e'; omega
theorem sortD_none (w : World) (p : Option Addr) (cap : Nat) : Calls Tryz.prog 136 #[.slice p 0 cap, .func (.func 137) #[] #[]] w fun e w' => e = .returned (.tuple #[]) ∧ w' = w :=
  AnyF.slices_SortFunc_none { Tryz.lSoDg with } p cap _ w
end Go.Proofs.YtholefgckcoklaaGreatDoor
namespace Go.Proofs.YtholefgckcoklaaGreatDoor
open Go.RowKit
namespace Nm
def cstep (acc : List Dg) (x : Dg) : List Dg := match acc.getLast? with
  | some y => if sameD x y then acc else acc ++ [x]
  | none => acc ++ [x]
def cpt (l : List Dg) : List Dg := l.foldl cstep []
theorem cstep_last (acc : List Dg) (x : Dg) : (cstep acc x).getLast? = some x := by
  unfold cstep
  split
  · rename_i y h
    split
    · rename_i hs; rw [sameD_iff] at hs; subst hs; exact h
    · simp
  · simp
theorem cpt_snoc (l : List Dg) (x : Dg) : cpt (l ++ [x]) = cstep (cpt l) x := by unfold cpt; simp
theorem cpt_take {l : List Dg} {j : Nat} {x : Dg} (h : l[j]? = some x) : cpt (l.take (j + 1)) = cstep (cpt (l.take j)) x := by
  rw [List.take_add_one, h]; exact cpt_snoc _ _
theorem cpt_last {l : List Dg} {j : Nat} {x : Dg} (h : l[j]? = some x) : (cpt (l.take (j + 1))).getLast? = some x := by
  rw [cpt_take h]; exact cstep_last _ _
theorem cpt_next {l : List Dg} {j : Nat} {x y : Dg} (h : l[j]? = some y) (h' : l[j + 1]? = some x) : cpt (l.take (j + 1 + 1)) = if sameD x y then cpt (l.take (j + 1)) else cpt (l.take (j + 1)) ++ [x] := by
  rw [cpt_take h']
  have := cpt_last h
  unfold cstep
  rw [this]
theorem cpt_len (l : List Dg) : (cpt l).length ≤ l.length := by
  have h : ∀ (l acc : List Dg), (l.foldl cstep acc).length ≤ acc.length + l.length := by
    intro l
    induction l with
    | nil => intro acc; simp
    | cons x r ih =>
      intro acc
      have h1 := ih (cstep acc x)
      have h2 : (cstep acc x).length ≤ acc.length + 1 := by
        unfold cstep
        split
        · split <;> simp
        · simp
      simp only [List.foldl_cons, List.length_cons]
      omega
  simpa [cpt] using h l []
theorem cpt_foldl {l acc : List Dg} (h : Asc acc) (hs : l.Pairwise fun a b => aheadB b a = false) (hc : ∀ a ∈ acc, ∀ y ∈ l, aheadB y a = false) : Asc (l.foldl cstep acc) ∧ ∀ x, x ∈ l.foldl cstep acc ↔ x ∈ acc ∨ x ∈ l := by
  induction l generalizing acc with
  | nil => exact ⟨h, fun x => by simp⟩
  | cons y r ih =>
    obtain ⟨h1, h2⟩ := List.pairwise_cons.1 hs
    have hstep : Asc (cstep acc y) ∧ (∀ x, x ∈ cstep acc y ↔ x ∈ acc ∨ x = y) := by
      unfold cstep
      split
      · rename_i z hz
        split
        · rename_i hsm
          rw [sameD_iff] at hsm
          subst hsm
          have hm : y ∈ acc := List.mem_of_getLast? hz
          exact ⟨h, fun x => ⟨Or.inl, fun hx => hx.elim id (fun e => e ▸ hm)⟩⟩
        · rename_i hsm
          refine ⟨List.pairwise_append.2 ⟨h, by simp, fun a ha b hb => ?_⟩, fun x => by simp⟩
          rw [List.mem_singleton] at hb
          subst hb
          have hya := hc a ha b (by simp)
          cases hab : aheadB a b with
          | true => rfl
          | false =>
            exfalso
            have e := aheadB_tri hab hya
            subst e
            have hzm : z ∈ acc := List.mem_of_getLast? hz
            have hne : a ≠ z := fun e => hsm (sameD_iff.2 e)
            obtain ⟨pre, hpre⟩ : ∃ pre, acc = pre ++ [z] := by
              rw [List.getLast?_eq_some_iff] at hz
              exact hz
            rw [hpre] at h ha
            rcases List.mem_append.1 ha with hp | hp
            · have := (List.pairwise_append.1 h).2.2 a hp z (by simp)
              rw [hc z hzm a (by simp)] at this
              cases this
            · rw [List.mem_singleton] at hp; exact hne hp
      · rename_i hz
        have : acc = [] := by simpa using hz
        subst this
        exact ⟨by simp [Asc], fun x => by simp⟩
    obtain ⟨k1, k2⟩ := ih hstep.1 h2 (fun a ha b hb => by
      rcases (hstep.2 a).1 ha with ha | rfl
      · exact hc a ha b (List.mem_cons_of_mem _ hb)
      · exact h1 b hb)
    refine ⟨k1, fun x => ?_⟩
    rw [List.foldl_cons, k2 x, hstep.2 x, List.mem_cons, or_assoc]
theorem cpt_once {l l' s : List Dg} (hs : s.Pairwise fun a b => aheadB b a = false) (hp : ∀ x, x ∈ s ↔ x ∈ l') (hm : ∀ x, x ∈ l' ↔ x ∈ l) : cpt s = once l := by
  obtain ⟨h1, h2⟩ := cpt_foldl (l := s) (acc := []) List.Pairwise.nil hs (fun a ha => absurd ha (by simp))
  refine asc_unique h1 (once_asc l) fun x => ?_
  rw [cpt, h2, once_mem]
  simp [hp, hm]
end Nm
theorem RowD.below {w w' : World} {g : Nat} {l : List Dg} (h : RowD w g l) (hb : Below w.heap.size w w') : RowD w' g l := by
  obtain ⟨cur, hc, h1, h2⟩ := h
  exact ⟨cur, by rw [hb.block g (block_lt hc)]; exact hc, h1, h2⟩
theorem RowD.drew {w : World} {g n : Nat} {l : List Dg} (h : RowD w g l) : RowD (w.drewN n) g l := h
theorem RowD.set {w : World} {g k : Nat} {l : List Dg} (h : RowD w g l) (hk : k < l.length) (d : Dg) :
    RowD (((w.setCell ⟨g, k * 3, none⟩ (.int .i64 d.code)).setCell ⟨g, k * 3 + 1, none⟩ (.string d.fn)).setCell ⟨g, k * 3 + 2, none⟩ (.string d.name)) g (l.set k d) := by
  obtain ⟨cur, hc, hs, hel⟩ := h
  have h0 := block_set hc (k * 3) (.int .i64 d.code)
  have h1 := block_set h0 (k * 3 + 1) (.string d.fn)
  have h2 := block_set h1 (k * 3 + 2) (.string d.name)
  refine ⟨_, h2, by simpa using hs, fun i x hx => ?_⟩
  rw [List.getElem?_set] at hx
  by_cases e : k = i
  · subst e
    simp [hk] at hx
    subst hx
    refine ⟨?_, ?_, ?_⟩
    · simp [Array.getElem?_setIfInBounds]; omega
    · simp [Array.getElem?_setIfInBounds]; omega
    · simp [Array.getElem?_setIfInBounds]; omega
  · rw [if_neg e] at hx
    obtain ⟨a0, a1, a2⟩ := hel i x hx
    refine ⟨?_, ?_, ?_⟩
    · rw [Array.getElem?_setIfInBounds_ne (by omega), Array.getElem?_setIfInBounds_ne (by omega), Array.getElem?_setIfInBounds_ne (by omega)]; exact a0
    · rw [Array.getElem?_setIfInBounds_ne (by omega), Array.getElem?_setIfInBounds_ne (by omega), Array.getElem?_setIfInBounds_ne (by omega)]; exact a1
    · rw [Array.getElem?_setIfInBounds_ne (by omega), Array.getElem?_setIfInBounds_ne (by omega), Array.getElem?_setIfInBounds_ne (by omega)]; exact a2
end Go.Proofs.YtholefgckcoklaaGreatDoor
namespace Go.Proofs.YtholefgckcoklaaGreatDoor
open Go.RowKit
theorem clear_run {w : World} {g k n c : Nat} {cur : Array Value} (hc : w.heap[g]? = some (.cells cur 43 (0, 0))) (hn : 0 < n) (hs : k * 3 + n * 3 ≤ cur.size) (ty : TypeId) :
    (Builtin.clear_ #[37] ty #[.slice (some ⟨g, k * 3, none⟩) n c]).run Tryz.prog w = .ok (.tuple #[]) (w.setRow g (cur.toList.take (k * 3) ++ (Builtin.zeroCells (Value.agg #[.int .i64 0, .string ⟨#[]⟩, .string ⟨#[]⟩]).cells n).toList ++ cur.toList.drop (k * 3 + (Builtin.zeroCells (Value.agg #[.int .i64 0, .string ⟨#[]⟩, .string ⟨#[]⟩]).cells n).toList.length)).toArray) := by
  have hz : (Builtin.zeroCells (Value.agg #[.int .i64 0, .string ⟨#[]⟩, .string ⟨#[]⟩]).cells n).toList.length = n * 3 := by simp [Builtin.zeroCells, Value.cells]
  have h1 : ∀ v ∈ (Builtin.zeroCells (Value.agg #[.int .i64 0, .string ⟨#[]⟩, .string ⟨#[]⟩]).cells n).toList, v.oneCell' = true := by
    intro v hv
    simp [Builtin.zeroCells, Value.cells] at hv
    obtain ⟨a, ha, rfl⟩ := hv
    have hm : a % 3 = 0 ∨ a % 3 = 1 ∨ a % 3 = 2 := by omega
    rcases hm with hm | hm | hm <;> simp [hm] <;> rfl
  have hst := run_storeCells_at Tryz.prog g (k * 3) 43 (Builtin.zeroCells (Value.agg #[.int .i64 0, .string ⟨#[]⟩, .string ⟨#[]⟩]).cells n).toList 0 cur w hc (by rw [hz]; omega) h1
  obtain ⟨m, rfl⟩ : ∃ m, n = m + 1 := ⟨n - 1, by omega⟩
  simp only [Nat.add_zero] at hst
  simp [Builtin.clear_, run_underlying Tryz.underlying37, hst]
theorem RowD.clear {w : World} {g k : Nat} {l : List Dg} {zs : List Value} {cur : Array Value} (h : RowD w g l) (hc : w.heap[g]? = some (.cells cur 43 (0, 0))) (hk : k ≤ l.length) (m : Nat) :
    RowD (w.setRow g (cur.toList.take (k * 3) ++ zs ++ cur.toList.drop m).toArray) g (l.take k) := by
  obtain ⟨cur', hc', hs, hel⟩ := h
  rw [hc] at hc'
  simp at hc'
  subst hc'
  have hkl : (l.take k).length = k := by rw [List.length_take]; omega
  refine ⟨_, setRow_heap w g cur _ 43 (0, 0) hc, ?_, fun i d hd => ?_⟩
  · rw [hkl]; simp; omega
  · have hik : i < k := by have := (List.getElem?_eq_some_iff.1 hd).1; omega
    rw [List.getElem?_take_of_lt hik] at hd
    obtain ⟨a0, a1, a2⟩ := hel i d hd
    have key : ∀ j v, j < k * 3 → cur[j]? = some v → ((cur.toList.take (k * 3) ++ zs ++ cur.toList.drop m).toArray)[j]? = some v := fun j v hj hv => by
      rw [List.getElem?_toArray, List.append_assoc, List.getElem?_append_left (by simp; omega), List.getElem?_take_of_lt hj]
      simpa using hv
    exact ⟨key _ _ (by omega) a0, key _ _ (by omega) a1, key _ _ (by omega) a2⟩
theorem cpt_self {l : List Dg} (h : ∀ (j : Nat) x y, l[j]? = some y → l[j + 1]? = some x → Nm.sameD x y = false) : ∀ j, j ≤ l.length → Nm.cpt (l.take j) = l.take j := by
  intro j
  induction j with
  | zero => intro _; rfl
  | succ j ih =>
    intro hj
    cases j with
    | zero =>
      have hx : l[0]? = some l[0] := List.getElem?_eq_getElem (by omega)
      rw [Nm.cpt_take hx]
      simp [Nm.cpt, Nm.cstep, List.take_add_one, hx]
    | succ j =>
      have hy : l[j]? = some l[j] := List.getElem?_eq_getElem (by omega)
      have hx : l[j + 1]? = some l[j + 1] := List.getElem?_eq_getElem (by omega)
      rw [Nm.cpt_next hy hx, h j _ _ hy hx, ih (by omega)]
      rw [List.take_add_one (i := j + 1), hx]
      simp
end Go.Proofs.YtholefgckcoklaaGreatDoor
