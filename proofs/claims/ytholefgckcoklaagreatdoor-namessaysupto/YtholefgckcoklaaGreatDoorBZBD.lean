/- How lists of modules that came in are opened; and that of each list that came in the length is within the capacity. -/
import Derived.Test.YtholefgckcoklaaGreatDoorBZAV
import Derived.Test.YtholefgckcoklaaGreatDoorBZAW
import Derived.Test.YtholefgckcoklaaGreatDoorBZAK
import Derived.Test.YtholefgckcoklaaGreatDoorBZAZ
import Derived.Test.YtholefgckcoklaaGreatDoorBZAH
import Derived.Deep.OwnRows
import Derived.Laws.OwnMore
import Derived.OwnWalk
import Derived.Lib.AppendZerosOnto
import Derived.Lib.SliceRun
import Derived.Lib.Join
import Derived.Test.YtholefgckcoklaaGreatDoorBZAJ
import Derived.Deep.RegionWith
namespace Go.Proofs.YtholefgckcoklaaGreatDoor
open Go.ChangeShapes Go.WideShapes Go.ChangeAt Go.RowKit Go.Deep Go.Joins
theorem FusAt.monoN {w : World} {m k : Nat} {v : Value} {l : List Fu} (h : FusAt w m v l) (hk : m ≤ k) : FusAt w k v l := by
  obtain ⟨a, b, off, cap, e, h0, hl, h1⟩ := h
  refine ⟨a, b, off, cap, e, h0, hl, fun i s hs => ?_⟩
  obtain ⟨k1, vp, vb, e0, e1, e2, e3, g0, g1, g2, g3, g4, g5, g6, hp, hs', hx⟩ := h1 i s hs
  exact ⟨k1, vp, vb, e0, e1, e2, e3, g0, g1, g2, g3, g4, g5, g6, hp, hs'.mono k hk, hx.mono k hk⟩
theorem MoAt.monoN {w : World} {m k : Nat} {v : Value} {x : Mo} (h : MoAt w m v x) (hk : m ≤ k) : MoAt w k v x := by
  obtain ⟨vi, vv, vf, e, h0, h1, h2, h3⟩ := h
  exact ⟨vi, vv, vf, e, h0, h1, h2, h3.monoN hk⟩
theorem MosAt.monoN {w : World} {m k : Nat} {v : Value} {l : List Mo} (h : MosAt w m v l) (hk : m ≤ k) : MosAt w k v l := by
  obtain ⟨a, b, off, cap, e, h0, hl, h1⟩ := h
  refine ⟨a, b, off, cap, e, h0, hl, fun i x hx => ?_⟩
  obtain ⟨vi, vv, vf, g0, g1, g2, g3, hm⟩ := h1 i x hx
  exact ⟨vi, vv, vf, g0, g1, g2, g3, hm.monoN hk⟩
theorem fusW_monoN {w : World} {m k : Nat} {v : Value} {l : List Fu} (h : FusAt w m v l) (hk : m ≤ k) : fusW k l = fusW m l := by
  obtain ⟨a, b, off, cap, e, h0, hl, h1⟩ := h
  unfold fusW
  rw [map_congr_get (fun i s hs => by
    obtain ⟨_, vp, vb, e0, e1, e2, e3, _, _, _, _, _, _, _, _, hs', hx⟩ := h1 i s hs
    rw [exW_mono hx k hk, stsW_mono hs' k hk])]
theorem moW_monoN {w : World} {m k : Nat} {v : Value} {x : Mo} (h : MoAt w m v x) (hk : m ≤ k) : moW k x = moW m x := by
  obtain ⟨vi, vv, vf, e, h0, h1, h2, h3⟩ := h
  unfold moW
  rw [fusW_monoN h3 hk]
theorem mosW_monoN {w : World} {m k : Nat} {v : Value} {l : List Mo} (h : MosAt w m v l) (hk : m ≤ k) : ∀ y ∈ l, moW k y = moW m y := fun y hy => by
  obtain ⟨a, b, off, cap, e, h0, hl, h1⟩ := h
  obtain ⟨i, hi, rfl⟩ := List.mem_iff_getElem.1 hy
  obtain ⟨vi, vv, vf, g0, g1, g2, g3, hm⟩ := h1 i _ (List.getElem?_eq_getElem hi)
  exact moW_monoN hm hk
section
variable {H : Type} {enc : TypeId × Value → H} {W : World}
theorem bulk_one {d : DataW H} : ∀ {D : List (DataW H)} {i : Nat}, D[i]? = some d → Rows.uptoBulk d ≤ Rows.uptoBulkAll D
  | [], i, h => by simp at h
  | e :: D, 0, h => by
    simp at h
    subst h
    simp only [Rows.uptoBulkAll]
    omega
  | e :: D, i + 1, h => by
    have := bulk_one (D := D) (i := i) (by simpa using h)
    simp only [Rows.uptoBulkAll]
    omega
theorem open_cap {t e fuel : Nat} {v : Value} {y : DataW H × List MemPlace} (ht : Tryz.prog.underlying t = some (.slice e)) (h : DataW.trod enc Tryz.prog W 0 (fun _ => true) true fuel t [v] = some y) : CapOK v := by
  rcases DataW.trod_slice ht h with ⟨hcs, rfl⟩ | ⟨a, len, cap, elems, rest, n, hfuel, hcs, rfl, _, hl, hm, hlen, hel, _, _⟩
  · simp at hcs
    subst hcs
    intro a n c e
    injection e with _ e1 e2
    omega
  · simp at hcs
    subst hcs
    intro a n c e
    injection e with _ e1 e2
    omega
theorem open_parcap {fuel : Nat} {v : Value} {y : DataW H × List MemPlace} (h : DataW.trod enc Tryz.prog W 0 (fun _ => true) true fuel 24 [v] = some y) :
    ∀ b off n c, v = .slice (some ⟨b, off, none⟩) n c → ∀ i, i < n → ∃ vp, W.cell? ⟨b, off + i * 7 + 1, none⟩ = some vp ∧ CapOK vp := by
  obtain ⟨a, b, off, len, cap, D, hv, ha, hl, hD, hbulk, hel⟩ := open_elems Tryz.underlying24 cellsFu (by decide) h
  intro b' off' n' c' e i hi
  rw [hv] at e
  injection e with e0 e1 e2
  subst e1
  have h1 := ha (by omega)
  rw [e0] at h1
  injection h1 with h1
  injection h1 with h1 h2
  subst h1 h2
  obtain ⟨n0, cs, d', pl', hn', hlen', hcell, htrod, hDi⟩ := hel i hi
  obtain ⟨xs, n, hfn, hx, hlen, hxs, hf⟩ := DataW.trod_struct Tryz.underlying106 htrod
  obtain ⟨c0, c1, c2, c3, c4, c5, c6, rfl⟩ := list7 hlen'
  obtain ⟨y0, y1, y2, y3, rfl⟩ := list4 (by simpa using hxs)
  have f1 : DataW.trod enc Tryz.prog W 0 (fun _ => true) true n 22 (([c0, c1, c2, c3, c4, c5, c6].drop 1).take (Tryz.prog.cellsOf 22)) = some y1 := hf 1 _ rfl
  rw [cellsStrs] at f1
  simp only [List.drop, List.take] at f1
  exact ⟨c1, hcell 1 (by decide), open_cap Tryz.underlying22 f1⟩
set_option maxRecDepth 100000 in
theorem open_mocap {b0 : Nat} {v : Value} {d : DataW H} {p : List MemPlace} (hv : Value.okWide Tryz.prog W .any b0 26 v) (h : DataW.Trod enc Tryz.prog W 0 (fun _ => true) true 26 v d p) :
    ∃ m x vi vv vf, v = .agg #[.string x.name, vi, vv, vf] ∧ MoAt W m v x ∧ moW m x ≤ Rows.uptoBulk d ∧ MoCap W vi vf := by
  obtain ⟨m, x, hM, hW⟩ := open_mo hv h
  obtain ⟨c0, c1, c2, c3, y0, y1, y2, y3, m', rfl, rfl, _, f0, f1, f2, f3⟩ := open_agg4 Tryz.underlying26 (by kernel_rfl) cellsMo hv h
  have hM' := hM
  obtain ⟨vi, vv, vf, e, _⟩ := hM'
  simp at e
  obtain ⟨rfl, rfl, rfl, rfl⟩ := e
  exact ⟨m, x, _, _, _, rfl, hM, hW, open_cap Tryz.underlying22 f1, open_cap Tryz.underlying24 f3, open_parcap f3⟩
theorem open_moS {fuel : Nat} {cs : List Value} {d : DataW H} {pl : List MemPlace} (hl4 : cs.length = 4) (h : DataW.trod enc Tryz.prog W 0 (fun _ => true) true fuel 26 cs = some (d, pl)) :
    ∃ x vi vv vf, cs = [.string x.name, vi, vv, vf] ∧ MoAt W fuel (.agg #[.string x.name, vi, vv, vf]) x ∧ moW fuel x ≤ Rows.uptoBulk d := by
  obtain ⟨xs, n, hfn, hx, hlen, hxs, hf⟩ := DataW.trod_struct Tryz.underlying26 h
  obtain ⟨c0, c1, c2, c3, rfl⟩ := list4 hl4
  obtain ⟨y0, y1, y2, y3, rfl⟩ := list4 (by simpa using hxs)
  have f0 : DataW.trod enc Tryz.prog W 0 (fun _ => true) true n 9 (([c0, c1, c2, c3].drop 0).take (Tryz.prog.cellsOf 9)) = some y0 := hf 0 _ rfl
  rw [cellsStr] at f0
  simp only [List.drop, List.take] at f0
  have f1 : DataW.trod enc Tryz.prog W 0 (fun _ => true) true n 22 (([c0, c1, c2, c3].drop 1).take (Tryz.prog.cellsOf 22)) = some y1 := hf 1 _ rfl
  rw [cellsStrs] at f1
  simp only [List.drop, List.take] at f1
  have f2 : DataW.trod enc Tryz.prog W 0 (fun _ => true) true n 23 (([c0, c1, c2, c3].drop 2).take (Tryz.prog.cellsOf 23)) = some y2 := hf 2 _ rfl
  rw [cellsVas] at f2
  simp only [List.drop, List.take] at f2
  have f3 : DataW.trod enc Tryz.prog W 0 (fun _ => true) true n 24 (([c0, c1, c2, c3].drop 3).take (Tryz.prog.cellsOf 24)) = some y3 := hf 3 _ rfl
  rw [cellsFus] at f3
  simp only [List.drop, List.take] at f3
  obtain ⟨s0, e0, rfl, hs0⟩ := DataW.trod_string Tryz.underlying9 f0
  simp at e0
  subst e0
  obtain ⟨im, him, hwi⟩ := open_strsW f1
  obtain ⟨va, hva, hwv⟩ := open_vas f2
  obtain ⟨fu, hfu, hwf⟩ := open_fus f3
  simp only [Prod.mk.injEq] at hx
  obtain ⟨rfl, _⟩ := hx
  refine ⟨⟨s0, im, va, fu⟩, _, _, _, rfl, ⟨_, _, _, rfl, hs0, him, hva, hfu.monoN (by omega)⟩, ?_⟩
  unfold moW
  rw [fusW_monoN hfu (k := fuel) (by omega)]
  simp only [List.map_cons, List.map_nil, Rows.uptoBulk, Rows.uptoBulkAll, size_list']
  omega
set_option maxRecDepth 100000 in
theorem open_mos {b0 : Nat} {v : Value} {d : DataW H} {p : List MemPlace} (hv : Value.okWide Tryz.prog W .any b0 35 v) (h : DataW.Trod enc Tryz.prog W 0 (fun _ => true) true 35 v d p) :
    ∃ m l, MosAt W m v l ∧ ∀ y ∈ l, moW m y ≤ Rows.uptoBulk d := by
  obtain ⟨a0, l0, c0, rfl⟩ := okWide_slice Tryz.underlying35 hv
  obtain ⟨fuel, hf⟩ := h
  have hf' : DataW.trod enc Tryz.prog W 0 (fun _ => true) true fuel 35 [.slice a0 l0 c0] = some (d, p) := hf
  obtain ⟨a, b, off, len, cap, D, hv', ha, hl, hD, hbulk, hel⟩ := open_elems Tryz.underlying35 cellsMo (by decide) hf'
  have each : ∀ i, i < len → ∃ x : Mo, ∃ d', D[i]? = some d' ∧ moW fuel x ≤ Rows.uptoBulk d' ∧ ∃ vi vv vf, W.cell? ⟨b, off + i * 4, none⟩ = some (.string x.name) ∧ W.cell? ⟨b, off + i * 4 + 1, none⟩ = some vi ∧ W.cell? ⟨b, off + i * 4 + 2, none⟩ = some vv ∧ W.cell? ⟨b, off + i * 4 + 3, none⟩ = some vf ∧ MoAt W fuel (.agg #[.string x.name, vi, vv, vf]) x := by
    intro i hi
    obtain ⟨n', cs, d', pl', hn', hlen', hcell, htrod, hDi⟩ := hel i hi
    obtain ⟨x, vi, vv, vf, rfl, hx', hw⟩ := open_moS hlen' htrod
    refine ⟨x, d', hDi, by rw [moW_monoN hx' (k := fuel) (by omega)]; exact hw, vi, vv, vf, hcell 0 (by decide), hcell 1 (by decide), hcell 2 (by decide), hcell 3 (by decide), hx'.monoN (by omega)⟩
  obtain ⟨l, hll, hp⟩ := list_choose len each
  refine ⟨fuel, l, ⟨a, b, off, cap, by rw [hv', ← hll], by rw [hll]; exact ha, by rw [hll]; exact hl, fun i s hs => ?_⟩, fun y hy => ?_⟩
  · obtain ⟨_, _, _, hh⟩ := hp i s hs
    exact hh
  · obtain ⟨i, hi, rfl⟩ := List.mem_iff_getElem.1 hy
    obtain ⟨d', h1, h2, _⟩ := hp i _ (List.getElem?_eq_getElem hi)
    have h3 : Rows.uptoBulk d' ≤ Rows.uptoBulkAll D := bulk_one h1
    have h4 : Rows.uptoBulkAll D + 1 ≤ Rows.uptoBulk d := hbulk
    omega
end
end Go.Proofs.YtholefgckcoklaaGreatDoor
namespace Go.Proofs.YtholefgckcoklaaGreatDoor
open Go.RowKit
namespace Lat
def jn (l : List ByteArray) : ByteArray := ⟨(Lib.join (l.map (·.data.toList)) [32]).toArray⟩
def brk (l : List ByteArray) : ByteArray := (⟨#[40]⟩ : ByteArray) ++ jn l ++ (⟨#[41]⟩ : ByteArray)
end Lat
end Go.Proofs.YtholefgckcoklaaGreatDoor
namespace Go.Proofs.YtholefgckcoklaaGreatDoor
open Go.RowKit
namespace Lat
def checkE (ss : List ByteArray) (G : Nat) (L : Nat → Nat) (Z : Nat → Nat → Bool) : Int :=
  if namesB ss = false then 1 else if 6 < ss.length then 2 else if squareB G L ss.length = false then 5 else if orderB Z ss.length = false then 5
  else if joinsB Z ss.length = false then 5 else if joinsB (tr Z) ss.length = false then 5 else 0
end Lat
theorem rag_grid {w : World} {v : Value} {G n : Nat} {L : Nat → Nat} {Z : Nat → Nat → Bool} (h : Rag w v G L Z) (hn : 0 < n) (hs : Lat.squareB G L n = true) : Grid w v n Z := by
  unfold Lat.squareB at hs
  obtain ⟨h1, h2⟩ := Bool.and_eq_true_iff.1 hs
  have e : G = n := by simpa using h1
  subst e
  exact h.grid hn (fun r hr => by simpa [Lat.squareP] using Lat.all_get h2 hr)
theorem names_pos {ss : List ByteArray} (h : Lat.namesB ss = true) : 0 < ss.length := by
  unfold Lat.namesB at h
  simpa using (Bool.and_eq_true_iff.1 h).2
set_option maxHeartbeats 2000000 in
set_option maxRecDepth 100000 in
theorem check_any (w : World) (vn vl : Value) (ss : List ByteArray) (G : Nat) (L : Nat → Nat) (Z : Nat → Nat → Bool) (hS : Strs w vn ss) (hR : Rag w vl G L Z) :
    Calls Tryz.prog 124 #[.agg #[vn, vl]] w fun e w' => e = .returned (.int .i64 (Lat.checkE ss G L Z)) ∧ Below w.heap.size w w' := by
  have HS := hide hS
  have HR := hide hR
  obtain ⟨a, b, off, cap, rfl, ha, hl, hs, h1⟩ := hS
  clear ha hs h1 hR
  obtain ⟨n, hlen⟩ : ∃ n, n = ss.length := ⟨_, rfl⟩
  have HE : Hid (Lat.checkE ss G L Z = if Lat.namesB ss = false then 1 else if 6 < n then 2 else if Lat.squareB G L n = false then 5 else if Lat.orderB Z n = false then 5
    else if Lat.joinsB Z n = false then 5 else if Lat.joinsB (Lat.tr Z) n = false then 5 else 0) := by rw [hlen]; rfl
  have HP : Hid (Lat.namesB ss = true → 0 < n) := by rw [hlen]; exact names_pos
  rw [← hlen] at hl HS ⊢
  clear hlen
  go_enter Tryz.func124, Tryz.ntmps124
  go_wp2_with fail
  refine (lareNames_any _ _ ss (HS.out.below ((Below.refl _ _).alloc (Nat.le_refl _) _))).mono ?_
  rintro e w1 ⟨rfl, hb1⟩
  have q0 := cellUp (cellBox0 w (.slice a n cap) vl 34) hb1
  have q1 := cellUp (cellBox1 w (.slice a n cap) vl 34) hb1
  have HB := hide (up1 hb1)
  clear hb1
  cases zn : Lat.namesB ss
  · go_wp2
    go_ret
    exact ⟨ret_int (by rw [HE.out, if_pos zn]), HB.out⟩
  · have hpos := HP.out zn
    by_cases h6 : 6 < n
    · go_wp2
      go_ret
      exact ⟨ret_int (by rw [HE.out, zn, if_neg (by simp), if_pos h6]), HB.out⟩
    · have HR1 := hide (HR.out.below HB.out)
      go_wp2_with fail
      refine (isSquare_any w1 vl G n L Z HR1.out (by omega)).mono ?_
      rintro e w' ⟨rfl, hw⟩
      subst hw
      cases zs : Lat.squareB G L n
      · go_wp2
        go_ret
        exact ⟨ret_int (by rw [HE.out, zn, if_neg (by simp), if_neg h6, if_pos zs]), HB.out⟩
      · have HG := hide (rag_grid HR1.out hpos zs)
        go_wp2_with fail
        refine (isOrder_any w' vl n Z HG.out (by omega)).mono ?_
        rintro e w'' ⟨rfl, hw⟩
        subst hw
        cases zo : Lat.orderB Z n
        · go_wp2
          go_ret
          exact ⟨ret_int (by rw [HE.out, zn, if_neg (by simp), if_neg h6, zs, if_neg (by simp), if_pos zo]), HB.out⟩
        · go_wp2_with fail
          refine (hasJoins_any w'' vl n Z HG.out (by omega)).mono ?_
          rintro e w3 ⟨rfl, hw⟩
          subst hw
          cases zj : Lat.joinsB Z n
          · go_wp2
            go_ret
            exact ⟨ret_int (by rw [HE.out, zn, if_neg (by simp), if_neg h6, zs, if_neg (by simp), zo, if_neg (by simp), if_pos zj]), HB.out⟩
          · go_wp2_with fail
            refine (turned_any w3 vl n Z HG.out (by omega)).mono ?_
            rintro e w4 ⟨v', rfl, hG4, hb4⟩
            have HG4 := hide hG4
            have HB4 := hide (up HB.out hb4)
            clear hG4 hb4
            go_wp2_with fail
            refine (hasJoins_any w4 v' n (Lat.tr Z) HG4.out (by omega)).mono ?_
            rintro e w5 ⟨rfl, hw⟩
            subst hw
            cases zt : Lat.joinsB (Lat.tr Z) n
            · go_wp2
              go_ret
              exact ⟨ret_int (by rw [HE.out, zn, if_neg (by simp), if_neg h6, zs, if_neg (by simp), zo, if_neg (by simp), zj, if_neg (by simp), if_pos zt]), HB4.out⟩
            · go_wp2
              go_ret
              exact ⟨ret_int (by rw [HE.out, zn, if_neg (by simp), if_neg h6, zs, if_neg (by simp), zo, if_neg (by simp), zj, if_neg (by simp), zt, if_neg (by simp)]), HB4.out⟩
end Go.Proofs.YtholefgckcoklaaGreatDoor
namespace Go.Proofs.YtholefgckcoklaaGreatDoor
open Go.RowKit
namespace Lat
def inB (n : Nat) (a : Int) : Bool := decide (0 ≤ a) && decide (a < n)
end Lat
theorem Grid.drew {w : World} {v : Value} {n : Nat} {Z : Nat → Nat → Bool} (h : Grid w v n Z) : Grid w.drew v n Z := h.below (Below.refl _ _).drew
end Go.Proofs.YtholefgckcoklaaGreatDoor
