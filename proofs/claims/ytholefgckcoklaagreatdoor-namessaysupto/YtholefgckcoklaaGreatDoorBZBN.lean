/- The first error among modules. -/
import Derived.Test.YtholefgckcoklaaGreatDoorBZBM
import Derived.Test.YtholefgckcoklaaGreatDoorBZBE
import Derived.Test.YtholefgckcoklaaGreatDoorBZAW
import Derived.Test.YtholefgckcoklaaGreatDoorBZBD
import Derived.Test.YtholefgckcoklaaGreatDoorBZBL
import Derived.Test.YtholefgckcoklaaGreatDoorBZAS
namespace Go.Proofs.YtholefgckcoklaaGreatDoor
open Go.RowKit
namespace Nm
def mosE (m : Nat) : List Mo → Int
  | [] => 0
  | x :: r => if Lat.moE m x = 0 then mosE m r else Lat.moE m x
def thE (e0 : Int) (m : Nat) (x : Mo) (known : List Mo) : Int := if e0 = 0 then (if Lat.moE m x = 0 then mosE m known else Lat.moE m x) else e0
theorem mosE_all {m : Nat} {l : List Mo} (h : ∀ x ∈ l, Lat.moE m x = 0) : mosE m l = 0 := by
  induction l with
  | nil => rfl
  | cons x r ih =>
    unfold mosE
    rw [if_pos (h x (by simp)), ih (fun y hy => h y (by simp [hy]))]
theorem mosE_first {m : Nat} {l : List Mo} {j : Nat} {x : Mo} (hx : l[j]? = some x) (h : ∀ (q : Nat) y, q < j → l[q]? = some y → Lat.moE m y = 0) (he : Lat.moE m x ≠ 0) : mosE m l = Lat.moE m x := by
  induction l generalizing j with
  | nil => simp at hx
  | cons y r ih =>
    cases j with
    | zero => simp at hx; subst hx; unfold mosE; rw [if_neg he]
    | succ j =>
      unfold mosE
      rw [if_pos (h 0 y (by omega) (by simp)), ih (j := j) (by simpa using hx) (fun q z hq hz => h (q + 1) z (by omega) (by simpa using hz))]
end Nm
end Go.Proofs.YtholefgckcoklaaGreatDoor
namespace Go.Proofs.YtholefgckcoklaaGreatDoor
open Go.RowKit
set_option maxHeartbeats 2000000 in
set_option maxRecDepth 100000 in
theorem checkForms_any (m : Nat) (w : World) (vn vl vi vv vf vk : Value) (ss : List ByteArray) (G : Nat) (L : Nat → Nat) (Z : Nat → Nat → Bool) (x : Mo) (known : List Mo) (hS : Strs w vn ss) (hR : Rag w vl G L Z) (h : MoAt w m (.agg #[.string x.name, vi, vv, vf]) x) (hK : MosAt w m vk known)
    (hw : moW m x ≤ 1048576) (hks : ∀ y ∈ known, moW m y ≤ 1048576) (ht : Tab w) :
    Calls Tryz.prog 53 #[.agg #[vn, vl], .agg #[.string x.name, vi, vv, vf], vk] w fun e w' => e = .returned (.int .i64 (Nm.thE (Lat.checkE ss G L Z) m x known)) ∧ Below w.heap.size w w' := by
  have HL := hide (fun wx (hb : Below w.heap.size w wx) => check_any wx vn vl ss G L Z (hS.below hb) (hR.below hb))
  have HM := hide (fun wx (hb : Below w.heap.size w wx) => tcheck_any m wx _ x (h.below hb) hw (ht.below hb))
  have HT := hide ht
  have HKS := hide hks
  obtain ⟨hI, hV, hF⟩ := h.split
  obtain ⟨an, bn, on, cn, rfl, -⟩ := hS
  obtain ⟨ai, bi, oi, ci, rfl, -⟩ := hI
  obtain ⟨av, bv, ov, cv, rfl, -⟩ := hV
  obtain ⟨af, bf, of, cf, rfl, -⟩ := hF
  obtain ⟨ak, bk, ok, ck, rfl, hak, hlk, hck⟩ := hK
  have HCK : Hid (MoEl w m bk ok known) := hck
  have HAK := hide hak
  obtain ⟨nk, hnk⟩ : ∃ n, n = known.length := ⟨_, rfl⟩
  have HNK := hide hnk
  rw [← hnk] at hlk HAK ⊢
  obtain ⟨e0, he0⟩ : ∃ e, e = Lat.checkE ss G L Z := ⟨_, rfl⟩
  rw [← he0] at HL ⊢
  obtain ⟨e1, he1⟩ : ∃ e, e = Lat.moE m x := ⟨_, rfl⟩
  rw [← he1] at HM
  have HE : Hid (Nm.thE e0 m x known = if e0 = 0 then (if e1 = 0 then Nm.mosE m known else e1) else e0) := hide (by rw [he1]; rfl)
  obtain ⟨R, hRR⟩ : ∃ R, R = Nm.thE e0 m x known := ⟨_, rfl⟩
  rw [← hRR] at HE ⊢
  generalize x.imports.length = ni at *
  generalize x.vars.length = nv at *
  generalize x.funs.length = nf at *
  generalize ss.length = nn at *
  obtain ⟨vl', hvl⟩ : ∃ v, v = vl := ⟨_, rfl⟩
  obtain ⟨b0, b1, hb0⟩ := al2 w (.cells #[.slice an nn cn, vl] 34) (.cells #[.string x.name, .slice ai ni ci, .slice av nv cv, .slice af nf cf] 26)
  have HBL := hide hb0
  have q0 := (block_at b0 0).trans (rfl : _ = some (Value.slice an nn cn))
  have q1 := (block_at b0 1).trans (rfl : _ = some vl)
  have r0 := (block_at b1 0).trans (rfl : _ = some (Value.string x.name))
  have r1 := (block_at b1 1).trans (rfl : _ = some (Value.slice ai ni ci))
  have r2 := (block_at b1 2).trans (rfl : _ = some (Value.slice av nv cv))
  have r3 := (block_at b1 3).trans (rfl : _ = some (Value.slice af nf cf))
  clear h hR ht hks hak hck hnk he0 he1 hRR hvl b0 b1 hb0
  go_enter Tryz.func53, Tryz.ntmps53
  go_wp2_with fail
  generalize ((w.alloc (.cells #[.slice an nn cn, vl] 34)).alloc (.cells #[.string x.name, .slice ai ni ci, .slice av nv cv, .slice af nf cf] 26)) = W0 at *
  refine (HL.out _ HBL.out).mono ?_
  rintro e w1 ⟨rfl, hb1⟩
  have HB1 := hide (up HBL.out hb1)
  replace r0 := cellUp r0 hb1
  replace r1 := cellUp r1 hb1
  replace r2 := cellUp r2 hb1
  replace r3 := cellUp r3 hb1
  clear hb1 q0 q1
  by_cases h0 : e0 = 0
  · subst h0
    rw [if_pos rfl] at HE
    go_wp2_with fail
    refine (HM.out _ HB1.out).mono ?_
    rintro e w2 ⟨rfl, hb2⟩
    have HB2 := hide (up HB1.out hb2)
    clear hb2 r0 r1 r2 r3
    by_cases h1 : e1 = 0
    · subst h1
      rw [if_pos rfl] at HE
      go_wp2_with fail
      go_loopw [24] (fun i wr => ∃ j : Nat, j ≤ nk ∧ i = .int .i64 j ∧ (∀ (q : Nat) y, q < j → known[q]? = some y → Lat.moE m y = 0) ∧ Below w.heap.size w wr) (fun i _ => nk - (intOf i).toNat)
      case atStart => exact ⟨0, Nat.zero_le _, rfl, fun q y hq => absurd hq (Nat.not_lt_zero _), HB2.out⟩
      case round =>
        obtain ⟨j, hj, rfl, hall, hnx⟩ := hrel
        have HALL := hide hall
        have HNX := hide hnx
        clear hall
        by_cases hjl : j < nk
        · obtain ⟨y, hy⟩ : ∃ y, known[j]? = some y := ⟨_, List.getElem?_eq_getElem (by rw [← HNK.out]; exact hjl)⟩
          obtain ⟨yi, yv, yf, g0, g1, g2, g3, hmy⟩ := HCK.out j y hy
          obtain rfl := HAK.out (by omega)
          have HY := hide hy
          replace g0 := cellUp g0 hnx
          replace g1 := cellUp g1 hnx
          replace g2 := cellUp g2 hnx
          replace g3 := cellUp g3 hnx
          have HB5 := hide (boxBelow wr (.cells #[.string y.name, yi, yv, yf] 26))
          have z0 := boxD0 wr (.string y.name) yi yv yf 26
          have z1 := boxD1 wr (.string y.name) yi yv yf 26
          have z2 := boxD2 wr (.string y.name) yi yv yf 26
          have z3 := boxN3 wr (.string y.name) yi yv yf 26
          have HCY := hide (tcheck_any m _ _ y (hmy.below (up hnx HB5.out)) (HKS.out y (List.mem_of_getElem? hy)) (HT.out.below (up hnx HB5.out)))
          obtain ⟨hyI, hyV, hyF⟩ := hmy.split
          obtain ⟨a1, b1, o1, c1, rfl, -⟩ := hyI
          obtain ⟨a2, b2, o2, c2, rfl, -⟩ := hyV
          obtain ⟨a3, b3, o3, c3, rfl, -⟩ := hyF
          obtain ⟨ey, hey⟩ : ∃ e, e = Lat.moE m y := ⟨_, rfl⟩
          have HEY := hide hey
          rw [← hey] at HCY
          generalize y.imports.length = n1 at *
          generalize y.vars.length = n2 at *
          generalize y.funs.length = n3 at *
          clear hy hmy hnx hey
          go_wp2_with fail
          refine HCY.out.mono ?_
          rintro e w5 ⟨rfl, hb5⟩
          have HB6 := hide (up (up HNX.out HB5.out) hb5)
          clear hb5 g0 g1 g2 g3 z0 z1 z2 z3
          by_cases h2 : ey = 0
          · have HE2 : Hid (Lat.moE m y = 0) := hide (by rw [← HEY.out]; exact h2)
            subst h2
            go_wp2_with fail
            go_roundw
            case rel => exact ⟨j + 1, by omega, by go_num, fun q z hq hz => by
                by_cases e : q = j
                · subst e; rw [HY.out] at hz; cases hz; exact HE2.out
                · exact HALL.out q z (by omega) hz, HB6.out⟩
            case measure => simp [intOf]; omega
          · have h2' : (ey == 0) = false := by simp [h2]
            have HRE : Hid (R = ey) := hide (by rw [HE.out, HEY.out]; exact Nm.mosE_first HY.out HALL.out (by rw [← HEY.out]; exact h2))
            clear h2
            go_wp2_with fail
            go_ret
            exact ⟨by rw [HRE.out]; rfl, HB6.out⟩
        · have HRE : Hid (R = 0) := hide (by
            rw [HE.out]
            refine Nm.mosE_all fun y hy => ?_
            obtain ⟨i, hi, rfl⟩ := List.mem_iff_getElem.1 hy
            exact HALL.out i _ (by have := HNK.out; omega) (List.getElem?_eq_getElem hi))
          clear hnx
          go_wp2_with fail
          go_ret
          exact ⟨by rw [HRE.out]; rfl, HNX.out⟩
    · have h1' : (e1 == 0) = false := by simp [h1]
      rw [if_neg h1] at HE
      clear h1
      go_wp2_with fail
      go_ret
      exact ⟨by rw [HE.out]; rfl, HB2.out⟩
  · have h0' : (e0 == 0) = false := by simp [h0]
    rw [if_neg h0] at HE
    clear h0
    go_wp2_with fail
    go_ret
    exact ⟨by rw [HE.out]; rfl, HB1.out⟩
end Go.Proofs.YtholefgckcoklaaGreatDoor
namespace Go.Proofs.YtholefgckcoklaaGreatDoor
open Go.RowKit
set_option maxHeartbeats 2000000 in
set_option maxRecDepth 100000 in
theorem things_any (m : Nat) (w : World) (vn vl vi vv vf vk : Value) (ss : List ByteArray) (G : Nat) (L : Nat → Nat) (Z : Nat → Nat → Bool) (x : Mo) (known : List Mo) (hS : Strs w vn ss) (hR : Rag w vl G L Z) (h : MoAt w m (.agg #[.string x.name, vi, vv, vf]) x) (hK : MosAt w m vk known)
    (hw : moW m x ≤ 1048576) (hks : ∀ y ∈ known, moW m y ≤ 1048576) (ht : Tab w) :
    Calls Tryz.prog 11 #[.agg #[vn, vl], .agg #[.string x.name, vi, vv, vf], vk] w fun e w' => e = .returned (.int .i64 (Nm.thE (Lat.checkE ss G L Z) m x known)) ∧ Below w.heap.size w w' := by
  have HL := hide (fun wx (hb : Below w.heap.size w wx) => rlattice_any wx vn vl ss G L Z (hS.below hb) (hR.below hb))
  have HM := hide (fun wx (hb : Below w.heap.size w wx) => rmodule_any m wx _ x (h.below hb) hw (ht.below hb))
  have HT := hide ht
  have HKS := hide hks
  obtain ⟨hI, hV, hF⟩ := h.split
  obtain ⟨an, bn, on, cn, rfl, -⟩ := hS
  obtain ⟨ai, bi, oi, ci, rfl, -⟩ := hI
  obtain ⟨av, bv, ov, cv, rfl, -⟩ := hV
  obtain ⟨af, bf, of, cf, rfl, -⟩ := hF
  obtain ⟨ak, bk, ok, ck, rfl, hak, hlk, hck⟩ := hK
  have HCK : Hid (MoEl w m bk ok known) := hck
  have HAK := hide hak
  obtain ⟨nk, hnk⟩ : ∃ n, n = known.length := ⟨_, rfl⟩
  have HNK := hide hnk
  rw [← hnk] at hlk HAK ⊢
  obtain ⟨e0, he0⟩ : ∃ e, e = Lat.checkE ss G L Z := ⟨_, rfl⟩
  rw [← he0] at HL ⊢
  obtain ⟨e1, he1⟩ : ∃ e, e = Lat.moE m x := ⟨_, rfl⟩
  rw [← he1] at HM
  have HE : Hid (Nm.thE e0 m x known = if e0 = 0 then (if e1 = 0 then Nm.mosE m known else e1) else e0) := hide (by rw [he1]; rfl)
  obtain ⟨R, hRR⟩ : ∃ R, R = Nm.thE e0 m x known := ⟨_, rfl⟩
  rw [← hRR] at HE ⊢
  generalize x.imports.length = ni at *
  generalize x.vars.length = nv at *
  generalize x.funs.length = nf at *
  generalize ss.length = nn at *
  obtain ⟨vl', hvl⟩ : ∃ v, v = vl := ⟨_, rfl⟩
  obtain ⟨b0, b1, hb0⟩ := al2 w (.cells #[.slice an nn cn, vl] 34) (.cells #[.string x.name, .slice ai ni ci, .slice av nv cv, .slice af nf cf] 26)
  have HBL := hide hb0
  have q0 := (block_at b0 0).trans (rfl : _ = some (Value.slice an nn cn))
  have q1 := (block_at b0 1).trans (rfl : _ = some vl)
  have r0 := (block_at b1 0).trans (rfl : _ = some (Value.string x.name))
  have r1 := (block_at b1 1).trans (rfl : _ = some (Value.slice ai ni ci))
  have r2 := (block_at b1 2).trans (rfl : _ = some (Value.slice av nv cv))
  have r3 := (block_at b1 3).trans (rfl : _ = some (Value.slice af nf cf))
  clear h hR ht hks hak hck hnk he0 he1 hRR hvl b0 b1 hb0
  go_enter Tryz.func11, Tryz.ntmps11
  go_wp2_with fail
  generalize ((w.alloc (.cells #[.slice an nn cn, vl] 34)).alloc (.cells #[.string x.name, .slice ai ni ci, .slice av nv cv, .slice af nf cf] 26)) = W0 at *
  refine (HL.out _ HBL.out).mono ?_
  rintro e w1 ⟨rfl, hb1⟩
  have HB1 := hide (up HBL.out hb1)
  replace r0 := cellUp r0 hb1
  replace r1 := cellUp r1 hb1
  replace r2 := cellUp r2 hb1
  replace r3 := cellUp r3 hb1
  clear hb1 q0 q1
  by_cases h0 : e0 = 0
  · subst h0
    rw [if_pos rfl] at HE
    go_wp2_with fail
    refine (HM.out _ HB1.out).mono ?_
    rintro e w2 ⟨rfl, hb2⟩
    have HB2 := hide (up HB1.out hb2)
    clear hb2 r0 r1 r2 r3
    by_cases h1 : e1 = 0
    · subst h1
      rw [if_pos rfl] at HE
      go_wp2_with fail
      go_loopw [9] (fun i wr => ∃ j : Nat, j ≤ nk ∧ i = .int .i64 j ∧ (∀ (q : Nat) y, q < j → known[q]? = some y → Lat.moE m y = 0) ∧ Below w.heap.size w wr) (fun i _ => nk - (intOf i).toNat)
      case atStart => exact ⟨0, Nat.zero_le _, rfl, fun q y hq => absurd hq (Nat.not_lt_zero _), HB2.out⟩
      case round =>
        obtain ⟨j, hj, rfl, hall, hnx⟩ := hrel
        have HALL := hide hall
        have HNX := hide hnx
        clear hall
        by_cases hjl : j < nk
        · obtain ⟨y, hy⟩ : ∃ y, known[j]? = some y := ⟨_, List.getElem?_eq_getElem (by rw [← HNK.out]; exact hjl)⟩
          obtain ⟨yi, yv, yf, g0, g1, g2, g3, hmy⟩ := HCK.out j y hy
          obtain rfl := HAK.out (by omega)
          have HY := hide hy
          replace g0 := cellUp g0 hnx
          replace g1 := cellUp g1 hnx
          replace g2 := cellUp g2 hnx
          replace g3 := cellUp g3 hnx
          have HCY := hide (rmodule_any m wr _ y (hmy.below hnx) (HKS.out y (List.mem_of_getElem? hy)) (HT.out.below hnx))
          obtain ⟨hyI, hyV, hyF⟩ := hmy.split
          obtain ⟨a1, b1, o1, c1, rfl, -⟩ := hyI
          obtain ⟨a2, b2, o2, c2, rfl, -⟩ := hyV
          obtain ⟨a3, b3, o3, c3, rfl, -⟩ := hyF
          obtain ⟨ey, hey⟩ : ∃ e, e = Lat.moE m y := ⟨_, rfl⟩
          have HEY := hide hey
          rw [← hey] at HCY
          generalize y.imports.length = n1 at *
          generalize y.vars.length = n2 at *
          generalize y.funs.length = n3 at *
          clear hy hmy hnx hey
          go_wp2_with fail
          refine HCY.out.mono ?_
          rintro e w5 ⟨rfl, hb5⟩
          have HB6 := hide (up HNX.out hb5)
          clear hb5 g0 g1 g2 g3
          by_cases h2 : ey = 0
          · have HE2 : Hid (Lat.moE m y = 0) := hide (by rw [← HEY.out]; exact h2)
            subst h2
            go_wp2_with fail
            go_roundw
            case rel => exact ⟨j + 1, by omega, by go_num, fun q z hq hz => by
                by_cases e : q = j
                · subst e; rw [HY.out] at hz; cases hz; exact HE2.out
                · exact HALL.out q z (by omega) hz, HB6.out⟩
            case measure => simp [intOf]; omega
          · have h2' : (ey == 0) = false := by simp [h2]
            have HRE : Hid (R = ey) := hide (by rw [HE.out, HEY.out]; exact Nm.mosE_first HY.out HALL.out (by rw [← HEY.out]; exact h2))
            clear h2
            go_wp2_with fail
            go_ret
            exact ⟨by rw [HRE.out]; rfl, HB6.out⟩
        · have HRE : Hid (R = 0) := hide (by
            rw [HE.out]
            refine Nm.mosE_all fun y hy => ?_
            obtain ⟨i, hi, rfl⟩ := List.mem_iff_getElem.1 hy
            exact HALL.out i _ (by have := HNK.out; omega) (List.getElem?_eq_getElem hi))
          clear hnx
          go_wp2_with fail
          go_ret
          exact ⟨by rw [HRE.out]; rfl, HNX.out⟩
    · have h1' : (e1 == 0) = false := by simp [h1]
      rw [if_neg h1] at HE
      clear h1
      go_wp2_with fail
      go_ret
      exact ⟨by rw [HE.out]; rfl, HB2.out⟩
  · have h0' : (e0 == 0) = false := by simp [h0]
    rw [if_neg h0] at HE
    clear h0
    go_wp2_with fail
    go_ret
    exact ⟨by rw [HE.out]; rfl, HB1.out⟩
end Go.Proofs.YtholefgckcoklaaGreatDoor
namespace Go.Proofs.YtholefgckcoklaaGreatDoor
open Go.RowKit
set_option maxHeartbeats 1000000 in
theorem ntarget_anyF (m : Nat) (w : World) (vi vv vf vk : Value) (x : Mo) (known : List Mo) (k : Nat) (call : ByteArray) (h : MoAt w m (.agg #[.string x.name, vi, vv, vf]) x) (hK : MosAt w m vk known) (hC : CapOK vf) (hk : k ≤ x.funs.length) (hc : call.size ≤ maxLen) (hli : x.imports.length ≤ 1048576) :
    Calls Tryz.prog 15 #[.agg #[.string x.name, vi, vv, vf], .int .i64 k, .string call, vk] w fun e w' => e = .returned (.tuple #[.int .i64 (Nm.ptgt x k call known).1, .int .i64 (Nm.ptgt x k call known).2.1, .bool (Nm.ptgt x k call known).2.2]) ∧ Below w.heap.size w w' := by
  have HM := hide h
  have HK := hide hK
  have HSC := hide (fun wx (hb : Below w.heap.size w wx) => newScope_any m wx _ _ _ _ x known (h.below hb) (hK.below hb) hli)
  have HST := hide (fun wx (hb : Below w.heap.size w wx) va (hI : Ints wx va (x.imports.map fun s => Nm.oI (Nm.moAt known s))) => starget_any m wx x known vi vv vf vk va k call ⟨h.below hb, hK.below hb, hI, hC⟩ hk hc)
  have HBX := fun i v hv => boxD w #[.string x.name, vi, vv, vf] 26 i v hv
  have r0 := HBX 0 _ rfl
  have r1 := HBX 1 _ rfl
  have r2 := HBX 2 _ rfl
  have r3 := HBX 3 _ rfl
  have HB0 := hide (boxBelow w (.cells #[.string x.name, vi, vv, vf] 26))
  obtain ⟨R, hR⟩ : ∃ R, R = Nm.ptgt x k call known := ⟨_, rfl⟩
  rw [← hR] at HST ⊢
  obtain ⟨hI, hV, hF⟩ := h.split
  obtain ⟨ai, bi, oi, ci, rfl, -⟩ := hI
  obtain ⟨av, bv, ov, cv, rfl, -⟩ := hV
  obtain ⟨af, bf, of, cf, rfl, -⟩ := hF
  obtain ⟨ak, bk, ok, ck, rfl, -⟩ := hK
  generalize x.imports.length = ni at *
  generalize x.vars.length = nv at *
  generalize x.funs.length = nf at *
  generalize known.length = nk at *
  clear h hC HBX hR
  go_enter Tryz.func15, Tryz.ntmps15
  go_wp2_with fail
  refine (HSC.out _ HB0.out).mono ?_
  rintro e w1 ⟨va, rfl, hints, hb1⟩
  have HIN := hide hints
  have HB1 := hide (up HB0.out hb1)
  clear r0 r1 r2 r3 hb1 hints
  go_wp2_with fail
  refine (HST.out _ HB1.out _ HIN.out).mono ?_
  rintro e w2 ⟨rfl, hb2⟩
  have HB2 := hide (up HB1.out hb2)
  clear hb2
  go_wp2_with fail
  go_ret3
  exact ⟨rfl, HB2.out⟩
theorem ntarget_any (m : Nat) (w : World) (vi vv vf vk : Value) (x : Mo) (known : List Mo) (k : Nat) (call : ByteArray) (h : MoAt w m (.agg #[.string x.name, vi, vv, vf]) x) (hK : MosAt w m vk known) (hC : MoCap w vi vf) (hk : k ≤ x.funs.length) (hc : call.size ≤ maxLen) (hli : x.imports.length ≤ 1048576) :
    Calls Tryz.prog 15 #[.agg #[.string x.name, vi, vv, vf], .int .i64 k, .string call, vk] w fun e w' => e = .returned (.tuple #[.int .i64 (Nm.ptgt x k call known).1, .int .i64 (Nm.ptgt x k call known).2.1, .bool (Nm.ptgt x k call known).2.2]) ∧ Below w.heap.size w w' :=
  ntarget_anyF m w vi vv vf vk x known k call h hK hC.fus hk hc hli
end Go.Proofs.YtholefgckcoklaaGreatDoor
