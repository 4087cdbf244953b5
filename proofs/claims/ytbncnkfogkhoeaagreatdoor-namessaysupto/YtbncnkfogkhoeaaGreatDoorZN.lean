/- Walks over package names and package downref: checkForms, Things. -/
import Derived.Test.YtbncnkfogkhoeaaGreatDoorZI
import Derived.Test.YtbncnkfogkhoeaaGreatDoorZJ
import Derived.Test.YtbncnkfogkhoeaaGreatDoorZK
import Derived.Test.YtbncnkfogkhoeaaGreatDoorZM
import Derived.Test.YtbncnkfogkhoeaaGreatDoorZL
namespace Go.Proofs.YtbncnkfogkhoeaaGreatDoor
open Go.RowKit

namespace Nm
/-- The first error among modules. -/
def mosE (m : Nat) : List Mo → Int
  | [] => 0
  | x :: r => if Lat.moE m x = 0 then mosE m r else Lat.moE m x
/-- The error of a lattice, a module, and others. -/
def thE (e0 : Int) (m : Nat) (x : Mo) (known : List Mo) : Int := if e0 = 0 then (if Lat.moE m x = 0 then mosE m known else Lat.moE m x) else e0
theorem mosE_all {m : Nat} {l : List Mo} (h : ∀ x ∈ l, Lat.moE m x = 0) : mosE m l = 0 := by
  induction l with
  | nil => rfl
  | cons x r ih =>
    unfold mosE
    rw [if_pos (h x (by simp)), ih (fun y hy => h y (by simp [hy]))]
theorem mosE_first {m : Nat} {l : List Mo} {j : Nat} {x : Mo} (hx : l[j]? = some x) (h : ∀ (q : Nat) y, q < j → l[q]? = some y → Lat.moE m y = 0) (he : Lat.moE m x ≠ 0) : mosE m l = Lat.moE m x := by
  induction l generalizing j with
  | nil => simp at hx
  | cons y r ih =>
    cases j with
    | zero => simp at hx; subst hx; unfold mosE; rw [if_neg he]
    | succ j =>
      unfold mosE
      rw [if_pos (h 0 y (by omega) (by simp)), ih (j := j) (by simpa using hx) (fun q z hq hz => h (q + 1) z (by omega) (by simpa using hz))]
end Nm

set_option maxHeartbeats 2000000 in
set_option maxRecDepth 100000 in
theorem checkForms_any (m : Nat) (w : World) (vn vl vi vv vf vk : Value) (ss : List ByteArray) (G : Nat) (L : Nat → Nat) (Z : Nat → Nat → Bool) (x : Mo) (known : List Mo) (hS : Strs w vn ss) (hR : Rag w vl G L Z) (h : MoAt w m (.agg #[.string x.name, vi, vv, vf]) x) (hK : MosAt w m vk known)
    (hw : moW m x ≤ 1048576) (hks : ∀ y ∈ known, moW m y ≤ 1048576) (ht : Tab w) :
    Calls Tryz.prog 43 #[.agg #[vn, vl], .agg #[.string x.name, vi, vv, vf], vk] w fun e w' => e = .returned (.int .i64 (Nm.thE (Lat.checkE ss G L Z) m x known)) ∧ Below w.heap.size w w' := by
  have HL := hide (fun wx (hb : Below w.heap.size w wx) => check_any wx vn vl ss G L Z (hS.below hb) (hR.below hb))
  have HM := hide (fun wx (hb : Below w.heap.size w wx) => tcheck_any m wx _ x (h.below hb) hw (ht.below hb))
  have HT := hide ht
  have HKS := hide hks
  obtain ⟨hI, hV, hF⟩ := h.split
  obtain ⟨an, bn, on, cn, rfl, -⟩ := hS
  obtain ⟨ai, bi, oi, ci, rfl, -⟩ := hI
  obtain ⟨av, bv, ov, cv, rfl, -⟩ := hV
  obtain ⟨af, bf, of, cf, rfl, -⟩ := hF
  obtain ⟨ak, bk, ok, ck, rfl, hak, hlk, hck⟩ := hK
  have HCK : Hid (MoEl w m bk ok known) := hck
  have HAK := hide hak
  obtain ⟨nk, hnk⟩ : ∃ n, n = known.length := ⟨_, rfl⟩
  have HNK := hide hnk
  rw [← hnk] at hlk HAK ⊢
  obtain ⟨e0, he0⟩ : ∃ e, e = Lat.checkE ss G L Z := ⟨_, rfl⟩
  rw [← he0] at HL ⊢
  obtain ⟨e1, he1⟩ : ∃ e, e = Lat.moE m x := ⟨_, rfl⟩
  rw [← he1] at HM
  have HE : Hid (Nm.thE e0 m x known = if e0 = 0 then (if e1 = 0 then Nm.mosE m known else e1) else e0) := hide (by rw [he1]; rfl)
  obtain ⟨R, hRR⟩ : ∃ R, R = Nm.thE e0 m x known := ⟨_, rfl⟩
  rw [← hRR] at HE ⊢
  generalize x.imports.length = ni at *
  generalize x.vars.length = nv at *
  generalize x.funs.length = nf at *
  generalize ss.length = nn at *
  obtain ⟨vl', hvl⟩ : ∃ v, v = vl := ⟨_, rfl⟩
  obtain ⟨b0, b1, hb0⟩ := al2 w (.cells #[.slice an nn cn, vl] 34) (.cells #[.string x.name, .slice ai ni ci, .slice av nv cv, .slice af nf cf] 26)
  have HBL := hide hb0
  have q0 := (block_at b0 0).trans (rfl : _ = some (Value.slice an nn cn))
  have q1 := (block_at b0 1).trans (rfl : _ = some vl)
  have r0 := (block_at b1 0).trans (rfl : _ = some (Value.string x.name))
  have r1 := (block_at b1 1).trans (rfl : _ = some (Value.slice ai ni ci))
  have r2 := (block_at b1 2).trans (rfl : _ = some (Value.slice av nv cv))
  have r3 := (block_at b1 3).trans (rfl : _ = some (Value.slice af nf cf))
  clear h hR ht hks hak hck hnk he0 he1 hRR hvl b0 b1 hb0
  go_enter Tryz.func43, Tryz.ntmps43
  go_wp2_with fail
  generalize ((w.alloc (.cells #[.slice an nn cn, vl] 34)).alloc (.cells #[.string x.name, .slice ai ni ci, .slice av nv cv, .slice af nf cf] 26)) = W0 at *
  refine (HL.out _ HBL.out).mono ?_
  rintro e w1 ⟨rfl, hb1⟩
  have HB1 := hide (up HBL.out hb1)
  replace r0 := cellUp r0 hb1
  replace r1 := cellUp r1 hb1
  replace r2 := cellUp r2 hb1
  replace r3 := cellUp r3 hb1
  clear hb1 q0 q1
  by_cases h0 : e0 = 0
  · subst h0
    rw [if_pos rfl] at HE
    go_wp2_with fail
    refine (HM.out _ HB1.out).mono ?_
    rintro e w2 ⟨rfl, hb2⟩
    have HB2 := hide (up HB1.out hb2)
    clear hb2 r0 r1 r2 r3
    by_cases h1 : e1 = 0
    · subst h1
      rw [if_pos rfl] at HE
      go_wp2_with fail
      go_loopw [24] (fun i wr => ∃ j : Nat, j ≤ nk ∧ i = .int .i64 j ∧ (∀ (q : Nat) y, q < j → known[q]? = some y → Lat.moE m y = 0) ∧ Below w.heap.size w wr) (fun i _ => nk - (intOf i).toNat)
      case atStart => exact ⟨0, Nat.zero_le _, rfl, fun q y hq => absurd hq (Nat.not_lt_zero _), HB2.out⟩
      case round =>
        obtain ⟨j, hj, rfl, hall, hnx⟩ := hrel
        have HALL := hide hall
        have HNX := hide hnx
        clear hall
        by_cases hjl : j < nk
        · obtain ⟨y, hy⟩ : ∃ y, known[j]? = some y := ⟨_, List.getElem?_eq_getElem (by rw [← HNK.out]; exact hjl)⟩
          obtain ⟨yi, yv, yf, g0, g1, g2, g3, hmy⟩ := HCK.out j y hy
          obtain rfl := HAK.out (by omega)
          have HY := hide hy
          replace g0 := cellUp g0 hnx
          replace g1 := cellUp g1 hnx
          replace g2 := cellUp g2 hnx
          replace g3 := cellUp g3 hnx
          have HB5 := hide (boxBelow wr (.cells #[.string y.name, yi, yv, yf] 26))
          have z0 := boxD0 wr (.string y.name) yi yv yf 26
          have z1 := boxD1 wr (.string y.name) yi yv yf 26
          have z2 := boxD2 wr (.string y.name) yi yv yf 26
          have z3 := boxN3 wr (.string y.name) yi yv yf 26
          have HCY := hide (tcheck_any m _ _ y (hmy.below (up hnx HB5.out)) (HKS.out y (List.mem_of_getElem? hy)) (HT.out.below (up hnx HB5.out)))
          obtain ⟨hyI, hyV, hyF⟩ := hmy.split
          obtain ⟨a1, b1, o1, c1, rfl, -⟩ := hyI
          obtain ⟨a2, b2, o2, c2, rfl, -⟩ := hyV
          obtain ⟨a3, b3, o3, c3, rfl, -⟩ := hyF
          obtain ⟨ey, hey⟩ : ∃ e, e = Lat.moE m y := ⟨_, rfl⟩
          have HEY := hide hey
          rw [← hey] at HCY
          generalize y.imports.length = n1 at *
          generalize y.vars.length = n2 at *
          generalize y.funs.length = n3 at *
          clear hy hmy hnx hey
          go_wp2_with fail
          refine HCY.out.mono ?_
          rintro e w5 ⟨rfl, hb5⟩
          have HB6 := hide (up (up HNX.out HB5.out) hb5)
          clear hb5 g0 g1 g2 g3 z0 z1 z2 z3
          by_cases h2 : ey = 0
          · have HE2 : Hid (Lat.moE m y = 0) := hide (by rw [← HEY.out]; exact h2)
            subst h2
            go_wp2_with fail
            go_roundw
            case rel => exact ⟨j + 1, by omega, by go_num, fun q z hq hz => by
                by_cases e : q = j
                · subst e; rw [HY.out] at hz; cases hz; exact HE2.out
                · exact HALL.out q z (by omega) hz, HB6.out⟩
            case measure => simp [intOf]; omega
          · have h2' : (ey == 0) = false := by simp [h2]
            have HRE : Hid (R = ey) := hide (by rw [HE.out, HEY.out]; exact Nm.mosE_first HY.out HALL.out (by rw [← HEY.out]; exact h2))
            clear h2
            go_wp2_with fail
            go_ret
            exact ⟨by rw [HRE.out]; rfl, HB6.out⟩
        · have HRE : Hid (R = 0) := hide (by
            rw [HE.out]
            refine Nm.mosE_all fun y hy => ?_
            obtain ⟨i, hi, rfl⟩ := List.mem_iff_getElem.1 hy
            exact HALL.out i _ (by have := HNK.out; omega) (List.getElem?_eq_getElem hi))
          clear hnx
          go_wp2_with fail
          go_ret
          exact ⟨by rw [HRE.out]; rfl, HNX.out⟩
    · have h1' : (e1 == 0) = false := by simp [h1]
      rw [if_neg h1] at HE
      clear h1
      go_wp2_with fail
      go_ret
      exact ⟨by rw [HE.out]; rfl, HB2.out⟩
  · have h0' : (e0 == 0) = false := by simp [h0]
    rw [if_neg h0] at HE
    clear h0
    go_wp2_with fail
    go_ret
    exact ⟨by rw [HE.out]; rfl, HB1.out⟩

end Go.Proofs.YtbncnkfogkhoeaaGreatDoor

/- Walks over package downref: Things. -/
namespace Go.Proofs.YtbncnkfogkhoeaaGreatDoor
open Go.RowKit

set_option maxHeartbeats 2000000 in
set_option maxRecDepth 100000 in
theorem things_any (m : Nat) (w : World) (vn vl vi vv vf vk : Value) (ss : List ByteArray) (G : Nat) (L : Nat → Nat) (Z : Nat → Nat → Bool) (x : Mo) (known : List Mo) (hS : Strs w vn ss) (hR : Rag w vl G L Z) (h : MoAt w m (.agg #[.string x.name, vi, vv, vf]) x) (hK : MosAt w m vk known)
    (hw : moW m x ≤ 1048576) (hks : ∀ y ∈ known, moW m y ≤ 1048576) (ht : Tab w) :
    Calls Tryz.prog 9 #[.agg #[vn, vl], .agg #[.string x.name, vi, vv, vf], vk] w fun e w' => e = .returned (.int .i64 (Nm.thE (Lat.checkE ss G L Z) m x known)) ∧ Below w.heap.size w w' := by
  have HL := hide (fun wx (hb : Below w.heap.size w wx) => rlattice_any wx vn vl ss G L Z (hS.below hb) (hR.below hb))
  have HM := hide (fun wx (hb : Below w.heap.size w wx) => rmodule_any m wx _ x (h.below hb) hw (ht.below hb))
  have HT := hide ht
  have HKS := hide hks
  obtain ⟨hI, hV, hF⟩ := h.split
  obtain ⟨an, bn, on, cn, rfl, -⟩ := hS
  obtain ⟨ai, bi, oi, ci, rfl, -⟩ := hI
  obtain ⟨av, bv, ov, cv, rfl, -⟩ := hV
  obtain ⟨af, bf, of, cf, rfl, -⟩ := hF
  obtain ⟨ak, bk, ok, ck, rfl, hak, hlk, hck⟩ := hK
  have HCK : Hid (MoEl w m bk ok known) := hck
  have HAK := hide hak
  obtain ⟨nk, hnk⟩ : ∃ n, n = known.length := ⟨_, rfl⟩
  have HNK := hide hnk
  rw [← hnk] at hlk HAK ⊢
  obtain ⟨e0, he0⟩ : ∃ e, e = Lat.checkE ss G L Z := ⟨_, rfl⟩
  rw [← he0] at HL ⊢
  obtain ⟨e1, he1⟩ : ∃ e, e = Lat.moE m x := ⟨_, rfl⟩
  rw [← he1] at HM
  have HE : Hid (Nm.thE e0 m x known = if e0 = 0 then (if e1 = 0 then Nm.mosE m known else e1) else e0) := hide (by rw [he1]; rfl)
  obtain ⟨R, hRR⟩ : ∃ R, R = Nm.thE e0 m x known := ⟨_, rfl⟩
  rw [← hRR] at HE ⊢
  generalize x.imports.length = ni at *
  generalize x.vars.length = nv at *
  generalize x.funs.length = nf at *
  generalize ss.length = nn at *
  obtain ⟨vl', hvl⟩ : ∃ v, v = vl := ⟨_, rfl⟩
  obtain ⟨b0, b1, hb0⟩ := al2 w (.cells #[.slice an nn cn, vl] 34) (.cells #[.string x.name, .slice ai ni ci, .slice av nv cv, .slice af nf cf] 26)
  have HBL := hide hb0
  have q0 := (block_at b0 0).trans (rfl : _ = some (Value.slice an nn cn))
  have q1 := (block_at b0 1).trans (rfl : _ = some vl)
  have r0 := (block_at b1 0).trans (rfl : _ = some (Value.string x.name))
  have r1 := (block_at b1 1).trans (rfl : _ = some (Value.slice ai ni ci))
  have r2 := (block_at b1 2).trans (rfl : _ = some (Value.slice av nv cv))
  have r3 := (block_at b1 3).trans (rfl : _ = some (Value.slice af nf cf))
  clear h hR ht hks hak hck hnk he0 he1 hRR hvl b0 b1 hb0
  go_enter Tryz.func9, Tryz.ntmps9
  go_wp2_with fail
  generalize ((w.alloc (.cells #[.slice an nn cn, vl] 34)).alloc (.cells #[.string x.name, .slice ai ni ci, .slice av nv cv, .slice af nf cf] 26)) = W0 at *
  refine (HL.out _ HBL.out).mono ?_
  rintro e w1 ⟨rfl, hb1⟩
  have HB1 := hide (up HBL.out hb1)
  replace r0 := cellUp r0 hb1
  replace r1 := cellUp r1 hb1
  replace r2 := cellUp r2 hb1
  replace r3 := cellUp r3 hb1
  clear hb1 q0 q1
  by_cases h0 : e0 = 0
  · subst h0
    rw [if_pos rfl] at HE
    go_wp2_with fail
    refine (HM.out _ HB1.out).mono ?_
    rintro e w2 ⟨rfl, hb2⟩
    have HB2 := hide (up HB1.out hb2)
    clear hb2 r0 r1 r2 r3
    by_cases h1 : e1 = 0
    · subst h1
      rw [if_pos rfl] at HE
      go_wp2_with fail
      go_loopw [9] (fun i wr => ∃ j : Nat, j ≤ nk ∧ i = .int .i64 j ∧ (∀ (q : Nat) y, q < j → known[q]? = some y → Lat.moE m y = 0) ∧ Below w.heap.size w wr) (fun i _ => nk - (intOf i).toNat)
      case atStart => exact ⟨0, Nat.zero_le _, rfl, fun q y hq => absurd hq (Nat.not_lt_zero _), HB2.out⟩
      case round =>
        obtain ⟨j, hj, rfl, hall, hnx⟩ := hrel
        have HALL := hide hall
        have HNX := hide hnx
        clear hall
        by_cases hjl : j < nk
        · obtain ⟨y, hy⟩ : ∃ y, known[j]? = some y := ⟨_, List.getElem?_eq_getElem (by rw [← HNK.out]; exact hjl)⟩
          obtain ⟨yi, yv, yf, g0, g1, g2, g3, hmy⟩ := HCK.out j y hy
          obtain rfl := HAK.out (by omega)
          have HY := hide hy
          replace g0 := cellUp g0 hnx
          replace g1 := cellUp g1 hnx
          replace g2 := cellUp g2 hnx
          replace g3 := cellUp g3 hnx
          have HCY := hide (rmodule_any m wr _ y (hmy.below hnx) (HKS.out y (List.mem_of_getElem? hy)) (HT.out.below hnx))
          obtain ⟨hyI, hyV, hyF⟩ := hmy.split
          obtain ⟨a1, b1, o1, c1, rfl, -⟩ := hyI
          obtain ⟨a2, b2, o2, c2, rfl, -⟩ := hyV
          obtain ⟨a3, b3, o3, c3, rfl, -⟩ := hyF
          obtain ⟨ey, hey⟩ : ∃ e, e = Lat.moE m y := ⟨_, rfl⟩
          have HEY := hide hey
          rw [← hey] at HCY
          generalize y.imports.length = n1 at *
          generalize y.vars.length = n2 at *
          generalize y.funs.length = n3 at *
          clear hy hmy hnx hey
          go_wp2_with fail
          refine HCY.out.mono ?_
          rintro e w5 ⟨rfl, hb5⟩
          have HB6 := hide (up HNX.out hb5)
          clear hb5 g0 g1 g2 g3
          by_cases h2 : ey = 0
          · have HE2 : Hid (Lat.moE m y = 0) := hide (by rw [← HEY.out]; exact h2)
            subst h2
            go_wp2_with fail
            go_roundw
            case rel => exact ⟨j + 1, by omega, by go_num, fun q z hq hz => by
                by_cases e : q = j
                · subst e; rw [HY.out] at hz; cases hz; exact HE2.out
                · exact HALL.out q z (by omega) hz, HB6.out⟩
            case measure => simp [intOf]; omega
          · have h2' : (ey == 0) = false := by simp [h2]
            have HRE : Hid (R = ey) := hide (by rw [HE.out, HEY.out]; exact Nm.mosE_first HY.out HALL.out (by rw [← HEY.out]; exact h2))
            clear h2
            go_wp2_with fail
            go_ret
            exact ⟨by rw [HRE.out]; rfl, HB6.out⟩
        · have HRE : Hid (R = 0) := hide (by
            rw [HE.out]
            refine Nm.mosE_all fun y hy => ?_
            obtain ⟨i, hi, rfl⟩ := List.mem_iff_getElem.1 hy
            exact HALL.out i _ (by have := HNK.out; omega) (List.getElem?_eq_getElem hi))
          clear hnx
          go_wp2_with fail
          go_ret
          exact ⟨by rw [HRE.out]; rfl, HNX.out⟩
    · have h1' : (e1 == 0) = false := by simp [h1]
      rw [if_neg h1] at HE
      clear h1
      go_wp2_with fail
      go_ret
      exact ⟨by rw [HE.out]; rfl, HB2.out⟩
  · have h0' : (e0 == 0) = false := by simp [h0]
    rw [if_neg h0] at HE
    clear h0
    go_wp2_with fail
    go_ret
    exact ⟨by rw [HE.out]; rfl, HB1.out⟩

end Go.Proofs.YtbncnkfogkhoeaaGreatDoor

/- Rows that stay where diagnostics are told, or other rows grow. -/
namespace Go.Proofs.YtbncnkfogkhoeaaGreatDoor
open Go.RowKit

section
variable {α : Type} {At : List Value → α → Prop} {w w' : World} {n e k : Nat} {v : Value} {l : List α}
theorem OwnK.tells {p : Nat} (h : OwnK At w n e k v l) (hT : Tells p w w') (he : e ≠ 43) (hp : v.ownBlock ≠ some p) : OwnK At w' n e k v l := by
  obtain ⟨cs, ⟨h0, h1⟩, h2⟩ := h
  refine ⟨cs, ⟨h0, ?_⟩, h2⟩
  rcases h1 with h1 | ⟨g, cap, cur, hv, hg, hh, r⟩
  · exact Or.inl h1
  · exact Or.inr ⟨g, cap, cur, hv, hg, hT.at (fun e' => hp (by rw [hv, e']; rfl)) hh he, r⟩
theorem OwnK.grown {r : Option Nat} (h : OwnK At w n e k v l) (hG : w.grownBy w' r) (hr : ∀ g, v.ownBlock = some g → r ≠ some g) : OwnK At w' n e k v l := by
  have hlt := h.lt
  obtain ⟨cs, ⟨h0, h1⟩, h2⟩ := h
  refine ⟨cs, ⟨h0, ?_⟩, h2⟩
  rcases h1 with h1 | ⟨g, cap, cur, hv, hg, hh, r'⟩
  · exact Or.inl h1
  · exact Or.inr ⟨g, cap, cur, hv, hg, by rw [hG.block g (block_lt hh) (fun e' => hr g (by rw [hv]; rfl) e'.symm)]; exact hh, r'⟩
/-- Rows of two types are apart. -/
theorem OwnK.other {α' : Type} {At' : List Value → α' → Prop} {n' e' k' : Nat} {v' : Value} {l' : List α'} (h : OwnK At w n e k v l) (h' : OwnK At' w n' e' k' v' l') (he : e ≠ e') : ∀ g, v.ownBlock = some g → v'.ownBlock ≠ some g := fun g hg hg' => by
  obtain ⟨cur, hc⟩ := h.typ hg
  obtain ⟨cur', hc'⟩ := h'.typ hg'
  rw [hc] at hc'
  simp at hc'
  exact he hc'.2
end
theorem Told.apart {α : Type} {At : List Value → α → Prop} {w : World} {n p n' e k : Nat} {v : Value} {l : List Dg} {l' : List α} (h : Told w n p l) (h' : OwnK At w n' e k v l') (he : e ≠ 37) : v.ownBlock ≠ some p := by
  obtain ⟨_, u, h1, _⟩ := h
  exact h'.apart h1 (fun e' => he e'.symm)
theorem Told.grown {α : Type} {At : List Value → α → Prop} {w w' : World} {n p n' e k : Nat} {v : Value} {l : List Dg} {l' : List α} (h : Told w n p l) (h' : OwnK At w n' e k v l') (hG : w.grownBy w' v.ownBlock) (he : e ≠ 37) (hd : e ≠ 43) : Told w' n p l := by
  have ha := h.apart h' he
  obtain ⟨h0, u, h1, h2⟩ := h
  exact ⟨h0, u, by rw [hG.block p (block_lt h1) (fun e' => ha e'.symm)]; exact h1, h2.grown hG (fun g hg => h2.other h' (fun e' => hd e'.symm) g hg)⟩
theorem Tells.grown {p : Nat} {w w1 w2 : World} {r : Option Nat} (h : Tells p w w1) (hG : w1.grownBy w2 r) (hr : ∀ g, r = some g → w.heap.size ≤ g) : Tells p w w2 :=
  ⟨Nat.le_trans h.size hG.size, fun k hk hp hd => by
    rw [hG.block k (Nat.lt_of_lt_of_le hk h.size) (fun e => by have := hr k e.symm; omega)]
    exact h.block k hk hp hd⟩

end Go.Proofs.YtbncnkfogkhoeaaGreatDoor

/- Walks over package names: Target. -/
namespace Go.Proofs.YtbncnkfogkhoeaaGreatDoor
open Go.RowKit

set_option maxHeartbeats 1000000 in
theorem ntarget_any (m : Nat) (w : World) (vi vv vf vk : Value) (x : Mo) (known : List Mo) (k : Nat) (call : ByteArray) (h : MoAt w m (.agg #[.string x.name, vi, vv, vf]) x) (hK : MosAt w m vk known) (hC : MoCap w vi vf) (hk : k ≤ x.funs.length) (hc : call.size ≤ maxLen) (hli : x.imports.length ≤ 1048576) :
    Calls Tryz.prog 13 #[.agg #[.string x.name, vi, vv, vf], .int .i64 k, .string call, vk] w fun e w' => e = .returned (.tuple #[.int .i64 (Nm.ptgt x k call known).1, .int .i64 (Nm.ptgt x k call known).2.1, .bool (Nm.ptgt x k call known).2.2]) ∧ Below w.heap.size w w' := by
  have HM := hide h
  have HK := hide hK
  have HSC := hide (fun wx (hb : Below w.heap.size w wx) => newScope_any m wx _ _ _ _ x known (h.below hb) (hK.below hb) hli)
  have HST := hide (fun wx (hb : Below w.heap.size w wx) va (hI : Ints wx va (x.imports.map fun s => Nm.oI (Nm.moAt known s))) => starget_any m wx x known vi vv vf vk va k call ⟨h.below hb, hK.below hb, hI, hC.fus⟩ hk hc)
  have HBX := fun i v hv => boxD w #[.string x.name, vi, vv, vf] 26 i v hv
  have r0 := HBX 0 _ rfl
  have r1 := HBX 1 _ rfl
  have r2 := HBX 2 _ rfl
  have r3 := HBX 3 _ rfl
  have HB0 := hide (boxBelow w (.cells #[.string x.name, vi, vv, vf] 26))
  obtain ⟨R, hR⟩ : ∃ R, R = Nm.ptgt x k call known := ⟨_, rfl⟩
  rw [← hR] at HST ⊢
  obtain ⟨hI, hV, hF⟩ := h.split
  obtain ⟨ai, bi, oi, ci, rfl, -⟩ := hI
  obtain ⟨av, bv, ov, cv, rfl, -⟩ := hV
  obtain ⟨af, bf, of, cf, rfl, -⟩ := hF
  obtain ⟨ak, bk, ok, ck, rfl, -⟩ := hK
  generalize x.imports.length = ni at *
  generalize x.vars.length = nv at *
  generalize x.funs.length = nf at *
  generalize known.length = nk at *
  clear h hC HBX hR
  go_enter Tryz.func13, Tryz.ntmps13
  go_wp2_with fail
  refine (HSC.out _ HB0.out).mono ?_
  rintro e w1 ⟨va, rfl, hints, hb1⟩
  have HIN := hide hints
  have HB1 := hide (up HB0.out hb1)
  clear r0 r1 r2 r3 hb1 hints
  go_wp2_with fail
  refine (HST.out _ HB1.out _ HIN.out).mono ?_
  rintro e w2 ⟨rfl, hb2⟩
  have HB2 := hide (up HB1.out hb2)
  clear hb2
  go_wp2_with fail
  go_ret3
  exact ⟨rfl, HB2.out⟩

end Go.Proofs.YtbncnkfogkhoeaaGreatDoor

/- Walks over the library: slices.Equal of diagnostics that are the same. -/
namespace Go.Proofs.YtbncnkfogkhoeaaGreatDoor
open Go.RowKit

theorem sameD_self (d : Dg) : Nm.sameD d d = true := Nm.sameD_iff.2 rfl
set_option maxHeartbeats 1000000 in
set_option maxRecDepth 100000 in
theorem eqD_same (w : World) (va vb : Value) (l : List Dg) (ha : DgsAt w va l) (hb : DgsAt w vb l) :
    Calls Tryz.prog 12 #[va, vb] w fun e w' => e = .returned (.bool true) ∧ Below w.heap.size w w' := by
  obtain ⟨a, b, off, cap, rfl, h0, hl, hel⟩ := ha
  obtain ⟨a', b', off', cap', rfl, h0', -, hel'⟩ := hb
  have HEL := hide hel
  have HEL' := hide hel'
  have HA := hide h0
  have HA' := hide h0'
  obtain ⟨len, hlen⟩ : ∃ n, n = l.length := ⟨_, rfl⟩
  have HL := hide hlen
  rw [← hlen] at hl HA HA' ⊢
  clear hel hel' h0 h0' hlen
  go_enter Tryz.func12, Tryz.ntmps12
  go_wp2_with fail
  go_loopw [5, 13] (fun _ i wx => ∃ j : Nat, j ≤ len ∧ i = .int .i64 j ∧ ∃ n, wx = w.drewN n) (fun _ i _ => len - (intOf i).toNat)
  case atStart => exact ⟨0, Nat.zero_le _, rfl, 0, rfl⟩
  case round =>
    obtain ⟨j, hj, rfl, n, rfl⟩ := hrel
    by_cases hjl : j < len
    · obtain ⟨d, hd⟩ : ∃ d, l[j]? = some d := ⟨_, List.getElem?_eq_getElem (by rw [← HL.out]; exact hjl)⟩
      obtain ⟨p0, p1, p2⟩ := HEL.out j d hd
      obtain ⟨q0, q1, q2⟩ := HEL'.out j d hd
      obtain rfl := HA.out (by omega)
      obtain rfl := HA'.out (by omega)
      have heq : ∀ w, Sem.run Tryz.prog (Op.equalIn 10000 43 (.agg #[.int .i64 d.code, .string d.fn, .string d.name]) (.agg #[.int .i64 d.code, .string d.fn, .string d.name])) w = .ok true w := fun w => by rw [eqIn_dg d d w, sameD_self]
      have hgd : ∀ op a b w, Sem.run Tryz.prog (eqGuard op 43 a b (.agg #[.int .i64 d.code, .string d.fn, .string d.name]) (.agg #[.int .i64 d.code, .string d.fn, .string d.name])) w = .ok () w := fun op a b w => guard_dg op a b d d w
      clear hd
      go_wp2_with fail
      go_quiet (fail)
      go_wp2_with fail
      go_roundw
      case rel => exact ⟨j + 1, by omega, by go_num, n + nq, by rw [← World.drewN_drewN]⟩
      case measure => simp [intOf]; omega
    · go_wp2_with fail
      go_ret
      exact ⟨rfl, below_drew (Below.refl _ _)⟩

end Go.Proofs.YtbncnkfogkhoeaaGreatDoor

/- The document's answer and the program's tell the same: plain mathematics. -/
namespace Go.Proofs.YtbncnkfogkhoeaaGreatDoor
open Go.RowKit

namespace Nm
theorem mem_calls (m : Nat) : ∀ (x y : Ex), y ∈ calls m x ↔ y ∈ pcalls m x := by
  induction m with
  | zero => intro x y; simp [calls, pcalls]
  | succ m ih =>
    intro x y
    simp only [calls, pcalls, List.mem_append, List.mem_flatMap]
    constructor
    · rintro (⟨a, ha, hy⟩ | h)
      · exact Or.inr ⟨a, ha, (ih a y).1 hy⟩
      · exact Or.inl h
    · rintro (h | ⟨a, ha, hy⟩)
      · exact Or.inr h
      · exact Or.inl ⟨a, ha, (ih a y).2 hy⟩
theorem index_same {l : List ByteArray} {s : ByteArray} {i : Nat} (h : Lat.indexI l s = (i : Int)) : l.getD i ByteArray.empty = s := by
  unfold Lat.indexI at h
  cases hf : (List.range l.length).find? (Lat.isAt l s) with
  | none => rw [hf] at h; simp at h
  | some j =>
    rw [hf] at h
    have hji : j = i := by simp at h; omega
    subst hji
    have := List.find?_some hf
    unfold Lat.isAt at this
    rw [beq_iff_eq] at this
    exact (toList_inj this).symm
theorem fnd_fst {a : Int} {l : List Fu} {s : ByteArray} {n : Nat} : (fnd a l s n).2.2 = (fnAt l s n).isSome := by
  unfold fnd; cases fnAt l s n <;> rfl
/-- What a call means: both say the same where there is one. -/
theorem tgt_ptgt (x : Mo) (k : Nat) (call : ByteArray) (known : List Mo) : (tgt x k call known).2.2 = (ptgt x k call known).2.2 ∧ ((tgt x k call known).2.2 = true → tgt x k call known = ptgt x k call known) := by
  cases hd : Lat.dotAt call with
  | none =>
    have e : ptgt x k call known = fnd (-1) x.funs call k := by simp [ptgt, hd]
    rw [e]
    unfold fnd
    cases hf : fnAt x.funs call k with
    | none => rw [tgt_here0 hd hf]; exact ⟨rfl, fun h => by simp at h⟩
    | some i => rw [tgt_here hd hf]; exact ⟨rfl, fun _ => rfl⟩
  | some d =>
    rcases idx_cases x.imports (Lat.preS call) with hi | ⟨i, hi, _⟩
    · have e : ptgt x k call known = (0, 0, false) := by simp [ptgt, hd, hi]
      rw [e, tgt_notI hd (by rw [hi]; rfl)]
      exact ⟨rfl, fun h => by simp at h⟩
    · have hs := index_same hi
      have hi0 : decide (0 ≤ Lat.indexI x.imports (Lat.preS call)) = true := by rw [hi]; simp
      cases hm : moAt known (Lat.preS call) with
      | none =>
        rw [ptgt_noM hd hi (by rw [hs]; exact hm), tgt_noM hd hi0 hm]
        exact ⟨rfl, fun h => by simp at h⟩
      | some a =>
        obtain ⟨y, hy, _⟩ := moAt_lt hm
        rw [ptgt_fn hd hi (by rw [hs]; exact hm) hy]
        unfold fnd
        cases hf : fnAt y.funs (Lat.sufS call) y.funs.length with
        | none => rw [tgt_nofn hd hi0 hm hy hf]; exact ⟨rfl, fun h => by simp at h⟩
        | some j => rw [tgt_fn hd hi0 hm hy hf]; exact ⟨rfl, fun _ => rfl⟩
/-- What Names tells of a call. -/
def rC (x : Mo) (known : List Mo) (k : Nat) (fn : ByteArray) (y : Ex) : List Dg := if (tgt x k y.name known).2.2 = false then [⟨4, fn, y.name⟩] else match pfun x known (tgt x k y.name known) with
  | some g => if g.params.length = y.args.length then [] else [⟨5, fn, y.name⟩]
  | none => []
theorem rC_clE (x : Mo) (known : List Mo) (k : Nat) (fn : ByteArray) (y : Ex) : rC x known k fn y = clE x known k fn y := by
  obtain ⟨h1, h2⟩ := tgt_ptgt x k y.name known
  cases ht : (tgt x k y.name known).2.2 with
  | false =>
    rw [ht] at h1
    have hc : code x known k y.name y.args.length = 4 := by unfold code; rw [if_pos h1.symm]
    unfold rC clE
    rw [if_pos ht, hc, if_neg (by decide)]
  | true =>
    rw [ht] at h1
    have hp := h2 ht
    cases hf : pfun x known (ptgt x k y.name known) with
    | none =>
      have hc : code x known k y.name y.args.length = 0 := by unfold code; rw [if_neg (by rw [← h1]; simp), hf]
      unfold rC clE
      rw [if_neg (by rw [ht]; simp), hp, hf, hc, if_pos rfl]
    | some g =>
      by_cases hg : g.params.length = y.args.length
      · have hc : code x known k y.name y.args.length = 0 := by unfold code; rw [if_neg (by rw [← h1]; simp), hf]; simp only; rw [if_pos hg]
        unfold rC clE
        rw [if_neg (by rw [ht]; simp), hp, hf, hc, if_pos rfl]
        simp only
        rw [if_pos hg]
      · have hc : code x known k y.name y.args.length = 5 := by unfold code; rw [if_neg (by rw [← h1]; simp), hf]; simp only; rw [if_neg hg]
        unfold rC clE
        rw [if_neg (by rw [ht]; simp), hp, hf, hc, if_neg (by decide)]
        simp only
        rw [if_neg hg]
end Nm

end Go.Proofs.YtbncnkfogkhoeaaGreatDoor

/- The document's answer and the program's tell the same of a whole module: plain mathematics. -/
namespace Go.Proofs.YtbncnkfogkhoeaaGreatDoor
open Go.RowKit

namespace Nm
/-- What Names tells of an import. -/
def rI (x : Mo) (known : List Mo) (i : Nat) (s : ByteArray) : List Dg := (if (!(known.any fun y => sameB y.name s) || sameB s x.name) = true then [⟨1, ⟨#[]⟩, s⟩] else []) ++ (if inB (x.imports.take i) s = true then [⟨2, ⟨#[]⟩, s⟩] else [])
/-- .. of a variable. -/
def rV (names : List ByteArray) (x : Mo) (i : Nat) (v : Va) : List Dg := lev names ⟨#[]⟩ v.level ++ upto (atD x.vars fun _ u => if sameB u.name v.name = true then [(⟨2, ⟨#[]⟩, v.name⟩ : Dg)] else []) i
def rVs (names : List ByteArray) (x : Mo) : List Dg := upto (atD x.vars (rV names x)) x.vars.length
/-- .. of a function. -/
def rF6 (x : Mo) (k : Nat) (f : Fu) : List Dg := upto (atD x.funs fun _ g => if sameB g.name f.name = true then [(⟨2, ⟨#[]⟩, f.name⟩ : Dg)] else []) k
def rF8 (names : List ByteArray) (m : Nat) (f : Fu) : List Dg := (all m f.body).flatMap (levS names f.name)
def rF9 (x : Mo) (known : List Mo) (m k : Nat) (f : Fu) : List Dg := (calls m f.result ++ (all m f.body).flatMap fun s => calls m s.e).flatMap (rC x known k f.name)
def rFs (names : List ByteArray) (x : Mo) (known : List Mo) (m : Nat) : List Dg := upto (atD x.funs fun k f => rF6 x k f ++ twA f.name f.params ++ rF8 names m f ++ rF9 x known m k f) x.funs.length
def rIs (x : Mo) (known : List Mo) : List Dg := upto (atD x.imports (rI x known)) x.imports.length

theorem mem_atD {α : Type} {l : List α} {f : Nat → α → List Dg} {d : Dg} : d ∈ upto (atD l f) l.length ↔ ∃ (i : Nat) (x : α), l[i]? = some x ∧ d ∈ f i x := by
  rw [mem_upto]
  constructor
  · rintro ⟨i, hi, hd⟩
    rw [atD_some (List.getElem?_eq_getElem hi)] at hd
    exact ⟨i, _, List.getElem?_eq_getElem hi, hd⟩
  · rintro ⟨i, x, hx, hd⟩
    exact ⟨i, (List.getElem?_eq_some_iff.1 hx).1, by rw [atD_some hx]; exact hd⟩
theorem any_moAt (known : List Mo) (s : ByteArray) : (!(known.any fun y => sameB y.name s)) = (moAt known s).isNone := by
  cases hm : moAt known s with
  | some a =>
    obtain ⟨y, hy, hs⟩ := moAt_lt hm
    have : (known.any fun y => sameB y.name s) = true := List.any_eq_true.2 ⟨y, List.mem_of_getElem? hy, hs⟩
    rw [this]; rfl
  | none =>
    have : (known.any fun y => sameB y.name s) = false := by
      rw [List.any_eq_false]
      intro y hy hs
      obtain ⟨i, hi, rfl⟩ := List.mem_iff_getElem.1 hy
      unfold moAt at hm
      rw [List.find?_eq_none] at hm
      have := hm i (List.mem_range.2 hi)
      rw [List.getElem?_eq_getElem hi] at this
      exact this hs
    rw [this]; rfl
theorem inB_iff (l : List ByteArray) (s : ByteArray) : inB l s = true ↔ s ∈ l := by
  unfold inB
  rw [decide_eq_true_iff]
  constructor
  · intro h
    rcases idx_cases l s with hi | ⟨i, hi, hil⟩
    · rw [hi] at h; omega
    · have := index_same hi
      rw [List.getD_eq_getElem?_getD, List.getElem?_eq_getElem hil] at this
      rw [← this]
      exact List.getElem_mem hil
  · intro h
    rcases idx_cases l s with hi | ⟨i, hi, hil⟩
    · exfalso
      unfold Lat.indexI at hi
      cases hf : (List.range l.length).find? (Lat.isAt l s) with
      | some j => rw [hf] at hi; simp at hi
      | none =>
        rw [List.find?_eq_none] at hf
        obtain ⟨i, hi', rfl⟩ := List.mem_iff_getElem.1 h
        have := hf i (List.mem_range.2 hi')
        unfold Lat.isAt at this
        simp [List.getD_eq_getElem?_getD, hi'] at this
    · rw [hi]; omega
theorem mem_twA {fn : ByteArray} {l : List ByteArray} {d : Dg} : d ∈ twA fn l ↔ ∃ (i : Nat) (s : ByteArray), l[i]? = some s ∧ s ∈ l.take i ∧ d = ⟨2, fn, s⟩ := by
  unfold twA
  rw [mem_atD]
  constructor
  · rintro ⟨i, s, hs, hd⟩
    split at hd
    · rename_i h; exact ⟨i, s, hs, (inB_iff _ _).1 h, by simpa using hd⟩
    · simp at hd
  · rintro ⟨i, s, hs, h, rfl⟩
    exact ⟨i, s, hs, by rw [if_pos ((inB_iff _ _).2 h)]; simp⟩
/-- Names ahead of a place, by their lists. -/
theorem mem_ahead {α : Type} {l : List α} {nm : α → ByteArray} {i : Nat} {v : α} (hi : l[i]? = some v) {d : Dg} : d ∈ upto (atD l fun _ u => if sameB (nm u) (nm v) = true then [(⟨2, ⟨#[]⟩, nm v⟩ : Dg)] else []) i ↔ nm v ∈ (l.map nm).take i ∧ d = ⟨2, ⟨#[]⟩, nm v⟩ := by
  have hil : i ≤ l.length := Nat.le_of_lt (List.getElem?_eq_some_iff.1 hi).1
  rw [mem_upto]
  constructor
  · rintro ⟨k, hk, hd⟩
    have hkl : k < l.length := by omega
    rw [atD_some (List.getElem?_eq_getElem hkl)] at hd
    split at hd
    · rename_i h
      have e : nm l[k] = nm v := toList_inj (by unfold sameB at h; rwa [beq_iff_eq] at h)
      refine ⟨?_, by simpa using hd⟩
      rw [← e, ← List.map_take]
      exact List.mem_map.2 ⟨l[k], List.mem_take_iff_getElem.2 ⟨k, by omega, rfl⟩, rfl⟩
    · simp at hd
  · rintro ⟨h, rfl⟩
    rw [← List.map_take] at h
    obtain ⟨u, hu, e⟩ := List.mem_map.1 h
    obtain ⟨k, hk, rfl⟩ := List.mem_take_iff_getElem.1 hu
    refine ⟨k, by omega, ?_⟩
    rw [atD_some (List.getElem?_eq_getElem (by omega)), if_pos (by unfold sameB; rw [beq_iff_eq, e])]
    simp
theorem mem_tw_of {α : Type} {l : List α} {nm : α → ByteArray} {d : Dg} : d ∈ twA ⟨#[]⟩ (l.map nm) ↔ ∃ (i : Nat) (v : α), l[i]? = some v ∧ nm v ∈ (l.map nm).take i ∧ d = ⟨2, ⟨#[]⟩, nm v⟩ := by
  rw [mem_twA]
  constructor
  · rintro ⟨i, s, hs, h, e⟩
    rw [List.getElem?_map] at hs
    cases hv : l[i]? with
    | none => rw [hv] at hs; simp at hs
    | some v => rw [hv] at hs; simp at hs; subst hs; exact ⟨i, v, hv, h, e⟩
  · rintro ⟨i, v, hv, h, e⟩
    exact ⟨i, nm v, by rw [List.getElem?_map, hv]; rfl, h, e⟩
theorem mem_rIs (x : Mo) (known : List Mo) (d : Dg) : d ∈ rIs x known ↔ d ∈ imD x known ∨ d ∈ twA ⟨#[]⟩ x.imports := by
  unfold rIs imD
  rw [mem_atD, mem_atD, mem_twA]
  constructor
  · rintro ⟨i, s, hs, hd⟩
    unfold rI at hd
    rcases List.mem_append.1 hd with hd | hd
    · rw [any_moAt, Bool.or_comm] at hd
      exact Or.inl ⟨i, s, hs, hd⟩
    · split at hd
      · rename_i h; exact Or.inr ⟨i, s, hs, (inB_iff _ _).1 h, by simpa using hd⟩
      · simp at hd
  · rintro (⟨i, s, hs, hd⟩ | ⟨i, s, hs, h, rfl⟩)
    · refine ⟨i, s, hs, ?_⟩
      unfold rI
      rw [any_moAt, Bool.or_comm]
      exact List.mem_append.2 (Or.inl hd)
    · refine ⟨i, s, hs, ?_⟩
      unfold rI
      exact List.mem_append.2 (Or.inr (by rw [if_pos ((inB_iff _ _).2 h)]; simp))
theorem mem_rVs (names : List ByteArray) (x : Mo) (d : Dg) : d ∈ rVs names x ↔ (d ∈ x.vars.flatMap fun v => lev names ⟨#[]⟩ v.level) ∨ d ∈ twA ⟨#[]⟩ (x.vars.map (·.name)) := by
  unfold rVs
  rw [mem_atD, mem_tw_of, List.mem_flatMap]
  constructor
  · rintro ⟨i, v, hv, hd⟩
    unfold rV at hd
    rcases List.mem_append.1 hd with hd | hd
    · exact Or.inl ⟨v, List.mem_of_getElem? hv, hd⟩
    · exact Or.inr ⟨i, v, hv, (mem_ahead (nm := (·.name)) hv).1 hd⟩
  · rintro (⟨v, hv, hd⟩ | ⟨i, v, hv, hd⟩)
    · obtain ⟨i, hi, rfl⟩ := List.mem_iff_getElem.1 hv
      exact ⟨i, _, List.getElem?_eq_getElem hi, List.mem_append.2 (Or.inl hd)⟩
    · exact ⟨i, v, hv, List.mem_append.2 (Or.inr ((mem_ahead (nm := (·.name)) hv).2 hd))⟩
theorem mem_rF9 (x : Mo) (known : List Mo) (m k : Nat) (f : Fu) (d : Dg) : d ∈ rF9 x known m k f ↔ d ∈ (fcalls m f).flatMap (clE x known k f.name) := by
  unfold rF9 fcalls
  simp only [List.mem_flatMap, List.mem_append, rC_clE, mem_calls]
  constructor
  · rintro ⟨y, hy, hd⟩; exact ⟨y, hy.symm, hd⟩
  · rintro ⟨y, hy, hd⟩; exact ⟨y, hy.symm, hd⟩
/-- Both sides tell the same. -/
theorem mem_both (names : List ByteArray) (x : Mo) (known : List Mo) (m : Nat) (d : Dg) : d ∈ rIs x known ++ rVs names x ++ rFs names x known m ↔ d ∈ prL names x known m := by
  have hF : d ∈ rFs names x known m ↔ d ∈ twA ⟨#[]⟩ (x.funs.map (·.name)) ∨ (d ∈ x.funs.flatMap fun f => twA f.name f.params) ∨ (d ∈ x.funs.flatMap fun f => (all m f.body).flatMap (levS names f.name)) ∨ d ∈ clD x known m := by
    unfold rFs clD
    rw [mem_atD, mem_atD, mem_tw_of, List.mem_flatMap, List.mem_flatMap]
    constructor
    · rintro ⟨k, f, hf, hd⟩
      rcases List.mem_append.1 hd with hd | hd
      · rcases List.mem_append.1 hd with hd | hd
        · rcases List.mem_append.1 hd with hd | hd
          · exact Or.inl ⟨k, f, hf, (mem_ahead (nm := (·.name)) hf).1 hd⟩
          · exact Or.inr (Or.inl ⟨f, List.mem_of_getElem? hf, hd⟩)
        · exact Or.inr (Or.inr (Or.inl ⟨f, List.mem_of_getElem? hf, hd⟩))
      · exact Or.inr (Or.inr (Or.inr ⟨k, f, hf, (mem_rF9 x known m k f d).1 hd⟩))
    · rintro (⟨k, f, hf, hd⟩ | ⟨f, hf, hd⟩ | ⟨f, hf, hd⟩ | ⟨k, f, hf, hd⟩)
      · exact ⟨k, f, hf, List.mem_append.2 (Or.inl (List.mem_append.2 (Or.inl (List.mem_append.2 (Or.inl ((mem_ahead (nm := (·.name)) hf).2 hd))))))⟩
      · obtain ⟨k, hk, rfl⟩ := List.mem_iff_getElem.1 hf
        exact ⟨k, _, List.getElem?_eq_getElem hk, List.mem_append.2 (Or.inl (List.mem_append.2 (Or.inl (List.mem_append.2 (Or.inr hd)))))⟩
      · obtain ⟨k, hk, rfl⟩ := List.mem_iff_getElem.1 hf
        exact ⟨k, _, List.getElem?_eq_getElem hk, List.mem_append.2 (Or.inl (List.mem_append.2 (Or.inr hd)))⟩
      · exact ⟨k, f, hf, List.mem_append.2 (Or.inr ((mem_rF9 x known m k f d).2 hd))⟩
  unfold prL twD lvD
  simp only [List.flatten_cons, List.flatten_nil, List.append_nil, List.mem_append]
  rw [mem_rIs, mem_rVs, hF]
  generalize (d ∈ imD x known) = a
  generalize (d ∈ twA ⟨#[]⟩ x.imports) = b
  generalize (d ∈ twA ⟨#[]⟩ (x.vars.map (·.name))) = c
  generalize (d ∈ twA ⟨#[]⟩ (x.funs.map (·.name))) = e
  generalize (d ∈ x.vars.flatMap fun v => lev names ⟨#[]⟩ v.level) = f
  generalize (d ∈ x.funs.flatMap fun f => twA f.name f.params) = g
  generalize (d ∈ x.funs.flatMap fun f => (all m f.body).flatMap (levS names f.name)) = h
  generalize (d ∈ clD x known m) = i
  constructor
  · rintro (((h | h) | (h | h)) | h | h | h | h) <;> simp [h]
  · rintro (h | ((h | h | h) | h) | (h | h) | h) <;> simp [h]
theorem once_both (names : List ByteArray) (x : Mo) (known : List Mo) (m : Nat) : once (rIs x known ++ rVs names x ++ rFs names x known m) = once (prL names x known m) :=
  asc_unique (once_asc _) (once_asc _) fun d => by rw [once_mem, once_mem, mem_both]
end Nm

end Go.Proofs.YtbncnkfogkhoeaaGreatDoor

/- How long the lists are that Names and Check come to: bounded by what a module weighs. -/
namespace Go.Proofs.YtbncnkfogkhoeaaGreatDoor
open Go.RowKit

namespace Nm
theorem sum_mono {α : Type} {f g : α → Nat} : ∀ {l : List α}, (∀ x ∈ l, f x ≤ g x) → (l.map f).sum ≤ (l.map g).sum
  | [], _ => Nat.le_refl _
  | x :: l, h => by
    have h0 := h x (by simp)
    have h1 := sum_mono (l := l) (fun y hy => h y (by simp [hy]))
    simp only [List.map_cons, List.sum_cons]
    omega
theorem flat_sum {α β : Type} {f : α → List β} {g : α → Nat} {l : List α} (h : ∀ x ∈ l, (f x).length ≤ g x) : (l.flatMap f).length ≤ (l.map g).sum := by
  rw [List.length_flatMap]
  exact sum_mono h
theorem calls_len : ∀ (m : Nat) (x : Ex), (calls m x).length ≤ exW m x
  | 0, _ => Nat.le_refl _
  | m + 1, x => by
    have h := flat_sum (f := calls m) (g := exW m) (l := x.args) (fun y _ => calls_len m y)
    simp only [calls, exW, List.length_append]
    have h2 : (if x.kind = 4 then [x] else []).length ≤ 1 := by split <;> simp
    omega
theorem pcalls_len : ∀ (m : Nat) (x : Ex), (pcalls m x).length ≤ exW m x
  | 0, _ => Nat.le_refl _
  | m + 1, x => by
    have h := flat_sum (f := pcalls m) (g := exW m) (l := x.args) (fun y _ => pcalls_len m y)
    simp only [pcalls, exW, List.length_append]
    have h2 : (if x.kind = 4 then [x] else []).length ≤ 1 := by split <;> simp
    omega
theorem flat_map_sum {α β : Type} (f : α → List β) (g : β → Nat) : ∀ (l : List α), ((l.flatMap f).map g).sum = (l.map fun s => ((f s).map g).sum).sum
  | [] => rfl
  | s :: l => by simp only [List.flatMap_cons, List.map_append, List.sum_append, List.map_cons, List.sum_cons, flat_map_sum f g l]
/-- What all commands weigh, each by itself. -/
theorem all_sum {w : World} (M : Nat) : ∀ {m : Nat} {v : Value} {l : List St}, StsAt w m v l → m ≤ M → ((all m l).map fun s => 1 + exW M s.e).sum ≤ stsW m l
  | 0, _, _, h, _ => False.elim h
  | m + 1, v, l, h, hk => by
    obtain ⟨a, b, off, cap, _, _, _, h9⟩ := h
    have each : ∀ s ∈ l, ((within (all m) s).map fun s => 1 + exW M s.e).sum ≤ s.name.size + 3 + exW m s.e + stsW m s.a + stsW m s.b := fun s hs => by
      obtain ⟨i, hi, rfl⟩ := List.mem_iff_getElem.1 hs
      obtain ⟨_, _, e0, e1, e2, e3, va, vb, _, _, _, _, _, _, _, _, hx, ha, hb⟩ := h9 i _ (List.getElem?_eq_getElem hi)
      have k1 := all_sum M ha (by omega)
      have k2 := all_sum M hb (by omega)
      have k3 := exW_mono hx M (by omega)
      unfold within
      simp only [List.map_append, List.map_cons, List.map_nil, List.sum_append, List.sum_cons, List.sum_nil]
      omega
    have hs := sum_mono each
    have e : ((all (m + 1) l).map fun s => 1 + exW M s.e).sum = (l.map fun s => ((within (all m) s).map fun s => 1 + exW M s.e).sum).sum := flat_map_sum _ _ _
    rw [e]
    simp only [stsW]
    omega
theorem len_sum {α : Type} {f : α → Nat} : ∀ (l : List α), (∀ x, 1 ≤ f x) → l.length ≤ (l.map f).sum
  | [], _ => Nat.le_refl _
  | x :: l, h => by
    have h0 := h x
    have h1 := len_sum l h
    simp only [List.map_cons, List.sum_cons, List.length_cons]
    omega
theorem all_len {w : World} {m : Nat} {v : Value} {l : List St} (h : StsAt w m v l) : (all m l).length ≤ stsW m l :=
  Nat.le_trans (len_sum _ (fun x => by omega)) (all_sum m h (Nat.le_refl _))
theorem flat_all {w : World} {m : Nat} {v : Value} {l : List St} {β : Type} {f : St → List β} (h : StsAt w m v l) (hf : ∀ s, (f s).length ≤ 1 + exW m s.e) : ((all m l).flatMap f).length ≤ stsW m l :=
  Nat.le_trans (flat_sum fun s _ => hf s) (all_sum m h (Nat.le_refl _))
theorem flat_one {α β : Type} {f : α → List β} {l : List α} (h : ∀ x, (f x).length ≤ 1) : (l.flatMap f).length ≤ l.length := by
  induction l with
  | nil => exact Nat.le_refl _
  | cons x l ih =>
    have := h x
    simp only [List.flatMap_cons, List.length_append, List.length_cons]
    omega
theorem upto_sum {α : Type} {l : List α} {f : Nat → α → List Dg} {g : α → Nat} (h : ∀ i x, l[i]? = some x → (f i x).length ≤ g x) : (upto (atD l f) l.length).length ≤ (l.map g).sum := by
  have key : ∀ n, n ≤ l.length → (upto (atD l f) n).length ≤ ((l.take n).map g).sum := by
    intro n
    induction n with
    | zero => intro _; simp [upto_zero]
    | succ n ih =>
      intro hn
      have h0 := ih (by omega)
      have h1 := h n _ (List.getElem?_eq_getElem (show n < l.length by omega))
      rw [upto_succ, List.length_append, atD_some (List.getElem?_eq_getElem (show n < l.length by omega)), List.take_add_one, List.getElem?_eq_getElem (show n < l.length by omega)]
      simp only [List.map_append, List.sum_append, Option.toList_some, List.map_cons, List.map_nil, List.sum_cons, List.sum_nil]
      omega
  have := key l.length (Nat.le_refl _)
  rwa [List.take_length] at this
theorem upto_n {α : Type} {l : List α} {f : Nat → α → List Dg} (c : Nat) (h : ∀ i x, l[i]? = some x → (f i x).length ≤ c) (n : Nat) : (upto (atD l f) n).length ≤ n * c := by
  induction n with
  | zero => simp [upto_zero]
  | succ n ih =>
    rw [upto_succ, List.length_append, Nat.succ_mul]
    have : (atD l f n).length ≤ c := by
      unfold atD
      split
      · rename_i x hx; exact h n x hx
      · simp
    omega
theorem twA_len (fn : ByteArray) (l : List ByteArray) : (twA fn l).length ≤ l.length := by
  have := upto_n (l := l) (f := fun i s => if inB (l.take i) s = true then [(⟨2, fn, s⟩ : Dg)] else []) 1 (fun i x _ => by split <;> simp) l.length
  unfold twA
  omega
theorem rC_len (x : Mo) (known : List Mo) (k : Nat) (fn : ByteArray) (y : Ex) : (rC x known k fn y).length ≤ 1 := by
  rw [rC_clE]; unfold clE; split <;> simp
theorem clE_len (x : Mo) (known : List Mo) (k : Nat) (fn : ByteArray) (y : Ex) : (clE x known k fn y).length ≤ 1 := by
  unfold clE; split <;> simp

theorem strs_len (l : List ByteArray) : l.length ≤ strsW l := by
  have := len_sum (f := fun s : ByteArray => s.size + 1) l (fun x => by omega)
  unfold strsW; omega
theorem vas_len (l : List Va) : l.length ≤ vasW l := by
  have := len_sum (f := fun s : Va => s.name.size + s.level.size + 3) l (fun x => by omega)
  unfold vasW; omega
theorem fus_len (m : Nat) (l : List Fu) : l.length ≤ fusW m l := by
  have := len_sum (f := fun s : Fu => s.name.size + 2 + strsW s.params + stsW m s.body + exW m s.result) l (fun x => by omega)
  unfold fusW; omega
theorem fu_le {m : Nat} {f : Fu} : ∀ {l : List Fu}, f ∈ l → stsW m f.body + exW m f.result + strsW f.params ≤ fusW m l
  | g :: l, h => by
    rcases List.mem_cons.1 h with rfl | h
    · unfold fusW; simp only [List.map_cons, List.sum_cons]; omega
    · have := fu_le (m := m) h
      unfold fusW at this ⊢; simp only [List.map_cons, List.sum_cons]; omega

theorem fus_body {w : World} {m : Nat} {v : Value} {l : List Fu} (h : FusAt w m v l) {f : Fu} (hf : f ∈ l) : ∃ vb, StsAt w m vb f.body := by
  obtain ⟨a, b, off, cap, _, _, _, h9⟩ := h
  obtain ⟨i, hi, rfl⟩ := List.mem_iff_getElem.1 hf
  obtain ⟨_, vp, vb, e0, e1, e2, e3, _, _, _, _, _, _, _, _, hb, _⟩ := h9 i _ (List.getElem?_eq_getElem hi)
  exact ⟨vb, hb⟩
theorem fcalls_len {w : World} {m : Nat} {vb : Value} {f : Fu} (h : StsAt w m vb f.body) : (fcalls m f).length ≤ stsW m f.body + exW m f.result := by
  have h1 := flat_all (f := fun s => pcalls m s.e) h (fun s => by have := pcalls_len m s.e; omega)
  have h2 := pcalls_len m f.result
  unfold fcalls
  rw [List.length_append]
  omega
theorem rcalls_len {w : World} {m : Nat} {vb : Value} {f : Fu} (h : StsAt w m vb f.body) : (calls m f.result ++ (all m f.body).flatMap fun s => calls m s.e).length ≤ stsW m f.body + exW m f.result := by
  have h1 := flat_all (f := fun s => calls m s.e) h (fun s => by have := calls_len m s.e; omega)
  have h2 := calls_len m f.result
  rw [List.length_append]
  omega
/-- Check's list is short. -/
theorem prL_len {w : World} {m : Nat} {v : Value} {x : Mo} (names : List ByteArray) (known : List Mo) (h : MoAt w m v x) (hw : moW m x ≤ 1048576) : (prL names x known m).length ≤ 16777216 := by
  obtain ⟨vi, vv, vf, rfl, _, hI, hV, hF⟩ := h
  have a1 := strs_len x.imports
  have a2 := vas_len x.vars
  have a3 := fus_len m x.funs
  have b1 : (imD x known).length ≤ x.imports.length * 1 := upto_n 1 (fun i s _ => by split <;> simp) _
  have b2 := twA_len ⟨#[]⟩ x.imports
  have b3 := twA_len ⟨#[]⟩ (x.vars.map (·.name))
  have b4 := twA_len ⟨#[]⟩ (x.funs.map (·.name))
  rw [List.length_map] at b3 b4
  have b5 : (x.funs.flatMap fun f => twA f.name f.params).length ≤ fusW m x.funs := by
    refine Nat.le_trans (flat_sum (g := fun s : Fu => s.name.size + 2 + strsW s.params + stsW m s.body + exW m s.result) (fun f _ => ?_)) (Nat.le_succ _)
    have := twA_len f.name f.params
    have := strs_len f.params
    omega
  have b6 : (x.vars.flatMap fun v => lev names ⟨#[]⟩ v.level).length ≤ x.vars.length := flat_one fun v => lev_len _ _ _
  have b7 : (x.funs.flatMap fun f => (all m f.body).flatMap (levS names f.name)).length ≤ fusW m x.funs := by
    refine Nat.le_trans (flat_sum (g := fun s : Fu => s.name.size + 2 + strsW s.params + stsW m s.body + exW m s.result) (fun f hf => ?_)) (Nat.le_succ _)
    obtain ⟨vb, hb⟩ := fus_body hF hf
    have := flat_all (f := levS names f.name) hb (fun s => by have := levS_len names f.name s; omega)
    omega
  have b8 : (clD x known m).length ≤ fusW m x.funs := by
    refine Nat.le_trans (upto_sum (g := fun s : Fu => s.name.size + 2 + strsW s.params + stsW m s.body + exW m s.result) (fun k f hf => ?_)) (Nat.le_succ _)
    obtain ⟨vb, hb⟩ := fus_body hF (List.mem_of_getElem? hf)
    have h1 := fcalls_len hb
    have h2 : ((fcalls m f).flatMap (clE x known k f.name)).length ≤ (fcalls m f).length := flat_one fun y => clE_len _ _ _ _ _
    omega
  unfold moW at hw
  unfold prL twD lvD
  simp only [List.flatten_cons, List.flatten_nil, List.length_append, List.append_nil]
  omega
/-- Names' lists are short, of a module that is right. -/
theorem rL_len {w : World} {m : Nat} {v : Value} {x : Mo} (names : List ByteArray) (known : List Mo) (h : MoAt w m v x) (hw : moW m x ≤ 1048576) (hE : Lat.moE m x = 0) : (rIs x known).length + (rVs names x).length + (rFs names x known m).length < 16777216 := by
  have hL : x.imports.length ≤ 8 ∧ x.vars.length ≤ 8 ∧ x.funs.length ≤ 8 := by
    unfold Lat.moE at hE
    by_cases h8 : 8 < x.imports.length ∨ 8 < x.vars.length ∨ 8 < x.funs.length
    · rw [if_pos h8] at hE; cases hE
    · omega
  obtain ⟨vi, vv, vf, rfl, _, hI, hV, hF⟩ := h
  have b1 : (rIs x known).length ≤ x.imports.length * 2 := upto_n 2 (fun i s _ => by
    unfold rI
    rw [List.length_append]
    have h1 : (if (!(known.any fun y => sameB y.name s) || sameB s x.name) = true then [(⟨1, ⟨#[]⟩, s⟩ : Dg)] else []).length ≤ 1 := by split <;> simp
    have h2 : (if inB (x.imports.take i) s = true then [(⟨2, ⟨#[]⟩, s⟩ : Dg)] else []).length ≤ 1 := by split <;> simp
    omega) _
  have b2 : (rVs names x).length ≤ x.vars.length * 9 := upto_n 9 (fun i v hv => by
    unfold rV
    rw [List.length_append]
    have h1 := lev_len names ⟨#[]⟩ v.level
    have h2 := upto_n (l := x.vars) (f := fun _ u => if sameB u.name v.name = true then [(⟨2, ⟨#[]⟩, v.name⟩ : Dg)] else []) 1 (fun i u _ => by split <;> simp) i
    have h3 := (List.getElem?_eq_some_iff.1 hv).1
    omega) _
  have b3 : (rFs names x known m).length ≤ (x.funs.map fun s : Fu => 8 + 2 * (s.name.size + 2 + strsW s.params + stsW m s.body + exW m s.result)).sum := upto_sum (fun k f hf => by
    obtain ⟨vb, hb⟩ := fus_body hF (List.mem_of_getElem? hf)
    have h1 := upto_n (l := x.funs) (f := fun _ g => if sameB g.name f.name = true then [(⟨2, ⟨#[]⟩, f.name⟩ : Dg)] else []) 1 (fun i u _ => by split <;> simp) k
    have h2 := (List.getElem?_eq_some_iff.1 hf).1
    have h3 := twA_len f.name f.params
    have h4 := strs_len f.params
    have h5 := flat_all (f := levS names f.name) hb (fun s => by have := levS_len names f.name s; omega)
    have h6 := rcalls_len hb
    have h7 : (rF9 x known m k f).length ≤ (calls m f.result ++ (all m f.body).flatMap fun s => calls m s.e).length := flat_one fun y => rC_len _ _ _ _ _
    simp only [List.length_append, rF6, rF8] at h6 h7 ⊢
    omega)
  have b4 : ∀ l : List Fu, (l.map fun s : Fu => 8 + 2 * (s.name.size + 2 + strsW s.params + stsW m s.body + exW m s.result)).sum ≤ 8 * l.length + 2 * fusW m l := by
    intro l
    induction l with
    | nil => simp
    | cons f l ih => unfold fusW at ih ⊢; simp only [List.map_cons, List.sum_cons, List.length_cons] at ih ⊢; omega
  have b5 := b4 x.funs
  unfold moW at hw
  omega
theorem rC_all {w : World} {m : Nat} {v : Value} {x : Mo} (h : MoAt w m v x) (hw : moW m x ≤ 1048576) : ∀ f ∈ x.funs, (all m f.body).length ≤ 16777216 ∧ (calls m f.result ++ (all m f.body).flatMap fun s => calls m s.e).length ≤ 16777216 := fun f hf => by
  obtain ⟨vi, vv, vf, rfl, _, hI, hV, hF⟩ := h
  obtain ⟨vb, hb⟩ := fus_body hF hf
  have h1 := all_len hb
  have h2 := rcalls_len hb
  have h3 := fu_le (m := m) hf
  unfold moW at hw
  omega
end Nm

end Go.Proofs.YtbncnkfogkhoeaaGreatDoor
