/- SolveLeast: slices.ContainsFunc of labels with the law's third function; the small system. -/
import Derived.Test.YtholefgckcoklabJB
import Derived.Test.YtholefgckcoklabZK
import Derived.Test.YtholefgckcoklabKA
namespace Go.Proofs.Ytholefgckcoklab
open Go.RowKit

set_option maxHeartbeats 1000000 in
theorem sthird_any (w : World) (Bl : Nat) (va : Option Addr) (vl : Value) (N cap : Nat) (m l : Int) (hN : N ≤ 9223372036854775807) (hl0 : w.cell? ⟨Bl, 0, none⟩ = some (.slice va N cap)) (hl1 : w.cell? ⟨Bl, 1, none⟩ = some vl) :
    Calls Try.prog 25 #[.agg #[.int .i64 m, .int .i64 l], .pointer (some ⟨Bl, 0, none⟩)] w fun e w' => e = .returned (.bool (!(Sv.labB N m l))) ∧ Below w.heap.size w w' := by
  have hb := boxBelow w (.cells #[.int .i64 m, .int .i64 l] 48)
  have HB := hide hb
  replace hl0 := cellUp hl0 hb
  replace hl1 := cellUp hl1 hb
  clear hb
  go_enter Try.func25, Try.ntmps25
  go_wp2_with fail
  refine (rlabel_any _ va vl N cap m l hN).mono ?_
  rintro e w2 ⟨rfl, hb2⟩
  have HB2 := hide (up HB.out hb2)
  clear hb2
  cases h : Sv.labB N m l
  · go_wp2_with fail
    go_ret
    exact ⟨ret_bool (by rw [h]; rfl), HB2.out⟩
  · go_wp2_with fail
    go_ret
    exact ⟨ret_bool (by rw [h]; rfl), HB2.out⟩

/-- i tells whether one of the first n is no label. -/
structure BadIs (N : Nat) (l : List (Int × Int)) (i : Int) : Prop where
  is : decide (0 ≤ i) = l.any fun x => !(Sv.labB N x.1 x.2)

set_option maxHeartbeats 1000000 in
theorem indexL_any (w : World) (v : Value) (l : List (Int × Int)) (Bl : Nat) (va : Option Addr) (vl : Value) (N cap : Nat) (hN : N ≤ 9223372036854775807) (hl0 : w.cell? ⟨Bl, 0, none⟩ = some (.slice va N cap)) (hl1 : w.cell? ⟨Bl, 1, none⟩ = some vl) (hI : LasAt w v l) :
    Calls Try.prog 51 #[v, .func (.func 25) #[] #[.pointer (some ⟨Bl, 0, none⟩)]] w fun e w' => (∃ i : Int, e = .returned (.int .i64 i) ∧ BadIs N l i) ∧ Below w.heap.size w w' := by
  obtain ⟨a, b, off, lcap, rfl, h0, hl, hel⟩ := hI
  have HEL := hide hel
  have HA := hide h0
  obtain ⟨len, hlen⟩ : ∃ n, n = l.length := ⟨_, rfl⟩
  have HL := hide hlen
  have HCL := hide (fun (w1 : World) (m k : Int) (hb : Below w.heap.size w w1) => sthird_any w1 Bl va vl N cap m k hN (cellUp hl0 hb) (cellUp hl1 hb))
  rw [← hlen] at hl HA ⊢
  clear hel h0 hlen hl0 hl1
  go_enter Try.func51, Try.ntmps51
  go_wp2
  go_loopw [8] (fun i wx => ∃ k : Nat, k ≤ len ∧ i = .int .i64 k ∧ Below w.heap.size w wx ∧ ∀ x ∈ l.take k, (!(Sv.labB N x.1 x.2)) = false) (fun i _ => len - (intOf i).toNat)
  case atStart => exact ⟨0, Nat.zero_le _, rfl, Below.refl _ _, by simp⟩
  case round =>
    obtain ⟨k, hk, rfl, hb, hall⟩ := hrel
    have HN := hide hall
    have HB := hide hb
    clear hall
    by_cases hlt : k < len
    · obtain ⟨g, hg⟩ : ∃ g, l[k]? = some g := ⟨_, List.getElem?_eq_getElem (by rw [← HL.out]; exact hlt)⟩
      obtain ⟨c0, c1⟩ := HEL.out k g hg
      replace c0 := cellUp c0 hb
      replace c1 := cellUp c1 hb
      obtain rfl := HA.out (by omega)
      have HG := hide hg
      clear hg hb
      go_wp2_with fail
      refine (HCL.out _ g.1 g.2 HB.out).mono ?_
      rintro e w' ⟨rfl, hb'⟩
      have HB' := hide (up HB.out hb')
      clear hb'
      cases ho : (!(Sv.labB N g.1 g.2))
      · go_wp2_with fail
        go_roundw
        case rel => exact ⟨k + 1, by omega, by go_num, HB'.out, fun x hx => by
            rw [take_snoc HG.out] at hx
            rcases List.mem_append.1 hx with hx | hx
            · exact HN.out x hx
            · simp at hx; subst hx; exact ho⟩
        case measure => simp [intOf]; omega
      · go_wp2_with fail
        go_ret
        exact ⟨⟨k, rfl, ⟨by rw [List.any_eq_true.2 ⟨g, List.mem_of_getElem? HG.out, ho⟩]; simp⟩⟩, HB'.out⟩
    · clear hb
      go_wp2_with fail
      go_ret
      exact ⟨⟨-1, rfl, ⟨by rw [List.any_eq_false.2 fun x hx => by rw [HN.out x (by rw [List.take_of_length_le (by rw [← HL.out]; omega)]; exact hx)]; simp]; rfl⟩⟩, HB.out⟩
theorem containsL_any (w : World) (v : Value) (l : List (Int × Int)) (Bl : Nat) (va : Option Addr) (vl : Value) (N cap : Nat) (hN : N ≤ 9223372036854775807) (hl0 : w.cell? ⟨Bl, 0, none⟩ = some (.slice va N cap)) (hl1 : w.cell? ⟨Bl, 1, none⟩ = some vl) (hI : LasAt w v l) :
    Calls Try.prog 24 #[v, .func (.func 25) #[] #[.pointer (some ⟨Bl, 0, none⟩)]] w fun e w' => e = .returned (.bool (l.any fun x => !(Sv.labB N x.1 x.2))) ∧ Below w.heap.size w w' := by
  have HX := hide (indexL_any w v l Bl va vl N cap hN hl0 hl1 hI)
  obtain ⟨a, b, off, lcap, rfl, -⟩ := hI
  obtain ⟨r, hr⟩ : ∃ r, r = l.any fun x => !(Sv.labB N x.1 x.2) := ⟨_, rfl⟩
  have HR := hide hr
  rw [← hr]
  clear hr hl0 hl1
  go_enter Try.func24, Try.ntmps24
  go_wp2_with fail
  refine HX.out.mono ?_
  rintro e w' ⟨⟨i, rfl, hi⟩, hb⟩
  have HB := hide hb
  clear hb
  go_wp2_with fail
  go_ret
  exact ⟨ret_bool (by rw [HR.out]; exact hi.is), HB.out⟩

/-! ### The small system -/
def cs0 : List Sv.Co := [⟨1, [0], 0, 0⟩, ⟨0, [], 2, 1⟩]
theorem sys0 : Sv.sysE twoS.length 2 cs0 = 0 := by decide +kernel
theorem least0 : Sv.Least twoZ twoS.length 2 cs0 (fun _ => (2, 1)) := by
  have J : Lat.Joins twoZ twoS.length := Lat.joins_of (Lat.ord_of (Lat.ok_of two_check).order) (Lat.ok_of two_check).joins
  have o21 : Sv.Ok twoS.length (2, 1) := ⟨by decide, by decide⟩
  refine ⟨fun v _ => o21, ?_, fun U hU hs v hv => ?_⟩
  · exact Sv.solB_sol (by decide +kernel)
  · have h1 := (hs ⟨0, [], 2, 1⟩ (by simp [cs0])).1
    have h2 := (hs ⟨1, [0], 0, 0⟩ (by simp [cs0])).2 0 (by simp)
    have e1 : Sv.le twoZ (2, 1) (U 0) = true := h1
    have e2 : Sv.le twoZ (U 0) (U 1) = true := h2
    obtain rfl | rfl : v = 0 ∨ v = 1 := by omega
    · exact e1
    · exact Sv.le_trans J o21 (hU 0 (by omega)) (hU 1 (by omega)) e1 e2
theorem cos0 (g : Nat) (W : World) (hg : W.heap[g]? = some (.cells #[.int .i64 0] 3 (0, 0))) (h : Nat) (hh : W.heap[h]? = some (.cells #[.int .i64 1, .slice (some ⟨g, 0, none⟩) 1 1, .int .i64 0, .int .i64 0, .int .i64 0, .slice none 0 0, .int .i64 2, .int .i64 1] 50 (0, 0))) :
    CosAt W (.slice (some ⟨h, 0, none⟩) 2 2) cs0 := by
  refine ⟨_, h, 0, 2, rfl, fun _ => rfl, by decide, fun i x hx => ?_⟩
  have c := fun j => block_at hh j
  match i, hx with
  | 0, hx =>
    simp [cs0] at hx
    subst hx
    exact ⟨.slice (some ⟨g, 0, none⟩) 1 1, ⟨_, g, 0, 1, rfl, fun _ => rfl, by decide, fun j z hz => by
      match j, hz with
      | 0, hz => simp at hz; subst hz; exact (block_at hg 0).trans rfl
      | j + 1, hz => simp at hz⟩, (c 0).trans rfl, (c 1).trans rfl, (c 2).trans rfl, (c 3).trans rfl⟩
  | 1, hx =>
    simp [cs0] at hx
    subst hx
    exact ⟨.slice none 0 0, ⟨none, 0, 0, 0, rfl, fun h => absurd h (by simp), by decide, fun j z hz => by simp at hz⟩, (c 4).trans rfl, (c 5).trans rfl, (c 6).trans rfl, (c 7).trans rfl⟩
  | i + 2, hx => simp [cs0] at hx

theorem list0 (V : Nat → Nat × Nat) (h : Sv.Least twoZ twoS.length 2 cs0 V) : Sv.list 2 V = [(2, 1), (2, 1)] := by
  have J : Lat.Joins twoZ twoS.length := Lat.joins_of (Lat.ord_of (Lat.ok_of two_check).order) (Lat.ok_of two_check).joins
  have h0 := h.unique J least0 0 (by omega)
  have h1 := h.unique J least0 1 (by omega)
  simp [Sv.list, List.range_succ, h0, h1]
theorem lit0 (w : World) : LasAt (w.alloc (.cells #[.int .i64 2, .int .i64 1, .int .i64 2, .int .i64 1] 48)) (.slice (some ⟨w.heap.size, 0, none⟩) 2 2) [(2, 1), (2, 1)] := by
  have c := fun j => block_at (block_new w (.cells #[.int .i64 2, .int .i64 1, .int .i64 2, .int .i64 1] 48)) j
  refine ⟨_, w.heap.size, 0, 2, rfl, fun _ => rfl, by decide, fun i x hx => ?_⟩
  match i, hx with
  | 0, hx => simp at hx; subst hx; exact ⟨(c 0).trans rfl, (c 1).trans rfl⟩
  | 1, hx => simp at hx; subst hx; exact ⟨(c 2).trans rfl, (c 3).trans rfl⟩
  | i + 2, hx => simp at hx

set_option maxHeartbeats 2000000 in
set_option maxRecDepth 100000 in
theorem tiny_any (w : World) : Calls Try.prog 19 #[] w fun e w' => e = .returned (.bool true) ∧ Below w.heap.size w w' := by
  go_enter Try.func19, Try.ntmps19
  go_wp2_with fail
  refine (two_any w).mono ?_
  rintro e w1 ⟨vn, vl, rfl, hS, hR, hb1⟩
  have HB1 := hide hb1
  obtain ⟨W, hW⟩ : ∃ W, W = (w1.alloc (.cells #[.int .i64 0] 3)).alloc (.cells #[.int .i64 1, .slice (some ⟨w1.heap.size, 0, none⟩) 1 1, .int .i64 0, .int .i64 0, .int .i64 0, .slice none 0 0, .int .i64 2, .int .i64 1] 50) := ⟨_, rfl⟩
  have hb : Below w1.heap.size w1 W := by rw [hW]; exact up (boxBelow w1 _) (boxBelow _ _)
  have h1 : W.heap[w1.heap.size]? = some (.cells #[.int .i64 0] 3 (0, 0)) := by rw [hW]; exact block_alloc (block_new w1 _) _
  have h2 : W.heap[w1.heap.size + 1]? = some (.cells #[.int .i64 1, .slice (some ⟨w1.heap.size, 0, none⟩) 1 1, .int .i64 0, .int .i64 0, .int .i64 0, .slice none 0 0, .int .i64 2, .int .i64 1] 50 (0, 0)) := by
    have h := block_new (w1.alloc (.cells #[.int .i64 0] 3)) (.cells #[.int .i64 1, .slice (some ⟨w1.heap.size, 0, none⟩) 1 1, .int .i64 0, .int .i64 0, .int .i64 0, .slice none 0 0, .int .i64 2, .int .i64 1] 50)
    rw [show (w1.alloc (.cells #[.int .i64 0] 3)).heap.size = w1.heap.size + 1 by simp] at h
    rw [hW]; exact h
  have HLS := hide (least_ok W vn vl _ twoS 2 (fun _ => 2) twoZ 2 cs0 ⟨hS.below hb, hR.below hb, two_check⟩ (cos0 w1.heap.size W h1 (w1.heap.size + 1) h2) sys0)
  have HBW := hide (up HB1.out hb)
  clear hS hR hb1 hb h1 h2
  go_wp2_with fail
  rw [← hW]
  clear hW
  refine HLS.out.mono ?_
  rintro e w2 ⟨V, lb, rfl, hlas, hleast, hb2⟩
  rw [list0 V hleast] at hlas
  have HLA := hide hlas
  have HB2 := hide (up HBW.out hb2)
  clear hlas hleast hb2
  go_wp2_with fail
  refine (eqL_same _ _ _ [(2, 1), (2, 1)] (HLA.out.below (boxBelow _ _)) (lit0 _)).mono ?_
  rintro e w3 ⟨rfl, hb3⟩
  have HB3 := hide (up HB2.out (up (boxBelow _ _) hb3))
  clear hb3
  go_wp2_with fail
  go_ret
  exact ⟨rfl, HB3.out⟩

end Go.Proofs.Ytholefgckcoklab
