/- Walks over package names: callsIn, eachCommand, eachCall, whatever is done at each. -/
import Derived.Test.YtholefgckcoklaaGreatDoorBZAX
namespace Go.Proofs.YtholefgckcoklaaGreatDoor
open Go.RowKit
namespace Nm
def pcalls : Nat → Ex → List Ex
  | 0, _ => []
  | m + 1, x => (if x.kind = 4 then [x] else []) ++ x.args.flatMap (pcalls m)
end Nm
def VisE (W0 W : World) (M p g : Nat) (cb : Array Value) (D : Ex → List Dg) : Prop :=
  ∀ (w : World) (c0 c1 c2 c3 : Value) (y : Ex) (l : List Dg), Below W0.heap.size W0 w → Tells p W w → Told w W0.heap.size p l → ExAt W0 M c0 c1 c2 c3 y → l.length + (D y).length ≤ 16777216 →
    Calls Tryz.prog g (#[.agg #[c0, c1, c2, c3]] ++ cb) w fun e w' => e = .returned (.tuple #[]) ∧ Told w' W0.heap.size p (l ++ D y) ∧ Below W0.heap.size w w' ∧ Tells p w w'
theorem Told.lt {w : World} {n p : Nat} {l : List Dg} (h : Told w n p l) : p < w.heap.size := by
  obtain ⟨_, v, h1, _⟩ := h
  exact block_lt h1
theorem flatMap_le {α β γ : Type} {f : α → List β} {g : β → List γ} {l : List α} (j : Nat) : (((l.take j).flatMap f).flatMap g).length ≤ ((l.flatMap f).flatMap g).length := by
  have h := congrArg (fun t => ((t.flatMap f).flatMap g).length) (List.take_append_drop j l)
  simp only [List.flatMap_append, List.length_append] at h
  omega
set_option maxHeartbeats 2000000 in
set_option maxRecDepth 100000 in
theorem callsIn_any (W0 W : World) (M p g : Nat) (cb : Array Value) (D : Ex → List Dg) (eg : ∀ args w, (callFunc g args).run Tryz.prog w = .ok (.enter g args) w) (hv : VisE W0 W M p g cb D) (m : Nat) : ∀ (w : World) (c0 c1 c2 c3 : Value) (x : Ex) (l : List Dg), m ≤ M → Below W0.heap.size W0 w → Tells p W w → Told w W0.heap.size p l → ExAt W0 m c0 c1 c2 c3 x →
    l.length + ((Nm.pcalls m x).flatMap D).length ≤ 16777216 →
    Calls Tryz.prog 192 #[.agg #[c0, c1, c2, c3], .func (.func g) #[] cb] w fun e w' => e = .returned (.tuple #[]) ∧ Told w' W0.heap.size p (l ++ (Nm.pcalls m x).flatMap D) ∧ Below W0.heap.size w w' ∧ Tells p w w' := by
  induction m with
  | zero => intro w c0 c1 c2 c3 x l _ _ _ _ h; exact False.elim h
  | succ m ih =>
    intro w c0 c1 c2 c3 x l hM hW hT hl h hlen
    have HI := hide ih
    have HX := hide (h.mono M hM)
    have HV := hide hv
    have HW := hide hW
    have HT := hide hT
    have HTO := hide hl
    clear ih hW hv hT
    obtain ⟨rfl, rfl, rfl, hsz, hk1, hk2, a, b, off, cap, rfl, ha, hbig, hel⟩ := h
    obtain ⟨k, n, s, args⟩ := x
    simp only at hsz hk1 hk2 ha hbig hel HX ⊢
    have HEL := hide hel
    have HA := hide ha
    have HLEN := hide hlen
    have HPC : Hid (Nm.pcalls (m + 1) ⟨k, n, s, args⟩ = (if k = 4 then [⟨k, n, s, args⟩] else []) ++ args.flatMap (Nm.pcalls m)) := rfl
    obtain ⟨len, hlen'⟩ : ∃ len, len = args.length := ⟨_, rfl⟩
    have HL := hide hlen'
    rw [← hlen'] at hbig HA HX ⊢
    obtain ⟨R, hR⟩ : ∃ R, R = Nm.pcalls (m + 1) ⟨k, n, s, args⟩ := ⟨_, rfl⟩
    rw [← hR] at HPC HLEN ⊢
    have HP := hide hl.lt
    have HBX := hide (block_new w (.cells #[.int .i64 k, .int .i64 n, .string s, .slice a len cap] 103))
    have HB0 := hide (boxBelow w (.cells #[.int .i64 k, .int .i64 n, .string s, .slice a len cap] 103))
    have q0 := boxD0 w (.int .i64 k) (.int .i64 n) (.string s) (.slice a len cap) 103
    have q1 := boxD1 w (.int .i64 k) (.int .i64 n) (.string s) (.slice a len cap) 103
    have q2 := boxD2 w (.int .i64 k) (.int .i64 n) (.string s) (.slice a len cap) 103
    have q3 := boxN3 w (.int .i64 k) (.int .i64 n) (.string s) (.slice a len cap) 103
    clear hel ha hlen hlen' hR hl
    by_cases h4 : k = 4
    · have h4' : (k == 4) = true := by simp [h4]
      rw [if_pos h4] at HPC
      clear h4
      go_enter Tryz.func192, Tryz.ntmps192
      go_wp2_with fail
      refine (HV.out _ _ _ _ _ ⟨k, n, s, args⟩ l (HW.out.trans (HB0.out.mono HW.out.size)) (HT.out.trans (Tells.of_below HB0.out)) (HTO.out.below HB0.out) HX.out (by
        have h1 := HLEN.out
        rw [HPC.out] at h1
        simp only [List.flatMap_append, List.length_append, List.flatMap_cons, List.flatMap_nil, List.append_nil] at h1
        omega)).mono ?_
      rintro e w1 ⟨rfl, hto1, hb1, ht1⟩
      have HT1 := hide hto1
      have HB1 := hide ((HB0.out.mono HW.out.size).trans hb1)
      have HS1 := hide ((Tells.of_below HB0.out).trans ht1)
      replace q3 := (block_at (ht1.at (by have := HP.out; omega) HBX.out (by decide)) 3).trans (rfl : _ = some (Value.slice a len cap))
      clear hto1 hb1 ht1 q0 q1 q2
      go_wp2_with fail
      go_loopw [15] (fun i wr => ∃ j : Nat, j ≤ len ∧ i = .int .i64 j ∧ Told wr W0.heap.size p ((l ++ D ⟨k, n, s, args⟩) ++ ((args.take j).flatMap (Nm.pcalls m)).flatMap D) ∧ Below W0.heap.size w wr ∧ Tells p w wr) (fun i _ => len - (intOf i).toNat)
      case atStart => exact ⟨0, Nat.zero_le _, rfl, by simpa using HT1.out, HB1.out, HS1.out⟩
      case round =>
        obtain ⟨j, hj, rfl, hto, hnx, htl⟩ := hrel
        have HTO2 := hide hto
        have HNX := hide hnx
        have HTL := hide htl
        clear hto htl
        by_cases hjl : j < len
        · obtain ⟨y, hy⟩ : ∃ y, args[j]? = some y := ⟨_, List.getElem?_eq_getElem (by rw [← HL.out]; exact hjl)⟩
          obtain ⟨e0, e1, e2, e3, g0, g1, g2, g3, hye⟩ := HEL.out j y hy
          have HY := hide hy
          obtain rfl := HA.out (by omega)
          have hbb := HW.out.trans hnx
          have HBB := hide hbb
          replace g0 := cellUp g0 hbb
          replace g1 := cellUp g1 hbb
          replace g2 := cellUp g2 hbb
          replace g3 := cellUp g3 hbb
          have HYE := hide hye
          obtain ⟨xa, xc, rfl, rfl, rfl, rfl⟩ := hye.shape
          have HLS : Hid (((l ++ D ⟨k, n, s, args⟩) ++ ((args.take j).flatMap (Nm.pcalls m)).flatMap D).length + ((Nm.pcalls m y).flatMap D).length ≤ 16777216) := hide (by
            have h1 := HLEN.out
            rw [HPC.out] at h1
            have h2 := flatMap_le (f := Nm.pcalls m) (g := D) (l := args) (j + 1)
            rw [flat_succ hy, List.flatMap_append, List.length_append] at h2
            simp only [List.flatMap_append, List.length_append, List.flatMap_cons, List.flatMap_nil, List.append_nil] at h1 h2 ⊢
            omega)
          have HB3 := hide (boxBelow wr (.cells #[.int .i64 y.kind, .int .i64 y.n, .string y.name, .slice xa y.args.length xc] 103))
          have z0 := boxD0 wr (.int .i64 y.kind) (.int .i64 y.n) (.string y.name) (.slice xa y.args.length xc) 103
          have z1 := boxD1 wr (.int .i64 y.kind) (.int .i64 y.n) (.string y.name) (.slice xa y.args.length xc) 103
          have z2 := boxD2 wr (.int .i64 y.kind) (.int .i64 y.n) (.string y.name) (.slice xa y.args.length xc) 103
          have z3 := boxN3 wr (.int .i64 y.kind) (.int .i64 y.n) (.string y.name) (.slice xa y.args.length xc) 103
          clear hye hy hbb hnx
          generalize y.args.length = ny at *
          go_wp2_with fail
          refine (HI.out _ _ _ _ _ y _ (by omega) (HBB.out.trans (HB3.out.mono HBB.out.size)) ((HT.out.trans HTL.out).trans (Tells.of_below HB3.out)) (HTO2.out.below HB3.out) HYE.out HLS.out).mono ?_
          rintro e w5 ⟨rfl, hto5, hb5, ht5⟩
          have HTO5 := hide hto5
          have HB5 := hide ((HNX.out.trans (HB3.out.mono HBB.out.size)).trans hb5)
          have HT5 := hide ((HTL.out.trans (Tells.of_below HB3.out)).trans ht5)
          clear hto5 hb5 ht5 z0 z1 z2 z3 g0 g1 g2 g3
          go_wp2_with fail
          go_roundw
          case rel => exact ⟨j + 1, by omega, by go_num, by rw [flat_succ HY.out, List.flatMap_append, ← List.append_assoc]; exact HTO5.out, HB5.out, HT5.out⟩
          case measure => simp [intOf]; omega
        · have hje : (args.take j) = args := List.take_of_length_le (by have := HL.out; omega)
          rw [hje] at HTO2
          clear hje hnx
          go_wp2_with fail
          go_end0
          exact ⟨rfl, by rw [HPC.out, List.flatMap_append, ← List.append_assoc]; simpa using HTO2.out, HNX.out, HTL.out⟩
    · have h4' : (k == 4) = false := by simp [h4]
      rw [if_neg h4, List.nil_append] at HPC
      clear h4
      have HT1 := hide (HTO.out.below HB0.out)
      have HB1 := hide (HB0.out.mono HW.out.size)
      have HS1 : Hid (Tells p w _) := hide (Tells.of_below HB0.out)
      go_enter Tryz.func192, Tryz.ntmps192
      go_wp2_with fail
      go_loopw [15] (fun i wr => ∃ j : Nat, j ≤ len ∧ i = .int .i64 j ∧ Told wr W0.heap.size p (l ++ ((args.take j).flatMap (Nm.pcalls m)).flatMap D) ∧ Below W0.heap.size w wr ∧ Tells p w wr) (fun i _ => len - (intOf i).toNat)
      case atStart => exact ⟨0, Nat.zero_le _, rfl, by simpa using HT1.out, HB1.out, HS1.out⟩
      case round =>
        obtain ⟨j, hj, rfl, hto, hnx, htl⟩ := hrel
        have HTO2 := hide hto
        have HNX := hide hnx
        have HTL := hide htl
        clear hto htl
        by_cases hjl : j < len
        · obtain ⟨y, hy⟩ : ∃ y, args[j]? = some y := ⟨_, List.getElem?_eq_getElem (by rw [← HL.out]; exact hjl)⟩
          obtain ⟨e0, e1, e2, e3, g0, g1, g2, g3, hye⟩ := HEL.out j y hy
          have HY := hide hy
          obtain rfl := HA.out (by omega)
          have hbb := HW.out.trans hnx
          have HBB := hide hbb
          replace g0 := cellUp g0 hbb
          replace g1 := cellUp g1 hbb
          replace g2 := cellUp g2 hbb
          replace g3 := cellUp g3 hbb
          have HYE := hide hye
          obtain ⟨xa, xc, rfl, rfl, rfl, rfl⟩ := hye.shape
          have HLS : Hid ((l ++ ((args.take j).flatMap (Nm.pcalls m)).flatMap D).length + ((Nm.pcalls m y).flatMap D).length ≤ 16777216) := hide (by
            have h1 := HLEN.out
            rw [HPC.out] at h1
            have h2 := flatMap_le (f := Nm.pcalls m) (g := D) (l := args) (j + 1)
            rw [flat_succ hy, List.flatMap_append, List.length_append] at h2
            rw [List.length_append]
            omega)
          have HB3 := hide (boxBelow wr (.cells #[.int .i64 y.kind, .int .i64 y.n, .string y.name, .slice xa y.args.length xc] 103))
          have z0 := boxD0 wr (.int .i64 y.kind) (.int .i64 y.n) (.string y.name) (.slice xa y.args.length xc) 103
          have z1 := boxD1 wr (.int .i64 y.kind) (.int .i64 y.n) (.string y.name) (.slice xa y.args.length xc) 103
          have z2 := boxD2 wr (.int .i64 y.kind) (.int .i64 y.n) (.string y.name) (.slice xa y.args.length xc) 103
          have z3 := boxN3 wr (.int .i64 y.kind) (.int .i64 y.n) (.string y.name) (.slice xa y.args.length xc) 103
          clear hye hy hbb hnx
          generalize y.args.length = ny at *
          go_wp2_with fail
          refine (HI.out _ _ _ _ _ y _ (by omega) (HBB.out.trans (HB3.out.mono HBB.out.size)) ((HT.out.trans HTL.out).trans (Tells.of_below HB3.out)) (HTO2.out.below HB3.out) HYE.out HLS.out).mono ?_
          rintro e w5 ⟨rfl, hto5, hb5, ht5⟩
          have HTO5 := hide hto5
          have HB5 := hide ((HNX.out.trans (HB3.out.mono HBB.out.size)).trans hb5)
          have HT5 := hide ((HTL.out.trans (Tells.of_below HB3.out)).trans ht5)
          clear hto5 hb5 ht5 z0 z1 z2 z3 g0 g1 g2 g3
          go_wp2_with fail
          go_roundw
          case rel => exact ⟨j + 1, by omega, by go_num, by rw [flat_succ HY.out, List.flatMap_append, ← List.append_assoc]; exact HTO5.out, HB5.out, HT5.out⟩
          case measure => simp [intOf]; omega
        · have hje : (args.take j) = args := List.take_of_length_le (by have := HL.out; omega)
          rw [hje] at HTO2
          clear hje hnx
          go_wp2_with fail
          go_end0
          exact ⟨rfl, by rw [HPC.out]; exact HTO2.out, HNX.out, HTL.out⟩
def VisS (W0 W : World) (M p g : Nat) (cb : Array Value) (D : St → List Dg) : Prop :=
  ∀ (w : World) (e0 e1 e2 e3 va vb : Value) (s : St) (l : List Dg), Below W0.heap.size W0 w → Tells p W w → Told w W0.heap.size p l → StC W0 M [.int .i64 s.kind, .string s.name, e0, e1, e2, e3, va, vb] s → l.length + (D s).length ≤ 16777216 →
    Calls Tryz.prog g (#[.agg #[.int .i64 s.kind, .string s.name, e0, e1, e2, e3, va, vb]] ++ cb) w fun e w' => e = .returned (.tuple #[]) ∧ Told w' W0.heap.size p (l ++ D s) ∧ Below W0.heap.size w w' ∧ Tells p w w'
theorem box8 (w : World) (c0 c1 c2 c3 c4 c5 c6 c7 : Value) (t : TypeId) (i : Nat) (v : Value) (h : (#[c0, c1, c2, c3, c4, c5, c6, c7] : Array Value)[i]? = some v) : (w.alloc (.cells #[c0, c1, c2, c3, c4, c5, c6, c7] t)).cell? ⟨w.heap.size, i, none⟩ = some v :=
  (block_at (block_new w (.cells #[c0, c1, c2, c3, c4, c5, c6, c7] t)) i).trans h
set_option maxHeartbeats 2000000 in
set_option maxRecDepth 100000 in
theorem eachCommand_any (W0 W : World) (M p g : Nat) (cb : Array Value) (D : St → List Dg) (eg : ∀ args w, (callFunc g args).run Tryz.prog w = .ok (.enter g args) w) (hv : VisS W0 W M p g cb D) (m : Nat) : ∀ (w : World) (v : Value) (b : List St) (l : List Dg), m ≤ M → Below W0.heap.size W0 w → Tells p W w → Told w W0.heap.size p l → StsAt W0 m v b →
    l.length + ((Nm.all m b).flatMap D).length ≤ 16777216 →
    Calls Tryz.prog 130 #[v, .func (.func g) #[] cb] w fun e w' => e = .returned (.tuple #[]) ∧ Told w' W0.heap.size p (l ++ (Nm.all m b).flatMap D) ∧ Below W0.heap.size w w' ∧ Tells p w w' := by
  induction m with
  | zero => intro w v b l _ _ _ _ h; exact False.elim h
  | succ m ih =>
    intro w v body l hM hW hT hl h hlen
    have HI := hide ih
    have HV := hide hv
    have HW := hide hW
    have HT := hide hT
    have HTO := hide hl
    have HLEN := hide hlen
    clear ih hW hv hT
    obtain ⟨a, b, off, cap, rfl, ha, hbig, hel⟩ := h
    have HEL := hide hel
    have HA := hide ha
    obtain ⟨len, hlen'⟩ : ∃ len, len = body.length := ⟨_, rfl⟩
    have HL := hide hlen'
    rw [← hlen'] at hbig HA ⊢
    have HP := hide hl.lt
    have HPC : Hid (Nm.all (m + 1) body = body.flatMap (Nm.within (Nm.all m))) := rfl
    obtain ⟨R, hR⟩ : ∃ R, R = Nm.all (m + 1) body := ⟨_, rfl⟩
    rw [← hR] at HPC HLEN ⊢
    clear hel ha hlen hlen' hR hl
    go_enter Tryz.func130, Tryz.ntmps130
    go_wp2_with fail
    go_loopw [8] (fun i wr => ∃ j : Nat, j ≤ len ∧ i = .int .i64 j ∧ Told wr W0.heap.size p (l ++ ((body.take j).flatMap (Nm.within (Nm.all m))).flatMap D) ∧ Below W0.heap.size w wr ∧ Tells p w wr) (fun i _ => len - (intOf i).toNat)
    case atStart => exact ⟨0, Nat.zero_le _, rfl, by simpa using HTO.out, Below.refl _ _, Tells.refl _ _⟩
    case round =>
      obtain ⟨j, hj, rfl, hto, hnx, htl⟩ := hrel
      have HTO2 := hide hto
      have HNX := hide hnx
      have HTL := hide htl
      have HP2 := hide hto.lt
      clear hto htl
      by_cases hjl : j < len
      · obtain ⟨y, hy⟩ : ∃ y, body[j]? = some y := ⟨_, List.getElem?_eq_getElem (by rw [← HL.out]; exact hjl)⟩
        obtain ⟨k1, k2, e0, e1, e2, e3, va, vb, g0, g1, g2, g3, g4, g5, g6, g7, hx, hva, hvb⟩ := HEL.out j y hy
        have HY := hide hy
        obtain rfl := HA.out (by omega)
        have hbb := HW.out.trans hnx
        have HBB := hide hbb
        replace g0 := cellUp g0 hbb
        replace g1 := cellUp g1 hbb
        replace g2 := cellUp g2 hbb
        replace g3 := cellUp g3 hbb
        replace g4 := cellUp g4 hbb
        replace g5 := cellUp g5 hbb
        replace g6 := cellUp g6 hbb
        replace g7 := cellUp g7 hbb
        have HST : Hid (StC W0 M [.int .i64 y.kind, .string y.name, e0, e1, e2, e3, va, vb] y) := hide ⟨e0, e1, e2, e3, va, vb, rfl, k1, k2, hx.mono M (by omega), hva.mono M (by omega), hvb.mono M (by omega)⟩
        have HVA := hide hva
        have HVB := hide hvb
        have HLS : Hid ((l ++ ((body.take j).flatMap (Nm.within (Nm.all m))).flatMap D).length + ((D y).length + ((Nm.all m y.a).flatMap D).length + ((Nm.all m y.b).flatMap D).length) ≤ 16777216) := hide (by
          have h1 := HLEN.out
          rw [HPC.out] at h1
          have h2 := flatMap_le (f := Nm.within (Nm.all m)) (g := D) (l := body) (j + 1)
          rw [flat_succ hy, List.flatMap_append, List.length_append] at h2
          simp only [Nm.within, List.flatMap_append, List.length_append, List.flatMap_cons, List.flatMap_nil, List.append_nil] at h2
          rw [List.length_append]
          omega)
        obtain ⟨sa, ca, rfl⟩ := hva.shapeN
        obtain ⟨sb, cb', rfl⟩ := hvb.shapeN
        obtain ⟨xa, xc, rfl, rfl, rfl, rfl⟩ := hx.shape
        generalize y.a.length = na at *
        generalize y.b.length = nb at *
        generalize y.e.args.length = ne at *
        have HBX := hide (block_new wr (.cells #[.int .i64 y.kind, .string y.name, .int .i64 y.e.kind, .int .i64 y.e.n, .string y.e.name, .slice xa ne xc, .slice sa na ca, .slice sb nb cb'] 119))
        have HB3 := hide (boxBelow wr (.cells #[.int .i64 y.kind, .string y.name, .int .i64 y.e.kind, .int .i64 y.e.n, .string y.e.name, .slice xa ne xc, .slice sa na ca, .slice sb nb cb'] 119))
        have hz := box8 wr (.int .i64 y.kind) (.string y.name) (.int .i64 y.e.kind) (.int .i64 y.e.n) (.string y.e.name) (.slice xa ne xc) (.slice sa na ca) (.slice sb nb cb') 119
        have z0 := hz 0 _ rfl
        have z1 := hz 1 _ rfl
        have z2 := hz 2 _ rfl
        have z3 := hz 3 _ rfl
        have z4 := hz 4 _ rfl
        have z5 := hz 5 _ rfl
        have z6 := hz 6 _ rfl
        have z7 := hz 7 _ rfl
        clear hx hva hvb hy hbb hnx hz
        go_wp2_with fail
        refine (HV.out _ _ _ _ _ _ _ y _ (HBB.out.trans (HB3.out.mono HBB.out.size)) ((HT.out.trans HTL.out).trans (Tells.of_below HB3.out)) (HTO2.out.below HB3.out) HST.out (by have := HLS.out; omega)).mono ?_
        rintro e w5 ⟨rfl, hto5, hb5, ht5⟩
        have HTO5 := hide hto5
        have HB5 := hide ((HNX.out.trans (HB3.out.mono HBB.out.size)).trans hb5)
        have HT5 := hide ((HTL.out.trans (Tells.of_below HB3.out)).trans ht5)
        have hbx5 := ht5.at (by have := HP2.out; omega) HBX.out (by decide)
        have HBX5 := hide hbx5
        have y6 := (block_at hbx5 6).trans (rfl : _ = some (Value.slice sa na ca))
        clear hto5 hb5 ht5 hbx5 z0 z1 z2 z3 z4 z5 z6 z7 g0 g1 g2 g3 g4 g5 g6 g7
        go_wp2_with fail
        refine (HI.out _ _ y.a _ (by omega) (HW.out.trans HB5.out) (HT.out.trans HT5.out) HTO5.out HVA.out (by have := HLS.out; rw [List.length_append]; omega)).mono ?_
        rintro e w6 ⟨rfl, hto6, hb6, ht6⟩
        have HTO6 := hide hto6
        have HB6 := hide (HB5.out.trans hb6)
        have HT6 := hide (HT5.out.trans ht6)
        have hbx6 := ht6.at (by have := HP2.out; omega) HBX5.out (by decide)
        have y7 := (block_at hbx6 7).trans (rfl : _ = some (Value.slice sb nb cb'))
        clear hto6 hb6 ht6 hbx6 y6
        go_wp2_with fail
        refine (HI.out _ _ y.b _ (by omega) (HW.out.trans HB6.out) (HT.out.trans HT6.out) HTO6.out HVB.out (by have := HLS.out; rw [List.length_append, List.length_append]; omega)).mono ?_
        rintro e w7 ⟨rfl, hto7, hb7, ht7⟩
        have HTO7 := hide hto7
        have HB7 := hide (HB6.out.trans hb7)
        have HT7 := hide (HT6.out.trans ht7)
        clear hto7 hb7 ht7 y7
        go_wp2_with fail
        go_roundw
        case rel => exact ⟨j + 1, by omega, by go_num, by
          rw [flat_succ HY.out, Nm.within, List.flatMap_append, List.flatMap_append, List.flatMap_append, ← List.append_assoc, ← List.append_assoc, ← List.append_assoc, List.flatMap_cons, List.flatMap_nil, List.append_nil]
          exact HTO7.out, HB7.out, HT7.out⟩
        case measure => simp [intOf]; omega
      · have hje : (body.take j) = body := List.take_of_length_le (by have := HL.out; omega)
        rw [hje] at HTO2
        clear hje hnx
        go_wp2_with fail
        go_end0
        exact ⟨rfl, by rw [HPC.out]; exact HTO2.out, HNX.out, HTL.out⟩
end Go.Proofs.YtholefgckcoklaaGreatDoor
