/- Walks over package names: callsIn, eachCommand, eachCall, whatever is done at each. -/
import Derived.Test.YtholefgckcoklaaGreatDoorBZAS
import Derived.Laws.EntriesVeiled
namespace Go.Proofs.YtholefgckcoklaaGreatDoor
open Go.RowKit
namespace Nm
def pcalls : Nat → Ex → List Ex
  | 0, _ => []
  | m + 1, x => (if x.kind = 4 then [x] else []) ++ x.args.flatMap (pcalls m)
end Nm
def VisE (W0 W : World) (M p g : Nat) (cb : Array Value) (D : Ex → List Dg) : Prop :=
  ∀ (w : World) (c0 c1 c2 c3 : Value) (y : Ex) (l : List Dg), Below W0.heap.size W0 w → Tells p W w → Told w W0.heap.size p l → ExAt W0 M c0 c1 c2 c3 y → l.length + (D y).length ≤ 16777216 →
    Calls Tryz.prog g (#[.agg #[c0, c1, c2, c3]] ++ cb) w fun e w' => e = .returned (.tuple #[]) ∧ Told w' W0.heap.size p (l ++ D y) ∧ Below W0.heap.size w w' ∧ Tells p w w'
theorem Told.lt {w : World} {n p : Nat} {l : List Dg} (h : Told w n p l) : p < w.heap.size := by
  obtain ⟨_, v, h1, _⟩ := h
  exact block_lt h1
theorem flatMap_le {α β γ : Type} {f : α → List β} {g : β → List γ} {l : List α} (j : Nat) : (((l.take j).flatMap f).flatMap g).length ≤ ((l.flatMap f).flatMap g).length := by
  have h := congrArg (fun t => ((t.flatMap f).flatMap g).length) (List.take_append_drop j l)
  simp only [List.flatMap_append, List.length_append] at h
  omega
set_option maxHeartbeats 2000000 in
set_option maxRecDepth 100000 in
theorem callsIn_any (W0 W : World) (M p g : Nat) (cb : Array Value) (D : Ex → List Dg) (eg : ∀ args w, (callFunc g args).run Tryz.prog w = .ok (.enter g args) w) (hv : VisE W0 W M p g cb D) (m : Nat) : ∀ (w : World) (c0 c1 c2 c3 : Value) (x : Ex) (l : List Dg), m ≤ M → Below W0.heap.size W0 w → Tells p W w → Told w W0.heap.size p l → ExAt W0 m c0 c1 c2 c3 x →
    l.length + ((Nm.pcalls m x).flatMap D).length ≤ 16777216 →
    Calls Tryz.prog 192 #[.agg #[c0, c1, c2, c3], .func (.func g) #[] cb] w fun e w' => e = .returned (.tuple #[]) ∧ Told w' W0.heap.size p (l ++ (Nm.pcalls m x).flatMap D) ∧ Below W0.heap.size w w' ∧ Tells p w w' := by
  induction m with
  | zero => intro w c0 c1 c2 c3 x l _ _ _ _ h; exact False.elim h
  | succ m ih =>
    intro w c0 c1 c2 c3 x l hM hW hT hl h hlen
    have HI := hide ih
    have HX := hide (h.mono M hM)
    have HV := hide hv
    have HW := hide hW
    have HT := hide hT
    have HTO := hide hl
    clear ih hW hv hT
    obtain ⟨rfl, rfl, rfl, hsz, hk1, hk2, a, b, off, cap, rfl, ha, hbig, hel⟩ := h
    obtain ⟨k, n, s, args⟩ := x
    simp only at hsz hk1 hk2 ha hbig hel HX ⊢
    have HEL := hide hel
    have HA := hide ha
    have HLEN := hide hlen
    have HPC : Hid (Nm.pcalls (m + 1) ⟨k, n, s, args⟩ = (if k = 4 then [⟨k, n, s, args⟩] else []) ++ args.flatMap (Nm.pcalls m)) := rfl
    obtain ⟨len, hlen'⟩ : ∃ len, len = args.length := ⟨_, rfl⟩
    have HL := hide hlen'
    rw [← hlen'] at hbig HA HX ⊢
    obtain ⟨R, hR⟩ : ∃ R, R = Nm.pcalls (m + 1) ⟨k, n, s, args⟩ := ⟨_, rfl⟩
    rw [← hR] at HPC HLEN ⊢
    have HP := hide hl.lt
    have HBX := hide (block_new w (.cells #[.int .i64 k, .int .i64 n, .string s, .slice a len cap] 103))
    have HB0 := hide (boxBelow w (.cells #[.int .i64 k, .int .i64 n, .string s, .slice a len cap] 103))
    have q0 := boxD0 w (.int .i64 k) (.int .i64 n) (.string s) (.slice a len cap) 103
    have q1 := boxD1 w (.int .i64 k) (.int .i64 n) (.string s) (.slice a len cap) 103
    have q2 := boxD2 w (.int .i64 k) (.int .i64 n) (.string s) (.slice a len cap) 103
    have q3 := boxN3 w (.int .i64 k) (.int .i64 n) (.string s) (.slice a len cap) 103
    clear hel ha hlen hlen' hR hl
    by_cases h4 : k = 4
    · have h4' : (k == 4) = true := by simp [h4]
      rw [if_pos h4] at HPC
      clear h4
      go_enter Tryz.func192, Tryz.ntmps192
      go_wp2_with fail
      refine (HV.out _ _ _ _ _ ⟨k, n, s, args⟩ l (HW.out.trans (HB0.out.mono HW.out.size)) (HT.out.trans (Tells.of_below HB0.out)) (HTO.out.below HB0.out) HX.out (by
        have h1 := HLEN.out
        rw [HPC.out] at h1
        simp only [List.flatMap_append, List.length_append, List.flatMap_cons, List.flatMap_nil, List.append_nil] at h1
        omega)).mono ?_
      rintro e w1 ⟨rfl, hto1, hb1, ht1⟩
      have HT1 := hide hto1
      have HB1 := hide ((HB0.out.mono HW.out.size).trans hb1)
      have HS1 := hide ((Tells.of_below HB0.out).trans ht1)
      replace q3 := (block_at (ht1.at (by have := HP.out; omega) HBX.out (by decide)) 3).trans (rfl : _ = some (Value.slice a len cap))
      clear hto1 hb1 ht1 q0 q1 q2
      go_wp2_with fail
      go_loopw [15] (fun i wr => ∃ j : Nat, j ≤ len ∧ i = .int .i64 j ∧ Told wr W0.heap.size p ((l ++ D ⟨k, n, s, args⟩) ++ ((args.take j).flatMap (Nm.pcalls m)).flatMap D) ∧ Below W0.heap.size w wr ∧ Tells p w wr) (fun i _ => len - (intOf i).toNat)
      case atStart => exact ⟨0, Nat.zero_le _, rfl, by simpa using HT1.out, HB1.out, HS1.out⟩
      case round =>
        obtain ⟨j, hj, rfl, hto, hnx, htl⟩ := hrel
        have HTO2 := hide hto
        have HNX := hide hnx
        have HTL := hide htl
        clear hto htl
        by_cases hjl : j < len
        · obtain ⟨y, hy⟩ : ∃ y, args[j]? = some y := ⟨_, List.getElem?_eq_getElem (by rw [← HL.out]; exact hjl)⟩
          obtain ⟨e0, e1, e2, e3, g0, g1, g2, g3, hye⟩ := HEL.out j y hy
          have HY := hide hy
          obtain rfl := HA.out (by omega)
          have hbb := HW.out.trans hnx
          have HBB := hide hbb
          replace g0 := cellUp g0 hbb
          replace g1 := cellUp g1 hbb
          replace g2 := cellUp g2 hbb
          replace g3 := cellUp g3 hbb
          have HYE := hide hye
          obtain ⟨xa, xc, rfl, rfl, rfl, rfl⟩ := hye.shape
          have HLS : Hid (((l ++ D ⟨k, n, s, args⟩) ++ ((args.take j).flatMap (Nm.pcalls m)).flatMap D).length + ((Nm.pcalls m y).flatMap D).length ≤ 16777216) := hide (by
            have h1 := HLEN.out
            rw [HPC.out] at h1
            have h2 := flatMap_le (f := Nm.pcalls m) (g := D) (l := args) (j + 1)
            rw [flat_succ hy, List.flatMap_append, List.length_append] at h2
            simp only [List.flatMap_append, List.length_append, List.flatMap_cons, List.flatMap_nil, List.append_nil] at h1 h2 ⊢
            omega)
          have HB3 := hide (boxBelow wr (.cells #[.int .i64 y.kind, .int .i64 y.n, .string y.name, .slice xa y.args.length xc] 103))
          have z0 := boxD0 wr (.int .i64 y.kind) (.int .i64 y.n) (.string y.name) (.slice xa y.args.length xc) 103
          have z1 := boxD1 wr (.int .i64 y.kind) (.int .i64 y.n) (.string y.name) (.slice xa y.args.length xc) 103
          have z2 := boxD2 wr (.int .i64 y.kind) (.int .i64 y.n) (.string y.name) (.slice xa y.args.length xc) 103
          have z3 := boxN3 wr (.int .i64 y.kind) (.int .i64 y.n) (.string y.name) (.slice xa y.args.length xc) 103
          clear hye hy hbb hnx
          generalize y.args.length = ny at *
          go_wp2_with fail
          refine (HI.out _ _ _ _ _ y _ (by omega) (HBB.out.trans (HB3.out.mono HBB.out.size)) ((HT.out.trans HTL.out).trans (Tells.of_below HB3.out)) (HTO2.out.below HB3.out) HYE.out HLS.out).mono ?_
          rintro e w5 ⟨rfl, hto5, hb5, ht5⟩
          have HTO5 := hide hto5
          have HB5 := hide ((HNX.out.trans (HB3.out.mono HBB.out.size)).trans hb5)
          have HT5 := hide ((HTL.out.trans (Tells.of_below HB3.out)).trans ht5)
          clear hto5 hb5 ht5 z0 z1 z2 z3 g0 g1 g2 g3
          go_wp2_with fail
          go_roundw
          case rel => exact ⟨j + 1, by omega, by go_num, by rw [flat_succ HY.out, List.flatMap_append, ← List.append_assoc]; exact HTO5.out, HB5.out, HT5.out⟩
          case measure => simp [intOf]; omega
        · have hje : (args.take j) = args := List.take_of_length_le (by have := HL.out; omega)
          rw [hje] at HTO2
          clear hje hnx
          go_wp2_with fail
          go_end0
          exact ⟨rfl, by rw [HPC.out, List.flatMap_append, ← List.append_assoc]; simpa using HTO2.out, HNX.out, HTL.out⟩
    · have h4' : (k == 4) = false := by simp [h4]
      rw [if_neg h4, List.nil_append] at HPC
      clear h4
      have HT1 := hide (HTO.out.below HB0.out)
      have HB1 := hide (HB0.out.mono HW.out.size)
      have HS1 : Hid (Tells p w _) := hide (Tells.of_below HB0.out)
      go_enter Tryz.func192, Tryz.ntmps192
      go_wp2_with fail
      go_loopw [15] (fun i wr => ∃ j : Nat, j ≤ len ∧ i = .int .i64 j ∧ Told wr W0.heap.size p (l ++ ((args.take j).flatMap (Nm.pcalls m)).flatMap D) ∧ Below W0.heap.size w wr ∧ Tells p w wr) (fun i _ => len - (intOf i).toNat)
      case atStart => exact ⟨0, Nat.zero_le _, rfl, by simpa using HT1.out, HB1.out, HS1.out⟩
      case round =>
        obtain ⟨j, hj, rfl, hto, hnx, htl⟩ := hrel
        have HTO2 := hide hto
        have HNX := hide hnx
        have HTL := hide htl
        clear hto htl
        by_cases hjl : j < len
        · obtain ⟨y, hy⟩ : ∃ y, args[j]? = some y := ⟨_, List.getElem?_eq_getElem (by rw [← HL.out]; exact hjl)⟩
          obtain ⟨e0, e1, e2, e3, g0, g1, g2, g3, hye⟩ := HEL.out j y hy
          have HY := hide hy
          obtain rfl := HA.out (by omega)
          have hbb := HW.out.trans hnx
          have HBB := hide hbb
          replace g0 := cellUp g0 hbb
          replace g1 := cellUp g1 hbb
          replace g2 := cellUp g2 hbb
          replace g3 := cellUp g3 hbb
          have HYE := hide hye
          obtain ⟨xa, xc, rfl, rfl, rfl, rfl⟩ := hye.shape
          have HLS : Hid ((l ++ ((args.take j).flatMap (Nm.pcalls m)).flatMap D).length + ((Nm.pcalls m y).flatMap D).length ≤ 16777216) := hide (by
            have h1 := HLEN.out
            rw [HPC.out] at h1
            have h2 := flatMap_le (f := Nm.pcalls m) (g := D) (l := args) (j + 1)
            rw [flat_succ hy, List.flatMap_append, List.length_append] at h2
            rw [List.length_append]
            omega)
          have HB3 := hide (boxBelow wr (.cells #[.int .i64 y.kind, .int .i64 y.n, .string y.name, .slice xa y.args.length xc] 103))
          have z0 := boxD0 wr (.int .i64 y.kind) (.int .i64 y.n) (.string y.name) (.slice xa y.args.length xc) 103
          have z1 := boxD1 wr (.int .i64 y.kind) (.int .i64 y.n) (.string y.name) (.slice xa y.args.length xc) 103
          have z2 := boxD2 wr (.int .i64 y.kind) (.int .i64 y.n) (.string y.name) (.slice xa y.args.length xc) 103
          have z3 := boxN3 wr (.int .i64 y.kind) (.int .i64 y.n) (.string y.name) (.slice xa y.args.length xc) 103
          clear hye hy hbb hnx
          generalize y.args.length = ny at *
          go_wp2_with fail
          refine (HI.out _ _ _ _ _ y _ (by omega) (HBB.out.trans (HB3.out.mono HBB.out.size)) ((HT.out.trans HTL.out).trans (Tells.of_below HB3.out)) (HTO2.out.below HB3.out) HYE.out HLS.out).mono ?_
          rintro e w5 ⟨rfl, hto5, hb5, ht5⟩
          have HTO5 := hide hto5
          have HB5 := hide ((HNX.out.trans (HB3.out.mono HBB.out.size)).trans hb5)
          have HT5 := hide ((HTL.out.trans (Tells.of_below HB3.out)).trans ht5)
          clear hto5 hb5 ht5 z0 z1 z2 z3 g0 g1 g2 g3
          go_wp2_with fail
          go_roundw
          case rel => exact ⟨j + 1, by omega, by go_num, by rw [flat_succ HY.out, List.flatMap_append, ← List.append_assoc]; exact HTO5.out, HB5.out, HT5.out⟩
          case measure => simp [intOf]; omega
        · have hje : (args.take j) = args := List.take_of_length_le (by have := HL.out; omega)
          rw [hje] at HTO2
          clear hje hnx
          go_wp2_with fail
          go_end0
          exact ⟨rfl, by rw [HPC.out]; exact HTO2.out, HNX.out, HTL.out⟩
def VisS (W0 W : World) (M p g : Nat) (cb : Array Value) (D : St → List Dg) : Prop :=
  ∀ (w : World) (e0 e1 e2 e3 va vb : Value) (s : St) (l : List Dg), Below W0.heap.size W0 w → Tells p W w → Told w W0.heap.size p l → StC W0 M [.int .i64 s.kind, .string s.name, e0, e1, e2, e3, va, vb] s → l.length + (D s).length ≤ 16777216 →
    Calls Tryz.prog g (#[.agg #[.int .i64 s.kind, .string s.name, e0, e1, e2, e3, va, vb]] ++ cb) w fun e w' => e = .returned (.tuple #[]) ∧ Told w' W0.heap.size p (l ++ D s) ∧ Below W0.heap.size w w' ∧ Tells p w w'
theorem box8 (w : World) (c0 c1 c2 c3 c4 c5 c6 c7 : Value) (t : TypeId) (i : Nat) (v : Value) (h : (#[c0, c1, c2, c3, c4, c5, c6, c7] : Array Value)[i]? = some v) : (w.alloc (.cells #[c0, c1, c2, c3, c4, c5, c6, c7] t)).cell? ⟨w.heap.size, i, none⟩ = some v :=
  (block_at (block_new w (.cells #[c0, c1, c2, c3, c4, c5, c6, c7] t)) i).trans h
set_option maxHeartbeats 2000000 in
set_option maxRecDepth 100000 in
theorem eachCommand_any (W0 W : World) (M p g : Nat) (cb : Array Value) (D : St → List Dg) (eg : ∀ args w, (callFunc g args).run Tryz.prog w = .ok (.enter g args) w) (hv : VisS W0 W M p g cb D) (m : Nat) : ∀ (w : World) (v : Value) (b : List St) (l : List Dg), m ≤ M → Below W0.heap.size W0 w → Tells p W w → Told w W0.heap.size p l → StsAt W0 m v b →
    l.length + ((Nm.all m b).flatMap D).length ≤ 16777216 →
    Calls Tryz.prog 130 #[v, .func (.func g) #[] cb] w fun e w' => e = .returned (.tuple #[]) ∧ Told w' W0.heap.size p (l ++ (Nm.all m b).flatMap D) ∧ Below W0.heap.size w w' ∧ Tells p w w' := by
  induction m with
  | zero => intro w v b l _ _ _ _ h; exact False.elim h
  | succ m ih =>
    intro w v body l hM hW hT hl h hlen
    have HI := hide ih
    have HV := hide hv
    have HW := hide hW
    have HT := hide hT
    have HTO := hide hl
    have HLEN := hide hlen
    clear ih hW hv hT
    obtain ⟨a, b, off, cap, rfl, ha, hbig, hel⟩ := h
    have HEL := hide hel
    have HA := hide ha
    obtain ⟨len, hlen'⟩ : ∃ len, len = body.length := ⟨_, rfl⟩
    have HL := hide hlen'
    rw [← hlen'] at hbig HA ⊢
    have HP := hide hl.lt
    have HPC : Hid (Nm.all (m + 1) body = body.flatMap (Nm.within (Nm.all m))) := rfl
    obtain ⟨R, hR⟩ : ∃ R, R = Nm.all (m + 1) body := ⟨_, rfl⟩
    rw [← hR] at HPC HLEN ⊢
    clear hel ha hlen hlen' hR hl
    go_enter Tryz.func130, Tryz.ntmps130
    go_wp2_with fail
    go_loopw [8] (fun i wr => ∃ j : Nat, j ≤ len ∧ i = .int .i64 j ∧ Told wr W0.heap.size p (l ++ ((body.take j).flatMap (Nm.within (Nm.all m))).flatMap D) ∧ Below W0.heap.size w wr ∧ Tells p w wr) (fun i _ => len - (intOf i).toNat)
    case atStart => exact ⟨0, Nat.zero_le _, rfl, by simpa using HTO.out, Below.refl _ _, Tells.refl _ _⟩
    case round =>
      obtain ⟨j, hj, rfl, hto, hnx, htl⟩ := hrel
      have HTO2 := hide hto
      have HNX := hide hnx
      have HTL := hide htl
      have HP2 := hide hto.lt
      clear hto htl
      by_cases hjl : j < len
      · obtain ⟨y, hy⟩ : ∃ y, body[j]? = some y := ⟨_, List.getElem?_eq_getElem (by rw [← HL.out]; exact hjl)⟩
        obtain ⟨k1, k2, e0, e1, e2, e3, va, vb, g0, g1, g2, g3, g4, g5, g6, g7, hx, hva, hvb⟩ := HEL.out j y hy
        have HY := hide hy
        obtain rfl := HA.out (by omega)
        have hbb := HW.out.trans hnx
        have HBB := hide hbb
        replace g0 := cellUp g0 hbb
        replace g1 := cellUp g1 hbb
        replace g2 := cellUp g2 hbb
        replace g3 := cellUp g3 hbb
        replace g4 := cellUp g4 hbb
        replace g5 := cellUp g5 hbb
        replace g6 := cellUp g6 hbb
        replace g7 := cellUp g7 hbb
        have HST : Hid (StC W0 M [.int .i64 y.kind, .string y.name, e0, e1, e2, e3, va, vb] y) := hide ⟨e0, e1, e2, e3, va, vb, rfl, k1, k2, hx.mono M (by omega), hva.mono M (by omega), hvb.mono M (by omega)⟩
        have HVA := hide hva
        have HVB := hide hvb
        have HLS : Hid ((l ++ ((body.take j).flatMap (Nm.within (Nm.all m))).flatMap D).length + ((D y).length + ((Nm.all m y.a).flatMap D).length + ((Nm.all m y.b).flatMap D).length) ≤ 16777216) := hide (by
          have h1 := HLEN.out
          rw [HPC.out] at h1
          have h2 := flatMap_le (f := Nm.within (Nm.all m)) (g := D) (l := body) (j + 1)
          rw [flat_succ hy, List.flatMap_append, List.length_append] at h2
          simp only [Nm.within, List.flatMap_append, List.length_append, List.flatMap_cons, List.flatMap_nil, List.append_nil] at h2
          rw [List.length_append]
          omega)
        obtain ⟨sa, ca, rfl⟩ := hva.shapeN
        obtain ⟨sb, cb', rfl⟩ := hvb.shapeN
        obtain ⟨xa, xc, rfl, rfl, rfl, rfl⟩ := hx.shape
        generalize y.a.length = na at *
        generalize y.b.length = nb at *
        generalize y.e.args.length = ne at *
        have HBX := hide (block_new wr (.cells #[.int .i64 y.kind, .string y.name, .int .i64 y.e.kind, .int .i64 y.e.n, .string y.e.name, .slice xa ne xc, .slice sa na ca, .slice sb nb cb'] 119))
        have HB3 := hide (boxBelow wr (.cells #[.int .i64 y.kind, .string y.name, .int .i64 y.e.kind, .int .i64 y.e.n, .string y.e.name, .slice xa ne xc, .slice sa na ca, .slice sb nb cb'] 119))
        have hz := box8 wr (.int .i64 y.kind) (.string y.name) (.int .i64 y.e.kind) (.int .i64 y.e.n) (.string y.e.name) (.slice xa ne xc) (.slice sa na ca) (.slice sb nb cb') 119
        have z0 := hz 0 _ rfl
        have z1 := hz 1 _ rfl
        have z2 := hz 2 _ rfl
        have z3 := hz 3 _ rfl
        have z4 := hz 4 _ rfl
        have z5 := hz 5 _ rfl
        have z6 := hz 6 _ rfl
        have z7 := hz 7 _ rfl
        clear hx hva hvb hy hbb hnx hz
        go_wp2_with fail
        refine (HV.out _ _ _ _ _ _ _ y _ (HBB.out.trans (HB3.out.mono HBB.out.size)) ((HT.out.trans HTL.out).trans (Tells.of_below HB3.out)) (HTO2.out.below HB3.out) HST.out (by have := HLS.out; omega)).mono ?_
        rintro e w5 ⟨rfl, hto5, hb5, ht5⟩
        have HTO5 := hide hto5
        have HB5 := hide ((HNX.out.trans (HB3.out.mono HBB.out.size)).trans hb5)
        have HT5 := hide ((HTL.out.trans (Tells.of_below HB3.out)).trans ht5)
        have hbx5 := ht5.at (by have := HP2.out; omega) HBX.out (by decide)
        have HBX5 := hide hbx5
        have y6 := (block_at hbx5 6).trans (rfl : _ = some (Value.slice sa na ca))
        clear hto5 hb5 ht5 hbx5 z0 z1 z2 z3 z4 z5 z6 z7 g0 g1 g2 g3 g4 g5 g6 g7
        go_wp2_with fail
        refine (HI.out _ _ y.a _ (by omega) (HW.out.trans HB5.out) (HT.out.trans HT5.out) HTO5.out HVA.out (by have := HLS.out; rw [List.length_append]; omega)).mono ?_
        rintro e w6 ⟨rfl, hto6, hb6, ht6⟩
        have HTO6 := hide hto6
        have HB6 := hide (HB5.out.trans hb6)
        have HT6 := hide (HT5.out.trans ht6)
        have hbx6 := ht6.at (by have := HP2.out; omega) HBX5.out (by decide)
        have y7 := (block_at hbx6 7).trans (rfl : _ = some (Value.slice sb nb cb'))
        clear hto6 hb6 ht6 hbx6 y6
        go_wp2_with fail
        refine (HI.out _ _ y.b _ (by omega) (HW.out.trans HB6.out) (HT.out.trans HT6.out) HTO6.out HVB.out (by have := HLS.out; rw [List.length_append, List.length_append]; omega)).mono ?_
        rintro e w7 ⟨rfl, hto7, hb7, ht7⟩
        have HTO7 := hide hto7
        have HB7 := hide (HB6.out.trans hb7)
        have HT7 := hide (HT6.out.trans ht7)
        clear hto7 hb7 ht7 y7
        go_wp2_with fail
        go_roundw
        case rel => exact ⟨j + 1, by omega, by go_num, by
          rw [flat_succ HY.out, Nm.within, List.flatMap_append, List.flatMap_append, List.flatMap_append, ← List.append_assoc, ← List.append_assoc, ← List.append_assoc, List.flatMap_cons, List.flatMap_nil, List.append_nil]
          exact HTO7.out, HB7.out, HT7.out⟩
        case measure => simp [intOf]; omega
      · have hje : (body.take j) = body := List.take_of_length_le (by have := HL.out; omega)
        rw [hje] at HTO2
        clear hje hnx
        go_wp2_with fail
        go_end0
        exact ⟨rfl, by rw [HPC.out]; exact HTO2.out, HNX.out, HTL.out⟩
end Go.Proofs.YtholefgckcoklaaGreatDoor
namespace Go.Proofs.YtholefgckcoklaaGreatDoor
open Go.RowKit
set_option maxHeartbeats 2000000 in
set_option maxRecDepth 100000 in
theorem ask_any (w : World) (n p q : Nat) (l : List Dg) (vn : Value) (names : List ByteArray) (fn name : ByteArray) (h : Told w n p l) (hn : n ≤ w.heap.size) (hl : l.length + (Nm.lev names fn name).length ≤ 16777216) (hq : w.cell? ⟨q, 0, none⟩ = some vn) (hN : Strs w vn names) :
    Calls Tryz.prog 129 #[.string fn, .string name, .pointer (some ⟨q, 0, none⟩), .pointer (some ⟨p, 0, none⟩)] w fun e w' => e = .returned (.tuple #[]) ∧ Told w' n p (l ++ Nm.lev names fn name) ∧ Below n w w' ∧ Tells p w w' := by
  have HN := hide hN
  have HT := hide h
  obtain ⟨a, b, off, cap, rfl, _⟩ := hN
  have HL : Hid (Nm.lev names fn name = if decide (0 ≤ Lat.indexI names name) = true then [] else [⟨3, fn, name⟩]) := rfl
  obtain ⟨h0, v, h1, h2⟩ := h
  have q0 : w.cell? ⟨p, 0, none⟩ = some v := by rw [block_at h1]; rfl
  have H0 := hide h0
  have H1 := hide h1
  have H2 := hide h2
  have HR := hide (containsS_any w _ names name HN.out)
  rw [HL.out] at hl
  generalize decide (0 ≤ Lat.indexI names name) = is at *
  clear h0 h1 h2
  go_enter Tryz.func129, Tryz.ntmps129
  go_wp2_with fail
  refine HR.out.mono ?_
  rintro e w' ⟨rfl, hw'⟩
  subst hw'
  cases is
  · have hl2 : l.length < 16777216 := by simp at hl; omega
    clear hl
    go_wp2_with (first
      | (at_builtin; refine wpList_append_K (At := DgC) rfl _ _ 37 43 3 40 _ rfl Tryz.underlying37 infoDg (by decide) (by decide) (by decide) n _ _ rfl (H2.out.below (boxBelow _ _)) _ _ [⟨3, fn, name⟩] rfl (OwnK.one _ _ rfl (DgC.one (d := ⟨3, fn, name⟩) rfl) rfl) (by simp only [List.length_singleton]; omega) (Nat.le_trans hn (boxBelow _ _).size) ?_; intro v6 w6 hown6 hgrow6; obtain ⟨a6, c6, hv6⟩ := hown6.form; subst hv6; have HP := hide (Told.push H0.out H1.out H2.out hown6 hgrow6); have z0 := (block_at HP.out.1 0).trans (show _ = some v from rfl); have zf := block_free HP.out.1 0; clear hown6 hgrow6)
      | fail)
    go_end0
    have hl1 : (l ++ [(⟨3, fn, name⟩ : Dg)]).length = l.length + 1 := by simp
    rw [hl1] at HP
    exact ⟨rfl, by rw [HL.out]; exact HP.out.2.1, HP.out.2.2⟩
  · go_wp2_with fail
    go_end0
    exact ⟨rfl, by rw [HL.out]; simpa using HT.out, Below.refl _ _, Tells.refl _ _⟩
namespace Nm
def levS (names : List ByteArray) (fn : ByteArray) (s : St) : List Dg := if s.kind = 4 then lev names fn s.name else []
theorem lev_len (names : List ByteArray) (fn name : ByteArray) : (lev names fn name).length ≤ 1 := by unfold lev; split <;> simp
theorem levS_len (names : List ByteArray) (fn : ByteArray) (s : St) : (levS names fn s).length ≤ 1 := by
  unfold levS; split
  · exact lev_len _ _ _
  · simp
end Nm
set_option maxHeartbeats 2000000 in
set_option maxRecDepth 100000 in
theorem askS_any (W0 W : World) (M p q r bf : Nat) (vn : Value) (names : List ByteArray) (fn : ByteArray) (cf lc : Array Value) (hN : Strs W0 vn names) (hq : W.heap[q]? = some (.cells lc 34 (0, 0))) (hqn : lc[0]? = some vn)
    (hr : W.heap[r]? = some (.cells #[.func (.func 129) #[] #[.pointer (some ⟨q, 0, none⟩), .pointer (some ⟨p, 0, none⟩)]] 115 (0, 0))) (hf : W.heap[bf]? = some (.cells cf 106 (0, 0))) (hfn : cf[0]? = some (.string fn))
    (hqp : q ≠ p) (hrp : r ≠ p) (hfp : bf ≠ p) :
    VisS W0 W M p 131 #[.pointer (some ⟨r, 0, none⟩), .pointer (some ⟨bf, 0, none⟩)] (Nm.levS names fn) := by
  intro w e0 e1 e2 e3 va vb s l hW hT hl hst hlen
  have HB0 := hide (boxBelow w (.cells #[.int .i64 s.kind, .string s.name, e0, e1, e2, e3, va, vb] 119))
  have hz := box8 w (.int .i64 s.kind) (.string s.name) e0 e1 e2 e3 va vb 119
  have z0 := hz 0 _ rfl
  have z1 := hz 1 _ rfl
  have hq1 := cellUp ((block_at (hT.at hqp hq (by decide)) 0).trans hqn) HB0.out
  have HQ1 := hide hq1
  have hr1 := cellUp ((block_at (hT.at hrp hr (by decide)) 0).trans rfl) HB0.out
  have hf1 := cellUp ((block_at (hT.at hfp hf (by decide)) 0).trans hfn) HB0.out
  have HN1 := hide ((hN.below hW).below HB0.out)
  have HTO := hide (hl.below HB0.out)
  have HW := hide hW
  have HTO0 := hide hl
  clear hz hq hqn hr hf hfn hN hst hl hT hW
  show Calls Tryz.prog 131 #[.agg #[.int .i64 s.kind, .string s.name, e0, e1, e2, e3, va, vb], .pointer (some ⟨r, 0, none⟩), .pointer (some ⟨bf, 0, none⟩)] w _
  by_cases h4 : s.kind = 4
  · have h4' : (s.kind == 4) = true := by simp [h4]
    have HL : Hid (Nm.levS names fn s = Nm.lev names fn s.name) := hide (by unfold Nm.levS; rw [if_pos h4])
    rw [HL.out] at hlen ⊢
    have HLE := hide hlen
    clear h4 hlen
    go_enter Tryz.func131, Tryz.ntmps131
    go_wp2_with fail
    refine (ask_any _ W0.heap.size p q l vn names fn s.name HTO.out (Nat.le_trans HW.out.size HB0.out.size) HLE.out HQ1.out HN1.out).mono ?_
    rintro e w5 ⟨rfl, hto5, hb5, ht5⟩
    have HTO5 := hide hto5
    have HB5 := hide ((HB0.out.mono HW.out.size).trans hb5)
    have HT5 : Hid (Tells p w w5) := hide ((Tells.of_below HB0.out).trans ht5)
    clear hto5 hb5 ht5
    go_wp2
    go_end0
    exact ⟨rfl, HTO5.out, HB5.out, HT5.out⟩
  · have h4' : (s.kind == 4) = false := by simp [h4]
    have HL : Hid (Nm.levS names fn s = []) := hide (by unfold Nm.levS; rw [if_neg h4])
    clear h4
    go_enter Tryz.func131, Tryz.ntmps131
    go_wp2_with fail
    go_end0
    exact ⟨rfl, by rw [HL.out, List.append_nil]; exact HTO.out, HB0.out.mono HW.out.size, Tells.of_below HB0.out⟩
namespace Nm
def lvD (names : List ByteArray) (x : Mo) (m : Nat) : List Dg := (x.vars.flatMap fun v => lev names ⟨#[]⟩ v.level) ++ x.funs.flatMap fun f => (all m f.body).flatMap (levS names f.name)
end Nm
theorem al4 (w : World) (a b c d : Obj) : ((((w.alloc a).alloc b).alloc c).alloc d).heap[w.heap.size]? = some a ∧ ((((w.alloc a).alloc b).alloc c).alloc d).heap[w.heap.size + 1]? = some b ∧
    ((((w.alloc a).alloc b).alloc c).alloc d).heap[w.heap.size + 1 + 1]? = some c ∧ ((((w.alloc a).alloc b).alloc c).alloc d).heap[w.heap.size + 1 + 1 + 1]? = some d ∧ Below w.heap.size w ((((w.alloc a).alloc b).alloc c).alloc d) := by
  have h1 := block_new w a
  have h2 := block_new (w.alloc a) b
  have h3 := block_new ((w.alloc a).alloc b) c
  have h4 := block_new (((w.alloc a).alloc b).alloc c) d
  simp only [World.size_alloc] at h2 h3 h4
  refine ⟨?_, ?_, ?_, h4, up (up (up (boxBelow _ _) (boxBelow _ _)) (boxBelow _ _)) (boxBelow _ _)⟩
  · rw [(boxBelow _ d).block _ (by simp; omega), (boxBelow _ c).block _ (by simp; omega), (boxBelow _ b).block _ (by simp)]; exact h1
  · rw [(boxBelow _ d).block _ (by simp), (boxBelow _ c).block _ (by simp)]; exact h2
  · rw [(boxBelow _ d).block _ (by simp)]; exact h3
set_option maxHeartbeats 4000000 in
set_option maxRecDepth 100000 in
theorem levelDiags_any (m : Nat) (w : World) (vn vl vi vv vf : Value) (names : List ByteArray) (x : Mo) (hN : Strs w vn names) (h : MoAt w m (.agg #[.string x.name, vi, vv, vf]) x) (hlen : (Nm.lvD names x m).length ≤ 16777216) :
    Calls Tryz.prog 58 #[.agg #[vn, vl], .agg #[.string x.name, vi, vv, vf]] w fun e w' => ∃ u, e = .returned u ∧ OwnK DgC w' w.heap.size 43 3 u (Nm.lvD names x m) ∧ Below w.heap.size w w' := by
  obtain ⟨hI, hV, hF⟩ := h.split
  have HN := hide hN
  obtain ⟨an, bn, on, cn, rfl, -⟩ := hN
  obtain ⟨ai, bi, oi, ci, rfl, -⟩ := hI
  obtain ⟨av, bv, ov, cv, rfl, hav, hlv, hcv⟩ := hV
  obtain ⟨af, bf, of, cf, rfl, haf, hlf, hcf⟩ := hF
  have HCV := hide hcv
  have HAV := hide hav
  have HCF : Hid (FuEl w m bf of x.funs) := hcf
  have HAF := hide haf
  have HLD : Hid (Nm.lvD names x m = (x.vars.flatMap fun v => Nm.lev names ⟨#[]⟩ v.level) ++ x.funs.flatMap fun f => (Nm.all m f.body).flatMap (Nm.levS names f.name)) := rfl
  have HLE := hide hlen
  obtain ⟨R, hR⟩ : ∃ R, R = Nm.lvD names x m := ⟨_, rfl⟩
  rw [← hR] at HLD HLE ⊢
  obtain ⟨vars, hvars⟩ : ∃ l, l = x.vars := ⟨_, rfl⟩
  obtain ⟨funs, hfuns⟩ : ∃ l, l = x.funs := ⟨_, rfl⟩
  rw [← hvars] at hlv HCV HAV HLD ⊢
  rw [← hfuns] at hlf HCF HAF HLD ⊢
  obtain ⟨nv, hnv⟩ : ∃ n, n = vars.length := ⟨_, rfl⟩
  obtain ⟨nf, hnf⟩ : ∃ n, n = funs.length := ⟨_, rfl⟩
  have HNV := hide hnv
  have HNF := hide hnf
  rw [← hnv] at hlv HAV ⊢
  rw [← hnf] at hlf HAF ⊢
  generalize x.imports.length = ni at *
  generalize names.length = nn at *
  generalize x.name = xn at *
  obtain ⟨b0, b1, b2, b3, hb0⟩ := al4 w (.cells #[.slice an nn cn, vl] 34) (.cells #[.string xn, .slice ai ni ci, .slice av nv cv, .slice af nf cf] 26) (.cells #[.slice none 0 0] 37)
    (.cells #[.func (.func 129) #[] #[.pointer (some ⟨w.heap.size, 0, none⟩), .pointer (some ⟨w.heap.size + 1 + 1, 0, none⟩)]] 115)
  have HB0 := hide b0
  have HB1 := hide b1
  have HB3 := hide b3
  have HBL := hide hb0
  have q12 := (block_at b1 2).trans (rfl : _ = some (Value.slice av nv cv))
  have HTO : Hid (Told _ w.heap.size (w.heap.size + 1 + 1) []) := hide ⟨by omega, _, b2, OwnK.nil _ _ _ _⟩
  clear hcv hav hcf haf hlen hR hvars hfuns hnv hnf h b0 b1 b2 b3 hb0
  go_enter Tryz.func58, Tryz.ntmps58
  go_wp2_with fail
  generalize ((((w.alloc (.cells #[.slice an nn cn, vl] 34)).alloc (.cells #[.string xn, .slice ai ni ci, .slice av nv cv, .slice af nf cf] 26)).alloc (.cells #[.slice none 0 0] 37)).alloc
    (.cells #[.func (.func 129) #[] #[.pointer (some ⟨w.heap.size, 0, none⟩), .pointer (some ⟨w.heap.size + 1 + 1, 0, none⟩)]] 115)) = W1 at *
  clear q12
  go_loopw [15] (fun i wr => ∃ j : Nat, j ≤ nv ∧ i = .int .i64 j ∧ Told wr w.heap.size (w.heap.size + 1 + 1) ((vars.take j).flatMap fun v => Nm.lev names ⟨#[]⟩ v.level) ∧ Below w.heap.size w wr ∧ Tells (w.heap.size + 1 + 1) W1 wr) (fun i _ => nv - (intOf i).toNat)
  case atStart => exact ⟨0, Nat.zero_le _, rfl, by simpa using HTO.out, HBL.out, Tells.refl _ _⟩
  case round =>
    obtain ⟨j, hj, rfl, hto, hnx, htl⟩ := hrel
    have HTO2 := hide hto
    have HNX := hide hnx
    have HTL := hide htl
    by_cases hjl : j < nv
    · obtain ⟨y, hy⟩ : ∃ y, vars[j]? = some y := ⟨_, List.getElem?_eq_getElem (by rw [← HNV.out]; exact hjl)⟩
      obtain ⟨-, -, g0, g1⟩ := HCV.out j y hy
      obtain rfl := HAV.out (by omega)
      replace g0 := cellUp g0 hnx
      replace g1 := cellUp g1 hnx
      have HY := hide hy
      have HB5 := hide (boxBelow wr (.cells #[.string y.name, .string y.level] 98))
      have c1 := (block_at (block_new wr (.cells #[.string y.name, .string y.level] 98)) 1).trans (rfl : _ = some (Value.string y.level))
      have c3 := cellUp ((block_at (htl.at (by omega) HB3.out (by decide)) 0).trans rfl) HB5.out
      have c0 := cellUp ((block_at (htl.at (by omega) HB0.out (by decide)) 0).trans (rfl : _ = some (Value.slice an nn cn))) HB5.out
      have HC0 := hide c0
      have HLS : Hid (((vars.take j).flatMap fun v => Nm.lev names ⟨#[]⟩ v.level).length + (Nm.lev names ⟨#[]⟩ y.level).length ≤ 16777216) := hide (by
        have h1 := flat_le (f := fun v : Va => Nm.lev names ⟨#[]⟩ v.level) (l := vars) (j + 1)
        rw [flat_succ hy, List.length_append] at h1
        have h2 := HLE.out
        rw [HLD.out, List.length_append] at h2
        omega)
      clear hto hnx htl hy c0
      go_wp2_with fail
      refine (ask_any _ w.heap.size (w.heap.size + 1 + 1) w.heap.size _ _ names ⟨#[]⟩ y.level (HTO2.out.below HB5.out) (Nat.le_trans HNX.out.size HB5.out.size) HLS.out HC0.out (HN.out.below (up HNX.out HB5.out))).mono ?_
      rintro e w5 ⟨rfl, hto5, hb5, ht5⟩
      have HTO5 := hide hto5
      have HB6 := hide ((up HNX.out HB5.out).trans hb5)
      have HT6 := hide ((HTL.out.trans (Tells.of_below HB5.out)).trans ht5)
      clear hto5 hb5 ht5 g0 g1 c1 c3
      go_wp2_with fail
      go_roundw
      case rel => exact ⟨j + 1, by omega, by go_num, by rw [flat_succ HY.out]; exact HTO5.out, HB6.out, HT6.out⟩
      case measure => simp [intOf]; omega
    · have hje : (vars.take j) = vars := List.take_of_length_le (by have := HNV.out; omega)
      rw [hje] at HTO2
      have q13 := (block_at (htl.at (by omega) HB1.out (by decide)) 3).trans (rfl : _ = some (Value.slice af nf cf))
      clear hje hnx htl hto
      generalize hF1 : (vars.flatMap fun v => Nm.lev names ⟨#[]⟩ v.level) = F1 at *
      go_wp2_with fail
      go_loopw [27] (fun i wx => ∃ j : Nat, j ≤ nf ∧ i = .int .i64 j ∧ Told wx w.heap.size (w.heap.size + 1 + 1) (F1 ++ (funs.take j).flatMap fun f => (Nm.all m f.body).flatMap (Nm.levS names f.name)) ∧ Below w.heap.size w wx ∧ Tells (w.heap.size + 1 + 1) W1 wx) (fun i _ => nf - (intOf i).toNat)
      case atStart => exact ⟨0, Nat.zero_le _, rfl, by simpa using HTO2.out, HNX.out, HTL.out⟩
      case round =>
        obtain ⟨t, ht, rfl, hto, hnx, htl⟩ := hrel
        have HTO3 := hide hto
        have HNX3 := hide hnx
        have HTL3 := hide htl
        by_cases htl' : t < nf
        · obtain ⟨y, hy⟩ : ∃ y, funs[t]? = some y := ⟨_, List.getElem?_eq_getElem (by rw [← HNF.out]; exact htl')⟩
          obtain ⟨-, vp, vb, e0, e1, e2, e3, g0, g1, g2, g3, g4, g5, g6, hp, hb, hx⟩ := HCF.out t y hy
          obtain rfl := HAF.out (by omega)
          have HY := hide hy
          have HVB := hide hb
          replace g0 := cellUp g0 hnx
          replace g1 := cellUp g1 hnx
          replace g2 := cellUp g2 hnx
          replace g3 := cellUp g3 hnx
          replace g4 := cellUp g4 hnx
          replace g5 := cellUp g5 hnx
          replace g6 := cellUp g6 hnx
          obtain ⟨ap, bp, op, cp, rfl, -⟩ := hp
          obtain ⟨sb, cb', rfl⟩ := hb.shapeN
          obtain ⟨xa, xc, rfl, rfl, rfl, rfl⟩ := hx.shape
          generalize y.params.length = np at *
          generalize y.body.length = nb at *
          generalize y.result.args.length = ne at *
          have HB5 := hide (boxBelow wr (.cells #[.string y.name, .slice ap np cp, .slice sb nb cb', .int .i64 y.result.kind, .int .i64 y.result.n, .string y.result.name, .slice xa ne xc] 106))
          have hbn := block_new wr (.cells #[.string y.name, .slice ap np cp, .slice sb nb cb', .int .i64 y.result.kind, .int .i64 y.result.n, .string y.result.name, .slice xa ne xc] 106)
          have c2 := (block_at hbn 2).trans (rfl : _ = some (Value.slice sb nb cb'))
          have hplt := hto.lt
          have hT2 := htl.trans (Tells.of_below HB5.out)
          have HVI := hide (askS_any w _ m (w.heap.size + 1 + 1) w.heap.size (w.heap.size + 1 + 1 + 1) wr.heap.size _ names y.name _ _ HN.out (hT2.at (by omega) HB0.out (by decide)) rfl (hT2.at (by omega) HB3.out (by decide)) hbn rfl (by omega) (by omega) (by omega))
          have HLS : Hid ((F1 ++ (funs.take t).flatMap fun f => (Nm.all m f.body).flatMap (Nm.levS names f.name)).length + ((Nm.all m y.body).flatMap (Nm.levS names y.name)).length ≤ 16777216) := hide (by
            have h1 := flat_le (f := fun f : Fu => (Nm.all m f.body).flatMap (Nm.levS names f.name)) (l := funs) (t + 1)
            rw [flat_succ hy, List.length_append] at h1
            have h2 := HLE.out
            rw [HLD.out, List.length_append] at h2
            rw [List.length_append]
            omega)
          clear hto hnx htl hy hb hx hT2 hbn
          go_wp2_with fail
          refine (eachCommand_any w _ m (w.heap.size + 1 + 1) 131 _ _ (enters_of Tryz.func131 (by kernel_rfl) rfl) HVI.out m _ _ y.body _ (Nat.le_refl _) (up HNX3.out HB5.out) (Tells.refl _ _) (HTO3.out.below HB5.out) HVB.out HLS.out).mono ?_
          rintro e w5 ⟨rfl, hto5, hb5, ht5⟩
          have HTO5 := hide hto5
          have HB6 := hide ((up HNX3.out HB5.out).trans hb5)
          have HT6 := hide ((HTL3.out.trans (Tells.of_below HB5.out)).trans ht5)
          clear hto5 hb5 ht5 g0 g1 g2 g3 g4 g5 g6 c2
          go_wp2_with fail
          go_roundw
          case rel => exact ⟨t + 1, by omega, by go_num, by rw [flat_succ HY.out, ← List.append_assoc]; exact HTO5.out, HB6.out, HT6.out⟩
          case measure => simp [intOf]; omega
        · have hje : (funs.take t) = funs := List.take_of_length_le (by have := HNF.out; omega)
          rw [hje, ← HLD.out] at hto
          obtain ⟨-, v, hv1, hv2⟩ := hto
          have c0 := (block_at hv1 0).trans (rfl : _ = some v)
          have HV2 := hide hv2
          obtain ⟨a9, c9, rfl⟩ := hv2.form
          clear hv1 hv2 hje htl hnx
          go_wp2_with fail
          go_ret
          exact ⟨_, rfl, HV2.out, HNX3.out⟩
end Go.Proofs.YtholefgckcoklaaGreatDoor
