/- BZAM -/
import Derived.Test.YtholefgckcoklaaGreatDoorBZAG
import Derived.Test.YtholefgckcoklaaGreatDoorBZAK
import Derived.Test.YtholefgckcoklaaGreatDoorBZAI
import Derived.WalkKit
import Derived.Laws.CopyRow
import Derived.Laws.CopyOwn
import Derived.Lib.AppendZerosOnto
import Derived.Lib.Overlaps
import Derived.Laws.Externs
import Derived.Shelf.Spec.SlicesInsert
namespace Go.Proofs.YtholefgckcoklaaGreatDoor
open Go.RowKit
def ExC (w : World) (m : Nat) (c : List Value) (x : Ex) : Prop := ∃ c0 c1 c2 c3, c = [c0, c1, c2, c3] ∧ ExAt w m c0 c1 c2 c3 x
theorem infoExN : (Tryz.prog.info? 103).map (fun i => (i.zero, i.size, i.bytes)) = some (some (.agg #[.int .i64 0, .int .i64 0, .string ⟨#[]⟩, .slice none 0 0]), 4, 56) := by kernel_rfl
theorem ExAt.oneN {w : World} {m : Nat} {c0 c1 c2 c3 : Value} {x : Ex} (h : ExAt w m c0 c1 c2 c3 x) : ∀ u ∈ [c0, c1, c2, c3], u.oneCell' = true := by
  obtain ⟨a, cap, rfl, rfl, rfl, rfl⟩ := h.shape
  intro u hu
  simp at hu
  rcases hu with rfl | rfl | rfl | rfl <;> rfl
namespace Nm
def calls : Nat → Ex → List Ex
  | 0, _ => []
  | m + 1, x => x.args.flatMap (calls m) ++ if x.kind = 4 then [x] else []
end Nm
theorem flat_succ {α β : Type} {f : α → List β} {l : List α} {j : Nat} {y : α} (h : l[j]? = some y) : (l.take (j + 1)).flatMap f = (l.take j).flatMap f ++ f y := by
  rw [List.take_add_one, h]; simp
theorem flat_le {α β : Type} {f : α → List β} {l : List α} (j : Nat) : ((l.take j).flatMap f).length ≤ (l.flatMap f).length := by
  have h := congrArg (fun t => (t.flatMap f).length) (List.take_append_drop j l)
  simp only [List.flatMap_append, List.length_append] at h
  omega
theorem grown_below {w w1 w2 : World} {r : Option Nat} (h : Below w.heap.size w w1) (hg : w1.grownBy w2 r) (hr : ∀ k, r = some k → w.heap.size ≤ k) : Below w.heap.size w w2 :=
  ⟨hg.os.trans h.os, hg.tape.trans h.tape, hg.output.trans h.output, Nat.le_trans h.size hg.size, fun k hk => (hg.block k (Nat.lt_of_lt_of_le hk h.size) (fun e => by have := hr k e.symm; omega)).trans (h.block k hk)⟩
theorem boxD0 (w : World) (c0 c1 c2 c3 : Value) (t : TypeId) : (w.alloc (.cells #[c0, c1, c2, c3] t)).cell? ⟨w.heap.size, 0, none⟩ = some c0 := by simp [go_sem]
theorem boxD1 (w : World) (c0 c1 c2 c3 : Value) (t : TypeId) : (w.alloc (.cells #[c0, c1, c2, c3] t)).cell? ⟨w.heap.size, 1, none⟩ = some c1 := by simp [go_sem]
theorem boxD2 (w : World) (c0 c1 c2 c3 : Value) (t : TypeId) : (w.alloc (.cells #[c0, c1, c2, c3] t)).cell? ⟨w.heap.size, 2, none⟩ = some c2 := by simp [go_sem]
set_option maxHeartbeats 4000000 in
set_option maxRecDepth 100000 in
theorem rcalls_any (W : World) (M : Nat) (m : Nat) : ∀ (w : World) (c0 c1 c2 c3 : Value) (x : Ex), Below W.heap.size W w → m ≤ M → ExAt W m c0 c1 c2 c3 x → (Nm.calls m x).length ≤ 16777216 →
    Calls Tryz.prog 51 #[.agg #[c0, c1, c2, c3]] w fun e w' => ∃ v, e = .returned v ∧ OwnK (ExC W M) w' w.heap.size 103 4 v (Nm.calls m x) ∧ Below w.heap.size w w' := by
  induction m with
  | zero => intro w c0 c1 c2 c3 x _ _ h; exact False.elim h
  | succ m ih =>
    intro w c0 c1 c2 c3 x hW hM h hlen
    have HI := hide ih
    have HX := hide (h.mono M hM)
    have HW := hide hW
    clear ih hW
    obtain ⟨rfl, rfl, rfl, hsz, hk1, hk2, a, b, off, cap, rfl, ha, hl, hel⟩ := h
    obtain ⟨k, n, s, args⟩ := x
    simp only at hsz hk1 hk2 ha hl hel HX ⊢
    have HEL := hide hel
    have HA := hide ha
    have HLE : Hid (∀ j, ((args.take j).flatMap (Nm.calls m)).length ≤ 16777215 + (if k = 4 then 0 else 1)) := hide (fun j => by
      have h1 := flat_le (f := Nm.calls m) (l := args) j
      simp only [Nm.calls, List.length_append] at hlen
      split at hlen <;> simp_all <;> omega)
    obtain ⟨len, hlen'⟩ : ∃ len, len = args.length := ⟨_, rfl⟩
    have HL := hide hlen'
    rw [← hlen'] at hl HA HX ⊢
    have HK4 : Hid (Nm.calls (m + 1) ⟨k, n, s, args⟩ = args.flatMap (Nm.calls m) ++ if k = 4 then [⟨k, n, s, args⟩] else []) := rfl
    obtain ⟨R, hR⟩ : ∃ R, R = Nm.calls (m + 1) ⟨k, n, s, args⟩ := ⟨_, rfl⟩
    rw [← hR] at HK4 ⊢
    have q0 := boxD0 w (.int .i64 k) (.int .i64 n) (.string s) (.slice a len cap) 103
    have q1 := boxD1 w (.int .i64 k) (.int .i64 n) (.string s) (.slice a len cap) 103
    have q2 := boxD2 w (.int .i64 k) (.int .i64 n) (.string s) (.slice a len cap) 103
    have q3 := boxCells4 w (.int .i64 k) (.int .i64 n) (.string s) (.slice a len cap) 103
    have HB0 := hide (boxBelow w (.cells #[.int .i64 k, .int .i64 n, .string s, .slice a len cap] 103))
    have hsz0 : w.heap.size ≤ (w.alloc (.cells #[.int .i64 k, .int .i64 n, .string s, .slice a len cap] 103)).heap.size := HB0.out.size
    clear hel ha hlen hlen' hR
    go_enter Tryz.func51, Tryz.ntmps51
    go_wp2_with fail
    generalize w.alloc (.cells #[.int .i64 k, .int .i64 n, .string s, .slice a len cap] 103) = W0 at *
    go_loopw [3, 4] (fun v i wr => ∃ j : Nat, j ≤ len ∧ i = .int .i64 j ∧ OwnK (ExC W M) wr W0.heap.size 103 4 v ((args.take j).flatMap (Nm.calls m)) ∧ Below W0.heap.size W0 wr) (fun _ i _ => len - (intOf i).toNat)
    case atStart => exact ⟨0, Nat.zero_le _, rfl, OwnK.nil _ _ _ _, Below.refl _ _⟩
    case round =>
      obtain ⟨j, hj, rfl, hown, hnx⟩ := hrel
      have HOW := hide hown
      have HNX := hide hnx
      have t0 := cellUp q0 hnx
      have t1 := cellUp q1 hnx
      have t2 := cellUp q2 hnx
      have t3 := cellUp q3 hnx
      clear hown q0 q1 q2 q3
      by_cases hjl : j < len
      · obtain ⟨y, hy⟩ : ∃ y, args[j]? = some y := ⟨_, List.getElem?_eq_getElem (by rw [← HL.out]; exact hjl)⟩
        obtain ⟨e0, e1, e2, e3, g0, g1, g2, g3, hye⟩ := HEL.out j y hy
        have HY := hide hy
        obtain rfl := HA.out (by omega)
        have hbb := up HW.out (up HB0.out hnx)
        have HBB := hide hbb
        have u0 := cellUp g0 hbb
        have u1 := cellUp g1 hbb
        have u2' := cellUp g2 hbb
        have u3' := cellUp g3 hbb
        have HYE := hide hye
        have HLS : Hid (((args.take j).flatMap (Nm.calls m)).length + (Nm.calls m y).length ≤ 16777216) := hide (by
          have h1 := HLE.out (j + 1)
          rw [flat_succ hy, List.length_append] at h1
          split at h1 <;> omega)
        clear g0 g1 g2 g3 hye hy hbb hnx
        go_wp2_with fail
        refine (HI.out _ e0 e1 e2 e3 y HBB.out (by omega) HYE.out (by have := HLS.out; omega)).mono ?_
        rintro e w5 ⟨v5, rfl, hown5, hb5⟩
        have HOW5 := hide hown5
        have HB5 := hide hb5
        have HN5 := hide (up HNX.out hb5)
        clear hown5 hb5
        go_wp2_with (first
          | (at_builtin; refine wpList_append_K (At := ExC W M) rfl _ _ 101 103 4 56 _ rfl Tryz.underlying101 infoExN (by decide) (by decide) (by decide) W0.heap.size _ _ rfl (HOW.out.below HB5.out) _ _ _ rfl HOW5.out HLS.out HN5.out.size ?_; intro v6 w6 hown6 hgrow6; have HOW6 := hide hown6; have HN6 := hide (grown_below HN5.out hgrow6 (fun j hj => (HOW.out.lt j hj).1)); clear hown6 hgrow6)
          | fail)
        go_roundw
        case rel => exact ⟨j + 1, by omega, by go_num, by rw [flat_succ HY.out]; exact HOW6.out, HN6.out⟩
        case measure => simp [intOf]; omega
      · have hje : (args.take j) = args := List.take_of_length_le (by have := HL.out; omega)
        rw [hje] at HOW
        have HLA : Hid ((args.flatMap (Nm.calls m)).length ≤ 16777215 + (if k = 4 then 0 else 1)) := hide (by
          have h1 := HLE.out j
          rw [hje] at h1; exact h1)
        clear hje hnx
        by_cases h4 : k = 4
        · have h4' : (k == 4) = true := by simp [h4]
          rw [if_pos h4] at HK4 HLA
          clear h4
          go_wp2_with (first
            | (at_builtin; refine wpList_append_K (At := ExC W M) rfl _ _ 101 103 4 56 _ rfl Tryz.underlying101 infoExN (by decide) (by decide) (by decide) W0.heap.size _ _ rfl (HOW.out.below (boxBelow _ _)) _ _ [⟨k, n, s, args⟩] rfl (OwnK.one _ _ rfl HX.out.oneN ⟨_, _, _, _, rfl, HX.out⟩) (by have := HLA.out; simp only [List.length_singleton]; omega) (Nat.le_trans HNX.out.size (boxBelow _ _).size) ?_; intro v6 w6 hown6 hgrow6; have HOW6 := hide hown6; have HN6 := hide (grown_below (up HNX.out (boxBelow _ _)) hgrow6 (fun j hj => (HOW.out.lt j hj).1)); clear hown6 hgrow6)
            | fail)
          go_ret
          exact ⟨_, rfl, by rw [HK4.out]; exact HOW6.out.old hsz0, up HB0.out HN6.out⟩
        · have h4' : (k == 4) = false := by simp [h4]
          rw [if_neg h4] at HK4
          clear h4
          go_wp2_with fail
          go_ret
          exact ⟨_, rfl, by rw [HK4.out, List.append_nil]; exact HOW.out.old hsz0, up HB0.out HNX.out⟩
end Go.Proofs.YtholefgckcoklaaGreatDoor
namespace Go.Proofs.YtholefgckcoklaaGreatDoor
open Go.RowKit
def StC (w : World) (m : Nat) (c : List Value) (s : St) : Prop := ∃ e0 e1 e2 e3 va vb, c = [.int .i64 s.kind, .string s.name, e0, e1, e2, e3, va, vb] ∧ I64 s.kind ∧ s.name.size ≤ maxLen ∧ ExAt w m e0 e1 e2 e3 s.e ∧ StsAt w m va s.a ∧ StsAt w m vb s.b
theorem infoStN : (Tryz.prog.info? 119).map (fun i => (i.zero, i.size, i.bytes)) = some (some (.agg #[.int .i64 0, .string ⟨#[]⟩, .int .i64 0, .int .i64 0, .string ⟨#[]⟩, .slice none 0 0, .slice none 0 0, .slice none 0 0]), 8, 128) := by kernel_rfl
theorem StsAt.shapeN {w : World} : ∀ {m : Nat} {v : Value} {l : List St}, StsAt w m v l → ∃ a cap, v = .slice a l.length cap
  | 0, _, _, h => False.elim h
  | _ + 1, _, _, ⟨a, _, _, cap, e, _⟩ => ⟨a, cap, e⟩
theorem StC.one {w : World} {m : Nat} {c : List Value} {s : St} (h : StC w m c s) : ∀ u ∈ c, u.oneCell' = true := by
  obtain ⟨e0, e1, e2, e3, va, vb, rfl, _, _, hx, ha, hb⟩ := h
  obtain ⟨a, cap, rfl, rfl, rfl, rfl⟩ := hx.shape
  obtain ⟨a1, c1, rfl⟩ := ha.shapeN
  obtain ⟨a2, c2, rfl⟩ := hb.shapeN
  intro u hu
  simp at hu
  rcases hu with rfl | rfl | rfl | rfl | rfl | rfl | rfl | rfl <;> rfl
namespace Nm
def within (f : List St → List St) (s : St) : List St := ([s] ++ f s.a) ++ f s.b
def all : Nat → List St → List St
  | 0, _ => []
  | m + 1, l => l.flatMap (within (all m))
end Nm
set_option maxHeartbeats 4000000 in
set_option maxRecDepth 100000 in
theorem rall_any (W : World) (M : Nat) (m : Nat) : ∀ (w : World) (v : Value) (l : List St), Below W.heap.size W w → m ≤ M → StsAt W m v l → (Nm.all m l).length ≤ 16777216 →
    Calls Tryz.prog 50 #[v] w fun e w' => ∃ u, e = .returned u ∧ OwnK (StC W M) w' w.heap.size 119 8 u (Nm.all m l) ∧ Below w.heap.size w w' := by
  induction m with
  | zero => intro w v l _ _ h; exact False.elim h
  | succ m ih =>
    intro w v l hW hM h hlen
    have HI := hide ih
    have HW := hide hW
    clear ih hW
    obtain ⟨a, b, off, cap, rfl, ha, hl, hel⟩ := h
    have HEL := hide hel
    have HA := hide ha
    have HLE : Hid (∀ j, ((l.take j).flatMap (Nm.within (Nm.all m))).length ≤ 16777216) := hide (fun j => Nat.le_trans (flat_le j) hlen)
    obtain ⟨R, hR⟩ : ∃ R, R = Nm.all (m + 1) l := ⟨_, rfl⟩
    have HR : Hid (R = l.flatMap (Nm.within (Nm.all m))) := hR
    rw [← hR]
    obtain ⟨len, hlen'⟩ : ∃ len, len = l.length := ⟨_, rfl⟩
    have HL := hide hlen'
    rw [← hlen'] at hl HA ⊢
    clear hel ha hlen hlen' hR
    go_enter Tryz.func50, Tryz.ntmps50
    go_wp2_with fail
    go_loopw [3, 4] (fun v i wr => ∃ j : Nat, j ≤ len ∧ i = .int .i64 j ∧ OwnK (StC W M) wr w.heap.size 119 8 v ((l.take j).flatMap (Nm.within (Nm.all m))) ∧ Below w.heap.size w wr) (fun _ i _ => len - (intOf i).toNat)
    case atStart => exact ⟨0, Nat.zero_le _, rfl, OwnK.nil _ _ _ _, Below.refl _ _⟩
    case round =>
      obtain ⟨j, hj, rfl, hown, hnx⟩ := hrel
      have HOW := hide hown
      have HNX := hide hnx
      clear hown
      by_cases hjl : j < len
      · obtain ⟨y, hy⟩ : ∃ y, l[j]? = some y := ⟨_, List.getElem?_eq_getElem (by rw [← HL.out]; exact hjl)⟩
        obtain ⟨k1, k2, e0, e1, e2, e3, va, vb, g0, g1, g2, g3, g4, g5, g6, g7, hx, hva, hvb⟩ := HEL.out j y hy
        have HY := hide hy
        obtain rfl := HA.out (by omega)
        have hbb := up HW.out hnx
        have HBB := hide hbb
        have HG6 := hide g6
        have HG7 := hide g7
        have u0 := cellUp g0 hbb
        have u1 := cellUp g1 hbb
        have u2 := cellUp g2 hbb
        have u3' := cellUp g3 hbb
        have u4' := cellUp g4 hbb
        have u5 := cellUp g5 hbb
        have u6 := cellUp g6 hbb
        have u7 := cellUp g7 hbb
        have HST : Hid (StC W M [.int .i64 y.kind, .string y.name, e0, e1, e2, e3, va, vb] y) := hide ⟨e0, e1, e2, e3, va, vb, rfl, k1, k2, hx.mono M (by omega), hva.mono M (by omega), hvb.mono M (by omega)⟩
        have HVA := hide hva
        have HVB := hide hvb
        have HLS : Hid (((l.take j).flatMap (Nm.within (Nm.all m))).length + (1 + (Nm.all m y.a).length + (Nm.all m y.b).length) ≤ 16777216) := hide (by
          have h1 := HLE.out (j + 1)
          rw [flat_succ hy, List.length_append, Nm.within, List.length_append, List.length_append, List.length_singleton] at h1
          exact h1)
        obtain ⟨sa, ca, rfl⟩ := hva.shapeN
        obtain ⟨sb, cb, rfl⟩ := hvb.shapeN
        obtain ⟨xa, xc, rfl, rfl, rfl, rfl⟩ := hx.shape
        clear g0 g1 g2 g3 g4 g5 g6 g7 hx hva hvb hy hbb hnx
        go_wp2_with (first
          | (at_builtin; have hg := HST; clear hg; refine wpList_append_K (At := StC W M) rfl _ _ 99 119 8 128 _ rfl Tryz.underlying99 infoStN (by decide) (by decide) (by decide) w.heap.size _ _ rfl (HOW.out.below (boxBelow _ _)) _ _ [y] rfl (OwnK.one _ _ rfl HST.out.one HST.out) (by have := HLS.out; simp only [List.length_singleton]; omega) (Nat.le_trans HNX.out.size (boxBelow _ _).size) ?_; intro v6 w6 hown6 hgrow6; have HOW6 := hide hown6; have HN6 := hide (grown_below (up HNX.out (boxBelow _ _)) hgrow6 (fun j hj => (HOW.out.lt j hj).1)); have z6 := cellUp HG6.out (up HW.out HN6.out); have z7 := cellUp HG7.out (up HW.out HN6.out); clear hown6 hgrow6 u0 u1 u2 u3' u4' u5 u6 u7 HST)
          | fail)
        refine (HI.out _ _ y.a (up HW.out HN6.out) (by omega) HVA.out (by have := HLS.out; omega)).mono ?_
        rintro e w7 ⟨v7, rfl, hown7, hb7⟩
        have HOW7 := hide hown7
        have HB7 := hide hb7
        have HN7 := hide (up HN6.out hb7)
        clear hown7 hb7 z6
        go_wp2_with (first
          | (at_builtin; have hg := HOW7; clear hg; refine wpList_append_K (At := StC W M) rfl _ _ 99 119 8 128 _ rfl Tryz.underlying99 infoStN (by decide) (by decide) (by decide) w.heap.size _ _ rfl (HOW6.out.below HB7.out) _ _ _ rfl HOW7.out (by have := HLS.out; simp only [List.length_append, List.length_singleton]; omega) HN7.out.size ?_; intro v8 w8 hown8 hgrow8; have HOW8 := hide hown8; have HN8 := hide (grown_below HN7.out hgrow8 (fun j hj => (HOW6.out.lt j hj).1)); clear z7; have z7 := cellUp HG7.out (up HW.out HN8.out); clear hown8 hgrow8 HOW7)
          | fail)
        refine (HI.out _ _ y.b (up HW.out HN8.out) (by omega) HVB.out (by have := HLS.out; omega)).mono ?_
        rintro e w9 ⟨v9, rfl, hown9, hb9⟩
        have HOW9 := hide hown9
        have HB9 := hide hb9
        have HN9 := hide (up HN8.out hb9)
        clear hown9 hb9 z7
        go_wp2_with (first
          | (at_builtin; have hg := HOW9; clear hg; refine wpList_append_K (At := StC W M) rfl _ _ 99 119 8 128 _ rfl Tryz.underlying99 infoStN (by decide) (by decide) (by decide) w.heap.size _ _ rfl (HOW8.out.below HB9.out) _ _ _ rfl HOW9.out (by have := HLS.out; simp only [List.length_append, List.length_singleton]; omega) HN9.out.size ?_; intro v10 w10 hown10 hgrow10; have HOW10 := hide hown10; have HN10 := hide (grown_below HN9.out hgrow10 (fun j hj => (HOW8.out.lt j hj).1)); clear hown10 hgrow10 HOW9)
          | fail)
        go_roundw
        case rel => exact ⟨j + 1, by omega, by go_num, by rw [flat_succ HY.out, Nm.within, ← List.append_assoc, ← List.append_assoc]; exact HOW10.out, HN10.out⟩
        case measure => simp [intOf]; omega
      · have hje : (l.take j) = l := List.take_of_length_le (by have := HL.out; omega)
        rw [hje] at HOW
        clear hje hnx
        go_wp2_with fail
        go_ret
        exact ⟨_, rfl, by rw [HR.out]; exact HOW.out, HNX.out⟩
end Go.Proofs.YtholefgckcoklaaGreatDoor
namespace Go.Proofs.YtholefgckcoklaaGreatDoor
open Go.RowKit
structure Dg where
  code : Int
  fn : ByteArray
  name : ByteArray
namespace Nm
def aheadB (a b : Dg) : Bool :=
  if (a.fn.toList == b.fn.toList) = false then Op.bytesLess a.fn.toList b.fn.toList
  else if (a.code == b.code) = false then decide (a.code < b.code) else Op.bytesLess a.name.toList b.name.toList
end Nm
set_option maxHeartbeats 1000000 in
theorem ahead_any (w : World) (x y : Dg) :
    Calls Tryz.prog 122 #[.agg #[.int .i64 x.code, .string x.fn, .string x.name], .agg #[.int .i64 y.code, .string y.fn, .string y.name]] w fun e w' => e = .returned (.bool (Nm.aheadB x y)) ∧ Below w.heap.size w w' := by
  obtain ⟨cx, fx, nx⟩ := x
  obtain ⟨cy, fy, ny⟩ := y
  simp only
  have HE : Hid (Nm.aheadB ⟨cx, fx, nx⟩ ⟨cy, fy, ny⟩ = if (fx.toList == fy.toList) = false then Op.bytesLess fx.toList fy.toList else if (cx == cy) = false then decide (cx < cy) else Op.bytesLess nx.toList ny.toList) := rfl
  have HB : Hid (Below w.heap.size w ((w.alloc (.cells #[.int .i64 cx, .string fx, .string nx] 43)).alloc (.cells #[.int .i64 cy, .string fy, .string ny] 43))) := hide (up (boxBelow _ _) (boxBelow _ _))
  cases h1 : (fx.toList == fy.toList)
  · rw [if_pos h1] at HE
    go_enter Tryz.func122, Tryz.ntmps122
    go_wp2
    go_ret
    exact ⟨ret_bool HE.out.symm, HB.out⟩
  · rw [if_neg (by rw [h1]; simp)] at HE
    cases h2 : (cx == cy)
    · rw [if_pos h2] at HE
      go_enter Tryz.func122, Tryz.ntmps122
      go_wp2
      go_ret
      exact ⟨ret_bool HE.out.symm, HB.out⟩
    · rw [if_neg (by rw [h2]; simp)] at HE
      go_enter Tryz.func122, Tryz.ntmps122
      go_wp2
      go_ret
      exact ⟨ret_bool HE.out.symm, HB.out⟩
end Go.Proofs.YtholefgckcoklaaGreatDoor
namespace Go.Proofs.YtholefgckcoklaaGreatDoor
open Go.RowKit
def DgC (c : List Value) (d : Dg) : Prop := c = [.int .i64 d.code, .string d.fn, .string d.name]
theorem infoDg : (Tryz.prog.info? 43).map (fun i => (i.zero, i.size, i.bytes)) = some (some (.agg #[.int .i64 0, .string ⟨#[]⟩, .string ⟨#[]⟩]), 3, 40) := by kernel_rfl
theorem DgC.one {c : List Value} {d : Dg} (h : DgC c d) : ∀ u ∈ c, u.oneCell' = true := by
  subst h
  intro u hu
  simp at hu
  rcases hu with rfl | rfl | rfl <;> rfl
def Told (w : World) (n p : Nat) (l : List Dg) : Prop := n ≤ p ∧ ∃ v, w.heap[p]? = some (.cells #[v] 37 (0, 0)) ∧ OwnK DgC w n 43 3 v l
structure Tells (p : Nat) (w w' : World) : Prop where
  size : w.heap.size ≤ w'.heap.size
  block : ∀ k, k < w.heap.size → k ≠ p → (∀ cs fz, w.heap[k]? ≠ some (.cells cs 43 fz)) → w'.heap[k]? = w.heap[k]?
theorem Tells.refl (p : Nat) (w : World) : Tells p w w := ⟨Nat.le_refl _, fun _ _ _ _ => rfl⟩
theorem Tells.trans {p : Nat} {a b c : World} (h : Tells p a b) (k : Tells p b c) : Tells p a c :=
  ⟨Nat.le_trans h.size k.size, fun i hi hp hd => by
    have h1 := h.block i hi hp hd
    rw [← h1]
    exact k.block i (Nat.lt_of_lt_of_le hi h.size) hp (fun cs fz => by rw [h1]; exact hd cs fz)⟩
theorem Tells.of_below {p : Nat} {w w' : World} (h : Below w.heap.size w w') : Tells p w w' := ⟨h.size, fun k hk _ _ => h.block k hk⟩
theorem Tells.at {p q : Nat} {w w' : World} (h : Tells p w w') (hq : q ≠ p) {cs : Array Value} {t : TypeId} {fz : Nat × Nat} (ho : w.heap[q]? = some (.cells cs t fz)) (ht : t ≠ 43) : w'.heap[q]? = some (.cells cs t fz) := by
  rw [h.block q (block_lt ho) hq (fun cs' fz' e => by rw [ho] at e; simp at e; exact ht e.2.1)]; exact ho
theorem Told.below {w w' : World} {n p : Nat} {l : List Dg} (h : Told w n p l) (hb : Below w.heap.size w w') : Told w' n p l := by
  obtain ⟨h0, v, h1, h2⟩ := h
  exact ⟨h0, v, by rw [hb.block p (block_lt h1)]; exact h1, h2.below hb⟩
theorem OwnK.set {α : Type} {At : List Value → α → Prop} {w : World} {n e k : Nat} {v : Value} {l : List α} (h : OwnK At w n e k v l) {a : Addr} (ha : v.ownBlock ≠ some a.block) (x : Value) : OwnK At (w.setCell a x) n e k v l := by
  obtain ⟨cs, ⟨h0, h1⟩, h2⟩ := h
  refine ⟨cs, ⟨h0, ?_⟩, h2⟩
  rcases h1 with h1 | ⟨g, cap, cur, hv, hg, hh, r⟩
  · exact Or.inl h1
  · refine Or.inr ⟨g, cap, cur, hv, hg, block_other hh (fun e' => ha (by rw [hv, ← e']; rfl)) _, r⟩
theorem OwnK.apart {α : Type} {At : List Value → α → Prop} {w : World} {n e k p : Nat} {v : Value} {l : List α} {cs : Array Value} {t : TypeId} {fz : Nat × Nat} (h : OwnK At w n e k v l) (hp : w.heap[p]? = some (.cells cs t fz)) (ht : t ≠ e) : v.ownBlock ≠ some p := by
  intro e'
  obtain ⟨_, ⟨_, h1⟩, _⟩ := h
  rcases h1 with ⟨rfl, _⟩ | ⟨g, cap, cur, hv, _, hh, _⟩
  · cases e'
  · rw [hv] at e'
    have : g = p := by simpa [Value.ownBlock] using e'
    subst this
    rw [hp] at hh
    simp at hh
    exact ht hh.2.1
theorem OwnK.form {α : Type} {At : List Value → α → Prop} {w : World} {n e k : Nat} {v : Value} {l : List α} (h : OwnK At w n e k v l) : ∃ a c, v = .slice a l.length c := by
  rcases h.shape with ⟨rfl, rfl⟩ | ⟨g, cap, rfl, _⟩
  · exact ⟨_, _, rfl⟩
  · exact ⟨_, _, rfl⟩
theorem OwnK.typ {α : Type} {At : List Value → α → Prop} {w : World} {n e k g : Nat} {v : Value} {l : List α} (h : OwnK At w n e k v l) (hg : v.ownBlock = some g) : ∃ cur, w.heap[g]? = some (.cells cur e (0, 0)) := by
  obtain ⟨_, ⟨_, h1⟩, _⟩ := h
  rcases h1 with ⟨rfl, _⟩ | ⟨g', cap, cur, hv, _, hh, _⟩
  · cases hg
  · rw [hv] at hg
    have : g' = g := by simpa [Value.ownBlock] using hg
    subst this
    exact ⟨cur, hh⟩
theorem Told.push {w w6 : World} {n p : Nat} {l : List Dg} {d : Dg} {v v6 : Value} {o : Obj} (hn : n ≤ p) (hp : w.heap[p]? = some (.cells #[v] 37 (0, 0))) (hv : OwnK DgC w n 43 3 v l) (hown : OwnK DgC w6 n 43 3 v6 (l ++ [d])) (hg : (w.alloc o).grownBy w6 v.ownBlock) :
    w6.heap[p]? = some (.cells #[v] 37 (0, 0)) ∧ Told (w6.setCell ⟨p, 0, none⟩ v6) n p (l ++ [d]) ∧ Below n w (w6.setCell ⟨p, 0, none⟩ v6) ∧ Tells p w (w6.setCell ⟨p, 0, none⟩ v6) := by
  have hb := boxBelow w o
  have hplt := block_lt hp
  have hne := hv.apart hp (by decide)
  have h1 : w6.heap[p]? = some (.cells #[v] 37 (0, 0)) := by
    rw [hg.block p (Nat.lt_of_lt_of_le hplt hb.size) (fun e => hne e.symm), hb.block p hplt]; exact hp
  have hne6 := hown.apart h1 (by decide)
  have hkeep : ∀ k, k < w.heap.size → k ≠ p → some k ≠ v.ownBlock → (w6.setCell ⟨p, 0, none⟩ v6).heap[k]? = w.heap[k]? := fun k hk hkp hkv => by
    rw [Below.heap_setCell _ _ _ _ hkp, hg.block k (Nat.lt_of_lt_of_le hk hb.size) hkv, hb.block k hk]
  have hsz : w.heap.size ≤ (w6.setCell ⟨p, 0, none⟩ v6).heap.size := by
    simp only [World.setCell, Array.size_modify]
    exact Nat.le_trans hb.size hg.size
  refine ⟨h1, ⟨hn, v6, ?_, hown.set hne6 _⟩, ⟨hg.os.trans hb.os, hg.tape.trans hb.tape, hg.output.trans hb.output, hsz, fun k hk => hkeep k (by omega) (by omega) (fun e => ?_)⟩, ⟨hsz, fun k hk hkp hd => hkeep k hk hkp (fun e => ?_)⟩⟩
  · rw [block_set h1]; rfl
  · have := (hv.lt k e.symm).1
    omega
  · obtain ⟨cur, hc⟩ := hv.typ e.symm
    exact hd _ _ hc
set_option maxHeartbeats 1000000 in
theorem tell_any (w : World) (n p : Nat) (l : List Dg) (code : Int) (fn name : ByteArray) (h : Told w n p l) (hn : n ≤ w.heap.size) (hl : l.length < 16777216) :
    Calls Tryz.prog 47 #[.int .i64 code, .string fn, .string name, .pointer (some ⟨p, 0, none⟩)] w fun e w' => e = .returned (.tuple #[]) ∧ Told w' n p (l ++ [⟨code, fn, name⟩]) ∧ Below n w w' ∧ Tells p w w' := by
  obtain ⟨h0, v, h1, h2⟩ := h
  have q0 : w.cell? ⟨p, 0, none⟩ = some v := by rw [block_at h1]; rfl
  have H0 := hide h0
  have H1 := hide h1
  have H2 := hide h2
  clear h0 h1 h2
  go_enter Tryz.func47, Tryz.ntmps47
  go_wp2_with (first
    | (at_builtin; refine wpList_append_K (At := DgC) rfl _ _ 37 43 3 40 _ rfl Tryz.underlying37 infoDg (by decide) (by decide) (by decide) n _ _ rfl (H2.out.below (boxBelow _ _)) _ _ [⟨code, fn, name⟩] rfl (OwnK.one _ _ rfl (DgC.one (d := ⟨code, fn, name⟩) rfl) rfl) (by simp only [List.length_singleton]; omega) (Nat.le_trans hn (boxBelow _ _).size) ?_; intro v6 w6 hown6 hgrow6; obtain ⟨a6, c6, hv6⟩ := hown6.form; subst hv6; have HP := hide (Told.push H0.out H1.out H2.out hown6 hgrow6); have z0 := (block_at HP.out.1 0).trans (show _ = some v from rfl); have zf := block_free HP.out.1 0; clear hown6 hgrow6)
    | fail)
  go_end0
  have hl1 : (l ++ [(⟨code, fn, name⟩ : Dg)]).length = l.length + 1 := by simp
  rw [hl1] at HP
  exact ⟨rfl, HP.out.2⟩
namespace Nm
def lev (names : List ByteArray) (fn name : ByteArray) : List Dg := if decide (0 ≤ Lat.indexI names name) = true then [] else [⟨3, fn, name⟩]
end Nm
set_option maxHeartbeats 1000000 in
theorem level_any (w : World) (n p q r : Nat) (l : List Dg) (vn : Value) (names : List ByteArray) (fn name : ByteArray) (h : Told w n p l) (hn : n ≤ w.heap.size) (hl : l.length < 16777216)
    (hq : w.cell? ⟨q, 0, none⟩ = some vn) (hN : Strs w vn names) (hr : w.cell? ⟨r, 0, none⟩ = some (.func (.func 47) #[] #[.pointer (some ⟨p, 0, none⟩)])) :
    Calls Tryz.prog 48 #[.string fn, .string name, .pointer (some ⟨q, 0, none⟩), .pointer (some ⟨r, 0, none⟩)] w fun e w' => e = .returned (.tuple #[]) ∧ Told w' n p (l ++ Nm.lev names fn name) ∧ Below n w w' ∧ Tells p w w' := by
  have HN := hide hN
  have HT := hide h
  obtain ⟨a, b, off, cap, rfl, _⟩ := hN
  have HL : Hid (Nm.lev names fn name = if decide (0 ≤ Lat.indexI names name) = true then [] else [⟨3, fn, name⟩]) := rfl
  clear h
  go_enter Tryz.func48, Tryz.ntmps48
  go_wp2_with fail
  refine (containsS_any w _ names name HN.out).mono ?_
  rintro e w' ⟨rfl, hw'⟩
  subst hw'
  generalize decide (0 ≤ Lat.indexI names name) = is at *
  cases is
  · go_wp2_with fail
    refine (tell_any _ n p l 3 fn name HT.out hn hl).mono ?_
    rintro e w5 ⟨rfl, h5, hb5, ht5⟩
    go_wp2
    go_end0
    exact ⟨rfl, by rw [HL.out]; exact h5, hb5, ht5⟩
  · go_wp2_with fail
    go_end0
    exact ⟨rfl, by rw [HL.out]; simpa using HT.out, Below.refl _ _, Tells.refl _ _⟩
end Go.Proofs.YtholefgckcoklaaGreatDoor
namespace Go.Proofs.YtholefgckcoklaaGreatDoor
open Go.RowKit
theorem run_copyK {P : Program} (w : World) (dT sT ty elem : TypeId) (k g o dLen dCap : Nat) (a : Addr) (sLen sCap : Nat) (cur : Array Value) (t : TypeId) (cs : List Value)
    (hu : P.underlying dT = some (.slice elem)) (hs : (P.info? elem).map (·.size) = some k)
    (hg : w.heap[g]? = some (.cells cur t (0, 0))) (hn : cs.length = Nat.min sLen dLen * k)
    (hsrc : ∀ j v, cs[j]? = some v → w.cell? (a.add j) = some v) (hfit : o + cs.length ≤ cur.size) (h1 : ∀ v ∈ cs, v.oneCell' = true) :
    (Builtin.copy_ #[dT, sT] ty #[.slice (some ⟨g, o, none⟩) dLen dCap, .slice (some a) sLen sCap]).run P w =
      .ok (goInt (Nat.min sLen dLen)) (w.setRow g (cur.toList.take o ++ cs ++ cur.toList.drop (o + cs.length)).toArray) := by
  have hl := run_loadCells_list (P := P) w a cs hsrc
  have hst := run_storeCells_at P g o t cs 0 cur w hg (by simpa using hfit) h1
  cases hq : P.info? elem with
  | none => simp [hq] at hs
  | some i =>
    have hi : i.size = k := by simpa [hq] using hs
    rw [hn] at hl
    simp [Builtin.copy_, run_underlying hu, Builtin.lenOf, Builtin.firstCells, sizeOf, typeInfo, hq, hi, hl, hst]
theorem But.setRow {g : Nat} (w : World) (cs : Array Value) : But g w (w.setRow g cs) := ⟨rfl, rfl, rfl, by simp [World.setRow], fun k _ hk => setRow_other w g k cs hk⟩
section
variable {w : World} {ops : Array Oper} {rest : List Oper} {o : Oper} {a : Act} {Q : Exit → Act → World → Prop}
theorem wp_copyK {K : Act → World → Prop} (d s : Operand) (dT sT elem : TypeId) (k : Nat)
    (ho : o.op = .call { callee := .builtin .copy, args := #[d, s], argTypes := #[dT, sT] }) (hu : Tryz.prog.underlying dT = some (.slice elem)) (hs : (Tryz.prog.info? elem).map (·.size) = some k)
    (g off dLen dCap : Nat) (ad : Addr) (sLen sCap : Nat) (hd : a.eval d = .slice (some ⟨g, off, none⟩) dLen dCap) (hx : a.eval s = .slice (some ad) sLen sCap)
    (cur : List Value) (t : TypeId) (hg : w.heap[g]? = some (.cells cur.toArray t (0, 0))) (cs : List Value) (hn : cs.length = Nat.min sLen dLen * k)
    (hsrc : ∀ j v, cs[j]? = some v → w.cell? (ad.add j) = some v) (hfit : off + cs.length ≤ cur.length) (h1 : ∀ v ∈ cs, v.oneCell' = true)
    (h : ∀ w' r, Hid (w'.heap[g]? = some (.cells (splice cur off cs).toArray t (0, 0))) → Hid (But g w w') → K (a.put o.dst r) w') : o.wp Tryz.prog a w K Q := by
  have hrun := run_copyK (P := Tryz.prog) w dT sT o.type elem k g off dLen dCap ad sLen sCap cur.toArray t cs hu hs hg hn hsrc (by simpa using hfit) h1
  unfold Oper.wp execOp
  simp only [ho, resolve, invoke, builtin, Sem.run_bind, Sem.run_pure, Result.andThen_ok, List.map_toArray, List.map_cons, List.map_nil, hd, hx, hrun]
  exact h _ _ (hide (by rw [setRow_heap w g _ _ t _ hg]; simp [splice])) (hide (But.setRow w _))
theorem wpList_copyK (hgd : o.guard = none) (d s : Operand) (dT sT elem : TypeId) (k : Nat)
    (ho : o.op = .call { callee := .builtin .copy, args := #[d, s], argTypes := #[dT, sT] }) (hu : Tryz.prog.underlying dT = some (.slice elem)) (hs : (Tryz.prog.info? elem).map (·.size) = some k)
    (g off dLen dCap : Nat) (ad : Addr) (sLen sCap : Nat) (hd : a.eval d = .slice (some ⟨g, off, none⟩) dLen dCap) (hx : a.eval s = .slice (some ad) sLen sCap)
    (cur : List Value) (t : TypeId) (hg : w.heap[g]? = some (.cells cur.toArray t (0, 0))) (cs : List Value) (hn : cs.length = Nat.min sLen dLen * k)
    (hsrc : ∀ j v, cs[j]? = some v → w.cell? (ad.add j) = some v) (hfit : off + cs.length ≤ cur.length) (h1 : ∀ v ∈ cs, v.oneCell' = true)
    (h : ∀ w' r, Hid (w'.heap[g]? = some (.cells (splice cur off cs).toArray t (0, 0))) → Hid (But g w w') → wpList Tryz.prog ops Q rest (a.put o.dst r) w') : wpList Tryz.prog ops Q (o :: rest) a w :=
  wpList_plain hgd fun _ hK => wp_copyK d s dT sT elem k ho hu hs g off dLen dCap ad sLen sCap hd hx cur t hg cs hn hsrc hfit h1 fun w' r h2 h3 => hK _ _ (h w' r h2 h3)
theorem step_copyK {K : Act → World → Prop} {E : Prop} (hgd : o.guard = none) (d s : Operand) (dT sT elem : TypeId) (k : Nat)
    (ho : o.op = .call { callee := .builtin .copy, args := #[d, s], argTypes := #[dT, sT] }) (hu : Tryz.prog.underlying dT = some (.slice elem)) (hs : (Tryz.prog.info? elem).map (·.size) = some k)
    (g off dLen dCap : Nat) (ad : Addr) (sLen sCap : Nat) (hd : a.eval d = .slice (some ⟨g, off, none⟩) dLen dCap) (hx : a.eval s = .slice (some ad) sLen sCap)
    (cur : List Value) (t : TypeId) (hg : w.heap[g]? = some (.cells cur.toArray t (0, 0))) (cs : List Value) (hn : cs.length = Nat.min sLen dLen * k)
    (hsrc : ∀ j v, cs[j]? = some v → w.cell? (ad.add j) = some v) (hfit : off + cs.length ≤ cur.length) (h1 : ∀ v ∈ cs, v.oneCell' = true)
    (h : ∀ w' r, Hid (w'.heap[g]? = some (.cells (splice cur off cs).toArray t (0, 0))) → Hid (But g w w') → K (a.put o.dst r) w') :
    if Region.wanted o (yielded ops a.tmps) = true then Oper.wp Tryz.prog o a w K Q else E := by
  have hw : Region.wanted o (yielded ops a.tmps) = true := by simp [Region.wanted, hgd]
  rw [if_pos hw]
  exact wp_copyK d s dT sT elem k ho hu hs g off dLen dCap ad sLen sCap hd hx cur t hg cs hn hsrc hfit h1 h
end
end Go.Proofs.YtholefgckcoklaaGreatDoor
namespace Go.Proofs.YtholefgckcoklaaGreatDoor
open Go.RowKit
theorem sizeDg : (Tryz.prog.info? 43).map (·.size) = some 3 := by
  obtain ⟨iS, hiS, _, hz1, _⟩ := info_parts infoDg
  rw [hiS]; simp [hz1]
theorem sizeOfDg (w : World) : (Go.sizeOf 43).run Tryz.prog w = .ok 3 w := by
  obtain ⟨iS, hiS, _, hz1, _⟩ := info_parts infoDg
  simp [Go.sizeOf, typeInfo, hiS, hz1]
theorem overlaps_apart {w : World} {g B off lb cb : Nat} {cur : Array Value} {c0 c1 c2 : Value} (hg : w.heap[g]? = some (.cells cur 43 (0, 0))) (hB : w.heap[B]? = some (.cells #[c0, c1, c2] 43 (0, 0))) (hne : B ≠ g) (hc : cur.size ≠ 0) :
    (callFunc 184 #[.slice (some ⟨B, 0, none⟩) 1 1, .slice (some ⟨g, off, none⟩) lb cb]).run Tryz.prog w = .ok (.value (.bool false)) w := by
  rw [run_callFunc_extern Tryz.func184 (by kernel_rfl) (by kernel_rfl) (by kernel_rfl) (e := Extern.SlicesOverlaps.overlaps #[37, 37] #[4]) (by kernel_rfl),
    Lib.run_overlaps_apart w 37 4 43 Tryz.underlying37 3 sizeOfDg ⟨B, 0, none⟩ ⟨g, off, none⟩ 1 1 lb cb hne 43 43 3 cur.size (by simp [World.shape?, hB]) (by simp [World.shape?, hg]) hc (block_free hB 0) (block_free hB 3)]
  rfl
def insRow (cur : List Value) (len i : Nat) (c : List Value) : List Value := splice (splice cur ((i + 1) * 3) ((cur.drop (i * 3)).take ((len - i) * 3))) (i * 3) c
set_option maxHeartbeats 4000000 in
set_option maxRecDepth 100000 in
theorem insert_shift (w : World) (g B len cap i : Nat) (cur : List Value) (c0 c1 c2 : Value) (hg : w.heap[g]? = some (.cells cur.toArray 43 (0, 0))) (hB : w.heap[B]? = some (.cells #[c0, c1, c2] 43 (0, 0))) (hne : B ≠ g) (hcur : cur.length = cap * 3) (hcap : cap ≤ 9223372036854775807) (hi : i < len) (hr : len + 1 ≤ cap)
    (h1 : ∀ u ∈ cur.take (len * 3), u.oneCell' = true) (h1c : ∀ u ∈ [c0, c1, c2], u.oneCell' = true) :
    Calls Tryz.prog 123 #[.slice (some ⟨g, 0, none⟩) len cap, .int .i64 i, .slice (some ⟨B, 0, none⟩) 1 1] w fun e w' => e = .returned (.slice (some ⟨g, 0, none⟩) (len + 1) cap) ∧
      w'.heap[g]? = some (.cells (insRow cur len i [c0, c1, c2]).toArray 43 (0, 0)) ∧ But g w w' := by
  have hz2 : ¬ ((i : Int) = (len : Int)) := by omega
  have hov : ∀ off lb cb, (callFunc 184 #[.slice (some ⟨B, 0, none⟩) 1 1, .slice (some ⟨g, off, none⟩) lb cb]).run Tryz.prog w = .ok (.value (.bool false)) w := fun off lb cb => overlaps_apart hg hB hne (by rw [List.size_toArray]; omega)
  obtain ⟨C1, hC1⟩ : ∃ C1, C1 = (cur.drop (i * 3)).take ((len - i) * 3) := ⟨_, rfl⟩
  have HC1 := hide hC1
  have HG := hide hg
  have HBk := hide hB
  have HNE := hide hne
  have H1 := hide h1
  have H1C := hide h1c
  have HCU := hide hcur
  have HL1 : Hid (C1.length = (len - i) * 3) := hide (by rw [hC1, List.length_take, List.length_drop]; omega)
  have HS1 : Hid (∀ (j : Nat) v, C1[j]? = some v → cur[i * 3 + j]? = some v) := hide (fun j v hj => by
    rw [hC1, List.getElem?_take] at hj
    split at hj
    · rwa [List.getElem?_drop] at hj
    · cases hj)
  have HO1 : Hid (∀ u ∈ C1, u.oneCell' = true) := hide (fun u hu => by
    obtain ⟨j, hj⟩ := List.mem_iff_getElem?.1 hu
    refine h1 u (List.mem_of_getElem? (i := i * 3 + j) ?_)
    have hjl := (List.getElem?_eq_some_iff.1 hj).1
    rw [HL1.out] at hjl
    rw [List.getElem?_take, if_pos (by omega)]
    exact HS1.out j u hj)
  clear hC1 hg hB hne h1 h1c hcur
  have hb3 : (i : Int) ≤ (len : Int) + 1 := by omega
  have hb4 : ¬ (cap = i) := by omega
  have hb5 : ¬ (cap = i + 1) := by omega
  have hw1 : IntKind.i64.wrap ((i : Int) + 1) = (i : Int) + 1 := by rw [IntKind.wrap_i64]; omega
  have hb1 : (0 : Int) ≤ (i : Int) + 1 := by omega
  have hin : i ≤ len := by omega
  have htn : ((i : Int) + 1).toNat = i + 1 := by omega
  go_enter Tryz.func123, Tryz.ntmps123
  go_wp2_with (simp only [hov])
  go_region_law (refine step_copyK rfl _ _ 37 37 43 3 rfl Tryz.underlying37 sizeDg g ((i + 1) * 3) (len - i) (cap - (i + 1)) ⟨g, i * 3, none⟩ (len + 1 - i) (cap - i) (by simp [Act.eval, Act.put]) (by simp [Act.eval, Act.put]) cur 43 HG.out C1 (by rw [HL1.out]; congr 1; simp only [Nat.min_def]; split <;> omega) (fun j v hj => by rw [Addr.add_lit]; exact (block_at HG.out _).trans (by simpa using HS1.out j v hj)) (by rw [HL1.out, HCU.out]; omega) HO1.out ?_; intro w4 r4 HG4 HB4)
  have HB4' := hide (HB4.out.at HNE.out HBk.out)
  have HL4 : Hid ((splice cur ((i + 1) * 3) C1).length = cap * 3) := hide (by rw [length_splice _ _ _ (by rw [HL1.out, HCU.out]; omega)]; exact HCU.out)
  generalize hS4 : splice cur ((i + 1) * 3) C1 = S4 at *
  have HS4 := hide hS4
  clear hS4
  have HN5 : Hid ([c0, c1, c2].length = Nat.min 1 (len + 1 - i) * 3) := hide (by
    have : Nat.min 1 (len + 1 - i) = 1 := by simp only [Nat.min_def]; split <;> omega
    rw [this]; rfl)
  have HS5 : Hid (∀ (j : Nat) v, [c0, c1, c2][j]? = some v → w4.cell? ((⟨B, 0, none⟩ : Addr).add j) = some v) := hide (fun j v hj => by rw [Addr.add_lit, Nat.zero_add]; exact (block_at HB4'.out j).trans (by simpa using hj))
  have HF5 : Hid (i * 3 + [c0, c1, c2].length ≤ S4.length) := hide (by rw [HL4.out]; show i * 3 + 3 ≤ _; omega)
  go_wp2_with (refine wpList_copyK rfl (.tmp 80) (.tmp 81) 37 37 43 3 rfl Tryz.underlying37 sizeDg g (i * 3) (len + 1 - i) (cap - i) ⟨B, 0, none⟩ 1 1 rfl rfl S4 43 HG4.out [c0, c1, c2] HN5.out HS5.out HF5.out H1C.out ?_; intro w5 r5 HG5 HB5)
  go_ret
  refine ⟨rfl, ?_, ?_⟩
  · rw [HG5.out, insRow, ← HC1.out, HS4.out]
  · exact But.trans (b := w4) ⟨HB4.out.os, HB4.out.tape, HB4.out.output, HB4.out.size, HB4.out.block⟩ HB5.out
end Go.Proofs.YtholefgckcoklaaGreatDoor
