/- Walks over package downref: SameModule answers true of two modules that are the same. -/
import Derived.Test.YtbncnkfogkhoeabGreatDoorZBI
import Derived.Test.YtbncnkfogkhoeabGreatDoorZBH
import Derived.Test.YtbncnkfogkhoeabGreatDoorZAR
namespace Go.Proofs.YtbncnkfogkhoeabGreatDoor
open Go.RowKit

theorem box7_at (w : World) (c0 c1 c2 c3 c4 c5 c6 : Value) (t : TypeId) (i : Nat) (v : Value) (h : (#[c0, c1, c2, c3, c4, c5, c6] : Array Value)[i]? = some v) : (w.alloc (.cells #[c0, c1, c2, c3, c4, c5, c6] t)).cell? ⟨w.heap.size, i, none⟩ = some v := by
  unfold World.cell?
  rw [heap_alloc_new]
  exact h
theorem box4_at (w : World) (c0 c1 c2 c3 : Value) (t : TypeId) (i : Nat) (v : Value) (h : (#[c0, c1, c2, c3] : Array Value)[i]? = some v) : (w.alloc (.cells #[c0, c1, c2, c3] t)).cell? ⟨w.heap.size, i, none⟩ = some v := by
  unfold World.cell?
  rw [heap_alloc_new]
  exact h

set_option maxHeartbeats 2000000 in
set_option maxRecDepth 100000 in
theorem sameFu_any (m : Nat) (w : World) (f : Fu) (vp vb e0 e1 e2 e3 up ub f0 f1 f2 f3 : Value) (h : FuAt w m vp vb e0 e1 e2 e3 f) (h' : FuAt w m up ub f0 f1 f2 f3 f) :
    Calls Tryz.prog 28 #[.agg #[.string f.name, vp, vb, e0, e1, e2, e3], .agg #[.string f.name, up, ub, f0, f1, f2, f3]] w fun e w' => e = .returned (.bool true) ∧ Below w.heap.size w w' := by
  have HS := hide h
  have HS' := hide h'
  obtain ⟨k1, hp, hsb, hx⟩ := h
  obtain ⟨_, hp', hsb', hx'⟩ := h'
  obtain ⟨ax, cx, rfl, rfl, rfl, rfl⟩ := hx.shape
  obtain ⟨ay, cy, rfl, rfl, rfl, rfl⟩ := hx'.shape
  obtain ⟨ab, cb, rfl, _⟩ := hsb.shape
  obtain ⟨ab', cb', rfl, _⟩ := hsb'.shape
  obtain ⟨ap, cp, rfl, _⟩ := hp.shape
  obtain ⟨ap', cp', rfl, _⟩ := hp'.shape
  have hsz : f.name.size ≤ 9223372036854775807 := by unfold maxLen at k1; omega
  clear hx hx' hp hsb hp' hsb' k1
  generalize hle : f.result.args.length = le at *
  generalize hla : f.params.length = lp at *
  generalize hlb : f.body.length = lb at *
  have HB0 := hide (twoBB w (.cells #[.string f.name, .slice ap lp cp, .slice ab lb cb, .int .i64 f.result.kind, .int .i64 f.result.n, .string f.result.name, .slice ax le cx] 74) (.cells #[.string f.name, .slice ap' lp cp', .slice ab' lb cb', .int .i64 f.result.kind, .int .i64 f.result.n, .string f.result.name, .slice ay le cy] 74))
  have q0 : ((w.alloc (.cells #[.string f.name, .slice ap lp cp, .slice ab lb cb, .int .i64 f.result.kind, .int .i64 f.result.n, .string f.result.name, .slice ax le cx] 74)).alloc (.cells #[.string f.name, .slice ap' lp cp', .slice ab' lb cb', .int .i64 f.result.kind, .int .i64 f.result.n, .string f.result.name, .slice ay le cy] 74)).cell? ⟨w.heap.size, 0, none⟩ = some (.string f.name) := cellUp (box7_at w (.string f.name) (.slice ap lp cp) (.slice ab lb cb) (.int .i64 f.result.kind) (.int .i64 f.result.n) (.string f.result.name) (.slice ax le cx) 74 0 _ rfl) (boxBelow _ _)
  have q1 : ((w.alloc (.cells #[.string f.name, .slice ap lp cp, .slice ab lb cb, .int .i64 f.result.kind, .int .i64 f.result.n, .string f.result.name, .slice ax le cx] 74)).alloc (.cells #[.string f.name, .slice ap' lp cp', .slice ab' lb cb', .int .i64 f.result.kind, .int .i64 f.result.n, .string f.result.name, .slice ay le cy] 74)).cell? ⟨w.heap.size, 1, none⟩ = some (.slice ap lp cp) := cellUp (box7_at w (.string f.name) (.slice ap lp cp) (.slice ab lb cb) (.int .i64 f.result.kind) (.int .i64 f.result.n) (.string f.result.name) (.slice ax le cx) 74 1 _ rfl) (boxBelow _ _)
  have q2 : ((w.alloc (.cells #[.string f.name, .slice ap lp cp, .slice ab lb cb, .int .i64 f.result.kind, .int .i64 f.result.n, .string f.result.name, .slice ax le cx] 74)).alloc (.cells #[.string f.name, .slice ap' lp cp', .slice ab' lb cb', .int .i64 f.result.kind, .int .i64 f.result.n, .string f.result.name, .slice ay le cy] 74)).cell? ⟨w.heap.size, 2, none⟩ = some (.slice ab lb cb) := cellUp (box7_at w (.string f.name) (.slice ap lp cp) (.slice ab lb cb) (.int .i64 f.result.kind) (.int .i64 f.result.n) (.string f.result.name) (.slice ax le cx) 74 2 _ rfl) (boxBelow _ _)
  have q3 : ((w.alloc (.cells #[.string f.name, .slice ap lp cp, .slice ab lb cb, .int .i64 f.result.kind, .int .i64 f.result.n, .string f.result.name, .slice ax le cx] 74)).alloc (.cells #[.string f.name, .slice ap' lp cp', .slice ab' lb cb', .int .i64 f.result.kind, .int .i64 f.result.n, .string f.result.name, .slice ay le cy] 74)).cell? ⟨w.heap.size, 3, none⟩ = some (.int .i64 f.result.kind) := cellUp (box7_at w (.string f.name) (.slice ap lp cp) (.slice ab lb cb) (.int .i64 f.result.kind) (.int .i64 f.result.n) (.string f.result.name) (.slice ax le cx) 74 3 _ rfl) (boxBelow _ _)
  have q4 : ((w.alloc (.cells #[.string f.name, .slice ap lp cp, .slice ab lb cb, .int .i64 f.result.kind, .int .i64 f.result.n, .string f.result.name, .slice ax le cx] 74)).alloc (.cells #[.string f.name, .slice ap' lp cp', .slice ab' lb cb', .int .i64 f.result.kind, .int .i64 f.result.n, .string f.result.name, .slice ay le cy] 74)).cell? ⟨w.heap.size, 3 + 1, none⟩ = some (.int .i64 f.result.n) := cellUp (box7_at w (.string f.name) (.slice ap lp cp) (.slice ab lb cb) (.int .i64 f.result.kind) (.int .i64 f.result.n) (.string f.result.name) (.slice ax le cx) 74 4 _ rfl) (boxBelow _ _)
  have q5 : ((w.alloc (.cells #[.string f.name, .slice ap lp cp, .slice ab lb cb, .int .i64 f.result.kind, .int .i64 f.result.n, .string f.result.name, .slice ax le cx] 74)).alloc (.cells #[.string f.name, .slice ap' lp cp', .slice ab' lb cb', .int .i64 f.result.kind, .int .i64 f.result.n, .string f.result.name, .slice ay le cy] 74)).cell? ⟨w.heap.size, 3 + 2, none⟩ = some (.string f.result.name) := cellUp (box7_at w (.string f.name) (.slice ap lp cp) (.slice ab lb cb) (.int .i64 f.result.kind) (.int .i64 f.result.n) (.string f.result.name) (.slice ax le cx) 74 5 _ rfl) (boxBelow _ _)
  have q6 : ((w.alloc (.cells #[.string f.name, .slice ap lp cp, .slice ab lb cb, .int .i64 f.result.kind, .int .i64 f.result.n, .string f.result.name, .slice ax le cx] 74)).alloc (.cells #[.string f.name, .slice ap' lp cp', .slice ab' lb cb', .int .i64 f.result.kind, .int .i64 f.result.n, .string f.result.name, .slice ay le cy] 74)).cell? ⟨w.heap.size, 3 + 3, none⟩ = some (.slice ax le cx) := cellUp (box7_at w (.string f.name) (.slice ap lp cp) (.slice ab lb cb) (.int .i64 f.result.kind) (.int .i64 f.result.n) (.string f.result.name) (.slice ax le cx) 74 6 _ rfl) (boxBelow _ _)
  have p0 : ((w.alloc (.cells #[.string f.name, .slice ap lp cp, .slice ab lb cb, .int .i64 f.result.kind, .int .i64 f.result.n, .string f.result.name, .slice ax le cx] 74)).alloc (.cells #[.string f.name, .slice ap' lp cp', .slice ab' lb cb', .int .i64 f.result.kind, .int .i64 f.result.n, .string f.result.name, .slice ay le cy] 74)).cell? ⟨w.heap.size + 1, 0, none⟩ = some (.string f.name) := by
    have := box7_at (w.alloc (.cells #[.string f.name, .slice ap lp cp, .slice ab lb cb, .int .i64 f.result.kind, .int .i64 f.result.n, .string f.result.name, .slice ax le cx] 74)) (.string f.name) (.slice ap' lp cp') (.slice ab' lb cb') (.int .i64 f.result.kind) (.int .i64 f.result.n) (.string f.result.name) (.slice ay le cy) 74 0 _ rfl
    have e : (w.alloc (.cells #[.string f.name, .slice ap lp cp, .slice ab lb cb, .int .i64 f.result.kind, .int .i64 f.result.n, .string f.result.name, .slice ax le cx] 74)).heap.size = w.heap.size + 1 := by simp
    rw [e] at this
    exact this
  have p1 : ((w.alloc (.cells #[.string f.name, .slice ap lp cp, .slice ab lb cb, .int .i64 f.result.kind, .int .i64 f.result.n, .string f.result.name, .slice ax le cx] 74)).alloc (.cells #[.string f.name, .slice ap' lp cp', .slice ab' lb cb', .int .i64 f.result.kind, .int .i64 f.result.n, .string f.result.name, .slice ay le cy] 74)).cell? ⟨w.heap.size + 1, 1, none⟩ = some (.slice ap' lp cp') := by
    have := box7_at (w.alloc (.cells #[.string f.name, .slice ap lp cp, .slice ab lb cb, .int .i64 f.result.kind, .int .i64 f.result.n, .string f.result.name, .slice ax le cx] 74)) (.string f.name) (.slice ap' lp cp') (.slice ab' lb cb') (.int .i64 f.result.kind) (.int .i64 f.result.n) (.string f.result.name) (.slice ay le cy) 74 1 _ rfl
    have e : (w.alloc (.cells #[.string f.name, .slice ap lp cp, .slice ab lb cb, .int .i64 f.result.kind, .int .i64 f.result.n, .string f.result.name, .slice ax le cx] 74)).heap.size = w.heap.size + 1 := by simp
    rw [e] at this
    exact this
  have p2 : ((w.alloc (.cells #[.string f.name, .slice ap lp cp, .slice ab lb cb, .int .i64 f.result.kind, .int .i64 f.result.n, .string f.result.name, .slice ax le cx] 74)).alloc (.cells #[.string f.name, .slice ap' lp cp', .slice ab' lb cb', .int .i64 f.result.kind, .int .i64 f.result.n, .string f.result.name, .slice ay le cy] 74)).cell? ⟨w.heap.size + 1, 2, none⟩ = some (.slice ab' lb cb') := by
    have := box7_at (w.alloc (.cells #[.string f.name, .slice ap lp cp, .slice ab lb cb, .int .i64 f.result.kind, .int .i64 f.result.n, .string f.result.name, .slice ax le cx] 74)) (.string f.name) (.slice ap' lp cp') (.slice ab' lb cb') (.int .i64 f.result.kind) (.int .i64 f.result.n) (.string f.result.name) (.slice ay le cy) 74 2 _ rfl
    have e : (w.alloc (.cells #[.string f.name, .slice ap lp cp, .slice ab lb cb, .int .i64 f.result.kind, .int .i64 f.result.n, .string f.result.name, .slice ax le cx] 74)).heap.size = w.heap.size + 1 := by simp
    rw [e] at this
    exact this
  have p3 : ((w.alloc (.cells #[.string f.name, .slice ap lp cp, .slice ab lb cb, .int .i64 f.result.kind, .int .i64 f.result.n, .string f.result.name, .slice ax le cx] 74)).alloc (.cells #[.string f.name, .slice ap' lp cp', .slice ab' lb cb', .int .i64 f.result.kind, .int .i64 f.result.n, .string f.result.name, .slice ay le cy] 74)).cell? ⟨w.heap.size + 1, 3, none⟩ = some (.int .i64 f.result.kind) := by
    have := box7_at (w.alloc (.cells #[.string f.name, .slice ap lp cp, .slice ab lb cb, .int .i64 f.result.kind, .int .i64 f.result.n, .string f.result.name, .slice ax le cx] 74)) (.string f.name) (.slice ap' lp cp') (.slice ab' lb cb') (.int .i64 f.result.kind) (.int .i64 f.result.n) (.string f.result.name) (.slice ay le cy) 74 3 _ rfl
    have e : (w.alloc (.cells #[.string f.name, .slice ap lp cp, .slice ab lb cb, .int .i64 f.result.kind, .int .i64 f.result.n, .string f.result.name, .slice ax le cx] 74)).heap.size = w.heap.size + 1 := by simp
    rw [e] at this
    exact this
  have p4 : ((w.alloc (.cells #[.string f.name, .slice ap lp cp, .slice ab lb cb, .int .i64 f.result.kind, .int .i64 f.result.n, .string f.result.name, .slice ax le cx] 74)).alloc (.cells #[.string f.name, .slice ap' lp cp', .slice ab' lb cb', .int .i64 f.result.kind, .int .i64 f.result.n, .string f.result.name, .slice ay le cy] 74)).cell? ⟨w.heap.size + 1, 3 + 1, none⟩ = some (.int .i64 f.result.n) := by
    have := box7_at (w.alloc (.cells #[.string f.name, .slice ap lp cp, .slice ab lb cb, .int .i64 f.result.kind, .int .i64 f.result.n, .string f.result.name, .slice ax le cx] 74)) (.string f.name) (.slice ap' lp cp') (.slice ab' lb cb') (.int .i64 f.result.kind) (.int .i64 f.result.n) (.string f.result.name) (.slice ay le cy) 74 4 _ rfl
    have e : (w.alloc (.cells #[.string f.name, .slice ap lp cp, .slice ab lb cb, .int .i64 f.result.kind, .int .i64 f.result.n, .string f.result.name, .slice ax le cx] 74)).heap.size = w.heap.size + 1 := by simp
    rw [e] at this
    exact this
  have p5 : ((w.alloc (.cells #[.string f.name, .slice ap lp cp, .slice ab lb cb, .int .i64 f.result.kind, .int .i64 f.result.n, .string f.result.name, .slice ax le cx] 74)).alloc (.cells #[.string f.name, .slice ap' lp cp', .slice ab' lb cb', .int .i64 f.result.kind, .int .i64 f.result.n, .string f.result.name, .slice ay le cy] 74)).cell? ⟨w.heap.size + 1, 3 + 2, none⟩ = some (.string f.result.name) := by
    have := box7_at (w.alloc (.cells #[.string f.name, .slice ap lp cp, .slice ab lb cb, .int .i64 f.result.kind, .int .i64 f.result.n, .string f.result.name, .slice ax le cx] 74)) (.string f.name) (.slice ap' lp cp') (.slice ab' lb cb') (.int .i64 f.result.kind) (.int .i64 f.result.n) (.string f.result.name) (.slice ay le cy) 74 5 _ rfl
    have e : (w.alloc (.cells #[.string f.name, .slice ap lp cp, .slice ab lb cb, .int .i64 f.result.kind, .int .i64 f.result.n, .string f.result.name, .slice ax le cx] 74)).heap.size = w.heap.size + 1 := by simp
    rw [e] at this
    exact this
  have p6 : ((w.alloc (.cells #[.string f.name, .slice ap lp cp, .slice ab lb cb, .int .i64 f.result.kind, .int .i64 f.result.n, .string f.result.name, .slice ax le cx] 74)).alloc (.cells #[.string f.name, .slice ap' lp cp', .slice ab' lb cb', .int .i64 f.result.kind, .int .i64 f.result.n, .string f.result.name, .slice ay le cy] 74)).cell? ⟨w.heap.size + 1, 3 + 3, none⟩ = some (.slice ay le cy) := by
    have := box7_at (w.alloc (.cells #[.string f.name, .slice ap lp cp, .slice ab lb cb, .int .i64 f.result.kind, .int .i64 f.result.n, .string f.result.name, .slice ax le cx] 74)) (.string f.name) (.slice ap' lp cp') (.slice ab' lb cb') (.int .i64 f.result.kind) (.int .i64 f.result.n) (.string f.result.name) (.slice ay le cy) 74 6 _ rfl
    have e : (w.alloc (.cells #[.string f.name, .slice ap lp cp, .slice ab lb cb, .int .i64 f.result.kind, .int .i64 f.result.n, .string f.result.name, .slice ax le cx] 74)).heap.size = w.heap.size + 1 := by simp
    rw [e] at this
    exact this
  have e2 : (f.name.toList == f.name.toList) = true := by simp
  clear hle hla hlb
  go_enter Tryz.func28, Tryz.ntmps28
  go_wp2_with fail
  generalize ((w.alloc (.cells #[.string f.name, .slice ap lp cp, .slice ab lb cb, .int .i64 f.result.kind, .int .i64 f.result.n, .string f.result.name, .slice ax le cx] 74)).alloc (.cells #[.string f.name, .slice ap' lp cp', .slice ab' lb cb', .int .i64 f.result.kind, .int .i64 f.result.n, .string f.result.name, .slice ay le cy] 74)) = W0 at *
  refine (eqS_same _ _ _ f.params (HS.out.below HB0.out).2.1 (HS'.out.below HB0.out).2.1).mono ?_
  rintro e w5 ⟨rfl, hb5⟩
  replace q2 := cellUp q2 hb5
  replace q3 := cellUp q3 hb5
  replace q4 := cellUp q4 hb5
  replace q5 := cellUp q5 hb5
  replace q6 := cellUp q6 hb5
  replace p2 := cellUp p2 hb5
  replace p3 := cellUp p3 hb5
  replace p4 := cellUp p4 hb5
  replace p5 := cellUp p5 hb5
  replace p6 := cellUp p6 hb5
  have HB5 := hide (up HB0.out hb5)
  clear hb5 q0 q1 p0 p1
  go_wp2_with fail
  refine (sameBody_any m _ _ _ f.body (HS.out.below HB5.out).2.2.1 (HS'.out.below HB5.out).2.2.1).mono ?_
  rintro e w6 ⟨rfl, hb6⟩
  replace q3 := cellUp q3 hb6
  replace q4 := cellUp q4 hb6
  replace q5 := cellUp q5 hb6
  replace q6 := cellUp q6 hb6
  replace p3 := cellUp p3 hb6
  replace p4 := cellUp p4 hb6
  replace p5 := cellUp p5 hb6
  replace p6 := cellUp p6 hb6
  have HB6 := hide (up HB5.out hb6)
  clear hb6 q2 p2
  go_wp2_with fail
  refine (sameExpr_any m _ _ _ _ _ _ _ _ _ f.result (HS.out.below HB6.out).2.2.2 (HS'.out.below HB6.out).2.2.2).mono ?_
  rintro e w7 ⟨rfl, hb7⟩
  have HB7 := hide (up HB6.out hb7)
  clear hb7 q3 q4 q5 q6 p3 p4 p5 p6
  go_wp2
  go_ret
  exact ⟨rfl, HB7.out⟩

set_option maxHeartbeats 2000000 in
set_option maxRecDepth 100000 in
theorem eqfF_any (m : Nat) (w : World) (v v' : Value) (l : List Fu) (h : FusAt w m v l) (h' : FusAt w m v' l) :
    Calls Tryz.prog 27 #[v, v', .func (.func 28) #[] #[]] w fun e w' => e = .returned (.bool true) ∧ Below w.heap.size w w' := by
  obtain ⟨a, b, off, cap, rfl, ha, hl, hel⟩ := h
  obtain ⟨a', b', off', cap', rfl, ha', _, hel'⟩ := h'
  have HEL := hide hel
  have HA := hide ha
  have HEL' := hide hel'
  have HA' := hide ha'
  clear hel ha hel' ha'
  obtain ⟨len, hlen⟩ : ∃ len, len = l.length := ⟨_, rfl⟩
  have HL := hide hlen
  rw [← hlen] at hl HA HA' ⊢
  clear hlen
  go_enter Tryz.func27, Tryz.ntmps27
  go_wp2
  go_loopw [17] (fun i wr => ∃ j : Nat, j ≤ len ∧ i = .int .i64 j ∧ Below w.heap.size w wr) (fun i _ => len - (intOf i).toNat)
  case atStart => exact ⟨0, Nat.zero_le _, rfl, Below.refl _ _⟩
  case round =>
    obtain ⟨j, hj, rfl, hnx⟩ := hrel
    by_cases hjl : j < len
    · obtain ⟨y, hy⟩ : ∃ y, l[j]? = some y := ⟨_, List.getElem?_eq_getElem (by rw [← HL.out]; exact hjl)⟩
      obtain ⟨k1, vp, vb, e0, e1, e2, e3, g0, g1, g2, g3, g4, g5, g6, hp, hsb, hx⟩ := HEL.out j y hy
      obtain ⟨_, up', ub, f0, f1, f2, f3, h0, h1, h2, h3, h4, h5, h6, hp', hsb', hx'⟩ := HEL'.out j y hy
      obtain rfl := HA.out (by omega)
      obtain rfl := HA'.out (by omega)
      have HYE : Hid (FuAt wr m vp vb e0 e1 e2 e3 y) := hide (FuAt.below ⟨k1, hp, hsb, hx⟩ hnx)
      have HYF : Hid (FuAt wr m up' ub f0 f1 f2 f3 y) := hide (FuAt.below ⟨k1, hp', hsb', hx'⟩ hnx)
      have u0' := cellUp g0 hnx
      have u1' := cellUp g1 hnx
      have u2' := cellUp g2 hnx
      have u3' := cellUp g3 hnx
      have u4' := cellUp g4 hnx
      have u5' := cellUp g5 hnx
      have u6' := cellUp g6 hnx
      have z0 := cellUp h0 (up hnx (boxBelow wr (.cells #[.string y.name, vp, vb, e0, e1, e2, e3] 74)))
      have z1 := cellUp h1 (up hnx (boxBelow wr (.cells #[.string y.name, vp, vb, e0, e1, e2, e3] 74)))
      have z2 := cellUp h2 (up hnx (boxBelow wr (.cells #[.string y.name, vp, vb, e0, e1, e2, e3] 74)))
      have z3 := cellUp h3 (up hnx (boxBelow wr (.cells #[.string y.name, vp, vb, e0, e1, e2, e3] 74)))
      have z4 := cellUp h4 (up hnx (boxBelow wr (.cells #[.string y.name, vp, vb, e0, e1, e2, e3] 74)))
      have z5 := cellUp h5 (up hnx (boxBelow wr (.cells #[.string y.name, vp, vb, e0, e1, e2, e3] 74)))
      have z6 := cellUp h6 (up hnx (boxBelow wr (.cells #[.string y.name, vp, vb, e0, e1, e2, e3] 74)))
      obtain ⟨ax, cx, rfl, rfl, rfl, rfl⟩ := hx.shape
      obtain ⟨ay, cy, rfl, rfl, rfl, rfl⟩ := hx'.shape
      obtain ⟨ab, cb, rfl, _⟩ := hsb.shape
      obtain ⟨ab', cb', rfl, _⟩ := hsb'.shape
      obtain ⟨ap, cp, rfl, _⟩ := hp.shape
      obtain ⟨ap', cp', rfl, _⟩ := hp'.shape
      have HNX := hide hnx
      clear g0 g1 g2 g3 g4 g5 g6 h0 h1 h2 h3 h4 h5 h6 hx hx' hp hsb hp' hsb' hy hnx
      go_wp2_with fail
      refine (sameFu_any m _ y _ _ _ _ _ _ _ _ _ _ _ _ (HYE.out.below (twoBB _ _ _)) (HYF.out.below (twoBB _ _ _))).mono ?_
      rintro e w5 ⟨rfl, hb5⟩
      have HN5 := hide (up HNX.out (up1 (up1 hb5)))
      clear hb5 HNX
      go_wp2
      go_roundw
      case rel => exact ⟨j + 1, by omega, by go_num, HN5.out⟩
      case measure => simp [intOf]; omega
    · go_wp2
      go_ret
      exact ⟨rfl, hnx⟩

set_option maxHeartbeats 2000000 in
set_option maxRecDepth 100000 in
theorem sameModule_any (m : Nat) (w : World) (v v' : Value) (x : Mo) (h : MoAt w m v x) (h' : MoAt w m v' x) :
    Calls Tryz.prog 9 #[v, v'] w fun e w' => e = .returned (.bool true) ∧ Below w.heap.size w w' := by
  obtain ⟨vi, vv, vf, rfl, hnm, hI, hV, hF⟩ := h
  obtain ⟨ui, uv, uf, rfl, _, hI', hV', hF'⟩ := h'
  have HI := hide hI
  have HV := hide hV
  have HF := hide hF
  have HI' := hide hI'
  have HV' := hide hV'
  have HF' := hide hF'
  obtain ⟨ai, ci, rfl, _⟩ := hI.shape
  obtain ⟨ai', ci', rfl, _⟩ := hI'.shape
  obtain ⟨av, cv, rfl⟩ : ∃ a c, vv = .slice a x.vars.length c := by obtain ⟨a, _, _, c, e, _⟩ := hV; exact ⟨a, c, e⟩
  obtain ⟨av', cv', rfl⟩ : ∃ a c, uv = .slice a x.vars.length c := by obtain ⟨a, _, _, c, e, _⟩ := hV'; exact ⟨a, c, e⟩
  obtain ⟨af, cf, rfl⟩ : ∃ a c, vf = .slice a x.funs.length c := by obtain ⟨a, _, _, c, e, _⟩ := hF; exact ⟨a, c, e⟩
  obtain ⟨af', cf', rfl⟩ : ∃ a c, uf = .slice a x.funs.length c := by obtain ⟨a, _, _, c, e, _⟩ := hF'; exact ⟨a, c, e⟩
  have hsz : x.name.size ≤ 9223372036854775807 := by unfold maxLen at hnm; omega
  clear hI hV hF hI' hV' hF' hnm
  generalize hli : x.imports.length = li at *
  generalize hlv : x.vars.length = lv at *
  generalize hlf : x.funs.length = lf at *
  have HB0 := hide (twoBB w (.cells #[.string x.name, .slice ai li ci, .slice av lv cv, .slice af lf cf] 26) (.cells #[.string x.name, .slice ai' li ci', .slice av' lv cv', .slice af' lf cf'] 26))
  have q0 : ((w.alloc (.cells #[.string x.name, .slice ai li ci, .slice av lv cv, .slice af lf cf] 26)).alloc (.cells #[.string x.name, .slice ai' li ci', .slice av' lv cv', .slice af' lf cf'] 26)).cell? ⟨w.heap.size, 0, none⟩ = some (.string x.name) := cellUp (box4_at w (.string x.name) (.slice ai li ci) (.slice av lv cv) (.slice af lf cf) 26 0 _ rfl) (boxBelow _ _)
  have q1 : ((w.alloc (.cells #[.string x.name, .slice ai li ci, .slice av lv cv, .slice af lf cf] 26)).alloc (.cells #[.string x.name, .slice ai' li ci', .slice av' lv cv', .slice af' lf cf'] 26)).cell? ⟨w.heap.size, 1, none⟩ = some (.slice ai li ci) := cellUp (box4_at w (.string x.name) (.slice ai li ci) (.slice av lv cv) (.slice af lf cf) 26 1 _ rfl) (boxBelow _ _)
  have q2 : ((w.alloc (.cells #[.string x.name, .slice ai li ci, .slice av lv cv, .slice af lf cf] 26)).alloc (.cells #[.string x.name, .slice ai' li ci', .slice av' lv cv', .slice af' lf cf'] 26)).cell? ⟨w.heap.size, 2, none⟩ = some (.slice av lv cv) := cellUp (box4_at w (.string x.name) (.slice ai li ci) (.slice av lv cv) (.slice af lf cf) 26 2 _ rfl) (boxBelow _ _)
  have q3 : ((w.alloc (.cells #[.string x.name, .slice ai li ci, .slice av lv cv, .slice af lf cf] 26)).alloc (.cells #[.string x.name, .slice ai' li ci', .slice av' lv cv', .slice af' lf cf'] 26)).cell? ⟨w.heap.size, 3, none⟩ = some (.slice af lf cf) := cellUp (box4_at w (.string x.name) (.slice ai li ci) (.slice av lv cv) (.slice af lf cf) 26 3 _ rfl) (boxBelow _ _)
  have p0 : ((w.alloc (.cells #[.string x.name, .slice ai li ci, .slice av lv cv, .slice af lf cf] 26)).alloc (.cells #[.string x.name, .slice ai' li ci', .slice av' lv cv', .slice af' lf cf'] 26)).cell? ⟨w.heap.size + 1, 0, none⟩ = some (.string x.name) := by
    have := box4_at (w.alloc (.cells #[.string x.name, .slice ai li ci, .slice av lv cv, .slice af lf cf] 26)) (.string x.name) (.slice ai' li ci') (.slice av' lv cv') (.slice af' lf cf') 26 0 _ rfl
    have e : (w.alloc (.cells #[.string x.name, .slice ai li ci, .slice av lv cv, .slice af lf cf] 26)).heap.size = w.heap.size + 1 := by simp
    rw [e] at this
    exact this
  have p1 : ((w.alloc (.cells #[.string x.name, .slice ai li ci, .slice av lv cv, .slice af lf cf] 26)).alloc (.cells #[.string x.name, .slice ai' li ci', .slice av' lv cv', .slice af' lf cf'] 26)).cell? ⟨w.heap.size + 1, 1, none⟩ = some (.slice ai' li ci') := by
    have := box4_at (w.alloc (.cells #[.string x.name, .slice ai li ci, .slice av lv cv, .slice af lf cf] 26)) (.string x.name) (.slice ai' li ci') (.slice av' lv cv') (.slice af' lf cf') 26 1 _ rfl
    have e : (w.alloc (.cells #[.string x.name, .slice ai li ci, .slice av lv cv, .slice af lf cf] 26)).heap.size = w.heap.size + 1 := by simp
    rw [e] at this
    exact this
  have p2 : ((w.alloc (.cells #[.string x.name, .slice ai li ci, .slice av lv cv, .slice af lf cf] 26)).alloc (.cells #[.string x.name, .slice ai' li ci', .slice av' lv cv', .slice af' lf cf'] 26)).cell? ⟨w.heap.size + 1, 2, none⟩ = some (.slice av' lv cv') := by
    have := box4_at (w.alloc (.cells #[.string x.name, .slice ai li ci, .slice av lv cv, .slice af lf cf] 26)) (.string x.name) (.slice ai' li ci') (.slice av' lv cv') (.slice af' lf cf') 26 2 _ rfl
    have e : (w.alloc (.cells #[.string x.name, .slice ai li ci, .slice av lv cv, .slice af lf cf] 26)).heap.size = w.heap.size + 1 := by simp
    rw [e] at this
    exact this
  have p3 : ((w.alloc (.cells #[.string x.name, .slice ai li ci, .slice av lv cv, .slice af lf cf] 26)).alloc (.cells #[.string x.name, .slice ai' li ci', .slice av' lv cv', .slice af' lf cf'] 26)).cell? ⟨w.heap.size + 1, 3, none⟩ = some (.slice af' lf cf') := by
    have := box4_at (w.alloc (.cells #[.string x.name, .slice ai li ci, .slice av lv cv, .slice af lf cf] 26)) (.string x.name) (.slice ai' li ci') (.slice av' lv cv') (.slice af' lf cf') 26 3 _ rfl
    have e : (w.alloc (.cells #[.string x.name, .slice ai li ci, .slice av lv cv, .slice af lf cf] 26)).heap.size = w.heap.size + 1 := by simp
    rw [e] at this
    exact this
  have e2 : (x.name.toList == x.name.toList) = true := by simp
  clear hli hlv hlf
  go_enter Tryz.func9, Tryz.ntmps9
  go_wp2_with fail
  generalize ((w.alloc (.cells #[.string x.name, .slice ai li ci, .slice av lv cv, .slice af lf cf] 26)).alloc (.cells #[.string x.name, .slice ai' li ci', .slice av' lv cv', .slice af' lf cf'] 26)) = W0 at *
  refine (eqS_same _ _ _ x.imports (HI.out.below HB0.out) (HI'.out.below HB0.out)).mono ?_
  rintro e w5 ⟨rfl, hb5⟩
  replace q2 := cellUp q2 hb5
  replace q3 := cellUp q3 hb5
  replace p2 := cellUp p2 hb5
  replace p3 := cellUp p3 hb5
  have HB5 := hide (up HB0.out hb5)
  clear hb5 q0 q1 p0 p1
  go_wp2_with fail
  refine (eqV_same _ _ _ x.vars (HV.out.below HB5.out) (HV'.out.below HB5.out)).mono ?_
  rintro e w6 ⟨rfl, hb6⟩
  replace q3 := cellUp q3 hb6
  replace p3 := cellUp p3 hb6
  have HB6 := hide (up HB5.out hb6)
  clear hb6 q2 p2
  go_wp2_with fail
  refine (eqfF_any m _ _ _ x.funs (HF.out.below HB6.out) (HF'.out.below HB6.out)).mono ?_
  rintro e w7 ⟨rfl, hb7⟩
  have HB7 := hide (up HB6.out hb7)
  clear hb7 q3 p3
  go_wp2
  go_ret
  exact ⟨rfl, HB7.out⟩

theorem FusAt.mono {w : World} {m k : Nat} {v : Value} {l : List Fu} (h : FusAt w m v l) (hk : m ≤ k) : FusAt w k v l := by
  obtain ⟨a, b, off, cap, h6, h7, h8, h9⟩ := h
  refine ⟨a, b, off, cap, h6, h7, h8, fun i s hs => ?_⟩
  obtain ⟨k1, vp, vb, e0, e1, e2, e3, g0, g1, g2, g3, g4, g5, g6, hp, hs', hx⟩ := h9 i s hs
  exact ⟨k1, vp, vb, e0, e1, e2, e3, g0, g1, g2, g3, g4, g5, g6, hp, hs'.mono k hk, hx.mono k hk⟩
theorem MoAt.mono {w : World} {m k : Nat} {v : Value} {x : Mo} (h : MoAt w m v x) (hk : m ≤ k) : MoAt w k v x := by
  obtain ⟨vi, vv, vf, h0, h1, h2, h3, h4⟩ := h
  exact ⟨vi, vv, vf, h0, h1, h2, h3, h4.mono hk⟩

end Go.Proofs.YtbncnkfogkhoeabGreatDoor

/- TreeBack's walk. -/
namespace Go.Proofs.YtbncnkfogkhoeabGreatDoor
open Go.RowKit

namespace Rd
theorem prX_w {s : ByteArray} (h : prE s = 0) : moW 8196 (prX s) ≤ 1048576 ∧ Lat.moE 8196 (prX s) = 0 := by
  have hx : prX s = (prM s).1 := by unfold prX; rw [if_pos h]
  rw [hx]
  unfold prE at h
  by_cases hw : Lat.we s = 0
  · rw [if_pos hw] at h
    cases hf : (prS s).f
    · rw [hf] at h
      simp only [Bool.false_eq_true, if_false] at h
      refine ⟨?_, h⟩
      have h1 : (prM s).2.f = false := (show Le (prS s) (prM s).2 from pend_le _).nf hf
      have h2 := pM_w (m := 8196) (st := ⟨Lat.wds s, false⟩) (K := 4097) (Or.inr (by have := (wds_facts s).1; simp only; omega)) h1
      have h3 := (wds_facts s).2.2.2.1
      simp only at h2
      show moW 8196 (pM 4097 ⟨Lat.wds s, false⟩).1 ≤ _
      omega
    · rw [hf] at h
      simp at h
  · rw [if_neg hw] at h; exact absurd h hw
theorem wn_le' (s : ByteArray) : Lat.wn s ≤ s.size := by
  unfold Lat.wn
  split
  · exact Nat.zero_le _
  · cases hb : Lat.badAt s with
    | none => exact Nat.zero_le _
    | some k => exact Nat.le_of_lt (Lat.find_spec hb).1
theorem prN_le (s : ByteArray) : 0 ≤ prN s ∧ prN s ≤ s.size := by
  unfold prN
  split
  · split
    · have hall : ∀ z ∈ Lat.wats s ++ [(s.size : Int)], 0 ≤ z ∧ z ≤ s.size := fun z hz => by
        rcases List.mem_append.1 hz with hz | hz
        · exact (wds_facts s).2.2.2.2 z hz
        · rw [List.mem_singleton] at hz; subst hz; omega
      generalize (Lat.wds s).length - (prS s).r.length = i
      by_cases hi : i < (Lat.wats s ++ [(s.size : Int)]).length
      · have e : (Lat.wats s ++ [(s.size : Int)]).getD i 0 = (Lat.wats s ++ [(s.size : Int)])[i] := by simp [List.getD, List.getElem?_eq_getElem hi]
        rw [e]
        exact hall _ (List.getElem_mem hi)
      · have e : (Lat.wats s ++ [(s.size : Int)]).getD i 0 = 0 := by simp [List.getD, List.getElem?_eq_none (Nat.le_of_not_lt hi)]
        rw [e]
        omega
    · omega
  · have := wn_le' s
    omega
theorem prX_bad {s : ByteArray} (h : prE s ≠ 0) : prX s = mo0 := by unfold prX; rw [if_neg h]
/-- The small module. -/
def sm : Mo := ⟨⟨#[109]⟩, [], [⟨⟨#[120]⟩, ⟨#[108, 111, 119]⟩⟩, ⟨⟨#[121]⟩, ⟨#[104, 105, 103, 104]⟩⟩],
  [⟨⟨#[102]⟩, [⟨#[112]⟩], [⟨1, ⟨#[121]⟩, ⟨3, 0, ⟨#[43]⟩, [⟨2, 0, ⟨#[112]⟩, []⟩, ⟨2, 0, ⟨#[120]⟩, []⟩]⟩, [], []⟩, ⟨4, ⟨#[108, 111, 119]⟩, ⟨2, 0, ⟨#[120]⟩, []⟩, [], []⟩], ⟨2, 0, ⟨#[120]⟩, []⟩⟩]⟩
def smT : ByteArray := Lat.moT 10 sm
theorem sm_ok : Lat.moE 10 sm = 0 := by decide +kernel
theorem sm_size : ¬ 4096 < smT.size := by decide +kernel
theorem sm_facts : prE smT = 0 ∧ prX smT = sm ∧ Lat.moE 8196 sm = 0 ∧ Lat.moT 8196 sm = smT := by
  obtain ⟨h1, h2⟩ := parse_text (m := 10) (x := sm) (fun _ => by decide) sm_ok sm_size
  obtain ⟨h3, h4, _⟩ := moE_up (m := 10) (k := 8196) (x := sm) (fun _ => by decide) sm_ok (by decide)
  exact ⟨h1, h2, h3, h4⟩
theorem sm_lit : smT = ⟨#[40, 109, 111, 100, 117, 108, 101, 32, 109, 32, 40, 118, 97, 114, 32, 120, 32, 108, 111, 119, 41, 32, 40, 118, 97, 114, 32, 121, 32, 104, 105, 103, 104, 41, 32, 40, 102, 117, 110, 32, 102, 32, 40, 112, 41, 32, 40, 115, 101, 116, 32, 121, 32, 40, 43, 32, 112, 32, 120, 41, 41, 32, 40, 112, 114, 105, 110, 116, 32, 108, 111, 119, 32, 120, 41, 32, 120, 41, 41]⟩ := by decide +kernel
end Rd

set_option maxHeartbeats 2000000 in
set_option maxRecDepth 100000 in
theorem read_any (w : World) (ht : Tab w) (he : ErrV w) :
    Calls Tryz.prog 6 #[] w fun e w' => e = .returned (.bool true) ∧ Below w.heap.size w w' := by
  have HP : Hid (∀ W, W = w → Calls Tryz.prog 8 #[.string ⟨#[40, 109, 111, 100, 117, 108, 101, 32, 109, 32, 40, 118, 97, 114, 32, 120, 32, 108, 111, 119, 41, 32, 40, 118, 97, 114, 32, 121, 32, 104, 105, 103, 104, 41, 32, 40, 102, 117, 110, 32, 102, 32, 40, 112, 41, 32, 40, 115, 101, 116, 32, 121, 32, 40, 43, 32, 112, 32, 120, 41, 41, 32, 40, 112, 114, 105, 110, 116, 32, 108, 111, 119, 32, 120, 41, 32, 120, 41, 41]⟩] W fun e w' => ∃ a1 n1 c1 a2 n2 c2 a3 n3 c3 z, e = .returned (.tuple #[.agg #[.string ⟨#[109]⟩, .slice a1 n1 c1, .slice a2 n2 c2, .slice a3 n3 c3], .int .i64 z, .int .i64 0]) ∧
      MoAt w' 8196 (.agg #[.string ⟨#[109]⟩, .slice a1 n1 c1, .slice a2 n2 c2, .slice a3 n3 c3]) Rd.sm ∧ Below W.heap.size W w') := hide (fun W hW => by
    subst hW
    have h := parse_any W Rd.smT (by rw [Rd.sm_lit]; decide) ht he
    rw [Rd.sm_facts.1, Rd.sm_facts.2.1] at h
    rw [Rd.sm_lit] at h
    refine h.mono ?_
    rintro e w' ⟨a1, n1, c1, a2, n2, c2, a3, n3, c3, rfl, hm, hb⟩
    exact ⟨a1, n1, c1, a2, n2, c2, a3, n3, c3, _, rfl, hm.sub (only_sub _ _), hb⟩)
  have HW : Hid (moW 8196 Rd.sm ≤ 1048576) := hide (by
    have := (Rd.prX_w Rd.sm_facts.1).1
    rw [Rd.sm_facts.2.1] at this
    exact this)
  have HE : Hid (Lat.moE 8196 Rd.sm = 0) := hide Rd.sm_facts.2.2.1
  have HT : Hid (Lat.prT 8196 Rd.sm = ⟨#[40, 109, 111, 100, 117, 108, 101, 32, 109, 32, 40, 118, 97, 114, 32, 120, 32, 108, 111, 119, 41, 32, 40, 118, 97, 114, 32, 121, 32, 104, 105, 103, 104, 41, 32, 40, 102, 117, 110, 32, 102, 32, 40, 112, 41, 32, 40, 115, 101, 116, 32, 121, 32, 40, 43, 32, 112, 32, 120, 41, 41, 32, 40, 112, 114, 105, 110, 116, 32, 108, 111, 119, 32, 120, 41, 32, 120, 41, 41]⟩) := hide (by
    unfold Lat.prT
    rw [Rd.sm_facts.2.2.1, if_pos rfl, Rd.sm_facts.2.2.2, Rd.sm_lit])
  go_enter Tryz.func6, Tryz.ntmps6
  go_wp2_with fail
  refine (HP.out w rfl).mono ?_
  rintro e w1 ⟨a1, n1, c1, a2, n2, c2, a3, n3, c3, z, rfl, hm, hb1⟩
  have HM := hide (hm.below (boxBelow w1 (.cells #[.string ⟨#[109]⟩, .slice a1 n1 c1, .slice a2 n2 c2, .slice a3 n3 c3] 26)))
  have HB := hide (up hb1 (boxBelow w1 (.cells #[.string ⟨#[109]⟩, .slice a1 n1 c1, .slice a2 n2 c2, .slice a3 n3 c3] 26)))
  clear hm hb1 HP
  go_wp2_with fail
  generalize w1.alloc (.cells #[.string ⟨#[109]⟩, .slice a1 n1 c1, .slice a2 n2 c2, .slice a3 n3 c3] 26) = W1 at *
  refine (print_any 8196 W1 _ Rd.sm HM.out HW.out (ht.below HB.out)).mono ?_
  rintro e w2 ⟨rfl, hb2⟩
  rw [HE.out]
  obtain ⟨t, htt⟩ : ∃ t, t = Lat.prT 8196 Rd.sm := ⟨_, rfl⟩
  rw [← htt] at HT ⊢
  have heq : (t.toList == [40, 109, 111, 100, 117, 108, 101, 32, 109, 32, 40, 118, 97, 114, 32, 120, 32, 108, 111, 119, 41, 32, 40, 118, 97, 114, 32, 121, 32, 104, 105, 103, 104, 41, 32, 40, 102, 117, 110, 32, 102, 32, 40, 112, 41, 32, 40, 115, 101, 116, 32, 121, 32, 40, 43, 32, 112, 32, 120, 41, 41, 32, 40, 112, 114, 105, 110, 116, 32, 108, 111, 119, 32, 120, 41, 32, 120, 41, 41]) = true := by rw [HT.out]; decide +kernel
  clear htt
  have HB2 := hide (up HB.out hb2)
  clear hb2 HT
  go_wp2
  go_ret
  exact ⟨rfl, HB2.out⟩

end Go.Proofs.YtbncnkfogkhoeabGreatDoor

/- The small function's run, as plain data. -/
namespace Go.Proofs.YtbncnkfogkhoeabGreatDoor
open Go.RowKit

theorem sm_mos : Rn.mosR 8196 [Rd.sm] = 0 := by
  have h : Nm.mosE 8196 [Rd.sm] = 0 := Nm.mosE_all fun x hx => by
    rw [List.mem_singleton] at hx
    subst hx
    exact Rd.sm_facts.2.2.1
  unfold Rn.mosR
  rw [if_pos h]
  rfl
/-- What the small function's run comes to. -/
def smR : Rn.Res := Rn.run 81988196 8196 [Rd.sm] ⟨#[109]⟩ ⟨#[102]⟩ [5] [⟨⟨#[109]⟩, ⟨#[120]⟩, 2⟩] 100
def smX : Int × Int × Rn.Sta := Rn.enter (Rn.M (Rn.mkTo [⟨⟨#[109]⟩, ⟨#[120]⟩, 2⟩] [Rd.sm] 1).1 [Rd.sm] 81988196) [Rd.sm] 0 0 [5] ⟨100, (Rn.mkTo [⟨⟨#[109]⟩, ⟨#[120]⟩, 2⟩] [Rd.sm] 1).2, []⟩
theorem smR_eq : smR = Rn.out (Rn.mkTo [⟨⟨#[109]⟩, ⟨#[120]⟩, 2⟩] [Rd.sm] 1).1 smX := by
  unfold smR Rn.run
  have hf : Rn.fnd [Rd.sm] ⟨#[109]⟩ ⟨#[102]⟩ = some (0, 0) := by decide +kernel
  rw [if_neg (by rw [sm_mos]; simp), if_neg (by decide), hf]
  rfl
theorem smX_err : smX.2.1 = 0 := by decide +kernel
theorem smX_res : smX.1 = 2 := by decide +kernel
theorem smX_pr : smX.2.2.pr = [(⟨#[108, 111, 119]⟩, 2)] := by kernel_rfl
theorem smX_vs : Rn.sto (Rn.mkTo [⟨⟨#[109]⟩, ⟨#[120]⟩, 2⟩] [Rd.sm] 1).1 smX.2.2.vs = [⟨⟨#[109]⟩, ⟨#[120]⟩, 2⟩, ⟨⟨#[109]⟩, ⟨#[121]⟩, 7⟩] := by kernel_rfl
theorem smR_facts : smR.res = 2 ∧ smR.err = 0 ∧ smR.pr = [(⟨#[108, 111, 119]⟩, 2)] ∧ smR.sto = [⟨⟨#[109]⟩, ⟨#[120]⟩, 2⟩, ⟨⟨#[109]⟩, ⟨#[121]⟩, 7⟩] := by
  rw [smR_eq]
  unfold Rn.out
  rw [if_pos smX_err]
  exact ⟨smX_res, rfl, smX_pr, smX_vs⟩

end Go.Proofs.YtbncnkfogkhoeabGreatDoor
