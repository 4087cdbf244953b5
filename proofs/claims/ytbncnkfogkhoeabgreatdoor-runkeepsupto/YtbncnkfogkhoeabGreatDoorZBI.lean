/- Walks over package downref: SameModule answers true of two modules that are the same. -/
import Derived.Test.YtbncnkfogkhoeabGreatDoorZAY
import Derived.Test.YtbncnkfogkhoeabGreatDoorZAV
import Derived.Test.YtbncnkfogkhoeabGreatDoorZAI
import Derived.Test.YtbncnkfogkhoeabGreatDoorZAK
import Derived.Test.YtbncnkfogkhoeabGreatDoorZAJ
namespace Go.Proofs.YtbncnkfogkhoeabGreatDoor
open Go.RowKit

set_option maxHeartbeats 1000000 in
theorem eqV_same (w : World) (v1 v2 : Value) (l : List Va) (h1 : VasAt w v1 l) (h2 : VasAt w v2 l) :
    Calls Tryz.prog 26 #[v1, v2] w fun e w' => e = .returned (.bool true) ∧ Below w.heap.size w w' := by
  obtain ⟨a1, b1, o1, c1, rfl, ha1, hl, hc1⟩ := h1
  obtain ⟨a2, b2, o2, c2, rfl, ha2, _, hc2⟩ := h2
  have HA1 := hide ha1
  have HA2 := hide ha2
  have HC1 := hide hc1
  have HC2 := hide hc2
  clear ha1 ha2 hc1 hc2
  generalize hlen : l.length = len at *
  have HL := hide hlen
  clear hlen
  go_enter Tryz.func26, Tryz.ntmps26
  go_wp2
  go_loopw [13] (fun i wr => ∃ k : Nat, k ≤ len ∧ i = .int .i64 k ∧ Below w.heap.size w wr) (fun i _ => len - (intOf i).toNat)
  case atStart => exact ⟨0, Nat.zero_le _, rfl, Below.refl _ _⟩
  case round =>
    obtain ⟨k, hk, rfl, hnx⟩ := hrel
    by_cases hlt : k < len
    · obtain ⟨y, hy⟩ : ∃ y, l[k]? = some y := ⟨_, List.getElem?_eq_getElem (by rw [HL.out]; exact hlt)⟩
      obtain ⟨_, _, p1, p2⟩ := HC1.out k y hy
      obtain ⟨_, _, p3, p4⟩ := HC2.out k y hy
      obtain rfl := HA1.out (by omega)
      obtain rfl := HA2.out (by omega)
      have g1 := cellUp p1 hnx
      have g2 := cellUp p2 hnx
      have g3 := cellUp p3 hnx
      have g4 := cellUp p4 hnx
      obtain ⟨s, t⟩ := y
      simp only at g1 g2 g3 g4
      have HNX := hide hnx
      have i1 : (0 : Int) ≤ (k : Int) := by omega
      have i2 : (k : Int) < (len : Int) := by omega
      clear hnx p1 p2 p3 p4 hy
      go_wp2_with fail
      go_quiet (fail)
      go_wp2
      go_roundw
      case rel => exact ⟨k + 1, by omega, by go_num, drewBelow HNX.out _⟩
      case measure => simp [intOf]; omega
    · go_wp2
      go_ret
      exact ⟨rfl, hnx⟩

section
variable (w : World) (o o' : Obj)
theorem twoBB : Below w.heap.size w ((w.alloc o).alloc o') := up (boxBelow _ _) (boxBelow _ _)
end

set_option maxHeartbeats 2000000 in
set_option maxRecDepth 100000 in
theorem eqfS_of (m : Nat) (hi : ∀ (w : World) (s : St) (e0 e1 e2 e3 va vb f0 f1 f2 f3 ua ub : Value), StAt w m e0 e1 e2 e3 va vb s → StAt w m f0 f1 f2 f3 ua ub s →
      Calls Tryz.prog 58 #[.agg #[.int .i64 s.kind, .string s.name, e0, e1, e2, e3, va, vb], .agg #[.int .i64 s.kind, .string s.name, f0, f1, f2, f3, ua, ub]] w fun e w' => e = .returned (.bool true) ∧ Below w.heap.size w w')
    (w : World) (v v' : Value) (l : List St) (h : StsAt w (m + 1) v l) (h' : StsAt w (m + 1) v' l) :
    Calls Tryz.prog 57 #[v, v', .func (.func 58) #[] #[]] w fun e w' => e = .returned (.bool true) ∧ Below w.heap.size w w' := by
  have HI := hide hi
  clear hi
  obtain ⟨a, b, off, cap, rfl, ha, hl, hel⟩ := h
  obtain ⟨a', b', off', cap', rfl, ha', _, hel'⟩ := h'
  have HEL := hide hel
  have HA := hide ha
  have HEL' := hide hel'
  have HA' := hide ha'
  clear hel ha hel' ha'
  obtain ⟨len, hlen⟩ : ∃ len, len = l.length := ⟨_, rfl⟩
  have HL := hide hlen
  rw [← hlen] at hl HA HA' ⊢
  clear hlen
  go_enter Tryz.func57, Tryz.ntmps57
  go_wp2
  go_loopw [17] (fun i wr => ∃ j : Nat, j ≤ len ∧ i = .int .i64 j ∧ Below w.heap.size w wr) (fun i _ => len - (intOf i).toNat)
  case atStart => exact ⟨0, Nat.zero_le _, rfl, Below.refl _ _⟩
  case round =>
    obtain ⟨j, hj, rfl, hnx⟩ := hrel
    by_cases hjl : j < len
    · obtain ⟨y, hy⟩ : ∃ y, l[j]? = some y := ⟨_, List.getElem?_eq_getElem (by rw [← HL.out]; exact hjl)⟩
      obtain ⟨k1, k2, e0, e1, e2, e3, va, vb, g0, g1, g2, g3, g4, g5, g6, g7, hx, hsa, hsb⟩ := HEL.out j y hy
      obtain ⟨_, _, f0, f1, f2, f3, ua, ub, h0, h1, h2, h3, h4, h5, h6, h7, hx', hsa', hsb'⟩ := HEL'.out j y hy
      obtain rfl := HA.out (by omega)
      obtain rfl := HA'.out (by omega)
      have HYE : Hid (StAt wr m e0 e1 e2 e3 va vb y) := hide (StAt.below ⟨k1, k2, hx, hsa, hsb⟩ hnx)
      have HYF : Hid (StAt wr m f0 f1 f2 f3 ua ub y) := hide (StAt.below ⟨k1, k2, hx', hsa', hsb'⟩ hnx)
      have u0' := cellUp g0 hnx
      have u1' := cellUp g1 hnx
      have u2' := cellUp g2 hnx
      have u3' := cellUp g3 hnx
      have u4' := cellUp g4 hnx
      have u5' := cellUp g5 hnx
      have u6' := cellUp g6 hnx
      have u7' := cellUp g7 hnx
      have z0 := cellUp h0 (up hnx (boxBelow wr (.cells #[.int .i64 y.kind, .string y.name, e0, e1, e2, e3, va, vb] 107)))
      have z1 := cellUp h1 (up hnx (boxBelow wr (.cells #[.int .i64 y.kind, .string y.name, e0, e1, e2, e3, va, vb] 107)))
      have z2 := cellUp h2 (up hnx (boxBelow wr (.cells #[.int .i64 y.kind, .string y.name, e0, e1, e2, e3, va, vb] 107)))
      have z3 := cellUp h3 (up hnx (boxBelow wr (.cells #[.int .i64 y.kind, .string y.name, e0, e1, e2, e3, va, vb] 107)))
      have z4 := cellUp h4 (up hnx (boxBelow wr (.cells #[.int .i64 y.kind, .string y.name, e0, e1, e2, e3, va, vb] 107)))
      have z5 := cellUp h5 (up hnx (boxBelow wr (.cells #[.int .i64 y.kind, .string y.name, e0, e1, e2, e3, va, vb] 107)))
      have z6 := cellUp h6 (up hnx (boxBelow wr (.cells #[.int .i64 y.kind, .string y.name, e0, e1, e2, e3, va, vb] 107)))
      have z7 := cellUp h7 (up hnx (boxBelow wr (.cells #[.int .i64 y.kind, .string y.name, e0, e1, e2, e3, va, vb] 107)))
      obtain ⟨ax, cx, rfl, rfl, rfl, rfl⟩ := hx.shape
      obtain ⟨ay, cy, rfl, rfl, rfl, rfl⟩ := hx'.shape
      obtain ⟨aa, ca, rfl, _⟩ := hsa.shape
      obtain ⟨ab, cb, rfl, _⟩ := hsb.shape
      obtain ⟨aa', ca', rfl, _⟩ := hsa'.shape
      obtain ⟨ab', cb', rfl, _⟩ := hsb'.shape
      have HNX := hide hnx
      clear g0 g1 g2 g3 g4 g5 g6 g7 h0 h1 h2 h3 h4 h5 h6 h7 hx hx' hsa hsb hsa' hsb' hy hnx
      go_wp2_with fail
      refine (HI.out _ y _ _ _ _ _ _ _ _ _ _ _ _ (HYE.out.below (twoBB _ _ _)) (HYF.out.below (twoBB _ _ _))).mono ?_
      rintro e w5 ⟨rfl, hb5⟩
      have HN5 := hide (up HNX.out (up1 (up1 hb5)))
      clear hb5 HNX
      go_wp2
      go_roundw
      case rel => exact ⟨j + 1, by omega, by go_num, HN5.out⟩
      case measure => simp [intOf]; omega
    · go_wp2
      go_ret
      exact ⟨rfl, hnx⟩

section
variable (w : World) (c0 c1 c2 c3 c4 c5 c6 c7 : Value) (t : TypeId)
theorem box8_at (i : Nat) (v : Value) (h : (#[c0, c1, c2, c3, c4, c5, c6, c7] : Array Value)[i]? = some v) : (w.alloc (.cells #[c0, c1, c2, c3, c4, c5, c6, c7] t)).cell? ⟨w.heap.size, i, none⟩ = some v := by
  show World.cell? (w.alloc (.cells #[c0, c1, c2, c3, c4, c5, c6, c7] t)) ⟨w.heap.size, i, none⟩ = some v
  unfold World.cell?
  rw [heap_alloc_new]
  exact h
end

set_option maxHeartbeats 2000000 in
set_option maxRecDepth 100000 in
theorem sameSt_of (m : Nat) (hB : ∀ (w : World) (v v' : Value) (l : List St), StsAt w m v l → StsAt w m v' l →
      Calls Tryz.prog 29 #[v, v'] w fun e w' => e = .returned (.bool true) ∧ Below w.heap.size w w')
    (w : World) (s : St) (e0 e1 e2 e3 va vb f0 f1 f2 f3 ua ub : Value) (h : StAt w m e0 e1 e2 e3 va vb s) (h' : StAt w m f0 f1 f2 f3 ua ub s) :
    Calls Tryz.prog 58 #[.agg #[.int .i64 s.kind, .string s.name, e0, e1, e2, e3, va, vb], .agg #[.int .i64 s.kind, .string s.name, f0, f1, f2, f3, ua, ub]] w fun e w' => e = .returned (.bool true) ∧ Below w.heap.size w w' := by
  have HB := hide hB
  have HS := hide h
  have HS' := hide h'
  clear hB
  obtain ⟨k1, k2, hx, hsa, hsb⟩ := h
  obtain ⟨_, _, hx', hsa', hsb'⟩ := h'
  obtain ⟨ax, cx, rfl, rfl, rfl, rfl⟩ := hx.shape
  obtain ⟨ay, cy, rfl, rfl, rfl, rfl⟩ := hx'.shape
  obtain ⟨aa, ca, rfl, _⟩ := hsa.shape
  obtain ⟨ab, cb, rfl, _⟩ := hsb.shape
  obtain ⟨aa', ca', rfl, _⟩ := hsa'.shape
  obtain ⟨ab', cb', rfl, _⟩ := hsb'.shape
  have hsz : s.name.size ≤ 9223372036854775807 := by unfold maxLen at k2; omega
  clear hx hx' hsa hsb hsa' hsb' k1 k2
  generalize hle : s.e.args.length = le at *
  generalize hla : s.a.length = la at *
  generalize hlb : s.b.length = lb at *
  have HB0 := hide (twoBB w (.cells #[.int .i64 s.kind, .string s.name, .int .i64 s.e.kind, .int .i64 s.e.n, .string s.e.name, .slice ax le cx, .slice aa la ca, .slice ab lb cb] 107) (.cells #[.int .i64 s.kind, .string s.name, .int .i64 s.e.kind, .int .i64 s.e.n, .string s.e.name, .slice ay le cy, .slice aa' la ca', .slice ab' lb cb'] 107))
  have q0 : ((w.alloc (.cells #[.int .i64 s.kind, .string s.name, .int .i64 s.e.kind, .int .i64 s.e.n, .string s.e.name, .slice ax le cx, .slice aa la ca, .slice ab lb cb] 107)).alloc (.cells #[.int .i64 s.kind, .string s.name, .int .i64 s.e.kind, .int .i64 s.e.n, .string s.e.name, .slice ay le cy, .slice aa' la ca', .slice ab' lb cb'] 107)).cell? ⟨w.heap.size, 0, none⟩ = some (.int .i64 s.kind) := cellUp (box8_at w (.int .i64 s.kind) (.string s.name) (.int .i64 s.e.kind) (.int .i64 s.e.n) (.string s.e.name) (.slice ax le cx) (.slice aa la ca) (.slice ab lb cb) 107 0 _ rfl) (boxBelow _ _)
  have q1 : ((w.alloc (.cells #[.int .i64 s.kind, .string s.name, .int .i64 s.e.kind, .int .i64 s.e.n, .string s.e.name, .slice ax le cx, .slice aa la ca, .slice ab lb cb] 107)).alloc (.cells #[.int .i64 s.kind, .string s.name, .int .i64 s.e.kind, .int .i64 s.e.n, .string s.e.name, .slice ay le cy, .slice aa' la ca', .slice ab' lb cb'] 107)).cell? ⟨w.heap.size, 1, none⟩ = some (.string s.name) := cellUp (box8_at w (.int .i64 s.kind) (.string s.name) (.int .i64 s.e.kind) (.int .i64 s.e.n) (.string s.e.name) (.slice ax le cx) (.slice aa la ca) (.slice ab lb cb) 107 1 _ rfl) (boxBelow _ _)
  have q2 : ((w.alloc (.cells #[.int .i64 s.kind, .string s.name, .int .i64 s.e.kind, .int .i64 s.e.n, .string s.e.name, .slice ax le cx, .slice aa la ca, .slice ab lb cb] 107)).alloc (.cells #[.int .i64 s.kind, .string s.name, .int .i64 s.e.kind, .int .i64 s.e.n, .string s.e.name, .slice ay le cy, .slice aa' la ca', .slice ab' lb cb'] 107)).cell? ⟨w.heap.size, 2, none⟩ = some (.int .i64 s.e.kind) := cellUp (box8_at w (.int .i64 s.kind) (.string s.name) (.int .i64 s.e.kind) (.int .i64 s.e.n) (.string s.e.name) (.slice ax le cx) (.slice aa la ca) (.slice ab lb cb) 107 2 _ rfl) (boxBelow _ _)
  have q3 : ((w.alloc (.cells #[.int .i64 s.kind, .string s.name, .int .i64 s.e.kind, .int .i64 s.e.n, .string s.e.name, .slice ax le cx, .slice aa la ca, .slice ab lb cb] 107)).alloc (.cells #[.int .i64 s.kind, .string s.name, .int .i64 s.e.kind, .int .i64 s.e.n, .string s.e.name, .slice ay le cy, .slice aa' la ca', .slice ab' lb cb'] 107)).cell? ⟨w.heap.size, 2 + 1, none⟩ = some (.int .i64 s.e.n) := cellUp (box8_at w (.int .i64 s.kind) (.string s.name) (.int .i64 s.e.kind) (.int .i64 s.e.n) (.string s.e.name) (.slice ax le cx) (.slice aa la ca) (.slice ab lb cb) 107 3 _ rfl) (boxBelow _ _)
  have q4 : ((w.alloc (.cells #[.int .i64 s.kind, .string s.name, .int .i64 s.e.kind, .int .i64 s.e.n, .string s.e.name, .slice ax le cx, .slice aa la ca, .slice ab lb cb] 107)).alloc (.cells #[.int .i64 s.kind, .string s.name, .int .i64 s.e.kind, .int .i64 s.e.n, .string s.e.name, .slice ay le cy, .slice aa' la ca', .slice ab' lb cb'] 107)).cell? ⟨w.heap.size, 2 + 2, none⟩ = some (.string s.e.name) := cellUp (box8_at w (.int .i64 s.kind) (.string s.name) (.int .i64 s.e.kind) (.int .i64 s.e.n) (.string s.e.name) (.slice ax le cx) (.slice aa la ca) (.slice ab lb cb) 107 4 _ rfl) (boxBelow _ _)
  have q5 : ((w.alloc (.cells #[.int .i64 s.kind, .string s.name, .int .i64 s.e.kind, .int .i64 s.e.n, .string s.e.name, .slice ax le cx, .slice aa la ca, .slice ab lb cb] 107)).alloc (.cells #[.int .i64 s.kind, .string s.name, .int .i64 s.e.kind, .int .i64 s.e.n, .string s.e.name, .slice ay le cy, .slice aa' la ca', .slice ab' lb cb'] 107)).cell? ⟨w.heap.size, 2 + 3, none⟩ = some (.slice ax le cx) := cellUp (box8_at w (.int .i64 s.kind) (.string s.name) (.int .i64 s.e.kind) (.int .i64 s.e.n) (.string s.e.name) (.slice ax le cx) (.slice aa la ca) (.slice ab lb cb) 107 5 _ rfl) (boxBelow _ _)
  have q6 : ((w.alloc (.cells #[.int .i64 s.kind, .string s.name, .int .i64 s.e.kind, .int .i64 s.e.n, .string s.e.name, .slice ax le cx, .slice aa la ca, .slice ab lb cb] 107)).alloc (.cells #[.int .i64 s.kind, .string s.name, .int .i64 s.e.kind, .int .i64 s.e.n, .string s.e.name, .slice ay le cy, .slice aa' la ca', .slice ab' lb cb'] 107)).cell? ⟨w.heap.size, 6, none⟩ = some (.slice aa la ca) := cellUp (box8_at w (.int .i64 s.kind) (.string s.name) (.int .i64 s.e.kind) (.int .i64 s.e.n) (.string s.e.name) (.slice ax le cx) (.slice aa la ca) (.slice ab lb cb) 107 6 _ rfl) (boxBelow _ _)
  have q7 : ((w.alloc (.cells #[.int .i64 s.kind, .string s.name, .int .i64 s.e.kind, .int .i64 s.e.n, .string s.e.name, .slice ax le cx, .slice aa la ca, .slice ab lb cb] 107)).alloc (.cells #[.int .i64 s.kind, .string s.name, .int .i64 s.e.kind, .int .i64 s.e.n, .string s.e.name, .slice ay le cy, .slice aa' la ca', .slice ab' lb cb'] 107)).cell? ⟨w.heap.size, 7, none⟩ = some (.slice ab lb cb) := cellUp (box8_at w (.int .i64 s.kind) (.string s.name) (.int .i64 s.e.kind) (.int .i64 s.e.n) (.string s.e.name) (.slice ax le cx) (.slice aa la ca) (.slice ab lb cb) 107 7 _ rfl) (boxBelow _ _)
  have p0 : ((w.alloc (.cells #[.int .i64 s.kind, .string s.name, .int .i64 s.e.kind, .int .i64 s.e.n, .string s.e.name, .slice ax le cx, .slice aa la ca, .slice ab lb cb] 107)).alloc (.cells #[.int .i64 s.kind, .string s.name, .int .i64 s.e.kind, .int .i64 s.e.n, .string s.e.name, .slice ay le cy, .slice aa' la ca', .slice ab' lb cb'] 107)).cell? ⟨w.heap.size + 1, 0, none⟩ = some (.int .i64 s.kind) := by
    have := box8_at (w.alloc (.cells #[.int .i64 s.kind, .string s.name, .int .i64 s.e.kind, .int .i64 s.e.n, .string s.e.name, .slice ax le cx, .slice aa la ca, .slice ab lb cb] 107)) (.int .i64 s.kind) (.string s.name) (.int .i64 s.e.kind) (.int .i64 s.e.n) (.string s.e.name) (.slice ay le cy) (.slice aa' la ca') (.slice ab' lb cb') 107 0 _ rfl
    have e : (w.alloc (.cells #[.int .i64 s.kind, .string s.name, .int .i64 s.e.kind, .int .i64 s.e.n, .string s.e.name, .slice ax le cx, .slice aa la ca, .slice ab lb cb] 107)).heap.size = w.heap.size + 1 := by simp
    rw [e] at this
    exact this
  have p1 : ((w.alloc (.cells #[.int .i64 s.kind, .string s.name, .int .i64 s.e.kind, .int .i64 s.e.n, .string s.e.name, .slice ax le cx, .slice aa la ca, .slice ab lb cb] 107)).alloc (.cells #[.int .i64 s.kind, .string s.name, .int .i64 s.e.kind, .int .i64 s.e.n, .string s.e.name, .slice ay le cy, .slice aa' la ca', .slice ab' lb cb'] 107)).cell? ⟨w.heap.size + 1, 1, none⟩ = some (.string s.name) := by
    have := box8_at (w.alloc (.cells #[.int .i64 s.kind, .string s.name, .int .i64 s.e.kind, .int .i64 s.e.n, .string s.e.name, .slice ax le cx, .slice aa la ca, .slice ab lb cb] 107)) (.int .i64 s.kind) (.string s.name) (.int .i64 s.e.kind) (.int .i64 s.e.n) (.string s.e.name) (.slice ay le cy) (.slice aa' la ca') (.slice ab' lb cb') 107 1 _ rfl
    have e : (w.alloc (.cells #[.int .i64 s.kind, .string s.name, .int .i64 s.e.kind, .int .i64 s.e.n, .string s.e.name, .slice ax le cx, .slice aa la ca, .slice ab lb cb] 107)).heap.size = w.heap.size + 1 := by simp
    rw [e] at this
    exact this
  have p2 : ((w.alloc (.cells #[.int .i64 s.kind, .string s.name, .int .i64 s.e.kind, .int .i64 s.e.n, .string s.e.name, .slice ax le cx, .slice aa la ca, .slice ab lb cb] 107)).alloc (.cells #[.int .i64 s.kind, .string s.name, .int .i64 s.e.kind, .int .i64 s.e.n, .string s.e.name, .slice ay le cy, .slice aa' la ca', .slice ab' lb cb'] 107)).cell? ⟨w.heap.size + 1, 2, none⟩ = some (.int .i64 s.e.kind) := by
    have := box8_at (w.alloc (.cells #[.int .i64 s.kind, .string s.name, .int .i64 s.e.kind, .int .i64 s.e.n, .string s.e.name, .slice ax le cx, .slice aa la ca, .slice ab lb cb] 107)) (.int .i64 s.kind) (.string s.name) (.int .i64 s.e.kind) (.int .i64 s.e.n) (.string s.e.name) (.slice ay le cy) (.slice aa' la ca') (.slice ab' lb cb') 107 2 _ rfl
    have e : (w.alloc (.cells #[.int .i64 s.kind, .string s.name, .int .i64 s.e.kind, .int .i64 s.e.n, .string s.e.name, .slice ax le cx, .slice aa la ca, .slice ab lb cb] 107)).heap.size = w.heap.size + 1 := by simp
    rw [e] at this
    exact this
  have p3 : ((w.alloc (.cells #[.int .i64 s.kind, .string s.name, .int .i64 s.e.kind, .int .i64 s.e.n, .string s.e.name, .slice ax le cx, .slice aa la ca, .slice ab lb cb] 107)).alloc (.cells #[.int .i64 s.kind, .string s.name, .int .i64 s.e.kind, .int .i64 s.e.n, .string s.e.name, .slice ay le cy, .slice aa' la ca', .slice ab' lb cb'] 107)).cell? ⟨w.heap.size + 1, 2 + 1, none⟩ = some (.int .i64 s.e.n) := by
    have := box8_at (w.alloc (.cells #[.int .i64 s.kind, .string s.name, .int .i64 s.e.kind, .int .i64 s.e.n, .string s.e.name, .slice ax le cx, .slice aa la ca, .slice ab lb cb] 107)) (.int .i64 s.kind) (.string s.name) (.int .i64 s.e.kind) (.int .i64 s.e.n) (.string s.e.name) (.slice ay le cy) (.slice aa' la ca') (.slice ab' lb cb') 107 3 _ rfl
    have e : (w.alloc (.cells #[.int .i64 s.kind, .string s.name, .int .i64 s.e.kind, .int .i64 s.e.n, .string s.e.name, .slice ax le cx, .slice aa la ca, .slice ab lb cb] 107)).heap.size = w.heap.size + 1 := by simp
    rw [e] at this
    exact this
  have p4 : ((w.alloc (.cells #[.int .i64 s.kind, .string s.name, .int .i64 s.e.kind, .int .i64 s.e.n, .string s.e.name, .slice ax le cx, .slice aa la ca, .slice ab lb cb] 107)).alloc (.cells #[.int .i64 s.kind, .string s.name, .int .i64 s.e.kind, .int .i64 s.e.n, .string s.e.name, .slice ay le cy, .slice aa' la ca', .slice ab' lb cb'] 107)).cell? ⟨w.heap.size + 1, 2 + 2, none⟩ = some (.string s.e.name) := by
    have := box8_at (w.alloc (.cells #[.int .i64 s.kind, .string s.name, .int .i64 s.e.kind, .int .i64 s.e.n, .string s.e.name, .slice ax le cx, .slice aa la ca, .slice ab lb cb] 107)) (.int .i64 s.kind) (.string s.name) (.int .i64 s.e.kind) (.int .i64 s.e.n) (.string s.e.name) (.slice ay le cy) (.slice aa' la ca') (.slice ab' lb cb') 107 4 _ rfl
    have e : (w.alloc (.cells #[.int .i64 s.kind, .string s.name, .int .i64 s.e.kind, .int .i64 s.e.n, .string s.e.name, .slice ax le cx, .slice aa la ca, .slice ab lb cb] 107)).heap.size = w.heap.size + 1 := by simp
    rw [e] at this
    exact this
  have p5 : ((w.alloc (.cells #[.int .i64 s.kind, .string s.name, .int .i64 s.e.kind, .int .i64 s.e.n, .string s.e.name, .slice ax le cx, .slice aa la ca, .slice ab lb cb] 107)).alloc (.cells #[.int .i64 s.kind, .string s.name, .int .i64 s.e.kind, .int .i64 s.e.n, .string s.e.name, .slice ay le cy, .slice aa' la ca', .slice ab' lb cb'] 107)).cell? ⟨w.heap.size + 1, 2 + 3, none⟩ = some (.slice ay le cy) := by
    have := box8_at (w.alloc (.cells #[.int .i64 s.kind, .string s.name, .int .i64 s.e.kind, .int .i64 s.e.n, .string s.e.name, .slice ax le cx, .slice aa la ca, .slice ab lb cb] 107)) (.int .i64 s.kind) (.string s.name) (.int .i64 s.e.kind) (.int .i64 s.e.n) (.string s.e.name) (.slice ay le cy) (.slice aa' la ca') (.slice ab' lb cb') 107 5 _ rfl
    have e : (w.alloc (.cells #[.int .i64 s.kind, .string s.name, .int .i64 s.e.kind, .int .i64 s.e.n, .string s.e.name, .slice ax le cx, .slice aa la ca, .slice ab lb cb] 107)).heap.size = w.heap.size + 1 := by simp
    rw [e] at this
    exact this
  have p6 : ((w.alloc (.cells #[.int .i64 s.kind, .string s.name, .int .i64 s.e.kind, .int .i64 s.e.n, .string s.e.name, .slice ax le cx, .slice aa la ca, .slice ab lb cb] 107)).alloc (.cells #[.int .i64 s.kind, .string s.name, .int .i64 s.e.kind, .int .i64 s.e.n, .string s.e.name, .slice ay le cy, .slice aa' la ca', .slice ab' lb cb'] 107)).cell? ⟨w.heap.size + 1, 6, none⟩ = some (.slice aa' la ca') := by
    have := box8_at (w.alloc (.cells #[.int .i64 s.kind, .string s.name, .int .i64 s.e.kind, .int .i64 s.e.n, .string s.e.name, .slice ax le cx, .slice aa la ca, .slice ab lb cb] 107)) (.int .i64 s.kind) (.string s.name) (.int .i64 s.e.kind) (.int .i64 s.e.n) (.string s.e.name) (.slice ay le cy) (.slice aa' la ca') (.slice ab' lb cb') 107 6 _ rfl
    have e : (w.alloc (.cells #[.int .i64 s.kind, .string s.name, .int .i64 s.e.kind, .int .i64 s.e.n, .string s.e.name, .slice ax le cx, .slice aa la ca, .slice ab lb cb] 107)).heap.size = w.heap.size + 1 := by simp
    rw [e] at this
    exact this
  have p7 : ((w.alloc (.cells #[.int .i64 s.kind, .string s.name, .int .i64 s.e.kind, .int .i64 s.e.n, .string s.e.name, .slice ax le cx, .slice aa la ca, .slice ab lb cb] 107)).alloc (.cells #[.int .i64 s.kind, .string s.name, .int .i64 s.e.kind, .int .i64 s.e.n, .string s.e.name, .slice ay le cy, .slice aa' la ca', .slice ab' lb cb'] 107)).cell? ⟨w.heap.size + 1, 7, none⟩ = some (.slice ab' lb cb') := by
    have := box8_at (w.alloc (.cells #[.int .i64 s.kind, .string s.name, .int .i64 s.e.kind, .int .i64 s.e.n, .string s.e.name, .slice ax le cx, .slice aa la ca, .slice ab lb cb] 107)) (.int .i64 s.kind) (.string s.name) (.int .i64 s.e.kind) (.int .i64 s.e.n) (.string s.e.name) (.slice ay le cy) (.slice aa' la ca') (.slice ab' lb cb') 107 7 _ rfl
    have e : (w.alloc (.cells #[.int .i64 s.kind, .string s.name, .int .i64 s.e.kind, .int .i64 s.e.n, .string s.e.name, .slice ax le cx, .slice aa la ca, .slice ab lb cb] 107)).heap.size = w.heap.size + 1 := by simp
    rw [e] at this
    exact this
  have e1 : (s.kind == s.kind) = true := by simp
  have e2 : (s.name.toList == s.name.toList) = true := by simp
  clear hle hla hlb
  go_enter Tryz.func58, Tryz.ntmps58
  go_wp2_with fail
  generalize ((w.alloc (.cells #[.int .i64 s.kind, .string s.name, .int .i64 s.e.kind, .int .i64 s.e.n, .string s.e.name, .slice ax le cx, .slice aa la ca, .slice ab lb cb] 107)).alloc (.cells #[.int .i64 s.kind, .string s.name, .int .i64 s.e.kind, .int .i64 s.e.n, .string s.e.name, .slice ay le cy, .slice aa' la ca', .slice ab' lb cb'] 107)) = W0 at *
  refine (sameExpr_any m _ _ _ _ _ _ _ _ _ s.e (HS.out.below HB0.out).2.2.1 (HS'.out.below HB0.out).2.2.1).mono ?_
  rintro e w5 ⟨rfl, hb5⟩
  replace q6 := cellUp q6 hb5
  replace q7 := cellUp q7 hb5
  replace p6 := cellUp p6 hb5
  replace p7 := cellUp p7 hb5
  have HB5 := hide (up HB0.out hb5)
  clear hb5 q0 q1 q2 q3 q4 q5 p0 p1 p2 p3 p4 p5
  go_wp2_with fail
  refine (HB.out _ _ _ s.a (HS.out.below HB5.out).2.2.2.1 (HS'.out.below HB5.out).2.2.2.1).mono ?_
  rintro e w6 ⟨rfl, hb6⟩
  replace q7 := cellUp q7 hb6
  replace p7 := cellUp p7 hb6
  have HB6 := hide (up HB5.out hb6)
  clear hb6 q6 p6
  go_wp2_with fail
  refine (HB.out _ _ _ s.b (HS.out.below HB6.out).2.2.2.2 (HS'.out.below HB6.out).2.2.2.2).mono ?_
  rintro e w7 ⟨rfl, hb7⟩
  have HB7 := hide (up HB6.out hb7)
  clear hb7 q7 p7
  go_wp2
  go_ret
  exact ⟨rfl, HB7.out⟩

theorem sameBody_any : ∀ (m : Nat) (w : World) (v v' : Value) (l : List St), StsAt w m v l → StsAt w m v' l →
    Calls Tryz.prog 29 #[v, v'] w fun e w' => e = .returned (.bool true) ∧ Below w.heap.size w w'
  | 0, w, v, v', l, h, _ => False.elim h
  | m + 1, w, v, v', l, h, h' => by
    have HX := hide (eqfS_of m (fun w s e0 e1 e2 e3 va vb f0 f1 f2 f3 ua ub h1 h2 => sameSt_of m (sameBody_any m) w s e0 e1 e2 e3 va vb f0 f1 f2 f3 ua ub h1 h2) w v v' l h h')
    clear h h'
    go_enter Tryz.func29, Tryz.ntmps29
    go_wp2_with fail
    refine HX.out.mono ?_
    rintro e w5 ⟨rfl, hb5⟩
    go_wp2
    go_ret
    exact ⟨rfl, hb5⟩

end Go.Proofs.YtbncnkfogkhoeabGreatDoor
