/- Walks over the library: slices.Equal of cells, of prints and of strings that are the same. -/
import Derived.Test.YtbncnkfogkhoeabGreatDoorZAS
import Derived.Laws.StructEq
import Derived.Test.YtbncnkfogkhoeabGreatDoorZAV
import Derived.Test.YtbncnkfogkhoeabGreatDoorZBJ
namespace Go.Proofs.YtbncnkfogkhoeabGreatDoor
open Go.RowKit

set_option maxHeartbeats 1000000 in
theorem eqIn_ce (x : Ce) (w : World) : (Op.equalIn 10000 46 (.agg #[.string x.mod, .string x.name, .int .i64 x.val]) (.agg #[.string x.mod, .string x.name, .int .i64 x.val])).run Tryz.prog w = .ok true w := by
  have u3 := Tryz.underlying3
  have a3 := Tryz.isAgg3
  have z3 := Tryz.sizeOf3
  have u9 := Tryz.underlying9
  have a9 := Tryz.isAgg9
  have z9 := Tryz.sizeOf9
  have hS : Tryz.prog.underlying 46 = some (.struct (Tryz.prog.fieldsOf 46)) := by kernel_rfl
  have hp : Tryz.prog.stoodInHeld 46 = false := by kernel_rfl
  rw [show (10000 : Nat) = 9999 + 1 from rfl, run_equalIn_agg w 9999 46 _ _ hS hp]
  simp only [Program.fieldsOf, Tryz.underlying46]
  go_simp
theorem guard_ce (op : BinOp) (a b : Operand) (x : Ce) (w : World) : (eqGuard op 46 a b (.agg #[.string x.mod, .string x.name, .int .i64 x.val]) (.agg #[.string x.mod, .string x.name, .int .i64 x.val])).run Tryz.prog w = .ok () w :=
  run_eqGuard_agg w op _ a b _ _ (by kernel_rfl)
set_option maxHeartbeats 1000000 in
theorem eqIn_pr (x : ByteArray × Int) (w : World) : (Op.equalIn 10000 49 (.agg #[.string x.1, .int .i64 x.2]) (.agg #[.string x.1, .int .i64 x.2])).run Tryz.prog w = .ok true w := by
  have u3 := Tryz.underlying3
  have a3 := Tryz.isAgg3
  have z3 := Tryz.sizeOf3
  have u9 := Tryz.underlying9
  have a9 := Tryz.isAgg9
  have z9 := Tryz.sizeOf9
  have hS : Tryz.prog.underlying 49 = some (.struct (Tryz.prog.fieldsOf 49)) := by kernel_rfl
  have hp : Tryz.prog.stoodInHeld 49 = false := by kernel_rfl
  rw [show (10000 : Nat) = 9999 + 1 from rfl, run_equalIn_agg w 9999 49 _ _ hS hp]
  simp only [Program.fieldsOf, Tryz.underlying49]
  go_simp
theorem guard_pr (op : BinOp) (a b : Operand) (x : ByteArray × Int) (w : World) : (eqGuard op 49 a b (.agg #[.string x.1, .int .i64 x.2]) (.agg #[.string x.1, .int .i64 x.2])).run Tryz.prog w = .ok () w :=
  run_eqGuard_agg w op _ a b _ _ (by kernel_rfl)

set_option maxHeartbeats 1000000 in
set_option maxRecDepth 100000 in
theorem eqC_same (w : World) (va vb : Value) (l : List Ce) (ha : CesAt w va l) (hb : CesAt w vb l) :
    Calls Tryz.prog 13 #[va, vb] w fun e w' => e = .returned (.bool true) ∧ Below w.heap.size w w' := by
  obtain ⟨a, b, off, cap, rfl, h0, hl, hel⟩ := ha
  obtain ⟨a', b', off', cap', rfl, h0', -, hel'⟩ := hb
  have HEL := hide hel
  have HEL' := hide hel'
  have HA := hide h0
  have HA' := hide h0'
  obtain ⟨len, hlen⟩ : ∃ n, n = l.length := ⟨_, rfl⟩
  have HL := hide hlen
  rw [← hlen] at hl HA HA' ⊢
  clear hel hel' h0 h0' hlen
  go_enter Tryz.func13, Tryz.ntmps13
  go_wp2_with fail
  go_loopw [5, 13] (fun _ i wx => ∃ j : Nat, j ≤ len ∧ i = .int .i64 j ∧ ∃ n, wx = w.drewN n) (fun _ i _ => len - (intOf i).toNat)
  case atStart => exact ⟨0, Nat.zero_le _, rfl, 0, rfl⟩
  case round =>
    obtain ⟨j, hj, rfl, n, rfl⟩ := hrel
    by_cases hjl : j < len
    · obtain ⟨d, hd⟩ : ∃ d, l[j]? = some d := ⟨_, List.getElem?_eq_getElem (by rw [← HL.out]; exact hjl)⟩
      obtain ⟨-, p0, p1, p2⟩ := HEL.out j d hd
      obtain ⟨-, q0, q1, q2⟩ := HEL'.out j d hd
      obtain rfl := HA.out (by omega)
      obtain rfl := HA'.out (by omega)
      have heq : ∀ w, Sem.run Tryz.prog (Op.equalIn 10000 46 (.agg #[.string d.mod, .string d.name, .int .i64 d.val]) (.agg #[.string d.mod, .string d.name, .int .i64 d.val])) w = .ok true w := fun w => eqIn_ce d w
      have hgd : ∀ op a b w, Sem.run Tryz.prog (eqGuard op 46 a b (.agg #[.string d.mod, .string d.name, .int .i64 d.val]) (.agg #[.string d.mod, .string d.name, .int .i64 d.val])) w = .ok () w := fun op a b w => guard_ce op a b d w
      clear hd
      go_wp2_with fail
      go_quiet (fail)
      go_wp2_with fail
      go_roundw
      case rel => exact ⟨j + 1, by omega, by go_num, n + nq, by rw [← World.drewN_drewN]⟩
      case measure => simp [intOf]; omega
    · go_wp2_with fail
      go_ret
      exact ⟨rfl, below_drew (Below.refl _ _)⟩

set_option maxHeartbeats 1000000 in
set_option maxRecDepth 100000 in
theorem eqP_same (w : World) (va vb : Value) (l : List (ByteArray × Int)) (ha : PrsAt w va l) (hb : PrsAt w vb l) :
    Calls Tryz.prog 14 #[va, vb] w fun e w' => e = .returned (.bool true) ∧ Below w.heap.size w w' := by
  obtain ⟨a, b, off, cap, rfl, h0, hl, hel⟩ := ha
  obtain ⟨a', b', off', cap', rfl, h0', -, hel'⟩ := hb
  have HEL := hide hel
  have HEL' := hide hel'
  have HA := hide h0
  have HA' := hide h0'
  obtain ⟨len, hlen⟩ : ∃ n, n = l.length := ⟨_, rfl⟩
  have HL := hide hlen
  rw [← hlen] at hl HA HA' ⊢
  clear hel hel' h0 h0' hlen
  go_enter Tryz.func14, Tryz.ntmps14
  go_wp2_with fail
  go_loopw [5, 13] (fun _ i wx => ∃ j : Nat, j ≤ len ∧ i = .int .i64 j ∧ ∃ n, wx = w.drewN n) (fun _ i _ => len - (intOf i).toNat)
  case atStart => exact ⟨0, Nat.zero_le _, rfl, 0, rfl⟩
  case round =>
    obtain ⟨j, hj, rfl, n, rfl⟩ := hrel
    by_cases hjl : j < len
    · obtain ⟨d, hd⟩ : ∃ d, l[j]? = some d := ⟨_, List.getElem?_eq_getElem (by rw [← HL.out]; exact hjl)⟩
      obtain ⟨p0, p1⟩ := HEL.out j d hd
      obtain ⟨q0, q1⟩ := HEL'.out j d hd
      obtain rfl := HA.out (by omega)
      obtain rfl := HA'.out (by omega)
      have heq : ∀ w, Sem.run Tryz.prog (Op.equalIn 10000 49 (.agg #[.string d.1, .int .i64 d.2]) (.agg #[.string d.1, .int .i64 d.2])) w = .ok true w := fun w => eqIn_pr d w
      have hgd : ∀ op a b w, Sem.run Tryz.prog (eqGuard op 49 a b (.agg #[.string d.1, .int .i64 d.2]) (.agg #[.string d.1, .int .i64 d.2])) w = .ok () w := fun op a b w => guard_pr op a b d w
      clear hd
      go_wp2_with fail
      go_quiet (fail)
      go_wp2_with fail
      go_roundw
      case rel => exact ⟨j + 1, by omega, by go_num, n + nq, by rw [← World.drewN_drewN]⟩
      case measure => simp [intOf]; omega
    · go_wp2_with fail
      go_ret
      exact ⟨rfl, below_drew (Below.refl _ _)⟩

set_option maxHeartbeats 1000000 in
set_option maxRecDepth 100000 in
theorem eqT_same (w : World) (va vb : Value) (l : List ByteArray) (ha : Strs w va l) (hb : Strs w vb l) :
    Calls Tryz.prog 15 #[va, vb] w fun e w' => e = .returned (.bool true) ∧ Below w.heap.size w w' := by
  obtain ⟨a, b, off, cap, rfl, h0, hl, -, hel⟩ := ha
  obtain ⟨a', b', off', cap', rfl, h0', -, -, hel'⟩ := hb
  have HEL := hide hel
  have HEL' := hide hel'
  have HA := hide h0
  have HA' := hide h0'
  obtain ⟨len, hlen⟩ : ∃ n, n = l.length := ⟨_, rfl⟩
  have HL := hide hlen
  rw [← hlen] at hl HA HA' ⊢
  clear hel hel' h0 h0' hlen
  go_enter Tryz.func15, Tryz.ntmps15
  go_wp2_with fail
  go_loopw [5, 13] (fun _ i wx => ∃ j : Nat, j ≤ len ∧ i = .int .i64 j ∧ ∃ n, wx = w.drewN n) (fun _ i _ => len - (intOf i).toNat)
  case atStart => exact ⟨0, Nat.zero_le _, rfl, 0, rfl⟩
  case round =>
    obtain ⟨j, hj, rfl, n, rfl⟩ := hrel
    by_cases hjl : j < len
    · have hlt : j < l.length := by rw [← HL.out]; exact hjl
      have p0 := HEL.out j hlt
      have q0 := HEL'.out j hlt
      generalize l[j] = d at p0 q0
      obtain rfl := HA.out (by omega)
      obtain rfl := HA'.out (by omega)
      have heq : (d.toList == d.toList) = true := by simp
      clear hlt
      go_wp2_with fail
      go_quiet (fail)
      go_wp2_with fail
      go_roundw
      case rel => exact ⟨j + 1, by omega, by go_num, n + nq, by rw [← World.drewN_drewN]⟩
      case measure => simp [intOf]; omega
    · go_wp2_with fail
      go_ret
      exact ⟨rfl, below_drew (Below.refl _ _)⟩

end Go.Proofs.YtbncnkfogkhoeabGreatDoor

/- The small function's run: ran. -/
namespace Go.Proofs.YtbncnkfogkhoeabGreatDoor
open Go.RowKit Go.Maps

theorem run_small (W : World) (b1 b2 b3 : Nat) (a1 a2 a3 : Option Addr) (n1 n2 n3 c1 c2 c3 : Nat) (hmo : MoAt W 8196 (.agg #[.string ⟨#[109]⟩, .slice a1 n1 c1, .slice a2 n2 c2, .slice a3 n3 c3]) Rd.sm) (hc : n3 ≤ c3)
    (h0 : W.cell? ⟨b1, 0, none⟩ = some (.string ⟨#[109]⟩)) (h1 : W.cell? ⟨b1, 1, none⟩ = some (.slice a1 n1 c1)) (h2 : W.cell? ⟨b1, 2, none⟩ = some (.slice a2 n2 c2)) (h3 : W.cell? ⟨b1, 3, none⟩ = some (.slice a3 n3 c3))
    (hi : W.cell? ⟨b2, 0, none⟩ = some (.int .i64 5)) (s0 : W.cell? ⟨b3, 0, none⟩ = some (.string ⟨#[109]⟩)) (s1 : W.cell? ⟨b3, 1, none⟩ = some (.string ⟨#[120]⟩)) (s2 : W.cell? ⟨b3, 2, none⟩ = some (.int .i64 2)) (ht : Tab W) :
    Calls Tryz.prog 12 #[.slice (some ⟨b1, 0, none⟩) 1 1, .string ⟨#[109]⟩, .string ⟨#[102]⟩, .slice (some ⟨b2, 0, none⟩) 1 1, .slice (some ⟨b3, 0, none⟩) 1 1, .int .i64 100] W fun e w' => ∃ v1 v2 v3, e = .returned (.tuple #[.agg #[.int .i64 2, v1, v2, v3], .int .i64 0]) ∧ Hid (CesAt w' v1 [⟨⟨#[109]⟩, ⟨#[120]⟩, 2⟩, ⟨⟨#[109]⟩, ⟨#[121]⟩, 7⟩] ∧ PrsAt w' v2 [(⟨#[108, 111, 119]⟩, 2)] ∧ (∃ a n c, v3 = .slice a n c) ∧ Below W.heap.size W w') := by
  have hw : moW 8196 Rd.sm ≤ 1048576 := by
    have := (Rd.prX_w Rd.sm_facts.1).1
    rw [Rd.sm_facts.2.1] at this
    exact this
  have hL : MosAt W 8196 (.slice (some ⟨b1, 0, none⟩) 1 1) [Rd.sm] := ⟨some ⟨b1, 0, none⟩, b1, 0, 1, rfl, fun _ => rfl, by decide, fun i y hy => by
    cases i with
    | zero =>
      simp at hy
      subst hy
      exact ⟨_, _, _, h0, h1, h2, h3, hmo⟩
    | succ i => simp at hy⟩
  have hcap : ∀ (b off cap : Nat), (.slice (some ⟨b1, 0, none⟩) 1 1 : Value) = .slice (some ⟨b, off, none⟩) [Rd.sm].length cap → ∀ (i : Nat) (y : Mo) (vf : Value), [Rd.sm][i]? = some y → W.cell? ⟨b, off + i * 4 + 3, none⟩ = some vf → CapOK vf := by
    intro b off cap e i y vf hy hv
    injection e with e1
    injection e1 with e1
    injection e1 with e2 e3
    subst e2 e3
    cases i with
    | zero =>
      have hv' : W.cell? ⟨b1, 3, none⟩ = some vf := hv
      rw [h3] at hv'
      injection hv' with hv'
      subst hv'
      intro a n c e
      injection e with _ e1 e2
      omega
    | succ i => simp at hy
  have hA : Ints W (.slice (some ⟨b2, 0, none⟩) 1 1) [5] := ⟨some ⟨b2, 0, none⟩, b2, 0, 1, rfl, fun _ => rfl, by decide, fun j z hz => by
    cases j with
    | zero => simp at hz; subst hz; exact hi
    | succ j => simp at hz⟩
  have hS : CesAt W (.slice (some ⟨b3, 0, none⟩) 1 1) [⟨⟨#[109]⟩, ⟨#[120]⟩, 2⟩] := ⟨some ⟨b3, 0, none⟩, b3, 0, 1, rfl, fun _ => rfl, by decide, fun j z hz => by
    cases j with
    | zero => simp at hz; subst hz; exact ⟨by unfold I64; simp, s0, s1, s2⟩
    | succ j => simp at hz⟩
  have h := run_any 8196 W _ _ _ [Rd.sm] ⟨#[109]⟩ ⟨#[102]⟩ [5] [⟨⟨#[109]⟩, ⟨#[120]⟩, 2⟩] 100 hL (fun y hy => by rw [List.mem_singleton] at hy; subst hy; exact hw) hcap hA (fun x hx => by rw [List.mem_singleton] at hx; subst hx; unfold I64; simp) hS ht 81988196 (by decide)
  refine Calls.mono h ?_
  rintro e w' ⟨v1, v2, v3, rfl, hO⟩
  obtain ⟨hO1, hb⟩ := hO.out
  obtain ⟨f1, f2, f3, f4⟩ := smR_facts
  unfold smR at f1 f2 f3 f4
  obtain ⟨g1, g2, g3⟩ := hO1
  rw [f4] at g1
  rw [f3] at g2
  refine ⟨v1, v2, v3, by rw [f1, f2], hide ⟨g1, g2, ?_, hb⟩⟩
  obtain ⟨a, _, _, c, e, _⟩ := g3
  exact ⟨a, _, c, e⟩

theorem small_args (w : World) (a1 a2 a3 : Option Addr) (n1 n2 n3 c1 c2 c3 : Nat) (W : World)
    (hW : W = ((((w.alloc (.cells #[.string ⟨#[109]⟩, .slice a1 n1 c1, .slice a2 n2 c2, .slice a3 n3 c3] 26)).alloc (.cells #[.string ⟨#[109]⟩, .slice a1 n1 c1, .slice a2 n2 c2, .slice a3 n3 c3] 26)).alloc (.cells #[.int .i64 5] 3)).alloc (.cells #[.string ⟨#[109]⟩, .string ⟨#[120]⟩, .int .i64 2] 46))) :
    W.cell? ⟨w.heap.size + 1, 0, none⟩ = some (.string ⟨#[109]⟩) ∧ W.cell? ⟨w.heap.size + 1, 1, none⟩ = some (.slice a1 n1 c1) ∧ W.cell? ⟨w.heap.size + 1, 2, none⟩ = some (.slice a2 n2 c2) ∧ W.cell? ⟨w.heap.size + 1, 3, none⟩ = some (.slice a3 n3 c3) ∧ W.cell? ⟨w.heap.size + 1 + 1, 0, none⟩ = some (.int .i64 5) ∧
      W.cell? ⟨w.heap.size + 1 + 1 + 1, 0, none⟩ = some (.string ⟨#[109]⟩) ∧ W.cell? ⟨w.heap.size + 1 + 1 + 1, 1, none⟩ = some (.string ⟨#[120]⟩) ∧ W.cell? ⟨w.heap.size + 1 + 1 + 1, 2, none⟩ = some (.int .i64 2) ∧ Below w.heap.size w W := by
  subst hW
  refine ⟨by simp [go_sem], by simp [go_sem], by simp [go_sem], by simp [go_sem], by simp [go_sem], by simp [go_sem], by simp [go_sem], by simp [go_sem], up (up (up (boxBelow _ _) (boxBelow _ _)) (boxBelow _ _)) (boxBelow _ _)⟩
theorem ces_two (w : World) (o : Obj) : CesAt ((w.alloc o).alloc (.cells #[.string ⟨#[109]⟩, .string ⟨#[120]⟩, .int .i64 2, .string ⟨#[109]⟩, .string ⟨#[121]⟩, .int .i64 7] 46)) (.slice (some ⟨w.heap.size + 1, 0, none⟩) 2 2) [⟨⟨#[109]⟩, ⟨#[120]⟩, 2⟩, ⟨⟨#[109]⟩, ⟨#[121]⟩, 7⟩] := by
  refine ⟨_, w.heap.size + 1, 0, 2, rfl, fun _ => rfl, by decide, fun i x hx => ?_⟩
  match i, hx with
  | 0, hx =>
    simp at hx
    subst hx
    exact ⟨by unfold I64; simp, by simp [go_sem], by simp [go_sem], by simp [go_sem]⟩
  | 1, hx =>
    simp at hx
    subst hx
    exact ⟨by unfold I64; simp, by simp [go_sem], by simp [go_sem], by simp [go_sem]⟩
  | i + 2, hx => simp at hx
theorem prs_one (w : World) : PrsAt (w.alloc (.cells #[.string ⟨#[108, 111, 119]⟩, .int .i64 2] 49)) (.slice (some ⟨w.heap.size, 0, none⟩) 1 1) [(⟨#[108, 111, 119]⟩, 2)] := by
  refine ⟨_, w.heap.size, 0, 1, rfl, fun _ => rfl, by decide, fun i x hx => ?_⟩
  match i, hx with
  | 0, hx =>
    simp at hx
    subst hx
    exact ⟨by simp [go_sem], by simp [go_sem]⟩
  | i + 1, hx => simp at hx
set_option maxHeartbeats 1000000 in
set_option maxRecDepth 100000 in
theorem ran_any (w : World) (ht : Tab w) (he : ErrV w) :
    Calls Tryz.prog 10 #[] w fun e w' => e = .returned (.bool true) ∧ Below w.heap.size w w' := by
  have HP : Hid (∀ W, W = w → Calls Tryz.prog 8 #[.string ⟨#[40, 109, 111, 100, 117, 108, 101, 32, 109, 32, 40, 118, 97, 114, 32, 120, 32, 108, 111, 119, 41, 32, 40, 118, 97, 114, 32, 121, 32, 104, 105, 103, 104, 41, 32, 40, 102, 117, 110, 32, 102, 32, 40, 112, 41, 32, 40, 115, 101, 116, 32, 121, 32, 40, 43, 32, 112, 32, 120, 41, 41, 32, 40, 112, 114, 105, 110, 116, 32, 108, 111, 119, 32, 120, 41, 32, 120, 41, 41]⟩] W fun e w' => ∃ a1 n1 c1 a2 n2 c2 a3 n3 c3 z, e = .returned (.tuple #[.agg #[.string ⟨#[109]⟩, .slice a1 n1 c1, .slice a2 n2 c2, .slice a3 n3 c3], .int .i64 z, .int .i64 0]) ∧
      MoAt w' 8196 (.agg #[.string ⟨#[109]⟩, .slice a1 n1 c1, .slice a2 n2 c2, .slice a3 n3 c3]) Rd.sm ∧ Below W.heap.size W w' ∧ n3 ≤ c3) := hide (fun W hW => by
    subst hW
    have h := parse_anyC W Rd.smT (by rw [Rd.sm_lit]; decide) ht he
    rw [Rd.sm_facts.1, Rd.sm_facts.2.1] at h
    rw [Rd.sm_lit] at h
    refine h.mono ?_
    rintro e w' ⟨a1, n1, c1, a2, n2, c2, a3, n3, c3, rfl, hm, hb, hc⟩
    exact ⟨a1, n1, c1, a2, n2, c2, a3, n3, c3, _, rfl, hm.sub (only_sub _ _), hb, hc⟩)
  have HT := hide ht
  clear ht he
  go_enter Tryz.func10, Tryz.ntmps10
  go_wp2_with fail
  refine (HP.out w rfl).mono ?_
  rintro e w1 ⟨a1, n1, c1, a2, n2, c2, a3, n3, c3, z, rfl, hm, hb1, hc⟩
  have HM := hide hm
  have HB1 := hide hb1
  have HC := hide hc
  clear hm hb1 hc HP
  go_wp2_with fail
  obtain ⟨W4, hW4⟩ : ∃ W, W = ((((w1.alloc (.cells #[.string ⟨#[109]⟩, .slice a1 n1 c1, .slice a2 n2 c2, .slice a3 n3 c3] 26)).alloc (.cells #[.string ⟨#[109]⟩, .slice a1 n1 c1, .slice a2 n2 c2, .slice a3 n3 c3] 26)).alloc (.cells #[.int .i64 5] 3)).alloc (.cells #[.string ⟨#[109]⟩, .string ⟨#[120]⟩, .int .i64 2] 46)) := ⟨_, rfl⟩
  rw [← hW4]
  obtain ⟨q0, q1, q2, q3, q4, q5, q6, q7, hb4⟩ := small_args w1 a1 a2 a3 n1 n2 n3 c1 c2 c3 W4 hW4
  have HR := hide (run_small W4 (w1.heap.size + 1) (w1.heap.size + 1 + 1) (w1.heap.size + 1 + 1 + 1) a1 a2 a3 n1 n2 n3 c1 c2 c3 (HM.out.below hb4) HC.out q0 q1 q2 q3 q4 q5 q6 q7 (HT.out.below (up HB1.out hb4)))
  have HB4 := hide (up HB1.out hb4)
  clear hW4 q0 q1 q2 q3 q4 q5 q6 q7 hb4 HM HC HB1 HT
  refine HR.out.mono ?_
  rintro e w5 ⟨v1, v2, v3, rfl, hO⟩
  have HCE := hide hO.out.1
  have HPR := hide hO.out.2.1
  have HB5 := hide (up HB4.out hO.out.2.2.2)
  obtain ⟨e3, l3, d3, rfl⟩ := hO.out.2.2.1
  obtain ⟨e1, _, _, d1, h1, -⟩ := hO.out.1
  obtain ⟨e2, _, _, d2, h2, -⟩ := hO.out.2.1
  have h1' : v1 = .slice e1 2 d1 := h1
  have h2' : v2 = .slice e2 1 d2 := h2
  clear h1 h2
  subst h1' h2'
  clear hO HR HB4
  have HBB : Hid (Below w5.heap.size w5 ((w5.alloc (.cells #[.int .i64 2, .slice e1 2 d1, .slice e2 1 d2, .slice e3 l3 d3] 41)).alloc (.cells #[.string ⟨#[109]⟩, .string ⟨#[120]⟩, .int .i64 2, .string ⟨#[109]⟩, .string ⟨#[121]⟩, .int .i64 7] 46))) := hide (up (boxBelow w5 (.cells #[.int .i64 2, .slice e1 2 d1, .slice e2 1 d2, .slice e3 l3 d3] 41)) (boxBelow (w5.alloc (.cells #[.int .i64 2, .slice e1 2 d1, .slice e2 1 d2, .slice e3 l3 d3] 41)) (.cells #[.string ⟨#[109]⟩, .string ⟨#[120]⟩, .int .i64 2, .string ⟨#[109]⟩, .string ⟨#[121]⟩, .int .i64 7] 46)))
  have HE := hide (eqC_same ((w5.alloc (.cells #[.int .i64 2, .slice e1 2 d1, .slice e2 1 d2, .slice e3 l3 d3] 41)).alloc (.cells #[.string ⟨#[109]⟩, .string ⟨#[120]⟩, .int .i64 2, .string ⟨#[109]⟩, .string ⟨#[121]⟩, .int .i64 7] 46)) (.slice e1 2 d1) (.slice (some ⟨w5.heap.size + 1, 0, none⟩) 2 2) [⟨⟨#[109]⟩, ⟨#[120]⟩, 2⟩, ⟨⟨#[109]⟩, ⟨#[121]⟩, 7⟩] (HCE.out.below HBB.out) (ces_two w5 (.cells #[.int .i64 2, .slice e1 2 d1, .slice e2 1 d2, .slice e3 l3 d3] 41)))
  have HX2 : Hid (((w5.alloc (.cells #[.int .i64 2, .slice e1 2 d1, .slice e2 1 d2, .slice e3 l3 d3] 41)).alloc (.cells #[.string ⟨#[109]⟩, .string ⟨#[120]⟩, .int .i64 2, .string ⟨#[109]⟩, .string ⟨#[121]⟩, .int .i64 7] 46)).cell? ⟨w5.heap.size, 2, none⟩ = some (.slice e2 1 d2)) := hide (by simp [go_sem])
  go_wp2_with fail
  refine HE.out.mono ?_
  rintro e w6 ⟨rfl, hb6⟩
  have HB6 := hide (up HBB.out hb6)
  have x2 := cellUp HX2.out hb6
  clear hb6 HE HBB HX2
  have HE := hide (eqP_same (w6.alloc (.cells #[.string ⟨#[108, 111, 119]⟩, .int .i64 2] 49)) (.slice e2 1 d2) (.slice (some ⟨w6.heap.size, 0, none⟩) 1 1) [(⟨#[108, 111, 119]⟩, 2)] ((HPR.out.below HB6.out).below (boxBelow w6 (.cells #[.string ⟨#[108, 111, 119]⟩, .int .i64 2] 49))) (prs_one w6))
  have HBP := hide (boxBelow w6 (.cells #[.string ⟨#[108, 111, 119]⟩, .int .i64 2] 49))
  go_wp2_with fail
  refine HE.out.mono ?_
  rintro e w7 ⟨rfl, hb7⟩
  have HB7 := hide (up (up (up HB5.out HB6.out) HBP.out) hb7)
  clear hb7
  go_wp2_with fail
  go_ret
  exact ⟨rfl, HB7.out⟩

end Go.Proofs.YtbncnkfogkhoeabGreatDoor

/- RunFuel's walk. -/
namespace Go.Proofs.YtbncnkfogkhoeabGreatDoor
open Go.RowKit Go.Maps

set_option maxHeartbeats 1000000 in
theorem rest500_any (w : World) (x : Int) : Calls Tryz.prog 11 #[.int .i64 x, .int .i64 500] w fun e w' => (∃ r : Nat, r < 500 ∧ e = .returned (.int .i64 r)) ∧ w' = w := by
  have t1 : x.tmod 500 < 500 := Int.tmod_lt_of_pos x (by omega)
  have t2 : -(500 : Int) < x.tmod 500 := Int.lt_tmod_of_pos x (by omega)
  go_enter Tryz.func11, Tryz.ntmps11
  go_wp2
  · go_ret
    exact ⟨⟨(x.tmod 500 + 500).toNat, by omega, ret_int (by omega)⟩, rfl⟩
  · go_ret
    exact ⟨⟨(x.tmod 500).toNat, by omega, ret_int (by omega)⟩, rfl⟩
theorem OutAt.forms {w : World} {r : Rn.Res} {v1 v2 v3 : Value} (h : OutAt w r v1 v2 v3) : ∃ a1 c1 a2 c2 a3 c3, v1 = .slice a1 r.sto.length c1 ∧ v2 = .slice a2 r.pr.length c2 ∧ v3 = .slice a3 r.did.length c3 := by
  obtain ⟨⟨a1, _, _, c1, e1, _⟩, ⟨a2, _, _, c2, e2, _⟩, ⟨a3, _, _, c3, e3, _⟩⟩ := h
  exact ⟨a1, c1, a2, c2, a3, c3, e1, e2, e3⟩

set_option maxHeartbeats 8000000 in
set_option maxRecDepth 100000 in
theorem fuel_walk (m : Nat) (w : World) (vl va vs : Value) (l : List Mo) (mod fn : ByteArray) (args : List Int) (store : List Ce) (f d : Int) (hL : MosAt w m vl l) (hks : ∀ y ∈ l, moW m y ≤ 1048576)
    (hcap : ∀ (b off cap : Nat), vl = .slice (some ⟨b, off, none⟩) l.length cap → ∀ (i : Nat) (y : Mo) (vf : Value), l[i]? = some y → w.cell? ⟨b, off + i * 4 + 3, none⟩ = some vf → CapOK vf)
    (hA : Ints w va args) (hAI : ∀ x ∈ args, I64 x) (hS : CesAt w vs store) (ht : Tab w) (he : ErrV w) :
    Calls Tryz.prog 4 #[vl, .string mod, .string fn, va, vs, .int .i64 f, .int .i64 d] w fun e w' => e = .returned (.bool true) ∧ Below w.heap.size w w' := by
  obtain ⟨G, hG⟩ : ∃ G, G = 10000 * (m + 2) + m := ⟨_, rfl⟩
  have HRUN := hide (fun wx (hb : Below w.heap.size w wx) (fu : Int) => run_any m wx vl va vs l mod fn args store fu (hL.below hb) hks (caps_below hcap hL hb) (hA.below hb) hAI (hS.below hb) (ht.below hb) G (by omega))
  have HUP := hide (fun (r1 r2 : Nat) (h1 : r1 < 500) (h2 : r2 < 500) (h : (Rn.run G m l mod fn args store (1 + r1)).err ≠ 6) => (by
    have h3 := Rn.run_up (g := G) (m := m) (l := l) (mod := mod) (fn := fn) (args := args) (store := store) (f := 1 + r1) (d := r2) (by omega) (by omega) (by rw [show (((1 + r1 : Nat) : Int)) = 1 + (r1 : Int) by omega]; exact h)
    rw [show (((1 + r1 + r2 : Nat) : Int)) = 1 + (r1 : Int) + r2 by omega, show (((1 + r1 : Nat) : Int)) = 1 + (r1 : Int) by omega] at h3
    exact h3 : Rn.run G m l mod fn args store (1 + r1 + r2) = Rn.run G m l mod fn args store (1 + r1)))
  have HRAN := hide (ran_any w ht he)
  obtain ⟨al, bl, ol, cl, hvl, -⟩ := hL
  obtain ⟨aa, ba, oa, ca, hva, -⟩ := hA
  obtain ⟨as', bs, os, cs, hvs, -⟩ := hS
  obtain ⟨nl, hnl⟩ : ∃ n, n = l.length := ⟨_, rfl⟩
  obtain ⟨na, hna⟩ : ∃ n, n = args.length := ⟨_, rfl⟩
  obtain ⟨nst, hnst⟩ : ∃ n, n = store.length := ⟨_, rfl⟩
  rw [← hnl] at hvl
  rw [← hna] at hva
  rw [← hnst] at hvs
  clear hnl hna hnst hks hcap hAI ht he hG
  subst hvl hva hvs
  go_enter Tryz.func4, Tryz.ntmps4
  go_wp2_with fail
  refine HRAN.out.mono ?_
  rintro e w1 ⟨rfl, hb1⟩
  have HB1 := hide hb1
  clear hb1 HRAN
  go_wp2_with fail
  refine (rest500_any w1 f).mono ?_
  rintro e w1' ⟨⟨r1, hr1, rfl⟩, rfl⟩
  have HR1 := hide (HRUN.out w1' HB1.out (1 + (r1 : Int)))
  obtain ⟨A, hAA⟩ : ∃ A, A = Rn.run G m l mod fn args store (1 + (r1 : Int)) := ⟨_, rfl⟩
  have HAE := hide hAA
  rw [← hAA] at HR1
  clear hAA
  go_wp2_with fail
  refine HR1.out.mono ?_
  rintro e w2 ⟨v1, v2, v3, rfl, hO⟩
  have HO2 := hide hO.out.1
  have HB2 := hide (up HB1.out hO.out.2)
  obtain ⟨a1, c1, a2, c2, a3, c3, h1, h2, h3⟩ := hO.out.1.forms
  obtain ⟨n1, hn1⟩ : ∃ n, n = A.sto.length := ⟨_, rfl⟩
  obtain ⟨n2, hn2⟩ : ∃ n, n = A.pr.length := ⟨_, rfl⟩
  obtain ⟨n3, hn3⟩ : ∃ n, n = A.did.length := ⟨_, rfl⟩
  rw [← hn1] at h1
  rw [← hn2] at h2
  rw [← hn3] at h3
  subst h1 h2 h3
  have HN := hide (And.intro hn1 (And.intro hn2 hn3))
  clear hO HR1 hn1 hn2 hn3
  have HBX := hide (block_new w2 (.cells #[.int .i64 A.res, .slice a1 n1 c1, .slice a2 n2 c2, .slice a3 n3 c3] 41))
  have HBB := hide (boxBelow w2 (.cells #[.int .i64 A.res, .slice a1 n1 c1, .slice a2 n2 c2, .slice a3 n3 c3] 41))
  obtain ⟨W2, hW2⟩ : ∃ W, W = w2.alloc (.cells #[.int .i64 A.res, .slice a1 n1 c1, .slice a2 n2 c2, .slice a3 n3 c3] 41) := ⟨_, rfl⟩
  have HW2 := hide hW2
  rw [← hW2] at HBX HBB
  clear hW2
  go_wp2_with fail
  rw [← HW2.out]
  refine (rest500_any W2 d).mono ?_
  rintro e w3 ⟨⟨r2, hr2, rfl⟩, rfl⟩
  have HR2 := hide (HRUN.out w3 (up HB2.out HBB.out) (1 + (r1 : Int) + r2))
  obtain ⟨B, hBB⟩ : ∃ A, A = Rn.run G m l mod fn args store (1 + (r1 : Int) + r2) := ⟨_, rfl⟩
  have HBA : Hid (A.err ≠ 6 → B = A) := hide (fun h => by
    rw [hBB, HAE.out]
    exact HUP.out r1 r2 hr1 hr2 (by rw [← HAE.out]; exact h))
  rw [← hBB] at HR2
  clear hBB
  go_wp2_with fail
  refine HR2.out.mono ?_
  rintro e w4 ⟨u1, u2, u3, rfl, hO⟩
  have HO4 := hide hO.out.1
  have HB4 := hide (up (up HB2.out HBB.out) hO.out.2)
  have HO24 := hide ((HO2.out.below HBB.out).below hO.out.2)
  have HX4 := hide ((hO.out.2.block _ (block_lt HBX.out)).trans HBX.out)
  obtain ⟨e1, d1, e2, d2, e3, d3, h1, h2, h3⟩ := hO.out.1.forms
  subst h1 h2 h3
  clear hO HR2
  have zX : w2.heap.size < w4.heap.size := block_lt HX4.out
  have x0 := (block_at HX4.out 0).trans rfl
  have x1 := (block_at HX4.out 1).trans rfl
  have x2 := (block_at HX4.out 2).trans rfl
  have x3 := (block_at HX4.out 3).trans rfl
  obtain ⟨m1, hm1⟩ : ∃ n, n = B.sto.length := ⟨_, rfl⟩
  obtain ⟨m2, hm2⟩ : ∃ n, n = B.pr.length := ⟨_, rfl⟩
  obtain ⟨m3, hm3⟩ : ∃ n, n = B.did.length := ⟨_, rfl⟩
  rw [← hm1, ← hm2, ← hm3] at HO4
  rw [← hm1, ← hm2, ← hm3]
  clear hm1 hm2 hm3
  have HBY := hide (boxBelow w4 (.cells #[.int .i64 B.res, .slice e1 m1 d1, .slice e2 m2 d2, .slice e3 m3 d3] 41))
  have HNY := hide (block_new w4 (.cells #[.int .i64 B.res, .slice e1 m1 d1, .slice e2 m2 d2, .slice e3 m3 d3] 41))
  by_cases h6 : A.err = 6
  · have k6 : (A.err == 6) = true := by rw [h6]; rfl
    clear h6
    go_wp2_with fail
    go_ret
    exact ⟨rfl, up HB4.out HBY.out⟩
  · have hBA := HBA.out h6
    have HEQ : Hid (B.res = A.res ∧ B.err = A.err ∧ B.sto = A.sto ∧ B.pr = A.pr ∧ B.did = A.did) := hide (by rw [hBA]; exact ⟨rfl, rfl, rfl, rfl, rfl⟩)
    have k6 : (A.err == 6) = false := by simpa using h6
    have kr : (A.res == B.res) = true := by rw [HEQ.out.1]; simp
    have ke : (A.err == B.err) = true := by rw [HEQ.out.2.1]; simp
    have HC1 := hide (eqC_same (w4.alloc (.cells #[.int .i64 B.res, .slice e1 m1 d1, .slice e2 m2 d2, .slice e3 m3 d3] 41)) _ _ A.sto (HO24.out.1.below HBY.out) (by have := HO4.out.1.below HBY.out; rw [HEQ.out.2.2.1] at this; exact this))
    clear h6 hBA
    go_wp2_with fail
    refine HC1.out.mono ?_
    rintro e w5 ⟨rfl, hb5⟩
    have HB5 := hide (up HBY.out hb5)
    have HY5 := hide ((hb5.block _ (block_lt HNY.out)).trans HNY.out)
    have HX5 := hide (((up HBY.out hb5).block _ (block_lt HX4.out)).trans HX4.out)
    clear hb5 HC1 x0 x1 x2 x3
    have x2 := (block_at HX5.out 2).trans rfl
    have x3 := (block_at HX5.out 3).trans rfl
    have y2 := (block_at HY5.out 2).trans rfl
    have y3 := (block_at HY5.out 3).trans rfl
    have HC2 := hide (eqP_same w5 (.slice a2 n2 c2) (.slice e2 m2 d2) A.pr (HO24.out.2.1.below HB5.out) (by have := HO4.out.2.1.below HB5.out; rw [HEQ.out.2.2.2.1] at this; exact this))
    go_wp2_with fail
    refine HC2.out.mono ?_
    rintro e w6 ⟨rfl, hb6⟩
    have HB6 := hide (up HB5.out hb6)
    have HY6 := hide ((hb6.block _ (block_lt HY5.out)).trans HY5.out)
    have HX6 := hide ((hb6.block _ (block_lt HX5.out)).trans HX5.out)
    clear hb6 HC2 x2 x3 y2 y3
    have x3 := (block_at HX6.out 3).trans rfl
    have y3 := (block_at HY6.out 3).trans rfl
    have HC3 := hide (eqT_same w6 (.slice a3 n3 c3) (.slice e3 m3 d3) A.did (HO24.out.2.2.below HB6.out) (by have := HO4.out.2.2.below HB6.out; rw [HEQ.out.2.2.2.2] at this; exact this))
    go_wp2_with fail
    refine HC3.out.mono ?_
    rintro e w7 ⟨rfl, hb7⟩
    have HB7 := hide (up (up HB4.out HB6.out) hb7)
    clear hb7
    go_wp2_with fail
    go_ret
    exact ⟨rfl, HB7.out⟩

end Go.Proofs.YtbncnkfogkhoeabGreatDoor
