/- Walks over package solve, third part: raise. -/
import Derived.Test.YtholefgckcoklabZD
import Derived.Test.YtholefgckcoklabQT
namespace Go.Proofs.Ytholefgckcoklab
open Go.RowKit

section
variable {w0 w w' : World} {c : Cf} {V : Nat → Nat × Nat} {S : Nat → Nat}
theorem Sv.up_yes {Z : Nat → Nat → Bool} {N i : Nat} {a : Nat × Nat} (h : Sv.le Z a (V i) = true) : Sv.up Z N V i a = V := by unfold Sv.up; rw [if_pos h]
theorem Sv.up_no {Z : Nat → Nat → Bool} {N i : Nat} {a : Nat × Nat} (h : Sv.le Z a (V i) = false) : Sv.up Z N V i a = Sv.put V i (Sv.join Z N (V i) a) := by unfold Sv.up; rw [if_neg (by rw [h]; simp)]
theorem SyAt.lat {vn vl : Value} {ss : List ByteArray} {G : Nat} {L : Nat → Nat} {Z : Nat → Nat → Bool} (h : SyAt w0 w c V S) (hL : LaAt w0 vn vl ss G L Z) : LaAt w vn vl ss G L Z := hL.below h.since
end

set_option maxHeartbeats 4000000 in
set_option maxRecDepth 100000 in
theorem raise_any (w0 w : World) (c : Cf) (V : Nat → Nat × Nat) (S : Nat → Nat) (ss : List ByteArray) (G : Nat) (L : Nat → Nat) (Z : Nat → Nat → Bool) (i : Nat) (a : Nat × Nat) (hL : LaAt w0 c.vn c.vl ss G L Z) (h : SyAt w0 w c V S)
    (hV : Sv.Oks ss.length c.n V) (hi : i < c.n) (ha : Sv.Ok ss.length a) (hn : c.n ≤ 40) :
    Calls Try.prog 64 #[.pointer (some ⟨c.p, 0, none⟩), .int .i64 i, .agg #[.int .i64 (a.1 : Nat), .int .i64 (a.2 : Nat)]] w fun e w' => e = .returned (.bool (!(Sv.le Z a (V i)))) ∧ Hid (SyAt w0 w' c (Sv.up Z ss.length V i a) S ∧ But c.lb w w') := by
  obtain ⟨p, lb, sb, n, vn, vl⟩ := c
  simp only at hL hV hi hn ⊢
  obtain ⟨W, hW⟩ : ∃ W, W = w.alloc (.cells #[.int .i64 (a.1 : Nat), .int .i64 (a.2 : Nat)] 48) := ⟨_, rfl⟩
  have hB : Below w.heap.size w W := by rw [hW]; exact boxBelow w _
  have bx : W.heap[w.heap.size]? = some (.cells #[.int .i64 (a.1 : Nat), .int .i64 (a.2 : Nat)] 48 (0, 0)) := by rw [hW]; exact block_new w _
  have hW1 := h.below hB
  obtain ⟨c0, c1, c2, c3⟩ := hW1.cell
  obtain ⟨l0, l1, z0, z1⟩ := hW1.labc (i := i) hi
  have HI := hide (hV i hi)
  have HA := hide ha
  have HL := hide hL
  have HW1 := hide hW1
  have HB := hide hB
  have HBX := hide bx
  have hii : (0 : Int) ≤ (i : Int) := by omega
  have hin : (i : Int) < (n : Int) := by omega
  obtain ⟨x, hx⟩ : ∃ x, x = V i := ⟨_, rfl⟩
  have HX := hide hx
  rw [← hx] at l0 l1
  obtain ⟨r, hr⟩ : ∃ r, r = Sv.le Z a x := ⟨_, rfl⟩
  have HR := hide hr
  rw [← hx, ← hr]
  have q0 := (block_at bx 0).trans rfl
  have q1 := (block_at bx 1).trans rfl
  simp only at c0 c1 c2 c3 l0 l1 z0 z1
  replace q0 := cell_gn q0
  replace q1 := cell_gn q1
  replace c0 := cell_gn c0
  replace c1 := cell_gn c1
  replace c2 := cell_gn c2
  replace c3 := cell_gn c3
  replace l0 := cell_gn l0
  replace l1 := cell_gn l1
  have HFG := hide (fun k os => isBelow_any (gn W k os) vn vl ss.length Z a x ((HL.out.below (up (HW1.out.since) (below_gn W k os))).grid) HL.out.six HA.out (by rw [HX.out]; exact HI.out))
  rw [← hr] at HFG
  clear h hL hV ha hB bx hW1 hx hr z0 z1
  go_enter Try.func64, Try.ntmps64
  go_wp2_with fail
  rw [← hW]
  clear hW
  refine wp_region_quiet_gn (by kernel_rfl) (by kernel_rfl) ?_
  repeat (quiet_step ((exact Calls.gn_of (HFG.out _ _))))
  refine wpQuiet_nil ?_
  intro _ hw'
  obtain ⟨⟨nq, osq⟩, hw''⟩ := hw'
  subst hw''
  have HS2 := hide (HW1.out.below (below_gn W nq osq))
  have HB2 := hide (up HB.out (below_gn W nq osq))
  have HBX2 := hide (at_up HBX.out (below_gn W nq osq))
  clear q0 q1 c0 c1 c2 c3 l0 l1 HFG HBX HW1 HB
  generalize gn W nq osq = W2 at *
  cases r
  · have HJ := hide (fun (w1 : World) (hb : Below W2.heap.size W2 w1) => sjoined_any w1 vn vl ss G L Z x a (HL.out.below (up HS2.out.since hb)) (by rw [HX.out]; exact HI.out) HA.out)
    obtain ⟨c0, c1, c2, c3⟩ := HS2.out.cell
    obtain ⟨l0, l1, z0, z1⟩ := HS2.out.labc (i := i) hi
    rw [← HX.out] at l0 l1
    have q0 := (block_at HBX2.out 0).trans rfl
    have q1 := (block_at HBX2.out 1).trans rfl
    simp only at c0 c1 c2 c3 l0 l1 z0 z1
    replace q0 := cell_gn q0
    replace q1 := cell_gn q1
    replace c0 := cell_gn c0
    replace c1 := cell_gn c1
    replace c2 := cell_gn c2
    replace l0 := cell_gn l0
    replace l1 := cell_gn l1
    obtain ⟨J, hJ⟩ : ∃ J, J = Sv.join Z ss.length x a := ⟨_, rfl⟩
    rw [← hJ] at HJ
    have HJE := hide hJ
    have HJG := hide (fun k os => HJ.out (gn W2 k os) (below_gn W2 k os))
    clear hJ z0 z1
    go_wp2_with fail
    refine wp_region_tail_gn 19 (by kernel_rfl) (by kernel_rfl) ?_
    dsimp only [List.take, List.drop]
    repeat (quiet_step ((exact Calls.gn_of (HJG.out _ _))))
    refine wpQuiet_nil ?_
    intro w6 hw'
    obtain ⟨⟨nq, osq⟩, hw''⟩ := hw'
    have HB6 := hide (show Below W2.heap.size W2 w6 by rw [hw'']; exact below_gn W2 nq osq)
    have HS6 := hide (HS2.out.below HB6.out)
    obtain ⟨m0, m1, y0, y1⟩ := HS6.out.labc (i := i) hi
    simp only at m0 m1 y0 y1
    clear hw'' q0 q1 c0 c1 c2 c3 l0 l1 HJG HJ
    go_wp2_with fail
    go_ret
    refine ⟨rfl, hide ⟨?_, ((But.of_below (up HB2.out HB6.out)).set (a := ⟨lb, i * 2, none⟩) (Or.inl rfl) _).set (a := ⟨lb, i * 2 + 1, none⟩) (Or.inl rfl) _⟩⟩
    rw [Sv.up_no (by rw [← HX.out, ← HR.out]), ← HX.out, ← HJE.out]
    exact HS6.out.put hi J
  · go_wp2_with fail
    go_ret
    refine ⟨rfl, hide ⟨?_, But.of_below HB2.out⟩⟩
    rw [Sv.up_yes (by rw [← HX.out, ← HR.out])]
    exact HS2.out

end Go.Proofs.Ytholefgckcoklab
