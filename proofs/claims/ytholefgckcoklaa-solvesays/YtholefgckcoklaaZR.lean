/- Walks over package downref: Label, Both; slices.Index and Contains of ints; slices.Equal of labels. -/
import Derived.Test.YtholefgckcoklaaZC
import Derived.Test.YtholefgckcoklaaQT
import Derived.Test.YtholefgckcoklaaRD
import Derived.Test.YtholefgckcoklaaRH
import Derived.Test.YtholefgckcoklaaZK
namespace Go.Proofs.Ytholefgckcoklaa
open Go.RowKit

theorem both16 : ∀ a : Fin 16, ∀ b : Fin 16, ((a : Nat) : Int) + ((b : Nat) : Int) - bits .and .i64 ((a : Nat) : Int) ((b : Nat) : Int) = (((a : Nat) ||| (b : Nat) : Nat) : Int) ∧ 0 ≤ bits .and .i64 ((a : Nat) : Int) ((b : Nat) : Int) ∧ bits .and .i64 ((a : Nat) : Int) ((b : Nat) : Int) ≤ 15 := by decide +kernel

set_option maxHeartbeats 2000000 in
set_option maxRecDepth 100000 in
theorem both_any (w : World) (vn vl : Value) (ss : List ByteArray) (G : Nat) (L : Nat → Nat) (Z : Nat → Nat → Bool) (x y : Nat × Nat) (hL : LaAt w vn vl ss G L Z) (hx : Sv.Ok ss.length x) (hy : Sv.Ok ss.length y) :
    Calls Try.prog 22 #[.agg #[vn, vl], .agg #[.int .i64 (x.1 : Nat), .int .i64 (x.2 : Nat)], .agg #[.int .i64 (y.1 : Nat), .int .i64 (y.2 : Nat)]] w fun e w' => e = .returned (.agg #[.int .i64 ((Sv.join Z ss.length x y).1 : Nat), .int .i64 ((Sv.join Z ss.length x y).2 : Nat)]) ∧ Below w.heap.size w w' := by
  obtain ⟨W, hW⟩ : ∃ W, W = (box3 w vn vl x y).alloc (.cells #[.int .i64 0, .int .i64 0] 46) := ⟨_, rfl⟩
  obtain ⟨b0, b1, b2, bs⟩ := box3_at w vn vl x y
  have b3 := block_new (box3 w vn vl x y) (.cells #[.int .i64 0, .int .i64 0] 46)
  have c0 := block_alloc b0 (.cells #[.int .i64 0, .int .i64 0] 46)
  have c1 := block_alloc b1 (.cells #[.int .i64 0, .int .i64 0] 46)
  have c2 := block_alloc b2 (.cells #[.int .i64 0, .int .i64 0] 46)
  rw [bs, ← hW] at b3
  rw [← hW] at c0 c1 c2
  have hB : Below w.heap.size w W := by rw [hW]; exact up (box3_below w vn vl x y) (boxBelow _ _)
  have HL := hide (hL.below hB)
  have HBW := hide hB
  obtain ⟨ho, ha0, ha15⟩ := both16 ⟨x.1, hx.1⟩ ⟨y.1, hy.1⟩
  simp only at ho ha0 ha15
  have HJI := hide (Lat.joinI_of hL.joins hx.2 hy.2)
  obtain ⟨ad, bl, off, cap, hvn, -⟩ := hL.strs
  subst hvn
  have HJ := hide (fun k os => rjoin_any (gn W k os) ad vl ss.length cap x.2 y.2 Z ((HL.out.below (below_gn W k os)).grid) HL.out.six hx.2 hy.2)
  rw [HJI.out] at HJ
  have HE : Hid (Sv.join Z ss.length x y = (x.1 ||| y.1, Lat.joinN Z ss.length x.2 y.2)) := rfl
  obtain ⟨J, hJ⟩ : ∃ J, J = Sv.join Z ss.length x y := ⟨_, rfl⟩
  rw [← hJ] at HE ⊢
  have HB3 := hide b3
  have q0 := cell_gn ((block_at c0 0).trans rfl)
  have q1 := cell_gn ((block_at c0 1).trans rfl)
  have q2 := cell_gn ((block_at c1 0).trans rfl)
  have q3 := cell_gn ((block_at c1 1).trans rfl)
  have q4 := cell_gn ((block_at c2 0).trans rfl)
  have q5 := cell_gn ((block_at c2 1).trans rfl)
  have hx1 : (x.1 : Int) ≤ 15 := by have := hx.1; omega
  have hy1 : (y.1 : Int) ≤ 15 := by have := hy.1; omega
  simp only [box3] at hW
  clear b0 b1 b2 bs b3 c0 c1 c2 hB hL hx hy hJ
  go_enter Try.func22, Try.ntmps22
  go_wp2_with fail
  rw [← hW]
  clear hW
  refine wp_region_tail_gn 18 (by kernel_rfl) (by kernel_rfl) ?_
  dsimp only [List.take, List.drop]
  repeat (quiet_step ((exact Calls.gn_of (HJ.out _ _))))
  refine wpQuiet_nil ?_
  intro w6 hw'
  obtain ⟨⟨nq, osq⟩, hw''⟩ := hw'
  have hb6 : Below W.heap.size W w6 := by rw [hw'']; exact below_gn W nq osq
  have HB := hide (up HBW.out hb6)
  have HR := hide (at_up HB3.out hb6)
  have r0 := (block_at HR.out 0).trans rfl
  have r1 := (block_at HR.out 1).trans rfl
  have z0 := block_free HR.out 0
  have z1 := block_free HR.out 1
  clear hw'' hb6 q0 q1 q2 q3 q4 q5
  go_wp2_with fail
  rw [ho]
  have hs := set2 HR.out (.int .i64 ((x.1 ||| y.1 : Nat) : Int)) (.int .i64 (Lat.joinN Z ss.length x.2 y.2 : Nat))
  have f0 := (block_at hs 0).trans rfl
  have f1 := (block_at hs 1).trans rfl
  obtain rfl := HE.out
  refine bodyPost_ret (v := .agg #[.int .i64 ((x.1 ||| y.1 : Nat) : Int), .int .i64 (Lat.joinN Z ss.length x.2 y.2 : Nat)]) (by simp [results, Try.results22, go_sem, f0, f1]) rfl ⟨rfl, ?_⟩
  exact (HB.out.setCell (by show w.heap.size ≤ w.heap.size + 1 + 1 + 1; omega) _).setCell (by show w.heap.size ≤ w.heap.size + 1 + 1 + 1; omega) _

/-- i tells whether x is in l. -/
structure IdxIs (l : List Int) (x i : Int) : Prop where
  is : decide (0 ≤ i) = l.contains x
/-- slices.Index of ints. -/
theorem indexI_any (w : World) (v : Value) (l : List Int) (x : Int) (hI : Ints w v l) :
    Calls Try.prog 64 #[v, .int .i64 x] w fun e w' => (∃ i : Int, e = .returned (.int .i64 i) ∧ IdxIs l x i) ∧ w' = w := by
  obtain ⟨a, b, off, cap, rfl, h0, hl, hel⟩ := hI
  have HEL := hide hel
  have HA := hide h0
  obtain ⟨len, hlen⟩ : ∃ n, n = l.length := ⟨_, rfl⟩
  have HL := hide hlen
  rw [← hlen] at hl HA ⊢
  clear hel h0 hlen
  go_enter Try.func64, Try.ntmps64
  go_wp2
  go_loop [8] (fun i => ∃ k : Nat, k ≤ len ∧ i = .int .i64 k ∧ ∀ d g, d < k → l[d]? = some g → g ≠ x) (fun i => len - (intOf i).toNat)
  case atStart => exact ⟨0, Nat.zero_le _, rfl, fun d g hd => absurd hd (Nat.not_lt_zero _)⟩
  case round =>
    obtain ⟨k, hk, rfl, hall⟩ := hrel
    have HN := hide hall
    clear hall
    by_cases hlt : k < len
    · obtain ⟨g, hg⟩ : ∃ g, l[k]? = some g := ⟨_, List.getElem?_eq_getElem (by rw [← HL.out]; exact hlt)⟩
      have c := HEL.out k g hg
      obtain rfl := HA.out (by omega)
      have HG := hide hg
      clear hg
      by_cases e : x = g
      · subst e
        have e2 : (x == x) = true := by simp
        go_wp2
        go_ret
        exact ⟨⟨k, rfl, IdxIs.mk <| by
          have hm : l.contains x = true := by simpa using List.mem_of_getElem? HG.out
          rw [hm]; simp⟩, rfl⟩
      · have e2 : (x == g) = false := by simpa using e
        go_wp2
        go_round
        case rel => exact ⟨k + 1, by omega, by go_num, fun d g' hd hg' => by
            by_cases ed : d = k
            · subst ed; rw [HG.out] at hg'; cases hg'; exact fun h => e h.symm
            · exact HN.out d g' (by omega) hg'⟩
        case measure => simp [intOf]; omega
    · go_wp2
      go_ret
      exact ⟨⟨-1, rfl, IdxIs.mk <| by
        have hm : l.contains x = false := by
          rw [List.contains_eq_mem, decide_eq_false_iff_not]
          intro hx
          obtain ⟨d, hd, he⟩ := List.mem_iff_getElem.1 hx
          exact HN.out d x (by have := HL.out; omega) (by rw [List.getElem?_eq_getElem hd, he]) rfl
        rw [hm]; rfl⟩, rfl⟩
theorem containsI_any (w : World) (v : Value) (l : List Int) (x : Int) (hI : Ints w v l) :
    Calls Try.prog 49 #[v, .int .i64 x] w fun e w' => e = .returned (.bool (l.contains x)) ∧ w' = w := by
  have HX := hide (indexI_any w v l x hI)
  obtain ⟨a, b, off, cap, rfl, -⟩ := hI
  go_enter Try.func49, Try.ntmps49
  go_wp2_with fail
  refine HX.out.mono ?_
  rintro e w' ⟨⟨i, rfl, hi⟩, rfl⟩
  go_wp2
  go_ret
  exact ⟨ret_bool hi.is, rfl⟩

end Go.Proofs.Ytholefgckcoklaa
