/- Walks over package downref: cell, Has, mine. -/
import Derived.Test.YtnheahdcfadclaaGreatDoorZAY
import Derived.Test.YtnheahdcfadclaaGreatDoorZAG
import Derived.StillTail
namespace Go.Proofs.YtnheahdcfadclaaGreatDoor
open Go.RowKit

theorem Calls.gn_of' {P : Program} {f : FuncId} {args : Array Value} {w : World} {n : Nat} {os : Array Obj} {v : Value}
    (h : Calls P f args (gn w n os) fun e w' => e = .returned v ∧ w' = gn w n os) : Calls P f args (gn w n os) fun e w'' => e = .returned v ∧ ∃ p : GrownBy, w'' = gn w p.n p.os :=
  h.mono fun _ _ ⟨he, hb⟩ => ⟨he, ⟨⟨n, os⟩, hb⟩⟩
namespace Rn
def hasB (x : Mo) (n : ByteArray) : Bool := x.vars.any fun v => Nm.sameB v.name n
/-- Is the name the function's own? -/
def mineB (x : Mo) (f : Nat) (n : ByteArray) : Bool := decide (0 ≤ Lat.indexI ((x.funs[f]?.map (·.params)).getD []) n) || !(hasB x n)
end Rn

set_option maxHeartbeats 2000000 in
set_option maxRecDepth 100000 in
theorem dcell_any (w : World) (c : Dc) (nm : List (ByteArray × ByteArray)) (s : Rn.Sta) (vp vd : Value) (D : List ByteArray) (x y : ByteArray) (h : DoM w c nm s vp vd D) :
    Calls Tryz.prog 66 #[.pointer (some ⟨c.p, 0, none⟩), .string x, .string y] w fun e w' => e = .returned (.int .i64 (Nm.oI (Rn.ceAt (c.tot nm s) x y))) ∧ w' = w := by
  obtain ⟨c0, c1, c4, c5, c6, z4, z5, z6⟩ := h.cell
  have HCE := hide (fun (i : Nat) (z : Ce) hz => h.ce (i := i) (x := z) hz)
  have hlen := tot_len h
  obtain ⟨va, vcap, hvc⟩ := h.vcs
  obtain ⟨T, hT⟩ : ∃ T, T = c.tot nm s := ⟨_, rfl⟩
  rw [← hT] at HCE hlen hvc ⊢
  obtain ⟨len, hl⟩ : ∃ n, n = T.length := ⟨_, rfl⟩
  have HLn := hide hl
  rw [← hl] at hlen hvc HCE
  obtain ⟨R, hR⟩ : ∃ R, R = Nm.oI (Rn.ceAt T x y) := ⟨_, rfl⟩
  have HR := hide hR
  rw [← hR]
  rw [hvc] at c1 HCE
  clear h hT hl hR c0 c4 c5 c6 z4 z5 z6
  go_enter Tryz.func66, Tryz.ntmps66
  go_wp2_with fail
  go_loop [7] (fun i => ∃ k : Nat, k ≤ len ∧ i = .int .i64 k ∧ ∀ d g, d < k → T[d]? = some g → Rn.isC x y g = false) (fun i => len - (intOf i).toNat)
  case atStart => exact ⟨0, Nat.zero_le _, rfl, fun d g hd => absurd hd (Nat.not_lt_zero _)⟩
  case round =>
    obtain ⟨k, hk, rfl, hall⟩ := hrel
    have HA := hide hall
    clear hall
    by_cases hlt : k < len
    · obtain ⟨z, hz⟩ : ∃ z, T[k]? = some z := ⟨_, List.getElem?_eq_getElem (by rw [← HLn.out]; exact hlt)⟩
      have HZ := hide hz
      obtain ⟨cap', e, g0, g1, g2, -⟩ := HCE.out k z hz
      injection e with e1 e2 e3
      subst e1
      have HQ : Hid (Rn.isC x y z = ((z.mod.toList == x.toList) && (z.name.toList == y.toList))) := rfl
      clear hz e2 e3
      cases h1 : (z.mod.toList == x.toList)
      · rw [h1, Bool.false_and] at HQ
        go_wp2_with fail
        go_round
        case rel => exact ⟨k + 1, by omega, by go_num, fun d g hd hg => by
            by_cases e : d = k
            · subst e; rw [HZ.out] at hg; cases hg; exact HQ.out
            · exact HA.out d g (by omega) hg⟩
        case measure => simp [intOf]; omega
      · rw [h1, Bool.true_and] at HQ
        cases h2 : (z.name.toList == y.toList)
        · rw [h2] at HQ
          go_wp2_with fail
          go_round
          case rel => exact ⟨k + 1, by omega, by go_num, fun d g hd hg => by
              by_cases e : d = k
              · subst e; rw [HZ.out] at hg; cases hg; exact HQ.out
              · exact HA.out d g (by omega) hg⟩
          case measure => simp [intOf]; omega
        · rw [h2] at HQ
          go_wp2_with fail
          go_ret
          exact ⟨ret_int (by rw [HR.out, Rn.ceAt_hit HZ.out HQ.out HA.out]; rfl), rfl⟩
    · go_wp2_with fail
      go_ret
      exact ⟨ret_int (by rw [HR.out, Rn.ceAt_none fun d g hg => HA.out d g (by have := (List.getElem?_eq_some_iff.1 hg).1; have := HLn.out; omega) hg]; rfl), rfl⟩

set_option maxHeartbeats 2000000 in
set_option maxRecDepth 100000 in
theorem dhas_any (w : World) (m : Nat) (vi vv vf : Value) (x : Mo) (n : ByteArray) (h : MoAt w m (.agg #[.string x.name, vi, vv, vf]) x) :
    Calls Tryz.prog 253 #[.agg #[.string x.name, vi, vv, vf], .string n] w fun e w' => e = .returned (.bool (Rn.hasB x n)) ∧ Below w.heap.size w w' := by
  have hb := boxBelow w (.cells #[.string x.name, vi, vv, vf] 26)
  have HB := hide hb
  obtain ⟨vi', vv', vf', he, hs, -, hva, -⟩ := h.below hb
  injection he with he
  simp only [Array.mk.injEq, List.cons.injEq, and_true, true_and] at he
  obtain ⟨rfl, rfl, rfl⟩ := he
  have q2 : (w.alloc (.cells #[.string x.name, vi, vv, vf] 26)).cell? ⟨w.heap.size, 2, none⟩ = some vv := (block_at (block_new w _) 2).trans rfl
  obtain ⟨a, b, off, cap, rfl, h0, hl, hel⟩ := hva
  obtain ⟨vs, hvs⟩ : ∃ vs, vs = x.vars := ⟨_, rfl⟩
  obtain ⟨R, hR⟩ : ∃ R, R = Rn.hasB x n := ⟨_, rfl⟩
  have HR : Hid (R = vs.any fun v => Nm.sameB v.name n) := hide (by rw [hR, hvs]; rfl)
  rw [← hR]
  rw [← hvs] at h0 hl hel q2 HB ⊢
  obtain ⟨len, hlen⟩ : ∃ n, n = vs.length := ⟨_, rfl⟩
  have HLn := hide hlen
  rw [← hlen] at h0 hl hel q2 HB ⊢
  have HEL := hide hel
  have HA0 := hide h0
  clear h hb hR hvs hlen hel h0 hs
  obtain ⟨xn, hxn⟩ : ∃ z, z = x.name := ⟨_, rfl⟩
  rw [← hxn] at q2 HB HEL ⊢
  clear hxn
  go_enter Tryz.func253, Tryz.ntmps253
  go_wp2_with fail
  generalize w.alloc (.cells #[.string xn, vi, .slice a len cap, vf] 26) = W at *
  go_loop [5] (fun i => ∃ k : Nat, k ≤ len ∧ i = .int .i64 k ∧ ∀ d g, d < k → vs[d]? = some g → Nm.sameB g.name n = false) (fun i => len - (intOf i).toNat)
  case atStart => exact ⟨0, Nat.zero_le _, rfl, fun d g hd => absurd hd (Nat.not_lt_zero _)⟩
  case round =>
    obtain ⟨k, hk, rfl, hall⟩ := hrel
    have HA := hide hall
    clear hall
    by_cases hlt : k < len
    · obtain ⟨z, hz⟩ : ∃ z, vs[k]? = some z := ⟨_, List.getElem?_eq_getElem (by rw [← HLn.out]; exact hlt)⟩
      have HZ := hide hz
      obtain ⟨-, -, g0, -⟩ := HEL.out k z hz
      obtain rfl := HA0.out (by omega)
      have HQ : Hid (Nm.sameB z.name n = (z.name.toList == n.toList)) := rfl
      clear hz
      cases h1 : (z.name.toList == n.toList)
      · rw [h1] at HQ
        go_wp2_with fail
        go_round
        case rel => exact ⟨k + 1, by omega, by go_num, fun d g hd hg => by
            by_cases e : d = k
            · subst e; rw [HZ.out] at hg; cases hg; exact HQ.out
            · exact HA.out d g (by omega) hg⟩
        case measure => simp [intOf]; omega
      · rw [h1] at HQ
        go_wp2_with fail
        go_ret
        exact ⟨ret_bool (by rw [HR.out, List.any_eq_true.2 ⟨z, List.mem_of_getElem? HZ.out, HQ.out⟩]), HB.out⟩
    · go_wp2_with fail
      go_ret
      exact ⟨ret_bool (by
        rw [HR.out, List.any_eq_false.2 fun g hg => by
          obtain ⟨d, hd, e⟩ := List.mem_iff_getElem.1 hg
          rw [HA.out d g (by have := HLn.out; omega) (by rw [List.getElem?_eq_getElem hd, e])]
          simp]), HB.out⟩

/-- A call's own things by the document: of function f of module x; names and values in two rows. -/
structure OnAt (W w : World) (c : Dc) (m : Nat) (x : Mo) (q f : Nat) (ns : List ByteArray) (vals : List Int) (vns vvs : Value) : Prop where
  qn : c.n ≤ q
  blk : ∃ vi vv vf, w.heap[q]? = some (.cells #[.string x.name, vi, vv, vf, .int .i64 f, vns, vvs] 240 (0, 0)) ∧ MoAt W m (.agg #[.string x.name, vi, vv, vf]) x
  nrow : Own w c.n vns ns
  vrow : OwnI w c.n vvs vals
  len : ns.length = vals.length
  nsz : ∀ n ∈ ns, n.size ≤ maxLen
  v64 : ∀ v ∈ vals, I64 v

section
variable {W w w' : World} {c : Dc} {m : Nat} {x : Mo} {q f : Nat} {ns : List ByteArray} {vals : List Int} {vns vvs vp vd vp' vd' : Value} {nm : List (ByteArray × ByteArray)} {s : Rn.Sta} {D : List ByteArray}
theorem OnAt.below (h : OnAt W w c m x q f ns vals vns vvs) (hb : Below w.heap.size w w') : OnAt W w' c m x q f ns vals vns vvs := by
  obtain ⟨vi, vv, vf, h1, h2⟩ := h.blk
  exact ⟨h.qn, ⟨vi, vv, vf, at_upD h1 hb, h2⟩, own_below h.nrow hb, own_below h.vrow hb, h.len, h.nsz, h.v64⟩
theorem block_ne {w : World} {k j : Nat} {cs ds : Array Value} {t u : TypeId} {f g : Nat × Nat} (h : w.heap[k]? = some (.cells cs t f)) (h' : w.heap[j]? = some (.cells ds u g)) (hne : t ≠ u) : k ≠ j := fun e => by
  rw [e, h'] at h
  injection h with h
  injection h with _ h
  exact hne h.symm
/-- A block of another kind is none of those that a run turns. -/
theorem DoM.cold (h : DoM w c nm s vp vd D) {k : Nat} {cs : Array Value} {t : TypeId} {fz : Nat × Nat} (hk : w.heap[k]? = some (.cells cs t fz)) (h1 : t ≠ 138) (h2 : t ≠ 59) (h3 : t ≠ 62) (h4 : t ≠ 9) : ¬ hot c vp vd k := by
  rintro (e | e | e | e)
  · exact block_ne hk h.blk h1 e
  · rcases h.cel with ⟨_, _, e2⟩ | ⟨cap, cs2, _, hc, _⟩
    · exact block_ne hk h.blk h1 (e.trans e2)
    · exact block_ne hk hc h2 e
  · obtain ⟨cur, hc⟩ := h.pr.typ e
    exact block_ne hk hc h3 rfl
  · obtain ⟨cur, hc⟩ := row_typ h.did e
    exact block_ne hk hc h4 rfl
/-- A row of strings that isn't what was done is none of them either. -/
theorem DoM.coldS (h : DoM w c nm s vp vd D) {k : Nat} {cs : Array Value} {fz : Nat × Nat} (hk : w.heap[k]? = some (.cells cs 9 fz)) (hd : vd.ownBlock ≠ some k) : ¬ hot c vp vd k := by
  rintro (e | e | e | e)
  · exact block_ne hk h.blk (by decide) e
  · rcases h.cel with ⟨_, _, e2⟩ | ⟨cap, cs2, _, hc, _⟩
    · exact block_ne hk h.blk (by decide) (e.trans e2)
    · exact block_ne hk hc (by decide) e
  · obtain ⟨cur, hc⟩ := h.pr.typ e
    exact block_ne hk hc (by decide) rfl
  · exact hd e
/-- Names lie apart from what was done. -/
def Sep (vns vd : Value) : Prop := ∀ k, vns.ownBlock = some k → vd.ownBlock ≠ some k
theorem OnAt.keep (h : OnAt W w c m x q f ns vals vns vvs) (hm : DoM w c nm s vp vd D) (hs : Sep vns vd) (hk : Kq c vp vd w vp' vd' w') : OnAt W w' c m x q f ns vals vns vvs ∧ Sep vns vd' := by
  obtain ⟨vi, vv, vf, h1, h2⟩ := h.blk
  refine ⟨⟨h.qn, ⟨vi, vv, vf, hk.block _ _ h1 (hm.cold h1 (by decide) (by decide) (by decide) (by decide)), h2⟩, row_same h.nrow (fun g ob hg ho => ?_), row_same h.vrow (fun g ob hg ho => ?_), h.len, h.nsz, h.v64⟩, fun k hk1 hk2 => ?_⟩
  · obtain ⟨cur, hc⟩ := row_typ h.nrow hg
    exact hk.block _ _ ho (hm.coldS hc (hs g hg))
  · obtain ⟨cur, hc⟩ := row_typ h.vrow hg
    exact hk.block _ _ ho (hm.cold hc (by decide) (by decide) (by decide) (by decide))
  · obtain ⟨cur, hc⟩ := row_typ h.nrow hk1
    rcases hk.fd k hk2 with e | e
    · exact hs k hk1 e
    · have := block_lt hc; omega
end

set_option maxHeartbeats 4000000 in
set_option maxRecDepth 100000 in
theorem dmine_any (W w : World) (c : Dc) (m : Nat) (x : Mo) (q f : Nat) (ns : List ByteArray) (vals : List Int) (vns vvs : Value) (n : ByteArray) (h : OnAt W w c m x q f ns vals vns vvs) (hb : Below W.heap.size W w) (hf : f < x.funs.length) (hl : ns.length ≤ 9223372036854775807) :
    Calls Tryz.prog 208 #[.pointer (some ⟨q, 0, none⟩), .string n] w fun e w' => e = .returned (.tuple #[.int .i64 (Rn.lastTo ns n ns.length), .bool (Rn.mineB x f n)]) ∧ Below w.heap.size w w' := by
  obtain ⟨vi, vv, vf, hblk, hmo⟩ := h.blk
  have HMO := hide (hmo.below hb)
  obtain ⟨vi', vv', vf', he, hs, -, -, hfu⟩ := hmo.below hb
  injection he with he
  simp only [Array.mk.injEq, List.cons.injEq, and_true, true_and] at he
  obtain ⟨rfl, rfl, rfl⟩ := he
  obtain ⟨fa, fb, fo, fc, rfl, hfa, hfl, hfe⟩ := hfu
  obtain ⟨fu, hfu⟩ : ∃ fu, x.funs[f]? = some fu := ⟨_, List.getElem?_eq_getElem hf⟩
  obtain ⟨-, vpar, vb, e0, e1, e2, e3, -, g1, -, -, -, -, -, hpar, -, -⟩ := hfe f fu hfu
  have HPAR := hide (fun k os => containsS_any (gn w k os) vpar fu.params n (hpar.below (below_gn w k os)))
  obtain ⟨pa, pb, po, pc, rfl, -⟩ := hpar
  have HHAS := hide (fun k os => dhas_any (gn w k os) m vi vv _ x n (HMO.out.below (below_gn w k os)))
  obtain ⟨b1, hb1⟩ : ∃ b, b = decide (0 ≤ Lat.indexI fu.params n) := ⟨_, rfl⟩
  obtain ⟨b2, hb2⟩ : ∃ b, b = Rn.hasB x n := ⟨_, rfl⟩
  have HMB : Hid (Rn.mineB x f n = (b1 || !b2)) := hide (by unfold Rn.mineB; rw [hfu, hb1, hb2]; rfl)
  rw [← hb1] at HPAR
  rw [← hb2] at HHAS
  obtain ⟨R, hR⟩ : ∃ R, R = Rn.mineB x f n := ⟨_, rfl⟩
  rw [← hR] at HMB ⊢
  have hST := h.nrow.strs h.nsz hl
  obtain ⟨na, nb, no, nc, hvns, hna, -, -, hne⟩ := hST
  obtain ⟨va2, vc2, hvvs⟩ : ∃ a cc, vvs = .slice a vals.length cc := by
    rcases h.vrow.2 with ⟨e, e2⟩ | ⟨g, cap, cur, e, _⟩
    · exact ⟨none, 0, by rw [e, e2]⟩
    · exact ⟨_, _, e⟩
  subst hvns hvvs
  have HNA := hide hna
  have HNE := hide hne
  obtain ⟨len, hlen⟩ : ∃ n, n = ns.length := ⟨_, rfl⟩
  have HLn := hide hlen
  rw [← hlen] at hl HNA hblk ⊢
  obtain ⟨nf, hnf⟩ : ∃ n, n = x.funs.length := ⟨_, rfl⟩
  rw [← hnf] at hf hfa hfl hblk HHAS
  obtain rfl := hfa (by omega)
  have q3 := (block_at hblk 3).trans rfl
  have q4 := (block_at hblk 4).trans rfl
  have q5 := (block_at hblk 5).trans rfl
  have q0 := (block_at hblk 0).trans rfl
  have q1 := (block_at hblk 1).trans rfl
  have q2 := (block_at hblk 2).trans rfl
  have hff : (f : Int) < (nf : Int) := by omega
  obtain ⟨xn, hxn⟩ : ∃ z, z = x.name := ⟨_, rfl⟩
  rw [← hxn] at q0 HHAS
  clear h hmo hs hfe hfu hb1 hb2 hR hna hne hlen hnf hblk hxn hfa HMO
  go_enter Tryz.func208, Tryz.ntmps208
  go_wp2_with fail
  go_loop [6, 7] (fun a i => ∃ k : Nat, k ≤ len ∧ i = .int .i64 k ∧ a = .int .i64 (Rn.lastTo ns n k)) (fun _ i => len - (intOf i).toNat)
  case atStart => exact ⟨0, Nat.zero_le _, rfl, rfl⟩
  case round =>
    obtain ⟨k, hk, rfl, rfl⟩ := hrel
    by_cases hlt : k < len
    · obtain ⟨z, hz⟩ : ∃ z, ns[k]? = some z := ⟨_, List.getElem?_eq_getElem (by rw [← HLn.out]; exact hlt)⟩
      have HZ := hide hz
      have g := HNE.out k (by rw [← HLn.out]; exact hlt)
      rw [List.getD, hz, Option.getD_some] at g
      obtain rfl := HNA.out (by omega)
      clear hz
      cases h1 : (z.toList == n.toList)
      · have HL : Hid (Rn.lastTo ns n (k + 1) = Rn.lastTo ns n k) := hide (Rn.lastTo_no HZ.out h1)
        go_wp2_with fail
        go_round
        case rel => exact ⟨k + 1, by omega, by go_num, by rw [HL.out]⟩
        case measure => simp [intOf]; omega
      · have HL : Hid (Rn.lastTo ns n (k + 1) = k) := hide (Rn.lastTo_yes HZ.out h1)
        go_wp2_with fail
        go_round
        case rel => exact ⟨k + 1, by omega, by go_num, by rw [HL.out]⟩
        case measure => simp [intOf]; omega
    · obtain rfl : k = len := by omega
      replace q0 := cell_gn q0
      replace q1 := cell_gn q1
      replace q2 := cell_gn q2
      replace q3 := cell_gn q3
      replace q4 := cell_gn q4
      replace g1 := cell_gn g1
      go_wp2_with fail
      cases b1
      · refine wp_region_quiet_gn (by kernel_rfl) (by kernel_rfl) ?_
        repeat (quiet_step (first | (exact Calls.gn_of' (HPAR.out _ _)) | (exact Calls.gn_of (HHAS.out _ _))))
        refine wpQuiet_nil ?_
        intro w6 hw'
        obtain ⟨⟨nq, osq⟩, hw''⟩ := hw'
        have HB6 := hide (show Below w.heap.size w w6 by rw [hw'']; exact below_gn w nq osq)
        clear hw''
        go_wp2_with fail
        go_ret2
        exact ⟨by rw [HMB.out]; rfl, HB6.out⟩
      · refine wp_region_quiet_gn (by kernel_rfl) (by kernel_rfl) ?_
        repeat (quiet_step (first | (exact Calls.gn_of' (HPAR.out _ _)) | (exact Calls.gn_of (HHAS.out _ _))))
        refine wpQuiet_nil ?_
        intro w6 hw'
        obtain ⟨⟨nq, osq⟩, hw''⟩ := hw'
        have HB6 := hide (show Below w.heap.size w w6 by rw [hw'']; exact below_gn w nq osq)
        clear hw''
        go_wp2_with fail
        go_ret2
        exact ⟨by rw [HMB.out]; rfl, HB6.out⟩

end Go.Proofs.YtnheahdcfadclaaGreatDoor

/- Regions that draw their order, of which a first part only reads (its callees may lay blocks of their own) and the rest is forced: the first part is walked once, in the text's order; then the rest, in every world of the class. -/
namespace Go.Proofs.YtnheahdcfadclaaGreatDoor
open Go.RowKit

section
variable {P : Program} {ops : Array Oper} {md : Region.Mode} {C : World → Prop}
/-- In whatever order the first n come up; behind them L. -/
def anyHead (P : Program) (md : Region.Mode) (ops : Array Oper) (C : World → Prop) (n : Nat) (L : Array Bool → Act → Prop) : Nat → Array Bool → Act → Prop
  | 0, s, a => L s a
  | f + 1, s, a => Region.ready md ops s ≠ [] ∧ ∀ i ∈ Region.ready md ops s, i < n ∧ qOp P ops C i (anyHead P md ops C n L f (s.setIfInBounds i true)) a
theorem anyHead_wp {n g : Nat} {L : Array Bool → Act → Prop} {Q' : Exit → Act → World → Prop} (hL : ∀ s a w, C w → L s a → wpAny P md ops Q' g s a w) (f : Nat) :
    ∀ (s : Array Bool) (a : Act) (w : World), C w → anyHead P md ops C n L f s a → wpAny P md ops Q' (f + g) s a w := by
  induction f with
  | zero => intro s a w hw h; rw [Nat.zero_add]; exact hL s a w hw h
  | succ f ih =>
    intro s a w hw h
    rw [Nat.add_right_comm]
    exact ⟨fun h0 => absurd h0 h.1, fun i hi => wpOp_of_qOp hw (fun a' w' hw' h' => ih _ a' w' hw' h') (h.2 i hi).2⟩
theorem anyHead_take {n i : Nat} {oi : Oper} {v : Value} {L : Array Bool → Act → Prop} (hi : ops[i]? = some oi) (hsel : ∀ (j : Nat) (o : Oper) cs b, ops[j]? = some o → o.op ≠ .select cs b)
    (hs : Region.sinkB md ops n = true) (hc : Region.chainB md ops n = true) (hn : n < ops.size) (hin : i < n) (hdone : ∀ s a, L s a → ∀ j ∈ Region.ready md ops s, n ≤ j) (f : Nat) :
    ∀ (s : Array Bool) (a : Act), HeadInv md ops n s →
      (∀ j oj, ops[j]? = some oj → j ≠ i → s.getD j true = false → (∀ e ∈ oj.after, Region.binds md e = true → e.on ≠ i) → oi.apart ops oj = true) →
      i ∈ Region.ready md ops s → YieldsIn P ops C oi v a → anyHead P md ops C n L f (s.setIfInBounds i true) (a.put oi.dst v) → anyHead P md ops C n L (f + 1) s a := by
  have early : ∀ {s : Array Bool}, HeadInv md ops n s → i ∈ Region.ready md ops s → ∀ j ∈ Region.ready md ops s, j < n := fun {s} inv hr j hj => by
    rcases Nat.lt_or_ge j n with h | h
    · exact h
    · exact absurd hj (tail_waits hs hc hn inv _ i rfl hin (mem_ready.1 hr).1 j h)
  induction f with
  | zero =>
    intro s a inv _ hr hy H
    refine ⟨List.ne_nil_of_mem hr, fun j hj => ⟨early inv hr j hj, ?_⟩⟩
    by_cases e : j = i
    · rw [e]; exact hy.qOp hi H
    · have h1 := hdone _ _ H j (ready_mono hj e)
      have h2 := early inv hr j hj
      omega
  | succ f ih =>
    intro s a inv hfree hr hy H
    refine ⟨List.ne_nil_of_mem hr, fun j hj => ⟨early inv hr j hj, ?_⟩⟩
    by_cases e : j = i
    · rw [e]; exact hy.qOp hi H
    · obtain ⟨hjun, oj, hoj, hall⟩ := mem_ready.1 hj
      have hno : ∀ e ∈ oj.after, Region.binds md e = true → e.on ≠ i := fun e he hb heq => by
        have h1 := hall e he hb
        rw [heq, getD_both (mem_ready.1 hr).1] at h1
        cases h1
      have h2 := qOp_put hoj (hfree j oj hoj e hjun hno) (fun cs b => hsel i oi cs b hi) (fun cs b => hsel j oj cs b hoj) hy (H.2 j (ready_mono hj e)).2
      refine qOp_mono (fun a' h3 => ih _ a' (inv.set hj (early inv hr j hj)) (fun k ok hk hki hun hno' => hfree k ok hk hki ?_ hno') (ready_mono hr (Ne.symm e)) h3.1 ?_) h2
      · by_cases hjk : j = k
        · rw [← hjk]; exact hjun
        · rwa [getD_set_ne true hjk] at hun
      · rw [Array.setIfInBounds_comm _ _ e]
        exact h3.2
theorem anyHead_lex {n g : Nat} {Lq : Act → Prop} (hsel : Region.noSelect ops = true) (hs : Region.sinkB md ops n = true) (hc : Region.chainB md ops n = true) (hn : n < ops.size) :
    ∀ (l : List Oper) (k : Nat) (s : Array Bool) (a : Act), (∀ j, j < l.length → l[j]? = ops[k + j]?) → k + l.length = n → HeadInv md ops n s → Region.lexHead md ops g l.length k s = true → wpQuiet P ops C Lq l a →
      anyHead P md ops C n (fun s' a' => Region.seqB md ops g n s' = true ∧ Lq a') l.length s a := by
  intro l
  induction l with
  | nil =>
    intro k s a _ hk _ hB h
    obtain rfl : k = n := by simpa using hk
    exact ⟨by simpa [Region.lexHead] using hB, h⟩
  | cons o l ih =>
    intro k s a hl hk inv hB h
    have h0 : ops[k]? = some o := by simpa using (hl 0 (by simp)).symm
    simp only [List.length_cons, Region.lexHead, Bool.and_eq_true] at hB hk
    obtain ⟨⟨hr, hf⟩, hB'⟩ := hB
    have hr' : k ∈ Region.ready md ops s := by simpa using hr
    have hq : qOp P ops C k (wpQuiet P ops C Lq l) a := by unfold qOp; simp only [h0]; exact h
    obtain ⟨v, hy, hK⟩ := yieldsIn_of_qOp h0 hq
    refine anyHead_take h0 (Region.noSelect_spec hsel) hs hc hn (by omega) (fun s' a' hL => seqB_ready hL.1) l.length s a inv (Region.free_spec h0 hf) hr' hy (ih (k + 1) _ _ (fun j hj => ?_) (by omega) (inv.set hr' (by omega)) hB' hK)
    have := hl (j + 1) (by simp; omega)
    simpa [Nat.add_assoc, Nat.add_comm 1 j] using this
end

/-- The law. -/
theorem wp_region_quiet_tail {P : Program} {C : World → Prop} {id : Nat} {Q : Exit → Act → World → Prop} {a : Act} {w : World} {l : List Oper} (n : Nat) (hm : P.follows .mixedOrders = true) (hB : Region.lexTailB .any l.toArray n = true) (hC : C { w with drawn := w.drawn + 1 })
    (h : wpQuiet P l.toArray C (fun a' => ∀ w', C w' → wpList P l.toArray Q (l.drop n) a' w') (l.take n) a) : (Code.region id l.toArray true).wp P Q a w := by
  simp only [Region.lexTailB, Bool.and_eq_true, decide_eq_true_eq] at hB
  obtain ⟨⟨⟨⟨hsel, hn⟩, hs⟩, hc⟩, hlex⟩ := hB
  have hn' : n < l.length := by simpa using hn
  have htl : (l.take n).length = n := by simp; omega
  have hdl : (l.drop n).length = l.toArray.size - n := by simp
  have inv0 : HeadInv .any l.toArray n (Array.replicate l.toArray.size false) :=
    ⟨by simp, fun j oj _ hl => absurd hl (by rw [getD_replicate_false]; simp), fun t _ ht => getD_in (by simpa using ht) (getD_replicate_false _ _)⟩
  have H := anyHead_lex (md := .any) (g := l.toArray.size - n) hsel hs hc hn (l.take n) 0 _ a (fun j hj => by
    rw [htl] at hj
    simp [hj]) (by simpa using htl) inv0 (by rw [htl]; exact hlex) h
  have K := anyHead_wp (Q' := Q) (g := l.toArray.size - n) (fun s a' w' hw' hL => by
    have := wpAny_of_seq (md := .any) (Q' := Q) (l.drop n) n s a' w' (fun j => by simp [List.getElem?_drop]) (by rw [hdl]; exact hL.1) (hL.2 w' hw')
    rwa [hdl] at this) _ _ _ _ hC H
  rw [htl, show n + (l.toArray.size - n) = l.toArray.size by omega] at K
  exact wp_region_any hm K
/-- The same, in worlds with blocks behind. -/
theorem wp_region_tail_gn {P : Program} {id : Nat} {Q : Exit → Act → World → Prop} {a : Act} {w : World} {l : List Oper} (n : Nat) (hm : P.follows .mixedOrders = true) (hB : Region.lexTailB .any l.toArray n = true)
    (h : wpQuiet P l.toArray (fun w' => ∃ p : GrownBy, w' = gn w p.n p.os) (fun a' => ∀ w', (∃ p : GrownBy, w' = gn w p.n p.os) → wpList P l.toArray Q (l.drop n) a' w') (l.take n) a) : (Code.region id l.toArray true).wp P Q a w :=
  wp_region_quiet_tail (C := fun w' => ∃ p : GrownBy, w' = gn w p.n p.os) n hm hB ⟨⟨w.drawn + 1, #[]⟩, by simp [gn]⟩ h

end Go.Proofs.YtnheahdcfadclaaGreatDoor

/- Running functions by the document: what value, call and body must do; value, first part. -/
namespace Go.Proofs.YtnheahdcfadclaaGreatDoor
open Go.RowKit

/-- A call in a run by the document. -/
structure DRun (W w : World) (c : Dc) (nm : List (ByteArray × ByteArray)) (l : List Mo) (m : Nat) (s : Rn.Sta) (vp vd : Value) (D : List ByteArray) (q a : Nat) (x : Mo) (f : Nat) (ns : List ByteArray) (vals : List Int) (vns vvs : Value) : Prop where
  bel : Below W.heap.size W w
  cn : c.n = W.heap.size
  mods : MosAt W m c.vl l
  dm : DoM w c nm s vp vd D
  dk : Rn.DidOk nm s D
  on : OnAt W w c m x q f ns vals vns vvs
  sep : Sep vns vd
  hx : l[a]? = some x
  hf : f < x.funs.length
  pos : ∀ n, (Rn.pos nm x.name n).isSome = Rn.hasB x n
  par : ∀ p ∈ (x.funs[f]?.map (·.params)).getD [], p ∈ ns
  own : ∀ n ∈ ns, Rn.mineB x f n = true
  lim : ns.length + s.fuel ≤ 20000
  xsz : x.name.size ≤ 8
/-- What is so behind an expression. -/
def AfE (w w' : World) (c : Dc) (nm : List (ByteArray × ByteArray)) (vp vd : Value) (s' : Rn.Sta) : Prop := ∃ vp' vd' D', DoM w' c nm s' vp' vd' D' ∧ Rn.DidOk nm s' D' ∧ Kq c vp vd w vp' vd' w'
def EvD (W : World) (c : Dc) (nm : List (ByteArray × ByteArray)) (l : List Mo) (m K : Nat) (F : Rn.Fns) (g : Nat) : Prop :=
  ∀ (w : World) (s : Rn.Sta) (vp vd : Value) (D : List ByteArray) (q a : Nat) (x : Mo) (f : Nat) (ns : List ByteArray) (vals : List Int) (vns vvs : Value) (mm : Nat) (c0 c1 c2 c3 : Value) (e : Ex), DRun W w c nm l m s vp vd D q a x f ns vals vns vvs → ExAt W mm c0 c1 c2 c3 e → Lat.exprB mm e = true → s.fuel * K + mm ≤ g →
    Calls Tryz.prog 145 #[.pointer (some ⟨c.p, 0, none⟩), .pointer (some ⟨q, 0, none⟩), .agg #[c0, c1, c2, c3]] w fun r w' => r = .returned (.tuple #[.int .i64 (F.ev a f (Rn.own0 ns vals) e s).1, .int .i64 (F.ev a f (Rn.own0 ns vals) e s).2.1]) ∧ Hid (AfE w w' c nm vp vd (F.ev a f (Rn.own0 ns vals) e s).2.2 ∧ I64 (F.ev a f (Rn.own0 ns vals) e s).1)
section
variable {W w w' : World} {c : Dc} {nm : List (ByteArray × ByteArray)} {l : List Mo} {m : Nat} {s s' : Rn.Sta} {vp vd vp' vd' : Value} {D D' : List ByteArray} {q a : Nat} {x : Mo} {f : Nat} {ns : List ByteArray} {vals : List Int} {vns vvs : Value}
theorem DRun.ev (h : DRun W w c nm l m s vp vd D q a x f ns vals vns vvs) (hm : DoM w' c nm s' vp' vd' D') (hd : Rn.DidOk nm s' D') (hk : Kq c vp vd w vp' vd' w') (hf : s'.fuel ≤ s.fuel) : DRun W w' c nm l m s' vp' vd' D' q a x f ns vals vns vvs :=
  ⟨h.bel.trans (by rw [← h.cn]; exact hk.below), h.cn, h.mods, hm, hd, (h.on.keep h.dm h.sep hk).1, (h.on.keep h.dm h.sep hk).2, h.hx, h.hf, h.pos, h.par, h.own, by have := h.lim; omega, h.xsz⟩
theorem DRun.box (h : DRun W w c nm l m s vp vd D q a x f ns vals vns vvs) (hb : Below w.heap.size w w') : DRun W w' c nm l m s vp vd D q a x f ns vals vns vvs :=
  h.ev (h.dm.below hb) h.dk (Kq.of_below hb h.dm.nle) (Nat.le_refl _)
/-- Which variable a name means. -/
theorem DRun.sh (h : DRun W w c nm l m s vp vd D q a x f ns vals vns vvs) (n : ByteArray) : (Rn.mineB x f n = true → Rn.sh nm x.name (Rn.own0 ns vals) n = none) ∧ (Rn.mineB x f n = false → ∃ i, Rn.pos nm x.name n = some i ∧ Rn.sh nm x.name (Rn.own0 ns vals) n = some i) := by
  have hs := Rn.own0_some (n := n) h.on.len
  constructor
  · intro hm
    unfold Rn.sh
    by_cases ho : (Rn.own0 ns vals n).isSome = true
    · rw [if_pos ho]
    · rw [if_neg ho]
      have hn : n ∉ ns := fun hx => ho (hs.2 hx)
      unfold Rn.mineB at hm
      rw [Bool.or_eq_true] at hm
      rcases hm with hm | hm
      · exact absurd (h.par n (Rn.index_mem.1 (by simpa using hm))) hn
      · have := h.pos n
        rw [show Rn.hasB x n = false by simpa using hm] at this
        cases hp : Rn.pos nm x.name n with
        | none => rfl
        | some i => rw [hp] at this; cases this
  · intro hm
    have hn : n ∉ ns := fun hx => by rw [h.own n hx] at hm; cases hm
    have ho : ¬ (Rn.own0 ns vals n).isSome = true := fun e => hn (hs.1 e)
    unfold Rn.mineB at hm
    rw [Bool.or_eq_false_iff] at hm
    have hp := h.pos n
    rw [show Rn.hasB x n = true by simpa using hm.2] at hp
    obtain ⟨i, hi⟩ := Option.isSome_iff_exists.1 hp
    exact ⟨i, hi, by unfold Rn.sh; rw [if_neg ho, hi]⟩
theorem DRun.mn (h : DRun W w c nm l m s vp vd D q a x f ns vals vns vvs) : Rn.mn l a = x.name := by unfold Rn.mn; rw [h.hx]; rfl
theorem find_before {p : Nat → Bool} {n i : Nat} (h : (List.range n).find? p = some i) : ∀ j, j < i → p j = false := by
  intro j
  induction j using Nat.strongRecOn with
  | _ j ih =>
    intro hj
    cases hp : p j with
    | false => rfl
    | true =>
      have := Lat.find_hit (n := n) (Nat.lt_trans hj (Lat.find_spec h).1) (fun c hc => ih c hc (Nat.lt_trans hc hj)) hp
      rw [h] at this
      cases this
      omega
/-- The cell of a variable among all. -/
theorem ce_pos {nm : List (ByteArray × ByteArray)} {vs : List Rn.Vr} {ex : List Ce} (hl : vs.length = nm.length) {y n : ByteArray} {i : Nat} (h : Rn.pos nm y n = some i) : Rn.ceAt (Rn.sto nm vs ++ ex) y n = some i := by
  have hi := pos_lt h
  have hx := Rn.pos_some h
  have hv := List.getElem?_eq_getElem (show i < vs.length by omega)
  have hlen : (Rn.sto nm vs).length = nm.length := by unfold Rn.sto; rw [List.length_map, List.length_zip]; omega
  have hget : ∀ (j : Nat) (u : ByteArray × ByteArray) (v : Rn.Vr), nm[j]? = some u → vs[j]? = some v → (Rn.sto nm vs ++ ex)[j]? = some ⟨u.1, u.2, v.val⟩ := fun j u v hu hv => by
    have hj := (List.getElem?_eq_some_iff.1 hu).1
    rw [List.getElem?_append_left (by omega)]
    unfold Rn.sto
    rw [List.getElem?_map, show (nm.zip vs)[j]? = some (u, v) from List.getElem?_zip_eq_some.2 ⟨hu, hv⟩]
    rfl
  refine Rn.ceAt_hit (hget i _ _ hx hv) (by unfold Rn.isC; simp [Nm.sameB]) (fun d g hd hg => ?_)
  have hu := List.getElem?_eq_getElem (show d < nm.length by omega)
  have hvd := List.getElem?_eq_getElem (show d < vs.length by omega)
  rw [hget d _ _ hu hvd] at hg
  cases hg
  have h0 : ∀ j, j < i → (match nm[j]? with | some v => Nm.sameB v.1 y && Nm.sameB v.2 n | none => false) = false := by
    unfold Rn.pos at h
    intro j hj
    exact find_before h j hj
  have := h0 d hd
  rw [hu] at this
  exact this
end

end Go.Proofs.YtnheahdcfadclaaGreatDoor

/- Running functions by the document: what body must do, and what stays behind it. -/
namespace Go.Proofs.YtnheahdcfadclaaGreatDoor
open Go.RowKit

/-- What stays behind commands: the call's own block and its two rows may turn besides. -/
structure Kb (c : Dc) (q : Nat) (vp vd vns vvs : Value) (w : World) (vp' vd' vns' vvs' : Value) (w' : World) : Prop where
  below : Below c.n w w'
  block : ∀ k ob, w.heap[k]? = some ob → ¬ hot c vp vd k → k ≠ q → vns.ownBlock ≠ some k → vvs.ownBlock ≠ some k → w'.heap[k]? = some ob
  fp : ∀ k, vp'.ownBlock = some k → vp.ownBlock = some k ∨ w.heap.size ≤ k
  fd : ∀ k, vd'.ownBlock = some k → vd.ownBlock = some k ∨ w.heap.size ≤ k
  fn : ∀ k, vns'.ownBlock = some k → vns.ownBlock = some k ∨ w.heap.size ≤ k
  fv : ∀ k, vvs'.ownBlock = some k → vvs.ownBlock = some k ∨ w.heap.size ≤ k
section
variable {w w0 w' w2 : World} {c : Dc} {q : Nat} {vp vd vns vvs vp' vd' vns' vvs' vp2 vd2 vns2 vvs2 : Value}
theorem Kb.of (h : Kq c vp vd w vp' vd' w') (q : Nat) (vns vvs : Value) : Kb c q vp vd vns vvs w vp' vd' vns vvs w' :=
  ⟨h.below, fun k ob ho hn _ _ _ => h.block k ob ho hn, h.fp, h.fd, fun _ h => Or.inl h, fun _ h => Or.inl h⟩
theorem Kb.cold (h : Kb c q vp vd vns vvs w vp' vd' vns' vvs' w') {k : Nat} (hk : k < w.heap.size) (hn : ¬ hot c vp vd k) : ¬ hot c vp' vd' k := by
  rintro (e | e | e | e)
  · exact hn (Or.inl e)
  · exact hn (Or.inr (Or.inl e))
  · rcases h.fp k e with e | e
    · exact hn (Or.inr (Or.inr (Or.inl e)))
    · omega
  · rcases h.fd k e with e | e
    · exact hn (Or.inr (Or.inr (Or.inr e)))
    · omega
theorem Kb.trans (h : Kb c q vp vd vns vvs w vp' vd' vns' vvs' w') (k : Kb c q vp' vd' vns' vvs' w' vp2 vd2 vns2 vvs2 w2) : Kb c q vp vd vns vvs w vp2 vd2 vns2 vvs2 w2 := by
  have step : ∀ {f f' f2 : Value}, (∀ i, f'.ownBlock = some i → f.ownBlock = some i ∨ w.heap.size ≤ i) → (∀ i, f2.ownBlock = some i → f'.ownBlock = some i ∨ w'.heap.size ≤ i) → ∀ i, f2.ownBlock = some i → f.ownBlock = some i ∨ w.heap.size ≤ i := fun h1 h2 i hi => by
    rcases h2 i hi with e | e
    · exact h1 i e
    · exact Or.inr (Nat.le_trans h.below.size e)
  refine ⟨h.below.trans k.below, fun i ob ho hn hq h1 h2 => k.block i ob (h.block i ob ho hn hq h1 h2) (h.cold (block_lt ho) hn) hq (fun e => ?_) (fun e => ?_), step h.fp k.fp, step h.fd k.fd, step h.fn k.fn, step h.fv k.fv⟩
  · rcases h.fn i e with e | e
    · exact h1 e
    · have := block_lt ho; omega
  · rcases h.fv i e with e | e
    · exact h2 e
    · have := block_lt ho; omega
/-- If the call's own things are behind a world, then they are nothing to it. -/
theorem Kb.fresh (h0 : Kq c vp vd w0 vp' vd' w) (h : Kb c q vp' vd' vns vvs w vp2 vd2 vns2 vvs2 w2) (hq : w0.heap.size ≤ q) (hn : ∀ k, vns.ownBlock = some k → w0.heap.size ≤ k) (hv : ∀ k, vvs.ownBlock = some k → w0.heap.size ≤ k) : Kq c vp vd w0 vp2 vd2 w2 := by
  have step : ∀ {f f' f2 : Value}, (∀ i, f'.ownBlock = some i → f.ownBlock = some i ∨ w0.heap.size ≤ i) → (∀ i, f2.ownBlock = some i → f'.ownBlock = some i ∨ w.heap.size ≤ i) → ∀ i, f2.ownBlock = some i → f.ownBlock = some i ∨ w0.heap.size ≤ i := fun h1 h2 i hi => by
    rcases h2 i hi with e | e
    · exact h1 i e
    · exact Or.inr (Nat.le_trans h0.below.size e)
  refine ⟨h0.below.trans h.below, fun k ob ho hh => ?_, step h0.fp h.fp, step h0.fd h.fd⟩
  have hk := block_lt ho
  exact h.block k ob (h0.block k ob ho hh) (h0.cold hk hh) (fun e => by omega) (fun e => by have := hn k e; omega) (fun e => by have := hv k e; omega)
end
/-- What is so behind commands; r: the call's own names, and what the run has. -/
def AfB (W w w' : World) (c : Dc) (nm : List (ByteArray × ByteArray)) (l : List Mo) (m : Nat) (vp vd : Value) (q a : Nat) (x : Mo) (f : Nat) (vns vvs : Value) (r : Rn.Own × Rn.Sta) : Prop :=
  ∃ vp' vd' D' ns' vals' vns' vvs', DRun W w' c nm l m r.2 vp' vd' D' q a x f ns' vals' vns' vvs' ∧ r.1 = Rn.own0 ns' vals' ∧ Kb c q vp vd vns vvs w vp' vd' vns' vvs' w'
theorem AfB.trans {W w w1 w2 : World} {c : Dc} {nm : List (ByteArray × ByteArray)} {l : List Mo} {m : Nat} {vp vd vp1 vd1 : Value} {q a : Nat} {x : Mo} {f : Nat} {vns vvs vns1 vvs1 : Value} {r : Rn.Own × Rn.Sta} (hk : Kb c q vp vd vns vvs w vp1 vd1 vns1 vvs1 w1) (h : AfB W w1 w2 c nm l m vp1 vd1 q a x f vns1 vvs1 r) : AfB W w w2 c nm l m vp vd q a x f vns vvs r := by
  obtain ⟨vp', vd', D', ns', vals', vns', vvs', h1, h2, h3⟩ := h
  exact ⟨vp', vd', D', ns', vals', vns', vvs', h1, h2, hk.trans h3⟩
def BoD (W : World) (c : Dc) (nm : List (ByteArray × ByteArray)) (l : List Mo) (m K : Nat) (F : Rn.Fns) (g : Nat) : Prop :=
  ∀ (w : World) (s : Rn.Sta) (vp vd : Value) (D : List ByteArray) (q a : Nat) (x : Mo) (f : Nat) (ns : List ByteArray) (vals : List Int) (vns vvs : Value) (mm : Nat) (vb : Value) (b : List St), DRun W w c nm l m s vp vd D q a x f ns vals vns vvs → StsAt W mm vb b → Lat.bodyB mm b = true → s.fuel * K + mm ≤ g →
    Calls Tryz.prog 144 #[.pointer (some ⟨c.p, 0, none⟩), .pointer (some ⟨q, 0, none⟩), vb] w fun r w' => r = .returned (.int .i64 (Rn.dos (F.dO a f) b (Rn.own0 ns vals) s).1) ∧ Hid (AfB W w w' c nm l m vp vd q a x f vns vvs (Rn.dos (F.dO a f) b (Rn.own0 ns vals) s).2)

end Go.Proofs.YtnheahdcfadclaaGreatDoor
