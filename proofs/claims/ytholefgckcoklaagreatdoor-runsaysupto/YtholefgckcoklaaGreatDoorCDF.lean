/- Walks over package downref: value. -/
import Derived.Test.YtholefgckcoklaaGreatDoorZBL
import Derived.Test.YtholefgckcoklaaGreatDoorZBB
import Derived.Test.YtholefgckcoklaaGreatDoorZBI
namespace Go.Proofs.YtholefgckcoklaaGreatDoor
open Go.RowKit
section
variable {W w w' w7 : World} {c : Dc} {nm : List (ByteArray × ByteArray)} {l : List Mo} {m : Nat} {s : Rn.Sta} {vp vd vp' vd' : Value} {D : List ByteArray} {q a : Nat} {x : Mo} {f : Nat} {ns : List ByteArray} {vals : List Int} {vns vvs : Value}
theorem DoM.same (h : DoM w c nm s vp vd D) (hs : ∀ k ob, w.heap[k]? = some ob → hot c vp vd k → w'.heap[k]? = some ob) : DoM w' c nm s vp vd D := by
  refine ⟨h.base, hs _ _ h.blk (Or.inl rfl), h.pr.sameK (fun g ob hg ho => hs g ob ho (Or.inr (Or.inr (Or.inl hg)))), row_same h.did (fun g ob hg ho => hs g ob ho (Or.inr (Or.inr (Or.inr hg)))), h.cbn, ?_, h.lens, h.val, h.room, h.lenD, h.nml, h.nms, h.dsz⟩
  rcases h.cel with ⟨h1, h2, h3⟩ | ⟨cap, cs, h1, h2, h3⟩
  · exact Or.inl ⟨h1, h2, h3⟩
  · exact Or.inr ⟨cap, cs, h1, hs _ _ h2 (Or.inr (Or.inl rfl)), h3⟩
theorem OnAt.same (h : OnAt W w c m x q f ns vals vns vvs) (hs : ∀ k ob, w.heap[k]? = some ob → (k = q ∨ vns.ownBlock = some k ∨ vvs.ownBlock = some k) → w'.heap[k]? = some ob) : OnAt W w' c m x q f ns vals vns vvs := by
  obtain ⟨vi, vv, vf, h1, h2⟩ := h.blk
  exact ⟨h.qn, ⟨vi, vv, vf, hs _ _ h1 (Or.inl rfl), h2⟩, row_same h.nrow (fun g ob hg ho => hs g ob ho (Or.inr (Or.inl hg))), row_same h.vrow (fun g ob hg ho => hs g ob ho (Or.inr (Or.inr hg))), h.len, h.nsz, h.v64⟩
theorem DoM.hotI (h : DoM w c nm s vp vd D) {k : Nat} {cs : Array Value} (hk : w.heap[k]? = some (.cells cs 3 (0, 0))) : ¬ hot c vp vd k := h.cold hk (by decide) (by decide) (by decide) (by decide)
theorem Kq.size0 (h : Kq c vp vd w vp' vd' w') : w.heap.size ≤ w'.heap.size := h.below.size
theorem DRun.grow {w0 : World} {v : Value} {vs : List Int} {o : Obj} (h : DRun W w c nm l m s vp' vd' D q a x f ns vals vns vvs) (hv : OwnI w w0.heap.size v vs) (hg : (w.alloc o).grownBy w7 v.ownBlock) (hq : q < w0.heap.size) (hn : ∀ k, vns.ownBlock = some k → k < w0.heap.size) (hvv : ∀ k, vvs.ownBlock = some k → k < w0.heap.size) (h0 : c.n ≤ w0.heap.size) (hk : Kq c vp vd w0 vp' vd' w) :
    DRun W w7 c nm l m s vp' vd' D q a x f ns vals vns vvs ∧ Kq c vp vd w0 vp' vd' w7 ∧ (∀ k ob, w.heap[k]? = some ob → v.ownBlock ≠ some k → w7.heap[k]? = some ob) := by
  have keep : ∀ k ob, w.heap[k]? = some ob → v.ownBlock ≠ some k → w7.heap[k]? = some ob := fun k ob ho hk => by
    rw [hg.block k (by have := block_lt ho; have := (boxBelow w o).size; omega) (fun e => hk e.symm)]
    exact block_alloc ho o
  have hb : Below c.n w w7 := (Below.refl c.n w).alloc h.dm.nle o |>.grown hg (Nat.le_trans h.dm.nle (boxBelow w o).size) (fun k hk => Nat.le_trans h0 (World.ownsRow.lt hv k hk).1)
  have hlow : ∀ k, k < w0.heap.size → v.ownBlock ≠ some k := fun k hk e => by have := (World.ownsRow.lt hv k e).1; omega
  refine ⟨⟨h.bel.trans (by rw [← h.cn]; exact hb), h.cn, h.mods, h.dm.same (fun k ob ho hh => keep k ob ho (fun e => ?_)), h.dk, h.on.same (fun k ob ho hh => keep k ob ho (hlow k ?_)), h.sep, h.hx, h.hf, h.pos, h.par, h.own, h.lim, h.xsz⟩, ⟨hk.below.trans hb, fun k ob ho hn' => keep k ob (hk.block k ob ho hn') (hlow k (block_lt ho)), hk.fp, hk.fd⟩, keep⟩
  · obtain ⟨cur, hc⟩ := row_typ hv e
    exact h.dm.hotI hc hh
  · rcases hh with e | e | e
    · rw [e]; exact hq
    · exact hn k e
    · exact hvv k e
end
theorem row_base {w : World} {n n' : Nat} {v : Value} {l : List Int} (h : OwnI w n v l) (hn : n' ≤ n) : OwnI w n' v l := by
  obtain ⟨h0, h1⟩ := h
  refine ⟨h0, ?_⟩
  rcases h1 with h1 | ⟨g, cap, cur, hv, hg, r⟩
  · exact Or.inl h1
  · exact Or.inr ⟨g, cap, cur, hv, Nat.le_trans hn hg, r⟩
theorem AfE.box {w w' w2 : World} {c : Dc} {nm : List (ByteArray × ByteArray)} {vp vd : Value} {s : Rn.Sta} (h : AfE w w' c nm vp vd s) (hb : Below w'.heap.size w' w2) : AfE w w2 c nm vp vd s := by
  obtain ⟨vp', vd', D', h1, h2, h3⟩ := h
  exact ⟨vp', vd', D', h1.below hb, h2, h3.trans (Kq.of_below hb h1.nle)⟩
theorem opB_cases {n : ByteArray} (h : Lat.opB n = true) : n.toList = [43] ∨ n.toList = [45] ∨ n.toList = [42] ∨ n.toList = [60] ∨ n.toList = [61] := by
  have h1 := Rn.index_mem.1 (show 0 ≤ Lat.indexI Lat.opS n from by simpa [Lat.opB] using h)
  have : n = ⟨#[43]⟩ ∨ n = ⟨#[45]⟩ ∨ n = ⟨#[42]⟩ ∨ n = ⟨#[60]⟩ ∨ n = ⟨#[61]⟩ := by simpa [Lat.opS] using h1
  rcases this with rfl | rfl | rfl | rfl | rfl
  · exact Or.inl (by kernel_rfl)
  · exact Or.inr (Or.inl (by kernel_rfl))
  · exact Or.inr (Or.inr (Or.inl (by kernel_rfl)))
  · exact Or.inr (Or.inr (Or.inr (Or.inl (by kernel_rfl))))
  · exact Or.inr (Or.inr (Or.inr (Or.inr (by kernel_rfl))))
theorem cell_int1 (w : World) (z : Int) : (w.alloc (.cells #[.int .i64 z] 3)).cell? ⟨w.heap.size, 0, none⟩ = some (.int .i64 z) := by simp [go_sem]
set_option maxHeartbeats 8000000 in
set_option maxRecDepth 100000 in
theorem dval_step (W : World) (c : Dc) (nm : List (ByteArray × ByteArray)) (l : List Mo) (m K : Nat) (F : Rn.Fns) (g : Nat) (hKm : m ≤ K) (hLe : Rn.Le (·.fuel) F) (hE : EvD W c nm l m K F g) (hC : CaD W c nm l m K F g) (hG : Firsts nm l) :
    EvD W c nm l m K (Rn.step nm l F) (g + 1) := by
  intro w s vp vd D q a x f ns vals vns vvs mm c0 c1 c2 c3 e hR hX hB hg
  have HEE := hide hE
  have HCC := hide hC
  have HGG := hide hG
  have HG := hide hg
  obtain ⟨m', rfl⟩ : ∃ m', mm = m' + 1 := by
    cases mm with
    | zero => exact absurd hX (fun h => h)
    | succ k => exact ⟨k, rfl⟩
  have hX0 := hX
  obtain ⟨rfl, rfl, rfl, hxs, hk64, hn64, xa, xb, xo, xc, rfl, hxa, hxl, hxe⟩ := hX
  obtain ⟨R, hRR⟩ : ∃ R, R = (Rn.step nm l F).ev a f (Rn.own0 ns vals) e s := ⟨_, rfl⟩
  have hRE := hRR
  simp only [Rn.step] at hRE
  rw [← hRR]
  by_cases k1 : e.kind = 1
  · rw [if_pos k1] at hRE
    rw [hRE]
    exact dval_num W w c nm l m s vp vd D q a x f ns vals vns vvs _ _ _ _ _ e hR hX0 hn64 k1
  rw [if_neg k1] at hRE
  by_cases k2 : e.kind = 2
  · rw [if_pos k2, hR.mn] at hRE
    rw [hRE]
    exact dval_name W w c nm l m s vp vd D q a x f ns vals vns vvs _ _ _ _ _ e hR hX0 k2
  rw [if_neg k2] at hRE
  have HRE := hide hRE
  have HXE := hide hxe
  have HXA := hide hxa
  have HXS := hide hxs
  have HR := hide hR
  obtain ⟨na, hna⟩ : ∃ n, n = e.args.length := ⟨_, rfl⟩
  have HNA := hide hna
  have hkind : (e.kind = 3 ∧ e.args.length = 2 ∧ e.args.all (Lat.exprB m') = true ∧ Lat.opB e.name = true) ∨ (e.kind = 4 ∧ e.args.length ≤ 4 ∧ e.args.all (Lat.exprB m') = true) := by
    unfold Lat.exprB at hB
    rw [if_neg k1, if_neg k2] at hB
    by_cases k3 : e.kind = 3
    · rw [if_pos k3] at hB
      simp only [Bool.and_eq_true, beq_iff_eq] at hB
      exact Or.inl ⟨k3, hB.1.2, hB.2, hB.1.1.2⟩
    · rw [if_neg k3] at hB
      by_cases k4 : e.kind = 4
      · rw [if_pos k4] at hB
        simp only [Bool.and_eq_true, decide_eq_true_eq] at hB
        exact Or.inr ⟨k4, hB.1.2, hB.2⟩
      · rw [if_neg k4] at hB; cases hB
  have k1' : (e.kind == 1) = false := by simp [k1]
  have k2' : (e.kind == 2) = false := by simp [k2]
  rw [← hna] at hxl HXA hkind ⊢
  have hna4 : na ≤ 4 := by rcases hkind with h | h <;> omega
  have HAL : Hid (e.args.all (Lat.exprB m') = true) := hide (by rcases hkind with h | h; exact h.2.2.1; exact h.2.2)
  have HKD : Hid ((e.kind = 3 ∧ na = 2 ∧ Lat.opB e.name = true) ∨ e.kind = 4) := hide (by rcases hkind with h | h; exact Or.inl ⟨h.1, h.2.1, h.2.2.2⟩; exact Or.inr h.1)
  obtain ⟨W1, hW1⟩ : ∃ W1, W1 = w.alloc (.cells #[.int .i64 e.kind, .int .i64 e.n, .string e.name, .slice xa na xc] 103) := ⟨_, rfl⟩
  have hb1 : Below w.heap.size w W1 := by rw [hW1]; exact boxBelow _ _
  have HR1 := hide (hR.box hb1)
  have HK1 : Hid (Kq c vp vd w vp vd W1) := hide (Kq.of_below hb1 hR.dm.nle)
  obtain ⟨B, hBw⟩ : ∃ b, b = w.heap.size := ⟨_, rfl⟩
  have HBW := hide hBw
  have HBX1 : Hid (W1.heap[B]? = some (.cells #[.int .i64 e.kind, .int .i64 e.n, .string e.name, .slice xa na xc] 103 (0, 0))) := hide (by rw [hW1, hBw]; exact block_new _ _)
  have HLOW : Hid (q < w.heap.size ∧ (∀ k, vns.ownBlock = some k → k < w.heap.size) ∧ (∀ k, vvs.ownBlock = some k → k < w.heap.size) ∧ c.n ≤ w.heap.size) := hide (by
    obtain ⟨vi, vv, vf, h1, _⟩ := hR.on.blk
    refine ⟨block_lt h1, fun k hk => ?_, fun k hk => ?_, hR.dm.nle⟩
    · obtain ⟨cur, hc⟩ := row_typ hR.on.nrow hk
      exact block_lt hc
    · obtain ⟨cur, hc⟩ := row_typ hR.on.vrow hk
      exact block_lt hc)
  obtain ⟨EV, hEV⟩ : ∃ E, E = Rn.evs (F.ev a f (Rn.own0 ns vals)) e.args s := ⟨_, rfl⟩
  have HEV := hide hEV
  rw [← hEV] at HRE
  have b0 := (block_at HBX1.out 0).trans rfl
  have HOW0 : Hid (OwnI W1 w.heap.size (.slice none 0 0) []) := hide (by
    refine ⟨by simp, Or.inl ⟨rfl, rfl⟩⟩)
  clear hR hE hC hG hg hB hxs hk64 hn64 hxa hxe hRE hRR hna hX0 k1 k2 hkind hb1 hEV
  go_enter Tryz.func150, Tryz.ntmps150
  go_wp2_with fail
  rw [← hW1, ← hBw]
  clear hW1 hBw b0
  go_loopw [10, 11] (fun v i wx => ∃ t : Nat, t ≤ na ∧ i = .int .i64 t ∧ ∃ (s' : Rn.Sta) (vp' vd' : Value) (D' : List ByteArray) (us : List Int), Hid (DRun W wx c nm l m s' vp' vd' D' q a x f ns vals vns vvs ∧ Kq c vp vd w vp' vd' wx ∧ wx.heap[B]? = some (.cells #[.int .i64 e.kind, .int .i64 e.n, .string e.name, .slice xa na xc] 103 (0, 0)) ∧ OwnI wx w.heap.size v us ∧ us.length = t ∧ (∀ u ∈ us, I64 u) ∧
      EV = (us ++ (Rn.evs (F.ev a f (Rn.own0 ns vals)) (e.args.drop t) s').1, (Rn.evs (F.ev a f (Rn.own0 ns vals)) (e.args.drop t) s').2) ∧ s'.fuel ≤ s.fuel)) (fun _ i _ => na - (intOf i).toNat)
  case atStart => exact ⟨0, Nat.zero_le _, rfl, s, vp, vd, D, [], hide ⟨HR1.out, HK1.out, HBX1.out, HOW0.out, rfl, fun v h => by simp at h, by rw [List.drop_zero, List.nil_append]; exact HEV.out, Nat.le_refl _⟩⟩
  case round =>
    obtain ⟨t, ht, rfl, s', vp', vd', D', us, HI⟩ := hrel
    have b3 := (block_at HI.out.2.2.1 3).trans rfl
    by_cases htn : t < na
    · obtain ⟨y, hy⟩ : ∃ y, e.args[t]? = some y := ⟨_, List.getElem?_eq_getElem (by rw [← HNA.out]; exact htn)⟩
      obtain ⟨e0, e1, e2, e3, g0, g1, g2, g3, hye⟩ := HXE.out t y hy
      obtain rfl := HXA.out (by omega)
      have HAT := hide (evs_at (f := F.ev a f (Rn.own0 ns vals)) hy s')
      have HYB : Hid (Lat.exprB m' y = true) := hide (by have h1 := HAL.out; rw [List.all_eq_true] at h1; exact h1 y (List.mem_of_getElem? hy))
      have HYE := hide hye
      replace g0 := cellUp g0 HI.out.1.bel
      replace g1 := cellUp g1 HI.out.1.bel
      replace g2 := cellUp g2 HI.out.1.bel
      replace g3 := cellUp g3 HI.out.1.bel
      obtain ⟨ya, yc, rfl, rfl, rfl, rfl⟩ := hye.shape
      generalize y.args.length = ny at *
      have HC := hide (HEE.out _ s' vp' vd' D' q a x f ns vals vns vvs m' _ _ _ _ y HI.out.1 HYE.out HYB.out (by
        have h1 := HG.out
        have h2 : s'.fuel * K ≤ s.fuel * K := Nat.mul_le_mul_right K HI.out.2.2.2.2.2.2.2
        omega))
      obtain ⟨V, hVV⟩ : ∃ V, V = F.ev a f (Rn.own0 ns vals) y s' := ⟨_, rfl⟩
      have HVL : Hid (V.2.2.fuel ≤ s'.fuel) := hide (by rw [hVV]; exact hLe.1 a f _ y s')
      rw [← hVV] at HC HAT
      clear hVV hy hye
      obtain ⟨wo, rfl⟩ : ∃ wo, wo = wr := ⟨_, rfl⟩
      go_wp2_with fail
      refine HC.out.mono ?_
      rintro r w5 ⟨rfl, HM5⟩
      obtain ⟨⟨vp5, vd5, D5, hm5, hd5, hk5⟩, hi5⟩ := HM5.out
      have HR5 := hide (HI.out.1.ev hm5 hd5 hk5 HVL.out)
      have HK5 := hide (HI.out.2.1.trans hk5)
      have HBX5 := hide (hk5.block _ _ HI.out.2.2.1 (HI.out.1.dm.cold HI.out.2.2.1 (by decide) (by decide) (by decide) (by decide)))
      have HOW5 : Hid (OwnI w5 w.heap.size u10 us) := hide (row_same HI.out.2.2.2.1 (fun k ob hk ho => by
        obtain ⟨cur, hc⟩ := row_typ HI.out.2.2.2.1 hk
        exact hk5.block _ _ ho (HI.out.1.dm.hotI hc)))
      have HI5 := hide hi5
      clear hm5 hd5 hk5 hi5 HM5 HC g0 g1 g2 g3 b3
      by_cases hv : V.2.1 = 0
      · rw [if_pos hv] at HAT
        rw [hv]
        clear hv
        go_wp2_with (first
          | (at_builtin; refine wpList_append_int rfl _ _ rfl w.heap.size u10 us rfl (own_below HOW5.out (boxBelow _ _)) _ V.1 rfl (cell_int1 _ _) (by have := HI.out.2.2.2.2.1; omega) (Nat.le_trans HK5.out.size0 (boxBelow _ _).size) ?_; intro v7 w7 hown7 hgrow7; have HG7 := hide (HR5.out.grow HOW5.out hgrow7 HLOW.out.1 HLOW.out.2.1 HLOW.out.2.2.1 HLOW.out.2.2.2 HK5.out); have HOW7 := hide hown7; clear hown7 hgrow7)
          | fail)
        go_roundw
        case rel => exact ⟨t + 1, by omega, by go_num, V.2.2, vp5, vd5, D5, us ++ [V.1], hide ⟨HG7.out.1, HG7.out.2.1, HG7.out.2.2 _ _ HBX5.out (fun e => by
            obtain ⟨cur, hc⟩ := row_typ HOW5.out e
            exact block_ne HBX5.out hc (by decide) rfl), HOW7.out, by rw [List.length_append, HI.out.2.2.2.2.1]; rfl, fun v hv => by
          rcases List.mem_append.1 hv with hv | hv
          · exact HI.out.2.2.2.2.2.1 v hv
          · simp at hv; subst hv; exact HI5.out, by rw [HI.out.2.2.2.2.2.2.1, HAT.out, List.append_assoc]; rfl, Nat.le_trans HVL.out HI.out.2.2.2.2.2.2.2⟩⟩
        case measure => simp [intOf]; omega
      · as_aux_lemma =>
          have hv' : (V.2.1 == 0) = false := by simp [hv]
          rw [if_neg hv] at HAT
          have HEE2 : Hid (EV.2 = V.2) := hide (by rw [HI.out.2.2.2.2.2.2.1, HAT.out])
          have HRV : Hid (R = (0, V.2)) := hide (by rw [HRE.out, if_neg (by rw [HEE2.out]; exact hv), HEE2.out])
          clear hv
          go_wp2_with fail
          go_ret2
          exact ⟨by rw [HRV.out]; rfl, hide (by rw [HRV.out]; exact ⟨⟨vp5, vd5, D5, HR5.out.dm, HR5.out.dk, HK5.out⟩, by unfold I64; omega⟩)⟩
    · have hte : t = na := by omega
      have HEE2 : Hid (EV = (us, 0, s')) := hide (by rw [HI.out.2.2.2.2.2.2.1, hte, HNA.out, List.drop_length]; simp [Rn.evs])
      rw [HEE2.out, if_pos rfl] at HRE
      have HVN : Hid (us.length = na) := hide (by rw [HI.out.2.2.2.2.1, hte])
      have b0 := (block_at HI.out.2.2.1 0).trans rfl
      have b2 := (block_at HI.out.2.2.1 2).trans rfl
      clear hte
      obtain ⟨wo, rfl⟩ : ∃ wo, wo = wr := ⟨_, rfl⟩
      obtain ⟨ua, uc, hu10⟩ : ∃ a cc, u10 = .slice a na cc := by
        rcases HI.out.2.2.2.1.2 with ⟨e, e2⟩ | ⟨g, cap, cur, e, _⟩
        · exact ⟨none, 0, by rw [e, ← HVN.out, e2]⟩
        · exact ⟨_, _, by rw [e, HVN.out]⟩
      subst hu10
      by_cases k4 : e.kind = 4
      · have k3' : (e.kind == 3) = false := by simp [k4]
        rw [if_pos k4] at HRE
        clear k4
        obtain ⟨d0, -, -, -, d6, -, -, y6⟩ := HI.out.1.dm.cell
        have hroom := HI.out.1.dm.room
        obtain ⟨fu, hfu⟩ : ∃ n, n = s'.fuel := ⟨_, rfl⟩
        rw [← hfu] at d6
        by_cases h0 : fu = 0
        · as_aux_lemma =>
            have HRV : Hid (R = (0, 6, s')) := hide (by rw [HRE.out]; unfold Rn.call; rw [(Rn.burn_zero (s := s') (by omega)).1])
            subst h0
            clear hfu
            go_wp2_with fail
            go_ret2
            exact ⟨by rw [HRV.out]; rfl, hide (by rw [HRV.out]; exact ⟨⟨vp', vd', D', HI.out.1.dm, HI.out.1.dk, HI.out.2.1⟩, by unfold I64; omega⟩)⟩
        · obtain ⟨k, rfl⟩ : ∃ k, fu = k + 1 := ⟨fu - 1, by omega⟩
          have hk : k + 1 ≤ 16777215 := by omega
          have hz : (((k + 1 : Nat) : Int) == 0) = false := by rw [beq_eq_false_iff_ne]; omega
          have hfl := HI.out.1.dm.fuel (f := k) (by omega)
          have HR2 := hide (HI.out.1.ev hfl.1 ⟨HI.out.1.dk.once, HI.out.1.dk.mem⟩ hfl.2 (show k ≤ s'.fuel by omega))
          have HK2 := hide (HI.out.2.1.trans hfl.2)
          have HBX2 := hide (hfl.2.block _ _ HI.out.2.2.1 (HI.out.1.dm.cold HI.out.2.2.1 (by decide) (by decide) (by decide) (by decide)))
          have HOW2 := hide (row_base (row_same HI.out.2.2.2.1 (fun k ob hk ho => by
            obtain ⟨cur, hc⟩ := row_typ HI.out.2.2.2.1 hk
            exact hfl.2.block _ _ ho (HI.out.1.dm.hotI hc))) HLOW.out.2.2.2)
          have HFK : Hid (k * K + m ≤ g) := hide (by
            have h1 := HG.out
            have h2 : s'.fuel * K ≤ s.fuel * K := Nat.mul_le_mul_right K HI.out.2.2.2.2.2.2.2
            rw [← hfu, Nat.succ_mul] at h2
            omega)
          obtain ⟨s1, hs1⟩ : ∃ z, z = ({ s' with fuel := k } : Rn.Sta) := ⟨_, rfl⟩
          have HS1 : Hid (s1.fuel = k) := hide (by rw [hs1])
          have HRV : Hid (R = if (Nm.ptgt x f e.name l).2.2 = false then (0, 4, s1) else Rn.enter F l (if (Nm.ptgt x f e.name l).1 < 0 then a else (Nm.ptgt x f e.name l).1.toNat) (Nm.ptgt x f e.name l).2.1.toNat us s1) := hide (by
            rw [HRE.out]
            unfold Rn.call
            rw [(Rn.burn_pos (s := s') (by omega)).1, HI.out.1.hx, show Rn.burnS s' = s1 by rw [hs1]; unfold Rn.burnS; rw [← hfu]; rfl])
          rw [← hs1] at HR2
          obtain ⟨w2, hw2⟩ : ∃ w2, w2 = wo.setCell ⟨c.p, 6, none⟩ (.int .i64 (k : Nat)) := ⟨_, rfl⟩
          rw [← hw2] at HR2 HK2 HBX2 HOW2
          have HIU := hide HI.out.2.2.2.2.2.1
          clear hfl hs1 HRE HEE2 hfu hroom h0
          go_wp2_with fail
          rw [← hw2]
          clear hw2 d0 d6 y6 b0 b2 b3 HBW HI
          obtain ⟨vi, vv, vf, hown, hmo⟩ := HR2.out.on.blk
          have HMO := hide hmo
          have hWb : ∀ n os, Below W.heap.size W (gn w2 n os) := fun n os => up HR2.out.bel (below_gn w2 n os)
          have HTG := hide (fun n os => rtarget_any m (gn w2 n os) (.agg #[.string x.name, vi, vv, vf]) c.vl x f e.name l (HMO.out.below (hWb n os)) (Nat.le_of_lt HR2.out.hf) HXS.out (HR2.out.mods.below (hWb n os)))
          obtain ⟨la, lb, lo, lc, hvl, hla, hll, hle⟩ := HR2.out.mods
          have HLE := hide hle
          have HLA := hide hla
          obtain ⟨nl, hnl⟩ : ∃ n, n = l.length := ⟨_, rfl⟩
          have HNL := hide hnl
          rw [← hnl] at hvl HLA hll
          have HVL := hide hvl
          obtain ⟨d0, -⟩ := HR2.out.dm.cell
          rw [hvl] at d0 HTG
          obtain ⟨ai, bi, oi, ci, rfl, -⟩ := hmo.split.1
          obtain ⟨av, bv, ov, cv, rfl, -⟩ := hmo.split.2.1
          obtain ⟨af, bf, of, cf, rfl, -⟩ := hmo.split.2.2
          generalize x.imports.length = ni at *
          generalize x.vars.length = nv at *
          obtain ⟨nf, hnf⟩ : ∃ n, n = x.funs.length := ⟨_, rfl⟩
          rw [← hnf] at hown HTG HMO
          have p0 := (block_at hown 0).trans rfl
          have p1 := (block_at hown 1).trans rfl
          have p2 := (block_at hown 2).trans rfl
          have p3 := (block_at hown 3).trans rfl
          have p4 := (block_at hown 4).trans rfl
          have b2 := (block_at HBX2.out 2).trans rfl
          have HOB := hide hown
          have HTP := hide (Nm.tgt_ptgt x f e.name l)
          have HPT := hide (fun h => Nm.ptgt_okT (x := x) (k := f) (call := e.name) (known := l) h)
          obtain ⟨⟨T1, T2, T3⟩, hT⟩ : ∃ T, T = Nm.tgt x f e.name l := ⟨_, rfl⟩
          rw [← hT] at HTG HTP
          obtain ⟨PT, hPT⟩ : ∃ T, T = Nm.ptgt x f e.name l := ⟨_, rfl⟩
          rw [← hPT] at HRV HPT HTP
          clear hT hPT hmo hvl hla hle hnl hnf hown hWb
          replace p0 := cell_gn p0
          replace p1 := cell_gn p1
          replace p2 := cell_gn p2
          replace p3 := cell_gn p3
          replace p4 := cell_gn p4
          replace b2 := cell_gn b2
          replace d0 := cell_gn d0
          refine wp_region_quiet_gn (by kernel_rfl) (by kernel_rfl) ?_
          repeat (quiet_step ((exact Calls.gn_of (HTG.out _ _))))
          refine wpQuiet_nil ?_
          intro w5 hw'
          obtain ⟨⟨nq, osq⟩, hw''⟩ := hw'
          have HB5 := hide (show Below w2.heap.size w2 w5 by rw [hw'']; exact below_gn w2 nq osq)
          clear hw'' p0 p1 p2 p3 p4 b2 d0 HTG
          have HR5 := hide (HR2.out.box HB5.out)
          have HK5 := hide (HK2.out.trans (Kq.of_below HB5.out HR2.out.dm.nle))
          have HOW5 := hide (own_below HOW2.out HB5.out)
          have HOB5 := hide (at_upD HOB.out HB5.out)
          cases T3 with
          | false =>
            as_aux_lemma =>
              have HRW : Hid (R = (0, 4, s1)) := hide (by rw [HRV.out, if_pos (by rw [← HTP.out.1])])
              go_wp2_with fail
              go_ret2
              exact ⟨by rw [HRW.out]; rfl, hide (by rw [HRW.out]; exact ⟨⟨vp', vd', D', HR5.out.dm, HR5.out.dk, HK5.out⟩, by unfold I64; omega⟩)⟩
          | true =>
            have hpt := HTP.out.2 rfl
            subst hpt
            rw [if_neg (by simp)] at HRV
            rcases HPT.out rfl with ⟨hT1, i, hT2, hif⟩ | ⟨a', i, y, hT1, hT2, hy, hif, hfst⟩
            · as_aux_lemma =>
                simp only at hT1 hT2 HRV
                subst hT1 hT2
                have HC := hide (HCC.out w5 s1 vp' vd' D' a x i us (.slice ua na uc) _ _ _ HR5.out.bel HR5.out.dm HR5.out.dk HR5.out.hx (Nat.lt_trans hif HR5.out.hf) HR5.out.pos HR5.out.xsz HMO.out (OwnI.ints HOW5.out (by rw [HVN.out]; omega)) HIU.out (by rw [HVN.out]; exact hna4) (by rw [HS1.out]; exact HFK.out))
                have HVE : Hid (R = Rn.enter F l a i us s1) := hide (by rw [HRV.out]; simp)
                rw [← HVE.out] at HC
                have p0 := (block_at HOB5.out 0).trans rfl
                have p1 := (block_at HOB5.out 1).trans rfl
                have p2 := (block_at HOB5.out 2).trans rfl
                have p3 := (block_at HOB5.out 3).trans rfl
                clear hif
                go_wp2_with fail
                refine HC.out.mono ?_
                rintro r w6 ⟨rfl, HM6⟩
                clear p0 p1 p2 p3
                go_wp2_with fail
                go_ret2
                refine ⟨rfl, hide ⟨?_, HM6.out.2⟩⟩
                obtain ⟨vp6, vd6, D6, h1, h2, h3⟩ := HM6.out.1
                exact ⟨vp6, vd6, D6, h1, h2, HK5.out.trans h3⟩
            · as_aux_lemma =>
                simp only at hT1 hT2 HRV
                subst hT1 hT2
                obtain ⟨hsz, hpos⟩ := HGG.out a' y hy hfst
                obtain ⟨yi, yv, yf, g0, g1, g2, g3, hymo⟩ := HLE.out a' y hy
                have hal : a' < nl := by rw [HNL.out]; exact (List.getElem?_eq_some_iff.1 hy).1
                obtain rfl := HLA.out (by omega)
                have HC := hide (HCC.out w5 s1 vp' vd' D' a' y i us (.slice ua na uc) _ _ _ HR5.out.bel HR5.out.dm HR5.out.dk hy hif hpos hsz hymo (OwnI.ints HOW5.out (by rw [HVN.out]; omega)) HIU.out (by rw [HVN.out]; exact hna4) (by rw [HS1.out]; exact HFK.out))
                have HVE : Hid (R = Rn.enter F l a' i us s1) := hide (by rw [HRV.out, if_neg (by omega)]; simp)
                rw [← HVE.out] at HC
                obtain ⟨bi1, bi2, bi3, bi4, rfl, -⟩ := hymo.split.1
                obtain ⟨bv1, bv2, bv3, bv4, rfl, -⟩ := hymo.split.2.1
                obtain ⟨bf1, bf2, bf3, bf4, rfl, -⟩ := hymo.split.2.2
                generalize y.imports.length = yni at *
                generalize y.vars.length = ynv at *
                generalize y.funs.length = ynf at *
                obtain ⟨d0, -⟩ := HR5.out.dm.cell
                rw [HVL.out] at d0
                replace g0 := cellUp g0 HR5.out.bel
                replace g1 := cellUp g1 HR5.out.bel
                replace g2 := cellUp g2 HR5.out.bel
                replace g3 := cellUp g3 HR5.out.bel
                have hai : (a' : Int) < (nl : Int) := by omega
                have han : ((a' : Int) < 0) = False := eq_false (by omega)
                clear hif hfst hy hymo hpos hsz
                go_wp2_with fail
                refine HC.out.mono ?_
                rintro r w6 ⟨rfl, HM6⟩
                clear g0 g1 g2 g3 d0
                go_wp2_with fail
                go_ret2
                refine ⟨rfl, hide ⟨?_, HM6.out.2⟩⟩
                obtain ⟨vp6, vd6, D6, h1, h2, h3⟩ := HM6.out.1
                exact ⟨vp6, vd6, D6, h1, h2, HK5.out.trans h3⟩
      · as_aux_lemma =>
          have k3' : (e.kind == 3) = true := by rcases HKD.out with h | h; simp [h.1]; exact absurd h k4
          rw [if_neg k4] at HRE
          have HOP : Hid (Lat.opB e.name = true) := hide (by rcases HKD.out with h | h; exact h.2.2; exact absurd h k4)
          have hn2 : na = 2 := by rcases HKD.out with h | h; exact h.2.1; exact absurd h k4
          clear k4
          obtain ⟨v0, v1, hvs⟩ : ∃ v0 v1, us = [v0, v1] := by
            have := HVN.out
            rw [hn2] at this
            match us, this with
            | [v0, v1], _ => exact ⟨v0, v1, rfl⟩
          obtain ⟨va2, vb2, vo2, vc2, hve, hva, -, hvc⟩ := OwnI.ints HI.out.2.2.2.1 (by rw [HVN.out]; omega)
          injection hve with e1 e2 e3
          subst e1 e3
          have y0 := hvc 0 v0 (by rw [hvs]; rfl)
          rw [Nat.add_zero] at y0
          have y1 := hvc 1 v1 (by rw [hvs]; rfl)
          obtain rfl := hva (by rw [hvs]; simp)
          have HRV : Hid (R = (Rn.ap e.name v0 v1, 0, s')) := hide (by rw [HRE.out, hvs]; rfl)
          have HAF : Hid (AfE w wo c nm vp vd s') := hide ⟨vp', vd', D', HI.out.1.dm, HI.out.1.dk, HI.out.2.1⟩
          subst hn2
          clear e2 hva hvc hvs HRE HEE2
          rcases opB_cases HOP.out with hop | hop | hop | hop | hop
          · as_aux_lemma =>
              have h43 : (e.name.toList == [43]) = true := by rw [hop]; rfl
              have h45 : (e.name.toList == [45]) = false := by rw [hop]; rfl
              have h42 : (e.name.toList == [42]) = false := by rw [hop]; rfl
              have h60 : (e.name.toList == [60]) = false := by rw [hop]; rfl
              have h61 : (e.name.toList == [61]) = false := by rw [hop]; rfl
              have HAP : Hid (Rn.ap e.name v0 v1 = IntKind.i64.wrap (v0 + v1)) := hide (by rw [IntWalk.i64_left]; unfold Rn.ap; simp [h43])
              clear hop
              replace b2 := cell_gn b2
              replace y0 := cell_gn y0
              replace y1 := cell_gn y1
              go_wp2_with fail
              refine wp_region_quiet_gn (by kernel_rfl) (by kernel_rfl) ?_
              repeat (with_reducible (refine wpQuiet_step (fun KQ hKQ => ?_)); go_simp; first | (with_reducible (refine hKQ _ ?_); clear hKQ KQ) | (rw [if_neg (by simp [undef])]; with_reducible (refine hKQ _ ?_); clear hKQ KQ))
              with_reducible (refine wpQuiet_nil ?_)
              intro w6 hw'
              obtain ⟨⟨nq, osq⟩, hw''⟩ := hw'
              have HB6 := hide (show Below wo.heap.size wo w6 by rw [hw'']; exact below_gn wo nq osq)
              have z2 := b2 nq osq
              have z0 := y0 nq osq
              have z1 := y1 nq osq
              rw [← hw''] at z0 z1 z2
              clear hw'' b2 y0 y1
              replace z0 := cell_gn z0
              replace z1 := cell_gn z1
              go_wp2_with fail
              refine wp_region_quiet_gn (by kernel_rfl) (by kernel_rfl) ?_
              repeat (with_reducible (refine wpQuiet_step (fun KQ hKQ => ?_)); go_simp; first | (with_reducible (refine hKQ _ ?_); clear hKQ KQ) | (rw [if_neg (by simp [undef])]; with_reducible (refine hKQ _ ?_); clear hKQ KQ))
              with_reducible (refine wpQuiet_nil ?_)
              intro w8 hw'
              obtain ⟨⟨nq8, osq8⟩, hw''⟩ := hw'
              have HB8 := hide (show Below w6.heap.size w6 w8 by rw [hw'']; exact below_gn w6 nq8 osq8)
              clear hw'' z0 z1
              go_wp2_with fail
              go_ret2
              exact ⟨by rw [HRV.out, HAP.out]; rfl, hide (by rw [HRV.out]; exact ⟨(HAF.out.box HB6.out).box HB8.out, ap_I64 _ _ _⟩)⟩
          · as_aux_lemma =>
              have h43 : (e.name.toList == [43]) = false := by rw [hop]; rfl
              have h45 : (e.name.toList == [45]) = true := by rw [hop]; rfl
              have h42 : (e.name.toList == [42]) = false := by rw [hop]; rfl
              have h60 : (e.name.toList == [60]) = false := by rw [hop]; rfl
              have h61 : (e.name.toList == [61]) = false := by rw [hop]; rfl
              have HAP : Hid (Rn.ap e.name v0 v1 = IntKind.i64.wrap (v0 - v1)) := hide (by rw [IntWalk.i64_left]; unfold Rn.ap; simp [h43, h45])
              clear hop
              replace b2 := cell_gn b2
              replace y0 := cell_gn y0
              replace y1 := cell_gn y1
              go_wp2_with fail
              refine wp_region_quiet_gn (by kernel_rfl) (by kernel_rfl) ?_
              repeat (with_reducible (refine wpQuiet_step (fun KQ hKQ => ?_)); go_simp; first | (with_reducible (refine hKQ _ ?_); clear hKQ KQ) | (rw [if_neg (by simp [undef])]; with_reducible (refine hKQ _ ?_); clear hKQ KQ))
              with_reducible (refine wpQuiet_nil ?_)
              intro w6 hw'
              obtain ⟨⟨nq, osq⟩, hw''⟩ := hw'
              have HB6 := hide (show Below wo.heap.size wo w6 by rw [hw'']; exact below_gn wo nq osq)
              have z2 := b2 nq osq
              have z0 := y0 nq osq
              have z1 := y1 nq osq
              rw [← hw''] at z0 z1 z2
              clear hw'' b2 y0 y1
              replace z0 := cell_gn z0
              replace z1 := cell_gn z1
              go_wp2_with fail
              refine wp_region_quiet_gn (by kernel_rfl) (by kernel_rfl) ?_
              repeat (with_reducible (refine wpQuiet_step (fun KQ hKQ => ?_)); go_simp; first | (with_reducible (refine hKQ _ ?_); clear hKQ KQ) | (rw [if_neg (by simp [undef])]; with_reducible (refine hKQ _ ?_); clear hKQ KQ))
              with_reducible (refine wpQuiet_nil ?_)
              intro w8 hw'
              obtain ⟨⟨nq8, osq8⟩, hw''⟩ := hw'
              have HB8 := hide (show Below w6.heap.size w6 w8 by rw [hw'']; exact below_gn w6 nq8 osq8)
              clear hw'' z0 z1
              go_wp2_with fail
              go_ret2
              exact ⟨by rw [HRV.out, HAP.out]; rfl, hide (by rw [HRV.out]; exact ⟨(HAF.out.box HB6.out).box HB8.out, ap_I64 _ _ _⟩)⟩
          · as_aux_lemma =>
              have h43 : (e.name.toList == [43]) = false := by rw [hop]; rfl
              have h45 : (e.name.toList == [45]) = false := by rw [hop]; rfl
              have h42 : (e.name.toList == [42]) = true := by rw [hop]; rfl
              have h60 : (e.name.toList == [60]) = false := by rw [hop]; rfl
              have h61 : (e.name.toList == [61]) = false := by rw [hop]; rfl
              have HAP : Hid (Rn.ap e.name v0 v1 = IntKind.i64.wrap (v0 * v1)) := hide (by rw [IntWalk.i64_left]; unfold Rn.ap; simp [h43, h45, h42])
              clear hop
              replace b2 := cell_gn b2
              replace y0 := cell_gn y0
              replace y1 := cell_gn y1
              go_wp2_with fail
              refine wp_region_quiet_gn (by kernel_rfl) (by kernel_rfl) ?_
              repeat (with_reducible (refine wpQuiet_step (fun KQ hKQ => ?_)); go_simp; first | (with_reducible (refine hKQ _ ?_); clear hKQ KQ) | (rw [if_neg (by simp [undef])]; with_reducible (refine hKQ _ ?_); clear hKQ KQ))
              with_reducible (refine wpQuiet_nil ?_)
              intro w6 hw'
              obtain ⟨⟨nq, osq⟩, hw''⟩ := hw'
              have HB6 := hide (show Below wo.heap.size wo w6 by rw [hw'']; exact below_gn wo nq osq)
              have z2 := b2 nq osq
              have z0 := y0 nq osq
              have z1 := y1 nq osq
              rw [← hw''] at z0 z1 z2
              clear hw'' b2 y0 y1
              replace z0 := cell_gn z0
              replace z1 := cell_gn z1
              go_wp2_with fail
              refine wp_region_quiet_gn (by kernel_rfl) (by kernel_rfl) ?_
              repeat (with_reducible (refine wpQuiet_step (fun KQ hKQ => ?_)); go_simp; first | (with_reducible (refine hKQ _ ?_); clear hKQ KQ) | (rw [if_neg (by simp [undef])]; with_reducible (refine hKQ _ ?_); clear hKQ KQ))
              with_reducible (refine wpQuiet_nil ?_)
              intro w8 hw'
              obtain ⟨⟨nq8, osq8⟩, hw''⟩ := hw'
              have HB8 := hide (show Below w6.heap.size w6 w8 by rw [hw'']; exact below_gn w6 nq8 osq8)
              clear hw'' z0 z1
              go_wp2_with fail
              go_ret2
              exact ⟨by rw [HRV.out, HAP.out]; rfl, hide (by rw [HRV.out]; exact ⟨(HAF.out.box HB6.out).box HB8.out, ap_I64 _ _ _⟩)⟩
          · as_aux_lemma =>
              have h43 : (e.name.toList == [43]) = false := by rw [hop]; rfl
              have h45 : (e.name.toList == [45]) = false := by rw [hop]; rfl
              have h42 : (e.name.toList == [42]) = false := by rw [hop]; rfl
              have h60 : (e.name.toList == [60]) = true := by rw [hop]; rfl
              have h61 : (e.name.toList == [61]) = false := by rw [hop]; rfl
              by_cases hcc : ¬ v0 < v1
              · have hcm : (decide (v0 < v1)) = false := by simp [hcc]
                have hcp : (v0 < v1) = False := eq_false hcc
                have HAP : Hid (Rn.ap e.name v0 v1 = 0) := hide (by unfold Rn.ap Rn.tr; rw [h43, h45, h42, h60, hcm]; rfl)
                clear hop hcc
                replace b2 := cell_gn b2
                replace y0 := cell_gn y0
                replace y1 := cell_gn y1
                go_wp2_with fail
                refine wp_region_quiet_gn (by kernel_rfl) (by kernel_rfl) ?_
                repeat (with_reducible (refine wpQuiet_step (fun KQ hKQ => ?_)); go_simp; first | (with_reducible (refine hKQ _ ?_); clear hKQ KQ) | (rw [if_neg (by simp [undef])]; with_reducible (refine hKQ _ ?_); clear hKQ KQ))
                with_reducible (refine wpQuiet_nil ?_)
                intro w6 hw'
                obtain ⟨⟨nq, osq⟩, hw''⟩ := hw'
                have HB6 := hide (show Below wo.heap.size wo w6 by rw [hw'']; exact below_gn wo nq osq)
                have z2 := b2 nq osq
                have z0 := y0 nq osq
                have z1 := y1 nq osq
                rw [← hw''] at z0 z1 z2
                clear hw'' b2 y0 y1
                go_wp2_with fail
                go_ret2
                exact ⟨by rw [HRV.out, HAP.out]; rfl, hide (by rw [HRV.out]; exact ⟨HAF.out.box HB6.out, ap_I64 _ _ _⟩)⟩
              · have hcm : (decide (v0 < v1)) = true := by simp at hcc; simp [hcc]
                have hcp : (v0 < v1) = True := eq_true (by simpa using hcc)
                have HAP : Hid (Rn.ap e.name v0 v1 = 1) := hide (by unfold Rn.ap Rn.tr; rw [h43, h45, h42, h60, hcm]; rfl)
                clear hop hcc
                replace b2 := cell_gn b2
                replace y0 := cell_gn y0
                replace y1 := cell_gn y1
                go_wp2_with fail
                refine wp_region_quiet_gn (by kernel_rfl) (by kernel_rfl) ?_
                repeat (with_reducible (refine wpQuiet_step (fun KQ hKQ => ?_)); go_simp; first | (with_reducible (refine hKQ _ ?_); clear hKQ KQ) | (rw [if_neg (by simp [undef])]; with_reducible (refine hKQ _ ?_); clear hKQ KQ))
                with_reducible (refine wpQuiet_nil ?_)
                intro w6 hw'
                obtain ⟨⟨nq, osq⟩, hw''⟩ := hw'
                have HB6 := hide (show Below wo.heap.size wo w6 by rw [hw'']; exact below_gn wo nq osq)
                have z2 := b2 nq osq
                have z0 := y0 nq osq
                have z1 := y1 nq osq
                rw [← hw''] at z0 z1 z2
                clear hw'' b2 y0 y1
                go_wp2_with fail
                go_ret2
                exact ⟨by rw [HRV.out, HAP.out]; rfl, hide (by rw [HRV.out]; exact ⟨HAF.out.box HB6.out, ap_I64 _ _ _⟩)⟩
          · as_aux_lemma =>
              have h43 : (e.name.toList == [43]) = false := by rw [hop]; rfl
              have h45 : (e.name.toList == [45]) = false := by rw [hop]; rfl
              have h42 : (e.name.toList == [42]) = false := by rw [hop]; rfl
              have h60 : (e.name.toList == [60]) = false := by rw [hop]; rfl
              have h61 : (e.name.toList == [61]) = true := by rw [hop]; rfl
              by_cases hcc : ¬ v0 = v1
              · have hcm : (v0 == v1) = false := by simp [hcc]
                have hcp : (v0 = v1) = False := eq_false hcc
                have HAP : Hid (Rn.ap e.name v0 v1 = 0) := hide (by unfold Rn.ap Rn.tr; rw [h43, h45, h42, h60, hcm]; rfl)
                clear hop hcc
                replace b2 := cell_gn b2
                replace y0 := cell_gn y0
                replace y1 := cell_gn y1
                go_wp2_with fail
                refine wp_region_quiet_gn (by kernel_rfl) (by kernel_rfl) ?_
                repeat (with_reducible (refine wpQuiet_step (fun KQ hKQ => ?_)); go_simp; first | (with_reducible (refine hKQ _ ?_); clear hKQ KQ) | (rw [if_neg (by simp [undef])]; with_reducible (refine hKQ _ ?_); clear hKQ KQ))
                with_reducible (refine wpQuiet_nil ?_)
                intro w6 hw'
                obtain ⟨⟨nq, osq⟩, hw''⟩ := hw'
                have HB6 := hide (show Below wo.heap.size wo w6 by rw [hw'']; exact below_gn wo nq osq)
                have z2 := b2 nq osq
                have z0 := y0 nq osq
                have z1 := y1 nq osq
                rw [← hw''] at z0 z1 z2
                clear hw'' b2 y0 y1
                go_wp2_with fail
                go_ret2
                exact ⟨by rw [HRV.out, HAP.out]; rfl, hide (by rw [HRV.out]; exact ⟨HAF.out.box HB6.out, ap_I64 _ _ _⟩)⟩
              · have hcm : (v0 == v1) = true := by simp at hcc; simp [hcc]
                have hcp : (v0 = v1) = True := eq_true (by simpa using hcc)
                have HAP : Hid (Rn.ap e.name v0 v1 = 1) := hide (by unfold Rn.ap Rn.tr; rw [h43, h45, h42, h60, hcm]; rfl)
                clear hop hcc
                replace b2 := cell_gn b2
                replace y0 := cell_gn y0
                replace y1 := cell_gn y1
                go_wp2_with fail
                refine wp_region_quiet_gn (by kernel_rfl) (by kernel_rfl) ?_
                repeat (with_reducible (refine wpQuiet_step (fun KQ hKQ => ?_)); go_simp; first | (with_reducible (refine hKQ _ ?_); clear hKQ KQ) | (rw [if_neg (by simp [undef])]; with_reducible (refine hKQ _ ?_); clear hKQ KQ))
                with_reducible (refine wpQuiet_nil ?_)
                intro w6 hw'
                obtain ⟨⟨nq, osq⟩, hw''⟩ := hw'
                have HB6 := hide (show Below wo.heap.size wo w6 by rw [hw'']; exact below_gn wo nq osq)
                have z2 := b2 nq osq
                have z0 := y0 nq osq
                have z1 := y1 nq osq
                rw [← hw''] at z0 z1 z2
                clear hw'' b2 y0 y1
                go_wp2_with fail
                go_ret2
                exact ⟨by rw [HRV.out, HAP.out]; rfl, hide (by rw [HRV.out]; exact ⟨HAF.out.box HB6.out, ap_I64 _ _ _⟩)⟩
end Go.Proofs.YtholefgckcoklaaGreatDoor
