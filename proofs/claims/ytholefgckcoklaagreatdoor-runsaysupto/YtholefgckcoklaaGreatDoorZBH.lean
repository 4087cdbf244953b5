/- Walks over package run: add, whole. -/
import Derived.Test.YtholefgckcoklaaGreatDoorZBG
import Derived.Deep.Cut
import Derived.Test.YtholefgckcoklaaGreatDoorZAX
import Derived.Test.YtholefgckcoklaaGreatDoorZAZ
import Derived.Test.YtholefgckcoklaaGreatDoorZBC
namespace Go.Proofs.YtholefgckcoklaaGreatDoor
open Go.RowKit Go.Maps
theorem Mk.keep5 {w w5 : World} {c : Cfg} {nm : List (ByteArray × ByteArray)} {s : Rn.Sta} {ob : Obj} (h : Mk w c nm s) (hg : (w.alloc ob).grownBy w5 c.vv.ownBlock) {k : Nat} {cs : Array Value} {t : TypeId} {fz : Nat × Nat} (ho : w.heap[k]? = some (.cells cs t fz)) (ht : t ≠ 237) : w5.heap[k]? = some (.cells cs t fz) := by
  rw [hg.block k (by have := block_lt ho; have := (boxBelow w ob).size; omega) (fun e => by
    obtain ⟨cur, hc⟩ := h.vv.typ e.symm
    rw [ho] at hc
    injection hc with hc
    injection hc with _ hc
    exact ht hc)]
  exact block_alloc ho ob
theorem Mk.up {w w5 : World} {c : Cfg} {nm : List (ByteArray × ByteArray)} {s : Rn.Sta} {ob : Obj} {x y : ByteArray} (h : Mk w c nm s) (hg : (w.alloc ob).grownBy w5 c.vv.ownBlock) (hx : x.size ≤ maxLen) (hy : y.size ≤ maxLen) (hp : Rn.pos nm x y = none) (v5 : Value) (Bv : Nat) :
    ∃ w7, (Instr.mapUpdate 224 (.map (some c.mp)) (.agg #[.string x, .string y]) (.pointer (some ⟨Bv, 0, none⟩))).run Tryz.prog (w5.setCell ⟨c.p, 1, none⟩ v5).drew = .ok () w7 := by
  obtain ⟨es, cl, he⟩ := h.ma.map.isMap
  have hmp : c.mp ≠ c.p := fun e => by rw [e, h.mach] at he; cases he
  have he5 : w5.heap[c.mp]? = some (.map es cl) := by
    rw [hg.block c.mp (by have := block_lt he; have := (boxBelow w ob).size; omega) (fun e => by
      obtain ⟨cur, hc⟩ := h.vv.typ e.symm
      rw [he] at hc
      cases hc)]
    exact block_alloc he ob
  have he6 : (w5.setCell ⟨c.p, 1, none⟩ v5).drew.heap[c.mp]? = some (.map es cl) := block_other he5 hmp v5
  have hpl : PlM (w5.setCell ⟨c.p, 1, none⟩ v5).drew c.mp c.e nm c.bs := h.ma.map.same (by rw [he6, he])
  obtain ⟨w7, e7, _⟩ := hpl.put h.ma.lenb (by have := h.e; have := h.small; unfold maxLen; omega) hx hy hp Bv
  exact ⟨w7, e7⟩
set_option maxHeartbeats 4000000 in
set_option maxRecDepth 100000 in
theorem add_any (w : World) (c : Cfg) (nm : List (ByteArray × ByteArray)) (s : Rn.Sta) (h : Mk w c nm s) (vs : Value) (store : List Ce) (hS : CesAt w vs store) (x y : ByteArray) (hx : x.size ≤ maxLen) (hy : y.size ≤ maxLen) (hs : nm.length + 1 ≤ 1048576) (hn : c.n ≤ w.heap.size) :
    Calls Tryz.prog 145 #[.pointer (some ⟨c.p, 0, none⟩), .agg #[.string x, .string y], vs] w fun e w' => e = .returned (.tuple #[]) ∧ Hid (∃ c' : Cfg, c'.n = c.n ∧ c'.p = c.p ∧ c'.vl = c.vl ∧ c'.mp = c.mp ∧ Mk w' c' (Rn.addN nm x y) { s with vs := Rn.addV store nm s.vs x y } ∧ Below c.n w w' ∧ ∀ {k : Nat} {cs : Array Value} {t : TypeId} {fz : Nat × Nat}, w.heap[k]? = some (.cells cs t fz) → t ≠ 237 → t ≠ 227 → w'.heap[k]? = some (.cells cs t fz)) := by
  have HB0 := hide (boxBelow w (.cells #[.string x, .string y] 230))
  have HPB := hide (block_new w (.cells #[.string x, .string y] 230))
  have HMK := hide (h.below HB0.out)
  have HCN := hide hn
  have HSZ := hide hs
  have HST := hide hS
  have HX := hide hx
  have HY := hide hy
  have L2 : ∀ k, (Instr.lookup 224 (.map (some c.mp)) (.agg #[.string x, .string y]) false).run Tryz.prog ((w.alloc (.cells #[.string x, .string y] 230)).drewN k) = .ok (ptrOf c.bs (Rn.pos nm x y)) ((w.alloc (.cells #[.string x, .string y] 230)).drewN k) := fun k => (HMK.out.ma.map.same (w' := (w.alloc (.cells #[.string x, .string y] 230)).drewN k) rfl).look hx hy
  have m2 := (block_at HMK.out.mach 2).trans rfl
  have p0 := (block_at HPB.out 0).trans rfl
  have p1 := (block_at HPB.out 1).trans rfl
  obtain ⟨B, hBw⟩ : ∃ b, b = w.heap.size := ⟨_, rfl⟩
  have HBW := hide hBw
  clear h hS hx hy hs hn
  cases hp : Rn.pos nm x y with
  | some i =>
    have HV : Hid (Rn.addN nm x y = nm ∧ Rn.addV store nm s.vs x y = s.vs) := hide ⟨by simp [Rn.addN, hp], by simp [Rn.addV, hp]⟩
    simp only [hp, ptrOf] at L2
    clear hp hBw
    go_enter Tryz.func145, Tryz.ntmps145
    go_wp2_with fail
    go_quiet (fail)
    go_wp2_with fail
    refine bodyPost_ret (results_none rfl _ _ _) rfl ?_
    refine ⟨rfl, hide ⟨c, rfl, rfl, rfl, rfl, ?_, ?_, fun ho _ _ => block_alloc ho _⟩⟩
    · rw [HV.out.1, HV.out.2]
      exact HMK.out.below (below_drew (Below.refl _ _))
    · exact drewBelow (HB0.out.mono HCN.out) _
  | none =>
    have HPN := hide hp
    have HV : Hid (Rn.addN nm x y = nm ++ [(x, y)] ∧ Rn.addV store nm s.vs x y = s.vs ++ [⟨Rn.val0 store x y, false, false⟩]) := hide ⟨by simp [Rn.addN, hp], by simp [Rn.addV, hp]⟩
    simp only [hp, ptrOf] at L2
    clear hp
    go_enter Tryz.func145, Tryz.ntmps145
    go_wp2_with fail
    go_quiet (fail)
    have HM1 := hide (HMK.out.below (w' := (w.alloc (.cells #[.string x, .string y] 230)).drewN nq) (below_drew (Below.refl _ _)))
    have HB1 : Hid (Below w.heap.size w ((w.alloc (.cells #[.string x, .string y] 230)).drewN nq)) := hide (drewBelow HB0.out _)
    have HPB1 : Hid (((w.alloc (.cells #[.string x, .string y] 230)).drewN nq).heap[B]? = some (.cells #[.string x, .string y] 230 (0, 0))) := hide (by rw [hBw]; exact HPB.out)
    rw [← hBw]
    generalize (w.alloc (.cells #[.string x, .string y] 230)).drewN nq = W1 at *
    clear m2 p0 p1 L2 hBw HPB HMK HB0
    have p0 := (block_at HPB1.out 0).trans rfl
    have p1 := (block_at HPB1.out 1).trans rfl
    have HB2 := hide (boxBelow W1 (.cells #[.string x, .string y, .int .i64 0, .bool false, .bool false] 239))
    have HBV2 := hide (block_new W1 (.cells #[.string x, .string y, .int .i64 0, .bool false, .bool false] 239))
    have HC := hide (ixCe_any _ vs store x y B (HST.out.below (up HB1.out HB2.out)) (cellUp p0 HB2.out) (cellUp p1 HB2.out))
    go_wp2_with fail
    obtain ⟨Bv, hBv⟩ : ∃ b, b = W1.heap.size := ⟨_, rfl⟩
    have HBVE := hide hBv
    rw [← hBv] at HBV2 ⊢
    clear hBv
    cases hc : Rn.ceAt store x y with
    | none =>
      rw [hc] at HC
      have HC' : Hid (Calls Tryz.prog 201 #[vs, .func (.func 202) #[] #[.pointer (some ⟨B, 0, none⟩)]] (W1.alloc (.cells #[.string x, .string y, .int .i64 0, .bool false, .bool false] 239)) fun e w' => e = .returned (.int .i64 (-1)) ∧ Below (W1.alloc (.cells #[.string x, .string y, .int .i64 0, .bool false, .bool false] 239)).heap.size (W1.alloc (.cells #[.string x, .string y, .int .i64 0, .bool false, .bool false] 239)) w') := HC
      have HVAL : Hid (Rn.val0 store x y = 0) := hide (by simp [Rn.val0, hc])
      have HVI : Hid (I64 0) := hide (by unfold I64; omega)
      clear hc HC
      refine HC'.out.mono ?_
      rintro e w4 ⟨rfl, hb4⟩
      have HB4 := hide (up HB2.out hb4)
      have HM4 := hide (HM1.out.below HB4.out)
      have HBV4 : Hid (w4.heap[Bv]? = some (.cells #[.string x, .string y, .int .i64 0, .bool false, .bool false] 239 (0, 0))) := hide (by rw [hb4.block Bv (block_lt HBV2.out)]; exact HBV2.out)
      have HPB4 : Hid (w4.heap[B]? = some (.cells #[.string x, .string y] 230 (0, 0))) := hide (by rw [HB4.out.block B (block_lt HPB1.out)]; exact HPB1.out)
      clear hb4 p0 p1 HC' HB2 HBV2
      have HBB : Hid (Bv ∉ c.bs) := hide (fun hb => by
        obtain ⟨i, hi, e⟩ := List.mem_iff_getElem.1 hb
        obtain ⟨b', z, u, k1, k2, k3, _, k4, _⟩ := HM1.out.ma.at (i := i) (by rw [← HM1.out.ma.lenb]; exact hi)
        rw [List.getElem?_eq_getElem hi, e] at k1
        cases k1
        have := block_lt k4
        have := HBVE.out
        omega)
      have HBVN : Hid (c.n ≤ Bv) := hide (by have h1 := HCN.out; have h2 := HB1.out.size; have h3 := HBVE.out; omega)
      have HN4 : Hid (c.n ≤ w4.heap.size) := hide (Nat.le_trans HCN.out (up HB1.out HB4.out).size)
      have m1 := (block_at HM4.out.mach 1).trans rfl
      obtain ⟨va, vc, hvv⟩ := HM4.out.vv.form
      have HVVE := hide hvv
      have HVV : Hid (OwnK PtC w4 c.n 237 1 (.slice va c.bs.length vc) c.bs) := hide (by have h1 := HM4.out.vv; rw [hvv] at h1; exact h1)
      rw [hvv] at m1
      have HLB : Hid (c.bs.length ≤ 1048576) := hide (by rw [HM4.out.ma.lenb]; exact HM4.out.small)
      have hlb := HLB.out
      clear hvv
      go_wp2_with (first
        | (at_builtin; refine wpList_append_K (At := PtC) rfl _ _ 225 237 1 8 _ rfl Tryz.underlying225 infoPt (by decide) (by decide) (by decide) c.n _ _ rfl (HVV.out.below (boxBelow _ _)) _ _ [Bv] rfl (OwnK.one _ _ rfl (PtC.one (b := Bv) rfl) rfl) (by simp only [List.length_singleton]; omega) (Nat.le_trans HN4.out (boxBelow _ _).size) ?_; intro v6 w6 hown6 hgrow6; obtain ⟨a6, c6, hv6⟩ := hown6.form; subst hv6; have HO6 := hide hown6; have HG6 : Hid ((w4.alloc (.cells #[.pointer (some ⟨Bv, 0, none⟩)] 237)).grownBy w6 c.vv.ownBlock) := hide (by rw [HVVE.out]; exact hgrow6); have hm6 := HM4.out.keep5 HG6.out HM4.out.mach (by decide); have HM6 := hide hm6; have u1 := (block_at hm6 1).trans rfl; have zf := block_free hm6 1; clear hown6 hgrow6 hm6 m1)
        | fail)
      rw [show (c.bs ++ [Bv]).length = c.bs.length + 1 from by simp] at HO6
      obtain ⟨nb, hnb⟩ : ∃ n, n = c.bs.length + 1 := ⟨_, rfl⟩
      rw [← hnb] at HO6 ⊢
      obtain ⟨w7, L7⟩ := HM4.out.up HG6.out HX.out HY.out HPN.out (.slice a6 nb c6) Bv
      have HL7 := hide L7
      have hs6 := block_set HM6.out 1 (.slice a6 nb c6)
      have hne : B ≠ c.p := fun e => by
        have h1 := HPB4.out
        rw [e, HM4.out.mach] at h1
        injection h1 with h1
        injection h1 with _ h1
        exact absurd h1 (by decide)
      have hpb6 := block_other (a := ⟨c.p, 1, none⟩) (HM4.out.keep5 HG6.out HPB4.out (by decide)) hne (.slice a6 nb c6)
      have s2 := (block_at hs6 2).trans rfl
      have t0 := (block_at hpb6 0).trans rfl
      have t1 := (block_at hpb6 1).trans rfl
      clear hs6 hne hpb6 u1 zf hnb
      go_region_law (fail)
      all_goals
        go_wp2_with fail
        go_end0
        refine ⟨rfl, hide ?_⟩
        obtain ⟨e', hmk, hbel, hck⟩ := HM4.out.more HX.out HY.out HPN.out HVI.out HN4.out HSZ.out HBV4.out HBVN.out HBB.out HO6.out HG6.out HL7.out
        refine ⟨{ c with vv := .slice a6 nb c6, e := e', bs := c.bs ++ [Bv] }, rfl, rfl, rfl, rfl, ?_, ((up HB1.out HB4.out).mono HCN.out).trans hbel, fun ho h1 h2 => hck (by rw [(up HB1.out HB4.out).block _ (block_lt ho)]; exact ho) h1 h2⟩
        rw [HV.out.1, HV.out.2, HVAL.out]
        exact hmk
    | some i =>
      obtain ⟨ce, hce⟩ : ∃ ce, store[i]? = some ce := ⟨_, List.getElem?_eq_getElem (List.mem_range.1 (List.mem_of_find?_eq_some hc))⟩
      rw [hc] at HC
      have HC' : Hid (Calls Tryz.prog 201 #[vs, .func (.func 202) #[] #[.pointer (some ⟨B, 0, none⟩)]] (W1.alloc (.cells #[.string x, .string y, .int .i64 0, .bool false, .bool false] 239)) fun e w' => e = .returned (.int .i64 (i : Int)) ∧ Below (W1.alloc (.cells #[.string x, .string y, .int .i64 0, .bool false, .bool false] 239)).heap.size (W1.alloc (.cells #[.string x, .string y, .int .i64 0, .bool false, .bool false] 239)) w') := HC
      have HVAL : Hid (Rn.val0 store x y = ce.val) := hide (by simp [Rn.val0, hc, hce])
      obtain ⟨sa, sb, so, scap, rfl, hsa, hsl, hse⟩ := HST.out
      obtain ⟨hvi, -, -, g2⟩ := hse i ce hce
      have HVI := hide hvi
      have hil : i < store.length := (List.getElem?_eq_some_iff.1 hce).1
      obtain rfl := hsa (by omega)
      obtain ⟨ns, hns⟩ : ∃ n, n = store.length := ⟨_, rfl⟩
      rw [← hns] at HC' hil hsl ⊢
      have HG2 := hide g2
      clear hc HC hse hce hvi g2 hns hsa
      refine HC'.out.mono ?_
      rintro e w3 ⟨rfl, hb3⟩
      have HB3 := hide (up HB2.out hb3)
      have g2 := cellUp HG2.out (up HB1.out HB3.out)
      have hv3 : w3.heap[Bv]? = some (.cells #[.string x, .string y, .int .i64 0, .bool false, .bool false] 239 (0, 0)) := by rw [hb3.block Bv (block_lt HBV2.out)]; exact HBV2.out
      have v2 := (block_at hv3 2).trans rfl
      have z2 := block_free hv3 2
      have HB4 : Hid (Below W1.heap.size W1 (w3.setCell ⟨Bv, 2, none⟩ (.int .i64 ce.val))) := hide (HB3.out.setCell (p := ⟨Bv, 2, none⟩) (by show W1.heap.size ≤ Bv; rw [HBVE.out]; exact Nat.le_refl _) _)
      have HM4 := hide (HM1.out.below HB4.out)
      have HBV4 : Hid ((w3.setCell ⟨Bv, 2, none⟩ (.int .i64 ce.val)).heap[Bv]? = some (.cells #[.string x, .string y, .int .i64 ce.val, .bool false, .bool false] 239 (0, 0))) := hide ((block_set hv3 2 _).trans rfl)
      have HPB4 : Hid ((w3.setCell ⟨Bv, 2, none⟩ (.int .i64 ce.val)).heap[B]? = some (.cells #[.string x, .string y] 230 (0, 0))) := hide (by rw [HB4.out.block B (block_lt HPB1.out)]; exact HPB1.out)
      clear hb3 p0 p1 HC' HB2 HBV2 hv3
      go_upto_region 6 with fail
      generalize w3.setCell ⟨Bv, 2, none⟩ (.int .i64 ce.val) = w4 at *
      clear g2 v2 z2
      have HBB : Hid (Bv ∉ c.bs) := hide (fun hb => by
        obtain ⟨i, hi, e⟩ := List.mem_iff_getElem.1 hb
        obtain ⟨b', z, u, k1, k2, k3, _, k4, _⟩ := HM1.out.ma.at (i := i) (by rw [← HM1.out.ma.lenb]; exact hi)
        rw [List.getElem?_eq_getElem hi, e] at k1
        cases k1
        have := block_lt k4
        have := HBVE.out
        omega)
      have HBVN : Hid (c.n ≤ Bv) := hide (by have h1 := HCN.out; have h2 := HB1.out.size; have h3 := HBVE.out; omega)
      have HN4 : Hid (c.n ≤ w4.heap.size) := hide (Nat.le_trans HCN.out (up HB1.out HB4.out).size)
      have m1 := (block_at HM4.out.mach 1).trans rfl
      obtain ⟨va, vc, hvv⟩ := HM4.out.vv.form
      have HVVE := hide hvv
      have HVV : Hid (OwnK PtC w4 c.n 237 1 (.slice va c.bs.length vc) c.bs) := hide (by have h1 := HM4.out.vv; rw [hvv] at h1; exact h1)
      rw [hvv] at m1
      have HLB : Hid (c.bs.length ≤ 1048576) := hide (by rw [HM4.out.ma.lenb]; exact HM4.out.small)
      have hlb := HLB.out
      clear hvv
      go_wp2_with (first
        | (at_builtin; refine wpList_append_K (At := PtC) rfl _ _ 225 237 1 8 _ rfl Tryz.underlying225 infoPt (by decide) (by decide) (by decide) c.n _ _ rfl (HVV.out.below (boxBelow _ _)) _ _ [Bv] rfl (OwnK.one _ _ rfl (PtC.one (b := Bv) rfl) rfl) (by simp only [List.length_singleton]; omega) (Nat.le_trans HN4.out (boxBelow _ _).size) ?_; intro v6 w6 hown6 hgrow6; obtain ⟨a6, c6, hv6⟩ := hown6.form; subst hv6; have HO6 := hide hown6; have HG6 : Hid ((w4.alloc (.cells #[.pointer (some ⟨Bv, 0, none⟩)] 237)).grownBy w6 c.vv.ownBlock) := hide (by rw [HVVE.out]; exact hgrow6); have hm6 := HM4.out.keep5 HG6.out HM4.out.mach (by decide); have HM6 := hide hm6; have u1 := (block_at hm6 1).trans rfl; have zf := block_free hm6 1; clear hown6 hgrow6 hm6 m1)
        | fail)
      rw [show (c.bs ++ [Bv]).length = c.bs.length + 1 from by simp] at HO6
      obtain ⟨nb, hnb⟩ : ∃ n, n = c.bs.length + 1 := ⟨_, rfl⟩
      rw [← hnb] at HO6 ⊢
      obtain ⟨w7, L7⟩ := HM4.out.up HG6.out HX.out HY.out HPN.out (.slice a6 nb c6) Bv
      have HL7 := hide L7
      have hs6 := block_set HM6.out 1 (.slice a6 nb c6)
      have hne : B ≠ c.p := fun e => by
        have h1 := HPB4.out
        rw [e, HM4.out.mach] at h1
        injection h1 with h1
        injection h1 with _ h1
        exact absurd h1 (by decide)
      have hpb6 := block_other (a := ⟨c.p, 1, none⟩) (HM4.out.keep5 HG6.out HPB4.out (by decide)) hne (.slice a6 nb c6)
      have s2 := (block_at hs6 2).trans rfl
      have t0 := (block_at hpb6 0).trans rfl
      have t1 := (block_at hpb6 1).trans rfl
      clear hs6 hne hpb6 u1 zf hnb
      go_region_law (fail)
      all_goals
        go_wp2_with fail
        go_end0
        refine ⟨rfl, hide ?_⟩
        obtain ⟨e', hmk, hbel, hck⟩ := HM4.out.more HX.out HY.out HPN.out HVI.out HN4.out HSZ.out HBV4.out HBVN.out HBB.out HO6.out HG6.out HL7.out
        refine ⟨{ c with vv := .slice a6 nb c6, e := e', bs := c.bs ++ [Bv] }, rfl, rfl, rfl, rfl, ?_, ((up HB1.out HB4.out).mono HCN.out).trans hbel, fun ho h1 h2 => hck (by rw [(up HB1.out HB4.out).block _ (block_lt ho)]; exact ho) h1 h2⟩
        rw [HV.out.1, HV.out.2, HVAL.out]
        exact hmk
end Go.Proofs.YtholefgckcoklaaGreatDoor
namespace Go.Proofs.YtholefgckcoklaaGreatDoor
open Go.RowKit Go.Maps
namespace Rn
def mkVs (store : List Ce) (mod : ByteArray) (st : List (ByteArray × ByteArray) × List Vr) (vs : List Va) : List (ByteArray × ByteArray) × List Vr := vs.foldl (fun st v => (addN st.1 mod v.name, addV store st.1 st.2 mod v.name)) st
def mkTo (store : List Ce) (l : List Mo) : Nat → List (ByteArray × ByteArray) × List Vr
  | 0 => ([], [])
  | i + 1 => match l[i]? with
    | some y => if Nm.oI (Nm.moAt l y.name) < (i : Int) then mkTo store l i else mkVs store y.name (mkTo store l i) y.vars
    | none => mkTo store l i
theorem addN_len (nm : List (ByteArray × ByteArray)) (x y : ByteArray) : (addN nm x y).length ≤ nm.length + 1 := by
  unfold addN
  split
  · omega
  · simp
theorem mkVs_len (store : List Ce) (mod : ByteArray) : ∀ (vs : List Va) (st : List (ByteArray × ByteArray) × List Vr), (mkVs store mod st vs).1.length ≤ st.1.length + vs.length
  | [], st => by simp [mkVs]
  | v :: vs, st => by
    have h1 := mkVs_len store mod vs (addN st.1 mod v.name, addV store st.1 st.2 mod v.name)
    have h2 := addN_len st.1 mod v.name
    simp only [mkVs, List.foldl_cons, List.length_cons] at h1 ⊢
    omega
theorem mkTo_len {store : List Ce} {l : List Mo} (h : ∀ y ∈ l, y.vars.length ≤ 8) : ∀ i, (mkTo store l i).1.length ≤ 8 * i
  | 0 => by simp [mkTo]
  | i + 1 => by
    have h1 := mkTo_len (store := store) h i
    unfold mkTo
    cases hy : l[i]? with
    | none => simp only; omega
    | some y =>
      simp only
      have h2 := h y (List.mem_of_getElem? hy)
      split
      · omega
      · have h3 := mkVs_len store y.name y.vars (mkTo store l i)
        omega
theorem mkVs_snoc {store : List Ce} {mod : ByteArray} {st : List (ByteArray × ByteArray) × List Vr} {vs : List Va} {t : Nat} {v : Va} (hv : vs[t]? = some v) : mkVs store mod st (vs.take (t + 1)) = (addN (mkVs store mod st (vs.take t)).1 mod v.name, addV store (mkVs store mod st (vs.take t)).1 (mkVs store mod st (vs.take t)).2 mod v.name) := by
  unfold mkVs
  rw [List.take_add_one, hv, Option.toList_some, List.foldl_append]
  rfl
end Rn
def MkI (w wx : World) (vl : Value) (fuel : Nat) (st : List (ByteArray × ByteArray) × List Rn.Vr) : Prop := ∃ c : Cfg, c.n = w.heap.size ∧ c.p = w.heap.size + 1 ∧ c.vl = vl ∧ c.mp = w.heap.size ∧ Mk wx c st.1 ⟨fuel, st.2, []⟩ ∧ Below w.heap.size w wx
theorem MkI.below {w wx wy : World} {vl : Value} {fuel : Nat} {st : List (ByteArray × ByteArray) × List Rn.Vr} (h : MkI w wx vl fuel st) (hb : Below wx.heap.size wx wy) : MkI w wy vl fuel st := by
  obtain ⟨c, h1, h2, h3, h4, h5, h6⟩ := h
  exact ⟨c, h1, h2, h3, h4, h5.below hb, up h6 hb⟩
theorem MkI.bel {w wx : World} {vl : Value} {fuel : Nat} {st : List (ByteArray × ByteArray) × List Rn.Vr} (h : MkI w wx vl fuel st) : Below w.heap.size w wx := by
  obtain ⟨c, h1, h2, h3, h4, h5, h6⟩ := h
  exact h6
theorem MkI.new (w : World) (vl : Value) (fuel : Nat) (hf : fuel ≤ 10000) : MkI w ((w.alloc (.map #[] 0)).alloc (.cells #[vl, .slice none 0 0, .map (some w.heap.size), .int .i64 fuel, .slice none 0 0] 227)) vl fuel ([], []) := by
  have e1 := block_new w (.map #[] 0)
  have e2 := block_alloc e1 (.cells #[vl, .slice none 0 0, .map (some w.heap.size), .int .i64 fuel, .slice none 0 0] 227)
  have e3 := block_new (w.alloc (.map #[] 0)) (.cells #[vl, .slice none 0 0, .map (some w.heap.size), .int .i64 fuel, .slice none 0 0] 227)
  rw [World.size_alloc] at e3
  have hpl : PlM (w.alloc (.map #[] 0)) w.heap.size 0 [] [] := ⟨.map [], World.ownsMap_made _ _ _ _, fun x y _ _ kl _ => rfl⟩
  refine ⟨⟨w.heap.size, w.heap.size + 1, vl, .slice none 0 0, w.heap.size, 0, []⟩, rfl, rfl, rfl, rfl, ⟨⟨Nat.le_succ _, ⟨_, e3, OwnK.nil _ _ _ _⟩, rfl, rfl, fun i b x v h => by simp at h, fun b h => by simp at h, fun v h => by simp at h, List.nodup_nil, hpl.same (by rw [e2, e1]), Nat.le_refl _, by show 0 + fuel ≤ 16777215; omega, fun d h => by simp at h⟩, OwnK.nil _ _ _ _, rfl, rfl, by simp⟩, up (boxBelow _ _) (boxBelow _ _)⟩
set_option maxHeartbeats 4000000 in
set_option maxRecDepth 100000 in
theorem newMachine_any (m : Nat) (w : World) (vl vs : Value) (l : List Mo) (store : List Ce) (fuel : Nat) (h : MosAt w m vl l) (hS : CesAt w vs store) (hf : fuel ≤ 10000) (hl6 : l.length ≤ 6) (hv8 : ∀ y ∈ l, y.vars.length ≤ 8) :
    Calls Tryz.prog 65 #[vl, vs, .int .i64 fuel] w fun e w' => e = .returned (.pointer (some ⟨w.heap.size + 1, 0, none⟩)) ∧ Hid (MkI w w' vl fuel (Rn.mkTo store l l.length)) := by
  have HM := hide h
  have HS := hide hS
  have HV8 := hide hv8
  have HLEN := hide (fun i => Rn.mkTo_len (store := store) hv8 i)
  obtain ⟨a, b, off, cap, rfl, ha, hbig, hel⟩ := h
  have HEL := hide hel
  obtain ⟨n, hn⟩ : ∃ n, n = l.length := ⟨_, rfl⟩
  have HN := hide hn
  rw [← hn] at ha hbig hl6 HM ⊢
  have HA := hide ha
  have HI0 := hide (MkI.new w (.slice a n cap) fuel hf)
  have hmm := @run_makeMap Tryz.prog
  clear hel ha hn hv8 hS
  go_enter Tryz.func65, Tryz.ntmps65
  go_wp2_with fail
  generalize ((w.alloc (.map #[] 0)).alloc (.cells #[.slice a n cap, .slice none 0 0, .map (some w.heap.size), .int .i64 fuel, .slice none 0 0] 227)) = W1 at *
  clear hmm
  obtain ⟨B, hB⟩ : ∃ b, b = w.heap.size + 1 := ⟨_, rfl⟩
  rw [← hB]
  have HBE := hide hB
  clear hB
  go_loopw [19] (fun i wx => ∃ j : Nat, j ≤ n ∧ i = .int .i64 j ∧ Hid (MkI w wx (.slice a n cap) fuel (Rn.mkTo store l j))) (fun i _ => n - (intOf i).toNat)
  case atStart => exact ⟨0, Nat.zero_le _, rfl, HI0⟩
  case round =>
    obtain ⟨j, hj, rfl, HI⟩ := hrel
    by_cases hjl : j < n
    · obtain ⟨y, hy⟩ : ∃ f, l[j]? = some f := ⟨_, List.getElem?_eq_getElem (by have := HN.out; omega)⟩
      obtain ⟨vi, vv, vf, g0, g1, g2, g3, hm⟩ := HEL.out j y hy
      obtain rfl := HA.out (by omega)
      have HY := hide hy
      have HNX := hide HI.out.bel
      replace g0 := cellUp g0 HNX.out
      replace g1 := cellUp g1 HNX.out
      replace g2 := cellUp g2 HNX.out
      replace g3 := cellUp g3 HNX.out
      have HVA := hide hm.split.2.1
      have hns : y.name.size ≤ maxLen := by obtain ⟨_, _, _, _, h1, _⟩ := hm; exact h1
      have HNS := hide hns
      obtain ⟨ai, bi, oi, ci, rfl, -⟩ := hm.split.1
      obtain ⟨av, bv, ov, cv, rfl, hav, hlv, hcv⟩ := hm.split.2.1
      obtain ⟨af, bf, of, cf, rfl, -⟩ := hm.split.2.2
      have HCV := hide hcv
      have HAV := hide hav
      have HV := hide (HV8.out y (List.mem_of_getElem? hy))
      generalize y.imports.length = ni at *
      generalize y.funs.length = nf at *
      obtain ⟨nv, hnv⟩ : ∃ n, n = y.vars.length := ⟨_, rfl⟩
      have HNV := hide hnv
      rw [← hnv] at g2 hlv HAV HV
      have HST : Hid (Rn.mkTo store l (j + 1) = if Nm.oI (Nm.moAt l y.name) < (j : Int) then Rn.mkTo store l j else Rn.mkVs store y.name (Rn.mkTo store l j) y.vars) := hide (by simp only [Rn.mkTo, hy])
      have HB1 := hide (boxBelow wr (.cells #[.string y.name, .slice ai ni ci, .slice av nv cv, .slice af nf cf] 26))
      have HBX1 := hide (block_new wr (.cells #[.string y.name, .slice ai ni ci, .slice av nv cv, .slice af nf cf] 26))
      have HI1 := hide (HI.out.below HB1.out)
      have HC := hide (moduleAt_any m _ _ l y.name (HM.out.below HI1.out.bel))
      obtain ⟨wo, rfl⟩ : ∃ wo, wo = wr := ⟨_, rfl⟩
      clear hy hm hns hav hcv hnv
      obtain ⟨E, hE⟩ : ∃ E, E = Nm.oI (Nm.moAt l y.name) := ⟨_, rfl⟩
      rw [← hE] at HC HST
      clear hE
      go_wp2_with fail
      obtain ⟨Bm, hBm⟩ : ∃ b, b = wo.heap.size := ⟨_, rfl⟩
      rw [← hBm] at HBX1 ⊢
      generalize (wo.alloc (.cells #[.string y.name, .slice ai ni ci, .slice av nv cv, .slice af nf cf] 26)) = W2 at *
      clear hBm g0 g1 g2 g3
      refine HC.out.mono ?_
      rintro e w3 ⟨rfl, hb3⟩
      have HI3 := hide (HI1.out.below hb3)
      have HBX3 : Hid (w3.heap[Bm]? = some (.cells #[.string y.name, .slice ai ni ci, .slice av nv cv, .slice af nf cf] 26 (0, 0))) := hide (by rw [hb3.block Bm (block_lt HBX1.out)]; exact HBX1.out)
      clear hb3 HC
      by_cases hE : E < (j : Int)
      · rw [if_pos hE] at HST
        go_wp2_with fail
        go_roundw
        case rel => exact ⟨j + 1, by omega, by go_num, by rw [HST.out]; exact HI3⟩
        case measure => simp [intOf]; omega
      · rw [if_neg hE] at HST
        have b2 := (block_at HBX3.out 2).trans rfl
        go_wp2_with fail
        clear b2 hE
        go_loopw [33] (fun i wx => ∃ t : Nat, t ≤ nv ∧ i = .int .i64 t ∧ Hid (MkI w wx (.slice (some ⟨b, off, none⟩) n cap) fuel (Rn.mkVs store y.name (Rn.mkTo store l j) (y.vars.take t)) ∧ wx.heap[Bm]? = some (.cells #[.string y.name, .slice ai ni ci, .slice av nv cv, .slice af nf cf] 26 (0, 0)))) (fun i _ => nv - (intOf i).toNat)
        case atStart => exact ⟨0, Nat.zero_le _, rfl, hide ⟨by simpa [Rn.mkVs] using HI3.out, HBX3.out⟩⟩
        case round =>
          obtain ⟨t, ht, rfl, HI4⟩ := hrel
          by_cases htn : t < nv
          · obtain ⟨v, hv⟩ : ∃ v, y.vars[t]? = some v := ⟨_, List.getElem?_eq_getElem (by rw [← HNV.out]; exact htn)⟩
            obtain ⟨hvn, -, v0, v1⟩ := HCV.out t v hv
            obtain rfl := HAV.out (by omega)
            replace v0 := cellUp v0 HI4.out.1.bel
            replace v1 := cellUp v1 HI4.out.1.bel
            have HSC := hide (Rn.mkVs_snoc (store := store) (mod := y.name) (st := Rn.mkTo store l j) hv)
            have b0 := (block_at HI4.out.2 0).trans rfl
            have HB5 := hide (boxBelow wr (.cells #[.string v.name, .string v.level] 98))
            have HBX5 := hide (block_alloc HI4.out.2 (.cells #[.string v.name, .string v.level] 98))
            have b05 := (block_at HBX5.out 0).trans rfl
            obtain ⟨c, hcn, hcp, hcl, hcm, hmk, hbel⟩ := HI4.out.1.below HB5.out
            have HLN : Hid ((Rn.mkVs store y.name (Rn.mkTo store l j) (y.vars.take t)).1.length + 1 ≤ 1048576) := hide (by
              have h1 := Rn.mkVs_len store y.name (y.vars.take t) (Rn.mkTo store l j)
              have h2 := HLEN.out j
              have h3 := HV.out
              rw [List.length_take] at h1
              omega)
            have HC := hide (add_any _ c _ _ hmk vs store (HS.out.below hbel) y.name v.name HNS.out hvn HLN.out (by rw [hcn]; exact hbel.size))
            rw [hcp, ← HBE.out] at HC
            have HCC := hide (show c.n = w.heap.size ∧ c.p = w.heap.size + 1 ∧ c.vl = .slice (some ⟨b, off, none⟩) n cap ∧ c.mp = w.heap.size ∧ Below w.heap.size w (wr.alloc (.cells #[.string v.name, .string v.level] 98)) from ⟨hcn, hcp, hcl, hcm, hbel⟩)
            clear hv hvn hcn hcp hcl hcm hmk hbel
            obtain ⟨wo2, rfl⟩ : ∃ wo, wo = wr := ⟨_, rfl⟩
            go_wp2_with fail
            refine HC.out.mono ?_
            rintro e w6 ⟨rfl, HA6⟩
            clear v0 v1 b0 b05
            go_wp2_with fail
            go_roundw
            case rel => exact ⟨t + 1, by omega, by go_num, hide (by
              obtain ⟨c', h1, h2, h3, h4, h5, h6, h7⟩ := HA6.out
              refine ⟨⟨c', h1.trans HCC.out.1, h2.trans HBE.out, h3.trans HCC.out.2.2.1, h4.trans HCC.out.2.2.2.1, ?_, ?_⟩, h7 HBX5.out (by decide) (by decide)⟩
              · rw [HSC.out]; exact h5
              · have h8 := h6
                rw [HCC.out.1] at h8
                exact HCC.out.2.2.2.2.trans h8)⟩
            case measure => simp [intOf]; omega
          · have hte : y.vars.take t = y.vars := List.take_of_length_le (by rw [← HNV.out]; omega)
            rw [hte] at HI4
            clear hte
            go_wp2_with fail
            go_roundw
            case rel => exact ⟨j + 1, by omega, by go_num, by rw [HST.out]; exact hide HI4.out.1⟩
            case measure => simp [intOf]; omega
    · have hje : j = n := by omega
      subst hje
      go_wp2_with fail
      go_ret
      exact ⟨by rw [HBE.out]; rfl, HI⟩
end Go.Proofs.YtholefgckcoklaaGreatDoor
namespace Go.Proofs.YtholefgckcoklaaGreatDoor
open Go.RowKit
namespace Rn
def sto (nm : List (ByteArray × ByteArray)) (vs : List Vr) : List Ce := (nm.zip vs).map fun p => ⟨p.1.1, p.1.2, p.2.val⟩
def tag (t : UInt8) (x : ByteArray × ByteArray) : ByteArray := (((⟨#[t, 58]⟩ : ByteArray) ++ x.1) ++ ⟨#[46]⟩) ++ x.2
def tagP (s : ByteArray) : ByteArray := (⟨#[112, 58]⟩ : ByteArray) ++ s
def did1 (p : (ByteArray × ByteArray) × Vr) : List ByteArray := (if p.2.rd = true then [tag 114 p.1] else []) ++ (if p.2.st = true then [tag 119 p.1] else [])
def didV (nm : List (ByteArray × ByteArray)) (vs : List Vr) : List ByteArray := ((nm.zip vs).map did1).flatten
def did (nm : List (ByteArray × ByteArray)) (vs : List Vr) (pr : List (ByteArray × Int)) : List ByteArray := didV nm vs ++ pr.map fun d => tagP d.1
structure Res where
  res : Int
  sto : List Ce
  pr : List (ByteArray × Int)
  did : List ByteArray
  err : Int
def bad (e : Int) : Res := ⟨0, [], [], [], e⟩
def out (nm : List (ByteArray × ByteArray)) (x : Int × Int × Sta) : Res :=
  if x.2.1 = 0 then ⟨x.1, Rn.sto nm x.2.2.vs, x.2.2.pr, cptS (srtS (Rn.did nm x.2.2.vs x.2.2.pr)), 0⟩ else bad x.2.1
def run (g m : Nat) (l : List Mo) (mod fn : ByteArray) (args : List Int) (store : List Ce) (fuel : Int) : Res :=
  if mosR m l ≠ 0 then bad (mosR m l)
  else if fuel < 1 ∨ 10000 < fuel then bad 1
  else match fnd l mod fn with
    | none => bad 4
    | some (a, k) => out (mkTo store l l.length).1 (enter (M (mkTo store l l.length).1 l g) l a k args ⟨fuel.toNat, (mkTo store l l.length).2, []⟩)
theorem zip_take {α β : Type} {l : List α} {r : List β} {j : Nat} {x : α} {y : β} (hx : l[j]? = some x) (hy : r[j]? = some y) : ((l.zip r).take (j + 1)) = (l.zip r).take j ++ [(x, y)] := by
  rw [List.take_add_one]
  congr 1
  have h : (l.zip r)[j]? = some (x, y) := List.getElem?_zip_eq_some.2 ⟨hx, hy⟩
  rw [h]
  rfl
theorem moE_facts {m : Nat} {y : Mo} (h : Lat.moE m y = 0) : y.vars.length ≤ 8 ∧ y.funs.length ≤ 8 ∧ y.name.size ≤ 8 ∧ ∀ v ∈ y.vars, v.name.size ≤ 8 := by
  have n8 : ∀ {s : ByteArray}, Lat.strB s = true → s.size ≤ 8 := fun {s} hs => by
    unfold Lat.strB Lat.nameB at hs
    simp only [Bool.and_eq_true, decide_eq_true_eq] at hs
    have h2 := hs.1.2
    rw [Array.length_toList] at h2
    exact h2
  unfold Lat.moE at h
  by_cases h8 : 8 < y.imports.length ∨ 8 < y.vars.length ∨ 8 < y.funs.length
  · rw [if_pos h8] at h; cases h
  · rw [if_neg h8] at h
    by_cases h5 : ((Lat.strB y.name && y.imports.all Lat.strB) && y.vars.all Lat.vaB) = false
    · rw [if_pos h5] at h; cases h
    · have h5' : ((Lat.strB y.name && y.imports.all Lat.strB) && y.vars.all Lat.vaB) = true := by
        cases hh : ((Lat.strB y.name && y.imports.all Lat.strB) && y.vars.all Lat.vaB) with
        | true => rfl
        | false => exact absurd hh h5
      simp only [Bool.and_eq_true] at h5'
      refine ⟨by omega, by omega, n8 h5'.1.1, fun v hv => ?_⟩
      have := List.all_eq_true.1 h5'.2 v hv
      unfold Lat.vaB at this
      simp only [Bool.and_eq_true] at this
      exact n8 this.1
theorem mosE_ok {m : Nat} : ∀ {l : List Mo}, Nm.mosE m l = 0 → ∀ y ∈ l, Lat.moE m y = 0
  | [], _ => fun y hy => absurd hy (by simp)
  | x :: l, h => by
    unfold Nm.mosE at h
    by_cases h0 : Lat.moE m x = 0
    · rw [if_pos h0] at h
      intro y hy
      rcases List.mem_cons.1 hy with rfl | hy
      · exact h0
      · exact mosE_ok h y hy
    · rw [if_neg h0] at h; exact absurd h h0
theorem mosR_ok {m : Nat} {l : List Mo} (h : mosR m l = 0) : l.length ≤ 6 ∧ ∀ y ∈ l, Lat.moE m y = 0 := by
  unfold mosR at h
  by_cases h0 : Nm.mosE m l = 0
  · rw [if_pos h0] at h
    refine ⟨?_, mosE_ok h0⟩
    by_cases h6 : 6 < l.length
    · rw [if_pos h6] at h; cases h
    · omega
  · rw [if_neg h0] at h; exact absurd h h0
theorem fnd_some {l : List Mo} {mod fn : ByteArray} {a k : Nat} (h : fnd l mod fn = some (a, k)) : ∃ y fu, l[a]? = some y ∧ y.funs[k]? = some fu := by
  unfold fnd at h
  cases ha : Nm.moAt l mod with
  | none => rw [ha] at h; cases h
  | some a' =>
    rw [ha] at h
    obtain ⟨y, hy, _⟩ := Nm.moAt_lt ha
    rw [Option.bind_some, hy] at h
    simp only [Option.map_some, Option.getD_some] at h
    cases hk : Nm.fnAt y.funs fn y.funs.length with
    | none => rw [hk] at h; cases h
    | some k' =>
      rw [hk] at h
      simp only [Option.map_some, Option.some.injEq, Prod.mk.injEq] at h
      obtain ⟨rfl, rfl⟩ := h
      have hlt : k' < y.funs.length := by
        unfold Nm.fnAt at hk
        have := List.mem_of_find?_eq_some hk
        simpa using this
      exact ⟨y, y.funs[k'], hy, List.getElem?_eq_getElem hlt⟩
theorem addN_mem {nm : List (ByteArray × ByteArray)} {x y : ByteArray} {z : ByteArray × ByteArray} (h : z ∈ addN nm x y) : z ∈ nm ∨ z = (x, y) := by
  unfold addN at h
  split at h
  · exact Or.inl h
  · simpa using h
theorem mkVs_mem {store : List Ce} {mod : ByteArray} {z : ByteArray × ByteArray} : ∀ {vs : List Va} {st : List (ByteArray × ByteArray) × List Vr}, z ∈ (mkVs store mod st vs).1 → z ∈ st.1 ∨ ∃ v ∈ vs, z = (mod, v.name)
  | [], st, h => Or.inl h
  | v :: vs, st, h => by
    have h' : z ∈ (mkVs store mod (addN st.1 mod v.name, addV store st.1 st.2 mod v.name) vs).1 := h
    rcases mkVs_mem h' with h1 | ⟨u, hu, rfl⟩
    · rcases addN_mem h1 with h2 | rfl
      · exact Or.inl h2
      · exact Or.inr ⟨v, by simp, rfl⟩
    · exact Or.inr ⟨u, by simp [hu], rfl⟩
theorem mkTo_mem {store : List Ce} {l : List Mo} {z : ByteArray × ByteArray} : ∀ {i : Nat}, z ∈ (mkTo store l i).1 → ∃ y ∈ l, ∃ v ∈ y.vars, z = (y.name, v.name)
  | 0, h => absurd h (by simp [mkTo])
  | i + 1, h => by
    unfold mkTo at h
    cases hy : l[i]? with
    | none => rw [hy] at h; exact mkTo_mem h
    | some y =>
      rw [hy] at h
      simp only at h
      split at h
      · exact mkTo_mem h
      · rcases mkVs_mem h with h1 | ⟨v, hv, rfl⟩
        · exact mkTo_mem h1
        · exact ⟨y, List.mem_of_getElem? hy, v, hv, rfl⟩
theorem mkTo_small {m : Nat} {store : List Ce} {l : List Mo} (h : ∀ y ∈ l, Lat.moE m y = 0) {i : Nat} {z : ByteArray × ByteArray} (hz : z ∈ (mkTo store l i).1) : z.1.size ≤ 8 ∧ z.2.size ≤ 8 := by
  obtain ⟨y, hy, v, hv, rfl⟩ := mkTo_mem hz
  obtain ⟨_, _, h3, h4⟩ := moE_facts (h y hy)
  exact ⟨h3, h4 v hv⟩
theorem addV_len {store : List Ce} {nm : List (ByteArray × ByteArray)} {vs : List Vr} {x y : ByteArray} (h : vs.length = nm.length) : (addV store nm vs x y).length = (addN nm x y).length := by
  unfold addV addN
  split
  · exact h
  · simp [h]
end Rn
end Go.Proofs.YtholefgckcoklaaGreatDoor
namespace Go.Proofs.YtholefgckcoklaaGreatDoor
open Go.RowKit
namespace Rn
theorem pos_some {nm : List (ByteArray × ByteArray)} {x y : ByteArray} {i : Nat} (h : pos nm x y = some i) : nm[i]? = some (x, y) := by
  unfold pos at h
  have h1 := List.find?_some h
  cases hn : nm[i]? with
  | none => rw [hn] at h1; cases h1
  | some z =>
    rw [hn] at h1
    simp only [Bool.and_eq_true] at h1
    rw [sameB_iff, sameB_iff] at h1
    obtain ⟨z1, z2⟩ := z
    simp only at h1
    rw [h1.1, h1.2]
end Rn
end Go.Proofs.YtholefgckcoklaaGreatDoor
