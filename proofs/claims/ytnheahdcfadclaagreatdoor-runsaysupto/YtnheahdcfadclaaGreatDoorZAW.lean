/- Walks over package run: add, whole. -/
import Derived.Test.YtnheahdcfadclaaGreatDoorZAV
import Derived.Deep.Cut
import Derived.Test.YtnheahdcfadclaaGreatDoorZAN
namespace Go.Proofs.YtnheahdcfadclaaGreatDoor
open Go.RowKit Go.Maps

theorem Mk.keep5 {w w5 : World} {c : Cfg} {nm : List (ByteArray × ByteArray)} {s : Rn.Sta} {ob : Obj} (h : Mk w c nm s) (hg : (w.alloc ob).grownBy w5 c.vv.ownBlock) {k : Nat} {cs : Array Value} {t : TypeId} {fz : Nat × Nat} (ho : w.heap[k]? = some (.cells cs t fz)) (ht : t ≠ 234) : w5.heap[k]? = some (.cells cs t fz) := by
  rw [hg.block k (by have := block_lt ho; have := (boxBelow w ob).size; omega) (fun e => by
    obtain ⟨cur, hc⟩ := h.vv.typ e.symm
    rw [ho] at hc
    injection hc with hc
    injection hc with _ hc
    exact ht hc)]
  exact block_alloc ho ob
theorem Mk.up {w w5 : World} {c : Cfg} {nm : List (ByteArray × ByteArray)} {s : Rn.Sta} {ob : Obj} {x y : ByteArray} (h : Mk w c nm s) (hg : (w.alloc ob).grownBy w5 c.vv.ownBlock) (hx : x.size ≤ maxLen) (hy : y.size ≤ maxLen) (hp : Rn.pos nm x y = none) (v5 : Value) (Bv : Nat) :
    ∃ w7, (Instr.mapUpdate 221 (.map (some c.mp)) (.agg #[.string x, .string y]) (.pointer (some ⟨Bv, 0, none⟩))).run Tryz.prog (w5.setCell ⟨c.p, 1, none⟩ v5).drew = .ok () w7 := by
  obtain ⟨es, cl, he⟩ := h.ma.map.isMap
  have hmp : c.mp ≠ c.p := fun e => by rw [e, h.mach] at he; cases he
  have he5 : w5.heap[c.mp]? = some (.map es cl) := by
    rw [hg.block c.mp (by have := block_lt he; have := (boxBelow w ob).size; omega) (fun e => by
      obtain ⟨cur, hc⟩ := h.vv.typ e.symm
      rw [he] at hc
      cases hc)]
    exact block_alloc he ob
  have he6 : (w5.setCell ⟨c.p, 1, none⟩ v5).drew.heap[c.mp]? = some (.map es cl) := block_other he5 hmp v5
  have hpl : PlM (w5.setCell ⟨c.p, 1, none⟩ v5).drew c.mp c.e nm c.bs := h.ma.map.same (by rw [he6, he])
  obtain ⟨w7, e7, _⟩ := hpl.put h.ma.lenb (by have := h.e; have := h.small; unfold maxLen; omega) hx hy hp Bv
  exact ⟨w7, e7⟩

set_option maxHeartbeats 4000000 in
set_option maxRecDepth 100000 in
theorem add_any (w : World) (c : Cfg) (nm : List (ByteArray × ByteArray)) (s : Rn.Sta) (h : Mk w c nm s) (vs : Value) (store : List Ce) (hS : CesAt w vs store) (x y : ByteArray) (hx : x.size ≤ maxLen) (hy : y.size ≤ maxLen) (hs : nm.length + 1 ≤ 1048576) (hn : c.n ≤ w.heap.size) :
    Calls Tryz.prog 140 #[.pointer (some ⟨c.p, 0, none⟩), .agg #[.string x, .string y], vs] w fun e w' => e = .returned (.tuple #[]) ∧ Hid (∃ c' : Cfg, c'.n = c.n ∧ c'.p = c.p ∧ c'.vl = c.vl ∧ c'.mp = c.mp ∧ Mk w' c' (Rn.addN nm x y) { s with vs := Rn.addV store nm s.vs x y } ∧ Below c.n w w' ∧ ∀ {k : Nat} {cs : Array Value} {t : TypeId} {fz : Nat × Nat}, w.heap[k]? = some (.cells cs t fz) → t ≠ 234 → t ≠ 224 → w'.heap[k]? = some (.cells cs t fz)) := by
  have HB0 := hide (boxBelow w (.cells #[.string x, .string y] 227))
  have HPB := hide (block_new w (.cells #[.string x, .string y] 227))
  have HMK := hide (h.below HB0.out)
  have HCN := hide hn
  have HSZ := hide hs
  have HST := hide hS
  have HX := hide hx
  have HY := hide hy
  have L2 : ∀ k, (Instr.lookup 221 (.map (some c.mp)) (.agg #[.string x, .string y]) false).run Tryz.prog ((w.alloc (.cells #[.string x, .string y] 227)).drewN k) = .ok (ptrOf c.bs (Rn.pos nm x y)) ((w.alloc (.cells #[.string x, .string y] 227)).drewN k) := fun k => (HMK.out.ma.map.same (w' := (w.alloc (.cells #[.string x, .string y] 227)).drewN k) rfl).look hx hy
  have m2 := (block_at HMK.out.mach 2).trans rfl
  have p0 := (block_at HPB.out 0).trans rfl
  have p1 := (block_at HPB.out 1).trans rfl
  obtain ⟨B, hBw⟩ : ∃ b, b = w.heap.size := ⟨_, rfl⟩
  have HBW := hide hBw
  clear h hS hx hy hs hn
  cases hp : Rn.pos nm x y with
  | some i =>
    have HV : Hid (Rn.addN nm x y = nm ∧ Rn.addV store nm s.vs x y = s.vs) := hide ⟨by simp [Rn.addN, hp], by simp [Rn.addV, hp]⟩
    simp only [hp, ptrOf] at L2
    clear hp hBw
    go_enter Tryz.func140, Tryz.ntmps140
    go_wp2_with fail
    go_quiet (fail)
    go_wp2_with fail
    refine bodyPost_ret (results_none rfl _ _ _) rfl ?_
    refine ⟨rfl, hide ⟨c, rfl, rfl, rfl, rfl, ?_, ?_, fun ho _ _ => block_alloc ho _⟩⟩
    · rw [HV.out.1, HV.out.2]
      exact HMK.out.below (below_drew (Below.refl _ _))
    · exact drewBelow (HB0.out.mono HCN.out) _
  | none =>
    have HPN := hide hp
    have HV : Hid (Rn.addN nm x y = nm ++ [(x, y)] ∧ Rn.addV store nm s.vs x y = s.vs ++ [⟨Rn.val0 store x y, false, false⟩]) := hide ⟨by simp [Rn.addN, hp], by simp [Rn.addV, hp]⟩
    simp only [hp, ptrOf] at L2
    clear hp
    go_enter Tryz.func140, Tryz.ntmps140
    go_wp2_with fail
    go_quiet (fail)
    have HM1 := hide (HMK.out.below (w' := (w.alloc (.cells #[.string x, .string y] 227)).drewN nq) (below_drew (Below.refl _ _)))
    have HB1 : Hid (Below w.heap.size w ((w.alloc (.cells #[.string x, .string y] 227)).drewN nq)) := hide (drewBelow HB0.out _)
    have HPB1 : Hid (((w.alloc (.cells #[.string x, .string y] 227)).drewN nq).heap[B]? = some (.cells #[.string x, .string y] 227 (0, 0))) := hide (by rw [hBw]; exact HPB.out)
    rw [← hBw]
    generalize (w.alloc (.cells #[.string x, .string y] 227)).drewN nq = W1 at *
    clear m2 p0 p1 L2 hBw HPB HMK HB0
    have p0 := (block_at HPB1.out 0).trans rfl
    have p1 := (block_at HPB1.out 1).trans rfl
    have HB2 := hide (boxBelow W1 (.cells #[.string x, .string y, .int .i64 0, .bool false, .bool false] 236))
    have HBV2 := hide (block_new W1 (.cells #[.string x, .string y, .int .i64 0, .bool false, .bool false] 236))
    have HC := hide (ixCe_any _ vs store x y B (HST.out.below (up HB1.out HB2.out)) (cellUp p0 HB2.out) (cellUp p1 HB2.out))
    go_wp2_with fail
    obtain ⟨Bv, hBv⟩ : ∃ b, b = W1.heap.size := ⟨_, rfl⟩
    have HBVE := hide hBv
    rw [← hBv] at HBV2 ⊢
    clear hBv
    cases hc : Rn.ceAt store x y with
    | none =>
      rw [hc] at HC
      have HC' : Hid (Calls Tryz.prog 202 #[vs, .func (.func 203) #[] #[.pointer (some ⟨B, 0, none⟩)]] (W1.alloc (.cells #[.string x, .string y, .int .i64 0, .bool false, .bool false] 236)) fun e w' => e = .returned (.int .i64 (-1)) ∧ Below (W1.alloc (.cells #[.string x, .string y, .int .i64 0, .bool false, .bool false] 236)).heap.size (W1.alloc (.cells #[.string x, .string y, .int .i64 0, .bool false, .bool false] 236)) w') := HC
      have HVAL : Hid (Rn.val0 store x y = 0) := hide (by simp [Rn.val0, hc])
      have HVI : Hid (I64 0) := hide (by unfold I64; omega)
      clear hc HC
      refine HC'.out.mono ?_
      rintro e w4 ⟨rfl, hb4⟩
      have HB4 := hide (up HB2.out hb4)
      have HM4 := hide (HM1.out.below HB4.out)
      have HBV4 : Hid (w4.heap[Bv]? = some (.cells #[.string x, .string y, .int .i64 0, .bool false, .bool false] 236 (0, 0))) := hide (by rw [hb4.block Bv (block_lt HBV2.out)]; exact HBV2.out)
      have HPB4 : Hid (w4.heap[B]? = some (.cells #[.string x, .string y] 227 (0, 0))) := hide (by rw [HB4.out.block B (block_lt HPB1.out)]; exact HPB1.out)
      clear hb4 p0 p1 HC' HB2 HBV2
      have HBB : Hid (Bv ∉ c.bs) := hide (fun hb => by
        obtain ⟨i, hi, e⟩ := List.mem_iff_getElem.1 hb
        obtain ⟨b', z, u, k1, k2, k3, _, k4, _⟩ := HM1.out.ma.at (i := i) (by rw [← HM1.out.ma.lenb]; exact hi)
        rw [List.getElem?_eq_getElem hi, e] at k1
        cases k1
        have := block_lt k4
        have := HBVE.out
        omega)
      have HBVN : Hid (c.n ≤ Bv) := hide (by have h1 := HCN.out; have h2 := HB1.out.size; have h3 := HBVE.out; omega)
      have HN4 : Hid (c.n ≤ w4.heap.size) := hide (Nat.le_trans HCN.out (up HB1.out HB4.out).size)
      have m1 := (block_at HM4.out.mach 1).trans rfl
      obtain ⟨va, vc, hvv⟩ := HM4.out.vv.form
      have HVVE := hide hvv
      have HVV : Hid (OwnK PtC w4 c.n 234 1 (.slice va c.bs.length vc) c.bs) := hide (by have h1 := HM4.out.vv; rw [hvv] at h1; exact h1)
      rw [hvv] at m1
      have HLB : Hid (c.bs.length ≤ 1048576) := hide (by rw [HM4.out.ma.lenb]; exact HM4.out.small)
      have hlb := HLB.out
      clear hvv
      go_wp2_with (first
        | (at_builtin; refine wpList_append_K (At := PtC) rfl _ _ 222 234 1 8 _ rfl Tryz.underlying222 infoPt (by decide) (by decide) (by decide) c.n _ _ rfl (HVV.out.below (boxBelow _ _)) _ _ [Bv] rfl (OwnK.one _ _ rfl (PtC.one (b := Bv) rfl) rfl) (by simp only [List.length_singleton]; omega) (Nat.le_trans HN4.out (boxBelow _ _).size) ?_; intro v6 w6 hown6 hgrow6; obtain ⟨a6, c6, hv6⟩ := hown6.form; subst hv6; have HO6 := hide hown6; have HG6 : Hid ((w4.alloc (.cells #[.pointer (some ⟨Bv, 0, none⟩)] 234)).grownBy w6 c.vv.ownBlock) := hide (by rw [HVVE.out]; exact hgrow6); have hm6 := HM4.out.keep5 HG6.out HM4.out.mach (by decide); have HM6 := hide hm6; have u1 := (block_at hm6 1).trans rfl; have zf := block_free hm6 1; clear hown6 hgrow6 hm6 m1)
        | fail)
      rw [show (c.bs ++ [Bv]).length = c.bs.length + 1 from by simp] at HO6
      obtain ⟨nb, hnb⟩ : ∃ n, n = c.bs.length + 1 := ⟨_, rfl⟩
      rw [← hnb] at HO6 ⊢
      obtain ⟨w7, L7⟩ := HM4.out.up HG6.out HX.out HY.out HPN.out (.slice a6 nb c6) Bv
      have HL7 := hide L7
      have hs6 := block_set HM6.out 1 (.slice a6 nb c6)
      have hne : B ≠ c.p := fun e => by
        have h1 := HPB4.out
        rw [e, HM4.out.mach] at h1
        injection h1 with h1
        injection h1 with _ h1
        exact absurd h1 (by decide)
      have hpb6 := block_other (a := ⟨c.p, 1, none⟩) (HM4.out.keep5 HG6.out HPB4.out (by decide)) hne (.slice a6 nb c6)
      have s2 := (block_at hs6 2).trans rfl
      have t0 := (block_at hpb6 0).trans rfl
      have t1 := (block_at hpb6 1).trans rfl
      clear hs6 hne hpb6 u1 zf hnb
      go_region_law (fail)
      all_goals
        go_wp2_with fail
        go_end0
        refine ⟨rfl, hide ?_⟩
        obtain ⟨e', hmk, hbel, hck⟩ := HM4.out.more HX.out HY.out HPN.out HVI.out HN4.out HSZ.out HBV4.out HBVN.out HBB.out HO6.out HG6.out HL7.out
        refine ⟨{ c with vv := .slice a6 nb c6, e := e', bs := c.bs ++ [Bv] }, rfl, rfl, rfl, rfl, ?_, ((up HB1.out HB4.out).mono HCN.out).trans hbel, fun ho h1 h2 => hck (by rw [(up HB1.out HB4.out).block _ (block_lt ho)]; exact ho) h1 h2⟩
        rw [HV.out.1, HV.out.2, HVAL.out]
        exact hmk
    | some i =>
      obtain ⟨ce, hce⟩ : ∃ ce, store[i]? = some ce := ⟨_, List.getElem?_eq_getElem (List.mem_range.1 (List.mem_of_find?_eq_some hc))⟩
      rw [hc] at HC
      have HC' : Hid (Calls Tryz.prog 202 #[vs, .func (.func 203) #[] #[.pointer (some ⟨B, 0, none⟩)]] (W1.alloc (.cells #[.string x, .string y, .int .i64 0, .bool false, .bool false] 236)) fun e w' => e = .returned (.int .i64 (i : Int)) ∧ Below (W1.alloc (.cells #[.string x, .string y, .int .i64 0, .bool false, .bool false] 236)).heap.size (W1.alloc (.cells #[.string x, .string y, .int .i64 0, .bool false, .bool false] 236)) w') := HC
      have HVAL : Hid (Rn.val0 store x y = ce.val) := hide (by simp [Rn.val0, hc, hce])
      obtain ⟨sa, sb, so, scap, rfl, hsa, hsl, hse⟩ := HST.out
      obtain ⟨hvi, -, -, g2⟩ := hse i ce hce
      have HVI := hide hvi
      have hil : i < store.length := (List.getElem?_eq_some_iff.1 hce).1
      obtain rfl := hsa (by omega)
      obtain ⟨ns, hns⟩ : ∃ n, n = store.length := ⟨_, rfl⟩
      rw [← hns] at HC' hil hsl ⊢
      have HG2 := hide g2
      clear hc HC hse hce hvi g2 hns hsa
      refine HC'.out.mono ?_
      rintro e w3 ⟨rfl, hb3⟩
      have HB3 := hide (up HB2.out hb3)
      have g2 := cellUp HG2.out (up HB1.out HB3.out)
      have hv3 : w3.heap[Bv]? = some (.cells #[.string x, .string y, .int .i64 0, .bool false, .bool false] 236 (0, 0)) := by rw [hb3.block Bv (block_lt HBV2.out)]; exact HBV2.out
      have v2 := (block_at hv3 2).trans rfl
      have z2 := block_free hv3 2
      have HB4 : Hid (Below W1.heap.size W1 (w3.setCell ⟨Bv, 2, none⟩ (.int .i64 ce.val))) := hide (HB3.out.setCell (p := ⟨Bv, 2, none⟩) (by show W1.heap.size ≤ Bv; rw [HBVE.out]; exact Nat.le_refl _) _)
      have HM4 := hide (HM1.out.below HB4.out)
      have HBV4 : Hid ((w3.setCell ⟨Bv, 2, none⟩ (.int .i64 ce.val)).heap[Bv]? = some (.cells #[.string x, .string y, .int .i64 ce.val, .bool false, .bool false] 236 (0, 0))) := hide ((block_set hv3 2 _).trans rfl)
      have HPB4 : Hid ((w3.setCell ⟨Bv, 2, none⟩ (.int .i64 ce.val)).heap[B]? = some (.cells #[.string x, .string y] 227 (0, 0))) := hide (by rw [HB4.out.block B (block_lt HPB1.out)]; exact HPB1.out)
      clear hb3 p0 p1 HC' HB2 HBV2 hv3
      go_upto_region 6 with fail
      generalize w3.setCell ⟨Bv, 2, none⟩ (.int .i64 ce.val) = w4 at *
      clear g2 v2 z2
      have HBB : Hid (Bv ∉ c.bs) := hide (fun hb => by
        obtain ⟨i, hi, e⟩ := List.mem_iff_getElem.1 hb
        obtain ⟨b', z, u, k1, k2, k3, _, k4, _⟩ := HM1.out.ma.at (i := i) (by rw [← HM1.out.ma.lenb]; exact hi)
        rw [List.getElem?_eq_getElem hi, e] at k1
        cases k1
        have := block_lt k4
        have := HBVE.out
        omega)
      have HBVN : Hid (c.n ≤ Bv) := hide (by have h1 := HCN.out; have h2 := HB1.out.size; have h3 := HBVE.out; omega)
      have HN4 : Hid (c.n ≤ w4.heap.size) := hide (Nat.le_trans HCN.out (up HB1.out HB4.out).size)
      have m1 := (block_at HM4.out.mach 1).trans rfl
      obtain ⟨va, vc, hvv⟩ := HM4.out.vv.form
      have HVVE := hide hvv
      have HVV : Hid (OwnK PtC w4 c.n 234 1 (.slice va c.bs.length vc) c.bs) := hide (by have h1 := HM4.out.vv; rw [hvv] at h1; exact h1)
      rw [hvv] at m1
      have HLB : Hid (c.bs.length ≤ 1048576) := hide (by rw [HM4.out.ma.lenb]; exact HM4.out.small)
      have hlb := HLB.out
      clear hvv
      go_wp2_with (first
        | (at_builtin; refine wpList_append_K (At := PtC) rfl _ _ 222 234 1 8 _ rfl Tryz.underlying222 infoPt (by decide) (by decide) (by decide) c.n _ _ rfl (HVV.out.below (boxBelow _ _)) _ _ [Bv] rfl (OwnK.one _ _ rfl (PtC.one (b := Bv) rfl) rfl) (by simp only [List.length_singleton]; omega) (Nat.le_trans HN4.out (boxBelow _ _).size) ?_; intro v6 w6 hown6 hgrow6; obtain ⟨a6, c6, hv6⟩ := hown6.form; subst hv6; have HO6 := hide hown6; have HG6 : Hid ((w4.alloc (.cells #[.pointer (some ⟨Bv, 0, none⟩)] 234)).grownBy w6 c.vv.ownBlock) := hide (by rw [HVVE.out]; exact hgrow6); have hm6 := HM4.out.keep5 HG6.out HM4.out.mach (by decide); have HM6 := hide hm6; have u1 := (block_at hm6 1).trans rfl; have zf := block_free hm6 1; clear hown6 hgrow6 hm6 m1)
        | fail)
      rw [show (c.bs ++ [Bv]).length = c.bs.length + 1 from by simp] at HO6
      obtain ⟨nb, hnb⟩ : ∃ n, n = c.bs.length + 1 := ⟨_, rfl⟩
      rw [← hnb] at HO6 ⊢
      obtain ⟨w7, L7⟩ := HM4.out.up HG6.out HX.out HY.out HPN.out (.slice a6 nb c6) Bv
      have HL7 := hide L7
      have hs6 := block_set HM6.out 1 (.slice a6 nb c6)
      have hne : B ≠ c.p := fun e => by
        have h1 := HPB4.out
        rw [e, HM4.out.mach] at h1
        injection h1 with h1
        injection h1 with _ h1
        exact absurd h1 (by decide)
      have hpb6 := block_other (a := ⟨c.p, 1, none⟩) (HM4.out.keep5 HG6.out HPB4.out (by decide)) hne (.slice a6 nb c6)
      have s2 := (block_at hs6 2).trans rfl
      have t0 := (block_at hpb6 0).trans rfl
      have t1 := (block_at hpb6 1).trans rfl
      clear hs6 hne hpb6 u1 zf hnb
      go_region_law (fail)
      all_goals
        go_wp2_with fail
        go_end0
        refine ⟨rfl, hide ?_⟩
        obtain ⟨e', hmk, hbel, hck⟩ := HM4.out.more HX.out HY.out HPN.out HVI.out HN4.out HSZ.out HBV4.out HBVN.out HBB.out HO6.out HG6.out HL7.out
        refine ⟨{ c with vv := .slice a6 nb c6, e := e', bs := c.bs ++ [Bv] }, rfl, rfl, rfl, rfl, ?_, ((up HB1.out HB4.out).mono HCN.out).trans hbel, fun ho h1 h2 => hck (by rw [(up HB1.out HB4.out).block _ (block_lt ho)]; exact ho) h1 h2⟩
        rw [HV.out.1, HV.out.2, HVAL.out]
        exact hmk

end Go.Proofs.YtnheahdcfadclaaGreatDoor

/- Walks over package run: newMachine. -/
namespace Go.Proofs.YtnheahdcfadclaaGreatDoor
open Go.RowKit Go.Maps

namespace Rn
/-- The variables of a module more. -/
def mkVs (store : List Ce) (mod : ByteArray) (st : List (ByteArray × ByteArray) × List Vr) (vs : List Va) : List (ByteArray × ByteArray) × List Vr := vs.foldl (fun st v => (addN st.1 mod v.name, addV store st.1 st.2 mod v.name)) st
/-- The variables of the first i modules. -/
def mkTo (store : List Ce) (l : List Mo) : Nat → List (ByteArray × ByteArray) × List Vr
  | 0 => ([], [])
  | i + 1 => match l[i]? with
    | some y => if Nm.oI (Nm.moAt l y.name) < (i : Int) then mkTo store l i else mkVs store y.name (mkTo store l i) y.vars
    | none => mkTo store l i
theorem addN_len (nm : List (ByteArray × ByteArray)) (x y : ByteArray) : (addN nm x y).length ≤ nm.length + 1 := by
  unfold addN
  split
  · omega
  · simp
theorem mkVs_len (store : List Ce) (mod : ByteArray) : ∀ (vs : List Va) (st : List (ByteArray × ByteArray) × List Vr), (mkVs store mod st vs).1.length ≤ st.1.length + vs.length
  | [], st => by simp [mkVs]
  | v :: vs, st => by
    have h1 := mkVs_len store mod vs (addN st.1 mod v.name, addV store st.1 st.2 mod v.name)
    have h2 := addN_len st.1 mod v.name
    simp only [mkVs, List.foldl_cons, List.length_cons] at h1 ⊢
    omega
theorem mkTo_len {store : List Ce} {l : List Mo} (h : ∀ y ∈ l, y.vars.length ≤ 8) : ∀ i, (mkTo store l i).1.length ≤ 8 * i
  | 0 => by simp [mkTo]
  | i + 1 => by
    have h1 := mkTo_len (store := store) h i
    unfold mkTo
    cases hy : l[i]? with
    | none => simp only; omega
    | some y =>
      simp only
      have h2 := h y (List.mem_of_getElem? hy)
      split
      · omega
      · have h3 := mkVs_len store y.name y.vars (mkTo store l i)
        omega
theorem mkVs_snoc {store : List Ce} {mod : ByteArray} {st : List (ByteArray × ByteArray) × List Vr} {vs : List Va} {t : Nat} {v : Va} (hv : vs[t]? = some v) : mkVs store mod st (vs.take (t + 1)) = (addN (mkVs store mod st (vs.take t)).1 mod v.name, addV store (mkVs store mod st (vs.take t)).1 (mkVs store mod st (vs.take t)).2 mod v.name) := by
  unfold mkVs
  rw [List.take_add_one, hv, Option.toList_some, List.foldl_append]
  rfl
end Rn
/-- A machine that newMachine is making, in world wx. -/
def MkI (w wx : World) (vl : Value) (fuel : Nat) (st : List (ByteArray × ByteArray) × List Rn.Vr) : Prop := ∃ c : Cfg, c.n = w.heap.size ∧ c.p = w.heap.size + 1 ∧ c.vl = vl ∧ c.mp = w.heap.size ∧ Mk wx c st.1 ⟨fuel, st.2, []⟩ ∧ Below w.heap.size w wx
theorem MkI.below {w wx wy : World} {vl : Value} {fuel : Nat} {st : List (ByteArray × ByteArray) × List Rn.Vr} (h : MkI w wx vl fuel st) (hb : Below wx.heap.size wx wy) : MkI w wy vl fuel st := by
  obtain ⟨c, h1, h2, h3, h4, h5, h6⟩ := h
  exact ⟨c, h1, h2, h3, h4, h5.below hb, up h6 hb⟩
theorem MkI.bel {w wx : World} {vl : Value} {fuel : Nat} {st : List (ByteArray × ByteArray) × List Rn.Vr} (h : MkI w wx vl fuel st) : Below w.heap.size w wx := by
  obtain ⟨c, h1, h2, h3, h4, h5, h6⟩ := h
  exact h6
theorem MkI.new (w : World) (vl : Value) (fuel : Nat) (hf : fuel ≤ 10000) : MkI w ((w.alloc (.map #[] 0)).alloc (.cells #[vl, .slice none 0 0, .map (some w.heap.size), .int .i64 fuel, .slice none 0 0] 224)) vl fuel ([], []) := by
  have e1 := block_new w (.map #[] 0)
  have e2 := block_alloc e1 (.cells #[vl, .slice none 0 0, .map (some w.heap.size), .int .i64 fuel, .slice none 0 0] 224)
  have e3 := block_new (w.alloc (.map #[] 0)) (.cells #[vl, .slice none 0 0, .map (some w.heap.size), .int .i64 fuel, .slice none 0 0] 224)
  rw [World.size_alloc] at e3
  have hpl : PlM (w.alloc (.map #[] 0)) w.heap.size 0 [] [] := ⟨.map [], World.ownsMap_made _ _ _ _, fun x y _ _ kl _ => rfl⟩
  refine ⟨⟨w.heap.size, w.heap.size + 1, vl, .slice none 0 0, w.heap.size, 0, []⟩, rfl, rfl, rfl, rfl, ⟨⟨Nat.le_succ _, ⟨_, e3, OwnK.nil _ _ _ _⟩, rfl, rfl, fun i b x v h => by simp at h, fun b h => by simp at h, fun v h => by simp at h, List.nodup_nil, hpl.same (by rw [e2, e1]), Nat.le_refl _, by show 0 + fuel ≤ 16777215; omega, fun d h => by simp at h⟩, OwnK.nil _ _ _ _, rfl, rfl, by simp⟩, up (boxBelow _ _) (boxBelow _ _)⟩

set_option maxHeartbeats 4000000 in
set_option maxRecDepth 100000 in
theorem newMachine_any (m : Nat) (w : World) (vl vs : Value) (l : List Mo) (store : List Ce) (fuel : Nat) (h : MosAt w m vl l) (hS : CesAt w vs store) (hf : fuel ≤ 10000) (hl6 : l.length ≤ 6) (hv8 : ∀ y ∈ l, y.vars.length ≤ 8) :
    Calls Tryz.prog 63 #[vl, vs, .int .i64 fuel] w fun e w' => e = .returned (.pointer (some ⟨w.heap.size + 1, 0, none⟩)) ∧ Hid (MkI w w' vl fuel (Rn.mkTo store l l.length)) := by
  have HM := hide h
  have HS := hide hS
  have HV8 := hide hv8
  have HLEN := hide (fun i => Rn.mkTo_len (store := store) hv8 i)
  obtain ⟨a, b, off, cap, rfl, ha, hbig, hel⟩ := h
  have HEL := hide hel
  obtain ⟨n, hn⟩ : ∃ n, n = l.length := ⟨_, rfl⟩
  have HN := hide hn
  rw [← hn] at ha hbig hl6 HM ⊢
  have HA := hide ha
  have HI0 := hide (MkI.new w (.slice a n cap) fuel hf)
  have hmm := @run_makeMap Tryz.prog
  clear hel ha hn hv8 hS
  go_enter Tryz.func63, Tryz.ntmps63
  go_wp2_with fail
  generalize ((w.alloc (.map #[] 0)).alloc (.cells #[.slice a n cap, .slice none 0 0, .map (some w.heap.size), .int .i64 fuel, .slice none 0 0] 224)) = W1 at *
  clear hmm
  obtain ⟨B, hB⟩ : ∃ b, b = w.heap.size + 1 := ⟨_, rfl⟩
  rw [← hB]
  have HBE := hide hB
  clear hB
  go_loopw [19] (fun i wx => ∃ j : Nat, j ≤ n ∧ i = .int .i64 j ∧ Hid (MkI w wx (.slice a n cap) fuel (Rn.mkTo store l j))) (fun i _ => n - (intOf i).toNat)
  case atStart => exact ⟨0, Nat.zero_le _, rfl, HI0⟩
  case round =>
    obtain ⟨j, hj, rfl, HI⟩ := hrel
    by_cases hjl : j < n
    · obtain ⟨y, hy⟩ : ∃ f, l[j]? = some f := ⟨_, List.getElem?_eq_getElem (by have := HN.out; omega)⟩
      obtain ⟨vi, vv, vf, g0, g1, g2, g3, hm⟩ := HEL.out j y hy
      obtain rfl := HA.out (by omega)
      have HY := hide hy
      have HNX := hide HI.out.bel
      replace g0 := cellUp g0 HNX.out
      replace g1 := cellUp g1 HNX.out
      replace g2 := cellUp g2 HNX.out
      replace g3 := cellUp g3 HNX.out
      have HVA := hide hm.split.2.1
      have hns : y.name.size ≤ maxLen := by obtain ⟨_, _, _, _, h1, _⟩ := hm; exact h1
      have HNS := hide hns
      obtain ⟨ai, bi, oi, ci, rfl, -⟩ := hm.split.1
      obtain ⟨av, bv, ov, cv, rfl, hav, hlv, hcv⟩ := hm.split.2.1
      obtain ⟨af, bf, of, cf, rfl, -⟩ := hm.split.2.2
      have HCV := hide hcv
      have HAV := hide hav
      have HV := hide (HV8.out y (List.mem_of_getElem? hy))
      generalize y.imports.length = ni at *
      generalize y.funs.length = nf at *
      obtain ⟨nv, hnv⟩ : ∃ n, n = y.vars.length := ⟨_, rfl⟩
      have HNV := hide hnv
      rw [← hnv] at g2 hlv HAV HV
      have HST : Hid (Rn.mkTo store l (j + 1) = if Nm.oI (Nm.moAt l y.name) < (j : Int) then Rn.mkTo store l j else Rn.mkVs store y.name (Rn.mkTo store l j) y.vars) := hide (by simp only [Rn.mkTo, hy])
      have HB1 := hide (boxBelow wr (.cells #[.string y.name, .slice ai ni ci, .slice av nv cv, .slice af nf cf] 26))
      have HBX1 := hide (block_new wr (.cells #[.string y.name, .slice ai ni ci, .slice av nv cv, .slice af nf cf] 26))
      have HI1 := hide (HI.out.below HB1.out)
      have HC := hide (moduleAt_any m _ _ l y.name (HM.out.below HI1.out.bel))
      obtain ⟨wo, rfl⟩ : ∃ wo, wo = wr := ⟨_, rfl⟩
      clear hy hm hns hav hcv hnv
      obtain ⟨E, hE⟩ : ∃ E, E = Nm.oI (Nm.moAt l y.name) := ⟨_, rfl⟩
      rw [← hE] at HC HST
      clear hE
      go_wp2_with fail
      obtain ⟨Bm, hBm⟩ : ∃ b, b = wo.heap.size := ⟨_, rfl⟩
      rw [← hBm] at HBX1 ⊢
      generalize (wo.alloc (.cells #[.string y.name, .slice ai ni ci, .slice av nv cv, .slice af nf cf] 26)) = W2 at *
      clear hBm g0 g1 g2 g3
      refine HC.out.mono ?_
      rintro e w3 ⟨rfl, hb3⟩
      have HI3 := hide (HI1.out.below hb3)
      have HBX3 : Hid (w3.heap[Bm]? = some (.cells #[.string y.name, .slice ai ni ci, .slice av nv cv, .slice af nf cf] 26 (0, 0))) := hide (by rw [hb3.block Bm (block_lt HBX1.out)]; exact HBX1.out)
      clear hb3 HC
      by_cases hE : E < (j : Int)
      · rw [if_pos hE] at HST
        go_wp2_with fail
        go_roundw
        case rel => exact ⟨j + 1, by omega, by go_num, by rw [HST.out]; exact HI3⟩
        case measure => simp [intOf]; omega
      · rw [if_neg hE] at HST
        have b2 := (block_at HBX3.out 2).trans rfl
        go_wp2_with fail
        clear b2 hE
        go_loopw [33] (fun i wx => ∃ t : Nat, t ≤ nv ∧ i = .int .i64 t ∧ Hid (MkI w wx (.slice (some ⟨b, off, none⟩) n cap) fuel (Rn.mkVs store y.name (Rn.mkTo store l j) (y.vars.take t)) ∧ wx.heap[Bm]? = some (.cells #[.string y.name, .slice ai ni ci, .slice av nv cv, .slice af nf cf] 26 (0, 0)))) (fun i _ => nv - (intOf i).toNat)
        case atStart => exact ⟨0, Nat.zero_le _, rfl, hide ⟨by simpa [Rn.mkVs] using HI3.out, HBX3.out⟩⟩
        case round =>
          obtain ⟨t, ht, rfl, HI4⟩ := hrel
          by_cases htn : t < nv
          · obtain ⟨v, hv⟩ : ∃ v, y.vars[t]? = some v := ⟨_, List.getElem?_eq_getElem (by rw [← HNV.out]; exact htn)⟩
            obtain ⟨hvn, -, v0, v1⟩ := HCV.out t v hv
            obtain rfl := HAV.out (by omega)
            replace v0 := cellUp v0 HI4.out.1.bel
            replace v1 := cellUp v1 HI4.out.1.bel
            have HSC := hide (Rn.mkVs_snoc (store := store) (mod := y.name) (st := Rn.mkTo store l j) hv)
            have b0 := (block_at HI4.out.2 0).trans rfl
            have HB5 := hide (boxBelow wr (.cells #[.string v.name, .string v.level] 94))
            have HBX5 := hide (block_alloc HI4.out.2 (.cells #[.string v.name, .string v.level] 94))
            have b05 := (block_at HBX5.out 0).trans rfl
            obtain ⟨c, hcn, hcp, hcl, hcm, hmk, hbel⟩ := HI4.out.1.below HB5.out
            have HLN : Hid ((Rn.mkVs store y.name (Rn.mkTo store l j) (y.vars.take t)).1.length + 1 ≤ 1048576) := hide (by
              have h1 := Rn.mkVs_len store y.name (y.vars.take t) (Rn.mkTo store l j)
              have h2 := HLEN.out j
              have h3 := HV.out
              rw [List.length_take] at h1
              omega)
            have HC := hide (add_any _ c _ _ hmk vs store (HS.out.below hbel) y.name v.name HNS.out hvn HLN.out (by rw [hcn]; exact hbel.size))
            rw [hcp, ← HBE.out] at HC
            have HCC := hide (show c.n = w.heap.size ∧ c.p = w.heap.size + 1 ∧ c.vl = .slice (some ⟨b, off, none⟩) n cap ∧ c.mp = w.heap.size ∧ Below w.heap.size w (wr.alloc (.cells #[.string v.name, .string v.level] 94)) from ⟨hcn, hcp, hcl, hcm, hbel⟩)
            clear hv hvn hcn hcp hcl hcm hmk hbel
            obtain ⟨wo2, rfl⟩ : ∃ wo, wo = wr := ⟨_, rfl⟩
            go_wp2_with fail
            refine HC.out.mono ?_
            rintro e w6 ⟨rfl, HA6⟩
            clear v0 v1 b0 b05
            go_wp2_with fail
            go_roundw
            case rel => exact ⟨t + 1, by omega, by go_num, hide (by
              obtain ⟨c', h1, h2, h3, h4, h5, h6, h7⟩ := HA6.out
              refine ⟨⟨c', h1.trans HCC.out.1, h2.trans HBE.out, h3.trans HCC.out.2.2.1, h4.trans HCC.out.2.2.2.1, ?_, ?_⟩, h7 HBX5.out (by decide) (by decide)⟩
              · rw [HSC.out]; exact h5
              · have h8 := h6
                rw [HCC.out.1] at h8
                exact HCC.out.2.2.2.2.trans h8)⟩
            case measure => simp [intOf]; omega
          · have hte : y.vars.take t = y.vars := List.take_of_length_le (by rw [← HNV.out]; omega)
            rw [hte] at HI4
            clear hte
            go_wp2_with fail
            go_roundw
            case rel => exact ⟨j + 1, by omega, by go_num, by rw [HST.out]; exact hide HI4.out.1⟩
            case measure => simp [intOf]; omega
    · have hje : j = n := by omega
      subst hje
      go_wp2_with fail
      go_ret
      exact ⟨by rw [HBE.out]; rfl, HI⟩

end Go.Proofs.YtnheahdcfadclaaGreatDoor

/- Running functions, plain mathematics: with more fuel what came out comes out. -/
namespace Go.Proofs.YtnheahdcfadclaaGreatDoor
open Go.RowKit

namespace Rn
/-- The same with d more of fuel. -/
def up (d : Nat) (s : Sta) : Sta := { s with fuel := s.fuel + d }
/-- What comes out but for lack of fuel (error 6) comes out with more. -/
structure Mono (d : Nat) (F : Fns) : Prop where
  ev : ∀ a k o x s, (F.ev a k o x s).2.1 ≠ 6 → F.ev a k o x (up d s) = ((F.ev a k o x s).1, (F.ev a k o x s).2.1, up d (F.ev a k o x s).2.2)
  dO : ∀ a k o c s, (F.dO a k o c s).1 ≠ 6 → F.dO a k o c (up d s) = ((F.dO a k o c s).1, (F.dO a k o c s).2.1, up d (F.dO a k o c s).2.2)
  lp : ∀ a k o c s, (F.lp a k o c s).1 ≠ 6 → F.lp a k o c (up d s) = ((F.lp a k o c s).1, (F.lp a k o c s).2.1, up d (F.lp a k o c s).2.2)
theorem gt_up (d : Nat) (nm : List (ByteArray × ByteArray)) (m : ByteArray) (o : Own) (n : ByteArray) (s : Sta) : gt nm m o n (up d s) = ((gt nm m o n s).1, up d (gt nm m o n s).2) := by
  unfold gt
  cases sh nm m o n <;> rfl
theorem pt_up (d : Nat) (nm : List (ByteArray × ByteArray)) (m : ByteArray) (o : Own) (n : ByteArray) (x : Int) (s : Sta) : pt nm m o n x (up d s) = ((pt nm m o n x s).1, up d (pt nm m o n x s).2) := by
  unfold pt
  cases sh nm m o n <;> rfl
theorem burn_up (d : Nat) {s s1 : Sta} (h : burn s = some s1) : burn (up d s) = some (up d s1) := by
  unfold burn at h ⊢
  by_cases h0 : s.fuel = 0
  · rw [if_pos h0] at h; cases h
  · rw [if_neg h0] at h
    cases h
    rw [if_neg (by show ¬ s.fuel + d = 0; omega)]
    simp only [up, Option.some.injEq, Sta.mk.injEq, and_true]
    omega
theorem evs_up {d : Nat} {f : Ex → Sta → Int × Int × Sta} (hf : ∀ x s, (f x s).2.1 ≠ 6 → f x (up d s) = ((f x s).1, (f x s).2.1, up d (f x s).2.2)) : ∀ (l : List Ex) (s : Sta), (evs f l s).2.1 ≠ 6 → evs f l (up d s) = ((evs f l s).1, (evs f l s).2.1, up d (evs f l s).2.2)
  | [], s, _ => rfl
  | x :: l, s, h => by
    unfold evs at h ⊢
    by_cases h0 : (f x s).2.1 = 0
    · rw [if_pos h0] at h ⊢
      have h1 := hf x s (by rw [h0]; decide)
      have h2 := evs_up hf l (f x s).2.2 h
      rw [h1]
      simp only
      rw [if_pos h0, h2]
    · rw [if_neg h0] at h ⊢
      have h1 := hf x s h
      rw [h1]
      simp only
      rw [if_neg h0]
theorem dos_up {d : Nat} {f : Own → St → Sta → Int × Own × Sta} (hf : ∀ o c s, (f o c s).1 ≠ 6 → f o c (up d s) = ((f o c s).1, (f o c s).2.1, up d (f o c s).2.2)) : ∀ (l : List St) (o : Own) (s : Sta), (dos f l o s).1 ≠ 6 → dos f l o (up d s) = ((dos f l o s).1, (dos f l o s).2.1, up d (dos f l o s).2.2)
  | [], o, s, _ => rfl
  | c :: l, o, s, h => by
    unfold dos at h ⊢
    by_cases h0 : (f o c s).1 = 0
    · rw [if_pos h0] at h ⊢
      have h1 := hf o c s (by rw [h0]; decide)
      have h2 := dos_up hf l (f o c s).2.1 (f o c s).2.2 h
      rw [h1]
      simp only
      rw [if_pos h0, h2]
    · rw [if_neg h0] at h ⊢
      have h1 := hf o c s h
      rw [h1]
      simp only
      rw [if_neg h0]
theorem enter_up {d : Nat} {F : Fns} (M : Mono d F) (l : List Mo) (a k : Nat) (args : List Int) (s : Sta) (h : (enter F l a k args s).2.1 ≠ 6) : enter F l a k args (up d s) = ((enter F l a k args s).1, (enter F l a k args s).2.1, up d (enter F l a k args s).2.2) := by
  unfold enter at h ⊢
  cases hm : l[a]?.bind fun m => m.funs[k]? with
  | none => rfl
  | some f =>
    rw [hm] at h
    simp only at h ⊢
    by_cases hl : f.params.length = args.length
    · rw [if_pos hl] at h ⊢
      by_cases h0 : (dos (F.dO a k) f.body (own0 f.params args) s).1 = 0
      · rw [if_pos h0] at h ⊢
        have h1 := dos_up (d := d) (fun o c s => M.dO a k o c s) f.body (own0 f.params args) s (by rw [h0]; decide)
        rw [h1]
        simp only
        rw [if_pos h0, if_pos hl]
        exact M.ev _ _ _ _ _ h
      · rw [if_neg h0] at h ⊢
        have h1 := dos_up (d := d) (fun o c s => M.dO a k o c s) f.body (own0 f.params args) s h
        rw [h1]
        simp only
        rw [if_neg h0, if_pos hl]
    · rw [if_neg hl, if_neg hl]
theorem call_up {d : Nat} {F : Fns} (M : Mono d F) (l : List Mo) (a k : Nat) (n : ByteArray) (args : List Int) (s : Sta) (h : (call F l a k n args s).2.1 ≠ 6) : call F l a k n args (up d s) = ((call F l a k n args s).1, (call F l a k n args s).2.1, up d (call F l a k n args s).2.2) := by
  unfold call at h ⊢
  cases hb : burn s with
  | none => rw [hb] at h; exact absurd rfl h
  | some s1 =>
    rw [burn_up d hb]
    rw [hb] at h
    cases hy : l[a]? with
    | none => rfl
    | some x =>
      rw [hy] at h
      simp only at h ⊢
      by_cases ht : (Nm.ptgt x k n l).2.2 = false
      · rw [if_pos ht, if_pos ht]
      · rw [if_neg ht] at h
        rw [if_neg ht, if_neg ht]
        exact enter_up M l _ _ args s1 h
theorem step_up {d : Nat} {nm : List (ByteArray × ByteArray)} {l : List Mo} {F : Fns} (M : Mono d F) : Mono d (step nm l F) := by
  refine ⟨fun a k o x s h => ?_, fun a k o c s h => ?_, fun a k o c s h => ?_⟩
  · simp only [step] at h ⊢
    by_cases h1 : x.kind = 1
    · rw [if_pos h1, if_pos h1]
    · rw [if_neg h1] at h
      rw [if_neg h1, if_neg h1]
      by_cases h2 : x.kind = 2
      · rw [if_pos h2, if_pos h2, gt_up]
      · rw [if_neg h2] at h
        rw [if_neg h2, if_neg h2]
        by_cases h0 : (evs (F.ev a k o) x.args s).2.1 = 0
        · rw [if_pos h0] at h
          have e := evs_up (d := d) (fun x s => M.ev a k o x s) x.args s (by rw [h0]; decide)
          rw [e]
          simp only
          rw [if_pos h0, if_pos h0]
          by_cases h4 : x.kind = 4
          · rw [if_pos h4] at h
            rw [if_pos h4, if_pos h4]
            exact call_up M l _ _ _ _ _ h
          · rw [if_neg h4, if_neg h4]
        · rw [if_neg h0] at h
          have e := evs_up (d := d) (fun x s => M.ev a k o x s) x.args s h
          rw [e]
          simp only
          rw [if_neg h0, if_neg h0]
  · simp only [step] at h ⊢
    cases hb : burn s with
    | none => rw [hb] at h; exact absurd rfl h
    | some s1 =>
      rw [burn_up d hb]
      rw [hb] at h
      simp only at h ⊢
      by_cases h3 : c.kind = 3
      · rw [if_pos h3] at h
        rw [if_pos h3, if_pos h3]
        exact M.lp _ _ _ _ _ h
      · rw [if_neg h3] at h
        rw [if_neg h3, if_neg h3]
        by_cases h0 : (F.ev a k o c.e s1).2.1 = 0
        · rw [if_pos h0] at h
          have e := M.ev a k o c.e s1 (by rw [h0]; decide)
          rw [e]
          simp only
          rw [if_pos h0, if_pos h0]
          by_cases h1 : c.kind = 1
          · rw [if_pos h1, if_pos h1, pt_up]
          · rw [if_neg h1] at h
            rw [if_neg h1, if_neg h1]
            by_cases h4 : c.kind = 4
            · rw [if_pos h4, if_pos h4]
              rfl
            · rw [if_neg h4] at h
              rw [if_neg h4, if_neg h4]
              by_cases hz : (F.ev a k o c.e s1).1 = 0
              · rw [if_pos hz] at h
                rw [if_pos hz, if_pos hz]
                exact dos_up (fun o c s => M.dO a k o c s) _ _ _ h
              · rw [if_neg hz] at h
                rw [if_neg hz, if_neg hz]
                exact dos_up (fun o c s => M.dO a k o c s) _ _ _ h
        · rw [if_neg h0] at h
          have e := M.ev a k o c.e s1 h
          rw [e]
          simp only
          rw [if_neg h0, if_neg h0]
  · simp only [step] at h ⊢
    by_cases h0 : (F.ev a k o c.e s).2.1 = 0 ∧ (F.ev a k o c.e s).1 ≠ 0
    · rw [if_pos h0] at h
      have e := M.ev a k o c.e s (by rw [h0.1]; decide)
      rw [e]
      simp only
      rw [if_pos h0, if_pos h0]
      by_cases hd : (dos (F.dO a k) c.a o (F.ev a k o c.e s).2.2).1 = 0
      · rw [if_pos hd] at h
        have e2 := dos_up (d := d) (fun o c s => M.dO a k o c s) c.a o (F.ev a k o c.e s).2.2 (by rw [hd]; decide)
        rw [e2]
        simp only
        rw [if_pos hd, if_pos hd]
        cases hb : burn (dos (F.dO a k) c.a o (F.ev a k o c.e s).2.2).2.2 with
        | none => rw [hb] at h; exact absurd rfl h
        | some s2 =>
          rw [burn_up d hb]
          rw [hb] at h
          simp only at h ⊢
          exact M.lp _ _ _ _ _ h
      · rw [if_neg hd] at h
        have e2 := dos_up (d := d) (fun o c s => M.dO a k o c s) c.a o (F.ev a k o c.e s).2.2 h
        rw [e2]
        simp only
        rw [if_neg hd, if_neg hd]
    · rw [if_neg h0] at h
      have e := M.ev a k o c.e s h
      rw [e]
      simp only
      rw [if_neg h0, if_neg h0]
theorem M_up (d : Nat) (nm : List (ByteArray × ByteArray)) (l : List Mo) : ∀ g, Mono d (M nm l g)
  | 0 => ⟨fun _ _ _ _ _ _ => rfl, fun _ _ _ _ _ _ => rfl, fun _ _ _ _ _ _ => rfl⟩
  | g + 1 => step_up (M_up d nm l g)
end Rn

end Go.Proofs.YtnheahdcfadclaaGreatDoor
