/- Walks over package run: put; what a walk over a command, or a loop, must do; doAll. -/
import Derived.Test.YtnheahdcfadclaaGreatDoorZAO
import Derived.Deep.CutRange
import Derived.Test.YtnheahdcfadclaaGreatDoorZAJ
namespace Go.Proofs.YtnheahdcfadclaaGreatDoor
open Go.RowKit Go.Maps

theorem put_own {o : Rn.Own} {x : ByteArray} {v : Int} (h : ∀ s v, o s = some v → I64 v) (hv : I64 v) : ∀ s u, Rn.put o x v s = some u → I64 u := fun s u hu => by
  unfold Rn.put at hu
  split at hu
  · cases hu; exact hv
  · exact h s u hu

set_option maxHeartbeats 2000000 in
set_option maxRecDepth 100000 in
theorem put_any (W w : World) (c : Cfg) (nm : List (ByteArray × ByteArray)) (l : List Mo) (m : Nat) (s : Rn.Sta) (q a f om n : Nat) (o : Rn.Own) (x : ByteArray) (u : Int) (h : Run W w c nm l m s q a f om n o) (hx : x.size ≤ maxLen) (hu : I64 u) :
    Calls Tryz.prog 250 #[.pointer (some ⟨q, 0, none⟩), .string x, .int .i64 u] w fun e w' => e = .returned (.tuple #[]) ∧ Hid (MaAt w' c nm (Rn.pt nm (Rn.mn l a) o x u s).2 ∧ Kp c (some om) w w' ∧ OwM w' om (n + 1) (Rn.pt nm (Rn.mn l a) o x u s).1 ∧ ∀ s' v, (Rn.pt nm (Rn.mn l a) o x u s).1 s' = some v → I64 v) := by
  have HC := hide (shared_any W w c nm l m s q a f om n o x h hx)
  have HR := hide h
  have HU := hide hu
  obtain ⟨G, hG⟩ : ∃ G, G = Rn.pt nm (Rn.mn l a) o x u s := ⟨_, rfl⟩
  have HG := hide hG
  rw [← hG]
  clear hG h hu
  cases hs : Rn.sh nm (Rn.mn l a) o x with
  | none =>
    have HV : Hid (G = (Rn.put o x u, s)) := hide (by rw [HG.out, Rn.pt, hs])
    rw [hs] at HC
    clear hs HG
    go_enter Tryz.func250, Tryz.ntmps250
    go_wp2_with fail
    refine HC.out.mono ?_
    rintro e w1 ⟨rfl, k, rfl⟩
    have hr := HR.out.drewN k
    obtain ⟨r0, r1, r2, r3⟩ := hr.fr.cell
    obtain ⟨w2, L1, ho2, hg2⟩ := hr.ow.put (by have := hr.nb; unfold maxLen; omega) hx HU.out
    have HO2 := hide ho2
    have HM := hide (hr.ma.but hr.ow.isMap hg2 hr.omp)
    have HKP := hide (((Kp.refl c (some om) w).drewN k).trans (Kp.but hg2 hr.omn (Nat.le_trans hr.omn (Nat.le_of_lt hr.ow.lt))))
    clear hr r0 r1 r2 ho2 hg2
    generalize w.drewN k = w1 at *
    simp only [ptrOf]
    go_wp2_with fail
    refine bodyPost_ret (results_none rfl _ _ _) rfl ?_
    exact ⟨rfl, hide ⟨by rw [HV.out]; exact HM.out, HKP.out, by rw [HV.out]; exact HO2.out, by rw [HV.out]; exact put_own HR.out.oi HU.out⟩⟩
  | some i =>
    obtain ⟨b, y, v, hb, hy, hv, hbd, hvr, hiv⟩ := HR.out.ma.at (sh_lt hs)
    have HV : Hid (G = (o, { s with vs := s.vs.modify i fun v => { v with val := u, st := true } })) := hide (by rw [HG.out, Rn.pt, hs])
    rw [hs] at HC
    simp only [ptrOf, hbd] at HC
    have HF := hide (show c.bs[i]? = some b ∧ nm[i]? = some y ∧ s.vs[i]? = some v ∧ I64 v.val from ⟨hb, hy, hv, hiv⟩)
    clear hs HG hb hy hv hbd hvr hiv
    go_enter Tryz.func250, Tryz.ntmps250
    go_wp2_with fail
    refine HC.out.mono ?_
    rintro e w1 ⟨rfl, k, rfl⟩
    have hr := HR.out.drewN k
    have hvr : (w.drewN k).heap[b]? = some (.cells #[.string y.1, .string y.2, .int .i64 v.val, .bool v.rd, .bool v.st] 236 (0, 0)) := hr.ma.var i b y v HF.out.1 HF.out.2.1 HF.out.2.2.1
    have hv1 := block_set hvr 4 (.bool true)
    have hv2 := block_set hv1 2 (.int .i64 u)
    have HM : Hid (MaAt (((w.drewN k).setCell ⟨b, 4, none⟩ (.bool true)).setCell ⟨b, 2, none⟩ (.int .i64 u)) c nm { s with vs := s.vs.modify i fun v => { v with val := u, st := true } }) := hide (hr.ma.setVar HF.out.1 HF.out.2.1 (fun v => { v with val := u, st := true }) HF.out.2.2.1 rfl HU.out (hv2.trans rfl) (fun k ob ho hk => block_other (block_other ho hk _) hk _)
      (fun h2 => (h2.set (h2.apart hvr (by decide)) _).set ((h2.set (h2.apart hvr (by decide)) _).apart hv1 (by decide)) _))
    have hmem := List.mem_of_getElem? HF.out.1
    have HKP : Hid (Kp c none w (((w.drewN k).setCell ⟨b, 4, none⟩ (.bool true)).setCell ⟨b, 2, none⟩ (.int .i64 u))) := hide (((Kp.refl c none w).drewN k).trans ((Kp.setV hr.ma hmem 4 (.bool true)).trans
      ⟨(Below.refl _ _).setCell (hr.ma.bsn b hmem) _, fun k _ ho _ h2 _ _ => block_other ho (fun e => h2 (by have e' : k = b := e; rw [e']; exact hmem)) _⟩))
    have HO : Hid (OwM (((w.drewN k).setCell ⟨b, 4, none⟩ (.bool true)).setCell ⟨b, 2, none⟩ (.int .i64 u)) om n o) := hide (HR.out.ow.keep HKP.out HR.out.ma (by simp))
    have v4 := (block_at hvr 4).trans rfl
    have z4 := block_free hvr 4
    have v2 := (block_at hv1 2).trans rfl
    have z2 := block_free hv1 2
    clear hr hvr hv1 hv2 hmem
    generalize w.drewN k = w1 at *
    go_wp2_with fail
    go_end0
    exact ⟨rfl, hide ⟨by rw [HV.out]; exact HM.out, HKP.out.more, by rw [HV.out]; exact HO.out.mono (Nat.le_succ _), by rw [HV.out]; exact HR.out.oi⟩⟩

/-! ### What the functions that call each other must do -/
/-- A command's eight values. -/
def StV (W : World) (m : Nat) (st : St) (vs : Array Value) : Prop := ∃ e0 e1 e2 e3 va vb, vs = #[.int .i64 st.kind, .string st.name, e0, e1, e2, e3, va, vb] ∧ st.name.size ≤ maxLen ∧ ExAt W m e0 e1 e2 e3 st.e ∧ StsAt W m va st.a ∧ StsAt W m vb st.b
/-- The function is there. -/
def FunIn (l : List Mo) (a f : Nat) : Prop := ∃ y, l[a]? = some y ∧ f < y.funs.length
def EvOk (W : World) (c : Cfg) (nm : List (ByteArray × ByteArray)) (l : List Mo) (m K : Nat) (F : Rn.Fns) (g : Nat) : Prop :=
  ∀ (w : World) (s : Rn.Sta) (q a f om n : Nat) (o : Rn.Own) (mm : Nat) (c0 c1 c2 c3 : Value) (x : Ex), Run W w c nm l m s q a f om n o → FunIn l a f → ExAt W mm c0 c1 c2 c3 x → Lat.exprB mm x = true → s.fuel * K + mm ≤ g →
    Calls Tryz.prog 142 #[.pointer (some ⟨q, 0, none⟩), .agg #[c0, c1, c2, c3]] w fun e w' => e = .returned (.tuple #[.int .i64 (F.ev a f o x s).1, .int .i64 (F.ev a f o x s).2.1]) ∧ Hid (MaAt w' c nm (F.ev a f o x s).2.2 ∧ Kp c none w w' ∧ I64 (F.ev a f o x s).1)
/-- What is so behind a command. -/
structure Aft (w w' : World) (c : Cfg) (nm : List (ByteArray × ByteArray)) (s : Rn.Sta) (om n : Nat) (r : Rn.Own × Rn.Sta) : Prop where
  ma : MaAt w' c nm r.2
  kp : Kp c (some om) w w'
  ow : ∃ n', OwM w' om n' r.1 ∧ n' + r.2.fuel ≤ n + s.fuel
  oi : ∀ s v, r.1 s = some v → I64 v
  le : r.2.fuel ≤ s.fuel
def DoOk (W : World) (c : Cfg) (nm : List (ByteArray × ByteArray)) (l : List Mo) (m K : Nat) (F : Rn.Fns) (g : Nat) : Prop :=
  ∀ (w : World) (s : Rn.Sta) (q a f om n : Nat) (o : Rn.Own) (mm : Nat) (vs : Array Value) (st : St), Run W w c nm l m s q a f om n o → FunIn l a f → StV W mm st vs → Lat.stB mm st = true → s.fuel * K + mm ≤ g →
    Calls Tryz.prog 204 #[.pointer (some ⟨q, 0, none⟩), .agg vs] w fun e w' => e = .returned (.int .i64 (F.dO a f o st s).1) ∧ Hid (Aft w w' c nm s om n (F.dO a f o st s).2)
def LpOk (W : World) (c : Cfg) (nm : List (ByteArray × ByteArray)) (l : List Mo) (m K : Nat) (F : Rn.Fns) (g : Nat) : Prop :=
  ∀ (w : World) (s : Rn.Sta) (q a f om n : Nat) (o : Rn.Own) (mm : Nat) (vs : Array Value) (st : St), Run W w c nm l m s q a f om n o → FunIn l a f → StV W mm st vs → Lat.stB mm st = true → s.fuel * K + mm + 1 ≤ g →
    Calls Tryz.prog 249 #[.pointer (some ⟨q, 0, none⟩), .agg vs] w fun e w' => e = .returned (.int .i64 (F.lp a f o st s).1) ∧ Hid (Aft w w' c nm s om n (F.lp a f o st s).2)
/-- Behind a command the frame goes on. -/
theorem Aft.run {W w w' : World} {c : Cfg} {nm : List (ByteArray × ByteArray)} {l : List Mo} {m : Nat} {s : Rn.Sta} {q a f om n : Nat} {o : Rn.Own} {r : Rn.Own × Rn.Sta} (h : Aft w w' c nm s om n r) (hr : Run W w c nm l m s q a f om n o) : ∃ n', Run W w' c nm l m r.2 q a f om n' r.1 ∧ n' + r.2.fuel ≤ n + s.fuel := by
  obtain ⟨n', h1, h2⟩ := h.ow
  exact ⟨n', ⟨hr.below.trans h.kp.below, hr.size, hr.mods, h.ma, hr.fr.keep h.kp hr.ma (Or.inr rfl) hr.ow, h1, hr.omn, hr.omp, hr.alt, h.oi, by have := hr.nb; omega⟩, h2⟩
theorem Aft.trans {w w1 w2 : World} {c : Cfg} {nm : List (ByteArray × ByteArray)} {s : Rn.Sta} {om n n1 : Nat} {r r2 : Rn.Own × Rn.Sta} (h : Aft w w1 c nm s om n r) (h2 : Aft w1 w2 c nm r.2 om n1 r2) (hn : n1 + r.2.fuel ≤ n + s.fuel) : Aft w w2 c nm s om n r2 := by
  obtain ⟨n2, k1, k2⟩ := h2.ow
  exact ⟨h2.ma, h.kp.trans h2.kp, ⟨n2, k1, by omega⟩, h2.oi, Nat.le_trans h2.le h.le⟩
theorem Aft.refl {W w : World} {c : Cfg} {nm : List (ByteArray × ByteArray)} {l : List Mo} {m : Nat} {s : Rn.Sta} {q a f om n : Nat} {o : Rn.Own} (hr : Run W w c nm l m s q a f om n o) : Aft w w c nm s om n (o, s) := ⟨hr.ma, Kp.refl _ _ _, ⟨n, hr.ow, Nat.le_refl _⟩, hr.oi, Nat.le_refl _⟩
/-- Behind an expression. -/
theorem Run.ev {W w w' : World} {c : Cfg} {nm : List (ByteArray × ByteArray)} {l : List Mo} {m : Nat} {s s' : Rn.Sta} {q a f om n : Nat} {o : Rn.Own} (hr : Run W w c nm l m s q a f om n o) (hm : MaAt w' c nm s') (hk : Kp c none w w') (hf : s'.fuel ≤ s.fuel) : Run W w' c nm l m s' q a f om n o :=
  ⟨hr.below.trans hk.below, hr.size, hr.mods, hm, hr.fr.keep hk hr.ma (Or.inl rfl) hr.ow, hr.ow.keep hk hr.ma (by simp), hr.omn, hr.omp, hr.alt, hr.oi, by have := hr.nb; omega⟩
theorem Run.aft {W w w' : World} {c : Cfg} {nm : List (ByteArray × ByteArray)} {l : List Mo} {m : Nat} {s s' : Rn.Sta} {q a f om n : Nat} {o : Rn.Own} (hr : Run W w c nm l m s q a f om n o) (hm : MaAt w' c nm s') (hk : Kp c none w w') (hf : s'.fuel ≤ s.fuel) : Aft w w' c nm s om n (o, s') :=
  ⟨hm, hk.more, ⟨n, hr.ow.keep hk hr.ma (by simp), by show n + s'.fuel ≤ n + s.fuel; omega⟩, hr.oi, hf⟩
/-- Old memory is there as it was. -/
theorem Run.cell {W w : World} {c : Cfg} {nm : List (ByteArray × ByteArray)} {l : List Mo} {m : Nat} {s : Rn.Sta} {q a f om n : Nat} {o : Rn.Own} (hr : Run W w c nm l m s q a f om n o) {p : Addr} {v : Value} (hp : W.cell? p = some v) : w.cell? p = some v := by
  rw [hr.below.cell (by rw [hr.size]; exact World.block_lt_of_cell? _ _ hp)]
  exact hp
theorem Run.box {W w : World} {c : Cfg} {nm : List (ByteArray × ByteArray)} {l : List Mo} {m : Nat} {s : Rn.Sta} {q a f om n : Nat} {o : Rn.Own} (hr : Run W w c nm l m s q a f om n o) (ob : Obj) : Run W (w.alloc ob) c nm l m s q a f om n o :=
  hr.ev (hr.ma.below (boxBelow w ob)) (Kp.of_below (boxBelow w ob) (Nat.le_trans hr.omn (Nat.le_of_lt hr.ow.lt))) (Nat.le_refl _)
theorem Kp.box {c : Cfg} {o : Option Nat} {w w' : World} {ob : Obj} (h : Kp c o (w.alloc ob) w') (hn : c.n ≤ w.heap.size) : Kp c o w w' := (Kp.of_below (boxBelow w ob) hn).trans h
theorem Aft.box {w w' : World} {c : Cfg} {nm : List (ByteArray × ByteArray)} {s : Rn.Sta} {om n : Nat} {r : Rn.Own × Rn.Sta} {ob : Obj} (h : Aft (w.alloc ob) w' c nm s om n r) (hn : c.n ≤ w.heap.size) : Aft w w' c nm s om n r := ⟨h.ma, h.kp.box hn, h.ow, h.oi, h.le⟩
theorem Run.nle {W w : World} {c : Cfg} {nm : List (ByteArray × ByteArray)} {l : List Mo} {m : Nat} {s : Rn.Sta} {q a f om n : Nat} {o : Rn.Own} (hr : Run W w c nm l m s q a f om n o) : c.n ≤ w.heap.size := Nat.le_trans hr.omn (Nat.le_of_lt hr.ow.lt)

theorem dos_at {f : Rn.Own → St → Rn.Sta → Int × Rn.Own × Rn.Sta} {l : List St} {t : Nat} {st : St} (h : l[t]? = some st) (o : Rn.Own) (s : Rn.Sta) : Rn.dos f (l.drop t) o s = if (f o st s).1 = 0 then Rn.dos f (l.drop (t + 1)) (f o st s).2.1 (f o st s).2.2 else f o st s := by
  obtain ⟨ht, e⟩ := List.getElem?_eq_some_iff.1 h
  rw [List.drop_eq_getElem_cons ht, e]
  rfl

set_option maxHeartbeats 4000000 in
set_option maxRecDepth 100000 in
theorem doAll_any (W : World) (c : Cfg) (nm : List (ByteArray × ByteArray)) (l : List Mo) (m K : Nat) (F : Rn.Fns) (g : Nat) (hD : DoOk W c nm l m K F g) (w : World) (s : Rn.Sta) (q a f om n : Nat) (o : Rn.Own) (mm : Nat) (v : Value) (body : List St)
    (hR : Run W w c nm l m s q a f om n o) (hF : FunIn l a f) (hB : StsAt W (mm + 1) v body) (hw : Lat.bodyB (mm + 1) body = true) (hg : s.fuel * K + mm ≤ g) :
    Calls Tryz.prog 141 #[.pointer (some ⟨q, 0, none⟩), v] w fun e w' => e = .returned (.int .i64 (Rn.dos (F.dO a f) body o s).1) ∧ Hid (Aft w w' c nm s om n (Rn.dos (F.dO a f) body o s).2) := by
  have HR0 := hide hR
  have HD := hide hD
  obtain ⟨ad, b, off, cap, rfl, h0, hl, h1⟩ := hB
  have HEL := hide h1
  have HAD := hide h0
  obtain ⟨nl, hnl⟩ : ∃ n, n = body.length := ⟨_, rfl⟩
  have HNL := hide hnl
  rw [← hnl] at hl HAD ⊢
  obtain ⟨R, hRR⟩ : ∃ R, R = Rn.dos (F.dO a f) body o s := ⟨_, rfl⟩
  have HRR := hide hRR
  rw [← hRR]
  have HW := hide hw
  have HG := hide hg
  have HF := hide hF
  clear hRR hnl h0 h1 hR hD hw hg hF
  go_enter Tryz.func141, Tryz.ntmps141
  go_wp2_with fail
  go_loopw [10] (fun i wx => ∃ t : Nat, t ≤ nl ∧ i = .int .i64 t ∧ ∃ (o' : Rn.Own) (s' : Rn.Sta) (n' : Nat), Hid (Run W wx c nm l m s' q a f om n' o' ∧ Aft w wx c nm s om n (o', s') ∧ n' + s'.fuel ≤ n + s.fuel ∧ R = Rn.dos (F.dO a f) (body.drop t) o' s')) (fun i _ => nl - (intOf i).toNat)
  case atStart => exact ⟨0, Nat.zero_le _, rfl, o, s, n, hide ⟨HR0.out, Aft.refl HR0.out, Nat.le_refl _, by rw [List.drop_zero]; exact HRR.out⟩⟩
  case round =>
    obtain ⟨t, ht, rfl, o', s', n', HI⟩ := hrel
    by_cases htl : t < nl
    · obtain ⟨st, hst⟩ : ∃ st, body[t]? = some st := ⟨_, List.getElem?_eq_getElem (by rw [← HNL.out]; exact htl)⟩
      obtain ⟨-, hnm, e0, e1, e2, e3, va, vb, g0, g1, g2, g3, g4, g5, g6, g7, hx, ha, hb⟩ := HEL.out t st hst
      obtain rfl := HAD.out (by omega)
      replace g0 := HI.out.1.cell g0
      replace g1 := HI.out.1.cell g1
      replace g2 := HI.out.1.cell g2
      replace g3 := HI.out.1.cell g3
      replace g4 := HI.out.1.cell g4
      replace g5 := HI.out.1.cell g5
      replace g6 := HI.out.1.cell g6
      replace g7 := HI.out.1.cell g7
      have HST : Hid (StV W mm st #[.int .i64 st.kind, .string st.name, e0, e1, e2, e3, va, vb]) := hide ⟨e0, e1, e2, e3, va, vb, rfl, hnm, hx, ha, hb⟩
      have HSB : Hid (Lat.stB mm st = true) := hide (by
        have := HW.out
        rw [Lat.bodyB_succ, List.all_eq_true] at this
        exact this st (List.mem_of_getElem? hst))
      have HAT := hide (dos_at (f := F.dO a f) hst o' s')
      obtain ⟨xa, xc, rfl, rfl, rfl, rfl⟩ := hx.shape
      obtain ⟨aa, ac, rfl⟩ := ha.shapeN
      obtain ⟨ba, bc, rfl⟩ := hb.shapeN
      generalize st.e.args.length = ne at *
      generalize st.a.length = na at *
      generalize st.b.length = nb at *
      have HFU : Hid (s'.fuel * K + mm ≤ g) := hide (by
        have h1 := HI.out.2.1.le
        have h2 := HG.out
        have h3 : s'.fuel * K ≤ s.fuel * K := Nat.mul_le_mul_right K h1
        omega)
      have HCALL := hide (HD.out _ s' q a f om n' o' mm _ st (HI.out.1.box (.cells #[.int .i64 st.kind, .string st.name, .int .i64 st.e.kind, .int .i64 st.e.n, .string st.e.name, .slice xa ne xc, .slice aa na ac, .slice ba nb bc] 115)) HF.out HST.out HSB.out HFU.out)
      have HNE := hide HI.out.1.nle
      clear hst hnm hx ha hb
      obtain ⟨wo, rfl⟩ : ∃ wo, wo = wr := ⟨_, rfl⟩
      go_wp2_with fail
      refine HCALL.out.mono ?_
      rintro e w5 ⟨rfl, HA⟩
      obtain ⟨D, hDD⟩ : ∃ D, D = F.dO a f o' st s' := ⟨_, rfl⟩
      rw [← hDD] at HA HAT ⊢
      clear g0 g1 g2 g3 g4 g5 g6 g7 hDD
      have HA5 := hide (HA.out.box HNE.out)
      have HT5 := hide (HI.out.2.1.trans HA5.out HI.out.2.2.1)
      obtain ⟨n5, hr5, hn5⟩ := HA5.out.run HI.out.1
      have HR5 := hide hr5
      have HN5 := hide hn5
      clear hr5 hn5
      by_cases hz : D.1 = 0
      · have hz' : (D.1 == 0) = true := by simp [hz]
        have HZ := hide hz
        rw [hz]
        clear hz hz'
        go_wp2_with fail
        go_roundw
        case rel => exact ⟨t + 1, by omega, by go_num, D.2.1, D.2.2, n5, hide ⟨HR5.out, HT5.out, by have := HI.out.2.2.1; have := HN5.out; omega, by rw [HI.out.2.2.2, HAT.out, if_pos HZ.out]⟩⟩
        case measure => simp [intOf]; omega
      · have hz' : (D.1 == 0) = false := by simp [hz]
        have HZ := hide hz
        clear hz
        go_wp2_with fail
        go_ret
        exact ⟨by rw [HI.out.2.2.2, HAT.out, if_neg HZ.out]; rfl, hide (by rw [HI.out.2.2.2, HAT.out, if_neg HZ.out]; exact HT5.out)⟩
    · have hte : t = nl := by omega
      have HV : Hid (R = (0, o', s')) := hide (by rw [HI.out.2.2.2, hte, HNL.out, List.drop_length]; rfl)
      clear hte
      go_wp2_with fail
      go_ret
      exact ⟨by rw [HV.out]; rfl, hide (by rw [HV.out]; exact HI.out.2.1)⟩

end Go.Proofs.YtnheahdcfadclaaGreatDoor

/- Walks over package tree: hasParts, isExpr. -/
namespace Go.Proofs.YtnheahdcfadclaaGreatDoor
open Go.RowKit

namespace Lat
/-- The expression itself, without its arguments. -/
def partsB (x : Ex) : Bool :=
  if x.kind = 1 then decide (0 ≤ x.n) && decide (x.n ≤ 999999) && x.name.toList.isEmpty && (x.args.length == 0)
  else if x.kind = 2 then nameB x.name.data.toList && (x.n == 0) && (x.args.length == 0)
  else if x.kind = 3 then opB x.name && (x.n == 0) && (x.args.length == 2)
  else if x.kind = 4 then callB x.name && (x.n == 0) && decide (x.args.length ≤ 4)
  else false
end Lat

theorem exprB_parts (m : Nat) (x : Ex) : Lat.exprB (m + 1) x = (Lat.partsB x && x.args.all (Lat.exprB m)) := by
  obtain ⟨k, n, s, args⟩ := x
  simp only [Lat.exprB, Lat.partsB]
  by_cases h1 : k = 1
  · rw [if_pos h1, if_pos h1]
    cases args with
    | nil => simp
    | cons a l => simp
  rw [if_neg h1, if_neg h1]
  by_cases h2 : k = 2
  · rw [if_pos h2, if_pos h2]
    cases args with
    | nil => simp [Bool.and_comm]
    | cons a l => simp
  rw [if_neg h2, if_neg h2]
  by_cases h3 : k = 3
  · rw [if_pos h3, if_pos h3]
    simp only [Bool.and_assoc]
    rw [← Bool.and_assoc, ← Bool.and_assoc (Lat.opB s), Bool.and_comm (n == 0)]
  rw [if_neg h3, if_neg h3]
  by_cases h4 : k = 4
  · rw [if_pos h4, if_pos h4]
    simp only [Bool.and_assoc]
    rw [← Bool.and_assoc, ← Bool.and_assoc (Lat.callB s), Bool.and_comm (n == 0)]
  rw [if_neg h4, if_neg h4]; rfl

set_option maxHeartbeats 2000000 in
set_option maxRecDepth 100000 in
theorem hasParts_any (w : World) (k n : Int) (s : ByteArray) (a : Option Addr) (args : List Ex) (cap : Nat) (hs : s.size ≤ maxLen) (hl : args.length ≤ 9223372036854775807) :
    Calls Tryz.prog 235 #[.agg #[.int .i64 k, .int .i64 n, .string s, .slice a args.length cap]] w fun e w' => e = .returned (.bool (Lat.partsB ⟨k, n, s, args⟩)) ∧ Below w.heap.size w w' := by
  have HP : Hid (Lat.partsB ⟨k, n, s, args⟩ = if k = 1 then decide (0 ≤ n) && decide (n ≤ 999999) && s.toList.isEmpty && (args.length == 0)
      else if k = 2 then Lat.nameB s.data.toList && (n == 0) && (args.length == 0)
      else if k = 3 then Lat.opB s && (n == 0) && (args.length == 2)
      else if k = 4 then Lat.callB s && (n == 0) && decide (args.length ≤ 4)
      else false) := rfl
  generalize Lat.partsB ⟨k, n, s, args⟩ = R at *
  generalize args.length = len at *
  clear args
  by_cases h1 : k = 1
  · subst h1
    rw [if_pos rfl] at HP
    by_cases hn0 : 0 ≤ n
    · rw [decide_eq_true hn0, Bool.true_and] at HP
      by_cases hn1 : n ≤ 999999
      · rw [decide_eq_true hn1, Bool.true_and] at HP
        cases hb2 : s.toList.isEmpty
        · rw [hb2] at HP
          go_enter Tryz.func235, Tryz.ntmps235
          go_wp2
          go_ret
          exact ⟨ret_bool (by rw [HP.out]; rfl), boxBelow _ _⟩
        · rw [hb2, Bool.true_and] at HP
          go_enter Tryz.func235, Tryz.ntmps235
          go_wp2
          go_ret
          exact ⟨ret_bool (by rw [HP.out]; exact nat_beq len 0), boxBelow _ _⟩
      · rw [decide_eq_false hn1] at HP
        go_enter Tryz.func235, Tryz.ntmps235
        go_wp2
        go_ret
        exact ⟨ret_bool (by rw [HP.out]; rfl), boxBelow _ _⟩
    · rw [decide_eq_false hn0] at HP
      go_enter Tryz.func235, Tryz.ntmps235
      go_wp2
      go_ret
      exact ⟨ret_bool (by rw [HP.out]; rfl), boxBelow _ _⟩
  rw [if_neg h1] at HP
  by_cases h2 : k = 2
  · subst h2
    rw [if_pos rfl] at HP
    clear h1
    go_enter Tryz.func235, Tryz.ntmps235
    go_wp2_with fail
    refine (isName_any _ s hs).mono ?_
    rintro e w' ⟨rfl, hw⟩
    subst hw
    cases hb : Lat.nameB s.data.toList
    · rw [hb] at HP
      go_wp2
      go_ret
      exact ⟨ret_bool (by rw [HP.out]; rfl), boxBelow _ _⟩
    · rw [hb, Bool.true_and] at HP
      cases hn : (n == 0)
      · rw [hn] at HP
        go_wp2
        go_ret
        exact ⟨ret_bool (by rw [HP.out]; rfl), boxBelow _ _⟩
      · rw [hn, Bool.true_and] at HP
        go_wp2
        go_ret
        exact ⟨ret_bool (by rw [HP.out]; exact nat_beq len 0), boxBelow _ _⟩
  rw [if_neg h2] at HP
  by_cases h3 : k = 3
  · subst h3
    rw [if_pos rfl] at HP
    clear h1 h2
    go_enter Tryz.func235, Tryz.ntmps235
    go_wp2_with fail
    refine (isOperator_any _ s hs).mono ?_
    rintro e w' ⟨rfl, hw⟩
    subst hw
    cases hb : Lat.opB s
    · rw [hb] at HP
      go_wp2
      go_ret
      exact ⟨ret_bool (by rw [HP.out]; rfl), boxBelow _ _⟩
    · rw [hb, Bool.true_and] at HP
      cases hn : (n == 0)
      · rw [hn] at HP
        go_wp2
        go_ret
        exact ⟨ret_bool (by rw [HP.out]; rfl), boxBelow _ _⟩
      · rw [hn, Bool.true_and] at HP
        go_wp2
        go_ret
        exact ⟨ret_bool (by rw [HP.out]; exact nat_beq len 2), boxBelow _ _⟩
  rw [if_neg h3] at HP
  by_cases h4 : k = 4
  · subst h4
    rw [if_pos rfl] at HP
    clear h1 h2 h3
    have q1 : (w.alloc (.cells #[.int .i64 4, .int .i64 n, .string s, .slice a len cap] 99)).cell? ⟨w.heap.size, 1, none⟩ = some (.int .i64 n) := by simp [go_sem]
    have q3 := boxCells4 w (.int .i64 4) (.int .i64 n) (.string s) (.slice a len cap) 99
    go_enter Tryz.func235, Tryz.ntmps235
    go_wp2_with fail
    refine (isCallee_any _ s hs).mono ?_
    rintro e w1 ⟨rfl, hb1⟩
    have p1 := cellUp q1 hb1
    have p3 := cellUp q3 hb1
    have HB := hide (up1 hb1)
    clear q1 q3 hb1
    cases hb : Lat.callB s
    · rw [hb] at HP
      go_wp2
      go_ret
      exact ⟨ret_bool (by rw [HP.out]; rfl), HB.out⟩
    · rw [hb, Bool.true_and] at HP
      cases hn : (n == 0)
      · rw [hn] at HP
        go_wp2
        go_ret
        exact ⟨ret_bool (by rw [HP.out]; rfl), HB.out⟩
      · rw [hn, Bool.true_and] at HP
        go_wp2
        go_ret
        exact ⟨ret_bool (by rw [HP.out]; exact decide_eq_decide.2 (by omega)), HB.out⟩
  rw [if_neg h4] at HP
  have k1 : (k == 1) = false := by simp [h1]
  have k2 : (k == 2) = false := by simp [h2]
  have k3 : (k == 3) = false := by simp [h3]
  have k4 : (k == 4) = false := by simp [h4]
  clear h1 h2 h3 h4
  go_enter Tryz.func235, Tryz.ntmps235
  go_wp2
  go_ret
  exact ⟨ret_bool (by rw [HP.out]), boxBelow _ _⟩

set_option maxHeartbeats 2000000 in
set_option maxRecDepth 100000 in
theorem isExpr_any (m : Nat) : ∀ (w : World) (c0 c1 c2 c3 : Value) (x : Ex), ExAt w m c0 c1 c2 c3 x →
    Calls Tryz.prog 171 #[.agg #[c0, c1, c2, c3]] w fun e w' => e = .returned (.bool (Lat.exprB m x)) ∧ Below w.heap.size w w' := by
  induction m with
  | zero => intro w c0 c1 c2 c3 x h; exact False.elim h
  | succ m ih =>
    intro w c0 c1 c2 c3 x h
    have HI := hide ih
    clear ih
    obtain ⟨rfl, rfl, rfl, hsz, hk1, hk2, a, b, off, cap, rfl, ha, hl, hel⟩ := h
    obtain ⟨k, n, s, args⟩ := x
    simp only at hsz hk1 hk2 ha hl hel ⊢
    have HE := hide (exprB_parts m ⟨k, n, s, args⟩)
    have HPC := hide (fun w => hasParts_any w k n s a args cap hsz hl)
    have HEL := hide hel
    have HA := hide ha
    clear hel ha
    generalize Lat.partsB ⟨k, n, s, args⟩ = pb at *
    obtain ⟨len, hlen⟩ : ∃ len, len = args.length := ⟨_, rfl⟩
    have HL := hide hlen
    rw [← hlen] at hl HA HPC ⊢
    clear hlen
    have q3 := boxCells4 w (.int .i64 k) (.int .i64 n) (.string s) (.slice a len cap) 99
    go_enter Tryz.func171, Tryz.ntmps171
    go_wp2_with fail
    refine (HPC.out _).mono ?_
    rintro e W0 ⟨rfl, hb1⟩
    replace q3 := cellUp q3 hb1
    have HB0 := hide (up1 hb1)
    clear hb1
    cases pb
    · go_wp2
      go_ret
      exact ⟨ret_bool (by rw [HE.out]; rfl), HB0.out⟩
    · go_wp2
      go_loopw [11] (fun i wr => ∃ j : Nat, j ≤ len ∧ i = .int .i64 j ∧ (∀ d y, d < j → args[d]? = some y → Lat.exprB m y = true) ∧ Below W0.heap.size W0 wr) (fun i _ => len - (intOf i).toNat)
      case atStart => exact ⟨0, Nat.zero_le _, rfl, fun d y hd => absurd hd (Nat.not_lt_zero _), Below.refl _ _⟩
      case round =>
        obtain ⟨j, hj, rfl, hall, hnx⟩ := hrel
        have HALL := hide hall
        clear hall
        by_cases hjl : j < len
        · obtain ⟨y, hy⟩ : ∃ y, args[j]? = some y := ⟨_, List.getElem?_eq_getElem (by rw [← HL.out]; exact hjl)⟩
          obtain ⟨e0, e1, e2, e3, g0, g1, g2, g3, hye⟩ := HEL.out j y hy
          have HY := hide hy
          obtain rfl := HA.out (by omega)
          have hbb := up HB0.out hnx
          have u0 := cellUp g0 hbb
          have u1 := cellUp g1 hbb
          have u2' := cellUp g2 hbb
          have u3' := cellUp g3 hbb
          have HYE := hide (hye.below hbb)
          obtain ⟨a', cap', rfl, rfl, rfl, rfl⟩ := hye.shape
          have HNX := hide hnx
          clear g0 g1 g2 g3 hye hy hbb hnx
          go_wp2_with fail
          refine (HI.out _ _ _ _ _ y (HYE.out.below (boxBelow _ _))).mono ?_
          rintro e w5 ⟨rfl, hb5⟩
          have HN5 := hide (up HNX.out (up1 hb5))
          clear hb5 HNX
          cases hyb : Lat.exprB m y
          · have HYB := hide hyb
            go_wp2
            go_ret
            exact ⟨ret_bool (by rw [HE.out, all_not? HY.out HYB.out]; rfl), up HB0.out HN5.out⟩
          · have HYB := hide hyb
            go_wp2
            go_roundw
            case rel => exact ⟨j + 1, by omega, by go_num, fun d z hd hz => by
                by_cases e : d = j
                · subst e
                  rw [HY.out] at hz
                  cases hz
                  exact HYB.out
                · exact HALL.out d z (by omega) hz, HN5.out⟩
            case measure => simp [intOf]; omega
        · go_wp2
          go_ret
          have hall : args.all (Lat.exprB m) = true := all_get? (fun d z hz => HALL.out d z (by
            have := (List.getElem?_eq_some_iff.1 hz).1
            have := HL.out
            omega) hz)
          exact ⟨ret_bool (by rw [HE.out, hall]; rfl), up HB0.out hnx⟩

end Go.Proofs.YtnheahdcfadclaaGreatDoor

/- Walks over package tree: hasShape, isCommand, areCommands. -/
namespace Go.Proofs.YtnheahdcfadclaaGreatDoor
open Go.RowKit

set_option maxHeartbeats 2000000 in
set_option maxRecDepth 100000 in
theorem hasShape_any (w : World) (k : Int) (nm : ByteArray) (ke ne : Int) (se : ByteArray) (ae : Option Addr) (le ce : Nat) (a1 a2 : Option Addr) (l1 l2 c1 c2 : Nat) (R : Bool)
    (hR : R = if k = 1 ∨ k = 4 then Lat.nameB nm.data.toList && (l2 == 0) && (l1 == 0) else if k = 2 then nm.toList.isEmpty else if k = 3 then nm.toList.isEmpty && (l2 == 0) else false)
    (hs : nm.size ≤ maxLen) (_h1 : l1 ≤ 9223372036854775807) (_h2 : l2 ≤ 9223372036854775807) :
    Calls Tryz.prog 272 #[.agg #[.int .i64 k, .string nm, .int .i64 ke, .int .i64 ne, .string se, .slice ae le ce, .slice a1 l1 c1, .slice a2 l2 c2]] w fun e w' => e = .returned (.bool R) ∧ Below w.heap.size w w' := by
  have HP := hide hR
  clear hR
  by_cases k14 : k = 1 ∨ k = 4
  · rw [if_pos k14] at HP
    rcases k14 with rfl | rfl
    all_goals
      go_enter Tryz.func272, Tryz.ntmps272
      go_wp2_with fail
      refine (isName_any _ nm hs).mono ?_
      rintro e w' ⟨rfl, hw⟩
      subst hw
      cases hb : Lat.nameB nm.data.toList
      · rw [hb] at HP
        go_wp2
        go_ret
        exact ⟨ret_bool (by rw [HP.out]; rfl), boxBelow _ _⟩
      · rw [hb, Bool.true_and] at HP
        by_cases hl1 : l1 = 0
        · have hl1' : ((l1 : Int) == 0) = true := by simp [hl1]
          rw [show (l1 == 0) = true from by simp [hl1], Bool.and_true] at HP
          clear hl1
          go_wp2
          go_ret
          exact ⟨ret_bool (by rw [HP.out]; exact nat_beq l2 0), boxBelow _ _⟩
        · have hl1' : ((l1 : Int) == 0) = false := by simp [hl1]
          rw [show (l1 == 0) = false from by simp [hl1], Bool.and_false] at HP
          clear hl1
          go_wp2
          go_ret
          exact ⟨ret_bool (by rw [HP.out]), boxBelow _ _⟩
  rw [if_neg k14] at HP
  have n1 : (k == 1) = false := by simp; omega
  have n4 : (k == 4) = false := by simp; omega
  by_cases k2 : k = 2
  · subst k2
    rw [if_pos rfl] at HP
    clear k14 n1 n4
    generalize hb : nm.toList.isEmpty = b2 at *
    have HB := hide hb
    cases b2
    all_goals
      go_enter Tryz.func272, Tryz.ntmps272
      go_wp2
      go_ret
      exact ⟨ret_bool (by rw [HP.out]), boxBelow _ _⟩
  rw [if_neg k2] at HP
  have n2 : (k == 2) = false := by simp; omega
  by_cases k3 : k = 3
  · subst k3
    rw [if_pos rfl] at HP
    clear k14 k2 n1 n2 n4
    cases hb : nm.toList.isEmpty
    · rw [hb] at HP
      go_enter Tryz.func272, Tryz.ntmps272
      go_wp2
      go_ret
      exact ⟨ret_bool (by rw [HP.out]; rfl), boxBelow _ _⟩
    · rw [hb, Bool.true_and] at HP
      go_enter Tryz.func272, Tryz.ntmps272
      go_wp2
      go_ret
      exact ⟨ret_bool (by rw [HP.out]; exact nat_beq l2 0), boxBelow _ _⟩
  rw [if_neg k3] at HP
  have n3 : (k == 3) = false := by simp; omega
  clear k14 k2 k3
  go_enter Tryz.func272, Tryz.ntmps272
  go_wp2
  go_ret
  exact ⟨ret_bool (by rw [HP.out]), boxBelow _ _⟩

/-- The eight values are the command s. -/
def StAt (w : World) (m : Nat) (e0 e1 e2 e3 va vb : Value) (s : St) : Prop :=
  I64 s.kind ∧ s.name.size ≤ maxLen ∧ ExAt w m e0 e1 e2 e3 s.e ∧ StsAt w m va s.a ∧ StsAt w m vb s.b
theorem StAt.below {w w' : World} {m : Nat} {e0 e1 e2 e3 va vb : Value} {s : St} (h : StAt w m e0 e1 e2 e3 va vb s) (hb : Below w.heap.size w w') : StAt w' m e0 e1 e2 e3 va vb s :=
  ⟨h.1, h.2.1, h.2.2.1.below hb, h.2.2.2.1.below hb, h.2.2.2.2.below hb⟩

section
variable (w : World) (c0 c1 c2 c3 c4 c5 c6 c7 : Value) (t : TypeId)
theorem box8_0 : (w.alloc (.cells #[c0, c1, c2, c3, c4, c5, c6, c7] t)).cell? ⟨w.heap.size, 0, none⟩ = some c0 := by simp [go_sem]
theorem box8_1 : (w.alloc (.cells #[c0, c1, c2, c3, c4, c5, c6, c7] t)).cell? ⟨w.heap.size, 1, none⟩ = some c1 := by simp [go_sem]
theorem box8_2 : (w.alloc (.cells #[c0, c1, c2, c3, c4, c5, c6, c7] t)).cell? ⟨w.heap.size, 2, none⟩ = some c2 := by simp [go_sem]
theorem box8_3 : (w.alloc (.cells #[c0, c1, c2, c3, c4, c5, c6, c7] t)).cell? ⟨w.heap.size, 3, none⟩ = some c3 := by simp [go_sem]
theorem box8_4 : (w.alloc (.cells #[c0, c1, c2, c3, c4, c5, c6, c7] t)).cell? ⟨w.heap.size, 4, none⟩ = some c4 := by simp [go_sem]
theorem box8_5 : (w.alloc (.cells #[c0, c1, c2, c3, c4, c5, c6, c7] t)).cell? ⟨w.heap.size, 5, none⟩ = some c5 := by simp [go_sem]
end

set_option maxHeartbeats 2000000 in
set_option maxRecDepth 100000 in
theorem isCommand_of (m : Nat) (hi : ∀ (w : World) (v : Value) (l : List St), StsAt w m v l → Calls Tryz.prog 170 #[v] w fun e w' => e = .returned (.bool (Lat.bodyB m l)) ∧ Below w.heap.size w w')
    (w : World) (e0 e1 e2 e3 va vb : Value) (s : St) (h : StAt w m e0 e1 e2 e3 va vb s) :
    Calls Tryz.prog 234 #[.agg #[.int .i64 s.kind, .string s.name, e0, e1, e2, e3, va, vb]] w fun e w' => e = .returned (.bool (Lat.stB m s)) ∧ Below w.heap.size w w' := by
  have HI := hide hi
  clear hi
  have HS := hide h
  obtain ⟨_, hnm, hx, hsa, hsb⟩ := h
  obtain ⟨ae, ce, rfl, rfl, rfl, rfl⟩ := hx.shape
  obtain ⟨a1, cap1, rfl, hl1⟩ := hsa.shape
  obtain ⟨a2, cap2, rfl, hl2⟩ := hsb.shape
  clear hx hsa hsb
  have HE : Hid (Lat.stB m s = (Lat.stH s && Lat.exprB m s.e && Lat.bodyB m s.a && Lat.bodyB m s.b)) := rfl
  have HSH := hide (fun w => hasShape_any w s.kind s.name s.e.kind s.e.n s.e.name ae s.e.args.length ce a1 a2 s.a.length s.b.length cap1 cap2 (Lat.stH s) rfl hnm hl1 hl2)
  generalize s.e.args.length = le at *
  generalize s.a.length = l1 at *
  generalize s.b.length = l2 at *
  have q2 := box8_2 w (.int .i64 s.kind) (.string s.name) (.int .i64 s.e.kind) (.int .i64 s.e.n) (.string s.e.name) (.slice ae le ce) (.slice a1 l1 cap1) (.slice a2 l2 cap2) 115
  have q3 := box8_3 w (.int .i64 s.kind) (.string s.name) (.int .i64 s.e.kind) (.int .i64 s.e.n) (.string s.e.name) (.slice ae le ce) (.slice a1 l1 cap1) (.slice a2 l2 cap2) 115
  have q4 := box8_4 w (.int .i64 s.kind) (.string s.name) (.int .i64 s.e.kind) (.int .i64 s.e.n) (.string s.e.name) (.slice ae le ce) (.slice a1 l1 cap1) (.slice a2 l2 cap2) 115
  have q5 := box8_5 w (.int .i64 s.kind) (.string s.name) (.int .i64 s.e.kind) (.int .i64 s.e.n) (.string s.e.name) (.slice ae le ce) (.slice a1 l1 cap1) (.slice a2 l2 cap2) 115
  have q6 := boxCells86 w (.int .i64 s.kind) (.string s.name) (.int .i64 s.e.kind) (.int .i64 s.e.n) (.string s.e.name) (.slice ae le ce) (.slice a1 l1 cap1) (.slice a2 l2 cap2) 115
  have q7 := boxCells87 w (.int .i64 s.kind) (.string s.name) (.int .i64 s.e.kind) (.int .i64 s.e.n) (.string s.e.name) (.slice ae le ce) (.slice a1 l1 cap1) (.slice a2 l2 cap2) 115
  go_enter Tryz.func234, Tryz.ntmps234
  go_wp2_with fail
  refine (HSH.out _).mono ?_
  rintro e w1 ⟨rfl, hb1⟩
  replace q2 := cellUp q2 hb1
  replace q3 := cellUp q3 hb1
  replace q4 := cellUp q4 hb1
  replace q5 := cellUp q5 hb1
  replace q6 := cellUp q6 hb1
  replace q7 := cellUp q7 hb1
  have HB1 := hide (up1 hb1)
  clear hb1 HSH
  generalize Lat.stH s = sh at *
  cases sh
  · go_wp2
    go_ret
    exact ⟨ret_bool (by rw [HE.out]; rfl), HB1.out⟩
  go_wp2_with fail
  refine (isExpr_any m _ _ _ _ _ s.e (HS.out.below HB1.out).2.2.1).mono ?_
  rintro e w2 ⟨rfl, hb2⟩
  replace q6 := cellUp q6 hb2
  replace q7 := cellUp q7 hb2
  have HB2 := hide (up HB1.out hb2)
  clear hb2 q2 q3 q4 q5
  generalize Lat.exprB m s.e = xb at *
  cases xb
  · go_wp2
    go_ret
    exact ⟨ret_bool (by rw [HE.out]; rfl), HB2.out⟩
  go_wp2_with fail
  refine (HI.out _ _ s.a (HS.out.below HB2.out).2.2.2.1).mono ?_
  rintro e w3 ⟨rfl, hb3⟩
  replace q7 := cellUp q7 hb3
  have HB3 := hide (up HB2.out hb3)
  clear hb3 q6
  generalize Lat.bodyB m s.a = ab at *
  cases ab
  · go_wp2
    go_ret
    exact ⟨ret_bool (by rw [HE.out]; rfl), HB3.out⟩
  go_wp2_with fail
  refine (HI.out _ _ s.b (HS.out.below HB3.out).2.2.2.2).mono ?_
  rintro e w4 ⟨rfl, hb4⟩
  have HB4 := hide (up HB3.out hb4)
  clear hb4 q7
  generalize Lat.bodyB m s.b = bb at *
  go_wp2
  go_ret
  exact ⟨ret_bool (by rw [HE.out]; cases bb <;> rfl), HB4.out⟩

set_option maxHeartbeats 2000000 in
set_option maxRecDepth 100000 in
theorem areCommands_any (m : Nat) : ∀ (w : World) (v : Value) (l : List St), StsAt w m v l →
    Calls Tryz.prog 170 #[v] w fun e w' => e = .returned (.bool (Lat.bodyB m l)) ∧ Below w.heap.size w w' := by
  induction m with
  | zero => intro w v l h; exact False.elim h
  | succ m ih =>
    intro w v l h
    have HI := hide (isCommand_of m ih)
    clear ih
    obtain ⟨a, b, off, cap, rfl, ha, hl, hel⟩ := h
    have HE := hide (Lat.bodyB_succ m l)
    have HEL := hide hel
    have HA := hide ha
    clear hel ha
    obtain ⟨len, hlen⟩ : ∃ len, len = l.length := ⟨_, rfl⟩
    have HL := hide hlen
    rw [← hlen] at hl HA ⊢
    clear hlen
    go_enter Tryz.func170, Tryz.ntmps170
    go_wp2
    go_loopw [7] (fun i wr => ∃ j : Nat, j ≤ len ∧ i = .int .i64 j ∧ (∀ d y, d < j → l[d]? = some y → Lat.stB m y = true) ∧ Below w.heap.size w wr) (fun i _ => len - (intOf i).toNat)
    case atStart => exact ⟨0, Nat.zero_le _, rfl, fun d y hd => absurd hd (Nat.not_lt_zero _), Below.refl _ _⟩
    case round =>
      obtain ⟨j, hj, rfl, hall, hnx⟩ := hrel
      have HALL := hide hall
      clear hall
      by_cases hjl : j < len
      · obtain ⟨y, hy⟩ : ∃ y, l[j]? = some y := ⟨_, List.getElem?_eq_getElem (by rw [← HL.out]; exact hjl)⟩
        obtain ⟨k1, k2, e0, e1, e2, e3, va, vb, g0, g1, g2, g3, g4, g5, g6, g7, hx, hsa, hsb⟩ := HEL.out j y hy
        have HY := hide hy
        obtain rfl := HA.out (by omega)
        have u0 := cellUp g0 hnx
        have u1 := cellUp g1 hnx
        have u2' := cellUp g2 hnx
        have u3' := cellUp g3 hnx
        have u4 := cellUp g4 hnx
        have u5 := cellUp g5 hnx
        have u6 := cellUp g6 hnx
        have u7 := cellUp g7 hnx
        have HST : Hid (StAt wr m e0 e1 e2 e3 va vb y) := hide ⟨k1, k2, hx.below hnx, hsa.below hnx, hsb.below hnx⟩
        obtain ⟨ae, ce, rfl, rfl, rfl, rfl⟩ := hx.shape
        obtain ⟨a1, cap1, rfl, hl1⟩ := hsa.shape
        obtain ⟨a2, cap2, rfl, hl2⟩ := hsb.shape
        have HNX := hide hnx
        clear g0 g1 g2 g3 g4 g5 g6 g7 hx hsa hsb hy hnx
        go_wp2_with fail
        refine (HI.out _ _ _ _ _ _ _ y (HST.out.below (boxBelow _ _))).mono ?_
        rintro e w5 ⟨rfl, hb5⟩
        have HN5 := hide (up HNX.out (up1 hb5))
        clear hb5 HNX
        cases hyb : Lat.stB m y
        · have HYB := hide hyb
          go_wp2
          go_ret
          exact ⟨ret_bool (by rw [HE.out, sts_not? HY.out HYB.out]), HN5.out⟩
        · have HYB := hide hyb
          go_wp2
          go_roundw
          case rel => exact ⟨j + 1, by omega, by go_num, fun d z hd hz => by
              by_cases e : d = j
              · subst e
                rw [HY.out] at hz
                cases hz
                exact HYB.out
              · exact HALL.out d z (by omega) hz, HN5.out⟩
          case measure => simp [intOf]; omega
      · go_wp2
        go_ret
        have hall : l.all (Lat.stB m) = true := sts_get? (fun d z hz => HALL.out d z (by
          have := (List.getElem?_eq_some_iff.1 hz).1
          have := HL.out
          omega) hz)
        exact ⟨ret_bool (by rw [HE.out, hall]), hnx⟩

end Go.Proofs.YtnheahdcfadclaaGreatDoor
