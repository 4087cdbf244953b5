/- Walks over package run: burn, truth, apply. -/
import Derived.Test.YtholefgckcoklaaGreatDoorZBA
import Derived.Deep.CutRange
namespace Go.Proofs.YtholefgckcoklaaGreatDoor
open Go.RowKit Go.Maps
set_option maxHeartbeats 2000000 in
theorem burn_any (w : World) (c : Cfg) (nm : List (ByteArray × ByteArray)) (s : Rn.Sta) (h : MaAt w c nm s) :
    Calls Tryz.prog 261 #[.pointer (some ⟨c.p, 0, none⟩)] w fun e w' => e = .returned (.int .i64 (Rn.burnE s)) ∧ Hid (MaAt w' c nm (Rn.burnS s) ∧ Kp c none w w') := by
  have HM := hide h
  have hr := h.room
  obtain ⟨vp, c0, c2, c3, c4, f3, f4⟩ := h.cell
  obtain ⟨fu, hfu⟩ : ∃ n, n = s.fuel := ⟨_, rfl⟩
  have HFU := hide hfu
  rw [← hfu] at c3
  obtain ⟨E, hE⟩ : ∃ E, E = Rn.burnE s := ⟨_, rfl⟩
  have HE := hide hE
  rw [← hE]
  by_cases h0 : fu = 0
  · have hb := Rn.burn_zero (s := s) (by omega)
    have HB := hide hb
    subst h0
    clear hfu hE hb h
    go_enter Tryz.func261, Tryz.ntmps261
    go_wp2_with fail
    go_ret
    exact ⟨ret_int (by rw [HE.out, HB.out.2.1]), hide ⟨by rw [HB.out.2.2]; exact HM.out, Kp.refl _ _ _⟩⟩
  · obtain ⟨k, rfl⟩ : ∃ k, fu = k + 1 := ⟨fu - 1, by omega⟩
    have HB := hide (Rn.burn_pos (s := s) (by omega))
    have hk : k + 1 ≤ 16777215 := by omega
    have hz : (((k + 1 : Nat) : Int) == 0) = false := by rw [beq_eq_false_iff_ne]; omega
    have HS := hide (HM.out.setFuel (f := k) (by omega))
    have HSE : Hid (Rn.burnS s = { s with fuel := k }) := hide (by unfold Rn.burnS; rw [← hfu]; rfl)
    have HKP := hide (Kp.setP (o := none) HM.out 3 (.int .i64 (k : Int)))
    clear hfu hr h0 hE h
    go_enter Tryz.func261, Tryz.ntmps261
    go_wp2_with fail
    go_ret
    exact ⟨ret_int (by rw [HE.out, HB.out.2]), hide ⟨by rw [HSE.out]; exact HS.out, HKP.out⟩⟩
theorem truth_any (w : World) (b : Bool) : Calls Tryz.prog 265 #[.bool b] w fun e w' => e = .returned (.int .i64 (Rn.tr b)) ∧ w' = w := by
  cases b <;>
  · go_enter Tryz.func265, Tryz.ntmps265
    go_wp2_with fail
    go_ret
    exact ⟨rfl, rfl⟩
set_option maxHeartbeats 2000000 in
theorem apply_any (w : World) (op : ByteArray) (a b : Int) : Calls Tryz.prog 206 #[.string op, .int .i64 a, .int .i64 b] w fun e w' => e = .returned (.int .i64 (Rn.ap op a b)) ∧ w' = w := by
  obtain ⟨R, hR⟩ : ∃ R, R = Rn.ap op a b := ⟨_, rfl⟩
  rw [← hR]
  unfold Rn.ap at hR
  have HT := hide (fun b => truth_any w b)
  cases h1 : (op.toList == [43])
  · cases h2 : (op.toList == [45])
    · cases h3 : (op.toList == [42])
      · cases h4 : (op.toList == [60])
        · rw [h1, h2, h3, h4, if_neg (by simp), if_neg (by simp), if_neg (by simp), if_neg (by simp)] at hR
          subst hR
          go_enter Tryz.func206, Tryz.ntmps206
          go_wp2_with fail
          refine (HT.out _).mono ?_
          rintro e w1 ⟨rfl, rfl⟩
          go_wp2_with fail
          go_ret
          exact ⟨rfl, rfl⟩
        · rw [h1, h2, h3, h4, if_neg (by simp), if_neg (by simp), if_neg (by simp), if_pos rfl] at hR
          subst hR
          go_enter Tryz.func206, Tryz.ntmps206
          go_wp2_with fail
          refine (HT.out _).mono ?_
          rintro e w1 ⟨rfl, rfl⟩
          go_wp2_with fail
          go_ret
          exact ⟨rfl, rfl⟩
      · rw [h1, h2, h3, if_neg (by simp), if_neg (by simp), if_pos rfl] at hR
        subst hR
        go_enter Tryz.func206, Tryz.ntmps206
        go_wp2_with fail
        go_ret
        exact ⟨rfl, rfl⟩
    · rw [h1, h2, if_neg (by simp), if_pos rfl] at hR
      subst hR
      go_enter Tryz.func206, Tryz.ntmps206
      go_wp2_with fail
      go_ret
      exact ⟨rfl, rfl⟩
  · rw [h1, if_pos rfl] at hR
    subst hR
    go_enter Tryz.func206, Tryz.ntmps206
    go_wp2_with fail
    go_ret
    exact ⟨rfl, rfl⟩
end Go.Proofs.YtholefgckcoklaaGreatDoor
namespace Go.Proofs.YtholefgckcoklaaGreatDoor
open Go.RowKit Go.Maps
structure Run (W w : World) (c : Cfg) (nm : List (ByteArray × ByteArray)) (l : List Mo) (m : Nat) (s : Rn.Sta) (q a f om n : Nat) (o : Rn.Own) : Prop where
  below : Below c.n W w
  size : c.n = W.heap.size
  mods : MosAt W m c.vl l
  ma : MaAt w c nm s
  fr : FrAt w c q a f om
  ow : OwM w om n o
  omn : c.n ≤ om
  omp : c.mp ≠ om
  alt : a < l.length
  oi : ∀ s v, o s = some v → I64 v
  nb : n + s.fuel ≤ 33554432
theorem FrAt.cell {w : World} {c : Cfg} {q a f o : Nat} (h : FrAt w c q a f o) : w.cell? ⟨q, 0, none⟩ = some (.pointer (some ⟨c.p, 0, none⟩)) ∧ w.cell? ⟨q, 1, none⟩ = some (.int .i64 a) ∧ w.cell? ⟨q, 2, none⟩ = some (.int .i64 f) ∧ w.cell? ⟨q, 3, none⟩ = some (.map (some o)) :=
  ⟨(block_at h.2 0).trans rfl, (block_at h.2 1).trans rfl, (block_at h.2 2).trans rfl, (block_at h.2 3).trans rfl⟩
theorem Run.mod {W w : World} {c : Cfg} {nm : List (ByteArray × ByteArray)} {l : List Mo} {m : Nat} {s : Rn.Sta} {q a f om n : Nat} {o : Rn.Own} (h : Run W w c nm l m s q a f om n o) :
    ∃ (b off cap : Nat) (x : Mo) (vi vv vf : Value), c.vl = .slice (some ⟨b, off, none⟩) l.length cap ∧ l.length ≤ 9223372036854775807 ∧ l[a]? = some x ∧ w.cell? ⟨b, off + a * 4, none⟩ = some (.string x.name) ∧ w.cell? ⟨b, off + a * 4 + 1, none⟩ = some vi ∧ w.cell? ⟨b, off + a * 4 + 2, none⟩ = some vv ∧ w.cell? ⟨b, off + a * 4 + 3, none⟩ = some vf ∧
      MoAt W m (.agg #[.string x.name, vi, vv, vf]) x ∧ Rn.mn l a = x.name ∧ x.name.size ≤ maxLen := by
  obtain ⟨ad, b, off, cap, e, h0, hl, h1⟩ := h.mods
  have hx := List.getElem?_eq_getElem h.alt
  obtain ⟨vi, vv, vf, g0, g1, g2, g3, hm⟩ := h1 a _ hx
  have hb : ∀ {p : Addr} {v : Value}, W.cell? p = some v → w.cell? p = some v := fun {p v} hp => by
    have hlt := World.block_lt_of_cell? _ _ hp
    rw [h.below.cell (by rw [h.size]; exact hlt)]
    exact hp
  have hsz := hm
  obtain ⟨_, _, _, _, hsz, _⟩ := hsz
  exact ⟨b, off, cap, _, vi, vv, vf, by rw [e, h0 (by have := h.alt; omega)], hl, hx, hb g0, hb g1, hb g2, hb g3, hm, by unfold Rn.mn; rw [hx]; rfl, hsz⟩
theorem Run.drewN {W w : World} {c : Cfg} {nm : List (ByteArray × ByteArray)} {l : List Mo} {m : Nat} {s : Rn.Sta} {q a f om n : Nat} {o : Rn.Own} (h : Run W w c nm l m s q a f om n o) (k : Nat) : Run W (w.drewN k) c nm l m s q a f om n o :=
  ⟨drewBelow h.below k, h.size, h.mods, h.ma.drewN k, h.fr, h.ow.same rfl, h.omn, h.omp, h.alt, h.oi, h.nb⟩
theorem pos_lt {nm : List (ByteArray × ByteArray)} {x y : ByteArray} {i : Nat} (h : Rn.pos nm x y = some i) : i < nm.length := List.mem_range.1 (List.mem_of_find?_eq_some h)
theorem sh_lt {nm : List (ByteArray × ByteArray)} {x y : ByteArray} {o : Rn.Own} {i : Nat} (h : Rn.sh nm x o y = some i) : i < nm.length := by
  unfold Rn.sh at h
  split at h
  · cases h
  · exact pos_lt h
theorem MaAt.at {w : World} {c : Cfg} {nm : List (ByteArray × ByteArray)} {s : Rn.Sta} (h : MaAt w c nm s) {i : Nat} (hi : i < nm.length) : ∃ b x v, c.bs[i]? = some b ∧ nm[i]? = some x ∧ s.vs[i]? = some v ∧ c.bs.getD i 0 = b ∧ VrAt w b x v ∧ I64 v.val := by
  have h1 : i < c.bs.length := by rw [h.lenb]; exact hi
  have h2 : i < s.vs.length := by rw [h.lens]; exact hi
  exact ⟨_, _, _, List.getElem?_eq_getElem h1, List.getElem?_eq_getElem hi, List.getElem?_eq_getElem h2, by rw [List.getD, List.getElem?_eq_getElem h1]; rfl, h.var i _ _ _ (List.getElem?_eq_getElem h1) (List.getElem?_eq_getElem hi) (List.getElem?_eq_getElem h2), h.val _ (List.getElem_mem h2)⟩
theorem Kp.setV {c : Cfg} {nm : List (ByteArray × ByteArray)} {s : Rn.Sta} {o : Option Nat} {w : World} (hm : MaAt w c nm s) {b : Nat} (hb : b ∈ c.bs) (i : Nat) (v : Value) : Kp c o w (w.setCell ⟨b, i, none⟩ v) :=
  ⟨(Below.refl _ _).setCell (hm.bsn b hb) v, fun k _ ho _ h2 _ _ => block_other ho (fun e => h2 (by have e' : k = b := e; rw [e']; exact hb)) v⟩
theorem MaAt.setV {w : World} {c : Cfg} {nm : List (ByteArray × ByteArray)} {s : Rn.Sta} (h : MaAt w c nm s) {i b : Nat} {x : ByteArray × ByteArray} {v v' : Rn.Vr} (hb : c.bs[i]? = some b) (hx : nm[i]? = some x) (hv : s.vs[i]? = some v) (g : Rn.Vr → Rn.Vr) (hg : g v = v') (hi : I64 v'.val) (j : Nat) (u : Value)
    (hc : (#[Value.string x.1, .string x.2, .int .i64 v.val, .bool v.rd, .bool v.st] : Array Value).setIfInBounds j u = #[.string x.1, .string x.2, .int .i64 v'.val, .bool v'.rd, .bool v'.st]) : MaAt (w.setCell ⟨b, j, none⟩ u) c nm { s with vs := s.vs.modify i g } := by
  have hold : w.heap[b]? = some (.cells #[.string x.1, .string x.2, .int .i64 v.val, .bool v.rd, .bool v.st] 239 (0, 0)) := h.var i b x v hb hx hv
  refine h.setVar hb hx g hv hg hi ?_ (fun k ob ho hk => block_other ho hk u) (fun hr => hr.set (hr.apart hold (by decide)) u)
  unfold VrAt
  rw [block_set hold j u, hc]
theorem MaAt.but {w w' : World} {c : Cfg} {nm : List (ByteArray × ByteArray)} {s : Rn.Sta} {om : Nat} (h : MaAt w c nm s) (hom : ∃ es cl, w.heap[om]? = some (.map es cl)) (hg : w.grownBy w' (some om)) (hne : c.mp ≠ om) : MaAt w' c nm s := by
  obtain ⟨es0, cl0, hm0⟩ := hom
  have up' : ∀ {k : Nat} {ob : Obj}, w.heap[k]? = some ob → k ≠ om → w'.heap[k]? = some ob := fun ho hk => by rw [hg.block _ (block_lt ho) (fun e => hk (by injection e))]; exact ho
  obtain ⟨vp, h1, h2⟩ := h.mach
  obtain ⟨es, cl, he⟩ := h.map.isMap
  have cne : ∀ {k : Nat} {cs : Array Value} {t : TypeId} {fz : Nat × Nat}, w.heap[k]? = some (.cells cs t fz) → k ≠ om := fun ho e => by rw [e, hm0] at ho; cases ho
  exact ⟨h.base, ⟨vp, up' h1 (cne h1), h2.grown hg (fun g hv e => by
      injection e with e
      obtain ⟨cur, ht⟩ := h2.typ hv
      exact cne ht e.symm)⟩, h.lenb, h.lens, fun i b x v k1 k2 k3 => up' (h.var i b x v k1 k2 k3) (cne (h.var i b x v k1 k2 k3)), h.bsn, h.val, h.nodup, h.map.same (by rw [up' he hne, he]), h.mpn, h.room, h.prs⟩
theorem Kp.but {c : Cfg} {w w' : World} {om : Nat} (hg : w.grownBy w' (some om)) (hn : c.n ≤ om) (hs : c.n ≤ w.heap.size) : Kp c (some om) w w' :=
  ⟨(Below.refl _ _).grown hg hs (fun k e => by injection e with e; omega), fun k ob ho _ _ h3 _ => by rw [hg.block _ (block_lt ho) h3]; exact ho⟩
set_option maxHeartbeats 2000000 in
set_option maxRecDepth 100000 in
theorem shared_any (W w : World) (c : Cfg) (nm : List (ByteArray × ByteArray)) (l : List Mo) (m : Nat) (s : Rn.Sta) (q a f om n : Nat) (o : Rn.Own) (x : ByteArray) (h : Run W w c nm l m s q a f om n o) (hx : x.size ≤ maxLen) :
    Calls Tryz.prog 264 #[.pointer (some ⟨q, 0, none⟩), .string x] w fun e w' => e = .returned (ptrOf c.bs (Rn.sh nm (Rn.mn l a) o x)) ∧ ∃ k, w' = w.drewN k := by
  obtain ⟨b, off, cap, y, vi, vv, vf, hvl, hll, hy, g0, g1, g2, g3, hmo, hmn, hys⟩ := h.mod
  obtain ⟨vp, c0, c2, c3, c4, f3, f4⟩ := h.ma.cell
  obtain ⟨r0, r1, r2, r3⟩ := h.fr.cell
  rw [hmn]
  have hal := h.alt
  have L1 := h.ow.lookOk hx
  have HL2 : Hid (∀ k, (Instr.lookup 224 (.map (some c.mp)) (.agg #[.string y.name, .string x]) false).run Tryz.prog (w.drewN k) = .ok (ptrOf c.bs (Rn.pos nm y.name x)) (w.drewN k)) := hide (fun k => (h.ma.map.same (w' := w.drewN k) rfl).look hys hx)
  rw [hvl] at c0
  obtain ⟨nl, hnl⟩ : ∃ n, n = l.length := ⟨_, rfl⟩
  rw [← hnl] at c0 hal hll
  obtain ⟨R, hR⟩ : ∃ R, R = ptrOf c.bs (Rn.sh nm y.name o x) := ⟨_, rfl⟩
  have HR := hide hR
  rw [← hR]
  clear hR
  obtain ⟨yn, hyn⟩ : ∃ z, z = y.name := ⟨_, rfl⟩
  rw [← hyn] at g0 HL2 HR
  cases ho : o x with
  | some v =>
    rw [ho] at L1
    have HSH : Hid (Rn.sh nm yn o x = none) := hide (by simp [Rn.sh, ho])
    clear h hmo hy hmn hvl hnl hyn hys g1 g2 g3
    simp only [Option.getD_some, Option.isSome_some] at L1
    go_enter Tryz.func264, Tryz.ntmps264
    go_wp2_with fail
    go_ret
    exact ⟨by rw [HR.out, HSH.out]; rfl, 0, rfl⟩
  | none =>
    rw [ho] at L1
    have HSH : Hid (Rn.sh nm yn o x = Rn.pos nm yn x) := hide (by simp [Rn.sh, ho])
    rw [HSH.out] at HR
    rw [← HR.out] at HL2
    clear h hmo hy hmn hvl hnl hyn hys g1 g2 g3
    simp only [Option.getD_none, Option.isSome_none] at L1
    have L2 := HL2.out
    go_enter Tryz.func264, Tryz.ntmps264
    go_wp2_with fail
    go_quiet (fail)
    go_wp2_with fail
    go_ret
    exact ⟨rfl, _, rfl⟩
set_option maxHeartbeats 2000000 in
set_option maxRecDepth 100000 in
theorem get_any (W w : World) (c : Cfg) (nm : List (ByteArray × ByteArray)) (l : List Mo) (m : Nat) (s : Rn.Sta) (q a f om n : Nat) (o : Rn.Own) (x : ByteArray) (h : Run W w c nm l m s q a f om n o) (hx : x.size ≤ maxLen) :
    Calls Tryz.prog 204 #[.pointer (some ⟨q, 0, none⟩), .string x] w fun e w' => e = .returned (.int .i64 (Rn.gt nm (Rn.mn l a) o x s).1) ∧ Hid (MaAt w' c nm (Rn.gt nm (Rn.mn l a) o x s).2 ∧ Kp c none w w') := by
  have HC := hide (shared_any W w c nm l m s q a f om n o x h hx)
  have HR := hide h
  obtain ⟨G, hG⟩ : ∃ G, G = Rn.gt nm (Rn.mn l a) o x s := ⟨_, rfl⟩
  have HG := hide hG
  rw [← hG]
  clear hG h
  cases hs : Rn.sh nm (Rn.mn l a) o x with
  | none =>
    have HV : Hid (G = ((o x).getD 0, s)) := hide (by rw [HG.out, Rn.gt, hs])
    rw [hs] at HC
    clear hs HG
    go_enter Tryz.func204, Tryz.ntmps204
    go_wp2_with fail
    refine HC.out.mono ?_
    rintro e w1 ⟨rfl, k, rfl⟩
    have hr := HR.out.drewN k
    obtain ⟨r0, r1, r2, r3⟩ := hr.fr.cell
    have L1 := hr.ow.look hx
    have HM := hide hr.ma
    have HKP := hide ((Kp.refl c none w).drewN k)
    clear hr r0 r1 r2
    generalize w.drewN k = w1 at *
    simp only [ptrOf]
    go_wp2_with fail
    go_ret
    exact ⟨by rw [HV.out]; rfl, hide ⟨by rw [HV.out]; exact HM.out, HKP.out⟩⟩
  | some i =>
    obtain ⟨b, y, v, hb, hy, hv, hbd, hvr, hiv⟩ := HR.out.ma.at (sh_lt hs)
    have HV : Hid (G = (v.val, { s with vs := s.vs.modify i fun v => { v with rd := true } })) := hide (by rw [HG.out, Rn.gt, hs]; simp only [hv, Option.map_some, Option.getD_some])
    rw [hs] at HC
    simp only [ptrOf, hbd] at HC
    have HF := hide (show c.bs[i]? = some b ∧ nm[i]? = some y ∧ s.vs[i]? = some v ∧ I64 v.val from ⟨hb, hy, hv, hiv⟩)
    clear hs HG hb hy hv hbd hvr hiv
    go_enter Tryz.func204, Tryz.ntmps204
    go_wp2_with fail
    refine HC.out.mono ?_
    rintro e w1 ⟨rfl, k, rfl⟩
    have hr := HR.out.drewN k
    have HM := hide (hr.ma.setV HF.out.1 HF.out.2.1 HF.out.2.2.1 (fun v => { v with rd := true }) rfl HF.out.2.2.2 3 (.bool true) rfl)
    have HKP := hide (((Kp.refl c none w).drewN k).trans (Kp.setV hr.ma (List.mem_of_getElem? HF.out.1) 3 (.bool true)))
    have hvr := hr.ma.var i b y v HF.out.1 HF.out.2.1 HF.out.2.2.1
    have v2 := (block_at hvr 2).trans rfl
    have v3 := (block_at hvr 3).trans rfl
    have z3 := block_free hvr 3
    have u2 := (block_at (block_set hvr 3 (.bool true)) 2).trans rfl
    clear hr hvr
    generalize w.drewN k = w1 at *
    go_wp2_with fail
    go_ret
    exact ⟨by rw [HV.out]; rfl, hide ⟨by rw [HV.out]; exact HM.out, HKP.out⟩⟩
end Go.Proofs.YtholefgckcoklaaGreatDoor
namespace Go.Proofs.YtholefgckcoklaaGreatDoor
open Go.RowKit Go.Maps
theorem put_own {o : Rn.Own} {x : ByteArray} {v : Int} (h : ∀ s v, o s = some v → I64 v) (hv : I64 v) : ∀ s u, Rn.put o x v s = some u → I64 u := fun s u hu => by
  unfold Rn.put at hu
  split at hu
  · cases hu; exact hv
  · exact h s u hu
set_option maxHeartbeats 2000000 in
set_option maxRecDepth 100000 in
theorem put_any (W w : World) (c : Cfg) (nm : List (ByteArray × ByteArray)) (l : List Mo) (m : Nat) (s : Rn.Sta) (q a f om n : Nat) (o : Rn.Own) (x : ByteArray) (u : Int) (h : Run W w c nm l m s q a f om n o) (hx : x.size ≤ maxLen) (hu : I64 u) :
    Calls Tryz.prog 263 #[.pointer (some ⟨q, 0, none⟩), .string x, .int .i64 u] w fun e w' => e = .returned (.tuple #[]) ∧ Hid (MaAt w' c nm (Rn.pt nm (Rn.mn l a) o x u s).2 ∧ Kp c (some om) w w' ∧ OwM w' om (n + 1) (Rn.pt nm (Rn.mn l a) o x u s).1 ∧ ∀ s' v, (Rn.pt nm (Rn.mn l a) o x u s).1 s' = some v → I64 v) := by
  have HC := hide (shared_any W w c nm l m s q a f om n o x h hx)
  have HR := hide h
  have HU := hide hu
  obtain ⟨G, hG⟩ : ∃ G, G = Rn.pt nm (Rn.mn l a) o x u s := ⟨_, rfl⟩
  have HG := hide hG
  rw [← hG]
  clear hG h hu
  cases hs : Rn.sh nm (Rn.mn l a) o x with
  | none =>
    have HV : Hid (G = (Rn.put o x u, s)) := hide (by rw [HG.out, Rn.pt, hs])
    rw [hs] at HC
    clear hs HG
    go_enter Tryz.func263, Tryz.ntmps263
    go_wp2_with fail
    refine HC.out.mono ?_
    rintro e w1 ⟨rfl, k, rfl⟩
    have hr := HR.out.drewN k
    obtain ⟨r0, r1, r2, r3⟩ := hr.fr.cell
    obtain ⟨w2, L1, ho2, hg2⟩ := hr.ow.put (by have := hr.nb; unfold maxLen; omega) hx HU.out
    have HO2 := hide ho2
    have HM := hide (hr.ma.but hr.ow.isMap hg2 hr.omp)
    have HKP := hide (((Kp.refl c (some om) w).drewN k).trans (Kp.but hg2 hr.omn (Nat.le_trans hr.omn (Nat.le_of_lt hr.ow.lt))))
    clear hr r0 r1 r2 ho2 hg2
    generalize w.drewN k = w1 at *
    simp only [ptrOf]
    go_wp2_with fail
    refine bodyPost_ret (results_none rfl _ _ _) rfl ?_
    exact ⟨rfl, hide ⟨by rw [HV.out]; exact HM.out, HKP.out, by rw [HV.out]; exact HO2.out, by rw [HV.out]; exact put_own HR.out.oi HU.out⟩⟩
  | some i =>
    obtain ⟨b, y, v, hb, hy, hv, hbd, hvr, hiv⟩ := HR.out.ma.at (sh_lt hs)
    have HV : Hid (G = (o, { s with vs := s.vs.modify i fun v => { v with val := u, st := true } })) := hide (by rw [HG.out, Rn.pt, hs])
    rw [hs] at HC
    simp only [ptrOf, hbd] at HC
    have HF := hide (show c.bs[i]? = some b ∧ nm[i]? = some y ∧ s.vs[i]? = some v ∧ I64 v.val from ⟨hb, hy, hv, hiv⟩)
    clear hs HG hb hy hv hbd hvr hiv
    go_enter Tryz.func263, Tryz.ntmps263
    go_wp2_with fail
    refine HC.out.mono ?_
    rintro e w1 ⟨rfl, k, rfl⟩
    have hr := HR.out.drewN k
    have hvr : (w.drewN k).heap[b]? = some (.cells #[.string y.1, .string y.2, .int .i64 v.val, .bool v.rd, .bool v.st] 239 (0, 0)) := hr.ma.var i b y v HF.out.1 HF.out.2.1 HF.out.2.2.1
    have hv1 := block_set hvr 4 (.bool true)
    have hv2 := block_set hv1 2 (.int .i64 u)
    have HM : Hid (MaAt (((w.drewN k).setCell ⟨b, 4, none⟩ (.bool true)).setCell ⟨b, 2, none⟩ (.int .i64 u)) c nm { s with vs := s.vs.modify i fun v => { v with val := u, st := true } }) := hide (hr.ma.setVar HF.out.1 HF.out.2.1 (fun v => { v with val := u, st := true }) HF.out.2.2.1 rfl HU.out (hv2.trans rfl) (fun k ob ho hk => block_other (block_other ho hk _) hk _)
      (fun h2 => (h2.set (h2.apart hvr (by decide)) _).set ((h2.set (h2.apart hvr (by decide)) _).apart hv1 (by decide)) _))
    have hmem := List.mem_of_getElem? HF.out.1
    have HKP : Hid (Kp c none w (((w.drewN k).setCell ⟨b, 4, none⟩ (.bool true)).setCell ⟨b, 2, none⟩ (.int .i64 u))) := hide (((Kp.refl c none w).drewN k).trans ((Kp.setV hr.ma hmem 4 (.bool true)).trans
      ⟨(Below.refl _ _).setCell (hr.ma.bsn b hmem) _, fun k _ ho _ h2 _ _ => block_other ho (fun e => h2 (by have e' : k = b := e; rw [e']; exact hmem)) _⟩))
    have HO : Hid (OwM (((w.drewN k).setCell ⟨b, 4, none⟩ (.bool true)).setCell ⟨b, 2, none⟩ (.int .i64 u)) om n o) := hide (HR.out.ow.keep HKP.out HR.out.ma (by simp))
    have v4 := (block_at hvr 4).trans rfl
    have z4 := block_free hvr 4
    have v2 := (block_at hv1 2).trans rfl
    have z2 := block_free hv1 2
    clear hr hvr hv1 hv2 hmem
    generalize w.drewN k = w1 at *
    go_wp2_with fail
    go_end0
    exact ⟨rfl, hide ⟨by rw [HV.out]; exact HM.out, HKP.out.more, by rw [HV.out]; exact HO.out.mono (Nat.le_succ _), by rw [HV.out]; exact HR.out.oi⟩⟩
def StV (W : World) (m : Nat) (st : St) (vs : Array Value) : Prop := ∃ e0 e1 e2 e3 va vb, vs = #[.int .i64 st.kind, .string st.name, e0, e1, e2, e3, va, vb] ∧ st.name.size ≤ maxLen ∧ ExAt W m e0 e1 e2 e3 st.e ∧ StsAt W m va st.a ∧ StsAt W m vb st.b
def FunIn (l : List Mo) (a f : Nat) : Prop := ∃ y, l[a]? = some y ∧ f < y.funs.length
def EvOk (W : World) (c : Cfg) (nm : List (ByteArray × ByteArray)) (l : List Mo) (m K : Nat) (F : Rn.Fns) (g : Nat) : Prop :=
  ∀ (w : World) (s : Rn.Sta) (q a f om n : Nat) (o : Rn.Own) (mm : Nat) (c0 c1 c2 c3 : Value) (x : Ex), Run W w c nm l m s q a f om n o → FunIn l a f → ExAt W mm c0 c1 c2 c3 x → Lat.exprB mm x = true → s.fuel * K + mm ≤ g →
    Calls Tryz.prog 147 #[.pointer (some ⟨q, 0, none⟩), .agg #[c0, c1, c2, c3]] w fun e w' => e = .returned (.tuple #[.int .i64 (F.ev a f o x s).1, .int .i64 (F.ev a f o x s).2.1]) ∧ Hid (MaAt w' c nm (F.ev a f o x s).2.2 ∧ Kp c none w w' ∧ I64 (F.ev a f o x s).1)
structure Aft (w w' : World) (c : Cfg) (nm : List (ByteArray × ByteArray)) (s : Rn.Sta) (om n : Nat) (r : Rn.Own × Rn.Sta) : Prop where
  ma : MaAt w' c nm r.2
  kp : Kp c (some om) w w'
  ow : ∃ n', OwM w' om n' r.1 ∧ n' + r.2.fuel ≤ n + s.fuel
  oi : ∀ s v, r.1 s = some v → I64 v
  le : r.2.fuel ≤ s.fuel
def DoOk (W : World) (c : Cfg) (nm : List (ByteArray × ByteArray)) (l : List Mo) (m K : Nat) (F : Rn.Fns) (g : Nat) : Prop :=
  ∀ (w : World) (s : Rn.Sta) (q a f om n : Nat) (o : Rn.Own) (mm : Nat) (vs : Array Value) (st : St), Run W w c nm l m s q a f om n o → FunIn l a f → StV W mm st vs → Lat.stB mm st = true → s.fuel * K + mm ≤ g →
    Calls Tryz.prog 203 #[.pointer (some ⟨q, 0, none⟩), .agg vs] w fun e w' => e = .returned (.int .i64 (F.dO a f o st s).1) ∧ Hid (Aft w w' c nm s om n (F.dO a f o st s).2)
def LpOk (W : World) (c : Cfg) (nm : List (ByteArray × ByteArray)) (l : List Mo) (m K : Nat) (F : Rn.Fns) (g : Nat) : Prop :=
  ∀ (w : World) (s : Rn.Sta) (q a f om n : Nat) (o : Rn.Own) (mm : Nat) (vs : Array Value) (st : St), Run W w c nm l m s q a f om n o → FunIn l a f → StV W mm st vs → Lat.stB mm st = true → s.fuel * K + mm + 1 ≤ g →
    Calls Tryz.prog 262 #[.pointer (some ⟨q, 0, none⟩), .agg vs] w fun e w' => e = .returned (.int .i64 (F.lp a f o st s).1) ∧ Hid (Aft w w' c nm s om n (F.lp a f o st s).2)
theorem Aft.run {W w w' : World} {c : Cfg} {nm : List (ByteArray × ByteArray)} {l : List Mo} {m : Nat} {s : Rn.Sta} {q a f om n : Nat} {o : Rn.Own} {r : Rn.Own × Rn.Sta} (h : Aft w w' c nm s om n r) (hr : Run W w c nm l m s q a f om n o) : ∃ n', Run W w' c nm l m r.2 q a f om n' r.1 ∧ n' + r.2.fuel ≤ n + s.fuel := by
  obtain ⟨n', h1, h2⟩ := h.ow
  exact ⟨n', ⟨hr.below.trans h.kp.below, hr.size, hr.mods, h.ma, hr.fr.keep h.kp hr.ma (Or.inr rfl) hr.ow, h1, hr.omn, hr.omp, hr.alt, h.oi, by have := hr.nb; omega⟩, h2⟩
theorem Aft.trans {w w1 w2 : World} {c : Cfg} {nm : List (ByteArray × ByteArray)} {s : Rn.Sta} {om n n1 : Nat} {r r2 : Rn.Own × Rn.Sta} (h : Aft w w1 c nm s om n r) (h2 : Aft w1 w2 c nm r.2 om n1 r2) (hn : n1 + r.2.fuel ≤ n + s.fuel) : Aft w w2 c nm s om n r2 := by
  obtain ⟨n2, k1, k2⟩ := h2.ow
  exact ⟨h2.ma, h.kp.trans h2.kp, ⟨n2, k1, by omega⟩, h2.oi, Nat.le_trans h2.le h.le⟩
theorem Aft.refl {W w : World} {c : Cfg} {nm : List (ByteArray × ByteArray)} {l : List Mo} {m : Nat} {s : Rn.Sta} {q a f om n : Nat} {o : Rn.Own} (hr : Run W w c nm l m s q a f om n o) : Aft w w c nm s om n (o, s) := ⟨hr.ma, Kp.refl _ _ _, ⟨n, hr.ow, Nat.le_refl _⟩, hr.oi, Nat.le_refl _⟩
theorem Run.ev {W w w' : World} {c : Cfg} {nm : List (ByteArray × ByteArray)} {l : List Mo} {m : Nat} {s s' : Rn.Sta} {q a f om n : Nat} {o : Rn.Own} (hr : Run W w c nm l m s q a f om n o) (hm : MaAt w' c nm s') (hk : Kp c none w w') (hf : s'.fuel ≤ s.fuel) : Run W w' c nm l m s' q a f om n o :=
  ⟨hr.below.trans hk.below, hr.size, hr.mods, hm, hr.fr.keep hk hr.ma (Or.inl rfl) hr.ow, hr.ow.keep hk hr.ma (by simp), hr.omn, hr.omp, hr.alt, hr.oi, by have := hr.nb; omega⟩
theorem Run.aft {W w w' : World} {c : Cfg} {nm : List (ByteArray × ByteArray)} {l : List Mo} {m : Nat} {s s' : Rn.Sta} {q a f om n : Nat} {o : Rn.Own} (hr : Run W w c nm l m s q a f om n o) (hm : MaAt w' c nm s') (hk : Kp c none w w') (hf : s'.fuel ≤ s.fuel) : Aft w w' c nm s om n (o, s') :=
  ⟨hm, hk.more, ⟨n, hr.ow.keep hk hr.ma (by simp), by show n + s'.fuel ≤ n + s.fuel; omega⟩, hr.oi, hf⟩
theorem Run.cell {W w : World} {c : Cfg} {nm : List (ByteArray × ByteArray)} {l : List Mo} {m : Nat} {s : Rn.Sta} {q a f om n : Nat} {o : Rn.Own} (hr : Run W w c nm l m s q a f om n o) {p : Addr} {v : Value} (hp : W.cell? p = some v) : w.cell? p = some v := by
  rw [hr.below.cell (by rw [hr.size]; exact World.block_lt_of_cell? _ _ hp)]
  exact hp
theorem Run.box {W w : World} {c : Cfg} {nm : List (ByteArray × ByteArray)} {l : List Mo} {m : Nat} {s : Rn.Sta} {q a f om n : Nat} {o : Rn.Own} (hr : Run W w c nm l m s q a f om n o) (ob : Obj) : Run W (w.alloc ob) c nm l m s q a f om n o :=
  hr.ev (hr.ma.below (boxBelow w ob)) (Kp.of_below (boxBelow w ob) (Nat.le_trans hr.omn (Nat.le_of_lt hr.ow.lt))) (Nat.le_refl _)
theorem Kp.box {c : Cfg} {o : Option Nat} {w w' : World} {ob : Obj} (h : Kp c o (w.alloc ob) w') (hn : c.n ≤ w.heap.size) : Kp c o w w' := (Kp.of_below (boxBelow w ob) hn).trans h
theorem Aft.box {w w' : World} {c : Cfg} {nm : List (ByteArray × ByteArray)} {s : Rn.Sta} {om n : Nat} {r : Rn.Own × Rn.Sta} {ob : Obj} (h : Aft (w.alloc ob) w' c nm s om n r) (hn : c.n ≤ w.heap.size) : Aft w w' c nm s om n r := ⟨h.ma, h.kp.box hn, h.ow, h.oi, h.le⟩
theorem Run.nle {W w : World} {c : Cfg} {nm : List (ByteArray × ByteArray)} {l : List Mo} {m : Nat} {s : Rn.Sta} {q a f om n : Nat} {o : Rn.Own} (hr : Run W w c nm l m s q a f om n o) : c.n ≤ w.heap.size := Nat.le_trans hr.omn (Nat.le_of_lt hr.ow.lt)
theorem dos_at {f : Rn.Own → St → Rn.Sta → Int × Rn.Own × Rn.Sta} {l : List St} {t : Nat} {st : St} (h : l[t]? = some st) (o : Rn.Own) (s : Rn.Sta) : Rn.dos f (l.drop t) o s = if (f o st s).1 = 0 then Rn.dos f (l.drop (t + 1)) (f o st s).2.1 (f o st s).2.2 else f o st s := by
  obtain ⟨ht, e⟩ := List.getElem?_eq_some_iff.1 h
  rw [List.drop_eq_getElem_cons ht, e]
  rfl
set_option maxHeartbeats 4000000 in
set_option maxRecDepth 100000 in
theorem doAll_any (W : World) (c : Cfg) (nm : List (ByteArray × ByteArray)) (l : List Mo) (m K : Nat) (F : Rn.Fns) (g : Nat) (hD : DoOk W c nm l m K F g) (w : World) (s : Rn.Sta) (q a f om n : Nat) (o : Rn.Own) (mm : Nat) (v : Value) (body : List St)
    (hR : Run W w c nm l m s q a f om n o) (hF : FunIn l a f) (hB : StsAt W (mm + 1) v body) (hw : Lat.bodyB (mm + 1) body = true) (hg : s.fuel * K + mm ≤ g) :
    Calls Tryz.prog 146 #[.pointer (some ⟨q, 0, none⟩), v] w fun e w' => e = .returned (.int .i64 (Rn.dos (F.dO a f) body o s).1) ∧ Hid (Aft w w' c nm s om n (Rn.dos (F.dO a f) body o s).2) := by
  have HR0 := hide hR
  have HD := hide hD
  obtain ⟨ad, b, off, cap, rfl, h0, hl, h1⟩ := hB
  have HEL := hide h1
  have HAD := hide h0
  obtain ⟨nl, hnl⟩ : ∃ n, n = body.length := ⟨_, rfl⟩
  have HNL := hide hnl
  rw [← hnl] at hl HAD ⊢
  obtain ⟨R, hRR⟩ : ∃ R, R = Rn.dos (F.dO a f) body o s := ⟨_, rfl⟩
  have HRR := hide hRR
  rw [← hRR]
  have HW := hide hw
  have HG := hide hg
  have HF := hide hF
  clear hRR hnl h0 h1 hR hD hw hg hF
  go_enter Tryz.func146, Tryz.ntmps146
  go_wp2_with fail
  go_loopw [10] (fun i wx => ∃ t : Nat, t ≤ nl ∧ i = .int .i64 t ∧ ∃ (o' : Rn.Own) (s' : Rn.Sta) (n' : Nat), Hid (Run W wx c nm l m s' q a f om n' o' ∧ Aft w wx c nm s om n (o', s') ∧ n' + s'.fuel ≤ n + s.fuel ∧ R = Rn.dos (F.dO a f) (body.drop t) o' s')) (fun i _ => nl - (intOf i).toNat)
  case atStart => exact ⟨0, Nat.zero_le _, rfl, o, s, n, hide ⟨HR0.out, Aft.refl HR0.out, Nat.le_refl _, by rw [List.drop_zero]; exact HRR.out⟩⟩
  case round =>
    obtain ⟨t, ht, rfl, o', s', n', HI⟩ := hrel
    by_cases htl : t < nl
    · obtain ⟨st, hst⟩ : ∃ st, body[t]? = some st := ⟨_, List.getElem?_eq_getElem (by rw [← HNL.out]; exact htl)⟩
      obtain ⟨-, hnm, e0, e1, e2, e3, va, vb, g0, g1, g2, g3, g4, g5, g6, g7, hx, ha, hb⟩ := HEL.out t st hst
      obtain rfl := HAD.out (by omega)
      replace g0 := HI.out.1.cell g0
      replace g1 := HI.out.1.cell g1
      replace g2 := HI.out.1.cell g2
      replace g3 := HI.out.1.cell g3
      replace g4 := HI.out.1.cell g4
      replace g5 := HI.out.1.cell g5
      replace g6 := HI.out.1.cell g6
      replace g7 := HI.out.1.cell g7
      have HST : Hid (StV W mm st #[.int .i64 st.kind, .string st.name, e0, e1, e2, e3, va, vb]) := hide ⟨e0, e1, e2, e3, va, vb, rfl, hnm, hx, ha, hb⟩
      have HSB : Hid (Lat.stB mm st = true) := hide (by
        have := HW.out
        rw [Lat.bodyB_succ, List.all_eq_true] at this
        exact this st (List.mem_of_getElem? hst))
      have HAT := hide (dos_at (f := F.dO a f) hst o' s')
      obtain ⟨xa, xc, rfl, rfl, rfl, rfl⟩ := hx.shape
      obtain ⟨aa, ac, rfl⟩ := ha.shapeN
      obtain ⟨ba, bc, rfl⟩ := hb.shapeN
      generalize st.e.args.length = ne at *
      generalize st.a.length = na at *
      generalize st.b.length = nb at *
      have HFU : Hid (s'.fuel * K + mm ≤ g) := hide (by
        have h1 := HI.out.2.1.le
        have h2 := HG.out
        have h3 : s'.fuel * K ≤ s.fuel * K := Nat.mul_le_mul_right K h1
        omega)
      have HCALL := hide (HD.out _ s' q a f om n' o' mm _ st (HI.out.1.box (.cells #[.int .i64 st.kind, .string st.name, .int .i64 st.e.kind, .int .i64 st.e.n, .string st.e.name, .slice xa ne xc, .slice aa na ac, .slice ba nb bc] 119)) HF.out HST.out HSB.out HFU.out)
      have HNE := hide HI.out.1.nle
      clear hst hnm hx ha hb
      obtain ⟨wo, rfl⟩ : ∃ wo, wo = wr := ⟨_, rfl⟩
      go_wp2_with fail
      refine HCALL.out.mono ?_
      rintro e w5 ⟨rfl, HA⟩
      obtain ⟨D, hDD⟩ : ∃ D, D = F.dO a f o' st s' := ⟨_, rfl⟩
      rw [← hDD] at HA HAT ⊢
      clear g0 g1 g2 g3 g4 g5 g6 g7 hDD
      have HA5 := hide (HA.out.box HNE.out)
      have HT5 := hide (HI.out.2.1.trans HA5.out HI.out.2.2.1)
      obtain ⟨n5, hr5, hn5⟩ := HA5.out.run HI.out.1
      have HR5 := hide hr5
      have HN5 := hide hn5
      clear hr5 hn5
      by_cases hz : D.1 = 0
      · have hz' : (D.1 == 0) = true := by simp [hz]
        have HZ := hide hz
        rw [hz]
        clear hz hz'
        go_wp2_with fail
        go_roundw
        case rel => exact ⟨t + 1, by omega, by go_num, D.2.1, D.2.2, n5, hide ⟨HR5.out, HT5.out, by have := HI.out.2.2.1; have := HN5.out; omega, by rw [HI.out.2.2.2, HAT.out, if_pos HZ.out]⟩⟩
        case measure => simp [intOf]; omega
      · have hz' : (D.1 == 0) = false := by simp [hz]
        have HZ := hide hz
        clear hz
        go_wp2_with fail
        go_ret
        exact ⟨by rw [HI.out.2.2.2, HAT.out, if_neg HZ.out]; rfl, hide (by rw [HI.out.2.2.2, HAT.out, if_neg HZ.out]; exact HT5.out)⟩
    · have hte : t = nl := by omega
      have HV : Hid (R = (0, o', s')) := hide (by rw [HI.out.2.2.2, hte, HNL.out, List.drop_length]; rfl)
      clear hte
      go_wp2_with fail
      go_ret
      exact ⟨by rw [HV.out]; rfl, hide (by rw [HV.out]; exact HI.out.2.1)⟩
end Go.Proofs.YtholefgckcoklaaGreatDoor
