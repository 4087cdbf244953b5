/- Walks over package run: eval. -/
import Derived.Test.YtnheahdcfadclaaGreatDoorZBC
namespace Go.Proofs.YtnheahdcfadclaaGreatDoor
open Go.RowKit Go.Maps

theorem evs_at {f : Ex → Rn.Sta → Int × Int × Rn.Sta} {l : List Ex} {t : Nat} {y : Ex} (h : l[t]? = some y) (s : Rn.Sta) : Rn.evs f (l.drop t) s = if (f y s).2.1 = 0 then ((f y s).1 :: (Rn.evs f (l.drop (t + 1)) (f y s).2.2).1, (Rn.evs f (l.drop (t + 1)) (f y s).2.2).2) else ([], (f y s).2) := by
  obtain ⟨ht, e⟩ := List.getElem?_eq_some_iff.1 h
  rw [List.drop_eq_getElem_cons ht, e]
  rfl
/-- A row of ints of the call's own, of which the first are vals. -/
def RowI (w : World) (B n : Nat) (vals : List Int) : Prop := ∃ cs : Array Value, w.heap[B]? = some (.cells cs 3 (0, 0)) ∧ cs.size = n ∧ ∀ (i : Nat) (v : Int), vals[i]? = some v → cs[i]? = some (.int .i64 v)
theorem RowI.same {w w' : World} {B n : Nat} {vals : List Int} (h : RowI w B n vals) (hs : ∀ cs, w.heap[B]? = some (.cells cs 3 (0, 0)) → w'.heap[B]? = some (.cells cs 3 (0, 0))) : RowI w' B n vals := by
  obtain ⟨cs, h1, h2, h3⟩ := h
  exact ⟨cs, hs cs h1, h2, h3⟩
theorem RowI.cell {w : World} {B n : Nat} {vals : List Int} (h : RowI w B n vals) {i : Nat} (hi : i < n) : (∃ u, w.cell? ⟨B, i, none⟩ = some u) ∧ w.frozen? ⟨B, i, none⟩ = false := by
  obtain ⟨cs, h1, h2, h3⟩ := h
  exact ⟨⟨cs[i]'(by omega), (block_at h1 i).trans (Array.getElem?_eq_getElem (by omega))⟩, block_free h1 i⟩
theorem RowI.val {w : World} {B n : Nat} {vals : List Int} (h : RowI w B n vals) {i : Nat} {v : Int} (hv : vals[i]? = some v) : w.cell? ⟨B, i, none⟩ = some (.int .i64 v) := by
  obtain ⟨cs, h1, h2, h3⟩ := h
  exact (block_at h1 i).trans (h3 i v hv)
theorem RowI.set {w : World} {B n : Nat} {vals : List Int} (h : RowI w B n vals) {t : Nat} (ht : vals.length = t) (htn : t < n) (v : Int) : RowI (w.setCell ⟨B, t, none⟩ (.int .i64 v)) B n (vals ++ [v]) := by
  obtain ⟨cs, h1, h2, h3⟩ := h
  refine ⟨cs.setIfInBounds t (.int .i64 v), block_set h1 t _, by rw [Array.size_setIfInBounds]; exact h2, fun i u hu => ?_⟩
  by_cases hi : i < vals.length
  · rw [List.getElem?_append_left hi] at hu
    rw [Array.getElem?_setIfInBounds_ne (by omega)]
    exact h3 i u hu
  · rw [List.getElem?_append_right (by omega)] at hu
    have hi0 : i = t := by
      have := (List.getElem?_eq_some_iff.1 hu).1
      simp at this
      omega
    subst hi0
    rw [ht] at hu
    simp at hu
    subst hu
    rw [Array.getElem?_setIfInBounds_self_of_lt (by omega)]
theorem RowI.ints {w : World} {B n : Nat} {vals : List Int} (h : RowI w B n vals) (hl : vals.length = n) (hn : n ≤ 9223372036854775807) : Ints w (.slice (some ⟨B, 0, none⟩) n n) vals :=
  ⟨some ⟨B, 0, none⟩, B, 0, n, by rw [hl], fun _ => rfl, by omega, fun j z hz => by rw [Nat.zero_add]; exact h.val hz⟩
/-- A row of ints has turned. -/
theorem Run.setI {W w : World} {c : Cfg} {nm : List (ByteArray × ByteArray)} {l : List Mo} {m : Nat} {s : Rn.Sta} {q a f om n : Nat} {o : Rn.Own} (h : Run W w c nm l m s q a f om n o) {B : Nat} {cs : Array Value} (hB : w.heap[B]? = some (.cells cs 3 (0, 0))) (hn : c.n ≤ B) (i : Nat) (v : Value) :
    Run W (w.setCell ⟨B, i, none⟩ v) c nm l m s q a f om n o ∧ Kp c (some B) w (w.setCell ⟨B, i, none⟩ v) := by
  have cne : ∀ {k : Nat} {cs' : Array Value} {t : TypeId} {fz : Nat × Nat}, w.heap[k]? = some (.cells cs' t fz) → t ≠ 3 → k ≠ B := fun ho ht e => by
    rw [e, hB] at ho
    injection ho with ho
    injection ho with _ ho
    exact ht ho.symm
  have mne : ∀ {k : Nat} {es : Array MapEntry} {cl : Nat}, w.heap[k]? = some (.map es cl) → k ≠ B := fun ho e => by rw [e, hB] at ho; cases ho
  have hk : Kp c (some B) w (w.setCell ⟨B, i, none⟩ v) := ⟨(Below.refl _ _).setCell hn v, fun k _ ho _ _ h3 _ => block_other ho (fun e => h3 (by have e' : k = B := e; rw [e'])) v⟩
  obtain ⟨vp, h1, h2⟩ := h.ma.mach
  obtain ⟨es, cl, he⟩ := h.ma.map.isMap
  obtain ⟨es2, cl2, he2⟩ := h.ow.isMap
  have hma : MaAt (w.setCell ⟨B, i, none⟩ v) c nm s := ⟨h.ma.base, ⟨vp, block_other h1 (cne h1 (by decide)) v, h2.set (h2.apart hB (by decide)) v⟩, h.ma.lenb, h.ma.lens, fun i' b x u k1 k2 k3 => block_other (h.ma.var i' b x u k1 k2 k3) (cne (h.ma.var i' b x u k1 k2 k3) (by decide)) v, h.ma.bsn, h.ma.val, h.ma.nodup, h.ma.map.same (by rw [block_other he (mne he) v, he]), h.ma.mpn, h.ma.room, h.ma.prs⟩
  exact ⟨⟨h.below.trans hk.below, h.size, h.mods, hma, ⟨h.fr.1, block_other h.fr.2 (cne h.fr.2 (by decide)) v⟩, h.ow.same (by rw [block_other he2 (mne he2) v, he2]), h.omn, h.omp, h.alt, h.oi, h.nb⟩, hk⟩
theorem wrap_I64 (z : Int) : I64 (wrap64 z) := by
  have := RowKit.wrap64_wf z
  simpa [I64, Lit.wf, IntKind.min, IntKind.max, IntKind.signed, IntKind.bits] using this
theorem ap_I64 (op : ByteArray) (a b : Int) : I64 (Rn.ap op a b) := by
  unfold Rn.ap Rn.tr
  split
  · exact wrap_I64 _
  · split
    · exact wrap_I64 _
    · split
      · exact wrap_I64 _
      · split
        · split <;> (unfold I64; omega)
        · split <;> (unfold I64; omega)
theorem gt_I64 {w : World} {c : Cfg} {nm : List (ByteArray × ByteArray)} {s : Rn.Sta} (h : MaAt w c nm s) {mn : ByteArray} {o : Rn.Own} (ho : ∀ s v, o s = some v → I64 v) (n : ByteArray) : I64 (Rn.gt nm mn o n s).1 := by
  unfold Rn.gt
  split
  · cases hn : o n with
    | none => simp only [Option.getD_none]; unfold I64; omega
    | some v => simp only [Option.getD_some]; exact ho n v hn
  · rename_i i _
    cases hv : s.vs[i]? with
    | none => simp only [Option.map_none, Option.getD_none]; unfold I64; omega
    | some v => simp only [Option.map_some, Option.getD_some]; exact h.val v (List.mem_of_getElem? hv)

set_option maxHeartbeats 8000000 in
set_option maxRecDepth 100000 in
theorem eval_step (W : World) (c : Cfg) (nm : List (ByteArray × ByteArray)) (l : List Mo) (m K : Nat) (F : Rn.Fns) (g : Nat) (hKm : m ≤ K) (hLe : Rn.Le (·.fuel) F) (hE : EvOk W c nm l m K F g) (hD : DoOk W c nm l m K F g) (hO : ModsOk W m c.vl l) :
    EvOk W c nm l m K (Rn.step nm l F) (g + 1) := by
  intro w s q a f om n o mm c0 c1 c2 c3 x hR hF hX hB hg
  have HEE := hide hE
  have HDD := hide hD
  have HOO := hide hO
  have HG := hide hg
  have HF := hide hF
  obtain ⟨m', rfl⟩ : ∃ m', mm = m' + 1 := by
    cases mm with
    | zero => exact absurd hX (fun h => h)
    | succ k => exact ⟨k, rfl⟩
  obtain ⟨rfl, rfl, rfl, hxs, hk64, hn64, xa, xb, xo, xc, rfl, hxa, hxl, hxe⟩ := hX
  have HXE := hide hxe
  have HXA := hide hxa
  have HXS := hide hxs
  have HN64 := hide hn64
  obtain ⟨R, hRR⟩ : ∃ R, R = (Rn.step nm l F).ev a f o x s := ⟨_, rfl⟩
  have hRE := hRR
  simp only [Rn.step] at hRE
  have HRE := hide hRE
  rw [← hRR]
  have HR := hide hR
  have HCN := hide hR.nle
  obtain ⟨na, hna⟩ : ∃ n, n = x.args.length := ⟨_, rfl⟩
  have HNA := hide hna
  have hkind : x.kind = 1 ∨ x.kind = 2 ∨ (x.kind = 3 ∧ x.args.length = 2 ∧ x.args.all (Lat.exprB m') = true) ∨ (x.kind = 4 ∧ x.args.length ≤ 4 ∧ x.args.all (Lat.exprB m') = true) := by
    unfold Lat.exprB at hB
    by_cases k1 : x.kind = 1
    · exact Or.inl k1
    · rw [if_neg k1] at hB
      by_cases k2 : x.kind = 2
      · exact Or.inr (Or.inl k2)
      · rw [if_neg k2] at hB
        by_cases k3 : x.kind = 3
        · rw [if_pos k3] at hB
          simp only [Bool.and_eq_true, beq_iff_eq] at hB
          exact Or.inr (Or.inr (Or.inl ⟨k3, hB.1.2, hB.2⟩))
        · rw [if_neg k3] at hB
          by_cases k4 : x.kind = 4
          · rw [if_pos k4] at hB
            simp only [Bool.and_eq_true, decide_eq_true_eq] at hB
            exact Or.inr (Or.inr (Or.inr ⟨k4, hB.1.2, hB.2⟩))
          · rw [if_neg k4] at hB; cases hB
  rw [← hna] at hxl HXA hkind ⊢
  have HR0 := hide (hR.box (.cells #[.int .i64 x.kind, .int .i64 x.n, .string x.name, .slice xa na xc] 99))
  have HBX0 := hide (block_new w (.cells #[.int .i64 x.kind, .int .i64 x.n, .string x.name, .slice xa na xc] 99))
  have HK0 : Hid (Kp c none w (w.alloc (.cells #[.int .i64 x.kind, .int .i64 x.n, .string x.name, .slice xa na xc] 99))) := hide (Kp.of_below (boxBelow _ _) hR.nle)
  clear hR hE hD hO hg hF hB hxs hk64 hn64 hxa hxe hRE hRR hna
  by_cases k1 : x.kind = 1
  · as_aux_lemma =>
      have k1' : (x.kind == 1) = true := by simp [k1]
      rw [if_pos k1] at HRE
      clear k1 hkind
      go_enter Tryz.func142, Tryz.ntmps142
      go_wp2_with fail
      go_ret2
      exact ⟨by rw [HRE.out]; rfl, hide (by rw [HRE.out]; exact ⟨HR0.out.ma, HK0.out, HN64.out⟩)⟩
  · have k1' : (x.kind == 1) = false := by simp [k1]
    rw [if_neg k1] at HRE
    by_cases k2 : x.kind = 2
    · as_aux_lemma =>
        have k2' : (x.kind == 2) = true := by simp [k2]
        rw [if_pos k2] at HRE
        clear k1 k2 hkind
        have HC := hide (get_any W _ c nm l m s q a f om n o x.name HR0.out HXS.out)
        have HI6 := hide (gt_I64 HR0.out.ma (mn := Rn.mn l a) HR0.out.oi x.name)
        go_enter Tryz.func142, Tryz.ntmps142
        go_wp2_with fail
        refine HC.out.mono ?_
        rintro e w5 ⟨rfl, HM5⟩
        go_wp2_with fail
        go_ret2
        exact ⟨by rw [HRE.out]; rfl, hide (by rw [HRE.out]; exact ⟨HM5.out.1, HK0.out.trans HM5.out.2, HI6.out⟩)⟩
    · have k2' : (x.kind == 2) = false := by simp [k2]
      rw [if_neg k2] at HRE
      have hna4 : na ≤ 4 := by rcases hkind with h | h | h | h <;> omega
      have HAL : Hid (x.args.all (Lat.exprB m') = true) := hide (by rcases hkind with h | h | h | h; exact absurd h k1; exact absurd h k2; exact h.2.2; exact h.2.2)
      have HKD : Hid ((x.kind = 3 ∧ na = 2) ∨ x.kind = 4) := hide (by rcases hkind with h | h | h | h; exact absurd h k1; exact absurd h k2; exact Or.inl ⟨h.1, h.2.1⟩; exact Or.inr h.1)
      have hmk := run_make_row' (P := Tryz.prog) 47 3 (.int .i64 0) 8 Tryz.underlying47 infoInt rfl .i64 .i64 na (by omega) (by omega)
      have HR1 := hide (HR0.out.box (.cells (madeCells #[.int .i64 0] na) 3))
      have HRW1 := hide (block_new (w.alloc (.cells #[.int .i64 x.kind, .int .i64 x.n, .string x.name, .slice xa na xc] 99)) (.cells (madeCells #[.int .i64 0] na) 3))
      have HBX1 := hide (block_alloc HBX0.out (.cells (madeCells #[.int .i64 0] na) 3))
      have HK1 := hide (HK0.out.trans (Kp.of_below (boxBelow _ (.cells (madeCells #[.int .i64 0] na) 3)) HR0.out.nle))
      clear k1 k2 hkind HBX0 HK0 HR0
      go_enter Tryz.func142, Tryz.ntmps142
      go_wp2_with fail
      obtain ⟨B, hBw⟩ : ∃ b, b = w.heap.size := ⟨_, rfl⟩
      rw [World.size_alloc] at HRW1
      have HBX1' : Hid (((w.alloc (.cells #[.int .i64 x.kind, .int .i64 x.n, .string x.name, .slice xa na xc] 99)).alloc (.cells (madeCells #[.int .i64 0] na) 3)).heap[B]? = some (.cells #[.int .i64 x.kind, .int .i64 x.n, .string x.name, .slice xa na xc] 99 (0, 0))) := hide (by rw [hBw]; exact HBX1.out)
      have HRW : Hid (RowI ((w.alloc (.cells #[.int .i64 x.kind, .int .i64 x.n, .string x.name, .slice xa na xc] 99)).alloc (.cells (madeCells #[.int .i64 0] na) 3)) (B + 1) na []) := hide ⟨madeCells #[.int .i64 0] na, by rw [hBw]; exact HRW1.out, by simp [madeCells], fun i v h => by simp at h⟩
      generalize ((w.alloc (.cells #[.int .i64 x.kind, .int .i64 x.n, .string x.name, .slice xa na xc] 99)).alloc (.cells (madeCells #[.int .i64 0] na) 3)) = W2 at *
      rw [← hBw] at HCN ⊢
      have HBW := hide hBw
      clear hBw hmk HBX1 HRW1
      obtain ⟨EV, hEV⟩ : ∃ E, E = Rn.evs (F.ev a f o) x.args s := ⟨_, rfl⟩
      have HEV := hide hEV
      rw [← hEV] at HRE
      clear hEV
      go_loopw [30] (fun i wx => ∃ t : Nat, t ≤ na ∧ i = .int .i64 t ∧ ∃ (s' : Rn.Sta) (vals : List Int), Hid (Run W wx c nm l m s' q a f om n o ∧ Kp c none w wx ∧ wx.heap[B]? = some (.cells #[.int .i64 x.kind, .int .i64 x.n, .string x.name, .slice xa na xc] 99 (0, 0)) ∧ RowI wx (B + 1) na vals ∧ vals.length = t ∧ (∀ v ∈ vals, I64 v) ∧
          EV = (vals ++ (Rn.evs (F.ev a f o) (x.args.drop t) s').1, (Rn.evs (F.ev a f o) (x.args.drop t) s').2) ∧ s'.fuel ≤ s.fuel)) (fun i _ => na - (intOf i).toNat)
      case atStart => exact ⟨0, Nat.zero_le _, rfl, s, [], hide ⟨HR1.out, HK1.out, HBX1'.out, HRW.out, rfl, fun v h => by simp at h, by rw [List.drop_zero, List.nil_append]; exact HEV.out, Nat.le_refl _⟩⟩
      case round =>
        obtain ⟨t, ht, rfl, s', vals, HI⟩ := hrel
        by_cases htn : t < na
        · obtain ⟨y, hy⟩ : ∃ y, x.args[t]? = some y := ⟨_, List.getElem?_eq_getElem (by rw [← HNA.out]; exact htn)⟩
          obtain ⟨e0, e1, e2, e3, g0, g1, g2, g3, hye⟩ := HXE.out t y hy
          obtain rfl := HXA.out (by omega)
          have HAT := hide (evs_at (f := F.ev a f o) hy s')
          have HYB : Hid (Lat.exprB m' y = true) := hide (by have h1 := HAL.out; rw [List.all_eq_true] at h1; exact h1 y (List.mem_of_getElem? hy))
          have HYE := hide hye
          replace g0 := HI.out.1.cell g0
          replace g1 := HI.out.1.cell g1
          replace g2 := HI.out.1.cell g2
          replace g3 := HI.out.1.cell g3
          obtain ⟨ya, yc, rfl, rfl, rfl, rfl⟩ := hye.shape
          generalize y.args.length = ny at *
          have HR2 := hide (HI.out.1.box (.cells #[.int .i64 y.kind, .int .i64 y.n, .string y.name, .slice ya ny yc] 99))
          have HK2 : Hid (Kp c none w (wr.alloc (.cells #[.int .i64 y.kind, .int .i64 y.n, .string y.name, .slice ya ny yc] 99))) := hide (HI.out.2.1.trans (Kp.of_below (boxBelow _ _) HI.out.1.nle))
          have HBX2 := hide (block_alloc HI.out.2.2.1 (.cells #[.int .i64 y.kind, .int .i64 y.n, .string y.name, .slice ya ny yc] 99))
          have HRW2 := hide (HI.out.2.2.2.1.same (w' := wr.alloc (.cells #[.int .i64 y.kind, .int .i64 y.n, .string y.name, .slice ya ny yc] 99)) (fun cs h => block_alloc h _))
          have HC := hide (HEE.out _ s' q a f om n o m' _ _ _ _ y HR2.out HF.out HYE.out HYB.out (by
            have h1 := HG.out
            have h2 : s'.fuel * K ≤ s.fuel * K := Nat.mul_le_mul_right K HI.out.2.2.2.2.2.2.2
            omega))
          obtain ⟨V, hVV⟩ : ∃ V, V = F.ev a f o y s' := ⟨_, rfl⟩
          have HVL : Hid (V.2.2.fuel ≤ s'.fuel) := hide (by rw [hVV]; exact hLe.1 a f o y s')
          rw [← hVV] at HC HAT
          clear hVV hy hye
          obtain ⟨wo, rfl⟩ : ∃ wo, wo = wr := ⟨_, rfl⟩
          go_wp2_with fail
          refine HC.out.mono ?_
          rintro e w5 ⟨rfl, HM5⟩
          have HR5 := hide (HR2.out.ev HM5.out.1 HM5.out.2.1 HVL.out)
          have HK5 := hide (HK2.out.trans HM5.out.2.1)
          have HBX5 := hide (HR2.out.stay HM5.out.2.1 (Or.inl rfl) HBX2.out (by decide) (by decide) (by decide))
          have HRW5 := hide (HRW2.out.same (w' := w5) (fun cs h => HR2.out.stay HM5.out.2.1 (Or.inl rfl) h (by decide) (by decide) (by decide)))
          have HI5 := hide HM5.out.2.2
          clear g0 g1 g2 g3 HC HM5 HR2 HK2 HBX2 HRW2
          by_cases hv : V.2.1 = 0
          · rw [if_pos hv] at HAT
            rw [hv]
            clear hv
            obtain ⟨⟨u, hu⟩, hz⟩ := HRW5.out.cell htn
            obtain ⟨cs, hcs, hcz, hcv⟩ := HRW5.out
            have hcn : c.n ≤ B + 1 := by have := HCN.out; omega
            have hr6 := HR5.out.setI hcs hcn t (.int .i64 V.1)
            have HR6 := hide hr6.1
            have HK6 : Hid (Kp c none w (w5.setCell ⟨B + 1, t, none⟩ (.int .i64 V.1))) := hide ((HK5.out.more.trans hr6.2).fresh (by have := HBW.out; omega))
            have HRW6 := hide (HRW5.out.set HI.out.2.2.2.2.1 htn V.1)
            have HBX6 := hide (block_other (a := ⟨B + 1, t, none⟩) HBX5.out (by show B ≠ B + 1; omega) (.int .i64 V.1))
            clear hcs hcz hcv hcn hr6
            go_wp2_with fail
            go_roundw
            case rel => exact ⟨t + 1, by omega, by go_num, V.2.2, vals ++ [V.1], hide ⟨HR6.out, HK6.out, HBX6.out, HRW6.out, by rw [List.length_append, HI.out.2.2.2.2.1]; rfl, fun v hv => by
              rcases List.mem_append.1 hv with hv | hv
              · exact HI.out.2.2.2.2.2.1 v hv
              · simp at hv; subst hv; exact HI5.out, by rw [HI.out.2.2.2.2.2.2.1, HAT.out, List.append_assoc]; rfl, Nat.le_trans HVL.out HI.out.2.2.2.2.2.2.2⟩⟩
            case measure => simp [intOf]; omega
          · as_aux_lemma =>
              have hv' : (V.2.1 == 0) = false := by simp [hv]
              rw [if_neg hv] at HAT
              have HEE2 : Hid (EV.2 = V.2) := hide (by rw [HI.out.2.2.2.2.2.2.1, HAT.out])
              have HRV : Hid (R = (0, V.2)) := hide (by rw [HRE.out, if_neg (by rw [HEE2.out]; exact hv), HEE2.out])
              clear hv
              go_wp2_with fail
              go_ret2
              exact ⟨by rw [HRV.out]; rfl, hide (by rw [HRV.out]; exact ⟨HR5.out.ma, HK5.out, by unfold I64; omega⟩)⟩
        · have hte : t = na := by omega
          have HEE2 : Hid (EV = (vals, 0, s')) := hide (by rw [HI.out.2.2.2.2.2.2.1, hte, HNA.out, List.drop_length]; simp [Rn.evs])
          rw [HEE2.out, if_pos rfl] at HRE
          have HVN : Hid (vals.length = na) := hide (by rw [HI.out.2.2.2.2.1, hte])
          have b0 := (block_at HI.out.2.2.1 0).trans rfl
          have b2 := (block_at HI.out.2.2.1 2).trans rfl
          clear hte
          obtain ⟨wo, rfl⟩ : ∃ wo, wo = wr := ⟨_, rfl⟩
          by_cases k4 : x.kind = 4
          · as_aux_lemma =>
              have k4' : (x.kind == 4) = true := by simp [k4]
              rw [if_pos k4] at HRE
              clear k4
              have HC := hide (call_any W c nm l m K F g hKm HEE.out HDD.out HOO.out wo s' q a f om n o x.name (.slice (some ⟨B + 1, 0, none⟩) na na) vals HI.out.1 HF.out HXS.out (HI.out.2.2.2.1.ints HVN.out (by omega))
                (fun w' hk => (HI.out.2.2.2.1.same (w' := w') (fun cs h => HI.out.1.stay hk (Or.inl rfl) h (by decide) (by decide) (by decide))).ints HVN.out (by omega)) HI.out.2.2.2.2.2.1 (by
                  have h1 := HG.out
                  have h2 : s'.fuel * K ≤ s.fuel * K := Nat.mul_le_mul_right K HI.out.2.2.2.2.2.2.2
                  omega))
              rw [← HRE.out] at HC
              go_wp2_with fail
              refine HC.out.mono ?_
              rintro e w6 ⟨rfl, HM6⟩
              clear b0 b2
              go_wp2_with fail
              go_ret2
              exact ⟨rfl, hide ⟨HM6.out.1, HI.out.2.1.trans HM6.out.2.1, HM6.out.2.2⟩⟩
          · as_aux_lemma =>
              have k4' : (x.kind == 4) = false := by simp [k4]
              rw [if_neg k4] at HRE
              have hn2 : na = 2 := by rcases HKD.out with h | h; exact h.2; exact absurd h k4
              clear k4
              obtain ⟨v0, v1, hvs⟩ : ∃ v0 v1, vals = [v0, v1] := by
                have := HVN.out
                rw [hn2] at this
                match vals, this with
                | [v0, v1], _ => exact ⟨v0, v1, rfl⟩
              have y0 := HI.out.2.2.2.1.val (i := 0) (v := v0) (by rw [hvs]; rfl)
              have y1 := HI.out.2.2.2.1.val (i := 1) (v := v1) (by rw [hvs]; rfl)
              have HAP := hide (fun n => apply_any (wo.drewN n) x.name v0 v1)
              have HRV : Hid (R = (Rn.ap x.name v0 v1, 0, s')) := hide (by rw [HRE.out, hvs]; rfl)
              subst hn2
              go_wp2_with fail
              go_quiet ((exact Calls.quiet_of_same (HAP.out _)))
              go_wp2_with fail
              go_ret2
              exact ⟨by rw [HRV.out]; rfl, hide (by rw [HRV.out]; exact ⟨HI.out.1.ma.drewN _, HI.out.2.1.drewN _, ap_I64 _ _ _⟩)⟩

end Go.Proofs.YtnheahdcfadclaaGreatDoor
