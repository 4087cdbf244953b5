/- Walks over the library: slices.Compact of diagnostics. -/
import Derived.Test.YtholefgckcoklaaGreatDoorBZBH
import Derived.Test.YtholefgckcoklaaGreatDoorBZAT
namespace Go.Proofs.YtholefgckcoklaaGreatDoor
open Go.RowKit
theorem belowN_drew {n k : Nat} {w w1 : World} (h : Below n w w1) : Below n w (w1.drewN k) := ⟨h.os, h.tape, h.output, h.size, h.block⟩
theorem belowN_set {n : Nat} {w w1 : World} {a : Addr} (h : Below n w w1) (ha : n ≤ a.block) (v : Value) : Below n w (w1.setCell a v) :=
  ⟨h.os, h.tape, h.output, by simp only [World.setCell, Array.size_modify]; exact h.size, fun k hk => by rw [Below.heap_setCell _ _ _ _ (by omega)]; exact h.block k hk⟩
theorem belowN_row {n g : Nat} {w w1 : World} {cs : Array Value} (h : Below n w w1) (hg : n ≤ g) : Below n w (w1.setRow g cs) :=
  ⟨h.os, h.tape, h.output, by rw [setRow_size]; exact h.size, fun k hk => by rw [setRow_other _ _ _ _ (by omega)]; exact h.block k hk⟩
theorem row_at {l : List Dg} {c K : Nat} {C : List Dg} (hc : c = C.length) (hK : c ≤ K) : (C ++ l.drop c)[K]? = l[K]? := by
  subst hc
  rw [List.getElem?_append_right hK, List.getElem?_drop]
  congr 1; omega
theorem row_set {l : List Dg} {c : Nat} {C : List Dg} (hc : c = C.length) (hl : c < l.length) (x : Dg) : (C ++ l.drop c).set c x = (C ++ [x]) ++ l.drop (c + 1) := by
  subst hc
  rw [List.set_append_right _ _ (Nat.le_refl _), Nat.sub_self, List.drop_eq_getElem_cons hl, List.set_cons_zero]
  simp
set_option maxHeartbeats 4000000 in
set_option maxRecDepth 100000 in
theorem compactD_any (w : World) (n g len cap : Nat) (l : List Dg) (h : RowD w g l) (hlen : len = l.length) (hcap : len ≤ cap) (hn : n ≤ g) (hl : len ≤ 16777216) :
    Calls Tryz.prog 138 #[.slice (some ⟨g, 0, none⟩) len cap] w fun e w' => ∃ c', e = .returned (.slice (some ⟨g, 0, none⟩) (Nm.cpt l).length c') ∧ RowD w' g (Nm.cpt l) ∧ Below n w w' := by
  have HL := hide hlen
  have HR := hide h
  clear hlen h
  by_cases h2 : len < 2
  · have HE : Hid (Nm.cpt l = l) := hide (by
      have hl' := HL.out
      match l, hl' with
      | [], _ => rfl
      | [x], _ => rfl
      | x :: y :: r, h => simp at h; omega)
    go_enter Tryz.func138, Tryz.ntmps138
    go_wp2_with fail
    go_ret
    exact ⟨_, by rw [HE.out, ← HL.out]; rfl, by rw [HE.out]; exact HR.out, Below.refl _ _⟩
  · go_enter Tryz.func138, Tryz.ntmps138
    go_wp2_with fail
    go_loopw [3] (fun i wr => ∃ j : Nat, j + 1 ≤ len ∧ i = .int .i64 ((j : Int) + 1) ∧ (∀ (q : Nat) x y, q < j → l[q]? = some y → l[q + 1]? = some x → Nm.sameD x y = false) ∧ RowD wr g l ∧ Below n w wr) (fun i _ => len - (intOf i).toNat)
    case atStart => exact ⟨0, by omega, rfl, fun q x y hq => absurd hq (Nat.not_lt_zero _), HR.out, Below.refl _ _⟩
    case round =>
      obtain ⟨j, hj, rfl, hall, hrow, hnx⟩ := hrel
      have HALL := hide hall
      have HROW := hide hrow
      have HNX := hide hnx
      clear hall hnx
      by_cases hjl : j + 1 < len
      · obtain ⟨y, hy⟩ : ∃ y, l[j]? = some y := ⟨_, List.getElem?_eq_getElem (by rw [← HL.out]; omega)⟩
        obtain ⟨x, hx⟩ : ∃ y, l[j + 1]? = some y := ⟨_, List.getElem?_eq_getElem (by rw [← HL.out]; omega)⟩
        obtain ⟨p0, p1, p2⟩ := hrow.cell hx
        obtain ⟨k0, k1, k2⟩ := hrow.cell hy
        have HX := hide hx
        have HY := hide hy
        have heq : ∀ w, Sem.run Tryz.prog (Op.equalIn 10000 43 (.agg #[.int .i64 x.code, .string x.fn, .string x.name]) (.agg #[.int .i64 y.code, .string y.fn, .string y.name])) w = .ok (Nm.sameD x y) w := eqIn_dg x y
        have hgd : ∀ op a b w, Sem.run Tryz.prog (eqGuard op 43 a b (.agg #[.int .i64 x.code, .string x.fn, .string x.name]) (.agg #[.int .i64 y.code, .string y.fn, .string y.name])) w = .ok () w := fun op a b w => guard_dg op a b x y w
        have hlt : decide ((j : Int) + 1 < (len : Int)) = true := by simp; omega
        clear hx hy hrow
        cases hsm : Nm.sameD x y
        · rw [hsm] at heq
          have HSM := hide hsm
          clear hsm
          go_wp2_with fail
          go_quiet (fail)
          go_wp2_with fail
          go_roundw
          case rel => exact ⟨j + 1, by omega, by go_num, fun q a b hq h1 h2 => by
              by_cases e : q = j
              · subst e; rw [HY.out] at h1; rw [HX.out] at h2; cases h1; cases h2; exact HSM.out
              · exact HALL.out q a b (by omega) h1 h2, HROW.out.drew, belowN_drew HNX.out⟩
          case measure => simp [intOf]; omega
        · rw [hsm] at heq
          have HC0 : Hid (Nm.cpt (l.take (j + 1 + 1)) = l.take (j + 1)) := hide (by
            rw [Nm.cpt_next HY.out HX.out, hsm, if_pos rfl]
            have hll : (l.take (j + 1)).length = j + 1 := by rw [List.length_take]; have := HL.out; omega
            have h1 := cpt_self (l := l.take (j + 1)) (fun q a b h1 h2 => by
              have hq := (List.getElem?_eq_some_iff.1 h2).1
              rw [hll] at hq
              rw [List.getElem?_take_of_lt (by omega)] at h1 h2
              exact HALL.out q a b (by omega) h1 h2) (j + 1) (by omega)
            rwa [List.take_take, Nat.min_self] at h1)
          clear hsm
          go_wp2_with fail
          go_quiet (fail)
          have HR1 := hide (HROW.out.drew (n := nq))
          have HN1 := hide (belowN_drew (k := nq) HNX.out)
          clear p0 p1 p2 k0 k1 k2 heq hgd
          generalize wr.drewN nq = W1 at *
          go_wp2_with fail
          go_loopw [3, 5] (fun a b wx => ∃ c t : Nat, a = .int .i64 c ∧ b = .int .i64 ((t : Int) + 1) ∧ j + 1 + (t + 1) ≤ len ∧ c = (Nm.cpt (l.take (j + 1 + (t + 1)))).length ∧ c ≤ j + 1 + t ∧ RowD wx g (Nm.cpt (l.take (j + 1 + (t + 1))) ++ l.drop c) ∧ Below n w wx) (fun _ b _ => len - (intOf b).toNat)
          case atStart => exact ⟨j + 1, 0, by go_num, rfl, by omega, by
            rw [show j + 1 + (0 + 1) = j + 1 + 1 from rfl, HC0.out, List.length_take]; have := HL.out; omega, Nat.le_refl _, by
            rw [show j + 1 + (0 + 1) = j + 1 + 1 from rfl, HC0.out, List.take_append_drop]; exact HR1.out, HN1.out⟩
          case round =>
            obtain ⟨c, t, rfl, rfl, htl, hcc, hct, hrow, hnx⟩ := hrel
            have HCC := hide hcc
            have HROW2 := hide hrow
            have HNX2 := hide hnx
            by_cases hend : j + 1 + (t + 1) < len
            · obtain ⟨y', hy⟩ : ∃ y, l[j + 1 + t]? = some y := ⟨_, List.getElem?_eq_getElem (by rw [← HL.out]; omega)⟩
              obtain ⟨x', hx⟩ : ∃ y, l[j + 1 + (t + 1)]? = some y := ⟨_, List.getElem?_eq_getElem (by rw [← HL.out]; omega)⟩
              obtain ⟨z', hz⟩ : ∃ y, l[c]? = some y := ⟨_, List.getElem?_eq_getElem (by rw [← HL.out]; omega)⟩
              obtain ⟨p0, p1, p2⟩ := hrow.cell (i := j + 1 + (t + 1)) (d := x') (by rw [row_at hcc (by omega)]; exact hx)
              obtain ⟨k0, k1, k2⟩ := hrow.cell (i := j + 1 + t) (d := y') (by rw [row_at hcc (by omega)]; exact hy)
              obtain ⟨m0, m1, m2⟩ := hrow.cell (i := c) (d := z') (by rw [row_at hcc (by omega)]; exact hz)
              rw [Nat.add_mul (j + 1) (t + 1)] at p0 p1 p2
              rw [Nat.add_mul (j + 1) t] at k0 k1 k2
              obtain ⟨cur, hcur, -, -⟩ := hrow
              have f0 := block_free hcur (c * 3)
              have f1 := block_free hcur (c * 3 + 1)
              have f2 := block_free hcur (c * 3 + 2)
              have HNE : Hid (Nm.cpt (l.take (j + 1 + (t + 1) + 1)) = if Nm.sameD x' y' then Nm.cpt (l.take (j + 1 + (t + 1))) else Nm.cpt (l.take (j + 1 + (t + 1))) ++ [x']) := hide (Nm.cpt_next (j := j + 1 + t) hy hx)
              have heq : ∀ w, Sem.run Tryz.prog (Op.equalIn 10000 43 (.agg #[.int .i64 x'.code, .string x'.fn, .string x'.name]) (.agg #[.int .i64 y'.code, .string y'.fn, .string y'.name])) w = .ok (Nm.sameD x' y') w := eqIn_dg x' y'
              have hgd : ∀ op a b w, Sem.run Tryz.prog (eqGuard op 43 a b (.agg #[.int .i64 x'.code, .string x'.fn, .string x'.name]) (.agg #[.int .i64 y'.code, .string y'.fn, .string y'.name])) w = .ok () w := fun op a b w => guard_dg op a b x' y' w
              have hlt2 : decide ((t : Int) + 1 < ((len - (j + 1) : Nat) : Int)) = true := by simp; omega
              clear hx hy hz hcur hcc hnx
              cases hsm2 : Nm.sameD x' y'
              · rw [hsm2] at heq
                rw [hsm2, if_neg (by simp)] at HNE
                clear hsm2
                go_wp2_with fail
                go_quiet (fail)
                have HR2 : Hid (RowD (wr.drewN nq) g _) := hide (HROW2.out.drew (n := nq))
                have HN2 := hide (belowN_drew (k := nq) HNX2.out)
                replace p0 : (wr.drewN nq).cell? _ = _ := p0
                replace p1 : (wr.drewN nq).cell? _ = _ := p1
                replace p2 : (wr.drewN nq).cell? _ = _ := p2
                replace m0 : (wr.drewN nq).cell? _ = _ := m0
                replace m1 : (wr.drewN nq).cell? _ = _ := m1
                replace m2 : (wr.drewN nq).cell? _ = _ := m2
                replace f0 : (wr.drewN nq).frozen? _ = _ := f0
                replace f1 : (wr.drewN nq).frozen? _ = _ := f1
                replace f2 : (wr.drewN nq).frozen? _ = _ := f2
                clear k0 k1 k2 heq hgd HROW2 HNX2
                generalize wr.drewN nq = W2 at *
                go_wp2_with fail
                go_roundw
                case rel => exact ⟨c + 1, t + 1, by go_num, by go_num, by omega, by
                  rw [show j + 1 + (t + 1 + 1) = j + 1 + (t + 1) + 1 by omega, HNE.out, List.length_append, ← HCC.out]; rfl, by omega, by
                  rw [show j + 1 + (t + 1 + 1) = j + 1 + (t + 1) + 1 by omega, HNE.out, ← row_set HCC.out (by rw [← HL.out]; omega)]
                  exact HR2.out.set (by rw [List.length_append, List.length_drop, ← HCC.out, ← HL.out]; omega) x', belowN_set (belowN_set (belowN_set HN2.out hn _) hn _) hn _⟩
                case measure => simp [intOf]; omega
              · rw [hsm2] at heq
                rw [hsm2, if_pos rfl] at HNE
                clear hsm2
                go_wp2_with fail
                go_quiet (fail)
                have HR2 : Hid (RowD (wr.drewN nq) g _) := hide (HROW2.out.drew (n := nq))
                have HN2 := hide (belowN_drew (k := nq) HNX2.out)
                clear p0 p1 p2 m0 m1 m2 f0 f1 f2 k0 k1 k2 heq hgd HROW2 HNX2
                generalize wr.drewN nq = W2 at *
                go_wp2_with fail
                go_roundw
                case rel => exact ⟨c, t + 1, rfl, by go_num, by omega, by
                  rw [show j + 1 + (t + 1 + 1) = j + 1 + (t + 1) + 1 by omega, HNE.out]; exact HCC.out, by omega, by
                  rw [show j + 1 + (t + 1 + 1) = j + 1 + (t + 1) + 1 by omega, HNE.out]; exact HR2.out, HN2.out⟩
                case measure => simp [intOf]; omega
            · have HTK : Hid (l.take (j + 1 + (t + 1)) = l) := hide (List.take_of_length_le (by rw [← HL.out]; omega))
              rw [HTK.out] at HROW2 HCC hrow
              have hrow' := hrow
              obtain ⟨cur, hcur, hsz, -⟩ := hrow
              rw [List.length_append, List.length_drop, ← HCC.out, ← HL.out] at hsz
              have hcl := fun ty => clear_run (c := cap - c) hcur (show 0 < len - c by omega) (show c * 3 + (len - c) * 3 ≤ cur.size by omega) ty
              have HRC := hide (fun zs m => RowD.clear (zs := zs) (k := c) hrow' hcur (by rw [List.length_append, ← HCC.out]; omega) m)
              have hlt2 : decide ((t : Int) + 1 < ((len - (j + 1) : Nat) : Int)) = false := by simp; omega
              have HTC : Hid ((Nm.cpt l ++ l.drop c).take c = Nm.cpt l) := hide (by rw [HCC.out, List.take_left])
              rw [HTC.out] at HRC
              generalize (Builtin.zeroCells (Value.agg #[.int .i64 0, .string ⟨#[]⟩, .string ⟨#[]⟩]).cells (len - c)).toList = zs at *
              have HN2 := hide (belowN_row (g := g) (cs := (cur.toList.take (c * 3) ++ zs ++ cur.toList.drop (c * 3 + zs.length)).toArray) hnx hn)
              have HR2 := hide (HRC.out zs (c * 3 + zs.length))
              generalize wr.setRow g (cur.toList.take (c * 3) ++ zs ++ cur.toList.drop (c * 3 + zs.length)).toArray = W2 at *
              clear hrow' hcur hcc hnx HRC
              go_wp2_with fail
              go_ret
              exact ⟨_, by rw [← HCC.out]; rfl, HR2.out, HN2.out⟩
      · have HE : Hid (Nm.cpt l = l) := hide (by
          have h1 := cpt_self (l := l) (fun q a b h1 h2 => HALL.out q a b (by have := (List.getElem?_eq_some_iff.1 h2).1; have := HL.out; omega) h1 h2) l.length (Nat.le_refl _)
          rwa [List.take_length] at h1)
        have hlt : decide ((j : Int) + 1 < (len : Int)) = false := by simp; omega
        clear hrow
        go_wp2_with fail
        go_ret
        exact ⟨_, by rw [HE.out, ← HL.out]; rfl, by rw [HE.out]; exact HROW.out, HNX.out⟩
end Go.Proofs.YtholefgckcoklaaGreatDoor
namespace Go.Proofs.YtholefgckcoklaaGreatDoor
open Go.RowKit
theorem own_rowD {w : World} {base g n cap : Nat} {l : List Dg} {cs : List (List Value)} (h : w.ownsRow base 43 3 (.slice (some ⟨g, 0, none⟩) n cap) n cs.flatten) (hn : n = l.length) (hcs : cs.length = l.length) (hat : ∀ (i : Nat) c y, cs[i]? = some c → l[i]? = some y → DgC c y) : RowD w g l := by
  have hk : ∀ c ∈ cs, c.length = 3 := fun c hc => by
    obtain ⟨i, hi, rfl⟩ := List.mem_iff_getElem.1 hc
    have := hat i _ _ (List.getElem?_eq_getElem hi) (List.getElem?_eq_getElem (by omega))
    rw [this]; rfl
  have hget := fun (i : Nat) (c : List Value) (hc : cs[i]? = some c) (j : Nat) (hj : j < 3) => own_get h (by omega) hk hc hj
  rcases h.2 with ⟨h1, _⟩ | ⟨g', cap', cur, h1, _, hh, _, _, hsz, _⟩
  · simp at h1
  · simp at h1
    obtain ⟨rfl, rfl⟩ := h1
    refine ⟨cur, hh, by rw [hsz, ← hn]; omega, fun i d hd => ?_⟩
    have hi : i < cs.length := by rw [hcs]; exact (List.getElem?_eq_some_iff.1 hd).1
    have hc := List.getElem?_eq_getElem hi
    have e := hat i _ d hc hd
    have g0 := hget i _ hc 0 (by decide)
    have g1 := hget i _ hc 1 (by decide)
    have g2 := hget i _ hc 2 (by decide)
    rw [block_at hh, e] at g0 g1 g2
    exact ⟨g0, g1, g2⟩
set_option maxHeartbeats 2000000 in
set_option maxRecDepth 100000 in
theorem cloneD_any (w : World) (v : Value) (l : List Dg) (h : DgsAt w v l) (hl : l.length ≤ 16777216) :
    Calls Tryz.prog 135 #[v] w fun e w' => ∃ v', e = .returned v' ∧ Hid (Below w.heap.size w w' ∧ ((v' = .slice none 0 0 ∧ l = []) ∨ ∃ g cap, v' = .slice (some ⟨g, 0, none⟩) l.length cap ∧ l.length ≤ cap ∧ w.heap.size ≤ g ∧ RowD w' g l)) := by
  obtain ⟨a, b, off, cap, rfl, h0, -, hel⟩ := h
  cases a with
  | none =>
    have hz : l = [] := by
      cases l with
      | nil => rfl
      | cons y r => exact absurd (h0 (by simp)) (by simp)
    subst hz
    clear h0 hel
    have hnil : ∀ w c, (binOp .eql 37 (.slice none 0 c) (.slice none 0 0)).run Tryz.prog w = .ok (.bool true) w := fun w c => Lib.run_eql_slice_nil w 37 43 none 0 c 0 0 Tryz.underlying37
    go_enter Tryz.func135, Tryz.ntmps135
    go_wp2_with fail
    go_ret
    exact ⟨_, rfl, hide ⟨Below.refl _ _, Or.inl (by simp)⟩⟩
  | some ad =>
    obtain ⟨cs, k1, k2, k3, k4⟩ := cells_of (At := DgC) (w := w) (b := b) (off := off) (k := 3) (l := l) (by decide) (fun i y hy => by
      obtain ⟨g0, g1, g2⟩ := hel i y hy
      refine ⟨_, rfl, fun j u hu => ?_, rfl⟩
      match j, hu with
      | 0, hu => simp at hu; subst hu; exact g0
      | 1, hu => simp at hu; subst hu; exact g1
      | 2, hu => simp at hu; subst hu; exact g2
      | j + 3, hu => simp at hu)
    have HFL : Hid (cs.flatten.length = l.length * 3) := hide (by rw [flat_len cs k2, k1])
    have HK1 := hide k1
    have HK3 := hide k3
    have HBX := hide (boxBelow w (.cells #[] 43))
    have HK4 : Hid (∀ (j : Nat) u, cs.flatten[j]? = some u → (w.alloc (.cells #[] 43)).cell? ⟨b, off + j, none⟩ = some u) := hide fun j u hu => cellUp (k4 j u hu) HBX.out
    have HK5 : Hid (∀ u ∈ cs.flatten, u.oneCell' = true) := hide fun u hu => by
      obtain ⟨c, hc, hu'⟩ := List.mem_flatten.1 hu
      obtain ⟨i, hi, rfl⟩ := List.mem_iff_getElem.1 hc
      exact (k3 i _ _ (List.getElem?_eq_getElem hi) (List.getElem?_eq_getElem (by omega))).one u hu'
    have HH0 := hide h0
    obtain ⟨nl, hnl⟩ : ∃ n, n = l.length := ⟨_, rfl⟩
    rw [← hnl] at HFL HH0 HK1 hl ⊢
    have HNL := hide hnl
    have HL := hide hl
    clear hnl hl h0 hel k1 k2 k3 k4
    have hnil : ∀ w n c, (binOp .eql 37 (.slice (some ad) n c) (.slice none 0 0)).run Tryz.prog w = .ok (.bool false) w := fun w n c => Lib.run_eql_slice_nil w 37 43 (some ad) n c 0 0 Tryz.underlying37
    have HOW := hide (own_empty w 43 3)
    go_enter Tryz.func135, Tryz.ntmps135
    go_wp2_with (first
      | (at_builtin; refine wpList_append_mem rfl _ _ 37 43 3 40 _ rfl Tryz.underlying37 infoDg (by decide) (by decide) w.heap.size _ 0 [] rfl HOW.out (some ad) b off nl cap cs.flatten rfl HH0.out HFL.out HK4.out HK5.out (by have := HL.out; unfold maxLen; omega) (by have := HL.out; omega) HBX.out.size ?_; intro v7 w7 hown7 hgrow7 hz7 hp7; have HO7 := hide hown7; have HZ7 := hide hz7; have HP7 := hide hp7; have HB7 := hide (Below.grown HBX.out hgrow7 HBX.out.size (fun k e => by have := (HOW.out.lt k e).1; omega)); clear hown7 hgrow7 hz7 hp7)
      | fail)
    go_ret
    refine ⟨_, rfl, hide ⟨HB7.out, Or.inr ?_⟩⟩
    have ho := HO7.out
    rw [Nat.zero_add, List.nil_append] at ho
    have hrow := ho.2
    rcases hrow with ⟨h1, h2⟩ | ⟨g, cap', cur, h1, hg, hh, hc, _⟩
    · exfalso
      have h3 := (HZ7.out h2).symm.trans h1
      injection h3 with h4
      cases h4
    · rw [h1] at ho
      exact ⟨g, cap', h1, hc, hg, own_rowD ho HNL.out (by rw [HK1.out, HNL.out]) HK3.out⟩
set_option maxHeartbeats 1000000 in
theorem compactD_nil (w : World) (c : Nat) : Calls Tryz.prog 138 #[.slice none 0 c] w fun e w' => e = .returned (.slice none 0 c) ∧ w' = w := by
  go_enter Tryz.func138, Tryz.ntmps138
  go_wp2
  go_ret
  exact ⟨rfl, rfl⟩
theorem RowD.dgsN {w : World} {g c n : Nat} {l : List Dg} (h : RowD w g l) (hn : n = l.length) (hl : l.length ≤ 9223372036854775807) : DgsAt w (.slice (some ⟨g, 0, none⟩) n c) l := by
  subst hn
  exact ⟨_, g, 0, c, rfl, fun _ => rfl, hl, fun i d hd => by rw [Nat.zero_add]; exact h.cell hd⟩
set_option maxHeartbeats 2000000 in
set_option maxRecDepth 100000 in
theorem inOrder_any (w : World) (v : Value) (l : List Dg) (h : DgsAt w v l) (hl : l.length ≤ 16777216) :
    Calls Tryz.prog 60 #[v] w fun e w' => ∃ u, e = .returned u ∧ DgsAt w' u (Nm.once l) ∧ Below w.heap.size w w' := by
  have HC := hide (cloneD_any w v l h hl)
  obtain ⟨a, b, off, cap, rfl, -⟩ := h
  have HL := hide hl
  obtain ⟨fl, hfl⟩ : ∃ n, n = l.length := ⟨_, rfl⟩
  have HFL := hide hfl
  rw [← hfl] at HC ⊢
  clear hl hfl
  go_enter Tryz.func60, Tryz.ntmps60
  go_wp2_with fail
  refine HC.out.mono ?_
  rintro e w1 ⟨v1, rfl, hh1⟩
  obtain ⟨hb1, h1⟩ := hh1.out
  clear hh1
  have HB1 := hide hb1
  clear hb1 HC
  rcases h1 with ⟨rfl, hnil⟩ | ⟨g, c1, rfl, hcp, hg, hrow⟩
  · have HN := hide hnil
    clear hnil
    go_wp2_with fail
    refine (sortD_none _ _ _).mono ?_
    rintro e w2 ⟨rfl, hw2⟩
    subst hw2
    go_wp2_with fail
    refine (compactD_nil _ _).mono ?_
    rintro e w3 ⟨rfl, hw3⟩
    subst hw3
    go_wp2_with fail
    go_ret
    exact ⟨_, rfl, by rw [HN.out]; show DgsAt _ _ []; exact ⟨none, 0, 0, 0, rfl, fun h => absurd h (by simp), by simp, fun i d hd => by simp at hd⟩, HB1.out⟩
  · have HROW := hide hrow
    have HG := hide hg
    clear hrow hg
    go_wp2_with fail
    refine (sortD_any w1 w.heap.size g fl c1 l HROW.out HFL.out HG.out HL.out).mono ?_
    rintro e w2 ⟨rfl, s, hsl, hsm, hss, hrow, hb2⟩
    have HSL := hide hsl
    have HSM := hide hsm
    have HSS := hide hss
    have HROW2 := hide hrow
    have HB2 := hide (HB1.out.trans hb2)
    clear hsl hsm hss hrow hb2
    go_wp2_with fail
    refine (compactD_any w2 w.heap.size g fl c1 s HROW2.out (by rw [HSL.out]; exact HFL.out) hcp HG.out (by rw [HFL.out]; exact HL.out)).mono ?_
    rintro e w3 ⟨c3, rfl, hrow, hb3⟩
    have HE : Hid (Nm.once l = Nm.cpt s) := hide (Nm.cpt_once HSS.out HSM.out (fun _ => Iff.rfl)).symm
    have HROW3 := hide hrow
    have HB3 := hide (HB2.out.trans hb3)
    have HPL : Hid ((Nm.cpt s).length ≤ 9223372036854775807) := hide (by
      have h1 := Nm.cpt_len s
      rw [HSL.out] at h1
      have := HL.out
      omega)
    obtain ⟨pl, hpl⟩ : ∃ n, n = (Nm.cpt s).length := ⟨_, rfl⟩
    have HP := hide hpl
    rw [← hpl]
    clear hrow hb3 hpl
    go_wp2_with fail
    go_ret
    exact ⟨_, rfl, by rw [HE.out]; exact HROW3.out.dgsN HP.out HPL.out, HB3.out⟩
end Go.Proofs.YtholefgckcoklaaGreatDoor
