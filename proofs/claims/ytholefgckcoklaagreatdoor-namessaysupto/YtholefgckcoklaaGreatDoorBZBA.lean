/- Walks over the library: slices.Compact of diagnostics. -/
import Derived.Test.YtholefgckcoklaaGreatDoorBZAY
import Derived.Test.YtholefgckcoklaaGreatDoorBZAK
import Derived.Test.YtholefgckcoklaaGreatDoorBZAU
namespace Go.Proofs.YtholefgckcoklaaGreatDoor
open Go.RowKit
theorem belowN_drew {n k : Nat} {w w1 : World} (h : Below n w w1) : Below n w (w1.drewN k) := ⟨h.os, h.tape, h.output, h.size, h.block⟩
theorem belowN_set {n : Nat} {w w1 : World} {a : Addr} (h : Below n w w1) (ha : n ≤ a.block) (v : Value) : Below n w (w1.setCell a v) :=
  ⟨h.os, h.tape, h.output, by simp only [World.setCell, Array.size_modify]; exact h.size, fun k hk => by rw [Below.heap_setCell _ _ _ _ (by omega)]; exact h.block k hk⟩
theorem belowN_row {n g : Nat} {w w1 : World} {cs : Array Value} (h : Below n w w1) (hg : n ≤ g) : Below n w (w1.setRow g cs) :=
  ⟨h.os, h.tape, h.output, by rw [setRow_size]; exact h.size, fun k hk => by rw [setRow_other _ _ _ _ (by omega)]; exact h.block k hk⟩
theorem row_at {l : List Dg} {c K : Nat} {C : List Dg} (hc : c = C.length) (hK : c ≤ K) : (C ++ l.drop c)[K]? = l[K]? := by
  subst hc
  rw [List.getElem?_append_right hK, List.getElem?_drop]
  congr 1; omega
theorem row_set {l : List Dg} {c : Nat} {C : List Dg} (hc : c = C.length) (hl : c < l.length) (x : Dg) : (C ++ l.drop c).set c x = (C ++ [x]) ++ l.drop (c + 1) := by
  subst hc
  rw [List.set_append_right _ _ (Nat.le_refl _), Nat.sub_self, List.drop_eq_getElem_cons hl, List.set_cons_zero]
  simp
set_option maxHeartbeats 4000000 in
set_option maxRecDepth 100000 in
theorem compactD_any (w : World) (n g len cap : Nat) (l : List Dg) (h : RowD w g l) (hlen : len = l.length) (hcap : len ≤ cap) (hn : n ≤ g) (hl : len ≤ 16777216) :
    Calls Tryz.prog 138 #[.slice (some ⟨g, 0, none⟩) len cap] w fun e w' => ∃ c', e = .returned (.slice (some ⟨g, 0, none⟩) (Nm.cpt l).length c') ∧ RowD w' g (Nm.cpt l) ∧ Below n w w' := by
  have HL := hide hlen
  have HR := hide h
  clear hlen h
  by_cases h2 : len < 2
  · have HE : Hid (Nm.cpt l = l) := hide (by
      have hl' := HL.out
      match l, hl' with
      | [], _ => rfl
      | [x], _ => rfl
      | x :: y :: r, h => simp at h; omega)
    go_enter Tryz.func138, Tryz.ntmps138
    go_wp2_with fail
    go_ret
    exact ⟨_, by rw [HE.out, ← HL.out]; rfl, by rw [HE.out]; exact HR.out, Below.refl _ _⟩
  · go_enter Tryz.func138, Tryz.ntmps138
    go_wp2_with fail
    go_loopw [3] (fun i wr => ∃ j : Nat, j + 1 ≤ len ∧ i = .int .i64 ((j : Int) + 1) ∧ (∀ (q : Nat) x y, q < j → l[q]? = some y → l[q + 1]? = some x → Nm.sameD x y = false) ∧ RowD wr g l ∧ Below n w wr) (fun i _ => len - (intOf i).toNat)
    case atStart => exact ⟨0, by omega, rfl, fun q x y hq => absurd hq (Nat.not_lt_zero _), HR.out, Below.refl _ _⟩
    case round =>
      obtain ⟨j, hj, rfl, hall, hrow, hnx⟩ := hrel
      have HALL := hide hall
      have HROW := hide hrow
      have HNX := hide hnx
      clear hall hnx
      by_cases hjl : j + 1 < len
      · obtain ⟨y, hy⟩ : ∃ y, l[j]? = some y := ⟨_, List.getElem?_eq_getElem (by rw [← HL.out]; omega)⟩
        obtain ⟨x, hx⟩ : ∃ y, l[j + 1]? = some y := ⟨_, List.getElem?_eq_getElem (by rw [← HL.out]; omega)⟩
        obtain ⟨p0, p1, p2⟩ := hrow.cell hx
        obtain ⟨k0, k1, k2⟩ := hrow.cell hy
        have HX := hide hx
        have HY := hide hy
        have heq : ∀ w, Sem.run Tryz.prog (Op.equalIn 10000 43 (.agg #[.int .i64 x.code, .string x.fn, .string x.name]) (.agg #[.int .i64 y.code, .string y.fn, .string y.name])) w = .ok (Nm.sameD x y) w := eqIn_dg x y
        have hgd : ∀ op a b w, Sem.run Tryz.prog (eqGuard op 43 a b (.agg #[.int .i64 x.code, .string x.fn, .string x.name]) (.agg #[.int .i64 y.code, .string y.fn, .string y.name])) w = .ok () w := fun op a b w => guard_dg op a b x y w
        have hlt : decide ((j : Int) + 1 < (len : Int)) = true := by simp; omega
        clear hx hy hrow
        cases hsm : Nm.sameD x y
        · rw [hsm] at heq
          have HSM := hide hsm
          clear hsm
          go_wp2_with fail
          go_quiet (fail)
          go_wp2_with fail
          go_roundw
          case rel => exact ⟨j + 1, by omega, by go_num, fun q a b hq h1 h2 => by
              by_cases e : q = j
              · subst e; rw [HY.out] at h1; rw [HX.out] at h2; cases h1; cases h2; exact HSM.out
              · exact HALL.out q a b (by omega) h1 h2, HROW.out.drew, belowN_drew HNX.out⟩
          case measure => simp [intOf]; omega
        · rw [hsm] at heq
          have HC0 : Hid (Nm.cpt (l.take (j + 1 + 1)) = l.take (j + 1)) := hide (by
            rw [Nm.cpt_next HY.out HX.out, hsm, if_pos rfl]
            have hll : (l.take (j + 1)).length = j + 1 := by rw [List.length_take]; have := HL.out; omega
            have h1 := cpt_self (l := l.take (j + 1)) (fun q a b h1 h2 => by
              have hq := (List.getElem?_eq_some_iff.1 h2).1
              rw [hll] at hq
              rw [List.getElem?_take_of_lt (by omega)] at h1 h2
              exact HALL.out q a b (by omega) h1 h2) (j + 1) (by omega)
            rwa [List.take_take, Nat.min_self] at h1)
          clear hsm
          go_wp2_with fail
          go_quiet (fail)
          have HR1 := hide (HROW.out.drew (n := nq))
          have HN1 := hide (belowN_drew (k := nq) HNX.out)
          clear p0 p1 p2 k0 k1 k2 heq hgd
          generalize wr.drewN nq = W1 at *
          go_wp2_with fail
          go_loopw [3, 5] (fun a b wx => ∃ c t : Nat, a = .int .i64 c ∧ b = .int .i64 ((t : Int) + 1) ∧ j + 1 + (t + 1) ≤ len ∧ c = (Nm.cpt (l.take (j + 1 + (t + 1)))).length ∧ c ≤ j + 1 + t ∧ RowD wx g (Nm.cpt (l.take (j + 1 + (t + 1))) ++ l.drop c) ∧ Below n w wx) (fun _ b _ => len - (intOf b).toNat)
          case atStart => exact ⟨j + 1, 0, by go_num, rfl, by omega, by
            rw [show j + 1 + (0 + 1) = j + 1 + 1 from rfl, HC0.out, List.length_take]; have := HL.out; omega, Nat.le_refl _, by
            rw [show j + 1 + (0 + 1) = j + 1 + 1 from rfl, HC0.out, List.take_append_drop]; exact HR1.out, HN1.out⟩
          case round =>
            obtain ⟨c, t, rfl, rfl, htl, hcc, hct, hrow, hnx⟩ := hrel
            have HCC := hide hcc
            have HROW2 := hide hrow
            have HNX2 := hide hnx
            by_cases hend : j + 1 + (t + 1) < len
            · obtain ⟨y', hy⟩ : ∃ y, l[j + 1 + t]? = some y := ⟨_, List.getElem?_eq_getElem (by rw [← HL.out]; omega)⟩
              obtain ⟨x', hx⟩ : ∃ y, l[j + 1 + (t + 1)]? = some y := ⟨_, List.getElem?_eq_getElem (by rw [← HL.out]; omega)⟩
              obtain ⟨z', hz⟩ : ∃ y, l[c]? = some y := ⟨_, List.getElem?_eq_getElem (by rw [← HL.out]; omega)⟩
              obtain ⟨p0, p1, p2⟩ := hrow.cell (i := j + 1 + (t + 1)) (d := x') (by rw [row_at hcc (by omega)]; exact hx)
              obtain ⟨k0, k1, k2⟩ := hrow.cell (i := j + 1 + t) (d := y') (by rw [row_at hcc (by omega)]; exact hy)
              obtain ⟨m0, m1, m2⟩ := hrow.cell (i := c) (d := z') (by rw [row_at hcc (by omega)]; exact hz)
              rw [Nat.add_mul (j + 1) (t + 1)] at p0 p1 p2
              rw [Nat.add_mul (j + 1) t] at k0 k1 k2
              obtain ⟨cur, hcur, -, -⟩ := hrow
              have f0 := block_free hcur (c * 3)
              have f1 := block_free hcur (c * 3 + 1)
              have f2 := block_free hcur (c * 3 + 2)
              have HNE : Hid (Nm.cpt (l.take (j + 1 + (t + 1) + 1)) = if Nm.sameD x' y' then Nm.cpt (l.take (j + 1 + (t + 1))) else Nm.cpt (l.take (j + 1 + (t + 1))) ++ [x']) := hide (Nm.cpt_next (j := j + 1 + t) hy hx)
              have heq : ∀ w, Sem.run Tryz.prog (Op.equalIn 10000 43 (.agg #[.int .i64 x'.code, .string x'.fn, .string x'.name]) (.agg #[.int .i64 y'.code, .string y'.fn, .string y'.name])) w = .ok (Nm.sameD x' y') w := eqIn_dg x' y'
              have hgd : ∀ op a b w, Sem.run Tryz.prog (eqGuard op 43 a b (.agg #[.int .i64 x'.code, .string x'.fn, .string x'.name]) (.agg #[.int .i64 y'.code, .string y'.fn, .string y'.name])) w = .ok () w := fun op a b w => guard_dg op a b x' y' w
              have hlt2 : decide ((t : Int) + 1 < ((len - (j + 1) : Nat) : Int)) = true := by simp; omega
              clear hx hy hz hcur hcc hnx
              cases hsm2 : Nm.sameD x' y'
              · rw [hsm2] at heq
                rw [hsm2, if_neg (by simp)] at HNE
                clear hsm2
                go_wp2_with fail
                go_quiet (fail)
                have HR2 : Hid (RowD (wr.drewN nq) g _) := hide (HROW2.out.drew (n := nq))
                have HN2 := hide (belowN_drew (k := nq) HNX2.out)
                replace p0 : (wr.drewN nq).cell? _ = _ := p0
                replace p1 : (wr.drewN nq).cell? _ = _ := p1
                replace p2 : (wr.drewN nq).cell? _ = _ := p2
                replace m0 : (wr.drewN nq).cell? _ = _ := m0
                replace m1 : (wr.drewN nq).cell? _ = _ := m1
                replace m2 : (wr.drewN nq).cell? _ = _ := m2
                replace f0 : (wr.drewN nq).frozen? _ = _ := f0
                replace f1 : (wr.drewN nq).frozen? _ = _ := f1
                replace f2 : (wr.drewN nq).frozen? _ = _ := f2
                clear k0 k1 k2 heq hgd HROW2 HNX2
                generalize wr.drewN nq = W2 at *
                go_wp2_with fail
                go_roundw
                case rel => exact ⟨c + 1, t + 1, by go_num, by go_num, by omega, by
                  rw [show j + 1 + (t + 1 + 1) = j + 1 + (t + 1) + 1 by omega, HNE.out, List.length_append, ← HCC.out]; rfl, by omega, by
                  rw [show j + 1 + (t + 1 + 1) = j + 1 + (t + 1) + 1 by omega, HNE.out, ← row_set HCC.out (by rw [← HL.out]; omega)]
                  exact HR2.out.set (by rw [List.length_append, List.length_drop, ← HCC.out, ← HL.out]; omega) x', belowN_set (belowN_set (belowN_set HN2.out hn _) hn _) hn _⟩
                case measure => simp [intOf]; omega
              · rw [hsm2] at heq
                rw [hsm2, if_pos rfl] at HNE
                clear hsm2
                go_wp2_with fail
                go_quiet (fail)
                have HR2 : Hid (RowD (wr.drewN nq) g _) := hide (HROW2.out.drew (n := nq))
                have HN2 := hide (belowN_drew (k := nq) HNX2.out)
                clear p0 p1 p2 m0 m1 m2 f0 f1 f2 k0 k1 k2 heq hgd HROW2 HNX2
                generalize wr.drewN nq = W2 at *
                go_wp2_with fail
                go_roundw
                case rel => exact ⟨c, t + 1, rfl, by go_num, by omega, by
                  rw [show j + 1 + (t + 1 + 1) = j + 1 + (t + 1) + 1 by omega, HNE.out]; exact HCC.out, by omega, by
                  rw [show j + 1 + (t + 1 + 1) = j + 1 + (t + 1) + 1 by omega, HNE.out]; exact HR2.out, HN2.out⟩
                case measure => simp [intOf]; omega
            · have HTK : Hid (l.take (j + 1 + (t + 1)) = l) := hide (List.take_of_length_le (by rw [← HL.out]; omega))
              rw [HTK.out] at HROW2 HCC hrow
              have hrow' := hrow
              obtain ⟨cur, hcur, hsz, -⟩ := hrow
              rw [List.length_append, List.length_drop, ← HCC.out, ← HL.out] at hsz
              have hcl := fun ty => clear_run (c := cap - c) hcur (show 0 < len - c by omega) (show c * 3 + (len - c) * 3 ≤ cur.size by omega) ty
              have HRC := hide (fun zs m => RowD.clear (zs := zs) (k := c) hrow' hcur (by rw [List.length_append, ← HCC.out]; omega) m)
              have hlt2 : decide ((t : Int) + 1 < ((len - (j + 1) : Nat) : Int)) = false := by simp; omega
              have HTC : Hid ((Nm.cpt l ++ l.drop c).take c = Nm.cpt l) := hide (by rw [HCC.out, List.take_left])
              rw [HTC.out] at HRC
              generalize (Builtin.zeroCells (Value.agg #[.int .i64 0, .string ⟨#[]⟩, .string ⟨#[]⟩]).cells (len - c)).toList = zs at *
              have HN2 := hide (belowN_row (g := g) (cs := (cur.toList.take (c * 3) ++ zs ++ cur.toList.drop (c * 3 + zs.length)).toArray) hnx hn)
              have HR2 := hide (HRC.out zs (c * 3 + zs.length))
              generalize wr.setRow g (cur.toList.take (c * 3) ++ zs ++ cur.toList.drop (c * 3 + zs.length)).toArray = W2 at *
              clear hrow' hcur hcc hnx HRC
              go_wp2_with fail
              go_ret
              exact ⟨_, by rw [← HCC.out]; rfl, HR2.out, HN2.out⟩
      · have HE : Hid (Nm.cpt l = l) := hide (by
          have h1 := cpt_self (l := l) (fun q a b h1 h2 => HALL.out q a b (by have := (List.getElem?_eq_some_iff.1 h2).1; have := HL.out; omega) h1 h2) l.length (Nat.le_refl _)
          rwa [List.take_length] at h1)
        have hlt : decide ((j : Int) + 1 < (len : Int)) = false := by simp; omega
        clear hrow
        go_wp2_with fail
        go_ret
        exact ⟨_, by rw [HE.out, ← HL.out]; rfl, by rw [HE.out]; exact HROW.out, HNX.out⟩
end Go.Proofs.YtholefgckcoklaaGreatDoor
namespace Go.Proofs.YtholefgckcoklaaGreatDoor
open Go.RowKit
theorem own_rowD {w : World} {base g n cap : Nat} {l : List Dg} {cs : List (List Value)} (h : w.ownsRow base 43 3 (.slice (some ⟨g, 0, none⟩) n cap) n cs.flatten) (hn : n = l.length) (hcs : cs.length = l.length) (hat : ∀ (i : Nat) c y, cs[i]? = some c → l[i]? = some y → DgC c y) : RowD w g l := by
  have hk : ∀ c ∈ cs, c.length = 3 := fun c hc => by
    obtain ⟨i, hi, rfl⟩ := List.mem_iff_getElem.1 hc
    have := hat i _ _ (List.getElem?_eq_getElem hi) (List.getElem?_eq_getElem (by omega))
    rw [this]; rfl
  have hget := fun (i : Nat) (c : List Value) (hc : cs[i]? = some c) (j : Nat) (hj : j < 3) => own_get h (by omega) hk hc hj
  rcases h.2 with ⟨h1, _⟩ | ⟨g', cap', cur, h1, _, hh, _, _, hsz, _⟩
  · simp at h1
  · simp at h1
    obtain ⟨rfl, rfl⟩ := h1
    refine ⟨cur, hh, by rw [hsz, ← hn]; omega, fun i d hd => ?_⟩
    have hi : i < cs.length := by rw [hcs]; exact (List.getElem?_eq_some_iff.1 hd).1
    have hc := List.getElem?_eq_getElem hi
    have e := hat i _ d hc hd
    have g0 := hget i _ hc 0 (by decide)
    have g1 := hget i _ hc 1 (by decide)
    have g2 := hget i _ hc 2 (by decide)
    rw [block_at hh, e] at g0 g1 g2
    exact ⟨g0, g1, g2⟩
set_option maxHeartbeats 2000000 in
set_option maxRecDepth 100000 in
theorem cloneD_any (w : World) (v : Value) (l : List Dg) (h : DgsAt w v l) (hl : l.length ≤ 16777216) :
    Calls Tryz.prog 135 #[v] w fun e w' => ∃ v', e = .returned v' ∧ Hid (Below w.heap.size w w' ∧ ((v' = .slice none 0 0 ∧ l = []) ∨ ∃ g cap, v' = .slice (some ⟨g, 0, none⟩) l.length cap ∧ l.length ≤ cap ∧ w.heap.size ≤ g ∧ RowD w' g l)) := by
  obtain ⟨a, b, off, cap, rfl, h0, -, hel⟩ := h
  cases a with
  | none =>
    have hz : l = [] := by
      cases l with
      | nil => rfl
      | cons y r => exact absurd (h0 (by simp)) (by simp)
    subst hz
    clear h0 hel
    have hnil : ∀ w c, (binOp .eql 37 (.slice none 0 c) (.slice none 0 0)).run Tryz.prog w = .ok (.bool true) w := fun w c => Lib.run_eql_slice_nil w 37 43 none 0 c 0 0 Tryz.underlying37
    go_enter Tryz.func135, Tryz.ntmps135
    go_wp2_with fail
    go_ret
    exact ⟨_, rfl, hide ⟨Below.refl _ _, Or.inl (by simp)⟩⟩
  | some ad =>
    obtain ⟨cs, k1, k2, k3, k4⟩ := cells_of (At := DgC) (w := w) (b := b) (off := off) (k := 3) (l := l) (by decide) (fun i y hy => by
      obtain ⟨g0, g1, g2⟩ := hel i y hy
      refine ⟨_, rfl, fun j u hu => ?_, rfl⟩
      match j, hu with
      | 0, hu => simp at hu; subst hu; exact g0
      | 1, hu => simp at hu; subst hu; exact g1
      | 2, hu => simp at hu; subst hu; exact g2
      | j + 3, hu => simp at hu)
    have HFL : Hid (cs.flatten.length = l.length * 3) := hide (by rw [flat_len cs k2, k1])
    have HK1 := hide k1
    have HK3 := hide k3
    have HBX := hide (boxBelow w (.cells #[] 43))
    have HK4 : Hid (∀ (j : Nat) u, cs.flatten[j]? = some u → (w.alloc (.cells #[] 43)).cell? ⟨b, off + j, none⟩ = some u) := hide fun j u hu => cellUp (k4 j u hu) HBX.out
    have HK5 : Hid (∀ u ∈ cs.flatten, u.oneCell' = true) := hide fun u hu => by
      obtain ⟨c, hc, hu'⟩ := List.mem_flatten.1 hu
      obtain ⟨i, hi, rfl⟩ := List.mem_iff_getElem.1 hc
      exact (k3 i _ _ (List.getElem?_eq_getElem hi) (List.getElem?_eq_getElem (by omega))).one u hu'
    have HH0 := hide h0
    obtain ⟨nl, hnl⟩ : ∃ n, n = l.length := ⟨_, rfl⟩
    rw [← hnl] at HFL HH0 HK1 hl ⊢
    have HNL := hide hnl
    have HL := hide hl
    clear hnl hl h0 hel k1 k2 k3 k4
    have hnil : ∀ w n c, (binOp .eql 37 (.slice (some ad) n c) (.slice none 0 0)).run Tryz.prog w = .ok (.bool false) w := fun w n c => Lib.run_eql_slice_nil w 37 43 (some ad) n c 0 0 Tryz.underlying37
    have HOW := hide (own_empty w 43 3)
    go_enter Tryz.func135, Tryz.ntmps135
    go_wp2_with (first
      | (at_builtin; refine wpList_append_mem rfl _ _ 37 43 3 40 _ rfl Tryz.underlying37 infoDg (by decide) (by decide) w.heap.size _ 0 [] rfl HOW.out (some ad) b off nl cap cs.flatten rfl HH0.out HFL.out HK4.out HK5.out (by have := HL.out; unfold maxLen; omega) (by have := HL.out; omega) HBX.out.size ?_; intro v7 w7 hown7 hgrow7 hz7 hp7; have HO7 := hide hown7; have HZ7 := hide hz7; have HP7 := hide hp7; have HB7 := hide (Below.grown HBX.out hgrow7 HBX.out.size (fun k e => by have := (HOW.out.lt k e).1; omega)); clear hown7 hgrow7 hz7 hp7)
      | fail)
    go_ret
    refine ⟨_, rfl, hide ⟨HB7.out, Or.inr ?_⟩⟩
    have ho := HO7.out
    rw [Nat.zero_add, List.nil_append] at ho
    have hrow := ho.2
    rcases hrow with ⟨h1, h2⟩ | ⟨g, cap', cur, h1, hg, hh, hc, _⟩
    · exfalso
      have h3 := (HZ7.out h2).symm.trans h1
      injection h3 with h4
      cases h4
    · rw [h1] at ho
      exact ⟨g, cap', h1, hc, hg, own_rowD ho HNL.out (by rw [HK1.out, HNL.out]) HK3.out⟩
set_option maxHeartbeats 1000000 in
theorem compactD_nil (w : World) (c : Nat) : Calls Tryz.prog 138 #[.slice none 0 c] w fun e w' => e = .returned (.slice none 0 c) ∧ w' = w := by
  go_enter Tryz.func138, Tryz.ntmps138
  go_wp2
  go_ret
  exact ⟨rfl, rfl⟩
theorem RowD.dgsN {w : World} {g c n : Nat} {l : List Dg} (h : RowD w g l) (hn : n = l.length) (hl : l.length ≤ 9223372036854775807) : DgsAt w (.slice (some ⟨g, 0, none⟩) n c) l := by
  subst hn
  exact ⟨_, g, 0, c, rfl, fun _ => rfl, hl, fun i d hd => by rw [Nat.zero_add]; exact h.cell hd⟩
set_option maxHeartbeats 2000000 in
set_option maxRecDepth 100000 in
theorem inOrder_any (w : World) (v : Value) (l : List Dg) (h : DgsAt w v l) (hl : l.length ≤ 16777216) :
    Calls Tryz.prog 60 #[v] w fun e w' => ∃ u, e = .returned u ∧ DgsAt w' u (Nm.once l) ∧ Below w.heap.size w w' := by
  have HC := hide (cloneD_any w v l h hl)
  obtain ⟨a, b, off, cap, rfl, -⟩ := h
  have HL := hide hl
  obtain ⟨fl, hfl⟩ : ∃ n, n = l.length := ⟨_, rfl⟩
  have HFL := hide hfl
  rw [← hfl] at HC ⊢
  clear hl hfl
  go_enter Tryz.func60, Tryz.ntmps60
  go_wp2_with fail
  refine HC.out.mono ?_
  rintro e w1 ⟨v1, rfl, hh1⟩
  obtain ⟨hb1, h1⟩ := hh1.out
  clear hh1
  have HB1 := hide hb1
  clear hb1 HC
  rcases h1 with ⟨rfl, hnil⟩ | ⟨g, c1, rfl, hcp, hg, hrow⟩
  · have HN := hide hnil
    clear hnil
    go_wp2_with fail
    refine (sortD_none _ _ _).mono ?_
    rintro e w2 ⟨rfl, hw2⟩
    subst hw2
    go_wp2_with fail
    refine (compactD_nil _ _).mono ?_
    rintro e w3 ⟨rfl, hw3⟩
    subst hw3
    go_wp2_with fail
    go_ret
    exact ⟨_, rfl, by rw [HN.out]; show DgsAt _ _ []; exact ⟨none, 0, 0, 0, rfl, fun h => absurd h (by simp), by simp, fun i d hd => by simp at hd⟩, HB1.out⟩
  · have HROW := hide hrow
    have HG := hide hg
    clear hrow hg
    go_wp2_with fail
    refine (sortD_any w1 w.heap.size g fl c1 l HROW.out HFL.out HG.out HL.out).mono ?_
    rintro e w2 ⟨rfl, s, hsl, hsm, hss, hrow, hb2⟩
    have HSL := hide hsl
    have HSM := hide hsm
    have HSS := hide hss
    have HROW2 := hide hrow
    have HB2 := hide (HB1.out.trans hb2)
    clear hsl hsm hss hrow hb2
    go_wp2_with fail
    refine (compactD_any w2 w.heap.size g fl c1 s HROW2.out (by rw [HSL.out]; exact HFL.out) hcp HG.out (by rw [HFL.out]; exact HL.out)).mono ?_
    rintro e w3 ⟨c3, rfl, hrow, hb3⟩
    have HE : Hid (Nm.once l = Nm.cpt s) := hide (Nm.cpt_once HSS.out HSM.out (fun _ => Iff.rfl)).symm
    have HROW3 := hide hrow
    have HB3 := hide (HB2.out.trans hb3)
    have HPL : Hid ((Nm.cpt s).length ≤ 9223372036854775807) := hide (by
      have h1 := Nm.cpt_len s
      rw [HSL.out] at h1
      have := HL.out
      omega)
    obtain ⟨pl, hpl⟩ : ∃ n, n = (Nm.cpt s).length := ⟨_, rfl⟩
    have HP := hide hpl
    rw [← hpl]
    clear hrow hb3 hpl
    go_wp2_with fail
    go_ret
    exact ⟨_, rfl, by rw [HE.out]; exact HROW3.out.dgsN HP.out HPL.out, HB3.out⟩
end Go.Proofs.YtholefgckcoklaaGreatDoor
namespace Go.Proofs.YtholefgckcoklaaGreatDoor
open Go.RowKit
theorem hidW_alloc {W0 x : World} {o : Obj} (h : Hid (Below W0.heap.size W0 x)) : Hid (Below W0.heap.size W0 (x.alloc o)) := hide (h.out.alloc h.out.size o)
theorem hidW_drew {W0 x : World} (h : Hid (Below W0.heap.size W0 x)) : Hid (Below W0.heap.size W0 x.drew) := hide h.out.drew
theorem RowD.dgs {w : World} {g c : Nat} {l : List Dg} (h : RowD w g l) (hl : l.length ≤ 9223372036854775807) : DgsAt w (.slice (some ⟨g, 0, none⟩) l.length c) l :=
  ⟨_, g, 0, c, rfl, fun _ => rfl, hl, fun i d hd => by rw [Nat.zero_add]; exact h.cell hd⟩
namespace Nm
def prL (names : List ByteArray) (x : Mo) (known : List Mo) (m : Nat) : List Dg := [imD x known, twD x, lvD names x m, clD x known m].flatten
def prD (E : Int) (names : List ByteArray) (x : Mo) (known : List Mo) (m : Nat) : List Dg := if E = 0 then once (prL names x known m) else []
end Nm
theorem DgsS.drew {w : World} {n : Nat} {v : Value} {ls : List (List Dg)} (h : DgsS w n v ls) : DgsS w.drew n v ls := by
  obtain ⟨b, off, cap, e, h16, h1⟩ := h
  refine ⟨b, off, cap, e, h16, fun i l hl => ?_⟩
  obtain ⟨vi, g0, g1⟩ := h1 i l hl
  exact ⟨vi, g0, g1.below (Below.refl _ _).drew⟩
theorem dgs_four {w : World} {n : Nat} {v0 v1 v2 v3 : Value} {l0 l1 l2 l3 : List Dg} (h0 : OwnK DgC w n 43 3 v0 l0) (h1 : OwnK DgC w n 43 3 v1 l1) (h2 : OwnK DgC w n 43 3 v2 l2) (h3 : OwnK DgC w n 43 3 v3 l3) :
    ∀ (i : Nat) v l, [v0, v1, v2, v3][i]? = some v → [l0, l1, l2, l3][i]? = some l → OwnK DgC w n 43 3 v l := fun i v l hv hl => by
  match i, hv, hl with
  | 0, hv, hl => simp at hv hl; subst hv hl; exact h0
  | 1, hv, hl => simp at hv hl; subst hv hl; exact h1
  | 2, hv, hl => simp at hv hl; subst hv hl; exact h2
  | 3, hv, hl => simp at hv hl; subst hv hl; exact h3
  | i + 4, hv, hl => simp at hv
set_option maxHeartbeats 4000000 in
set_option maxRecDepth 100000 in
theorem ncheck_any (m : Nat) (w : World) (vn vl vi vv vf vk : Value) (names : List ByteArray) (x : Mo) (known : List Mo) (E : Int) (hN : Strs w vn names) (h : MoAt w m (.agg #[.string x.name, vi, vv, vf]) x) (hK : MosAt w m vk known) (hC : MoCap w vi vf)
    (hform : ∀ wx, Below w.heap.size w wx → Calls Tryz.prog 53 #[.agg #[vn, vl], .agg #[.string x.name, vi, vv, vf], vk] wx fun e w' => e = .returned (.int .i64 E) ∧ Below wx.heap.size wx w')
    (hlv : x.vars.length ≤ 1048576) (hlf : x.funs.length ≤ 1048576) (hli : x.imports.length ≤ 1048576) (hlen : (Nm.prL names x known m).length ≤ 16777216) :
    Calls Tryz.prog 13 #[.agg #[vn, vl], .agg #[.string x.name, vi, vv, vf], vk] w fun e w' => ∃ u, e = .returned (.tuple #[u, .int .i64 E]) ∧ DgsAt w' u (Nm.prD E names x known m) ∧ Below w.heap.size w w' := by
  have HN := hide hN
  have HM := hide h
  have HK := hide hK
  have HMC := hide hC
  obtain ⟨hI, hV, hF⟩ := h.split
  obtain ⟨an, bn, on, cn, rfl, -⟩ := hN
  obtain ⟨ai, bi, oi, ci, rfl, -⟩ := hI
  obtain ⟨av, bv, ov, cv, rfl, -⟩ := hV
  obtain ⟨af, bf, of, cf, rfl, -⟩ := hF
  obtain ⟨ak, bk, ok, ck, rfl, -⟩ := hK
  have HFO := hide hform
  obtain ⟨D1, hD1⟩ : ∃ D, D = Nm.imD x known := ⟨_, rfl⟩
  obtain ⟨D2, hD2⟩ : ∃ D, D = Nm.twD x := ⟨_, rfl⟩
  obtain ⟨D3, hD3⟩ : ∃ D, D = Nm.lvD names x m := ⟨_, rfl⟩
  obtain ⟨D4, hD4⟩ : ∃ D, D = Nm.clD x known m := ⟨_, rfl⟩
  have HPL : Hid (Nm.prL names x known m = [D1, D2, D3, D4].flatten) := hide (by rw [hD1, hD2, hD3, hD4]; rfl)
  rw [HPL.out] at hlen
  have HLE := hide hlen
  have HL4 : Hid (D1.length ≤ 16777216 ∧ D2.length ≤ 16777216 ∧ D3.length ≤ 16777216 ∧ D4.length ≤ 16777216) := hide (by
    simp only [List.flatten_cons, List.flatten_nil, List.append_nil, List.length_append] at hlen
    refine ⟨?_, ?_, ?_, ?_⟩ <;> omega)
  have HC1 := hide (fun wx vk' va (hS : ScV wx m x known (.slice ai x.imports.length ci) (.slice av x.vars.length cv) (.slice af x.funs.length cf) vk' va) => importDiags_any m wx x known _ _ _ vk' va hS (by rw [← hD1]; exact HL4.out.1))
  have HC2 := hide (fun wx (hb : Below w.heap.size w wx) => twiceDiags_any m wx _ _ _ x (HM.out.below hb) (HMC.out.below hb) hlv hlf (by rw [← hD2]; exact HL4.out.2.1))
  have HC3 := hide (fun wx (hb : Below w.heap.size w wx) => levelDiags_any m wx _ vl _ _ _ names x (HN.out.below hb) (HM.out.below hb) (by rw [← hD3]; exact HL4.out.2.2.1))
  have HC4 := hide (fun wx vk' va (hS : ScV wx m x known (.slice ai x.imports.length ci) (.slice av x.vars.length cv) (.slice af x.funs.length cf) vk' va) => callDiags_any m wx x known _ _ _ vk' va hS (by rw [← hD4]; exact HL4.out.2.2.2))
  rw [← hD1] at HC1
  rw [← hD2] at HC2
  rw [← hD3] at HC3
  rw [← hD4] at HC4
  have HSC := hide (fun wx (hb : Below w.heap.size w wx) => newScope_any m wx _ _ _ _ x known (HM.out.below hb) (HK.out.below hb) hli)
  have HCF := hide (hC.fus)
  generalize x.imports.length = ni at *
  generalize x.vars.length = nv at *
  generalize x.funs.length = nf at *
  generalize known.length = nk at *
  generalize names.length = nn at *
  obtain ⟨b0, b1, hb0⟩ := al2 w (.cells #[.slice an nn cn, vl] 34) (.cells #[.string x.name, .slice ai ni ci, .slice av nv cv, .slice af nf cf] 26)
  have HB0 := hide b0
  have HB1 := hide b1
  have HBL := hide hb0
  have q0 := (block_at b0 0).trans (rfl : _ = some (Value.slice an nn cn))
  have q1 := (block_at b0 1).trans (rfl : _ = some vl)
  have r0 := (block_at b1 0).trans (rfl : _ = some (Value.string x.name))
  have r1 := (block_at b1 1).trans (rfl : _ = some (Value.slice ai ni ci))
  have r2 := (block_at b1 2).trans (rfl : _ = some (Value.slice av nv cv))
  have r3 := (block_at b1 3).trans (rfl : _ = some (Value.slice af nf cf))
  obtain ⟨PD, hPD⟩ : ∃ P, P = Nm.prD E names x known m := ⟨_, rfl⟩
  have HPP := hide hPD
  rw [← hPD]
  clear h hC hform hlen hD1 hD2 hD3 hD4 b0 b1 hb0 hPD
  go_enter Tryz.func13, Tryz.ntmps13
  go_wp2_with fail
  generalize ((w.alloc (.cells #[.slice an nn cn, vl] 34)).alloc (.cells #[.string x.name, .slice ai ni ci, .slice av nv cv, .slice af nf cf] 26)) = W0 at *
  refine (HFO.out _ HBL.out).mono ?_
  rintro e w1 ⟨rfl, hb1⟩
  have HB2 := hide (up HBL.out hb1)
  replace q0 := cellUp q0 hb1
  replace q1 := cellUp q1 hb1
  replace r0 := cellUp r0 hb1
  replace r1 := cellUp r1 hb1
  replace r2 := cellUp r2 hb1
  replace r3 := cellUp r3 hb1
  clear hb1
  by_cases hE : E = 0
  · subst hE
    have HPD : Hid (Nm.prD 0 names x known m = Nm.once [D1, D2, D3, D4].flatten) := hide (by unfold Nm.prD; rw [if_pos rfl, HPL.out])
    go_wp2_with fail
    refine (HSC.out _ HB2.out).mono ?_
    rintro e w2 ⟨va, rfl, hints, hb2⟩
    have HIN := hide hints
    obtain ⟨aa, ba, oa, ca, rfl, -⟩ := hints
    generalize (x.imports.map fun s => Nm.oI (Nm.moAt known s)).length = nat at *
    have HB3 := hide (up HB2.out hb2)
    have HQ := hide (And.intro (cellUp q0 hb2) (And.intro (cellUp q1 hb2) (And.intro (cellUp r0 hb2) (And.intro (cellUp r1 hb2) (And.intro (cellUp r2 hb2) (cellUp r3 hb2))))))
    have HSV : Hid (ScV w2 m x known (.slice ai ni ci) (.slice av nv cv) (.slice af nf cf) (.slice ak nk ck) (.slice aa nat ca)) := hide ⟨HM.out.below HB3.out, HK.out.below HB3.out, HIN.out, HCF.out⟩
    clear q0 q1 r0 r1 r2 r3 hb2
    go_wp2_with fail
    have HW4 := hide (boxBelow w2 (.cells #[.string x.name, .slice ai ni ci, .slice av nv cv, .slice af nf cf, .slice ak nk ck, .slice aa nat ca] 122))
    have hs := box6 w2 (.string x.name) (.slice ai ni ci) (.slice av nv cv) (.slice af nf cf) (.slice ak nk ck) (.slice aa nat ca) 122
    have HF : Hid (∀ wx, Hid (Below (w2.alloc (.cells #[.string x.name, .slice ai ni ci, .slice av nv cv, .slice af nf cf, .slice ak nk ck, .slice aa nat ca] 122)).heap.size (w2.alloc (.cells #[.string x.name, .slice ai ni ci, .slice av nv cv, .slice af nf cf, .slice ak nk ck, .slice aa nat ca] 122)) wx) →
        wx.cell? ⟨w.heap.size, 0, none⟩ = some (.slice an nn cn) ∧ wx.cell? ⟨w.heap.size, 1, none⟩ = some vl ∧ wx.cell? ⟨w.heap.size + 1, 0, none⟩ = some (.string x.name) ∧ wx.cell? ⟨w.heap.size + 1, 1, none⟩ = some (.slice ai ni ci) ∧ wx.cell? ⟨w.heap.size + 1, 2, none⟩ = some (.slice av nv cv) ∧ wx.cell? ⟨w.heap.size + 1, 3, none⟩ = some (.slice af nf cf) ∧
        wx.cell? ⟨w2.heap.size, 0, none⟩ = some (.string x.name) ∧ wx.cell? ⟨w2.heap.size, 1, none⟩ = some (.slice ai ni ci) ∧ wx.cell? ⟨w2.heap.size, 2, none⟩ = some (.slice av nv cv) ∧ wx.cell? ⟨w2.heap.size, 3, none⟩ = some (.slice af nf cf) ∧ wx.cell? ⟨w2.heap.size, 4, none⟩ = some (.slice ak nk ck) ∧ wx.cell? ⟨w2.heap.size, 5, none⟩ = some (.slice aa nat ca)) :=
      hide (fun wx h => ⟨cellUp (cellUp HQ.out.1 HW4.out) h.out, cellUp (cellUp HQ.out.2.1 HW4.out) h.out, cellUp (cellUp HQ.out.2.2.1 HW4.out) h.out, cellUp (cellUp HQ.out.2.2.2.1 HW4.out) h.out, cellUp (cellUp HQ.out.2.2.2.2.1 HW4.out) h.out, cellUp (cellUp HQ.out.2.2.2.2.2 HW4.out) h.out,
        cellUp (hs 0 _ rfl) h.out, cellUp (hs 1 _ rfl) h.out, cellUp (hs 2 _ rfl) h.out, cellUp (hs 3 _ rfl) h.out, cellUp (hs 4 _ rfl) h.out, cellUp (hs 5 _ rfl) h.out⟩)
    have HSV4 := hide (HSV.out.below HW4.out)
    have HB4 := hide (up HB3.out HW4.out)
    clear hs HQ HW4
    generalize (w2.alloc (.cells #[.string x.name, .slice ai ni ci, .slice av nv cv, .slice af nf cf, .slice ak nk ck, .slice aa nat ca] 122)) = W4 at *
    have H00 : Hid (Below W4.heap.size W4 W4) := hide (Below.refl _ _)
    obtain ⟨F, hF⟩ : ∃ F, F = ([D1, D2, D3, D4] : List (List Dg)).flatten := ⟨_, rfl⟩
    have HFF := hide hF
    clear hF
    go_region_held3 (fun wx => wx.cell? ⟨w.heap.size, 0, none⟩ = some (.slice an nn cn) ∧ wx.cell? ⟨w.heap.size, 1, none⟩ = some vl ∧ wx.cell? ⟨w.heap.size + 1, 0, none⟩ = some (.string x.name) ∧ wx.cell? ⟨w.heap.size + 1, 1, none⟩ = some (.slice ai ni ci) ∧ wx.cell? ⟨w.heap.size + 1, 2, none⟩ = some (.slice av nv cv) ∧ wx.cell? ⟨w.heap.size + 1, 3, none⟩ = some (.slice af nf cf) ∧
        wx.cell? ⟨w2.heap.size, 0, none⟩ = some (.string x.name) ∧ wx.cell? ⟨w2.heap.size, 1, none⟩ = some (.slice ai ni ci) ∧ wx.cell? ⟨w2.heap.size, 2, none⟩ = some (.slice av nv cv) ∧ wx.cell? ⟨w2.heap.size, 3, none⟩ = some (.slice af nf cf) ∧ wx.cell? ⟨w2.heap.size, 4, none⟩ = some (.slice ak nk ck) ∧ wx.cell? ⟨w2.heap.size, 5, none⟩ = some (.slice aa nat ca))
      ((refine HF.out _ ?_; repeat (first | exact HW9 | exact HW8 | exact HW7 | exact HW6 | exact HW5 | exact H00 | apply hidW_drew | apply hidW_alloc)))
      (first
        | (go_at_call 56; refine (HC1.out _ _ _ (HSV4.out.below (unhide (by repeat (first | exact H00 | apply hidW_drew))))).mono ?_; rintro e w5 ⟨u5, rfl, hu5, hb5⟩; obtain ⟨a5, c5, rfl⟩ := hu5.form; have HW5 : Hid (Below W4.heap.size W4 w5) := hide (up (w := W4) (unhide (by repeat (first | exact H00 | apply hidW_drew))) hb5); have HU5 := hide hu5; clear hu5 hb5)
        | (go_at_call 57; refine (HC2.out _ (up HB4.out (unhide (by repeat (first | exact HW5 | apply hidW_drew))))).mono ?_; rintro e w6 ⟨u6, rfl, hu6, hb6⟩; obtain ⟨a6, c6, rfl⟩ := hu6.form; have HW6 : Hid (Below W4.heap.size W4 w6) := hide (up (w := W4) (unhide (by repeat (first | exact HW5 | apply hidW_drew))) hb6); have HU6 := hide hu6; have HV5 := hide (HU5.out.below (show Below w5.heap.size w5 w6 from hb6)); clear hu6 hb6)
        | (go_at_call 58; refine (HC3.out _ (up HB4.out (unhide (by repeat (first | exact HW6 | apply hidW_drew))))).mono ?_; rintro e w7 ⟨u7, rfl, hu7, hb7⟩; obtain ⟨a7, c7, rfl⟩ := hu7.form; have HW7 : Hid (Below W4.heap.size W4 w7) := hide (up (w := W4) (unhide (by repeat (first | exact HW6 | apply hidW_drew))) hb7); have HU7 := hide hu7; have HX5 := hide (HV5.out.below (show Below w6.heap.size w6 w7 from hb7)); have HX6 := hide (HU6.out.below (show Below w6.heap.size w6 w7 from hb7)); clear hu7 hb7)
        | (go_at_call 59; refine (HC4.out _ _ _ (HSV4.out.below (unhide (by repeat (first | exact HW7 | apply hidW_drew))))).mono ?_; rintro e w8 ⟨u8, rfl, hu8, hb8⟩; obtain ⟨a8, c8, rfl⟩ := hu8.form; have HW8 : Hid (Below W4.heap.size W4 w8) := hide (up (w := W4) (unhide (by repeat (first | exact HW7 | apply hidW_drew))) hb8); have HU8 := hide hu8; have HY5 := hide (HX5.out.below (show Below w7.heap.size w7 w8 from hb8)); have HY6 := hide (HX6.out.below (show Below w7.heap.size w7 w8 from hb8)); have HY7 := hide (HU7.out.below (show Below w7.heap.size w7 w8 from hb8)); clear hu8 hb8)
        | (go_at_call 55; have HDS : Hid (DgsS (w8.alloc (.cells #[.slice a5 D1.length c5, .slice a6 D2.length c6, .slice a7 D3.length c7, .slice a8 D4.length c8] 37)) W4.heap.size (.slice (some ⟨w8.heap.size, 0, none⟩) 4 4) [D1, D2, D3, D4]) := hide (dgsS_list w8 W4.heap.size 37 [.slice a5 D1.length c5, .slice a6 D2.length c6, .slice a7 D3.length c7, .slice a8 D4.length c8] [D1, D2, D3, D4] rfl (by simp) (dgs_four (HY5.out.old (Nat.le_refl _)) (HY6.out.old HW5.out.size) (HY7.out.old HW6.out.size) (HU8.out.old HW7.out.size))); refine (concatD_any _ W4.heap.size _ [D1, D2, D3, D4] (by repeat (first | exact HDS.out | apply DgsS.drew)) HLE.out).mono ?_; rintro e w9 ⟨u9, rfl, hu9, hb9⟩; rw [← HFF.out] at hu9; have HW9 : Hid (Below W4.heap.size W4 w9) := hide (up (w := W4) (unhide (by repeat (first | exact HW8 | apply hidW_drew | apply hidW_alloc))) hb9); have HU9 := hide (hu9.old (show W4.heap.size ≤ _ from (unhide (by repeat (first | exact HW8 | apply hidW_drew | apply hidW_alloc)) : Below W4.heap.size W4 _).size)); obtain ⟨a9, c9, rfl⟩ := hu9.form; clear hu9 hb9))
    all_goals
      have HLF : Hid (F.length ≤ 16777216) := hide (by rw [HFF.out]; exact HLE.out)
      have HB9 := hide (up HB4.out HW9.out)
      have HOF : Hid (PD = Nm.once F) := hide (by rw [HPP.out, HPD.out, HFF.out])
      clear HU5 HU6 HU7 HU8 HV5 HX5 HX6 HY5 HY6 HY7 HW5 HW6 HW7 HW8
      have HDG := hide (HU9.out.dgs (by have := HLF.out; omega))
      clear HU9
      go_wp2_with fail
      refine (inOrder_any w9 _ F HDG.out HLF.out).mono ?_
      rintro e w11 ⟨u11, rfl, hu11, hb11⟩
      rw [← HOF.out] at hu11
      have HU11 := hide hu11
      have HB11 := hide (up HB9.out hb11)
      obtain ⟨a11, b11, o11, c11, rfl, -⟩ := hu11
      generalize PD.length = pl at *
      clear hb11
      go_wp2_with fail
      refine bodyPost_ret (v := .tuple #[.slice a11 pl c11, .int .i64 0]) (by simp [results, Tryz.results13, go_sem]) rfl ?_
      exact ⟨_, rfl, HU11.out, HB11.out⟩
  · have hE' : (E == 0) = false := by simp [hE]
    have HPD : Hid (Nm.prD E names x known m = []) := hide (by unfold Nm.prD; rw [if_neg hE])
    clear hE
    go_wp2_with fail
    refine bodyPost_ret (v := .tuple #[.slice none 0 0, .int .i64 E]) (by simp [results, Tryz.results13, go_sem]) rfl ?_
    exact ⟨_, rfl, by rw [HPP.out, HPD.out]; exact ⟨none, 0, 0, 0, rfl, fun h => absurd h (by simp), by simp, fun i d hd => by simp at hd⟩, HB2.out⟩
end Go.Proofs.YtholefgckcoklaaGreatDoor
namespace Go.Proofs.YtholefgckcoklaaGreatDoor
open Go.RowKit
namespace Nm
theorem mem_calls (m : Nat) : ∀ (x y : Ex), y ∈ calls m x ↔ y ∈ pcalls m x := by
  induction m with
  | zero => intro x y; simp [calls, pcalls]
  | succ m ih =>
    intro x y
    simp only [calls, pcalls, List.mem_append, List.mem_flatMap]
    constructor
    · rintro (⟨a, ha, hy⟩ | h)
      · exact Or.inr ⟨a, ha, (ih a y).1 hy⟩
      · exact Or.inl h
    · rintro (h | ⟨a, ha, hy⟩)
      · exact Or.inr h
      · exact Or.inl ⟨a, ha, (ih a y).2 hy⟩
def rC (x : Mo) (known : List Mo) (k : Nat) (fn : ByteArray) (y : Ex) : List Dg := if (tgt x k y.name known).2.2 = false then [⟨4, fn, y.name⟩] else match pfun x known (tgt x k y.name known) with
  | some g => if g.params.length = y.args.length then [] else [⟨5, fn, y.name⟩]
  | none => []
theorem rC_clE (x : Mo) (known : List Mo) (k : Nat) (fn : ByteArray) (y : Ex) : rC x known k fn y = clE x known k fn y := by
  obtain ⟨h1, h2⟩ := tgt_ptgt x k y.name known
  cases ht : (tgt x k y.name known).2.2 with
  | false =>
    rw [ht] at h1
    have hc : code x known k y.name y.args.length = 4 := by unfold code; rw [if_pos h1.symm]
    unfold rC clE
    rw [if_pos ht, hc, if_neg (by decide)]
  | true =>
    rw [ht] at h1
    have hp := h2 ht
    cases hf : pfun x known (ptgt x k y.name known) with
    | none =>
      have hc : code x known k y.name y.args.length = 0 := by unfold code; rw [if_neg (by rw [← h1]; simp), hf]
      unfold rC clE
      rw [if_neg (by rw [ht]; simp), hp, hf, hc, if_pos rfl]
    | some g =>
      by_cases hg : g.params.length = y.args.length
      · have hc : code x known k y.name y.args.length = 0 := by unfold code; rw [if_neg (by rw [← h1]; simp), hf]; simp only; rw [if_pos hg]
        unfold rC clE
        rw [if_neg (by rw [ht]; simp), hp, hf, hc, if_pos rfl]
        simp only
        rw [if_pos hg]
      · have hc : code x known k y.name y.args.length = 5 := by unfold code; rw [if_neg (by rw [← h1]; simp), hf]; simp only; rw [if_neg hg]
        unfold rC clE
        rw [if_neg (by rw [ht]; simp), hp, hf, hc, if_neg (by decide)]
        simp only
        rw [if_neg hg]
end Nm
end Go.Proofs.YtholefgckcoklaaGreatDoor
namespace Go.Proofs.YtholefgckcoklaaGreatDoor
open Go.RowKit
namespace Nm
def rI (x : Mo) (known : List Mo) (i : Nat) (s : ByteArray) : List Dg := (if (!(known.any fun y => sameB y.name s) || sameB s x.name) = true then [⟨1, ⟨#[]⟩, s⟩] else []) ++ (if inB (x.imports.take i) s = true then [⟨2, ⟨#[]⟩, s⟩] else [])
def rV (names : List ByteArray) (x : Mo) (i : Nat) (v : Va) : List Dg := lev names ⟨#[]⟩ v.level ++ upto (atD x.vars fun _ u => if sameB u.name v.name = true then [(⟨2, ⟨#[]⟩, v.name⟩ : Dg)] else []) i
def rVs (names : List ByteArray) (x : Mo) : List Dg := upto (atD x.vars (rV names x)) x.vars.length
def rF6 (x : Mo) (k : Nat) (f : Fu) : List Dg := upto (atD x.funs fun _ g => if sameB g.name f.name = true then [(⟨2, ⟨#[]⟩, f.name⟩ : Dg)] else []) k
def rF8 (names : List ByteArray) (m : Nat) (f : Fu) : List Dg := (all m f.body).flatMap (levS names f.name)
def rF9 (x : Mo) (known : List Mo) (m k : Nat) (f : Fu) : List Dg := (calls m f.result ++ (all m f.body).flatMap fun s => calls m s.e).flatMap (rC x known k f.name)
def rFs (names : List ByteArray) (x : Mo) (known : List Mo) (m : Nat) : List Dg := upto (atD x.funs fun k f => rF6 x k f ++ twA f.name f.params ++ rF8 names m f ++ rF9 x known m k f) x.funs.length
def rIs (x : Mo) (known : List Mo) : List Dg := upto (atD x.imports (rI x known)) x.imports.length
theorem mem_atD {α : Type} {l : List α} {f : Nat → α → List Dg} {d : Dg} : d ∈ upto (atD l f) l.length ↔ ∃ (i : Nat) (x : α), l[i]? = some x ∧ d ∈ f i x := by
  rw [mem_upto]
  constructor
  · rintro ⟨i, hi, hd⟩
    rw [atD_some (List.getElem?_eq_getElem hi)] at hd
    exact ⟨i, _, List.getElem?_eq_getElem hi, hd⟩
  · rintro ⟨i, x, hx, hd⟩
    exact ⟨i, (List.getElem?_eq_some_iff.1 hx).1, by rw [atD_some hx]; exact hd⟩
theorem any_moAt (known : List Mo) (s : ByteArray) : (!(known.any fun y => sameB y.name s)) = (moAt known s).isNone := by
  cases hm : moAt known s with
  | some a =>
    obtain ⟨y, hy, hs⟩ := moAt_lt hm
    have : (known.any fun y => sameB y.name s) = true := List.any_eq_true.2 ⟨y, List.mem_of_getElem? hy, hs⟩
    rw [this]; rfl
  | none =>
    have : (known.any fun y => sameB y.name s) = false := by
      rw [List.any_eq_false]
      intro y hy hs
      obtain ⟨i, hi, rfl⟩ := List.mem_iff_getElem.1 hy
      unfold moAt at hm
      rw [List.find?_eq_none] at hm
      have := hm i (List.mem_range.2 hi)
      rw [List.getElem?_eq_getElem hi] at this
      exact this hs
    rw [this]; rfl
theorem inB_iff (l : List ByteArray) (s : ByteArray) : inB l s = true ↔ s ∈ l := by
  unfold inB
  rw [decide_eq_true_iff]
  constructor
  · intro h
    rcases idx_cases l s with hi | ⟨i, hi, hil⟩
    · rw [hi] at h; omega
    · have := index_same hi
      rw [List.getD_eq_getElem?_getD, List.getElem?_eq_getElem hil] at this
      rw [← this]
      exact List.getElem_mem hil
  · intro h
    rcases idx_cases l s with hi | ⟨i, hi, hil⟩
    · exfalso
      unfold Lat.indexI at hi
      cases hf : (List.range l.length).find? (Lat.isAt l s) with
      | some j => rw [hf] at hi; simp at hi
      | none =>
        rw [List.find?_eq_none] at hf
        obtain ⟨i, hi', rfl⟩ := List.mem_iff_getElem.1 h
        have := hf i (List.mem_range.2 hi')
        unfold Lat.isAt at this
        simp [List.getD_eq_getElem?_getD, hi'] at this
    · rw [hi]; omega
theorem mem_twA {fn : ByteArray} {l : List ByteArray} {d : Dg} : d ∈ twA fn l ↔ ∃ (i : Nat) (s : ByteArray), l[i]? = some s ∧ s ∈ l.take i ∧ d = ⟨2, fn, s⟩ := by
  unfold twA
  rw [mem_atD]
  constructor
  · rintro ⟨i, s, hs, hd⟩
    split at hd
    · rename_i h; exact ⟨i, s, hs, (inB_iff _ _).1 h, by simpa using hd⟩
    · simp at hd
  · rintro ⟨i, s, hs, h, rfl⟩
    exact ⟨i, s, hs, by rw [if_pos ((inB_iff _ _).2 h)]; simp⟩
theorem mem_ahead {α : Type} {l : List α} {nm : α → ByteArray} {i : Nat} {v : α} (hi : l[i]? = some v) {d : Dg} : d ∈ upto (atD l fun _ u => if sameB (nm u) (nm v) = true then [(⟨2, ⟨#[]⟩, nm v⟩ : Dg)] else []) i ↔ nm v ∈ (l.map nm).take i ∧ d = ⟨2, ⟨#[]⟩, nm v⟩ := by
  have hil : i ≤ l.length := Nat.le_of_lt (List.getElem?_eq_some_iff.1 hi).1
  rw [mem_upto]
  constructor
  · rintro ⟨k, hk, hd⟩
    have hkl : k < l.length := by omega
    rw [atD_some (List.getElem?_eq_getElem hkl)] at hd
    split at hd
    · rename_i h
      have e : nm l[k] = nm v := toList_inj (by unfold sameB at h; rwa [beq_iff_eq] at h)
      refine ⟨?_, by simpa using hd⟩
      rw [← e, ← List.map_take]
      exact List.mem_map.2 ⟨l[k], List.mem_take_iff_getElem.2 ⟨k, by omega, rfl⟩, rfl⟩
    · simp at hd
  · rintro ⟨h, rfl⟩
    rw [← List.map_take] at h
    obtain ⟨u, hu, e⟩ := List.mem_map.1 h
    obtain ⟨k, hk, rfl⟩ := List.mem_take_iff_getElem.1 hu
    refine ⟨k, by omega, ?_⟩
    rw [atD_some (List.getElem?_eq_getElem (by omega)), if_pos (by unfold sameB; rw [beq_iff_eq, e])]
    simp
theorem mem_tw_of {α : Type} {l : List α} {nm : α → ByteArray} {d : Dg} : d ∈ twA ⟨#[]⟩ (l.map nm) ↔ ∃ (i : Nat) (v : α), l[i]? = some v ∧ nm v ∈ (l.map nm).take i ∧ d = ⟨2, ⟨#[]⟩, nm v⟩ := by
  rw [mem_twA]
  constructor
  · rintro ⟨i, s, hs, h, e⟩
    rw [List.getElem?_map] at hs
    cases hv : l[i]? with
    | none => rw [hv] at hs; simp at hs
    | some v => rw [hv] at hs; simp at hs; subst hs; exact ⟨i, v, hv, h, e⟩
  · rintro ⟨i, v, hv, h, e⟩
    exact ⟨i, nm v, by rw [List.getElem?_map, hv]; rfl, h, e⟩
theorem mem_rIs (x : Mo) (known : List Mo) (d : Dg) : d ∈ rIs x known ↔ d ∈ imD x known ∨ d ∈ twA ⟨#[]⟩ x.imports := by
  unfold rIs imD
  rw [mem_atD, mem_atD, mem_twA]
  constructor
  · rintro ⟨i, s, hs, hd⟩
    unfold rI at hd
    rcases List.mem_append.1 hd with hd | hd
    · rw [any_moAt, Bool.or_comm] at hd
      exact Or.inl ⟨i, s, hs, hd⟩
    · split at hd
      · rename_i h; exact Or.inr ⟨i, s, hs, (inB_iff _ _).1 h, by simpa using hd⟩
      · simp at hd
  · rintro (⟨i, s, hs, hd⟩ | ⟨i, s, hs, h, rfl⟩)
    · refine ⟨i, s, hs, ?_⟩
      unfold rI
      rw [any_moAt, Bool.or_comm]
      exact List.mem_append.2 (Or.inl hd)
    · refine ⟨i, s, hs, ?_⟩
      unfold rI
      exact List.mem_append.2 (Or.inr (by rw [if_pos ((inB_iff _ _).2 h)]; simp))
theorem mem_rVs (names : List ByteArray) (x : Mo) (d : Dg) : d ∈ rVs names x ↔ (d ∈ x.vars.flatMap fun v => lev names ⟨#[]⟩ v.level) ∨ d ∈ twA ⟨#[]⟩ (x.vars.map (·.name)) := by
  unfold rVs
  rw [mem_atD, mem_tw_of, List.mem_flatMap]
  constructor
  · rintro ⟨i, v, hv, hd⟩
    unfold rV at hd
    rcases List.mem_append.1 hd with hd | hd
    · exact Or.inl ⟨v, List.mem_of_getElem? hv, hd⟩
    · exact Or.inr ⟨i, v, hv, (mem_ahead (nm := (·.name)) hv).1 hd⟩
  · rintro (⟨v, hv, hd⟩ | ⟨i, v, hv, hd⟩)
    · obtain ⟨i, hi, rfl⟩ := List.mem_iff_getElem.1 hv
      exact ⟨i, _, List.getElem?_eq_getElem hi, List.mem_append.2 (Or.inl hd)⟩
    · exact ⟨i, v, hv, List.mem_append.2 (Or.inr ((mem_ahead (nm := (·.name)) hv).2 hd))⟩
theorem mem_rF9 (x : Mo) (known : List Mo) (m k : Nat) (f : Fu) (d : Dg) : d ∈ rF9 x known m k f ↔ d ∈ (fcalls m f).flatMap (clE x known k f.name) := by
  unfold rF9 fcalls
  simp only [List.mem_flatMap, List.mem_append, rC_clE, mem_calls]
  constructor
  · rintro ⟨y, hy, hd⟩; exact ⟨y, hy.symm, hd⟩
  · rintro ⟨y, hy, hd⟩; exact ⟨y, hy.symm, hd⟩
theorem mem_both (names : List ByteArray) (x : Mo) (known : List Mo) (m : Nat) (d : Dg) : d ∈ rIs x known ++ rVs names x ++ rFs names x known m ↔ d ∈ prL names x known m := by
  have hF : d ∈ rFs names x known m ↔ d ∈ twA ⟨#[]⟩ (x.funs.map (·.name)) ∨ (d ∈ x.funs.flatMap fun f => twA f.name f.params) ∨ (d ∈ x.funs.flatMap fun f => (all m f.body).flatMap (levS names f.name)) ∨ d ∈ clD x known m := by
    unfold rFs clD
    rw [mem_atD, mem_atD, mem_tw_of, List.mem_flatMap, List.mem_flatMap]
    constructor
    · rintro ⟨k, f, hf, hd⟩
      rcases List.mem_append.1 hd with hd | hd
      · rcases List.mem_append.1 hd with hd | hd
        · rcases List.mem_append.1 hd with hd | hd
          · exact Or.inl ⟨k, f, hf, (mem_ahead (nm := (·.name)) hf).1 hd⟩
          · exact Or.inr (Or.inl ⟨f, List.mem_of_getElem? hf, hd⟩)
        · exact Or.inr (Or.inr (Or.inl ⟨f, List.mem_of_getElem? hf, hd⟩))
      · exact Or.inr (Or.inr (Or.inr ⟨k, f, hf, (mem_rF9 x known m k f d).1 hd⟩))
    · rintro (⟨k, f, hf, hd⟩ | ⟨f, hf, hd⟩ | ⟨f, hf, hd⟩ | ⟨k, f, hf, hd⟩)
      · exact ⟨k, f, hf, List.mem_append.2 (Or.inl (List.mem_append.2 (Or.inl (List.mem_append.2 (Or.inl ((mem_ahead (nm := (·.name)) hf).2 hd))))))⟩
      · obtain ⟨k, hk, rfl⟩ := List.mem_iff_getElem.1 hf
        exact ⟨k, _, List.getElem?_eq_getElem hk, List.mem_append.2 (Or.inl (List.mem_append.2 (Or.inl (List.mem_append.2 (Or.inr hd)))))⟩
      · obtain ⟨k, hk, rfl⟩ := List.mem_iff_getElem.1 hf
        exact ⟨k, _, List.getElem?_eq_getElem hk, List.mem_append.2 (Or.inl (List.mem_append.2 (Or.inr hd)))⟩
      · exact ⟨k, f, hf, List.mem_append.2 (Or.inr ((mem_rF9 x known m k f d).2 hd))⟩
  unfold prL twD lvD
  simp only [List.flatten_cons, List.flatten_nil, List.append_nil, List.mem_append]
  rw [mem_rIs, mem_rVs, hF]
  generalize (d ∈ imD x known) = a
  generalize (d ∈ twA ⟨#[]⟩ x.imports) = b
  generalize (d ∈ twA ⟨#[]⟩ (x.vars.map (·.name))) = c
  generalize (d ∈ twA ⟨#[]⟩ (x.funs.map (·.name))) = e
  generalize (d ∈ x.vars.flatMap fun v => lev names ⟨#[]⟩ v.level) = f
  generalize (d ∈ x.funs.flatMap fun f => twA f.name f.params) = g
  generalize (d ∈ x.funs.flatMap fun f => (all m f.body).flatMap (levS names f.name)) = h
  generalize (d ∈ clD x known m) = i
  constructor
  · rintro (((h | h) | (h | h)) | h | h | h | h) <;> simp [h]
  · rintro (h | ((h | h | h) | h) | (h | h) | h) <;> simp [h]
theorem once_both (names : List ByteArray) (x : Mo) (known : List Mo) (m : Nat) : once (rIs x known ++ rVs names x ++ rFs names x known m) = once (prL names x known m) :=
  asc_unique (once_asc _) (once_asc _) fun d => by rw [once_mem, once_mem, mem_both]
end Nm
end Go.Proofs.YtholefgckcoklaaGreatDoor
