/- Walks over the library: slices.Compact of strings. -/
import Derived.Test.YtnheahdcfadclaaGreatDoorZAX
namespace Go.Proofs.YtnheahdcfadclaaGreatDoor
open Go.RowKit

set_option maxHeartbeats 4000000 in
set_option maxRecDepth 100000 in
theorem compactS_any (w : World) (g len cap : Nat) (l : List ByteArray) (h : RowS w g l) (hlen : len = l.length) (hcap : len ≤ cap) (hl : len ≤ 16777216) :
    Calls Tryz.prog 143 #[.slice (some ⟨g, 0, none⟩) len cap] w fun e w' => ∃ c', e = .returned (.slice (some ⟨g, 0, none⟩) (Rn.cptS l).length c') ∧ RowS w' g (Rn.cptS l) ∧ But g w w' := by
  have HL := hide hlen
  have HR := hide h
  clear hlen h
  by_cases h2 : len < 2
  · have HE : Hid (Rn.cptS l = l) := hide (by
      have hl' := HL.out
      match l, hl' with
      | [], _ => rfl
      | [x], _ => rfl
      | x :: y :: r, h => simp at h; omega)
    go_enter Tryz.func143, Tryz.ntmps143
    go_wp2_with fail
    go_ret
    exact ⟨_, by rw [HE.out, ← HL.out]; rfl, by rw [HE.out]; exact HR.out, But.refl _ _⟩
  · go_enter Tryz.func143, Tryz.ntmps143
    go_wp2_with fail
    go_loopw [3] (fun i wr => ∃ j : Nat, j + 1 ≤ len ∧ i = .int .i64 ((j : Int) + 1) ∧ (∀ (q : Nat) x y, q < j → l[q]? = some y → l[q + 1]? = some x → Nm.sameB x y = false) ∧ RowS wr g l ∧ But g w wr) (fun i _ => len - (intOf i).toNat)
    case atStart => exact ⟨0, by omega, rfl, fun q x y hq => absurd hq (Nat.not_lt_zero _), HR.out, But.refl _ _⟩
    case round =>
      obtain ⟨j, hj, rfl, hall, hrow, hnx⟩ := hrel
      have HALL := hide hall
      have HROW := hide hrow
      have HNX := hide hnx
      clear hall hnx
      by_cases hjl : j + 1 < len
      · obtain ⟨y, hy⟩ : ∃ y, l[j]? = some y := ⟨_, List.getElem?_eq_getElem (by rw [← HL.out]; omega)⟩
        obtain ⟨x, hx⟩ : ∃ y, l[j + 1]? = some y := ⟨_, List.getElem?_eq_getElem (by rw [← HL.out]; omega)⟩
        have p0 := hrow.cell hx
        have k0 := hrow.cell hy
        have HX := hide hx
        have HY := hide hy
        have hlt : decide ((j : Int) + 1 < (len : Int)) = true := by simp; omega
        clear hx hy hrow
        cases hsm : Nm.sameB x y
        · have heq : (x.toList == y.toList) = false := hsm
          have HSM := hide hsm
          clear hsm
          go_wp2_with fail
          go_quiet (fail)
          go_wp2_with fail
          go_roundw
          case rel => exact ⟨j + 1, by omega, by go_num, fun q a b hq h1 h2 => by
              by_cases e : q = j
              · subst e; rw [HY.out] at h1; rw [HX.out] at h2; cases h1; cases h2; exact HSM.out
              · exact HALL.out q a b (by omega) h1 h2, HROW.out.drew, HNX.out.drew _⟩
          case measure => simp [intOf]; omega
        · have heq : (x.toList == y.toList) = true := hsm
          have HC0 : Hid (Rn.cptS (l.take (j + 1 + 1)) = l.take (j + 1)) := hide (by
            rw [Rn.cptS_next HY.out HX.out, hsm, if_pos rfl]
            have hll : (l.take (j + 1)).length = j + 1 := by rw [List.length_take]; have := HL.out; omega
            have h1 := Rn.cptS_self (l := l.take (j + 1)) (fun q a b h1 h2 => by
              have hq := (List.getElem?_eq_some_iff.1 h2).1
              rw [hll] at hq
              rw [List.getElem?_take_of_lt (by omega)] at h1 h2
              exact HALL.out q a b (by omega) h1 h2) (j + 1) (by omega)
            rwa [List.take_take, Nat.min_self] at h1)
          clear hsm
          go_wp2_with fail
          go_quiet (fail)
          have HR1 := hide (HROW.out.drew (n := nq))
          have HN1 := hide (HNX.out.drew nq)
          clear p0 k0 heq
          generalize wr.drewN nq = W1 at *
          go_wp2_with fail
          go_loopw [3, 5] (fun a b wx => ∃ c t : Nat, a = .int .i64 c ∧ b = .int .i64 ((t : Int) + 1) ∧ j + 1 + (t + 1) ≤ len ∧ c = (Rn.cptS (l.take (j + 1 + (t + 1)))).length ∧ c ≤ j + 1 + t ∧ RowS wx g (Rn.cptS (l.take (j + 1 + (t + 1))) ++ l.drop c) ∧ But g w wx) (fun _ b _ => len - (intOf b).toNat)
          case atStart => exact ⟨j + 1, 0, by go_num, rfl, by omega, by
            rw [show j + 1 + (0 + 1) = j + 1 + 1 from rfl, HC0.out, List.length_take]; have := HL.out; omega, Nat.le_refl _, by
            rw [show j + 1 + (0 + 1) = j + 1 + 1 from rfl, HC0.out, List.take_append_drop]; exact HR1.out, HN1.out⟩
          case round =>
            obtain ⟨c, t, rfl, rfl, htl, hcc, hct, hrow, hnx⟩ := hrel
            have HCC := hide hcc
            have HROW2 := hide hrow
            have HNX2 := hide hnx
            by_cases hend : j + 1 + (t + 1) < len
            · obtain ⟨y', hy⟩ : ∃ y, l[j + 1 + t]? = some y := ⟨_, List.getElem?_eq_getElem (by rw [← HL.out]; omega)⟩
              obtain ⟨x', hx⟩ : ∃ y, l[j + 1 + (t + 1)]? = some y := ⟨_, List.getElem?_eq_getElem (by rw [← HL.out]; omega)⟩
              obtain ⟨z', hz⟩ : ∃ y, l[c]? = some y := ⟨_, List.getElem?_eq_getElem (by rw [← HL.out]; omega)⟩
              have p0 := hrow.cell (i := j + 1 + (t + 1)) (d := x') (by rw [row_atS hcc (by omega)]; exact hx)
              have k0 := hrow.cell (i := j + 1 + t) (d := y') (by rw [row_atS hcc (by omega)]; exact hy)
              have m0 := hrow.cell (i := c) (d := z') (by rw [row_atS hcc (by omega)]; exact hz)
              obtain ⟨cur, hcur, -, -⟩ := hrow
              have f0 := block_free hcur c
              have HNE : Hid (Rn.cptS (l.take (j + 1 + (t + 1) + 1)) = if Nm.sameB x' y' then Rn.cptS (l.take (j + 1 + (t + 1))) else Rn.cptS (l.take (j + 1 + (t + 1))) ++ [x']) := hide (Rn.cptS_next (j := j + 1 + t) hy hx)
              have hlt2 : decide ((t : Int) + 1 < ((len - (j + 1) : Nat) : Int)) = true := by simp; omega
              clear hx hy hz hcur hcc hnx
              cases hsm2 : Nm.sameB x' y'
              · have heq : (x'.toList == y'.toList) = false := hsm2
                rw [hsm2, if_neg (by simp)] at HNE
                clear hsm2
                go_wp2_with fail
                go_quiet (fail)
                have HR2 : Hid (RowS (wr.drewN nq) g _) := hide (HROW2.out.drew (n := nq))
                have HN2 := hide (HNX2.out.drew nq)
                replace p0 : (wr.drewN nq).cell? _ = _ := p0
                replace m0 : (wr.drewN nq).cell? _ = _ := m0
                replace f0 : (wr.drewN nq).frozen? _ = _ := f0
                clear k0 heq HROW2 HNX2
                generalize wr.drewN nq = W2 at *
                go_wp2_with fail
                go_roundw
                case rel => exact ⟨c + 1, t + 1, by go_num, by go_num, by omega, by
                  rw [show j + 1 + (t + 1 + 1) = j + 1 + (t + 1) + 1 by omega, HNE.out, List.length_append, ← HCC.out]; rfl, by omega, by
                  rw [show j + 1 + (t + 1 + 1) = j + 1 + (t + 1) + 1 by omega, HNE.out, ← row_setS HCC.out (by rw [← HL.out]; omega)]
                  exact HR2.out.set (by rw [List.length_append, List.length_drop, ← HCC.out, ← HL.out]; omega) x', HN2.out.set (Or.inl rfl) _⟩
                case measure => simp [intOf]; omega
              · have heq : (x'.toList == y'.toList) = true := hsm2
                rw [hsm2, if_pos rfl] at HNE
                clear hsm2
                go_wp2_with fail
                go_quiet (fail)
                have HR2 : Hid (RowS (wr.drewN nq) g _) := hide (HROW2.out.drew (n := nq))
                have HN2 := hide (HNX2.out.drew nq)
                clear p0 m0 f0 k0 heq HROW2 HNX2
                generalize wr.drewN nq = W2 at *
                go_wp2_with fail
                go_roundw
                case rel => exact ⟨c, t + 1, rfl, by go_num, by omega, by
                  rw [show j + 1 + (t + 1 + 1) = j + 1 + (t + 1) + 1 by omega, HNE.out]; exact HCC.out, by omega, by
                  rw [show j + 1 + (t + 1 + 1) = j + 1 + (t + 1) + 1 by omega, HNE.out]; exact HR2.out, HN2.out⟩
                case measure => simp [intOf]; omega
            · have HTK : Hid (l.take (j + 1 + (t + 1)) = l) := hide (List.take_of_length_le (by rw [← HL.out]; omega))
              rw [HTK.out] at HROW2 HCC hrow
              have hrow' := hrow
              obtain ⟨cur, hcur, hsz, -⟩ := hrow
              rw [List.length_append, List.length_drop, ← HCC.out, ← HL.out] at hsz
              have hcl := fun ty => clear_runS (c := cap - c) hcur (show 0 < len - c by omega) (show c + (len - c) ≤ cur.size by omega) ty
              have HRC := hide (fun zs m => RowS.clear (zs := zs) (k := c) hrow' hcur (by rw [List.length_append, ← HCC.out]; omega) m)
              have hlt2 : decide ((t : Int) + 1 < ((len - (j + 1) : Nat) : Int)) = false := by simp; omega
              have HTC : Hid ((Rn.cptS l ++ l.drop c).take c = Rn.cptS l) := hide (by rw [HCC.out, List.take_left])
              rw [HTC.out] at HRC
              generalize (Builtin.zeroCells (Value.string ⟨#[]⟩).cells (len - c)).toList = zs at *
              have HN2 := hide (But.row (cs := (cur.toList.take (c) ++ zs ++ cur.toList.drop (c + zs.length)).toArray) hnx)
              have HR2 := hide (HRC.out zs (c + zs.length))
              generalize wr.setRow g (cur.toList.take (c) ++ zs ++ cur.toList.drop (c + zs.length)).toArray = W2 at *
              clear hrow' hcur hcc hnx HRC
              go_wp2_with fail
              go_ret
              exact ⟨_, by rw [← HCC.out]; rfl, HR2.out, HN2.out⟩
      · have HE : Hid (Rn.cptS l = l) := hide (by
          have h1 := Rn.cptS_self (l := l) (fun q a b h1 h2 => HALL.out q a b (by have := (List.getElem?_eq_some_iff.1 h2).1; have := HL.out; omega) h1 h2) l.length (Nat.le_refl _)
          rwa [List.take_length] at h1)
        have hlt : decide ((j : Int) + 1 < (len : Int)) = false := by simp; omega
        clear hrow
        go_wp2_with fail
        go_ret
        exact ⟨_, by rw [HE.out, ← HL.out]; rfl, by rw [HE.out]; exact HROW.out, HNX.out⟩

set_option maxHeartbeats 1000000 in
theorem compactS_none (w : World) : Calls Tryz.prog 143 #[.slice none 0 0] w fun e w' => e = .returned (.slice none 0 0) ∧ w' = w := by
  go_enter Tryz.func143, Tryz.ntmps143
  go_wp2_with fail
  go_ret
  exact ⟨rfl, rfl⟩

end Go.Proofs.YtnheahdcfadclaaGreatDoor
