/- Walks over package downref: Once. -/
import Derived.Test.YtholefgckcoklaaGreatDoorBZAO
import Derived.Test.YtholefgckcoklaaGreatDoorBZAP
import Derived.Test.YtholefgckcoklaaGreatDoorBZAQ
namespace Go.Proofs.YtholefgckcoklaaGreatDoor
open Go.RowKit
theorem below_drew {w w1 : World} {n : Nat} (h : Below w.heap.size w w1) : Below w.heap.size w (w1.drewN n) := ⟨h.os, h.tape, h.output, h.size, h.block⟩
set_option maxHeartbeats 1000000 in
set_option maxRecDepth 100000 in
theorem once_any (w : World) (v : Value) (l : List Dg) (h : DgsAt w v l) (hl : l.length ≤ 16777216) :
    Calls Tryz.prog 52 #[v] w fun e w' => ∃ u, e = .returned u ∧ OwnK DgC w' w.heap.size 43 3 u (Nm.once l) ∧ Below w.heap.size w w' := by
  obtain ⟨a, b, off, cap, rfl, ha, hl', hel⟩ := h
  have HEL := hide hel
  have HA := hide ha
  obtain ⟨len, hlen⟩ : ∃ len, len = l.length := ⟨_, rfl⟩
  have HL := hide hlen
  rw [← hlen] at hl hl' HA ⊢
  obtain ⟨R, hR⟩ : ∃ R, R = Nm.once l := ⟨_, rfl⟩
  have HR := hide hR
  rw [← hR]
  clear hel ha hlen hl' hR
  go_enter Tryz.func52, Tryz.ntmps52
  go_wp2_with fail
  go_loopw [3, 4] (fun v i wr => ∃ j : Nat, j ≤ len ∧ i = .int .i64 j ∧ OwnK DgC wr w.heap.size 43 3 v (Nm.once (l.take j)) ∧ Below w.heap.size w wr) (fun _ i _ => len - (intOf i).toNat)
  case atStart => exact ⟨0, Nat.zero_le _, rfl, OwnK.nil _ _ _ _, Below.refl _ _⟩
  case round =>
    obtain ⟨j, hj, rfl, hown, hnx⟩ := hrel
    have HNX := hide hnx
    by_cases hjl : j < len
    · obtain ⟨d, hd⟩ : ∃ d, l[j]? = some d := ⟨_, List.getElem?_eq_getElem (by rw [← HL.out]; exact hjl)⟩
      have HST := hide (fold_succ hd)
      have hol : (Nm.once (l.take j)).length ≤ 16777215 := by
        have h1 := once_len (l.take j)
        rw [List.length_take] at h1
        omega
      obtain ⟨g0, g1, g2⟩ := HEL.out j d hd
      obtain rfl := HA.out (by omega)
      have HC := hide (And.intro (cellUp g0 hnx) (And.intro (cellUp g1 hnx) (cellUp g2 hnx)))
      clear g0 g1 g2 hd hnx
      generalize Nm.once (l.take j) = out at *
      have HOW := hide hown
      have hsh := hown.form
      obtain ⟨ao, co, rfl⟩ := hsh
      obtain ⟨ol, hol'⟩ : ∃ n, n = out.length := ⟨_, rfl⟩
      have HOL := hide hol'
      rw [← hol'] at HOW hol ⊢
      clear hown hol'
      go_wp2_with fail
      go_loopw [5] (fun i wx => ∃ t : Nat, t ≤ ol ∧ i = .int .i64 t ∧ (∀ (q : Nat) x, q < t → out[q]? = some x → Nm.aheadB x d = true) ∧ Below wr.heap.size wr wx) (fun i _ => ol - (intOf i).toNat)
      case atStart => exact ⟨0, Nat.zero_le _, rfl, fun q x hq => absurd hq (Nat.not_lt_zero _), Below.refl _ _⟩
      case round =>
        obtain ⟨t, ht, rfl, hall, hbx⟩ := hrel
        have HALL := hide hall
        have HBX := hide hbx
        have k0 := cell_gn (cellUp HC.out.1 hbx)
        have k1 := cell_gn (cellUp HC.out.2.1 hbx)
        have k2 := cell_gn (cellUp HC.out.2.2 hbx)
        clear hall
        by_cases htl : t < ol
        · obtain ⟨x, hx⟩ : ∃ x, out[t]? = some x := ⟨_, List.getElem?_eq_getElem (by rw [← HOL.out]; exact htl)⟩
          have HX := hide hx
          obtain ⟨g, rfl, p0, p1, p2⟩ := (HOW.out.below hbx).dg2 HOL.out hx
          replace p0 := cell_gn p0
          replace p1 := cell_gn p1
          replace p2 := cell_gn p2
          have htl' : decide ((t : Int) < (ol : Int)) = true := by simp; omega
          clear hx hbx
          cases hah : Nm.aheadB x d
          · have HAH := hide hah
            have HCALL : Hid (∀ w, Calls Tryz.prog 122 #[.agg #[.int .i64 x.code, .string x.fn, .string x.name], .agg #[.int .i64 d.code, .string d.fn, .string d.name]] w fun e w' => e = .returned (.bool false) ∧ Below w.heap.size w w') :=
              hide (fun w => (ahead_any w x d).mono (by rintro e w6 ⟨he, hb6⟩; rw [hah] at he; exact ⟨he, hb6⟩))
            clear hah
            go_wp2_with fail
            refine wp_region_quiet_gn (by kernel_rfl) (by kernel_rfl) ?_
            repeat (quiet_step ((exact Calls.gn_of (HCALL.out _))))
            refine wpQuiet_nil ?_
            intro _ hw'
            obtain ⟨⟨nq, osq⟩, hw''⟩ := hw'
            subst hw''
            have HB6 := hide (up HBX.out (below_gn wr nq osq))
            replace p0 := p0 nq osq
            replace p1 := p1 nq osq
            replace p2 := p2 nq osq
            replace k0 := k0 nq osq
            replace k1 := k1 nq osq
            replace k2 := k2 nq osq
            generalize gn wr nq osq = W1 at *
            have hte : ((t : Int) == (ol : Int)) = false := by simp; omega
            have heq : ∀ w, Sem.run Tryz.prog (Op.equalIn 10000 43 (.agg #[.int .i64 x.code, .string x.fn, .string x.name]) (.agg #[.int .i64 d.code, .string d.fn, .string d.name])) w = .ok (Nm.sameD x d) w := eqIn_dg x d
            have hgd : ∀ op a b w, Sem.run Tryz.prog (eqGuard op 43 a b (.agg #[.int .i64 x.code, .string x.fn, .string x.name]) (.agg #[.int .i64 d.code, .string d.fn, .string d.name])) w = .ok () w := fun op a b w => guard_dg op a b x d w
            cases hsm : Nm.sameD x d
            · rw [hsm] at heq
              have HSM := hide hsm
              clear hsm HCALL
              go_wp2_with fail
              go_quiet (fail)
              have HB7 := hide (below_drew (n := nq) HB6.out)
              replace p0 : (W1.drewN nq).cell? _ = _ := p0
              replace p1 : (W1.drewN nq).cell? _ = _ := p1
              replace p2 : (W1.drewN nq).cell? _ = _ := p2
              replace k0 : (W1.drewN nq).cell? _ = _ := k0
              replace k1 : (W1.drewN nq).cell? _ = _ := k1
              replace k2 : (W1.drewN nq).cell? _ = _ := k2
              generalize W1.drewN nq = W2 at *
              go_wp2_with fail
              refine (insert_any _ w.heap.size _ t (.slice (some ⟨g, 0, none⟩) ol co) out d (HOW.out.below (up HB7.out (boxBelow _ _))) (by rw [← HOL.out]; omega) (block_new _ _) (fun e => by have := (HOW.out.lt _ e).2; have := HB7.out.size; omega) (by rw [← HOL.out]; omega) (Nat.le_trans HNX.out.size (up HB7.out (boxBelow _ _)).size)).mono ?_
              rintro e w9 ⟨v9, rfl, hown9, hb9⟩
              have HOW9 := hide hown9
              have HB9 := hide ((up HNX.out (up HB7.out (boxBelow _ _))).trans hb9)
              obtain ⟨a9, c9, rfl⟩ := hown9.form
              obtain ⟨n9, hn9⟩ : ∃ n, n = (List.take t out ++ ([d] ++ List.drop t out)).length := ⟨_, rfl⟩
              rw [← hn9] at HOW9 ⊢
              clear hn9
              clear hown9 hb9
              go_wp2_with fail
              go_roundw
              case rel => exact ⟨j + 1, by omega, by go_num, by
                rw [HST.out, Nm.ins_at HALL.out HX.out HAH.out, if_neg (by rw [HSM.out]; simp)]
                exact HOW9.out, HB9.out⟩
              case measure => simp [intOf]; omega
            · rw [hsm] at heq
              have HSM := hide hsm
              clear hsm HCALL
              go_wp2_with fail
              go_quiet (fail)
              go_wp2_with fail
              go_roundw
              case rel => exact ⟨j + 1, by omega, by go_num, by
                rw [HST.out, Nm.ins_at HALL.out HX.out HAH.out, if_pos HSM.out]
                exact HOW.out.below (below_drew HB6.out), up HNX.out (below_drew HB6.out)⟩
              case measure => simp [intOf]; omega
          · have HAH := hide hah
            have HCALL : Hid (∀ w, Calls Tryz.prog 122 #[.agg #[.int .i64 x.code, .string x.fn, .string x.name], .agg #[.int .i64 d.code, .string d.fn, .string d.name]] w fun e w' => e = .returned (.bool true) ∧ Below w.heap.size w w') :=
              hide (fun w => (ahead_any w x d).mono (by rintro e w6 ⟨he, hb6⟩; rw [hah] at he; exact ⟨he, hb6⟩))
            clear hah
            go_wp2_with fail
            refine wp_region_quiet_gn (by kernel_rfl) (by kernel_rfl) ?_
            repeat (quiet_step ((exact Calls.gn_of (HCALL.out _))))
            refine wpQuiet_nil ?_
            intro _ hw'
            obtain ⟨⟨nq, osq⟩, hw''⟩ := hw'
            subst hw''
            have HB6 := hide (below_gn wr nq osq)
            go_wp2_with fail
            go_roundw
            case rel => exact ⟨t + 1, by omega, by go_num, fun q z hq hz => by
                by_cases e : q = t
                · subst e; rw [HX.out] at hz; cases hz; exact HAH.out
                · exact HALL.out q z (by omega) hz, up HBX.out HB6.out⟩
            case measure => simp [intOf]; omega
        · have hte : t = ol := by omega
          have HTE : Hid (t = out.length) := hide (by rw [← HOL.out]; exact hte)
          have htl' : decide ((t : Int) < (ol : Int)) = false := by simp; omega
          have hte' : ((t : Int) == (ol : Int)) = true := by simp; omega
          clear hte hbx
          go_wp2_with fail
          go_quiet (fail)
          have HB6 := hide (below_drew (n := nq) HBX.out)
          replace k0 : (wr.drewN nq).cell? _ = _ := cellUp HC.out.1 HB6.out
          replace k1 : (wr.drewN nq).cell? _ = _ := cellUp HC.out.2.1 HB6.out
          replace k2 : (wr.drewN nq).cell? _ = _ := cellUp HC.out.2.2 HB6.out
          generalize wr.drewN nq = W1 at *
          go_wp2_with fail
          go_quiet (fail)
          have HB7 := hide (below_drew (n := nq) HB6.out)
          replace k0 : (W1.drewN nq).cell? _ = _ := k0
          replace k1 : (W1.drewN nq).cell? _ = _ := k1
          replace k2 : (W1.drewN nq).cell? _ = _ := k2
          generalize W1.drewN nq = W2 at *
          go_wp2_with fail
          refine (insert_any _ w.heap.size _ t (.slice ao ol co) out d (HOW.out.below (up HB7.out (boxBelow _ _))) (by rw [← HOL.out]; omega) (block_new _ _) (fun e => by have := (HOW.out.lt _ e).2; have := HB7.out.size; omega) (by rw [← HOL.out]; omega) (Nat.le_trans HNX.out.size (up HB7.out (boxBelow _ _)).size)).mono ?_
          rintro e w9 ⟨v9, rfl, hown9, hb9⟩
          have HOW9 := hide hown9
          have HB9 := hide ((up HNX.out (up HB7.out (boxBelow _ _))).trans hb9)
          obtain ⟨a9, c9, rfl⟩ := hown9.form
          obtain ⟨n9, hn9⟩ : ∃ n, n = (List.take t out ++ ([d] ++ List.drop t out)).length := ⟨_, rfl⟩
          rw [← hn9] at HOW9 ⊢
          clear hn9
          clear hown9 hb9
          go_wp2_with fail
          go_roundw
          case rel => exact ⟨j + 1, by omega, by go_num, by
            rw [HST.out, Nm.ins_end (fun x hx => by
              obtain ⟨q, hq, rfl⟩ := List.mem_iff_getElem.1 hx
              exact HALL.out q _ (by have := HOL.out; omega) (List.getElem?_eq_getElem hq))]
            have h9 := HOW9.out
            rw [HTE.out, List.take_length, List.drop_length, List.append_nil] at h9
            exact h9, HB9.out⟩
          case measure => simp [intOf]; omega
    · have hje : (l.take j) = l := List.take_of_length_le (by have := HL.out; omega)
      rw [hje, ← HR.out] at hown
      obtain ⟨ao, co, rfl⟩ := hown.form
      have HOW := hide hown
      clear hown hnx hje
      go_wp2_with fail
      go_ret
      exact ⟨_, rfl, HOW.out, HNX.out⟩
end Go.Proofs.YtholefgckcoklaaGreatDoor
namespace Go.Proofs.YtholefgckcoklaaGreatDoor
open Go.RowKit
namespace Nm
def oI : Option Nat → Int
  | some i => i
  | none => -1
end Nm
def FuEl (w : World) (m b off : Nat) (l : List Fu) : Prop :=
  ∀ i s, l[i]? = some s → s.name.size ≤ maxLen ∧ ∃ vp vb e0 e1 e2 e3, w.cell? ⟨b, off + i * 7, none⟩ = some (.string s.name) ∧ w.cell? ⟨b, off + i * 7 + 1, none⟩ = some vp ∧ w.cell? ⟨b, off + i * 7 + 2, none⟩ = some vb ∧
      w.cell? ⟨b, off + i * 7 + 3, none⟩ = some e0 ∧ w.cell? ⟨b, off + i * 7 + 4, none⟩ = some e1 ∧ w.cell? ⟨b, off + i * 7 + 5, none⟩ = some e2 ∧ w.cell? ⟨b, off + i * 7 + 6, none⟩ = some e3 ∧
      Strs w vp s.params ∧ StsAt w m vb s.body ∧ ExAt w m e0 e1 e2 e3 s.result
theorem FuEl.below {w w' : World} {m b off : Nat} {l : List Fu} (h : FuEl w m b off l) (hb : Below w.heap.size w w') : FuEl w' m b off l := fun i s hs => by
  obtain ⟨k1, vp, vb, e0, e1, e2, e3, g0, g1, g2, g3, g4, g5, g6, hp, hs', hx⟩ := h i s hs
  exact ⟨k1, vp, vb, e0, e1, e2, e3, cellUp g0 hb, cellUp g1 hb, cellUp g2 hb, cellUp g3 hb, cellUp g4 hb, cellUp g5 hb, cellUp g6 hb, hp.below hb, hs'.below hb, hx.below hb⟩
theorem box7 (w : World) (c0 c1 c2 c3 c4 c5 c6 : Value) (t : TypeId) : (w.alloc (.cells #[c0, c1, c2, c3, c4, c5, c6] t)).cell? ⟨w.heap.size, 0, none⟩ = some c0 := by simp [go_sem]
theorem box1 (w : World) (c0 : Value) (t : TypeId) : (w.alloc (.cells #[c0] t)).cell? ⟨w.heap.size, 0, none⟩ = some c0 := by simp [go_sem]
set_option maxHeartbeats 1000000 in
theorem foundP_any (w : World) (B : Nat) (s nm : ByteArray) (c1 c2 c3 c4 c5 c6 : Value) (hB : w.cell? ⟨B, 0, none⟩ = some (.string s)) :
    Calls Tryz.prog 199 #[.agg #[.string nm, c1, c2, c3, c4, c5, c6], .pointer (some ⟨B, 0, none⟩)] w fun e w' => e = .returned (.bool (Nm.sameB nm s)) ∧ Below w.heap.size w w' := by
  have q0 := box7 w (.string nm) c1 c2 c3 c4 c5 c6 106
  have HB0 := hide (boxBelow w (.cells #[.string nm, c1, c2, c3, c4, c5, c6] 106))
  have qB := cellUp hB HB0.out
  have HE : Hid (Nm.sameB nm s = (nm.toList == s.toList)) := rfl
  clear hB
  go_enter Tryz.func199, Tryz.ntmps199
  go_wp2
  go_ret
  exact ⟨ret_bool HE.out.symm, HB0.out⟩
set_option maxHeartbeats 1000000 in
set_option maxRecDepth 100000 in
theorem ixFu_any (m : Nat) (w : World) (a : Option Addr) (b off cap n : Nat) (l : List Fu) (s : ByteArray) (B : Nat) (hn : n ≤ l.length) (hbig : l.length ≤ 9223372036854775807) (ha : 0 < n → a = some ⟨b, off, none⟩) (hel : FuEl w m b off l) (hB : w.cell? ⟨B, 0, none⟩ = some (.string s)) :
    Calls Tryz.prog 143 #[.slice a n cap, .func (.func 199) #[] #[.pointer (some ⟨B, 0, none⟩)]] w fun e w' => e = .returned (.int .i64 (Nm.oI (Nm.fnAt l s n))) ∧ Below w.heap.size w w' := by
  have HEL := hide hel
  have HA := hide ha
  have HB := hide hB
  obtain ⟨R, hR⟩ : ∃ R, R = Nm.oI (Nm.fnAt l s n) := ⟨_, rfl⟩
  have HR := hide hR
  rw [← hR]
  clear hel ha hB hR
  go_enter Tryz.func143, Tryz.ntmps143
  go_wp2_with fail
  go_loopw [5, 8] (fun _ i wr => ∃ j : Nat, j ≤ n ∧ i = .int .i64 j ∧ (∀ d g, d < j → l[d]? = some g → Nm.sameB g.name s = false) ∧ Below w.heap.size w wr) (fun _ i _ => n - (intOf i).toNat)
  case atStart => exact ⟨0, Nat.zero_le _, rfl, fun d g hd => absurd hd (Nat.not_lt_zero _), Below.refl _ _⟩
  case round =>
    obtain ⟨j, hj, rfl, hall, hnx⟩ := hrel
    have HALL := hide hall
    have HNX := hide hnx
    clear hall
    by_cases hjl : j < n
    · obtain ⟨f, hf⟩ : ∃ f, l[j]? = some f := ⟨_, List.getElem?_eq_getElem (by omega)⟩
      obtain ⟨-, vp, vb, e0, e1, e2, e3, g0, g1, g2, g3, g4, g5, g6, -⟩ := HEL.out j f hf
      obtain rfl := HA.out (by omega)
      have HF := hide hf
      replace g0 := cellUp g0 hnx
      replace g1 := cellUp g1 hnx
      replace g2 := cellUp g2 hnx
      replace g3 := cellUp g3 hnx
      replace g4 := cellUp g4 hnx
      replace g5 := cellUp g5 hnx
      replace g6 := cellUp g6 hnx
      have HC := hide (foundP_any wr B s f.name vp vb e0 e1 e2 e3 (cellUp HB.out hnx))
      clear hf hnx
      generalize hq : Nm.sameB f.name s = q at HC
      have HQ := hide hq
      clear hq
      go_wp2_with fail
      refine HC.out.mono ?_
      rintro e w5 ⟨rfl, hb5⟩
      have HB5 := hide (up HNX.out hb5)
      clear hb5 g0 g1 g2 g3 g4 g5 g6
      cases q
      · go_wp2_with fail
        go_roundw
        case rel => exact ⟨j + 1, by omega, by go_num, fun d g hd hg => by
            by_cases e : d = j
            · subst e; rw [HF.out] at hg; cases hg; exact HQ.out
            · exact HALL.out d g (by omega) hg, HB5.out⟩
        case measure => simp [intOf]; omega
      · go_wp2_with fail
        go_ret
        exact ⟨by rw [HR.out, Nm.fnAt_hit hjl HF.out HQ.out HALL.out]; rfl, HB5.out⟩
    · go_wp2_with fail
      go_ret
      exact ⟨by rw [HR.out, Nm.fnAt_none fun d g hd hg => HALL.out d g (by omega) hg]; rfl, HNX.out⟩
set_option maxHeartbeats 1000000 in
theorem nahead_any (w : World) (a : Option Addr) (n cap : Nat) (k : Nat) (hk : k ≤ n) (hn : n ≤ cap) :
    Calls Tryz.prog 141 #[.slice a n cap, .int .i64 k] w fun e w' => e = .returned (.slice a k cap) ∧ w' = w := by
  have h0 : max (k : Int) 0 = k := by omega
  have h1 : min (k : Int) n = k := by omega
  go_enter Tryz.func141, Tryz.ntmps141
  go_wp2_with fail
  go_ret
  exact ⟨rfl, rfl⟩
def Nm.fnd (at' : Int) (l : List Fu) (s : ByteArray) (n : Nat) : Int × Int × Bool := match Nm.fnAt l s n with
  | some i => (at', i, true)
  | none => (0, 0, false)
set_option maxHeartbeats 1000000 in
theorem found_any (m : Nat) (w : World) (a : Option Addr) (b off cap n : Nat) (l : List Fu) (s : ByteArray) (at' : Int) (hn : n ≤ l.length) (hbig : l.length ≤ 9223372036854775807) (ha : 0 < n → a = some ⟨b, off, none⟩) (hel : FuEl w m b off l) :
    Calls Tryz.prog 140 #[.int .i64 at', .slice a n cap, .string s] w fun e w' => e = .returned (.tuple #[.int .i64 (Nm.fnd at' l s n).1, .int .i64 (Nm.fnd at' l s n).2.1, .bool (Nm.fnd at' l s n).2.2]) ∧ Below w.heap.size w w' := by
  have q0 := box1 w (.string s) 9
  have HB0 := hide (boxBelow w (.cells #[.string s] 9))
  have HC := hide (ixFu_any m (w.alloc (.cells #[.string s] 9)) a b off cap n l s w.heap.size hn hbig ha (hel.below HB0.out) q0)
  obtain ⟨R, hR⟩ : ∃ R, R = Nm.fnd at' l s n := ⟨_, rfl⟩
  have HR := hide hR
  rw [← hR]
  clear hel ha hR q0
  cases hf : Nm.fnAt l s n with
  | none =>
    rw [hf] at HC
    have HF := hide hf
    clear hf
    go_enter Tryz.func140, Tryz.ntmps140
    go_wp2_with fail
    refine HC.out.mono ?_
    rintro e w5 ⟨rfl, hb5⟩
    have HB5 := hide (up HB0.out hb5)
    clear hb5
    have ho : Nm.oI none = -1 := rfl
    rw [ho]
    clear ho
    go_wp2
    go_ret3
    exact ret_t3 (by rw [HR.out]; simp [Nm.fnd, HF.out]) HB5.out
  | some i =>
    rw [hf] at HC
    have HF := hide hf
    clear hf
    go_enter Tryz.func140, Tryz.ntmps140
    go_wp2_with fail
    refine HC.out.mono ?_
    rintro e w5 ⟨rfl, hb5⟩
    have HB5 := hide (up HB0.out hb5)
    clear hb5
    have ho : Nm.oI (some i) = (i : Int) := rfl
    rw [ho]
    clear ho
    go_wp2
    go_ret3
    exact ret_t3 (by rw [HR.out]; simp [Nm.fnd, HF.out]) HB5.out
end Go.Proofs.YtholefgckcoklaaGreatDoor
namespace Go.Proofs.YtholefgckcoklaaGreatDoor
open Go.RowKit
def MoEl (w : World) (m b off : Nat) (l : List Mo) : Prop :=
  ∀ i x, l[i]? = some x → ∃ vi vv vf, w.cell? ⟨b, off + i * 4, none⟩ = some (.string x.name) ∧ w.cell? ⟨b, off + i * 4 + 1, none⟩ = some vi ∧ w.cell? ⟨b, off + i * 4 + 2, none⟩ = some vv ∧ w.cell? ⟨b, off + i * 4 + 3, none⟩ = some vf ∧ MoAt w m (.agg #[.string x.name, vi, vv, vf]) x
theorem step_append_int {w : World} {ops : Array Oper} {o : Oper} {a : Act} {K : Act → World → Prop} {Q : Exit → Act → World → Prop} {E : Prop} (hgd : o.guard = none) (s x : Operand)
    (ho : o.op = .call { callee := .builtin .append, args := #[s, x], argTypes := #[47, 47] })
    (base : Nat) (v : Value) (l : List Int) (ln : Nat) (hln : l.length = ln) (hs : a.eval s = v) (hown : OwnI w base v l) (B : Nat) (t : Int) (hx : a.eval x = .slice (some ⟨B, 0, none⟩) 1 1)
    (hc : w.cell? ⟨B, 0, none⟩ = some (.int .i64 t)) (hl : l.length ≤ 1048576) (hbase : base ≤ w.heap.size)
    (h : ∀ g cap w', OwnI w' base (.slice (some ⟨g, 0, none⟩) (ln + 1) cap) (l ++ [t]) → w.grownBy w' v.ownBlock → K (a.put o.dst (.slice (some ⟨g, 0, none⟩) (ln + 1) cap)) w') :
    if Region.wanted o (yielded ops a.tmps) = true then Oper.wp Tryz.prog o a w K Q else E := by
  subst hln
  obtain ⟨iS, hiS, hz0, hz1, hz2⟩ := info_parts infoInt
  have hown' : w.ownsRow base 3 1 v l.length (l.map (Value.int .i64)) := hown
  refine step_append_lies w hgd s x 47 ho base 3 iS (.int .i64 0) 1 8 Tryz.underlying47 hiS hz0 hz1 hz2 rfl (by decide) v l.length (l.map (Value.int .i64)) hs hown' ⟨B, 0, none⟩ 1 1 [.int .i64 t] hx rfl (fun j u hu => ?_) (fun u hu => ?_) (by decide) (by unfold maxLen; omega) (by omega) hbase w.heap.size rfl ?_
  · cases j with
    | zero =>
      simp at hu
      subst hu
      rw [Addr.add_lit]; exact hc
    | succ j => simp at hu
  · simp at hu
    subst hu
    rfl
  · intro g cap w' h1' h2 h3 _
    refine h g cap w' ?_ h2
    unfold OwnI
    rw [List.map_append, List.length_append]
    exact h1'
set_option maxHeartbeats 1000000 in
theorem scopeP_any (w : World) (B : Nat) (s nm : ByteArray) (c1 c2 c3 : Value) (hB : w.cell? ⟨B, 0, none⟩ = some (.string s)) :
    Calls Tryz.prog 126 #[.agg #[.string nm, c1, c2, c3], .pointer (some ⟨B, 0, none⟩)] w fun e w' => e = .returned (.bool (Nm.sameB nm s)) ∧ Below w.heap.size w w' := by
  have q0 := boxD0 w (.string nm) c1 c2 c3 26
  have HB0 := hide (boxBelow w (.cells #[.string nm, c1, c2, c3] 26))
  have qB := cellUp hB HB0.out
  have HE : Hid (Nm.sameB nm s = (nm.toList == s.toList)) := rfl
  clear hB
  go_enter Tryz.func126, Tryz.ntmps126
  go_wp2
  go_ret
  exact ⟨ret_bool HE.out.symm, HB0.out⟩
set_option maxHeartbeats 1000000 in
set_option maxRecDepth 100000 in
theorem ixMo_any (m : Nat) (w : World) (v : Value) (l : List Mo) (s : ByteArray) (B : Nat) (h : MosAt w m v l) (hB : w.cell? ⟨B, 0, none⟩ = some (.string s)) :
    Calls Tryz.prog 125 #[v, .func (.func 126) #[] #[.pointer (some ⟨B, 0, none⟩)]] w fun e w' => e = .returned (.int .i64 (Nm.oI (Nm.moAt l s))) ∧ Below w.heap.size w w' := by
  obtain ⟨a, b, off, cap, rfl, ha, hbig, hel⟩ := h
  have HEL := hide hel
  obtain ⟨n, hn⟩ : ∃ n, n = l.length := ⟨_, rfl⟩
  have HN := hide hn
  rw [← hn] at ha hbig ⊢
  have HA := hide ha
  have HB := hide hB
  obtain ⟨R, hR⟩ : ∃ R, R = Nm.oI (Nm.moAt l s) := ⟨_, rfl⟩
  have HR := hide hR
  rw [← hR]
  clear hel ha hB hR hn
  go_enter Tryz.func125, Tryz.ntmps125
  go_wp2_with fail
  go_loopw [5, 8] (fun _ i wr => ∃ j : Nat, j ≤ n ∧ i = .int .i64 j ∧ (∀ d g, d < j → l[d]? = some g → Nm.sameB g.name s = false) ∧ Below w.heap.size w wr) (fun _ i _ => n - (intOf i).toNat)
  case atStart => exact ⟨0, Nat.zero_le _, rfl, fun d g hd => absurd hd (Nat.not_lt_zero _), Below.refl _ _⟩
  case round =>
    obtain ⟨j, hj, rfl, hall, hnx⟩ := hrel
    have HALL := hide hall
    have HNX := hide hnx
    clear hall
    by_cases hjl : j < n
    · obtain ⟨f, hf⟩ : ∃ f, l[j]? = some f := ⟨_, List.getElem?_eq_getElem (by have := HN.out; omega)⟩
      obtain ⟨vi, vv, vf, g0, g1, g2, g3, -⟩ := HEL.out j f hf
      obtain rfl := HA.out (by omega)
      have HF := hide hf
      replace g0 := cellUp g0 hnx
      replace g1 := cellUp g1 hnx
      replace g2 := cellUp g2 hnx
      replace g3 := cellUp g3 hnx
      have HC := hide (scopeP_any wr B s f.name vi vv vf (cellUp HB.out hnx))
      clear hf hnx
      generalize hq : Nm.sameB f.name s = q at HC
      have HQ := hide hq
      clear hq
      go_wp2_with fail
      refine HC.out.mono ?_
      rintro e w5 ⟨rfl, hb5⟩
      have HB5 := hide (up HNX.out hb5)
      clear hb5 g0 g1 g2 g3
      cases q
      · go_wp2_with fail
        go_roundw
        case rel => exact ⟨j + 1, by omega, by go_num, fun d g hd hg => by
            by_cases e : d = j
            · subst e; rw [HF.out] at hg; cases hg; exact HQ.out
            · exact HALL.out d g (by omega) hg, HB5.out⟩
        case measure => simp [intOf]; omega
      · go_wp2_with fail
        go_ret
        exact ⟨by rw [HR.out, Nm.moAt_hit HF.out HQ.out HALL.out]; rfl, HB5.out⟩
    · go_wp2_with fail
      go_ret
      exact ⟨by rw [HR.out, Nm.moAt_none fun d g hg => HALL.out d g (by have := (List.getElem?_eq_some_iff.1 hg).1; have := HN.out; omega) hg]; rfl, HNX.out⟩
structure ScM (w W : World) (c0 c1 c2 c3 c4 va : Value) : Prop where
  res : W.heap[w.heap.size + 1]? = some (.cells #[.string ⟨#[]⟩, .slice none 0 0, .slice none 0 0, .slice none 0 0, .slice none 0 0, .slice none 0 0] 122 (0, 0))
  loc : W.heap[w.heap.size + 1 + 1]? = some (.cells #[c0, c1, c2, c3, c4, va] 122 (0, 0))
  below : Below w.heap.size w W
  size : w.heap.size + 3 ≤ W.heap.size
section
variable {w W W' : World} {c0 c1 c2 c3 c4 va : Value}
theorem ScM.grow (h : ScM w W c0 c1 c2 c3 c4 va) (hb : Below W.heap.size W W') : ScM w W' c0 c1 c2 c3 c4 va :=
  ⟨by rw [hb.block _ (block_lt h.res)]; exact h.res, by rw [hb.block _ (block_lt h.loc)]; exact h.loc, up h.below hb, Nat.le_trans h.size hb.size⟩
theorem ScM.grown {r : Option Nat} (h : ScM w W c0 c1 c2 c3 c4 va) (hg : W.grownBy W' r) (hr : ∀ k, r = some k → w.heap.size + 3 ≤ k) : ScM w W' c0 c1 c2 c3 c4 va := by
  have hs := h.size
  refine ⟨?_, ?_, grown_below h.below hg (fun k hk => by have := hr k hk; omega), Nat.le_trans h.size hg.size⟩
  · rw [hg.block _ (block_lt h.res) (fun e => by have := hr _ e.symm; omega)]; exact h.res
  · rw [hg.block _ (block_lt h.loc) (fun e => by have := hr _ e.symm; omega)]; exact h.loc
theorem ScM.set (h : ScM w W c0 c1 c2 c3 c4 va) (u : Value) : ScM w (W.setCell ⟨w.heap.size + 1 + 1, 5, none⟩ u) c0 c1 c2 c3 c4 u := by
  refine ⟨block_other h.res (by simp) _, by rw [block_set h.loc]; rfl, ?_, by simp only [World.setCell, Array.size_modify]; exact h.size⟩
  refine ⟨h.below.os, h.below.tape, h.below.output, by simp only [World.setCell, Array.size_modify]; exact h.below.size, fun k hk => ?_⟩
  rw [Below.heap_setCell _ _ _ _ (by simp; omega)]
  exact h.below.block k hk
end
theorem OwnI.setOld {w : World} {n : Nat} {v : Value} {l : List Int} {a : Addr} (h : OwnI w n v l) (ha : a.block < n) (x : Value) : OwnI (w.setCell a x) n v l := by
  obtain ⟨h0, h1⟩ := h
  refine ⟨h0, ?_⟩
  rcases h1 with h1 | ⟨g, cap, cur, hv, hg, hh, r⟩
  · exact Or.inl h1
  · exact Or.inr ⟨g, cap, cur, hv, hg, block_other hh (by omega) _, r⟩
theorem OwnI.shape {w : World} {B : Nat} {v : Value} {l : List Int} (h : OwnI w B v l) : ∃ a cap, v = .slice a l.length cap := by
  obtain ⟨_, h1⟩ := h
  rcases h1 with ⟨rfl, h1⟩ | ⟨g, cap, cur, rfl, _⟩
  · rw [h1]; exact ⟨_, _, rfl⟩
  · exact ⟨_, _, rfl⟩
theorem OwnI.lt {w : World} {B : Nat} {v : Value} {l : List Int} (h : OwnI w B v l) : ∀ j, v.ownBlock = some j → B ≤ j ∧ j < w.heap.size := World.ownsRow.lt h
theorem below_drew1 {w w1 : World} (h : Below w.heap.size w w1) : Below w.heap.size w w1.drew := ⟨h.os, h.tape, h.output, h.size, h.block⟩
theorem ScM.cell {w W : World} {c0 c1 c2 c3 c4 va : Value} (h : ScM w W c0 c1 c2 c3 c4 va) : W.cell? ⟨w.heap.size + 1 + 1, 5, none⟩ = some va ∧ W.frozen? ⟨w.heap.size + 1 + 1, 5, none⟩ = false := ⟨(block_at h.loc 5).trans rfl, block_free h.loc 5⟩
theorem put6 {W : World} {r : Nat} {T : TypeId} {a0 a1 a2 a3 a4 a5 : Value} (h : W.heap[r]? = some (.cells #[a0, a1, a2, a3, a4, a5] T (0, 0))) (v0 v1 v2 v3 v4 v5 : Value) :
    ∃ W', W' = ((((((W.setCell ⟨r, 0, none⟩ v0).setCell ⟨r, 1, none⟩ v1).setCell ⟨r, 2, none⟩ v2).setCell ⟨r, 3, none⟩ v3).setCell ⟨r, 4, none⟩ v4).setCell ⟨r, 5, none⟩ v5) ∧ W'.heap[r]? = some (.cells #[v0, v1, v2, v3, v4, v5] T (0, 0)) := by
  refine ⟨_, rfl, ?_⟩
  have h0 := block_set h 0 v0
  have h1 := block_set h0 1 v1
  have h2 := block_set h1 2 v2
  have h3 := block_set h2 3 v3
  have h4 := block_set h3 4 v4
  have h5 := block_set h4 5 v5
  exact h5
theorem below_set {w W : World} {a : Addr} (h : Below w.heap.size w W) (ha : w.heap.size ≤ a.block) (v : Value) : Below w.heap.size w (W.setCell a v) :=
  ⟨h.os, h.tape, h.output, by simp only [World.setCell, Array.size_modify]; exact h.size, fun k hk => by rw [Below.heap_setCell _ _ _ _ (by omega)]; exact h.block k hk⟩
theorem map_succ {α β : Type} {f : α → β} {l : List α} {j : Nat} {y : α} (h : l[j]? = some y) : (l.take (j + 1)).map f = (l.take j).map f ++ [f y] := by
  rw [List.take_add_one, h]; simp
set_option maxHeartbeats 1000000 in
set_option maxRecDepth 100000 in
theorem newScope_any (m : Nat) (w : World) (vi vv vf vk : Value) (x : Mo) (known : List Mo) (h : MoAt w m (.agg #[.string x.name, vi, vv, vf]) x) (hK : MosAt w m vk known) (hni : x.imports.length ≤ 1048576) :
    Calls Tryz.prog 54 #[.agg #[.string x.name, vi, vv, vf], vk] w fun e w' => ∃ va, e = .returned (.agg #[.string x.name, vi, vv, vf, vk, va]) ∧ Ints w' va (x.imports.map fun s => Nm.oI (Nm.moAt known s)) ∧ Below w.heap.size w w' := by
  obtain ⟨vi', vv', vf', hz, hnm, hI, hV, hF⟩ := h
  injection hz with hz
  injection hz with hz
  injection hz with _ hz
  injection hz with hz1 hz
  injection hz with hz2 hz
  injection hz with hz3 _
  subst hz1 hz2 hz3
  have HK := hide hK
  obtain ⟨ai, bi, oi, ci, rfl, hai, hli, hcs, hci⟩ := hI
  obtain ⟨av, bv, ov, cv, rfl, -⟩ := hV
  obtain ⟨af, bf, of, cf, rfl, -⟩ := hF
  obtain ⟨ak, bk, ok, ck, rfl, -⟩ := hK
  have HCI := hide hci
  obtain ⟨f, hf⟩ : ∃ f : ByteArray → Int, f = fun s => Nm.oI (Nm.moAt known s) := ⟨_, rfl⟩
  have HFF := hide hf
  rw [← hf]
  obtain ⟨imps, himps⟩ : ∃ l, l = x.imports := ⟨_, rfl⟩
  rw [← himps] at hai hli hni HCI ⊢
  obtain ⟨ni, hni'⟩ : ∃ n, n = imps.length := ⟨_, rfl⟩
  have HNI := hide hni'
  rw [← hni'] at hai hli hni ⊢
  have HA := hide hai
  generalize x.vars.length = nv at *
  generalize x.funs.length = nf at *
  generalize hnk : known.length = nk at *
  have q1 := boxD1 w (.string x.name) (.slice ai ni ci) (.slice av nv cv) (.slice af nf cf) 26
  have HW0 : Hid (ScM w (((w.alloc (.cells #[.string x.name, .slice ai ni ci, .slice av nv cv, .slice af nf cf] 26)).alloc
      (.cells #[.string ⟨#[]⟩, .slice none 0 0, .slice none 0 0, .slice none 0 0, .slice none 0 0, .slice none 0 0] 122)).alloc
      (.cells #[.string x.name, .slice ai ni ci, .slice av nv cv, .slice af nf cf, .slice ak nk ck, .slice none 0 0] 122)) (.string x.name) (.slice ai ni ci) (.slice av nv cv) (.slice af nf cf) (.slice ak nk ck) (.slice none 0 0)) := by
    refine hide ⟨?_, ?_, up (up (boxBelow _ _) (boxBelow _ _)) (boxBelow _ _), ?_⟩
    · have h1 := block_new (w.alloc (.cells #[.string x.name, .slice ai ni ci, .slice av nv cv, .slice af nf cf] 26)) (.cells #[.string ⟨#[]⟩, .slice none 0 0, .slice none 0 0, .slice none 0 0, .slice none 0 0, .slice none 0 0] 122)
      rw [(boxBelow _ _).block _ (by simp)]
      simpa using h1
    · have h1 := block_new ((w.alloc (.cells #[.string x.name, .slice ai ni ci, .slice av nv cv, .slice af nf cf] 26)).alloc (.cells #[.string ⟨#[]⟩, .slice none 0 0, .slice none 0 0, .slice none 0 0, .slice none 0 0, .slice none 0 0] 122)) (.cells #[.string x.name, .slice ai ni ci, .slice av nv cv, .slice af nf cf, .slice ak nk ck, .slice none 0 0] 122)
      simpa using h1
    · simp
  clear hci hcs hf hai hni' hnm himps hnk
  go_enter Tryz.func54, Tryz.ntmps54
  go_wp2_with fail
  generalize (((w.alloc (.cells #[.string x.name, .slice ai ni ci, .slice av nv cv, .slice af nf cf] 26)).alloc
      (.cells #[.string ⟨#[]⟩, .slice none 0 0, .slice none 0 0, .slice none 0 0, .slice none 0 0, .slice none 0 0] 122)).alloc
      (.cells #[.string x.name, .slice ai ni ci, .slice av nv cv, .slice af nf cf, .slice ak nk ck, .slice none 0 0] 122)) = W0 at *
  clear q1
  go_loopw [14] (fun i wr => ∃ (j : Nat) (va : Value), j ≤ ni ∧ i = .int .i64 j ∧ ScM w wr (.string x.name) (.slice ai ni ci) (.slice av nv cv) (.slice af nf cf) (.slice ak nk ck) va ∧ OwnI wr (w.heap.size + 3) va ((imps.take j).map f)) (fun i _ => ni - (intOf i).toNat)
  case atStart => exact ⟨0, .slice none 0 0, Nat.zero_le _, rfl, HW0.out, by simp only [List.take_zero, List.map_nil]; exact World.ownsRow_nil _ _ _ _⟩
  case round =>
    obtain ⟨j, va, hj, rfl, hS, hO⟩ := hrel
    have HS := hide hS
    have HO := hide hO
    clear HW0
    by_cases hjl : j < ni
    · obtain ⟨s, hs⟩ : ∃ s, imps[j]? = some s := ⟨_, List.getElem?_eq_getElem (by have := HNI.out; omega)⟩
      have c0 := cellUp (HCI.out j (by have := HNI.out; omega)) hS.below
      rw [List.getD_eq_getElem?_getD, hs, Option.getD_some] at c0
      obtain rfl := HA.out (by omega)
      have HST := hide (map_succ (f := f) hs)
      have HTL : Hid (((imps.take j).map f).length = j) := hide (by rw [List.length_map, List.length_take]; have := HNI.out; omega)
      obtain ⟨va1, va2, hva⟩ := hO.shape
      rw [HTL.out] at hva
      subst hva
      have HK5 := hide ((HK.out.below hS.below).below (boxBelow wr (.cells #[.string s] 9)))
      have HC := hide (fun wx (hb : Below (wr.alloc (.cells #[.string s] 9)).heap.size (wr.alloc (.cells #[.string s] 9)) wx) => ixMo_any m wx _ known s wr.heap.size (HK5.out.below hb) (cellUp (box1 wr (.string s) 9) hb))
      rw [show Nm.oI (Nm.moAt known s) = f s from by rw [HFF.out]] at HC
      have HS1 := hide (hS.grow (boxBelow wr (.cells #[.string s] 9)))
      have HO1 := hide (own_below hO (boxBelow wr (.cells #[.string s] 9)))
      obtain ⟨u5, z5⟩ := HS1.out.cell
      clear hs hS hO HS HO
      go_wp2_with fail
      generalize wr.alloc (.cells #[.string s] 9) = W1 at *
      go_region_law (first
        | (go_simp; go_at_call 125; refine (HC.out _ (by repeat (first | exact Below.refl _ _ | apply below_drew1))).mono ?_; rintro e w6 ⟨rfl, hb6⟩; have HB6 : Hid (Below W1.heap.size W1 w6) := hide (up (by repeat (first | exact Below.refl _ _ | apply below_drew1) : Below W1.heap.size W1 _) hb6); have HS6 := hide (HS1.out.grow HB6.out); have HO6 := hide (own_below HO1.out HB6.out); obtain ⟨u56, z56⟩ := HS6.out.cell; have hz6 : w.heap.size + 1 + 1 < w6.heap.size := (by have := HS6.out.size; omega); clear hb6; dsimp only)
        | (refine step_append_int (by rfl) _ _ (by rfl) (w.heap.size + 3) _ _ j HTL.out (by rfl) (own_below HO6.out (boxBelow _ _)) _ (f s) (by rfl) (box1 _ _ _) (by have := HTL.out; omega) (Nat.le_trans HS6.out.size (boxBelow _ _).size) ?_; intro g cap w7 hown7 hgrow7; have HO7 := hide hown7; have HS7 := hide ((HS6.out.grow (boxBelow _ _)).grown hgrow7 (fun k hk => (OwnI.lt HO6.out k hk).1)); obtain ⟨u57, z57⟩ := HS7.out.cell; clear hown7 hgrow7)
        | fail)
      all_goals
        go_wp2_with fail
        go_roundw
        case rel => exact ⟨j + 1, _, by omega, by go_num, HS7.out.set _, by rw [HST.out]; exact HO7.out.setOld (a := ⟨w.heap.size + 1 + 1, 5, none⟩) (by show w.heap.size + 1 + 1 < w.heap.size + 3; omega) _⟩
        case measure => simp [intOf]; omega
    · have hje : (imps.take j) = imps := List.take_of_length_le (by have := HNI.out; omega)
      have hlen : ((imps.take j).map f).length = ni := by rw [hje, List.length_map, ← HNI.out]
      rw [hje] at HO
      obtain ⟨va1, va2, hva⟩ := hO.shape
      rw [hlen] at hva
      subst hva
      have HL6 := fun i (v : Value) (hv : (#[Value.string x.name, .slice ai ni ci, .slice av nv cv, .slice af nf cf, .slice ak nk ck, .slice va1 ni va2] : Array Value)[i]? = some v) => (block_at HS.out.loc i).trans hv
      have l0 := HL6 0 _ rfl
      have l1 := HL6 1 _ rfl
      have l2 := HL6 2 _ rfl
      have l3 := HL6 3 _ rfl
      have l4 := HL6 4 _ rfl
      have l5 := HL6 5 _ rfl
      have HR6 := fun i (v : Value) (hv : (#[Value.string ⟨#[]⟩, .slice none 0 0, .slice none 0 0, .slice none 0 0, .slice none 0 0, .slice none 0 0] : Array Value)[i]? = some v) => (block_at HS.out.res i).trans hv
      have r0 := HR6 0 _ rfl
      have r1 := HR6 1 _ rfl
      have r2 := HR6 2 _ rfl
      have r3 := HR6 3 _ rfl
      have r4 := HR6 4 _ rfl
      have r5 := HR6 5 _ rfl
      have f0 := block_free HS.out.res 0
      have f1 := block_free HS.out.res 1
      have f2 := block_free HS.out.res 2
      have f3 := block_free HS.out.res 3
      have f4 := block_free HS.out.res 4
      have f5 := block_free HS.out.res 5
      clear HL6 HR6 hS hO
      clear hje hlen
      obtain ⟨Wf, hWf, hf6⟩ := put6 HS.out.res (.string x.name) (.slice ai ni ci) (.slice av nv cv) (.slice af nf cf) (.slice ak nk ck) (.slice va1 ni va2)
      have HB6 : Hid (Below w.heap.size w Wf) := by
        rw [hWf]
        exact hide (below_set (below_set (below_set (below_set (below_set (below_set HS.out.below (by simp) _) (by simp) _) (by simp) _) (by simp) _) (by simp) _) (by simp) _)
      have hr3 : w.heap.size + 1 < w.heap.size + 3 := by omega
      have HO6 : Hid (OwnI Wf (w.heap.size + 3) (.slice va1 ni va2) (imps.map f)) := by
        rw [hWf]
        exact hide ((((((HO.out.setOld hr3 _).setOld hr3 _).setOld hr3 _).setOld hr3 _).setOld hr3 _).setOld hr3 _)
      have HWF := hide hWf
      have HF6 := hide hf6
      clear hWf hf6
      go_wp2_with fail
      rw [← HWF.out]
      have g0 := (block_at HF6.out 0).trans rfl
      have g1 := (block_at HF6.out 1).trans rfl
      have g2 := (block_at HF6.out 2).trans rfl
      have g3 := (block_at HF6.out 3).trans rfl
      have g4 := (block_at HF6.out 4).trans rfl
      have g5 := (block_at HF6.out 5).trans rfl
      refine bodyPost_ret (v := .agg #[.string x.name, .slice ai ni ci, .slice av nv cv, .slice af nf cf, .slice ak nk ck, .slice va1 ni va2]) (by simp [results, Tryz.results54, go_sem, g0, g1, g2, g3, g4, g5]) rfl ?_
      exact ⟨_, rfl, OwnI.ints HO6.out (by rw [List.length_map, ← HNI.out]; omega), HB6.out⟩
end Go.Proofs.YtholefgckcoklaaGreatDoor
