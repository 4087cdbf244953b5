/- Walks over package parse: number; what an expression is, given what nested ones are. -/
import Derived.Test.YtbncnkfogkhoeabGreatDoorZAX
import Derived.Test.YtbncnkfogkhoeabGreatDoorZAB
import Derived.Test.YtbncnkfogkhoeabGreatDoorShelf2
import Derived.Lib.AtoiBound
import Derived.Lib.SmallJoins
import Derived.Test.YtbncnkfogkhoeabGreatDoorZAA
namespace Go.Proofs.YtbncnkfogkhoeabGreatDoor
open Go.RowKit

theorem dec_digits : ∀ (l : List UInt8) (acc : Nat), l.all Rd.digitB = true → ∃ n, Lib.decFrom acc l = some n
  | [], acc, _ => ⟨acc, rfl⟩
  | b :: l, acc, h => by
    rw [List.all_cons, Bool.and_eq_true] at h
    have hb := h.1
    unfold Rd.digitB at hb
    simp only [Bool.and_eq_true, decide_eq_true_eq] at hb
    have e : Lib.digitVal b = some (b.toNat - 48) := by unfold Lib.digitVal; rw [if_pos hb]
    obtain ⟨n, hn⟩ := dec_digits l (acc * 10 + (b.toNat - 48)) h.2
    exact ⟨n, by simp only [Lib.decFrom, e]; exact hn⟩
theorem atoi_digits {s : ByteArray} (h : Rd.digs s = true) : ∃ n, Lib.atoi s.data.toList = some n := by
  unfold Rd.digs at h
  rw [Bool.and_eq_true] at h
  obtain ⟨h1, h2⟩ := h
  cases hl : s.data.toList with
  | nil => unfold Rd.is at h2; rw [hl] at h2; simp at h2
  | cons b l =>
    rw [hl] at h1
    have hb : Rd.digitB b = true := by rw [List.all_cons, Bool.and_eq_true] at h1; exact h1.1
    obtain ⟨n, hn⟩ := dec_digits (b :: l) 0 h1
    refine ⟨n, ?_⟩
    have n1 : (b == 45) = false := by
      rw [beq_eq_false_iff_ne]; rintro rfl; revert hb; decide
    have n2 : (b == 43) = false := by
      rw [beq_eq_false_iff_ne]; rintro rfl; revert hb; decide
    unfold Lib.atoi
    simp only [n1, n2, Bool.false_eq_true, if_false]
    unfold Lib.decNat
    rw [if_neg (by simp), hn]; rfl
theorem numV_i64 (s : ByteArray) (h : s.size ≤ 18) : I64 (Rd.numV s) := by
  unfold Rd.numV
  cases ha : Lib.atoi s.data.toList with
  | none => exact ⟨by decide, by decide⟩
  | some n =>
    have := Lib.atoi_bound ha (by rw [size_list]; exact h)
    exact ⟨by simp only [Option.getD_some]; omega, by simp only [Option.getD_some]; omega⟩

/-- Atoi of what number hands in. -/
theorem atoi_any (w : World) (p : Nat) (ws : List ByteArray) (ps : List Int) (d : Nat) (st : Rd.Sr) (h : RdAt w p ws ps d st) (s : ByteArray) (hs : s.size ≤ 18) :
    Calls Tryz.prog 156 #[.string s] w fun e w' => ∃ v, e = .returned (.tuple #[.int .i64 (Rd.numV s), v]) ∧ (v = .nilIface ∨ (∃ t x, v = .iface t x) ∧ Rd.numV s = 0) ∧ Below w.heap.size w w' := by
  cases ha : Lib.atoi s.data.toList with
  | some n =>
    refine (Tryz.strconv_Atoi s n hs ha w).mono ?_
    rintro e w' ⟨rfl, t, rfl⟩
    exact ⟨_, by unfold Rd.numV; rw [ha]; rfl, Or.inl rfl, Joins.below_bytesWorld _ _ _ _ (Nat.le_refl _)⟩
  | none =>
    obtain ⟨_, _, _, _, _, _, ⟨g, tp, x, t, fz, h4, h5, h6⟩, _⟩ := h
    refine (Tryz.strconv_Atoi_err_var s hs ha tp x w (by unfold World.var?; rw [h4]; simp [h6])).mono ?_
    rintro e w' ⟨N, rfl, _, _, hb⟩
    have e0 : Rd.numV s = 0 := by unfold Rd.numV; rw [ha]; rfl
    exact ⟨_, by rw [e0], Or.inr ⟨⟨_, _, rfl⟩, e0⟩, hb⟩

theorem badN_eq (s : ByteArray) : Rd.badN s = (decide (6 < s.size) || (decide (1 < s.size) && ((s.data.toList.getD 0 0).toNat == 48))) := by
  unfold Rd.badN
  have e : (s.data.toList.getD 0 0 == 48) = ((s.data.toList.getD 0 0).toNat == 48) := by
    generalize s.data.toList.getD 0 0 = c
    rw [Bool.eq_iff_iff]; simp only [beq_iff_eq]
    constructor
    · rintro rfl; rfl
    · intro h; exact UInt8.toNat_inj.1 h
  rw [e]

set_option maxHeartbeats 2000000 in
set_option maxRecDepth 100000 in
theorem number_any (w : World) (p : Nat) (ws : List ByteArray) (ps : List Int) (d : Nat) (st : Rd.Sr) (h : RdAt w p ws ps d st) :
    Calls Tryz.prog 137 #[.pointer (some ⟨p, 0, none⟩)] w fun e w' => e = .returned (.int .i64 (Rd.numV (Rd.pk (Rd.nu st)))) ∧ RdAt w' p ws ps d (Rd.tk (Rd.nu st)) ∧ But p w w' := by
  have HN : Hid (Rd.nu st = if Rd.badN (Rd.pk st) then Rd.fl st else st) := rfl
  have HF : Hid (Rd.pk (Rd.fl st) = ⟨#[]⟩) := rfl
  have HB := hide (badN_eq (Rd.pk st))
  have hsz : (Rd.pk st).size ≤ 4096 := pk_size h 0
  go_enter Tryz.func137, Tryz.ntmps137
  go_wp2_with fail
  refine (peek_any w p ws ps d st h).mono ?_
  rintro e w1 ⟨rfl, h1, hb1⟩
  clear h
  obtain ⟨x, hx⟩ : ∃ x, x = Rd.pk st := ⟨_, rfl⟩
  have HX := hide hx
  rw [← hx] at HN HB hsz ⊢
  clear hx
  cases hbad : Rd.badN x
  · have HN' : Hid (Rd.nu st = st) := hide (by rw [HN.out, hbad]; rfl)
    have hb' := HB.out
    rw [hbad] at hb'
    have h6 : ¬ 6 < x.size := by intro hh; rw [decide_eq_true hh] at hb'; cases hb'
    have h6' : ¬ ((x.size : Int) > 6) := by omega
    by_cases h2 : 1 < x.size
    · have hz : ¬ (x[0]'(by omega)).toNat = 48 := by
        intro hh
        rw [byte_at x 0 (by omega), decide_eq_true h2, hh] at hb'
        simp at hb'
      have h2' : (x.size : Int) > 1 := by omega
      have hd6 : decide ((6 : Int) < (x.size : Int)) = false := decide_eq_false (by omega)
      have hz8 : (((x[0]'(by omega)).toNat : Int) == 48) = false := by rw [beq_eq_false_iff_ne]; omega
      clear HN HB hb' hbad
      go_wp2_with fail
      refine (take_any w1 p ws ps d st h1).mono ?_
      rintro e w2 ⟨rfl, h3, hb3⟩
      rw [← HX.out]
      go_wp2_with fail
      refine (atoi_any w2 p ws ps d _ h3 x (by omega)).mono ?_
      rintro e w3 ⟨v, rfl, hv, hb4⟩
      have HR := hide (h3.below hb4)
      have HBU := hide ((hb1.trans hb3).trans (But.of_below hb4))
      clear hb4 h3 h1
      obtain ⟨z, hz'⟩ : ∃ z, z = Rd.numV x := ⟨_, rfl⟩
      have HZ := hide hz'
      rw [← hz'] at hv ⊢
      clear hz'
      rcases hv with rfl | ⟨⟨t, y, rfl⟩, hz0⟩
      · go_wp2
        go_ret
        exact ⟨ret_int (by rw [HN'.out, ← HX.out]; exact HZ.out), by rw [HN'.out]; exact HR.out, HBU.out⟩
      · subst hz0
        go_wp2
        go_ret
        exact ⟨ret_int (by rw [HN'.out, ← HX.out]; exact HZ.out), by rw [HN'.out]; exact HR.out, HBU.out⟩
    · have h2' : ¬ ((x.size : Int) > 1) := by omega
      clear HN HB hb' hbad
      go_wp2_with fail
      refine (take_any w1 p ws ps d st h1).mono ?_
      rintro e w2 ⟨rfl, h3, hb3⟩
      rw [← HX.out]
      go_wp2_with fail
      refine (atoi_any w2 p ws ps d _ h3 x (by omega)).mono ?_
      rintro e w3 ⟨v, rfl, hv, hb4⟩
      have HR := hide (h3.below hb4)
      have HBU := hide ((hb1.trans hb3).trans (But.of_below hb4))
      clear hb4 h3 h1
      obtain ⟨z, hz'⟩ : ∃ z, z = Rd.numV x := ⟨_, rfl⟩
      have HZ := hide hz'
      rw [← hz'] at hv ⊢
      clear hz'
      rcases hv with rfl | ⟨⟨t, y, rfl⟩, hz0⟩
      · go_wp2
        go_ret
        exact ⟨ret_int (by rw [HN'.out, ← HX.out]; exact HZ.out), by rw [HN'.out]; exact HR.out, HBU.out⟩
      · subst hz0
        go_wp2
        go_ret
        exact ⟨ret_int (by rw [HN'.out, ← HX.out]; exact HZ.out), by rw [HN'.out]; exact HR.out, HBU.out⟩
  · have HN' : Hid (Rd.nu st = Rd.fl st) := hide (by rw [HN.out, hbad]; rfl)
    have hb' := HB.out
    rw [hbad] at hb'
    have HA := hide (fun (W : World) (st' : Rd.Sr) (hR : RdAt W p ws ps d st') => atoi_any W p ws ps d st' hR ⟨#[]⟩ (by decide))
    have HZ : Hid (Rd.numV ⟨#[]⟩ = 0) := rfl
    by_cases h6 : 6 < x.size
    · have h6' : (x.size : Int) > 6 := by omega
      clear HN HB hb' hbad
      go_wp2_with fail
      refine (fail_any w1 p ws ps d st h1).mono ?_
      rintro e w2 ⟨rfl, h3, hb3⟩
      go_wp2_with fail
      refine (take_any w2 p ws ps d _ h3).mono ?_
      rintro e w3 ⟨rfl, h4, hb4⟩
      rw [HF.out]
      go_wp2_with fail
      refine (HA.out w3 _ h4).mono ?_
      rintro e w4 ⟨v, rfl, hv, hb5⟩
      have HR := hide (h4.below hb5)
      have HBU := hide (((hb1.trans hb3).trans hb4).trans (But.of_below hb5))
      rw [HZ.out]
      clear hb5 h4 h3 h1
      rcases hv with rfl | ⟨⟨t, y, rfl⟩, hz0⟩
      · go_wp2
        go_ret
        exact ⟨ret_int (by rw [HN'.out, HF.out, HZ.out]), by rw [HN'.out]; exact HR.out, HBU.out⟩
      · clear hz0
        go_wp2
        go_ret
        exact ⟨ret_int (by rw [HN'.out, HF.out, HZ.out]), by rw [HN'.out]; exact HR.out, HBU.out⟩
    · have h6' : ¬ ((x.size : Int) > 6) := by omega
      rw [decide_eq_false h6, Bool.false_or] at hb'
      obtain ⟨k1, k2⟩ := Bool.and_eq_true_iff.1 hb'.symm
      have h2 := of_decide_eq_true k1
      have h2' : (x.size : Int) > 1 := by omega
      have hz : (x[0]'(by omega)).toNat = 48 := by
        rw [byte_at x 0 (by omega)] at k2
        simpa using k2
      have hd6 : decide ((6 : Int) < (x.size : Int)) = false := decide_eq_false (by omega)
      have hz8 : (((x[0]'(by omega)).toNat : Int) == 48) = true := by rw [beq_iff_eq]; omega
      clear HN HB hb' hbad k1 k2
      go_wp2_with fail
      refine (fail_any w1 p ws ps d st h1).mono ?_
      rintro e w2 ⟨rfl, h3, hb3⟩
      go_wp2_with fail
      refine (take_any w2 p ws ps d _ h3).mono ?_
      rintro e w3 ⟨rfl, h4, hb4⟩
      rw [HF.out]
      go_wp2_with fail
      refine (HA.out w3 _ h4).mono ?_
      rintro e w4 ⟨v, rfl, hv, hb5⟩
      have HR := hide (h4.below hb5)
      have HBU := hide (((hb1.trans hb3).trans hb4).trans (But.of_below hb5))
      rw [HZ.out]
      clear hb5 h4 h3 h1
      rcases hv with rfl | ⟨⟨t, y, rfl⟩, hz0⟩
      · go_wp2
        go_ret
        exact ⟨ret_int (by rw [HN'.out, HF.out, HZ.out]), by rw [HN'.out]; exact HR.out, HBU.out⟩
      · clear hz0
        go_wp2
        go_ret
        exact ⟨ret_int (by rw [HN'.out, HF.out, HZ.out]), by rw [HN'.out]; exact HR.out, HBU.out⟩

end Go.Proofs.YtbncnkfogkhoeabGreatDoor

/- A walk over package downref: sameExpr answers true of two expressions that are the same. (sameBody and SameModule are still to be typed.) -/
namespace Go.Proofs.YtbncnkfogkhoeabGreatDoor
open Go.RowKit

section
variable (w : World) (c0 c1 c2 c3 d0 d1 d2 d3 : Value) (t : TypeId)
theorem twoB : Below w.heap.size w ((w.alloc (.cells #[c0, c1, c2, c3] t)).alloc (.cells #[d0, d1, d2, d3] t)) := up (boxBelow _ _) (boxBelow _ _)
end

/-- Where a list of expressions lies. -/
def ExsAt (w : World) (m : Nat) (v : Value) (l : List Ex) : Prop :=
  ∃ (a : Option Addr) (b off cap : Nat), v = .slice a l.length cap ∧ (0 < l.length → a = some ⟨b, off, none⟩) ∧ l.length ≤ 9223372036854775807 ∧
    ∀ i y, l[i]? = some y → ∃ e0 e1 e2 e3, w.cell? ⟨b, off + i * 4, none⟩ = some e0 ∧ w.cell? ⟨b, off + i * 4 + 1, none⟩ = some e1 ∧ w.cell? ⟨b, off + i * 4 + 2, none⟩ = some e2 ∧ w.cell? ⟨b, off + i * 4 + 3, none⟩ = some e3 ∧ ExAt w m e0 e1 e2 e3 y
theorem ExsAt.below {w w' : World} {m : Nat} {v : Value} {l : List Ex} (h : ExsAt w m v l) (hb : Below w.heap.size w w') : ExsAt w' m v l := by
  obtain ⟨a, b, off, cap, e, h0, hl, h1⟩ := h
  refine ⟨a, b, off, cap, e, h0, hl, fun i y hy => ?_⟩
  obtain ⟨e0, e1, e2, e3, g0, g1, g2, g3, hx⟩ := h1 i y hy
  exact ⟨e0, e1, e2, e3, cellUp g0 hb, cellUp g1 hb, cellUp g2 hb, cellUp g3 hb, hx.below hb⟩

set_option maxHeartbeats 2000000 in
set_option maxRecDepth 100000 in
theorem eqfE_of (m : Nat) (hi : ∀ (w : World) (c0 c1 c2 c3 d0 d1 d2 d3 : Value) (x : Ex), ExAt w m c0 c1 c2 c3 x → ExAt w m d0 d1 d2 d3 x →
      Calls Tryz.prog 30 #[.agg #[c0, c1, c2, c3], .agg #[d0, d1, d2, d3]] w fun e w' => e = .returned (.bool true) ∧ Below w.heap.size w w')
    (w : World) (v v' : Value) (l : List Ex) (h : ExsAt w m v l) (h' : ExsAt w m v' l) :
    Calls Tryz.prog 59 #[v, v', .func (.func 30) #[] #[]] w fun e w' => e = .returned (.bool true) ∧ Below w.heap.size w w' := by
  have HI := hide hi
  clear hi
  obtain ⟨a, b, off, cap, rfl, ha, hl, hel⟩ := h
  obtain ⟨a', b', off', cap', rfl, ha', _, hel'⟩ := h'
  have HEL := hide hel
  have HA := hide ha
  have HEL' := hide hel'
  have HA' := hide ha'
  clear hel ha hel' ha'
  obtain ⟨len, hlen⟩ : ∃ len, len = l.length := ⟨_, rfl⟩
  have HL := hide hlen
  rw [← hlen] at hl HA HA' ⊢
  clear hlen
  go_enter Tryz.func59, Tryz.ntmps59
  go_wp2
  go_loopw [17] (fun i wr => ∃ j : Nat, j ≤ len ∧ i = .int .i64 j ∧ Below w.heap.size w wr) (fun i _ => len - (intOf i).toNat)
  case atStart => exact ⟨0, Nat.zero_le _, rfl, Below.refl _ _⟩
  case round =>
    obtain ⟨j, hj, rfl, hnx⟩ := hrel
    by_cases hjl : j < len
    · obtain ⟨y, hy⟩ : ∃ y, l[j]? = some y := ⟨_, List.getElem?_eq_getElem (by rw [← HL.out]; exact hjl)⟩
      obtain ⟨e0, e1, e2, e3, g0, g1, g2, g3, hye⟩ := HEL.out j y hy
      obtain ⟨f0, f1, f2, f3, k0, k1, k2, k3, hyf⟩ := HEL'.out j y hy
      obtain rfl := HA.out (by omega)
      obtain rfl := HA'.out (by omega)
      have u0 := cellUp g0 hnx
      have u1 := cellUp g1 hnx
      have u2' := cellUp g2 hnx
      have u3' := cellUp g3 hnx
      have z0 := cellUp k0 (up hnx (boxBelow wr (.cells #[e0, e1, e2, e3] 72)))
      have z1 := cellUp k1 (up hnx (boxBelow wr (.cells #[e0, e1, e2, e3] 72)))
      have z2 := cellUp k2 (up hnx (boxBelow wr (.cells #[e0, e1, e2, e3] 72)))
      have z3 := cellUp k3 (up hnx (boxBelow wr (.cells #[e0, e1, e2, e3] 72)))
      have HYE := hide (hye.below hnx)
      have HYF := hide (hyf.below hnx)
      obtain ⟨ax, cx, rfl, rfl, rfl, rfl⟩ := hye.shape
      obtain ⟨ay, cy, rfl, rfl, rfl, rfl⟩ := hyf.shape
      have HNX := hide hnx
      clear g0 g1 g2 g3 k0 k1 k2 k3 hye hyf hy hnx
      go_wp2_with fail
      refine (HI.out _ _ _ _ _ _ _ _ _ y (HYE.out.below (up (boxBelow _ _) (boxBelow _ _))) (HYF.out.below (up (boxBelow _ _) (boxBelow _ _)))).mono ?_
      rintro e w5 ⟨rfl, hb5⟩
      have HN5 := hide (up HNX.out (up1 (up1 hb5)))
      clear hb5 HNX
      go_wp2
      go_roundw
      case rel => exact ⟨j + 1, by omega, by go_num, HN5.out⟩
      case measure => simp [intOf]; omega
    · go_wp2
      go_ret
      exact ⟨rfl, hnx⟩

set_option maxHeartbeats 2000000 in
set_option maxRecDepth 100000 in
theorem sameExpr_any (m : Nat) : ∀ (w : World) (c0 c1 c2 c3 d0 d1 d2 d3 : Value) (x : Ex), ExAt w m c0 c1 c2 c3 x → ExAt w m d0 d1 d2 d3 x →
    Calls Tryz.prog 30 #[.agg #[c0, c1, c2, c3], .agg #[d0, d1, d2, d3]] w fun e w' => e = .returned (.bool true) ∧ Below w.heap.size w w' := by
  induction m with
  | zero => intro w c0 c1 c2 c3 d0 d1 d2 d3 x h; exact False.elim h
  | succ m ih =>
    intro w c0 c1 c2 c3 d0 d1 d2 d3 x h h'
    have HI := hide (eqfE_of m ih)
    clear ih
    obtain ⟨rfl, rfl, rfl, hsz, hk1, hk2, a, b, off, cap, rfl, ha, hl, hel⟩ := h
    obtain ⟨rfl, rfl, rfl, _, _, _, a', b', off', cap', rfl, ha', _, hel'⟩ := h'
    obtain ⟨k, n, s, args⟩ := x
    simp only at hsz hk1 hk2 ha hl hel ha' hel' ⊢
    have HX : Hid (ExsAt w m (.slice a args.length cap) args) := hide ⟨a, b, off, cap, rfl, ha, hl, hel⟩
    have HX' : Hid (ExsAt w m (.slice a' args.length cap') args) := hide ⟨a', b', off', cap', rfl, ha', hl, hel'⟩
    clear hel ha hel' ha'
    generalize args.length = len at *
    have HB0 := hide (twoB w (.int .i64 k) (.int .i64 n) (.string s) (.slice a len cap) (.int .i64 k) (.int .i64 n) (.string s) (.slice a' len cap') 72)
    have e1 : (k == k) = true := by simp
    have e2 : (n == n) = true := by simp
    go_enter Tryz.func30, Tryz.ntmps30
    go_wp2_with fail
    refine (HI.out _ _ _ args (HX.out.below HB0.out) (HX'.out.below HB0.out)).mono ?_
    rintro e w5 ⟨rfl, hb5⟩
    have HN5 := hide (up HB0.out hb5)
    clear hb5
    go_wp2
    go_ret
    exact ⟨rfl, HN5.out⟩

end Go.Proofs.YtbncnkfogkhoeabGreatDoor

/- append onto rows whose elements point to memory of their own; what has been made behind a world. -/
namespace Go.Proofs.YtbncnkfogkhoeabGreatDoor
open Go.RowKit

section
variable {α : Type} {At : World → List Value → α → Prop} {w : World} {ops : Array Oper} {rest : List Oper} {o : Oper} {a : Act} {Q : Exit → Act → World → Prop}
/-- append of one element. -/
theorem wpList_append_L (hm : Mono At) (hgd : o.guard = none) (s x : Operand) (t e k bytes : Nat) (z : Value)
    (ho : o.op = .call { callee := .builtin .append, args := #[s, x], argTypes := #[t, t] }) (ht : Tryz.prog.underlying t = some (.slice e)) (hinfo : (Tryz.prog.info? e).map (fun i => (i.zero, i.size, i.bytes)) = some (some z, k, bytes)) (hzs : z.cells.size = k) (hk : 0 < k) (hby : bytes ≤ 1024)
    (n : Nat) (v : Value) (l : List α) (hs : a.eval s = v) (hown : OwnL At w n e k v l) (B : Nat) (c : List Value) (y : α) (hx : a.eval x = .slice (some ⟨B, 0, none⟩) 1 1)
    (hc : ∀ (j : Nat) u, c[j]? = some u → w.cell? ⟨B, j, none⟩ = some u) (hck : c.length = k) (h1 : ∀ u ∈ c, u.oneCell' = true) (hat : At (only (fun b => decide (n ≤ b) && decide (v.ownBlock ≠ some b)) w) c y) (hl : l.length ≤ 8192) (hbase : n ≤ w.heap.size)
    (h : ∀ g cap w', OwnL At w' n e k (.slice (some ⟨g, 0, none⟩) (l.length + 1) cap) (l ++ [y]) → w.grownBy w' v.ownBlock → wpList Tryz.prog ops Q rest (a.put o.dst (.slice (some ⟨g, 0, none⟩) (l.length + 1) cap)) w') : wpList Tryz.prog ops Q (o :: rest) a w := by
  obtain ⟨iS, hiS, hz0, hz1, hz2⟩ := info_parts hinfo
  obtain ⟨cs, hr, k1, k2, k3⟩ := hown
  refine wpList_append_lies w hgd s x t ho n e iS z k bytes ht hiS hz0 hz1 hz2 hzs hk v l.length cs.flatten hs hr ⟨B, 0, none⟩ 1 1 c hx (by rw [hck, Nat.one_mul]) (fun j u hu => by rw [Addr.add_lit, Nat.zero_add]; exact hc j u hu) h1 (by decide) (by unfold maxLen; omega)
    (Nat.le_trans (Nat.mul_le_mul (show l.length + 1 ≤ 8193 by omega) hby) (by decide)) hbase w.heap.size rfl ?_
  intro g cap w' h1' h2 h3 _
  exact h g cap w' (OwnL.push (At := At) hm ⟨k1, k2, k3⟩ rfl hck hat h1' h2 h3) h2
variable {K : Act → World → Prop} {E : Prop}
/-- The same at a step of a region that draws its order. -/
theorem step_append_L (hm : Mono At) (hgd : o.guard = none) (s x : Operand) (t e k bytes : Nat) (z : Value)
    (ho : o.op = .call { callee := .builtin .append, args := #[s, x], argTypes := #[t, t] }) (ht : Tryz.prog.underlying t = some (.slice e)) (hinfo : (Tryz.prog.info? e).map (fun i => (i.zero, i.size, i.bytes)) = some (some z, k, bytes)) (hzs : z.cells.size = k) (hk : 0 < k) (hby : bytes ≤ 1024)
    (n : Nat) (v : Value) (l : List α) (hs : a.eval s = v) (hown : OwnL At w n e k v l) (B : Nat) (c : List Value) (y : α) (hx : a.eval x = .slice (some ⟨B, 0, none⟩) 1 1)
    (hc : ∀ (j : Nat) u, c[j]? = some u → w.cell? ⟨B, j, none⟩ = some u) (hck : c.length = k) (h1 : ∀ u ∈ c, u.oneCell' = true) (hat : At (only (fun b => decide (n ≤ b) && decide (v.ownBlock ≠ some b)) w) c y) (hl : l.length ≤ 8192) (hbase : n ≤ w.heap.size)
    (h : ∀ g cap w', OwnL At w' n e k (.slice (some ⟨g, 0, none⟩) (l.length + 1) cap) (l ++ [y]) → w.grownBy w' v.ownBlock → K (a.put o.dst (.slice (some ⟨g, 0, none⟩) (l.length + 1) cap)) w') :
    if Region.wanted o (yielded ops a.tmps) = true then Oper.wp Tryz.prog o a w K Q else E := by
  obtain ⟨iS, hiS, hz0, hz1, hz2⟩ := info_parts hinfo
  obtain ⟨cs, hr, k1, k2, k3⟩ := hown
  refine step_append_lies w hgd s x t ho n e iS z k bytes ht hiS hz0 hz1 hz2 hzs hk v l.length cs.flatten hs hr ⟨B, 0, none⟩ 1 1 c hx (by rw [hck, Nat.one_mul]) (fun j u hu => by rw [Addr.add_lit, Nat.zero_add]; exact hc j u hu) h1 (by decide) (by unfold maxLen; omega)
    (Nat.le_trans (Nat.mul_le_mul (show l.length + 1 ≤ 8193 by omega) hby) (by decide)) hbase w.heap.size rfl ?_
  intro g cap w' h1' h2 h3 _
  exact h g cap w' (OwnL.push (At := At) hm ⟨k1, k2, k3⟩ rfl hck hat h1' h2 h3) h2
end

/-- What was made behind world w, as w' has it. -/
def fr (w w' : World) : World := only (fun b => decide (w.heap.size ≤ b)) w'
theorem fr_but {p : Nat} {w w1 w2 : World} (h : But p w1 w2) (hp : p < w.heap.size) : Sub (fr w w1) (fr w w2) := fresh_but h hp
theorem fr_old {w w0 w1 : World} (h : w.heap.size ≤ w0.heap.size) : Sub (fr w0 w1) (fr w w1) := fresh_mono h
theorem fr_alloc (w w1 : World) (o : Obj) : Sub (fr w w1) (fr w (w1.alloc o)) := fun a v hv => by
  obtain ⟨h1, h2⟩ := only_cell.1 hv
  exact only_cell.2 ⟨h1, cellUp h2 (boxBelow _ _)⟩
theorem fr_below {w w1 w2 : World} (h : Below w1.heap.size w1 w2) : Sub (fr w w1) (fr w w2) := fun a v hv => by
  obtain ⟨h1, h2⟩ := only_cell.1 hv
  exact only_cell.2 ⟨h1, cellUp h2 h⟩
/-- What was made behind w0 isn't touched by a store into an older block. -/
theorem fr_set {w w1 : World} {a : Addr} (ha : a.block < w.heap.size) (x : Value) : Sub (fr w w1) (fr w (w1.setCell a x)) := fun b v hv => by
  obtain ⟨h1, h2⟩ := only_cell.1 hv
  refine only_cell.2 ⟨h1, ?_⟩
  have hle := of_decide_eq_true h1
  rw [World.cell?_of_block (w := w1) (Below.heap_setCell _ _ _ _ (by omega))]; exact h2
theorem row_new {n : Nat} {w0 w1 : World} {v : Value} (h : n ≤ w0.heap.size) (hv : ∀ k, v.ownBlock = some k → k < w0.heap.size) : Sub (fr w0 w1) (only (fun b => decide (n ≤ b) && decide (v.ownBlock ≠ some b)) w1) := fun a x hx => by
  obtain ⟨h1, h2⟩ := only_cell.1 hx
  have hle := of_decide_eq_true h1
  refine only_cell.2 ⟨Bool.and_eq_true_iff.2 ⟨decide_eq_true (Nat.le_trans h hle), decide_eq_true (fun e => ?_)⟩, h2⟩
  have := hv _ e
  omega
/-- What was made behind w0 isn't in a row that was there. -/
theorem fr_row {w w0 w1 : World} {v : Value} (h : w.heap.size ≤ w0.heap.size) (hv : ∀ k, v.ownBlock = some k → k < w0.heap.size) : Sub (fr w0 w1) (only (fun b => decide (w.heap.size ≤ b) && decide (v.ownBlock ≠ some b)) w1) := fun a x hx => by
  obtain ⟨h1, h2⟩ := only_cell.1 hx
  have hle := of_decide_eq_true h1
  refine only_cell.2 ⟨Bool.and_eq_true_iff.2 ⟨decide_eq_true (Nat.le_trans h hle), decide_eq_true (fun e => ?_)⟩, h2⟩
  have := hv _ e
  omega
theorem fr_grown {w w1 w2 : World} {r : Option Nat} (h : w1.grownBy w2 r) (hr : ∀ k, r = some k → k < w.heap.size) : Sub (fr w w1) (fr w w2) := fun a x hx => by
  obtain ⟨h1, h2⟩ := only_cell.1 hx
  have hle := of_decide_eq_true h1
  exact only_cell.2 ⟨h1, h.cell h2 (fun e => by have := hr _ e.symm; omega)⟩

/-- An expression's four cells. -/
def ExL (m : Nat) (w : World) (c : List Value) (x : Ex) : Prop := ∃ c0 c1 c2 c3, c = [c0, c1, c2, c3] ∧ ExAt w m c0 c1 c2 c3 x
theorem ExL.sub {m : Nat} {w w' : World} {c : List Value} {y : Ex} (hs : Sub w w') (h : ExL m w c y) : ExL m w' c y := by
  obtain ⟨c0, c1, c2, c3, e, h⟩ := h
  exact ⟨c0, c1, c2, c3, e, h.sub hs⟩
theorem exMono (m : Nat) : Mono (ExL m) := fun _ _ _ _ hs h => h.sub hs
theorem ExAt.one {w : World} {m : Nat} {c0 c1 c2 c3 : Value} {x : Ex} (h : ExAt w m c0 c1 c2 c3 x) : ∀ u ∈ [c0, c1, c2, c3], u.oneCell' = true := by
  obtain ⟨a, cap, rfl, rfl, rfl, rfl⟩ := h.shape
  intro u hu
  simp at hu
  rcases hu with rfl | rfl | rfl | rfl <;> rfl
theorem infoEx : (Tryz.prog.info? 72).map (fun i => (i.zero, i.size, i.bytes)) = some (some (.agg #[.int .i64 0, .int .i64 0, .string ⟨#[]⟩, .slice none 0 0]), 4, 56) := by kernel_rfl
theorem cells4 (w : World) (c0 c1 c2 c3 : Value) (t : TypeId) : ∀ (j : Nat) u, [c0, c1, c2, c3][j]? = some u → (w.alloc (.cells #[c0, c1, c2, c3] t)).cell? ⟨w.heap.size, j, none⟩ = some u := by
  intro j u hu
  have hj := (List.getElem?_eq_some_iff.1 hu).1
  have hj' : j < 4 := hj
  rw [block_at (block_new w (.cells #[c0, c1, c2, c3] t))]
  simpa using hu
/-- A row of expressions of the call's own is a list of expressions. -/
theorem OwnL.exsN {m n : Nat} {w' : World} {v : Value} {l : List Ex} (h : OwnL (ExL m) w' n 72 4 v l) (hl : l.length ≤ 9223372036854775807) : ExsAt (only (fun b => decide (n ≤ b)) w') m v l := by
  rcases h.shape with ⟨rfl, rfl⟩ | ⟨g, cap, rfl, _, hg, _⟩
  · exact ⟨none, 0, 0, 0, rfl, fun h => absurd h (by simp), by simp, fun i y hy => by simp at hy⟩
  · refine ⟨_, g, 0, cap, rfl, fun _ => rfl, hl, fun i y hy => ?_⟩
    obtain ⟨c, hc, hcell, _, c0, c1, c2, c3, rfl, hx⟩ := h.cell hy
    have hs : ∀ j (hj : j < 4), (only (fun b => decide (n ≤ b)) w').cell? ⟨g, 0 + i * 4 + j, none⟩ = some ([c0, c1, c2, c3][j]) := fun j hj => by
      refine only_cell.2 ⟨decide_eq_true hg, ?_⟩
      rw [Nat.zero_add, hcell j hj]
      exact List.getElem?_eq_getElem (by simpa using hj)
    refine ⟨c0, c1, c2, c3, hs 0 (by decide), hs 1 (by decide), hs 2 (by decide), hs 3 (by decide), hx.sub (fun a u hu => ?_)⟩
    obtain ⟨b1, b2⟩ := only_cell.1 hu
    exact only_cell.2 ⟨(Bool.and_eq_true_iff.1 b1).1, b2⟩
theorem OwnL.exs {m : Nat} {w w' : World} {v : Value} {l : List Ex} (h : OwnL (ExL m) w' w.heap.size 72 4 v l) (hl : l.length ≤ 9223372036854775807) : ExsAt (fr w w') m v l := h.exsN hl
theorem ExsAt.sub {w w' : World} (hb : Sub w w') {m : Nat} {v : Value} {l : List Ex} (h : ExsAt w m v l) : ExsAt w' m v l := by
  obtain ⟨a, b, off, cap, e, h0, hl, h1⟩ := h
  refine ⟨a, b, off, cap, e, h0, hl, fun i y hy => ?_⟩
  obtain ⟨e0, e1, e2, e3, g0, g1, g2, g3, hx⟩ := h1 i y hy
  exact ⟨e0, e1, e2, e3, hb _ _ g0, hb _ _ g1, hb _ _ g2, hb _ _ g3, hx.sub hb⟩

/-- How far a reader may still go. -/
def meas (n p : Nat) (w : World) : Nat := match w.cell? ⟨p, 4, none⟩ with
  | some (.bool true) => 0
  | _ => match w.cell? ⟨p, 2, none⟩ with
    | some (.int _ z) => 1 + (n - z.toNat)
    | _ => 0
theorem meas_at {w : World} {p : Nat} {ws : List ByteArray} {ps : List Int} {d : Nat} {st : Rd.Sr} (h : RdAt w p ws ps d st) : meas ws.length p w = if st.f then 0 else 1 + st.r.length := by
  obtain ⟨_, _, _, _, _, q2, _, q4, _⟩ := h.cells
  have hl := h.suffix.length_le
  unfold meas
  rw [q4, q2]
  cases st.f
  · simp only [Bool.false_eq_true, if_false]
    omega
  · rfl
theorem meas_lt {w w' : World} {p : Nat} {ws : List ByteArray} {ps : List Int} {d d' : Nat} {st st' : Rd.Sr} (h : RdAt w p ws ps d st) (h' : RdAt w' p ws ps d' st') (hf : st.f = false) (hl : Rd.Lt st' st) : meas ws.length p w' < meas ws.length p w := by
  rw [meas_at h, meas_at h', hf]
  simp only [Bool.false_eq_true, if_false]
  split
  · omega
  · rename_i hf'
    rcases hl.2 with e | e
    · exact absurd e hf'
    · omega

/-- The depth is one that may be. -/
def DOk (d : Nat) (st : Rd.Sr) : Prop := d ≤ 30 ∧ (st.f = true ∨ d ≤ 20)
theorem DOk.le {d : Nat} {a b : Rd.Sr} (h : DOk d b) (hl : Rd.Le a b) : DOk d a := ⟨h.1, h.2.elim (fun e => Or.inl (hl.1 e)) Or.inr⟩
/-- Behind an open. -/
theorem DOk.op {d : Nat} {st : Rd.Sr} (h : DOk d st) (h2 : d ≤ 29) : DOk (d + 1) (Rd.op d st) := by
  refine ⟨by omega, ?_⟩
  rcases h.2 with e | e
  · exact Or.inl ((Rd.op_lt d st).1.1 e)
  · by_cases h20 : d = 20
    · left
      refine (Rd.kw_lt _ _).1.1 ?_
      unfold Rd.mx
      rw [if_pos h20]; rfl
    · exact Or.inr (by omega)
/-- The contract of expr, with fuel k. -/
def ExprC (k : Nat) : Prop := ∀ (w : World) (p : Nat) (ws : List ByteArray) (ps : List Int) (d : Nat) (st : Rd.Sr), RdAt w p ws ps d st → Rd.Ok k st → DOk d st →
  Calls Tryz.prog 106 #[.pointer (some ⟨p, 0, none⟩)] w fun e w' => ∃ c0 c1 c2 c3, e = .returned (.agg #[c0, c1, c2, c3]) ∧ ExAt (fr w w') (k + 1) c0 c1 c2 c3 (Rd.pE k d st).1 ∧ RdAt w' p ws ps d (Rd.pE k d st).2 ∧ But p w w'

end Go.Proofs.YtbncnkfogkhoeabGreatDoor

/- Walks over package parse: args, compound, expr. -/
namespace Go.Proofs.YtbncnkfogkhoeabGreatDoor
open Go.RowKit

theorem only_alloc (P : Nat → Bool) (w : World) (o : Obj) : Sub (only P w) (only P (w.alloc o)) := fun a v hv => by
  obtain ⟨h1, h2⟩ := only_cell.1 hv
  exact only_cell.2 ⟨h1, cellUp h2 (boxBelow _ _)⟩
theorem RdAt.block {w : World} {p : Nat} {ws : List ByteArray} {ps : List Int} {d : Nat} {st : Rd.Sr} (h : RdAt w p ws ps d st) : ∃ c, w.heap[p]? = some (.cells c 62 (0, 0)) := by
  obtain ⟨aw, cw, vs, h1, _⟩ := h
  exact ⟨_, h1⟩

set_option maxHeartbeats 4000000 in
set_option maxRecDepth 100000 in
theorem args_of (k : Nat) (ih : ExprC k) (w : World) (p : Nat) (ws : List ByteArray) (ps : List Int) (d : Nat) (st : Rd.Sr) (h : RdAt w p ws ps d st) (hk : Rd.Ok k st) (hd : DOk d st) (n : Nat) (hn : Rd.Ok n st) :
    Calls Tryz.prog 155 #[.pointer (some ⟨p, 0, none⟩)] w fun e w' => ∃ v, e = .returned v ∧ ExsAt (fr w w') (k + 1) v (Rd.loop Rd.argc (Rd.pE k d) n st).1 ∧ RdAt w' p ws ps d (Rd.loop Rd.argc (Rd.pE k d) n st).2 ∧ But p w w' := by
  have IH := hide ih
  have HPN := hide h.lt
  have hlen : st.r.length ≤ 4096 := Nat.le_trans h.suffix.length_le h.len
  clear ih
  go_enter Tryz.func155, Tryz.ntmps155
  go_wp2
  go_loopw [3] (fun v wr => ∃ (acc : List Ex) (st' : Rd.Sr) (n' : Nat), Rd.loop Rd.argc (Rd.pE k d) n st = (acc ++ (Rd.loop Rd.argc (Rd.pE k d) n' st').1, (Rd.loop Rd.argc (Rd.pE k d) n' st').2) ∧ Rd.Ok n' st' ∧ Rd.Ok k st' ∧ DOk d st' ∧
      (acc.length ≤ 4097 ∧ (st'.f = true ∨ acc.length + st'.r.length ≤ 4096)) ∧ OwnL (ExL (k + 1)) wr w.heap.size 72 4 v acc ∧ RdAt wr p ws ps d st' ∧ But p w wr) (fun _ wr => meas ws.length p wr)
  case atStart => exact ⟨[], st, n, rfl, hn, hk, hd, ⟨by simp, Or.inr (by simpa using hlen)⟩, OwnL.nil _ _ _ _, h, But.refl _ _⟩
  case round =>
    obtain ⟨acc, st', n', hL, hnk, hk', hd', ⟨hacc, hacc'⟩, hown, hR, hnx⟩ := hrel
    have HL := hide hL
    have HOW := hide hown
    have HRr := hide hR
    have HNX := hide hnx
    obtain ⟨rc, hrc⟩ := hR.block
    have HR0 := hide (And.intro hrc HPN.out)
    clear hL hown hnx hrc h hk hd hn hlen
    go_wp2_with fail
    refine (peek_any _ p ws ps d st' hR).mono ?_
    rintro e w1 ⟨rfl, h1, hb1⟩
    have HR1 := hide h1
    have HB1 := hide hb1
    clear hR h1 hb1
    by_cases h0 : (Rd.pk st').toList = [40]
    · have HC : Hid (Rd.argc st' = true) := hide (by unfold Rd.argc; rw [is_t h0]; rfl)
      have hf' : st'.f = false := Rd.argc_ne HC.out
      obtain ⟨n', rfl⟩ := hnk.pos hf'
      rw [hf'] at hacc'
      have hacc2 : acc.length + st'.r.length ≤ 4096 := by simpa using hacc'
      clear hacc'
      go_wp2_with fail
      refine (IH.out _ p ws ps d st' HR1.out hk' hd').mono ?_
      rintro e w5 ⟨c0, c1, c2, c3, rfl, hx, hR5, hb5⟩
      have hown5 := HOW.out.but (exMono _) HR0.out.1 (by decide) (by have := HR0.out.2; omega) (HB1.out.trans hb5)
      have hlt5 : ∀ j, u3.ownBlock = some j → j < w1.heap.size := fun j hj => Nat.lt_of_lt_of_le (HOW.out.lt j hj).2 HB1.out.size
      have HAT := hide (ExL.sub (fr_row (w := w) (w0 := w1) (w1 := w5) (v := u3) (by have := HNX.out.size; have := HB1.out.size; omega) hlt5) ⟨c0, c1, c2, c3, rfl, hx⟩)
      have HONE := hide hx.one
      obtain ⟨ax, cx, rfl, rfl, rfl, rfl⟩ := hx.shape
      have HOW5 := hide hown5
      have HR5 := hide hR5
      have HB5 := hide ((HNX.out.trans HB1.out).trans hb5)
      have hsz5 := HB5.out.size
      have HLT := hide (Rd.pE_lt k d st')
      clear hown5 hlt5 hx hR5 hb5
      go_wp2_with (first
        | (at_builtin; refine wpList_append_L (exMono _) rfl _ _ 70 72 4 56 _ rfl Tryz.underlying70 infoEx (by decide) (by decide) (by decide) w.heap.size _ _ rfl (HOW5.out.below (exMono _) (boxBelow _ _)) _ _ (Rd.pE k d st').1 rfl (cells4 _ _ _ _ _ _) rfl HONE.out (ExL.sub (only_alloc _ _ _) HAT.out) (by omega) (by simp; omega) ?_; intro g cap w6 hown6 hgrow6; have HOW6 := hide hown6; have HR6 := hide (((HR5.out.below (boxBelow _ _))).grown hgrow6 (fun j hj => by have := (HOW5.out.lt j hj).1; have := HPN.out; omega)); have HB6 := hide ((HB5.out.alloc _).grown hgrow6 (fun j hj => (HOW5.out.lt j hj).1)); clear hown6 hgrow6)
        | fail)
      go_roundw
      case rel => exact ⟨acc ++ [(Rd.pE k d st').1], (Rd.pE k d st').2, n', by rw [HL.out, Rd.loop_step HC.out]; simp, hnk.lt HLT.out, hk'.le HLT.out.1, hd'.le HLT.out.1, by
          rw [List.length_append, List.length_singleton]
          rcases HLT.out.2 with e | e
          · exact ⟨by omega, Or.inl e⟩
          · exact ⟨by omega, Or.inr (by omega)⟩, HOW6.out, HR6.out, HB6.out⟩
      case measure => exact meas_lt HRr.out HR6.out hf' HLT.out
    · have b0 := beq_f h0
      go_wp2_with fail
      refine (peek_any _ p ws ps d st' HR1.out).mono ?_
      rintro e w2 ⟨rfl, h2, hb2⟩
      have HR2 := hide h2
      have HB2 := hide (HB1.out.trans hb2)
      clear h2 hb2
      go_wp2_with fail
      refine (isPlain_any _ _).mono ?_
      rintro e w3 ⟨rfl, hw3⟩
      subst hw3
      obtain ⟨b, hb⟩ : ∃ b, b = Rd.plain (Rd.pk st') := ⟨_, rfl⟩
      have HBP := hide hb
      rw [← hb]
      clear hb
      cases b
      · have HC : Hid (Rd.argc st' = false) := hide (by unfold Rd.argc; rw [is_f h0, ← HBP.out]; rfl)
        have HE := hide (HOW.out.but (exMono _) HR0.out.1 (by decide) (by have := HR0.out.2; omega) HB2.out)
        have HEX := hide (OwnL.exs (w := w) HE.out (by omega))
        have HLL : Hid (Rd.loop Rd.argc (Rd.pE k d) n st = (acc, st')) := hide (by rw [HL.out, Rd.loop_stop HC.out]; simp)
        go_wp2
        go_ret
        exact ⟨_, rfl, by rw [HLL.out]; exact HEX.out, by rw [HLL.out]; exact HR2.out, HNX.out.trans HB2.out⟩
      · have HC : Hid (Rd.argc st' = true) := hide (by unfold Rd.argc; rw [← HBP.out, Bool.or_true])
        have hf' : st'.f = false := Rd.argc_ne HC.out
        obtain ⟨n', rfl⟩ := hnk.pos hf'
        rw [hf'] at hacc'
        have hacc2 : acc.length + st'.r.length ≤ 4096 := by simpa using hacc'
        clear hacc'
        go_wp2_with fail
        refine (IH.out _ p ws ps d st' HR2.out hk' hd').mono ?_
        rintro e w5 ⟨c0, c1, c2, c3, rfl, hx, hR5, hb5⟩
        have hown5 := HOW.out.but (exMono _) HR0.out.1 (by decide) (by have := HR0.out.2; omega) (HB2.out.trans hb5)
        have hlt5 : ∀ j, u3.ownBlock = some j → j < w3.heap.size := fun j hj => Nat.lt_of_lt_of_le (HOW.out.lt j hj).2 HB2.out.size
        have HAT := hide (ExL.sub (fr_row (w := w) (w0 := w3) (w1 := w5) (v := u3) (by have := HNX.out.size; have := HB2.out.size; omega) hlt5) ⟨c0, c1, c2, c3, rfl, hx⟩)
        have HONE := hide hx.one
        obtain ⟨ax, cx, rfl, rfl, rfl, rfl⟩ := hx.shape
        have HOW5 := hide hown5
        have HR5 := hide hR5
        have HB5 := hide ((HNX.out.trans HB2.out).trans hb5)
        have hsz5 := HB5.out.size
        have HLT := hide (Rd.pE_lt k d st')
        clear hown5 hlt5 hx hR5 hb5
        go_wp2_with (first
          | (at_builtin; refine wpList_append_L (exMono _) rfl _ _ 70 72 4 56 _ rfl Tryz.underlying70 infoEx (by decide) (by decide) (by decide) w.heap.size _ _ rfl (HOW5.out.below (exMono _) (boxBelow _ _)) _ _ (Rd.pE k d st').1 rfl (cells4 _ _ _ _ _ _) rfl HONE.out (ExL.sub (only_alloc _ _ _) HAT.out) (by omega) (by simp; omega) ?_; intro g cap w6 hown6 hgrow6; have HOW6 := hide hown6; have HR6 := hide (((HR5.out.below (boxBelow _ _))).grown hgrow6 (fun j hj => by have := (HOW5.out.lt j hj).1; have := HPN.out; omega)); have HB6 := hide ((HB5.out.alloc _).grown hgrow6 (fun j hj => (HOW5.out.lt j hj).1)); clear hown6 hgrow6)
          | fail)
        go_roundw
        case rel => exact ⟨acc ++ [(Rd.pE k d st').1], (Rd.pE k d st').2, n', by rw [HL.out, Rd.loop_step HC.out]; simp, hnk.lt HLT.out, hk'.le HLT.out.1, hd'.le HLT.out.1, by
            rw [List.length_append, List.length_singleton]
            rcases HLT.out.2 with e | e
            · exact ⟨by omega, Or.inl e⟩
            · exact ⟨by omega, Or.inr (by omega)⟩, HOW6.out, HR6.out, HB6.out⟩
        case measure => exact meas_lt HRr.out HR6.out hf' HLT.out

end Go.Proofs.YtbncnkfogkhoeabGreatDoor
