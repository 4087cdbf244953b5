/- Walks over package solve, fifth part: add. -/
import Derived.Test.YtholefgckcoklabZE
import Derived.Test.YtholefgckcoklabZF
namespace Go.Proofs.Ytholefgckcoklab
open Go.RowKit

/-- Sources of bits below 40. -/
def SrcOk (n : Nat) (S : Nat → Nat) : Prop := ∀ i, i < n → S i < 1099511627776
theorem pow40 {v : Nat} (hv : v < 40) : 2 ^ v < 1099511627776 := by
  have h : 2 ^ v < 2 ^ 40 := Nat.pow_lt_pow_right (by decide) hv
  exact h
theorem src_or {a v : Nat} (ha : a < 1099511627776) (hv : v < 40) : a ||| 2 ^ v < 1099511627776 := Nat.or_lt_two_pow (n := 40) ha (pow40 hv)
theorem wrap_shl {v : Nat} (hv : v < 40) : IntKind.u64.wrap (2 ^ v) = ((2 ^ v : Nat) : Int) := by
  have h := pow40 hv
  have e : (2 : Int) ^ v = ((2 ^ v : Nat) : Int) := by simp
  rw [e]
  generalize 2 ^ v = q at h ⊢
  simp [IntKind.wrap, IntKind.bits, IntKind.signed]
  omega
theorem or_bit {a v : Nat} (ha : a < 1099511627776) (hv : v < 40) : bits .or .u64 (a : Int) ((2 : Int) ^ v) = ((a ||| 2 ^ v : Nat) : Int) := by
  have h := pow40 hv
  have e : (2 : Int) ^ v = ((2 ^ v : Nat) : Int) := by simp
  rw [e]
  exact u64_or_nat a (2 ^ v) (by omega) (by omega)
theorem bit_or (a v j : Nat) : (a ||| 2 ^ v).testBit j = (a.testBit j || decide (v = j)) := by
  rw [Nat.testBit_or, Nat.testBit_two_pow]
/-- One source more. -/
theorem src_step {S S1 : Nat → Nat} {t v k : Nat} {fr : List Int} (h : ∀ i j, (S1 i).testBit j = ((S i).testBit j || (decide (i = t) && (fr.take k).contains (j : Int)))) (hk : fr[k]? = some (v : Int)) :
    ∀ i j, (putS S1 t (S1 t ||| 2 ^ v) i).testBit j = ((S i).testBit j || (decide (i = t) && (fr.take (k + 1)).contains (j : Int))) := by
  intro i j
  have hc : (fr.take (k + 1)).contains (j : Int) = ((fr.take k).contains (j : Int) || decide (v = j)) := by
    rw [List.take_add_one, hk, List.contains_eq_mem, List.contains_eq_mem, Bool.eq_iff_iff]
    simp
    constructor
    · rintro (h | h)
      · exact Or.inl h
      · exact Or.inr (by omega)
    · rintro (h | h)
      · exact Or.inl h
      · exact Or.inr (by omega)
  unfold putS
  by_cases e : i = t
  · subst e
    rw [if_pos rfl, bit_or, h, hc]
    simp [Bool.or_assoc]
  · rw [if_neg e, h]
    simp [e]
theorem srcOk_put {n t v : Nat} {S : Nat → Nat} (h : SrcOk n S) (ht : t < n) (hv : v < 40) : SrcOk n (putS S t (S t ||| 2 ^ v)) := fun i hi => by
  unfold putS
  split
  · exact src_or (h t ht) hv
  · exact h i hi

set_option maxHeartbeats 2000000 in
set_option maxRecDepth 100000 in
theorem add_any (w0 w : World) (c : Cf) (V : Nat → Nat × Nat) (S : Nat → Nat) (ss : List ByteArray) (G : Nat) (L : Nat → Nat) (Z : Nat → Nat → Bool) (t : Nat) (fr : List Int) (x : Nat × Nat) (vf : Value) (hL : LaAt w0 c.vn c.vl ss G L Z) (h : SyAt w0 w c V S)
    (hV : Sv.Oks ss.length c.n V) (ht : t < c.n) (hx : Sv.Ok ss.length x) (hfr : ∀ f ∈ fr, Sv.varB c.n f = true) (hn : c.n ≤ 40) (hF : Ints w0 vf fr) (hS : SrcOk c.n S) :
    Calls Try.prog 47 #[.pointer (some ⟨c.p, 0, none⟩), .agg #[.int .i64 t, vf, .int .i64 (x.1 : Nat), .int .i64 (x.2 : Nat)]] w fun e w' => e = .returned (.tuple #[]) ∧
      ∃ S', SyAt w0 w' c (Sv.up Z ss.length V t x) S' ∧ SrcOk c.n S' ∧ ∀ i j, (S' i).testBit j = ((S i).testBit j || (decide (i = t) && fr.contains (j : Int))) := by
  obtain ⟨fa, fb, fo, fc, rfl, hf0, hfl, hfe⟩ := hF
  obtain ⟨len, hlen⟩ : ∃ n, n = fr.length := ⟨_, rfl⟩
  have HLn := hide hlen
  rw [← hlen] at hf0 hfl ⊢
  obtain ⟨W, hW⟩ : ∃ W, W = w.alloc (.cells #[.int .i64 t, .slice fa len fc, .int .i64 (x.1 : Nat), .int .i64 (x.2 : Nat)] 50) := ⟨_, rfl⟩
  have hB : Below w.heap.size w W := by rw [hW]; exact boxBelow w _
  have bx : W.heap[w.heap.size]? = some (.cells #[.int .i64 t, .slice fa len fc, .int .i64 (x.1 : Nat), .int .i64 (x.2 : Nat)] 50 (0, 0)) := by rw [hW]; exact block_new w _
  have HRS := hide (raise_any w0 W c V S ss G L Z t x hL (h.below hB) hV ht hx hn)
  have HBX := hide bx
  have HFE := hide hfe
  have HF0 := hide hf0
  have HFR := hide hfr
  have HS0 := hide hS
  have q0 := (block_at bx 0).trans rfl
  have q1 := (block_at bx 1).trans rfl
  have q2 := (block_at bx 2).trans rfl
  have q3 := (block_at bx 3).trans rfl
  obtain ⟨V', hV'⟩ : ∃ V', V' = Sv.up Z ss.length V t x := ⟨_, rfl⟩
  rw [← hV'] at HRS ⊢
  have HNE : Hid (w.heap.size ≠ c.lb) := hide (fun e => by obtain ⟨cs, h1, _⟩ := h.lab; have := block_lt h1; omega)
  have HNS : Hid (w.heap.size ≠ c.sb) := hide (fun e => by obtain ⟨cs, h1, _⟩ := h.src; have := block_lt h1; omega)
  clear hB bx h hL hV hx hfr hS hfe hf0 hlen hV'
  obtain ⟨p, lb, sb, n, vn, vl⟩ := c
  simp only at HRS HFR HS0 ht hn HNE HNS ⊢
  go_enter Try.func47, Try.ntmps47
  go_wp2_with fail
  rw [← hW]
  clear hW
  refine HRS.out.mono ?_
  rintro e w1 ⟨rfl, hh⟩
  obtain ⟨h1, hb1⟩ := hh.out
  have HSY := hide h1
  have b1 := hb1.at HNE.out HBX.out
  have HB1 := hide b1
  replace q0 := (block_at b1 0).trans rfl
  replace q1 := (block_at b1 1).trans rfl
  clear h1 hb1 b1 hh q2 q3 HRS
  go_wp2_with fail
  clear q0 q1
  go_loopw [15] (fun i wx => ∃ k : Nat, k ≤ len ∧ i = .int .i64 k ∧ wx.heap[w.heap.size]? = some (.cells #[.int .i64 t, .slice fa len fc, .int .i64 (x.1 : Nat), .int .i64 (x.2 : Nat)] 50 (0, 0)) ∧
    ∃ S', SyAt w0 wx ⟨p, lb, sb, n, vn, vl⟩ V' S' ∧ SrcOk n S' ∧ ∀ i j, (S' i).testBit j = ((S i).testBit j || (decide (i = t) && (fr.take k).contains (j : Int)))) (fun i _ => len - (intOf i).toNat)
  case atStart => exact ⟨0, Nat.zero_le _, rfl, HB1.out, S, HSY.out, HS0.out, fun i j => by simp⟩
  case round =>
    obtain ⟨k, hk, rfl, hbx, S1, hsy, hsk, hbit⟩ := hrel
    have HSY1 := hide hsy
    have HSK1 := hide hsk
    have HBT := hide hbit
    have HBX1 := hide hbx
    clear hbit hsk
    by_cases hlt : k < len
    · obtain ⟨f, hf⟩ : ∃ f, fr[k]? = some f := ⟨_, List.getElem?_eq_getElem (by rw [← HLn.out]; exact hlt)⟩
      have HFK := hide hf
      obtain ⟨-, hfv, hfe'⟩ := Sv.varB_spec (HFR.out f (List.mem_of_getElem? hf))
      obtain ⟨v, hv⟩ : ∃ v, v = f.toNat := ⟨_, rfl⟩
      have g := cellUp (HFE.out k f hf) hsy.since
      rw [← hv] at hfv hfe'
      subst hfe'
      obtain rfl := HF0.out (by omega)
      obtain ⟨c0, c1, c2, c3⟩ := hsy.cell
      obtain ⟨s0, z0⟩ := hsy.srcc (i := t) ht
      have q0 := (block_at hbx 0).trans rfl
      simp only at c0 c1 c2 c3 s0 z0
      have hti : (0 : Int) ≤ (t : Int) := by omega
      have htn : (t : Int) < (n : Int) := by omega
      have hsh := wrap_shl (v := v) (by omega)
      have HOR := hide (or_bit (v := v) (HSK1.out t ht) (by omega))
      clear hsy hbx hf hv
      replace q0 := cell_gn q0
      replace c3 := cell_gn c3
      replace s0 := cell_gn s0
      clear z0 c0 c1 c2
      go_wp2_with fail
      refine wp_region_tail_gn 12 (by kernel_rfl) (by kernel_rfl) ?_
      dsimp only [List.take, List.drop]
      repeat (quiet_step (fail))
      refine wpQuiet_nil ?_
      intro w6 hw'
      obtain ⟨⟨nq, osq⟩, hw''⟩ := hw'
      have HB6 := hide (show Below wr.heap.size wr w6 by rw [hw'']; exact below_gn wr nq osq)
      have HS6 := hide (HSY1.out.below HB6.out)
      obtain ⟨m0, y0⟩ := HS6.out.srcc (i := t) ht
      simp only at m0 y0
      clear hw'' q0 c3 s0
      go_wp2_with fail
      rw [HOR.out]
      go_roundw
      case rel => exact ⟨k + 1, by omega, by go_num, block_other (at_up HBX1.out HB6.out) HNS.out _, _, HS6.out.putSrc ht _, srcOk_put HSK1.out ht (by omega), src_step HBT.out HFK.out⟩
      case measure => simp [intOf]; omega
    · clear hsy hbx
      go_wp2_with fail
      go_end0
      refine ⟨rfl, S1, HSY1.out, HSK1.out, fun i j => ?_⟩
      rw [HBT.out i j, List.take_of_length_le (by rw [← HLn.out]; omega)]

end Go.Proofs.Ytholefgckcoklab
