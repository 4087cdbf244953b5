/- Walks over package solve, seventh part: Least. -/
import Derived.Test.YtholefgckcoklaaZH
namespace Go.Proofs.Ytholefgckcoklaa
open Go.RowKit

/-- The labels of n variables as a list. -/
def Sv.list (n : Nat) (V : Nat → Nat × Nat) : List (Int × Int) := (List.range n).map fun i => (((V i).1 : Int), ((V i).2 : Int))
theorem Sv.list_len (n : Nat) (V : Nat → Nat × Nat) : (Sv.list n V).length = n := by simp [Sv.list]
theorem Sv.list_get {n i : Nat} (V : Nat → Nat × Nat) (hi : i < n) : (Sv.list n V)[i]? = some (((V i).1 : Int), ((V i).2 : Int)) := by simp [Sv.list, hi]
theorem SyAt.las {w0 w : World} {c : Cf} {V : Nat → Nat × Nat} {S : Nat → Nat} (h : SyAt w0 w c V S) (hn : c.n ≤ 40) : LasAt w (.slice (some ⟨c.lb, 0, none⟩) c.n c.n) (Sv.list c.n V) := by
  refine ⟨some ⟨c.lb, 0, none⟩, c.lb, 0, c.n, by rw [Sv.list_len], fun _ => rfl, by rw [Sv.list_len]; omega, fun i x hx => ?_⟩
  have hi : i < c.n := by have := (List.getElem?_eq_some_iff.1 hx).1; rwa [Sv.list_len] at this
  rw [Sv.list_get V hi] at hx
  cases hx
  obtain ⟨l0, l1, -, -⟩ := h.labc hi
  rw [Nat.zero_add]
  exact ⟨l0, l1⟩
theorem take_snoc {α : Type} {l : List α} {k : Nat} {x : α} (h : l[k]? = some x) : l.take (k + 1) = l.take k ++ [x] := by rw [List.take_add_one, h]; rfl

set_option maxHeartbeats 2000000 in
set_option maxRecDepth 100000 in
theorem least_err1 (w : World) (vn vl vc : Value) (ss : List ByteArray) (G : Nat) (L : Nat → Nat) (Z : Nat → Nat → Bool) (ni : Int) (hS : Strs w vn ss) (hR : Rag w vl G L Z) (hE : Lat.checkE ss G L Z ≠ 0) :
    Calls Try.prog 28 #[.agg #[vn, vl], .int .i64 ni, vc] w fun e w' => e = .returned (.tuple #[.slice none 0 0, .int .i64 (Lat.checkE ss G L Z)]) ∧ Below w.heap.size w w' := by
  obtain ⟨W, hW⟩ : ∃ W, W = w.alloc (.cells #[vn, vl] 25) := ⟨_, rfl⟩
  obtain ⟨b0, hB⟩ := box1_at w vn vl W hW
  have HB := hide hB
  have HEN := hide (ends_err W vn vl ss G L Z (hS.below hB) (hR.below hB) hE)
  have hz' := bne_zero_true hE
  clear hB b0 hS hR hE
  go_enter Try.func28, Try.ntmps28
  go_wp2_with fail
  rw [← hW]
  refine HEN.out.mono ?_
  rintro e w1 ⟨rfl, hb1⟩
  have HB1 := hide (up HB.out hb1)
  clear hb1 hW
  go_wp2_with fail
  go_ret2
  exact ⟨rfl, HB1.out⟩

set_option maxHeartbeats 2000000 in
set_option maxRecDepth 100000 in
theorem least_err2 (w : World) (vn vl vc : Value) (ss : List ByteArray) (G : Nat) (L : Nat → Nat) (Z : Nat → Nat → Bool) (ni : Int) (cs : List Sv.Co) (hL : LaAt w vn vl ss G L Z) (hC : CosAt w vc cs) (hE : Sv.sysE ss.length ni cs ≠ 0) :
    Calls Try.prog 28 #[.agg #[vn, vl], .int .i64 ni, vc] w fun e w' => e = .returned (.tuple #[.slice none 0 0, .int .i64 (Sv.sysE ss.length ni cs)]) ∧ Below w.heap.size w w' := by
  obtain ⟨W, hW⟩ : ∃ W, W = w.alloc (.cells #[vn, vl] 25) := ⟨_, rfl⟩
  obtain ⟨b0, hB⟩ := box1_at w vn vl W hW
  have HB := hide hB
  have HB0 := hide b0
  have HL := hide hL
  have HC := hide hC
  have HEN := hide (ends_ok W vn vl ss G L Z (hL.strs.below hB) (hL.rag.below hB) hL.ok)
  have hz' := bne_zero_true hE
  clear hB b0 hL hC hE
  go_enter Try.func28, Try.ntmps28
  go_wp2_with fail
  rw [← hW]
  refine HEN.out.mono ?_
  rintro e w1 ⟨rfl, hb1⟩
  have HB1 := hide (up HB.out hb1)
  have p0 := at_up HB0.out hb1
  have q0 := (block_at p0 0).trans rfl
  have q1 := (block_at p0 1).trans rfl
  clear hb1 hW p0
  go_wp2_with fail
  refine (checkSystem_any w1 vn vl vc ss ni cs (HL.out.strs.below HB1.out) (HC.out.below HB1.out)).mono ?_
  rintro e w2 ⟨rfl, hb2⟩
  have HB2 := hide (up HB1.out hb2)
  clear hb2
  go_wp2_with fail
  go_ret2
  exact ⟨rfl, HB2.out⟩

theorem sysE_ok {N : Nat} {ni : Int} {cs : List Sv.Co} (h : Sv.sysE N ni cs = 0) : ∃ n : Nat, ni = n ∧ n ≤ 40 ∧ cs.length ≤ 1000 ∧ ∀ c ∈ cs, Sv.coB N n c = true := by
  unfold Sv.sysE at h
  by_cases h0 : ni < 0
  · rw [if_pos h0] at h; omega
  rw [if_neg h0] at h
  by_cases h1 : 40 < ni
  · rw [if_pos h1] at h; omega
  rw [if_neg h1] at h
  by_cases h2 : 1000 < cs.length
  · rw [if_pos h2] at h; omega
  rw [if_neg h2] at h
  by_cases h3 : cs.all (Sv.coB N ni.toNat) = true
  · exact ⟨ni.toNat, by omega, by omega, by omega, List.all_eq_true.1 h3⟩
  · rw [if_neg h3] at h; omega

set_option maxHeartbeats 4000000 in
set_option maxRecDepth 100000 in
theorem least_ok (w : World) (vn vl vc : Value) (ss : List ByteArray) (G : Nat) (L : Nat → Nat) (Z : Nat → Nat → Bool) (n : Nat) (cs : List Sv.Co) (hL : LaAt w vn vl ss G L Z) (hC : CosAt w vc cs) (hE : Sv.sysE ss.length n cs = 0) :
    Calls Try.prog 28 #[.agg #[vn, vl], .int .i64 n, vc] w fun e w' => ∃ V lb, e = .returned (.tuple #[.slice (some ⟨lb, 0, none⟩) n n, .int .i64 0]) ∧ LasAt w' (.slice (some ⟨lb, 0, none⟩) n n) (Sv.list n V) ∧ Sv.Least Z ss.length n cs V ∧ Below w.heap.size w w' := by
  obtain ⟨W, hW⟩ : ∃ W, W = w.alloc (.cells #[vn, vl] 25) := ⟨_, rfl⟩
  obtain ⟨b0, hB⟩ := box1_at w vn vl W hW
  have HB := hide hB
  have HB0 := hide b0
  have HL := hide hL
  have HC := hide hC
  have HEN := hide (ends_ok W vn vl ss G L Z (hL.strs.below hB) (hL.rag.below hB) hL.ok)
  have HEE := hide hE
  obtain ⟨n', hn', hn, hlen, hall⟩ := sysE_ok hE
  obtain rfl : n = n' := by omega
  have HALL := hide hall
  have HJ := hide hL.joins
  have HF0 := hide (Sv.Fed.nil (n := n) hL.meets (Lat.ok_of hL.ok).pos)
  obtain ⟨a, b, off, cap, rfl, h0, hl, hel⟩ := hC
  have HEL := hide hel
  have HA0 := hide h0
  obtain ⟨len, hlen'⟩ : ∃ n, n = cs.length := ⟨_, rfl⟩
  have HLn := hide hlen'
  rw [← hlen'] at HC HA0 hl hlen ⊢
  clear hB b0 hL hE hel h0 hall hn' hlen'
  go_enter Try.func28, Try.ntmps28
  go_wp2_with fail
  rw [← hW]
  refine HEN.out.mono ?_
  rintro e w1 ⟨rfl, hb1⟩
  have HB1 := hide (up HB.out hb1)
  have HP0 := hide (at_up HB0.out hb1)
  have q0 := (block_at HP0.out 0).trans rfl
  have q1 := (block_at HP0.out 1).trans rfl
  clear hb1 hW
  go_wp2_with fail
  refine (checkSystem_any w1 vn vl _ ss n cs (HL.out.strs.below HB1.out) (HC.out.below HB1.out)).mono ?_
  rintro e w2 ⟨rfl, hb2⟩
  rw [HEE.out]
  have HB2 := hide (up HB1.out hb2)
  replace q0 := (block_at (at_up HP0.out hb2) 0).trans rfl
  replace q1 := (block_at (at_up HP0.out hb2) 1).trans rfl
  clear hb2
  go_wp2_with fail
  refine (newSystem_any w2 vn vl n (Lat.lowN Z ss.length) hn).mono ?_
  rintro e w3 ⟨p, lb, sb, rfl, hsy⟩
  have HSY := hide hsy
  have HL2 := hide (HL.out.below HB2.out)
  clear hsy q0 q1
  go_wp2_with fail
  go_loopw [37] (fun i wx => ∃ k : Nat, k ≤ len ∧ i = .int .i64 k ∧ ∃ V S, SyAt w2 wx ⟨p, lb, sb, n, vn, vl⟩ V S ∧ SrcOk n S ∧ Sv.Fed Z ss.length n (cs.take k) V S) (fun i _ => len - (intOf i).toNat)
  case atStart => exact ⟨0, Nat.zero_le _, rfl, _, _, HSY.out, fun i _ => by show (0 : Nat) < 1099511627776; omega, HF0.out⟩
  case round =>
    obtain ⟨k, hk, rfl, V1, S1, hsy, hsk, hfed⟩ := hrel
    have HSY1 := hide hsy
    have HSK := hide hsk
    have HFED := hide hfed
    clear hsy hsk hfed
    by_cases hlt : k < len
    · obtain ⟨c, hc⟩ : ∃ c, cs[k]? = some c := ⟨_, List.getElem?_eq_getElem (by rw [← HLn.out]; exact hlt)⟩
      have HCK := hide hc
      have hco := HALL.out c (List.mem_of_getElem? hc)
      have HCO := hide hco
      obtain ⟨hcf, hct, hcl⟩ := Sv.coB_spec hco
      obtain ⟨-, ht', ht⟩ := Sv.varB_spec hct
      obtain ⟨hx', hm, hlv⟩ := Sv.labB_ok hcl
      have HCF := hide hcf
      have HX := hide hx'
      have hbx := up HB2.out HSY1.out.since
      obtain ⟨vf, hvf, g0, g1, g2, g3⟩ := HEL.out k c hc
      have HVF := hide (hvf.below HB2.out)
      replace g0 := cellUp g0 hbx
      replace g1 := cellUp g1 hbx
      replace g2 := cellUp g2 hbx
      replace g3 := cellUp g3 hbx
      obtain ⟨fa, fb, fo, fc, rfl, -⟩ := hvf
      obtain rfl := HA0.out (by omega)
      have HSB := hide (HSY1.out.below (boxBelow wr (.cells #[.int .i64 c.to, .slice fa c.fr.length fc, .int .i64 c.mask, .int .i64 c.level] 55)))
      have HTN := hide ht'
      have HAD := hide (add_any w2 (wr.alloc (.cells #[.int .i64 c.to, .slice fa c.fr.length fc, .int .i64 c.mask, .int .i64 c.level] 55)) ⟨p, lb, sb, n, vn, vl⟩ V1 S1 ss G L Z c.to.toNat c.fr (c.mask.toNat, c.level.toNat) _ HL2.out HSB.out HFED.out.ok ht' HX.out HCF.out hn HVF.out HSK.out)
      rw [← ht, ← hm, ← hlv] at HAD
      clear hc hco hcf hct hcl hx' hbx ht' ht hm hlv
      go_wp2_with fail
      refine HAD.out.mono ?_
      rintro e w4 ⟨rfl, S2, h1, h2, h3⟩
      have HS4 := hide h1
      have HSK2 := hide h2
      have HBT := hide h3
      clear h1 h2 h3
      go_wp2_with fail
      go_roundw
      case rel => exact ⟨k + 1, by omega, by go_num, _, S2, HS4.out, HSK2.out, by
          rw [take_snoc HCK.out]
          exact HFED.out.more HJ.out (fun d hd => HALL.out d (List.mem_of_mem_take hd)) HCO.out HBT.out⟩
      case measure => simp [intOf]; omega
    · have HFE : Hid (Sv.Fed Z ss.length n cs V1 S1) := hide (by have := HFED.out; rwa [List.take_of_length_le (by rw [← HLn.out]; omega)] at this)
      go_wp2_with fail
      refine (settle_any w2 _ ⟨p, lb, sb, n, vn, vl⟩ V1 S1 ss G L Z HL2.out HSY1.out HFE.out.ok hn HSK.out).mono ?_
      rintro e w5 ⟨V2, rfl, hsy5, hset⟩
      have HSY5 := hide hsy5
      have HSET := hide hset
      obtain ⟨-, -, c2, -⟩ := hsy5.cell
      simp only at c2
      clear hsy5 hset
      go_wp2_with fail
      go_ret2
      exact ⟨V2, lb, rfl, HSY5.out.las hn, HFE.out.done HJ.out HALL.out HSET.out, up HB2.out HSY5.out.since⟩

end Go.Proofs.Ytholefgckcoklaa
