/- What one may see: plain words; low.check, low.number, low.sees. -/
import Derived.Test.YtmhcameodlhloabRI
import Derived.Test.YtmhcameodlhloabLG
import Derived.Test.YtmhcameodlhloabLatM
import Derived.Test.YtmhcameodlhloabNA
import Derived.Test.YtmhcameodlhloabHO
import Derived.BigQuiet
namespace Go.Proofs.Ytmhcameodlhloab
open Go.RowKit

namespace Lw
/-- What check answers. -/
def chE (ss : List ByteArray) (G : Nat) (L : Nat → Nat) (Z : Nat → Nat → Bool) (level : Int) : Int :=
  if Lat.checkE ss G L Z = 0 then (if Lat.inB ss.length level then 0 else 1) else Lat.checkE ss G L Z
/-- May one of level k see what is of the level numbered a? -/
def seesB (Z : Nat → Nat → Bool) (a : Int) (k : Nat) : Bool := (a != -1) && Z a.toNat k
/-- The level of the variable of that module and name: the first module of the name, the first variable. -/
def lv (mods : List Mo) (x y : ByteArray) : Option ByteArray := (mods.find? fun m => Nm.sameB m.name x).bind fun m => (m.vars.find? fun v => Nm.sameB v.name y).map (·.level)
/-- Is a cell seen? -/
def ceB (ss : List ByteArray) (Z : Nat → Nat → Bool) (mods : List Mo) (k : Nat) (x y : ByteArray) : Bool := match lv mods x y with
  | some t => seesB Z (Lat.indexI ss t) k
  | none => false
theorem indexI_range (ss : List ByteArray) (t : ByteArray) : Lat.indexI ss t = -1 ∨ ∃ i : Nat, Lat.indexI ss t = i ∧ i < ss.length := by
  unfold Lat.indexI
  split
  · next i h => exact Or.inr ⟨i, rfl, (Lat.find_spec h).1⟩
  · exact Or.inl rfl
theorem chE_ok {ss : List ByteArray} {G : Nat} {L : Nat → Nat} {Z : Nat → Nat → Bool} {level : Int} (h : chE ss G L Z level = 0) : Lat.checkE ss G L Z = 0 ∧ ∃ k : Nat, level = k ∧ k < ss.length := by
  unfold chE at h
  by_cases h0 : Lat.checkE ss G L Z = 0
  · rw [if_pos h0] at h
    refine ⟨h0, ?_⟩
    cases hi : Lat.inB ss.length level with
    | false => rw [hi] at h; simp at h
    | true =>
      unfold Lat.inB at hi
      simp only [Bool.and_eq_true, decide_eq_true_eq] at hi
      exact ⟨level.toNat, by omega, by omega⟩
  · rw [if_neg h0] at h; exact absurd h h0
end Lw

set_option maxHeartbeats 2000000 in
set_option maxRecDepth 100000 in
theorem lcheck_any (w : World) (vn vl : Value) (ss : List ByteArray) (G : Nat) (L : Nat → Nat) (Z : Nat → Nat → Bool) (level : Int) (hS : Strs w vn ss) (hR : Rag w vl G L Z) :
    Calls Try.prog 58 #[.agg #[vn, vl], .int .i64 level] w fun e w' => e = .returned (.int .i64 (Lw.chE ss G L Z level)) ∧ Below w.heap.size w w' := by
  have HS := hide hS
  have HR := hide hR
  obtain ⟨ad, bl, off, cap, rfl, ha, hl, hs, h1⟩ := hS
  clear ha hs h1 hR
  obtain ⟨n, hlen⟩ : ∃ n, n = ss.length := ⟨_, rfl⟩
  have HN : Hid (n = ss.length) := hlen
  rw [← hlen] at hl HS ⊢
  clear hlen
  obtain ⟨c, hc⟩ : ∃ c, c = Lat.checkE ss G L Z := ⟨_, rfl⟩
  have HC : Hid (c = Lat.checkE ss G L Z) := hc
  go_enter Try.func58, Try.ntmps58
  go_wp2_with fail
  refine (check_any _ _ vl ss G L Z (HS.out.below ((Below.refl _ _).alloc (Nat.le_refl _) _)) (HR.out.below ((Below.refl _ _).alloc (Nat.le_refl _) _))).mono ?_
  rintro e w1 ⟨rfl, hb1⟩
  rw [← hc]
  clear hc
  have q0 := cellUp (cellBox0 w (.slice ad n cap) vl 25) hb1
  have q1 := cellUp (cellBox1 w (.slice ad n cap) vl 25) hb1
  have HB := hide (up1 hb1)
  clear hb1
  by_cases hz : c = 0
  · subst hz
    go_wp2_with fail
    refine (isLevel_any _ ad vl n cap level).mono ?_
    rintro e w2 ⟨rfl, hb2⟩
    rw [show (decide (0 ≤ level) && decide (level < (n : Int))) = Lat.inB n level from rfl]
    have HB2 := hide (up HB.out hb2)
    clear hb2 q0 q1
    cases za : Lat.inB n level
    · go_wp2
      go_ret
      exact ⟨ret_int (by unfold Lw.chE; rw [← HN.out, za, if_pos HC.out.symm]; rfl), HB2.out⟩
    · go_wp2
      go_ret
      exact ⟨ret_int (by unfold Lw.chE; rw [← HN.out, za, if_pos HC.out.symm]; rfl), HB2.out⟩
  · have hz' := bne_zero_true hz
    go_wp2
    go_ret
    exact ⟨ret_int (by unfold Lw.chE; rw [← HC.out, if_neg hz]), HB.out⟩

set_option maxHeartbeats 2000000 in
set_option maxRecDepth 100000 in
theorem lnumber_any (w : World) (vn vl : Value) (ss : List ByteArray) (t : ByteArray) (hS : Strs w vn ss) :
    Calls Try.prog 60 #[.agg #[vn, vl], .string t] w fun e w' => e = .returned (.int .i64 (Lat.indexI ss t)) ∧ Below w.heap.size w w' := by
  have HS := hide hS
  have HB := hide (boxBelow w (.cells #[vn, vl] 25))
  have q0 := cellBox0 w vn vl 25
  have HC := hide (indexS_any _ vn ss t (hS.below HB.out))
  have hlt := Lw.indexI_range ss t
  obtain ⟨i, hi⟩ : ∃ i, i = Lat.indexI ss t := ⟨_, rfl⟩
  rw [← hi] at HC hlt ⊢
  clear hi hS
  obtain ⟨ad, bl, off, cap, rfl, -⟩ := HS.out
  go_enter Try.func60, Try.ntmps60
  go_wp2_with fail
  refine HC.out.mono ?_
  rintro e w1 ⟨rfl, rfl⟩
  rcases hlt with rfl | ⟨k, rfl, hk⟩
  · go_wp2
    go_ret
    exact ⟨rfl, HB.out⟩
  · go_wp2
    go_ret
    exact ⟨rfl, HB.out⟩

set_option maxHeartbeats 2000000 in
set_option maxRecDepth 100000 in
theorem lsees_any (w : World) (vn vl : Value) (n : Nat) (Z : Nat → Nat → Bool) (a : Int) (k : Nat) (hG : Grid w vl n Z) (ha : a = -1 ∨ ∃ i : Nat, a = i ∧ i < n) (hk : k < n) (hv : ∃ ad m c, vn = .slice ad m c) :
    Calls Try.prog 59 #[.agg #[vn, vl], .int .i64 a, .int .i64 k] w fun e w' => e = .returned (.bool (Lw.seesB Z a k)) ∧ Below w.heap.size w w' := by
  obtain ⟨ad, m, c, rfl⟩ := hv
  have HB := hide (boxBelow w (.cells #[.slice ad m c, vl] 25))
  obtain ⟨gb, go, gc, RB, RO, C, rfl, h1, h2⟩ := hG.below HB.out
  have q1 := cellBox1 w (.slice ad m c) (.slice (some ⟨gb, go, none⟩) n gc) 25
  rcases ha with rfl | ⟨i, rfl, hi⟩
  · clear h1 h2 hG
    go_enter Try.func59, Try.ntmps59
    go_wp2
    go_ret
    exact ⟨rfl, HB.out⟩
  · have r1 := h1 i hi
    have r2 := h2 i k hi hk
    have HE : Hid (Lw.seesB Z (i : Int) k = Z i k) := hide (by
      unfold Lw.seesB
      rw [show ((i : Int) != -1) = true from by rw [bne_iff_ne]; omega]
      simp)
    have hne : ((i : Int) == -1) = false := by rw [beq_eq_false_iff_ne]; omega
    have hne' : ((i : Int) != -1) = true := by rw [bne_iff_ne]; omega
    clear h1 h2 hG
    generalize Z i k = z at *
    go_enter Try.func59, Try.ntmps59
    go_wp2
    go_ret
    exact ⟨ret_bool HE.out.symm, HB.out⟩

end Go.Proofs.Ytmhcameodlhloab
