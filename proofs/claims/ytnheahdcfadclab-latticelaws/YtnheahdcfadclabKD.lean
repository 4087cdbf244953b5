/- The walk over LatticeLaws, where Check lets what came in by. -/
import Derived.Test.YtnheahdcfadclabKC
import Derived.Deep.CutRange
import Derived.Deep.Light
import Derived.Deep.RegionHeld3
namespace Go.Proofs.Ytnheahdcfadclab
open Go.RowKit

theorem joinR (w0 w : World) (N n : Nat) (vn vl : Value) (ss : List ByteArray) (G : Nat) (L : Nat → Nat) (Z : Nat → Nat → Bool) (hn : Hid (n = ss.length)) (hL : Hid (Lt w0 N vn vl ss G L Z)) (hW : Hid (St w0 w))
    (i j r : Nat) (hi : i < n) (hj : j < n) (hr : Hid (Lat.joinN Z n i j = r)) :
    Calls Try.prog 11 #[.int .i64 i, .int .i64 j, .pointer (some ⟨N, 0, none⟩), .pointer (some ⟨w0.heap.size, 0, none⟩)] w
      fun e w' => e = .returned (.int .i64 r) ∧ Hid (St w0 w') := by
  have hn' := hn.out
  subst hn'
  have hr' := hr.out
  subst hr'
  exact joinC w0 w N vn vl ss G L Z i j hL.out hW.out hi hj

theorem meetR (w0 w : World) (N n : Nat) (vn vl : Value) (ss : List ByteArray) (G : Nat) (L : Nat → Nat) (Z : Nat → Nat → Bool) (hn : Hid (n = ss.length)) (hL : Hid (Lt w0 N vn vl ss G L Z)) (hW : Hid (St w0 w))
    (i j r : Nat) (hi : i < n) (hj : j < n) (hr : Hid (Lat.joinN (Lat.tr Z) n i j = r)) :
    Calls Try.prog 12 #[.int .i64 i, .int .i64 j, .pointer (some ⟨N, 0, none⟩), .pointer (some ⟨w0.heap.size, 0, none⟩)] w
      fun e w' => e = .returned (.int .i64 r) ∧ Hid (St w0 w') := by
  have hn' := hn.out
  subst hn'
  have hr' := hr.out
  subst hr'
  exact meetC w0 w N vn vl ss G L Z i j hL.out hW.out hi hj

theorem St.drew {w0 w : World} (h : Hid (St w0 w)) : Hid (St w0 w.drew) := ⟨h.out.below.drew, h.out.cell, h.out.frozen⟩

theorem St.facts {w0 : World} {N : Nat} {vn vl : Value} {ss : List ByteArray} {G n : Nat} {L : Nat → Nat} {Z : Nat → Nat → Bool} (hn : Hid (n = ss.length)) (hL : Hid (Lt w0 N vn vl ss G L Z)) :
    ∃ (gb go gc : Nat) (RB RO C : Nat → Nat), ∀ (i j : Nat), i < n → j < n → ∀ w, Hid (St w0 w) →
      w.cell? ⟨w0.heap.size, 0, none⟩ = some (.bool true) ∧ w.cell? ⟨N, 1, none⟩ = some (.slice (some ⟨gb, go, none⟩) n gc) ∧ w.cell? ⟨gb, go + i, none⟩ = some (.slice (some ⟨RB i, RO i, none⟩) n (C i)) ∧ w.cell? ⟨RB i, RO i + j, none⟩ = some (.bool (Z i j)) := by
  have hn' := hn.out
  subst hn'
  have hO := Lat.ok_of hL.out.ok
  obtain ⟨gb, go, gc, RB, RO, C, hv, h1, h2⟩ := rag_grid hL.out.rag hO.pos hO.square
  refine ⟨gb, go, gc, RB, RO, C, fun i j hi hj w hW => ⟨hW.out.cell, ?_, cellUp (h1 i hi) hW.out.below, cellUp (h2 i j hi hj) hW.out.below⟩⟩
  rw [← hv]
  exact cellUp hL.out.box1 hW.out.below


set_option maxHeartbeats 2000000 in
set_option maxRecDepth 100000 in
theorem laws_ok (w : World) (vn vl : Value) (ss : List ByteArray) (G : Nat) (L : Nat → Nat) (Z : Nat → Nat → Bool) (a b c : Int) (hS : Strs w vn ss) (hR : Rag w vl G L Z) (hE : Lat.checkE ss G L Z = 0) :
    Calls Try.prog 3 #[.agg #[vn, vl], .int .i64 a, .int .i64 b, .int .i64 c] w fun e w' => e = .returned (.bool true) ∧ Below w.heap.size w w' := by
  have HS := hide hS
  have HR := hide hR
  have HE := hide hE
  obtain ⟨n, hlen⟩ : ∃ n, n = ss.length := ⟨_, rfl⟩
  have HN := hide hlen
  have hO := Lat.ok_of hE
  have hn0 : 0 < n := by have := hO.pos; omega
  have h6 : n ≤ 6 := by have := hO.six; omega
  have HO := hide hO
  obtain ⟨ad, bl, off, cap, hvn, ha, hl, hs, h1⟩ := hS
  rw [← hlen] at hvn
  subst hvn
  clear ha hs h1 hR hE hlen hO hl
  go_enter Try.func3, Try.ntmps3
  go_wp2_with fail
  refine (two_any _).mono ?_
  rintro e w1 ⟨un, ul, rfl, hS1, hR1, hb1⟩
  have HS1 := hide hS1
  have HR1 := hide hR1
  have HB1 := hide (up1 hb1)
  have q0 := cellUp (cellBox0 w (.slice ad n cap) vl 25) hb1
  have q1 := cellUp (cellBox1 w (.slice ad n cap) vl 25) hb1
  clear hS1 hR1 hb1
  go_wp2_with fail
  refine (join_two _ un ul HS1.out HR1.out).mono ?_
  rintro e w2 ⟨rfl, hb2⟩
  replace q0 := cellUp q0 hb2
  replace q1 := cellUp q1 hb2
  have HB2 := hide (up HB1.out hb2)
  clear hb2 HB1 HS1 HR1
  go_wp2_with fail
  refine (two_any _).mono ?_
  rintro e w3 ⟨un, ul, rfl, hS1, hR1, hb3⟩
  have HS1 := hide hS1
  have HR1 := hide hR1
  replace q0 := cellUp q0 hb3
  replace q1 := cellUp q1 hb3
  have HB3 := hide (up HB2.out hb3)
  clear hb3 HB2 hS1 hR1
  go_wp2_with fail
  refine (ends_two _ un ul HS1.out HR1.out).mono ?_
  rintro e w4 ⟨rfl, hb4⟩
  replace q0 := cellUp q0 hb4
  replace q1 := cellUp q1 hb4
  have HB4 := hide (up HB3.out hb4)
  clear hb4 HB3 HS1 HR1
  go_wp2_with fail
  refine (check_any _ _ vl ss G L Z (HS.out.below HB4.out) (HR.out.below HB4.out)).mono ?_
  rintro e w5 ⟨rfl, hb5⟩
  replace q0 := cellUp q0 hb5
  replace q1 := cellUp q1 hb5
  have HB5 := hide (up HB4.out hb5)
  clear hb5 HB4
  rw [unhide HE]
  go_wp2_with fail
  refine (rest_any _ a n hn0 h6).mono ?_
  rintro e w6 ⟨⟨i, hi, rfl⟩, hw⟩
  subst hw
  go_wp2_with fail
  refine (rest_any _ b n hn0 h6).mono ?_
  rintro e w7 ⟨⟨j, hj, rfl⟩, hw⟩
  subst hw
  go_wp2_with fail
  refine (rest_any _ c n hn0 h6).mono ?_
  rintro e w8 ⟨⟨k, hk, rfl⟩, hw⟩
  subst hw
  have HL : Hid (Lt w8 w.heap.size (.slice ad n cap) vl ss G L Z) := ⟨q0, q1, HS.out.below HB5.out, HR.out.below HB5.out, HE.out⟩
  have HW : Hid (St w8 (w8.alloc (.cells #[.bool true] 4))) := ⟨(Below.refl _ _).alloc (Nat.le_refl _) _, by simp [go_sem], by simp [go_sem]⟩
  have q0a := cellUp q0 HW.out.below
  have q1a := cellUp q1 HW.out.below
  go_wp2_with fail
  refine (ends_ok _ _ vl ss G L Z (HL.out.strs.below HW.out.below) (HL.out.rag.below HW.out.below) HL.out.ok).mono ?_
  rintro e w9 ⟨rfl, hb9⟩
  have HW9 : Hid (St w8 w9) := ⟨HW.out.below.trans (hb9.mono HW.out.below.size), cellUp HW.out.cell hb9, by rw [hb9.frozen (by simp)]; exact HW.out.frozen⟩
  clear hb9
  -- the names of what comes out
  have hJ := hide (Ok.joins HO.out)
  rw [← HN.out] at hJ
  rw [← HN.out]
  obtain ⟨low, hlow⟩ : ∃ x, x = Lat.lowN Z n := ⟨_, rfl⟩
  obtain ⟨high, hhigh⟩ : ∃ x, x = Lat.lowN (Lat.tr Z) n := ⟨_, rfl⟩
  rw [← hlow, ← hhigh]
  obtain ⟨jab, hjab⟩ : ∃ x, Lat.joinN Z n i j = x := ⟨_, rfl⟩
  obtain ⟨mab, hmab⟩ : ∃ x, Lat.joinN (Lat.tr Z) n i j = x := ⟨_, rfl⟩
  obtain ⟨jbc, hjbc⟩ : ∃ x, Lat.joinN Z n j k = x := ⟨_, rfl⟩
  obtain ⟨mbc, hmbc⟩ : ∃ x, Lat.joinN (Lat.tr Z) n j k = x := ⟨_, rfl⟩
  obtain ⟨jx, hjx⟩ : ∃ x, Lat.joinN Z n jab k = x := ⟨_, rfl⟩
  obtain ⟨mx, hmx⟩ : ∃ x, Lat.joinN (Lat.tr Z) n mab k = x := ⟨_, rfl⟩
  have l1 : jab < n := by rw [← hjab]; exact hJ.out.1.lt hi hj
  have l2 : mab < n := by rw [← hmab]; exact hJ.out.2.lt hi hj
  have l3 : jbc < n := by rw [← hjbc]; exact hJ.out.1.lt hj hk
  have l4 : mbc < n := by rw [← hmbc]; exact hJ.out.2.lt hj hk
  have l5 : low < n := by rw [hlow]; exact (Lat.low_spec hJ.out.2 hn0).1
  have l6 : high < n := by rw [hhigh]; exact (Lat.low_spec (Z := Lat.tr Z) hJ.out.1 hn0).1
  have E1 := hide hjab
  have E2 : Hid (Lat.joinN Z n j i = jab) := by rw [← hjab]; exact hJ.out.1.comm hj hi
  have E3 := hide hmab
  have E4 : Hid (Lat.joinN (Lat.tr Z) n j i = mab) := by rw [← hmab]; exact hJ.out.2.comm hj hi
  have E5 := hide (hJ.out.1.same hi)
  have E6 := hide (hJ.out.2.same hi)
  have E7 : Hid (Lat.joinN Z n i mab = i) := by rw [← hmab]; exact Lat.absorb hJ.out.1 hJ.out.2 hi hj
  have E8 : Hid (Lat.joinN (Lat.tr Z) n i jab = i) := by rw [← hjab]; exact Lat.absorb (Z := Lat.tr Z) hJ.out.2 hJ.out.1 hi hj
  have E9 := hide hjx
  have E10 := hide hjbc
  have E11 : Hid (Lat.joinN Z n i jbc = jx) := by rw [← hjx, ← hjab, ← hjbc]; exact (hJ.out.1.assoc hi hj hk).symm
  have E12 := hide hmx
  have E13 := hide hmbc
  have E14 : Hid (Lat.joinN (Lat.tr Z) n i mbc = mx) := by rw [← hmx, ← hmab, ← hmbc]; exact (hJ.out.2.assoc hi hj hk).symm
  have E15 : Hid (Lat.joinN Z n low i = i) := by rw [hlow]; exact hJ.out.1.of_le (Lat.low_spec hJ.out.2 hn0).1 hi ((Lat.low_spec hJ.out.2 hn0).2 i hi)
  have E16 : Hid (Lat.joinN (Lat.tr Z) n high i = i) := by rw [hhigh]; exact hJ.out.2.of_le (Lat.low_spec (Z := Lat.tr Z) hJ.out.1 hn0).1 hi ((Lat.low_spec (Z := Lat.tr Z) hJ.out.1 hn0).2 i hi)
  clear hjab hmab hjbc hmbc hjx hmx hlow hhigh
  go_upto_region 13 with fail
  go_cut [144] from 21 to 227 (fun s wx => s = .bool false ∧ Hid (St w8 wx))
  case first =>
    go_wp2_with fail
    refine (joinR w8 _ w.heap.size n _ vl ss G L Z HN HL HW9 i j jab hi hj E1).mono ?_
    rintro e w10 ⟨rfl, HW10⟩
    clear HW9
    go_wp2_with fail
    refine (joinR w8 _ w.heap.size n _ vl ss G L Z HN HL HW10 j i jab hj hi E2).mono ?_
    rintro e w11 ⟨rfl, HW11⟩
    clear HW10
    go_wp2_with fail
    refine (meetR w8 _ w.heap.size n _ vl ss G L Z HN HL HW11 i j mab hi hj E3).mono ?_
    rintro e w12 ⟨rfl, HW12⟩
    clear HW11
    go_wp2_with fail
    refine (meetR w8 _ w.heap.size n _ vl ss G L Z HN HL HW12 j i mab hj hi E4).mono ?_
    rintro e w13 ⟨rfl, HW13⟩
    clear HW12
    go_wp2_with fail
    refine (joinR w8 _ w.heap.size n _ vl ss G L Z HN HL HW13 i i i hi hi E5).mono ?_
    rintro e w14 ⟨rfl, HW14⟩
    clear HW13
    go_wp2_with fail
    refine (meetR w8 _ w.heap.size n _ vl ss G L Z HN HL HW14 i i i hi hi E6).mono ?_
    rintro e w15 ⟨rfl, HW15⟩
    clear HW14
    go_wp2_with fail
    refine (meetR w8 _ w.heap.size n _ vl ss G L Z HN HL HW15 i j mab hi hj E3).mono ?_
    rintro e w16 ⟨rfl, HW16⟩
    clear HW15
    go_wp2_with fail
    refine (joinR w8 _ w.heap.size n _ vl ss G L Z HN HL HW16 i mab i hi l2 E7).mono ?_
    rintro e w17 ⟨rfl, HW17⟩
    clear HW16
    go_wp2_with fail
    refine (joinR w8 _ w.heap.size n _ vl ss G L Z HN HL HW17 i j jab hi hj E1).mono ?_
    rintro e w18 ⟨rfl, HW18⟩
    clear HW17
    go_wp2_with fail
    refine (meetR w8 _ w.heap.size n _ vl ss G L Z HN HL HW18 i jab i hi l1 E8).mono ?_
    rintro e w19 ⟨rfl, HW19⟩
    clear HW18
    go_wp2_with fail
    go_meet
    exact ⟨rfl, HW19⟩
  case rest =>
    obtain ⟨rfl, HW19⟩ := hcut
    clear HW9
    go_upto_region 15 with fail
    go_cut [192] from 21 to 227 (fun s wx => s = .bool false ∧ Hid (St w8 wx))
    case first =>
      go_wp2_with fail
      refine (joinR w8 _ w.heap.size n _ vl ss G L Z HN HL HW19 i j jab hi hj E1).mono ?_
      rintro e w20 ⟨rfl, HW20⟩
      clear HW19
      go_wp2_with fail
      refine (joinR w8 _ w.heap.size n _ vl ss G L Z HN HL HW20 jab k jx l1 hk E9).mono ?_
      rintro e w21 ⟨rfl, HW21⟩
      clear HW20
      go_wp2_with fail
      refine (joinR w8 _ w.heap.size n _ vl ss G L Z HN HL HW21 j k jbc hj hk E10).mono ?_
      rintro e w22 ⟨rfl, HW22⟩
      clear HW21
      go_wp2_with fail
      refine (joinR w8 _ w.heap.size n _ vl ss G L Z HN HL HW22 i jbc jx hi l3 E11).mono ?_
      rintro e w23 ⟨rfl, HW23⟩
      clear HW22
      go_wp2_with fail
      refine (meetR w8 _ w.heap.size n _ vl ss G L Z HN HL HW23 i j mab hi hj E3).mono ?_
      rintro e w24 ⟨rfl, HW24⟩
      clear HW23
      go_wp2_with fail
      refine (meetR w8 _ w.heap.size n _ vl ss G L Z HN HL HW24 mab k mx l2 hk E12).mono ?_
      rintro e w25 ⟨rfl, HW25⟩
      clear HW24
      go_wp2_with fail
      refine (meetR w8 _ w.heap.size n _ vl ss G L Z HN HL HW25 j k mbc hj hk E13).mono ?_
      rintro e w26 ⟨rfl, HW26⟩
      clear HW25
      go_wp2_with fail
      refine (meetR w8 _ w.heap.size n _ vl ss G L Z HN HL HW26 i mbc mx hi l4 E14).mono ?_
      rintro e w27 ⟨rfl, HW27⟩
      clear HW26
      go_wp2_with fail
      refine (joinR w8 _ w.heap.size n _ vl ss G L Z HN HL HW27 low i i l5 hi E15).mono ?_
      rintro e w28 ⟨rfl, HW28⟩
      clear HW27
      go_wp2_with fail
      refine (meetR w8 _ w.heap.size n _ vl ss G L Z HN HL HW28 high i i l6 hi E16).mono ?_
      rintro e w29 ⟨rfl, HW29⟩
      clear HW28
      go_wp2_with fail
      go_meet
      exact ⟨rfl, HW29⟩
    case rest =>
      obtain ⟨rfl, HW29⟩ := hcut
      clear HW19
      go_wp2_with fail
      obtain ⟨gb, go, gc, RB, RO, C, hF⟩ := St.facts HN HL
      have F := hide (hF i j hi hj)
      clear hF
      have b1 : ((jab : Int) == (j : Int)) = Z i j := by
        rw [nat_beq, hJ.out.1.le_iff hi hj, E1.out]
      have b2 : ((mab : Int) == (i : Int)) = Z i j := by
        have h := hJ.out.2.le_iff hj hi
        rw [E4.out] at h
        rw [nat_beq, ← h]; rfl
      have i0 : (0 : Int) ≤ (i : Int) := by omega
      have i1 : (i : Int) < (n : Int) := by omega
      have j0 : (0 : Int) ≤ (j : Int) := by omega
      have j1 : (j : Int) < (n : Int) := by omega
      cases hz : Z i j
      · rw [hz] at b1 b2
        have HF : Hid (∀ wx, Hid (St w8 wx) → Hid (St w8 wx) ∧ wx.cell? ⟨w8.heap.size, 0, none⟩ = some (.bool true) ∧ wx.cell? ⟨w.heap.size, 1, none⟩ = some (.slice (some ⟨gb, go, none⟩) n gc) ∧ wx.cell? ⟨gb, go + i, none⟩ = some (.slice (some ⟨RB i, RO i, none⟩) n (C i)) ∧ wx.cell? ⟨RB i, RO i + j, none⟩ = some (.bool (Z i j))) :=
          fun wx h => ⟨h, F.out wx h⟩
        rw [hz] at HF
        clear hz F
        go_region_held3 (fun wx => Hid (St w8 wx) ∧ wx.cell? ⟨w8.heap.size, 0, none⟩ = some (.bool true) ∧ wx.cell? ⟨w.heap.size, 1, none⟩ = some (.slice (some ⟨gb, go, none⟩) n gc) ∧ wx.cell? ⟨gb, go + i, none⟩ = some (.slice (some ⟨RB i, RO i, none⟩) n (C i)) ∧ wx.cell? ⟨RB i, RO i + j, none⟩ = some (.bool false))
          (first | exact HF.out _ HW31 | exact HF.out _ HW30 | exact HF.out _ (St.drew HW29))
          (first
            | (go_at_call 11; refine (joinR w8 _ w.heap.size n _ vl ss G L Z HN HL ?_ i j jab hi hj E1).mono ?_; (exact St.drew HW29); rintro e w30 ⟨rfl, HW30⟩)
            | (go_at_call 12; refine (meetR w8 _ w.heap.size n _ vl ss G L Z HN HL ?_ i j mab hi hj E3).mono ?_; (exact HW30); rintro e w31 ⟨rfl, HW31⟩))
        all_goals
          go_wp2
          go_ret
          exact ⟨rfl, up HB5.out HW31.out.below⟩
      · rw [hz] at b1 b2
        have HF : Hid (∀ wx, Hid (St w8 wx) → Hid (St w8 wx) ∧ wx.cell? ⟨w8.heap.size, 0, none⟩ = some (.bool true) ∧ wx.cell? ⟨w.heap.size, 1, none⟩ = some (.slice (some ⟨gb, go, none⟩) n gc) ∧ wx.cell? ⟨gb, go + i, none⟩ = some (.slice (some ⟨RB i, RO i, none⟩) n (C i)) ∧ wx.cell? ⟨RB i, RO i + j, none⟩ = some (.bool (Z i j))) :=
          fun wx h => ⟨h, F.out wx h⟩
        rw [hz] at HF
        clear hz F
        go_region_held3 (fun wx => Hid (St w8 wx) ∧ wx.cell? ⟨w8.heap.size, 0, none⟩ = some (.bool true) ∧ wx.cell? ⟨w.heap.size, 1, none⟩ = some (.slice (some ⟨gb, go, none⟩) n gc) ∧ wx.cell? ⟨gb, go + i, none⟩ = some (.slice (some ⟨RB i, RO i, none⟩) n (C i)) ∧ wx.cell? ⟨RB i, RO i + j, none⟩ = some (.bool true))
          (first | exact HF.out _ HW31 | exact HF.out _ HW30 | exact HF.out _ (St.drew HW29))
          (first
            | (go_at_call 11; refine (joinR w8 _ w.heap.size n _ vl ss G L Z HN HL ?_ i j jab hi hj E1).mono ?_; (exact St.drew HW29); rintro e w30 ⟨rfl, HW30⟩)
            | (go_at_call 12; refine (meetR w8 _ w.heap.size n _ vl ss G L Z HN HL ?_ i j mab hi hj E3).mono ?_; (exact HW30); rintro e w31 ⟨rfl, HW31⟩))
        all_goals
          go_wp2
          go_ret
          exact ⟨rfl, up HB5.out HW31.out.below⟩
end Go.Proofs.Ytnheahdcfadclab
