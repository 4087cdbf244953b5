/- Walks over package tree: checkFun, Check, Print: what the document asks. -/
import Derived.Test.YtholefgckcoklaaGreatDoorBZBK
namespace Go.Proofs.YtholefgckcoklaaGreatDoor
open Go.RowKit
namespace Lat
end Lat
set_option maxHeartbeats 2000000 in
set_option maxRecDepth 100000 in
theorem checkFun_any (m : Nat) (w : World) (vp vb e0 e1 e2 e3 : Value) (f : Fu) (h : FuAt w m vp vb e0 e1 e2 e3 f) :
    Calls Tryz.prog 108 #[.agg #[.string f.name, vp, vb, e0, e1, e2, e3]] w fun e w' => e = .returned (.int .i64 (Lat.fuE m f)) ∧ Below w.heap.size w w' := by
  have HS := hide h
  obtain ⟨hnm, hp, hsb, hx⟩ := h
  obtain ⟨ae, ce, rfl, rfl, rfl, rfl⟩ := hx.shape
  obtain ⟨a1, cap1, rfl, hl1⟩ := hsb.shape
  obtain ⟨a2, cap2, rfl, hl2⟩ := hp.shape
  clear hx hsb hp
  have HE : Hid (Lat.fuE m f = if 4 < f.params.length then 2 else if (Lat.nameB f.name.data.toList && Lat.bodyB m f.body && Lat.exprB m f.result && f.params.all fun s => Lat.nameB s.data.toList) then 0 else 5) := rfl
  generalize f.result.args.length = le at *
  generalize f.body.length = l1 at *
  generalize f.params.length = l2 at *
  have HB0 := hide (boxBelow w (.cells #[.string f.name, .slice a2 l2 cap2, .slice a1 l1 cap1, .int .i64 f.result.kind, .int .i64 f.result.n, .string f.result.name, .slice ae le ce] 106))
  have q0 := box7_0 w (.string f.name) (.slice a2 l2 cap2) (.slice a1 l1 cap1) (.int .i64 f.result.kind) (.int .i64 f.result.n) (.string f.result.name) (.slice ae le ce) 106
  have q1 := box7_1 w (.string f.name) (.slice a2 l2 cap2) (.slice a1 l1 cap1) (.int .i64 f.result.kind) (.int .i64 f.result.n) (.string f.result.name) (.slice ae le ce) 106
  have q2 := box7_2 w (.string f.name) (.slice a2 l2 cap2) (.slice a1 l1 cap1) (.int .i64 f.result.kind) (.int .i64 f.result.n) (.string f.result.name) (.slice ae le ce) 106
  have q3 := box7_3 w (.string f.name) (.slice a2 l2 cap2) (.slice a1 l1 cap1) (.int .i64 f.result.kind) (.int .i64 f.result.n) (.string f.result.name) (.slice ae le ce) 106
  have q4 := box7_4 w (.string f.name) (.slice a2 l2 cap2) (.slice a1 l1 cap1) (.int .i64 f.result.kind) (.int .i64 f.result.n) (.string f.result.name) (.slice ae le ce) 106
  have q5 := box7_5 w (.string f.name) (.slice a2 l2 cap2) (.slice a1 l1 cap1) (.int .i64 f.result.kind) (.int .i64 f.result.n) (.string f.result.name) (.slice ae le ce) 106
  have q6 := box7_6 w (.string f.name) (.slice a2 l2 cap2) (.slice a1 l1 cap1) (.int .i64 f.result.kind) (.int .i64 f.result.n) (.string f.result.name) (.slice ae le ce) 106
  by_cases h4 : 4 < l2
  · rw [if_pos h4] at HE
    clear q0 q1 q2 q3 q4 q5 q6
    go_enter Tryz.func108, Tryz.ntmps108
    go_wp2
    go_ret
    exact ⟨ret_int HE.out.symm, HB0.out⟩
  rw [if_neg h4] at HE
  go_enter Tryz.func108, Tryz.ntmps108
  go_wp2_with fail
  refine (isName_any _ f.name hnm).mono ?_
  rintro e w1 ⟨rfl, hw1⟩
  subst hw1
  generalize (w.alloc (.cells #[.string f.name, .slice a2 l2 cap2, .slice a1 l1 cap1, .int .i64 f.result.kind, .int .i64 f.result.n, .string f.result.name, .slice ae le ce] 106)) = W0 at *
  generalize Lat.nameB f.name.data.toList = b1 at *
  cases b1
  · go_wp2
    go_ret
    exact ⟨ret_int (by rw [HE.out]; rfl), HB0.out⟩
  go_wp2_with fail
  refine (areNames_any _ _ f.params (HS.out.below HB0.out).2.1).mono ?_
  rintro e w1 ⟨rfl, hw1⟩
  subst hw1
  generalize (f.params.all fun s => Lat.nameB s.data.toList) = b2 at *
  cases b2
  · go_wp2
    go_ret
    exact ⟨ret_int (by rw [HE.out, Bool.and_false]; rfl), HB0.out⟩
  go_wp2_with fail
  refine (areCommands_any m _ _ f.body (HS.out.below HB0.out).2.2.1).mono ?_
  rintro e w1 ⟨rfl, hb1⟩
  replace q3 := cellUp q3 hb1
  replace q4 := cellUp q4 hb1
  replace q5 := cellUp q5 hb1
  replace q6 := cellUp q6 hb1
  have HB1 := hide (up HB0.out hb1)
  clear hb1 q0 q1 q2 HB0
  generalize Lat.bodyB m f.body = b3 at *
  cases b3
  · go_wp2
    go_ret
    exact ⟨ret_int (by rw [HE.out]; rfl), HB1.out⟩
  go_wp2_with fail
  refine (isExpr_any m _ _ _ _ _ f.result (HS.out.below HB1.out).2.2.2).mono ?_
  rintro e w2 ⟨rfl, hb2⟩
  have HB2 := hide (up HB1.out hb2)
  clear hb2 q3 q4 q5 q6
  generalize Lat.exprB m f.result = b4 at *
  cases b4
  · go_wp2
    go_ret
    exact ⟨ret_int (by rw [HE.out]; rfl), HB2.out⟩
  · go_wp2
    go_ret
    exact ⟨ret_int (by rw [HE.out]; rfl), HB2.out⟩
theorem fuE_ok {m : Nat} {f : Fu} (h : Lat.fuE m f = 0) : Lat.fuOk m f = true := by
  unfold Lat.fuE at h
  split at h
  · cases h
  · split at h
    · assumption
    · cases h
theorem fusE_ok {m : Nat} : ∀ {l : List Fu}, Lat.fusE m l = 0 → ∀ f ∈ l, Lat.fuE m f = 0
  | [], _, f, hf => by cases hf
  | g :: l, h, f, hf => by
    simp only [Lat.fusE] at h
    by_cases hg : Lat.fuE m g = 0
    · rw [if_pos hg] at h
      rcases List.mem_cons.1 hf with rfl | hf
      · exact hg
      · exact fusE_ok h f hf
    · rw [if_neg hg] at h
      exact absurd h hg
theorem funs_deep {w : World} {m : Nat} {v : Value} {l : List Fu} (h : FusAt w m v l) : l ≠ [] → m ≠ 0 := by
  rintro hne rfl
  obtain ⟨a, b, off, cap, _, _, _, hel⟩ := h
  obtain ⟨f, hf⟩ : ∃ f, l[0]? = some f := ⟨_, List.getElem?_eq_getElem (List.length_pos_iff.2 hne)⟩
  obtain ⟨_, vp, vb, e0, e1, e2, e3, _, _, _, _, _, _, _, _, hsb, _⟩ := hel 0 f hf
  exact hsb
set_option maxHeartbeats 4000000 in
set_option maxRecDepth 100000 in
theorem tcheck_any (m : Nat) (w : World) (v : Value) (x : Mo) (h : MoAt w m v x) (hw : moW m x ≤ 1048576) (_ht : Tab w) :
    Calls Tryz.prog 34 #[v] w fun e w' => e = .returned (.int .i64 (Lat.moE m x)) ∧ Below w.heap.size w w' := by
  have HM := hide h
  have HMD := hide (fun W (hW : Hid (Below w.heap.size w W)) => moduleDepth_any m W v x (h.below hW.out) hw)
  obtain ⟨vi, vv, vf, rfl, hnm, hI, hV, hF⟩ := h
  have hmz := funs_deep hF
  have HDP : Hid (Lat.strB x.name = true → x.imports.all Lat.strB = true → x.vars.all Lat.vaB = true → Lat.fusE m x.funs = 0 → Lat.deepB (Lat.moT m x) = decide (20 < Lat.moD m x)) :=
    fun h1 h2 h3 h4 => moT_dpt hmz h1 h2 h3 (fun f hf => fuE_ok (fusE_ok h4 f hf))
  have HE : Hid (Lat.moE m x = if 8 < x.imports.length ∨ 8 < x.vars.length ∨ 8 < x.funs.length then 2 else if ((Lat.strB x.name && x.imports.all Lat.strB) && x.vars.all Lat.vaB) = false then 5
      else if Lat.fusE m x.funs ≠ 0 then Lat.fusE m x.funs else if Lat.deepB (Lat.moT m x) then 2 else 0) := rfl
  have HIN := hide (fun W (hW : Hid (Below w.heap.size w W)) => areNames_any W vi x.imports (hI.below hW.out))
  have HVN := hide (fun W (hW : Hid (Below w.heap.size w W)) => areVars_any W vv x.vars (hV.below hW.out))
  obtain ⟨ai, ci, rfl, hli⟩ := hI.shape
  obtain ⟨av, cv, rfl, hlv⟩ : ∃ a c, vv = .slice a x.vars.length c ∧ x.vars.length ≤ 9223372036854775807 := by
    obtain ⟨a, _, _, c, e, _, e2, _⟩ := hV
    exact ⟨a, c, e, e2⟩
  obtain ⟨a, b, off, cap, rfl, ha, hl, hel⟩ := hF
  have HEL := hide hel
  have HA := hide ha
  clear hI hV hel ha hmz hw
  obtain ⟨l, hfs⟩ : ∃ l, l = x.funs := ⟨_, rfl⟩
  rw [← hfs] at HEL HA hl HE HDP HMD ⊢
  have HFS := hide hfs
  clear hfs
  obtain ⟨len, hlen⟩ : ∃ len, len = l.length := ⟨_, rfl⟩
  have HL := hide hlen
  rw [← hlen] at hl HA HE HMD ⊢
  clear hlen
  generalize x.imports.length = li at *
  generalize x.vars.length = lv at *
  have HB0 := hide (boxBelow w (.cells #[.string x.name, .slice ai li ci, .slice av lv cv, .slice a len cap] 26))
  have q0 := boxM0 w (.string x.name) (.slice ai li ci) (.slice av lv cv) (.slice a len cap) 26
  have q1 := boxM1 w (.string x.name) (.slice ai li ci) (.slice av lv cv) (.slice a len cap) 26
  have q2 := boxM2 w (.string x.name) (.slice ai li ci) (.slice av lv cv) (.slice a len cap) 26
  have q3 := boxM3 w (.string x.name) (.slice ai li ci) (.slice av lv cv) (.slice a len cap) 26
  by_cases hbig : 8 < li ∨ 8 < lv ∨ 8 < len
  · rw [if_pos hbig] at HE
    clear q0 q1 q2 q3
    by_cases b1 : 8 < li
    · clear hbig
      go_enter Tryz.func34, Tryz.ntmps34
      go_wp2
      go_ret
      exact ⟨ret_int HE.out.symm, HB0.out⟩
    · by_cases b2 : 8 < lv
      · clear hbig
        go_enter Tryz.func34, Tryz.ntmps34
        go_wp2
        go_ret
        exact ⟨ret_int HE.out.symm, HB0.out⟩
      · have b3 : 8 < len := by omega
        clear hbig
        go_enter Tryz.func34, Tryz.ntmps34
        go_wp2
        go_ret
        exact ⟨ret_int HE.out.symm, HB0.out⟩
  rw [if_neg hbig] at HE
  have b1 : ¬ 8 < li := by omega
  have b2 : ¬ 8 < lv := by omega
  have b3 : ¬ 8 < len := by omega
  clear hbig
  go_enter Tryz.func34, Tryz.ntmps34
  go_wp2_with fail
  refine (isName_any _ x.name hnm).mono ?_
  rintro e w1 ⟨rfl, hw1⟩
  subst hw1
  generalize (w.alloc (.cells #[.string x.name, .slice ai li ci, .slice av lv cv, .slice a len cap] 26)) = W0 at *
  cases hn : Lat.nameB x.name.data.toList
  · have HN : Hid (Lat.strB x.name = false) := hn
    go_wp2
    go_ret
    exact ⟨ret_int (by rw [HE.out, HN.out]; rfl), HB0.out⟩
  have HN : Hid (Lat.strB x.name = true) := hn
  go_wp2_with fail
  refine (HIN.out _ HB0).mono ?_
  rintro e w1 ⟨rfl, hw1⟩
  subst hw1
  cases hi : (x.imports.all fun s => Lat.nameB s.data.toList)
  · have HI : Hid (x.imports.all Lat.strB = false) := hi
    go_wp2
    go_ret
    exact ⟨ret_int (by rw [HE.out, HN.out, HI.out]; rfl), HB0.out⟩
  have HI : Hid (x.imports.all Lat.strB = true) := hi
  go_wp2_with fail
  refine (HVN.out _ HB0).mono ?_
  rintro e W1 ⟨rfl, hb1⟩
  replace q0 := cellUp q0 hb1
  replace q1 := cellUp q1 hb1
  replace q2 := cellUp q2 hb1
  replace q3 := cellUp q3 hb1
  have HB1 := hide (up HB0.out hb1)
  clear hb1 HB0 hn hi
  cases hv : (x.vars.all fun s => Lat.nameB s.name.data.toList && Lat.nameB s.level.data.toList)
  · have HV : Hid (x.vars.all Lat.vaB = false) := hv
    go_wp2
    go_ret
    exact ⟨ret_int (by rw [HE.out, HN.out, HI.out, HV.out]; rfl), HB1.out⟩
  have HV : Hid (x.vars.all Lat.vaB = true) := hv
  have HE2 : Hid (Lat.moE m x = if Lat.fusE m l ≠ 0 then Lat.fusE m l else if Lat.deepB (Lat.moT m x) then 2 else 0) := hide (by
    rw [HE.out, HN.out, HI.out, HV.out]; rfl)
  clear hv HE
  go_wp2
  go_loopw [41] (fun i wr => ∃ j : Nat, j ≤ len ∧ i = .int .i64 j ∧ (∀ d z, d < j → l[d]? = some z → Lat.fuE m z = 0) ∧ Below W1.heap.size W1 wr) (fun i _ => len - (intOf i).toNat)
  case atStart => exact ⟨0, Nat.zero_le _, rfl, fun d z hd => absurd hd (Nat.not_lt_zero _), Below.refl _ _⟩
  case round =>
    obtain ⟨j, hj, rfl, hall, hnx⟩ := hrel
    have HALL := hide hall
    clear hall
    by_cases hjl : j < len
    · obtain ⟨y, hy⟩ : ∃ y, l[j]? = some y := ⟨_, List.getElem?_eq_getElem (by rw [← HL.out]; exact hjl)⟩
      obtain ⟨k1, vp, vb, e0, e1, e2, e3, g0, g1, g2, g3, g4, g5, g6, hp, hsb, hx⟩ := HEL.out j y hy
      have HY := hide hy
      obtain rfl := HA.out (by omega)
      have hbb := up HB1.out hnx
      have u0 := cellUp g0 hbb
      have u1 := cellUp g1 hbb
      have u2' := cellUp g2 hbb
      have u3' := cellUp g3 hbb
      have u4 := cellUp g4 hbb
      have u5 := cellUp g5 hbb
      have u6 := cellUp g6 hbb
      have HAT : Hid (FuAt wr m vp vb e0 e1 e2 e3 y) := hide ⟨k1, hp.below hbb, hsb.below hbb, hx.below hbb⟩
      obtain ⟨ae, ce, rfl, rfl, rfl, rfl⟩ := hx.shape
      obtain ⟨a1, cap1, rfl, hl1⟩ := hsb.shape
      obtain ⟨a2, cap2, rfl, hl2⟩ := hp.shape
      have HNX := hide hnx
      clear g0 g1 g2 g3 g4 g5 g6 hx hsb hp hy hnx hbb q0 q1 q2 q3
      go_wp2_with fail
      refine (checkFun_any m _ _ _ _ _ _ _ y (HAT.out.below (boxBelow _ _))).mono ?_
      rintro e w5 ⟨rfl, hb5⟩
      have HN5 := hide (up HNX.out (up1 hb5))
      clear hb5 HNX
      obtain ⟨E, hE⟩ : ∃ E, E = Lat.fuE m y := ⟨_, rfl⟩
      have HEY := hide hE
      rw [← hE]
      clear hE
      by_cases h0 : E = 0
      · subst h0
        go_wp2_with fail
        go_roundw
        case rel => exact ⟨j + 1, by omega, by go_num, fun d z hd hz => by
            by_cases e : d = j
            · subst e
              rw [HY.out] at hz
              cases hz
              exact HEY.out.symm
            · exact HALL.out d z (by omega) hz, HN5.out⟩
        case measure => simp [intOf]; omega
      · have h0' := bne_zero_true h0
        have H0 := hide h0
        clear h0
        go_wp2
        go_ret
        exact ⟨ret_int (by rw [HE2.out, fusE_at HALL.out HY.out (by rw [← HEY.out]; exact H0.out), if_pos (by rw [← HEY.out]; exact H0.out)]; exact HEY.out), up HB1.out HN5.out⟩
    · have hf0 : Lat.fusE m l = 0 := fusE_zero (fun d z hz => HALL.out d z (by
        have := (List.getElem?_eq_some_iff.1 hz).1
        have := HL.out
        omega) hz)
      have HD := hide (HDP.out HN.out HI.out HV.out hf0)
      have HE3 : Hid (Lat.moE m x = if 20 < Lat.moD m x then 2 else 0) := hide (by
        rw [HE2.out, hf0, HD.out]; simp)
      have u0 := cellUp q0 hnx
      have u1 := cellUp q1 hnx
      have u2' := cellUp q2 hnx
      have u3' := cellUp q3 hnx
      have HNX := hide (up HB1.out hnx)
      clear hnx q0 q1 q2 q3 hf0
      go_wp2_with fail
      refine (HMD.out _ HNX).mono ?_
      rintro e w6 ⟨rfl, hb6⟩
      have HB6 := hide (up HNX.out hb6)
      clear hb6
      generalize Lat.moD m x = dd at *
      by_cases hd : 20 < dd
      · rw [if_pos hd] at HE3
        have hd' : (dd : Int) > 20 := by omega
        clear hd
        go_wp2
        go_ret
        exact ⟨ret_int HE3.out.symm, HB6.out⟩
      · rw [if_neg hd] at HE3
        have hd' : ¬ ((dd : Int) > 20) := by omega
        clear hd
        go_wp2
        go_ret
        exact ⟨ret_int HE3.out.symm, HB6.out⟩
end Go.Proofs.YtholefgckcoklaaGreatDoor
