/- Walks over package downref: body: may the commands be? -/
import Derived.Test.YtholefgckcoklaaGreatDoorBZAE
namespace Go.Proofs.YtholefgckcoklaaGreatDoor
open Go.RowKit
namespace Lat
def stH (s : St) : Bool :=
  if s.kind = 1 ∨ s.kind = 4 then nameB s.name.data.toList && (s.b.length == 0) && (s.a.length == 0)
  else if s.kind = 2 then s.name.toList.isEmpty
  else if s.kind = 3 then s.name.toList.isEmpty && (s.b.length == 0)
  else false
def bodyB : Nat → List St → Bool
  | 0, _ => false
  | m + 1, l => l.all fun s => stH s && exprB m s.e && bodyB m s.a && bodyB m s.b
def stB (m : Nat) (s : St) : Bool := stH s && exprB m s.e && bodyB m s.a && bodyB m s.b
theorem bodyB_succ (m : Nat) (l : List St) : bodyB (m + 1) l = l.all (stB m) := rfl
end Lat
theorem sts_get? {p : St → Bool} {l : List St} (h : ∀ (i : Nat) (x : St), l[i]? = some x → p x = true) : l.all p = true := by
  rw [List.all_eq_true]; intro x hx
  obtain ⟨i, hi, rfl⟩ := List.mem_iff_getElem.1 hx
  exact h i _ (List.getElem?_eq_getElem hi)
theorem sts_not? {p : St → Bool} {l : List St} {i : Nat} {x : St} (hx : l[i]? = some x) (h : p x = false) : l.all p = false := by
  rw [List.all_eq_false]
  exact ⟨x, List.mem_of_getElem? hx, by simp [h]⟩
theorem ExAt.shape {w : World} {m : Nat} {c0 c1 c2 c3 : Value} {x : Ex} (h : ExAt w m c0 c1 c2 c3 x) : ∃ a cap, c0 = .int .i64 x.kind ∧ c1 = .int .i64 x.n ∧ c2 = .string x.name ∧ c3 = .slice a x.args.length cap := by
  cases m with
  | zero => exact False.elim h
  | succ m =>
    obtain ⟨h0, h1, h2, _, _, _, a, b, off, cap, h3, _⟩ := h
    exact ⟨a, cap, h0, h1, h2, h3⟩
theorem StsAt.shape {w : World} {m : Nat} {v : Value} {l : List St} (h : StsAt w m v l) : ∃ a cap, v = .slice a l.length cap ∧ l.length ≤ 9223372036854775807 := by
  cases m with
  | zero => exact False.elim h
  | succ m =>
    obtain ⟨a, b, off, cap, h3, _, h4, _⟩ := h
    exact ⟨a, cap, h3, h4⟩
theorem boxCells86 (w : World) (c0 c1 c2 c3 c4 c5 c6 c7 : Value) (t : TypeId) : (w.alloc (.cells #[c0, c1, c2, c3, c4, c5, c6, c7] t)).cell? ⟨w.heap.size, 6, none⟩ = some c6 := by simp [go_sem]
theorem boxCells87 (w : World) (c0 c1 c2 c3 c4 c5 c6 c7 : Value) (t : TypeId) : (w.alloc (.cells #[c0, c1, c2, c3, c4, c5, c6, c7] t)).cell? ⟨w.heap.size, 7, none⟩ = some c7 := by simp [go_sem]
set_option maxHeartbeats 4000000 in
set_option maxRecDepth 100000 in
theorem body_any (m : Nat) : ∀ (w : World) (v : Value) (l : List St), StsAt w m v l →
    Calls Tryz.prog 114 #[v] w fun e w' => e = .returned (.bool (Lat.bodyB m l)) ∧ Below w.heap.size w w' := by
  induction m with
  | zero => intro w v l h; exact False.elim h
  | succ m ih =>
    intro w v l h
    have HI := hide ih
    clear ih
    obtain ⟨a, b, off, cap, rfl, ha, hl, hel⟩ := h
    have HEL := hide hel
    have HA := hide ha
    have HR := hide (Lat.bodyB_succ m l)
    clear hel ha
    obtain ⟨len, hlen⟩ : ∃ len, len = l.length := ⟨_, rfl⟩
    have HL := hide hlen
    rw [← hlen] at hl HA ⊢
    clear hlen
    go_enter Tryz.func114, Tryz.ntmps114
    go_wp2_with fail
    go_loopw [3] (fun i wr => ∃ j : Nat, j ≤ len ∧ i = .int .i64 j ∧ (∀ d y, d < j → l[d]? = some y → Lat.stB m y = true) ∧ Below w.heap.size w wr) (fun i _ => len - (intOf i).toNat)
    case atStart => exact ⟨0, Nat.zero_le _, rfl, fun d y hd => absurd hd (Nat.not_lt_zero _), Below.refl _ _⟩
    case round =>
      obtain ⟨j, hj, rfl, hall, hnx⟩ := hrel
      have HALL := hide hall
      clear hall
      by_cases hjl : j < len
      · obtain ⟨y, hy⟩ : ∃ y, l[j]? = some y := ⟨_, List.getElem?_eq_getElem (by rw [← HL.out]; exact hjl)⟩
        obtain ⟨hsk, hsn, e0, e1, e2, e3, va, vb, g0, g1, g2, g3, g4, g5, g6, g7, hxe, hsa, hsb⟩ := HEL.out j y hy
        obtain rfl := HA.out (by omega)
        obtain ⟨k, sn, se, sa, sb⟩ := y
        simp only at hsk hsn g0 g1 hxe hsa hsb
        have HY := hide hy
        have HX := hide hxe
        have HSA := hide hsa
        have HSB := hide hsb
        obtain ⟨xa, xc, h0, h1, h2, h3⟩ := hxe.shape
        obtain ⟨aa, ac, h4, hla0⟩ := hsa.shape
        obtain ⟨ba, bc, h5, hlb0⟩ := hsb.shape
        have HBAD : Hid (Lat.stB m ⟨k, sn, se, sa, sb⟩ = false → Lat.bodyB (m + 1) l = false) := hide (fun h => by rw [HR.out]; exact sts_not? hy h)
        subst h0 h1 h2 h3 h4 h5
        obtain ⟨la, hla⟩ : ∃ la, la = sa.length := ⟨_, rfl⟩
        obtain ⟨lb, hlb⟩ : ∃ lb, lb = sb.length := ⟨_, rfl⟩
        have HLA := hide hla
        have HLB := hide hlb
        rw [← hla] at hla0 g6 HSA
        rw [← hlb] at hlb0 g7 HSB
        clear hxe hsa hsb hy hla hlb
        have u0 := cellUp g0 hnx
        have u1 := cellUp g1 hnx
        have u2' := cellUp g2 hnx
        have u3' := cellUp g3 hnx
        have u4' := cellUp g4 hnx
        have u5' := cellUp g5 hnx
        have u6' := cellUp g6 hnx
        have u7' := cellUp g7 hnx
        have HNX := hide hnx
        have q6 := boxCells86 wr (.int .i64 k) (.string sn) (.int .i64 se.kind) (.int .i64 se.n) (.string se.name) (.slice xa se.args.length xc) (.slice aa la ac) (.slice ba lb bc) 119
        have q7 := boxCells87 wr (.int .i64 k) (.string sn) (.int .i64 se.kind) (.int .i64 se.n) (.string se.name) (.slice xa se.args.length xc) (.slice aa la ac) (.slice ba lb bc) 119
        clear g0 g1 g2 g3 g4 g5 g6 g7 hnx
        by_cases hk1 : k = 1
        · subst hk1
          go_wp2_with fail
          refine (in_any _ _ _ _).mono ?_
          rintro e w' ⟨rfl, hw⟩
          subst hw
          rw [show (decide ((1 : Int) ≤ 1) && decide ((1 : Int) ≤ 4)) = true from rfl]
          go_wp2_with fail
          refine (name_any _ sn hsn).mono ?_
          rintro e w' ⟨rfl, hw⟩
          subst hw
          cases hnm : Lat.nameB sn.data.toList
          · have HH : Hid (Lat.stH ⟨1, sn, se, sa, sb⟩ = false) := hide (by simp [Lat.stH, hnm])
            go_wp2_with fail
            go_ret
            exact ⟨ret_bool (by rw [HBAD.out (by unfold Lat.stB; rw [HH.out]; rfl)]), up HNX.out (boxBelow _ _)⟩
          · by_cases hlb : lb = 0
            · subst hlb
              by_cases hla : la = 0
              · subst hla
                have HH : Hid (Lat.stH ⟨1, sn, se, sa, sb⟩ = true) := hide (by simp [Lat.stH, hnm, ← HLA.out, ← HLB.out])
                clear hnm
                go_wp2_with fail
                refine (expr_any m _ _ _ _ _ se (HX.out.below (up HNX.out (boxBelow _ _)))).mono ?_
                rintro e w5 ⟨rfl, hb5⟩
                replace q6 := cellUp q6 hb5
                replace q7 := cellUp q7 hb5
                have HN5 := hide (up (up HNX.out (boxBelow _ _)) hb5)
                clear hb5
                cases hxb : Lat.exprB m se
                · have HXB := hide hxb
                  go_wp2_with fail
                  go_ret
                  exact ⟨ret_bool (by rw [HBAD.out (by unfold Lat.stB; rw [HXB.out]; simp)]), HN5.out⟩
                · have HXB := hide hxb
                  go_wp2_with fail
                  refine (HI.out _ _ sa (HSA.out.below HN5.out)).mono ?_
                  rintro e w6 ⟨rfl, hb6⟩
                  replace q7 := cellUp q7 hb6
                  have HN6 := hide (up HN5.out hb6)
                  clear hb6 HN5 q6
                  cases hab : Lat.bodyB m sa
                  · have HAB := hide hab
                    go_wp2_with fail
                    go_ret
                    exact ⟨ret_bool (by rw [HBAD.out (by unfold Lat.stB; rw [HAB.out]; simp)]), HN6.out⟩
                  · have HAB := hide hab
                    go_wp2_with fail
                    refine (HI.out _ _ sb (HSB.out.below HN6.out)).mono ?_
                    rintro e w7 ⟨rfl, hb7⟩
                    have HN7 := hide (up HN6.out hb7)
                    clear hb7 HN6 q7
                    cases hbb : Lat.bodyB m sb
                    · have HBB := hide hbb
                      go_wp2_with fail
                      go_ret
                      exact ⟨ret_bool (by rw [HBAD.out (by unfold Lat.stB; rw [HBB.out]; simp)]), HN7.out⟩
                    · have HBB := hide hbb
                      have HG := hide (show Lat.stB m ⟨1, sn, se, sa, sb⟩ = true by unfold Lat.stB; rw [HH.out, HXB.out, HAB.out, HBB.out]; rfl)
                      go_wp2_with fail
                      go_roundw
                      case rel => exact ⟨j + 1, by omega, by go_num, fun d z hd hz => by
                          by_cases e : d = j
                          · subst e
                            rw [HY.out] at hz
                            cases hz
                            exact HG.out
                          · exact HALL.out d z (by omega) hz, HN7.out⟩
                      case measure => simp [intOf]; omega
              · have hla' : (0 : Int) < (la : Int) := by omega
                have HH : Hid (Lat.stH ⟨1, sn, se, sa, sb⟩ = false) := hide (by simp [Lat.stH, ← HLA.out, hla])
                clear hnm hla
                go_wp2_with fail
                go_ret
                exact ⟨ret_bool (by rw [HBAD.out (by unfold Lat.stB; rw [HH.out]; rfl)]), up HNX.out (boxBelow _ _)⟩
            · have hlb' : (0 : Int) < (lb : Int) := by omega
              have HH : Hid (Lat.stH ⟨1, sn, se, sa, sb⟩ = false) := hide (by simp [Lat.stH, ← HLB.out, hlb])
              clear hnm hlb
              go_wp2_with fail
              go_ret
              exact ⟨ret_bool (by rw [HBAD.out (by unfold Lat.stB; rw [HH.out]; rfl)]), up HNX.out (boxBelow _ _)⟩
        by_cases hk4 : k = 4
        · subst hk4
          go_wp2_with fail
          refine (in_any _ _ _ _).mono ?_
          rintro e w' ⟨rfl, hw⟩
          subst hw
          rw [show (decide ((1 : Int) ≤ 4) && decide ((4 : Int) ≤ 4)) = true from rfl]
          go_wp2_with fail
          refine (name_any _ sn hsn).mono ?_
          rintro e w' ⟨rfl, hw⟩
          subst hw
          cases hnm : Lat.nameB sn.data.toList
          · have HH : Hid (Lat.stH ⟨4, sn, se, sa, sb⟩ = false) := hide (by simp [Lat.stH, hnm])
            go_wp2_with fail
            go_ret
            exact ⟨ret_bool (by rw [HBAD.out (by unfold Lat.stB; rw [HH.out]; rfl)]), up HNX.out (boxBelow _ _)⟩
          · by_cases hlb : lb = 0
            · subst hlb
              by_cases hla : la = 0
              · subst hla
                have HH : Hid (Lat.stH ⟨4, sn, se, sa, sb⟩ = true) := hide (by simp [Lat.stH, hnm, ← HLA.out, ← HLB.out])
                clear hnm
                go_wp2_with fail
                refine (expr_any m _ _ _ _ _ se (HX.out.below (up HNX.out (boxBelow _ _)))).mono ?_
                rintro e w5 ⟨rfl, hb5⟩
                replace q6 := cellUp q6 hb5
                replace q7 := cellUp q7 hb5
                have HN5 := hide (up (up HNX.out (boxBelow _ _)) hb5)
                clear hb5
                cases hxb : Lat.exprB m se
                · have HXB := hide hxb
                  go_wp2_with fail
                  go_ret
                  exact ⟨ret_bool (by rw [HBAD.out (by unfold Lat.stB; rw [HXB.out]; simp)]), HN5.out⟩
                · have HXB := hide hxb
                  go_wp2_with fail
                  refine (HI.out _ _ sa (HSA.out.below HN5.out)).mono ?_
                  rintro e w6 ⟨rfl, hb6⟩
                  replace q7 := cellUp q7 hb6
                  have HN6 := hide (up HN5.out hb6)
                  clear hb6 HN5 q6
                  cases hab : Lat.bodyB m sa
                  · have HAB := hide hab
                    go_wp2_with fail
                    go_ret
                    exact ⟨ret_bool (by rw [HBAD.out (by unfold Lat.stB; rw [HAB.out]; simp)]), HN6.out⟩
                  · have HAB := hide hab
                    go_wp2_with fail
                    refine (HI.out _ _ sb (HSB.out.below HN6.out)).mono ?_
                    rintro e w7 ⟨rfl, hb7⟩
                    have HN7 := hide (up HN6.out hb7)
                    clear hb7 HN6 q7
                    cases hbb : Lat.bodyB m sb
                    · have HBB := hide hbb
                      go_wp2_with fail
                      go_ret
                      exact ⟨ret_bool (by rw [HBAD.out (by unfold Lat.stB; rw [HBB.out]; simp)]), HN7.out⟩
                    · have HBB := hide hbb
                      have HG := hide (show Lat.stB m ⟨4, sn, se, sa, sb⟩ = true by unfold Lat.stB; rw [HH.out, HXB.out, HAB.out, HBB.out]; rfl)
                      go_wp2_with fail
                      go_roundw
                      case rel => exact ⟨j + 1, by omega, by go_num, fun d z hd hz => by
                          by_cases e : d = j
                          · subst e
                            rw [HY.out] at hz
                            cases hz
                            exact HG.out
                          · exact HALL.out d z (by omega) hz, HN7.out⟩
                      case measure => simp [intOf]; omega
              · have hla' : (0 : Int) < (la : Int) := by omega
                have HH : Hid (Lat.stH ⟨4, sn, se, sa, sb⟩ = false) := hide (by simp [Lat.stH, ← HLA.out, hla])
                clear hnm hla
                go_wp2_with fail
                go_ret
                exact ⟨ret_bool (by rw [HBAD.out (by unfold Lat.stB; rw [HH.out]; rfl)]), up HNX.out (boxBelow _ _)⟩
            · have hlb' : (0 : Int) < (lb : Int) := by omega
              have HH : Hid (Lat.stH ⟨4, sn, se, sa, sb⟩ = false) := hide (by simp [Lat.stH, ← HLB.out, hlb])
              clear hnm hlb
              go_wp2_with fail
              go_ret
              exact ⟨ret_bool (by rw [HBAD.out (by unfold Lat.stB; rw [HH.out]; rfl)]), up HNX.out (boxBelow _ _)⟩
        by_cases hk2 : k = 2
        · subst hk2
          go_wp2_with fail
          refine (in_any _ _ _ _).mono ?_
          rintro e w' ⟨rfl, hw⟩
          subst hw
          rw [show (decide ((1 : Int) ≤ 2) && decide ((2 : Int) ≤ 4)) = true from rfl]
          cases hne : sn.toList.isEmpty
          · have HH : Hid (Lat.stH ⟨2, sn, se, sa, sb⟩ = false) := hide (by simp [Lat.stH, hne])
            go_wp2_with fail
            go_ret
            exact ⟨ret_bool (by rw [HBAD.out (by unfold Lat.stB; rw [HH.out]; rfl)]), up HNX.out (boxBelow _ _)⟩
          · have HH : Hid (Lat.stH ⟨2, sn, se, sa, sb⟩ = true) := hide (by simp [Lat.stH, hne])
            go_wp2_with fail
            refine (expr_any m _ _ _ _ _ se (HX.out.below (up HNX.out (boxBelow _ _)))).mono ?_
            rintro e w5 ⟨rfl, hb5⟩
            replace q6 := cellUp q6 hb5
            replace q7 := cellUp q7 hb5
            have HN5 := hide (up (up HNX.out (boxBelow _ _)) hb5)
            clear hb5
            cases hxb : Lat.exprB m se
            · have HXB := hide hxb
              go_wp2_with fail
              go_ret
              exact ⟨ret_bool (by rw [HBAD.out (by unfold Lat.stB; rw [HXB.out]; simp)]), HN5.out⟩
            · have HXB := hide hxb
              go_wp2_with fail
              refine (HI.out _ _ sa (HSA.out.below HN5.out)).mono ?_
              rintro e w6 ⟨rfl, hb6⟩
              replace q7 := cellUp q7 hb6
              have HN6 := hide (up HN5.out hb6)
              clear hb6 HN5 q6
              cases hab : Lat.bodyB m sa
              · have HAB := hide hab
                go_wp2_with fail
                go_ret
                exact ⟨ret_bool (by rw [HBAD.out (by unfold Lat.stB; rw [HAB.out]; simp)]), HN6.out⟩
              · have HAB := hide hab
                go_wp2_with fail
                refine (HI.out _ _ sb (HSB.out.below HN6.out)).mono ?_
                rintro e w7 ⟨rfl, hb7⟩
                have HN7 := hide (up HN6.out hb7)
                clear hb7 HN6 q7
                cases hbb : Lat.bodyB m sb
                · have HBB := hide hbb
                  go_wp2_with fail
                  go_ret
                  exact ⟨ret_bool (by rw [HBAD.out (by unfold Lat.stB; rw [HBB.out]; simp)]), HN7.out⟩
                · have HBB := hide hbb
                  have HG := hide (show Lat.stB m ⟨2, sn, se, sa, sb⟩ = true by unfold Lat.stB; rw [HH.out, HXB.out, HAB.out, HBB.out]; rfl)
                  go_wp2_with fail
                  go_roundw
                  case rel => exact ⟨j + 1, by omega, by go_num, fun d z hd hz => by
                      by_cases e : d = j
                      · subst e
                        rw [HY.out] at hz
                        cases hz
                        exact HG.out
                      · exact HALL.out d z (by omega) hz, HN7.out⟩
                  case measure => simp [intOf]; omega
        by_cases hk3 : k = 3
        · subst hk3
          go_wp2_with fail
          refine (in_any _ _ _ _).mono ?_
          rintro e w' ⟨rfl, hw⟩
          subst hw
          rw [show (decide ((1 : Int) ≤ 3) && decide ((3 : Int) ≤ 4)) = true from rfl]
          cases hne : sn.toList.isEmpty
          · have HH : Hid (Lat.stH ⟨3, sn, se, sa, sb⟩ = false) := hide (by simp [Lat.stH, hne])
            go_wp2_with fail
            go_ret
            exact ⟨ret_bool (by rw [HBAD.out (by unfold Lat.stB; rw [HH.out]; rfl)]), up HNX.out (boxBelow _ _)⟩
          · by_cases hlb : lb = 0
            · subst hlb
              have HH : Hid (Lat.stH ⟨3, sn, se, sa, sb⟩ = true) := hide (by simp [Lat.stH, hne, ← HLB.out])
              go_wp2_with fail
              refine (expr_any m _ _ _ _ _ se (HX.out.below (up HNX.out (boxBelow _ _)))).mono ?_
              rintro e w5 ⟨rfl, hb5⟩
              replace q6 := cellUp q6 hb5
              replace q7 := cellUp q7 hb5
              have HN5 := hide (up (up HNX.out (boxBelow _ _)) hb5)
              clear hb5
              cases hxb : Lat.exprB m se
              · have HXB := hide hxb
                go_wp2_with fail
                go_ret
                exact ⟨ret_bool (by rw [HBAD.out (by unfold Lat.stB; rw [HXB.out]; simp)]), HN5.out⟩
              · have HXB := hide hxb
                go_wp2_with fail
                refine (HI.out _ _ sa (HSA.out.below HN5.out)).mono ?_
                rintro e w6 ⟨rfl, hb6⟩
                replace q7 := cellUp q7 hb6
                have HN6 := hide (up HN5.out hb6)
                clear hb6 HN5 q6
                cases hab : Lat.bodyB m sa
                · have HAB := hide hab
                  go_wp2_with fail
                  go_ret
                  exact ⟨ret_bool (by rw [HBAD.out (by unfold Lat.stB; rw [HAB.out]; simp)]), HN6.out⟩
                · have HAB := hide hab
                  go_wp2_with fail
                  refine (HI.out _ _ sb (HSB.out.below HN6.out)).mono ?_
                  rintro e w7 ⟨rfl, hb7⟩
                  have HN7 := hide (up HN6.out hb7)
                  clear hb7 HN6 q7
                  cases hbb : Lat.bodyB m sb
                  · have HBB := hide hbb
                    go_wp2_with fail
                    go_ret
                    exact ⟨ret_bool (by rw [HBAD.out (by unfold Lat.stB; rw [HBB.out]; simp)]), HN7.out⟩
                  · have HBB := hide hbb
                    have HG := hide (show Lat.stB m ⟨3, sn, se, sa, sb⟩ = true by unfold Lat.stB; rw [HH.out, HXB.out, HAB.out, HBB.out]; rfl)
                    go_wp2_with fail
                    go_roundw
                    case rel => exact ⟨j + 1, by omega, by go_num, fun d z hd hz => by
                        by_cases e : d = j
                        · subst e
                          rw [HY.out] at hz
                          cases hz
                          exact HG.out
                        · exact HALL.out d z (by omega) hz, HN7.out⟩
                    case measure => simp [intOf]; omega
            · have hlb' : (0 : Int) < (lb : Int) := by omega
              have HH : Hid (Lat.stH ⟨3, sn, se, sa, sb⟩ = false) := hide (by simp [Lat.stH, ← HLB.out, hlb])
              clear hlb
              go_wp2_with fail
              go_ret
              exact ⟨ret_bool (by rw [HBAD.out (by unfold Lat.stB; rw [HH.out]; rfl)]), up HNX.out (boxBelow _ _)⟩
        have hk1' : (k == 1) = false := by simp; omega
        have hk4' : (k == 4) = false := by simp; omega
        have HH : Hid (Lat.stH ⟨k, sn, se, sa, sb⟩ = false) := hide (by
          unfold Lat.stH
          rw [if_neg (by simp only; omega), if_neg (by simp only; omega), if_neg (by simp only; omega)])
        have hin : (decide (1 ≤ k) && decide (k ≤ 4)) = false := by
          rw [Bool.and_eq_false_iff]; simp; omega
        go_wp2_with fail
        refine (in_any _ _ _ _).mono ?_
        rintro e w' ⟨rfl, hw⟩
        subst hw
        rw [hin]
        go_wp2_with fail
        go_ret
        exact ⟨ret_bool (by rw [HBAD.out (by unfold Lat.stB; rw [HH.out]; rfl)]), up HNX.out (boxBelow _ _)⟩
      · go_wp2_with fail
        go_ret
        exact ⟨ret_bool (by rw [HR.out, sts_get? (fun d z hz => HALL.out d z (by
          have := (List.getElem?_eq_some_iff.1 hz).1
          have := HL.out
          omega) hz)]), hnx⟩
end Go.Proofs.YtholefgckcoklaaGreatDoor
