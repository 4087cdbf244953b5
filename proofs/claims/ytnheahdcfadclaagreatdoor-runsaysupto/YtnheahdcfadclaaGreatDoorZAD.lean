/- Walks over package downref: body: may the commands be? -/
import Derived.Test.YtnheahdcfadclaaGreatDoorZAC
import Derived.Test.YtnheahdcfadclaaGreatDoorZAA
namespace Go.Proofs.YtnheahdcfadclaaGreatDoor
open Go.RowKit

namespace Lat
/-- What is asked of a command by itself. -/
def stH (s : St) : Bool :=
  if s.kind = 1 ∨ s.kind = 4 then nameB s.name.data.toList && (s.b.length == 0) && (s.a.length == 0)
  else if s.kind = 2 then s.name.toList.isEmpty
  else if s.kind = 3 then s.name.toList.isEmpty && (s.b.length == 0)
  else false
def bodyB : Nat → List St → Bool
  | 0, _ => false
  | m + 1, l => l.all fun s => stH s && exprB m s.e && bodyB m s.a && bodyB m s.b
def stB (m : Nat) (s : St) : Bool := stH s && exprB m s.e && bodyB m s.a && bodyB m s.b
theorem bodyB_succ (m : Nat) (l : List St) : bodyB (m + 1) l = l.all (stB m) := rfl
end Lat

theorem sts_get? {p : St → Bool} {l : List St} (h : ∀ (i : Nat) (x : St), l[i]? = some x → p x = true) : l.all p = true := by
  rw [List.all_eq_true]; intro x hx
  obtain ⟨i, hi, rfl⟩ := List.mem_iff_getElem.1 hx
  exact h i _ (List.getElem?_eq_getElem hi)
theorem sts_not? {p : St → Bool} {l : List St} {i : Nat} {x : St} (hx : l[i]? = some x) (h : p x = false) : l.all p = false := by
  rw [List.all_eq_false]
  exact ⟨x, List.mem_of_getElem? hx, by simp [h]⟩
theorem ExAt.shape {w : World} {m : Nat} {c0 c1 c2 c3 : Value} {x : Ex} (h : ExAt w m c0 c1 c2 c3 x) : ∃ a cap, c0 = .int .i64 x.kind ∧ c1 = .int .i64 x.n ∧ c2 = .string x.name ∧ c3 = .slice a x.args.length cap := by
  cases m with
  | zero => exact False.elim h
  | succ m =>
    obtain ⟨h0, h1, h2, _, _, _, a, b, off, cap, h3, _⟩ := h
    exact ⟨a, cap, h0, h1, h2, h3⟩
theorem StsAt.shape {w : World} {m : Nat} {v : Value} {l : List St} (h : StsAt w m v l) : ∃ a cap, v = .slice a l.length cap ∧ l.length ≤ 9223372036854775807 := by
  cases m with
  | zero => exact False.elim h
  | succ m =>
    obtain ⟨a, b, off, cap, h3, _, h4, _⟩ := h
    exact ⟨a, cap, h3, h4⟩
theorem boxCells86 (w : World) (c0 c1 c2 c3 c4 c5 c6 c7 : Value) (t : TypeId) : (w.alloc (.cells #[c0, c1, c2, c3, c4, c5, c6, c7] t)).cell? ⟨w.heap.size, 6, none⟩ = some c6 := by simp [go_sem]
theorem boxCells87 (w : World) (c0 c1 c2 c3 c4 c5 c6 c7 : Value) (t : TypeId) : (w.alloc (.cells #[c0, c1, c2, c3, c4, c5, c6, c7] t)).cell? ⟨w.heap.size, 7, none⟩ = some c7 := by simp [go_sem]

set_option maxHeartbeats 4000000 in
set_option maxRecDepth 100000 in
theorem body_any (m : Nat) : ∀ (w : World) (v : Value) (l : List St), StsAt w m v l →
    Calls Tryz.prog 107 #[v] w fun e w' => e = .returned (.bool (Lat.bodyB m l)) ∧ Below w.heap.size w w' := by
  induction m with
  | zero => intro w v l h; exact False.elim h
  | succ m ih =>
    intro w v l h
    have HI := hide ih
    clear ih
    obtain ⟨a, b, off, cap, rfl, ha, hl, hel⟩ := h
    have HEL := hide hel
    have HA := hide ha
    have HR := hide (Lat.bodyB_succ m l)
    clear hel ha
    obtain ⟨len, hlen⟩ : ∃ len, len = l.length := ⟨_, rfl⟩
    have HL := hide hlen
    rw [← hlen] at hl HA ⊢
    clear hlen
    go_enter Tryz.func107, Tryz.ntmps107
    go_wp2_with fail
    go_loopw [3] (fun i wr => ∃ j : Nat, j ≤ len ∧ i = .int .i64 j ∧ (∀ d y, d < j → l[d]? = some y → Lat.stB m y = true) ∧ Below w.heap.size w wr) (fun i _ => len - (intOf i).toNat)
    case atStart => exact ⟨0, Nat.zero_le _, rfl, fun d y hd => absurd hd (Nat.not_lt_zero _), Below.refl _ _⟩
    case round =>
      obtain ⟨j, hj, rfl, hall, hnx⟩ := hrel
      have HALL := hide hall
      clear hall
      by_cases hjl : j < len
      · obtain ⟨y, hy⟩ : ∃ y, l[j]? = some y := ⟨_, List.getElem?_eq_getElem (by rw [← HL.out]; exact hjl)⟩
        obtain ⟨hsk, hsn, e0, e1, e2, e3, va, vb, g0, g1, g2, g3, g4, g5, g6, g7, hxe, hsa, hsb⟩ := HEL.out j y hy
        obtain rfl := HA.out (by omega)
        obtain ⟨k, sn, se, sa, sb⟩ := y
        simp only at hsk hsn g0 g1 hxe hsa hsb
        have HY := hide hy
        have HX := hide hxe
        have HSA := hide hsa
        have HSB := hide hsb
        obtain ⟨xa, xc, h0, h1, h2, h3⟩ := hxe.shape
        obtain ⟨aa, ac, h4, hla0⟩ := hsa.shape
        obtain ⟨ba, bc, h5, hlb0⟩ := hsb.shape
        have HBAD : Hid (Lat.stB m ⟨k, sn, se, sa, sb⟩ = false → Lat.bodyB (m + 1) l = false) := hide (fun h => by rw [HR.out]; exact sts_not? hy h)
        subst h0 h1 h2 h3 h4 h5
        obtain ⟨la, hla⟩ : ∃ la, la = sa.length := ⟨_, rfl⟩
        obtain ⟨lb, hlb⟩ : ∃ lb, lb = sb.length := ⟨_, rfl⟩
        have HLA := hide hla
        have HLB := hide hlb
        rw [← hla] at hla0 g6 HSA
        rw [← hlb] at hlb0 g7 HSB
        clear hxe hsa hsb hy hla hlb
        have u0 := cellUp g0 hnx
        have u1 := cellUp g1 hnx
        have u2' := cellUp g2 hnx
        have u3' := cellUp g3 hnx
        have u4' := cellUp g4 hnx
        have u5' := cellUp g5 hnx
        have u6' := cellUp g6 hnx
        have u7' := cellUp g7 hnx
        have HNX := hide hnx
        have q6 := boxCells86 wr (.int .i64 k) (.string sn) (.int .i64 se.kind) (.int .i64 se.n) (.string se.name) (.slice xa se.args.length xc) (.slice aa la ac) (.slice ba lb bc) 115
        have q7 := boxCells87 wr (.int .i64 k) (.string sn) (.int .i64 se.kind) (.int .i64 se.n) (.string se.name) (.slice xa se.args.length xc) (.slice aa la ac) (.slice ba lb bc) 115
        clear g0 g1 g2 g3 g4 g5 g6 g7 hnx
        by_cases hk1 : k = 1
        · subst hk1
          go_wp2_with fail
          refine (in_any _ _ _ _).mono ?_
          rintro e w' ⟨rfl, hw⟩
          subst hw
          rw [show (decide ((1 : Int) ≤ 1) && decide ((1 : Int) ≤ 4)) = true from rfl]
          go_wp2_with fail
          refine (name_any _ sn hsn).mono ?_
          rintro e w' ⟨rfl, hw⟩
          subst hw
          cases hnm : Lat.nameB sn.data.toList
          · have HH : Hid (Lat.stH ⟨1, sn, se, sa, sb⟩ = false) := hide (by simp [Lat.stH, hnm])
            go_wp2_with fail
            go_ret
            exact ⟨ret_bool (by rw [HBAD.out (by unfold Lat.stB; rw [HH.out]; rfl)]), up HNX.out (boxBelow _ _)⟩
          · by_cases hlb : lb = 0
            · subst hlb
              by_cases hla : la = 0
              · subst hla
                have HH : Hid (Lat.stH ⟨1, sn, se, sa, sb⟩ = true) := hide (by simp [Lat.stH, hnm, ← HLA.out, ← HLB.out])
                clear hnm
                go_wp2_with fail
                refine (expr_any m _ _ _ _ _ se (HX.out.below (up HNX.out (boxBelow _ _)))).mono ?_
                rintro e w5 ⟨rfl, hb5⟩
                replace q6 := cellUp q6 hb5
                replace q7 := cellUp q7 hb5
                have HN5 := hide (up (up HNX.out (boxBelow _ _)) hb5)
                clear hb5
                cases hxb : Lat.exprB m se
                · have HXB := hide hxb
                  go_wp2_with fail
                  go_ret
                  exact ⟨ret_bool (by rw [HBAD.out (by unfold Lat.stB; rw [HXB.out]; simp)]), HN5.out⟩
                · have HXB := hide hxb
                  go_wp2_with fail
                  refine (HI.out _ _ sa (HSA.out.below HN5.out)).mono ?_
                  rintro e w6 ⟨rfl, hb6⟩
                  replace q7 := cellUp q7 hb6
                  have HN6 := hide (up HN5.out hb6)
                  clear hb6 HN5 q6
                  cases hab : Lat.bodyB m sa
                  · have HAB := hide hab
                    go_wp2_with fail
                    go_ret
                    exact ⟨ret_bool (by rw [HBAD.out (by unfold Lat.stB; rw [HAB.out]; simp)]), HN6.out⟩
                  · have HAB := hide hab
                    go_wp2_with fail
                    refine (HI.out _ _ sb (HSB.out.below HN6.out)).mono ?_
                    rintro e w7 ⟨rfl, hb7⟩
                    have HN7 := hide (up HN6.out hb7)
                    clear hb7 HN6 q7
                    cases hbb : Lat.bodyB m sb
                    · have HBB := hide hbb
                      go_wp2_with fail
                      go_ret
                      exact ⟨ret_bool (by rw [HBAD.out (by unfold Lat.stB; rw [HBB.out]; simp)]), HN7.out⟩
                    · have HBB := hide hbb
                      have HG := hide (show Lat.stB m ⟨1, sn, se, sa, sb⟩ = true by unfold Lat.stB; rw [HH.out, HXB.out, HAB.out, HBB.out]; rfl)
                      go_wp2_with fail
                      go_roundw
                      case rel => exact ⟨j + 1, by omega, by go_num, fun d z hd hz => by
                          by_cases e : d = j
                          · subst e
                            rw [HY.out] at hz
                            cases hz
                            exact HG.out
                          · exact HALL.out d z (by omega) hz, HN7.out⟩
                      case measure => simp [intOf]; omega
              · have hla' : (0 : Int) < (la : Int) := by omega
                have HH : Hid (Lat.stH ⟨1, sn, se, sa, sb⟩ = false) := hide (by simp [Lat.stH, ← HLA.out, hla])
                clear hnm hla
                go_wp2_with fail
                go_ret
                exact ⟨ret_bool (by rw [HBAD.out (by unfold Lat.stB; rw [HH.out]; rfl)]), up HNX.out (boxBelow _ _)⟩
            · have hlb' : (0 : Int) < (lb : Int) := by omega
              have HH : Hid (Lat.stH ⟨1, sn, se, sa, sb⟩ = false) := hide (by simp [Lat.stH, ← HLB.out, hlb])
              clear hnm hlb
              go_wp2_with fail
              go_ret
              exact ⟨ret_bool (by rw [HBAD.out (by unfold Lat.stB; rw [HH.out]; rfl)]), up HNX.out (boxBelow _ _)⟩
        by_cases hk4 : k = 4
        · subst hk4
          go_wp2_with fail
          refine (in_any _ _ _ _).mono ?_
          rintro e w' ⟨rfl, hw⟩
          subst hw
          rw [show (decide ((1 : Int) ≤ 4) && decide ((4 : Int) ≤ 4)) = true from rfl]
          go_wp2_with fail
          refine (name_any _ sn hsn).mono ?_
          rintro e w' ⟨rfl, hw⟩
          subst hw
          cases hnm : Lat.nameB sn.data.toList
          · have HH : Hid (Lat.stH ⟨4, sn, se, sa, sb⟩ = false) := hide (by simp [Lat.stH, hnm])
            go_wp2_with fail
            go_ret
            exact ⟨ret_bool (by rw [HBAD.out (by unfold Lat.stB; rw [HH.out]; rfl)]), up HNX.out (boxBelow _ _)⟩
          · by_cases hlb : lb = 0
            · subst hlb
              by_cases hla : la = 0
              · subst hla
                have HH : Hid (Lat.stH ⟨4, sn, se, sa, sb⟩ = true) := hide (by simp [Lat.stH, hnm, ← HLA.out, ← HLB.out])
                clear hnm
                go_wp2_with fail
                refine (expr_any m _ _ _ _ _ se (HX.out.below (up HNX.out (boxBelow _ _)))).mono ?_
                rintro e w5 ⟨rfl, hb5⟩
                replace q6 := cellUp q6 hb5
                replace q7 := cellUp q7 hb5
                have HN5 := hide (up (up HNX.out (boxBelow _ _)) hb5)
                clear hb5
                cases hxb : Lat.exprB m se
                · have HXB := hide hxb
                  go_wp2_with fail
                  go_ret
                  exact ⟨ret_bool (by rw [HBAD.out (by unfold Lat.stB; rw [HXB.out]; simp)]), HN5.out⟩
                · have HXB := hide hxb
                  go_wp2_with fail
                  refine (HI.out _ _ sa (HSA.out.below HN5.out)).mono ?_
                  rintro e w6 ⟨rfl, hb6⟩
                  replace q7 := cellUp q7 hb6
                  have HN6 := hide (up HN5.out hb6)
                  clear hb6 HN5 q6
                  cases hab : Lat.bodyB m sa
                  · have HAB := hide hab
                    go_wp2_with fail
                    go_ret
                    exact ⟨ret_bool (by rw [HBAD.out (by unfold Lat.stB; rw [HAB.out]; simp)]), HN6.out⟩
                  · have HAB := hide hab
                    go_wp2_with fail
                    refine (HI.out _ _ sb (HSB.out.below HN6.out)).mono ?_
                    rintro e w7 ⟨rfl, hb7⟩
                    have HN7 := hide (up HN6.out hb7)
                    clear hb7 HN6 q7
                    cases hbb : Lat.bodyB m sb
                    · have HBB := hide hbb
                      go_wp2_with fail
                      go_ret
                      exact ⟨ret_bool (by rw [HBAD.out (by unfold Lat.stB; rw [HBB.out]; simp)]), HN7.out⟩
                    · have HBB := hide hbb
                      have HG := hide (show Lat.stB m ⟨4, sn, se, sa, sb⟩ = true by unfold Lat.stB; rw [HH.out, HXB.out, HAB.out, HBB.out]; rfl)
                      go_wp2_with fail
                      go_roundw
                      case rel => exact ⟨j + 1, by omega, by go_num, fun d z hd hz => by
                          by_cases e : d = j
                          · subst e
                            rw [HY.out] at hz
                            cases hz
                            exact HG.out
                          · exact HALL.out d z (by omega) hz, HN7.out⟩
                      case measure => simp [intOf]; omega
              · have hla' : (0 : Int) < (la : Int) := by omega
                have HH : Hid (Lat.stH ⟨4, sn, se, sa, sb⟩ = false) := hide (by simp [Lat.stH, ← HLA.out, hla])
                clear hnm hla
                go_wp2_with fail
                go_ret
                exact ⟨ret_bool (by rw [HBAD.out (by unfold Lat.stB; rw [HH.out]; rfl)]), up HNX.out (boxBelow _ _)⟩
            · have hlb' : (0 : Int) < (lb : Int) := by omega
              have HH : Hid (Lat.stH ⟨4, sn, se, sa, sb⟩ = false) := hide (by simp [Lat.stH, ← HLB.out, hlb])
              clear hnm hlb
              go_wp2_with fail
              go_ret
              exact ⟨ret_bool (by rw [HBAD.out (by unfold Lat.stB; rw [HH.out]; rfl)]), up HNX.out (boxBelow _ _)⟩
        by_cases hk2 : k = 2
        · subst hk2
          go_wp2_with fail
          refine (in_any _ _ _ _).mono ?_
          rintro e w' ⟨rfl, hw⟩
          subst hw
          rw [show (decide ((1 : Int) ≤ 2) && decide ((2 : Int) ≤ 4)) = true from rfl]
          cases hne : sn.toList.isEmpty
          · have HH : Hid (Lat.stH ⟨2, sn, se, sa, sb⟩ = false) := hide (by simp [Lat.stH, hne])
            go_wp2_with fail
            go_ret
            exact ⟨ret_bool (by rw [HBAD.out (by unfold Lat.stB; rw [HH.out]; rfl)]), up HNX.out (boxBelow _ _)⟩
          · have HH : Hid (Lat.stH ⟨2, sn, se, sa, sb⟩ = true) := hide (by simp [Lat.stH, hne])
            go_wp2_with fail
            refine (expr_any m _ _ _ _ _ se (HX.out.below (up HNX.out (boxBelow _ _)))).mono ?_
            rintro e w5 ⟨rfl, hb5⟩
            replace q6 := cellUp q6 hb5
            replace q7 := cellUp q7 hb5
            have HN5 := hide (up (up HNX.out (boxBelow _ _)) hb5)
            clear hb5
            cases hxb : Lat.exprB m se
            · have HXB := hide hxb
              go_wp2_with fail
              go_ret
              exact ⟨ret_bool (by rw [HBAD.out (by unfold Lat.stB; rw [HXB.out]; simp)]), HN5.out⟩
            · have HXB := hide hxb
              go_wp2_with fail
              refine (HI.out _ _ sa (HSA.out.below HN5.out)).mono ?_
              rintro e w6 ⟨rfl, hb6⟩
              replace q7 := cellUp q7 hb6
              have HN6 := hide (up HN5.out hb6)
              clear hb6 HN5 q6
              cases hab : Lat.bodyB m sa
              · have HAB := hide hab
                go_wp2_with fail
                go_ret
                exact ⟨ret_bool (by rw [HBAD.out (by unfold Lat.stB; rw [HAB.out]; simp)]), HN6.out⟩
              · have HAB := hide hab
                go_wp2_with fail
                refine (HI.out _ _ sb (HSB.out.below HN6.out)).mono ?_
                rintro e w7 ⟨rfl, hb7⟩
                have HN7 := hide (up HN6.out hb7)
                clear hb7 HN6 q7
                cases hbb : Lat.bodyB m sb
                · have HBB := hide hbb
                  go_wp2_with fail
                  go_ret
                  exact ⟨ret_bool (by rw [HBAD.out (by unfold Lat.stB; rw [HBB.out]; simp)]), HN7.out⟩
                · have HBB := hide hbb
                  have HG := hide (show Lat.stB m ⟨2, sn, se, sa, sb⟩ = true by unfold Lat.stB; rw [HH.out, HXB.out, HAB.out, HBB.out]; rfl)
                  go_wp2_with fail
                  go_roundw
                  case rel => exact ⟨j + 1, by omega, by go_num, fun d z hd hz => by
                      by_cases e : d = j
                      · subst e
                        rw [HY.out] at hz
                        cases hz
                        exact HG.out
                      · exact HALL.out d z (by omega) hz, HN7.out⟩
                  case measure => simp [intOf]; omega
        by_cases hk3 : k = 3
        · subst hk3
          go_wp2_with fail
          refine (in_any _ _ _ _).mono ?_
          rintro e w' ⟨rfl, hw⟩
          subst hw
          rw [show (decide ((1 : Int) ≤ 3) && decide ((3 : Int) ≤ 4)) = true from rfl]
          cases hne : sn.toList.isEmpty
          · have HH : Hid (Lat.stH ⟨3, sn, se, sa, sb⟩ = false) := hide (by simp [Lat.stH, hne])
            go_wp2_with fail
            go_ret
            exact ⟨ret_bool (by rw [HBAD.out (by unfold Lat.stB; rw [HH.out]; rfl)]), up HNX.out (boxBelow _ _)⟩
          · by_cases hlb : lb = 0
            · subst hlb
              have HH : Hid (Lat.stH ⟨3, sn, se, sa, sb⟩ = true) := hide (by simp [Lat.stH, hne, ← HLB.out])
              go_wp2_with fail
              refine (expr_any m _ _ _ _ _ se (HX.out.below (up HNX.out (boxBelow _ _)))).mono ?_
              rintro e w5 ⟨rfl, hb5⟩
              replace q6 := cellUp q6 hb5
              replace q7 := cellUp q7 hb5
              have HN5 := hide (up (up HNX.out (boxBelow _ _)) hb5)
              clear hb5
              cases hxb : Lat.exprB m se
              · have HXB := hide hxb
                go_wp2_with fail
                go_ret
                exact ⟨ret_bool (by rw [HBAD.out (by unfold Lat.stB; rw [HXB.out]; simp)]), HN5.out⟩
              · have HXB := hide hxb
                go_wp2_with fail
                refine (HI.out _ _ sa (HSA.out.below HN5.out)).mono ?_
                rintro e w6 ⟨rfl, hb6⟩
                replace q7 := cellUp q7 hb6
                have HN6 := hide (up HN5.out hb6)
                clear hb6 HN5 q6
                cases hab : Lat.bodyB m sa
                · have HAB := hide hab
                  go_wp2_with fail
                  go_ret
                  exact ⟨ret_bool (by rw [HBAD.out (by unfold Lat.stB; rw [HAB.out]; simp)]), HN6.out⟩
                · have HAB := hide hab
                  go_wp2_with fail
                  refine (HI.out _ _ sb (HSB.out.below HN6.out)).mono ?_
                  rintro e w7 ⟨rfl, hb7⟩
                  have HN7 := hide (up HN6.out hb7)
                  clear hb7 HN6 q7
                  cases hbb : Lat.bodyB m sb
                  · have HBB := hide hbb
                    go_wp2_with fail
                    go_ret
                    exact ⟨ret_bool (by rw [HBAD.out (by unfold Lat.stB; rw [HBB.out]; simp)]), HN7.out⟩
                  · have HBB := hide hbb
                    have HG := hide (show Lat.stB m ⟨3, sn, se, sa, sb⟩ = true by unfold Lat.stB; rw [HH.out, HXB.out, HAB.out, HBB.out]; rfl)
                    go_wp2_with fail
                    go_roundw
                    case rel => exact ⟨j + 1, by omega, by go_num, fun d z hd hz => by
                        by_cases e : d = j
                        · subst e
                          rw [HY.out] at hz
                          cases hz
                          exact HG.out
                        · exact HALL.out d z (by omega) hz, HN7.out⟩
                    case measure => simp [intOf]; omega
            · have hlb' : (0 : Int) < (lb : Int) := by omega
              have HH : Hid (Lat.stH ⟨3, sn, se, sa, sb⟩ = false) := hide (by simp [Lat.stH, ← HLB.out, hlb])
              clear hlb
              go_wp2_with fail
              go_ret
              exact ⟨ret_bool (by rw [HBAD.out (by unfold Lat.stB; rw [HH.out]; rfl)]), up HNX.out (boxBelow _ _)⟩
        have hk1' : (k == 1) = false := by simp; omega
        have hk4' : (k == 4) = false := by simp; omega
        have HH : Hid (Lat.stH ⟨k, sn, se, sa, sb⟩ = false) := hide (by
          unfold Lat.stH
          rw [if_neg (by simp only; omega), if_neg (by simp only; omega), if_neg (by simp only; omega)])
        have hin : (decide (1 ≤ k) && decide (k ≤ 4)) = false := by
          rw [Bool.and_eq_false_iff]; simp; omega
        go_wp2_with fail
        refine (in_any _ _ _ _).mono ?_
        rintro e w' ⟨rfl, hw⟩
        subst hw
        rw [hin]
        go_wp2_with fail
        go_ret
        exact ⟨ret_bool (by rw [HBAD.out (by unfold Lat.stB; rw [HH.out]; rfl)]), up HNX.out (boxBelow _ _)⟩
      · go_wp2_with fail
        go_ret
        exact ⟨ret_bool (by rw [HR.out, sts_get? (fun d z hz => HALL.out d z (by
          have := (List.getElem?_eq_some_iff.1 hz).1
          have := HL.out
          omega) hz)]), hnx⟩

end Go.Proofs.YtnheahdcfadclaaGreatDoor

/- Names, as plain data: what a call means; lists of modules in memory. -/
namespace Go.Proofs.YtnheahdcfadclaaGreatDoor
open Go.RowKit

/-- The slice v is a list of modules. -/
def MosAt (w : World) (m : Nat) (v : Value) (l : List Mo) : Prop :=
  ∃ (a : Option Addr) (b off cap : Nat), v = .slice a l.length cap ∧ (0 < l.length → a = some ⟨b, off, none⟩) ∧ l.length ≤ 9223372036854775807 ∧
    ∀ i x, l[i]? = some x → ∃ vi vv vf, w.cell? ⟨b, off + i * 4, none⟩ = some (.string x.name) ∧ w.cell? ⟨b, off + i * 4 + 1, none⟩ = some vi ∧ w.cell? ⟨b, off + i * 4 + 2, none⟩ = some vv ∧ w.cell? ⟨b, off + i * 4 + 3, none⟩ = some vf ∧ MoAt w m (.agg #[.string x.name, vi, vv, vf]) x
theorem MosAt.below {w w' : World} {m : Nat} {v : Value} {l : List Mo} (h : MosAt w m v l) (hb : Below w.heap.size w w') : MosAt w' m v l := by
  obtain ⟨a, b, off, cap, e, h0, hl, h1⟩ := h
  refine ⟨a, b, off, cap, e, h0, hl, fun i x hx => ?_⟩
  obtain ⟨vi, vv, vf, g0, g1, g2, g3, hm⟩ := h1 i x hx
  exact ⟨vi, vv, vf, cellUp g0 hb, cellUp g1 hb, cellUp g2 hb, cellUp g3 hb, hm.below hb⟩

namespace Nm
def sameB (s t : ByteArray) : Bool := s.toList == t.toList
/-- The first function of that name among the first n. -/
def fnAt (l : List Fu) (s : ByteArray) (n : Nat) : Option Nat := (List.range n).find? fun i => match l[i]? with | some f => sameB f.name s | none => false
/-- The first module of that name. -/
def moAt (l : List Mo) (s : ByteArray) : Option Nat := (List.range l.length).find? fun i => match l[i]? with | some x => sameB x.name s | none => false
/-- What a call means: which module (-1: this one), which function, and is there one? -/
def tgt (x : Mo) (k : Nat) (call : ByteArray) (known : List Mo) : Int × Int × Bool :=
  match Lat.dotAt call with
  | none => match fnAt x.funs call k with
    | some i => (-1, i, true)
    | none => (-1, 0, false)
  | some _ =>
    if 0 ≤ Lat.indexI x.imports (Lat.preS call) then
      match moAt known (Lat.preS call) with
      | none => (0, 0, false)
      | some i => match fnAt ((known[i]?.map (·.funs)).getD []) (Lat.sufS call) ((known[i]?.map (·.funs)).getD []).length with
        | some j => (i, j, true)
        | none => (i, 0, false)
    else (0, 0, false)
theorem fnAt_hit {l : List Fu} {s : ByteArray} {n i : Nat} {f : Fu} (hi : i < n) (hf : l[i]? = some f) (h : sameB f.name s = true) (h0 : ∀ d g, d < i → l[d]? = some g → sameB g.name s = false) : fnAt l s n = some i := by
  refine Lat.find_hit hi (fun c hc => ?_) (by simp only [hf]; exact h)
  cases hg : l[c]? with
  | none => rfl
  | some g => exact h0 c g hc hg
theorem fnAt_none {l : List Fu} {s : ByteArray} {n : Nat} (h0 : ∀ d g, d < n → l[d]? = some g → sameB g.name s = false) : fnAt l s n = none := by
  refine Lat.find_none (fun c hc => ?_)
  cases hg : l[c]? with
  | none => rfl
  | some g => exact h0 c g hc hg
theorem moAt_hit {l : List Mo} {s : ByteArray} {i : Nat} {x : Mo} (hx : l[i]? = some x) (h : sameB x.name s = true) (h0 : ∀ d g, d < i → l[d]? = some g → sameB g.name s = false) : moAt l s = some i := by
  refine Lat.find_hit (List.getElem?_eq_some_iff.1 hx).1 (fun c hc => ?_) (by simp only [hx]; exact h)
  cases hg : l[c]? with
  | none => rfl
  | some g => exact h0 c g hc hg
theorem moAt_none {l : List Mo} {s : ByteArray} (h0 : ∀ (d : Nat) (g : Mo), l[d]? = some g → sameB g.name s = false) : moAt l s = none := by
  refine Lat.find_none (fun c hc => ?_)
  cases hg : l[c]? with
  | none => rfl
  | some g => exact h0 c g hg
end Nm

end Go.Proofs.YtnheahdcfadclaaGreatDoor

/- Walks over package downref: Target answers what a call means. -/
namespace Go.Proofs.YtnheahdcfadclaaGreatDoor
open Go.RowKit

namespace Nm
theorem tgt_here {x : Mo} {k : Nat} {call : ByteArray} {known : List Mo} {i : Nat} (hd : Lat.dotAt call = none) (hf : fnAt x.funs call k = some i) : tgt x k call known = (-1, (i : Int), true) := by simp [tgt, hd, hf]
theorem tgt_here0 {x : Mo} {k : Nat} {call : ByteArray} {known : List Mo} (hd : Lat.dotAt call = none) (hf : fnAt x.funs call k = none) : tgt x k call known = (-1, 0, false) := by simp [tgt, hd, hf]
theorem tgt_notI {x : Mo} {k : Nat} {call : ByteArray} {known : List Mo} {d : Nat} (hd : Lat.dotAt call = some d) (hi : decide (0 ≤ Lat.indexI x.imports (Lat.preS call)) = false) : tgt x k call known = (0, 0, false) := by
  have := of_decide_eq_false hi
  simp [tgt, hd, this]
theorem tgt_noM {x : Mo} {k : Nat} {call : ByteArray} {known : List Mo} {d : Nat} (hd : Lat.dotAt call = some d) (hi : decide (0 ≤ Lat.indexI x.imports (Lat.preS call)) = true) (hm : moAt known (Lat.preS call) = none) : tgt x k call known = (0, 0, false) := by
  have := of_decide_eq_true hi
  simp [tgt, hd, this, hm]
theorem tgt_fn {x y : Mo} {k : Nat} {call : ByteArray} {known : List Mo} {d i j : Nat} (hd : Lat.dotAt call = some d) (hi : decide (0 ≤ Lat.indexI x.imports (Lat.preS call)) = true) (hm : moAt known (Lat.preS call) = some i) (hy : known[i]? = some y)
    (hf : fnAt y.funs (Lat.sufS call) y.funs.length = some j) : tgt x k call known = ((i : Int), (j : Int), true) := by
  have := of_decide_eq_true hi
  simp [tgt, hd, this, hm, hy, hf]
theorem tgt_nofn {x y : Mo} {k : Nat} {call : ByteArray} {known : List Mo} {d i : Nat} (hd : Lat.dotAt call = some d) (hi : decide (0 ≤ Lat.indexI x.imports (Lat.preS call)) = true) (hm : moAt known (Lat.preS call) = some i) (hy : known[i]? = some y)
    (hf : fnAt y.funs (Lat.sufS call) y.funs.length = none) : tgt x k call known = ((i : Int), 0, false) := by
  have := of_decide_eq_true hi
  simp [tgt, hd, this, hm, hy, hf]
end Nm

theorem boxN1 (w : World) (c0 c1 c2 c3 : Value) (t : TypeId) : (w.alloc (.cells #[c0, c1, c2, c3] t)).cell? ⟨w.heap.size, 1, none⟩ = some c1 := by simp [go_sem]
theorem boxN3 (w : World) (c0 c1 c2 c3 : Value) (t : TypeId) : (w.alloc (.cells #[c0, c1, c2, c3] t)).cell? ⟨w.heap.size, 3, none⟩ = some c3 := by simp [go_sem]
theorem ret_t3 {P : Prop} {R : Int × Int × Bool} {a b : Int} {c : Bool} (h : R = (a, b, c)) (hb : P) : (Ending.returned (.tuple #[.int .i64 a, .int .i64 b, .bool c]) = Ending.returned (.tuple #[.int .i64 R.1, .int .i64 R.2.1, .bool R.2.2])) ∧ P := by
  subst h; exact ⟨rfl, hb⟩

set_option maxHeartbeats 4000000 in
set_option maxRecDepth 100000 in
theorem rtarget_any (m : Nat) (w : World) (v vk : Value) (x : Mo) (k : Nat) (call : ByteArray) (known : List Mo) (h : MoAt w m v x) (hk : k ≤ x.funs.length) (hc : call.size ≤ maxLen) (hK : MosAt w m vk known) :
    Calls Tryz.prog 15 #[v, .int .i64 k, .string call, vk] w fun e w' => e = .returned (.tuple #[.int .i64 (Nm.tgt x k call known).1, .int .i64 (Nm.tgt x k call known).2.1, .bool (Nm.tgt x k call known).2.2]) ∧ Below w.heap.size w w' := by
  obtain ⟨vi, vv, vf, rfl, hnm, hI, hV, hF⟩ := h
  have HI := hide hI
  obtain ⟨ai, bi, oi, ci, rfl, hI'⟩ := hI
  obtain ⟨av, bv, ov, cv, rfl, hV'⟩ := hV
  obtain ⟨af, bf, of, cf, rfl, haf, hlf, hcf⟩ := hF
  obtain ⟨ak, bk, ok, ck, rfl, hak, hlk, hck⟩ := hK
  have HCF := hide hcf
  have HCK := hide hck
  have HAF := hide haf
  have HAK := hide hak
  have HCUT : Hid (∀ w, Calls Tryz.prog 60 #[.string call] w fun e w' => e = .returned (.tuple #[.string (Lat.preS call), .string (Lat.sufS call), .bool (Lat.dotAt call).isSome]) ∧ Below w.heap.size w w') := fun w => cutDot_any w call hc
  obtain ⟨ni, hni⟩ : ∃ n, n = x.imports.length := ⟨_, rfl⟩
  obtain ⟨nv, hnv⟩ : ∃ n, n = x.vars.length := ⟨_, rfl⟩
  obtain ⟨nf, hnf⟩ : ∃ n, n = x.funs.length := ⟨_, rfl⟩
  obtain ⟨nk, hnk⟩ : ∃ n, n = known.length := ⟨_, rfl⟩
  have HNF := hide hnf
  have HNK := hide hnk
  rw [← hni, ← hnv, ← hnf, ← hnk]
  rw [← hni] at HI
  rw [← hnf] at hk hlf HAF
  rw [← hnk] at hlk HAK
  clear haf hak hcf hck hI' hV' hni hnv hnf hnk hnm hc
  have q1 := boxN1 w (.string x.name) (.slice ai ni ci) (.slice av nv cv) (.slice af nf cf) 26
  have q3 := boxN3 w (.string x.name) (.slice ai ni ci) (.slice av nv cv) (.slice af nf cf) 26
  have HB0 := hide (boxBelow w (.cells #[.string x.name, .slice ai ni ci, .slice av nv cv, .slice af nf cf] 26))
  cases hd : Lat.dotAt call with
  | none =>
    have HPS : Hid (Lat.preS call = call) := hide (by simp [Lat.preS, hd])
    rw [hd] at HCUT
    have HD := hide hd
    clear hd
    obtain ⟨R, hR⟩ : ∃ R, R = Nm.tgt x k call known := ⟨_, rfl⟩
    have HR := hide hR
    rw [← hR]
    clear hR
    rw [HPS.out] at HCUT
    generalize Lat.sufS call = suf at *
    go_enter Tryz.func15, Tryz.ntmps15
    go_wp2_with fail
    refine (HCUT.out _).mono ?_
    rintro e w1 ⟨rfl, hb1⟩
    replace q3 := cellUp q3 hb1
    have HB1 := hide (up HB0.out hb1)
    clear hb1 q1
    go_wp2_with fail
    go_loop [14] (fun i => ∃ j : Nat, j ≤ k ∧ i = .int .i64 j ∧ ∀ d g, d < j → x.funs[d]? = some g → Nm.sameB g.name call = false) (fun i => k - (intOf i).toNat)
    case atStart => exact ⟨0, Nat.zero_le _, rfl, fun d g hd => absurd hd (Nat.not_lt_zero _)⟩
    case round =>
      obtain ⟨j, hj, rfl, hall⟩ := hrel
      have HA := hide hall
      clear hall
      by_cases hlt : j < k
      · obtain ⟨f, hf⟩ : ∃ f, x.funs[j]? = some f := ⟨_, List.getElem?_eq_getElem (by have := HNF.out; omega)⟩
        have HF := hide hf
        obtain ⟨hfn, vp, vb, e0, e1, e2, e3, g0, -⟩ := HCF.out j f hf
        obtain rfl := HAF.out (by omega)
        have c0 := cellUp g0 HB1.out
        clear hf g0
        cases hh : (f.name.toList == call.toList)
        · have HH := hide hh
          go_wp2
          go_round
          case rel => exact ⟨j + 1, by omega, by go_num, fun d g hd hg => by
              by_cases e : d = j
              · subst e; rw [HF.out] at hg; cases hg; exact HH.out
              · exact HA.out d g (by omega) hg⟩
          case measure => simp [intOf]; omega
        · have HH := hide hh
          go_wp2
          go_ret3
          exact ret_t3 (by rw [HR.out]; exact Nm.tgt_here HD.out (Nm.fnAt_hit hlt HF.out HH.out HA.out)) HB1.out
      · go_wp2
        go_ret3
        exact ret_t3 (by rw [HR.out]; exact Nm.tgt_here0 HD.out (Nm.fnAt_none fun d g hd hg => HA.out d g (by omega) hg)) HB1.out
  | some dd =>
    rw [hd] at HCUT
    have HD := hide hd
    clear hd
    obtain ⟨R, hR⟩ : ∃ R, R = Nm.tgt x k call known := ⟨_, rfl⟩
    have HR := hide hR
    rw [← hR]
    clear hR
    obtain ⟨pre, hpre⟩ : ∃ s, s = Lat.preS call := ⟨_, rfl⟩
    obtain ⟨suf, hsuf⟩ : ∃ s, s = Lat.sufS call := ⟨_, rfl⟩
    have HP := hide hpre
    have HS := hide hsuf
    rw [← hpre, ← hsuf] at HCUT
    clear hpre hsuf
    go_enter Tryz.func15, Tryz.ntmps15
    go_wp2_with fail
    refine (HCUT.out _).mono ?_
    rintro e w1 ⟨rfl, hb1⟩
    replace q1 := cellUp q1 hb1
    have HB1 := hide (up HB0.out hb1)
    clear hb1 q3
    go_wp2_with fail
    refine (containsS_any w1 _ x.imports pre (HI.out.below HB1.out)).mono ?_
    rintro e w' ⟨rfl, hw'⟩
    subst hw'
    obtain ⟨is, his⟩ : ∃ c, c = decide (0 ≤ Lat.indexI x.imports pre) := ⟨_, rfl⟩
    have HIS := hide his
    rw [← his]
    clear his
    cases is
    · go_wp2
      go_ret3
      exact ret_t3 (by rw [HR.out]; exact Nm.tgt_notI HD.out (by rw [← HP.out]; exact HIS.out.symm)) HB1.out
    · go_wp2_with fail
      go_loop [15] (fun i => ∃ j : Nat, j ≤ nk ∧ i = .int .i64 j ∧ ∀ d g, d < j → known[d]? = some g → Nm.sameB g.name pre = false) (fun i => nk - (intOf i).toNat)
      case atStart => exact ⟨0, Nat.zero_le _, rfl, fun d g hd => absurd hd (Nat.not_lt_zero _)⟩
      case round =>
        obtain ⟨j, hj, rfl, hall⟩ := hrel
        have HA := hide hall
        clear hall
        by_cases hlt : j < nk
        · obtain ⟨y, hy⟩ : ∃ y, known[j]? = some y := ⟨_, List.getElem?_eq_getElem (by have := HNK.out; omega)⟩
          have HY := hide hy
          obtain ⟨yi, yv, yf, g0, g1, g2, g3, hm⟩ := HCK.out j y hy
          obtain rfl := HAK.out (by omega)
          have c0 := cellUp g0 HB1.out
          have c3 := cellUp g3 HB1.out
          obtain ⟨zi, zv, zf, hz, -, -, -, hzf⟩ := hm
          injection hz with hz
          injection hz with hz
          injection hz with _ hz
          injection hz with _ hz
          injection hz with _ hz
          injection hz with hz _
          subst hz
          obtain ⟨ay, bY, oy, cy, rfl, hay, hly, hcy⟩ := hzf
          obtain ⟨ny, hny⟩ : ∃ n, n = y.funs.length := ⟨_, rfl⟩
          have HNY := hide hny
          have HCY := hide hcy
          rw [← hny] at hay hly c3
          have HAY := hide hay
          clear hy g0 g1 g2 g3 hny hcy hay
          cases hh : (y.name.toList == pre.toList)
          · have HH := hide hh
            go_wp2
            go_round
            case rel => exact ⟨j + 1, by omega, by go_num, fun d g hd hg => by
                by_cases e : d = j
                · subst e; rw [HY.out] at hg; cases hg; exact HH.out
                · exact HA.out d g (by omega) hg⟩
            case measure => simp [intOf]; omega
          · have HM : Hid (Nm.moAt known pre = some j) := hide (Nm.moAt_hit HY.out hh HA.out)
            go_wp2
            go_loop [16] (fun i => ∃ t : Nat, t ≤ ny ∧ i = .int .i64 t ∧ ∀ d g, d < t → y.funs[d]? = some g → Nm.sameB g.name suf = false) (fun i => ny - (intOf i).toNat)
            case atStart => exact ⟨0, Nat.zero_le _, rfl, fun d g hd => absurd hd (Nat.not_lt_zero _)⟩
            case round =>
              obtain ⟨t, ht, rfl, hall⟩ := hrel
              have HAT := hide hall
              clear hall
              by_cases hlt2 : t < ny
              · obtain ⟨f, hf⟩ : ∃ f, y.funs[t]? = some f := ⟨_, List.getElem?_eq_getElem (by have := HNY.out; omega)⟩
                have HF := hide hf
                obtain ⟨hfn, vp, vb, e0, e1, e2, e3, g0, -⟩ := HCY.out t f hf
                obtain rfl := HAY.out (by omega)
                have c7 := cellUp g0 HB1.out
                clear hf g0
                cases hh2 : (f.name.toList == suf.toList)
                · have HH := hide hh2
                  go_wp2
                  go_round
                  case rel => exact ⟨t + 1, by omega, by go_num, fun d g hd hg => by
                      by_cases e : d = t
                      · subst e; rw [HF.out] at hg; cases hg; exact HH.out
                      · exact HAT.out d g (by omega) hg⟩
                  case measure => simp [intOf]; omega
                · have HH := hide hh2
                  go_wp2
                  go_ret3
                  exact ret_t3 (by rw [HR.out]; exact Nm.tgt_fn HD.out (by rw [← HP.out]; exact HIS.out.symm) (by rw [← HP.out]; exact HM.out) HY.out (Nm.fnAt_hit (by rw [← HNY.out]; exact hlt2) HF.out (by rw [← HS.out]; exact HH.out) (by rw [← HS.out]; exact HAT.out))) HB1.out
              · go_wp2
                go_ret3
                exact ret_t3 (by rw [HR.out]; exact Nm.tgt_nofn HD.out (by rw [← HP.out]; exact HIS.out.symm) (by rw [← HP.out]; exact HM.out) HY.out (Nm.fnAt_none fun d g hd hg => by rw [← HS.out]; exact HAT.out d g (by have := HNY.out; omega) hg)) HB1.out
        · go_wp2
          go_ret3
          exact ret_t3 (by rw [HR.out]; exact Nm.tgt_noM HD.out (by rw [← HP.out]; exact HIS.out.symm) (Nm.moAt_none fun d g hg => by rw [← HP.out]; exact HA.out d g (by have := (List.getElem?_eq_some_iff.1 hg).1; have := HNK.out; omega) hg)) HB1.out

end Go.Proofs.YtnheahdcfadclaaGreatDoor
