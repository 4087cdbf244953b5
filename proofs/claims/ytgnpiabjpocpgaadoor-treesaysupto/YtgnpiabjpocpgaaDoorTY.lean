/- TreeSays' walk: over the contracts of Check and Print, whichever package answers them. -/
import Derived.Test.YtgnpiabjpocpgaaDoorTX
namespace Go.Proofs.YtgnpiabjpocpgaaDoor
open Go.RowKit

set_option maxHeartbeats 2000000 in
theorem trees_walk (m : Nat) (w : World) (v : Value) (x : Mo) (h : MoAt w m v x) (hw : moW m x ≤ 1048576) (ht : Tab w) :
    Calls Tryd.prog 3 #[v] w fun e w' => e = .returned (.bool true) ∧ Below w.heap.size w w' := by
  have HM := hide h
  have HT := hide ht
  obtain ⟨vi, vv, vf, rfl, _, _, _, _⟩ := h
  have q0 := boxM0 w (.string x.name) vi vv vf 26
  have q1 := boxM1 w (.string x.name) vi vv vf 26
  have q2 := boxM2 w (.string x.name) vi vv vf 26
  have q3 := boxM3 w (.string x.name) vi vv vf 26
  have HB0 := hide (boxBelow w (.cells #[.string x.name, vi, vv, vf] 26))
  clear ht
  go_enter Tryd.func3, Tryd.ntmps3
  go_wp2_with fail
  generalize w.alloc (.cells #[.string x.name, vi, vv, vf] 26) = W0 at *
  refine (rmodule_any m _ _ x (HM.out.below HB0.out) hw (HT.out.below HB0.out)).mono ?_
  rintro e w5 ⟨rfl, hb5⟩
  replace q0 := cellUp q0 hb5
  replace q1 := cellUp q1 hb5
  replace q2 := cellUp q2 hb5
  replace q3 := cellUp q3 hb5
  have HB := hide (up HB0.out hb5)
  clear hb5 HB0
  have HP : Hid (Lat.prT m x = if Lat.moE m x = 0 then Lat.moT m x else ⟨#[]⟩) := rfl
  have HCE : Hid (Lat.moE m x = Lat.moE m x) := rfl
  obtain ⟨E, hE⟩ : ∃ E, E = Lat.moE m x := ⟨_, rfl⟩
  have HE := hide hE
  rw [← hE] at HP ⊢
  clear hE HCE
  by_cases h0 : E = 0
  · subst h0
    rw [if_pos rfl] at HP
    go_wp2_with fail
    refine (text_any m _ _ x (HM.out.below HB.out) hw (HT.out.below HB.out)).mono ?_
    rintro e w6 ⟨rfl, hb6⟩
    replace q0 := cellUp q0 hb6
    replace q1 := cellUp q1 hb6
    replace q2 := cellUp q2 hb6
    replace q3 := cellUp q3 hb6
    have HB6 := hide (up HB.out hb6)
    clear hb6 HB
    rw [← HP.out]
    go_wp2_with fail
    refine (print_any m _ _ x (HM.out.below HB6.out) hw (HT.out.below HB6.out)).mono ?_
    rintro e w7 ⟨rfl, hb7⟩
    replace q0 := cellUp q0 hb7
    replace q1 := cellUp q1 hb7
    replace q2 := cellUp q2 hb7
    replace q3 := cellUp q3 hb7
    have HB7 := hide (up HB6.out hb7)
    clear hb7 HB6
    rw [← HE.out]
    go_wp2_with fail
    refine (check_any m _ _ x (HM.out.below HB7.out) hw (HT.out.below HB7.out)).mono ?_
    rintro e w8 ⟨rfl, hb8⟩
    have HB8 := hide (up HB7.out hb8)
    clear hb8 HB7 q0 q1 q2 q3
    rw [← HE.out]
    go_wp2_with fail
    go_ret
    exact ⟨rfl, HB8.out⟩
  · rw [if_neg h0] at HP
    have h0' : (E == 0) = false := by simp [h0]
    clear h0
    go_wp2_with fail
    refine (print_any m _ _ x (HM.out.below HB.out) hw (HT.out.below HB.out)).mono ?_
    rintro e w7 ⟨rfl, hb7⟩
    replace q0 := cellUp q0 hb7
    replace q1 := cellUp q1 hb7
    replace q2 := cellUp q2 hb7
    replace q3 := cellUp q3 hb7
    have HB7 := hide (up HB.out hb7)
    clear hb7 HB
    rw [← HE.out, HP.out]
    go_wp2_with fail
    refine (check_any m _ _ x (HM.out.below HB7.out) hw (HT.out.below HB7.out)).mono ?_
    rintro e w8 ⟨rfl, hb8⟩
    have HB8 := hide (up HB7.out hb8)
    clear hb8 HB7 q0 q1 q2 q3
    rw [← HE.out]
    go_wp2_with fail
    go_ret
    exact ⟨rfl, HB8.out⟩

end Go.Proofs.YtgnpiabjpocpgaaDoor
