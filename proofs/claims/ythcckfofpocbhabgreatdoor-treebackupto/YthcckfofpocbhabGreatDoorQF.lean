/- TreeBack's walk. -/
import Derived.Test.YthcckfofpocbhabGreatDoorQC
import Derived.Test.YthcckfofpocbhabGreatDoorQE
namespace Go.Proofs.YthcckfofpocbhabGreatDoor
open Go.RowKit

namespace Rd
theorem prX_w {s : ByteArray} (h : prE s = 0) : moW 8196 (prX s) ≤ 1048576 ∧ Lat.moE 8196 (prX s) = 0 := by
  have hx : prX s = (prM s).1 := by unfold prX; rw [if_pos h]
  rw [hx]
  unfold prE at h
  by_cases hw : Lat.we s = 0
  · rw [if_pos hw] at h
    cases hf : (prS s).f
    · rw [hf] at h
      simp only [Bool.false_eq_true, if_false] at h
      refine ⟨?_, h⟩
      have h1 : (prM s).2.f = false := (show Le (prS s) (prM s).2 from pend_le _).nf hf
      have h2 := pM_w (m := 8196) (st := ⟨Lat.wds s, false⟩) (K := 4097) (Or.inr (by have := (wds_facts s).1; simp only; omega)) h1
      have h3 := (wds_facts s).2.2.2.1
      simp only at h2
      show moW 8196 (pM 4097 ⟨Lat.wds s, false⟩).1 ≤ _
      omega
    · rw [hf] at h
      simp at h
  · rw [if_neg hw] at h; exact absurd h hw
theorem wn_le' (s : ByteArray) : Lat.wn s ≤ s.size := by
  unfold Lat.wn
  split
  · exact Nat.zero_le _
  · cases hb : Lat.badAt s with
    | none => exact Nat.zero_le _
    | some k => exact Nat.le_of_lt (Lat.find_spec hb).1
theorem prN_le (s : ByteArray) : 0 ≤ prN s ∧ prN s ≤ s.size := by
  unfold prN
  split
  · split
    · have hall : ∀ z ∈ Lat.wats s ++ [(s.size : Int)], 0 ≤ z ∧ z ≤ s.size := fun z hz => by
        rcases List.mem_append.1 hz with hz | hz
        · exact (wds_facts s).2.2.2.2 z hz
        · rw [List.mem_singleton] at hz; subst hz; omega
      generalize (Lat.wds s).length - (prS s).r.length = i
      by_cases hi : i < (Lat.wats s ++ [(s.size : Int)]).length
      · have e : (Lat.wats s ++ [(s.size : Int)]).getD i 0 = (Lat.wats s ++ [(s.size : Int)])[i] := by simp [List.getD, List.getElem?_eq_getElem hi]
        rw [e]
        exact hall _ (List.getElem_mem hi)
      · have e : (Lat.wats s ++ [(s.size : Int)]).getD i 0 = 0 := by simp [List.getD, List.getElem?_eq_none (Nat.le_of_not_lt hi)]
        rw [e]
        omega
    · omega
  · have := wn_le' s
    omega
theorem prX_bad {s : ByteArray} (h : prE s ≠ 0) : prX s = mo0 := by unfold prX; rw [if_neg h]
/-- The small module. -/
def sm : Mo := ⟨⟨#[109]⟩, [], [⟨⟨#[120]⟩, ⟨#[108, 111, 119]⟩⟩, ⟨⟨#[121]⟩, ⟨#[104, 105, 103, 104]⟩⟩],
  [⟨⟨#[102]⟩, [⟨#[112]⟩], [⟨1, ⟨#[121]⟩, ⟨3, 0, ⟨#[43]⟩, [⟨2, 0, ⟨#[112]⟩, []⟩, ⟨2, 0, ⟨#[120]⟩, []⟩]⟩, [], []⟩, ⟨4, ⟨#[108, 111, 119]⟩, ⟨2, 0, ⟨#[120]⟩, []⟩, [], []⟩], ⟨2, 0, ⟨#[120]⟩, []⟩⟩]⟩
def smT : ByteArray := Lat.moT 10 sm
theorem sm_ok : Lat.moE 10 sm = 0 := by decide +kernel
theorem sm_size : ¬ 4096 < smT.size := by decide +kernel
theorem sm_facts : prE smT = 0 ∧ prX smT = sm ∧ Lat.moE 8196 sm = 0 ∧ Lat.moT 8196 sm = smT := by
  obtain ⟨h1, h2⟩ := parse_text (m := 10) (x := sm) (fun _ => by decide) sm_ok sm_size
  obtain ⟨h3, h4, _⟩ := moE_up (m := 10) (k := 8196) (x := sm) (fun _ => by decide) sm_ok (by decide)
  exact ⟨h1, h2, h3, h4⟩
theorem sm_lit : smT = ⟨#[40, 109, 111, 100, 117, 108, 101, 32, 109, 32, 40, 118, 97, 114, 32, 120, 32, 108, 111, 119, 41, 32, 40, 118, 97, 114, 32, 121, 32, 104, 105, 103, 104, 41, 32, 40, 102, 117, 110, 32, 102, 32, 40, 112, 41, 32, 40, 115, 101, 116, 32, 121, 32, 40, 43, 32, 112, 32, 120, 41, 41, 32, 40, 112, 114, 105, 110, 116, 32, 108, 111, 119, 32, 120, 41, 32, 120, 41, 41]⟩ := by decide +kernel
end Rd

set_option maxHeartbeats 2000000 in
set_option maxRecDepth 100000 in
theorem read_any (w : World) (ht : Tab w) (he : ErrV w) :
    Calls Tryz.prog 4 #[] w fun e w' => e = .returned (.bool true) ∧ Below w.heap.size w w' := by
  have HP : Hid (∀ W, W = w → Calls Tryz.prog 6 #[.string ⟨#[40, 109, 111, 100, 117, 108, 101, 32, 109, 32, 40, 118, 97, 114, 32, 120, 32, 108, 111, 119, 41, 32, 40, 118, 97, 114, 32, 121, 32, 104, 105, 103, 104, 41, 32, 40, 102, 117, 110, 32, 102, 32, 40, 112, 41, 32, 40, 115, 101, 116, 32, 121, 32, 40, 43, 32, 112, 32, 120, 41, 41, 32, 40, 112, 114, 105, 110, 116, 32, 108, 111, 119, 32, 120, 41, 32, 120, 41, 41]⟩] W fun e w' => ∃ a1 n1 c1 a2 n2 c2 a3 n3 c3 z, e = .returned (.tuple #[.agg #[.string ⟨#[109]⟩, .slice a1 n1 c1, .slice a2 n2 c2, .slice a3 n3 c3], .int .i64 z, .int .i64 0]) ∧
      MoAt w' 8196 (.agg #[.string ⟨#[109]⟩, .slice a1 n1 c1, .slice a2 n2 c2, .slice a3 n3 c3]) Rd.sm ∧ Below W.heap.size W w') := hide (fun W hW => by
    subst hW
    have h := parse_any W Rd.smT (by rw [Rd.sm_lit]; decide) ht he
    rw [Rd.sm_facts.1, Rd.sm_facts.2.1] at h
    rw [Rd.sm_lit] at h
    refine h.mono ?_
    rintro e w' ⟨a1, n1, c1, a2, n2, c2, a3, n3, c3, rfl, hm, hb⟩
    exact ⟨a1, n1, c1, a2, n2, c2, a3, n3, c3, _, rfl, hm.sub (only_sub _ _), hb⟩)
  have HW : Hid (moW 8196 Rd.sm ≤ 1048576) := hide (by
    have := (Rd.prX_w Rd.sm_facts.1).1
    rw [Rd.sm_facts.2.1] at this
    exact this)
  have HE : Hid (Lat.moE 8196 Rd.sm = 0) := hide Rd.sm_facts.2.2.1
  have HT : Hid (Lat.prT 8196 Rd.sm = ⟨#[40, 109, 111, 100, 117, 108, 101, 32, 109, 32, 40, 118, 97, 114, 32, 120, 32, 108, 111, 119, 41, 32, 40, 118, 97, 114, 32, 121, 32, 104, 105, 103, 104, 41, 32, 40, 102, 117, 110, 32, 102, 32, 40, 112, 41, 32, 40, 115, 101, 116, 32, 121, 32, 40, 43, 32, 112, 32, 120, 41, 41, 32, 40, 112, 114, 105, 110, 116, 32, 108, 111, 119, 32, 120, 41, 32, 120, 41, 41]⟩) := hide (by
    unfold Lat.prT
    rw [Rd.sm_facts.2.2.1, if_pos rfl, Rd.sm_facts.2.2.2, Rd.sm_lit])
  go_enter Tryz.func4, Tryz.ntmps4
  go_wp2_with fail
  refine (HP.out w rfl).mono ?_
  rintro e w1 ⟨a1, n1, c1, a2, n2, c2, a3, n3, c3, z, rfl, hm, hb1⟩
  have HM := hide (hm.below (boxBelow w1 (.cells #[.string ⟨#[109]⟩, .slice a1 n1 c1, .slice a2 n2 c2, .slice a3 n3 c3] 26)))
  have HB := hide (up hb1 (boxBelow w1 (.cells #[.string ⟨#[109]⟩, .slice a1 n1 c1, .slice a2 n2 c2, .slice a3 n3 c3] 26)))
  clear hm hb1 HP
  go_wp2_with fail
  generalize w1.alloc (.cells #[.string ⟨#[109]⟩, .slice a1 n1 c1, .slice a2 n2 c2, .slice a3 n3 c3] 26) = W1 at *
  refine (print_any 8196 W1 _ Rd.sm HM.out HW.out (ht.below HB.out)).mono ?_
  rintro e w2 ⟨rfl, hb2⟩
  rw [HE.out]
  obtain ⟨t, htt⟩ : ∃ t, t = Lat.prT 8196 Rd.sm := ⟨_, rfl⟩
  rw [← htt] at HT ⊢
  have heq : (t.toList == [40, 109, 111, 100, 117, 108, 101, 32, 109, 32, 40, 118, 97, 114, 32, 120, 32, 108, 111, 119, 41, 32, 40, 118, 97, 114, 32, 121, 32, 104, 105, 103, 104, 41, 32, 40, 102, 117, 110, 32, 102, 32, 40, 112, 41, 32, 40, 115, 101, 116, 32, 121, 32, 40, 43, 32, 112, 32, 120, 41, 41, 32, 40, 112, 114, 105, 110, 116, 32, 108, 111, 119, 32, 120, 41, 32, 120, 41, 41]) = true := by rw [HT.out]; decide +kernel
  clear htt
  have HB2 := hide (up HB.out hb2)
  clear hb2 HT
  go_wp2
  go_ret
  exact ⟨rfl, HB2.out⟩

end Go.Proofs.YthcckfofpocbhabGreatDoor
