/- Walks over package downref, seventh part: Lattice answers what Check answers. -/
import Derived.Test.YtmhcameodlhloaaRF
namespace Go.Proofs.Ytmhcameodlhloaa
open Go.RowKit

namespace Lat
def sameB (ss : List ByteArray) (i d : Nat) : Bool := (ss.getD i ByteArray.empty).toList == (ss.getD d ByteArray.empty).toList
theorem any_range (ss : List ByteArray) (p : ByteArray → Bool) : ∀ k, k ≤ ss.length → (ss.take k).any p = (List.range k).any (fun d => p (ss.getD d ByteArray.empty))
  | 0, _ => rfl
  | k + 1, h => by rw [any_take ss k (by omega), any_range ss p k (by omega), List.range_succ, List.any_append]; simp
theorem namesR_eq (ss : List ByteArray) (i : Nat) (hi : i < ss.length) : namesR ss i = (!((List.range i).any (sameB ss i)) && nameB (ss.getD i ByteArray.empty).data.toList) := by
  unfold namesR
  rw [any_range ss _ i (by omega)]
  congr 2
  refine congrArg _ (funext fun d => ?_)
  unfold sameB
  rw [ByteArray.toList_eq, ByteArray.toList_eq, Bool.eq_iff_iff]
  simp only [beq_iff_eq]
  exact eq_comm
theorem names_bad {ss : List ByteArray} {i : Nat} (hi : i < ss.length) (h : namesR ss i = false) : namesB ss = false := by
  unfold namesB; rw [all_false hi h]; rfl
theorem names_good {ss : List ByteArray} (h0 : 0 < ss.length) (h : ∀ d, d < ss.length → namesR ss d = true) : namesB ss = true := by
  unfold namesB; rw [all_true h]; simpa using h0
theorem namesR_same {ss : List ByteArray} {i d : Nat} (hi : i < ss.length) (hd : d < i) (h : sameB ss i d = true) : namesR ss i = false := by
  rw [namesR_eq ss i hi]
  have : (List.range i).any (sameB ss i) = true := List.any_eq_true.2 ⟨d, List.mem_range.2 hd, h⟩
  rw [this]; rfl
theorem namesR_new {ss : List ByteArray} {i : Nat} (hi : i < ss.length) (h : ∀ d, d < i → sameB ss i d = false) : namesR ss i = nameB (ss.getD i ByteArray.empty).data.toList := by
  rw [namesR_eq ss i hi]
  have : (List.range i).any (sameB ss i) = false := by
    rw [List.any_eq_false]; intro x hx; simp [h x (List.mem_range.1 hx)]
  rw [this]; rfl
end Lat

namespace Lat
variable {Z : Nat → Nat → Bool} {n : Nat}
theorem ord_bad {a b : Nat} (ha : a < n) (hb : b < n) (h : ordR Z n a b = false) : rOrd Z n = false := all_false ha (all_false hb h)
theorem ordR_bad1 {a b : Nat} (h : ordT Z a b = false) : ordR Z n a b = false := by unfold ordR; rw [h]; rfl
theorem ordR_bad2 {a b c : Nat} (hc : c < n) (h : ordC Z a b c = false) : ordR Z n a b = false := by unfold ordR; rw [all_false hc h, Bool.and_false]
theorem ordR_good {a b : Nat} (h : ordT Z a b = true) (h2 : ∀ c, c < n → ordC Z a b c = true) : ordR Z n a b = true := by unfold ordR; rw [h, all_true h2]; rfl
theorem joins_bad {a b : Nat} (ha : a < n) (hb : b < n) (h : jP Z n a b = false) : rJoins Z n = false := all_false ha (all_false hb h)
end Lat



set_option maxHeartbeats 4000000 in
set_option maxRecDepth 100000 in
theorem rlattice_any (w : World) (vn vl : Value) (ss : List ByteArray) (G : Nat) (L : Nat → Nat) (Z : Nat → Nat → Bool) (hS : Strs w vn ss) (hR : Rag w vl G L Z) :
    Calls Try.prog 7 #[.agg #[vn, vl]] w fun e w' => e = .returned (.int .i64 (Lat.checkE ss G L Z)) ∧ Below w.heap.size w w' := by
  have HE := hide (Lat.rcheck_eq ss G L Z)
  obtain ⟨ad, b, off, cap, rfl, ha, hl, hs, h1⟩ := hS.below (boxBelow w (.cells #[vn, vl] 25))
  have HR := hide (hR.below (boxBelow w (.cells #[.slice ad ss.length cap, vl] 25)))
  have q0 := cellBox0 w (.slice ad ss.length cap) vl 25
  have q1 := cellBox1 w (.slice ad ss.length cap) vl 25
  have HB0 := hide (boxBelow w (.cells #[.slice ad ss.length cap, vl] 25))
  clear hS hR
  generalize hlen : ss.length = n at *
  have HN := hide hlen
  clear hlen
  by_cases hn0 : n = 0
  · subst hn0
    have hE1 : Hid (Lat.namesB ss = false) := by
      show Lat.namesB ss = false
      unfold Lat.namesB; rw [HN.out]; simp
    clear ha h1 hs q1
    go_enter Try.func7, Try.ntmps7
    go_wp2
    go_ret
    exact ⟨ret_int (by rw [HE.out, if_pos hE1.out]), HB0.out⟩
  obtain rfl := ha (by omega)
  have hn0' : ((n : Int) == 0) = false := by simp; omega
  go_enter Try.func7, Try.ntmps7
  go_wp2
  generalize w.alloc (.cells #[.slice (some ⟨b, off, none⟩) n cap, vl] 25) = W0 at *
  -- the names
  go_loopw [4] (fun i wr => ∃ k : Nat, k ≤ n ∧ i = .int .i64 k ∧ (∀ d, d < k → Lat.namesR ss d = true) ∧ Below W0.heap.size W0 wr) (fun i _ => n - (intOf i).toNat)
  case atStart => exact ⟨0, Nat.zero_le _, rfl, fun d hd => absurd hd (Nat.not_lt_zero _), Below.refl _ _⟩
  case round =>
    obtain ⟨i, hi, rfl, hall, hnx⟩ := hrel
    have HA := hide hall
    clear hall
    by_cases hlt : i < n
    · obtain ⟨s, hsk⟩ : ∃ s, s = ss.getD i ByteArray.empty := ⟨_, rfl⟩
      have hc0 := h1 i hlt
      rw [← hsk] at hc0
      have hsz : s.size ≤ maxLen := by rw [hsk]; exact size_getD hs i
      have HK := hide hsk
      have HNX := hide hnx
      clear hsk hnx
      go_wp2
      go_loopw [5] (fun j wi => ∃ k : Nat, k ≤ i ∧ j = .int .i64 k ∧ (∀ d, d < k → Lat.sameB ss i d = false) ∧ Below W0.heap.size W0 wi) (fun j _ => i - (intOf j).toNat)
      case atStart => exact ⟨0, Nat.zero_le _, rfl, fun d hd => absurd hd (Nat.not_lt_zero _), HNX.out⟩
      case round =>
        obtain ⟨k, hk, rfl, hall, hnx⟩ := hrel
        have HB := hide hall
        clear hall HNX
        have t0 := cellUp q0 hnx
        have t1 := cellUp hc0 hnx
        by_cases hki : k < i
        · obtain ⟨t, htk⟩ : ∃ t, t = ss.getD k ByteArray.empty := ⟨_, rfl⟩
          have t2 := cellUp (h1 k (by omega)) hnx
          rw [← htk] at t2
          have HT := hide htk
          have b1 : (0 : Int) ≤ (i : Int) := by omega
          have b2 : (i : Int) < (n : Int) := by omega
          have b3 : (0 : Int) ≤ (k : Int) := by omega
          have b4 : (k : Int) < (n : Int) := by omega
          have HSB : Hid (Lat.sameB ss i k = (s.toList == t.toList)) := by
            show Lat.sameB ss i k = _
            unfold Lat.sameB; rw [← HK.out, ← htk]
          clear htk h1 hs q0 q1 hc0
          cases hst : (s.toList == t.toList)
          · go_wp2_with fail
            go_quiet (fail)
            go_wp2
            go_roundw
            case rel => exact ⟨k + 1, by omega, by go_num, fun d hd => by
                by_cases e : d = k
                · subst e; rw [HSB.out]; exact hst
                · exact HB.out d (by omega), drewBelow hnx _⟩
            case measure => simp [intOf]; omega
          · go_wp2_with fail
            go_quiet (fail)
            go_wp2
            go_ret
            exact ⟨ret_int (by rw [HE.out, if_pos (Lat.names_bad (by rw [HN.out]; exact hlt) (Lat.namesR_same (by rw [HN.out]; exact hlt) hki (by rw [HSB.out]; exact hst)))]), up HB0.out (drewBelow hnx _)⟩
        · go_wp2_with fail
          refine (name_any _ s hsz).mono ?_
          rintro e w' ⟨rfl, hw⟩
          subst hw
          have e : k = i := by omega
          subst e
          have HNM : Hid (Lat.namesR ss k = Lat.nameB s.data.toList) := by
            rw [HK.out]; exact Lat.namesR_new (by rw [HN.out]; exact hlt) HB.out
          cases hnm : Lat.nameB s.data.toList
          · go_wp2
            go_ret
            exact ⟨ret_int (by rw [HE.out, if_pos (Lat.names_bad (by rw [HN.out]; exact hlt) (by rw [HNM.out]; exact hnm))]), up HB0.out hnx⟩
          · go_wp2
            go_roundw
            case rel => exact ⟨k + 1, by omega, by go_num, fun d hd => by
                by_cases e : d = k
                · subst e; rw [HNM.out]; exact hnm
                · exact HA.out d (by omega), hnx⟩
            case measure => simp [intOf]; omega
    · have HNB : Hid (Lat.namesB ss = true) := Lat.names_good (by rw [HN.out]; omega) (fun d hd => HA.out d (by have := HN.out; omega))
      by_cases h6 : 6 < n
      · go_wp2
        go_ret
        exact ⟨ret_int (by rw [HE.out, HNB.out, if_neg (by simp), if_pos h6]), up HB0.out hnx⟩
      have HE5 : Hid (Lat.checkE ss G L Z = if Lat.squareB G L n = false then 5 else if Lat.rOrd Z n = false then 5 else if Lat.rJoins Z n = false then 5 else 0) := hide (by
        rw [HE.out, HNB.out, if_neg (by simp), if_neg h6])
      clear HE HNB HA
      have HR1 := hide (HR.out.below hnx)
      have HNX := hide hnx
      have p1 := cellUp q1 hnx
      have P0 := hide (cellUp q0 hnx)
      have P1 := hide p1
      obtain ⟨ga, gb, go, gc, A, RB, RO, C, hvl, hg, hGm, hLm, r1, r2⟩ := HR1.out
      rw [hvl] at p1
      clear hnx hs h1 q0 HR
      by_cases hGn : n = G
      · subst hGn
        obtain rfl := hg (by omega)
        have hnb : ((n : Int) != (n : Int)) = false := by simp
        clear r2 hGm
        go_wp2
        go_loop [6] (fun i => ∃ k : Nat, k ≤ n ∧ i = .int .i64 k ∧ ∀ d, d < k → Lat.squareP L n d = true) (fun i => n - (intOf i).toNat)
        case atStart => exact ⟨0, Nat.zero_le _, rfl, fun d hd => absurd hd (Nat.not_lt_zero _)⟩
        case round =>
          obtain ⟨k, hk, rfl, hall⟩ := hrel
          have HA := hide hall
          clear hall
          by_cases hkn : k < n
          · have rk := r1 k hkn
            have lk := hLm k hkn
            by_cases hLk : L k = n
            · have hs' : ((L k : Int) != (n : Int)) = false := by rw [nat_bne]; simp [hLk]
              have HS := hide hLk
              clear hLk r1 hLm
              go_wp2
              go_round
              case rel => exact ⟨k + 1, by omega, by go_num, fun d hd => by
                  by_cases e : d = k
                  · subst e; simp [Lat.squareP, HS.out]
                  · exact HA.out d (by omega)⟩
              case measure => simp [intOf]; omega
            · have hs' : ((L k : Int) != (n : Int)) = true := by rw [nat_bne]; simp [hLk]
              have HS := hide hLk
              clear hLk r1 hLm
              go_wp2
              go_ret
              have hsq : Lat.squareB n L n = false := by
                unfold Lat.squareB; rw [Lat.all_false hkn (by simp [Lat.squareP, HS.out])]; simp
              exact ⟨ret_int (by rw [HE5.out, if_pos hsq]), up HB0.out HNX.out⟩
          · have HSQ : Hid (Lat.squareB n L n = true) := by
              show Lat.squareB n L n = true
              unfold Lat.squareB; rw [Lat.all_true (fun d hd => HA.out d (by omega))]; simp
            have HG := hide (rag_grid HR1.out (by omega) HSQ.out)
            clear HA HR1 r1 hLm
            have HE4 : Hid (Lat.checkE ss n L Z = if Lat.rOrd Z n = false then 5 else if Lat.rJoins Z n = false then 5 else 0) := hide (by
              rw [HE5.out, HSQ.out, if_neg (by simp)])
            clear HE5 HSQ
            obtain ⟨gb', go', gc', RB', RO'', C', hv2, g1, g2⟩ := HG.out
            rw [← hvl] at p1
            rw [hv2] at p1
            have h6' : n ≤ 6 := by omega
            have HG1 := hide g1
            have HG2 := hide g2
            clear hvl q1 g1 g2
            go_wp2
            go_loop [7] (fun i => ∃ k : Nat, k ≤ n ∧ i = .int .i64 k ∧ ∀ d, d < k → Lat.ordA Z n d = true) (fun i => n - (intOf i).toNat)
            case atStart => exact ⟨0, Nat.zero_le _, rfl, fun d hd => absurd hd (Nat.not_lt_zero _)⟩
            case round =>
              obtain ⟨a, hka, rfl, hall⟩ := hrel
              have HA := hide hall
              clear hall
              by_cases han : a < n
              · have ra := HG1.out a han
                go_wp2
                go_loop [8] (fun i => ∃ k : Nat, k ≤ n ∧ i = .int .i64 k ∧ ∀ d, d < k → Lat.ordR Z n a d = true) (fun i => n - (intOf i).toNat)
                case atStart => exact ⟨0, Nat.zero_le _, rfl, fun d hd => absurd hd (Nat.not_lt_zero _)⟩
                case round =>
                  obtain ⟨c, hkc, rfl, hall⟩ := hrel
                  have HB := hide hall
                  clear hall
                  by_cases hcn : c < n
                  · have rc := HG1.out c hcn
                    have cac := HG2.out a c han hcn
                    have cca := HG2.out c a hcn han
                    by_cases hac : a = c
                    · subst hac
                      have hee : ((a : Int) == (a : Int)) = true := by simp
                      cases zaa : Z a a
                      · rw [zaa] at cac
                        have HT : Hid (Lat.ordT Z a a = false) := hide (by simp [Lat.ordT, zaa])
                        clear zaa cca
                        go_wp2
                        go_ret
                        exact ⟨ret_int (by rw [HE4.out, if_pos (Lat.ord_bad han han (Lat.ordR_bad1 HT.out))]), up HB0.out HNX.out⟩
                      · have HT : Hid (Lat.ordT Z a a = true) := hide (by simp [Lat.ordT, zaa])
                        rw [zaa] at cac
                        clear cca zaa
                        go_wp2
                        clear cac
                        go_loop [9] (fun i => ∃ k : Nat, k ≤ n ∧ i = .int .i64 k ∧ ∀ d, d < k → Lat.ordC Z a a d = true) (fun i => n - (intOf i).toNat)
                        case atStart => exact ⟨0, Nat.zero_le _, rfl, fun d hd => absurd hd (Nat.not_lt_zero _)⟩
                        case round =>
                          obtain ⟨d, hkd, rfl, hall⟩ := hrel
                          have HC := hide hall
                          clear hall
                          by_cases hdn : d < n
                          · have cab := HG2.out a a han han
                            have cbd := HG2.out a d han hdn
                            have cad := HG2.out a d han hdn
                            have HCD : Hid (Lat.ordC Z a a d = !(Z a a && Z a d && !Z a d)) := rfl
                            generalize Z a a = x1 at *
                            generalize Z a d = x2 at *
                            cases x1
                            · go_wp2
                              go_round
                              case rel => exact ⟨d + 1, by omega, by go_num, fun y hy => by
                                  by_cases e : y = d
                                  · subst e; rw [HCD.out]; rfl
                                  · exact HC.out y (by omega)⟩
                              case measure => simp [intOf]; omega
                            · cases x2
                              · go_wp2
                                go_round
                                case rel => exact ⟨d + 1, by omega, by go_num, fun y hy => by
                                    by_cases e : y = d
                                    · subst e; rw [HCD.out]; rfl
                                    · exact HC.out y (by omega)⟩
                                case measure => simp [intOf]; omega
                              · go_wp2
                                go_round
                                case rel => exact ⟨d + 1, by omega, by go_num, fun y hy => by
                                    by_cases e : y = d
                                    · subst e; rw [HCD.out]; rfl
                                    · exact HC.out y (by omega)⟩
                                case measure => simp [intOf]; omega
                          · have HR2 : Hid (Lat.ordR Z n a a = true) := hide (Lat.ordR_good HT.out (fun x hx => HC.out x (by omega)))
                            go_wp2
                            go_round
                            case rel => exact ⟨a + 1, by omega, by go_num, fun y hy => by
                                by_cases e : y = a
                                · subst e; exact HR2.out
                                · exact HB.out y (by omega)⟩
                            case measure => simp [intOf]; omega
                    · have hee : ((a : Int) == (c : Int)) = false := by rw [nat_beq]; simp [hac]
                      cases zac : Z a c
                      · have HT : Hid (Lat.ordT Z a c = true) := hide (by simp [Lat.ordT, zac, hac])
                        rw [zac] at cac
                        clear zac cca
                        go_wp2
                        clear cac
                        go_loop [9] (fun i => ∃ k : Nat, k ≤ n ∧ i = .int .i64 k ∧ ∀ d, d < k → Lat.ordC Z a c d = true) (fun i => n - (intOf i).toNat)
                        case atStart => exact ⟨0, Nat.zero_le _, rfl, fun d hd => absurd hd (Nat.not_lt_zero _)⟩
                        case round =>
                          obtain ⟨d, hkd, rfl, hall⟩ := hrel
                          have HC := hide hall
                          clear hall
                          by_cases hdn : d < n
                          · have cab := HG2.out a c han hcn
                            have cbd := HG2.out c d hcn hdn
                            have cad := HG2.out a d han hdn
                            have HCD : Hid (Lat.ordC Z a c d = !(Z a c && Z c d && !Z a d)) := rfl
                            generalize Z a c = x1 at *
                            generalize Z c d = x2 at *
                            generalize Z a d = x3 at *
                            cases x1
                            · go_wp2
                              go_round
                              case rel => exact ⟨d + 1, by omega, by go_num, fun y hy => by
                                  by_cases e : y = d
                                  · subst e; rw [HCD.out]; rfl
                                  · exact HC.out y (by omega)⟩
                              case measure => simp [intOf]; omega
                            · cases x2
                              · go_wp2
                                go_round
                                case rel => exact ⟨d + 1, by omega, by go_num, fun y hy => by
                                    by_cases e : y = d
                                    · subst e; rw [HCD.out]; rfl
                                    · exact HC.out y (by omega)⟩
                                case measure => simp [intOf]; omega
                              · cases x3
                                · go_wp2
                                  go_ret
                                  exact ⟨ret_int (by rw [HE4.out, if_pos (Lat.ord_bad han hcn (Lat.ordR_bad2 hdn (by rw [HCD.out]; rfl)))]), up HB0.out HNX.out⟩
                                · go_wp2
                                  go_round
                                  case rel => exact ⟨d + 1, by omega, by go_num, fun y hy => by
                                      by_cases e : y = d
                                      · subst e; rw [HCD.out]; rfl
                                      · exact HC.out y (by omega)⟩
                                  case measure => simp [intOf]; omega
                          · have HR2 : Hid (Lat.ordR Z n a c = true) := hide (Lat.ordR_good HT.out (fun x hx => HC.out x (by omega)))
                            go_wp2
                            go_round
                            case rel => exact ⟨c + 1, by omega, by go_num, fun y hy => by
                                by_cases e : y = c
                                · subst e; exact HR2.out
                                · exact HB.out y (by omega)⟩
                            case measure => simp [intOf]; omega
                      · rw [zac] at cac
                        cases zca : Z c a
                        · have HT : Hid (Lat.ordT Z a c = true) := hide (by simp [Lat.ordT, zca, hac])
                          rw [zca] at cca
                          clear zac zca
                          go_wp2
                          clear cac cca
                          go_loop [9] (fun i => ∃ k : Nat, k ≤ n ∧ i = .int .i64 k ∧ ∀ d, d < k → Lat.ordC Z a c d = true) (fun i => n - (intOf i).toNat)
                          case atStart => exact ⟨0, Nat.zero_le _, rfl, fun d hd => absurd hd (Nat.not_lt_zero _)⟩
                          case round =>
                            obtain ⟨d, hkd, rfl, hall⟩ := hrel
                            have HC := hide hall
                            clear hall
                            by_cases hdn : d < n
                            · have cab := HG2.out a c han hcn
                              have cbd := HG2.out c d hcn hdn
                              have cad := HG2.out a d han hdn
                              have HCD : Hid (Lat.ordC Z a c d = !(Z a c && Z c d && !Z a d)) := rfl
                              generalize Z a c = x1 at *
                              generalize Z c d = x2 at *
                              generalize Z a d = x3 at *
                              cases x1
                              · go_wp2
                                go_round
                                case rel => exact ⟨d + 1, by omega, by go_num, fun y hy => by
                                    by_cases e : y = d
                                    · subst e; rw [HCD.out]; rfl
                                    · exact HC.out y (by omega)⟩
                                case measure => simp [intOf]; omega
                              · cases x2
                                · go_wp2
                                  go_round
                                  case rel => exact ⟨d + 1, by omega, by go_num, fun y hy => by
                                      by_cases e : y = d
                                      · subst e; rw [HCD.out]; rfl
                                      · exact HC.out y (by omega)⟩
                                  case measure => simp [intOf]; omega
                                · cases x3
                                  · go_wp2
                                    go_ret
                                    exact ⟨ret_int (by rw [HE4.out, if_pos (Lat.ord_bad han hcn (Lat.ordR_bad2 hdn (by rw [HCD.out]; rfl)))]), up HB0.out HNX.out⟩
                                  · go_wp2
                                    go_round
                                    case rel => exact ⟨d + 1, by omega, by go_num, fun y hy => by
                                        by_cases e : y = d
                                        · subst e; rw [HCD.out]; rfl
                                        · exact HC.out y (by omega)⟩
                                    case measure => simp [intOf]; omega
                            · have HR2 : Hid (Lat.ordR Z n a c = true) := hide (Lat.ordR_good HT.out (fun x hx => HC.out x (by omega)))
                              go_wp2
                              go_round
                              case rel => exact ⟨c + 1, by omega, by go_num, fun y hy => by
                                  by_cases e : y = c
                                  · subst e; exact HR2.out
                                  · exact HB.out y (by omega)⟩
                              case measure => simp [intOf]; omega
                        · have HT : Hid (Lat.ordT Z a c = false) := hide (by simp [Lat.ordT, zca, zac, hac])
                          rw [zca] at cca
                          clear zac zca
                          go_wp2
                          go_ret
                          exact ⟨ret_int (by rw [HE4.out, if_pos (Lat.ord_bad han hcn (Lat.ordR_bad1 HT.out))]), up HB0.out HNX.out⟩
                  · go_wp2
                    go_round
                    case rel => exact ⟨a + 1, by omega, by go_num, fun d hd => by
                        by_cases e : d = a
                        · subst e; exact Lat.all_true (fun x hx => HB.out x (by omega))
                        · exact HA.out d (by omega)⟩
                    case measure => simp [intOf]; omega
              · have HO : Hid (Lat.rOrd Z n = true) := Lat.all_true (fun x hx => HA.out x (by omega))
                have HE3 : Hid (Lat.checkE ss n L Z = if Lat.rJoins Z n = false then 5 else 0) := hide (by
                  rw [HE4.out, HO.out, if_neg (by simp)])
                clear HE4 HO HA HG1 HG2
                go_wp2
                clear p1
                have HWR := hide (up HB0.out HNX.out)
                generalize wr = wb at *
                clear HNX HB0 hv2
                go_loopw [10] (fun i wi => ∃ k : Nat, k ≤ n ∧ i = .int .i64 k ∧ (∀ d, d < k → Lat.jA Z n d = true) ∧ Below wb.heap.size wb wi) (fun i _ => n - (intOf i).toNat)
                case atStart => exact ⟨0, Nat.zero_le _, rfl, fun d hd => absurd hd (Nat.not_lt_zero _), Below.refl _ _⟩
                case round =>
                  obtain ⟨a, hka, rfl, hall, hnx⟩ := hrel
                  have HA := hide hall
                  clear hall
                  by_cases han : a < n
                  · have HNX := hide hnx
                    clear hnx
                    go_wp2
                    go_loopw [11] (fun i wi => ∃ k : Nat, k ≤ n ∧ i = .int .i64 k ∧ (∀ d, d < k → Lat.jP Z n a d = true) ∧ Below wb.heap.size wb wi) (fun i _ => n - (intOf i).toNat)
                    case atStart => exact ⟨0, Nat.zero_le _, rfl, fun d hd => absurd hd (Nat.not_lt_zero _), HNX.out⟩
                    case round =>
                      obtain ⟨c, hkc, rfl, hall, hnx⟩ := hrel
                      have HB := hide hall
                      clear hall HNX
                      by_cases hcn : c < n
                      · have t0 := cellUp P0.out hnx
                        have t1 := cellUp P1.out hnx
                        have HNX := hide hnx
                        clear hnx
                        go_wp2_with fail
                        refine (rjoin_any _ _ vl n cap a c Z (HG.out.below HNX.out) h6' han hcn).mono ?_
                        rintro e w5 ⟨rfl, hb5⟩
                        have HJ : Hid (Lat.jP Z n a c = (decide (0 ≤ Lat.joinI Z n a c) && decide (0 ≤ Lat.joinI (Lat.tr Z) n a c))) := rfl
                        generalize Lat.joinI Z n a c = x at *
                        replace t0 := cellUp t0 hb5
                        replace t1 := cellUp t1 hb5
                        have HN5 := hide (up HNX.out hb5)
                        clear hb5 HNX
                        by_cases hx : x < 0
                        · go_wp2
                          go_ret
                          exact ⟨ret_int (by rw [HE3.out, if_pos (Lat.joins_bad han hcn (by rw [HJ.out, decide_eq_false (by omega)]; rfl))]), up HWR.out HN5.out⟩
                        · go_wp2_with fail
                          refine (rmeet_any _ _ vl n cap a c Z (HG.out.below HN5.out) h6' han hcn).mono ?_
                          rintro e w6 ⟨rfl, hb6⟩
                          generalize Lat.joinI (Lat.tr Z) n a c = y at *
                          have HN6 := hide (up HN5.out hb6)
                          clear hb6 HN5 t0 t1
                          by_cases hy : y < 0
                          · go_wp2
                            go_ret
                            exact ⟨ret_int (by rw [HE3.out, if_pos (Lat.joins_bad han hcn (by rw [HJ.out, decide_eq_false (by omega : ¬ 0 ≤ y), Bool.and_false]))]), up HWR.out HN6.out⟩
                          · have HJ2 : Hid (Lat.jP Z n a c = true) := hide (by rw [HJ.out, decide_eq_true (by omega : 0 ≤ x), decide_eq_true (by omega : 0 ≤ y)]; rfl)
                            go_wp2
                            go_roundw
                            case rel => exact ⟨c + 1, by omega, by go_num, fun d hd => by
                                by_cases e : d = c
                                · subst e; exact HJ2.out
                                · exact HB.out d (by omega), HN6.out⟩
                            case measure => simp [intOf]; omega
                      · go_wp2
                        go_roundw
                        case rel => exact ⟨a + 1, by omega, by go_num, fun d hd => by
                            by_cases e : d = a
                            · subst e; exact Lat.all_true (fun x hx => HB.out x (by omega))
                            · exact HA.out d (by omega), hnx⟩
                        case measure => simp [intOf]; omega
                  · have HJJ : Hid (Lat.rJoins Z n = true) := Lat.all_true (fun x hx => HA.out x (by omega))
                    go_wp2
                    go_ret
                    exact ⟨ret_int (by rw [HE3.out, HJJ.out, if_neg (by simp)]), up HWR.out hnx⟩
      · have hnb : ((G : Int) != (n : Int)) = true := by rw [nat_bne]; simp; omega
        have hsq : Hid (Lat.squareB G L n = false) := by
          show Lat.squareB G L n = false
          unfold Lat.squareB
          rw [show (G == n) = false from by simp; omega]; rfl
        clear r1 r2 hg hLm
        go_wp2
        go_ret
        exact ⟨ret_int (by rw [HE5.out, if_pos hsq.out]), up HB0.out HNX.out⟩

end Go.Proofs.Ytmhcameodlhloaa
