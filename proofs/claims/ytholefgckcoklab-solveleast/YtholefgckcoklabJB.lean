/- SolveLeast: the law's three functions; slices.ContainsFunc of labels. -/
import Derived.Test.YtholefgckcoklabZI
import Derived.Test.YtholefgckcoklabQT
namespace Go.Proofs.Ytholefgckcoklab
open Go.RowKit

namespace Sv
def solB (Z : Nat → Nat → Bool) (U : Nat → Nat × Nat) (c : Co) : Bool := le Z c.lab (U c.to.toNat) && c.fr.all fun f => le Z (U f.toNat) (U c.to.toNat)
theorem solB_iff {Z : Nat → Nat → Bool} {cs : List Co} {U : Nat → Nat × Nat} : cs.all (solB Z U) = true ↔ Sol Z cs U := by
  rw [List.all_eq_true]
  constructor
  · intro h c hc
    have := h c hc
    unfold solB at this
    rw [Bool.and_eq_true, List.all_eq_true] at this
    exact this
  · intro h c hc
    unfold solB
    rw [Bool.and_eq_true, List.all_eq_true]
    exact h c hc
theorem solB_sol {Z : Nat → Nat → Bool} {cs : List Co} {U : Nat → Nat × Nat} (h : cs.all (solB Z U) = true) : Sol Z cs U := solB_iff.1 h
end Sv

/-- The slice v holds, in its first n places, the labels U. -/
def LabsAt (w : World) (v : Value) (n : Nat) (U : Nat → Nat × Nat) : Prop :=
  ∃ (a : Option Addr) (b off len cap : Nat), v = .slice a len cap ∧ n ≤ len ∧ len ≤ 9223372036854775807 ∧ (0 < n → a = some ⟨b, off, none⟩) ∧
    ∀ i, i < n → w.cell? ⟨b, off + i * 2, none⟩ = some (.int .i64 ((U i).1 : Nat)) ∧ w.cell? ⟨b, off + i * 2 + 1, none⟩ = some (.int .i64 ((U i).2 : Nat))
theorem LabsAt.below {w w' : World} {v : Value} {n : Nat} {U : Nat → Nat × Nat} (h : LabsAt w v n U) (hb : Below w.heap.size w w') : LabsAt w' v n U := by
  obtain ⟨a, b, off, len, cap, e, h0, hl, ha, h1⟩ := h
  exact ⟨a, b, off, len, cap, e, h0, hl, ha, fun i hi => ⟨cellUp (h1 i hi).1 hb, cellUp (h1 i hi).2 hb⟩⟩
theorem LasAt.labs {w : World} {v : Value} {n : Nat} {V : Nat → Nat × Nat} (h : LasAt w v (Sv.list n V)) : LabsAt w v n V := by
  obtain ⟨a, b, off, cap, e, h0, hl, h1⟩ := h
  rw [Sv.list_len] at e h0 hl
  exact ⟨a, b, off, n, cap, e, Nat.le_refl _, hl, h0, fun i hi => h1 i _ (Sv.list_get V hi)⟩

set_option maxHeartbeats 4000000 in
set_option maxRecDepth 100000 in
theorem right_any (w : World) (v : Value) (Bc Bl : Nat) (vn vl vc : Value) (ss : List ByteArray) (G : Nat) (L : Nat → Nat) (Z : Nat → Nat → Bool) (n : Nat) (cs : List Sv.Co) (U : Nat → Nat × Nat) (hL : LaAt w vn vl ss G L Z) (hC : CosAt w vc cs)
    (hc0 : w.cell? ⟨Bc, 0, none⟩ = some vc) (hl0 : w.cell? ⟨Bl, 0, none⟩ = some vn) (hl1 : w.cell? ⟨Bl, 1, none⟩ = some vl) (hU : LabsAt w v n U) (hok : Sv.Oks ss.length n U) (hall : ∀ c ∈ cs, Sv.coB ss.length n c = true) :
    Calls Try.prog 21 #[v, .pointer (some ⟨Bc, 0, none⟩), .pointer (some ⟨Bl, 0, none⟩)] w fun e w' => e = .returned (.bool (cs.all (Sv.solB Z U))) ∧ Below w.heap.size w w' := by
  have HL := hide hL
  have HALL := hide hall
  have HOK := hide hok
  have HL0 := hide hl0
  have HL1 := hide hl1
  obtain ⟨R, hR⟩ : ∃ R, R = cs.all (Sv.solB Z U) := ⟨_, rfl⟩
  have HR := hide hR
  rw [← hR]
  obtain ⟨ca, cb, co, cc, rfl, h0, hl, hel⟩ := hC
  obtain ⟨len, hlen⟩ : ∃ n, n = cs.length := ⟨_, rfl⟩
  have HLn := hide hlen
  have HEL := hide hel
  have HA0 := hide h0
  rw [← hlen] at HA0 hl hc0
  obtain ⟨ua, ub, uo, ulen, uc, rfl, hun, hul, hua, hue⟩ := hU
  have HUA := hide hua
  have HUE := hide hue
  clear hL hall hok hl0 hl1 hR h0 hel hlen hua hue
  go_enter Try.func21, Try.ntmps21
  go_wp2_with fail
  clear hc0
  go_loopw [15] (fun i wx => ∃ k : Nat, k ≤ len ∧ i = .int .i64 k ∧ Below w.heap.size w wx ∧ ∀ c ∈ cs.take k, Sv.solB Z U c = true) (fun i _ => len - (intOf i).toNat)
  case atStart => exact ⟨0, Nat.zero_le _, rfl, Below.refl _ _, by simp⟩
  case round =>
    obtain ⟨k, hk, rfl, hbw, hall⟩ := hrel
    have HB := hide hbw
    have HA := hide hall
    clear hbw hall
    obtain ⟨wo, rfl⟩ : ∃ wo, wo = wr := ⟨_, rfl⟩
    by_cases hlt : k < len
    · obtain ⟨c, hc⟩ : ∃ c, cs[k]? = some c := ⟨_, List.getElem?_eq_getElem (by rw [← HLn.out]; exact hlt)⟩
      have HCK := hide hc
      obtain ⟨hcf, hct, hcl⟩ := Sv.coB_spec (HALL.out c (List.mem_of_getElem? hc))
      have HCF := hide hcf
      obtain ⟨-, htn, hte⟩ := Sv.varB_spec hct
      obtain ⟨hlo, hme, hle⟩ := Sv.labB_ok hcl
      obtain ⟨vf, hvf, g0, g1, g2, g3⟩ := HEL.out k c hc
      replace g0 := cellUp g0 HB.out
      replace g1 := cellUp g1 HB.out
      replace g2 := cellUp g2 HB.out
      replace g3 := cellUp g3 HB.out
      obtain ⟨fa, fb, fo, fc, rfl, hfa, hfl, hfe⟩ := hvf
      obtain ⟨flen, hflen⟩ : ∃ m, m = c.fr.length := ⟨_, rfl⟩
      have HFL := hide hflen
      rw [← hflen] at hfa hfl g1
      have HFA := hide hfa
      have HFE := hide hfe
      obtain rfl := HA0.out (by omega)
      obtain ⟨t, ht⟩ : ∃ t, t = c.to.toNat := ⟨_, rfl⟩
      have HT := hide ht
      rw [← ht] at hte htn
      rw [hte] at g0
      obtain ⟨y, hy⟩ : ∃ y, y = c.lab := ⟨_, rfl⟩
      have HY := hide hy
      have HYO : Hid (Sv.Ok ss.length y) := hide (by rw [hy]; exact hlo)
      have hy1 : c.mask = ((y.1 : Nat) : Int) := by rw [hy]; exact hme
      have hy2 : c.level = ((y.2 : Nat) : Int) := by rw [hy]; exact hle
      rw [hy1] at g2
      rw [hy2] at g3
      obtain rfl := HUA.out (by omega)
      obtain ⟨x, hx⟩ : ∃ x, x = U t := ⟨_, rfl⟩
      have HX := hide hx
      have HXO : Hid (Sv.Ok ss.length x) := hide (by rw [hx]; exact HOK.out t htn)
      have HSB : Hid (Sv.solB Z U c = (Sv.le Z y x && c.fr.all fun f => Sv.le Z (U f.toNat) x)) := hide (by unfold Sv.solB; rw [← ht, hx, hy])
      obtain ⟨m0, m1⟩ := HUE.out t htn
      rw [← hx] at m0 m1
      obtain ⟨W5, hW5⟩ : ∃ W5, W5 = wo.alloc (.cells #[.int .i64 (t : Nat), .slice fa flen fc, .int .i64 (y.1 : Nat), .int .i64 (y.2 : Nat)] 50) := ⟨_, rfl⟩
      have hb5 : Below w.heap.size w W5 := by rw [hW5]; exact up HB.out (boxBelow wo _)
      have HB5 := hide hb5
      have bx : W5.heap[wo.heap.size]? = some (.cells #[.int .i64 (t : Nat), .slice fa flen fc, .int .i64 (y.1 : Nat), .int .i64 (y.2 : Nat)] 50 (0, 0)) := by rw [hW5]; exact block_new wo _
      have HBX := hide bx
      have q0 := cell_gn ((block_at bx 0).trans rfl)
      have q1 := cell_gn ((block_at bx 1).trans rfl)
      have q2 := cell_gn ((block_at bx 2).trans rfl)
      have q3 := cell_gn ((block_at bx 3).trans rfl)
      have p0 := cell_gn (cellUp HL0.out hb5)
      have p1 := cell_gn (cellUp HL1.out hb5)
      replace m0 := cell_gn (cellUp m0 hb5)
      replace m1 := cell_gn (cellUp m1 hb5)
      have HFG := hide (fun k os => sbelow_ok (gn W5 k os) vn vl ss G L Z y x (HL.out.below (up HB5.out (below_gn W5 k os))) HYO.out HXO.out)
      obtain ⟨r1, hr1⟩ : ∃ r, r = Sv.le Z y x := ⟨_, rfl⟩
      have HR1 := hide hr1
      rw [← hr1] at HFG
      have hti : (0 : Int) ≤ (t : Int) := by omega
      have htl : (t : Int) < (ulen : Int) := by omega
      clear hc hcf hct hcl hlo hme hle hfa hfe hflen ht hte hy hy1 hy2 hx hb5 bx hr1
      go_wp2_with fail
      rw [← hW5]
      clear hW5 g0 g1 g2 g3
      refine wp_region_quiet_gn (by kernel_rfl) (by kernel_rfl) ?_
      repeat (quiet_step ((exact Calls.gn_of (HFG.out _ _))))
      refine wpQuiet_nil ?_
      intro w6 hw'
      obtain ⟨⟨nq, osq⟩, hw''⟩ := hw'
      have hb6 : Below W5.heap.size W5 w6 := by rw [hw'']; exact below_gn W5 nq osq
      have HB6 := hide (up HB5.out hb6)
      have HBX6 := hide (at_up HBX.out hb6)
      clear hw'' hb6 q0 q1 q2 q3 p0 p1 m0 m1 HFG
      cases r1
      · go_wp2_with fail
        go_ret
        refine ⟨ret_bool ?_, HB6.out⟩
        rw [HR.out, List.all_eq_false.2 ⟨c, List.mem_of_getElem? HCK.out, by rw [HSB.out, ← HR1.out]; simp⟩]
      · have q1 := (block_at HBX6.out 1).trans rfl
        go_wp2_with fail
        clear q1
        go_loopw [36] (fun i wx => ∃ j : Nat, j ≤ flen ∧ i = .int .i64 j ∧ Below w.heap.size w wx ∧ wx.heap[wo.heap.size]? = some (.cells #[.int .i64 (t : Nat), .slice fa flen fc, .int .i64 (y.1 : Nat), .int .i64 (y.2 : Nat)] 50 (0, 0)) ∧ ∀ f ∈ c.fr.take j, Sv.le Z (U f.toNat) x = true) (fun i _ => flen - (intOf i).toNat)
        case atStart => exact ⟨0, Nat.zero_le _, rfl, HB6.out, HBX6.out, by simp⟩
        case round =>
          clear HB6 HBX6
          obtain ⟨j, hj, rfl, hb7, hbx7, hall7⟩ := hrel
          have HB7 := hide hb7
          have HBX7 := hide hbx7
          have HA7 := hide hall7
          clear hall7
          by_cases hjl : j < flen
          · obtain ⟨f, hf⟩ : ∃ f, c.fr[j]? = some f := ⟨_, List.getElem?_eq_getElem (by rw [← HFL.out]; exact hjl)⟩
            have HFK := hide hf
            obtain ⟨-, hgn, hge⟩ := Sv.varB_spec (HCF.out f (List.mem_of_getElem? hf))
            obtain ⟨u, hu⟩ : ∃ x, x = f.toNat := ⟨_, rfl⟩
            have HU := hide hu
            rw [← hu] at hgn hge
            have ge := cellUp (HFE.out j f hf) hb7
            rw [hge] at ge
            obtain rfl := HFA.out (by omega)
            obtain ⟨z, hz⟩ : ∃ z, z = U u := ⟨_, rfl⟩
            have HZ := hide hz
            have HZO : Hid (Sv.Ok ss.length z) := hide (by rw [hz]; exact HOK.out u hgn)
            obtain ⟨m0, m1⟩ := HUE.out t htn
            rw [← HX.out] at m0 m1
            obtain ⟨n0, n1⟩ := HUE.out u hgn
            rw [← hz] at n0 n1
            have q0 := cell_gn ((block_at hbx7 0).trans rfl)
            have p0 := cell_gn (cellUp HL0.out hb7)
            have p1 := cell_gn (cellUp HL1.out hb7)
            replace m0 := cell_gn (cellUp m0 hb7)
            replace m1 := cell_gn (cellUp m1 hb7)
            replace n0 := cell_gn (cellUp n0 hb7)
            replace n1 := cell_gn (cellUp n1 hb7)
            have HFG := hide (fun k os => sbelow_ok (gn wr k os) vn vl ss G L Z z x (HL.out.below (up HB7.out (below_gn wr k os))) HZO.out HXO.out)
            obtain ⟨r2, hr2⟩ : ∃ r, r = Sv.le Z z x := ⟨_, rfl⟩
            have HR2 := hide hr2
            rw [← hr2] at HFG
            have hui : (0 : Int) ≤ (u : Int) := by omega
            have hul2 : (u : Int) < (ulen : Int) := by omega
            clear hf hu hge hz hr2 hb7 hbx7
            go_wp2_with fail
            clear ge
            refine wp_region_quiet_gn (by kernel_rfl) (by kernel_rfl) ?_
            repeat (quiet_step ((exact Calls.gn_of (HFG.out _ _))))
            refine wpQuiet_nil ?_
            intro w8 hw'
            obtain ⟨⟨nq, osq⟩, hw''⟩ := hw'
            have hb8 : Below wr.heap.size wr w8 := by rw [hw'']; exact below_gn wr nq osq
            have HB8 := hide (up HB7.out hb8)
            have HBX8 := hide (at_up HBX7.out hb8)
            clear hw'' hb8 q0 p0 p1 m0 m1 n0 n1 HFG
            cases r2
            · go_wp2_with fail
              go_ret
              refine ⟨ret_bool ?_, HB8.out⟩
              have hff : (c.fr.all fun f => Sv.le Z (U f.toNat) x) = false := List.all_eq_false.2 ⟨f, List.mem_of_getElem? HFK.out, by rw [← HU.out, ← HZ.out, ← HR2.out]; simp⟩
              rw [HR.out, List.all_eq_false.2 ⟨c, List.mem_of_getElem? HCK.out, by rw [HSB.out, hff]; simp⟩]
            · go_wp2_with fail
              go_roundw
              case rel => exact ⟨j + 1, by omega, by go_num, HB8.out, HBX8.out, fun g hg => by
                  rw [take_snoc HFK.out] at hg
                  rcases List.mem_append.1 hg with hg | hg
                  · exact HA7.out g hg
                  · simp at hg; subst hg; rw [← HU.out, ← HZ.out, ← HR2.out]⟩
              case measure => simp [intOf]; omega
          · clear hb7 hbx7
            go_wp2_with fail
            go_roundw
            case rel => exact ⟨k + 1, by omega, by go_num, HB7.out, fun d hd => by
                rw [take_snoc HCK.out] at hd
                rcases List.mem_append.1 hd with hd | hd
                · exact HA.out d hd
                · simp at hd
                  subst hd
                  rw [HSB.out, ← HR1.out, List.all_eq_true.2 fun f hf => HA7.out f (by rw [List.take_of_length_le (by rw [← HFL.out]; omega)]; exact hf)]
                  rfl⟩
            case measure => simp [intOf]; omega
    · go_wp2_with fail
      go_ret
      exact ⟨ret_bool (by rw [HR.out, List.all_eq_true.2 fun c hc => HA.out c (by rw [List.take_of_length_le (by rw [← HLn.out]; omega)]; exact hc)]), HB.out⟩

set_option maxHeartbeats 2000000 in
set_option maxRecDepth 100000 in
theorem sleq_any (w : World) (va vb : Value) (Bl : Nat) (vn vl : Value) (ss : List ByteArray) (G : Nat) (L : Nat → Nat) (Z : Nat → Nat → Bool) (n : Nat) (V U : Nat → Nat × Nat) (hL : LaAt w vn vl ss G L Z)
    (hl0 : w.cell? ⟨Bl, 0, none⟩ = some vn) (hl1 : w.cell? ⟨Bl, 1, none⟩ = some vl) (hV : LasAt w va (Sv.list n V)) (hU : LabsAt w vb n U) (hok : Sv.Oks ss.length n V) (hok' : Sv.Oks ss.length n U) (hle : Sv.Les Z n V U) :
    Calls Try.prog 23 #[va, vb, .pointer (some ⟨Bl, 0, none⟩)] w fun e w' => e = .returned (.bool true) ∧ Below w.heap.size w w' := by
  have HL := hide hL
  have HOK := hide hok
  have HOK' := hide hok'
  have HLE := hide hle
  have HL0 := hide hl0
  have HL1 := hide hl1
  obtain ⟨a, b, off, cap, rfl, h0, hl, hel⟩ := hV
  rw [Sv.list_len] at h0 hl ⊢
  have HEL : Hid (∀ i, i < n → w.cell? ⟨b, off + i * 2, none⟩ = some (.int .i64 ((V i).1 : Nat)) ∧ w.cell? ⟨b, off + i * 2 + 1, none⟩ = some (.int .i64 ((V i).2 : Nat))) := hide fun i hi => hel i _ (Sv.list_get V hi)
  have HA0 := hide h0
  obtain ⟨ua, ub, uo, ulen, uc, rfl, hun, hul, hua, hue⟩ := hU
  have HUA := hide hua
  have HUE := hide hue
  clear hL hok hok' hle hl0 hl1 h0 hel hua hue
  go_enter Try.func23, Try.ntmps23
  go_wp2_with fail
  go_loopw [11] (fun i wx => ∃ k : Nat, k ≤ n ∧ i = .int .i64 k ∧ Below w.heap.size w wx) (fun i _ => n - (intOf i).toNat)
  case atStart => exact ⟨0, Nat.zero_le _, rfl, Below.refl _ _⟩
  case round =>
    obtain ⟨k, hk, rfl, hb⟩ := hrel
    have HB := hide hb
    by_cases hlt : k < n
    · obtain rfl := HA0.out (by omega)
      obtain rfl := HUA.out (by omega)
      obtain ⟨x, hx⟩ : ∃ x, x = V k := ⟨_, rfl⟩
      obtain ⟨y, hy⟩ : ∃ x, x = U k := ⟨_, rfl⟩
      have HXO : Hid (Sv.Ok ss.length x) := hide (by rw [hx]; exact HOK.out k hlt)
      have HYO : Hid (Sv.Ok ss.length y) := hide (by rw [hy]; exact HOK'.out k hlt)
      have HXY : Hid (Sv.le Z x y = true) := hide (by rw [hx, hy]; exact HLE.out k hlt)
      obtain ⟨m0, m1⟩ := HEL.out k hlt
      rw [← hx] at m0 m1
      obtain ⟨n0, n1⟩ := HUE.out k hlt
      rw [← hy] at n0 n1
      have p0 := cell_gn (cellUp HL0.out hb)
      have p1 := cell_gn (cellUp HL1.out hb)
      replace m0 := cell_gn (cellUp m0 hb)
      replace m1 := cell_gn (cellUp m1 hb)
      replace n0 := cell_gn (cellUp n0 hb)
      replace n1 := cell_gn (cellUp n1 hb)
      have HFG := hide (fun k os => sbelow_ok (gn wr k os) vn vl ss G L Z x y (HL.out.below (up HB.out (below_gn wr k os))) HXO.out HYO.out)
      rw [HXY.out] at HFG
      have hkk : (k : Int) < (n : Int) := by omega
      have hku : (k : Int) < (ulen : Int) := by omega
      clear hx hy hb
      go_wp2_with fail
      refine wp_region_quiet_gn (by kernel_rfl) (by kernel_rfl) ?_
      repeat (quiet_step ((exact Calls.gn_of (HFG.out _ _))))
      refine wpQuiet_nil ?_
      intro w8 hw'
      obtain ⟨⟨nq, osq⟩, hw''⟩ := hw'
      have hb8 : Below wr.heap.size wr w8 := by rw [hw'']; exact below_gn wr nq osq
      have HB8 := hide (up HB.out hb8)
      clear hw'' hb8 p0 p1 m0 m1 n0 n1 HFG
      go_wp2_with fail
      go_roundw
      case rel => exact ⟨k + 1, by omega, by go_num, HB8.out⟩
      case measure => simp [intOf]; omega
    · clear hb
      go_wp2_with fail
      go_ret
      exact ⟨rfl, HB.out⟩

end Go.Proofs.Ytholefgckcoklab
