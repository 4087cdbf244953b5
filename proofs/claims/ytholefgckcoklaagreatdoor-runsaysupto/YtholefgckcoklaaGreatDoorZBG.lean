/- The first error among modules. -/
import Derived.Test.YtholefgckcoklaaGreatDoorZBE
import Derived.Test.YtholefgckcoklaaGreatDoorZAO
import Derived.Test.YtholefgckcoklaaGreatDoorZBD
import Derived.Test.YtholefgckcoklaaGreatDoorZAT
import Derived.Test.YtholefgckcoklaaGreatDoorZBA
import Derived.Test.YtholefgckcoklaaGreatDoorZBC
import Derived.Test.YtholefgckcoklaaGreatDoorCYS
import Derived.Shelf.Sort.Plain
import Derived.Shelf.Slices.In.SortNone
namespace Go.Proofs.YtholefgckcoklaaGreatDoor
open Go.RowKit
namespace Nm
def mosE (m : Nat) : List Mo → Int
  | [] => 0
  | x :: r => if Lat.moE m x = 0 then mosE m r else Lat.moE m x
theorem mosE_all {m : Nat} {l : List Mo} (h : ∀ x ∈ l, Lat.moE m x = 0) : mosE m l = 0 := by
  induction l with
  | nil => rfl
  | cons x r ih =>
    unfold mosE
    rw [if_pos (h x (by simp)), ih (fun y hy => h y (by simp [hy]))]
theorem mosE_first {m : Nat} {l : List Mo} {j : Nat} {x : Mo} (hx : l[j]? = some x) (h : ∀ (q : Nat) y, q < j → l[q]? = some y → Lat.moE m y = 0) (he : Lat.moE m x ≠ 0) : mosE m l = Lat.moE m x := by
  induction l generalizing j with
  | nil => simp at hx
  | cons y r ih =>
    cases j with
    | zero => simp at hx; subst hx; unfold mosE; rw [if_neg he]
    | succ j =>
      unfold mosE
      rw [if_pos (h 0 y (by omega) (by simp)), ih (j := j) (by simpa using hx) (fun q z hq hz => h (q + 1) z (by omega) (by simpa using hz))]
end Nm
end Go.Proofs.YtholefgckcoklaaGreatDoor
namespace Go.Proofs.YtholefgckcoklaaGreatDoor
open Go.RowKit Go.Maps
set_option maxHeartbeats 1000000 in
theorem findP_any (w : World) (B : Nat) (s nm : ByteArray) (c1 c2 c3 c4 c5 c6 : Value) (hB : w.cell? ⟨B, 0, none⟩ = some (.string s)) :
    Calls Tryz.prog 144 #[.agg #[.string nm, c1, c2, c3, c4, c5, c6], .pointer (some ⟨B, 0, none⟩)] w fun e w' => e = .returned (.bool (Nm.sameB nm s)) ∧ Below w.heap.size w w' := by
  have q0 := box7 w (.string nm) c1 c2 c3 c4 c5 c6 106
  have HB0 := hide (boxBelow w (.cells #[.string nm, c1, c2, c3, c4, c5, c6] 106))
  have qB := cellUp hB HB0.out
  have HE : Hid (Nm.sameB nm s = (nm.toList == s.toList)) := rfl
  clear hB
  go_enter Tryz.func144, Tryz.ntmps144
  go_wp2
  go_ret
  exact ⟨ret_bool HE.out.symm, HB0.out⟩
set_option maxHeartbeats 1000000 in
set_option maxRecDepth 100000 in
theorem ixFuR_any (m : Nat) (w : World) (a : Option Addr) (b off cap n : Nat) (l : List Fu) (s : ByteArray) (B : Nat) (hn : n ≤ l.length) (hbig : l.length ≤ 9223372036854775807) (ha : 0 < n → a = some ⟨b, off, none⟩) (hel : FuEl w m b off l) (hB : w.cell? ⟨B, 0, none⟩ = some (.string s)) :
    Calls Tryz.prog 143 #[.slice a n cap, .func (.func 144) #[] #[.pointer (some ⟨B, 0, none⟩)]] w fun e w' => e = .returned (.int .i64 (Nm.oI (Nm.fnAt l s n))) ∧ Below w.heap.size w w' := by
  have HEL := hide hel
  have HA := hide ha
  have HB := hide hB
  obtain ⟨R, hR⟩ : ∃ R, R = Nm.oI (Nm.fnAt l s n) := ⟨_, rfl⟩
  have HR := hide hR
  rw [← hR]
  clear hel ha hB hR
  go_enter Tryz.func143, Tryz.ntmps143
  go_wp2_with fail
  go_loopw [5, 8] (fun _ i wr => ∃ j : Nat, j ≤ n ∧ i = .int .i64 j ∧ (∀ d g, d < j → l[d]? = some g → Nm.sameB g.name s = false) ∧ Below w.heap.size w wr) (fun _ i _ => n - (intOf i).toNat)
  case atStart => exact ⟨0, Nat.zero_le _, rfl, fun d g hd => absurd hd (Nat.not_lt_zero _), Below.refl _ _⟩
  case round =>
    obtain ⟨j, hj, rfl, hall, hnx⟩ := hrel
    have HALL := hide hall
    have HNX := hide hnx
    clear hall
    by_cases hjl : j < n
    · obtain ⟨f, hf⟩ : ∃ f, l[j]? = some f := ⟨_, List.getElem?_eq_getElem (by omega)⟩
      obtain ⟨-, vp, vb, e0, e1, e2, e3, g0, g1, g2, g3, g4, g5, g6, -⟩ := HEL.out j f hf
      obtain rfl := HA.out (by omega)
      have HF := hide hf
      replace g0 := cellUp g0 hnx
      replace g1 := cellUp g1 hnx
      replace g2 := cellUp g2 hnx
      replace g3 := cellUp g3 hnx
      replace g4 := cellUp g4 hnx
      replace g5 := cellUp g5 hnx
      replace g6 := cellUp g6 hnx
      have HC := hide (findP_any wr B s f.name vp vb e0 e1 e2 e3 (cellUp HB.out hnx))
      clear hf hnx
      generalize hq : Nm.sameB f.name s = q at HC
      have HQ := hide hq
      clear hq
      go_wp2_with fail
      refine HC.out.mono ?_
      rintro e w5 ⟨rfl, hb5⟩
      have HB5 := hide (up HNX.out hb5)
      clear hb5 g0 g1 g2 g3 g4 g5 g6
      cases q
      · go_wp2_with fail
        go_roundw
        case rel => exact ⟨j + 1, by omega, by go_num, fun d g hd hg => by
            by_cases e : d = j
            · subst e; rw [HF.out] at hg; cases hg; exact HQ.out
            · exact HALL.out d g (by omega) hg, HB5.out⟩
        case measure => simp [intOf]; omega
      · go_wp2_with fail
        go_ret
        exact ⟨by rw [HR.out, Nm.fnAt_hit hjl HF.out HQ.out HALL.out]; rfl, HB5.out⟩
    · go_wp2_with fail
      go_ret
      exact ⟨by rw [HR.out, Nm.fnAt_none fun d g hd hg => HALL.out d g (by omega) hg]; rfl, HNX.out⟩
set_option maxHeartbeats 1000000 in
theorem modP_any (w : World) (B : Nat) (s nm : ByteArray) (c1 c2 c3 : Value) (hB : w.cell? ⟨B, 0, none⟩ = some (.string s)) :
    Calls Tryz.prog 200 #[.agg #[.string nm, c1, c2, c3], .pointer (some ⟨B, 0, none⟩)] w fun e w' => e = .returned (.bool (Nm.sameB nm s)) ∧ Below w.heap.size w w' := by
  have q0 := boxD0 w (.string nm) c1 c2 c3 26
  have HB0 := hide (boxBelow w (.cells #[.string nm, c1, c2, c3] 26))
  have qB := cellUp hB HB0.out
  have HE : Hid (Nm.sameB nm s = (nm.toList == s.toList)) := rfl
  clear hB
  go_enter Tryz.func200, Tryz.ntmps200
  go_wp2
  go_ret
  exact ⟨ret_bool HE.out.symm, HB0.out⟩
set_option maxHeartbeats 1000000 in
set_option maxRecDepth 100000 in
theorem ixMoR_any (m : Nat) (w : World) (v : Value) (l : List Mo) (s : ByteArray) (B : Nat) (h : MosAt w m v l) (hB : w.cell? ⟨B, 0, none⟩ = some (.string s)) :
    Calls Tryz.prog 125 #[v, .func (.func 200) #[] #[.pointer (some ⟨B, 0, none⟩)]] w fun e w' => e = .returned (.int .i64 (Nm.oI (Nm.moAt l s))) ∧ Below w.heap.size w w' := by
  obtain ⟨a, b, off, cap, rfl, ha, hbig, hel⟩ := h
  have HEL := hide hel
  obtain ⟨n, hn⟩ : ∃ n, n = l.length := ⟨_, rfl⟩
  have HN := hide hn
  rw [← hn] at ha hbig ⊢
  have HA := hide ha
  have HB := hide hB
  obtain ⟨R, hR⟩ : ∃ R, R = Nm.oI (Nm.moAt l s) := ⟨_, rfl⟩
  have HR := hide hR
  rw [← hR]
  clear hel ha hB hR hn
  go_enter Tryz.func125, Tryz.ntmps125
  go_wp2_with fail
  go_loopw [5, 8] (fun _ i wr => ∃ j : Nat, j ≤ n ∧ i = .int .i64 j ∧ (∀ d g, d < j → l[d]? = some g → Nm.sameB g.name s = false) ∧ Below w.heap.size w wr) (fun _ i _ => n - (intOf i).toNat)
  case atStart => exact ⟨0, Nat.zero_le _, rfl, fun d g hd => absurd hd (Nat.not_lt_zero _), Below.refl _ _⟩
  case round =>
    obtain ⟨j, hj, rfl, hall, hnx⟩ := hrel
    have HALL := hide hall
    have HNX := hide hnx
    clear hall
    by_cases hjl : j < n
    · obtain ⟨f, hf⟩ : ∃ f, l[j]? = some f := ⟨_, List.getElem?_eq_getElem (by have := HN.out; omega)⟩
      obtain ⟨vi, vv, vf, g0, g1, g2, g3, -⟩ := HEL.out j f hf
      obtain rfl := HA.out (by omega)
      have HF := hide hf
      replace g0 := cellUp g0 hnx
      replace g1 := cellUp g1 hnx
      replace g2 := cellUp g2 hnx
      replace g3 := cellUp g3 hnx
      have HC := hide (modP_any wr B s f.name vi vv vf (cellUp HB.out hnx))
      clear hf hnx
      generalize hq : Nm.sameB f.name s = q at HC
      have HQ := hide hq
      clear hq
      go_wp2_with fail
      refine HC.out.mono ?_
      rintro e w5 ⟨rfl, hb5⟩
      have HB5 := hide (up HNX.out hb5)
      clear hb5 g0 g1 g2 g3
      cases q
      · go_wp2_with fail
        go_roundw
        case rel => exact ⟨j + 1, by omega, by go_num, fun d g hd hg => by
            by_cases e : d = j
            · subst e; rw [HF.out] at hg; cases hg; exact HQ.out
            · exact HALL.out d g (by omega) hg, HB5.out⟩
        case measure => simp [intOf]; omega
      · go_wp2_with fail
        go_ret
        exact ⟨by rw [HR.out, Nm.moAt_hit HF.out HQ.out HALL.out]; rfl, HB5.out⟩
    · go_wp2_with fail
      go_ret
      exact ⟨by rw [HR.out, Nm.moAt_none fun d g hg => HALL.out d g (by have := (List.getElem?_eq_some_iff.1 hg).1; have := HN.out; omega) hg]; rfl, HNX.out⟩
theorem moduleAt_any (m : Nat) (w : World) (v : Value) (l : List Mo) (s : ByteArray) (h : MosAt w m v l) :
    Calls Tryz.prog 142 #[v, .string s] w fun e w' => e = .returned (.int .i64 (Nm.oI (Nm.moAt l s))) ∧ Below w.heap.size w w' := by
  have HB0 := hide (boxBelow w (.cells #[.string s] 9))
  have HC := hide (ixMoR_any m _ v l s w.heap.size (h.below HB0.out) (box1 w (.string s) 9))
  clear h
  go_enter Tryz.func142, Tryz.ntmps142
  go_wp2_with fail
  refine HC.out.mono ?_
  rintro e w1 ⟨rfl, hb1⟩
  have HB1 := hide (up HB0.out hb1)
  clear hb1
  go_wp2_with fail
  go_ret
  exact ⟨rfl, HB1.out⟩
namespace Rn
def fnd (l : List Mo) (mod fn : ByteArray) : Option (Nat × Nat) := (Nm.moAt l mod).bind fun a => (Nm.fnAt ((l[a]?.map (·.funs)).getD []) fn ((l[a]?.map (·.funs)).getD []).length).map fun k => (a, k)
end Rn
def Rn.mosR (m : Nat) (l : List Mo) : Int := if Nm.mosE m l = 0 then (if 6 < l.length then 2 else 0) else Nm.mosE m l
set_option maxHeartbeats 2000000 in
set_option maxRecDepth 100000 in
theorem checkModules_any (m : Nat) (w : World) (v : Value) (l : List Mo) (h : MosAt w m v l) (hks : ∀ y ∈ l, moW m y ≤ 1048576) (ht : Tab w) :
    Calls Tryz.prog 63 #[v] w fun e w' => e = .returned (.int .i64 (Rn.mosR m l)) ∧ Below w.heap.size w w' := by
  obtain ⟨a, b, off, cap, rfl, ha, hbig, hel⟩ := h
  have HEL := hide hel
  obtain ⟨n, hn⟩ : ∃ n, n = l.length := ⟨_, rfl⟩
  have HN := hide hn
  rw [← hn] at ha hbig ⊢
  have HA := hide ha
  have HKS := hide hks
  have HT := hide ht
  obtain ⟨R, hR⟩ : ∃ R, R = Rn.mosR m l := ⟨_, rfl⟩
  have HR := hide hR
  rw [← hR]
  clear hel ha hR hn hks ht
  go_enter Tryz.func63, Tryz.ntmps63
  go_wp2_with fail
  go_loopw [8] (fun i wr => ∃ j : Nat, j ≤ n ∧ i = .int .i64 j ∧ (∀ (d : Nat) (g : Mo), d < j → l[d]? = some g → Lat.moE m g = 0) ∧ Below w.heap.size w wr) (fun i _ => n - (intOf i).toNat)
  case atStart => exact ⟨0, Nat.zero_le _, rfl, fun d g hd => absurd hd (Nat.not_lt_zero _), Below.refl _ _⟩
  case round =>
    obtain ⟨j, hj, rfl, hall, hnx⟩ := hrel
    have HALL := hide hall
    have HNX := hide hnx
    clear hall
    by_cases hjl : j < n
    · obtain ⟨y, hy⟩ : ∃ f, l[j]? = some f := ⟨_, List.getElem?_eq_getElem (by have := HN.out; omega)⟩
      obtain ⟨vi, vv, vf, g0, g1, g2, g3, hm⟩ := HEL.out j y hy
      obtain rfl := HA.out (by omega)
      have HY := hide hy
      have HMY := hide hm
      replace g0 := cellUp g0 hnx
      replace g1 := cellUp g1 hnx
      replace g2 := cellUp g2 hnx
      replace g3 := cellUp g3 hnx
      obtain ⟨ai, bi, oi, ci, rfl, -⟩ := hm.split.1
      obtain ⟨av, bv, ov, cv, rfl, -⟩ := hm.split.2.1
      obtain ⟨af, bf, of, cf, rfl, -⟩ := hm.split.2.2
      generalize y.imports.length = ni at *
      generalize y.vars.length = nv at *
      generalize y.funs.length = nf at *
      have HB1 := hide (up hnx (boxBelow wr (.cells #[.string y.name, .slice ai ni ci, .slice av nv cv, .slice af nf cf] 26)))
      have HC := hide (tcheck_any m (wr.alloc (.cells #[.string y.name, .slice ai ni ci, .slice av nv cv, .slice af nf cf] 26)) _ y (HMY.out.below HB1.out) (HKS.out y (List.mem_of_getElem? hy)) (HT.out.below HB1.out))
      obtain ⟨E, hE⟩ : ∃ E, E = Lat.moE m y := ⟨_, rfl⟩
      have HE := hide hE
      rw [← hE] at HC
      clear hy hm hnx hE
      go_wp2_with fail
      refine HC.out.mono ?_
      rintro e w5 ⟨rfl, hb5⟩
      have HB5 := hide (up HB1.out hb5)
      clear hb5 g0 g1 g2 g3
      by_cases h0 : E = 0
      · subst h0
        go_wp2_with fail
        go_roundw
        case rel => exact ⟨j + 1, by omega, by go_num, fun d g hd hg => by
            by_cases e : d = j
            · subst e; rw [HY.out] at hg; cases hg; exact HE.out.symm
            · exact HALL.out d g (by omega) hg, HB5.out⟩
        case measure => simp [intOf]; omega
      · have h0' : (E == 0) = false := by simp [h0]
        have HV : Hid (R = E) := hide (by
          have h1 := Nm.mosE_first HY.out HALL.out (by rw [← HE.out]; exact h0)
          rw [HR.out, Rn.mosR, h1, if_neg (by rw [← HE.out]; exact h0), HE.out])
        clear h0
        go_wp2_with fail
        go_ret
        exact ⟨by rw [HV.out]; rfl, HB5.out⟩
    · have HV : Hid (R = if 6 < n then 2 else 0) := hide (by
        have h1 : Nm.mosE m l = 0 := Nm.mosE_all fun y hy => by
          obtain ⟨i, hi, rfl⟩ := List.mem_iff_getElem.1 hy
          exact HALL.out i _ (by rw [← HN.out] at hi; omega) (List.getElem?_eq_getElem hi)
        rw [HR.out, Rn.mosR, h1, if_pos rfl, HN.out])
      by_cases h6 : 6 < n
      · rw [if_pos h6] at HV
        go_wp2_with fail
        go_ret
        exact ⟨by rw [HV.out]; rfl, HNX.out⟩
      · rw [if_neg h6] at HV
        go_wp2_with fail
        go_ret
        exact ⟨by rw [HV.out]; rfl, HNX.out⟩
set_option maxHeartbeats 2000000 in
set_option maxRecDepth 100000 in
theorem find_any (m : Nat) (w : World) (v : Value) (l : List Mo) (mod fn : ByteArray) (h : MosAt w m v l) :
    Calls Tryz.prog 64 #[v, .string mod, .string fn] w fun e w' => ∃ a k : Int, e = .returned (.tuple #[.int .i64 a, .int .i64 k, .bool (Rn.fnd l mod fn).isSome]) ∧ Hid ((∀ a' k', Rn.fnd l mod fn = some (a', k') → a = a' ∧ k = k') ∧ Below w.heap.size w w') := by
  have HM := hide h
  obtain ⟨a, b, off, cap, rfl, ha, hbig, hel⟩ := h
  have HEL := hide hel
  have HA := hide ha
  have HB0 := hide (boxBelow w (.cells #[.string fn] 9))
  have HBX := hide (box1 w (.string fn) 9)
  have HC := hide (moduleAt_any m _ _ l mod (HM.out.below HB0.out))
  obtain ⟨R, hR⟩ : ∃ R, R = Rn.fnd l mod fn := ⟨_, rfl⟩
  have HR := hide hR
  rw [← hR]
  obtain ⟨n, hn⟩ : ∃ n, n = l.length := ⟨_, rfl⟩
  have HN := hide hn
  rw [← hn] at HC HA hbig ⊢
  clear hR hel ha hn
  cases hm : Nm.moAt l mod with
  | none =>
    have HV : Hid (R = none) := hide (by rw [HR.out, Rn.fnd, hm]; rfl)
    rw [hm] at HC
    have HC' : Hid (Calls Tryz.prog 142 #[.slice a n cap, .string mod] (w.alloc (.cells #[.string fn] 9)) fun e w' => e = .returned (.int .i64 (-1)) ∧ Below (w.alloc (.cells #[.string fn] 9)).heap.size (w.alloc (.cells #[.string fn] 9)) w') := HC
    clear hm HC
    go_enter Tryz.func64, Tryz.ntmps64
    go_wp2_with fail
    refine HC'.out.mono ?_
    rintro e w1 ⟨rfl, hb1⟩
    have HB1 := hide (up HB0.out hb1)
    clear hb1
    go_wp2_with fail
    go_ret3
    exact ⟨0, 0, by rw [HV.out]; rfl, hide ⟨(fun a' k' h => by rw [HV.out] at h; cases h), HB1.out⟩⟩
  | some i =>
    obtain ⟨y, hy, -⟩ := Nm.moAt_lt hm
    have hil : i < n := by rw [HN.out]; exact (List.getElem?_eq_some_iff.1 hy).1
    obtain rfl := HA.out (by omega)
    obtain ⟨vi, vv, vf, -, -, -, g3, hmo⟩ := HEL.out i y hy
    obtain ⟨af, bf, of, cf, rfl, haf, hlf, hcf⟩ := hmo.split.2.2
    have HFE : Hid (FuEl w m bf of y.funs) := hcf
    have HAF := hide haf
    have HV : Hid (R = (Nm.fnAt y.funs fn y.funs.length).map fun k => (i, k)) := hide (by rw [HR.out, Rn.fnd, hm]; simp [hy])
    rw [hm] at HC
    have HC' : Hid (Calls Tryz.prog 142 #[.slice (some ⟨b, off, none⟩) n cap, .string mod] (w.alloc (.cells #[.string fn] 9)) fun e w' => e = .returned (.int .i64 (i : Int)) ∧ Below (w.alloc (.cells #[.string fn] 9)).heap.size (w.alloc (.cells #[.string fn] 9)) w') := HC
    have HLF := hide hlf
    have HG3 := hide g3
    clear hm hmo hcf haf hy HC hlf g3
    go_enter Tryz.func64, Tryz.ntmps64
    go_wp2_with fail
    refine HC'.out.mono ?_
    rintro e w1 ⟨rfl, hb1⟩
    have HB1 := hide (up HB0.out hb1)
    have HBX1 := hide (cellUp HBX.out hb1)
    clear hb1 HC'
    have g3 := cellUp HG3.out HB1.out
    have HC2 := hide (ixFuR_any m w1 af bf of cf y.funs.length y.funs fn w.heap.size (Nat.le_refl _) HLF.out HAF.out (HFE.out.below HB1.out) HBX1.out)
    cases hk : Nm.fnAt y.funs fn y.funs.length with
    | none =>
      rw [hk] at HC2 HV
      obtain ⟨nf, hnf⟩ : ∃ n, n = y.funs.length := ⟨_, rfl⟩
      rw [← hnf] at HC2 g3
      have HC3 : Hid (Calls Tryz.prog 143 #[.slice af nf cf, .func (.func 144) #[] #[.pointer (some ⟨w.heap.size, 0, none⟩)]] w1 fun e w' => e = .returned (.int .i64 (-1)) ∧ Below w1.heap.size w1 w') := HC2
      clear hk HC2 hnf
      go_wp2_with fail
      refine HC3.out.mono ?_
      rintro e w2 ⟨rfl, hb2⟩
      have HB2 := hide (up HB1.out hb2)
      clear hb2 g3
      go_wp2_with fail
      go_ret3
      exact ⟨(i : Int), -1, by rw [HV.out]; rfl, hide ⟨(fun a' k' h => by rw [HV.out] at h; cases h), HB2.out⟩⟩
    | some k =>
      rw [hk] at HC2 HV
      obtain ⟨nf, hnf⟩ : ∃ n, n = y.funs.length := ⟨_, rfl⟩
      rw [← hnf] at HC2 g3
      have HC3 : Hid (Calls Tryz.prog 143 #[.slice af nf cf, .func (.func 144) #[] #[.pointer (some ⟨w.heap.size, 0, none⟩)]] w1 fun e w' => e = .returned (.int .i64 (k : Int)) ∧ Below w1.heap.size w1 w') := HC2
      clear hk HC2 hnf
      go_wp2_with fail
      refine HC3.out.mono ?_
      rintro e w2 ⟨rfl, hb2⟩
      have HB2 := hide (up HB1.out hb2)
      clear hb2 g3
      go_wp2_with fail
      go_ret3
      exact ⟨(i : Int), (k : Int), by rw [HV.out]; rfl, hide ⟨fun a' k' h => by rw [HV.out] at h; simp at h; exact ⟨by omega, by omega⟩, HB2.out⟩⟩
end Go.Proofs.YtholefgckcoklaaGreatDoor
namespace Go.Proofs.YtholefgckcoklaaGreatDoor
open Go.RowKit Go.Maps
structure Ce where
  mod : ByteArray
  name : ByteArray
  val : Int
def CesAt (w : World) (v : Value) (l : List Ce) : Prop :=
  ∃ (a : Option Addr) (b off cap : Nat), v = .slice a l.length cap ∧ (0 < l.length → a = some ⟨b, off, none⟩) ∧ l.length ≤ 9223372036854775807 ∧
    ∀ (i : Nat) (x : Ce), l[i]? = some x → I64 x.val ∧ w.cell? ⟨b, off + i * 3, none⟩ = some (.string x.mod) ∧ w.cell? ⟨b, off + i * 3 + 1, none⟩ = some (.string x.name) ∧ w.cell? ⟨b, off + i * 3 + 2, none⟩ = some (.int .i64 x.val)
theorem CesAt.below {w w' : World} {v : Value} {l : List Ce} (h : CesAt w v l) (hb : Below w.heap.size w w') : CesAt w' v l := by
  obtain ⟨a, b, off, cap, e, h0, hl, h1⟩ := h
  refine ⟨a, b, off, cap, e, h0, hl, fun i x hx => ?_⟩
  obtain ⟨k, g0, g1, g2⟩ := h1 i x hx
  exact ⟨k, cellUp g0 hb, cellUp g1 hb, cellUp g2 hb⟩
namespace Rn
def isC (x y : ByteArray) (c : Ce) : Bool := Nm.sameB c.mod x && Nm.sameB c.name y
def ceAt (l : List Ce) (x y : ByteArray) : Option Nat := (List.range l.length).find? fun i => match l[i]? with | some c => isC x y c | none => false
theorem ceAt_hit {l : List Ce} {x y : ByteArray} {i : Nat} {c : Ce} (hc : l[i]? = some c) (h : isC x y c = true) (h0 : ∀ d g, d < i → l[d]? = some g → isC x y g = false) : ceAt l x y = some i := by
  refine Lat.find_hit (List.getElem?_eq_some_iff.1 hc).1 (fun d hd => ?_) (by simp only [hc]; exact h)
  cases hg : l[d]? with
  | none => rfl
  | some g => exact h0 d g hd hg
theorem ceAt_none {l : List Ce} {x y : ByteArray} (h0 : ∀ (d : Nat) (g : Ce), l[d]? = some g → isC x y g = false) : ceAt l x y = none := by
  refine Lat.find_none (fun d hd => ?_)
  cases hg : l[d]? with
  | none => rfl
  | some g => exact h0 d g hg
def val0 (l : List Ce) (x y : ByteArray) : Int := ((ceAt l x y).bind fun i => l[i]?.map (·.val)).getD 0
end Rn
theorem boxE3 (w : World) (c0 c1 c2 : Value) (t : TypeId) : (w.alloc (.cells #[c0, c1, c2] t)).cell? ⟨w.heap.size, 0, none⟩ = some c0 ∧ (w.alloc (.cells #[c0, c1, c2] t)).cell? ⟨w.heap.size, 1, none⟩ = some c1 := by simp [go_sem]
set_option maxHeartbeats 1000000 in
theorem addP_any (w : World) (B : Nat) (x y : ByteArray) (c : Ce) (hB : w.cell? ⟨B, 0, none⟩ = some (.string x)) (hB1 : w.cell? ⟨B, 1, none⟩ = some (.string y)) :
    Calls Tryz.prog 202 #[.agg #[.string c.mod, .string c.name, .int .i64 c.val], .pointer (some ⟨B, 0, none⟩)] w fun e w' => e = .returned (.bool (Rn.isC x y c)) ∧ Below w.heap.size w w' := by
  obtain ⟨q0, q1⟩ := boxE3 w (.string c.mod) (.string c.name) (.int .i64 c.val) 59
  have HB0 := hide (boxBelow w (.cells #[.string c.mod, .string c.name, .int .i64 c.val] 59))
  have qB := cellUp hB HB0.out
  have qB1 := cellUp hB1 HB0.out
  have HE : Hid (Rn.isC x y c = ((c.mod.toList == x.toList) && (c.name.toList == y.toList))) := rfl
  clear hB hB1
  cases h1 : (c.mod.toList == x.toList)
  · rw [h1] at HE
    go_enter Tryz.func202, Tryz.ntmps202
    go_wp2_with fail
    go_ret
    exact ⟨ret_bool (by rw [HE.out]; rfl), HB0.out⟩
  · rw [h1] at HE
    go_enter Tryz.func202, Tryz.ntmps202
    go_wp2_with fail
    go_ret
    exact ⟨ret_bool (by rw [HE.out]; simp), HB0.out⟩
set_option maxHeartbeats 1000000 in
set_option maxRecDepth 100000 in
theorem ixCe_any (w : World) (v : Value) (l : List Ce) (x y : ByteArray) (B : Nat) (h : CesAt w v l) (hB : w.cell? ⟨B, 0, none⟩ = some (.string x)) (hB1 : w.cell? ⟨B, 1, none⟩ = some (.string y)) :
    Calls Tryz.prog 201 #[v, .func (.func 202) #[] #[.pointer (some ⟨B, 0, none⟩)]] w fun e w' => e = .returned (.int .i64 (Nm.oI (Rn.ceAt l x y))) ∧ Below w.heap.size w w' := by
  obtain ⟨a, b, off, cap, rfl, ha, hbig, hel⟩ := h
  have HEL := hide hel
  obtain ⟨n, hn⟩ : ∃ n, n = l.length := ⟨_, rfl⟩
  have HN := hide hn
  rw [← hn] at ha hbig ⊢
  have HA := hide ha
  have HB := hide hB
  have HB1 := hide hB1
  obtain ⟨R, hR⟩ : ∃ R, R = Nm.oI (Rn.ceAt l x y) := ⟨_, rfl⟩
  have HR := hide hR
  rw [← hR]
  clear hel ha hB hB1 hR hn
  go_enter Tryz.func201, Tryz.ntmps201
  go_wp2_with fail
  go_loopw [5, 8] (fun _ i wr => ∃ j : Nat, j ≤ n ∧ i = .int .i64 j ∧ (∀ d g, d < j → l[d]? = some g → Rn.isC x y g = false) ∧ Below w.heap.size w wr) (fun _ i _ => n - (intOf i).toNat)
  case atStart => exact ⟨0, Nat.zero_le _, rfl, fun d g hd => absurd hd (Nat.not_lt_zero _), Below.refl _ _⟩
  case round =>
    obtain ⟨j, hj, rfl, hall, hnx⟩ := hrel
    have HALL := hide hall
    have HNX := hide hnx
    clear hall
    by_cases hjl : j < n
    · obtain ⟨f, hf⟩ : ∃ f, l[j]? = some f := ⟨_, List.getElem?_eq_getElem (by have := HN.out; omega)⟩
      obtain ⟨-, g0, g1, g2⟩ := HEL.out j f hf
      obtain rfl := HA.out (by omega)
      have HF := hide hf
      replace g0 := cellUp g0 hnx
      replace g1 := cellUp g1 hnx
      replace g2 := cellUp g2 hnx
      have HC := hide (addP_any wr B x y f (cellUp HB.out hnx) (cellUp HB1.out hnx))
      clear hf hnx
      generalize hq : Rn.isC x y f = q at HC
      have HQ := hide hq
      clear hq
      go_wp2_with fail
      refine HC.out.mono ?_
      rintro e w5 ⟨rfl, hb5⟩
      have HB5 := hide (up HNX.out hb5)
      clear hb5 g0 g1 g2
      cases q
      · go_wp2_with fail
        go_roundw
        case rel => exact ⟨j + 1, by omega, by go_num, fun d g hd hg => by
            by_cases e : d = j
            · subst e; rw [HF.out] at hg; cases hg; exact HQ.out
            · exact HALL.out d g (by omega) hg, HB5.out⟩
        case measure => simp [intOf]; omega
      · go_wp2_with fail
        go_ret
        exact ⟨by rw [HR.out, Rn.ceAt_hit HF.out HQ.out HALL.out]; rfl, HB5.out⟩
    · go_wp2_with fail
      go_ret
      exact ⟨by rw [HR.out, Rn.ceAt_none fun d g hg => HALL.out d g (by have := (List.getElem?_eq_some_iff.1 hg).1; have := HN.out; omega) hg]; rfl, HNX.out⟩
theorem pos_snoc {nm : List (ByteArray × ByteArray)} {x y : ByteArray} (h : Rn.pos nm x y = none) (x' y' : ByteArray) : Rn.pos (nm ++ [(x, y)]) x' y' = if (Nm.sameB x x' && Nm.sameB y y') = true then some nm.length else Rn.pos nm x' y' := by
  by_cases hs : (Nm.sameB x x' && Nm.sameB y y') = true
  · rw [if_pos hs]
    have hx : x = x' := key_eq (by simp only [Bool.and_eq_true] at hs; exact hs.1)
    have hy : y = y' := key_eq (by simp only [Bool.and_eq_true] at hs; exact hs.2)
    subst hx hy
    refine Lat.find_hit (by simp) (fun d hd => ?_) (by simp [hs])
    rw [List.getElem?_append_left hd]
    have h1 := List.find?_eq_none.1 h d (List.mem_range.2 hd)
    simpa using h1
  · rw [if_neg hs]
    cases hp : Rn.pos nm x' y' with
    | none =>
      refine Lat.find_none (fun d hd => ?_)
      rw [List.length_append, List.length_singleton] at hd
      by_cases hdl : d < nm.length
      · rw [List.getElem?_append_left hdl]
        have h1 := List.find?_eq_none.1 hp d (List.mem_range.2 hdl)
        simpa using h1
      · have : d = nm.length := by omega
        subst this
        rw [List.getElem?_append_right (Nat.le_refl _)]
        simpa using hs
    | some i =>
      have hi := pos_lt hp
      refine Lat.find_hit (by rw [List.length_append]; omega) (fun d hd => ?_) ?_
      · rw [List.getElem?_append_left (by omega)]
        have h1 := (List.find?_range_eq_some.1 hp).2.2 d hd
        simpa using h1
      · rw [List.getElem?_append_left hi]
        unfold Rn.pos at hp
        have h1 := List.find?_some hp
        exact h1
theorem PlM.put {w : World} {b n : Nat} {nm : List (ByteArray × ByteArray)} {bs : List Nat} (h : PlM w b n nm bs) (hl : bs.length = nm.length) (hn : n < maxLen) {x y : ByteArray} (hx : x.size ≤ maxLen) (hy : y.size ≤ maxLen) (hp : Rn.pos nm x y = none) (B : Nat) :
    ∃ w', (Instr.mapUpdate 224 (.map (some b)) (.agg #[.string x, .string y]) (.pointer (some ⟨B, 0, none⟩))).run Tryz.prog w = .ok () w' ∧ PlM w' b (n + 1) (nm ++ [(x, y)]) (bs ++ [B]) ∧ w.grownBy w' (some b) := by
  obtain ⟨D, h1, h2⟩ := h
  obtain ⟨kl, hk⟩ := placeKey hx hy
  obtain ⟨w', e, h3, h4⟩ := h1.update placeLaw Tryz.underlying224 hn hk (val := .pointer (some ⟨B, 0, none⟩)) (d := .lit (.int .i64 (B : Int))) (ps := []) rfl
  refine ⟨w', e, ⟨_, h3, fun x' y' hx' hy' kl' hk' => ?_⟩, h4⟩
  rw [pos_snoc hp]
  cases hs : (Nm.sameB x x' && Nm.sameB y y') with
  | true =>
    simp only [Bool.and_eq_true] at hs
    have ex := key_eq hs.1
    have ey := key_eq hs.2
    subst ex ey
    rw [hk] at hk'
    cases hk'
    rw [atKey_put_same h1.isMap (placeLaw.key hk), if_pos rfl]
    simp [datOf, ← hl]
  | false =>
    have hne : kl' ≠ kl := fun e => by
      rw [e] at hk'
      have := placeLaw.inj hk hk'
      simp at this
      rw [this.1, this.2] at hs
      simp [Nm.sameB] at hs
    rw [atKey_put_other hne, h2 x' y' hx' hy' kl' hk', if_neg (by simp)]
    cases hq : Rn.pos nm x' y' with
    | none => rfl
    | some i =>
      have hi := pos_lt hq
      simp only [datOf]
      rw [List.getD_eq_getElem?_getD, List.getD_eq_getElem?_getD, List.getElem?_append_left (by omega)]
end Go.Proofs.YtholefgckcoklaaGreatDoor
namespace Go.Proofs.YtholefgckcoklaaGreatDoor
open Go.RowKit Go.Maps
def PtC (c : List Value) (b : Nat) : Prop := c = [.pointer (some ⟨b, 0, none⟩)]
theorem PtC.one {c : List Value} {b : Nat} (h : PtC c b) : ∀ u ∈ c, u.oneCell' = true := by
  unfold PtC at h
  subst h
  intro u hu
  simp at hu
  subst hu
  rfl
theorem infoPt : (Tryz.prog.info? 237).map (fun i => (i.zero, i.size, i.bytes)) = some (some (.pointer none), 1, 8) := by kernel_rfl
namespace Rn
def addN (nm : List (ByteArray × ByteArray)) (x y : ByteArray) : List (ByteArray × ByteArray) := if (pos nm x y).isSome = true then nm else nm ++ [(x, y)]
def addV (store : List Ce) (nm : List (ByteArray × ByteArray)) (vs : List Vr) (x y : ByteArray) : List Vr := if (pos nm x y).isSome = true then vs else vs ++ [⟨val0 store x y, false, false⟩]
end Rn
structure Mk (w : World) (c : Cfg) (nm : List (ByteArray × ByteArray)) (s : Rn.Sta) : Prop where
  ma : MaAt w c nm s
  vv : OwnK PtC w c.n 237 1 c.vv c.bs
  pr : s.pr = []
  e : c.e = nm.length
  small : nm.length ≤ 1048576
theorem Mk.mach {w : World} {c : Cfg} {nm : List (ByteArray × ByteArray)} {s : Rn.Sta} (h : Mk w c nm s) : w.heap[c.p]? = some (.cells #[c.vl, c.vv, .map (some c.mp), .int .i64 s.fuel, .slice none 0 0] 227 (0, 0)) := by
  obtain ⟨vp, h1, cs, h2, h3, h4, h5, h6⟩ := h.ma.mach
  rw [h6 h.pr] at h1
  exact h1
theorem Mk.below {w w' : World} {c : Cfg} {nm : List (ByteArray × ByteArray)} {s : Rn.Sta} (h : Mk w c nm s) (hb : Below w.heap.size w w') : Mk w' c nm s := ⟨h.ma.below hb, h.vv.below hb, h.pr, h.e, h.small⟩
set_option maxRecDepth 100000 in
theorem Mk.more {w w5 w7 : World} {c : Cfg} {nm : List (ByteArray × ByteArray)} {s : Rn.Sta} {x y : ByteArray} {v : Int} {Bv : Nat} {v5 : Value} {ob : Obj} (h : Mk w c nm s) (hx : x.size ≤ maxLen) (hy : y.size ≤ maxLen) (hp : Rn.pos nm x y = none) (hv : I64 v) (hn : c.n ≤ w.heap.size) (hs : nm.length + 1 ≤ 1048576)
    (hB : w.heap[Bv]? = some (.cells #[.string x, .string y, .int .i64 v, .bool false, .bool false] 239 (0, 0))) (hBn : c.n ≤ Bv) (hBb : Bv ∉ c.bs)
    (hown : OwnK PtC w5 c.n 237 1 v5 (c.bs ++ [Bv])) (hg : (w.alloc ob).grownBy w5 c.vv.ownBlock)
    (hup : (Instr.mapUpdate 224 (.map (some c.mp)) (.agg #[.string x, .string y]) (.pointer (some ⟨Bv, 0, none⟩))).run Tryz.prog (w5.setCell ⟨c.p, 1, none⟩ v5).drew = .ok () w7) :
    ∃ e', Mk w7 { c with vv := v5, e := e', bs := c.bs ++ [Bv] } (nm ++ [(x, y)]) { s with vs := s.vs ++ [⟨v, false, false⟩] } ∧ Below c.n w w7 ∧
      ∀ {k : Nat} {cs : Array Value} {t : TypeId} {fz : Nat × Nat}, w.heap[k]? = some (.cells cs t fz) → t ≠ 237 → t ≠ 227 → w7.heap[k]? = some (.cells cs t fz) := by
  have keep5 : ∀ {k : Nat} {o : Obj}, w.heap[k]? = some o → (∀ cs fz, o ≠ .cells cs 237 fz) → w5.heap[k]? = some o := fun {k o} ho ht => by
    rw [hg.block k (by have := block_lt ho; have := (boxBelow w ob).size; omega) (fun e => by
      obtain ⟨cur, hc⟩ := h.vv.typ e.symm
      rw [ho] at hc
      injection hc with hc
      exact ht _ _ hc)]
    exact block_alloc ho ob
  have hm5 := keep5 h.mach (fun _ _ e => by injection e with _ e; exact absurd e (by decide))
  obtain ⟨es, cl, he⟩ := h.ma.map.isMap
  have hmp : c.mp ≠ c.p := fun e => by rw [e, h.mach] at he; cases he
  have he5 := keep5 he (fun _ _ e => by cases e)
  have he6 : (w5.setCell ⟨c.p, 1, none⟩ v5).drew.heap[c.mp]? = some (.map es cl) := block_other he5 hmp v5
  have hpl : PlM (w5.setCell ⟨c.p, 1, none⟩ v5).drew c.mp c.e nm c.bs := h.ma.map.same (by rw [he6, he])
  obtain ⟨w7', e7, h7, hg7⟩ := hpl.put h.ma.lenb (by have := h.e; have := h.small; unfold maxLen; omega) hx hy hp Bv
  rw [hup] at e7
  injection e7 with _ e7
  subst e7
  have keep7 : ∀ {k : Nat} {o : Obj}, w5.heap[k]? = some o → k ≠ c.p → k ≠ c.mp → w7.heap[k]? = some o := fun {k o} ho h1 h2 => by
    have h3 : (w5.setCell ⟨c.p, 1, none⟩ v5).drew.heap[k]? = some o := block_other ho h1 v5
    rw [hg7.block k (block_lt h3) (fun e => h2 (by injection e))]
    exact h3
  have hp6 : (w5.setCell ⟨c.p, 1, none⟩ v5).drew.heap[c.p]? = some (.cells #[c.vl, v5, .map (some c.mp), .int .i64 s.fuel, .slice none 0 0] 227 (0, 0)) := (block_set hm5 1 v5).trans rfl
  have hp7 : w7.heap[c.p]? = some (.cells #[c.vl, v5, .map (some c.mp), .int .i64 s.fuel, .slice none 0 0] 227 (0, 0)) := by
    rw [hg7.block c.p (block_lt hp6) (fun e => hmp (by injection e with e; exact e.symm))]
    exact hp6
  have vkeep : ∀ {k : Nat} {cs : Array Value}, w.heap[k]? = some (.cells cs 239 (0, 0)) → w7.heap[k]? = some (.cells cs 239 (0, 0)) := fun {k cs} ho => by
    refine keep7 (keep5 ho (fun _ _ e => by injection e with _ e; exact absurd e (by decide))) (fun e => ?_) (fun e => ?_)
    · rw [e, h.mach] at ho; injection ho with ho; injection ho with _ ho; exact absurd ho (by decide)
    · rw [e, he] at ho; cases ho
  have ckeep : ∀ {k : Nat} {cs : Array Value} {t : TypeId} {fz : Nat × Nat}, w.heap[k]? = some (.cells cs t fz) → t ≠ 237 → t ≠ 227 → w7.heap[k]? = some (.cells cs t fz) := fun {k cs t fz} ho h1 h2 => by
    refine keep7 (keep5 ho (fun _ _ e => by injection e with _ e; exact h1 e)) (fun e => ?_) (fun e => ?_)
    · rw [e, h.mach] at ho; injection ho with ho; injection ho with _ ho; exact h2 ho.symm
    · rw [e, he] at ho; cases ho
  have hb5 : Below c.n w w5 := ((boxBelow w ob).mono hn).grown hg (Nat.le_trans hn (boxBelow w ob).size) (fun k e => (h.vv.lt k e).1)
  have hb7 : Below c.n w w7 := ((hb5.setCell (p := ⟨c.p, 1, none⟩) h.ma.base v5).drew).grown hg7 (by have := hb5.size; simp only [World.setCell, World.drew, Array.size_modify]; omega) (fun k e => by injection e with e; have := h.ma.mpn; omega)
  have hown7 : OwnK PtC w7 c.n 237 1 v5 (c.bs ++ [Bv]) := by
    have h1 := hown.set (a := ⟨c.p, 1, none⟩) (hown.apart hm5 (by decide)) v5
    have h2 : OwnK PtC (w5.setCell ⟨c.p, 1, none⟩ v5).drew c.n 237 1 v5 (c.bs ++ [Bv]) := h1.below (Below.refl _ _).drew
    exact h2.grown hg7 (fun g hv e => by
      injection e with e
      obtain ⟨cur, hc⟩ := h2.typ hv
      rw [← e, he6] at hc
      cases hc)
  refine ⟨c.e + 1, ⟨⟨h.ma.base, ⟨_, hp7, by show OwnK PrC w7 c.n 62 2 (.slice none 0 0) s.pr; rw [h.pr]; exact OwnK.nil _ _ _ _⟩, ?_, ?_, fun i b' z u k1 k2 k3 => ?_, fun b' hb' => ?_, fun u hu => ?_, ?_, h7, h.ma.mpn, h.ma.room, h.ma.prs⟩, hown7, h.pr, ?_, ?_⟩, hb7, ckeep⟩
  · show (c.bs ++ [Bv]).length = (nm ++ [(x, y)]).length
    rw [List.length_append, List.length_append, h.ma.lenb]
    rfl
  · show (s.vs ++ [(⟨v, false, false⟩ : Rn.Vr)]).length = (nm ++ [(x, y)]).length
    rw [List.length_append, List.length_append, h.ma.lens]
    rfl
  · by_cases hi : i < nm.length
    · rw [List.getElem?_append_left hi] at k2
      have k1' : (c.bs ++ [Bv])[i]? = some b' := k1
      have k3' : (s.vs ++ [(⟨v, false, false⟩ : Rn.Vr)])[i]? = some u := k3
      rw [List.getElem?_append_left (by rw [h.ma.lenb]; exact hi)] at k1'
      rw [List.getElem?_append_left (by rw [h.ma.lens]; exact hi)] at k3'
      exact vkeep (h.ma.var i b' z u k1' k2 k3')
    · have hi0 : i = nm.length := by
        have := (List.getElem?_eq_some_iff.1 k2).1
        simp at this
        omega
      subst hi0
      have k1' : (c.bs ++ [Bv])[nm.length]? = some b' := k1
      have k3' : (s.vs ++ [(⟨v, false, false⟩ : Rn.Vr)])[nm.length]? = some u := k3
      rw [← h.ma.lenb, List.getElem?_append_right (Nat.le_refl _)] at k1'
      rw [← h.ma.lens, List.getElem?_append_right (Nat.le_refl _)] at k3'
      rw [List.getElem?_append_right (Nat.le_refl _)] at k2
      simp at k1' k2 k3'
      subst k1' k2 k3'
      exact vkeep hB
  · rcases List.mem_append.1 hb' with hb' | hb'
    · exact h.ma.bsn b' hb'
    · simp at hb'
      subst hb'
      exact hBn
  · rcases List.mem_append.1 hu with hu | hu
    · exact h.ma.val u hu
    · simp at hu
      subst hu
      exact hv
  · refine List.nodup_append.2 ⟨h.ma.nodup, by simp, fun z hz z' hz' e => ?_⟩
    simp at hz'
    subst e hz'
    exact hBb hz
  · show c.e + 1 = (nm ++ [(x, y)]).length
    rw [List.length_append, h.e]
    rfl
  · rw [List.length_append]
    exact hs
end Go.Proofs.YtholefgckcoklaaGreatDoor
namespace Go.Proofs.YtholefgckcoklaaGreatDoor
open Go.RowKit
set_option maxHeartbeats 1000000 in
theorem ntarget_anyF (m : Nat) (w : World) (vi vv vf vk : Value) (x : Mo) (known : List Mo) (k : Nat) (call : ByteArray) (h : MoAt w m (.agg #[.string x.name, vi, vv, vf]) x) (hK : MosAt w m vk known) (hC : CapOK vf) (hk : k ≤ x.funs.length) (hc : call.size ≤ maxLen) (hli : x.imports.length ≤ 1048576) :
    Calls Tryz.prog 15 #[.agg #[.string x.name, vi, vv, vf], .int .i64 k, .string call, vk] w fun e w' => e = .returned (.tuple #[.int .i64 (Nm.ptgt x k call known).1, .int .i64 (Nm.ptgt x k call known).2.1, .bool (Nm.ptgt x k call known).2.2]) ∧ Below w.heap.size w w' := by
  have HM := hide h
  have HK := hide hK
  have HSC := hide (fun wx (hb : Below w.heap.size w wx) => newScope_any m wx _ _ _ _ x known (h.below hb) (hK.below hb) hli)
  have HST := hide (fun wx (hb : Below w.heap.size w wx) va (hI : Ints wx va (x.imports.map fun s => Nm.oI (Nm.moAt known s))) => starget_any m wx x known vi vv vf vk va k call ⟨h.below hb, hK.below hb, hI, hC⟩ hk hc)
  have HBX := fun i v hv => boxD w #[.string x.name, vi, vv, vf] 26 i v hv
  have r0 := HBX 0 _ rfl
  have r1 := HBX 1 _ rfl
  have r2 := HBX 2 _ rfl
  have r3 := HBX 3 _ rfl
  have HB0 := hide (boxBelow w (.cells #[.string x.name, vi, vv, vf] 26))
  obtain ⟨R, hR⟩ : ∃ R, R = Nm.ptgt x k call known := ⟨_, rfl⟩
  rw [← hR] at HST ⊢
  obtain ⟨hI, hV, hF⟩ := h.split
  obtain ⟨ai, bi, oi, ci, rfl, -⟩ := hI
  obtain ⟨av, bv, ov, cv, rfl, -⟩ := hV
  obtain ⟨af, bf, of, cf, rfl, -⟩ := hF
  obtain ⟨ak, bk, ok, ck, rfl, -⟩ := hK
  generalize x.imports.length = ni at *
  generalize x.vars.length = nv at *
  generalize x.funs.length = nf at *
  generalize known.length = nk at *
  clear h hC HBX hR
  go_enter Tryz.func15, Tryz.ntmps15
  go_wp2_with fail
  refine (HSC.out _ HB0.out).mono ?_
  rintro e w1 ⟨va, rfl, hints, hb1⟩
  have HIN := hide hints
  have HB1 := hide (up HB0.out hb1)
  clear r0 r1 r2 r3 hb1 hints
  go_wp2_with fail
  refine (HST.out _ HB1.out _ HIN.out).mono ?_
  rintro e w2 ⟨rfl, hb2⟩
  have HB2 := hide (up HB1.out hb2)
  clear hb2
  go_wp2_with fail
  go_ret3
  exact ⟨rfl, HB2.out⟩
end Go.Proofs.YtholefgckcoklaaGreatDoor
namespace Go.Proofs.YtholefgckcoklaaGreatDoor
open Go.RowKit Go.Shelf
theorem RowS.holds {w : World} {g : Nat} {l : List ByteArray} (h : RowS w g l) : Sort.Holds encStr w g 0 (l.map (·.data.toList)).toArray := by
  obtain ⟨cur, hc, hsz, hel⟩ := h
  intro j hj
  have hjl : j < l.length := by simpa using hj
  refine ⟨?_, block_free hc _⟩
  rw [Nat.zero_add, block_at hc, hel j _ (List.getElem?_eq_getElem hjl)]
  congr 1
  simp [hjl]
theorem RowS.of_put {w : World} {g n : Nat} {l : List ByteArray} {os : Array Obj} {b : List (List UInt8)} (h : RowS w g l) (hb : b.length = l.length) : RowS (Sort.grow (Sort.putRow encStr (Sort.ahead w n) g 0 b.toArray) os) g (b.map fun x => ⟨x.toArray⟩) := by
  obtain ⟨cur, hc, hsz, hel⟩ := h
  have hg := block_lt hc
  have hblk : (Sort.grow (Sort.putRow encStr (Sort.ahead w n) g 0 b.toArray) os).heap[g]? = some (.cells (Sort.putCells encStr 0 b.toArray cur) 9 (0, 0)) := by
    simp only [Sort.grow, Sort.putRow, Sort.mapBlock, Sort.ahead]
    rw [Array.getElem?_append_left (by simpa using hg)]
    simp [Array.getElem?_modify, hc, Sort.onCells]
  refine ⟨_, hblk, by simp only [Sort.putCells, Array.size_mapIdx, List.length_map]; omega, fun i d hd => ?_⟩
  have hi : i < b.length := by simpa using (List.getElem?_eq_some_iff.1 hd).1
  rw [List.getElem?_map, List.getElem?_eq_getElem hi] at hd
  simp at hd
  subst hd
  have hic : i < cur.size := by omega
  simp [Sort.putCells, hic, hi]
theorem sortS_any (w : World) (g len cap : Nat) (l : List ByteArray) (h : RowS w g l) (hlen : len = l.length) (hl : l.length ≤ 16777216) :
    Calls Tryz.prog 70 #[.slice (some ⟨g, 0, none⟩) len cap] w fun e w' => e = .returned (.tuple #[]) ∧ RowS w' g (Rn.srtS l) ∧ But g w w' := by
  subst hlen
  have h0 := h
  obtain ⟨cur, hc, hsz, hel⟩ := h
  have hcon := Any.slices_Sort_string Tryz.lSoS g 0 cap (l.map (·.data.toList)) w h0.holds (block_lt hc) (by simp; omega)
  rw [List.length_map] at hcon
  refine Calls.mono (show Calls Tryz.prog 70 #[.slice (some ⟨g, 0, none⟩) l.length cap] w _ from hcon) ?_
  rintro e w' ⟨he, k, os, rfl⟩
  refine ⟨he, h0.of_put (by rw [List.length_mergeSort, List.length_map]), rfl, rfl, rfl, ?_, fun j hj hp => ?_⟩
  · simp [Sort.grow, Sort.putRow, Sort.mapBlock, Sort.ahead]
  · have hg := block_lt hc
    simp only [Sort.grow, Sort.putRow, Sort.mapBlock, Sort.ahead]
    rw [Array.getElem?_append_left (by simp; omega)]
    simp [Array.getElem?_modify]
    intro e'; exact absurd e'.symm hp
theorem sortS_none (w : World) (p : Option Addr) (cap : Nat) : Calls Tryz.prog 70 #[.slice p 0 cap] w fun e w' => e = .returned (.tuple #[]) ∧ w' = w :=
  Any.slices_Sort_string_none Tryz.lSoS p cap w
end Go.Proofs.YtholefgckcoklaaGreatDoor
