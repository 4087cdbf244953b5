/- What one may see, the document's side: find, LevelOf, Seen. -/
import Derived.Test.YtmhcameodlhloaaMD
import Derived.BigQuiet
namespace Go.Proofs.Ytmhcameodlhloaa
open Go.RowKit

namespace Lw
/-- The number that find answers. -/
def Found (l : List Mo) (s : ByteArray) (i : Int) : Prop := (i = -1 ∧ (l.find? fun m => Nm.sameB m.name s) = none) ∨ ∃ (k : Nat) (y : Mo), i = k ∧ l[k]? = some y ∧ (l.find? fun m => Nm.sameB m.name s) = some y
theorem find_hit {α : Type} {p : α → Bool} {l : List α} {j : Nat} {y : α} (hy : l[j]? = some y) (hp : p y = true) (h0 : ∀ (d : Nat) (g : α), d < j → l[d]? = some g → p g = false) : l.find? p = some y := by
  obtain ⟨hj, e⟩ := List.getElem?_eq_some_iff.1 hy
  refine List.find?_eq_some_iff_getElem.2 ⟨hp, j, hj, e, fun d hd => ?_⟩
  rw [h0 d l[d] hd (List.getElem?_eq_getElem (by omega))]
  rfl
theorem find_miss {α : Type} {p : α → Bool} {l : List α} (h0 : ∀ (d : Nat) (g : α), l[d]? = some g → p g = false) : l.find? p = none := by
  refine List.find?_eq_none.2 fun x hx => ?_
  obtain ⟨i, hi, rfl⟩ := List.mem_iff_getElem.1 hx
  rw [h0 i _ (List.getElem?_eq_getElem hi)]
  simp
theorem index_hit {ss : List ByteArray} {t : ByteArray} {j : Nat} (hj : j < ss.length) (h : ((ss.getD j ByteArray.empty).toList == t.toList) = true) (h0 : ∀ d, d < j → ((ss.getD d ByteArray.empty).toList == t.toList) = false) : Lat.indexI ss t = j := by
  have hs : ∀ i, Lat.isAt ss t i = ((ss.getD i ByteArray.empty).toList == t.toList) := fun i => by
    unfold Lat.isAt
    rw [Bool.eq_iff_iff]
    simp only [beq_iff_eq]
    exact eq_comm
  unfold Lat.indexI
  rw [Lat.find_hit hj (fun c hc => by rw [hs]; exact h0 c hc) (by rw [hs]; exact h)]
theorem index_miss {ss : List ByteArray} {t : ByteArray} (h0 : ∀ d, d < ss.length → ((ss.getD d ByteArray.empty).toList == t.toList) = false) : Lat.indexI ss t = -1 := by
  have hs : ∀ i, Lat.isAt ss t i = ((ss.getD i ByteArray.empty).toList == t.toList) := fun i => by
    unfold Lat.isAt
    rw [Bool.eq_iff_iff]
    simp only [beq_iff_eq]
    exact eq_comm
  unfold Lat.indexI
  rw [Lat.find_none (fun c hc => by rw [hs]; exact h0 c hc)]
/-- No level has the empty name. -/
theorem index_empty {ss : List ByteArray} {G : Nat} {L : Nat → Nat} {Z : Nat → Nat → Bool} (h : Lat.Ok ss G L Z) : Lat.indexI ss ⟨#[]⟩ = -1 := by
  refine index_miss fun d hd => ?_
  have h1 := h.names
  unfold Lat.namesB at h1
  rw [Bool.and_eq_true] at h1
  have h2 := Lat.all_get h1.1 hd
  unfold Lat.namesR at h2
  rw [Bool.and_eq_true] at h2
  have h3 := h2.2
  unfold Lat.nameB at h3
  simp only [Bool.and_eq_true, decide_eq_true_eq] at h3
  rw [beq_eq_false_iff_ne]
  intro e
  rw [ByteArray.toList_eq, ByteArray.toList_eq] at e
  rw [e] at h3
  simp at h3
theorem ceB_doc {ss : List ByteArray} {G : Nat} {L : Nat → Nat} {Z : Nat → Nat → Bool} (h : Lat.Ok ss G L Z) (mods : List Mo) (k : Nat) (x y : ByteArray) : seesB Z (Lat.indexI ss ((lv mods x y).getD ⟨#[]⟩)) k = ceB ss Z mods k x y := by
  unfold ceB
  cases lv mods x y with
  | some t => rfl
  | none =>
    simp only [Option.getD_none]
    rw [index_empty h]
    rfl
end Lw

set_option maxHeartbeats 2000000 in
set_option maxRecDepth 100000 in
theorem rfind_any (m : Nat) (w : World) (v : Value) (l : List Mo) (s : ByteArray) (h : MosAt w m v l) :
    Calls Try.prog 61 #[v, .string s] w fun e w' => ∃ i : Int, e = .returned (.int .i64 i) ∧ Hid (Lw.Found l s i) ∧ w' = w := by
  obtain ⟨a, b, off, cap, rfl, ha, hbig, hel⟩ := h
  have HEL := hide hel
  obtain ⟨n, hn⟩ : ∃ n, n = l.length := ⟨_, rfl⟩
  have HN := hide hn
  rw [← hn] at ha hbig ⊢
  have HA := hide ha
  clear hel ha hn
  go_enter Try.func61, Try.ntmps61
  go_wp2_with fail
  go_loopw [5] (fun i wx => ∃ j : Nat, j ≤ n ∧ i = .int .i64 j ∧ Hid (∀ (d : Nat) (g : Mo), d < j → l[d]? = some g → Nm.sameB g.name s = false) ∧ wx = w) (fun i _ => n - (intOf i).toNat)
  case atStart => exact ⟨0, Nat.zero_le _, rfl, hide (fun d g hd => absurd hd (Nat.not_lt_zero _)), rfl⟩
  case round =>
    obtain ⟨j, hj, rfl, HALL, rfl⟩ := hrel
    by_cases hjl : j < n
    · obtain ⟨y, hy⟩ : ∃ f, l[j]? = some f := ⟨_, List.getElem?_eq_getElem (by have := HN.out; omega)⟩
      obtain ⟨vi, vv, vf, g0, -⟩ := HEL.out j y hy
      obtain rfl := HA.out (by omega)
      have HY := hide hy
      clear hy
      have HQ : Hid (Nm.sameB y.name s = (y.name.toList == s.toList)) := rfl
      cases hq : (y.name.toList == s.toList)
      · rw [hq] at HQ
        go_wp2_with fail
        go_roundw
        case rel => exact ⟨j + 1, by omega, by go_num, hide (fun d g hd hg => by
            by_cases e : d = j
            · subst e; rw [HY.out] at hg; cases hg; exact HQ.out
            · exact HALL.out d g (by omega) hg), by first | trivial | rfl⟩
        case measure => simp [intOf]; omega
      · rw [hq] at HQ
        go_wp2_with fail
        go_ret
        exact ⟨_, rfl, hide (Or.inr ⟨j, y, rfl, HY.out, Lw.find_hit HY.out HQ.out HALL.out⟩), rfl⟩
    · go_wp2_with fail
      go_ret
      exact ⟨_, rfl, hide (Or.inl ⟨rfl, Lw.find_miss fun d g hg => HALL.out d g (by have := (List.getElem?_eq_some_iff.1 hg).1; have := HN.out; omega) hg⟩), rfl⟩

set_option maxHeartbeats 2000000 in
set_option maxRecDepth 100000 in
theorem rlevelOf_any (m : Nat) (w : World) (v : Value) (l : List Mo) (c : Ce) (h : MosAt w m v l) :
    Calls Try.prog 32 #[v, .agg #[.string c.mod, .string c.name, .int .i64 c.val]] w fun e w' => e = .returned (.string ((Lw.lv l c.mod c.name).getD ⟨#[]⟩)) ∧ Below w.heap.size w w' := by
  obtain ⟨W, hW⟩ : ∃ W, W = w.alloc (.cells #[.string c.mod, .string c.name, .int .i64 c.val] 68) := ⟨_, rfl⟩
  have hb : Below w.heap.size w W := by rw [hW]; exact boxBelow _ _
  have HB := hide hb
  have e0 : W.heap[w.heap.size]? = some (.cells #[.string c.mod, .string c.name, .int .i64 c.val] 68 (0, 0)) := by rw [hW]; exact block_new _ _
  have c0 := (block_at e0 0).trans rfl
  have c1 := (block_at e0 1).trans rfl
  have HF := hide (rfind_any m W v l c.mod (h.below hb))
  have HM := hide (h.below hb)
  clear h e0 hb
  obtain ⟨R, hR⟩ : ∃ R, R = (Lw.lv l c.mod c.name).getD ⟨#[]⟩ := ⟨_, rfl⟩
  have HR := hide hR
  rw [← hR]
  clear hR
  obtain ⟨a, b, off, cap, rfl, ha, hbig, hel⟩ := HM.out
  have HEL := hide hel
  obtain ⟨n, hn⟩ : ∃ n, n = l.length := ⟨_, rfl⟩
  have HN := hide hn
  rw [← hn] at ha hbig HF ⊢
  have HA := hide ha
  clear hel ha hn
  rw [hW] at c0 c1
  go_enter Try.func32, Try.ntmps32
  go_wp2_with fail
  rw [← hW]
  rw [← hW] at c0 c1
  clear hW
  refine HF.out.mono ?_
  rintro e w1 ⟨i, rfl, HI, hw1⟩
  subst hw1
  rcases HI.out with ⟨rfl, hnone⟩ | ⟨k, y, rfl, hy, hsome⟩
  · have HE : Hid (R = ⟨#[]⟩) := hide (by rw [HR.out, Lw.lv_has hnone]; rfl)
    clear hnone HI
    go_wp2_with fail
    go_ret
    exact ⟨by rw [HE.out]; rfl, HB.out⟩
  · have hkn : k < n := by have := (List.getElem?_eq_some_iff.1 hy).1; have := HN.out; omega
    have HE : Hid (R = ((y.vars.find? fun v => Nm.sameB v.name c.name).map (·.level)).getD ⟨#[]⟩) := hide (by
      rw [HR.out]
      unfold Lw.lv
      rw [hsome]
      rfl)
    obtain ⟨vi, vv, vf, -, -, g2, -, hm⟩ := HEL.out k y hy
    obtain ⟨-, -, h2, -⟩ := hm.splitL
    obtain ⟨av, bv, ov, cv, rfl, hav, hlv, hcv⟩ := h2
    obtain rfl := HA.out (by omega)
    have HCV := hide hcv
    have HAV := hide hav
    obtain ⟨nv, hnv⟩ : ∃ n, n = y.vars.length := ⟨_, rfl⟩
    have HNV := hide hnv
    rw [← hnv] at g2 hlv HAV
    clear hy hsome hm hcv hav hnv HI
    go_wp2_with fail
    go_loopw [6] (fun i wx => ∃ j : Nat, j ≤ nv ∧ i = .int .i64 j ∧ Hid (∀ (d : Nat) (g : Va), d < j → y.vars[d]? = some g → Nm.sameB g.name c.name = false) ∧ ∃ q, wx = w1.drewN q) (fun i _ => nv - (intOf i).toNat)
    case atStart => exact ⟨0, Nat.zero_le _, rfl, hide (fun d g hd => absurd hd (Nat.not_lt_zero _)), 0, rfl⟩
    case round =>
      obtain ⟨j, hj, rfl, HALL, q, rfl⟩ := hrel
      by_cases hjl : j < nv
      · obtain ⟨u, hu⟩ : ∃ f, y.vars[j]? = some f := ⟨_, List.getElem?_eq_getElem (by have := HNV.out; omega)⟩
        obtain ⟨-, -, p0, p1⟩ := HCV.out j u hu
        obtain rfl := HAV.out (by omega)
        have HY := hide hu
        clear hu
        have HQ : Hid (Nm.sameB u.name c.name = (u.name.toList == c.name.toList)) := rfl
        cases hq : (u.name.toList == c.name.toList)
        · rw [hq] at HQ
          go_wp2_with fail
          go_quiet (fail)
          go_wp2_with fail
          go_roundw
          case rel => exact ⟨j + 1, by omega, by go_num, hide (fun d g hd hg => by
              by_cases e : d = j
              · subst e; rw [HY.out] at hg; cases hg; exact HQ.out
              · exact HALL.out d g (by omega) hg), q + nq, by rw [← World.drewN_drewN]⟩
          case measure => simp [intOf]; omega
        · rw [hq] at HQ
          go_wp2_with fail
          go_quiet (fail)
          go_wp2_with fail
          go_ret
          refine ⟨?_, drewBelow HB.out _⟩
          rw [HE.out, Lw.find_hit HY.out HQ.out HALL.out]
          rfl
      · go_wp2_with fail
        go_ret
        refine ⟨?_, drewBelow HB.out _⟩
        rw [HE.out, Lw.find_miss fun d g hg => HALL.out d g (by have := (List.getElem?_eq_some_iff.1 hg).1; have := HNV.out; omega) hg]
        rfl

set_option maxHeartbeats 2000000 in
set_option maxRecDepth 100000 in
theorem rseen_any (w : World) (vn vl : Value) (ss : List ByteArray) (Z : Nat → Nat → Bool) (t : ByteArray) (k : Nat) (hS : Strs w vn ss) (hG : Grid w vl ss.length Z) (hk : k < ss.length) :
    Calls Try.prog 31 #[.agg #[vn, vl], .string t, .int .i64 k] w fun e w' => e = .returned (.bool (Lw.seesB Z (Lat.indexI ss t) k)) ∧ Below w.heap.size w w' := by
  obtain ⟨W, hW⟩ : ∃ W, W = w.alloc (.cells #[vn, vl] 25) := ⟨_, rfl⟩
  have hb : Below w.heap.size w W := by rw [hW]; exact boxBelow _ _
  have HB := hide hb
  have e0 : W.heap[w.heap.size]? = some (.cells #[vn, vl] 25 (0, 0)) := by rw [hW]; exact block_new _ _
  obtain ⟨an, bn, on, cn, rfl, han, hln, -, hcn⟩ := hS.below hb
  obtain ⟨gb, go, gc, RB, RO, C, rfl, h1, h2⟩ := hG.below hb
  have c0 := (block_at e0 0).trans rfl
  have c1 := (block_at e0 1).trans rfl
  have HCN := hide hcn
  have HAN := hide han
  have H1 := hide h1
  have H2 := hide h2
  obtain ⟨R, hR⟩ : ∃ R, R = Lw.seesB Z (Lat.indexI ss t) k := ⟨_, rfl⟩
  have HR := hide hR
  rw [← hR]
  obtain ⟨n, hn⟩ : ∃ n, n = ss.length := ⟨_, rfl⟩
  have HN := hide hn
  rw [← hn] at c0 c1 hW hk hln HCN HAN H1 H2 ⊢
  clear hR hn han hcn h1 h2 hS hG e0 hb
  go_enter Try.func31, Try.ntmps31
  go_wp2_with fail
  rw [← hW]
  clear hW
  go_loopw [7] (fun i wx => ∃ j : Nat, j ≤ n ∧ i = .int .i64 j ∧ Hid (∀ d, d < j → ((ss.getD d ByteArray.empty).toList == t.toList) = false) ∧ wx = W) (fun i _ => n - (intOf i).toNat)
  case atStart => exact ⟨0, Nat.zero_le _, rfl, hide (fun d hd => absurd hd (Nat.not_lt_zero _)), rfl⟩
  case round =>
    obtain ⟨j, hj, rfl, HALL, rfl⟩ := hrel
    by_cases hjl : j < n
    · have g0 := HCN.out j hjl
      have r1 := H1.out j hjl
      have r2 := H2.out j k hjl hk
      obtain rfl := HAN.out (by omega)
      obtain ⟨sj, hsj⟩ : ∃ s, s = ss.getD j ByteArray.empty := ⟨_, rfl⟩
      have HSJ := hide hsj
      rw [← hsj] at g0
      clear hsj
      cases hq : (sj.toList == t.toList)
      · have HQ : Hid (((ss.getD j ByteArray.empty).toList == t.toList) = false) := hide (by rw [← HSJ.out]; exact hq)
        clear r1 r2
        go_wp2_with fail
        go_roundw
        case rel => exact ⟨j + 1, by omega, by go_num, hide (fun d hd => by
            by_cases e : d = j
            · subst e; exact HQ.out
            · exact HALL.out d (by omega)), by first | trivial | rfl⟩
        case measure => simp [intOf]; omega
      · have HE : Hid (R = Z j k) := hide (by
          rw [HR.out, Lw.index_hit (by rw [← HN.out]; exact hjl) (by rw [← HSJ.out]; exact hq) HALL.out]
          unfold Lw.seesB
          rw [show ((j : Int) != -1) = true from by rw [bne_iff_ne]; omega]
          simp)
        generalize Z j k = z at *
        go_wp2_with fail
        go_ret
        exact ⟨ret_bool HE.out.symm, HB.out⟩
    · have HE : Hid (R = false) := hide (by
        rw [HR.out, Lw.index_miss fun d hd => HALL.out d (by have := HN.out; omega)]
        rfl)
      go_wp2_with fail
      go_ret
      exact ⟨ret_bool HE.out.symm, HB.out⟩

end Go.Proofs.Ytmhcameodlhloaa
