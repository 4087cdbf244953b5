/- Walks over the library: slices.Grow of nil and slices.Concat, of diagnostics. -/
import Derived.Test.YtbncnkfogkhoeaaGreatDoorZG
import Derived.Deep.OwnRows
import Derived.Laws.OwnMore
import Derived.OwnWalk
import Derived.Lib.AppendZerosOnto
import Derived.Lib.SliceRun
import Derived.Deep.RegionHeld3
import Derived.Sort.Grow
namespace Go.Proofs.YtbncnkfogkhoeaaGreatDoor
open Go.RowKit

/-- As OwnK, but an empty row may have room. -/
def OwnR {α : Type} (At : List Value → α → Prop) (w : World) (n e k : Nat) (v : Value) (l : List α) : Prop :=
  ∃ cs : List (List Value), w.ownsRow n e k v l.length cs.flatten ∧ cs.length = l.length ∧ (∀ c ∈ cs, c.length = k ∧ ∀ u ∈ c, u.oneCell' = true) ∧ (∀ (i : Nat) c y, cs[i]? = some c → l[i]? = some y → At c y)
section
variable {α : Type} {At : List Value → α → Prop} {w w' : World} {n e k : Nat} {v : Value} {l : List α}
theorem OwnK.toR (h : OwnK At w n e k v l) : OwnR At w n e k v l := by
  obtain ⟨cs, h1, h2, h3, h4, _⟩ := h
  exact ⟨cs, h1, h2, h3, h4⟩
theorem OwnR.toK (h : OwnR At w n e k v l) (hz : l = [] → v = .slice none 0 0) : OwnK At w n e k v l := by
  obtain ⟨cs, h1, h2, h3, h4⟩ := h
  exact ⟨cs, h1, h2, h3, h4, hz⟩
theorem OwnR.lt (h : OwnR At w n e k v l) : ∀ j, v.ownBlock = some j → n ≤ j ∧ j < w.heap.size := by
  obtain ⟨cs, h1, _⟩ := h
  exact h1.lt
theorem OwnR.below (h : OwnR At w n e k v l) (hb : Below w.heap.size w w') : OwnR At w' n e k v l := by
  obtain ⟨cs, h1, h2⟩ := h
  exact ⟨cs, own_below h1 hb, h2⟩
end
section
variable {α : Type} {At : List Value → α → Prop} {w : World} {ops : Array Oper} {rest : List Oper} {o : Oper} {a : Act} {Q : Exit → Act → World → Prop}
theorem wpList_append_R (hgd : o.guard = none) (s x : Operand) (t e k bytes : Nat) (z : Value)
    (ho : o.op = .call { callee := .builtin .append, args := #[s, x], argTypes := #[t, t] }) (ht : Tryz.prog.underlying t = some (.slice e)) (hinfo : (Tryz.prog.info? e).map (fun i => (i.zero, i.size, i.bytes)) = some (some z, k, bytes)) (hzs : z.cells.size = k) (hk : 0 < k) (hby : bytes ≤ 1024)
    (n : Nat) (v : Value) (l : List α) (hs : a.eval s = v) (hown : OwnR At w n e k v l) (n2 : Nat) (v2 : Value) (l2 : List α) (hx : a.eval x = v2) (hown2 : OwnK At w n2 e k v2 l2) (hl : l.length + l2.length ≤ 16777216) (hbase : n ≤ w.heap.size)
    (h : ∀ v' w', OwnR At w' n e k v' (l ++ l2) → (l2 = [] → v' = v) → w.grownBy w' v.ownBlock → wpList Tryz.prog ops Q rest (a.put o.dst v') w') : wpList Tryz.prog ops Q (o :: rest) a w := by
  obtain ⟨iS, hiS, hz0, hz1, hz2⟩ := info_parts hinfo
  have HO := hown
  obtain ⟨cs, hr, k1, k2, k3⟩ := hown
  rcases hown2.shape with ⟨rfl, rfl⟩ | ⟨g2, cap2, rfl, _, _, _, hne⟩
  · refine wpList_append_own_none hgd s x t ho n e iS k ht hiS v l.length cs.flatten hs hr hx ?_
    exact h v w (by simpa using HO) (fun _ => rfl) ⟨rfl, rfl, rfl, Nat.le_refl _, fun _ _ _ => rfl⟩
  · obtain ⟨cs2, hr2, b1, b2, b3, _⟩ := hown2
    have hpos : 0 < l2.length := List.length_pos_iff.2 hne
    refine wpList_append_lies w hgd s x t ho n e iS z k bytes ht hiS hz0 hz1 hz2 hzs hk v l.length cs.flatten hs hr ⟨g2, 0, none⟩ l2.length cap2 cs2.flatten hx (by rw [flat_len cs2 (fun c hc => (b2 c hc).1), b1]) (fun j u hu => ?_) (fun u hu => ?_) hpos (by unfold maxLen; omega)
      (Nat.le_trans (Nat.mul_le_mul hl hby) (by decide)) hbase w.heap.size rfl ?_
    · rw [Addr.add_lit, Nat.zero_add, World.ownsRow.cellAt hr2 j (by have := (List.getElem?_eq_some_iff.1 hu).1; rw [flat_len cs2 (fun c hc => (b2 c hc).1), b1] at this; exact this)]
      exact hu
    · obtain ⟨c, hc, hu'⟩ := List.mem_flatten.1 hu
      exact (b2 c hc).2 u hu'
    · intro g cap w' h1' h2 _ _
      exact h _ w' (OwnK.cat ⟨k1, k2, k3⟩ ⟨b1, b2, b3⟩ hne h1').toR (fun e => absurd e hne) h2
end

set_option maxHeartbeats 2000000 in
set_option maxRecDepth 100000 in
theorem growD_any (w : World) (n : Nat) (hn : n ≤ 16777216) :
    Calls Tryz.prog 98 #[.slice none 0 0, .int .i64 n] w fun e w' => ∃ v, e = .returned v ∧ OwnR DgC w' w.heap.size 43 3 v [] ∧ (n = 0 → v = .slice none 0 0) ∧ Below w.heap.size w w' := by
  obtain ⟨iS, hiS, hz0, hz1, hz2⟩ := info_parts infoDg
  by_cases h0 : n = 0
  · subst h0
    go_enter Tryz.func98, Tryz.ntmps98
    go_wp2
    go_ret
    exact ⟨_, rfl, (OwnK.nil _ _ _ _).toR, fun _ => rfl, Below.refl _ _⟩
  · obtain ⟨Z, hZ⟩ : ∃ Z : Value, Z = .agg #[.int .i64 0, .string ⟨#[]⟩, .string ⟨#[]⟩] := ⟨_, rfl⟩
    rw [← hZ] at hz0
    have hrz : ∀ ty, (Builtin.append_ #[37, 3] ty #[.slice none 0 0, .int .i64 n]).run Tryz.prog w =
        .ok (.slice (some ⟨w.heap.size, 0, none⟩) n (grownCap w n 0 43)) (w.drew.alloc (.cells (Builtin.zeroCells Z.cells n ++ Builtin.zeroCells Z.cells (grownCap w n 0 43 - n)) 43)) := fun ty => by
      have h := Lib.run_append_grow_zeros w 37 3 ty 43 iS Z .i64 .i64 Tryz.underlying37 Tryz.underlying3 hiS hz0 none 0 0 [] (run_firstCells_none w.drew _ 0 0 0) n (by omega) (by omega) (by omega) (by omega) (by rw [hz2]; omega)
        (by rw [Nat.zero_add]; exact growslice_fits (by omega) (by rw [hz2]; omega))
      simpa using h
    have hGn : n ≤ grownCap w n 0 43 := grownCap_ge w _ _ _
    have hGm : grownCap w n 0 43 ≤ maxLen := grownCap_le_maxLen w n 0 43 (by unfold maxLen; omega)
    obtain ⟨G, hG⟩ : ∃ G, G = grownCap w n 0 43 := ⟨_, rfl⟩
    rw [← hG] at hrz hGn hGm
    have hG63 : G ≤ 9223372036854775807 := by unfold maxLen at hGm; omega
    have hown : (w.drew.alloc (.cells (Builtin.zeroCells Z.cells n ++ Builtin.zeroCells Z.cells (G - n)) 43)).ownsRow w.heap.size 43 3 (.slice (some ⟨w.heap.size, 0, none⟩) 0 G) 0 [] :=
      ⟨by simp, .inr ⟨w.heap.size, G, _, rfl, Nat.le_refl _, heap_alloc_new w.drew _, Nat.zero_le _, hGm, by
        have e : ∀ k, (Builtin.zeroCells Z.cells k).size = k * 3 := fun k => by rw [hZ]; simp [Builtin.zeroCells, Value.cells]
        rw [Array.size_append, e, e]; omega, by simp⟩⟩
    have HO := hide hown
    have HBW : Hid (Below w.heap.size w (w.drew.alloc (.cells (Builtin.zeroCells Z.cells n ++ Builtin.zeroCells Z.cells (G - n)) 43))) := hide (((Below.refl _ _).drew).alloc (by simp) _)
    clear hown hG
    generalize (w.drew.alloc (.cells (Builtin.zeroCells Z.cells n ++ Builtin.zeroCells Z.cells (G - n)) 43)) = W1 at *
    go_enter Tryz.func98, Tryz.ntmps98
    go_wp2_with (at_builtin; refine Lib.wpList_append_run _ rfl _ _ _ _ rfl _ _ rfl rfl _ _ (hrz _) ?_)
    go_ret
    exact ⟨_, rfl, ⟨[], HO.out, rfl, (fun c hc => absurd hc (by simp)), (fun i c y hc => absurd hc (by simp))⟩, fun h => absurd h h0, HBW.out⟩

/-- The slice v is a list of rows of diagnostics of the call's own. -/
def DgsS (w : World) (n : Nat) (v : Value) (ls : List (List Dg)) : Prop :=
  ∃ b off cap, v = .slice (some ⟨b, off, none⟩) ls.length cap ∧ ls.length ≤ 16 ∧ ∀ i l, ls[i]? = some l → ∃ vi, w.cell? ⟨b, off + i, none⟩ = some vi ∧ OwnK DgC w n 43 3 vi l
theorem flatD_take {ls : List (List Dg)} {j : Nat} {l : List Dg} (h : ls[j]? = some l) : (ls.take (j + 1)).flatten = (ls.take j).flatten ++ l := by
  obtain ⟨hj, rfl⟩ := List.getElem?_eq_some_iff.1 h
  rw [List.take_succ_eq_append_getElem hj, List.flatten_append]; simp
theorem flatD_le (ls : List (List Dg)) (j : Nat) : (ls.take j).flatten.length ≤ ls.flatten.length := by
  conv => rhs; rw [← List.take_append_drop j ls]
  rw [List.flatten_append, List.length_append]; omega

set_option maxHeartbeats 2000000 in
set_option maxRecDepth 100000 in
theorem concatD_any (w : World) (n0 : Nat) (v : Value) (ls : List (List Dg)) (h : DgsS w n0 v ls) (hn : ls.flatten.length ≤ 16777216) :
    Calls Tryz.prog 45 #[v] w fun e w' => ∃ v', e = .returned v' ∧ OwnK DgC w' w.heap.size 43 3 v' ls.flatten ∧ Below w.heap.size w w' := by
  obtain ⟨b, off, cap, rfl, hl16, hel⟩ := h
  have HEL := hide hel
  clear hel
  obtain ⟨len, hlen⟩ : ∃ len, len = ls.length := ⟨_, rfl⟩
  have HL := hide hlen
  rw [← hlen] at hl16 ⊢
  clear hlen
  go_enter Tryz.func45, Tryz.ntmps45
  go_wp2
  go_loop [3, 11] (fun o i => ∃ k : Nat, k ≤ len ∧ i = .int .i64 k ∧ o = .int .i64 (ls.take k).flatten.length) (fun _ i => len - (intOf i).toNat)
  case atStart => exact ⟨0, Nat.zero_le _, rfl, rfl⟩
  case round =>
    obtain ⟨k, hk, rfl, rfl⟩ := hrel
    have hacc := Nat.le_trans (flatD_le ls k) hn
    by_cases hlt : k < len
    · obtain ⟨l, hy⟩ : ∃ l, ls[k]? = some l := ⟨_, List.getElem?_eq_getElem (by rw [← HL.out]; exact hlt)⟩
      obtain ⟨vi, g0, hst⟩ := HEL.out k l hy
      obtain ⟨a, cp, rfl⟩ := hst.form
      have HST : Hid ((ls.take (k + 1)).flatten.length = (ls.take k).flatten.length + l.length) := hide (by rw [flatD_take hy, List.length_append])
      have hacc2 := Nat.le_trans (flatD_le ls (k + 1)) hn
      rw [HST.out] at hacc2
      generalize (ls.take k).flatten.length = n0 at *
      generalize l.length = n1 at *
      clear hy hst
      go_wp2
      go_round
      case rel => exact ⟨k + 1, by omega, by go_num, by rw [HST.out]; go_num⟩
      case measure => simp [intOf]; omega
    · have e : ls.take k = ls := List.take_of_length_le (by have := HL.out; omega)
      rw [e] at hacc ⊢
      clear e
      obtain ⟨N, hN⟩ : ∃ N, N = ls.flatten.length := ⟨_, rfl⟩
      have HN := hide hN
      rw [← hN] at hacc ⊢
      clear hN
      go_wp2_with fail
      refine (growD_any w N hacc).mono ?_
      rintro e w1 ⟨v1, rfl, ho1, hz1, hb1⟩
      have HO := hide ho1
      have HB := hide hb1
      have HZ : Hid (ls.flatten = [] → v1 = .slice none 0 0) := hide (fun h => hz1 (by rw [HN.out, h]; rfl))
      clear ho1 hb1 hk hlt hz1
      go_wp2
      go_loopw [6, 27] (fun o i wr => ∃ k : Nat, k ≤ len ∧ i = .int .i64 k ∧ OwnR DgC wr w.heap.size 43 3 o (ls.take k).flatten ∧ (ls.flatten = [] → o = .slice none 0 0) ∧ Below w.heap.size w wr) (fun _ i _ => len - (intOf i).toNat)
      case atStart => exact ⟨0, Nat.zero_le _, rfl, HO.out, HZ.out, HB.out⟩
      case round =>
        obtain ⟨k, hk, rfl, hown, hzz, hnx⟩ := hrel
        by_cases hlt : k < len
        · obtain ⟨l, hy⟩ : ∃ l, ls[k]? = some l := ⟨_, List.getElem?_eq_getElem (by rw [← HL.out]; exact hlt)⟩
          obtain ⟨vi, g0, hst⟩ := HEL.out k l hy
          have u0 := cellUp g0 hnx
          have HSS := hide (hst.below hnx)
          obtain ⟨a, cp, rfl⟩ := hst.form
          have HST := hide (flatD_take hy)
          have hacc2 := Nat.le_trans (flatD_le ls (k + 1)) hn
          rw [HST.out, List.length_append] at hacc2
          have hbs := hnx.size
          have HOW := hide hown
          have HNX := hide hnx
          have HZZ := hide hzz
          have HEM : Hid (ls.flatten = [] → l = []) := hide (fun h => by
            have h1 := flatD_le ls (k + 1)
            rw [HST.out, List.length_append, h] at h1
            exact List.length_eq_zero_iff.1 (by simp at h1; simpa using h1.2))
          obtain ⟨n1, hn1⟩ : ∃ n, n = l.length := ⟨_, rfl⟩
          rw [← hn1] at u0 HSS
          clear hn1
          clear hy hst g0 hown hnx hzz
          go_wp2_with (first
            | (at_builtin; refine wpList_append_R (At := DgC) rfl _ _ 37 43 3 40 _ rfl Tryz.underlying37 infoDg (by decide) (by decide) (by decide) w.heap.size _ _ rfl HOW.out _ _ l rfl HSS.out (by omega) hbs ?_; intro v' w2 hown2 hz2 hgrow2)
            | fail)
          have R2 := hide (HNX.out.grown hgrow2 hbs (fun j hj => (HOW.out.lt j hj).1))
          have HO2 := hide hown2
          have HZ2 := hide hz2
          clear hgrow2 hown2 hz2
          go_roundw
          case rel => exact ⟨k + 1, by omega, by go_num, by rw [HST.out]; exact HO2.out, fun h => by rw [HZ2.out (HEM.out h)]; exact HZZ.out h, R2.out⟩
          case measure => simp [intOf]; omega
        · have e : ls.take k = ls := List.take_of_length_le (by have := HL.out; omega)
          rw [e] at hown
          have HO2 := hide (hown.toK hzz)
          clear hown hzz
          go_wp2
          go_ret
          exact ⟨_, rfl, HO2.out, hnx⟩

end Go.Proofs.YtbncnkfogkhoeaaGreatDoor

/- Walks over package names: twiceAmong, twiceDiags. -/
namespace Go.Proofs.YtbncnkfogkhoeaaGreatDoor
open Go.RowKit

theorem Strs.takeS {w : World} {a : Option Addr} {n cap i : Nat} {ss : List ByteArray} (h : Strs w (.slice a n cap) ss) (hi : i ≤ ss.length) : Strs w (.slice a i cap) (ss.take i) := by
  obtain ⟨a', b, off, c, e, h0, h1, h2, h3⟩ := h
  injection e with e1 e2 e3
  subst e1 e2 e3
  have hl : (ss.take i).length = i := by rw [List.length_take]; omega
  refine ⟨a, b, off, cap, by rw [hl], fun h => h0 (by omega), by omega, fun s hs => h2 s (List.mem_of_mem_take hs), fun j hj => ?_⟩
  rw [h3 j (by omega)]
  rw [hl] at hj
  simp [List.getD_eq_getElem?_getD, hj]
namespace Nm
def inB (l : List ByteArray) (s : ByteArray) : Bool := decide (0 ≤ Lat.indexI l s)
/-- What twiceAmong answers. -/
def twA (fn : ByteArray) (l : List ByteArray) : List Dg := upto (atD l fun i s => if inB (l.take i) s = true then [⟨2, fn, s⟩] else []) l.length
/-- What twiceDiags answers. -/
def twD (x : Mo) : List Dg := [twA ⟨#[]⟩ x.imports, twA ⟨#[]⟩ (x.vars.map (·.name)), twA ⟨#[]⟩ (x.funs.map (·.name))].flatten ++ x.funs.flatMap fun f => twA f.name f.params
end Nm

set_option maxHeartbeats 2000000 in
set_option maxRecDepth 100000 in
theorem twiceAmong_any (w : World) (v : Value) (l : List ByteArray) (fn : ByteArray) (h : StrsC w v l) (hlen : (Nm.twA fn l).length ≤ 16777216) :
    Calls Tryz.prog 99 #[.string fn, v] w fun e w' => ∃ u, e = .returned u ∧ OwnK DgC w' w.heap.size 43 3 u (Nm.twA fn l) ∧ Below w.heap.size w w' := by
  obtain ⟨hS, a, cap, rfl, hcap⟩ := h
  have HS := hide hS
  obtain ⟨a', b, off, c', he, ha, hl, hcs, hci⟩ := hS
  injection he with he1 he2 he3
  subst he1 he3
  have HCI := hide hci
  have HA := hide ha
  obtain ⟨G, hG⟩ : ∃ G, G = Nm.atD l fun i s => if Nm.inB (l.take i) s = true then [⟨2, fn, s⟩] else [] := ⟨_, rfl⟩
  have HG := hide hG
  have HLD : Hid (Nm.twA fn l = Nm.upto G l.length) := hide (by rw [hG]; rfl)
  have HLE := hide hlen
  rw [HLD.out] at HLE ⊢
  obtain ⟨ni, hni⟩ : ∃ n, n = l.length := ⟨_, rfl⟩
  have HNI := hide hni
  rw [← hni] at hl HA HLE hcap HS ⊢
  clear hci ha hcs hlen hG hni he2
  go_enter Tryz.func99, Tryz.ntmps99
  go_wp2_with fail
  go_loopw [5, 10] (fun v i wr => ∃ j : Nat, j ≤ ni ∧ i = .int .i64 j ∧ OwnK DgC wr w.heap.size 43 3 v (Nm.upto G j) ∧ Below w.heap.size w wr) (fun _ i _ => ni - (intOf i).toNat)
  case atStart => exact ⟨0, Nat.zero_le _, rfl, OwnK.nil _ _ _ _, Below.refl _ _⟩
  case round =>
    obtain ⟨t, ht, rfl, hown, hnx⟩ := hrel
    have HOW := hide hown
    have HNX := hide hnx
    by_cases htl' : t < ni
    · obtain ⟨s, hs⟩ : ∃ y, l[t]? = some y := ⟨_, List.getElem?_eq_getElem (by rw [← HNI.out]; exact htl')⟩
      have c0 := cellUp (HCI.out t (by rw [← HNI.out]; exact htl')) hnx
      rw [List.getD_eq_getElem?_getD, hs, Option.getD_some] at c0
      obtain rfl := HA.out (by omega)
      have HY : Hid (G t = if Nm.inB (l.take t) s = true then [⟨2, fn, s⟩] else []) := hide (by rw [HG.out]; exact Nm.atD_some hs)
      have HCO := hide (containsS_any wr _ (l.take t) s ((HS.out.takeS (by rw [← HNI.out]; exact ht)).below hnx))
      rw [show decide (0 ≤ Lat.indexI (l.take t) s) = Nm.inB (l.take t) s from rfl] at HCO
      obtain ⟨a3, c3, rfl⟩ := hown.form
      have hul : (Nm.upto G t).length < 16777216 ∨ G t = [] := by
        have h1 := Nm.upto_le G (show t + 1 ≤ ni by omega)
        rw [Nm.upto_succ, List.length_append] at h1
        have h2 := HLE.out
        by_cases hg : G t = []
        · exact Or.inr hg
        · have := List.length_pos_iff.2 hg
          exact Or.inl (by omega)
      have HUL := hide hul
      obtain ⟨ul, hut⟩ : ∃ n, n = (Nm.upto G t).length := ⟨_, rfl⟩
      have HUT := hide hut
      rw [← hut] at HOW ⊢
      clear hs hown hnx hut hul
      go_wp2_with fail
      refine HCO.out.mono ?_
      rintro e w2 ⟨rfl, hw2⟩
      subst hw2
      generalize Nm.inB (l.take t) s = ib at *
      cases ib
      · rw [if_neg (by simp)] at HY
        go_wp2_with fail
        go_roundw
        case rel => exact ⟨t + 1, by omega, by go_num, by rw [Nm.upto_succ, HY.out, List.append_nil]; exact HOW.out, HNX.out⟩
        case measure => simp [intOf]; omega
      · rw [if_pos rfl] at HY
        have hul : ul < 16777216 := by
          rcases HUL.out with h | h
          · rw [HUT.out]; exact h
          · rw [HY.out] at h; cases h
        go_wp2_with (first
          | (at_builtin; refine wpList_append_K (At := DgC) rfl _ _ 37 43 3 40 _ rfl Tryz.underlying37 infoDg (by decide) (by decide) (by decide) w.heap.size _ _ rfl (HOW.out.below (boxBelow _ _)) _ _ [⟨2, fn, s⟩] rfl (OwnK.one _ _ rfl (DgC.one (d := ⟨2, fn, s⟩) rfl) rfl) (by have := HUT.out; simp only [List.length_singleton]; omega) (Nat.le_trans HNX.out.size (boxBelow _ _).size) ?_; intro v6 w6 hown6 hgrow6; have HOW6 := hide hown6; have HN6 := hide (grown_below (up HNX.out (boxBelow _ _)) hgrow6 (fun j hj => (HOW.out.lt j hj).1)); clear hown6 hgrow6)
          | fail)
        go_roundw
        case rel => exact ⟨t + 1, by omega, by go_num, by rw [Nm.upto_succ, HY.out]; exact HOW6.out, HN6.out⟩
        case measure => simp [intOf]; omega
    · have hje : t = ni := by omega
      obtain ⟨a9, c9, rfl⟩ := hown.form
      rw [hje] at HOW ⊢
      generalize (Nm.upto G ni).length = nu at *
      clear hown hje hnx
      go_wp2_with fail
      go_ret
      exact ⟨_, rfl, HOW.out, HNX.out⟩

/-- A slice's length is within its capacity. -/
def CapOK (v : Value) : Prop := ∀ a n c, v = .slice a n c → n ≤ c
/-- The capacities of a module's lists that are sliced. -/
structure MoCap (w : World) (vi vf : Value) : Prop where
  imp : CapOK vi
  fus : CapOK vf
  par : ∀ b off n c, vf = .slice (some ⟨b, off, none⟩) n c → ∀ i, i < n → ∃ vp, w.cell? ⟨b, off + i * 7 + 1, none⟩ = some vp ∧ CapOK vp
theorem MoCap.below {w w' : World} {vi vf : Value} (h : MoCap w vi vf) (hb : Below w.heap.size w w') : MoCap w' vi vf :=
  ⟨h.imp, h.fus, fun b off n c e i hi => by
    obtain ⟨vp, h1, h2⟩ := h.par b off n c e i hi
    exact ⟨vp, cellUp h1 hb, h2⟩⟩

end Go.Proofs.YtbncnkfogkhoeaaGreatDoor

/- Walks over package names: twiceDiags. -/
namespace Go.Proofs.YtbncnkfogkhoeaaGreatDoor
open Go.RowKit

theorem Own.form {w : World} {B : Nat} {v : Value} {l : List ByteArray} (h : Own w B v l) : ∃ a c, v = .slice a l.length c := by
  rcases h.shape with ⟨rfl, rfl⟩ | ⟨g, cap, rfl, _⟩
  · exact ⟨_, _, rfl⟩
  · exact ⟨_, _, rfl⟩
theorem box1_2 (w : World) (o : Obj) (c : Value) (t : TypeId) : ((w.alloc o).alloc (.cells #[c] t)).cell? ⟨w.heap.size + 1, 0, none⟩ = some c := (block_at (al2 w o (.cells #[c] t)).2.1 0).trans rfl
theorem dgsS_list (w : World) (n : Nat) (t : TypeId) (vs : List Value) (ls : List (List Dg)) (hlen : vs.length = ls.length) (h16 : ls.length ≤ 16) (h : ∀ (i : Nat) v l, vs[i]? = some v → ls[i]? = some l → OwnK DgC w n 43 3 v l) :
    DgsS (w.alloc (.cells vs.toArray t)) n (.slice (some ⟨w.heap.size, 0, none⟩) ls.length ls.length) ls := by
  refine ⟨w.heap.size, 0, ls.length, rfl, h16, fun i l hl => ?_⟩
  have hi : i < vs.length := by rw [hlen]; exact (List.getElem?_eq_some_iff.1 hl).1
  refine ⟨vs[i], ?_, (h i _ l (List.getElem?_eq_getElem hi) hl).below (boxBelow _ _)⟩
  rw [Nat.zero_add, block_at (block_new w (.cells vs.toArray t)) i]
  simp [hi]
theorem names_le {α : Type} (l : List α) (f : α → ByteArray) (j : Nat) : ((l.take j).map f).length ≤ l.length := by
  rw [List.length_map, List.length_take]; omega

set_option maxHeartbeats 4000000 in
set_option maxRecDepth 100000 in
theorem twiceDiags_any (m : Nat) (w : World) (vi vv vf : Value) (x : Mo) (h : MoAt w m (.agg #[.string x.name, vi, vv, vf]) x) (hc : MoCap w vi vf) (hlv : x.vars.length ≤ 1048576) (hlf : x.funs.length ≤ 1048576) (hlen : (Nm.twD x).length ≤ 16777216) :
    Calls Tryz.prog 47 #[.agg #[.string x.name, vi, vv, vf]] w fun e w' => ∃ u, e = .returned u ∧ OwnK DgC w' w.heap.size 43 3 u (Nm.twD x) ∧ Below w.heap.size w w' := by
  obtain ⟨hI, hV, hF⟩ := h.split
  have HIC : Hid (StrsC w vi x.imports) := by
    refine hide ⟨hI, ?_⟩
    obtain ⟨a, b, off, c, rfl, _⟩ := hI
    exact ⟨a, c, rfl, hc.imp _ _ _ rfl⟩
  obtain ⟨ai, bi, oi, ci, rfl, -⟩ := hI
  obtain ⟨av, bv, ov, cv, rfl, hav, -, hcv⟩ := hV
  obtain ⟨af, bf, of, cf, rfl, haf, -, hcf⟩ := hF
  have HCV := hide hcv
  have HAV := hide hav
  have HCF : Hid (FuEl w m bf of x.funs) := hcf
  have HAF := hide haf
  have HMC := hide hc
  have HLD : Hid (Nm.twD x = [Nm.twA ⟨#[]⟩ x.imports, Nm.twA ⟨#[]⟩ (x.vars.map (·.name)), Nm.twA ⟨#[]⟩ (x.funs.map (·.name))].flatten ++ x.funs.flatMap fun f => Nm.twA f.name f.params) := rfl
  have HLE := hide hlen
  rw [HLD.out] at HLE
  obtain ⟨R, hR⟩ : ∃ R, R = Nm.twD x := ⟨_, rfl⟩
  rw [← hR] at HLD ⊢
  obtain ⟨T1, hT1⟩ : ∃ T, T = Nm.twA ⟨#[]⟩ x.imports := ⟨_, rfl⟩
  obtain ⟨T2, hT2⟩ : ∃ T, T = Nm.twA ⟨#[]⟩ (x.vars.map (·.name)) := ⟨_, rfl⟩
  obtain ⟨T3, hT3⟩ : ∃ T, T = Nm.twA ⟨#[]⟩ (x.funs.map (·.name)) := ⟨_, rfl⟩
  have HT1 := hide hT1
  have HT2 := hide hT2
  have HT3 := hide hT3
  rw [← hT1, ← hT2, ← hT3] at HLD HLE
  have HL3 : Hid (T1.length + T2.length + T3.length + (x.funs.flatMap fun f => Nm.twA f.name f.params).length ≤ 16777216) := hide (by
    have := HLE.out
    simp only [List.flatten_cons, List.flatten_nil, List.append_nil, List.length_append] at this
    omega)
  obtain ⟨vars, hvars⟩ : ∃ l, l = x.vars := ⟨_, rfl⟩
  obtain ⟨funs, hfuns⟩ : ∃ l, l = x.funs := ⟨_, rfl⟩
  rw [← hvars] at hlv HCV HAV HT2 ⊢
  rw [← hfuns] at hlf HCF HAF HLD HT3 HL3 HMC ⊢
  obtain ⟨nv, hnv⟩ : ∃ n, n = vars.length := ⟨_, rfl⟩
  obtain ⟨nf, hnf⟩ : ∃ n, n = funs.length := ⟨_, rfl⟩
  have HNV := hide hnv
  have HNF := hide hnf
  rw [← hnv] at hlv HAV ⊢
  rw [← hnf] at hlf HAF HMC ⊢
  generalize x.imports.length = ni at *
  generalize x.name = xn at *
  have HBX := hide (block_new w (.cells #[.string xn, .slice ai ni ci, .slice av nv cv, .slice af nf cf] 26))
  have q1 := boxD1 w (.string xn) (.slice ai ni ci) (.slice av nv cv) (.slice af nf cf) 26
  have q2 := boxD2 w (.string xn) (.slice ai ni ci) (.slice av nv cv) (.slice af nf cf) 26
  have q3 := boxN3 w (.string xn) (.slice ai ni ci) (.slice av nv cv) (.slice af nf cf) 26
  have HB0 := hide (boxBelow w (.cells #[.string xn, .slice ai ni ci, .slice av nv cv, .slice af nf cf] 26))
  clear hcv hav hcf haf hlen hR hvars hfuns hnv hnf h hc hT1 hT2 hT3 HLE
  go_enter Tryz.func47, Tryz.ntmps47
  go_wp2_with fail
  generalize (w.alloc (.cells #[.string xn, .slice ai ni ci, .slice av nv cv, .slice af nf cf] 26)) = W1 at *
  go_loopw [3, 15] (fun v i wr => ∃ j : Nat, j ≤ nv ∧ i = .int .i64 j ∧ Own wr W1.heap.size v ((vars.take j).map (·.name)) ∧ Below W1.heap.size W1 wr) (fun _ i _ => nv - (intOf i).toNat)
  case atStart => exact ⟨0, Nat.zero_le _, rfl, World.ownsRow_nil _ _ _ _, Below.refl _ _⟩
  case round =>
    obtain ⟨j, hj, rfl, hown, hnx⟩ := hrel
    have HOW := hide hown
    have HNX := hide hnx
    by_cases hjl : j < nv
    · obtain ⟨y, hy⟩ : ∃ y, vars[j]? = some y := ⟨_, List.getElem?_eq_getElem (by rw [← HNV.out]; exact hjl)⟩
      obtain ⟨-, -, g0, g1⟩ := HCV.out j y hy
      obtain rfl := HAV.out (by omega)
      replace g0 := cellUp g0 (up HB0.out hnx)
      replace g1 := cellUp g1 (up HB0.out hnx)
      have HST := hide (map_succ (f := fun v : Va => v.name) hy)
      have HB5 := hide (boxBelow wr (.cells #[.string y.name, .string y.level] 79))
      have c0 := (block_at (block_new wr (.cells #[.string y.name, .string y.level] 79)) 0).trans (rfl : _ = some (Value.string y.name))
      have hml := names_le vars (·.name) j
      rw [← HNV.out] at hml
      obtain ⟨a3, c3, rfl⟩ := hown.form
      obtain ⟨ln, hln⟩ : ∃ n, n = ((vars.take j).map (·.name)).length := ⟨_, rfl⟩
      have HLN := hide hln
      rw [← hln] at HOW hml ⊢
      clear hy hown hnx hln
      go_wp2_with (first
        | (at_builtin; refine wpList_append_str rfl _ _ rfl W1.heap.size _ _ rfl (own_below HOW.out (up HB5.out (boxBelow _ _))) _ y.name rfl (box1_2 _ _ _ _) (by have := HLN.out; omega) (Nat.le_trans HNX.out.size (up HB5.out (boxBelow _ _)).size) ?_; intro v6 w6 hown6 hgrow6; have HOW6 := hide hown6; have HN6 := hide (grown_below (up HNX.out (up HB5.out (boxBelow _ _))) hgrow6 (fun j hj => (World.ownsRow.lt HOW.out j hj).1)); clear hown6 hgrow6)
        | fail)
      go_roundw
      case rel => exact ⟨j + 1, by omega, by go_num, by rw [HST.out]; exact HOW6.out, HN6.out⟩
      case measure => simp [intOf]; omega
    · have hje : (vars.take j) = vars := List.take_of_length_le (by have := HNV.out; omega)
      rw [hje] at HOW hown
      obtain ⟨a3, c3, rfl⟩ := hown.form
      obtain ⟨ln, hln⟩ : ∃ n, n = (vars.map (·.name)).length := ⟨_, rfl⟩
      rw [← hln] at HOW ⊢
      replace q1 := cellUp q1 hnx
      replace q3 := cellUp q3 hnx
      have HQ := hide (And.intro q1 q3)
      clear hje hown hnx hln q2
      obtain ⟨wo, rfl⟩ : ∃ wo, wo = wr := ⟨_, rfl⟩
      go_wp2_with fail
      go_loopw [4, 28] (fun v i wx => ∃ t : Nat, t ≤ nf ∧ i = .int .i64 t ∧ Own wx wo.heap.size v ((funs.take t).map (·.name)) ∧ Below wo.heap.size wo wx) (fun _ i _ => nf - (intOf i).toNat)
      case atStart => exact ⟨0, Nat.zero_le _, rfl, World.ownsRow_nil _ _ _ _, Below.refl _ _⟩
      case round =>
        obtain ⟨t, ht, rfl, hown, hnx⟩ := hrel
        have HO4 := hide hown
        have HX4 := hide hnx
        by_cases htl : t < nf
        · obtain ⟨y, hy⟩ : ∃ y, funs[t]? = some y := ⟨_, List.getElem?_eq_getElem (by rw [← HNF.out]; exact htl)⟩
          obtain ⟨-, vp, vb, e0, e1, e2, e3, g0, g1, g2, g3, g4, g5, g6, hp, hb, hx⟩ := HCF.out t y hy
          obtain rfl := HAF.out (by omega)
          have hbb := up (up HB0.out HNX.out) hnx
          replace g0 := cellUp g0 hbb
          replace g1 := cellUp g1 hbb
          replace g2 := cellUp g2 hbb
          replace g3 := cellUp g3 hbb
          replace g4 := cellUp g4 hbb
          replace g5 := cellUp g5 hbb
          replace g6 := cellUp g6 hbb
          obtain ⟨ap, bp, op, cp, rfl, -⟩ := hp
          obtain ⟨sb, cb', rfl⟩ := hb.shapeN
          obtain ⟨xa, xc, rfl, rfl, rfl, rfl⟩ := hx.shape
          generalize y.params.length = np at *
          generalize y.body.length = nb at *
          generalize y.result.args.length = ne at *
          have HST := hide (map_succ (f := fun v : Fu => v.name) hy)
          have HB5 := hide (boxBelow wr (.cells #[.string y.name, .slice ap np cp, .slice sb nb cb', .int .i64 y.result.kind, .int .i64 y.result.n, .string y.result.name, .slice xa ne xc] 87))
          have c0 := (block_at (block_new wr (.cells #[.string y.name, .slice ap np cp, .slice sb nb cb', .int .i64 y.result.kind, .int .i64 y.result.n, .string y.result.name, .slice xa ne xc] 87)) 0).trans (rfl : _ = some (Value.string y.name))
          have hml := names_le funs (·.name) t
          rw [← HNF.out] at hml
          obtain ⟨a4, c4, rfl⟩ := hown.form
          obtain ⟨l4, hl4⟩ : ∃ n, n = ((funs.take t).map (·.name)).length := ⟨_, rfl⟩
          have HL4 := hide hl4
          rw [← hl4] at HO4 hml ⊢
          clear hy hown hnx hl4 hb hx hbb q1 q3
          go_wp2_with (first
            | (at_builtin; refine wpList_append_str rfl _ _ rfl wo.heap.size _ _ rfl (own_below HO4.out (up HB5.out (boxBelow _ _))) _ y.name rfl (box1_2 _ _ _ _) (by have := HL4.out; omega) (Nat.le_trans HX4.out.size (up HB5.out (boxBelow _ _)).size) ?_; intro v6 w6 hown6 hgrow6; have HOW6 := hide hown6; have HN6 := hide (grown_below (up HX4.out (up HB5.out (boxBelow _ _))) hgrow6 (fun j hj => (World.ownsRow.lt HO4.out j hj).1)); clear hown6 hgrow6)
            | fail)
          go_roundw
          case rel => exact ⟨t + 1, by omega, by go_num, by rw [HST.out]; exact HOW6.out, HN6.out⟩
          case measure => simp [intOf]; omega
        · have hje : (funs.take t) = funs := List.take_of_length_le (by have := HNF.out; omega)
          rw [hje] at HO4 hown
          have HS3 : Hid (StrsC wr (.slice a3 ln c3) (vars.map (·.name))) := hide (Own.strsC (own_below HOW.out HX4.out) (fun s hs => by
            obtain ⟨y, hy, rfl⟩ := List.mem_map.1 hs
            obtain ⟨i, hi, rfl⟩ := List.mem_iff_getElem.1 hy
            exact (HCV.out i _ (List.getElem?_eq_getElem hi)).1) (by rw [List.length_map, ← HNV.out]; omega))
          obtain ⟨a4, c4, rfl⟩ := hown.form
          obtain ⟨l4, hl4⟩ : ∃ n, n = (funs.map (·.name)).length := ⟨_, rfl⟩
          rw [← hl4] at HO4 ⊢
          have HS4 : Hid (StrsC wr (.slice a4 l4 c4) (funs.map (·.name))) := hide (Own.strsC HO4.out (fun s hs => by
            obtain ⟨y, hy, rfl⟩ := List.mem_map.1 hs
            obtain ⟨i, hi, rfl⟩ := List.mem_iff_getElem.1 hy
            exact (HCF.out i _ (List.getElem?_eq_getElem hi)).1) (by rw [List.length_map, ← HNF.out]; omega))
          have HBW := hide (up (up HB0.out HNX.out) hnx)
          replace q1 := cellUp q1 hnx
          have HQ3 := hide (cellUp HQ.out.2 hnx)
          clear hje hown hnx hl4 q3 HOW HO4
          go_wp2_with fail
          refine (twiceAmong_any wr _ x.imports ⟨#[]⟩ (HIC.out.below HBW.out) (by rw [← HT1.out]; have := HL3.out; omega)).mono ?_
          rintro e w5 ⟨u5, rfl, hu5, hb5⟩
          rw [← HT1.out] at hu5
          have HU5 := hide hu5
          have HB5 := hide hb5
          obtain ⟨a5, c5, rfl⟩ := hu5.form
          clear hu5 hb5 q1
          generalize hz5 : T1.length = t1 at *
          go_wp2_with fail
          refine (twiceAmong_any w5 _ (vars.map (·.name)) ⟨#[]⟩ (HS3.out.below HB5.out) (by rw [← HT2.out]; have := HL3.out; omega)).mono ?_
          rintro e w6 ⟨u6, rfl, hu6, hb6⟩
          rw [← HT2.out] at hu6
          have HU6 := hide hu6
          have HB6 := hide hb6
          obtain ⟨a6, c6, rfl⟩ := hu6.form
          clear hu6 hb6
          generalize hz6 : T2.length = t2 at *
          go_wp2_with fail
          refine (twiceAmong_any w6 _ (funs.map (·.name)) ⟨#[]⟩ ((HS4.out.below HB5.out).below HB6.out) (by rw [← HT3.out]; have := HL3.out; omega)).mono ?_
          rintro e w7 ⟨u7, rfl, hu7, hb7⟩
          rw [← HT3.out] at hu7
          have HU7 := hide hu7
          have HB7 := hide hb7
          obtain ⟨a7, c7, rfl⟩ := hu7.form
          clear hu7 hb7
          generalize hz7 : T3.length = t3 at *
          have HDS : Hid (DgsS (w7.alloc (.cells #[.slice a5 t1 c5, .slice a6 t2 c6, .slice a7 t3 c7] 37)) wr.heap.size (.slice (some ⟨w7.heap.size, 0, none⟩) 3 3) [T1, T2, T3]) :=
            hide (dgsS_list w7 wr.heap.size 37 [.slice a5 t1 c5, .slice a6 t2 c6, .slice a7 t3 c7] [T1, T2, T3] rfl (by simp) (fun i v l hv hl => by
              match i, hv, hl with
              | 0, hv, hl => simp at hv hl; subst hv hl; exact (HU5.out.below HB6.out).below HB7.out
              | 1, hv, hl => simp at hv hl; subst hv hl; exact (HU6.out.below HB7.out).old HB5.out.size
              | 2, hv, hl => simp at hv hl; subst hv hl; exact HU7.out.old (Nat.le_trans HB5.out.size HB6.out.size)
              | i + 3, hv, hl => simp at hv))
          have HC3 : Hid (([T1, T2, T3] : List (List Dg)).flatten.length ≤ 16777216) := hide (by
            have := HL3.out
            simp only [List.flatten_cons, List.flatten_nil, List.append_nil, List.length_append]
            omega)
          have HB8 := hide (up (up (up HBW.out HB5.out) HB6.out) (up HB7.out (boxBelow w7 (.cells #[.slice a5 t1 c5, .slice a6 t2 c6, .slice a7 t3 c7] 37))))
          have hq3 := cellUp (cellUp (cellUp (cellUp HQ3.out HB5.out) HB6.out) HB7.out) (boxBelow w7 (.cells #[.slice a5 t1 c5, .slice a6 t2 c6, .slice a7 t3 c7] 37))
          have HQ8 := hide hq3
          clear hq3 HS3 HS4 HU5 HU6 HU7 HQ3 HIC HT1 HT2 HT3
          go_wp2_with fail
          refine (concatD_any _ _ _ _ HDS.out HC3.out).mono ?_
          rintro e w9 ⟨u9, rfl, hu9, hb9⟩
          have HU9 := hide (hu9.old HB8.out.size)
          have HB9 := hide (up HB8.out hb9)
          have q9 := cellUp HQ8.out hb9
          obtain ⟨F, hF⟩ : ∃ F, F = ([T1, T2, T3] : List (List Dg)).flatten := ⟨_, rfl⟩
          have HF := hide hF
          rw [← hF] at HU9 hu9
          obtain ⟨a9, c9, rfl⟩ := hu9.form
          generalize hz9 : F.length = t9 at *
          have HFL : Hid (F.length + (funs.flatMap fun f => Nm.twA f.name f.params).length ≤ 16777216) := hide (by
            have := HL3.out
            rw [HF.out]
            simp only [List.flatten_cons, List.flatten_nil, List.append_nil, List.length_append]
            omega)
          rw [← HF.out] at HLD
          clear hu9 hb9 hF HQ8 HB5 HB6 HB7 HDS HC3 HL3 HF
          go_wp2_with fail
          go_loopw [9, 50] (fun v i wx => ∃ t : Nat, t ≤ nf ∧ i = .int .i64 t ∧ OwnK DgC wx w.heap.size 43 3 v (F ++ (funs.take t).flatMap fun f => Nm.twA f.name f.params) ∧ Below w.heap.size w wx) (fun _ i _ => nf - (intOf i).toNat)
          case atStart => exact ⟨0, Nat.zero_le _, rfl, by simpa using HU9.out, HB9.out⟩
          case round =>
            obtain ⟨s, hs, rfl, hown, hnx⟩ := hrel
            have HO4 := hide hown
            have HX4 := hide hnx
            by_cases hsl : s < nf
            · obtain ⟨y, hy⟩ : ∃ y, funs[s]? = some y := ⟨_, List.getElem?_eq_getElem (by rw [← HNF.out]; exact hsl)⟩
              obtain ⟨-, vp, vb, e0, e1, e2, e3, g0, g1, g2, g3, g4, g5, g6, hp, hb, hx⟩ := HCF.out s y hy
              obtain rfl := HAF.out (by omega)
              have HPC : Hid (StrsC w vp y.params) := by
                refine hide ⟨hp, ?_⟩
                obtain ⟨vp', k1, k2⟩ := HMC.out.par bf of nf cf rfl s hsl
                rw [g1] at k1
                cases k1
                obtain ⟨a, b, off, c, rfl, _⟩ := hp
                exact ⟨a, c, rfl, k2 _ _ _ rfl⟩
              have HST := hide (flat_succ (f := fun f : Fu => Nm.twA f.name f.params) hy)
              have HLS : Hid ((F ++ (funs.take s).flatMap fun f => Nm.twA f.name f.params).length + (Nm.twA y.name y.params).length ≤ 16777216) := hide (by
                have h1 := flat_le (f := fun f : Fu => Nm.twA f.name f.params) (l := funs) (s + 1)
                rw [HST.out, List.length_append] at h1
                have h2 := HFL.out
                rw [List.length_append]
                omega)
              replace g0 := cellUp g0 hnx
              replace g1 := cellUp g1 hnx
              replace g2 := cellUp g2 hnx
              replace g3 := cellUp g3 hnx
              replace g4 := cellUp g4 hnx
              replace g5 := cellUp g5 hnx
              replace g6 := cellUp g6 hnx
              obtain ⟨ap, bp, op, cp, rfl, -⟩ := hp
              obtain ⟨sb, cb', rfl⟩ := hb.shapeN
              obtain ⟨xa, xc, rfl, rfl, rfl, rfl⟩ := hx.shape
              generalize y.params.length = np at *
              generalize y.body.length = nb at *
              generalize y.result.args.length = ne at *
              have HB5 := hide (boxBelow wr (.cells #[.string y.name, .slice ap np cp, .slice sb nb cb', .int .i64 y.result.kind, .int .i64 y.result.n, .string y.result.name, .slice xa ne xc] 87))
              have hbn := block_new wr (.cells #[.string y.name, .slice ap np cp, .slice sb nb cb', .int .i64 y.result.kind, .int .i64 y.result.n, .string y.result.name, .slice xa ne xc] 87)
              have c0 := (block_at hbn 0).trans (rfl : _ = some (Value.string y.name))
              have c1 := (block_at hbn 1).trans (rfl : _ = some (Value.slice ap np cp))
              obtain ⟨a4, c4, rfl⟩ := hown.form
              obtain ⟨l4, hl4⟩ : ∃ n, n = (F ++ (funs.take s).flatMap fun f => Nm.twA f.name f.params).length := ⟨_, rfl⟩
              rw [← hl4] at HO4 ⊢
              clear hy hown hnx hl4 hb hx hbn
              go_wp2_with fail
              refine (twiceAmong_any _ _ y.params y.name (HPC.out.below (up HX4.out HB5.out)) (by have := HLS.out; omega)).mono ?_
              rintro e w5 ⟨u5, rfl, hu5, hb5⟩
              have HU5 := hide hu5
              have HB6 := hide (up HB5.out hb5)
              clear hu5 hb5
              go_wp2_with (first
                | (at_builtin; refine wpList_append_K (At := DgC) rfl _ _ 37 43 3 40 _ rfl Tryz.underlying37 infoDg (by decide) (by decide) (by decide) w.heap.size _ _ rfl (HO4.out.below HB6.out) _ _ _ rfl HU5.out HLS.out (up HX4.out HB6.out).size ?_; intro v6 w6 hown6 hgrow6; have HOW6 := hide hown6; have HN6 := hide (grown_below (up HX4.out HB6.out) hgrow6 (fun j hj => (HO4.out.lt j hj).1)); clear hown6 hgrow6)
                | fail)
              go_roundw
              case rel => exact ⟨s + 1, by omega, by go_num, by rw [HST.out, ← List.append_assoc]; exact HOW6.out, HN6.out⟩
              case measure => simp [intOf]; omega
            · have hje : (funs.take s) = funs := List.take_of_length_le (by have := HNF.out; omega)
              rw [hje, ← HLD.out] at HO4 hown
              obtain ⟨a4, c4, rfl⟩ := hown.form
              generalize R.length = nr at *
              clear hown hnx hje
              go_wp2_with fail
              go_ret
              exact ⟨_, rfl, HO4.out, HX4.out⟩

end Go.Proofs.YtbncnkfogkhoeaaGreatDoor

/- Walks over the library and package names: cmp.Compare, cmp.Or, compareDiags. -/
namespace Go.Proofs.YtbncnkfogkhoeaaGreatDoor
open Go.RowKit

namespace Nm
/-- What cmp.Compare answers of two strings. -/
def cs (s t : ByteArray) : Int := if Op.bytesLess s.toList t.toList = true then -1 else if (s.toList == t.toList) = true then 0 else 1
/-- .. of two ints. -/
def ci (a b : Int) : Int := if a < b then -1 else if a = b then 0 else 1
/-- The first that isn't 0. -/
def or3 (a b c : Int) : Int := if a ≠ 0 then a else if b ≠ 0 then b else c
/-- What compareDiags answers. -/
def cmpD (x y : Dg) : Int := or3 (cs x.fn y.fn) (ci x.code y.code) (cs x.name y.name)
theorem cs_neg (s t : ByteArray) : cs s t < 0 ↔ Op.bytesLess s.toList t.toList = true := by
  unfold cs; split
  · rename_i h; simp [h]
  · rename_i h; split <;> simp [h]
theorem cs_zero (s t : ByteArray) : cs s t = 0 ↔ s = t := by
  unfold cs; split
  · rename_i h
    constructor
    · intro h'; simp at h'
    · rintro rfl; rw [bl_irr] at h; simp at h
  · split
    · rename_i h; rw [beq_iff_eq] at h; simp [toList_inj h]
    · rename_i h
      constructor
      · intro h'; simp at h'
      · rintro rfl; simp at h
theorem ci_neg (a b : Int) : ci a b < 0 ↔ a < b := by
  unfold ci; split
  · rename_i h; simp [h]
  · rename_i h; split <;> simp [h]
theorem ci_zero (a b : Int) : ci a b = 0 ↔ a = b := by
  unfold ci; split
  · constructor
    · intro h'; simp at h'
    · intro h; omega
  · split
    · rename_i h; simp [h]
    · rename_i h; simp [h]
/-- It is the order of the document's answer. -/
theorem cmpD_ahead (x y : Dg) : decide (cmpD x y < 0) = aheadB x y := by
  rw [Bool.eq_iff_iff, decide_eq_true_iff, aheadB_iff]
  unfold cmpD or3
  by_cases h1 : cs x.fn y.fn = 0
  · rw [if_neg (by simp [h1])]
    have e1 := (cs_zero _ _).1 h1
    by_cases h2 : ci x.code y.code = 0
    · rw [if_neg (by simp [h2]), cs_neg]
      have e2 := (ci_zero _ _).1 h2
      rw [e1, bl_irr]; simp [e2]
    · rw [if_pos h2, ci_neg]
      have e2 : ¬ x.code = y.code := fun h => h2 ((ci_zero _ _).2 h)
      rw [e1, bl_irr]; simp [e2]
  · rw [if_pos h1, cs_neg]
    have e1 : ¬ x.fn = y.fn := fun h => h1 ((cs_zero _ _).2 h)
    simp [e1]
end Nm

set_option maxHeartbeats 1000000 in
theorem cmpS_any (w : World) (s t : ByteArray) : Calls Tryz.prog 109 #[.string s, .string t] w fun e w' => e = .returned (.int .i64 (Nm.cs s t)) ∧ w' = w := by
  have HE : Hid (Nm.cs s t = if Op.bytesLess s.toList t.toList = true then -1 else if (s.toList == t.toList) = true then 0 else 1) := rfl
  cases h1 : Op.bytesLess s.toList t.toList
  · rw [if_neg (by rw [h1]; simp)] at HE
    cases h2 : (s.toList == t.toList)
    · rw [if_neg (by rw [h2]; simp)] at HE
      go_enter Tryz.func109, Tryz.ntmps109
      go_wp2
      go_ret
      exact ⟨by rw [HE.out]; rfl, rfl⟩
    · rw [if_pos h2] at HE
      go_enter Tryz.func109, Tryz.ntmps109
      go_wp2
      go_ret
      exact ⟨by rw [HE.out]; rfl, rfl⟩
  · rw [if_pos h1] at HE
    go_enter Tryz.func109, Tryz.ntmps109
    go_wp2
    go_ret
    exact ⟨by rw [HE.out]; rfl, rfl⟩
set_option maxHeartbeats 1000000 in
theorem cmpI_any (w : World) (s t : Int) : Calls Tryz.prog 110 #[.int .i64 s, .int .i64 t] w fun e w' => e = .returned (.int .i64 (Nm.ci s t)) ∧ w' = w := by
  have HE : Hid (Nm.ci s t = if s < t then -1 else if s = t then 0 else 1) := rfl
  by_cases h1 : s < t
  · rw [if_pos h1] at HE
    go_enter Tryz.func110, Tryz.ntmps110
    go_wp2
    go_ret
    exact ⟨by rw [HE.out]; rfl, rfl⟩
  · rw [if_neg h1] at HE
    by_cases h2 : s = t
    · rw [if_pos h2] at HE
      subst h2
      go_enter Tryz.func110, Tryz.ntmps110
      go_wp2
      go_ret
      exact ⟨by rw [HE.out]; rfl, rfl⟩
    · rw [if_neg h2] at HE
      have h3 : t < s := by omega
      go_enter Tryz.func110, Tryz.ntmps110
      go_wp2
      go_ret
      exact ⟨by rw [HE.out]; rfl, rfl⟩
set_option maxHeartbeats 1000000 in
set_option maxRecDepth 100000 in
theorem or3_any (w : World) (B : Nat) (a b c : Int) (h0 : w.cell? ⟨B, 0, none⟩ = some (.int .i64 a)) (h1 : w.cell? ⟨B, 1, none⟩ = some (.int .i64 b)) (h2 : w.cell? ⟨B, 2, none⟩ = some (.int .i64 c)) :
    Calls Tryz.prog 108 #[.slice (some ⟨B, 0, none⟩) 3 3] w fun e w' => e = .returned (.int .i64 (Nm.or3 a b c)) ∧ w' = w := by
  have HE : Hid (Nm.or3 a b c = if a ≠ 0 then a else if b ≠ 0 then b else c) := rfl
  obtain ⟨R, hR⟩ : ∃ R, R = Nm.or3 a b c := ⟨_, rfl⟩
  rw [← hR] at HE ⊢
  have HC : Hid (∀ j : Nat, j < 3 → w.cell? ⟨B, j, none⟩ = some (.int .i64 ([a, b, c].getD j 0))) := hide (fun j hj => by
    match j, hj with
    | 0, _ => exact h0
    | 1, _ => exact h1
    | 2, _ => exact h2)
  clear h0 h1 h2 hR
  go_enter Tryz.func108, Tryz.ntmps108
  go_wp2_with fail
  go_loop [5, 8] (fun _ i => ∃ j : Nat, j ≤ 3 ∧ i = .int .i64 j ∧ ∀ k, k < j → [a, b, c].getD k 0 = 0) (fun _ i => 3 - (intOf i).toNat)
  case atStart => exact ⟨0, Nat.zero_le _, rfl, fun k hk => absurd hk (Nat.not_lt_zero _)⟩
  case round =>
    obtain ⟨j, hj, rfl, hall⟩ := hrel
    have HA := hide hall
    clear hall
    by_cases hjl : j < 3
    · have c0 := HC.out j hjl
      obtain ⟨z, hz⟩ : ∃ z, z = [a, b, c].getD j 0 := ⟨_, rfl⟩
      have HZ := hide hz
      rw [← hz] at c0
      clear hz
      by_cases hz0 : z = 0
      · have hz1 : (z == 0) = true := by simp [hz0]
        have HZ0 := hide hz0
        clear hz0
        go_wp2
        go_round
        case rel => exact ⟨j + 1, by omega, by go_num, fun k hk => by
            by_cases e : k = j
            · subst e; rw [← HZ.out]; exact HZ0.out
            · exact HA.out k (by omega)⟩
        case measure => simp [intOf]; omega
      · have hz1 : (z == 0) = false := by simp [hz0]
        have HZ0 := hide hz0
        clear hz0
        go_wp2
        go_ret
        refine ⟨?_, rfl⟩
        have hRz : R = z := by
          rw [HE.out]
          have h1 := HZ.out
          have h2 := HA.out
          have h3 := HZ0.out
          match j, hjl with
          | 0, _ => simp at h1; subst h1; rw [if_pos h3]
          | 1, _ => simp at h1; have h4 := h2 0 (by decide); simp at h4; subst h1; rw [if_neg (by simp [h4]), if_pos h3]
          | 2, _ => simp at h1; have h4 := h2 0 (by decide); have h5 := h2 1 (by decide); simp at h4 h5; subst h1; rw [if_neg (by simp [h4]), if_neg (by simp [h5])]
        rw [hRz]; rfl
    · have hj3 : j = 3 := by omega
      have HRZ : Hid (R = 0) := hide (by
        rw [HE.out]
        have h4 := HA.out 0 (by omega)
        have h5 := HA.out 1 (by omega)
        have h6 := HA.out 2 (by omega)
        simp at h4 h5 h6
        rw [if_neg (by simp [h4]), if_neg (by simp [h5])]; exact h6)
      clear hj3
      go_wp2
      go_ret
      exact ⟨by rw [HRZ.out]; rfl, rfl⟩

end Go.Proofs.YtbncnkfogkhoeaaGreatDoor

/- Walks over package names: compareDiags. -/
namespace Go.Proofs.YtbncnkfogkhoeaaGreatDoor
open Go.RowKit

/-- One world is another one after draws, with blocks behind it. -/
def GrB (w w' : World) : Prop := ∃ q os, w' = Sort.grow (w.drewN q) os
theorem GrB.refl (w : World) : GrB w w := ⟨0, #[], by simp [Sort.grow, World.drewN]⟩
theorem GrB.drew {w w' : World} (h : GrB w w') : GrB w w'.drew := by
  obtain ⟨q, os, rfl⟩ := h
  exact ⟨q + 1, os, rfl⟩
theorem GrB.alloc {w w' : World} (h : GrB w w') (o : Obj) : GrB w (w'.alloc o) := by
  obtain ⟨q, os, rfl⟩ := h
  refine ⟨q, os.push o, ?_⟩
  simp [Sort.grow, World.alloc, World.drewN]
theorem GrB.below {w w' : World} (h : GrB w w') : Below w.heap.size w w' := by
  obtain ⟨q, os, rfl⟩ := h
  exact ⟨rfl, rfl, rfl, by simp [Sort.grow, World.drewN], fun k hk => by simp [Sort.grow, World.drewN, Array.getElem?_append, hk]⟩
theorem GrB.trans {a b c : World} (h : GrB a b) (k : GrB b c) : GrB a c := by
  obtain ⟨q, os, rfl⟩ := h
  obtain ⟨q', os', rfl⟩ := k
  exact ⟨q + q', os ++ os', by simp [Sort.grow, World.drewN, Nat.add_assoc]⟩
theorem hidG_alloc {W0 x : World} {o : Obj} (h : Hid (GrB W0 x)) : Hid (GrB W0 (x.alloc o)) := hide (h.out.alloc o)
theorem hidG_drew {W0 x : World} (h : Hid (GrB W0 x)) : Hid (GrB W0 x.drew) := hide h.out.drew
theorem box3 (w : World) (c0 c1 c2 : Value) (t : TypeId) (i : Nat) (v : Value) (h : (#[c0, c1, c2] : Array Value)[i]? = some v) : (w.alloc (.cells #[c0, c1, c2] t)).cell? ⟨w.heap.size, i, none⟩ = some v :=
  (block_at (block_new w (.cells #[c0, c1, c2] t)) i).trans h

theorem box3d (w : World) (c0 c1 c2 : Value) (t : TypeId) (i : Nat) (v : Value) (h : (#[c0, c1, c2] : Array Value)[i]? = some v) : (w.alloc (.cells #[c0, c1, c2] t)).drew.cell? ⟨w.heap.size, i, none⟩ = some v := box3 w c0 c1 c2 t i v h

set_option maxHeartbeats 800000 in
set_option maxRecDepth 100000 in
theorem compareDiags_any (w : World) (x y : Dg) :
    Calls Tryz.prog 51 #[.agg #[.int .i64 x.code, .string x.fn, .string x.name], .agg #[.int .i64 y.code, .string y.fn, .string y.name]] w fun e w' => e = .returned (.int .i64 (Nm.cmpD x y)) ∧ GrB w w' := by
  have HC1 : Hid (∀ w s t, Calls Tryz.prog 109 #[.string s, .string t] w fun e w' => e = .returned (.int .i64 (Nm.cs s t)) ∧ w' = w) := hide cmpS_any
  have HC2 : Hid (∀ w s t, Calls Tryz.prog 110 #[.int .i64 s, .int .i64 t] w fun e w' => e = .returned (.int .i64 (Nm.ci s t)) ∧ w' = w) := hide cmpI_any
  have HC4 : Hid (∀ w (B : Nat), w.cell? ⟨B, 0, none⟩ = some (.int .i64 (Nm.cs x.fn y.fn)) → w.cell? ⟨B, 1, none⟩ = some (.int .i64 (Nm.ci x.code y.code)) → w.cell? ⟨B, 2, none⟩ = some (.int .i64 (Nm.cs x.name y.name)) → Calls Tryz.prog 108 #[.slice (some ⟨B, 0, none⟩) 3 3] w fun e w' => e = .returned (.int .i64 (Nm.cmpD x y)) ∧ w' = w) :=
    hide (fun w B h0 h1 h2 => or3_any w B _ _ _ h0 h1 h2)
  obtain ⟨R, hR⟩ : ∃ R, R = Nm.cmpD x y := ⟨_, rfl⟩
  rw [← hR] at HC4 ⊢
  clear hR
  obtain ⟨cx, fx, nx⟩ := x
  obtain ⟨cy, fy, ny⟩ := y
  simp only at HC4 ⊢
  obtain ⟨b0, b1, hb0⟩ := al2 w (.cells #[.int .i64 cx, .string fx, .string nx] 43) (.cells #[.int .i64 cy, .string fy, .string ny] 43)
  have HG0 : Hid (GrB w ((w.alloc (.cells #[.int .i64 cx, .string fx, .string nx] 43)).alloc (.cells #[.int .i64 cy, .string fy, .string ny] 43))) := hide (((GrB.refl w).alloc _).alloc _)
  have HF : Hid (∀ wx, Hid (GrB ((w.alloc (.cells #[.int .i64 cx, .string fx, .string nx] 43)).alloc (.cells #[.int .i64 cy, .string fy, .string ny] 43)) wx) →
      Hid (GrB ((w.alloc (.cells #[.int .i64 cx, .string fx, .string nx] 43)).alloc (.cells #[.int .i64 cy, .string fy, .string ny] 43)) wx) ∧ wx.cell? ⟨w.heap.size, 0, none⟩ = some (.int .i64 cx) ∧ wx.cell? ⟨w.heap.size, 1, none⟩ = some (.string fx) ∧ wx.cell? ⟨w.heap.size, 2, none⟩ = some (.string nx) ∧
        wx.cell? ⟨w.heap.size + 1, 0, none⟩ = some (.int .i64 cy) ∧ wx.cell? ⟨w.heap.size + 1, 1, none⟩ = some (.string fy) ∧ wx.cell? ⟨w.heap.size + 1, 2, none⟩ = some (.string ny)) := hide (fun wx h =>
    ⟨h, cellUp ((block_at b0 0).trans rfl) h.out.below, cellUp ((block_at b0 1).trans rfl) h.out.below, cellUp ((block_at b0 2).trans rfl) h.out.below, cellUp ((block_at b1 0).trans rfl) h.out.below, cellUp ((block_at b1 1).trans rfl) h.out.below, cellUp ((block_at b1 2).trans rfl) h.out.below⟩)
  clear b0 b1 hb0
  go_enter Tryz.func51, Tryz.ntmps51
  go_wp2_with fail
  generalize ((w.alloc (.cells #[.int .i64 cx, .string fx, .string nx] 43)).alloc (.cells #[.int .i64 cy, .string fy, .string ny] 43)) = W0 at *
  have H00 : Hid (GrB W0 W0) := hide (GrB.refl _)
  go_region_held3 (fun wx => Hid (GrB W0 wx) ∧ wx.cell? ⟨w.heap.size, 0, none⟩ = some (.int .i64 cx) ∧ wx.cell? ⟨w.heap.size, 1, none⟩ = some (.string fx) ∧ wx.cell? ⟨w.heap.size, 2, none⟩ = some (.string nx) ∧
        wx.cell? ⟨w.heap.size + 1, 0, none⟩ = some (.int .i64 cy) ∧ wx.cell? ⟨w.heap.size + 1, 1, none⟩ = some (.string fy) ∧ wx.cell? ⟨w.heap.size + 1, 2, none⟩ = some (.string ny))
    ((refine HF.out _ ?_; repeat (first | exact HW4 | exact H00 | apply hidG_drew | apply hidG_alloc)))
    (first
      | (go_at_call 108; refine (HC4.out _ _ (box3d _ _ _ _ _ 0 _ rfl) (box3d _ _ _ _ _ 1 _ rfl) (box3d _ _ _ _ _ 2 _ rfl)).mono ?_; rintro e w4 ⟨rfl, hw4⟩; have HW4 : Hid (GrB W0 w4) := (by subst hw4; repeat (first | exact H00 | apply hidG_drew | apply hidG_alloc)); clear hw4)
      | (go_at_call 110; refine (HC2.out _ _ _).mono ?_; rintro e w2 ⟨rfl, rfl⟩)
      | (go_at_call 109; refine (HC1.out _ _ _).mono ?_; rintro e w2 ⟨rfl, rfl⟩))
  all_goals
    go_wp2_with fail
    go_ret
    exact ⟨rfl, HG0.out.trans HW4.out⟩

end Go.Proofs.YtbncnkfogkhoeaaGreatDoor
