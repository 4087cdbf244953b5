/- Walks over the library: slices.Grow of nil and slices.Concat, of diagnostics. -/
import Derived.Test.YtnheahdcfadclaaGreatDoorZAL
import Derived.Deep.OwnRows
import Derived.Laws.OwnMore
import Derived.OwnWalk
import Derived.Lib.AppendZerosOnto
import Derived.Lib.SliceRun
import Derived.Test.YtnheahdcfadclaaGreatDoorZAB
import Derived.Test.YtnheahdcfadclaaGreatDoorZAD
namespace Go.Proofs.YtnheahdcfadclaaGreatDoor
open Go.RowKit

/-- As OwnK, but an empty row may have room. -/
def OwnR {α : Type} (At : List Value → α → Prop) (w : World) (n e k : Nat) (v : Value) (l : List α) : Prop :=
  ∃ cs : List (List Value), w.ownsRow n e k v l.length cs.flatten ∧ cs.length = l.length ∧ (∀ c ∈ cs, c.length = k ∧ ∀ u ∈ c, u.oneCell' = true) ∧ (∀ (i : Nat) c y, cs[i]? = some c → l[i]? = some y → At c y)
section
variable {α : Type} {At : List Value → α → Prop} {w w' : World} {n e k : Nat} {v : Value} {l : List α}
theorem OwnK.toR (h : OwnK At w n e k v l) : OwnR At w n e k v l := by
  obtain ⟨cs, h1, h2, h3, h4, _⟩ := h
  exact ⟨cs, h1, h2, h3, h4⟩
theorem OwnR.toK (h : OwnR At w n e k v l) (hz : l = [] → v = .slice none 0 0) : OwnK At w n e k v l := by
  obtain ⟨cs, h1, h2, h3, h4⟩ := h
  exact ⟨cs, h1, h2, h3, h4, hz⟩
theorem OwnR.lt (h : OwnR At w n e k v l) : ∀ j, v.ownBlock = some j → n ≤ j ∧ j < w.heap.size := by
  obtain ⟨cs, h1, _⟩ := h
  exact h1.lt
theorem OwnR.below (h : OwnR At w n e k v l) (hb : Below w.heap.size w w') : OwnR At w' n e k v l := by
  obtain ⟨cs, h1, h2⟩ := h
  exact ⟨cs, own_below h1 hb, h2⟩
end
section
variable {α : Type} {At : List Value → α → Prop} {w : World} {ops : Array Oper} {rest : List Oper} {o : Oper} {a : Act} {Q : Exit → Act → World → Prop}
theorem wpList_append_R (hgd : o.guard = none) (s x : Operand) (t e k bytes : Nat) (z : Value)
    (ho : o.op = .call { callee := .builtin .append, args := #[s, x], argTypes := #[t, t] }) (ht : Tryz.prog.underlying t = some (.slice e)) (hinfo : (Tryz.prog.info? e).map (fun i => (i.zero, i.size, i.bytes)) = some (some z, k, bytes)) (hzs : z.cells.size = k) (hk : 0 < k) (hby : bytes ≤ 1024)
    (n : Nat) (v : Value) (l : List α) (hs : a.eval s = v) (hown : OwnR At w n e k v l) (n2 : Nat) (v2 : Value) (l2 : List α) (hx : a.eval x = v2) (hown2 : OwnK At w n2 e k v2 l2) (hl : l.length + l2.length ≤ 16777216) (hbase : n ≤ w.heap.size)
    (h : ∀ v' w', OwnR At w' n e k v' (l ++ l2) → (l2 = [] → v' = v) → w.grownBy w' v.ownBlock → wpList Tryz.prog ops Q rest (a.put o.dst v') w') : wpList Tryz.prog ops Q (o :: rest) a w := by
  obtain ⟨iS, hiS, hz0, hz1, hz2⟩ := info_parts hinfo
  have HO := hown
  obtain ⟨cs, hr, k1, k2, k3⟩ := hown
  rcases hown2.shape with ⟨rfl, rfl⟩ | ⟨g2, cap2, rfl, _, _, _, hne⟩
  · refine wpList_append_own_none hgd s x t ho n e iS k ht hiS v l.length cs.flatten hs hr hx ?_
    exact h v w (by simpa using HO) (fun _ => rfl) ⟨rfl, rfl, rfl, Nat.le_refl _, fun _ _ _ => rfl⟩
  · obtain ⟨cs2, hr2, b1, b2, b3, _⟩ := hown2
    have hpos : 0 < l2.length := List.length_pos_iff.2 hne
    refine wpList_append_lies w hgd s x t ho n e iS z k bytes ht hiS hz0 hz1 hz2 hzs hk v l.length cs.flatten hs hr ⟨g2, 0, none⟩ l2.length cap2 cs2.flatten hx (by rw [flat_len cs2 (fun c hc => (b2 c hc).1), b1]) (fun j u hu => ?_) (fun u hu => ?_) hpos (by unfold maxLen; omega)
      (Nat.le_trans (Nat.mul_le_mul hl hby) (by decide)) hbase w.heap.size rfl ?_
    · rw [Addr.add_lit, Nat.zero_add, World.ownsRow.cellAt hr2 j (by have := (List.getElem?_eq_some_iff.1 hu).1; rw [flat_len cs2 (fun c hc => (b2 c hc).1), b1] at this; exact this)]
      exact hu
    · obtain ⟨c, hc, hu'⟩ := List.mem_flatten.1 hu
      exact (b2 c hc).2 u hu'
    · intro g cap w' h1' h2 _ _
      exact h _ w' (OwnK.cat ⟨k1, k2, k3⟩ ⟨b1, b2, b3⟩ hne h1').toR (fun e => absurd e hne) h2
end

set_option maxHeartbeats 2000000 in
set_option maxRecDepth 100000 in
theorem growD_any (w : World) (n : Nat) (hn : n ≤ 16777216) :
    Calls Tryz.prog 121 #[.slice none 0 0, .int .i64 n] w fun e w' => ∃ v, e = .returned v ∧ OwnR DgC w' w.heap.size 43 3 v [] ∧ (n = 0 → v = .slice none 0 0) ∧ Below w.heap.size w w' := by
  obtain ⟨iS, hiS, hz0, hz1, hz2⟩ := info_parts infoDg
  by_cases h0 : n = 0
  · subst h0
    go_enter Tryz.func121, Tryz.ntmps121
    go_wp2
    go_ret
    exact ⟨_, rfl, (OwnK.nil _ _ _ _).toR, fun _ => rfl, Below.refl _ _⟩
  · obtain ⟨Z, hZ⟩ : ∃ Z : Value, Z = .agg #[.int .i64 0, .string ⟨#[]⟩, .string ⟨#[]⟩] := ⟨_, rfl⟩
    rw [← hZ] at hz0
    have hrz : ∀ ty, (Builtin.append_ #[37, 3] ty #[.slice none 0 0, .int .i64 n]).run Tryz.prog w =
        .ok (.slice (some ⟨w.heap.size, 0, none⟩) n (grownCap w n 0 43)) (w.drew.alloc (.cells (Builtin.zeroCells Z.cells n ++ Builtin.zeroCells Z.cells (grownCap w n 0 43 - n)) 43)) := fun ty => by
      have h := Lib.run_append_grow_zeros w 37 3 ty 43 iS Z .i64 .i64 Tryz.underlying37 Tryz.underlying3 hiS hz0 none 0 0 [] (run_firstCells_none w.drew _ 0 0 0) n (by omega) (by omega) (by omega) (by omega) (by rw [hz2]; omega)
        (by rw [Nat.zero_add]; exact growslice_fits (by omega) (by rw [hz2]; omega))
      simpa using h
    have hGn : n ≤ grownCap w n 0 43 := grownCap_ge w _ _ _
    have hGm : grownCap w n 0 43 ≤ maxLen := grownCap_le_maxLen w n 0 43 (by unfold maxLen; omega)
    obtain ⟨G, hG⟩ : ∃ G, G = grownCap w n 0 43 := ⟨_, rfl⟩
    rw [← hG] at hrz hGn hGm
    have hG63 : G ≤ 9223372036854775807 := by unfold maxLen at hGm; omega
    have hown : (w.drew.alloc (.cells (Builtin.zeroCells Z.cells n ++ Builtin.zeroCells Z.cells (G - n)) 43)).ownsRow w.heap.size 43 3 (.slice (some ⟨w.heap.size, 0, none⟩) 0 G) 0 [] :=
      ⟨by simp, .inr ⟨w.heap.size, G, _, rfl, Nat.le_refl _, heap_alloc_new w.drew _, Nat.zero_le _, hGm, by
        have e : ∀ k, (Builtin.zeroCells Z.cells k).size = k * 3 := fun k => by rw [hZ]; simp [Builtin.zeroCells, Value.cells]
        rw [Array.size_append, e, e]; omega, by simp⟩⟩
    have HO := hide hown
    have HBW : Hid (Below w.heap.size w (w.drew.alloc (.cells (Builtin.zeroCells Z.cells n ++ Builtin.zeroCells Z.cells (G - n)) 43))) := hide (((Below.refl _ _).drew).alloc (by simp) _)
    clear hown hG
    generalize (w.drew.alloc (.cells (Builtin.zeroCells Z.cells n ++ Builtin.zeroCells Z.cells (G - n)) 43)) = W1 at *
    go_enter Tryz.func121, Tryz.ntmps121
    go_wp2_with (at_builtin; refine Lib.wpList_append_run _ rfl _ _ _ _ rfl _ _ rfl rfl _ _ (hrz _) ?_)
    go_ret
    exact ⟨_, rfl, ⟨[], HO.out, rfl, (fun c hc => absurd hc (by simp)), (fun i c y hc => absurd hc (by simp))⟩, fun h => absurd h h0, HBW.out⟩

/-- The slice v is a list of rows of diagnostics of the call's own. -/
def DgsS (w : World) (n : Nat) (v : Value) (ls : List (List Dg)) : Prop :=
  ∃ b off cap, v = .slice (some ⟨b, off, none⟩) ls.length cap ∧ ls.length ≤ 16 ∧ ∀ i l, ls[i]? = some l → ∃ vi, w.cell? ⟨b, off + i, none⟩ = some vi ∧ OwnK DgC w n 43 3 vi l
theorem flatD_take {ls : List (List Dg)} {j : Nat} {l : List Dg} (h : ls[j]? = some l) : (ls.take (j + 1)).flatten = (ls.take j).flatten ++ l := by
  obtain ⟨hj, rfl⟩ := List.getElem?_eq_some_iff.1 h
  rw [List.take_succ_eq_append_getElem hj, List.flatten_append]; simp
theorem flatD_le (ls : List (List Dg)) (j : Nat) : (ls.take j).flatten.length ≤ ls.flatten.length := by
  conv => rhs; rw [← List.take_append_drop j ls]
  rw [List.flatten_append, List.length_append]; omega

set_option maxHeartbeats 2000000 in
set_option maxRecDepth 100000 in
theorem concatD_any (w : World) (n0 : Nat) (v : Value) (ls : List (List Dg)) (h : DgsS w n0 v ls) (hn : ls.flatten.length ≤ 16777216) :
    Calls Tryz.prog 51 #[v] w fun e w' => ∃ v', e = .returned v' ∧ OwnK DgC w' w.heap.size 43 3 v' ls.flatten ∧ Below w.heap.size w w' := by
  obtain ⟨b, off, cap, rfl, hl16, hel⟩ := h
  have HEL := hide hel
  clear hel
  obtain ⟨len, hlen⟩ : ∃ len, len = ls.length := ⟨_, rfl⟩
  have HL := hide hlen
  rw [← hlen] at hl16 ⊢
  clear hlen
  go_enter Tryz.func51, Tryz.ntmps51
  go_wp2
  go_loop [3, 11] (fun o i => ∃ k : Nat, k ≤ len ∧ i = .int .i64 k ∧ o = .int .i64 (ls.take k).flatten.length) (fun _ i => len - (intOf i).toNat)
  case atStart => exact ⟨0, Nat.zero_le _, rfl, rfl⟩
  case round =>
    obtain ⟨k, hk, rfl, rfl⟩ := hrel
    have hacc := Nat.le_trans (flatD_le ls k) hn
    by_cases hlt : k < len
    · obtain ⟨l, hy⟩ : ∃ l, ls[k]? = some l := ⟨_, List.getElem?_eq_getElem (by rw [← HL.out]; exact hlt)⟩
      obtain ⟨vi, g0, hst⟩ := HEL.out k l hy
      obtain ⟨a, cp, rfl⟩ := hst.form
      have HST : Hid ((ls.take (k + 1)).flatten.length = (ls.take k).flatten.length + l.length) := hide (by rw [flatD_take hy, List.length_append])
      have hacc2 := Nat.le_trans (flatD_le ls (k + 1)) hn
      rw [HST.out] at hacc2
      generalize (ls.take k).flatten.length = n0 at *
      generalize l.length = n1 at *
      clear hy hst
      go_wp2
      go_round
      case rel => exact ⟨k + 1, by omega, by go_num, by rw [HST.out]; go_num⟩
      case measure => simp [intOf]; omega
    · have e : ls.take k = ls := List.take_of_length_le (by have := HL.out; omega)
      rw [e] at hacc ⊢
      clear e
      obtain ⟨N, hN⟩ : ∃ N, N = ls.flatten.length := ⟨_, rfl⟩
      have HN := hide hN
      rw [← hN] at hacc ⊢
      clear hN
      go_wp2_with fail
      refine (growD_any w N hacc).mono ?_
      rintro e w1 ⟨v1, rfl, ho1, hz1, hb1⟩
      have HO := hide ho1
      have HB := hide hb1
      have HZ : Hid (ls.flatten = [] → v1 = .slice none 0 0) := hide (fun h => hz1 (by rw [HN.out, h]; rfl))
      clear ho1 hb1 hk hlt hz1
      go_wp2
      go_loopw [6, 27] (fun o i wr => ∃ k : Nat, k ≤ len ∧ i = .int .i64 k ∧ OwnR DgC wr w.heap.size 43 3 o (ls.take k).flatten ∧ (ls.flatten = [] → o = .slice none 0 0) ∧ Below w.heap.size w wr) (fun _ i _ => len - (intOf i).toNat)
      case atStart => exact ⟨0, Nat.zero_le _, rfl, HO.out, HZ.out, HB.out⟩
      case round =>
        obtain ⟨k, hk, rfl, hown, hzz, hnx⟩ := hrel
        by_cases hlt : k < len
        · obtain ⟨l, hy⟩ : ∃ l, ls[k]? = some l := ⟨_, List.getElem?_eq_getElem (by rw [← HL.out]; exact hlt)⟩
          obtain ⟨vi, g0, hst⟩ := HEL.out k l hy
          have u0 := cellUp g0 hnx
          have HSS := hide (hst.below hnx)
          obtain ⟨a, cp, rfl⟩ := hst.form
          have HST := hide (flatD_take hy)
          have hacc2 := Nat.le_trans (flatD_le ls (k + 1)) hn
          rw [HST.out, List.length_append] at hacc2
          have hbs := hnx.size
          have HOW := hide hown
          have HNX := hide hnx
          have HZZ := hide hzz
          have HEM : Hid (ls.flatten = [] → l = []) := hide (fun h => by
            have h1 := flatD_le ls (k + 1)
            rw [HST.out, List.length_append, h] at h1
            exact List.length_eq_zero_iff.1 (by simp at h1; simpa using h1.2))
          obtain ⟨n1, hn1⟩ : ∃ n, n = l.length := ⟨_, rfl⟩
          rw [← hn1] at u0 HSS
          clear hn1
          clear hy hst g0 hown hnx hzz
          go_wp2_with (first
            | (at_builtin; refine wpList_append_R (At := DgC) rfl _ _ 37 43 3 40 _ rfl Tryz.underlying37 infoDg (by decide) (by decide) (by decide) w.heap.size _ _ rfl HOW.out _ _ l rfl HSS.out (by omega) hbs ?_; intro v' w2 hown2 hz2 hgrow2)
            | fail)
          have R2 := hide (HNX.out.grown hgrow2 hbs (fun j hj => (HOW.out.lt j hj).1))
          have HO2 := hide hown2
          have HZ2 := hide hz2
          clear hgrow2 hown2 hz2
          go_roundw
          case rel => exact ⟨k + 1, by omega, by go_num, by rw [HST.out]; exact HO2.out, fun h => by rw [HZ2.out (HEM.out h)]; exact HZZ.out h, R2.out⟩
          case measure => simp [intOf]; omega
        · have e : ls.take k = ls := List.take_of_length_le (by have := HL.out; omega)
          rw [e] at hown
          have HO2 := hide (hown.toK hzz)
          clear hown hzz
          go_wp2
          go_ret
          exact ⟨_, rfl, HO2.out, hnx⟩

end Go.Proofs.YtnheahdcfadclaaGreatDoor

/- Walks over package names: twiceAmong, twiceDiags. -/
namespace Go.Proofs.YtnheahdcfadclaaGreatDoor
open Go.RowKit

theorem Strs.takeS {w : World} {a : Option Addr} {n cap i : Nat} {ss : List ByteArray} (h : Strs w (.slice a n cap) ss) (hi : i ≤ ss.length) : Strs w (.slice a i cap) (ss.take i) := by
  obtain ⟨a', b, off, c, e, h0, h1, h2, h3⟩ := h
  injection e with e1 e2 e3
  subst e1 e2 e3
  have hl : (ss.take i).length = i := by rw [List.length_take]; omega
  refine ⟨a, b, off, cap, by rw [hl], fun h => h0 (by omega), by omega, fun s hs => h2 s (List.mem_of_mem_take hs), fun j hj => ?_⟩
  rw [h3 j (by omega)]
  rw [hl] at hj
  simp [List.getD_eq_getElem?_getD, hj]
namespace Nm
def inB (l : List ByteArray) (s : ByteArray) : Bool := decide (0 ≤ Lat.indexI l s)
/-- What twiceAmong answers. -/
def twA (fn : ByteArray) (l : List ByteArray) : List Dg := upto (atD l fun i s => if inB (l.take i) s = true then [⟨2, fn, s⟩] else []) l.length
/-- What twiceDiags answers. -/
def twD (x : Mo) : List Dg := [twA ⟨#[]⟩ x.imports, twA ⟨#[]⟩ (x.vars.map (·.name)), twA ⟨#[]⟩ (x.funs.map (·.name))].flatten ++ x.funs.flatMap fun f => twA f.name f.params
end Nm

set_option maxHeartbeats 2000000 in
set_option maxRecDepth 100000 in
theorem twiceAmong_any (w : World) (v : Value) (l : List ByteArray) (fn : ByteArray) (h : StrsC w v l) (hlen : (Nm.twA fn l).length ≤ 16777216) :
    Calls Tryz.prog 122 #[.string fn, v] w fun e w' => ∃ u, e = .returned u ∧ OwnK DgC w' w.heap.size 43 3 u (Nm.twA fn l) ∧ Below w.heap.size w w' := by
  obtain ⟨hS, a, cap, rfl, hcap⟩ := h
  have HS := hide hS
  obtain ⟨a', b, off, c', he, ha, hl, hcs, hci⟩ := hS
  injection he with he1 he2 he3
  subst he1 he3
  have HCI := hide hci
  have HA := hide ha
  obtain ⟨G, hG⟩ : ∃ G, G = Nm.atD l fun i s => if Nm.inB (l.take i) s = true then [⟨2, fn, s⟩] else [] := ⟨_, rfl⟩
  have HG := hide hG
  have HLD : Hid (Nm.twA fn l = Nm.upto G l.length) := hide (by rw [hG]; rfl)
  have HLE := hide hlen
  rw [HLD.out] at HLE ⊢
  obtain ⟨ni, hni⟩ : ∃ n, n = l.length := ⟨_, rfl⟩
  have HNI := hide hni
  rw [← hni] at hl HA HLE hcap HS ⊢
  clear hci ha hcs hlen hG hni he2
  go_enter Tryz.func122, Tryz.ntmps122
  go_wp2_with fail
  go_loopw [5, 10] (fun v i wr => ∃ j : Nat, j ≤ ni ∧ i = .int .i64 j ∧ OwnK DgC wr w.heap.size 43 3 v (Nm.upto G j) ∧ Below w.heap.size w wr) (fun _ i _ => ni - (intOf i).toNat)
  case atStart => exact ⟨0, Nat.zero_le _, rfl, OwnK.nil _ _ _ _, Below.refl _ _⟩
  case round =>
    obtain ⟨t, ht, rfl, hown, hnx⟩ := hrel
    have HOW := hide hown
    have HNX := hide hnx
    by_cases htl' : t < ni
    · obtain ⟨s, hs⟩ : ∃ y, l[t]? = some y := ⟨_, List.getElem?_eq_getElem (by rw [← HNI.out]; exact htl')⟩
      have c0 := cellUp (HCI.out t (by rw [← HNI.out]; exact htl')) hnx
      rw [List.getD_eq_getElem?_getD, hs, Option.getD_some] at c0
      obtain rfl := HA.out (by omega)
      have HY : Hid (G t = if Nm.inB (l.take t) s = true then [⟨2, fn, s⟩] else []) := hide (by rw [HG.out]; exact Nm.atD_some hs)
      have HCO := hide (containsS_any wr _ (l.take t) s ((HS.out.takeS (by rw [← HNI.out]; exact ht)).below hnx))
      rw [show decide (0 ≤ Lat.indexI (l.take t) s) = Nm.inB (l.take t) s from rfl] at HCO
      obtain ⟨a3, c3, rfl⟩ := hown.form
      have hul : (Nm.upto G t).length < 16777216 ∨ G t = [] := by
        have h1 := Nm.upto_le G (show t + 1 ≤ ni by omega)
        rw [Nm.upto_succ, List.length_append] at h1
        have h2 := HLE.out
        by_cases hg : G t = []
        · exact Or.inr hg
        · have := List.length_pos_iff.2 hg
          exact Or.inl (by omega)
      have HUL := hide hul
      obtain ⟨ul, hut⟩ : ∃ n, n = (Nm.upto G t).length := ⟨_, rfl⟩
      have HUT := hide hut
      rw [← hut] at HOW ⊢
      clear hs hown hnx hut hul
      go_wp2_with fail
      refine HCO.out.mono ?_
      rintro e w2 ⟨rfl, hw2⟩
      subst hw2
      generalize Nm.inB (l.take t) s = ib at *
      cases ib
      · rw [if_neg (by simp)] at HY
        go_wp2_with fail
        go_roundw
        case rel => exact ⟨t + 1, by omega, by go_num, by rw [Nm.upto_succ, HY.out, List.append_nil]; exact HOW.out, HNX.out⟩
        case measure => simp [intOf]; omega
      · rw [if_pos rfl] at HY
        have hul : ul < 16777216 := by
          rcases HUL.out with h | h
          · rw [HUT.out]; exact h
          · rw [HY.out] at h; cases h
        go_wp2_with (first
          | (at_builtin; refine wpList_append_K (At := DgC) rfl _ _ 37 43 3 40 _ rfl Tryz.underlying37 infoDg (by decide) (by decide) (by decide) w.heap.size _ _ rfl (HOW.out.below (boxBelow _ _)) _ _ [⟨2, fn, s⟩] rfl (OwnK.one _ _ rfl (DgC.one (d := ⟨2, fn, s⟩) rfl) rfl) (by have := HUT.out; simp only [List.length_singleton]; omega) (Nat.le_trans HNX.out.size (boxBelow _ _).size) ?_; intro v6 w6 hown6 hgrow6; have HOW6 := hide hown6; have HN6 := hide (grown_below (up HNX.out (boxBelow _ _)) hgrow6 (fun j hj => (HOW.out.lt j hj).1)); clear hown6 hgrow6)
          | fail)
        go_roundw
        case rel => exact ⟨t + 1, by omega, by go_num, by rw [Nm.upto_succ, HY.out]; exact HOW6.out, HN6.out⟩
        case measure => simp [intOf]; omega
    · have hje : t = ni := by omega
      obtain ⟨a9, c9, rfl⟩ := hown.form
      rw [hje] at HOW ⊢
      generalize (Nm.upto G ni).length = nu at *
      clear hown hje hnx
      go_wp2_with fail
      go_ret
      exact ⟨_, rfl, HOW.out, HNX.out⟩

theorem boxD (w : World) (cs : Array Value) (t : TypeId) (i : Nat) (v : Value) (h : cs[i]? = some v) : (w.alloc (.cells cs t)).cell? ⟨w.heap.size, i, none⟩ = some v := (block_at (block_new w (.cells cs t)) i).trans h
/-- A slice's length is within its capacity. -/
def CapOK (v : Value) : Prop := ∀ a n c, v = .slice a n c → n ≤ c
/-- The capacities of a module's lists that are sliced. -/
structure MoCap (w : World) (vi vf : Value) : Prop where
  imp : CapOK vi
  fus : CapOK vf
  par : ∀ b off n c, vf = .slice (some ⟨b, off, none⟩) n c → ∀ i, i < n → ∃ vp, w.cell? ⟨b, off + i * 7 + 1, none⟩ = some vp ∧ CapOK vp
theorem MoCap.below {w w' : World} {vi vf : Value} (h : MoCap w vi vf) (hb : Below w.heap.size w w') : MoCap w' vi vf :=
  ⟨h.imp, h.fus, fun b off n c e i hi => by
    obtain ⟨vp, h1, h2⟩ := h.par b off n c e i hi
    exact ⟨vp, cellUp h1 hb, h2⟩⟩

end Go.Proofs.YtnheahdcfadclaaGreatDoor

/- How lists of modules that came in are opened; and that of each list that came in the length is within the capacity. -/
namespace Go.Proofs.YtnheahdcfadclaaGreatDoor
open Go.ChangeShapes Go.WideShapes Go.ChangeAt Go.RowKit Go.Deep Go.Joins

theorem cellsMos : Tryz.prog.cellsOf 35 = 1 := by kernel_rfl

theorem FusAt.monoN {w : World} {m k : Nat} {v : Value} {l : List Fu} (h : FusAt w m v l) (hk : m ≤ k) : FusAt w k v l := by
  obtain ⟨a, b, off, cap, e, h0, hl, h1⟩ := h
  refine ⟨a, b, off, cap, e, h0, hl, fun i s hs => ?_⟩
  obtain ⟨k1, vp, vb, e0, e1, e2, e3, g0, g1, g2, g3, g4, g5, g6, hp, hs', hx⟩ := h1 i s hs
  exact ⟨k1, vp, vb, e0, e1, e2, e3, g0, g1, g2, g3, g4, g5, g6, hp, hs'.mono k hk, hx.mono k hk⟩
theorem MoAt.monoN {w : World} {m k : Nat} {v : Value} {x : Mo} (h : MoAt w m v x) (hk : m ≤ k) : MoAt w k v x := by
  obtain ⟨vi, vv, vf, e, h0, h1, h2, h3⟩ := h
  exact ⟨vi, vv, vf, e, h0, h1, h2, h3.monoN hk⟩
theorem MosAt.monoN {w : World} {m k : Nat} {v : Value} {l : List Mo} (h : MosAt w m v l) (hk : m ≤ k) : MosAt w k v l := by
  obtain ⟨a, b, off, cap, e, h0, hl, h1⟩ := h
  refine ⟨a, b, off, cap, e, h0, hl, fun i x hx => ?_⟩
  obtain ⟨vi, vv, vf, g0, g1, g2, g3, hm⟩ := h1 i x hx
  exact ⟨vi, vv, vf, g0, g1, g2, g3, hm.monoN hk⟩
theorem fusW_monoN {w : World} {m k : Nat} {v : Value} {l : List Fu} (h : FusAt w m v l) (hk : m ≤ k) : fusW k l = fusW m l := by
  obtain ⟨a, b, off, cap, e, h0, hl, h1⟩ := h
  unfold fusW
  rw [map_congr_get (fun i s hs => by
    obtain ⟨_, vp, vb, e0, e1, e2, e3, _, _, _, _, _, _, _, _, hs', hx⟩ := h1 i s hs
    rw [exW_mono hx k hk, stsW_mono hs' k hk])]
theorem moW_monoN {w : World} {m k : Nat} {v : Value} {x : Mo} (h : MoAt w m v x) (hk : m ≤ k) : moW k x = moW m x := by
  obtain ⟨vi, vv, vf, e, h0, h1, h2, h3⟩ := h
  unfold moW
  rw [fusW_monoN h3 hk]
theorem mosW_monoN {w : World} {m k : Nat} {v : Value} {l : List Mo} (h : MosAt w m v l) (hk : m ≤ k) : ∀ y ∈ l, moW k y = moW m y := fun y hy => by
  obtain ⟨a, b, off, cap, e, h0, hl, h1⟩ := h
  obtain ⟨i, hi, rfl⟩ := List.mem_iff_getElem.1 hy
  obtain ⟨vi, vv, vf, g0, g1, g2, g3, hm⟩ := h1 i _ (List.getElem?_eq_getElem hi)
  exact moW_monoN hm hk

section
variable {H : Type} {enc : TypeId × Value → H} {W : World}

theorem bulk_one {d : DataW H} : ∀ {D : List (DataW H)} {i : Nat}, D[i]? = some d → Rows.uptoBulk d ≤ Rows.uptoBulkAll D
  | [], i, h => by simp at h
  | e :: D, 0, h => by
    simp at h
    subst h
    simp only [Rows.uptoBulkAll]
    omega
  | e :: D, i + 1, h => by
    have := bulk_one (D := D) (i := i) (by simpa using h)
    simp only [Rows.uptoBulkAll]
    omega

theorem open_cap {t e fuel : Nat} {v : Value} {y : DataW H × List MemPlace} (ht : Tryz.prog.underlying t = some (.slice e)) (h : DataW.trod enc Tryz.prog W 0 (fun _ => true) true fuel t [v] = some y) : CapOK v := by
  rcases DataW.trod_slice ht h with ⟨hcs, rfl⟩ | ⟨a, len, cap, elems, rest, n, hfuel, hcs, rfl, _, hl, hm, hlen, hel, _, _⟩
  · simp at hcs
    subst hcs
    intro a n c e
    injection e with _ e1 e2
    omega
  · simp at hcs
    subst hcs
    intro a n c e
    injection e with _ e1 e2
    omega

/-- The Params of functions that came in. -/
theorem open_parcap {fuel : Nat} {v : Value} {y : DataW H × List MemPlace} (h : DataW.trod enc Tryz.prog W 0 (fun _ => true) true fuel 24 [v] = some y) :
    ∀ b off n c, v = .slice (some ⟨b, off, none⟩) n c → ∀ i, i < n → ∃ vp, W.cell? ⟨b, off + i * 7 + 1, none⟩ = some vp ∧ CapOK vp := by
  obtain ⟨a, b, off, len, cap, D, hv, ha, hl, hD, hbulk, hel⟩ := open_elems Tryz.underlying24 cellsFu (by decide) h
  intro b' off' n' c' e i hi
  rw [hv] at e
  injection e with e0 e1 e2
  subst e1
  have h1 := ha (by omega)
  rw [e0] at h1
  injection h1 with h1
  injection h1 with h1 h2
  subst h1 h2
  obtain ⟨n0, cs, d', pl', hn', hlen', hcell, htrod, hDi⟩ := hel i hi
  obtain ⟨xs, n, hfn, hx, hlen, hxs, hf⟩ := DataW.trod_struct Tryz.underlying102 htrod
  obtain ⟨c0, c1, c2, c3, c4, c5, c6, rfl⟩ := list7 hlen'
  obtain ⟨y0, y1, y2, y3, rfl⟩ := list4 (by simpa using hxs)
  have f1 : DataW.trod enc Tryz.prog W 0 (fun _ => true) true n 22 (([c0, c1, c2, c3, c4, c5, c6].drop 1).take (Tryz.prog.cellsOf 22)) = some y1 := hf 1 _ rfl
  rw [cellsStrs] at f1
  simp only [List.drop, List.take] at f1
  exact ⟨c1, hcell 1 (by decide), open_cap Tryz.underlying22 f1⟩

set_option maxRecDepth 100000 in
theorem open_mocap {b0 : Nat} {v : Value} {d : DataW H} {p : List MemPlace} (hv : Value.okWide Tryz.prog W .any b0 26 v) (h : DataW.Trod enc Tryz.prog W 0 (fun _ => true) true 26 v d p) :
    ∃ m x vi vv vf, v = .agg #[.string x.name, vi, vv, vf] ∧ MoAt W m v x ∧ moW m x ≤ Rows.uptoBulk d ∧ MoCap W vi vf := by
  obtain ⟨m, x, hM, hW⟩ := open_mo hv h
  obtain ⟨c0, c1, c2, c3, y0, y1, y2, y3, m', rfl, rfl, _, f0, f1, f2, f3⟩ := open_agg4 Tryz.underlying26 (by kernel_rfl) cellsMo hv h
  have hM' := hM
  obtain ⟨vi, vv, vf, e, _⟩ := hM'
  simp at e
  obtain ⟨rfl, rfl, rfl, rfl⟩ := e
  exact ⟨m, x, _, _, _, rfl, hM, hW, open_cap Tryz.underlying22 f1, open_cap Tryz.underlying24 f3, open_parcap f3⟩

/-- A module, as it lies in a list. -/
theorem open_moS {fuel : Nat} {cs : List Value} {d : DataW H} {pl : List MemPlace} (hl4 : cs.length = 4) (h : DataW.trod enc Tryz.prog W 0 (fun _ => true) true fuel 26 cs = some (d, pl)) :
    ∃ x vi vv vf, cs = [.string x.name, vi, vv, vf] ∧ MoAt W fuel (.agg #[.string x.name, vi, vv, vf]) x ∧ moW fuel x ≤ Rows.uptoBulk d := by
  obtain ⟨xs, n, hfn, hx, hlen, hxs, hf⟩ := DataW.trod_struct Tryz.underlying26 h
  obtain ⟨c0, c1, c2, c3, rfl⟩ := list4 hl4
  obtain ⟨y0, y1, y2, y3, rfl⟩ := list4 (by simpa using hxs)
  have f0 : DataW.trod enc Tryz.prog W 0 (fun _ => true) true n 9 (([c0, c1, c2, c3].drop 0).take (Tryz.prog.cellsOf 9)) = some y0 := hf 0 _ rfl
  rw [cellsStr] at f0
  simp only [List.drop, List.take] at f0
  have f1 : DataW.trod enc Tryz.prog W 0 (fun _ => true) true n 22 (([c0, c1, c2, c3].drop 1).take (Tryz.prog.cellsOf 22)) = some y1 := hf 1 _ rfl
  rw [cellsStrs] at f1
  simp only [List.drop, List.take] at f1
  have f2 : DataW.trod enc Tryz.prog W 0 (fun _ => true) true n 23 (([c0, c1, c2, c3].drop 2).take (Tryz.prog.cellsOf 23)) = some y2 := hf 2 _ rfl
  rw [cellsVas] at f2
  simp only [List.drop, List.take] at f2
  have f3 : DataW.trod enc Tryz.prog W 0 (fun _ => true) true n 24 (([c0, c1, c2, c3].drop 3).take (Tryz.prog.cellsOf 24)) = some y3 := hf 3 _ rfl
  rw [cellsFus] at f3
  simp only [List.drop, List.take] at f3
  obtain ⟨s0, e0, rfl, hs0⟩ := DataW.trod_string Tryz.underlying9 f0
  simp at e0
  subst e0
  obtain ⟨im, him, hwi⟩ := open_strsW f1
  obtain ⟨va, hva, hwv⟩ := open_vas f2
  obtain ⟨fu, hfu, hwf⟩ := open_fus f3
  simp only [Prod.mk.injEq] at hx
  obtain ⟨rfl, _⟩ := hx
  refine ⟨⟨s0, im, va, fu⟩, _, _, _, rfl, ⟨_, _, _, rfl, hs0, him, hva, hfu.monoN (by omega)⟩, ?_⟩
  unfold moW
  rw [fusW_monoN hfu (k := fuel) (by omega)]
  simp only [List.map_cons, List.map_nil, Rows.uptoBulk, Rows.uptoBulkAll, size_list']
  omega

set_option maxRecDepth 100000 in
theorem open_mos {b0 : Nat} {v : Value} {d : DataW H} {p : List MemPlace} (hv : Value.okWide Tryz.prog W .any b0 35 v) (h : DataW.Trod enc Tryz.prog W 0 (fun _ => true) true 35 v d p) :
    ∃ m l, MosAt W m v l ∧ ∀ y ∈ l, moW m y ≤ Rows.uptoBulk d := by
  obtain ⟨a0, l0, c0, rfl⟩ := okWide_slice Tryz.underlying35 hv
  obtain ⟨fuel, hf⟩ := h
  have hf' : DataW.trod enc Tryz.prog W 0 (fun _ => true) true fuel 35 [.slice a0 l0 c0] = some (d, p) := hf
  obtain ⟨a, b, off, len, cap, D, hv', ha, hl, hD, hbulk, hel⟩ := open_elems Tryz.underlying35 cellsMo (by decide) hf'
  have each : ∀ i, i < len → ∃ x : Mo, ∃ d', D[i]? = some d' ∧ moW fuel x ≤ Rows.uptoBulk d' ∧ ∃ vi vv vf, W.cell? ⟨b, off + i * 4, none⟩ = some (.string x.name) ∧ W.cell? ⟨b, off + i * 4 + 1, none⟩ = some vi ∧ W.cell? ⟨b, off + i * 4 + 2, none⟩ = some vv ∧ W.cell? ⟨b, off + i * 4 + 3, none⟩ = some vf ∧ MoAt W fuel (.agg #[.string x.name, vi, vv, vf]) x := by
    intro i hi
    obtain ⟨n', cs, d', pl', hn', hlen', hcell, htrod, hDi⟩ := hel i hi
    obtain ⟨x, vi, vv, vf, rfl, hx', hw⟩ := open_moS hlen' htrod
    refine ⟨x, d', hDi, by rw [moW_monoN hx' (k := fuel) (by omega)]; exact hw, vi, vv, vf, hcell 0 (by decide), hcell 1 (by decide), hcell 2 (by decide), hcell 3 (by decide), hx'.monoN (by omega)⟩
  obtain ⟨l, hll, hp⟩ := list_choose len each
  refine ⟨fuel, l, ⟨a, b, off, cap, by rw [hv', ← hll], by rw [hll]; exact ha, by rw [hll]; exact hl, fun i s hs => ?_⟩, fun y hy => ?_⟩
  · obtain ⟨_, _, _, hh⟩ := hp i s hs
    exact hh
  · obtain ⟨i, hi, rfl⟩ := List.mem_iff_getElem.1 hy
    obtain ⟨d', h1, h2, _⟩ := hp i _ (List.getElem?_eq_getElem hi)
    have h3 : Rows.uptoBulk d' ≤ Rows.uptoBulkAll D := bulk_one h1
    have h4 : Rows.uptoBulkAll D + 1 ≤ Rows.uptoBulk d := hbulk
    omega
end

end Go.Proofs.YtnheahdcfadclaaGreatDoor

/- How lists of modules that came in are opened, with their capacities. -/
namespace Go.Proofs.YtnheahdcfadclaaGreatDoor
open Go.ChangeShapes Go.WideShapes Go.ChangeAt Go.RowKit Go.Deep Go.Joins

section
variable {H : Type} {enc : TypeId × Value → H} {W : World}

/-- A module, as it lies in a list. -/
theorem open_moSC {fuel : Nat} {cs : List Value} {d : DataW H} {pl : List MemPlace} (hl4 : cs.length = 4) (h : DataW.trod enc Tryz.prog W 0 (fun _ => true) true fuel 26 cs = some (d, pl)) :
    ∃ x vi vv vf, cs = [.string x.name, vi, vv, vf] ∧ MoAt W fuel (.agg #[.string x.name, vi, vv, vf]) x ∧ moW fuel x ≤ Rows.uptoBulk d ∧ MoCap W vi vf := by
  obtain ⟨xs, n, hfn, hx, hlen, hxs, hf⟩ := DataW.trod_struct Tryz.underlying26 h
  obtain ⟨c0, c1, c2, c3, rfl⟩ := list4 hl4
  obtain ⟨y0, y1, y2, y3, rfl⟩ := list4 (by simpa using hxs)
  have f0 : DataW.trod enc Tryz.prog W 0 (fun _ => true) true n 9 (([c0, c1, c2, c3].drop 0).take (Tryz.prog.cellsOf 9)) = some y0 := hf 0 _ rfl
  rw [cellsStr] at f0
  simp only [List.drop, List.take] at f0
  have f1 : DataW.trod enc Tryz.prog W 0 (fun _ => true) true n 22 (([c0, c1, c2, c3].drop 1).take (Tryz.prog.cellsOf 22)) = some y1 := hf 1 _ rfl
  rw [cellsStrs] at f1
  simp only [List.drop, List.take] at f1
  have f2 : DataW.trod enc Tryz.prog W 0 (fun _ => true) true n 23 (([c0, c1, c2, c3].drop 2).take (Tryz.prog.cellsOf 23)) = some y2 := hf 2 _ rfl
  rw [cellsVas] at f2
  simp only [List.drop, List.take] at f2
  have f3 : DataW.trod enc Tryz.prog W 0 (fun _ => true) true n 24 (([c0, c1, c2, c3].drop 3).take (Tryz.prog.cellsOf 24)) = some y3 := hf 3 _ rfl
  rw [cellsFus] at f3
  simp only [List.drop, List.take] at f3
  obtain ⟨s0, e0, rfl, hs0⟩ := DataW.trod_string Tryz.underlying9 f0
  simp at e0
  subst e0
  obtain ⟨im, him, hwi⟩ := open_strsW f1
  obtain ⟨va, hva, hwv⟩ := open_vas f2
  obtain ⟨fu, hfu, hwf⟩ := open_fus f3
  simp only [Prod.mk.injEq] at hx
  obtain ⟨rfl, _⟩ := hx
  refine ⟨⟨s0, im, va, fu⟩, _, _, _, rfl, ⟨_, _, _, rfl, hs0, him, hva, hfu.monoN (by omega)⟩, ?_, open_cap Tryz.underlying22 f1, open_cap Tryz.underlying24 f3, open_parcap f3⟩
  unfold moW
  rw [fusW_monoN hfu (k := fuel) (by omega)]
  simp only [List.map_cons, List.map_nil, Rows.uptoBulk, Rows.uptoBulkAll, size_list']
  omega

set_option maxRecDepth 100000 in
theorem open_moscap {b0 : Nat} {v : Value} {d : DataW H} {p : List MemPlace} (hv : Value.okWide Tryz.prog W .any b0 35 v) (h : DataW.Trod enc Tryz.prog W 0 (fun _ => true) true 35 v d p) :
    ∃ m l, MosAt W m v l ∧ (∀ y ∈ l, moW m y ≤ Rows.uptoBulk d) ∧ ∀ (b off cap : Nat), v = .slice (some ⟨b, off, none⟩) l.length cap → ∀ (i : Nat) (y : Mo) (vf : Value), l[i]? = some y → W.cell? ⟨b, off + i * 4 + 3, none⟩ = some vf → CapOK vf := by
  obtain ⟨a0, l0, c0, rfl⟩ := okWide_slice Tryz.underlying35 hv
  obtain ⟨fuel, hf⟩ := h
  have hf' : DataW.trod enc Tryz.prog W 0 (fun _ => true) true fuel 35 [.slice a0 l0 c0] = some (d, p) := hf
  obtain ⟨a, b, off, len, cap, D, hv', ha, hl, hD, hbulk, hel⟩ := open_elems Tryz.underlying35 cellsMo (by decide) hf'
  have each : ∀ i, i < len → ∃ x : Mo, ∃ d', D[i]? = some d' ∧ moW fuel x ≤ Rows.uptoBulk d' ∧ ∃ vi vv vf, W.cell? ⟨b, off + i * 4, none⟩ = some (.string x.name) ∧ W.cell? ⟨b, off + i * 4 + 1, none⟩ = some vi ∧ W.cell? ⟨b, off + i * 4 + 2, none⟩ = some vv ∧ W.cell? ⟨b, off + i * 4 + 3, none⟩ = some vf ∧ MoAt W fuel (.agg #[.string x.name, vi, vv, vf]) x ∧ MoCap W vi vf := by
    intro i hi
    obtain ⟨n', cs, d', pl', hn', hlen', hcell, htrod, hDi⟩ := hel i hi
    obtain ⟨x, vi, vv, vf, rfl, hx', hw, hcp⟩ := open_moSC hlen' htrod
    refine ⟨x, d', hDi, by rw [moW_monoN hx' (k := fuel) (by omega)]; exact hw, vi, vv, vf, hcell 0 (by decide), hcell 1 (by decide), hcell 2 (by decide), hcell 3 (by decide), hx'.monoN (by omega), hcp⟩
  obtain ⟨l, hll, hp⟩ := list_choose len each
  refine ⟨fuel, l, ⟨a, b, off, cap, by rw [hv', ← hll], by rw [hll]; exact ha, by rw [hll]; exact hl, fun i s hs => ?_⟩, fun y hy => ?_, fun b' off' cap' e i y vf hy k3 => ?_⟩
  · obtain ⟨_, _, _, vi, vv, vf, g0, g1, g2, g3, hm, _⟩ := hp i s hs
    exact ⟨vi, vv, vf, g0, g1, g2, g3, hm⟩
  · obtain ⟨i, hi, rfl⟩ := List.mem_iff_getElem.1 hy
    obtain ⟨d', h1, h2, _⟩ := hp i _ (List.getElem?_eq_getElem hi)
    have h3 : Rows.uptoBulk d' ≤ Rows.uptoBulkAll D := bulk_one h1
    have h4 : Rows.uptoBulkAll D + 1 ≤ Rows.uptoBulk d := hbulk
    omega
  · obtain ⟨_, _, _, vi', vv', vf', g0, g1, g2, g3, hm, hcp⟩ := hp i y hy
    have hi := (List.getElem?_eq_some_iff.1 hy).1
    rw [hv'] at e
    injection e with e0 e1 e2
    have h1 := ha (by omega)
    rw [e0] at h1
    injection h1 with h1
    injection h1 with h1 h2
    subst h1 h2
    rw [g3] at k3
    cases k3
    exact hcp.fus
end

end Go.Proofs.YtnheahdcfadclaaGreatDoor
