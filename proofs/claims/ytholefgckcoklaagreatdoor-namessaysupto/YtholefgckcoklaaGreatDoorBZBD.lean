/- Walks over the library: slices.Grow of nil and slices.Concat, of diagnostics. -/
import Derived.Test.YtholefgckcoklaaGreatDoorBZBC
import Derived.Deep.OwnRows
import Derived.Laws.OwnMore
import Derived.OwnWalk
import Derived.Lib.AppendZerosOnto
import Derived.Lib.SliceRun
namespace Go.Proofs.YtholefgckcoklaaGreatDoor
open Go.RowKit
def OwnR {α : Type} (At : List Value → α → Prop) (w : World) (n e k : Nat) (v : Value) (l : List α) : Prop :=
  ∃ cs : List (List Value), w.ownsRow n e k v l.length cs.flatten ∧ cs.length = l.length ∧ (∀ c ∈ cs, c.length = k ∧ ∀ u ∈ c, u.oneCell' = true) ∧ (∀ (i : Nat) c y, cs[i]? = some c → l[i]? = some y → At c y)
section
variable {α : Type} {At : List Value → α → Prop} {w w' : World} {n e k : Nat} {v : Value} {l : List α}
theorem OwnK.toR (h : OwnK At w n e k v l) : OwnR At w n e k v l := by
  obtain ⟨cs, h1, h2, h3, h4, _⟩ := h
  exact ⟨cs, h1, h2, h3, h4⟩
theorem OwnR.toK (h : OwnR At w n e k v l) (hz : l = [] → v = .slice none 0 0) : OwnK At w n e k v l := by
  obtain ⟨cs, h1, h2, h3, h4⟩ := h
  exact ⟨cs, h1, h2, h3, h4, hz⟩
theorem OwnR.lt (h : OwnR At w n e k v l) : ∀ j, v.ownBlock = some j → n ≤ j ∧ j < w.heap.size := by
  obtain ⟨cs, h1, _⟩ := h
  exact h1.lt
theorem OwnR.below (h : OwnR At w n e k v l) (hb : Below w.heap.size w w') : OwnR At w' n e k v l := by
  obtain ⟨cs, h1, h2⟩ := h
  exact ⟨cs, own_below h1 hb, h2⟩
end
section
variable {α : Type} {At : List Value → α → Prop} {w : World} {ops : Array Oper} {rest : List Oper} {o : Oper} {a : Act} {Q : Exit → Act → World → Prop}
theorem wpList_append_R (hgd : o.guard = none) (s x : Operand) (t e k bytes : Nat) (z : Value)
    (ho : o.op = .call { callee := .builtin .append, args := #[s, x], argTypes := #[t, t] }) (ht : Tryz.prog.underlying t = some (.slice e)) (hinfo : (Tryz.prog.info? e).map (fun i => (i.zero, i.size, i.bytes)) = some (some z, k, bytes)) (hzs : z.cells.size = k) (hk : 0 < k) (hby : bytes ≤ 1024)
    (n : Nat) (v : Value) (l : List α) (hs : a.eval s = v) (hown : OwnR At w n e k v l) (n2 : Nat) (v2 : Value) (l2 : List α) (hx : a.eval x = v2) (hown2 : OwnK At w n2 e k v2 l2) (hl : l.length + l2.length ≤ 16777216) (hbase : n ≤ w.heap.size)
    (h : ∀ v' w', OwnR At w' n e k v' (l ++ l2) → (l2 = [] → v' = v) → w.grownBy w' v.ownBlock → wpList Tryz.prog ops Q rest (a.put o.dst v') w') : wpList Tryz.prog ops Q (o :: rest) a w := by
  obtain ⟨iS, hiS, hz0, hz1, hz2⟩ := info_parts hinfo
  have HO := hown
  obtain ⟨cs, hr, k1, k2, k3⟩ := hown
  rcases hown2.shape with ⟨rfl, rfl⟩ | ⟨g2, cap2, rfl, _, _, _, hne⟩
  · refine wpList_append_own_none hgd s x t ho n e iS k ht hiS v l.length cs.flatten hs hr hx ?_
    exact h v w (by simpa using HO) (fun _ => rfl) ⟨rfl, rfl, rfl, Nat.le_refl _, fun _ _ _ => rfl⟩
  · obtain ⟨cs2, hr2, b1, b2, b3, _⟩ := hown2
    have hpos : 0 < l2.length := List.length_pos_iff.2 hne
    refine wpList_append_lies w hgd s x t ho n e iS z k bytes ht hiS hz0 hz1 hz2 hzs hk v l.length cs.flatten hs hr ⟨g2, 0, none⟩ l2.length cap2 cs2.flatten hx (by rw [flat_len cs2 (fun c hc => (b2 c hc).1), b1]) (fun j u hu => ?_) (fun u hu => ?_) hpos (by unfold maxLen; omega)
      (Nat.le_trans (Nat.mul_le_mul hl hby) (by decide)) hbase w.heap.size rfl ?_
    · rw [Addr.add_lit, Nat.zero_add, World.ownsRow.cellAt hr2 j (by have := (List.getElem?_eq_some_iff.1 hu).1; rw [flat_len cs2 (fun c hc => (b2 c hc).1), b1] at this; exact this)]
      exact hu
    · obtain ⟨c, hc, hu'⟩ := List.mem_flatten.1 hu
      exact (b2 c hc).2 u hu'
    · intro g cap w' h1' h2 _ _
      exact h _ w' (OwnK.cat ⟨k1, k2, k3⟩ ⟨b1, b2, b3⟩ hne h1').toR (fun e => absurd e hne) h2
end
set_option maxHeartbeats 2000000 in
set_option maxRecDepth 100000 in
theorem growD_any (w : World) (n : Nat) (hn : n ≤ 16777216) :
    Calls Tryz.prog 127 #[.slice none 0 0, .int .i64 n] w fun e w' => ∃ v, e = .returned v ∧ OwnR DgC w' w.heap.size 43 3 v [] ∧ (n = 0 → v = .slice none 0 0) ∧ Below w.heap.size w w' := by
  obtain ⟨iS, hiS, hz0, hz1, hz2⟩ := info_parts infoDg
  by_cases h0 : n = 0
  · subst h0
    go_enter Tryz.func127, Tryz.ntmps127
    go_wp2
    go_ret
    exact ⟨_, rfl, (OwnK.nil _ _ _ _).toR, fun _ => rfl, Below.refl _ _⟩
  · obtain ⟨Z, hZ⟩ : ∃ Z : Value, Z = .agg #[.int .i64 0, .string ⟨#[]⟩, .string ⟨#[]⟩] := ⟨_, rfl⟩
    rw [← hZ] at hz0
    have hrz : ∀ ty, (Builtin.append_ #[37, 3] ty #[.slice none 0 0, .int .i64 n]).run Tryz.prog w =
        .ok (.slice (some ⟨w.heap.size, 0, none⟩) n (grownCap w n 0 43)) (w.drew.alloc (.cells (Builtin.zeroCells Z.cells n ++ Builtin.zeroCells Z.cells (grownCap w n 0 43 - n)) 43)) := fun ty => by
      have h := Lib.run_append_grow_zeros w 37 3 ty 43 iS Z .i64 .i64 Tryz.underlying37 Tryz.underlying3 hiS hz0 none 0 0 [] (run_firstCells_none w.drew _ 0 0 0) n (by omega) (by omega) (by omega) (by omega) (by rw [hz2]; omega)
        (by rw [Nat.zero_add]; exact growslice_fits (by omega) (by rw [hz2]; omega))
      simpa using h
    have hGn : n ≤ grownCap w n 0 43 := grownCap_ge w _ _ _
    have hGm : grownCap w n 0 43 ≤ maxLen := grownCap_le_maxLen w n 0 43 (by unfold maxLen; omega)
    obtain ⟨G, hG⟩ : ∃ G, G = grownCap w n 0 43 := ⟨_, rfl⟩
    rw [← hG] at hrz hGn hGm
    have hG63 : G ≤ 9223372036854775807 := by unfold maxLen at hGm; omega
    have hown : (w.drew.alloc (.cells (Builtin.zeroCells Z.cells n ++ Builtin.zeroCells Z.cells (G - n)) 43)).ownsRow w.heap.size 43 3 (.slice (some ⟨w.heap.size, 0, none⟩) 0 G) 0 [] :=
      ⟨by simp, .inr ⟨w.heap.size, G, _, rfl, Nat.le_refl _, heap_alloc_new w.drew _, Nat.zero_le _, hGm, by
        have e : ∀ k, (Builtin.zeroCells Z.cells k).size = k * 3 := fun k => by rw [hZ]; simp [Builtin.zeroCells, Value.cells]
        rw [Array.size_append, e, e]; omega, by simp⟩⟩
    have HO := hide hown
    have HBW : Hid (Below w.heap.size w (w.drew.alloc (.cells (Builtin.zeroCells Z.cells n ++ Builtin.zeroCells Z.cells (G - n)) 43))) := hide (((Below.refl _ _).drew).alloc (by simp) _)
    clear hown hG
    generalize (w.drew.alloc (.cells (Builtin.zeroCells Z.cells n ++ Builtin.zeroCells Z.cells (G - n)) 43)) = W1 at *
    go_enter Tryz.func127, Tryz.ntmps127
    go_wp2_with (at_builtin; refine Lib.wpList_append_run _ rfl _ _ _ _ rfl _ _ rfl rfl _ _ (hrz _) ?_)
    go_ret
    exact ⟨_, rfl, ⟨[], HO.out, rfl, (fun c hc => absurd hc (by simp)), (fun i c y hc => absurd hc (by simp))⟩, fun h => absurd h h0, HBW.out⟩
def DgsS (w : World) (n : Nat) (v : Value) (ls : List (List Dg)) : Prop :=
  ∃ b off cap, v = .slice (some ⟨b, off, none⟩) ls.length cap ∧ ls.length ≤ 16 ∧ ∀ i l, ls[i]? = some l → ∃ vi, w.cell? ⟨b, off + i, none⟩ = some vi ∧ OwnK DgC w n 43 3 vi l
theorem flatD_take {ls : List (List Dg)} {j : Nat} {l : List Dg} (h : ls[j]? = some l) : (ls.take (j + 1)).flatten = (ls.take j).flatten ++ l := by
  obtain ⟨hj, rfl⟩ := List.getElem?_eq_some_iff.1 h
  rw [List.take_succ_eq_append_getElem hj, List.flatten_append]; simp
theorem flatD_le (ls : List (List Dg)) (j : Nat) : (ls.take j).flatten.length ≤ ls.flatten.length := by
  conv => rhs; rw [← List.take_append_drop j ls]
  rw [List.flatten_append, List.length_append]; omega
set_option maxHeartbeats 2000000 in
set_option maxRecDepth 100000 in
theorem concatD_any (w : World) (n0 : Nat) (v : Value) (ls : List (List Dg)) (h : DgsS w n0 v ls) (hn : ls.flatten.length ≤ 16777216) :
    Calls Tryz.prog 55 #[v] w fun e w' => ∃ v', e = .returned v' ∧ OwnK DgC w' w.heap.size 43 3 v' ls.flatten ∧ Below w.heap.size w w' := by
  obtain ⟨b, off, cap, rfl, hl16, hel⟩ := h
  have HEL := hide hel
  clear hel
  obtain ⟨len, hlen⟩ : ∃ len, len = ls.length := ⟨_, rfl⟩
  have HL := hide hlen
  rw [← hlen] at hl16 ⊢
  clear hlen
  go_enter Tryz.func55, Tryz.ntmps55
  go_wp2
  go_loop [3, 11] (fun o i => ∃ k : Nat, k ≤ len ∧ i = .int .i64 k ∧ o = .int .i64 (ls.take k).flatten.length) (fun _ i => len - (intOf i).toNat)
  case atStart => exact ⟨0, Nat.zero_le _, rfl, rfl⟩
  case round =>
    obtain ⟨k, hk, rfl, rfl⟩ := hrel
    have hacc := Nat.le_trans (flatD_le ls k) hn
    by_cases hlt : k < len
    · obtain ⟨l, hy⟩ : ∃ l, ls[k]? = some l := ⟨_, List.getElem?_eq_getElem (by rw [← HL.out]; exact hlt)⟩
      obtain ⟨vi, g0, hst⟩ := HEL.out k l hy
      obtain ⟨a, cp, rfl⟩ := hst.form
      have HST : Hid ((ls.take (k + 1)).flatten.length = (ls.take k).flatten.length + l.length) := hide (by rw [flatD_take hy, List.length_append])
      have hacc2 := Nat.le_trans (flatD_le ls (k + 1)) hn
      rw [HST.out] at hacc2
      generalize (ls.take k).flatten.length = n0 at *
      generalize l.length = n1 at *
      clear hy hst
      go_wp2
      go_round
      case rel => exact ⟨k + 1, by omega, by go_num, by rw [HST.out]; go_num⟩
      case measure => simp [intOf]; omega
    · have e : ls.take k = ls := List.take_of_length_le (by have := HL.out; omega)
      rw [e] at hacc ⊢
      clear e
      obtain ⟨N, hN⟩ : ∃ N, N = ls.flatten.length := ⟨_, rfl⟩
      have HN := hide hN
      rw [← hN] at hacc ⊢
      clear hN
      go_wp2_with fail
      refine (growD_any w N hacc).mono ?_
      rintro e w1 ⟨v1, rfl, ho1, hz1, hb1⟩
      have HO := hide ho1
      have HB := hide hb1
      have HZ : Hid (ls.flatten = [] → v1 = .slice none 0 0) := hide (fun h => hz1 (by rw [HN.out, h]; rfl))
      clear ho1 hb1 hk hlt hz1
      go_wp2
      go_loopw [6, 27] (fun o i wr => ∃ k : Nat, k ≤ len ∧ i = .int .i64 k ∧ OwnR DgC wr w.heap.size 43 3 o (ls.take k).flatten ∧ (ls.flatten = [] → o = .slice none 0 0) ∧ Below w.heap.size w wr) (fun _ i _ => len - (intOf i).toNat)
      case atStart => exact ⟨0, Nat.zero_le _, rfl, HO.out, HZ.out, HB.out⟩
      case round =>
        obtain ⟨k, hk, rfl, hown, hzz, hnx⟩ := hrel
        by_cases hlt : k < len
        · obtain ⟨l, hy⟩ : ∃ l, ls[k]? = some l := ⟨_, List.getElem?_eq_getElem (by rw [← HL.out]; exact hlt)⟩
          obtain ⟨vi, g0, hst⟩ := HEL.out k l hy
          have u0 := cellUp g0 hnx
          have HSS := hide (hst.below hnx)
          obtain ⟨a, cp, rfl⟩ := hst.form
          have HST := hide (flatD_take hy)
          have hacc2 := Nat.le_trans (flatD_le ls (k + 1)) hn
          rw [HST.out, List.length_append] at hacc2
          have hbs := hnx.size
          have HOW := hide hown
          have HNX := hide hnx
          have HZZ := hide hzz
          have HEM : Hid (ls.flatten = [] → l = []) := hide (fun h => by
            have h1 := flatD_le ls (k + 1)
            rw [HST.out, List.length_append, h] at h1
            exact List.length_eq_zero_iff.1 (by simp at h1; simpa using h1.2))
          obtain ⟨n1, hn1⟩ : ∃ n, n = l.length := ⟨_, rfl⟩
          rw [← hn1] at u0 HSS
          clear hn1
          clear hy hst g0 hown hnx hzz
          go_wp2_with (first
            | (at_builtin; refine wpList_append_R (At := DgC) rfl _ _ 37 43 3 40 _ rfl Tryz.underlying37 infoDg (by decide) (by decide) (by decide) w.heap.size _ _ rfl HOW.out _ _ l rfl HSS.out (by omega) hbs ?_; intro v' w2 hown2 hz2 hgrow2)
            | fail)
          have R2 := hide (HNX.out.grown hgrow2 hbs (fun j hj => (HOW.out.lt j hj).1))
          have HO2 := hide hown2
          have HZ2 := hide hz2
          clear hgrow2 hown2 hz2
          go_roundw
          case rel => exact ⟨k + 1, by omega, by go_num, by rw [HST.out]; exact HO2.out, fun h => by rw [HZ2.out (HEM.out h)]; exact HZZ.out h, R2.out⟩
          case measure => simp [intOf]; omega
        · have e : ls.take k = ls := List.take_of_length_le (by have := HL.out; omega)
          rw [e] at hown
          have HO2 := hide (hown.toK hzz)
          clear hown hzz
          go_wp2
          go_ret
          exact ⟨_, rfl, HO2.out, hnx⟩
end Go.Proofs.YtholefgckcoklaaGreatDoor
namespace Go.Proofs.YtholefgckcoklaaGreatDoor
open Go.RowKit
theorem Strs.takeS {w : World} {a : Option Addr} {n cap i : Nat} {ss : List ByteArray} (h : Strs w (.slice a n cap) ss) (hi : i ≤ ss.length) : Strs w (.slice a i cap) (ss.take i) := by
  obtain ⟨a', b, off, c, e, h0, h1, h2, h3⟩ := h
  injection e with e1 e2 e3
  subst e1 e2 e3
  have hl : (ss.take i).length = i := by rw [List.length_take]; omega
  refine ⟨a, b, off, cap, by rw [hl], fun h => h0 (by omega), by omega, fun s hs => h2 s (List.mem_of_mem_take hs), fun j hj => ?_⟩
  rw [h3 j (by omega)]
  rw [hl] at hj
  simp [List.getD_eq_getElem?_getD, hj]
namespace Nm
def inB (l : List ByteArray) (s : ByteArray) : Bool := decide (0 ≤ Lat.indexI l s)
def twA (fn : ByteArray) (l : List ByteArray) : List Dg := upto (atD l fun i s => if inB (l.take i) s = true then [⟨2, fn, s⟩] else []) l.length
def twD (x : Mo) : List Dg := [twA ⟨#[]⟩ x.imports, twA ⟨#[]⟩ (x.vars.map (·.name)), twA ⟨#[]⟩ (x.funs.map (·.name))].flatten ++ x.funs.flatMap fun f => twA f.name f.params
end Nm
set_option maxHeartbeats 2000000 in
set_option maxRecDepth 100000 in
theorem twiceAmong_any (w : World) (v : Value) (l : List ByteArray) (fn : ByteArray) (h : StrsC w v l) (hlen : (Nm.twA fn l).length ≤ 16777216) :
    Calls Tryz.prog 128 #[.string fn, v] w fun e w' => ∃ u, e = .returned u ∧ OwnK DgC w' w.heap.size 43 3 u (Nm.twA fn l) ∧ Below w.heap.size w w' := by
  obtain ⟨hS, a, cap, rfl, hcap⟩ := h
  have HS := hide hS
  obtain ⟨a', b, off, c', he, ha, hl, hcs, hci⟩ := hS
  injection he with he1 he2 he3
  subst he1 he3
  have HCI := hide hci
  have HA := hide ha
  obtain ⟨G, hG⟩ : ∃ G, G = Nm.atD l fun i s => if Nm.inB (l.take i) s = true then [⟨2, fn, s⟩] else [] := ⟨_, rfl⟩
  have HG := hide hG
  have HLD : Hid (Nm.twA fn l = Nm.upto G l.length) := hide (by rw [hG]; rfl)
  have HLE := hide hlen
  rw [HLD.out] at HLE ⊢
  obtain ⟨ni, hni⟩ : ∃ n, n = l.length := ⟨_, rfl⟩
  have HNI := hide hni
  rw [← hni] at hl HA HLE hcap HS ⊢
  clear hci ha hcs hlen hG hni he2
  go_enter Tryz.func128, Tryz.ntmps128
  go_wp2_with fail
  go_loopw [5, 10] (fun v i wr => ∃ j : Nat, j ≤ ni ∧ i = .int .i64 j ∧ OwnK DgC wr w.heap.size 43 3 v (Nm.upto G j) ∧ Below w.heap.size w wr) (fun _ i _ => ni - (intOf i).toNat)
  case atStart => exact ⟨0, Nat.zero_le _, rfl, OwnK.nil _ _ _ _, Below.refl _ _⟩
  case round =>
    obtain ⟨t, ht, rfl, hown, hnx⟩ := hrel
    have HOW := hide hown
    have HNX := hide hnx
    by_cases htl' : t < ni
    · obtain ⟨s, hs⟩ : ∃ y, l[t]? = some y := ⟨_, List.getElem?_eq_getElem (by rw [← HNI.out]; exact htl')⟩
      have c0 := cellUp (HCI.out t (by rw [← HNI.out]; exact htl')) hnx
      rw [List.getD_eq_getElem?_getD, hs, Option.getD_some] at c0
      obtain rfl := HA.out (by omega)
      have HY : Hid (G t = if Nm.inB (l.take t) s = true then [⟨2, fn, s⟩] else []) := hide (by rw [HG.out]; exact Nm.atD_some hs)
      have HCO := hide (containsS_any wr _ (l.take t) s ((HS.out.takeS (by rw [← HNI.out]; exact ht)).below hnx))
      rw [show decide (0 ≤ Lat.indexI (l.take t) s) = Nm.inB (l.take t) s from rfl] at HCO
      obtain ⟨a3, c3, rfl⟩ := hown.form
      have hul : (Nm.upto G t).length < 16777216 ∨ G t = [] := by
        have h1 := Nm.upto_le G (show t + 1 ≤ ni by omega)
        rw [Nm.upto_succ, List.length_append] at h1
        have h2 := HLE.out
        by_cases hg : G t = []
        · exact Or.inr hg
        · have := List.length_pos_iff.2 hg
          exact Or.inl (by omega)
      have HUL := hide hul
      obtain ⟨ul, hut⟩ : ∃ n, n = (Nm.upto G t).length := ⟨_, rfl⟩
      have HUT := hide hut
      rw [← hut] at HOW ⊢
      clear hs hown hnx hut hul
      go_wp2_with fail
      refine HCO.out.mono ?_
      rintro e w2 ⟨rfl, hw2⟩
      subst hw2
      generalize Nm.inB (l.take t) s = ib at *
      cases ib
      · rw [if_neg (by simp)] at HY
        go_wp2_with fail
        go_roundw
        case rel => exact ⟨t + 1, by omega, by go_num, by rw [Nm.upto_succ, HY.out, List.append_nil]; exact HOW.out, HNX.out⟩
        case measure => simp [intOf]; omega
      · rw [if_pos rfl] at HY
        have hul : ul < 16777216 := by
          rcases HUL.out with h | h
          · rw [HUT.out]; exact h
          · rw [HY.out] at h; cases h
        go_wp2_with (first
          | (at_builtin; refine wpList_append_K (At := DgC) rfl _ _ 37 43 3 40 _ rfl Tryz.underlying37 infoDg (by decide) (by decide) (by decide) w.heap.size _ _ rfl (HOW.out.below (boxBelow _ _)) _ _ [⟨2, fn, s⟩] rfl (OwnK.one _ _ rfl (DgC.one (d := ⟨2, fn, s⟩) rfl) rfl) (by have := HUT.out; simp only [List.length_singleton]; omega) (Nat.le_trans HNX.out.size (boxBelow _ _).size) ?_; intro v6 w6 hown6 hgrow6; have HOW6 := hide hown6; have HN6 := hide (grown_below (up HNX.out (boxBelow _ _)) hgrow6 (fun j hj => (HOW.out.lt j hj).1)); clear hown6 hgrow6)
          | fail)
        go_roundw
        case rel => exact ⟨t + 1, by omega, by go_num, by rw [Nm.upto_succ, HY.out]; exact HOW6.out, HN6.out⟩
        case measure => simp [intOf]; omega
    · have hje : t = ni := by omega
      obtain ⟨a9, c9, rfl⟩ := hown.form
      rw [hje] at HOW ⊢
      generalize (Nm.upto G ni).length = nu at *
      clear hown hje hnx
      go_wp2_with fail
      go_ret
      exact ⟨_, rfl, HOW.out, HNX.out⟩
theorem boxD (w : World) (cs : Array Value) (t : TypeId) (i : Nat) (v : Value) (h : cs[i]? = some v) : (w.alloc (.cells cs t)).cell? ⟨w.heap.size, i, none⟩ = some v := (block_at (block_new w (.cells cs t)) i).trans h
def CapOK (v : Value) : Prop := ∀ a n c, v = .slice a n c → n ≤ c
structure MoCap (w : World) (vi vf : Value) : Prop where
  imp : CapOK vi
  fus : CapOK vf
  par : ∀ b off n c, vf = .slice (some ⟨b, off, none⟩) n c → ∀ i, i < n → ∃ vp, w.cell? ⟨b, off + i * 7 + 1, none⟩ = some vp ∧ CapOK vp
theorem MoCap.below {w w' : World} {vi vf : Value} (h : MoCap w vi vf) (hb : Below w.heap.size w w') : MoCap w' vi vf :=
  ⟨h.imp, h.fus, fun b off n c e i hi => by
    obtain ⟨vp, h1, h2⟩ := h.par b off n c e i hi
    exact ⟨vp, cellUp h1 hb, h2⟩⟩
end Go.Proofs.YtholefgckcoklaaGreatDoor
