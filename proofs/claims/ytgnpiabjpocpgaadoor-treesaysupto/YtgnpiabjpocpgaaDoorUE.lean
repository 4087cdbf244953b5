/- Walks over the library: slices.Grow of nil, slices.Concat of lists of strings; over package tree: brackets. -/
import Derived.Test.YtgnpiabjpocpgaaDoorUD
import Derived.Deep.OwnRows
import Derived.Laws.OwnMore
import Derived.OwnWalk
import Derived.Lib.AppendZerosOnto
import Derived.Lib.SliceRun
import Derived.Lib.Join
namespace Go.Proofs.YtgnpiabjpocpgaaDoor
open Go.RowKit

theorem infoStr : (Tryd.prog.info? 9).map (fun i => (i.zero, i.size, i.bytes)) = some (some (.string ⟨#[]⟩), 1, 16) := by kernel_rfl

/-- The slice v is a row of the strings l, of the call's own. -/
def Own (w : World) (B : Nat) (v : Value) (l : List ByteArray) : Prop := w.ownsRow B 9 1 v l.length (l.map Value.string)

theorem own_below {w w' : World} {base e size n : Nat} {v : Value} {xs : List Value} (h : w.ownsRow base e size v n xs) (hb : Below w.heap.size w w') : w'.ownsRow base e size v n xs := by
  obtain ⟨h1, h2⟩ := h
  refine ⟨h1, ?_⟩
  rcases h2 with h2 | ⟨g, cap, cur, hv, hg, hh, r⟩
  · exact Or.inl h2
  · refine Or.inr ⟨g, cap, cur, hv, hg, ?_, r⟩
    have hlt : g < w.heap.size := by
      rcases Nat.lt_or_ge g w.heap.size with h' | h'
      · exact h'
      · rw [Array.getElem?_eq_none h'] at hh; cases hh
    rw [hb.block g hlt]; exact hh

theorem Own.strs {w : World} {B : Nat} {v : Value} {l : List ByteArray} (h : Own w B v l) (hs : ∀ s ∈ l, s.size ≤ maxLen) (hl : l.length ≤ 9223372036854775807) : Strs w v l := by
  have h0 := h
  rcases h.2 with ⟨rfl, h1⟩ | ⟨g, cap, cur, rfl, _⟩
  · have : l = [] := List.length_eq_zero_iff.1 (by omega)
    subst this
    exact ⟨none, 0, 0, 0, rfl, fun h => absurd h (by simp), by simp, fun s hs => absurd hs (by simp), fun j hj => absurd hj (by simp)⟩
  · refine ⟨_, g, 0, cap, rfl, fun _ => rfl, hl, hs, fun j hj => ?_⟩
    have := World.ownsRow.cellAt h0 j (by omega)
    rw [Nat.zero_add, this]
    simp [hj]
theorem Own.shape {w : World} {B : Nat} {v : Value} {l : List ByteArray} (h : Own w B v l) : (v = .slice none 0 0 ∧ l = []) ∨ ∃ g cap, v = .slice (some ⟨g, 0, none⟩) l.length cap ∧ l.length ≤ cap ∧ g < w.heap.size := by
  rcases h.2 with ⟨rfl, h1⟩ | ⟨g, cap, cur, rfl, _, hh, hc, _⟩
  · exact Or.inl ⟨rfl, List.length_eq_zero_iff.1 (by omega)⟩
  · refine Or.inr ⟨g, cap, rfl, hc, ?_⟩
    rcases Nat.lt_or_ge g w.heap.size with h' | h'
    · exact h'
    · rw [Array.getElem?_eq_none h'] at hh; cases hh

set_option maxHeartbeats 2000000 in
set_option maxRecDepth 100000 in
theorem grow_any (w : World) (n : Nat) (hn : n ≤ 16777300) :
    Calls Tryd.prog 44 #[.slice none 0 0, .int .i64 n] w fun e w' => ∃ v, e = .returned v ∧ Own w' w.heap.size v [] ∧ Below w.heap.size w w' := by
  obtain ⟨iS, hiS, hz0, hz1, hz2⟩ := info_parts infoStr
  by_cases h0 : n = 0
  · subst h0
    go_enter Tryd.func44, Tryd.ntmps44
    go_wp2
    go_ret
    exact ⟨_, rfl, World.ownsRow_nil _ _ _ _, Below.refl _ _⟩
  · have hrz : ∀ ty, (Builtin.append_ #[22, 3] ty #[.slice none 0 0, .int .i64 n]).run Tryd.prog w =
        .ok (.slice (some ⟨w.heap.size, 0, none⟩) n (grownCap w n 0 9)) (w.drew.alloc (.cells (Builtin.zeroCells (Value.string ⟨#[]⟩).cells n ++ Builtin.zeroCells (Value.string ⟨#[]⟩).cells (grownCap w n 0 9 - n)) 9)) := fun ty => by
      have h := Lib.run_append_grow_zeros w 22 3 ty 9 iS (.string ⟨#[]⟩) .i64 .i64 Tryd.underlying22 Tryd.underlying3 hiS hz0 none 0 0 [] (run_firstCells_none w.drew _ 0 0 0) n (by omega) (by omega) (by omega) (by omega) (by rw [hz2]; omega)
        (by rw [Nat.zero_add]; exact growslice_fits (by omega) (by rw [hz2]; omega))
      simpa using h
    have hGn : n ≤ grownCap w n 0 9 := grownCap_ge w _ _ _
    have hGm : grownCap w n 0 9 ≤ maxLen := grownCap_le_maxLen w n 0 9 (by unfold maxLen; omega)
    obtain ⟨G, hG⟩ : ∃ G, G = grownCap w n 0 9 := ⟨_, rfl⟩
    rw [← hG] at hrz hGn hGm
    have hG63 : G ≤ 9223372036854775807 := by unfold maxLen at hGm; omega
    have hown : (w.drew.alloc (.cells (Builtin.zeroCells (Value.string ⟨#[]⟩).cells n ++ Builtin.zeroCells (Value.string ⟨#[]⟩).cells (G - n)) 9)).ownsRow w.heap.size 9 1 (.slice (some ⟨w.heap.size, 0, none⟩) 0 G) 0 [] :=
      ⟨by simp, .inr ⟨w.heap.size, G, _, rfl, Nat.le_refl _, heap_alloc_new w.drew _, Nat.zero_le _, hGm, by
        have e : ∀ k, (Builtin.zeroCells (Value.string ⟨#[]⟩).cells k).size = k := fun k => by simp [Builtin.zeroCells, Value.cells]
        rw [Array.size_append, e, e]; omega, by simp⟩⟩
    have HO := hide hown
    have HBW : Hid (Below w.heap.size w (w.drew.alloc (.cells (Builtin.zeroCells (Value.string ⟨#[]⟩).cells n ++ Builtin.zeroCells (Value.string ⟨#[]⟩).cells (G - n)) 9))) := hide (((Below.refl _ _).drew).alloc (by simp) _)
    clear hown hG
    generalize (w.drew.alloc (.cells (Builtin.zeroCells (Value.string ⟨#[]⟩).cells n ++ Builtin.zeroCells (Value.string ⟨#[]⟩).cells (G - n)) 9)) = W1 at *
    go_enter Tryd.func44, Tryd.ntmps44
    go_wp2_with (at_builtin; refine Lib.wpList_append_run _ rfl _ _ _ _ rfl _ _ rfl rfl _ _ (hrz _) ?_)
    go_ret
    exact ⟨_, rfl, HO.out, HBW.out⟩

/-- append of a slice that came in, whatever its address: nil where nothing is appended. -/
theorem wpList_append_strs {w : World} {ops : Array Oper} {rest : List Oper} {o : Oper} {a : Act} {Q : Exit → Act → World → Prop} (hgd : o.guard = none) (s x : Operand)
    (ho : o.op = .call { callee := .builtin .append, args := #[s, x], argTypes := #[22, 22] })
    (base : Nat) (v : Value) (l k : List ByteArray) (hs : a.eval s = v) (hown : Own w base v l)
    (vx : Value) (hx : a.eval x = vx) (hk : Strs w vx k) (h63 : l.length + k.length ≤ 16777300) (hbase : base ≤ w.heap.size)
    (h : ∀ v' w', Own w' base v' (l ++ k) → w.grownBy w' v.ownBlock → wpList Tryd.prog ops Q rest (a.put o.dst v') w') : wpList Tryd.prog ops Q (o :: rest) a w := by
  obtain ⟨iS, hiS, hz0, hz1, hz2⟩ := info_parts infoStr
  obtain ⟨ao, b, off, c, rfl, ha, _, _, hc⟩ := hk
  have hown' : w.ownsRow base 9 1 v l.length (l.map Value.string) := hown
  cases ao with
  | none =>
    have hk0 : k = [] := by
      cases k with
      | nil => rfl
      | cons y k => exact absurd (ha (by simp)) (by simp)
    subst hk0
    refine wpList_plain hgd fun K hK => ?_
    have hrun : (Builtin.append_ #[22, 22] o.type #[v, .slice none 0 c]).run Tryd.prog w = .ok v w := by
      rcases hown'.2 with ⟨rfl, h0⟩ | ⟨g, cap, cur, rfl, _, _, hnc, _⟩
      · simp [Builtin.append_, run_underlying Tryd.underlying22, sizeOf, typeInfo, hiS, Builtin.lenOf, Builtin.firstCells]
      · simp [Builtin.append_, run_underlying Tryd.underlying22, sizeOf, typeInfo, hiS, Builtin.lenOf, Builtin.firstCells, hnc, storeCells]
    have hx' : a.eval x = .slice none 0 c := hx
    unfold Oper.wp
    simp [execOp, ho, resolve, invoke, builtin, hs, hx', hrun, Result.andThen]
    exact hK _ _ (h v w (by rw [List.append_nil]; exact hown) (World.grownBy.refl _ _))
  | some ad =>
    refine wpList_append_own _ hgd s x 22 ho base 9 iS (.string ⟨#[]⟩) 1 16 Tryd.underlying22 hiS hz0 hz1 hz2 rfl (by decide) v l.length (l.map Value.string) hs hown' ad k.length c (k.map Value.string) hx (by simp) (fun j u hu => ?_) (fun u hu => ?_) (by unfold maxLen; omega) (by omega) hbase ?_
    · obtain ⟨hj, rfl⟩ := List.getElem?_eq_some_iff.1 hu
      have hj' : j < k.length := by simpa using hj
      have e := ha (by omega)
      simp only [Option.some.injEq] at e
      subst e
      rw [Addr.add_lit, hc j hj']
      simp [hj']
    · obtain ⟨y, _, rfl⟩ := List.mem_map.1 hu
      rfl
    · intro v' w' h1 h2 _
      refine h v' w' ?_ h2
      unfold Own
      rw [List.length_append, List.map_append]
      exact h1

/-- The slice v is a list of lists of strings. -/
def StrsS (w : World) (v : Value) (ls : List (List ByteArray)) : Prop :=
  ∃ b off cap, v = .slice (some ⟨b, off, none⟩) ls.length cap ∧ ls.length ≤ 16 ∧ ∀ i l, ls[i]? = some l → ∃ vi, w.cell? ⟨b, off + i, none⟩ = some vi ∧ Strs w vi l

theorem flat_take {ls : List (List ByteArray)} {j : Nat} {l : List ByteArray} (h : ls[j]? = some l) : (ls.take (j + 1)).flatten = (ls.take j).flatten ++ l := by
  obtain ⟨hj, rfl⟩ := List.getElem?_eq_some_iff.1 h
  rw [List.take_succ_eq_append_getElem hj, List.flatten_append]; simp
theorem flat_le (ls : List (List ByteArray)) (j : Nat) : (ls.take j).flatten.length ≤ ls.flatten.length := by
  conv => rhs; rw [← List.take_append_drop j ls]
  rw [List.flatten_append, List.length_append]; omega

set_option maxHeartbeats 2000000 in
set_option maxRecDepth 100000 in
theorem concat_any (w : World) (v : Value) (ls : List (List ByteArray)) (h : StrsS w v ls) (hn : ls.flatten.length ≤ 16777300) :
    Calls Tryd.prog 33 #[v] w fun e w' => ∃ v', e = .returned v' ∧ Own w' w.heap.size v' ls.flatten ∧ Below w.heap.size w w' := by
  obtain ⟨b, off, cap, rfl, hl16, hel⟩ := h
  have HEL := hide hel
  clear hel
  obtain ⟨len, hlen⟩ : ∃ len, len = ls.length := ⟨_, rfl⟩
  have HL := hide hlen
  rw [← hlen] at hl16 ⊢
  clear hlen
  go_enter Tryd.func33, Tryd.ntmps33
  go_wp2
  go_loop [3, 11] (fun o i => ∃ k : Nat, k ≤ len ∧ i = .int .i64 k ∧ o = .int .i64 (ls.take k).flatten.length) (fun _ i => len - (intOf i).toNat)
  case atStart => exact ⟨0, Nat.zero_le _, rfl, rfl⟩
  case round =>
    obtain ⟨k, hk, rfl, rfl⟩ := hrel
    have hacc := Nat.le_trans (flat_le ls k) hn
    by_cases hlt : k < len
    · obtain ⟨l, hy⟩ : ∃ l, ls[k]? = some l := ⟨_, List.getElem?_eq_getElem (by rw [← HL.out]; exact hlt)⟩
      obtain ⟨vi, g0, hst⟩ := HEL.out k l hy
      obtain ⟨a, cp, rfl, hll⟩ := hst.shape
      have HST : Hid ((ls.take (k + 1)).flatten.length = (ls.take k).flatten.length + l.length) := hide (by rw [flat_take hy, List.length_append])
      have hacc2 := Nat.le_trans (flat_le ls (k + 1)) hn
      rw [HST.out] at hacc2
      generalize (ls.take k).flatten.length = n0 at *
      generalize l.length = n1 at *
      clear hy hst
      go_wp2
      go_round
      case rel => exact ⟨k + 1, by omega, by go_num, by rw [HST.out]; go_num⟩
      case measure => simp [intOf]; omega
    · have e : ls.take k = ls := List.take_of_length_le (by have := HL.out; omega)
      rw [e] at hacc ⊢
      clear e
      obtain ⟨N, hN⟩ : ∃ N, N = ls.flatten.length := ⟨_, rfl⟩
      have HN := hide hN
      rw [← hN] at hacc ⊢
      clear hN
      go_wp2_with fail
      refine (grow_any w N hacc).mono ?_
      rintro e w1 ⟨v1, rfl, ho1, hb1⟩
      have HO := hide ho1
      have HB := hide hb1
      clear ho1 hb1 hk hlt
      go_wp2
      go_loopw [6, 27] (fun o i wr => ∃ k : Nat, k ≤ len ∧ i = .int .i64 k ∧ Own wr w.heap.size o (ls.take k).flatten ∧ Below w.heap.size w wr) (fun _ i _ => len - (intOf i).toNat)
      case atStart => exact ⟨0, Nat.zero_le _, rfl, HO.out, HB.out⟩
      case round =>
        obtain ⟨k, hk, rfl, hown, hnx⟩ := hrel
        by_cases hlt : k < len
        · obtain ⟨l, hy⟩ : ∃ l, ls[k]? = some l := ⟨_, List.getElem?_eq_getElem (by rw [← HL.out]; exact hlt)⟩
          obtain ⟨vi, g0, hst⟩ := HEL.out k l hy
          have u0 := cellUp g0 hnx
          have HSS := hide (hst.below hnx)
          obtain ⟨a, cp, rfl, hll⟩ := hst.shape
          have HST := hide (flat_take hy)
          have hacc2 := Nat.le_trans (flat_le ls (k + 1)) hn
          rw [HST.out, List.length_append] at hacc2
          have hbs := hnx.size
          have HOW := hide hown
          have HNX := hide hnx
          clear hy hst g0 hown hnx
          go_wp2_with (first
            | (at_builtin; refine wpList_append_strs rfl _ _ rfl w.heap.size _ _ l rfl HOW.out _ rfl HSS.out (by omega) hbs ?_; intro v' w2 hown2 hgrow2)
            | fail)
          have R2 := hide (HNX.out.grown hgrow2 hbs (fun j hj => (HOW.out.lt j hj).1))
          have HO2 := hide hown2
          clear hgrow2 hown2
          go_roundw
          case rel => exact ⟨k + 1, by omega, by go_num, by rw [HST.out]; exact HO2.out, R2.out⟩
          case measure => simp [intOf]; omega
        · have e : ls.take k = ls := List.take_of_length_le (by have := HL.out; omega)
          rw [e] at hown
          have HO2 := hide hown
          clear hown
          go_wp2
          go_ret
          exact ⟨_, rfl, HO2.out, hnx⟩

namespace Lat
/-- Words with one blank between two. -/
def jn (l : List ByteArray) : ByteArray := ⟨(Lib.join (l.map (·.data.toList)) [32]).toArray⟩
def brk (l : List ByteArray) : ByteArray := (⟨#[40]⟩ : ByteArray) ++ jn l ++ (⟨#[41]⟩ : ByteArray)
end Lat

theorem jn_size (l : List ByteArray) : (Lat.jn l).size = (Lib.join (l.map (·.data.toList)) [32]).length := by
  unfold Lat.jn; rw [← size_list]
theorem brk_size (l : List ByteArray) : (Lat.brk l).size = (Lat.jn l).size + 2 := by
  unfold Lat.brk
  rw [ByteArray.size_append, ByteArray.size_append]
  show 1 + _ + 1 = _
  omega
theorem jn_len (l : List ByteArray) : l.length ≤ (Lat.jn l).size + 1 := by
  rw [jn_size]
  cases l with
  | nil => simp
  | cons y l =>
    rw [List.map_cons, Lib.join_length]
    simp only [List.length_cons, List.length_map, List.length_nil]
    omega

set_option maxHeartbeats 1000000 in
theorem brackets_any (w : World) (v : Value) (ls : List (List ByteArray)) (h : StrsS w v ls) (hn : (Lat.brk ls.flatten).size ≤ 16777216) :
    Calls Tryd.prog 23 #[v] w fun e w' => e = .returned (.string (Lat.brk ls.flatten)) ∧ Below w.heap.size w w' := by
  have HS := hide h
  obtain ⟨b, off, cap, rfl, _, _⟩ := h
  generalize ls.length = len at *
  have hj := jn_len ls.flatten
  have hjs := jn_size ls.flatten
  rw [brk_size] at hn
  have HE : Hid (Lat.brk ls.flatten = (⟨#[40]⟩ : ByteArray) ++ Lat.jn ls.flatten ++ (⟨#[41]⟩ : ByteArray)) := rfl
  go_enter Tryd.func23, Tryd.ntmps23
  go_wp2_with fail
  refine (concat_any w _ ls HS.out (by omega)).mono ?_
  rintro e w1 ⟨v1, rfl, ho1, hb1⟩
  have HB := hide hb1
  clear hb1
  have hjoin : ∀ W, W = w1 → Calls Tryd.prog 32 #[v1, .string ⟨#[32]⟩] W fun e w' => e = .returned (.string (Lat.jn ls.flatten)) ∧ Below W.heap.size W w' := by
    rintro W rfl
    rcases ho1.shape with ⟨rfl, hnil⟩ | ⟨g, cap1, rfl, hc, hg⟩
    · rw [hnil]
      exact (Tryd.strings_Join_none none 0 ⟨#[32]⟩ W).mono fun e w' ⟨he, hw⟩ => ⟨he, hw ▸ Below.refl _ _⟩
    · refine (Tryd.strings_Join g 0 cap1 ls.flatten ⟨#[32]⟩ W (fun j y hy => ?_) hg (by omega) hc ?_).mono fun e w' ⟨he, hw⟩ => ⟨he, hw⟩
      · obtain ⟨hj', rfl⟩ := List.getElem?_eq_some_iff.1 hy
        have := World.ownsRow.cellAt ho1 j (by omega)
        rw [Nat.zero_add, this, List.getElem?_map, List.getElem?_eq_getElem hj']; rfl
      · have : (Lib.join (ls.flatten.map (·.data.toList)) (⟨#[32]⟩ : ByteArray).data.toList).length = (Lat.jn ls.flatten).size := hjs.symm
        omega
  have HJ := hide hjoin
  clear hjoin ho1 hj hjs
  generalize Lat.jn ls.flatten = t at *
  go_wp2_with fail
  refine (HJ.out _ rfl).mono ?_
  rintro e w2 ⟨rfl, hb2⟩
  have HB2 := hide (up HB.out hb2)
  clear hb2
  go_wp2_with fail
  go_ret
  exact ⟨ret_str HE.out.symm, HB2.out⟩

end Go.Proofs.YtgnpiabjpocpgaaDoor
