/- Walks over the library: slices.Grow of nil, slices.Concat of lists of strings; over package tree: brackets. -/
import Derived.Test.YtbncnkfogkhoeabGreatDoorZAJ
import Derived.Test.YtbncnkfogkhoeabGreatDoorZAB
import Derived.Deep.OwnRows
import Derived.Laws.OwnMore
import Derived.OwnWalk
import Derived.Lib.AppendZerosOnto
import Derived.Lib.SliceRun
import Derived.Lib.Join
import Derived.Deep.RegionHeld3
namespace Go.Proofs.YtbncnkfogkhoeabGreatDoor
open Go.RowKit

set_option maxHeartbeats 2000000 in
set_option maxRecDepth 100000 in
theorem grow_any (w : World) (n : Nat) (hn : n ≤ 16777300) :
    Calls Tryz.prog 99 #[.slice none 0 0, .int .i64 n] w fun e w' => ∃ v, e = .returned v ∧ Own w' w.heap.size v [] ∧ Below w.heap.size w w' := by
  obtain ⟨iS, hiS, hz0, hz1, hz2⟩ := info_parts infoStr
  by_cases h0 : n = 0
  · subst h0
    go_enter Tryz.func99, Tryz.ntmps99
    go_wp2
    go_ret
    exact ⟨_, rfl, World.ownsRow_nil _ _ _ _, Below.refl _ _⟩
  · have hrz : ∀ ty, (Builtin.append_ #[22, 3] ty #[.slice none 0 0, .int .i64 n]).run Tryz.prog w =
        .ok (.slice (some ⟨w.heap.size, 0, none⟩) n (grownCap w n 0 9)) (w.drew.alloc (.cells (Builtin.zeroCells (Value.string ⟨#[]⟩).cells n ++ Builtin.zeroCells (Value.string ⟨#[]⟩).cells (grownCap w n 0 9 - n)) 9)) := fun ty => by
      have h := Lib.run_append_grow_zeros w 22 3 ty 9 iS (.string ⟨#[]⟩) .i64 .i64 Tryz.underlying22 Tryz.underlying3 hiS hz0 none 0 0 [] (run_firstCells_none w.drew _ 0 0 0) n (by omega) (by omega) (by omega) (by omega) (by rw [hz2]; omega)
        (by rw [Nat.zero_add]; exact growslice_fits (by omega) (by rw [hz2]; omega))
      simpa using h
    have hGn : n ≤ grownCap w n 0 9 := grownCap_ge w _ _ _
    have hGm : grownCap w n 0 9 ≤ maxLen := grownCap_le_maxLen w n 0 9 (by unfold maxLen; omega)
    obtain ⟨G, hG⟩ : ∃ G, G = grownCap w n 0 9 := ⟨_, rfl⟩
    rw [← hG] at hrz hGn hGm
    have hG63 : G ≤ 9223372036854775807 := by unfold maxLen at hGm; omega
    have hown : (w.drew.alloc (.cells (Builtin.zeroCells (Value.string ⟨#[]⟩).cells n ++ Builtin.zeroCells (Value.string ⟨#[]⟩).cells (G - n)) 9)).ownsRow w.heap.size 9 1 (.slice (some ⟨w.heap.size, 0, none⟩) 0 G) 0 [] :=
      ⟨by simp, .inr ⟨w.heap.size, G, _, rfl, Nat.le_refl _, heap_alloc_new w.drew _, Nat.zero_le _, hGm, by
        have e : ∀ k, (Builtin.zeroCells (Value.string ⟨#[]⟩).cells k).size = k := fun k => by simp [Builtin.zeroCells, Value.cells]
        rw [Array.size_append, e, e]; omega, by simp⟩⟩
    have HO := hide hown
    have HBW : Hid (Below w.heap.size w (w.drew.alloc (.cells (Builtin.zeroCells (Value.string ⟨#[]⟩).cells n ++ Builtin.zeroCells (Value.string ⟨#[]⟩).cells (G - n)) 9))) := hide (((Below.refl _ _).drew).alloc (by simp) _)
    clear hown hG
    generalize (w.drew.alloc (.cells (Builtin.zeroCells (Value.string ⟨#[]⟩).cells n ++ Builtin.zeroCells (Value.string ⟨#[]⟩).cells (G - n)) 9)) = W1 at *
    go_enter Tryz.func99, Tryz.ntmps99
    go_wp2_with (at_builtin; refine Lib.wpList_append_run _ rfl _ _ _ _ rfl _ _ rfl rfl _ _ (hrz _) ?_)
    go_ret
    exact ⟨_, rfl, HO.out, HBW.out⟩

/-- append of a slice that came in, whatever its address: nil where nothing is appended. -/
theorem wpList_append_strs {w : World} {ops : Array Oper} {rest : List Oper} {o : Oper} {a : Act} {Q : Exit → Act → World → Prop} (hgd : o.guard = none) (s x : Operand)
    (ho : o.op = .call { callee := .builtin .append, args := #[s, x], argTypes := #[22, 22] })
    (base : Nat) (v : Value) (l k : List ByteArray) (hs : a.eval s = v) (hown : Own w base v l)
    (vx : Value) (hx : a.eval x = vx) (hk : Strs w vx k) (h63 : l.length + k.length ≤ 16777300) (hbase : base ≤ w.heap.size)
    (h : ∀ v' w', Own w' base v' (l ++ k) → w.grownBy w' v.ownBlock → wpList Tryz.prog ops Q rest (a.put o.dst v') w') : wpList Tryz.prog ops Q (o :: rest) a w := by
  obtain ⟨iS, hiS, hz0, hz1, hz2⟩ := info_parts infoStr
  obtain ⟨ao, b, off, c, rfl, ha, _, _, hc⟩ := hk
  have hown' : w.ownsRow base 9 1 v l.length (l.map Value.string) := hown
  cases ao with
  | none =>
    have hk0 : k = [] := by
      cases k with
      | nil => rfl
      | cons y k => exact absurd (ha (by simp)) (by simp)
    subst hk0
    refine wpList_plain hgd fun K hK => ?_
    have hrun : (Builtin.append_ #[22, 22] o.type #[v, .slice none 0 c]).run Tryz.prog w = .ok v w := by
      rcases hown'.2 with ⟨rfl, h0⟩ | ⟨g, cap, cur, rfl, _, _, hnc, _⟩
      · simp [Builtin.append_, run_underlying Tryz.underlying22, sizeOf, typeInfo, hiS, Builtin.lenOf, Builtin.firstCells]
      · simp [Builtin.append_, run_underlying Tryz.underlying22, sizeOf, typeInfo, hiS, Builtin.lenOf, Builtin.firstCells, hnc, storeCells]
    have hx' : a.eval x = .slice none 0 c := hx
    unfold Oper.wp
    simp [execOp, ho, resolve, invoke, builtin, hs, hx', hrun, Result.andThen]
    exact hK _ _ (h v w (by rw [List.append_nil]; exact hown) (World.grownBy.refl _ _))
  | some ad =>
    refine wpList_append_own _ hgd s x 22 ho base 9 iS (.string ⟨#[]⟩) 1 16 Tryz.underlying22 hiS hz0 hz1 hz2 rfl (by decide) v l.length (l.map Value.string) hs hown' ad k.length c (k.map Value.string) hx (by simp) (fun j u hu => ?_) (fun u hu => ?_) (by unfold maxLen; omega) (by omega) hbase ?_
    · obtain ⟨hj, rfl⟩ := List.getElem?_eq_some_iff.1 hu
      have hj' : j < k.length := by simpa using hj
      have e := ha (by omega)
      simp only [Option.some.injEq] at e
      subst e
      rw [Addr.add_lit, hc j hj']
      simp [hj']
    · obtain ⟨y, _, rfl⟩ := List.mem_map.1 hu
      rfl
    · intro v' w' h1 h2 _
      refine h v' w' ?_ h2
      unfold Own
      rw [List.length_append, List.map_append]
      exact h1

/-- The slice v is a list of lists of strings. -/
def StrsS (w : World) (v : Value) (ls : List (List ByteArray)) : Prop :=
  ∃ b off cap, v = .slice (some ⟨b, off, none⟩) ls.length cap ∧ ls.length ≤ 16 ∧ ∀ i l, ls[i]? = some l → ∃ vi, w.cell? ⟨b, off + i, none⟩ = some vi ∧ Strs w vi l

theorem flat_take {ls : List (List ByteArray)} {j : Nat} {l : List ByteArray} (h : ls[j]? = some l) : (ls.take (j + 1)).flatten = (ls.take j).flatten ++ l := by
  obtain ⟨hj, rfl⟩ := List.getElem?_eq_some_iff.1 h
  rw [List.take_succ_eq_append_getElem hj, List.flatten_append]; simp
theorem flatl_le (ls : List (List ByteArray)) (j : Nat) : (ls.take j).flatten.length ≤ ls.flatten.length := by
  conv => rhs; rw [← List.take_append_drop j ls]
  rw [List.flatten_append, List.length_append]; omega

set_option maxHeartbeats 2000000 in
set_option maxRecDepth 100000 in
theorem concat_any (w : World) (v : Value) (ls : List (List ByteArray)) (h : StrsS w v ls) (hn : ls.flatten.length ≤ 16777300) :
    Calls Tryz.prog 72 #[v] w fun e w' => ∃ v', e = .returned v' ∧ Own w' w.heap.size v' ls.flatten ∧ Below w.heap.size w w' := by
  obtain ⟨b, off, cap, rfl, hl16, hel⟩ := h
  have HEL := hide hel
  clear hel
  obtain ⟨len, hlen⟩ : ∃ len, len = ls.length := ⟨_, rfl⟩
  have HL := hide hlen
  rw [← hlen] at hl16 ⊢
  clear hlen
  go_enter Tryz.func72, Tryz.ntmps72
  go_wp2
  go_loop [3, 11] (fun o i => ∃ k : Nat, k ≤ len ∧ i = .int .i64 k ∧ o = .int .i64 (ls.take k).flatten.length) (fun _ i => len - (intOf i).toNat)
  case atStart => exact ⟨0, Nat.zero_le _, rfl, rfl⟩
  case round =>
    obtain ⟨k, hk, rfl, rfl⟩ := hrel
    have hacc := Nat.le_trans (flatl_le ls k) hn
    by_cases hlt : k < len
    · obtain ⟨l, hy⟩ : ∃ l, ls[k]? = some l := ⟨_, List.getElem?_eq_getElem (by rw [← HL.out]; exact hlt)⟩
      obtain ⟨vi, g0, hst⟩ := HEL.out k l hy
      obtain ⟨a, cp, rfl, hll⟩ := hst.shape
      have HST : Hid ((ls.take (k + 1)).flatten.length = (ls.take k).flatten.length + l.length) := hide (by rw [flat_take hy, List.length_append])
      have hacc2 := Nat.le_trans (flatl_le ls (k + 1)) hn
      rw [HST.out] at hacc2
      generalize (ls.take k).flatten.length = n0 at *
      generalize l.length = n1 at *
      clear hy hst
      go_wp2
      go_round
      case rel => exact ⟨k + 1, by omega, by go_num, by rw [HST.out]; go_num⟩
      case measure => simp [intOf]; omega
    · have e : ls.take k = ls := List.take_of_length_le (by have := HL.out; omega)
      rw [e] at hacc ⊢
      clear e
      obtain ⟨N, hN⟩ : ∃ N, N = ls.flatten.length := ⟨_, rfl⟩
      have HN := hide hN
      rw [← hN] at hacc ⊢
      clear hN
      go_wp2_with fail
      refine (grow_any w N hacc).mono ?_
      rintro e w1 ⟨v1, rfl, ho1, hb1⟩
      have HO := hide ho1
      have HB := hide hb1
      clear ho1 hb1 hk hlt
      go_wp2
      go_loopw [6, 27] (fun o i wr => ∃ k : Nat, k ≤ len ∧ i = .int .i64 k ∧ Own wr w.heap.size o (ls.take k).flatten ∧ Below w.heap.size w wr) (fun _ i _ => len - (intOf i).toNat)
      case atStart => exact ⟨0, Nat.zero_le _, rfl, HO.out, HB.out⟩
      case round =>
        obtain ⟨k, hk, rfl, hown, hnx⟩ := hrel
        by_cases hlt : k < len
        · obtain ⟨l, hy⟩ : ∃ l, ls[k]? = some l := ⟨_, List.getElem?_eq_getElem (by rw [← HL.out]; exact hlt)⟩
          obtain ⟨vi, g0, hst⟩ := HEL.out k l hy
          have u0 := cellUp g0 hnx
          have HSS := hide (hst.below hnx)
          obtain ⟨a, cp, rfl, hll⟩ := hst.shape
          have HST := hide (flat_take hy)
          have hacc2 := Nat.le_trans (flatl_le ls (k + 1)) hn
          rw [HST.out, List.length_append] at hacc2
          have hbs := hnx.size
          have HOW := hide hown
          have HNX := hide hnx
          clear hy hst g0 hown hnx
          go_wp2_with (first
            | (at_builtin; refine wpList_append_strs rfl _ _ rfl w.heap.size _ _ l rfl HOW.out _ rfl HSS.out (by omega) hbs ?_; intro v' w2 hown2 hgrow2)
            | fail)
          have R2 := hide (HNX.out.grown hgrow2 hbs (fun j hj => (HOW.out.lt j hj).1))
          have HO2 := hide hown2
          clear hgrow2 hown2
          go_roundw
          case rel => exact ⟨k + 1, by omega, by go_num, by rw [HST.out]; exact HO2.out, R2.out⟩
          case measure => simp [intOf]; omega
        · have e : ls.take k = ls := List.take_of_length_le (by have := HL.out; omega)
          rw [e] at hown
          have HO2 := hide hown
          clear hown
          go_wp2
          go_ret
          exact ⟨_, rfl, HO2.out, hnx⟩

namespace Lat
/-- Words with one blank between two. -/
def jn (l : List ByteArray) : ByteArray := ⟨(Lib.join (l.map (·.data.toList)) [32]).toArray⟩
def brk (l : List ByteArray) : ByteArray := (⟨#[40]⟩ : ByteArray) ++ jn l ++ (⟨#[41]⟩ : ByteArray)
end Lat

theorem jn_size (l : List ByteArray) : (Lat.jn l).size = (Lib.join (l.map (·.data.toList)) [32]).length := by
  unfold Lat.jn; rw [← size_list]
theorem brk_size (l : List ByteArray) : (Lat.brk l).size = (Lat.jn l).size + 2 := by
  unfold Lat.brk
  rw [ByteArray.size_append, ByteArray.size_append]
  show 1 + _ + 1 = _
  omega
theorem jn_len (l : List ByteArray) : l.length ≤ (Lat.jn l).size + 1 := by
  rw [jn_size]
  cases l with
  | nil => simp
  | cons y l =>
    rw [List.map_cons, Lib.join_length]
    simp only [List.length_cons, List.length_map, List.length_nil]
    omega

set_option maxHeartbeats 1000000 in
theorem brackets_any (w : World) (v : Value) (ls : List (List ByteArray)) (h : StrsS w v ls) (hn : (Lat.brk ls.flatten).size ≤ 16777216) :
    Calls Tryz.prog 42 #[v] w fun e w' => e = .returned (.string (Lat.brk ls.flatten)) ∧ Below w.heap.size w w' := by
  have HS := hide h
  obtain ⟨b, off, cap, rfl, _, _⟩ := h
  generalize ls.length = len at *
  have hj := jn_len ls.flatten
  have hjs := jn_size ls.flatten
  rw [brk_size] at hn
  have HE : Hid (Lat.brk ls.flatten = (⟨#[40]⟩ : ByteArray) ++ Lat.jn ls.flatten ++ (⟨#[41]⟩ : ByteArray)) := rfl
  go_enter Tryz.func42, Tryz.ntmps42
  go_wp2_with fail
  refine (concat_any w _ ls HS.out (by omega)).mono ?_
  rintro e w1 ⟨v1, rfl, ho1, hb1⟩
  have HB := hide hb1
  clear hb1
  have hjoin : ∀ W, W = w1 → Calls Tryz.prog 71 #[v1, .string ⟨#[32]⟩] W fun e w' => e = .returned (.string (Lat.jn ls.flatten)) ∧ Below W.heap.size W w' := by
    rintro W rfl
    rcases ho1.shape with ⟨rfl, hnil⟩ | ⟨g, cap1, rfl, hc, hg⟩
    · rw [hnil]
      exact (Tryz.strings_Join_none none 0 ⟨#[32]⟩ W).mono fun e w' ⟨he, hw⟩ => ⟨he, hw ▸ Below.refl _ _⟩
    · refine (Tryz.strings_Join g 0 cap1 ls.flatten ⟨#[32]⟩ W (fun j y hy => ?_) hg (by omega) hc ?_).mono fun e w' ⟨he, hw⟩ => ⟨he, hw⟩
      · obtain ⟨hj', rfl⟩ := List.getElem?_eq_some_iff.1 hy
        have := World.ownsRow.cellAt ho1 j (by omega)
        rw [Nat.zero_add, this, List.getElem?_map, List.getElem?_eq_getElem hj']; rfl
      · have : (Lib.join (ls.flatten.map (·.data.toList)) (⟨#[32]⟩ : ByteArray).data.toList).length = (Lat.jn ls.flatten).size := hjs.symm
        omega
  have HJ := hide hjoin
  clear hjoin ho1 hj hjs
  generalize Lat.jn ls.flatten = t at *
  go_wp2_with fail
  refine (HJ.out _ rfl).mono ?_
  rintro e w2 ⟨rfl, hb2⟩
  have HB2 := hide (up HB.out hb2)
  clear hb2
  go_wp2_with fail
  go_ret
  exact ⟨ret_str HE.out.symm, HB2.out⟩

end Go.Proofs.YtbncnkfogkhoeabGreatDoor

/- Walks over package downref: bodyText answers the text of commands. -/
namespace Go.Proofs.YtbncnkfogkhoeabGreatDoor
open Go.RowKit

namespace Lat
/-- A command's text, behind what there is. -/
def stT (et : Ex → ByteArray) (bt : List St → ByteArray) (s : St) (acc : ByteArray) : ByteArray :=
  if s.kind = 1 then acc ++ ((⟨#[40, 115, 101, 116, 32]⟩ : ByteArray) ++ s.name ++ (⟨#[32]⟩ : ByteArray) ++ et s.e ++ (⟨#[41]⟩ : ByteArray))
  else if s.kind = 4 then acc ++ ((⟨#[40, 112, 114, 105, 110, 116, 32]⟩ : ByteArray) ++ s.name ++ (⟨#[32]⟩ : ByteArray) ++ et s.e ++ (⟨#[41]⟩ : ByteArray))
  else if s.kind = 3 then acc ++ ((⟨#[40, 119, 104, 105, 108, 101, 32]⟩ : ByteArray) ++ et s.e ++ (⟨#[32, 40]⟩ : ByteArray) ++ bt s.a ++ (⟨#[41, 41]⟩ : ByteArray))
  else if s.kind = 2 then acc ++ ((⟨#[40, 105, 102, 32]⟩ : ByteArray) ++ et s.e ++ (⟨#[32, 40]⟩ : ByteArray) ++ bt s.a ++ (⟨#[41, 32, 40]⟩ : ByteArray) ++ bt s.b ++ (⟨#[41, 41]⟩ : ByteArray))
  else acc
/-- The text of the first j commands. -/
def bdTo (et : Ex → ByteArray) (bt : List St → ByteArray) (l : List St) : Nat → ByteArray
  | 0 => ⟨#[]⟩
  | j + 1 => match l[j]? with
    | some s => stT et bt s (if 0 < j then bdTo et bt l j ++ (⟨#[32]⟩ : ByteArray) else bdTo et bt l j)
    | none => bdTo et bt l j
def bdT : Nat → List St → ByteArray
  | 0, _ => ⟨#[]⟩
  | m + 1, l => bdTo (exT m) (bdT m) l l.length
end Lat

theorem bdTo_succ {et : Ex → ByteArray} {bt : List St → ByteArray} {l : List St} {j : Nat} {s : St} (h : l[j]? = some s) :
    Lat.bdTo et bt l (j + 1) = Lat.stT et bt s (if 0 < j then Lat.bdTo et bt l j ++ (⟨#[32]⟩ : ByteArray) else Lat.bdTo et bt l j) := by
  simp only [Lat.bdTo, h]

theorem stT_size (et : Ex → ByteArray) (bt : List St → ByteArray) (s : St) (acc : ByteArray) : acc.size ≤ (Lat.stT et bt s acc).size ∧ (Lat.stT et bt s acc).size ≤ acc.size + s.name.size + (et s.e).size + (bt s.a).size + (bt s.b).size + 11 := by
  have z0 : (⟨#[40, 115, 101, 116, 32]⟩ : ByteArray).size = 5 := rfl
  have z1 : (⟨#[40, 112, 114, 105, 110, 116, 32]⟩ : ByteArray).size = 7 := rfl
  have z2 : (⟨#[40, 119, 104, 105, 108, 101, 32]⟩ : ByteArray).size = 7 := rfl
  have z3 : (⟨#[40, 105, 102, 32]⟩ : ByteArray).size = 4 := rfl
  have z4 : (⟨#[32, 40]⟩ : ByteArray).size = 2 := rfl
  have z5 : (⟨#[41, 41]⟩ : ByteArray).size = 2 := rfl
  have z6 : (⟨#[41, 32, 40]⟩ : ByteArray).size = 3 := rfl
  have z7 : (⟨#[32]⟩ : ByteArray).size = 1 := rfl
  have z8 : (⟨#[41]⟩ : ByteArray).size = 1 := rfl
  unfold Lat.stT
  repeat' split
  all_goals (try simp only [ByteArray.size_append, z0, z1, z2, z3, z4, z5, z6, z7, z8])
  all_goals omega

/-- What one command weighs. -/
def stW (m : Nat) (s : St) : Nat := s.name.size + 3 + exW m s.e + stsW m s.a + stsW m s.b
theorem stsW_succ (m : Nat) (l : List St) : stsW (m + 1) l = (l.map (stW m)).sum + 1 := rfl

theorem sum_take_succ {f : St → Nat} {l : List St} {j : Nat} {s : St} (h : l[j]? = some s) : ((l.take (j + 1)).map f).sum = ((l.take j).map f).sum + f s := by
  obtain ⟨hj, rfl⟩ := List.getElem?_eq_some_iff.1 h
  rw [List.take_succ_eq_append_getElem hj, List.map_append, List.sum_append]; simp
theorem sum_take_le {f : St → Nat} (l : List St) (j : Nat) : ((l.take j).map f).sum ≤ (l.map f).sum := by
  conv => rhs; rw [← List.take_append_drop j l]
  rw [List.map_append, List.sum_append]; omega

theorem bdTo_size {m : Nat} {l : List St} (h : ∀ (i : Nat) (s : St), l[i]? = some s → (Lat.exT m s.e).size + 1 ≤ 6 * exW m s.e ∧ (Lat.bdT m s.a).size + 1 ≤ 6 * stsW m s.a ∧ (Lat.bdT m s.b).size + 1 ≤ 6 * stsW m s.b) :
    ∀ j, j ≤ l.length → (Lat.bdTo (Lat.exT m) (Lat.bdT m) l j).size ≤ 6 * ((l.take j).map (stW m)).sum
  | 0, _ => Nat.zero_le _
  | j + 1, hj => by
    have ih := bdTo_size h j (by omega)
    obtain ⟨s, hs⟩ : ∃ s, l[j]? = some s := ⟨_, List.getElem?_eq_getElem (by omega)⟩
    rw [bdTo_succ hs, sum_take_succ hs]
    have h1 := (stT_size (Lat.exT m) (Lat.bdT m) s (if 0 < j then Lat.bdTo (Lat.exT m) (Lat.bdT m) l j ++ (⟨#[32]⟩ : ByteArray) else Lat.bdTo (Lat.exT m) (Lat.bdT m) l j)).2
    have h2 : (if 0 < j then Lat.bdTo (Lat.exT m) (Lat.bdT m) l j ++ (⟨#[32]⟩ : ByteArray) else Lat.bdTo (Lat.exT m) (Lat.bdT m) l j).size ≤ (Lat.bdTo (Lat.exT m) (Lat.bdT m) l j).size + 1 := by
      split
      · rw [ByteArray.size_append]; exact Nat.le_refl _
      · omega
    obtain ⟨g1, g2, g3⟩ := h j s hs
    have hst : stW m s = s.name.size + 3 + exW m s.e + stsW m s.a + stsW m s.b := rfl
    omega

theorem bdT_size {w : World} : ∀ {m : Nat} {v : Value} {l : List St}, StsAt w m v l → (Lat.bdT m l).size + 1 ≤ 6 * stsW m l
  | 0, _, _, h => False.elim h
  | m + 1, v, l, h => by
    obtain ⟨a, b, off, cap, _, _, _, h9⟩ := h
    have := bdTo_size (m := m) (l := l) (fun i s hs => by
      obtain ⟨_, _, e0, e1, e2, e3, va, vb, _, _, _, _, _, _, _, _, hx, ha, hb⟩ := h9 i s hs
      exact ⟨exT_size hx, bdT_size ha, bdT_size hb⟩) l.length (Nat.le_refl _)
    rw [List.take_length] at this
    rw [stsW_succ]
    simp only [Lat.bdT]
    omega

end Go.Proofs.YtbncnkfogkhoeabGreatDoor

/- The text of a module, as plain data, and how long it is. -/
namespace Go.Proofs.YtbncnkfogkhoeabGreatDoor
open Go.RowKit

namespace Lat
def impT (acc s : ByteArray) : ByteArray := acc ++ ((⟨#[32, 40, 105, 109, 112, 111, 114, 116, 32]⟩ : ByteArray) ++ s ++ (⟨#[41]⟩ : ByteArray))
def vaT (acc : ByteArray) (v : Va) : ByteArray := acc ++ ((⟨#[32, 40, 118, 97, 114, 32]⟩ : ByteArray) ++ v.name ++ (⟨#[32]⟩ : ByteArray) ++ v.level ++ (⟨#[41]⟩ : ByteArray))
def parTo (l : List ByteArray) (acc : ByteArray) : Nat → ByteArray
  | 0 => acc
  | j + 1 => (if 0 < j then parTo l acc j ++ (⟨#[32]⟩ : ByteArray) else parTo l acc j) ++ l.getD j ByteArray.empty
def fuH (acc : ByteArray) (f : Fu) : ByteArray := acc ++ ((⟨#[32, 40, 102, 117, 110, 32]⟩ : ByteArray) ++ f.name ++ (⟨#[32, 40]⟩ : ByteArray))
def fuP (acc : ByteArray) (f : Fu) : ByteArray := parTo f.params (fuH acc f) f.params.length ++ (⟨#[41]⟩ : ByteArray)
def fuB (m : Nat) (acc : ByteArray) (f : Fu) : ByteArray := if 0 < f.body.length then fuP acc f ++ ((⟨#[32]⟩ : ByteArray) ++ bdT m f.body) else fuP acc f
def fuT (m : Nat) (acc : ByteArray) (f : Fu) : ByteArray := fuB m acc f ++ ((⟨#[32]⟩ : ByteArray) ++ exT m f.result ++ (⟨#[41]⟩ : ByteArray))
def moH (x : Mo) : ByteArray := (⟨#[40, 109, 111, 100, 117, 108, 101, 32]⟩ : ByteArray) ++ x.name
def moI (x : Mo) : ByteArray := x.imports.foldl impT (moH x)
def moV (x : Mo) : ByteArray := x.vars.foldl vaT (moI x)
def moF (m : Nat) (x : Mo) : ByteArray := x.funs.foldl (fuT m) (moV x)
/-- The text of a module. -/
def moT (m : Nat) (x : Mo) : ByteArray := moF m x ++ (⟨#[41]⟩ : ByteArray)
end Lat

section
variable {α : Type} {f : ByteArray → α → ByteArray} {wt : α → Nat}
theorem foldg_take {l : List α} {j : Nat} {y : α} (h : l[j]? = some y) (acc : ByteArray) : (l.take (j + 1)).foldl f acc = f ((l.take j).foldl f acc) y := by
  obtain ⟨hj, rfl⟩ := List.getElem?_eq_some_iff.1 h
  rw [List.take_succ_eq_append_getElem hj, List.foldl_append]; rfl
theorem sumg_take (l : List α) (j : Nat) : ((l.take j).map wt).sum ≤ (l.map wt).sum := by
  conv => rhs; rw [← List.take_append_drop j l]
  rw [List.map_append, List.sum_append]; omega
theorem foldg_size {l : List α} (h : ∀ (i : Nat) (y : α), l[i]? = some y → ∀ acc, (f acc y).size ≤ acc.size + 12 * wt y) (acc : ByteArray) :
    ∀ j, j ≤ l.length → ((l.take j).foldl f acc).size ≤ acc.size + 12 * ((l.take j).map wt).sum
  | 0, _ => by simp
  | j + 1, hj => by
    have ih := foldg_size h acc j (by omega)
    obtain ⟨y, hy⟩ : ∃ y, l[j]? = some y := ⟨_, List.getElem?_eq_getElem (by omega)⟩
    rw [foldg_take hy]
    have h1 := h j y hy ((l.take j).foldl f acc)
    have h2 : ((l.take (j + 1)).map wt).sum = ((l.take j).map wt).sum + wt y := by
      obtain ⟨hj', rfl⟩ := List.getElem?_eq_some_iff.1 hy
      rw [List.take_succ_eq_append_getElem hj', List.map_append, List.sum_append]; simp
    omega
theorem foldg_all {l : List α} (h : ∀ (i : Nat) (y : α), l[i]? = some y → ∀ acc, (f acc y).size ≤ acc.size + 12 * wt y) (acc : ByteArray) (j : Nat) (hj : j ≤ l.length) :
    ((l.take j).foldl f acc).size ≤ acc.size + 12 * (l.map wt).sum := by
  have h1 := foldg_size h acc j hj
  have h2 := sumg_take (wt := wt) l j
  omega
end

theorem impT_size (acc s : ByteArray) : (Lat.impT acc s).size ≤ acc.size + 12 * (s.size + 1) := by
  unfold Lat.impT
  simp only [ByteArray.size_append]
  show acc.size + (9 + s.size + 1) ≤ _
  omega
theorem vaT_size (acc : ByteArray) (s : Va) : (Lat.vaT acc s).size ≤ acc.size + 12 * (s.name.size + s.level.size + 3) := by
  unfold Lat.vaT
  simp only [ByteArray.size_append]
  show acc.size + (6 + s.name.size + 1 + s.level.size + 1) ≤ _
  omega
theorem getD_size (l : List ByteArray) (j : Nat) : (l.getD j ByteArray.empty).size ≤ (l.map fun s => s.size + 1).sum := by
  by_cases h : j < l.length
  · have e : l.getD j ByteArray.empty = l[j] := by simp [h]
    rw [e]
    have := mem_le_sum (f := fun s : ByteArray => s.size + 1) (List.getElem_mem h)
    omega
  · have e : l.getD j ByteArray.empty = ByteArray.empty := by simp [List.getD, List.getElem?_eq_none (Nat.le_of_not_lt h)]
    rw [e]; exact Nat.zero_le _
theorem parTo_size (l : List ByteArray) (acc : ByteArray) : ∀ j, j ≤ l.length → (Lat.parTo l acc j).size ≤ acc.size + ((l.take j).map fun s => s.size + 1).sum
  | 0, _ => by simp [Lat.parTo]
  | j + 1, hj => by
    have ih := parTo_size l acc j (by omega)
    have h2 : ((l.take (j + 1)).map fun s => s.size + 1).sum = ((l.take j).map fun s => s.size + 1).sum + ((l.getD j ByteArray.empty).size + 1) := by
      rw [List.take_succ_eq_append_getElem (by omega), List.map_append, List.sum_append]
      simp [show j < l.length by omega]
    have e1 : (⟨#[32]⟩ : ByteArray).size = 1 := rfl
    simp only [Lat.parTo]
    split <;> simp only [ByteArray.size_append, e1] <;> omega
theorem parTo_all (l : List ByteArray) (acc : ByteArray) (j : Nat) (hj : j ≤ l.length) : (Lat.parTo l acc j).size ≤ acc.size + (l.map fun s => s.size + 1).sum := by
  have h1 := parTo_size l acc j hj
  have h2 := sumg_take (wt := fun s : ByteArray => s.size + 1) l j
  omega
/-- What one function weighs. -/
def fuW (m : Nat) (s : Fu) : Nat := s.name.size + 2 + strsW s.params + stsW m s.body + exW m s.result
theorem fusW_eq (m : Nat) (l : List Fu) : fusW m l = (l.map (fuW m)).sum + 1 := rfl
theorem fuH_size (acc : ByteArray) (f : Fu) : (Lat.fuH acc f).size = acc.size + (f.name.size + 8) := by
  unfold Lat.fuH
  simp only [ByteArray.size_append]
  show acc.size + (6 + f.name.size + 2) = _
  omega
theorem fuP_size (acc : ByteArray) (f : Fu) : (Lat.fuP acc f).size ≤ acc.size + (f.name.size + 8 + strsW f.params) := by
  unfold Lat.fuP
  have h := parTo_all f.params (Lat.fuH acc f) f.params.length (Nat.le_refl _)
  rw [fuH_size] at h
  rw [ByteArray.size_append]
  show _ + 1 ≤ _
  unfold strsW
  omega
theorem fuT_size {w : World} {m : Nat} {f : Fu} {vb e0 e1 e2 e3 : Value} (hb : StsAt w m vb f.body) (hx : ExAt w m e0 e1 e2 e3 f.result) (acc : ByteArray) : (Lat.fuT m acc f).size ≤ acc.size + 12 * fuW m f := by
  have h1 := fuP_size acc f
  have h2 := bdT_size hb
  have h3 := exT_size hx
  have e1 : (⟨#[32]⟩ : ByteArray).size = 1 := rfl
  have e2 : (⟨#[41]⟩ : ByteArray).size = 1 := rfl
  unfold Lat.fuT Lat.fuB fuW
  split <;> simp only [ByteArray.size_append, e1, e2] <;> omega
theorem moH_size (x : Mo) : (Lat.moH x).size = 8 + x.name.size := by
  unfold Lat.moH; rw [ByteArray.size_append]; rfl

theorem boxM0 (w : World) (c0 c1 c2 c3 : Value) (t : TypeId) : (w.alloc (.cells #[c0, c1, c2, c3] t)).cell? ⟨w.heap.size, 0, none⟩ = some c0 := by simp [go_sem]
theorem boxM1 (w : World) (c0 c1 c2 c3 : Value) (t : TypeId) : (w.alloc (.cells #[c0, c1, c2, c3] t)).cell? ⟨w.heap.size, 1, none⟩ = some c1 := by simp [go_sem]
theorem boxM2 (w : World) (c0 c1 c2 c3 : Value) (t : TypeId) : (w.alloc (.cells #[c0, c1, c2, c3] t)).cell? ⟨w.heap.size, 2, none⟩ = some c2 := by simp [go_sem]
theorem boxM3 (w : World) (c0 c1 c2 c3 : Value) (t : TypeId) : (w.alloc (.cells #[c0, c1, c2, c3] t)).cell? ⟨w.heap.size, 3, none⟩ = some c3 := by simp [go_sem]

end Go.Proofs.YtbncnkfogkhoeabGreatDoor

/- Walks over package downref: Text answers the text of a module. -/
namespace Go.Proofs.YtbncnkfogkhoeabGreatDoor
open Go.RowKit

theorem boxF0 (w : World) (c0 c1 c2 c3 c4 c5 c6 : Value) (t : TypeId) : (w.alloc (.cells #[c0, c1, c2, c3, c4, c5, c6] t)).cell? ⟨w.heap.size, 0, none⟩ = some c0 := by simp [go_sem]
theorem boxF1 (w : World) (c0 c1 c2 c3 c4 c5 c6 : Value) (t : TypeId) : (w.alloc (.cells #[c0, c1, c2, c3, c4, c5, c6] t)).cell? ⟨w.heap.size, 1, none⟩ = some c1 := by simp [go_sem]
theorem boxF2 (w : World) (c0 c1 c2 c3 c4 c5 c6 : Value) (t : TypeId) : (w.alloc (.cells #[c0, c1, c2, c3, c4, c5, c6] t)).cell? ⟨w.heap.size, 2, none⟩ = some c2 := by simp [go_sem]
theorem boxF3 (w : World) (c0 c1 c2 c3 c4 c5 c6 : Value) (t : TypeId) : (w.alloc (.cells #[c0, c1, c2, c3, c4, c5, c6] t)).cell? ⟨w.heap.size, 3, none⟩ = some c3 := by simp [go_sem]
theorem boxF4 (w : World) (c0 c1 c2 c3 c4 c5 c6 : Value) (t : TypeId) : (w.alloc (.cells #[c0, c1, c2, c3, c4, c5, c6] t)).cell? ⟨w.heap.size, 4, none⟩ = some c4 := by simp [go_sem]
theorem boxF5 (w : World) (c0 c1 c2 c3 c4 c5 c6 : Value) (t : TypeId) : (w.alloc (.cells #[c0, c1, c2, c3, c4, c5, c6] t)).cell? ⟨w.heap.size, 5, none⟩ = some c5 := by simp [go_sem]
theorem boxF6 (w : World) (c0 c1 c2 c3 c4 c5 c6 : Value) (t : TypeId) : (w.alloc (.cells #[c0, c1, c2, c3, c4, c5, c6] t)).cell? ⟨w.heap.size, 6, none⟩ = some c6 := by simp [go_sem]

theorem parTo_succ (l : List ByteArray) (acc : ByteArray) (j : Nat) : Lat.parTo l acc (j + 1) = (if 0 < j then Lat.parTo l acc j ++ (⟨#[32]⟩ : ByteArray) else Lat.parTo l acc j) ++ l.getD j ByteArray.empty := rfl
theorem take_all {α : Type} {f : ByteArray → α → ByteArray} {l : List α} {acc : ByteArray} {n j : Nat} (h : n = l.length) (e : j = n) : (l.take j).foldl f acc = l.foldl f acc := by
  rw [List.take_of_length_le (by omega)]

end Go.Proofs.YtbncnkfogkhoeabGreatDoor
