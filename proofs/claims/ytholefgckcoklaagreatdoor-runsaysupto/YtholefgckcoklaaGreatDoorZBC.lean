/- Walks over the library: strings that are sorted, and of which each stands once: the plain side. -/
import Derived.Test.YtholefgckcoklaaGreatDoorZBA
import Derived.Test.YtholefgckcoklaaGreatDoorZAF
import Derived.Laws.CopyRow
import Derived.Laws.Tables
import Derived.Laws.Entries
namespace Go.Proofs.YtholefgckcoklaaGreatDoor
open Go.RowKit Go.Shelf
namespace Rn
theorem sameB_iff {a b : ByteArray} : Nm.sameB a b = true ↔ a = b := by
  unfold Nm.sameB
  rw [beq_iff_eq]
  constructor
  · intro h
    rw [ByteArray.toList_eq, ByteArray.toList_eq] at h
    cases a
    cases b
    simp only [ByteArray.mk.injEq]
    exact Array.toList_inj.1 h
  · intro h; rw [h]
def cstS (acc : List ByteArray) (x : ByteArray) : List ByteArray := match acc.getLast? with
  | some y => if Nm.sameB x y then acc else acc ++ [x]
  | none => acc ++ [x]
def cptS (l : List ByteArray) : List ByteArray := l.foldl cstS []
theorem cstS_last (acc : List ByteArray) (x : ByteArray) : (cstS acc x).getLast? = some x := by
  unfold cstS
  split
  · rename_i y h
    split
    · rename_i hs; rw [sameB_iff] at hs; subst hs; exact h
    · simp
  · simp
theorem cptS_snoc (l : List ByteArray) (x : ByteArray) : cptS (l ++ [x]) = cstS (cptS l) x := by unfold cptS; simp
theorem cptS_take {l : List ByteArray} {j : Nat} {x : ByteArray} (h : l[j]? = some x) : cptS (l.take (j + 1)) = cstS (cptS (l.take j)) x := by
  rw [List.take_add_one, h]; exact cptS_snoc _ _
theorem cptS_last {l : List ByteArray} {j : Nat} {x : ByteArray} (h : l[j]? = some x) : (cptS (l.take (j + 1))).getLast? = some x := by
  rw [cptS_take h]; exact cstS_last _ _
theorem cptS_next {l : List ByteArray} {j : Nat} {x y : ByteArray} (h : l[j]? = some y) (h' : l[j + 1]? = some x) : cptS (l.take (j + 1 + 1)) = if Nm.sameB x y then cptS (l.take (j + 1)) else cptS (l.take (j + 1)) ++ [x] := by
  rw [cptS_take h']
  have := cptS_last h
  unfold cstS
  rw [this]
theorem cptS_len (l : List ByteArray) : (cptS l).length ≤ l.length := by
  have h : ∀ (l acc : List ByteArray), (l.foldl cstS acc).length ≤ acc.length + l.length := by
    intro l
    induction l with
    | nil => intro acc; simp
    | cons x r ih =>
      intro acc
      have h1 := ih (cstS acc x)
      have h2 : (cstS acc x).length ≤ acc.length + 1 := by
        unfold cstS
        split
        · split <;> simp
        · simp
      simp only [List.foldl_cons, List.length_cons]
      omega
  simpa [cptS] using h l []
theorem cstS_mem (acc : List ByteArray) (x z : ByteArray) : z ∈ cstS acc x ↔ z ∈ acc ∨ z = x := by
  unfold cstS
  split
  · rename_i y h
    split
    · rename_i hs
      rw [sameB_iff] at hs
      subst hs
      have hm : x ∈ acc := List.mem_of_getLast? h
      exact ⟨Or.inl, fun hx => hx.elim id (fun e => e ▸ hm)⟩
    · simp
  · simp
theorem cptS_mem (l : List ByteArray) (z : ByteArray) : z ∈ cptS l ↔ z ∈ l := by
  have h : ∀ (l acc : List ByteArray), z ∈ l.foldl cstS acc ↔ z ∈ acc ∨ z ∈ l := by
    intro l
    induction l with
    | nil => intro acc; simp
    | cons x r ih =>
      intro acc
      rw [List.foldl_cons, ih, cstS_mem, List.mem_cons, or_assoc]
  simpa [cptS] using h l []
theorem cptS_self {l : List ByteArray} (h : ∀ (j : Nat) x y, l[j]? = some y → l[j + 1]? = some x → Nm.sameB x y = false) : ∀ j, j ≤ l.length → cptS (l.take j) = l.take j := by
  intro j
  induction j with
  | zero => intro _; rfl
  | succ j ih =>
    intro hj
    cases j with
    | zero =>
      have hx : l[0]? = some l[0] := List.getElem?_eq_getElem (by omega)
      rw [cptS_take hx]
      simp [cptS, cstS, List.take_add_one, hx]
    | succ j =>
      have hy : l[j]? = some l[j] := List.getElem?_eq_getElem (by omega)
      have hx : l[j + 1]? = some l[j + 1] := List.getElem?_eq_getElem (by omega)
      rw [cptS_next hy hx, h j _ _ hy hx, ih (by omega)]
      rw [List.take_add_one (i := j + 1), hx]
      simp
def srtS (l : List ByteArray) : List ByteArray := ((l.map (·.data.toList)).mergeSort fun x y => decide (x ≤ y)).map fun b => ⟨b.toArray⟩
theorem srtS_mem (l : List ByteArray) (z : ByteArray) : z ∈ srtS l ↔ z ∈ l := by
  unfold srtS
  rw [List.mem_map]
  constructor
  · rintro ⟨b, hb, rfl⟩
    rw [List.mem_mergeSort, List.mem_map] at hb
    obtain ⟨a, ha, rfl⟩ := hb
    have : (⟨a.data.toList.toArray⟩ : ByteArray) = a := by cases a; simp
    rw [this]; exact ha
  · intro h
    refine ⟨z.data.toList, by rw [List.mem_mergeSort, List.mem_map]; exact ⟨z, h, rfl⟩, ?_⟩
    cases z
    simp
theorem srtS_len (l : List ByteArray) : (srtS l).length = l.length := by unfold srtS; rw [List.length_map, List.length_mergeSort, List.length_map]
end Rn
theorem But.row {g : Nat} {w w1 : World} {cs : Array Value} (h : But g w w1) : But g w (w1.setRow g cs) :=
  ⟨h.os, h.tape, h.output, by rw [setRow_size]; exact h.size, fun k hk hp => by rw [setRow_other _ _ _ _ hp]; exact h.block k hk hp⟩
def RowS (w : World) (g : Nat) (l : List ByteArray) : Prop :=
  ∃ cur, w.heap[g]? = some (.cells cur 9 (0, 0)) ∧ l.length ≤ cur.size ∧ ∀ (i : Nat) d, l[i]? = some d → cur[i]? = some (.string d)
theorem RowS.cell {w : World} {g : Nat} {l : List ByteArray} (h : RowS w g l) {i : Nat} {d : ByteArray} (hd : l[i]? = some d) : w.cell? ⟨g, i, none⟩ = some (.string d) := by
  obtain ⟨cur, hc, _, hel⟩ := h
  exact (block_at hc _).trans (hel i d hd)
theorem RowS.below {w w' : World} {g : Nat} {l : List ByteArray} (h : RowS w g l) (hb : Below w.heap.size w w') : RowS w' g l := by
  obtain ⟨cur, hc, h1, h2⟩ := h
  exact ⟨cur, by rw [hb.block g (block_lt hc)]; exact hc, h1, h2⟩
theorem RowS.drew {w : World} {g n : Nat} {l : List ByteArray} (h : RowS w g l) : RowS (w.drewN n) g l := h
theorem RowS.set {w : World} {g k : Nat} {l : List ByteArray} (h : RowS w g l) (hk : k < l.length) (d : ByteArray) : RowS (w.setCell ⟨g, k, none⟩ (.string d)) g (l.set k d) := by
  obtain ⟨cur, hc, hs, hel⟩ := h
  have h0 := block_set hc k (.string d)
  refine ⟨_, h0, by simpa using hs, fun i x hx => ?_⟩
  rw [List.getElem?_set] at hx
  by_cases e : k = i
  · subst e
    simp [hk] at hx
    subst hx
    simp [Array.getElem?_setIfInBounds]; omega
  · rw [if_neg e] at hx
    rw [Array.getElem?_setIfInBounds_ne (by omega)]; exact hel i x hx
theorem clear_runS {w : World} {g k n c : Nat} {cur : Array Value} (hc : w.heap[g]? = some (.cells cur 9 (0, 0))) (hn : 0 < n) (hs : k + n ≤ cur.size) (ty : TypeId) :
    (Builtin.clear_ #[22] ty #[.slice (some ⟨g, k, none⟩) n c]).run Tryz.prog w = .ok (.tuple #[]) (w.setRow g (cur.toList.take k ++ (Builtin.zeroCells (Value.string ⟨#[]⟩).cells n).toList ++ cur.toList.drop (k + (Builtin.zeroCells (Value.string ⟨#[]⟩).cells n).toList.length)).toArray) := by
  have hz : (Builtin.zeroCells (Value.string ⟨#[]⟩).cells n).toList.length = n := by simp [Builtin.zeroCells, Value.cells]
  have h1 : ∀ v ∈ (Builtin.zeroCells (Value.string ⟨#[]⟩).cells n).toList, v.oneCell' = true := by
    intro v hv
    simp [Builtin.zeroCells, Value.cells] at hv
    obtain ⟨a, ha, rfl⟩ := hv
    rw [Nat.mod_one]
    rfl
  have hst := run_storeCells_at Tryz.prog g k 9 (Builtin.zeroCells (Value.string ⟨#[]⟩).cells n).toList 0 cur w hc (by rw [hz]; omega) h1
  obtain ⟨m, rfl⟩ : ∃ m, n = m + 1 := ⟨n - 1, by omega⟩
  simp only [Nat.add_zero] at hst
  simp [Builtin.clear_, run_underlying Tryz.underlying22, hst]
theorem RowS.clear {w : World} {g k : Nat} {l : List ByteArray} {zs : List Value} {cur : Array Value} (h : RowS w g l) (hc : w.heap[g]? = some (.cells cur 9 (0, 0))) (hk : k ≤ l.length) (m : Nat) :
    RowS (w.setRow g (cur.toList.take k ++ zs ++ cur.toList.drop m).toArray) g (l.take k) := by
  obtain ⟨cur', hc', hs, hel⟩ := h
  rw [hc] at hc'
  simp at hc'
  subst hc'
  have hkl : (l.take k).length = k := by rw [List.length_take]; omega
  refine ⟨_, setRow_heap w g cur _ 9 (0, 0) hc, ?_, fun i d hd => ?_⟩
  · rw [hkl]; simp; omega
  · have hik : i < k := by have := (List.getElem?_eq_some_iff.1 hd).1; omega
    rw [List.getElem?_take_of_lt hik] at hd
    have a0 := hel i d hd
    rw [List.getElem?_toArray, List.append_assoc, List.getElem?_append_left (by simp; omega), List.getElem?_take_of_lt hik]
    simpa using a0
theorem row_atS {l : List ByteArray} {c K : Nat} {C : List ByteArray} (hc : c = C.length) (hK : c ≤ K) : (C ++ l.drop c)[K]? = l[K]? := by
  subst hc
  rw [List.getElem?_append_right hK, List.getElem?_drop]
  congr 1; omega
theorem row_setS {l : List ByteArray} {c : Nat} {C : List ByteArray} (hc : c = C.length) (hl : c < l.length) (x : ByteArray) : (C ++ l.drop c).set c x = (C ++ [x]) ++ l.drop (c + 1) := by
  subst hc
  rw [List.set_append_right _ _ (Nat.le_refl _), Nat.sub_self, List.drop_eq_getElem_cons hl, List.set_cons_zero]
  simp
end Go.Proofs.YtholefgckcoklaaGreatDoor
namespace Go.Proofs.YtholefgckcoklaaGreatDoor
open Go.RowKit
set_option maxHeartbeats 4000000 in
set_option maxRecDepth 100000 in
theorem compactS_any (w : World) (g len cap : Nat) (l : List ByteArray) (h : RowS w g l) (hlen : len = l.length) (hcap : len ≤ cap) (hl : len ≤ 16777216) :
    Calls Tryz.prog 148 #[.slice (some ⟨g, 0, none⟩) len cap] w fun e w' => ∃ c', e = .returned (.slice (some ⟨g, 0, none⟩) (Rn.cptS l).length c') ∧ RowS w' g (Rn.cptS l) ∧ But g w w' := by
  have HL := hide hlen
  have HR := hide h
  clear hlen h
  by_cases h2 : len < 2
  · have HE : Hid (Rn.cptS l = l) := hide (by
      have hl' := HL.out
      match l, hl' with
      | [], _ => rfl
      | [x], _ => rfl
      | x :: y :: r, h => simp at h; omega)
    go_enter Tryz.func148, Tryz.ntmps148
    go_wp2_with fail
    go_ret
    exact ⟨_, by rw [HE.out, ← HL.out]; rfl, by rw [HE.out]; exact HR.out, But.refl _ _⟩
  · go_enter Tryz.func148, Tryz.ntmps148
    go_wp2_with fail
    go_loopw [3] (fun i wr => ∃ j : Nat, j + 1 ≤ len ∧ i = .int .i64 ((j : Int) + 1) ∧ (∀ (q : Nat) x y, q < j → l[q]? = some y → l[q + 1]? = some x → Nm.sameB x y = false) ∧ RowS wr g l ∧ But g w wr) (fun i _ => len - (intOf i).toNat)
    case atStart => exact ⟨0, by omega, rfl, fun q x y hq => absurd hq (Nat.not_lt_zero _), HR.out, But.refl _ _⟩
    case round =>
      obtain ⟨j, hj, rfl, hall, hrow, hnx⟩ := hrel
      have HALL := hide hall
      have HROW := hide hrow
      have HNX := hide hnx
      clear hall hnx
      by_cases hjl : j + 1 < len
      · obtain ⟨y, hy⟩ : ∃ y, l[j]? = some y := ⟨_, List.getElem?_eq_getElem (by rw [← HL.out]; omega)⟩
        obtain ⟨x, hx⟩ : ∃ y, l[j + 1]? = some y := ⟨_, List.getElem?_eq_getElem (by rw [← HL.out]; omega)⟩
        have p0 := hrow.cell hx
        have k0 := hrow.cell hy
        have HX := hide hx
        have HY := hide hy
        have hlt : decide ((j : Int) + 1 < (len : Int)) = true := by simp; omega
        clear hx hy hrow
        cases hsm : Nm.sameB x y
        · have heq : (x.toList == y.toList) = false := hsm
          have HSM := hide hsm
          clear hsm
          go_wp2_with fail
          go_quiet (fail)
          go_wp2_with fail
          go_roundw
          case rel => exact ⟨j + 1, by omega, by go_num, fun q a b hq h1 h2 => by
              by_cases e : q = j
              · subst e; rw [HY.out] at h1; rw [HX.out] at h2; cases h1; cases h2; exact HSM.out
              · exact HALL.out q a b (by omega) h1 h2, HROW.out.drew, HNX.out.drew _⟩
          case measure => simp [intOf]; omega
        · have heq : (x.toList == y.toList) = true := hsm
          have HC0 : Hid (Rn.cptS (l.take (j + 1 + 1)) = l.take (j + 1)) := hide (by
            rw [Rn.cptS_next HY.out HX.out, hsm, if_pos rfl]
            have hll : (l.take (j + 1)).length = j + 1 := by rw [List.length_take]; have := HL.out; omega
            have h1 := Rn.cptS_self (l := l.take (j + 1)) (fun q a b h1 h2 => by
              have hq := (List.getElem?_eq_some_iff.1 h2).1
              rw [hll] at hq
              rw [List.getElem?_take_of_lt (by omega)] at h1 h2
              exact HALL.out q a b (by omega) h1 h2) (j + 1) (by omega)
            rwa [List.take_take, Nat.min_self] at h1)
          clear hsm
          go_wp2_with fail
          go_quiet (fail)
          have HR1 := hide (HROW.out.drew (n := nq))
          have HN1 := hide (HNX.out.drew nq)
          clear p0 k0 heq
          generalize wr.drewN nq = W1 at *
          go_wp2_with fail
          go_loopw [3, 5] (fun a b wx => ∃ c t : Nat, a = .int .i64 c ∧ b = .int .i64 ((t : Int) + 1) ∧ j + 1 + (t + 1) ≤ len ∧ c = (Rn.cptS (l.take (j + 1 + (t + 1)))).length ∧ c ≤ j + 1 + t ∧ RowS wx g (Rn.cptS (l.take (j + 1 + (t + 1))) ++ l.drop c) ∧ But g w wx) (fun _ b _ => len - (intOf b).toNat)
          case atStart => exact ⟨j + 1, 0, by go_num, rfl, by omega, by
            rw [show j + 1 + (0 + 1) = j + 1 + 1 from rfl, HC0.out, List.length_take]; have := HL.out; omega, Nat.le_refl _, by
            rw [show j + 1 + (0 + 1) = j + 1 + 1 from rfl, HC0.out, List.take_append_drop]; exact HR1.out, HN1.out⟩
          case round =>
            obtain ⟨c, t, rfl, rfl, htl, hcc, hct, hrow, hnx⟩ := hrel
            have HCC := hide hcc
            have HROW2 := hide hrow
            have HNX2 := hide hnx
            by_cases hend : j + 1 + (t + 1) < len
            · obtain ⟨y', hy⟩ : ∃ y, l[j + 1 + t]? = some y := ⟨_, List.getElem?_eq_getElem (by rw [← HL.out]; omega)⟩
              obtain ⟨x', hx⟩ : ∃ y, l[j + 1 + (t + 1)]? = some y := ⟨_, List.getElem?_eq_getElem (by rw [← HL.out]; omega)⟩
              obtain ⟨z', hz⟩ : ∃ y, l[c]? = some y := ⟨_, List.getElem?_eq_getElem (by rw [← HL.out]; omega)⟩
              have p0 := hrow.cell (i := j + 1 + (t + 1)) (d := x') (by rw [row_atS hcc (by omega)]; exact hx)
              have k0 := hrow.cell (i := j + 1 + t) (d := y') (by rw [row_atS hcc (by omega)]; exact hy)
              have m0 := hrow.cell (i := c) (d := z') (by rw [row_atS hcc (by omega)]; exact hz)
              obtain ⟨cur, hcur, -, -⟩ := hrow
              have f0 := block_free hcur c
              have HNE : Hid (Rn.cptS (l.take (j + 1 + (t + 1) + 1)) = if Nm.sameB x' y' then Rn.cptS (l.take (j + 1 + (t + 1))) else Rn.cptS (l.take (j + 1 + (t + 1))) ++ [x']) := hide (Rn.cptS_next (j := j + 1 + t) hy hx)
              have hlt2 : decide ((t : Int) + 1 < ((len - (j + 1) : Nat) : Int)) = true := by simp; omega
              clear hx hy hz hcur hcc hnx
              cases hsm2 : Nm.sameB x' y'
              · have heq : (x'.toList == y'.toList) = false := hsm2
                rw [hsm2, if_neg (by simp)] at HNE
                clear hsm2
                go_wp2_with fail
                go_quiet (fail)
                have HR2 : Hid (RowS (wr.drewN nq) g _) := hide (HROW2.out.drew (n := nq))
                have HN2 := hide (HNX2.out.drew nq)
                replace p0 : (wr.drewN nq).cell? _ = _ := p0
                replace m0 : (wr.drewN nq).cell? _ = _ := m0
                replace f0 : (wr.drewN nq).frozen? _ = _ := f0
                clear k0 heq HROW2 HNX2
                generalize wr.drewN nq = W2 at *
                go_wp2_with fail
                go_roundw
                case rel => exact ⟨c + 1, t + 1, by go_num, by go_num, by omega, by
                  rw [show j + 1 + (t + 1 + 1) = j + 1 + (t + 1) + 1 by omega, HNE.out, List.length_append, ← HCC.out]; rfl, by omega, by
                  rw [show j + 1 + (t + 1 + 1) = j + 1 + (t + 1) + 1 by omega, HNE.out, ← row_setS HCC.out (by rw [← HL.out]; omega)]
                  exact HR2.out.set (by rw [List.length_append, List.length_drop, ← HCC.out, ← HL.out]; omega) x', HN2.out.set (Or.inl rfl) _⟩
                case measure => simp [intOf]; omega
              · have heq : (x'.toList == y'.toList) = true := hsm2
                rw [hsm2, if_pos rfl] at HNE
                clear hsm2
                go_wp2_with fail
                go_quiet (fail)
                have HR2 : Hid (RowS (wr.drewN nq) g _) := hide (HROW2.out.drew (n := nq))
                have HN2 := hide (HNX2.out.drew nq)
                clear p0 m0 f0 k0 heq HROW2 HNX2
                generalize wr.drewN nq = W2 at *
                go_wp2_with fail
                go_roundw
                case rel => exact ⟨c, t + 1, rfl, by go_num, by omega, by
                  rw [show j + 1 + (t + 1 + 1) = j + 1 + (t + 1) + 1 by omega, HNE.out]; exact HCC.out, by omega, by
                  rw [show j + 1 + (t + 1 + 1) = j + 1 + (t + 1) + 1 by omega, HNE.out]; exact HR2.out, HN2.out⟩
                case measure => simp [intOf]; omega
            · have HTK : Hid (l.take (j + 1 + (t + 1)) = l) := hide (List.take_of_length_le (by rw [← HL.out]; omega))
              rw [HTK.out] at HROW2 HCC hrow
              have hrow' := hrow
              obtain ⟨cur, hcur, hsz, -⟩ := hrow
              rw [List.length_append, List.length_drop, ← HCC.out, ← HL.out] at hsz
              have hcl := fun ty => clear_runS (c := cap - c) hcur (show 0 < len - c by omega) (show c + (len - c) ≤ cur.size by omega) ty
              have HRC := hide (fun zs m => RowS.clear (zs := zs) (k := c) hrow' hcur (by rw [List.length_append, ← HCC.out]; omega) m)
              have hlt2 : decide ((t : Int) + 1 < ((len - (j + 1) : Nat) : Int)) = false := by simp; omega
              have HTC : Hid ((Rn.cptS l ++ l.drop c).take c = Rn.cptS l) := hide (by rw [HCC.out, List.take_left])
              rw [HTC.out] at HRC
              generalize (Builtin.zeroCells (Value.string ⟨#[]⟩).cells (len - c)).toList = zs at *
              have HN2 := hide (But.row (cs := (cur.toList.take (c) ++ zs ++ cur.toList.drop (c + zs.length)).toArray) hnx)
              have HR2 := hide (HRC.out zs (c + zs.length))
              generalize wr.setRow g (cur.toList.take (c) ++ zs ++ cur.toList.drop (c + zs.length)).toArray = W2 at *
              clear hrow' hcur hcc hnx HRC
              go_wp2_with fail
              go_ret
              exact ⟨_, by rw [← HCC.out]; rfl, HR2.out, HN2.out⟩
      · have HE : Hid (Rn.cptS l = l) := hide (by
          have h1 := Rn.cptS_self (l := l) (fun q a b h1 h2 => HALL.out q a b (by have := (List.getElem?_eq_some_iff.1 h2).1; have := HL.out; omega) h1 h2) l.length (Nat.le_refl _)
          rwa [List.take_length] at h1)
        have hlt : decide ((j : Int) + 1 < (len : Int)) = false := by simp; omega
        clear hrow
        go_wp2_with fail
        go_ret
        exact ⟨_, by rw [HE.out, ← HL.out]; rfl, by rw [HE.out]; exact HROW.out, HNX.out⟩
set_option maxHeartbeats 1000000 in
theorem compactS_none (w : World) : Calls Tryz.prog 148 #[.slice none 0 0] w fun e w' => e = .returned (.slice none 0 0) ∧ w' = w := by
  go_enter Tryz.func148, Tryz.ntmps148
  go_wp2_with fail
  go_ret
  exact ⟨rfl, rfl⟩
end Go.Proofs.YtholefgckcoklaaGreatDoor
