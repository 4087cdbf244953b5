/- Diagnostics are sorted. -/
import Derived.Test.YtbncnkfogkhoeaaGreatDoorZH
import Derived.Test.YtbncnkfogkhoeaaGreatDoorVS
namespace Go.Proofs.YtbncnkfogkhoeaaGreatDoor
open Go.RowKit Go.Shelf

/-- Block g holds the diagnostics l, from its beginning on. -/
def RowD (w : World) (g : Nat) (l : List Dg) : Prop :=
  ∃ cur, w.heap[g]? = some (.cells cur 43 (0, 0)) ∧ l.length * 3 ≤ cur.size ∧ ∀ i d, l[i]? = some d → cur[i * 3]? = some (.int .i64 d.code) ∧ cur[i * 3 + 1]? = some (.string d.fn) ∧ cur[i * 3 + 2]? = some (.string d.name)
theorem OwnK.row {w : World} {n g len cap : Nat} {l : List Dg} (h : OwnK DgC w n 43 3 (.slice (some ⟨g, 0, none⟩) len cap) l) (hlen : len = l.length) : RowD w g l := by
  subst hlen
  obtain ⟨cur, hc⟩ := h.typ (g := g) rfl
  have hd : ∀ i d, l[i]? = some d → cur[i * 3]? = some (.int .i64 d.code) ∧ cur[i * 3 + 1]? = some (.string d.fn) ∧ cur[i * 3 + 2]? = some (.string d.name) := fun i d hi => by
    obtain ⟨h0, h1, h2⟩ := h.dg hi
    rw [block_at hc] at h0 h1 h2
    exact ⟨h0, h1, h2⟩
  refine ⟨cur, hc, ?_, hd⟩
  rcases Nat.eq_zero_or_pos l.length with h0 | h0
  · omega
  · obtain ⟨_, _, h2⟩ := hd (l.length - 1) _ (List.getElem?_eq_getElem (by omega))
    have := (Array.getElem?_eq_some_iff.1 h2).1
    omega
/-- A diagnostic's cells. -/
def encD (d : Dg) : List Value := [.int .i64 d.code, .string d.fn, .string d.name]
instance : Inhabited Dg := ⟨⟨0, ⟨#[]⟩, ⟨#[]⟩⟩⟩
theorem ltOf_ahead (x y : Dg) : ltOf Nm.cmpD x y = Nm.aheadB x y := Nm.cmpD_ahead x y
theorem swoD : Sort.SWO (ltOf Nm.cmpD) where
  irrefl x := by rw [ltOf_ahead]; exact Nm.aheadB_irr x
  trans x y z h1 h2 := by
    rw [ltOf_ahead] at *
    exact Nm.aheadB_trans h1 h2
  ntrans x y z h1 h2 := by
    rw [ltOf_ahead] at *
    cases h : Nm.aheadB x z with
    | false => rfl
    | true =>
      cases hy : Nm.aheadB y x with
      | true => rw [Nm.aheadB_trans hy h] at h2; cases h2
      | false => rw [Nm.aheadB_tri h1 hy, h2] at h; cases h

theorem encD_get (d : Dg) : (encD d)[0]! = .int .i64 d.code ∧ (encD d)[1]! = .string d.fn ∧ (encD d)[2]! = .string d.name := ⟨rfl, rfl, rfl⟩
theorem RowD.cell {w : World} {g : Nat} {l : List Dg} (h : RowD w g l) {i : Nat} {d : Dg} (hd : l[i]? = some d) : w.cell? ⟨g, i * 3, none⟩ = some (.int .i64 d.code) ∧ w.cell? ⟨g, i * 3 + 1, none⟩ = some (.string d.fn) ∧ w.cell? ⟨g, i * 3 + 2, none⟩ = some (.string d.name) := by
  obtain ⟨cur, hc, _, hel⟩ := h
  obtain ⟨h0, h1, h2⟩ := hel i d hd
  exact ⟨(block_at hc _).trans h0, (block_at hc _).trans h1, (block_at hc _).trans h2⟩
theorem RowD.holds {w : World} {g : Nat} {l : List Dg} (h : RowD w g l) : Sort.HoldsK encD 3 w g 0 l.toArray := by
  obtain ⟨cur, hc, hsz, hel⟩ := h
  intro j hj
  rw [Sort.size_flatK] at hj
  have hjl : j < l.length * 3 := by simpa using hj
  refine ⟨?_, block_free hc _⟩
  rw [Nat.zero_add, block_at hc, Sort.get_flatK _ _ _ _ hj]
  have hi : j / 3 < l.length := by omega
  have hl : l[j / 3]? = some l[j / 3] := List.getElem?_eq_getElem hi
  have e : (l.toArray)[j / 3]! = l[j / 3] := by simp [hi]
  rw [e]
  obtain ⟨h0, h1, h2⟩ := hel _ _ hl
  obtain ⟨k0, k1, k2⟩ := encD_get l[j / 3]
  have hm : j % 3 = 0 ∨ j % 3 = 1 ∨ j % 3 = 2 := by omega
  rcases hm with hm | hm | hm
  · rw [hm, k0]; rw [show j / 3 * 3 = j by omega] at h0; exact h0
  · rw [hm, k1]; rw [show j / 3 * 3 + 1 = j by omega] at h1; exact h1
  · rw [hm, k2]; rw [show j / 3 * 3 + 2 = j by omega] at h2; exact h2
theorem RowD.of_holds {w : World} {g : Nat} {d : Array Dg} {cur : Array Value} (hc : w.heap[g]? = some (.cells cur 43 (0, 0))) (hsz : d.size * 3 ≤ cur.size) (h : Sort.HoldsK encD 3 w g 0 d) : RowD w g d.toList := by
  refine ⟨cur, hc, by simpa using hsz, fun i x hx => ?_⟩
  have hi : i < d.size := by simpa using (List.getElem?_eq_some_iff.1 hx).1
  have e : d[i]! = x := by
    have := (List.getElem?_eq_some_iff.1 hx).2
    simp at this
    simp [hi, this]
  have k0 := (h.cell (c := 0) hi (by decide)).1
  have k1 := (h.cell (c := 1) hi (by decide)).1
  have k2 := (h.cell (c := 2) hi (by decide)).1
  rw [e, block_at hc] at k0 k1 k2
  obtain ⟨j0, j1, j2⟩ := encD_get x
  rw [j0] at k0
  rw [j1] at k1
  rw [j2] at k2
  refine ⟨?_, ?_, ?_⟩
  · simpa using k0
  · simpa using k1
  · simpa using k2

/-- What a sort leaves. -/
theorem sortD_any (w : World) (n g len cap : Nat) (l : List Dg) (h : RowD w g l) (hlen : len = l.length) (hn : n ≤ g) (hl : l.length ≤ 16777216) :
    Calls Tryz.prog 50 #[.slice (some ⟨g, 0, none⟩) len cap, .func (.func 51) #[] #[]] w fun e w' => e = .returned (.tuple #[]) ∧ ∃ l', l'.length = l.length ∧ (∀ x, x ∈ l' ↔ x ∈ l) ∧ (l'.Pairwise fun a b => Nm.aheadB b a = false) ∧ RowD w' g l' ∧ Below n w w' := by
  subst hlen
  have h0 := h
  obtain ⟨cur, hc, hsz, hel⟩ := h
  have hcon := AnyQ.slices_SortFunc Tryz.lSoDg 3 Tryz.isAgg43 Tryz.sizeOf43 encD (fun _ => rfl) (fun x v hv => by simp [encD] at hv; rcases hv with rfl | rfl | rfl <;> rfl) Nm.cmpD swoD 51 #[] g 0 cap l.toArray w
    (enters_of Tryz.func51 (by kernel_rfl) rfl) (fun m os dk _ x y => compareDiags_any _ x y) h0.holds (block_lt hc) (by simp; omega)
  refine Calls.mono (show Calls Tryz.prog 50 #[.slice (some ⟨g, 0, none⟩) l.length cap, .func (.func 51) #[] #[]] w _ from hcon) ?_
  rintro e w' ⟨he, d', k, os, hp, hs, hw⟩
  refine ⟨he, d'.toList, ?_, ?_, ?_, ?_, ?_⟩
  · simpa using hp.1
  · intro x
    have h1 := hp.2.2.mem_iff (a := x)
    have e1 : d'.extract 0 l.toArray.size = d' := by
      have : l.toArray.size = d'.size := hp.1.symm
      rw [this]; simp
    rw [e1] at h1
    simpa using h1
  · rw [List.pairwise_iff_getElem]
    intro i j hi hj hij
    have hsd : d'.size = l.toArray.size := hp.1
    have h1 := hs i j (Nat.zero_le _) hij (by rw [← hsd]; simpa using hj)
    rw [ltOf_ahead] at h1
    have ei : d'[i]! = d'.toList[i] := by simp at hi; simp [hi]
    have ej : d'[j]! = d'.toList[j] := by simp at hj; simp [hj]
    rw [ei, ej] at h1
    exact h1
  · have hblk : w'.heap[g]? = some (.cells (Sort.putCells id 0 (Sort.flatK encD 3 d') cur) 43 (0, 0)) := by
      rw [hw]
      have hg := block_lt hc
      simp only [sortWorldK, Sort.grow, Sort.putRowK, Sort.putRow, Sort.mapBlock, Sort.ahead]
      rw [Array.getElem?_append_left (by simpa using hg)]
      simp [Array.getElem?_modify, hc, Sort.onCells]
    refine RowD.of_holds hblk ?_ ?_
    · have : d'.size = l.toArray.size := hp.1
      simp only [Sort.putCells, Array.size_mapIdx]
      rw [this]; simpa using hsz
    · rw [hw]
      exact holdsK_sortWorldK_c _ _ _ _ _ l.toArray d' k os h0.holds (block_lt hc) hp.1
  · rw [hw]
    refine ⟨rfl, rfl, rfl, size_sortWorldK_c _ _ _ _ _ _ _ _, fun j hj => ?_⟩
    have hg := block_lt hc
    simp only [sortWorldK, Sort.grow, Sort.putRowK, Sort.putRow, Sort.mapBlock, Sort.ahead]
    rw [Array.getElem?_append_left (by simp; omega)]
    simp [Array.getElem?_modify]
    intro e'; omega
theorem sortD_none (w : World) (p : Option Addr) (cap : Nat) : Calls Tryz.prog 50 #[.slice p 0 cap, .func (.func 51) #[] #[]] w fun e w' => e = .returned (.tuple #[]) ∧ w' = w :=
  AnyF.slices_SortFunc_none { Tryz.lSoDg with } p cap _ w

end Go.Proofs.YtbncnkfogkhoeaaGreatDoor

/- Walks over the library: slices.Compact of diagnostics. -/
namespace Go.Proofs.YtbncnkfogkhoeaaGreatDoor
open Go.RowKit

namespace Nm
/-- One more behind a list in which none stands just behind its like. -/
def cstep (acc : List Dg) (x : Dg) : List Dg := match acc.getLast? with
  | some y => if sameD x y then acc else acc ++ [x]
  | none => acc ++ [x]
def cpt (l : List Dg) : List Dg := l.foldl cstep []
theorem cstep_last (acc : List Dg) (x : Dg) : (cstep acc x).getLast? = some x := by
  unfold cstep
  split
  · rename_i y h
    split
    · rename_i hs; rw [sameD_iff] at hs; subst hs; exact h
    · simp
  · simp
theorem cpt_snoc (l : List Dg) (x : Dg) : cpt (l ++ [x]) = cstep (cpt l) x := by unfold cpt; simp
theorem cpt_take {l : List Dg} {j : Nat} {x : Dg} (h : l[j]? = some x) : cpt (l.take (j + 1)) = cstep (cpt (l.take j)) x := by
  rw [List.take_add_one, h]; exact cpt_snoc _ _
theorem cpt_last {l : List Dg} {j : Nat} {x : Dg} (h : l[j]? = some x) : (cpt (l.take (j + 1))).getLast? = some x := by
  rw [cpt_take h]; exact cstep_last _ _
theorem cpt_next {l : List Dg} {j : Nat} {x y : Dg} (h : l[j]? = some y) (h' : l[j + 1]? = some x) : cpt (l.take (j + 1 + 1)) = if sameD x y then cpt (l.take (j + 1)) else cpt (l.take (j + 1)) ++ [x] := by
  rw [cpt_take h']
  have := cpt_last h
  unfold cstep
  rw [this]
theorem cpt_len (l : List Dg) : (cpt l).length ≤ l.length := by
  have h : ∀ (l acc : List Dg), (l.foldl cstep acc).length ≤ acc.length + l.length := by
    intro l
    induction l with
    | nil => intro acc; simp
    | cons x r ih =>
      intro acc
      have h1 := ih (cstep acc x)
      have h2 : (cstep acc x).length ≤ acc.length + 1 := by
        unfold cstep
        split
        · split <;> simp
        · simp
      simp only [List.foldl_cons, List.length_cons]
      omega
  simpa [cpt] using h l []
theorem cpt_foldl {l acc : List Dg} (h : Asc acc) (hs : l.Pairwise fun a b => aheadB b a = false) (hc : ∀ a ∈ acc, ∀ y ∈ l, aheadB y a = false) : Asc (l.foldl cstep acc) ∧ ∀ x, x ∈ l.foldl cstep acc ↔ x ∈ acc ∨ x ∈ l := by
  induction l generalizing acc with
  | nil => exact ⟨h, fun x => by simp⟩
  | cons y r ih =>
    obtain ⟨h1, h2⟩ := List.pairwise_cons.1 hs
    have hstep : Asc (cstep acc y) ∧ (∀ x, x ∈ cstep acc y ↔ x ∈ acc ∨ x = y) := by
      unfold cstep
      split
      · rename_i z hz
        split
        · rename_i hsm
          rw [sameD_iff] at hsm
          subst hsm
          have hm : y ∈ acc := List.mem_of_getLast? hz
          exact ⟨h, fun x => ⟨Or.inl, fun hx => hx.elim id (fun e => e ▸ hm)⟩⟩
        · rename_i hsm
          refine ⟨List.pairwise_append.2 ⟨h, by simp, fun a ha b hb => ?_⟩, fun x => by simp⟩
          rw [List.mem_singleton] at hb
          subst hb
          have hya := hc a ha b (by simp)
          cases hab : aheadB a b with
          | true => rfl
          | false =>
            exfalso
            have e := aheadB_tri hab hya
            subst e
            have hzm : z ∈ acc := List.mem_of_getLast? hz
            have hne : a ≠ z := fun e => hsm (sameD_iff.2 e)
            obtain ⟨pre, hpre⟩ : ∃ pre, acc = pre ++ [z] := by
              rw [List.getLast?_eq_some_iff] at hz
              exact hz
            rw [hpre] at h ha
            rcases List.mem_append.1 ha with hp | hp
            · have := (List.pairwise_append.1 h).2.2 a hp z (by simp)
              rw [hc z hzm a (by simp)] at this
              cases this
            · rw [List.mem_singleton] at hp; exact hne hp
      · rename_i hz
        have : acc = [] := by simpa using hz
        subst this
        exact ⟨by simp [Asc], fun x => by simp⟩
    obtain ⟨k1, k2⟩ := ih hstep.1 h2 (fun a ha b hb => by
      rcases (hstep.2 a).1 ha with ha | rfl
      · exact hc a ha b (List.mem_cons_of_mem _ hb)
      · exact h1 b hb)
    refine ⟨k1, fun x => ?_⟩
    rw [List.foldl_cons, k2 x, hstep.2 x, List.mem_cons, or_assoc]
/-- What is sorted, and then once, is Once of whatever holds the same. -/
theorem cpt_once {l l' s : List Dg} (hs : s.Pairwise fun a b => aheadB b a = false) (hp : ∀ x, x ∈ s ↔ x ∈ l') (hm : ∀ x, x ∈ l' ↔ x ∈ l) : cpt s = once l := by
  obtain ⟨h1, h2⟩ := cpt_foldl (l := s) (acc := []) List.Pairwise.nil hs (fun a ha => absurd ha (by simp))
  refine asc_unique h1 (once_asc l) fun x => ?_
  rw [cpt, h2, once_mem]
  simp [hp, hm]
end Nm
theorem RowD.below {w w' : World} {g : Nat} {l : List Dg} (h : RowD w g l) (hb : Below w.heap.size w w') : RowD w' g l := by
  obtain ⟨cur, hc, h1, h2⟩ := h
  exact ⟨cur, by rw [hb.block g (block_lt hc)]; exact hc, h1, h2⟩
theorem RowD.drew {w : World} {g n : Nat} {l : List Dg} (h : RowD w g l) : RowD (w.drewN n) g l := h
theorem RowD.set {w : World} {g k : Nat} {l : List Dg} (h : RowD w g l) (hk : k < l.length) (d : Dg) :
    RowD (((w.setCell ⟨g, k * 3, none⟩ (.int .i64 d.code)).setCell ⟨g, k * 3 + 1, none⟩ (.string d.fn)).setCell ⟨g, k * 3 + 2, none⟩ (.string d.name)) g (l.set k d) := by
  obtain ⟨cur, hc, hs, hel⟩ := h
  have h0 := block_set hc (k * 3) (.int .i64 d.code)
  have h1 := block_set h0 (k * 3 + 1) (.string d.fn)
  have h2 := block_set h1 (k * 3 + 2) (.string d.name)
  refine ⟨_, h2, by simpa using hs, fun i x hx => ?_⟩
  rw [List.getElem?_set] at hx
  by_cases e : k = i
  · subst e
    simp [hk] at hx
    subst hx
    refine ⟨?_, ?_, ?_⟩
    · simp [Array.getElem?_setIfInBounds]; omega
    · simp [Array.getElem?_setIfInBounds]; omega
    · simp [Array.getElem?_setIfInBounds]; omega
  · rw [if_neg e] at hx
    obtain ⟨a0, a1, a2⟩ := hel i x hx
    refine ⟨?_, ?_, ?_⟩
    · rw [Array.getElem?_setIfInBounds_ne (by omega), Array.getElem?_setIfInBounds_ne (by omega), Array.getElem?_setIfInBounds_ne (by omega)]; exact a0
    · rw [Array.getElem?_setIfInBounds_ne (by omega), Array.getElem?_setIfInBounds_ne (by omega), Array.getElem?_setIfInBounds_ne (by omega)]; exact a1
    · rw [Array.getElem?_setIfInBounds_ne (by omega), Array.getElem?_setIfInBounds_ne (by omega), Array.getElem?_setIfInBounds_ne (by omega)]; exact a2

end Go.Proofs.YtbncnkfogkhoeaaGreatDoor

/- Walks over the library: slices.Compact of diagnostics. -/
namespace Go.Proofs.YtbncnkfogkhoeaaGreatDoor
open Go.RowKit

/-- clear of a row's tail. -/
theorem clear_run {w : World} {g k n c : Nat} {cur : Array Value} (hc : w.heap[g]? = some (.cells cur 43 (0, 0))) (hn : 0 < n) (hs : k * 3 + n * 3 ≤ cur.size) (ty : TypeId) :
    (Builtin.clear_ #[37] ty #[.slice (some ⟨g, k * 3, none⟩) n c]).run Tryz.prog w = .ok (.tuple #[]) (w.setRow g (cur.toList.take (k * 3) ++ (Builtin.zeroCells (Value.agg #[.int .i64 0, .string ⟨#[]⟩, .string ⟨#[]⟩]).cells n).toList ++ cur.toList.drop (k * 3 + (Builtin.zeroCells (Value.agg #[.int .i64 0, .string ⟨#[]⟩, .string ⟨#[]⟩]).cells n).toList.length)).toArray) := by
  have hz : (Builtin.zeroCells (Value.agg #[.int .i64 0, .string ⟨#[]⟩, .string ⟨#[]⟩]).cells n).toList.length = n * 3 := by simp [Builtin.zeroCells, Value.cells]
  have h1 : ∀ v ∈ (Builtin.zeroCells (Value.agg #[.int .i64 0, .string ⟨#[]⟩, .string ⟨#[]⟩]).cells n).toList, v.oneCell' = true := by
    intro v hv
    simp [Builtin.zeroCells, Value.cells] at hv
    obtain ⟨a, ha, rfl⟩ := hv
    have hm : a % 3 = 0 ∨ a % 3 = 1 ∨ a % 3 = 2 := by omega
    rcases hm with hm | hm | hm <;> simp [hm] <;> rfl
  have hst := run_storeCells_at Tryz.prog g (k * 3) 43 (Builtin.zeroCells (Value.agg #[.int .i64 0, .string ⟨#[]⟩, .string ⟨#[]⟩]).cells n).toList 0 cur w hc (by rw [hz]; omega) h1
  obtain ⟨m, rfl⟩ : ∃ m, n = m + 1 := ⟨n - 1, by omega⟩
  simp only [Nat.add_zero] at hst
  simp [Builtin.clear_, run_underlying Tryz.underlying37, hst]
theorem RowD.clear {w : World} {g k : Nat} {l : List Dg} {zs : List Value} {cur : Array Value} (h : RowD w g l) (hc : w.heap[g]? = some (.cells cur 43 (0, 0))) (hk : k ≤ l.length) (m : Nat) :
    RowD (w.setRow g (cur.toList.take (k * 3) ++ zs ++ cur.toList.drop m).toArray) g (l.take k) := by
  obtain ⟨cur', hc', hs, hel⟩ := h
  rw [hc] at hc'
  simp at hc'
  subst hc'
  have hkl : (l.take k).length = k := by rw [List.length_take]; omega
  refine ⟨_, setRow_heap w g cur _ 43 (0, 0) hc, ?_, fun i d hd => ?_⟩
  · rw [hkl]; simp; omega
  · have hik : i < k := by have := (List.getElem?_eq_some_iff.1 hd).1; omega
    rw [List.getElem?_take_of_lt hik] at hd
    obtain ⟨a0, a1, a2⟩ := hel i d hd
    have key : ∀ j v, j < k * 3 → cur[j]? = some v → ((cur.toList.take (k * 3) ++ zs ++ cur.toList.drop m).toArray)[j]? = some v := fun j v hj hv => by
      rw [List.getElem?_toArray, List.append_assoc, List.getElem?_append_left (by simp; omega), List.getElem?_take_of_lt hj]
      simpa using hv
    exact ⟨key _ _ (by omega) a0, key _ _ (by omega) a1, key _ _ (by omega) a2⟩
theorem cpt_self {l : List Dg} (h : ∀ (j : Nat) x y, l[j]? = some y → l[j + 1]? = some x → Nm.sameD x y = false) : ∀ j, j ≤ l.length → Nm.cpt (l.take j) = l.take j := by
  intro j
  induction j with
  | zero => intro _; rfl
  | succ j ih =>
    intro hj
    cases j with
    | zero =>
      have hx : l[0]? = some l[0] := List.getElem?_eq_getElem (by omega)
      rw [Nm.cpt_take hx]
      simp [Nm.cpt, Nm.cstep, List.take_add_one, hx]
    | succ j =>
      have hy : l[j]? = some l[j] := List.getElem?_eq_getElem (by omega)
      have hx : l[j + 1]? = some l[j + 1] := List.getElem?_eq_getElem (by omega)
      rw [Nm.cpt_next hy hx, h j _ _ hy hx, ih (by omega)]
      rw [List.take_add_one (i := j + 1), hx]
      simp

end Go.Proofs.YtbncnkfogkhoeaaGreatDoor

/- Walks over the library: slices.Compact of diagnostics. -/
namespace Go.Proofs.YtbncnkfogkhoeaaGreatDoor
open Go.RowKit

theorem belowN_drew {n k : Nat} {w w1 : World} (h : Below n w w1) : Below n w (w1.drewN k) := ⟨h.os, h.tape, h.output, h.size, h.block⟩
theorem belowN_set {n : Nat} {w w1 : World} {a : Addr} (h : Below n w w1) (ha : n ≤ a.block) (v : Value) : Below n w (w1.setCell a v) :=
  ⟨h.os, h.tape, h.output, by simp only [World.setCell, Array.size_modify]; exact h.size, fun k hk => by rw [Below.heap_setCell _ _ _ _ (by omega)]; exact h.block k hk⟩
theorem belowN_row {n g : Nat} {w w1 : World} {cs : Array Value} (h : Below n w w1) (hg : n ≤ g) : Below n w (w1.setRow g cs) :=
  ⟨h.os, h.tape, h.output, by rw [setRow_size]; exact h.size, fun k hk => by rw [setRow_other _ _ _ _ (by omega)]; exact h.block k hk⟩

theorem row_at {l : List Dg} {c K : Nat} {C : List Dg} (hc : c = C.length) (hK : c ≤ K) : (C ++ l.drop c)[K]? = l[K]? := by
  subst hc
  rw [List.getElem?_append_right hK, List.getElem?_drop]
  congr 1; omega
theorem row_set {l : List Dg} {c : Nat} {C : List Dg} (hc : c = C.length) (hl : c < l.length) (x : Dg) : (C ++ l.drop c).set c x = (C ++ [x]) ++ l.drop (c + 1) := by
  subst hc
  rw [List.set_append_right _ _ (Nat.le_refl _), Nat.sub_self, List.drop_eq_getElem_cons hl, List.set_cons_zero]
  simp

set_option maxHeartbeats 4000000 in
set_option maxRecDepth 100000 in
theorem compactD_any (w : World) (n g len cap : Nat) (l : List Dg) (h : RowD w g l) (hlen : len = l.length) (hcap : len ≤ cap) (hn : n ≤ g) (hl : len ≤ 16777216) :
    Calls Tryz.prog 52 #[.slice (some ⟨g, 0, none⟩) len cap] w fun e w' => ∃ c', e = .returned (.slice (some ⟨g, 0, none⟩) (Nm.cpt l).length c') ∧ RowD w' g (Nm.cpt l) ∧ Below n w w' := by
  have HL := hide hlen
  have HR := hide h
  clear hlen h
  by_cases h2 : len < 2
  · have HE : Hid (Nm.cpt l = l) := hide (by
      have hl' := HL.out
      match l, hl' with
      | [], _ => rfl
      | [x], _ => rfl
      | x :: y :: r, h => simp at h; omega)
    go_enter Tryz.func52, Tryz.ntmps52
    go_wp2_with fail
    go_ret
    exact ⟨_, by rw [HE.out, ← HL.out]; rfl, by rw [HE.out]; exact HR.out, Below.refl _ _⟩
  · go_enter Tryz.func52, Tryz.ntmps52
    go_wp2_with fail
    go_loopw [3] (fun i wr => ∃ j : Nat, j + 1 ≤ len ∧ i = .int .i64 ((j : Int) + 1) ∧ (∀ (q : Nat) x y, q < j → l[q]? = some y → l[q + 1]? = some x → Nm.sameD x y = false) ∧ RowD wr g l ∧ Below n w wr) (fun i _ => len - (intOf i).toNat)
    case atStart => exact ⟨0, by omega, rfl, fun q x y hq => absurd hq (Nat.not_lt_zero _), HR.out, Below.refl _ _⟩
    case round =>
      obtain ⟨j, hj, rfl, hall, hrow, hnx⟩ := hrel
      have HALL := hide hall
      have HROW := hide hrow
      have HNX := hide hnx
      clear hall hnx
      by_cases hjl : j + 1 < len
      · obtain ⟨y, hy⟩ : ∃ y, l[j]? = some y := ⟨_, List.getElem?_eq_getElem (by rw [← HL.out]; omega)⟩
        obtain ⟨x, hx⟩ : ∃ y, l[j + 1]? = some y := ⟨_, List.getElem?_eq_getElem (by rw [← HL.out]; omega)⟩
        obtain ⟨p0, p1, p2⟩ := hrow.cell hx
        obtain ⟨k0, k1, k2⟩ := hrow.cell hy
        have HX := hide hx
        have HY := hide hy
        have heq : ∀ w, Sem.run Tryz.prog (Op.equalIn 10000 43 (.agg #[.int .i64 x.code, .string x.fn, .string x.name]) (.agg #[.int .i64 y.code, .string y.fn, .string y.name])) w = .ok (Nm.sameD x y) w := eqIn_dg x y
        have hgd : ∀ op a b w, Sem.run Tryz.prog (eqGuard op 43 a b (.agg #[.int .i64 x.code, .string x.fn, .string x.name]) (.agg #[.int .i64 y.code, .string y.fn, .string y.name])) w = .ok () w := fun op a b w => guard_dg op a b x y w
        have hlt : decide ((j : Int) + 1 < (len : Int)) = true := by simp; omega
        clear hx hy hrow
        cases hsm : Nm.sameD x y
        · rw [hsm] at heq
          have HSM := hide hsm
          clear hsm
          go_wp2_with fail
          go_quiet (fail)
          go_wp2_with fail
          go_roundw
          case rel => exact ⟨j + 1, by omega, by go_num, fun q a b hq h1 h2 => by
              by_cases e : q = j
              · subst e; rw [HY.out] at h1; rw [HX.out] at h2; cases h1; cases h2; exact HSM.out
              · exact HALL.out q a b (by omega) h1 h2, HROW.out.drew, belowN_drew HNX.out⟩
          case measure => simp [intOf]; omega
        · rw [hsm] at heq
          have HC0 : Hid (Nm.cpt (l.take (j + 1 + 1)) = l.take (j + 1)) := hide (by
            rw [Nm.cpt_next HY.out HX.out, hsm, if_pos rfl]
            have hll : (l.take (j + 1)).length = j + 1 := by rw [List.length_take]; have := HL.out; omega
            have h1 := cpt_self (l := l.take (j + 1)) (fun q a b h1 h2 => by
              have hq := (List.getElem?_eq_some_iff.1 h2).1
              rw [hll] at hq
              rw [List.getElem?_take_of_lt (by omega)] at h1 h2
              exact HALL.out q a b (by omega) h1 h2) (j + 1) (by omega)
            rwa [List.take_take, Nat.min_self] at h1)
          clear hsm
          go_wp2_with fail
          go_quiet (fail)
          have HR1 := hide (HROW.out.drew (n := nq))
          have HN1 := hide (belowN_drew (k := nq) HNX.out)
          clear p0 p1 p2 k0 k1 k2 heq hgd
          generalize wr.drewN nq = W1 at *
          go_wp2_with fail
          go_loopw [3, 5] (fun a b wx => ∃ c t : Nat, a = .int .i64 c ∧ b = .int .i64 ((t : Int) + 1) ∧ j + 1 + (t + 1) ≤ len ∧ c = (Nm.cpt (l.take (j + 1 + (t + 1)))).length ∧ c ≤ j + 1 + t ∧ RowD wx g (Nm.cpt (l.take (j + 1 + (t + 1))) ++ l.drop c) ∧ Below n w wx) (fun _ b _ => len - (intOf b).toNat)
          case atStart => exact ⟨j + 1, 0, by go_num, rfl, by omega, by
            rw [show j + 1 + (0 + 1) = j + 1 + 1 from rfl, HC0.out, List.length_take]; have := HL.out; omega, Nat.le_refl _, by
            rw [show j + 1 + (0 + 1) = j + 1 + 1 from rfl, HC0.out, List.take_append_drop]; exact HR1.out, HN1.out⟩
          case round =>
            obtain ⟨c, t, rfl, rfl, htl, hcc, hct, hrow, hnx⟩ := hrel
            have HCC := hide hcc
            have HROW2 := hide hrow
            have HNX2 := hide hnx
            by_cases hend : j + 1 + (t + 1) < len
            · obtain ⟨y', hy⟩ : ∃ y, l[j + 1 + t]? = some y := ⟨_, List.getElem?_eq_getElem (by rw [← HL.out]; omega)⟩
              obtain ⟨x', hx⟩ : ∃ y, l[j + 1 + (t + 1)]? = some y := ⟨_, List.getElem?_eq_getElem (by rw [← HL.out]; omega)⟩
              obtain ⟨z', hz⟩ : ∃ y, l[c]? = some y := ⟨_, List.getElem?_eq_getElem (by rw [← HL.out]; omega)⟩
              obtain ⟨p0, p1, p2⟩ := hrow.cell (i := j + 1 + (t + 1)) (d := x') (by rw [row_at hcc (by omega)]; exact hx)
              obtain ⟨k0, k1, k2⟩ := hrow.cell (i := j + 1 + t) (d := y') (by rw [row_at hcc (by omega)]; exact hy)
              obtain ⟨m0, m1, m2⟩ := hrow.cell (i := c) (d := z') (by rw [row_at hcc (by omega)]; exact hz)
              rw [Nat.add_mul (j + 1) (t + 1)] at p0 p1 p2
              rw [Nat.add_mul (j + 1) t] at k0 k1 k2
              obtain ⟨cur, hcur, -, -⟩ := hrow
              have f0 := block_free hcur (c * 3)
              have f1 := block_free hcur (c * 3 + 1)
              have f2 := block_free hcur (c * 3 + 2)
              have HNE : Hid (Nm.cpt (l.take (j + 1 + (t + 1) + 1)) = if Nm.sameD x' y' then Nm.cpt (l.take (j + 1 + (t + 1))) else Nm.cpt (l.take (j + 1 + (t + 1))) ++ [x']) := hide (Nm.cpt_next (j := j + 1 + t) hy hx)
              have heq : ∀ w, Sem.run Tryz.prog (Op.equalIn 10000 43 (.agg #[.int .i64 x'.code, .string x'.fn, .string x'.name]) (.agg #[.int .i64 y'.code, .string y'.fn, .string y'.name])) w = .ok (Nm.sameD x' y') w := eqIn_dg x' y'
              have hgd : ∀ op a b w, Sem.run Tryz.prog (eqGuard op 43 a b (.agg #[.int .i64 x'.code, .string x'.fn, .string x'.name]) (.agg #[.int .i64 y'.code, .string y'.fn, .string y'.name])) w = .ok () w := fun op a b w => guard_dg op a b x' y' w
              have hlt2 : decide ((t : Int) + 1 < ((len - (j + 1) : Nat) : Int)) = true := by simp; omega
              clear hx hy hz hcur hcc hnx
              cases hsm2 : Nm.sameD x' y'
              · rw [hsm2] at heq
                rw [hsm2, if_neg (by simp)] at HNE
                clear hsm2
                go_wp2_with fail
                go_quiet (fail)
                have HR2 : Hid (RowD (wr.drewN nq) g _) := hide (HROW2.out.drew (n := nq))
                have HN2 := hide (belowN_drew (k := nq) HNX2.out)
                replace p0 : (wr.drewN nq).cell? _ = _ := p0
                replace p1 : (wr.drewN nq).cell? _ = _ := p1
                replace p2 : (wr.drewN nq).cell? _ = _ := p2
                replace m0 : (wr.drewN nq).cell? _ = _ := m0
                replace m1 : (wr.drewN nq).cell? _ = _ := m1
                replace m2 : (wr.drewN nq).cell? _ = _ := m2
                replace f0 : (wr.drewN nq).frozen? _ = _ := f0
                replace f1 : (wr.drewN nq).frozen? _ = _ := f1
                replace f2 : (wr.drewN nq).frozen? _ = _ := f2
                clear k0 k1 k2 heq hgd HROW2 HNX2
                generalize wr.drewN nq = W2 at *
                go_wp2_with fail
                go_roundw
                case rel => exact ⟨c + 1, t + 1, by go_num, by go_num, by omega, by
                  rw [show j + 1 + (t + 1 + 1) = j + 1 + (t + 1) + 1 by omega, HNE.out, List.length_append, ← HCC.out]; rfl, by omega, by
                  rw [show j + 1 + (t + 1 + 1) = j + 1 + (t + 1) + 1 by omega, HNE.out, ← row_set HCC.out (by rw [← HL.out]; omega)]
                  exact HR2.out.set (by rw [List.length_append, List.length_drop, ← HCC.out, ← HL.out]; omega) x', belowN_set (belowN_set (belowN_set HN2.out hn _) hn _) hn _⟩
                case measure => simp [intOf]; omega
              · rw [hsm2] at heq
                rw [hsm2, if_pos rfl] at HNE
                clear hsm2
                go_wp2_with fail
                go_quiet (fail)
                have HR2 : Hid (RowD (wr.drewN nq) g _) := hide (HROW2.out.drew (n := nq))
                have HN2 := hide (belowN_drew (k := nq) HNX2.out)
                clear p0 p1 p2 m0 m1 m2 f0 f1 f2 k0 k1 k2 heq hgd HROW2 HNX2
                generalize wr.drewN nq = W2 at *
                go_wp2_with fail
                go_roundw
                case rel => exact ⟨c, t + 1, rfl, by go_num, by omega, by
                  rw [show j + 1 + (t + 1 + 1) = j + 1 + (t + 1) + 1 by omega, HNE.out]; exact HCC.out, by omega, by
                  rw [show j + 1 + (t + 1 + 1) = j + 1 + (t + 1) + 1 by omega, HNE.out]; exact HR2.out, HN2.out⟩
                case measure => simp [intOf]; omega
            · have HTK : Hid (l.take (j + 1 + (t + 1)) = l) := hide (List.take_of_length_le (by rw [← HL.out]; omega))
              rw [HTK.out] at HROW2 HCC hrow
              have hrow' := hrow
              obtain ⟨cur, hcur, hsz, -⟩ := hrow
              rw [List.length_append, List.length_drop, ← HCC.out, ← HL.out] at hsz
              have hcl := fun ty => clear_run (c := cap - c) hcur (show 0 < len - c by omega) (show c * 3 + (len - c) * 3 ≤ cur.size by omega) ty
              have HRC := hide (fun zs m => RowD.clear (zs := zs) (k := c) hrow' hcur (by rw [List.length_append, ← HCC.out]; omega) m)
              have hlt2 : decide ((t : Int) + 1 < ((len - (j + 1) : Nat) : Int)) = false := by simp; omega
              have HTC : Hid ((Nm.cpt l ++ l.drop c).take c = Nm.cpt l) := hide (by rw [HCC.out, List.take_left])
              rw [HTC.out] at HRC
              generalize (Builtin.zeroCells (Value.agg #[.int .i64 0, .string ⟨#[]⟩, .string ⟨#[]⟩]).cells (len - c)).toList = zs at *
              have HN2 := hide (belowN_row (g := g) (cs := (cur.toList.take (c * 3) ++ zs ++ cur.toList.drop (c * 3 + zs.length)).toArray) hnx hn)
              have HR2 := hide (HRC.out zs (c * 3 + zs.length))
              generalize wr.setRow g (cur.toList.take (c * 3) ++ zs ++ cur.toList.drop (c * 3 + zs.length)).toArray = W2 at *
              clear hrow' hcur hcc hnx HRC
              go_wp2_with fail
              go_ret
              exact ⟨_, by rw [← HCC.out]; rfl, HR2.out, HN2.out⟩
      · have HE : Hid (Nm.cpt l = l) := hide (by
          have h1 := cpt_self (l := l) (fun q a b h1 h2 => HALL.out q a b (by have := (List.getElem?_eq_some_iff.1 h2).1; have := HL.out; omega) h1 h2) l.length (Nat.le_refl _)
          rwa [List.take_length] at h1)
        have hlt : decide ((j : Int) + 1 < (len : Int)) = false := by simp; omega
        clear hrow
        go_wp2_with fail
        go_ret
        exact ⟨_, by rw [HE.out, ← HL.out]; rfl, by rw [HE.out]; exact HROW.out, HNX.out⟩

end Go.Proofs.YtbncnkfogkhoeaaGreatDoor

/- Walks over package names: Check, behind its forms. -/
namespace Go.Proofs.YtbncnkfogkhoeaaGreatDoor
open Go.RowKit

theorem hidW_alloc {W0 x : World} {o : Obj} (h : Hid (Below W0.heap.size W0 x)) : Hid (Below W0.heap.size W0 (x.alloc o)) := hide (h.out.alloc h.out.size o)
theorem hidW_drew {W0 x : World} (h : Hid (Below W0.heap.size W0 x)) : Hid (Below W0.heap.size W0 x.drew) := hide h.out.drew
set_option maxHeartbeats 1000000 in
theorem compactD_none (w : World) : Calls Tryz.prog 52 #[.slice none 0 0] w fun e w' => e = .returned (.slice none 0 0) ∧ w' = w := by
  go_enter Tryz.func52, Tryz.ntmps52
  go_wp2
  go_ret
  exact ⟨rfl, rfl⟩
theorem RowD.dgs {w : World} {g c : Nat} {l : List Dg} (h : RowD w g l) (hl : l.length ≤ 9223372036854775807) : DgsAt w (.slice (some ⟨g, 0, none⟩) l.length c) l :=
  ⟨_, g, 0, c, rfl, fun _ => rfl, hl, fun i d hd => by rw [Nat.zero_add]; exact h.cell hd⟩
namespace Nm
/-- All that Check comes to. -/
def prL (names : List ByteArray) (x : Mo) (known : List Mo) (m : Nat) : List Dg := [imD x known, twD x, lvD names x m, clD x known m].flatten
/-- What Check answers beside its error. -/
def prD (E : Int) (names : List ByteArray) (x : Mo) (known : List Mo) (m : Nat) : List Dg := if E = 0 then once (prL names x known m) else []
end Nm
theorem DgsS.drew {w : World} {n : Nat} {v : Value} {ls : List (List Dg)} (h : DgsS w n v ls) : DgsS w.drew n v ls := by
  obtain ⟨b, off, cap, e, h16, h1⟩ := h
  refine ⟨b, off, cap, e, h16, fun i l hl => ?_⟩
  obtain ⟨vi, g0, g1⟩ := h1 i l hl
  exact ⟨vi, g0, g1.below (Below.refl _ _).drew⟩
theorem dgs_four {w : World} {n : Nat} {v0 v1 v2 v3 : Value} {l0 l1 l2 l3 : List Dg} (h0 : OwnK DgC w n 43 3 v0 l0) (h1 : OwnK DgC w n 43 3 v1 l1) (h2 : OwnK DgC w n 43 3 v2 l2) (h3 : OwnK DgC w n 43 3 v3 l3) :
    ∀ (i : Nat) v l, [v0, v1, v2, v3][i]? = some v → [l0, l1, l2, l3][i]? = some l → OwnK DgC w n 43 3 v l := fun i v l hv hl => by
  match i, hv, hl with
  | 0, hv, hl => simp at hv hl; subst hv hl; exact h0
  | 1, hv, hl => simp at hv hl; subst hv hl; exact h1
  | 2, hv, hl => simp at hv hl; subst hv hl; exact h2
  | 3, hv, hl => simp at hv hl; subst hv hl; exact h3
  | i + 4, hv, hl => simp at hv
theorem boxD (w : World) (cs : Array Value) (t : TypeId) (i : Nat) (v : Value) (h : cs[i]? = some v) : (w.alloc (.cells cs t)).cell? ⟨w.heap.size, i, none⟩ = some v := (block_at (block_new w (.cells cs t)) i).trans h

set_option maxHeartbeats 4000000 in
set_option maxRecDepth 100000 in
theorem ncheck_any (m : Nat) (w : World) (vn vl vi vv vf vk : Value) (names : List ByteArray) (x : Mo) (known : List Mo) (E : Int) (hN : Strs w vn names) (h : MoAt w m (.agg #[.string x.name, vi, vv, vf]) x) (hK : MosAt w m vk known) (hC : MoCap w vi vf)
    (hform : ∀ wx, Below w.heap.size w wx → Calls Tryz.prog 43 #[.agg #[vn, vl], .agg #[.string x.name, vi, vv, vf], vk] wx fun e w' => e = .returned (.int .i64 E) ∧ Below wx.heap.size wx w')
    (hlv : x.vars.length ≤ 1048576) (hlf : x.funs.length ≤ 1048576) (hli : x.imports.length ≤ 1048576) (hlen : (Nm.prL names x known m).length ≤ 16777216) :
    Calls Tryz.prog 11 #[.agg #[vn, vl], .agg #[.string x.name, vi, vv, vf], vk] w fun e w' => ∃ u, e = .returned (.tuple #[u, .int .i64 E]) ∧ DgsAt w' u (Nm.prD E names x known m) ∧ Below w.heap.size w w' := by
  have HN := hide hN
  have HM := hide h
  have HK := hide hK
  have HMC := hide hC
  obtain ⟨hI, hV, hF⟩ := h.split
  obtain ⟨an, bn, on, cn, rfl, -⟩ := hN
  obtain ⟨ai, bi, oi, ci, rfl, -⟩ := hI
  obtain ⟨av, bv, ov, cv, rfl, -⟩ := hV
  obtain ⟨af, bf, of, cf, rfl, -⟩ := hF
  obtain ⟨ak, bk, ok, ck, rfl, -⟩ := hK
  have HFO := hide hform
  obtain ⟨D1, hD1⟩ : ∃ D, D = Nm.imD x known := ⟨_, rfl⟩
  obtain ⟨D2, hD2⟩ : ∃ D, D = Nm.twD x := ⟨_, rfl⟩
  obtain ⟨D3, hD3⟩ : ∃ D, D = Nm.lvD names x m := ⟨_, rfl⟩
  obtain ⟨D4, hD4⟩ : ∃ D, D = Nm.clD x known m := ⟨_, rfl⟩
  have HPL : Hid (Nm.prL names x known m = [D1, D2, D3, D4].flatten) := hide (by rw [hD1, hD2, hD3, hD4]; rfl)
  rw [HPL.out] at hlen
  have HLE := hide hlen
  have HL4 : Hid (D1.length ≤ 16777216 ∧ D2.length ≤ 16777216 ∧ D3.length ≤ 16777216 ∧ D4.length ≤ 16777216) := hide (by
    simp only [List.flatten_cons, List.flatten_nil, List.append_nil, List.length_append] at hlen
    refine ⟨?_, ?_, ?_, ?_⟩ <;> omega)
  have HC1 := hide (fun wx vk' va (hS : ScV wx m x known (.slice ai x.imports.length ci) (.slice av x.vars.length cv) (.slice af x.funs.length cf) vk' va) => importDiags_any m wx x known _ _ _ vk' va hS (by rw [← hD1]; exact HL4.out.1))
  have HC2 := hide (fun wx (hb : Below w.heap.size w wx) => twiceDiags_any m wx _ _ _ x (HM.out.below hb) (HMC.out.below hb) hlv hlf (by rw [← hD2]; exact HL4.out.2.1))
  have HC3 := hide (fun wx (hb : Below w.heap.size w wx) => levelDiags_any m wx _ vl _ _ _ names x (HN.out.below hb) (HM.out.below hb) (by rw [← hD3]; exact HL4.out.2.2.1))
  have HC4 := hide (fun wx vk' va (hS : ScV wx m x known (.slice ai x.imports.length ci) (.slice av x.vars.length cv) (.slice af x.funs.length cf) vk' va) => callDiags_any m wx x known _ _ _ vk' va hS (by rw [← hD4]; exact HL4.out.2.2.2))
  rw [← hD1] at HC1
  rw [← hD2] at HC2
  rw [← hD3] at HC3
  rw [← hD4] at HC4
  have HSC := hide (fun wx (hb : Below w.heap.size w wx) => newScope_any m wx _ _ _ _ x known (HM.out.below hb) (HK.out.below hb) hli)
  have HCF := hide (hC.fus)
  generalize x.imports.length = ni at *
  generalize x.vars.length = nv at *
  generalize x.funs.length = nf at *
  generalize known.length = nk at *
  generalize names.length = nn at *
  obtain ⟨b0, b1, hb0⟩ := al2 w (.cells #[.slice an nn cn, vl] 34) (.cells #[.string x.name, .slice ai ni ci, .slice av nv cv, .slice af nf cf] 26)
  have HB0 := hide b0
  have HB1 := hide b1
  have HBL := hide hb0
  have q0 := (block_at b0 0).trans (rfl : _ = some (Value.slice an nn cn))
  have q1 := (block_at b0 1).trans (rfl : _ = some vl)
  have r0 := (block_at b1 0).trans (rfl : _ = some (Value.string x.name))
  have r1 := (block_at b1 1).trans (rfl : _ = some (Value.slice ai ni ci))
  have r2 := (block_at b1 2).trans (rfl : _ = some (Value.slice av nv cv))
  have r3 := (block_at b1 3).trans (rfl : _ = some (Value.slice af nf cf))
  obtain ⟨PD, hPD⟩ : ∃ P, P = Nm.prD E names x known m := ⟨_, rfl⟩
  have HPP := hide hPD
  rw [← hPD]
  clear h hC hform hlen hD1 hD2 hD3 hD4 b0 b1 hb0 hPD
  go_enter Tryz.func11, Tryz.ntmps11
  go_wp2_with fail
  generalize ((w.alloc (.cells #[.slice an nn cn, vl] 34)).alloc (.cells #[.string x.name, .slice ai ni ci, .slice av nv cv, .slice af nf cf] 26)) = W0 at *
  refine (HFO.out _ HBL.out).mono ?_
  rintro e w1 ⟨rfl, hb1⟩
  have HB2 := hide (up HBL.out hb1)
  replace q0 := cellUp q0 hb1
  replace q1 := cellUp q1 hb1
  replace r0 := cellUp r0 hb1
  replace r1 := cellUp r1 hb1
  replace r2 := cellUp r2 hb1
  replace r3 := cellUp r3 hb1
  clear hb1
  by_cases hE : E = 0
  · subst hE
    have HPD : Hid (Nm.prD 0 names x known m = Nm.once [D1, D2, D3, D4].flatten) := hide (by unfold Nm.prD; rw [if_pos rfl, HPL.out])
    go_wp2_with fail
    refine (HSC.out _ HB2.out).mono ?_
    rintro e w2 ⟨va, rfl, hints, hb2⟩
    have HIN := hide hints
    obtain ⟨aa, ba, oa, ca, rfl, -⟩ := hints
    generalize (x.imports.map fun s => Nm.oI (Nm.moAt known s)).length = nat at *
    have HB3 := hide (up HB2.out hb2)
    have HQ := hide (And.intro (cellUp q0 hb2) (And.intro (cellUp q1 hb2) (And.intro (cellUp r0 hb2) (And.intro (cellUp r1 hb2) (And.intro (cellUp r2 hb2) (cellUp r3 hb2))))))
    have HSV : Hid (ScV w2 m x known (.slice ai ni ci) (.slice av nv cv) (.slice af nf cf) (.slice ak nk ck) (.slice aa nat ca)) := hide ⟨HM.out.below HB3.out, HK.out.below HB3.out, HIN.out, HCF.out⟩
    clear q0 q1 r0 r1 r2 r3 hb2
    go_wp2_with fail
    have HW4 := hide (boxBelow w2 (.cells #[.string x.name, .slice ai ni ci, .slice av nv cv, .slice af nf cf, .slice ak nk ck, .slice aa nat ca] 103))
    have hs := box6 w2 (.string x.name) (.slice ai ni ci) (.slice av nv cv) (.slice af nf cf) (.slice ak nk ck) (.slice aa nat ca) 103
    have HF : Hid (∀ wx, Hid (Below (w2.alloc (.cells #[.string x.name, .slice ai ni ci, .slice av nv cv, .slice af nf cf, .slice ak nk ck, .slice aa nat ca] 103)).heap.size (w2.alloc (.cells #[.string x.name, .slice ai ni ci, .slice av nv cv, .slice af nf cf, .slice ak nk ck, .slice aa nat ca] 103)) wx) →
        wx.cell? ⟨w.heap.size, 0, none⟩ = some (.slice an nn cn) ∧ wx.cell? ⟨w.heap.size, 1, none⟩ = some vl ∧ wx.cell? ⟨w.heap.size + 1, 0, none⟩ = some (.string x.name) ∧ wx.cell? ⟨w.heap.size + 1, 1, none⟩ = some (.slice ai ni ci) ∧ wx.cell? ⟨w.heap.size + 1, 2, none⟩ = some (.slice av nv cv) ∧ wx.cell? ⟨w.heap.size + 1, 3, none⟩ = some (.slice af nf cf) ∧
        wx.cell? ⟨w2.heap.size, 0, none⟩ = some (.string x.name) ∧ wx.cell? ⟨w2.heap.size, 1, none⟩ = some (.slice ai ni ci) ∧ wx.cell? ⟨w2.heap.size, 2, none⟩ = some (.slice av nv cv) ∧ wx.cell? ⟨w2.heap.size, 3, none⟩ = some (.slice af nf cf) ∧ wx.cell? ⟨w2.heap.size, 4, none⟩ = some (.slice ak nk ck) ∧ wx.cell? ⟨w2.heap.size, 5, none⟩ = some (.slice aa nat ca)) :=
      hide (fun wx h => ⟨cellUp (cellUp HQ.out.1 HW4.out) h.out, cellUp (cellUp HQ.out.2.1 HW4.out) h.out, cellUp (cellUp HQ.out.2.2.1 HW4.out) h.out, cellUp (cellUp HQ.out.2.2.2.1 HW4.out) h.out, cellUp (cellUp HQ.out.2.2.2.2.1 HW4.out) h.out, cellUp (cellUp HQ.out.2.2.2.2.2 HW4.out) h.out,
        cellUp (hs 0 _ rfl) h.out, cellUp (hs 1 _ rfl) h.out, cellUp (hs 2 _ rfl) h.out, cellUp (hs 3 _ rfl) h.out, cellUp (hs 4 _ rfl) h.out, cellUp (hs 5 _ rfl) h.out⟩)
    have HSV4 := hide (HSV.out.below HW4.out)
    have HB4 := hide (up HB3.out HW4.out)
    clear hs HQ HW4
    generalize (w2.alloc (.cells #[.string x.name, .slice ai ni ci, .slice av nv cv, .slice af nf cf, .slice ak nk ck, .slice aa nat ca] 103)) = W4 at *
    have H00 : Hid (Below W4.heap.size W4 W4) := hide (Below.refl _ _)
    obtain ⟨F, hF⟩ : ∃ F, F = ([D1, D2, D3, D4] : List (List Dg)).flatten := ⟨_, rfl⟩
    have HFF := hide hF
    clear hF
    go_region_held3 (fun wx => wx.cell? ⟨w.heap.size, 0, none⟩ = some (.slice an nn cn) ∧ wx.cell? ⟨w.heap.size, 1, none⟩ = some vl ∧ wx.cell? ⟨w.heap.size + 1, 0, none⟩ = some (.string x.name) ∧ wx.cell? ⟨w.heap.size + 1, 1, none⟩ = some (.slice ai ni ci) ∧ wx.cell? ⟨w.heap.size + 1, 2, none⟩ = some (.slice av nv cv) ∧ wx.cell? ⟨w.heap.size + 1, 3, none⟩ = some (.slice af nf cf) ∧
        wx.cell? ⟨w2.heap.size, 0, none⟩ = some (.string x.name) ∧ wx.cell? ⟨w2.heap.size, 1, none⟩ = some (.slice ai ni ci) ∧ wx.cell? ⟨w2.heap.size, 2, none⟩ = some (.slice av nv cv) ∧ wx.cell? ⟨w2.heap.size, 3, none⟩ = some (.slice af nf cf) ∧ wx.cell? ⟨w2.heap.size, 4, none⟩ = some (.slice ak nk ck) ∧ wx.cell? ⟨w2.heap.size, 5, none⟩ = some (.slice aa nat ca))
      ((refine HF.out _ ?_; repeat (first | exact HW9 | exact HW8 | exact HW7 | exact HW6 | exact HW5 | exact H00 | apply hidW_drew | apply hidW_alloc)))
      (first
        | (go_at_call 46; refine (HC1.out _ _ _ (HSV4.out.below (unhide (by repeat (first | exact H00 | apply hidW_drew))))).mono ?_; rintro e w5 ⟨u5, rfl, hu5, hb5⟩; obtain ⟨a5, c5, rfl⟩ := hu5.form; have HW5 : Hid (Below W4.heap.size W4 w5) := hide (up (w := W4) (unhide (by repeat (first | exact H00 | apply hidW_drew))) hb5); have HU5 := hide hu5; clear hu5 hb5)
        | (go_at_call 47; refine (HC2.out _ (up HB4.out (unhide (by repeat (first | exact HW5 | apply hidW_drew))))).mono ?_; rintro e w6 ⟨u6, rfl, hu6, hb6⟩; obtain ⟨a6, c6, rfl⟩ := hu6.form; have HW6 : Hid (Below W4.heap.size W4 w6) := hide (up (w := W4) (unhide (by repeat (first | exact HW5 | apply hidW_drew))) hb6); have HU6 := hide hu6; have HV5 := hide (HU5.out.below (show Below w5.heap.size w5 w6 from hb6)); clear hu6 hb6)
        | (go_at_call 48; refine (HC3.out _ (up HB4.out (unhide (by repeat (first | exact HW6 | apply hidW_drew))))).mono ?_; rintro e w7 ⟨u7, rfl, hu7, hb7⟩; obtain ⟨a7, c7, rfl⟩ := hu7.form; have HW7 : Hid (Below W4.heap.size W4 w7) := hide (up (w := W4) (unhide (by repeat (first | exact HW6 | apply hidW_drew))) hb7); have HU7 := hide hu7; have HX5 := hide (HV5.out.below (show Below w6.heap.size w6 w7 from hb7)); have HX6 := hide (HU6.out.below (show Below w6.heap.size w6 w7 from hb7)); clear hu7 hb7)
        | (go_at_call 49; refine (HC4.out _ _ _ (HSV4.out.below (unhide (by repeat (first | exact HW7 | apply hidW_drew))))).mono ?_; rintro e w8 ⟨u8, rfl, hu8, hb8⟩; obtain ⟨a8, c8, rfl⟩ := hu8.form; have HW8 : Hid (Below W4.heap.size W4 w8) := hide (up (w := W4) (unhide (by repeat (first | exact HW7 | apply hidW_drew))) hb8); have HU8 := hide hu8; have HY5 := hide (HX5.out.below (show Below w7.heap.size w7 w8 from hb8)); have HY6 := hide (HX6.out.below (show Below w7.heap.size w7 w8 from hb8)); have HY7 := hide (HU7.out.below (show Below w7.heap.size w7 w8 from hb8)); clear hu8 hb8)
        | (go_at_call 45; have HDS : Hid (DgsS (w8.alloc (.cells #[.slice a5 D1.length c5, .slice a6 D2.length c6, .slice a7 D3.length c7, .slice a8 D4.length c8] 37)) W4.heap.size (.slice (some ⟨w8.heap.size, 0, none⟩) 4 4) [D1, D2, D3, D4]) := hide (dgsS_list w8 W4.heap.size 37 [.slice a5 D1.length c5, .slice a6 D2.length c6, .slice a7 D3.length c7, .slice a8 D4.length c8] [D1, D2, D3, D4] rfl (by simp) (dgs_four (HY5.out.old (Nat.le_refl _)) (HY6.out.old HW5.out.size) (HY7.out.old HW6.out.size) (HU8.out.old HW7.out.size))); refine (concatD_any _ W4.heap.size _ [D1, D2, D3, D4] (by repeat (first | exact HDS.out | apply DgsS.drew)) HLE.out).mono ?_; rintro e w9 ⟨u9, rfl, hu9, hb9⟩; rw [← HFF.out] at hu9; have HW9 : Hid (Below W4.heap.size W4 w9) := hide (up (w := W4) (unhide (by repeat (first | exact HW8 | apply hidW_drew | apply hidW_alloc))) hb9); have HU9 := hide (hu9.old (show W4.heap.size ≤ _ from (unhide (by repeat (first | exact HW8 | apply hidW_drew | apply hidW_alloc)) : Below W4.heap.size W4 _).size)); obtain ⟨a9, c9, rfl⟩ := hu9.form; clear hu9 hb9))
    all_goals
      have HLF : Hid (F.length ≤ 16777216) := hide (by rw [HFF.out]; exact HLE.out)
      have HB9 := hide (up HB4.out HW9.out)
      have HOF : Hid (PD = Nm.once F) := hide (by rw [HPP.out, HPD.out, HFF.out])
      clear HU5 HU6 HU7 HU8 HV5 HX5 HX6 HY5 HY6 HY7 HW5 HW6 HW7 HW8
      rcases HU9.out.shape with ⟨hz, hF0⟩ | ⟨g, cap, hz, hcp, hg1, hg2, hFn⟩
      · have HF0 := hide hF0
        rw [hF0] at hz ⊢
        injection hz with hz1 hz2 hz3
        subst hz1 hz3
        clear hF0 hz2
        go_wp2_with fail
        refine (sortD_none _ _ _).mono ?_
        rintro e w10 ⟨rfl, hw10⟩
        subst hw10
        go_wp2_with fail
        refine (compactD_none _).mono ?_
        rintro e w11 ⟨rfl, hw11⟩
        subst hw11
        go_wp2_with fail
        refine bodyPost_ret (v := .tuple #[.slice none 0 0, .int .i64 0]) (by simp [results, Tryz.results11, go_sem]) rfl ?_
        exact ⟨_, rfl, by rw [HOF.out, HF0.out]; show DgsAt _ _ []; exact ⟨none, 0, 0, 0, rfl, fun h => absurd h (by simp), by simp, fun i d hd => by simp at hd⟩, HB9.out⟩
      · injection hz with hz1 hz2 hz3
        subst hz1 hz3
        obtain ⟨fl, hfl⟩ : ∃ n, n = F.length := ⟨_, rfl⟩
        have HFL := hide hfl
        rw [← hfl] at HU9 hcp HLF ⊢
        have HG : Hid (w.heap.size ≤ g) := hide (Nat.le_trans HB4.out.size hg1)
        clear hz2 hfl hFn
        go_wp2_with fail
        refine (sortD_any w9 w.heap.size g fl c9 F (HU9.out.row HFL.out) HFL.out HG.out (by rw [← HFL.out]; exact HLF.out)).mono ?_
        rintro e w10 ⟨rfl, s, hsl, hsm, hss, hrow, hb10⟩
        have HSL := hide hsl
        have HSM := hide hsm
        have HSS := hide hss
        have HROW := hide hrow
        have HB10 := hide (HB9.out.trans hb10)
        clear hsl hsm hss hrow hb10
        go_wp2_with fail
        refine (compactD_any w10 w.heap.size g fl c9 s HROW.out (by rw [HSL.out]; exact HFL.out) hcp HG.out HLF.out).mono ?_
        rintro e w11 ⟨c11, rfl, hrow, hb11⟩
        have HE11 : Hid (PD = Nm.cpt s) := hide (by rw [HOF.out]; exact (Nm.cpt_once HSS.out HSM.out (fun _ => Iff.rfl)).symm)
        rw [← HE11.out] at hrow ⊢
        have HROW11 := hide hrow
        have HB11 := hide (HB10.out.trans hb11)
        have HPL2 : Hid (PD.length ≤ 9223372036854775807) := hide (by
          have h1 := Nm.cpt_len s
          rw [← HE11.out, HSL.out, ← HFL.out] at h1
          have := HLF.out
          omega)
        generalize hpl : PD.length = pl at *
        have HPL3 := hide hpl
        clear hrow hb11 hpl
        go_wp2_with fail
        refine bodyPost_ret (v := .tuple #[.slice (some ⟨g, 0, none⟩) pl c11, .int .i64 0]) (by simp [results, Tryz.results11, go_sem]) rfl ?_
        exact ⟨_, rfl, by rw [← HPL3.out]; exact HROW11.out.dgs (by rw [HPL3.out]; exact HPL2.out), HB11.out⟩
  · have hE' : (E == 0) = false := by simp [hE]
    have HPD : Hid (Nm.prD E names x known m = []) := hide (by unfold Nm.prD; rw [if_neg hE])
    clear hE
    go_wp2_with fail
    refine bodyPost_ret (v := .tuple #[.slice none 0 0, .int .i64 E]) (by simp [results, Tryz.results11, go_sem]) rfl ?_
    exact ⟨_, rfl, by rw [HPP.out, HPD.out]; exact ⟨none, 0, 0, 0, rfl, fun h => absurd h (by simp), by simp, fun i d hd => by simp at hd⟩, HB2.out⟩

end Go.Proofs.YtbncnkfogkhoeaaGreatDoor
