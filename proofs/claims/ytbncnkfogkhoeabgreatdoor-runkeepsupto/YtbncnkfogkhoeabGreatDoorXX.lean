/- Running functions, plain mathematics: what isn't set stays, what is done is told, a run behind a run. -/
import Derived.Test.YtbncnkfogkhoeabGreatDoorZAR
namespace Go.Proofs.YtbncnkfogkhoeabGreatDoor
open Go.RowKit

namespace Rn
theorem pos_some {nm : List (ByteArray × ByteArray)} {x y : ByteArray} {i : Nat} (h : pos nm x y = some i) : nm[i]? = some (x, y) := by
  unfold pos at h
  have h1 := List.find?_some h
  cases hn : nm[i]? with
  | none => rw [hn] at h1; cases h1
  | some z =>
    rw [hn] at h1
    simp only [Bool.and_eq_true] at h1
    rw [sameB_iff, sameB_iff] at h1
    obtain ⟨z1, z2⟩ := z
    simp only at h1
    rw [h1.1, h1.2]
theorem addN_has (nm : List (ByteArray × ByteArray)) (x y : ByteArray) : (x, y) ∈ addN nm x y := by
  unfold addN
  split
  · rename_i h
    obtain ⟨i, hi⟩ := Option.isSome_iff_exists.1 h
    exact List.mem_of_getElem? (pos_some hi)
  · simp
theorem addN_keeps {nm : List (ByteArray × ByteArray)} {x y : ByteArray} {z : ByteArray × ByteArray} (h : z ∈ nm) : z ∈ addN nm x y := by
  unfold addN
  split
  · exact h
  · simp [h]
theorem mkVs_keeps {store : List Ce} {mod : ByteArray} {z : ByteArray × ByteArray} : ∀ {vs : List Va} {st : List (ByteArray × ByteArray) × List Vr}, z ∈ st.1 → z ∈ (mkVs store mod st vs).1
  | [], _, h => h
  | v :: vs, st, h => by
    show z ∈ (mkVs store mod (addN st.1 mod v.name, addV store st.1 st.2 mod v.name) vs).1
    exact mkVs_keeps (addN_keeps h)
theorem mkVs_has {store : List Ce} {mod : ByteArray} {v : Va} : ∀ {vs : List Va} {st : List (ByteArray × ByteArray) × List Vr}, v ∈ vs → (mod, v.name) ∈ (mkVs store mod st vs).1
  | u :: vs, st, h => by
    show (mod, v.name) ∈ (mkVs store mod (addN st.1 mod u.name, addV store st.1 st.2 mod u.name) vs).1
    rcases List.mem_cons.1 h with rfl | h
    · exact mkVs_keeps (addN_has _ _ _)
    · exact mkVs_has h
theorem mkTo_keeps {store : List Ce} {l : List Mo} {z : ByteArray × ByteArray} {i : Nat} (h : z ∈ (mkTo store l i).1) : z ∈ (mkTo store l (i + 1)).1 := by
  unfold mkTo
  cases hy : l[i]? with
  | none => exact h
  | some y =>
    simp only
    split
    · exact h
    · exact mkVs_keeps h
theorem mkTo_up {store : List Ce} {l : List Mo} {z : ByteArray × ByteArray} {i : Nat} (h : z ∈ (mkTo store l i).1) : ∀ d, z ∈ (mkTo store l (i + d)).1
  | 0 => h
  | d + 1 => mkTo_keeps (mkTo_up h d)
theorem mkTo_has {store : List Ce} {l : List Mo} {i n : Nat} {y : Mo} {v : Va} (hy : l[i]? = some y) (hf : ¬ Nm.oI (Nm.moAt l y.name) < (i : Int)) (hv : v ∈ y.vars) (hn : i < n) : (y.name, v.name) ∈ (mkTo store l n).1 := by
  have h1 : (y.name, v.name) ∈ (mkTo store l (i + 1)).1 := by
    rw [mkTo]
    rw [hy]
    simp only
    rw [if_neg hf]
    exact mkVs_has hv
  have := mkTo_up h1 (n - (i + 1))
  rwa [show i + 1 + (n - (i + 1)) = n by omega] at this
/-- Which variables there are doesn't hang on the store. -/
theorem mkVs_nm {s1 s2 : List Ce} {mod : ByteArray} : ∀ {vs : List Va} {st st' : List (ByteArray × ByteArray) × List Vr}, st.1 = st'.1 → (mkVs s1 mod st vs).1 = (mkVs s2 mod st' vs).1
  | [], _, _, h => h
  | v :: vs, st, st', h => by
    show (mkVs s1 mod (addN st.1 mod v.name, addV s1 st.1 st.2 mod v.name) vs).1 = (mkVs s2 mod (addN st'.1 mod v.name, addV s2 st'.1 st'.2 mod v.name) vs).1
    refine mkVs_nm ?_
    simp only
    rw [h]
theorem mkTo_nm (s1 s2 : List Ce) (l : List Mo) : ∀ i, (mkTo s1 l i).1 = (mkTo s2 l i).1
  | 0 => rfl
  | i + 1 => by
    have h := mkTo_nm s1 s2 l i
    unfold mkTo
    cases hy : l[i]? with
    | none => exact h
    | some y =>
      simp only
      split
      · exact h
      · exact mkVs_nm h
/-- Each variable begins with the store's value. -/
def Init (store : List Ce) (st : List (ByteArray × ByteArray) × List Vr) : Prop := st.2 = st.1.map fun z => ⟨val0 store z.1 z.2, false, false⟩
theorem mkVs_init {store : List Ce} {mod : ByteArray} : ∀ {vs : List Va} {st : List (ByteArray × ByteArray) × List Vr}, Init store st → Init store (mkVs store mod st vs)
  | [], _, h => h
  | v :: vs, st, h => by
    show Init store (mkVs store mod (addN st.1 mod v.name, addV store st.1 st.2 mod v.name) vs)
    refine mkVs_init ?_
    unfold Init addN addV at *
    simp only
    split
    · exact h
    · rw [h]; simp
theorem mkTo_init (store : List Ce) (l : List Mo) : ∀ i, Init store (mkTo store l i)
  | 0 => rfl
  | i + 1 => by
    have h := mkTo_init store l i
    unfold mkTo
    cases hy : l[i]? with
    | none => exact h
    | some y =>
      simp only
      split
      · exact h
      · exact mkVs_init h
/-- What the store is asked for alone matters. -/
theorem mkTo_same {s1 s2 : List Ce} {l : List Mo} {i : Nat} (h : ∀ z ∈ (mkTo s1 l i).1, val0 s1 z.1 z.2 = val0 s2 z.1 z.2) : mkTo s1 l i = mkTo s2 l i := by
  have h1 := mkTo_init s1 l i
  have h2 := mkTo_init s2 l i
  have h3 := mkTo_nm s1 s2 l i
  unfold Init at h1 h2
  refine Prod.ext h3 ?_
  rw [h1, h2, ← h3]
  exact List.map_congr_left fun z hz => by rw [h z hz]
theorem ceAt_some {l : List Ce} {x y : ByteArray} {i : Nat} (h : ceAt l x y = some i) : (∃ c, l[i]? = some c ∧ isC x y c = true) ∧ ∀ d g, d < i → l[d]? = some g → isC x y g = false := by
  unfold ceAt at h
  have h1 := List.find?_some h
  refine ⟨?_, fun d g hd hg => ?_⟩
  · cases hn : l[i]? with
    | none => rw [hn] at h1; cases h1
    | some c => rw [hn] at h1; exact ⟨c, rfl, h1⟩
  · have h2 := List.find?_range_eq_some.1 h
    have := h2.2.2 d hd
    rw [hg] at this
    simpa using this
theorem val0_app {a b : List Ce} {x y : ByteArray} (h : (ceAt a x y).isSome = true) : val0 (a ++ b) x y = val0 a x y := by
  obtain ⟨i, hi⟩ := Option.isSome_iff_exists.1 h
  obtain ⟨⟨c, h1, h2⟩, h3⟩ := ceAt_some hi
  have hlt := (List.getElem?_eq_some_iff.1 h1).1
  have h4 : ceAt (a ++ b) x y = some i := ceAt_hit (c := c) (by rw [List.getElem?_append_left hlt]; exact h1) h2 (fun d g hd hg => h3 d g hd (by rw [List.getElem?_append_left (by omega)] at hg; exact hg))
  unfold val0
  rw [hi, h4]
  simp only [Option.bind_some]
  rw [List.getElem?_append_left hlt]
theorem ceAt_mem {a : List Ce} {c : Ce} (h : c ∈ a) : (ceAt a c.mod c.name).isSome = true := by
  cases hn : ceAt a c.mod c.name with
  | some i => rfl
  | none =>
    exfalso
    unfold ceAt at hn
    rw [List.find?_eq_none] at hn
    obtain ⟨i, hi, rfl⟩ := List.mem_iff_getElem.1 h
    have := hn i (by simpa using hi)
    rw [List.getElem?_eq_getElem hi] at this
    simp only [isC] at this
    apply this
    rw [Bool.and_eq_true]
    exact ⟨sameB_iff.2 rfl, sameB_iff.2 rfl⟩
theorem sto_mem {nm : List (ByteArray × ByteArray)} {vs : List Vr} (hl : vs.length = nm.length) {z : ByteArray × ByteArray} (hz : z ∈ nm) : (ceAt (sto nm vs) z.1 z.2).isSome = true := by
  obtain ⟨i, hi, rfl⟩ := List.mem_iff_getElem.1 hz
  have hiv : i < vs.length := by omega
  have hm : (⟨nm[i].1, nm[i].2, vs[i].val⟩ : Ce) ∈ sto nm vs := by
    unfold sto
    refine List.mem_map.2 ⟨(nm[i], vs[i]), ?_, rfl⟩
    exact List.mem_of_getElem? (List.getElem?_zip_eq_some.2 ⟨List.getElem?_eq_getElem hi, List.getElem?_eq_getElem hiv⟩)
  exact ceAt_mem hm
theorem run_ok {g m : Nat} {l : List Mo} {mod fn : ByteArray} {args : List Int} {store : List Ce} {f : Int} (h : (run g m l mod fn args store f).err = 0) : ∃ (x : Int × Int × Sta), x.2.1 = 0 ∧ run g m l mod fn args store f = ⟨x.1, sto (mkTo store l l.length).1 x.2.2.vs, x.2.2.pr, cptS (srtS (did (mkTo store l l.length).1 x.2.2.vs x.2.2.pr)), 0⟩ ∧ ∃ fu, Stay ⟨fu, (mkTo store l l.length).2, []⟩ x.2.2 := by
  unfold run at h ⊢
  by_cases h0 : mosR m l ≠ 0
  · rw [if_pos h0] at h; exact absurd h h0
  · rw [if_neg h0] at h ⊢
    by_cases h1 : f < 1 ∨ 10000 < f
    · rw [if_pos h1] at h; cases h
    · rw [if_neg h1] at h ⊢
      cases hk : fnd l mod fn with
      | none => rw [hk] at h; cases h
      | some p =>
        obtain ⟨a, k⟩ := p
        rw [hk] at h
        simp only at h ⊢
        refine ⟨enter (M (mkTo store l l.length).1 l g) l a k args ⟨f.toNat, (mkTo store l l.length).2, []⟩, ?_, ?_, f.toNat, enter_rel (stay_rel (mkTo store l l.length).1) (M_rel (stay_rel (mkTo store l l.length).1) l g) l a k args _⟩
        · unfold out at h
          by_cases h2 : (enter (M (mkTo store l l.length).1 l g) l a k args ⟨f.toNat, (mkTo store l l.length).2, []⟩).2.1 = 0
          · exact h2
          · rw [if_neg h2] at h; exact absurd h h2
        · unfold out at h ⊢
          by_cases h2 : (enter (M (mkTo store l l.length).1 l g) l a k args ⟨f.toNat, (mkTo store l l.length).2, []⟩).2.1 = 0
          · rw [if_pos h2]
          · rw [if_neg h2] at h; exact absurd h h2
/-- What isn't set stays. -/
theorem run_stays {g m : Nat} {l : List Mo} {mod fn : ByteArray} {args : List Int} {store : List Ce} {f : Int} (h : (run g m l mod fn args store f).err = 0) {c : Ce} (hc : c ∈ (run g m l mod fn args store f).sto) : c.val = val0 store c.mod c.name ∨ tag 119 (c.mod, c.name) ∈ (run g m l mod fn args store f).did := by
  obtain ⟨x, h1, h2, fu, h3⟩ := run_ok h
  rw [h2] at hc ⊢
  have hi := mkTo_init store l l.length
  generalize mkTo store l l.length = st at *
  simp only at hc ⊢
  unfold sto at hc
  obtain ⟨⟨z, u⟩, hp, rfl⟩ := List.mem_map.1 hc
  obtain ⟨i, hi'⟩ := List.mem_iff_getElem?.1 hp
  obtain ⟨hz, hu⟩ := List.getElem?_zip_eq_some.1 hi'
  obtain ⟨hl, hs, _⟩ := h3
  have hv : st.2[i]? = some ⟨val0 store z.1 z.2, false, false⟩ := by
    unfold Init at hi
    rw [hi, List.getElem?_map, hz]
    rfl
  have h4 := hs i _ u hv hu
  cases hst : u.st with
  | false => exact Or.inl (h4.1 hst).2
  | true =>
    right
    rw [cptS_mem, srtS_mem]
    unfold did didV
    refine List.mem_append_left _ (List.mem_flatten.2 ⟨did1 (z, u), List.mem_map.2 ⟨(z, u), hp, rfl⟩, ?_⟩)
    unfold did1
    rw [hst]
    simp
/-- What is printed is told. -/
theorem run_prints {g m : Nat} {l : List Mo} {mod fn : ByteArray} {args : List Int} {store : List Ce} {f : Int} (h : (run g m l mod fn args store f).err = 0) {d : ByteArray × Int} (hd : d ∈ (run g m l mod fn args store f).pr) : tagP d.1 ∈ (run g m l mod fn args store f).did := by
  obtain ⟨x, h1, h2, fu, h3⟩ := run_ok h
  rw [h2] at hd ⊢
  simp only at hd ⊢
  rw [cptS_mem, srtS_mem]
  unfold did
  exact List.mem_append_right _ (List.mem_map.2 ⟨d, hd, rfl⟩)
/-- A run behind a run goes on with its store. -/
theorem run_again {g m : Nat} {l : List Mo} {mod fn : ByteArray} {args : List Int} {store : List Ce} {f : Int} (h : (run g m l mod fn args store f).err = 0) (g' : Nat) (f' : Int) :
    run g' m l mod fn args ((run g m l mod fn args store f).sto ++ store) f' = run g' m l mod fn args (run g m l mod fn args store f).sto f' := by
  obtain ⟨x, h1, h2, fu, h3⟩ := run_ok h
  rw [h2]
  simp only
  have hl : x.2.2.vs.length = (mkTo store l l.length).1.length := by
    have := h3.1
    have hi := mkTo_init store l l.length
    unfold Init at hi
    have h5 := congrArg List.length hi
    rw [List.length_map] at h5
    simp only at this
    omega
  have e : mkTo (sto (mkTo store l l.length).1 x.2.2.vs ++ store) l l.length = mkTo (sto (mkTo store l l.length).1 x.2.2.vs) l l.length := by
    refine mkTo_same fun z hz => ?_
    rw [mkTo_nm _ store] at hz
    exact val0_app (sto_mem hl hz)
  unfold run
  rw [e]
end Rn

end Go.Proofs.YtbncnkfogkhoeabGreatDoor
