/- Running functions by the document, plain: which cells there are. -/
import Derived.Test.YtnheahdcfadclaaGreatDoorZBA
import Derived.Test.YtnheahdcfadclaaGreatDoorDF
namespace Go.Proofs.YtnheahdcfadclaaGreatDoor
open Go.RowKit

namespace Rn
/-- A cell more, if there is none of that variable yet. -/
def addC (store T : List Ce) (x y : ByteArray) : List Ce := if (ceAt T x y).isSome = true then T else T ++ [⟨x, y, val0 store x y⟩]
def celVs (store : List Ce) (mod : ByteArray) (T : List Ce) (vs : List Va) : List Ce := vs.foldl (fun T v => addC store T mod v.name) T
/-- Is the module the first of its name? -/
def isFst (l : List Mo) (i : Nat) (x : ByteArray) : Bool := (l.take i).all fun z => !(Nm.sameB z.name x)
/-- The cells of the first i modules: of those that are the first of their name, or of the others. -/
def celTo (p : Bool) (store : List Ce) (l : List Mo) (T0 : List Ce) : Nat → List Ce
  | 0 => T0
  | i + 1 => match l[i]? with
    | some y => if (isFst l i y.name == p) = true then celVs store y.name (celTo p store l T0 i) y.vars else celTo p store l T0 i
    | none => celTo p store l T0 i
/-- The cells behind so many passes. -/
def pasT (store : List Ce) (l : List Mo) : Nat → List Ce
  | 0 => []
  | k + 1 => celTo (k == 0) store l (pasT store l k) l.length
theorem celVs_snoc {store : List Ce} {mod : ByteArray} {T : List Ce} {vs : List Va} {t : Nat} {v : Va} (hv : vs[t]? = some v) : celVs store mod T (vs.take (t + 1)) = addC store (celVs store mod T (vs.take t)) mod v.name := by
  unfold celVs
  rw [List.take_add_one, hv, Option.toList_some, List.foldl_append]
  rfl
theorem celTo_yes {p : Bool} {store : List Ce} {l : List Mo} {T0 : List Ce} {i : Nat} {y : Mo} (hy : l[i]? = some y) (h : (isFst l i y.name == p) = true) : celTo p store l T0 (i + 1) = celVs store y.name (celTo p store l T0 i) y.vars := by
  show (match l[i]? with | some y => if (isFst l i y.name == p) = true then celVs store y.name (celTo p store l T0 i) y.vars else celTo p store l T0 i | none => celTo p store l T0 i) = _
  rw [hy]
  simp only [h, if_true]
theorem celTo_no {p : Bool} {store : List Ce} {l : List Mo} {T0 : List Ce} {i : Nat} {y : Mo} (hy : l[i]? = some y) (h : (isFst l i y.name == p) = false) : celTo p store l T0 (i + 1) = celTo p store l T0 i := by
  show (match l[i]? with | some y => if (isFst l i y.name == p) = true then celVs store y.name (celTo p store l T0 i) y.vars else celTo p store l T0 i | none => celTo p store l T0 i) = _
  rw [hy]
  simp [h]
theorem addC_pre (store T : List Ce) (x y : ByteArray) : ∃ r, addC store T x y = T ++ r ∧ r.length ≤ 1 := by
  unfold addC
  split
  · exact ⟨[], by simp, by simp⟩
  · exact ⟨_, rfl, by simp⟩
theorem celVs_pre (store : List Ce) (mod : ByteArray) : ∀ (vs : List Va) (T : List Ce), ∃ r, celVs store mod T vs = T ++ r ∧ r.length ≤ vs.length
  | [], T => ⟨[], by simp [celVs], by simp⟩
  | v :: vs, T => by
    obtain ⟨r1, h1, h2⟩ := addC_pre store T mod v.name
    obtain ⟨r2, h3, h4⟩ := celVs_pre store mod vs (addC store T mod v.name)
    refine ⟨r1 ++ r2, ?_, by rw [List.length_append, List.length_cons]; omega⟩
    show celVs store mod (addC store T mod v.name) vs = _
    rw [h3, h1, List.append_assoc]
theorem celTo_pre {p : Bool} {store : List Ce} {l : List Mo} (h8 : ∀ y ∈ l, y.vars.length ≤ 8) (T0 : List Ce) : ∀ i, ∃ r, celTo p store l T0 i = T0 ++ r ∧ r.length ≤ 8 * i
  | 0 => ⟨[], by simp [celTo], by simp⟩
  | i + 1 => by
    obtain ⟨r, h1, h2⟩ := celTo_pre (p := p) (store := store) h8 T0 i
    cases hy : l[i]? with
    | none => exact ⟨r, by unfold celTo; rw [hy]; exact h1, by omega⟩
    | some y =>
      cases hf : (isFst l i y.name == p) with
      | false => exact ⟨r, by rw [celTo_no hy hf]; exact h1, by omega⟩
      | true =>
        obtain ⟨r2, h3, h4⟩ := celVs_pre store y.name y.vars (celTo p store l T0 i)
        have := h8 y (List.mem_of_getElem? hy)
        exact ⟨r ++ r2, by rw [celTo_yes hy hf, h3, h1, List.append_assoc], by rw [List.length_append]; omega⟩
theorem ceAt_iff {T : List Ce} {x y : ByteArray} : (ceAt T x y).isSome = true ↔ ∃ c ∈ T, c.mod = x ∧ c.name = y := by
  constructor
  · intro h
    obtain ⟨i, hi⟩ := Option.isSome_iff_exists.1 h
    have h1 := List.find?_some hi
    cases hc : T[i]? with
    | none => rw [hc] at h1; simp at h1
    | some c =>
      rw [hc] at h1
      simp only [isC, Bool.and_eq_true] at h1
      exact ⟨c, List.mem_of_getElem? hc, sameB_iff.1 h1.1, sameB_iff.1 h1.2⟩
  · rintro ⟨c, hc, rfl, rfl⟩
    cases hx : ceAt T c.mod c.name with
    | some i => rfl
    | none =>
      obtain ⟨j, hj, e⟩ := List.mem_iff_getElem.1 hc
      have := List.find?_eq_none.1 hx j (List.mem_range.2 hj)
      rw [List.getElem?_eq_getElem hj, e] at this
      simp [isC, Nm.sameB] at this
theorem pos_mem {nm : List (ByteArray × ByteArray)} {x y : ByteArray} : (pos nm x y).isSome = true ↔ (x, y) ∈ nm := by
  constructor
  · intro h
    obtain ⟨i, hi⟩ := Option.isSome_iff_exists.1 h
    exact List.mem_of_getElem? (pos_some hi)
  · intro h
    cases hx : pos nm x y with
    | some i => rfl
    | none =>
      obtain ⟨j, hj, e⟩ := List.mem_iff_getElem.1 h
      have := List.find?_eq_none.1 hx j (List.mem_range.2 hj)
      rw [List.getElem?_eq_getElem hj, e] at this
      simp [Nm.sameB] at this
theorem sto_iff {nm : List (ByteArray × ByteArray)} {vs : List Vr} (h : vs.length = nm.length) {x y : ByteArray} : (∃ c ∈ sto nm vs, c.mod = x ∧ c.name = y) ↔ (x, y) ∈ nm := by
  constructor
  · rintro ⟨c, hc, rfl, rfl⟩
    unfold sto at hc
    obtain ⟨p, hp, rfl⟩ := List.mem_map.1 hc
    exact (List.of_mem_zip hp).1
  · intro hm
    obtain ⟨i, hi, e⟩ := List.mem_iff_getElem.1 hm
    have h1 : nm[i]? = some (x, y) := by rw [List.getElem?_eq_getElem hi, e]
    have h2 := List.getElem?_eq_getElem (show i < vs.length by omega)
    exact ⟨_, List.mem_of_getElem? (sto_get h1 h2), rfl, rfl⟩
theorem add_sto {store : List Ce} {nm : List (ByteArray × ByteArray)} {vs : List Vr} (h : vs.length = nm.length) (x y : ByteArray) : addC store (sto nm vs) x y = sto (addN nm x y) (addV store nm vs x y) := by
  unfold addC addN addV
  by_cases hp : (pos nm x y).isSome = true
  · rw [if_pos hp, if_pos hp, if_pos (ceAt_iff.2 ((sto_iff h).2 (pos_mem.1 hp)))]
  · rw [if_neg hp, if_neg hp, if_neg (fun hc => hp (pos_mem.2 ((sto_iff h).1 (ceAt_iff.1 hc))))]
    unfold sto
    rw [List.zip_append h.symm, List.map_append]
    rfl
theorem vs_sto {store : List Ce} {mod : ByteArray} : ∀ (vs : List Va) {st : List (ByteArray × ByteArray) × List Vr}, st.2.length = st.1.length → celVs store mod (sto st.1 st.2) vs = sto (mkVs store mod st vs).1 (mkVs store mod st vs).2 ∧ (mkVs store mod st vs).2.length = (mkVs store mod st vs).1.length
  | [], st, h => ⟨rfl, h⟩
  | v :: vs, st, h => by
    have h1 := vs_sto (store := store) (mod := mod) vs (st := (addN st.1 mod v.name, addV store st.1 st.2 mod v.name)) (addV_len h)
    refine ⟨?_, h1.2⟩
    show celVs store mod (addC store (sto st.1 st.2) mod v.name) vs = _
    rw [add_sto h]
    exact h1.1
theorem isFst_iff {l : List Mo} {i : Nat} {x : ByteArray} : isFst l i x = true ↔ ∀ (j : Nat) (z : Mo), j < i → l[j]? = some z → Nm.sameB z.name x = false := by
  unfold isFst
  rw [List.all_eq_true]
  constructor
  · intro h j z hj hz
    have hm : z ∈ l.take i := List.mem_of_getElem? (i := j) (by rw [List.getElem?_take, if_pos hj]; exact hz)
    simpa using h z hm
  · intro h z hz
    obtain ⟨j, hj, e⟩ := List.mem_iff_getElem.1 hz
    rw [List.length_take] at hj
    rw [List.getElem_take] at e
    have := h j z (by omega) (by rw [List.getElem?_eq_getElem (show j < l.length by omega), e])
    simp [this]
/-- The first of its name, told by the program. -/
theorem fst_mo {l : List Mo} {i : Nat} {y : Mo} (hy : l[i]? = some y) : (Nm.oI (Nm.moAt l y.name) < (i : Int)) ↔ isFst l i y.name = false := by
  have hi := (List.getElem?_eq_some_iff.1 hy).1
  cases hf : isFst l i y.name with
  | true =>
    have h1 := isFst_iff.1 hf
    have : Nm.moAt l y.name = some i := by
      refine Lat.find_hit hi (fun d hd => ?_) ?_
      · rw [List.getElem?_eq_getElem (show d < l.length by omega)]
        exact h1 d _ hd (List.getElem?_eq_getElem (by omega))
      · rw [hy]
        simp [Nm.sameB]
    rw [this]
    simp [Nm.oI]
  | false =>
    refine ⟨fun _ => rfl, fun _ => ?_⟩
    have h1 : ¬ isFst l i y.name = true := by rw [hf]; simp
    rw [isFst_iff] at h1
    cases hm : Nm.moAt l y.name with
    | none => simp [Nm.oI]; omega
    | some a =>
      obtain ⟨z, hz, hs⟩ := Nm.moAt_lt hm
      have hb := find_before (show (List.range l.length).find? (fun i => match l[i]? with | some x => Nm.sameB x.name y.name | none => false) = some a from hm)
      have : a < i := by
        rcases Nat.lt_or_ge a i with h | h
        · exact h
        · exfalso
          apply h1
          intro j z' hj hz'
          have := hb j (by omega)
          rw [hz'] at this
          exact this
      simp [Nm.oI]
      omega
theorem mk_sto {store : List Ce} {l : List Mo} : ∀ i, celTo true store l [] i = sto (mkTo store l i).1 (mkTo store l i).2 ∧ (mkTo store l i).2.length = (mkTo store l i).1.length
  | 0 => ⟨rfl, rfl⟩
  | i + 1 => by
    have ih := mk_sto (store := store) (l := l) i
    cases hy : l[i]? with
    | none =>
      have e1 : celTo true store l [] (i + 1) = celTo true store l [] i := by
        show (match l[i]? with | some y => if (isFst l i y.name == true) = true then celVs store y.name (celTo true store l [] i) y.vars else celTo true store l [] i | none => celTo true store l [] i) = _
        rw [hy]
      have e2 : mkTo store l (i + 1) = mkTo store l i := by
        show (match l[i]? with | some y => if Nm.oI (Nm.moAt l y.name) < (i : Int) then mkTo store l i else mkVs store y.name (mkTo store l i) y.vars | none => mkTo store l i) = _
        rw [hy]
      rw [e1, e2]
      exact ih
    | some y =>
      have e2 : mkTo store l (i + 1) = if Nm.oI (Nm.moAt l y.name) < (i : Int) then mkTo store l i else mkVs store y.name (mkTo store l i) y.vars := by
        show (match l[i]? with | some y => if Nm.oI (Nm.moAt l y.name) < (i : Int) then mkTo store l i else mkVs store y.name (mkTo store l i) y.vars | none => mkTo store l i) = _
        rw [hy]
      cases hf : isFst l i y.name with
      | false =>
        rw [celTo_no hy (by rw [hf]; rfl), e2, if_pos ((fst_mo hy).2 hf)]
        exact ih
      | true =>
        rw [celTo_yes hy (by rw [hf]; rfl), e2, if_neg (fun h => by rw [(fst_mo hy).1 h] at hf; cases hf), ih.1]
        exact vs_sto y.vars ih.2
theorem addN_get {nm : List (ByteArray × ByteArray)} {x y : ByteArray} {z : ByteArray × ByteArray} (h : z ∈ nm ∨ z = (x, y)) : z ∈ addN nm x y := by
  unfold addN
  split
  · rename_i hp
    rcases h with h | rfl
    · exact h
    · exact pos_mem.1 hp
  · rcases h with h | rfl
    · exact List.mem_append_left _ h
    · simp
theorem mkVs_get {store : List Ce} {mod : ByteArray} {z : ByteArray × ByteArray} : ∀ {vs : List Va} {st : List (ByteArray × ByteArray) × List Vr}, (z ∈ st.1 ∨ ∃ v ∈ vs, z = (mod, v.name)) → z ∈ (mkVs store mod st vs).1
  | [], st, h => by
    rcases h with h | ⟨v, hv, _⟩
    · exact h
    · simp at hv
  | v :: vs, st, h => by
    show z ∈ (mkVs store mod (addN st.1 mod v.name, addV store st.1 st.2 mod v.name) vs).1
    refine mkVs_get ?_
    rcases h with h | ⟨u, hu, rfl⟩
    · exact Or.inl (addN_get (Or.inl h))
    · rcases List.mem_cons.1 hu with rfl | hu
      · exact Or.inl (addN_get (Or.inr rfl))
      · exact Or.inr ⟨u, hu, rfl⟩
theorem mkTo_iff {store : List Ce} {l : List Mo} {z : ByteArray × ByteArray} : ∀ i, z ∈ (mkTo store l i).1 ↔ ∃ (j : Nat) (y : Mo), j < i ∧ l[j]? = some y ∧ isFst l j y.name = true ∧ ∃ v ∈ y.vars, z = (y.name, v.name)
  | 0 => by
    constructor
    · intro h; simp [mkTo] at h
    · rintro ⟨j, _, h, _⟩; omega
  | i + 1 => by
    have ih := mkTo_iff (store := store) (l := l) (z := z) i
    have e2 : mkTo store l (i + 1) = match l[i]? with | some y => if Nm.oI (Nm.moAt l y.name) < (i : Int) then mkTo store l i else mkVs store y.name (mkTo store l i) y.vars | none => mkTo store l i := rfl
    have up : (∃ (j : Nat) (y : Mo), j < i ∧ l[j]? = some y ∧ isFst l j y.name = true ∧ ∃ v ∈ y.vars, z = (y.name, v.name)) → ∃ (j : Nat) (y : Mo), j < i + 1 ∧ l[j]? = some y ∧ isFst l j y.name = true ∧ ∃ v ∈ y.vars, z = (y.name, v.name) := fun ⟨j, y, h1, h2⟩ => ⟨j, y, by omega, h2⟩
    rw [e2]
    cases hy : l[i]? with
    | none =>
      simp only
      rw [ih]
      refine ⟨up, fun ⟨j, y, h1, h2, h3⟩ => ⟨j, y, ?_, h2, h3⟩⟩
      rcases Nat.lt_or_ge j i with h | h
      · exact h
      · have : j = i := by omega
        subst this
        rw [hy] at h2; cases h2
    | some y =>
      simp only
      cases hf : isFst l i y.name with
      | false =>
        rw [if_pos ((fst_mo hy).2 hf), ih]
        refine ⟨up, fun ⟨j, y', h1, h2, h3, h4⟩ => ⟨j, y', ?_, h2, h3, h4⟩⟩
        rcases Nat.lt_or_ge j i with h | h
        · exact h
        · have : j = i := by omega
          subst this
          rw [hy] at h2; cases h2
          rw [hf] at h3; cases h3
      | true =>
        rw [if_neg (fun h => by rw [(fst_mo hy).1 h] at hf; cases hf)]
        constructor
        · intro h
          rcases mkVs_mem h with h | ⟨v, hv, rfl⟩
          · exact up (ih.1 h)
          · exact ⟨i, y, by omega, hy, hf, v, hv, rfl⟩
        · rintro ⟨j, y', h1, h2, h3, h4⟩
          rcases Nat.lt_or_ge j i with h | h
          · exact mkVs_get (Or.inl (ih.2 ⟨j, y', h, h2, h3, h4⟩))
          · have : j = i := by omega
            subst this
            rw [hy] at h2; cases h2
            exact mkVs_get (Or.inr h4)
/-- What the first module of a name has. -/
theorem mk_firsts {m : Nat} {store : List Ce} {l : List Mo} (h : ∀ y ∈ l, Lat.moE m y = 0) : Firsts (mkTo store l l.length).1 l := by
  intro a x hx hf
  refine ⟨(moE_facts (h x (List.mem_of_getElem? hx))).2.2.1, fun n => ?_⟩
  have hfa : isFst l a x.name = true := isFst_iff.2 hf
  have ha := (List.getElem?_eq_some_iff.1 hx).1
  have key : (pos (mkTo store l l.length).1 x.name n).isSome = true ↔ hasB x n = true := by
    rw [pos_mem, mkTo_iff]
    constructor
    · rintro ⟨j, y, hj, hy, hfy, v, hv, e⟩
      injection e with e1 e2
      have hja : j = a := by
        rcases Nat.lt_trichotomy j a with h | h | h
        · have := hf j y h hy
          rw [← e1] at this
          simp [Nm.sameB] at this
        · exact h
        · have := isFst_iff.1 hfy a x h hx
          rw [← e1] at this
          simp [Nm.sameB] at this
      subst hja
      rw [hx] at hy
      cases hy
      unfold hasB
      exact List.any_eq_true.2 ⟨v, hv, by rw [e2]; simp [Nm.sameB]⟩
    · intro hh
      unfold hasB at hh
      obtain ⟨v, hv, hs⟩ := List.any_eq_true.1 hh
      exact ⟨a, x, ha, hx, hfa, v, hv, by rw [sameB_iff.1 hs]⟩
  cases h1 : (pos (mkTo store l l.length).1 x.name n).isSome with
  | true => exact (key.1 h1).symm
  | false =>
    cases h2 : hasB x n with
    | false => rfl
    | true => rw [key.2 h2] at h1; cases h1
/-- The lowest place from k on that has that name; -1: none. -/
def lowF (ns : List ByteArray) (x : ByteArray) : Nat → Nat → Int
  | 0, _ => -1
  | d + 1, k => if (match ns[k]? with | some s => Nm.sameB s x | none => false) = true then (k : Int) else lowF ns x d (k + 1)
/-- A value of a store, told from its end. -/
def valF (store : List Ce) (x y : ByteArray) : Nat → Nat → Int
  | 0, _ => 0
  | d + 1, k => match store[k]? with
    | some c => if isC x y c = true then c.val else valF store x y d (k + 1)
    | none => 0
theorem lowF_find (ns : List ByteArray) (x : ByteArray) : ∀ (d k : Nat), k + d = ns.length → (∀ j, j < k → (match ns[j]? with | some s => Nm.sameB s x | none => false) = false) → lowF ns x d k = Nm.oI ((List.range ns.length).find? fun i => match ns[i]? with | some s => Nm.sameB s x | none => false)
  | 0, k, h, hb => by
    rw [Lat.find_none (fun j hj => hb j (by omega))]
    rfl
  | d + 1, k, h, hb => by
    unfold lowF
    cases hc : (match ns[k]? with | some s => Nm.sameB s x | none => false) with
    | true =>
      simp only [if_true]
      rw [Lat.find_hit (by omega) hb hc]
      rfl
    | false =>
      rw [if_neg (by simp)]
      exact lowF_find ns x d (k + 1) (by omega) (fun j hj => by
        by_cases e : j = k
        · rw [e]; exact hc
        · exact hb j (by omega))
theorem valF_find (store : List Ce) (x y : ByteArray) : ∀ (d k : Nat), k + d = store.length → (∀ j g, j < k → store[j]? = some g → isC x y g = false) → valF store x y d k = val0 store x y
  | 0, k, h, hb => by
    unfold val0
    rw [ceAt_none (fun j g hg => hb j g (by have := (List.getElem?_eq_some_iff.1 hg).1; omega) hg)]
    rfl
  | d + 1, k, h, hb => by
    have hk := List.getElem?_eq_getElem (show k < store.length by omega)
    unfold valF
    rw [hk]
    simp only
    cases hc : isC x y (store[k]'(by omega)) with
    | true =>
      simp only [if_true]
      unfold val0
      rw [ceAt_hit hk hc hb, Option.bind_some, hk]
      rfl
    | false =>
      rw [if_neg (by simp)]
      exact valF_find store x y d (k + 1) (by omega) (fun j g hj hg => by
        by_cases e : j = k
        · subst e; rw [hk] at hg; cases hg; exact hc
        · exact hb j g (by omega) hg)
end Rn
end Go.Proofs.YtnheahdcfadclaaGreatDoor
