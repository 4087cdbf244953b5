/- Running functions by the document, plain: which cells there are. -/
import Derived.Test.YtholefgckcoklaaGreatDoorZBM
import Derived.Test.YtholefgckcoklaaGreatDoorZBL
import Derived.Test.YtholefgckcoklaaGreatDoorCYE
namespace Go.Proofs.YtholefgckcoklaaGreatDoor
open Go.RowKit
namespace Rn
def addC (store T : List Ce) (x y : ByteArray) : List Ce := if (ceAt T x y).isSome = true then T else T ++ [⟨x, y, val0 store x y⟩]
def celVs (store : List Ce) (mod : ByteArray) (T : List Ce) (vs : List Va) : List Ce := vs.foldl (fun T v => addC store T mod v.name) T
def isFst (l : List Mo) (i : Nat) (x : ByteArray) : Bool := (l.take i).all fun z => !(Nm.sameB z.name x)
def celTo (p : Bool) (store : List Ce) (l : List Mo) (T0 : List Ce) : Nat → List Ce
  | 0 => T0
  | i + 1 => match l[i]? with
    | some y => if (isFst l i y.name == p) = true then celVs store y.name (celTo p store l T0 i) y.vars else celTo p store l T0 i
    | none => celTo p store l T0 i
def pasT (store : List Ce) (l : List Mo) : Nat → List Ce
  | 0 => []
  | k + 1 => celTo (k == 0) store l (pasT store l k) l.length
theorem celVs_snoc {store : List Ce} {mod : ByteArray} {T : List Ce} {vs : List Va} {t : Nat} {v : Va} (hv : vs[t]? = some v) : celVs store mod T (vs.take (t + 1)) = addC store (celVs store mod T (vs.take t)) mod v.name := by
  unfold celVs
  rw [List.take_add_one, hv, Option.toList_some, List.foldl_append]
  rfl
theorem celTo_yes {p : Bool} {store : List Ce} {l : List Mo} {T0 : List Ce} {i : Nat} {y : Mo} (hy : l[i]? = some y) (h : (isFst l i y.name == p) = true) : celTo p store l T0 (i + 1) = celVs store y.name (celTo p store l T0 i) y.vars := by
  show (match l[i]? with | some y => if (isFst l i y.name == p) = true then celVs store y.name (celTo p store l T0 i) y.vars else celTo p store l T0 i | none => celTo p store l T0 i) = _
  rw [hy]
  simp only [h, if_true]
theorem celTo_no {p : Bool} {store : List Ce} {l : List Mo} {T0 : List Ce} {i : Nat} {y : Mo} (hy : l[i]? = some y) (h : (isFst l i y.name == p) = false) : celTo p store l T0 (i + 1) = celTo p store l T0 i := by
  show (match l[i]? with | some y => if (isFst l i y.name == p) = true then celVs store y.name (celTo p store l T0 i) y.vars else celTo p store l T0 i | none => celTo p store l T0 i) = _
  rw [hy]
  simp [h]
theorem addC_pre (store T : List Ce) (x y : ByteArray) : ∃ r, addC store T x y = T ++ r ∧ r.length ≤ 1 := by
  unfold addC
  split
  · exact ⟨[], by simp, by simp⟩
  · exact ⟨_, rfl, by simp⟩
theorem celVs_pre (store : List Ce) (mod : ByteArray) : ∀ (vs : List Va) (T : List Ce), ∃ r, celVs store mod T vs = T ++ r ∧ r.length ≤ vs.length
  | [], T => ⟨[], by simp [celVs], by simp⟩
  | v :: vs, T => by
    obtain ⟨r1, h1, h2⟩ := addC_pre store T mod v.name
    obtain ⟨r2, h3, h4⟩ := celVs_pre store mod vs (addC store T mod v.name)
    refine ⟨r1 ++ r2, ?_, by rw [List.length_append, List.length_cons]; omega⟩
    show celVs store mod (addC store T mod v.name) vs = _
    rw [h3, h1, List.append_assoc]
theorem celTo_pre {p : Bool} {store : List Ce} {l : List Mo} (h8 : ∀ y ∈ l, y.vars.length ≤ 8) (T0 : List Ce) : ∀ i, ∃ r, celTo p store l T0 i = T0 ++ r ∧ r.length ≤ 8 * i
  | 0 => ⟨[], by simp [celTo], by simp⟩
  | i + 1 => by
    obtain ⟨r, h1, h2⟩ := celTo_pre (p := p) (store := store) h8 T0 i
    cases hy : l[i]? with
    | none => exact ⟨r, by unfold celTo; rw [hy]; exact h1, by omega⟩
    | some y =>
      cases hf : (isFst l i y.name == p) with
      | false => exact ⟨r, by rw [celTo_no hy hf]; exact h1, by omega⟩
      | true =>
        obtain ⟨r2, h3, h4⟩ := celVs_pre store y.name y.vars (celTo p store l T0 i)
        have := h8 y (List.mem_of_getElem? hy)
        exact ⟨r ++ r2, by rw [celTo_yes hy hf, h3, h1, List.append_assoc], by rw [List.length_append]; omega⟩
theorem ceAt_iff {T : List Ce} {x y : ByteArray} : (ceAt T x y).isSome = true ↔ ∃ c ∈ T, c.mod = x ∧ c.name = y := by
  constructor
  · intro h
    obtain ⟨i, hi⟩ := Option.isSome_iff_exists.1 h
    have h1 := List.find?_some hi
    cases hc : T[i]? with
    | none => rw [hc] at h1; simp at h1
    | some c =>
      rw [hc] at h1
      simp only [isC, Bool.and_eq_true] at h1
      exact ⟨c, List.mem_of_getElem? hc, sameB_iff.1 h1.1, sameB_iff.1 h1.2⟩
  · rintro ⟨c, hc, rfl, rfl⟩
    cases hx : ceAt T c.mod c.name with
    | some i => rfl
    | none =>
      obtain ⟨j, hj, e⟩ := List.mem_iff_getElem.1 hc
      have := List.find?_eq_none.1 hx j (List.mem_range.2 hj)
      rw [List.getElem?_eq_getElem hj, e] at this
      simp [isC, Nm.sameB] at this
theorem pos_mem {nm : List (ByteArray × ByteArray)} {x y : ByteArray} : (pos nm x y).isSome = true ↔ (x, y) ∈ nm := by
  constructor
  · intro h
    obtain ⟨i, hi⟩ := Option.isSome_iff_exists.1 h
    exact List.mem_of_getElem? (pos_some hi)
  · intro h
    cases hx : pos nm x y with
    | some i => rfl
    | none =>
      obtain ⟨j, hj, e⟩ := List.mem_iff_getElem.1 h
      have := List.find?_eq_none.1 hx j (List.mem_range.2 hj)
      rw [List.getElem?_eq_getElem hj, e] at this
      simp [Nm.sameB] at this
theorem sto_iff {nm : List (ByteArray × ByteArray)} {vs : List Vr} (h : vs.length = nm.length) {x y : ByteArray} : (∃ c ∈ sto nm vs, c.mod = x ∧ c.name = y) ↔ (x, y) ∈ nm := by
  constructor
  · rintro ⟨c, hc, rfl, rfl⟩
    unfold sto at hc
    obtain ⟨p, hp, rfl⟩ := List.mem_map.1 hc
    exact (List.of_mem_zip hp).1
  · intro hm
    obtain ⟨i, hi, e⟩ := List.mem_iff_getElem.1 hm
    have h1 : nm[i]? = some (x, y) := by rw [List.getElem?_eq_getElem hi, e]
    have h2 := List.getElem?_eq_getElem (show i < vs.length by omega)
    exact ⟨_, List.mem_of_getElem? (sto_get h1 h2), rfl, rfl⟩
theorem add_sto {store : List Ce} {nm : List (ByteArray × ByteArray)} {vs : List Vr} (h : vs.length = nm.length) (x y : ByteArray) : addC store (sto nm vs) x y = sto (addN nm x y) (addV store nm vs x y) := by
  unfold addC addN addV
  by_cases hp : (pos nm x y).isSome = true
  · rw [if_pos hp, if_pos hp, if_pos (ceAt_iff.2 ((sto_iff h).2 (pos_mem.1 hp)))]
  · rw [if_neg hp, if_neg hp, if_neg (fun hc => hp (pos_mem.2 ((sto_iff h).1 (ceAt_iff.1 hc))))]
    unfold sto
    rw [List.zip_append h.symm, List.map_append]
    rfl
theorem vs_sto {store : List Ce} {mod : ByteArray} : ∀ (vs : List Va) {st : List (ByteArray × ByteArray) × List Vr}, st.2.length = st.1.length → celVs store mod (sto st.1 st.2) vs = sto (mkVs store mod st vs).1 (mkVs store mod st vs).2 ∧ (mkVs store mod st vs).2.length = (mkVs store mod st vs).1.length
  | [], st, h => ⟨rfl, h⟩
  | v :: vs, st, h => by
    have h1 := vs_sto (store := store) (mod := mod) vs (st := (addN st.1 mod v.name, addV store st.1 st.2 mod v.name)) (addV_len h)
    refine ⟨?_, h1.2⟩
    show celVs store mod (addC store (sto st.1 st.2) mod v.name) vs = _
    rw [add_sto h]
    exact h1.1
theorem isFst_iff {l : List Mo} {i : Nat} {x : ByteArray} : isFst l i x = true ↔ ∀ (j : Nat) (z : Mo), j < i → l[j]? = some z → Nm.sameB z.name x = false := by
  unfold isFst
  rw [List.all_eq_true]
  constructor
  · intro h j z hj hz
    have hm : z ∈ l.take i := List.mem_of_getElem? (i := j) (by rw [List.getElem?_take, if_pos hj]; exact hz)
    simpa using h z hm
  · intro h z hz
    obtain ⟨j, hj, e⟩ := List.mem_iff_getElem.1 hz
    rw [List.length_take] at hj
    rw [List.getElem_take] at e
    have := h j z (by omega) (by rw [List.getElem?_eq_getElem (show j < l.length by omega), e])
    simp [this]
theorem fst_mo {l : List Mo} {i : Nat} {y : Mo} (hy : l[i]? = some y) : (Nm.oI (Nm.moAt l y.name) < (i : Int)) ↔ isFst l i y.name = false := by
  have hi := (List.getElem?_eq_some_iff.1 hy).1
  cases hf : isFst l i y.name with
  | true =>
    have h1 := isFst_iff.1 hf
    have : Nm.moAt l y.name = some i := by
      refine Lat.find_hit hi (fun d hd => ?_) ?_
      · rw [List.getElem?_eq_getElem (show d < l.length by omega)]
        exact h1 d _ hd (List.getElem?_eq_getElem (by omega))
      · rw [hy]
        simp [Nm.sameB]
    rw [this]
    simp [Nm.oI]
  | false =>
    refine ⟨fun _ => rfl, fun _ => ?_⟩
    have h1 : ¬ isFst l i y.name = true := by rw [hf]; simp
    rw [isFst_iff] at h1
    cases hm : Nm.moAt l y.name with
    | none => simp [Nm.oI]; omega
    | some a =>
      obtain ⟨z, hz, hs⟩ := Nm.moAt_lt hm
      have hb := find_before (show (List.range l.length).find? (fun i => match l[i]? with | some x => Nm.sameB x.name y.name | none => false) = some a from hm)
      have : a < i := by
        rcases Nat.lt_or_ge a i with h | h
        · exact h
        · exfalso
          apply h1
          intro j z' hj hz'
          have := hb j (by omega)
          rw [hz'] at this
          exact this
      simp [Nm.oI]
      omega
theorem mk_sto {store : List Ce} {l : List Mo} : ∀ i, celTo true store l [] i = sto (mkTo store l i).1 (mkTo store l i).2 ∧ (mkTo store l i).2.length = (mkTo store l i).1.length
  | 0 => ⟨rfl, rfl⟩
  | i + 1 => by
    have ih := mk_sto (store := store) (l := l) i
    cases hy : l[i]? with
    | none =>
      have e1 : celTo true store l [] (i + 1) = celTo true store l [] i := by
        show (match l[i]? with | some y => if (isFst l i y.name == true) = true then celVs store y.name (celTo true store l [] i) y.vars else celTo true store l [] i | none => celTo true store l [] i) = _
        rw [hy]
      have e2 : mkTo store l (i + 1) = mkTo store l i := by
        show (match l[i]? with | some y => if Nm.oI (Nm.moAt l y.name) < (i : Int) then mkTo store l i else mkVs store y.name (mkTo store l i) y.vars | none => mkTo store l i) = _
        rw [hy]
      rw [e1, e2]
      exact ih
    | some y =>
      have e2 : mkTo store l (i + 1) = if Nm.oI (Nm.moAt l y.name) < (i : Int) then mkTo store l i else mkVs store y.name (mkTo store l i) y.vars := by
        show (match l[i]? with | some y => if Nm.oI (Nm.moAt l y.name) < (i : Int) then mkTo store l i else mkVs store y.name (mkTo store l i) y.vars | none => mkTo store l i) = _
        rw [hy]
      cases hf : isFst l i y.name with
      | false =>
        rw [celTo_no hy (by rw [hf]; rfl), e2, if_pos ((fst_mo hy).2 hf)]
        exact ih
      | true =>
        rw [celTo_yes hy (by rw [hf]; rfl), e2, if_neg (fun h => by rw [(fst_mo hy).1 h] at hf; cases hf), ih.1]
        exact vs_sto y.vars ih.2
theorem addN_get {nm : List (ByteArray × ByteArray)} {x y : ByteArray} {z : ByteArray × ByteArray} (h : z ∈ nm ∨ z = (x, y)) : z ∈ addN nm x y := by
  unfold addN
  split
  · rename_i hp
    rcases h with h | rfl
    · exact h
    · exact pos_mem.1 hp
  · rcases h with h | rfl
    · exact List.mem_append_left _ h
    · simp
theorem mkVs_get {store : List Ce} {mod : ByteArray} {z : ByteArray × ByteArray} : ∀ {vs : List Va} {st : List (ByteArray × ByteArray) × List Vr}, (z ∈ st.1 ∨ ∃ v ∈ vs, z = (mod, v.name)) → z ∈ (mkVs store mod st vs).1
  | [], st, h => by
    rcases h with h | ⟨v, hv, _⟩
    · exact h
    · simp at hv
  | v :: vs, st, h => by
    show z ∈ (mkVs store mod (addN st.1 mod v.name, addV store st.1 st.2 mod v.name) vs).1
    refine mkVs_get ?_
    rcases h with h | ⟨u, hu, rfl⟩
    · exact Or.inl (addN_get (Or.inl h))
    · rcases List.mem_cons.1 hu with rfl | hu
      · exact Or.inl (addN_get (Or.inr rfl))
      · exact Or.inr ⟨u, hu, rfl⟩
theorem mkTo_iff {store : List Ce} {l : List Mo} {z : ByteArray × ByteArray} : ∀ i, z ∈ (mkTo store l i).1 ↔ ∃ (j : Nat) (y : Mo), j < i ∧ l[j]? = some y ∧ isFst l j y.name = true ∧ ∃ v ∈ y.vars, z = (y.name, v.name)
  | 0 => by
    constructor
    · intro h; simp [mkTo] at h
    · rintro ⟨j, _, h, _⟩; omega
  | i + 1 => by
    have ih := mkTo_iff (store := store) (l := l) (z := z) i
    have e2 : mkTo store l (i + 1) = match l[i]? with | some y => if Nm.oI (Nm.moAt l y.name) < (i : Int) then mkTo store l i else mkVs store y.name (mkTo store l i) y.vars | none => mkTo store l i := rfl
    have up : (∃ (j : Nat) (y : Mo), j < i ∧ l[j]? = some y ∧ isFst l j y.name = true ∧ ∃ v ∈ y.vars, z = (y.name, v.name)) → ∃ (j : Nat) (y : Mo), j < i + 1 ∧ l[j]? = some y ∧ isFst l j y.name = true ∧ ∃ v ∈ y.vars, z = (y.name, v.name) := fun ⟨j, y, h1, h2⟩ => ⟨j, y, by omega, h2⟩
    rw [e2]
    cases hy : l[i]? with
    | none =>
      simp only
      rw [ih]
      refine ⟨up, fun ⟨j, y, h1, h2, h3⟩ => ⟨j, y, ?_, h2, h3⟩⟩
      rcases Nat.lt_or_ge j i with h | h
      · exact h
      · have : j = i := by omega
        subst this
        rw [hy] at h2; cases h2
    | some y =>
      simp only
      cases hf : isFst l i y.name with
      | false =>
        rw [if_pos ((fst_mo hy).2 hf), ih]
        refine ⟨up, fun ⟨j, y', h1, h2, h3, h4⟩ => ⟨j, y', ?_, h2, h3, h4⟩⟩
        rcases Nat.lt_or_ge j i with h | h
        · exact h
        · have : j = i := by omega
          subst this
          rw [hy] at h2; cases h2
          rw [hf] at h3; cases h3
      | true =>
        rw [if_neg (fun h => by rw [(fst_mo hy).1 h] at hf; cases hf)]
        constructor
        · intro h
          rcases mkVs_mem h with h | ⟨v, hv, rfl⟩
          · exact up (ih.1 h)
          · exact ⟨i, y, by omega, hy, hf, v, hv, rfl⟩
        · rintro ⟨j, y', h1, h2, h3, h4⟩
          rcases Nat.lt_or_ge j i with h | h
          · exact mkVs_get (Or.inl (ih.2 ⟨j, y', h, h2, h3, h4⟩))
          · have : j = i := by omega
            subst this
            rw [hy] at h2; cases h2
            exact mkVs_get (Or.inr h4)
theorem mk_firsts {m : Nat} {store : List Ce} {l : List Mo} (h : ∀ y ∈ l, Lat.moE m y = 0) : Firsts (mkTo store l l.length).1 l := by
  intro a x hx hf
  refine ⟨(moE_facts (h x (List.mem_of_getElem? hx))).2.2.1, fun n => ?_⟩
  have hfa : isFst l a x.name = true := isFst_iff.2 hf
  have ha := (List.getElem?_eq_some_iff.1 hx).1
  have key : (pos (mkTo store l l.length).1 x.name n).isSome = true ↔ hasB x n = true := by
    rw [pos_mem, mkTo_iff]
    constructor
    · rintro ⟨j, y, hj, hy, hfy, v, hv, e⟩
      injection e with e1 e2
      have hja : j = a := by
        rcases Nat.lt_trichotomy j a with h | h | h
        · have := hf j y h hy
          rw [← e1] at this
          simp [Nm.sameB] at this
        · exact h
        · have := isFst_iff.1 hfy a x h hx
          rw [← e1] at this
          simp [Nm.sameB] at this
      subst hja
      rw [hx] at hy
      cases hy
      unfold hasB
      exact List.any_eq_true.2 ⟨v, hv, by rw [e2]; simp [Nm.sameB]⟩
    · intro hh
      unfold hasB at hh
      obtain ⟨v, hv, hs⟩ := List.any_eq_true.1 hh
      exact ⟨a, x, ha, hx, hfa, v, hv, by rw [sameB_iff.1 hs]⟩
  cases h1 : (pos (mkTo store l l.length).1 x.name n).isSome with
  | true => exact (key.1 h1).symm
  | false =>
    cases h2 : hasB x n with
    | false => rfl
    | true => rw [key.2 h2] at h1; cases h1
def lowF (ns : List ByteArray) (x : ByteArray) : Nat → Nat → Int
  | 0, _ => -1
  | d + 1, k => if (match ns[k]? with | some s => Nm.sameB s x | none => false) = true then (k : Int) else lowF ns x d (k + 1)
def valF (store : List Ce) (x y : ByteArray) : Nat → Nat → Int
  | 0, _ => 0
  | d + 1, k => match store[k]? with
    | some c => if isC x y c = true then c.val else valF store x y d (k + 1)
    | none => 0
theorem lowF_find (ns : List ByteArray) (x : ByteArray) : ∀ (d k : Nat), k + d = ns.length → (∀ j, j < k → (match ns[j]? with | some s => Nm.sameB s x | none => false) = false) → lowF ns x d k = Nm.oI ((List.range ns.length).find? fun i => match ns[i]? with | some s => Nm.sameB s x | none => false)
  | 0, k, h, hb => by
    rw [Lat.find_none (fun j hj => hb j (by omega))]
    rfl
  | d + 1, k, h, hb => by
    unfold lowF
    cases hc : (match ns[k]? with | some s => Nm.sameB s x | none => false) with
    | true =>
      simp only [if_true]
      rw [Lat.find_hit (by omega) hb hc]
      rfl
    | false =>
      rw [if_neg (by simp)]
      exact lowF_find ns x d (k + 1) (by omega) (fun j hj => by
        by_cases e : j = k
        · rw [e]; exact hc
        · exact hb j (by omega))
theorem valF_find (store : List Ce) (x y : ByteArray) : ∀ (d k : Nat), k + d = store.length → (∀ j g, j < k → store[j]? = some g → isC x y g = false) → valF store x y d k = val0 store x y
  | 0, k, h, hb => by
    unfold val0
    rw [ceAt_none (fun j g hg => hb j g (by have := (List.getElem?_eq_some_iff.1 hg).1; omega) hg)]
    rfl
  | d + 1, k, h, hb => by
    have hk := List.getElem?_eq_getElem (show k < store.length by omega)
    unfold valF
    rw [hk]
    simp only
    cases hc : isC x y (store[k]'(by omega)) with
    | true =>
      simp only [if_true]
      unfold val0
      rw [ceAt_hit hk hc hb, Option.bind_some, hk]
      rfl
    | false =>
      rw [if_neg (by simp)]
      exact valF_find store x y d (k + 1) (by omega) (fun j g hj hg => by
        by_cases e : j = k
        · subst e; rw [hk] at hg; cases hg; exact hc
        · exact hb j g (by omega) hg)
end Rn
end Go.Proofs.YtholefgckcoklaaGreatDoor
namespace Go.Proofs.YtholefgckcoklaaGreatDoor
open Go.RowKit Go.Maps
theorem caps_below {w W : World} {m : Nat} {vl : Value} {l : List Mo} (h : ∀ (b off cap : Nat), vl = .slice (some ⟨b, off, none⟩) l.length cap → ∀ (i : Nat) (y : Mo) (vf : Value), l[i]? = some y → w.cell? ⟨b, off + i * 4 + 3, none⟩ = some vf → CapOK vf) (hM : MosAt w m vl l) (hb : Below w.heap.size w W) :
    ∀ (b off cap : Nat), vl = .slice (some ⟨b, off, none⟩) l.length cap → ∀ (i : Nat) (y : Mo) (vf : Value), l[i]? = some y → W.cell? ⟨b, off + i * 4 + 3, none⟩ = some vf → CapOK vf := fun b off cap e i y vf hy k3 => by
  obtain ⟨a', b', off', cap', e', ha', _, hel⟩ := hM
  have e0 := e
  rw [e'] at e0
  injection e0 with e1 e2 e3
  have hlt : 0 < l.length := by have := (List.getElem?_eq_some_iff.1 hy).1; omega
  rw [ha' hlt] at e1
  injection e1 with e1
  injection e1 with e4 e5
  subst e4 e5
  obtain ⟨vi, vv, vf', g0, g1, g2, g3, hm⟩ := hel i y hy
  have h3 := cellUp g3 hb
  rw [k3] at h3
  injection h3 with h3
  subst h3
  exact h _ _ _ e i y _ hy g3
theorem ModsOk.below {w W : World} {m : Nat} {vl : Value} {l : List Mo} (h : ModsOk w m vl l) (hM : MosAt w m vl l) (hb : Below w.heap.size w W) : ModsOk W m vl l := ⟨h.ok, caps_below h.cap hM hb⟩
set_option maxHeartbeats 8000000 in
set_option maxRecDepth 100000 in
theorem run_any (m : Nat) (w : World) (vl va vs : Value) (l : List Mo) (mod fn : ByteArray) (args : List Int) (store : List Ce) (fuel : Int) (hL : MosAt w m vl l) (hks : ∀ y ∈ l, moW m y ≤ 1048576)
    (hcap : ∀ (b off cap : Nat), vl = .slice (some ⟨b, off, none⟩) l.length cap → ∀ (i : Nat) (y : Mo) (vf : Value), l[i]? = some y → w.cell? ⟨b, off + i * 4 + 3, none⟩ = some vf → CapOK vf)
    (hA : Ints w va args) (hAI : ∀ x ∈ args, I64 x) (hS : CesAt w vs store) (ht : Tab w) (g : Nat) (hg : 10000 * (m + 2) + m ≤ g) :
    Calls Tryz.prog 17 #[vl, .string mod, .string fn, va, vs, .int .i64 fuel] w fun e w' => ∃ v1 v2 v3, e = .returned (.tuple #[.agg #[.int .i64 (Rn.run g m l mod fn args store fuel).res, v1, v2, v3], .int .i64 (Rn.run g m l mod fn args store fuel).err]) ∧ Hid (OutAt w' (Rn.run g m l mod fn args store fuel) v1 v2 v3 ∧ Below w.heap.size w w') := by
  obtain ⟨RR, hRR⟩ : ∃ r, r = Rn.run g m l mod fn args store fuel := ⟨_, rfl⟩
  rw [← hRR]
  have HR := hide hRR
  clear hRR
  have HL := hide hL
  have HKS := hide hks
  have HCAP := hide hcap
  have HA := hide hA
  have HAI := hide hAI
  have HS := hide hS
  have HT := hide ht
  have HG := hide hg
  have HB0 := hide (boxBelow w (.cells #[.int .i64 0, .slice none 0 0, .slice none 0 0, .slice none 0 0] 51))
  have HW0 := hide (block_new w (.cells #[.int .i64 0, .slice none 0 0, .slice none 0 0, .slice none 0 0] 51))
  obtain ⟨W0, hW0⟩ : ∃ W, W = w.alloc (.cells #[.int .i64 0, .slice none 0 0, .slice none 0 0, .slice none 0 0] 51) := ⟨_, rfl⟩
  have HW0E := hide hW0
  rw [← hW0] at HB0 HW0
  obtain ⟨al, bl, ol, cl, hvl, _⟩ := hL
  obtain ⟨aa, ba, oa, ca, hva, _⟩ := hA
  obtain ⟨as', bs, os, cs, hvs, _⟩ := hS
  generalize l.length = nl at hvl
  generalize args.length = na at hva
  generalize store.length = nst at hvs
  have HVL := hide hvl
  subst hvl hva hvs
  clear hW0 hks hcap hAI ht hg
  go_enter Tryz.func17, Tryz.ntmps17
  go_wp2_with fail
  rw [← HW0E.out]
  refine (checkModules_any m W0 _ l (HL.out.below HB0.out) HKS.out (HT.out.below HB0.out)).mono ?_
  rintro e w1 ⟨rfl, hb1⟩
  by_cases h0 : Rn.mosR m l = 0
  · have HOK := hide (Rn.mosR_ok h0)
    have HR1 : Hid (RR = if fuel < 1 ∨ 10000 < fuel then Rn.bad 1 else match Rn.fnd l mod fn with
      | none => Rn.bad 4
      | some (a, k) => Rn.out (Rn.mkTo store l l.length).1 (Rn.enter (Rn.M (Rn.mkTo store l l.length).1 l g) l a k args ⟨fuel.toNat, (Rn.mkTo store l l.length).2, []⟩)) := hide (by rw [HR.out, Rn.run, if_neg (by rw [h0]; simp)]; rfl)
    rw [h0]
    have HB := hide (up HB0.out hb1)
    have HW := hide ((hb1.block _ (block_lt HW0.out)).trans HW0.out)
    clear hb1 h0
    by_cases hf : fuel < 1 ∨ 10000 < fuel
    · rw [if_pos hf] at HR1
      have r0 := (block_at HW.out 0).trans rfl
      have r1 := (block_at HW.out 1).trans rfl
      have r2 := (block_at HW.out 2).trans rfl
      have r3 := (block_at HW.out 3).trans rfl
      have z0 := block_free HW.out 0
      have z1 := block_free HW.out 1
      have z2 := block_free HW.out 2
      have z3 := block_free HW.out 3
      have hcut : (decide (fuel < 1) = true) ∨ (decide (fuel < 1) = false ∧ decide (fuel > 10000) = true) := by
        rcases hf with h | h
        · exact Or.inl (by simpa using h)
        · exact Or.inr ⟨by simp; omega, by simpa using h⟩
      rcases hcut with d1 | ⟨d1, d2⟩
      all_goals
        go_wp2_with fail
        obtain ⟨Wf, hWf⟩ : ∃ Wf, Wf = ((((w1.setCell ⟨w.heap.size, 0, none⟩ (.int .i64 0)).setCell ⟨w.heap.size, 1, none⟩ (.slice none 0 0)).setCell ⟨w.heap.size, 2, none⟩ (.slice none 0 0)).setCell ⟨w.heap.size, 3, none⟩ (.slice none 0 0)) := ⟨_, rfl⟩
        have i4 := set4 HW.out (.int .i64 0) (.slice none 0 0) (.slice none 0 0) (.slice none 0 0)
        have HBF : Hid (Below w.heap.size w Wf) := hide (by rw [hWf]; exact (((HB.out.setCell (by simp) _).setCell (by simp) _).setCell (by simp) _).setCell (by simp) _)
        rw [← hWf] at i4 ⊢
        have f0 := (block_at i4 0).trans rfl
        have f1 := (block_at i4 1).trans rfl
        have f2 := (block_at i4 2).trans rfl
        have f3 := (block_at i4 3).trans rfl
        clear i4
        refine bodyPost_ret (v := .tuple #[.agg #[.int .i64 0, .slice none 0 0, .slice none 0 0, .slice none 0 0], .int .i64 1]) (by simp [results, Tryz.results17, go_sem, f0, f1, f2, f3]) rfl ?_
        exact ⟨_, _, _, by rw [HR1.out]; rfl, hide ⟨by rw [HR1.out]; exact OutAt.bad _ _, HBF.out⟩⟩
    · rw [if_neg hf] at HR1
      have d1 : decide (fuel < 1) = false := by simp; omega
      have d2 : decide (fuel > 10000) = false := by simp; omega
      obtain ⟨fu, hfu⟩ : ∃ n : Nat, fuel = n := ⟨fuel.toNat, by omega⟩
      subst hfu
      have hfu : fu ≤ 10000 := by omega
      rw [Int.toNat_natCast] at HR1
      go_wp2_with fail
      refine (find_any m w1 _ l mod fn (HL.out.below HB.out)).mono ?_
      rintro e w2 ⟨a, k, rfl, hF⟩
      have HF := hide hF.out.1
      have HB2 := hide (up HB.out hF.out.2)
      have HW2 := hide ((hF.out.2.block _ (block_lt HW.out)).trans HW.out)
      clear hF HB HW d1 d2 hf
      have HB := HB2
      have HW := HW2
      clear HB2 HW2
      cases hk : Rn.fnd l mod fn with
      | none =>
        rw [hk] at HR1
        simp only at HR1
        simp only [Option.isSome_none]
        have r0 := (block_at HW.out 0).trans rfl
        have r1 := (block_at HW.out 1).trans rfl
        have r2 := (block_at HW.out 2).trans rfl
        have r3 := (block_at HW.out 3).trans rfl
        have z0 := block_free HW.out 0
        have z1 := block_free HW.out 1
        have z2 := block_free HW.out 2
        have z3 := block_free HW.out 3
        go_wp2_with fail
        obtain ⟨Wf, hWf⟩ : ∃ Wf, Wf = ((((w2.setCell ⟨w.heap.size, 0, none⟩ (.int .i64 0)).setCell ⟨w.heap.size, 1, none⟩ (.slice none 0 0)).setCell ⟨w.heap.size, 2, none⟩ (.slice none 0 0)).setCell ⟨w.heap.size, 3, none⟩ (.slice none 0 0)) := ⟨_, rfl⟩
        have i4 := set4 HW.out (.int .i64 0) (.slice none 0 0) (.slice none 0 0) (.slice none 0 0)
        have HBF : Hid (Below w.heap.size w Wf) := hide (by rw [hWf]; exact (((HB.out.setCell (by simp) _).setCell (by simp) _).setCell (by simp) _).setCell (by simp) _)
        rw [← hWf] at i4 ⊢
        have f0 := (block_at i4 0).trans rfl
        have f1 := (block_at i4 1).trans rfl
        have f2 := (block_at i4 2).trans rfl
        have f3 := (block_at i4 3).trans rfl
        clear i4
        refine bodyPost_ret (v := .tuple #[.agg #[.int .i64 0, .slice none 0 0, .slice none 0 0, .slice none 0 0], .int .i64 4]) (by simp [results, Tryz.results17, go_sem, f0, f1, f2, f3]) rfl ?_
        exact ⟨_, _, _, by rw [HR1.out]; rfl, hide ⟨by rw [HR1.out]; exact OutAt.bad _ _, HBF.out⟩⟩
      | some p =>
        obtain ⟨a', k'⟩ := p
        rw [hk] at HR1
        simp only at HR1
        simp only [Option.isSome_some]
        obtain ⟨rfl, rfl⟩ := HF.out a' k' hk
        obtain ⟨y, fn', hy, hfn⟩ := Rn.fnd_some hk
        have HY := hide (And.intro hy hfn)
        clear hk HF hy hfn
        go_wp2_with fail
        refine (newMachine_any m w2 _ _ l store fu (HL.out.below HB.out) (HS.out.below HB.out) hfu HOK.out.1 (fun y hy => (Rn.moE_facts (HOK.out.2 y hy)).1)).mono ?_
        rintro e w3 ⟨rfl, hMk⟩
        obtain ⟨c, hcn, hcp, hcl, hcm, hmk, hb3⟩ := hMk.out
        have HMK := hide hmk
        have HB3 := hide hb3
        have HCN := hide hcn
        have HN8 : Hid (∀ z ∈ (Rn.mkTo store l l.length).1, z.1.size ≤ 8 ∧ z.2.size ≤ 8) := hide (fun z hz => Rn.mkTo_small HOK.out.2 hz)
        obtain ⟨st, hst⟩ : ∃ st, st = Rn.mkTo store l l.length := ⟨_, rfl⟩
        rw [← hst] at HMK HN8 HR1
        rw [show w2.heap.size + 1 = c.p from hcp.symm]
        have HEN := hide (enter_all w2 c st.1 l m (by rw [hcl]; exact ModsOk.below ⟨HOK.out.2, HCAP.out⟩ HL.out HB.out) w3 ⟨fu, st.2, []⟩ a' k' _ args (by rw [hcn]; exact hb3) hcn (by rw [hcl]; exact HL.out.below HB.out) HMK.out.ma y fn' HY.out.1 HY.out.2 ((HA.out.below HB.out).below hb3) HAI.out g (by
          have := HG.out
          have h2 : fu * (m + 2) ≤ 10000 * (m + 2) := Nat.mul_le_mul_right _ hfu
          show fu * (m + 2) + m ≤ g
          omega))
        obtain ⟨E, hE⟩ : ∃ E, E = Rn.enter (Rn.M st.1 l g) l a' k' args ⟨fu, st.2, []⟩ := ⟨_, rfl⟩
        have HPR : Hid (E.2.2.pr.length ≤ 1048576) := hide (by
          have h1 := Rn.enter_mea (Rn.M_tot st.1 l g) l a' k' args ⟨fu, st.2, []⟩
          rw [← hE] at h1
          simp only [List.length_nil] at h1
          omega)
        rw [← hE] at HEN HR1
        have HW3 := hide ((hb3.block _ (block_lt HW.out)).trans HW.out)
        have hcB : w.heap.size < c.n := by rw [hcn]; exact block_lt HW.out
        clear hMk hcn hcp hcl hcm hmk hb3 hst hE
        go_wp2_with fail
        refine HEN.out.mono ?_
        rintro e w4 ⟨rfl, hM4⟩
        have HM4 := hide hM4.out.1
        have HV4 := hide (HMK.out.vv.kp hM4.out.2.1 HMK.out.ma (by decide) (by decide) (by decide))
        have HW4 := hide ((hM4.out.2.1.below.block _ hcB).trans HW3.out)
        have HB4 : Hid (Below w.heap.size w w4) := hide (HB.out.trans ((HB3.out.trans (by rw [← HCN.out]; exact hM4.out.2.1.below)).mono (by have := HCN.out; omega)))
        clear hM4 HEN HW3 HB HW
        have HB := HB4
        have HW := HW4
        clear HB4 HW4
        by_cases he : E.2.1 = 0
        · rw [he]
          unfold Rn.out at HR1
          rw [if_pos he] at HR1
          have HSM : Hid (st.1.length ≤ 1048576) := hide HMK.out.small
          have HOC := hide (outcome_any w4 c st.1 E.2.2 E.1 HM4.out HV4.out HN8.out HSM.out HPR.out)
          have HRK : Hid (ResOk RR) := hide (by
            rw [HR1.out]
            refine ⟨fun x hx => ?_, ⟨?_, ?_, ?_⟩, fun t ht => ?_⟩
            · simp only at hx
              unfold Rn.sto at hx
              obtain ⟨⟨z, v⟩, hz, rfl⟩ := List.mem_map.1 hx
              exact HM4.out.val v (List.of_mem_zip hz).2
            · simp only
              unfold Rn.sto
              rw [List.length_map, List.length_zip]
              have := HSM.out
              omega
            · have := HPR.out
              simp only
              omega
            · simp only
              have h1 := Rn.cptS_len (Rn.srtS (Rn.did st.1 E.2.2.vs E.2.2.pr))
              rw [Rn.srtS_len] at h1
              have h2 : (Rn.did st.1 E.2.2.vs E.2.2.pr).length ≤ 2 * (st.1.zip E.2.2.vs).length + E.2.2.pr.length := by
                unfold Rn.did
                rw [List.length_append, List.length_map]
                exact Nat.add_le_add_right (Rn.didZ_len _) _
              rw [List.length_zip] at h2
              have := HPR.out
              have := HSM.out
              omega
            · simp only at ht
              rw [Rn.cptS_mem, Rn.srtS_mem] at ht
              exact Nat.le_trans (did_small HN8.out HM4.out.prs ht) (by decide))
          go_wp2_with fail
          refine HOC.out.mono ?_
          rintro e w5 ⟨v1, v2, v3, rfl, hO⟩
          have HO5 := hide hO.out.1
          have HB5 := hide (HB.out.trans (hO.out.2.mono (by have := HB.out.size; omega)))
          have HW5 := hide ((hO.out.2.block _ (block_lt HW.out)).trans HW.out)
          obtain ⟨x1, y1, rfl⟩ := HO5.out.st.form
          obtain ⟨x2, y2, rfl⟩ := HO5.out.pr.form
          obtain ⟨x3, n3, y3, rfl⟩ : ∃ a n c, v3 = .slice a n c := by
            rcases HO5.out.di with ⟨_, h⟩ | ⟨g', c', h, _⟩
            · exact ⟨_, _, _, h⟩
            · exact ⟨_, _, _, h⟩
          obtain ⟨n1, hn1⟩ : ∃ n, n = (Rn.sto st.1 E.2.2.vs).length := ⟨_, rfl⟩
          obtain ⟨n2, hn2⟩ : ∃ n, n = E.2.2.pr.length := ⟨_, rfl⟩
          rw [← hn1, ← hn2] at HO5 ⊢
          rw [← HR1.out] at HO5
          clear hO HB HW HOC hn1 hn2
          have HB := HB5
          have HW := HW5
          clear HB5 HW5
          have r0 := (block_at HW.out 0).trans rfl
          have r1 := (block_at HW.out 1).trans rfl
          have r2 := (block_at HW.out 2).trans rfl
          have r3 := (block_at HW.out 3).trans rfl
          have z0 := block_free HW.out 0
          have z1 := block_free HW.out 1
          have z2 := block_free HW.out 2
          have z3 := block_free HW.out 3
          go_wp2_with fail
          obtain ⟨Wf, hWf⟩ : ∃ Wf, Wf = ((((w5.setCell ⟨w.heap.size, 0, none⟩ (.int .i64 E.1)).setCell ⟨w.heap.size, 1, none⟩ (.slice x1 n1 y1)).setCell ⟨w.heap.size, 2, none⟩ (.slice x2 n2 y2)).setCell ⟨w.heap.size, 3, none⟩ (.slice x3 n3 y3)) := ⟨_, rfl⟩
          have i4 := set4 HW.out (.int .i64 E.1) (.slice x1 n1 y1) (.slice x2 n2 y2) (.slice x3 n3 y3)
          have HBF : Hid (Below w.heap.size w Wf) := hide (by rw [hWf]; exact (((HB.out.setCell (by simp) _).setCell (by simp) _).setCell (by simp) _).setCell (by simp) _)
          have HOF : Hid (OcAt Wf c.n RR (.slice x1 n1 y1) (.slice x2 n2 y2) (.slice x3 n3 y3)) := hide (by rw [hWf]; exact (((HO5.out.set hcB 0 _).set hcB 1 _).set hcB 2 _).set hcB 3 _)
          rw [← hWf] at i4 ⊢
          have f0 := (block_at i4 0).trans rfl
          have f1 := (block_at i4 1).trans rfl
          have f2 := (block_at i4 2).trans rfl
          have f3 := (block_at i4 3).trans rfl
          clear i4
          refine bodyPost_ret (v := .tuple #[.agg #[.int .i64 E.1, .slice x1 n1 y1, .slice x2 n2 y2, .slice x3 n3 y3], .int .i64 0]) (by simp [results, Tryz.results17, go_sem, f0, f1, f2, f3]) rfl ?_
          exact ⟨_, _, _, by rw [HR1.out], hide ⟨HOF.out.out HRK.out, HBF.out⟩⟩
        · have he' := bne_zero_true he
          unfold Rn.out at HR1
          rw [if_neg he] at HR1
          obtain ⟨ee, hee⟩ : ∃ z, z = E.2.1 := ⟨_, rfl⟩
          rw [← hee] at HR1 he' ⊢
          clear hee he
          have r0 := (block_at HW.out 0).trans rfl
          have r1 := (block_at HW.out 1).trans rfl
          have r2 := (block_at HW.out 2).trans rfl
          have r3 := (block_at HW.out 3).trans rfl
          have z0 := block_free HW.out 0
          have z1 := block_free HW.out 1
          have z2 := block_free HW.out 2
          have z3 := block_free HW.out 3
          go_wp2_with fail
          obtain ⟨Wf, hWf⟩ : ∃ Wf, Wf = ((((w4.setCell ⟨w.heap.size, 0, none⟩ (.int .i64 0)).setCell ⟨w.heap.size, 1, none⟩ (.slice none 0 0)).setCell ⟨w.heap.size, 2, none⟩ (.slice none 0 0)).setCell ⟨w.heap.size, 3, none⟩ (.slice none 0 0)) := ⟨_, rfl⟩
          have i4 := set4 HW.out (.int .i64 0) (.slice none 0 0) (.slice none 0 0) (.slice none 0 0)
          have HBF : Hid (Below w.heap.size w Wf) := hide (by rw [hWf]; exact (((HB.out.setCell (by simp) _).setCell (by simp) _).setCell (by simp) _).setCell (by simp) _)
          rw [← hWf] at i4 ⊢
          have f0 := (block_at i4 0).trans rfl
          have f1 := (block_at i4 1).trans rfl
          have f2 := (block_at i4 2).trans rfl
          have f3 := (block_at i4 3).trans rfl
          clear i4
          refine bodyPost_ret (v := .tuple #[.agg #[.int .i64 0, .slice none 0 0, .slice none 0 0, .slice none 0 0], .int .i64 ee]) (by simp [results, Tryz.results17, go_sem, f0, f1, f2, f3]) rfl ?_
          exact ⟨_, _, _, by rw [HR1.out]; rfl, hide ⟨by rw [HR1.out]; exact OutAt.bad _ _, HBF.out⟩⟩
  · have HR1 : Hid (RR = Rn.bad (Rn.mosR m l)) := hide (by rw [HR.out, Rn.run, if_pos h0])
    have h0' := bne_zero_true h0
    have HB := hide (up HB0.out hb1)
    have HW := hide ((hb1.block _ (block_lt HW0.out)).trans HW0.out)
    obtain ⟨ee, hee⟩ : ∃ z, z = Rn.mosR m l := ⟨_, rfl⟩
    rw [← hee] at HR1 h0' ⊢
    clear hb1 h0 hee
    have r0 := (block_at HW.out 0).trans rfl
    have r1 := (block_at HW.out 1).trans rfl
    have r2 := (block_at HW.out 2).trans rfl
    have r3 := (block_at HW.out 3).trans rfl
    have z0 := block_free HW.out 0
    have z1 := block_free HW.out 1
    have z2 := block_free HW.out 2
    have z3 := block_free HW.out 3
    go_wp2_with fail
    obtain ⟨Wf, hWf⟩ : ∃ Wf, Wf = ((((w1.setCell ⟨w.heap.size, 0, none⟩ (.int .i64 0)).setCell ⟨w.heap.size, 1, none⟩ (.slice none 0 0)).setCell ⟨w.heap.size, 2, none⟩ (.slice none 0 0)).setCell ⟨w.heap.size, 3, none⟩ (.slice none 0 0)) := ⟨_, rfl⟩
    have i4 := set4 HW.out (.int .i64 0) (.slice none 0 0) (.slice none 0 0) (.slice none 0 0)
    have HBF : Hid (Below w.heap.size w Wf) := hide (by rw [hWf]; exact (((HB.out.setCell (by simp) _).setCell (by simp) _).setCell (by simp) _).setCell (by simp) _)
    rw [← hWf] at i4 ⊢
    have f0 := (block_at i4 0).trans rfl
    have f1 := (block_at i4 1).trans rfl
    have f2 := (block_at i4 2).trans rfl
    have f3 := (block_at i4 3).trans rfl
    clear i4
    refine bodyPost_ret (v := .tuple #[.agg #[.int .i64 0, .slice none 0 0, .slice none 0 0, .slice none 0 0], .int .i64 ee]) (by simp [results, Tryz.results17, go_sem, f0, f1, f2, f3]) rfl ?_
    exact ⟨_, _, _, by rw [HR1.out]; rfl, hide ⟨by rw [HR1.out]; exact OutAt.bad _ _, HBF.out⟩⟩
end Go.Proofs.YtholefgckcoklaaGreatDoor
