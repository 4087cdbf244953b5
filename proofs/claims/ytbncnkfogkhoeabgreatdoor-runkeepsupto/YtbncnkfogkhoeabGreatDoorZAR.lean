/- Running functions, plain mathematics: whatever holds of each small step holds of a whole run; what isn't set stays. -/
import Derived.Test.YtbncnkfogkhoeabGreatDoorZAG
import Derived.Test.YtbncnkfogkhoeabGreatDoorZAB
import Derived.Laws.CopyRow
import Derived.Laws.Tables
import Derived.Laws.Entries
import Derived.Test.YtbncnkfogkhoeabGreatDoorZAQ
namespace Go.Proofs.YtbncnkfogkhoeabGreatDoor
open Go.RowKit

namespace Rn
/-- A relation that each small step keeps. -/
structure Rel (nm : List (ByteArray × ByteArray)) (ρ : Sta → Sta → Prop) : Prop where
  refl : ∀ s, ρ s s
  trans : ∀ {s t u}, ρ s t → ρ t u → ρ s u
  gt : ∀ m o n s, ρ s (Rn.gt nm m o n s).2
  pt : ∀ m o n x s, ρ s (Rn.pt nm m o n x s).2
  burn : ∀ s s1, Rn.burn s = some s1 → ρ s s1
  pr : ∀ s d, ρ s { s with pr := s.pr ++ [d] }
def Keeps (ρ : Sta → Sta → Prop) (F : Fns) : Prop := (∀ a k o x s, ρ s (F.ev a k o x s).2.2) ∧ (∀ a k o c s, ρ s (F.dO a k o c s).2.2) ∧ (∀ a k o c s, ρ s (F.lp a k o c s).2.2)
section
variable {nm : List (ByteArray × ByteArray)} {ρ : Sta → Sta → Prop} (U : Rel nm ρ)
include U
theorem evs_rel {f : Ex → Sta → Int × Int × Sta} (hf : ∀ x s, ρ s (f x s).2.2) : ∀ (l : List Ex) (s : Sta), ρ s (evs f l s).2.2
  | [], s => U.refl s
  | x :: l, s => by
    unfold evs
    split
    · exact U.trans (hf x s) (evs_rel hf l _)
    · exact hf x s
theorem dos_rel {f : Own → St → Sta → Int × Own × Sta} (hf : ∀ o c s, ρ s (f o c s).2.2) : ∀ (l : List St) (o : Own) (s : Sta), ρ s (dos f l o s).2.2
  | [], _, s => U.refl s
  | x :: l, o, s => by
    unfold dos
    split
    · exact U.trans (hf o x s) (dos_rel hf l _ _)
    · exact hf o x s
theorem enter_rel {F : Fns} (h : Keeps ρ F) (l : List Mo) (a k : Nat) (args : List Int) (s : Sta) : ρ s (enter F l a k args s).2.2 := by
  unfold enter
  split
  · exact U.refl s
  · rename_i f _
    have h1 := dos_rel U (fun o c s => h.2.1 a k o c s) f.body (own0 f.params args) s
    split
    · split
      · exact U.trans h1 (h.1 _ _ _ _ _)
      · exact h1
    · exact U.refl s
theorem call_rel {F : Fns} (h : Keeps ρ F) (l : List Mo) (a k : Nat) (n : ByteArray) (args : List Int) (s : Sta) : ρ s (call F l a k n args s).2.2 := by
  unfold call
  split
  · exact U.refl s
  · rename_i s1 hb _
    exact U.burn _ _ hb
  · rename_i s1 x hb _
    split
    · exact U.burn _ _ hb
    · exact U.trans (U.burn _ _ hb) (enter_rel U h l _ _ args s1)
theorem step_rel {l : List Mo} {F : Fns} (h : Keeps ρ F) : Keeps ρ (step nm l F) := by
  refine ⟨fun a k o x s => ?_, fun a k o c s => ?_, fun a k o c s => ?_⟩
  · have h1 := evs_rel U (fun x s => h.1 a k o x s) x.args s
    simp only [step]
    split
    · exact U.refl s
    · split
      · exact U.gt _ _ _ _
      · split
        · split
          · exact U.trans h1 (call_rel U h l _ _ _ _ _)
          · exact h1
        · exact h1
  · simp only [step]
    split
    · exact U.refl s
    · rename_i s1 hb
      have hb' := U.burn _ _ hb
      have h1 := U.trans hb' (h.1 a k o c.e s1)
      split
      · exact U.trans hb' (h.2.2 _ _ _ _ _)
      · split
        · split
          · exact U.trans h1 (U.pt _ _ _ _ _)
          · split
            · exact U.trans h1 (U.pr _ _)
            · split
              · exact U.trans h1 (dos_rel U (fun o c s => h.2.1 a k o c s) _ _ _)
              · exact U.trans h1 (dos_rel U (fun o c s => h.2.1 a k o c s) _ _ _)
        · exact h1
  · have h1 := h.1 a k o c.e s
    have h2 := U.trans h1 (dos_rel U (fun o c s => h.2.1 a k o c s) c.a o (F.ev a k o c.e s).2.2)
    simp only [step]
    split
    · split
      · split
        · exact h2
        · rename_i s2 hb
          exact U.trans (U.trans h2 (U.burn _ _ hb)) (h.2.2 _ _ _ _ _)
      · exact h2
    · exact h1
theorem M_rel (l : List Mo) : ∀ g, Keeps ρ (M nm l g)
  | 0 => ⟨fun _ _ _ _ s => U.refl s, fun _ _ _ _ s => U.refl s, fun _ _ _ _ s => U.refl s⟩
  | g + 1 => step_rel U (M_rel l g)
end

/-- What isn't set stays; what was read or set stays so; what was printed stands. -/
def Stay (s t : Sta) : Prop := t.vs.length = s.vs.length ∧ (∀ (i : Nat) (v u : Vr), s.vs[i]? = some v → t.vs[i]? = some u → (u.st = false → v.st = false ∧ u.val = v.val) ∧ (v.rd = true → u.rd = true)) ∧ s.pr <+: t.pr
theorem Stay.refl (s : Sta) : Stay s s := ⟨rfl, fun i v u h1 h2 => by rw [h1] at h2; cases h2; exact ⟨fun h => ⟨h, rfl⟩, fun h => h⟩, List.prefix_rfl⟩
theorem Stay.trans {s t u : Sta} (h : Stay s t) (k : Stay t u) : Stay s u := by
  refine ⟨k.1.trans h.1, fun i v w h1 h2 => ?_, h.2.2.trans k.2.2⟩
  have hi : i < t.vs.length := by rw [h.1]; exact (List.getElem?_eq_some_iff.1 h1).1
  have h3 := h.2.1 i v _ h1 (List.getElem?_eq_getElem hi)
  have h4 := k.2.1 i _ w (List.getElem?_eq_getElem hi) h2
  refine ⟨fun hw => ?_, fun hv => h4.2 (h3.2 hv)⟩
  obtain ⟨k1, k2⟩ := h4.1 hw
  obtain ⟨k3, k4⟩ := h3.1 k1
  exact ⟨k3, k2.trans k4⟩
theorem Stay.mod {s : Sta} (i : Nat) (g : Vr → Vr) (hg : ∀ v, ((g v).st = false → v.st = false ∧ (g v).val = v.val) ∧ (v.rd = true → (g v).rd = true)) : Stay s { s with vs := s.vs.modify i g } := by
  refine ⟨by simp, fun j v u h1 h2 => ?_, List.prefix_rfl⟩
  have h3 : (s.vs.modify i g)[j]? = some u := h2
  rw [List.getElem?_modify, h1] at h3
  by_cases e : i = j
  · simp [e] at h3
    subst h3
    exact hg v
  · simp [e] at h3
    subst h3
    exact ⟨fun h => ⟨h, rfl⟩, fun h => h⟩
theorem stay_rel (nm : List (ByteArray × ByteArray)) : Rel nm Stay where
  refl := Stay.refl
  trans := Stay.trans
  gt m o n s := by
    unfold Rn.gt
    split
    · exact Stay.refl s
    · exact Stay.mod _ _ fun v => ⟨fun h => ⟨h, rfl⟩, fun _ => rfl⟩
  pt m o n x s := by
    unfold Rn.pt
    split
    · exact Stay.refl s
    · exact Stay.mod _ _ fun v => ⟨fun h => by simp at h, fun h => h⟩
  burn s s1 h := by
    obtain ⟨_, h1, h2⟩ := burn_some h
    have := Stay.refl s
    unfold Stay at this ⊢
    rw [h1, h2]
    exact this
  pr s d := ⟨rfl, fun i v u h1 h2 => (Stay.refl s).2.1 i v u h1 h2, List.prefix_append _ _⟩
end Rn

end Go.Proofs.YtbncnkfogkhoeabGreatDoor

/- Walks over the library: strings that are sorted, and of which each stands once: the plain side. -/
namespace Go.Proofs.YtbncnkfogkhoeabGreatDoor
open Go.RowKit Go.Shelf

namespace Rn
theorem sameB_iff {a b : ByteArray} : Nm.sameB a b = true ↔ a = b := by
  unfold Nm.sameB
  rw [beq_iff_eq]
  constructor
  · intro h
    rw [ByteArray.toList_eq, ByteArray.toList_eq] at h
    cases a
    cases b
    simp only [ByteArray.mk.injEq]
    exact Array.toList_inj.1 h
  · intro h; rw [h]
/-- One more behind a list in which none stands just behind its like. -/
def cstS (acc : List ByteArray) (x : ByteArray) : List ByteArray := match acc.getLast? with
  | some y => if Nm.sameB x y then acc else acc ++ [x]
  | none => acc ++ [x]
def cptS (l : List ByteArray) : List ByteArray := l.foldl cstS []
theorem cstS_last (acc : List ByteArray) (x : ByteArray) : (cstS acc x).getLast? = some x := by
  unfold cstS
  split
  · rename_i y h
    split
    · rename_i hs; rw [sameB_iff] at hs; subst hs; exact h
    · simp
  · simp
theorem cptS_snoc (l : List ByteArray) (x : ByteArray) : cptS (l ++ [x]) = cstS (cptS l) x := by unfold cptS; simp
theorem cptS_take {l : List ByteArray} {j : Nat} {x : ByteArray} (h : l[j]? = some x) : cptS (l.take (j + 1)) = cstS (cptS (l.take j)) x := by
  rw [List.take_add_one, h]; exact cptS_snoc _ _
theorem cptS_last {l : List ByteArray} {j : Nat} {x : ByteArray} (h : l[j]? = some x) : (cptS (l.take (j + 1))).getLast? = some x := by
  rw [cptS_take h]; exact cstS_last _ _
theorem cptS_next {l : List ByteArray} {j : Nat} {x y : ByteArray} (h : l[j]? = some y) (h' : l[j + 1]? = some x) : cptS (l.take (j + 1 + 1)) = if Nm.sameB x y then cptS (l.take (j + 1)) else cptS (l.take (j + 1)) ++ [x] := by
  rw [cptS_take h']
  have := cptS_last h
  unfold cstS
  rw [this]
theorem cptS_len (l : List ByteArray) : (cptS l).length ≤ l.length := by
  have h : ∀ (l acc : List ByteArray), (l.foldl cstS acc).length ≤ acc.length + l.length := by
    intro l
    induction l with
    | nil => intro acc; simp
    | cons x r ih =>
      intro acc
      have h1 := ih (cstS acc x)
      have h2 : (cstS acc x).length ≤ acc.length + 1 := by
        unfold cstS
        split
        · split <;> simp
        · simp
      simp only [List.foldl_cons, List.length_cons]
      omega
  simpa [cptS] using h l []
theorem cstS_mem (acc : List ByteArray) (x z : ByteArray) : z ∈ cstS acc x ↔ z ∈ acc ∨ z = x := by
  unfold cstS
  split
  · rename_i y h
    split
    · rename_i hs
      rw [sameB_iff] at hs
      subst hs
      have hm : x ∈ acc := List.mem_of_getLast? h
      exact ⟨Or.inl, fun hx => hx.elim id (fun e => e ▸ hm)⟩
    · simp
  · simp
/-- Nothing is lost, nothing comes in. -/
theorem cptS_mem (l : List ByteArray) (z : ByteArray) : z ∈ cptS l ↔ z ∈ l := by
  have h : ∀ (l acc : List ByteArray), z ∈ l.foldl cstS acc ↔ z ∈ acc ∨ z ∈ l := by
    intro l
    induction l with
    | nil => intro acc; simp
    | cons x r ih =>
      intro acc
      rw [List.foldl_cons, ih, cstS_mem, List.mem_cons, or_assoc]
  simpa [cptS] using h l []
theorem cptS_self {l : List ByteArray} (h : ∀ (j : Nat) x y, l[j]? = some y → l[j + 1]? = some x → Nm.sameB x y = false) : ∀ j, j ≤ l.length → cptS (l.take j) = l.take j := by
  intro j
  induction j with
  | zero => intro _; rfl
  | succ j ih =>
    intro hj
    cases j with
    | zero =>
      have hx : l[0]? = some l[0] := List.getElem?_eq_getElem (by omega)
      rw [cptS_take hx]
      simp [cptS, cstS, List.take_add_one, hx]
    | succ j =>
      have hy : l[j]? = some l[j] := List.getElem?_eq_getElem (by omega)
      have hx : l[j + 1]? = some l[j + 1] := List.getElem?_eq_getElem (by omega)
      rw [cptS_next hy hx, h j _ _ hy hx, ih (by omega)]
      rw [List.take_add_one (i := j + 1), hx]
      simp
/-- Strings in their order. -/
def srtS (l : List ByteArray) : List ByteArray := ((l.map (·.data.toList)).mergeSort fun x y => decide (x ≤ y)).map fun b => ⟨b.toArray⟩
theorem srtS_mem (l : List ByteArray) (z : ByteArray) : z ∈ srtS l ↔ z ∈ l := by
  unfold srtS
  rw [List.mem_map]
  constructor
  · rintro ⟨b, hb, rfl⟩
    rw [List.mem_mergeSort, List.mem_map] at hb
    obtain ⟨a, ha, rfl⟩ := hb
    have : (⟨a.data.toList.toArray⟩ : ByteArray) = a := by cases a; simp
    rw [this]; exact ha
  · intro h
    refine ⟨z.data.toList, by rw [List.mem_mergeSort, List.mem_map]; exact ⟨z, h, rfl⟩, ?_⟩
    cases z
    simp
theorem srtS_len (l : List ByteArray) : (srtS l).length = l.length := by unfold srtS; rw [List.length_map, List.length_mergeSort, List.length_map]
end Rn

theorem But.row {g : Nat} {w w1 : World} {cs : Array Value} (h : But g w w1) : But g w (w1.setRow g cs) :=
  ⟨h.os, h.tape, h.output, by rw [setRow_size]; exact h.size, fun k hk hp => by rw [setRow_other _ _ _ _ hp]; exact h.block k hk hp⟩
/-- Block g holds the strings l, from its beginning on. -/
def RowS (w : World) (g : Nat) (l : List ByteArray) : Prop :=
  ∃ cur, w.heap[g]? = some (.cells cur 9 (0, 0)) ∧ l.length ≤ cur.size ∧ ∀ (i : Nat) d, l[i]? = some d → cur[i]? = some (.string d)
theorem RowS.cell {w : World} {g : Nat} {l : List ByteArray} (h : RowS w g l) {i : Nat} {d : ByteArray} (hd : l[i]? = some d) : w.cell? ⟨g, i, none⟩ = some (.string d) := by
  obtain ⟨cur, hc, _, hel⟩ := h
  exact (block_at hc _).trans (hel i d hd)
theorem RowS.below {w w' : World} {g : Nat} {l : List ByteArray} (h : RowS w g l) (hb : Below w.heap.size w w') : RowS w' g l := by
  obtain ⟨cur, hc, h1, h2⟩ := h
  exact ⟨cur, by rw [hb.block g (block_lt hc)]; exact hc, h1, h2⟩
theorem RowS.drew {w : World} {g n : Nat} {l : List ByteArray} (h : RowS w g l) : RowS (w.drewN n) g l := h
theorem RowS.set {w : World} {g k : Nat} {l : List ByteArray} (h : RowS w g l) (hk : k < l.length) (d : ByteArray) : RowS (w.setCell ⟨g, k, none⟩ (.string d)) g (l.set k d) := by
  obtain ⟨cur, hc, hs, hel⟩ := h
  have h0 := block_set hc k (.string d)
  refine ⟨_, h0, by simpa using hs, fun i x hx => ?_⟩
  rw [List.getElem?_set] at hx
  by_cases e : k = i
  · subst e
    simp [hk] at hx
    subst hx
    simp [Array.getElem?_setIfInBounds]; omega
  · rw [if_neg e] at hx
    rw [Array.getElem?_setIfInBounds_ne (by omega)]; exact hel i x hx
theorem clear_runS {w : World} {g k n c : Nat} {cur : Array Value} (hc : w.heap[g]? = some (.cells cur 9 (0, 0))) (hn : 0 < n) (hs : k + n ≤ cur.size) (ty : TypeId) :
    (Builtin.clear_ #[22] ty #[.slice (some ⟨g, k, none⟩) n c]).run Tryz.prog w = .ok (.tuple #[]) (w.setRow g (cur.toList.take k ++ (Builtin.zeroCells (Value.string ⟨#[]⟩).cells n).toList ++ cur.toList.drop (k + (Builtin.zeroCells (Value.string ⟨#[]⟩).cells n).toList.length)).toArray) := by
  have hz : (Builtin.zeroCells (Value.string ⟨#[]⟩).cells n).toList.length = n := by simp [Builtin.zeroCells, Value.cells]
  have h1 : ∀ v ∈ (Builtin.zeroCells (Value.string ⟨#[]⟩).cells n).toList, v.oneCell' = true := by
    intro v hv
    simp [Builtin.zeroCells, Value.cells] at hv
    obtain ⟨a, ha, rfl⟩ := hv
    rw [Nat.mod_one]
    rfl
  have hst := run_storeCells_at Tryz.prog g k 9 (Builtin.zeroCells (Value.string ⟨#[]⟩).cells n).toList 0 cur w hc (by rw [hz]; omega) h1
  obtain ⟨m, rfl⟩ : ∃ m, n = m + 1 := ⟨n - 1, by omega⟩
  simp only [Nat.add_zero] at hst
  simp [Builtin.clear_, run_underlying Tryz.underlying22, hst]
theorem RowS.clear {w : World} {g k : Nat} {l : List ByteArray} {zs : List Value} {cur : Array Value} (h : RowS w g l) (hc : w.heap[g]? = some (.cells cur 9 (0, 0))) (hk : k ≤ l.length) (m : Nat) :
    RowS (w.setRow g (cur.toList.take k ++ zs ++ cur.toList.drop m).toArray) g (l.take k) := by
  obtain ⟨cur', hc', hs, hel⟩ := h
  rw [hc] at hc'
  simp at hc'
  subst hc'
  have hkl : (l.take k).length = k := by rw [List.length_take]; omega
  refine ⟨_, setRow_heap w g cur _ 9 (0, 0) hc, ?_, fun i d hd => ?_⟩
  · rw [hkl]; simp; omega
  · have hik : i < k := by have := (List.getElem?_eq_some_iff.1 hd).1; omega
    rw [List.getElem?_take_of_lt hik] at hd
    have a0 := hel i d hd
    rw [List.getElem?_toArray, List.append_assoc, List.getElem?_append_left (by simp; omega), List.getElem?_take_of_lt hik]
    simpa using a0
theorem row_atS {l : List ByteArray} {c K : Nat} {C : List ByteArray} (hc : c = C.length) (hK : c ≤ K) : (C ++ l.drop c)[K]? = l[K]? := by
  subst hc
  rw [List.getElem?_append_right hK, List.getElem?_drop]
  congr 1; omega
theorem row_setS {l : List ByteArray} {c : Nat} {C : List ByteArray} (hc : c = C.length) (hl : c < l.length) (x : ByteArray) : (C ++ l.drop c).set c x = (C ++ [x]) ++ l.drop (c + 1) := by
  subst hc
  rw [List.set_append_right _ _ (Nat.le_refl _), Nat.sub_self, List.drop_eq_getElem_cons hl, List.set_cons_zero]
  simp

end Go.Proofs.YtbncnkfogkhoeabGreatDoor

/- Running functions, plain mathematics: what a run tells. -/
namespace Go.Proofs.YtbncnkfogkhoeabGreatDoor
open Go.RowKit

namespace Rn
def sto (nm : List (ByteArray × ByteArray)) (vs : List Vr) : List Ce := (nm.zip vs).map fun p => ⟨p.1.1, p.1.2, p.2.val⟩
/-- What was done with a variable, as a text. -/
def tag (t : UInt8) (x : ByteArray × ByteArray) : ByteArray := (((⟨#[t, 58]⟩ : ByteArray) ++ x.1) ++ ⟨#[46]⟩) ++ x.2
def tagP (s : ByteArray) : ByteArray := (⟨#[112, 58]⟩ : ByteArray) ++ s
def did1 (p : (ByteArray × ByteArray) × Vr) : List ByteArray := (if p.2.rd = true then [tag 114 p.1] else []) ++ (if p.2.st = true then [tag 119 p.1] else [])
def didV (nm : List (ByteArray × ByteArray)) (vs : List Vr) : List ByteArray := ((nm.zip vs).map did1).flatten
def did (nm : List (ByteArray × ByteArray)) (vs : List Vr) (pr : List (ByteArray × Int)) : List ByteArray := didV nm vs ++ pr.map fun d => tagP d.1
/-- What Run answers. -/
structure Res where
  res : Int
  sto : List Ce
  pr : List (ByteArray × Int)
  did : List ByteArray
  err : Int
def bad (e : Int) : Res := ⟨0, [], [], [], e⟩
def out (nm : List (ByteArray × ByteArray)) (x : Int × Int × Sta) : Res :=
  if x.2.1 = 0 then ⟨x.1, Rn.sto nm x.2.2.vs, x.2.2.pr, cptS (srtS (Rn.did nm x.2.2.vs x.2.2.pr)), 0⟩ else bad x.2.1
def run (g m : Nat) (l : List Mo) (mod fn : ByteArray) (args : List Int) (store : List Ce) (fuel : Int) : Res :=
  if mosR m l ≠ 0 then bad (mosR m l)
  else if fuel < 1 ∨ 10000 < fuel then bad 1
  else match fnd l mod fn with
    | none => bad 4
    | some (a, k) => out (mkTo store l l.length).1 (enter (M (mkTo store l l.length).1 l g) l a k args ⟨fuel.toNat, (mkTo store l l.length).2, []⟩)

theorem zip_take {α β : Type} {l : List α} {r : List β} {j : Nat} {x : α} {y : β} (hx : l[j]? = some x) (hy : r[j]? = some y) : ((l.zip r).take (j + 1)) = (l.zip r).take j ++ [(x, y)] := by
  rw [List.take_add_one]
  congr 1
  have h : (l.zip r)[j]? = some (x, y) := List.getElem?_zip_eq_some.2 ⟨hx, hy⟩
  rw [h]
  rfl
theorem moE_facts {m : Nat} {y : Mo} (h : Lat.moE m y = 0) : y.vars.length ≤ 8 ∧ y.funs.length ≤ 8 ∧ y.name.size ≤ 8 ∧ ∀ v ∈ y.vars, v.name.size ≤ 8 := by
  have n8 : ∀ {s : ByteArray}, Lat.strB s = true → s.size ≤ 8 := fun {s} hs => by
    unfold Lat.strB Lat.nameB at hs
    simp only [Bool.and_eq_true, decide_eq_true_eq] at hs
    have h2 := hs.1.2
    rw [Array.length_toList] at h2
    exact h2
  unfold Lat.moE at h
  by_cases h8 : 8 < y.imports.length ∨ 8 < y.vars.length ∨ 8 < y.funs.length
  · rw [if_pos h8] at h; cases h
  · rw [if_neg h8] at h
    by_cases h5 : ((Lat.strB y.name && y.imports.all Lat.strB) && y.vars.all Lat.vaB) = false
    · rw [if_pos h5] at h; cases h
    · have h5' : ((Lat.strB y.name && y.imports.all Lat.strB) && y.vars.all Lat.vaB) = true := by
        cases hh : ((Lat.strB y.name && y.imports.all Lat.strB) && y.vars.all Lat.vaB) with
        | true => rfl
        | false => exact absurd hh h5
      simp only [Bool.and_eq_true] at h5'
      refine ⟨by omega, by omega, n8 h5'.1.1, fun v hv => ?_⟩
      have := List.all_eq_true.1 h5'.2 v hv
      unfold Lat.vaB at this
      simp only [Bool.and_eq_true] at this
      exact n8 this.1
theorem mosE_ok {m : Nat} : ∀ {l : List Mo}, Nm.mosE m l = 0 → ∀ y ∈ l, Lat.moE m y = 0
  | [], _ => fun y hy => absurd hy (by simp)
  | x :: l, h => by
    unfold Nm.mosE at h
    by_cases h0 : Lat.moE m x = 0
    · rw [if_pos h0] at h
      intro y hy
      rcases List.mem_cons.1 hy with rfl | hy
      · exact h0
      · exact mosE_ok h y hy
    · rw [if_neg h0] at h; exact absurd h h0
theorem mosR_ok {m : Nat} {l : List Mo} (h : mosR m l = 0) : l.length ≤ 6 ∧ ∀ y ∈ l, Lat.moE m y = 0 := by
  unfold mosR at h
  by_cases h0 : Nm.mosE m l = 0
  · rw [if_pos h0] at h
    refine ⟨?_, mosE_ok h0⟩
    by_cases h6 : 6 < l.length
    · rw [if_pos h6] at h; cases h
    · omega
  · rw [if_neg h0] at h; exact absurd h h0
theorem fnd_some {l : List Mo} {mod fn : ByteArray} {a k : Nat} (h : fnd l mod fn = some (a, k)) : ∃ y fu, l[a]? = some y ∧ y.funs[k]? = some fu := by
  unfold fnd at h
  cases ha : Nm.moAt l mod with
  | none => rw [ha] at h; cases h
  | some a' =>
    rw [ha] at h
    obtain ⟨y, hy, _⟩ := Nm.moAt_lt ha
    rw [Option.bind_some, hy] at h
    simp only [Option.map_some, Option.getD_some] at h
    cases hk : Nm.fnAt y.funs fn y.funs.length with
    | none => rw [hk] at h; cases h
    | some k' =>
      rw [hk] at h
      simp only [Option.map_some, Option.some.injEq, Prod.mk.injEq] at h
      obtain ⟨rfl, rfl⟩ := h
      have hlt : k' < y.funs.length := by
        unfold Nm.fnAt at hk
        have := List.mem_of_find?_eq_some hk
        simpa using this
      exact ⟨y, y.funs[k'], hy, List.getElem?_eq_getElem hlt⟩
theorem addN_mem {nm : List (ByteArray × ByteArray)} {x y : ByteArray} {z : ByteArray × ByteArray} (h : z ∈ addN nm x y) : z ∈ nm ∨ z = (x, y) := by
  unfold addN at h
  split at h
  · exact Or.inl h
  · simpa using h
theorem mkVs_mem {store : List Ce} {mod : ByteArray} {z : ByteArray × ByteArray} : ∀ {vs : List Va} {st : List (ByteArray × ByteArray) × List Vr}, z ∈ (mkVs store mod st vs).1 → z ∈ st.1 ∨ ∃ v ∈ vs, z = (mod, v.name)
  | [], st, h => Or.inl h
  | v :: vs, st, h => by
    have h' : z ∈ (mkVs store mod (addN st.1 mod v.name, addV store st.1 st.2 mod v.name) vs).1 := h
    rcases mkVs_mem h' with h1 | ⟨u, hu, rfl⟩
    · rcases addN_mem h1 with h2 | rfl
      · exact Or.inl h2
      · exact Or.inr ⟨v, by simp, rfl⟩
    · exact Or.inr ⟨u, by simp [hu], rfl⟩
theorem mkTo_mem {store : List Ce} {l : List Mo} {z : ByteArray × ByteArray} : ∀ {i : Nat}, z ∈ (mkTo store l i).1 → ∃ y ∈ l, ∃ v ∈ y.vars, z = (y.name, v.name)
  | 0, h => absurd h (by simp [mkTo])
  | i + 1, h => by
    unfold mkTo at h
    cases hy : l[i]? with
    | none => rw [hy] at h; exact mkTo_mem h
    | some y =>
      rw [hy] at h
      simp only at h
      split at h
      · exact mkTo_mem h
      · rcases mkVs_mem h with h1 | ⟨v, hv, rfl⟩
        · exact mkTo_mem h1
        · exact ⟨y, List.mem_of_getElem? hy, v, hv, rfl⟩
theorem mkTo_small {m : Nat} {store : List Ce} {l : List Mo} (h : ∀ y ∈ l, Lat.moE m y = 0) {i : Nat} {z : ByteArray × ByteArray} (hz : z ∈ (mkTo store l i).1) : z.1.size ≤ 8 ∧ z.2.size ≤ 8 := by
  obtain ⟨y, hy, v, hv, rfl⟩ := mkTo_mem hz
  obtain ⟨_, _, h3, h4⟩ := moE_facts (h y hy)
  exact ⟨h3, h4 v hv⟩
theorem addV_len {store : List Ce} {nm : List (ByteArray × ByteArray)} {vs : List Vr} {x y : ByteArray} (h : vs.length = nm.length) : (addV store nm vs x y).length = (addN nm x y).length := by
  unfold addV addN
  split
  · exact h
  · simp [h]

/-- With more fuel what came out comes out. -/
theorem run_up {g m : Nat} {l : List Mo} {mod fn : ByteArray} {args : List Int} {store : List Ce} {f d : Nat} (hf : f + d ≤ 10000) (h1 : 1 ≤ f) (h : (run g m l mod fn args store f).err ≠ 6) : run g m l mod fn args store (f + d : Nat) = run g m l mod fn args store f := by
  unfold run at h ⊢
  by_cases h0 : mosR m l ≠ 0
  · rw [if_pos h0, if_pos h0]
  · rw [if_neg h0] at h
    rw [if_neg h0, if_neg h0]
    have a1 : ¬ ((f : Int) < 1 ∨ 10000 < (f : Int)) := by omega
    have a2 : ¬ (((f + d : Nat) : Int) < 1 ∨ 10000 < ((f + d : Nat) : Int)) := by omega
    rw [if_neg a1] at h
    rw [if_neg a1, if_neg a2]
    cases hk : fnd l mod fn with
    | none => rfl
    | some p =>
      obtain ⟨a, k⟩ := p
      rw [hk] at h
      simp only [Int.toNat_natCast] at h ⊢
      generalize mkTo store l l.length = st at h ⊢
      have hu := enter_up (M_up d st.1 l g) l a k args ⟨f, st.2, []⟩
      by_cases h6 : (enter (M st.1 l g) l a k args ⟨f, st.2, []⟩).2.1 = 6
      · exfalso
        apply h
        unfold out
        rw [if_neg (by rw [h6]; decide)]
        exact h6
      · have hu' := hu h6
        have e : up d ⟨f, st.2, []⟩ = (⟨f + d, st.2, []⟩ : Sta) := rfl
        rw [e] at hu'
        rw [hu']
        rfl
end Rn

end Go.Proofs.YtbncnkfogkhoeabGreatDoor

/- Walks over the library: slices.Compact of strings. -/
namespace Go.Proofs.YtbncnkfogkhoeabGreatDoor
open Go.RowKit

set_option maxHeartbeats 4000000 in
set_option maxRecDepth 100000 in
theorem compactS_any (w : World) (g len cap : Nat) (l : List ByteArray) (h : RowS w g l) (hlen : len = l.length) (hcap : len ≤ cap) (hl : len ≤ 16777216) :
    Calls Tryz.prog 67 #[.slice (some ⟨g, 0, none⟩) len cap] w fun e w' => ∃ c', e = .returned (.slice (some ⟨g, 0, none⟩) (Rn.cptS l).length c') ∧ RowS w' g (Rn.cptS l) ∧ But g w w' := by
  have HL := hide hlen
  have HR := hide h
  clear hlen h
  by_cases h2 : len < 2
  · have HE : Hid (Rn.cptS l = l) := hide (by
      have hl' := HL.out
      match l, hl' with
      | [], _ => rfl
      | [x], _ => rfl
      | x :: y :: r, h => simp at h; omega)
    go_enter Tryz.func67, Tryz.ntmps67
    go_wp2_with fail
    go_ret
    exact ⟨_, by rw [HE.out, ← HL.out]; rfl, by rw [HE.out]; exact HR.out, But.refl _ _⟩
  · go_enter Tryz.func67, Tryz.ntmps67
    go_wp2_with fail
    go_loopw [3] (fun i wr => ∃ j : Nat, j + 1 ≤ len ∧ i = .int .i64 ((j : Int) + 1) ∧ (∀ (q : Nat) x y, q < j → l[q]? = some y → l[q + 1]? = some x → Nm.sameB x y = false) ∧ RowS wr g l ∧ But g w wr) (fun i _ => len - (intOf i).toNat)
    case atStart => exact ⟨0, by omega, rfl, fun q x y hq => absurd hq (Nat.not_lt_zero _), HR.out, But.refl _ _⟩
    case round =>
      obtain ⟨j, hj, rfl, hall, hrow, hnx⟩ := hrel
      have HALL := hide hall
      have HROW := hide hrow
      have HNX := hide hnx
      clear hall hnx
      by_cases hjl : j + 1 < len
      · obtain ⟨y, hy⟩ : ∃ y, l[j]? = some y := ⟨_, List.getElem?_eq_getElem (by rw [← HL.out]; omega)⟩
        obtain ⟨x, hx⟩ : ∃ y, l[j + 1]? = some y := ⟨_, List.getElem?_eq_getElem (by rw [← HL.out]; omega)⟩
        have p0 := hrow.cell hx
        have k0 := hrow.cell hy
        have HX := hide hx
        have HY := hide hy
        have hlt : decide ((j : Int) + 1 < (len : Int)) = true := by simp; omega
        clear hx hy hrow
        cases hsm : Nm.sameB x y
        · have heq : (x.toList == y.toList) = false := hsm
          have HSM := hide hsm
          clear hsm
          go_wp2_with fail
          go_quiet (fail)
          go_wp2_with fail
          go_roundw
          case rel => exact ⟨j + 1, by omega, by go_num, fun q a b hq h1 h2 => by
              by_cases e : q = j
              · subst e; rw [HY.out] at h1; rw [HX.out] at h2; cases h1; cases h2; exact HSM.out
              · exact HALL.out q a b (by omega) h1 h2, HROW.out.drew, HNX.out.drew _⟩
          case measure => simp [intOf]; omega
        · have heq : (x.toList == y.toList) = true := hsm
          have HC0 : Hid (Rn.cptS (l.take (j + 1 + 1)) = l.take (j + 1)) := hide (by
            rw [Rn.cptS_next HY.out HX.out, hsm, if_pos rfl]
            have hll : (l.take (j + 1)).length = j + 1 := by rw [List.length_take]; have := HL.out; omega
            have h1 := Rn.cptS_self (l := l.take (j + 1)) (fun q a b h1 h2 => by
              have hq := (List.getElem?_eq_some_iff.1 h2).1
              rw [hll] at hq
              rw [List.getElem?_take_of_lt (by omega)] at h1 h2
              exact HALL.out q a b (by omega) h1 h2) (j + 1) (by omega)
            rwa [List.take_take, Nat.min_self] at h1)
          clear hsm
          go_wp2_with fail
          go_quiet (fail)
          have HR1 := hide (HROW.out.drew (n := nq))
          have HN1 := hide (HNX.out.drew nq)
          clear p0 k0 heq
          generalize wr.drewN nq = W1 at *
          go_wp2_with fail
          go_loopw [3, 5] (fun a b wx => ∃ c t : Nat, a = .int .i64 c ∧ b = .int .i64 ((t : Int) + 1) ∧ j + 1 + (t + 1) ≤ len ∧ c = (Rn.cptS (l.take (j + 1 + (t + 1)))).length ∧ c ≤ j + 1 + t ∧ RowS wx g (Rn.cptS (l.take (j + 1 + (t + 1))) ++ l.drop c) ∧ But g w wx) (fun _ b _ => len - (intOf b).toNat)
          case atStart => exact ⟨j + 1, 0, by go_num, rfl, by omega, by
            rw [show j + 1 + (0 + 1) = j + 1 + 1 from rfl, HC0.out, List.length_take]; have := HL.out; omega, Nat.le_refl _, by
            rw [show j + 1 + (0 + 1) = j + 1 + 1 from rfl, HC0.out, List.take_append_drop]; exact HR1.out, HN1.out⟩
          case round =>
            obtain ⟨c, t, rfl, rfl, htl, hcc, hct, hrow, hnx⟩ := hrel
            have HCC := hide hcc
            have HROW2 := hide hrow
            have HNX2 := hide hnx
            by_cases hend : j + 1 + (t + 1) < len
            · obtain ⟨y', hy⟩ : ∃ y, l[j + 1 + t]? = some y := ⟨_, List.getElem?_eq_getElem (by rw [← HL.out]; omega)⟩
              obtain ⟨x', hx⟩ : ∃ y, l[j + 1 + (t + 1)]? = some y := ⟨_, List.getElem?_eq_getElem (by rw [← HL.out]; omega)⟩
              obtain ⟨z', hz⟩ : ∃ y, l[c]? = some y := ⟨_, List.getElem?_eq_getElem (by rw [← HL.out]; omega)⟩
              have p0 := hrow.cell (i := j + 1 + (t + 1)) (d := x') (by rw [row_atS hcc (by omega)]; exact hx)
              have k0 := hrow.cell (i := j + 1 + t) (d := y') (by rw [row_atS hcc (by omega)]; exact hy)
              have m0 := hrow.cell (i := c) (d := z') (by rw [row_atS hcc (by omega)]; exact hz)
              obtain ⟨cur, hcur, -, -⟩ := hrow
              have f0 := block_free hcur c
              have HNE : Hid (Rn.cptS (l.take (j + 1 + (t + 1) + 1)) = if Nm.sameB x' y' then Rn.cptS (l.take (j + 1 + (t + 1))) else Rn.cptS (l.take (j + 1 + (t + 1))) ++ [x']) := hide (Rn.cptS_next (j := j + 1 + t) hy hx)
              have hlt2 : decide ((t : Int) + 1 < ((len - (j + 1) : Nat) : Int)) = true := by simp; omega
              clear hx hy hz hcur hcc hnx
              cases hsm2 : Nm.sameB x' y'
              · have heq : (x'.toList == y'.toList) = false := hsm2
                rw [hsm2, if_neg (by simp)] at HNE
                clear hsm2
                go_wp2_with fail
                go_quiet (fail)
                have HR2 : Hid (RowS (wr.drewN nq) g _) := hide (HROW2.out.drew (n := nq))
                have HN2 := hide (HNX2.out.drew nq)
                replace p0 : (wr.drewN nq).cell? _ = _ := p0
                replace m0 : (wr.drewN nq).cell? _ = _ := m0
                replace f0 : (wr.drewN nq).frozen? _ = _ := f0
                clear k0 heq HROW2 HNX2
                generalize wr.drewN nq = W2 at *
                go_wp2_with fail
                go_roundw
                case rel => exact ⟨c + 1, t + 1, by go_num, by go_num, by omega, by
                  rw [show j + 1 + (t + 1 + 1) = j + 1 + (t + 1) + 1 by omega, HNE.out, List.length_append, ← HCC.out]; rfl, by omega, by
                  rw [show j + 1 + (t + 1 + 1) = j + 1 + (t + 1) + 1 by omega, HNE.out, ← row_setS HCC.out (by rw [← HL.out]; omega)]
                  exact HR2.out.set (by rw [List.length_append, List.length_drop, ← HCC.out, ← HL.out]; omega) x', HN2.out.set (Or.inl rfl) _⟩
                case measure => simp [intOf]; omega
              · have heq : (x'.toList == y'.toList) = true := hsm2
                rw [hsm2, if_pos rfl] at HNE
                clear hsm2
                go_wp2_with fail
                go_quiet (fail)
                have HR2 : Hid (RowS (wr.drewN nq) g _) := hide (HROW2.out.drew (n := nq))
                have HN2 := hide (HNX2.out.drew nq)
                clear p0 m0 f0 k0 heq HROW2 HNX2
                generalize wr.drewN nq = W2 at *
                go_wp2_with fail
                go_roundw
                case rel => exact ⟨c, t + 1, rfl, by go_num, by omega, by
                  rw [show j + 1 + (t + 1 + 1) = j + 1 + (t + 1) + 1 by omega, HNE.out]; exact HCC.out, by omega, by
                  rw [show j + 1 + (t + 1 + 1) = j + 1 + (t + 1) + 1 by omega, HNE.out]; exact HR2.out, HN2.out⟩
                case measure => simp [intOf]; omega
            · have HTK : Hid (l.take (j + 1 + (t + 1)) = l) := hide (List.take_of_length_le (by rw [← HL.out]; omega))
              rw [HTK.out] at HROW2 HCC hrow
              have hrow' := hrow
              obtain ⟨cur, hcur, hsz, -⟩ := hrow
              rw [List.length_append, List.length_drop, ← HCC.out, ← HL.out] at hsz
              have hcl := fun ty => clear_runS (c := cap - c) hcur (show 0 < len - c by omega) (show c + (len - c) ≤ cur.size by omega) ty
              have HRC := hide (fun zs m => RowS.clear (zs := zs) (k := c) hrow' hcur (by rw [List.length_append, ← HCC.out]; omega) m)
              have hlt2 : decide ((t : Int) + 1 < ((len - (j + 1) : Nat) : Int)) = false := by simp; omega
              have HTC : Hid ((Rn.cptS l ++ l.drop c).take c = Rn.cptS l) := hide (by rw [HCC.out, List.take_left])
              rw [HTC.out] at HRC
              generalize (Builtin.zeroCells (Value.string ⟨#[]⟩).cells (len - c)).toList = zs at *
              have HN2 := hide (But.row (cs := (cur.toList.take (c) ++ zs ++ cur.toList.drop (c + zs.length)).toArray) hnx)
              have HR2 := hide (HRC.out zs (c + zs.length))
              generalize wr.setRow g (cur.toList.take (c) ++ zs ++ cur.toList.drop (c + zs.length)).toArray = W2 at *
              clear hrow' hcur hcc hnx HRC
              go_wp2_with fail
              go_ret
              exact ⟨_, by rw [← HCC.out]; rfl, HR2.out, HN2.out⟩
      · have HE : Hid (Rn.cptS l = l) := hide (by
          have h1 := Rn.cptS_self (l := l) (fun q a b h1 h2 => HALL.out q a b (by have := (List.getElem?_eq_some_iff.1 h2).1; have := HL.out; omega) h1 h2) l.length (Nat.le_refl _)
          rwa [List.take_length] at h1)
        have hlt : decide ((j : Int) + 1 < (len : Int)) = false := by simp; omega
        clear hrow
        go_wp2_with fail
        go_ret
        exact ⟨_, by rw [HE.out, ← HL.out]; rfl, by rw [HE.out]; exact HROW.out, HNX.out⟩

set_option maxHeartbeats 1000000 in
theorem compactS_none (w : World) : Calls Tryz.prog 67 #[.slice none 0 0] w fun e w' => e = .returned (.slice none 0 0) ∧ w' = w := by
  go_enter Tryz.func67, Tryz.ntmps67
  go_wp2_with fail
  go_ret
  exact ⟨rfl, rfl⟩

end Go.Proofs.YtbncnkfogkhoeabGreatDoor
