/- Running functions, plain mathematics: whatever holds of each small step holds of a whole run; what isn't set stays. -/
import Derived.Test.YtnheahdcfadclaaGreatDoorZAN
import Derived.Test.YtnheahdcfadclaaGreatDoorZAE
import Derived.Laws.CopyRow
import Derived.Laws.Tables
import Derived.Laws.Entries
import Derived.Test.YtnheahdcfadclaaGreatDoorZAW
namespace Go.Proofs.YtnheahdcfadclaaGreatDoor
open Go.RowKit

namespace Rn
/-- A relation that each small step keeps. -/
structure Rel (nm : List (ByteArray × ByteArray)) (ρ : Sta → Sta → Prop) : Prop where
  refl : ∀ s, ρ s s
  trans : ∀ {s t u}, ρ s t → ρ t u → ρ s u
  gt : ∀ m o n s, ρ s (Rn.gt nm m o n s).2
  pt : ∀ m o n x s, ρ s (Rn.pt nm m o n x s).2
  burn : ∀ s s1, Rn.burn s = some s1 → ρ s s1
  pr : ∀ s d, ρ s { s with pr := s.pr ++ [d] }
def Keeps (ρ : Sta → Sta → Prop) (F : Fns) : Prop := (∀ a k o x s, ρ s (F.ev a k o x s).2.2) ∧ (∀ a k o c s, ρ s (F.dO a k o c s).2.2) ∧ (∀ a k o c s, ρ s (F.lp a k o c s).2.2)
section
variable {nm : List (ByteArray × ByteArray)} {ρ : Sta → Sta → Prop} (U : Rel nm ρ)
include U
theorem evs_rel {f : Ex → Sta → Int × Int × Sta} (hf : ∀ x s, ρ s (f x s).2.2) : ∀ (l : List Ex) (s : Sta), ρ s (evs f l s).2.2
  | [], s => U.refl s
  | x :: l, s => by
    unfold evs
    split
    · exact U.trans (hf x s) (evs_rel hf l _)
    · exact hf x s
theorem dos_rel {f : Own → St → Sta → Int × Own × Sta} (hf : ∀ o c s, ρ s (f o c s).2.2) : ∀ (l : List St) (o : Own) (s : Sta), ρ s (dos f l o s).2.2
  | [], _, s => U.refl s
  | x :: l, o, s => by
    unfold dos
    split
    · exact U.trans (hf o x s) (dos_rel hf l _ _)
    · exact hf o x s
theorem enter_rel {F : Fns} (h : Keeps ρ F) (l : List Mo) (a k : Nat) (args : List Int) (s : Sta) : ρ s (enter F l a k args s).2.2 := by
  unfold enter
  split
  · exact U.refl s
  · rename_i f _
    have h1 := dos_rel U (fun o c s => h.2.1 a k o c s) f.body (own0 f.params args) s
    split
    · split
      · exact U.trans h1 (h.1 _ _ _ _ _)
      · exact h1
    · exact U.refl s
theorem call_rel {F : Fns} (h : Keeps ρ F) (l : List Mo) (a k : Nat) (n : ByteArray) (args : List Int) (s : Sta) : ρ s (call F l a k n args s).2.2 := by
  unfold call
  split
  · exact U.refl s
  · rename_i s1 hb _
    exact U.burn _ _ hb
  · rename_i s1 x hb _
    split
    · exact U.burn _ _ hb
    · exact U.trans (U.burn _ _ hb) (enter_rel U h l _ _ args s1)
theorem step_rel {l : List Mo} {F : Fns} (h : Keeps ρ F) : Keeps ρ (step nm l F) := by
  refine ⟨fun a k o x s => ?_, fun a k o c s => ?_, fun a k o c s => ?_⟩
  · have h1 := evs_rel U (fun x s => h.1 a k o x s) x.args s
    simp only [step]
    split
    · exact U.refl s
    · split
      · exact U.gt _ _ _ _
      · split
        · split
          · exact U.trans h1 (call_rel U h l _ _ _ _ _)
          · exact h1
        · exact h1
  · simp only [step]
    split
    · exact U.refl s
    · rename_i s1 hb
      have hb' := U.burn _ _ hb
      have h1 := U.trans hb' (h.1 a k o c.e s1)
      split
      · exact U.trans hb' (h.2.2 _ _ _ _ _)
      · split
        · split
          · exact U.trans h1 (U.pt _ _ _ _ _)
          · split
            · exact U.trans h1 (U.pr _ _)
            · split
              · exact U.trans h1 (dos_rel U (fun o c s => h.2.1 a k o c s) _ _ _)
              · exact U.trans h1 (dos_rel U (fun o c s => h.2.1 a k o c s) _ _ _)
        · exact h1
  · have h1 := h.1 a k o c.e s
    have h2 := U.trans h1 (dos_rel U (fun o c s => h.2.1 a k o c s) c.a o (F.ev a k o c.e s).2.2)
    simp only [step]
    split
    · split
      · split
        · exact h2
        · rename_i s2 hb
          exact U.trans (U.trans h2 (U.burn _ _ hb)) (h.2.2 _ _ _ _ _)
      · exact h2
    · exact h1
theorem M_rel (l : List Mo) : ∀ g, Keeps ρ (M nm l g)
  | 0 => ⟨fun _ _ _ _ s => U.refl s, fun _ _ _ _ s => U.refl s, fun _ _ _ _ s => U.refl s⟩
  | g + 1 => step_rel U (M_rel l g)
end

/-- What isn't set stays; what was read or set stays so; what was printed stands. -/
def Stay (s t : Sta) : Prop := t.vs.length = s.vs.length ∧ (∀ (i : Nat) (v u : Vr), s.vs[i]? = some v → t.vs[i]? = some u → (u.st = false → v.st = false ∧ u.val = v.val) ∧ (v.rd = true → u.rd = true)) ∧ s.pr <+: t.pr
theorem Stay.refl (s : Sta) : Stay s s := ⟨rfl, fun i v u h1 h2 => by rw [h1] at h2; cases h2; exact ⟨fun h => ⟨h, rfl⟩, fun h => h⟩, List.prefix_rfl⟩
theorem Stay.trans {s t u : Sta} (h : Stay s t) (k : Stay t u) : Stay s u := by
  refine ⟨k.1.trans h.1, fun i v w h1 h2 => ?_, h.2.2.trans k.2.2⟩
  have hi : i < t.vs.length := by rw [h.1]; exact (List.getElem?_eq_some_iff.1 h1).1
  have h3 := h.2.1 i v _ h1 (List.getElem?_eq_getElem hi)
  have h4 := k.2.1 i _ w (List.getElem?_eq_getElem hi) h2
  refine ⟨fun hw => ?_, fun hv => h4.2 (h3.2 hv)⟩
  obtain ⟨k1, k2⟩ := h4.1 hw
  obtain ⟨k3, k4⟩ := h3.1 k1
  exact ⟨k3, k2.trans k4⟩
theorem Stay.mod {s : Sta} (i : Nat) (g : Vr → Vr) (hg : ∀ v, ((g v).st = false → v.st = false ∧ (g v).val = v.val) ∧ (v.rd = true → (g v).rd = true)) : Stay s { s with vs := s.vs.modify i g } := by
  refine ⟨by simp, fun j v u h1 h2 => ?_, List.prefix_rfl⟩
  have h3 : (s.vs.modify i g)[j]? = some u := h2
  rw [List.getElem?_modify, h1] at h3
  by_cases e : i = j
  · simp [e] at h3
    subst h3
    exact hg v
  · simp [e] at h3
    subst h3
    exact ⟨fun h => ⟨h, rfl⟩, fun h => h⟩
theorem stay_rel (nm : List (ByteArray × ByteArray)) : Rel nm Stay where
  refl := Stay.refl
  trans := Stay.trans
  gt m o n s := by
    unfold Rn.gt
    split
    · exact Stay.refl s
    · exact Stay.mod _ _ fun v => ⟨fun h => ⟨h, rfl⟩, fun _ => rfl⟩
  pt m o n x s := by
    unfold Rn.pt
    split
    · exact Stay.refl s
    · exact Stay.mod _ _ fun v => ⟨fun h => by simp at h, fun h => h⟩
  burn s s1 h := by
    obtain ⟨_, h1, h2⟩ := burn_some h
    have := Stay.refl s
    unfold Stay at this ⊢
    rw [h1, h2]
    exact this
  pr s d := ⟨rfl, fun i v u h1 h2 => (Stay.refl s).2.1 i v u h1 h2, List.prefix_append _ _⟩
end Rn

end Go.Proofs.YtnheahdcfadclaaGreatDoor

/- Walks over the library: strings that are sorted, and of which each stands once: the plain side. -/
namespace Go.Proofs.YtnheahdcfadclaaGreatDoor
open Go.RowKit Go.Shelf

namespace Rn
theorem sameB_iff {a b : ByteArray} : Nm.sameB a b = true ↔ a = b := by
  unfold Nm.sameB
  rw [beq_iff_eq]
  constructor
  · intro h
    rw [ByteArray.toList_eq, ByteArray.toList_eq] at h
    cases a
    cases b
    simp only [ByteArray.mk.injEq]
    exact Array.toList_inj.1 h
  · intro h; rw [h]
/-- One more behind a list in which none stands just behind its like. -/
def cstS (acc : List ByteArray) (x : ByteArray) : List ByteArray := match acc.getLast? with
  | some y => if Nm.sameB x y then acc else acc ++ [x]
  | none => acc ++ [x]
def cptS (l : List ByteArray) : List ByteArray := l.foldl cstS []
theorem cstS_last (acc : List ByteArray) (x : ByteArray) : (cstS acc x).getLast? = some x := by
  unfold cstS
  split
  · rename_i y h
    split
    · rename_i hs; rw [sameB_iff] at hs; subst hs; exact h
    · simp
  · simp
theorem cptS_snoc (l : List ByteArray) (x : ByteArray) : cptS (l ++ [x]) = cstS (cptS l) x := by unfold cptS; simp
theorem cptS_take {l : List ByteArray} {j : Nat} {x : ByteArray} (h : l[j]? = some x) : cptS (l.take (j + 1)) = cstS (cptS (l.take j)) x := by
  rw [List.take_add_one, h]; exact cptS_snoc _ _
theorem cptS_last {l : List ByteArray} {j : Nat} {x : ByteArray} (h : l[j]? = some x) : (cptS (l.take (j + 1))).getLast? = some x := by
  rw [cptS_take h]; exact cstS_last _ _
theorem cptS_next {l : List ByteArray} {j : Nat} {x y : ByteArray} (h : l[j]? = some y) (h' : l[j + 1]? = some x) : cptS (l.take (j + 1 + 1)) = if Nm.sameB x y then cptS (l.take (j + 1)) else cptS (l.take (j + 1)) ++ [x] := by
  rw [cptS_take h']
  have := cptS_last h
  unfold cstS
  rw [this]
theorem cptS_len (l : List ByteArray) : (cptS l).length ≤ l.length := by
  have h : ∀ (l acc : List ByteArray), (l.foldl cstS acc).length ≤ acc.length + l.length := by
    intro l
    induction l with
    | nil => intro acc; simp
    | cons x r ih =>
      intro acc
      have h1 := ih (cstS acc x)
      have h2 : (cstS acc x).length ≤ acc.length + 1 := by
        unfold cstS
        split
        · split <;> simp
        · simp
      simp only [List.foldl_cons, List.length_cons]
      omega
  simpa [cptS] using h l []
theorem cstS_mem (acc : List ByteArray) (x z : ByteArray) : z ∈ cstS acc x ↔ z ∈ acc ∨ z = x := by
  unfold cstS
  split
  · rename_i y h
    split
    · rename_i hs
      rw [sameB_iff] at hs
      subst hs
      have hm : x ∈ acc := List.mem_of_getLast? h
      exact ⟨Or.inl, fun hx => hx.elim id (fun e => e ▸ hm)⟩
    · simp
  · simp
/-- Nothing is lost, nothing comes in. -/
theorem cptS_mem (l : List ByteArray) (z : ByteArray) : z ∈ cptS l ↔ z ∈ l := by
  have h : ∀ (l acc : List ByteArray), z ∈ l.foldl cstS acc ↔ z ∈ acc ∨ z ∈ l := by
    intro l
    induction l with
    | nil => intro acc; simp
    | cons x r ih =>
      intro acc
      rw [List.foldl_cons, ih, cstS_mem, List.mem_cons, or_assoc]
  simpa [cptS] using h l []
theorem cptS_self {l : List ByteArray} (h : ∀ (j : Nat) x y, l[j]? = some y → l[j + 1]? = some x → Nm.sameB x y = false) : ∀ j, j ≤ l.length → cptS (l.take j) = l.take j := by
  intro j
  induction j with
  | zero => intro _; rfl
  | succ j ih =>
    intro hj
    cases j with
    | zero =>
      have hx : l[0]? = some l[0] := List.getElem?_eq_getElem (by omega)
      rw [cptS_take hx]
      simp [cptS, cstS, List.take_add_one, hx]
    | succ j =>
      have hy : l[j]? = some l[j] := List.getElem?_eq_getElem (by omega)
      have hx : l[j + 1]? = some l[j + 1] := List.getElem?_eq_getElem (by omega)
      rw [cptS_next hy hx, h j _ _ hy hx, ih (by omega)]
      rw [List.take_add_one (i := j + 1), hx]
      simp
/-- Strings in their order. -/
def srtS (l : List ByteArray) : List ByteArray := ((l.map (·.data.toList)).mergeSort fun x y => decide (x ≤ y)).map fun b => ⟨b.toArray⟩
theorem srtS_mem (l : List ByteArray) (z : ByteArray) : z ∈ srtS l ↔ z ∈ l := by
  unfold srtS
  rw [List.mem_map]
  constructor
  · rintro ⟨b, hb, rfl⟩
    rw [List.mem_mergeSort, List.mem_map] at hb
    obtain ⟨a, ha, rfl⟩ := hb
    have : (⟨a.data.toList.toArray⟩ : ByteArray) = a := by cases a; simp
    rw [this]; exact ha
  · intro h
    refine ⟨z.data.toList, by rw [List.mem_mergeSort, List.mem_map]; exact ⟨z, h, rfl⟩, ?_⟩
    cases z
    simp
theorem srtS_len (l : List ByteArray) : (srtS l).length = l.length := by unfold srtS; rw [List.length_map, List.length_mergeSort, List.length_map]
end Rn

theorem But.row {g : Nat} {w w1 : World} {cs : Array Value} (h : But g w w1) : But g w (w1.setRow g cs) :=
  ⟨h.os, h.tape, h.output, by rw [setRow_size]; exact h.size, fun k hk hp => by rw [setRow_other _ _ _ _ hp]; exact h.block k hk hp⟩
/-- Block g holds the strings l, from its beginning on. -/
def RowS (w : World) (g : Nat) (l : List ByteArray) : Prop :=
  ∃ cur, w.heap[g]? = some (.cells cur 9 (0, 0)) ∧ l.length ≤ cur.size ∧ ∀ (i : Nat) d, l[i]? = some d → cur[i]? = some (.string d)
theorem RowS.cell {w : World} {g : Nat} {l : List ByteArray} (h : RowS w g l) {i : Nat} {d : ByteArray} (hd : l[i]? = some d) : w.cell? ⟨g, i, none⟩ = some (.string d) := by
  obtain ⟨cur, hc, _, hel⟩ := h
  exact (block_at hc _).trans (hel i d hd)
theorem RowS.below {w w' : World} {g : Nat} {l : List ByteArray} (h : RowS w g l) (hb : Below w.heap.size w w') : RowS w' g l := by
  obtain ⟨cur, hc, h1, h2⟩ := h
  exact ⟨cur, by rw [hb.block g (block_lt hc)]; exact hc, h1, h2⟩
theorem RowS.drew {w : World} {g n : Nat} {l : List ByteArray} (h : RowS w g l) : RowS (w.drewN n) g l := h
theorem RowS.set {w : World} {g k : Nat} {l : List ByteArray} (h : RowS w g l) (hk : k < l.length) (d : ByteArray) : RowS (w.setCell ⟨g, k, none⟩ (.string d)) g (l.set k d) := by
  obtain ⟨cur, hc, hs, hel⟩ := h
  have h0 := block_set hc k (.string d)
  refine ⟨_, h0, by simpa using hs, fun i x hx => ?_⟩
  rw [List.getElem?_set] at hx
  by_cases e : k = i
  · subst e
    simp [hk] at hx
    subst hx
    simp [Array.getElem?_setIfInBounds]; omega
  · rw [if_neg e] at hx
    rw [Array.getElem?_setIfInBounds_ne (by omega)]; exact hel i x hx
theorem clear_runS {w : World} {g k n c : Nat} {cur : Array Value} (hc : w.heap[g]? = some (.cells cur 9 (0, 0))) (hn : 0 < n) (hs : k + n ≤ cur.size) (ty : TypeId) :
    (Builtin.clear_ #[22] ty #[.slice (some ⟨g, k, none⟩) n c]).run Tryz.prog w = .ok (.tuple #[]) (w.setRow g (cur.toList.take k ++ (Builtin.zeroCells (Value.string ⟨#[]⟩).cells n).toList ++ cur.toList.drop (k + (Builtin.zeroCells (Value.string ⟨#[]⟩).cells n).toList.length)).toArray) := by
  have hz : (Builtin.zeroCells (Value.string ⟨#[]⟩).cells n).toList.length = n := by simp [Builtin.zeroCells, Value.cells]
  have h1 : ∀ v ∈ (Builtin.zeroCells (Value.string ⟨#[]⟩).cells n).toList, v.oneCell' = true := by
    intro v hv
    simp [Builtin.zeroCells, Value.cells] at hv
    obtain ⟨a, ha, rfl⟩ := hv
    rw [Nat.mod_one]
    rfl
  have hst := run_storeCells_at Tryz.prog g k 9 (Builtin.zeroCells (Value.string ⟨#[]⟩).cells n).toList 0 cur w hc (by rw [hz]; omega) h1
  obtain ⟨m, rfl⟩ : ∃ m, n = m + 1 := ⟨n - 1, by omega⟩
  simp only [Nat.add_zero] at hst
  simp [Builtin.clear_, run_underlying Tryz.underlying22, hst]
theorem RowS.clear {w : World} {g k : Nat} {l : List ByteArray} {zs : List Value} {cur : Array Value} (h : RowS w g l) (hc : w.heap[g]? = some (.cells cur 9 (0, 0))) (hk : k ≤ l.length) (m : Nat) :
    RowS (w.setRow g (cur.toList.take k ++ zs ++ cur.toList.drop m).toArray) g (l.take k) := by
  obtain ⟨cur', hc', hs, hel⟩ := h
  rw [hc] at hc'
  simp at hc'
  subst hc'
  have hkl : (l.take k).length = k := by rw [List.length_take]; omega
  refine ⟨_, setRow_heap w g cur _ 9 (0, 0) hc, ?_, fun i d hd => ?_⟩
  · rw [hkl]; simp; omega
  · have hik : i < k := by have := (List.getElem?_eq_some_iff.1 hd).1; omega
    rw [List.getElem?_take_of_lt hik] at hd
    have a0 := hel i d hd
    rw [List.getElem?_toArray, List.append_assoc, List.getElem?_append_left (by simp; omega), List.getElem?_take_of_lt hik]
    simpa using a0
theorem row_atS {l : List ByteArray} {c K : Nat} {C : List ByteArray} (hc : c = C.length) (hK : c ≤ K) : (C ++ l.drop c)[K]? = l[K]? := by
  subst hc
  rw [List.getElem?_append_right hK, List.getElem?_drop]
  congr 1; omega
theorem row_setS {l : List ByteArray} {c : Nat} {C : List ByteArray} (hc : c = C.length) (hl : c < l.length) (x : ByteArray) : (C ++ l.drop c).set c x = (C ++ [x]) ++ l.drop (c + 1) := by
  subst hc
  rw [List.set_append_right _ _ (Nat.le_refl _), Nat.sub_self, List.drop_eq_getElem_cons hl, List.set_cons_zero]
  simp

end Go.Proofs.YtnheahdcfadclaaGreatDoor

/- Running functions, plain mathematics: what a run tells. -/
namespace Go.Proofs.YtnheahdcfadclaaGreatDoor
open Go.RowKit

namespace Rn
def sto (nm : List (ByteArray × ByteArray)) (vs : List Vr) : List Ce := (nm.zip vs).map fun p => ⟨p.1.1, p.1.2, p.2.val⟩
/-- What was done with a variable, as a text. -/
def tag (t : UInt8) (x : ByteArray × ByteArray) : ByteArray := (((⟨#[t, 58]⟩ : ByteArray) ++ x.1) ++ ⟨#[46]⟩) ++ x.2
def tagP (s : ByteArray) : ByteArray := (⟨#[112, 58]⟩ : ByteArray) ++ s
def did1 (p : (ByteArray × ByteArray) × Vr) : List ByteArray := (if p.2.rd = true then [tag 114 p.1] else []) ++ (if p.2.st = true then [tag 119 p.1] else [])
def didV (nm : List (ByteArray × ByteArray)) (vs : List Vr) : List ByteArray := ((nm.zip vs).map did1).flatten
def did (nm : List (ByteArray × ByteArray)) (vs : List Vr) (pr : List (ByteArray × Int)) : List ByteArray := didV nm vs ++ pr.map fun d => tagP d.1
/-- What Run answers. -/
structure Res where
  res : Int
  sto : List Ce
  pr : List (ByteArray × Int)
  did : List ByteArray
  err : Int
def bad (e : Int) : Res := ⟨0, [], [], [], e⟩
def out (nm : List (ByteArray × ByteArray)) (x : Int × Int × Sta) : Res :=
  if x.2.1 = 0 then ⟨x.1, Rn.sto nm x.2.2.vs, x.2.2.pr, cptS (srtS (Rn.did nm x.2.2.vs x.2.2.pr)), 0⟩ else bad x.2.1
def run (g m : Nat) (l : List Mo) (mod fn : ByteArray) (args : List Int) (store : List Ce) (fuel : Int) : Res :=
  if mosR m l ≠ 0 then bad (mosR m l)
  else if fuel < 1 ∨ 10000 < fuel then bad 1
  else match fnd l mod fn with
    | none => bad 4
    | some (a, k) => out (mkTo store l l.length).1 (enter (M (mkTo store l l.length).1 l g) l a k args ⟨fuel.toNat, (mkTo store l l.length).2, []⟩)

theorem zip_take {α β : Type} {l : List α} {r : List β} {j : Nat} {x : α} {y : β} (hx : l[j]? = some x) (hy : r[j]? = some y) : ((l.zip r).take (j + 1)) = (l.zip r).take j ++ [(x, y)] := by
  rw [List.take_add_one]
  congr 1
  have h : (l.zip r)[j]? = some (x, y) := List.getElem?_zip_eq_some.2 ⟨hx, hy⟩
  rw [h]
  rfl
theorem moE_facts {m : Nat} {y : Mo} (h : Lat.moE m y = 0) : y.vars.length ≤ 8 ∧ y.funs.length ≤ 8 ∧ y.name.size ≤ 8 ∧ ∀ v ∈ y.vars, v.name.size ≤ 8 := by
  have n8 : ∀ {s : ByteArray}, Lat.strB s = true → s.size ≤ 8 := fun {s} hs => by
    unfold Lat.strB Lat.nameB at hs
    simp only [Bool.and_eq_true, decide_eq_true_eq] at hs
    have h2 := hs.1.2
    rw [Array.length_toList] at h2
    exact h2
  unfold Lat.moE at h
  by_cases h8 : 8 < y.imports.length ∨ 8 < y.vars.length ∨ 8 < y.funs.length
  · rw [if_pos h8] at h; cases h
  · rw [if_neg h8] at h
    by_cases h5 : ((Lat.strB y.name && y.imports.all Lat.strB) && y.vars.all Lat.vaB) = false
    · rw [if_pos h5] at h; cases h
    · have h5' : ((Lat.strB y.name && y.imports.all Lat.strB) && y.vars.all Lat.vaB) = true := by
        cases hh : ((Lat.strB y.name && y.imports.all Lat.strB) && y.vars.all Lat.vaB) with
        | true => rfl
        | false => exact absurd hh h5
      simp only [Bool.and_eq_true] at h5'
      refine ⟨by omega, by omega, n8 h5'.1.1, fun v hv => ?_⟩
      have := List.all_eq_true.1 h5'.2 v hv
      unfold Lat.vaB at this
      simp only [Bool.and_eq_true] at this
      exact n8 this.1
theorem mosE_ok {m : Nat} : ∀ {l : List Mo}, Nm.mosE m l = 0 → ∀ y ∈ l, Lat.moE m y = 0
  | [], _ => fun y hy => absurd hy (by simp)
  | x :: l, h => by
    unfold Nm.mosE at h
    by_cases h0 : Lat.moE m x = 0
    · rw [if_pos h0] at h
      intro y hy
      rcases List.mem_cons.1 hy with rfl | hy
      · exact h0
      · exact mosE_ok h y hy
    · rw [if_neg h0] at h; exact absurd h h0
theorem mosR_ok {m : Nat} {l : List Mo} (h : mosR m l = 0) : l.length ≤ 6 ∧ ∀ y ∈ l, Lat.moE m y = 0 := by
  unfold mosR at h
  by_cases h0 : Nm.mosE m l = 0
  · rw [if_pos h0] at h
    refine ⟨?_, mosE_ok h0⟩
    by_cases h6 : 6 < l.length
    · rw [if_pos h6] at h; cases h
    · omega
  · rw [if_neg h0] at h; exact absurd h h0
theorem fnd_some {l : List Mo} {mod fn : ByteArray} {a k : Nat} (h : fnd l mod fn = some (a, k)) : ∃ y fu, l[a]? = some y ∧ y.funs[k]? = some fu := by
  unfold fnd at h
  cases ha : Nm.moAt l mod with
  | none => rw [ha] at h; cases h
  | some a' =>
    rw [ha] at h
    obtain ⟨y, hy, _⟩ := Nm.moAt_lt ha
    rw [Option.bind_some, hy] at h
    simp only [Option.map_some, Option.getD_some] at h
    cases hk : Nm.fnAt y.funs fn y.funs.length with
    | none => rw [hk] at h; cases h
    | some k' =>
      rw [hk] at h
      simp only [Option.map_some, Option.some.injEq, Prod.mk.injEq] at h
      obtain ⟨rfl, rfl⟩ := h
      have hlt : k' < y.funs.length := by
        unfold Nm.fnAt at hk
        have := List.mem_of_find?_eq_some hk
        simpa using this
      exact ⟨y, y.funs[k'], hy, List.getElem?_eq_getElem hlt⟩
theorem addN_mem {nm : List (ByteArray × ByteArray)} {x y : ByteArray} {z : ByteArray × ByteArray} (h : z ∈ addN nm x y) : z ∈ nm ∨ z = (x, y) := by
  unfold addN at h
  split at h
  · exact Or.inl h
  · simpa using h
theorem mkVs_mem {store : List Ce} {mod : ByteArray} {z : ByteArray × ByteArray} : ∀ {vs : List Va} {st : List (ByteArray × ByteArray) × List Vr}, z ∈ (mkVs store mod st vs).1 → z ∈ st.1 ∨ ∃ v ∈ vs, z = (mod, v.name)
  | [], st, h => Or.inl h
  | v :: vs, st, h => by
    have h' : z ∈ (mkVs store mod (addN st.1 mod v.name, addV store st.1 st.2 mod v.name) vs).1 := h
    rcases mkVs_mem h' with h1 | ⟨u, hu, rfl⟩
    · rcases addN_mem h1 with h2 | rfl
      · exact Or.inl h2
      · exact Or.inr ⟨v, by simp, rfl⟩
    · exact Or.inr ⟨u, by simp [hu], rfl⟩
theorem mkTo_mem {store : List Ce} {l : List Mo} {z : ByteArray × ByteArray} : ∀ {i : Nat}, z ∈ (mkTo store l i).1 → ∃ y ∈ l, ∃ v ∈ y.vars, z = (y.name, v.name)
  | 0, h => absurd h (by simp [mkTo])
  | i + 1, h => by
    unfold mkTo at h
    cases hy : l[i]? with
    | none => rw [hy] at h; exact mkTo_mem h
    | some y =>
      rw [hy] at h
      simp only at h
      split at h
      · exact mkTo_mem h
      · rcases mkVs_mem h with h1 | ⟨v, hv, rfl⟩
        · exact mkTo_mem h1
        · exact ⟨y, List.mem_of_getElem? hy, v, hv, rfl⟩
theorem mkTo_small {m : Nat} {store : List Ce} {l : List Mo} (h : ∀ y ∈ l, Lat.moE m y = 0) {i : Nat} {z : ByteArray × ByteArray} (hz : z ∈ (mkTo store l i).1) : z.1.size ≤ 8 ∧ z.2.size ≤ 8 := by
  obtain ⟨y, hy, v, hv, rfl⟩ := mkTo_mem hz
  obtain ⟨_, _, h3, h4⟩ := moE_facts (h y hy)
  exact ⟨h3, h4 v hv⟩
theorem addV_len {store : List Ce} {nm : List (ByteArray × ByteArray)} {vs : List Vr} {x y : ByteArray} (h : vs.length = nm.length) : (addV store nm vs x y).length = (addN nm x y).length := by
  unfold addV addN
  split
  · exact h
  · simp [h]

/-- With more fuel what came out comes out. -/
theorem run_up {g m : Nat} {l : List Mo} {mod fn : ByteArray} {args : List Int} {store : List Ce} {f d : Nat} (hf : f + d ≤ 10000) (h1 : 1 ≤ f) (h : (run g m l mod fn args store f).err ≠ 6) : run g m l mod fn args store (f + d : Nat) = run g m l mod fn args store f := by
  unfold run at h ⊢
  by_cases h0 : mosR m l ≠ 0
  · rw [if_pos h0, if_pos h0]
  · rw [if_neg h0] at h
    rw [if_neg h0, if_neg h0]
    have a1 : ¬ ((f : Int) < 1 ∨ 10000 < (f : Int)) := by omega
    have a2 : ¬ (((f + d : Nat) : Int) < 1 ∨ 10000 < ((f + d : Nat) : Int)) := by omega
    rw [if_neg a1] at h
    rw [if_neg a1, if_neg a2]
    cases hk : fnd l mod fn with
    | none => rfl
    | some p =>
      obtain ⟨a, k⟩ := p
      rw [hk] at h
      simp only [Int.toNat_natCast] at h ⊢
      generalize mkTo store l l.length = st at h ⊢
      have hu := enter_up (M_up d st.1 l g) l a k args ⟨f, st.2, []⟩
      by_cases h6 : (enter (M st.1 l g) l a k args ⟨f, st.2, []⟩).2.1 = 6
      · exfalso
        apply h
        unfold out
        rw [if_neg (by rw [h6]; decide)]
        exact h6
      · have hu' := hu h6
        have e : up d ⟨f, st.2, []⟩ = (⟨f + d, st.2, []⟩ : Sta) := rfl
        rw [e] at hu'
        rw [hu']
        rfl
end Rn

end Go.Proofs.YtnheahdcfadclaaGreatDoor

/- Running functions, plain mathematics: what isn't set stays, what is done is told, a run behind a run. -/
namespace Go.Proofs.YtnheahdcfadclaaGreatDoor
open Go.RowKit

namespace Rn
theorem pos_some {nm : List (ByteArray × ByteArray)} {x y : ByteArray} {i : Nat} (h : pos nm x y = some i) : nm[i]? = some (x, y) := by
  unfold pos at h
  have h1 := List.find?_some h
  cases hn : nm[i]? with
  | none => rw [hn] at h1; cases h1
  | some z =>
    rw [hn] at h1
    simp only [Bool.and_eq_true] at h1
    rw [sameB_iff, sameB_iff] at h1
    obtain ⟨z1, z2⟩ := z
    simp only at h1
    rw [h1.1, h1.2]
theorem addN_has (nm : List (ByteArray × ByteArray)) (x y : ByteArray) : (x, y) ∈ addN nm x y := by
  unfold addN
  split
  · rename_i h
    obtain ⟨i, hi⟩ := Option.isSome_iff_exists.1 h
    exact List.mem_of_getElem? (pos_some hi)
  · simp
theorem addN_keeps {nm : List (ByteArray × ByteArray)} {x y : ByteArray} {z : ByteArray × ByteArray} (h : z ∈ nm) : z ∈ addN nm x y := by
  unfold addN
  split
  · exact h
  · simp [h]
theorem mkVs_keeps {store : List Ce} {mod : ByteArray} {z : ByteArray × ByteArray} : ∀ {vs : List Va} {st : List (ByteArray × ByteArray) × List Vr}, z ∈ st.1 → z ∈ (mkVs store mod st vs).1
  | [], _, h => h
  | v :: vs, st, h => by
    show z ∈ (mkVs store mod (addN st.1 mod v.name, addV store st.1 st.2 mod v.name) vs).1
    exact mkVs_keeps (addN_keeps h)
theorem mkVs_has {store : List Ce} {mod : ByteArray} {v : Va} : ∀ {vs : List Va} {st : List (ByteArray × ByteArray) × List Vr}, v ∈ vs → (mod, v.name) ∈ (mkVs store mod st vs).1
  | u :: vs, st, h => by
    show (mod, v.name) ∈ (mkVs store mod (addN st.1 mod u.name, addV store st.1 st.2 mod u.name) vs).1
    rcases List.mem_cons.1 h with rfl | h
    · exact mkVs_keeps (addN_has _ _ _)
    · exact mkVs_has h
theorem mkTo_keeps {store : List Ce} {l : List Mo} {z : ByteArray × ByteArray} {i : Nat} (h : z ∈ (mkTo store l i).1) : z ∈ (mkTo store l (i + 1)).1 := by
  unfold mkTo
  cases hy : l[i]? with
  | none => exact h
  | some y =>
    simp only
    split
    · exact h
    · exact mkVs_keeps h
theorem mkTo_up {store : List Ce} {l : List Mo} {z : ByteArray × ByteArray} {i : Nat} (h : z ∈ (mkTo store l i).1) : ∀ d, z ∈ (mkTo store l (i + d)).1
  | 0 => h
  | d + 1 => mkTo_keeps (mkTo_up h d)
theorem mkTo_has {store : List Ce} {l : List Mo} {i n : Nat} {y : Mo} {v : Va} (hy : l[i]? = some y) (hf : ¬ Nm.oI (Nm.moAt l y.name) < (i : Int)) (hv : v ∈ y.vars) (hn : i < n) : (y.name, v.name) ∈ (mkTo store l n).1 := by
  have h1 : (y.name, v.name) ∈ (mkTo store l (i + 1)).1 := by
    rw [mkTo]
    rw [hy]
    simp only
    rw [if_neg hf]
    exact mkVs_has hv
  have := mkTo_up h1 (n - (i + 1))
  rwa [show i + 1 + (n - (i + 1)) = n by omega] at this
/-- Which variables there are doesn't hang on the store. -/
theorem mkVs_nm {s1 s2 : List Ce} {mod : ByteArray} : ∀ {vs : List Va} {st st' : List (ByteArray × ByteArray) × List Vr}, st.1 = st'.1 → (mkVs s1 mod st vs).1 = (mkVs s2 mod st' vs).1
  | [], _, _, h => h
  | v :: vs, st, st', h => by
    show (mkVs s1 mod (addN st.1 mod v.name, addV s1 st.1 st.2 mod v.name) vs).1 = (mkVs s2 mod (addN st'.1 mod v.name, addV s2 st'.1 st'.2 mod v.name) vs).1
    refine mkVs_nm ?_
    simp only
    rw [h]
theorem mkTo_nm (s1 s2 : List Ce) (l : List Mo) : ∀ i, (mkTo s1 l i).1 = (mkTo s2 l i).1
  | 0 => rfl
  | i + 1 => by
    have h := mkTo_nm s1 s2 l i
    unfold mkTo
    cases hy : l[i]? with
    | none => exact h
    | some y =>
      simp only
      split
      · exact h
      · exact mkVs_nm h
/-- Each variable begins with the store's value. -/
def Init (store : List Ce) (st : List (ByteArray × ByteArray) × List Vr) : Prop := st.2 = st.1.map fun z => ⟨val0 store z.1 z.2, false, false⟩
theorem mkVs_init {store : List Ce} {mod : ByteArray} : ∀ {vs : List Va} {st : List (ByteArray × ByteArray) × List Vr}, Init store st → Init store (mkVs store mod st vs)
  | [], _, h => h
  | v :: vs, st, h => by
    show Init store (mkVs store mod (addN st.1 mod v.name, addV store st.1 st.2 mod v.name) vs)
    refine mkVs_init ?_
    unfold Init addN addV at *
    simp only
    split
    · exact h
    · rw [h]; simp
theorem mkTo_init (store : List Ce) (l : List Mo) : ∀ i, Init store (mkTo store l i)
  | 0 => rfl
  | i + 1 => by
    have h := mkTo_init store l i
    unfold mkTo
    cases hy : l[i]? with
    | none => exact h
    | some y =>
      simp only
      split
      · exact h
      · exact mkVs_init h
/-- What the store is asked for alone matters. -/
theorem mkTo_same {s1 s2 : List Ce} {l : List Mo} {i : Nat} (h : ∀ z ∈ (mkTo s1 l i).1, val0 s1 z.1 z.2 = val0 s2 z.1 z.2) : mkTo s1 l i = mkTo s2 l i := by
  have h1 := mkTo_init s1 l i
  have h2 := mkTo_init s2 l i
  have h3 := mkTo_nm s1 s2 l i
  unfold Init at h1 h2
  refine Prod.ext h3 ?_
  rw [h1, h2, ← h3]
  exact List.map_congr_left fun z hz => by rw [h z hz]
theorem ceAt_some {l : List Ce} {x y : ByteArray} {i : Nat} (h : ceAt l x y = some i) : (∃ c, l[i]? = some c ∧ isC x y c = true) ∧ ∀ d g, d < i → l[d]? = some g → isC x y g = false := by
  unfold ceAt at h
  have h1 := List.find?_some h
  refine ⟨?_, fun d g hd hg => ?_⟩
  · cases hn : l[i]? with
    | none => rw [hn] at h1; cases h1
    | some c => rw [hn] at h1; exact ⟨c, rfl, h1⟩
  · have h2 := List.find?_range_eq_some.1 h
    have := h2.2.2 d hd
    rw [hg] at this
    simpa using this
theorem val0_app {a b : List Ce} {x y : ByteArray} (h : (ceAt a x y).isSome = true) : val0 (a ++ b) x y = val0 a x y := by
  obtain ⟨i, hi⟩ := Option.isSome_iff_exists.1 h
  obtain ⟨⟨c, h1, h2⟩, h3⟩ := ceAt_some hi
  have hlt := (List.getElem?_eq_some_iff.1 h1).1
  have h4 : ceAt (a ++ b) x y = some i := ceAt_hit (c := c) (by rw [List.getElem?_append_left hlt]; exact h1) h2 (fun d g hd hg => h3 d g hd (by rw [List.getElem?_append_left (by omega)] at hg; exact hg))
  unfold val0
  rw [hi, h4]
  simp only [Option.bind_some]
  rw [List.getElem?_append_left hlt]
theorem ceAt_mem {a : List Ce} {c : Ce} (h : c ∈ a) : (ceAt a c.mod c.name).isSome = true := by
  cases hn : ceAt a c.mod c.name with
  | some i => rfl
  | none =>
    exfalso
    unfold ceAt at hn
    rw [List.find?_eq_none] at hn
    obtain ⟨i, hi, rfl⟩ := List.mem_iff_getElem.1 h
    have := hn i (by simpa using hi)
    rw [List.getElem?_eq_getElem hi] at this
    simp only [isC] at this
    apply this
    rw [Bool.and_eq_true]
    exact ⟨sameB_iff.2 rfl, sameB_iff.2 rfl⟩
theorem sto_mem {nm : List (ByteArray × ByteArray)} {vs : List Vr} (hl : vs.length = nm.length) {z : ByteArray × ByteArray} (hz : z ∈ nm) : (ceAt (sto nm vs) z.1 z.2).isSome = true := by
  obtain ⟨i, hi, rfl⟩ := List.mem_iff_getElem.1 hz
  have hiv : i < vs.length := by omega
  have hm : (⟨nm[i].1, nm[i].2, vs[i].val⟩ : Ce) ∈ sto nm vs := by
    unfold sto
    refine List.mem_map.2 ⟨(nm[i], vs[i]), ?_, rfl⟩
    exact List.mem_of_getElem? (List.getElem?_zip_eq_some.2 ⟨List.getElem?_eq_getElem hi, List.getElem?_eq_getElem hiv⟩)
  exact ceAt_mem hm
theorem run_ok {g m : Nat} {l : List Mo} {mod fn : ByteArray} {args : List Int} {store : List Ce} {f : Int} (h : (run g m l mod fn args store f).err = 0) : ∃ (x : Int × Int × Sta), x.2.1 = 0 ∧ run g m l mod fn args store f = ⟨x.1, sto (mkTo store l l.length).1 x.2.2.vs, x.2.2.pr, cptS (srtS (did (mkTo store l l.length).1 x.2.2.vs x.2.2.pr)), 0⟩ ∧ ∃ fu, Stay ⟨fu, (mkTo store l l.length).2, []⟩ x.2.2 := by
  unfold run at h ⊢
  by_cases h0 : mosR m l ≠ 0
  · rw [if_pos h0] at h; exact absurd h h0
  · rw [if_neg h0] at h ⊢
    by_cases h1 : f < 1 ∨ 10000 < f
    · rw [if_pos h1] at h; cases h
    · rw [if_neg h1] at h ⊢
      cases hk : fnd l mod fn with
      | none => rw [hk] at h; cases h
      | some p =>
        obtain ⟨a, k⟩ := p
        rw [hk] at h
        simp only at h ⊢
        refine ⟨enter (M (mkTo store l l.length).1 l g) l a k args ⟨f.toNat, (mkTo store l l.length).2, []⟩, ?_, ?_, f.toNat, enter_rel (stay_rel (mkTo store l l.length).1) (M_rel (stay_rel (mkTo store l l.length).1) l g) l a k args _⟩
        · unfold out at h
          by_cases h2 : (enter (M (mkTo store l l.length).1 l g) l a k args ⟨f.toNat, (mkTo store l l.length).2, []⟩).2.1 = 0
          · exact h2
          · rw [if_neg h2] at h; exact absurd h h2
        · unfold out at h ⊢
          by_cases h2 : (enter (M (mkTo store l l.length).1 l g) l a k args ⟨f.toNat, (mkTo store l l.length).2, []⟩).2.1 = 0
          · rw [if_pos h2]
          · rw [if_neg h2] at h; exact absurd h h2
/-- What isn't set stays. -/
theorem run_stays {g m : Nat} {l : List Mo} {mod fn : ByteArray} {args : List Int} {store : List Ce} {f : Int} (h : (run g m l mod fn args store f).err = 0) {c : Ce} (hc : c ∈ (run g m l mod fn args store f).sto) : c.val = val0 store c.mod c.name ∨ tag 119 (c.mod, c.name) ∈ (run g m l mod fn args store f).did := by
  obtain ⟨x, h1, h2, fu, h3⟩ := run_ok h
  rw [h2] at hc ⊢
  have hi := mkTo_init store l l.length
  generalize mkTo store l l.length = st at *
  simp only at hc ⊢
  unfold sto at hc
  obtain ⟨⟨z, u⟩, hp, rfl⟩ := List.mem_map.1 hc
  obtain ⟨i, hi'⟩ := List.mem_iff_getElem?.1 hp
  obtain ⟨hz, hu⟩ := List.getElem?_zip_eq_some.1 hi'
  obtain ⟨hl, hs, _⟩ := h3
  have hv : st.2[i]? = some ⟨val0 store z.1 z.2, false, false⟩ := by
    unfold Init at hi
    rw [hi, List.getElem?_map, hz]
    rfl
  have h4 := hs i _ u hv hu
  cases hst : u.st with
  | false => exact Or.inl (h4.1 hst).2
  | true =>
    right
    rw [cptS_mem, srtS_mem]
    unfold did didV
    refine List.mem_append_left _ (List.mem_flatten.2 ⟨did1 (z, u), List.mem_map.2 ⟨(z, u), hp, rfl⟩, ?_⟩)
    unfold did1
    rw [hst]
    simp
/-- What is printed is told. -/
theorem run_prints {g m : Nat} {l : List Mo} {mod fn : ByteArray} {args : List Int} {store : List Ce} {f : Int} (h : (run g m l mod fn args store f).err = 0) {d : ByteArray × Int} (hd : d ∈ (run g m l mod fn args store f).pr) : tagP d.1 ∈ (run g m l mod fn args store f).did := by
  obtain ⟨x, h1, h2, fu, h3⟩ := run_ok h
  rw [h2] at hd ⊢
  simp only at hd ⊢
  rw [cptS_mem, srtS_mem]
  unfold did
  exact List.mem_append_right _ (List.mem_map.2 ⟨d, hd, rfl⟩)
/-- A run behind a run goes on with its store. -/
theorem run_again {g m : Nat} {l : List Mo} {mod fn : ByteArray} {args : List Int} {store : List Ce} {f : Int} (h : (run g m l mod fn args store f).err = 0) (g' : Nat) (f' : Int) :
    run g' m l mod fn args ((run g m l mod fn args store f).sto ++ store) f' = run g' m l mod fn args (run g m l mod fn args store f).sto f' := by
  obtain ⟨x, h1, h2, fu, h3⟩ := run_ok h
  rw [h2]
  simp only
  have hl : x.2.2.vs.length = (mkTo store l l.length).1.length := by
    have := h3.1
    have hi := mkTo_init store l l.length
    unfold Init at hi
    have h5 := congrArg List.length hi
    rw [List.length_map] at h5
    simp only at this
    omega
  have e : mkTo (sto (mkTo store l l.length).1 x.2.2.vs ++ store) l l.length = mkTo (sto (mkTo store l l.length).1 x.2.2.vs) l l.length := by
    refine mkTo_same fun z hz => ?_
    rw [mkTo_nm _ store] at hz
    exact val0_app (sto_mem hl hz)
  unfold run
  rw [e]
end Rn

end Go.Proofs.YtnheahdcfadclaaGreatDoor
