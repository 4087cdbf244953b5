/- Running functions, as plain data: what package run's machine does. -/
import Derived.Test.YtnheahdcfadclaaGreatDoorZAJ
import Derived.ProofKit
import Derived.DeepKeys4
import Derived.Maps.Own
import Derived.Maps.OwnOps
import Derived.Maps.OwnSet
import Derived.Maps.Views
import Derived.Test.YtnheahdcfadclaaGreatDoorZAF
import Derived.Test.YtnheahdcfadclaaGreatDoorZAM
namespace Go.Proofs.YtnheahdcfadclaaGreatDoor
open Go.RowKit

namespace Rn
/-- A variable of a module: its value, and what was done with it. -/
structure Vr where
  val : Int
  rd : Bool
  st : Bool
/-- What a run has: fuel, variables, prints. -/
structure Sta where
  fuel : Nat
  vs : List Vr
  pr : List (ByteArray × Int)
/-- A call's own names. -/
abbrev Own := ByteArray → Option Int
def put (o : Own) (n : ByteArray) (v : Int) : Own := fun s => if Nm.sameB s n = true then some v else o s
/-- Which variable it is, of that module and name. -/
def pos (nm : List (ByteArray × ByteArray)) (mod name : ByteArray) : Option Nat := (List.range nm.length).find? fun i => match nm[i]? with | some v => Nm.sameB v.1 mod && Nm.sameB v.2 name | none => false
/-- The variable that a name means in a function: none, if it is the call's own. -/
def sh (nm : List (ByteArray × ByteArray)) (mn : ByteArray) (o : Own) (n : ByteArray) : Option Nat := if (o n).isSome = true then none else pos nm mn n
def gt (nm : List (ByteArray × ByteArray)) (mn : ByteArray) (o : Own) (n : ByteArray) (s : Sta) : Int × Sta :=
  match sh nm mn o n with
  | none => ((o n).getD 0, s)
  | some i => ((s.vs[i]?.map (·.val)).getD 0, { s with vs := s.vs.modify i fun v => { v with rd := true } })
def pt (nm : List (ByteArray × ByteArray)) (mn : ByteArray) (o : Own) (n : ByteArray) (x : Int) (s : Sta) : Own × Sta :=
  match sh nm mn o n with
  | none => (put o n x, s)
  | some i => (o, { s with vs := s.vs.modify i fun v => { v with val := x, st := true } })
def burnE (s : Sta) : Int := if s.fuel = 0 then 6 else 0
def burnS (s : Sta) : Sta := { s with fuel := s.fuel - 1 }
def burn (s : Sta) : Option Sta := if s.fuel = 0 then none else some { s with fuel := s.fuel - 1 }
def tr (b : Bool) : Int := if b = true then 1 else 0
def ap (op : ByteArray) (a b : Int) : Int :=
  if (op.toList == [43]) = true then wrap64 (a + b) else if (op.toList == [45]) = true then wrap64 (a - b) else if (op.toList == [42]) = true then wrap64 (a * b)
  else if (op.toList == [60]) = true then tr (decide (a < b)) else tr (a == b)
/-- What the functions do that call each other; value or error, and what the run has then. -/
structure Fns where
  ev : Nat → Nat → Own → Ex → Sta → Int × Int × Sta
  dO : Nat → Nat → Own → St → Sta → Int × Own × Sta
  lp : Nat → Nat → Own → St → Sta → Int × Own × Sta
def evs (f : Ex → Sta → Int × Int × Sta) : List Ex → Sta → List Int × Int × Sta
  | [], s => ([], 0, s)
  | x :: l, s => if (f x s).2.1 = 0 then ((f x s).1 :: (evs f l (f x s).2.2).1, (evs f l (f x s).2.2).2) else ([], (f x s).2)
def dos (f : Own → St → Sta → Int × Own × Sta) : List St → Own → Sta → Int × Own × Sta
  | [], o, s => (0, o, s)
  | c :: l, o, s => if (f o c s).1 = 0 then dos f l (f o c s).2.1 (f o c s).2.2 else f o c s
/-- The names that a call begins with. -/
def own0 (ps : List ByteArray) (args : List Int) : Own := (ps.zip args).foldl (fun o p => put o p.1 p.2) (fun _ => none)
def enter (F : Fns) (l : List Mo) (at' k : Nat) (args : List Int) (s : Sta) : Int × Int × Sta :=
  match l[at']?.bind fun m => m.funs[k]? with
  | none => (0, 0, s)
  | some f => if f.params.length = args.length then
      if (dos (F.dO at' k) f.body (own0 f.params args) s).1 = 0 then F.ev at' k (dos (F.dO at' k) f.body (own0 f.params args) s).2.1 f.result (dos (F.dO at' k) f.body (own0 f.params args) s).2.2
      else (0, (dos (F.dO at' k) f.body (own0 f.params args) s).1, (dos (F.dO at' k) f.body (own0 f.params args) s).2.2)
    else (0, 5, s)
def call (F : Fns) (l : List Mo) (at' k : Nat) (name : ByteArray) (args : List Int) (s : Sta) : Int × Int × Sta :=
  match burn s, l[at']? with
  | none, _ => (0, 6, s)
  | some s1, none => (0, 0, s1)
  | some s1, some x => if (Nm.ptgt x k name l).2.2 = false then (0, 4, s1)
    else enter F l (if (Nm.ptgt x k name l).1 < 0 then at' else (Nm.ptgt x k name l).1.toNat) (Nm.ptgt x k name l).2.1.toNat args s1
def mn (l : List Mo) (at' : Nat) : ByteArray := (l[at']?.map (·.name)).getD ⟨#[]⟩
def step (nm : List (ByteArray × ByteArray)) (l : List Mo) (F : Fns) : Fns where
  ev at' k o x s :=
    if x.kind = 1 then (x.n, 0, s)
    else if x.kind = 2 then ((gt nm (mn l at') o x.name s).1, 0, (gt nm (mn l at') o x.name s).2)
    else if (evs (F.ev at' k o) x.args s).2.1 = 0 then
      if x.kind = 4 then call F l at' k x.name (evs (F.ev at' k o) x.args s).1 (evs (F.ev at' k o) x.args s).2.2
      else (ap x.name ((evs (F.ev at' k o) x.args s).1.getD 0 0) ((evs (F.ev at' k o) x.args s).1.getD 1 0), 0, (evs (F.ev at' k o) x.args s).2.2)
    else (0, (evs (F.ev at' k o) x.args s).2)
  dO at' k o c s := match burn s with
    | none => (6, o, s)
    | some s1 =>
      if c.kind = 3 then F.lp at' k o c s1
      else if (F.ev at' k o c.e s1).2.1 = 0 then
        if c.kind = 1 then (0, pt nm (mn l at') o c.name (F.ev at' k o c.e s1).1 (F.ev at' k o c.e s1).2.2)
        else if c.kind = 4 then (0, o, { (F.ev at' k o c.e s1).2.2 with pr := (F.ev at' k o c.e s1).2.2.pr ++ [(c.name, (F.ev at' k o c.e s1).1)] })
        else if (F.ev at' k o c.e s1).1 = 0 then dos (F.dO at' k) c.b o (F.ev at' k o c.e s1).2.2
        else dos (F.dO at' k) c.a o (F.ev at' k o c.e s1).2.2
      else ((F.ev at' k o c.e s1).2.1, o, (F.ev at' k o c.e s1).2.2)
  lp at' k o c s :=
    if (F.ev at' k o c.e s).2.1 = 0 ∧ (F.ev at' k o c.e s).1 ≠ 0 then
      if (dos (F.dO at' k) c.a o (F.ev at' k o c.e s).2.2).1 = 0 then
        match burn (dos (F.dO at' k) c.a o (F.ev at' k o c.e s).2.2).2.2 with
        | none => (6, (dos (F.dO at' k) c.a o (F.ev at' k o c.e s).2.2).2)
        | some s2 => F.lp at' k (dos (F.dO at' k) c.a o (F.ev at' k o c.e s).2.2).2.1 c s2
      else dos (F.dO at' k) c.a o (F.ev at' k o c.e s).2.2
    else ((F.ev at' k o c.e s).2.1, o, (F.ev at' k o c.e s).2.2)
/-- The functions; g bounds how deep they call each other. -/
def M (nm : List (ByteArray × ByteArray)) (l : List Mo) : Nat → Fns
  | 0 => ⟨fun _ _ _ _ s => (0, 0, s), fun _ _ o _ s => (0, o, s), fun _ _ o _ s => (0, o, s)⟩
  | g + 1 => step nm l (M nm l g)

/-! ### Fuel never grows; nor does it, together with how much was printed -/
/-- A measure that no step makes greater. -/
structure Mea (μ : Sta → Nat) : Prop where
  vs : ∀ s v, μ { s with vs := v } = μ s
  burn : ∀ s s1, Rn.burn s = some s1 → μ s1 + 1 ≤ μ s
  pr : ∀ s d, μ { s with pr := s.pr ++ [d] } ≤ μ s + 1
def Le (μ : Sta → Nat) (F : Fns) : Prop := (∀ a k o x s, μ (F.ev a k o x s).2.2 ≤ μ s) ∧ (∀ a k o c s, μ (F.dO a k o c s).2.2 ≤ μ s) ∧ (∀ a k o c s, μ (F.lp a k o c s).2.2 ≤ μ s)
theorem burn_zero {s : Sta} (h : s.fuel = 0) : burn s = none ∧ burnE s = 6 ∧ burnS s = s := by
  refine ⟨by simp [burn, h], by simp [burnE, h], ?_⟩
  obtain ⟨f, v, p⟩ := s
  simp only at h
  subst h
  rfl
theorem burn_pos {s : Sta} (h : s.fuel ≠ 0) : burn s = some (burnS s) ∧ burnE s = 0 := ⟨by simp [burn, burnS, h], by simp [burnE, h]⟩
theorem burn_some {s s1 : Sta} (h : burn s = some s1) : s.fuel = s1.fuel + 1 ∧ s1.vs = s.vs ∧ s1.pr = s.pr := by
  unfold burn at h
  split at h
  · cases h
  · cases h
    refine ⟨?_, rfl, rfl⟩
    show s.fuel = s.fuel - 1 + 1
    omega
theorem mea_fuel : Mea (·.fuel) := ⟨fun _ _ => rfl, fun s s1 h => by have := (burn_some h).1; show s1.fuel + 1 ≤ s.fuel; omega, fun _ _ => Nat.le_succ _⟩
theorem mea_tot : Mea (fun s => s.pr.length + s.fuel) := ⟨fun _ _ => rfl, fun s s1 h => by obtain ⟨h1, _, h2⟩ := burn_some h; simp only [h2]; omega, fun s d => by simp only [List.length_append, List.length_singleton]; omega⟩
section
variable {μ : Sta → Nat} (U : Mea μ)
include U
theorem gt_mea (nm : List (ByteArray × ByteArray)) (m : ByteArray) (o : Own) (n : ByteArray) (s : Sta) : μ (gt nm m o n s).2 = μ s := by
  unfold gt
  split
  · rfl
  · exact U.vs _ _
theorem pt_mea (nm : List (ByteArray × ByteArray)) (m : ByteArray) (o : Own) (n : ByteArray) (x : Int) (s : Sta) : μ (pt nm m o n x s).2 = μ s := by
  unfold pt
  split
  · rfl
  · exact U.vs _ _
omit U in
theorem evs_mea {f : Ex → Sta → Int × Int × Sta} (hf : ∀ x s, μ (f x s).2.2 ≤ μ s) : ∀ (l : List Ex) (s : Sta), μ (evs f l s).2.2 ≤ μ s
  | [], s => Nat.le_refl _
  | x :: l, s => by
    unfold evs
    split
    · exact Nat.le_trans (evs_mea hf l _) (hf x s)
    · exact hf x s
omit U in
theorem dos_mea {f : Own → St → Sta → Int × Own × Sta} (hf : ∀ o c s, μ (f o c s).2.2 ≤ μ s) : ∀ (l : List St) (o : Own) (s : Sta), μ (dos f l o s).2.2 ≤ μ s
  | [], _, s => Nat.le_refl _
  | x :: l, o, s => by
    unfold dos
    split
    · exact Nat.le_trans (dos_mea hf l _ _) (hf o x s)
    · exact hf o x s
omit U in
theorem enter_mea {F : Fns} (h : Le μ F) (l : List Mo) (a k : Nat) (args : List Int) (s : Sta) : μ (enter F l a k args s).2.2 ≤ μ s := by
  unfold enter
  split
  · exact Nat.le_refl _
  · rename_i f _
    have h1 := dos_mea (fun o c s => h.2.1 a k o c s) f.body (own0 f.params args) s
    split
    · split
      · exact Nat.le_trans (h.1 _ _ _ _ _) h1
      · exact h1
    · exact Nat.le_refl _
theorem call_mea {F : Fns} (h : Le μ F) (l : List Mo) (a k : Nat) (n : ByteArray) (args : List Int) (s : Sta) : μ (call F l a k n args s).2.2 ≤ μ s := by
  unfold call
  split
  · exact Nat.le_refl _
  · rename_i s1 hb _
    have := U.burn _ _ hb
    show μ s1 ≤ μ s
    omega
  · rename_i s1 x hb _
    have := U.burn _ _ hb
    split
    · show μ s1 ≤ μ s
      omega
    · refine Nat.le_trans (enter_mea h l _ _ args s1) ?_
      omega
theorem step_mea {nm : List (ByteArray × ByteArray)} {l : List Mo} {F : Fns} (h : Le μ F) : Le μ (step nm l F) := by
  refine ⟨fun a k o x s => ?_, fun a k o c s => ?_, fun a k o c s => ?_⟩
  · have h1 := evs_mea (fun x s => h.1 a k o x s) x.args s
    simp only [step]
    split
    · exact Nat.le_refl _
    · split
      · exact Nat.le_of_eq (gt_mea U _ _ _ _ _)
      · split
        · split
          · exact Nat.le_trans (call_mea U h l _ _ _ _ _) h1
          · exact h1
        · exact h1
  · simp only [step]
    split
    · exact Nat.le_refl _
    · rename_i s1 hb
      have hb' := U.burn _ _ hb
      have h1 := h.1 a k o c.e s1
      have hle : μ s1 ≤ μ s := by omega
      split
      · exact Nat.le_trans (h.2.2 _ _ _ _ _) hle
      · split
        · split
          · show μ (pt nm (mn l a) o c.name (F.ev a k o c.e s1).1 (F.ev a k o c.e s1).2.2).2 ≤ μ s
            rw [pt_mea U]
            exact Nat.le_trans h1 hle
          · split
            · have := U.pr (F.ev a k o c.e s1).2.2 (c.name, (F.ev a k o c.e s1).1)
              refine Nat.le_trans this ?_
              omega
            · split
              · exact Nat.le_trans (dos_mea (fun o c s => h.2.1 a k o c s) _ _ _) (Nat.le_trans h1 hle)
              · exact Nat.le_trans (dos_mea (fun o c s => h.2.1 a k o c s) _ _ _) (Nat.le_trans h1 hle)
        · exact Nat.le_trans h1 hle
  · have h1 := h.1 a k o c.e s
    have h2 := dos_mea (fun o c s => h.2.1 a k o c s) c.a o (F.ev a k o c.e s).2.2
    simp only [step]
    split
    · split
      · split
        · exact Nat.le_trans h2 h1
        · rename_i s2 hb
          have hb' := U.burn _ _ hb
          refine Nat.le_trans (h.2.2 _ _ _ _ _) ?_
          omega
      · exact Nat.le_trans h2 h1
    · exact h1
theorem M_mea (nm : List (ByteArray × ByteArray)) (l : List Mo) : ∀ g, Le μ (M nm l g)
  | 0 => ⟨fun _ _ _ _ _ => Nat.le_refl _, fun _ _ _ _ _ => Nat.le_refl _, fun _ _ _ _ _ => Nat.le_refl _⟩
  | g + 1 => step_mea U (M_mea nm l g)
end
theorem M_le (nm : List (ByteArray × ByteArray)) (l : List Mo) (g : Nat) : Le (·.fuel) (M nm l g) := M_mea mea_fuel nm l g
theorem M_tot (nm : List (ByteArray × ByteArray)) (l : List Mo) (g : Nat) : Le (fun s => s.pr.length + s.fuel) (M nm l g) := M_mea mea_tot nm l g
end Rn

end Go.Proofs.YtnheahdcfadclaaGreatDoor

/- Running functions: maps of the machine: a call's own names, and where a module's variables lie. -/
namespace Go.Proofs.YtnheahdcfadclaaGreatDoor
open Go.RowKit Go.Maps Go.WideMaps

theorem laidOutR : laidOutB Tryz.prog = true := by kernel_rfl
theorem strLaw : Keyed Tryz.prog 9 := string_keyed Tryz.underlying9
theorem placeRow : 227 < Tryz.prog.types.size := of_decide_eq_true (by kernel_rfl)
theorem placeWide : (match Tryz.prog.underlying 227 with | some (.array _ _) | some (.struct _) => true | _ => false) = true := by rw [Tryz.underlying227]
theorem placeKt : Tryz.prog.keyTypeAt 2 227 = true := by kernel_rfl
set_option maxRecDepth 100000 in
theorem placeLaw : Keyed Tryz.prog 227 := Keyed.of_law (deep_law_laid (m := 2) laidOutR (by decide) placeRow placeKt placeWide)
theorem placeTy : Tryz.prog.keyType 227 = true := by kernel_rfl
theorem placeCells : Tryz.prog.cellsOf 227 = 2 := by kernel_rfl
theorem strCellsR : Tryz.prog.cellsOf 9 = 1 := by kernel_rfl
/-- What a struct of two strings reads as, as a key. -/
theorem key_two {P : Program} {k : TypeId} {f0 f1 : Field} (hk : P.underlying k = some (.struct #[f0, f1])) (hkt : P.keyType k = true) (hc : P.cellsOf k = 2) (h0 : P.underlying f0.type = some .string) (h1 : P.underlying f1.type = some .string)
    (c0 : P.cellsOf f0.type = 1) (c1 : P.cellsOf f1.type = 1) (o0 : f0.offset = 0) (o1 : f1.offset = 1) (n0 : (f0.name != "_") = true) (n1 : (f1.name != "_") = true) (ht : 0 < P.types.size) {a b : ByteArray} (ha : a.size ≤ maxLen) (hb : b.size ≤ maxLen) :
    ∃ kl, keyOf P k (.agg #[.string a, .string b]) = some kl := by
  obtain ⟨d, hd⟩ : ∃ d, P.types.size = d + 1 := Nat.exists_eq_succ_of_ne_zero (by omega)
  have e0 : P.keyLits (d + 1) f0.type [.string a] = some [.string a.data.toList] := by simp [Program.keyLits, h0, ha]
  have e1 : P.keyLits (d + 1) f1.type [.string b] = some [.string b.data.toList] := by simp [Program.keyLits, h1, hb]
  refine ⟨.string (keyBytes [.string a.data.toList, .string b.data.toList]), ?_⟩
  have e2 : P.keyLits (d + 1 + 1) k [.string a, .string b] = some [.string a.data.toList, .string b.data.toList] := by
    unfold Program.keyLits
    simp only [hk]
    rw [if_pos ⟨by rw [hc]; rfl, by simp [n0, n1]⟩]
    simp [c0, c1, o0, o1, e0, e1]
  simp [keyOf, hk, hkt, Value.formed, hc, hd, Value.cells, e2]
theorem zeroIntR (w : World) : (zeroValue 3).run Tryz.prog w = .ok (.int .i64 0) w := by kernel_rfl
theorem zeroVarR (w : World) : (zeroValue 234).run Tryz.prog w = .ok (.pointer none) w := by kernel_rfl

/-- What a place reads as. -/
theorem placeKey {a b : ByteArray} (ha : a.size ≤ maxLen) (hb : b.size ≤ maxLen) : ∃ kl, keyOf Tryz.prog 227 (.agg #[.string a, .string b]) = some kl :=
  key_two Tryz.underlying227 placeTy placeCells Tryz.underlying9 Tryz.underlying9 strCellsR strCellsR rfl rfl (by decide) (by decide) (Nat.lt_of_le_of_lt (Nat.zero_le _) placeRow) ha hb

/-! ### A call's own names -/
def OwM (w : World) (b n : Nat) (o : Rn.Own) : Prop :=
  ∃ D : DataW Unit, w.ownsMap Tryz.prog 9 (plainElem Tryz.prog 3) b n D ∧ ∀ s : ByteArray, s.size ≤ maxLen →
    (Maps.has D (.string s.data.toList) = (o s).isSome ∧ D.atKey (.string s.data.toList) (.lit (.int .i64 0)) = .lit (.int .i64 ((o s).getD 0)))
theorem OwM.kept {w w' : World} {b n : Nat} {o : Rn.Own} {row : Option Nat} (h : OwM w b n o) (hg : w.grownBy w' row) (hne : some b ≠ row) : OwM w' b n o := by
  obtain ⟨D, h1, h2⟩ := h
  exact ⟨D, h1.kept hg hne, h2⟩
theorem OwM.same {w w' : World} {b n : Nat} {o : Rn.Own} (h : OwM w b n o) (hb : w'.heap[b]? = w.heap[b]?) : OwM w' b n o := by
  obtain ⟨D, ⟨es, cl, h0, h1⟩, h2⟩ := h
  exact ⟨D, ⟨es, cl, by rw [hb]; exact h0, h1⟩, h2⟩
theorem OwM.mono {w : World} {b n n' : Nat} {o : Rn.Own} (h : OwM w b n o) (hn : n ≤ n') : OwM w b n' o := by
  obtain ⟨D, h1, h2⟩ := h
  exact ⟨D, h1.mono hn, h2⟩
theorem OwM.lt {w : World} {b n : Nat} {o : Rn.Own} (h : OwM w b n o) : b < w.heap.size := by
  obtain ⟨D, h1, _⟩ := h
  exact h1.lt
theorem OwM.isMap {w : World} {b n : Nat} {o : Rn.Own} (h : OwM w b n o) : ∃ es cl, w.heap[b]? = some (.map es cl) := by
  obtain ⟨D, ⟨es, cl, h0, _⟩, _⟩ := h
  exact ⟨es, cl, h0⟩
theorem OwM.new (w : World) : OwM (w.alloc (.map #[] 0)) w.heap.size 0 (fun _ => none) :=
  ⟨.map [], World.ownsMap_made _ _ _ _, fun _ _ => ⟨rfl, rfl⟩⟩
theorem key_ne {s t : ByteArray} (h : Nm.sameB s t = false) : (Lit.string s.data.toList) ≠ (Lit.string t.data.toList) := fun e => by
  injection e with e
  rw [Nm.sameB, Lib.toList_data, Lib.toList_data, e] at h
  simp at h
theorem key_eq {s t : ByteArray} (h : Nm.sameB s t = true) : s = t := toList_inj (by rw [Nm.sameB, beq_iff_eq] at h; exact h)
theorem OwM.put {w : World} {b n : Nat} {o : Rn.Own} (h : OwM w b n o) (hn : n < maxLen) {s : ByteArray} (hs : s.size ≤ maxLen) {v : Int} (hv : I64 v) :
    ∃ w', (Instr.mapUpdate 229 (.map (some b)) (.string s) (.int .i64 v)).run Tryz.prog w = .ok () w' ∧ OwM w' b (n + 1) (Rn.put o s v) ∧ w.grownBy w' (some b) := by
  obtain ⟨D, h1, h2⟩ := h
  have hwf : (Lit.int .i64 v).wf = true := by simpa [I64, Lit.wf, IntKind.min, IntKind.max, IntKind.signed, IntKind.bits] using hv
  obtain ⟨w', e, h3, h4⟩ := h1.update strLaw Tryz.underlying229 hn (keyOf_string_mk Tryz.underlying9 hs) (plainElem_int Tryz.underlying3 hwf)
  refine ⟨w', e, ⟨_, h3, fun t ht => ?_⟩, h4⟩
  cases hst : Nm.sameB t s with
  | true =>
    have := key_eq hst
    subst this
    rw [has_put_same h1.isMap (show WideAt.IsKeyLit (.string t.data.toList) from trivial), atKey_put_same h1.isMap (show WideAt.IsKeyLit (.string t.data.toList) from trivial)]
    simp [Rn.put, hst]
  | false =>
    rw [has_put_other (key_ne hst), atKey_put_other (key_ne hst)]
    simpa [Rn.put, hst] using h2 t ht
theorem OwM.look {w : World} {b n : Nat} {o : Rn.Own} (h : OwM w b n o) {s : ByteArray} (hs : s.size ≤ maxLen) :
    (Instr.lookup 229 (.map (some b)) (.string s) false).run Tryz.prog w = .ok (.int .i64 ((o s).getD 0)) w := by
  obtain ⟨D, h1, h2⟩ := h
  obtain ⟨c, e, h3, _⟩ := h1.lookup_int strLaw Tryz.underlying229 Tryz.underlying3 (zeroIntR w) (keyOf_string_mk Tryz.underlying9 hs)
  rw [(h2 s hs).2] at h3
  simp only [DataW.lit.injEq, Lit.int.injEq, true_and] at h3
  rw [e, h3]
theorem OwM.lookOk {w : World} {b n : Nat} {o : Rn.Own} (h : OwM w b n o) {s : ByteArray} (hs : s.size ≤ maxLen) :
    (Instr.lookup 229 (.map (some b)) (.string s) true).run Tryz.prog w = .ok (.tuple #[.int .i64 ((o s).getD 0), .bool (o s).isSome]) w := by
  obtain ⟨D, h1, h2⟩ := h
  obtain ⟨v, ps, e, h3⟩ := h1.look_ok strLaw Tryz.underlying229 (zeroIntR w) (zd := .lit (.int .i64 0)) (zp := []) (plainElem_int Tryz.underlying3 (by decide)) (keyOf_string_mk Tryz.underlying9 hs)
  rw [(h2 s hs).2] at h3
  obtain ⟨c, rfl, h4, _⟩ := plainElem_int_inv Tryz.underlying3 h3
  simp only [Prod.mk.injEq, DataW.lit.injEq, Lit.int.injEq, true_and] at h4
  rw [e, (h2 s hs).1, h4.1]

/-! ### Where variables lie -/
/-- How a pointer to a block reads. -/
def ptrElem : Value → Option (DataW Unit × List MemPlace)
  | .pointer none => some (.nil, [])
  | .pointer (some ⟨b, 0, none⟩) => some (.lit (.int .i64 b), [])
  | _ => none
theorem ptrElem_nil {v : Value} {ps : List MemPlace} (h : ptrElem v = some (.nil, ps)) : v = .pointer none := by
  unfold ptrElem at h
  split at h <;> simp_all
theorem ptrElem_at {v : Value} {ps : List MemPlace} {b : Nat} (h : ptrElem v = some (.lit (.int .i64 b), ps)) : v = .pointer (some ⟨b, 0, none⟩) := by
  unfold ptrElem at h
  split at h <;> simp_all <;> omega
/-- The pointer to the variable of that number. -/
def ptrOf (bs : List Nat) : Option Nat → Value
  | none => .pointer none
  | some i => .pointer (some ⟨bs.getD i 0, 0, none⟩)
def datOf (bs : List Nat) : Option Nat → DataW Unit
  | none => .nil
  | some i => .lit (.int .i64 ((bs.getD i 0 : Nat) : Int))
def PlM (w : World) (b n : Nat) (nm : List (ByteArray × ByteArray)) (bs : List Nat) : Prop :=
  ∃ D : DataW Unit, w.ownsMap Tryz.prog 227 ptrElem b n D ∧ ∀ x y : ByteArray, x.size ≤ maxLen → y.size ≤ maxLen → ∀ kl, keyOf Tryz.prog 227 (.agg #[.string x, .string y]) = some kl → D.atKey kl .nil = datOf bs (Rn.pos nm x y)
theorem PlM.same {w w' : World} {b n : Nat} {nm : List (ByteArray × ByteArray)} {bs : List Nat} (h : PlM w b n nm bs) (hb : w'.heap[b]? = w.heap[b]?) : PlM w' b n nm bs := by
  obtain ⟨D, ⟨es, cl, h0, h1⟩, h2⟩ := h
  exact ⟨D, ⟨es, cl, by rw [hb]; exact h0, h1⟩, h2⟩
theorem PlM.isMap {w : World} {b n : Nat} {nm : List (ByteArray × ByteArray)} {bs : List Nat} (h : PlM w b n nm bs) : ∃ es cl, w.heap[b]? = some (.map es cl) := by
  obtain ⟨D, ⟨es, cl, h0, _⟩, _⟩ := h
  exact ⟨es, cl, h0⟩
theorem PlM.look {w : World} {b n : Nat} {nm : List (ByteArray × ByteArray)} {bs : List Nat} (h : PlM w b n nm bs) {x y : ByteArray} (hx : x.size ≤ maxLen) (hy : y.size ≤ maxLen) :
    (Instr.lookup 221 (.map (some b)) (.agg #[.string x, .string y]) false).run Tryz.prog w = .ok (ptrOf bs (Rn.pos nm x y)) w := by
  obtain ⟨D, h1, h2⟩ := h
  obtain ⟨kl, hk⟩ := placeKey hx hy
  obtain ⟨v, ps, e, h3⟩ := h1.lookup placeLaw Tryz.underlying221 (zeroVarR w) (zd := .nil) (zp := []) rfl hk
  rw [h2 x y hx hy kl hk] at h3
  rw [e]
  cases hp : Rn.pos nm x y with
  | none => rw [hp] at h3; rw [ptrElem_nil h3]; rfl
  | some i => rw [hp] at h3; rw [ptrElem_at h3]; rfl

end Go.Proofs.YtnheahdcfadclaaGreatDoor

/- Rows that stay where diagnostics are told, or other rows grow. -/
namespace Go.Proofs.YtnheahdcfadclaaGreatDoor
open Go.RowKit

section
variable {α : Type} {At : List Value → α → Prop} {w w' : World} {n e k : Nat} {v : Value} {l : List α}
theorem OwnK.tells {p : Nat} (h : OwnK At w n e k v l) (hT : Tells p w w') (he : e ≠ 43) (hp : v.ownBlock ≠ some p) : OwnK At w' n e k v l := by
  obtain ⟨cs, ⟨h0, h1⟩, h2⟩ := h
  refine ⟨cs, ⟨h0, ?_⟩, h2⟩
  rcases h1 with h1 | ⟨g, cap, cur, hv, hg, hh, r⟩
  · exact Or.inl h1
  · exact Or.inr ⟨g, cap, cur, hv, hg, hT.at (fun e' => hp (by rw [hv, e']; rfl)) hh he, r⟩
theorem OwnK.grown {r : Option Nat} (h : OwnK At w n e k v l) (hG : w.grownBy w' r) (hr : ∀ g, v.ownBlock = some g → r ≠ some g) : OwnK At w' n e k v l := by
  have hlt := h.lt
  obtain ⟨cs, ⟨h0, h1⟩, h2⟩ := h
  refine ⟨cs, ⟨h0, ?_⟩, h2⟩
  rcases h1 with h1 | ⟨g, cap, cur, hv, hg, hh, r'⟩
  · exact Or.inl h1
  · exact Or.inr ⟨g, cap, cur, hv, hg, by rw [hG.block g (block_lt hh) (fun e' => hr g (by rw [hv]; rfl) e'.symm)]; exact hh, r'⟩
/-- Rows of two types are apart. -/
theorem OwnK.other {α' : Type} {At' : List Value → α' → Prop} {n' e' k' : Nat} {v' : Value} {l' : List α'} (h : OwnK At w n e k v l) (h' : OwnK At' w n' e' k' v' l') (he : e ≠ e') : ∀ g, v.ownBlock = some g → v'.ownBlock ≠ some g := fun g hg hg' => by
  obtain ⟨cur, hc⟩ := h.typ hg
  obtain ⟨cur', hc'⟩ := h'.typ hg'
  rw [hc] at hc'
  simp at hc'
  exact he hc'.2
end
theorem Told.apart {α : Type} {At : List Value → α → Prop} {w : World} {n p n' e k : Nat} {v : Value} {l : List Dg} {l' : List α} (h : Told w n p l) (h' : OwnK At w n' e k v l') (he : e ≠ 37) : v.ownBlock ≠ some p := by
  obtain ⟨_, u, h1, _⟩ := h
  exact h'.apart h1 (fun e' => he e'.symm)
theorem Told.grown {α : Type} {At : List Value → α → Prop} {w w' : World} {n p n' e k : Nat} {v : Value} {l : List Dg} {l' : List α} (h : Told w n p l) (h' : OwnK At w n' e k v l') (hG : w.grownBy w' v.ownBlock) (he : e ≠ 37) (hd : e ≠ 43) : Told w' n p l := by
  have ha := h.apart h' he
  obtain ⟨h0, u, h1, h2⟩ := h
  exact ⟨h0, u, by rw [hG.block p (block_lt h1) (fun e' => ha e'.symm)]; exact h1, h2.grown hG (fun g hg => h2.other h' (fun e' => hd e'.symm) g hg)⟩
theorem Tells.grown {p : Nat} {w w1 w2 : World} {r : Option Nat} (h : Tells p w w1) (hG : w1.grownBy w2 r) (hr : ∀ g, r = some g → w.heap.size ≤ g) : Tells p w w2 :=
  ⟨Nat.le_trans h.size hG.size, fun k hk hp hd => by
    rw [hG.block k (Nat.lt_of_lt_of_le hk h.size) (fun e => by have := hr k e.symm; omega)]
    exact h.block k hk hp hd⟩

end Go.Proofs.YtnheahdcfadclaaGreatDoor
