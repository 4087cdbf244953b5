/- Running functions, as plain data: what package run's machine does. -/
import Derived.Test.YtholefgckcoklaaGreatDoorZAT
namespace Go.Proofs.YtholefgckcoklaaGreatDoor
open Go.RowKit
namespace Rn
structure Vr where
  val : Int
  rd : Bool
  st : Bool
structure Sta where
  fuel : Nat
  vs : List Vr
  pr : List (ByteArray × Int)
abbrev Own := ByteArray → Option Int
def put (o : Own) (n : ByteArray) (v : Int) : Own := fun s => if Nm.sameB s n = true then some v else o s
def pos (nm : List (ByteArray × ByteArray)) (mod name : ByteArray) : Option Nat := (List.range nm.length).find? fun i => match nm[i]? with | some v => Nm.sameB v.1 mod && Nm.sameB v.2 name | none => false
def sh (nm : List (ByteArray × ByteArray)) (mn : ByteArray) (o : Own) (n : ByteArray) : Option Nat := if (o n).isSome = true then none else pos nm mn n
def gt (nm : List (ByteArray × ByteArray)) (mn : ByteArray) (o : Own) (n : ByteArray) (s : Sta) : Int × Sta :=
  match sh nm mn o n with
  | none => ((o n).getD 0, s)
  | some i => ((s.vs[i]?.map (·.val)).getD 0, { s with vs := s.vs.modify i fun v => { v with rd := true } })
def pt (nm : List (ByteArray × ByteArray)) (mn : ByteArray) (o : Own) (n : ByteArray) (x : Int) (s : Sta) : Own × Sta :=
  match sh nm mn o n with
  | none => (put o n x, s)
  | some i => (o, { s with vs := s.vs.modify i fun v => { v with val := x, st := true } })
def burnE (s : Sta) : Int := if s.fuel = 0 then 6 else 0
def burnS (s : Sta) : Sta := { s with fuel := s.fuel - 1 }
def burn (s : Sta) : Option Sta := if s.fuel = 0 then none else some { s with fuel := s.fuel - 1 }
def tr (b : Bool) : Int := if b = true then 1 else 0
def ap (op : ByteArray) (a b : Int) : Int :=
  if (op.toList == [43]) = true then wrap64 (a + b) else if (op.toList == [45]) = true then wrap64 (a - b) else if (op.toList == [42]) = true then wrap64 (a * b)
  else if (op.toList == [60]) = true then tr (decide (a < b)) else tr (a == b)
structure Fns where
  ev : Nat → Nat → Own → Ex → Sta → Int × Int × Sta
  dO : Nat → Nat → Own → St → Sta → Int × Own × Sta
  lp : Nat → Nat → Own → St → Sta → Int × Own × Sta
def evs (f : Ex → Sta → Int × Int × Sta) : List Ex → Sta → List Int × Int × Sta
  | [], s => ([], 0, s)
  | x :: l, s => if (f x s).2.1 = 0 then ((f x s).1 :: (evs f l (f x s).2.2).1, (evs f l (f x s).2.2).2) else ([], (f x s).2)
def dos (f : Own → St → Sta → Int × Own × Sta) : List St → Own → Sta → Int × Own × Sta
  | [], o, s => (0, o, s)
  | c :: l, o, s => if (f o c s).1 = 0 then dos f l (f o c s).2.1 (f o c s).2.2 else f o c s
def own0 (ps : List ByteArray) (args : List Int) : Own := (ps.zip args).foldl (fun o p => put o p.1 p.2) (fun _ => none)
def enter (F : Fns) (l : List Mo) (at' k : Nat) (args : List Int) (s : Sta) : Int × Int × Sta :=
  match l[at']?.bind fun m => m.funs[k]? with
  | none => (0, 0, s)
  | some f => if f.params.length = args.length then
      if (dos (F.dO at' k) f.body (own0 f.params args) s).1 = 0 then F.ev at' k (dos (F.dO at' k) f.body (own0 f.params args) s).2.1 f.result (dos (F.dO at' k) f.body (own0 f.params args) s).2.2
      else (0, (dos (F.dO at' k) f.body (own0 f.params args) s).1, (dos (F.dO at' k) f.body (own0 f.params args) s).2.2)
    else (0, 5, s)
def call (F : Fns) (l : List Mo) (at' k : Nat) (name : ByteArray) (args : List Int) (s : Sta) : Int × Int × Sta :=
  match burn s, l[at']? with
  | none, _ => (0, 6, s)
  | some s1, none => (0, 0, s1)
  | some s1, some x => if (Nm.ptgt x k name l).2.2 = false then (0, 4, s1)
    else enter F l (if (Nm.ptgt x k name l).1 < 0 then at' else (Nm.ptgt x k name l).1.toNat) (Nm.ptgt x k name l).2.1.toNat args s1
def mn (l : List Mo) (at' : Nat) : ByteArray := (l[at']?.map (·.name)).getD ⟨#[]⟩
def step (nm : List (ByteArray × ByteArray)) (l : List Mo) (F : Fns) : Fns where
  ev at' k o x s :=
    if x.kind = 1 then (x.n, 0, s)
    else if x.kind = 2 then ((gt nm (mn l at') o x.name s).1, 0, (gt nm (mn l at') o x.name s).2)
    else if (evs (F.ev at' k o) x.args s).2.1 = 0 then
      if x.kind = 4 then call F l at' k x.name (evs (F.ev at' k o) x.args s).1 (evs (F.ev at' k o) x.args s).2.2
      else (ap x.name ((evs (F.ev at' k o) x.args s).1.getD 0 0) ((evs (F.ev at' k o) x.args s).1.getD 1 0), 0, (evs (F.ev at' k o) x.args s).2.2)
    else (0, (evs (F.ev at' k o) x.args s).2)
  dO at' k o c s := match burn s with
    | none => (6, o, s)
    | some s1 =>
      if c.kind = 3 then F.lp at' k o c s1
      else if (F.ev at' k o c.e s1).2.1 = 0 then
        if c.kind = 1 then (0, pt nm (mn l at') o c.name (F.ev at' k o c.e s1).1 (F.ev at' k o c.e s1).2.2)
        else if c.kind = 4 then (0, o, { (F.ev at' k o c.e s1).2.2 with pr := (F.ev at' k o c.e s1).2.2.pr ++ [(c.name, (F.ev at' k o c.e s1).1)] })
        else if (F.ev at' k o c.e s1).1 = 0 then dos (F.dO at' k) c.b o (F.ev at' k o c.e s1).2.2
        else dos (F.dO at' k) c.a o (F.ev at' k o c.e s1).2.2
      else ((F.ev at' k o c.e s1).2.1, o, (F.ev at' k o c.e s1).2.2)
  lp at' k o c s :=
    if (F.ev at' k o c.e s).2.1 = 0 ∧ (F.ev at' k o c.e s).1 ≠ 0 then
      if (dos (F.dO at' k) c.a o (F.ev at' k o c.e s).2.2).1 = 0 then
        match burn (dos (F.dO at' k) c.a o (F.ev at' k o c.e s).2.2).2.2 with
        | none => (6, (dos (F.dO at' k) c.a o (F.ev at' k o c.e s).2.2).2)
        | some s2 => F.lp at' k (dos (F.dO at' k) c.a o (F.ev at' k o c.e s).2.2).2.1 c s2
      else dos (F.dO at' k) c.a o (F.ev at' k o c.e s).2.2
    else ((F.ev at' k o c.e s).2.1, o, (F.ev at' k o c.e s).2.2)
def M (nm : List (ByteArray × ByteArray)) (l : List Mo) : Nat → Fns
  | 0 => ⟨fun _ _ _ _ s => (0, 0, s), fun _ _ o _ s => (0, o, s), fun _ _ o _ s => (0, o, s)⟩
  | g + 1 => step nm l (M nm l g)
structure Mea (μ : Sta → Nat) : Prop where
  vs : ∀ s v, μ { s with vs := v } = μ s
  burn : ∀ s s1, Rn.burn s = some s1 → μ s1 + 1 ≤ μ s
  pr : ∀ s d, μ { s with pr := s.pr ++ [d] } ≤ μ s + 1
def Le (μ : Sta → Nat) (F : Fns) : Prop := (∀ a k o x s, μ (F.ev a k o x s).2.2 ≤ μ s) ∧ (∀ a k o c s, μ (F.dO a k o c s).2.2 ≤ μ s) ∧ (∀ a k o c s, μ (F.lp a k o c s).2.2 ≤ μ s)
theorem burn_zero {s : Sta} (h : s.fuel = 0) : burn s = none ∧ burnE s = 6 ∧ burnS s = s := by
  refine ⟨by simp [burn, h], by simp [burnE, h], ?_⟩
  obtain ⟨f, v, p⟩ := s
  simp only at h
  subst h
  rfl
theorem burn_pos {s : Sta} (h : s.fuel ≠ 0) : burn s = some (burnS s) ∧ burnE s = 0 := ⟨by simp [burn, burnS, h], by simp [burnE, h]⟩
theorem burn_some {s s1 : Sta} (h : burn s = some s1) : s.fuel = s1.fuel + 1 ∧ s1.vs = s.vs ∧ s1.pr = s.pr := by
  unfold burn at h
  split at h
  · cases h
  · cases h
    refine ⟨?_, rfl, rfl⟩
    show s.fuel = s.fuel - 1 + 1
    omega
theorem mea_fuel : Mea (·.fuel) := ⟨fun _ _ => rfl, fun s s1 h => by have := (burn_some h).1; show s1.fuel + 1 ≤ s.fuel; omega, fun _ _ => Nat.le_succ _⟩
theorem mea_tot : Mea (fun s => s.pr.length + s.fuel) := ⟨fun _ _ => rfl, fun s s1 h => by obtain ⟨h1, _, h2⟩ := burn_some h; simp only [h2]; omega, fun s d => by simp only [List.length_append, List.length_singleton]; omega⟩
section
variable {μ : Sta → Nat} (U : Mea μ)
include U
theorem gt_mea (nm : List (ByteArray × ByteArray)) (m : ByteArray) (o : Own) (n : ByteArray) (s : Sta) : μ (gt nm m o n s).2 = μ s := by
  unfold gt
  split
  · rfl
  · exact U.vs _ _
theorem pt_mea (nm : List (ByteArray × ByteArray)) (m : ByteArray) (o : Own) (n : ByteArray) (x : Int) (s : Sta) : μ (pt nm m o n x s).2 = μ s := by
  unfold pt
  split
  · rfl
  · exact U.vs _ _
omit U in
theorem evs_mea {f : Ex → Sta → Int × Int × Sta} (hf : ∀ x s, μ (f x s).2.2 ≤ μ s) : ∀ (l : List Ex) (s : Sta), μ (evs f l s).2.2 ≤ μ s
  | [], s => Nat.le_refl _
  | x :: l, s => by
    unfold evs
    split
    · exact Nat.le_trans (evs_mea hf l _) (hf x s)
    · exact hf x s
omit U in
theorem dos_mea {f : Own → St → Sta → Int × Own × Sta} (hf : ∀ o c s, μ (f o c s).2.2 ≤ μ s) : ∀ (l : List St) (o : Own) (s : Sta), μ (dos f l o s).2.2 ≤ μ s
  | [], _, s => Nat.le_refl _
  | x :: l, o, s => by
    unfold dos
    split
    · exact Nat.le_trans (dos_mea hf l _ _) (hf o x s)
    · exact hf o x s
omit U in
theorem enter_mea {F : Fns} (h : Le μ F) (l : List Mo) (a k : Nat) (args : List Int) (s : Sta) : μ (enter F l a k args s).2.2 ≤ μ s := by
  unfold enter
  split
  · exact Nat.le_refl _
  · rename_i f _
    have h1 := dos_mea (fun o c s => h.2.1 a k o c s) f.body (own0 f.params args) s
    split
    · split
      · exact Nat.le_trans (h.1 _ _ _ _ _) h1
      · exact h1
    · exact Nat.le_refl _
theorem call_mea {F : Fns} (h : Le μ F) (l : List Mo) (a k : Nat) (n : ByteArray) (args : List Int) (s : Sta) : μ (call F l a k n args s).2.2 ≤ μ s := by
  unfold call
  split
  · exact Nat.le_refl _
  · rename_i s1 hb _
    have := U.burn _ _ hb
    show μ s1 ≤ μ s
    omega
  · rename_i s1 x hb _
    have := U.burn _ _ hb
    split
    · show μ s1 ≤ μ s
      omega
    · refine Nat.le_trans (enter_mea h l _ _ args s1) ?_
      omega
theorem step_mea {nm : List (ByteArray × ByteArray)} {l : List Mo} {F : Fns} (h : Le μ F) : Le μ (step nm l F) := by
  refine ⟨fun a k o x s => ?_, fun a k o c s => ?_, fun a k o c s => ?_⟩
  · have h1 := evs_mea (fun x s => h.1 a k o x s) x.args s
    simp only [step]
    split
    · exact Nat.le_refl _
    · split
      · exact Nat.le_of_eq (gt_mea U _ _ _ _ _)
      · split
        · split
          · exact Nat.le_trans (call_mea U h l _ _ _ _ _) h1
          · exact h1
        · exact h1
  · simp only [step]
    split
    · exact Nat.le_refl _
    · rename_i s1 hb
      have hb' := U.burn _ _ hb
      have h1 := h.1 a k o c.e s1
      have hle : μ s1 ≤ μ s := by omega
      split
      · exact Nat.le_trans (h.2.2 _ _ _ _ _) hle
      · split
        · split
          · show μ (pt nm (mn l a) o c.name (F.ev a k o c.e s1).1 (F.ev a k o c.e s1).2.2).2 ≤ μ s
            rw [pt_mea U]
            exact Nat.le_trans h1 hle
          · split
            · have := U.pr (F.ev a k o c.e s1).2.2 (c.name, (F.ev a k o c.e s1).1)
              refine Nat.le_trans this ?_
              omega
            · split
              · exact Nat.le_trans (dos_mea (fun o c s => h.2.1 a k o c s) _ _ _) (Nat.le_trans h1 hle)
              · exact Nat.le_trans (dos_mea (fun o c s => h.2.1 a k o c s) _ _ _) (Nat.le_trans h1 hle)
        · exact Nat.le_trans h1 hle
  · have h1 := h.1 a k o c.e s
    have h2 := dos_mea (fun o c s => h.2.1 a k o c s) c.a o (F.ev a k o c.e s).2.2
    simp only [step]
    split
    · split
      · split
        · exact Nat.le_trans h2 h1
        · rename_i s2 hb
          have hb' := U.burn _ _ hb
          refine Nat.le_trans (h.2.2 _ _ _ _ _) ?_
          omega
      · exact Nat.le_trans h2 h1
    · exact h1
theorem M_mea (nm : List (ByteArray × ByteArray)) (l : List Mo) : ∀ g, Le μ (M nm l g)
  | 0 => ⟨fun _ _ _ _ _ => Nat.le_refl _, fun _ _ _ _ _ => Nat.le_refl _, fun _ _ _ _ _ => Nat.le_refl _⟩
  | g + 1 => step_mea U (M_mea nm l g)
end
theorem M_le (nm : List (ByteArray × ByteArray)) (l : List Mo) (g : Nat) : Le (·.fuel) (M nm l g) := M_mea mea_fuel nm l g
theorem M_tot (nm : List (ByteArray × ByteArray)) (l : List Mo) (g : Nat) : Le (fun s => s.pr.length + s.fuel) (M nm l g) := M_mea mea_tot nm l g
end Rn
end Go.Proofs.YtholefgckcoklaaGreatDoor
