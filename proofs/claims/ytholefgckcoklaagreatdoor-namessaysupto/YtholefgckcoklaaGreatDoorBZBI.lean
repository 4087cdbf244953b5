/- Rows that stay where diagnostics are told, or other rows grow. -/
import Derived.Test.YtholefgckcoklaaGreatDoorBZAK
import Derived.Test.YtholefgckcoklaaGreatDoorBZBD
import Derived.Test.YtholefgckcoklaaGreatDoorBZBF
import Derived.Test.YtholefgckcoklaaGreatDoorBZBB
import Derived.Test.YtholefgckcoklaaGreatDoorBZBG
namespace Go.Proofs.YtholefgckcoklaaGreatDoor
open Go.RowKit
section
variable {α : Type} {At : List Value → α → Prop} {w w' : World} {n e k : Nat} {v : Value} {l : List α}
theorem OwnK.tells {p : Nat} (h : OwnK At w n e k v l) (hT : Tells p w w') (he : e ≠ 43) (hp : v.ownBlock ≠ some p) : OwnK At w' n e k v l := by
  obtain ⟨cs, ⟨h0, h1⟩, h2⟩ := h
  refine ⟨cs, ⟨h0, ?_⟩, h2⟩
  rcases h1 with h1 | ⟨g, cap, cur, hv, hg, hh, r⟩
  · exact Or.inl h1
  · exact Or.inr ⟨g, cap, cur, hv, hg, hT.at (fun e' => hp (by rw [hv, e']; rfl)) hh he, r⟩
theorem OwnK.grown {r : Option Nat} (h : OwnK At w n e k v l) (hG : w.grownBy w' r) (hr : ∀ g, v.ownBlock = some g → r ≠ some g) : OwnK At w' n e k v l := by
  have hlt := h.lt
  obtain ⟨cs, ⟨h0, h1⟩, h2⟩ := h
  refine ⟨cs, ⟨h0, ?_⟩, h2⟩
  rcases h1 with h1 | ⟨g, cap, cur, hv, hg, hh, r'⟩
  · exact Or.inl h1
  · exact Or.inr ⟨g, cap, cur, hv, hg, by rw [hG.block g (block_lt hh) (fun e' => hr g (by rw [hv]; rfl) e'.symm)]; exact hh, r'⟩
theorem OwnK.other {α' : Type} {At' : List Value → α' → Prop} {n' e' k' : Nat} {v' : Value} {l' : List α'} (h : OwnK At w n e k v l) (h' : OwnK At' w n' e' k' v' l') (he : e ≠ e') : ∀ g, v.ownBlock = some g → v'.ownBlock ≠ some g := fun g hg hg' => by
  obtain ⟨cur, hc⟩ := h.typ hg
  obtain ⟨cur', hc'⟩ := h'.typ hg'
  rw [hc] at hc'
  simp at hc'
  exact he hc'.2
end
theorem Told.apart {α : Type} {At : List Value → α → Prop} {w : World} {n p n' e k : Nat} {v : Value} {l : List Dg} {l' : List α} (h : Told w n p l) (h' : OwnK At w n' e k v l') (he : e ≠ 37) : v.ownBlock ≠ some p := by
  obtain ⟨_, u, h1, _⟩ := h
  exact h'.apart h1 (fun e' => he e'.symm)
theorem Told.grown {α : Type} {At : List Value → α → Prop} {w w' : World} {n p n' e k : Nat} {v : Value} {l : List Dg} {l' : List α} (h : Told w n p l) (h' : OwnK At w n' e k v l') (hG : w.grownBy w' v.ownBlock) (he : e ≠ 37) (hd : e ≠ 43) : Told w' n p l := by
  have ha := h.apart h' he
  obtain ⟨h0, u, h1, h2⟩ := h
  exact ⟨h0, u, by rw [hG.block p (block_lt h1) (fun e' => ha e'.symm)]; exact h1, h2.grown hG (fun g hg => h2.other h' (fun e' => hd e'.symm) g hg)⟩
theorem Tells.grown {p : Nat} {w w1 w2 : World} {r : Option Nat} (h : Tells p w w1) (hG : w1.grownBy w2 r) (hr : ∀ g, r = some g → w.heap.size ≤ g) : Tells p w w2 :=
  ⟨Nat.le_trans h.size hG.size, fun k hk hp hd => by
    rw [hG.block k (Nat.lt_of_lt_of_le hk h.size) (fun e => by have := hr k e.symm; omega)]
    exact h.block k hk hp hd⟩
end Go.Proofs.YtholefgckcoklaaGreatDoor
namespace Go.Proofs.YtholefgckcoklaaGreatDoor
open Go.RowKit
namespace Lat
def moX (m : Nat) (x : Mo) : ByteArray := brk [[⟨#[109, 111, 100, 117, 108, 101]⟩, x.name], x.imports.map impX, x.vars.map vaX, x.funs.map (fuX m)].flatten
end Lat
theorem foldx {α : Type} {f : ByteArray → α → ByteArray} {g : α → ByteArray} : ∀ (l : List α) (acc : ByteArray), (∀ y ∈ l, ∀ acc, (f acc y).data.toList = acc.data.toList ++ 32 :: (g y).data.toList) →
    (l.foldl f acc).data.toList = acc.data.toList ++ Lib.joinTail [32] ((l.map g).map (·.data.toList))
  | [], acc, _ => by simp [Lib.joinTail]
  | y :: l, acc, h => by
    rw [List.foldl_cons, foldx l _ (fun z hz => h z (by simp [hz])), h y (by simp), List.map_cons, List.map_cons, tail_cons]
    simp
theorem impT_eq (acc s : ByteArray) : (Lat.impT acc s).data.toList = acc.data.toList ++ 32 :: (Lat.impX s).data.toList := by
  unfold Lat.impT Lat.impX
  rw [brk_list]
  simp [Lib.join_cons, Lib.joinTail]
theorem vaT_eq (acc : ByteArray) (v : Va) : (Lat.vaT acc v).data.toList = acc.data.toList ++ 32 :: (Lat.vaX v).data.toList := by
  unfold Lat.vaT Lat.vaX
  rw [brk_list]
  simp [Lib.join_cons, Lib.joinTail]
theorem moX_eq {m : Nat} {x : Mo} (hm : x.funs ≠ [] → m ≠ 0) : Lat.moX m x = Lat.moT m x := by
  apply bytes_ext
  unfold Lat.moX Lat.moT Lat.moF Lat.moV Lat.moI Lat.moH
  have hfl : [[(⟨#[109, 111, 100, 117, 108, 101]⟩ : ByteArray), x.name], x.imports.map Lat.impX, x.vars.map Lat.vaX, x.funs.map (Lat.fuX m)].flatten = ⟨#[109, 111, 100, 117, 108, 101]⟩ :: x.name :: (x.imports.map Lat.impX ++ (x.vars.map Lat.vaX ++ x.funs.map (Lat.fuX m))) := by simp
  rw [hfl, brk_list, app_list, foldx (g := Lat.fuX m) x.funs _ (fun y hy acc => fuT_eq (hm (List.ne_nil_of_mem hy)) acc y), foldx (g := Lat.vaX) x.vars _ (fun y _ acc => vaT_eq acc y), foldx (g := Lat.impX) x.imports _ (fun y _ acc => impT_eq acc y),
    List.map_cons, Lib.join_cons, List.map_cons, tail_cons, List.map_append, joinTail_app, List.map_append, joinTail_app, app_list]
  simp
end Go.Proofs.YtholefgckcoklaaGreatDoor
namespace Go.Proofs.YtholefgckcoklaaGreatDoor
open Go.RowKit
set_option maxHeartbeats 1000000 in
set_option maxRecDepth 100000 in
theorem rmeet_any (w : World) (ad : Option Addr) (vl : Value) (n cap a b : Nat) (Z : Nat → Nat → Bool) (hG : Grid w vl n Z) (hn : n ≤ 6) (ha : a < n) (hb : b < n) :
    Calls Tryz.prog 88 #[.agg #[.slice ad n cap, vl], .int .i64 a, .int .i64 b] w fun e w' => e = .returned (.int .i64 (Lat.joinI (Lat.tr Z) n a b)) ∧ Below w.heap.size w w' := by
  have HG := hide (hG.below (boxBelow w (.cells #[.slice ad n cap, vl] 34)))
  clear hG
  go_enter Tryz.func88, Tryz.ntmps88
  go_wp2_with fail
  refine (rturned_any _ ad vl n cap Z HG.out (by omega) hn).mono ?_
  rintro e w1 ⟨vl', rfl, hG1, hb1⟩
  have HG1 := hide hG1
  have HB1 := hide (up1 hb1)
  clear hG1 hb1
  go_wp2_with fail
  refine (rjoin_any _ ad vl' n cap a b (Lat.tr Z) HG1.out hn ha hb).mono ?_
  rintro e w2 ⟨rfl, hb2⟩
  have HB2 := hide (up HB1.out hb2)
  clear hb2
  go_wp2
  go_ret
  exact ⟨rfl, HB2.out⟩
namespace Lat
variable {Z : Nat → Nat → Bool} {n : Nat}
def ordT (Z : Nat → Nat → Bool) (a b : Nat) : Bool := !((Z a b && (Z b a != (a == b))) || ((a == b) && !Z a b))
def ordC (Z : Nat → Nat → Bool) (a b c : Nat) : Bool := !(Z a b && Z b c && !Z a c)
def ordR (Z : Nat → Nat → Bool) (n a b : Nat) : Bool := ordT Z a b && (List.range n).all (ordC Z a b)
def ordA (Z : Nat → Nat → Bool) (n a : Nat) : Bool := (List.range n).all (ordR Z n a)
def rOrd (Z : Nat → Nat → Bool) (n : Nat) : Bool := (List.range n).all (ordA Z n)
def jP (Z : Nat → Nat → Bool) (n a b : Nat) : Bool := decide (0 ≤ joinI Z n a b) && decide (0 ≤ joinI (tr Z) n a b)
def jA (Z : Nat → Nat → Bool) (n a : Nat) : Bool := (List.range n).all (jP Z n a)
def rJoins (Z : Nat → Nat → Bool) (n : Nat) : Bool := (List.range n).all (jA Z n)
theorem order_of_ord (o : Ord Z n) : orderB Z n = true := by
  refine all_true fun a ha => ?_
  unfold orderP
  rw [o.refl a ha, Bool.true_and]
  refine all_true fun b hb => ?_
  unfold orderR
  cases hab : Z a b
  · rfl
  · have hf : fitsB Z n a b = true := by
      unfold fitsB
      have h1 : (a != b && Z b a) = false := by
        cases hba : Z b a
        · simp
        · have := o.anti a b ha hb hab hba
          simp [this]
      rw [h1]
      refine all_true fun c hc => ?_
      unfold fitsP
      cases hbc : Z b c
      · rfl
      · rw [o.trans a b c ha hb hc hab hbc]; rfl
    rw [hf]; rfl
theorem rOrd_eq : rOrd Z n = orderB Z n := by
  rw [Bool.eq_iff_iff]
  constructor
  · intro h
    have h1 : ∀ a b, a < n → b < n → ordT Z a b = true ∧ ∀ c, c < n → ordC Z a b c = true := by
      intro a b ha hb
      have := all_get (all_get h ha) hb
      unfold ordR at this
      obtain ⟨x, y⟩ := Bool.and_eq_true_iff.1 this
      exact ⟨x, fun c hc => all_get y hc⟩
    refine order_of_ord ⟨fun a ha => ?_, fun a b ha hb hab hba => ?_, fun a b c ha hb hc hab hbc => ?_⟩
    · have := (h1 a a ha ha).1
      unfold ordT at this
      cases hz : Z a a
      · rw [hz] at this; simp at this
      · rfl
    · have := (h1 a b ha hb).1
      unfold ordT at this
      rw [hab, hba] at this
      by_cases e : a = b
      · exact e
      · simp [e] at this
    · have := (h1 a b ha hb).2 c hc
      unfold ordC at this
      rw [hab, hbc] at this
      simpa using this
  · intro h
    have o := ord_of h
    refine all_true fun a ha => all_true fun b hb => ?_
    unfold ordR
    have h1 : ordT Z a b = true := by
      unfold ordT
      by_cases e : a = b
      · subst e
        simp [o.refl a ha]
      · cases hab : Z a b
        · simp [e]
        · cases hba : Z b a
          · simp [e]
          · exact absurd (o.anti a b ha hb hab hba) e
    rw [h1, Bool.true_and]
    refine all_true fun c hc => ?_
    unfold ordC
    cases hab : Z a b
    · rfl
    · cases hbc : Z b c
      · rfl
      · rw [o.trans a b c ha hb hc hab hbc]; rfl
theorem joinI_nonneg {a b : Nat} : decide (0 ≤ joinI Z n a b) = (joinO Z n a b).isSome := by
  unfold joinI
  cases h : joinO Z n a b
  · rfl
  · simp
theorem joinsB_all (o : Ord Z n) : joinsB Z n = true ↔ ∀ a b, a < n → b < n → (joinO Z n a b).isSome = true := by
  constructor
  · intro h a b ha hb
    obtain ⟨c, hc⟩ := (joins_of o h).has a b ha hb
    rw [hc]; rfl
  · intro h
    exact all_true fun a ha => all_true fun b hb => h a b ha (by omega)
theorem rJoins_eq (h : orderB Z n = true) : rJoins Z n = (joinsB Z n && joinsB (tr Z) n) := by
  have o := ord_of h
  rw [Bool.eq_iff_iff, Bool.and_eq_true_iff, joinsB_all o, joinsB_all o.turn]
  constructor
  · intro hj
    have h1 : ∀ a b, a < n → b < n → (joinO Z n a b).isSome = true ∧ (joinO (tr Z) n a b).isSome = true := by
      intro a b ha hb
      have := all_get (all_get hj ha) hb
      unfold jP at this
      rw [joinI_nonneg, joinI_nonneg] at this
      exact Bool.and_eq_true_iff.1 this
    exact ⟨fun a b ha hb => (h1 a b ha hb).1, fun a b ha hb => (h1 a b ha hb).2⟩
  · rintro ⟨h1, h2⟩
    refine all_true fun a ha => all_true fun b hb => ?_
    unfold jP
    rw [joinI_nonneg, joinI_nonneg, h1 a b ha hb, h2 a b ha hb]; rfl
theorem rcheck_eq (ss : List ByteArray) (G : Nat) (L : Nat → Nat) (Z : Nat → Nat → Bool) :
    checkE ss G L Z = if namesB ss = false then 1 else if 6 < ss.length then 2 else if squareB G L ss.length = false then 5 else if rOrd Z ss.length = false then 5 else if rJoins Z ss.length = false then 5 else 0 := by
  unfold checkE
  rw [rOrd_eq]
  cases h : orderB Z ss.length
  · rfl
  · rw [rJoins_eq h]
    cases joinsB Z ss.length <;> cases joinsB (tr Z) ss.length <;> simp
end Lat
end Go.Proofs.YtholefgckcoklaaGreatDoor
