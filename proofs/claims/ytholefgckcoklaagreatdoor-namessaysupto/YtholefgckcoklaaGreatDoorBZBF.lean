/- How long the lists are that Names and Check come to: bounded by what a module weighs. -/
import Derived.Test.YtholefgckcoklaaGreatDoorBZBA
import Derived.Test.YtholefgckcoklaaGreatDoorBZBC
namespace Go.Proofs.YtholefgckcoklaaGreatDoor
open Go.RowKit
namespace Nm
theorem sum_mono {α : Type} {f g : α → Nat} : ∀ {l : List α}, (∀ x ∈ l, f x ≤ g x) → (l.map f).sum ≤ (l.map g).sum
  | [], _ => Nat.le_refl _
  | x :: l, h => by
    have h0 := h x (by simp)
    have h1 := sum_mono (l := l) (fun y hy => h y (by simp [hy]))
    simp only [List.map_cons, List.sum_cons]
    omega
theorem flat_sum {α β : Type} {f : α → List β} {g : α → Nat} {l : List α} (h : ∀ x ∈ l, (f x).length ≤ g x) : (l.flatMap f).length ≤ (l.map g).sum := by
  rw [List.length_flatMap]
  exact sum_mono h
theorem calls_len : ∀ (m : Nat) (x : Ex), (calls m x).length ≤ exW m x
  | 0, _ => Nat.le_refl _
  | m + 1, x => by
    have h := flat_sum (f := calls m) (g := exW m) (l := x.args) (fun y _ => calls_len m y)
    simp only [calls, exW, List.length_append]
    have h2 : (if x.kind = 4 then [x] else []).length ≤ 1 := by split <;> simp
    omega
theorem pcalls_len : ∀ (m : Nat) (x : Ex), (pcalls m x).length ≤ exW m x
  | 0, _ => Nat.le_refl _
  | m + 1, x => by
    have h := flat_sum (f := pcalls m) (g := exW m) (l := x.args) (fun y _ => pcalls_len m y)
    simp only [pcalls, exW, List.length_append]
    have h2 : (if x.kind = 4 then [x] else []).length ≤ 1 := by split <;> simp
    omega
theorem flat_map_sum {α β : Type} (f : α → List β) (g : β → Nat) : ∀ (l : List α), ((l.flatMap f).map g).sum = (l.map fun s => ((f s).map g).sum).sum
  | [] => rfl
  | s :: l => by simp only [List.flatMap_cons, List.map_append, List.sum_append, List.map_cons, List.sum_cons, flat_map_sum f g l]
theorem all_sum {w : World} (M : Nat) : ∀ {m : Nat} {v : Value} {l : List St}, StsAt w m v l → m ≤ M → ((all m l).map fun s => 1 + exW M s.e).sum ≤ stsW m l
  | 0, _, _, h, _ => False.elim h
  | m + 1, v, l, h, hk => by
    obtain ⟨a, b, off, cap, _, _, _, h9⟩ := h
    have each : ∀ s ∈ l, ((within (all m) s).map fun s => 1 + exW M s.e).sum ≤ s.name.size + 3 + exW m s.e + stsW m s.a + stsW m s.b := fun s hs => by
      obtain ⟨i, hi, rfl⟩ := List.mem_iff_getElem.1 hs
      obtain ⟨_, _, e0, e1, e2, e3, va, vb, _, _, _, _, _, _, _, _, hx, ha, hb⟩ := h9 i _ (List.getElem?_eq_getElem hi)
      have k1 := all_sum M ha (by omega)
      have k2 := all_sum M hb (by omega)
      have k3 := exW_mono hx M (by omega)
      unfold within
      simp only [List.map_append, List.map_cons, List.map_nil, List.sum_append, List.sum_cons, List.sum_nil]
      omega
    have hs := sum_mono each
    have e : ((all (m + 1) l).map fun s => 1 + exW M s.e).sum = (l.map fun s => ((within (all m) s).map fun s => 1 + exW M s.e).sum).sum := flat_map_sum _ _ _
    rw [e]
    simp only [stsW]
    omega
theorem len_sum {α : Type} {f : α → Nat} : ∀ (l : List α), (∀ x, 1 ≤ f x) → l.length ≤ (l.map f).sum
  | [], _ => Nat.le_refl _
  | x :: l, h => by
    have h0 := h x
    have h1 := len_sum l h
    simp only [List.map_cons, List.sum_cons, List.length_cons]
    omega
theorem all_len {w : World} {m : Nat} {v : Value} {l : List St} (h : StsAt w m v l) : (all m l).length ≤ stsW m l :=
  Nat.le_trans (len_sum _ (fun x => by omega)) (all_sum m h (Nat.le_refl _))
theorem flat_all {w : World} {m : Nat} {v : Value} {l : List St} {β : Type} {f : St → List β} (h : StsAt w m v l) (hf : ∀ s, (f s).length ≤ 1 + exW m s.e) : ((all m l).flatMap f).length ≤ stsW m l :=
  Nat.le_trans (flat_sum fun s _ => hf s) (all_sum m h (Nat.le_refl _))
theorem flat_one {α β : Type} {f : α → List β} {l : List α} (h : ∀ x, (f x).length ≤ 1) : (l.flatMap f).length ≤ l.length := by
  induction l with
  | nil => exact Nat.le_refl _
  | cons x l ih =>
    have := h x
    simp only [List.flatMap_cons, List.length_append, List.length_cons]
    omega
theorem upto_sum {α : Type} {l : List α} {f : Nat → α → List Dg} {g : α → Nat} (h : ∀ i x, l[i]? = some x → (f i x).length ≤ g x) : (upto (atD l f) l.length).length ≤ (l.map g).sum := by
  have key : ∀ n, n ≤ l.length → (upto (atD l f) n).length ≤ ((l.take n).map g).sum := by
    intro n
    induction n with
    | zero => intro _; simp [upto_zero]
    | succ n ih =>
      intro hn
      have h0 := ih (by omega)
      have h1 := h n _ (List.getElem?_eq_getElem (show n < l.length by omega))
      rw [upto_succ, List.length_append, atD_some (List.getElem?_eq_getElem (show n < l.length by omega)), List.take_add_one, List.getElem?_eq_getElem (show n < l.length by omega)]
      simp only [List.map_append, List.sum_append, Option.toList_some, List.map_cons, List.map_nil, List.sum_cons, List.sum_nil]
      omega
  have := key l.length (Nat.le_refl _)
  rwa [List.take_length] at this
theorem upto_n {α : Type} {l : List α} {f : Nat → α → List Dg} (c : Nat) (h : ∀ i x, l[i]? = some x → (f i x).length ≤ c) (n : Nat) : (upto (atD l f) n).length ≤ n * c := by
  induction n with
  | zero => simp [upto_zero]
  | succ n ih =>
    rw [upto_succ, List.length_append, Nat.succ_mul]
    have : (atD l f n).length ≤ c := by
      unfold atD
      split
      · rename_i x hx; exact h n x hx
      · simp
    omega
theorem twA_len (fn : ByteArray) (l : List ByteArray) : (twA fn l).length ≤ l.length := by
  have := upto_n (l := l) (f := fun i s => if inB (l.take i) s = true then [(⟨2, fn, s⟩ : Dg)] else []) 1 (fun i x _ => by split <;> simp) l.length
  unfold twA
  omega
theorem rC_len (x : Mo) (known : List Mo) (k : Nat) (fn : ByteArray) (y : Ex) : (rC x known k fn y).length ≤ 1 := by
  rw [rC_clE]; unfold clE; split <;> simp
theorem clE_len (x : Mo) (known : List Mo) (k : Nat) (fn : ByteArray) (y : Ex) : (clE x known k fn y).length ≤ 1 := by
  unfold clE; split <;> simp
theorem strs_len (l : List ByteArray) : l.length ≤ strsW l := by
  have := len_sum (f := fun s : ByteArray => s.size + 1) l (fun x => by omega)
  unfold strsW; omega
theorem vas_len (l : List Va) : l.length ≤ vasW l := by
  have := len_sum (f := fun s : Va => s.name.size + s.level.size + 3) l (fun x => by omega)
  unfold vasW; omega
theorem fus_len (m : Nat) (l : List Fu) : l.length ≤ fusW m l := by
  have := len_sum (f := fun s : Fu => s.name.size + 2 + strsW s.params + stsW m s.body + exW m s.result) l (fun x => by omega)
  unfold fusW; omega
theorem fu_le {m : Nat} {f : Fu} : ∀ {l : List Fu}, f ∈ l → stsW m f.body + exW m f.result + strsW f.params ≤ fusW m l
  | g :: l, h => by
    rcases List.mem_cons.1 h with rfl | h
    · unfold fusW; simp only [List.map_cons, List.sum_cons]; omega
    · have := fu_le (m := m) h
      unfold fusW at this ⊢; simp only [List.map_cons, List.sum_cons]; omega
theorem fus_body {w : World} {m : Nat} {v : Value} {l : List Fu} (h : FusAt w m v l) {f : Fu} (hf : f ∈ l) : ∃ vb, StsAt w m vb f.body := by
  obtain ⟨a, b, off, cap, _, _, _, h9⟩ := h
  obtain ⟨i, hi, rfl⟩ := List.mem_iff_getElem.1 hf
  obtain ⟨_, vp, vb, e0, e1, e2, e3, _, _, _, _, _, _, _, _, hb, _⟩ := h9 i _ (List.getElem?_eq_getElem hi)
  exact ⟨vb, hb⟩
theorem fcalls_len {w : World} {m : Nat} {vb : Value} {f : Fu} (h : StsAt w m vb f.body) : (fcalls m f).length ≤ stsW m f.body + exW m f.result := by
  have h1 := flat_all (f := fun s => pcalls m s.e) h (fun s => by have := pcalls_len m s.e; omega)
  have h2 := pcalls_len m f.result
  unfold fcalls
  rw [List.length_append]
  omega
theorem rcalls_len {w : World} {m : Nat} {vb : Value} {f : Fu} (h : StsAt w m vb f.body) : (calls m f.result ++ (all m f.body).flatMap fun s => calls m s.e).length ≤ stsW m f.body + exW m f.result := by
  have h1 := flat_all (f := fun s => calls m s.e) h (fun s => by have := calls_len m s.e; omega)
  have h2 := calls_len m f.result
  rw [List.length_append]
  omega
theorem prL_len {w : World} {m : Nat} {v : Value} {x : Mo} (names : List ByteArray) (known : List Mo) (h : MoAt w m v x) (hw : moW m x ≤ 1048576) : (prL names x known m).length ≤ 16777216 := by
  obtain ⟨vi, vv, vf, rfl, _, hI, hV, hF⟩ := h
  have a1 := strs_len x.imports
  have a2 := vas_len x.vars
  have a3 := fus_len m x.funs
  have b1 : (imD x known).length ≤ x.imports.length * 1 := upto_n 1 (fun i s _ => by split <;> simp) _
  have b2 := twA_len ⟨#[]⟩ x.imports
  have b3 := twA_len ⟨#[]⟩ (x.vars.map (·.name))
  have b4 := twA_len ⟨#[]⟩ (x.funs.map (·.name))
  rw [List.length_map] at b3 b4
  have b5 : (x.funs.flatMap fun f => twA f.name f.params).length ≤ fusW m x.funs := by
    refine Nat.le_trans (flat_sum (g := fun s : Fu => s.name.size + 2 + strsW s.params + stsW m s.body + exW m s.result) (fun f _ => ?_)) (Nat.le_succ _)
    have := twA_len f.name f.params
    have := strs_len f.params
    omega
  have b6 : (x.vars.flatMap fun v => lev names ⟨#[]⟩ v.level).length ≤ x.vars.length := flat_one fun v => lev_len _ _ _
  have b7 : (x.funs.flatMap fun f => (all m f.body).flatMap (levS names f.name)).length ≤ fusW m x.funs := by
    refine Nat.le_trans (flat_sum (g := fun s : Fu => s.name.size + 2 + strsW s.params + stsW m s.body + exW m s.result) (fun f hf => ?_)) (Nat.le_succ _)
    obtain ⟨vb, hb⟩ := fus_body hF hf
    have := flat_all (f := levS names f.name) hb (fun s => by have := levS_len names f.name s; omega)
    omega
  have b8 : (clD x known m).length ≤ fusW m x.funs := by
    refine Nat.le_trans (upto_sum (g := fun s : Fu => s.name.size + 2 + strsW s.params + stsW m s.body + exW m s.result) (fun k f hf => ?_)) (Nat.le_succ _)
    obtain ⟨vb, hb⟩ := fus_body hF (List.mem_of_getElem? hf)
    have h1 := fcalls_len hb
    have h2 : ((fcalls m f).flatMap (clE x known k f.name)).length ≤ (fcalls m f).length := flat_one fun y => clE_len _ _ _ _ _
    omega
  unfold moW at hw
  unfold prL twD lvD
  simp only [List.flatten_cons, List.flatten_nil, List.length_append, List.append_nil]
  omega
theorem rL_len {w : World} {m : Nat} {v : Value} {x : Mo} (names : List ByteArray) (known : List Mo) (h : MoAt w m v x) (hw : moW m x ≤ 1048576) (hE : Lat.moE m x = 0) : (rIs x known).length + (rVs names x).length + (rFs names x known m).length < 16777216 := by
  have hL : x.imports.length ≤ 8 ∧ x.vars.length ≤ 8 ∧ x.funs.length ≤ 8 := by
    unfold Lat.moE at hE
    by_cases h8 : 8 < x.imports.length ∨ 8 < x.vars.length ∨ 8 < x.funs.length
    · rw [if_pos h8] at hE; cases hE
    · omega
  obtain ⟨vi, vv, vf, rfl, _, hI, hV, hF⟩ := h
  have b1 : (rIs x known).length ≤ x.imports.length * 2 := upto_n 2 (fun i s _ => by
    unfold rI
    rw [List.length_append]
    have h1 : (if (!(known.any fun y => sameB y.name s) || sameB s x.name) = true then [(⟨1, ⟨#[]⟩, s⟩ : Dg)] else []).length ≤ 1 := by split <;> simp
    have h2 : (if inB (x.imports.take i) s = true then [(⟨2, ⟨#[]⟩, s⟩ : Dg)] else []).length ≤ 1 := by split <;> simp
    omega) _
  have b2 : (rVs names x).length ≤ x.vars.length * 9 := upto_n 9 (fun i v hv => by
    unfold rV
    rw [List.length_append]
    have h1 := lev_len names ⟨#[]⟩ v.level
    have h2 := upto_n (l := x.vars) (f := fun _ u => if sameB u.name v.name = true then [(⟨2, ⟨#[]⟩, v.name⟩ : Dg)] else []) 1 (fun i u _ => by split <;> simp) i
    have h3 := (List.getElem?_eq_some_iff.1 hv).1
    omega) _
  have b3 : (rFs names x known m).length ≤ (x.funs.map fun s : Fu => 8 + 2 * (s.name.size + 2 + strsW s.params + stsW m s.body + exW m s.result)).sum := upto_sum (fun k f hf => by
    obtain ⟨vb, hb⟩ := fus_body hF (List.mem_of_getElem? hf)
    have h1 := upto_n (l := x.funs) (f := fun _ g => if sameB g.name f.name = true then [(⟨2, ⟨#[]⟩, f.name⟩ : Dg)] else []) 1 (fun i u _ => by split <;> simp) k
    have h2 := (List.getElem?_eq_some_iff.1 hf).1
    have h3 := twA_len f.name f.params
    have h4 := strs_len f.params
    have h5 := flat_all (f := levS names f.name) hb (fun s => by have := levS_len names f.name s; omega)
    have h6 := rcalls_len hb
    have h7 : (rF9 x known m k f).length ≤ (calls m f.result ++ (all m f.body).flatMap fun s => calls m s.e).length := flat_one fun y => rC_len _ _ _ _ _
    simp only [List.length_append, rF6, rF8] at h6 h7 ⊢
    omega)
  have b4 : ∀ l : List Fu, (l.map fun s : Fu => 8 + 2 * (s.name.size + 2 + strsW s.params + stsW m s.body + exW m s.result)).sum ≤ 8 * l.length + 2 * fusW m l := by
    intro l
    induction l with
    | nil => simp
    | cons f l ih => unfold fusW at ih ⊢; simp only [List.map_cons, List.sum_cons, List.length_cons] at ih ⊢; omega
  have b5 := b4 x.funs
  unfold moW at hw
  omega
theorem rC_all {w : World} {m : Nat} {v : Value} {x : Mo} (h : MoAt w m v x) (hw : moW m x ≤ 1048576) : ∀ f ∈ x.funs, (all m f.body).length ≤ 16777216 ∧ (calls m f.result ++ (all m f.body).flatMap fun s => calls m s.e).length ≤ 16777216 := fun f hf => by
  obtain ⟨vi, vv, vf, rfl, _, hI, hV, hF⟩ := h
  obtain ⟨vb, hb⟩ := fus_body hF hf
  have h1 := all_len hb
  have h2 := rcalls_len hb
  have h3 := fu_le (m := m) hf
  unfold moW at hw
  omega
end Nm
end Go.Proofs.YtholefgckcoklaaGreatDoor
