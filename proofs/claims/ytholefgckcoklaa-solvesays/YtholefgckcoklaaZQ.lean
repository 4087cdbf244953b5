/- Least labels, plain: what the document's answer comes to: from each variable all from which one comes to it, and the join of their labels. -/
import Derived.Test.YtholefgckcoklaaZP
namespace Go.Proofs.Ytholefgckcoklaa
namespace Sv
variable {Z : Nat → Nat → Bool} {N n : Nat} {cs : List Co}

theorem nodup_lt : ∀ {n : Nat} {l : List Nat}, l.Nodup → (∀ x ∈ l, x < n) → l.length ≤ n := by
  intro n
  induction n with
  | zero =>
    intro l _ h
    cases l with
    | nil => simp
    | cons x l => have := h x (by simp); omega
  | succ n ih =>
    intro l hd h
    by_cases hm : n ∈ l
    · have h1 := ih (l := l.erase n) (hd.erase n) (fun x hx => by
        have h2 := h x (List.mem_of_mem_erase hx)
        have h3 : x ≠ n := fun e => by subst e; exact (List.Nodup.not_mem_erase hd) hx
        omega)
      rw [List.length_erase_of_mem hm] at h1
      omega
    · have h1 := ih hd (fun x hx => by
        have h2 := h x hx
        have h3 : x ≠ n := fun e => by subst e; exact hm hx
        omega)
      omega

/-- Whoever comes to one that is in it is in it. -/
def Clo (cs : List Co) (T : Nat → Prop) : Prop := ∀ c ∈ cs, T c.to.toNat → ∀ g ∈ c.fr, T g.toNat
/-- Some of those from which one comes to v. -/
structure Fr (cs : List Co) (n v : Nat) (F : List Nat) : Prop where
  nodup : F.Nodup
  lt : ∀ u ∈ F, u < n
  mem : v ∈ F
  small : ∀ T : Nat → Prop, T v → Clo cs T → ∀ u ∈ F, T u
theorem Fr.start {v : Nat} (hv : v < n) : Fr cs n v [v] := ⟨by simp, by simpa using hv, by simp, fun T h _ u hu => by simp at hu; subst hu; exact h⟩
theorem Fr.push {v g : Nat} {F : List Nat} (h : Fr cs n v F) {c : Co} (hc : c ∈ cs) (ht : c.to.toNat ∈ F) (hg : (g : Int) ∈ c.fr) (hn : g < n) (hnot : g ∉ F) : Fr cs n v (F ++ [g]) := by
  refine ⟨?_, fun u hu => ?_, List.mem_append_left _ h.mem, fun T hT hc' u hu => ?_⟩
  · rw [List.nodup_append]
    exact ⟨h.nodup, by simp, fun a ha b hb => by simp at hb; subst hb; exact fun e => hnot (e ▸ ha)⟩
  · rcases List.mem_append.1 hu with hu | hu
    · exact h.lt u hu
    · simp at hu; subst hu; exact hn
  · rcases List.mem_append.1 hu with hu | hu
    · exact h.small T hT hc' u hu
    · simp at hu
      subst hu
      have := hc' c hc (h.small T hT hc' _ ht) _ hg
      rwa [Int.toNat_natCast] at this
theorem Fr.len {v : Nat} {F : List Nat} (h : Fr cs n v F) : F.length ≤ n := nodup_lt h.nodup h.lt
/-- All from which one comes to those of G are in F. -/
def Dn (cs : List Co) (G F : List Nat) : Prop := ∀ u ∈ G, ∀ c ∈ cs, c.to.toNat = u → ∀ g ∈ c.fr, g.toNat ∈ F
theorem Dn.clo {F : List Nat} (h : Dn cs F F) : Clo cs (fun u => u ∈ F) := fun c hc ht g hg => h _ ht c hc rfl g hg

/-- The join of the labels of all constraints whose variable is in F. -/
def xOf (Z : Nat → Nat → Bool) (N : Nat) (F : List Nat) : List Co → Nat × Nat → Nat × Nat
  | [], x => x
  | c :: cs, x => xOf Z N F cs (if F.contains c.to.toNat then join Z N x c.lab else x)
theorem xOf_snoc (F : List Nat) (c : Co) : ∀ (cs : List Co) (x : Nat × Nat), xOf Z N F (cs ++ [c]) x = if F.contains c.to.toNat then join Z N (xOf Z N F cs x) c.lab else xOf Z N F cs x
  | [], x => rfl
  | d :: cs, x => by show xOf Z N F (cs ++ [c]) _ = _; rw [xOf_snoc F c cs]; rfl
theorem xOf_spec (J : Lat.Joins Z N) (F : List Nat) : ∀ (cs : List Co) (x : Nat × Nat), (∀ c ∈ cs, Ok N c.lab) → Ok N x → Ok N (xOf Z N F cs x) ∧ le Z x (xOf Z N F cs x) = true ∧ (∀ c ∈ cs, c.to.toNat ∈ F → le Z c.lab (xOf Z N F cs x) = true) ∧
      ∀ y, Ok N y → le Z x y = true → (∀ c ∈ cs, c.to.toNat ∈ F → le Z c.lab y = true) → le Z (xOf Z N F cs x) y = true
  | [], x, _, hx => ⟨hx, le_refl J hx, fun c hc => by simp at hc, fun _ _ h _ => h⟩
  | d :: cs, x, h, hx => by
    have hd := h d (by simp)
    unfold xOf
    by_cases hm : d.to.toNat ∈ F
    · rw [if_pos (by simpa using hm)]
      have hj := join_ok J hx hd
      obtain ⟨h1, h2, h3, h4⟩ := xOf_spec J F cs (join Z N x d.lab) (fun c hc => h c (by simp [hc])) hj
      refine ⟨h1, le_trans J hx hj h1 (join_left J hx hd) h2, fun c hc hcF => ?_, fun y hy hxy hall => h4 y hy (join_least J hx hd hy hxy (hall d (by simp) hm)) (fun c hc => hall c (by simp [hc]))⟩
      rcases List.mem_cons.1 hc with rfl | hc
      · exact le_trans J hd hj h1 (join_right J hx hd) h2
      · exact h3 c hc hcF
    · rw [if_neg (by simpa using hm)]
      obtain ⟨h1, h2, h3, h4⟩ := xOf_spec J F cs x (fun c hc => h c (by simp [hc])) hx
      refine ⟨h1, h2, fun c hc hcF => ?_, fun y hy hxy hall => h4 y hy hxy (fun c hc => hall c (by simp [hc]))⟩
      rcases List.mem_cons.1 hc with rfl | hc
      · exact absurd hcF hm
      · exact h3 c hc hcF
/-- The document's answer is the least. -/
theorem ref_least (J : Lat.Joins Z N) (M : Lat.Joins (Lat.tr Z) N) (hN : 0 < N) (hc : ∀ c ∈ cs, coB N n c = true) (F : Nat → List Nat) (hF : ∀ v, v < n → Fr cs n v (F v) ∧ Dn cs (F v) (F v)) :
    Least Z N n cs (fun v => xOf Z N (F v) cs (0, Lat.lowN Z N)) := by
  obtain ⟨l1, l2⟩ := Lat.low_spec M hN
  have low_ok : Ok N (0, Lat.lowN Z N) := ⟨by show (0 : Nat) < 16; omega, l1⟩
  have low_le : ∀ y, Ok N y → le Z (0, Lat.lowN Z N) y = true := fun y hy => by unfold le; rw [sub_zero, l2 _ hy.2]; rfl
  have lab_ok : ∀ c ∈ cs, Ok N c.lab := fun c h => (labB_ok (coB_spec (hc c h)).2.2).1
  have sp := fun v => xOf_spec J (F v) cs (0, Lat.lowN Z N) lab_ok low_ok
  refine ⟨fun v _ => (sp v).1, fun c h => ?_, fun U hU hs v hv => (sp v).2.2.2 (U v) (hU v hv) (low_le _ (hU v hv)) (fun c h ht => ?_)⟩
  · obtain ⟨hf, ht, hl⟩ := coB_spec (hc c h)
    have ht' := (varB_spec ht).2.1
    refine ⟨(sp _).2.2.1 c h (hF _ ht').1.mem, fun f hfm => ?_⟩
    obtain ⟨_, hv, he⟩ := varB_spec (hf f hfm)
    refine (sp _).2.2.2 _ (sp _).1 (low_le _ (sp _).1) (fun d hd hdF => (sp _).2.2.1 d hd ?_)
    exact (hF _ hv).1.small (fun u => u ∈ F c.to.toNat) ((hF _ ht').2 _ (hF _ ht').1.mem c h rfl f hfm) (hF _ ht').2.clo _ hdF
  · obtain ⟨_, ht2, _⟩ := coB_spec (hc c h)
    have ht' := (varB_spec ht2).2.1
    refine le_trans J (lab_ok c h) (hU _ ht') (hU v hv) (hs c h).1 ?_
    refine ((hF v hv).1.small (fun u => u < n ∧ le Z (U u) (U v) = true) ⟨hv, le_refl J (hU v hv)⟩ (fun d hd hT g hg => ?_) _ ht).2
    obtain ⟨hdf, hdt, _⟩ := coB_spec (hc d hd)
    have hg' := (varB_spec (hdf g hg)).2.1
    exact ⟨hg', le_trans J (hU _ hg') (hU _ (varB_spec hdt).2.1) (hU v hv) ((hs d hd).2 g hg) hT.2⟩
end Sv
end Go.Proofs.Ytholefgckcoklaa
