/- Least labels, plain: what rounds keep, and what stands when none goes up. -/
import Derived.Test.YtholefgckcoklaaZA
namespace Go.Proofs.Ytholefgckcoklaa
namespace Sv
variable {Z : Nat → Nat → Bool} {N n : Nat} {S : Nat → Nat}

/-- All that comes from where the bits say is below. -/
def Closed (Z : Nat → Nat → Bool) (n : Nat) (S : Nat → Nat) (U : Nat → Nat × Nat) : Prop := ∀ t f, t < n → f < n → (S t).testBit f = true → le Z (U f) (U t) = true
/-- From V one has come to V'; r: something went up. -/
structure Rd (Z : Nat → Nat → Bool) (N n : Nat) (S : Nat → Nat) (V V' : Nat → Nat × Nat) (r : Bool) : Prop where
  ok : Oks N n V'
  ge : Les Z n V V'
  same : r = false → V' = V
  less : r = true → left Z N n V' < left Z N n V
  least : ∀ U, Oks N n U → Closed Z n S U → Les Z n V U → Les Z n V' U
theorem Rd.refl (J : Lat.Joins Z N) {V : Nat → Nat × Nat} (h : Oks N n V) : Rd Z N n S V V false := ⟨h, les_refl J h, fun _ => rfl, (fun e => by cases e), fun _ _ _ h => h⟩
theorem Rd.up (J : Lat.Joins Z N) {V V' : Nat → Nat × Nat} {r : Bool} (hV : Oks N n V) (h : Rd Z N n S V V' r) {k m : Nat} (hk : k < n) (hm : m < n) (hb : (S k).testBit m = true) (hne : le Z (V' m) (V' k) = false) : Rd Z N n S V (up Z N V' k (V' m)) true := by
  have ok' := up_ok J h.ok hk (h.ok m hm)
  refine ⟨ok', les_trans J hV h.ok ok' h.ge (up_ge J h.ok hk (h.ok m hm)), (fun e => by cases e), fun _ => ?_, fun U hU hc hVU => ?_⟩
  · have h1 := left_lt J h.ok hk (h.ok m hm) hne
    have h2 := left_le J hV h.ok h.ge
    omega
  · have h1 := h.least U hU hc hVU
    exact up_le J h.ok hU hk (h.ok m hm) h1 (le_trans J (h.ok m hm) (hU m hm) (hU k hk) (h1 m hm) (hc k m hk hm hb))
/-- What a round leaves. -/
structure Settled (Z : Nat → Nat → Bool) (N n : Nat) (S : Nat → Nat) (V V' : Nat → Nat × Nat) : Prop where
  ok : Oks N n V'
  ge : Les Z n V V'
  closed : Closed Z n S V'
  least : ∀ U, Oks N n U → Closed Z n S U → Les Z n V U → Les Z n V' U

/-- What stands behind some constraints. -/
structure Fed (Z : Nat → Nat → Bool) (N n : Nat) (cs : List Co) (V : Nat → Nat × Nat) (S : Nat → Nat) : Prop where
  ok : Oks N n V
  has : ∀ c ∈ cs, le Z c.lab (V c.to.toNat) = true
  least : ∀ U, Oks N n U → Sol Z cs U → Les Z n V U
  bit : ∀ t j, (S t).testBit j = true ↔ ∃ c ∈ cs, c.to.toNat = t ∧ (j : Int) ∈ c.fr
theorem Fed.nil (M : Lat.Joins (Lat.tr Z) N) (hN : 0 < N) : Fed Z N n [] (fun _ => (0, Lat.lowN Z N)) (fun _ => 0) := by
  obtain ⟨h1, h2⟩ := Lat.low_spec M hN
  refine ⟨fun v _ => ⟨by show (0 : Nat) < 16; omega, h1⟩, fun c hc => by simp at hc, fun U hU _ v hv => ?_, fun t j => by simp⟩
  unfold le
  rw [sub_zero, h2 _ (hU v hv).2]
  rfl
theorem Fed.more (J : Lat.Joins Z N) {cs : List Co} {V : Nat → Nat × Nat} {S S' : Nat → Nat} (h : Fed Z N n cs V S) {c : Co} (hn : ∀ d ∈ cs, coB N n d = true) (hc : coB N n c = true)
    (hS : ∀ i j, (S' i).testBit j = ((S i).testBit j || (decide (i = c.to.toNat) && c.fr.contains (j : Int)))) : Fed Z N n (cs ++ [c]) (up Z N V c.to.toNat c.lab) S' := by
  obtain ⟨_, ht, hl⟩ := coB_spec hc
  have ht' := (varB_spec ht).2.1
  have hl' := (labB_ok hl).1
  have ok' := up_ok J h.ok ht' hl'
  refine ⟨ok', fun d hd => ?_, fun U hU hs => ?_, fun t j => ?_⟩
  · rcases List.mem_append.1 hd with hd | hd
    · obtain ⟨_, dt, dl⟩ := coB_spec (hn d hd)
      have dt' := (varB_spec dt).2.1
      exact le_trans J (labB_ok dl).1 (h.ok _ dt') (ok' _ dt') (h.has d hd) (up_ge J h.ok ht' hl' _ dt')
    · rw [List.mem_singleton] at hd
      subst hd
      exact up_has J h.ok ht' hl'
  · exact up_le J h.ok hU ht' hl' (h.least U hU hs.less) (hs c (by simp)).1
  · rw [hS, Bool.or_eq_true, h.bit, Bool.and_eq_true, decide_eq_true_eq, List.contains_iff_mem]
    constructor
    · rintro (⟨d, hd, h1, h2⟩ | ⟨h1, h2⟩)
      · exact ⟨d, List.mem_append_left _ hd, h1, h2⟩
      · exact ⟨c, by simp, h1.symm, h2⟩
    · rintro ⟨d, hd, h1, h2⟩
      rcases List.mem_append.1 hd with hd | hd
      · exact Or.inl ⟨d, hd, h1, h2⟩
      · rw [List.mem_singleton] at hd
        subst hd
        exact Or.inr ⟨h1.symm, h2⟩
theorem Fed.done (J : Lat.Joins Z N) {cs : List Co} {V V' : Nat → Nat × Nat} {S : Nat → Nat} (h : Fed Z N n cs V S) (hc : ∀ c ∈ cs, coB N n c = true) (k : Settled Z N n S V V') : Least Z N n cs V' := by
  refine ⟨k.ok, fun c hcm => ?_, fun U hU hs => k.least U hU (fun t f ht hf hb => ?_) (h.least U hU hs)⟩
  · obtain ⟨hf, ht, hl⟩ := coB_spec (hc c hcm)
    have ht' := (varB_spec ht).2.1
    refine ⟨le_trans J (labB_ok hl).1 (h.ok _ ht') (k.ok _ ht') (h.has c hcm) (k.ge _ ht'), fun f hfm => ?_⟩
    obtain ⟨_, hv, he⟩ := varB_spec (hf f hfm)
    exact k.closed _ _ ht' hv ((h.bit _ _).2 ⟨c, hcm, rfl, by rw [← he]; exact hfm⟩)
  · obtain ⟨c, hcm, h1, h2⟩ := (h.bit t f).1 hb
    have := (hs c hcm).2 _ h2
    rwa [h1, Int.toNat_natCast] at this
end Sv
end Go.Proofs.Ytholefgckcoklaa
