/- Least labels, plain: labels (bits and a level), when one is below another, joins; what a list of constraints asks; how far labels can go up. -/
import Derived.Test.YtholefgckcoklaaLatM
namespace Go.Proofs.Ytholefgckcoklaa
namespace Sv

def sub (a b : Nat) : Bool := (a &&& b) == a
def le (Z : Nat → Nat → Bool) (x y : Nat × Nat) : Bool := sub x.1 y.1 && Z x.2 y.2
def Ok (N : Nat) (x : Nat × Nat) : Prop := x.1 < 16 ∧ x.2 < N
def join (Z : Nat → Nat → Bool) (N : Nat) (x y : Nat × Nat) : Nat × Nat := (x.1 ||| y.1, Lat.joinN Z N x.2 y.2)

theorem sub_iff (a b : Nat) : sub a b = true ↔ ∀ i, a.testBit i = true → b.testBit i = true := by
  unfold sub
  rw [beq_iff_eq]
  constructor
  · intro h i hi
    rw [← h, Nat.testBit_and, Bool.and_eq_true] at hi
    exact hi.2
  · intro h
    refine Nat.eq_of_testBit_eq fun i => ?_
    rw [Nat.testBit_and]
    cases ha : a.testBit i
    · rfl
    · rw [h i ha]; rfl
theorem sub_refl (a : Nat) : sub a a = true := (sub_iff a a).2 fun _ h => h
theorem sub_trans {a b c : Nat} (h : sub a b = true) (k : sub b c = true) : sub a c = true := (sub_iff a c).2 fun i hi => (sub_iff b c).1 k i ((sub_iff a b).1 h i hi)
theorem sub_anti {a b : Nat} (h : sub a b = true) (k : sub b a = true) : a = b := by
  unfold sub at h k
  rw [beq_iff_eq] at h k
  rw [← h, Nat.and_comm, k]
theorem sub_left (a b : Nat) : sub a (a ||| b) = true := (sub_iff _ _).2 fun i hi => by rw [Nat.testBit_or, hi]; rfl
theorem sub_right (a b : Nat) : sub b (a ||| b) = true := (sub_iff _ _).2 fun i hi => by rw [Nat.testBit_or, hi, Bool.or_true]
theorem sub_both {a b c : Nat} (h : sub a c = true) (k : sub b c = true) : sub (a ||| b) c = true := (sub_iff _ _).2 fun i hi => by
  rw [Nat.testBit_or, Bool.or_eq_true] at hi
  rcases hi with hi | hi
  · exact (sub_iff _ _).1 h i hi
  · exact (sub_iff _ _).1 k i hi
theorem or_lt {a b : Nat} (h : a < 16) (k : b < 16) : a ||| b < 16 := Nat.or_lt_two_pow (n := 4) h k
theorem sub_zero (a : Nat) : sub 0 a = true := (sub_iff _ _).2 fun i hi => by simp at hi

variable {Z : Nat → Nat → Bool} {N : Nat}
theorem le_refl (J : Lat.Joins Z N) {x : Nat × Nat} (h : Ok N x) : le Z x x = true := by
  unfold le; rw [sub_refl, J.refl _ h.2]; rfl
theorem le_trans (J : Lat.Joins Z N) {x y z : Nat × Nat} (hx : Ok N x) (hy : Ok N y) (hz : Ok N z) (h : le Z x y = true) (k : le Z y z = true) : le Z x z = true := by
  unfold le at *
  rw [Bool.and_eq_true] at *
  exact ⟨sub_trans h.1 k.1, J.trans _ _ _ hx.2 hy.2 hz.2 h.2 k.2⟩
theorem le_anti (J : Lat.Joins Z N) {x y : Nat × Nat} (hx : Ok N x) (hy : Ok N y) (h : le Z x y = true) (k : le Z y x = true) : x = y := by
  unfold le at *
  rw [Bool.and_eq_true] at *
  exact Prod.ext (sub_anti h.1 k.1) (J.anti _ _ hx.2 hy.2 h.2 k.2)
theorem join_ok (J : Lat.Joins Z N) {x y : Nat × Nat} (hx : Ok N x) (hy : Ok N y) : Ok N (join Z N x y) := ⟨or_lt hx.1 hy.1, J.lt hx.2 hy.2⟩
theorem join_left (J : Lat.Joins Z N) {x y : Nat × Nat} (hx : Ok N x) (hy : Ok N y) : le Z x (join Z N x y) = true := by
  unfold le; rw [Bool.and_eq_true]; exact ⟨sub_left _ _, (J.spec hx.2 hy.2).left⟩
theorem join_right (J : Lat.Joins Z N) {x y : Nat × Nat} (hx : Ok N x) (hy : Ok N y) : le Z y (join Z N x y) = true := by
  unfold le; rw [Bool.and_eq_true]; exact ⟨sub_right _ _, (J.spec hx.2 hy.2).right⟩
theorem join_least (J : Lat.Joins Z N) {x y z : Nat × Nat} (hx : Ok N x) (hy : Ok N y) (hz : Ok N z) (h : le Z x z = true) (k : le Z y z = true) : le Z (join Z N x y) z = true := by
  unfold le at *
  rw [Bool.and_eq_true] at *
  exact ⟨sub_both h.1 k.1, (J.spec hx.2 hy.2).least _ hz.2 h.2 k.2⟩
/-- One is below the other just if the other is their join. -/
theorem le_join (J : Lat.Joins Z N) {x y : Nat × Nat} (hx : Ok N x) (hy : Ok N y) : le Z x y = true ↔ join Z N x y = y := by
  constructor
  · intro h
    exact le_anti J (join_ok J hx hy) hy (join_least J hx hy hy h (le_refl J hy)) (join_right J hx hy)
  · intro h
    have := join_left J hx hy
    rwa [h] at this

/-! ### How far labels can go up -/
theorem count_lt {α : Type} {p q : α → Bool} : ∀ {l : List α}, (∀ x ∈ l, p x = true → q x = true) → (∃ x ∈ l, q x = true ∧ p x = false) → l.countP p < l.countP q := by
  intro l
  induction l with
  | nil => rintro _ ⟨x, hx, _⟩; simp at hx
  | cons a l ih =>
    intro h1 h2
    have hle : l.countP p ≤ l.countP q := List.countP_mono_left (fun x hx => h1 x (by simp [hx]))
    rw [List.countP_cons, List.countP_cons]
    by_cases hd : q a = true ∧ p a = false
    · rw [if_pos hd.1, if_neg (by rw [hd.2]; simp)]; omega
    · have hlt : l.countP p < l.countP q := ih (fun x hx => h1 x (by simp [hx])) (by
        obtain ⟨x, hx, k1, k2⟩ := h2
        rcases List.mem_cons.1 hx with rfl | hx
        · exact absurd ⟨k1, k2⟩ hd
        · exact ⟨x, hx, k1, k2⟩)
      have := h1 a (by simp)
      cases hp : p a
      · cases hq : q a <;> simp <;> omega
      · rw [this hp]; simp; omega
/-- How many labels are below a label. -/
def high (Z : Nat → Nat → Bool) (N : Nat) (x : Nat × Nat) : Nat := (List.range (16 * N)).countP fun c => le Z (c / N, c % N) x
theorem high_le (Z : Nat → Nat → Bool) (N : Nat) (x : Nat × Nat) : high Z N x ≤ 16 * N := by
  unfold high
  have := List.countP_le_length (p := fun c => le Z (c / N, c % N) x) (l := List.range (16 * N))
  rwa [List.length_range] at this
theorem high_ok {c : Nat} (h : c < 16 * N) : Ok N (c / N, c % N) := by
  have hN : 0 < N := by
    rcases Nat.eq_zero_or_pos N with e | e
    · subst e; omega
    · exact e
  exact ⟨Nat.div_lt_of_lt_mul (by rw [Nat.mul_comm]; exact h), Nat.mod_lt _ hN⟩
theorem high_mono (J : Lat.Joins Z N) {x y : Nat × Nat} (hx : Ok N x) (hy : Ok N y) (h : le Z x y = true) : high Z N x ≤ high Z N y :=
  List.countP_mono_left (fun _ hc k => le_trans J (high_ok (List.mem_range.1 hc)) hx hy k h)
theorem high_lt (J : Lat.Joins Z N) {x y : Nat × Nat} (hx : Ok N x) (hy : Ok N y) (h : le Z x y = true) (hne : le Z y x = false) : high Z N x < high Z N y := by
  refine count_lt (fun c hc k => le_trans J (high_ok (List.mem_range.1 hc)) hx hy k h) ⟨y.1 * N + y.2, ?_, ?_⟩
  · rw [List.mem_range]
    have h1 : y.1 * N ≤ 15 * N := Nat.mul_le_mul_right N (by have := hy.1; omega)
    have := hy.2
    omega
  · have hN : 0 < N := by have := hy.2; omega
    have e1 : (y.1 * N + y.2) / N = y.1 := by rw [Nat.mul_comm, Nat.mul_add_div hN, Nat.div_eq_of_lt hy.2, Nat.add_zero]
    have e2 : (y.1 * N + y.2) % N = y.2 := by rw [Nat.mul_comm, Nat.mul_add_mod, Nat.mod_eq_of_lt hy.2]
    rw [e1, e2]
    exact ⟨le_refl J hy, hne⟩
def sumN (f : Nat → Nat) : Nat → Nat
  | 0 => 0
  | n + 1 => sumN f n + f n
theorem sumN_le {f g : Nat → Nat} : ∀ {n : Nat}, (∀ v, v < n → f v ≤ g v) → sumN f n ≤ sumN g n
  | 0, _ => Nat.le_refl _
  | n + 1, h => Nat.add_le_add (sumN_le fun v hv => h v (by omega)) (h n (by omega))
theorem sumN_lt {f g : Nat → Nat} : ∀ {n : Nat}, (∀ v, v < n → f v ≤ g v) → (∃ v, v < n ∧ f v < g v) → sumN f n < sumN g n
  | 0, _, ⟨v, hv, _⟩ => by omega
  | n + 1, h, ⟨v, hv, hlt⟩ => by
    have h1 := h n (by omega)
    have h2 : sumN f n ≤ sumN g n := sumN_le fun v hv => h v (by omega)
    show sumN f n + f n < sumN g n + g n
    by_cases e : v = n
    · subst e; omega
    · have := sumN_lt (n := n) (fun v hv => h v (by omega)) ⟨v, by omega, hlt⟩
      omega
/-- What is left to go up. -/
def left (Z : Nat → Nat → Bool) (N n : Nat) (V : Nat → Nat × Nat) : Nat := sumN (fun v => 16 * N - high Z N (V v)) n

/-! ### Constraints -/
structure Co where
  to : Int
  fr : List Int
  mask : Int
  level : Int
def Co.lab (c : Co) : Nat × Nat := (c.mask.toNat, c.level.toNat)
def varB (n : Nat) (v : Int) : Bool := decide (0 ≤ v) && decide (v < n)
def labB (N : Nat) (m l : Int) : Bool := decide (0 ≤ m) && decide (m ≤ 15) && decide (0 ≤ l) && decide (l < N)
def coB (N n : Nat) (c : Co) : Bool := c.fr.all (varB n) && (varB n c.to && labB N c.mask c.level)
theorem varB_spec {n : Nat} {v : Int} (h : varB n v = true) : 0 ≤ v ∧ v.toNat < n ∧ v = (v.toNat : Int) := by
  unfold varB at h
  simp only [Bool.and_eq_true, decide_eq_true_eq] at h
  omega
theorem labB_ok {N : Nat} {m l : Int} (h : labB N m l = true) : Ok N (m.toNat, l.toNat) ∧ m = (m.toNat : Int) ∧ l = (l.toNat : Int) := by
  unfold labB at h
  simp only [Bool.and_eq_true, decide_eq_true_eq] at h
  exact ⟨⟨by show m.toNat < 16; omega, by show l.toNat < N; omega⟩, by omega, by omega⟩
theorem coB_spec {N n : Nat} {c : Co} (h : coB N n c = true) : (∀ f ∈ c.fr, varB n f = true) ∧ varB n c.to = true ∧ labB N c.mask c.level = true := by
  unfold coB at h
  simp only [Bool.and_eq_true] at h
  exact ⟨fun f hf => List.all_eq_true.1 h.1 f hf, h.2.1, h.2.2⟩
/-- Labels that make all constraints right. -/
def Sol (Z : Nat → Nat → Bool) (cs : List Co) (U : Nat → Nat × Nat) : Prop :=
  ∀ c ∈ cs, le Z c.lab (U c.to.toNat) = true ∧ ∀ f ∈ c.fr, le Z (U f.toNat) (U c.to.toNat) = true
def Oks (N n : Nat) (V : Nat → Nat × Nat) : Prop := ∀ v, v < n → Ok N (V v)
def Les (Z : Nat → Nat → Bool) (n : Nat) (V U : Nat → Nat × Nat) : Prop := ∀ v, v < n → le Z (V v) (U v) = true
/-- The least of them. -/
structure Least (Z : Nat → Nat → Bool) (N n : Nat) (cs : List Co) (V : Nat → Nat × Nat) : Prop where
  ok : Oks N n V
  sol : Sol Z cs V
  least : ∀ U, Oks N n U → Sol Z cs U → Les Z n V U
theorem Least.unique (J : Lat.Joins Z N) {n : Nat} {cs : List Co} {V U : Nat → Nat × Nat} (h : Least Z N n cs V) (k : Least Z N n cs U) : ∀ v, v < n → V v = U v :=
  fun v hv => le_anti J (h.ok v hv) (k.ok v hv) (h.least U k.ok k.sol v hv) (k.least V h.ok h.sol v hv)
theorem Sol.less {cs ds : List Co} {U : Nat → Nat × Nat} (h : Sol Z (cs ++ ds) U) : Sol Z cs U := fun c hc => h c (List.mem_append_left _ hc)
/-- With more constraints nothing is less. -/
theorem Least.more {n : Nat} {cs ds : List Co} {V U : Nat → Nat × Nat} (h : Least Z N n cs V) (k : Least Z N n (cs ++ ds) U) : Les Z n V U := h.least U k.ok k.sol.less

/-! ### Labels that go up -/
def put (V : Nat → Nat × Nat) (i : Nat) (x : Nat × Nat) : Nat → Nat × Nat := fun v => if v = i then x else V v
/-- What raise leaves. -/
def up (Z : Nat → Nat → Bool) (N : Nat) (V : Nat → Nat × Nat) (i : Nat) (a : Nat × Nat) : Nat → Nat × Nat := if le Z a (V i) then V else put V i (join Z N (V i) a)
theorem put_ok {n i : Nat} {V : Nat → Nat × Nat} {x : Nat × Nat} (h : Oks N n V) (hx : Ok N x) : Oks N n (put V i x) := fun v hv => by
  unfold put; split
  · exact hx
  · exact h v hv
theorem up_ok (J : Lat.Joins Z N) {n i : Nat} {V : Nat → Nat × Nat} {a : Nat × Nat} (h : Oks N n V) (hi : i < n) (ha : Ok N a) : Oks N n (up Z N V i a) := by
  unfold up; split
  · exact h
  · exact put_ok h (join_ok J (h i hi) ha)
theorem up_ge (J : Lat.Joins Z N) {n i : Nat} {V : Nat → Nat × Nat} {a : Nat × Nat} (h : Oks N n V) (hi : i < n) (ha : Ok N a) : Les Z n V (up Z N V i a) := fun v hv => by
  unfold up; split
  · exact le_refl J (h v hv)
  · unfold put; split
    · subst v; exact join_left J (h i hi) ha
    · exact le_refl J (h v hv)
theorem up_has (J : Lat.Joins Z N) {n i : Nat} {V : Nat → Nat × Nat} {a : Nat × Nat} (h : Oks N n V) (hi : i < n) (ha : Ok N a) : le Z a (up Z N V i a i) = true := by
  unfold up; split
  · assumption
  · unfold put; rw [if_pos rfl]; exact join_right J (h i hi) ha
theorem up_le (J : Lat.Joins Z N) {n i : Nat} {V U : Nat → Nat × Nat} {a : Nat × Nat} (h : Oks N n V) (hU : Oks N n U) (hi : i < n) (ha : Ok N a) (hVU : Les Z n V U) (haU : le Z a (U i) = true) : Les Z n (up Z N V i a) U := fun v hv => by
  unfold up; split
  · exact hVU v hv
  · unfold put; split
    · subst v; exact join_least J (h i hi) ha (hU i hi) (hVU i hi) haU
    · exact hVU v hv
theorem les_refl (J : Lat.Joins Z N) {n : Nat} {V : Nat → Nat × Nat} (h : Oks N n V) : Les Z n V V := fun v hv => le_refl J (h v hv)
theorem les_trans (J : Lat.Joins Z N) {n : Nat} {V U T : Nat → Nat × Nat} (hV : Oks N n V) (hU : Oks N n U) (hT : Oks N n T) (h : Les Z n V U) (k : Les Z n U T) : Les Z n V T := fun v hv => le_trans J (hV v hv) (hU v hv) (hT v hv) (h v hv) (k v hv)
theorem left_le (J : Lat.Joins Z N) {n : Nat} {V U : Nat → Nat × Nat} (hV : Oks N n V) (hU : Oks N n U) (h : Les Z n V U) : left Z N n U ≤ left Z N n V :=
  sumN_le fun v hv => by have := high_mono J (hV v hv) (hU v hv) (h v hv); omega
theorem left_lt (J : Lat.Joins Z N) {n i : Nat} {V : Nat → Nat × Nat} {a : Nat × Nat} (h : Oks N n V) (hi : i < n) (ha : Ok N a) (hne : le Z a (V i) = false) : left Z N n (up Z N V i a) < left Z N n V := by
  have hok := up_ok J h hi ha
  have hge := up_ge J h hi ha
  refine sumN_lt (fun v hv => ?_) ⟨i, hi, ?_⟩
  · have := high_mono J (h v hv) (hok v hv) (hge v hv); omega
  · have h1 := high_lt J (h i hi) (hok i hi) (hge i hi) (by
      cases hc : le Z (up Z N V i a i) (V i)
      · rfl
      · have := le_trans J ha (hok i hi) (h i hi) (up_has J h hi ha) hc
        rw [hne] at this; cases this)
    have h2 := high_le Z N (up Z N V i a i)
    omega

end Sv
end Go.Proofs.Ytholefgckcoklaa
