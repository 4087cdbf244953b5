/- What is read weighs no more than the words that it was read from. -/
import Derived.Test.YtbncnkfogkhoeabGreatDoorZBD
import Derived.Test.YtbncnkfogkhoeabGreatDoorZAA
import Derived.Test.YtbncnkfogkhoeabGreatDoorZAK
import Derived.Test.YtbncnkfogkhoeabGreatDoorZAW
import Derived.Test.YtbncnkfogkhoeabGreatDoorZBB
namespace Go.Proofs.YtbncnkfogkhoeabGreatDoor
open Go.RowKit

namespace Rd
def T (r : List ByteArray) : Nat := (r.map fun w => w.size + 16).sum
theorem Le.nf {a b : Sr} (h : Le a b) (ha : a.f = false) : b.f = false := by
  cases hb : b.f
  · rfl
  · rw [h.1 hb] at ha; cases ha
theorem tk_w {st : Sr} (h : (tk st).f = false) : T (tk st).r + (pk st).size + 16 ≤ T st.r := by
  have h0 := (tk_lt st).1.nf h
  unfold tk at h ⊢
  split at h
  · cases h
  · rename_i hne
    rw [if_neg hne]
    obtain ⟨r, f⟩ := st
    simp only at h0 ⊢
    subst h0
    cases r with
    | nil => exact absurd rfl hne
    | cons a l =>
      show T l + a.size + 16 ≤ T (a :: l)
      unfold T
      simp only [List.map_cons, List.sum_cons]
      omega
theorem kw_w {l : List UInt8} {st : Sr} (h : (kw l st).f = false) : T (kw l st).r + 16 ≤ T st.r := by
  unfold kw at h ⊢
  split at h
  · rename_i hc
    rw [if_pos hc]
    have := tk_w h
    omega
  · cases h
theorem op_w {d : Nat} {st : Sr} (h : (op d st).f = false) : T (op d st).r + 16 ≤ T st.r := by
  have h1 := (kw_lt _ _).1.nf (show (kw [40] (mx d st)).f = false from h)
  have h2 := kw_w (show (kw [40] (mx d st)).f = false from h)
  unfold mx at h1 h2
  split at h1
  · cases h1
  · rename_i hd
    rw [if_neg hd] at h2
    show T (kw [40] (mx d st)).r + 16 ≤ _
    unfold mx
    rw [if_neg hd]
    exact h2
theorem nmP_w {st : Sr} (h : (nmP st).2.f = false) : T (nmP st).2.r + (nmP st).1.size + 16 ≤ T st.r := by
  have h1 := (tk_lt _).1.nf (show (tk (nm st)).f = false from h)
  have h2 := tk_w (show (tk (nm st)).f = false from h)
  unfold nm at h1 h2
  split at h1
  · rename_i hp
    rw [if_pos hp] at h2
    show T (tk (nm st)).r + (pk (nm st)).size + 16 ≤ _
    unfold nm
    rw [if_pos hp]
    exact h2
  · cases h1
theorem nu_w {st : Sr} (h : (tk (nu st)).f = false) : T (tk (nu st)).r + 16 ≤ T st.r := by
  have h1 := (tk_lt _).1.nf h
  have h2 := tk_w h
  have h3 : T (nu st).r = T st.r := by unfold nu; split <;> rfl
  omega
theorem loop_w {α : Type} {c : Sr → Bool} {g : Sr → α × Sr} {W : α → Nat} {k : Nat} (hl : ∀ st, Le (g st).2 st) (hg : ∀ st, c st = true → Ok k st → (g st).2.f = false → W (g st).1 + T (g st).2.r ≤ T st.r) :
    ∀ (n : Nat) (st : Sr), Ok k st → (loop c g n st).2.f = false → ((loop c g n st).1.map W).sum + T (loop c g n st).2.r ≤ T st.r
  | 0, st, _, _ => by simp [loop]
  | n + 1, st, hk, h => by
    cases hc : c st
    · rw [loop_stop hc]; simp
    · rw [loop_step hc] at h ⊢
      simp only at h ⊢
      have h1 := loop_w hl hg n (g st).2 (hk.le (hl st)) h
      have h2 := hg st hc hk ((loop_le hl n _).nf h)
      simp only [List.map_cons, List.sum_cons]
      omega
theorem cE_w {pe : Sr → Ex × Sr} {n d m : Nat} {st : Sr} (hl : ∀ st, Le (pe st).2 st) (hp : ∀ (m : Nat) (st : Sr), (pe st).2.f = false → exW m (pe st).1 + T (pe st).2.r ≤ T st.r) (h : (cE pe n d st).2.f = false) : exW m (cE pe n d st).1 + T (cE pe n d st).2.r ≤ T st.r := by
  unfold cE at h ⊢
  cases h1 : opc (pk (op d st))
  · rw [h1] at h
    simp only [Bool.false_eq_true, if_false] at h ⊢
    cases h2 : is (pk (op d st)) [99, 97, 108, 108]
    · rw [h2] at h
      simp only [Bool.false_eq_true, if_false] at h
      have := (sh_lt _).1.nf h
      cases this
    · rw [h2] at h
      simp only [if_true] at h ⊢
      unfold caE at h ⊢
      simp only at h ⊢
      have k1 := kw_w (show (kw [41] _).f = false from h)
      have f1 := (sh_lt _).1.nf h
      have f2 : (tk (nm (tk (op d st)))).f = false := (loop_le hl n _).nf f1
      have k3 := nmP_w (st := tk (op d st)) f2
      have f3 := (nmP_lt _).1.nf (show (nmP (tk (op d st))).2.f = false from f2)
      have k4 := tk_w f3
      have f4 := (tk_lt _).1.nf f3
      have k5 := op_w f4
      have e1 : T (nmP (tk (op d st))).2.r = T (tk (nm (tk (op d st)))).r := rfl
      have e2 : (nmP (tk (op d st))).1 = pk (nm (tk (op d st))) := rfl
      rw [e1, e2] at k3
      cases m with
      | zero =>
        have k2 := loop_w (W := fun _ => 0) (k := (tk (nm (tk (op d st)))).r.length + 1) hl (fun s _ _ hs => by have := hp 0 s hs; omega) n _ (Or.inr (Nat.lt_succ_self _)) f1
        simp only [exW]
        unfold sh
        omega
      | succ m =>
        have k2 := loop_w (W := exW m) (k := (tk (nm (tk (op d st)))).r.length + 1) hl (fun s _ _ hs => hp m s hs) n _ (Or.inr (Nat.lt_succ_self _)) f1
        simp only [exW]
        unfold sh
        omega
  · rw [h1] at h
    simp only [if_true] at h ⊢
    unfold opE at h ⊢
    simp only at h ⊢
    have k1 := kw_w (show (kw [41] _).f = false from h)
    have f1 := (sh_lt _).1.nf h
    have f2 := (hl _).nf f1
    have f3 := (hl _).nf f2
    have k4 := tk_w f3
    have f4 := (tk_lt _).1.nf f3
    have k5 := op_w f4
    cases m with
    | zero =>
      have k2 := hp 0 _ f1
      have k3 := hp 0 _ f2
      simp only [exW]
      unfold sh
      omega
    | succ m =>
      have k2 := hp m _ f1
      have k3 := hp m _ f2
      simp only [exW, List.map_cons, List.map_nil, List.sum_cons, List.sum_nil]
      unfold sh
      omega
theorem nmE_w {m : Nat} {st : Sr} (h : (nmE st).2.f = false) : exW m (nmE st).1 + T (nmE st).2.r ≤ T st.r := by
  have h1 := nmP_w (st := st) h
  have e1 : (nmE st).2 = (nmP st).2 := rfl
  have e2 : (nmE st).1.name = (nmP st).1 := rfl
  have e3 : (nmE st).1.args = [] := rfl
  cases m with
  | zero => simp only [exW]; rw [e1]; omega
  | succ m => simp only [exW, e1, e2, e3, List.map_nil, List.sum_nil]; omega
theorem pE_w : ∀ (k d m : Nat) (st : Sr), (pE k d st).2.f = false → exW m (pE k d st).1 + T (pE k d st).2.r ≤ T st.r
  | 0, d, m, st, h => nmE_w h
  | k + 1, d, m, st, h => by
    simp only [pE] at h ⊢
    cases h1 : is (pk st) [40]
    · rw [h1] at h
      simp only [Bool.false_eq_true, if_false] at h ⊢
      cases h2 : digs (pk st)
      · rw [h2] at h
        simp only [Bool.false_eq_true, if_false] at h ⊢
        exact nmE_w h
      · rw [h2] at h
        simp only [if_true] at h ⊢
        have k1 := nu_w (st := st) h
        have e1 : (nuE st).2 = tk (nu st) := rfl
        have e2 : (nuE st).1.name.size = 0 := rfl
        have e3 : (nuE st).1.args = [] := rfl
        cases m with
        | zero => simp only [exW]; rw [e1]; omega
        | succ m => simp only [exW, e1, e2, e3, List.map_nil, List.sum_nil]; omega
    · rw [h1] at h
      simp only [if_true] at h ⊢
      exact cE_w (fun s => (pE_lt k (d + 1) s).1) (fun m s hs => pE_w k (d + 1) m s hs) h
theorem blk_w {g : Sr → St × Sr} {n d m k : Nat} {st : Sr} (hl : ∀ st, Le (g st).2 st) (hg : ∀ m st, brc st = true → Ok k st → (g st).2.f = false → stW m (g st).1 + T (g st).2.r ≤ T st.r) (hk : Ok k st) (h : (blk g n d st).2.f = false) : stsW m (blk g n d st).1 + T (blk g n d st).2.r + 16 ≤ T st.r := by
  unfold blk at h ⊢
  simp only at h ⊢
  have k1 := kw_w (show (kw [41] _).f = false from h)
  have f1 := (sh_lt _).1.nf h
  have f2 := (loop_le hl n _).nf f1
  have k3 := op_w f2
  cases m with
  | zero =>
    have k2 := loop_w (W := fun _ => 0) hl (fun s hc hs hf => by have := hg 0 s hc hs hf; omega) n _ (hk.le (op_lt d st).1) f1
    simp only [stsW]
    unfold sh
    omega
  | succ m =>
    have k2 := loop_w (W := stW m) hl (fun s hc hs hf => hg m s hc hs hf) n _ (hk.le (op_lt d st).1) f1
    rw [stsW_succ]
    unfold sh
    omega
theorem pS_w (K : Nat) : ∀ (k d m : Nat) (st : Sr), brc st = true → Ok k st → (pS K k d st).2.f = false → stW m (pS K k d st).1 + T (pS K k d st).2.r ≤ T st.r
  | 0, d, m, st, hb, hk, h => by
    have := brc_ne hb
    rcases hk with e | e
    · rw [this] at e; cases e
    · omega
  | k + 1, d, m, st, hb, hk, h => by
    have hr := cmd_range (pk (op d st))
    have hl : ∀ s, Le (pS K k (d + 1 + 1) s).2 s := fun s => pS_le K k (d + 1 + 1) s
    have hg : ∀ m s, brc s = true → Ok k s → (pS K k (d + 1 + 1) s).2.f = false → stW m (pS K k (d + 1 + 1) s).1 + T (pS K k (d + 1 + 1) s).2.r ≤ T s.r := fun m s hc hs hf => pS_w K k (d + 1 + 1) m s hc hs hf
    have hk1 : Ok k (op d st) := hk.lt (op_lt d st)
    have e0 : stsW m ([] : List St) ≤ 1 := by cases m <;> simp [stsW]
    obtain e | e | e | e | e : cmd (pk (op d st)) = 0 ∨ cmd (pk (op d st)) = 1 ∨ cmd (pk (op d st)) = 2 ∨ cmd (pk (op d st)) = 3 ∨ cmd (pk (op d st)) = 4 := by omega
    · rw [pS_0 e] at h
      have f1 := (sh_lt _).1.nf h
      have f2 := (pE_lt _ _ _).1.nf f1
      have f3 := (tk_lt _).1.nf f2
      cases f3
    · rw [pS_1 e] at h ⊢
      have k1 := kw_w (show (kw [41] _).f = false from h)
      have f1 := (sh_lt _).1.nf h
      have k2 := pE_w K (d + 1) m _ f1
      have f2 := (pE_lt _ _ _).1.nf f1
      have k3 := nmP_w f2
      have f3 := (nmP_lt _).1.nf f2
      have k4 := tk_w f3
      have f4 := (tk_lt _).1.nf f3
      have k5 := op_w f4
      unfold stW
      simp only
      unfold sh
      omega
    · rw [pS_2 e] at h ⊢
      have k1 := kw_w (show (kw [41] _).f = false from h)
      have f1 := (sh_lt _).1.nf h
      have fb := (blk_lt hl k (d + 1) _).1.nf f1
      have fa := (blk_lt hl k (d + 1) _).1.nf fb
      have f2 := (pE_lt _ _ _).1.nf fa
      have f3 := (tk_lt _).1.nf f2
      have hke : Ok k (pE K (d + 1) (tk (op d st))).2 := hk1.le ((pE_lt _ _ _).1.trans (tk_lt _).1)
      have ka := blk_w (m := m) (n := k) (d := d + 1) hl hg hke fb
      have kb := blk_w (m := m) (n := k) (d := d + 1) hl hg (hke.le (blk_lt hl k (d + 1) _).1) f1
      have k2 := pE_w K (d + 1) m _ fa
      have k4 := tk_w f2
      have k5 := op_w f3
      have z : (⟨#[]⟩ : ByteArray).size = 0 := rfl
      unfold stW
      simp only [z]
      unfold sh
      omega
    · rw [pS_3 e] at h ⊢
      have k1 := kw_w (show (kw [41] _).f = false from h)
      have f1 := (sh_lt _).1.nf h
      have fa := (blk_lt hl k (d + 1) _).1.nf f1
      have f2 := (pE_lt _ _ _).1.nf fa
      have f3 := (tk_lt _).1.nf f2
      have hke : Ok k (pE K (d + 1) (tk (op d st))).2 := hk1.le ((pE_lt _ _ _).1.trans (tk_lt _).1)
      have ka := blk_w (m := m) (n := k) (d := d + 1) hl hg hke f1
      have k2 := pE_w K (d + 1) m _ fa
      have k4 := tk_w f2
      have k5 := op_w f3
      have z : (⟨#[]⟩ : ByteArray).size = 0 := rfl
      unfold stW
      simp only [z]
      unfold sh
      omega
    · rw [pS_4 e] at h ⊢
      have k1 := kw_w (show (kw [41] _).f = false from h)
      have f1 := (sh_lt _).1.nf h
      have k2 := pE_w K (d + 1) m _ f1
      have f2 := (pE_lt _ _ _).1.nf f1
      have k3 := nmP_w f2
      have f3 := (nmP_lt _).1.nf f2
      have k4 := tk_w f3
      have f4 := (tk_lt _).1.nf f3
      have k5 := op_w f4
      unfold stW
      simp only
      unfold sh
      omega
theorem pF_w {K d m : Nat} {st : Sr} (hK : Ok K st) (h : (pF K d st).2.f = false) : fuW m (pF K d st).1 + T (pF K d st).2.r ≤ T st.r := by
  unfold pF at h ⊢
  simp only at h ⊢
  have k1 := pE_w K d m _ h
  have f1 := (pE_lt _ _ _).1.nf h
  have f2 := (loop_le (c := bodyc) (fun s => pS_le K K d s) K _).nf f1
  have f3 := (pars_lt _ _ _).1.nf f2
  have k4 := nmP_w f3
  unfold pars at f2 k1
  simp only at f2
  have k3 := kw_w (show (kw [41] _).f = false from f2)
  have g1 := (sh_lt _).1.nf f2
  have g2 := (loop_le (c := plc) (fun s => (nmP_lt s).1) K _).nf g1
  have k5 := op_w g2
  have k6 := loop_w (c := plc) (g := nmP) (W := fun s => s.size + 1) (k := (op d (nmP st).2).r.length + 1) (fun s => (nmP_lt s).1) (fun s _ _ hs => by have := nmP_w hs; omega) K _ (Or.inr (Nat.lt_succ_self _)) g1
  have hKp : Ok K (pars K d (nmP st).2).2 := hK.le ((pars_lt _ _ _).1.trans (nmP_lt _).1)
  have k7 : stsW m (loop bodyc (pS K K d) K (pars K d (nmP st).2).2).1 + T (loop bodyc (pS K K d) K (pars K d (nmP st).2).2).2.r ≤ T (pars K d (nmP st).2).2.r + 1 := by
    cases m with
    | zero =>
      have := loop_w (c := bodyc) (g := pS K K d) (W := fun _ => 0) (k := K) (fun s => pS_le K K d s) (fun s hc hs hf => by have := pS_w K K d 0 s (by unfold bodyc at hc; exact (Bool.and_eq_true_iff.1 hc).1) hs hf; omega) K _ hKp f1
      simp only [stsW]
      omega
    | succ m =>
      have := loop_w (c := bodyc) (g := pS K K d) (W := stW m) (k := K) (fun s => pS_le K K d s) (fun s hc hs hf => pS_w K K d m s (by unfold bodyc at hc; exact (Bool.and_eq_true_iff.1 hc).1) hs hf) K _ hKp f1
      rw [stsW_succ]
      omega
  have e1 : T (pars K d (nmP st).2).2.r = T (kw [41] (loop plc nmP K (op d (nmP st).2)).2).r := rfl
  have e2 : (pars K d (nmP st).2).1 = (loop plc nmP K (op d (nmP st).2)).1 := rfl
  have e3 : strsW (loop plc nmP K (op d (nmP st).2)).1 = ((loop plc nmP K (op d (nmP st).2)).1.map fun s => s.size + 1).sum + 1 := rfl
  have e4 : pars K d (nmP st).2 = ((loop plc nmP K (op d (nmP st).2)).1, sh (loop plc nmP K (op d (nmP st).2)).2) := rfl
  rw [← e4] at k1
  unfold fuW
  simp only
  rw [e2, e3]
  omega
theorem pV_eq (st : Sr) : pV st = (⟨(nmP st).1, (nmP (nmP st).2).1⟩, (nmP (nmP st).2).2) := rfl
def moWt (m : Nat) (x : Mo) : Nat := (x.imports.map fun s => s.size + 1).sum + (x.vars.map fun s => s.name.size + s.level.size + 3).sum + (x.funs.map (fuW m)).sum
theorem pI_w {K d m : Nat} {x : Mo} {st : Sr} (hK : Ok K st) (h : (pI K d x st).2.f = false) : moWt m (pI K d x st).1 + T (pI K d x st).2.r ≤ moWt m x + T st.r ∧ (pI K d x st).1.name = x.name := by
  unfold pI at h ⊢
  cases h1 : is (pk (op d st)) [105, 109, 112, 111, 114, 116]
  · rw [h1] at h
    simp only [Bool.false_eq_true, if_false] at h ⊢
    cases h2 : is (pk (op d st)) [118, 97, 114]
    · rw [h2] at h
      simp only [Bool.false_eq_true, if_false] at h ⊢
      cases h3 : is (pk (op d st)) [102, 117, 110]
      · rw [h3] at h
        simp only [Bool.false_eq_true, if_false] at h
        have := (sh_lt _).1.nf h
        cases this
      · rw [h3] at h
        simp only [if_true] at h ⊢
        have k1 := kw_w (show (kw [41] _).f = false from h)
        have f1 := (sh_lt _).1.nf h
        have k2 := pF_w (m := m) (hK.le ((tk_lt _).1.trans (op_lt d st).1)) f1
        have f2 := (pF_lt _ _ _).1.nf f1
        have k3 := tk_w f2
        have f3 := (tk_lt _).1.nf f2
        have k4 := op_w f3
        unfold moWt
        simp only [List.map_append, List.sum_append, List.map_cons, List.map_nil, List.sum_cons, List.sum_nil]
        unfold sh
        exact ⟨by omega, trivial⟩
    · rw [h2] at h
      simp only [if_true] at h ⊢
      rw [pV_eq] at h ⊢
      simp only at h ⊢
      have k1 := kw_w (show (kw [41] _).f = false from h)
      have f1 := (sh_lt _).1.nf h
      have k2 := nmP_w (st := (nmP (tk (op d st))).2) f1
      have f2 := (nmP_lt (nmP (tk (op d st))).2).1.nf f1
      have k3 := nmP_w f2
      have f3 := (nmP_lt _).1.nf f2
      have k4 := tk_w f3
      have f4 := (tk_lt _).1.nf f3
      have k5 := op_w f4
      unfold moWt
      simp only [List.map_append, List.sum_append, List.map_cons, List.map_nil, List.sum_cons, List.sum_nil]
      unfold sh
      exact ⟨by omega, trivial⟩
  · rw [h1] at h
    simp only [if_true] at h ⊢
    have k1 := kw_w (show (kw [41] _).f = false from h)
    have f1 := (sh_lt _).1.nf h
    have k3 := nmP_w f1
    have f3 := (nmP_lt _).1.nf f1
    have k4 := tk_w f3
    have f4 := (tk_lt _).1.nf f3
    have k5 := op_w f4
    unfold moWt
    simp only [List.map_append, List.sum_append, List.map_cons, List.map_nil, List.sum_cons, List.sum_nil]
    unfold sh
    exact ⟨by omega, trivial⟩
theorem pIs_w {K d m : Nat} : ∀ (n : Nat) (x : Mo) (st : Sr), Ok K st → (pIs K d n x st).2.f = false → moWt m (pIs K d n x st).1 + T (pIs K d n x st).2.r ≤ moWt m x + T st.r ∧ (pIs K d n x st).1.name = x.name
  | 0, x, st, _, _ => ⟨Nat.le_refl _, rfl⟩
  | n + 1, x, st, hK, h => by
    cases hc : brc st
    · rw [pIs_stop hc]; exact ⟨Nat.le_refl _, rfl⟩
    · rw [pIs_step hc] at h ⊢
      have h1 := pIs_w (m := m) n _ _ (hK.le (pI_lt K d x st).1) h
      have h2 := pI_w (m := m) hK ((pIs_le K d n _ _).nf h)
      exact ⟨by omega, h1.2.trans h2.2⟩
/-- A module that was read weighs no more than its words. -/
theorem pM_w {K m : Nat} {st : Sr} (hK : Ok K st) (h : (pM K st).2.f = false) : moW m (pM K st).1 ≤ T st.r := by
  have hd : pM K st = ((pIs K 1 K ⟨(nmP (m1 st)).1, [], [], []⟩ (nmP (m1 st)).2).1, sh (pIs K 1 K ⟨(nmP (m1 st)).1, [], [], []⟩ (nmP (m1 st)).2).2) := rfl
  rw [hd] at h ⊢
  have k1 := kw_w (show (kw [41] _).f = false from h)
  have f1 := (sh_lt _).1.nf h
  have hK2 : Ok K (nmP (m1 st)).2 := hK.le ((nmP_lt _).1.trans (m1_le st))
  obtain ⟨k2, e2⟩ := pIs_w (m := m) K _ _ hK2 f1
  have f2 := (pIs_le K 1 K _ _).nf f1
  have k3 := nmP_w f2
  have f3 := (nmP_lt _).1.nf f2
  have k4 := kw_w (show (kw [109, 111, 100, 117, 108, 101] (op 0 st)).f = false from f3)
  have f4 := (kw_lt _ _).1.nf (show (kw [109, 111, 100, 117, 108, 101] (op 0 st)).f = false from f3)
  have k5 := op_w f4
  have e5 : T (m1 st).r = T (kw [109, 111, 100, 117, 108, 101] (op 0 st)).r := rfl
  unfold moW strsW vasW
  rw [fusW_eq]
  simp only
  rw [e2]
  unfold moWt at k2
  simp only [List.map_nil, List.sum_nil] at k2
  simp only
  omega
end Rd

end Go.Proofs.YtbncnkfogkhoeabGreatDoor

/- The words of a module are read as that module. -/
namespace Go.Proofs.YtbncnkfogkhoeabGreatDoor
open Go.RowKit

namespace Rd
open Lat (longW nameB exprB exD bodyB bdD stB stD)
theorem pk_cons (w : ByteArray) (r : List ByteArray) : pk ⟨w :: r, false⟩ = w := rfl
theorem is_ne' {w : ByteArray} {l : List UInt8} (h : w.data.toList ≠ l) : is w l = false := by unfold is; simpa using h
theorem tk_cons {w : ByteArray} {r : List ByteArray} (h : is w [] = false) : tk ⟨w :: r, false⟩ = ⟨r, false⟩ := by unfold tk; rw [pk_cons, h]; rfl
theorem kw_cons {w : ByteArray} {r : List ByteArray} {l : List UInt8} (h : is w l = true) (hl : l ≠ []) : kw l ⟨w :: r, false⟩ = ⟨r, false⟩ := by
  have h0 : is w [] = false := is_ne' (fun e => by unfold is at h; rw [e] at h; exact hl (beq_iff_eq.1 h).symm)
  unfold kw; rw [pk_cons, h, if_pos rfl, tk_cons h0]
theorem op_cons {d : Nat} {r : List ByteArray} (hd : d ≠ 20) : op d ⟨Tk.o :: r, false⟩ = ⟨r, false⟩ := by
  unfold op mx; rw [if_neg hd]; exact kw_cons rfl (by simp)
theorem sh_cons {r : List ByteArray} : sh ⟨Tk.c :: r, false⟩ = ⟨r, false⟩ := kw_cons rfl (by simp)
theorem long_plain {w : ByteArray} (h : longW w.data.toList) : plain w = true := by
  unfold plain
  have h0 : is w [] = false := is_ne' h.1
  have h1 : is w [40] = false := is_ne' (fun e => by have := (h.2 40 (by rw [e]; simp)).2.1; revert this; decide)
  have h2 : is w [41] = false := is_ne' (fun e => by have := (h.2 41 (by rw [e]; simp)).2.1; revert this; decide)
  rw [h0, h1, h2]; rfl
theorem plain_parts {w : ByteArray} (h : plain w = true) : is w [] = false ∧ is w [40] = false ∧ is w [41] = false := by
  unfold plain at h
  simp only [Bool.and_eq_true, Bool.not_eq_true'] at h
  exact ⟨h.1.1, h.1.2, h.2⟩
theorem nmP_cons {w : ByteArray} {r : List ByteArray} (h : plain w = true) : nmP ⟨w :: r, false⟩ = (w, ⟨r, false⟩) := by
  have e : nm ⟨w :: r, false⟩ = ⟨w :: r, false⟩ := by unfold nm; rw [pk_cons, h]; rfl
  unfold nmP; rw [e, pk_cons, tk_cons (plain_parts h).1]
theorem name_not_digs {w : ByteArray} (h : nameB w.data.toList = true) : digs w = false := by
  unfold Lat.nameB at h
  simp only [Bool.and_eq_true, decide_eq_true_eq] at h
  unfold digs
  cases hl : w.data.toList with
  | nil => rw [hl] at h; simp at h
  | cons b l =>
    rw [hl] at h
    have hb := List.all_eq_true.1 h.2 b (by simp)
    have : digitB b = false := by
      unfold digitB
      unfold Lat.letterB at hb
      simp only [Bool.and_eq_true, decide_eq_true_eq] at hb
      rw [Bool.and_eq_false_iff]
      right
      exact decide_eq_false (by omega)
    rw [List.all_cons, this]; rfl
theorem pE_name {k d : Nat} {w : ByteArray} {r : List ByteArray} (h : nameB w.data.toList = true) : pE (k + 1) d ⟨w :: r, false⟩ = (⟨2, 0, w, []⟩, ⟨r, false⟩) := by
  have hp := long_plain (Lat.name_long h)
  have hn := nmP_cons (r := r) hp
  simp only [pE]
  rw [pk_cons, (plain_parts hp).2.1, name_not_digs h]
  have e1 : nmE ⟨w :: r, false⟩ = (⟨2, 0, (nmP ⟨w :: r, false⟩).1, []⟩, (nmP ⟨w :: r, false⟩).2) := rfl
  simp only [Bool.false_eq_true, if_false]
  rw [e1, hn]

/-! numbers -/
theorem decFrom_snoc : ∀ (l : List UInt8) (acc : Nat) (b : UInt8), Lib.decFrom acc (l ++ [b]) = (Lib.decFrom acc l).bind fun n => (Lib.digitVal b).map fun d => n * 10 + d
  | [], acc, b => by
    simp only [List.nil_append, Lib.decFrom]
    cases Lib.digitVal b <;> rfl
  | a :: l, acc, b => by
    simp only [List.cons_append, Lib.decFrom]
    cases Lib.digitVal a with
    | none => rfl
    | some d => exact decFrom_snoc l _ b
theorem dig_val {v : Nat} (h : v < 10) : Lib.digitVal (UInt8.ofNat (48 + v)) = some v := by
  have e : (UInt8.ofNat (48 + v)).toNat = 48 + v := by rw [UInt8.toNat_ofNat']; omega
  unfold Lib.digitVal
  rw [e, if_pos (by omega)]
  congr 1; omega
theorem decFrom_dec (u : Nat) : Lib.decFrom 0 (Lib.decDigits u) = some u := by
  induction u using Nat.strongRecOn with
  | ind u ih =>
    by_cases h : u < 10
    · rw [Lib.decDigits_one h]
      simp only [Lib.decFrom, dig_val h]
      congr 1; omega
    · rw [Lib.decDigits, dif_neg h, decFrom_snoc, ih (u / 10) (by omega), dig_val (by omega)]
      simp only [Option.bind_some, Option.map_some]
      congr 1; omega
theorem dec_head (u : Nat) (h : 1 ≤ u) : (Lib.decDigits u).getD 0 0 ≠ 48 := by
  induction u using Nat.strongRecOn with
  | ind u ih =>
    by_cases h1 : u < 10
    · rw [Lib.decDigits_one h1]
      show UInt8.ofNat (48 + u) ≠ 48
      intro e
      have := congrArg UInt8.toNat e
      rw [UInt8.toNat_ofNat'] at this
      have e2 : (48 : UInt8).toNat = 48 := rfl
      omega
    · rw [Lib.decDigits, dif_neg h1]
      have := ih (u / 10) (by omega) (by omega)
      have hne := Lat.dec_ne (u / 10)
      cases hl : Lib.decDigits (u / 10) with
      | nil => exact absurd hl hne
      | cons a l => rw [hl] at this; exact this
theorem nDigits_le : ∀ (k u : Nat), u < 10 ^ (k + 1) → Lib.nDigits u ≤ k + 1
  | 0, u, h => by rw [Lib.nDigits_small (by omega)]; exact Nat.le_refl _
  | k + 1, u, h => by
    by_cases h1 : u < 10
    · rw [Lib.nDigits_small h1]; omega
    · rw [Lib.nDigits_big h1]
      have := nDigits_le k (u / 10) (by rw [Nat.div_lt_iff_lt_mul (by decide)]; rw [Nat.pow_succ] at h; exact h)
      omega
theorem num_facts {n : Int} (h0 : 0 ≤ n) (h1 : n ≤ 999999) : is ⟨(Lib.itoa n).toArray⟩ [40] = false ∧ digs ⟨(Lib.itoa n).toArray⟩ = true ∧ badN ⟨(Lib.itoa n).toArray⟩ = false ∧ numV ⟨(Lib.itoa n).toArray⟩ = n ∧ is ⟨(Lib.itoa n).toArray⟩ [] = false := by
  have hl := Lat.num_long h0
  have hp := plain_parts (long_plain hl)
  obtain ⟨u, rfl⟩ := Int.eq_ofNat_of_zero_le h0
  have e : (⟨(Lib.itoa (u : Int)).toArray⟩ : ByteArray).data.toList = Lib.decDigits u := by
    show (Lib.itoa (u : Int)).toArray.toList = _
    rw [Lib.itoa_nonneg]
  have hlen : (⟨(Lib.itoa (u : Int)).toArray⟩ : ByteArray).size = Lib.nDigits u := by
    rw [← size_list, e, Lib.decDigits_length]
  have h6 := nDigits_le 5 u (by omega)
  have hdig : (Lib.decDigits u).all digitB = true := by
    rw [List.all_eq_true]
    intro b hb
    have := Lat.dec_long u b hb
    unfold digitB
    simp only [Bool.and_eq_true, decide_eq_true_eq]
    exact this
  have hat : Lib.atoi (Lib.decDigits u) = some (u : Int) := by
    cases hd : Lib.decDigits u with
    | nil => exact absurd hd (Lat.dec_ne u)
    | cons b l =>
      have hb := Lat.dec_long u b (by rw [hd]; simp)
      have n1 : (b == 45) = false := by rw [beq_eq_false_iff_ne]; rintro rfl; revert hb; decide
      have n2 : (b == 43) = false := by rw [beq_eq_false_iff_ne]; rintro rfl; revert hb; decide
      unfold Lib.atoi
      simp only [n1, n2, Bool.false_eq_true, if_false]
      unfold Lib.decNat
      rw [if_neg (by simp), ← hd, decFrom_dec]; rfl
  refine ⟨hp.2.1, ?_, ?_, ?_, hp.1⟩
  · unfold digs
    rw [hp.1, e, hdig]; rfl
  · unfold badN
    rw [hlen, e, decide_eq_false (by omega), Bool.false_or]
    by_cases hu : 1 ≤ u
    · have := dec_head u hu
      have e3 : ((Lib.decDigits u).getD 0 0 == 48) = false := by simpa using this
      rw [e3, Bool.and_false]
    · have : u = 0 := by omega
      subst this
      rw [Lib.nDigits_small (by decide)]; rfl
  · unfold numV
    rw [e, hat]; rfl
theorem pE_num {k d : Nat} {n : Int} {r : List ByteArray} (h0 : 0 ≤ n) (h1 : n ≤ 999999) : pE (k + 1) d ⟨⟨(Lib.itoa n).toArray⟩ :: r, false⟩ = (⟨1, n, ⟨#[]⟩, []⟩, ⟨r, false⟩) := by
  obtain ⟨f1, f2, f3, f4, f5⟩ := num_facts h0 h1
  simp only [pE]
  rw [pk_cons, f1, f2]
  have e1 : nu ⟨⟨(Lib.itoa n).toArray⟩ :: r, false⟩ = ⟨⟨(Lib.itoa n).toArray⟩ :: r, false⟩ := by unfold nu; rw [pk_cons, f3]; rfl
  simp only [Bool.false_eq_true, if_false, if_true]
  unfold nuE
  rw [e1, pk_cons, f4, tk_cons f5]

/-! expressions -/
theorem mem_maxN {α : Type} {f : α → Nat} {l : List α} {y : α} (h : y ∈ l) : f y ≤ Lat.maxN f l := by
  induction l with
  | nil => cases h
  | cons a l ih =>
    rw [maxN_cons]
    rcases List.mem_cons.1 h with rfl | h
    · omega
    · have := ih h; omega
theorem ex_head : ∀ (m : Nat) (x : Ex), exprB m x = true → ∃ w t, Tk.ex m x = w :: t ∧ (w = Tk.o ∨ (plain w = true ∧ is w [40] = false))
  | 0, x, h => by cases h
  | m + 1, x, h => by
    simp only [Lat.exprB] at h
    simp only [Tk.ex]
    by_cases k1 : x.kind = 1
    · rw [if_pos k1] at h ⊢
      simp only [Bool.and_eq_true, decide_eq_true_eq] at h
      have hp := long_plain (Lat.num_long h.1.1.1)
      exact ⟨_, _, rfl, Or.inr ⟨hp, (plain_parts hp).2.1⟩⟩
    · rw [if_neg k1] at h ⊢
      by_cases k2 : x.kind = 2
      · rw [if_pos k2] at h ⊢
        simp only [Bool.and_eq_true] at h
        have hp := long_plain (Lat.name_long h.1.2)
        exact ⟨_, _, rfl, Or.inr ⟨hp, (plain_parts hp).2.1⟩⟩
      · rw [if_neg k2]
        split
        · exact ⟨_, _, rfl, Or.inl rfl⟩
        · exact ⟨_, _, rfl, Or.inl rfl⟩
theorem argc_o (r : List ByteArray) : argc ⟨Tk.o :: r, false⟩ = true := rfl
theorem argc_c (r : List ByteArray) : argc ⟨Tk.c :: r, false⟩ = false := rfl
theorem loop_args {pe : Sr → Ex × Sr} {m k : Nat} : ∀ (args : List Ex) (n : Nat) (r : List ByteArray), (∀ y ∈ args, exprB m y = true) → (∀ y ∈ args, ∀ r', (Tk.ex m y ++ r').length < k → pe ⟨Tk.ex m y ++ r', false⟩ = (y, ⟨r', false⟩)) →
    ((args.map (Tk.ex m)).flatten ++ Tk.c :: r).length < k → args.length ≤ n → loop argc pe n ⟨(args.map (Tk.ex m)).flatten ++ Tk.c :: r, false⟩ = (args, ⟨Tk.c :: r, false⟩)
  | [], n, r, _, _, _, _ => by simp only [List.map_nil, List.flatten_nil, List.nil_append]; exact loop_stop (argc_c r)
  | y :: args, n, r, hB, hp, hk, hn => by
    obtain ⟨n, rfl⟩ : ∃ j, n = j + 1 := ⟨n - 1, by simp at hn; omega⟩
    have e : ((y :: args).map (Tk.ex m)).flatten ++ Tk.c :: r = Tk.ex m y ++ ((args.map (Tk.ex m)).flatten ++ Tk.c :: r) := by simp
    rw [e] at hk ⊢
    obtain ⟨w, t, ht, hw⟩ := ex_head m y (hB y (by simp))
    have hc : argc ⟨Tk.ex m y ++ ((args.map (Tk.ex m)).flatten ++ Tk.c :: r), false⟩ = true := by
      rw [ht]
      show (is w [40] || plain w) = true
      rcases hw with rfl | ⟨h1, _⟩
      · rfl
      · rw [h1, Bool.or_true]
    rw [loop_step hc, hp y (by simp) _ hk]
    have ih := loop_args args n r (fun z hz => hB z (by simp [hz])) (fun z hz => hp z (by simp [hz])) (by rw [List.length_append] at hk; omega) (by simp at hn; omega)
    simp only [ih]
theorem opc_of {s : ByteArray} (h : Lat.opB s = true) : opc s = true := by
  rcases Lat.op_cases h with rfl | rfl | rfl | rfl | rfl <;> rfl
theorem flat_len {α : Type} {f : α → List ByteArray} {l : List α} (h : ∀ y ∈ l, 1 ≤ (f y).length) : l.length ≤ (l.map f).flatten.length := by
  induction l with
  | nil => simp
  | cons y l ih =>
    have h1 := h y (by simp)
    have h2 := ih (fun z hz => h z (by simp [hz]))
    simp only [List.map_cons, List.flatten_cons, List.length_append, List.length_cons]
    omega
theorem pE_tok : ∀ (m : Nat) (x : Ex) (k d : Nat) (r : List ByteArray), exprB m x = true → exD m x + d ≤ 20 → (Tk.ex m x ++ r).length < k → pE k d ⟨Tk.ex m x ++ r, false⟩ = (x, ⟨r, false⟩)
  | 0, x, k, d, r, h, _, _ => by cases h
  | m + 1, x, 0, d, r, h, hd, hk => by omega
  | m + 1, x, k + 1, d, r, h, hd, hk => by
    obtain ⟨kd, n, s, args⟩ := x
    simp only [Lat.exprB] at h
    simp only [Lat.exD] at hd
    simp only [Tk.ex] at hk ⊢
    by_cases k1 : kd = 1
    · subst k1
      simp only [if_true, Bool.and_eq_true, decide_eq_true_eq] at h ⊢
      obtain ⟨⟨⟨h1, h2⟩, h3⟩, h4⟩ := h
      have e1 : s = ⟨#[]⟩ := bytes_ext (by rw [ByteArray.toList_eq] at h3; simpa using h3)
      have e2 : args = [] := List.length_eq_zero_iff.1 (beq_iff_eq.1 h4)
      subst e1 e2
      exact pE_num h1 h2
    · rw [if_neg k1] at h hk ⊢
      by_cases k2 : kd = 2
      · subst k2
        simp only [if_true, Bool.and_eq_true, beq_iff_eq] at h ⊢
        obtain ⟨⟨h1, h2⟩, h3⟩ := h
        have e2 : args = [] := List.length_eq_zero_iff.1 h3
        subst h1 e2
        exact pE_name h2
      · rw [if_neg k2] at h hk ⊢
        rw [if_neg (by omega)] at hd
        have hd19 : d ≠ 20 := by omega
        have hda : ∀ y ∈ args, exD m y + (d + 1) ≤ 20 := fun y hy => by have := mem_maxN (f := exD m) hy; omega
        by_cases k3 : kd = 3
        · subst k3
          simp only [if_true, Bool.and_eq_true, beq_iff_eq] at h
          obtain ⟨⟨⟨h1, h2⟩, h3⟩, h4⟩ := h
          subst h1
          rw [if_neg (by decide)] at hk ⊢
          match args, h3, h4, hda, hk with
          | [a, b], _, h4, hda, hk =>
            have ha := List.all_eq_true.1 h4 a (by simp)
            have hb := List.all_eq_true.1 h4 b (by simp)
            have e : (Tk.o :: ([s] ++ ([a, b].map (Tk.ex m)).flatten) ++ [Tk.c]) ++ r = Tk.o :: s :: (Tk.ex m a ++ (Tk.ex m b ++ (Tk.c :: r))) := by simp
            rw [e] at hk ⊢
            simp only [List.length_cons, List.length_append] at hk
            have hs := (plain_parts (long_plain (Lat.op_long h2))).1
            have ia := pE_tok m a k (d + 1) (Tk.ex m b ++ (Tk.c :: r)) ha (hda a (by simp)) (by simp only [List.length_append, List.length_cons]; omega)
            have ib := pE_tok m b k (d + 1) (Tk.c :: r) hb (hda b (by simp)) (by simp only [List.length_append, List.length_cons]; omega)
            simp only [pE]
            rw [if_pos (by rfl)]
            unfold cE
            rw [op_cons hd19, pk_cons, opc_of h2, if_pos rfl]
            unfold opE
            rw [tk_cons hs, ia, pk_cons]
            simp only
            rw [ib]
            simp only
            rw [sh_cons]
        · rw [if_neg k3] at h
          by_cases k4 : kd = 4
          · subst k4
            simp only [if_true, Bool.and_eq_true, beq_iff_eq, decide_eq_true_eq] at h hk ⊢
            obtain ⟨⟨⟨h1, h2⟩, h3⟩, h4⟩ := h
            subst h1
            have e : (Tk.o :: ([(⟨#[99, 97, 108, 108]⟩ : ByteArray)] ++ ([s] ++ (args.map (Tk.ex m)).flatten)) ++ [Tk.c]) ++ r = Tk.o :: (⟨#[99, 97, 108, 108]⟩ : ByteArray) :: s :: ((args.map (Tk.ex m)).flatten ++ Tk.c :: r) := by simp
            rw [e] at hk ⊢
            simp only [List.length_cons] at hk
            have hal : args.length ≤ (args.map (Tk.ex m)).flatten.length := flat_len (fun y hy => by
              obtain ⟨w, t, ht, _⟩ := ex_head m y (List.all_eq_true.1 h4 y hy)
              rw [ht]; simp)
            have il := loop_args (pe := pE k (d + 1)) (m := m) (k := k) args k r (fun y hy => List.all_eq_true.1 h4 y hy)
              (fun y hy r' hr => pE_tok m y k (d + 1) r' (List.all_eq_true.1 h4 y hy) (hda y hy) hr) (by omega) (by rw [List.length_append] at hk; omega)
            simp only [pE]
            rw [if_pos (by rfl)]
            unfold cE
            rw [op_cons hd19, pk_cons, if_neg (by decide), if_pos (by rfl), tk_cons (by rfl)]
            have e2 : caE (pE k (d + 1)) k ⟨s :: ((args.map (Tk.ex m)).flatten ++ Tk.c :: r), false⟩ = (⟨4, 0, (nmP ⟨s :: ((args.map (Tk.ex m)).flatten ++ Tk.c :: r), false⟩).1, (loop argc (pE k (d + 1)) k (nmP ⟨s :: ((args.map (Tk.ex m)).flatten ++ Tk.c :: r), false⟩).2).1⟩, sh (loop argc (pE k (d + 1)) k (nmP ⟨s :: ((args.map (Tk.ex m)).flatten ++ Tk.c :: r), false⟩).2).2) := rfl
            rw [e2, nmP_cons (long_plain (Lat.call_long h2))]
            simp only
            rw [il]
            simp only
            rw [sh_cons]
          · rw [if_neg k4] at h; cases h
end Rd

end Go.Proofs.YtbncnkfogkhoeabGreatDoor
