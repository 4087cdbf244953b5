/- What is read weighs no more than the words that it was read from. -/
import Derived.Test.YthcckfofpocbhabGreatDoorPR
import Derived.Test.YthcckfofpocbhabGreatDoorZA
import Derived.Test.YthcckfofpocbhabGreatDoorZB
namespace Go.Proofs.YthcckfofpocbhabGreatDoor
open Go.RowKit

namespace Rd
def T (r : List ByteArray) : Nat := (r.map fun w => w.size + 16).sum
theorem Le.nf {a b : Sr} (h : Le a b) (ha : a.f = false) : b.f = false := by
  cases hb : b.f
  · rfl
  · rw [h.1 hb] at ha; cases ha
theorem tk_w {st : Sr} (h : (tk st).f = false) : T (tk st).r + (pk st).size + 16 ≤ T st.r := by
  have h0 := (tk_lt st).1.nf h
  unfold tk at h ⊢
  split at h
  · cases h
  · rename_i hne
    rw [if_neg hne]
    obtain ⟨r, f⟩ := st
    simp only at h0 ⊢
    subst h0
    cases r with
    | nil => exact absurd rfl hne
    | cons a l =>
      show T l + a.size + 16 ≤ T (a :: l)
      unfold T
      simp only [List.map_cons, List.sum_cons]
      omega
theorem kw_w {l : List UInt8} {st : Sr} (h : (kw l st).f = false) : T (kw l st).r + 16 ≤ T st.r := by
  unfold kw at h ⊢
  split at h
  · rename_i hc
    rw [if_pos hc]
    have := tk_w h
    omega
  · cases h
theorem op_w {d : Nat} {st : Sr} (h : (op d st).f = false) : T (op d st).r + 16 ≤ T st.r := by
  have h1 := (kw_lt _ _).1.nf (show (kw [40] (mx d st)).f = false from h)
  have h2 := kw_w (show (kw [40] (mx d st)).f = false from h)
  unfold mx at h1 h2
  split at h1
  · cases h1
  · rename_i hd
    rw [if_neg hd] at h2
    show T (kw [40] (mx d st)).r + 16 ≤ _
    unfold mx
    rw [if_neg hd]
    exact h2
theorem nmP_w {st : Sr} (h : (nmP st).2.f = false) : T (nmP st).2.r + (nmP st).1.size + 16 ≤ T st.r := by
  have h1 := (tk_lt _).1.nf (show (tk (nm st)).f = false from h)
  have h2 := tk_w (show (tk (nm st)).f = false from h)
  unfold nm at h1 h2
  split at h1
  · rename_i hp
    rw [if_pos hp] at h2
    show T (tk (nm st)).r + (pk (nm st)).size + 16 ≤ _
    unfold nm
    rw [if_pos hp]
    exact h2
  · cases h1
theorem nu_w {st : Sr} (h : (tk (nu st)).f = false) : T (tk (nu st)).r + 16 ≤ T st.r := by
  have h1 := (tk_lt _).1.nf h
  have h2 := tk_w h
  have h3 : T (nu st).r = T st.r := by unfold nu; split <;> rfl
  omega
theorem loop_w {α : Type} {c : Sr → Bool} {g : Sr → α × Sr} {W : α → Nat} {k : Nat} (hl : ∀ st, Le (g st).2 st) (hg : ∀ st, c st = true → Ok k st → (g st).2.f = false → W (g st).1 + T (g st).2.r ≤ T st.r) :
    ∀ (n : Nat) (st : Sr), Ok k st → (loop c g n st).2.f = false → ((loop c g n st).1.map W).sum + T (loop c g n st).2.r ≤ T st.r
  | 0, st, _, _ => by simp [loop]
  | n + 1, st, hk, h => by
    cases hc : c st
    · rw [loop_stop hc]; simp
    · rw [loop_step hc] at h ⊢
      simp only at h ⊢
      have h1 := loop_w hl hg n (g st).2 (hk.le (hl st)) h
      have h2 := hg st hc hk ((loop_le hl n _).nf h)
      simp only [List.map_cons, List.sum_cons]
      omega
theorem cE_w {pe : Sr → Ex × Sr} {n d m : Nat} {st : Sr} (hl : ∀ st, Le (pe st).2 st) (hp : ∀ (m : Nat) (st : Sr), (pe st).2.f = false → exW m (pe st).1 + T (pe st).2.r ≤ T st.r) (h : (cE pe n d st).2.f = false) : exW m (cE pe n d st).1 + T (cE pe n d st).2.r ≤ T st.r := by
  unfold cE at h ⊢
  cases h1 : opc (pk (op d st))
  · rw [h1] at h
    simp only [Bool.false_eq_true, if_false] at h ⊢
    cases h2 : is (pk (op d st)) [99, 97, 108, 108]
    · rw [h2] at h
      simp only [Bool.false_eq_true, if_false] at h
      have := (sh_lt _).1.nf h
      cases this
    · rw [h2] at h
      simp only [if_true] at h ⊢
      unfold caE at h ⊢
      simp only at h ⊢
      have k1 := kw_w (show (kw [41] _).f = false from h)
      have f1 := (sh_lt _).1.nf h
      have f2 : (tk (nm (tk (op d st)))).f = false := (loop_le hl n _).nf f1
      have k3 := nmP_w (st := tk (op d st)) f2
      have f3 := (nmP_lt _).1.nf (show (nmP (tk (op d st))).2.f = false from f2)
      have k4 := tk_w f3
      have f4 := (tk_lt _).1.nf f3
      have k5 := op_w f4
      have e1 : T (nmP (tk (op d st))).2.r = T (tk (nm (tk (op d st)))).r := rfl
      have e2 : (nmP (tk (op d st))).1 = pk (nm (tk (op d st))) := rfl
      rw [e1, e2] at k3
      cases m with
      | zero =>
        have k2 := loop_w (W := fun _ => 0) (k := (tk (nm (tk (op d st)))).r.length + 1) hl (fun s _ _ hs => by have := hp 0 s hs; omega) n _ (Or.inr (Nat.lt_succ_self _)) f1
        simp only [exW]
        unfold sh
        omega
      | succ m =>
        have k2 := loop_w (W := exW m) (k := (tk (nm (tk (op d st)))).r.length + 1) hl (fun s _ _ hs => hp m s hs) n _ (Or.inr (Nat.lt_succ_self _)) f1
        simp only [exW]
        unfold sh
        omega
  · rw [h1] at h
    simp only [if_true] at h ⊢
    unfold opE at h ⊢
    simp only at h ⊢
    have k1 := kw_w (show (kw [41] _).f = false from h)
    have f1 := (sh_lt _).1.nf h
    have f2 := (hl _).nf f1
    have f3 := (hl _).nf f2
    have k4 := tk_w f3
    have f4 := (tk_lt _).1.nf f3
    have k5 := op_w f4
    cases m with
    | zero =>
      have k2 := hp 0 _ f1
      have k3 := hp 0 _ f2
      simp only [exW]
      unfold sh
      omega
    | succ m =>
      have k2 := hp m _ f1
      have k3 := hp m _ f2
      simp only [exW, List.map_cons, List.map_nil, List.sum_cons, List.sum_nil]
      unfold sh
      omega
theorem nmE_w {m : Nat} {st : Sr} (h : (nmE st).2.f = false) : exW m (nmE st).1 + T (nmE st).2.r ≤ T st.r := by
  have h1 := nmP_w (st := st) h
  have e1 : (nmE st).2 = (nmP st).2 := rfl
  have e2 : (nmE st).1.name = (nmP st).1 := rfl
  have e3 : (nmE st).1.args = [] := rfl
  cases m with
  | zero => simp only [exW]; rw [e1]; omega
  | succ m => simp only [exW, e1, e2, e3, List.map_nil, List.sum_nil]; omega
theorem pE_w : ∀ (k d m : Nat) (st : Sr), (pE k d st).2.f = false → exW m (pE k d st).1 + T (pE k d st).2.r ≤ T st.r
  | 0, d, m, st, h => nmE_w h
  | k + 1, d, m, st, h => by
    simp only [pE] at h ⊢
    cases h1 : is (pk st) [40]
    · rw [h1] at h
      simp only [Bool.false_eq_true, if_false] at h ⊢
      cases h2 : digs (pk st)
      · rw [h2] at h
        simp only [Bool.false_eq_true, if_false] at h ⊢
        exact nmE_w h
      · rw [h2] at h
        simp only [if_true] at h ⊢
        have k1 := nu_w (st := st) h
        have e1 : (nuE st).2 = tk (nu st) := rfl
        have e2 : (nuE st).1.name.size = 0 := rfl
        have e3 : (nuE st).1.args = [] := rfl
        cases m with
        | zero => simp only [exW]; rw [e1]; omega
        | succ m => simp only [exW, e1, e2, e3, List.map_nil, List.sum_nil]; omega
    · rw [h1] at h
      simp only [if_true] at h ⊢
      exact cE_w (fun s => (pE_lt k (d + 1) s).1) (fun m s hs => pE_w k (d + 1) m s hs) h
theorem blk_w {g : Sr → St × Sr} {n d m k : Nat} {st : Sr} (hl : ∀ st, Le (g st).2 st) (hg : ∀ m st, brc st = true → Ok k st → (g st).2.f = false → stW m (g st).1 + T (g st).2.r ≤ T st.r) (hk : Ok k st) (h : (blk g n d st).2.f = false) : stsW m (blk g n d st).1 + T (blk g n d st).2.r + 16 ≤ T st.r := by
  unfold blk at h ⊢
  simp only at h ⊢
  have k1 := kw_w (show (kw [41] _).f = false from h)
  have f1 := (sh_lt _).1.nf h
  have f2 := (loop_le hl n _).nf f1
  have k3 := op_w f2
  cases m with
  | zero =>
    have k2 := loop_w (W := fun _ => 0) hl (fun s hc hs hf => by have := hg 0 s hc hs hf; omega) n _ (hk.le (op_lt d st).1) f1
    simp only [stsW]
    unfold sh
    omega
  | succ m =>
    have k2 := loop_w (W := stW m) hl (fun s hc hs hf => hg m s hc hs hf) n _ (hk.le (op_lt d st).1) f1
    rw [stsW_succ]
    unfold sh
    omega
theorem pS_w (K : Nat) : ∀ (k d m : Nat) (st : Sr), brc st = true → Ok k st → (pS K k d st).2.f = false → stW m (pS K k d st).1 + T (pS K k d st).2.r ≤ T st.r
  | 0, d, m, st, hb, hk, h => by
    have := brc_ne hb
    rcases hk with e | e
    · rw [this] at e; cases e
    · omega
  | k + 1, d, m, st, hb, hk, h => by
    have hr := cmd_range (pk (op d st))
    have hl : ∀ s, Le (pS K k (d + 1 + 1) s).2 s := fun s => pS_le K k (d + 1 + 1) s
    have hg : ∀ m s, brc s = true → Ok k s → (pS K k (d + 1 + 1) s).2.f = false → stW m (pS K k (d + 1 + 1) s).1 + T (pS K k (d + 1 + 1) s).2.r ≤ T s.r := fun m s hc hs hf => pS_w K k (d + 1 + 1) m s hc hs hf
    have hk1 : Ok k (op d st) := hk.lt (op_lt d st)
    have e0 : stsW m ([] : List St) ≤ 1 := by cases m <;> simp [stsW]
    obtain e | e | e | e | e : cmd (pk (op d st)) = 0 ∨ cmd (pk (op d st)) = 1 ∨ cmd (pk (op d st)) = 2 ∨ cmd (pk (op d st)) = 3 ∨ cmd (pk (op d st)) = 4 := by omega
    · rw [pS_0 e] at h
      have f1 := (sh_lt _).1.nf h
      have f2 := (pE_lt _ _ _).1.nf f1
      have f3 := (tk_lt _).1.nf f2
      cases f3
    · rw [pS_1 e] at h ⊢
      have k1 := kw_w (show (kw [41] _).f = false from h)
      have f1 := (sh_lt _).1.nf h
      have k2 := pE_w K (d + 1) m _ f1
      have f2 := (pE_lt _ _ _).1.nf f1
      have k3 := nmP_w f2
      have f3 := (nmP_lt _).1.nf f2
      have k4 := tk_w f3
      have f4 := (tk_lt _).1.nf f3
      have k5 := op_w f4
      unfold stW
      simp only
      unfold sh
      omega
    · rw [pS_2 e] at h ⊢
      have k1 := kw_w (show (kw [41] _).f = false from h)
      have f1 := (sh_lt _).1.nf h
      have fb := (blk_lt hl k (d + 1) _).1.nf f1
      have fa := (blk_lt hl k (d + 1) _).1.nf fb
      have f2 := (pE_lt _ _ _).1.nf fa
      have f3 := (tk_lt _).1.nf f2
      have hke : Ok k (pE K (d + 1) (tk (op d st))).2 := hk1.le ((pE_lt _ _ _).1.trans (tk_lt _).1)
      have ka := blk_w (m := m) (n := k) (d := d + 1) hl hg hke fb
      have kb := blk_w (m := m) (n := k) (d := d + 1) hl hg (hke.le (blk_lt hl k (d + 1) _).1) f1
      have k2 := pE_w K (d + 1) m _ fa
      have k4 := tk_w f2
      have k5 := op_w f3
      have z : (⟨#[]⟩ : ByteArray).size = 0 := rfl
      unfold stW
      simp only [z]
      unfold sh
      omega
    · rw [pS_3 e] at h ⊢
      have k1 := kw_w (show (kw [41] _).f = false from h)
      have f1 := (sh_lt _).1.nf h
      have fa := (blk_lt hl k (d + 1) _).1.nf f1
      have f2 := (pE_lt _ _ _).1.nf fa
      have f3 := (tk_lt _).1.nf f2
      have hke : Ok k (pE K (d + 1) (tk (op d st))).2 := hk1.le ((pE_lt _ _ _).1.trans (tk_lt _).1)
      have ka := blk_w (m := m) (n := k) (d := d + 1) hl hg hke f1
      have k2 := pE_w K (d + 1) m _ fa
      have k4 := tk_w f2
      have k5 := op_w f3
      have z : (⟨#[]⟩ : ByteArray).size = 0 := rfl
      unfold stW
      simp only [z]
      unfold sh
      omega
    · rw [pS_4 e] at h ⊢
      have k1 := kw_w (show (kw [41] _).f = false from h)
      have f1 := (sh_lt _).1.nf h
      have k2 := pE_w K (d + 1) m _ f1
      have f2 := (pE_lt _ _ _).1.nf f1
      have k3 := nmP_w f2
      have f3 := (nmP_lt _).1.nf f2
      have k4 := tk_w f3
      have f4 := (tk_lt _).1.nf f3
      have k5 := op_w f4
      unfold stW
      simp only
      unfold sh
      omega
theorem pF_w {K d m : Nat} {st : Sr} (hK : Ok K st) (h : (pF K d st).2.f = false) : fuW m (pF K d st).1 + T (pF K d st).2.r ≤ T st.r := by
  unfold pF at h ⊢
  simp only at h ⊢
  have k1 := pE_w K d m _ h
  have f1 := (pE_lt _ _ _).1.nf h
  have f2 := (loop_le (c := bodyc) (fun s => pS_le K K d s) K _).nf f1
  have f3 := (pars_lt _ _ _).1.nf f2
  have k4 := nmP_w f3
  unfold pars at f2 k1
  simp only at f2
  have k3 := kw_w (show (kw [41] _).f = false from f2)
  have g1 := (sh_lt _).1.nf f2
  have g2 := (loop_le (c := plc) (fun s => (nmP_lt s).1) K _).nf g1
  have k5 := op_w g2
  have k6 := loop_w (c := plc) (g := nmP) (W := fun s => s.size + 1) (k := (op d (nmP st).2).r.length + 1) (fun s => (nmP_lt s).1) (fun s _ _ hs => by have := nmP_w hs; omega) K _ (Or.inr (Nat.lt_succ_self _)) g1
  have hKp : Ok K (pars K d (nmP st).2).2 := hK.le ((pars_lt _ _ _).1.trans (nmP_lt _).1)
  have k7 : stsW m (loop bodyc (pS K K d) K (pars K d (nmP st).2).2).1 + T (loop bodyc (pS K K d) K (pars K d (nmP st).2).2).2.r ≤ T (pars K d (nmP st).2).2.r + 1 := by
    cases m with
    | zero =>
      have := loop_w (c := bodyc) (g := pS K K d) (W := fun _ => 0) (k := K) (fun s => pS_le K K d s) (fun s hc hs hf => by have := pS_w K K d 0 s (by unfold bodyc at hc; exact (Bool.and_eq_true_iff.1 hc).1) hs hf; omega) K _ hKp f1
      simp only [stsW]
      omega
    | succ m =>
      have := loop_w (c := bodyc) (g := pS K K d) (W := stW m) (k := K) (fun s => pS_le K K d s) (fun s hc hs hf => pS_w K K d m s (by unfold bodyc at hc; exact (Bool.and_eq_true_iff.1 hc).1) hs hf) K _ hKp f1
      rw [stsW_succ]
      omega
  have e1 : T (pars K d (nmP st).2).2.r = T (kw [41] (loop plc nmP K (op d (nmP st).2)).2).r := rfl
  have e2 : (pars K d (nmP st).2).1 = (loop plc nmP K (op d (nmP st).2)).1 := rfl
  have e3 : strsW (loop plc nmP K (op d (nmP st).2)).1 = ((loop plc nmP K (op d (nmP st).2)).1.map fun s => s.size + 1).sum + 1 := rfl
  have e4 : pars K d (nmP st).2 = ((loop plc nmP K (op d (nmP st).2)).1, sh (loop plc nmP K (op d (nmP st).2)).2) := rfl
  rw [← e4] at k1
  unfold fuW
  simp only
  rw [e2, e3]
  omega
theorem pV_eq (st : Sr) : pV st = (⟨(nmP st).1, (nmP (nmP st).2).1⟩, (nmP (nmP st).2).2) := rfl
def moWt (m : Nat) (x : Mo) : Nat := (x.imports.map fun s => s.size + 1).sum + (x.vars.map fun s => s.name.size + s.level.size + 3).sum + (x.funs.map (fuW m)).sum
theorem pI_w {K d m : Nat} {x : Mo} {st : Sr} (hK : Ok K st) (h : (pI K d x st).2.f = false) : moWt m (pI K d x st).1 + T (pI K d x st).2.r ≤ moWt m x + T st.r ∧ (pI K d x st).1.name = x.name := by
  unfold pI at h ⊢
  cases h1 : is (pk (op d st)) [105, 109, 112, 111, 114, 116]
  · rw [h1] at h
    simp only [Bool.false_eq_true, if_false] at h ⊢
    cases h2 : is (pk (op d st)) [118, 97, 114]
    · rw [h2] at h
      simp only [Bool.false_eq_true, if_false] at h ⊢
      cases h3 : is (pk (op d st)) [102, 117, 110]
      · rw [h3] at h
        simp only [Bool.false_eq_true, if_false] at h
        have := (sh_lt _).1.nf h
        cases this
      · rw [h3] at h
        simp only [if_true] at h ⊢
        have k1 := kw_w (show (kw [41] _).f = false from h)
        have f1 := (sh_lt _).1.nf h
        have k2 := pF_w (m := m) (hK.le ((tk_lt _).1.trans (op_lt d st).1)) f1
        have f2 := (pF_lt _ _ _).1.nf f1
        have k3 := tk_w f2
        have f3 := (tk_lt _).1.nf f2
        have k4 := op_w f3
        unfold moWt
        simp only [List.map_append, List.sum_append, List.map_cons, List.map_nil, List.sum_cons, List.sum_nil]
        unfold sh
        exact ⟨by omega, trivial⟩
    · rw [h2] at h
      simp only [if_true] at h ⊢
      rw [pV_eq] at h ⊢
      simp only at h ⊢
      have k1 := kw_w (show (kw [41] _).f = false from h)
      have f1 := (sh_lt _).1.nf h
      have k2 := nmP_w (st := (nmP (tk (op d st))).2) f1
      have f2 := (nmP_lt (nmP (tk (op d st))).2).1.nf f1
      have k3 := nmP_w f2
      have f3 := (nmP_lt _).1.nf f2
      have k4 := tk_w f3
      have f4 := (tk_lt _).1.nf f3
      have k5 := op_w f4
      unfold moWt
      simp only [List.map_append, List.sum_append, List.map_cons, List.map_nil, List.sum_cons, List.sum_nil]
      unfold sh
      exact ⟨by omega, trivial⟩
  · rw [h1] at h
    simp only [if_true] at h ⊢
    have k1 := kw_w (show (kw [41] _).f = false from h)
    have f1 := (sh_lt _).1.nf h
    have k3 := nmP_w f1
    have f3 := (nmP_lt _).1.nf f1
    have k4 := tk_w f3
    have f4 := (tk_lt _).1.nf f3
    have k5 := op_w f4
    unfold moWt
    simp only [List.map_append, List.sum_append, List.map_cons, List.map_nil, List.sum_cons, List.sum_nil]
    unfold sh
    exact ⟨by omega, trivial⟩
theorem pIs_w {K d m : Nat} : ∀ (n : Nat) (x : Mo) (st : Sr), Ok K st → (pIs K d n x st).2.f = false → moWt m (pIs K d n x st).1 + T (pIs K d n x st).2.r ≤ moWt m x + T st.r ∧ (pIs K d n x st).1.name = x.name
  | 0, x, st, _, _ => ⟨Nat.le_refl _, rfl⟩
  | n + 1, x, st, hK, h => by
    cases hc : brc st
    · rw [pIs_stop hc]; exact ⟨Nat.le_refl _, rfl⟩
    · rw [pIs_step hc] at h ⊢
      have h1 := pIs_w (m := m) n _ _ (hK.le (pI_lt K d x st).1) h
      have h2 := pI_w (m := m) hK ((pIs_le K d n _ _).nf h)
      exact ⟨by omega, h1.2.trans h2.2⟩
/-- A module that was read weighs no more than its words. -/
theorem pM_w {K m : Nat} {st : Sr} (hK : Ok K st) (h : (pM K st).2.f = false) : moW m (pM K st).1 ≤ T st.r := by
  have hd : pM K st = ((pIs K 1 K ⟨(nmP (m1 st)).1, [], [], []⟩ (nmP (m1 st)).2).1, sh (pIs K 1 K ⟨(nmP (m1 st)).1, [], [], []⟩ (nmP (m1 st)).2).2) := rfl
  rw [hd] at h ⊢
  have k1 := kw_w (show (kw [41] _).f = false from h)
  have f1 := (sh_lt _).1.nf h
  have hK2 : Ok K (nmP (m1 st)).2 := hK.le ((nmP_lt _).1.trans (m1_le st))
  obtain ⟨k2, e2⟩ := pIs_w (m := m) K _ _ hK2 f1
  have f2 := (pIs_le K 1 K _ _).nf f1
  have k3 := nmP_w f2
  have f3 := (nmP_lt _).1.nf f2
  have k4 := kw_w (show (kw [109, 111, 100, 117, 108, 101] (op 0 st)).f = false from f3)
  have f4 := (kw_lt _ _).1.nf (show (kw [109, 111, 100, 117, 108, 101] (op 0 st)).f = false from f3)
  have k5 := op_w f4
  have e5 : T (m1 st).r = T (kw [109, 111, 100, 117, 108, 101] (op 0 st)).r := rfl
  unfold moW strsW vasW
  rw [fusW_eq]
  simp only
  rw [e2]
  unfold moWt at k2
  simp only [List.map_nil, List.sum_nil] at k2
  simp only
  omega
end Rd

end Go.Proofs.YthcckfofpocbhabGreatDoor
