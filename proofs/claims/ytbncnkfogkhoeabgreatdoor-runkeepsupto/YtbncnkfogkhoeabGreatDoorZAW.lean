/- Reading modules, as plain functions of the words that are left. -/
import Derived.Test.YtbncnkfogkhoeabGreatDoorZAA
import Derived.Lib.Atoi
import Derived.Test.YtbncnkfogkhoeabGreatDoorZAO
import Derived.Test.YtbncnkfogkhoeabGreatDoorZAV
import Derived.Test.YtbncnkfogkhoeabGreatDoorChecked
import Derived.Test.YtbncnkfogkhoeabGreatDoorZAB
import Derived.Deep.QuietTactic
import Derived.BigQuiet
namespace Go.Proofs.YtbncnkfogkhoeabGreatDoor
open Go.RowKit

namespace Rd
/-- Where a reader stands: the words that are left, and has one failed? -/
structure Sr where
  r : List ByteArray
  f : Bool

def is (w : ByteArray) (l : List UInt8) : Bool := w.data.toList == l
def pkN (st : Sr) (n : Nat) : ByteArray := if st.f then ⟨#[]⟩ else st.r.getD n ⟨#[]⟩
def pk (st : Sr) : ByteArray := pkN st 0
def fl (st : Sr) : Sr := ⟨st.r, true⟩
def tk (st : Sr) : Sr := if is (pk st) [] then fl st else ⟨st.r.tail, st.f⟩
def kw (l : List UInt8) (st : Sr) : Sr := if is (pk st) l then tk st else fl st
def mx (d : Nat) (st : Sr) : Sr := if d = 20 then fl st else st
def op (d : Nat) (st : Sr) : Sr := kw [40] (mx d st)
def sh (st : Sr) : Sr := kw [41] st
def plain (w : ByteArray) : Bool := !is w [] && !is w [40] && !is w [41]
def nm (st : Sr) : Sr := if plain (pk st) then st else fl st
def digitB (c : UInt8) : Bool := decide (48 ≤ c.toNat) && decide (c.toNat ≤ 57)
def digs (w : ByteArray) : Bool := w.data.toList.all digitB && !is w []
def badN (w : ByteArray) : Bool := decide (6 < w.size) || (decide (1 < w.size) && (w.data.toList.getD 0 0 == 48))
def nu (st : Sr) : Sr := if badN (pk st) then fl st else st
def numV (w : ByteArray) : Int := (Lib.atoi w.data.toList).getD 0
def opc (w : ByteArray) : Bool := is w [43] || is w [45] || is w [42] || is w [60] || is w [61]
def cmd (w : ByteArray) : Int := if is w [115, 101, 116] then 1 else if is w [105, 102] then 2 else if is w [119, 104, 105, 108, 101] then 3 else if is w [112, 114, 105, 110, 116] then 4 else 0

/-- As long as c holds, one after another. -/
def loop {α : Type} (c : Sr → Bool) (g : Sr → α × Sr) : Nat → Sr → List α × Sr
  | 0, st => ([], st)
  | n + 1, st => if c st then ((g st).1 :: (loop c g n (g st).2).1, (loop c g n (g st).2).2) else ([], st)

def brc (st : Sr) : Bool := is (pk st) [40]
def plc (st : Sr) : Bool := plain (pk st)
def argc (st : Sr) : Bool := is (pk st) [40] || plain (pk st)
def bodyc (st : Sr) : Bool := is (pk st) [40] && decide (cmd (pkN st 1) ≠ 0)

def nmP (st : Sr) : ByteArray × Sr := (pk (nm st), tk (nm st))
def nmE (st : Sr) : Ex × Sr := (⟨2, 0, pk (nm st), []⟩, tk (nm st))
def nuE (st : Sr) : Ex × Sr := (⟨1, numV (pk (nu st)), ⟨#[]⟩, []⟩, tk (nu st))
def opE (pe : Sr → Ex × Sr) (s1 : Sr) : Ex × Sr := (⟨3, 0, pk s1, [(pe (tk s1)).1, (pe (pe (tk s1)).2).1]⟩, sh (pe (pe (tk s1)).2).2)
def caE (pe : Sr → Ex × Sr) (n : Nat) (s2 : Sr) : Ex × Sr := (⟨4, 0, pk (nm s2), (loop argc pe n (tk (nm s2))).1⟩, sh (loop argc pe n (tk (nm s2))).2)
def cE (pe : Sr → Ex × Sr) (n d : Nat) (st : Sr) : Ex × Sr :=
  if opc (pk (op d st)) then opE pe (op d st)
  else if is (pk (op d st)) [99, 97, 108, 108] then caE pe n (tk (op d st))
  else (⟨0, 0, ⟨#[]⟩, []⟩, sh (fl (op d st)))
/-- expr. -/
def pE : Nat → Nat → Sr → Ex × Sr
  | 0, _, st => nmE st
  | k + 1, d, st => if is (pk st) [40] then cE (pE k (d + 1)) k d st else if digs (pk st) then nuE st else nmE st

def blk (g : Sr → St × Sr) (n d : Nat) (st : Sr) : List St × Sr := ((loop brc g n (op d st)).1, sh (loop brc g n (op d st)).2)
def s2 (d : Nat) (st : Sr) : Sr := if cmd (pk (op d st)) = 0 then fl (op d st) else op d st
def s3 (d : Nat) (st : Sr) : Sr := tk (s2 d st)
def naB (kd : Int) : Bool := decide (kd = 1) || decide (kd = 4)
def s4 (d : Nat) (st : Sr) : ByteArray × Sr := if naB (cmd (pk (op d st))) then nmP (s3 d st) else (⟨#[]⟩, s3 d st)
def aB (kd : Int) : Bool := decide (kd = 2) || decide (kd = 3)
/-- command. -/
def pS (K : Nat) : Nat → Nat → Sr → St × Sr
  | 0, _, st => (⟨0, ⟨#[]⟩, ⟨0, 0, ⟨#[]⟩, []⟩, [], []⟩, st)
  | k + 1, d, st =>
    let kd := cmd (pk (op d st))
    let e := pE K (d + 1) (s4 d st).2
    let a := if aB kd then blk (pS K k (d + 2)) k (d + 1) e.2 else ([], e.2)
    let b := if kd = 2 then blk (pS K k (d + 2)) k (d + 1) a.2 else ([], a.2)
    (⟨kd, (s4 d st).1, e.1, a.1, b.1⟩, sh b.2)

def pars (n d : Nat) (st : Sr) : List ByteArray × Sr := ((loop plc nmP n (op d st)).1, sh (loop plc nmP n (op d st)).2)
/-- fun. -/
def pF (K d : Nat) (st : Sr) : Fu × Sr :=
  let ps := pars K d (nmP st).2
  let b := loop bodyc (pS K K d) K ps.2
  let e := pE K d b.2
  (⟨(nmP st).1, ps.1, b.1, e.1⟩, e.2)
def pV (st : Sr) : Va × Sr := (⟨(nmP st).1, (nmP (nmP st).2).1⟩, (nmP (nmP st).2).2)
/-- item. -/
def pI (K d : Nat) (m : Mo) (st : Sr) : Mo × Sr :=
  if is (pk (op d st)) [105, 109, 112, 111, 114, 116] then ({ m with imports := m.imports ++ [(nmP (tk (op d st))).1] }, sh (nmP (tk (op d st))).2)
  else if is (pk (op d st)) [118, 97, 114] then ({ m with vars := m.vars ++ [(pV (tk (op d st))).1] }, sh (pV (tk (op d st))).2)
  else if is (pk (op d st)) [102, 117, 110] then ({ m with funs := m.funs ++ [(pF K (d + 1) (tk (op d st))).1] }, sh (pF K (d + 1) (tk (op d st))).2)
  else (m, sh (fl (op d st)))
def pIs (K d : Nat) : Nat → Mo → Sr → Mo × Sr
  | 0, m, st => (m, st)
  | n + 1, m, st => if brc st then pIs K d n (pI K d m st).1 (pI K d m st).2 else (m, st)
def m1 (st : Sr) : Sr := kw [109, 111, 100, 117, 108, 101] (op 0 st)
/-- module. -/
def pM (K : Nat) (st : Sr) : Mo × Sr :=
  let x := pIs K 1 K ⟨(nmP (m1 st)).1, [], [], []⟩ (nmP (m1 st)).2
  (x.1, sh x.2)
def pEnd (st : Sr) : Sr := if is (pk st) [] then st else fl st

/-! ### What is left grows never; what goes on without a failure takes a word. -/
/-- st' comes behind st: a failure stays, and no word comes back. -/
def Le (st' st : Sr) : Prop := (st.f = true → st'.f = true) ∧ st'.r.length ≤ st.r.length
/-- st' failed, or has a word less. -/
def Lt (st' st : Sr) : Prop := Le st' st ∧ (st'.f = true ∨ st'.r.length < st.r.length)
theorem Le.refl (st : Sr) : Le st st := ⟨id, Nat.le_refl _⟩
theorem Le.trans {a b c : Sr} (h : Le a b) (k : Le b c) : Le a c := ⟨fun e => h.1 (k.1 e), Nat.le_trans h.2 k.2⟩
theorem Lt.le {a b : Sr} (h : Lt a b) : Le a b := h.1
theorem Lt.trans_le {a b c : Sr} (h : Lt a b) (k : Le b c) : Lt a c := ⟨h.1.trans k, h.2.elim Or.inl (fun e => Or.inr (Nat.lt_of_lt_of_le e k.2))⟩
theorem Le.trans_lt {a b c : Sr} (h : Le a b) (k : Lt b c) : Lt a c := ⟨h.trans k.1, k.2.elim (fun e => Or.inl (h.1 e)) (fun e => Or.inr (Nat.lt_of_le_of_lt h.2 e))⟩
theorem fl_le (st : Sr) : Le (fl st) st := ⟨fun _ => rfl, Nat.le_refl _⟩
theorem fl_lt (st : Sr) : Lt (fl st) st := ⟨fl_le st, Or.inl rfl⟩
theorem pk_failed {st : Sr} (h : st.f = true) (n : Nat) : pkN st n = ⟨#[]⟩ := by unfold pkN; rw [if_pos h]
theorem is_self (w : ByteArray) : is w w.data.toList = true := by simp [is]
theorem tk_lt (st : Sr) : Lt (tk st) st := by
  unfold tk
  split
  · exact fl_lt st
  · rename_i h
    refine ⟨⟨id, by simp⟩, ?_⟩
    cases hr : st.r with
    | nil =>
      exfalso; apply h
      unfold pk pkN
      rw [hr]
      cases st.f <;> rfl
    | cons a l => right; simp
theorem kw_lt (l : List UInt8) (st : Sr) : Lt (kw l st) st := by
  unfold kw
  split
  · exact tk_lt st
  · exact fl_lt st
theorem mx_le (d : Nat) (st : Sr) : Le (mx d st) st := by
  unfold mx
  split
  · exact fl_le st
  · exact Le.refl st
theorem op_lt (d : Nat) (st : Sr) : Lt (op d st) st := (kw_lt _ _).trans_le (mx_le d st)
theorem sh_lt (st : Sr) : Lt (sh st) st := kw_lt _ _
theorem nm_le (st : Sr) : Le (nm st) st := by
  unfold nm
  split
  · exact Le.refl st
  · exact fl_le st
theorem nmP_lt (st : Sr) : Lt (nmP st).2 st := (tk_lt _).trans_le (nm_le st)
theorem nu_le (st : Sr) : Le (nu st) st := by
  unfold nu
  split
  · exact fl_le st
  · exact Le.refl st
theorem nuE_lt (st : Sr) : Lt (nuE st).2 st := (tk_lt _).trans_le (nu_le st)
theorem nmE_lt (st : Sr) : Lt (nmE st).2 st := (tk_lt _).trans_le (nm_le st)
theorem loop_le {α : Type} {c : Sr → Bool} {g : Sr → α × Sr} (hg : ∀ st, Le (g st).2 st) : ∀ (n : Nat) (st : Sr), Le (loop c g n st).2 st
  | 0, st => Le.refl st
  | n + 1, st => by
    simp only [loop]
    split
    · exact (loop_le hg n _).trans (hg st)
    · exact Le.refl st
theorem cE_lt {pe : Sr → Ex × Sr} (hg : ∀ st, Lt (pe st).2 st) (n d : Nat) (st : Sr) : Lt (cE pe n d st).2 st := by
  unfold cE opE caE
  split
  · exact (((sh_lt _).trans_le (hg _).le).trans_le (hg _).le).trans_le ((tk_lt _).le.trans (op_lt d st).le)
  · split
    · exact ((sh_lt _).trans_le (loop_le (fun s => (hg s).le) _ _)).trans_le ((nmP_lt _).le.trans ((tk_lt _).le.trans (op_lt d st).le))
    · exact (sh_lt _).trans_le ((fl_le _).trans (op_lt d st).le)
theorem pE_lt : ∀ (k d : Nat) (st : Sr), Lt (pE k d st).2 st
  | 0, _, st => nmE_lt st
  | k + 1, d, st => by
    simp only [pE]
    split
    · exact cE_lt (pE_lt k (d + 1)) k d st
    · split
      · exact nuE_lt st
      · exact nmE_lt st
theorem blk_lt {g : Sr → St × Sr} (hg : ∀ st, Le (g st).2 st) (n d : Nat) (st : Sr) : Lt (blk g n d st).2 st :=
  ((sh_lt _).trans_le (loop_le hg _ _)).trans_le (op_lt d st).le
theorem s2_le (d : Nat) (st : Sr) : Le (s2 d st) (op d st) := by
  unfold s2
  split
  · exact fl_le _
  · exact Le.refl _
theorem s3_lt (d : Nat) (st : Sr) : Lt (s3 d st) (op d st) := (tk_lt _).trans_le (s2_le d st)
theorem s4_le (d : Nat) (st : Sr) : Le (s4 d st).2 (s3 d st) := by
  unfold s4
  split
  · exact (nmP_lt _).le
  · exact Le.refl _
theorem pS_le (K : Nat) : ∀ (k d : Nat) (st : Sr), Le (pS K k d st).2 st
  | 0, _, st => Le.refl st
  | k + 1, d, st => by
    simp only [pS]
    have h0 : Le (pE K (d + 1) (s4 d st).2).2 st := (pE_lt _ _ _).le.trans ((s4_le d st).trans ((s3_lt d st).le.trans (op_lt d st).le))
    refine (sh_lt _).le.trans ?_
    have ha : Le (if aB (cmd (pk (op d st))) then blk (pS K k (d + 2)) k (d + 1) (pE K (d + 1) (s4 d st).2).2 else ([], (pE K (d + 1) (s4 d st).2).2)).2 st := by
      split
      · exact (blk_lt (pS_le K k (d + 2)) _ _ _).le.trans h0
      · exact h0
    split
    · exact (blk_lt (pS_le K k (d + 2)) _ _ _).le.trans ha
    · exact ha
theorem pS_lt (K k d : Nat) (st : Sr) : Lt (pS K (k + 1) d st).2 st := by
  simp only [pS]
  have h0 : Lt (pE K (d + 1) (s4 d st).2).2 st := (pE_lt _ _ _).trans_le ((s4_le d st).trans ((s3_lt d st).le.trans (op_lt d st).le))
  refine (sh_lt _).le.trans_lt ?_
  have ha : Lt (if aB (cmd (pk (op d st))) then blk (pS K k (d + 2)) k (d + 1) (pE K (d + 1) (s4 d st).2).2 else ([], (pE K (d + 1) (s4 d st).2).2)).2 st := by
    split
    · exact (blk_lt (pS_le K k (d + 2)) _ _ _).le.trans_lt h0
    · exact h0
  split
  · exact (blk_lt (pS_le K k (d + 2)) _ _ _).le.trans_lt ha
  · exact ha
theorem pars_lt (n d : Nat) (st : Sr) : Lt (pars n d st).2 st := ((sh_lt _).trans_le (loop_le (fun s => (nmP_lt s).le) _ _)).trans_le (op_lt d st).le
theorem pF_lt (K d : Nat) (st : Sr) : Lt (pF K d st).2 st :=
  (pE_lt _ _ _).trans_le ((loop_le (fun s => pS_le K K d s) _ _).trans ((pars_lt _ _ _).le.trans (nmP_lt st).le))
theorem pV_lt (st : Sr) : Lt (pV st).2 st := (nmP_lt _).trans_le (nmP_lt st).le
theorem pI_lt (K d : Nat) (m : Mo) (st : Sr) : Lt (pI K d m st).2 st := by
  have h0 : Le (tk (op d st)) st := (tk_lt _).le.trans (op_lt d st).le
  have h1 := (sh_lt _).trans_le ((nmP_lt (tk (op d st))).le.trans h0)
  have h2 := (sh_lt _).trans_le ((pV_lt (tk (op d st))).le.trans h0)
  have h3 := (sh_lt _).trans_le ((pF_lt K (d + 1) (tk (op d st))).le.trans h0)
  have h4 := (sh_lt _).trans_le ((fl_le (op d st)).trans (op_lt d st).le)
  unfold pI
  cases is (pk (op d st)) [105, 109, 112, 111, 114, 116]
  · cases is (pk (op d st)) [118, 97, 114]
    · cases is (pk (op d st)) [102, 117, 110]
      · simp only [Bool.false_eq_true, if_false]; exact h4
      · simp only [Bool.false_eq_true, if_false, if_true]; exact h3
    · simp only [Bool.false_eq_true, if_false, if_true]; exact h2
  · simp only [if_true]; exact h1
theorem pIs_le (K d : Nat) : ∀ (n : Nat) (m : Mo) (st : Sr), Le (pIs K d n m st).2 st
  | 0, m, st => Le.refl st
  | n + 1, m, st => by
    simp only [pIs]
    split
    · exact (pIs_le K d n _ _).trans (pI_lt K d m st).le
    · exact Le.refl st
theorem m1_le (st : Sr) : Le (m1 st) st := (kw_lt _ _).le.trans (op_lt 0 st).le
theorem pM_le (K : Nat) (st : Sr) : Le (pM K st).2 st := (sh_lt _).le.trans ((pIs_le K 1 K _ _).trans ((nmP_lt _).le.trans (m1_le st)))

/-- Fuel k is enough. -/
def Ok (k : Nat) (st : Sr) : Prop := st.f = true ∨ st.r.length < k
theorem Ok.le {k : Nat} {a b : Sr} (h : Ok k b) (hl : Le a b) : Ok k a := h.elim (fun e => Or.inl (hl.1 e)) (fun e => Or.inr (Nat.lt_of_le_of_lt hl.2 e))
theorem Ok.lt {k : Nat} {a b : Sr} (h : Ok (k + 1) b) (hl : Lt a b) : Ok k a := by
  rcases h with h | h
  · exact Or.inl (hl.1.1 h)
  · exact hl.2.elim Or.inl (fun e => Or.inr (by omega))
theorem Ok.mono {k n : Nat} {a : Sr} (h : Ok k a) (hk : k ≤ n) : Ok n a := h.elim Or.inl (fun e => Or.inr (by omega))
theorem pk_ne {st : Sr} {n : Nat} {l : List UInt8} (h : is (pkN st n) l = true) (hl : l ≠ []) : st.f = false := by
  cases hf : st.f
  · rfl
  · rw [pk_failed hf] at h
    unfold is at h
    exact absurd (beq_iff_eq.1 h).symm hl
theorem plain_ne {st : Sr} (h : plain (pk st) = true) : st.f = false := by
  cases hf : st.f
  · rfl
  · unfold pk at h
    rw [pk_failed hf] at h
    cases h
theorem brc_ne {st : Sr} (h : brc st = true) : st.f = false := pk_ne (n := 0) h (by simp)
theorem argc_ne {st : Sr} (h : argc st = true) : st.f = false := by
  unfold argc at h
  rcases Bool.or_eq_true_iff.1 h with h | h
  · exact pk_ne (n := 0) h (by simp)
  · exact plain_ne h
theorem bodyc_ne {st : Sr} (h : bodyc st = true) : st.f = false := by
  unfold bodyc at h
  exact pk_ne (n := 0) (Bool.and_eq_true_iff.1 h).1 (by simp)
/-- Fuel for one more round. -/
theorem Ok.pos {k : Nat} {st : Sr} (h : Ok k st) (hf : st.f = false) : ∃ j, k = j + 1 := by
  rcases h with h | h
  · rw [hf] at h; cases h
  · exact ⟨k - 1, by omega⟩
/-- One round of a loop. -/
theorem loop_step {α : Type} {c : Sr → Bool} {g : Sr → α × Sr} {n : Nat} {st : Sr} (hc : c st = true) : loop c g (n + 1) st = ((g st).1 :: (loop c g n (g st).2).1, (loop c g n (g st).2).2) := by
  simp only [loop]; rw [if_pos hc]
theorem loop_stop {α : Type} {c : Sr → Bool} {g : Sr → α × Sr} {n : Nat} {st : Sr} (hc : c st = false) : loop c g n st = ([], st) := by
  cases n with
  | zero => rfl
  | succ n => simp only [loop]; rw [if_neg (by rw [hc]; simp)]
end Rd

end Go.Proofs.YtbncnkfogkhoeabGreatDoor

/- The words of a module's text. -/
namespace Go.Proofs.YtbncnkfogkhoeabGreatDoor
open Go.RowKit

namespace Tk
abbrev o : ByteArray := ⟨#[40]⟩
abbrev c : ByteArray := ⟨#[41]⟩
/-- The words of an expression. -/
def ex : Nat → Ex → List ByteArray
  | 0, _ => []
  | m + 1, x => if x.kind = 1 then [⟨(Lib.itoa x.n).toArray⟩] else if x.kind = 2 then [x.name]
    else if x.kind = 4 then o :: ([⟨#[99, 97, 108, 108]⟩] ++ ([x.name] ++ (x.args.map (ex m)).flatten)) ++ [c] else o :: ([x.name] ++ (x.args.map (ex m)).flatten) ++ [c]
def stk (et : Ex → List ByteArray) (bt : List St → List ByteArray) (s : St) : List ByteArray :=
  if s.kind = 1 then o :: ([⟨#[115, 101, 116]⟩] ++ ([s.name] ++ (et s.e ++ []))) ++ [c]
  else if s.kind = 4 then o :: ([⟨#[112, 114, 105, 110, 116]⟩] ++ ([s.name] ++ (et s.e ++ []))) ++ [c]
  else if s.kind = 3 then o :: ([⟨#[119, 104, 105, 108, 101]⟩] ++ (et s.e ++ ((o :: bt s.a ++ [c]) ++ []))) ++ [c]
  else o :: ([⟨#[105, 102]⟩] ++ (et s.e ++ ((o :: bt s.a ++ [c]) ++ ((o :: bt s.b ++ [c]) ++ [])))) ++ [c]
def bd : Nat → List St → List ByteArray
  | 0, _ => []
  | m + 1, l => (l.map (stk (ex m) (bd m))).flatten
def im (s : ByteArray) : List ByteArray := o :: ([⟨#[105, 109, 112, 111, 114, 116]⟩] ++ ([s] ++ [])) ++ [c]
def va (v : Va) : List ByteArray := o :: ([⟨#[118, 97, 114]⟩] ++ ([v.name] ++ ([v.level] ++ []))) ++ [c]
def fu (m : Nat) (f : Fu) : List ByteArray := o :: ([⟨#[102, 117, 110]⟩] ++ ([f.name] ++ ((o :: f.params ++ [c]) ++ (bd m f.body ++ (ex m f.result ++ []))))) ++ [c]
def mo (m : Nat) (x : Mo) : List ByteArray := o :: ([⟨#[109, 111, 100, 117, 108, 101]⟩] ++ ([x.name] ++ ((x.imports.map im).flatten ++ ((x.vars.map va).flatten ++ (x.funs.map (fu m)).flatten)))) ++ [c]
end Tk

namespace Lat
def dl (L : List ByteArray) : List (List UInt8) := L.map (·.data.toList)
/-- The text t has the words L. -/
def Lx (t : ByteArray) (L : List ByteArray) : Prop := (∀ acc, ∃ o, t.data.toList.foldl wstep (acc, false) = (acc ++ dl L, o)) ∧ ∀ b ∈ t.data.toList, okN b.toNat = true
/-- The texts l, each behind a blank, have the words L. -/
def LxT (l L : List ByteArray) : Prop := (∀ acc o, ∃ o', (Lib.joinTail [32] (dl l)).foldl wstep (acc, o) = (acc ++ dl L, o')) ∧ ∀ b ∈ Lib.joinTail [32] (dl l), okN b.toNat = true
theorem dl_app (a b : List ByteArray) : dl (a ++ b) = dl a ++ dl b := by unfold dl; rw [List.map_append]
theorem LxT.nil : LxT [] [] := ⟨fun acc o => ⟨o, by simp [dl, Lib.joinTail]⟩, fun b hb => by simp [dl, Lib.joinTail] at hb⟩
theorem step_blk (acc : List (List UInt8)) (o : Bool) : wstep (acc, o) 32 = (acc, false) := by unfold wstep; rw [if_pos (by decide)]
theorem LxT.cons {t : ByteArray} {l L1 L2 : List ByteArray} (h1 : Lx t L1) (h2 : LxT l L2) : LxT (t :: l) (L1 ++ L2) := by
  have e : Lib.joinTail [32] (dl (t :: l)) = 32 :: (t.data.toList ++ Lib.joinTail [32] (dl l)) := by simp [dl, Lib.joinTail]
  refine ⟨fun acc o => ?_, fun b hb => ?_⟩
  · obtain ⟨o1, e1⟩ := h1.1 acc
    obtain ⟨o2, e2⟩ := h2.1 (acc ++ dl L1) o1
    refine ⟨o2, ?_⟩
    rw [e, List.foldl_cons, step_blk, List.foldl_append, e1, e2, dl_app, List.append_assoc]
  · rw [e] at hb
    rcases List.mem_cons.1 hb with rfl | hb
    · decide
    · rcases List.mem_append.1 hb with hb | hb
      · exact h1.2 b hb
      · exact h2.2 b hb
theorem LxT.map {α : Type} {t : α → ByteArray} {f : α → List ByteArray} : ∀ {l : List α} {r R : List ByteArray}, (∀ y ∈ l, Lx (t y) (f y)) → LxT r R → LxT (l.map t ++ r) ((l.map f).flatten ++ R)
  | [], r, R, _, h2 => by simpa using h2
  | y :: l, r, R, h, h2 => by
    have := LxT.cons (h y (by simp)) (LxT.map (l := l) (fun z hz => h z (by simp [hz])) h2)
    simpa using this
theorem Lx.brk {l L : List ByteArray} (h : LxT l L) : Lx (Lat.brk l) (Tk.o :: L ++ [Tk.c]) := by
  have e1 : ∀ acc : List (List UInt8), wstep (acc, false) 40 = (acc ++ [[40]], false) := fun acc => by unfold wstep; rw [if_neg (by decide), if_pos (by decide)]
  have e2 : ∀ (acc : List (List UInt8)) (o : Bool), wstep (acc, o) 41 = (acc ++ [[41]], false) := fun acc o => by unfold wstep; rw [if_neg (by decide), if_pos (by decide)]
  have e3 : ∀ acc, ∃ o', (Lib.join (l.map (·.data.toList)) [32]).foldl wstep (acc, false) = (acc ++ dl L, o') := fun acc => by
    cases l with
    | nil =>
      obtain ⟨o', e⟩ := h.1 acc false
      refine ⟨o', ?_⟩
      rw [← e]; simp [dl, Lib.joinTail, Lib.join_nil]
    | cons x r =>
      obtain ⟨o', e⟩ := h.1 acc false
      refine ⟨o', ?_⟩
      rw [← e]
      have e5 : Lib.joinTail [32] (dl (x :: r)) = 32 :: (x.data.toList ++ Lib.joinTail [32] (dl r)) := by simp [dl, Lib.joinTail]
      rw [e5, List.foldl_cons, step_blk, List.map_cons, Lib.join_cons]
      rfl
  constructor
  · intro acc
    obtain ⟨o', e⟩ := e3 (acc ++ [[40]])
    refine ⟨false, ?_⟩
    rw [brk_list, List.foldl_cons, e1, List.foldl_append, e, List.foldl_cons, List.foldl_nil, e2]
    have e6 : dl (Tk.o :: L ++ [Tk.c]) = [40] :: (dl L ++ [[41]]) := by simp [dl]
    rw [e6]
    simp
  · intro b hb
    rw [brk_list] at hb
    rcases List.mem_cons.1 hb with rfl | hb
    · decide
    · rcases List.mem_append.1 hb with hb | hb
      · cases l with
        | nil => simp [Lib.join_nil] at hb
        | cons x r =>
          refine h.2 b ?_
          have e5 : Lib.joinTail [32] (dl (x :: r)) = 32 :: (x.data.toList ++ Lib.joinTail [32] (dl r)) := by simp [dl, Lib.joinTail]
          rw [e5]
          rw [List.map_cons, Lib.join_cons] at hb
          exact List.mem_cons_of_mem _ hb
      · rw [List.mem_singleton] at hb; subst hb; decide
theorem Lx.word {w : ByteArray} (h : wordW w.data.toList) : Lx w [w] := ⟨fun acc => by
    obtain ⟨o, e⟩ := fold_word w.data.toList acc h
    exact ⟨o, by rw [e]; rfl⟩, word_ok h⟩
theorem long_of {l : List UInt8} (h0 : l ≠ []) (h : ∀ b ∈ l, longN b.toNat = true) : longW l := ⟨h0, fun b hb => by
  have h1 := h b hb
  refine ⟨?_, ?_, h1⟩
  · unfold longN at h1
    unfold blankN
    simp only [Bool.or_eq_true, Bool.and_eq_true, decide_eq_true_eq, beq_iff_eq] at h1
    simp only [Bool.or_eq_false_iff, beq_eq_false_iff_ne]
    omega
  · unfold longN at h1
    unfold brackN
    simp only [Bool.or_eq_true, Bool.and_eq_true, decide_eq_true_eq, beq_iff_eq] at h1
    simp only [Bool.or_eq_false_iff, beq_eq_false_iff_ne]
    omega⟩
theorem letter_long {b : UInt8} (h : letterB b = true) : longN b.toNat = true := by
  unfold letterB at h
  unfold longN
  rw [h]; rfl
theorem name_long {l : List UInt8} (h : nameB l = true) : longW l := by
  unfold nameB at h
  simp only [Bool.and_eq_true, decide_eq_true_eq] at h
  exact long_of (fun e => by rw [e] at h; simp at h) (fun b hb => letter_long (List.all_eq_true.1 h.2 b hb))
theorem Lx.name {w : ByteArray} (h : strB w = true) : Lx w [w] := Lx.word (Or.inr (name_long h))
theorem op_cases {s : ByteArray} (h : opB s = true) : s = ⟨#[43]⟩ ∨ s = ⟨#[45]⟩ ∨ s = ⟨#[42]⟩ ∨ s = ⟨#[60]⟩ ∨ s = ⟨#[61]⟩ := by
  unfold opB at h
  have h1 := of_decide_eq_true h
  unfold indexI at h1
  cases hf : (List.range opS.length).find? (isAt opS s) with
  | none => rw [hf] at h1; simp at h1
  | some k =>
    obtain ⟨h2, h3⟩ := find_spec hf
    unfold isAt at h3
    have h4 := beq_iff_eq.1 h3
    rw [ByteArray.toList_eq, ByteArray.toList_eq] at h4
    have h5 : k < 5 := h2
    have h6 := bytes_ext h4
    obtain rfl | rfl | rfl | rfl | rfl : k = 0 ∨ k = 1 ∨ k = 2 ∨ k = 3 ∨ k = 4 := by omega
    · exact Or.inl h6
    · exact Or.inr (Or.inl h6)
    · exact Or.inr (Or.inr (Or.inl h6))
    · exact Or.inr (Or.inr (Or.inr (Or.inl h6)))
    · exact Or.inr (Or.inr (Or.inr (Or.inr h6)))
theorem op_long {s : ByteArray} (h : opB s = true) : longW s.data.toList := by
  rcases op_cases h with rfl | rfl | rfl | rfl | rfl <;> exact long_of (by simp) (by decide)
theorem dec_long (u : Nat) : ∀ b ∈ Lib.decDigits u, 48 ≤ b.toNat ∧ b.toNat ≤ 57 := by
  induction u using Nat.strongRecOn with
  | ind u ih =>
    intro b hb
    have key : ∀ v, v < 10 → 48 ≤ (UInt8.ofNat (48 + v)).toNat ∧ (UInt8.ofNat (48 + v)).toNat ≤ 57 := fun v hv => by
      rw [UInt8.toNat_ofNat']
      omega
    by_cases h : u < 10
    · rw [Lib.decDigits_one h, List.mem_singleton] at hb
      rw [hb]; exact key u h
    · rw [Lib.decDigits, dif_neg h] at hb
      rcases List.mem_append.1 hb with hb | hb
      · exact ih (u / 10) (by omega) b hb
      · rw [List.mem_singleton] at hb
        rw [hb]; exact key (u % 10) (by omega)
theorem dec_ne (u : Nat) : Lib.decDigits u ≠ [] := by
  intro e
  have := Lib.decDigits_length u
  have h2 := Lib.nDigits_pos u
  rw [e] at this
  simp at this
  omega
theorem num_long {n : Int} (h : 0 ≤ n) : longW (⟨(Lib.itoa n).toArray⟩ : ByteArray).data.toList := by
  obtain ⟨u, rfl⟩ := Int.eq_ofNat_of_zero_le h
  have e : (⟨(Lib.itoa (u : Int)).toArray⟩ : ByteArray).data.toList = Lib.decDigits u := by
    show (Lib.itoa (u : Int)).toArray.toList = _
    rw [Lib.itoa_nonneg]
  rw [e]
  exact long_of (dec_ne u) (fun b hb => by
    have := dec_long u b hb
    unfold longN
    simp only [Bool.or_eq_true, Bool.and_eq_true, decide_eq_true_eq, beq_iff_eq]
    omega)
theorem call_long {s : ByteArray} (h : callB s = true) : longW s.data.toList := by
  unfold callB at h
  rw [Bool.and_eq_true] at h
  obtain ⟨h1, h2⟩ := h
  unfold preS sufS at *
  cases hd : dotAt s with
  | none =>
    rw [hd] at h1
    exact name_long h1
  | some i =>
    rw [hd] at h1 h2
    simp only [Option.isSome_some, Bool.not_true, Bool.false_or] at h1 h2
    obtain ⟨hi, hdot⟩ := find_spec hd
    have hi' : i < s.data.toList.length := hi
    have hsplit : s.data.toList = (s.extract 0 i).data.toList ++ 46 :: (s.extract (i + 1) s.size).data.toList := by
      have e1 : (s.extract 0 i).data.toList = s.data.toList.take i := by rw [ByteArray.data_extract]; simp
      have e2 : (s.extract (i + 1) s.size).data.toList = s.data.toList.drop (i + 1) := by
        rw [ByteArray.data_extract]
        simp only [Array.toList_extract]
        rw [List.extract_eq_take_drop]
        exact List.take_of_length_le (by rw [List.length_drop, size_list]; omega)
      have e3 : s.data.toList[i] = 46 := by
        have := beq_iff_eq.1 hdot
        rw [List.getD, List.getElem?_eq_getElem hi'] at this
        exact this
      rw [e1, e2, ← e3, ← List.drop_eq_getElem_cons hi', List.take_append_drop]
    rw [hsplit]
    refine long_of (by simp) (fun b hb => ?_)
    rcases List.mem_append.1 hb with hb | hb
    · exact ((name_long h1).2 b hb).2.2
    · rcases List.mem_cons.1 hb with rfl | hb
      · decide
      · exact ((name_long h2).2 b hb).2.2

theorem exT_lx : ∀ (m : Nat) (x : Ex), exprB m x = true → Lx (exT m x) (Tk.ex m x)
  | 0, x, h => by cases h
  | m + 1, x, h => by
    simp only [exprB] at h
    simp only [exT, Tk.ex]
    by_cases k1 : x.kind = 1
    · rw [if_pos k1] at h
      simp only [Bool.and_eq_true, decide_eq_true_eq] at h
      rw [if_pos k1, if_pos k1]
      exact Lx.word (Or.inr (num_long h.1.1.1))
    · rw [if_neg k1] at h
      rw [if_neg k1, if_neg k1]
      by_cases k2 : x.kind = 2
      · rw [if_pos k2] at h
        simp only [Bool.and_eq_true] at h
        rw [if_pos k2, if_pos k2]
        exact Lx.word (Or.inr (name_long h.1.2))
      · rw [if_neg k2] at h
        rw [if_neg k2, if_neg k2]
        by_cases k3 : x.kind = 3
        · rw [if_pos k3] at h
          simp only [Bool.and_eq_true] at h
          rw [← op_text x (exT m) (by omega), if_neg (by omega)]
          have hm := LxT.map (l := x.args) (t := exT m) (f := Tk.ex m) (fun y hy => exT_lx m y (List.all_eq_true.1 h.2 y hy)) LxT.nil
          rw [List.append_nil, List.append_nil] at hm
          exact Lx.brk (LxT.cons (Lx.word (Or.inr (op_long h.1.1.2))) hm)
        · rw [if_neg k3] at h
          by_cases k4 : x.kind = 4
          · rw [if_pos k4] at h
            simp only [Bool.and_eq_true] at h
            rw [← call_text x (exT m) k4, if_pos k4]
            have hm := LxT.map (l := x.args) (t := exT m) (f := Tk.ex m) (fun y hy => exT_lx m y (List.all_eq_true.1 h.2 y hy)) LxT.nil
            rw [List.append_nil, List.append_nil] at hm
            exact Lx.brk (LxT.cons (Lx.word (Or.inr (long_of (by simp) (by decide)))) (LxT.cons (Lx.word (Or.inr (call_long h.1.1.2))) hm))
          · rw [if_neg k4] at h; cases h
theorem LxT.txs {m : Nat} {l : List St} (h : ∀ s ∈ l, Lx (stX m s) (Tk.stk (Tk.ex m) (Tk.bd m) s)) : LxT (txs (m + 1) l) (Tk.bd (m + 1) l) := by
  have := LxT.map h LxT.nil
  rw [List.append_nil, List.append_nil] at this
  exact this
theorem txs_lx : ∀ (m : Nat) (l : List St), bodyB m l = true → LxT (txs m l) (Tk.bd m l)
  | 0, l, h => by cases h
  | m + 1, l, h => by
    rw [bodyB_succ] at h
    refine LxT.txs (fun s hs => ?_)
    have h1 := List.all_eq_true.1 h s hs
    unfold stB at h1
    simp only [Bool.and_eq_true] at h1
    obtain ⟨⟨⟨hh, he⟩, ha⟩, hb⟩ := h1
    have we := exT_lx m s.e he
    have wa := txs_lx m s.a ha
    have wb := txs_lx m s.b hb
    unfold stH at hh
    unfold Tk.stk
    by_cases k1 : s.kind = 1
    · rw [if_pos (Or.inl k1)] at hh
      simp only [Bool.and_eq_true] at hh
      rw [if_pos k1, ← set_text m s k1]
      exact Lx.brk (LxT.cons (Lx.word (Or.inr (long_of (by simp) (by decide)))) (LxT.cons (Lx.name hh.1.1) (LxT.cons we LxT.nil)))
    · by_cases k4 : s.kind = 4
      · rw [if_pos (Or.inr k4)] at hh
        simp only [Bool.and_eq_true] at hh
        rw [if_neg k1, if_pos k4, ← print_text m s k4]
        exact Lx.brk (LxT.cons (Lx.word (Or.inr (long_of (by simp) (by decide)))) (LxT.cons (Lx.name hh.1.1) (LxT.cons we LxT.nil)))
      · rw [if_neg (by omega)] at hh
        by_cases k2 : s.kind = 2
        · rw [if_neg k1, if_neg k4, if_neg (by omega), ← if_text m s k2]
          exact Lx.brk (LxT.cons (Lx.word (Or.inr (long_of (by simp) (by decide)))) (LxT.cons we (LxT.cons (Lx.brk wa) (LxT.cons (Lx.brk wb) LxT.nil))))
        · rw [if_neg k2] at hh
          by_cases k3 : s.kind = 3
          · rw [if_neg k1, if_neg k4, if_pos k3, ← while_text m s k3]
            exact Lx.brk (LxT.cons (Lx.word (Or.inr (long_of (by simp) (by decide)))) (LxT.cons we (LxT.cons (Lx.brk wa) LxT.nil)))
          · rw [if_neg k3] at hh; cases hh
theorem LxT.app {a b A B : List ByteArray} (h1 : LxT a A) (h2 : LxT b B) : LxT (a ++ b) (A ++ B) := by
  have e : Lib.joinTail [32] (dl (a ++ b)) = Lib.joinTail [32] (dl a) ++ Lib.joinTail [32] (dl b) := by rw [dl_app, joinTail_app]
  refine ⟨fun acc o => ?_, fun x hx => ?_⟩
  · obtain ⟨o1, e1⟩ := h1.1 acc o
    obtain ⟨o2, e2⟩ := h2.1 (acc ++ dl A) o1
    exact ⟨o2, by rw [e, List.foldl_append, e1, e2, dl_app, List.append_assoc]⟩
  · rw [e] at hx
    rcases List.mem_append.1 hx with hx | hx
    · exact h1.2 x hx
    · exact h2.2 x hx
theorem fuX_lx {m : Nat} {f : Fu} (h : fuOk m f = true) : Lx (fuX m f) (Tk.fu m f) := by
  unfold fuOk at h
  simp only [Bool.and_eq_true] at h
  obtain ⟨⟨⟨hn, hb⟩, hx⟩, hp⟩ := h
  have hfl : [[(⟨#[102, 117, 110]⟩ : ByteArray), f.name, brk f.params], txs m f.body, [exT m f.result]].flatten = ⟨#[102, 117, 110]⟩ :: f.name :: brk f.params :: (txs m f.body ++ [exT m f.result]) := by simp
  unfold fuX Tk.fu
  rw [hfl]
  have hps : LxT f.params f.params := by
    have := LxT.map (l := f.params) (t := id) (f := fun s => [s]) (fun y hy => Lx.name (List.all_eq_true.1 hp y hy)) LxT.nil
    have e : ∀ l : List ByteArray, (l.map fun s => [s]).flatten = l := fun l => by induction l <;> simp_all
    rw [e] at this
    simpa using this
  exact Lx.brk (LxT.cons (Lx.word (Or.inr (long_of (by simp) (by decide)))) (LxT.cons (Lx.name hn) (LxT.cons (Lx.brk hps) (LxT.app (txs_lx m f.body hb) (LxT.cons (exT_lx m f.result hx) LxT.nil)))))
theorem moT_lx {m : Nat} {x : Mo} (hm : x.funs ≠ [] → m ≠ 0) (hn : strB x.name = true) (hi : x.imports.all strB = true) (hv : x.vars.all vaB = true) (hf : ∀ f ∈ x.funs, fuOk m f = true) : Lx (moT m x) (Tk.mo m x) := by
  rw [← moX_eq hm]
  have hfl : [[(⟨#[109, 111, 100, 117, 108, 101]⟩ : ByteArray), x.name], x.imports.map impX, x.vars.map vaX, x.funs.map (fuX m)].flatten = ⟨#[109, 111, 100, 117, 108, 101]⟩ :: x.name :: (x.imports.map impX ++ (x.vars.map vaX ++ x.funs.map (fuX m))) := by simp
  unfold moX Tk.mo
  rw [hfl]
  have hF := LxT.map (l := x.funs) (t := fuX m) (f := Tk.fu m) (fun y hy => fuX_lx (hf y hy)) LxT.nil
  rw [List.append_nil, List.append_nil] at hF
  have hV := LxT.map (l := x.vars) (t := vaX) (f := Tk.va) (fun y hy => by
    have hy' := List.all_eq_true.1 hv y hy
    unfold vaB at hy'
    simp only [Bool.and_eq_true] at hy'
    exact Lx.brk (LxT.cons (Lx.word (Or.inr (long_of (by simp) (by decide)))) (LxT.cons (Lx.name hy'.1) (LxT.cons (Lx.name hy'.2) LxT.nil)))) hF
  have hI := LxT.map (l := x.imports) (t := impX) (f := Tk.im) (fun y hy => Lx.brk (LxT.cons (Lx.word (Or.inr (long_of (by simp) (by decide)))) (LxT.cons (Lx.name (List.all_eq_true.1 hi y hy)) LxT.nil))) hV
  exact Lx.brk (LxT.cons (Lx.word (Or.inr (long_of (by simp) (by decide)))) (LxT.cons (Lx.name hn) hI))
/-- A text that has the words L, and isn't too long, is told as L. -/
theorem Lx.words {t : ByteArray} {L : List ByteArray} (h : Lx t L) (h4 : ¬ 4096 < t.size) : we t = 0 ∧ wds t = L := by
  have hb : badAt t = none := bad_none.2 h.2
  refine ⟨by unfold we; rw [if_neg h4, hb]; rfl, bytes_inj ?_⟩
  rw [wds_fold h4 hb]
  obtain ⟨o, e⟩ := h.1 []
  unfold wfold
  rw [e]; rfl
end Lat

end Go.Proofs.YtbncnkfogkhoeabGreatDoor

/- Walks over package parse: what is asked of one word. -/
namespace Go.Proofs.YtbncnkfogkhoeabGreatDoor
open Go.RowKit

theorem is_t {s : ByteArray} {l : List UInt8} (h : s.toList = l) : Rd.is s l = true := by unfold Rd.is; rw [← ByteArray.toList_eq, h]; simp
theorem is_f {s : ByteArray} {l : List UInt8} (h : ¬ s.toList = l) : Rd.is s l = false := by unfold Rd.is; rw [← ByteArray.toList_eq]; simpa using h
theorem of_t {s : ByteArray} {l : List UInt8} (h : Rd.is s l = true) : s.toList = l := by unfold Rd.is at h; rw [← ByteArray.toList_eq] at h; simpa using h
theorem of_f {s : ByteArray} {l : List UInt8} (h : Rd.is s l = false) : ¬ s.toList = l := by unfold Rd.is at h; rw [← ByteArray.toList_eq] at h; simpa using h
theorem beq_f {s : ByteArray} {l : List UInt8} (h : ¬ s.toList = l) : (s.toList == l) = false := by simpa using h

set_option maxHeartbeats 1000000 in
theorem isPlain_any (w : World) (s : ByteArray) :
    Calls Tryz.prog 79 #[.string s] w fun e w' => e = .returned (.bool (Rd.plain s)) ∧ w' = w := by
  have HP : Hid (Rd.plain s = (!Rd.is s [] && !Rd.is s [40] && !Rd.is s [41])) := rfl
  by_cases h0 : s.toList = []
  · rw [is_t h0] at HP
    go_enter Tryz.func79, Tryz.ntmps79
    go_wp2
    go_ret
    exact ⟨ret_bool (by rw [HP.out]; rfl), rfl⟩
  rw [is_f h0] at HP
  by_cases h1 : s.toList = [40]
  · rw [is_t h1] at HP
    go_enter Tryz.func79, Tryz.ntmps79
    go_wp2
    go_ret
    exact ⟨ret_bool (by rw [HP.out]; simp), rfl⟩
  rw [is_f h1] at HP
  by_cases h2 : s.toList = [41]
  · rw [is_t h2] at HP
    go_enter Tryz.func79, Tryz.ntmps79
    go_wp2
    go_ret
    exact ⟨ret_bool (by rw [HP.out]; simp), rfl⟩
  · rw [is_f h2] at HP
    go_enter Tryz.func79, Tryz.ntmps79
    go_wp2
    go_ret
    exact ⟨ret_bool (by rw [HP.out]; simp [h0, h1, h2]), rfl⟩

set_option maxHeartbeats 1000000 in
theorem pIsOp_any (w : World) (s : ByteArray) :
    Calls Tryz.prog 154 #[.string s] w fun e w' => e = .returned (.bool (Rd.opc s)) ∧ w' = w := by
  have HP : Hid (Rd.opc s = (Rd.is s [43] || Rd.is s [45] || Rd.is s [42] || Rd.is s [60] || Rd.is s [61])) := rfl
  by_cases h0 : s.toList = [43]
  · rw [is_t h0] at HP
    go_enter Tryz.func154, Tryz.ntmps154
    go_wp2
    go_ret
    exact ⟨ret_bool (by rw [HP.out]; rfl), rfl⟩
  rw [is_f h0] at HP
  have bh0 := beq_f h0
  by_cases h1 : s.toList = [45]
  · rw [is_t h1] at HP
    go_enter Tryz.func154, Tryz.ntmps154
    go_wp2
    go_ret
    exact ⟨ret_bool (by rw [HP.out]; rfl), rfl⟩
  rw [is_f h1] at HP
  have bh1 := beq_f h1
  by_cases h2 : s.toList = [42]
  · rw [is_t h2] at HP
    go_enter Tryz.func154, Tryz.ntmps154
    go_wp2
    go_ret
    exact ⟨ret_bool (by rw [HP.out]; rfl), rfl⟩
  rw [is_f h2] at HP
  have bh2 := beq_f h2
  by_cases h3 : s.toList = [60]
  · rw [is_t h3] at HP
    go_enter Tryz.func154, Tryz.ntmps154
    go_wp2
    go_ret
    exact ⟨ret_bool (by rw [HP.out]; rfl), rfl⟩
  rw [is_f h3] at HP
  have bh3 := beq_f h3
  by_cases h4 : s.toList = [61]
  · rw [is_t h4] at HP
    go_enter Tryz.func154, Tryz.ntmps154
    go_wp2
    go_ret
    exact ⟨ret_bool (by rw [HP.out]; rfl), rfl⟩
  · rw [is_f h4] at HP
    have bh4 := beq_f h4
    go_enter Tryz.func154, Tryz.ntmps154
    go_wp2
    go_ret
    exact ⟨ret_bool (by rw [HP.out]; rfl), rfl⟩

set_option maxHeartbeats 1000000 in
theorem cmdKind_any (w : World) (s : ByteArray) :
    Calls Tryz.prog 152 #[.string s] w fun e w' => e = .returned (.int .i64 (Rd.cmd s)) ∧ w' = w := by
  have HP : Hid (Rd.cmd s = if Rd.is s [115, 101, 116] then 1 else if Rd.is s [105, 102] then 2 else if Rd.is s [119, 104, 105, 108, 101] then 3 else if Rd.is s [112, 114, 105, 110, 116] then 4 else 0) := rfl
  by_cases h0 : s.toList = [115, 101, 116]
  · rw [is_t h0] at HP
    go_enter Tryz.func152, Tryz.ntmps152
    go_wp2
    go_ret
    exact ⟨ret_int (by rw [HP.out]; rfl), rfl⟩
  rw [is_f h0] at HP
  have bh0 := beq_f h0
  by_cases h1 : s.toList = [105, 102]
  · rw [is_t h1] at HP
    go_enter Tryz.func152, Tryz.ntmps152
    go_wp2
    go_ret
    exact ⟨ret_int (by rw [HP.out]; rfl), rfl⟩
  rw [is_f h1] at HP
  have bh1 := beq_f h1
  by_cases h2 : s.toList = [119, 104, 105, 108, 101]
  · rw [is_t h2] at HP
    go_enter Tryz.func152, Tryz.ntmps152
    go_wp2
    go_ret
    exact ⟨ret_int (by rw [HP.out]; rfl), rfl⟩
  rw [is_f h2] at HP
  have bh2 := beq_f h2
  by_cases h3 : s.toList = [112, 114, 105, 110, 116]
  · rw [is_t h3] at HP
    go_enter Tryz.func152, Tryz.ntmps152
    go_wp2
    go_ret
    exact ⟨ret_int (by rw [HP.out]; rfl), rfl⟩
  · rw [is_f h3] at HP
    have bh3 := beq_f h3
    go_enter Tryz.func152, Tryz.ntmps152
    go_wp2
    go_ret
    exact ⟨ret_int (by rw [HP.out]; rfl), rfl⟩

theorem cmd_range (s : ByteArray) : 0 ≤ Rd.cmd s ∧ Rd.cmd s ≤ 4 := by
  unfold Rd.cmd
  repeat' split
  all_goals decide

set_option maxHeartbeats 1000000 in
theorem isCommand_any (w : World) (s : ByteArray) :
    Calls Tryz.prog 132 #[.string s] w fun e w' => e = .returned (.bool (decide (Rd.cmd s ≠ 0))) ∧ w' = w := by
  go_enter Tryz.func132, Tryz.ntmps132
  go_wp2_with fail
  refine (cmdKind_any _ s).mono ?_
  rintro e w' ⟨rfl, hw⟩
  subst hw
  obtain ⟨c, hc⟩ : ∃ c, c = Rd.cmd s := ⟨_, rfl⟩
  have HC := hide hc
  rw [← hc]
  clear hc
  by_cases h : c = 0
  · subst h
    go_wp2
    go_ret
    exact ⟨ret_bool (by rw [← HC.out]; rfl), rfl⟩
  · have h' := bne_zero_true h
    go_wp2
    go_ret
    exact ⟨ret_bool (by rw [← HC.out]; simp [h]), rfl⟩

theorem digit_at (s : ByteArray) (k : Nat) (hk : k < s.size) : Rd.digitB s[k] = true ↔ (48 ≤ s[k].toNat ∧ s[k].toNat ≤ 57) := by
  unfold Rd.digitB; simp
theorem digs_all {s : ByteArray} (h : ∀ j (hj : j < s.size), Rd.digitB s[j] = true) : s.data.toList.all Rd.digitB = true := by
  rw [List.all_eq_true]
  intro x hx
  obtain ⟨j, hj, rfl⟩ := List.mem_iff_getElem.1 hx
  exact h j (by simpa using hj)
theorem digs_not {s : ByteArray} {j : Nat} (hj : j < s.size) (h : Rd.digitB s[j] = false) : s.data.toList.all Rd.digitB = false := by
  rw [List.all_eq_false]
  exact ⟨s[j], List.mem_iff_getElem.2 ⟨j, by simpa using hj, rfl⟩, by simp [h]⟩

set_option maxHeartbeats 1000000 in
theorem isDigits_any (w : World) (s : ByteArray) (hs : s.size ≤ maxLen) :
    Calls Tryz.prog 136 #[.string s] w fun e w' => e = .returned (.bool (Rd.digs s)) ∧ w' = w := by
  unfold maxLen at hs
  have HP : Hid (Rd.digs s = (s.data.toList.all Rd.digitB && !Rd.is s [])) := rfl
  go_enter Tryz.func136, Tryz.ntmps136
  go_wp2
  go_loop [3] (fun i => ∃ k : Nat, k ≤ s.size ∧ i = .int .i64 k ∧ ∀ d (hd : d < s.size), d < k → Rd.digitB s[d] = true) (fun i => s.size - (intOf i).toNat)
  case atStart => exact ⟨0, Nat.zero_le _, rfl, fun d _ hd => absurd hd (Nat.not_lt_zero _)⟩
  case round =>
    obtain ⟨k, hk, rfl, hall⟩ := hrel
    have HA := hide hall
    clear hall
    by_cases hlt : k < s.size
    · have HD := hide (digit_at s k hlt)
      by_cases c1 : 48 ≤ s[k].toNat
      · by_cases c2 : s[k].toNat ≤ 57
        · go_wp2
          go_round
          case rel => exact ⟨k + 1, by omega, by go_num, fun d hd hdk => by
              by_cases e : d = k
              · subst e; exact HD.out.2 ⟨c1, c2⟩
              · exact HA.out d hd (by omega)⟩
          case measure => simp [intOf]; omega
        · have HN : Hid (Rd.digitB s[k] = false) := hide (by
            cases hh : Rd.digitB s[k]
            · rfl
            · exact absurd (HD.out.1 hh).2 c2)
          go_wp2
          go_ret
          exact ⟨ret_bool (by rw [HP.out, digs_not hlt HN.out]; rfl), rfl⟩
      · have HN : Hid (Rd.digitB s[k] = false) := hide (by
            cases hh : Rd.digitB s[k]
            · rfl
            · exact absurd (HD.out.1 hh).1 c1)
        go_wp2
        go_ret
        exact ⟨ret_bool (by rw [HP.out, digs_not hlt HN.out]; rfl), rfl⟩
    · have HALL : Hid (s.data.toList.all Rd.digitB = true) := hide (digs_all (fun j hj => HA.out j hj (by omega)))
      by_cases h0 : s.toList = []
      · rw [is_t h0] at HP
        go_wp2
        go_ret
        exact ⟨ret_bool (by rw [HP.out, HALL.out]; simp), rfl⟩
      · rw [is_f h0] at HP
        go_wp2
        go_ret
        exact ⟨ret_bool (by rw [HP.out, HALL.out]; simp [h0]), rfl⟩

end Go.Proofs.YtbncnkfogkhoeabGreatDoor
