/- What one may see: maps of the call's own: from a name to a number, from a place to a number. -/
import Derived.Test.YtmhcameodlhloaaMA
import Derived.Test.YtmhcameodlhloaaCE
import Derived.Test.YtmhcameodlhloaaQT
import Derived.ProofKit
import Derived.DeepKeys4
import Derived.Maps.Own
import Derived.Maps.OwnOps
import Derived.Maps.OwnSet
import Derived.Maps.Views
namespace Go.Proofs.Ytmhcameodlhloaa
open Go.RowKit Go.Maps Go.WideMaps

theorem laidOutL : laidOutB Try.prog = true := by kernel_rfl
theorem strLawL : Keyed Try.prog 9 := string_keyed Try.underlying9
theorem placeRowL : 117 < Try.prog.types.size := of_decide_eq_true (by kernel_rfl)
theorem placeWideL : (match Try.prog.underlying 117 with | some (.array _ _) | some (.struct _) => true | _ => false) = true := by rw [Try.underlying117]
theorem placeKtL : Try.prog.keyTypeAt 2 117 = true := by kernel_rfl
set_option maxRecDepth 100000 in
theorem placeLawL : Keyed Try.prog 117 := Keyed.of_law (deep_law_laid (m := 2) laidOutL (by decide) placeRowL placeKtL placeWideL)
theorem placeTyL : Try.prog.keyType 117 = true := by kernel_rfl
theorem placeCellsL : Try.prog.cellsOf 117 = 2 := by kernel_rfl
theorem strCellsL : Try.prog.cellsOf 9 = 1 := by kernel_rfl
/-- What a struct of two strings reads as, as a key. -/
theorem key_twoL {P : Program} {k : TypeId} {f0 f1 : Field} (hk : P.underlying k = some (.struct #[f0, f1])) (hkt : P.keyType k = true) (hc : P.cellsOf k = 2) (h0 : P.underlying f0.type = some .string) (h1 : P.underlying f1.type = some .string)
    (c0 : P.cellsOf f0.type = 1) (c1 : P.cellsOf f1.type = 1) (o0 : f0.offset = 0) (o1 : f1.offset = 1) (n0 : (f0.name != "_") = true) (n1 : (f1.name != "_") = true) (ht : 0 < P.types.size) {a b : ByteArray} (ha : a.size ≤ maxLen) (hb : b.size ≤ maxLen) :
    ∃ kl, keyOf P k (.agg #[.string a, .string b]) = some kl := by
  obtain ⟨d, hd⟩ : ∃ d, P.types.size = d + 1 := Nat.exists_eq_succ_of_ne_zero (by omega)
  have e0 : P.keyLits (d + 1) f0.type [.string a] = some [.string a.data.toList] := by simp [Program.keyLits, h0, ha]
  have e1 : P.keyLits (d + 1) f1.type [.string b] = some [.string b.data.toList] := by simp [Program.keyLits, h1, hb]
  refine ⟨.string (keyBytes [.string a.data.toList, .string b.data.toList]), ?_⟩
  have e2 : P.keyLits (d + 1 + 1) k [.string a, .string b] = some [.string a.data.toList, .string b.data.toList] := by
    unfold Program.keyLits
    simp only [hk]
    rw [if_pos ⟨by rw [hc]; rfl, by simp [n0, n1]⟩]
    simp [c0, c1, o0, o1, e0, e1]
  simp [keyOf, hk, hkt, Value.formed, hc, hd, Value.cells, e2]
theorem zeroIntL (w : World) : (zeroValue 3).run Try.prog w = .ok (.int .i64 0) w := by kernel_rfl
/-- What a place reads as. -/
theorem placeKeyL {a b : ByteArray} (ha : a.size ≤ maxLen) (hb : b.size ≤ maxLen) : ∃ kl, keyOf Try.prog 117 (.agg #[.string a, .string b]) = some kl :=
  key_twoL Try.underlying117 placeTyL placeCellsL Try.underlying9 Try.underlying9 strCellsL strCellsL rfl rfl (by decide) (by decide) (Nat.lt_of_le_of_lt (Nat.zero_le _) placeRowL) ha hb
theorem key_neL {s t : ByteArray} (h : Nm.sameB s t = false) : (Lit.string s.data.toList) ≠ (Lit.string t.data.toList) := fun e => by
  injection e with e
  rw [Nm.sameB, ByteArray.toList_eq, ByteArray.toList_eq, e] at h
  simp at h
theorem key_eqL {s t : ByteArray} (h : Nm.sameB s t = true) : s = t := by
  rw [Nm.sameB, beq_iff_eq, ByteArray.toList_eq, ByteArray.toList_eq] at h
  exact ByteArray.ext (Array.toList_inj.1 h)
theorem sameB_refl (s : ByteArray) : Nm.sameB s s = true := by simp [Nm.sameB]

/-- The map in block b tells of names whether they are in p. -/
def SiM (w : World) (b n : Nat) (p : ByteArray → Bool) : Prop :=
  ∃ D : DataW Unit, w.ownsMap Try.prog 9 (plainElem Try.prog 3) b n D ∧ ∀ s : ByteArray, s.size ≤ maxLen → Maps.has D (.string s.data.toList) = p s
theorem SiM.same {w w' : World} {b n : Nat} {o : ByteArray → Bool} (h : SiM w b n o) (hb : w'.heap[b]? = w.heap[b]?) : SiM w' b n o := by
  obtain ⟨D, ⟨es, cl, h0, h1⟩, h2⟩ := h
  exact ⟨D, ⟨es, cl, by rw [hb]; exact h0, h1⟩, h2⟩
theorem SiM.lt {w : World} {b n : Nat} {o : ByteArray → Bool} (h : SiM w b n o) : b < w.heap.size := by
  obtain ⟨D, h1, _⟩ := h
  exact h1.lt
theorem SiM.new (w : World) : SiM (w.alloc (.map #[] 0)) w.heap.size 0 (fun _ => false) :=
  ⟨.map [], World.ownsMap_made _ _ _ _, fun _ _ => rfl⟩
theorem SiM.put {w : World} {b n : Nat} {o : ByteArray → Bool} (h : SiM w b n o) (hn : n < maxLen) {s : ByteArray} (hs : s.size ≤ maxLen) {v : Int} (hv : I64 v) :
    ∃ w', (Instr.mapUpdate 123 (.map (some b)) (.string s) (.int .i64 v)).run Try.prog w = .ok () w' ∧ SiM w' b (n + 1) (fun t => Nm.sameB t s || o t) ∧ w.grownBy w' (some b) := by
  obtain ⟨D, h1, h2⟩ := h
  have hwf : (Lit.int .i64 v).wf = true := by simpa [I64, Lit.wf, IntKind.min, IntKind.max, IntKind.signed, IntKind.bits] using hv
  obtain ⟨w', e, h3, h4⟩ := h1.update strLawL Try.underlying123 hn (keyOf_string_mk Try.underlying9 hs) (plainElem_int Try.underlying3 hwf)
  refine ⟨w', e, ⟨_, h3, fun t ht => ?_⟩, h4⟩
  cases hst : Nm.sameB t s with
  | true =>
    have := key_eqL hst
    subst this
    rw [has_put_same h1.isMap (show WideAt.IsKeyLit (.string t.data.toList) from trivial)]
    simp only [hst, Bool.true_or]
  | false =>
    rw [has_put_other (key_neL hst), h2 t ht]
    simp only [hst, Bool.false_or]
theorem SiM.lookOk {w : World} {b n : Nat} {o : ByteArray → Bool} (h : SiM w b n o) {s : ByteArray} (hs : s.size ≤ maxLen) :
    ∃ z : Int, (Instr.lookup 123 (.map (some b)) (.string s) true).run Try.prog w = .ok (.tuple #[.int .i64 z, .bool (o s)]) w := by
  obtain ⟨D, h1, h2⟩ := h
  obtain ⟨v, ps, e, h3⟩ := h1.look_ok strLawL Try.underlying123 (zeroIntL w) (zd := .lit (.int .i64 0)) (zp := []) (plainElem_int Try.underlying3 (by decide)) (keyOf_string_mk Try.underlying9 hs)
  obtain ⟨c, rfl, h4, _⟩ := plainElem_int_inv Try.underlying3 h3
  exact ⟨c, by rw [e, h2 s hs]⟩

/-- The map in block b tells of places their numbers. -/
def PlI (w : World) (b n : Nat) (o : ByteArray → ByteArray → Option Int) : Prop :=
  ∃ D : DataW Unit, w.ownsMap Try.prog 117 (plainElem Try.prog 3) b n D ∧ ∀ x y : ByteArray, x.size ≤ maxLen → y.size ≤ maxLen → ∀ kl, keyOf Try.prog 117 (.agg #[.string x, .string y]) = some kl →
    (Maps.has D kl = (o x y).isSome ∧ D.atKey kl (.lit (.int .i64 0)) = .lit (.int .i64 ((o x y).getD 0)))
theorem PlI.same {w w' : World} {b n : Nat} {o : ByteArray → ByteArray → Option Int} (h : PlI w b n o) (hb : w'.heap[b]? = w.heap[b]?) : PlI w' b n o := by
  obtain ⟨D, ⟨es, cl, h0, h1⟩, h2⟩ := h
  exact ⟨D, ⟨es, cl, by rw [hb]; exact h0, h1⟩, h2⟩
theorem PlI.lt {w : World} {b n : Nat} {o : ByteArray → ByteArray → Option Int} (h : PlI w b n o) : b < w.heap.size := by
  obtain ⟨D, h1, _⟩ := h
  exact h1.lt
theorem PlI.below {w w' : World} {b n : Nat} {o : ByteArray → ByteArray → Option Int} (h : PlI w b n o) (hb : Below w.heap.size w w') : PlI w' b n o := h.same (hb.block b h.lt)
theorem SiM.below {w w' : World} {b n : Nat} {o : ByteArray → Bool} (h : SiM w b n o) (hb : Below w.heap.size w w') : SiM w' b n o := h.same (hb.block b h.lt)
theorem PlI.ext {w : World} {b n : Nat} {o o' : ByteArray → ByteArray → Option Int} (h : PlI w b n o) (he : ∀ x y, o x y = o' x y) : PlI w b n o' := by
  obtain ⟨D, h1, h2⟩ := h
  exact ⟨D, h1, fun x y hx hy kl hk => by rw [← he]; exact h2 x y hx hy kl hk⟩
theorem PlI.mono {w : World} {b n n' : Nat} {o : ByteArray → ByteArray → Option Int} (h : PlI w b n o) (hn : n ≤ n') : PlI w b n' o := by
  obtain ⟨D, h1, h2⟩ := h
  exact ⟨D, h1.mono hn, h2⟩
theorem SiM.mono {w : World} {b n n' : Nat} {o : ByteArray → Bool} (h : SiM w b n o) (hn : n ≤ n') : SiM w b n' o := by
  obtain ⟨D, h1, h2⟩ := h
  exact ⟨D, h1.mono hn, h2⟩
theorem SiM.ext {w : World} {b n : Nat} {o o' : ByteArray → Bool} (h : SiM w b n o) (he : ∀ x, o x = o' x) : SiM w b n o' := by
  obtain ⟨D, h1, h2⟩ := h
  exact ⟨D, h1, fun x hx => by rw [← he]; exact h2 x hx⟩
theorem PlI.new (w : World) : PlI (w.alloc (.map #[] 0)) w.heap.size 0 (fun _ _ => none) :=
  ⟨.map [], World.ownsMap_made _ _ _ _, fun _ _ _ _ _ _ => ⟨rfl, rfl⟩⟩
theorem PlI.put {w : World} {b n : Nat} {o : ByteArray → ByteArray → Option Int} (h : PlI w b n o) (hn : n < maxLen) {x y : ByteArray} (hx : x.size ≤ maxLen) (hy : y.size ≤ maxLen) {v : Int} (hv : I64 v) :
    ∃ w', (Instr.mapUpdate 113 (.map (some b)) (.agg #[.string x, .string y]) (.int .i64 v)).run Try.prog w = .ok () w' ∧ PlI w' b (n + 1) (fun x' y' => if (Nm.sameB x x' && Nm.sameB y y') = true then some v else o x' y') ∧ w.grownBy w' (some b) := by
  obtain ⟨D, h1, h2⟩ := h
  obtain ⟨kl, hk⟩ := placeKeyL hx hy
  have hwf : (Lit.int .i64 v).wf = true := by simpa [I64, Lit.wf, IntKind.min, IntKind.max, IntKind.signed, IntKind.bits] using hv
  obtain ⟨w', e, h3, h4⟩ := h1.update placeLawL Try.underlying113 hn hk (plainElem_int Try.underlying3 hwf)
  refine ⟨w', e, ⟨_, h3, fun x' y' hx' hy' kl' hk' => ?_⟩, h4⟩
  cases hs : (Nm.sameB x x' && Nm.sameB y y') with
  | true =>
    simp only [Bool.and_eq_true] at hs
    have ex := key_eqL hs.1
    have ey := key_eqL hs.2
    subst ex ey
    rw [hk] at hk'
    cases hk'
    rw [has_put_same h1.isMap (placeLawL.key hk), atKey_put_same h1.isMap (placeLawL.key hk)]
    simp only [hs.1, hs.2, Bool.and_self, if_true]
    exact ⟨rfl, rfl⟩
  | false =>
    have hne : kl' ≠ kl := fun e => by
      rw [e] at hk'
      have := placeLawL.inj hk hk'
      simp at this
      rw [this.1, this.2] at hs
      simp [Nm.sameB] at hs
    rw [has_put_other hne, atKey_put_other hne]
    simp only [hs, Bool.false_eq_true, if_false]
    exact h2 x' y' hx' hy' kl' hk'
theorem PlI.lookOk {w : World} {b n : Nat} {o : ByteArray → ByteArray → Option Int} (h : PlI w b n o) {x y : ByteArray} (hx : x.size ≤ maxLen) (hy : y.size ≤ maxLen) :
    (Instr.lookup 113 (.map (some b)) (.agg #[.string x, .string y]) true).run Try.prog w = .ok (.tuple #[.int .i64 ((o x y).getD 0), .bool (o x y).isSome]) w := by
  obtain ⟨D, h1, h2⟩ := h
  obtain ⟨kl, hk⟩ := placeKeyL hx hy
  obtain ⟨v, ps, e, h3⟩ := h1.look_ok placeLawL Try.underlying113 (zeroIntL w) (zd := .lit (.int .i64 0)) (zp := []) (plainElem_int Try.underlying3 (by decide)) hk
  obtain ⟨k1, k2⟩ := h2 x y hx hy kl hk
  rw [k2] at h3
  obtain ⟨c, rfl, h4, _⟩ := plainElem_int_inv Try.underlying3 h3
  simp only [Prod.mk.injEq, DataW.lit.injEq, Lit.int.injEq, true_and] at h4
  rw [e, k1, h4.1]

namespace Lw
theorem lv_has {l : List Mo} {x y : ByteArray} (h : (l.find? fun m => Nm.sameB m.name x) = none) : lv l x y = none := by unfold lv; rw [h]; rfl
theorem lv_old {l : List Mo} {m : Mo} {x y : ByteArray} (h : (l.find? fun m => Nm.sameB m.name x).isSome = true) : lv (l ++ [m]) x y = lv l x y := by
  unfold lv
  rw [List.find?_append]
  obtain ⟨z, hz⟩ := Option.isSome_iff_exists.1 h
  rw [hz]; rfl
theorem lv_new {l : List Mo} {m : Mo} {x y : ByteArray} (h : (l.find? fun m => Nm.sameB m.name x) = none) : lv (l ++ [m]) x y = if Nm.sameB m.name x then (m.vars.find? fun v => Nm.sameB v.name y).map (·.level) else none := by
  unfold lv
  rw [List.find?_append, h]
  cases hs : Nm.sameB m.name x <;> simp [List.find?, hs]
/-- What the map tells behind the first j modules, and t variables of the next one. -/
def oAt (ss : List ByteArray) (l : List Mo) (nm : ByteArray) (vs : List Va) : ByteArray → ByteArray → Option Int := fun x y =>
  (lv (l ++ [⟨nm, [], vs, []⟩]) x y).map (Lat.indexI ss)
def hasM (l : List Mo) (s : ByteArray) : Bool := (l.find? fun m => Nm.sameB m.name s).isSome
theorem sameB_symm (s t : ByteArray) : Nm.sameB s t = Nm.sameB t s := by
  unfold Nm.sameB
  rw [Bool.eq_iff_iff]
  simp only [beq_iff_eq]
  exact eq_comm
theorem hasM_snoc (l : List Mo) (m : Mo) (s : ByteArray) : hasM (l ++ [m]) s = (Nm.sameB s m.name || hasM l s) := by
  unfold hasM
  rw [List.find?_append, sameB_symm s m.name]
  cases (l.find? fun m => Nm.sameB m.name s) with
  | some z => simp
  | none => cases hs : Nm.sameB m.name s <;> simp [List.find?, hs]
theorem lv_twice {l : List Mo} {m : Mo} (h : hasM l m.name = true) (x y : ByteArray) : lv (l ++ [m]) x y = lv l x y := by
  cases hx : (l.find? fun m => Nm.sameB m.name x) with
  | some z => exact lv_old (by rw [hx]; rfl)
  | none =>
    rw [lv_new hx, lv_has hx]
    cases hs : Nm.sameB m.name x with
    | false => rfl
    | true =>
      have := key_eqL hs
      subst this
      unfold hasM at h
      rw [hx] at h
      cases h
theorem oAt_start (ss : List ByteArray) (l : List Mo) (nm : ByteArray) (x y : ByteArray) : oAt ss l nm [] x y = (lv l x y).map (Lat.indexI ss) := by
  unfold oAt
  cases hx : (l.find? fun m => Nm.sameB m.name x) with
  | some z => rw [lv_old (by rw [hx]; rfl)]
  | none =>
    rw [lv_new hx, lv_has hx]
    cases Nm.sameB nm x <;> rfl
theorem oAt_end (ss : List ByteArray) (l : List Mo) (m : Mo) (x y : ByteArray) : oAt ss l m.name m.vars x y = (lv (l ++ [m]) x y).map (Lat.indexI ss) := by
  unfold oAt
  cases hx : (l.find? fun m => Nm.sameB m.name x) with
  | some z => rw [lv_old (by rw [hx]; rfl), lv_old (by rw [hx]; rfl)]
  | none => rw [lv_new hx, lv_new hx]
/-- Is a variable of that name among these? -/
theorem oAt_here {ss : List ByteArray} {l : List Mo} {nm : ByteArray} (h : hasM l nm = false) (vs : List Va) (y : ByteArray) : oAt ss l nm vs nm y = ((vs.find? fun v => Nm.sameB v.name y).map (·.level)).map (Lat.indexI ss) := by
  unfold oAt
  have hx : (l.find? fun m => Nm.sameB m.name nm) = none := by
    unfold hasM at h
    cases hz : (l.find? fun m => Nm.sameB m.name nm) with
    | none => rfl
    | some z => rw [hz] at h; cases h
  rw [lv_new hx, if_pos (sameB_refl nm)]
theorem oAt_put {ss : List ByteArray} {l : List Mo} {nm : ByteArray} (h : hasM l nm = false) {vs : List Va} {v : Va} (hv : oAt ss l nm vs nm v.name = none) (x y : ByteArray) :
    (if (Nm.sameB nm x && Nm.sameB v.name y) = true then some (Lat.indexI ss v.level) else oAt ss l nm vs x y) = oAt ss l nm (vs ++ [v]) x y := by
  rw [oAt_here h] at hv
  have hv' : (vs.find? fun u => Nm.sameB u.name v.name) = none := by
    cases hz : (vs.find? fun u => Nm.sameB u.name v.name) with
    | none => rfl
    | some z => rw [hz] at hv; cases hv
  cases hs : Nm.sameB nm x with
  | false =>
    unfold oAt
    cases hx : (l.find? fun m => Nm.sameB m.name x) with
    | some z => rw [lv_old (by rw [hx]; rfl), lv_old (by rw [hx]; rfl)]; simp
    | none => rw [lv_new hx, lv_new hx]; simp [hs]
  | true =>
    have := key_eqL hs
    subst this
    rw [oAt_here h, oAt_here h, List.find?_append]
    cases hy : Nm.sameB v.name y with
    | true =>
      have := key_eqL hy
      subst this
      rw [hv']
      simp [List.find?, sameB_refl]
    | false => simp [List.find?, hy]
theorem oAt_skip {ss : List ByteArray} {l : List Mo} {nm : ByteArray} (h : hasM l nm = false) {vs : List Va} {v : Va} (hv : (oAt ss l nm vs nm v.name).isSome = true) (x y : ByteArray) : oAt ss l nm vs x y = oAt ss l nm (vs ++ [v]) x y := by
  rw [oAt_here h] at hv
  cases hs : Nm.sameB nm x with
  | false =>
    unfold oAt
    cases hx : (l.find? fun m => Nm.sameB m.name x) with
    | some z => rw [lv_old (by rw [hx]; rfl), lv_old (by rw [hx]; rfl)]
    | none => rw [lv_new hx, lv_new hx]; simp [hs]
  | true =>
    have := key_eqL hs
    subst this
    rw [oAt_here h, oAt_here h, List.find?_append]
    cases hy : Nm.sameB v.name y with
    | true =>
      have := key_eqL hy
      subst this
      cases hz : (vs.find? fun u => Nm.sameB u.name v.name) with
      | none => rw [hz] at hv; cases hv
      | some z => rfl
    | false => cases (vs.find? fun u => Nm.sameB u.name y) <;> simp [List.find?, hy]
end Lw

end Go.Proofs.Ytmhcameodlhloaa
