/- How a module that came in is opened: what its reading tells is a module as plain data, and its weight is at most the reading's bulk. -/
import Derived.Test.YtholefgckcoklaaGreatDoorRows
import Derived.Test.YtholefgckcoklaaGreatDoorZAF
import Derived.ProofKit
import Derived.OpenShut
import Derived.SliceStrings
import Derived.Lib.SmallJoins
import Derived.Test.YtholefgckcoklaaGreatDoorZAU
import Derived.DeepKeys4
import Derived.Maps.Own
import Derived.Maps.OwnOps
import Derived.Maps.OwnSet
import Derived.Maps.Views
namespace Go.Proofs.YtholefgckcoklaaGreatDoor
open Go.ChangeShapes Go.WideShapes Go.ChangeAt Go.RowKit Go.Deep Go.Joins
section
variable {H : Type} {enc : TypeId × Value → H} {W : World}
theorem open_elems {t e k : Nat} {fuel : Nat} {v : Value} {y : DataW H × List MemPlace} (ht : Tryz.prog.underlying t = some (.slice e)) (hk : Tryz.prog.cellsOf e = k) (hk0 : 0 < k)
    (h : DataW.trod enc Tryz.prog W 0 (fun _ => true) true fuel t [v] = some y) :
    ∃ (a : Option Addr) (b off len cap : Nat) (D : List (DataW H)), v = .slice a len cap ∧ (0 < len → a = some ⟨b, off, none⟩) ∧ len ≤ 9223372036854775807 ∧ D.length = len ∧ Rows.uptoBulkAll D + 1 ≤ Rows.uptoBulk y.1 ∧
      ∀ i, i < len → ∃ n cs d pl, fuel = n + 1 ∧ cs.length = k ∧ (∀ j, j < k → W.cell? ⟨b, off + i * k + j, none⟩ = cs[j]?) ∧ DataW.trod enc Tryz.prog W 0 (fun _ => true) true n e cs = some (d, pl) ∧ D[i]? = some d := by
  rcases DataW.trod_slice ht h with ⟨hcs, rfl⟩ | ⟨a, len, cap, elems, rest, n, hfuel, hcs, rfl, _, hl, hm, hlen, hel, _, _⟩
  · simp at hcs
    subst hcs
    exact ⟨none, 0, 0, 0, 0, [], rfl, fun h => absurd h (Nat.lt_irrefl _), by decide, rfl, by simp [Rows.uptoBulk, Rows.uptoBulkAll], fun i hi => absurd hi (Nat.not_lt_zero _)⟩
  · simp at hcs
    subst hcs
    unfold maxLen at hm
    obtain ⟨b, off, spot⟩ := a
    have each : ∀ i, i < len → ∃ cs d pl, cs.length = k ∧ (∀ j, j < k → W.cell? ((⟨b, off, spot⟩ : Addr).add (i * k + j)) = cs[j]?) ∧ DataW.trod enc Tryz.prog W 0 (fun _ => true) true n e cs = some (d, pl) ∧ (elems.map (·.1))[i]? = some d := by
      intro i hi
      have h1 := hel i hi
      rw [List.getElem?_eq_getElem (by omega), hk] at h1
      obtain ⟨cs, g1, g2⟩ := Option.bind_eq_some_iff.1 h1
      obtain ⟨_, g3, g4⟩ := World.cells?_some g1
      refine ⟨cs, _, _, g3, fun j hj => ?_, g2, by simp [List.getElem?_map, List.getElem?_eq_getElem (show i < elems.length by omega)]⟩
      rw [← add_add]; exact g4 j hj
    have hspot : 0 < len → spot = none := by
      intro h0
      obtain ⟨cs, d, pl, g1, g2, _⟩ := each 0 h0
      have := g2 0 hk0
      rw [List.getElem?_eq_getElem (by omega)] at this
      have := World.cell?_spot this
      simpa [Addr.add] using this
    refine ⟨some ⟨b, off, spot⟩, b, off, len, cap, elems.map (·.1), rfl, fun h0 => by rw [hspot h0], by omega, by simp [hlen], ?_, fun i hi => ?_⟩
    · simp only [Rows.uptoBulk]; omega
    · obtain ⟨cs, d, pl, g1, g2, g3, g4⟩ := each i hi
      refine ⟨n, cs, d, pl, hfuel, g1, fun j hj => ?_, g3, g4⟩
      have := g2 j hj
      rw [hspot (by omega), add_plain] at this
      rw [← this, Nat.add_assoc]
theorem list_choose {α : Type} : ∀ (len : Nat) {p : Nat → α → Prop}, (∀ i, i < len → ∃ x, p i x) → ∃ l : List α, l.length = len ∧ ∀ (i : Nat) (x : α), l[i]? = some x → p i x
  | 0, _, _ => ⟨[], rfl, fun i x h => by simp at h⟩
  | len + 1, p, h => by
    obtain ⟨x, hx⟩ := h 0 (by omega)
    obtain ⟨l, hl, hp⟩ := list_choose len (p := fun i => p (i + 1)) (fun i hi => h (i + 1) (by omega))
    refine ⟨x :: l, by simp [hl], fun i y hy => ?_⟩
    cases i with
    | zero => simp at hy; subst hy; exact hx
    | succ i => exact hp i y (by simpa using hy)
theorem sum_le {α : Type} {f : α → Nat} : ∀ {l : List α} {D : List (DataW H)}, l.length = D.length → (∀ (i : Nat) (x : α) (d : DataW H), l[i]? = some x → D[i]? = some d → f x ≤ Rows.uptoBulk d) → (l.map f).sum ≤ Rows.uptoBulkAll D
  | [], D, h, _ => by simp
  | x :: l, [], h, _ => by simp at h
  | x :: l, d :: D, h, hp => by
    have h0 := hp 0 x d rfl rfl
    have h1 := sum_le (l := l) (D := D) (by simpa using h) (fun i y d' h1 h2 => hp (i + 1) y d' (by simpa using h1) (by simpa using h2))
    simp only [List.map_cons, List.sum_cons, Rows.uptoBulkAll]
    omega
end
theorem cellsEx : Tryz.prog.cellsOf 103 = 4 := by kernel_rfl
theorem cellsSt : Tryz.prog.cellsOf 119 = 8 := by kernel_rfl
theorem cellsFu : Tryz.prog.cellsOf 106 = 7 := by kernel_rfl
theorem cellsVa : Tryz.prog.cellsOf 98 = 2 := by kernel_rfl
theorem cellsMo : Tryz.prog.cellsOf 26 = 4 := by kernel_rfl
theorem cellsInt : Tryz.prog.cellsOf 3 = 1 := by kernel_rfl
theorem cellsStr : Tryz.prog.cellsOf 9 = 1 := by kernel_rfl
theorem cellsStrs : Tryz.prog.cellsOf 22 = 1 := by kernel_rfl
theorem cellsExs : Tryz.prog.cellsOf 101 = 1 := by kernel_rfl
theorem cellsSts : Tryz.prog.cellsOf 99 = 1 := by kernel_rfl
theorem cellsVas : Tryz.prog.cellsOf 23 = 1 := by kernel_rfl
theorem cellsFus : Tryz.prog.cellsOf 24 = 1 := by kernel_rfl
theorem i64_of {n : Int} (h : (Lit.int .i64 n).wf = true) : I64 n := by
  simpa [I64, Lit.wf, IntKind.min, IntKind.max, IntKind.signed, IntKind.bits] using h
theorem size_list' (s : ByteArray) : s.data.toList.length = s.size := rfl
theorem list4 {α : Type} {cs : List α} (h : cs.length = 4) : ∃ a b c d, cs = [a, b, c, d] := by
  match cs, h with
  | [a, b, c, d], _ => exact ⟨a, b, c, d, rfl⟩
section
variable {H : Type} {enc : TypeId × Value → H} {W : World}
theorem open_ex : ∀ (fuel : Nat) {cs : List Value} {d : DataW H} {pl : List MemPlace}, DataW.trod enc Tryz.prog W 0 (fun _ => true) true fuel 103 cs = some (d, pl) →
    ∃ c0 c1 c2 c3 x, cs = [c0, c1, c2, c3] ∧ ExAt W fuel c0 c1 c2 c3 x ∧ exW fuel x ≤ Rows.uptoBulk d := by
  intro fuel
  induction fuel using Nat.strongRecOn with
  | ind fuel ih =>
    intro cs d pl h
    obtain ⟨xs, n, hfn, hx, hlen, hxs, hf⟩ := DataW.trod_struct Tryz.underlying103 h
    rw [cellsEx] at hlen
    obtain ⟨c0, c1, c2, c3, rfl⟩ := list4 hlen
    obtain ⟨y0, y1, y2, y3, rfl⟩ := list4 (by simpa using hxs)
    have f0 : DataW.trod enc Tryz.prog W 0 (fun _ => true) true n 3 (([c0, c1, c2, c3].drop 0).take (Tryz.prog.cellsOf 3)) = some y0 := hf 0 _ rfl
    rw [cellsInt] at f0
    simp only [List.drop, List.take] at f0
    have f1 : DataW.trod enc Tryz.prog W 0 (fun _ => true) true n 3 (([c0, c1, c2, c3].drop 1).take (Tryz.prog.cellsOf 3)) = some y1 := hf 1 _ rfl
    rw [cellsInt] at f1
    simp only [List.drop, List.take] at f1
    have f2 : DataW.trod enc Tryz.prog W 0 (fun _ => true) true n 9 (([c0, c1, c2, c3].drop 2).take (Tryz.prog.cellsOf 9)) = some y2 := hf 2 _ rfl
    rw [cellsStr] at f2
    simp only [List.drop, List.take] at f2
    have f3 : DataW.trod enc Tryz.prog W 0 (fun _ => true) true n 101 (([c0, c1, c2, c3].drop 3).take (Tryz.prog.cellsOf 101)) = some y3 := hf 3 _ rfl
    rw [cellsExs] at f3
    simp only [List.drop, List.take] at f3
    obtain ⟨k0, e0, rfl, w0⟩ := DataW.trod_int Tryz.underlying3 f0
    obtain ⟨k1, e1, rfl, w1⟩ := DataW.trod_int Tryz.underlying3 f1
    obtain ⟨s, e2, rfl, hs⟩ := DataW.trod_string Tryz.underlying9 f2
    simp at e0 e1 e2
    subst e0 e1 e2
    obtain ⟨a, b, off, len, cap, D, hv, ha, hl, hD, hbulk, hel⟩ := open_elems Tryz.underlying101 cellsEx (by decide) f3
    have each : ∀ i, i < len → ∃ x : Ex, ∃ d', D[i]? = some d' ∧ exW n x ≤ Rows.uptoBulk d' ∧ ∃ e0 e1 e2 e3, W.cell? ⟨b, off + i * 4, none⟩ = some e0 ∧ W.cell? ⟨b, off + i * 4 + 1, none⟩ = some e1 ∧ W.cell? ⟨b, off + i * 4 + 2, none⟩ = some e2 ∧ W.cell? ⟨b, off + i * 4 + 3, none⟩ = some e3 ∧ ExAt W n e0 e1 e2 e3 x := by
      intro i hi
      obtain ⟨n', cs, d', pl', hn', hlen', hcell, htrod, hDi⟩ := hel i hi
      obtain ⟨e0, e1, e2, e3, x, rfl, hx', hw⟩ := ih n' (by omega) htrod
      refine ⟨x, d', hDi, by rw [exW_mono hx' n (by omega)]; exact hw, e0, e1, e2, e3, hcell 0 (by decide), hcell 1 (by decide), hcell 2 (by decide), hcell 3 (by decide), hx'.mono n (by omega)⟩
    obtain ⟨l, hll, hp⟩ := list_choose len each
    simp only [Prod.mk.injEq] at hx
    obtain ⟨rfl, _⟩ := hx
    subst hfn
    refine ⟨_, _, _, _, ⟨k0, k1, s, l⟩, rfl, ⟨rfl, rfl, rfl, hs, i64_of w0, i64_of w1, a, b, off, cap, by rw [hv, ← hll], by rw [hll]; exact ha, by rw [hll]; exact hl, fun i y hy => ?_⟩, ?_⟩
    · obtain ⟨_, _, _, hh⟩ := hp i y hy
      exact hh
    · have hsum := sum_le (f := exW n) (l := l) (D := D) (by rw [hll, hD]) (fun i x d' h1 h2 => by
        obtain ⟨d'', h3, h4, _⟩ := hp i x h1
        rw [h2] at h3
        cases h3
        exact h4)
      simp only [exW, List.map_cons, List.map_nil, Rows.uptoBulk, Rows.uptoBulkAll, size_list']
      omega
end
end Go.Proofs.YtholefgckcoklaaGreatDoor
namespace Go.Proofs.YtholefgckcoklaaGreatDoor
open Go.RowKit Go.Maps Go.WideMaps
theorem laidOutR : laidOutB Tryz.prog = true := by kernel_rfl
theorem strLaw : Keyed Tryz.prog 9 := string_keyed Tryz.underlying9
theorem placeRow : 230 < Tryz.prog.types.size := of_decide_eq_true (by kernel_rfl)
theorem placeWide : (match Tryz.prog.underlying 230 with | some (.array _ _) | some (.struct _) => true | _ => false) = true := by rw [Tryz.underlying230]
theorem placeKt : Tryz.prog.keyTypeAt 2 230 = true := by kernel_rfl
set_option maxRecDepth 100000 in
theorem placeLaw : Keyed Tryz.prog 230 := Keyed.of_law (deep_law_laid (m := 2) laidOutR (by decide) placeRow placeKt placeWide)
theorem placeTy : Tryz.prog.keyType 230 = true := by kernel_rfl
theorem placeCells : Tryz.prog.cellsOf 230 = 2 := by kernel_rfl
theorem strCellsR : Tryz.prog.cellsOf 9 = 1 := by kernel_rfl
theorem key_two {P : Program} {k : TypeId} {f0 f1 : Field} (hk : P.underlying k = some (.struct #[f0, f1])) (hkt : P.keyType k = true) (hc : P.cellsOf k = 2) (h0 : P.underlying f0.type = some .string) (h1 : P.underlying f1.type = some .string)
    (c0 : P.cellsOf f0.type = 1) (c1 : P.cellsOf f1.type = 1) (o0 : f0.offset = 0) (o1 : f1.offset = 1) (n0 : (f0.name != "_") = true) (n1 : (f1.name != "_") = true) (ht : 0 < P.types.size) {a b : ByteArray} (ha : a.size ≤ maxLen) (hb : b.size ≤ maxLen) :
    ∃ kl, keyOf P k (.agg #[.string a, .string b]) = some kl := by
  obtain ⟨d, hd⟩ : ∃ d, P.types.size = d + 1 := Nat.exists_eq_succ_of_ne_zero (by omega)
  have e0 : P.keyLits (d + 1) f0.type [.string a] = some [.string a.data.toList] := by simp [Program.keyLits, h0, ha]
  have e1 : P.keyLits (d + 1) f1.type [.string b] = some [.string b.data.toList] := by simp [Program.keyLits, h1, hb]
  refine ⟨.string (keyBytes [.string a.data.toList, .string b.data.toList]), ?_⟩
  have e2 : P.keyLits (d + 1 + 1) k [.string a, .string b] = some [.string a.data.toList, .string b.data.toList] := by
    unfold Program.keyLits
    simp only [hk]
    rw [if_pos ⟨by rw [hc]; rfl, by simp [n0, n1]⟩]
    simp [c0, c1, o0, o1, e0, e1]
  simp [keyOf, hk, hkt, Value.formed, hc, hd, Value.cells, e2]
theorem zeroIntR (w : World) : (zeroValue 3).run Tryz.prog w = .ok (.int .i64 0) w := by kernel_rfl
theorem zeroVarR (w : World) : (zeroValue 237).run Tryz.prog w = .ok (.pointer none) w := by kernel_rfl
theorem placeKey {a b : ByteArray} (ha : a.size ≤ maxLen) (hb : b.size ≤ maxLen) : ∃ kl, keyOf Tryz.prog 230 (.agg #[.string a, .string b]) = some kl :=
  key_two Tryz.underlying230 placeTy placeCells Tryz.underlying9 Tryz.underlying9 strCellsR strCellsR rfl rfl (by decide) (by decide) (Nat.lt_of_le_of_lt (Nat.zero_le _) placeRow) ha hb
def OwM (w : World) (b n : Nat) (o : Rn.Own) : Prop :=
  ∃ D : DataW Unit, w.ownsMap Tryz.prog 9 (plainElem Tryz.prog 3) b n D ∧ ∀ s : ByteArray, s.size ≤ maxLen →
    (Maps.has D (.string s.data.toList) = (o s).isSome ∧ D.atKey (.string s.data.toList) (.lit (.int .i64 0)) = .lit (.int .i64 ((o s).getD 0)))
theorem OwM.same {w w' : World} {b n : Nat} {o : Rn.Own} (h : OwM w b n o) (hb : w'.heap[b]? = w.heap[b]?) : OwM w' b n o := by
  obtain ⟨D, ⟨es, cl, h0, h1⟩, h2⟩ := h
  exact ⟨D, ⟨es, cl, by rw [hb]; exact h0, h1⟩, h2⟩
theorem OwM.mono {w : World} {b n n' : Nat} {o : Rn.Own} (h : OwM w b n o) (hn : n ≤ n') : OwM w b n' o := by
  obtain ⟨D, h1, h2⟩ := h
  exact ⟨D, h1.mono hn, h2⟩
theorem OwM.lt {w : World} {b n : Nat} {o : Rn.Own} (h : OwM w b n o) : b < w.heap.size := by
  obtain ⟨D, h1, _⟩ := h
  exact h1.lt
theorem OwM.isMap {w : World} {b n : Nat} {o : Rn.Own} (h : OwM w b n o) : ∃ es cl, w.heap[b]? = some (.map es cl) := by
  obtain ⟨D, ⟨es, cl, h0, _⟩, _⟩ := h
  exact ⟨es, cl, h0⟩
theorem OwM.new (w : World) : OwM (w.alloc (.map #[] 0)) w.heap.size 0 (fun _ => none) :=
  ⟨.map [], World.ownsMap_made _ _ _ _, fun _ _ => ⟨rfl, rfl⟩⟩
theorem key_ne {s t : ByteArray} (h : Nm.sameB s t = false) : (Lit.string s.data.toList) ≠ (Lit.string t.data.toList) := fun e => by
  injection e with e
  rw [Nm.sameB, Lib.toList_data, Lib.toList_data, e] at h
  simp at h
theorem key_eq {s t : ByteArray} (h : Nm.sameB s t = true) : s = t := toList_inj (by rw [Nm.sameB, beq_iff_eq] at h; exact h)
theorem OwM.put {w : World} {b n : Nat} {o : Rn.Own} (h : OwM w b n o) (hn : n < maxLen) {s : ByteArray} (hs : s.size ≤ maxLen) {v : Int} (hv : I64 v) :
    ∃ w', (Instr.mapUpdate 232 (.map (some b)) (.string s) (.int .i64 v)).run Tryz.prog w = .ok () w' ∧ OwM w' b (n + 1) (Rn.put o s v) ∧ w.grownBy w' (some b) := by
  obtain ⟨D, h1, h2⟩ := h
  have hwf : (Lit.int .i64 v).wf = true := by simpa [I64, Lit.wf, IntKind.min, IntKind.max, IntKind.signed, IntKind.bits] using hv
  obtain ⟨w', e, h3, h4⟩ := h1.update strLaw Tryz.underlying232 hn (keyOf_string_mk Tryz.underlying9 hs) (plainElem_int Tryz.underlying3 hwf)
  refine ⟨w', e, ⟨_, h3, fun t ht => ?_⟩, h4⟩
  cases hst : Nm.sameB t s with
  | true =>
    have := key_eq hst
    subst this
    rw [has_put_same h1.isMap (show WideAt.IsKeyLit (.string t.data.toList) from trivial), atKey_put_same h1.isMap (show WideAt.IsKeyLit (.string t.data.toList) from trivial)]
    simp [Rn.put, hst]
  | false =>
    rw [has_put_other (key_ne hst), atKey_put_other (key_ne hst)]
    simpa [Rn.put, hst] using h2 t ht
theorem OwM.look {w : World} {b n : Nat} {o : Rn.Own} (h : OwM w b n o) {s : ByteArray} (hs : s.size ≤ maxLen) :
    (Instr.lookup 232 (.map (some b)) (.string s) false).run Tryz.prog w = .ok (.int .i64 ((o s).getD 0)) w := by
  obtain ⟨D, h1, h2⟩ := h
  obtain ⟨c, e, h3, _⟩ := h1.lookup_int strLaw Tryz.underlying232 Tryz.underlying3 (zeroIntR w) (keyOf_string_mk Tryz.underlying9 hs)
  rw [(h2 s hs).2] at h3
  simp only [DataW.lit.injEq, Lit.int.injEq, true_and] at h3
  rw [e, h3]
theorem OwM.lookOk {w : World} {b n : Nat} {o : Rn.Own} (h : OwM w b n o) {s : ByteArray} (hs : s.size ≤ maxLen) :
    (Instr.lookup 232 (.map (some b)) (.string s) true).run Tryz.prog w = .ok (.tuple #[.int .i64 ((o s).getD 0), .bool (o s).isSome]) w := by
  obtain ⟨D, h1, h2⟩ := h
  obtain ⟨v, ps, e, h3⟩ := h1.look_ok strLaw Tryz.underlying232 (zeroIntR w) (zd := .lit (.int .i64 0)) (zp := []) (plainElem_int Tryz.underlying3 (by decide)) (keyOf_string_mk Tryz.underlying9 hs)
  rw [(h2 s hs).2] at h3
  obtain ⟨c, rfl, h4, _⟩ := plainElem_int_inv Tryz.underlying3 h3
  simp only [Prod.mk.injEq, DataW.lit.injEq, Lit.int.injEq, true_and] at h4
  rw [e, (h2 s hs).1, h4.1]
def ptrElem : Value → Option (DataW Unit × List MemPlace)
  | .pointer none => some (.nil, [])
  | .pointer (some ⟨b, 0, none⟩) => some (.lit (.int .i64 b), [])
  | _ => none
theorem ptrElem_nil {v : Value} {ps : List MemPlace} (h : ptrElem v = some (.nil, ps)) : v = .pointer none := by
  unfold ptrElem at h
  split at h <;> simp_all
theorem ptrElem_at {v : Value} {ps : List MemPlace} {b : Nat} (h : ptrElem v = some (.lit (.int .i64 b), ps)) : v = .pointer (some ⟨b, 0, none⟩) := by
  unfold ptrElem at h
  split at h <;> simp_all <;> omega
def ptrOf (bs : List Nat) : Option Nat → Value
  | none => .pointer none
  | some i => .pointer (some ⟨bs.getD i 0, 0, none⟩)
def datOf (bs : List Nat) : Option Nat → DataW Unit
  | none => .nil
  | some i => .lit (.int .i64 ((bs.getD i 0 : Nat) : Int))
def PlM (w : World) (b n : Nat) (nm : List (ByteArray × ByteArray)) (bs : List Nat) : Prop :=
  ∃ D : DataW Unit, w.ownsMap Tryz.prog 230 ptrElem b n D ∧ ∀ x y : ByteArray, x.size ≤ maxLen → y.size ≤ maxLen → ∀ kl, keyOf Tryz.prog 230 (.agg #[.string x, .string y]) = some kl → D.atKey kl .nil = datOf bs (Rn.pos nm x y)
theorem PlM.same {w w' : World} {b n : Nat} {nm : List (ByteArray × ByteArray)} {bs : List Nat} (h : PlM w b n nm bs) (hb : w'.heap[b]? = w.heap[b]?) : PlM w' b n nm bs := by
  obtain ⟨D, ⟨es, cl, h0, h1⟩, h2⟩ := h
  exact ⟨D, ⟨es, cl, by rw [hb]; exact h0, h1⟩, h2⟩
theorem PlM.isMap {w : World} {b n : Nat} {nm : List (ByteArray × ByteArray)} {bs : List Nat} (h : PlM w b n nm bs) : ∃ es cl, w.heap[b]? = some (.map es cl) := by
  obtain ⟨D, ⟨es, cl, h0, _⟩, _⟩ := h
  exact ⟨es, cl, h0⟩
theorem PlM.look {w : World} {b n : Nat} {nm : List (ByteArray × ByteArray)} {bs : List Nat} (h : PlM w b n nm bs) {x y : ByteArray} (hx : x.size ≤ maxLen) (hy : y.size ≤ maxLen) :
    (Instr.lookup 224 (.map (some b)) (.agg #[.string x, .string y]) false).run Tryz.prog w = .ok (ptrOf bs (Rn.pos nm x y)) w := by
  obtain ⟨D, h1, h2⟩ := h
  obtain ⟨kl, hk⟩ := placeKey hx hy
  obtain ⟨v, ps, e, h3⟩ := h1.lookup placeLaw Tryz.underlying224 (zeroVarR w) (zd := .nil) (zp := []) rfl hk
  rw [h2 x y hx hy kl hk] at h3
  rw [e]
  cases hp : Rn.pos nm x y with
  | none => rw [hp] at h3; rw [ptrElem_nil h3]; rfl
  | some i => rw [hp] at h3; rw [ptrElem_at h3]; rfl
end Go.Proofs.YtholefgckcoklaaGreatDoor
