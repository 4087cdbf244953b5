/- Names, as plain data: what a call means; lists of modules in memory. -/
import Derived.Test.YtbncnkfogkhoeaaGreatDoorZA
import Derived.Test.YtbncnkfogkhoeaaGreatDoorZB
import Derived.Laws.AppendOwnNone
import Derived.WalkKit
namespace Go.Proofs.YtbncnkfogkhoeaaGreatDoor
open Go.RowKit

/-- The slice v is a list of modules. -/
def MosAt (w : World) (m : Nat) (v : Value) (l : List Mo) : Prop :=
  ∃ (a : Option Addr) (b off cap : Nat), v = .slice a l.length cap ∧ (0 < l.length → a = some ⟨b, off, none⟩) ∧ l.length ≤ 9223372036854775807 ∧
    ∀ i x, l[i]? = some x → ∃ vi vv vf, w.cell? ⟨b, off + i * 4, none⟩ = some (.string x.name) ∧ w.cell? ⟨b, off + i * 4 + 1, none⟩ = some vi ∧ w.cell? ⟨b, off + i * 4 + 2, none⟩ = some vv ∧ w.cell? ⟨b, off + i * 4 + 3, none⟩ = some vf ∧ MoAt w m (.agg #[.string x.name, vi, vv, vf]) x
theorem MosAt.below {w w' : World} {m : Nat} {v : Value} {l : List Mo} (h : MosAt w m v l) (hb : Below w.heap.size w w') : MosAt w' m v l := by
  obtain ⟨a, b, off, cap, e, h0, hl, h1⟩ := h
  refine ⟨a, b, off, cap, e, h0, hl, fun i x hx => ?_⟩
  obtain ⟨vi, vv, vf, g0, g1, g2, g3, hm⟩ := h1 i x hx
  exact ⟨vi, vv, vf, cellUp g0 hb, cellUp g1 hb, cellUp g2 hb, cellUp g3 hb, hm.below hb⟩

namespace Nm
def sameB (s t : ByteArray) : Bool := s.toList == t.toList
/-- The first function of that name among the first n. -/
def fnAt (l : List Fu) (s : ByteArray) (n : Nat) : Option Nat := (List.range n).find? fun i => match l[i]? with | some f => sameB f.name s | none => false
/-- The first module of that name. -/
def moAt (l : List Mo) (s : ByteArray) : Option Nat := (List.range l.length).find? fun i => match l[i]? with | some x => sameB x.name s | none => false
/-- What a call means: which module (-1: this one), which function, and is there one? -/
def tgt (x : Mo) (k : Nat) (call : ByteArray) (known : List Mo) : Int × Int × Bool :=
  match Lat.dotAt call with
  | none => match fnAt x.funs call k with
    | some i => (-1, i, true)
    | none => (-1, 0, false)
  | some _ =>
    if 0 ≤ Lat.indexI x.imports (Lat.preS call) then
      match moAt known (Lat.preS call) with
      | none => (0, 0, false)
      | some i => match fnAt ((known[i]?.map (·.funs)).getD []) (Lat.sufS call) ((known[i]?.map (·.funs)).getD []).length with
        | some j => (i, j, true)
        | none => (i, 0, false)
    else (0, 0, false)
theorem fnAt_hit {l : List Fu} {s : ByteArray} {n i : Nat} {f : Fu} (hi : i < n) (hf : l[i]? = some f) (h : sameB f.name s = true) (h0 : ∀ d g, d < i → l[d]? = some g → sameB g.name s = false) : fnAt l s n = some i := by
  refine Lat.find_hit hi (fun c hc => ?_) (by simp only [hf]; exact h)
  cases hg : l[c]? with
  | none => rfl
  | some g => exact h0 c g hc hg
theorem fnAt_none {l : List Fu} {s : ByteArray} {n : Nat} (h0 : ∀ d g, d < n → l[d]? = some g → sameB g.name s = false) : fnAt l s n = none := by
  refine Lat.find_none (fun c hc => ?_)
  cases hg : l[c]? with
  | none => rfl
  | some g => exact h0 c g hc hg
theorem moAt_hit {l : List Mo} {s : ByteArray} {i : Nat} {x : Mo} (hx : l[i]? = some x) (h : sameB x.name s = true) (h0 : ∀ d g, d < i → l[d]? = some g → sameB g.name s = false) : moAt l s = some i := by
  refine Lat.find_hit (List.getElem?_eq_some_iff.1 hx).1 (fun c hc => ?_) (by simp only [hx]; exact h)
  cases hg : l[c]? with
  | none => rfl
  | some g => exact h0 c g hc hg
theorem moAt_none {l : List Mo} {s : ByteArray} (h0 : ∀ (d : Nat) (g : Mo), l[d]? = some g → sameB g.name s = false) : moAt l s = none := by
  refine Lat.find_none (fun c hc => ?_)
  cases hg : l[c]? with
  | none => rfl
  | some g => exact h0 c g hg
end Nm

end Go.Proofs.YtbncnkfogkhoeaaGreatDoor

/- Walks over package downref: Target answers what a call means. -/
namespace Go.Proofs.YtbncnkfogkhoeaaGreatDoor
open Go.RowKit

namespace Nm
theorem tgt_here {x : Mo} {k : Nat} {call : ByteArray} {known : List Mo} {i : Nat} (hd : Lat.dotAt call = none) (hf : fnAt x.funs call k = some i) : tgt x k call known = (-1, (i : Int), true) := by simp [tgt, hd, hf]
theorem tgt_here0 {x : Mo} {k : Nat} {call : ByteArray} {known : List Mo} (hd : Lat.dotAt call = none) (hf : fnAt x.funs call k = none) : tgt x k call known = (-1, 0, false) := by simp [tgt, hd, hf]
theorem tgt_notI {x : Mo} {k : Nat} {call : ByteArray} {known : List Mo} {d : Nat} (hd : Lat.dotAt call = some d) (hi : decide (0 ≤ Lat.indexI x.imports (Lat.preS call)) = false) : tgt x k call known = (0, 0, false) := by
  have := of_decide_eq_false hi
  simp [tgt, hd, this]
theorem tgt_noM {x : Mo} {k : Nat} {call : ByteArray} {known : List Mo} {d : Nat} (hd : Lat.dotAt call = some d) (hi : decide (0 ≤ Lat.indexI x.imports (Lat.preS call)) = true) (hm : moAt known (Lat.preS call) = none) : tgt x k call known = (0, 0, false) := by
  have := of_decide_eq_true hi
  simp [tgt, hd, this, hm]
theorem tgt_fn {x y : Mo} {k : Nat} {call : ByteArray} {known : List Mo} {d i j : Nat} (hd : Lat.dotAt call = some d) (hi : decide (0 ≤ Lat.indexI x.imports (Lat.preS call)) = true) (hm : moAt known (Lat.preS call) = some i) (hy : known[i]? = some y)
    (hf : fnAt y.funs (Lat.sufS call) y.funs.length = some j) : tgt x k call known = ((i : Int), (j : Int), true) := by
  have := of_decide_eq_true hi
  simp [tgt, hd, this, hm, hy, hf]
theorem tgt_nofn {x y : Mo} {k : Nat} {call : ByteArray} {known : List Mo} {d i : Nat} (hd : Lat.dotAt call = some d) (hi : decide (0 ≤ Lat.indexI x.imports (Lat.preS call)) = true) (hm : moAt known (Lat.preS call) = some i) (hy : known[i]? = some y)
    (hf : fnAt y.funs (Lat.sufS call) y.funs.length = none) : tgt x k call known = ((i : Int), 0, false) := by
  have := of_decide_eq_true hi
  simp [tgt, hd, this, hm, hy, hf]
end Nm

theorem boxN1 (w : World) (c0 c1 c2 c3 : Value) (t : TypeId) : (w.alloc (.cells #[c0, c1, c2, c3] t)).cell? ⟨w.heap.size, 1, none⟩ = some c1 := by simp [go_sem]
theorem boxN3 (w : World) (c0 c1 c2 c3 : Value) (t : TypeId) : (w.alloc (.cells #[c0, c1, c2, c3] t)).cell? ⟨w.heap.size, 3, none⟩ = some c3 := by simp [go_sem]
theorem ret_t3 {P : Prop} {R : Int × Int × Bool} {a b : Int} {c : Bool} (h : R = (a, b, c)) (hb : P) : (Ending.returned (.tuple #[.int .i64 a, .int .i64 b, .bool c]) = Ending.returned (.tuple #[.int .i64 R.1, .int .i64 R.2.1, .bool R.2.2])) ∧ P := by
  subst h; exact ⟨rfl, hb⟩

set_option maxHeartbeats 4000000 in
set_option maxRecDepth 100000 in
theorem rtarget_any (m : Nat) (w : World) (v vk : Value) (x : Mo) (k : Nat) (call : ByteArray) (known : List Mo) (h : MoAt w m v x) (hk : k ≤ x.funs.length) (hc : call.size ≤ maxLen) (hK : MosAt w m vk known) :
    Calls Tryz.prog 14 #[v, .int .i64 k, .string call, vk] w fun e w' => e = .returned (.tuple #[.int .i64 (Nm.tgt x k call known).1, .int .i64 (Nm.tgt x k call known).2.1, .bool (Nm.tgt x k call known).2.2]) ∧ Below w.heap.size w w' := by
  obtain ⟨vi, vv, vf, rfl, hnm, hI, hV, hF⟩ := h
  have HI := hide hI
  obtain ⟨ai, bi, oi, ci, rfl, hI'⟩ := hI
  obtain ⟨av, bv, ov, cv, rfl, hV'⟩ := hV
  obtain ⟨af, bf, of, cf, rfl, haf, hlf, hcf⟩ := hF
  obtain ⟨ak, bk, ok, ck, rfl, hak, hlk, hck⟩ := hK
  have HCF := hide hcf
  have HCK := hide hck
  have HAF := hide haf
  have HAK := hide hak
  have HCUT : Hid (∀ w, Calls Tryz.prog 54 #[.string call] w fun e w' => e = .returned (.tuple #[.string (Lat.preS call), .string (Lat.sufS call), .bool (Lat.dotAt call).isSome]) ∧ Below w.heap.size w w') := fun w => cutDot_any w call hc
  obtain ⟨ni, hni⟩ : ∃ n, n = x.imports.length := ⟨_, rfl⟩
  obtain ⟨nv, hnv⟩ : ∃ n, n = x.vars.length := ⟨_, rfl⟩
  obtain ⟨nf, hnf⟩ : ∃ n, n = x.funs.length := ⟨_, rfl⟩
  obtain ⟨nk, hnk⟩ : ∃ n, n = known.length := ⟨_, rfl⟩
  have HNF := hide hnf
  have HNK := hide hnk
  rw [← hni, ← hnv, ← hnf, ← hnk]
  rw [← hni] at HI
  rw [← hnf] at hk hlf HAF
  rw [← hnk] at hlk HAK
  clear haf hak hcf hck hI' hV' hni hnv hnf hnk hnm hc
  have q1 := boxN1 w (.string x.name) (.slice ai ni ci) (.slice av nv cv) (.slice af nf cf) 26
  have q3 := boxN3 w (.string x.name) (.slice ai ni ci) (.slice av nv cv) (.slice af nf cf) 26
  have HB0 := hide (boxBelow w (.cells #[.string x.name, .slice ai ni ci, .slice av nv cv, .slice af nf cf] 26))
  cases hd : Lat.dotAt call with
  | none =>
    have HPS : Hid (Lat.preS call = call) := hide (by simp [Lat.preS, hd])
    rw [hd] at HCUT
    have HD := hide hd
    clear hd
    obtain ⟨R, hR⟩ : ∃ R, R = Nm.tgt x k call known := ⟨_, rfl⟩
    have HR := hide hR
    rw [← hR]
    clear hR
    rw [HPS.out] at HCUT
    generalize Lat.sufS call = suf at *
    go_enter Tryz.func14, Tryz.ntmps14
    go_wp2_with fail
    refine (HCUT.out _).mono ?_
    rintro e w1 ⟨rfl, hb1⟩
    replace q3 := cellUp q3 hb1
    have HB1 := hide (up HB0.out hb1)
    clear hb1 q1
    go_wp2_with fail
    go_loop [14] (fun i => ∃ j : Nat, j ≤ k ∧ i = .int .i64 j ∧ ∀ d g, d < j → x.funs[d]? = some g → Nm.sameB g.name call = false) (fun i => k - (intOf i).toNat)
    case atStart => exact ⟨0, Nat.zero_le _, rfl, fun d g hd => absurd hd (Nat.not_lt_zero _)⟩
    case round =>
      obtain ⟨j, hj, rfl, hall⟩ := hrel
      have HA := hide hall
      clear hall
      by_cases hlt : j < k
      · obtain ⟨f, hf⟩ : ∃ f, x.funs[j]? = some f := ⟨_, List.getElem?_eq_getElem (by have := HNF.out; omega)⟩
        have HF := hide hf
        obtain ⟨hfn, vp, vb, e0, e1, e2, e3, g0, -⟩ := HCF.out j f hf
        obtain rfl := HAF.out (by omega)
        have c0 := cellUp g0 HB1.out
        clear hf g0
        cases hh : (f.name.toList == call.toList)
        · have HH := hide hh
          go_wp2
          go_round
          case rel => exact ⟨j + 1, by omega, by go_num, fun d g hd hg => by
              by_cases e : d = j
              · subst e; rw [HF.out] at hg; cases hg; exact HH.out
              · exact HA.out d g (by omega) hg⟩
          case measure => simp [intOf]; omega
        · have HH := hide hh
          go_wp2
          go_ret3
          exact ret_t3 (by rw [HR.out]; exact Nm.tgt_here HD.out (Nm.fnAt_hit hlt HF.out HH.out HA.out)) HB1.out
      · go_wp2
        go_ret3
        exact ret_t3 (by rw [HR.out]; exact Nm.tgt_here0 HD.out (Nm.fnAt_none fun d g hd hg => HA.out d g (by omega) hg)) HB1.out
  | some dd =>
    rw [hd] at HCUT
    have HD := hide hd
    clear hd
    obtain ⟨R, hR⟩ : ∃ R, R = Nm.tgt x k call known := ⟨_, rfl⟩
    have HR := hide hR
    rw [← hR]
    clear hR
    obtain ⟨pre, hpre⟩ : ∃ s, s = Lat.preS call := ⟨_, rfl⟩
    obtain ⟨suf, hsuf⟩ : ∃ s, s = Lat.sufS call := ⟨_, rfl⟩
    have HP := hide hpre
    have HS := hide hsuf
    rw [← hpre, ← hsuf] at HCUT
    clear hpre hsuf
    go_enter Tryz.func14, Tryz.ntmps14
    go_wp2_with fail
    refine (HCUT.out _).mono ?_
    rintro e w1 ⟨rfl, hb1⟩
    replace q1 := cellUp q1 hb1
    have HB1 := hide (up HB0.out hb1)
    clear hb1 q3
    go_wp2_with fail
    refine (containsS_any w1 _ x.imports pre (HI.out.below HB1.out)).mono ?_
    rintro e w' ⟨rfl, hw'⟩
    subst hw'
    obtain ⟨is, his⟩ : ∃ c, c = decide (0 ≤ Lat.indexI x.imports pre) := ⟨_, rfl⟩
    have HIS := hide his
    rw [← his]
    clear his
    cases is
    · go_wp2
      go_ret3
      exact ret_t3 (by rw [HR.out]; exact Nm.tgt_notI HD.out (by rw [← HP.out]; exact HIS.out.symm)) HB1.out
    · go_wp2_with fail
      go_loop [15] (fun i => ∃ j : Nat, j ≤ nk ∧ i = .int .i64 j ∧ ∀ d g, d < j → known[d]? = some g → Nm.sameB g.name pre = false) (fun i => nk - (intOf i).toNat)
      case atStart => exact ⟨0, Nat.zero_le _, rfl, fun d g hd => absurd hd (Nat.not_lt_zero _)⟩
      case round =>
        obtain ⟨j, hj, rfl, hall⟩ := hrel
        have HA := hide hall
        clear hall
        by_cases hlt : j < nk
        · obtain ⟨y, hy⟩ : ∃ y, known[j]? = some y := ⟨_, List.getElem?_eq_getElem (by have := HNK.out; omega)⟩
          have HY := hide hy
          obtain ⟨yi, yv, yf, g0, g1, g2, g3, hm⟩ := HCK.out j y hy
          obtain rfl := HAK.out (by omega)
          have c0 := cellUp g0 HB1.out
          have c3 := cellUp g3 HB1.out
          obtain ⟨zi, zv, zf, hz, -, -, -, hzf⟩ := hm
          injection hz with hz
          injection hz with hz
          injection hz with _ hz
          injection hz with _ hz
          injection hz with _ hz
          injection hz with hz _
          subst hz
          obtain ⟨ay, bY, oy, cy, rfl, hay, hly, hcy⟩ := hzf
          obtain ⟨ny, hny⟩ : ∃ n, n = y.funs.length := ⟨_, rfl⟩
          have HNY := hide hny
          have HCY := hide hcy
          rw [← hny] at hay hly c3
          have HAY := hide hay
          clear hy g0 g1 g2 g3 hny hcy hay
          cases hh : (y.name.toList == pre.toList)
          · have HH := hide hh
            go_wp2
            go_round
            case rel => exact ⟨j + 1, by omega, by go_num, fun d g hd hg => by
                by_cases e : d = j
                · subst e; rw [HY.out] at hg; cases hg; exact HH.out
                · exact HA.out d g (by omega) hg⟩
            case measure => simp [intOf]; omega
          · have HM : Hid (Nm.moAt known pre = some j) := hide (Nm.moAt_hit HY.out hh HA.out)
            go_wp2
            go_loop [16] (fun i => ∃ t : Nat, t ≤ ny ∧ i = .int .i64 t ∧ ∀ d g, d < t → y.funs[d]? = some g → Nm.sameB g.name suf = false) (fun i => ny - (intOf i).toNat)
            case atStart => exact ⟨0, Nat.zero_le _, rfl, fun d g hd => absurd hd (Nat.not_lt_zero _)⟩
            case round =>
              obtain ⟨t, ht, rfl, hall⟩ := hrel
              have HAT := hide hall
              clear hall
              by_cases hlt2 : t < ny
              · obtain ⟨f, hf⟩ : ∃ f, y.funs[t]? = some f := ⟨_, List.getElem?_eq_getElem (by have := HNY.out; omega)⟩
                have HF := hide hf
                obtain ⟨hfn, vp, vb, e0, e1, e2, e3, g0, -⟩ := HCY.out t f hf
                obtain rfl := HAY.out (by omega)
                have c7 := cellUp g0 HB1.out
                clear hf g0
                cases hh2 : (f.name.toList == suf.toList)
                · have HH := hide hh2
                  go_wp2
                  go_round
                  case rel => exact ⟨t + 1, by omega, by go_num, fun d g hd hg => by
                      by_cases e : d = t
                      · subst e; rw [HF.out] at hg; cases hg; exact HH.out
                      · exact HAT.out d g (by omega) hg⟩
                  case measure => simp [intOf]; omega
                · have HH := hide hh2
                  go_wp2
                  go_ret3
                  exact ret_t3 (by rw [HR.out]; exact Nm.tgt_fn HD.out (by rw [← HP.out]; exact HIS.out.symm) (by rw [← HP.out]; exact HM.out) HY.out (Nm.fnAt_hit (by rw [← HNY.out]; exact hlt2) HF.out (by rw [← HS.out]; exact HH.out) (by rw [← HS.out]; exact HAT.out))) HB1.out
              · go_wp2
                go_ret3
                exact ret_t3 (by rw [HR.out]; exact Nm.tgt_nofn HD.out (by rw [← HP.out]; exact HIS.out.symm) (by rw [← HP.out]; exact HM.out) HY.out (Nm.fnAt_none fun d g hd hg => by rw [← HS.out]; exact HAT.out d g (by have := HNY.out; omega) hg)) HB1.out
        · go_wp2
          go_ret3
          exact ret_t3 (by rw [HR.out]; exact Nm.tgt_noM HD.out (by rw [← HP.out]; exact HIS.out.symm) (Nm.moAt_none fun d g hg => by rw [← HP.out]; exact HA.out d g (by have := (List.getElem?_eq_some_iff.1 hg).1; have := HNK.out; omega) hg)) HB1.out

end Go.Proofs.YtbncnkfogkhoeaaGreatDoor

/- Rows of a call's own whose elements are plain, or point to memory that was there ahead of the call: appends of many elements at once. -/
namespace Go.Proofs.YtbncnkfogkhoeaaGreatDoor
open Go.RowKit

/-- The slice v is a row of the call's own, of k cells an element, that holds l: At says what an element's cells are. -/
def OwnK {α : Type} (At : List Value → α → Prop) (w : World) (n e k : Nat) (v : Value) (l : List α) : Prop :=
  ∃ cs : List (List Value), w.ownsRow n e k v l.length cs.flatten ∧ cs.length = l.length ∧ (∀ c ∈ cs, c.length = k ∧ ∀ u ∈ c, u.oneCell' = true) ∧
    (∀ (i : Nat) c y, cs[i]? = some c → l[i]? = some y → At c y) ∧ (l = [] → v = .slice none 0 0)
section
variable {α : Type} {At : List Value → α → Prop} {w w' : World} {n e k : Nat} {v : Value} {l : List α}
theorem OwnK.nil (w : World) (n e k : Nat) : OwnK At w n e k (.slice none 0 0) [] := ⟨[], World.ownsRow_nil _ _ _ _, rfl, (fun c hc => absurd hc (by simp)), (fun i c y hc => absurd hc (by simp)), fun _ => rfl⟩
theorem OwnK.lt (h : OwnK At w n e k v l) : ∀ j, v.ownBlock = some j → n ≤ j ∧ j < w.heap.size := by
  obtain ⟨cs, h1, _⟩ := h
  exact h1.lt
theorem OwnK.shape (h : OwnK At w n e k v l) : (v = .slice none 0 0 ∧ l = []) ∨ ∃ g cap, v = .slice (some ⟨g, 0, none⟩) l.length cap ∧ l.length ≤ cap ∧ n ≤ g ∧ g < w.heap.size ∧ l ≠ [] := by
  obtain ⟨cs, h, _, _, _, hz⟩ := h
  have hlt := h.lt
  rcases h.2 with ⟨rfl, h1⟩ | ⟨g, cap, cur, rfl, _, hh, hc, _⟩
  · exact Or.inl ⟨rfl, List.length_eq_zero_iff.1 (by omega)⟩
  · exact Or.inr ⟨g, cap, rfl, hc, (hlt g rfl).1, (hlt g rfl).2, fun e => by have := hz e; simp at this⟩
theorem OwnK.below (h : OwnK At w n e k v l) (hb : Below w.heap.size w w') : OwnK At w' n e k v l := by
  obtain ⟨cs, h1, h2⟩ := h
  exact ⟨cs, own_below h1 hb, h2⟩
theorem OwnK.old {n' : Nat} (h : OwnK At w n e k v l) (hn : n' ≤ n) : OwnK At w n' e k v l := by
  obtain ⟨cs, ⟨h0, h1⟩, h2⟩ := h
  refine ⟨cs, ⟨h0, ?_⟩, h2⟩
  rcases h1 with h1 | ⟨g, cap, cur, hv, hg, r⟩
  · exact Or.inl h1
  · exact Or.inr ⟨g, cap, cur, hv, Nat.le_trans hn hg, r⟩
theorem OwnK.imp {At' : List Value → α → Prop} (h : OwnK At w n e k v l) (hi : ∀ c y, At c y → At' c y) : OwnK At' w n e k v l := by
  obtain ⟨cs, h1, h2, h3, h4, h5⟩ := h
  exact ⟨cs, h1, h2, h3, fun i c y hc hy => hi c y (h4 i c y hc hy), h5⟩
/-- An element that was laid into a block of its own. -/
theorem OwnK.one {c : List Value} {y : α} (w : World) (e : Nat) (hc : c.length = k) (h1 : ∀ u ∈ c, u.oneCell' = true) (hy : At c y) : OwnK At (w.alloc (.cells c.toArray e)) w.heap.size e k (.slice (some ⟨w.heap.size, 0, none⟩) 1 1) [y] := by
  refine ⟨[c], ⟨by simp [hc], Or.inr ⟨w.heap.size, 1, c.toArray, rfl, Nat.le_refl _, block_new _ _, Nat.le_refl _, by decide, by simp [hc], by simp [← hc]⟩⟩, rfl, fun d hd => ?_, fun i d z hd hz => ?_, fun h => absurd h (by simp)⟩
  · rw [List.mem_singleton] at hd; subst hd; exact ⟨hc, h1⟩
  · cases i with
    | zero => simp at hd hz; subst hd hz; exact hy
    | succ i => simp at hd
theorem flat_get {k : Nat} : ∀ (cs : List (List Value)) (i j : Nat) (hi : i < cs.length), (∀ c ∈ cs, c.length = k) → j < k → cs.flatten[i * k + j]? = (cs[i])[j]? := by
  intro cs
  induction cs with
  | nil => intro i j hi; simp at hi
  | cons c cs ih =>
    intro i j hi hk hj
    have hc := hk c (by simp)
    cases i with
    | zero =>
      rw [List.flatten_cons, Nat.zero_mul, Nat.zero_add, List.getElem?_append_left (by omega)]; rfl
    | succ i =>
      rw [List.flatten_cons, List.getElem?_append_right (by rw [hc, Nat.succ_mul]; omega), hc]
      have e1 : (i + 1) * k + j - k = i * k + j := by rw [Nat.succ_mul]; omega
      rw [e1, ih i j (by simpa using hi) (fun d hd => hk d (by simp [hd])) hj]
      rfl
/-- An element's cells. -/
theorem OwnK.cell {g cap : Nat} (h : OwnK At w n e k (.slice (some ⟨g, 0, none⟩) l.length cap) l) {i : Nat} {y : α} (hy : l[i]? = some y) :
    ∃ c, c.length = k ∧ (∀ j, j < k → w.cell? ⟨g, i * k + j, none⟩ = c[j]?) ∧ At c y := by
  obtain ⟨cs, h1, h2, h3, h4, _⟩ := h
  have hi : i < cs.length := by
    have := (List.getElem?_eq_some_iff.1 hy).1
    omega
  refine ⟨cs[i], (h3 _ (List.getElem_mem hi)).1, fun j hj => ?_, h4 i _ y (List.getElem?_eq_getElem hi) hy⟩
  have hik : i * k + j < l.length * k := by
    have : i + 1 ≤ l.length := by omega
    have h5 := Nat.mul_le_mul_right k this
    rw [Nat.add_mul, Nat.one_mul] at h5
    omega
  rw [World.ownsRow.cellAt h1 _ hik]
  exact flat_get cs i j hi (fun c hc => (h3 c hc).1) hj
theorem OwnK.cat {g cap : Nat} {l2 : List α} {cs cs2 : List (List Value)}
    (h2 : cs.length = l.length ∧ (∀ c ∈ cs, c.length = k ∧ ∀ u ∈ c, u.oneCell' = true) ∧ (∀ (i : Nat) c y, cs[i]? = some c → l[i]? = some y → At c y))
    (h2' : cs2.length = l2.length ∧ (∀ c ∈ cs2, c.length = k ∧ ∀ u ∈ c, u.oneCell' = true) ∧ (∀ (i : Nat) c y, cs2[i]? = some c → l2[i]? = some y → At c y)) (hne : l2 ≠ [])
    (h1 : w'.ownsRow n e k (.slice (some ⟨g, 0, none⟩) (l.length + l2.length) cap) (l.length + l2.length) (cs.flatten ++ cs2.flatten)) :
    OwnK At w' n e k (.slice (some ⟨g, 0, none⟩) (l.length + l2.length) cap) (l ++ l2) := by
  obtain ⟨a1, a2, a3⟩ := h2
  obtain ⟨b1, b2, b3⟩ := h2'
  refine ⟨cs ++ cs2, by rw [List.length_append, List.flatten_append]; exact h1, by simp [a1, b1], fun d hd => ?_, fun i d z hd hz => ?_, fun h => absurd (List.append_eq_nil_iff.1 h).2 hne⟩
  · rcases List.mem_append.1 hd with hd | hd
    · exact a2 d hd
    · exact b2 d hd
  · by_cases hi : i < l.length
    · rw [List.getElem?_append_left (by omega)] at hd
      rw [List.getElem?_append_left hi] at hz
      exact a3 i d z hd hz
    · rw [List.getElem?_append_right (by omega)] at hd
      rw [List.getElem?_append_right (by omega)] at hz
      rw [a1] at hd
      exact b3 _ d z hd hz
end

theorem flat_len {k : Nat} : ∀ (cs : List (List Value)), (∀ c ∈ cs, c.length = k) → cs.flatten.length = cs.length * k
  | [], _ => by simp
  | c :: cs, h => by rw [List.flatten_cons, List.length_append, flat_len cs (fun d hd => h d (by simp [hd])), h c (by simp), List.length_cons, Nat.succ_mul, Nat.add_comm]

section
variable {α : Type} {At : List Value → α → Prop} {w : World} {ops : Array Oper} {rest : List Oper} {o : Oper} {a : Act} {Q : Exit → Act → World → Prop}
/-- append of a row. -/
theorem wpList_append_K (hgd : o.guard = none) (s x : Operand) (t e k bytes : Nat) (z : Value)
    (ho : o.op = .call { callee := .builtin .append, args := #[s, x], argTypes := #[t, t] }) (ht : Tryz.prog.underlying t = some (.slice e)) (hinfo : (Tryz.prog.info? e).map (fun i => (i.zero, i.size, i.bytes)) = some (some z, k, bytes)) (hzs : z.cells.size = k) (hk : 0 < k) (hby : bytes ≤ 1024)
    (n : Nat) (v : Value) (l : List α) (hs : a.eval s = v) (hown : OwnK At w n e k v l) (n2 : Nat) (v2 : Value) (l2 : List α) (hx : a.eval x = v2) (hown2 : OwnK At w n2 e k v2 l2) (hl : l.length + l2.length ≤ 16777216) (hbase : n ≤ w.heap.size)
    (h : ∀ v' w', OwnK At w' n e k v' (l ++ l2) → w.grownBy w' v.ownBlock → wpList Tryz.prog ops Q rest (a.put o.dst v') w') : wpList Tryz.prog ops Q (o :: rest) a w := by
  obtain ⟨iS, hiS, hz0, hz1, hz2⟩ := info_parts hinfo
  have HO := hown
  obtain ⟨cs, hr, k1, k2, k3, k4⟩ := hown
  rcases hown2.shape with ⟨rfl, rfl⟩ | ⟨g2, cap2, rfl, _, _, _, hne⟩
  · refine wpList_append_own_none hgd s x t ho n e iS k ht hiS v l.length cs.flatten hs hr hx ?_
    exact h v w (by simpa using HO) ⟨rfl, rfl, rfl, Nat.le_refl _, fun _ _ _ => rfl⟩
  · obtain ⟨cs2, hr2, b1, b2, b3, _⟩ := hown2
    have hpos : 0 < l2.length := List.length_pos_iff.2 hne
    refine wpList_append_lies w hgd s x t ho n e iS z k bytes ht hiS hz0 hz1 hz2 hzs hk v l.length cs.flatten hs hr ⟨g2, 0, none⟩ l2.length cap2 cs2.flatten hx (by rw [flat_len cs2 (fun c hc => (b2 c hc).1), b1]) (fun j u hu => ?_) (fun u hu => ?_) hpos (by unfold maxLen; omega)
      (Nat.le_trans (Nat.mul_le_mul hl hby) (by decide)) hbase w.heap.size rfl ?_
    · rw [Addr.add_lit, Nat.zero_add, World.ownsRow.cellAt hr2 j (by have := (List.getElem?_eq_some_iff.1 hu).1; rw [flat_len cs2 (fun c hc => (b2 c hc).1), b1] at this; exact this)]
      exact hu
    · obtain ⟨c, hc, hu'⟩ := List.mem_flatten.1 hu
      exact (b2 c hc).2 u hu'
    · intro g cap w' h1' h2 _ _
      exact h _ w' (OwnK.cat ⟨k1, k2, k3⟩ ⟨b1, b2, b3⟩ hne h1') h2
end

end Go.Proofs.YtbncnkfogkhoeaaGreatDoor

/- Walks over package downref: the calls of an expression. -/
namespace Go.Proofs.YtbncnkfogkhoeaaGreatDoor
open Go.RowKit

/-- An expression's four cells, as they lie in world w. -/
def ExC (w : World) (m : Nat) (c : List Value) (x : Ex) : Prop := ∃ c0 c1 c2 c3, c = [c0, c1, c2, c3] ∧ ExAt w m c0 c1 c2 c3 x
theorem infoExN : (Tryz.prog.info? 84).map (fun i => (i.zero, i.size, i.bytes)) = some (some (.agg #[.int .i64 0, .int .i64 0, .string ⟨#[]⟩, .slice none 0 0]), 4, 56) := by kernel_rfl
theorem ExAt.oneN {w : World} {m : Nat} {c0 c1 c2 c3 : Value} {x : Ex} (h : ExAt w m c0 c1 c2 c3 x) : ∀ u ∈ [c0, c1, c2, c3], u.oneCell' = true := by
  obtain ⟨a, cap, rfl, rfl, rfl, rfl⟩ := h.shape
  intro u hu
  simp at hu
  rcases hu with rfl | rfl | rfl | rfl <;> rfl

namespace Nm
/-- The calls of an expression; m bounds how deep it is looked into. -/
def calls : Nat → Ex → List Ex
  | 0, _ => []
  | m + 1, x => x.args.flatMap (calls m) ++ if x.kind = 4 then [x] else []
end Nm
theorem flat_succ {α β : Type} {f : α → List β} {l : List α} {j : Nat} {y : α} (h : l[j]? = some y) : (l.take (j + 1)).flatMap f = (l.take j).flatMap f ++ f y := by
  rw [List.take_add_one, h]; simp
theorem flat_le {α β : Type} {f : α → List β} {l : List α} (j : Nat) : ((l.take j).flatMap f).length ≤ (l.flatMap f).length := by
  have h := congrArg (fun t => (t.flatMap f).length) (List.take_append_drop j l)
  simp only [List.flatMap_append, List.length_append] at h
  omega
theorem grown_below {w w1 w2 : World} {r : Option Nat} (h : Below w.heap.size w w1) (hg : w1.grownBy w2 r) (hr : ∀ k, r = some k → w.heap.size ≤ k) : Below w.heap.size w w2 :=
  ⟨hg.os.trans h.os, hg.tape.trans h.tape, hg.output.trans h.output, Nat.le_trans h.size hg.size, fun k hk => (hg.block k (Nat.lt_of_lt_of_le hk h.size) (fun e => by have := hr k e.symm; omega)).trans (h.block k hk)⟩

theorem boxD0 (w : World) (c0 c1 c2 c3 : Value) (t : TypeId) : (w.alloc (.cells #[c0, c1, c2, c3] t)).cell? ⟨w.heap.size, 0, none⟩ = some c0 := by simp [go_sem]
theorem boxD1 (w : World) (c0 c1 c2 c3 : Value) (t : TypeId) : (w.alloc (.cells #[c0, c1, c2, c3] t)).cell? ⟨w.heap.size, 1, none⟩ = some c1 := by simp [go_sem]
theorem boxD2 (w : World) (c0 c1 c2 c3 : Value) (t : TypeId) : (w.alloc (.cells #[c0, c1, c2, c3] t)).cell? ⟨w.heap.size, 2, none⟩ = some c2 := by simp [go_sem]

set_option maxHeartbeats 4000000 in
set_option maxRecDepth 100000 in
theorem rcalls_any (W : World) (M : Nat) (m : Nat) : ∀ (w : World) (c0 c1 c2 c3 : Value) (x : Ex), Below W.heap.size W w → m ≤ M → ExAt W m c0 c1 c2 c3 x → (Nm.calls m x).length ≤ 16777216 →
    Calls Tryz.prog 41 #[.agg #[c0, c1, c2, c3]] w fun e w' => ∃ v, e = .returned v ∧ OwnK (ExC W M) w' w.heap.size 84 4 v (Nm.calls m x) ∧ Below w.heap.size w w' := by
  induction m with
  | zero => intro w c0 c1 c2 c3 x _ _ h; exact False.elim h
  | succ m ih =>
    intro w c0 c1 c2 c3 x hW hM h hlen
    have HI := hide ih
    have HX := hide (h.mono M hM)
    have HW := hide hW
    clear ih hW
    obtain ⟨rfl, rfl, rfl, hsz, hk1, hk2, a, b, off, cap, rfl, ha, hl, hel⟩ := h
    obtain ⟨k, n, s, args⟩ := x
    simp only at hsz hk1 hk2 ha hl hel HX ⊢
    have HEL := hide hel
    have HA := hide ha
    have HLE : Hid (∀ j, ((args.take j).flatMap (Nm.calls m)).length ≤ 16777215 + (if k = 4 then 0 else 1)) := hide (fun j => by
      have h1 := flat_le (f := Nm.calls m) (l := args) j
      simp only [Nm.calls, List.length_append] at hlen
      split at hlen <;> simp_all <;> omega)
    obtain ⟨len, hlen'⟩ : ∃ len, len = args.length := ⟨_, rfl⟩
    have HL := hide hlen'
    rw [← hlen'] at hl HA HX ⊢
    have HK4 : Hid (Nm.calls (m + 1) ⟨k, n, s, args⟩ = args.flatMap (Nm.calls m) ++ if k = 4 then [⟨k, n, s, args⟩] else []) := rfl
    obtain ⟨R, hR⟩ : ∃ R, R = Nm.calls (m + 1) ⟨k, n, s, args⟩ := ⟨_, rfl⟩
    rw [← hR] at HK4 ⊢
    have q0 := boxD0 w (.int .i64 k) (.int .i64 n) (.string s) (.slice a len cap) 84
    have q1 := boxD1 w (.int .i64 k) (.int .i64 n) (.string s) (.slice a len cap) 84
    have q2 := boxD2 w (.int .i64 k) (.int .i64 n) (.string s) (.slice a len cap) 84
    have q3 := boxCells4 w (.int .i64 k) (.int .i64 n) (.string s) (.slice a len cap) 84
    have HB0 := hide (boxBelow w (.cells #[.int .i64 k, .int .i64 n, .string s, .slice a len cap] 84))
    have hsz0 : w.heap.size ≤ (w.alloc (.cells #[.int .i64 k, .int .i64 n, .string s, .slice a len cap] 84)).heap.size := HB0.out.size
    clear hel ha hlen hlen' hR
    go_enter Tryz.func41, Tryz.ntmps41
    go_wp2_with fail
    generalize w.alloc (.cells #[.int .i64 k, .int .i64 n, .string s, .slice a len cap] 84) = W0 at *
    go_loopw [3, 4] (fun v i wr => ∃ j : Nat, j ≤ len ∧ i = .int .i64 j ∧ OwnK (ExC W M) wr W0.heap.size 84 4 v ((args.take j).flatMap (Nm.calls m)) ∧ Below W0.heap.size W0 wr) (fun _ i _ => len - (intOf i).toNat)
    case atStart => exact ⟨0, Nat.zero_le _, rfl, OwnK.nil _ _ _ _, Below.refl _ _⟩
    case round =>
      obtain ⟨j, hj, rfl, hown, hnx⟩ := hrel
      have HOW := hide hown
      have HNX := hide hnx
      have t0 := cellUp q0 hnx
      have t1 := cellUp q1 hnx
      have t2 := cellUp q2 hnx
      have t3 := cellUp q3 hnx
      clear hown q0 q1 q2 q3
      by_cases hjl : j < len
      · obtain ⟨y, hy⟩ : ∃ y, args[j]? = some y := ⟨_, List.getElem?_eq_getElem (by rw [← HL.out]; exact hjl)⟩
        obtain ⟨e0, e1, e2, e3, g0, g1, g2, g3, hye⟩ := HEL.out j y hy
        have HY := hide hy
        obtain rfl := HA.out (by omega)
        have hbb := up HW.out (up HB0.out hnx)
        have HBB := hide hbb
        have u0 := cellUp g0 hbb
        have u1 := cellUp g1 hbb
        have u2' := cellUp g2 hbb
        have u3' := cellUp g3 hbb
        have HYE := hide hye
        have HLS : Hid (((args.take j).flatMap (Nm.calls m)).length + (Nm.calls m y).length ≤ 16777216) := hide (by
          have h1 := HLE.out (j + 1)
          rw [flat_succ hy, List.length_append] at h1
          split at h1 <;> omega)
        clear g0 g1 g2 g3 hye hy hbb hnx
        go_wp2_with fail
        refine (HI.out _ e0 e1 e2 e3 y HBB.out (by omega) HYE.out (by have := HLS.out; omega)).mono ?_
        rintro e w5 ⟨v5, rfl, hown5, hb5⟩
        have HOW5 := hide hown5
        have HB5 := hide hb5
        have HN5 := hide (up HNX.out hb5)
        clear hown5 hb5
        go_wp2_with (first
          | (at_builtin; refine wpList_append_K (At := ExC W M) rfl _ _ 82 84 4 56 _ rfl Tryz.underlying82 infoExN (by decide) (by decide) (by decide) W0.heap.size _ _ rfl (HOW.out.below HB5.out) _ _ _ rfl HOW5.out HLS.out HN5.out.size ?_; intro v6 w6 hown6 hgrow6; have HOW6 := hide hown6; have HN6 := hide (grown_below HN5.out hgrow6 (fun j hj => (HOW.out.lt j hj).1)); clear hown6 hgrow6)
          | fail)
        go_roundw
        case rel => exact ⟨j + 1, by omega, by go_num, by rw [flat_succ HY.out]; exact HOW6.out, HN6.out⟩
        case measure => simp [intOf]; omega
      · have hje : (args.take j) = args := List.take_of_length_le (by have := HL.out; omega)
        rw [hje] at HOW
        have HLA : Hid ((args.flatMap (Nm.calls m)).length ≤ 16777215 + (if k = 4 then 0 else 1)) := hide (by
          have h1 := HLE.out j
          rw [hje] at h1; exact h1)
        clear hje hnx
        by_cases h4 : k = 4
        · have h4' : (k == 4) = true := by simp [h4]
          rw [if_pos h4] at HK4 HLA
          clear h4
          go_wp2_with (first
            | (at_builtin; refine wpList_append_K (At := ExC W M) rfl _ _ 82 84 4 56 _ rfl Tryz.underlying82 infoExN (by decide) (by decide) (by decide) W0.heap.size _ _ rfl (HOW.out.below (boxBelow _ _)) _ _ [⟨k, n, s, args⟩] rfl (OwnK.one _ _ rfl HX.out.oneN ⟨_, _, _, _, rfl, HX.out⟩) (by have := HLA.out; simp only [List.length_singleton]; omega) (Nat.le_trans HNX.out.size (boxBelow _ _).size) ?_; intro v6 w6 hown6 hgrow6; have HOW6 := hide hown6; have HN6 := hide (grown_below (up HNX.out (boxBelow _ _)) hgrow6 (fun j hj => (HOW.out.lt j hj).1)); clear hown6 hgrow6)
            | fail)
          go_ret
          exact ⟨_, rfl, by rw [HK4.out]; exact HOW6.out.old hsz0, up HB0.out HN6.out⟩
        · have h4' : (k == 4) = false := by simp [h4]
          rw [if_neg h4] at HK4
          clear h4
          go_wp2_with fail
          go_ret
          exact ⟨_, rfl, by rw [HK4.out, List.append_nil]; exact HOW.out.old hsz0, up HB0.out HNX.out⟩

end Go.Proofs.YtbncnkfogkhoeaaGreatDoor

/- Walks over package downref: all commands of a body. -/
namespace Go.Proofs.YtbncnkfogkhoeaaGreatDoor
open Go.RowKit

/-- A command's eight cells, as they lie in world w. -/
def StC (w : World) (m : Nat) (c : List Value) (s : St) : Prop := ∃ e0 e1 e2 e3 va vb, c = [.int .i64 s.kind, .string s.name, e0, e1, e2, e3, va, vb] ∧ I64 s.kind ∧ s.name.size ≤ maxLen ∧ ExAt w m e0 e1 e2 e3 s.e ∧ StsAt w m va s.a ∧ StsAt w m vb s.b
theorem infoStN : (Tryz.prog.info? 100).map (fun i => (i.zero, i.size, i.bytes)) = some (some (.agg #[.int .i64 0, .string ⟨#[]⟩, .int .i64 0, .int .i64 0, .string ⟨#[]⟩, .slice none 0 0, .slice none 0 0, .slice none 0 0]), 8, 128) := by kernel_rfl
theorem StsAt.shapeN {w : World} : ∀ {m : Nat} {v : Value} {l : List St}, StsAt w m v l → ∃ a cap, v = .slice a l.length cap
  | 0, _, _, h => False.elim h
  | _ + 1, _, _, ⟨a, _, _, cap, e, _⟩ => ⟨a, cap, e⟩
theorem StC.one {w : World} {m : Nat} {c : List Value} {s : St} (h : StC w m c s) : ∀ u ∈ c, u.oneCell' = true := by
  obtain ⟨e0, e1, e2, e3, va, vb, rfl, _, _, hx, ha, hb⟩ := h
  obtain ⟨a, cap, rfl, rfl, rfl, rfl⟩ := hx.shape
  obtain ⟨a1, c1, rfl⟩ := ha.shapeN
  obtain ⟨a2, c2, rfl⟩ := hb.shapeN
  intro u hu
  simp at hu
  rcases hu with rfl | rfl | rfl | rfl | rfl | rfl | rfl | rfl <;> rfl

namespace Nm
/-- A command, and all within it. -/
def within (f : List St → List St) (s : St) : List St := ([s] ++ f s.a) ++ f s.b
/-- All commands of a body; m bounds how deep it is looked into. -/
def all : Nat → List St → List St
  | 0, _ => []
  | m + 1, l => l.flatMap (within (all m))
end Nm

set_option maxHeartbeats 4000000 in
set_option maxRecDepth 100000 in
theorem rall_any (W : World) (M : Nat) (m : Nat) : ∀ (w : World) (v : Value) (l : List St), Below W.heap.size W w → m ≤ M → StsAt W m v l → (Nm.all m l).length ≤ 16777216 →
    Calls Tryz.prog 40 #[v] w fun e w' => ∃ u, e = .returned u ∧ OwnK (StC W M) w' w.heap.size 100 8 u (Nm.all m l) ∧ Below w.heap.size w w' := by
  induction m with
  | zero => intro w v l _ _ h; exact False.elim h
  | succ m ih =>
    intro w v l hW hM h hlen
    have HI := hide ih
    have HW := hide hW
    clear ih hW
    obtain ⟨a, b, off, cap, rfl, ha, hl, hel⟩ := h
    have HEL := hide hel
    have HA := hide ha
    have HLE : Hid (∀ j, ((l.take j).flatMap (Nm.within (Nm.all m))).length ≤ 16777216) := hide (fun j => Nat.le_trans (flat_le j) hlen)
    obtain ⟨R, hR⟩ : ∃ R, R = Nm.all (m + 1) l := ⟨_, rfl⟩
    have HR : Hid (R = l.flatMap (Nm.within (Nm.all m))) := hR
    rw [← hR]
    obtain ⟨len, hlen'⟩ : ∃ len, len = l.length := ⟨_, rfl⟩
    have HL := hide hlen'
    rw [← hlen'] at hl HA ⊢
    clear hel ha hlen hlen' hR
    go_enter Tryz.func40, Tryz.ntmps40
    go_wp2_with fail
    go_loopw [3, 4] (fun v i wr => ∃ j : Nat, j ≤ len ∧ i = .int .i64 j ∧ OwnK (StC W M) wr w.heap.size 100 8 v ((l.take j).flatMap (Nm.within (Nm.all m))) ∧ Below w.heap.size w wr) (fun _ i _ => len - (intOf i).toNat)
    case atStart => exact ⟨0, Nat.zero_le _, rfl, OwnK.nil _ _ _ _, Below.refl _ _⟩
    case round =>
      obtain ⟨j, hj, rfl, hown, hnx⟩ := hrel
      have HOW := hide hown
      have HNX := hide hnx
      clear hown
      by_cases hjl : j < len
      · obtain ⟨y, hy⟩ : ∃ y, l[j]? = some y := ⟨_, List.getElem?_eq_getElem (by rw [← HL.out]; exact hjl)⟩
        obtain ⟨k1, k2, e0, e1, e2, e3, va, vb, g0, g1, g2, g3, g4, g5, g6, g7, hx, hva, hvb⟩ := HEL.out j y hy
        have HY := hide hy
        obtain rfl := HA.out (by omega)
        have hbb := up HW.out hnx
        have HBB := hide hbb
        have HG6 := hide g6
        have HG7 := hide g7
        have u0 := cellUp g0 hbb
        have u1 := cellUp g1 hbb
        have u2 := cellUp g2 hbb
        have u3' := cellUp g3 hbb
        have u4' := cellUp g4 hbb
        have u5 := cellUp g5 hbb
        have u6 := cellUp g6 hbb
        have u7 := cellUp g7 hbb
        have HST : Hid (StC W M [.int .i64 y.kind, .string y.name, e0, e1, e2, e3, va, vb] y) := hide ⟨e0, e1, e2, e3, va, vb, rfl, k1, k2, hx.mono M (by omega), hva.mono M (by omega), hvb.mono M (by omega)⟩
        have HVA := hide hva
        have HVB := hide hvb
        have HLS : Hid (((l.take j).flatMap (Nm.within (Nm.all m))).length + (1 + (Nm.all m y.a).length + (Nm.all m y.b).length) ≤ 16777216) := hide (by
          have h1 := HLE.out (j + 1)
          rw [flat_succ hy, List.length_append, Nm.within, List.length_append, List.length_append, List.length_singleton] at h1
          exact h1)
        obtain ⟨sa, ca, rfl⟩ := hva.shapeN
        obtain ⟨sb, cb, rfl⟩ := hvb.shapeN
        obtain ⟨xa, xc, rfl, rfl, rfl, rfl⟩ := hx.shape
        clear g0 g1 g2 g3 g4 g5 g6 g7 hx hva hvb hy hbb hnx
        go_wp2_with (first
          | (at_builtin; have hg := HST; clear hg; refine wpList_append_K (At := StC W M) rfl _ _ 80 100 8 128 _ rfl Tryz.underlying80 infoStN (by decide) (by decide) (by decide) w.heap.size _ _ rfl (HOW.out.below (boxBelow _ _)) _ _ [y] rfl (OwnK.one _ _ rfl HST.out.one HST.out) (by have := HLS.out; simp only [List.length_singleton]; omega) (Nat.le_trans HNX.out.size (boxBelow _ _).size) ?_; intro v6 w6 hown6 hgrow6; have HOW6 := hide hown6; have HN6 := hide (grown_below (up HNX.out (boxBelow _ _)) hgrow6 (fun j hj => (HOW.out.lt j hj).1)); have z6 := cellUp HG6.out (up HW.out HN6.out); have z7 := cellUp HG7.out (up HW.out HN6.out); clear hown6 hgrow6 u0 u1 u2 u3' u4' u5 u6 u7 HST)
          | fail)
        refine (HI.out _ _ y.a (up HW.out HN6.out) (by omega) HVA.out (by have := HLS.out; omega)).mono ?_
        rintro e w7 ⟨v7, rfl, hown7, hb7⟩
        have HOW7 := hide hown7
        have HB7 := hide hb7
        have HN7 := hide (up HN6.out hb7)
        clear hown7 hb7 z6
        go_wp2_with (first
          | (at_builtin; have hg := HOW7; clear hg; refine wpList_append_K (At := StC W M) rfl _ _ 80 100 8 128 _ rfl Tryz.underlying80 infoStN (by decide) (by decide) (by decide) w.heap.size _ _ rfl (HOW6.out.below HB7.out) _ _ _ rfl HOW7.out (by have := HLS.out; simp only [List.length_append, List.length_singleton]; omega) HN7.out.size ?_; intro v8 w8 hown8 hgrow8; have HOW8 := hide hown8; have HN8 := hide (grown_below HN7.out hgrow8 (fun j hj => (HOW6.out.lt j hj).1)); clear z7; have z7 := cellUp HG7.out (up HW.out HN8.out); clear hown8 hgrow8 HOW7)
          | fail)
        refine (HI.out _ _ y.b (up HW.out HN8.out) (by omega) HVB.out (by have := HLS.out; omega)).mono ?_
        rintro e w9 ⟨v9, rfl, hown9, hb9⟩
        have HOW9 := hide hown9
        have HB9 := hide hb9
        have HN9 := hide (up HN8.out hb9)
        clear hown9 hb9 z7
        go_wp2_with (first
          | (at_builtin; have hg := HOW9; clear hg; refine wpList_append_K (At := StC W M) rfl _ _ 80 100 8 128 _ rfl Tryz.underlying80 infoStN (by decide) (by decide) (by decide) w.heap.size _ _ rfl (HOW8.out.below HB9.out) _ _ _ rfl HOW9.out (by have := HLS.out; simp only [List.length_append, List.length_singleton]; omega) HN9.out.size ?_; intro v10 w10 hown10 hgrow10; have HOW10 := hide hown10; have HN10 := hide (grown_below HN9.out hgrow10 (fun j hj => (HOW8.out.lt j hj).1)); clear hown10 hgrow10 HOW9)
          | fail)
        go_roundw
        case rel => exact ⟨j + 1, by omega, by go_num, by rw [flat_succ HY.out, Nm.within, ← List.append_assoc, ← List.append_assoc]; exact HOW10.out, HN10.out⟩
        case measure => simp [intOf]; omega
      · have hje : (l.take j) = l := List.take_of_length_le (by have := HL.out; omega)
        rw [hje] at HOW
        clear hje hnx
        go_wp2_with fail
        go_ret
        exact ⟨_, rfl, by rw [HR.out]; exact HOW.out, HNX.out⟩

end Go.Proofs.YtbncnkfogkhoeaaGreatDoor

/- Walks over package downref: ahead, the order of diagnostics. -/
namespace Go.Proofs.YtbncnkfogkhoeaaGreatDoor
open Go.RowKit

structure Dg where
  code : Int
  fn : ByteArray
  name : ByteArray
namespace Nm
/-- Does one diagnostic stand ahead of another one? -/
def aheadB (a b : Dg) : Bool :=
  if (a.fn.toList == b.fn.toList) = false then Op.bytesLess a.fn.toList b.fn.toList
  else if (a.code == b.code) = false then decide (a.code < b.code) else Op.bytesLess a.name.toList b.name.toList
end Nm
theorem boxE0 (w : World) (c0 c1 c2 : Value) (t : TypeId) : (w.alloc (.cells #[c0, c1, c2] t)).cell? ⟨w.heap.size, 0, none⟩ = some c0 := by simp [go_sem]

set_option maxHeartbeats 1000000 in
theorem ahead_any (w : World) (x y : Dg) :
    Calls Tryz.prog 93 #[.agg #[.int .i64 x.code, .string x.fn, .string x.name], .agg #[.int .i64 y.code, .string y.fn, .string y.name]] w fun e w' => e = .returned (.bool (Nm.aheadB x y)) ∧ Below w.heap.size w w' := by
  obtain ⟨cx, fx, nx⟩ := x
  obtain ⟨cy, fy, ny⟩ := y
  simp only
  have HE : Hid (Nm.aheadB ⟨cx, fx, nx⟩ ⟨cy, fy, ny⟩ = if (fx.toList == fy.toList) = false then Op.bytesLess fx.toList fy.toList else if (cx == cy) = false then decide (cx < cy) else Op.bytesLess nx.toList ny.toList) := rfl
  have HB : Hid (Below w.heap.size w ((w.alloc (.cells #[.int .i64 cx, .string fx, .string nx] 43)).alloc (.cells #[.int .i64 cy, .string fy, .string ny] 43))) := hide (up (boxBelow _ _) (boxBelow _ _))
  cases h1 : (fx.toList == fy.toList)
  · rw [if_pos h1] at HE
    go_enter Tryz.func93, Tryz.ntmps93
    go_wp2
    go_ret
    exact ⟨ret_bool HE.out.symm, HB.out⟩
  · rw [if_neg (by rw [h1]; simp)] at HE
    cases h2 : (cx == cy)
    · rw [if_pos h2] at HE
      go_enter Tryz.func93, Tryz.ntmps93
      go_wp2
      go_ret
      exact ⟨ret_bool HE.out.symm, HB.out⟩
    · rw [if_neg (by rw [h2]; simp)] at HE
      go_enter Tryz.func93, Tryz.ntmps93
      go_wp2
      go_ret
      exact ⟨ret_bool HE.out.symm, HB.out⟩

end Go.Proofs.YtbncnkfogkhoeaaGreatDoor

/- Walks over package downref: Names' closures tell and level. -/
namespace Go.Proofs.YtbncnkfogkhoeaaGreatDoor
open Go.RowKit

/-- A diagnostic's three cells. -/
def DgC (c : List Value) (d : Dg) : Prop := c = [.int .i64 d.code, .string d.fn, .string d.name]
theorem infoDg : (Tryz.prog.info? 43).map (fun i => (i.zero, i.size, i.bytes)) = some (some (.agg #[.int .i64 0, .string ⟨#[]⟩, .string ⟨#[]⟩]), 3, 40) := by kernel_rfl
theorem DgC.one {c : List Value} {d : Dg} (h : DgC c d) : ∀ u ∈ c, u.oneCell' = true := by
  subst h
  intro u hu
  simp at hu
  rcases hu with rfl | rfl | rfl <;> rfl

/-- The variable in block p holds the diagnostics l, in a row that was made behind n. -/
def Told (w : World) (n p : Nat) (l : List Dg) : Prop := n ≤ p ∧ ∃ v, w.heap[p]? = some (.cells #[v] 37 (0, 0)) ∧ OwnK DgC w n 43 3 v l
/-- All blocks stay but p, and rows of diagnostics. -/
structure Tells (p : Nat) (w w' : World) : Prop where
  size : w.heap.size ≤ w'.heap.size
  block : ∀ k, k < w.heap.size → k ≠ p → (∀ cs fz, w.heap[k]? ≠ some (.cells cs 43 fz)) → w'.heap[k]? = w.heap[k]?
theorem Tells.refl (p : Nat) (w : World) : Tells p w w := ⟨Nat.le_refl _, fun _ _ _ _ => rfl⟩
theorem Tells.trans {p : Nat} {a b c : World} (h : Tells p a b) (k : Tells p b c) : Tells p a c :=
  ⟨Nat.le_trans h.size k.size, fun i hi hp hd => by
    have h1 := h.block i hi hp hd
    rw [← h1]
    exact k.block i (Nat.lt_of_lt_of_le hi h.size) hp (fun cs fz => by rw [h1]; exact hd cs fz)⟩
theorem Tells.of_below {p : Nat} {w w' : World} (h : Below w.heap.size w w') : Tells p w w' := ⟨h.size, fun k hk _ _ => h.block k hk⟩
theorem Tells.at {p q : Nat} {w w' : World} (h : Tells p w w') (hq : q ≠ p) {cs : Array Value} {t : TypeId} {fz : Nat × Nat} (ho : w.heap[q]? = some (.cells cs t fz)) (ht : t ≠ 43) : w'.heap[q]? = some (.cells cs t fz) := by
  rw [h.block q (block_lt ho) hq (fun cs' fz' e => by rw [ho] at e; simp at e; exact ht e.2.1)]; exact ho
theorem Told.below {w w' : World} {n p : Nat} {l : List Dg} (h : Told w n p l) (hb : Below w.heap.size w w') : Told w' n p l := by
  obtain ⟨h0, v, h1, h2⟩ := h
  exact ⟨h0, v, by rw [hb.block p (block_lt h1)]; exact h1, h2.below hb⟩
theorem OwnK.set {α : Type} {At : List Value → α → Prop} {w : World} {n e k : Nat} {v : Value} {l : List α} (h : OwnK At w n e k v l) {a : Addr} (ha : v.ownBlock ≠ some a.block) (x : Value) : OwnK At (w.setCell a x) n e k v l := by
  obtain ⟨cs, ⟨h0, h1⟩, h2⟩ := h
  refine ⟨cs, ⟨h0, ?_⟩, h2⟩
  rcases h1 with h1 | ⟨g, cap, cur, hv, hg, hh, r⟩
  · exact Or.inl h1
  · refine Or.inr ⟨g, cap, cur, hv, hg, block_other hh (fun e' => ha (by rw [hv, ← e']; rfl)) _, r⟩
theorem OwnK.apart {α : Type} {At : List Value → α → Prop} {w : World} {n e k p : Nat} {v : Value} {l : List α} {cs : Array Value} {t : TypeId} {fz : Nat × Nat} (h : OwnK At w n e k v l) (hp : w.heap[p]? = some (.cells cs t fz)) (ht : t ≠ e) : v.ownBlock ≠ some p := by
  intro e'
  obtain ⟨_, ⟨_, h1⟩, _⟩ := h
  rcases h1 with ⟨rfl, _⟩ | ⟨g, cap, cur, hv, _, hh, _⟩
  · cases e'
  · rw [hv] at e'
    have : g = p := by simpa [Value.ownBlock] using e'
    subst this
    rw [hp] at hh
    simp at hh
    exact ht hh.2.1
theorem OwnK.form {α : Type} {At : List Value → α → Prop} {w : World} {n e k : Nat} {v : Value} {l : List α} (h : OwnK At w n e k v l) : ∃ a c, v = .slice a l.length c := by
  rcases h.shape with ⟨rfl, rfl⟩ | ⟨g, cap, rfl, _⟩
  · exact ⟨_, _, rfl⟩
  · exact ⟨_, _, rfl⟩
theorem OwnK.typ {α : Type} {At : List Value → α → Prop} {w : World} {n e k g : Nat} {v : Value} {l : List α} (h : OwnK At w n e k v l) (hg : v.ownBlock = some g) : ∃ cur, w.heap[g]? = some (.cells cur e (0, 0)) := by
  obtain ⟨_, ⟨_, h1⟩, _⟩ := h
  rcases h1 with ⟨rfl, _⟩ | ⟨g', cap, cur, hv, _, hh, _⟩
  · cases hg
  · rw [hv] at hg
    have : g' = g := by simpa [Value.ownBlock] using hg
    subst this
    exact ⟨cur, hh⟩

/-- Behind an append onto the row in the variable, and the store of what it answers. -/
theorem Told.push {w w6 : World} {n p : Nat} {l : List Dg} {d : Dg} {v v6 : Value} {o : Obj} (hn : n ≤ p) (hp : w.heap[p]? = some (.cells #[v] 37 (0, 0))) (hv : OwnK DgC w n 43 3 v l) (hown : OwnK DgC w6 n 43 3 v6 (l ++ [d])) (hg : (w.alloc o).grownBy w6 v.ownBlock) :
    w6.heap[p]? = some (.cells #[v] 37 (0, 0)) ∧ Told (w6.setCell ⟨p, 0, none⟩ v6) n p (l ++ [d]) ∧ Below n w (w6.setCell ⟨p, 0, none⟩ v6) ∧ Tells p w (w6.setCell ⟨p, 0, none⟩ v6) := by
  have hb := boxBelow w o
  have hplt := block_lt hp
  have hne := hv.apart hp (by decide)
  have h1 : w6.heap[p]? = some (.cells #[v] 37 (0, 0)) := by
    rw [hg.block p (Nat.lt_of_lt_of_le hplt hb.size) (fun e => hne e.symm), hb.block p hplt]; exact hp
  have hne6 := hown.apart h1 (by decide)
  have hkeep : ∀ k, k < w.heap.size → k ≠ p → some k ≠ v.ownBlock → (w6.setCell ⟨p, 0, none⟩ v6).heap[k]? = w.heap[k]? := fun k hk hkp hkv => by
    rw [Below.heap_setCell _ _ _ _ hkp, hg.block k (Nat.lt_of_lt_of_le hk hb.size) hkv, hb.block k hk]
  have hsz : w.heap.size ≤ (w6.setCell ⟨p, 0, none⟩ v6).heap.size := by
    simp only [World.setCell, Array.size_modify]
    exact Nat.le_trans hb.size hg.size
  refine ⟨h1, ⟨hn, v6, ?_, hown.set hne6 _⟩, ⟨hg.os.trans hb.os, hg.tape.trans hb.tape, hg.output.trans hb.output, hsz, fun k hk => hkeep k (by omega) (by omega) (fun e => ?_)⟩, ⟨hsz, fun k hk hkp hd => hkeep k hk hkp (fun e => ?_)⟩⟩
  · rw [block_set h1]; rfl
  · have := (hv.lt k e.symm).1
    omega
  · obtain ⟨cur, hc⟩ := hv.typ e.symm
    exact hd _ _ hc

set_option maxHeartbeats 1000000 in
theorem tell_any (w : World) (n p : Nat) (l : List Dg) (code : Int) (fn name : ByteArray) (h : Told w n p l) (hn : n ≤ w.heap.size) (hl : l.length < 16777216) :
    Calls Tryz.prog 37 #[.int .i64 code, .string fn, .string name, .pointer (some ⟨p, 0, none⟩)] w fun e w' => e = .returned (.tuple #[]) ∧ Told w' n p (l ++ [⟨code, fn, name⟩]) ∧ Below n w w' ∧ Tells p w w' := by
  obtain ⟨h0, v, h1, h2⟩ := h
  have q0 : w.cell? ⟨p, 0, none⟩ = some v := by rw [block_at h1]; rfl
  have H0 := hide h0
  have H1 := hide h1
  have H2 := hide h2
  clear h0 h1 h2
  go_enter Tryz.func37, Tryz.ntmps37
  go_wp2_with (first
    | (at_builtin; refine wpList_append_K (At := DgC) rfl _ _ 37 43 3 40 _ rfl Tryz.underlying37 infoDg (by decide) (by decide) (by decide) n _ _ rfl (H2.out.below (boxBelow _ _)) _ _ [⟨code, fn, name⟩] rfl (OwnK.one _ _ rfl (DgC.one (d := ⟨code, fn, name⟩) rfl) rfl) (by simp only [List.length_singleton]; omega) (Nat.le_trans hn (boxBelow _ _).size) ?_; intro v6 w6 hown6 hgrow6; obtain ⟨a6, c6, hv6⟩ := hown6.form; subst hv6; have HP := hide (Told.push H0.out H1.out H2.out hown6 hgrow6); have z0 := (block_at HP.out.1 0).trans (show _ = some v from rfl); have zf := block_free HP.out.1 0; clear hown6 hgrow6)
    | fail)
  go_end0
  have hl1 : (l ++ [(⟨code, fn, name⟩ : Dg)]).length = l.length + 1 := by simp
  rw [hl1] at HP
  exact ⟨rfl, HP.out.2⟩

namespace Nm
/-- What level tells of a name. -/
def lev (names : List ByteArray) (fn name : ByteArray) : List Dg := if decide (0 ≤ Lat.indexI names name) = true then [] else [⟨3, fn, name⟩]
end Nm

set_option maxHeartbeats 1000000 in
theorem level_any (w : World) (n p q r : Nat) (l : List Dg) (vn : Value) (names : List ByteArray) (fn name : ByteArray) (h : Told w n p l) (hn : n ≤ w.heap.size) (hl : l.length < 16777216)
    (hq : w.cell? ⟨q, 0, none⟩ = some vn) (hN : Strs w vn names) (hr : w.cell? ⟨r, 0, none⟩ = some (.func (.func 37) #[] #[.pointer (some ⟨p, 0, none⟩)])) :
    Calls Tryz.prog 38 #[.string fn, .string name, .pointer (some ⟨q, 0, none⟩), .pointer (some ⟨r, 0, none⟩)] w fun e w' => e = .returned (.tuple #[]) ∧ Told w' n p (l ++ Nm.lev names fn name) ∧ Below n w w' ∧ Tells p w w' := by
  have HN := hide hN
  have HT := hide h
  obtain ⟨a, b, off, cap, rfl, _⟩ := hN
  have HL : Hid (Nm.lev names fn name = if decide (0 ≤ Lat.indexI names name) = true then [] else [⟨3, fn, name⟩]) := rfl
  clear h
  go_enter Tryz.func38, Tryz.ntmps38
  go_wp2_with fail
  refine (containsS_any w _ names name HN.out).mono ?_
  rintro e w' ⟨rfl, hw'⟩
  subst hw'
  generalize decide (0 ≤ Lat.indexI names name) = is at *
  cases is
  · go_wp2_with fail
    refine (tell_any _ n p l 3 fn name HT.out hn hl).mono ?_
    rintro e w5 ⟨rfl, h5, hb5, ht5⟩
    go_wp2
    go_end0
    exact ⟨rfl, by rw [HL.out]; exact h5, hb5, ht5⟩
  · go_wp2_with fail
    go_end0
    exact ⟨rfl, by rw [HL.out]; simpa using HT.out, Below.refl _ _, Tells.refl _ _⟩

end Go.Proofs.YtbncnkfogkhoeaaGreatDoor
