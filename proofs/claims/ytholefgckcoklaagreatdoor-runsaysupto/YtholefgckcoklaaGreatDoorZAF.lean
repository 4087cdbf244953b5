/- What expressions, commands, functions and modules weigh: bounds of how long their texts are. -/
import Derived.Test.YtholefgckcoklaaGreatDoorZAB
import Derived.Test.YtholefgckcoklaaGreatDoorZAD
import Derived.Test.YtholefgckcoklaaGreatDoorZAC
import Derived.OwnWalk
import Derived.Deep.AppendLies
import Derived.Laws.OwnMore
import Derived.Deep.OwnRows
import Derived.Shelf.SlSortCmp.QuietGrown
namespace Go.Proofs.YtholefgckcoklaaGreatDoor
open Go.RowKit
def exW : Nat → Ex → Nat
  | 0, _ => 0
  | m + 1, x => x.name.size + 4 + (x.args.map (exW m)).sum
def stsW : Nat → List St → Nat
  | 0, _ => 0
  | m + 1, l => (l.map fun s => s.name.size + 3 + exW m s.e + stsW m s.a + stsW m s.b).sum + 1
def strsW (l : List ByteArray) : Nat := (l.map fun s => s.size + 1).sum + 1
def vasW (l : List Va) : Nat := (l.map fun s => s.name.size + s.level.size + 3).sum + 1
def fusW (m : Nat) (l : List Fu) : Nat := (l.map fun s => s.name.size + 2 + strsW s.params + stsW m s.body + exW m s.result).sum + 1
def moW (m : Nat) (x : Mo) : Nat := x.name.size + 2 + strsW x.imports + vasW x.vars + fusW m x.funs
theorem map_congr_get {α β : Type} {f g : α → β} {l : List α} (h : ∀ (i : Nat) (x : α), l[i]? = some x → f x = g x) : l.map f = l.map g :=
  List.map_congr_left fun x hx => by
    obtain ⟨i, hi, rfl⟩ := List.mem_iff_getElem.1 hx
    exact h i _ (List.getElem?_eq_getElem hi)
theorem exW_mono {w : World} : ∀ {m : Nat} {c0 c1 c2 c3 : Value} {x : Ex}, ExAt w m c0 c1 c2 c3 x → ∀ k, m ≤ k → exW k x = exW m x
  | 0, _, _, _, _, _, h, _, _ => False.elim h
  | m + 1, c0, c1, c2, c3, x, h, 0, hk => by omega
  | m + 1, c0, c1, c2, c3, x, h, k + 1, hk => by
    obtain ⟨_, _, _, _, _, _, a, b, off, cap, _, _, _, h9⟩ := h
    simp only [exW]
    rw [map_congr_get (f := exW k) (g := exW m) (fun i y hy => by
      obtain ⟨e0, e1, e2, e3, _, _, _, _, hx⟩ := h9 i y hy
      exact exW_mono hx k (by omega))]
theorem stsW_mono {w : World} : ∀ {m : Nat} {v : Value} {l : List St}, StsAt w m v l → ∀ k, m ≤ k → stsW k l = stsW m l
  | 0, _, _, h, _, _ => False.elim h
  | m + 1, v, l, h, 0, hk => by omega
  | m + 1, v, l, h, k + 1, hk => by
    obtain ⟨a, b, off, cap, _, _, _, h9⟩ := h
    simp only [stsW]
    rw [map_congr_get (fun i s hs => by
      obtain ⟨_, _, e0, e1, e2, e3, va, vb, _, _, _, _, _, _, _, _, hx, ha, hb⟩ := h9 i s hs
      rw [exW_mono hx k (by omega), stsW_mono ha k (by omega), stsW_mono hb k (by omega)])]
end Go.Proofs.YtholefgckcoklaaGreatDoor
namespace Go.Proofs.YtholefgckcoklaaGreatDoor
open Go.RowKit
def MosAt (w : World) (m : Nat) (v : Value) (l : List Mo) : Prop :=
  ∃ (a : Option Addr) (b off cap : Nat), v = .slice a l.length cap ∧ (0 < l.length → a = some ⟨b, off, none⟩) ∧ l.length ≤ 9223372036854775807 ∧
    ∀ i x, l[i]? = some x → ∃ vi vv vf, w.cell? ⟨b, off + i * 4, none⟩ = some (.string x.name) ∧ w.cell? ⟨b, off + i * 4 + 1, none⟩ = some vi ∧ w.cell? ⟨b, off + i * 4 + 2, none⟩ = some vv ∧ w.cell? ⟨b, off + i * 4 + 3, none⟩ = some vf ∧ MoAt w m (.agg #[.string x.name, vi, vv, vf]) x
theorem MosAt.below {w w' : World} {m : Nat} {v : Value} {l : List Mo} (h : MosAt w m v l) (hb : Below w.heap.size w w') : MosAt w' m v l := by
  obtain ⟨a, b, off, cap, e, h0, hl, h1⟩ := h
  refine ⟨a, b, off, cap, e, h0, hl, fun i x hx => ?_⟩
  obtain ⟨vi, vv, vf, g0, g1, g2, g3, hm⟩ := h1 i x hx
  exact ⟨vi, vv, vf, cellUp g0 hb, cellUp g1 hb, cellUp g2 hb, cellUp g3 hb, hm.below hb⟩
namespace Nm
def sameB (s t : ByteArray) : Bool := s.toList == t.toList
def fnAt (l : List Fu) (s : ByteArray) (n : Nat) : Option Nat := (List.range n).find? fun i => match l[i]? with | some f => sameB f.name s | none => false
def moAt (l : List Mo) (s : ByteArray) : Option Nat := (List.range l.length).find? fun i => match l[i]? with | some x => sameB x.name s | none => false
def tgt (x : Mo) (k : Nat) (call : ByteArray) (known : List Mo) : Int × Int × Bool :=
  match Lat.dotAt call with
  | none => match fnAt x.funs call k with
    | some i => (-1, i, true)
    | none => (-1, 0, false)
  | some _ =>
    if 0 ≤ Lat.indexI x.imports (Lat.preS call) then
      match moAt known (Lat.preS call) with
      | none => (0, 0, false)
      | some i => match fnAt ((known[i]?.map (·.funs)).getD []) (Lat.sufS call) ((known[i]?.map (·.funs)).getD []).length with
        | some j => (i, j, true)
        | none => (i, 0, false)
    else (0, 0, false)
theorem fnAt_hit {l : List Fu} {s : ByteArray} {n i : Nat} {f : Fu} (hi : i < n) (hf : l[i]? = some f) (h : sameB f.name s = true) (h0 : ∀ d g, d < i → l[d]? = some g → sameB g.name s = false) : fnAt l s n = some i := by
  refine Lat.find_hit hi (fun c hc => ?_) (by simp only [hf]; exact h)
  cases hg : l[c]? with
  | none => rfl
  | some g => exact h0 c g hc hg
theorem fnAt_none {l : List Fu} {s : ByteArray} {n : Nat} (h0 : ∀ d g, d < n → l[d]? = some g → sameB g.name s = false) : fnAt l s n = none := by
  refine Lat.find_none (fun c hc => ?_)
  cases hg : l[c]? with
  | none => rfl
  | some g => exact h0 c g hc hg
theorem moAt_hit {l : List Mo} {s : ByteArray} {i : Nat} {x : Mo} (hx : l[i]? = some x) (h : sameB x.name s = true) (h0 : ∀ d g, d < i → l[d]? = some g → sameB g.name s = false) : moAt l s = some i := by
  refine Lat.find_hit (List.getElem?_eq_some_iff.1 hx).1 (fun c hc => ?_) (by simp only [hx]; exact h)
  cases hg : l[c]? with
  | none => rfl
  | some g => exact h0 c g hc hg
theorem moAt_none {l : List Mo} {s : ByteArray} (h0 : ∀ (d : Nat) (g : Mo), l[d]? = some g → sameB g.name s = false) : moAt l s = none := by
  refine Lat.find_none (fun c hc => ?_)
  cases hg : l[c]? with
  | none => rfl
  | some g => exact h0 c g hg
end Nm
end Go.Proofs.YtholefgckcoklaaGreatDoor
namespace Go.Proofs.YtholefgckcoklaaGreatDoor
open Go.RowKit
namespace Nm
theorem tgt_here {x : Mo} {k : Nat} {call : ByteArray} {known : List Mo} {i : Nat} (hd : Lat.dotAt call = none) (hf : fnAt x.funs call k = some i) : tgt x k call known = (-1, (i : Int), true) := by simp [tgt, hd, hf]
theorem tgt_here0 {x : Mo} {k : Nat} {call : ByteArray} {known : List Mo} (hd : Lat.dotAt call = none) (hf : fnAt x.funs call k = none) : tgt x k call known = (-1, 0, false) := by simp [tgt, hd, hf]
theorem tgt_notI {x : Mo} {k : Nat} {call : ByteArray} {known : List Mo} {d : Nat} (hd : Lat.dotAt call = some d) (hi : decide (0 ≤ Lat.indexI x.imports (Lat.preS call)) = false) : tgt x k call known = (0, 0, false) := by
  have := of_decide_eq_false hi
  simp [tgt, hd, this]
theorem tgt_noM {x : Mo} {k : Nat} {call : ByteArray} {known : List Mo} {d : Nat} (hd : Lat.dotAt call = some d) (hi : decide (0 ≤ Lat.indexI x.imports (Lat.preS call)) = true) (hm : moAt known (Lat.preS call) = none) : tgt x k call known = (0, 0, false) := by
  have := of_decide_eq_true hi
  simp [tgt, hd, this, hm]
theorem tgt_fn {x y : Mo} {k : Nat} {call : ByteArray} {known : List Mo} {d i j : Nat} (hd : Lat.dotAt call = some d) (hi : decide (0 ≤ Lat.indexI x.imports (Lat.preS call)) = true) (hm : moAt known (Lat.preS call) = some i) (hy : known[i]? = some y)
    (hf : fnAt y.funs (Lat.sufS call) y.funs.length = some j) : tgt x k call known = ((i : Int), (j : Int), true) := by
  have := of_decide_eq_true hi
  simp [tgt, hd, this, hm, hy, hf]
theorem tgt_nofn {x y : Mo} {k : Nat} {call : ByteArray} {known : List Mo} {d i : Nat} (hd : Lat.dotAt call = some d) (hi : decide (0 ≤ Lat.indexI x.imports (Lat.preS call)) = true) (hm : moAt known (Lat.preS call) = some i) (hy : known[i]? = some y)
    (hf : fnAt y.funs (Lat.sufS call) y.funs.length = none) : tgt x k call known = ((i : Int), 0, false) := by
  have := of_decide_eq_true hi
  simp [tgt, hd, this, hm, hy, hf]
end Nm
theorem boxN1 (w : World) (c0 c1 c2 c3 : Value) (t : TypeId) : (w.alloc (.cells #[c0, c1, c2, c3] t)).cell? ⟨w.heap.size, 1, none⟩ = some c1 := by simp [go_sem]
theorem boxN3 (w : World) (c0 c1 c2 c3 : Value) (t : TypeId) : (w.alloc (.cells #[c0, c1, c2, c3] t)).cell? ⟨w.heap.size, 3, none⟩ = some c3 := by simp [go_sem]
theorem ret_t3 {P : Prop} {R : Int × Int × Bool} {a b : Int} {c : Bool} (h : R = (a, b, c)) (hb : P) : (Ending.returned (.tuple #[.int .i64 a, .int .i64 b, .bool c]) = Ending.returned (.tuple #[.int .i64 R.1, .int .i64 R.2.1, .bool R.2.2])) ∧ P := by
  subst h; exact ⟨rfl, hb⟩
set_option maxHeartbeats 4000000 in
set_option maxRecDepth 100000 in
theorem rtarget_any (m : Nat) (w : World) (v vk : Value) (x : Mo) (k : Nat) (call : ByteArray) (known : List Mo) (h : MoAt w m v x) (hk : k ≤ x.funs.length) (hc : call.size ≤ maxLen) (hK : MosAt w m vk known) :
    Calls Tryz.prog 16 #[v, .int .i64 k, .string call, vk] w fun e w' => e = .returned (.tuple #[.int .i64 (Nm.tgt x k call known).1, .int .i64 (Nm.tgt x k call known).2.1, .bool (Nm.tgt x k call known).2.2]) ∧ Below w.heap.size w w' := by
  obtain ⟨vi, vv, vf, rfl, hnm, hI, hV, hF⟩ := h
  have HI := hide hI
  obtain ⟨ai, bi, oi, ci, rfl, hI'⟩ := hI
  obtain ⟨av, bv, ov, cv, rfl, hV'⟩ := hV
  obtain ⟨af, bf, of, cf, rfl, haf, hlf, hcf⟩ := hF
  obtain ⟨ak, bk, ok, ck, rfl, hak, hlk, hck⟩ := hK
  have HCF := hide hcf
  have HCK := hide hck
  have HAF := hide haf
  have HAK := hide hak
  have HCUT : Hid (∀ w, Calls Tryz.prog 62 #[.string call] w fun e w' => e = .returned (.tuple #[.string (Lat.preS call), .string (Lat.sufS call), .bool (Lat.dotAt call).isSome]) ∧ Below w.heap.size w w') := fun w => cutDot_any w call hc
  obtain ⟨ni, hni⟩ : ∃ n, n = x.imports.length := ⟨_, rfl⟩
  obtain ⟨nv, hnv⟩ : ∃ n, n = x.vars.length := ⟨_, rfl⟩
  obtain ⟨nf, hnf⟩ : ∃ n, n = x.funs.length := ⟨_, rfl⟩
  obtain ⟨nk, hnk⟩ : ∃ n, n = known.length := ⟨_, rfl⟩
  have HNF := hide hnf
  have HNK := hide hnk
  rw [← hni, ← hnv, ← hnf, ← hnk]
  rw [← hni] at HI
  rw [← hnf] at hk hlf HAF
  rw [← hnk] at hlk HAK
  clear haf hak hcf hck hI' hV' hni hnv hnf hnk hnm hc
  have q1 := boxN1 w (.string x.name) (.slice ai ni ci) (.slice av nv cv) (.slice af nf cf) 26
  have q3 := boxN3 w (.string x.name) (.slice ai ni ci) (.slice av nv cv) (.slice af nf cf) 26
  have HB0 := hide (boxBelow w (.cells #[.string x.name, .slice ai ni ci, .slice av nv cv, .slice af nf cf] 26))
  cases hd : Lat.dotAt call with
  | none =>
    have HPS : Hid (Lat.preS call = call) := hide (by simp [Lat.preS, hd])
    rw [hd] at HCUT
    have HD := hide hd
    clear hd
    obtain ⟨R, hR⟩ : ∃ R, R = Nm.tgt x k call known := ⟨_, rfl⟩
    have HR := hide hR
    rw [← hR]
    clear hR
    rw [HPS.out] at HCUT
    generalize Lat.sufS call = suf at *
    go_enter Tryz.func16, Tryz.ntmps16
    go_wp2_with fail
    refine (HCUT.out _).mono ?_
    rintro e w1 ⟨rfl, hb1⟩
    replace q3 := cellUp q3 hb1
    have HB1 := hide (up HB0.out hb1)
    clear hb1 q1
    go_wp2_with fail
    go_loop [14] (fun i => ∃ j : Nat, j ≤ k ∧ i = .int .i64 j ∧ ∀ d g, d < j → x.funs[d]? = some g → Nm.sameB g.name call = false) (fun i => k - (intOf i).toNat)
    case atStart => exact ⟨0, Nat.zero_le _, rfl, fun d g hd => absurd hd (Nat.not_lt_zero _)⟩
    case round =>
      obtain ⟨j, hj, rfl, hall⟩ := hrel
      have HA := hide hall
      clear hall
      by_cases hlt : j < k
      · obtain ⟨f, hf⟩ : ∃ f, x.funs[j]? = some f := ⟨_, List.getElem?_eq_getElem (by have := HNF.out; omega)⟩
        have HF := hide hf
        obtain ⟨hfn, vp, vb, e0, e1, e2, e3, g0, -⟩ := HCF.out j f hf
        obtain rfl := HAF.out (by omega)
        have c0 := cellUp g0 HB1.out
        clear hf g0
        cases hh : (f.name.toList == call.toList)
        · have HH := hide hh
          go_wp2
          go_round
          case rel => exact ⟨j + 1, by omega, by go_num, fun d g hd hg => by
              by_cases e : d = j
              · subst e; rw [HF.out] at hg; cases hg; exact HH.out
              · exact HA.out d g (by omega) hg⟩
          case measure => simp [intOf]; omega
        · have HH := hide hh
          go_wp2
          go_ret3
          exact ret_t3 (by rw [HR.out]; exact Nm.tgt_here HD.out (Nm.fnAt_hit hlt HF.out HH.out HA.out)) HB1.out
      · go_wp2
        go_ret3
        exact ret_t3 (by rw [HR.out]; exact Nm.tgt_here0 HD.out (Nm.fnAt_none fun d g hd hg => HA.out d g (by omega) hg)) HB1.out
  | some dd =>
    rw [hd] at HCUT
    have HD := hide hd
    clear hd
    obtain ⟨R, hR⟩ : ∃ R, R = Nm.tgt x k call known := ⟨_, rfl⟩
    have HR := hide hR
    rw [← hR]
    clear hR
    obtain ⟨pre, hpre⟩ : ∃ s, s = Lat.preS call := ⟨_, rfl⟩
    obtain ⟨suf, hsuf⟩ : ∃ s, s = Lat.sufS call := ⟨_, rfl⟩
    have HP := hide hpre
    have HS := hide hsuf
    rw [← hpre, ← hsuf] at HCUT
    clear hpre hsuf
    go_enter Tryz.func16, Tryz.ntmps16
    go_wp2_with fail
    refine (HCUT.out _).mono ?_
    rintro e w1 ⟨rfl, hb1⟩
    replace q1 := cellUp q1 hb1
    have HB1 := hide (up HB0.out hb1)
    clear hb1 q3
    go_wp2_with fail
    refine (containsS_any w1 _ x.imports pre (HI.out.below HB1.out)).mono ?_
    rintro e w' ⟨rfl, hw'⟩
    subst hw'
    obtain ⟨is, his⟩ : ∃ c, c = decide (0 ≤ Lat.indexI x.imports pre) := ⟨_, rfl⟩
    have HIS := hide his
    rw [← his]
    clear his
    cases is
    · go_wp2
      go_ret3
      exact ret_t3 (by rw [HR.out]; exact Nm.tgt_notI HD.out (by rw [← HP.out]; exact HIS.out.symm)) HB1.out
    · go_wp2_with fail
      go_loop [15] (fun i => ∃ j : Nat, j ≤ nk ∧ i = .int .i64 j ∧ ∀ d g, d < j → known[d]? = some g → Nm.sameB g.name pre = false) (fun i => nk - (intOf i).toNat)
      case atStart => exact ⟨0, Nat.zero_le _, rfl, fun d g hd => absurd hd (Nat.not_lt_zero _)⟩
      case round =>
        obtain ⟨j, hj, rfl, hall⟩ := hrel
        have HA := hide hall
        clear hall
        by_cases hlt : j < nk
        · obtain ⟨y, hy⟩ : ∃ y, known[j]? = some y := ⟨_, List.getElem?_eq_getElem (by have := HNK.out; omega)⟩
          have HY := hide hy
          obtain ⟨yi, yv, yf, g0, g1, g2, g3, hm⟩ := HCK.out j y hy
          obtain rfl := HAK.out (by omega)
          have c0 := cellUp g0 HB1.out
          have c3 := cellUp g3 HB1.out
          obtain ⟨zi, zv, zf, hz, -, -, -, hzf⟩ := hm
          injection hz with hz
          injection hz with hz
          injection hz with _ hz
          injection hz with _ hz
          injection hz with _ hz
          injection hz with hz _
          subst hz
          obtain ⟨ay, bY, oy, cy, rfl, hay, hly, hcy⟩ := hzf
          obtain ⟨ny, hny⟩ : ∃ n, n = y.funs.length := ⟨_, rfl⟩
          have HNY := hide hny
          have HCY := hide hcy
          rw [← hny] at hay hly c3
          have HAY := hide hay
          clear hy g0 g1 g2 g3 hny hcy hay
          cases hh : (y.name.toList == pre.toList)
          · have HH := hide hh
            go_wp2
            go_round
            case rel => exact ⟨j + 1, by omega, by go_num, fun d g hd hg => by
                by_cases e : d = j
                · subst e; rw [HY.out] at hg; cases hg; exact HH.out
                · exact HA.out d g (by omega) hg⟩
            case measure => simp [intOf]; omega
          · have HM : Hid (Nm.moAt known pre = some j) := hide (Nm.moAt_hit HY.out hh HA.out)
            go_wp2
            go_loop [16] (fun i => ∃ t : Nat, t ≤ ny ∧ i = .int .i64 t ∧ ∀ d g, d < t → y.funs[d]? = some g → Nm.sameB g.name suf = false) (fun i => ny - (intOf i).toNat)
            case atStart => exact ⟨0, Nat.zero_le _, rfl, fun d g hd => absurd hd (Nat.not_lt_zero _)⟩
            case round =>
              obtain ⟨t, ht, rfl, hall⟩ := hrel
              have HAT := hide hall
              clear hall
              by_cases hlt2 : t < ny
              · obtain ⟨f, hf⟩ : ∃ f, y.funs[t]? = some f := ⟨_, List.getElem?_eq_getElem (by have := HNY.out; omega)⟩
                have HF := hide hf
                obtain ⟨hfn, vp, vb, e0, e1, e2, e3, g0, -⟩ := HCY.out t f hf
                obtain rfl := HAY.out (by omega)
                have c7 := cellUp g0 HB1.out
                clear hf g0
                cases hh2 : (f.name.toList == suf.toList)
                · have HH := hide hh2
                  go_wp2
                  go_round
                  case rel => exact ⟨t + 1, by omega, by go_num, fun d g hd hg => by
                      by_cases e : d = t
                      · subst e; rw [HF.out] at hg; cases hg; exact HH.out
                      · exact HAT.out d g (by omega) hg⟩
                  case measure => simp [intOf]; omega
                · have HH := hide hh2
                  go_wp2
                  go_ret3
                  exact ret_t3 (by rw [HR.out]; exact Nm.tgt_fn HD.out (by rw [← HP.out]; exact HIS.out.symm) (by rw [← HP.out]; exact HM.out) HY.out (Nm.fnAt_hit (by rw [← HNY.out]; exact hlt2) HF.out (by rw [← HS.out]; exact HH.out) (by rw [← HS.out]; exact HAT.out))) HB1.out
              · go_wp2
                go_ret3
                exact ret_t3 (by rw [HR.out]; exact Nm.tgt_nofn HD.out (by rw [← HP.out]; exact HIS.out.symm) (by rw [← HP.out]; exact HM.out) HY.out (Nm.fnAt_none fun d g hd hg => by rw [← HS.out]; exact HAT.out d g (by have := HNY.out; omega) hg)) HB1.out
        · go_wp2
          go_ret3
          exact ret_t3 (by rw [HR.out]; exact Nm.tgt_noM HD.out (by rw [← HP.out]; exact HIS.out.symm) (Nm.moAt_none fun d g hg => by rw [← HP.out]; exact HA.out d g (by have := (List.getElem?_eq_some_iff.1 hg).1; have := HNK.out; omega) hg)) HB1.out
end Go.Proofs.YtholefgckcoklaaGreatDoor
namespace Go.Proofs.YtholefgckcoklaaGreatDoor
open Go.RowKit
def only (P : Nat → Bool) (w : World) : World := { w with heap := w.heap.mapIdx fun i o => if P i then o else .cells #[] 0 (0, 0) }
theorem only_cell {P : Nat → Bool} {w : World} {a : Addr} {v : Value} : (only P w).cell? a = some v ↔ P a.block = true ∧ w.cell? a = some v := by
  unfold only World.cell?
  simp only [Array.getElem?_mapIdx]
  cases hp : P a.block
  · cases w.heap[a.block]? <;> simp
  · cases w.heap[a.block]? <;> simp
def Sub (w w' : World) : Prop := ∀ a v, w.cell? a = some v → w'.cell? a = some v
theorem Sub.refl (w : World) : Sub w w := fun _ _ h => h
theorem Sub.trans {a b c : World} (h : Sub a b) (k : Sub b c) : Sub a c := fun x v hx => k x v (h x v hx)
structure But (p : Nat) (w w' : World) : Prop where
  os : w'.os = w.os
  tape : w'.tape = w.tape
  output : w'.output = w.output
  size : w.heap.size ≤ w'.heap.size
  block : ∀ k, k < w.heap.size → k ≠ p → w'.heap[k]? = w.heap[k]?
theorem But.refl (p : Nat) (w : World) : But p w w := ⟨rfl, rfl, rfl, Nat.le_refl _, fun _ _ _ => rfl⟩
theorem But.trans {p : Nat} {a b c : World} (h : But p a b) (k : But p b c) : But p a c :=
  ⟨k.os.trans h.os, k.tape.trans h.tape, k.output.trans h.output, Nat.le_trans h.size k.size, fun i hi hp => (k.block i (Nat.lt_of_lt_of_le hi h.size) hp).trans (h.block i hi hp)⟩
theorem But.of_below {p : Nat} {w w' : World} (h : Below w.heap.size w w') : But p w w' := ⟨h.os, h.tape, h.output, h.size, fun k hk _ => h.block k hk⟩
theorem But.drew {p : Nat} {w w' : World} (h : But p w w') (n : Nat) : But p w (w'.drewN n) := ⟨h.os, h.tape, h.output, h.size, h.block⟩
theorem But.alloc {p : Nat} {w w' : World} (h : But p w w') (o : Obj) : But p w (w'.alloc o) := h.trans (But.of_below (boxBelow w' o))
theorem But.set {p : Nat} {w w' : World} (h : But p w w') {a : Addr} (ha : a.block = p ∨ w.heap.size ≤ a.block) (v : Value) : But p w (w'.setCell a v) :=
  ⟨h.os, h.tape, h.output, by simp only [World.setCell, Array.size_modify]; exact h.size, fun k hk hp => (Below.heap_setCell _ _ _ _ (by rcases ha with e | e <;> omega)).trans (h.block k hk hp)⟩
theorem But.grown {p : Nat} {w w' w2 : World} (h : But p w w') {r : Option Nat} (hg : w'.grownBy w2 r) (hr : ∀ k, r = some k → w.heap.size ≤ k) : But p w w2 :=
  ⟨hg.os.trans h.os, hg.tape.trans h.tape, hg.output.trans h.output, Nat.le_trans h.size hg.size, fun k hk hp => (hg.block k (Nat.lt_of_lt_of_le hk h.size) (fun e => by have := hr k e.symm; omega)).trans (h.block k hk hp)⟩
theorem But.below {p : Nat} {w w' : World} (h : But p w w') {B : Nat} (hB : B ≤ p) (hs : B ≤ w.heap.size) : Below B w w' := ⟨h.os, h.tape, h.output, h.size, fun k hk => h.block k (by omega) (by omega)⟩
theorem But.at {p q : Nat} {w w' : World} (h : But p w w') (hq : q ≠ p) {o : Obj} (ho : w.heap[q]? = some o) : w'.heap[q]? = some o := by
  have hlt : q < w.heap.size := by
    rcases Nat.lt_or_ge q w.heap.size with h' | h'
    · exact h'
    · rw [Array.getElem?_eq_none h'] at ho; cases ho
  rw [h.block q hlt hq]; exact ho
theorem But.sub {p : Nat} {w w' : World} (h : But p w w') {P : Nat → Bool} (hp : P p = false) : Sub (only P w) (only P w') := fun a v hv => by
  obtain ⟨h1, h2⟩ := only_cell.1 hv
  refine only_cell.2 ⟨h1, ?_⟩
  have hne : a.block ≠ p := fun e => by rw [e, hp] at h1; cases h1
  rw [World.cell?_of_block (w := w) (h.block _ (World.block_lt_of_cell? _ _ h2) hne)]; exact h2
theorem block_at {w : World} {q : Nat} {cs : Array Value} {t : TypeId} (h : w.heap[q]? = some (.cells cs t (0, 0))) (i : Nat) : w.cell? ⟨q, i, none⟩ = cs[i]? := by unfold World.cell?; rw [h]; rfl
theorem block_free {w : World} {q : Nat} {cs : Array Value} {t : TypeId} (h : w.heap[q]? = some (.cells cs t (0, 0))) (i : Nat) : w.frozen? ⟨q, i, none⟩ = false := by unfold World.frozen?; rw [h]; simp
theorem block_set {w : World} {q : Nat} {cs : Array Value} {t : TypeId} (h : w.heap[q]? = some (.cells cs t (0, 0))) (i : Nat) (v : Value) : (w.setCell ⟨q, i, none⟩ v).heap[q]? = some (.cells (cs.setIfInBounds i v) t (0, 0)) := by
  unfold World.setCell; simp [Array.getElem?_modify, h]
theorem block_other {w : World} {q : Nat} {o : Obj} (h : w.heap[q]? = some o) {a : Addr} (ha : q ≠ a.block) (v : Value) : (w.setCell a v).heap[q]? = some o := by
  rw [Below.heap_setCell _ _ _ _ ha]; exact h
theorem block_lt {w : World} {q : Nat} {o : Obj} (h : w.heap[q]? = some o) : q < w.heap.size := by
  rcases Nat.lt_or_ge q w.heap.size with h' | h'
  · exact h'
  · rw [Array.getElem?_eq_none h'] at h; cases h
theorem block_alloc {w : World} {q : Nat} {o : Obj} (h : w.heap[q]? = some o) (o' : Obj) : (w.alloc o').heap[q]? = some o := by
  rw [(boxBelow w o').block q (block_lt h)]; exact h
theorem block_new (w : World) (o : Obj) : (w.alloc o).heap[w.heap.size]? = some o := heap_alloc_new w o
theorem ExAt.sub {w w' : World} (hb : Sub w w') : ∀ {m : Nat} {c0 c1 c2 c3 : Value} {x : Ex}, ExAt w m c0 c1 c2 c3 x → ExAt w' m c0 c1 c2 c3 x
  | 0, _, _, _, _, _, h => h
  | m + 1, c0, c1, c2, c3, x, h => by
    obtain ⟨h0, h1, h2, h3, h4, h5, a, b, off, cap, h6, h7, h8, h9⟩ := h
    refine ⟨h0, h1, h2, h3, h4, h5, a, b, off, cap, h6, h7, h8, fun i y hy => ?_⟩
    obtain ⟨e0, e1, e2, e3, g0, g1, g2, g3, hx⟩ := h9 i y hy
    exact ⟨e0, e1, e2, e3, hb _ _ g0, hb _ _ g1, hb _ _ g2, hb _ _ g3, ExAt.sub hb hx⟩
theorem StsAt.sub {w w' : World} (hb : Sub w w') : ∀ {m : Nat} {v : Value} {l : List St}, StsAt w m v l → StsAt w' m v l
  | 0, _, _, h => h
  | m + 1, v, l, h => by
    obtain ⟨a, b, off, cap, h6, h7, h8, h9⟩ := h
    refine ⟨a, b, off, cap, h6, h7, h8, fun i s hs => ?_⟩
    obtain ⟨k1, k2, e0, e1, e2, e3, va, vb, g0, g1, g2, g3, g4, g5, g6, g7, hx, ha, hb'⟩ := h9 i s hs
    exact ⟨k1, k2, e0, e1, e2, e3, va, vb, hb _ _ g0, hb _ _ g1, hb _ _ g2, hb _ _ g3, hb _ _ g4, hb _ _ g5, hb _ _ g6, hb _ _ g7, hx.sub hb, ha.sub hb, hb'.sub hb⟩
theorem Strs.sub {w w' : World} (hb : Sub w w') {v : Value} {ss : List ByteArray} (h : Strs w v ss) : Strs w' v ss := by
  obtain ⟨a, b, off, cap, e, h0, hl, hs, h1⟩ := h
  exact ⟨a, b, off, cap, e, h0, hl, hs, fun r hr => hb _ _ (h1 r hr)⟩
theorem VasAt.sub {w w' : World} (hb : Sub w w') {v : Value} {l : List Va} (h : VasAt w v l) : VasAt w' v l := by
  obtain ⟨a, b, off, cap, h6, h7, h8, h9⟩ := h
  refine ⟨a, b, off, cap, h6, h7, h8, fun i s hs => ?_⟩
  obtain ⟨k1, k2, g0, g1⟩ := h9 i s hs
  exact ⟨k1, k2, hb _ _ g0, hb _ _ g1⟩
theorem FusAt.sub {w w' : World} (hb : Sub w w') {m : Nat} {v : Value} {l : List Fu} (h : FusAt w m v l) : FusAt w' m v l := by
  obtain ⟨a, b, off, cap, h6, h7, h8, h9⟩ := h
  refine ⟨a, b, off, cap, h6, h7, h8, fun i s hs => ?_⟩
  obtain ⟨k1, vp, vb, e0, e1, e2, e3, g0, g1, g2, g3, g4, g5, g6, hp, hs', hx⟩ := h9 i s hs
  exact ⟨k1, vp, vb, e0, e1, e2, e3, hb _ _ g0, hb _ _ g1, hb _ _ g2, hb _ _ g3, hb _ _ g4, hb _ _ g5, hb _ _ g6, hp.sub hb, hs'.sub hb, hx.sub hb⟩
def Mono {α : Type} (At : World → List Value → α → Prop) : Prop := ∀ (w w' : World) (c : List Value) (y : α), Sub w w' → At w c y → At w' c y
def OwnL {α : Type} (At : World → List Value → α → Prop) (w : World) (n e k : Nat) (v : Value) (l : List α) : Prop :=
  ∃ cs : List (List Value), w.ownsRow n e k v l.length cs.flatten ∧ cs.length = l.length ∧ (∀ c ∈ cs, c.length = k) ∧
    ∀ (i : Nat) c y, cs[i]? = some c → l[i]? = some y → At (only (fun b => decide (n ≤ b) && decide (v.ownBlock ≠ some b)) w) c y
section
variable {α : Type} {At : World → List Value → α → Prop} {w w' : World} {n e k : Nat} {v : Value} {l : List α}
theorem OwnL.nil (w : World) (n e k : Nat) : OwnL At w n e k (.slice none 0 0) [] := ⟨[], World.ownsRow_nil _ _ _ _, rfl, (fun c hc => absurd hc (by simp)), (fun i c y hc => absurd hc (by simp))⟩
theorem OwnL.lt (h : OwnL At w n e k v l) : ∀ j, v.ownBlock = some j → n ≤ j ∧ j < w.heap.size := by
  obtain ⟨cs, h1, _⟩ := h
  exact h1.lt
theorem OwnL.shape (h : OwnL At w n e k v l) : (v = .slice none 0 0 ∧ l = []) ∨ ∃ g cap, v = .slice (some ⟨g, 0, none⟩) l.length cap ∧ l.length ≤ cap ∧ n ≤ g ∧ g < w.heap.size := by
  obtain ⟨cs, h, _⟩ := h
  have hlt := h.lt
  rcases h.2 with ⟨rfl, h1⟩ | ⟨g, cap, cur, rfl, _, hh, hc, _⟩
  · exact Or.inl ⟨rfl, List.length_eq_zero_iff.1 (by omega)⟩
  · exact Or.inr ⟨g, cap, rfl, hc, hlt g rfl⟩
theorem own_but {p t xs} {c : Array Value} {fz : Nat × Nat} (h : w.ownsRow n e k v l.length xs) (hp : w.heap[p]? = some (.cells c t fz)) (hne : e ≠ t) (hb : But p w w') : w'.ownsRow n e k v l.length xs := by
  obtain ⟨h1, h2⟩ := h
  refine ⟨h1, ?_⟩
  rcases h2 with h2 | ⟨g, cap, cur, hv, hg, hh, r⟩
  · exact Or.inl h2
  · refine Or.inr ⟨g, cap, cur, hv, hg, hb.at (fun e' => ?_) hh, r⟩
    subst e'
    rw [hp] at hh
    simp at hh
    exact hne hh.2.1.symm
theorem OwnL.but (hm : Mono At) {p t} {c : Array Value} {fz : Nat × Nat} (h : OwnL At w n e k v l) (hp : w.heap[p]? = some (.cells c t fz)) (hne : e ≠ t) (hpn : p < n) (hb : But p w w') : OwnL At w' n e k v l := by
  obtain ⟨cs, h1, h2, h3, h4⟩ := h
  refine ⟨cs, own_but h1 hp hne hb, h2, h3, fun i c y hc hy => hm _ _ _ _ (hb.sub ?_) (h4 i c y hc hy)⟩
  rw [decide_eq_false (by omega)]; rfl
theorem OwnL.set (h : OwnL At w n e k v l) {a : Addr} (ha : v.ownBlock ≠ some a.block) {x : Value}
    (hsee : ∀ c y, At (only (fun b => decide (n ≤ b) && decide (v.ownBlock ≠ some b)) w) c y → At (only (fun b => decide (n ≤ b) && decide (v.ownBlock ≠ some b)) (w.setCell a x)) c y) : OwnL At (w.setCell a x) n e k v l := by
  obtain ⟨cs, ⟨h0, h1⟩, h2, h3, h4⟩ := h
  refine ⟨cs, ⟨h0, ?_⟩, h2, h3, fun i c y hc hy => hsee c y (h4 i c y hc hy)⟩
  rcases h1 with h1 | ⟨g, cap, cur, hv, hg, hh, r⟩
  · exact Or.inl h1
  · refine Or.inr ⟨g, cap, cur, hv, hg, block_other hh (fun e' => ha (by rw [hv, ← e']; rfl)) _, r⟩
theorem OwnL.setOld (hm : Mono At) (h : OwnL At w n e k v l) {a : Addr} (ha : a.block < n) (x : Value) : OwnL At (w.setCell a x) n e k v l :=
  h.set (fun e => by have := h.lt _ e; omega) (fun c y hy => hm _ _ _ _ (fun b u hu => by
    obtain ⟨h1, h2⟩ := only_cell.1 hu
    refine only_cell.2 ⟨h1, ?_⟩
    have hle := of_decide_eq_true (Bool.and_eq_true_iff.1 h1).1
    rw [World.cell?_of_block (w := w) (Below.heap_setCell _ _ _ _ (by omega))]; exact h2) hy)
theorem OwnL.below (hm : Mono At) (h : OwnL At w n e k v l) (hb : Below w.heap.size w w') : OwnL At w' n e k v l := by
  obtain ⟨cs, ⟨h0, h1⟩, h2, h3, h4⟩ := h
  refine ⟨cs, ⟨h0, ?_⟩, h2, h3, fun i c y hc hy => hm _ _ _ _ (fun a v hv => ?_) (h4 i c y hc hy)⟩
  · rcases h1 with h1 | ⟨g, cap, cur, hv, hg, hh, r⟩
    · exact Or.inl h1
    · exact Or.inr ⟨g, cap, cur, hv, hg, by rw [hb.block g (block_lt hh)]; exact hh, r⟩
  · obtain ⟨a1, a2⟩ := only_cell.1 hv
    exact only_cell.2 ⟨a1, cellUp a2 hb⟩
theorem OwnL.push (hm : Mono At) {g cap : Nat} {c : List Value} {y : α} {xs : List Value} {cs : List (List Value)}
    (hcs : cs.length = l.length ∧ (∀ c ∈ cs, c.length = k) ∧ ∀ (i : Nat) c y, cs[i]? = some c → l[i]? = some y → At (only (fun b => decide (n ≤ b) && decide (v.ownBlock ≠ some b)) w) c y) (hxs : xs = cs.flatten)
    (hc : c.length = k) (hy : At (only (fun b => decide (n ≤ b) && decide (v.ownBlock ≠ some b)) w) c y)
    (h1 : w'.ownsRow n e k (.slice (some ⟨g, 0, none⟩) (l.length + 1) cap) (l.length + 1) (xs ++ c)) (h2 : w.grownBy w' v.ownBlock) (h3 : v.ownBlock = some g ∨ g = w.heap.size) :
    OwnL At w' n e k (.slice (some ⟨g, 0, none⟩) (l.length + 1) cap) (l ++ [y]) := by
  obtain ⟨k1, k2, k3⟩ := hcs
  subst hxs
  have hs : Sub (only (fun b => decide (n ≤ b) && decide (v.ownBlock ≠ some b)) w) (only (fun b => decide (n ≤ b) && decide ((Value.slice (some ⟨g, 0, none⟩) (l.length + 1) cap).ownBlock ≠ some b)) w') := fun a u hu => by
    obtain ⟨a1, a2⟩ := only_cell.1 hu
    obtain ⟨b1, b2⟩ := Bool.and_eq_true_iff.1 a1
    have hlt := World.block_lt_of_cell? _ _ a2
    have hne := of_decide_eq_true b2
    refine only_cell.2 ⟨Bool.and_eq_true_iff.2 ⟨b1, decide_eq_true ?_⟩, h2.cell a2 (fun e => hne e.symm)⟩
    intro e'
    have e'' : g = a.block := by simpa [Value.ownBlock] using e'
    rcases h3 with h3 | h3
    · exact hne (by rw [h3, e''])
    · omega
  refine ⟨cs ++ [c], by rw [List.length_append, List.flatten_append]; simpa using h1, by simp [k1], fun d hd => ?_, fun i d z hd hz => ?_⟩
  · rcases List.mem_append.1 hd with hd | hd
    · exact k2 d hd
    · rw [List.mem_singleton] at hd; subst hd; exact hc
  · by_cases hi : i < l.length
    · rw [List.getElem?_append_left (by omega)] at hd
      rw [List.getElem?_append_left hi] at hz
      exact hm _ _ _ _ hs (k3 i d z hd hz)
    · have hi' : i = l.length := by
        have := (List.getElem?_eq_some_iff.1 hz).1
        rw [List.length_append, List.length_singleton] at this
        omega
      subst hi'
      rw [List.getElem?_append_right (by omega), k1, Nat.sub_self] at hd
      rw [List.getElem?_append_right (Nat.le_refl _), Nat.sub_self] at hz
      simp at hd hz
      subst hd hz
      exact hm _ _ _ _ hs hy
theorem OwnL.cell {g cap : Nat} (h : OwnL At w n e k (.slice (some ⟨g, 0, none⟩) l.length cap) l) {i : Nat} {y : α} (hy : l[i]? = some y) :
    ∃ c, c.length = k ∧ (∀ j, j < k → w.cell? ⟨g, i * k + j, none⟩ = c[j]?) ∧ n ≤ g ∧ At (only (fun b => decide (n ≤ b) && decide (some g ≠ some b)) w) c y := by
  obtain ⟨cs, h1, h2, h3, h4⟩ := h
  have hi : i < cs.length := by
    have := (List.getElem?_eq_some_iff.1 hy).1
    omega
  refine ⟨cs[i], h3 _ (List.getElem_mem hi), fun j hj => ?_, (h1.lt g rfl).1, h4 i _ y (List.getElem?_eq_getElem hi) hy⟩
  have hik : i * k + j < l.length * k := by
    have : i + 1 ≤ l.length := by omega
    have h5 := Nat.mul_le_mul_right k this
    rw [Nat.add_mul, Nat.one_mul] at h5
    omega
  rw [World.ownsRow.cellAt h1 _ hik]
  have hfl : ∀ (cs : List (List Value)) (i : Nat) (hi : i < cs.length), (∀ c ∈ cs, c.length = k) → cs.flatten[i * k + j]? = (cs[i])[j]? := by
    intro cs
    induction cs with
    | nil => intro i hi; simp at hi
    | cons c cs ih =>
      intro i hi hk
      have hc := hk c (by simp)
      cases i with
      | zero =>
        rw [List.flatten_cons, Nat.zero_mul, Nat.zero_add, List.getElem?_append_left (by omega)]; rfl
      | succ i =>
        rw [List.flatten_cons, List.getElem?_append_right (by rw [hc, Nat.succ_mul]; omega), hc]
        have e1 : (i + 1) * k + j - k = i * k + j := by rw [Nat.succ_mul]; omega
        rw [e1, ih i (by simpa using hi) (fun d hd => hk d (by simp [hd]))]
        rfl
  exact hfl cs i hi h3
end
end Go.Proofs.YtholefgckcoklaaGreatDoor
namespace Go.Proofs.YtholefgckcoklaaGreatDoor
open Go.RowKit
def gn (w : World) (n : Nat) (os : Array Obj) : World := { w with heap := w.heap ++ os, drawn := n }
theorem below_gn (w : World) (n : Nat) (os : Array Obj) : Below w.heap.size w (gn w n os) :=
  ⟨rfl, rfl, rfl, by simp [gn], fun k hk => by simp [gn, Array.getElem?_append, hk]⟩
theorem gn_of_below {w w' : World} (h : Below w.heap.size w w') : ∃ p : GrownBy, w' = gn w p.n p.os := by
  refine ⟨⟨w'.drawn, w'.heap.extract w.heap.size w'.heap.size⟩, ?_⟩
  have hh : w'.heap = w.heap ++ w'.heap.extract w.heap.size w'.heap.size := by
    have hs := h.size
    apply Array.ext_getElem?
    intro i
    rw [Array.getElem?_append]
    split
    · rename_i hi; exact h.block i hi
    · rename_i hi
      rw [Array.getElem?_extract]
      split
      · congr 1; omega
      · rw [Array.getElem?_eq_none]; omega
  obtain ⟨hp, tp, dr, os, ou⟩ := w'
  obtain ⟨hp0, tp0, dr0, os0, ou0⟩ := w
  have e1 := h.os
  have e2 := h.tape
  have e3 := h.output
  simp only at e1 e2 e3 hh
  subst e1 e2 e3
  simp only [gn, World.mk.injEq, and_true]
  exact hh
theorem wp_region_quiet_gn {P : Program} {id : Nat} {Q : Exit → Act → World → Prop} {a : Act} {w : World} {l : List Oper} (hm : P.follows .mixedOrders = true) (hB : Region.lexB .any l.toArray = true)
    (h : wpQuiet P l.toArray (fun w' => ∃ p : GrownBy, w' = gn w p.n p.os) (fun a' => ∀ w', (∃ p : GrownBy, w' = gn w p.n p.os) → Q .normal a' w') l a) : (Code.region id l.toArray true).wp P Q a w :=
  wp_region_quiet (C := fun w' => ∃ p : GrownBy, w' = gn w p.n p.os) hm hB ⟨⟨w.drawn + 1, #[]⟩, by simp [gn]⟩ (by simpa using h)
theorem cell_gn {w : World} {a : Addr} {v : Value} (h : w.cell? a = some v) (n : Nat) (os : Array Obj) : (gn w n os).cell? a = some v := cellUp h (below_gn w n os)
theorem Calls.gn_of {P : Program} {f : FuncId} {args : Array Value} {w : World} {n : Nat} {os : Array Obj} {v : Value}
    (h : Calls P f args (gn w n os) fun e w' => e = .returned v ∧ Below (gn w n os).heap.size (gn w n os) w') : Calls P f args (gn w n os) fun e w'' => e = .returned v ∧ ∃ p : GrownBy, w'' = gn w p.n p.os :=
  h.mono fun _ _ ⟨he, hb⟩ => ⟨he, gn_of_below (up (below_gn w n os) hb)⟩
end Go.Proofs.YtholefgckcoklaaGreatDoor
namespace Go.Proofs.YtholefgckcoklaaGreatDoor
open Go.RowKit
set_option maxHeartbeats 1000000 in
theorem isName_any (w : World) (s : ByteArray) (hs : s.size ≤ maxLen) :
    Calls Tryz.prog 105 #[.string s] w fun e w' => e = .returned (.bool (Lat.nameB s.data.toList)) ∧ w' = w := by
  unfold maxLen at hs
  by_cases h1 : s.size < 1
  · have HF : Hid (Lat.nameB s.data.toList = false) := by
      show Lat.nameB s.data.toList = false
      unfold Lat.nameB; rw [size_list]; simp; omega
    go_enter Tryz.func105, Tryz.ntmps105
    go_wp2
    go_ret
    exact ⟨ret_bool HF.out.symm, rfl⟩
  · by_cases h8 : 8 < s.size
    · have HF : Hid (Lat.nameB s.data.toList = false) := by
        show Lat.nameB s.data.toList = false
        unfold Lat.nameB; rw [size_list]; simp; omega
      go_enter Tryz.func105, Tryz.ntmps105
      go_wp2
      go_ret
      exact ⟨ret_bool HF.out.symm, rfl⟩
    · have HF : Hid (Lat.nameB s.data.toList = s.data.toList.all Lat.letterB) := by
        show Lat.nameB s.data.toList = _
        unfold Lat.nameB; rw [size_list]
        rw [decide_eq_true (by omega : 1 ≤ s.size), decide_eq_true (by omega : s.size ≤ 8)]; rfl
      go_enter Tryz.func105, Tryz.ntmps105
      go_wp2
      go_loop [14] (fun i => ∃ k : Nat, k ≤ s.size ∧ i = .int .i64 k ∧ ∀ j (hj : j < s.size), j < k → Lat.letterB s[j] = true) (fun i => s.size - (intOf i).toNat)
      case atStart => exact ⟨0, Nat.zero_le _, rfl, fun j hj hd => absurd hd (Nat.not_lt_zero _)⟩
      case round =>
        obtain ⟨k, hk, rfl, hall⟩ := hrel
        have HA : Hid (∀ j (hj : j < s.size), j < k → Lat.letterB s[j] = true) := hall
        clear hall
        by_cases hlt : k < s.size
        · go_wp2
          · go_ret
            exact ⟨ret_bool (by rw [HF.out, letters_not s k hlt (by simp [Lat.letterB]; omega)]), rfl⟩
          · go_round
            case rel => exact ⟨k + 1, by omega, by go_num, fun j hj hd => by
                by_cases e : j = k
                · subst e; simp [Lat.letterB]; omega
                · exact HA.out j hj (by omega)⟩
            case measure => simp [intOf]; omega
          · go_ret
            exact ⟨ret_bool (by rw [HF.out, letters_not s k hlt (by simp [Lat.letterB]; omega)]), rfl⟩
        · go_wp2
          go_ret
          exact ⟨ret_bool (by rw [HF.out, letters_all s (fun j hj => HA.out j hj (by omega))]), rfl⟩
theorem strs_all {p : ByteArray → Bool} {l : List ByteArray} (h : ∀ d, d < l.length → p (l.getD d ByteArray.empty) = true) : l.all p = true := by
  rw [List.all_eq_true]; intro x hx
  obtain ⟨i, hi, rfl⟩ := List.mem_iff_getElem.1 hx
  have := h i hi
  simpa [hi] using this
theorem strs_not {p : ByteArray → Bool} {l : List ByteArray} {d : Nat} (hd : d < l.length) (h : p (l.getD d ByteArray.empty) = false) : l.all p = false := by
  rw [List.all_eq_false]
  exact ⟨l[d], List.getElem_mem hd, by simp [hd] at h; simp [h]⟩
set_option maxHeartbeats 1000000 in
theorem areNames_any (w : World) (v : Value) (ss : List ByteArray) (h : Strs w v ss) :
    Calls Tryz.prog 106 #[v] w fun e w' => e = .returned (.bool (ss.all fun s => Lat.nameB s.data.toList)) ∧ w' = w := by
  obtain ⟨a, b, off, cap, rfl, ha, hl, hs, hc⟩ := h
  obtain ⟨len, hlen⟩ : ∃ len, len = ss.length := ⟨_, rfl⟩
  have HL := hide hlen
  rw [← hlen] at ha hl hc ⊢
  have HA := hide ha
  have HC := hide hc
  have HS : Hid (∀ j, j < len → (ss.getD j ByteArray.empty).size ≤ maxLen) := hide (fun j hj => hs _ (by
    have hj' : j < ss.length := by omega
    rw [show ss.getD j ByteArray.empty = ss[j] by simp [hj']]; exact List.getElem_mem hj'))
  clear ha hc hs hlen
  go_enter Tryz.func106, Tryz.ntmps106
  go_wp2
  go_loop [7] (fun i => ∃ k : Nat, k ≤ len ∧ i = .int .i64 k ∧ ∀ d, d < k → Lat.nameB (ss.getD d ByteArray.empty).data.toList = true) (fun i => len - (intOf i).toNat)
  case atStart => exact ⟨0, Nat.zero_le _, rfl, fun d hd => absurd hd (Nat.not_lt_zero _)⟩
  case round =>
    obtain ⟨k, hk, rfl, hall⟩ := hrel
    have HALL := hide hall
    clear hall
    by_cases hlt : k < len
    · obtain rfl := HA.out (by omega)
      have hck := HC.out k hlt
      have hsk := HS.out k hlt
      obtain ⟨s, hse⟩ : ∃ s, s = ss.getD k ByteArray.empty := ⟨_, rfl⟩
      have HSE := hide hse
      rw [← hse] at hck hsk
      clear hse
      go_wp2_with fail
      refine (isName_any _ s hsk).mono ?_
      rintro e w' ⟨rfl, hw⟩
      subst hw
      cases hb : Lat.nameB s.data.toList
      · have HB := hide hb
        go_wp2
        go_ret
        exact ⟨ret_bool (strs_not (d := k) (by have := HL.out; omega) (by rw [← HSE.out]; exact HB.out)).symm, rfl⟩
      · have HB := hide hb
        go_wp2
        go_round
        case rel => exact ⟨k + 1, by omega, by go_num, fun d hd => by
            by_cases e : d = k
            · subst e; rw [← HSE.out]; exact HB.out
            · exact HALL.out d (by omega)⟩
        case measure => simp [intOf]; omega
    · go_wp2
      go_ret
      exact ⟨ret_bool (strs_all (fun d hd => HALL.out d (by have := HL.out; omega))).symm, rfl⟩
theorem vas_all {p : Va → Bool} {l : List Va} (h : ∀ (i : Nat) (x : Va), l[i]? = some x → p x = true) : l.all p = true := by
  rw [List.all_eq_true]; intro x hx
  obtain ⟨i, hi, rfl⟩ := List.mem_iff_getElem.1 hx
  exact h i _ (List.getElem?_eq_getElem hi)
theorem vas_not {p : Va → Bool} {l : List Va} {i : Nat} {x : Va} (hx : l[i]? = some x) (h : p x = false) : l.all p = false := by
  rw [List.all_eq_false]
  exact ⟨x, List.mem_of_getElem? hx, by simp [h]⟩
set_option maxHeartbeats 1000000 in
theorem areVars_any (w : World) (v : Value) (vs : List Va) (h : VasAt w v vs) :
    Calls Tryz.prog 107 #[v] w fun e w' => e = .returned (.bool (vs.all fun s => Lat.nameB s.name.data.toList && Lat.nameB s.level.data.toList)) ∧ Below w.heap.size w w' := by
  obtain ⟨a, b, off, cap, rfl, ha, hl, hc⟩ := h
  obtain ⟨len, hlen⟩ : ∃ len, len = vs.length := ⟨_, rfl⟩
  have HL := hide hlen
  rw [← hlen] at ha hl ⊢
  have HA := hide ha
  have HC := hide hc
  clear ha hc hlen
  go_enter Tryz.func107, Tryz.ntmps107
  go_wp2
  go_loopw [7] (fun i wr => ∃ k : Nat, k ≤ len ∧ i = .int .i64 k ∧ (∀ d y, d < k → vs[d]? = some y → (Lat.nameB y.name.data.toList && Lat.nameB y.level.data.toList) = true) ∧ Below w.heap.size w wr) (fun i _ => len - (intOf i).toNat)
  case atStart => exact ⟨0, Nat.zero_le _, rfl, fun d y hd => absurd hd (Nat.not_lt_zero _), Below.refl _ _⟩
  case round =>
    obtain ⟨k, hk, rfl, hall, hnx⟩ := hrel
    have HALL := hide hall
    clear hall
    by_cases hlt : k < len
    · obtain rfl := HA.out (by omega)
      obtain ⟨y, hy⟩ : ∃ y, vs[k]? = some y := ⟨_, List.getElem?_eq_getElem (by rw [← HL.out]; exact hlt)⟩
      obtain ⟨k1, k2, g0, g1⟩ := HC.out k y hy
      have HY := hide hy
      have u0 := cellUp g0 hnx
      have u1 := cellUp g1 hnx
      have HNX := hide (hnx.trans ((boxBelow wr (.cells #[.string y.name, .string y.level] 98)).mono hnx.size))
      clear g0 g1 hy hnx
      go_wp2_with fail
      refine (isName_any _ y.name k1).mono ?_
      rintro e w' ⟨rfl, hw⟩
      subst hw
      cases hb : Lat.nameB y.name.data.toList
      · have HB := hide hb
        go_wp2
        go_ret
        exact ⟨ret_bool (vas_not HY.out (by rw [HB.out]; rfl)).symm, HNX.out⟩
      · have HB := hide hb
        go_wp2_with fail
        refine (isName_any _ y.level k2).mono ?_
        rintro e w' ⟨rfl, hw⟩
        subst hw
        cases hb2 : Lat.nameB y.level.data.toList
        · have HB2 := hide hb2
          go_wp2
          go_ret
          exact ⟨ret_bool (vas_not HY.out (by rw [HB.out, HB2.out]; rfl)).symm, HNX.out⟩
        · have HB2 := hide hb2
          go_wp2
          go_roundw
          case rel => exact ⟨k + 1, by omega, by go_num, fun d z hd hz => by
              by_cases e : d = k
              · subst e
                rw [HY.out] at hz
                cases hz
                rw [HB.out, HB2.out]; rfl
              · exact HALL.out d z (by omega) hz, HNX.out⟩
          case measure => simp [intOf]; omega
    · go_wp2
      go_ret
      exact ⟨ret_bool (vas_all (fun d z hz => HALL.out d z (by
        have := (List.getElem?_eq_some_iff.1 hz).1
        have := HL.out
        omega) hz)).symm, hnx⟩
end Go.Proofs.YtholefgckcoklaaGreatDoor
