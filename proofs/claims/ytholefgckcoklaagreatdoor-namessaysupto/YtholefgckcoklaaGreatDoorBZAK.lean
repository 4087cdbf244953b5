/- What expressions, commands, functions and modules weigh: bounds of how long their texts are. -/
import Derived.Test.YtholefgckcoklaaGreatDoorBZAB
import Derived.Test.YtholefgckcoklaaGreatDoorBZAE
import Derived.Test.YtholefgckcoklaaGreatDoorBZAC
import Derived.Shelf.SlSortCmp.QuietGrown
import Derived.Test.YtholefgckcoklaaGreatDoorBZAI
import Derived.Lib.SliceRun
namespace Go.Proofs.YtholefgckcoklaaGreatDoor
open Go.RowKit
def exW : Nat → Ex → Nat
  | 0, _ => 0
  | m + 1, x => x.name.size + 4 + (x.args.map (exW m)).sum
def stsW : Nat → List St → Nat
  | 0, _ => 0
  | m + 1, l => (l.map fun s => s.name.size + 3 + exW m s.e + stsW m s.a + stsW m s.b).sum + 1
def strsW (l : List ByteArray) : Nat := (l.map fun s => s.size + 1).sum + 1
def vasW (l : List Va) : Nat := (l.map fun s => s.name.size + s.level.size + 3).sum + 1
def fusW (m : Nat) (l : List Fu) : Nat := (l.map fun s => s.name.size + 2 + strsW s.params + stsW m s.body + exW m s.result).sum + 1
def moW (m : Nat) (x : Mo) : Nat := x.name.size + 2 + strsW x.imports + vasW x.vars + fusW m x.funs
theorem map_congr_get {α β : Type} {f g : α → β} {l : List α} (h : ∀ (i : Nat) (x : α), l[i]? = some x → f x = g x) : l.map f = l.map g :=
  List.map_congr_left fun x hx => by
    obtain ⟨i, hi, rfl⟩ := List.mem_iff_getElem.1 hx
    exact h i _ (List.getElem?_eq_getElem hi)
theorem exW_mono {w : World} : ∀ {m : Nat} {c0 c1 c2 c3 : Value} {x : Ex}, ExAt w m c0 c1 c2 c3 x → ∀ k, m ≤ k → exW k x = exW m x
  | 0, _, _, _, _, _, h, _, _ => False.elim h
  | m + 1, c0, c1, c2, c3, x, h, 0, hk => by omega
  | m + 1, c0, c1, c2, c3, x, h, k + 1, hk => by
    obtain ⟨_, _, _, _, _, _, a, b, off, cap, _, _, _, h9⟩ := h
    simp only [exW]
    rw [map_congr_get (f := exW k) (g := exW m) (fun i y hy => by
      obtain ⟨e0, e1, e2, e3, _, _, _, _, hx⟩ := h9 i y hy
      exact exW_mono hx k (by omega))]
theorem stsW_mono {w : World} : ∀ {m : Nat} {v : Value} {l : List St}, StsAt w m v l → ∀ k, m ≤ k → stsW k l = stsW m l
  | 0, _, _, h, _, _ => False.elim h
  | m + 1, v, l, h, 0, hk => by omega
  | m + 1, v, l, h, k + 1, hk => by
    obtain ⟨a, b, off, cap, _, _, _, h9⟩ := h
    simp only [stsW]
    rw [map_congr_get (fun i s hs => by
      obtain ⟨_, _, e0, e1, e2, e3, va, vb, _, _, _, _, _, _, _, _, hx, ha, hb⟩ := h9 i s hs
      rw [exW_mono hx k (by omega), stsW_mono ha k (by omega), stsW_mono hb k (by omega)])]
end Go.Proofs.YtholefgckcoklaaGreatDoor
namespace Go.Proofs.YtholefgckcoklaaGreatDoor
open Go.RowKit
def MosAt (w : World) (m : Nat) (v : Value) (l : List Mo) : Prop :=
  ∃ (a : Option Addr) (b off cap : Nat), v = .slice a l.length cap ∧ (0 < l.length → a = some ⟨b, off, none⟩) ∧ l.length ≤ 9223372036854775807 ∧
    ∀ i x, l[i]? = some x → ∃ vi vv vf, w.cell? ⟨b, off + i * 4, none⟩ = some (.string x.name) ∧ w.cell? ⟨b, off + i * 4 + 1, none⟩ = some vi ∧ w.cell? ⟨b, off + i * 4 + 2, none⟩ = some vv ∧ w.cell? ⟨b, off + i * 4 + 3, none⟩ = some vf ∧ MoAt w m (.agg #[.string x.name, vi, vv, vf]) x
theorem MosAt.below {w w' : World} {m : Nat} {v : Value} {l : List Mo} (h : MosAt w m v l) (hb : Below w.heap.size w w') : MosAt w' m v l := by
  obtain ⟨a, b, off, cap, e, h0, hl, h1⟩ := h
  refine ⟨a, b, off, cap, e, h0, hl, fun i x hx => ?_⟩
  obtain ⟨vi, vv, vf, g0, g1, g2, g3, hm⟩ := h1 i x hx
  exact ⟨vi, vv, vf, cellUp g0 hb, cellUp g1 hb, cellUp g2 hb, cellUp g3 hb, hm.below hb⟩
namespace Nm
def sameB (s t : ByteArray) : Bool := s.toList == t.toList
def fnAt (l : List Fu) (s : ByteArray) (n : Nat) : Option Nat := (List.range n).find? fun i => match l[i]? with | some f => sameB f.name s | none => false
def moAt (l : List Mo) (s : ByteArray) : Option Nat := (List.range l.length).find? fun i => match l[i]? with | some x => sameB x.name s | none => false
def tgt (x : Mo) (k : Nat) (call : ByteArray) (known : List Mo) : Int × Int × Bool :=
  match Lat.dotAt call with
  | none => match fnAt x.funs call k with
    | some i => (-1, i, true)
    | none => (-1, 0, false)
  | some _ =>
    if 0 ≤ Lat.indexI x.imports (Lat.preS call) then
      match moAt known (Lat.preS call) with
      | none => (0, 0, false)
      | some i => match fnAt ((known[i]?.map (·.funs)).getD []) (Lat.sufS call) ((known[i]?.map (·.funs)).getD []).length with
        | some j => (i, j, true)
        | none => (i, 0, false)
    else (0, 0, false)
theorem fnAt_hit {l : List Fu} {s : ByteArray} {n i : Nat} {f : Fu} (hi : i < n) (hf : l[i]? = some f) (h : sameB f.name s = true) (h0 : ∀ d g, d < i → l[d]? = some g → sameB g.name s = false) : fnAt l s n = some i := by
  refine Lat.find_hit hi (fun c hc => ?_) (by simp only [hf]; exact h)
  cases hg : l[c]? with
  | none => rfl
  | some g => exact h0 c g hc hg
theorem fnAt_none {l : List Fu} {s : ByteArray} {n : Nat} (h0 : ∀ d g, d < n → l[d]? = some g → sameB g.name s = false) : fnAt l s n = none := by
  refine Lat.find_none (fun c hc => ?_)
  cases hg : l[c]? with
  | none => rfl
  | some g => exact h0 c g hc hg
theorem moAt_hit {l : List Mo} {s : ByteArray} {i : Nat} {x : Mo} (hx : l[i]? = some x) (h : sameB x.name s = true) (h0 : ∀ d g, d < i → l[d]? = some g → sameB g.name s = false) : moAt l s = some i := by
  refine Lat.find_hit (List.getElem?_eq_some_iff.1 hx).1 (fun c hc => ?_) (by simp only [hx]; exact h)
  cases hg : l[c]? with
  | none => rfl
  | some g => exact h0 c g hc hg
theorem moAt_none {l : List Mo} {s : ByteArray} (h0 : ∀ (d : Nat) (g : Mo), l[d]? = some g → sameB g.name s = false) : moAt l s = none := by
  refine Lat.find_none (fun c hc => ?_)
  cases hg : l[c]? with
  | none => rfl
  | some g => exact h0 c g hg
end Nm
end Go.Proofs.YtholefgckcoklaaGreatDoor
namespace Go.Proofs.YtholefgckcoklaaGreatDoor
open Go.RowKit
namespace Nm
theorem tgt_here {x : Mo} {k : Nat} {call : ByteArray} {known : List Mo} {i : Nat} (hd : Lat.dotAt call = none) (hf : fnAt x.funs call k = some i) : tgt x k call known = (-1, (i : Int), true) := by simp [tgt, hd, hf]
theorem tgt_here0 {x : Mo} {k : Nat} {call : ByteArray} {known : List Mo} (hd : Lat.dotAt call = none) (hf : fnAt x.funs call k = none) : tgt x k call known = (-1, 0, false) := by simp [tgt, hd, hf]
theorem tgt_notI {x : Mo} {k : Nat} {call : ByteArray} {known : List Mo} {d : Nat} (hd : Lat.dotAt call = some d) (hi : decide (0 ≤ Lat.indexI x.imports (Lat.preS call)) = false) : tgt x k call known = (0, 0, false) := by
  have := of_decide_eq_false hi
  simp [tgt, hd, this]
theorem tgt_noM {x : Mo} {k : Nat} {call : ByteArray} {known : List Mo} {d : Nat} (hd : Lat.dotAt call = some d) (hi : decide (0 ≤ Lat.indexI x.imports (Lat.preS call)) = true) (hm : moAt known (Lat.preS call) = none) : tgt x k call known = (0, 0, false) := by
  have := of_decide_eq_true hi
  simp [tgt, hd, this, hm]
theorem tgt_fn {x y : Mo} {k : Nat} {call : ByteArray} {known : List Mo} {d i j : Nat} (hd : Lat.dotAt call = some d) (hi : decide (0 ≤ Lat.indexI x.imports (Lat.preS call)) = true) (hm : moAt known (Lat.preS call) = some i) (hy : known[i]? = some y)
    (hf : fnAt y.funs (Lat.sufS call) y.funs.length = some j) : tgt x k call known = ((i : Int), (j : Int), true) := by
  have := of_decide_eq_true hi
  simp [tgt, hd, this, hm, hy, hf]
theorem tgt_nofn {x y : Mo} {k : Nat} {call : ByteArray} {known : List Mo} {d i : Nat} (hd : Lat.dotAt call = some d) (hi : decide (0 ≤ Lat.indexI x.imports (Lat.preS call)) = true) (hm : moAt known (Lat.preS call) = some i) (hy : known[i]? = some y)
    (hf : fnAt y.funs (Lat.sufS call) y.funs.length = none) : tgt x k call known = ((i : Int), 0, false) := by
  have := of_decide_eq_true hi
  simp [tgt, hd, this, hm, hy, hf]
end Nm
theorem boxN1 (w : World) (c0 c1 c2 c3 : Value) (t : TypeId) : (w.alloc (.cells #[c0, c1, c2, c3] t)).cell? ⟨w.heap.size, 1, none⟩ = some c1 := by simp [go_sem]
theorem boxN3 (w : World) (c0 c1 c2 c3 : Value) (t : TypeId) : (w.alloc (.cells #[c0, c1, c2, c3] t)).cell? ⟨w.heap.size, 3, none⟩ = some c3 := by simp [go_sem]
theorem ret_t3 {P : Prop} {R : Int × Int × Bool} {a b : Int} {c : Bool} (h : R = (a, b, c)) (hb : P) : (Ending.returned (.tuple #[.int .i64 a, .int .i64 b, .bool c]) = Ending.returned (.tuple #[.int .i64 R.1, .int .i64 R.2.1, .bool R.2.2])) ∧ P := by
  subst h; exact ⟨rfl, hb⟩
set_option maxHeartbeats 4000000 in
set_option maxRecDepth 100000 in
theorem rtarget_any (m : Nat) (w : World) (v vk : Value) (x : Mo) (k : Nat) (call : ByteArray) (known : List Mo) (h : MoAt w m v x) (hk : k ≤ x.funs.length) (hc : call.size ≤ maxLen) (hK : MosAt w m vk known) :
    Calls Tryz.prog 16 #[v, .int .i64 k, .string call, vk] w fun e w' => e = .returned (.tuple #[.int .i64 (Nm.tgt x k call known).1, .int .i64 (Nm.tgt x k call known).2.1, .bool (Nm.tgt x k call known).2.2]) ∧ Below w.heap.size w w' := by
  obtain ⟨vi, vv, vf, rfl, hnm, hI, hV, hF⟩ := h
  have HI := hide hI
  obtain ⟨ai, bi, oi, ci, rfl, hI'⟩ := hI
  obtain ⟨av, bv, ov, cv, rfl, hV'⟩ := hV
  obtain ⟨af, bf, of, cf, rfl, haf, hlf, hcf⟩ := hF
  obtain ⟨ak, bk, ok, ck, rfl, hak, hlk, hck⟩ := hK
  have HCF := hide hcf
  have HCK := hide hck
  have HAF := hide haf
  have HAK := hide hak
  have HCUT : Hid (∀ w, Calls Tryz.prog 62 #[.string call] w fun e w' => e = .returned (.tuple #[.string (Lat.preS call), .string (Lat.sufS call), .bool (Lat.dotAt call).isSome]) ∧ Below w.heap.size w w') := fun w => cutDot_any w call hc
  obtain ⟨ni, hni⟩ : ∃ n, n = x.imports.length := ⟨_, rfl⟩
  obtain ⟨nv, hnv⟩ : ∃ n, n = x.vars.length := ⟨_, rfl⟩
  obtain ⟨nf, hnf⟩ : ∃ n, n = x.funs.length := ⟨_, rfl⟩
  obtain ⟨nk, hnk⟩ : ∃ n, n = known.length := ⟨_, rfl⟩
  have HNF := hide hnf
  have HNK := hide hnk
  rw [← hni, ← hnv, ← hnf, ← hnk]
  rw [← hni] at HI
  rw [← hnf] at hk hlf HAF
  rw [← hnk] at hlk HAK
  clear haf hak hcf hck hI' hV' hni hnv hnf hnk hnm hc
  have q1 := boxN1 w (.string x.name) (.slice ai ni ci) (.slice av nv cv) (.slice af nf cf) 26
  have q3 := boxN3 w (.string x.name) (.slice ai ni ci) (.slice av nv cv) (.slice af nf cf) 26
  have HB0 := hide (boxBelow w (.cells #[.string x.name, .slice ai ni ci, .slice av nv cv, .slice af nf cf] 26))
  cases hd : Lat.dotAt call with
  | none =>
    have HPS : Hid (Lat.preS call = call) := hide (by simp [Lat.preS, hd])
    rw [hd] at HCUT
    have HD := hide hd
    clear hd
    obtain ⟨R, hR⟩ : ∃ R, R = Nm.tgt x k call known := ⟨_, rfl⟩
    have HR := hide hR
    rw [← hR]
    clear hR
    rw [HPS.out] at HCUT
    generalize Lat.sufS call = suf at *
    go_enter Tryz.func16, Tryz.ntmps16
    go_wp2_with fail
    refine (HCUT.out _).mono ?_
    rintro e w1 ⟨rfl, hb1⟩
    replace q3 := cellUp q3 hb1
    have HB1 := hide (up HB0.out hb1)
    clear hb1 q1
    go_wp2_with fail
    go_loop [14] (fun i => ∃ j : Nat, j ≤ k ∧ i = .int .i64 j ∧ ∀ d g, d < j → x.funs[d]? = some g → Nm.sameB g.name call = false) (fun i => k - (intOf i).toNat)
    case atStart => exact ⟨0, Nat.zero_le _, rfl, fun d g hd => absurd hd (Nat.not_lt_zero _)⟩
    case round =>
      obtain ⟨j, hj, rfl, hall⟩ := hrel
      have HA := hide hall
      clear hall
      by_cases hlt : j < k
      · obtain ⟨f, hf⟩ : ∃ f, x.funs[j]? = some f := ⟨_, List.getElem?_eq_getElem (by have := HNF.out; omega)⟩
        have HF := hide hf
        obtain ⟨hfn, vp, vb, e0, e1, e2, e3, g0, -⟩ := HCF.out j f hf
        obtain rfl := HAF.out (by omega)
        have c0 := cellUp g0 HB1.out
        clear hf g0
        cases hh : (f.name.toList == call.toList)
        · have HH := hide hh
          go_wp2
          go_round
          case rel => exact ⟨j + 1, by omega, by go_num, fun d g hd hg => by
              by_cases e : d = j
              · subst e; rw [HF.out] at hg; cases hg; exact HH.out
              · exact HA.out d g (by omega) hg⟩
          case measure => simp [intOf]; omega
        · have HH := hide hh
          go_wp2
          go_ret3
          exact ret_t3 (by rw [HR.out]; exact Nm.tgt_here HD.out (Nm.fnAt_hit hlt HF.out HH.out HA.out)) HB1.out
      · go_wp2
        go_ret3
        exact ret_t3 (by rw [HR.out]; exact Nm.tgt_here0 HD.out (Nm.fnAt_none fun d g hd hg => HA.out d g (by omega) hg)) HB1.out
  | some dd =>
    rw [hd] at HCUT
    have HD := hide hd
    clear hd
    obtain ⟨R, hR⟩ : ∃ R, R = Nm.tgt x k call known := ⟨_, rfl⟩
    have HR := hide hR
    rw [← hR]
    clear hR
    obtain ⟨pre, hpre⟩ : ∃ s, s = Lat.preS call := ⟨_, rfl⟩
    obtain ⟨suf, hsuf⟩ : ∃ s, s = Lat.sufS call := ⟨_, rfl⟩
    have HP := hide hpre
    have HS := hide hsuf
    rw [← hpre, ← hsuf] at HCUT
    clear hpre hsuf
    go_enter Tryz.func16, Tryz.ntmps16
    go_wp2_with fail
    refine (HCUT.out _).mono ?_
    rintro e w1 ⟨rfl, hb1⟩
    replace q1 := cellUp q1 hb1
    have HB1 := hide (up HB0.out hb1)
    clear hb1 q3
    go_wp2_with fail
    refine (containsS_any w1 _ x.imports pre (HI.out.below HB1.out)).mono ?_
    rintro e w' ⟨rfl, hw'⟩
    subst hw'
    obtain ⟨is, his⟩ : ∃ c, c = decide (0 ≤ Lat.indexI x.imports pre) := ⟨_, rfl⟩
    have HIS := hide his
    rw [← his]
    clear his
    cases is
    · go_wp2
      go_ret3
      exact ret_t3 (by rw [HR.out]; exact Nm.tgt_notI HD.out (by rw [← HP.out]; exact HIS.out.symm)) HB1.out
    · go_wp2_with fail
      go_loop [15] (fun i => ∃ j : Nat, j ≤ nk ∧ i = .int .i64 j ∧ ∀ d g, d < j → known[d]? = some g → Nm.sameB g.name pre = false) (fun i => nk - (intOf i).toNat)
      case atStart => exact ⟨0, Nat.zero_le _, rfl, fun d g hd => absurd hd (Nat.not_lt_zero _)⟩
      case round =>
        obtain ⟨j, hj, rfl, hall⟩ := hrel
        have HA := hide hall
        clear hall
        by_cases hlt : j < nk
        · obtain ⟨y, hy⟩ : ∃ y, known[j]? = some y := ⟨_, List.getElem?_eq_getElem (by have := HNK.out; omega)⟩
          have HY := hide hy
          obtain ⟨yi, yv, yf, g0, g1, g2, g3, hm⟩ := HCK.out j y hy
          obtain rfl := HAK.out (by omega)
          have c0 := cellUp g0 HB1.out
          have c3 := cellUp g3 HB1.out
          obtain ⟨zi, zv, zf, hz, -, -, -, hzf⟩ := hm
          injection hz with hz
          injection hz with hz
          injection hz with _ hz
          injection hz with _ hz
          injection hz with _ hz
          injection hz with hz _
          subst hz
          obtain ⟨ay, bY, oy, cy, rfl, hay, hly, hcy⟩ := hzf
          obtain ⟨ny, hny⟩ : ∃ n, n = y.funs.length := ⟨_, rfl⟩
          have HNY := hide hny
          have HCY := hide hcy
          rw [← hny] at hay hly c3
          have HAY := hide hay
          clear hy g0 g1 g2 g3 hny hcy hay
          cases hh : (y.name.toList == pre.toList)
          · have HH := hide hh
            go_wp2
            go_round
            case rel => exact ⟨j + 1, by omega, by go_num, fun d g hd hg => by
                by_cases e : d = j
                · subst e; rw [HY.out] at hg; cases hg; exact HH.out
                · exact HA.out d g (by omega) hg⟩
            case measure => simp [intOf]; omega
          · have HM : Hid (Nm.moAt known pre = some j) := hide (Nm.moAt_hit HY.out hh HA.out)
            go_wp2
            go_loop [16] (fun i => ∃ t : Nat, t ≤ ny ∧ i = .int .i64 t ∧ ∀ d g, d < t → y.funs[d]? = some g → Nm.sameB g.name suf = false) (fun i => ny - (intOf i).toNat)
            case atStart => exact ⟨0, Nat.zero_le _, rfl, fun d g hd => absurd hd (Nat.not_lt_zero _)⟩
            case round =>
              obtain ⟨t, ht, rfl, hall⟩ := hrel
              have HAT := hide hall
              clear hall
              by_cases hlt2 : t < ny
              · obtain ⟨f, hf⟩ : ∃ f, y.funs[t]? = some f := ⟨_, List.getElem?_eq_getElem (by have := HNY.out; omega)⟩
                have HF := hide hf
                obtain ⟨hfn, vp, vb, e0, e1, e2, e3, g0, -⟩ := HCY.out t f hf
                obtain rfl := HAY.out (by omega)
                have c7 := cellUp g0 HB1.out
                clear hf g0
                cases hh2 : (f.name.toList == suf.toList)
                · have HH := hide hh2
                  go_wp2
                  go_round
                  case rel => exact ⟨t + 1, by omega, by go_num, fun d g hd hg => by
                      by_cases e : d = t
                      · subst e; rw [HF.out] at hg; cases hg; exact HH.out
                      · exact HAT.out d g (by omega) hg⟩
                  case measure => simp [intOf]; omega
                · have HH := hide hh2
                  go_wp2
                  go_ret3
                  exact ret_t3 (by rw [HR.out]; exact Nm.tgt_fn HD.out (by rw [← HP.out]; exact HIS.out.symm) (by rw [← HP.out]; exact HM.out) HY.out (Nm.fnAt_hit (by rw [← HNY.out]; exact hlt2) HF.out (by rw [← HS.out]; exact HH.out) (by rw [← HS.out]; exact HAT.out))) HB1.out
              · go_wp2
                go_ret3
                exact ret_t3 (by rw [HR.out]; exact Nm.tgt_nofn HD.out (by rw [← HP.out]; exact HIS.out.symm) (by rw [← HP.out]; exact HM.out) HY.out (Nm.fnAt_none fun d g hd hg => by rw [← HS.out]; exact HAT.out d g (by have := HNY.out; omega) hg)) HB1.out
        · go_wp2
          go_ret3
          exact ret_t3 (by rw [HR.out]; exact Nm.tgt_noM HD.out (by rw [← HP.out]; exact HIS.out.symm) (Nm.moAt_none fun d g hg => by rw [← HP.out]; exact HA.out d g (by have := (List.getElem?_eq_some_iff.1 hg).1; have := HNK.out; omega) hg)) HB1.out
end Go.Proofs.YtholefgckcoklaaGreatDoor
namespace Go.Proofs.YtholefgckcoklaaGreatDoor
open Go.RowKit
def gn (w : World) (n : Nat) (os : Array Obj) : World := { w with heap := w.heap ++ os, drawn := n }
theorem below_gn (w : World) (n : Nat) (os : Array Obj) : Below w.heap.size w (gn w n os) :=
  ⟨rfl, rfl, rfl, by simp [gn], fun k hk => by simp [gn, Array.getElem?_append, hk]⟩
theorem gn_of_below {w w' : World} (h : Below w.heap.size w w') : ∃ p : GrownBy, w' = gn w p.n p.os := by
  refine ⟨⟨w'.drawn, w'.heap.extract w.heap.size w'.heap.size⟩, ?_⟩
  have hh : w'.heap = w.heap ++ w'.heap.extract w.heap.size w'.heap.size := by
    have hs := h.size
    apply Array.ext_getElem?
    intro i
    rw [Array.getElem?_append]
    split
    · rename_i hi; exact h.block i hi
    · rename_i hi
      rw [Array.getElem?_extract]
      split
      · congr 1; omega
      · rw [Array.getElem?_eq_none]; omega
  obtain ⟨hp, tp, dr, os, ou⟩ := w'
  obtain ⟨hp0, tp0, dr0, os0, ou0⟩ := w
  have e1 := h.os
  have e2 := h.tape
  have e3 := h.output
  simp only at e1 e2 e3 hh
  subst e1 e2 e3
  simp only [gn, World.mk.injEq, and_true]
  exact hh
theorem wp_region_quiet_gn {P : Program} {id : Nat} {Q : Exit → Act → World → Prop} {a : Act} {w : World} {l : List Oper} (hm : P.follows .mixedOrders = true) (hB : Region.lexB .any l.toArray = true)
    (h : wpQuiet P l.toArray (fun w' => ∃ p : GrownBy, w' = gn w p.n p.os) (fun a' => ∀ w', (∃ p : GrownBy, w' = gn w p.n p.os) → Q .normal a' w') l a) : (Code.region id l.toArray true).wp P Q a w :=
  wp_region_quiet (C := fun w' => ∃ p : GrownBy, w' = gn w p.n p.os) hm hB ⟨⟨w.drawn + 1, #[]⟩, by simp [gn]⟩ (by simpa using h)
theorem cell_gn {w : World} {a : Addr} {v : Value} (h : w.cell? a = some v) (n : Nat) (os : Array Obj) : (gn w n os).cell? a = some v := cellUp h (below_gn w n os)
theorem Calls.gn_of {P : Program} {f : FuncId} {args : Array Value} {w : World} {n : Nat} {os : Array Obj} {v : Value}
    (h : Calls P f args (gn w n os) fun e w' => e = .returned v ∧ Below (gn w n os).heap.size (gn w n os) w') : Calls P f args (gn w n os) fun e w'' => e = .returned v ∧ ∃ p : GrownBy, w'' = gn w p.n p.os :=
  h.mono fun _ _ ⟨he, hb⟩ => ⟨he, gn_of_below (up (below_gn w n os) hb)⟩
end Go.Proofs.YtholefgckcoklaaGreatDoor
namespace Go.Proofs.YtholefgckcoklaaGreatDoor
open Go.RowKit
section
variable {w : World} {ops : Array Oper} {rest : List Oper} {o : Oper} {a : Act} {Q : Exit → Act → World → Prop}
theorem run_append_zero {t e : TypeId} {iS : TypeInfo} {k base n : Nat} {v : Value} {xs : List Value} (ht : Tryz.prog.underlying t = some (.slice e)) (hi : Tryz.prog.info? e = some iS) (hown : w.ownsRow base e k v n xs) (a2 : Option Addr) (c2 : Nat) (ty : TypeId) :
    (Builtin.append_ #[t, t] ty #[v, .slice a2 0 c2]).run Tryz.prog w = .ok v w := by
  rcases hown.2 with ⟨rfl, rfl⟩ | ⟨g, cap, cur, rfl, _, _, hnc, _⟩
  · cases a2 <;> simp [Builtin.append_, run_underlying ht, sizeOf, typeInfo, hi, Builtin.lenOf, Builtin.firstCells, loadCells, loadCellsFrom]
  · cases a2 <;> simp [Builtin.append_, run_underlying ht, sizeOf, typeInfo, hi, Builtin.lenOf, Builtin.firstCells, loadCells, loadCellsFrom, hnc, storeCells]
theorem wp_append_mem {K : Act → World → Prop} (s x : Operand) (t e k bytes : Nat) (z : Value)
    (ho : o.op = .call { callee := .builtin .append, args := #[s, x], argTypes := #[t, t] }) (ht : Tryz.prog.underlying t = some (.slice e)) (hinfo : (Tryz.prog.info? e).map (fun i => (i.zero, i.size, i.bytes)) = some (some z, k, bytes)) (hzs : z.cells.size = k) (hk : 0 < k)
    (base : Nat) (v : Value) (n : Nat) (xs : List Value) (hs : a.eval s = v) (hown : w.ownsRow base e k v n xs) (a2 : Option Addr) (b2 off2 m c2 : Nat) (news : List Value) (hx : a.eval x = .slice a2 m c2) (h0 : 0 < m → a2 = some ⟨b2, off2, none⟩)
    (hl : news.length = m * k) (hnews : ∀ j u, news[j]? = some u → w.cell? ⟨b2, off2 + j, none⟩ = some u) (h1 : ∀ u ∈ news, u.oneCell' = true) (h63 : n + m ≤ maxLen) (hbytes : (n + m) * bytes ≤ 140737488355328) (hbase : base ≤ w.heap.size)
    (h : ∀ v' w', w'.ownsRow base e k v' (n + m) (xs ++ news) → w.grownBy w' v.ownBlock → (m = 0 → v' = v) → (0 < m → ∃ g cap, v' = .slice (some ⟨g, 0, none⟩) (n + m) cap ∧ (v.ownBlock = some g ∨ g = w.heap.size)) → K (a.put o.dst v') w') : Oper.wp Tryz.prog o a w K Q := by
  obtain ⟨iS, hiS, hz0, hz1, hz2⟩ := info_parts hinfo
  by_cases hm : 0 < m
  · obtain rfl := h0 hm
    exact wp_append_lies w s x t ho base e iS z k bytes ht hiS hz0 hz1 hz2 hzs hk v n xs hs hown ⟨b2, off2, none⟩ m c2 news hx hl (fun j u hu => by rw [Addr.add_lit]; exact hnews j u hu) h1 hm h63 hbytes hbase w.heap.size rfl
      fun g cap w' h2 h3 h4 _ => h _ w' h2 h3 (fun e0 => by omega) (fun _ => ⟨g, cap, rfl, h4⟩)
  · obtain rfl : m = 0 := by omega
    have hn : news = [] := List.length_eq_zero_iff.1 (by omega)
    subst hn
    have hrun := fun ty => run_append_zero (w := w) ht hiS hown a2 c2 ty
    unfold Oper.wp
    simp [execOp, ho, resolve, invoke, builtin, hs, hx, hrun, Result.andThen]
    exact h v w (by simpa using hown) ⟨rfl, rfl, rfl, Nat.le_refl _, fun _ _ _ => rfl⟩ (fun _ => rfl) (fun e0 => absurd e0 (by omega))
theorem wpList_append_mem (hgd : o.guard = none) (s x : Operand) (t e k bytes : Nat) (z : Value)
    (ho : o.op = .call { callee := .builtin .append, args := #[s, x], argTypes := #[t, t] }) (ht : Tryz.prog.underlying t = some (.slice e)) (hinfo : (Tryz.prog.info? e).map (fun i => (i.zero, i.size, i.bytes)) = some (some z, k, bytes)) (hzs : z.cells.size = k) (hk : 0 < k)
    (base : Nat) (v : Value) (n : Nat) (xs : List Value) (hs : a.eval s = v) (hown : w.ownsRow base e k v n xs) (a2 : Option Addr) (b2 off2 m c2 : Nat) (news : List Value) (hx : a.eval x = .slice a2 m c2) (h0 : 0 < m → a2 = some ⟨b2, off2, none⟩)
    (hl : news.length = m * k) (hnews : ∀ j u, news[j]? = some u → w.cell? ⟨b2, off2 + j, none⟩ = some u) (h1 : ∀ u ∈ news, u.oneCell' = true) (h63 : n + m ≤ maxLen) (hbytes : (n + m) * bytes ≤ 140737488355328) (hbase : base ≤ w.heap.size)
    (h : ∀ v' w', w'.ownsRow base e k v' (n + m) (xs ++ news) → w.grownBy w' v.ownBlock → (m = 0 → v' = v) → (0 < m → ∃ g cap, v' = .slice (some ⟨g, 0, none⟩) (n + m) cap ∧ (v.ownBlock = some g ∨ g = w.heap.size)) → wpList Tryz.prog ops Q rest (a.put o.dst v') w') : wpList Tryz.prog ops Q (o :: rest) a w :=
  wpList_plain hgd fun _ hK => wp_append_mem s x t e k bytes z ho ht hinfo hzs hk base v n xs hs hown a2 b2 off2 m c2 news hx h0 hl hnews h1 h63 hbytes hbase fun v' w' h2 h3 h4 h5 => hK _ _ (h v' w' h2 h3 h4 h5)
end
theorem own_empty (w : World) (e k : Nat) : (w.alloc (.cells #[] e)).ownsRow w.heap.size e k (.slice (some ⟨w.heap.size, 0, none⟩) 0 0) 0 [] :=
  ⟨by simp, Or.inr ⟨w.heap.size, 0, #[], rfl, Nat.le_refl _, heap_alloc_new w _, Nat.le_refl _, by decide, by simp, by simp⟩⟩
theorem cells_of {α : Type} {At : List Value → α → Prop} {w : World} {b off k : Nat} {l : List α} (hk : 0 < k) (h : ∀ (i : Nat) y, l[i]? = some y → ∃ c : List Value, c.length = k ∧ (∀ j u, c[j]? = some u → w.cell? ⟨b, off + i * k + j, none⟩ = some u) ∧ At c y) :
    ∃ cs : List (List Value), cs.length = l.length ∧ (∀ c ∈ cs, c.length = k) ∧ (∀ (i : Nat) c y, cs[i]? = some c → l[i]? = some y → At c y) ∧ ∀ (j : Nat) u, cs.flatten[j]? = some u → w.cell? ⟨b, off + j, none⟩ = some u := by
  obtain ⟨cs, h1, h2⟩ : ∃ cs : List (List Value), cs.length = l.length ∧ ∀ (i : Nat) c, cs[i]? = some c → ∃ y, l[i]? = some y ∧ c.length = k ∧ (∀ j u, c[j]? = some u → w.cell? ⟨b, off + i * k + j, none⟩ = some u) ∧ At c y := by
    have hch : ∀ i, i < l.length → ∃ c : List Value, ∃ y, l[i]? = some y ∧ c.length = k ∧ (∀ j u, c[j]? = some u → w.cell? ⟨b, off + i * k + j, none⟩ = some u) ∧ At c y := fun i hi => by
      obtain ⟨c, hc⟩ := h i _ (List.getElem?_eq_getElem hi)
      exact ⟨c, _, List.getElem?_eq_getElem hi, hc⟩
    refine ⟨(List.finRange l.length).map fun i => Classical.choose (hch i.1 i.2), by simp, fun i c hc => ?_⟩
    rw [List.getElem?_map] at hc
    obtain ⟨q, hq, rfl⟩ := Option.map_eq_some_iff.1 hc
    have hqi : q.1 = i := by
      obtain ⟨h1, h2⟩ := List.getElem?_eq_some_iff.1 hq
      rw [List.getElem_finRange] at h2
      rw [← h2]; rfl
    subst hqi
    exact Classical.choose_spec (hch q.1 q.2)
  have h3 : ∀ c ∈ cs, c.length = k := fun c hc => by
    obtain ⟨i, hi, rfl⟩ := List.mem_iff_getElem.1 hc
    obtain ⟨_, _, hcc, _⟩ := h2 i _ (List.getElem?_eq_getElem hi)
    exact hcc
  refine ⟨cs, h1, h3, fun i c y hc hy => ?_, fun j u hu => ?_⟩
  · obtain ⟨y', hy', _, _, hcc⟩ := h2 i c hc
    rw [hy'] at hy
    cases hy
    exact hcc
  · have hj : j < cs.length * k := by
      have := (List.getElem?_eq_some_iff.1 hu).1
      rwa [flat_len cs h3] at this
    have hi : j / k < cs.length := Nat.div_lt_of_lt_mul (by rw [Nat.mul_comm]; exact hj)
    have hmd := Nat.div_add_mod j k
    have hf := flat_get (k := k) cs (j / k) (j % k) hi h3 (Nat.mod_lt _ hk)
    rw [Nat.mul_comm (j / k) k, hmd, hu] at hf
    obtain ⟨_, _, _, hcell, _⟩ := h2 (j / k) _ (List.getElem?_eq_getElem hi)
    have := hcell (j % k) u hf.symm
    rwa [Nat.add_assoc, Nat.mul_comm (j / k) k, hmd] at this
theorem own_get {w : World} {base e k n : Nat} {cs : List (List Value)} {g cap : Nat} (h : w.ownsRow base e k (.slice (some ⟨g, 0, none⟩) n cap) n cs.flatten) (hn : cs.length = n) (hk : ∀ c ∈ cs, c.length = k) {i : Nat} {c : List Value} (hc : cs[i]? = some c) {j : Nat} (hj : j < k) :
    w.cell? ⟨g, i * k + j, none⟩ = c[j]? := by
  obtain ⟨hi, rfl⟩ := List.getElem?_eq_some_iff.1 hc
  have hik : i * k + j < n * k := by
    have : i + 1 ≤ n := by omega
    have h5 := Nat.mul_le_mul_right k this
    rw [Nat.add_mul, Nat.one_mul] at h5
    omega
  rw [World.ownsRow.cellAt h _ hik]
  exact flat_get cs i j hi hk hj
end Go.Proofs.YtholefgckcoklaaGreatDoor
