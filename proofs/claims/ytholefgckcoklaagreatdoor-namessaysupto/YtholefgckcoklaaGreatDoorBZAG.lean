/- What expressions, commands, functions and modules weigh: bounds of how long their texts are. -/
import Derived.Test.YtholefgckcoklaaGreatDoorBZAB
import Derived.Test.YtholefgckcoklaaGreatDoorBZAE
import Derived.Test.YtholefgckcoklaaGreatDoorBZAC
import Derived.Shelf.SlSortCmp.QuietGrown
import Derived.Test.YtholefgckcoklaaGreatDoorChecked
import Derived.WalkLawsBesides
namespace Go.Proofs.YtholefgckcoklaaGreatDoor
open Go.RowKit
def exW : Nat → Ex → Nat
  | 0, _ => 0
  | m + 1, x => x.name.size + 4 + (x.args.map (exW m)).sum
def stsW : Nat → List St → Nat
  | 0, _ => 0
  | m + 1, l => (l.map fun s => s.name.size + 3 + exW m s.e + stsW m s.a + stsW m s.b).sum + 1
def strsW (l : List ByteArray) : Nat := (l.map fun s => s.size + 1).sum + 1
def vasW (l : List Va) : Nat := (l.map fun s => s.name.size + s.level.size + 3).sum + 1
def fusW (m : Nat) (l : List Fu) : Nat := (l.map fun s => s.name.size + 2 + strsW s.params + stsW m s.body + exW m s.result).sum + 1
def moW (m : Nat) (x : Mo) : Nat := x.name.size + 2 + strsW x.imports + vasW x.vars + fusW m x.funs
theorem map_congr_get {α β : Type} {f g : α → β} {l : List α} (h : ∀ (i : Nat) (x : α), l[i]? = some x → f x = g x) : l.map f = l.map g :=
  List.map_congr_left fun x hx => by
    obtain ⟨i, hi, rfl⟩ := List.mem_iff_getElem.1 hx
    exact h i _ (List.getElem?_eq_getElem hi)
theorem exW_mono {w : World} : ∀ {m : Nat} {c0 c1 c2 c3 : Value} {x : Ex}, ExAt w m c0 c1 c2 c3 x → ∀ k, m ≤ k → exW k x = exW m x
  | 0, _, _, _, _, _, h, _, _ => False.elim h
  | m + 1, c0, c1, c2, c3, x, h, 0, hk => by omega
  | m + 1, c0, c1, c2, c3, x, h, k + 1, hk => by
    obtain ⟨_, _, _, _, _, _, a, b, off, cap, _, _, _, h9⟩ := h
    simp only [exW]
    rw [map_congr_get (f := exW k) (g := exW m) (fun i y hy => by
      obtain ⟨e0, e1, e2, e3, _, _, _, _, hx⟩ := h9 i y hy
      exact exW_mono hx k (by omega))]
theorem stsW_mono {w : World} : ∀ {m : Nat} {v : Value} {l : List St}, StsAt w m v l → ∀ k, m ≤ k → stsW k l = stsW m l
  | 0, _, _, h, _, _ => False.elim h
  | m + 1, v, l, h, 0, hk => by omega
  | m + 1, v, l, h, k + 1, hk => by
    obtain ⟨a, b, off, cap, _, _, _, h9⟩ := h
    simp only [stsW]
    rw [map_congr_get (fun i s hs => by
      obtain ⟨_, _, e0, e1, e2, e3, va, vb, _, _, _, _, _, _, _, _, hx, ha, hb⟩ := h9 i s hs
      rw [exW_mono hx k (by omega), stsW_mono ha k (by omega), stsW_mono hb k (by omega)])]
end Go.Proofs.YtholefgckcoklaaGreatDoor
namespace Go.Proofs.YtholefgckcoklaaGreatDoor
open Go.RowKit
def MosAt (w : World) (m : Nat) (v : Value) (l : List Mo) : Prop :=
  ∃ (a : Option Addr) (b off cap : Nat), v = .slice a l.length cap ∧ (0 < l.length → a = some ⟨b, off, none⟩) ∧ l.length ≤ 9223372036854775807 ∧
    ∀ i x, l[i]? = some x → ∃ vi vv vf, w.cell? ⟨b, off + i * 4, none⟩ = some (.string x.name) ∧ w.cell? ⟨b, off + i * 4 + 1, none⟩ = some vi ∧ w.cell? ⟨b, off + i * 4 + 2, none⟩ = some vv ∧ w.cell? ⟨b, off + i * 4 + 3, none⟩ = some vf ∧ MoAt w m (.agg #[.string x.name, vi, vv, vf]) x
theorem MosAt.below {w w' : World} {m : Nat} {v : Value} {l : List Mo} (h : MosAt w m v l) (hb : Below w.heap.size w w') : MosAt w' m v l := by
  obtain ⟨a, b, off, cap, e, h0, hl, h1⟩ := h
  refine ⟨a, b, off, cap, e, h0, hl, fun i x hx => ?_⟩
  obtain ⟨vi, vv, vf, g0, g1, g2, g3, hm⟩ := h1 i x hx
  exact ⟨vi, vv, vf, cellUp g0 hb, cellUp g1 hb, cellUp g2 hb, cellUp g3 hb, hm.below hb⟩
namespace Nm
def sameB (s t : ByteArray) : Bool := s.toList == t.toList
def fnAt (l : List Fu) (s : ByteArray) (n : Nat) : Option Nat := (List.range n).find? fun i => match l[i]? with | some f => sameB f.name s | none => false
def moAt (l : List Mo) (s : ByteArray) : Option Nat := (List.range l.length).find? fun i => match l[i]? with | some x => sameB x.name s | none => false
def tgt (x : Mo) (k : Nat) (call : ByteArray) (known : List Mo) : Int × Int × Bool :=
  match Lat.dotAt call with
  | none => match fnAt x.funs call k with
    | some i => (-1, i, true)
    | none => (-1, 0, false)
  | some _ =>
    if 0 ≤ Lat.indexI x.imports (Lat.preS call) then
      match moAt known (Lat.preS call) with
      | none => (0, 0, false)
      | some i => match fnAt ((known[i]?.map (·.funs)).getD []) (Lat.sufS call) ((known[i]?.map (·.funs)).getD []).length with
        | some j => (i, j, true)
        | none => (i, 0, false)
    else (0, 0, false)
theorem fnAt_hit {l : List Fu} {s : ByteArray} {n i : Nat} {f : Fu} (hi : i < n) (hf : l[i]? = some f) (h : sameB f.name s = true) (h0 : ∀ d g, d < i → l[d]? = some g → sameB g.name s = false) : fnAt l s n = some i := by
  refine Lat.find_hit hi (fun c hc => ?_) (by simp only [hf]; exact h)
  cases hg : l[c]? with
  | none => rfl
  | some g => exact h0 c g hc hg
theorem fnAt_none {l : List Fu} {s : ByteArray} {n : Nat} (h0 : ∀ d g, d < n → l[d]? = some g → sameB g.name s = false) : fnAt l s n = none := by
  refine Lat.find_none (fun c hc => ?_)
  cases hg : l[c]? with
  | none => rfl
  | some g => exact h0 c g hc hg
theorem moAt_hit {l : List Mo} {s : ByteArray} {i : Nat} {x : Mo} (hx : l[i]? = some x) (h : sameB x.name s = true) (h0 : ∀ d g, d < i → l[d]? = some g → sameB g.name s = false) : moAt l s = some i := by
  refine Lat.find_hit (List.getElem?_eq_some_iff.1 hx).1 (fun c hc => ?_) (by simp only [hx]; exact h)
  cases hg : l[c]? with
  | none => rfl
  | some g => exact h0 c g hc hg
theorem moAt_none {l : List Mo} {s : ByteArray} (h0 : ∀ (d : Nat) (g : Mo), l[d]? = some g → sameB g.name s = false) : moAt l s = none := by
  refine Lat.find_none (fun c hc => ?_)
  cases hg : l[c]? with
  | none => rfl
  | some g => exact h0 c g hg
end Nm
end Go.Proofs.YtholefgckcoklaaGreatDoor
namespace Go.Proofs.YtholefgckcoklaaGreatDoor
open Go.RowKit
def gn (w : World) (n : Nat) (os : Array Obj) : World := { w with heap := w.heap ++ os, drawn := n }
theorem below_gn (w : World) (n : Nat) (os : Array Obj) : Below w.heap.size w (gn w n os) :=
  ⟨rfl, rfl, rfl, by simp [gn], fun k hk => by simp [gn, Array.getElem?_append, hk]⟩
theorem gn_of_below {w w' : World} (h : Below w.heap.size w w') : ∃ p : GrownBy, w' = gn w p.n p.os := by
  refine ⟨⟨w'.drawn, w'.heap.extract w.heap.size w'.heap.size⟩, ?_⟩
  have hh : w'.heap = w.heap ++ w'.heap.extract w.heap.size w'.heap.size := by
    have hs := h.size
    apply Array.ext_getElem?
    intro i
    rw [Array.getElem?_append]
    split
    · rename_i hi; exact h.block i hi
    · rename_i hi
      rw [Array.getElem?_extract]
      split
      · congr 1; omega
      · rw [Array.getElem?_eq_none]; omega
  obtain ⟨hp, tp, dr, os, ou⟩ := w'
  obtain ⟨hp0, tp0, dr0, os0, ou0⟩ := w
  have e1 := h.os
  have e2 := h.tape
  have e3 := h.output
  simp only at e1 e2 e3 hh
  subst e1 e2 e3
  simp only [gn, World.mk.injEq, and_true]
  exact hh
theorem wp_region_quiet_gn {P : Program} {id : Nat} {Q : Exit → Act → World → Prop} {a : Act} {w : World} {l : List Oper} (hm : P.follows .mixedOrders = true) (hB : Region.lexB .any l.toArray = true)
    (h : wpQuiet P l.toArray (fun w' => ∃ p : GrownBy, w' = gn w p.n p.os) (fun a' => ∀ w', (∃ p : GrownBy, w' = gn w p.n p.os) → Q .normal a' w') l a) : (Code.region id l.toArray true).wp P Q a w :=
  wp_region_quiet (C := fun w' => ∃ p : GrownBy, w' = gn w p.n p.os) hm hB ⟨⟨w.drawn + 1, #[]⟩, by simp [gn]⟩ (by simpa using h)
theorem cell_gn {w : World} {a : Addr} {v : Value} (h : w.cell? a = some v) (n : Nat) (os : Array Obj) : (gn w n os).cell? a = some v := cellUp h (below_gn w n os)
theorem Calls.gn_of {P : Program} {f : FuncId} {args : Array Value} {w : World} {n : Nat} {os : Array Obj} {v : Value}
    (h : Calls P f args (gn w n os) fun e w' => e = .returned v ∧ Below (gn w n os).heap.size (gn w n os) w') : Calls P f args (gn w n os) fun e w'' => e = .returned v ∧ ∃ p : GrownBy, w'' = gn w p.n p.os :=
  h.mono fun _ _ ⟨he, hb⟩ => ⟨he, gn_of_below (up (below_gn w n os) hb)⟩
end Go.Proofs.YtholefgckcoklaaGreatDoor
namespace Go.Proofs.YtholefgckcoklaaGreatDoor
open Go.RowKit
set_option maxHeartbeats 1000000 in
theorem belowBounds_any (w : World) (v : Value) (n a b c : Nat) (Z : Nat → Nat → Bool) (hG : Grid w v n Z) (hn : n ≤ 6) (ha : a < n) (hb : b < n) (hc : c < n) :
    Calls Tryz.prog 302 #[v, .int .i64 a, .int .i64 b, .int .i64 c] w fun e w' => e = .returned (.bool (Lat.belowB Z n a b c)) ∧ w' = w := by
  obtain ⟨gb, go, gc, RB, RO, C, rfl, h1, h2⟩ := hG
  have ra := h1 a ha
  have rb := h1 b hb
  have rc := h1 c hc
  go_enter Tryz.func302, Tryz.ntmps302
  go_wp2
  go_loop [12] (fun i => ∃ k : Nat, k ≤ n ∧ i = .int .i64 k ∧ ∀ d, d < k → (!(Z a d && Z b d && !Z c d)) = true) (fun i => n - (intOf i).toNat)
  case atStart => exact ⟨0, Nat.zero_le _, rfl, fun d hd => absurd hd (Nat.not_lt_zero _)⟩
  case round =>
    obtain ⟨k, hk, rfl, hall⟩ := hrel
    have HA : Hid (∀ d, d < k → (!(Z a d && Z b d && !Z c d)) = true) := hall
    clear hall
    by_cases hlt : k < n
    · have ca := h2 a k ha hlt
      have cb := h2 b k hb hlt
      have cc := h2 c k hc hlt
      clear h1 h2
      cases za : Z a k
      · rw [za] at ca
        go_wp2
        go_round
        case rel => exact ⟨k + 1, by omega, by go_num, fun d hd => by
            by_cases e : d = k
            · subst e; simp [za]
            · exact HA.out d (by omega)⟩
        case measure => simp [intOf]; omega
      · rw [za] at ca
        cases zb : Z b k
        · rw [zb] at cb
          go_wp2
          go_round
          case rel => exact ⟨k + 1, by omega, by go_num, fun d hd => by
              by_cases e : d = k
              · subst e; simp [zb]
              · exact HA.out d (by omega)⟩
          case measure => simp [intOf]; omega
        · rw [zb] at cb
          cases zc : Z c k
          · rw [zc] at cc
            go_wp2
            go_ret
            exact ⟨ret_bool (Lat.all_false hlt (by simp [za, zb, zc])).symm, rfl⟩
          · rw [zc] at cc
            go_wp2
            go_round
            case rel => exact ⟨k + 1, by omega, by go_num, fun d hd => by
                by_cases e : d = k
                · subst e; simp [zc]
                · exact HA.out d (by omega)⟩
            case measure => simp [intOf]; omega
    · go_wp2
      go_ret
      exact ⟨ret_bool (Lat.all_true (fun d hd => HA.out d (by omega))).symm, rfl⟩
set_option maxHeartbeats 1000000 in
theorem fits_any (w : World) (v : Value) (n a b : Nat) (Z : Nat → Nat → Bool) (hG : Grid w v n Z) (hn : n ≤ 6) (ha : a < n) (hb : b < n) :
    Calls Tryz.prog 248 #[v, .int .i64 a, .int .i64 b] w fun e w' => e = .returned (.bool (Lat.fitsB Z n a b)) ∧ w' = w := by
  obtain ⟨gb, go, gc, RB, RO, C, rfl, h1, h2⟩ := hG
  have ra := h1 a ha
  have rb := h1 b hb
  have cab := h2 b a hb ha
  cases hab : (((a : Int) != (b : Int)) && Z b a)
  · have HF : Hid (Lat.fitsB Z n a b = (List.range n).all (Lat.fitsP Z a b)) := by
      have e : (a != b) = ((a : Int) != (b : Int)) := by
        rw [Bool.eq_iff_iff]; simp only [bne_iff_ne, ne_eq]; omega
      show Lat.fitsB Z n a b = _
      unfold Lat.fitsB
      rw [e, hab]; rfl
    have hguard : ((a : Int) != (b : Int)) = false ∨ ((a : Int) != (b : Int)) = true ∧ Z b a = false := by
      cases h : ((a : Int) != (b : Int))
      · exact Or.inl rfl
      · rw [h] at hab; exact Or.inr ⟨rfl, by simpa using hab⟩
    clear hab
    rcases hguard with hg | ⟨hg, hz⟩
    case' inr => rw [hz] at cab
    all_goals
      go_enter Tryz.func248, Tryz.ntmps248
      go_wp2
      clear cab
      go_loop [22] (fun i => ∃ k : Nat, k ≤ n ∧ i = .int .i64 k ∧ ∀ d, d < k → Lat.fitsP Z a b d = true) (fun i => n - (intOf i).toNat)
      case atStart => exact ⟨0, Nat.zero_le _, rfl, fun d hd => absurd hd (Nat.not_lt_zero _)⟩
      case round =>
        obtain ⟨k, hk, rfl, hall⟩ := hrel
        have HA : Hid (∀ d, d < k → Lat.fitsP Z a b d = true) := hall
        clear hall
        by_cases hlt : k < n
        · have ca := h2 a k ha hlt
          have cb := h2 b k hb hlt
          clear h1 h2
          cases zb : Z b k
          · rw [zb] at cb
            go_wp2
            go_round
            case rel => exact ⟨k + 1, by omega, by go_num, fun d hd => by
                by_cases e : d = k
                · subst e; simp [Lat.fitsP, zb]
                · exact HA.out d (by omega)⟩
            case measure => simp [intOf]; omega
          · rw [zb] at cb
            cases za : Z a k
            · rw [za] at ca
              go_wp2
              go_ret
              exact ⟨ret_bool (by rw [HF.out]; exact (Lat.all_false hlt (by simp [Lat.fitsP, za, zb])).symm), rfl⟩
            · rw [za] at ca
              go_wp2
              go_round
              case rel => exact ⟨k + 1, by omega, by go_num, fun d hd => by
                  by_cases e : d = k
                  · subst e; simp [Lat.fitsP, za]
                  · exact HA.out d (by omega)⟩
              case measure => simp [intOf]; omega
        · go_wp2
          go_ret
          exact ⟨ret_bool (by rw [HF.out]; exact (Lat.all_true (fun d hd => HA.out d (by omega))).symm), rfl⟩
  · obtain ⟨hg, hz⟩ : ((a : Int) != (b : Int)) = true ∧ Z b a = true := by simpa using hab
    have HF : Hid (Lat.fitsB Z n a b = false) := by
      have e : (a != b) = ((a : Int) != (b : Int)) := by
        rw [Bool.eq_iff_iff]; simp only [bne_iff_ne, ne_eq]; omega
      show Lat.fitsB Z n a b = _
      unfold Lat.fitsB
      rw [e, hab]; rfl
    clear hab
    rw [hz] at cab
    go_enter Tryz.func248, Tryz.ntmps248
    go_wp2
    go_ret
    exact ⟨ret_bool HF.out.symm, rfl⟩
end Go.Proofs.YtholefgckcoklaaGreatDoor
