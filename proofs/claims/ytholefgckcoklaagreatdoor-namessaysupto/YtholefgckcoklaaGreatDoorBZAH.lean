/- Rows of strings and of ints that a call makes for itself by append; lists of ints in memory. -/
import Derived.Test.YtholefgckcoklaaGreatDoorChecked
import Derived.Test.YtholefgckcoklaaGreatDoorBZAC
import Derived.Deep.OwnRows
import Derived.Laws.OwnMore
import Derived.OwnWalk
import Derived.Deep.AppendLies
import Derived.Test.YtholefgckcoklaaGreatDoorBZAF
namespace Go.Proofs.YtholefgckcoklaaGreatDoor
open Go.RowKit
theorem infoStr : (Tryz.prog.info? 9).map (fun i => (i.zero, i.size, i.bytes)) = some (some (.string ⟨#[]⟩), 1, 16) := by kernel_rfl
theorem infoInt : (Tryz.prog.info? 3).map (fun i => (i.zero, i.size, i.bytes)) = some (some (.int .i64 0), 1, 8) := by kernel_rfl
def Own (w : World) (B : Nat) (v : Value) (l : List ByteArray) : Prop := w.ownsRow B 9 1 v l.length (l.map Value.string)
theorem own_below {w w' : World} {base e size n : Nat} {v : Value} {xs : List Value} (h : w.ownsRow base e size v n xs) (hb : Below w.heap.size w w') : w'.ownsRow base e size v n xs := by
  obtain ⟨h1, h2⟩ := h
  refine ⟨h1, ?_⟩
  rcases h2 with h2 | ⟨g, cap, cur, hv, hg, hh, r⟩
  · exact Or.inl h2
  · refine Or.inr ⟨g, cap, cur, hv, hg, ?_, r⟩
    have hlt : g < w.heap.size := by
      rcases Nat.lt_or_ge g w.heap.size with h' | h'
      · exact h'
      · rw [Array.getElem?_eq_none h'] at hh; cases hh
    rw [hb.block g hlt]; exact hh
theorem Own.strs {w : World} {B : Nat} {v : Value} {l : List ByteArray} (h : Own w B v l) (hs : ∀ s ∈ l, s.size ≤ maxLen) (hl : l.length ≤ 9223372036854775807) : Strs w v l := by
  have h0 := h
  rcases h.2 with ⟨rfl, h1⟩ | ⟨g, cap, cur, rfl, _⟩
  · have : l = [] := List.length_eq_zero_iff.1 (by omega)
    subst this
    exact ⟨none, 0, 0, 0, rfl, fun h => absurd h (by simp), by simp, fun s hs => absurd hs (by simp), fun j hj => absurd hj (by simp)⟩
  · refine ⟨_, g, 0, cap, rfl, fun _ => rfl, hl, hs, fun j hj => ?_⟩
    have := World.ownsRow.cellAt h0 j (by omega)
    rw [Nat.zero_add, this]
    simp [hj]
theorem Own.shape {w : World} {B : Nat} {v : Value} {l : List ByteArray} (h : Own w B v l) : (v = .slice none 0 0 ∧ l = []) ∨ ∃ g cap, v = .slice (some ⟨g, 0, none⟩) l.length cap ∧ l.length ≤ cap ∧ g < w.heap.size := by
  rcases h.2 with ⟨rfl, h1⟩ | ⟨g, cap, cur, rfl, _, hh, hc, _⟩
  · exact Or.inl ⟨rfl, List.length_eq_zero_iff.1 (by omega)⟩
  · refine Or.inr ⟨g, cap, rfl, hc, ?_⟩
    rcases Nat.lt_or_ge g w.heap.size with h' | h'
    · exact h'
    · rw [Array.getElem?_eq_none h'] at hh; cases hh
def StrsC (w : World) (v : Value) (l : List ByteArray) : Prop := Strs w v l ∧ ∃ a c, v = .slice a l.length c ∧ l.length ≤ c
theorem StrsC.below {w w' : World} {v : Value} {l : List ByteArray} (h : StrsC w v l) (hb : Below w.heap.size w w') : StrsC w' v l := ⟨h.1.below hb, h.2⟩
theorem Own.strsC {w : World} {B : Nat} {v : Value} {l : List ByteArray} (h : Own w B v l) (hs : ∀ s ∈ l, s.size ≤ maxLen) (hl : l.length ≤ 9223372036854775807) : StrsC w v l := by
  refine ⟨h.strs hs hl, ?_⟩
  rcases h.shape with ⟨rfl, rfl⟩ | ⟨g, cap, rfl, hc, _⟩
  · exact ⟨_, _, rfl, Nat.le_refl _⟩
  · exact ⟨_, _, rfl, hc⟩
def Ints (w : World) (v : Value) (l : List Int) : Prop :=
  ∃ (a : Option Addr) (b off cap : Nat), v = .slice a l.length cap ∧ (0 < l.length → a = some ⟨b, off, none⟩) ∧ l.length ≤ 9223372036854775807 ∧
    ∀ j z, l[j]? = some z → w.cell? ⟨b, off + j, none⟩ = some (.int .i64 z)
theorem Ints.below {w w' : World} {v : Value} {l : List Int} (h : Ints w v l) (hb : Below w.heap.size w w') : Ints w' v l := by
  obtain ⟨a, b, off, cap, e, h0, hl, h1⟩ := h
  exact ⟨a, b, off, cap, e, h0, hl, fun j z hz => cellUp (h1 j z hz) hb⟩
def OwnI (w : World) (B : Nat) (v : Value) (l : List Int) : Prop := w.ownsRow B 3 1 v l.length (l.map (Value.int .i64))
theorem OwnI.ints {w : World} {B : Nat} {v : Value} {l : List Int} (h : OwnI w B v l) (hl : l.length ≤ 9223372036854775807) : Ints w v l := by
  have h0 := h
  rcases h.2 with ⟨rfl, h1⟩ | ⟨g, cap, cur, rfl, _⟩
  · have : l = [] := List.length_eq_zero_iff.1 (by omega)
    subst this
    exact ⟨none, 0, 0, 0, rfl, fun h => absurd h (by simp), by simp, fun j z hz => absurd hz (by simp)⟩
  · refine ⟨_, g, 0, cap, rfl, fun _ => rfl, hl, fun j z hz => ?_⟩
    obtain ⟨hj, rfl⟩ := List.getElem?_eq_some_iff.1 hz
    have := World.ownsRow.cellAt h0 j (by omega)
    rw [Nat.zero_add, this]
    simp [hj]
theorem own_ne {w : World} {base e size n : Nat} {v : Value} {xs : List Value} {base' e' size' n' : Nat} {v' : Value} {xs' : List Value} (h : w.ownsRow base e size v n xs) (h' : w.ownsRow base' e' size' v' n' xs') (hne : e ≠ e') : v.ownBlock = none ∨ v.ownBlock ≠ v'.ownBlock := by
  rcases h.2 with ⟨rfl, _⟩ | ⟨g, cap, cur, rfl, _, hh, _⟩
  · exact Or.inl rfl
  · right
    intro e1
    rcases h'.2 with ⟨rfl, _⟩ | ⟨g', cap', cur', rfl, _, hh', _⟩
    · simp [Value.ownBlock] at e1
    · simp [Value.ownBlock] at e1
      subst e1
      rw [hh] at hh'
      simp at hh'
      exact hne hh'.2
theorem wpList_append_str {w : World} {ops : Array Oper} {rest : List Oper} {o : Oper} {a : Act} {Q : Exit → Act → World → Prop} (hgd : o.guard = none) (s x : Operand)
    (ho : o.op = .call { callee := .builtin .append, args := #[s, x], argTypes := #[22, 22] })
    (base : Nat) (v : Value) (l : List ByteArray) (hs : a.eval s = v) (hown : Own w base v l) (B : Nat) (t : ByteArray) (hx : a.eval x = .slice (some ⟨B, 0, none⟩) 1 1)
    (hc : w.cell? ⟨B, 0, none⟩ = some (.string t)) (hl : l.length ≤ 1048576) (hbase : base ≤ w.heap.size)
    (h : ∀ v' w', Own w' base v' (l ++ [t]) → w.grownBy w' v.ownBlock → wpList Tryz.prog ops Q rest (a.put o.dst v') w') : wpList Tryz.prog ops Q (o :: rest) a w := by
  obtain ⟨iS, hiS, hz0, hz1, hz2⟩ := info_parts infoStr
  have hown' : w.ownsRow base 9 1 v l.length (l.map Value.string) := hown
  refine wpList_append_own _ hgd s x 22 ho base 9 iS (.string ⟨#[]⟩) 1 16 Tryz.underlying22 hiS hz0 hz1 hz2 rfl (by decide) v l.length (l.map Value.string) hs hown' ⟨B, 0, none⟩ 1 1 [.string t] hx rfl (fun j u hu => ?_) (fun u hu => ?_) (by unfold maxLen; omega) (by omega) hbase ?_
  · cases j with
    | zero =>
      simp at hu
      subst hu
      rw [Addr.add_lit]; exact hc
    | succ j => simp at hu
  · simp at hu
    subst hu
    rfl
  · intro v' w' h1 h2 _
    refine h v' w' ?_ h2
    unfold Own
    rw [List.length_append, List.map_append]
    exact h1
theorem Own.kept {w w' : World} {B : Nat} {v : Value} {l : List ByteArray} {o : Obj} {v2 : Value} {l2 : List Int} (h : Own w B v l) (h2 : OwnI w B v2 l2) (hg : (w.alloc o).grownBy w' v2.ownBlock) : Own w' B v l :=
  (World.ownsRow.alloc h o).kept hg (own_ne (World.ownsRow.alloc h o) (World.ownsRow.alloc h2 o) (by decide))
theorem OwnI.kept {w w' : World} {B : Nat} {v : Value} {l : List ByteArray} {o : Obj} {v2 : Value} {l2 : List Int} (h2 : OwnI w B v2 l2) (h : Own w B v l) (hg : (w.alloc o).grownBy w' v.ownBlock) : OwnI w' B v2 l2 :=
  (World.ownsRow.alloc h2 o).kept hg (own_ne (World.ownsRow.alloc h2 o) (World.ownsRow.alloc h o) (by decide))
end Go.Proofs.YtholefgckcoklaaGreatDoor
namespace Go.Proofs.YtholefgckcoklaaGreatDoor
open Go.RowKit
set_option maxHeartbeats 1000000 in
theorem joined_any (w : World) (v : Value) (n a b : Nat) (Z : Nat → Nat → Bool) (hG : Grid w v n Z) (hn : n ≤ 6) (ha : a < n) (hb : b < n) :
    Calls Tryz.prog 249 #[v, .int .i64 a, .int .i64 b] w fun e w' => e = .returned (.tuple #[.int .i64 (Lat.joinN Z n a b : Nat), .int .i64 (Lat.joinE Z n a b)]) ∧ w' = w := by
  have hG' := hG
  obtain ⟨gb, go, gc, RB, RO, C, rfl, h1, h2⟩ := hG
  have HG : Hid (Grid w (.slice (some ⟨gb, go, none⟩) n gc) n Z) := hG'
  clear hG'
  have ra := h1 a ha
  have rb := h1 b hb
  go_enter Tryz.func249, Tryz.ntmps249
  go_wp2
  go_loop [11] (fun i => ∃ k : Nat, k ≤ n ∧ i = .int .i64 k ∧ ∀ d, d < k → Lat.joinP Z n a b d = false) (fun i => n - (intOf i).toNat)
  case atStart => exact ⟨0, Nat.zero_le _, rfl, fun d hd => absurd hd (Nat.not_lt_zero _)⟩
  case round =>
    obtain ⟨k, hk, rfl, hall⟩ := hrel
    have HA : Hid (∀ d, d < k → Lat.joinP Z n a b d = false) := hall
    clear hall
    by_cases hlt : k < n
    · have ca := h2 a k ha hlt
      have cb := h2 b k hb hlt
      clear h1 h2
      cases za : Z a k
      · rw [za] at ca
        go_wp2
        go_round
        case rel => exact ⟨k + 1, by omega, by go_num, fun d hd => by
            by_cases e : d = k
            · subst e; simp [Lat.joinP, za]
            · exact HA.out d (by omega)⟩
        case measure => simp [intOf]; omega
      · rw [za] at ca
        cases zb : Z b k
        · rw [zb] at cb
          go_wp2
          go_round
          case rel => exact ⟨k + 1, by omega, by go_num, fun d hd => by
              by_cases e : d = k
              · subst e; simp [Lat.joinP, zb]
              · exact HA.out d (by omega)⟩
          case measure => simp [intOf]; omega
        · rw [zb] at cb
          go_wp2_with fail
          refine (belowBounds_any w _ n a b k Z HG.out hn ha hb hlt).mono ?_
          rintro e w' ⟨rfl, rfl⟩
          cases zc : Lat.belowB Z n a b k
          · go_wp2
            go_round
            case rel => exact ⟨k + 1, by omega, by go_num, fun d hd => by
                by_cases e : d = k
                · subst e; simp [Lat.joinP, zc]
                · exact HA.out d (by omega)⟩
            case measure => simp [intOf]; omega
          · go_wp2
            go_ret2
            have hj : Lat.joinO Z n a b = some k := Lat.find_hit hlt HA.out (by simp [Lat.joinP, za, zb, zc])
            exact ⟨ret_two (by simp [Lat.joinN, hj]) (by simp [Lat.joinE, hj]), rfl⟩
    · go_wp2
      go_ret2
      have hj : Lat.joinO Z n a b = none := Lat.find_none (fun d hd => HA.out d (by omega))
      exact ⟨ret_two (by simp [Lat.joinN, hj]) (by simp [Lat.joinE, hj]), rfl⟩
theorem joinE_of {Z : Nat → Nat → Bool} {n a b : Nat} : Lat.joinE Z n a b = if Lat.joinsP Z n a b then 0 else 5 := rfl
set_option maxHeartbeats 1000000 in
theorem hasJoins_any (w : World) (v : Value) (n : Nat) (Z : Nat → Nat → Bool) (hG : Grid w v n Z) (hn : n ≤ 6) :
    Calls Tryz.prog 189 #[v] w fun e w' => e = .returned (.bool (Lat.joinsB Z n)) ∧ w' = w := by
  have HG : Hid (Grid w v n Z) := hG
  obtain ⟨gb, go, gc, RB, RO, C, rfl, h1, h2⟩ := hG
  clear h1 h2
  go_enter Tryz.func189, Tryz.ntmps189
  go_wp2
  go_loop [9] (fun i => ∃ k : Nat, k ≤ n ∧ i = .int .i64 k ∧ ∀ d, d < k → (List.range d).all (Lat.joinsP Z n d) = true) (fun i => n - (intOf i).toNat)
  case atStart => exact ⟨0, Nat.zero_le _, rfl, fun d hd => absurd hd (Nat.not_lt_zero _)⟩
  case round =>
    obtain ⟨k, hk, rfl, hall⟩ := hrel
    have HA : Hid (∀ d, d < k → (List.range d).all (Lat.joinsP Z n d) = true) := hall
    clear hall
    by_cases hlt : k < n
    · go_wp2
      go_loop [13] (fun i => ∃ m : Nat, m ≤ k ∧ i = .int .i64 m ∧ ∀ d, d < m → Lat.joinsP Z n k d = true) (fun i => k - (intOf i).toNat)
      case atStart => exact ⟨0, Nat.zero_le _, rfl, fun d hd => absurd hd (Nat.not_lt_zero _)⟩
      case round =>
        obtain ⟨m, hm, rfl, hall⟩ := hrel
        have HB : Hid (∀ d, d < m → Lat.joinsP Z n k d = true) := hall
        clear hall
        by_cases hml : m < k
        · go_wp2_with fail
          refine (joined_any w _ n k m Z HG.out hn hlt (by omega)).mono ?_
          rintro e w' ⟨rfl, rfl⟩
          rw [joinE_of]
          cases zj : Lat.joinsP Z n k m
          · rw [if_neg (by simp)]
            go_wp2
            go_ret
            exact ⟨ret_bool (Lat.all_false hlt (Lat.all_false hml zj)).symm, rfl⟩
          · rw [if_pos rfl]
            go_wp2
            go_round
            case rel => exact ⟨m + 1, by omega, by go_num, fun d hd => by
                by_cases e : d = m
                · subst e; exact zj
                · exact HB.out d (by omega)⟩
            case measure => simp [intOf]; omega
        · go_wp2
          go_round
          case rel => exact ⟨k + 1, by omega, by go_num, fun d hd => by
              by_cases e : d = k
              · subst e; exact Lat.all_true (fun c hc => HB.out c (by omega))
              · exact HA.out d (by omega)⟩
          case measure => simp [intOf]; omega
    · go_wp2
      go_ret
      exact ⟨ret_bool (Lat.all_true (fun d hd => HA.out d (by omega))).symm, rfl⟩
set_option maxHeartbeats 1000000 in
theorem isOrder_any (w : World) (v : Value) (n : Nat) (Z : Nat → Nat → Bool) (hG : Grid w v n Z) (hn : n ≤ 6) :
    Calls Tryz.prog 188 #[v] w fun e w' => e = .returned (.bool (Lat.orderB Z n)) ∧ w' = w := by
  have HG : Hid (Grid w v n Z) := hG
  obtain ⟨gb, go, gc, RB, RO, C, rfl, h1, h2⟩ := hG
  go_enter Tryz.func188, Tryz.ntmps188
  go_wp2
  go_loop [7] (fun i => ∃ k : Nat, k ≤ n ∧ i = .int .i64 k ∧ ∀ d, d < k → Lat.orderP Z n d = true) (fun i => n - (intOf i).toNat)
  case atStart => exact ⟨0, Nat.zero_le _, rfl, fun d hd => absurd hd (Nat.not_lt_zero _)⟩
  case round =>
    obtain ⟨k, hk, rfl, hall⟩ := hrel
    have HA : Hid (∀ d, d < k → Lat.orderP Z n d = true) := hall
    clear hall
    by_cases hlt : k < n
    · have ra := h1 k hlt
      have caa := h2 k k hlt hlt
      cases zkk : Z k k
      · rw [zkk] at caa
        go_wp2
        go_ret
        exact ⟨ret_bool (Lat.all_false hlt (by simp [Lat.orderP, zkk])).symm, rfl⟩
      · rw [zkk] at caa
        go_wp2
        clear caa
        go_loop [20] (fun i => ∃ m : Nat, m ≤ n ∧ i = .int .i64 m ∧ ∀ d, d < m → Lat.orderR Z n k d = true) (fun i => n - (intOf i).toNat)
        case atStart => exact ⟨0, Nat.zero_le _, rfl, fun d hd => absurd hd (Nat.not_lt_zero _)⟩
        case round =>
          obtain ⟨m, hm, rfl, hall⟩ := hrel
          have HB : Hid (∀ d, d < m → Lat.orderR Z n k d = true) := hall
          clear hall
          by_cases hml : m < n
          · have cab := h2 k m hlt hml
            cases zkm : Z k m
            · rw [zkm] at cab
              go_wp2
              go_round
              case rel => exact ⟨m + 1, by omega, by go_num, fun d hd => by
                  by_cases e : d = m
                  · subst e; simp [Lat.orderR, zkm]
                  · exact HB.out d (by omega)⟩
              case measure => simp [intOf]; omega
            · rw [zkm] at cab
              go_wp2_with fail
              refine (fits_any w _ n k m Z HG.out hn hlt hml).mono ?_
              rintro e w' ⟨rfl, rfl⟩
              cases zf : Lat.fitsB Z n k m
              · go_wp2
                go_ret
                exact ⟨ret_bool (Lat.all_false hlt (by unfold Lat.orderP; rw [Lat.all_false hml (by simp [Lat.orderR, zkm, zf])]; simp)).symm, rfl⟩
              · go_wp2
                go_round
                case rel => exact ⟨m + 1, by omega, by go_num, fun d hd => by
                    by_cases e : d = m
                    · subst e; simp [Lat.orderR, zf]
                    · exact HB.out d (by omega)⟩
                case measure => simp [intOf]; omega
          · go_wp2
            go_round
            case rel => exact ⟨k + 1, by omega, by go_num, fun d hd => by
                by_cases e : d = k
                · subst e; unfold Lat.orderP; rw [zkk, Lat.all_true (fun c hc => HB.out c (by omega))]; rfl
                · exact HA.out d (by omega)⟩
            case measure => simp [intOf]; omega
    · go_wp2
      go_ret
      exact ⟨ret_bool (Lat.all_true (fun d hd => HA.out d (by omega))).symm, rfl⟩
end Go.Proofs.YtholefgckcoklaaGreatDoor
