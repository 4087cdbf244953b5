/- Small facts that every walk of ours wants, of whatever program. -/
import Derived.WalkKit
import Derived.WalkSpells
import Derived.WalkLawsBesides
import Derived.Test.YtholefgckcoklaaGreatDoorBZAA
import Derived.Test.YtholefgckcoklaaGreatDoorChecked
namespace Go.Proofs.YtholefgckcoklaaGreatDoor
open Go.RowKit
namespace Lat
def letterB (c : UInt8) : Bool := decide (97 ≤ c.toNat) && decide (c.toNat ≤ 122)
def nameB (l : List UInt8) : Bool := decide (1 ≤ l.length) && decide (l.length ≤ 8) && l.all letterB
end Lat
theorem size_list (s : ByteArray) : s.data.toList.length = s.size := rfl
theorem letters_all (s : ByteArray) (h : ∀ j (hj : j < s.size), Lat.letterB s[j] = true) : s.data.toList.all Lat.letterB = true := by
  rw [List.all_eq_true]
  intro x hx
  obtain ⟨j, hj, rfl⟩ := List.mem_iff_getElem.1 hx
  exact h j (by simpa using hj)
theorem letters_not (s : ByteArray) (j : Nat) (hj : j < s.size) (h : Lat.letterB s[j] = false) : s.data.toList.all Lat.letterB = false := by
  rw [List.all_eq_false]
  exact ⟨s[j], List.mem_iff_getElem.2 ⟨j, by simpa using hj, rfl⟩, by simp [h]⟩
theorem ret_bool {a b : Bool} (h : a = b) : Ending.returned (.bool a) = .returned (.bool b) := by rw [h]
theorem ret_two {a b : Int} {c d : Int} (h : a = c) (h' : b = d) : Ending.returned (.tuple #[.int .i64 a, .int .i64 b]) = .returned (.tuple #[.int .i64 c, .int .i64 d]) := by rw [h, h']
theorem ret_int {k : IntKind} {a b : Int} (h : a = b) : Ending.returned (.int k a) = .returned (.int k b) := by rw [h]
theorem nat_bne (a b : Nat) : ((a : Int) != (b : Int)) = (a != b) := by
  rw [Bool.eq_iff_iff]; simp only [bne_iff_ne, ne_eq]; omega
theorem up {w w1 w2 : World} (h : Below w.heap.size w w1) (h2 : Below w1.heap.size w1 w2) : Below w.heap.size w w2 := h.trans (h2.mono h.size)
theorem up1 {w w2 : World} {o : Obj} (h2 : Below (w.alloc o).heap.size (w.alloc o) w2) : Below w.heap.size w w2 := up ((Below.refl _ _).alloc (Nat.le_refl _) _) h2
theorem cellUp {w w1 : World} {a : Addr} {v : Value} (h : w.cell? a = some v) (hb : Below w.heap.size w w1) : w1.cell? a = some v := by
  rw [hb.cell (World.block_lt_of_cell? _ _ h)]; exact h
theorem cellBox0 (w : World) (x y : Value) (t : TypeId) : (w.alloc (.cells #[x, y] t)).cell? ⟨w.heap.size, 0, none⟩ = some x := by simp [go_sem]
theorem cellBox1 (w : World) (x y : Value) (t : TypeId) : (w.alloc (.cells #[x, y] t)).cell? ⟨w.heap.size, 1, none⟩ = some y := by simp [go_sem]
theorem bne_zero_true {x : Int} (h : x ≠ 0) : (x != 0) = true := by simp [h]
theorem val_bool {a b : Bool} (h : a = b) : Value.bool a = .bool b := by rw [h]
theorem boxBelow (w : World) (o : Obj) : Below w.heap.size w (w.alloc o) := (Below.refl _ _).alloc (Nat.le_refl _) _
theorem nat_beq (a b : Nat) : ((a : Int) == (b : Int)) = (a == b) := by
  rw [Bool.eq_iff_iff]; simp only [beq_iff_eq]; omega
theorem drewBelow {B : Nat} {a w : World} (h : Below B a w) (k : Nat) : Below B a (w.drewN k) := h.trans ⟨rfl, rfl, rfl, Nat.le_refl _, fun _ _ => rfl⟩
end Go.Proofs.YtholefgckcoklaaGreatDoor
namespace Go.Proofs.YtholefgckcoklaaGreatDoor
open Go.RowKit
theorem in_any (w : World) (a lo hi : Int) :
    Calls Tryz.prog 22 #[.int .i64 a, .int .i64 lo, .int .i64 hi] w fun e w' => e = .returned (.bool (decide (lo ≤ a) && decide (a ≤ hi))) ∧ w' = w := by
  by_cases h0 : lo ≤ a
  · by_cases h1 : a ≤ hi
    · go_enter Tryz.func22, Tryz.ntmps22
      go_wp2
      go_ret
      exact ⟨ret_bool (by simp [h0, h1]), rfl⟩
    · go_enter Tryz.func22, Tryz.ntmps22
      go_wp2
      go_ret
      exact ⟨ret_bool (by rw [decide_eq_false (by omega : ¬ a ≤ hi)]), rfl⟩
  · go_enter Tryz.func22, Tryz.ntmps22
    go_wp2
    go_ret
    exact ⟨ret_bool (by rw [decide_eq_false (by omega : ¬ lo ≤ a)]; rfl), rfl⟩
def nameTo (s : ByteArray) (k : Nat) : Bool := decide (1 ≤ s.size) && decide (s.size ≤ 8) && (s.data.toList.take k).all Lat.letterB
theorem nameTo_succ (s : ByteArray) (k : Nat) (hk : k < s.size) : nameTo s (k + 1) = (nameTo s k && Lat.letterB s[k]) := by
  unfold nameTo
  have e : s.data.toList.take (k + 1) = s.data.toList.take k ++ [s[k]] := by
    rw [List.take_succ_eq_append_getElem (by simpa using hk)]; rfl
  rw [e, List.all_append]
  simp [Bool.and_assoc]
theorem nameTo_all (s : ByteArray) : nameTo s s.size = Lat.nameB s.data.toList := by
  unfold nameTo Lat.nameB
  rw [List.take_of_length_le (by simp), size_list]
set_option maxHeartbeats 1000000 in
theorem name_any (w : World) (s : ByteArray) (hs : s.size ≤ maxLen) :
    Calls Tryz.prog 113 #[.string s] w fun e w' => e = .returned (.bool (Lat.nameB s.data.toList)) ∧ w' = w := by
  unfold maxLen at hs
  go_enter Tryz.func113, Tryz.ntmps113
  go_wp2_with fail
  refine (in_any _ _ _ _).mono ?_
  rintro e w' ⟨rfl, rfl⟩
  have h0 : (decide ((1 : Int) ≤ (s.size : Int)) && decide ((s.size : Int) ≤ 8)) = nameTo s 0 := by
    unfold nameTo
    rw [show decide ((1 : Int) ≤ (s.size : Int)) = decide (1 ≤ s.size) from decide_eq_decide.2 (by omega), show decide ((s.size : Int) ≤ 8) = decide (s.size ≤ 8) from decide_eq_decide.2 (by omega)]
    simp
  rw [h0]
  clear h0
  go_wp2
  go_loop [3, 4] (fun b i => ∃ k : Nat, k ≤ s.size ∧ i = .int .i64 k ∧ b = .bool (nameTo s k)) (fun _ i => s.size - (intOf i).toNat)
  case atStart => exact ⟨0, Nat.zero_le _, rfl, rfl⟩
  case round =>
    obtain ⟨k, hk, rfl, rfl⟩ := hrel
    by_cases hlt : k < s.size
    · have HS := hide (nameTo_succ s k hlt)
      cases hb : nameTo s k
      · have HB := hide hb
        go_wp2
        go_round
        case rel => exact ⟨k + 1, by omega, by go_num, val_bool (by rw [HS.out, HB.out]; rfl)⟩
        case measure => simp [intOf]; omega
      · have HB := hide hb
        go_wp2
        all_goals
          go_round
          case rel => exact ⟨k + 1, by omega, by go_num, val_bool (by rw [HS.out, HB.out]; unfold Lat.letterB; rw [Bool.eq_iff_iff]; simp; omega)⟩
          case measure => simp [intOf]; omega
    · go_wp2
      go_ret
      have e : k = s.size := by omega
      exact ⟨ret_bool (by rw [e, nameTo_all]), rfl⟩
end Go.Proofs.YtholefgckcoklaaGreatDoor
namespace Go.Proofs.YtholefgckcoklaaGreatDoor
open Go.RowKit
namespace Lat
def isAt (ss : List ByteArray) (t : ByteArray) (i : Nat) : Bool := t.toList == (ss.getD i ByteArray.empty).toList
def indexI (ss : List ByteArray) (t : ByteArray) : Int := match (List.range ss.length).find? (isAt ss t) with | some i => i | none => -1
end Lat
set_option maxHeartbeats 1000000 in
theorem indexS_any (w : World) (v : Value) (ss : List ByteArray) (t : ByteArray) (hS : Strs w v ss) :
    Calls Tryz.prog 121 #[v, .string t] w fun e w' => e = .returned (.int .i64 (Lat.indexI ss t)) ∧ w' = w := by
  obtain ⟨a, b, off, cap, rfl, ha, hl, hs, h1⟩ := hS
  obtain ⟨len, hlen⟩ : ∃ len, len = ss.length := ⟨_, rfl⟩
  rw [← hlen] at ha hl h1 ⊢
  have HL : Hid (len = ss.length) := hlen
  clear hlen
  go_enter Tryz.func121, Tryz.ntmps121
  go_wp2
  go_loop [8] (fun i => ∃ k : Nat, k ≤ len ∧ i = .int .i64 k ∧ ∀ d, d < k → Lat.isAt ss t d = false) (fun i => len - (intOf i).toNat)
  case atStart => exact ⟨0, Nat.zero_le _, rfl, fun d hd => absurd hd (Nat.not_lt_zero _)⟩
  case round =>
    obtain ⟨k, hk, rfl, hall⟩ := hrel
    have HA : Hid (∀ d, d < k → Lat.isAt ss t d = false) := hall
    clear hall
    by_cases hlt : k < len
    · obtain rfl := ha (by omega)
      obtain ⟨s, hsk⟩ : ∃ s, s = ss.getD k ByteArray.empty := ⟨_, rfl⟩
      have hcx := h1 k hlt
      rw [← hsk] at hcx
      have HK := hide hsk
      clear hsk h1 hs
      cases hh : (t.toList == s.toList)
      · go_wp2
        go_round
        case rel => exact ⟨k + 1, by omega, by go_num, fun d hd => by
            by_cases e : d = k
            · subst e; unfold Lat.isAt; rw [← HK.out]; exact hh
            · exact HA.out d (by omega)⟩
        case measure => simp [intOf]; omega
      · go_wp2
        go_ret
        exact ⟨ret_int (by unfold Lat.indexI; rw [Lat.find_hit (by rw [← HL.out]; exact hlt) HA.out (by unfold Lat.isAt; rw [← HK.out]; exact hh)]), rfl⟩
    · go_wp2
      go_ret
      exact ⟨ret_int (by unfold Lat.indexI; rw [Lat.find_none (fun d hd => HA.out d (by have := HL.out; omega))]), rfl⟩
end Go.Proofs.YtholefgckcoklaaGreatDoor
