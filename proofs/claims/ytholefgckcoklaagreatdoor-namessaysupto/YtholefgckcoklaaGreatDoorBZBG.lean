/- Walks over package tree: exprTexts, exprText: of expressions that may be, the text that the document asks. -/
import Derived.Test.YtholefgckcoklaaGreatDoorBZBD
import Derived.Test.YtholefgckcoklaaGreatDoorBZBB
import Derived.Test.YtholefgckcoklaaGreatDoorBZAC
import Derived.Test.YtholefgckcoklaaGreatDoorBZAF
import Derived.Test.YtholefgckcoklaaGreatDoorBZBA
namespace Go.Proofs.YtholefgckcoklaaGreatDoor
open Go.RowKit
theorem bytes_ext {a b : ByteArray} (h : a.data.toList = b.data.toList) : a = b := by
  cases a with | mk a => cases b with | mk b => congr 1; exact Array.toList_inj.1 h
theorem app_list (a b : ByteArray) : (a ++ b).data.toList = a.data.toList ++ b.data.toList := by
  rw [ByteArray.data_append, Array.toList_append]
theorem brk_list (l : List ByteArray) : (Lat.brk l).data.toList = 40 :: (Lib.join (l.map (·.data.toList)) [32] ++ [41]) := by
  unfold Lat.brk Lat.jn
  rw [app_list, app_list]; rfl
theorem fold_list {t : Ex → ByteArray} (l : List Ex) (acc : ByteArray) : (l.foldl (Lat.exStep t) acc).data.toList = acc.data.toList ++ Lib.joinTail [32] ((l.map t).map (·.data.toList)) := by
  induction l generalizing acc with
  | nil => simp [Lib.joinTail]
  | cons y l ih =>
    rw [List.foldl_cons, ih]
    unfold Lat.exStep
    rw [app_list, app_list]
    simp [Lib.joinTail]
theorem op_text (x : Ex) (t : Ex → ByteArray) (h : x.kind ≠ 4) : Lat.brk (x.name :: x.args.map t) = x.args.foldl (Lat.exStep t) (Lat.exHead x) ++ (⟨#[41]⟩ : ByteArray) := by
  apply bytes_ext
  rw [brk_list, app_list, fold_list, List.map_cons, Lib.join_cons]
  unfold Lat.exHead
  rw [if_neg h, app_list]
  simp
theorem call_text (x : Ex) (t : Ex → ByteArray) (h : x.kind = 4) : Lat.brk (⟨#[99, 97, 108, 108]⟩ :: x.name :: x.args.map t) = x.args.foldl (Lat.exStep t) (Lat.exHead x) ++ (⟨#[41]⟩ : ByteArray) := by
  apply bytes_ext
  rw [brk_list, app_list, fold_list, List.map_cons, Lib.join_cons]
  unfold Lat.exHead
  rw [if_pos h, app_list]
  simp [Lib.joinTail]
theorem map_take {α β : Type} {f : α → β} {l : List α} {j : Nat} {y : α} (h : l[j]? = some y) : (l.take (j + 1)).map f = (l.take j).map f ++ [f y] := by
  obtain ⟨hj, rfl⟩ := List.getElem?_eq_some_iff.1 h
  rw [List.take_succ_eq_append_getElem hj, List.map_append]; rfl
end Go.Proofs.YtholefgckcoklaaGreatDoor
namespace Go.Proofs.YtholefgckcoklaaGreatDoor
open Go.RowKit
namespace Lat
def stX (m : Nat) (s : St) : ByteArray := stT (exT m) (bdT m) s ⟨#[]⟩
def txs : Nat → List St → List ByteArray
  | 0, _ => []
  | m + 1, l => l.map (stX m)
end Lat
theorem stT_acc (et : Ex → ByteArray) (bt : List St → ByteArray) (s : St) (acc : ByteArray) : Lat.stT et bt s acc = acc ++ Lat.stT et bt s ⟨#[]⟩ := by
  have e : ∀ x : ByteArray, (⟨#[]⟩ : ByteArray) ++ x = x := fun x => by apply bytes_ext; rw [app_list]; rfl
  have e2 : ∀ x : ByteArray, x ++ (⟨#[]⟩ : ByteArray) = x := fun x => by apply bytes_ext; rw [app_list]; simp
  unfold Lat.stT
  simp only [e]
  split
  · rfl
  · split
    · rfl
    · split
      · rfl
      · split
        · rfl
        · rw [e2]
theorem joinTail_app (sep : List UInt8) (a b : List (List UInt8)) : Lib.joinTail sep (a ++ b) = Lib.joinTail sep a ++ Lib.joinTail sep b := by
  simp [Lib.joinTail]
theorem jn_list (l : List ByteArray) : (Lat.jn l).data.toList = Lib.join (l.map (·.data.toList)) [32] := by unfold Lat.jn; rfl
theorem jn_snoc (l : List ByteArray) (x : ByteArray) : Lat.jn (l ++ [x]) = (if 0 < l.length then Lat.jn l ++ (⟨#[32]⟩ : ByteArray) else Lat.jn l) ++ x := by
  cases l with
  | nil =>
    apply bytes_ext
    rw [if_neg (by simp), app_list, jn_list, jn_list]
    simp [Lib.join_one, Lib.join_nil]
  | cons y l =>
    apply bytes_ext
    rw [if_pos (by simp), app_list, app_list, jn_list, jn_list, List.cons_append, List.map_cons, List.map_cons, Lib.join_cons, Lib.join_cons, List.map_append, joinTail_app]
    simp [Lib.joinTail]
theorem bdTo_jn (m : Nat) (l : List St) : ∀ j, j ≤ l.length → Lat.bdTo (Lat.exT m) (Lat.bdT m) l j = Lat.jn ((l.take j).map (Lat.stX m))
  | 0, _ => by
    apply bytes_ext
    rw [jn_list]; simp [Lat.bdTo, Lib.join_nil]
  | j + 1, hj => by
    obtain ⟨s, hs⟩ : ∃ s, l[j]? = some s := ⟨_, List.getElem?_eq_getElem (by omega)⟩
    rw [bdTo_succ hs, stT_acc, map_take hs, jn_snoc, bdTo_jn m l j (by omega)]
    have e : ((l.take j).map (Lat.stX m)).length = j := by rw [List.length_map, List.length_take]; omega
    rw [e]; rfl
theorem bdT_jn (m : Nat) (l : List St) : Lat.bdT m l = Lat.jn (Lat.txs m l) := by
  cases m with
  | zero => apply bytes_ext; rw [jn_list]; simp [Lat.bdT, Lat.txs, Lib.join_nil]
  | succ m =>
    simp only [Lat.bdT, Lat.txs]
    rw [bdTo_jn m l l.length (Nat.le_refl _), List.take_length]
section
variable (m : Nat) (s : St)
theorem set_text (h : s.kind = 1) : Lat.brk [⟨#[115, 101, 116]⟩, s.name, Lat.exT m s.e] = Lat.stX m s := by
  apply bytes_ext
  rw [brk_list]
  unfold Lat.stX Lat.stT
  rw [if_pos h]
  simp [Lib.join_cons, Lib.joinTail]
theorem print_text (h : s.kind = 4) : Lat.brk [⟨#[112, 114, 105, 110, 116]⟩, s.name, Lat.exT m s.e] = Lat.stX m s := by
  apply bytes_ext
  rw [brk_list]
  unfold Lat.stX Lat.stT
  rw [if_neg (by omega), if_pos h]
  simp [Lib.join_cons, Lib.joinTail]
theorem while_text (h : s.kind = 3) : Lat.brk [⟨#[119, 104, 105, 108, 101]⟩, Lat.exT m s.e, Lat.brk (Lat.txs m s.a)] = Lat.stX m s := by
  apply bytes_ext
  rw [brk_list]
  unfold Lat.stX Lat.stT
  rw [if_neg (by omega), if_neg (by omega), if_pos h, bdT_jn]
  simp [Lib.join_cons, Lib.joinTail, brk_list, jn_list]
theorem if_text (h : s.kind = 2) : Lat.brk [⟨#[105, 102]⟩, Lat.exT m s.e, Lat.brk (Lat.txs m s.a), Lat.brk (Lat.txs m s.b)] = Lat.stX m s := by
  apply bytes_ext
  rw [brk_list]
  unfold Lat.stX Lat.stT
  rw [if_neg (by omega), if_neg (by omega), if_neg (by omega), if_pos h, bdT_jn, bdT_jn]
  simp [Lib.join_cons, Lib.joinTail, brk_list, jn_list]
end
end Go.Proofs.YtholefgckcoklaaGreatDoor
namespace Go.Proofs.YtholefgckcoklaaGreatDoor
open Go.RowKit
namespace Lat
def impX (s : ByteArray) : ByteArray := brk [⟨#[105, 109, 112, 111, 114, 116]⟩, s]
def vaX (v : Va) : ByteArray := brk [⟨#[118, 97, 114]⟩, v.name, v.level]
end Lat
end Go.Proofs.YtholefgckcoklaaGreatDoor
namespace Go.Proofs.YtholefgckcoklaaGreatDoor
open Go.RowKit
namespace Lat
end Lat
end Go.Proofs.YtholefgckcoklaaGreatDoor
namespace Go.Proofs.YtholefgckcoklaaGreatDoor
open Go.RowKit
theorem sameD_self (d : Dg) : Nm.sameD d d = true := Nm.sameD_iff.2 rfl
set_option maxHeartbeats 1000000 in
set_option maxRecDepth 100000 in
theorem eqD_same (w : World) (va vb : Value) (l : List Dg) (ha : DgsAt w va l) (hb : DgsAt w vb l) :
    Calls Tryz.prog 14 #[va, vb] w fun e w' => e = .returned (.bool true) ∧ Below w.heap.size w w' := by
  obtain ⟨a, b, off, cap, rfl, h0, hl, hel⟩ := ha
  obtain ⟨a', b', off', cap', rfl, h0', -, hel'⟩ := hb
  have HEL := hide hel
  have HEL' := hide hel'
  have HA := hide h0
  have HA' := hide h0'
  obtain ⟨len, hlen⟩ : ∃ n, n = l.length := ⟨_, rfl⟩
  have HL := hide hlen
  rw [← hlen] at hl HA HA' ⊢
  clear hel hel' h0 h0' hlen
  go_enter Tryz.func14, Tryz.ntmps14
  go_wp2_with fail
  go_loopw [5, 13] (fun _ i wx => ∃ j : Nat, j ≤ len ∧ i = .int .i64 j ∧ ∃ n, wx = w.drewN n) (fun _ i _ => len - (intOf i).toNat)
  case atStart => exact ⟨0, Nat.zero_le _, rfl, 0, rfl⟩
  case round =>
    obtain ⟨j, hj, rfl, n, rfl⟩ := hrel
    by_cases hjl : j < len
    · obtain ⟨d, hd⟩ : ∃ d, l[j]? = some d := ⟨_, List.getElem?_eq_getElem (by rw [← HL.out]; exact hjl)⟩
      obtain ⟨p0, p1, p2⟩ := HEL.out j d hd
      obtain ⟨q0, q1, q2⟩ := HEL'.out j d hd
      obtain rfl := HA.out (by omega)
      obtain rfl := HA'.out (by omega)
      have heq : ∀ w, Sem.run Tryz.prog (Op.equalIn 10000 43 (.agg #[.int .i64 d.code, .string d.fn, .string d.name]) (.agg #[.int .i64 d.code, .string d.fn, .string d.name])) w = .ok true w := fun w => by rw [eqIn_dg d d w, sameD_self]
      have hgd : ∀ op a b w, Sem.run Tryz.prog (eqGuard op 43 a b (.agg #[.int .i64 d.code, .string d.fn, .string d.name]) (.agg #[.int .i64 d.code, .string d.fn, .string d.name])) w = .ok () w := fun op a b w => guard_dg op a b d d w
      clear hd
      go_wp2_with fail
      go_quiet (fail)
      go_wp2_with fail
      go_roundw
      case rel => exact ⟨j + 1, by omega, by go_num, n + nq, by rw [← World.drewN_drewN]⟩
      case measure => simp [intOf]; omega
    · go_wp2_with fail
      go_ret
      exact ⟨rfl, below_drew (Below.refl _ _)⟩
end Go.Proofs.YtholefgckcoklaaGreatDoor
