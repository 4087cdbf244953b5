/- Walks over package downref: exprText: the text of an expression. -/
import Derived.Test.YtbncnkfogkhoeaaGreatDoorZA
import Derived.Test.YtbncnkfogkhoeaaGreatDoorShelf
import Derived.Lib.SmallJoins
import Derived.Lib.AppendIntMem
import Derived.Lib.ItoaLen
import Derived.Deep.RegionHeld3
namespace Go.Proofs.YtbncnkfogkhoeaaGreatDoor
open Go.RowKit

/-- The library's table of powers of ten lies as its initialiser lays it. -/
def Tab (w : World) : Prop := Lib.TabIs Tryz.prog w "internal/strconv.uint64pow10" .u64 Lib.pow10Tab

theorem tabNamed : (Tryz.prog.globalNamed "internal/strconv.uint64pow10").isSome = true := by kernel_rfl
theorem Tab.below {w w' : World} (h : Tab w) (hb : Below w.heap.size w w') : Tab w' := by
  obtain ⟨g, hg⟩ := Option.isSome_iff_exists.1 tabNamed
  exact Joins.tab_stays hg h hb (Nat.le_refl _)

theorem itoa_any (w : World) (n : Int) (hn : I64 n) (ht : Tab w) :
    Calls Tryz.prog 189 #[.int .i64 n] w fun e w' => e = .returned (.string ⟨(Lib.itoa n).toArray⟩) ∧ Below w.heap.size w w' := by
  refine (Tryz.strconv_Itoa n hn.1 hn.2 w ht).mono ?_
  rintro e w' ⟨rfl, k, os, rfl⟩
  exact ⟨rfl, Lib.below_grow _ _ (Nat.le_refl _) _ _⟩

namespace Lat
/-- One argument more, behind what there is. -/
def exStep (t : Ex → ByteArray) (acc : ByteArray) (y : Ex) : ByteArray := acc ++ ((⟨#[32]⟩ : ByteArray) ++ t y)
def exHead (x : Ex) : ByteArray := (if x.kind = 4 then (⟨#[40, 99, 97, 108, 108, 32]⟩ : ByteArray) else ⟨#[40]⟩) ++ x.name
/-- The text of an expression. -/
def exT : Nat → Ex → ByteArray
  | 0, _ => ⟨#[]⟩
  | m + 1, x => if x.kind = 1 then ⟨(Lib.itoa x.n).toArray⟩ else if x.kind = 2 then x.name else x.args.foldl (exStep (exT m)) (exHead x) ++ (⟨#[41]⟩ : ByteArray)
end Lat

theorem foldl_size {t : Ex → ByteArray} : ∀ (l : List Ex) (acc : ByteArray), (l.foldl (Lat.exStep t) acc).size = acc.size + (l.map fun y => (t y).size + 1).sum
  | [], acc => by simp
  | y :: l, acc => by
    rw [List.foldl_cons, foldl_size l]
    have e : (Lat.exStep t acc y).size = acc.size + (1 + (t y).size) := by
      unfold Lat.exStep; rw [ByteArray.size_append, ByteArray.size_append]; rfl
    rw [e, List.map_cons, List.sum_cons]; omega

theorem sum_mono {f g : Ex → Nat} : ∀ {l : List Ex}, (∀ (i : Nat) (x : Ex), l[i]? = some x → f x ≤ g x) → (l.map f).sum ≤ (l.map g).sum
  | [], _ => Nat.le_refl _
  | x :: l, h => by
    have h0 := h 0 x rfl
    have h1 := sum_mono (l := l) (fun i y hy => h (i + 1) y (by simpa using hy))
    simp only [List.map_cons, List.sum_cons]; omega
theorem sum_mul (k : Nat) (f : Ex → Nat) : ∀ l : List Ex, (l.map fun x => k * f x).sum = k * (l.map f).sum
  | [] => rfl
  | x :: l => by simp only [List.map_cons, List.sum_cons, sum_mul k f l, Nat.mul_add]

/-- A text is at most six times as long as what it tells of weighs. -/
theorem exT_size {w : World} : ∀ {m : Nat} {c0 c1 c2 c3 : Value} {x : Ex}, ExAt w m c0 c1 c2 c3 x → (Lat.exT m x).size + 1 ≤ 6 * exW m x
  | 0, _, _, _, _, _, h => False.elim h
  | m + 1, c0, c1, c2, c3, x, h => by
    obtain ⟨_, _, _, _, _, hn, a, b, off, cap, _, _, _, h9⟩ := h
    have hs : (x.args.map fun y => (Lat.exT m y).size + 1).sum ≤ 6 * (x.args.map (exW m)).sum := by
      rw [← sum_mul]
      exact sum_mono (fun i y hy => by
        obtain ⟨e0, e1, e2, e3, _, _, _, _, hx⟩ := h9 i y hy
        exact exT_size hx)
    have hh : (Lat.exHead x).size ≤ x.name.size + 6 := by
      unfold Lat.exHead
      rw [ByteArray.size_append]
      split
      · show 6 + _ ≤ _; omega
      · show 1 + _ ≤ _; omega
    simp only [Lat.exT, exW]
    split
    · have := Lib.itoa_length_le x.n hn.1 hn.2
      show (Lib.itoa x.n).toArray.size + 1 ≤ _
      rw [List.size_toArray]; omega
    · split
      · omega
      · rw [ByteArray.size_append, foldl_size]
        show _ + 1 + 1 ≤ _
        omega

theorem ret_str {a b : ByteArray} (h : a = b) : Ending.returned (.string a) = .returned (.string b) := by rw [h]

end Go.Proofs.YtbncnkfogkhoeaaGreatDoor

/- Walks over package downref: exprText answers the text of an expression. -/
namespace Go.Proofs.YtbncnkfogkhoeaaGreatDoor
open Go.RowKit

theorem val_str {a b : ByteArray} (h : a = b) : Value.string a = .string b := by rw [h]
theorem mem_le_sum {α : Type} {f : α → Nat} {y : α} : ∀ {l : List α}, y ∈ l → f y ≤ (l.map f).sum
  | x :: l, h => by
    simp only [List.map_cons, List.sum_cons]
    rcases List.mem_cons.1 h with rfl | h
    · omega
    · have := mem_le_sum (f := f) h; omega

theorem fold_take {t : Ex → ByteArray} {l : List Ex} {j : Nat} {y : Ex} (h : l[j]? = some y) (acc : ByteArray) : (l.take (j + 1)).foldl (Lat.exStep t) acc = Lat.exStep t ((l.take j).foldl (Lat.exStep t) acc) y := by
  obtain ⟨hj, rfl⟩ := List.getElem?_eq_some_iff.1 h
  rw [List.take_succ_eq_append_getElem hj, List.foldl_append]; rfl

theorem fold_take_size {t : Ex → ByteArray} (l : List Ex) (j : Nat) (acc : ByteArray) : ((l.take j).foldl (Lat.exStep t) acc).size ≤ (l.foldl (Lat.exStep t) acc).size := by
  rw [foldl_size, foldl_size]
  have : ((l.take j).map fun y => (t y).size + 1).sum ≤ (l.map fun y => (t y).size + 1).sum := by
    conv => rhs; rw [← List.take_append_drop j l]
    rw [List.map_append, List.sum_append]; omega
  omega

set_option maxHeartbeats 2000000 in
set_option maxRecDepth 100000 in
theorem exprText_any (m : Nat) : ∀ (w : World) (c0 c1 c2 c3 : Value) (x : Ex), ExAt w m c0 c1 c2 c3 x → exW m x ≤ 1048576 → Tab w →
    Calls Tryz.prog 136 #[.agg #[c0, c1, c2, c3]] w fun e w' => e = .returned (.string (Lat.exT m x)) ∧ Below w.heap.size w w' := by
  induction m with
  | zero => intro w c0 c1 c2 c3 x h; exact False.elim h
  | succ m ih =>
    intro w c0 c1 c2 c3 x h hw ht
    have HI := hide ih
    clear ih
    have hsize := exT_size h
    obtain ⟨rfl, rfl, rfl, hsz, hk1, hk2, a, b, off, cap, rfl, ha, hl, hel⟩ := h
    obtain ⟨k, n, s, args⟩ := x
    simp only at hsz hk1 hk2 ha hl hel ⊢
    have HEL := hide hel
    have HA := hide ha
    have HT := hide (ht.below (boxBelow w (.cells #[.int .i64 k, .int .i64 n, .string s, .slice a args.length cap] 84)))
    have hsn : s.size ≤ 1048576 := by simp only [exW] at hw; omega
    have HW : Hid (∀ (i : Nat) (y : Ex), args[i]? = some y → exW m y ≤ 1048576) := hide (fun i y hy => by
      have : exW m y ≤ (args.map (exW m)).sum := mem_le_sum (List.mem_of_getElem? hy)
      simp only [exW] at hw; omega)
    clear hel ha ht
    by_cases h1 : k = 1
    · subst h1
      go_enter Tryz.func136, Tryz.ntmps136
      go_wp2_with fail
      refine (itoa_any _ n hk2 HT.out).mono ?_
      rintro e w1 ⟨rfl, hb1⟩
      have HB := hide (up1 hb1)
      clear hb1
      go_wp2_with fail
      go_ret
      exact ⟨ret_str (by simp [Lat.exT]), HB.out⟩
    by_cases h2 : k = 2
    · subst h2
      go_enter Tryz.func136, Tryz.ntmps136
      go_wp2_with fail
      go_ret
      exact ⟨ret_str (by simp [Lat.exT]), boxBelow _ _⟩
    have hk1' : (k == 1) = false := by simp [h1]
    have hk2' : (k == 2) = false := by simp [h2]
    have HE : Hid (Lat.exT (m + 1) ⟨k, n, s, args⟩ = args.foldl (Lat.exStep (Lat.exT m)) (Lat.exHead ⟨k, n, s, args⟩) ++ (⟨#[41]⟩ : ByteArray)) := hide (by simp only [Lat.exT]; rw [if_neg h1, if_neg h2])
    have hfs : (args.foldl (Lat.exStep (Lat.exT m)) (Lat.exHead ⟨k, n, s, args⟩)).size ≤ 6291456 := by
      rw [HE.out, ByteArray.size_append] at hsize
      have e : (⟨#[41]⟩ : ByteArray).size = 1 := rfl
      omega
    have HFS := hide hfs
    have HHD : Hid (Lat.exHead ⟨k, n, s, args⟩ = (if k = 4 then (⟨#[40, 99, 97, 108, 108, 32]⟩ : ByteArray) else ⟨#[40]⟩) ++ s) := rfl
    generalize Lat.exHead ⟨k, n, s, args⟩ = hd at *
    obtain ⟨len, hlen⟩ : ∃ len, len = args.length := ⟨_, rfl⟩
    have HL := hide hlen
    rw [← hlen] at hl HA HT ⊢
    have q3 := boxCells4 w (.int .i64 k) (.int .i64 n) (.string s) (.slice a len cap) 84
    have HB0 := hide (boxBelow w (.cells #[.int .i64 k, .int .i64 n, .string s, .slice a len cap] 84))
    clear hlen hfs hsize hw h1 h2
    cases hk4 : (k == 4)
    case' false => rw [if_neg (by simpa using hk4)] at HHD
    case' true => rw [if_pos (by simpa using hk4)] at HHD
    all_goals
      go_enter Tryz.func136, Tryz.ntmps136
      go_wp2_with fail
      rw [← HHD.out]
      generalize (w.alloc (.cells #[.int .i64 k, .int .i64 n, .string s, .slice a len cap] 84)) = W0 at *
      go_loopw [3, 4] (fun o i wr => ∃ j : Nat, j ≤ len ∧ i = .int .i64 j ∧ o = .string ((args.take j).foldl (Lat.exStep (Lat.exT m)) hd) ∧ Below W0.heap.size W0 wr) (fun _ i _ => len - (intOf i).toNat)
      case atStart => exact ⟨0, Nat.zero_le _, rfl, rfl, Below.refl _ _⟩
      case round =>
        obtain ⟨j, hj, rfl, rfl, hnx⟩ := hrel
        have t3 := cellUp q3 hnx
        have hacc := Nat.le_trans (fold_take_size (t := Lat.exT m) args j hd) HFS.out
        by_cases hjl : j < len
        · obtain ⟨y, hy⟩ : ∃ y, args[j]? = some y := ⟨_, List.getElem?_eq_getElem (by rw [← HL.out]; exact hjl)⟩
          obtain ⟨e0, e1, e2, e3, g0, g1, g2, g3, hye⟩ := HEL.out j y hy
          obtain rfl := HA.out (by omega)
          have hbb := up HB0.out hnx
          have u0 := cellUp g0 hbb
          have u1 := cellUp g1 hbb
          have u2' := cellUp g2 hbb
          have u3' := cellUp g3 hbb
          have HYE := hide (hye.below hbb)
          have hys := exT_size hye
          have hyw := HW.out j y hy
          have hyt : (Lat.exT m y).size ≤ 6291456 := by omega
          have HST := hide (fold_take (t := Lat.exT m) hy hd)
          have HNX := hide hnx
          clear g0 g1 g2 g3 hye hy hbb hnx hys
          go_wp2_with fail
          refine (HI.out _ e0 e1 e2 e3 y HYE.out hyw (HT.out.below HNX.out)).mono ?_
          rintro e w5 ⟨rfl, hb5⟩
          have HN5 := hide (up HNX.out hb5)
          clear hb5 HNX
          generalize hty : Lat.exT m y = ty at *
          have HTY := hide hty
          clear hty
          generalize hac : (args.take j).foldl (Lat.exStep (Lat.exT m)) hd = acc at *
          have HAC := hide hac
          clear hac
          go_wp2_with fail
          go_roundw
          case rel => exact ⟨j + 1, by omega, by go_num, val_str (by rw [HST.out]; unfold Lat.exStep; rw [HTY.out]), HN5.out⟩
          case measure => simp [intOf]; omega
        · go_wp2_with fail
          go_ret
          exact ⟨ret_str (by rw [HE.out, List.take_of_length_le (by have := HL.out; omega)]), up HB0.out hnx⟩

end Go.Proofs.YtbncnkfogkhoeaaGreatDoor

/- Walks over package downref: bodyText answers the text of commands. -/
namespace Go.Proofs.YtbncnkfogkhoeaaGreatDoor
open Go.RowKit

namespace Lat
/-- A command's text, behind what there is. -/
def stT (et : Ex → ByteArray) (bt : List St → ByteArray) (s : St) (acc : ByteArray) : ByteArray :=
  if s.kind = 1 then acc ++ ((⟨#[40, 115, 101, 116, 32]⟩ : ByteArray) ++ s.name ++ (⟨#[32]⟩ : ByteArray) ++ et s.e ++ (⟨#[41]⟩ : ByteArray))
  else if s.kind = 4 then acc ++ ((⟨#[40, 112, 114, 105, 110, 116, 32]⟩ : ByteArray) ++ s.name ++ (⟨#[32]⟩ : ByteArray) ++ et s.e ++ (⟨#[41]⟩ : ByteArray))
  else if s.kind = 3 then acc ++ ((⟨#[40, 119, 104, 105, 108, 101, 32]⟩ : ByteArray) ++ et s.e ++ (⟨#[32, 40]⟩ : ByteArray) ++ bt s.a ++ (⟨#[41, 41]⟩ : ByteArray))
  else if s.kind = 2 then acc ++ ((⟨#[40, 105, 102, 32]⟩ : ByteArray) ++ et s.e ++ (⟨#[32, 40]⟩ : ByteArray) ++ bt s.a ++ (⟨#[41, 32, 40]⟩ : ByteArray) ++ bt s.b ++ (⟨#[41, 41]⟩ : ByteArray))
  else acc
/-- The text of the first j commands. -/
def bdTo (et : Ex → ByteArray) (bt : List St → ByteArray) (l : List St) : Nat → ByteArray
  | 0 => ⟨#[]⟩
  | j + 1 => match l[j]? with
    | some s => stT et bt s (if 0 < j then bdTo et bt l j ++ (⟨#[32]⟩ : ByteArray) else bdTo et bt l j)
    | none => bdTo et bt l j
def bdT : Nat → List St → ByteArray
  | 0, _ => ⟨#[]⟩
  | m + 1, l => bdTo (exT m) (bdT m) l l.length
end Lat

theorem bdTo_succ {et : Ex → ByteArray} {bt : List St → ByteArray} {l : List St} {j : Nat} {s : St} (h : l[j]? = some s) :
    Lat.bdTo et bt l (j + 1) = Lat.stT et bt s (if 0 < j then Lat.bdTo et bt l j ++ (⟨#[32]⟩ : ByteArray) else Lat.bdTo et bt l j) := by
  simp only [Lat.bdTo, h]

theorem stT_size (et : Ex → ByteArray) (bt : List St → ByteArray) (s : St) (acc : ByteArray) : acc.size ≤ (Lat.stT et bt s acc).size ∧ (Lat.stT et bt s acc).size ≤ acc.size + s.name.size + (et s.e).size + (bt s.a).size + (bt s.b).size + 11 := by
  have z0 : (⟨#[40, 115, 101, 116, 32]⟩ : ByteArray).size = 5 := rfl
  have z1 : (⟨#[40, 112, 114, 105, 110, 116, 32]⟩ : ByteArray).size = 7 := rfl
  have z2 : (⟨#[40, 119, 104, 105, 108, 101, 32]⟩ : ByteArray).size = 7 := rfl
  have z3 : (⟨#[40, 105, 102, 32]⟩ : ByteArray).size = 4 := rfl
  have z4 : (⟨#[32, 40]⟩ : ByteArray).size = 2 := rfl
  have z5 : (⟨#[41, 41]⟩ : ByteArray).size = 2 := rfl
  have z6 : (⟨#[41, 32, 40]⟩ : ByteArray).size = 3 := rfl
  have z7 : (⟨#[32]⟩ : ByteArray).size = 1 := rfl
  have z8 : (⟨#[41]⟩ : ByteArray).size = 1 := rfl
  unfold Lat.stT
  repeat' split
  all_goals (try simp only [ByteArray.size_append, z0, z1, z2, z3, z4, z5, z6, z7, z8])
  all_goals omega

/-- What one command weighs. -/
def stW (m : Nat) (s : St) : Nat := s.name.size + 3 + exW m s.e + stsW m s.a + stsW m s.b
theorem stsW_succ (m : Nat) (l : List St) : stsW (m + 1) l = (l.map (stW m)).sum + 1 := rfl

theorem sum_take_succ {f : St → Nat} {l : List St} {j : Nat} {s : St} (h : l[j]? = some s) : ((l.take (j + 1)).map f).sum = ((l.take j).map f).sum + f s := by
  obtain ⟨hj, rfl⟩ := List.getElem?_eq_some_iff.1 h
  rw [List.take_succ_eq_append_getElem hj, List.map_append, List.sum_append]; simp
theorem sum_take_le {f : St → Nat} (l : List St) (j : Nat) : ((l.take j).map f).sum ≤ (l.map f).sum := by
  conv => rhs; rw [← List.take_append_drop j l]
  rw [List.map_append, List.sum_append]; omega

theorem bdTo_size {m : Nat} {l : List St} (h : ∀ (i : Nat) (s : St), l[i]? = some s → (Lat.exT m s.e).size + 1 ≤ 6 * exW m s.e ∧ (Lat.bdT m s.a).size + 1 ≤ 6 * stsW m s.a ∧ (Lat.bdT m s.b).size + 1 ≤ 6 * stsW m s.b) :
    ∀ j, j ≤ l.length → (Lat.bdTo (Lat.exT m) (Lat.bdT m) l j).size ≤ 6 * ((l.take j).map (stW m)).sum
  | 0, _ => Nat.zero_le _
  | j + 1, hj => by
    have ih := bdTo_size h j (by omega)
    obtain ⟨s, hs⟩ : ∃ s, l[j]? = some s := ⟨_, List.getElem?_eq_getElem (by omega)⟩
    rw [bdTo_succ hs, sum_take_succ hs]
    have h1 := (stT_size (Lat.exT m) (Lat.bdT m) s (if 0 < j then Lat.bdTo (Lat.exT m) (Lat.bdT m) l j ++ (⟨#[32]⟩ : ByteArray) else Lat.bdTo (Lat.exT m) (Lat.bdT m) l j)).2
    have h2 : (if 0 < j then Lat.bdTo (Lat.exT m) (Lat.bdT m) l j ++ (⟨#[32]⟩ : ByteArray) else Lat.bdTo (Lat.exT m) (Lat.bdT m) l j).size ≤ (Lat.bdTo (Lat.exT m) (Lat.bdT m) l j).size + 1 := by
      split
      · rw [ByteArray.size_append]; exact Nat.le_refl _
      · omega
    obtain ⟨g1, g2, g3⟩ := h j s hs
    have hst : stW m s = s.name.size + 3 + exW m s.e + stsW m s.a + stsW m s.b := rfl
    omega

theorem bdT_size {w : World} : ∀ {m : Nat} {v : Value} {l : List St}, StsAt w m v l → (Lat.bdT m l).size + 1 ≤ 6 * stsW m l
  | 0, _, _, h => False.elim h
  | m + 1, v, l, h => by
    obtain ⟨a, b, off, cap, _, _, _, h9⟩ := h
    have := bdTo_size (m := m) (l := l) (fun i s hs => by
      obtain ⟨_, _, e0, e1, e2, e3, va, vb, _, _, _, _, _, _, _, _, hx, ha, hb⟩ := h9 i s hs
      exact ⟨exT_size hx, bdT_size ha, bdT_size hb⟩) l.length (Nat.le_refl _)
    rw [List.take_length] at this
    rw [stsW_succ]
    simp only [Lat.bdT]
    omega

set_option maxHeartbeats 4000000 in
set_option maxRecDepth 100000 in
theorem bodyText_any (m : Nat) : ∀ (w : World) (v : Value) (l : List St), StsAt w m v l → stsW m l ≤ 1048576 → Tab w →
    Calls Tryz.prog 135 #[v] w fun e w' => e = .returned (.string (Lat.bdT m l)) ∧ Below w.heap.size w w' := by
  induction m with
  | zero => intro w v l h; exact False.elim h
  | succ m ih =>
    intro w v l h hw ht
    have HI := hide ih
    clear ih
    obtain ⟨a, b, off, cap, rfl, ha, hl, hel⟩ := h
    have HEL := hide hel
    have HA := hide ha
    have HT := hide ht
    have HW : Hid (∀ (i : Nat) (s : St), l[i]? = some s → stW m s ≤ 1048576) := hide (fun i y hy => by
      have : stW m y ≤ (l.map (stW m)).sum := mem_le_sum (List.mem_of_getElem? hy)
      rw [stsW_succ] at hw; omega)
    have HSZ : Hid (∀ j, j ≤ l.length → (Lat.bdTo (Lat.exT m) (Lat.bdT m) l j).size ≤ 6291456) := hide (fun j hj => by
      have h1 := bdTo_size (m := m) (l := l) (fun i s hs => by
        obtain ⟨_, _, e0, e1, e2, e3, va, vb, _, _, _, _, _, _, _, _, hx, ha, hb⟩ := hel i s hs
        exact ⟨exT_size hx, bdT_size ha, bdT_size hb⟩) j hj
      have h2 := sum_take_le (f := stW m) l j
      rw [stsW_succ] at hw; omega)
    have HE : Hid (Lat.bdT (m + 1) l = Lat.bdTo (Lat.exT m) (Lat.bdT m) l l.length) := rfl
    clear hel ha ht hw
    obtain ⟨len, hlen⟩ : ∃ len, len = l.length := ⟨_, rfl⟩
    have HL := hide hlen
    rw [← hlen] at hl HA HE HSZ ⊢
    clear hlen
    go_enter Tryz.func135, Tryz.ntmps135
    go_wp2_with fail
    go_loopw [3, 4] (fun o i wr => ∃ j : Nat, j ≤ len ∧ i = .int .i64 j ∧ o = .string (Lat.bdTo (Lat.exT m) (Lat.bdT m) l j) ∧ Below w.heap.size w wr) (fun _ i _ => len - (intOf i).toNat)
    case atStart => exact ⟨0, Nat.zero_le _, rfl, rfl, Below.refl _ _⟩
    case round =>
      obtain ⟨j, hj, rfl, rfl, hnx⟩ := hrel
      by_cases hjl : j < len
      · obtain ⟨y, hy⟩ : ∃ y, l[j]? = some y := ⟨_, List.getElem?_eq_getElem (by rw [← HL.out]; exact hjl)⟩
        obtain ⟨hsk, hsn, e0, e1, e2, e3, va, vb, g0, g1, g2, g3, g4, g5, g6, g7, hxe, hsa, hsb⟩ := HEL.out j y hy
        obtain rfl := HA.out (by omega)
        have hyw := HW.out j y hy
        have hacc := HSZ.out j (by omega)
        have HST := hide (bdTo_succ (et := Lat.exT m) (bt := Lat.bdT m) hy)
        have s1 := exT_size hxe
        have s2 := bdT_size hsa
        have s3 := bdT_size hsb
        obtain ⟨k, sn, se, sa, sb⟩ := y
        simp only at hsk hsn g0 g1 hxe hsa hsb s1 s2 s3 HST
        have hye : exW m se ≤ 1048576 := by unfold stW at hyw; simp only at hyw; omega
        have hya : stsW m sa ≤ 1048576 := by unfold stW at hyw; simp only at hyw; omega
        have hyb : stsW m sb ≤ 1048576 := by unfold stW at hyw; simp only at hyw; omega
        have hyn : sn.size ≤ 1048576 := by unfold stW at hyw; simp only at hyw; omega
        have s1' : (Lat.exT m se).size ≤ 6291456 := by omega
        have s2' : (Lat.bdT m sa).size ≤ 6291456 := by omega
        have s3' : (Lat.bdT m sb).size ≤ 6291456 := by omega
        have HX := hide hxe
        have HSA := hide hsa
        have HSB := hide hsb
        clear hxe hsa hsb hy s1 s2 s3 hyw
        have u0 := cellUp g0 hnx
        have u1 := cellUp g1 hnx
        have u2' := cellUp g2 hnx
        have u3' : wr.cell? ⟨b, off + j * 8 + 2 + 1, none⟩ = some e1 := cellUp g3 hnx
        have u4' : wr.cell? ⟨b, off + j * 8 + 2 + 2, none⟩ = some e2 := cellUp g4 hnx
        have u5' : wr.cell? ⟨b, off + j * 8 + 2 + 3, none⟩ = some e3 := cellUp g5 hnx
        have u6' := cellUp g6 hnx
        have u7' := cellUp g7 hnx
        have HNX := hide hnx
        clear g0 g1 g2 g3 g4 g5 g6 g7 hnx
        generalize hac : Lat.bdTo (Lat.exT m) (Lat.bdT m) l j = acc at *
        have HAC := hide hac
        clear hac
        by_cases hj0 : 0 < j
        · rw [if_pos hj0] at HST
          go_wp2_with fail
          refine (exprText_any m _ e0 e1 e2 e3 se (HX.out.below HNX.out) hye (HT.out.below HNX.out)).mono ?_
          rintro e w5 ⟨rfl, hb5⟩
          replace u0 := cellUp u0 hb5
          replace u1 := cellUp u1 hb5
          replace u6' := cellUp u6' hb5
          replace u7' := cellUp u7' hb5
          have HN := hide (up HNX.out hb5)
          clear hb5 HNX u2' u3' u4' u5'
          generalize hac2 : acc ++ (⟨#[32]⟩ : ByteArray) = acc2 at *
          have hacc2 : acc2.size ≤ 6291457 := by rw [← hac2, ByteArray.size_append]; show acc.size + 1 ≤ _; omega
          clear hac2
          generalize hte : Lat.exT m se = te at *
          have HTE := hide hte
          clear hte
          by_cases k1 : k = 1
          · subst k1
            go_wp2_with fail
            go_roundw
            case rel => exact ⟨j + 1, by omega, by go_num, val_str (by rw [HST.out]; simp [Lat.stT, HTE.out]), HN.out⟩
            case measure => simp [intOf]; omega
          by_cases k4 : k = 4
          · subst k4
            go_wp2_with fail
            go_roundw
            case rel => exact ⟨j + 1, by omega, by go_num, val_str (by rw [HST.out]; simp [Lat.stT, HTE.out]), HN.out⟩
            case measure => simp [intOf]; omega
          by_cases k3 : k = 3
          · subst k3
            go_wp2_with fail
            refine (HI.out _ va sa (HSA.out.below HN.out) hya (HT.out.below HN.out)).mono ?_
            rintro e w6 ⟨rfl, hb6⟩
            have HN6 := hide (up HN.out hb6)
            clear hb6 HN
            generalize hta : Lat.bdT m sa = ta at *
            have HTA := hide hta
            clear hta
            go_wp2_with fail
            go_roundw
            case rel => exact ⟨j + 1, by omega, by go_num, val_str (by rw [HST.out]; simp [Lat.stT, HTE.out, HTA.out]), HN6.out⟩
            case measure => simp [intOf]; omega
          by_cases k2 : k = 2
          · subst k2
            have HF : Hid (∀ wx, Hid (Below w5.heap.size w5 wx) → Hid (Below w5.heap.size w5 wx) ∧ wx.cell? ⟨b, off + j * 8 + 6, none⟩ = some va ∧ wx.cell? ⟨b, off + j * 8 + 7, none⟩ = some vb) :=
              fun wx h => ⟨h, cellUp u6' h.out, cellUp u7' h.out⟩
            have H00 : Hid (Below w5.heap.size w5 w5) := hide (Below.refl _ _)
            have b1 : (0 : Int) ≤ (j : Int) := by omega
            have b2 : (j : Int) < (len : Int) := by omega
            generalize hta : Lat.bdT m sa = ta at *
            have HTA := hide hta
            clear hta
            generalize htb : Lat.bdT m sb = tb at *
            have HTB := hide htb
            clear htb u6' u7'
            have q1 : ¬ (9223372036854775807 < 4 + te.size) := by omega
            have q2 : ¬ (9223372036854775807 < 4 + te.size + 2) := by omega
            have q3 : ¬ (9223372036854775807 < 4 + te.size + 2 + ta.size) := by omega
            have q4 : ¬ (9223372036854775807 < 4 + te.size + 2 + ta.size + 3) := by omega
            have q5 : ¬ (9223372036854775807 < 4 + te.size + 2 + ta.size + 3 + tb.size) := by omega
            have q6 : ¬ (9223372036854775807 < 4 + te.size + 2 + ta.size + 3 + tb.size + 2) := by omega
            have q7 : ¬ (9223372036854775807 < acc2.size + (4 + te.size + 2 + ta.size + 3 + tb.size + 2)) := by omega
            go_wp2_with fail
            go_region_held3 (fun wx => Hid (Below w5.heap.size w5 wx) ∧ wx.cell? ⟨b, off + j * 8 + 6, none⟩ = some va ∧ wx.cell? ⟨b, off + j * 8 + 7, none⟩ = some vb)
              (first | exact HF.out _ HW31 | exact HF.out _ HW30 | exact HF.out _ (hide H00.out.drew))
              (first
                | (go_at_call_of 135 (va); refine (HI.out _ va sa ?_ hya ?_).mono ?_; (exact HSA.out.below (up HN.out H00.out.drew)); (exact HT.out.below (up HN.out H00.out.drew)); rintro e w30 ⟨rfl, hb30⟩; have HW30 := hide (up H00.out.drew hb30); clear hb30; rw [HTA.out])
                | (go_at_call_of 135 (vb); refine (HI.out _ vb sb ?_ hyb ?_).mono ?_; (exact HSB.out.below (up HN.out HW30.out)); (exact HT.out.below (up HN.out HW30.out)); rintro e w31 ⟨rfl, hb31⟩; have HW31 := hide (up HW30.out hb31); clear hb31; rw [HTB.out]))
            all_goals
              go_wp2_with fail
              go_roundw
              case rel => exact ⟨j + 1, by omega, by go_num, val_str (by rw [HST.out]; simp [Lat.stT, HTE.out, HTA.out, HTB.out]), up HN.out HW31.out⟩
              case measure => simp [intOf]; omega
          have k1' : (k == 1) = false := by simp [k1]
          have k2' : (k == 2) = false := by simp [k2]
          have k3' : (k == 3) = false := by simp [k3]
          have k4' : (k == 4) = false := by simp [k4]
          have HO := hide (show Lat.stT (Lat.exT m) (Lat.bdT m) ⟨k, sn, se, sa, sb⟩ acc2 = acc2 by simp [Lat.stT, k1, k2, k3, k4])
          clear k1 k2 k3 k4
          go_wp2_with fail
          go_roundw
          case rel => exact ⟨j + 1, by omega, by go_num, val_str (by rw [HST.out, HO.out]), HN.out⟩
          case measure => simp [intOf]; omega
        · rw [if_neg hj0] at HST
          go_wp2_with fail
          refine (exprText_any m _ e0 e1 e2 e3 se (HX.out.below HNX.out) hye (HT.out.below HNX.out)).mono ?_
          rintro e w5 ⟨rfl, hb5⟩
          replace u0 := cellUp u0 hb5
          replace u1 := cellUp u1 hb5
          replace u6' := cellUp u6' hb5
          replace u7' := cellUp u7' hb5
          have HN := hide (up HNX.out hb5)
          clear hb5 HNX u2' u3' u4' u5'
          generalize hte : Lat.exT m se = te at *
          have HTE := hide hte
          clear hte
          by_cases k1 : k = 1
          · subst k1
            go_wp2_with fail
            go_roundw
            case rel => exact ⟨j + 1, by omega, by go_num, val_str (by rw [HST.out]; simp [Lat.stT, HTE.out]), HN.out⟩
            case measure => simp [intOf]; omega
          by_cases k4 : k = 4
          · subst k4
            go_wp2_with fail
            go_roundw
            case rel => exact ⟨j + 1, by omega, by go_num, val_str (by rw [HST.out]; simp [Lat.stT, HTE.out]), HN.out⟩
            case measure => simp [intOf]; omega
          by_cases k3 : k = 3
          · subst k3
            go_wp2_with fail
            refine (HI.out _ va sa (HSA.out.below HN.out) hya (HT.out.below HN.out)).mono ?_
            rintro e w6 ⟨rfl, hb6⟩
            have HN6 := hide (up HN.out hb6)
            clear hb6 HN
            generalize hta : Lat.bdT m sa = ta at *
            have HTA := hide hta
            clear hta
            go_wp2_with fail
            go_roundw
            case rel => exact ⟨j + 1, by omega, by go_num, val_str (by rw [HST.out]; simp [Lat.stT, HTE.out, HTA.out]), HN6.out⟩
            case measure => simp [intOf]; omega
          by_cases k2 : k = 2
          · subst k2
            have HF : Hid (∀ wx, Hid (Below w5.heap.size w5 wx) → Hid (Below w5.heap.size w5 wx) ∧ wx.cell? ⟨b, off + j * 8 + 6, none⟩ = some va ∧ wx.cell? ⟨b, off + j * 8 + 7, none⟩ = some vb) :=
              fun wx h => ⟨h, cellUp u6' h.out, cellUp u7' h.out⟩
            have H00 : Hid (Below w5.heap.size w5 w5) := hide (Below.refl _ _)
            have b1 : (0 : Int) ≤ (j : Int) := by omega
            have b2 : (j : Int) < (len : Int) := by omega
            generalize hta : Lat.bdT m sa = ta at *
            have HTA := hide hta
            clear hta
            generalize htb : Lat.bdT m sb = tb at *
            have HTB := hide htb
            clear htb u6' u7'
            have q1 : ¬ (9223372036854775807 < 4 + te.size) := by omega
            have q2 : ¬ (9223372036854775807 < 4 + te.size + 2) := by omega
            have q3 : ¬ (9223372036854775807 < 4 + te.size + 2 + ta.size) := by omega
            have q4 : ¬ (9223372036854775807 < 4 + te.size + 2 + ta.size + 3) := by omega
            have q5 : ¬ (9223372036854775807 < 4 + te.size + 2 + ta.size + 3 + tb.size) := by omega
            have q6 : ¬ (9223372036854775807 < 4 + te.size + 2 + ta.size + 3 + tb.size + 2) := by omega
            have q7 : ¬ (9223372036854775807 < acc.size + (4 + te.size + 2 + ta.size + 3 + tb.size + 2)) := by omega
            go_wp2_with fail
            go_region_held3 (fun wx => Hid (Below w5.heap.size w5 wx) ∧ wx.cell? ⟨b, off + j * 8 + 6, none⟩ = some va ∧ wx.cell? ⟨b, off + j * 8 + 7, none⟩ = some vb)
              (first | exact HF.out _ HW31 | exact HF.out _ HW30 | exact HF.out _ (hide H00.out.drew))
              (first
                | (go_at_call_of 135 (va); refine (HI.out _ va sa ?_ hya ?_).mono ?_; (exact HSA.out.below (up HN.out H00.out.drew)); (exact HT.out.below (up HN.out H00.out.drew)); rintro e w30 ⟨rfl, hb30⟩; have HW30 := hide (up H00.out.drew hb30); clear hb30; rw [HTA.out])
                | (go_at_call_of 135 (vb); refine (HI.out _ vb sb ?_ hyb ?_).mono ?_; (exact HSB.out.below (up HN.out HW30.out)); (exact HT.out.below (up HN.out HW30.out)); rintro e w31 ⟨rfl, hb31⟩; have HW31 := hide (up HW30.out hb31); clear hb31; rw [HTB.out]))
            all_goals
              go_wp2_with fail
              go_roundw
              case rel => exact ⟨j + 1, by omega, by go_num, val_str (by rw [HST.out]; simp [Lat.stT, HTE.out, HTA.out, HTB.out]), up HN.out HW31.out⟩
              case measure => simp [intOf]; omega
          have k1' : (k == 1) = false := by simp [k1]
          have k2' : (k == 2) = false := by simp [k2]
          have k3' : (k == 3) = false := by simp [k3]
          have k4' : (k == 4) = false := by simp [k4]
          have HO := hide (show Lat.stT (Lat.exT m) (Lat.bdT m) ⟨k, sn, se, sa, sb⟩ acc = acc by simp [Lat.stT, k1, k2, k3, k4])
          clear k1 k2 k3 k4
          go_wp2_with fail
          go_roundw
          case rel => exact ⟨j + 1, by omega, by go_num, val_str (by rw [HST.out, HO.out]), HN.out⟩
          case measure => simp [intOf]; omega
      · go_wp2_with fail
        go_ret
        have e : j = len := by omega
        exact ⟨ret_str (by rw [HE.out, e]), hnx⟩

end Go.Proofs.YtbncnkfogkhoeaaGreatDoor

/- The text of a module, as plain data, and how long it is. -/
namespace Go.Proofs.YtbncnkfogkhoeaaGreatDoor
open Go.RowKit

namespace Lat
def impT (acc s : ByteArray) : ByteArray := acc ++ ((⟨#[32, 40, 105, 109, 112, 111, 114, 116, 32]⟩ : ByteArray) ++ s ++ (⟨#[41]⟩ : ByteArray))
def vaT (acc : ByteArray) (v : Va) : ByteArray := acc ++ ((⟨#[32, 40, 118, 97, 114, 32]⟩ : ByteArray) ++ v.name ++ (⟨#[32]⟩ : ByteArray) ++ v.level ++ (⟨#[41]⟩ : ByteArray))
def parTo (l : List ByteArray) (acc : ByteArray) : Nat → ByteArray
  | 0 => acc
  | j + 1 => (if 0 < j then parTo l acc j ++ (⟨#[32]⟩ : ByteArray) else parTo l acc j) ++ l.getD j ByteArray.empty
def fuH (acc : ByteArray) (f : Fu) : ByteArray := acc ++ ((⟨#[32, 40, 102, 117, 110, 32]⟩ : ByteArray) ++ f.name ++ (⟨#[32, 40]⟩ : ByteArray))
def fuP (acc : ByteArray) (f : Fu) : ByteArray := parTo f.params (fuH acc f) f.params.length ++ (⟨#[41]⟩ : ByteArray)
def fuB (m : Nat) (acc : ByteArray) (f : Fu) : ByteArray := if 0 < f.body.length then fuP acc f ++ ((⟨#[32]⟩ : ByteArray) ++ bdT m f.body) else fuP acc f
def fuT (m : Nat) (acc : ByteArray) (f : Fu) : ByteArray := fuB m acc f ++ ((⟨#[32]⟩ : ByteArray) ++ exT m f.result ++ (⟨#[41]⟩ : ByteArray))
def moH (x : Mo) : ByteArray := (⟨#[40, 109, 111, 100, 117, 108, 101, 32]⟩ : ByteArray) ++ x.name
def moI (x : Mo) : ByteArray := x.imports.foldl impT (moH x)
def moV (x : Mo) : ByteArray := x.vars.foldl vaT (moI x)
def moF (m : Nat) (x : Mo) : ByteArray := x.funs.foldl (fuT m) (moV x)
/-- The text of a module. -/
def moT (m : Nat) (x : Mo) : ByteArray := moF m x ++ (⟨#[41]⟩ : ByteArray)
end Lat

section
variable {α : Type} {f : ByteArray → α → ByteArray} {wt : α → Nat}
theorem foldg_take {l : List α} {j : Nat} {y : α} (h : l[j]? = some y) (acc : ByteArray) : (l.take (j + 1)).foldl f acc = f ((l.take j).foldl f acc) y := by
  obtain ⟨hj, rfl⟩ := List.getElem?_eq_some_iff.1 h
  rw [List.take_succ_eq_append_getElem hj, List.foldl_append]; rfl
theorem sumg_take (l : List α) (j : Nat) : ((l.take j).map wt).sum ≤ (l.map wt).sum := by
  conv => rhs; rw [← List.take_append_drop j l]
  rw [List.map_append, List.sum_append]; omega
theorem foldg_size {l : List α} (h : ∀ (i : Nat) (y : α), l[i]? = some y → ∀ acc, (f acc y).size ≤ acc.size + 12 * wt y) (acc : ByteArray) :
    ∀ j, j ≤ l.length → ((l.take j).foldl f acc).size ≤ acc.size + 12 * ((l.take j).map wt).sum
  | 0, _ => by simp
  | j + 1, hj => by
    have ih := foldg_size h acc j (by omega)
    obtain ⟨y, hy⟩ : ∃ y, l[j]? = some y := ⟨_, List.getElem?_eq_getElem (by omega)⟩
    rw [foldg_take hy]
    have h1 := h j y hy ((l.take j).foldl f acc)
    have h2 : ((l.take (j + 1)).map wt).sum = ((l.take j).map wt).sum + wt y := by
      obtain ⟨hj', rfl⟩ := List.getElem?_eq_some_iff.1 hy
      rw [List.take_succ_eq_append_getElem hj', List.map_append, List.sum_append]; simp
    omega
theorem foldg_all {l : List α} (h : ∀ (i : Nat) (y : α), l[i]? = some y → ∀ acc, (f acc y).size ≤ acc.size + 12 * wt y) (acc : ByteArray) (j : Nat) (hj : j ≤ l.length) :
    ((l.take j).foldl f acc).size ≤ acc.size + 12 * (l.map wt).sum := by
  have h1 := foldg_size h acc j hj
  have h2 := sumg_take (wt := wt) l j
  omega
end

theorem impT_size (acc s : ByteArray) : (Lat.impT acc s).size ≤ acc.size + 12 * (s.size + 1) := by
  unfold Lat.impT
  simp only [ByteArray.size_append]
  show acc.size + (9 + s.size + 1) ≤ _
  omega
theorem vaT_size (acc : ByteArray) (s : Va) : (Lat.vaT acc s).size ≤ acc.size + 12 * (s.name.size + s.level.size + 3) := by
  unfold Lat.vaT
  simp only [ByteArray.size_append]
  show acc.size + (6 + s.name.size + 1 + s.level.size + 1) ≤ _
  omega
theorem getD_size (l : List ByteArray) (j : Nat) : (l.getD j ByteArray.empty).size ≤ (l.map fun s => s.size + 1).sum := by
  by_cases h : j < l.length
  · have e : l.getD j ByteArray.empty = l[j] := by simp [h]
    rw [e]
    have := mem_le_sum (f := fun s : ByteArray => s.size + 1) (List.getElem_mem h)
    omega
  · have e : l.getD j ByteArray.empty = ByteArray.empty := by simp [List.getD, List.getElem?_eq_none (Nat.le_of_not_lt h)]
    rw [e]; exact Nat.zero_le _
theorem parTo_size (l : List ByteArray) (acc : ByteArray) : ∀ j, j ≤ l.length → (Lat.parTo l acc j).size ≤ acc.size + ((l.take j).map fun s => s.size + 1).sum
  | 0, _ => by simp [Lat.parTo]
  | j + 1, hj => by
    have ih := parTo_size l acc j (by omega)
    have h2 : ((l.take (j + 1)).map fun s => s.size + 1).sum = ((l.take j).map fun s => s.size + 1).sum + ((l.getD j ByteArray.empty).size + 1) := by
      rw [List.take_succ_eq_append_getElem (by omega), List.map_append, List.sum_append]
      simp [show j < l.length by omega]
    have e1 : (⟨#[32]⟩ : ByteArray).size = 1 := rfl
    simp only [Lat.parTo]
    split <;> simp only [ByteArray.size_append, e1] <;> omega
theorem parTo_all (l : List ByteArray) (acc : ByteArray) (j : Nat) (hj : j ≤ l.length) : (Lat.parTo l acc j).size ≤ acc.size + (l.map fun s => s.size + 1).sum := by
  have h1 := parTo_size l acc j hj
  have h2 := sumg_take (wt := fun s : ByteArray => s.size + 1) l j
  omega
/-- What one function weighs. -/
def fuW (m : Nat) (s : Fu) : Nat := s.name.size + 2 + strsW s.params + stsW m s.body + exW m s.result
theorem fusW_eq (m : Nat) (l : List Fu) : fusW m l = (l.map (fuW m)).sum + 1 := rfl
theorem fuH_size (acc : ByteArray) (f : Fu) : (Lat.fuH acc f).size = acc.size + (f.name.size + 8) := by
  unfold Lat.fuH
  simp only [ByteArray.size_append]
  show acc.size + (6 + f.name.size + 2) = _
  omega
theorem fuP_size (acc : ByteArray) (f : Fu) : (Lat.fuP acc f).size ≤ acc.size + (f.name.size + 8 + strsW f.params) := by
  unfold Lat.fuP
  have h := parTo_all f.params (Lat.fuH acc f) f.params.length (Nat.le_refl _)
  rw [fuH_size] at h
  rw [ByteArray.size_append]
  show _ + 1 ≤ _
  unfold strsW
  omega
theorem fuT_size {w : World} {m : Nat} {f : Fu} {vb e0 e1 e2 e3 : Value} (hb : StsAt w m vb f.body) (hx : ExAt w m e0 e1 e2 e3 f.result) (acc : ByteArray) : (Lat.fuT m acc f).size ≤ acc.size + 12 * fuW m f := by
  have h1 := fuP_size acc f
  have h2 := bdT_size hb
  have h3 := exT_size hx
  have e1 : (⟨#[32]⟩ : ByteArray).size = 1 := rfl
  have e2 : (⟨#[41]⟩ : ByteArray).size = 1 := rfl
  unfold Lat.fuT Lat.fuB fuW
  split <;> simp only [ByteArray.size_append, e1, e2] <;> omega
theorem moH_size (x : Mo) : (Lat.moH x).size = 8 + x.name.size := by
  unfold Lat.moH; rw [ByteArray.size_append]; rfl

theorem boxM0 (w : World) (c0 c1 c2 c3 : Value) (t : TypeId) : (w.alloc (.cells #[c0, c1, c2, c3] t)).cell? ⟨w.heap.size, 0, none⟩ = some c0 := by simp [go_sem]
theorem boxM1 (w : World) (c0 c1 c2 c3 : Value) (t : TypeId) : (w.alloc (.cells #[c0, c1, c2, c3] t)).cell? ⟨w.heap.size, 1, none⟩ = some c1 := by simp [go_sem]
theorem boxM2 (w : World) (c0 c1 c2 c3 : Value) (t : TypeId) : (w.alloc (.cells #[c0, c1, c2, c3] t)).cell? ⟨w.heap.size, 2, none⟩ = some c2 := by simp [go_sem]
theorem boxM3 (w : World) (c0 c1 c2 c3 : Value) (t : TypeId) : (w.alloc (.cells #[c0, c1, c2, c3] t)).cell? ⟨w.heap.size, 3, none⟩ = some c3 := by simp [go_sem]

end Go.Proofs.YtbncnkfogkhoeaaGreatDoor

/- Walks over package downref: Text answers the text of a module. -/
namespace Go.Proofs.YtbncnkfogkhoeaaGreatDoor
open Go.RowKit

theorem boxF0 (w : World) (c0 c1 c2 c3 c4 c5 c6 : Value) (t : TypeId) : (w.alloc (.cells #[c0, c1, c2, c3, c4, c5, c6] t)).cell? ⟨w.heap.size, 0, none⟩ = some c0 := by simp [go_sem]
theorem boxF1 (w : World) (c0 c1 c2 c3 c4 c5 c6 : Value) (t : TypeId) : (w.alloc (.cells #[c0, c1, c2, c3, c4, c5, c6] t)).cell? ⟨w.heap.size, 1, none⟩ = some c1 := by simp [go_sem]
theorem boxF2 (w : World) (c0 c1 c2 c3 c4 c5 c6 : Value) (t : TypeId) : (w.alloc (.cells #[c0, c1, c2, c3, c4, c5, c6] t)).cell? ⟨w.heap.size, 2, none⟩ = some c2 := by simp [go_sem]
theorem boxF3 (w : World) (c0 c1 c2 c3 c4 c5 c6 : Value) (t : TypeId) : (w.alloc (.cells #[c0, c1, c2, c3, c4, c5, c6] t)).cell? ⟨w.heap.size, 3, none⟩ = some c3 := by simp [go_sem]
theorem boxF4 (w : World) (c0 c1 c2 c3 c4 c5 c6 : Value) (t : TypeId) : (w.alloc (.cells #[c0, c1, c2, c3, c4, c5, c6] t)).cell? ⟨w.heap.size, 4, none⟩ = some c4 := by simp [go_sem]
theorem boxF5 (w : World) (c0 c1 c2 c3 c4 c5 c6 : Value) (t : TypeId) : (w.alloc (.cells #[c0, c1, c2, c3, c4, c5, c6] t)).cell? ⟨w.heap.size, 5, none⟩ = some c5 := by simp [go_sem]
theorem boxF6 (w : World) (c0 c1 c2 c3 c4 c5 c6 : Value) (t : TypeId) : (w.alloc (.cells #[c0, c1, c2, c3, c4, c5, c6] t)).cell? ⟨w.heap.size, 6, none⟩ = some c6 := by simp [go_sem]

theorem parTo_succ (l : List ByteArray) (acc : ByteArray) (j : Nat) : Lat.parTo l acc (j + 1) = (if 0 < j then Lat.parTo l acc j ++ (⟨#[32]⟩ : ByteArray) else Lat.parTo l acc j) ++ l.getD j ByteArray.empty := rfl
theorem take_all {α : Type} {f : ByteArray → α → ByteArray} {l : List α} {acc : ByteArray} {n j : Nat} (h : n = l.length) (e : j = n) : (l.take j).foldl f acc = l.foldl f acc := by
  rw [List.take_of_length_le (by omega)]

set_option maxHeartbeats 8000000 in
set_option maxRecDepth 100000 in
theorem text_any (m : Nat) (w : World) (v : Value) (x : Mo) (h : MoAt w m v x) (hw : moW m x ≤ 1048576) (ht : Tab w) :
    Calls Tryz.prog 86 #[v] w fun e w' => e = .returned (.string (Lat.moT m x)) ∧ Below w.heap.size w w' := by
  obtain ⟨vi, vv, vf, rfl, hnm, hI, hV, hF⟩ := h
  have hwm : x.name.size + 2 + strsW x.imports + vasW x.vars + fusW m x.funs ≤ 1048576 := hw
  clear hw
  have hnz : x.name.size ≤ 1048576 := by omega
  have HI1 : Hid (∀ j, j ≤ x.imports.length → ((x.imports.take j).foldl Lat.impT (Lat.moH x)).size ≤ 12582920) := hide (fun j hj => by
    have := foldg_all (f := Lat.impT) (wt := fun s : ByteArray => s.size + 1) (l := x.imports) (fun i y _ acc => impT_size acc y) (Lat.moH x) j hj
    rw [moH_size] at this
    unfold strsW at hwm; omega)
  have HI2 : Hid (∀ j, (x.imports.getD j ByteArray.empty).size ≤ 1048576) := hide (fun j => by
    have := getD_size x.imports j
    unfold strsW at hwm; omega)
  have hIs : (Lat.moI x).size ≤ 8 + x.name.size + 12 * strsW x.imports := by
    have := foldg_all (f := Lat.impT) (wt := fun s : ByteArray => s.size + 1) (l := x.imports) (fun i y _ acc => impT_size acc y) (Lat.moH x) x.imports.length (Nat.le_refl _)
    rw [moH_size, List.take_length] at this
    unfold strsW Lat.moI; omega
  have HV1 : Hid (∀ j, j ≤ x.vars.length → ((x.vars.take j).foldl Lat.vaT (Lat.moI x)).size ≤ 12582920) := hide (fun j hj => by
    have := foldg_all (f := Lat.vaT) (wt := fun s : Va => s.name.size + s.level.size + 3) (l := x.vars) (fun i y _ acc => vaT_size acc y) (Lat.moI x) j hj
    unfold vasW at hwm; omega)
  have HV2 : Hid (∀ (j : Nat) (y : Va), x.vars[j]? = some y → y.name.size ≤ 1048576 ∧ y.level.size ≤ 1048576) := hide (fun j y hy => by
    have := mem_le_sum (f := fun s : Va => s.name.size + s.level.size + 3) (List.mem_of_getElem? hy)
    unfold vasW at hwm; omega)
  have hVs : (Lat.moV x).size ≤ 8 + x.name.size + 12 * strsW x.imports + 12 * vasW x.vars := by
    have := foldg_all (f := Lat.vaT) (wt := fun s : Va => s.name.size + s.level.size + 3) (l := x.vars) (fun i y _ acc => vaT_size acc y) (Lat.moI x) x.vars.length (Nat.le_refl _)
    rw [List.take_length] at this
    have e : (x.vars.foldl Lat.vaT (Lat.moI x)) = Lat.moV x := rfl
    rw [e] at this
    unfold vasW; omega
  have HF2 : Hid (∀ (j : Nat) (y : Fu), x.funs[j]? = some y → fuW m y ≤ 1048576) := hide (fun j y hy => by
    have := mem_le_sum (f := fuW m) (List.mem_of_getElem? hy)
    rw [fusW_eq] at hwm; omega)
  have HF1 : Hid (∀ j, j ≤ x.funs.length → ((x.funs.take j).foldl (Lat.fuT m) (Lat.moV x)).size ≤ 12582920) := hide (fun j hj => by
    obtain ⟨a, b, off, cap, _, _, _, h9⟩ := hF
    have := foldg_all (f := Lat.fuT m) (wt := fuW m) (l := x.funs) (fun i y hy acc => by
      obtain ⟨_, vp, vb, e0, e1, e2, e3, _, _, _, _, _, _, _, _, hsb, hx⟩ := h9 i y hy
      exact fuT_size hsb hx acc) (Lat.moV x) j hj
    rw [fusW_eq] at hwm; omega)
  clear hIs hVs hwm
  obtain ⟨ai, bi, oi, ci, rfl, hai, hli, _, hci⟩ := hI
  obtain ⟨av, bv, ov, cv, rfl, hav, hlv, hcv⟩ := hV
  obtain ⟨af, bf, of, cf, rfl, haf, hlf, hcf⟩ := hF
  have HT := hide ht
  obtain ⟨xn, xi, xv, xf⟩ := x
  simp only at hnm hnz hai hli hci hav hlv hcv haf hlf hcf HI1 HI2 HV1 HV2 HF1 HF2 ⊢
  have HE : Hid (Lat.moT m ⟨xn, xi, xv, xf⟩ = xf.foldl (Lat.fuT m) (Lat.moV ⟨xn, xi, xv, xf⟩) ++ (⟨#[41]⟩ : ByteArray)) := rfl
  have HVE : Hid (Lat.moV ⟨xn, xi, xv, xf⟩ = xv.foldl Lat.vaT (Lat.moI ⟨xn, xi, xv, xf⟩)) := rfl
  have HIE : Hid (Lat.moI ⟨xn, xi, xv, xf⟩ = xi.foldl Lat.impT (Lat.moH ⟨xn, xi, xv, xf⟩)) := rfl
  have HHE : Hid (Lat.moH ⟨xn, xi, xv, xf⟩ = (⟨#[40, 109, 111, 100, 117, 108, 101, 32]⟩ : ByteArray) ++ xn) := rfl
  generalize Lat.moT m ⟨xn, xi, xv, xf⟩ = XT at *
  generalize Lat.moV ⟨xn, xi, xv, xf⟩ = XV at *
  generalize Lat.moI ⟨xn, xi, xv, xf⟩ = XI at *
  generalize Lat.moH ⟨xn, xi, xv, xf⟩ = XH at *
  have HAI := hide hai
  have HAV := hide hav
  have HAF := hide haf
  have HCI := hide hci
  have HCV := hide hcv
  have HCF := hide hcf
  obtain ⟨ni, hni⟩ : ∃ n, n = xi.length := ⟨_, rfl⟩
  obtain ⟨nv, hnv⟩ : ∃ n, n = xv.length := ⟨_, rfl⟩
  obtain ⟨nf, hnf⟩ : ∃ n, n = xf.length := ⟨_, rfl⟩
  have HNI := hide hni
  have HNV := hide hnv
  have HNF := hide hnf
  rw [← hni, ← hnv, ← hnf]
  rw [← hni] at hli HAI HCI HI1
  rw [← hnv] at hlv HAV HV1
  rw [← hnf] at hlf HAF HF1
  clear hai hav haf hci hcv hcf hni hnv hnf ht
  have q1 := boxM1 w (.string xn) (.slice ai ni ci) (.slice av nv cv) (.slice af nf cf) 26
  have q2 := boxM2 w (.string xn) (.slice ai ni ci) (.slice av nv cv) (.slice af nf cf) 26
  have q3 := boxM3 w (.string xn) (.slice ai ni ci) (.slice av nv cv) (.slice af nf cf) 26
  have HB0 := hide (boxBelow w (.cells #[.string xn, .slice ai ni ci, .slice av nv cv, .slice af nf cf] 26))
  go_enter Tryz.func86, Tryz.ntmps86
  go_wp2_with fail
  rw [← HHE.out]
  generalize w.alloc (.cells #[.string xn, .slice ai ni ci, .slice av nv cv, .slice af nf cf] 26) = W0 at *
  clear HHE hnm hnz
  -- the imports
  go_loopw [3, 4] (fun o i wr => ∃ j : Nat, j ≤ ni ∧ i = .int .i64 j ∧ o = .string ((xi.take j).foldl Lat.impT XH) ∧ Below W0.heap.size W0 wr) (fun _ i _ => ni - (intOf i).toNat)
  case atStart => exact ⟨0, Nat.zero_le _, rfl, rfl, Below.refl _ _⟩
  case round =>
    obtain ⟨j, hj, rfl, rfl, hnx⟩ := hrel
    have t1 := cellUp q1 hnx
    by_cases hjl : j < ni
    · have hacc := HI1.out j hj
      have hs := HI2.out j
      have hc := cellUp (HCI.out j hjl) (up HB0.out hnx)
      have hgd : xi[j]? = some (xi.getD j ByteArray.empty) := by
        have : j < xi.length := by have := HNI.out; omega
        simp [this]
      have HST := hide (foldg_take (f := Lat.impT) hgd XH)
      obtain rfl := HAI.out (by omega)
      generalize xi.getD j ByteArray.empty = s at *
      generalize (xi.take j).foldl Lat.impT XH = acc at *
      clear hgd q1 q2 q3
      have HNX := hide hnx
      clear hnx
      go_wp2_with fail
      go_roundw
      case rel => exact ⟨j + 1, by omega, by go_num, val_str (by rw [HST.out]; rfl), HNX.out⟩
      case measure => simp [intOf]; omega
    · have hjn : j = ni := by omega
      clear hj
      go_wp2_with fail
      rw [take_all HNI.out hjn, ← HIE.out]
      clear q1 t1 hjl hjn HIE
      have HB1 := hide (up HB0.out hnx)
      replace q2 := cellUp q2 hnx
      replace q3 := cellUp q3 hnx
      clear hnx HB0
      -- the variables
      go_loopw [3, 5] (fun o i wy => ∃ k : Nat, k ≤ nv ∧ i = .int .i64 k ∧ o = .string ((xv.take k).foldl Lat.vaT XI) ∧ Below wr.heap.size wr wy) (fun _ i _ => nv - (intOf i).toNat)
      case atStart => exact ⟨0, Nat.zero_le _, rfl, rfl, Below.refl _ _⟩
      case round =>
        obtain ⟨k, hk, rfl, rfl, hnx⟩ := hrel
        have t2 := cellUp q2 hnx
        by_cases hkl : k < nv
        · obtain ⟨y, hy⟩ : ∃ y, xv[k]? = some y := ⟨_, List.getElem?_eq_getElem (by rw [← HNV.out]; exact hkl)⟩
          have hacc := HV1.out k hk
          obtain ⟨hs1, hs2⟩ := HV2.out k y hy
          obtain ⟨_, _, g0, g1⟩ := HCV.out k y hy
          have HST := hide (foldg_take (f := Lat.vaT) hy XI)
          obtain rfl := HAV.out (by omega)
          obtain ⟨yn, yl⟩ := y
          simp only at hs1 hs2 g0 g1
          have u0 := cellUp g0 (up HB1.out hnx)
          have u1 := cellUp g1 (up HB1.out hnx)
          generalize (xv.take k).foldl Lat.vaT XI = acc at *
          have HNX := hide hnx
          have b1 : (0 : Int) ≤ (k : Int) := by omega
          have b2 : (k : Int) < (nv : Int) := by omega
          have c1 : ¬ (9223372036854775807 < 6 + yn.size) := by omega
          have c2 : ¬ (9223372036854775807 < 6 + yn.size + 1) := by omega
          have c3 : ¬ (9223372036854775807 < 6 + yn.size + 1 + yl.size) := by omega
          have c4 : ¬ (9223372036854775807 < 6 + yn.size + 1 + yl.size + 1) := by omega
          have c5 : ¬ (9223372036854775807 < acc.size + (6 + yn.size + 1 + yl.size + 1)) := by omega
          clear hy g0 g1 hnx q2 q3
          go_wp2_with fail
          go_quiet (fail)
          go_wp2_with fail
          go_roundw
          case rel => exact ⟨k + 1, by omega, by go_num, val_str (by rw [HST.out]; rfl), drewBelow HNX.out _⟩
          case measure => simp [intOf]; omega
        · have hkn : k = nv := by omega
          clear hk
          go_wp2_with fail
          rw [take_all HNV.out hkn, ← HVE.out]
          clear q2 t2 hkl hkn HVE
          have HB2 := hide (up HB1.out hnx)
          replace q3 := cellUp q3 hnx
          clear hnx HB1
          -- the functions
          go_loopw [3, 6] (fun o i wz => ∃ k : Nat, k ≤ nf ∧ i = .int .i64 k ∧ o = .string ((xf.take k).foldl (Lat.fuT m) XV) ∧ Below wr.heap.size wr wz) (fun _ i _ => nf - (intOf i).toNat)
          case atStart => exact ⟨0, Nat.zero_le _, rfl, rfl, Below.refl _ _⟩
          case round =>
            obtain ⟨i, hi, rfl, rfl, hnx⟩ := hrel
            have t3 := cellUp q3 hnx
            have hacc := HF1.out i hi
            by_cases hil : i < nf
            · obtain ⟨y, hy⟩ : ∃ y, xf[i]? = some y := ⟨_, List.getElem?_eq_getElem (by rw [← HNF.out]; exact hil)⟩
              have hfw := HF2.out i y hy
              obtain ⟨_, vp, vb, e0, e1, e2, e3, g0, g1, g2, g3, g4, g5, g6, hp, hsb, hx⟩ := HCF.out i y hy
              have HST := hide (foldg_take (f := Lat.fuT m) hy XV)
              obtain rfl := HAF.out (by omega)
              have s1 := bdT_size hsb
              have s2 := exT_size hx
              have hps := parTo_all y.params (Lat.fuH ((xf.take i).foldl (Lat.fuT m) XV) y)
              have hpd := getD_size y.params
              rw [fuH_size] at hps
              obtain ⟨yn, yp, yb, yr⟩ := y
              simp only at g0 hp hsb hx s1 s2 hps hpd
              have hfw' : yn.size + 2 + ((yp.map fun s => s.size + 1).sum + 1) + stsW m yb + exW m yr ≤ 1048576 := hfw
              clear hfw
              generalize (xf.take i).foldl (Lat.fuT m) XV = acc at *
              generalize (yp.map fun s => s.size + 1).sum = pw at *
              have hn : yn.size ≤ 1048576 := by omega
              have hyb : stsW m yb ≤ 1048576 := by omega
              have hyr : exW m yr ≤ 1048576 := by omega
              have s1' : (Lat.bdT m yb).size ≤ 6291456 := by omega
              have s2' : (Lat.exT m yr).size ≤ 6291456 := by omega
              have HPS : Hid (∀ j, j ≤ yp.length → (Lat.parTo yp (Lat.fuH acc ⟨yn, yp, yb, yr⟩) j).size ≤ 25165824) := hide (fun j hj => by have := hps j hj; omega)
              have HPD : Hid (∀ j, (yp.getD j ByteArray.empty).size ≤ 1048576) := hide (fun j => by have := hpd j; omega)
              have HFT : Hid (Lat.fuT m acc ⟨yn, yp, yb, yr⟩ = (if 0 < yb.length then Lat.fuP acc ⟨yn, yp, yb, yr⟩ ++ ((⟨#[32]⟩ : ByteArray) ++ Lat.bdT m yb) else Lat.fuP acc ⟨yn, yp, yb, yr⟩) ++ ((⟨#[32]⟩ : ByteArray) ++ Lat.exT m yr ++ (⟨#[41]⟩ : ByteArray))) := rfl
              have HFP : Hid (Lat.fuP acc ⟨yn, yp, yb, yr⟩ = Lat.parTo yp (Lat.fuH acc ⟨yn, yp, yb, yr⟩) yp.length ++ (⟨#[41]⟩ : ByteArray)) := rfl
              have HFH : Hid (Lat.fuH acc ⟨yn, yp, yb, yr⟩ = acc ++ ((⟨#[32, 40, 102, 117, 110, 32]⟩ : ByteArray) ++ yn ++ (⟨#[32, 40]⟩ : ByteArray))) := rfl
              generalize Lat.fuT m acc ⟨yn, yp, yb, yr⟩ = FT at *
              generalize Lat.fuP acc ⟨yn, yp, yb, yr⟩ = FP at *
              generalize Lat.fuH acc ⟨yn, yp, yb, yr⟩ = FH at *
              obtain ⟨ap, bp, op, cp, rfl, hap, hlp, _, hcp⟩ := hp
              have HSB := hide hsb
              have HX := hide hx
              obtain ⟨ab, cb, rfl, hlb⟩ := hsb.shape
              obtain ⟨xa, xc, rfl, rfl, rfl, rfl⟩ := hx.shape
              have HAP := hide hap
              have HCP := hide hcp
              obtain ⟨np, hnp⟩ : ∃ n, n = yp.length := ⟨_, rfl⟩
              obtain ⟨nb, hnb⟩ : ∃ n, n = yb.length := ⟨_, rfl⟩
              have HNP := hide hnp
              have HNB := hide hnb
              rw [← hnp] at g1 hlp HAP HCP HPS HFP
              rw [← hnb] at g2 hlb HSB HFT
              have hbb := up HB2.out hnx
              have u0 := cellUp g0 hbb
              have u1 := cellUp g1 hbb
              have u2 := cellUp g2 hbb
              have u3 := cellUp g3 hbb
              have u4 := cellUp g4 hbb
              have u5 := cellUp g5 hbb
              have u6 := cellUp g6 hbb
              have HNX := hide hnx
              have HBB := hide hbb
              clear hps hpd hap hcp hsb hx hnp hnb hy hfw' s1 s2 g0 g1 g2 g3 g4 g5 g6 hbb hnx q3
              have r1 := boxF1 wr (.string yn) (.slice ap np cp) (.slice ab nb cb) (.int .i64 yr.kind) (.int .i64 yr.n) (.string yr.name) (.slice xa yr.args.length xc) 87
              have r2 := boxF2 wr (.string yn) (.slice ap np cp) (.slice ab nb cb) (.int .i64 yr.kind) (.int .i64 yr.n) (.string yr.name) (.slice xa yr.args.length xc) 87
              have r3 := boxF3 wr (.string yn) (.slice ap np cp) (.slice ab nb cb) (.int .i64 yr.kind) (.int .i64 yr.n) (.string yr.name) (.slice xa yr.args.length xc) 87
              have r4 := boxF4 wr (.string yn) (.slice ap np cp) (.slice ab nb cb) (.int .i64 yr.kind) (.int .i64 yr.n) (.string yr.name) (.slice xa yr.args.length xc) 87
              have r5 := boxF5 wr (.string yn) (.slice ap np cp) (.slice ab nb cb) (.int .i64 yr.kind) (.int .i64 yr.n) (.string yr.name) (.slice xa yr.args.length xc) 87
              have r6 := boxF6 wr (.string yn) (.slice ap np cp) (.slice ab nb cb) (.int .i64 yr.kind) (.int .i64 yr.n) (.string yr.name) (.slice xa yr.args.length xc) 87
              have HB3 := hide (boxBelow wr (.cells #[.string yn, .slice ap np cp, .slice ab nb cb, .int .i64 yr.kind, .int .i64 yr.n, .string yr.name, .slice xa yr.args.length xc] 87))
              go_wp2_with fail
              rw [← HFH.out]
              generalize wr.alloc (.cells #[.string yn, .slice ap np cp, .slice ab nb cb, .int .i64 yr.kind, .int .i64 yr.n, .string yr.name, .slice xa yr.args.length xc] 87) = W3 at *
              clear u0 u1 u2 u3 u4 u5 u6 HFH
              -- the parameters
              go_loopw [3, 8] (fun o i wp => ∃ k : Nat, k ≤ np ∧ i = .int .i64 k ∧ o = .string (Lat.parTo yp FH k) ∧ Below W3.heap.size W3 wp) (fun _ i _ => np - (intOf i).toNat)
              case atStart => exact ⟨0, Nat.zero_le _, rfl, rfl, Below.refl _ _⟩
              case round =>
                obtain ⟨d, hd, rfl, rfl, hnx⟩ := hrel
                have t1 := cellUp r1 hnx
                have hpa := HPS.out d hd
                by_cases hdl : d < np
                · have hs := HPD.out d
                  have hc := cellUp (HCP.out d hdl) (up (up HBB.out HB3.out) hnx)
                  obtain rfl := HAP.out (by omega)
                  have HPT := hide (parTo_succ yp FH d)
                  generalize yp.getD d ByteArray.empty = s at *
                  generalize Lat.parTo yp FH d = pa at *
                  have HNX2 := hide hnx
                  clear r1 r2 r3 r4 r5 r6 hnx t3
                  by_cases hd0 : 0 < d
                  · rw [if_pos hd0] at HPT
                    go_wp2_with fail
                    go_roundw
                    case rel => exact ⟨d + 1, by omega, by go_num, val_str (by rw [HPT.out]), HNX2.out⟩
                    case measure => simp [intOf]; omega
                  · rw [if_neg hd0] at HPT
                    go_wp2_with fail
                    go_roundw
                    case rel => exact ⟨d + 1, by omega, by go_num, val_str (by rw [HPT.out]), HNX2.out⟩
                    case measure => simp [intOf]; omega
                · have hdn : d = np := by omega
                  subst hdn
                  replace r2 := cellUp r2 hnx
                  replace r3 := cellUp r3 hnx
                  replace r4 := cellUp r4 hnx
                  replace r5 := cellUp r5 hnx
                  replace r6 := cellUp r6 hnx
                  have HNX2 := hide hnx
                  clear r1 hnx t3
                  have hfp : FP.size ≤ 25165825 := by rw [HFP.out, ByteArray.size_append]; show _ + 1 ≤ _; omega
                  by_cases hb0 : 0 < nb
                  · rw [if_pos hb0] at HFT
                    go_wp2_with fail
                    rw [← HFP.out]
                    refine (bodyText_any m _ _ yb (HSB.out.below (up (up HBB.out HB3.out) HNX2.out)) hyb (HT.out.below (up (up HBB.out HB3.out) HNX2.out))).mono ?_
                    rintro e w5 ⟨rfl, hb5⟩
                    have HN5 := hide (up HNX2.out hb5)
                    replace r3 := cellUp r3 hb5
                    replace r4 := cellUp r4 hb5
                    replace r5 := cellUp r5 hb5
                    replace r6 := cellUp r6 hb5
                    clear r2 hb5
                    generalize Lat.bdT m yb = tb at *
                    go_wp2_with fail
                    refine (exprText_any m _ _ _ _ _ yr (HX.out.below (up (up HBB.out HB3.out) HN5.out)) hyr (HT.out.below (up (up HBB.out HB3.out) HN5.out))).mono ?_
                    rintro e w6 ⟨rfl, hb6⟩
                    have HN6 := hide (up HN5.out hb6)
                    clear hb6
                    generalize Lat.exT m yr = tx at *
                    go_wp2_with fail
                    go_roundw
                    case rel => exact ⟨i + 1, by omega, by go_num, val_str (by rw [HST.out, HFT.out]), up HNX.out (up HB3.out HN6.out)⟩
                    case measure => simp [intOf]; omega
                  · rw [if_neg hb0] at HFT
                    go_wp2_with fail
                    rw [← HFP.out]
                    refine (exprText_any m _ _ _ _ _ yr (HX.out.below (up (up HBB.out HB3.out) HNX2.out)) hyr (HT.out.below (up (up HBB.out HB3.out) HNX2.out))).mono ?_
                    rintro e w6 ⟨rfl, hb6⟩
                    have HN6 := hide (up HNX2.out hb6)
                    clear hb6
                    generalize Lat.exT m yr = tx at *
                    go_wp2_with fail
                    go_roundw
                    case rel => exact ⟨i + 1, by omega, by go_num, val_str (by rw [HST.out, HFT.out]), up HNX.out (up HB3.out HN6.out)⟩
                    case measure => simp [intOf]; omega
            · have HIN := hide (take_all (f := Lat.fuT m) (acc := XV) HNF.out (show i = nf by omega))
              generalize (xf.take i).foldl (Lat.fuT m) XV = acc at *
              go_wp2_with fail
              go_ret
              exact ⟨ret_str (by rw [HE.out, HIN.out]), up HB2.out hnx⟩
end Go.Proofs.YtbncnkfogkhoeaaGreatDoor

/- What the document answers of a module, as plain data. -/
namespace Go.Proofs.YtbncnkfogkhoeaaGreatDoor
open Go.RowKit

/-- A flag behind k things: it was b, and each of them holds. -/
def allTo {α : Type} (b : Bool) (p : α → Bool) (l : List α) (k : Nat) : Bool := b && (l.take k).all p
theorem allTo_zero {α : Type} (b : Bool) (p : α → Bool) (l : List α) : allTo b p l 0 = b := by simp [allTo]
theorem allTo_succ {α : Type} {b : Bool} {p : α → Bool} {l : List α} {k : Nat} {y : α} (h : l[k]? = some y) : allTo b p l (k + 1) = (allTo b p l k && p y) := by
  obtain ⟨hj, rfl⟩ := List.getElem?_eq_some_iff.1 h
  unfold allTo
  rw [List.take_succ_eq_append_getElem hj, List.all_append]
  simp [Bool.and_assoc]
theorem allTo_all {α : Type} {b : Bool} {p : α → Bool} {l : List α} {n k : Nat} (h : n = l.length) (e : k = n) : allTo b p l k = (b && l.all p) := by
  unfold allTo; rw [List.take_of_length_le (by omega)]

namespace Lat
def strB (s : ByteArray) : Bool := nameB s.data.toList
def vaB (v : Va) : Bool := strB v.name && strB v.level
def fuOk (m : Nat) (f : Fu) : Bool := strB f.name && bodyB m f.body && exprB m f.result && f.params.all strB
def fuE (m : Nat) (f : Fu) : Int := if 4 < f.params.length then 2 else if fuOk m f then 0 else 5
/-- The first function that may not be tells. -/
def fusE (m : Nat) : List Fu → Int
  | [] => 0
  | f :: l => if fuE m f = 0 then fusE m l else fuE m f
def step (b : UInt8) : Int := if b = 40 then 1 else if b = 41 then -1 else 0
/-- How many brackets are open behind the first j bytes. -/
def openTo (t : ByteArray) : Nat → Int
  | 0 => 0
  | j + 1 => openTo t j + step (t.data.getD j 0)
def deepB (t : ByteArray) : Bool := (List.range t.size).any fun j => decide (20 < openTo t (j + 1))
/-- What is told of a module. -/
def moE (m : Nat) (x : Mo) : Int :=
  if 8 < x.imports.length ∨ 8 < x.vars.length ∨ 8 < x.funs.length then 2
  else if ((strB x.name && x.imports.all strB) && x.vars.all vaB) = false then 5
  else if fusE m x.funs ≠ 0 then fusE m x.funs
  else if deepB (moT m x) then 2 else 0
end Lat

theorem fusE_at {m : Nat} : ∀ {l : List Fu} {k : Nat} {y : Fu}, (∀ (d : Nat) (z : Fu), d < k → l[d]? = some z → Lat.fuE m z = 0) → l[k]? = some y → Lat.fuE m y ≠ 0 → Lat.fusE m l = Lat.fuE m y
  | [], k, y, _, h, _ => by simp at h
  | f :: l, 0, y, _, h, h0 => by
    simp only [List.getElem?_cons_zero, Option.some.injEq] at h
    subst h
    simp only [Lat.fusE]; rw [if_neg h0]
  | f :: l, k + 1, y, ha, h, h0 => by
    have := ha 0 f (by omega) rfl
    simp only [Lat.fusE]; rw [if_pos this]
    exact fusE_at (k := k) (fun d z hd hz => ha (d + 1) z (by omega) (by simpa using hz)) (by simpa using h) h0
theorem fusE_zero {m : Nat} : ∀ {l : List Fu}, (∀ (d : Nat) (z : Fu), l[d]? = some z → Lat.fuE m z = 0) → Lat.fusE m l = 0
  | [], _ => rfl
  | f :: l, ha => by
    simp only [Lat.fusE]; rw [if_pos (ha 0 f rfl)]
    exact fusE_zero (fun d z hz => ha (d + 1) z (by simpa using hz))

theorem openTo_le (t : ByteArray) : ∀ j : Nat, -(j : Int) ≤ Lat.openTo t j ∧ Lat.openTo t j ≤ j
  | 0 => ⟨Int.le_refl _, Int.le_refl _⟩
  | j + 1 => by
    have := openTo_le t j
    simp only [Lat.openTo, Lat.step]
    split
    · omega
    · split <;> omega
theorem openTo_succ (t : ByteArray) (j : Nat) (h : j < t.size) : Lat.openTo t (j + 1) = Lat.openTo t j + Lat.step t[j] := by
  have e : t.data.getD j 0 = t[j] := by
    have : j < t.data.size := h
    unfold Array.getD; rw [dif_pos this]; rfl
  simp only [Lat.openTo, e]
theorem deepB_at {t : ByteArray} {j : Nat} (hj : j < t.size) (h : 20 < Lat.openTo t (j + 1)) : Lat.deepB t = true :=
  List.any_eq_true.2 ⟨j, List.mem_range.2 hj, decide_eq_true h⟩
theorem deepB_not {t : ByteArray} (h : ∀ j, j < t.size → ¬ 20 < Lat.openTo t (j + 1)) : Lat.deepB t = false := by
  unfold Lat.deepB; rw [List.any_eq_false]; intro j hj; simpa using h j (List.mem_range.1 hj)

theorem moT_size {w : World} {m : Nat} {v : Value} {x : Mo} (h : MoAt w m v x) (hw : moW m x ≤ 1048576) : (Lat.moT m x).size ≤ 12582920 := by
  obtain ⟨vi, vv, vf, rfl, hnm, hI, hV, hF⟩ := h
  have hwm : x.name.size + 2 + strsW x.imports + vasW x.vars + fusW m x.funs ≤ 1048576 := hw
  have h1 := foldg_all (f := Lat.impT) (wt := fun s : ByteArray => s.size + 1) (l := x.imports) (fun i y _ acc => impT_size acc y) (Lat.moH x) x.imports.length (Nat.le_refl _)
  rw [moH_size, List.take_length] at h1
  have h2 := foldg_all (f := Lat.vaT) (wt := fun s : Va => s.name.size + s.level.size + 3) (l := x.vars) (fun i y _ acc => vaT_size acc y) (Lat.moI x) x.vars.length (Nat.le_refl _)
  rw [List.take_length] at h2
  obtain ⟨a, b, off, cap, _, _, _, h9⟩ := hF
  have h3 := foldg_all (f := Lat.fuT m) (wt := fuW m) (l := x.funs) (fun i y hy acc => by
      obtain ⟨_, vp, vb, e0, e1, e2, e3, _, _, _, _, _, _, _, _, hsb, hx⟩ := h9 i y hy
      exact fuT_size hsb hx acc) (Lat.moV x) x.funs.length (Nat.le_refl _)
  rw [List.take_length] at h3
  have e1 : x.imports.foldl Lat.impT (Lat.moH x) = Lat.moI x := rfl
  have e2 : x.vars.foldl Lat.vaT (Lat.moI x) = Lat.moV x := rfl
  have e3 : x.funs.foldl (Lat.fuT m) (Lat.moV x) = Lat.moF m x := rfl
  rw [e1] at h1; rw [e2] at h2; rw [e3] at h3
  unfold Lat.moT
  rw [ByteArray.size_append]
  show _ + 1 ≤ _
  rw [fusW_eq] at hwm
  unfold strsW vasW at hwm
  omega

end Go.Proofs.YtbncnkfogkhoeaaGreatDoor

/- Walks over package downref: Module answers what the document says of a module. -/
namespace Go.Proofs.YtbncnkfogkhoeaaGreatDoor
open Go.RowKit

theorem byteEq (a c : UInt8) (n : Int) (h : (c.toNat : Int) = n) : ((a.toNat : Int) == n) = (a == c) := by
  rw [Bool.eq_iff_iff]; simp only [beq_iff_eq]
  constructor
  · intro e; exact UInt8.toNat_inj.1 (by omega)
  · intro e; subst e; exact h
theorem step3 (c : UInt8) : (((c.toNat : Int) == 40) = true ∧ ((c.toNat : Int) == 41) = false ∧ Lat.step c = 1) ∨ (((c.toNat : Int) == 40) = false ∧ ((c.toNat : Int) == 41) = true ∧ Lat.step c = -1) ∨
    (((c.toNat : Int) == 40) = false ∧ ((c.toNat : Int) == 41) = false ∧ Lat.step c = 0) := by
  rw [byteEq c 40 40 rfl, byteEq c 41 41 rfl]
  unfold Lat.step
  by_cases h : c = 40
  · subst h; exact Or.inl ⟨rfl, rfl, rfl⟩
  · by_cases h' : c = 41
    · subst h'; exact Or.inr (Or.inl ⟨rfl, rfl, rfl⟩)
    · refine Or.inr (Or.inr ⟨by simp [h], by simp [h'], by simp [h, h']⟩)

set_option maxHeartbeats 8000000 in
set_option maxRecDepth 100000 in
theorem rmodule_any (m : Nat) (w : World) (v : Value) (x : Mo) (h : MoAt w m v x) (hw : moW m x ≤ 1048576) (ht : Tab w) :
    Calls Tryz.prog 30 #[v] w fun e w' => e = .returned (.int .i64 (Lat.moE m x)) ∧ Below w.heap.size w w' := by
  have HM := hide h
  have HMW := hide hw
  have HMS := hide (moT_size h hw)
  obtain ⟨vi, vv, vf, rfl, hnm, hI, hV, hF⟩ := h
  clear hw
  obtain ⟨ai, bi, oi, ci, rfl, hai, hli, hsi, hci⟩ := hI
  obtain ⟨av, bv, ov, cv, rfl, hav, hlv, hcv⟩ := hV
  obtain ⟨af, bf, of, cf, rfl, haf, hlf, hcf⟩ := hF
  have HT := hide ht
  have HE : Hid (Lat.moE m x = if 8 < x.imports.length ∨ 8 < x.vars.length ∨ 8 < x.funs.length then 2
    else if ((Lat.strB x.name && x.imports.all Lat.strB) && x.vars.all Lat.vaB) = false then 5
    else if Lat.fusE m x.funs ≠ 0 then Lat.fusE m x.funs
    else if Lat.deepB (Lat.moT m x) then 2 else 0) := rfl
  generalize Lat.moE m x = XE at *
  obtain ⟨XT, hxt⟩ : ∃ t, t = Lat.moT m x := ⟨_, rfl⟩
  have HXT := hide hxt
  rw [← hxt] at HE HMS
  have hms := HMS.out
  clear hxt HMS
  obtain ⟨xn, xi, xv, xf⟩ := x
  simp only at hnm hai hli hsi hci hav hlv hcv haf hlf hcf HE HM ⊢
  have HSI := hide hsi
  have HAI := hide hai
  have HAV := hide hav
  have HAF := hide haf
  have HCI := hide hci
  have HCV := hide hcv
  have HCF := hide hcf
  obtain ⟨ni, hni⟩ : ∃ n, n = xi.length := ⟨_, rfl⟩
  obtain ⟨nv, hnv⟩ : ∃ n, n = xv.length := ⟨_, rfl⟩
  obtain ⟨nf, hnf⟩ : ∃ n, n = xf.length := ⟨_, rfl⟩
  have HNI := hide hni
  have HNV := hide hnv
  have HNF := hide hnf
  rw [← hni, ← hnv, ← hnf]
  rw [← hni, ← hnv, ← hnf] at HE HM
  rw [← hni] at hli HAI HCI
  rw [← hnv] at hlv HAV
  rw [← hnf] at hlf HAF
  clear hai hav haf hci hcv hcf hni hnv hnf ht hsi
  have q0 := boxM0 w (.string xn) (.slice ai ni ci) (.slice av nv cv) (.slice af nf cf) 26
  have q1 := boxM1 w (.string xn) (.slice ai ni ci) (.slice av nv cv) (.slice af nf cf) 26
  have q2 := boxM2 w (.string xn) (.slice ai ni ci) (.slice av nv cv) (.slice af nf cf) 26
  have q3 := boxM3 w (.string xn) (.slice ai ni ci) (.slice av nv cv) (.slice af nf cf) 26
  have HB0 := hide (boxBelow w (.cells #[.string xn, .slice ai ni ci, .slice av nv cv, .slice af nf cf] 26))
  by_cases h8 : 8 < ni ∨ 8 < nv ∨ 8 < nf
  · rw [if_pos h8] at HE
    by_cases i1 : 8 < ni
    · have i1' : (8 : Int) < (ni : Int) := by omega
      clear h8
      go_enter Tryz.func30, Tryz.ntmps30
      go_wp2_with fail
      go_ret
      exact ⟨ret_int HE.out.symm, HB0.out⟩
    · have i1' : ¬ (8 : Int) < (ni : Int) := by omega
      by_cases i2 : 8 < nv
      · have i2' : (8 : Int) < (nv : Int) := by omega
        clear h8
        go_enter Tryz.func30, Tryz.ntmps30
        go_wp2_with fail
        go_ret
        exact ⟨ret_int HE.out.symm, HB0.out⟩
      · have i2' : ¬ (8 : Int) < (nv : Int) := by omega
        have i3' : (8 : Int) < (nf : Int) := by omega
        clear h8
        go_enter Tryz.func30, Tryz.ntmps30
        go_wp2_with fail
        go_ret
        exact ⟨ret_int HE.out.symm, HB0.out⟩
  rw [if_neg h8] at HE
  have i1' : ¬ (8 : Int) < (ni : Int) := by omega
  have i2' : ¬ (8 : Int) < (nv : Int) := by omega
  have i3' : ¬ (8 : Int) < (nf : Int) := by omega
  clear h8
  go_enter Tryz.func30, Tryz.ntmps30
  go_wp2_with fail
  refine (name_any _ xn hnm).mono ?_
  rintro e w' ⟨rfl, hw'⟩
  subst hw'
  have HS0 := hide (allTo_zero (Lat.strB xn) Lat.strB xi)
  rw [show Lat.nameB xn.data.toList = allTo (Lat.strB xn) Lat.strB xi 0 from HS0.out.symm]
  clear HS0 hnm
  go_wp2_with fail
  generalize w.alloc (.cells #[.string xn, .slice ai ni ci, .slice av nv cv, .slice af nf cf] 26) = W0 at *
  -- the imports
  go_loopw [3, 4] (fun o i wr => ∃ j : Nat, j ≤ ni ∧ i = .int .i64 j ∧ o = .bool (allTo (Lat.strB xn) Lat.strB xi j) ∧ Below W0.heap.size W0 wr) (fun _ i _ => ni - (intOf i).toNat)
  case atStart => exact ⟨0, Nat.zero_le _, rfl, rfl, Below.refl _ _⟩
  case round =>
    obtain ⟨j, hj, rfl, rfl, hnx⟩ := hrel
    have t1 := cellUp q1 hnx
    by_cases hjl : j < ni
    · have hc := cellUp (HCI.out j hjl) (up HB0.out hnx)
      have hgd : xi[j]? = some (xi.getD j ByteArray.empty) := by
        have : j < xi.length := by have := HNI.out; omega
        simp [this]
      have hsz := HSI.out _ (List.mem_of_getElem? hgd)
      have HST := hide (allTo_succ (b := Lat.strB xn) (p := Lat.strB) hgd)
      obtain rfl := HAI.out (by omega)
      generalize xi.getD j ByteArray.empty = s at *
      have HNX := hide hnx
      clear hgd q0 q1 q2 q3 hnx
      cases hok : allTo (Lat.strB xn) Lat.strB xi j
      · have HOK := hide hok
        go_wp2_with fail
        go_roundw
        case rel => exact ⟨j + 1, by omega, by go_num, val_bool (by rw [HST.out, HOK.out]; rfl), HNX.out⟩
        case measure => simp [intOf]; omega
      · have HOK := hide hok
        go_wp2_with fail
        refine (name_any _ s hsz).mono ?_
        rintro e w' ⟨rfl, hw'⟩
        subst hw'
        go_wp2_with fail
        go_roundw
        case rel => exact ⟨j + 1, by omega, by go_num, val_bool (by rw [HST.out, HOK.out]; rfl), HNX.out⟩
        case measure => simp [intOf]; omega
    · have hjn : j = ni := by omega
      clear hj
      go_wp2_with fail
      have HOK := hide (allTo_all (b := Lat.strB xn) (p := Lat.strB) HNI.out hjn)
      have HS0 := hide (allTo_zero (Lat.strB xn && xi.all Lat.strB) Lat.vaB xv)
      rw [show allTo (Lat.strB xn) Lat.strB xi j = allTo (Lat.strB xn && xi.all Lat.strB) Lat.vaB xv 0 by rw [HOK.out, HS0.out]]
      clear t1 hjl hjn HOK HS0
      have HB1 := hide (up HB0.out hnx)
      replace q0 := cellUp q0 hnx
      replace q1 := cellUp q1 hnx
      replace q2 := cellUp q2 hnx
      replace q3 := cellUp q3 hnx
      clear hnx HB0
      -- the variables
      go_loopw [3, 5] (fun o i wy => ∃ k : Nat, k ≤ nv ∧ i = .int .i64 k ∧ o = .bool (allTo (Lat.strB xn && xi.all Lat.strB) Lat.vaB xv k) ∧ Below wr.heap.size wr wy) (fun _ i _ => nv - (intOf i).toNat)
      case atStart => exact ⟨0, Nat.zero_le _, rfl, rfl, Below.refl _ _⟩
      case round =>
        obtain ⟨k, hk, rfl, rfl, hnx⟩ := hrel
        have t2 := cellUp q2 hnx
        by_cases hkl : k < nv
        · obtain ⟨y, hy⟩ : ∃ y, xv[k]? = some y := ⟨_, List.getElem?_eq_getElem (by rw [← HNV.out]; exact hkl)⟩
          obtain ⟨hs1, hs2, g0, g1⟩ := HCV.out k y hy
          have HST := hide (allTo_succ (b := Lat.strB xn && xi.all Lat.strB) (p := Lat.vaB) hy)
          obtain rfl := HAV.out (by omega)
          obtain ⟨yn, yl⟩ := y
          simp only at hs1 hs2 g0 g1
          have HVB : Hid (Lat.vaB ⟨yn, yl⟩ = (Lat.nameB yn.data.toList && Lat.nameB yl.data.toList)) := rfl
          have u0 := cellUp g0 (up HB1.out hnx)
          have u1 := cellUp g1 (up HB1.out hnx)
          have HNX := hide hnx
          clear hy g0 g1 hnx q0 q1 q2 q3
          cases hok : allTo (Lat.strB xn && xi.all Lat.strB) Lat.vaB xv k
          · have HOK := hide hok
            go_wp2_with fail
            go_roundw
            case rel => exact ⟨k + 1, by omega, by go_num, val_bool (by rw [HST.out, HOK.out]; rfl), HNX.out⟩
            case measure => simp [intOf]; omega
          · have HOK := hide hok
            go_wp2_with fail
            refine (name_any _ yn hs1).mono ?_
            rintro e w' ⟨rfl, hw'⟩
            subst hw'
            cases hn1 : Lat.nameB yn.data.toList
            · have HN1 := hide hn1
              go_wp2_with fail
              go_roundw
              case rel => exact ⟨k + 1, by omega, by go_num, val_bool (by rw [HST.out, HOK.out, HVB.out, HN1.out]; rfl), HNX.out⟩
              case measure => simp [intOf]; omega
            · have HN1 := hide hn1
              go_wp2_with fail
              refine (name_any _ yl hs2).mono ?_
              rintro e w' ⟨rfl, hw'⟩
              subst hw'
              go_wp2_with fail
              go_roundw
              case rel => exact ⟨k + 1, by omega, by go_num, val_bool (by rw [HST.out, HOK.out, HVB.out, HN1.out]; rfl), HNX.out⟩
              case measure => simp [intOf]; omega
        · have hkn : k = nv := by omega
          have HOK := hide (allTo_all (b := Lat.strB xn && xi.all Lat.strB) (p := Lat.vaB) HNV.out hkn)
          clear hk hkn
          generalize allTo (Lat.strB xn && xi.all Lat.strB) Lat.vaB xv k = ok at *
          have HB2 := hide (up HB1.out hnx)
          replace q0 := cellUp q0 hnx
          replace q1 := cellUp q1 hnx
          replace q2 := cellUp q2 hnx
          replace q3 := cellUp q3 hnx
          clear hnx HB1
          cases ok
          · have HE5 : Hid (XE = 5) := hide (by rw [HE.out, if_pos HOK.out.symm])
            go_wp2_with fail
            go_ret
            exact ⟨ret_int HE5.out.symm, HB2.out⟩
          rw [if_neg (by rw [← HOK.out]; exact Bool.noConfusion)] at HE
          go_wp2_with fail
          clear t2 hkl HOK
          -- the functions
          go_loopw [6] (fun i wz => ∃ k : Nat, k ≤ nf ∧ i = .int .i64 k ∧ (∀ (d : Nat) (z : Fu), d < k → xf[d]? = some z → Lat.fuE m z = 0) ∧ Below wr.heap.size wr wz) (fun i _ => nf - (intOf i).toNat)
          case atStart => exact ⟨0, Nat.zero_le _, rfl, fun d z hd => absurd hd (Nat.not_lt_zero _), Below.refl _ _⟩
          case round =>
            obtain ⟨i, hi, rfl, hall, hnx⟩ := hrel
            have HALL := hide hall
            clear hall
            have t3 := cellUp q3 hnx
            by_cases hil : i < nf
            · obtain ⟨y, hy⟩ : ∃ y, xf[i]? = some y := ⟨_, List.getElem?_eq_getElem (by rw [← HNF.out]; exact hil)⟩
              obtain ⟨hnm, vp, vb, e0, e1, e2, e3, g0, g1, g2, g3, g4, g5, g6, hp, hsb, hx⟩ := HCF.out i y hy
              obtain rfl := HAF.out (by omega)
              have HBAD : Hid (Lat.fuE m y ≠ 0 → XE = Lat.fuE m y) := hide (fun h => by
                have e := fusE_at (m := m) HALL.out hy h
                rw [HE.out, e, if_pos h])
              have HGOOD : Hid (Lat.fuE m y = 0 → ∀ (d : Nat) (z : Fu), d < i + 1 → xf[d]? = some z → Lat.fuE m z = 0) := hide (fun h d z hd hz => by
                by_cases e : d = i
                · subst e; rw [hy] at hz; cases hz; exact h
                · exact HALL.out d z (by omega) hz)
              obtain ⟨yn, yp, yb, yr⟩ := y
              simp only at g0 hp hsb hx hnm
              have HFE : Hid (Lat.fuE m ⟨yn, yp, yb, yr⟩ = if 4 < yp.length then 2 else if (Lat.strB yn && Lat.bodyB m yb && Lat.exprB m yr && yp.all Lat.strB) then 0 else 5) := rfl
              generalize Lat.fuE m ⟨yn, yp, yb, yr⟩ = FE at *
              obtain ⟨ap, bp, op, cp, rfl, hap, hlp, hsp, hcp⟩ := hp
              have HSP := hide hsp
              have HSB := hide hsb
              have HX := hide hx
              obtain ⟨ab, cb, rfl, hlb⟩ := hsb.shape
              obtain ⟨xa, xc, rfl, rfl, rfl, rfl⟩ := hx.shape
              have HAP := hide hap
              have HCP := hide hcp
              obtain ⟨np, hnp⟩ : ∃ n, n = yp.length := ⟨_, rfl⟩
              obtain ⟨nb, hnb⟩ : ∃ n, n = yb.length := ⟨_, rfl⟩
              have HNP := hide hnp
              have HNB := hide hnb
              rw [← hnp] at g1 hlp HAP HCP HFE
              rw [← hnb] at g2 hlb HSB
              have hbb := up HB2.out hnx
              have u0 := cellUp g0 hbb
              have u1 := cellUp g1 hbb
              have u2 := cellUp g2 hbb
              have u3 := cellUp g3 hbb
              have u4 := cellUp g4 hbb
              have u5 := cellUp g5 hbb
              have u6 := cellUp g6 hbb
              have HNX := hide hnx
              have HBB := hide hbb
              clear hap hcp hsp hsb hx hnp hnb hy g0 g1 g2 g3 g4 g5 g6 hbb hnx q0 q1 q2 q3
              have r0 := boxF0 wr (.string yn) (.slice ap np cp) (.slice ab nb cb) (.int .i64 yr.kind) (.int .i64 yr.n) (.string yr.name) (.slice xa yr.args.length xc) 87
              have r1 := boxF1 wr (.string yn) (.slice ap np cp) (.slice ab nb cb) (.int .i64 yr.kind) (.int .i64 yr.n) (.string yr.name) (.slice xa yr.args.length xc) 87
              have r2 := boxF2 wr (.string yn) (.slice ap np cp) (.slice ab nb cb) (.int .i64 yr.kind) (.int .i64 yr.n) (.string yr.name) (.slice xa yr.args.length xc) 87
              have r3 := boxF3 wr (.string yn) (.slice ap np cp) (.slice ab nb cb) (.int .i64 yr.kind) (.int .i64 yr.n) (.string yr.name) (.slice xa yr.args.length xc) 87
              have r4 := boxF4 wr (.string yn) (.slice ap np cp) (.slice ab nb cb) (.int .i64 yr.kind) (.int .i64 yr.n) (.string yr.name) (.slice xa yr.args.length xc) 87
              have r5 := boxF5 wr (.string yn) (.slice ap np cp) (.slice ab nb cb) (.int .i64 yr.kind) (.int .i64 yr.n) (.string yr.name) (.slice xa yr.args.length xc) 87
              have r6 := boxF6 wr (.string yn) (.slice ap np cp) (.slice ab nb cb) (.int .i64 yr.kind) (.int .i64 yr.n) (.string yr.name) (.slice xa yr.args.length xc) 87
              have HB3 := hide (boxBelow wr (.cells #[.string yn, .slice ap np cp, .slice ab nb cb, .int .i64 yr.kind, .int .i64 yr.n, .string yr.name, .slice xa yr.args.length xc] 87))
              by_cases hp4 : 4 < np
              · have hp4' : (4 : Int) < (np : Int) := by omega
                rw [if_pos hp4] at HFE
                have HXE := hide ((HBAD.out (by rw [HFE.out]; decide)).trans HFE.out)
                clear hp4
                go_wp2_with fail
                go_ret
                exact ⟨ret_int HXE.out.symm, up HBB.out HB3.out⟩
              have hp4' : ¬ (4 : Int) < (np : Int) := by omega
              rw [if_neg hp4] at HFE
              clear hp4
              go_wp2_with fail
              generalize wr.alloc (.cells #[.string yn, .slice ap np cp, .slice ab nb cb, .int .i64 yr.kind, .int .i64 yr.n, .string yr.name, .slice xa yr.args.length xc] 87) = W3 at *
              clear u0 u1 u2 u3 u4 u5 u6
              refine (name_any _ yn hnm).mono ?_
              rintro e w' ⟨rfl, hw'⟩
              rw [hw']
              clear hw' w'
              have HB : Hid ((Lat.strB yn && Lat.bodyB m yb && Lat.exprB m yr) = (Lat.nameB yn.data.toList && Lat.bodyB m yb && Lat.exprB m yr)) := rfl
              generalize (Lat.strB yn && Lat.bodyB m yb && Lat.exprB m yr) = B at *
              have HZ := hide (allTo_zero B Lat.strB yp)
              cases hn1 : Lat.nameB yn.data.toList
              case' false =>
                have HB' : Hid (false = allTo B Lat.strB yp 0) := hide (by rw [HZ.out, HB.out, hn1]; rfl)
                have HQ := hide (Below.refl W3.heap.size W3)
                go_wp2_with fail
              case' true =>
                go_wp2_with fail
                refine (body_any m _ _ yb (HSB.out.below (up HBB.out HB3.out))).mono ?_
                rintro e w5 ⟨rfl, hb5⟩
                have HN5 := hide hb5
                have t3 := cellUp r3 hb5
                have t4 := cellUp r4 hb5
                have t5 := cellUp r5 hb5
                have t6 := cellUp r6 hb5
                clear hb5
                cases hn2 : Lat.bodyB m yb
                case' false =>
                  have HB' : Hid (false = allTo B Lat.strB yp 0) := hide (by rw [HZ.out, HB.out, hn1, hn2]; rfl)
                  have HQ := HN5
                  go_wp2_with fail
                case' true =>
                  go_wp2_with fail
                  refine (expr_any m _ _ _ _ _ yr (HX.out.below (up (up HBB.out HB3.out) HN5.out))).mono ?_
                  rintro e w6 ⟨rfl, hb6⟩
                  have HQ := hide (up HN5.out hb6)
                  have HB' : Hid (Lat.exprB m yr = allTo B Lat.strB yp 0) := hide (by rw [HZ.out, HB.out, hn1, hn2]; rfl)
                  clear hb6
                  go_wp2_with fail
              all_goals
                clear HB HZ r0 r2 r3 r4 r5 r6
                go_loopw [8, 9] (fun o i wp => ∃ k : Nat, k ≤ np ∧ i = .int .i64 k ∧ o = .bool (allTo B Lat.strB yp k) ∧ Below W3.heap.size W3 wp) (fun _ i _ => np - (intOf i).toNat)
                case atStart => exact ⟨0, Nat.zero_le _, rfl, val_bool HB'.out, HQ.out⟩
                case round =>
                  obtain ⟨d, hd, rfl, rfl, hnx⟩ := hrel
                  have t1 := cellUp r1 hnx
                  by_cases hdl : d < np
                  · have hc := cellUp (HCP.out d hdl) (up (up HBB.out HB3.out) hnx)
                    have hgd : yp[d]? = some (yp.getD d ByteArray.empty) := by
                      have : d < yp.length := by have := HNP.out; omega
                      simp [this]
                    have hsz := HSP.out _ (List.mem_of_getElem? hgd)
                    have HST := hide (allTo_succ (b := B) (p := Lat.strB) hgd)
                    obtain rfl := HAP.out (by omega)
                    generalize yp.getD d ByteArray.empty = s at *
                    have HNX2 := hide hnx
                    clear hgd r1 hnx
                    cases hok : allTo B Lat.strB yp d
                    · have HOK := hide hok
                      go_wp2_with fail
                      go_roundw
                      case rel => exact ⟨d + 1, by omega, by go_num, val_bool (by rw [HST.out, HOK.out]; rfl), HNX2.out⟩
                      case measure => simp [intOf]; omega
                    · have HOK := hide hok
                      go_wp2_with fail
                      refine (name_any _ s hsz).mono ?_
                      rintro e w' ⟨rfl, hw'⟩
                      subst hw'
                      go_wp2_with fail
                      go_roundw
                      case rel => exact ⟨d + 1, by omega, by go_num, val_bool (by rw [HST.out, HOK.out]; rfl), HNX2.out⟩
                      case measure => simp [intOf]; omega
                  · have HOK := hide (allTo_all (b := B) (p := Lat.strB) HNP.out (show d = np by omega))
                    rw [← HOK.out] at HFE
                    have HNX2 := hide hnx
                    clear hd HOK hnx r1 HB'
                    generalize allTo B Lat.strB yp d = ok at *
                    cases ok
                    · have HXE : Hid (XE = 5) := hide ((HBAD.out (by rw [HFE.out]; decide)).trans HFE.out)
                      go_wp2_with fail
                      go_ret
                      exact ⟨ret_int HXE.out.symm, up (up HBB.out HB3.out) HNX2.out⟩
                    · go_wp2_with fail
                      go_roundw
                      case rel => exact ⟨i + 1, by omega, by go_num, HGOOD.out (by rw [HFE.out]; rfl), up HNX.out (up HB3.out HNX2.out)⟩
                      case measure => simp [intOf]; omega
            · have HFZ := hide (fusE_zero (m := m) (l := xf) (fun d z hz => HALL.out d z (by
                have := (List.getElem?_eq_some_iff.1 hz).1
                have := HNF.out
                omega) hz))
              rw [if_neg (fun h => h HFZ.out)] at HE
              clear HALL HFZ
              have t0 := cellUp q0 hnx
              have t1 := cellUp q1 hnx
              have t2 := cellUp q2 hnx
              have HBB := hide (up HB2.out hnx)
              clear hnx q0 q1 q2 q3 hi
              go_wp2_with fail
              refine (text_any m _ _ _ (HM.out.below HBB.out) HMW.out (HT.out.below HBB.out)).mono ?_
              rintro e w5 ⟨rfl, hb5⟩
              have HN5 := hide (up HBB.out hb5)
              clear hb5 t0 t1 t2 t3
              rw [← HXT.out]
              go_wp2_with fail
              -- the brackets
              go_loopw [11, 12] (fun o i wt => ∃ j : Nat, j ≤ XT.size ∧ i = .int .i64 j ∧ o = .int .i64 (Lat.openTo XT j) ∧ (∀ d, d < j → Lat.openTo XT (d + 1) ≤ 20) ∧ Below w5.heap.size w5 wt) (fun _ i _ => XT.size - (intOf i).toNat)
              case atStart => exact ⟨0, Nat.zero_le _, rfl, rfl, fun d hd => absurd hd (Nat.not_lt_zero _), Below.refl _ _⟩
              case round =>
                obtain ⟨j, hj, rfl, rfl, hall, hnx⟩ := hrel
                have HALL := hide hall
                have HNX := hide hnx
                clear hall hnx
                by_cases hjl : j < XT.size
                · have hol := openTo_le XT j
                  have HST := hide (openTo_succ XT j hjl)
                  obtain ⟨hol1, hol2⟩ := hol
                  generalize Lat.openTo XT j = o at *
                  rcases step3 XT[j] with ⟨f1, f2, f3⟩ | ⟨f1, f2, f3⟩ | ⟨f1, f2, f3⟩
                  · have HO : Hid (Lat.openTo XT (j + 1) = o + 1) := hide (by rw [HST.out, f3])
                    clear f3
                    by_cases h20 : 20 < o + 1
                    · have HD := hide (deepB_at (t := XT) hjl (by rw [HO.out]; exact h20))
                      rw [HD.out, if_pos rfl] at HE
                      go_wp2_with fail
                      go_ret
                      exact ⟨ret_int HE.out.symm, up HN5.out HNX.out⟩
                    · have HH := hide h20
                      go_wp2_with fail
                      go_roundw
                      case rel => exact ⟨j + 1, by omega, by go_num, by rw [HO.out], fun d hd => by
                          by_cases e : d = j
                          · subst e; rw [HO.out]; have := HH.out; omega
                          · exact HALL.out d (by omega), HNX.out⟩
                      case measure => simp [intOf]; omega
                  · have HO : Hid (Lat.openTo XT (j + 1) = o - 1) := hide (by rw [HST.out, f3]; rfl)
                    clear f3
                    by_cases h20 : 20 < o - 1
                    · have HD := hide (deepB_at (t := XT) hjl (by rw [HO.out]; exact h20))
                      rw [HD.out, if_pos rfl] at HE
                      go_wp2_with fail
                      go_ret
                      exact ⟨ret_int HE.out.symm, up HN5.out HNX.out⟩
                    · have HH := hide h20
                      go_wp2_with fail
                      go_roundw
                      case rel => exact ⟨j + 1, by omega, by go_num, by rw [HO.out], fun d hd => by
                          by_cases e : d = j
                          · subst e; rw [HO.out]; have := HH.out; omega
                          · exact HALL.out d (by omega), HNX.out⟩
                      case measure => simp [intOf]; omega
                  · have HO : Hid (Lat.openTo XT (j + 1) = o) := hide (by rw [HST.out, f3, Int.add_zero])
                    clear f3
                    by_cases h20 : 20 < o
                    · have HD := hide (deepB_at (t := XT) hjl (by rw [HO.out]; exact h20))
                      rw [HD.out, if_pos rfl] at HE
                      go_wp2_with fail
                      go_ret
                      exact ⟨ret_int HE.out.symm, up HN5.out HNX.out⟩
                    · have HH := hide h20
                      go_wp2_with fail
                      go_roundw
                      case rel => exact ⟨j + 1, by omega, by go_num, by rw [HO.out], fun d hd => by
                          by_cases e : d = j
                          · subst e; rw [HO.out]; have := HH.out; omega
                          · exact HALL.out d (by omega), HNX.out⟩
                      case measure => simp [intOf]; omega
                · have HD := hide (deepB_not (t := XT) (fun d hd => by have := HALL.out d (by omega); omega))
                  rw [HD.out, if_neg (by decide)] at HE
                  go_wp2_with fail
                  go_ret
                  exact ⟨ret_int HE.out.symm, up HN5.out HNX.out⟩
end Go.Proofs.YtbncnkfogkhoeaaGreatDoor
