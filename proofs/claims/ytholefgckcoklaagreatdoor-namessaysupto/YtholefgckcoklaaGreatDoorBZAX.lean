/- Rows that stay where diagnostics are told, or other rows grow. -/
import Derived.Test.YtholefgckcoklaaGreatDoorBZAM
import Derived.Test.YtholefgckcoklaaGreatDoorBZAW
import Derived.Test.YtholefgckcoklaaGreatDoorBZAG
import Derived.Test.YtholefgckcoklaaGreatDoorBShelf
import Derived.Lib.SmallJoins
import Derived.Lib.AppendIntMem
import Derived.Lib.ItoaLen
import Derived.Test.YtholefgckcoklaaGreatDoorBZAK
namespace Go.Proofs.YtholefgckcoklaaGreatDoor
open Go.RowKit
section
variable {α : Type} {At : List Value → α → Prop} {w w' : World} {n e k : Nat} {v : Value} {l : List α}
theorem OwnK.tells {p : Nat} (h : OwnK At w n e k v l) (hT : Tells p w w') (he : e ≠ 43) (hp : v.ownBlock ≠ some p) : OwnK At w' n e k v l := by
  obtain ⟨cs, ⟨h0, h1⟩, h2⟩ := h
  refine ⟨cs, ⟨h0, ?_⟩, h2⟩
  rcases h1 with h1 | ⟨g, cap, cur, hv, hg, hh, r⟩
  · exact Or.inl h1
  · exact Or.inr ⟨g, cap, cur, hv, hg, hT.at (fun e' => hp (by rw [hv, e']; rfl)) hh he, r⟩
theorem OwnK.grown {r : Option Nat} (h : OwnK At w n e k v l) (hG : w.grownBy w' r) (hr : ∀ g, v.ownBlock = some g → r ≠ some g) : OwnK At w' n e k v l := by
  have hlt := h.lt
  obtain ⟨cs, ⟨h0, h1⟩, h2⟩ := h
  refine ⟨cs, ⟨h0, ?_⟩, h2⟩
  rcases h1 with h1 | ⟨g, cap, cur, hv, hg, hh, r'⟩
  · exact Or.inl h1
  · exact Or.inr ⟨g, cap, cur, hv, hg, by rw [hG.block g (block_lt hh) (fun e' => hr g (by rw [hv]; rfl) e'.symm)]; exact hh, r'⟩
theorem OwnK.other {α' : Type} {At' : List Value → α' → Prop} {n' e' k' : Nat} {v' : Value} {l' : List α'} (h : OwnK At w n e k v l) (h' : OwnK At' w n' e' k' v' l') (he : e ≠ e') : ∀ g, v.ownBlock = some g → v'.ownBlock ≠ some g := fun g hg hg' => by
  obtain ⟨cur, hc⟩ := h.typ hg
  obtain ⟨cur', hc'⟩ := h'.typ hg'
  rw [hc] at hc'
  simp at hc'
  exact he hc'.2
end
theorem Told.apart {α : Type} {At : List Value → α → Prop} {w : World} {n p n' e k : Nat} {v : Value} {l : List Dg} {l' : List α} (h : Told w n p l) (h' : OwnK At w n' e k v l') (he : e ≠ 37) : v.ownBlock ≠ some p := by
  obtain ⟨_, u, h1, _⟩ := h
  exact h'.apart h1 (fun e' => he e'.symm)
theorem Told.grown {α : Type} {At : List Value → α → Prop} {w w' : World} {n p n' e k : Nat} {v : Value} {l : List Dg} {l' : List α} (h : Told w n p l) (h' : OwnK At w n' e k v l') (hG : w.grownBy w' v.ownBlock) (he : e ≠ 37) (hd : e ≠ 43) : Told w' n p l := by
  have ha := h.apart h' he
  obtain ⟨h0, u, h1, h2⟩ := h
  exact ⟨h0, u, by rw [hG.block p (block_lt h1) (fun e' => ha e'.symm)]; exact h1, h2.grown hG (fun g hg => h2.other h' (fun e' => hd e'.symm) g hg)⟩
theorem Tells.grown {p : Nat} {w w1 w2 : World} {r : Option Nat} (h : Tells p w w1) (hG : w1.grownBy w2 r) (hr : ∀ g, r = some g → w.heap.size ≤ g) : Tells p w w2 :=
  ⟨Nat.le_trans h.size hG.size, fun k hk hp hd => by
    rw [hG.block k (Nat.lt_of_lt_of_le hk h.size) (fun e => by have := hr k e.symm; omega)]
    exact h.block k hk hp hd⟩
end Go.Proofs.YtholefgckcoklaaGreatDoor
namespace Go.Proofs.YtholefgckcoklaaGreatDoor
open Go.RowKit
def Tab (w : World) : Prop := Lib.TabIs Tryz.prog w "internal/strconv.uint64pow10" .u64 Lib.pow10Tab
theorem tabNamed : (Tryz.prog.globalNamed "internal/strconv.uint64pow10").isSome = true := by kernel_rfl
theorem Tab.below {w w' : World} (h : Tab w) (hb : Below w.heap.size w w') : Tab w' := by
  obtain ⟨g, hg⟩ := Option.isSome_iff_exists.1 tabNamed
  exact Joins.tab_stays hg h hb (Nat.le_refl _)
theorem itoa_any (w : World) (n : Int) (hn : I64 n) (ht : Tab w) :
    Calls Tryz.prog 246 #[.int .i64 n] w fun e w' => e = .returned (.string ⟨(Lib.itoa n).toArray⟩) ∧ Below w.heap.size w w' := by
  refine (Tryz.strconv_Itoa n hn.1 hn.2 w ht).mono ?_
  rintro e w' ⟨rfl, k, os, rfl⟩
  exact ⟨rfl, Lib.below_grow _ _ (Nat.le_refl _) _ _⟩
namespace Lat
def exStep (t : Ex → ByteArray) (acc : ByteArray) (y : Ex) : ByteArray := acc ++ ((⟨#[32]⟩ : ByteArray) ++ t y)
def exHead (x : Ex) : ByteArray := (if x.kind = 4 then (⟨#[40, 99, 97, 108, 108, 32]⟩ : ByteArray) else ⟨#[40]⟩) ++ x.name
def exT : Nat → Ex → ByteArray
  | 0, _ => ⟨#[]⟩
  | m + 1, x => if x.kind = 1 then ⟨(Lib.itoa x.n).toArray⟩ else if x.kind = 2 then x.name else x.args.foldl (exStep (exT m)) (exHead x) ++ (⟨#[41]⟩ : ByteArray)
end Lat
theorem foldl_size {t : Ex → ByteArray} : ∀ (l : List Ex) (acc : ByteArray), (l.foldl (Lat.exStep t) acc).size = acc.size + (l.map fun y => (t y).size + 1).sum
  | [], acc => by simp
  | y :: l, acc => by
    rw [List.foldl_cons, foldl_size l]
    have e : (Lat.exStep t acc y).size = acc.size + (1 + (t y).size) := by
      unfold Lat.exStep; rw [ByteArray.size_append, ByteArray.size_append]; rfl
    rw [e, List.map_cons, List.sum_cons]; omega
theorem sum_mono {f g : Ex → Nat} : ∀ {l : List Ex}, (∀ (i : Nat) (x : Ex), l[i]? = some x → f x ≤ g x) → (l.map f).sum ≤ (l.map g).sum
  | [], _ => Nat.le_refl _
  | x :: l, h => by
    have h0 := h 0 x rfl
    have h1 := sum_mono (l := l) (fun i y hy => h (i + 1) y (by simpa using hy))
    simp only [List.map_cons, List.sum_cons]; omega
theorem sum_mul (k : Nat) (f : Ex → Nat) : ∀ l : List Ex, (l.map fun x => k * f x).sum = k * (l.map f).sum
  | [] => rfl
  | x :: l => by simp only [List.map_cons, List.sum_cons, sum_mul k f l, Nat.mul_add]
theorem exT_size {w : World} : ∀ {m : Nat} {c0 c1 c2 c3 : Value} {x : Ex}, ExAt w m c0 c1 c2 c3 x → (Lat.exT m x).size + 1 ≤ 6 * exW m x
  | 0, _, _, _, _, _, h => False.elim h
  | m + 1, c0, c1, c2, c3, x, h => by
    obtain ⟨_, _, _, _, _, hn, a, b, off, cap, _, _, _, h9⟩ := h
    have hs : (x.args.map fun y => (Lat.exT m y).size + 1).sum ≤ 6 * (x.args.map (exW m)).sum := by
      rw [← sum_mul]
      exact sum_mono (fun i y hy => by
        obtain ⟨e0, e1, e2, e3, _, _, _, _, hx⟩ := h9 i y hy
        exact exT_size hx)
    have hh : (Lat.exHead x).size ≤ x.name.size + 6 := by
      unfold Lat.exHead
      rw [ByteArray.size_append]
      split
      · show 6 + _ ≤ _; omega
      · show 1 + _ ≤ _; omega
    simp only [Lat.exT, exW]
    split
    · have := Lib.itoa_length_le x.n hn.1 hn.2
      show (Lib.itoa x.n).toArray.size + 1 ≤ _
      rw [List.size_toArray]; omega
    · split
      · omega
      · rw [ByteArray.size_append, foldl_size]
        show _ + 1 + 1 ≤ _
        omega
theorem ret_str {a b : ByteArray} (h : a = b) : Ending.returned (.string a) = .returned (.string b) := by rw [h]
end Go.Proofs.YtholefgckcoklaaGreatDoor
namespace Go.Proofs.YtholefgckcoklaaGreatDoor
open Go.RowKit
theorem val_str {a b : ByteArray} (h : a = b) : Value.string a = .string b := by rw [h]
theorem mem_le_sum {α : Type} {f : α → Nat} {y : α} : ∀ {l : List α}, y ∈ l → f y ≤ (l.map f).sum
  | x :: l, h => by
    simp only [List.map_cons, List.sum_cons]
    rcases List.mem_cons.1 h with rfl | h
    · omega
    · have := mem_le_sum (f := f) h; omega
theorem fold_take {t : Ex → ByteArray} {l : List Ex} {j : Nat} {y : Ex} (h : l[j]? = some y) (acc : ByteArray) : (l.take (j + 1)).foldl (Lat.exStep t) acc = Lat.exStep t ((l.take j).foldl (Lat.exStep t) acc) y := by
  obtain ⟨hj, rfl⟩ := List.getElem?_eq_some_iff.1 h
  rw [List.take_succ_eq_append_getElem hj, List.foldl_append]; rfl
theorem fold_take_size {t : Ex → ByteArray} (l : List Ex) (j : Nat) (acc : ByteArray) : ((l.take j).foldl (Lat.exStep t) acc).size ≤ (l.foldl (Lat.exStep t) acc).size := by
  rw [foldl_size, foldl_size]
  have : ((l.take j).map fun y => (t y).size + 1).sum ≤ (l.map fun y => (t y).size + 1).sum := by
    conv => rhs; rw [← List.take_append_drop j l]
    rw [List.map_append, List.sum_append]; omega
  omega
set_option maxHeartbeats 2000000 in
set_option maxRecDepth 100000 in
theorem exprText_any (m : Nat) : ∀ (w : World) (c0 c1 c2 c3 : Value) (x : Ex), ExAt w m c0 c1 c2 c3 x → exW m x ≤ 1048576 → Tab w →
    Calls Tryz.prog 182 #[.agg #[c0, c1, c2, c3]] w fun e w' => e = .returned (.string (Lat.exT m x)) ∧ Below w.heap.size w w' := by
  induction m with
  | zero => intro w c0 c1 c2 c3 x h; exact False.elim h
  | succ m ih =>
    intro w c0 c1 c2 c3 x h hw ht
    have HI := hide ih
    clear ih
    have hsize := exT_size h
    obtain ⟨rfl, rfl, rfl, hsz, hk1, hk2, a, b, off, cap, rfl, ha, hl, hel⟩ := h
    obtain ⟨k, n, s, args⟩ := x
    simp only at hsz hk1 hk2 ha hl hel ⊢
    have HEL := hide hel
    have HA := hide ha
    have HT := hide (ht.below (boxBelow w (.cells #[.int .i64 k, .int .i64 n, .string s, .slice a args.length cap] 103)))
    have hsn : s.size ≤ 1048576 := by simp only [exW] at hw; omega
    have HW : Hid (∀ (i : Nat) (y : Ex), args[i]? = some y → exW m y ≤ 1048576) := hide (fun i y hy => by
      have : exW m y ≤ (args.map (exW m)).sum := mem_le_sum (List.mem_of_getElem? hy)
      simp only [exW] at hw; omega)
    clear hel ha ht
    by_cases h1 : k = 1
    · subst h1
      go_enter Tryz.func182, Tryz.ntmps182
      go_wp2_with fail
      refine (itoa_any _ n hk2 HT.out).mono ?_
      rintro e w1 ⟨rfl, hb1⟩
      have HB := hide (up1 hb1)
      clear hb1
      go_wp2_with fail
      go_ret
      exact ⟨ret_str (by simp [Lat.exT]), HB.out⟩
    by_cases h2 : k = 2
    · subst h2
      go_enter Tryz.func182, Tryz.ntmps182
      go_wp2_with fail
      go_ret
      exact ⟨ret_str (by simp [Lat.exT]), boxBelow _ _⟩
    have hk1' : (k == 1) = false := by simp [h1]
    have hk2' : (k == 2) = false := by simp [h2]
    have HE : Hid (Lat.exT (m + 1) ⟨k, n, s, args⟩ = args.foldl (Lat.exStep (Lat.exT m)) (Lat.exHead ⟨k, n, s, args⟩) ++ (⟨#[41]⟩ : ByteArray)) := hide (by simp only [Lat.exT]; rw [if_neg h1, if_neg h2])
    have hfs : (args.foldl (Lat.exStep (Lat.exT m)) (Lat.exHead ⟨k, n, s, args⟩)).size ≤ 6291456 := by
      rw [HE.out, ByteArray.size_append] at hsize
      have e : (⟨#[41]⟩ : ByteArray).size = 1 := rfl
      omega
    have HFS := hide hfs
    have HHD : Hid (Lat.exHead ⟨k, n, s, args⟩ = (if k = 4 then (⟨#[40, 99, 97, 108, 108, 32]⟩ : ByteArray) else ⟨#[40]⟩) ++ s) := rfl
    generalize Lat.exHead ⟨k, n, s, args⟩ = hd at *
    obtain ⟨len, hlen⟩ : ∃ len, len = args.length := ⟨_, rfl⟩
    have HL := hide hlen
    rw [← hlen] at hl HA HT ⊢
    have q3 := boxCells4 w (.int .i64 k) (.int .i64 n) (.string s) (.slice a len cap) 103
    have HB0 := hide (boxBelow w (.cells #[.int .i64 k, .int .i64 n, .string s, .slice a len cap] 103))
    clear hlen hfs hsize hw h1 h2
    cases hk4 : (k == 4)
    case' false => rw [if_neg (by simpa using hk4)] at HHD
    case' true => rw [if_pos (by simpa using hk4)] at HHD
    all_goals
      go_enter Tryz.func182, Tryz.ntmps182
      go_wp2_with fail
      rw [← HHD.out]
      generalize (w.alloc (.cells #[.int .i64 k, .int .i64 n, .string s, .slice a len cap] 103)) = W0 at *
      go_loopw [3, 4] (fun o i wr => ∃ j : Nat, j ≤ len ∧ i = .int .i64 j ∧ o = .string ((args.take j).foldl (Lat.exStep (Lat.exT m)) hd) ∧ Below W0.heap.size W0 wr) (fun _ i _ => len - (intOf i).toNat)
      case atStart => exact ⟨0, Nat.zero_le _, rfl, rfl, Below.refl _ _⟩
      case round =>
        obtain ⟨j, hj, rfl, rfl, hnx⟩ := hrel
        have t3 := cellUp q3 hnx
        have hacc := Nat.le_trans (fold_take_size (t := Lat.exT m) args j hd) HFS.out
        by_cases hjl : j < len
        · obtain ⟨y, hy⟩ : ∃ y, args[j]? = some y := ⟨_, List.getElem?_eq_getElem (by rw [← HL.out]; exact hjl)⟩
          obtain ⟨e0, e1, e2, e3, g0, g1, g2, g3, hye⟩ := HEL.out j y hy
          obtain rfl := HA.out (by omega)
          have hbb := up HB0.out hnx
          have u0 := cellUp g0 hbb
          have u1 := cellUp g1 hbb
          have u2' := cellUp g2 hbb
          have u3' := cellUp g3 hbb
          have HYE := hide (hye.below hbb)
          have hys := exT_size hye
          have hyw := HW.out j y hy
          have hyt : (Lat.exT m y).size ≤ 6291456 := by omega
          have HST := hide (fold_take (t := Lat.exT m) hy hd)
          have HNX := hide hnx
          clear g0 g1 g2 g3 hye hy hbb hnx hys
          go_wp2_with fail
          refine (HI.out _ e0 e1 e2 e3 y HYE.out hyw (HT.out.below HNX.out)).mono ?_
          rintro e w5 ⟨rfl, hb5⟩
          have HN5 := hide (up HNX.out hb5)
          clear hb5 HNX
          generalize hty : Lat.exT m y = ty at *
          have HTY := hide hty
          clear hty
          generalize hac : (args.take j).foldl (Lat.exStep (Lat.exT m)) hd = acc at *
          have HAC := hide hac
          clear hac
          go_wp2_with fail
          go_roundw
          case rel => exact ⟨j + 1, by omega, by go_num, val_str (by rw [HST.out]; unfold Lat.exStep; rw [HTY.out]), HN5.out⟩
          case measure => simp [intOf]; omega
        · go_wp2_with fail
          go_ret
          exact ⟨ret_str (by rw [HE.out, List.take_of_length_le (by have := HL.out; omega)]), up HB0.out hnx⟩
end Go.Proofs.YtholefgckcoklaaGreatDoor
