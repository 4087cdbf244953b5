/- Walks over package downref: exprText answers the text of an expression. -/
import Derived.Test.YtholefgckcoklaaGreatDoorBZAL
import Derived.Deep.RegionHeld3
import Derived.Test.YtholefgckcoklaaGreatDoorBZAA
namespace Go.Proofs.YtholefgckcoklaaGreatDoor
open Go.RowKit
theorem val_str {a b : ByteArray} (h : a = b) : Value.string a = .string b := by rw [h]
theorem mem_le_sum {α : Type} {f : α → Nat} {y : α} : ∀ {l : List α}, y ∈ l → f y ≤ (l.map f).sum
  | x :: l, h => by
    simp only [List.map_cons, List.sum_cons]
    rcases List.mem_cons.1 h with rfl | h
    · omega
    · have := mem_le_sum (f := f) h; omega
theorem fold_take {t : Ex → ByteArray} {l : List Ex} {j : Nat} {y : Ex} (h : l[j]? = some y) (acc : ByteArray) : (l.take (j + 1)).foldl (Lat.exStep t) acc = Lat.exStep t ((l.take j).foldl (Lat.exStep t) acc) y := by
  obtain ⟨hj, rfl⟩ := List.getElem?_eq_some_iff.1 h
  rw [List.take_succ_eq_append_getElem hj, List.foldl_append]; rfl
theorem fold_take_size {t : Ex → ByteArray} (l : List Ex) (j : Nat) (acc : ByteArray) : ((l.take j).foldl (Lat.exStep t) acc).size ≤ (l.foldl (Lat.exStep t) acc).size := by
  rw [foldl_size, foldl_size]
  have : ((l.take j).map fun y => (t y).size + 1).sum ≤ (l.map fun y => (t y).size + 1).sum := by
    conv => rhs; rw [← List.take_append_drop j l]
    rw [List.map_append, List.sum_append]; omega
  omega
set_option maxHeartbeats 2000000 in
set_option maxRecDepth 100000 in
theorem exprText_any (m : Nat) : ∀ (w : World) (c0 c1 c2 c3 : Value) (x : Ex), ExAt w m c0 c1 c2 c3 x → exW m x ≤ 1048576 → Tab w →
    Calls Tryz.prog 182 #[.agg #[c0, c1, c2, c3]] w fun e w' => e = .returned (.string (Lat.exT m x)) ∧ Below w.heap.size w w' := by
  induction m with
  | zero => intro w c0 c1 c2 c3 x h; exact False.elim h
  | succ m ih =>
    intro w c0 c1 c2 c3 x h hw ht
    have HI := hide ih
    clear ih
    have hsize := exT_size h
    obtain ⟨rfl, rfl, rfl, hsz, hk1, hk2, a, b, off, cap, rfl, ha, hl, hel⟩ := h
    obtain ⟨k, n, s, args⟩ := x
    simp only at hsz hk1 hk2 ha hl hel ⊢
    have HEL := hide hel
    have HA := hide ha
    have HT := hide (ht.below (boxBelow w (.cells #[.int .i64 k, .int .i64 n, .string s, .slice a args.length cap] 103)))
    have hsn : s.size ≤ 1048576 := by simp only [exW] at hw; omega
    have HW : Hid (∀ (i : Nat) (y : Ex), args[i]? = some y → exW m y ≤ 1048576) := hide (fun i y hy => by
      have : exW m y ≤ (args.map (exW m)).sum := mem_le_sum (List.mem_of_getElem? hy)
      simp only [exW] at hw; omega)
    clear hel ha ht
    by_cases h1 : k = 1
    · subst h1
      go_enter Tryz.func182, Tryz.ntmps182
      go_wp2_with fail
      refine (itoa_any _ n hk2 HT.out).mono ?_
      rintro e w1 ⟨rfl, hb1⟩
      have HB := hide (up1 hb1)
      clear hb1
      go_wp2_with fail
      go_ret
      exact ⟨ret_str (by simp [Lat.exT]), HB.out⟩
    by_cases h2 : k = 2
    · subst h2
      go_enter Tryz.func182, Tryz.ntmps182
      go_wp2_with fail
      go_ret
      exact ⟨ret_str (by simp [Lat.exT]), boxBelow _ _⟩
    have hk1' : (k == 1) = false := by simp [h1]
    have hk2' : (k == 2) = false := by simp [h2]
    have HE : Hid (Lat.exT (m + 1) ⟨k, n, s, args⟩ = args.foldl (Lat.exStep (Lat.exT m)) (Lat.exHead ⟨k, n, s, args⟩) ++ (⟨#[41]⟩ : ByteArray)) := hide (by simp only [Lat.exT]; rw [if_neg h1, if_neg h2])
    have hfs : (args.foldl (Lat.exStep (Lat.exT m)) (Lat.exHead ⟨k, n, s, args⟩)).size ≤ 6291456 := by
      rw [HE.out, ByteArray.size_append] at hsize
      have e : (⟨#[41]⟩ : ByteArray).size = 1 := rfl
      omega
    have HFS := hide hfs
    have HHD : Hid (Lat.exHead ⟨k, n, s, args⟩ = (if k = 4 then (⟨#[40, 99, 97, 108, 108, 32]⟩ : ByteArray) else ⟨#[40]⟩) ++ s) := rfl
    generalize Lat.exHead ⟨k, n, s, args⟩ = hd at *
    obtain ⟨len, hlen⟩ : ∃ len, len = args.length := ⟨_, rfl⟩
    have HL := hide hlen
    rw [← hlen] at hl HA HT ⊢
    have q3 := boxCells4 w (.int .i64 k) (.int .i64 n) (.string s) (.slice a len cap) 103
    have HB0 := hide (boxBelow w (.cells #[.int .i64 k, .int .i64 n, .string s, .slice a len cap] 103))
    clear hlen hfs hsize hw h1 h2
    cases hk4 : (k == 4)
    case' false => rw [if_neg (by simpa using hk4)] at HHD
    case' true => rw [if_pos (by simpa using hk4)] at HHD
    all_goals
      go_enter Tryz.func182, Tryz.ntmps182
      go_wp2_with fail
      rw [← HHD.out]
      generalize (w.alloc (.cells #[.int .i64 k, .int .i64 n, .string s, .slice a len cap] 103)) = W0 at *
      go_loopw [3, 4] (fun o i wr => ∃ j : Nat, j ≤ len ∧ i = .int .i64 j ∧ o = .string ((args.take j).foldl (Lat.exStep (Lat.exT m)) hd) ∧ Below W0.heap.size W0 wr) (fun _ i _ => len - (intOf i).toNat)
      case atStart => exact ⟨0, Nat.zero_le _, rfl, rfl, Below.refl _ _⟩
      case round =>
        obtain ⟨j, hj, rfl, rfl, hnx⟩ := hrel
        have t3 := cellUp q3 hnx
        have hacc := Nat.le_trans (fold_take_size (t := Lat.exT m) args j hd) HFS.out
        by_cases hjl : j < len
        · obtain ⟨y, hy⟩ : ∃ y, args[j]? = some y := ⟨_, List.getElem?_eq_getElem (by rw [← HL.out]; exact hjl)⟩
          obtain ⟨e0, e1, e2, e3, g0, g1, g2, g3, hye⟩ := HEL.out j y hy
          obtain rfl := HA.out (by omega)
          have hbb := up HB0.out hnx
          have u0 := cellUp g0 hbb
          have u1 := cellUp g1 hbb
          have u2' := cellUp g2 hbb
          have u3' := cellUp g3 hbb
          have HYE := hide (hye.below hbb)
          have hys := exT_size hye
          have hyw := HW.out j y hy
          have hyt : (Lat.exT m y).size ≤ 6291456 := by omega
          have HST := hide (fold_take (t := Lat.exT m) hy hd)
          have HNX := hide hnx
          clear g0 g1 g2 g3 hye hy hbb hnx hys
          go_wp2_with fail
          refine (HI.out _ e0 e1 e2 e3 y HYE.out hyw (HT.out.below HNX.out)).mono ?_
          rintro e w5 ⟨rfl, hb5⟩
          have HN5 := hide (up HNX.out hb5)
          clear hb5 HNX
          generalize hty : Lat.exT m y = ty at *
          have HTY := hide hty
          clear hty
          generalize hac : (args.take j).foldl (Lat.exStep (Lat.exT m)) hd = acc at *
          have HAC := hide hac
          clear hac
          go_wp2_with fail
          go_roundw
          case rel => exact ⟨j + 1, by omega, by go_num, val_str (by rw [HST.out]; unfold Lat.exStep; rw [HTY.out]), HN5.out⟩
          case measure => simp [intOf]; omega
        · go_wp2_with fail
          go_ret
          exact ⟨ret_str (by rw [HE.out, List.take_of_length_le (by have := HL.out; omega)]), up HB0.out hnx⟩
end Go.Proofs.YtholefgckcoklaaGreatDoor
namespace Go.Proofs.YtholefgckcoklaaGreatDoor
open Go.RowKit
namespace Lat
def stT (et : Ex → ByteArray) (bt : List St → ByteArray) (s : St) (acc : ByteArray) : ByteArray :=
  if s.kind = 1 then acc ++ ((⟨#[40, 115, 101, 116, 32]⟩ : ByteArray) ++ s.name ++ (⟨#[32]⟩ : ByteArray) ++ et s.e ++ (⟨#[41]⟩ : ByteArray))
  else if s.kind = 4 then acc ++ ((⟨#[40, 112, 114, 105, 110, 116, 32]⟩ : ByteArray) ++ s.name ++ (⟨#[32]⟩ : ByteArray) ++ et s.e ++ (⟨#[41]⟩ : ByteArray))
  else if s.kind = 3 then acc ++ ((⟨#[40, 119, 104, 105, 108, 101, 32]⟩ : ByteArray) ++ et s.e ++ (⟨#[32, 40]⟩ : ByteArray) ++ bt s.a ++ (⟨#[41, 41]⟩ : ByteArray))
  else if s.kind = 2 then acc ++ ((⟨#[40, 105, 102, 32]⟩ : ByteArray) ++ et s.e ++ (⟨#[32, 40]⟩ : ByteArray) ++ bt s.a ++ (⟨#[41, 32, 40]⟩ : ByteArray) ++ bt s.b ++ (⟨#[41, 41]⟩ : ByteArray))
  else acc
def bdTo (et : Ex → ByteArray) (bt : List St → ByteArray) (l : List St) : Nat → ByteArray
  | 0 => ⟨#[]⟩
  | j + 1 => match l[j]? with
    | some s => stT et bt s (if 0 < j then bdTo et bt l j ++ (⟨#[32]⟩ : ByteArray) else bdTo et bt l j)
    | none => bdTo et bt l j
def bdT : Nat → List St → ByteArray
  | 0, _ => ⟨#[]⟩
  | m + 1, l => bdTo (exT m) (bdT m) l l.length
end Lat
theorem bdTo_succ {et : Ex → ByteArray} {bt : List St → ByteArray} {l : List St} {j : Nat} {s : St} (h : l[j]? = some s) :
    Lat.bdTo et bt l (j + 1) = Lat.stT et bt s (if 0 < j then Lat.bdTo et bt l j ++ (⟨#[32]⟩ : ByteArray) else Lat.bdTo et bt l j) := by
  simp only [Lat.bdTo, h]
theorem stT_size (et : Ex → ByteArray) (bt : List St → ByteArray) (s : St) (acc : ByteArray) : acc.size ≤ (Lat.stT et bt s acc).size ∧ (Lat.stT et bt s acc).size ≤ acc.size + s.name.size + (et s.e).size + (bt s.a).size + (bt s.b).size + 11 := by
  have z0 : (⟨#[40, 115, 101, 116, 32]⟩ : ByteArray).size = 5 := rfl
  have z1 : (⟨#[40, 112, 114, 105, 110, 116, 32]⟩ : ByteArray).size = 7 := rfl
  have z2 : (⟨#[40, 119, 104, 105, 108, 101, 32]⟩ : ByteArray).size = 7 := rfl
  have z3 : (⟨#[40, 105, 102, 32]⟩ : ByteArray).size = 4 := rfl
  have z4 : (⟨#[32, 40]⟩ : ByteArray).size = 2 := rfl
  have z5 : (⟨#[41, 41]⟩ : ByteArray).size = 2 := rfl
  have z6 : (⟨#[41, 32, 40]⟩ : ByteArray).size = 3 := rfl
  have z7 : (⟨#[32]⟩ : ByteArray).size = 1 := rfl
  have z8 : (⟨#[41]⟩ : ByteArray).size = 1 := rfl
  unfold Lat.stT
  repeat' split
  all_goals (try simp only [ByteArray.size_append, z0, z1, z2, z3, z4, z5, z6, z7, z8])
  all_goals omega
def stW (m : Nat) (s : St) : Nat := s.name.size + 3 + exW m s.e + stsW m s.a + stsW m s.b
theorem stsW_succ (m : Nat) (l : List St) : stsW (m + 1) l = (l.map (stW m)).sum + 1 := rfl
theorem sum_take_succ {f : St → Nat} {l : List St} {j : Nat} {s : St} (h : l[j]? = some s) : ((l.take (j + 1)).map f).sum = ((l.take j).map f).sum + f s := by
  obtain ⟨hj, rfl⟩ := List.getElem?_eq_some_iff.1 h
  rw [List.take_succ_eq_append_getElem hj, List.map_append, List.sum_append]; simp
theorem sum_take_le {f : St → Nat} (l : List St) (j : Nat) : ((l.take j).map f).sum ≤ (l.map f).sum := by
  conv => rhs; rw [← List.take_append_drop j l]
  rw [List.map_append, List.sum_append]; omega
theorem bdTo_size {m : Nat} {l : List St} (h : ∀ (i : Nat) (s : St), l[i]? = some s → (Lat.exT m s.e).size + 1 ≤ 6 * exW m s.e ∧ (Lat.bdT m s.a).size + 1 ≤ 6 * stsW m s.a ∧ (Lat.bdT m s.b).size + 1 ≤ 6 * stsW m s.b) :
    ∀ j, j ≤ l.length → (Lat.bdTo (Lat.exT m) (Lat.bdT m) l j).size ≤ 6 * ((l.take j).map (stW m)).sum
  | 0, _ => Nat.zero_le _
  | j + 1, hj => by
    have ih := bdTo_size h j (by omega)
    obtain ⟨s, hs⟩ : ∃ s, l[j]? = some s := ⟨_, List.getElem?_eq_getElem (by omega)⟩
    rw [bdTo_succ hs, sum_take_succ hs]
    have h1 := (stT_size (Lat.exT m) (Lat.bdT m) s (if 0 < j then Lat.bdTo (Lat.exT m) (Lat.bdT m) l j ++ (⟨#[32]⟩ : ByteArray) else Lat.bdTo (Lat.exT m) (Lat.bdT m) l j)).2
    have h2 : (if 0 < j then Lat.bdTo (Lat.exT m) (Lat.bdT m) l j ++ (⟨#[32]⟩ : ByteArray) else Lat.bdTo (Lat.exT m) (Lat.bdT m) l j).size ≤ (Lat.bdTo (Lat.exT m) (Lat.bdT m) l j).size + 1 := by
      split
      · rw [ByteArray.size_append]; exact Nat.le_refl _
      · omega
    obtain ⟨g1, g2, g3⟩ := h j s hs
    have hst : stW m s = s.name.size + 3 + exW m s.e + stsW m s.a + stsW m s.b := rfl
    omega
theorem bdT_size {w : World} : ∀ {m : Nat} {v : Value} {l : List St}, StsAt w m v l → (Lat.bdT m l).size + 1 ≤ 6 * stsW m l
  | 0, _, _, h => False.elim h
  | m + 1, v, l, h => by
    obtain ⟨a, b, off, cap, _, _, _, h9⟩ := h
    have := bdTo_size (m := m) (l := l) (fun i s hs => by
      obtain ⟨_, _, e0, e1, e2, e3, va, vb, _, _, _, _, _, _, _, _, hx, ha, hb⟩ := h9 i s hs
      exact ⟨exT_size hx, bdT_size ha, bdT_size hb⟩) l.length (Nat.le_refl _)
    rw [List.take_length] at this
    rw [stsW_succ]
    simp only [Lat.bdT]
    omega
set_option maxHeartbeats 4000000 in
set_option maxRecDepth 100000 in
theorem bodyText_any (m : Nat) : ∀ (w : World) (v : Value) (l : List St), StsAt w m v l → stsW m l ≤ 1048576 → Tab w →
    Calls Tryz.prog 181 #[v] w fun e w' => e = .returned (.string (Lat.bdT m l)) ∧ Below w.heap.size w w' := by
  induction m with
  | zero => intro w v l h; exact False.elim h
  | succ m ih =>
    intro w v l h hw ht
    have HI := hide ih
    clear ih
    obtain ⟨a, b, off, cap, rfl, ha, hl, hel⟩ := h
    have HEL := hide hel
    have HA := hide ha
    have HT := hide ht
    have HW : Hid (∀ (i : Nat) (s : St), l[i]? = some s → stW m s ≤ 1048576) := hide (fun i y hy => by
      have : stW m y ≤ (l.map (stW m)).sum := mem_le_sum (List.mem_of_getElem? hy)
      rw [stsW_succ] at hw; omega)
    have HSZ : Hid (∀ j, j ≤ l.length → (Lat.bdTo (Lat.exT m) (Lat.bdT m) l j).size ≤ 6291456) := hide (fun j hj => by
      have h1 := bdTo_size (m := m) (l := l) (fun i s hs => by
        obtain ⟨_, _, e0, e1, e2, e3, va, vb, _, _, _, _, _, _, _, _, hx, ha, hb⟩ := hel i s hs
        exact ⟨exT_size hx, bdT_size ha, bdT_size hb⟩) j hj
      have h2 := sum_take_le (f := stW m) l j
      rw [stsW_succ] at hw; omega)
    have HE : Hid (Lat.bdT (m + 1) l = Lat.bdTo (Lat.exT m) (Lat.bdT m) l l.length) := rfl
    clear hel ha ht hw
    obtain ⟨len, hlen⟩ : ∃ len, len = l.length := ⟨_, rfl⟩
    have HL := hide hlen
    rw [← hlen] at hl HA HE HSZ ⊢
    clear hlen
    go_enter Tryz.func181, Tryz.ntmps181
    go_wp2_with fail
    go_loopw [3, 4] (fun o i wr => ∃ j : Nat, j ≤ len ∧ i = .int .i64 j ∧ o = .string (Lat.bdTo (Lat.exT m) (Lat.bdT m) l j) ∧ Below w.heap.size w wr) (fun _ i _ => len - (intOf i).toNat)
    case atStart => exact ⟨0, Nat.zero_le _, rfl, rfl, Below.refl _ _⟩
    case round =>
      obtain ⟨j, hj, rfl, rfl, hnx⟩ := hrel
      by_cases hjl : j < len
      · obtain ⟨y, hy⟩ : ∃ y, l[j]? = some y := ⟨_, List.getElem?_eq_getElem (by rw [← HL.out]; exact hjl)⟩
        obtain ⟨hsk, hsn, e0, e1, e2, e3, va, vb, g0, g1, g2, g3, g4, g5, g6, g7, hxe, hsa, hsb⟩ := HEL.out j y hy
        obtain rfl := HA.out (by omega)
        have hyw := HW.out j y hy
        have hacc := HSZ.out j (by omega)
        have HST := hide (bdTo_succ (et := Lat.exT m) (bt := Lat.bdT m) hy)
        have s1 := exT_size hxe
        have s2 := bdT_size hsa
        have s3 := bdT_size hsb
        obtain ⟨k, sn, se, sa, sb⟩ := y
        simp only at hsk hsn g0 g1 hxe hsa hsb s1 s2 s3 HST
        have hye : exW m se ≤ 1048576 := by unfold stW at hyw; simp only at hyw; omega
        have hya : stsW m sa ≤ 1048576 := by unfold stW at hyw; simp only at hyw; omega
        have hyb : stsW m sb ≤ 1048576 := by unfold stW at hyw; simp only at hyw; omega
        have hyn : sn.size ≤ 1048576 := by unfold stW at hyw; simp only at hyw; omega
        have s1' : (Lat.exT m se).size ≤ 6291456 := by omega
        have s2' : (Lat.bdT m sa).size ≤ 6291456 := by omega
        have s3' : (Lat.bdT m sb).size ≤ 6291456 := by omega
        have HX := hide hxe
        have HSA := hide hsa
        have HSB := hide hsb
        clear hxe hsa hsb hy s1 s2 s3 hyw
        have u0 := cellUp g0 hnx
        have u1 := cellUp g1 hnx
        have u2' := cellUp g2 hnx
        have u3' : wr.cell? ⟨b, off + j * 8 + 2 + 1, none⟩ = some e1 := cellUp g3 hnx
        have u4' : wr.cell? ⟨b, off + j * 8 + 2 + 2, none⟩ = some e2 := cellUp g4 hnx
        have u5' : wr.cell? ⟨b, off + j * 8 + 2 + 3, none⟩ = some e3 := cellUp g5 hnx
        have u6' := cellUp g6 hnx
        have u7' := cellUp g7 hnx
        have HNX := hide hnx
        clear g0 g1 g2 g3 g4 g5 g6 g7 hnx
        generalize hac : Lat.bdTo (Lat.exT m) (Lat.bdT m) l j = acc at *
        have HAC := hide hac
        clear hac
        by_cases hj0 : 0 < j
        · rw [if_pos hj0] at HST
          go_wp2_with fail
          refine (exprText_any m _ e0 e1 e2 e3 se (HX.out.below HNX.out) hye (HT.out.below HNX.out)).mono ?_
          rintro e w5 ⟨rfl, hb5⟩
          replace u0 := cellUp u0 hb5
          replace u1 := cellUp u1 hb5
          replace u6' := cellUp u6' hb5
          replace u7' := cellUp u7' hb5
          have HN := hide (up HNX.out hb5)
          clear hb5 HNX u2' u3' u4' u5'
          generalize hac2 : acc ++ (⟨#[32]⟩ : ByteArray) = acc2 at *
          have hacc2 : acc2.size ≤ 6291457 := by rw [← hac2, ByteArray.size_append]; show acc.size + 1 ≤ _; omega
          clear hac2
          generalize hte : Lat.exT m se = te at *
          have HTE := hide hte
          clear hte
          by_cases k1 : k = 1
          · subst k1
            go_wp2_with fail
            go_roundw
            case rel => exact ⟨j + 1, by omega, by go_num, val_str (by rw [HST.out]; simp [Lat.stT, HTE.out]), HN.out⟩
            case measure => simp [intOf]; omega
          by_cases k4 : k = 4
          · subst k4
            go_wp2_with fail
            go_roundw
            case rel => exact ⟨j + 1, by omega, by go_num, val_str (by rw [HST.out]; simp [Lat.stT, HTE.out]), HN.out⟩
            case measure => simp [intOf]; omega
          by_cases k3 : k = 3
          · subst k3
            go_wp2_with fail
            refine (HI.out _ va sa (HSA.out.below HN.out) hya (HT.out.below HN.out)).mono ?_
            rintro e w6 ⟨rfl, hb6⟩
            have HN6 := hide (up HN.out hb6)
            clear hb6 HN
            generalize hta : Lat.bdT m sa = ta at *
            have HTA := hide hta
            clear hta
            go_wp2_with fail
            go_roundw
            case rel => exact ⟨j + 1, by omega, by go_num, val_str (by rw [HST.out]; simp [Lat.stT, HTE.out, HTA.out]), HN6.out⟩
            case measure => simp [intOf]; omega
          by_cases k2 : k = 2
          · subst k2
            have HF : Hid (∀ wx, Hid (Below w5.heap.size w5 wx) → Hid (Below w5.heap.size w5 wx) ∧ wx.cell? ⟨b, off + j * 8 + 6, none⟩ = some va ∧ wx.cell? ⟨b, off + j * 8 + 7, none⟩ = some vb) :=
              fun wx h => ⟨h, cellUp u6' h.out, cellUp u7' h.out⟩
            have H00 : Hid (Below w5.heap.size w5 w5) := hide (Below.refl _ _)
            have b1 : (0 : Int) ≤ (j : Int) := by omega
            have b2 : (j : Int) < (len : Int) := by omega
            generalize hta : Lat.bdT m sa = ta at *
            have HTA := hide hta
            clear hta
            generalize htb : Lat.bdT m sb = tb at *
            have HTB := hide htb
            clear htb u6' u7'
            have q1 : ¬ (9223372036854775807 < 4 + te.size) := by omega
            have q2 : ¬ (9223372036854775807 < 4 + te.size + 2) := by omega
            have q3 : ¬ (9223372036854775807 < 4 + te.size + 2 + ta.size) := by omega
            have q4 : ¬ (9223372036854775807 < 4 + te.size + 2 + ta.size + 3) := by omega
            have q5 : ¬ (9223372036854775807 < 4 + te.size + 2 + ta.size + 3 + tb.size) := by omega
            have q6 : ¬ (9223372036854775807 < 4 + te.size + 2 + ta.size + 3 + tb.size + 2) := by omega
            have q7 : ¬ (9223372036854775807 < acc2.size + (4 + te.size + 2 + ta.size + 3 + tb.size + 2)) := by omega
            go_wp2_with fail
            go_region_held3 (fun wx => Hid (Below w5.heap.size w5 wx) ∧ wx.cell? ⟨b, off + j * 8 + 6, none⟩ = some va ∧ wx.cell? ⟨b, off + j * 8 + 7, none⟩ = some vb)
              (first | exact HF.out _ HW31 | exact HF.out _ HW30 | exact HF.out _ (hide H00.out.drew))
              (first
                | (go_at_call_of 181 (va); refine (HI.out _ va sa ?_ hya ?_).mono ?_; (exact HSA.out.below (up HN.out H00.out.drew)); (exact HT.out.below (up HN.out H00.out.drew)); rintro e w30 ⟨rfl, hb30⟩; have HW30 := hide (up H00.out.drew hb30); clear hb30; rw [HTA.out])
                | (go_at_call_of 181 (vb); refine (HI.out _ vb sb ?_ hyb ?_).mono ?_; (exact HSB.out.below (up HN.out HW30.out)); (exact HT.out.below (up HN.out HW30.out)); rintro e w31 ⟨rfl, hb31⟩; have HW31 := hide (up HW30.out hb31); clear hb31; rw [HTB.out]))
            all_goals
              go_wp2_with fail
              go_roundw
              case rel => exact ⟨j + 1, by omega, by go_num, val_str (by rw [HST.out]; simp [Lat.stT, HTE.out, HTA.out, HTB.out]), up HN.out HW31.out⟩
              case measure => simp [intOf]; omega
          have k1' : (k == 1) = false := by simp [k1]
          have k2' : (k == 2) = false := by simp [k2]
          have k3' : (k == 3) = false := by simp [k3]
          have k4' : (k == 4) = false := by simp [k4]
          have HO := hide (show Lat.stT (Lat.exT m) (Lat.bdT m) ⟨k, sn, se, sa, sb⟩ acc2 = acc2 by simp [Lat.stT, k1, k2, k3, k4])
          clear k1 k2 k3 k4
          go_wp2_with fail
          go_roundw
          case rel => exact ⟨j + 1, by omega, by go_num, val_str (by rw [HST.out, HO.out]), HN.out⟩
          case measure => simp [intOf]; omega
        · rw [if_neg hj0] at HST
          go_wp2_with fail
          refine (exprText_any m _ e0 e1 e2 e3 se (HX.out.below HNX.out) hye (HT.out.below HNX.out)).mono ?_
          rintro e w5 ⟨rfl, hb5⟩
          replace u0 := cellUp u0 hb5
          replace u1 := cellUp u1 hb5
          replace u6' := cellUp u6' hb5
          replace u7' := cellUp u7' hb5
          have HN := hide (up HNX.out hb5)
          clear hb5 HNX u2' u3' u4' u5'
          generalize hte : Lat.exT m se = te at *
          have HTE := hide hte
          clear hte
          by_cases k1 : k = 1
          · subst k1
            go_wp2_with fail
            go_roundw
            case rel => exact ⟨j + 1, by omega, by go_num, val_str (by rw [HST.out]; simp [Lat.stT, HTE.out]), HN.out⟩
            case measure => simp [intOf]; omega
          by_cases k4 : k = 4
          · subst k4
            go_wp2_with fail
            go_roundw
            case rel => exact ⟨j + 1, by omega, by go_num, val_str (by rw [HST.out]; simp [Lat.stT, HTE.out]), HN.out⟩
            case measure => simp [intOf]; omega
          by_cases k3 : k = 3
          · subst k3
            go_wp2_with fail
            refine (HI.out _ va sa (HSA.out.below HN.out) hya (HT.out.below HN.out)).mono ?_
            rintro e w6 ⟨rfl, hb6⟩
            have HN6 := hide (up HN.out hb6)
            clear hb6 HN
            generalize hta : Lat.bdT m sa = ta at *
            have HTA := hide hta
            clear hta
            go_wp2_with fail
            go_roundw
            case rel => exact ⟨j + 1, by omega, by go_num, val_str (by rw [HST.out]; simp [Lat.stT, HTE.out, HTA.out]), HN6.out⟩
            case measure => simp [intOf]; omega
          by_cases k2 : k = 2
          · subst k2
            have HF : Hid (∀ wx, Hid (Below w5.heap.size w5 wx) → Hid (Below w5.heap.size w5 wx) ∧ wx.cell? ⟨b, off + j * 8 + 6, none⟩ = some va ∧ wx.cell? ⟨b, off + j * 8 + 7, none⟩ = some vb) :=
              fun wx h => ⟨h, cellUp u6' h.out, cellUp u7' h.out⟩
            have H00 : Hid (Below w5.heap.size w5 w5) := hide (Below.refl _ _)
            have b1 : (0 : Int) ≤ (j : Int) := by omega
            have b2 : (j : Int) < (len : Int) := by omega
            generalize hta : Lat.bdT m sa = ta at *
            have HTA := hide hta
            clear hta
            generalize htb : Lat.bdT m sb = tb at *
            have HTB := hide htb
            clear htb u6' u7'
            have q1 : ¬ (9223372036854775807 < 4 + te.size) := by omega
            have q2 : ¬ (9223372036854775807 < 4 + te.size + 2) := by omega
            have q3 : ¬ (9223372036854775807 < 4 + te.size + 2 + ta.size) := by omega
            have q4 : ¬ (9223372036854775807 < 4 + te.size + 2 + ta.size + 3) := by omega
            have q5 : ¬ (9223372036854775807 < 4 + te.size + 2 + ta.size + 3 + tb.size) := by omega
            have q6 : ¬ (9223372036854775807 < 4 + te.size + 2 + ta.size + 3 + tb.size + 2) := by omega
            have q7 : ¬ (9223372036854775807 < acc.size + (4 + te.size + 2 + ta.size + 3 + tb.size + 2)) := by omega
            go_wp2_with fail
            go_region_held3 (fun wx => Hid (Below w5.heap.size w5 wx) ∧ wx.cell? ⟨b, off + j * 8 + 6, none⟩ = some va ∧ wx.cell? ⟨b, off + j * 8 + 7, none⟩ = some vb)
              (first | exact HF.out _ HW31 | exact HF.out _ HW30 | exact HF.out _ (hide H00.out.drew))
              (first
                | (go_at_call_of 181 (va); refine (HI.out _ va sa ?_ hya ?_).mono ?_; (exact HSA.out.below (up HN.out H00.out.drew)); (exact HT.out.below (up HN.out H00.out.drew)); rintro e w30 ⟨rfl, hb30⟩; have HW30 := hide (up H00.out.drew hb30); clear hb30; rw [HTA.out])
                | (go_at_call_of 181 (vb); refine (HI.out _ vb sb ?_ hyb ?_).mono ?_; (exact HSB.out.below (up HN.out HW30.out)); (exact HT.out.below (up HN.out HW30.out)); rintro e w31 ⟨rfl, hb31⟩; have HW31 := hide (up HW30.out hb31); clear hb31; rw [HTB.out]))
            all_goals
              go_wp2_with fail
              go_roundw
              case rel => exact ⟨j + 1, by omega, by go_num, val_str (by rw [HST.out]; simp [Lat.stT, HTE.out, HTA.out, HTB.out]), up HN.out HW31.out⟩
              case measure => simp [intOf]; omega
          have k1' : (k == 1) = false := by simp [k1]
          have k2' : (k == 2) = false := by simp [k2]
          have k3' : (k == 3) = false := by simp [k3]
          have k4' : (k == 4) = false := by simp [k4]
          have HO := hide (show Lat.stT (Lat.exT m) (Lat.bdT m) ⟨k, sn, se, sa, sb⟩ acc = acc by simp [Lat.stT, k1, k2, k3, k4])
          clear k1 k2 k3 k4
          go_wp2_with fail
          go_roundw
          case rel => exact ⟨j + 1, by omega, by go_num, val_str (by rw [HST.out, HO.out]), HN.out⟩
          case measure => simp [intOf]; omega
      · go_wp2_with fail
        go_ret
        have e : j = len := by omega
        exact ⟨ret_str (by rw [HE.out, e]), hnx⟩
end Go.Proofs.YtholefgckcoklaaGreatDoor
namespace Go.Proofs.YtholefgckcoklaaGreatDoor
namespace Lat
structure Ord (Z : Nat → Nat → Bool) (n : Nat) : Prop where
  refl : ∀ a, a < n → Z a a = true
  anti : ∀ a b, a < n → b < n → Z a b = true → Z b a = true → a = b
  trans : ∀ a b c, a < n → b < n → c < n → Z a b = true → Z b c = true → Z a c = true
theorem ord_of {Z : Nat → Nat → Bool} {n : Nat} (h : orderB Z n = true) : Ord Z n := by
  have hp : ∀ a, a < n → Z a a = true ∧ ∀ b, b < n → Z a b = true → (a ≠ b → Z b a = false) ∧ ∀ c, c < n → Z b c = true → Z a c = true := by
    intro a ha
    have h1 := all_get h ha
    unfold orderP at h1
    obtain ⟨h2, h3⟩ := Bool.and_eq_true_iff.1 h1
    refine ⟨h2, fun b hb hab => ?_⟩
    have h4 := all_get h3 hb
    unfold orderR at h4
    rw [hab] at h4
    have h5 : fitsB Z n a b = true := by simpa using h4
    unfold fitsB at h5
    obtain ⟨h6, h7⟩ := Bool.and_eq_true_iff.1 h5
    refine ⟨fun hne => ?_, fun c hc hbc => ?_⟩
    · simpa [hne] using h6
    · have h8 := all_get h7 hc
      unfold fitsP at h8
      rw [hbc] at h8
      simpa using h8
  refine ⟨fun a ha => (hp a ha).1, fun a b ha hb hab hba => ?_, fun a b c ha hb hc hab hbc => ((hp a ha).2 b hb hab).2 c hc hbc⟩
  by_cases e : a = b
  · exact e
  · have := ((hp a ha).2 b hb hab).1 e
    rw [this] at hba; cases hba
theorem Ord.turn {Z : Nat → Nat → Bool} {n : Nat} (h : Ord Z n) : Ord (tr Z) n :=
  ⟨h.refl, fun a b ha hb hab hba => h.anti a b ha hb hba hab, fun a b c ha hb hc hab hbc => h.trans c b a hc hb ha hbc hab⟩
structure IsJoin (Z : Nat → Nat → Bool) (n a b c : Nat) : Prop where
  lt : c < n
  left : Z a c = true
  right : Z b c = true
  least : ∀ d, d < n → Z a d = true → Z b d = true → Z c d = true
theorem join_spec {Z : Nat → Nat → Bool} {n a b c : Nat} (h : joinO Z n a b = some c) : IsJoin Z n a b c := by
  obtain ⟨h1, h2⟩ := find_spec h
  unfold joinP at h2
  simp only [Bool.and_eq_true] at h2
  refine ⟨h1, h2.1.1, h2.1.2, fun d hd had hbd => ?_⟩
  have := all_get h2.2 hd
  rw [had, hbd] at this
  simpa using this
theorem joinP_of {Z : Nat → Nat → Bool} {n a b c : Nat} (h : IsJoin Z n a b c) : joinP Z n a b c = true := by
  unfold joinP
  rw [h.left, h.right]
  simp only [Bool.and_self, Bool.true_and]
  refine all_true fun d hd => ?_
  cases had : Z a d <;> cases hbd : Z b d <;> simp
  exact h.least d hd had hbd
theorem IsJoin.symm {Z : Nat → Nat → Bool} {n a b c : Nat} (h : IsJoin Z n a b c) : IsJoin Z n b a c :=
  ⟨h.lt, h.right, h.left, fun d hd hb ha => h.least d hd ha hb⟩
theorem isSome_of_join {Z : Nat → Nat → Bool} {n a b c : Nat} (h : IsJoin Z n a b c) : ∃ d, joinO Z n a b = some d := by
  cases hj : joinO Z n a b with
  | some d => exact ⟨d, rfl⟩
  | none =>
    exfalso
    have := List.find?_eq_none.1 hj c (List.mem_range.2 h.lt)
    exact this (joinP_of h)
structure Joins (Z : Nat → Nat → Bool) (n : Nat) : Prop extends Ord Z n where
  has : ∀ a b, a < n → b < n → ∃ c, joinO Z n a b = some c
theorem joins_of {Z : Nat → Nat → Bool} {n : Nat} (o : Ord Z n) (h : joinsB Z n = true) : Joins Z n := by
  have hlt : ∀ a b, a < n → b < a → ∃ c, joinO Z n a b = some c := by
    intro a b ha hb
    have h1 := all_get (all_get h ha) hb
    unfold joinsP at h1
    exact Option.isSome_iff_exists.1 h1
  refine ⟨o, fun a b ha hb => ?_⟩
  rcases Nat.lt_trichotomy b a with hba | hba | hba
  · exact hlt a b ha hba
  · subst hba
    exact isSome_of_join (c := b) ⟨hb, o.refl b hb, o.refl b hb, fun d _ h _ => h⟩
  · obtain ⟨c, hc⟩ := hlt b a hb hba
    exact isSome_of_join (join_spec hc).symm
variable {Z : Nat → Nat → Bool} {n : Nat}
theorem Joins.spec (h : Joins Z n) {a b : Nat} (ha : a < n) (hb : b < n) : IsJoin Z n a b (joinN Z n a b) := by
  obtain ⟨c, hc⟩ := h.has a b ha hb
  unfold joinN
  rw [hc]
  exact join_spec hc
theorem Joins.lt (h : Joins Z n) {a b : Nat} (ha : a < n) (hb : b < n) : joinN Z n a b < n := (h.spec ha hb).lt
end Lat
end Go.Proofs.YtholefgckcoklaaGreatDoor
