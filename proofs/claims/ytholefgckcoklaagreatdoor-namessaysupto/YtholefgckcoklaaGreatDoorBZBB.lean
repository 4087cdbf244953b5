/- Walks over package downref: bodyText answers the text of commands. -/
import Derived.Test.YtholefgckcoklaaGreatDoorBZAX
import Derived.Deep.RegionHeld3
namespace Go.Proofs.YtholefgckcoklaaGreatDoor
open Go.RowKit
namespace Lat
def stT (et : Ex → ByteArray) (bt : List St → ByteArray) (s : St) (acc : ByteArray) : ByteArray :=
  if s.kind = 1 then acc ++ ((⟨#[40, 115, 101, 116, 32]⟩ : ByteArray) ++ s.name ++ (⟨#[32]⟩ : ByteArray) ++ et s.e ++ (⟨#[41]⟩ : ByteArray))
  else if s.kind = 4 then acc ++ ((⟨#[40, 112, 114, 105, 110, 116, 32]⟩ : ByteArray) ++ s.name ++ (⟨#[32]⟩ : ByteArray) ++ et s.e ++ (⟨#[41]⟩ : ByteArray))
  else if s.kind = 3 then acc ++ ((⟨#[40, 119, 104, 105, 108, 101, 32]⟩ : ByteArray) ++ et s.e ++ (⟨#[32, 40]⟩ : ByteArray) ++ bt s.a ++ (⟨#[41, 41]⟩ : ByteArray))
  else if s.kind = 2 then acc ++ ((⟨#[40, 105, 102, 32]⟩ : ByteArray) ++ et s.e ++ (⟨#[32, 40]⟩ : ByteArray) ++ bt s.a ++ (⟨#[41, 32, 40]⟩ : ByteArray) ++ bt s.b ++ (⟨#[41, 41]⟩ : ByteArray))
  else acc
def bdTo (et : Ex → ByteArray) (bt : List St → ByteArray) (l : List St) : Nat → ByteArray
  | 0 => ⟨#[]⟩
  | j + 1 => match l[j]? with
    | some s => stT et bt s (if 0 < j then bdTo et bt l j ++ (⟨#[32]⟩ : ByteArray) else bdTo et bt l j)
    | none => bdTo et bt l j
def bdT : Nat → List St → ByteArray
  | 0, _ => ⟨#[]⟩
  | m + 1, l => bdTo (exT m) (bdT m) l l.length
end Lat
theorem bdTo_succ {et : Ex → ByteArray} {bt : List St → ByteArray} {l : List St} {j : Nat} {s : St} (h : l[j]? = some s) :
    Lat.bdTo et bt l (j + 1) = Lat.stT et bt s (if 0 < j then Lat.bdTo et bt l j ++ (⟨#[32]⟩ : ByteArray) else Lat.bdTo et bt l j) := by
  simp only [Lat.bdTo, h]
theorem stT_size (et : Ex → ByteArray) (bt : List St → ByteArray) (s : St) (acc : ByteArray) : acc.size ≤ (Lat.stT et bt s acc).size ∧ (Lat.stT et bt s acc).size ≤ acc.size + s.name.size + (et s.e).size + (bt s.a).size + (bt s.b).size + 11 := by
  have z0 : (⟨#[40, 115, 101, 116, 32]⟩ : ByteArray).size = 5 := rfl
  have z1 : (⟨#[40, 112, 114, 105, 110, 116, 32]⟩ : ByteArray).size = 7 := rfl
  have z2 : (⟨#[40, 119, 104, 105, 108, 101, 32]⟩ : ByteArray).size = 7 := rfl
  have z3 : (⟨#[40, 105, 102, 32]⟩ : ByteArray).size = 4 := rfl
  have z4 : (⟨#[32, 40]⟩ : ByteArray).size = 2 := rfl
  have z5 : (⟨#[41, 41]⟩ : ByteArray).size = 2 := rfl
  have z6 : (⟨#[41, 32, 40]⟩ : ByteArray).size = 3 := rfl
  have z7 : (⟨#[32]⟩ : ByteArray).size = 1 := rfl
  have z8 : (⟨#[41]⟩ : ByteArray).size = 1 := rfl
  unfold Lat.stT
  repeat' split
  all_goals (try simp only [ByteArray.size_append, z0, z1, z2, z3, z4, z5, z6, z7, z8])
  all_goals omega
def stW (m : Nat) (s : St) : Nat := s.name.size + 3 + exW m s.e + stsW m s.a + stsW m s.b
theorem stsW_succ (m : Nat) (l : List St) : stsW (m + 1) l = (l.map (stW m)).sum + 1 := rfl
theorem sum_take_succ {f : St → Nat} {l : List St} {j : Nat} {s : St} (h : l[j]? = some s) : ((l.take (j + 1)).map f).sum = ((l.take j).map f).sum + f s := by
  obtain ⟨hj, rfl⟩ := List.getElem?_eq_some_iff.1 h
  rw [List.take_succ_eq_append_getElem hj, List.map_append, List.sum_append]; simp
theorem sum_take_le {f : St → Nat} (l : List St) (j : Nat) : ((l.take j).map f).sum ≤ (l.map f).sum := by
  conv => rhs; rw [← List.take_append_drop j l]
  rw [List.map_append, List.sum_append]; omega
theorem bdTo_size {m : Nat} {l : List St} (h : ∀ (i : Nat) (s : St), l[i]? = some s → (Lat.exT m s.e).size + 1 ≤ 6 * exW m s.e ∧ (Lat.bdT m s.a).size + 1 ≤ 6 * stsW m s.a ∧ (Lat.bdT m s.b).size + 1 ≤ 6 * stsW m s.b) :
    ∀ j, j ≤ l.length → (Lat.bdTo (Lat.exT m) (Lat.bdT m) l j).size ≤ 6 * ((l.take j).map (stW m)).sum
  | 0, _ => Nat.zero_le _
  | j + 1, hj => by
    have ih := bdTo_size h j (by omega)
    obtain ⟨s, hs⟩ : ∃ s, l[j]? = some s := ⟨_, List.getElem?_eq_getElem (by omega)⟩
    rw [bdTo_succ hs, sum_take_succ hs]
    have h1 := (stT_size (Lat.exT m) (Lat.bdT m) s (if 0 < j then Lat.bdTo (Lat.exT m) (Lat.bdT m) l j ++ (⟨#[32]⟩ : ByteArray) else Lat.bdTo (Lat.exT m) (Lat.bdT m) l j)).2
    have h2 : (if 0 < j then Lat.bdTo (Lat.exT m) (Lat.bdT m) l j ++ (⟨#[32]⟩ : ByteArray) else Lat.bdTo (Lat.exT m) (Lat.bdT m) l j).size ≤ (Lat.bdTo (Lat.exT m) (Lat.bdT m) l j).size + 1 := by
      split
      · rw [ByteArray.size_append]; exact Nat.le_refl _
      · omega
    obtain ⟨g1, g2, g3⟩ := h j s hs
    have hst : stW m s = s.name.size + 3 + exW m s.e + stsW m s.a + stsW m s.b := rfl
    omega
theorem bdT_size {w : World} : ∀ {m : Nat} {v : Value} {l : List St}, StsAt w m v l → (Lat.bdT m l).size + 1 ≤ 6 * stsW m l
  | 0, _, _, h => False.elim h
  | m + 1, v, l, h => by
    obtain ⟨a, b, off, cap, _, _, _, h9⟩ := h
    have := bdTo_size (m := m) (l := l) (fun i s hs => by
      obtain ⟨_, _, e0, e1, e2, e3, va, vb, _, _, _, _, _, _, _, _, hx, ha, hb⟩ := h9 i s hs
      exact ⟨exT_size hx, bdT_size ha, bdT_size hb⟩) l.length (Nat.le_refl _)
    rw [List.take_length] at this
    rw [stsW_succ]
    simp only [Lat.bdT]
    omega
set_option maxHeartbeats 4000000 in
set_option maxRecDepth 100000 in
theorem bodyText_any (m : Nat) : ∀ (w : World) (v : Value) (l : List St), StsAt w m v l → stsW m l ≤ 1048576 → Tab w →
    Calls Tryz.prog 181 #[v] w fun e w' => e = .returned (.string (Lat.bdT m l)) ∧ Below w.heap.size w w' := by
  induction m with
  | zero => intro w v l h; exact False.elim h
  | succ m ih =>
    intro w v l h hw ht
    have HI := hide ih
    clear ih
    obtain ⟨a, b, off, cap, rfl, ha, hl, hel⟩ := h
    have HEL := hide hel
    have HA := hide ha
    have HT := hide ht
    have HW : Hid (∀ (i : Nat) (s : St), l[i]? = some s → stW m s ≤ 1048576) := hide (fun i y hy => by
      have : stW m y ≤ (l.map (stW m)).sum := mem_le_sum (List.mem_of_getElem? hy)
      rw [stsW_succ] at hw; omega)
    have HSZ : Hid (∀ j, j ≤ l.length → (Lat.bdTo (Lat.exT m) (Lat.bdT m) l j).size ≤ 6291456) := hide (fun j hj => by
      have h1 := bdTo_size (m := m) (l := l) (fun i s hs => by
        obtain ⟨_, _, e0, e1, e2, e3, va, vb, _, _, _, _, _, _, _, _, hx, ha, hb⟩ := hel i s hs
        exact ⟨exT_size hx, bdT_size ha, bdT_size hb⟩) j hj
      have h2 := sum_take_le (f := stW m) l j
      rw [stsW_succ] at hw; omega)
    have HE : Hid (Lat.bdT (m + 1) l = Lat.bdTo (Lat.exT m) (Lat.bdT m) l l.length) := rfl
    clear hel ha ht hw
    obtain ⟨len, hlen⟩ : ∃ len, len = l.length := ⟨_, rfl⟩
    have HL := hide hlen
    rw [← hlen] at hl HA HE HSZ ⊢
    clear hlen
    go_enter Tryz.func181, Tryz.ntmps181
    go_wp2_with fail
    go_loopw [3, 4] (fun o i wr => ∃ j : Nat, j ≤ len ∧ i = .int .i64 j ∧ o = .string (Lat.bdTo (Lat.exT m) (Lat.bdT m) l j) ∧ Below w.heap.size w wr) (fun _ i _ => len - (intOf i).toNat)
    case atStart => exact ⟨0, Nat.zero_le _, rfl, rfl, Below.refl _ _⟩
    case round =>
      obtain ⟨j, hj, rfl, rfl, hnx⟩ := hrel
      by_cases hjl : j < len
      · obtain ⟨y, hy⟩ : ∃ y, l[j]? = some y := ⟨_, List.getElem?_eq_getElem (by rw [← HL.out]; exact hjl)⟩
        obtain ⟨hsk, hsn, e0, e1, e2, e3, va, vb, g0, g1, g2, g3, g4, g5, g6, g7, hxe, hsa, hsb⟩ := HEL.out j y hy
        obtain rfl := HA.out (by omega)
        have hyw := HW.out j y hy
        have hacc := HSZ.out j (by omega)
        have HST := hide (bdTo_succ (et := Lat.exT m) (bt := Lat.bdT m) hy)
        have s1 := exT_size hxe
        have s2 := bdT_size hsa
        have s3 := bdT_size hsb
        obtain ⟨k, sn, se, sa, sb⟩ := y
        simp only at hsk hsn g0 g1 hxe hsa hsb s1 s2 s3 HST
        have hye : exW m se ≤ 1048576 := by unfold stW at hyw; simp only at hyw; omega
        have hya : stsW m sa ≤ 1048576 := by unfold stW at hyw; simp only at hyw; omega
        have hyb : stsW m sb ≤ 1048576 := by unfold stW at hyw; simp only at hyw; omega
        have hyn : sn.size ≤ 1048576 := by unfold stW at hyw; simp only at hyw; omega
        have s1' : (Lat.exT m se).size ≤ 6291456 := by omega
        have s2' : (Lat.bdT m sa).size ≤ 6291456 := by omega
        have s3' : (Lat.bdT m sb).size ≤ 6291456 := by omega
        have HX := hide hxe
        have HSA := hide hsa
        have HSB := hide hsb
        clear hxe hsa hsb hy s1 s2 s3 hyw
        have u0 := cellUp g0 hnx
        have u1 := cellUp g1 hnx
        have u2' := cellUp g2 hnx
        have u3' : wr.cell? ⟨b, off + j * 8 + 2 + 1, none⟩ = some e1 := cellUp g3 hnx
        have u4' : wr.cell? ⟨b, off + j * 8 + 2 + 2, none⟩ = some e2 := cellUp g4 hnx
        have u5' : wr.cell? ⟨b, off + j * 8 + 2 + 3, none⟩ = some e3 := cellUp g5 hnx
        have u6' := cellUp g6 hnx
        have u7' := cellUp g7 hnx
        have HNX := hide hnx
        clear g0 g1 g2 g3 g4 g5 g6 g7 hnx
        generalize hac : Lat.bdTo (Lat.exT m) (Lat.bdT m) l j = acc at *
        have HAC := hide hac
        clear hac
        by_cases hj0 : 0 < j
        · rw [if_pos hj0] at HST
          go_wp2_with fail
          refine (exprText_any m _ e0 e1 e2 e3 se (HX.out.below HNX.out) hye (HT.out.below HNX.out)).mono ?_
          rintro e w5 ⟨rfl, hb5⟩
          replace u0 := cellUp u0 hb5
          replace u1 := cellUp u1 hb5
          replace u6' := cellUp u6' hb5
          replace u7' := cellUp u7' hb5
          have HN := hide (up HNX.out hb5)
          clear hb5 HNX u2' u3' u4' u5'
          generalize hac2 : acc ++ (⟨#[32]⟩ : ByteArray) = acc2 at *
          have hacc2 : acc2.size ≤ 6291457 := by rw [← hac2, ByteArray.size_append]; show acc.size + 1 ≤ _; omega
          clear hac2
          generalize hte : Lat.exT m se = te at *
          have HTE := hide hte
          clear hte
          by_cases k1 : k = 1
          · subst k1
            go_wp2_with fail
            go_roundw
            case rel => exact ⟨j + 1, by omega, by go_num, val_str (by rw [HST.out]; simp [Lat.stT, HTE.out]), HN.out⟩
            case measure => simp [intOf]; omega
          by_cases k4 : k = 4
          · subst k4
            go_wp2_with fail
            go_roundw
            case rel => exact ⟨j + 1, by omega, by go_num, val_str (by rw [HST.out]; simp [Lat.stT, HTE.out]), HN.out⟩
            case measure => simp [intOf]; omega
          by_cases k3 : k = 3
          · subst k3
            go_wp2_with fail
            refine (HI.out _ va sa (HSA.out.below HN.out) hya (HT.out.below HN.out)).mono ?_
            rintro e w6 ⟨rfl, hb6⟩
            have HN6 := hide (up HN.out hb6)
            clear hb6 HN
            generalize hta : Lat.bdT m sa = ta at *
            have HTA := hide hta
            clear hta
            go_wp2_with fail
            go_roundw
            case rel => exact ⟨j + 1, by omega, by go_num, val_str (by rw [HST.out]; simp [Lat.stT, HTE.out, HTA.out]), HN6.out⟩
            case measure => simp [intOf]; omega
          by_cases k2 : k = 2
          · subst k2
            have HF : Hid (∀ wx, Hid (Below w5.heap.size w5 wx) → Hid (Below w5.heap.size w5 wx) ∧ wx.cell? ⟨b, off + j * 8 + 6, none⟩ = some va ∧ wx.cell? ⟨b, off + j * 8 + 7, none⟩ = some vb) :=
              fun wx h => ⟨h, cellUp u6' h.out, cellUp u7' h.out⟩
            have H00 : Hid (Below w5.heap.size w5 w5) := hide (Below.refl _ _)
            have b1 : (0 : Int) ≤ (j : Int) := by omega
            have b2 : (j : Int) < (len : Int) := by omega
            generalize hta : Lat.bdT m sa = ta at *
            have HTA := hide hta
            clear hta
            generalize htb : Lat.bdT m sb = tb at *
            have HTB := hide htb
            clear htb u6' u7'
            have q1 : ¬ (9223372036854775807 < 4 + te.size) := by omega
            have q2 : ¬ (9223372036854775807 < 4 + te.size + 2) := by omega
            have q3 : ¬ (9223372036854775807 < 4 + te.size + 2 + ta.size) := by omega
            have q4 : ¬ (9223372036854775807 < 4 + te.size + 2 + ta.size + 3) := by omega
            have q5 : ¬ (9223372036854775807 < 4 + te.size + 2 + ta.size + 3 + tb.size) := by omega
            have q6 : ¬ (9223372036854775807 < 4 + te.size + 2 + ta.size + 3 + tb.size + 2) := by omega
            have q7 : ¬ (9223372036854775807 < acc2.size + (4 + te.size + 2 + ta.size + 3 + tb.size + 2)) := by omega
            go_wp2_with fail
            go_region_held3 (fun wx => Hid (Below w5.heap.size w5 wx) ∧ wx.cell? ⟨b, off + j * 8 + 6, none⟩ = some va ∧ wx.cell? ⟨b, off + j * 8 + 7, none⟩ = some vb)
              (first | exact HF.out _ HW31 | exact HF.out _ HW30 | exact HF.out _ (hide H00.out.drew))
              (first
                | (go_at_call_of 181 (va); refine (HI.out _ va sa ?_ hya ?_).mono ?_; (exact HSA.out.below (up HN.out H00.out.drew)); (exact HT.out.below (up HN.out H00.out.drew)); rintro e w30 ⟨rfl, hb30⟩; have HW30 := hide (up H00.out.drew hb30); clear hb30; rw [HTA.out])
                | (go_at_call_of 181 (vb); refine (HI.out _ vb sb ?_ hyb ?_).mono ?_; (exact HSB.out.below (up HN.out HW30.out)); (exact HT.out.below (up HN.out HW30.out)); rintro e w31 ⟨rfl, hb31⟩; have HW31 := hide (up HW30.out hb31); clear hb31; rw [HTB.out]))
            all_goals
              go_wp2_with fail
              go_roundw
              case rel => exact ⟨j + 1, by omega, by go_num, val_str (by rw [HST.out]; simp [Lat.stT, HTE.out, HTA.out, HTB.out]), up HN.out HW31.out⟩
              case measure => simp [intOf]; omega
          have k1' : (k == 1) = false := by simp [k1]
          have k2' : (k == 2) = false := by simp [k2]
          have k3' : (k == 3) = false := by simp [k3]
          have k4' : (k == 4) = false := by simp [k4]
          have HO := hide (show Lat.stT (Lat.exT m) (Lat.bdT m) ⟨k, sn, se, sa, sb⟩ acc2 = acc2 by simp [Lat.stT, k1, k2, k3, k4])
          clear k1 k2 k3 k4
          go_wp2_with fail
          go_roundw
          case rel => exact ⟨j + 1, by omega, by go_num, val_str (by rw [HST.out, HO.out]), HN.out⟩
          case measure => simp [intOf]; omega
        · rw [if_neg hj0] at HST
          go_wp2_with fail
          refine (exprText_any m _ e0 e1 e2 e3 se (HX.out.below HNX.out) hye (HT.out.below HNX.out)).mono ?_
          rintro e w5 ⟨rfl, hb5⟩
          replace u0 := cellUp u0 hb5
          replace u1 := cellUp u1 hb5
          replace u6' := cellUp u6' hb5
          replace u7' := cellUp u7' hb5
          have HN := hide (up HNX.out hb5)
          clear hb5 HNX u2' u3' u4' u5'
          generalize hte : Lat.exT m se = te at *
          have HTE := hide hte
          clear hte
          by_cases k1 : k = 1
          · subst k1
            go_wp2_with fail
            go_roundw
            case rel => exact ⟨j + 1, by omega, by go_num, val_str (by rw [HST.out]; simp [Lat.stT, HTE.out]), HN.out⟩
            case measure => simp [intOf]; omega
          by_cases k4 : k = 4
          · subst k4
            go_wp2_with fail
            go_roundw
            case rel => exact ⟨j + 1, by omega, by go_num, val_str (by rw [HST.out]; simp [Lat.stT, HTE.out]), HN.out⟩
            case measure => simp [intOf]; omega
          by_cases k3 : k = 3
          · subst k3
            go_wp2_with fail
            refine (HI.out _ va sa (HSA.out.below HN.out) hya (HT.out.below HN.out)).mono ?_
            rintro e w6 ⟨rfl, hb6⟩
            have HN6 := hide (up HN.out hb6)
            clear hb6 HN
            generalize hta : Lat.bdT m sa = ta at *
            have HTA := hide hta
            clear hta
            go_wp2_with fail
            go_roundw
            case rel => exact ⟨j + 1, by omega, by go_num, val_str (by rw [HST.out]; simp [Lat.stT, HTE.out, HTA.out]), HN6.out⟩
            case measure => simp [intOf]; omega
          by_cases k2 : k = 2
          · subst k2
            have HF : Hid (∀ wx, Hid (Below w5.heap.size w5 wx) → Hid (Below w5.heap.size w5 wx) ∧ wx.cell? ⟨b, off + j * 8 + 6, none⟩ = some va ∧ wx.cell? ⟨b, off + j * 8 + 7, none⟩ = some vb) :=
              fun wx h => ⟨h, cellUp u6' h.out, cellUp u7' h.out⟩
            have H00 : Hid (Below w5.heap.size w5 w5) := hide (Below.refl _ _)
            have b1 : (0 : Int) ≤ (j : Int) := by omega
            have b2 : (j : Int) < (len : Int) := by omega
            generalize hta : Lat.bdT m sa = ta at *
            have HTA := hide hta
            clear hta
            generalize htb : Lat.bdT m sb = tb at *
            have HTB := hide htb
            clear htb u6' u7'
            have q1 : ¬ (9223372036854775807 < 4 + te.size) := by omega
            have q2 : ¬ (9223372036854775807 < 4 + te.size + 2) := by omega
            have q3 : ¬ (9223372036854775807 < 4 + te.size + 2 + ta.size) := by omega
            have q4 : ¬ (9223372036854775807 < 4 + te.size + 2 + ta.size + 3) := by omega
            have q5 : ¬ (9223372036854775807 < 4 + te.size + 2 + ta.size + 3 + tb.size) := by omega
            have q6 : ¬ (9223372036854775807 < 4 + te.size + 2 + ta.size + 3 + tb.size + 2) := by omega
            have q7 : ¬ (9223372036854775807 < acc.size + (4 + te.size + 2 + ta.size + 3 + tb.size + 2)) := by omega
            go_wp2_with fail
            go_region_held3 (fun wx => Hid (Below w5.heap.size w5 wx) ∧ wx.cell? ⟨b, off + j * 8 + 6, none⟩ = some va ∧ wx.cell? ⟨b, off + j * 8 + 7, none⟩ = some vb)
              (first | exact HF.out _ HW31 | exact HF.out _ HW30 | exact HF.out _ (hide H00.out.drew))
              (first
                | (go_at_call_of 181 (va); refine (HI.out _ va sa ?_ hya ?_).mono ?_; (exact HSA.out.below (up HN.out H00.out.drew)); (exact HT.out.below (up HN.out H00.out.drew)); rintro e w30 ⟨rfl, hb30⟩; have HW30 := hide (up H00.out.drew hb30); clear hb30; rw [HTA.out])
                | (go_at_call_of 181 (vb); refine (HI.out _ vb sb ?_ hyb ?_).mono ?_; (exact HSB.out.below (up HN.out HW30.out)); (exact HT.out.below (up HN.out HW30.out)); rintro e w31 ⟨rfl, hb31⟩; have HW31 := hide (up HW30.out hb31); clear hb31; rw [HTB.out]))
            all_goals
              go_wp2_with fail
              go_roundw
              case rel => exact ⟨j + 1, by omega, by go_num, val_str (by rw [HST.out]; simp [Lat.stT, HTE.out, HTA.out, HTB.out]), up HN.out HW31.out⟩
              case measure => simp [intOf]; omega
          have k1' : (k == 1) = false := by simp [k1]
          have k2' : (k == 2) = false := by simp [k2]
          have k3' : (k == 3) = false := by simp [k3]
          have k4' : (k == 4) = false := by simp [k4]
          have HO := hide (show Lat.stT (Lat.exT m) (Lat.bdT m) ⟨k, sn, se, sa, sb⟩ acc = acc by simp [Lat.stT, k1, k2, k3, k4])
          clear k1 k2 k3 k4
          go_wp2_with fail
          go_roundw
          case rel => exact ⟨j + 1, by omega, by go_num, val_str (by rw [HST.out, HO.out]), HN.out⟩
          case measure => simp [intOf]; omega
      · go_wp2_with fail
        go_ret
        have e : j = len := by omega
        exact ⟨ret_str (by rw [HE.out, e]), hnx⟩
end Go.Proofs.YtholefgckcoklaaGreatDoor
namespace Go.Proofs.YtholefgckcoklaaGreatDoor
open Go.RowKit
namespace Lat
def impT (acc s : ByteArray) : ByteArray := acc ++ ((⟨#[32, 40, 105, 109, 112, 111, 114, 116, 32]⟩ : ByteArray) ++ s ++ (⟨#[41]⟩ : ByteArray))
def vaT (acc : ByteArray) (v : Va) : ByteArray := acc ++ ((⟨#[32, 40, 118, 97, 114, 32]⟩ : ByteArray) ++ v.name ++ (⟨#[32]⟩ : ByteArray) ++ v.level ++ (⟨#[41]⟩ : ByteArray))
def parTo (l : List ByteArray) (acc : ByteArray) : Nat → ByteArray
  | 0 => acc
  | j + 1 => (if 0 < j then parTo l acc j ++ (⟨#[32]⟩ : ByteArray) else parTo l acc j) ++ l.getD j ByteArray.empty
def fuH (acc : ByteArray) (f : Fu) : ByteArray := acc ++ ((⟨#[32, 40, 102, 117, 110, 32]⟩ : ByteArray) ++ f.name ++ (⟨#[32, 40]⟩ : ByteArray))
def fuP (acc : ByteArray) (f : Fu) : ByteArray := parTo f.params (fuH acc f) f.params.length ++ (⟨#[41]⟩ : ByteArray)
def fuB (m : Nat) (acc : ByteArray) (f : Fu) : ByteArray := if 0 < f.body.length then fuP acc f ++ ((⟨#[32]⟩ : ByteArray) ++ bdT m f.body) else fuP acc f
def fuT (m : Nat) (acc : ByteArray) (f : Fu) : ByteArray := fuB m acc f ++ ((⟨#[32]⟩ : ByteArray) ++ exT m f.result ++ (⟨#[41]⟩ : ByteArray))
def moH (x : Mo) : ByteArray := (⟨#[40, 109, 111, 100, 117, 108, 101, 32]⟩ : ByteArray) ++ x.name
def moI (x : Mo) : ByteArray := x.imports.foldl impT (moH x)
def moV (x : Mo) : ByteArray := x.vars.foldl vaT (moI x)
def moF (m : Nat) (x : Mo) : ByteArray := x.funs.foldl (fuT m) (moV x)
def moT (m : Nat) (x : Mo) : ByteArray := moF m x ++ (⟨#[41]⟩ : ByteArray)
end Lat
section
variable {α : Type} {f : ByteArray → α → ByteArray} {wt : α → Nat}
theorem foldg_take {l : List α} {j : Nat} {y : α} (h : l[j]? = some y) (acc : ByteArray) : (l.take (j + 1)).foldl f acc = f ((l.take j).foldl f acc) y := by
  obtain ⟨hj, rfl⟩ := List.getElem?_eq_some_iff.1 h
  rw [List.take_succ_eq_append_getElem hj, List.foldl_append]; rfl
theorem sumg_take (l : List α) (j : Nat) : ((l.take j).map wt).sum ≤ (l.map wt).sum := by
  conv => rhs; rw [← List.take_append_drop j l]
  rw [List.map_append, List.sum_append]; omega
theorem foldg_size {l : List α} (h : ∀ (i : Nat) (y : α), l[i]? = some y → ∀ acc, (f acc y).size ≤ acc.size + 12 * wt y) (acc : ByteArray) :
    ∀ j, j ≤ l.length → ((l.take j).foldl f acc).size ≤ acc.size + 12 * ((l.take j).map wt).sum
  | 0, _ => by simp
  | j + 1, hj => by
    have ih := foldg_size h acc j (by omega)
    obtain ⟨y, hy⟩ : ∃ y, l[j]? = some y := ⟨_, List.getElem?_eq_getElem (by omega)⟩
    rw [foldg_take hy]
    have h1 := h j y hy ((l.take j).foldl f acc)
    have h2 : ((l.take (j + 1)).map wt).sum = ((l.take j).map wt).sum + wt y := by
      obtain ⟨hj', rfl⟩ := List.getElem?_eq_some_iff.1 hy
      rw [List.take_succ_eq_append_getElem hj', List.map_append, List.sum_append]; simp
    omega
theorem foldg_all {l : List α} (h : ∀ (i : Nat) (y : α), l[i]? = some y → ∀ acc, (f acc y).size ≤ acc.size + 12 * wt y) (acc : ByteArray) (j : Nat) (hj : j ≤ l.length) :
    ((l.take j).foldl f acc).size ≤ acc.size + 12 * (l.map wt).sum := by
  have h1 := foldg_size h acc j hj
  have h2 := sumg_take (wt := wt) l j
  omega
end
theorem impT_size (acc s : ByteArray) : (Lat.impT acc s).size ≤ acc.size + 12 * (s.size + 1) := by
  unfold Lat.impT
  simp only [ByteArray.size_append]
  show acc.size + (9 + s.size + 1) ≤ _
  omega
theorem vaT_size (acc : ByteArray) (s : Va) : (Lat.vaT acc s).size ≤ acc.size + 12 * (s.name.size + s.level.size + 3) := by
  unfold Lat.vaT
  simp only [ByteArray.size_append]
  show acc.size + (6 + s.name.size + 1 + s.level.size + 1) ≤ _
  omega
theorem getD_size (l : List ByteArray) (j : Nat) : (l.getD j ByteArray.empty).size ≤ (l.map fun s => s.size + 1).sum := by
  by_cases h : j < l.length
  · have e : l.getD j ByteArray.empty = l[j] := by simp [h]
    rw [e]
    have := mem_le_sum (f := fun s : ByteArray => s.size + 1) (List.getElem_mem h)
    omega
  · have e : l.getD j ByteArray.empty = ByteArray.empty := by simp [List.getD, List.getElem?_eq_none (Nat.le_of_not_lt h)]
    rw [e]; exact Nat.zero_le _
theorem parTo_size (l : List ByteArray) (acc : ByteArray) : ∀ j, j ≤ l.length → (Lat.parTo l acc j).size ≤ acc.size + ((l.take j).map fun s => s.size + 1).sum
  | 0, _ => by simp [Lat.parTo]
  | j + 1, hj => by
    have ih := parTo_size l acc j (by omega)
    have h2 : ((l.take (j + 1)).map fun s => s.size + 1).sum = ((l.take j).map fun s => s.size + 1).sum + ((l.getD j ByteArray.empty).size + 1) := by
      rw [List.take_succ_eq_append_getElem (by omega), List.map_append, List.sum_append]
      simp [show j < l.length by omega]
    have e1 : (⟨#[32]⟩ : ByteArray).size = 1 := rfl
    simp only [Lat.parTo]
    split <;> simp only [ByteArray.size_append, e1] <;> omega
theorem parTo_all (l : List ByteArray) (acc : ByteArray) (j : Nat) (hj : j ≤ l.length) : (Lat.parTo l acc j).size ≤ acc.size + (l.map fun s => s.size + 1).sum := by
  have h1 := parTo_size l acc j hj
  have h2 := sumg_take (wt := fun s : ByteArray => s.size + 1) l j
  omega
def fuW (m : Nat) (s : Fu) : Nat := s.name.size + 2 + strsW s.params + stsW m s.body + exW m s.result
theorem fusW_eq (m : Nat) (l : List Fu) : fusW m l = (l.map (fuW m)).sum + 1 := rfl
theorem fuH_size (acc : ByteArray) (f : Fu) : (Lat.fuH acc f).size = acc.size + (f.name.size + 8) := by
  unfold Lat.fuH
  simp only [ByteArray.size_append]
  show acc.size + (6 + f.name.size + 2) = _
  omega
theorem fuP_size (acc : ByteArray) (f : Fu) : (Lat.fuP acc f).size ≤ acc.size + (f.name.size + 8 + strsW f.params) := by
  unfold Lat.fuP
  have h := parTo_all f.params (Lat.fuH acc f) f.params.length (Nat.le_refl _)
  rw [fuH_size] at h
  rw [ByteArray.size_append]
  show _ + 1 ≤ _
  unfold strsW
  omega
theorem fuT_size {w : World} {m : Nat} {f : Fu} {vb e0 e1 e2 e3 : Value} (hb : StsAt w m vb f.body) (hx : ExAt w m e0 e1 e2 e3 f.result) (acc : ByteArray) : (Lat.fuT m acc f).size ≤ acc.size + 12 * fuW m f := by
  have h1 := fuP_size acc f
  have h2 := bdT_size hb
  have h3 := exT_size hx
  have e1 : (⟨#[32]⟩ : ByteArray).size = 1 := rfl
  have e2 : (⟨#[41]⟩ : ByteArray).size = 1 := rfl
  unfold Lat.fuT Lat.fuB fuW
  split <;> simp only [ByteArray.size_append, e1, e2] <;> omega
theorem moH_size (x : Mo) : (Lat.moH x).size = 8 + x.name.size := by
  unfold Lat.moH; rw [ByteArray.size_append]; rfl
theorem boxM0 (w : World) (c0 c1 c2 c3 : Value) (t : TypeId) : (w.alloc (.cells #[c0, c1, c2, c3] t)).cell? ⟨w.heap.size, 0, none⟩ = some c0 := by simp [go_sem]
theorem boxM1 (w : World) (c0 c1 c2 c3 : Value) (t : TypeId) : (w.alloc (.cells #[c0, c1, c2, c3] t)).cell? ⟨w.heap.size, 1, none⟩ = some c1 := by simp [go_sem]
theorem boxM2 (w : World) (c0 c1 c2 c3 : Value) (t : TypeId) : (w.alloc (.cells #[c0, c1, c2, c3] t)).cell? ⟨w.heap.size, 2, none⟩ = some c2 := by simp [go_sem]
theorem boxM3 (w : World) (c0 c1 c2 c3 : Value) (t : TypeId) : (w.alloc (.cells #[c0, c1, c2, c3] t)).cell? ⟨w.heap.size, 3, none⟩ = some c3 := by simp [go_sem]
end Go.Proofs.YtholefgckcoklaaGreatDoor
namespace Go.Proofs.YtholefgckcoklaaGreatDoor
open Go.RowKit
theorem boxF0 (w : World) (c0 c1 c2 c3 c4 c5 c6 : Value) (t : TypeId) : (w.alloc (.cells #[c0, c1, c2, c3, c4, c5, c6] t)).cell? ⟨w.heap.size, 0, none⟩ = some c0 := by simp [go_sem]
theorem boxF1 (w : World) (c0 c1 c2 c3 c4 c5 c6 : Value) (t : TypeId) : (w.alloc (.cells #[c0, c1, c2, c3, c4, c5, c6] t)).cell? ⟨w.heap.size, 1, none⟩ = some c1 := by simp [go_sem]
theorem boxF2 (w : World) (c0 c1 c2 c3 c4 c5 c6 : Value) (t : TypeId) : (w.alloc (.cells #[c0, c1, c2, c3, c4, c5, c6] t)).cell? ⟨w.heap.size, 2, none⟩ = some c2 := by simp [go_sem]
theorem boxF3 (w : World) (c0 c1 c2 c3 c4 c5 c6 : Value) (t : TypeId) : (w.alloc (.cells #[c0, c1, c2, c3, c4, c5, c6] t)).cell? ⟨w.heap.size, 3, none⟩ = some c3 := by simp [go_sem]
theorem boxF4 (w : World) (c0 c1 c2 c3 c4 c5 c6 : Value) (t : TypeId) : (w.alloc (.cells #[c0, c1, c2, c3, c4, c5, c6] t)).cell? ⟨w.heap.size, 4, none⟩ = some c4 := by simp [go_sem]
theorem boxF5 (w : World) (c0 c1 c2 c3 c4 c5 c6 : Value) (t : TypeId) : (w.alloc (.cells #[c0, c1, c2, c3, c4, c5, c6] t)).cell? ⟨w.heap.size, 5, none⟩ = some c5 := by simp [go_sem]
theorem boxF6 (w : World) (c0 c1 c2 c3 c4 c5 c6 : Value) (t : TypeId) : (w.alloc (.cells #[c0, c1, c2, c3, c4, c5, c6] t)).cell? ⟨w.heap.size, 6, none⟩ = some c6 := by simp [go_sem]
theorem parTo_succ (l : List ByteArray) (acc : ByteArray) (j : Nat) : Lat.parTo l acc (j + 1) = (if 0 < j then Lat.parTo l acc j ++ (⟨#[32]⟩ : ByteArray) else Lat.parTo l acc j) ++ l.getD j ByteArray.empty := rfl
theorem take_all {α : Type} {f : ByteArray → α → ByteArray} {l : List α} {acc : ByteArray} {n j : Nat} (h : n = l.length) (e : j = n) : (l.take j).foldl f acc = l.foldl f acc := by
  rw [List.take_of_length_le (by omega)]
set_option maxHeartbeats 8000000 in
set_option maxRecDepth 100000 in
theorem text_any (m : Nat) (w : World) (v : Value) (x : Mo) (h : MoAt w m v x) (hw : moW m x ≤ 1048576) (ht : Tab w) :
    Calls Tryz.prog 116 #[v] w fun e w' => e = .returned (.string (Lat.moT m x)) ∧ Below w.heap.size w w' := by
  obtain ⟨vi, vv, vf, rfl, hnm, hI, hV, hF⟩ := h
  have hwm : x.name.size + 2 + strsW x.imports + vasW x.vars + fusW m x.funs ≤ 1048576 := hw
  clear hw
  have hnz : x.name.size ≤ 1048576 := by omega
  have HI1 : Hid (∀ j, j ≤ x.imports.length → ((x.imports.take j).foldl Lat.impT (Lat.moH x)).size ≤ 12582920) := hide (fun j hj => by
    have := foldg_all (f := Lat.impT) (wt := fun s : ByteArray => s.size + 1) (l := x.imports) (fun i y _ acc => impT_size acc y) (Lat.moH x) j hj
    rw [moH_size] at this
    unfold strsW at hwm; omega)
  have HI2 : Hid (∀ j, (x.imports.getD j ByteArray.empty).size ≤ 1048576) := hide (fun j => by
    have := getD_size x.imports j
    unfold strsW at hwm; omega)
  have hIs : (Lat.moI x).size ≤ 8 + x.name.size + 12 * strsW x.imports := by
    have := foldg_all (f := Lat.impT) (wt := fun s : ByteArray => s.size + 1) (l := x.imports) (fun i y _ acc => impT_size acc y) (Lat.moH x) x.imports.length (Nat.le_refl _)
    rw [moH_size, List.take_length] at this
    unfold strsW Lat.moI; omega
  have HV1 : Hid (∀ j, j ≤ x.vars.length → ((x.vars.take j).foldl Lat.vaT (Lat.moI x)).size ≤ 12582920) := hide (fun j hj => by
    have := foldg_all (f := Lat.vaT) (wt := fun s : Va => s.name.size + s.level.size + 3) (l := x.vars) (fun i y _ acc => vaT_size acc y) (Lat.moI x) j hj
    unfold vasW at hwm; omega)
  have HV2 : Hid (∀ (j : Nat) (y : Va), x.vars[j]? = some y → y.name.size ≤ 1048576 ∧ y.level.size ≤ 1048576) := hide (fun j y hy => by
    have := mem_le_sum (f := fun s : Va => s.name.size + s.level.size + 3) (List.mem_of_getElem? hy)
    unfold vasW at hwm; omega)
  have hVs : (Lat.moV x).size ≤ 8 + x.name.size + 12 * strsW x.imports + 12 * vasW x.vars := by
    have := foldg_all (f := Lat.vaT) (wt := fun s : Va => s.name.size + s.level.size + 3) (l := x.vars) (fun i y _ acc => vaT_size acc y) (Lat.moI x) x.vars.length (Nat.le_refl _)
    rw [List.take_length] at this
    have e : (x.vars.foldl Lat.vaT (Lat.moI x)) = Lat.moV x := rfl
    rw [e] at this
    unfold vasW; omega
  have HF2 : Hid (∀ (j : Nat) (y : Fu), x.funs[j]? = some y → fuW m y ≤ 1048576) := hide (fun j y hy => by
    have := mem_le_sum (f := fuW m) (List.mem_of_getElem? hy)
    rw [fusW_eq] at hwm; omega)
  have HF1 : Hid (∀ j, j ≤ x.funs.length → ((x.funs.take j).foldl (Lat.fuT m) (Lat.moV x)).size ≤ 12582920) := hide (fun j hj => by
    obtain ⟨a, b, off, cap, _, _, _, h9⟩ := hF
    have := foldg_all (f := Lat.fuT m) (wt := fuW m) (l := x.funs) (fun i y hy acc => by
      obtain ⟨_, vp, vb, e0, e1, e2, e3, _, _, _, _, _, _, _, _, hsb, hx⟩ := h9 i y hy
      exact fuT_size hsb hx acc) (Lat.moV x) j hj
    rw [fusW_eq] at hwm; omega)
  clear hIs hVs hwm
  obtain ⟨ai, bi, oi, ci, rfl, hai, hli, _, hci⟩ := hI
  obtain ⟨av, bv, ov, cv, rfl, hav, hlv, hcv⟩ := hV
  obtain ⟨af, bf, of, cf, rfl, haf, hlf, hcf⟩ := hF
  have HT := hide ht
  obtain ⟨xn, xi, xv, xf⟩ := x
  simp only at hnm hnz hai hli hci hav hlv hcv haf hlf hcf HI1 HI2 HV1 HV2 HF1 HF2 ⊢
  have HE : Hid (Lat.moT m ⟨xn, xi, xv, xf⟩ = xf.foldl (Lat.fuT m) (Lat.moV ⟨xn, xi, xv, xf⟩) ++ (⟨#[41]⟩ : ByteArray)) := rfl
  have HVE : Hid (Lat.moV ⟨xn, xi, xv, xf⟩ = xv.foldl Lat.vaT (Lat.moI ⟨xn, xi, xv, xf⟩)) := rfl
  have HIE : Hid (Lat.moI ⟨xn, xi, xv, xf⟩ = xi.foldl Lat.impT (Lat.moH ⟨xn, xi, xv, xf⟩)) := rfl
  have HHE : Hid (Lat.moH ⟨xn, xi, xv, xf⟩ = (⟨#[40, 109, 111, 100, 117, 108, 101, 32]⟩ : ByteArray) ++ xn) := rfl
  generalize Lat.moT m ⟨xn, xi, xv, xf⟩ = XT at *
  generalize Lat.moV ⟨xn, xi, xv, xf⟩ = XV at *
  generalize Lat.moI ⟨xn, xi, xv, xf⟩ = XI at *
  generalize Lat.moH ⟨xn, xi, xv, xf⟩ = XH at *
  have HAI := hide hai
  have HAV := hide hav
  have HAF := hide haf
  have HCI := hide hci
  have HCV := hide hcv
  have HCF := hide hcf
  obtain ⟨ni, hni⟩ : ∃ n, n = xi.length := ⟨_, rfl⟩
  obtain ⟨nv, hnv⟩ : ∃ n, n = xv.length := ⟨_, rfl⟩
  obtain ⟨nf, hnf⟩ : ∃ n, n = xf.length := ⟨_, rfl⟩
  have HNI := hide hni
  have HNV := hide hnv
  have HNF := hide hnf
  rw [← hni, ← hnv, ← hnf]
  rw [← hni] at hli HAI HCI HI1
  rw [← hnv] at hlv HAV HV1
  rw [← hnf] at hlf HAF HF1
  clear hai hav haf hci hcv hcf hni hnv hnf ht
  have q1 := boxM1 w (.string xn) (.slice ai ni ci) (.slice av nv cv) (.slice af nf cf) 26
  have q2 := boxM2 w (.string xn) (.slice ai ni ci) (.slice av nv cv) (.slice af nf cf) 26
  have q3 := boxM3 w (.string xn) (.slice ai ni ci) (.slice av nv cv) (.slice af nf cf) 26
  have HB0 := hide (boxBelow w (.cells #[.string xn, .slice ai ni ci, .slice av nv cv, .slice af nf cf] 26))
  go_enter Tryz.func116, Tryz.ntmps116
  go_wp2_with fail
  rw [← HHE.out]
  generalize w.alloc (.cells #[.string xn, .slice ai ni ci, .slice av nv cv, .slice af nf cf] 26) = W0 at *
  clear HHE hnm hnz
  -- the imports
  go_loopw [3, 4] (fun o i wr => ∃ j : Nat, j ≤ ni ∧ i = .int .i64 j ∧ o = .string ((xi.take j).foldl Lat.impT XH) ∧ Below W0.heap.size W0 wr) (fun _ i _ => ni - (intOf i).toNat)
  case atStart => exact ⟨0, Nat.zero_le _, rfl, rfl, Below.refl _ _⟩
  case round =>
    obtain ⟨j, hj, rfl, rfl, hnx⟩ := hrel
    have t1 := cellUp q1 hnx
    by_cases hjl : j < ni
    · have hacc := HI1.out j hj
      have hs := HI2.out j
      have hc := cellUp (HCI.out j hjl) (up HB0.out hnx)
      have hgd : xi[j]? = some (xi.getD j ByteArray.empty) := by
        have : j < xi.length := by have := HNI.out; omega
        simp [this]
      have HST := hide (foldg_take (f := Lat.impT) hgd XH)
      obtain rfl := HAI.out (by omega)
      generalize xi.getD j ByteArray.empty = s at *
      generalize (xi.take j).foldl Lat.impT XH = acc at *
      clear hgd q1 q2 q3
      have HNX := hide hnx
      clear hnx
      go_wp2_with fail
      go_roundw
      case rel => exact ⟨j + 1, by omega, by go_num, val_str (by rw [HST.out]; rfl), HNX.out⟩
      case measure => simp [intOf]; omega
    · have hjn : j = ni := by omega
      clear hj
      go_wp2_with fail
      rw [take_all HNI.out hjn, ← HIE.out]
      clear q1 t1 hjl hjn HIE
      have HB1 := hide (up HB0.out hnx)
      replace q2 := cellUp q2 hnx
      replace q3 := cellUp q3 hnx
      clear hnx HB0
      -- the variables
      go_loopw [3, 5] (fun o i wy => ∃ k : Nat, k ≤ nv ∧ i = .int .i64 k ∧ o = .string ((xv.take k).foldl Lat.vaT XI) ∧ Below wr.heap.size wr wy) (fun _ i _ => nv - (intOf i).toNat)
      case atStart => exact ⟨0, Nat.zero_le _, rfl, rfl, Below.refl _ _⟩
      case round =>
        obtain ⟨k, hk, rfl, rfl, hnx⟩ := hrel
        have t2 := cellUp q2 hnx
        by_cases hkl : k < nv
        · obtain ⟨y, hy⟩ : ∃ y, xv[k]? = some y := ⟨_, List.getElem?_eq_getElem (by rw [← HNV.out]; exact hkl)⟩
          have hacc := HV1.out k hk
          obtain ⟨hs1, hs2⟩ := HV2.out k y hy
          obtain ⟨_, _, g0, g1⟩ := HCV.out k y hy
          have HST := hide (foldg_take (f := Lat.vaT) hy XI)
          obtain rfl := HAV.out (by omega)
          obtain ⟨yn, yl⟩ := y
          simp only at hs1 hs2 g0 g1
          have u0 := cellUp g0 (up HB1.out hnx)
          have u1 := cellUp g1 (up HB1.out hnx)
          generalize (xv.take k).foldl Lat.vaT XI = acc at *
          have HNX := hide hnx
          have b1 : (0 : Int) ≤ (k : Int) := by omega
          have b2 : (k : Int) < (nv : Int) := by omega
          have c1 : ¬ (9223372036854775807 < 6 + yn.size) := by omega
          have c2 : ¬ (9223372036854775807 < 6 + yn.size + 1) := by omega
          have c3 : ¬ (9223372036854775807 < 6 + yn.size + 1 + yl.size) := by omega
          have c4 : ¬ (9223372036854775807 < 6 + yn.size + 1 + yl.size + 1) := by omega
          have c5 : ¬ (9223372036854775807 < acc.size + (6 + yn.size + 1 + yl.size + 1)) := by omega
          clear hy g0 g1 hnx q2 q3
          go_wp2_with fail
          go_quiet (fail)
          go_wp2_with fail
          go_roundw
          case rel => exact ⟨k + 1, by omega, by go_num, val_str (by rw [HST.out]; rfl), drewBelow HNX.out _⟩
          case measure => simp [intOf]; omega
        · have hkn : k = nv := by omega
          clear hk
          go_wp2_with fail
          rw [take_all HNV.out hkn, ← HVE.out]
          clear q2 t2 hkl hkn HVE
          have HB2 := hide (up HB1.out hnx)
          replace q3 := cellUp q3 hnx
          clear hnx HB1
          -- the functions
          go_loopw [3, 6] (fun o i wz => ∃ k : Nat, k ≤ nf ∧ i = .int .i64 k ∧ o = .string ((xf.take k).foldl (Lat.fuT m) XV) ∧ Below wr.heap.size wr wz) (fun _ i _ => nf - (intOf i).toNat)
          case atStart => exact ⟨0, Nat.zero_le _, rfl, rfl, Below.refl _ _⟩
          case round =>
            obtain ⟨i, hi, rfl, rfl, hnx⟩ := hrel
            have t3 := cellUp q3 hnx
            have hacc := HF1.out i hi
            by_cases hil : i < nf
            · obtain ⟨y, hy⟩ : ∃ y, xf[i]? = some y := ⟨_, List.getElem?_eq_getElem (by rw [← HNF.out]; exact hil)⟩
              have hfw := HF2.out i y hy
              obtain ⟨_, vp, vb, e0, e1, e2, e3, g0, g1, g2, g3, g4, g5, g6, hp, hsb, hx⟩ := HCF.out i y hy
              have HST := hide (foldg_take (f := Lat.fuT m) hy XV)
              obtain rfl := HAF.out (by omega)
              have s1 := bdT_size hsb
              have s2 := exT_size hx
              have hps := parTo_all y.params (Lat.fuH ((xf.take i).foldl (Lat.fuT m) XV) y)
              have hpd := getD_size y.params
              rw [fuH_size] at hps
              obtain ⟨yn, yp, yb, yr⟩ := y
              simp only at g0 hp hsb hx s1 s2 hps hpd
              have hfw' : yn.size + 2 + ((yp.map fun s => s.size + 1).sum + 1) + stsW m yb + exW m yr ≤ 1048576 := hfw
              clear hfw
              generalize (xf.take i).foldl (Lat.fuT m) XV = acc at *
              generalize (yp.map fun s => s.size + 1).sum = pw at *
              have hn : yn.size ≤ 1048576 := by omega
              have hyb : stsW m yb ≤ 1048576 := by omega
              have hyr : exW m yr ≤ 1048576 := by omega
              have s1' : (Lat.bdT m yb).size ≤ 6291456 := by omega
              have s2' : (Lat.exT m yr).size ≤ 6291456 := by omega
              have HPS : Hid (∀ j, j ≤ yp.length → (Lat.parTo yp (Lat.fuH acc ⟨yn, yp, yb, yr⟩) j).size ≤ 25165824) := hide (fun j hj => by have := hps j hj; omega)
              have HPD : Hid (∀ j, (yp.getD j ByteArray.empty).size ≤ 1048576) := hide (fun j => by have := hpd j; omega)
              have HFT : Hid (Lat.fuT m acc ⟨yn, yp, yb, yr⟩ = (if 0 < yb.length then Lat.fuP acc ⟨yn, yp, yb, yr⟩ ++ ((⟨#[32]⟩ : ByteArray) ++ Lat.bdT m yb) else Lat.fuP acc ⟨yn, yp, yb, yr⟩) ++ ((⟨#[32]⟩ : ByteArray) ++ Lat.exT m yr ++ (⟨#[41]⟩ : ByteArray))) := rfl
              have HFP : Hid (Lat.fuP acc ⟨yn, yp, yb, yr⟩ = Lat.parTo yp (Lat.fuH acc ⟨yn, yp, yb, yr⟩) yp.length ++ (⟨#[41]⟩ : ByteArray)) := rfl
              have HFH : Hid (Lat.fuH acc ⟨yn, yp, yb, yr⟩ = acc ++ ((⟨#[32, 40, 102, 117, 110, 32]⟩ : ByteArray) ++ yn ++ (⟨#[32, 40]⟩ : ByteArray))) := rfl
              generalize Lat.fuT m acc ⟨yn, yp, yb, yr⟩ = FT at *
              generalize Lat.fuP acc ⟨yn, yp, yb, yr⟩ = FP at *
              generalize Lat.fuH acc ⟨yn, yp, yb, yr⟩ = FH at *
              obtain ⟨ap, bp, op, cp, rfl, hap, hlp, _, hcp⟩ := hp
              have HSB := hide hsb
              have HX := hide hx
              obtain ⟨ab, cb, rfl, hlb⟩ := hsb.shape
              obtain ⟨xa, xc, rfl, rfl, rfl, rfl⟩ := hx.shape
              have HAP := hide hap
              have HCP := hide hcp
              obtain ⟨np, hnp⟩ : ∃ n, n = yp.length := ⟨_, rfl⟩
              obtain ⟨nb, hnb⟩ : ∃ n, n = yb.length := ⟨_, rfl⟩
              have HNP := hide hnp
              have HNB := hide hnb
              rw [← hnp] at g1 hlp HAP HCP HPS HFP
              rw [← hnb] at g2 hlb HSB HFT
              have hbb := up HB2.out hnx
              have u0 := cellUp g0 hbb
              have u1 := cellUp g1 hbb
              have u2 := cellUp g2 hbb
              have u3 := cellUp g3 hbb
              have u4 := cellUp g4 hbb
              have u5 := cellUp g5 hbb
              have u6 := cellUp g6 hbb
              have HNX := hide hnx
              have HBB := hide hbb
              clear hps hpd hap hcp hsb hx hnp hnb hy hfw' s1 s2 g0 g1 g2 g3 g4 g5 g6 hbb hnx q3
              have r1 := boxF1 wr (.string yn) (.slice ap np cp) (.slice ab nb cb) (.int .i64 yr.kind) (.int .i64 yr.n) (.string yr.name) (.slice xa yr.args.length xc) 106
              have r2 := boxF2 wr (.string yn) (.slice ap np cp) (.slice ab nb cb) (.int .i64 yr.kind) (.int .i64 yr.n) (.string yr.name) (.slice xa yr.args.length xc) 106
              have r3 := boxF3 wr (.string yn) (.slice ap np cp) (.slice ab nb cb) (.int .i64 yr.kind) (.int .i64 yr.n) (.string yr.name) (.slice xa yr.args.length xc) 106
              have r4 := boxF4 wr (.string yn) (.slice ap np cp) (.slice ab nb cb) (.int .i64 yr.kind) (.int .i64 yr.n) (.string yr.name) (.slice xa yr.args.length xc) 106
              have r5 := boxF5 wr (.string yn) (.slice ap np cp) (.slice ab nb cb) (.int .i64 yr.kind) (.int .i64 yr.n) (.string yr.name) (.slice xa yr.args.length xc) 106
              have r6 := boxF6 wr (.string yn) (.slice ap np cp) (.slice ab nb cb) (.int .i64 yr.kind) (.int .i64 yr.n) (.string yr.name) (.slice xa yr.args.length xc) 106
              have HB3 := hide (boxBelow wr (.cells #[.string yn, .slice ap np cp, .slice ab nb cb, .int .i64 yr.kind, .int .i64 yr.n, .string yr.name, .slice xa yr.args.length xc] 106))
              go_wp2_with fail
              rw [← HFH.out]
              generalize wr.alloc (.cells #[.string yn, .slice ap np cp, .slice ab nb cb, .int .i64 yr.kind, .int .i64 yr.n, .string yr.name, .slice xa yr.args.length xc] 106) = W3 at *
              clear u0 u1 u2 u3 u4 u5 u6 HFH
              -- the parameters
              go_loopw [3, 8] (fun o i wp => ∃ k : Nat, k ≤ np ∧ i = .int .i64 k ∧ o = .string (Lat.parTo yp FH k) ∧ Below W3.heap.size W3 wp) (fun _ i _ => np - (intOf i).toNat)
              case atStart => exact ⟨0, Nat.zero_le _, rfl, rfl, Below.refl _ _⟩
              case round =>
                obtain ⟨d, hd, rfl, rfl, hnx⟩ := hrel
                have t1 := cellUp r1 hnx
                have hpa := HPS.out d hd
                by_cases hdl : d < np
                · have hs := HPD.out d
                  have hc := cellUp (HCP.out d hdl) (up (up HBB.out HB3.out) hnx)
                  obtain rfl := HAP.out (by omega)
                  have HPT := hide (parTo_succ yp FH d)
                  generalize yp.getD d ByteArray.empty = s at *
                  generalize Lat.parTo yp FH d = pa at *
                  have HNX2 := hide hnx
                  clear r1 r2 r3 r4 r5 r6 hnx t3
                  by_cases hd0 : 0 < d
                  · rw [if_pos hd0] at HPT
                    go_wp2_with fail
                    go_roundw
                    case rel => exact ⟨d + 1, by omega, by go_num, val_str (by rw [HPT.out]), HNX2.out⟩
                    case measure => simp [intOf]; omega
                  · rw [if_neg hd0] at HPT
                    go_wp2_with fail
                    go_roundw
                    case rel => exact ⟨d + 1, by omega, by go_num, val_str (by rw [HPT.out]), HNX2.out⟩
                    case measure => simp [intOf]; omega
                · have hdn : d = np := by omega
                  subst hdn
                  replace r2 := cellUp r2 hnx
                  replace r3 := cellUp r3 hnx
                  replace r4 := cellUp r4 hnx
                  replace r5 := cellUp r5 hnx
                  replace r6 := cellUp r6 hnx
                  have HNX2 := hide hnx
                  clear r1 hnx t3
                  have hfp : FP.size ≤ 25165825 := by rw [HFP.out, ByteArray.size_append]; show _ + 1 ≤ _; omega
                  by_cases hb0 : 0 < nb
                  · rw [if_pos hb0] at HFT
                    go_wp2_with fail
                    rw [← HFP.out]
                    refine (bodyText_any m _ _ yb (HSB.out.below (up (up HBB.out HB3.out) HNX2.out)) hyb (HT.out.below (up (up HBB.out HB3.out) HNX2.out))).mono ?_
                    rintro e w5 ⟨rfl, hb5⟩
                    have HN5 := hide (up HNX2.out hb5)
                    replace r3 := cellUp r3 hb5
                    replace r4 := cellUp r4 hb5
                    replace r5 := cellUp r5 hb5
                    replace r6 := cellUp r6 hb5
                    clear r2 hb5
                    generalize Lat.bdT m yb = tb at *
                    go_wp2_with fail
                    refine (exprText_any m _ _ _ _ _ yr (HX.out.below (up (up HBB.out HB3.out) HN5.out)) hyr (HT.out.below (up (up HBB.out HB3.out) HN5.out))).mono ?_
                    rintro e w6 ⟨rfl, hb6⟩
                    have HN6 := hide (up HN5.out hb6)
                    clear hb6
                    generalize Lat.exT m yr = tx at *
                    go_wp2_with fail
                    go_roundw
                    case rel => exact ⟨i + 1, by omega, by go_num, val_str (by rw [HST.out, HFT.out]), up HNX.out (up HB3.out HN6.out)⟩
                    case measure => simp [intOf]; omega
                  · rw [if_neg hb0] at HFT
                    go_wp2_with fail
                    rw [← HFP.out]
                    refine (exprText_any m _ _ _ _ _ yr (HX.out.below (up (up HBB.out HB3.out) HNX2.out)) hyr (HT.out.below (up (up HBB.out HB3.out) HNX2.out))).mono ?_
                    rintro e w6 ⟨rfl, hb6⟩
                    have HN6 := hide (up HNX2.out hb6)
                    clear hb6
                    generalize Lat.exT m yr = tx at *
                    go_wp2_with fail
                    go_roundw
                    case rel => exact ⟨i + 1, by omega, by go_num, val_str (by rw [HST.out, HFT.out]), up HNX.out (up HB3.out HN6.out)⟩
                    case measure => simp [intOf]; omega
            · have HIN := hide (take_all (f := Lat.fuT m) (acc := XV) HNF.out (show i = nf by omega))
              generalize (xf.take i).foldl (Lat.fuT m) XV = acc at *
              go_wp2_with fail
              go_ret
              exact ⟨ret_str (by rw [HE.out, HIN.out]), up HB2.out hnx⟩
end Go.Proofs.YtholefgckcoklaaGreatDoor
