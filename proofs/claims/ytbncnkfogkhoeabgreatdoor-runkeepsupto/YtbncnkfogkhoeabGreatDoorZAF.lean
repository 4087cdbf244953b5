/- Walks over package tree: isOperator, isCallee (and strings.Cut at one byte), hasParts. -/
import Derived.Test.YtbncnkfogkhoeabGreatDoorZAE
import Derived.Test.YtbncnkfogkhoeabGreatDoorZAB
import Derived.Test.YtbncnkfogkhoeabGreatDoorShelf
import Derived.Lib.IndexLaws
import Derived.Test.YtbncnkfogkhoeabGreatDoorZAD
import Derived.Laws.EntriesVeiled
import Derived.Deep.OwnRows
import Derived.Laws.OwnMore
import Derived.OwnWalk
import Derived.Lib.AppendZerosOnto
import Derived.Lib.SliceRun
namespace Go.Proofs.YtbncnkfogkhoeabGreatDoor
open Go.RowKit

theorem op_size {s : ByteArray} (h : ¬ s.size = 1) : Lat.opB s = false := by
  unfold Lat.opB
  have : Lat.indexI Lat.opS s = -1 := by
    unfold Lat.indexI
    rw [Lat.find_none (p := Lat.isAt Lat.opS s) (fun c hc => ?_)]
    have hc' : c < 5 := hc
    unfold Lat.isAt
    rw [beq_eq_false_iff_ne]
    intro e
    rw [ByteArray.toList_eq, ByteArray.toList_eq] at e
    have e2 := congrArg List.length e
    rw [size_list, size_list] at e2
    apply h
    rw [e2]
    obtain rfl | rfl | rfl | rfl | rfl : c = 0 ∨ c = 1 ∨ c = 2 ∨ c = 3 ∨ c = 4 := by omega
    all_goals rfl
  rw [this]; rfl
theorem op_table : ∀ c : Fin 256, decide (0 ≤ Lib.indexByte [43, 45, 42, 60, 61] (UInt8.ofFin c)) = Lat.opB ⟨#[UInt8.ofFin c]⟩ := by
  decide +kernel
theorem op_one (c : UInt8) : decide (0 ≤ Lib.indexByte [43, 45, 42, 60, 61] c) = Lat.opB ⟨#[c]⟩ := op_table c.toFin
theorem one_byte {s : ByteArray} (h : s.size = 1) : ∃ c, s = ⟨#[c]⟩ := by
  obtain ⟨⟨l⟩⟩ := s
  match l, h with
  | [c], _ => exact ⟨c, rfl⟩

theorem isOperator_any (w : World) (s : ByteArray) (hs : s.size ≤ maxLen) :
    Calls Tryz.prog 125 #[.string s] w fun e w' => e = .returned (.bool (Lat.opB s)) ∧ w' = w := by
  unfold maxLen at hs
  by_cases h1 : s.size = 1
  · obtain ⟨c, rfl⟩ := one_byte h1
    clear h1
    have h1' : (((⟨#[c]⟩ : ByteArray).size : Int) == 1) = true := rfl
    have HO := hide (op_one c)
    go_enter Tryz.func125, Tryz.ntmps125
    go_wp2_with fail
    refine (Tryz.strings_Contains_one _ c _).mono ?_
    rintro e w' ⟨rfl, hw⟩
    subst hw
    rw [show decide (0 ≤ Lib.indexByte (⟨#[43, 45, 42, 60, 61]⟩ : ByteArray).data.toList c) = Lat.opB ⟨#[c]⟩ from HO.out]
    go_wp2
    go_ret
    exact ⟨rfl, rfl⟩
  · have h1' : ((s.size : Int) == 1) = false := by simp; omega
    have HO := hide (op_size h1)
    clear h1
    go_enter Tryz.func125, Tryz.ntmps125
    go_wp2
    go_ret
    exact ⟨ret_bool HO.out.symm, rfl⟩

theorem dot_index (s : ByteArray) : Lib.indexByte s.data.toList 46 = match Lat.dotAt s with | some i => (i : Int) | none => -1 := by
  have hge := Lib.indexByte_ge s.data.toList 46
  by_cases h : Lib.indexByte s.data.toList 46 = -1
  · have hn := Lib.indexByte_none h
    have : Lat.dotAt s = none := Lat.find_none (fun d hd => by
      have hd' : d < s.data.toList.length := hd
      have h' := hn d
      rw [List.getD, List.getElem?_eq_getElem hd']
      rw [List.getElem?_eq_getElem hd'] at h'
      simpa using h')
    rw [h, this]
  · obtain ⟨o, ho⟩ : ∃ o : Nat, Lib.indexByte s.data.toList 46 = o := ⟨(Lib.indexByte s.data.toList 46).toNat, by omega⟩
    obtain ⟨h1, h2⟩ := Lib.indexByte_some ho
    have ho' : o < s.size := (List.getElem?_eq_some_iff.1 h1).1
    have : Lat.dotAt s = some o := Lat.find_hit ho' (fun c hc => by
      have hc' : c < s.data.toList.length := Nat.lt_trans hc ho'
      have h' := h2 c hc
      rw [List.getD, List.getElem?_eq_getElem hc']
      rw [List.getElem?_eq_getElem hc'] at h'
      simpa using h') (by rw [List.getD, h1]; rfl)
    rw [ho, this]

theorem dotAt_lt {s : ByteArray} {k : Nat} (h : Lat.dotAt s = some k) : k < s.size := (Lat.find_spec h).1

set_option maxHeartbeats 1000000 in
theorem lcut_any (w : World) (s : ByteArray) (hs : s.size ≤ maxLen) :
    Calls Tryz.prog 162 #[.string s, .string ⟨#[46]⟩] w fun e w' => e = .returned (.tuple #[.string (Lat.preS s), .string (Lat.sufS s), .bool (Lat.dotAt s).isSome]) ∧ Below w.heap.size w w' := by
  unfold maxLen at hs
  have HI := hide (dot_index s)
  cases hd : Lat.dotAt s
  · rw [hd] at HI
    have HD := hide hd
    clear hd
    go_enter Tryz.func162, Tryz.ntmps162
    go_wp2_with fail
    refine (Tryz.stringslite_Index_one s 46 _).mono ?_
    rintro e w' ⟨rfl, hw⟩
    subst hw
    rw [HI.out]
    go_wp2
    go_ret3
    exact ⟨by simp [Lat.preS, Lat.sufS, HD.out], Below.refl _ _⟩
  · rename_i k
    rw [hd] at HI
    have hk := dotAt_lt hd
    have HD := hide hd
    have b1 : (0 : Int) ≤ (k : Int) := by omega
    have b2 : (k : Int) ≤ (s.size : Int) := by omega
    have b3 : (k : Int) + 1 ≤ (s.size : Int) := by omega
    clear hd
    go_enter Tryz.func162, Tryz.ntmps162
    go_wp2_with fail
    refine (Tryz.stringslite_Index_one s 46 _).mono ?_
    rintro e w' ⟨rfl, hw⟩
    subst hw
    rw [HI.out]
    go_wp2_with fail
    go_quiet (fail)
    go_wp2
    go_ret3
    exact ⟨by simp [Lat.preS, Lat.sufS, HD.out], drewBelow (Below.refl _ _) _⟩

theorem cut_any (w : World) (s : ByteArray) (hs : s.size ≤ maxLen) :
    Calls Tryz.prog 147 #[.string s, .string ⟨#[46]⟩] w fun e w' => e = .returned (.tuple #[.string (Lat.preS s), .string (Lat.sufS s), .bool (Lat.dotAt s).isSome]) ∧ Below w.heap.size w w' := by
  have HC := hide (lcut_any w s hs)
  generalize Lat.preS s = pre at *
  generalize Lat.sufS s = suf at *
  generalize (Lat.dotAt s).isSome = dot at *
  go_enter Tryz.func147, Tryz.ntmps147
  go_wp2_with fail
  refine HC.out.mono ?_
  rintro e w1 ⟨rfl, hb1⟩
  have HB := hide hb1
  clear hb1
  go_wp2
  go_ret3
  exact ⟨rfl, HB.out⟩

theorem isCallee_any (w : World) (s : ByteArray) (hs : s.size ≤ maxLen) :
    Calls Tryz.prog 126 #[.string s] w fun e w' => e = .returned (.bool (Lat.callB s)) ∧ Below w.heap.size w w' := by
  have HC := hide (cut_any w s hs)
  have hp1 : (Lat.preS s).size ≤ maxLen := Nat.le_trans (preS_le s) hs
  have hp2 : (Lat.sufS s).size ≤ maxLen := Nat.le_trans (sufS_le s) hs
  have HE : Hid (Lat.callB s = (Lat.nameB (Lat.preS s).data.toList && (!(Lat.dotAt s).isSome || Lat.nameB (Lat.sufS s).data.toList))) := rfl
  generalize Lat.preS s = pre at *
  generalize Lat.sufS s = suf at *
  generalize (Lat.dotAt s).isSome = dot at *
  go_enter Tryz.func126, Tryz.ntmps126
  go_wp2_with fail
  refine HC.out.mono ?_
  rintro e w1 ⟨rfl, hb1⟩
  have HB := hide hb1
  clear hb1
  go_wp2_with fail
  refine (isName_any _ pre hp1).mono ?_
  rintro e w' ⟨rfl, hw⟩
  subst hw
  cases hb : Lat.nameB pre.data.toList
  · have HB1 := hide hb
    go_wp2
    go_ret
    exact ⟨ret_bool (by rw [HE.out, HB1.out]; rfl), HB.out⟩
  · have HB1 := hide hb
    cases dot
    · go_wp2
      go_ret
      exact ⟨ret_bool (by rw [HE.out, HB1.out]; rfl), HB.out⟩
    · go_wp2_with fail
      refine (isName_any _ suf hp2).mono ?_
      rintro e w' ⟨rfl, hw⟩
      subst hw
      generalize Lat.nameB suf.data.toList = b2 at *
      go_wp2
      go_ret
      exact ⟨ret_bool (by rw [HE.out, HB1.out]; simp), HB.out⟩

end Go.Proofs.YtbncnkfogkhoeabGreatDoor

/- Walks over package names: what a call means there. -/
namespace Go.Proofs.YtbncnkfogkhoeabGreatDoor
open Go.RowKit

namespace Nm
/-- What target answers. -/
def ptgt (x : Mo) (k : Nat) (call : ByteArray) (known : List Mo) : Int × Int × Bool :=
  match Lat.dotAt call with
  | none => fnd (-1) x.funs call k
  | some _ => if Lat.indexI x.imports (Lat.preS call) < 0 then (0, 0, false) else
    match moAt known (x.imports.getD (Lat.indexI x.imports (Lat.preS call)).toNat ByteArray.empty) with
    | none => (0, 0, false)
    | some a => fnd a ((known[a]?.map (·.funs)).getD []) (Lat.sufS call) ((known[a]?.map (·.funs)).getD []).length
theorem ptgt_noM {x : Mo} {k : Nat} {call : ByteArray} {known : List Mo} {d i : Nat} (hd : Lat.dotAt call = some d) (hi : Lat.indexI x.imports (Lat.preS call) = (i : Int)) (hm : moAt known (x.imports.getD i ByteArray.empty) = none) : ptgt x k call known = (0, 0, false) := by
  unfold ptgt
  rw [hd]
  simp only
  rw [if_neg (by rw [hi]; omega), hi, Int.toNat_natCast, hm]
theorem ptgt_fn {x y : Mo} {k : Nat} {call : ByteArray} {known : List Mo} {d i a : Nat} (hd : Lat.dotAt call = some d) (hi : Lat.indexI x.imports (Lat.preS call) = (i : Int)) (hm : moAt known (x.imports.getD i ByteArray.empty) = some a) (hy : known[a]? = some y) : ptgt x k call known = fnd a y.funs (Lat.sufS call) y.funs.length := by
  unfold ptgt
  rw [hd]
  simp only
  rw [if_neg (by rw [hi]; omega), hi, Int.toNat_natCast, hm]
  simp only [hy, Option.map_some, Option.getD_some]
theorem moAt_lt {l : List Mo} {s : ByteArray} {a : Nat} (h : moAt l s = some a) : ∃ y, l[a]? = some y ∧ sameB y.name s = true := by
  unfold moAt at h
  have h1 := List.find?_some h
  cases hy : l[a]? with
  | none => rw [hy] at h1; simp at h1
  | some y => rw [hy] at h1; exact ⟨y, rfl, h1⟩
end Nm
theorem box6 (w : World) (c0 c1 c2 c3 c4 c5 : Value) (t : TypeId) (i : Nat) (v : Value) (h : (#[c0, c1, c2, c3, c4, c5] : Array Value)[i]? = some v) : (w.alloc (.cells #[c0, c1, c2, c3, c4, c5] t)).cell? ⟨w.heap.size, i, none⟩ = some v :=
  (block_at (block_new w (.cells #[c0, c1, c2, c3, c4, c5] t)) i).trans h
theorem ret_t3' {P : Prop} {R R' : Int × Int × Bool} (h : R = R') (hb : P) : (Ending.returned (.tuple #[.int .i64 R.1, .int .i64 R.2.1, .bool R.2.2]) = Ending.returned (.tuple #[.int .i64 R'.1, .int .i64 R'.2.1, .bool R'.2.2])) ∧ P := by
  subst h; exact ⟨rfl, hb⟩

theorem idx_cases (l : List ByteArray) (s : ByteArray) : Lat.indexI l s = -1 ∨ ∃ i : Nat, Lat.indexI l s = i ∧ i < l.length := by
  unfold Lat.indexI
  cases h : (List.range l.length).find? (Lat.isAt l s) with
  | none => exact Or.inl rfl
  | some i => exact Or.inr ⟨i, rfl, List.mem_range.1 (List.mem_of_find?_eq_some h)⟩
/-- A scope's value. -/
structure ScV (w : World) (m : Nat) (x : Mo) (known : List Mo) (vi vv vf vk va : Value) : Prop where
  mo : MoAt w m (.agg #[.string x.name, vi, vv, vf]) x
  kn : MosAt w m vk known
  ats : Ints w va (x.imports.map fun s => Nm.oI (Nm.moAt known s))
  cap : ∀ a n c, vf = .slice a n c → n ≤ c
theorem ScV.below {w w' : World} {m : Nat} {x : Mo} {known : List Mo} {vi vv vf vk va : Value} (h : ScV w m x known vi vv vf vk va) (hb : Below w.heap.size w w') : ScV w' m x known vi vv vf vk va :=
  ⟨h.mo.below hb, h.kn.below hb, h.ats.below hb, h.cap⟩
theorem MoAt.split {w : World} {m : Nat} {x : Mo} {vi vv vf : Value} (h : MoAt w m (.agg #[.string x.name, vi, vv, vf]) x) : Strs w vi x.imports ∧ VasAt w vv x.vars ∧ FusAt w m vf x.funs := by
  obtain ⟨vi', vv', vf', hz, hnm, hI, hV, hF⟩ := h
  injection hz with hz
  injection hz with hz
  injection hz with _ hz
  injection hz with hz1 hz
  injection hz with hz2 hz
  injection hz with hz3 _
  subst hz1 hz2 hz3
  exact ⟨hI, hV, hF⟩

set_option maxHeartbeats 1000000 in
set_option maxRecDepth 100000 in
theorem starget_any (m : Nat) (w : World) (x : Mo) (known : List Mo) (vi vv vf vk va : Value) (k : Nat) (call : ByteArray) (h : ScV w m x known vi vv vf vk va) (hk : k ≤ x.funs.length) (hc : call.size ≤ maxLen) :
    Calls Tryz.prog 139 #[.agg #[.string x.name, vi, vv, vf, vk, va], .int .i64 k, .string call] w fun e w' => e = .returned (.tuple #[.int .i64 (Nm.ptgt x k call known).1, .int .i64 (Nm.ptgt x k call known).2.1, .bool (Nm.ptgt x k call known).2.2]) ∧ Below w.heap.size w w' := by
  obtain ⟨hI, hV, hF⟩ := h.mo.split
  have hK := h.kn
  have hA := h.ats
  have HI := hide hI
  have HFC := hide h.cap
  obtain ⟨ai, bi, oi, ci, rfl, -⟩ := hI
  obtain ⟨av, bv, ov, cv, rfl, -⟩ := hV
  obtain ⟨af, bf, of, cf, rfl, haf, hlf, hcf⟩ := hF
  obtain ⟨ak, bk, ok, ck, rfl, hak, hlk, hck⟩ := hK
  have hcap := h.cap _ _ _ rfl
  have HEF : Hid (FuEl w m bf of x.funs) := hcf
  have HAF := hide haf
  have HAK := hide hak
  have HCK := hide hck
  obtain ⟨aa, ba, oa, ca, rfl, haa, hla, hca⟩ := hA
  have HAA := hide haa
  have HCA := hide hca
  obtain ⟨R, hR⟩ : ∃ R, R = Nm.ptgt x k call known := ⟨_, rfl⟩
  have HR := hide hR
  rw [← hR]
  have HCUT : Hid (∀ w, Calls Tryz.prog 147 #[.string call, .string ⟨#[46]⟩] w fun e w' => e = .returned (.tuple #[.string (Lat.preS call), .string (Lat.sufS call), .bool (Lat.dotAt call).isSome]) ∧ Below w.heap.size w w') := fun w => cut_any w call hc
  obtain ⟨ni, hni⟩ : ∃ n, n = x.imports.length := ⟨_, rfl⟩
  obtain ⟨nf, hnf⟩ : ∃ n, n = x.funs.length := ⟨_, rfl⟩
  obtain ⟨nk, hnk⟩ : ∃ n, n = known.length := ⟨_, rfl⟩
  have hla' : (x.imports.map fun s => Nm.oI (Nm.moAt known s)).length = ni := by rw [List.length_map, hni]
  rw [hla'] at hla HAA ⊢
  have HNF := hide hnf
  have HNK := hide hnk
  have HNI := hide hni
  rw [← hni] at HI
  rw [← hnf] at hcap hk hlf HAF
  rw [← hnk] at hlk HAK
  rw [← hni, ← hnf, ← hnk]
  generalize x.vars.length = nv at *
  have HBX := fun i v h => box6 w (.string x.name) (.slice ai ni ci) (.slice av nv cv) (.slice af nf cf) (.slice ak nk ck) (.slice aa ni ca) 190 i v h
  have q1 := HBX 1 _ rfl
  have q3 := HBX 3 _ rfl
  have q4 := HBX 4 _ rfl
  have q5 := HBX 5 _ rfl
  have HB0 := hide (boxBelow w (.cells #[.string x.name, .slice ai ni ci, .slice av nv cv, .slice af nf cf, .slice ak nk ck, .slice aa ni ca] 190))
  clear HBX haf hak hcf hck haa hca hni hnf hnk hla' hR h
  cases hd : Lat.dotAt call with
  | none =>
    rw [hd] at HCUT
    have HD := hide hd
    clear hd
    generalize Lat.sufS call = suf at *
    generalize Lat.preS call = pre at *
    go_enter Tryz.func139, Tryz.ntmps139
    go_wp2_with fail
    refine (HCUT.out _).mono ?_
    rintro e w1 ⟨rfl, hb1⟩
    replace q3 := cellUp q3 hb1
    have HB1 := hide (up HB0.out hb1)
    clear hb1 q1 q4 q5
    go_wp2_with fail
    refine (nahead_any _ af nf cf k hk hcap).mono ?_
    rintro e w2 ⟨rfl, hw2⟩
    subst hw2
    go_wp2_with fail
    refine (found_any m _ af bf of cf k x.funs call (-1) (by rw [← HNF.out]; exact hk) (by rw [← HNF.out]; exact hlf) (fun h => HAF.out (by omega)) (HEF.out.below HB1.out)).mono ?_
    rintro e w3 ⟨rfl, hb3⟩
    have HB3 := hide (up HB1.out hb3)
    clear hb3
    go_wp2_with fail
    go_ret3
    exact ret_t3' (by rw [HR.out]; simp [Nm.ptgt, HD.out]) HB3.out
  | some dd =>
    rw [hd] at HCUT
    have HD := hide hd
    clear hd
    obtain ⟨suf, hsuf⟩ : ∃ s, s = Lat.sufS call := ⟨_, rfl⟩
    obtain ⟨pre, hpre⟩ : ∃ s, s = Lat.preS call := ⟨_, rfl⟩
    have HSU := hide hsuf
    have HPR := hide hpre
    rw [← hsuf, ← hpre] at HCUT
    clear hsuf hpre
    have HIX := hide (fun wx (hb : Below w.heap.size w wx) => indexS_any wx _ x.imports pre (HI.out.below hb))
    rcases idx_cases x.imports pre with hix | ⟨i, hi, hil⟩
    · rw [hix] at HIX
      have HXX := hide hix
      clear hix
      go_enter Tryz.func139, Tryz.ntmps139
      go_wp2_with fail
      refine (HCUT.out _).mono ?_
      rintro e w1 ⟨rfl, hb1⟩
      replace q1 := cellUp q1 hb1
      have HB1 := hide (up HB0.out hb1)
      clear hb1 q3 q4 q5
      go_wp2_with fail
      refine (HIX.out _ HB1.out).mono ?_
      rintro e w2 ⟨rfl, hw2⟩
      subst hw2
      go_wp2
      go_ret3
      exact ret_t3 (by rw [HR.out]; simp [Nm.ptgt, HD.out, ← HPR.out, HXX.out]) HB1.out
    · rw [hi] at HIX
      have HXX := hide hi
      rw [← HNI.out] at hil
      have haI := HAA.out (by omega)
      subst haI
      have c5 := HCA.out i (Nm.oI (Nm.moAt known (x.imports.getD i ByteArray.empty))) (by
        have hil' : i < x.imports.length := by rw [← HNI.out]; exact hil
        simp [List.getD_eq_getElem?_getD, hil'])
      clear hi
      cases hm : Nm.moAt known (x.imports.getD i ByteArray.empty) with
      | none =>
        rw [hm] at c5
        have HM := hide hm
        have ho : Nm.oI none = -1 := rfl
        rw [ho] at c5
        clear hm ho
        go_enter Tryz.func139, Tryz.ntmps139
        go_wp2_with fail
        refine (HCUT.out _).mono ?_
        rintro e w1 ⟨rfl, hb1⟩
        replace q1 := cellUp q1 hb1
        replace q5 := cellUp q5 hb1
        have HB1 := hide (up HB0.out hb1)
        replace c5 := cellUp c5 HB1.out
        clear hb1 q3 q4
        go_wp2_with fail
        refine (HIX.out _ HB1.out).mono ?_
        rintro e w2 ⟨rfl, hw2⟩
        subst hw2
        go_wp2
        go_ret3
        exact ret_t3 (by rw [HR.out]; exact Nm.ptgt_noM HD.out (by rw [← HPR.out]; exact HXX.out) HM.out) HB1.out
      | some a =>
        rw [hm] at c5
        have HM := hide hm
        have ho : Nm.oI (some a) = (a : Int) := rfl
        rw [ho] at c5
        obtain ⟨y, hy, -⟩ := Nm.moAt_lt hm
        have hak : a < nk := by have := (List.getElem?_eq_some_iff.1 hy).1; rw [HNK.out]; exact this
        obtain ⟨yi, yv, yf, g0, g1, g2, g3, hmy⟩ := HCK.out a y hy
        obtain ⟨-, -, hyF⟩ := hmy.split
        obtain ⟨ay, bY, oy, cy, rfl, hay, hly, hcy⟩ := hyF
        have HY := hide hy
        obtain ⟨ny, hny⟩ : ∃ n, n = y.funs.length := ⟨_, rfl⟩
        have HNY := hide hny
        have HFC := hide (fun wx (hb : Below w.heap.size w wx) => found_any m wx ay bY oy cy y.funs.length y.funs suf a (Nat.le_refl _) hly hay ((show FuEl w m bY oy y.funs from hcy).below hb))
        rw [← hny] at HFC g3
        have hkk := HAK.out (by omega)
        subst hkk
        obtain ⟨T, hT⟩ : ∃ T, T = Nm.fnd a y.funs suf ny := ⟨_, rfl⟩
        have HT := hide hT
        rw [← hT] at HFC
        clear hm ho hy hmy hay hly hcy g0 g1 g2 hny hT
        go_enter Tryz.func139, Tryz.ntmps139
        go_wp2_with fail
        refine (HCUT.out _).mono ?_
        rintro e w1 ⟨rfl, hb1⟩
        replace q1 := cellUp q1 hb1
        replace q4 := cellUp q4 hb1
        replace q5 := cellUp q5 hb1
        have HB1 := hide (up HB0.out hb1)
        replace c5 := cellUp c5 HB1.out
        replace g3 := cellUp g3 HB1.out
        clear hb1 q3
        go_wp2_with fail
        refine (HIX.out _ HB1.out).mono ?_
        rintro e w2 ⟨rfl, hw2⟩
        subst hw2
        go_wp2_with fail
        replace q4 := cell_gn q4
        replace q5 := cell_gn q5
        replace c5 := cell_gn c5
        replace g3 := cell_gn g3
        have HFG := hide (fun n os => HFC.out _ (up HB1.out (below_gn w2 n os)))
        refine wp_region_quiet_gn (by kernel_rfl) (by kernel_rfl) ?_
        repeat (quiet_step ((exact Calls.gn_of (HFG.out _ _))))
        refine wpQuiet_nil ?_
        intro _ hw'
        obtain ⟨⟨nq, osq⟩, hw''⟩ := hw'
        subst hw''
        have HB6 := hide (up HB1.out (below_gn w2 nq osq))
        go_wp2_with fail
        go_ret3
        exact ret_t3' (by rw [HT.out, HR.out, Nm.ptgt_fn HD.out (by rw [← HPR.out]; exact HXX.out) HM.out HY.out, HNY.out, HSU.out]) HB6.out

end Go.Proofs.YtbncnkfogkhoeabGreatDoor

/- Walks over package names: callCode, Target. -/
namespace Go.Proofs.YtbncnkfogkhoeabGreatDoor
open Go.RowKit

namespace Nm
theorem fnAt_lt {l : List Fu} {s : ByteArray} {n i : Nat} (h : fnAt l s n = some i) : i < n ∧ ∃ f, l[i]? = some f := by
  unfold fnAt at h
  have h1 := List.find?_some h
  refine ⟨List.mem_range.1 (List.mem_of_find?_eq_some h), ?_⟩
  cases hy : l[i]? with
  | none => rw [hy] at h1; simp at h1
  | some y => exact ⟨y, rfl⟩
/-- The function that is meant. -/
def pfun (x : Mo) (known : List Mo) (t : Int × Int × Bool) : Option Fu :=
  if t.1 = -1 then x.funs[t.2.1.toNat]? else known[t.1.toNat]?.bind fun y => y.funs[t.2.1.toNat]?
/-- What callCode answers. -/
def code (x : Mo) (known : List Mo) (k : Nat) (name : ByteArray) (nargs : Nat) : Int :=
  if (ptgt x k name known).2.2 = false then 4 else match pfun x known (ptgt x k name known) with
    | some f => if f.params.length = nargs then 0 else 5
    | none => 0
theorem ptgt_true {x : Mo} {k : Nat} {call : ByteArray} {known : List Mo} (h : (ptgt x k call known).2.2 = true) :
    (∃ (i : Nat) (f : Fu), ptgt x k call known = (-1, (i : Int), true) ∧ x.funs[i]? = some f) ∨ (∃ (a : Nat) (y : Mo) (j : Nat) (f : Fu), ptgt x k call known = ((a : Int), (j : Int), true) ∧ known[a]? = some y ∧ y.funs[j]? = some f) := by
  cases hd : Lat.dotAt call with
  | none =>
    have e : ptgt x k call known = fnd (-1) x.funs call k := by simp [ptgt, hd]
    rw [e] at h ⊢
    unfold fnd at h ⊢
    cases hf : fnAt x.funs call k with
    | none => rw [hf] at h; simp at h
    | some i =>
      obtain ⟨_, f, hf'⟩ := fnAt_lt hf
      exact Or.inl ⟨i, f, rfl, hf'⟩
  | some d =>
    rcases idx_cases x.imports (Lat.preS call) with hi | ⟨i, hi, _⟩
    · have e : ptgt x k call known = (0, 0, false) := by simp [ptgt, hd, hi]
      rw [e] at h; simp at h
    · cases hm : moAt known (x.imports.getD i ByteArray.empty) with
      | none => rw [ptgt_noM hd hi hm] at h; simp at h
      | some a =>
        obtain ⟨y, hy, _⟩ := moAt_lt hm
        rw [ptgt_fn hd hi hm hy] at h ⊢
        unfold fnd at h ⊢
        cases hf : fnAt y.funs (Lat.sufS call) y.funs.length with
        | none => rw [hf] at h; simp at h
        | some j =>
          obtain ⟨_, f, hf'⟩ := fnAt_lt hf
          exact Or.inr ⟨a, y, j, f, rfl, hy, hf'⟩
end Nm

end Go.Proofs.YtbncnkfogkhoeabGreatDoor

/- Walks over package names: callsIn, eachCommand, eachCall, whatever is done at each. -/
namespace Go.Proofs.YtbncnkfogkhoeabGreatDoor
open Go.RowKit

namespace Nm
/-- The calls of an expression, itself first; m bounds how deep it is looked into. -/
def pcalls : Nat → Ex → List Ex
  | 0, _ => []
  | m + 1, x => (if x.kind = 4 then [x] else []) ++ x.args.flatMap (pcalls m)
end Nm
/-- What stays where only diagnostics are told. -/
theorem flatMap_le {α β γ : Type} {f : α → List β} {g : β → List γ} {l : List α} (j : Nat) : (((l.take j).flatMap f).flatMap g).length ≤ ((l.flatMap f).flatMap g).length := by
  have h := congrArg (fun t => ((t.flatMap f).flatMap g).length) (List.take_append_drop j l)
  simp only [List.flatMap_append, List.length_append] at h
  omega

theorem box8 (w : World) (c0 c1 c2 c3 c4 c5 c6 c7 : Value) (t : TypeId) (i : Nat) (v : Value) (h : (#[c0, c1, c2, c3, c4, c5, c6, c7] : Array Value)[i]? = some v) : (w.alloc (.cells #[c0, c1, c2, c3, c4, c5, c6, c7] t)).cell? ⟨w.heap.size, i, none⟩ = some v :=
  (block_at (block_new w (.cells #[c0, c1, c2, c3, c4, c5, c6, c7] t)) i).trans h

end Go.Proofs.YtbncnkfogkhoeabGreatDoor

/- Walks over package names: levelDiags. -/
namespace Go.Proofs.YtbncnkfogkhoeabGreatDoor
open Go.RowKit

namespace Nm
/-- What levelDiags tells of a command. -/
def levS (names : List ByteArray) (fn : ByteArray) (s : St) : List Dg := if s.kind = 4 then lev names fn s.name else []
theorem lev_len (names : List ByteArray) (fn name : ByteArray) : (lev names fn name).length ≤ 1 := by unfold lev; split <;> simp
theorem levS_len (names : List ByteArray) (fn : ByteArray) (s : St) : (levS names fn s).length ≤ 1 := by
  unfold levS; split
  · exact lev_len _ _ _
  · simp
end Nm

namespace Nm
/-- What levelDiags answers. -/
def lvD (names : List ByteArray) (x : Mo) (m : Nat) : List Dg := (x.vars.flatMap fun v => lev names ⟨#[]⟩ v.level) ++ x.funs.flatMap fun f => (all m f.body).flatMap (levS names f.name)
end Nm
theorem al4 (w : World) (a b c d : Obj) : ((((w.alloc a).alloc b).alloc c).alloc d).heap[w.heap.size]? = some a ∧ ((((w.alloc a).alloc b).alloc c).alloc d).heap[w.heap.size + 1]? = some b ∧
    ((((w.alloc a).alloc b).alloc c).alloc d).heap[w.heap.size + 1 + 1]? = some c ∧ ((((w.alloc a).alloc b).alloc c).alloc d).heap[w.heap.size + 1 + 1 + 1]? = some d ∧ Below w.heap.size w ((((w.alloc a).alloc b).alloc c).alloc d) := by
  have h1 := block_new w a
  have h2 := block_new (w.alloc a) b
  have h3 := block_new ((w.alloc a).alloc b) c
  have h4 := block_new (((w.alloc a).alloc b).alloc c) d
  simp only [World.size_alloc] at h2 h3 h4
  refine ⟨?_, ?_, ?_, h4, up (up (up (boxBelow _ _) (boxBelow _ _)) (boxBelow _ _)) (boxBelow _ _)⟩
  · rw [(boxBelow _ d).block _ (by simp; omega), (boxBelow _ c).block _ (by simp; omega), (boxBelow _ b).block _ (by simp)]; exact h1
  · rw [(boxBelow _ d).block _ (by simp), (boxBelow _ c).block _ (by simp)]; exact h2
  · rw [(boxBelow _ d).block _ (by simp)]; exact h3
theorem flat_len1 {α β : Type} {f : α → List β} {l : List α} (h : ∀ x, (f x).length ≤ 1) : (l.flatMap f).length ≤ l.length := by
  induction l with
  | nil => simp
  | cons x r ih => rw [List.flatMap_cons, List.length_append, List.length_cons]; have := h x; omega

end Go.Proofs.YtbncnkfogkhoeabGreatDoor

/- Walks over package names: eachCall, callDiags. -/
namespace Go.Proofs.YtbncnkfogkhoeabGreatDoor
open Go.RowKit

namespace Nm
/-- The calls of a function, as eachCall comes to them. -/
def fcalls (m : Nat) (f : Fu) : List Ex := ((all m f.body).flatMap fun s => pcalls m s.e) ++ pcalls m f.result
end Nm
theorem al2 (w : World) (a b : Obj) : ((w.alloc a).alloc b).heap[w.heap.size]? = some a ∧ ((w.alloc a).alloc b).heap[w.heap.size + 1]? = some b ∧ Below w.heap.size w ((w.alloc a).alloc b) := by
  have h1 := block_new w a
  have h2 := block_new (w.alloc a) b
  simp only [World.size_alloc] at h2
  refine ⟨?_, h2, up (boxBelow _ _) (boxBelow _ _)⟩
  rw [(boxBelow _ b).block _ (by simp)]; exact h1

namespace Nm
/-- What callDiags tells of a call. -/
def clE (x : Mo) (known : List Mo) (k : Nat) (fn : ByteArray) (y : Ex) : List Dg := if code x known k y.name y.args.length = 0 then [] else [⟨code x known k y.name y.args.length, fn, y.name⟩]
end Nm

end Go.Proofs.YtbncnkfogkhoeabGreatDoor

/- Walks over package names: callDiags, importDiags. -/
namespace Go.Proofs.YtbncnkfogkhoeabGreatDoor
open Go.RowKit

namespace Nm
/-- What is told place by place. -/
def upto (g : Nat → List Dg) (n : Nat) : List Dg := (List.range n).flatMap g
theorem upto_succ (g : Nat → List Dg) (n : Nat) : upto g (n + 1) = upto g n ++ g n := by unfold upto; rw [List.range_succ, List.flatMap_append]; simp
theorem upto_zero (g : Nat → List Dg) : upto g 0 = [] := rfl
theorem upto_le (g : Nat → List Dg) {j n : Nat} (h : j ≤ n) : (upto g j).length ≤ (upto g n).length := by
  induction n with
  | zero => have : j = 0 := by omega
            subst this; exact Nat.le_refl _
  | succ n ih =>
    by_cases e : j = n + 1
    · subst e; exact Nat.le_refl _
    · rw [upto_succ, List.length_append]; have := ih (by omega); omega
theorem mem_upto {g : Nat → List Dg} {n : Nat} {d : Dg} : d ∈ upto g n ↔ ∃ i, i < n ∧ d ∈ g i := by
  unfold upto; simp
def atD {α : Type} (l : List α) (f : Nat → α → List Dg) (i : Nat) : List Dg := match l[i]? with
  | some x => f i x
  | none => []
theorem atD_some {α : Type} {l : List α} {f : Nat → α → List Dg} {i : Nat} {x : α} (h : l[i]? = some x) : atD l f i = f i x := by unfold atD; rw [h]
/-- What callDiags answers. -/
def clD (x : Mo) (known : List Mo) (m : Nat) : List Dg := upto (atD x.funs fun k f => (fcalls m f).flatMap (clE x known k f.name)) x.funs.length
/-- What importDiags answers. -/
def imD (x : Mo) (known : List Mo) : List Dg := upto (atD x.imports fun _ s => if (sameB s x.name || (moAt known s).isNone) = true then [⟨1, ⟨#[]⟩, s⟩] else []) x.imports.length
end Nm

end Go.Proofs.YtbncnkfogkhoeabGreatDoor

/- Walks over the library: slices.Grow of nil and slices.Concat, of diagnostics. -/
namespace Go.Proofs.YtbncnkfogkhoeabGreatDoor
open Go.RowKit

/-- As OwnK, but an empty row may have room. -/
def OwnR {α : Type} (At : List Value → α → Prop) (w : World) (n e k : Nat) (v : Value) (l : List α) : Prop :=
  ∃ cs : List (List Value), w.ownsRow n e k v l.length cs.flatten ∧ cs.length = l.length ∧ (∀ c ∈ cs, c.length = k ∧ ∀ u ∈ c, u.oneCell' = true) ∧ (∀ (i : Nat) c y, cs[i]? = some c → l[i]? = some y → At c y)
section
variable {α : Type} {At : List Value → α → Prop} {w w' : World} {n e k : Nat} {v : Value} {l : List α}
theorem OwnK.toR (h : OwnK At w n e k v l) : OwnR At w n e k v l := by
  obtain ⟨cs, h1, h2, h3, h4, _⟩ := h
  exact ⟨cs, h1, h2, h3, h4⟩
theorem OwnR.toK (h : OwnR At w n e k v l) (hz : l = [] → v = .slice none 0 0) : OwnK At w n e k v l := by
  obtain ⟨cs, h1, h2, h3, h4⟩ := h
  exact ⟨cs, h1, h2, h3, h4, hz⟩
theorem OwnR.lt (h : OwnR At w n e k v l) : ∀ j, v.ownBlock = some j → n ≤ j ∧ j < w.heap.size := by
  obtain ⟨cs, h1, _⟩ := h
  exact h1.lt
theorem OwnR.below (h : OwnR At w n e k v l) (hb : Below w.heap.size w w') : OwnR At w' n e k v l := by
  obtain ⟨cs, h1, h2⟩ := h
  exact ⟨cs, own_below h1 hb, h2⟩
end
section
variable {α : Type} {At : List Value → α → Prop} {w : World} {ops : Array Oper} {rest : List Oper} {o : Oper} {a : Act} {Q : Exit → Act → World → Prop}
theorem wpList_append_R (hgd : o.guard = none) (s x : Operand) (t e k bytes : Nat) (z : Value)
    (ho : o.op = .call { callee := .builtin .append, args := #[s, x], argTypes := #[t, t] }) (ht : Tryz.prog.underlying t = some (.slice e)) (hinfo : (Tryz.prog.info? e).map (fun i => (i.zero, i.size, i.bytes)) = some (some z, k, bytes)) (hzs : z.cells.size = k) (hk : 0 < k) (hby : bytes ≤ 1024)
    (n : Nat) (v : Value) (l : List α) (hs : a.eval s = v) (hown : OwnR At w n e k v l) (n2 : Nat) (v2 : Value) (l2 : List α) (hx : a.eval x = v2) (hown2 : OwnK At w n2 e k v2 l2) (hl : l.length + l2.length ≤ 16777216) (hbase : n ≤ w.heap.size)
    (h : ∀ v' w', OwnR At w' n e k v' (l ++ l2) → (l2 = [] → v' = v) → w.grownBy w' v.ownBlock → wpList Tryz.prog ops Q rest (a.put o.dst v') w') : wpList Tryz.prog ops Q (o :: rest) a w := by
  obtain ⟨iS, hiS, hz0, hz1, hz2⟩ := info_parts hinfo
  have HO := hown
  obtain ⟨cs, hr, k1, k2, k3⟩ := hown
  rcases hown2.shape with ⟨rfl, rfl⟩ | ⟨g2, cap2, rfl, _, _, _, hne⟩
  · refine wpList_append_own_none hgd s x t ho n e iS k ht hiS v l.length cs.flatten hs hr hx ?_
    exact h v w (by simpa using HO) (fun _ => rfl) ⟨rfl, rfl, rfl, Nat.le_refl _, fun _ _ _ => rfl⟩
  · obtain ⟨cs2, hr2, b1, b2, b3, _⟩ := hown2
    have hpos : 0 < l2.length := List.length_pos_iff.2 hne
    refine wpList_append_lies w hgd s x t ho n e iS z k bytes ht hiS hz0 hz1 hz2 hzs hk v l.length cs.flatten hs hr ⟨g2, 0, none⟩ l2.length cap2 cs2.flatten hx (by rw [flat_len cs2 (fun c hc => (b2 c hc).1), b1]) (fun j u hu => ?_) (fun u hu => ?_) hpos (by unfold maxLen; omega)
      (Nat.le_trans (Nat.mul_le_mul hl hby) (by decide)) hbase w.heap.size rfl ?_
    · rw [Addr.add_lit, Nat.zero_add, World.ownsRow.cellAt hr2 j (by have := (List.getElem?_eq_some_iff.1 hu).1; rw [flat_len cs2 (fun c hc => (b2 c hc).1), b1] at this; exact this)]
      exact hu
    · obtain ⟨c, hc, hu'⟩ := List.mem_flatten.1 hu
      exact (b2 c hc).2 u hu'
    · intro g cap w' h1' h2 _ _
      exact h _ w' (OwnK.cat ⟨k1, k2, k3⟩ ⟨b1, b2, b3⟩ hne h1').toR (fun e => absurd e hne) h2
end

theorem flatD_take {ls : List (List Dg)} {j : Nat} {l : List Dg} (h : ls[j]? = some l) : (ls.take (j + 1)).flatten = (ls.take j).flatten ++ l := by
  obtain ⟨hj, rfl⟩ := List.getElem?_eq_some_iff.1 h
  rw [List.take_succ_eq_append_getElem hj, List.flatten_append]; simp
theorem flatD_le (ls : List (List Dg)) (j : Nat) : (ls.take j).flatten.length ≤ ls.flatten.length := by
  conv => rhs; rw [← List.take_append_drop j ls]
  rw [List.flatten_append, List.length_append]; omega

end Go.Proofs.YtbncnkfogkhoeabGreatDoor

/- Walks over package names: twiceAmong, twiceDiags. -/
namespace Go.Proofs.YtbncnkfogkhoeabGreatDoor
open Go.RowKit

theorem Strs.takeS {w : World} {a : Option Addr} {n cap i : Nat} {ss : List ByteArray} (h : Strs w (.slice a n cap) ss) (hi : i ≤ ss.length) : Strs w (.slice a i cap) (ss.take i) := by
  obtain ⟨a', b, off, c, e, h0, h1, h2, h3⟩ := h
  injection e with e1 e2 e3
  subst e1 e2 e3
  have hl : (ss.take i).length = i := by rw [List.length_take]; omega
  refine ⟨a, b, off, cap, by rw [hl], fun h => h0 (by omega), by omega, fun s hs => h2 s (List.mem_of_mem_take hs), fun j hj => ?_⟩
  rw [h3 j (by omega)]
  rw [hl] at hj
  simp [List.getD_eq_getElem?_getD, hj]
namespace Nm
def inB (l : List ByteArray) (s : ByteArray) : Bool := decide (0 ≤ Lat.indexI l s)
/-- What twiceAmong answers. -/
def twA (fn : ByteArray) (l : List ByteArray) : List Dg := upto (atD l fun i s => if inB (l.take i) s = true then [⟨2, fn, s⟩] else []) l.length
/-- What twiceDiags answers. -/
def twD (x : Mo) : List Dg := [twA ⟨#[]⟩ x.imports, twA ⟨#[]⟩ (x.vars.map (·.name)), twA ⟨#[]⟩ (x.funs.map (·.name))].flatten ++ x.funs.flatMap fun f => twA f.name f.params
end Nm

theorem boxD (w : World) (cs : Array Value) (t : TypeId) (i : Nat) (v : Value) (h : cs[i]? = some v) : (w.alloc (.cells cs t)).cell? ⟨w.heap.size, i, none⟩ = some v := (block_at (block_new w (.cells cs t)) i).trans h
/-- A slice's length is within its capacity. -/
def CapOK (v : Value) : Prop := ∀ a n c, v = .slice a n c → n ≤ c
/-- The capacities of a module's lists that are sliced. -/
structure MoCap (w : World) (vi vf : Value) : Prop where
  imp : CapOK vi
  fus : CapOK vf
  par : ∀ b off n c, vf = .slice (some ⟨b, off, none⟩) n c → ∀ i, i < n → ∃ vp, w.cell? ⟨b, off + i * 7 + 1, none⟩ = some vp ∧ CapOK vp
theorem MoCap.below {w w' : World} {vi vf : Value} (h : MoCap w vi vf) (hb : Below w.heap.size w w') : MoCap w' vi vf :=
  ⟨h.imp, h.fus, fun b off n c e i hi => by
    obtain ⟨vp, h1, h2⟩ := h.par b off n c e i hi
    exact ⟨vp, cellUp h1 hb, h2⟩⟩

end Go.Proofs.YtbncnkfogkhoeabGreatDoor
