/- Walks over package names: what a call means there. -/
import Derived.Test.YtbncnkfogkhoeaaGreatDoorZE
import Derived.Test.YtbncnkfogkhoeaaGreatDoorZF
import Derived.Laws.EntriesVeiled
namespace Go.Proofs.YtbncnkfogkhoeaaGreatDoor
open Go.RowKit

namespace Nm
/-- What target answers. -/
def ptgt (x : Mo) (k : Nat) (call : ByteArray) (known : List Mo) : Int × Int × Bool :=
  match Lat.dotAt call with
  | none => fnd (-1) x.funs call k
  | some _ => if Lat.indexI x.imports (Lat.preS call) < 0 then (0, 0, false) else
    match moAt known (x.imports.getD (Lat.indexI x.imports (Lat.preS call)).toNat ByteArray.empty) with
    | none => (0, 0, false)
    | some a => fnd a ((known[a]?.map (·.funs)).getD []) (Lat.sufS call) ((known[a]?.map (·.funs)).getD []).length
theorem ptgt_noM {x : Mo} {k : Nat} {call : ByteArray} {known : List Mo} {d i : Nat} (hd : Lat.dotAt call = some d) (hi : Lat.indexI x.imports (Lat.preS call) = (i : Int)) (hm : moAt known (x.imports.getD i ByteArray.empty) = none) : ptgt x k call known = (0, 0, false) := by
  unfold ptgt
  rw [hd]
  simp only
  rw [if_neg (by rw [hi]; omega), hi, Int.toNat_natCast, hm]
theorem ptgt_fn {x y : Mo} {k : Nat} {call : ByteArray} {known : List Mo} {d i a : Nat} (hd : Lat.dotAt call = some d) (hi : Lat.indexI x.imports (Lat.preS call) = (i : Int)) (hm : moAt known (x.imports.getD i ByteArray.empty) = some a) (hy : known[a]? = some y) : ptgt x k call known = fnd a y.funs (Lat.sufS call) y.funs.length := by
  unfold ptgt
  rw [hd]
  simp only
  rw [if_neg (by rw [hi]; omega), hi, Int.toNat_natCast, hm]
  simp only [hy, Option.map_some, Option.getD_some]
theorem moAt_lt {l : List Mo} {s : ByteArray} {a : Nat} (h : moAt l s = some a) : ∃ y, l[a]? = some y ∧ sameB y.name s = true := by
  unfold moAt at h
  have h1 := List.find?_some h
  cases hy : l[a]? with
  | none => rw [hy] at h1; simp at h1
  | some y => rw [hy] at h1; exact ⟨y, rfl, h1⟩
end Nm
theorem box6 (w : World) (c0 c1 c2 c3 c4 c5 : Value) (t : TypeId) (i : Nat) (v : Value) (h : (#[c0, c1, c2, c3, c4, c5] : Array Value)[i]? = some v) : (w.alloc (.cells #[c0, c1, c2, c3, c4, c5] t)).cell? ⟨w.heap.size, i, none⟩ = some v :=
  (block_at (block_new w (.cells #[c0, c1, c2, c3, c4, c5] t)) i).trans h
theorem ret_t3' {P : Prop} {R R' : Int × Int × Bool} (h : R = R') (hb : P) : (Ending.returned (.tuple #[.int .i64 R.1, .int .i64 R.2.1, .bool R.2.2]) = Ending.returned (.tuple #[.int .i64 R'.1, .int .i64 R'.2.1, .bool R'.2.2])) ∧ P := by
  subst h; exact ⟨rfl, hb⟩

theorem idx_cases (l : List ByteArray) (s : ByteArray) : Lat.indexI l s = -1 ∨ ∃ i : Nat, Lat.indexI l s = i ∧ i < l.length := by
  unfold Lat.indexI
  cases h : (List.range l.length).find? (Lat.isAt l s) with
  | none => exact Or.inl rfl
  | some i => exact Or.inr ⟨i, rfl, List.mem_range.1 (List.mem_of_find?_eq_some h)⟩
/-- A scope's value. -/
structure ScV (w : World) (m : Nat) (x : Mo) (known : List Mo) (vi vv vf vk va : Value) : Prop where
  mo : MoAt w m (.agg #[.string x.name, vi, vv, vf]) x
  kn : MosAt w m vk known
  ats : Ints w va (x.imports.map fun s => Nm.oI (Nm.moAt known s))
  cap : ∀ a n c, vf = .slice a n c → n ≤ c
theorem ScV.below {w w' : World} {m : Nat} {x : Mo} {known : List Mo} {vi vv vf vk va : Value} (h : ScV w m x known vi vv vf vk va) (hb : Below w.heap.size w w') : ScV w' m x known vi vv vf vk va :=
  ⟨h.mo.below hb, h.kn.below hb, h.ats.below hb, h.cap⟩
theorem MoAt.split {w : World} {m : Nat} {x : Mo} {vi vv vf : Value} (h : MoAt w m (.agg #[.string x.name, vi, vv, vf]) x) : Strs w vi x.imports ∧ VasAt w vv x.vars ∧ FusAt w m vf x.funs := by
  obtain ⟨vi', vv', vf', hz, hnm, hI, hV, hF⟩ := h
  injection hz with hz
  injection hz with hz
  injection hz with _ hz
  injection hz with hz1 hz
  injection hz with hz2 hz
  injection hz with hz3 _
  subst hz1 hz2 hz3
  exact ⟨hI, hV, hF⟩

set_option maxHeartbeats 1000000 in
set_option maxRecDepth 100000 in
theorem starget_any (m : Nat) (w : World) (x : Mo) (known : List Mo) (vi vv vf vk va : Value) (k : Nat) (call : ByteArray) (h : ScV w m x known vi vv vf vk va) (hk : k ≤ x.funs.length) (hc : call.size ≤ maxLen) :
    Calls Tryz.prog 53 #[.agg #[.string x.name, vi, vv, vf, vk, va], .int .i64 k, .string call] w fun e w' => e = .returned (.tuple #[.int .i64 (Nm.ptgt x k call known).1, .int .i64 (Nm.ptgt x k call known).2.1, .bool (Nm.ptgt x k call known).2.2]) ∧ Below w.heap.size w w' := by
  obtain ⟨hI, hV, hF⟩ := h.mo.split
  have hK := h.kn
  have hA := h.ats
  have HI := hide hI
  have HFC := hide h.cap
  obtain ⟨ai, bi, oi, ci, rfl, -⟩ := hI
  obtain ⟨av, bv, ov, cv, rfl, -⟩ := hV
  obtain ⟨af, bf, of, cf, rfl, haf, hlf, hcf⟩ := hF
  obtain ⟨ak, bk, ok, ck, rfl, hak, hlk, hck⟩ := hK
  have hcap := h.cap _ _ _ rfl
  have HEF : Hid (FuEl w m bf of x.funs) := hcf
  have HAF := hide haf
  have HAK := hide hak
  have HCK := hide hck
  obtain ⟨aa, ba, oa, ca, rfl, haa, hla, hca⟩ := hA
  have HAA := hide haa
  have HCA := hide hca
  obtain ⟨R, hR⟩ : ∃ R, R = Nm.ptgt x k call known := ⟨_, rfl⟩
  have HR := hide hR
  rw [← hR]
  have HCUT : Hid (∀ w, Calls Tryz.prog 111 #[.string call, .string ⟨#[46]⟩] w fun e w' => e = .returned (.tuple #[.string (Lat.preS call), .string (Lat.sufS call), .bool (Lat.dotAt call).isSome]) ∧ Below w.heap.size w w') := fun w => cut_any w call hc
  obtain ⟨ni, hni⟩ : ∃ n, n = x.imports.length := ⟨_, rfl⟩
  obtain ⟨nf, hnf⟩ : ∃ n, n = x.funs.length := ⟨_, rfl⟩
  obtain ⟨nk, hnk⟩ : ∃ n, n = known.length := ⟨_, rfl⟩
  have hla' : (x.imports.map fun s => Nm.oI (Nm.moAt known s)).length = ni := by rw [List.length_map, hni]
  rw [hla'] at hla HAA ⊢
  have HNF := hide hnf
  have HNK := hide hnk
  have HNI := hide hni
  rw [← hni] at HI
  rw [← hnf] at hcap hk hlf HAF
  rw [← hnk] at hlk HAK
  rw [← hni, ← hnf, ← hnk]
  generalize x.vars.length = nv at *
  have HBX := fun i v h => box6 w (.string x.name) (.slice ai ni ci) (.slice av nv cv) (.slice af nf cf) (.slice ak nk ck) (.slice aa ni ca) 103 i v h
  have q1 := HBX 1 _ rfl
  have q3 := HBX 3 _ rfl
  have q4 := HBX 4 _ rfl
  have q5 := HBX 5 _ rfl
  have HB0 := hide (boxBelow w (.cells #[.string x.name, .slice ai ni ci, .slice av nv cv, .slice af nf cf, .slice ak nk ck, .slice aa ni ca] 103))
  clear HBX haf hak hcf hck haa hca hni hnf hnk hla' hR h
  cases hd : Lat.dotAt call with
  | none =>
    rw [hd] at HCUT
    have HD := hide hd
    clear hd
    generalize Lat.sufS call = suf at *
    generalize Lat.preS call = pre at *
    go_enter Tryz.func53, Tryz.ntmps53
    go_wp2_with fail
    refine (HCUT.out _).mono ?_
    rintro e w1 ⟨rfl, hb1⟩
    replace q3 := cellUp q3 hb1
    have HB1 := hide (up HB0.out hb1)
    clear hb1 q1 q4 q5
    go_wp2_with fail
    refine (nahead_any _ af nf cf k hk hcap).mono ?_
    rintro e w2 ⟨rfl, hw2⟩
    subst hw2
    go_wp2_with fail
    refine (found_any m _ af bf of cf k x.funs call (-1) (by rw [← HNF.out]; exact hk) (by rw [← HNF.out]; exact hlf) (fun h => HAF.out (by omega)) (HEF.out.below HB1.out)).mono ?_
    rintro e w3 ⟨rfl, hb3⟩
    have HB3 := hide (up HB1.out hb3)
    clear hb3
    go_wp2_with fail
    go_ret3
    exact ret_t3' (by rw [HR.out]; simp [Nm.ptgt, HD.out]) HB3.out
  | some dd =>
    rw [hd] at HCUT
    have HD := hide hd
    clear hd
    obtain ⟨suf, hsuf⟩ : ∃ s, s = Lat.sufS call := ⟨_, rfl⟩
    obtain ⟨pre, hpre⟩ : ∃ s, s = Lat.preS call := ⟨_, rfl⟩
    have HSU := hide hsuf
    have HPR := hide hpre
    rw [← hsuf, ← hpre] at HCUT
    clear hsuf hpre
    have HIX := hide (fun wx (hb : Below w.heap.size w wx) => indexS_any wx _ x.imports pre (HI.out.below hb))
    rcases idx_cases x.imports pre with hix | ⟨i, hi, hil⟩
    · rw [hix] at HIX
      have HXX := hide hix
      clear hix
      go_enter Tryz.func53, Tryz.ntmps53
      go_wp2_with fail
      refine (HCUT.out _).mono ?_
      rintro e w1 ⟨rfl, hb1⟩
      replace q1 := cellUp q1 hb1
      have HB1 := hide (up HB0.out hb1)
      clear hb1 q3 q4 q5
      go_wp2_with fail
      refine (HIX.out _ HB1.out).mono ?_
      rintro e w2 ⟨rfl, hw2⟩
      subst hw2
      go_wp2
      go_ret3
      exact ret_t3 (by rw [HR.out]; simp [Nm.ptgt, HD.out, ← HPR.out, HXX.out]) HB1.out
    · rw [hi] at HIX
      have HXX := hide hi
      rw [← HNI.out] at hil
      have haI := HAA.out (by omega)
      subst haI
      have c5 := HCA.out i (Nm.oI (Nm.moAt known (x.imports.getD i ByteArray.empty))) (by
        have hil' : i < x.imports.length := by rw [← HNI.out]; exact hil
        simp [List.getD_eq_getElem?_getD, hil'])
      clear hi
      cases hm : Nm.moAt known (x.imports.getD i ByteArray.empty) with
      | none =>
        rw [hm] at c5
        have HM := hide hm
        have ho : Nm.oI none = -1 := rfl
        rw [ho] at c5
        clear hm ho
        go_enter Tryz.func53, Tryz.ntmps53
        go_wp2_with fail
        refine (HCUT.out _).mono ?_
        rintro e w1 ⟨rfl, hb1⟩
        replace q1 := cellUp q1 hb1
        replace q5 := cellUp q5 hb1
        have HB1 := hide (up HB0.out hb1)
        replace c5 := cellUp c5 HB1.out
        clear hb1 q3 q4
        go_wp2_with fail
        refine (HIX.out _ HB1.out).mono ?_
        rintro e w2 ⟨rfl, hw2⟩
        subst hw2
        go_wp2
        go_ret3
        exact ret_t3 (by rw [HR.out]; exact Nm.ptgt_noM HD.out (by rw [← HPR.out]; exact HXX.out) HM.out) HB1.out
      | some a =>
        rw [hm] at c5
        have HM := hide hm
        have ho : Nm.oI (some a) = (a : Int) := rfl
        rw [ho] at c5
        obtain ⟨y, hy, -⟩ := Nm.moAt_lt hm
        have hak : a < nk := by have := (List.getElem?_eq_some_iff.1 hy).1; rw [HNK.out]; exact this
        obtain ⟨yi, yv, yf, g0, g1, g2, g3, hmy⟩ := HCK.out a y hy
        obtain ⟨-, -, hyF⟩ := hmy.split
        obtain ⟨ay, bY, oy, cy, rfl, hay, hly, hcy⟩ := hyF
        have HY := hide hy
        obtain ⟨ny, hny⟩ : ∃ n, n = y.funs.length := ⟨_, rfl⟩
        have HNY := hide hny
        have HFC := hide (fun wx (hb : Below w.heap.size w wx) => found_any m wx ay bY oy cy y.funs.length y.funs suf a (Nat.le_refl _) hly hay ((show FuEl w m bY oy y.funs from hcy).below hb))
        rw [← hny] at HFC g3
        have hkk := HAK.out (by omega)
        subst hkk
        obtain ⟨T, hT⟩ : ∃ T, T = Nm.fnd a y.funs suf ny := ⟨_, rfl⟩
        have HT := hide hT
        rw [← hT] at HFC
        clear hm ho hy hmy hay hly hcy g0 g1 g2 hny hT
        go_enter Tryz.func53, Tryz.ntmps53
        go_wp2_with fail
        refine (HCUT.out _).mono ?_
        rintro e w1 ⟨rfl, hb1⟩
        replace q1 := cellUp q1 hb1
        replace q4 := cellUp q4 hb1
        replace q5 := cellUp q5 hb1
        have HB1 := hide (up HB0.out hb1)
        replace c5 := cellUp c5 HB1.out
        replace g3 := cellUp g3 HB1.out
        clear hb1 q3
        go_wp2_with fail
        refine (HIX.out _ HB1.out).mono ?_
        rintro e w2 ⟨rfl, hw2⟩
        subst hw2
        go_wp2_with fail
        replace q4 := cell_gn q4
        replace q5 := cell_gn q5
        replace c5 := cell_gn c5
        replace g3 := cell_gn g3
        have HFG := hide (fun n os => HFC.out _ (up HB1.out (below_gn w2 n os)))
        refine wp_region_quiet_gn (by kernel_rfl) (by kernel_rfl) ?_
        repeat (quiet_step ((exact Calls.gn_of (HFG.out _ _))))
        refine wpQuiet_nil ?_
        intro _ hw'
        obtain ⟨⟨nq, osq⟩, hw''⟩ := hw'
        subst hw''
        have HB6 := hide (up HB1.out (below_gn w2 nq osq))
        go_wp2_with fail
        go_ret3
        exact ret_t3' (by rw [HT.out, HR.out, Nm.ptgt_fn HD.out (by rw [← HPR.out]; exact HXX.out) HM.out HY.out, HNY.out, HSU.out]) HB6.out

end Go.Proofs.YtbncnkfogkhoeaaGreatDoor

/- Walks over package names: callCode, Target. -/
namespace Go.Proofs.YtbncnkfogkhoeaaGreatDoor
open Go.RowKit

namespace Nm
theorem fnAt_lt {l : List Fu} {s : ByteArray} {n i : Nat} (h : fnAt l s n = some i) : i < n ∧ ∃ f, l[i]? = some f := by
  unfold fnAt at h
  have h1 := List.find?_some h
  refine ⟨List.mem_range.1 (List.mem_of_find?_eq_some h), ?_⟩
  cases hy : l[i]? with
  | none => rw [hy] at h1; simp at h1
  | some y => exact ⟨y, rfl⟩
/-- The function that is meant. -/
def pfun (x : Mo) (known : List Mo) (t : Int × Int × Bool) : Option Fu :=
  if t.1 = -1 then x.funs[t.2.1.toNat]? else known[t.1.toNat]?.bind fun y => y.funs[t.2.1.toNat]?
/-- What callCode answers. -/
def code (x : Mo) (known : List Mo) (k : Nat) (name : ByteArray) (nargs : Nat) : Int :=
  if (ptgt x k name known).2.2 = false then 4 else match pfun x known (ptgt x k name known) with
    | some f => if f.params.length = nargs then 0 else 5
    | none => 0
theorem ptgt_true {x : Mo} {k : Nat} {call : ByteArray} {known : List Mo} (h : (ptgt x k call known).2.2 = true) :
    (∃ (i : Nat) (f : Fu), ptgt x k call known = (-1, (i : Int), true) ∧ x.funs[i]? = some f) ∨ (∃ (a : Nat) (y : Mo) (j : Nat) (f : Fu), ptgt x k call known = ((a : Int), (j : Int), true) ∧ known[a]? = some y ∧ y.funs[j]? = some f) := by
  cases hd : Lat.dotAt call with
  | none =>
    have e : ptgt x k call known = fnd (-1) x.funs call k := by simp [ptgt, hd]
    rw [e] at h ⊢
    unfold fnd at h ⊢
    cases hf : fnAt x.funs call k with
    | none => rw [hf] at h; simp at h
    | some i =>
      obtain ⟨_, f, hf'⟩ := fnAt_lt hf
      exact Or.inl ⟨i, f, rfl, hf'⟩
  | some d =>
    rcases idx_cases x.imports (Lat.preS call) with hi | ⟨i, hi, _⟩
    · have e : ptgt x k call known = (0, 0, false) := by simp [ptgt, hd, hi]
      rw [e] at h; simp at h
    · cases hm : moAt known (x.imports.getD i ByteArray.empty) with
      | none => rw [ptgt_noM hd hi hm] at h; simp at h
      | some a =>
        obtain ⟨y, hy, _⟩ := moAt_lt hm
        rw [ptgt_fn hd hi hm hy] at h ⊢
        unfold fnd at h ⊢
        cases hf : fnAt y.funs (Lat.sufS call) y.funs.length with
        | none => rw [hf] at h; simp at h
        | some j =>
          obtain ⟨_, f, hf'⟩ := fnAt_lt hf
          exact Or.inr ⟨a, y, j, f, rfl, hy, hf'⟩
end Nm

set_option maxHeartbeats 1000000 in
theorem sfuns_own (w : World) (c0 c1 c2 vf c4 c5 : Value) :
    Calls Tryz.prog 148 #[.agg #[c0, c1, c2, vf, c4, c5], .int .i64 (-1)] w fun e w' => e = .returned vf ∧ Below w.heap.size w w' := by
  have q3 := box6 w c0 c1 c2 vf c4 c5 103 3 _ rfl
  have HB0 := hide (boxBelow w (.cells #[c0, c1, c2, vf, c4, c5] 103))
  go_enter Tryz.func148, Tryz.ntmps148
  go_wp2
  go_ret
  exact ⟨rfl, HB0.out⟩
set_option maxHeartbeats 1000000 in
theorem sfuns_known (w : World) (c0 c1 c2 vf c5 vy : Value) (bk ok nk ck a : Nat) (ha : a < nk) (hc : w.cell? ⟨bk, ok + a * 4 + 3, none⟩ = some vy) :
    Calls Tryz.prog 148 #[.agg #[c0, c1, c2, vf, .slice (some ⟨bk, ok, none⟩) nk ck, c5], .int .i64 a] w fun e w' => e = .returned vy ∧ Below w.heap.size w w' := by
  have q4 := box6 w c0 c1 c2 vf (.slice (some ⟨bk, ok, none⟩) nk ck) c5 103 4 _ rfl
  have HB0 := hide (boxBelow w (.cells #[c0, c1, c2, vf, .slice (some ⟨bk, ok, none⟩) nk ck, c5] 103))
  replace hc := cellUp hc HB0.out
  have h1 : ((a : Int) == -1) = false := by simp
  go_enter Tryz.func148, Tryz.ntmps148
  go_wp2
  go_ret
  exact ⟨rfl, HB0.out⟩

set_option maxHeartbeats 2000000 in
set_option maxRecDepth 100000 in
theorem callCode_any (m m' : Nat) (w : World) (x : Mo) (known : List Mo) (vi vv vf vk va : Value) (k : Nat) (c0 c1 c2 c3 : Value) (y : Ex) (h : ScV w m x known vi vv vf vk va) (hk : k ≤ x.funs.length) (hE : ExAt w m' c0 c1 c2 c3 y) :
    Calls Tryz.prog 105 #[.agg #[.string x.name, vi, vv, vf, vk, va], .int .i64 k, .agg #[c0, c1, c2, c3]] w fun e w' => e = .returned (.int .i64 (Nm.code x known k y.name y.args.length)) ∧ Below w.heap.size w w' := by
  obtain ⟨mm, rfl⟩ : ∃ mm, m' = mm + 1 := by cases m' with
    | zero => exact False.elim hE
    | succ n => exact ⟨n, rfl⟩
  obtain ⟨rfl, rfl, rfl, hsz, -, -, ea, eb, eo, ec, rfl, -, hel, -⟩ := hE
  have HS := hide h
  obtain ⟨R, hR⟩ : ∃ R, R = Nm.code x known k y.name y.args.length := ⟨_, rfl⟩
  have HR := hide hR
  rw [← hR]
  have q5 := box6 w (.string x.name) vi vv vf vk va 103
  have HB0 := hide (boxBelow w (.cells #[.string x.name, vi, vv, vf, vk, va] 103))
  have u0 := cellUp (q5 0 _ rfl) (boxBelow _ (.cells #[.int .i64 y.kind, .int .i64 y.n, .string y.name, .slice ea y.args.length ec] 84))
  have u1 := cellUp (q5 1 _ rfl) (boxBelow _ (.cells #[.int .i64 y.kind, .int .i64 y.n, .string y.name, .slice ea y.args.length ec] 84))
  have u2 := cellUp (q5 2 _ rfl) (boxBelow _ (.cells #[.int .i64 y.kind, .int .i64 y.n, .string y.name, .slice ea y.args.length ec] 84))
  have u3' := cellUp (q5 3 _ rfl) (boxBelow _ (.cells #[.int .i64 y.kind, .int .i64 y.n, .string y.name, .slice ea y.args.length ec] 84))
  have u4' := cellUp (q5 4 _ rfl) (boxBelow _ (.cells #[.int .i64 y.kind, .int .i64 y.n, .string y.name, .slice ea y.args.length ec] 84))
  have u5 := cellUp (q5 5 _ rfl) (boxBelow _ (.cells #[.int .i64 y.kind, .int .i64 y.n, .string y.name, .slice ea y.args.length ec] 84))
  have z2 := boxD2 (w.alloc (.cells #[.string x.name, vi, vv, vf, vk, va] 103)) (.int .i64 y.kind) (.int .i64 y.n) (.string y.name) (.slice ea y.args.length ec) 84
  have z3 := boxN3 (w.alloc (.cells #[.string x.name, vi, vv, vf, vk, va] 103)) (.int .i64 y.kind) (.int .i64 y.n) (.string y.name) (.slice ea y.args.length ec) 84
  rw [World.size_alloc] at z2 z3
  have HB1 := hide (up HB0.out (boxBelow _ (.cells #[.int .i64 y.kind, .int .i64 y.n, .string y.name, .slice ea y.args.length ec] 84)))
  have HT := hide (fun wx (hb : Below w.heap.size w wx) => starget_any m wx x known vi vv vf vk va k y.name (HS.out.below hb) hk hsz)
  generalize y.args.length = na at *
  obtain ⟨hI, hV, hF⟩ := h.mo.split
  have hK := h.kn
  have hA := h.ats
  obtain ⟨ai, bi, oi, ci, rfl, -⟩ := hI
  obtain ⟨av, bv, ov, cv, rfl, -⟩ := hV
  obtain ⟨af, bf, of, cf, rfl, haf, hlf, hcf⟩ := hF
  obtain ⟨ak, bk, ok, ck, rfl, hak, hlk, hck⟩ := hK
  obtain ⟨aa, ba, oa, ca, rfl, -⟩ := hA
  generalize (x.imports.map fun s => Nm.oI (Nm.moAt known s)).length = nat at *
  generalize x.imports.length = ni at *
  generalize x.vars.length = nv at *
  have HCK := hide hck
  have HCF := hide hcf
  have HAF := hide haf
  have HAK := hide hak
  clear hR h q5 hck hcf haf hak
  cases ht : (Nm.ptgt x k y.name known).2.2
  · have HRE : Hid (R = 4) := hide (by rw [HR.out]; unfold Nm.code; rw [if_pos ht])
    rw [ht] at HT
    generalize (Nm.ptgt x k y.name known).1 = t1 at *
    generalize (Nm.ptgt x k y.name known).2.1 = t2 at *
    clear ht
    go_enter Tryz.func105, Tryz.ntmps105
    go_wp2_with fail
    refine (HT.out _ HB1.out).mono ?_
    rintro e w1 ⟨rfl, hb1⟩
    have HB2 := hide (up HB1.out hb1)
    clear hb1
    go_wp2_with fail
    go_ret
    exact ⟨by rw [HRE.out]; rfl, HB2.out⟩
  · rcases Nm.ptgt_true ht with ⟨i, f, he, hf⟩ | ⟨a, z, j, f, he, hz, hf⟩
    · rw [he] at HT
      have HRE : Hid (R = if f.params.length = na then 0 else 5) := hide (by
        rw [HR.out]; unfold Nm.code; rw [if_neg (by rw [ht]; simp), he]
        simp only [Nm.pfun, if_true, Int.toNat_natCast, hf])
      obtain ⟨-, vp, vb, e0, e1, e2, e3, g0, g1, -, -, -, -, -, hp, -⟩ := HCF.out i f hf
      obtain ⟨ap, bp, op, cp, rfl, -⟩ := hp
      have hil : i < x.funs.length := (List.getElem?_eq_some_iff.1 hf).1
      obtain rfl := HAF.out (by omega)
      generalize x.funs.length = nf at *
      generalize known.length = nk at *
      generalize f.params.length = np at *
      clear ht hf g0 he
      simp only at HT
      go_enter Tryz.func105, Tryz.ntmps105
      go_wp2_with fail
      refine (HT.out _ HB1.out).mono ?_
      rintro e w1 ⟨rfl, hb1⟩
      have HB2 := hide (up HB1.out hb1)
      replace u0 := cell_gn (cellUp u0 hb1)
      replace u1 := cell_gn (cellUp u1 hb1)
      replace u2 := cell_gn (cellUp u2 hb1)
      replace u3' := cell_gn (cellUp u3' hb1)
      replace u4' := cell_gn (cellUp u4' hb1)
      replace u5 := cell_gn (cellUp u5 hb1)
      replace z3 := cell_gn (cellUp z3 hb1)
      replace g1 := cell_gn (cellUp g1 HB2.out)
      clear hb1 z2
      have HFG := hide (fun n os => sfuns_own (gn w1 n os) (.string x.name) (.slice ai ni ci) (.slice av nv cv) (.slice (some ⟨bf, of, none⟩) nf cf) (.slice ak nk ck) (.slice aa nat ca))
      go_wp2_with fail
      refine wp_region_quiet_gn (by kernel_rfl) (by kernel_rfl) ?_
      repeat (quiet_step ((exact Calls.gn_of (HFG.out _ _))))
      refine wpQuiet_nil ?_
      intro _ hw'
      obtain ⟨⟨nq, osq⟩, hw''⟩ := hw'
      subst hw''
      have HB6 := hide (up HB2.out (below_gn w1 nq osq))
      by_cases hn : np = na
      · have hn' : ((np : Int) == (na : Int)) = true := by simp [hn]
        rw [if_pos hn] at HRE
        clear hn
        go_wp2_with fail
        go_ret
        exact ⟨by rw [HRE.out]; rfl, HB6.out⟩
      · have hn' : ((np : Int) == (na : Int)) = false := by simp; omega
        rw [if_neg hn] at HRE
        clear hn
        go_wp2_with fail
        go_ret
        exact ⟨by rw [HRE.out]; rfl, HB6.out⟩
    · rw [he] at HT
      have HRE : Hid (R = if f.params.length = na then 0 else 5) := hide (by
        rw [HR.out]; unfold Nm.code; rw [if_neg (by rw [ht]; simp), he]
        simp only [Nm.pfun, Int.toNat_natCast, hz, Option.bind_some, hf]
        rw [if_neg (by omega)])
      have hal : a < known.length := (List.getElem?_eq_some_iff.1 hz).1
      have hjl : j < z.funs.length := (List.getElem?_eq_some_iff.1 hf).1
      obtain rfl := HAK.out (by omega)
      obtain ⟨yi, yv, yf, k0, k1, k2, k3, hmz⟩ := HCK.out a z hz
      obtain ⟨-, -, hzF⟩ := hmz.split
      obtain ⟨az, bz, oz, cz, rfl, haz, hlz, hcz⟩ := hzF
      obtain ⟨-, vp, vb, e0, e1, e2, e3, g0, g1, -, -, -, -, -, hp, -⟩ := hcz j f hf
      obtain ⟨ap, bp, op, cp, rfl, -⟩ := hp
      obtain rfl := haz (by omega)
      generalize z.funs.length = nz at *
      generalize x.funs.length = nf at *
      generalize known.length = nk at *
      generalize f.params.length = np at *
      clear hmz hcz haz hz k0 k1 k2
      clear ht hf g0 he
      simp only at HT
      go_enter Tryz.func105, Tryz.ntmps105
      go_wp2_with fail
      refine (HT.out _ HB1.out).mono ?_
      rintro e w1 ⟨rfl, hb1⟩
      have HB2 := hide (up HB1.out hb1)
      replace u0 := cell_gn (cellUp u0 hb1)
      replace u1 := cell_gn (cellUp u1 hb1)
      replace u2 := cell_gn (cellUp u2 hb1)
      replace u3' := cell_gn (cellUp u3' hb1)
      replace u4' := cell_gn (cellUp u4' hb1)
      replace u5 := cell_gn (cellUp u5 hb1)
      replace z3 := cell_gn (cellUp z3 hb1)
      replace g1 := cell_gn (cellUp g1 HB2.out)
      clear hb1 z2
      have HFG := hide (fun n os => sfuns_known (gn w1 n os) (.string x.name) (.slice ai ni ci) (.slice av nv cv) (.slice af nf cf) (.slice aa nat ca) (.slice (some ⟨bz, oz, none⟩) nz cz) bk ok nk ck a hal (cell_gn (cellUp k3 HB2.out) n os))
      go_wp2_with fail
      refine wp_region_quiet_gn (by kernel_rfl) (by kernel_rfl) ?_
      repeat (quiet_step ((exact Calls.gn_of (HFG.out _ _))))
      refine wpQuiet_nil ?_
      intro _ hw'
      obtain ⟨⟨nq, osq⟩, hw''⟩ := hw'
      subst hw''
      have HB6 := hide (up HB2.out (below_gn w1 nq osq))
      by_cases hn : np = na
      · have hn' : ((np : Int) == (na : Int)) = true := by simp [hn]
        rw [if_pos hn] at HRE
        clear hn
        go_wp2_with fail
        go_ret
        exact ⟨by rw [HRE.out]; rfl, HB6.out⟩
      · have hn' : ((np : Int) == (na : Int)) = false := by simp; omega
        rw [if_neg hn] at HRE
        clear hn
        go_wp2_with fail
        go_ret
        exact ⟨by rw [HRE.out]; rfl, HB6.out⟩

end Go.Proofs.YtbncnkfogkhoeaaGreatDoor

/- Walks over package names: callsIn, eachCommand, eachCall, whatever is done at each. -/
namespace Go.Proofs.YtbncnkfogkhoeaaGreatDoor
open Go.RowKit

namespace Nm
/-- The calls of an expression, itself first; m bounds how deep it is looked into. -/
def pcalls : Nat → Ex → List Ex
  | 0, _ => []
  | m + 1, x => (if x.kind = 4 then [x] else []) ++ x.args.flatMap (pcalls m)
end Nm
/-- What a function value does with an expression: it tells D of it. -/
def VisE (W0 W : World) (M p g : Nat) (cb : Array Value) (D : Ex → List Dg) : Prop :=
  ∀ (w : World) (c0 c1 c2 c3 : Value) (y : Ex) (l : List Dg), Below W0.heap.size W0 w → Tells p W w → Told w W0.heap.size p l → ExAt W0 M c0 c1 c2 c3 y → l.length + (D y).length ≤ 16777216 →
    Calls Tryz.prog g (#[.agg #[c0, c1, c2, c3]] ++ cb) w fun e w' => e = .returned (.tuple #[]) ∧ Told w' W0.heap.size p (l ++ D y) ∧ Below W0.heap.size w w' ∧ Tells p w w'
theorem Told.lt {w : World} {n p : Nat} {l : List Dg} (h : Told w n p l) : p < w.heap.size := by
  obtain ⟨_, v, h1, _⟩ := h
  exact block_lt h1
/-- What stays where only diagnostics are told. -/
theorem flatMap_le {α β γ : Type} {f : α → List β} {g : β → List γ} {l : List α} (j : Nat) : (((l.take j).flatMap f).flatMap g).length ≤ ((l.flatMap f).flatMap g).length := by
  have h := congrArg (fun t => ((t.flatMap f).flatMap g).length) (List.take_append_drop j l)
  simp only [List.flatMap_append, List.length_append] at h
  omega

set_option maxHeartbeats 2000000 in
set_option maxRecDepth 100000 in
theorem callsIn_any (W0 W : World) (M p g : Nat) (cb : Array Value) (D : Ex → List Dg) (eg : ∀ args w, (callFunc g args).run Tryz.prog w = .ok (.enter g args) w) (hv : VisE W0 W M p g cb D) (m : Nat) : ∀ (w : World) (c0 c1 c2 c3 : Value) (x : Ex) (l : List Dg), m ≤ M → Below W0.heap.size W0 w → Tells p W w → Told w W0.heap.size p l → ExAt W0 m c0 c1 c2 c3 x →
    l.length + ((Nm.pcalls m x).flatMap D).length ≤ 16777216 →
    Calls Tryz.prog 147 #[.agg #[c0, c1, c2, c3], .func (.func g) #[] cb] w fun e w' => e = .returned (.tuple #[]) ∧ Told w' W0.heap.size p (l ++ (Nm.pcalls m x).flatMap D) ∧ Below W0.heap.size w w' ∧ Tells p w w' := by
  induction m with
  | zero => intro w c0 c1 c2 c3 x l _ _ _ _ h; exact False.elim h
  | succ m ih =>
    intro w c0 c1 c2 c3 x l hM hW hT hl h hlen
    have HI := hide ih
    have HX := hide (h.mono M hM)
    have HV := hide hv
    have HW := hide hW
    have HT := hide hT
    have HTO := hide hl
    clear ih hW hv hT
    obtain ⟨rfl, rfl, rfl, hsz, hk1, hk2, a, b, off, cap, rfl, ha, hbig, hel⟩ := h
    obtain ⟨k, n, s, args⟩ := x
    simp only at hsz hk1 hk2 ha hbig hel HX ⊢
    have HEL := hide hel
    have HA := hide ha
    have HLEN := hide hlen
    have HPC : Hid (Nm.pcalls (m + 1) ⟨k, n, s, args⟩ = (if k = 4 then [⟨k, n, s, args⟩] else []) ++ args.flatMap (Nm.pcalls m)) := rfl
    obtain ⟨len, hlen'⟩ : ∃ len, len = args.length := ⟨_, rfl⟩
    have HL := hide hlen'
    rw [← hlen'] at hbig HA HX ⊢
    obtain ⟨R, hR⟩ : ∃ R, R = Nm.pcalls (m + 1) ⟨k, n, s, args⟩ := ⟨_, rfl⟩
    rw [← hR] at HPC HLEN ⊢
    have HP := hide hl.lt
    have HBX := hide (block_new w (.cells #[.int .i64 k, .int .i64 n, .string s, .slice a len cap] 84))
    have HB0 := hide (boxBelow w (.cells #[.int .i64 k, .int .i64 n, .string s, .slice a len cap] 84))
    have q0 := boxD0 w (.int .i64 k) (.int .i64 n) (.string s) (.slice a len cap) 84
    have q1 := boxD1 w (.int .i64 k) (.int .i64 n) (.string s) (.slice a len cap) 84
    have q2 := boxD2 w (.int .i64 k) (.int .i64 n) (.string s) (.slice a len cap) 84
    have q3 := boxN3 w (.int .i64 k) (.int .i64 n) (.string s) (.slice a len cap) 84
    clear hel ha hlen hlen' hR hl
    by_cases h4 : k = 4
    · have h4' : (k == 4) = true := by simp [h4]
      rw [if_pos h4] at HPC
      clear h4
      go_enter Tryz.func147, Tryz.ntmps147
      go_wp2_with fail
      refine (HV.out _ _ _ _ _ ⟨k, n, s, args⟩ l (HW.out.trans (HB0.out.mono HW.out.size)) (HT.out.trans (Tells.of_below HB0.out)) (HTO.out.below HB0.out) HX.out (by
        have h1 := HLEN.out
        rw [HPC.out] at h1
        simp only [List.flatMap_append, List.length_append, List.flatMap_cons, List.flatMap_nil, List.append_nil] at h1
        omega)).mono ?_
      rintro e w1 ⟨rfl, hto1, hb1, ht1⟩
      have HT1 := hide hto1
      have HB1 := hide ((HB0.out.mono HW.out.size).trans hb1)
      have HS1 := hide ((Tells.of_below HB0.out).trans ht1)
      replace q3 := (block_at (ht1.at (by have := HP.out; omega) HBX.out (by decide)) 3).trans (rfl : _ = some (Value.slice a len cap))
      clear hto1 hb1 ht1 q0 q1 q2
      go_wp2_with fail
      go_loopw [15] (fun i wr => ∃ j : Nat, j ≤ len ∧ i = .int .i64 j ∧ Told wr W0.heap.size p ((l ++ D ⟨k, n, s, args⟩) ++ ((args.take j).flatMap (Nm.pcalls m)).flatMap D) ∧ Below W0.heap.size w wr ∧ Tells p w wr) (fun i _ => len - (intOf i).toNat)
      case atStart => exact ⟨0, Nat.zero_le _, rfl, by simpa using HT1.out, HB1.out, HS1.out⟩
      case round =>
        obtain ⟨j, hj, rfl, hto, hnx, htl⟩ := hrel
        have HTO2 := hide hto
        have HNX := hide hnx
        have HTL := hide htl
        clear hto htl
        by_cases hjl : j < len
        · obtain ⟨y, hy⟩ : ∃ y, args[j]? = some y := ⟨_, List.getElem?_eq_getElem (by rw [← HL.out]; exact hjl)⟩
          obtain ⟨e0, e1, e2, e3, g0, g1, g2, g3, hye⟩ := HEL.out j y hy
          have HY := hide hy
          obtain rfl := HA.out (by omega)
          have hbb := HW.out.trans hnx
          have HBB := hide hbb
          replace g0 := cellUp g0 hbb
          replace g1 := cellUp g1 hbb
          replace g2 := cellUp g2 hbb
          replace g3 := cellUp g3 hbb
          have HYE := hide hye
          obtain ⟨xa, xc, rfl, rfl, rfl, rfl⟩ := hye.shape
          have HLS : Hid (((l ++ D ⟨k, n, s, args⟩) ++ ((args.take j).flatMap (Nm.pcalls m)).flatMap D).length + ((Nm.pcalls m y).flatMap D).length ≤ 16777216) := hide (by
            have h1 := HLEN.out
            rw [HPC.out] at h1
            have h2 := flatMap_le (f := Nm.pcalls m) (g := D) (l := args) (j + 1)
            rw [flat_succ hy, List.flatMap_append, List.length_append] at h2
            simp only [List.flatMap_append, List.length_append, List.flatMap_cons, List.flatMap_nil, List.append_nil] at h1 h2 ⊢
            omega)
          have HB3 := hide (boxBelow wr (.cells #[.int .i64 y.kind, .int .i64 y.n, .string y.name, .slice xa y.args.length xc] 84))
          have z0 := boxD0 wr (.int .i64 y.kind) (.int .i64 y.n) (.string y.name) (.slice xa y.args.length xc) 84
          have z1 := boxD1 wr (.int .i64 y.kind) (.int .i64 y.n) (.string y.name) (.slice xa y.args.length xc) 84
          have z2 := boxD2 wr (.int .i64 y.kind) (.int .i64 y.n) (.string y.name) (.slice xa y.args.length xc) 84
          have z3 := boxN3 wr (.int .i64 y.kind) (.int .i64 y.n) (.string y.name) (.slice xa y.args.length xc) 84
          clear hye hy hbb hnx
          generalize y.args.length = ny at *
          go_wp2_with fail
          refine (HI.out _ _ _ _ _ y _ (by omega) (HBB.out.trans (HB3.out.mono HBB.out.size)) ((HT.out.trans HTL.out).trans (Tells.of_below HB3.out)) (HTO2.out.below HB3.out) HYE.out HLS.out).mono ?_
          rintro e w5 ⟨rfl, hto5, hb5, ht5⟩
          have HTO5 := hide hto5
          have HB5 := hide ((HNX.out.trans (HB3.out.mono HBB.out.size)).trans hb5)
          have HT5 := hide ((HTL.out.trans (Tells.of_below HB3.out)).trans ht5)
          clear hto5 hb5 ht5 z0 z1 z2 z3 g0 g1 g2 g3
          go_wp2_with fail
          go_roundw
          case rel => exact ⟨j + 1, by omega, by go_num, by rw [flat_succ HY.out, List.flatMap_append, ← List.append_assoc]; exact HTO5.out, HB5.out, HT5.out⟩
          case measure => simp [intOf]; omega
        · have hje : (args.take j) = args := List.take_of_length_le (by have := HL.out; omega)
          rw [hje] at HTO2
          clear hje hnx
          go_wp2_with fail
          go_end0
          exact ⟨rfl, by rw [HPC.out, List.flatMap_append, ← List.append_assoc]; simpa using HTO2.out, HNX.out, HTL.out⟩
    · have h4' : (k == 4) = false := by simp [h4]
      rw [if_neg h4, List.nil_append] at HPC
      clear h4
      have HT1 := hide (HTO.out.below HB0.out)
      have HB1 := hide (HB0.out.mono HW.out.size)
      have HS1 : Hid (Tells p w _) := hide (Tells.of_below HB0.out)
      go_enter Tryz.func147, Tryz.ntmps147
      go_wp2_with fail
      go_loopw [15] (fun i wr => ∃ j : Nat, j ≤ len ∧ i = .int .i64 j ∧ Told wr W0.heap.size p (l ++ ((args.take j).flatMap (Nm.pcalls m)).flatMap D) ∧ Below W0.heap.size w wr ∧ Tells p w wr) (fun i _ => len - (intOf i).toNat)
      case atStart => exact ⟨0, Nat.zero_le _, rfl, by simpa using HT1.out, HB1.out, HS1.out⟩
      case round =>
        obtain ⟨j, hj, rfl, hto, hnx, htl⟩ := hrel
        have HTO2 := hide hto
        have HNX := hide hnx
        have HTL := hide htl
        clear hto htl
        by_cases hjl : j < len
        · obtain ⟨y, hy⟩ : ∃ y, args[j]? = some y := ⟨_, List.getElem?_eq_getElem (by rw [← HL.out]; exact hjl)⟩
          obtain ⟨e0, e1, e2, e3, g0, g1, g2, g3, hye⟩ := HEL.out j y hy
          have HY := hide hy
          obtain rfl := HA.out (by omega)
          have hbb := HW.out.trans hnx
          have HBB := hide hbb
          replace g0 := cellUp g0 hbb
          replace g1 := cellUp g1 hbb
          replace g2 := cellUp g2 hbb
          replace g3 := cellUp g3 hbb
          have HYE := hide hye
          obtain ⟨xa, xc, rfl, rfl, rfl, rfl⟩ := hye.shape
          have HLS : Hid ((l ++ ((args.take j).flatMap (Nm.pcalls m)).flatMap D).length + ((Nm.pcalls m y).flatMap D).length ≤ 16777216) := hide (by
            have h1 := HLEN.out
            rw [HPC.out] at h1
            have h2 := flatMap_le (f := Nm.pcalls m) (g := D) (l := args) (j + 1)
            rw [flat_succ hy, List.flatMap_append, List.length_append] at h2
            rw [List.length_append]
            omega)
          have HB3 := hide (boxBelow wr (.cells #[.int .i64 y.kind, .int .i64 y.n, .string y.name, .slice xa y.args.length xc] 84))
          have z0 := boxD0 wr (.int .i64 y.kind) (.int .i64 y.n) (.string y.name) (.slice xa y.args.length xc) 84
          have z1 := boxD1 wr (.int .i64 y.kind) (.int .i64 y.n) (.string y.name) (.slice xa y.args.length xc) 84
          have z2 := boxD2 wr (.int .i64 y.kind) (.int .i64 y.n) (.string y.name) (.slice xa y.args.length xc) 84
          have z3 := boxN3 wr (.int .i64 y.kind) (.int .i64 y.n) (.string y.name) (.slice xa y.args.length xc) 84
          clear hye hy hbb hnx
          generalize y.args.length = ny at *
          go_wp2_with fail
          refine (HI.out _ _ _ _ _ y _ (by omega) (HBB.out.trans (HB3.out.mono HBB.out.size)) ((HT.out.trans HTL.out).trans (Tells.of_below HB3.out)) (HTO2.out.below HB3.out) HYE.out HLS.out).mono ?_
          rintro e w5 ⟨rfl, hto5, hb5, ht5⟩
          have HTO5 := hide hto5
          have HB5 := hide ((HNX.out.trans (HB3.out.mono HBB.out.size)).trans hb5)
          have HT5 := hide ((HTL.out.trans (Tells.of_below HB3.out)).trans ht5)
          clear hto5 hb5 ht5 z0 z1 z2 z3 g0 g1 g2 g3
          go_wp2_with fail
          go_roundw
          case rel => exact ⟨j + 1, by omega, by go_num, by rw [flat_succ HY.out, List.flatMap_append, ← List.append_assoc]; exact HTO5.out, HB5.out, HT5.out⟩
          case measure => simp [intOf]; omega
        · have hje : (args.take j) = args := List.take_of_length_le (by have := HL.out; omega)
          rw [hje] at HTO2
          clear hje hnx
          go_wp2_with fail
          go_end0
          exact ⟨rfl, by rw [HPC.out]; exact HTO2.out, HNX.out, HTL.out⟩

/-- What a function value does with a command: it tells D of it. -/
def VisS (W0 W : World) (M p g : Nat) (cb : Array Value) (D : St → List Dg) : Prop :=
  ∀ (w : World) (e0 e1 e2 e3 va vb : Value) (s : St) (l : List Dg), Below W0.heap.size W0 w → Tells p W w → Told w W0.heap.size p l → StC W0 M [.int .i64 s.kind, .string s.name, e0, e1, e2, e3, va, vb] s → l.length + (D s).length ≤ 16777216 →
    Calls Tryz.prog g (#[.agg #[.int .i64 s.kind, .string s.name, e0, e1, e2, e3, va, vb]] ++ cb) w fun e w' => e = .returned (.tuple #[]) ∧ Told w' W0.heap.size p (l ++ D s) ∧ Below W0.heap.size w w' ∧ Tells p w w'
theorem box8 (w : World) (c0 c1 c2 c3 c4 c5 c6 c7 : Value) (t : TypeId) (i : Nat) (v : Value) (h : (#[c0, c1, c2, c3, c4, c5, c6, c7] : Array Value)[i]? = some v) : (w.alloc (.cells #[c0, c1, c2, c3, c4, c5, c6, c7] t)).cell? ⟨w.heap.size, i, none⟩ = some v :=
  (block_at (block_new w (.cells #[c0, c1, c2, c3, c4, c5, c6, c7] t)) i).trans h

set_option maxHeartbeats 2000000 in
set_option maxRecDepth 100000 in
theorem eachCommand_any (W0 W : World) (M p g : Nat) (cb : Array Value) (D : St → List Dg) (eg : ∀ args w, (callFunc g args).run Tryz.prog w = .ok (.enter g args) w) (hv : VisS W0 W M p g cb D) (m : Nat) : ∀ (w : World) (v : Value) (b : List St) (l : List Dg), m ≤ M → Below W0.heap.size W0 w → Tells p W w → Told w W0.heap.size p l → StsAt W0 m v b →
    l.length + ((Nm.all m b).flatMap D).length ≤ 16777216 →
    Calls Tryz.prog 101 #[v, .func (.func g) #[] cb] w fun e w' => e = .returned (.tuple #[]) ∧ Told w' W0.heap.size p (l ++ (Nm.all m b).flatMap D) ∧ Below W0.heap.size w w' ∧ Tells p w w' := by
  induction m with
  | zero => intro w v b l _ _ _ _ h; exact False.elim h
  | succ m ih =>
    intro w v body l hM hW hT hl h hlen
    have HI := hide ih
    have HV := hide hv
    have HW := hide hW
    have HT := hide hT
    have HTO := hide hl
    have HLEN := hide hlen
    clear ih hW hv hT
    obtain ⟨a, b, off, cap, rfl, ha, hbig, hel⟩ := h
    have HEL := hide hel
    have HA := hide ha
    obtain ⟨len, hlen'⟩ : ∃ len, len = body.length := ⟨_, rfl⟩
    have HL := hide hlen'
    rw [← hlen'] at hbig HA ⊢
    have HP := hide hl.lt
    have HPC : Hid (Nm.all (m + 1) body = body.flatMap (Nm.within (Nm.all m))) := rfl
    obtain ⟨R, hR⟩ : ∃ R, R = Nm.all (m + 1) body := ⟨_, rfl⟩
    rw [← hR] at HPC HLEN ⊢
    clear hel ha hlen hlen' hR hl
    go_enter Tryz.func101, Tryz.ntmps101
    go_wp2_with fail
    go_loopw [8] (fun i wr => ∃ j : Nat, j ≤ len ∧ i = .int .i64 j ∧ Told wr W0.heap.size p (l ++ ((body.take j).flatMap (Nm.within (Nm.all m))).flatMap D) ∧ Below W0.heap.size w wr ∧ Tells p w wr) (fun i _ => len - (intOf i).toNat)
    case atStart => exact ⟨0, Nat.zero_le _, rfl, by simpa using HTO.out, Below.refl _ _, Tells.refl _ _⟩
    case round =>
      obtain ⟨j, hj, rfl, hto, hnx, htl⟩ := hrel
      have HTO2 := hide hto
      have HNX := hide hnx
      have HTL := hide htl
      have HP2 := hide hto.lt
      clear hto htl
      by_cases hjl : j < len
      · obtain ⟨y, hy⟩ : ∃ y, body[j]? = some y := ⟨_, List.getElem?_eq_getElem (by rw [← HL.out]; exact hjl)⟩
        obtain ⟨k1, k2, e0, e1, e2, e3, va, vb, g0, g1, g2, g3, g4, g5, g6, g7, hx, hva, hvb⟩ := HEL.out j y hy
        have HY := hide hy
        obtain rfl := HA.out (by omega)
        have hbb := HW.out.trans hnx
        have HBB := hide hbb
        replace g0 := cellUp g0 hbb
        replace g1 := cellUp g1 hbb
        replace g2 := cellUp g2 hbb
        replace g3 := cellUp g3 hbb
        replace g4 := cellUp g4 hbb
        replace g5 := cellUp g5 hbb
        replace g6 := cellUp g6 hbb
        replace g7 := cellUp g7 hbb
        have HST : Hid (StC W0 M [.int .i64 y.kind, .string y.name, e0, e1, e2, e3, va, vb] y) := hide ⟨e0, e1, e2, e3, va, vb, rfl, k1, k2, hx.mono M (by omega), hva.mono M (by omega), hvb.mono M (by omega)⟩
        have HVA := hide hva
        have HVB := hide hvb
        have HLS : Hid ((l ++ ((body.take j).flatMap (Nm.within (Nm.all m))).flatMap D).length + ((D y).length + ((Nm.all m y.a).flatMap D).length + ((Nm.all m y.b).flatMap D).length) ≤ 16777216) := hide (by
          have h1 := HLEN.out
          rw [HPC.out] at h1
          have h2 := flatMap_le (f := Nm.within (Nm.all m)) (g := D) (l := body) (j + 1)
          rw [flat_succ hy, List.flatMap_append, List.length_append] at h2
          simp only [Nm.within, List.flatMap_append, List.length_append, List.flatMap_cons, List.flatMap_nil, List.append_nil] at h2
          rw [List.length_append]
          omega)
        obtain ⟨sa, ca, rfl⟩ := hva.shapeN
        obtain ⟨sb, cb', rfl⟩ := hvb.shapeN
        obtain ⟨xa, xc, rfl, rfl, rfl, rfl⟩ := hx.shape
        generalize y.a.length = na at *
        generalize y.b.length = nb at *
        generalize y.e.args.length = ne at *
        have HBX := hide (block_new wr (.cells #[.int .i64 y.kind, .string y.name, .int .i64 y.e.kind, .int .i64 y.e.n, .string y.e.name, .slice xa ne xc, .slice sa na ca, .slice sb nb cb'] 100))
        have HB3 := hide (boxBelow wr (.cells #[.int .i64 y.kind, .string y.name, .int .i64 y.e.kind, .int .i64 y.e.n, .string y.e.name, .slice xa ne xc, .slice sa na ca, .slice sb nb cb'] 100))
        have hz := box8 wr (.int .i64 y.kind) (.string y.name) (.int .i64 y.e.kind) (.int .i64 y.e.n) (.string y.e.name) (.slice xa ne xc) (.slice sa na ca) (.slice sb nb cb') 100
        have z0 := hz 0 _ rfl
        have z1 := hz 1 _ rfl
        have z2 := hz 2 _ rfl
        have z3 := hz 3 _ rfl
        have z4 := hz 4 _ rfl
        have z5 := hz 5 _ rfl
        have z6 := hz 6 _ rfl
        have z7 := hz 7 _ rfl
        clear hx hva hvb hy hbb hnx hz
        go_wp2_with fail
        refine (HV.out _ _ _ _ _ _ _ y _ (HBB.out.trans (HB3.out.mono HBB.out.size)) ((HT.out.trans HTL.out).trans (Tells.of_below HB3.out)) (HTO2.out.below HB3.out) HST.out (by have := HLS.out; omega)).mono ?_
        rintro e w5 ⟨rfl, hto5, hb5, ht5⟩
        have HTO5 := hide hto5
        have HB5 := hide ((HNX.out.trans (HB3.out.mono HBB.out.size)).trans hb5)
        have HT5 := hide ((HTL.out.trans (Tells.of_below HB3.out)).trans ht5)
        have hbx5 := ht5.at (by have := HP2.out; omega) HBX.out (by decide)
        have HBX5 := hide hbx5
        have y6 := (block_at hbx5 6).trans (rfl : _ = some (Value.slice sa na ca))
        clear hto5 hb5 ht5 hbx5 z0 z1 z2 z3 z4 z5 z6 z7 g0 g1 g2 g3 g4 g5 g6 g7
        go_wp2_with fail
        refine (HI.out _ _ y.a _ (by omega) (HW.out.trans HB5.out) (HT.out.trans HT5.out) HTO5.out HVA.out (by have := HLS.out; rw [List.length_append]; omega)).mono ?_
        rintro e w6 ⟨rfl, hto6, hb6, ht6⟩
        have HTO6 := hide hto6
        have HB6 := hide (HB5.out.trans hb6)
        have HT6 := hide (HT5.out.trans ht6)
        have hbx6 := ht6.at (by have := HP2.out; omega) HBX5.out (by decide)
        have y7 := (block_at hbx6 7).trans (rfl : _ = some (Value.slice sb nb cb'))
        clear hto6 hb6 ht6 hbx6 y6
        go_wp2_with fail
        refine (HI.out _ _ y.b _ (by omega) (HW.out.trans HB6.out) (HT.out.trans HT6.out) HTO6.out HVB.out (by have := HLS.out; rw [List.length_append, List.length_append]; omega)).mono ?_
        rintro e w7 ⟨rfl, hto7, hb7, ht7⟩
        have HTO7 := hide hto7
        have HB7 := hide (HB6.out.trans hb7)
        have HT7 := hide (HT6.out.trans ht7)
        clear hto7 hb7 ht7 y7
        go_wp2_with fail
        go_roundw
        case rel => exact ⟨j + 1, by omega, by go_num, by
          rw [flat_succ HY.out, Nm.within, List.flatMap_append, List.flatMap_append, List.flatMap_append, ← List.append_assoc, ← List.append_assoc, ← List.append_assoc, List.flatMap_cons, List.flatMap_nil, List.append_nil]
          exact HTO7.out, HB7.out, HT7.out⟩
        case measure => simp [intOf]; omega
      · have hje : (body.take j) = body := List.take_of_length_le (by have := HL.out; omega)
        rw [hje] at HTO2
        clear hje hnx
        go_wp2_with fail
        go_end0
        exact ⟨rfl, by rw [HPC.out]; exact HTO2.out, HNX.out, HTL.out⟩

end Go.Proofs.YtbncnkfogkhoeaaGreatDoor

/- Walks over package names: levelDiags. -/
namespace Go.Proofs.YtbncnkfogkhoeaaGreatDoor
open Go.RowKit

set_option maxHeartbeats 2000000 in
set_option maxRecDepth 100000 in
theorem ask_any (w : World) (n p q : Nat) (l : List Dg) (vn : Value) (names : List ByteArray) (fn name : ByteArray) (h : Told w n p l) (hn : n ≤ w.heap.size) (hl : l.length + (Nm.lev names fn name).length ≤ 16777216) (hq : w.cell? ⟨q, 0, none⟩ = some vn) (hN : Strs w vn names) :
    Calls Tryz.prog 100 #[.string fn, .string name, .pointer (some ⟨q, 0, none⟩), .pointer (some ⟨p, 0, none⟩)] w fun e w' => e = .returned (.tuple #[]) ∧ Told w' n p (l ++ Nm.lev names fn name) ∧ Below n w w' ∧ Tells p w w' := by
  have HN := hide hN
  have HT := hide h
  obtain ⟨a, b, off, cap, rfl, _⟩ := hN
  have HL : Hid (Nm.lev names fn name = if decide (0 ≤ Lat.indexI names name) = true then [] else [⟨3, fn, name⟩]) := rfl
  obtain ⟨h0, v, h1, h2⟩ := h
  have q0 : w.cell? ⟨p, 0, none⟩ = some v := by rw [block_at h1]; rfl
  have H0 := hide h0
  have H1 := hide h1
  have H2 := hide h2
  have HR := hide (containsS_any w _ names name HN.out)
  rw [HL.out] at hl
  generalize decide (0 ≤ Lat.indexI names name) = is at *
  clear h0 h1 h2
  go_enter Tryz.func100, Tryz.ntmps100
  go_wp2_with fail
  refine HR.out.mono ?_
  rintro e w' ⟨rfl, hw'⟩
  subst hw'
  cases is
  · have hl2 : l.length < 16777216 := by simp at hl; omega
    clear hl
    go_wp2_with (first
      | (at_builtin; refine wpList_append_K (At := DgC) rfl _ _ 37 43 3 40 _ rfl Tryz.underlying37 infoDg (by decide) (by decide) (by decide) n _ _ rfl (H2.out.below (boxBelow _ _)) _ _ [⟨3, fn, name⟩] rfl (OwnK.one _ _ rfl (DgC.one (d := ⟨3, fn, name⟩) rfl) rfl) (by simp only [List.length_singleton]; omega) (Nat.le_trans hn (boxBelow _ _).size) ?_; intro v6 w6 hown6 hgrow6; obtain ⟨a6, c6, hv6⟩ := hown6.form; subst hv6; have HP := hide (Told.push H0.out H1.out H2.out hown6 hgrow6); have z0 := (block_at HP.out.1 0).trans (show _ = some v from rfl); have zf := block_free HP.out.1 0; clear hown6 hgrow6)
      | fail)
    go_end0
    have hl1 : (l ++ [(⟨3, fn, name⟩ : Dg)]).length = l.length + 1 := by simp
    rw [hl1] at HP
    exact ⟨rfl, by rw [HL.out]; exact HP.out.2.1, HP.out.2.2⟩
  · go_wp2_with fail
    go_end0
    exact ⟨rfl, by rw [HL.out]; simpa using HT.out, Below.refl _ _, Tells.refl _ _⟩

namespace Nm
/-- What levelDiags tells of a command. -/
def levS (names : List ByteArray) (fn : ByteArray) (s : St) : List Dg := if s.kind = 4 then lev names fn s.name else []
theorem lev_len (names : List ByteArray) (fn name : ByteArray) : (lev names fn name).length ≤ 1 := by unfold lev; split <;> simp
theorem levS_len (names : List ByteArray) (fn : ByteArray) (s : St) : (levS names fn s).length ≤ 1 := by
  unfold levS; split
  · exact lev_len _ _ _
  · simp
end Nm

set_option maxHeartbeats 2000000 in
set_option maxRecDepth 100000 in
theorem askS_any (W0 W : World) (M p q r bf : Nat) (vn : Value) (names : List ByteArray) (fn : ByteArray) (cf lc : Array Value) (hN : Strs W0 vn names) (hq : W.heap[q]? = some (.cells lc 34 (0, 0))) (hqn : lc[0]? = some vn)
    (hr : W.heap[r]? = some (.cells #[.func (.func 100) #[] #[.pointer (some ⟨q, 0, none⟩), .pointer (some ⟨p, 0, none⟩)]] 96 (0, 0))) (hf : W.heap[bf]? = some (.cells cf 87 (0, 0))) (hfn : cf[0]? = some (.string fn))
    (hqp : q ≠ p) (hrp : r ≠ p) (hfp : bf ≠ p) :
    VisS W0 W M p 102 #[.pointer (some ⟨r, 0, none⟩), .pointer (some ⟨bf, 0, none⟩)] (Nm.levS names fn) := by
  intro w e0 e1 e2 e3 va vb s l hW hT hl hst hlen
  have HB0 := hide (boxBelow w (.cells #[.int .i64 s.kind, .string s.name, e0, e1, e2, e3, va, vb] 100))
  have hz := box8 w (.int .i64 s.kind) (.string s.name) e0 e1 e2 e3 va vb 100
  have z0 := hz 0 _ rfl
  have z1 := hz 1 _ rfl
  have hq1 := cellUp ((block_at (hT.at hqp hq (by decide)) 0).trans hqn) HB0.out
  have HQ1 := hide hq1
  have hr1 := cellUp ((block_at (hT.at hrp hr (by decide)) 0).trans rfl) HB0.out
  have hf1 := cellUp ((block_at (hT.at hfp hf (by decide)) 0).trans hfn) HB0.out
  have HN1 := hide ((hN.below hW).below HB0.out)
  have HTO := hide (hl.below HB0.out)
  have HW := hide hW
  have HTO0 := hide hl
  clear hz hq hqn hr hf hfn hN hst hl hT hW
  show Calls Tryz.prog 102 #[.agg #[.int .i64 s.kind, .string s.name, e0, e1, e2, e3, va, vb], .pointer (some ⟨r, 0, none⟩), .pointer (some ⟨bf, 0, none⟩)] w _
  by_cases h4 : s.kind = 4
  · have h4' : (s.kind == 4) = true := by simp [h4]
    have HL : Hid (Nm.levS names fn s = Nm.lev names fn s.name) := hide (by unfold Nm.levS; rw [if_pos h4])
    rw [HL.out] at hlen ⊢
    have HLE := hide hlen
    clear h4 hlen
    go_enter Tryz.func102, Tryz.ntmps102
    go_wp2_with fail
    refine (ask_any _ W0.heap.size p q l vn names fn s.name HTO.out (Nat.le_trans HW.out.size HB0.out.size) HLE.out HQ1.out HN1.out).mono ?_
    rintro e w5 ⟨rfl, hto5, hb5, ht5⟩
    have HTO5 := hide hto5
    have HB5 := hide ((HB0.out.mono HW.out.size).trans hb5)
    have HT5 : Hid (Tells p w w5) := hide ((Tells.of_below HB0.out).trans ht5)
    clear hto5 hb5 ht5
    go_wp2
    go_end0
    exact ⟨rfl, HTO5.out, HB5.out, HT5.out⟩
  · have h4' : (s.kind == 4) = false := by simp [h4]
    have HL : Hid (Nm.levS names fn s = []) := hide (by unfold Nm.levS; rw [if_neg h4])
    clear h4
    go_enter Tryz.func102, Tryz.ntmps102
    go_wp2_with fail
    go_end0
    exact ⟨rfl, by rw [HL.out, List.append_nil]; exact HTO.out, HB0.out.mono HW.out.size, Tells.of_below HB0.out⟩

namespace Nm
/-- What levelDiags answers. -/
def lvD (names : List ByteArray) (x : Mo) (m : Nat) : List Dg := (x.vars.flatMap fun v => lev names ⟨#[]⟩ v.level) ++ x.funs.flatMap fun f => (all m f.body).flatMap (levS names f.name)
end Nm
theorem al4 (w : World) (a b c d : Obj) : ((((w.alloc a).alloc b).alloc c).alloc d).heap[w.heap.size]? = some a ∧ ((((w.alloc a).alloc b).alloc c).alloc d).heap[w.heap.size + 1]? = some b ∧
    ((((w.alloc a).alloc b).alloc c).alloc d).heap[w.heap.size + 1 + 1]? = some c ∧ ((((w.alloc a).alloc b).alloc c).alloc d).heap[w.heap.size + 1 + 1 + 1]? = some d ∧ Below w.heap.size w ((((w.alloc a).alloc b).alloc c).alloc d) := by
  have h1 := block_new w a
  have h2 := block_new (w.alloc a) b
  have h3 := block_new ((w.alloc a).alloc b) c
  have h4 := block_new (((w.alloc a).alloc b).alloc c) d
  simp only [World.size_alloc] at h2 h3 h4
  refine ⟨?_, ?_, ?_, h4, up (up (up (boxBelow _ _) (boxBelow _ _)) (boxBelow _ _)) (boxBelow _ _)⟩
  · rw [(boxBelow _ d).block _ (by simp; omega), (boxBelow _ c).block _ (by simp; omega), (boxBelow _ b).block _ (by simp)]; exact h1
  · rw [(boxBelow _ d).block _ (by simp), (boxBelow _ c).block _ (by simp)]; exact h2
  · rw [(boxBelow _ d).block _ (by simp)]; exact h3
theorem flat_len1 {α β : Type} {f : α → List β} {l : List α} (h : ∀ x, (f x).length ≤ 1) : (l.flatMap f).length ≤ l.length := by
  induction l with
  | nil => simp
  | cons x r ih => rw [List.flatMap_cons, List.length_append, List.length_cons]; have := h x; omega

set_option maxHeartbeats 4000000 in
set_option maxRecDepth 100000 in
theorem levelDiags_any (m : Nat) (w : World) (vn vl vi vv vf : Value) (names : List ByteArray) (x : Mo) (hN : Strs w vn names) (h : MoAt w m (.agg #[.string x.name, vi, vv, vf]) x) (hlen : (Nm.lvD names x m).length ≤ 16777216) :
    Calls Tryz.prog 48 #[.agg #[vn, vl], .agg #[.string x.name, vi, vv, vf]] w fun e w' => ∃ u, e = .returned u ∧ OwnK DgC w' w.heap.size 43 3 u (Nm.lvD names x m) ∧ Below w.heap.size w w' := by
  obtain ⟨hI, hV, hF⟩ := h.split
  have HN := hide hN
  obtain ⟨an, bn, on, cn, rfl, -⟩ := hN
  obtain ⟨ai, bi, oi, ci, rfl, -⟩ := hI
  obtain ⟨av, bv, ov, cv, rfl, hav, hlv, hcv⟩ := hV
  obtain ⟨af, bf, of, cf, rfl, haf, hlf, hcf⟩ := hF
  have HCV := hide hcv
  have HAV := hide hav
  have HCF : Hid (FuEl w m bf of x.funs) := hcf
  have HAF := hide haf
  have HLD : Hid (Nm.lvD names x m = (x.vars.flatMap fun v => Nm.lev names ⟨#[]⟩ v.level) ++ x.funs.flatMap fun f => (Nm.all m f.body).flatMap (Nm.levS names f.name)) := rfl
  have HLE := hide hlen
  obtain ⟨R, hR⟩ : ∃ R, R = Nm.lvD names x m := ⟨_, rfl⟩
  rw [← hR] at HLD HLE ⊢
  obtain ⟨vars, hvars⟩ : ∃ l, l = x.vars := ⟨_, rfl⟩
  obtain ⟨funs, hfuns⟩ : ∃ l, l = x.funs := ⟨_, rfl⟩
  rw [← hvars] at hlv HCV HAV HLD ⊢
  rw [← hfuns] at hlf HCF HAF HLD ⊢
  obtain ⟨nv, hnv⟩ : ∃ n, n = vars.length := ⟨_, rfl⟩
  obtain ⟨nf, hnf⟩ : ∃ n, n = funs.length := ⟨_, rfl⟩
  have HNV := hide hnv
  have HNF := hide hnf
  rw [← hnv] at hlv HAV ⊢
  rw [← hnf] at hlf HAF ⊢
  generalize x.imports.length = ni at *
  generalize names.length = nn at *
  generalize x.name = xn at *
  obtain ⟨b0, b1, b2, b3, hb0⟩ := al4 w (.cells #[.slice an nn cn, vl] 34) (.cells #[.string xn, .slice ai ni ci, .slice av nv cv, .slice af nf cf] 26) (.cells #[.slice none 0 0] 37)
    (.cells #[.func (.func 100) #[] #[.pointer (some ⟨w.heap.size, 0, none⟩), .pointer (some ⟨w.heap.size + 1 + 1, 0, none⟩)]] 96)
  have HB0 := hide b0
  have HB1 := hide b1
  have HB3 := hide b3
  have HBL := hide hb0
  have q12 := (block_at b1 2).trans (rfl : _ = some (Value.slice av nv cv))
  have HTO : Hid (Told _ w.heap.size (w.heap.size + 1 + 1) []) := hide ⟨by omega, _, b2, OwnK.nil _ _ _ _⟩
  clear hcv hav hcf haf hlen hR hvars hfuns hnv hnf h b0 b1 b2 b3 hb0
  go_enter Tryz.func48, Tryz.ntmps48
  go_wp2_with fail
  generalize ((((w.alloc (.cells #[.slice an nn cn, vl] 34)).alloc (.cells #[.string xn, .slice ai ni ci, .slice av nv cv, .slice af nf cf] 26)).alloc (.cells #[.slice none 0 0] 37)).alloc
    (.cells #[.func (.func 100) #[] #[.pointer (some ⟨w.heap.size, 0, none⟩), .pointer (some ⟨w.heap.size + 1 + 1, 0, none⟩)]] 96)) = W1 at *
  clear q12
  go_loopw [15] (fun i wr => ∃ j : Nat, j ≤ nv ∧ i = .int .i64 j ∧ Told wr w.heap.size (w.heap.size + 1 + 1) ((vars.take j).flatMap fun v => Nm.lev names ⟨#[]⟩ v.level) ∧ Below w.heap.size w wr ∧ Tells (w.heap.size + 1 + 1) W1 wr) (fun i _ => nv - (intOf i).toNat)
  case atStart => exact ⟨0, Nat.zero_le _, rfl, by simpa using HTO.out, HBL.out, Tells.refl _ _⟩
  case round =>
    obtain ⟨j, hj, rfl, hto, hnx, htl⟩ := hrel
    have HTO2 := hide hto
    have HNX := hide hnx
    have HTL := hide htl
    by_cases hjl : j < nv
    · obtain ⟨y, hy⟩ : ∃ y, vars[j]? = some y := ⟨_, List.getElem?_eq_getElem (by rw [← HNV.out]; exact hjl)⟩
      obtain ⟨-, -, g0, g1⟩ := HCV.out j y hy
      obtain rfl := HAV.out (by omega)
      replace g0 := cellUp g0 hnx
      replace g1 := cellUp g1 hnx
      have HY := hide hy
      have HB5 := hide (boxBelow wr (.cells #[.string y.name, .string y.level] 79))
      have c1 := (block_at (block_new wr (.cells #[.string y.name, .string y.level] 79)) 1).trans (rfl : _ = some (Value.string y.level))
      have c3 := cellUp ((block_at (htl.at (by omega) HB3.out (by decide)) 0).trans rfl) HB5.out
      have c0 := cellUp ((block_at (htl.at (by omega) HB0.out (by decide)) 0).trans (rfl : _ = some (Value.slice an nn cn))) HB5.out
      have HC0 := hide c0
      have HLS : Hid (((vars.take j).flatMap fun v => Nm.lev names ⟨#[]⟩ v.level).length + (Nm.lev names ⟨#[]⟩ y.level).length ≤ 16777216) := hide (by
        have h1 := flat_le (f := fun v : Va => Nm.lev names ⟨#[]⟩ v.level) (l := vars) (j + 1)
        rw [flat_succ hy, List.length_append] at h1
        have h2 := HLE.out
        rw [HLD.out, List.length_append] at h2
        omega)
      clear hto hnx htl hy c0
      go_wp2_with fail
      refine (ask_any _ w.heap.size (w.heap.size + 1 + 1) w.heap.size _ _ names ⟨#[]⟩ y.level (HTO2.out.below HB5.out) (Nat.le_trans HNX.out.size HB5.out.size) HLS.out HC0.out (HN.out.below (up HNX.out HB5.out))).mono ?_
      rintro e w5 ⟨rfl, hto5, hb5, ht5⟩
      have HTO5 := hide hto5
      have HB6 := hide ((up HNX.out HB5.out).trans hb5)
      have HT6 := hide ((HTL.out.trans (Tells.of_below HB5.out)).trans ht5)
      clear hto5 hb5 ht5 g0 g1 c1 c3
      go_wp2_with fail
      go_roundw
      case rel => exact ⟨j + 1, by omega, by go_num, by rw [flat_succ HY.out]; exact HTO5.out, HB6.out, HT6.out⟩
      case measure => simp [intOf]; omega
    · have hje : (vars.take j) = vars := List.take_of_length_le (by have := HNV.out; omega)
      rw [hje] at HTO2
      have q13 := (block_at (htl.at (by omega) HB1.out (by decide)) 3).trans (rfl : _ = some (Value.slice af nf cf))
      clear hje hnx htl hto
      generalize hF1 : (vars.flatMap fun v => Nm.lev names ⟨#[]⟩ v.level) = F1 at *
      go_wp2_with fail
      go_loopw [27] (fun i wx => ∃ j : Nat, j ≤ nf ∧ i = .int .i64 j ∧ Told wx w.heap.size (w.heap.size + 1 + 1) (F1 ++ (funs.take j).flatMap fun f => (Nm.all m f.body).flatMap (Nm.levS names f.name)) ∧ Below w.heap.size w wx ∧ Tells (w.heap.size + 1 + 1) W1 wx) (fun i _ => nf - (intOf i).toNat)
      case atStart => exact ⟨0, Nat.zero_le _, rfl, by simpa using HTO2.out, HNX.out, HTL.out⟩
      case round =>
        obtain ⟨t, ht, rfl, hto, hnx, htl⟩ := hrel
        have HTO3 := hide hto
        have HNX3 := hide hnx
        have HTL3 := hide htl
        by_cases htl' : t < nf
        · obtain ⟨y, hy⟩ : ∃ y, funs[t]? = some y := ⟨_, List.getElem?_eq_getElem (by rw [← HNF.out]; exact htl')⟩
          obtain ⟨-, vp, vb, e0, e1, e2, e3, g0, g1, g2, g3, g4, g5, g6, hp, hb, hx⟩ := HCF.out t y hy
          obtain rfl := HAF.out (by omega)
          have HY := hide hy
          have HVB := hide hb
          replace g0 := cellUp g0 hnx
          replace g1 := cellUp g1 hnx
          replace g2 := cellUp g2 hnx
          replace g3 := cellUp g3 hnx
          replace g4 := cellUp g4 hnx
          replace g5 := cellUp g5 hnx
          replace g6 := cellUp g6 hnx
          obtain ⟨ap, bp, op, cp, rfl, -⟩ := hp
          obtain ⟨sb, cb', rfl⟩ := hb.shapeN
          obtain ⟨xa, xc, rfl, rfl, rfl, rfl⟩ := hx.shape
          generalize y.params.length = np at *
          generalize y.body.length = nb at *
          generalize y.result.args.length = ne at *
          have HB5 := hide (boxBelow wr (.cells #[.string y.name, .slice ap np cp, .slice sb nb cb', .int .i64 y.result.kind, .int .i64 y.result.n, .string y.result.name, .slice xa ne xc] 87))
          have hbn := block_new wr (.cells #[.string y.name, .slice ap np cp, .slice sb nb cb', .int .i64 y.result.kind, .int .i64 y.result.n, .string y.result.name, .slice xa ne xc] 87)
          have c2 := (block_at hbn 2).trans (rfl : _ = some (Value.slice sb nb cb'))
          have hplt := hto.lt
          have hT2 := htl.trans (Tells.of_below HB5.out)
          have HVI := hide (askS_any w _ m (w.heap.size + 1 + 1) w.heap.size (w.heap.size + 1 + 1 + 1) wr.heap.size _ names y.name _ _ HN.out (hT2.at (by omega) HB0.out (by decide)) rfl (hT2.at (by omega) HB3.out (by decide)) hbn rfl (by omega) (by omega) (by omega))
          have HLS : Hid ((F1 ++ (funs.take t).flatMap fun f => (Nm.all m f.body).flatMap (Nm.levS names f.name)).length + ((Nm.all m y.body).flatMap (Nm.levS names y.name)).length ≤ 16777216) := hide (by
            have h1 := flat_le (f := fun f : Fu => (Nm.all m f.body).flatMap (Nm.levS names f.name)) (l := funs) (t + 1)
            rw [flat_succ hy, List.length_append] at h1
            have h2 := HLE.out
            rw [HLD.out, List.length_append] at h2
            rw [List.length_append]
            omega)
          clear hto hnx htl hy hb hx hT2 hbn
          go_wp2_with fail
          refine (eachCommand_any w _ m (w.heap.size + 1 + 1) 102 _ _ (enters_of Tryz.func102 (by kernel_rfl) rfl) HVI.out m _ _ y.body _ (Nat.le_refl _) (up HNX3.out HB5.out) (Tells.refl _ _) (HTO3.out.below HB5.out) HVB.out HLS.out).mono ?_
          rintro e w5 ⟨rfl, hto5, hb5, ht5⟩
          have HTO5 := hide hto5
          have HB6 := hide ((up HNX3.out HB5.out).trans hb5)
          have HT6 := hide ((HTL3.out.trans (Tells.of_below HB5.out)).trans ht5)
          clear hto5 hb5 ht5 g0 g1 g2 g3 g4 g5 g6 c2
          go_wp2_with fail
          go_roundw
          case rel => exact ⟨t + 1, by omega, by go_num, by rw [flat_succ HY.out, ← List.append_assoc]; exact HTO5.out, HB6.out, HT6.out⟩
          case measure => simp [intOf]; omega
        · have hje : (funs.take t) = funs := List.take_of_length_le (by have := HNF.out; omega)
          rw [hje, ← HLD.out] at hto
          obtain ⟨-, v, hv1, hv2⟩ := hto
          have c0 := (block_at hv1 0).trans (rfl : _ = some v)
          have HV2 := hide hv2
          obtain ⟨a9, c9, rfl⟩ := hv2.form
          clear hv1 hv2 hje htl hnx
          go_wp2_with fail
          go_ret
          exact ⟨_, rfl, HV2.out, HNX3.out⟩

end Go.Proofs.YtbncnkfogkhoeaaGreatDoor

/- Walks over package names: eachCall, callDiags. -/
namespace Go.Proofs.YtbncnkfogkhoeaaGreatDoor
open Go.RowKit

theorem VisE.up {W0 W W1 : World} {M p g : Nat} {cb : Array Value} {D : Ex → List Dg} (h : VisE W0 W M p g cb D) (hT : Tells p W W1) : VisE W0 W1 M p g cb D :=
  fun w c0 c1 c2 c3 y l h1 h2 h3 h4 h5 => h w c0 c1 c2 c3 y l h1 (hT.trans h2) h3 h4 h5

set_option maxHeartbeats 2000000 in
set_option maxRecDepth 100000 in
theorem eachCallP_any (W0 W : World) (M p g r : Nat) (cb : Array Value) (D : Ex → List Dg) (eg : ∀ args w, (callFunc g args).run Tryz.prog w = .ok (.enter g args) w) (hv : VisE W0 W M p g cb D)
    (hr : W.heap[r]? = some (.cells #[.func (.func g) #[] cb] 164 (0, 0))) (hrp : r ≠ p) :
    VisS W0 W M p 146 #[.pointer (some ⟨r, 0, none⟩)] (fun s => (Nm.pcalls M s.e).flatMap D) := by
  intro w e0 e1 e2 e3 va vb s l hW hT hl hst hlen
  have HB0 := hide (boxBelow w (.cells #[.int .i64 s.kind, .string s.name, e0, e1, e2, e3, va, vb] 100))
  have hz := box8 w (.int .i64 s.kind) (.string s.name) e0 e1 e2 e3 va vb 100
  have z2 := hz 2 _ rfl
  have z3 := hz 3 _ rfl
  have z4 := hz 4 _ rfl
  have z5 := hz 5 _ rfl
  have hr1 := cellUp ((block_at (hT.at hrp hr (by decide)) 0).trans rfl) HB0.out
  have HTO := hide (hl.below HB0.out)
  have HW := hide hW
  have HT := hide hT
  have HV := hide hv
  have HLE := hide hlen
  obtain ⟨f0, f1, f2, f3, fa, fb, hc, -, -, hx, -, -⟩ := hst
  simp only [List.cons.injEq, and_true, true_and] at hc
  obtain ⟨rfl, rfl, rfl, rfl, rfl, rfl⟩ := hc
  have HX := hide hx
  obtain ⟨xa, xc, rfl, rfl, rfl, rfl⟩ := hx.shape
  generalize s.e.args.length = ne at *
  have EG := hide eg
  clear hz hr hl hT hW hv hlen hx eg
  show Calls Tryz.prog 146 #[.agg #[.int .i64 s.kind, .string s.name, .int .i64 s.e.kind, .int .i64 s.e.n, .string s.e.name, .slice xa ne xc, va, vb], .pointer (some ⟨r, 0, none⟩)] w _
  go_enter Tryz.func146, Tryz.ntmps146
  go_wp2_with fail
  refine (callsIn_any W0 W M p g cb D EG.out HV.out M _ _ _ _ _ s.e l (Nat.le_refl _) (HW.out.trans (HB0.out.mono HW.out.size)) (HT.out.trans (Tells.of_below HB0.out)) HTO.out HX.out HLE.out).mono ?_
  rintro e w5 ⟨rfl, hto5, hb5, ht5⟩
  have HTO5 := hide hto5
  have HB5 := hide ((HB0.out.mono HW.out.size).trans hb5)
  have HT5 : Hid (Tells p w w5) := hide ((Tells.of_below HB0.out).trans ht5)
  clear hto5 hb5 ht5
  go_wp2
  go_end0
  exact ⟨rfl, HTO5.out, HB5.out, HT5.out⟩

namespace Nm
/-- The calls of a function, as eachCall comes to them. -/
def fcalls (m : Nat) (f : Fu) : List Ex := ((all m f.body).flatMap fun s => pcalls m s.e) ++ pcalls m f.result
end Nm
theorem al2 (w : World) (a b : Obj) : ((w.alloc a).alloc b).heap[w.heap.size]? = some a ∧ ((w.alloc a).alloc b).heap[w.heap.size + 1]? = some b ∧ Below w.heap.size w ((w.alloc a).alloc b) := by
  have h1 := block_new w a
  have h2 := block_new (w.alloc a) b
  simp only [World.size_alloc] at h2
  refine ⟨?_, h2, up (boxBelow _ _) (boxBelow _ _)⟩
  rw [(boxBelow _ b).block _ (by simp)]; exact h1

set_option maxHeartbeats 2000000 in
set_option maxRecDepth 100000 in
theorem eachCall_any (W0 W : World) (M p g : Nat) (cb : Array Value) (D : Ex → List Dg) (eg : ∀ args w, (callFunc g args).run Tryz.prog w = .ok (.enter g args) w) (hv : VisE W0 W M p g cb D) (w : World) (fn : ByteArray) (vp vb e0 e1 e2 e3 : Value) (f : Fu) (l : List Dg)
    (hW : Below W0.heap.size W0 w) (hT : Tells p W w) (hl : Told w W0.heap.size p l) (hb : StsAt W0 M vb f.body) (hx : ExAt W0 M e0 e1 e2 e3 f.result) (hlen : l.length + ((Nm.fcalls M f).flatMap D).length ≤ 16777216) :
    Calls Tryz.prog 103 #[.agg #[.string fn, vp, vb, e0, e1, e2, e3], .func (.func g) #[] cb] w fun e w' => e = .returned (.tuple #[]) ∧ Told w' W0.heap.size p (l ++ (Nm.fcalls M f).flatMap D) ∧ Below W0.heap.size w w' ∧ Tells p w w' := by
  have HX := hide hx
  have HVB := hide hb
  obtain ⟨sb, cb', rfl⟩ := hb.shapeN
  obtain ⟨xa, xc, rfl, rfl, rfl, rfl⟩ := hx.shape
  generalize f.body.length = nb at *
  generalize f.result.args.length = ne at *
  obtain ⟨b0, b1, hb0⟩ := al2 w (.cells #[.string fn, vp, .slice sb nb cb', .int .i64 f.result.kind, .int .i64 f.result.n, .string f.result.name, .slice xa ne xc] 87) (.cells #[.func (.func g) #[] cb] 164)
  have HB0 := hide b0
  have HB1 := hide b1
  have HBL := hide hb0
  have HP := hide hl.lt
  have HW := hide hW
  have HT := hide hT
  have HTO := hide (hl.below hb0)
  have EG := hide eg
  have HV := hide (hv.up (hT.trans (Tells.of_below hb0)))
  have HS := hide (eachCallP_any W0 _ M p g (w.heap.size + 1) cb D eg (hv.up (hT.trans (Tells.of_below hb0))) b1 (by have := hl.lt; omega))
  have HFL : Hid ((Nm.fcalls M f).flatMap D = ((Nm.all M f.body).flatMap fun s => (Nm.pcalls M s.e).flatMap D) ++ (Nm.pcalls M f.result).flatMap D) := hide (by unfold Nm.fcalls; rw [List.flatMap_append, List.flatMap_assoc])
  rw [HFL.out, List.length_append] at hlen
  have HLE := hide hlen
  have q2 := (block_at b0 2).trans (rfl : _ = some (Value.slice sb nb cb'))
  clear hx hb b0 b1 hb0 hl hW hT eg hv hlen
  go_enter Tryz.func103, Tryz.ntmps103
  go_wp2_with fail
  generalize ((w.alloc (.cells #[.string fn, vp, .slice sb nb cb', .int .i64 f.result.kind, .int .i64 f.result.n, .string f.result.name, .slice xa ne xc] 87)).alloc (.cells #[.func (.func g) #[] cb] 164)) = W1 at *
  refine (eachCommand_any W0 W1 M p 146 _ _ (enters_of Tryz.func146 (by kernel_rfl) rfl) HS.out M _ _ f.body l (Nat.le_refl _) (HW.out.trans (HBL.out.mono HW.out.size)) (Tells.refl _ _) HTO.out HVB.out (by have := HLE.out; omega)).mono ?_
  rintro e w5 ⟨rfl, hto5, hb5, ht5⟩
  have HTO5 := hide hto5
  have HB5 := hide ((HBL.out.mono HW.out.size).trans hb5)
  have HT5 := hide ht5
  have hb05 := ht5.at (by have := HP.out; omega) HB0.out (by decide)
  have hb15 := ht5.at (by have := HP.out; omega) HB1.out (by decide)
  have k3 := (block_at hb05 3).trans (rfl : _ = some (Value.int .i64 f.result.kind))
  have k4 := (block_at hb05 4).trans (rfl : _ = some (Value.int .i64 f.result.n))
  have k5 := (block_at hb05 5).trans (rfl : _ = some (Value.string f.result.name))
  have k6 := (block_at hb05 6).trans (rfl : _ = some (Value.slice xa ne xc))
  have k7 := (block_at hb15 0).trans (rfl : _ = some (Value.func (.func g) #[] cb))
  clear hto5 hb5 ht5 hb05 hb15 q2
  go_wp2_with fail
  refine (callsIn_any W0 W1 M p g cb D EG.out HV.out M _ _ _ _ _ f.result _ (Nat.le_refl _) (HW.out.trans HB5.out) HT5.out HTO5.out HX.out (by have := HLE.out; rw [List.length_append]; omega)).mono ?_
  rintro e w6 ⟨rfl, hto6, hb6, ht6⟩
  have HTO6 := hide hto6
  have HB6 := hide (HB5.out.trans hb6)
  have HT6 : Hid (Tells p w w6) := hide (((Tells.of_below HBL.out).trans HT5.out).trans ht6)
  clear hto6 hb6 ht6
  go_wp2
  go_end0
  exact ⟨rfl, by rw [HFL.out, ← List.append_assoc]; exact HTO6.out, HB6.out, HT6.out⟩

namespace Nm
/-- What callDiags tells of a call. -/
def clE (x : Mo) (known : List Mo) (k : Nat) (fn : ByteArray) (y : Ex) : List Dg := if code x known k y.name y.args.length = 0 then [] else [⟨code x known k y.name y.args.length, fn, y.name⟩]
end Nm

set_option maxHeartbeats 2000000 in
set_option maxRecDepth 100000 in
theorem callP_any (W0 W : World) (m p qs qk qf : Nat) (x : Mo) (known : List Mo) (vi vv vf vk va : Value) (k : Nat) (fn : ByteArray) (cf : Array Value) (hS : ScV W0 m x known vi vv vf vk va) (hk : k ≤ x.funs.length)
    (hs : W.heap[qs]? = some (.cells #[.string x.name, vi, vv, vf, vk, va] 103 (0, 0))) (hqk : W.heap[qk]? = some (.cells #[.int .i64 k] 3 (0, 0))) (hqf : W.heap[qf]? = some (.cells cf 87 (0, 0))) (hfn : cf[0]? = some (.string fn))
    (hsp : qs ≠ p) (hkp : qk ≠ p) (hfp : qf ≠ p) :
    VisE W0 W m p 104 #[.pointer (some ⟨qs, 0, none⟩), .pointer (some ⟨qk, 0, none⟩), .pointer (some ⟨p, 0, none⟩), .pointer (some ⟨qf, 0, none⟩)] (Nm.clE x known k fn) := by
  intro w c0 c1 c2 c3 y l hW hT hl hE hlen
  have HEX := hide hE
  obtain ⟨xa, xc, rfl, rfl, rfl, rfl⟩ := hE.shape
  have HB0 := hide (boxBelow w (.cells #[.int .i64 y.kind, .int .i64 y.n, .string y.name, .slice xa y.args.length xc] 84))
  have HBN := hide (block_new w (.cells #[.int .i64 y.kind, .int .i64 y.n, .string y.name, .slice xa y.args.length xc] 84))
  have s1 := hT.at hsp hs (by decide)
  have s2 := hT.at hkp hqk (by decide)
  have s3 := hT.at hfp hqf (by decide)
  have u0 := cellUp ((block_at s1 0).trans (rfl : _ = some (Value.string x.name))) HB0.out
  have u1 := cellUp ((block_at s1 1).trans (rfl : _ = some vi)) HB0.out
  have u2 := cellUp ((block_at s1 2).trans (rfl : _ = some vv)) HB0.out
  have u3' := cellUp ((block_at s1 3).trans (rfl : _ = some vf)) HB0.out
  have u4' := cellUp ((block_at s1 4).trans (rfl : _ = some vk)) HB0.out
  have u5 := cellUp ((block_at s1 5).trans (rfl : _ = some va)) HB0.out
  have u6 := cellUp ((block_at s2 0).trans (rfl : _ = some (Value.int .i64 k))) HB0.out
  have HF0 := hide ((block_at s3 0).trans hfn)
  have z0 := boxD0 w (.int .i64 y.kind) (.int .i64 y.n) (.string y.name) (.slice xa y.args.length xc) 84
  have z1 := boxD1 w (.int .i64 y.kind) (.int .i64 y.n) (.string y.name) (.slice xa y.args.length xc) 84
  have z2 := boxD2 w (.int .i64 y.kind) (.int .i64 y.n) (.string y.name) (.slice xa y.args.length xc) 84
  have z3 := boxN3 w (.int .i64 y.kind) (.int .i64 y.n) (.string y.name) (.slice xa y.args.length xc) 84
  have HZ2 := hide z2
  have HW := hide hW
  have HTO := hide hl
  have HCC := hide (callCode_any m m _ x known vi vv vf vk va k _ _ _ _ y (hS.below (hW.trans (HB0.out.mono hW.size))) hk (HEX.out.below (hW.trans (HB0.out.mono hW.size))))
  have HD : Hid (Nm.clE x known k fn y = if Nm.code x known k y.name y.args.length = 0 then [] else [⟨Nm.code x known k y.name y.args.length, fn, y.name⟩]) := rfl
  rw [HD.out] at hlen
  generalize Nm.code x known k y.name y.args.length = cd at *
  obtain ⟨hI, hV, hF⟩ := hS.mo.split
  have hK := hS.kn
  have hA := hS.ats
  obtain ⟨ai, bi, oi, ci, rfl, -⟩ := hI
  obtain ⟨av, bv, ov, cv, rfl, -⟩ := hV
  obtain ⟨af, bf, of, cf', rfl, -⟩ := hF
  obtain ⟨ak, bk, ok, ck, rfl, -⟩ := hK
  obtain ⟨aa, ba, oa, ca, rfl, -⟩ := hA
  generalize (x.imports.map fun s => Nm.oI (Nm.moAt known s)).length = nat at *
  generalize x.imports.length = ni at *
  generalize x.vars.length = nv at *
  generalize x.funs.length = nf at *
  generalize known.length = nk at *
  generalize y.args.length = na at *
  clear hs hqk hqf hfn s1 s2 s3 hE hT hS
  show Calls Tryz.prog 104 #[.agg #[.int .i64 y.kind, .int .i64 y.n, .string y.name, .slice xa na xc], .pointer (some ⟨qs, 0, none⟩), .pointer (some ⟨qk, 0, none⟩), .pointer (some ⟨p, 0, none⟩), .pointer (some ⟨qf, 0, none⟩)] w _
  by_cases h0 : cd = 0
  · have h0' : (cd == 0) = true := by simp [h0]
    rw [if_pos h0] at HD
    clear h0 hl hW hlen
    go_enter Tryz.func104, Tryz.ntmps104
    go_wp2_with fail
    refine HCC.out.mono ?_
    rintro e w5 ⟨rfl, hb5⟩
    have HB5 := hide (up HB0.out hb5)
    clear hb5 z0 z1 z2 z3 u0 u1 u2 u3' u4' u5 u6
    go_wp2_with fail
    go_end0
    exact ⟨rfl, by rw [HD.out, List.append_nil]; exact HTO.out.below HB5.out, HB5.out.mono HW.out.size, Tells.of_below HB5.out⟩
  · have h0' : (cd == 0) = false := by simp [h0]
    rw [if_neg h0] at HD hlen
    clear h0 hl hW
    have hl2 : l.length < 16777216 := by simp at hlen; omega
    clear hlen
    go_enter Tryz.func104, Tryz.ntmps104
    go_wp2_with fail
    refine HCC.out.mono ?_
    rintro e w5 ⟨rfl, hb5⟩
    have HB5 := hide (up HB0.out hb5)
    have hto5 := HTO.out.below HB5.out
    obtain ⟨t0, v, t1, t2⟩ := hto5
    have q0 : w5.cell? ⟨p, 0, none⟩ = some v := by rw [block_at t1]; rfl
    have H0 := hide t0
    have H1 := hide t1
    have H2 := hide t2
    have y2 := cellUp HZ2.out hb5
    have f0 := cellUp HF0.out HB5.out
    have hn5 := Nat.le_trans HW.out.size HB5.out.size
    clear hb5 z0 z1 z2 z3 u0 u1 u2 u3' u4' u5 u6 t0 t1 t2
    go_wp2_with (first
      | (at_builtin; refine wpList_append_K (At := DgC) rfl _ _ 37 43 3 40 _ rfl Tryz.underlying37 infoDg (by decide) (by decide) (by decide) W0.heap.size _ _ rfl (H2.out.below (boxBelow _ _)) _ _ [⟨cd, fn, y.name⟩] rfl (OwnK.one _ _ rfl (DgC.one (d := ⟨cd, fn, y.name⟩) rfl) rfl) (by simp only [List.length_singleton]; omega) (Nat.le_trans hn5 (boxBelow _ _).size) ?_; intro v6 w6 hown6 hgrow6; obtain ⟨a6, c6, hv6⟩ := hown6.form; subst hv6; have HP := hide (Told.push H0.out H1.out H2.out hown6 hgrow6); have z0 := (block_at HP.out.1 0).trans (show _ = some v from rfl); have zf := block_free HP.out.1 0; clear hown6 hgrow6)
      | fail)
    go_end0
    have hl1 : (l ++ [(⟨cd, fn, y.name⟩ : Dg)]).length = l.length + 1 := by simp
    rw [hl1] at HP
    exact ⟨rfl, by rw [HD.out]; exact HP.out.2.1, (HB5.out.mono HW.out.size).trans HP.out.2.2.1, (Tells.of_below HB5.out).trans HP.out.2.2.2⟩

end Go.Proofs.YtbncnkfogkhoeaaGreatDoor

/- Walks over package names: callDiags, importDiags. -/
namespace Go.Proofs.YtbncnkfogkhoeaaGreatDoor
open Go.RowKit

namespace Nm
/-- What is told place by place. -/
def upto (g : Nat → List Dg) (n : Nat) : List Dg := (List.range n).flatMap g
theorem upto_succ (g : Nat → List Dg) (n : Nat) : upto g (n + 1) = upto g n ++ g n := by unfold upto; rw [List.range_succ, List.flatMap_append]; simp
theorem upto_zero (g : Nat → List Dg) : upto g 0 = [] := rfl
theorem upto_le (g : Nat → List Dg) {j n : Nat} (h : j ≤ n) : (upto g j).length ≤ (upto g n).length := by
  induction n with
  | zero => have : j = 0 := by omega
            subst this; exact Nat.le_refl _
  | succ n ih =>
    by_cases e : j = n + 1
    · subst e; exact Nat.le_refl _
    · rw [upto_succ, List.length_append]; have := ih (by omega); omega
theorem mem_upto {g : Nat → List Dg} {n : Nat} {d : Dg} : d ∈ upto g n ↔ ∃ i, i < n ∧ d ∈ g i := by
  unfold upto; simp
def atD {α : Type} (l : List α) (f : Nat → α → List Dg) (i : Nat) : List Dg := match l[i]? with
  | some x => f i x
  | none => []
theorem atD_some {α : Type} {l : List α} {f : Nat → α → List Dg} {i : Nat} {x : α} (h : l[i]? = some x) : atD l f i = f i x := by unfold atD; rw [h]
/-- What callDiags answers. -/
def clD (x : Mo) (known : List Mo) (m : Nat) : List Dg := upto (atD x.funs fun k f => (fcalls m f).flatMap (clE x known k f.name)) x.funs.length
/-- What importDiags answers. -/
def imD (x : Mo) (known : List Mo) : List Dg := upto (atD x.imports fun _ s => if (sameB s x.name || (moAt known s).isNone) = true then [⟨1, ⟨#[]⟩, s⟩] else []) x.imports.length
end Nm

set_option maxHeartbeats 4000000 in
set_option maxRecDepth 100000 in
theorem callDiags_any (m : Nat) (w : World) (x : Mo) (known : List Mo) (vi vv vf vk va : Value) (h : ScV w m x known vi vv vf vk va) (hlen : (Nm.clD x known m).length ≤ 16777216) :
    Calls Tryz.prog 49 #[.agg #[.string x.name, vi, vv, vf, vk, va]] w fun e w' => ∃ u, e = .returned u ∧ OwnK DgC w' w.heap.size 43 3 u (Nm.clD x known m) ∧ Below w.heap.size w w' := by
  have HS := hide h
  obtain ⟨hI, hV, hF⟩ := h.mo.split
  have hK := h.kn
  have hA := h.ats
  obtain ⟨ai, bi, oi, ci, rfl, -⟩ := hI
  obtain ⟨av, bv, ov, cv, rfl, -⟩ := hV
  obtain ⟨af, bf, of, cf, rfl, haf, hlf, hcf⟩ := hF
  obtain ⟨ak, bk, ok, ck, rfl, -⟩ := hK
  obtain ⟨aa, ba, oa, ca, rfl, -⟩ := hA
  have HCF : Hid (FuEl w m bf of x.funs) := hcf
  have HAF := hide haf
  obtain ⟨G, hG⟩ : ∃ G, G = Nm.atD x.funs fun k f => (Nm.fcalls m f).flatMap (Nm.clE x known k f.name) := ⟨_, rfl⟩
  have HG := hide hG
  have HLD : Hid (Nm.clD x known m = Nm.upto G x.funs.length) := hide (by rw [hG]; rfl)
  have HLE := hide hlen
  rw [HLD.out] at HLE ⊢
  obtain ⟨nf, hnf⟩ : ∃ n, n = x.funs.length := ⟨_, rfl⟩
  have HNF := hide hnf
  rw [← hnf] at hlf HAF HLE HS ⊢
  generalize (x.imports.map fun s => Nm.oI (Nm.moAt known s)).length = nat at *
  generalize x.imports.length = ni at *
  generalize x.vars.length = nv at *
  generalize known.length = nk at *
  obtain ⟨b0, b1, hb0⟩ := al2 w (.cells #[.string x.name, .slice ai ni ci, .slice av nv cv, .slice af nf cf, .slice ak nk ck, .slice aa nat ca] 103) (.cells #[.slice none 0 0] 37)
  have HB0 := hide b0
  have HBL := hide hb0
  have q3 := (block_at b0 3).trans (rfl : _ = some (Value.slice af nf cf))
  have HTO : Hid (Told _ w.heap.size (w.heap.size + 1) []) := hide ⟨by omega, _, b1, OwnK.nil _ _ _ _⟩
  clear hcf haf hlen hG hnf h b0 b1 hb0
  go_enter Tryz.func49, Tryz.ntmps49
  go_wp2_with fail
  generalize ((w.alloc (.cells #[.string x.name, .slice ai ni ci, .slice av nv cv, .slice af nf cf, .slice ak nk ck, .slice aa nat ca] 103)).alloc (.cells #[.slice none 0 0] 37)) = W1 at *
  clear q3
  go_loopw [10] (fun i wr => ∃ j : Nat, j ≤ nf ∧ i = .int .i64 j ∧ Told wr w.heap.size (w.heap.size + 1) (Nm.upto G j) ∧ Below w.heap.size w wr ∧ Tells (w.heap.size + 1) W1 wr) (fun i _ => nf - (intOf i).toNat)
  case atStart => exact ⟨0, Nat.zero_le _, rfl, HTO.out, HBL.out, Tells.refl _ _⟩
  case round =>
    obtain ⟨t, ht, rfl, hto, hnx, htl⟩ := hrel
    have HTO3 := hide hto
    have HNX3 := hide hnx
    have HTL3 := hide htl
    by_cases htl' : t < nf
    · obtain ⟨y, hy⟩ : ∃ y, x.funs[t]? = some y := ⟨_, List.getElem?_eq_getElem (by rw [← HNF.out]; exact htl')⟩
      obtain ⟨-, vp, vb, e0, e1, e2, e3, g0, g1, g2, g3, g4, g5, g6, hp, hb, hx⟩ := HCF.out t y hy
      obtain rfl := HAF.out (by omega)
      have HY : Hid (G t = (Nm.fcalls m y).flatMap (Nm.clE x known t y.name)) := hide (by rw [HG.out]; exact Nm.atD_some hy)
      have HVB := hide hb
      have HVX := hide hx
      replace g0 := cellUp g0 hnx
      replace g1 := cellUp g1 hnx
      replace g2 := cellUp g2 hnx
      replace g3 := cellUp g3 hnx
      replace g4 := cellUp g4 hnx
      replace g5 := cellUp g5 hnx
      replace g6 := cellUp g6 hnx
      obtain ⟨ap, bp, op, cp, rfl, -⟩ := hp
      obtain ⟨sb, cb', rfl⟩ := hb.shapeN
      obtain ⟨xa, xc, rfl, rfl, rfl, rfl⟩ := hx.shape
      generalize y.params.length = np at *
      generalize y.body.length = nb at *
      generalize y.result.args.length = ne at *
      obtain ⟨c0, c1, hb5⟩ := al2 wr (.cells #[.int .i64 t] 3) (.cells #[.string y.name, .slice ap np cp, .slice sb nb cb', .int .i64 y.result.kind, .int .i64 y.result.n, .string y.result.name, .slice xa ne xc] 87)
      have HB5 := hide hb5
      have d0 := (block_at c1 0).trans (rfl : _ = some (Value.string y.name))
      have d1 := (block_at c1 1).trans (rfl : _ = some (Value.slice ap np cp))
      have d2 := (block_at c1 2).trans (rfl : _ = some (Value.slice sb nb cb'))
      have d3 := (block_at c1 3).trans (rfl : _ = some (Value.int .i64 y.result.kind))
      have d4 := (block_at c1 4).trans (rfl : _ = some (Value.int .i64 y.result.n))
      have d5 := (block_at c1 5).trans (rfl : _ = some (Value.string y.result.name))
      have d6 := (block_at c1 6).trans (rfl : _ = some (Value.slice xa ne xc))
      have hplt := hto.lt
      have hT2 := htl.trans (Tells.of_below hb5)
      have HVI := hide (callP_any w _ m (w.heap.size + 1) w.heap.size wr.heap.size (wr.heap.size + 1) x known _ _ _ _ _ t y.name _ HS.out (by rw [← HNF.out]; exact ht) (hT2.at (by omega) HB0.out (by decide)) c0 c1 rfl (by omega) (by omega) (by omega))
      have HLS : Hid ((Nm.upto G t).length + ((Nm.fcalls m y).flatMap (Nm.clE x known t y.name)).length ≤ 16777216) := hide (by
        have h1 := Nm.upto_le G (show t + 1 ≤ nf by omega)
        rw [Nm.upto_succ, List.length_append, HY.out] at h1
        have h2 := HLE.out
        omega)
      clear hto hnx htl hy hb hx hT2 c0 c1 hb5
      go_wp2_with fail
      refine (eachCall_any w _ m (w.heap.size + 1) 104 _ _ (enters_of Tryz.func104 (by kernel_rfl) rfl) HVI.out _ y.name _ _ _ _ _ _ y _ (up HNX3.out HB5.out) (Tells.refl _ _) (HTO3.out.below HB5.out) HVB.out HVX.out HLS.out).mono ?_
      rintro e w5 ⟨rfl, hto5, hb5, ht5⟩
      have HTO5 := hide hto5
      have HB6 := hide ((up HNX3.out HB5.out).trans hb5)
      have HT6 := hide ((HTL3.out.trans (Tells.of_below HB5.out)).trans ht5)
      clear hto5 hb5 ht5 g0 g1 g2 g3 g4 g5 g6 d0 d1 d2 d3 d4 d5 d6
      go_wp2_with fail
      go_roundw
      case rel => exact ⟨t + 1, by omega, by go_num, by rw [Nm.upto_succ, HY.out]; exact HTO5.out, HB6.out, HT6.out⟩
      case measure => simp [intOf]; omega
    · have hje : t = nf := by omega
      rw [hje] at hto
      obtain ⟨-, v, hv1, hv2⟩ := hto
      have c0 := (block_at hv1 0).trans (rfl : _ = some v)
      have HV2 := hide hv2
      obtain ⟨a9, c9, rfl⟩ := hv2.form
      generalize (Nm.upto G nf).length = nu at *
      clear hv1 hv2 hje htl hnx
      go_wp2_with fail
      go_ret
      exact ⟨_, rfl, HV2.out, HNX3.out⟩

set_option maxHeartbeats 2000000 in
set_option maxRecDepth 100000 in
theorem importDiags_any (m : Nat) (w : World) (x : Mo) (known : List Mo) (vi vv vf vk va : Value) (h : ScV w m x known vi vv vf vk va) (hlen : (Nm.imD x known).length ≤ 16777216) :
    Calls Tryz.prog 46 #[.agg #[.string x.name, vi, vv, vf, vk, va]] w fun e w' => ∃ u, e = .returned u ∧ OwnK DgC w' w.heap.size 43 3 u (Nm.imD x known) ∧ Below w.heap.size w w' := by
  obtain ⟨hI, hV, hF⟩ := h.mo.split
  have hK := h.kn
  have hA := h.ats
  obtain ⟨ai, bi, oi, ci, rfl, hai, hli, hcs, hci⟩ := hI
  obtain ⟨av, bv, ov, cv, rfl, -⟩ := hV
  obtain ⟨af, bf, of, cf, rfl, -⟩ := hF
  obtain ⟨ak, bk, ok, ck, rfl, -⟩ := hK
  obtain ⟨aa, ba, oa, ca, rfl, haa, hla, hca⟩ := hA
  have HCI := hide hci
  have HAI := hide hai
  have HCA := hide hca
  obtain ⟨G, hG⟩ : ∃ G, G = Nm.atD x.imports fun _ s => if (Nm.sameB s x.name || (Nm.moAt known s).isNone) = true then [⟨1, ⟨#[]⟩, s⟩] else [] := ⟨_, rfl⟩
  have HG := hide hG
  have HLD : Hid (Nm.imD x known = Nm.upto G x.imports.length) := hide (by rw [hG]; rfl)
  have HLE := hide hlen
  rw [HLD.out] at HLE ⊢
  have hla' : (x.imports.map fun s => Nm.oI (Nm.moAt known s)).length = x.imports.length := by rw [List.length_map]
  rw [hla'] at hla haa ⊢
  have HAA := hide haa
  obtain ⟨ni, hni⟩ : ∃ n, n = x.imports.length := ⟨_, rfl⟩
  have HNI := hide hni
  rw [← hni] at hli HAI HLE hla HAA ⊢
  generalize x.funs.length = nf at *
  generalize x.vars.length = nv at *
  generalize known.length = nk at *
  have HBX := fun i v h => box6 w (.string x.name) (.slice ai ni ci) (.slice av nv cv) (.slice af nf cf) (.slice ak nk ck) (.slice aa ni ca) 103 i v h
  have HB0 := hide (boxBelow w (.cells #[.string x.name, .slice ai ni ci, .slice av nv cv, .slice af nf cf, .slice ak nk ck, .slice aa ni ca] 103))
  have q0 := HBX 0 _ rfl
  have q1 := HBX 1 _ rfl
  have q5 := HBX 5 _ rfl
  clear hci hai hcs hca haa hlen hG hni h hla' HBX
  go_enter Tryz.func46, Tryz.ntmps46
  go_wp2_with fail
  generalize (w.alloc (.cells #[.string x.name, .slice ai ni ci, .slice av nv cv, .slice af nf cf, .slice ak nk ck, .slice aa ni ca] 103)) = W1 at *
  go_loopw [3, 10] (fun v i wr => ∃ j : Nat, j ≤ ni ∧ i = .int .i64 j ∧ OwnK DgC wr W1.heap.size 43 3 v (Nm.upto G j) ∧ Below W1.heap.size W1 wr) (fun _ i _ => ni - (intOf i).toNat)
  case atStart => exact ⟨0, Nat.zero_le _, rfl, OwnK.nil _ _ _ _, Below.refl _ _⟩
  case round =>
    obtain ⟨t, ht, rfl, hown, hnx⟩ := hrel
    have HOW := hide hown
    have HNX := hide hnx
    by_cases htl' : t < ni
    · obtain ⟨s, hs⟩ : ∃ y, x.imports[t]? = some y := ⟨_, List.getElem?_eq_getElem (by rw [← HNI.out]; exact htl')⟩
      have c0 := cellUp (cellUp (HCI.out t (by rw [← HNI.out]; exact htl')) HB0.out) hnx
      rw [List.getD_eq_getElem?_getD, hs, Option.getD_some] at c0
      obtain rfl := HAI.out (by omega)
      obtain rfl := HAA.out (by omega)
      have c5 := cellUp (cellUp (HCA.out t (Nm.oI (Nm.moAt known s)) (by rw [List.getElem?_map, hs]; rfl)) HB0.out) hnx
      have HY : Hid (G t = if (Nm.sameB s x.name || (Nm.moAt known s).isNone) = true then [⟨1, ⟨#[]⟩, s⟩] else []) := hide (by rw [HG.out]; exact Nm.atD_some hs)
      replace q0 := cellUp q0 hnx
      replace q5 := cellUp q5 hnx
      obtain ⟨a3, c3, rfl⟩ := hown.form
      have hul : (Nm.upto G t).length < 16777216 ∨ G t = [] := by
        have h1 := Nm.upto_le G (show t + 1 ≤ ni by omega)
        rw [Nm.upto_succ, List.length_append] at h1
        have h2 := HLE.out
        by_cases hg : G t = []
        · exact Or.inr hg
        · have := List.length_pos_iff.2 hg
          exact Or.inl (by omega)
      have HUL := hide hul
      obtain ⟨ul, hut⟩ : ∃ n, n = (Nm.upto G t).length := ⟨_, rfl⟩
      have HUT := hide hut
      rw [← hut] at HOW ⊢
      clear hs hown hnx hut hul q1
      cases hb1 : (s.toList == x.name.toList)
      · have hsb : Nm.sameB s x.name = false := hb1
        rw [hsb, Bool.false_or] at HY
        clear hsb
        cases hmo : Nm.moAt known s with
        | none =>
          rw [hmo] at HY c5
          have ho : Nm.oI none = -1 := rfl
          rw [ho] at c5
          rw [Option.isNone_none, if_pos rfl] at HY
          have hul : ul < 16777216 := by
            rcases HUL.out with h | h
            · rw [HUT.out]; exact h
            · rw [HY.out] at h; cases h
          clear hmo ho
          go_wp2_with (first
            | (at_builtin; refine wpList_append_K (At := DgC) rfl _ _ 37 43 3 40 _ rfl Tryz.underlying37 infoDg (by decide) (by decide) (by decide) W1.heap.size _ _ rfl (HOW.out.below (boxBelow _ _)) _ _ [⟨1, ⟨#[]⟩, s⟩] rfl (OwnK.one _ _ rfl (DgC.one (d := ⟨1, ⟨#[]⟩, s⟩) rfl) rfl) (by have := HUT.out; simp only [List.length_singleton]; omega) (Nat.le_trans HNX.out.size (boxBelow _ _).size) ?_; intro v6 w6 hown6 hgrow6; have HOW6 := hide hown6; have HN6 := hide (grown_below (up HNX.out (boxBelow _ _)) hgrow6 (fun j hj => (HOW.out.lt j hj).1)); clear hown6 hgrow6)
            | fail)
          go_roundw
          case rel => exact ⟨t + 1, by omega, by go_num, by rw [Nm.upto_succ, HY.out]; exact HOW6.out, HN6.out⟩
          case measure => simp [intOf]; omega
        | some a =>
          rw [hmo] at HY c5
          have ho : Nm.oI (some a) = (a : Int) := rfl
          rw [ho] at c5
          rw [Option.isNone_some, if_neg (by simp)] at HY
          clear hmo ho
          go_wp2_with fail
          go_roundw
          case rel => exact ⟨t + 1, by omega, by go_num, by rw [Nm.upto_succ, HY.out, List.append_nil]; exact HOW.out, HNX.out⟩
          case measure => simp [intOf]; omega
      · have hsb : Nm.sameB s x.name = true := hb1
        rw [hsb, Bool.true_or, if_pos rfl] at HY
        have hul : ul < 16777216 := by
          rcases HUL.out with h | h
          · rw [HUT.out]; exact h
          · rw [HY.out] at h; cases h
        clear hsb
        go_wp2_with (first
          | (at_builtin; refine wpList_append_K (At := DgC) rfl _ _ 37 43 3 40 _ rfl Tryz.underlying37 infoDg (by decide) (by decide) (by decide) W1.heap.size _ _ rfl (HOW.out.below (boxBelow _ _)) _ _ [⟨1, ⟨#[]⟩, s⟩] rfl (OwnK.one _ _ rfl (DgC.one (d := ⟨1, ⟨#[]⟩, s⟩) rfl) rfl) (by have := HUT.out; simp only [List.length_singleton]; omega) (Nat.le_trans HNX.out.size (boxBelow _ _).size) ?_; intro v6 w6 hown6 hgrow6; have HOW6 := hide hown6; have HN6 := hide (grown_below (up HNX.out (boxBelow _ _)) hgrow6 (fun j hj => (HOW.out.lt j hj).1)); clear hown6 hgrow6)
          | fail)
        go_roundw
        case rel => exact ⟨t + 1, by omega, by go_num, by rw [Nm.upto_succ, HY.out]; exact HOW6.out, HN6.out⟩
        case measure => simp [intOf]; omega
    · have hje : t = ni := by omega
      rw [hje] at HOW
      obtain ⟨a9, c9, rfl⟩ := hown.form
      have HO2 := HOW
      rw [hje] at HO2 ⊢
      generalize (Nm.upto G ni).length = nu at *
      clear hown hje hnx
      go_wp2_with fail
      go_ret
      exact ⟨_, rfl, HO2.out.old HB0.out.size, up HB0.out HNX.out⟩

end Go.Proofs.YtbncnkfogkhoeaaGreatDoor
