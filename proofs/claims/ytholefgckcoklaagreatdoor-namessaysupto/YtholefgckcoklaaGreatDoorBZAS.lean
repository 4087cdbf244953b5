/- Walks over package names: what a call means there. -/
import Derived.Test.YtholefgckcoklaaGreatDoorBZAR
import Derived.Test.YtholefgckcoklaaGreatDoorBZAJ
namespace Go.Proofs.YtholefgckcoklaaGreatDoor
open Go.RowKit
namespace Nm
def ptgt (x : Mo) (k : Nat) (call : ByteArray) (known : List Mo) : Int × Int × Bool :=
  match Lat.dotAt call with
  | none => fnd (-1) x.funs call k
  | some _ => if Lat.indexI x.imports (Lat.preS call) < 0 then (0, 0, false) else
    match moAt known (x.imports.getD (Lat.indexI x.imports (Lat.preS call)).toNat ByteArray.empty) with
    | none => (0, 0, false)
    | some a => fnd a ((known[a]?.map (·.funs)).getD []) (Lat.sufS call) ((known[a]?.map (·.funs)).getD []).length
theorem ptgt_noM {x : Mo} {k : Nat} {call : ByteArray} {known : List Mo} {d i : Nat} (hd : Lat.dotAt call = some d) (hi : Lat.indexI x.imports (Lat.preS call) = (i : Int)) (hm : moAt known (x.imports.getD i ByteArray.empty) = none) : ptgt x k call known = (0, 0, false) := by
  unfold ptgt
  rw [hd]
  simp only
  rw [if_neg (by rw [hi]; omega), hi, Int.toNat_natCast, hm]
theorem ptgt_fn {x y : Mo} {k : Nat} {call : ByteArray} {known : List Mo} {d i a : Nat} (hd : Lat.dotAt call = some d) (hi : Lat.indexI x.imports (Lat.preS call) = (i : Int)) (hm : moAt known (x.imports.getD i ByteArray.empty) = some a) (hy : known[a]? = some y) : ptgt x k call known = fnd a y.funs (Lat.sufS call) y.funs.length := by
  unfold ptgt
  rw [hd]
  simp only
  rw [if_neg (by rw [hi]; omega), hi, Int.toNat_natCast, hm]
  simp only [hy, Option.map_some, Option.getD_some]
theorem moAt_lt {l : List Mo} {s : ByteArray} {a : Nat} (h : moAt l s = some a) : ∃ y, l[a]? = some y ∧ sameB y.name s = true := by
  unfold moAt at h
  have h1 := List.find?_some h
  cases hy : l[a]? with
  | none => rw [hy] at h1; simp at h1
  | some y => rw [hy] at h1; exact ⟨y, rfl, h1⟩
end Nm
theorem box6 (w : World) (c0 c1 c2 c3 c4 c5 : Value) (t : TypeId) (i : Nat) (v : Value) (h : (#[c0, c1, c2, c3, c4, c5] : Array Value)[i]? = some v) : (w.alloc (.cells #[c0, c1, c2, c3, c4, c5] t)).cell? ⟨w.heap.size, i, none⟩ = some v :=
  (block_at (block_new w (.cells #[c0, c1, c2, c3, c4, c5] t)) i).trans h
theorem ret_t3' {P : Prop} {R R' : Int × Int × Bool} (h : R = R') (hb : P) : (Ending.returned (.tuple #[.int .i64 R.1, .int .i64 R.2.1, .bool R.2.2]) = Ending.returned (.tuple #[.int .i64 R'.1, .int .i64 R'.2.1, .bool R'.2.2])) ∧ P := by
  subst h; exact ⟨rfl, hb⟩
theorem idx_cases (l : List ByteArray) (s : ByteArray) : Lat.indexI l s = -1 ∨ ∃ i : Nat, Lat.indexI l s = i ∧ i < l.length := by
  unfold Lat.indexI
  cases h : (List.range l.length).find? (Lat.isAt l s) with
  | none => exact Or.inl rfl
  | some i => exact Or.inr ⟨i, rfl, List.mem_range.1 (List.mem_of_find?_eq_some h)⟩
structure ScV (w : World) (m : Nat) (x : Mo) (known : List Mo) (vi vv vf vk va : Value) : Prop where
  mo : MoAt w m (.agg #[.string x.name, vi, vv, vf]) x
  kn : MosAt w m vk known
  ats : Ints w va (x.imports.map fun s => Nm.oI (Nm.moAt known s))
  cap : ∀ a n c, vf = .slice a n c → n ≤ c
theorem ScV.below {w w' : World} {m : Nat} {x : Mo} {known : List Mo} {vi vv vf vk va : Value} (h : ScV w m x known vi vv vf vk va) (hb : Below w.heap.size w w') : ScV w' m x known vi vv vf vk va :=
  ⟨h.mo.below hb, h.kn.below hb, h.ats.below hb, h.cap⟩
theorem MoAt.split {w : World} {m : Nat} {x : Mo} {vi vv vf : Value} (h : MoAt w m (.agg #[.string x.name, vi, vv, vf]) x) : Strs w vi x.imports ∧ VasAt w vv x.vars ∧ FusAt w m vf x.funs := by
  obtain ⟨vi', vv', vf', hz, hnm, hI, hV, hF⟩ := h
  injection hz with hz
  injection hz with hz
  injection hz with _ hz
  injection hz with hz1 hz
  injection hz with hz2 hz
  injection hz with hz3 _
  subst hz1 hz2 hz3
  exact ⟨hI, hV, hF⟩
set_option maxHeartbeats 1000000 in
set_option maxRecDepth 100000 in
theorem starget_any (m : Nat) (w : World) (x : Mo) (known : List Mo) (vi vv vf vk va : Value) (k : Nat) (call : ByteArray) (h : ScV w m x known vi vv vf vk va) (hk : k ≤ x.funs.length) (hc : call.size ≤ maxLen) :
    Calls Tryz.prog 61 #[.agg #[.string x.name, vi, vv, vf, vk, va], .int .i64 k, .string call] w fun e w' => e = .returned (.tuple #[.int .i64 (Nm.ptgt x k call known).1, .int .i64 (Nm.ptgt x k call known).2.1, .bool (Nm.ptgt x k call known).2.2]) ∧ Below w.heap.size w w' := by
  obtain ⟨hI, hV, hF⟩ := h.mo.split
  have hK := h.kn
  have hA := h.ats
  have HI := hide hI
  have HFC := hide h.cap
  obtain ⟨ai, bi, oi, ci, rfl, -⟩ := hI
  obtain ⟨av, bv, ov, cv, rfl, -⟩ := hV
  obtain ⟨af, bf, of, cf, rfl, haf, hlf, hcf⟩ := hF
  obtain ⟨ak, bk, ok, ck, rfl, hak, hlk, hck⟩ := hK
  have hcap := h.cap _ _ _ rfl
  have HEF : Hid (FuEl w m bf of x.funs) := hcf
  have HAF := hide haf
  have HAK := hide hak
  have HCK := hide hck
  obtain ⟨aa, ba, oa, ca, rfl, haa, hla, hca⟩ := hA
  have HAA := hide haa
  have HCA := hide hca
  obtain ⟨R, hR⟩ : ∃ R, R = Nm.ptgt x k call known := ⟨_, rfl⟩
  have HR := hide hR
  rw [← hR]
  have HCUT : Hid (∀ w, Calls Tryz.prog 139 #[.string call, .string ⟨#[46]⟩] w fun e w' => e = .returned (.tuple #[.string (Lat.preS call), .string (Lat.sufS call), .bool (Lat.dotAt call).isSome]) ∧ Below w.heap.size w w') := fun w => cut_any w call hc
  obtain ⟨ni, hni⟩ : ∃ n, n = x.imports.length := ⟨_, rfl⟩
  obtain ⟨nf, hnf⟩ : ∃ n, n = x.funs.length := ⟨_, rfl⟩
  obtain ⟨nk, hnk⟩ : ∃ n, n = known.length := ⟨_, rfl⟩
  have hla' : (x.imports.map fun s => Nm.oI (Nm.moAt known s)).length = ni := by rw [List.length_map, hni]
  rw [hla'] at hla HAA ⊢
  have HNF := hide hnf
  have HNK := hide hnk
  have HNI := hide hni
  rw [← hni] at HI
  rw [← hnf] at hcap hk hlf HAF
  rw [← hnk] at hlk HAK
  rw [← hni, ← hnf, ← hnk]
  generalize x.vars.length = nv at *
  have HBX := fun i v h => box6 w (.string x.name) (.slice ai ni ci) (.slice av nv cv) (.slice af nf cf) (.slice ak nk ck) (.slice aa ni ca) 122 i v h
  have q1 := HBX 1 _ rfl
  have q3 := HBX 3 _ rfl
  have q4 := HBX 4 _ rfl
  have q5 := HBX 5 _ rfl
  have HB0 := hide (boxBelow w (.cells #[.string x.name, .slice ai ni ci, .slice av nv cv, .slice af nf cf, .slice ak nk ck, .slice aa ni ca] 122))
  clear HBX haf hak hcf hck haa hca hni hnf hnk hla' hR h
  cases hd : Lat.dotAt call with
  | none =>
    rw [hd] at HCUT
    have HD := hide hd
    clear hd
    generalize Lat.sufS call = suf at *
    generalize Lat.preS call = pre at *
    go_enter Tryz.func61, Tryz.ntmps61
    go_wp2_with fail
    refine (HCUT.out _).mono ?_
    rintro e w1 ⟨rfl, hb1⟩
    replace q3 := cellUp q3 hb1
    have HB1 := hide (up HB0.out hb1)
    clear hb1 q1 q4 q5
    go_wp2_with fail
    refine (nahead_any _ af nf cf k hk hcap).mono ?_
    rintro e w2 ⟨rfl, hw2⟩
    subst hw2
    go_wp2_with fail
    refine (found_any m _ af bf of cf k x.funs call (-1) (by rw [← HNF.out]; exact hk) (by rw [← HNF.out]; exact hlf) (fun h => HAF.out (by omega)) (HEF.out.below HB1.out)).mono ?_
    rintro e w3 ⟨rfl, hb3⟩
    have HB3 := hide (up HB1.out hb3)
    clear hb3
    go_wp2_with fail
    go_ret3
    exact ret_t3' (by rw [HR.out]; simp [Nm.ptgt, HD.out]) HB3.out
  | some dd =>
    rw [hd] at HCUT
    have HD := hide hd
    clear hd
    obtain ⟨suf, hsuf⟩ : ∃ s, s = Lat.sufS call := ⟨_, rfl⟩
    obtain ⟨pre, hpre⟩ : ∃ s, s = Lat.preS call := ⟨_, rfl⟩
    have HSU := hide hsuf
    have HPR := hide hpre
    rw [← hsuf, ← hpre] at HCUT
    clear hsuf hpre
    have HIX := hide (fun wx (hb : Below w.heap.size w wx) => indexS_any wx _ x.imports pre (HI.out.below hb))
    rcases idx_cases x.imports pre with hix | ⟨i, hi, hil⟩
    · rw [hix] at HIX
      have HXX := hide hix
      clear hix
      go_enter Tryz.func61, Tryz.ntmps61
      go_wp2_with fail
      refine (HCUT.out _).mono ?_
      rintro e w1 ⟨rfl, hb1⟩
      replace q1 := cellUp q1 hb1
      have HB1 := hide (up HB0.out hb1)
      clear hb1 q3 q4 q5
      go_wp2_with fail
      refine (HIX.out _ HB1.out).mono ?_
      rintro e w2 ⟨rfl, hw2⟩
      subst hw2
      go_wp2
      go_ret3
      exact ret_t3 (by rw [HR.out]; simp [Nm.ptgt, HD.out, ← HPR.out, HXX.out]) HB1.out
    · rw [hi] at HIX
      have HXX := hide hi
      rw [← HNI.out] at hil
      have haI := HAA.out (by omega)
      subst haI
      have c5 := HCA.out i (Nm.oI (Nm.moAt known (x.imports.getD i ByteArray.empty))) (by
        have hil' : i < x.imports.length := by rw [← HNI.out]; exact hil
        simp [List.getD_eq_getElem?_getD, hil'])
      clear hi
      cases hm : Nm.moAt known (x.imports.getD i ByteArray.empty) with
      | none =>
        rw [hm] at c5
        have HM := hide hm
        have ho : Nm.oI none = -1 := rfl
        rw [ho] at c5
        clear hm ho
        go_enter Tryz.func61, Tryz.ntmps61
        go_wp2_with fail
        refine (HCUT.out _).mono ?_
        rintro e w1 ⟨rfl, hb1⟩
        replace q1 := cellUp q1 hb1
        replace q5 := cellUp q5 hb1
        have HB1 := hide (up HB0.out hb1)
        replace c5 := cellUp c5 HB1.out
        clear hb1 q3 q4
        go_wp2_with fail
        refine (HIX.out _ HB1.out).mono ?_
        rintro e w2 ⟨rfl, hw2⟩
        subst hw2
        go_wp2
        go_ret3
        exact ret_t3 (by rw [HR.out]; exact Nm.ptgt_noM HD.out (by rw [← HPR.out]; exact HXX.out) HM.out) HB1.out
      | some a =>
        rw [hm] at c5
        have HM := hide hm
        have ho : Nm.oI (some a) = (a : Int) := rfl
        rw [ho] at c5
        obtain ⟨y, hy, -⟩ := Nm.moAt_lt hm
        have hak : a < nk := by have := (List.getElem?_eq_some_iff.1 hy).1; rw [HNK.out]; exact this
        obtain ⟨yi, yv, yf, g0, g1, g2, g3, hmy⟩ := HCK.out a y hy
        obtain ⟨-, -, hyF⟩ := hmy.split
        obtain ⟨ay, bY, oy, cy, rfl, hay, hly, hcy⟩ := hyF
        have HY := hide hy
        obtain ⟨ny, hny⟩ : ∃ n, n = y.funs.length := ⟨_, rfl⟩
        have HNY := hide hny
        have HFC := hide (fun wx (hb : Below w.heap.size w wx) => found_any m wx ay bY oy cy y.funs.length y.funs suf a (Nat.le_refl _) hly hay ((show FuEl w m bY oy y.funs from hcy).below hb))
        rw [← hny] at HFC g3
        have hkk := HAK.out (by omega)
        subst hkk
        obtain ⟨T, hT⟩ : ∃ T, T = Nm.fnd a y.funs suf ny := ⟨_, rfl⟩
        have HT := hide hT
        rw [← hT] at HFC
        clear hm ho hy hmy hay hly hcy g0 g1 g2 hny hT
        go_enter Tryz.func61, Tryz.ntmps61
        go_wp2_with fail
        refine (HCUT.out _).mono ?_
        rintro e w1 ⟨rfl, hb1⟩
        replace q1 := cellUp q1 hb1
        replace q4 := cellUp q4 hb1
        replace q5 := cellUp q5 hb1
        have HB1 := hide (up HB0.out hb1)
        replace c5 := cellUp c5 HB1.out
        replace g3 := cellUp g3 HB1.out
        clear hb1 q3
        go_wp2_with fail
        refine (HIX.out _ HB1.out).mono ?_
        rintro e w2 ⟨rfl, hw2⟩
        subst hw2
        go_wp2_with fail
        replace q4 := cell_gn q4
        replace q5 := cell_gn q5
        replace c5 := cell_gn c5
        replace g3 := cell_gn g3
        have HFG := hide (fun n os => HFC.out _ (up HB1.out (below_gn w2 n os)))
        refine wp_region_quiet_gn (by kernel_rfl) (by kernel_rfl) ?_
        repeat (quiet_step ((exact Calls.gn_of (HFG.out _ _))))
        refine wpQuiet_nil ?_
        intro _ hw'
        obtain ⟨⟨nq, osq⟩, hw''⟩ := hw'
        subst hw''
        have HB6 := hide (up HB1.out (below_gn w2 nq osq))
        go_wp2_with fail
        go_ret3
        exact ret_t3' (by rw [HT.out, HR.out, Nm.ptgt_fn HD.out (by rw [← HPR.out]; exact HXX.out) HM.out HY.out, HNY.out, HSU.out]) HB6.out
end Go.Proofs.YtholefgckcoklaaGreatDoor
namespace Go.Proofs.YtholefgckcoklaaGreatDoor
open Go.RowKit
namespace Nm
theorem fnAt_lt {l : List Fu} {s : ByteArray} {n i : Nat} (h : fnAt l s n = some i) : i < n ∧ ∃ f, l[i]? = some f := by
  unfold fnAt at h
  have h1 := List.find?_some h
  refine ⟨List.mem_range.1 (List.mem_of_find?_eq_some h), ?_⟩
  cases hy : l[i]? with
  | none => rw [hy] at h1; simp at h1
  | some y => exact ⟨y, rfl⟩
def pfun (x : Mo) (known : List Mo) (t : Int × Int × Bool) : Option Fu :=
  if t.1 = -1 then x.funs[t.2.1.toNat]? else known[t.1.toNat]?.bind fun y => y.funs[t.2.1.toNat]?
def code (x : Mo) (known : List Mo) (k : Nat) (name : ByteArray) (nargs : Nat) : Int :=
  if (ptgt x k name known).2.2 = false then 4 else match pfun x known (ptgt x k name known) with
    | some f => if f.params.length = nargs then 0 else 5
    | none => 0
theorem ptgt_true {x : Mo} {k : Nat} {call : ByteArray} {known : List Mo} (h : (ptgt x k call known).2.2 = true) :
    (∃ (i : Nat) (f : Fu), ptgt x k call known = (-1, (i : Int), true) ∧ x.funs[i]? = some f) ∨ (∃ (a : Nat) (y : Mo) (j : Nat) (f : Fu), ptgt x k call known = ((a : Int), (j : Int), true) ∧ known[a]? = some y ∧ y.funs[j]? = some f) := by
  cases hd : Lat.dotAt call with
  | none =>
    have e : ptgt x k call known = fnd (-1) x.funs call k := by simp [ptgt, hd]
    rw [e] at h ⊢
    unfold fnd at h ⊢
    cases hf : fnAt x.funs call k with
    | none => rw [hf] at h; simp at h
    | some i =>
      obtain ⟨_, f, hf'⟩ := fnAt_lt hf
      exact Or.inl ⟨i, f, rfl, hf'⟩
  | some d =>
    rcases idx_cases x.imports (Lat.preS call) with hi | ⟨i, hi, _⟩
    · have e : ptgt x k call known = (0, 0, false) := by simp [ptgt, hd, hi]
      rw [e] at h; simp at h
    · cases hm : moAt known (x.imports.getD i ByteArray.empty) with
      | none => rw [ptgt_noM hd hi hm] at h; simp at h
      | some a =>
        obtain ⟨y, hy, _⟩ := moAt_lt hm
        rw [ptgt_fn hd hi hm hy] at h ⊢
        unfold fnd at h ⊢
        cases hf : fnAt y.funs (Lat.sufS call) y.funs.length with
        | none => rw [hf] at h; simp at h
        | some j =>
          obtain ⟨_, f, hf'⟩ := fnAt_lt hf
          exact Or.inr ⟨a, y, j, f, rfl, hy, hf'⟩
end Nm
set_option maxHeartbeats 1000000 in
theorem sfuns_own (w : World) (c0 c1 c2 vf c4 c5 : Value) :
    Calls Tryz.prog 193 #[.agg #[c0, c1, c2, vf, c4, c5], .int .i64 (-1)] w fun e w' => e = .returned vf ∧ Below w.heap.size w w' := by
  have q3 := box6 w c0 c1 c2 vf c4 c5 122 3 _ rfl
  have HB0 := hide (boxBelow w (.cells #[c0, c1, c2, vf, c4, c5] 122))
  go_enter Tryz.func193, Tryz.ntmps193
  go_wp2
  go_ret
  exact ⟨rfl, HB0.out⟩
set_option maxHeartbeats 1000000 in
theorem sfuns_known (w : World) (c0 c1 c2 vf c5 vy : Value) (bk ok nk ck a : Nat) (ha : a < nk) (hc : w.cell? ⟨bk, ok + a * 4 + 3, none⟩ = some vy) :
    Calls Tryz.prog 193 #[.agg #[c0, c1, c2, vf, .slice (some ⟨bk, ok, none⟩) nk ck, c5], .int .i64 a] w fun e w' => e = .returned vy ∧ Below w.heap.size w w' := by
  have q4 := box6 w c0 c1 c2 vf (.slice (some ⟨bk, ok, none⟩) nk ck) c5 122 4 _ rfl
  have HB0 := hide (boxBelow w (.cells #[c0, c1, c2, vf, .slice (some ⟨bk, ok, none⟩) nk ck, c5] 122))
  replace hc := cellUp hc HB0.out
  have h1 : ((a : Int) == -1) = false := by simp
  go_enter Tryz.func193, Tryz.ntmps193
  go_wp2
  go_ret
  exact ⟨rfl, HB0.out⟩
set_option maxHeartbeats 2000000 in
set_option maxRecDepth 100000 in
theorem callCode_any (m m' : Nat) (w : World) (x : Mo) (known : List Mo) (vi vv vf vk va : Value) (k : Nat) (c0 c1 c2 c3 : Value) (y : Ex) (h : ScV w m x known vi vv vf vk va) (hk : k ≤ x.funs.length) (hE : ExAt w m' c0 c1 c2 c3 y) :
    Calls Tryz.prog 134 #[.agg #[.string x.name, vi, vv, vf, vk, va], .int .i64 k, .agg #[c0, c1, c2, c3]] w fun e w' => e = .returned (.int .i64 (Nm.code x known k y.name y.args.length)) ∧ Below w.heap.size w w' := by
  obtain ⟨mm, rfl⟩ : ∃ mm, m' = mm + 1 := by cases m' with
    | zero => exact False.elim hE
    | succ n => exact ⟨n, rfl⟩
  obtain ⟨rfl, rfl, rfl, hsz, -, -, ea, eb, eo, ec, rfl, -, hel, -⟩ := hE
  have HS := hide h
  obtain ⟨R, hR⟩ : ∃ R, R = Nm.code x known k y.name y.args.length := ⟨_, rfl⟩
  have HR := hide hR
  rw [← hR]
  have q5 := box6 w (.string x.name) vi vv vf vk va 122
  have HB0 := hide (boxBelow w (.cells #[.string x.name, vi, vv, vf, vk, va] 122))
  have u0 := cellUp (q5 0 _ rfl) (boxBelow _ (.cells #[.int .i64 y.kind, .int .i64 y.n, .string y.name, .slice ea y.args.length ec] 103))
  have u1 := cellUp (q5 1 _ rfl) (boxBelow _ (.cells #[.int .i64 y.kind, .int .i64 y.n, .string y.name, .slice ea y.args.length ec] 103))
  have u2 := cellUp (q5 2 _ rfl) (boxBelow _ (.cells #[.int .i64 y.kind, .int .i64 y.n, .string y.name, .slice ea y.args.length ec] 103))
  have u3' := cellUp (q5 3 _ rfl) (boxBelow _ (.cells #[.int .i64 y.kind, .int .i64 y.n, .string y.name, .slice ea y.args.length ec] 103))
  have u4' := cellUp (q5 4 _ rfl) (boxBelow _ (.cells #[.int .i64 y.kind, .int .i64 y.n, .string y.name, .slice ea y.args.length ec] 103))
  have u5 := cellUp (q5 5 _ rfl) (boxBelow _ (.cells #[.int .i64 y.kind, .int .i64 y.n, .string y.name, .slice ea y.args.length ec] 103))
  have z2 := boxD2 (w.alloc (.cells #[.string x.name, vi, vv, vf, vk, va] 122)) (.int .i64 y.kind) (.int .i64 y.n) (.string y.name) (.slice ea y.args.length ec) 103
  have z3 := boxN3 (w.alloc (.cells #[.string x.name, vi, vv, vf, vk, va] 122)) (.int .i64 y.kind) (.int .i64 y.n) (.string y.name) (.slice ea y.args.length ec) 103
  rw [World.size_alloc] at z2 z3
  have HB1 := hide (up HB0.out (boxBelow _ (.cells #[.int .i64 y.kind, .int .i64 y.n, .string y.name, .slice ea y.args.length ec] 103)))
  have HT := hide (fun wx (hb : Below w.heap.size w wx) => starget_any m wx x known vi vv vf vk va k y.name (HS.out.below hb) hk hsz)
  generalize y.args.length = na at *
  obtain ⟨hI, hV, hF⟩ := h.mo.split
  have hK := h.kn
  have hA := h.ats
  obtain ⟨ai, bi, oi, ci, rfl, -⟩ := hI
  obtain ⟨av, bv, ov, cv, rfl, -⟩ := hV
  obtain ⟨af, bf, of, cf, rfl, haf, hlf, hcf⟩ := hF
  obtain ⟨ak, bk, ok, ck, rfl, hak, hlk, hck⟩ := hK
  obtain ⟨aa, ba, oa, ca, rfl, -⟩ := hA
  generalize (x.imports.map fun s => Nm.oI (Nm.moAt known s)).length = nat at *
  generalize x.imports.length = ni at *
  generalize x.vars.length = nv at *
  have HCK := hide hck
  have HCF := hide hcf
  have HAF := hide haf
  have HAK := hide hak
  clear hR h q5 hck hcf haf hak
  cases ht : (Nm.ptgt x k y.name known).2.2
  · have HRE : Hid (R = 4) := hide (by rw [HR.out]; unfold Nm.code; rw [if_pos ht])
    rw [ht] at HT
    generalize (Nm.ptgt x k y.name known).1 = t1 at *
    generalize (Nm.ptgt x k y.name known).2.1 = t2 at *
    clear ht
    go_enter Tryz.func134, Tryz.ntmps134
    go_wp2_with fail
    refine (HT.out _ HB1.out).mono ?_
    rintro e w1 ⟨rfl, hb1⟩
    have HB2 := hide (up HB1.out hb1)
    clear hb1
    go_wp2_with fail
    go_ret
    exact ⟨by rw [HRE.out]; rfl, HB2.out⟩
  · rcases Nm.ptgt_true ht with ⟨i, f, he, hf⟩ | ⟨a, z, j, f, he, hz, hf⟩
    · rw [he] at HT
      have HRE : Hid (R = if f.params.length = na then 0 else 5) := hide (by
        rw [HR.out]; unfold Nm.code; rw [if_neg (by rw [ht]; simp), he]
        simp only [Nm.pfun, if_true, Int.toNat_natCast, hf])
      obtain ⟨-, vp, vb, e0, e1, e2, e3, g0, g1, -, -, -, -, -, hp, -⟩ := HCF.out i f hf
      obtain ⟨ap, bp, op, cp, rfl, -⟩ := hp
      have hil : i < x.funs.length := (List.getElem?_eq_some_iff.1 hf).1
      obtain rfl := HAF.out (by omega)
      generalize x.funs.length = nf at *
      generalize known.length = nk at *
      generalize f.params.length = np at *
      clear ht hf g0 he
      simp only at HT
      go_enter Tryz.func134, Tryz.ntmps134
      go_wp2_with fail
      refine (HT.out _ HB1.out).mono ?_
      rintro e w1 ⟨rfl, hb1⟩
      have HB2 := hide (up HB1.out hb1)
      replace u0 := cell_gn (cellUp u0 hb1)
      replace u1 := cell_gn (cellUp u1 hb1)
      replace u2 := cell_gn (cellUp u2 hb1)
      replace u3' := cell_gn (cellUp u3' hb1)
      replace u4' := cell_gn (cellUp u4' hb1)
      replace u5 := cell_gn (cellUp u5 hb1)
      replace z3 := cell_gn (cellUp z3 hb1)
      replace g1 := cell_gn (cellUp g1 HB2.out)
      clear hb1 z2
      have HFG := hide (fun n os => sfuns_own (gn w1 n os) (.string x.name) (.slice ai ni ci) (.slice av nv cv) (.slice (some ⟨bf, of, none⟩) nf cf) (.slice ak nk ck) (.slice aa nat ca))
      go_wp2_with fail
      refine wp_region_quiet_gn (by kernel_rfl) (by kernel_rfl) ?_
      repeat (quiet_step ((exact Calls.gn_of (HFG.out _ _))))
      refine wpQuiet_nil ?_
      intro _ hw'
      obtain ⟨⟨nq, osq⟩, hw''⟩ := hw'
      subst hw''
      have HB6 := hide (up HB2.out (below_gn w1 nq osq))
      by_cases hn : np = na
      · have hn' : ((np : Int) == (na : Int)) = true := by simp [hn]
        rw [if_pos hn] at HRE
        clear hn
        go_wp2_with fail
        go_ret
        exact ⟨by rw [HRE.out]; rfl, HB6.out⟩
      · have hn' : ((np : Int) == (na : Int)) = false := by simp; omega
        rw [if_neg hn] at HRE
        clear hn
        go_wp2_with fail
        go_ret
        exact ⟨by rw [HRE.out]; rfl, HB6.out⟩
    · rw [he] at HT
      have HRE : Hid (R = if f.params.length = na then 0 else 5) := hide (by
        rw [HR.out]; unfold Nm.code; rw [if_neg (by rw [ht]; simp), he]
        simp only [Nm.pfun, Int.toNat_natCast, hz, Option.bind_some, hf]
        rw [if_neg (by omega)])
      have hal : a < known.length := (List.getElem?_eq_some_iff.1 hz).1
      have hjl : j < z.funs.length := (List.getElem?_eq_some_iff.1 hf).1
      obtain rfl := HAK.out (by omega)
      obtain ⟨yi, yv, yf, k0, k1, k2, k3, hmz⟩ := HCK.out a z hz
      obtain ⟨-, -, hzF⟩ := hmz.split
      obtain ⟨az, bz, oz, cz, rfl, haz, hlz, hcz⟩ := hzF
      obtain ⟨-, vp, vb, e0, e1, e2, e3, g0, g1, -, -, -, -, -, hp, -⟩ := hcz j f hf
      obtain ⟨ap, bp, op, cp, rfl, -⟩ := hp
      obtain rfl := haz (by omega)
      generalize z.funs.length = nz at *
      generalize x.funs.length = nf at *
      generalize known.length = nk at *
      generalize f.params.length = np at *
      clear hmz hcz haz hz k0 k1 k2
      clear ht hf g0 he
      simp only at HT
      go_enter Tryz.func134, Tryz.ntmps134
      go_wp2_with fail
      refine (HT.out _ HB1.out).mono ?_
      rintro e w1 ⟨rfl, hb1⟩
      have HB2 := hide (up HB1.out hb1)
      replace u0 := cell_gn (cellUp u0 hb1)
      replace u1 := cell_gn (cellUp u1 hb1)
      replace u2 := cell_gn (cellUp u2 hb1)
      replace u3' := cell_gn (cellUp u3' hb1)
      replace u4' := cell_gn (cellUp u4' hb1)
      replace u5 := cell_gn (cellUp u5 hb1)
      replace z3 := cell_gn (cellUp z3 hb1)
      replace g1 := cell_gn (cellUp g1 HB2.out)
      clear hb1 z2
      have HFG := hide (fun n os => sfuns_known (gn w1 n os) (.string x.name) (.slice ai ni ci) (.slice av nv cv) (.slice af nf cf) (.slice aa nat ca) (.slice (some ⟨bz, oz, none⟩) nz cz) bk ok nk ck a hal (cell_gn (cellUp k3 HB2.out) n os))
      go_wp2_with fail
      refine wp_region_quiet_gn (by kernel_rfl) (by kernel_rfl) ?_
      repeat (quiet_step ((exact Calls.gn_of (HFG.out _ _))))
      refine wpQuiet_nil ?_
      intro _ hw'
      obtain ⟨⟨nq, osq⟩, hw''⟩ := hw'
      subst hw''
      have HB6 := hide (up HB2.out (below_gn w1 nq osq))
      by_cases hn : np = na
      · have hn' : ((np : Int) == (na : Int)) = true := by simp [hn]
        rw [if_pos hn] at HRE
        clear hn
        go_wp2_with fail
        go_ret
        exact ⟨by rw [HRE.out]; rfl, HB6.out⟩
      · have hn' : ((np : Int) == (na : Int)) = false := by simp; omega
        rw [if_neg hn] at HRE
        clear hn
        go_wp2_with fail
        go_ret
        exact ⟨by rw [HRE.out]; rfl, HB6.out⟩
end Go.Proofs.YtholefgckcoklaaGreatDoor
