/- Walks over package downref: Target answers what a call means. -/
import Derived.Test.YtholefgckcoklaaGreatDoorBZAG
namespace Go.Proofs.YtholefgckcoklaaGreatDoor
open Go.RowKit
namespace Nm
theorem tgt_here {x : Mo} {k : Nat} {call : ByteArray} {known : List Mo} {i : Nat} (hd : Lat.dotAt call = none) (hf : fnAt x.funs call k = some i) : tgt x k call known = (-1, (i : Int), true) := by simp [tgt, hd, hf]
theorem tgt_here0 {x : Mo} {k : Nat} {call : ByteArray} {known : List Mo} (hd : Lat.dotAt call = none) (hf : fnAt x.funs call k = none) : tgt x k call known = (-1, 0, false) := by simp [tgt, hd, hf]
theorem tgt_notI {x : Mo} {k : Nat} {call : ByteArray} {known : List Mo} {d : Nat} (hd : Lat.dotAt call = some d) (hi : decide (0 ≤ Lat.indexI x.imports (Lat.preS call)) = false) : tgt x k call known = (0, 0, false) := by
  have := of_decide_eq_false hi
  simp [tgt, hd, this]
theorem tgt_noM {x : Mo} {k : Nat} {call : ByteArray} {known : List Mo} {d : Nat} (hd : Lat.dotAt call = some d) (hi : decide (0 ≤ Lat.indexI x.imports (Lat.preS call)) = true) (hm : moAt known (Lat.preS call) = none) : tgt x k call known = (0, 0, false) := by
  have := of_decide_eq_true hi
  simp [tgt, hd, this, hm]
theorem tgt_fn {x y : Mo} {k : Nat} {call : ByteArray} {known : List Mo} {d i j : Nat} (hd : Lat.dotAt call = some d) (hi : decide (0 ≤ Lat.indexI x.imports (Lat.preS call)) = true) (hm : moAt known (Lat.preS call) = some i) (hy : known[i]? = some y)
    (hf : fnAt y.funs (Lat.sufS call) y.funs.length = some j) : tgt x k call known = ((i : Int), (j : Int), true) := by
  have := of_decide_eq_true hi
  simp [tgt, hd, this, hm, hy, hf]
theorem tgt_nofn {x y : Mo} {k : Nat} {call : ByteArray} {known : List Mo} {d i : Nat} (hd : Lat.dotAt call = some d) (hi : decide (0 ≤ Lat.indexI x.imports (Lat.preS call)) = true) (hm : moAt known (Lat.preS call) = some i) (hy : known[i]? = some y)
    (hf : fnAt y.funs (Lat.sufS call) y.funs.length = none) : tgt x k call known = ((i : Int), 0, false) := by
  have := of_decide_eq_true hi
  simp [tgt, hd, this, hm, hy, hf]
end Nm
theorem boxN1 (w : World) (c0 c1 c2 c3 : Value) (t : TypeId) : (w.alloc (.cells #[c0, c1, c2, c3] t)).cell? ⟨w.heap.size, 1, none⟩ = some c1 := by simp [go_sem]
theorem boxN3 (w : World) (c0 c1 c2 c3 : Value) (t : TypeId) : (w.alloc (.cells #[c0, c1, c2, c3] t)).cell? ⟨w.heap.size, 3, none⟩ = some c3 := by simp [go_sem]
theorem ret_t3 {P : Prop} {R : Int × Int × Bool} {a b : Int} {c : Bool} (h : R = (a, b, c)) (hb : P) : (Ending.returned (.tuple #[.int .i64 a, .int .i64 b, .bool c]) = Ending.returned (.tuple #[.int .i64 R.1, .int .i64 R.2.1, .bool R.2.2])) ∧ P := by
  subst h; exact ⟨rfl, hb⟩
set_option maxHeartbeats 4000000 in
set_option maxRecDepth 100000 in
theorem rtarget_any (m : Nat) (w : World) (v vk : Value) (x : Mo) (k : Nat) (call : ByteArray) (known : List Mo) (h : MoAt w m v x) (hk : k ≤ x.funs.length) (hc : call.size ≤ maxLen) (hK : MosAt w m vk known) :
    Calls Tryz.prog 16 #[v, .int .i64 k, .string call, vk] w fun e w' => e = .returned (.tuple #[.int .i64 (Nm.tgt x k call known).1, .int .i64 (Nm.tgt x k call known).2.1, .bool (Nm.tgt x k call known).2.2]) ∧ Below w.heap.size w w' := by
  obtain ⟨vi, vv, vf, rfl, hnm, hI, hV, hF⟩ := h
  have HI := hide hI
  obtain ⟨ai, bi, oi, ci, rfl, hI'⟩ := hI
  obtain ⟨av, bv, ov, cv, rfl, hV'⟩ := hV
  obtain ⟨af, bf, of, cf, rfl, haf, hlf, hcf⟩ := hF
  obtain ⟨ak, bk, ok, ck, rfl, hak, hlk, hck⟩ := hK
  have HCF := hide hcf
  have HCK := hide hck
  have HAF := hide haf
  have HAK := hide hak
  have HCUT : Hid (∀ w, Calls Tryz.prog 62 #[.string call] w fun e w' => e = .returned (.tuple #[.string (Lat.preS call), .string (Lat.sufS call), .bool (Lat.dotAt call).isSome]) ∧ Below w.heap.size w w') := fun w => cutDot_any w call hc
  obtain ⟨ni, hni⟩ : ∃ n, n = x.imports.length := ⟨_, rfl⟩
  obtain ⟨nv, hnv⟩ : ∃ n, n = x.vars.length := ⟨_, rfl⟩
  obtain ⟨nf, hnf⟩ : ∃ n, n = x.funs.length := ⟨_, rfl⟩
  obtain ⟨nk, hnk⟩ : ∃ n, n = known.length := ⟨_, rfl⟩
  have HNF := hide hnf
  have HNK := hide hnk
  rw [← hni, ← hnv, ← hnf, ← hnk]
  rw [← hni] at HI
  rw [← hnf] at hk hlf HAF
  rw [← hnk] at hlk HAK
  clear haf hak hcf hck hI' hV' hni hnv hnf hnk hnm hc
  have q1 := boxN1 w (.string x.name) (.slice ai ni ci) (.slice av nv cv) (.slice af nf cf) 26
  have q3 := boxN3 w (.string x.name) (.slice ai ni ci) (.slice av nv cv) (.slice af nf cf) 26
  have HB0 := hide (boxBelow w (.cells #[.string x.name, .slice ai ni ci, .slice av nv cv, .slice af nf cf] 26))
  cases hd : Lat.dotAt call with
  | none =>
    have HPS : Hid (Lat.preS call = call) := hide (by simp [Lat.preS, hd])
    rw [hd] at HCUT
    have HD := hide hd
    clear hd
    obtain ⟨R, hR⟩ : ∃ R, R = Nm.tgt x k call known := ⟨_, rfl⟩
    have HR := hide hR
    rw [← hR]
    clear hR
    rw [HPS.out] at HCUT
    generalize Lat.sufS call = suf at *
    go_enter Tryz.func16, Tryz.ntmps16
    go_wp2_with fail
    refine (HCUT.out _).mono ?_
    rintro e w1 ⟨rfl, hb1⟩
    replace q3 := cellUp q3 hb1
    have HB1 := hide (up HB0.out hb1)
    clear hb1 q1
    go_wp2_with fail
    go_loop [14] (fun i => ∃ j : Nat, j ≤ k ∧ i = .int .i64 j ∧ ∀ d g, d < j → x.funs[d]? = some g → Nm.sameB g.name call = false) (fun i => k - (intOf i).toNat)
    case atStart => exact ⟨0, Nat.zero_le _, rfl, fun d g hd => absurd hd (Nat.not_lt_zero _)⟩
    case round =>
      obtain ⟨j, hj, rfl, hall⟩ := hrel
      have HA := hide hall
      clear hall
      by_cases hlt : j < k
      · obtain ⟨f, hf⟩ : ∃ f, x.funs[j]? = some f := ⟨_, List.getElem?_eq_getElem (by have := HNF.out; omega)⟩
        have HF := hide hf
        obtain ⟨hfn, vp, vb, e0, e1, e2, e3, g0, -⟩ := HCF.out j f hf
        obtain rfl := HAF.out (by omega)
        have c0 := cellUp g0 HB1.out
        clear hf g0
        cases hh : (f.name.toList == call.toList)
        · have HH := hide hh
          go_wp2
          go_round
          case rel => exact ⟨j + 1, by omega, by go_num, fun d g hd hg => by
              by_cases e : d = j
              · subst e; rw [HF.out] at hg; cases hg; exact HH.out
              · exact HA.out d g (by omega) hg⟩
          case measure => simp [intOf]; omega
        · have HH := hide hh
          go_wp2
          go_ret3
          exact ret_t3 (by rw [HR.out]; exact Nm.tgt_here HD.out (Nm.fnAt_hit hlt HF.out HH.out HA.out)) HB1.out
      · go_wp2
        go_ret3
        exact ret_t3 (by rw [HR.out]; exact Nm.tgt_here0 HD.out (Nm.fnAt_none fun d g hd hg => HA.out d g (by omega) hg)) HB1.out
  | some dd =>
    rw [hd] at HCUT
    have HD := hide hd
    clear hd
    obtain ⟨R, hR⟩ : ∃ R, R = Nm.tgt x k call known := ⟨_, rfl⟩
    have HR := hide hR
    rw [← hR]
    clear hR
    obtain ⟨pre, hpre⟩ : ∃ s, s = Lat.preS call := ⟨_, rfl⟩
    obtain ⟨suf, hsuf⟩ : ∃ s, s = Lat.sufS call := ⟨_, rfl⟩
    have HP := hide hpre
    have HS := hide hsuf
    rw [← hpre, ← hsuf] at HCUT
    clear hpre hsuf
    go_enter Tryz.func16, Tryz.ntmps16
    go_wp2_with fail
    refine (HCUT.out _).mono ?_
    rintro e w1 ⟨rfl, hb1⟩
    replace q1 := cellUp q1 hb1
    have HB1 := hide (up HB0.out hb1)
    clear hb1 q3
    go_wp2_with fail
    refine (containsS_any w1 _ x.imports pre (HI.out.below HB1.out)).mono ?_
    rintro e w' ⟨rfl, hw'⟩
    subst hw'
    obtain ⟨is, his⟩ : ∃ c, c = decide (0 ≤ Lat.indexI x.imports pre) := ⟨_, rfl⟩
    have HIS := hide his
    rw [← his]
    clear his
    cases is
    · go_wp2
      go_ret3
      exact ret_t3 (by rw [HR.out]; exact Nm.tgt_notI HD.out (by rw [← HP.out]; exact HIS.out.symm)) HB1.out
    · go_wp2_with fail
      go_loop [15] (fun i => ∃ j : Nat, j ≤ nk ∧ i = .int .i64 j ∧ ∀ d g, d < j → known[d]? = some g → Nm.sameB g.name pre = false) (fun i => nk - (intOf i).toNat)
      case atStart => exact ⟨0, Nat.zero_le _, rfl, fun d g hd => absurd hd (Nat.not_lt_zero _)⟩
      case round =>
        obtain ⟨j, hj, rfl, hall⟩ := hrel
        have HA := hide hall
        clear hall
        by_cases hlt : j < nk
        · obtain ⟨y, hy⟩ : ∃ y, known[j]? = some y := ⟨_, List.getElem?_eq_getElem (by have := HNK.out; omega)⟩
          have HY := hide hy
          obtain ⟨yi, yv, yf, g0, g1, g2, g3, hm⟩ := HCK.out j y hy
          obtain rfl := HAK.out (by omega)
          have c0 := cellUp g0 HB1.out
          have c3 := cellUp g3 HB1.out
          obtain ⟨zi, zv, zf, hz, -, -, -, hzf⟩ := hm
          injection hz with hz
          injection hz with hz
          injection hz with _ hz
          injection hz with _ hz
          injection hz with _ hz
          injection hz with hz _
          subst hz
          obtain ⟨ay, bY, oy, cy, rfl, hay, hly, hcy⟩ := hzf
          obtain ⟨ny, hny⟩ : ∃ n, n = y.funs.length := ⟨_, rfl⟩
          have HNY := hide hny
          have HCY := hide hcy
          rw [← hny] at hay hly c3
          have HAY := hide hay
          clear hy g0 g1 g2 g3 hny hcy hay
          cases hh : (y.name.toList == pre.toList)
          · have HH := hide hh
            go_wp2
            go_round
            case rel => exact ⟨j + 1, by omega, by go_num, fun d g hd hg => by
                by_cases e : d = j
                · subst e; rw [HY.out] at hg; cases hg; exact HH.out
                · exact HA.out d g (by omega) hg⟩
            case measure => simp [intOf]; omega
          · have HM : Hid (Nm.moAt known pre = some j) := hide (Nm.moAt_hit HY.out hh HA.out)
            go_wp2
            go_loop [16] (fun i => ∃ t : Nat, t ≤ ny ∧ i = .int .i64 t ∧ ∀ d g, d < t → y.funs[d]? = some g → Nm.sameB g.name suf = false) (fun i => ny - (intOf i).toNat)
            case atStart => exact ⟨0, Nat.zero_le _, rfl, fun d g hd => absurd hd (Nat.not_lt_zero _)⟩
            case round =>
              obtain ⟨t, ht, rfl, hall⟩ := hrel
              have HAT := hide hall
              clear hall
              by_cases hlt2 : t < ny
              · obtain ⟨f, hf⟩ : ∃ f, y.funs[t]? = some f := ⟨_, List.getElem?_eq_getElem (by have := HNY.out; omega)⟩
                have HF := hide hf
                obtain ⟨hfn, vp, vb, e0, e1, e2, e3, g0, -⟩ := HCY.out t f hf
                obtain rfl := HAY.out (by omega)
                have c7 := cellUp g0 HB1.out
                clear hf g0
                cases hh2 : (f.name.toList == suf.toList)
                · have HH := hide hh2
                  go_wp2
                  go_round
                  case rel => exact ⟨t + 1, by omega, by go_num, fun d g hd hg => by
                      by_cases e : d = t
                      · subst e; rw [HF.out] at hg; cases hg; exact HH.out
                      · exact HAT.out d g (by omega) hg⟩
                  case measure => simp [intOf]; omega
                · have HH := hide hh2
                  go_wp2
                  go_ret3
                  exact ret_t3 (by rw [HR.out]; exact Nm.tgt_fn HD.out (by rw [← HP.out]; exact HIS.out.symm) (by rw [← HP.out]; exact HM.out) HY.out (Nm.fnAt_hit (by rw [← HNY.out]; exact hlt2) HF.out (by rw [← HS.out]; exact HH.out) (by rw [← HS.out]; exact HAT.out))) HB1.out
              · go_wp2
                go_ret3
                exact ret_t3 (by rw [HR.out]; exact Nm.tgt_nofn HD.out (by rw [← HP.out]; exact HIS.out.symm) (by rw [← HP.out]; exact HM.out) HY.out (Nm.fnAt_none fun d g hd hg => by rw [← HS.out]; exact HAT.out d g (by have := HNY.out; omega) hg)) HB1.out
        · go_wp2
          go_ret3
          exact ret_t3 (by rw [HR.out]; exact Nm.tgt_noM HD.out (by rw [← HP.out]; exact HIS.out.symm) (Nm.moAt_none fun d g hg => by rw [← HP.out]; exact HA.out d g (by have := (List.getElem?_eq_some_iff.1 hg).1; have := HNK.out; omega) hg)) HB1.out
end Go.Proofs.YtholefgckcoklaaGreatDoor
namespace Go.Proofs.YtholefgckcoklaaGreatDoor
open Go.RowKit
set_option maxHeartbeats 1000000 in
theorem joined_any (w : World) (v : Value) (n a b : Nat) (Z : Nat → Nat → Bool) (hG : Grid w v n Z) (hn : n ≤ 6) (ha : a < n) (hb : b < n) :
    Calls Tryz.prog 249 #[v, .int .i64 a, .int .i64 b] w fun e w' => e = .returned (.tuple #[.int .i64 (Lat.joinN Z n a b : Nat), .int .i64 (Lat.joinE Z n a b)]) ∧ w' = w := by
  have hG' := hG
  obtain ⟨gb, go, gc, RB, RO, C, rfl, h1, h2⟩ := hG
  have HG : Hid (Grid w (.slice (some ⟨gb, go, none⟩) n gc) n Z) := hG'
  clear hG'
  have ra := h1 a ha
  have rb := h1 b hb
  go_enter Tryz.func249, Tryz.ntmps249
  go_wp2
  go_loop [11] (fun i => ∃ k : Nat, k ≤ n ∧ i = .int .i64 k ∧ ∀ d, d < k → Lat.joinP Z n a b d = false) (fun i => n - (intOf i).toNat)
  case atStart => exact ⟨0, Nat.zero_le _, rfl, fun d hd => absurd hd (Nat.not_lt_zero _)⟩
  case round =>
    obtain ⟨k, hk, rfl, hall⟩ := hrel
    have HA : Hid (∀ d, d < k → Lat.joinP Z n a b d = false) := hall
    clear hall
    by_cases hlt : k < n
    · have ca := h2 a k ha hlt
      have cb := h2 b k hb hlt
      clear h1 h2
      cases za : Z a k
      · rw [za] at ca
        go_wp2
        go_round
        case rel => exact ⟨k + 1, by omega, by go_num, fun d hd => by
            by_cases e : d = k
            · subst e; simp [Lat.joinP, za]
            · exact HA.out d (by omega)⟩
        case measure => simp [intOf]; omega
      · rw [za] at ca
        cases zb : Z b k
        · rw [zb] at cb
          go_wp2
          go_round
          case rel => exact ⟨k + 1, by omega, by go_num, fun d hd => by
              by_cases e : d = k
              · subst e; simp [Lat.joinP, zb]
              · exact HA.out d (by omega)⟩
          case measure => simp [intOf]; omega
        · rw [zb] at cb
          go_wp2_with fail
          refine (belowBounds_any w _ n a b k Z HG.out hn ha hb hlt).mono ?_
          rintro e w' ⟨rfl, rfl⟩
          cases zc : Lat.belowB Z n a b k
          · go_wp2
            go_round
            case rel => exact ⟨k + 1, by omega, by go_num, fun d hd => by
                by_cases e : d = k
                · subst e; simp [Lat.joinP, zc]
                · exact HA.out d (by omega)⟩
            case measure => simp [intOf]; omega
          · go_wp2
            go_ret2
            have hj : Lat.joinO Z n a b = some k := Lat.find_hit hlt HA.out (by simp [Lat.joinP, za, zb, zc])
            exact ⟨ret_two (by simp [Lat.joinN, hj]) (by simp [Lat.joinE, hj]), rfl⟩
    · go_wp2
      go_ret2
      have hj : Lat.joinO Z n a b = none := Lat.find_none (fun d hd => HA.out d (by omega))
      exact ⟨ret_two (by simp [Lat.joinN, hj]) (by simp [Lat.joinE, hj]), rfl⟩
theorem joinE_of {Z : Nat → Nat → Bool} {n a b : Nat} : Lat.joinE Z n a b = if Lat.joinsP Z n a b then 0 else 5 := rfl
set_option maxHeartbeats 1000000 in
theorem hasJoins_any (w : World) (v : Value) (n : Nat) (Z : Nat → Nat → Bool) (hG : Grid w v n Z) (hn : n ≤ 6) :
    Calls Tryz.prog 189 #[v] w fun e w' => e = .returned (.bool (Lat.joinsB Z n)) ∧ w' = w := by
  have HG : Hid (Grid w v n Z) := hG
  obtain ⟨gb, go, gc, RB, RO, C, rfl, h1, h2⟩ := hG
  clear h1 h2
  go_enter Tryz.func189, Tryz.ntmps189
  go_wp2
  go_loop [9] (fun i => ∃ k : Nat, k ≤ n ∧ i = .int .i64 k ∧ ∀ d, d < k → (List.range d).all (Lat.joinsP Z n d) = true) (fun i => n - (intOf i).toNat)
  case atStart => exact ⟨0, Nat.zero_le _, rfl, fun d hd => absurd hd (Nat.not_lt_zero _)⟩
  case round =>
    obtain ⟨k, hk, rfl, hall⟩ := hrel
    have HA : Hid (∀ d, d < k → (List.range d).all (Lat.joinsP Z n d) = true) := hall
    clear hall
    by_cases hlt : k < n
    · go_wp2
      go_loop [13] (fun i => ∃ m : Nat, m ≤ k ∧ i = .int .i64 m ∧ ∀ d, d < m → Lat.joinsP Z n k d = true) (fun i => k - (intOf i).toNat)
      case atStart => exact ⟨0, Nat.zero_le _, rfl, fun d hd => absurd hd (Nat.not_lt_zero _)⟩
      case round =>
        obtain ⟨m, hm, rfl, hall⟩ := hrel
        have HB : Hid (∀ d, d < m → Lat.joinsP Z n k d = true) := hall
        clear hall
        by_cases hml : m < k
        · go_wp2_with fail
          refine (joined_any w _ n k m Z HG.out hn hlt (by omega)).mono ?_
          rintro e w' ⟨rfl, rfl⟩
          rw [joinE_of]
          cases zj : Lat.joinsP Z n k m
          · rw [if_neg (by simp)]
            go_wp2
            go_ret
            exact ⟨ret_bool (Lat.all_false hlt (Lat.all_false hml zj)).symm, rfl⟩
          · rw [if_pos rfl]
            go_wp2
            go_round
            case rel => exact ⟨m + 1, by omega, by go_num, fun d hd => by
                by_cases e : d = m
                · subst e; exact zj
                · exact HB.out d (by omega)⟩
            case measure => simp [intOf]; omega
        · go_wp2
          go_round
          case rel => exact ⟨k + 1, by omega, by go_num, fun d hd => by
              by_cases e : d = k
              · subst e; exact Lat.all_true (fun c hc => HB.out c (by omega))
              · exact HA.out d (by omega)⟩
          case measure => simp [intOf]; omega
    · go_wp2
      go_ret
      exact ⟨ret_bool (Lat.all_true (fun d hd => HA.out d (by omega))).symm, rfl⟩
set_option maxHeartbeats 1000000 in
theorem isOrder_any (w : World) (v : Value) (n : Nat) (Z : Nat → Nat → Bool) (hG : Grid w v n Z) (hn : n ≤ 6) :
    Calls Tryz.prog 188 #[v] w fun e w' => e = .returned (.bool (Lat.orderB Z n)) ∧ w' = w := by
  have HG : Hid (Grid w v n Z) := hG
  obtain ⟨gb, go, gc, RB, RO, C, rfl, h1, h2⟩ := hG
  go_enter Tryz.func188, Tryz.ntmps188
  go_wp2
  go_loop [7] (fun i => ∃ k : Nat, k ≤ n ∧ i = .int .i64 k ∧ ∀ d, d < k → Lat.orderP Z n d = true) (fun i => n - (intOf i).toNat)
  case atStart => exact ⟨0, Nat.zero_le _, rfl, fun d hd => absurd hd (Nat.not_lt_zero _)⟩
  case round =>
    obtain ⟨k, hk, rfl, hall⟩ := hrel
    have HA : Hid (∀ d, d < k → Lat.orderP Z n d = true) := hall
    clear hall
    by_cases hlt : k < n
    · have ra := h1 k hlt
      have caa := h2 k k hlt hlt
      cases zkk : Z k k
      · rw [zkk] at caa
        go_wp2
        go_ret
        exact ⟨ret_bool (Lat.all_false hlt (by simp [Lat.orderP, zkk])).symm, rfl⟩
      · rw [zkk] at caa
        go_wp2
        clear caa
        go_loop [20] (fun i => ∃ m : Nat, m ≤ n ∧ i = .int .i64 m ∧ ∀ d, d < m → Lat.orderR Z n k d = true) (fun i => n - (intOf i).toNat)
        case atStart => exact ⟨0, Nat.zero_le _, rfl, fun d hd => absurd hd (Nat.not_lt_zero _)⟩
        case round =>
          obtain ⟨m, hm, rfl, hall⟩ := hrel
          have HB : Hid (∀ d, d < m → Lat.orderR Z n k d = true) := hall
          clear hall
          by_cases hml : m < n
          · have cab := h2 k m hlt hml
            cases zkm : Z k m
            · rw [zkm] at cab
              go_wp2
              go_round
              case rel => exact ⟨m + 1, by omega, by go_num, fun d hd => by
                  by_cases e : d = m
                  · subst e; simp [Lat.orderR, zkm]
                  · exact HB.out d (by omega)⟩
              case measure => simp [intOf]; omega
            · rw [zkm] at cab
              go_wp2_with fail
              refine (fits_any w _ n k m Z HG.out hn hlt hml).mono ?_
              rintro e w' ⟨rfl, rfl⟩
              cases zf : Lat.fitsB Z n k m
              · go_wp2
                go_ret
                exact ⟨ret_bool (Lat.all_false hlt (by unfold Lat.orderP; rw [Lat.all_false hml (by simp [Lat.orderR, zkm, zf])]; simp)).symm, rfl⟩
              · go_wp2
                go_round
                case rel => exact ⟨m + 1, by omega, by go_num, fun d hd => by
                    by_cases e : d = m
                    · subst e; simp [Lat.orderR, zf]
                    · exact HB.out d (by omega)⟩
                case measure => simp [intOf]; omega
          · go_wp2
            go_round
            case rel => exact ⟨k + 1, by omega, by go_num, fun d hd => by
                by_cases e : d = k
                · subst e; unfold Lat.orderP; rw [zkk, Lat.all_true (fun c hc => HB.out c (by omega))]; rfl
                · exact HA.out d (by omega)⟩
            case measure => simp [intOf]; omega
    · go_wp2
      go_ret
      exact ⟨ret_bool (Lat.all_true (fun d hd => HA.out d (by omega))).symm, rfl⟩
end Go.Proofs.YtholefgckcoklaaGreatDoor
