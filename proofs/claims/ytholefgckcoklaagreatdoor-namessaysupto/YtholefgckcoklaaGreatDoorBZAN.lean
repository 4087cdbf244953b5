/- Walks over slices.Insert of diagnostics: no room. -/
import Derived.Test.YtholefgckcoklaaGreatDoorBZAM
import Derived.Lib.AppendZeros
namespace Go.Proofs.YtholefgckcoklaaGreatDoor
open Go.RowKit
theorem zero_size (z : Array Value) (n : Nat) : (Builtin.zeroCells z n).size = n * z.size := by simp [Builtin.zeroCells]
theorem grow_zeros (w : World) (g len cap i : Nat) (cur : List Value) (hg : w.heap[g]? = some (.cells cur.toArray 43 (0, 0))) (hcur : cur.length = cap * 3) (hlen : len ≤ 16777216) (hi : i < len) (hl : len ≤ cap) (hr : cap < len + 1) :
    ∃ (G : Nat) (R : List Value) (W1 : World), (∀ ty, (Builtin.append_ #[37, 3] ty #[.slice (some ⟨g, 0, none⟩) i cap, .int .i64 ((len : Int) + 1 - (i : Int))]).run Tryz.prog w = .ok (.slice (some ⟨w.heap.size, 0, none⟩) (len + 1) G) W1) ∧
      len + 1 ≤ G ∧ G ≤ maxLen ∧ R.length = G * 3 ∧ R.take (i * 3) = cur.take (i * 3) ∧ W1.heap[w.heap.size]? = some (.cells R.toArray 43 (0, 0)) ∧ Below w.heap.size w W1 := by
  obtain ⟨iS, hiS, hz0, hz1, hz2⟩ := info_parts infoDg
  have hkk : (len : Int) + 1 - (i : Int) = ((len + 1 - i : Nat) : Int) := by omega
  have hik : i + (len + 1 - i) = len + 1 := by omega
  have hold : (Builtin.firstCells iS.size i (.slice (some ⟨g, 0, none⟩) i cap)).run Tryz.prog w.drew = .ok (cur.take (i * 3)).toArray w.drew := by
    rw [hz1]
    exact run_firstCells_some w.drew 3 i ⟨g, 0, none⟩ i cap (cur.take (i * 3)) (by rw [List.length_take]; omega) (fun j v hj => by
      rw [Addr.add_lit, Nat.zero_add]
      rw [List.getElem?_take] at hj
      split at hj
      · exact (block_at (w := w) hg j).trans (by simpa using hj)
      · cases hj)
  have h := fun ty => Lib.run_append_grow_zeros w 37 3 ty 43 iS _ .i64 .i64 Tryz.underlying37 Tryz.underlying3 hiS hz0 (some ⟨g, 0, none⟩) i cap (cur.take (i * 3)) hold (len + 1 - i) (by omega) (by omega) (by omega) (by omega) (by rw [hz2]; omega) (by rw [hz2, hik]; exact growslice_fits hr (by omega))
  rw [hik] at h
  obtain ⟨G, hG⟩ : ∃ G, G = grownCap w (len + 1) cap 43 := ⟨_, rfl⟩
  have hGn : len + 1 ≤ G := by rw [hG]; exact grownCap_ge w _ _ _
  have hG63 : G ≤ maxLen := by
    rw [hG]
    exact grownCap_le_maxLen w (len + 1) cap 43 (by unfold maxLen; omega)
  rw [← hG] at h
  obtain ⟨Z1, hZ1⟩ : ∃ Z, Z = Builtin.zeroCells (Value.agg #[Value.int IntKind.i64 0, Value.string ⟨#[]⟩, Value.string ⟨#[]⟩]).cells (len + 1 - i) := ⟨_, rfl⟩
  obtain ⟨Z2, hZ2⟩ : ∃ Z, Z = Builtin.zeroCells (Value.agg #[Value.int IntKind.i64 0, Value.string ⟨#[]⟩, Value.string ⟨#[]⟩]).cells (G - (len + 1)) := ⟨_, rfl⟩
  have hs1 : Z1.size = (len + 1 - i) * 3 := by rw [hZ1, zero_size]; rfl
  have hs2 : Z2.size = (G - (len + 1)) * 3 := by rw [hZ2, zero_size]; rfl
  rw [← hZ1, ← hZ2] at h
  have hR : (cur.take (i * 3)).toArray ++ Z1 ++ Z2 = (cur.take (i * 3) ++ Z1.toList ++ Z2.toList).toArray := by
    apply Array.ext'
    simp
  rw [hR] at h
  refine ⟨G, cur.take (i * 3) ++ Z1.toList ++ Z2.toList, _, fun ty => (congrArg (fun q => (Builtin.append_ #[37, 3] ty #[.slice (some ⟨g, 0, none⟩) i cap, .int .i64 q]).run Tryz.prog w) hkk).trans (h ty), hGn, hG63, ?_, ?_, block_new w.drew _, up (drewBelow (Below.refl _ _) 1) (boxBelow _ _)⟩
  · have e1 : Z1.toList.length = (len + 1 - i) * 3 := by rw [Array.length_toList]; exact hs1
    have e2 : Z2.toList.length = (G - (len + 1)) * 3 := by rw [Array.length_toList]; exact hs2
    rw [List.length_append, List.length_append, List.length_take, e1, e2]
    omega
  · rw [List.append_assoc, List.take_append_of_le_length (by rw [List.length_take]; omega), List.take_take, Nat.min_self]
set_option maxHeartbeats 4000000 in
set_option maxRecDepth 100000 in
theorem insert_grow (w : World) (g B len cap i : Nat) (cur : List Value) (c0 c1 c2 : Value) (hg : w.heap[g]? = some (.cells cur.toArray 43 (0, 0))) (hB : w.heap[B]? = some (.cells #[c0, c1, c2] 43 (0, 0))) (hcur : cur.length = cap * 3) (hlen : len ≤ 16777216) (hi : i < len) (hl : len ≤ cap) (hr : cap < len + 1)
    (h1 : ∀ u ∈ cur.take (len * 3), u.oneCell' = true) (h1c : ∀ u ∈ [c0, c1, c2], u.oneCell' = true) :
    Calls Tryz.prog 123 #[.slice (some ⟨g, 0, none⟩) len cap, .int .i64 i, .slice (some ⟨B, 0, none⟩) 1 1] w fun e w' => ∃ G R, e = .returned (.slice (some ⟨w.heap.size, 0, none⟩) (len + 1) G) ∧ len + 1 ≤ G ∧ G ≤ maxLen ∧ R.length = G * 3 ∧ R.take (i * 3) = cur.take (i * 3) ∧
      w'.heap[w.heap.size]? = some (.cells (splice (splice R (i * 3) [c0, c1, c2]) ((i + 1) * 3) ((cur.drop (i * 3)).take ((len - i) * 3))).toArray 43 (0, 0)) ∧ Below w.heap.size w w' := by
  have hz2 : ¬ ((i : Int) = (len : Int)) := by omega
  obtain ⟨G, R, W1, hrz, hGn, hG63, hRl, hRt, hW1, hbW⟩ := grow_zeros w g len cap i cur hg hcur hlen hi hl hr
  have hG63' : G ≤ 9223372036854775807 := by unfold maxLen at hG63; omega
  have hglt := block_lt hg
  have hBlt := block_lt hB
  obtain ⟨C1, hC1⟩ : ∃ C1, C1 = (cur.drop (i * 3)).take ((len - i) * 3) := ⟨_, rfl⟩
  have HC1 := hide hC1
  have HL1 : Hid (C1.length = (len - i) * 3) := hide (by rw [hC1, List.length_take, List.length_drop]; omega)
  have HS1 : Hid (∀ (j : Nat) v, C1[j]? = some v → cur[i * 3 + j]? = some v) := hide (fun j v hj => by
    rw [hC1, List.getElem?_take] at hj
    split at hj
    · rwa [List.getElem?_drop] at hj
    · cases hj)
  have HO1 : Hid (∀ u ∈ C1, u.oneCell' = true) := hide (fun u hu => by
    obtain ⟨j, hj⟩ := List.mem_iff_getElem?.1 hu
    refine h1 u (List.mem_of_getElem? (i := i * 3 + j) ?_)
    have hjl := (List.getElem?_eq_some_iff.1 hj).1
    rw [HL1.out] at hjl
    rw [List.getElem?_take, if_pos (by omega)]
    exact HS1.out j u hj)
  have HG1 : Hid (W1.heap[g]? = some (.cells cur.toArray 43 (0, 0))) := hide (by rw [hbW.block g hglt]; exact hg)
  have HB1 : Hid (W1.heap[B]? = some (.cells #[c0, c1, c2] 43 (0, 0))) := hide (by rw [hbW.block B hBlt]; exact hB)
  have HNB : Hid (B ≠ w.heap.size) := hide (by omega)
  have HNG : Hid (g ≠ w.heap.size) := hide (by omega)
  have HH := hide hW1
  have HBW := hide hbW
  have HRL := hide hRl
  have HRT := hide hRt
  have H1C := hide h1c
  have HG63 := hide hG63
  have HN5 : Hid ([c0, c1, c2].length = Nat.min 1 (len + 1 - i) * 3) := hide (by
    have : Nat.min 1 (len + 1 - i) = 1 := by simp only [Nat.min_def]; split <;> omega
    rw [this]; rfl)
  have HS5 : Hid (∀ (j : Nat) v, [c0, c1, c2][j]? = some v → W1.cell? ((⟨B, 0, none⟩ : Addr).add j) = some v) := hide (fun j v hj => by rw [Addr.add_lit, Nat.zero_add]; exact (block_at HB1.out j).trans (by simpa using hj))
  have HF5 : Hid (i * 3 + [c0, c1, c2].length ≤ R.length) := hide (by rw [HRL.out]; show i * 3 + 3 ≤ _; omega)
  have HL4 : Hid ((splice R (i * 3) [c0, c1, c2]).length = G * 3) := hide (by rw [length_splice _ _ _ HF5.out]; exact hRl)
  clear hC1 hg hB hcur h1 h1c hW1 hbW hRl hRt hG63 hglt hBlt
  generalize hH : w.heap.size = H at *
  have hb4 : ¬ (cap = i) := by omega
  have hb6 : ¬ (G = i) := by omega
  have hb5 : ¬ (G = i + 1) := by omega
  have hw1 : IntKind.i64.wrap ((i : Int) + 1) = (i : Int) + 1 := by rw [IntKind.wrap_i64]; omega
  have hb1 : (0 : Int) ≤ (i : Int) + 1 := by omega
  have hin : i ≤ len := by omega
  have hb3 : (i : Int) ≤ (len : Int) := by omega
  have htn : ((i : Int) + 1).toNat = i + 1 := by omega
  clear hH
  go_enter Tryz.func123, Tryz.ntmps123
  go_wp2_with (first
    | (at_builtin; refine Lib.wpList_append_run _ rfl (.tmp 34) (.tmp 39) 37 3 rfl _ _ rfl rfl _ _ (hrz _) ?_)
    | (refine wpList_copyK rfl (.tmp 43) (.tmp 44) 37 37 43 3 rfl Tryz.underlying37 sizeDg H (i * 3) (len + 1 - i) (G - i) ⟨B, 0, none⟩ 1 1 rfl rfl R 43 HH.out [c0, c1, c2] HN5.out HS5.out HF5.out H1C.out ?_; intro w5 r5 HG5 HB5))
  have HG5' := hide (HB5.out.at HNG.out HG1.out)
  generalize hS4 : splice R (i * 3) [c0, c1, c2] = S4 at *
  go_region_law (refine step_copyK rfl (.tmp 50) (.tmp 53) 37 37 43 3 rfl Tryz.underlying37 sizeDg H ((i + 1) * 3) (len - i) (G - (i + 1)) ⟨g, i * 3, none⟩ (len - i) (cap - i) (by simp [Act.eval, Act.put]) (by simp [Act.eval, Act.put]) S4 43 HG5.out C1 (by rw [HL1.out]; congr 1; simp only [Nat.min_def]; split <;> omega) (fun j v hj => by rw [Addr.add_lit]; exact (block_at HG5'.out _).trans (by simpa using HS1.out j v hj)) (by rw [HL1.out, HL4.out]; omega) HO1.out ?_; intro w6 r6 HG6 HB6)
  go_wp2
  go_ret
  refine ⟨G, R, rfl, hGn, HG63.out, HRL.out, HRT.out, ?_, ?_⟩
  · rw [HG6.out, hS4, HC1.out]
  · have s1 := block_lt HH.out
    have s2 := HB5.out.size
    have b5 : Below H W1 w5 := HB5.out.below (Nat.le_refl H) (Nat.le_of_lt s1)
    have b6 : Below H w5 w6 := ⟨HB6.out.os, HB6.out.tape, HB6.out.output, HB6.out.size, fun k hk => HB6.out.block k (show k < w5.heap.size by omega) (by omega)⟩
    exact (HBW.out.trans b5).trans b6
end Go.Proofs.YtholefgckcoklaaGreatDoor
namespace Go.Proofs.YtholefgckcoklaaGreatDoor
open Go.RowKit
theorem take_flat {k : Nat} : ∀ (cs : List (List Value)) (i : Nat), (∀ c ∈ cs, c.length = k) → (cs.take i).flatten = cs.flatten.take (i * k) ∧ (cs.drop i).flatten = cs.flatten.drop (i * k)
  | [], i, _ => by simp
  | c :: cs, 0, _ => by simp
  | c :: cs, i + 1, h => by
    have hc : c.length = k := h c (by simp)
    obtain ⟨h1, h2⟩ := take_flat cs i (fun d hd => h d (by simp [hd]))
    have e : (i + 1) * k = c.length + i * k := by rw [hc, Nat.succ_mul, Nat.add_comm]
    constructor
    · rw [List.take_succ_cons, List.flatten_cons, List.flatten_cons, e, List.take_append, h1, show List.take (c.length + i * k) c = c from List.take_of_length_le (by omega), Nat.add_sub_cancel_left]
    · rw [List.drop_succ_cons, List.flatten_cons, e, List.drop_append, h2, show List.drop (c.length + i * k) c = [] from List.drop_eq_nil_of_le (by omega), Nat.add_sub_cancel_left, List.nil_append]
theorem insRow_take (cur : List Value) (len i cap : Nat) (c : List Value) (hc : c.length = 3) (hcur : cur.length = cap * 3) (hi : i < len) (hr : len + 1 ≤ cap) :
    (insRow cur len i c).take ((len + 1) * 3) = cur.take (i * 3) ++ (c ++ (cur.drop (i * 3)).take ((len - i) * 3)) := by
  obtain ⟨C1, hC1⟩ : ∃ C1, C1 = (cur.drop (i * 3)).take ((len - i) * 3) := ⟨_, rfl⟩
  have hl : C1.length = (len - i) * 3 := by rw [hC1, List.length_take, List.length_drop]; omega
  unfold insRow
  rw [← hC1]
  have e1 : (splice cur ((i + 1) * 3) C1).take (i * 3) = cur.take (i * 3) := by
    unfold splice
    rw [List.take_append_of_le_length (by rw [List.length_take]; omega), List.take_take, Nat.min_eq_left (by omega)]
  have e2 : (splice cur ((i + 1) * 3) C1).drop (i * 3 + 3) = C1 ++ cur.drop ((i + 1) * 3 + C1.length) := by
    unfold splice
    rw [List.drop_append, List.drop_eq_nil_of_le (by rw [List.length_take]; omega), List.nil_append, List.length_take]
    have : i * 3 + 3 - min ((i + 1) * 3) cur.length = 0 := by omega
    rw [this, List.drop_zero]
  rw [splice, hc, e1, e2, ← List.append_assoc, ← List.append_assoc, ← List.append_assoc, List.take_append_of_le_length (by
    rw [List.length_append, List.length_append, List.length_take, hl, hc]; omega), List.take_of_length_le (by
    rw [List.length_append, List.length_append, List.length_take, hl, hc]; omega), List.append_assoc]
theorem insNew_take (cur R : List Value) (len i cap G : Nat) (c : List Value) (hc : c.length = 3) (hcur : cur.length = cap * 3) (hi : i < len) (hl : len ≤ cap) (hG : len + 1 ≤ G) (hR : R.length = G * 3) (ht : R.take (i * 3) = cur.take (i * 3)) :
    (splice (splice R (i * 3) c) ((i + 1) * 3) ((cur.drop (i * 3)).take ((len - i) * 3))).take ((len + 1) * 3) = cur.take (i * 3) ++ (c ++ (cur.drop (i * 3)).take ((len - i) * 3)) := by
  obtain ⟨C1, hC1⟩ : ∃ C1, C1 = (cur.drop (i * 3)).take ((len - i) * 3) := ⟨_, rfl⟩
  have hl : C1.length = (len - i) * 3 := by rw [hC1, List.length_take, List.length_drop]; omega
  rw [← hC1]
  have e1 : (splice R (i * 3) c).take ((i + 1) * 3) = cur.take (i * 3) ++ c := by
    unfold splice
    rw [← List.append_assoc, List.take_append_of_le_length (by rw [List.length_append, List.length_take, hc]; omega), List.take_of_length_le (by rw [List.length_append, List.length_take, hc]; omega), ht]
  rw [splice, e1, ← List.append_assoc, List.take_append_of_le_length (by
    rw [List.length_append, List.length_append, List.length_take, hl, hc]; omega), List.take_of_length_le (by
    rw [List.length_append, List.length_append, List.length_take, hl, hc]; omega), List.append_assoc]
theorem insert_own {w' : World} {n g cap : Nat} {l : List Dg} {cs : List (List Value)} {c : List Value} {d : Dg} {i : Nat} {nw cur : List Value} (hi : i < l.length) (hcs : cs.length = l.length) (hk : ∀ c ∈ cs, c.length = 3 ∧ ∀ u ∈ c, u.oneCell' = true) (hat : ∀ (j : Nat) c y, cs[j]? = some c → l[j]? = some y → DgC c y)
    (hfl : cur.take (l.length * 3) = cs.flatten) (hc : c.length = 3) (h1 : ∀ u ∈ c, u.oneCell' = true) (hd : DgC c d) (hg : n ≤ g) (hw : w'.heap[g]? = some (.cells nw.toArray 43 (0, 0))) (hcap : l.length + 1 ≤ cap) (hm : cap ≤ maxLen) (hnl : nw.length = cap * 3)
    (hnw : nw.take ((l.length + 1) * 3) = cur.take (i * 3) ++ (c ++ (cur.drop (i * 3)).take ((l.length - i) * 3))) : OwnK DgC w' n 43 3 (.slice (some ⟨g, 0, none⟩) (l.length + 1) cap) (l.take i ++ ([d] ++ l.drop i)) := by
  obtain ⟨t1, t2⟩ := take_flat cs i (fun c hc => (hk c hc).1)
  have hlen : (l.take i ++ ([d] ++ l.drop i)).length = l.length + 1 := by simp; omega
  have hfl' : (cs.take i ++ ([c] ++ cs.drop i)).flatten = nw.take ((l.length + 1) * 3) := by
    rw [hnw, List.flatten_append, List.flatten_append, t1, t2, ← hfl, List.take_take, Nat.min_eq_left (by omega), List.drop_take]
    have : l.length * 3 - i * 3 = (l.length - i) * 3 := by omega
    rw [this]; simp
  refine ⟨cs.take i ++ ([c] ++ cs.drop i), ?_, by simp [hcs], fun b hb => ?_, fun j b y hb hy => ?_, fun h => by simp at h⟩
  · rw [hlen, hfl']
    refine ⟨by rw [List.length_take, hnl]; omega, Or.inr ⟨g, cap, nw.toArray, rfl, hg, hw, hcap, hm, by simpa using hnl, by simp⟩⟩
  · rcases List.mem_append.1 hb with hb | hb
    · exact hk b (List.mem_of_mem_take hb)
    · rcases List.mem_append.1 hb with hb | hb
      · rw [List.mem_singleton] at hb; subst hb; exact ⟨hc, h1⟩
      · exact hk b (List.mem_of_mem_drop hb)
  · have hti : (cs.take i).length = i := by rw [List.length_take]; omega
    have htl : (l.take i).length = i := by rw [List.length_take]; omega
    by_cases hj : j < i
    · rw [List.getElem?_append_left (by omega), List.getElem?_take, if_pos hj] at hb
      rw [List.getElem?_append_left (by omega), List.getElem?_take, if_pos hj] at hy
      exact hat j b y hb hy
    · rw [List.getElem?_append_right (by omega), hti] at hb
      rw [List.getElem?_append_right (by omega), htl] at hy
      rcases Nat.eq_zero_or_pos (j - i) with e | e
      · rw [e] at hb hy
        simp at hb hy
        subst hb hy
        exact hd
      · rw [List.getElem?_append_right (by simp only [List.length_singleton]; omega), List.getElem?_drop] at hb hy
        simp only [List.length_singleton] at hb hy
        exact hat _ b y hb hy
set_option maxHeartbeats 4000000 in
set_option maxRecDepth 100000 in
theorem insert_end (w : World) (n B : Nat) (v : Value) (l : List Dg) (d : Dg) (h : OwnK DgC w n 43 3 v l) (hB : w.heap[B]? = some (.cells #[.int .i64 d.code, .string d.fn, .string d.name] 43 (0, 0))) (hl : l.length < 16777216) (hn : n ≤ w.heap.size) :
    Calls Tryz.prog 123 #[v, .int .i64 l.length, .slice (some ⟨B, 0, none⟩) 1 1] w fun e w' => ∃ v', e = .returned v' ∧ OwnK DgC w' n 43 3 v' (l ++ [d]) ∧ Below n w w' := by
  have HO := hide h
  have HS : Hid (OwnK DgC w B 43 3 (.slice (some ⟨B, 0, none⟩) 1 1) [d]) := hide ⟨[[.int .i64 d.code, .string d.fn, .string d.name]], ⟨by simp, Or.inr ⟨B, 1, _, rfl, Nat.le_refl _, hB, Nat.le_refl _, by decide, by simp, by simp⟩⟩, rfl, (fun c hc => by
    rw [List.mem_singleton] at hc; subst hc; exact ⟨rfl, DgC.one (d := d) rfl⟩), (fun j c y hc hy => by
    cases j with
    | zero => simp at hc hy; subst hc hy; rfl
    | succ j => simp at hc), fun e => by simp at e⟩
  rcases h.shape with ⟨rfl, rfl⟩ | ⟨g, cap, rfl, hcl, hng, hgl, hne⟩
  · go_enter Tryz.func123, Tryz.ntmps123
    go_wp2_with (first
      | (at_builtin; refine wpList_append_K (At := DgC) rfl (.tmp 23) (.tmp 24) 37 43 3 40 _ rfl Tryz.underlying37 infoDg (by decide) (by decide) (by decide) n (.slice none 0 0) _ rfl HO.out _ _ [d] rfl HS.out (by simp) hn ?_; intro v6 w6 hown6 hgrow6; have HO6 := hide hown6; have HG6 := hide hgrow6; clear hown6 hgrow6)
      | fail)
    go_ret
    exact ⟨_, rfl, HO6.out, ⟨HG6.out.os, HG6.out.tape, HG6.out.output, HG6.out.size, fun k hk => HG6.out.block k (by omega) (by simp [Value.ownBlock])⟩⟩
  · have hcm : cap ≤ 9223372036854775807 := by
      obtain ⟨_, ⟨_, h1⟩, _⟩ := h
      rcases h1 with ⟨e, _⟩ | ⟨g', cap', cur, e, _, _, _, hm, _⟩
      · simp at e
      · simp at e
        unfold maxLen at hm
        omega
    obtain ⟨len, hlen⟩ : ∃ len, len = l.length := ⟨_, rfl⟩
    have HLN := hide hlen
    rw [← hlen] at HO hcl hl ⊢
    clear hlen h
    go_enter Tryz.func123, Tryz.ntmps123
    go_wp2_with (first
      | (at_builtin; refine wpList_append_K (At := DgC) rfl (.tmp 23) (.tmp 24) 37 43 3 40 _ rfl Tryz.underlying37 infoDg (by decide) (by decide) (by decide) n (.slice (some ⟨g, 0, none⟩) len cap) _ rfl HO.out _ _ [d] rfl HS.out (by have := HLN.out; simp only [List.length_singleton]; omega) hn ?_; intro v6 w6 hown6 hgrow6; have HO6 := hide hown6; have HG6 := hide hgrow6; clear hown6 hgrow6)
      | fail)
    all_goals
      go_ret
      exact ⟨_, rfl, HO6.out, ⟨HG6.out.os, HG6.out.tape, HG6.out.output, HG6.out.size, fun k hk => HG6.out.block k (by omega) (by simp [Value.ownBlock]; omega)⟩⟩
theorem insert_any (w : World) (n B i : Nat) (v : Value) (l : List Dg) (d : Dg) (h : OwnK DgC w n 43 3 v l) (hi : i ≤ l.length) (hB : w.heap[B]? = some (.cells #[.int .i64 d.code, .string d.fn, .string d.name] 43 (0, 0))) (hne : v.ownBlock ≠ some B) (hl : l.length < 16777216) (hn : n ≤ w.heap.size) :
    Calls Tryz.prog 123 #[v, .int .i64 i, .slice (some ⟨B, 0, none⟩) 1 1] w fun e w' => ∃ v', e = .returned v' ∧ OwnK DgC w' n 43 3 v' (l.take i ++ ([d] ++ l.drop i)) ∧ Below n w w' := by
  by_cases he : i = l.length
  · subst he
    rw [List.take_length, List.drop_length, List.append_nil]
    exact insert_end w n B v l d h hB hl hn
  · have hlt : i < l.length := by omega
    obtain ⟨cs, ⟨h0, h1⟩, h2, h3, h4, h5⟩ := h
    have hone : ∀ u ∈ [Value.int .i64 d.code, .string d.fn, .string d.name], u.oneCell' = true := DgC.one (d := d) rfl
    rcases h1 with ⟨_, e⟩ | ⟨g, cap, cur, rfl, hg, hh, hc, hm, hs, ht⟩
    · omega
    · have hgB : B ≠ g := fun e => hne (by rw [e]; rfl)
      have hs' : cur.toList.length = cap * 3 := by simpa using hs
      have hcell : ∀ u ∈ cur.toList.take (l.length * 3), u.oneCell' = true := fun u hu => by
        rw [ht] at hu
        obtain ⟨c, hc', hu'⟩ := List.mem_flatten.1 hu
        exact (h3 c hc').2 u hu'
      have hh' : w.heap[g]? = some (.cells cur.toList.toArray 43 (0, 0)) := by rw [Array.toArray_toList]; exact hh
      by_cases hr : l.length + 1 ≤ cap
      · refine (insert_shift w g B l.length cap i cur.toList _ _ _ hh' hB hgB hs' (by unfold maxLen at hm; omega) hlt hr hcell hone).mono ?_
        rintro e w' ⟨rfl, hw, hb⟩
        refine ⟨_, rfl, insert_own hlt h2 h3 h4 ht rfl hone rfl hg hw hr hm ?_ (insRow_take _ _ _ cap _ rfl hs' hlt hr), hb.below hg hn⟩
        have e1 : (((cur.toList.drop (i * 3)).take ((l.length - i) * 3))).length = (l.length - i) * 3 := by rw [List.length_take, List.length_drop]; omega
        unfold insRow
        rw [length_splice _ _ _ (by rw [length_splice _ _ _ (by rw [e1]; omega)]; show i * 3 + 3 ≤ _; omega), length_splice _ _ _ (by rw [e1]; omega)]
        exact hs'
      · refine (insert_grow w g B l.length cap i cur.toList _ _ _ hh' hB hs' (by omega) hlt hc (by omega) hcell hone).mono ?_
        rintro e w' ⟨G, R, rfl, hG, hGm, hR, hRt, hw, hb⟩
        refine ⟨_, rfl, insert_own hlt h2 h3 h4 ht rfl hone rfl hn hw hG hGm ?_ (insNew_take _ _ _ _ cap G _ rfl hs' hlt hc hG hR hRt), hb.mono hn⟩
        have e1 : (((cur.toList.drop (i * 3)).take ((l.length - i) * 3))).length = (l.length - i) * 3 := by rw [List.length_take, List.length_drop]; omega
        have e2 : (splice R (i * 3) [Value.int .i64 d.code, .string d.fn, .string d.name]).length = G * 3 := by
          rw [length_splice _ _ _ (by show i * 3 + 3 ≤ _; omega)]; exact hR
        rw [length_splice _ _ _ (by rw [e1, e2]; omega)]
        exact e2
end Go.Proofs.YtholefgckcoklaaGreatDoor
namespace Go.Proofs.YtholefgckcoklaaGreatDoor
open Go.RowKit
def DgsAt (w : World) (v : Value) (l : List Dg) : Prop :=
  ∃ (a : Option Addr) (b off cap : Nat), v = .slice a l.length cap ∧ (0 < l.length → a = some ⟨b, off, none⟩) ∧ l.length ≤ 9223372036854775807 ∧
    ∀ i d, l[i]? = some d → w.cell? ⟨b, off + i * 3, none⟩ = some (.int .i64 d.code) ∧ w.cell? ⟨b, off + i * 3 + 1, none⟩ = some (.string d.fn) ∧ w.cell? ⟨b, off + i * 3 + 2, none⟩ = some (.string d.name)
theorem DgsAt.below {w w' : World} {v : Value} {l : List Dg} (h : DgsAt w v l) (hb : Below w.heap.size w w') : DgsAt w' v l := by
  obtain ⟨a, b, off, cap, e, h0, hl, h1⟩ := h
  refine ⟨a, b, off, cap, e, h0, hl, fun i d hd => ?_⟩
  obtain ⟨g0, g1, g2⟩ := h1 i d hd
  exact ⟨cellUp g0 hb, cellUp g1 hb, cellUp g2 hb⟩
theorem OwnK.dg {w : World} {n g cap : Nat} {l : List Dg} (h : OwnK DgC w n 43 3 (.slice (some ⟨g, 0, none⟩) l.length cap) l) {i : Nat} {d : Dg} (hd : l[i]? = some d) :
    w.cell? ⟨g, i * 3, none⟩ = some (.int .i64 d.code) ∧ w.cell? ⟨g, i * 3 + 1, none⟩ = some (.string d.fn) ∧ w.cell? ⟨g, i * 3 + 2, none⟩ = some (.string d.name) := by
  obtain ⟨c, hc, h1, h2⟩ := h.cell hd
  have h2' : c = [.int .i64 d.code, .string d.fn, .string d.name] := h2
  subst h2'
  exact ⟨h1 0 (by decide), h1 1 (by decide), h1 2 (by decide)⟩
theorem OwnK.dgs {w : World} {n : Nat} {v : Value} {l : List Dg} (h : OwnK DgC w n 43 3 v l) (hl : l.length ≤ 9223372036854775807) : DgsAt w v l := by
  have h0 := h
  rcases h.shape with ⟨rfl, rfl⟩ | ⟨g, cap, rfl, _⟩
  · exact ⟨none, 0, 0, 0, rfl, fun h => absurd h (by simp), by simp, fun i d hd => by simp at hd⟩
  · refine ⟨_, g, 0, cap, rfl, fun _ => rfl, hl, fun i d hd => ?_⟩
    rw [Nat.zero_add]
    exact h0.dg hd
namespace Nm
def sameD (a b : Dg) : Bool := (a.code == b.code) && (a.fn.toList == b.fn.toList) && (a.name.toList == b.name.toList)
def ins : List Dg → Dg → List Dg
  | [], d => [d]
  | x :: r, d => if aheadB x d then x :: ins r d else if sameD x d then x :: r else d :: x :: r
def once (l : List Dg) : List Dg := l.foldl ins []
theorem ins_len (l : List Dg) (d : Dg) : (ins l d).length ≤ l.length + 1 := by
  induction l with
  | nil => simp [ins]
  | cons x r ih =>
    unfold ins
    split
    · simp; omega
    · split <;> simp
theorem ins_end {l : List Dg} {d : Dg} (h : ∀ x ∈ l, aheadB x d = true) : ins l d = l ++ [d] := by
  induction l with
  | nil => rfl
  | cons x r ih =>
    unfold ins
    rw [if_pos (h x (by simp)), ih (fun y hy => h y (by simp [hy]))]
    rfl
theorem ins_at {l : List Dg} {d y : Dg} {i : Nat} (h : ∀ (j : Nat) x, j < i → l[j]? = some x → aheadB x d = true) (hy : l[i]? = some y) (hn : aheadB y d = false) : ins l d = if sameD y d then l else l.take i ++ ([d] ++ l.drop i) := by
  induction l generalizing i with
  | nil => simp at hy
  | cons x r ih =>
    cases i with
    | zero =>
      simp at hy
      subst hy
      unfold ins
      rw [if_neg (by rw [hn]; simp)]
      rfl
    | succ i =>
      unfold ins
      rw [if_pos (h 0 x (by omega) (by simp)), ih (i := i) (fun j z hj hz => h (j + 1) z (by omega) (by simpa using hz)) (by simpa using hy)]
      split <;> simp
end Nm
end Go.Proofs.YtholefgckcoklaaGreatDoor
namespace Go.Proofs.YtholefgckcoklaaGreatDoor
open Go.RowKit
theorem fold_succ {l : List Dg} {j : Nat} {d : Dg} (h : l[j]? = some d) : Nm.once (l.take (j + 1)) = Nm.ins (Nm.once (l.take j)) d := by
  unfold Nm.once
  rw [List.take_add_one, h]; simp
theorem once_len (l : List Dg) : (Nm.once l).length ≤ l.length := by
  have h : ∀ (l acc : List Dg), (l.foldl Nm.ins acc).length ≤ acc.length + l.length := by
    intro l
    induction l with
    | nil => intro acc; simp
    | cons x r ih =>
      intro acc
      have := ih (Nm.ins acc x)
      have := Nm.ins_len acc x
      simp only [List.foldl_cons, List.length_cons]
      omega
  simpa [Nm.once] using h l []
theorem OwnK.dg2 {w : World} {n len c : Nat} {a : Option Addr} {l : List Dg} (h : OwnK DgC w n 43 3 (.slice a len c) l) (hlen : len = l.length) {i : Nat} {d : Dg} (hd : l[i]? = some d) :
    ∃ g, a = some ⟨g, 0, none⟩ ∧ w.cell? ⟨g, i * 3, none⟩ = some (.int .i64 d.code) ∧ w.cell? ⟨g, i * 3 + 1, none⟩ = some (.string d.fn) ∧ w.cell? ⟨g, i * 3 + 2, none⟩ = some (.string d.name) := by
  subst hlen
  have h0 := h
  rcases h.shape with ⟨_, rfl⟩ | ⟨g, cap, e, _⟩
  · simp at hd
  · injection e with e1 e2 e3
    subst e1
    exact ⟨g, rfl, h0.dg hd⟩
end Go.Proofs.YtholefgckcoklaaGreatDoor
