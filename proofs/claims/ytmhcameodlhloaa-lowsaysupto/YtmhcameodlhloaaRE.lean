/- Walks over package downref, fifth part: turned: a lattice of the same names, with below what was above, its table made by appends. -/
import Derived.Test.YtmhcameodlhloaaRD
import Derived.Deep.OwnRows
import Derived.Laws.OwnMore
namespace Go.Proofs.Ytmhcameodlhloaa
open Go.RowKit

section
variable {w w' : World} {base e size n : Nat} {v : Value} {xs : List Value}

theorem own_belowR (h : w.ownsRow base e size v n xs) (hb : Below w.heap.size w w') : w'.ownsRow base e size v n xs := by
  obtain ⟨h1, h2⟩ := h
  refine ⟨h1, ?_⟩
  rcases h2 with h2 | ⟨g, cap, cur, hv, hg, hh, r⟩
  · exact Or.inl h2
  · refine Or.inr ⟨g, cap, cur, hv, hg, ?_, r⟩
    have hlt : g < w.heap.size := by
      rcases Nat.lt_or_ge g w.heap.size with h' | h'
      · exact h'
      · rw [Array.getElem?_eq_none h'] at hh; cases hh
    rw [hb.block g hlt]; exact hh
theorem own_base {base' : Nat} (h : w.ownsRow base e size v n xs) (hb : base' ≤ base) : w.ownsRow base' e size v n xs := by
  obtain ⟨h1, h2⟩ := h
  refine ⟨h1, ?_⟩
  rcases h2 with h2 | ⟨g, cap, cur, hv, hg, r⟩
  · exact Or.inl h2
  · exact Or.inr ⟨g, cap, cur, hv, by omega, r⟩
theorem own_neR {base' e' size' n' : Nat} {v' : Value} {xs' : List Value} (h : w.ownsRow base e size v n xs) (h' : w.ownsRow base' e' size' v' n' xs') (hne : e ≠ e') : v.ownBlock = none ∨ v.ownBlock ≠ v'.ownBlock := by
  rcases h.2 with ⟨rfl, _⟩ | ⟨g, cap, cur, rfl, _, hh, _⟩
  · exact Or.inl rfl
  · right
    intro e1
    rcases h'.2 with ⟨rfl, _⟩ | ⟨g', cap', cur', rfl, _, hh', _⟩
    · simp [Value.ownBlock] at e1
    · simp [Value.ownBlock] at e1
      subst e1
      rw [hh] at hh'
      simp at hh'
      exact hne hh'.2
theorem own_one (h : w.ownsRow base e size v n xs) : v.oneCell' = true := by
  rcases h.2 with ⟨rfl, _⟩ | ⟨g, cap, cur, rfl, _⟩ <;> rfl
theorem own_slice (h : w.ownsRow base e 1 v n xs) (hn : 0 < n) : ∃ g cap, v = .slice (some ⟨g, 0, none⟩) n cap ∧ ∀ j, j < n → w.cell? ⟨g, j, none⟩ = xs[j]? := by
  have h0 := h
  rcases h.2 with ⟨rfl, h1⟩ | ⟨g, cap, cur, rfl, _⟩
  · omega
  · exact ⟨g, cap, rfl, fun j hj => h0.cellAt j (by omega)⟩
end

theorem grid_of {w : World} {B n : Nat} {vo : Value} {vr : Nat → Value} {Z : Nat → Nat → Bool} (hn : 0 < n) (ho : w.ownsRow B 80 1 vo n ((List.range n).map vr))
    (hd : ∀ j, j < n → w.ownsRow B 4 1 (vr j) n ((List.range n).map fun c => .bool (Z j c))) : Grid w vo n Z := by
  obtain ⟨g, cap, rfl, hc⟩ := own_slice ho hn
  have each : ∀ j, ∃ p : Nat × Nat, j < n → vr j = .slice (some ⟨p.1, 0, none⟩) n p.2 ∧ ∀ c, c < n → w.cell? ⟨p.1, c, none⟩ = some (.bool (Z j c)) := by
    intro j
    by_cases hj : j < n
    · obtain ⟨g', cap', e', hc'⟩ := own_slice (hd j hj) hn
      refine ⟨(g', cap'), fun _ => ⟨e', fun c hcn => ?_⟩⟩
      rw [hc' c hcn]; simp [hcn]
    · exact ⟨(0, 0), fun h => absurd h hj⟩
  refine ⟨g, 0, cap, fun j => (Classical.choose (each j)).1, fun _ => 0, fun j => (Classical.choose (each j)).2, rfl, fun r hr => ?_, fun r c hr hcn => ?_⟩
  · rw [Nat.zero_add, hc r hr]
    have := (Classical.choose_spec (each r) hr).1
    simp only [List.getElem?_map, List.getElem?_range hr, Option.map_some]
    exact congrArg some this
  · rw [Nat.zero_add]
    exact (Classical.choose_spec (each r) hr).2 c hcn

def oF (vn vo : Value) : Nat → Value := fun i => if i = 0 then vn else vo

/-- k rows are made and lie in the table of out, whose own block is N + 2. -/
structure RO (W0 wr : World) (N n k : Nat) (vn : Value) (Z : Nat → Nat → Bool) (vr : Nat → Value) (vo : Value) : Prop where
  below : Below (N + 2) W0 wr
  size : N + 3 ≤ wr.heap.size
  out : wr.rowIs (N + 2) 25 2 (oF vn vo)
  outer : wr.ownsRow (N + 3) 80 1 vo k ((List.range k).map vr)
  done : ∀ j, j < k → wr.ownsRow (N + 3) 4 1 (vr j) n ((List.range n).map fun c => .bool (Z j c))

theorem below_trans2 {B : Nat} {a b c : World} (h : Below B a b) (h2 : Below b.heap.size b c) (hB : B ≤ b.heap.size) : Below B a c := h.trans (h2.mono hB)

theorem ro_grown {W0 wk wi : World} {N n k : Nat} {vn : Value} {Z : Nat → Nat → Bool} {vr : Nat → Value} {vo : Value} (h : RO W0 wk N n k vn Z vr vo) (hb : Below wk.heap.size wk wi) : RO W0 wi N n k vn Z vr vo := by
  have hs := h.size
  refine ⟨below_trans2 h.below hb (by omega), by have := hb.size; omega, h.out.of_block (hb.block _ (by omega)), own_belowR h.outer hb, fun j hj => own_belowR (h.done j hj) hb⟩

theorem ro_out {W0 wi w2 : World} {N n k : Nat} {vn : Value} {Z : Nat → Nat → Bool} {vr : Nat → Value} {vo : Value} {o : Obj} (h : RO W0 wi N n k vn Z vr vo) (hg : (wi.alloc o).grownBy w2 vo.ownBlock) : w2.rowIs (N + 2) 25 2 (oF vn vo) := by
  refine (h.out.alloc o).of_block (hg.block (N + 2) (by have := h.size; simp; omega) (fun e => ?_))
  have := (h.outer.lt (N + 2) e.symm).1
  omega

theorem ro_step {W0 wi w2 : World} {N n k : Nat} {vn : Value} {Z : Nat → Nat → Bool} {vr : Nat → Value} {vo v v' : Value} {o : Obj} (h : RO W0 wi N n k vn Z vr vo)
    (hv : wi.ownsRow (N + 3) 4 1 v n ((List.range n).map fun c => .bool (Z k c))) (hg : (wi.alloc o).grownBy w2 vo.ownBlock) (hown : w2.ownsRow (N + 3) 80 1 v' (k + 1) ((List.range k).map vr ++ [v])) :
    RO W0 (w2.setCell ⟨N + 2, 1, none⟩ v') N n (k + 1) vn Z (fun j => if j = k then v else vr j) v' := by
  have hs := h.size
  have hs2 := hg.size
  simp at hs2
  refine ⟨((h.below.alloc (by omega) o).grown hg (by simp; omega) (fun j hj => ?_)).setCell (Nat.le_refl _) _, by simp [World.setCell]; omega, ((ro_out h hg).set 1 v').congr (fun i hi => ?_), ?_, fun j hj => ?_⟩
  · have := (h.outer.lt j hj).1; omega
  · obtain rfl | rfl : i = 0 ∨ i = 1 := by omega
    · rfl
    · rfl
  · refine ownsRow_setCell_below ?_ (by show N + 2 < N + 3; omega) _
    have e : (List.range (k + 1)).map (fun j => if j = k then v else vr j) = (List.range k).map vr ++ [v] := by
      rw [List.range_succ, List.map_append]
      congr 1
      · refine List.map_congr_left fun j hj => ?_
        have := List.mem_range.1 hj
        rw [if_neg (by omega)]
      · simp
    rw [e]; exact hown
  · refine ownsRow_setCell_below ?_ (by show N + 2 < N + 3; omega) _
    by_cases e : j = k
    · subst e
      rw [if_pos rfl]
      exact (hv.alloc o).kept hg (own_neR (hv.alloc o) (h.outer.alloc o) (by decide))
    · rw [if_neg e]
      have hd := (h.done j (by omega)).alloc o
      exact hd.kept hg (own_neR hd (h.outer.alloc o) (by decide))

theorem row_succ (Z : Nat → Nat → Bool) (r c : Nat) : (List.range (c + 1)).map (fun i => Value.bool (Z r i)) = (List.range c).map (fun i => Value.bool (Z r i)) ++ [.bool (Z r c)] := by
  rw [List.range_succ, List.map_append]; rfl

theorem infoBoolR : (Try.prog.info? 4).map (fun i => (i.zero, i.size, i.bytes)) = some (some (.bool false), 1, 1) := infoBool

theorem cellB {B : Nat} {w w1 : World} {a : Addr} {v : Value} (h : w.cell? a = some v) (hb : Below B w w1) (ha : a.block < B) : w1.cell? a = some v := by
  rw [hb.cell ha]; exact h

theorem ro_start (w : World) (vn vl : Value) (n : Nat) (Z : Nat → Nat → Bool) :
    RO (((w.alloc (.cells #[vn, vl] 25)).alloc (.cells #[.slice none 0 0, .slice none 0 0] 25)).alloc (.cells #[vn, .slice none 0 0] 25))
      (((w.alloc (.cells #[vn, vl] 25)).alloc (.cells #[.slice none 0 0, .slice none 0 0] 25)).alloc (.cells #[vn, .slice none 0 0] 25)) w.heap.size n 0 vn Z (fun _ => .slice none 0 0) (.slice none 0 0) := by
  refine ⟨Below.refl _ _, by simp, ?_, World.ownsRow_nil _ _ _ _, fun j hj => absurd hj (Nat.not_lt_zero _)⟩
  have := World.rowIs_alloc ((w.alloc (.cells #[vn, vl] 25)).alloc (.cells #[.slice none 0 0, .slice none 0 0] 25)) #[vn, .slice none 0 0] 25 (oF vn (.slice none 0 0)) (fun i hi => by
    have hi' : i < 2 := hi
    obtain rfl | rfl : i = 0 ∨ i = 1 := by omega
    · rfl
    · rfl)
  simpa using this

set_option maxHeartbeats 2000000 in
set_option maxRecDepth 100000 in
theorem rturned_any (w : World) (ad : Option Addr) (vl : Value) (n cap : Nat) (Z : Nat → Nat → Bool) (hG : Grid w vl n Z) (hn0 : 0 < n) (hn : n ≤ 6) :
    Calls Try.prog 39 #[.agg #[.slice ad n cap, vl]] w fun e w' => ∃ vl', e = .returned (.agg #[.slice ad n cap, vl']) ∧ Grid w' vl' n (Lat.tr Z) ∧ Below w.heap.size w w' := by
  obtain ⟨iB, hiB, hzB0, hzB1, hzB2⟩ := info_parts infoBool
  obtain ⟨iR, hiR, hzR0, hzR1, hzR2⟩ := info_parts infoRow
  obtain ⟨gb, go, gc, RB, RO', C, rfl, h1, h2⟩ := hG
  have hst := ro_start w (.slice ad n cap) (.slice (some ⟨gb, go, none⟩) n gc) n (Lat.tr Z)
  have hbw : Below w.heap.size w (((w.alloc (.cells #[.slice ad n cap, .slice (some ⟨gb, go, none⟩) n gc] 25)).alloc (.cells #[.slice none 0 0, .slice none 0 0] 25)).alloc (.cells #[.slice ad n cap, .slice none 0 0] 25)) :=
    (((Below.refl _ _).alloc (Nat.le_refl _) _).alloc (by simp) _).alloc (by simp; omega) _
  have q0 : (((w.alloc (.cells #[.slice ad n cap, .slice (some ⟨gb, go, none⟩) n gc] 25)).alloc (.cells #[.slice none 0 0, .slice none 0 0] 25)).alloc (.cells #[.slice ad n cap, .slice none 0 0] 25)).cell? ⟨w.heap.size, 0, none⟩ = some (.slice ad n cap) := by simp [go_sem]
  have q1 : (((w.alloc (.cells #[.slice ad n cap, .slice (some ⟨gb, go, none⟩) n gc] 25)).alloc (.cells #[.slice none 0 0, .slice none 0 0] 25)).alloc (.cells #[.slice ad n cap, .slice none 0 0] 25)).cell? ⟨w.heap.size, 1, none⟩ = some (.slice (some ⟨gb, go, none⟩) n gc) := by simp [go_sem]
  have r0 : (((w.alloc (.cells #[.slice ad n cap, .slice (some ⟨gb, go, none⟩) n gc] 25)).alloc (.cells #[.slice none 0 0, .slice none 0 0] 25)).alloc (.cells #[.slice ad n cap, .slice none 0 0] 25)).rowIs (w.heap.size + 1) 25 2 (oF (.slice none 0 0) (.slice none 0 0)) := by
    have := (World.rowIs_alloc (w.alloc (.cells #[.slice ad n cap, .slice (some ⟨gb, go, none⟩) n gc] 25)) #[.slice none 0 0, .slice none 0 0] 25 (oF (.slice none 0 0) (.slice none 0 0)) (fun i hi => by
      have hi' : i < 2 := hi
      obtain rfl | rfl : i = 0 ∨ i = 1 := by omega
      · rfl
      · rfl)).alloc (.cells #[.slice ad n cap, .slice none 0 0] 25)
    simpa using this
  go_enter Try.func39, Try.ntmps39
  go_wp2
  generalize (((w.alloc (.cells #[.slice ad n cap, .slice (some ⟨gb, go, none⟩) n gc] 25)).alloc (.cells #[.slice none 0 0, .slice none 0 0] 25)).alloc (.cells #[.slice ad n cap, .slice none 0 0] 25)) = W0 at *
  have HBW := hide hbw
  have HG1 : Hid (∀ r, r < n → W0.cell? ⟨gb, go + r, none⟩ = some (.slice (some ⟨RB r, RO' r, none⟩) n (C r))) := fun r hr => cellUp (h1 r hr) hbw
  have HG2 : Hid (∀ r c, r < n → c < n → W0.cell? ⟨RB r, RO' r + c, none⟩ = some (.bool (Z r c))) := fun r c hr hc => cellUp (h2 r c hr hc) hbw
  have HGB : Hid (∀ r, r < n → gb < w.heap.size) := fun r hr => World.block_lt_of_cell? _ _ (h1 r hr)
  have HGC : Hid (∀ r c, r < n → c < n → RB r < w.heap.size) := fun r c hr hc => World.block_lt_of_cell? _ _ (h2 r c hr hc)
  clear h1 h2 hbw
  go_loopw [4] (fun i wr => ∃ k : Nat, k ≤ n ∧ i = .int .i64 k ∧ ∃ vr vo, RO W0 wr w.heap.size n k (.slice ad n cap) (Lat.tr Z) vr vo) (fun i _ => n - (intOf i).toNat)
  case atStart => exact ⟨0, Nat.zero_le _, rfl, _, _, hst⟩
  case round =>
    obtain ⟨k, hk, rfl, vr, vo, hO⟩ := hrel
    generalize wr = wk at *
    have HO := hide hO
    have p0 : wk.cell? ⟨w.heap.size, 0, none⟩ = some (.slice ad n cap) := cellB q0 hO.below (by show w.heap.size < w.heap.size + 2; omega)
    by_cases hlt : k < n
    · have hz3 := hO.size
      clear hst hO
      go_wp2
      clear p0
      go_loopw [5, 6] (fun v i wi => ∃ c : Nat, c ≤ n ∧ i = .int .i64 c ∧ wi.ownsRow wk.heap.size 4 1 v c ((List.range c).map fun i => .bool (Lat.tr Z k i)) ∧ Below wk.heap.size wk wi) (fun _ i _ => n - (intOf i).toNat)
      case atStart => exact ⟨0, Nat.zero_le _, rfl, World.ownsRow_nil _ _ _ _, Below.refl _ _⟩
      case round =>
        obtain ⟨c, hc, rfl, hrow, hnx⟩ := hrel
        have hb2 := below_trans2 HO.out.below hnx (by omega)
        have p0 := cellB q0 hb2 (by show w.heap.size < w.heap.size + 2; omega)
        have hs1 := hnx.size
        by_cases hcn : c < n
        · have p1 := cellB q1 hb2 (by show w.heap.size < w.heap.size + 2; omega)
          have t1 := cellB (HG1.out c hcn) hb2 (by have := HGB.out c hcn; show gb < w.heap.size + 2; omega)
          have t2 := cellB (HG2.out c k hcn hlt) hb2 (by have := HGC.out c k hcn hlt; show RB c < w.heap.size + 2; omega)
          clear hb2 q0 q1 r0
          go_wp2_with (first
            | (at_builtin; refine wpList_append_own _ rfl _ _ 80 rfl wk.heap.size 4 iB (.bool false) 1 1 Try.underlying80 hiB hzB0 hzB1 hzB2 rfl (by decide) _ _ _ rfl (hrow.alloc _) ⟨wr.heap.size, 0, none⟩ 1 1 [.bool (Z c k)] rfl rfl (cell_one_new _ _ _) (fun u hu => by simp at hu; subst hu; rfl) (by unfold maxLen; omega) (by omega) (by simp; omega) ?_; intro v' w2 hown' hgrow2 hnil2)
            | go_in)
          have R2 := (hnx.alloc hnx.size (.cells #[.bool (Z c k)] 4)).grown hgrow2 (by simp; omega) (fun j hj => (hrow.lt j hj).1)
          have hown2 : w2.ownsRow wk.heap.size 4 1 v' (c + 1) ((List.range (c + 1)).map fun i => .bool (Lat.tr Z k i)) := by rw [row_succ]; exact hown'
          clear hnil2 hgrow2 t1 t2 p0 p1 hown'
          go_roundw
          case rel => exact ⟨c + 1, by omega, by go_num, hown2, R2⟩
          case measure => simp [intOf]; omega
        · have e : c = n := by omega
          subst e
          have hOi := ro_grown HO.out hnx
          have HOi := hide hOi
          have t1 : wr.cell? ⟨w.heap.size + 1 + 1, 1, none⟩ = some vo := hOi.out.cell (i := 1) (by decide)
          have hown := hOi.outer
          obtain ⟨gx, cx, hvx, _⟩ := own_slice hrow hn0
          rw [hvx] at hrow ⊢
          have hv1 := own_one hrow
          clear hOi hb2 q0 q1 r0 hvx
          go_wp2_with (first
            | (at_builtin; refine wpList_append_own _ rfl _ _ 23 rfl (w.heap.size + 3) 80 iR (.slice none 0 0) 1 24 Try.underlying23 hiR hzR0 hzR1 hzR2 rfl (by decide) _ _ _ rfl (hown.alloc _) ⟨wr.heap.size, 0, none⟩ 1 1 [_] rfl rfl (cell_one_new _ _ _) (fun u hu => by simp at hu; subst hu; exact hv1) (by unfold maxLen; omega) (by omega) (by simp; omega) ?_; intro v' w2 hown' hgrow2 hnil2; have c1 : w2.cell? ⟨w.heap.size + 1 + 1, 1, none⟩ = some vo := (ro_out HOi.out hgrow2).cell (i := 1) (by decide); have f1 : w2.frozen? ⟨w.heap.size + 1 + 1, 1, none⟩ = false := (ro_out HOi.out hgrow2).frozen 1; obtain ⟨g2, c2, hv2, _⟩ := own_slice hown' (by omega); rw [hv2] at hown' ⊢; clear hv2)
            | go_in)
          have R3 := ro_step HOi.out (own_base hrow (by omega)) hgrow2 hown'
          clear hnil2 hgrow2 t1 c1 f1 hown' hown hrow
          go_roundw
          case rel => exact ⟨k + 1, by omega, by go_num, _, _, R3⟩
          case measure => simp [intOf]; omega
    · have e : k = n := by omega
      subst e
      obtain ⟨g, cg, hvo, _⟩ := own_slice hO.outer hn0
      subst hvo
      have rr := r0.of_block (hO.below.block (w.heap.size + 1) (by omega))
      have c0 : wk.cell? ⟨w.heap.size + 1, 0, none⟩ = some (.slice none 0 0) := rr.cell (i := 0) (by decide)
      have c1 : wk.cell? ⟨w.heap.size + 1, 1, none⟩ = some (.slice none 0 0) := rr.cell (i := 1) (by decide)
      have f0 := rr.frozen 0
      have f1 := rr.frozen 1
      have o0 : wk.cell? ⟨w.heap.size + 1 + 1, 0, none⟩ = some (.slice ad k cap) := hO.out.cell (i := 0) (by decide)
      have o1 : wk.cell? ⟨w.heap.size + 1 + 1, 1, none⟩ = some (.slice (some ⟨g, 0, none⟩) k cg) := hO.out.cell (i := 1) (by decide)
      clear hO rr r0 hst q0 q1
      go_wp2
      refine bodyPost_ret (v := .agg #[.slice ad k cap, .slice (some ⟨g, 0, none⟩) k cg]) (by simp [results, Try.results39, go_sem, c0, c1]) rfl ⟨_, rfl, ?_, ?_⟩
      · refine grid_of (B := w.heap.size + 3) (vr := vr) hn0 ?_ (fun j hj => ?_)
        · exact ownsRow_setCell_below (ownsRow_setCell_below HO.out.outer (by show w.heap.size + 1 < w.heap.size + 3; omega) _) (by show w.heap.size + 1 < w.heap.size + 3; omega) _
        · exact ownsRow_setCell_below (ownsRow_setCell_below (HO.out.done j hj) (by show w.heap.size + 1 < w.heap.size + 3; omega) _) (by show w.heap.size + 1 < w.heap.size + 3; omega) _
      · exact ((HBW.out.trans (HO.out.below.mono (by omega))).setCell (by show w.heap.size ≤ w.heap.size + 1; omega) _).setCell (by show w.heap.size ≤ w.heap.size + 1; omega) _

end Go.Proofs.Ytmhcameodlhloaa
