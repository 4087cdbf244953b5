/- Walks over package downref: Least. -/
import Derived.Test.YtholefgckcoklaaZR
import Derived.Test.YtholefgckcoklaaZQ
import Derived.Test.YtholefgckcoklaaZI
import Derived.Test.YtholefgckcoklaaOK
namespace Go.Proofs.Ytholefgckcoklaa
open Go.RowKit

def natI (F : List Nat) : List Int := F.map fun u : Nat => (u : Int)
theorem natI_len (F : List Nat) : (natI F).length = F.length := by simp [natI]
theorem natI_get {F : List Nat} {j u : Nat} (h : F[j]? = some u) : (natI F)[j]? = some (u : Int) := by simp [natI, h]
theorem natI_mem {F : List Nat} {g : Nat} : (natI F).contains (g : Int) = F.contains g := by
  rw [List.contains_eq_mem, List.contains_eq_mem, Bool.eq_iff_iff]
  simp only [decide_eq_true_eq, natI, List.mem_map]
  constructor
  · rintro ⟨u, hu, e⟩
    have : u = g := by omega
    rwa [← this]
  · intro h; exact ⟨g, h, rfl⟩
theorem natI_snoc (F : List Nat) (g : Nat) : natI (F ++ [g]) = natI F ++ [(g : Int)] := by simp [natI]
/-- Where a row of ints of the call's own lies. -/
theorem ownI_form {w : World} {B : Nat} {v : Value} {l : List Int} (h : OwnI w B v l) (hl : 0 < l.length) :
    ∃ g cap, v = .slice (some ⟨g, 0, none⟩) l.length cap ∧ B ≤ g ∧ g < w.heap.size ∧ (∀ j z, l[j]? = some z → w.cell? ⟨g, j, none⟩ = some (.int .i64 z)) ∧ ∃ cur, w.heap[g]? = some (.cells cur 3 (0, 0)) := by
  have h0 := h
  rcases h.2 with ⟨rfl, h1⟩ | ⟨g, cap, cur, rfl, hg, hh, _⟩
  · omega
  · refine ⟨g, cap, rfl, hg, block_lt hh, fun j z hz => ?_, cur, hh⟩
    obtain ⟨hj, rfl⟩ := List.getElem?_eq_some_iff.1 hz
    rw [World.ownsRow.cellAt h0 j (by omega)]
    simp [hj]
theorem ownI_one (w : World) (z : Int) : OwnI (w.alloc (.cells #[.int .i64 z] 3)) w.heap.size (.slice (some ⟨w.heap.size, 0, none⟩) 1 1) [z] :=
  ⟨by simp, Or.inr ⟨w.heap.size, 1, #[.int .i64 z], rfl, Nat.le_refl _, block_new _ _, Nat.le_refl _, by decide, by simp, by simp⟩⟩
theorem OwnI.old {w : World} {B B' : Nat} {v : Value} {l : List Int} (h : OwnI w B v l) (hB : B' ≤ B) : OwnI w B' v l := by
  obtain ⟨h0, h1⟩ := h
  refine ⟨h0, ?_⟩
  rcases h1 with h1 | ⟨g, cap, cur, hv, hg, r⟩
  · exact Or.inl h1
  · exact Or.inr ⟨g, cap, cur, hv, Nat.le_trans hB hg, r⟩
def LbC (c : List Value) (x : Nat × Nat) : Prop := c = [.int .i64 (x.1 : Nat), .int .i64 (x.2 : Nat)]
theorem LbC.one {c : List Value} {x : Nat × Nat} (h : LbC c x) : ∀ u ∈ c, u.oneCell' = true := by
  unfold LbC at h
  subst h
  intro u hu
  simp at hu
  rcases hu with rfl | rfl <;> rfl
/-- What the inner loops keep. -/
structure FrW (W : World) (wx : World) (cs : List Sv.Co) (n v : Nat) (f : Value) (F : List Nat) : Prop where
  since : Below W.heap.size W wx
  row : OwnI wx W.heap.size f (natI F)
  fr : Sv.Fr cs n v F
theorem FrW.pos {W wx : World} {cs : List Sv.Co} {n v : Nat} {f : Value} {F : List Nat} (h : FrW W wx cs n v f F) : 0 < F.length := List.length_pos_of_mem h.fr.mem
theorem FrW.form {W wx : World} {cs : List Sv.Co} {n v : Nat} {f : Value} {F : List Nat} (h : FrW W wx cs n v f F) :
    ∃ g cap, f = .slice (some ⟨g, 0, none⟩) F.length cap ∧ W.heap.size ≤ g ∧ g < wx.heap.size ∧ (∀ j u, F[j]? = some u → wx.cell? ⟨g, j, none⟩ = some (.int .i64 (u : Nat))) ∧ ∃ cur, wx.heap[g]? = some (.cells cur 3 (0, 0)) := by
  obtain ⟨g, cap, e, h1, h2, h3, h4⟩ := ownI_form h.row (by rw [natI_len]; exact h.pos)
  rw [natI_len] at e
  exact ⟨g, cap, e, h1, h2, fun j u hu => h3 j _ (natI_get hu), h4⟩
theorem FrW.ints {W wx : World} {cs : List Sv.Co} {n v : Nat} {f : Value} {F : List Nat} (h : FrW W wx cs n v f F) (hn : n ≤ 40) : Ints wx f (natI F) := h.row.ints (by rw [natI_len]; have := h.fr.len; omega)
theorem FrW.below {W wx wy : World} {cs : List Sv.Co} {n v : Nat} {f : Value} {F : List Nat} (h : FrW W wx cs n v f F) (hb : Below wx.heap.size wx wy) : FrW W wy cs n v f F := ⟨up h.since hb, own_below h.row hb, h.fr⟩
/-- One more is in the row. -/
theorem FrW.push {W wx wy : World} {cs : List Sv.Co} {n v g : Nat} {f f' : Value} {F : List Nat} {o : Obj} (h : FrW W wx cs n v f F) (hr : OwnI wy W.heap.size f' (natI F ++ [(g : Int)])) (hg : (wx.alloc o).grownBy wy f.ownBlock) (hfr : Sv.Fr cs n v (F ++ [g])) : FrW W wy cs n v f' (F ++ [g]) := by
  refine ⟨Below.grown (up h.since (boxBelow wx o)) hg (Nat.le_trans h.since.size (boxBelow wx o).size) (fun k hk => ?_), by rw [natI_snoc]; exact hr, hfr⟩
  exact (World.ownsRow.lt h.row k hk).1
theorem pre_get {α : Type} {F G : List α} {k : Nat} {u : α} (h : F <+: G) (hk : F[k]? = some u) : G[k]? = some u := by
  obtain ⟨t, rfl⟩ := h
  rw [List.getElem?_append_left (List.getElem?_eq_some_iff.1 hk).1]
  exact hk
theorem pre_mem {α : Type} {F G : List α} {u : α} (h : F <+: G) (hu : u ∈ F) : u ∈ G := by
  obtain ⟨t, rfl⟩ := h
  exact List.mem_append_left _ hu

theorem dn_step {cs : List Sv.Co} {F1 F2 : List Nat} {k u : Nat} (h : Sv.Dn cs (F1.take k) F1) (hp : F1 <+: F2) (hu : F1[k]? = some u) (hd : ∀ c ∈ cs, c.to.toNat = u → ∀ g ∈ c.fr, g.toNat ∈ F2) : Sv.Dn cs (F2.take (k + 1)) F2 := by
  have hk := (List.getElem?_eq_some_iff.1 hu).1
  intro x hx c hc ht g hg
  rw [take_snoc (pre_get hp hu)] at hx
  rcases List.mem_append.1 hx with hx | hx
  · have hx' : x ∈ F1.take k := by
      obtain ⟨t, rfl⟩ := hp
      rwa [List.take_append_of_le_length (by omega)] at hx
    exact pre_mem hp (h x hx' c hc ht g hg)
  · simp at hx
    subst hx
    exact hd c hc ht g hg
/-- The ints l lie in block g. -/
def IG (w : World) (g : Nat) (l : List Int) : Prop := ∀ j z, l[j]? = some z → w.cell? ⟨g, j, none⟩ = some (.int .i64 z)
theorem IG.below {w w' : World} {g : Nat} {l : List Int} (h : IG w g l) (hb : Below w.heap.size w w') : IG w' g l := fun j z hz => cellUp (h j z hz) hb
theorem IG.set {w : World} {g : Nat} {l : List Int} (h : IG w g l) {a : Addr} (ha : g ≠ a.block) (x : Value) : IG (w.setCell a x) g l := fun j z hz => by
  rw [World.cell?_of_block (w := w) (Below.heap_setCell _ _ _ _ ha)]
  exact h j z hz
theorem IG.ints {w : World} {g cap : Nat} {F : List Nat} (h : IG w g (natI F)) (hl : F.length ≤ 40) : Ints w (.slice (some ⟨g, 0, none⟩) F.length cap) (natI F) :=
  ⟨_, g, 0, cap, by rw [natI_len], fun _ => rfl, by rw [natI_len]; omega, fun j z hz => by rw [Nat.zero_add]; exact h j z hz⟩
theorem FrW.ig {W wx : World} {cs : List Sv.Co} {n v g cap : Nat} {F : List Nat} (h : FrW W wx cs n v (.slice (some ⟨g, 0, none⟩) F.length cap) F) : IG wx g (natI F) ∧ g < wx.heap.size := by
  obtain ⟨g', cap', e, h1, h2, h3, _⟩ := ownI_form h.row (by rw [natI_len]; exact h.pos)
  injection e with e1 e2 e3
  injection e1 with e1
  injection e1 with e1
  subst e1
  exact ⟨h3, h2⟩
theorem ownK_las {w : World} {B n : Nat} {v : Value} {X : Nat → Nat × Nat} (h : OwnK LbC w B 46 2 v ((List.range n).map X)) (hn : n ≤ 40) : LasAt w v (Sv.list n X) := by
  rcases h.shape with ⟨rfl, h0⟩ | ⟨g, cap, rfl, _, _, _, hne⟩
  · have e : n = 0 := by
      have := congrArg List.length h0
      simpa using this
    subst e
    exact ⟨none, 0, 0, 0, rfl, fun h => absurd h (by simp [Sv.list]), by simp [Sv.list], fun i x hx => by simp [Sv.list] at hx⟩
  · refine ⟨_, g, 0, cap, by rw [Sv.list_len]; simp, fun _ => rfl, by rw [Sv.list_len]; omega, fun i x hx => ?_⟩
    have hi : i < n := by have := (List.getElem?_eq_some_iff.1 hx).1; rwa [Sv.list_len] at this
    rw [Sv.list_get X hi] at hx
    cases hx
    obtain ⟨c, hc, hcell, hat⟩ := h.cell (i := i) (y := X i) (by simp [hi])
    unfold LbC at hat
    subst hat
    rw [Nat.zero_add]
    exact ⟨(hcell 0 (by decide)).trans rfl, (hcell 1 (by decide)).trans rfl⟩
theorem cellI1 (w : World) (z : Int) : (w.alloc (.cells #[.int .i64 z] 3)).cell? ⟨w.heap.size, 0, none⟩ = some (.int .i64 z) := by simp [go_sem]
theorem infoLbS : (Try.prog.info? 46).map (fun i => (i.zero, i.size, i.bytes)) = some (some (.agg #[.int .i64 0, .int .i64 0]), 2, 16) := infoLb
theorem range_snoc (n : Nat) (X : Nat → Nat × Nat) : (List.range (n + 1)).map X = (List.range n).map X ++ [X n] := by rw [List.range_succ, List.map_append]; rfl
/-- What stands behind some rounds. -/
structure LsW (W wx : World) (cs : List Sv.Co) (Z : Nat → Nat → Bool) (N n low v : Nat) (o : Value) (F : Nat → List Nat) : Prop where
  since : Below W.heap.size W wx
  out : OwnK LbC wx W.heap.size 46 2 o ((List.range v).map fun u => Sv.xOf Z N (F u) cs (0, low))
  fr : ∀ u, u < v → Sv.Fr cs n u (F u) ∧ Sv.Dn cs (F u) (F u)

set_option maxHeartbeats 4000000 in
set_option maxRecDepth 100000 in
theorem rleast_any (w : World) (vn vl vc : Value) (ss : List ByteArray) (G : Nat) (L : Nat → Nat) (Z : Nat → Nat → Bool) (n : Nat) (cs : List Sv.Co) (hL : LaAt w vn vl ss G L Z) (hC : CosAt w vc cs) (hn : n ≤ 40) (hlen : cs.length ≤ 1000) (hall : ∀ c ∈ cs, Sv.coB ss.length n c = true) :
    Calls Try.prog 27 #[.agg #[vn, vl], .int .i64 n, vc] w fun e w' => ∃ V v, e = .returned v ∧ LasAt w' v (Sv.list n V) ∧ Sv.Least Z ss.length n cs V ∧ Below w.heap.size w w' := by
  have HLS := hide (fun F hF => Sv.ref_least (n := n) (cs := cs) hL.joins hL.meets (Lat.ok_of hL.ok).pos hall F hF)
  have HALL := hide hall
  have HJ := hide hL.joins
  obtain ⟨low, hlow⟩ : ∃ low, low = Lat.lowN Z ss.length := ⟨_, rfl⟩
  have HLOW : Hid (Sv.Ok ss.length (0, low)) := hide (by rw [hlow]; exact ⟨by show (0 : Nat) < 16; omega, (Lat.low_spec hL.meets (Lat.ok_of hL.ok).pos).1⟩)
  rw [← hlow] at HLS
  obtain ⟨W, hW⟩ : ∃ W, W = w.alloc (.cells #[vn, vl] 25) := ⟨_, rfl⟩
  obtain ⟨b0, hB⟩ := box1_at w vn vl W hW
  have HB := hide hB
  have HB0 := hide b0
  have HL := hide (hL.below hB)
  have HCC := hide (hC.below hB)
  obtain ⟨ad, bl, off, cap, hvn, -⟩ := hL.strs
  subst hvn
  have HEN := hide (rends_any W ad vl ss.length cap Z HL.out.grid (Lat.ok_of hL.ok).pos HL.out.six hL.joins hL.meets)
  rw [← hlow] at HEN
  obtain ⟨ca, cb, co, cc, rfl, h0, hl, hel⟩ := hC.below hB
  obtain ⟨len, hlen'⟩ : ∃ n, n = cs.length := ⟨_, rfl⟩
  have HLn := hide hlen'
  have HEL := hide hel
  have HA0 := hide h0
  rw [← hlen'] at HA0 hl hlen ⊢
  clear hL hC hB b0 hel h0 hlen' hall hlow HCC
  go_enter Try.func27, Try.ntmps27
  go_wp2_with fail
  rw [← hW]
  clear hW
  refine HEN.out.mono ?_
  rintro e w1 ⟨rfl, hb1⟩
  have HB1 := hide hb1
  clear hb1 HEN
  go_wp2_with fail
  go_loopw [9, 10] (fun o i wx => ∃ v : Nat, v ≤ n ∧ i = .int .i64 v ∧ ∃ F, LsW W wx cs Z ss.length n low v o F) (fun _ i _ => n - (intOf i).toNat)
  case atStart => exact ⟨0, Nat.zero_le _, rfl, fun _ => [], HB1.out, OwnK.nil _ _ _ _, fun u hu => absurd hu (Nat.not_lt_zero _)⟩
  case round =>
    obtain ⟨v, hv, rfl, F, hls⟩ := hrel
    have HLW := hide hls
    clear hls
    by_cases hvn : v < n
    · obtain ⟨W1, hW1⟩ : ∃ W1, W1 = wr := ⟨_, rfl⟩
      have HF1 : Hid (FrW W1 (wr.alloc (.cells #[.int .i64 v] 3)) cs n v (.slice (some ⟨wr.heap.size, 0, none⟩) 1 1) [v]) := hide ⟨by rw [hW1]; exact boxBelow wr _, by rw [hW1]; exact ownI_one wr v, Sv.Fr.start hvn⟩
      rw [← hW1] at HLW
      clear hW1
      go_wp2_with fail
      go_loopw [11, 12] (fun f i wx => ∃ (F : List Nat) (k : Nat), k ≤ F.length ∧ i = .int .i64 k ∧ FrW W1 wx cs n v f F ∧ Sv.Dn cs (F.take k) F) (fun _ i _ => n - (intOf i).toNat)
      case atStart => exact ⟨[v], 0, Nat.zero_le _, rfl, HF1.out, fun u hu => by simp at hu⟩
      case round =>
        clear HF1
        obtain ⟨F1, k, hk, rfl, hf1, hd1⟩ := hrel
        have HF1 := hide hf1
        have HD1 := hide hd1
        have hlenF := hf1.fr.len
        obtain ⟨g, gcap, rfl, -⟩ := hf1.form
        clear hf1 hd1
        by_cases hkl : k < F1.length
        · obtain ⟨u, hu⟩ : ∃ u, F1[k]? = some u := ⟨_, List.getElem?_eq_getElem hkl⟩
          have HU := hide hu
          have HUM := hide (List.mem_of_getElem? hu)
          clear hu
          go_wp2_with fail
          go_loopw [11, 13] (fun f j wx => ∃ (F2 : List Nat) (q : Nat), q ≤ len ∧ j = .int .i64 q ∧ FrW W1 wx cs n v f F2 ∧ F1 <+: F2 ∧ ∀ c ∈ cs.take q, c.to.toNat = u → ∀ g ∈ c.fr, g.toNat ∈ F2) (fun _ j _ => len - (intOf j).toNat)
          case atStart => exact ⟨F1, 0, Nat.zero_le _, rfl, HF1.out, List.prefix_refl _, fun c hc => by simp at hc⟩
          case round =>
            obtain ⟨F2, q, hq, rfl, hf2, hp2, hd2⟩ := hrel
            have HF2 := hide hf2
            have HP2 := hide hp2
            have HD2 := hide hd2
            obtain ⟨g2, gcap2, rfl, -, -, hcells, -⟩ := hf2.form
            have cu := hcells k u (pre_get hp2 HU.out)
            have hlen2 := hf2.fr.len
            have hku : k < F2.length := (List.getElem?_eq_some_iff.1 (pre_get hp2 HU.out)).1
            have HSI := hide (up HLW.out.since hf2.since)
            clear hcells hf2 hp2 hd2
            by_cases hql : q < len
            · obtain ⟨c, hc⟩ : ∃ c, cs[q]? = some c := ⟨_, List.getElem?_eq_getElem (by rw [← HLn.out]; exact hql)⟩
              have HCQ := hide hc
              have HCM := hide (List.mem_of_getElem? hc)
              obtain ⟨hcf, hct, hcl⟩ := Sv.coB_spec (HALL.out c HCM.out)
              have HCF := hide hcf
              obtain ⟨-, htn, hte⟩ := Sv.varB_spec hct
              obtain ⟨vf, hvf, g0, g1, -, -⟩ := HEL.out q c hc
              obtain ⟨fa, fb, fo, fc, rfl, hfa, hfl, hfe⟩ := hvf
              obtain ⟨flen, hflen⟩ : ∃ m, m = c.fr.length := ⟨_, rfl⟩
              have HFL := hide hflen
              rw [← hflen] at hfa hfl g1
              have HG1 := hide g1
              replace g0 := cellUp g0 HSI.out
              replace g1 := cellUp g1 HSI.out
              have HFA := hide hfa
              have HFE := hide hfe
              obtain rfl := HA0.out (by omega)
              obtain ⟨tt, htt⟩ : ∃ tt, tt = c.to.toNat := ⟨_, rfl⟩
              have HTT := hide htt
              rw [← htt] at hte htn
              rw [hte] at g0
              have hkk : (k : Int) < (F2.length : Int) := by omega
              have hqq : (q : Int) < (len : Int) := by omega
              clear hc hcf hct hcl hfa hfe hflen htt hte
              by_cases htu : tt = u
              · have hne : ((tt : Int) != (u : Int)) = false := by rw [htu]; simp
                go_wp2_with fail
                go_quiet (fail)
                go_wp2_with fail
                have HF3 : Hid (FrW W1 (wr.drewN nq) cs n v (.slice (some ⟨g2, 0, none⟩) F2.length gcap2) F2) := hide (HF2.out.below (drewBelow (Below.refl _ _) nq))
                clear g0 g1 cu
                go_loopw [11, 14] (fun f j wx => ∃ (F3 : List Nat) (r : Nat), r ≤ flen ∧ j = .int .i64 r ∧ FrW W1 wx cs n v f F3 ∧ F2 <+: F3 ∧ ∀ g ∈ c.fr.take r, g.toNat ∈ F3) (fun _ j _ => flen - (intOf j).toNat)
                case atStart => exact ⟨F2, 0, Nat.zero_le _, rfl, HF3.out, List.prefix_refl _, fun g hg => by simp at hg⟩
                case round =>
                  clear HF3
                  obtain ⟨F3, r, hr, rfl, hf3, hp3, hd3⟩ := hrel
                  have HF3 := hide hf3
                  have HP3 := hide hp3
                  have HD3 := hide hd3
                  obtain ⟨g3, gcap3, rfl, -⟩ := hf3.form
                  have hlen3 := hf3.fr.len
                  have HSI3 := hide (up HLW.out.since hf3.since)
                  have g1 := cellUp HG1.out HSI3.out
                  clear hf3 hp3 hd3
                  by_cases hrl : r < flen
                  · obtain ⟨gi, hgi⟩ : ∃ gi, c.fr[r]? = some gi := ⟨_, List.getElem?_eq_getElem (by rw [← HFL.out]; exact hrl)⟩
                    have hgm := List.mem_of_getElem? hgi
                    obtain ⟨-, hgn, hge⟩ := Sv.varB_spec (HCF.out gi hgm)
                    obtain ⟨gn', hgn'⟩ : ∃ x, x = gi.toNat := ⟨_, rfl⟩
                    rw [← hgn'] at hgn hge
                    subst hge
                    have HGM := hide hgm
                    have HGI := hide hgi
                    have ge := cellUp (HFE.out r _ hgi) HSI3.out
                    obtain rfl := HFA.out (by omega)
                    clear hgi hgm hgn'
                    go_wp2_with fail
                    refine (containsI_any _ _ (natI F3) gn' (HF3.out.ints hn)).mono ?_
                    rintro e w' ⟨rfl, rfl⟩
                    rw [natI_mem]
                    cases hcon : F3.contains gn'
                    · have HNOT : Hid (gn' ∉ F3) := hide (by intro h; rw [List.contains_iff_mem.2 h] at hcon; cases hcon)
                      go_wp2_with (first
                        | (at_builtin; refine wpList_append_int rfl _ _ rfl W1.heap.size _ (natI F3) rfl (own_below HF3.out.row (boxBelow _ _)) _ (gn' : Int) rfl (cellI1 _ _) (by rw [natI_len]; omega) (Nat.le_trans HF3.out.since.size (boxBelow _ _).size) ?_; intro v7 w7 hown7 hgrow7; have HO7 := hide hown7; have HG7 := hide hgrow7; clear hown7 hgrow7)
                        | fail)
                      go_roundw
                      case rel => exact ⟨F3 ++ [gn'], r + 1, by omega, by go_num, HF3.out.push HO7.out HG7.out (HF3.out.fr.push HCM.out (by rw [← HTT.out, htu]; exact pre_mem HP3.out (pre_mem HP2.out HUM.out)) HGM.out hgn HNOT.out), List.IsPrefix.trans HP3.out (List.prefix_append _ _), fun g hg => by
                          rw [take_snoc HGI.out] at hg
                          rcases List.mem_append.1 hg with hg | hg
                          · exact List.mem_append_left _ (HD3.out g hg)
                          · simp at hg; subst hg; simp⟩
                      case measure => simp [intOf]; omega
                    · go_wp2_with fail
                      go_roundw
                      case rel => exact ⟨F3, r + 1, by omega, by go_num, HF3.out, HP3.out, fun g hg => by
                          rw [take_snoc HGI.out] at hg
                          rcases List.mem_append.1 hg with hg | hg
                          · exact HD3.out g hg
                          · simp at hg; subst hg; rw [Int.toNat_natCast]; exact List.contains_iff_mem.1 hcon⟩
                      case measure => simp [intOf]; omega
                  · go_wp2_with fail
                    go_roundw
                    case rel => exact ⟨F3, q + 1, by omega, by go_num, HF3.out, List.IsPrefix.trans HP2.out HP3.out, fun d hd hdu g hg => by
                        rw [take_snoc HCQ.out] at hd
                        rcases List.mem_append.1 hd with hd | hd
                        · exact pre_mem HP3.out (HD2.out d hd hdu g hg)
                        · simp at hd; subst hd; exact HD3.out g (by rw [List.take_of_length_le (by rw [← HFL.out]; omega)]; exact hg)⟩
                    case measure => simp [intOf]; omega
              · have hne : ((tt : Int) != (u : Int)) = true := by rw [bne_iff_ne]; omega
                go_wp2_with fail
                go_quiet (fail)
                go_wp2_with fail
                go_roundw
                case rel => exact ⟨F2, q + 1, by omega, by go_num, HF2.out.below (drewBelow (Below.refl _ _) nq), HP2.out, fun d hd hdu g hg => by
                    rw [take_snoc HCQ.out] at hd
                    rcases List.mem_append.1 hd with hd | hd
                    · exact HD2.out d hd hdu g hg
                    · simp at hd; subst hd; exact absurd (HTT.out.trans hdu) htu⟩
                case measure => simp [intOf]; omega
            · clear cu
              go_wp2_with fail
              go_roundw
              case rel => exact ⟨F2, k + 1, by omega, by go_num, HF2.out, dn_step HD1.out HP2.out HU.out (fun d hd => HD2.out d (by rw [List.take_of_length_le (by rw [← HLn.out]; omega)]; exact hd))⟩
              case measure => simp [intOf]; omega
        · have HDN : Hid (Sv.Dn cs F1 F1) := hide (by have := HD1.out; rwa [List.take_of_length_le (by omega)] at this)
          obtain ⟨wo, rfl⟩ : ∃ wo, wo = wr := ⟨_, rfl⟩
          obtain ⟨ig, hgl⟩ := HF1.out.ig
          have HIG0 := hide (ig.below (boxBelow wo (.cells #[.int .i64 0, .int .i64 low] 46)))
          have HSX0 := hide (up HF1.out.since (boxBelow wo (.cells #[.int .i64 0, .int .i64 low] 46)))
          have HXB0 := hide (block_new wo (.cells #[.int .i64 0, .int .i64 low] 46))
          have HBG : Hid (W1.heap.size ≤ wo.heap.size) := hide HF1.out.since.size
          have HGB : Hid (g ≠ wo.heap.size) := hide (by omega)
          clear ig hgl
          go_wp2_with fail
          go_loopw [16] (fun j wx => ∃ q : Nat, q ≤ len ∧ j = .int .i64 q ∧ ∃ x, x = Sv.xOf Z ss.length F1 (cs.take q) (0, low) ∧ Sv.Ok ss.length x ∧ Below W1.heap.size W1 wx ∧ IG wx g (natI F1) ∧ wx.heap[wo.heap.size]? = some (.cells #[.int .i64 (x.1 : Nat), .int .i64 (x.2 : Nat)] 46 (0, 0))) (fun j _ => len - (intOf j).toNat)
          case atStart => exact ⟨0, Nat.zero_le _, rfl, (0, low), rfl, HLOW.out, HSX0.out, HIG0.out, HXB0.out⟩
          case round =>
            clear HIG0 HSX0 HXB0
            obtain ⟨q, hq, rfl, x, hx, hxo, hsx, hig, hxb⟩ := hrel
            have HX := hide hx
            have HXO := hide hxo
            have HSX := hide hsx
            have HIG := hide hig
            have HXB := hide hxb
            have HSI := hide (up HLW.out.since hsx)
            clear hx hxo hsx hig hxb
            by_cases hql : q < len
            · obtain ⟨c, hc⟩ : ∃ c, cs[q]? = some c := ⟨_, List.getElem?_eq_getElem (by rw [← HLn.out]; exact hql)⟩
              have HCQ := hide hc
              obtain ⟨-, hct, hcl⟩ := Sv.coB_spec (HALL.out c (List.mem_of_getElem? hc))
              obtain ⟨-, htn, hte⟩ := Sv.varB_spec hct
              obtain ⟨hlo, hme, hle⟩ := Sv.labB_ok hcl
              have HLO := hide hlo
              obtain ⟨vf, hvf, g0, g1, g2, g3⟩ := HEL.out q c hc
              obtain rfl := HA0.out (by omega)
              obtain ⟨tt, htt⟩ : ∃ tt, tt = c.to.toNat := ⟨_, rfl⟩
              have HTT := hide htt
              rw [← htt] at hte htn
              rw [hte] at g0
              obtain ⟨y, hy⟩ : ∃ y, y = c.lab := ⟨_, rfl⟩
              have HY := hide hy
              have hy1 : c.mask = ((y.1 : Nat) : Int) := by rw [hy]; exact hme
              have hy2 : c.level = ((y.2 : Nat) : Int) := by rw [hy]; exact hle
              rw [hy1] at g2
              rw [hy2] at g3
              replace g0 := cellUp g0 HSI.out
              replace g2 := cellUp g2 HSI.out
              replace g3 := cellUp g3 HSI.out
              have hqq : (q : Int) < (len : Int) := by omega
              clear hc hct hcl hlo hvf g1 htt hte hy hy1 hy2 hme hle
              go_wp2_with fail
              refine (containsI_any _ _ (natI F1) tt (HIG.out.ints (by omega))).mono ?_
              rintro e w' ⟨rfl, rfl⟩
              rw [natI_mem]
              cases hcon : F1.contains tt
              · go_wp2_with fail
                go_roundw
                case rel => exact ⟨q + 1, by omega, by go_num, x, by rw [take_snoc HCQ.out, Sv.xOf_snoc, ← HTT.out, hcon, ← HX.out]; rfl, HXO.out, HSX.out, HIG.out, HXB.out⟩
                case measure => simp [intOf]; omega
              · have hbx := at_up HB0.out HSI.out
                have q0 := cell_gn ((block_at hbx 0).trans rfl)
                have q1 := cell_gn ((block_at hbx 1).trans rfl)
                have q2 := cell_gn ((block_at HXB.out 0).trans rfl)
                have q3 := cell_gn ((block_at HXB.out 1).trans rfl)
                replace g2 := cell_gn g2
                replace g3 := cell_gn g3
                have HYO : Hid (Sv.Ok ss.length y) := hide (by rw [HY.out]; exact HLO.out)
                have HBO := hide (fun k os => both_any (gn w' k os) (.slice ad ss.length cap) vl ss G L Z x y (HL.out.below (up HSI.out (below_gn w' k os))) HXO.out HYO.out)
                obtain ⟨J, hJ⟩ : ∃ J, J = Sv.join Z ss.length x y := ⟨_, rfl⟩
                have HJE := hide hJ
                rw [← hJ] at HBO
                clear hbx g0 hJ
                go_wp2_with fail
                refine wp_region_tail_gn 8 (by kernel_rfl) (by kernel_rfl) ?_
                dsimp only [List.take, List.drop]
                repeat (quiet_step ((exact Calls.gn_of (HBO.out _ _))))
                refine wpQuiet_nil ?_
                intro w6 hw'
                obtain ⟨⟨nq, osq⟩, hw''⟩ := hw'
                have hb6 : Below w'.heap.size w' w6 := by rw [hw'']; exact below_gn w' nq osq
                have HB6 := hide hb6
                have HXB6 := hide (at_up HXB.out hb6)
                have r0 := (block_at HXB6.out 0).trans rfl
                have r1 := (block_at HXB6.out 1).trans rfl
                have z0 := block_free HXB6.out 0
                have z1 := block_free HXB6.out 1
                clear hw'' hb6 q0 q1 q2 q3 g2 g3
                go_wp2_with fail
                go_roundw
                case rel => exact ⟨q + 1, by omega, by go_num, J, by rw [take_snoc HCQ.out, Sv.xOf_snoc, ← HTT.out, hcon, ← HX.out, HJE.out, HY.out]; rfl, by rw [HJE.out]; exact Sv.join_ok HJ.out HXO.out HYO.out, ((up HSX.out HB6.out).setCell HBG.out _).setCell HBG.out _, ((HIG.out.below HB6.out).set HGB.out _).set HGB.out _, set2 HXB6.out _ _⟩
                case measure => simp [intOf]; omega
            · have HXF : Hid (x = Sv.xOf Z ss.length F1 cs (0, low)) := hide (by rw [HX.out, List.take_of_length_le (by rw [← HLn.out]; omega)])
              have r0 := (block_at HXB.out 0).trans rfl
              have r1 := (block_at HXB.out 1).trans rfl
              have HOUT := hide ((HLW.out.out.below HSX.out).below (boxBelow wr (.cells #[.int .i64 (x.1 : Nat), .int .i64 (x.2 : Nat)] 46)))
              go_wp2_with (first
                | (at_builtin; refine wpList_append_K (At := LbC) rfl _ _ 58 46 2 16 _ rfl Try.underlying58 infoLbS (by decide) (by decide) (by decide) W.heap.size _ _ rfl HOUT.out _ _ [x] rfl (OwnK.one _ _ rfl (LbC.one (x := x) rfl) rfl) (by simp; omega) (Nat.le_trans HSI.out.size (boxBelow _ _).size) ?_; intro v8 w8 hown8 hgrow8; have HO8 := hide hown8; have HG8 := hide hgrow8; clear hown8 hgrow8)
                | fail)
              go_roundw
              case rel => exact ⟨v + 1, by omega, by go_num, fun u => if u = v then F1 else F u, Below.grown (up HSI.out (boxBelow _ _)) HG8.out (Nat.le_trans HSI.out.size (boxBelow _ _).size) (fun k hk => (HLW.out.out.lt k hk).1), by
                  rw [range_snoc]
                  have e : ((List.range v).map fun u => Sv.xOf Z ss.length (if u = v then F1 else F u) cs (0, low)) = (List.range v).map fun u => Sv.xOf Z ss.length (F u) cs (0, low) :=
                    List.map_congr_left fun u hu => by rw [if_neg (by have := List.mem_range.1 hu; omega)]
                  rw [e, if_pos rfl, ← HXF.out]
                  exact HO8.out, fun u hu => by
                  by_cases eu : u = v
                  · simp only [eu, if_true]; exact ⟨HF1.out.fr, HDN.out⟩
                  · simp only [eu, if_false]; exact HLW.out.fr u (by omega)⟩
              case measure => simp [intOf]; omega
    · go_wp2_with fail
      go_ret
      obtain rfl : v = n := by omega
      exact ⟨_, _, rfl, ownK_las HLW.out.out hn, HLS.out F HLW.out.fr, up HB.out HLW.out.since⟩

end Go.Proofs.Ytholefgckcoklaa
