/- Walks over package downref: Names. -/
import Derived.Test.YtholefgckcoklaaGreatDoorBZAX
import Derived.Test.YtholefgckcoklaaGreatDoorBZBA
import Derived.Deep.CutRange
namespace Go.Proofs.YtholefgckcoklaaGreatDoor
open Go.RowKit
structure NmI (w W1 wx : World) (p : Nat) : Prop where
  below : Below w.heap.size w wx
  tells : Tells p W1 wx
theorem NmI.drew {w W1 wx : World} {p : Nat} (h : NmI w W1 wx p) : NmI w W1 wx.drew p := ⟨h.below.drew, ⟨h.tells.size, h.tells.block⟩⟩
theorem NmI.drewN {w W1 wx : World} {p n : Nat} (h : NmI w W1 wx p) : NmI w W1 (wx.drewN n) p := ⟨belowN_drew h.below, ⟨h.tells.size, h.tells.block⟩⟩
theorem NmI.grow {w W1 wx wy : World} {p : Nat} (h : NmI w W1 wx p) (hb : Below wx.heap.size wx wy) : NmI w W1 wy p := ⟨up h.below hb, h.tells.trans (Tells.of_below hb)⟩
theorem NmI.tell {w W1 wx wy : World} {p : Nat} (h : NmI w W1 wx p) (hb : Below w.heap.size wx wy) (ht : Tells p wx wy) : NmI w W1 wy p := ⟨h.below.trans hb, h.tells.trans ht⟩
theorem hidK_drew {w W1 wx : World} {p n e k : Nat} {α : Type} {At : List Value → α → Prop} {v : Value} {l : List α} (h : Hid (NmI w W1 wx p ∧ OwnK At wx n e k v l)) : Hid (NmI w W1 wx.drew p ∧ OwnK At wx.drew n e k v l) := hide ⟨h.out.1.drew, h.out.2.below (Below.refl _ _).drew⟩
theorem OwnK.drew1 {α : Type} {At : List Value → α → Prop} {w : World} {n e k : Nat} {v : Value} {l : List α} (h : OwnK At w n e k v l) : OwnK At w.drew n e k v l := h.below (Below.refl _ _).drew
theorem hidN_drew {w W1 wx : World} {p : Nat} (h : Hid (NmI w W1 wx p)) : Hid (NmI w W1 wx.drew p) := hide h.out.drew
theorem Told.drew {w : World} {n p : Nat} {l : List Dg} (h : Told w n p l) : Told w.drew n p l := h.below (Below.refl _ _).drew
theorem Told.drewN {w : World} {n p k : Nat} {l : List Dg} (h : Told w n p l) : Told (w.drewN k) n p l := h.below (below_drew (Below.refl _ _))
theorem OwnK.drewN2 {α : Type} {At : List Value → α → Prop} {w : World} {n e k j : Nat} {v : Value} {l : List α} (h : OwnK At w n e k v l) : OwnK At (w.drewN j) n e k v l := h.below (below_drew (Below.refl _ _))
theorem ExAt.name_le {w : World} : ∀ {m : Nat} {c0 c1 c2 c3 : Value} {x : Ex}, ExAt w m c0 c1 c2 c3 x → x.name.size ≤ maxLen
  | 0, _, _, _, _, _, h => False.elim h
  | _ + 1, _, _, _, _, _, ⟨_, _, _, h, _⟩ => h
namespace Nm
theorem tgt_cases (x : Mo) (k : Nat) (call : ByteArray) (known : List Mo) (fn : ByteArray) (q : Ex) (hq : q.name = call) :
    ((tgt x k call known).2.2 = false → rC x known k fn q = [⟨4, fn, call⟩]) ∧ ((tgt x k call known).2.2 = true → ∃ (j : Nat) (f : Fu),
      ((tgt x k call known = (-1, (j : Int), true) ∧ x.funs[j]? = some f ∧ rC x known k fn q = if f.params.length = q.args.length then [] else [⟨5, fn, call⟩]) ∨
       ∃ (a : Nat) (z : Mo), tgt x k call known = ((a : Int), (j : Int), true) ∧ known[a]? = some z ∧ z.funs[j]? = some f ∧ rC x known k fn q = if f.params.length = q.args.length then [] else [⟨5, fn, call⟩])) := by
  subst hq
  refine ⟨fun h => by unfold rC; rw [if_pos h], fun h => ?_⟩
  obtain ⟨h1, h2⟩ := tgt_ptgt x k q.name known
  rw [h] at h1
  have h3 := h2 h
  rcases ptgt_true h1.symm with ⟨i, f, he, hf⟩ | ⟨a, z, j, f, he, hz, hf⟩
  · refine ⟨i, f, Or.inl ⟨by rw [h3, he], hf, ?_⟩⟩
    unfold rC
    rw [if_neg (by rw [h]; decide), h3, he]
    simp [pfun, hf]
  · refine ⟨j, f, Or.inr ⟨a, z, by rw [h3, he], hz, hf, ?_⟩⟩
    unfold rC
    rw [if_neg (by rw [h]; decide), h3, he]
    have : ¬ ((a : Int) = -1) := by omega
    simp [pfun, this, hz, hf]
end Nm
set_option maxHeartbeats 4000000 in
set_option maxRecDepth 100000 in
theorem rnames_try (m : Nat) (w : World) (vn vl vi vv vf vk : Value) (names : List ByteArray) (x : Mo) (known : List Mo) (hN : Strs w vn names) (h : MoAt w m (.agg #[.string x.name, vi, vv, vf]) x) (hK : MosAt w m vk known) (hC : MoCap w vi vf) (hlen : (Nm.rIs x known).length < 16777216) (hlen2 : (Nm.rIs x known).length + (Nm.rVs names x).length < 16777216) (hal : ∀ f ∈ x.funs, (Nm.all m f.body).length ≤ 16777216 ∧ (Nm.calls m f.result ++ (Nm.all m f.body).flatMap fun s => Nm.calls m s.e).length ≤ 16777216) (hlen5 : (Nm.rIs x known).length + (Nm.rVs names x).length + (Nm.rFs names x known m).length < 16777216) :
    Calls Tryz.prog 12 #[.agg #[vn, vl], .agg #[.string x.name, vi, vv, vf], vk] w fun e w' => ∃ u, e = .returned u ∧ OwnK DgC w' w.heap.size 43 3 u (Nm.once (Nm.rIs x known ++ Nm.rVs names x ++ Nm.rFs names x known m)) ∧ Below w.heap.size w w' := by
  have HN := hide hN
  have HM := hide h
  have HK := hide hK
  have HMC := hide hC
  obtain ⟨hI, hV, hF⟩ := h.split
  have HSI := hide hI
  have hcapI := fun a n c e => hC.imp a n c e
  obtain ⟨an, bn, on, cn, rfl, -⟩ := hN
  obtain ⟨ai, bi, oi, ci, rfl, hai, hli, -, hci⟩ := hI
  obtain ⟨av, bv, ov, cv, rfl, hav, hlv, hcv⟩ := hV
  obtain ⟨af, bf, of, cf, rfl, haf, hlf, hcf⟩ := hF
  obtain ⟨ak, bk, ok, ck, rfl, hak, hlk, hck⟩ := hK
  have hci1 := hcapI _ _ _ rfl
  have HCI := hide hci
  have HAI := hide hai
  have HCV := hide hcv
  have HAV := hide hav
  have HCF : Hid (FuEl w m bf of x.funs) := hcf
  have HAF := hide haf
  have HCK : Hid (MoEl w m bk ok known) := hck
  have HAK := hide hak
  obtain ⟨ni, hni⟩ : ∃ n, n = x.imports.length := ⟨_, rfl⟩
  obtain ⟨nv, hnv⟩ : ∃ n, n = x.vars.length := ⟨_, rfl⟩
  obtain ⟨nf, hnf⟩ : ∃ n, n = x.funs.length := ⟨_, rfl⟩
  obtain ⟨nk, hnk⟩ : ∃ n, n = known.length := ⟨_, rfl⟩
  have HNI := hide hni
  have HNV := hide hnv
  have HNF := hide hnf
  have HNK := hide hnk
  obtain ⟨G1, hG1⟩ : ∃ G, G = Nm.atD x.imports (Nm.rI x known) := ⟨_, rfl⟩
  have HG1 := hide hG1
  have HLE1 : Hid ((Nm.upto G1 ni).length < 16777216) := hide (by rw [hG1, hni]; exact hlen)
  obtain ⟨G2, hG2⟩ : ∃ G, G = Nm.atD x.vars (Nm.rV names x) := ⟨_, rfl⟩
  have HG2 := hide hG2
  have HLE2 : Hid ((Nm.upto G1 ni).length + (Nm.upto G2 nv).length < 16777216) := hide (by rw [hG1, hni, hG2, hnv]; exact hlen2)
  obtain ⟨G5, hG5⟩ : ∃ G, G = Nm.atD x.funs fun k f => Nm.rF6 x k f ++ Nm.twA f.name f.params ++ Nm.rF8 names m f ++ Nm.rF9 x known m k f := ⟨_, rfl⟩
  have HG5 := hide hG5
  have HLE5 : Hid ((Nm.upto G1 ni).length + (Nm.upto G2 nv).length + (Nm.upto G5 nf).length < 16777216) := hide (by rw [hG1, hni, hG2, hnv, hG5, hnf]; exact hlen5)
  clear hlen2 hG2 hG5 hlen5
  rw [← hni] at hli HAI HSI hci1 ⊢
  rw [← hnv] at hlv HAV ⊢
  rw [← hnf] at hlf HAF HMC ⊢
  rw [← hnk] at hlk HAK ⊢
  generalize names.length = nn at *
  clear hcapI hC h hci hai hcv hav hcf haf hck hak hni hnv hnf hnk hG1 hlen
  obtain ⟨b0, b1, b2, b3, hb0⟩ := al4 w (.cells #[.slice an nn cn, vl] 34) (.cells #[.string x.name, .slice ai ni ci, .slice av nv cv, .slice af nf cf] 26) (.cells #[.slice none 0 0] 37)
    (.cells #[.func (.func 47) #[] #[.pointer (some ⟨w.heap.size + 1 + 1, 0, none⟩)]] 113)
  have HB0 := hide b0
  have HB1 := hide b1
  have HB3 := hide b3
  have HI0 : Hid (NmI w _ _ (w.heap.size + 1 + 1)) := hide ⟨hb0, Tells.refl _ _⟩
  have HTO : Hid (Told _ w.heap.size (w.heap.size + 1 + 1) []) := hide ⟨by omega, _, b2, OwnK.nil _ _ _ _⟩
  clear b0 b1 b2 b3 hb0
  go_enter Tryz.func12, Tryz.ntmps12
  go_wp2_with fail
  generalize ((((w.alloc (.cells #[.slice an nn cn, vl] 34)).alloc (.cells #[.string x.name, .slice ai ni ci, .slice av nv cv, .slice af nf cf] 26)).alloc (.cells #[.slice none 0 0] 37)).alloc
    (.cells #[.func (.func 47) #[] #[.pointer (some ⟨w.heap.size + 1 + 1, 0, none⟩)]] 113)) = W1 at *
  have HBX : Hid (∀ wx, NmI w W1 wx (w.heap.size + 1 + 1) → wx.cell? ⟨w.heap.size + 1, 0, none⟩ = some (.string x.name) ∧ wx.cell? ⟨w.heap.size + 1, 1, none⟩ = some (.slice ai ni ci) ∧ wx.cell? ⟨w.heap.size + 1, 2, none⟩ = some (.slice av nv cv) ∧ wx.cell? ⟨w.heap.size + 1, 3, none⟩ = some (.slice af nf cf) ∧
      wx.cell? ⟨w.heap.size + 1 + 1 + 1, 0, none⟩ = some (.func (.func 47) #[] #[.pointer (some ⟨w.heap.size + 1 + 1, 0, none⟩)]) ∧ wx.cell? ⟨w.heap.size, 0, none⟩ = some (.slice an nn cn)) := hide (fun wx h => by
    have c1 := h.tells.at (by omega) HB1.out (by decide)
    have c3 := h.tells.at (by omega) HB3.out (by decide)
    have c0 := h.tells.at (by omega) HB0.out (by decide)
    exact ⟨(block_at c1 0).trans rfl, (block_at c1 1).trans rfl, (block_at c1 2).trans rfl, (block_at c1 3).trans rfl, (block_at c3 0).trans rfl, (block_at c0 0).trans rfl⟩)
  go_loopw [10] (fun i wr => ∃ j : Nat, j ≤ ni ∧ i = .int .i64 j ∧ Told wr w.heap.size (w.heap.size + 1 + 1) (Nm.upto G1 j) ∧ NmI w W1 wr (w.heap.size + 1 + 1)) (fun i _ => ni - (intOf i).toNat)
  case atStart => exact ⟨0, Nat.zero_le _, rfl, HTO.out, HI0.out⟩
  case round =>
    obtain ⟨j, hj, rfl, hto, hinv⟩ := hrel
    have HT1 := hide hto
    have HI1 := hide hinv
    obtain ⟨r0, r1, r2, r3, r4, r5⟩ := HBX.out _ hinv
    clear hto
    by_cases hjl : j < ni
    · obtain ⟨s, hs⟩ : ∃ y, x.imports[j]? = some y := ⟨_, List.getElem?_eq_getElem (by rw [← HNI.out]; exact hjl)⟩
      have c0 := cellUp (HCI.out j (by rw [← HNI.out]; exact hjl)) hinv.below
      rw [List.getD_eq_getElem?_getD, hs, Option.getD_some] at c0
      obtain rfl := HAI.out (by omega)
      have HIJ : Hid (x.imports.getD j ByteArray.empty = s) := hide (by rw [List.getD_eq_getElem?_getD, hs]; rfl)
      have HY : Hid (G1 j = Nm.rI x known j s) := hide (by rw [HG1.out]; exact Nm.atD_some hs)
      obtain ⟨wo, rfl⟩ : ∃ wo, wo = wr := ⟨_, rfl⟩
      clear hs
      go_wp2_with fail
      go_loopw [11, 12] (fun b i wx => ∃ (t : Nat) (v : Bool), t ≤ nk ∧ i = .int .i64 t ∧ b = .bool v ∧ v = ((known.take t).any fun y => Nm.sameB y.name s) ∧ ∃ n, wx = wo.drewN n) (fun _ i _ => nk - (intOf i).toNat)
      case atStart => exact ⟨0, false, Nat.zero_le _, rfl, rfl, rfl, 0, rfl⟩
      case round =>
        obtain ⟨t, v, ht, rfl, rfl, hv, nw, rfl⟩ := hrel
        have HV := hide hv
        clear hv
        by_cases htk : t < nk
        · as_aux_lemma =>
            obtain ⟨y, hy⟩ : ∃ y, known[t]? = some y := ⟨_, List.getElem?_eq_getElem (by rw [← HNK.out]; exact htk)⟩
            obtain ⟨yi, yv, yf, g0, -, -, -, -⟩ := HCK.out t y hy
            obtain rfl := HAK.out (by omega)
            replace g0 := cellUp g0 hinv.below
            have HST : Hid (((known.take (t + 1)).any fun y => Nm.sameB y.name s) = (v || (y.name.toList == s.toList))) := hide (by rw [List.take_add_one, hy, HV.out]; simp [Nm.sameB])
            clear hy
            cases v
            · go_wp2_with fail
              go_quiet (fail)
              go_wp2_with fail
              go_roundw
              case rel => exact ⟨t + 1, _, by omega, by go_num, rfl, by rw [HST.out]; rfl, nw + nq, rfl⟩
              case measure => simp [intOf]; omega
            · go_wp2_with fail
              go_quiet (fail)
              go_wp2_with fail
              go_roundw
              case rel => exact ⟨t + 1, true, by omega, by go_num, rfl, by rw [HST.out]; rfl, nw + nq, rfl⟩
              case measure => simp [intOf]; omega
        · as_aux_lemma =>
            have hje : (known.take t) = known := List.take_of_length_le (by have := HNK.out; omega)
            rw [hje] at HV
            have HT2 := hide (HT1.out.drewN (k := nw))
            have HI2 := hide (HI1.out.drewN (n := nw))
            have HFC : Hid (∀ wx, Hid (NmI w W1 wx (w.heap.size + 1 + 1)) → wx.cell? ⟨w.heap.size + 1, 0, none⟩ = some (.string x.name) ∧ wx.cell? ⟨w.heap.size + 1, 1, none⟩ = some (.slice (some ⟨bi, oi, none⟩) ni ci) ∧ wx.cell? ⟨w.heap.size + 1 + 1 + 1, 0, none⟩ = some (.func (.func 47) #[] #[.pointer (some ⟨w.heap.size + 1 + 1, 0, none⟩)]) ∧ wx.cell? ⟨bi, oi + j, none⟩ = some (.string s)) :=
              hide (fun wx h => by
                obtain ⟨k0, k1, -, -, k4, -⟩ := HBX.out wx h.out
                refine ⟨k0, k1, k4, ?_⟩
                have := cellUp (HCI.out j (by rw [← HNI.out]; exact hjl)) h.out.below
                rw [HIJ.out] at this
                exact this)
            have HLJ : Hid ((Nm.upto G1 j).length + (G1 j).length < 16777216) := hide (by
              have h1 := Nm.upto_le G1 (show j + 1 ≤ ni by omega)
              rw [Nm.upto_succ, List.length_append] at h1
              have := HLE1.out
              omega)
            clear r0 r1 r2 r3 r4 r5 c0 hje hinv HT1 HI1
            generalize wo.drewN nw = W2 at *
            cases v
            · have HCD : Hid ((!(known.any fun y => Nm.sameB y.name s) || Nm.sameB s x.name) = true) := hide (by rw [← HV.out]; rfl)
              obtain ⟨r0, r1, r4, c0⟩ := HFC.out _ HI2
              go_wp2_with fail
              go_quiet (fail)
              have HT3 := hide (HT2.out.drewN (k := nq))
              have HI3 := hide (HI2.out.drewN (n := nq))
              clear r0 r1 r4 c0
              generalize W2.drewN nq = W3 at *
              obtain ⟨r0, r1, r4, c0⟩ := HFC.out _ HI3
              go_wp2_with fail
              go_region_held3 (fun wx => wx.cell? ⟨w.heap.size + 1, 1, none⟩ = some (.slice (some ⟨bi, oi, none⟩) ni ci) ∧ wx.cell? ⟨w.heap.size + 1 + 1 + 1, 0, none⟩ = some (.func (.func 47) #[] #[.pointer (some ⟨w.heap.size + 1 + 1, 0, none⟩)]) ∧ wx.cell? ⟨bi, oi + j, none⟩ = some (.string s))
                ((have hk := HFC.out _ (by repeat (first | exact HI5 | exact HI3 | apply hidN_drew)); exact hk.2))
                (first
                  | (go_at_call 47; refine (tell_any _ w.heap.size (w.heap.size + 1 + 1) _ 1 ⟨#[]⟩ s (by repeat (first | exact HT3.out | apply Told.drew)) (unhide (by repeat (first | exact HI3 | apply hidN_drew)) : NmI w W1 _ (w.heap.size + 1 + 1)).below.size (by have := HLJ.out; omega)).mono ?_; rintro e w5 ⟨rfl, hto5, hb5, ht5⟩; have HT5 := hide hto5; have HI5 : Hid (NmI w W1 w5 (w.heap.size + 1 + 1)) := hide (NmI.tell (unhide (by repeat (first | exact HI3 | apply hidN_drew))) hb5 ht5); clear hto5 hb5 ht5))
              clear r0 r1 r4 c0
              obtain ⟨r0, r1, r4, c0⟩ := HFC.out _ HI5
              have HCQ : Hid (∀ n, Calls Tryz.prog 49 #[.slice (some ⟨bi, oi, none⟩) j ci, .string s] (w5.drewN n) fun e w' => e = .returned (.bool (Nm.inB (x.imports.take j) s)) ∧ w' = w5.drewN n) := hide (fun n => containsS_any _ _ (x.imports.take j) s ((HSI.out.takeS (by rw [← HNI.out]; exact hj)).below (belowN_drew HI5.out.below)))
              obtain ⟨ib, hib⟩ : ∃ b, b = Nm.inB (x.imports.take j) s := ⟨_, rfl⟩
              have HIB := hide hib
              rw [← hib] at HCQ
              clear hib
              cases ib
              · go_wp2_with fail
                go_quiet ((exact Calls.quiet_of_same (HCQ.out _)))
                have HT8 := hide (HT5.out.drewN (k := nq))
                have HI8 := hide (HI5.out.drewN (n := nq))
                clear r0 r1 r4 c0
                go_wp2_with fail
                go_roundw
                case rel => exact ⟨j + 1, by omega, by go_num, by
                  have h8 := HT8.out
                  rw [Nm.upto_succ, HY.out, Nm.rI, ← HIB.out, if_neg (by simp : ¬ (false = true)), List.append_nil, if_pos HCD.out]
                  first | exact h8 | simpa using h8, HI8.out⟩
                case measure => simp [intOf]; omega
              · go_wp2_with fail
                go_quiet ((exact Calls.quiet_of_same (HCQ.out _)))
                have HT8 := hide (HT5.out.drewN (k := nq))
                have HI8 := hide (HI5.out.drewN (n := nq))
                clear r0 r1 r4 c0 HCQ
                generalize w5.drewN nq = W8 at *
                obtain ⟨r0, r1, r4, c0⟩ := HFC.out _ HI8
                go_wp2_with fail
                go_region_held3 (fun wx => wx.cell? ⟨w.heap.size + 1, 1, none⟩ = some (.slice (some ⟨bi, oi, none⟩) ni ci) ∧ wx.cell? ⟨w.heap.size + 1 + 1 + 1, 0, none⟩ = some (.func (.func 47) #[] #[.pointer (some ⟨w.heap.size + 1 + 1, 0, none⟩)]) ∧ wx.cell? ⟨bi, oi + j, none⟩ = some (.string s))
                  ((have hk := HFC.out _ (by repeat (first | exact HI9 | exact HI8 | apply hidN_drew)); exact hk.2))
                  (first
                    | (go_at_call 47; refine (tell_any _ w.heap.size (w.heap.size + 1 + 1) _ 2 ⟨#[]⟩ s (by repeat (first | exact HT8.out | apply Told.drew)) (unhide (by repeat (first | exact HI8 | apply hidN_drew)) : NmI w W1 _ (w.heap.size + 1 + 1)).below.size (by have := HLJ.out; rw [HY.out, Nm.rI, ← HIB.out, if_pos HCD.out] at this; simp at this ⊢; omega)).mono ?_; rintro e w9 ⟨rfl, hto9, hb9, ht9⟩; have HT9 := hide hto9; have HI9 : Hid (NmI w W1 w9 (w.heap.size + 1 + 1)) := hide (NmI.tell (unhide (by repeat (first | exact HI8 | apply hidN_drew))) hb9 ht9); clear hto9 hb9 ht9))
                clear r0 r1 r4 c0
                go_wp2_with fail
                go_roundw
                case rel => exact ⟨j + 1, by omega, by go_num, by
                  have h9 := HT9.out
                  rw [Nm.upto_succ, HY.out, Nm.rI, ← HIB.out, if_pos (rfl : true = true), if_pos HCD.out]
                  simpa using h9, HI9.out⟩
                case measure => simp [intOf]; omega
            · cases hb : (s.toList == x.name.toList)
              · have HCD : Hid (¬ (!(known.any fun y => Nm.sameB y.name s) || Nm.sameB s x.name) = true) := hide (by rw [← HV.out]; show ¬ (false || (s.toList == x.name.toList)) = true; rw [hb]; simp)
                obtain ⟨r0, r1, r4, c0⟩ := HFC.out _ HI2
                go_wp2_with fail
                go_quiet (fail)
                have HT3 := hide (HT2.out.drewN (k := nq))
                have HI3 := hide (HI2.out.drewN (n := nq))
                clear r0 r1 r4 c0
                generalize W2.drewN nq = W3 at *
                obtain ⟨r0, r1, r4, c0⟩ := HFC.out _ HI3
                have HCQ : Hid (∀ n, Calls Tryz.prog 49 #[.slice (some ⟨bi, oi, none⟩) j ci, .string s] (W3.drewN n) fun e w' => e = .returned (.bool (Nm.inB (x.imports.take j) s)) ∧ w' = W3.drewN n) := hide (fun n => containsS_any _ _ (x.imports.take j) s ((HSI.out.takeS (by rw [← HNI.out]; exact hj)).below (belowN_drew HI3.out.below)))
                obtain ⟨ib, hib⟩ : ∃ b, b = Nm.inB (x.imports.take j) s := ⟨_, rfl⟩
                have HIB := hide hib
                rw [← hib] at HCQ
                clear hib
                cases ib
                · go_wp2_with fail
                  go_quiet ((exact Calls.quiet_of_same (HCQ.out _)))
                  have HT8 := hide (HT3.out.drewN (k := nq))
                  have HI8 := hide (HI3.out.drewN (n := nq))
                  clear r0 r1 r4 c0
                  go_wp2_with fail
                  go_roundw
                  case rel => exact ⟨j + 1, by omega, by go_num, by
                    have h8 := HT8.out
                    rw [Nm.upto_succ, HY.out, Nm.rI, ← HIB.out, if_neg (by simp : ¬ (false = true)), List.append_nil, if_neg HCD.out]
                    first | exact h8 | simpa using h8, HI8.out⟩
                  case measure => simp [intOf]; omega
                · go_wp2_with fail
                  go_quiet ((exact Calls.quiet_of_same (HCQ.out _)))
                  have HT8 := hide (HT3.out.drewN (k := nq))
                  have HI8 := hide (HI3.out.drewN (n := nq))
                  clear r0 r1 r4 c0 HCQ
                  generalize W3.drewN nq = W8 at *
                  obtain ⟨r0, r1, r4, c0⟩ := HFC.out _ HI8
                  go_wp2_with fail
                  go_region_held3 (fun wx => wx.cell? ⟨w.heap.size + 1, 1, none⟩ = some (.slice (some ⟨bi, oi, none⟩) ni ci) ∧ wx.cell? ⟨w.heap.size + 1 + 1 + 1, 0, none⟩ = some (.func (.func 47) #[] #[.pointer (some ⟨w.heap.size + 1 + 1, 0, none⟩)]) ∧ wx.cell? ⟨bi, oi + j, none⟩ = some (.string s))
                    ((have hk := HFC.out _ (by repeat (first | exact HI9 | exact HI8 | apply hidN_drew)); exact hk.2))
                    (first
                      | (go_at_call 47; refine (tell_any _ w.heap.size (w.heap.size + 1 + 1) _ 2 ⟨#[]⟩ s (by repeat (first | exact HT8.out | apply Told.drew)) (unhide (by repeat (first | exact HI8 | apply hidN_drew)) : NmI w W1 _ (w.heap.size + 1 + 1)).below.size (by have := HLJ.out; rw [HY.out, Nm.rI, ← HIB.out, if_neg HCD.out] at this; simp at this ⊢; omega)).mono ?_; rintro e w9 ⟨rfl, hto9, hb9, ht9⟩; have HT9 := hide hto9; have HI9 : Hid (NmI w W1 w9 (w.heap.size + 1 + 1)) := hide (NmI.tell (unhide (by repeat (first | exact HI8 | apply hidN_drew))) hb9 ht9); clear hto9 hb9 ht9))
                  clear r0 r1 r4 c0
                  go_wp2_with fail
                  go_roundw
                  case rel => exact ⟨j + 1, by omega, by go_num, by
                    have h9 := HT9.out
                    rw [Nm.upto_succ, HY.out, Nm.rI, ← HIB.out, if_pos (rfl : true = true), if_neg HCD.out]
                    simpa using h9, HI9.out⟩
                  case measure => simp [intOf]; omega
              · have HCD : Hid ((!(known.any fun y => Nm.sameB y.name s) || Nm.sameB s x.name) = true) := hide (by rw [← HV.out]; show (false || (s.toList == x.name.toList)) = true; rw [hb]; rfl)
                obtain ⟨r0, r1, r4, c0⟩ := HFC.out _ HI2
                go_wp2_with fail
                go_quiet (fail)
                have HT3 := hide (HT2.out.drewN (k := nq))
                have HI3 := hide (HI2.out.drewN (n := nq))
                clear r0 r1 r4 c0
                generalize W2.drewN nq = W3 at *
                obtain ⟨r0, r1, r4, c0⟩ := HFC.out _ HI3
                go_wp2_with fail
                go_region_held3 (fun wx => wx.cell? ⟨w.heap.size + 1, 1, none⟩ = some (.slice (some ⟨bi, oi, none⟩) ni ci) ∧ wx.cell? ⟨w.heap.size + 1 + 1 + 1, 0, none⟩ = some (.func (.func 47) #[] #[.pointer (some ⟨w.heap.size + 1 + 1, 0, none⟩)]) ∧ wx.cell? ⟨bi, oi + j, none⟩ = some (.string s))
                  ((have hk := HFC.out _ (by repeat (first | exact HI5 | exact HI3 | apply hidN_drew)); exact hk.2))
                  (first
                    | (go_at_call 47; refine (tell_any _ w.heap.size (w.heap.size + 1 + 1) _ 1 ⟨#[]⟩ s (by repeat (first | exact HT3.out | apply Told.drew)) (unhide (by repeat (first | exact HI3 | apply hidN_drew)) : NmI w W1 _ (w.heap.size + 1 + 1)).below.size (by have := HLJ.out; omega)).mono ?_; rintro e w5 ⟨rfl, hto5, hb5, ht5⟩; have HT5 := hide hto5; have HI5 : Hid (NmI w W1 w5 (w.heap.size + 1 + 1)) := hide (NmI.tell (unhide (by repeat (first | exact HI3 | apply hidN_drew))) hb5 ht5); clear hto5 hb5 ht5))
                clear r0 r1 r4 c0
                obtain ⟨r0, r1, r4, c0⟩ := HFC.out _ HI5
                have HCQ : Hid (∀ n, Calls Tryz.prog 49 #[.slice (some ⟨bi, oi, none⟩) j ci, .string s] (w5.drewN n) fun e w' => e = .returned (.bool (Nm.inB (x.imports.take j) s)) ∧ w' = w5.drewN n) := hide (fun n => containsS_any _ _ (x.imports.take j) s ((HSI.out.takeS (by rw [← HNI.out]; exact hj)).below (belowN_drew HI5.out.below)))
                obtain ⟨ib, hib⟩ : ∃ b, b = Nm.inB (x.imports.take j) s := ⟨_, rfl⟩
                have HIB := hide hib
                rw [← hib] at HCQ
                clear hib
                cases ib
                · go_wp2_with fail
                  go_quiet ((exact Calls.quiet_of_same (HCQ.out _)))
                  have HT8 := hide (HT5.out.drewN (k := nq))
                  have HI8 := hide (HI5.out.drewN (n := nq))
                  clear r0 r1 r4 c0
                  go_wp2_with fail
                  go_roundw
                  case rel => exact ⟨j + 1, by omega, by go_num, by
                    have h8 := HT8.out
                    rw [Nm.upto_succ, HY.out, Nm.rI, ← HIB.out, if_neg (by simp : ¬ (false = true)), List.append_nil, if_pos HCD.out]
                    first | exact h8 | simpa using h8, HI8.out⟩
                  case measure => simp [intOf]; omega
                · go_wp2_with fail
                  go_quiet ((exact Calls.quiet_of_same (HCQ.out _)))
                  have HT8 := hide (HT5.out.drewN (k := nq))
                  have HI8 := hide (HI5.out.drewN (n := nq))
                  clear r0 r1 r4 c0 HCQ
                  generalize w5.drewN nq = W8 at *
                  obtain ⟨r0, r1, r4, c0⟩ := HFC.out _ HI8
                  go_wp2_with fail
                  go_region_held3 (fun wx => wx.cell? ⟨w.heap.size + 1, 1, none⟩ = some (.slice (some ⟨bi, oi, none⟩) ni ci) ∧ wx.cell? ⟨w.heap.size + 1 + 1 + 1, 0, none⟩ = some (.func (.func 47) #[] #[.pointer (some ⟨w.heap.size + 1 + 1, 0, none⟩)]) ∧ wx.cell? ⟨bi, oi + j, none⟩ = some (.string s))
                    ((have hk := HFC.out _ (by repeat (first | exact HI9 | exact HI8 | apply hidN_drew)); exact hk.2))
                    (first
                      | (go_at_call 47; refine (tell_any _ w.heap.size (w.heap.size + 1 + 1) _ 2 ⟨#[]⟩ s (by repeat (first | exact HT8.out | apply Told.drew)) (unhide (by repeat (first | exact HI8 | apply hidN_drew)) : NmI w W1 _ (w.heap.size + 1 + 1)).below.size (by have := HLJ.out; rw [HY.out, Nm.rI, ← HIB.out, if_pos HCD.out] at this; simp at this ⊢; omega)).mono ?_; rintro e w9 ⟨rfl, hto9, hb9, ht9⟩; have HT9 := hide hto9; have HI9 : Hid (NmI w W1 w9 (w.heap.size + 1 + 1)) := hide (NmI.tell (unhide (by repeat (first | exact HI8 | apply hidN_drew))) hb9 ht9); clear hto9 hb9 ht9))
                  clear r0 r1 r4 c0
                  go_wp2_with fail
                  go_roundw
                  case rel => exact ⟨j + 1, by omega, by go_num, by
                    have h9 := HT9.out
                    rw [Nm.upto_succ, HY.out, Nm.rI, ← HIB.out, if_pos (rfl : true = true), if_pos HCD.out]
                    simpa using h9, HI9.out⟩
                  case measure => simp [intOf]; omega
    · have hje : j = ni := by omega
      rw [hje] at HT1
      clear hje hinv
      generalize hL1 : Nm.upto G1 ni = L1 at *
      have HL1 := hide hL1
      clear hL1
      go_wp2_with fail
      clear r0 r1 r2 r3 r4 r5
      go_loopw [13] (fun i wx => ∃ q : Nat, q ≤ nv ∧ i = .int .i64 q ∧ Told wx w.heap.size (w.heap.size + 1 + 1) (L1 ++ Nm.upto G2 q) ∧ NmI w W1 wx (w.heap.size + 1 + 1)) (fun i _ => nv - (intOf i).toNat)
      case atStart => exact ⟨0, Nat.zero_le _, rfl, by rw [Nm.upto_zero, List.append_nil]; exact HT1.out, HI1.out⟩
      case round =>
        obtain ⟨q, hq, rfl, hto, hinv⟩ := hrel
        have HT2 := hide hto
        have HI2 := hide hinv
        obtain ⟨r0, r1, r2, r3, r4, r5⟩ := HBX.out _ hinv
        clear hto
        by_cases hql : q < nv
        · obtain ⟨y, hy⟩ : ∃ y, x.vars[q]? = some y := ⟨_, List.getElem?_eq_getElem (by rw [← HNV.out]; exact hql)⟩
          obtain ⟨-, -, g0, g1⟩ := HCV.out q y hy
          obtain rfl := HAV.out (by omega)
          have HG0 := hide g0
          replace g1 := cellUp g1 hinv.below
          obtain ⟨G3, hG3⟩ : ∃ G, G = Nm.atD x.vars fun _ u => if Nm.sameB u.name y.name = true then [(⟨2, ⟨#[]⟩, y.name⟩ : Dg)] else [] := ⟨_, rfl⟩
          have HG3 := hide hG3
          have HY : Hid (G2 q = Nm.lev names ⟨#[]⟩ y.level ++ Nm.upto G3 q) := hide (by rw [HG2.out, hG3]; exact Nm.atD_some hy)
          have HLJ : Hid (L1.length + (Nm.upto G2 q).length + (Nm.lev names ⟨#[]⟩ y.level).length + (Nm.upto G3 q).length < 16777216) := hide (by
            have h1 := Nm.upto_le G2 (show q + 1 ≤ nv by omega)
            rw [Nm.upto_succ, List.length_append, HY.out, List.length_append] at h1
            have := HLE2.out
            omega)
          have HR4 := hide r4
          have HR5 := hide r5
          clear hy hG3 g0
          go_wp2_with fail
          refine (level_any _ w.heap.size (w.heap.size + 1 + 1) w.heap.size (w.heap.size + 1 + 1 + 1) _ _ names ⟨#[]⟩ y.level HT2.out hinv.below.size (by have := HLJ.out; rw [List.length_append]; omega) HR5.out (HN.out.below hinv.below) HR4.out).mono ?_
          rintro e w5 ⟨rfl, hto5, hb5, ht5⟩
          have HT5 := hide hto5
          have HI5 : Hid (NmI w W1 w5 (w.heap.size + 1 + 1)) := hide (HI2.out.tell hb5 ht5)
          clear hto5 hb5 ht5 r0 r1 r2 r3 r4 r5 g1 hinv
          generalize Nm.lev names ⟨#[]⟩ y.level = LV at *
          go_wp2_with fail
          go_loopw [14] (fun i wx => ∃ t : Nat, t ≤ q ∧ i = .int .i64 t ∧ Told wx w.heap.size (w.heap.size + 1 + 1) ((L1 ++ Nm.upto G2 q) ++ LV ++ Nm.upto G3 t) ∧ NmI w W1 wx (w.heap.size + 1 + 1)) (fun i _ => q - (intOf i).toNat)
          case atStart => exact ⟨0, Nat.zero_le _, rfl, by rw [Nm.upto_zero, List.append_nil]; exact HT5.out, HI5.out⟩
          case round =>
            obtain ⟨t, ht, rfl, hto, hinv⟩ := hrel
            have HT6 := hide hto
            have HI6 := hide hinv
            obtain ⟨r0, r1, r2, r3, r4, r5⟩ := HBX.out _ hinv
            clear hto
            by_cases htq : t < q
            · as_aux_lemma =>
                obtain ⟨u, hu⟩ : ∃ y, x.vars[t]? = some y := ⟨_, List.getElem?_eq_getElem (by rw [← HNV.out]; omega)⟩
                obtain ⟨-, -, g0, -⟩ := HCV.out t u hu
                have HFC : Hid (∀ wx, Hid (NmI w W1 wx (w.heap.size + 1 + 1)) → wx.cell? ⟨w.heap.size + 1, 2, none⟩ = some (.slice (some ⟨bv, ov, none⟩) nv cv) ∧ wx.cell? ⟨w.heap.size + 1 + 1 + 1, 0, none⟩ = some (.func (.func 47) #[] #[.pointer (some ⟨w.heap.size + 1 + 1, 0, none⟩)]) ∧ wx.cell? ⟨bv, ov + q * 2, none⟩ = some (.string y.name)) := hide (fun wx h => by
                  obtain ⟨-, -, k2, -, k4, -⟩ := HBX.out wx h.out
                  exact ⟨k2, k4, cellUp HG0.out h.out.below⟩)
                have HU : Hid (G3 t = if Nm.sameB u.name y.name = true then [⟨2, ⟨#[]⟩, y.name⟩] else []) := hide (by rw [HG3.out]; exact Nm.atD_some hu)
                replace g0 := cellUp g0 hinv.below
                have y0 := cellUp HG0.out hinv.below
                have HTL : Hid ((Nm.upto G3 t).length + (G3 t).length ≤ (Nm.upto G3 q).length) := hide (by
                  have h1 := Nm.upto_le G3 (show t + 1 ≤ q by omega)
                  rw [Nm.upto_succ, List.length_append] at h1
                  exact h1)
                clear hu
                cases hsb : (u.name.toList == y.name.toList)
                · have HSB : Hid (Nm.sameB u.name y.name = false) := hide hsb
                  go_wp2_with fail
                  go_quiet (fail)
                  have HT8 := hide (HT6.out.drewN (k := nq))
                  have HI8 := hide (HI6.out.drewN (n := nq))
                  clear r0 r1 r2 r3 r4 r5 g0 y0
                  go_wp2_with fail
                  go_roundw
                  case rel => exact ⟨t + 1, by omega, by go_num, by
                    rw [Nm.upto_succ, HU.out, HSB.out, if_neg (by simp), List.append_nil]
                    exact HT8.out, HI8.out⟩
                  case measure => simp [intOf]; omega
                · have HSB : Hid (Nm.sameB u.name y.name = true) := hide hsb
                  go_wp2_with fail
                  go_quiet (fail)
                  have HT8 := hide (HT6.out.drewN (k := nq))
                  have HI8 := hide (HI6.out.drewN (n := nq))
                  clear r0 r1 r2 r3 r4 r5 g0 y0 hinv
                  generalize wr.drewN nq = W8 at *
                  obtain ⟨r2, r4, y0⟩ := HFC.out _ HI8
                  go_wp2_with fail
                  go_region_held3 (fun wx => wx.cell? ⟨w.heap.size + 1, 2, none⟩ = some (.slice (some ⟨bv, ov, none⟩) nv cv) ∧ wx.cell? ⟨w.heap.size + 1 + 1 + 1, 0, none⟩ = some (.func (.func 47) #[] #[.pointer (some ⟨w.heap.size + 1 + 1, 0, none⟩)]) ∧ wx.cell? ⟨bv, ov + q * 2, none⟩ = some (.string y.name))
                    ((exact HFC.out _ (by repeat (first | exact HI9 | exact HI8 | apply hidN_drew))))
                    (first
                      | (go_at_call 47; refine (tell_any _ w.heap.size (w.heap.size + 1 + 1) _ 2 ⟨#[]⟩ y.name (by repeat (first | exact HT8.out | apply Told.drew)) (unhide (by repeat (first | exact HI8 | apply hidN_drew)) : NmI w W1 _ (w.heap.size + 1 + 1)).below.size (by have h1 := HLJ.out; have h2 := HTL.out; rw [HU.out, HSB.out, if_pos rfl] at h2; simp only [List.length_append, List.length_singleton] at h2 ⊢; omega)).mono ?_; rintro e w9 ⟨rfl, hto9, hb9, ht9⟩; have HT9 := hide hto9; have HI9 : Hid (NmI w W1 w9 (w.heap.size + 1 + 1)) := hide (NmI.tell (unhide (by repeat (first | exact HI8 | apply hidN_drew))) hb9 ht9); clear hto9 hb9 ht9))
                  clear r2 r4 y0
                  go_wp2_with fail
                  go_roundw
                  case rel => exact ⟨t + 1, by omega, by go_num, by
                    rw [Nm.upto_succ, HU.out, HSB.out, if_pos rfl, ← List.append_assoc]
                    exact HT9.out, HI9.out⟩
                  case measure => simp [intOf]; omega
            · as_aux_lemma =>
                have hje : t = q := by omega
                clear r0 r1 r2 r3 r4 r5 hinv
                go_wp2_with fail
                go_roundw
                case rel => exact ⟨q + 1, by omega, by go_num, by
                  have h6 := HT6.out
                  rw [hje] at h6
                  rw [Nm.upto_succ, HY.out]
                  simpa using h6, HI6.out⟩
                case measure => simp [intOf]; omega
        · have hje : q = nv := by omega
          rw [hje] at HT2
          clear hje hinv
          generalize hL2 : L1 ++ Nm.upto G2 nv = L2 at *
          go_wp2_with fail
          clear r0 r1 r2 r3 r4 r5
          go_loopw [15] (fun i wx => ∃ k : Nat, k ≤ nf ∧ i = .int .i64 k ∧ Told wx w.heap.size (w.heap.size + 1 + 1) (L2 ++ Nm.upto G5 k) ∧ NmI w W1 wx (w.heap.size + 1 + 1)) (fun i _ => nf - (intOf i).toNat)
          case atStart => exact ⟨0, Nat.zero_le _, rfl, by rw [Nm.upto_zero, List.append_nil]; exact HT2.out, HI2.out⟩
          case round =>
            obtain ⟨k, hk, rfl, hto, hinv⟩ := hrel
            have HT3 := hide hto
            have HI3 := hide hinv
            obtain ⟨r0, r1, r2, r3, r4, r5⟩ := HBX.out _ hinv
            by_cases hkf : k < nf
            · obtain ⟨y, hy⟩ : ∃ y, x.funs[k]? = some y := ⟨_, List.getElem?_eq_getElem (by rw [← HNF.out]; exact hkf)⟩
              obtain ⟨-, vp, vb, e0, e1, e2, e3, g0, g1, g2, g3, g4, g5, g6, hp, hb, hx⟩ := HCF.out k y hy
              obtain rfl := HAF.out (by omega)
              have HVB := hide hb
              have HVX := hide hx
              have HVP := hide hp
              have HPCAP : Hid (CapOK vp) := hide (by
                obtain ⟨vp', k1, k2⟩ := HMC.out.par bf of nf cf rfl k hkf
                rw [g1] at k1
                cases k1
                exact k2)
              replace g0 := cellUp g0 hinv.below
              replace g1 := cellUp g1 hinv.below
              replace g2 := cellUp g2 hinv.below
              replace g3 := cellUp g3 hinv.below
              replace g4 := cellUp g4 hinv.below
              replace g5 := cellUp g5 hinv.below
              replace g6 := cellUp g6 hinv.below
              obtain ⟨ap, bp, op, cp, rfl, hap, hlp, hsp, hcp⟩ := hp
              obtain ⟨sb, cb', rfl⟩ := hb.shapeN
              obtain ⟨xa, xc, rfl, rfl, rfl, rfl⟩ := hx.shape
              have HCP := hide hcp
              have HAP := hide hap
              have hcapp := HPCAP.out _ _ _ rfl
              obtain ⟨np, hnp⟩ : ∃ n, n = y.params.length := ⟨_, rfl⟩
              have HNP := hide hnp
              rw [← hnp] at g1 HAP hlp HVP hcapp
              generalize y.body.length = nb at *
              generalize y.result.args.length = ne at *
              have HAL := hide (hal y (List.mem_of_getElem? hy))
              have HY : Hid (G5 k = Nm.rF6 x k y ++ Nm.twA y.name y.params ++ Nm.rF8 names m y ++ Nm.rF9 x known m k y) := hide (by rw [HG5.out]; exact Nm.atD_some hy)
              have HLJ : Hid (L2.length + (Nm.upto G5 k).length + (G5 k).length < 16777216) := hide (by
                have h1 := Nm.upto_le G5 (show k + 1 ≤ nf by omega)
                rw [Nm.upto_succ, List.length_append] at h1
                have := HLE5.out
                rw [← hL2]
                rw [List.length_append]
                omega)
              obtain ⟨bF, hbF⟩ : ∃ b, b = wr.heap.size := ⟨_, rfl⟩
              have HBF := hide hbF
              have HBN := hide (block_new wr (.cells #[.string y.name, .slice ap np cp, .slice sb nb cb', .int .i64 y.result.kind, .int .i64 y.result.n, .string y.result.name, .slice xa ne xc] 106))
              have HB5 := hide (boxBelow wr (.cells #[.string y.name, .slice ap np cp, .slice sb nb cb', .int .i64 y.result.kind, .int .i64 y.result.n, .string y.result.name, .slice xa ne xc] 106))
              have HIF := hide (HI3.out.grow HB5.out)
              have HTF := hide (HT3.out.below HB5.out)
              have HPF := hide hto.lt
              rw [← hbF] at HBN HPF
              clear hy hb hx hap hcp hnp hto hinv hsp
              go_wp2_with fail
              rw [← HBF.out]
              clear hbF
              generalize (wr.alloc (.cells #[.string y.name, .slice ap np cp, .slice sb nb cb', .int .i64 y.result.kind, .int .i64 y.result.n, .string y.result.name, .slice xa ne xc] 106)) = WF at *
              have HBY : Hid (∀ wx, NmI w WF wx (w.heap.size + 1 + 1) → wx.cell? ⟨w.heap.size + 1, 3, none⟩ = some (.slice (some ⟨bf, of, none⟩) nf cf) ∧ wx.cell? ⟨w.heap.size + 1 + 1 + 1, 0, none⟩ = some (.func (.func 47) #[] #[.pointer (some ⟨w.heap.size + 1 + 1, 0, none⟩)]) ∧ wx.cell? ⟨w.heap.size, 0, none⟩ = some (.slice an nn cn) ∧
                  wx.cell? ⟨bF, 0, none⟩ = some (.string y.name) ∧ wx.cell? ⟨bF, 1, none⟩ = some (.slice ap np cp) ∧ wx.cell? ⟨bF, 2, none⟩ = some (.slice sb nb cb') ∧ wx.cell? ⟨bF, 3, none⟩ = some (.int .i64 y.result.kind) ∧ wx.cell? ⟨bF, 4, none⟩ = some (.int .i64 y.result.n) ∧ wx.cell? ⟨bF, 5, none⟩ = some (.string y.result.name) ∧ wx.cell? ⟨bF, 6, none⟩ = some (.slice xa ne xc)) := hide (fun wx h => by
                obtain ⟨-, -, -, k3, k4, k5⟩ := HBX.out wx ⟨h.below, HIF.out.tells.trans h.tells⟩
                have c1 := h.tells.at (by have := HPF.out; omega) HBN.out (by decide)
                exact ⟨k3, k4, k5, (block_at c1 0).trans rfl, (block_at c1 1).trans rfl, (block_at c1 2).trans rfl, (block_at c1 3).trans rfl, (block_at c1 4).trans rfl, (block_at c1 5).trans rfl, (block_at c1 6).trans rfl⟩)
              have HI4 : Hid (NmI w WF WF (w.heap.size + 1 + 1)) := hide ⟨HIF.out.below, Tells.refl _ _⟩
              obtain ⟨G6, hG6⟩ : ∃ G, G = Nm.atD x.funs fun _ g => if Nm.sameB g.name y.name = true then [(⟨2, ⟨#[]⟩, y.name⟩ : Dg)] else [] := ⟨_, rfl⟩
              have HG6 := hide hG6
              have HR6 : Hid (Nm.rF6 x k y = Nm.upto G6 k) := hide (by rw [hG6]; rfl)
              obtain ⟨L3, hL3⟩ : ∃ L, L = L2 ++ Nm.upto G5 k := ⟨_, rfl⟩
              have HL3 := hide hL3
              rw [← hL3] at HTF
              have HLK : Hid (L3.length + (Nm.upto G6 k).length + (Nm.twA y.name y.params).length + (Nm.rF8 names m y).length + (Nm.rF9 x known m k y).length < 16777216) := hide (by
                have h1 := HLJ.out
                rw [HY.out, HR6.out] at h1
                rw [hL3]
                simp only [List.length_append] at h1 ⊢
                omega)
              clear hG6 hL3 g0 g1 g2 g3 g4 g5 g6 r0 r1 r2 r3 r4 r5 HI3 HT3 HB5
              go_loopw [17] (fun i wx => ∃ t : Nat, t ≤ k ∧ i = .int .i64 t ∧ Told wx w.heap.size (w.heap.size + 1 + 1) (L3 ++ Nm.upto G6 t) ∧ NmI w WF wx (w.heap.size + 1 + 1)) (fun i _ => k - (intOf i).toNat)
              case atStart => exact ⟨0, Nat.zero_le _, rfl, by rw [Nm.upto_zero, List.append_nil]; exact HTF.out, HI4.out⟩
              case round =>
                obtain ⟨t, ht, rfl, hto, hinv⟩ := hrel
                have HT6 := hide hto
                have HI6 := hide hinv
                obtain ⟨r3, r4, -, f0, f1, f2, f3, f4, f5, f6⟩ := HBY.out _ hinv
                clear hto
                by_cases htk : t < k
                · as_aux_lemma =>
                    obtain ⟨u, hu⟩ : ∃ y, x.funs[t]? = some y := ⟨_, List.getElem?_eq_getElem (by rw [← HNF.out]; omega)⟩
                    obtain ⟨-, vp', vb', d0, d1, d2, d3, g0, -⟩ := HCF.out t u hu
                    replace g0 := cellUp g0 hinv.below
                    have HU : Hid (G6 t = if Nm.sameB u.name y.name = true then [⟨2, ⟨#[]⟩, y.name⟩] else []) := hide (by rw [HG6.out]; exact Nm.atD_some hu)
                    have HTL : Hid ((Nm.upto G6 t).length + (G6 t).length ≤ (Nm.upto G6 k).length) := hide (by
                      have h1 := Nm.upto_le G6 (show t + 1 ≤ k by omega)
                      rw [Nm.upto_succ, List.length_append] at h1
                      exact h1)
                    clear hu
                    cases hsb : (u.name.toList == y.name.toList)
                    · have HSB : Hid (Nm.sameB u.name y.name = false) := hide hsb
                      go_wp2_with fail
                      go_quiet (fail)
                      have HT8 := hide (HT6.out.drewN (k := nq))
                      have HI8 := hide (HI6.out.drewN (n := nq))
                      clear r3 r4 f0 f1 f2 f3 f4 f5 f6 g0
                      go_wp2_with fail
                      go_roundw
                      case rel => exact ⟨t + 1, by omega, by go_num, by
                        rw [Nm.upto_succ, HU.out, HSB.out, if_neg (by simp), List.append_nil]
                        exact HT8.out, HI8.out⟩
                      case measure => simp [intOf]; omega
                    · have HSB : Hid (Nm.sameB u.name y.name = true) := hide hsb
                      go_wp2_with fail
                      go_quiet (fail)
                      have HT8 := hide (HT6.out.drewN (k := nq))
                      have HI8 := hide (HI6.out.drewN (n := nq))
                      clear r3 r4 f0 f1 f2 f3 f4 f5 f6 g0 hinv
                      generalize wr.drewN nq = W8 at *
                      obtain ⟨r3, r4, -, f0, f1, f2, f3, f4, f5, f6⟩ := HBY.out _ HI8.out
                      go_wp2_with fail
                      refine (tell_any _ w.heap.size (w.heap.size + 1 + 1) _ 2 ⟨#[]⟩ y.name HT8.out HI8.out.below.size (by have h1 := HLK.out; have h2 := HTL.out; rw [HU.out, HSB.out, if_pos rfl] at h2; simp only [List.length_append, List.length_singleton] at h2 ⊢; omega)).mono ?_
                      rintro e w9 ⟨rfl, hto9, hb9, ht9⟩
                      have HT9 := hide hto9
                      have HI9 : Hid (NmI w WF w9 (w.heap.size + 1 + 1)) := hide (NmI.tell HI8.out hb9 ht9)
                      clear hto9 hb9 ht9 r3 r4 f0 f1 f2 f3 f4 f5 f6
                      go_wp2_with fail
                      go_roundw
                      case rel => exact ⟨t + 1, by omega, by go_num, by
                        rw [Nm.upto_succ, HU.out, HSB.out, if_pos rfl, ← List.append_assoc]
                        exact HT9.out, HI9.out⟩
                      case measure => simp [intOf]; omega
                · have hje : t = k := by omega
                  rw [hje] at HT6
                  obtain ⟨L4, hL4⟩ : ∃ L, L = L3 ++ Nm.upto G6 k := ⟨_, rfl⟩
                  have HL4 := hide hL4
                  rw [← hL4] at HT6
                  obtain ⟨G7, hG7⟩ : ∃ G, G = Nm.atD y.params fun i s => if Nm.inB (y.params.take i) s = true then [(⟨2, y.name, s⟩ : Dg)] else [] := ⟨_, rfl⟩
                  have HG7 := hide hG7
                  have HR7 : Hid (Nm.twA y.name y.params = Nm.upto G7 np) := hide (by rw [hG7, HNP.out]; rfl)
                  have HLM : Hid (L4.length + (Nm.upto G7 np).length + (Nm.rF8 names m y).length + (Nm.rF9 x known m k y).length < 16777216) := hide (by
                    have h1 := HLK.out
                    rw [HR7.out] at h1
                    rw [hL4, List.length_append]
                    omega)
                  clear hje hL4 hG7 hinv
                  go_wp2_with fail
                  clear r3 r4 f0 f1 f2 f3 f4 f5 f6
                  go_loopw [18] (fun i wx => ∃ t : Nat, t ≤ np ∧ i = .int .i64 t ∧ Told wx w.heap.size (w.heap.size + 1 + 1) (L4 ++ Nm.upto G7 t) ∧ NmI w WF wx (w.heap.size + 1 + 1)) (fun i _ => np - (intOf i).toNat)
                  case atStart => exact ⟨0, Nat.zero_le _, rfl, by rw [Nm.upto_zero, List.append_nil]; exact HT6.out, HI6.out⟩
                  case round =>
                    obtain ⟨t, ht, rfl, hto, hinv⟩ := hrel
                    have HT7 := hide hto
                    have HI7 := hide hinv
                    obtain ⟨r3, r4, -, f0, f1, f2, f3, f4, f5, f6⟩ := HBY.out _ hinv
                    clear hto
                    by_cases htk : t < np
                    · as_aux_lemma =>
                        obtain ⟨s, hs⟩ : ∃ s, y.params[t]? = some s := ⟨_, List.getElem?_eq_getElem (by rw [← HNP.out]; exact htk)⟩
                        obtain rfl := HAP.out (by omega)
                        have HSS : Hid (w.cell? ⟨bp, op + t, none⟩ = some (.string s)) := hide (by
                          have h1 := HCP.out t (by rw [← HNP.out]; exact htk)
                          rw [List.getD_eq_getElem?_getD, hs, Option.getD_some] at h1
                          exact h1)
                        have HU : Hid (G7 t = if Nm.inB (y.params.take t) s = true then [⟨2, y.name, s⟩] else []) := hide (by rw [HG7.out]; exact Nm.atD_some hs)
                        have HTL : Hid ((Nm.upto G7 t).length + (G7 t).length ≤ (Nm.upto G7 np).length) := hide (by
                          have h1 := Nm.upto_le G7 (show t + 1 ≤ np by omega)
                          rw [Nm.upto_succ, List.length_append] at h1
                          exact h1)
                        have s0 := cellUp HSS.out hinv.below
                        have HCQ : Hid (∀ n, Calls Tryz.prog 49 #[.slice (some ⟨bp, op, none⟩) t cp, .string s] (wr.drewN n) fun e w' => e = .returned (.bool (Nm.inB (y.params.take t) s)) ∧ w' = wr.drewN n) := hide (fun n => containsS_any _ _ (y.params.take t) s ((HVP.out.takeS (by rw [← HNP.out]; exact ht)).below (belowN_drew hinv.below)))
                        have HFC : Hid (∀ wx, Hid (NmI w WF wx (w.heap.size + 1 + 1)) → wx.cell? ⟨bF, 0, none⟩ = some (.string y.name) ∧ wx.cell? ⟨bF, 1, none⟩ = some (.slice (some ⟨bp, op, none⟩) np cp) ∧ wx.cell? ⟨w.heap.size + 1 + 1 + 1, 0, none⟩ = some (.func (.func 47) #[] #[.pointer (some ⟨w.heap.size + 1 + 1, 0, none⟩)]) ∧ wx.cell? ⟨bp, op + t, none⟩ = some (.string s)) := hide (fun wx h => by
                          obtain ⟨-, k4, -, k0, k1, -⟩ := HBY.out wx h.out
                          exact ⟨k0, k1, k4, cellUp HSS.out h.out.below⟩)
                        obtain ⟨ib, hib⟩ : ∃ b, b = Nm.inB (y.params.take t) s := ⟨_, rfl⟩
                        rw [← hib] at HCQ HU
                        clear hs hib
                        cases ib
                        · rw [if_neg (by simp)] at HU
                          go_wp2_with fail
                          go_quiet ((exact Calls.quiet_of_same (HCQ.out _)))
                          have HT8 := hide (HT7.out.drewN (k := nq))
                          have HI8 := hide (HI7.out.drewN (n := nq))
                          clear r3 r4 f0 f1 f2 f3 f4 f5 f6 s0
                          go_wp2_with fail
                          go_roundw
                          case rel => exact ⟨t + 1, by omega, by go_num, by
                            rw [Nm.upto_succ, HU.out, List.append_nil]
                            exact HT8.out, HI8.out⟩
                          case measure => simp [intOf]; omega
                        · rw [if_pos rfl] at HU
                          go_wp2_with fail
                          go_quiet ((exact Calls.quiet_of_same (HCQ.out _)))
                          have HT8 := hide (HT7.out.drewN (k := nq))
                          have HI8 := hide (HI7.out.drewN (n := nq))
                          clear r3 r4 f0 f1 f2 f3 f4 f5 f6 s0 hinv HCQ
                          generalize wr.drewN nq = W8 at *
                          obtain ⟨f0, f1, r4, s0⟩ := HFC.out _ HI8
                          go_wp2_with fail
                          go_region_held3 (fun wx => wx.cell? ⟨bF, 0, none⟩ = some (.string y.name) ∧ wx.cell? ⟨bF, 1, none⟩ = some (.slice (some ⟨bp, op, none⟩) np cp) ∧ wx.cell? ⟨w.heap.size + 1 + 1 + 1, 0, none⟩ = some (.func (.func 47) #[] #[.pointer (some ⟨w.heap.size + 1 + 1, 0, none⟩)]) ∧ wx.cell? ⟨bp, op + t, none⟩ = some (.string s))
                            ((exact HFC.out _ (by repeat (first | exact HI9 | exact HI8 | apply hidN_drew))))
                            (first
                              | (go_at_call 47; refine (tell_any _ w.heap.size (w.heap.size + 1 + 1) _ 2 y.name s (by repeat (first | exact HT8.out | apply Told.drew)) (unhide (by repeat (first | exact HI8 | apply hidN_drew)) : NmI w WF _ (w.heap.size + 1 + 1)).below.size (by have h1 := HLM.out; have h2 := HTL.out; rw [HU.out] at h2; simp only [List.length_append, List.length_singleton] at h2 ⊢; omega)).mono ?_; rintro e w9 ⟨rfl, hto9, hb9, ht9⟩; have HT9 := hide hto9; have HI9 : Hid (NmI w WF w9 (w.heap.size + 1 + 1)) := hide (NmI.tell (unhide (by repeat (first | exact HI8 | apply hidN_drew))) hb9 ht9); clear hto9 hb9 ht9))
                          clear f0 f1 r4 s0
                          go_wp2_with fail
                          go_roundw
                          case rel => exact ⟨t + 1, by omega, by go_num, by
                            rw [Nm.upto_succ, HU.out, ← List.append_assoc]
                            exact HT9.out, HI9.out⟩
                          case measure => simp [intOf]; omega
                    · have hje : t = np := by omega
                      rw [hje] at HT7
                      obtain ⟨L5, hL5⟩ : ∃ L, L = L4 ++ Nm.upto G7 np := ⟨_, rfl⟩
                      have HL5 := hide hL5
                      rw [← hL5] at HT7
                      have HLN : Hid (L5.length + (Nm.rF8 names m y).length + (Nm.rF9 x known m k y).length < 16777216) := hide (by
                        have h1 := HLM.out
                        rw [hL5, List.length_append]
                        omega)
                      have HRA := hide (rall_any w m m wr _ y.body hinv.below (Nat.le_refl _) HVB.out HAL.out.1)
                      obtain ⟨ALL, hALL⟩ : ∃ l, l = Nm.all m y.body := ⟨_, rfl⟩
                      have HALL := hide hALL
                      rw [← hALL] at HRA
                      clear hje hL5 hALL
                      go_wp2_with fail
                      refine HRA.out.mono ?_
                      rintro e w5 ⟨u5, rfl, hu5, hb5⟩
                      have HU5 := hide hu5
                      have HB5 := hide hb5
                      have HI5 := hide (HI7.out.grow hb5)
                      have HT5 := hide (HT7.out.below hb5)
                      clear r3 r4 f0 f1 f2 f3 f4 f5 f6 hinv hu5 hb5
                      obtain ⟨r3, r4, -, f0, f1, f2, f3, f4, f5, f6⟩ := HBY.out _ HI5.out
                      go_wp2_with fail
                      refine (rcalls_any w m m w5 _ _ _ _ y.result HI5.out.below (Nat.le_refl _) HVX.out (by have := HAL.out.2; rw [List.length_append] at this; omega)).mono ?_
                      rintro e w6 ⟨u6, rfl, hu6, hb6⟩
                      have HU6 := hide (hu6.old (show WF.heap.size ≤ w5.heap.size from HI5.out.tells.size))
                      have HV5 := hide ((HU5.out.below hb6).old (show WF.heap.size ≤ wr.heap.size from HI7.out.tells.size))
                      have HI6 := hide (HI5.out.grow hb6)
                      have HT6 := hide (HT5.out.below hb6)
                      obtain ⟨aL, cL, rfl⟩ := HV5.out.form
                      obtain ⟨nl, hnl⟩ : ∃ n, n = ALL.length := ⟨_, rfl⟩
                      have HNL := hide hnl
                      have hnl24 : nl ≤ 16777216 := by rw [hnl, HALL.out]; exact HAL.out.1
                      rw [← hnl] at HV5 ⊢
                      clear r3 r4 f0 f1 f2 f3 f4 f5 f6 hu6 hb6 hnl HU5 HB5 HI5 HT5
                      go_wp2_with fail
                      go_loopw [20, 21] (fun v i wx => ∃ z : Nat, z ≤ nl ∧ i = .int .i64 z ∧ OwnK (StC w m) wx WF.heap.size 119 8 (.slice aL nl cL) ALL ∧ OwnK (ExC w m) wx WF.heap.size 103 4 v (Nm.calls m y.result ++ (ALL.take z).flatMap fun s => Nm.calls m s.e) ∧ Told wx w.heap.size (w.heap.size + 1 + 1) (L5 ++ (ALL.take z).flatMap (Nm.levS names y.name)) ∧ NmI w WF wx (w.heap.size + 1 + 1)) (fun _ i _ => nl - (intOf i).toNat)
                      case atStart => exact ⟨0, Nat.zero_le _, rfl, HV5.out, by simpa using HU6.out, by simpa using HT6.out, HI6.out⟩
                      case round =>
                        obtain ⟨z, hz, rfl, hL, hCc, hto, hinv⟩ := hrel
                        have HLr := hide hL
                        have HCr := hide hCc
                        have HT8 := hide hto
                        have HI8 := hide hinv
                        by_cases hzl : z < nl
                        · as_aux_lemma =>
                            obtain ⟨s, hs⟩ : ∃ s, ALL[z]? = some s := ⟨_, List.getElem?_eq_getElem (by rw [← HNL.out]; exact hzl)⟩
                            have HS := hide hs
                            rcases hL.shape with ⟨hq1, hq2⟩ | ⟨gL, capL, hq1, -⟩
                            · rw [hq2] at hs; simp at hs
                            injection hq1 with hq1 hq2 hq3
                            subst hq1 hq3
                            have HCL : Hid (∀ wx, OwnK (StC w m) wx WF.heap.size 119 8 (.slice (some ⟨gL, 0, none⟩) nl cL) ALL → ∃ e0 e1 e2 e3 va vb, wx.cell? ⟨gL, z * 8, none⟩ = some (.int .i64 s.kind) ∧ wx.cell? ⟨gL, z * 8 + 1, none⟩ = some (.string s.name) ∧ wx.cell? ⟨gL, z * 8 + 2, none⟩ = some e0 ∧ wx.cell? ⟨gL, z * 8 + 3, none⟩ = some e1 ∧ wx.cell? ⟨gL, z * 8 + 4, none⟩ = some e2 ∧ wx.cell? ⟨gL, z * 8 + 5, none⟩ = some e3 ∧ ExAt w m e0 e1 e2 e3 s.e ∧ va = va ∧ vb = vb) := hide (fun wx h => by
                              rw [HNL.out] at h
                              obtain ⟨c, hc8, hcc, e0, e1, e2, e3, va, vb, rfl, -, -, hx, -, -⟩ := h.cell HS.out
                              exact ⟨e0, e1, e2, e3, va, vb, hcc 0 (by decide), hcc 1 (by decide), hcc 2 (by decide), hcc 3 (by decide), hcc 4 (by decide), hcc 5 (by decide), hx, rfl, rfl⟩)
                            obtain ⟨e0, e1, e2, e3, va, vb, g0, g1, g2, g3, g4, g5, hxe, -, -⟩ := HCL.out _ hL
                            have HXE := hide hxe
                            obtain ⟨xa', xc', rfl, rfl, rfl, rfl⟩ := hxe.shape
                            clear hs hq2 hxe hL hto
                            go_wp2_with fail
                            refine (rcalls_any w m m wr _ _ _ _ s.e hinv.below (Nat.le_refl _) HXE.out (by
                              have h1 := HAL.out.2
                              rw [List.length_append, ← HALL.out] at h1
                              have h2 := flat_le (f := fun s : St => Nm.calls m s.e) (l := ALL) (z + 1)
                              rw [flat_succ HS.out, List.length_append] at h2
                              omega)).mono ?_
                            rintro e w7 ⟨u7, rfl, hu7, hb7⟩
                            have HB7 := hide hb7
                            have HU7 := hide hu7
                            have HI9 := hide (HI8.out.grow hb7)
                            have HT9 := hide (HT8.out.below hb7)
                            have HLr9 := hide (HLr.out.below hb7)
                            have HCr9 := hide (HCr.out.below hb7)
                            have HLS : Hid ((Nm.calls m y.result ++ (ALL.take z).flatMap fun s => Nm.calls m s.e).length + (Nm.calls m s.e).length ≤ 16777216) := hide (by
                              have h1 := HAL.out.2
                              rw [List.length_append, ← HALL.out] at h1
                              have h2 := flat_le (f := fun s : St => Nm.calls m s.e) (l := ALL) (z + 1)
                              rw [flat_succ HS.out, List.length_append] at h2
                              rw [List.length_append]
                              omega)
                            have HLV : Hid (L5.length + ((ALL.take z).flatMap (Nm.levS names y.name)).length + (Nm.levS names y.name s).length < 16777216) := hide (by
                              have h1 := HLN.out
                              have h2 := flat_le (f := Nm.levS names y.name) (l := ALL) (z + 1)
                              rw [flat_succ HS.out, List.length_append] at h2
                              rw [Nm.rF8, ← HALL.out] at h1
                              omega)
                            clear hu7 hb7 g0 g1 g2 g3 g4 g5 hCc hinv HCr HLr HT8 HI8
                            by_cases h4 : s.kind = 4
                            · have h4' : (s.kind == 4) = true := by simp [h4]
                              have HSV : Hid (Nm.levS names y.name s = Nm.lev names y.name s.name) := hide (by unfold Nm.levS; rw [if_pos h4])
                              clear h4
                              go_wp2_with (first
                                | (at_builtin; refine wpList_append_K (At := ExC w m) rfl _ _ 101 103 4 56 _ rfl Tryz.underlying101 infoExN (by decide) (by decide) (by decide) WF.heap.size _ _ rfl HCr9.out _ _ _ rfl HU7.out HLS.out HI9.out.tells.size ?_; intro v8 w8 hown8 hgrow8; have HCr8 := hide hown8; have HLr8 := hide (HLr9.out.grown hgrow8 (HLr9.out.other HCr9.out (by decide))); have HT8 := hide (HT9.out.grown HCr9.out hgrow8 (by decide) (by decide)); have HI8 : Hid (NmI w WF w8 (w.heap.size + 1 + 1)) := hide ⟨grown_below HI9.out.below hgrow8 (fun g hg => Nat.le_trans HIF.out.below.size (HCr9.out.lt g hg).1), HI9.out.tells.grown hgrow8 (fun g hg => (HCr9.out.lt g hg).1)⟩; obtain ⟨-, -, -, -, -, -, g0, g1, -⟩ := HCL.out _ HLr8.out; clear hown8 hgrow8 HCr9 HLr9 HT9 HI9)
                                | fail)
                              have HK8 : Hid (NmI w WF w8 (w.heap.size + 1 + 1) ∧ OwnK (StC w m) w8 WF.heap.size 119 8 (.slice (some ⟨gL, 0, none⟩) nl cL) ALL) := hide ⟨HI8.out, HLr8.out⟩
                              have HFC : Hid (∀ wx, Hid (NmI w WF wx (w.heap.size + 1 + 1) ∧ OwnK (StC w m) wx WF.heap.size 119 8 (.slice (some ⟨gL, 0, none⟩) nl cL) ALL) → wx.cell? ⟨bF, 0, none⟩ = some (.string y.name) ∧ wx.cell? ⟨gL, z * 8 + 1, none⟩ = some (.string s.name)) := hide (fun wx h => by
                                obtain ⟨-, -, -, k0, -⟩ := HBY.out wx h.out.1
                                obtain ⟨-, -, -, -, -, -, -, k1, -⟩ := HCL.out wx h.out.2
                                exact ⟨k0, k1⟩)
                              obtain ⟨f0, -⟩ := HFC.out _ HK8
                              have hK := hidK_drew HK8
                              have HTD := hide HT8.out.drew
                              have HCD := hide HCr8.out.drew1
                              go_region_held3 (fun wx => wx.cell? ⟨bF, 0, none⟩ = some (.string y.name) ∧ wx.cell? ⟨gL, z * 8 + 1, none⟩ = some (.string s.name))
                                ((exact HFC.out _ (by repeat (first | exact HK11 | exact HK8 | apply hidK_drew))))
                                (first
                                  | (go_at_call 48; refine (level_any _ w.heap.size (w.heap.size + 1 + 1) w.heap.size (w.heap.size + 1 + 1 + 1) _ _ names y.name s.name HTD.out hK.out.1.below.size (by have h1 := HLV.out; rw [List.length_append]; omega) (HBY.out _ hK.out.1).2.2.1 (HN.out.below hK.out.1.below) (HBY.out _ hK.out.1).2.1).mono ?_; rintro e w11 ⟨rfl, hto11, hb11, ht11⟩; have HT11 := hide hto11; have HK11 : Hid (NmI w WF w11 (w.heap.size + 1 + 1) ∧ OwnK (StC w m) w11 WF.heap.size 119 8 (.slice (some ⟨gL, 0, none⟩) nl cL) ALL) := hide ⟨NmI.tell hK.out.1 hb11 ht11, hK.out.2.tells ht11 (by decide) (HTD.out.apart hK.out.2 (by decide))⟩; have HCr11 := hide (HCD.out.tells ht11 (by decide) (HTD.out.apart HCD.out (by decide))); clear hto11 hb11 ht11))
                              go_wp2_with fail
                              go_roundw
                              case rel => exact ⟨z + 1, by omega, by go_num, HK11.out.2, by rw [flat_succ HS.out, ← List.append_assoc]; exact HCr11.out, by rw [flat_succ HS.out, ← List.append_assoc, HSV.out]; exact HT11.out, HK11.out.1⟩
                              case measure => simp [intOf]; omega
                            · have h4' : (s.kind == 4) = false := by simp [h4]
                              have HSV : Hid (Nm.levS names y.name s = []) := hide (by unfold Nm.levS; rw [if_neg h4])
                              clear h4
                              go_wp2_with (first
                                | (at_builtin; refine wpList_append_K (At := ExC w m) rfl _ _ 101 103 4 56 _ rfl Tryz.underlying101 infoExN (by decide) (by decide) (by decide) WF.heap.size _ _ rfl HCr9.out _ _ _ rfl HU7.out HLS.out HI9.out.tells.size ?_; intro v8 w8 hown8 hgrow8; have HCr8 := hide hown8; have HLr8 := hide (HLr9.out.grown hgrow8 (HLr9.out.other HCr9.out (by decide))); have HT8 := hide (HT9.out.grown HCr9.out hgrow8 (by decide) (by decide)); have HI8 : Hid (NmI w WF w8 (w.heap.size + 1 + 1)) := hide ⟨grown_below HI9.out.below hgrow8 (fun g hg => Nat.le_trans HIF.out.below.size (HCr9.out.lt g hg).1), HI9.out.tells.grown hgrow8 (fun g hg => (HCr9.out.lt g hg).1)⟩; obtain ⟨-, -, -, -, -, -, g0, g1, -⟩ := HCL.out _ HLr8.out; clear hown8 hgrow8 HCr9 HLr9 HT9 HI9)
                                | fail)
                              go_roundw
                              case rel => exact ⟨z + 1, by omega, by go_num, HLr8.out, by rw [flat_succ HS.out, ← List.append_assoc]; exact HCr8.out, by rw [flat_succ HS.out, HSV.out, List.append_nil]; exact HT8.out, HI8.out⟩
                              case measure => simp [intOf]; omega
                        · have hje : z = nl := by omega
                          have HCd := HCr.out
                          have HTd := HT8.out
                          rw [hje, HNL.out, List.take_length] at HCd HTd
                          obtain ⟨CL, hCL⟩ : ∃ l, l = Nm.calls m y.result ++ ALL.flatMap fun s => Nm.calls m s.e := ⟨_, rfl⟩
                          have HCLD := hide hCL
                          rw [← hCL] at HCd
                          obtain ⟨L6, hL6⟩ : ∃ L, L = L5 ++ ALL.flatMap (Nm.levS names y.name) := ⟨_, rfl⟩
                          have HL6 := hide hL6
                          rw [← hL6] at HTd
                          obtain ⟨aC, cC, rfl⟩ := HCd.form
                          obtain ⟨nc, hnc⟩ : ∃ n, n = CL.length := ⟨_, rfl⟩
                          have HNC := hide hnc
                          rw [← hnc] at HCd ⊢
                          have hnc24 : nc ≤ 16777216 := by rw [hnc, hCL, HALL.out]; exact HAL.out.2
                          have HR9 : Hid (Nm.rF9 x known m k y = CL.flatMap (Nm.rC x known k y.name)) := hide (by rw [hCL, HALL.out]; rfl)
                          have HR8 : Hid (Nm.rF8 names m y = ALL.flatMap (Nm.levS names y.name)) := hide (by rw [HALL.out]; rfl)
                          have HLO : Hid (L6.length + (CL.flatMap (Nm.rC x known k y.name)).length < 16777216) := hide (by
                            have h1 := HLN.out
                            rw [HR9.out, HR8.out] at h1
                            rw [hL6, List.length_append]
                            omega)
                          have HC0 := hide HCd
                          have HT0 := hide HTd
                          have HI0' := hide hinv
                          have HBM : Hid (∀ wx, NmI w WF wx (w.heap.size + 1 + 1) → wx.cell? ⟨w.heap.size + 1, 0, none⟩ = some (.string x.name) ∧ wx.cell? ⟨w.heap.size + 1, 1, none⟩ = some (.slice ai ni ci) ∧ wx.cell? ⟨w.heap.size + 1, 2, none⟩ = some (.slice av nv cv) ∧ wx.cell? ⟨w.heap.size + 1, 3, none⟩ = some (.slice (some ⟨bf, of, none⟩) nf cf)) := hide (fun wx h => by
                            obtain ⟨k0, k1, k2, k3, -, -⟩ := HBX.out wx ⟨h.below, HIF.out.tells.trans h.tells⟩
                            exact ⟨k0, k1, k2, k3⟩)
                          clear hje hCL hL6 hnc HCd HTd hinv hL hCc hto HCr HLr HT8 HI8
                          go_wp2_with fail
                          go_loopw [22] (fun i wx => ∃ t : Nat, t ≤ nc ∧ i = .int .i64 t ∧ OwnK (ExC w m) wx WF.heap.size 103 4 (.slice aC nc cC) CL ∧ Told wx w.heap.size (w.heap.size + 1 + 1) (L6 ++ (CL.take t).flatMap (Nm.rC x known k y.name)) ∧ NmI w WF wx (w.heap.size + 1 + 1)) (fun i _ => nc - (intOf i).toNat)
                          case atStart => exact ⟨0, Nat.zero_le _, rfl, HC0.out, by simpa using HT0.out, HI0'.out⟩
                          case round =>
                            obtain ⟨t, ht, rfl, hCc, hto, hinv⟩ := hrel
                            have HT9 := hide hto
                            have HI9 := hide hinv
                            have HCr := hide hCc
                            by_cases htn : t < nc
                            · obtain ⟨q, hq⟩ : ∃ q, CL[t]? = some q := ⟨_, List.getElem?_eq_getElem (by rw [← HNC.out]; exact htn)⟩
                              have HQ := hide hq
                              rcases hCc.shape with ⟨hq1, hq2⟩ | ⟨gC, capC, hq1, -⟩
                              · rw [hq2] at hq; simp at hq
                              injection hq1 with hq1 hq2 hq3
                              subst hq1 hq3
                              have HCL : Hid (∀ wx, OwnK (ExC w m) wx WF.heap.size 103 4 (.slice (some ⟨gC, 0, none⟩) nc cC) CL → q.name.size ≤ maxLen ∧ ∃ xa xc, wx.cell? ⟨gC, t * 4 + 2, none⟩ = some (.string q.name) ∧ wx.cell? ⟨gC, t * 4 + 3, none⟩ = some (.slice xa q.args.length xc)) := hide (fun wx h => by
                                rw [HNC.out] at h
                                obtain ⟨c, hc4, hcc, c0, c1, c2, c3, rfl, hx⟩ := h.cell HQ.out
                                have hsz := hx.name_le
                                obtain ⟨xa, xc, rfl, rfl, rfl, rfl⟩ := hx.shape
                                exact ⟨hsz, xa, xc, hcc 2 (by decide), hcc 3 (by decide)⟩)
                              have HTL : Hid (L6.length + ((CL.take t).flatMap (Nm.rC x known k y.name)).length + (Nm.rC x known k y.name q).length < 16777216) := hide (by
                                have h1 := HLO.out
                                have h2 := flat_le (f := Nm.rC x known k y.name) (l := CL) (t + 1)
                                rw [flat_succ HQ.out, List.length_append] at h2
                                omega)
                              obtain ⟨hqs, xa, xc, d2, -⟩ := HCL.out _ hCc
                              obtain ⟨m0, m1, m2, m3⟩ := HBM.out _ hinv
                              have HFC : Hid (∀ wx, Hid (NmI w WF wx (w.heap.size + 1 + 1) ∧ OwnK (ExC w m) wx WF.heap.size 103 4 (.slice (some ⟨gC, 0, none⟩) nc cC) CL) → wx.cell? ⟨bF, 0, none⟩ = some (.string y.name) ∧ wx.cell? ⟨w.heap.size + 1 + 1 + 1, 0, none⟩ = some (.func (.func 47) #[] #[.pointer (some ⟨w.heap.size + 1 + 1, 0, none⟩)]) ∧ wx.cell? ⟨gC, t * 4 + 2, none⟩ = some (.string q.name)) := hide (fun wx h => by
                                obtain ⟨-, k4, -, k0, -⟩ := HBY.out wx h.out.1
                                obtain ⟨-, -, -, k1, -⟩ := HCL.out wx h.out.2
                                exact ⟨k0, k4, k1⟩)
                              have HRT : Hid (∀ n os, Calls Tryz.prog 16 #[.agg #[.string x.name, .slice ai ni ci, .slice av nv cv, .slice (some ⟨bf, of, none⟩) nf cf], .int .i64 k, .string q.name, .slice ak nk ck] (gn wr n os) fun e w' => e = .returned (.tuple #[.int .i64 (Nm.tgt x k q.name known).1, .int .i64 (Nm.tgt x k q.name known).2.1, .bool (Nm.tgt x k q.name known).2.2]) ∧ Below (gn wr n os).heap.size (gn wr n os) w') := hide (fun n os => by
                                have hb := up hinv.below (below_gn wr n os)
                                have h1 := rtarget_any m (gn wr n os) _ _ x k q.name known (HM.out.below hb) (by rw [← HNF.out]; omega) hqs (HK.out.below hb)
                                rw [← HNI.out, ← HNV.out, ← HNF.out, ← HNK.out] at h1
                                exact h1)
                              have HCT := hide (Nm.tgt_cases x k q.name known y.name q rfl)
                              obtain ⟨⟨R1, R2, R3⟩, hR⟩ : ∃ R, R = Nm.tgt x k q.name known := ⟨_, rfl⟩
                              rw [← hR] at HRT HCT
                              clear hq hq2 hqs hR hCc hto hinv xa xc
                              replace m0 := cell_gn m0
                              replace m1 := cell_gn m1
                              replace m2 := cell_gn m2
                              replace m3 := cell_gn m3
                              replace d2 := cell_gn d2
                              obtain ⟨wo, rfl⟩ : ∃ wo, wo = wr := ⟨_, rfl⟩
                              go_wp2_with fail
                              refine wp_region_quiet_gn (by kernel_rfl) (by kernel_rfl) ?_
                              repeat (quiet_step ((exact Calls.gn_of (HRT.out _ _))))
                              refine wpQuiet_nil ?_
                              intro _ hw'
                              obtain ⟨⟨nq, osq⟩, hw''⟩ := hw'
                              subst hw''
                              have HI5 := hide (HI9.out.grow (below_gn wo nq osq))
                              have HT5 := hide (HT9.out.below (below_gn wo nq osq))
                              have HC5 := hide (HCr.out.below (below_gn wo nq osq))
                              clear m0 m1 m2 m3 d2 HRT HI9 HT9 HCr
                              generalize gn wo nq osq = W5 at *
                              obtain ⟨m0, m1, m2, m3⟩ := HBM.out _ HI5.out
                              have HB5 := hide (boxBelow W5 (.cells #[.string x.name, .slice ai ni ci, .slice av nv cv, .slice (some ⟨bf, of, none⟩) nf cf] 26))
                              have b3 := block_new W5 (.cells #[.string x.name, .slice ai ni ci, .slice av nv cv, .slice (some ⟨bf, of, none⟩) nf cf] 26)
                              have HI6 := hide (HI5.out.grow HB5.out)
                              have HT6 := hide (HT5.out.below HB5.out)
                              have HK6 : Hid (NmI w WF (W5.alloc (.cells #[.string x.name, .slice ai ni ci, .slice av nv cv, .slice (some ⟨bf, of, none⟩) nf cf] 26)) (w.heap.size + 1 + 1) ∧ OwnK (ExC w m) (W5.alloc (.cells #[.string x.name, .slice ai ni ci, .slice av nv cv, .slice (some ⟨bf, of, none⟩) nf cf] 26)) WF.heap.size 103 4 (.slice (some ⟨gC, 0, none⟩) nc cC) CL) := hide ⟨HI6.out, HC5.out.below HB5.out⟩
                              cases R3 with
                              | false =>
                                as_aux_lemma =>
                                  have HRC : Hid (Nm.rC x known k y.name q = [⟨4, y.name, q.name⟩]) := hide (HCT.out.1 rfl)
                                  clear b3 HCT
                                  go_wp2_with fail
                                  generalize W5.alloc (.cells #[.string x.name, .slice ai ni ci, .slice av nv cv, .slice (some ⟨bf, of, none⟩) nf cf] 26) = W6 at *
                                  clear m0 m1 m2 m3
                                  obtain ⟨f0, r4, d2⟩ := HFC.out _ HK6
                                  have hK := hidK_drew HK6
                                  have HTD := hide HT6.out.drew
                                  go_wp2_with fail
                                  go_region_held3 (fun wx => wx.cell? ⟨bF, 0, none⟩ = some (.string y.name) ∧ wx.cell? ⟨w.heap.size + 1 + 1 + 1, 0, none⟩ = some (.func (.func 47) #[] #[.pointer (some ⟨w.heap.size + 1 + 1, 0, none⟩)]) ∧ wx.cell? ⟨gC, t * 4 + 2, none⟩ = some (.string q.name))
                                    ((exact HFC.out _ (by repeat (first | exact HK11 | exact HK6 | apply hidK_drew))))
                                    (first
                                      | (go_at_call 47; refine (tell_any _ w.heap.size (w.heap.size + 1 + 1) _ 4 y.name q.name HTD.out hK.out.1.below.size (by have h1 := HTL.out; rw [HRC.out] at h1; simp only [List.length_append, List.length_singleton] at h1 ⊢; omega)).mono ?_; rintro e w11 ⟨rfl, hto11, hb11, ht11⟩; have HT11 := hide hto11; have HK11 : Hid (NmI w WF w11 (w.heap.size + 1 + 1) ∧ OwnK (ExC w m) w11 WF.heap.size 103 4 (.slice (some ⟨gC, 0, none⟩) nc cC) CL) := hide ⟨NmI.tell hK.out.1 hb11 ht11, hK.out.2.tells ht11 (by decide) (HTD.out.apart hK.out.2 (by decide))⟩; clear hto11 hb11 ht11))
                                  clear f0 r4 d2 hK HTD
                                  go_wp2_with fail
                                  go_roundw
                                  case rel => exact ⟨t + 1, by omega, by go_num, HK11.out.2, by rw [flat_succ HQ.out, ← List.append_assoc, HRC.out]; exact HT11.out, HK11.out.1⟩
                                  case measure => simp [intOf]; omega
                              | true =>
                                obtain ⟨j, f, hc⟩ := HCT.out.2 rfl
                                replace b3 := block_at b3 3
                                rcases hc with ⟨hR, hf, hrc⟩ | ⟨a, z, hR, hz, hf, hrc⟩
                                · as_aux_lemma =>
                                    injection hR with hR1 hR2
                                    injection hR2 with hR2 hR3
                                    subst hR1 hR2
                                    obtain ⟨-, vp', vb', z0, z1, z2, z3, -, g1, -, -, -, -, -, hp', -⟩ := HCF.out j f hf
                                    obtain ⟨pa, pb, po, pc, rfl, -⟩ := hp'
                                    have hjn : j < nf := by
                                      have := (List.getElem?_eq_some_iff.1 hf).1
                                      rw [← HNF.out] at this
                                      exact this
                                    obtain ⟨np', hnp'⟩ : ∃ n, n = f.params.length := ⟨_, rfl⟩
                                    obtain ⟨nx, hnx⟩ : ∃ n, n = q.args.length := ⟨_, rfl⟩
                                    rw [← hnp', ← hnx] at hrc
                                    rw [← hnp'] at g1
                                    have HRC := hide hrc
                                    replace g1 := cellUp g1 HI6.out.below
                                    obtain ⟨-, xa, xc, -, d3⟩ := HCL.out _ HK6.out.2
                                    rw [← hnx] at d3
                                    clear hf hrc hnp' hnx HCT
                                    by_cases hn : np' = nx
                                    · have hn' : ((np' : Int) == (nx : Int)) = true := by simp [hn]
                                      rw [if_pos hn] at HRC
                                      clear hn
                                      go_wp2_with fail
                                      generalize W5.alloc (.cells #[.string x.name, .slice ai ni ci, .slice av nv cv, .slice (some ⟨bf, of, none⟩) nf cf] 26) = W6 at *
                                      go_quiet (fail)
                                      have HT8 := hide (HT6.out.drewN (k := nq))
                                      have HI8 := hide (HI6.out.drewN (n := nq))
                                      have HC8 := hide (HK6.out.2.drewN2 (j := nq))
                                      clear m0 m1 m2 m3 b3 g1 d3
                                      go_wp2_with fail
                                      go_roundw
                                      case rel => exact ⟨t + 1, by omega, by go_num, HC8.out, by rw [flat_succ HQ.out, HRC.out, List.append_nil]; exact HT8.out, HI8.out⟩
                                      case measure => simp [intOf]; omega
                                    · have hn' : ((np' : Int) == (nx : Int)) = false := by rw [beq_eq_false_iff_ne]; omega
                                      rw [if_neg hn] at HRC
                                      clear hn
                                      go_wp2_with fail
                                      generalize W5.alloc (.cells #[.string x.name, .slice ai ni ci, .slice av nv cv, .slice (some ⟨bf, of, none⟩) nf cf] 26) = W6 at *
                                      go_quiet (fail)
                                      have HT8 := hide (HT6.out.drewN (k := nq))
                                      have HK8 : Hid (NmI w WF (W6.drewN nq) (w.heap.size + 1 + 1) ∧ OwnK (ExC w m) (W6.drewN nq) WF.heap.size 103 4 (.slice (some ⟨gC, 0, none⟩) nc cC) CL) := hide ⟨HI6.out.drewN (n := nq), HK6.out.2.drewN2 (j := nq)⟩
                                      clear m0 m1 m2 m3 b3 g1 d3
                                      generalize W6.drewN nq = W8 at *
                                      obtain ⟨f0, r4, d2⟩ := HFC.out _ HK8
                                      have hK := hidK_drew HK8
                                      have HTD := hide HT8.out.drew
                                      go_wp2_with fail
                                      go_region_held3 (fun wx => wx.cell? ⟨bF, 0, none⟩ = some (.string y.name) ∧ wx.cell? ⟨w.heap.size + 1 + 1 + 1, 0, none⟩ = some (.func (.func 47) #[] #[.pointer (some ⟨w.heap.size + 1 + 1, 0, none⟩)]) ∧ wx.cell? ⟨gC, t * 4 + 2, none⟩ = some (.string q.name))
                                        ((exact HFC.out _ (by repeat (first | exact HK11 | exact HK8 | apply hidK_drew))))
                                        (first
                                          | (go_at_call 47; refine (tell_any _ w.heap.size (w.heap.size + 1 + 1) _ 5 y.name q.name HTD.out hK.out.1.below.size (by have h1 := HTL.out; rw [HRC.out] at h1; simp only [List.length_append, List.length_singleton] at h1 ⊢; omega)).mono ?_; rintro e w11 ⟨rfl, hto11, hb11, ht11⟩; have HT11 := hide hto11; have HK11 : Hid (NmI w WF w11 (w.heap.size + 1 + 1) ∧ OwnK (ExC w m) w11 WF.heap.size 103 4 (.slice (some ⟨gC, 0, none⟩) nc cC) CL) := hide ⟨NmI.tell hK.out.1 hb11 ht11, hK.out.2.tells ht11 (by decide) (HTD.out.apart hK.out.2 (by decide))⟩; clear hto11 hb11 ht11))
                                      clear f0 r4 d2 hK HTD
                                      go_wp2_with fail
                                      go_roundw
                                      case rel => exact ⟨t + 1, by omega, by go_num, HK11.out.2, by rw [flat_succ HQ.out, ← List.append_assoc, HRC.out]; exact HT11.out, HK11.out.1⟩
                                      case measure => simp [intOf]; omega
                                · as_aux_lemma =>
                                    injection hR with hR1 hR2
                                    injection hR2 with hR2 hR3
                                    subst hR1 hR2
                                    have han : a < nk := by
                                      have := (List.getElem?_eq_some_iff.1 hz).1
                                      rw [← HNK.out] at this
                                      exact this
                                    obtain ⟨yi, yv, yf, k0, k1, k2, k3, hmo⟩ := HCK.out a z hz
                                    obtain ⟨ia, ib, io, ic, rfl, -⟩ := hmo.split.1
                                    obtain ⟨wa, wb, wo', wc, rfl, -⟩ := hmo.split.2.1
                                    obtain ⟨fa, fb, fo, fc, rfl, hfa, hfl, hfe⟩ := hmo.split.2.2
                                    obtain ⟨-, vp', vb', z0, z1, z2, z3, -, g1, -, -, -, -, -, hp', -⟩ := hfe j f hf
                                    obtain ⟨pa, pb, po, pc, rfl, -⟩ := hp'
                                    obtain rfl := HAK.out (by omega)
                                    have hjn : j < z.funs.length := (List.getElem?_eq_some_iff.1 hf).1
                                    obtain rfl := hfa (by omega)
                                    obtain ⟨nz, hnz⟩ : ∃ n, n = z.funs.length := ⟨_, rfl⟩
                                    obtain ⟨np', hnp'⟩ : ∃ n, n = f.params.length := ⟨_, rfl⟩
                                    obtain ⟨nx, hnx⟩ : ∃ n, n = q.args.length := ⟨_, rfl⟩
                                    rw [← hnp', ← hnx] at hrc
                                    rw [← hnp'] at g1
                                    rw [← hnz] at hjn hfl k3
                                    have HRC := hide hrc
                                    replace k0 := cellUp k0 HI6.out.below
                                    replace k1 := cellUp k1 HI6.out.below
                                    replace k2 := cellUp k2 HI6.out.below
                                    replace k3 := cellUp k3 HI6.out.below
                                    generalize z.imports.length = ni' at *
                                    generalize z.vars.length = nv' at *
                                    have HB5' := hide (boxBelow W5 (.cells #[.string z.name, .slice ia ni' ic, .slice wa nv' wc, .slice (some ⟨fb, fo, none⟩) nz fc] 26))
                                    have b3' := block_at (block_new W5 (.cells #[.string z.name, .slice ia ni' ic, .slice wa nv' wc, .slice (some ⟨fb, fo, none⟩) nz fc] 26)) 3
                                    have HI6' := hide (HI5.out.grow HB5'.out)
                                    have HT6' := hide (HT5.out.below HB5'.out)
                                    have HK6' : Hid (NmI w WF (W5.alloc (.cells #[.string z.name, .slice ia ni' ic, .slice wa nv' wc, .slice (some ⟨fb, fo, none⟩) nz fc] 26)) (w.heap.size + 1 + 1) ∧ OwnK (ExC w m) (W5.alloc (.cells #[.string z.name, .slice ia ni' ic, .slice wa nv' wc, .slice (some ⟨fb, fo, none⟩) nz fc] 26)) WF.heap.size 103 4 (.slice (some ⟨gC, 0, none⟩) nc cC) CL) := hide ⟨HI6'.out, HC5.out.below HB5'.out⟩
                                    obtain ⟨-, xa, xc, -, d3⟩ := HCL.out _ HK6'.out.2
                                    rw [← hnx] at d3
                                    replace g1 := cellUp g1 HI6'.out.below
                                    clear hf hrc hnp' hnx HCT hz hmo hfa hfe hnz b3 HK6 HT6 HI6 HB5
                                    go_wp2_with fail
                                    clear k0 k1 k2 k3
                                    generalize W5.alloc (.cells #[.string z.name, .slice ia ni' ic, .slice wa nv' wc, .slice (some ⟨fb, fo, none⟩) nz fc] 26) = W6 at *
                                    by_cases hn : np' = nx
                                    · have hn' : ((np' : Int) == (nx : Int)) = true := by simp [hn]
                                      rw [if_pos hn] at HRC
                                      clear hn
                                      go_quiet (fail)
                                      have HT8 := hide (HT6'.out.drewN (k := nq))
                                      have HI8 := hide (HI6'.out.drewN (n := nq))
                                      have HC8 := hide (HK6'.out.2.drewN2 (j := nq))
                                      clear m0 m1 m2 m3 b3' g1 d3
                                      go_wp2_with fail
                                      go_roundw
                                      case rel => exact ⟨t + 1, by omega, by go_num, HC8.out, by rw [flat_succ HQ.out, HRC.out, List.append_nil]; exact HT8.out, HI8.out⟩
                                      case measure => simp [intOf]; omega
                                    · have hn' : ((np' : Int) == (nx : Int)) = false := by rw [beq_eq_false_iff_ne]; omega
                                      rw [if_neg hn] at HRC
                                      clear hn
                                      go_quiet (fail)
                                      have HT8 := hide (HT6'.out.drewN (k := nq))
                                      have HK8 : Hid (NmI w WF (W6.drewN nq) (w.heap.size + 1 + 1) ∧ OwnK (ExC w m) (W6.drewN nq) WF.heap.size 103 4 (.slice (some ⟨gC, 0, none⟩) nc cC) CL) := hide ⟨HI6'.out.drewN (n := nq), HK6'.out.2.drewN2 (j := nq)⟩
                                      clear m0 m1 m2 m3 b3' g1 d3
                                      generalize W6.drewN nq = W8 at *
                                      obtain ⟨f0, r4, d2⟩ := HFC.out _ HK8
                                      have hK := hidK_drew HK8
                                      have HTD := hide HT8.out.drew
                                      go_wp2_with fail
                                      go_region_held3 (fun wx => wx.cell? ⟨bF, 0, none⟩ = some (.string y.name) ∧ wx.cell? ⟨w.heap.size + 1 + 1 + 1, 0, none⟩ = some (.func (.func 47) #[] #[.pointer (some ⟨w.heap.size + 1 + 1, 0, none⟩)]) ∧ wx.cell? ⟨gC, t * 4 + 2, none⟩ = some (.string q.name))
                                        ((exact HFC.out _ (by repeat (first | exact HK11 | exact HK8 | apply hidK_drew))))
                                        (first
                                          | (go_at_call 47; refine (tell_any _ w.heap.size (w.heap.size + 1 + 1) _ 5 y.name q.name HTD.out hK.out.1.below.size (by have h1 := HTL.out; rw [HRC.out] at h1; simp only [List.length_append, List.length_singleton] at h1 ⊢; omega)).mono ?_; rintro e w11 ⟨rfl, hto11, hb11, ht11⟩; have HT11 := hide hto11; have HK11 : Hid (NmI w WF w11 (w.heap.size + 1 + 1) ∧ OwnK (ExC w m) w11 WF.heap.size 103 4 (.slice (some ⟨gC, 0, none⟩) nc cC) CL) := hide ⟨NmI.tell hK.out.1 hb11 ht11, hK.out.2.tells ht11 (by decide) (HTD.out.apart hK.out.2 (by decide))⟩; clear hto11 hb11 ht11))
                                      clear f0 r4 d2 hK HTD
                                      go_wp2_with fail
                                      go_roundw
                                      case rel => exact ⟨t + 1, by omega, by go_num, HK11.out.2, by rw [flat_succ HQ.out, ← List.append_assoc, HRC.out]; exact HT11.out, HK11.out.1⟩
                                      case measure => simp [intOf]; omega
                            · as_aux_lemma =>
                                have hje : t = nc := by omega
                                have HTd := HT9.out
                                rw [hje, HNC.out, List.take_length] at HTd
                                have HTe := hide HTd
                                clear hje HTd hto hinv hCc
                                go_wp2_with fail
                                go_roundw
                                case rel => exact ⟨k + 1, by omega, by go_num, by
                                  have h1 := HTe.out
                                  rw [HL6.out, HL5.out, HL4.out, HL3.out] at h1
                                  rw [Nm.upto_succ, HY.out, HR6.out, HR7.out, HR8.out, HR9.out]
                                  simpa only [List.append_assoc] using h1, ⟨HI9.out.below, HIF.out.tells.trans HI9.out.tells⟩⟩
                                case measure => simp [intOf]; omega
            · as_aux_lemma =>
                have hje : k = nf := by omega
                rw [hje] at HT3
                obtain ⟨hp, vo, ho, hown⟩ := HT3.out
                have hlo : (L2 ++ Nm.upto G5 nf).length ≤ 16777216 := by
                  have h1 := HLE5.out
                  rw [List.length_append, ← hL2]
                  rw [List.length_append]
                  omega
                have HON := hide (once_any wr vo _ (hown.dgs (by omega)) hlo)
                have o0 := (block_at ho 0).trans rfl
                have HFIN : Hid (L2 ++ Nm.upto G5 nf = Nm.rIs x known ++ Nm.rVs names x ++ Nm.rFs names x known m) := hide (by
                  rw [← hL2, ← HL1.out, HG1.out, HNI.out, HG2.out, HNV.out, HG5.out, HNF.out]
                  rfl)
                clear hje ho hown hto hlo r0 r1 r2 r4 r5
                have o1 : wr.cell? ⟨w.heap.size + 1 + 1, 0, none⟩ = some vo := o0
                clear o0
                go_wp2_with fail
                refine HON.out.mono ?_
                rintro e w9 ⟨u, rfl, hu, hb9⟩
                have HU := hide hu
                have HB9 := hide hb9
                clear hu hb9 o1
                go_wp2_with fail
                go_ret
                exact ⟨u, rfl, by rw [← HFIN.out]; exact HU.out.old HI3.out.below.size, up HI3.out.below HB9.out⟩
end Go.Proofs.YtholefgckcoklaaGreatDoor
