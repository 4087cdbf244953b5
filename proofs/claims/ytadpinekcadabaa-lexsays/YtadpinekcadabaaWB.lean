/- Walks over package downref: Words. -/
import Derived.Test.YtadpinekcadabaaWH
import Derived.Deep.RegionHeld3
import Derived.Deep.QuietTactic
import Derived.BigQuiet
namespace Go.Proofs.Ytadpinekcadabaa
open Go.RowKit

theorem own_last {W : World} {N g n cap : Nat} {f : Nat × Nat → ByteArray} {L : List (Nat × Nat)} {p q : Nat × Nat} (hn : L.length = n)
    (h : W.ownsRow N 9 1 (.slice (some ⟨g, 0, none⟩) (n + 1) cap) (n + 1) ((List.map Value.string (L.map f ++ [p].map f)).set n (.string (f q)))) : Own W N (.slice (some ⟨g, 0, none⟩) (n + 1) cap) ((L ++ [q]).map f) := by
  have e : (List.map Value.string (L.map f ++ [p].map f)).set n (.string (f q)) = ((L ++ [q]).map f).map Value.string := by
    rw [List.map_append, List.set_append_right _ _ (by simp [hn]), List.map_append, List.map_append]
    simp [hn]
  have e2 : ((L ++ [q]).map f).length = n + 1 := by rw [List.length_map, List.length_append, hn]; rfl
  unfold Own
  rw [e2, ← e]
  exact h
theorem ownI_far {w : World} {N n g : Nat} {v : Value} {l : List Int} {v2 : Value} {k : Nat} {xs : List Value} (h : OwnI w N v l) (h2 : w.ownsRow N 9 1 v2 k xs) (hg : v2.ownBlock = some g) (u : Value) : OwnI (w.setCell ⟨g, n, none⟩ u) N v l := by
  refine ownsRow_setCell_other h ?_ u
  rcases own_ne h h2 (by decide) with h3 | h3
  · rw [h3]; simp
  · rw [hg] at h3; exact h3

set_option maxHeartbeats 4000000 in
set_option maxRecDepth 100000 in
theorem rwords_any (w : World) (s : ByteArray) (hs : s.size ≤ maxLen) :
    Calls Try.prog 17 #[.string s] w fun e w' => ∃ v6 v7, e = .returned (.tuple #[v6, v7, .int .i64 (Lat.wn s), .int .i64 (Lat.we s)]) ∧ StrsC w' v6 (Lat.wds s) ∧ Ints w' v7 (Lat.wats s) ∧ Below w.heap.size w w' := by
  unfold maxLen at hs
  by_cases hbig : 4096 < s.size
  · have e1 : Lat.wn s = 0 := by unfold Lat.wn; rw [if_pos hbig]
    have e2 : Lat.we s = 2 := by unfold Lat.we; rw [if_pos hbig]
    have e3 : Lat.wds s = [] := by unfold Lat.wds; rw [if_pos hbig]
    have e4 : Lat.wats s = [] := by unfold Lat.wats; rw [if_pos hbig]
    rw [e1, e2, e3, e4]
    clear e1 e2 e3 e4
    have hS : StrsC w (.slice none 0 0) [] := Own.strsC (World.ownsRow_nil w 0 _ _) (fun s hs => absurd hs (by simp)) (by simp)
    have hI : Ints w (.slice none 0 0) [] := OwnI.ints (World.ownsRow_nil w 0 _ _) (by simp)
    have HS := hide hS
    have HI := hide hI
    clear hS hI
    go_enter Try.func17, Try.ntmps17
    go_wp2
    (try simp only [Exit.inBlock, Exit.then])
    refine bodyPost_ret (results_tmp4 rfl _ _ _) rfl ?_
    exact ⟨_, _, rfl, HS.out, HI.out, Below.refl _ _⟩
  · have HBG := hide hbig
    have hs4 : s.size ≤ 4096 := by omega
    clear hbig
    go_enter Try.func17, Try.ntmps17
    go_wp2
    go_loopw [6, 7, 8, 9] (fun v6 v7 o i wr => ∃ k : Nat, k ≤ s.size ∧ i = .int .i64 k ∧ o = .bool (Lat.tok s k).2 ∧ (∀ d, d < k → Lat.okAt s d = true) ∧ Own wr w.heap.size v6 ((Lat.tok s k).1.map (Lat.ext s)) ∧ OwnI wr w.heap.size v7 ((Lat.tok s k).1.map fun p => (p.1 : Int)) ∧ Below w.heap.size w wr) (fun _ _ _ i _ => s.size - (intOf i).toNat)
    case atStart => exact ⟨0, Nat.zero_le _, rfl, rfl, fun d hd => absurd hd (Nat.not_lt_zero _), World.ownsRow_nil _ _ _ _, World.ownsRow_nil _ _ _ _, Below.refl _ _⟩
    case round =>
      obtain ⟨k, hk, rfl, rfl, hall, ho6, ho7, hnx⟩ := hrel
      have HALL := hide hall
      have HO6 := hide ho6
      have HO7 := hide ho7
      have HNX := hide hnx
      have hbs := hnx.size
      clear hall ho6 ho7 hnx
      by_cases hlt : k < s.size
      · have HB := hide (bt_at s k hlt)
        have HT : Hid (Lat.tok s (k + 1) = if Lat.blankN (Lat.bt s k) then ((Lat.tok s k).1, false) else if Lat.brackN (Lat.bt s k) then ((Lat.tok s k).1 ++ [(k, k + 1)], false)
            else if (Lat.tok s k).2 then ((Lat.tok s k).1.dropLast ++ [(((Lat.tok s k).1.getLastD (0, 0)).1, k + 1)], true) else ((Lat.tok s k).1 ++ [(k, k + 1)], true)) := rfl
        have HOKS : Hid (Lat.okAt s k = true → ∀ d, d < k + 1 → Lat.okAt s d = true) := hide (fun h d hd => by
          by_cases e : d = k
          · subst e; exact h
          · exact HALL.out d (by omega))
        have HOK : Hid (Lat.okAt s k = (Lat.blankN (Lat.bt s k) || Lat.brackN (Lat.bt s k) || Lat.longN (Lat.bt s k))) := rfl
        rw [HB.out] at HT HOK
        have b1 : (0 : Int) ≤ (k : Int) := by omega
        have b2 : (k : Int) + 1 ≤ (s.size : Int) := by omega
        have b3 : (k : Int) < (s.size : Int) := by omega
        by_cases n32 : s[k].toNat = 32
        · have c32 : ((s[k].toNat : Int) == 32) = true := by simp [n32]
          have HK : Hid (Lat.okAt s k = true) := hide (by rw [HOK.out, n32]; rfl)
          rw [if_pos (by rw [n32]; rfl)] at HT
          clear n32
          go_wp2
          go_roundw
          case rel => exact ⟨k + 1, by omega, by go_num, by rw [HT.out], HOKS.out HK.out, by rw [HT.out]; exact HO6.out, by rw [HT.out]; exact HO7.out, HNX.out⟩
          case measure => simp [intOf]; omega
        have c32 : ((s[k].toNat : Int) == 32) = false := by simp; omega
        by_cases n10 : s[k].toNat = 10
        · have c10 : ((s[k].toNat : Int) == 10) = true := by simp [n10]
          have HK : Hid (Lat.okAt s k = true) := hide (by rw [HOK.out, n10]; rfl)
          rw [if_pos (by rw [n10]; rfl)] at HT
          clear n10 n32
          go_wp2
          go_roundw
          case rel => exact ⟨k + 1, by omega, by go_num, by rw [HT.out], HOKS.out HK.out, by rw [HT.out]; exact HO6.out, by rw [HT.out]; exact HO7.out, HNX.out⟩
          case measure => simp [intOf]; omega
        have c10 : ((s[k].toNat : Int) == 10) = false := by simp; omega
        rw [if_neg (by simp [Lat.blankN, n32, n10])] at HT
        have hlen : ((Lat.tok s k).1.map (Lat.ext s)).length ≤ 4096 := by
          have := (tok_inv s k).1
          rw [List.length_map]; omega
        have hlen7 : ((Lat.tok s k).1.map fun p => (p.1 : Int)).length ≤ 4096 := by
          have := (tok_inv s k).1
          rw [List.length_map]; omega
        by_cases n40 : s[k].toNat = 40
        · have c40 : ((s[k].toNat : Int) == 40) = true := by simp [n40]
          have HK : Hid (Lat.okAt s k = true) := hide (by rw [HOK.out, n40]; rfl)
          rw [if_pos (by rw [n40]; rfl)] at HT
          clear n40 n10 n32
          go_wp2_with (first
            | (at_builtin; refine wpList_append_str rfl _ _ rfl w.heap.size _ _ rfl (World.ownsRow.alloc HO6.out _) _ (s.extract k (k + 1)) rfl (cell_str1 _ _) (by omega) (by simp; omega) ?_; intro v6' w2 hown2 hgrow2; have HO62 := hide hown2; have HO72 := hide (OwnI.kept HO7.out HO6.out hgrow2); have HR2 := hide ((HNX.out.alloc hbs (.cells #[.string (s.extract k (k + 1))] 9)).grown hgrow2 (by simp; omega) (fun j hj => (HO6.out.lt j hj).1)); have hbs2 := HR2.out.size; clear hown2 hgrow2)
            | (at_builtin; refine wpList_append_int rfl _ _ rfl w.heap.size _ _ rfl (World.ownsRow.alloc HO72.out _) _ (k : Int) rfl (cell_int1 _ _) (by omega) (by simp; omega) ?_; intro v7' w3 hown3 hgrow3; have HO73 := hide hown3; have HO63 := hide (Own.kept HO62.out HO72.out hgrow3); have HR3 := hide ((HR2.out.alloc hbs2 (.cells #[.int .i64 (k : Int)] 3)).grown hgrow3 (by simp; omega) (fun j hj => (HO72.out.lt j hj).1)); clear hown3 hgrow3)
            | fail)
          go_roundw
          case rel => exact ⟨k + 1, by omega, by go_num, by rw [HT.out], HOKS.out HK.out, by rw [HT.out, List.map_append]; exact HO63.out, by rw [HT.out, List.map_append]; exact HO73.out, HR3.out⟩
          case measure => simp [intOf]; omega
        have c40 : ((s[k].toNat : Int) == 40) = false := by simp; omega
        by_cases n41 : s[k].toNat = 41
        · have c41 : ((s[k].toNat : Int) == 41) = true := by simp [n41]
          have HK : Hid (Lat.okAt s k = true) := hide (by rw [HOK.out, n41]; rfl)
          rw [if_pos (by rw [n41]; rfl)] at HT
          clear n41 n40 n10 n32
          go_wp2_with (first
            | (at_builtin; refine wpList_append_str rfl _ _ rfl w.heap.size _ _ rfl (World.ownsRow.alloc HO6.out _) _ (s.extract k (k + 1)) rfl (cell_str1 _ _) (by omega) (by simp; omega) ?_; intro v6' w2 hown2 hgrow2; have HO62 := hide hown2; have HO72 := hide (OwnI.kept HO7.out HO6.out hgrow2); have HR2 := hide ((HNX.out.alloc hbs (.cells #[.string (s.extract k (k + 1))] 9)).grown hgrow2 (by simp; omega) (fun j hj => (HO6.out.lt j hj).1)); have hbs2 := HR2.out.size; clear hown2 hgrow2)
            | (at_builtin; refine wpList_append_int rfl _ _ rfl w.heap.size _ _ rfl (World.ownsRow.alloc HO72.out _) _ (k : Int) rfl (cell_int1 _ _) (by omega) (by simp; omega) ?_; intro v7' w3 hown3 hgrow3; have HO73 := hide hown3; have HO63 := hide (Own.kept HO62.out HO72.out hgrow3); have HR3 := hide ((HR2.out.alloc hbs2 (.cells #[.int .i64 (k : Int)] 3)).grown hgrow3 (by simp; omega) (fun j hj => (HO72.out.lt j hj).1)); clear hown3 hgrow3)
            | fail)
          go_roundw
          case rel => exact ⟨k + 1, by omega, by go_num, by rw [HT.out], HOKS.out HK.out, by rw [HT.out, List.map_append]; exact HO63.out, by rw [HT.out, List.map_append]; exact HO73.out, HR3.out⟩
          case measure => simp [intOf]; omega
        have c41 : ((s[k].toNat : Int) == 41) = false := by simp; omega
        rw [if_neg (by simp [Lat.brackN, n40, n41])] at HT
        by_cases hlong : Lat.longN s[k].toNat = true
        · have HK : Hid (Lat.okAt s k = true) := hide (by rw [HOK.out, hlong]; simp)
          clear n41 n40 n10 n32
          have hcase : (97 ≤ s[k].toNat ∧ s[k].toNat ≤ 122) ∨ (48 ≤ s[k].toNat ∧ s[k].toNat ≤ 57) ∨ s[k].toNat = 46 ∨ s[k].toNat = 43 ∨ s[k].toNat = 45 ∨ s[k].toNat = 42 ∨ s[k].toNat = 60 ∨ s[k].toNat = 61 := by
            unfold Lat.longN at hlong
            simp only [Bool.or_eq_true, Bool.and_eq_true, decide_eq_true_eq, beq_iff_eq] at hlong
            omega
          clear hlong
          rcases hcase with l | l | l | l | l | l | l | l
          case' inl =>
            have f1 : (97 : Int) ≤ (s[k].toNat : Int) := by omega
            have f2 : (s[k].toNat : Int) ≤ 122 := by omega
          case' inr.inl =>
            have f1 : ¬ (97 : Int) ≤ (s[k].toNat : Int) := by omega
            have f3 : (48 : Int) ≤ (s[k].toNat : Int) := by omega
            have f4 : (s[k].toNat : Int) ≤ 57 := by omega
          case' inr.inr.inl =>
            have f1 : ¬ (97 : Int) ≤ (s[k].toNat : Int) := by omega
            have f3 : ¬ (48 : Int) ≤ (s[k].toNat : Int) := by omega
            have c46 : ((s[k].toNat : Int) == 46) = true := by simp [l]
          case' inr.inr.inr.inl =>
            have f1 : ¬ (97 : Int) ≤ (s[k].toNat : Int) := by omega
            have f3 : ¬ (48 : Int) ≤ (s[k].toNat : Int) := by omega
            have c46 : ((s[k].toNat : Int) == 46) = false := by simp; omega
            have c43 : ((s[k].toNat : Int) == 43) = true := by simp [l]
          case' inr.inr.inr.inr.inl =>
            have f1 : ¬ (97 : Int) ≤ (s[k].toNat : Int) := by omega
            have f3 : ¬ (48 : Int) ≤ (s[k].toNat : Int) := by omega
            have c46 : ((s[k].toNat : Int) == 46) = false := by simp; omega
            have c43 : ((s[k].toNat : Int) == 43) = false := by simp; omega
            have c45 : ((s[k].toNat : Int) == 45) = true := by simp [l]
          case' inr.inr.inr.inr.inr.inl =>
            have f1 : ¬ (97 : Int) ≤ (s[k].toNat : Int) := by omega
            have f3 : ¬ (48 : Int) ≤ (s[k].toNat : Int) := by omega
            have c46 : ((s[k].toNat : Int) == 46) = false := by simp; omega
            have c43 : ((s[k].toNat : Int) == 43) = false := by simp; omega
            have c45 : ((s[k].toNat : Int) == 45) = false := by simp; omega
            have c42 : ((s[k].toNat : Int) == 42) = true := by simp [l]
          case' inr.inr.inr.inr.inr.inr.inl =>
            have f1 : ¬ (97 : Int) ≤ (s[k].toNat : Int) := by omega
            have f3 : (48 : Int) ≤ (s[k].toNat : Int) := by omega
            have f4 : ¬ (s[k].toNat : Int) ≤ 57 := by omega
            have c46 : ((s[k].toNat : Int) == 46) = false := by simp; omega
            have c43 : ((s[k].toNat : Int) == 43) = false := by simp; omega
            have c45 : ((s[k].toNat : Int) == 45) = false := by simp; omega
            have c42 : ((s[k].toNat : Int) == 42) = false := by simp; omega
            have c60 : ((s[k].toNat : Int) == 60) = true := by simp [l]
          case' inr.inr.inr.inr.inr.inr.inr =>
            have f1 : ¬ (97 : Int) ≤ (s[k].toNat : Int) := by omega
            have f3 : (48 : Int) ≤ (s[k].toNat : Int) := by omega
            have f4 : ¬ (s[k].toNat : Int) ≤ 57 := by omega
            have c46 : ((s[k].toNat : Int) == 46) = false := by simp; omega
            have c43 : ((s[k].toNat : Int) == 43) = false := by simp; omega
            have c45 : ((s[k].toNat : Int) == 45) = false := by simp; omega
            have c42 : ((s[k].toNat : Int) == 42) = false := by simp; omega
            have c60 : ((s[k].toNat : Int) == 60) = false := by simp; omega
            have c61 : ((s[k].toNat : Int) == 61) = true := by simp [l]
          all_goals
            clear l
            cases hop : (Lat.tok s k).2
            · rw [hop, if_neg (by simp)] at HT
              go_wp2_with (first
                | (at_builtin; refine wpList_append_str rfl _ _ rfl w.heap.size _ _ rfl (World.ownsRow.alloc HO6.out _) _ (s.extract k (k + 1)) rfl (cell_str1 _ _) (by omega) (by simp; omega) ?_; intro v6' w2 hown2 hgrow2; have HO62 := hide hown2; have HO72 := hide (OwnI.kept HO7.out HO6.out hgrow2); have HR2 := hide ((HNX.out.alloc hbs (.cells #[.string (s.extract k (k + 1))] 9)).grown hgrow2 (by simp; omega) (fun j hj => (HO6.out.lt j hj).1)); have hbs2 := HR2.out.size; clear hown2 hgrow2)
                | (at_builtin; refine wpList_append_int rfl _ _ rfl w.heap.size _ _ rfl (World.ownsRow.alloc HO72.out _) _ (k : Int) rfl (cell_int1 _ _) (by omega) (by simp; omega) ?_; intro v7' w3 hown3 hgrow3; have HO73 := hide hown3; have HO63 := hide (Own.kept HO62.out HO72.out hgrow3); have HR3 := hide ((HR2.out.alloc hbs2 (.cells #[.int .i64 (k : Int)] 3)).grown hgrow3 (by simp; omega) (fun j hj => (HO72.out.lt j hj).1)); clear hown3 hgrow3)
                | fail)
              go_roundw
              case rel => exact ⟨k + 1, by omega, by go_num, by rw [HT.out], HOKS.out HK.out, by rw [HT.out, List.map_append]; exact HO63.out, by rw [HT.out, List.map_append]; exact HO73.out, HR3.out⟩
              case measure => simp [intOf]; omega
            · rw [hop, if_pos rfl] at HT
              obtain ⟨L, a, hL⟩ := (tok_inv s k).2.2 hop
              have ha := (tok_inv s k).2.1 (a, k) (by rw [hL]; simp)
              have HG := hide (ext_grow s a k (by simp only at ha; omega))
              have HL := hide hL
              have ho6 := HO6.out
              rw [hL, List.map_append, List.length_append, List.length_map, List.length_map] at hlen
              unfold Own at ho6
              rw [hL, List.map_append, List.length_append, List.length_map] at ho6
              rw [hL, List.getLastD_concat, List.dropLast_concat] at HT
              generalize hn : L.length = n at *
              have hn' : n ≤ 4096 := by simp at hlen; omega
              have h1 : ([(a, k)].map (Lat.ext s)).length = 1 := rfl
              rw [h1] at ho6
              obtain ⟨g, cap, hv6, hb6, hg6⟩ := ho6.form (by omega)
              subst hv6
              have t6 : wr.cell? ⟨g, n, none⟩ = some (.string (Lat.ext s (a, k))) := by
                rw [ho6.cellAt n (by omega), List.map_append, List.getElem?_append_right (by simp [hn])]
                simp [hn]
              have z6 := ho6.frozenAt n
              have HST := hide (ho6.stored n (.string (Lat.ext s (a, k + 1))))
              have hsz : (Lat.ext s (a, k)).size ≤ 4096 := by unfold Lat.ext; rw [ByteArray.size_extract]; omega
              generalize Lat.ext s (a, k) = t0 at *
              go_wp2_with fail
              go_region
              go_wp2
              rw [HG.out]
              refine ⟨⟨k + 1, by omega, by go_num, by rw [HT.out], HOKS.out HK.out, ?_, ?_, ?_⟩, by simp [intOf]; omega⟩
              · rw [HT.out]
                exact World.ownsRow.drew (own_last hn HST.out.1)
              · rw [HT.out]
                have h7 : OwnI _ _ _ _ := World.ownsRow.drew (ownI_far (n := n) (g := g) HO7.out ho6 rfl (.string (Lat.ext s (a, k + 1))))
                rw [HL.out] at h7
                simpa using h7
              · exact ((HNX.out.setCell hb6 _)).drew
        · have HBAD : Hid (Lat.badAt s = some k) := hide (Lat.find_hit hlt (fun d hd => by rw [HALL.out d hd]; rfl) (by
            rw [HOK.out]
            simp [Lat.blankN, Lat.brackN, n32, n10, n40, n41] at hlong ⊢
            exact hlong))
          have HE1 : Hid (Lat.wn s = k) := hide (by unfold Lat.wn; rw [if_neg HBG.out, HBAD.out]; rfl)
          have HE2 : Hid (Lat.we s = 3) := hide (by unfold Lat.we; rw [if_neg HBG.out, HBAD.out]; rfl)
          have HE3 : Hid (Lat.wds s = []) := hide (by unfold Lat.wds; rw [if_neg HBG.out, HBAD.out])
          have HE4 : Hid (Lat.wats s = []) := hide (by unfold Lat.wats; rw [if_neg HBG.out, HBAD.out])
          have HS : Hid (StrsC wr (.slice none 0 0) []) := hide (Own.strsC (World.ownsRow_nil wr 0 _ _) (fun s hs => absurd hs (by simp)) (by simp))
          have HI : Hid (Ints wr (.slice none 0 0) []) := hide (OwnI.ints (World.ownsRow_nil wr 0 _ _) (by simp))
          have hno : (¬ (97 ≤ s[k].toNat ∧ s[k].toNat ≤ 122)) ∧ (¬ (48 ≤ s[k].toNat ∧ s[k].toNat ≤ 57)) ∧ s[k].toNat ≠ 46 ∧ s[k].toNat ≠ 43 ∧ s[k].toNat ≠ 45 ∧ s[k].toNat ≠ 42 ∧ s[k].toNat ≠ 60 ∧ s[k].toNat ≠ 61 := by
            unfold Lat.longN at hlong
            simp only [Bool.or_eq_true, Bool.and_eq_true, decide_eq_true_eq, beq_iff_eq] at hlong
            omega
          have c46 : ((s[k].toNat : Int) == 46) = false := by simp; omega
          have c43 : ((s[k].toNat : Int) == 43) = false := by simp; omega
          have c45 : ((s[k].toNat : Int) == 45) = false := by simp; omega
          have c42 : ((s[k].toNat : Int) == 42) = false := by simp; omega
          have c60 : ((s[k].toNat : Int) == 60) = false := by simp; omega
          have c61 : ((s[k].toNat : Int) == 61) = false := by simp; omega
          clear hlong n41 n40 n10 n32
          have hcase : s[k].toNat < 48 ∨ (57 < s[k].toNat ∧ s[k].toNat < 97) ∨ 122 < s[k].toNat := by omega
          rcases hcase with l | l | l
          case' inl =>
            have f1 : ¬ (97 : Int) ≤ (s[k].toNat : Int) := by omega
            have f3 : ¬ (48 : Int) ≤ (s[k].toNat : Int) := by omega
          case' inr.inl =>
            have f1 : ¬ (97 : Int) ≤ (s[k].toNat : Int) := by omega
            have f3 : (48 : Int) ≤ (s[k].toNat : Int) := by omega
            have f4 : ¬ (s[k].toNat : Int) ≤ 57 := by omega
          case' inr.inr =>
            have f1 : (97 : Int) ≤ (s[k].toNat : Int) := by omega
            have f2 : ¬ (s[k].toNat : Int) ≤ 122 := by omega
            have f3 : (48 : Int) ≤ (s[k].toNat : Int) := by omega
            have f4 : ¬ (s[k].toNat : Int) ≤ 57 := by omega
          all_goals
            clear l hno
            go_wp2
            (try simp only [Exit.inBlock, Exit.then])
            refine bodyPost_ret (results_tmp4 rfl _ _ _) rfl ?_
            exact ⟨_, _, ret4 (by rw [HE1.out]) (by rw [HE2.out]), by rw [HE3.out]; exact HS.out, by rw [HE4.out]; exact HI.out, HNX.out⟩
      · have hbad : Lat.badAt s = none := Lat.find_none (fun d hd => by rw [HALL.out d (by omega)]; rfl)
        have e : k = s.size := by omega
        subst e
        have e1 : Lat.wn s = 0 := by unfold Lat.wn; rw [if_neg HBG.out, hbad]; rfl
        have e2 : Lat.we s = 0 := by unfold Lat.we; rw [if_neg HBG.out, hbad]; rfl
        have e3 : Lat.wds s = (Lat.tok s s.size).1.map (Lat.ext s) := by unfold Lat.wds; rw [if_neg HBG.out, hbad]
        have e4 : Lat.wats s = (Lat.tok s s.size).1.map fun p => (p.1 : Int) := by unfold Lat.wats; rw [if_neg HBG.out, hbad]
        have HE1 := hide e1
        have HE2 := hide e2
        have HE3 := hide e3
        have HE4 := hide e4
        have hlen := (tok_inv s s.size).1
        have HS := hide (HO6.out.strsC (fun t ht => by
          obtain ⟨p, _, rfl⟩ := List.mem_map.1 ht
          unfold Lat.ext maxLen
          rw [ByteArray.size_extract]; omega) (by rw [List.length_map]; omega))
        have HI := hide (HO7.out.ints (by rw [List.length_map]; omega))
        clear e1 e2 e3 e4 hbad hlen
        go_wp2
        (try simp only [Exit.inBlock, Exit.then])
        refine bodyPost_ret (results_tmp4 rfl _ _ _) rfl ?_
        exact ⟨_, _, ret4 (by rw [HE1.out]; rfl) (by rw [HE2.out]), by rw [HE3.out]; exact HS.out, by rw [HE4.out]; exact HI.out, HNX.out⟩

end Go.Proofs.Ytadpinekcadabaa
