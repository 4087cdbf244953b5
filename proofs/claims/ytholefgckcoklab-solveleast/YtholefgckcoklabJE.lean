/- SolveLeast: the law's walk where Least answers. -/
import Derived.Test.YtholefgckcoklabJD
namespace Go.Proofs.Ytholefgckcoklab
open Go.RowKit

theorem hidS_alloc {W0 x : World} {o : Obj} (h : Hid (Below W0.heap.size W0 x)) : Hid (Below W0.heap.size W0 (x.alloc o)) := hide (h.out.alloc h.out.size o)
theorem hidS_drew {W0 x : World} (h : Hid (Below W0.heap.size W0 x)) : Hid (Below W0.heap.size W0 x.drew) := hide h.out.drew
theorem cells4c {x : World} {B : Nat} {t : TypeId} {c0 c1 c2 c3 : Value} (h : x.heap[B]? = some (.cells #[c0, c1, c2, c3] t (0, 0))) : ∀ (j : Nat) u, [c0, c1, c2, c3][j]? = some u → x.cell? ⟨B, j, none⟩ = some u := fun j u hu => by
  rw [block_at h j, ← hu]
  match j with
  | 0 => rfl
  | 1 => rfl
  | 2 => rfl
  | 3 => rfl
  | j + 4 => simp
theorem OwnC.old {W w : World} {n n' : Nat} {v : Value} {l : List Sv.Co} (h : OwnC W w n v l) (hn : n' ≤ n) : OwnC W w n' v l := by
  obtain ⟨cs, ⟨h0, h1⟩, h2⟩ := h
  refine ⟨cs, ⟨h0, ?_⟩, h2⟩
  rcases h1 with h1 | ⟨g, cap, cur, hv, hg, r⟩
  · exact Or.inl h1
  · exact Or.inr ⟨g, cap, cur, hv, Nat.le_trans hn hg, r⟩
/-- The first n of a list of labels. -/
theorem LasAt.take {w : World} {a : Option Addr} {len cap n : Nat} {l : List (Int × Int)} (h : LasAt w (.slice a len cap) l) (hn : n ≤ l.length) (cap' : Nat) : LasAt w (.slice a n cap') (l.take n) := by
  obtain ⟨a', b, off, cap0, e, h0, hl, h1⟩ := h
  injection e with e1 e2 e3
  subst e1
  have hlen : (l.take n).length = n := by rw [List.length_take]; omega
  refine ⟨a, b, off, cap', by rw [hlen], fun hp => h0 (by rw [hlen] at hp; omega), by rw [hlen]; omega, fun i x hx => h1 i x ?_⟩
  have hi : i < n := by have := (List.getElem?_eq_some_iff.1 hx).1; omega
  rwa [List.getElem?_take_of_lt hi] at hx
/-- Labels that are right, as numbers. -/
def Sv.nat (l : List (Int × Int)) : Nat → Nat × Nat := fun i => match l[i]? with | some x => (x.1.toNat, x.2.toNat) | none => (0, 0)
theorem nat_ok {N n : Nat} {l : List (Int × Int)} (hn : n ≤ l.length) (h : ((l.take n).any fun x => !(Sv.labB N x.1 x.2)) = false) : Sv.Oks N n (Sv.nat l) ∧ ∀ i x, i < n → l[i]? = some x → x = ((((Sv.nat l i).1 : Nat) : Int), (((Sv.nat l i).2 : Nat) : Int)) := by
  have hl : ∀ i x, i < n → l[i]? = some x → Sv.labB N x.1 x.2 = true := fun i x hi hx => by
    have := List.any_eq_false.1 h x (by
      apply List.mem_of_getElem? (i := i)
      rw [List.getElem?_take_of_lt hi]
      exact hx)
    simpa using this
  refine ⟨fun i hi => ?_, fun i x hi hx => ?_⟩
  · obtain ⟨x, hx⟩ : ∃ x, l[i]? = some x := ⟨_, List.getElem?_eq_getElem (by omega)⟩
    unfold Sv.nat
    rw [hx]
    exact (Sv.labB_ok (hl i x hi hx)).1
  · obtain ⟨_, h1, h2⟩ := Sv.labB_ok (hl i x hi hx)
    unfold Sv.nat
    rw [hx]
    exact Prod.ext h1 h2
theorem LasAt.labsN {w : World} {a : Option Addr} {len cap n : Nat} {l : List (Int × Int)} {U : Nat → Nat × Nat} (h : LasAt w (.slice a len cap) l) (hlen : len = l.length) (hn : n ≤ l.length) (hU : ∀ i x, i < n → l[i]? = some x → x = ((((U i).1 : Nat) : Int), (((U i).2 : Nat) : Int))) : LabsAt w (.slice a len cap) n U := by
  obtain ⟨a', b, off, cap0, e, h0, hl, h1⟩ := h
  injection e with e1 e2 e3
  subst e1
  refine ⟨a, b, off, len, cap, rfl, by omega, by omega, fun hp => h0 (by omega), fun i hi => ?_⟩
  obtain ⟨x, hx⟩ : ∃ x, l[i]? = some x := ⟨_, List.getElem?_eq_getElem (by omega)⟩
  have := h1 i x hx
  rw [hU i x hi hx] at this
  exact this
theorem LabsAt.slice {w : World} {a : Option Addr} {len cap n : Nat} {U : Nat → Nat × Nat} (h : LabsAt w (.slice a len cap) n U) (cap' : Nat) : LabsAt w (.slice a n cap') n U := by
  obtain ⟨a', b, off, len0, cap0, e, h0, hl, ha, h1⟩ := h
  injection e with e1 e2 e3
  subst e1
  exact ⟨a, b, off, n, cap', rfl, Nat.le_refl _, by omega, ha, h1⟩

set_option maxHeartbeats 8000000 in
set_option maxRecDepth 100000 in
theorem sleast_ok (w : World) (vn vl vc vf : Value) (ua : Option Addr) (uc : Nat) (ss : List ByteArray) (G : Nat) (L : Nat → Nat) (Z : Nat → Nat → Bool) (n : Nat) (mt mm ml : Int) (mfr : List Int) (cs : List Sv.Co) (lo : List (Int × Int)) (hL : LaAt w vn vl ss G L Z) (hC : CosAt w vc cs) (hE : Sv.sysE ss.length n cs = 0) (hO : LasAt w (.slice ua lo.length uc) lo) (hcap : lo.length ≤ uc) (hF : Ints w vf mfr) :
    Calls Try.prog 5 #[.agg #[vn, vl], .int .i64 n, vc, .slice ua lo.length uc, .agg #[.int .i64 mt, vf, .int .i64 mm, .int .i64 ml]] w fun e w' => e = .returned (.bool true) ∧ Below w.heap.size w w' := by
  have HL := hide hL
  have HC := hide hC
  have HE := hide hE
  have HO := hide hO
  have HF := hide hF
  obtain ⟨n', hn', hn40, hlen, hall⟩ := sysE_ok hE
  obtain rfl : n = n' := by omega
  have HALL := hide hall
  obtain ⟨olen, holen⟩ : ∃ n, n = lo.length := ⟨_, rfl⟩
  have HOL := hide holen
  have hol : olen ≤ 9223372036854775807 := by obtain ⟨_, _, _, _, e, _, hl, _⟩ := hO; rw [holen]; exact hl
  rw [← holen] at HO hcap ⊢
  obtain ⟨ad, sb, so, scap, hvn, -, hsl, -, -⟩ := hL.strs
  subst hvn
  obtain ⟨ca, cb, co, cc, hvc, -⟩ := hC
  subst hvc
  obtain ⟨fa, fb, fo, fc, hvf, -⟩ := hF
  subst hvf
  obtain ⟨N, hN⟩ : ∃ N, N = ss.length := ⟨_, rfl⟩
  have HN := hide hN
  obtain ⟨len, hlen'⟩ : ∃ n, n = cs.length := ⟨_, rfl⟩
  have HLn := hide hlen'
  obtain ⟨flen, hflen⟩ : ∃ n, n = mfr.length := ⟨_, rfl⟩
  have HFL := hide hflen
  rw [← hN] at HL hsl ⊢
  rw [← hlen'] at HC hlen ⊢
  rw [← hflen] at HF ⊢
  obtain ⟨W, hW⟩ : ∃ W, W = ((w.alloc (.cells #[.slice ad N scap, vl] 25)).alloc (.cells #[.slice ca len cc] 45)).alloc (.cells #[.int .i64 mt, .slice fa flen fc, .int .i64 mm, .int .i64 ml] 50) := ⟨_, rfl⟩
  have HX := hide (dx_start w (.slice ad N scap) vl (.slice ca len cc) (.slice fa flen fc) mt mm ml W hW)
  clear hL hE hO hn' hall holen hN hlen' hflen
  go_enter Try.func5, Try.ntmps5
  go_wp2_with fail
  rw [← hW]
  clear hW
  refine (tiny_any W).mono ?_
  rintro e w1 ⟨rfl, hb1⟩
  have HX1 := hide (HX.out.below hb1)
  obtain ⟨q0, q1, q2, q3, q4, q5, q6⟩ := HX1.out.cells
  clear hb1
  go_wp2_with fail
  clear q0 q1 q2 q3 q4 q5 q6
  refine (least_ok w1 _ vl _ ss G L Z n cs (HL.out.below HX1.out.since) (HC.out.below HX1.out.since) HE.out).mono ?_
  rintro e w2 ⟨V, lb, rfl, hlas, hleast, hb2⟩
  have HX2 := hide (HX1.out.below hb2)
  have HLA2 := hide hlas
  have HLE := hide hleast
  have HSOL := hide (Sv.solB_iff.2 hleast.sol)
  have hnn : ((n : Int) != (n : Int)) = false := by simp
  clear hb2 hlas hleast HX HX1
  obtain ⟨q0, q1, q2, q3, q4, q5, q6⟩ := HX2.out.cells
  go_wp2_with fail
  refine (right_any w2 _ _ _ _ vl _ ss G L Z n cs V (HL.out.below HX2.out.since) (HC.out.below HX2.out.since) q2 q0 q1 HLA2.out.labs HLE.out.ok HALL.out).mono ?_
  rintro e w3 ⟨rfl, hb3⟩
  rw [HSOL.out]
  have HX3 := hide (HX2.out.below hb3)
  have HLA3 := hide (HLA2.out.below hb3)
  clear hb3 HX2 HLA2 q0 q1 q2 q3 q4 q5 q6
  go_upto_region 10 with fail
  go_cut [67] from 16 (fun s wx => s = .bool false ∧ Hid (DX w wx (.slice ad N scap) vl (.slice ca len cc) mt (.slice fa flen fc) mm ml ∧ LasAt wx (.slice (some ⟨lb, 0, none⟩) n n) (Sv.list n V)))
  case first =>
    obtain ⟨q0, q1, q2, q3, q4, q5, q6⟩ := HX3.out.cells
    have HO3 := hide (HO.out.below HX3.out.since)
    by_cases hge : n ≤ olen
    · have hge' : (n : Int) ≤ (olen : Int) := by omega
      have hnc : (n : Int) ≤ (uc : Int) := by omega
      have hn0 : (0 : Int) ≤ (n : Int) := by omega
      have HT3 : Hid (∀ c, LasAt w3 (.slice ua n c) (lo.take n)) := hide fun c => HO3.out.take (by rw [← HOL.out]; exact hge) c
      go_wp2_with fail
      refine (containsL_any w3 _ (lo.take n) _ ad vl N scap hsl q0 q1 (HT3.out _)).mono ?_
      rintro e w4 ⟨rfl, hb4⟩
      have HX4 := hide (HX3.out.below hb4)
      have HLA4 := hide (HLA3.out.below hb4)
      have HO4 := hide (HO3.out.below hb4)
      clear hb4 HX3 HLA3 HO3 q0 q1 q2 q3 q4 q5 q6
      cases hbad : ((lo.take n).any fun x => !(Sv.labB N x.1 x.2))
      · obtain ⟨hok, hU⟩ := nat_ok (by rw [← HOL.out]; exact hge) hbad
        rw [HN.out] at hok
        have HOK := hide hok
        have HLB4 := hide (HO4.out.labsN (U := Sv.nat lo) HOL.out (by rw [← HOL.out]; exact hge) hU)
        clear hok hU
        obtain ⟨q0, q1, q2, q3, q4, q5, q6⟩ := HX4.out.cells
        go_wp2_with fail
        refine (right_any w4 _ _ _ _ vl _ ss G L Z n cs (Sv.nat lo) (HL.out.below HX4.out.since) (HC.out.below HX4.out.since) q2 q0 q1 HLB4.out HOK.out HALL.out).mono ?_
        rintro e w5 ⟨rfl, hb5⟩
        have HX5 := hide (HX4.out.below hb5)
        have HLA5 := hide (HLA4.out.below hb5)
        have HLB5 := hide (HLB4.out.below hb5)
        clear hb5 HX4 HLA4 HLB4 q0 q1 q2 q3 q4 q5 q6
        cases hsol : cs.all (Sv.solB Z (Sv.nat lo))
        · go_wp2_with fail
          go_meet
          case rel => exact ⟨rfl, hide ⟨HX5.out, HLA5.out⟩⟩
        · obtain ⟨q0, q1, q2, q3, q4, q5, q6⟩ := HX5.out.cells
          go_wp2_with fail
          refine (sleq_any w5 _ _ _ _ vl ss G L Z n V (Sv.nat lo) (HL.out.below HX5.out.since) q0 q1 HLA5.out (HLB5.out.slice _) HLE.out.ok HOK.out (HLE.out.least _ HOK.out (Sv.solB_iff.1 hsol))).mono ?_
          rintro e w6 ⟨rfl, hb6⟩
          have HX6 := hide (HX5.out.below hb6)
          have HLA6 := hide (HLA5.out.below hb6)
          clear hb6 q0 q1 q2 q3 q4 q5 q6
          go_wp2_with fail
          go_meet
          case rel => exact ⟨rfl, hide ⟨HX6.out, HLA6.out⟩⟩
      · go_wp2_with fail
        go_meet
        case rel => exact ⟨rfl, hide ⟨HX4.out, HLA4.out⟩⟩
    · have hge' : ¬ ((n : Int) ≤ (olen : Int)) := by omega
      have hge2 : decide ((n : Int) ≤ (olen : Int)) = false := decide_eq_false hge'
      clear q0 q1 q2 q3 q4 q5 q6
      go_wp2_with fail
      go_meet
      case rel => exact ⟨rfl, hide ⟨HX3.out, HLA3.out⟩⟩
  case rest =>
    obtain ⟨rfl, hcut'⟩ := hcut
    have HX6 := hide hcut'.out.1
    have HLA6 := hide hcut'.out.2
    clear hcut' HX3 HLA3
    go_wp2_with fail
    generalize wc = W9 at *
    have H00 : Hid (Below W9.heap.size W9 W9) := hide (Below.refl _ _)
    have HSF : Hid (∀ x, Hid (Below W9.heap.size W9 x) → x.cell? ⟨w.heap.size, 0, none⟩ = some (.slice ad N scap) ∧ x.cell? ⟨w.heap.size, 1, none⟩ = some vl ∧ x.cell? ⟨w.heap.size + 1, 0, none⟩ = some (.slice ca len cc) ∧ x.cell? ⟨w.heap.size + 1 + 1, 0, none⟩ = some (.int .i64 mt) ∧ x.cell? ⟨w.heap.size + 1 + 1, 1, none⟩ = some (.slice fa flen fc) ∧ x.cell? ⟨w.heap.size + 1 + 1, 2, none⟩ = some (.int .i64 mm) ∧ x.cell? ⟨w.heap.size + 1 + 1, 3, none⟩ = some (.int .i64 ml)) := hide fun x h => (HX6.out.below h.out).cells
    have HL9 := hide (HL.out.below HX6.out.since)
    have HC9 := hide (HC.out.below HX6.out.since)
    have HCO : Hid (CoC W9 [.int .i64 mt, .slice fa flen fc, .int .i64 mm, .int .i64 ml] ⟨mt, mfr, mm, ml⟩) := hide ⟨_, HF.out.below HX6.out.since, rfl⟩
    have HCL := hide (fun (x : World) (h : Hid (Below W9.heap.size W9 x)) => cloneCo_any W9 x (.slice ca len cc) cs HC9.out h.out (by have := HLn.out; omega))
    by_cases hs2 : Sv.sysE ss.length n (cs ++ [⟨mt, mfr, mm, ml⟩]) = 0
    · have HS2 := hide hs2
      clear hs2
      go_region_held3 (fun x => x.cell? ⟨w.heap.size, 0, none⟩ = some (.slice ad N scap) ∧ x.cell? ⟨w.heap.size, 1, none⟩ = some vl ∧ x.cell? ⟨w.heap.size + 1, 0, none⟩ = some (.slice ca len cc) ∧ x.cell? ⟨w.heap.size + 1 + 1, 0, none⟩ = some (.int .i64 mt) ∧ x.cell? ⟨w.heap.size + 1 + 1, 1, none⟩ = some (.slice fa flen fc) ∧ x.cell? ⟨w.heap.size + 1 + 1, 2, none⟩ = some (.int .i64 mm) ∧ x.cell? ⟨w.heap.size + 1 + 1, 3, none⟩ = some (.int .i64 ml))
        ((refine HSF.out _ ?_; repeat (first | exact HW12 | exact HW11 | exact HW10 | exact H00 | apply hidS_drew | apply hidS_alloc)))
        (first
          | (go_at_call 27; refine (HCL.out _ (by repeat (first | exact H00 | apply hidS_drew | apply hidS_alloc))).mono ?_; rintro e w10 ⟨u10, rfl, hu10, hb10⟩; have HW10 : Hid (Below W9.heap.size W9 w10) := hide (up (w := W9) (unhide (by repeat (first | exact H00 | apply hidS_drew | apply hidS_alloc))) hb10); have HU10 := hide (hu10.old (show W9.heap.size ≤ _ from (unhide (by repeat (first | exact H00 | apply hidS_drew | apply hidS_alloc)) : Below W9.heap.size W9 _).size)); (try have HLB := hide (at_up (w := (W9.alloc (.cells #[.int .i64 mt, .slice fa flen fc, .int .i64 mm, .int .i64 ml] 50)).drew) (block_new W9 _) hb10)); obtain ⟨a10, c10, rfl⟩ := hu10.form; clear hu10 hb10)
          | (refine step_append_co (W := W9) (by rfl) _ _ (by rfl) W9.heap.size _ cs (by rfl) (by first | exact HU10.out | exact HU10.out.below (boxBelow _ _)) _ [.int .i64 mt, .slice fa flen fc, .int .i64 mm, .int .i64 ml] ⟨mt, mfr, mm, ml⟩ (by rfl) (by first | exact cells4c HLB.out | exact cells4c (block_new w10 _)) HCO.out (by have := HLn.out; omega) (by first | exact HW10.out.size | exact (hidS_alloc HW10).out.size) ?_; intro g11 cap11 w11 hown11 hgrow11; have HU11 := hide hown11; have HW11 : Hid (Below W9.heap.size W9 w11) := hide (by first | exact Below.grown HW10.out hgrow11 HW10.out.size (fun k hk => (HU10.out.lt k hk).1) | exact Below.grown (hidS_alloc HW10).out hgrow11 (hidS_alloc HW10).out.size (fun k hk => (HU10.out.lt k hk).1)); clear hown11 hgrow11)
          | (go_at_call 20; refine (least_ok _ _ vl _ ss G L Z n (cs ++ [⟨mt, mfr, mm, ml⟩]) (HL9.out.below HW11.out) (HU11.out.cos HW11.out (by simp; have := HLn.out; omega)) HS2.out).mono ?_; rintro e w12 ⟨V2, lb2, rfl, hlas2, hleast2, hb12⟩; have HW12 : Hid (Below W9.heap.size W9 w12) := hide (up HW11.out hb12); have HLA2 := hide hlas2; have HLE2 := hide hleast2; clear hlas2 hleast2 hb12))
      all_goals
        have HX12 := hide (HX6.out.below HW12.out)
        have HLA12 := hide (HLA6.out.below HW12.out)
        obtain ⟨q0, q1, q2, q3, q4, q5, q6⟩ := HX12.out.cells
        go_wp2_with fail
        refine (sleq_any w12 _ _ _ _ vl ss G L Z n V V2 (HL.out.below HX12.out.since) q0 q1 HLA12.out HLA2.out.labs HLE.out.ok HLE2.out.ok (HLE.out.more HLE2.out)).mono ?_
        rintro e w13 ⟨rfl, hb13⟩
        have HB13 := hide (up HX12.out.since hb13)
        clear hb13 q0 q1 q2 q3 q4 q5 q6
        go_wp2_with fail
        go_ret
        exact ⟨rfl, HB13.out⟩
    · have HS2 := hide hs2
      obtain ⟨E, hEq⟩ : ∃ E, E = Sv.sysE ss.length n (cs ++ [⟨mt, mfr, mm, ml⟩]) := ⟨_, rfl⟩
      have HEQ := hide hEq
      have hz := bne_zero_true (show E ≠ 0 by rw [hEq]; exact hs2)
      clear hs2 hEq
      go_region_held3 (fun x => x.cell? ⟨w.heap.size, 0, none⟩ = some (.slice ad N scap) ∧ x.cell? ⟨w.heap.size, 1, none⟩ = some vl ∧ x.cell? ⟨w.heap.size + 1, 0, none⟩ = some (.slice ca len cc) ∧ x.cell? ⟨w.heap.size + 1 + 1, 0, none⟩ = some (.int .i64 mt) ∧ x.cell? ⟨w.heap.size + 1 + 1, 1, none⟩ = some (.slice fa flen fc) ∧ x.cell? ⟨w.heap.size + 1 + 1, 2, none⟩ = some (.int .i64 mm) ∧ x.cell? ⟨w.heap.size + 1 + 1, 3, none⟩ = some (.int .i64 ml))
        ((refine HSF.out _ ?_; repeat (first | exact HW12 | exact HW11 | exact HW10 | exact H00 | apply hidS_drew | apply hidS_alloc)))
        (first
          | (go_at_call 27; refine (HCL.out _ (by repeat (first | exact H00 | apply hidS_drew | apply hidS_alloc))).mono ?_; rintro e w10 ⟨u10, rfl, hu10, hb10⟩; have HW10 : Hid (Below W9.heap.size W9 w10) := hide (up (w := W9) (unhide (by repeat (first | exact H00 | apply hidS_drew | apply hidS_alloc))) hb10); have HU10 := hide (hu10.old (show W9.heap.size ≤ _ from (unhide (by repeat (first | exact H00 | apply hidS_drew | apply hidS_alloc)) : Below W9.heap.size W9 _).size)); (try have HLB := hide (at_up (w := (W9.alloc (.cells #[.int .i64 mt, .slice fa flen fc, .int .i64 mm, .int .i64 ml] 50)).drew) (block_new W9 _) hb10)); obtain ⟨a10, c10, rfl⟩ := hu10.form; clear hu10 hb10)
          | (refine step_append_co (W := W9) (by rfl) _ _ (by rfl) W9.heap.size _ cs (by rfl) (by first | exact HU10.out | exact HU10.out.below (boxBelow _ _)) _ [.int .i64 mt, .slice fa flen fc, .int .i64 mm, .int .i64 ml] ⟨mt, mfr, mm, ml⟩ (by rfl) (by first | exact cells4c HLB.out | exact cells4c (block_new w10 _)) HCO.out (by have := HLn.out; omega) (by first | exact HW10.out.size | exact (hidS_alloc HW10).out.size) ?_; intro g11 cap11 w11 hown11 hgrow11; have HU11 := hide hown11; have HW11 : Hid (Below W9.heap.size W9 w11) := hide (by first | exact Below.grown HW10.out hgrow11 HW10.out.size (fun k hk => (HU10.out.lt k hk).1) | exact Below.grown (hidS_alloc HW10).out hgrow11 (hidS_alloc HW10).out.size (fun k hk => (HU10.out.lt k hk).1)); clear hown11 hgrow11)
          | (go_at_call 20; refine (least_err2 _ _ vl _ ss G L Z n (cs ++ [⟨mt, mfr, mm, ml⟩]) (HL9.out.below HW11.out) (HU11.out.cos HW11.out (by simp; have := HLn.out; omega)) HS2.out).mono ?_; rintro e w12 ⟨rfl, hb12⟩; rw [← HEQ.out]; have HW12 : Hid (Below W9.heap.size W9 w12) := hide (up HW11.out hb12); clear hb12))
      all_goals
        have HX12 := hide (HX6.out.below HW12.out)
        go_wp2_with fail
        go_ret
        exact ⟨rfl, HX12.out.since⟩

end Go.Proofs.Ytholefgckcoklab
