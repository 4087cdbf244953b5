/- Walks over package solve, sixth part: round, settle. -/
import Derived.Test.YtholefgckcoklaaZG
import Derived.Test.YtholefgckcoklaaZP
import Derived.Deep.LoopGhost
namespace Go.Proofs.Ytholefgckcoklaa
open Go.RowKit

theorem bit_test {s f : Nat} (hs : s < 1099511627776) : (bits .and .u64 ((s : Int) / 2 ^ f) 1 == 1) = s.testBit f := by
  have e : (s : Int) / 2 ^ f = ((s / 2 ^ f : Nat) : Int) := by simp
  have hq : s / 2 ^ f ≤ s := Nat.div_le_self _ _
  rw [e, show (1 : Int) = ((1 : Nat) : Int) from rfl, u64_and_nat (s / 2 ^ f) 1 (by omega) (by decide), Nat.and_one_is_mod, Nat.testBit_eq_decide_div_mod_eq, Bool.eq_iff_iff]
  simp
  omega

set_option maxHeartbeats 2000000 in
set_option maxRecDepth 100000 in
theorem round_any (w0 w : World) (c : Cf) (V : Nat → Nat × Nat) (S : Nat → Nat) (ss : List ByteArray) (G : Nat) (L : Nat → Nat) (Z : Nat → Nat → Bool) (hL : LaAt w0 c.vn c.vl ss G L Z) (h : SyAt w0 w c V S)
    (hV : Sv.Oks ss.length c.n V) (hn : c.n ≤ 40) (hS : SrcOk c.n S) :
    Calls Try.prog 67 #[.pointer (some ⟨c.p, 0, none⟩)] w fun e w' => ∃ r V', e = .returned (.bool r) ∧ SyAt w0 w' c V' S ∧ Sv.Rd Z ss.length c.n S V V' r ∧ (r = false → Sv.Closed Z c.n S V') := by
  have HRS := hide (fun w1 V1 i a (h1 : SyAt w0 w1 c V1 S) hV1 hi ha => raise_any w0 w1 c V1 S ss G L Z i a hL h1 hV1 hi ha hn)
  have HJ := hide hL.joins
  have HSY := hide h
  have HV := hide hV
  have HS := hide hS
  obtain ⟨p, lb, sb, n, vn, vl⟩ := c
  simp only at HRS HV HS hn ⊢
  obtain ⟨c0, c1, c2, c3⟩ := HSY.out.cell
  simp only at c0 c1 c2 c3
  clear hL h hV hS
  go_enter Try.func67, Try.ntmps67
  go_wp2_with fail
  clear c0 c1 c2 c3
  go_loopw [3, 12] (fun rs i wx => ∃ k : Nat, k ≤ n ∧ i = .int .i64 k ∧ ∃ r V', rs = .bool r ∧ SyAt w0 wx ⟨p, lb, sb, n, vn, vl⟩ V' S ∧ Sv.Rd Z ss.length n S V V' r ∧ (r = false → ∀ t f, t < k → f < n → (S t).testBit f = true → Sv.le Z (V' f) (V' t) = true)) (fun _ i _ => n - (intOf i).toNat)
  case atStart => exact ⟨0, Nat.zero_le _, rfl, false, V, rfl, HSY.out, Sv.Rd.refl HJ.out HV.out, fun _ t f ht => absurd ht (Nat.not_lt_zero _)⟩
  case round =>
    obtain ⟨k, hk, rfl, r, V1, rfl, hsy, hrd, hvis⟩ := hrel
    have HRD := hide hrd
    have HVIS := hide hvis
    have HSY1 := hide hsy
    obtain ⟨c0, c1, c2, c3⟩ := hsy.cell
    simp only at c0 c1 c2 c3
    clear hrd hvis hsy
    by_cases hlt : k < n
    · go_wp2_with fail
      clear c0 c1 c2 c3
      go_loopw [3, 20] (fun rs i wx => ∃ m : Nat, m ≤ n ∧ i = .int .i64 m ∧ ∃ r V', rs = .bool r ∧ SyAt w0 wx ⟨p, lb, sb, n, vn, vl⟩ V' S ∧ Sv.Rd Z ss.length n S V V' r ∧ (r = false → (∀ t f, t < k → f < n → (S t).testBit f = true → Sv.le Z (V' f) (V' t) = true) ∧ ∀ f, f < m → (S k).testBit f = true → Sv.le Z (V' f) (V' k) = true)) (fun _ i _ => n - (intOf i).toNat)
      case atStart => exact ⟨0, Nat.zero_le _, rfl, r, V1, rfl, HSY1.out, HRD.out, fun e => ⟨HVIS.out e, fun f hf => absurd hf (Nat.not_lt_zero _)⟩⟩
      case round =>
        clear HSY1 HRD HVIS
        obtain ⟨m, hm, rfl, r, V2, rfl, hsy, hrd, hvis⟩ := hrel
        have HRD := hide hrd
        have HVIS := hide hvis
        have HSY2 := hide hsy
        clear hrd hvis
        by_cases hml : m < n
        · obtain ⟨l0, l1, -, -⟩ := hsy.labc (i := m) hml
          obtain ⟨x, hx⟩ : ∃ x, x = V2 m := ⟨_, rfl⟩
          have HX := hide hx
          simp only at l0 l1
          rw [← hx] at l0 l1
          have hsy3 := hsy.below (boxBelow wr (.cells #[.int .i64 (x.1 : Nat), .int .i64 (x.2 : Nat)] 46))
          have HSY3 := hide hsy3
          obtain ⟨c0, c1, c2, c3⟩ := hsy3.cell
          obtain ⟨s0, -⟩ := hsy3.srcc (i := k) hlt
          simp only at c0 c1 c2 c3 s0
          obtain ⟨b, hb⟩ : ∃ b, b = (S k).testBit m := ⟨_, rfl⟩
          have HBE := hide hb
          have hbt := bit_test (f := m) (HS.out k hlt)
          rw [← hb] at hbt
          clear hsy hsy3 hx hb
          cases b
          · go_wp2_with fail
            go_roundw
            case rel => exact ⟨m + 1, by omega, by go_num, r, V2, rfl, HSY3.out, HRD.out, fun e => ⟨(HVIS.out e).1, fun f hf hbf => by
                by_cases ef : f = m
                · subst ef; rw [← HBE.out] at hbf; cases hbf
                · exact (HVIS.out e).2 f (by omega) hbf⟩⟩
            case measure => simp [intOf]; omega
          · go_wp2_with fail
            refine (HRS.out _ V2 k x HSY3.out HRD.out.ok hlt (by rw [HX.out]; exact HRD.out.ok m hml)).mono ?_
            rintro e w3 ⟨rfl, hh⟩
            have HSY4 := hide hh.out.1
            clear hh
            cases hle : Sv.le Z x (V2 k)
            · go_wp2_with fail
              go_roundw
              case rel => exact ⟨m + 1, by omega, by go_num, true, _, rfl, HSY4.out, by
                  have h1 := HX.out
                  subst h1
                  exact HRD.out.up HJ.out HV.out hlt hml HBE.out.symm hle, (fun e => by cases e)⟩
              case measure => simp [intOf]; omega
            · go_wp2_with fail
              go_roundw
              case rel => exact ⟨m + 1, by omega, by go_num, r, V2, rfl, by have := HSY4.out; rwa [Sv.up_yes hle] at this, HRD.out, fun e => ⟨(HVIS.out e).1, fun f hf hbf => by
                  by_cases ef : f = m
                  · subst ef; rw [← HX.out]; exact hle
                  · exact (HVIS.out e).2 f (by omega) hbf⟩⟩
              case measure => simp [intOf]; omega
        · clear hsy
          go_wp2_with fail
          go_roundw
          case rel => exact ⟨k + 1, by omega, by go_num, r, V2, rfl, HSY2.out, HRD.out, fun e t f ht hf hbf => by
              by_cases et : t = k
              · subst et; exact (HVIS.out e).2 f (by omega) hbf
              · exact (HVIS.out e).1 t f (by omega) hf hbf⟩
          case measure => simp [intOf]; omega
    · go_wp2_with fail
      go_ret
      exact ⟨r, V1, rfl, HSY1.out, HRD.out, fun e t f ht hf hbf => HVIS.out e t f (by omega) hf hbf⟩

set_option maxHeartbeats 2000000 in
set_option maxRecDepth 100000 in
theorem settle_any (w0 w : World) (c : Cf) (V : Nat → Nat × Nat) (S : Nat → Nat) (ss : List ByteArray) (G : Nat) (L : Nat → Nat) (Z : Nat → Nat → Bool) (hL : LaAt w0 c.vn c.vl ss G L Z) (h : SyAt w0 w c V S)
    (hV : Sv.Oks ss.length c.n V) (hn : c.n ≤ 40) (hS : SrcOk c.n S) :
    Calls Try.prog 53 #[.pointer (some ⟨c.p, 0, none⟩)] w fun e w' => ∃ V', e = .returned (.tuple #[]) ∧ SyAt w0 w' c V' S ∧ Sv.Settled Z ss.length c.n S V V' := by
  have HRS := hide (fun w1 V1 (h1 : SyAt w0 w1 c V1 S) hV1 => round_any w0 w1 c V1 S ss G L Z hL h1 hV1 hn hS)
  have HJ := hide hL.joins
  have HSY := hide h
  have HV := hide hV
  clear hL h hV hS
  go_enter Try.func53, Try.ntmps53
  go_wp2_with fail
  go_loopg [] (Sv.left Z ss.length c.n V) (fun g wx => ∃ V', g = Sv.left Z ss.length c.n V' ∧ SyAt w0 wx c V' S ∧ Sv.Oks ss.length c.n V' ∧ Sv.Les Z c.n V V' ∧ ∀ U, Sv.Oks ss.length c.n U → Sv.Closed Z c.n S U → Sv.Les Z c.n V U → Sv.Les Z c.n V' U)
  case atStart => exact ⟨V, rfl, HSY.out, HV.out, Sv.les_refl HJ.out HV.out, fun _ _ _ h => h⟩
  case round =>
    obtain ⟨V1, rfl, hsy, hok, hge, hle⟩ := hrel
    have HSY1 := hide hsy
    have HOK := hide hok
    have HGE := hide hge
    have HLE := hide hle
    clear hsy hok hge hle
    go_wp2_with fail
    refine (HRS.out _ V1 HSY1.out HOK.out).mono ?_
    rintro e w2 ⟨r, V2, rfl, hsy2, hrd, hcl⟩
    have HSY2 := hide hsy2
    have HRD := hide hrd
    have HCL := hide hcl
    clear hsy2 hrd hcl
    cases r
    · go_wp2_with fail
      go_end0
      exact ⟨V2, rfl, HSY2.out, HRD.out.ok, Sv.les_trans HJ.out HV.out HOK.out HRD.out.ok HGE.out HRD.out.ge, HCL.out (by simp), fun U hU hc hVU => HRD.out.least U hU hc (HLE.out U hU hc hVU)⟩
    · go_wp2_with fail
      go_roundg (Sv.left Z ss.length c.n V2)
      case measure => exact HRD.out.less rfl
      case rel => exact ⟨V2, rfl, HSY2.out, HRD.out.ok, Sv.les_trans HJ.out HV.out HOK.out HRD.out.ok HGE.out HRD.out.ge, fun U hU hc hVU => HRD.out.least U hU hc (HLE.out U hU hc hVU)⟩

end Go.Proofs.Ytholefgckcoklaa
