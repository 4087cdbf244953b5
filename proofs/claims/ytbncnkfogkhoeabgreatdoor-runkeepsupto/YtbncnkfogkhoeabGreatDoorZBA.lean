/- Walks over package parse: lists of commands and of names, one after another. -/
import Derived.Test.YtbncnkfogkhoeabGreatDoorZAZ
namespace Go.Proofs.YtbncnkfogkhoeabGreatDoor
open Go.RowKit

/-- A command's eight cells. -/
def StL (m : Nat) (w : World) (c : List Value) (s : St) : Prop :=
  ∃ e0 e1 e2 e3 va vb, c = [.int .i64 s.kind, .string s.name, e0, e1, e2, e3, va, vb] ∧ I64 s.kind ∧ s.name.size ≤ maxLen ∧ ExAt w m e0 e1 e2 e3 s.e ∧ StsAt w m va s.a ∧ StsAt w m vb s.b
theorem stMono (m : Nat) : Mono (StL m) := fun _ _ _ _ hs h => by
  obtain ⟨e0, e1, e2, e3, va, vb, e, h1, h2, h3, h4, h5⟩ := h
  exact ⟨e0, e1, e2, e3, va, vb, e, h1, h2, h3.sub hs, h4.sub hs, h5.sub hs⟩
theorem StL.shape {m : Nat} {w : World} {c : List Value} {s : St} (h : StL m w c s) : ∃ ax cx aa ca ab cb, c = [.int .i64 s.kind, .string s.name, .int .i64 s.e.kind, .int .i64 s.e.n, .string s.e.name, .slice ax s.e.args.length cx, .slice aa s.a.length ca, .slice ab s.b.length cb] := by
  obtain ⟨e0, e1, e2, e3, va, vb, rfl, _, _, h3, h4, h5⟩ := h
  obtain ⟨ax, cx, rfl, rfl, rfl, rfl⟩ := h3.shape
  obtain ⟨aa, ca, rfl, _⟩ := h4.shape
  obtain ⟨ab, cb, rfl, _⟩ := h5.shape
  exact ⟨ax, cx, aa, ca, ab, cb, rfl⟩
theorem StL.one {m : Nat} {w : World} {c : List Value} {s : St} (h : StL m w c s) : ∀ u ∈ c, u.oneCell' = true := by
  obtain ⟨ax, cx, aa, ca, ab, cb, rfl⟩ := h.shape
  intro u hu
  simp at hu
  rcases hu with rfl | rfl | rfl | rfl | rfl | rfl | rfl | rfl <;> rfl
theorem infoSt : (Tryz.prog.info? 107).map (fun i => (i.zero, i.size, i.bytes)) = some (some (.agg #[.int .i64 0, .string ⟨#[]⟩, .int .i64 0, .int .i64 0, .string ⟨#[]⟩, .slice none 0 0, .slice none 0 0, .slice none 0 0]), 8, 128) := by kernel_rfl
theorem cells8 (w : World) (c0 c1 c2 c3 c4 c5 c6 c7 : Value) (t : TypeId) : ∀ (j : Nat) u, [c0, c1, c2, c3, c4, c5, c6, c7][j]? = some u → (w.alloc (.cells #[c0, c1, c2, c3, c4, c5, c6, c7] t)).cell? ⟨w.heap.size, j, none⟩ = some u := by
  intro j u hu
  rw [block_at (block_new w (.cells #[c0, c1, c2, c3, c4, c5, c6, c7] t))]
  simpa using hu
theorem sts_nil (W : World) (m : Nat) : StsAt W (m + 1) (.slice none 0 0) [] := ⟨none, 0, 0, 0, rfl, fun h => absurd h (by simp), by simp, fun i y hy => by simp at hy⟩
/-- A row of commands of the call's own is a list of commands. -/
theorem OwnL.sts {m n : Nat} {w' : World} {v : Value} {l : List St} (h : OwnL (StL m) w' n 107 8 v l) (hl : l.length ≤ 9223372036854775807) : StsAt (only (fun b => decide (n ≤ b)) w') (m + 1) v l := by
  rcases h.shape with ⟨rfl, rfl⟩ | ⟨g, cap, rfl, _, hg, _⟩
  · exact sts_nil _ _
  · refine ⟨_, g, 0, cap, rfl, fun _ => rfl, hl, fun i y hy => ?_⟩
    obtain ⟨c, hc, hcell, _, e0, e1, e2, e3, va, vb, rfl, k1, k2, hx, ha, hb⟩ := h.cell hy
    have hs : ∀ j (hj : j < 8), (only (fun b => decide (n ≤ b)) w').cell? ⟨g, 0 + i * 8 + j, none⟩ = some ([.int .i64 y.kind, .string y.name, e0, e1, e2, e3, va, vb][j]) := fun j hj => by
      refine only_cell.2 ⟨decide_eq_true hg, ?_⟩
      rw [Nat.zero_add, hcell j hj]
      exact List.getElem?_eq_getElem (by simpa using hj)
    have hsub : Sub (only (fun b => decide (n ≤ b) && decide (some g ≠ some b)) w') (only (fun b => decide (n ≤ b)) w') := fun a u hu => by
      obtain ⟨b1, b2⟩ := only_cell.1 hu
      exact only_cell.2 ⟨(Bool.and_eq_true_iff.1 b1).1, b2⟩
    exact ⟨k1, k2, e0, e1, e2, e3, va, vb, hs 0 (by decide), hs 1 (by decide), hs 2 (by decide), hs 3 (by decide), hs 4 (by decide), hs 5 (by decide), hs 6 (by decide), hs 7 (by decide), hx.sub hsub, ha.sub hsub, hb.sub hsub⟩

/-- The contract of command, with fuel k. -/
def CmdC (K k : Nat) : Prop := ∀ (w : World) (p : Nat) (ws : List ByteArray) (ps : List Int) (d : Nat) (st : Rd.Sr), RdAt w p ws ps d st → Rd.Ok k st → Rd.Ok K st → DOk d st → Rd.brc st = true →
  Calls Tryz.prog 134 #[.pointer (some ⟨p, 0, none⟩)] w fun e w' => ∃ c0 c1 c2 c3 c4 c5 c6 c7, e = .returned (.agg #[c0, c1, c2, c3, c4, c5, c6, c7]) ∧ StL (K + 1 + k) (fr w w') [c0, c1, c2, c3, c4, c5, c6, c7] (Rd.pS K k d st).1 ∧ RdAt w' p ws ps d (Rd.pS K k d st).2 ∧ But p w w'

set_option maxHeartbeats 4000000 in
set_option maxRecDepth 100000 in
theorem block_of (K k : Nat) (ih : CmdC K k) (w : World) (p : Nat) (ws : List ByteArray) (ps : List Int) (d : Nat) (st : Rd.Sr) (h : RdAt w p ws ps d st) (hk : Rd.Ok k st) (hK : Rd.Ok K st) (hd : DOk d st) (hd2 : d ≤ 29) (n : Nat) (hn : Rd.Ok n st) :
    Calls Tryz.prog 153 #[.pointer (some ⟨p, 0, none⟩)] w fun e w' => ∃ v, e = .returned v ∧ StsAt (fr w w') (K + 1 + k + 1) v (Rd.blk (Rd.pS K k (d + 1)) n d st).1 ∧ RdAt w' p ws ps d (Rd.blk (Rd.pS K k (d + 1)) n d st).2 ∧ But p w w' := by
  have IH := hide ih
  have HPN := hide h.lt
  have HBL : Hid (Rd.blk (Rd.pS K k (d + 1)) n d st = ((Rd.loop Rd.brc (Rd.pS K k (d + 1)) n (Rd.op d st)).1, Rd.sh (Rd.loop Rd.brc (Rd.pS K k (d + 1)) n (Rd.op d st)).2)) := rfl
  have hlen : (Rd.op d st).r.length ≤ 4096 := Nat.le_trans (Rd.op_lt d st).1.2 (Nat.le_trans h.suffix.length_le h.len)
  have hk1 := hk.le (Rd.op_lt d st).1
  have hK1 := hK.le (Rd.op_lt d st).1
  have hn1 := hn.le (Rd.op_lt d st).1
  have hd1 := hd.op hd2
  clear ih hk hK hn hd
  go_enter Tryz.func153, Tryz.ntmps153
  go_wp2_with fail
  refine (open_any w p ws ps d st h (by omega)).mono ?_
  rintro e w0 ⟨rfl, h0, hb0⟩
  clear h
  generalize Rd.op d st = s1 at *
  go_wp2
  go_loopw [3] (fun v wr => ∃ (acc : List St) (st' : Rd.Sr) (n' : Nat), Rd.loop Rd.brc (Rd.pS K k (d + 1)) n s1 = (acc ++ (Rd.loop Rd.brc (Rd.pS K k (d + 1)) n' st').1, (Rd.loop Rd.brc (Rd.pS K k (d + 1)) n' st').2) ∧ Rd.Ok n' st' ∧ Rd.Ok k st' ∧ Rd.Ok K st' ∧ DOk (d + 1) st' ∧
      (acc.length ≤ 4097 ∧ (st'.f = true ∨ acc.length + st'.r.length ≤ 4096)) ∧ OwnL (StL (K + 1 + k)) wr w.heap.size 107 8 v acc ∧ RdAt wr p ws ps (d + 1) st' ∧ But p w wr) (fun _ wr => meas ws.length p wr)
  case atStart => exact ⟨[], s1, n, rfl, hn1, hk1, hK1, hd1, ⟨by simp, Or.inr (by simpa using hlen)⟩, OwnL.nil _ _ _ _, h0, hb0⟩
  case round =>
    clear h0 hb0 hk1 hK1 hn1 hd1 hlen
    obtain ⟨acc, st', n', hL, hnk, hk', hK', hd', ⟨hacc, hacc'⟩, hown, hR, hnx⟩ := hrel
    have HL := hide hL
    have HOW := hide hown
    have HRr := hide hR
    have HNX := hide hnx
    obtain ⟨rc, hrc⟩ := hR.block
    have HR0 := hide (And.intro hrc HPN.out)
    clear hL hown hnx hrc
    go_wp2_with fail
    refine (peek_any _ p ws ps (d + 1) st' hR).mono ?_
    rintro e w1 ⟨rfl, h1, hb1⟩
    have HR1 := hide h1
    have HB1 := hide hb1
    clear hR h1 hb1
    by_cases h0 : (Rd.pk st').toList = [40]
    · have HC : Hid (Rd.brc st' = true) := hide (is_t h0)
      have HBR := HC
      have hf' : st'.f = false := Rd.brc_ne HC.out
      obtain ⟨n', rfl⟩ := hnk.pos hf'
      rw [hf'] at hacc'
      have hacc2 : acc.length + st'.r.length ≤ 4096 := by simpa using hacc'
      clear hacc'
      go_wp2_with fail
      refine (IH.out _ p ws ps (d + 1) st' HR1.out hk' hK' hd' HBR.out).mono ?_
      rintro e w5 ⟨c0, c1, c2, c3, c4, c5, c6, c7, rfl, hx, hR5, hb5⟩
      have hown5 := HOW.out.but (stMono _) HR0.out.1 (by decide) (by have := HR0.out.2; omega) (HB1.out.trans hb5)
      have hlt5 : ∀ j, u3.ownBlock = some j → j < w1.heap.size := fun j hj => Nat.lt_of_lt_of_le (HOW.out.lt j hj).2 HB1.out.size
      have HAT := hide (stMono _ _ _ _ _ (fr_row (w := w) (w0 := w1) (w1 := w5) (v := u3) (by have := HNX.out.size; have := HB1.out.size; omega) hlt5) hx)
      have HONE := hide hx.one
      obtain ⟨ax, cx, aa, ca, ab, cb, hsh⟩ := hx.shape
      simp only [List.cons.injEq, and_true] at hsh
      obtain ⟨rfl, rfl, rfl, rfl, rfl, rfl, rfl, rfl⟩ := hsh
      have HOW5 := hide hown5
      have HR5 := hide hR5
      have HB5 := hide ((HNX.out.trans HB1.out).trans hb5)
      have hsz5 := HB5.out.size
      have HLT : Hid (Rd.Lt (Rd.pS K k (d + 1) st').2 st') := hide (by obtain ⟨j, rfl⟩ := hk'.pos hf'; exact Rd.pS_lt _ _ _ _)
      clear hown5 hlt5 hx hR5 hb5
      go_wp2_with (first
        | (at_builtin; refine wpList_append_L (stMono _) rfl _ _ 69 107 8 128 _ rfl Tryz.underlying69 infoSt (by decide) (by decide) (by decide) w.heap.size _ _ rfl (HOW5.out.below (stMono _) (boxBelow _ _)) _ _ (Rd.pS K k (d + 1) st').1 rfl (cells8 _ _ _ _ _ _ _ _ _ _) rfl HONE.out (stMono _ _ _ _ _ (only_alloc _ _ _) HAT.out) (by omega) (by simp; omega) ?_; intro g cap w6 hown6 hgrow6; have HOW6 := hide hown6; have HR6 := hide (((HR5.out.below (boxBelow _ _))).grown hgrow6 (fun j hj => by have := (HOW5.out.lt j hj).1; have := HPN.out; omega)); have HB6 := hide ((HB5.out.alloc _).grown hgrow6 (fun j hj => (HOW5.out.lt j hj).1)); clear hown6 hgrow6)
        | fail)
      go_roundw
      case rel => exact ⟨acc ++ [(Rd.pS K k (d + 1) st').1], (Rd.pS K k (d + 1) st').2, n', by rw [HL.out, Rd.loop_step HC.out]; simp, hnk.lt HLT.out, hk'.le HLT.out.1, hK'.le HLT.out.1, hd'.le HLT.out.1, by
          rw [List.length_append, List.length_singleton]
          rcases HLT.out.2 with e | e
          · exact ⟨by omega, Or.inl e⟩
          · exact ⟨by omega, Or.inr (by omega)⟩, HOW6.out, HR6.out, HB6.out⟩
      case measure => exact meas_lt HRr.out HR6.out hf' HLT.out
    · have b0 := beq_f h0
      have HC : Hid (Rd.brc st' = false) := hide (is_f h0)
      have HLL : Hid (Rd.loop Rd.brc (Rd.pS K k (d + 1)) n s1 = (acc, st')) := hide (by rw [HL.out, Rd.loop_stop HC.out]; simp)
      have HE1 := hide (HOW.out.but (stMono _) HR0.out.1 (by decide) (by have := HR0.out.2; omega) HB1.out)
      go_wp2_with fail
      refine (shut_any _ p ws ps d _ HR1.out (by omega)).mono ?_
      rintro e w2 ⟨rfl, h2, hb2⟩
      obtain ⟨rc1, hrc1⟩ := HR1.out.block
      have HE := hide (HE1.out.but (stMono _) hrc1 (by decide) (by have := HR0.out.2; omega) hb2)
      have HEX := hide (HE.out.sts (by omega))
      clear hrc1
      go_wp2
      go_ret
      exact ⟨_, rfl, by rw [HBL.out, HLL.out]; exact HEX.out, by rw [HBL.out, HLL.out]; exact h2, (HNX.out.trans HB1.out).trans hb2⟩

set_option maxHeartbeats 4000000 in
set_option maxRecDepth 100000 in
theorem pbody_of (K k : Nat) (ih : CmdC K k) (w : World) (p : Nat) (ws : List ByteArray) (ps : List Int) (d : Nat) (st : Rd.Sr) (h : RdAt w p ws ps d st) (hk : Rd.Ok k st) (hK : Rd.Ok K st) (hd : DOk d st) (n : Nat) (hn : Rd.Ok n st) :
    Calls Tryz.prog 105 #[.pointer (some ⟨p, 0, none⟩)] w fun e w' => ∃ v, e = .returned v ∧ StsAt (fr w w') (K + 1 + k + 1) v (Rd.loop Rd.bodyc (Rd.pS K k d) n st).1 ∧ RdAt w' p ws ps d (Rd.loop Rd.bodyc (Rd.pS K k d) n st).2 ∧ But p w w' := by
  have IH := hide ih
  have HPN := hide h.lt
  have hlen : st.r.length ≤ 4096 := Nat.le_trans h.suffix.length_le h.len
  clear ih
  go_enter Tryz.func105, Tryz.ntmps105
  go_wp2
  go_loopw [3] (fun v wr => ∃ (acc : List St) (st' : Rd.Sr) (n' : Nat), Rd.loop Rd.bodyc (Rd.pS K k d) n st = (acc ++ (Rd.loop Rd.bodyc (Rd.pS K k d) n' st').1, (Rd.loop Rd.bodyc (Rd.pS K k d) n' st').2) ∧ Rd.Ok n' st' ∧ Rd.Ok k st' ∧ Rd.Ok K st' ∧ DOk d st' ∧
      (acc.length ≤ 4097 ∧ (st'.f = true ∨ acc.length + st'.r.length ≤ 4096)) ∧ OwnL (StL (K + 1 + k)) wr w.heap.size 107 8 v acc ∧ RdAt wr p ws ps d st' ∧ But p w wr) (fun _ wr => meas ws.length p wr)
  case atStart => exact ⟨[], st, n, rfl, hn, hk, hK, hd, ⟨by simp, Or.inr (by simpa using hlen)⟩, OwnL.nil _ _ _ _, h, But.refl _ _⟩
  case round =>
    clear h hk hK hd hn hlen
    obtain ⟨acc, st', n', hL, hnk, hk', hK', hd', ⟨hacc, hacc'⟩, hown, hR, hnx⟩ := hrel
    have HL := hide hL
    have HOW := hide hown
    have HRr := hide hR
    have HNX := hide hnx
    obtain ⟨rc, hrc⟩ := hR.block
    have HR0 := hide (And.intro hrc HPN.out)
    clear hL hown hnx hrc
    go_wp2_with fail
    refine (peek_any _ p ws ps d st' hR).mono ?_
    rintro e w1 ⟨rfl, h1, hb1⟩
    have HR1 := hide h1
    have HB1 := hide hb1
    clear hR h1 hb1
    by_cases h0 : (Rd.pk st').toList = [40]
    · have HBR : Hid (Rd.brc st' = true) := hide (is_t h0)
      go_wp2_with fail
      refine (second_any _ p ws ps d st' HR1.out).mono ?_
      rintro e w2 ⟨rfl, h2, hb2⟩
      have HR2 := hide h2
      have HB2 := hide (HB1.out.trans hb2)
      clear h2 hb2
      go_wp2_with fail
      refine (isCommand_any _ _).mono ?_
      rintro e w3 ⟨rfl, hw3⟩
      subst hw3
      have HBC : Hid (Rd.bodyc st' = decide (Rd.cmd (Rd.pkN st' 1) ≠ 0)) := hide (by unfold Rd.bodyc; rw [is_t h0, Bool.true_and])
      obtain ⟨b, hb⟩ : ∃ b, b = decide (Rd.cmd (Rd.pkN st' 1) ≠ 0) := ⟨_, rfl⟩
      rw [← hb] at HBC ⊢
      clear hb
      cases b
      · have HC := HBC
        have HE := hide (HOW.out.but (stMono _) HR0.out.1 (by decide) (by have := HR0.out.2; omega) HB2.out)
        have HEX := hide (HE.out.sts (by omega))
        have HLL : Hid (Rd.loop Rd.bodyc (Rd.pS K k d) n st = (acc, st')) := hide (by rw [HL.out, Rd.loop_stop HC.out]; simp)
        go_wp2
        go_ret
        exact ⟨_, rfl, by rw [HLL.out]; exact HEX.out, by rw [HLL.out]; exact HR2.out, HNX.out.trans HB2.out⟩
      · have HC := HBC
        have hf' : st'.f = false := Rd.brc_ne HBR.out
        obtain ⟨n', rfl⟩ := hnk.pos hf'
        rw [hf'] at hacc'
        have hacc2 : acc.length + st'.r.length ≤ 4096 := by simpa using hacc'
        clear hacc'
        go_wp2_with fail
        refine (IH.out _ p ws ps d st' HR2.out hk' hK' hd' HBR.out).mono ?_
        rintro e w5 ⟨c0, c1, c2, c3, c4, c5, c6, c7, rfl, hx, hR5, hb5⟩
        have hown5 := HOW.out.but (stMono _) HR0.out.1 (by decide) (by have := HR0.out.2; omega) (HB2.out.trans hb5)
        have hlt5 : ∀ j, u3.ownBlock = some j → j < w3.heap.size := fun j hj => Nat.lt_of_lt_of_le (HOW.out.lt j hj).2 HB2.out.size
        have HAT := hide (stMono _ _ _ _ _ (fr_row (w := w) (w0 := w3) (w1 := w5) (v := u3) (by have := HNX.out.size; have := HB2.out.size; omega) hlt5) hx)
        have HONE := hide hx.one
        obtain ⟨ax, cx, aa, ca, ab, cb, hsh⟩ := hx.shape
        simp only [List.cons.injEq, and_true] at hsh
        obtain ⟨rfl, rfl, rfl, rfl, rfl, rfl, rfl, rfl⟩ := hsh
        have HOW5 := hide hown5
        have HR5 := hide hR5
        have HB5 := hide ((HNX.out.trans HB2.out).trans hb5)
        have hsz5 := HB5.out.size
        have HLT : Hid (Rd.Lt (Rd.pS K k d st').2 st') := hide (by obtain ⟨j, rfl⟩ := hk'.pos hf'; exact Rd.pS_lt _ _ _ _)
        clear hown5 hlt5 hx hR5 hb5
        go_wp2_with (first
          | (at_builtin; refine wpList_append_L (stMono _) rfl _ _ 69 107 8 128 _ rfl Tryz.underlying69 infoSt (by decide) (by decide) (by decide) w.heap.size _ _ rfl (HOW5.out.below (stMono _) (boxBelow _ _)) _ _ (Rd.pS K k d st').1 rfl (cells8 _ _ _ _ _ _ _ _ _ _) rfl HONE.out (stMono _ _ _ _ _ (only_alloc _ _ _) HAT.out) (by omega) (by simp; omega) ?_; intro g cap w6 hown6 hgrow6; have HOW6 := hide hown6; have HR6 := hide (((HR5.out.below (boxBelow _ _))).grown hgrow6 (fun j hj => by have := (HOW5.out.lt j hj).1; have := HPN.out; omega)); have HB6 := hide ((HB5.out.alloc _).grown hgrow6 (fun j hj => (HOW5.out.lt j hj).1)); clear hown6 hgrow6)
          | fail)
        go_roundw
        case rel => exact ⟨acc ++ [(Rd.pS K k d st').1], (Rd.pS K k d st').2, n', by rw [HL.out, Rd.loop_step HC.out]; simp, hnk.lt HLT.out, hk'.le HLT.out.1, hK'.le HLT.out.1, hd'.le HLT.out.1, by
            rw [List.length_append, List.length_singleton]
            rcases HLT.out.2 with e | e
            · exact ⟨by omega, Or.inl e⟩
            · exact ⟨by omega, Or.inr (by omega)⟩, HOW6.out, HR6.out, HB6.out⟩
        case measure => exact meas_lt HRr.out HR6.out hf' HLT.out
    · have b0 := beq_f h0
      have HC : Hid (Rd.bodyc st' = false) := hide (by unfold Rd.bodyc; rw [is_f h0]; rfl)
      have HE := hide (HOW.out.but (stMono _) HR0.out.1 (by decide) (by have := HR0.out.2; omega) HB1.out)
      have HEX := hide (HE.out.sts (by omega))
      have HLL : Hid (Rd.loop Rd.bodyc (Rd.pS K k d) n st = (acc, st')) := hide (by rw [HL.out, Rd.loop_stop HC.out]; simp)
      go_wp2
      go_ret
      exact ⟨_, rfl, by rw [HLL.out]; exact HEX.out, by rw [HLL.out]; exact HR1.out, HNX.out.trans HB1.out⟩

end Go.Proofs.YtbncnkfogkhoeabGreatDoor
