/- Walks over package parse: params, variable, fun. -/
import Derived.Test.YtbncnkfogkhoeabGreatDoorZBB
namespace Go.Proofs.YtbncnkfogkhoeabGreatDoor
open Go.RowKit

/-- A string's cell. -/
def StrL (_w : World) (c : List Value) (s : ByteArray) : Prop := c = [.string s] ∧ s.size ≤ 4096
theorem strMono : Mono StrL := fun _ _ _ _ _ h => h
theorem OwnL.strsL {n : Nat} {w' : World} {v : Value} {l : List ByteArray} (h : OwnL StrL w' n 9 1 v l) (hl : l.length ≤ 9223372036854775807) : Strs (only (fun b => decide (n ≤ b)) w') v l := by
  have hs : ∀ s ∈ l, s.size ≤ maxLen := by
    obtain ⟨cs, _, h2, _, h4⟩ := h
    intro s hs
    obtain ⟨i, hi, rfl⟩ := List.mem_iff_getElem.1 hs
    have := (h4 i _ _ (List.getElem?_eq_getElem (by omega)) (List.getElem?_eq_getElem hi)).2
    exact Nat.le_trans this (by decide)
  rcases h.shape with ⟨rfl, rfl⟩ | ⟨g, cap, rfl, _, hg, _⟩
  · exact ⟨none, 0, 0, 0, rfl, fun h => absurd h (by simp), by simp, hs, fun j hj => absurd hj (by simp)⟩
  · refine ⟨_, g, 0, cap, rfl, fun _ => rfl, hl, hs, fun j hj => ?_⟩
    obtain ⟨c, hc, hcell, _, rfl, _⟩ := h.cell (i := j) (List.getElem?_eq_getElem hj)
    refine only_cell.2 ⟨decide_eq_true hg, ?_⟩
    have := hcell 0 (by decide)
    rw [Nat.mul_one, Nat.add_zero] at this
    rw [Nat.zero_add, this]
    simp [hj]
theorem cell1 (w : World) (c0 : Value) (t : TypeId) : ∀ (j : Nat) u, [c0][j]? = some u → (w.alloc (.cells #[c0] t)).cell? ⟨w.heap.size, j, none⟩ = some u := by
  intro j u hu
  rw [block_at (block_new w (.cells #[c0] t))]
  simpa using hu
theorem StrL.one {w : World} {c : List Value} {s : ByteArray} (h : StrL w c s) : ∀ u ∈ c, u.oneCell' = true := by
  obtain ⟨rfl, _⟩ := h
  intro u hu
  simp at hu
  subst hu
  rfl

/-- A variable's two cells. -/
def VaL (_w : World) (c : List Value) (s : Va) : Prop := c = [.string s.name, .string s.level] ∧ s.name.size ≤ 4096 ∧ s.level.size ≤ 4096
theorem vaMono : Mono VaL := fun _ _ _ _ _ h => h
theorem infoVa : (Tryz.prog.info? 67).map (fun i => (i.zero, i.size, i.bytes)) = some (some (.agg #[.string ⟨#[]⟩, .string ⟨#[]⟩]), 2, 32) := by kernel_rfl
theorem cells2 (w : World) (c0 c1 : Value) (t : TypeId) : ∀ (j : Nat) u, [c0, c1][j]? = some u → (w.alloc (.cells #[c0, c1] t)).cell? ⟨w.heap.size, j, none⟩ = some u := by
  intro j u hu
  rw [block_at (block_new w (.cells #[c0, c1] t))]
  simpa using hu
theorem VaL.one {w : World} {c : List Value} {s : Va} (h : VaL w c s) : ∀ u ∈ c, u.oneCell' = true := by
  obtain ⟨rfl, _⟩ := h
  intro u hu
  simp at hu
  rcases hu with rfl | rfl <;> rfl
theorem OwnL.vas {n : Nat} {w' : World} {v : Value} {l : List Va} (h : OwnL VaL w' n 67 2 v l) (hl : l.length ≤ 9223372036854775807) : VasAt (only (fun b => decide (n ≤ b)) w') v l := by
  rcases h.shape with ⟨rfl, rfl⟩ | ⟨g, cap, rfl, _, hg, _⟩
  · exact ⟨none, 0, 0, 0, rfl, fun h => absurd h (by simp), by simp, fun j y hy => by simp at hy⟩
  · refine ⟨_, g, 0, cap, rfl, fun _ => rfl, hl, fun i y hy => ?_⟩
    obtain ⟨c, hc, hcell, _, rfl, k1, k2⟩ := h.cell hy
    have hs : ∀ j (hj : j < 2), (only (fun b => decide (n ≤ b)) w').cell? ⟨g, 0 + i * 2 + j, none⟩ = some ([.string y.name, .string y.level][j]) := fun j hj => by
      refine only_cell.2 ⟨decide_eq_true hg, ?_⟩
      rw [Nat.zero_add, hcell j hj]
      exact List.getElem?_eq_getElem (by simpa using hj)
    exact ⟨Nat.le_trans k1 (by decide), Nat.le_trans k2 (by decide), hs 0 (by decide), hs 1 (by decide)⟩

/-- A function's seven cells. -/
def FuL (m : Nat) (w : World) (c : List Value) (f : Fu) : Prop :=
  ∃ vp vb e0 e1 e2 e3, c = [.string f.name, vp, vb, e0, e1, e2, e3] ∧ f.name.size ≤ 4096 ∧ Strs w vp f.params ∧ StsAt w m vb f.body ∧ ExAt w m e0 e1 e2 e3 f.result
theorem FuL.sub {m : Nat} {w w' : World} {c : List Value} {f : Fu} (hs : Sub w w') (h : FuL m w c f) : FuL m w' c f := by
  obtain ⟨vp, vb, e0, e1, e2, e3, e, h1, h2, h3, h4⟩ := h
  exact ⟨vp, vb, e0, e1, e2, e3, e, h1, h2.sub hs, h3.sub hs, h4.sub hs⟩
theorem infoFu : (Tryz.prog.info? 74).map (fun i => (i.zero, i.size, i.bytes)) = some (some (.agg #[.string ⟨#[]⟩, .slice none 0 0, .slice none 0 0, .int .i64 0, .int .i64 0, .string ⟨#[]⟩, .slice none 0 0]), 7, 120) := by kernel_rfl
theorem cells7 (w : World) (c0 c1 c2 c3 c4 c5 c6 : Value) (t : TypeId) : ∀ (j : Nat) u, [c0, c1, c2, c3, c4, c5, c6][j]? = some u → (w.alloc (.cells #[c0, c1, c2, c3, c4, c5, c6] t)).cell? ⟨w.heap.size, j, none⟩ = some u := by
  intro j u hu
  rw [block_at (block_new w (.cells #[c0, c1, c2, c3, c4, c5, c6] t))]
  simpa using hu
theorem strs_shape {w : World} {v : Value} {l : List ByteArray} (h : Strs w v l) : ∃ a c, v = .slice a l.length c := by
  obtain ⟨a, _, _, c, e, _⟩ := h
  exact ⟨a, c, e⟩
theorem FuL.shape {m : Nat} {w : World} {c : List Value} {f : Fu} (h : FuL m w c f) : ∃ ap cp ab cb ax cx, c = [.string f.name, .slice ap f.params.length cp, .slice ab f.body.length cb, .int .i64 f.result.kind, .int .i64 f.result.n, .string f.result.name, .slice ax f.result.args.length cx] := by
  obtain ⟨vp, vb, e0, e1, e2, e3, rfl, _, h2, h3, h4⟩ := h
  obtain ⟨ax, cx, rfl, rfl, rfl, rfl⟩ := h4.shape
  obtain ⟨ab, cb, rfl, _⟩ := h3.shape
  obtain ⟨ap, cp, rfl⟩ := strs_shape h2
  exact ⟨ap, cp, ab, cb, ax, cx, rfl⟩
theorem FuL.one {m : Nat} {w : World} {c : List Value} {f : Fu} (h : FuL m w c f) : ∀ u ∈ c, u.oneCell' = true := by
  obtain ⟨ap, cp, ab, cb, ax, cx, rfl⟩ := h.shape
  intro u hu
  simp at hu
  rcases hu with rfl | rfl | rfl | rfl | rfl | rfl | rfl <;> rfl

set_option maxHeartbeats 4000000 in
set_option maxRecDepth 100000 in
theorem params_any (w : World) (p : Nat) (ws : List ByteArray) (ps : List Int) (d : Nat) (st : Rd.Sr) (h : RdAt w p ws ps d st) (hd2 : d ≤ 29) (n : Nat) (hn : Rd.Ok n st) :
    Calls Tryz.prog 104 #[.pointer (some ⟨p, 0, none⟩)] w fun e w' => ∃ v, e = .returned v ∧ Strs (fr w w') v (Rd.pars n d st).1 ∧ RdAt w' p ws ps d (Rd.pars n d st).2 ∧ But p w w' := by
  have HPN := hide h.lt
  have HBL : Hid (Rd.pars n d st = ((Rd.loop Rd.plc Rd.nmP n (Rd.op d st)).1, Rd.sh (Rd.loop Rd.plc Rd.nmP n (Rd.op d st)).2)) := rfl
  have hlen : (Rd.op d st).r.length ≤ 4096 := Nat.le_trans (Rd.op_lt d st).1.2 (Nat.le_trans h.suffix.length_le h.len)
  have hn1 := hn.le (Rd.op_lt d st).1
  clear hn
  go_enter Tryz.func104, Tryz.ntmps104
  go_wp2_with fail
  refine (open_any w p ws ps d st h (by omega)).mono ?_
  rintro e w0 ⟨rfl, h0, hb0⟩
  clear h
  generalize Rd.op d st = s1 at *
  go_wp2
  go_loopw [3] (fun v wr => ∃ (acc : List ByteArray) (st' : Rd.Sr) (n' : Nat), Rd.loop Rd.plc Rd.nmP n s1 = (acc ++ (Rd.loop Rd.plc Rd.nmP n' st').1, (Rd.loop Rd.plc Rd.nmP n' st').2) ∧ Rd.Ok n' st' ∧
      (acc.length ≤ 4097 ∧ (st'.f = true ∨ acc.length + st'.r.length ≤ 4096)) ∧ OwnL StrL wr w.heap.size 9 1 v acc ∧ RdAt wr p ws ps (d + 1) st' ∧ But p w wr) (fun _ wr => meas ws.length p wr)
  case atStart => exact ⟨[], s1, n, rfl, hn1, ⟨by simp, Or.inr (by simpa using hlen)⟩, OwnL.nil _ _ _ _, h0, hb0⟩
  case round =>
    clear h0 hb0 hn1 hlen
    obtain ⟨acc, st', n', hL, hnk, ⟨hacc, hacc'⟩, hown, hR, hnx⟩ := hrel
    have HL := hide hL
    have HOW := hide hown
    have HRr := hide hR
    have HNX := hide hnx
    obtain ⟨rc, hrc⟩ := hR.block
    have HR0 := hide (And.intro hrc HPN.out)
    clear hL hown hnx hrc
    go_wp2_with fail
    refine (peek_any _ p ws ps (d + 1) st' hR).mono ?_
    rintro e w1 ⟨rfl, h1, hb1⟩
    have HR1 := hide h1
    have HB1 := hide hb1
    clear hR h1 hb1
    go_wp2_with fail
    refine (isPlain_any _ _).mono ?_
    rintro e w3 ⟨rfl, hw3⟩
    subst hw3
    have HPC : Hid (Rd.plc st' = Rd.plain (Rd.pk st')) := rfl
    obtain ⟨b, hb⟩ : ∃ b, b = Rd.plain (Rd.pk st') := ⟨_, rfl⟩
    rw [← hb] at HPC ⊢
    clear hb
    cases b
    · have HC := HPC
      have HLL : Hid (Rd.loop Rd.plc Rd.nmP n s1 = (acc, st')) := hide (by rw [HL.out, Rd.loop_stop HC.out]; simp)
      have HE1 := hide (HOW.out.but strMono HR0.out.1 (by decide) (by have := HR0.out.2; omega) HB1.out)
      go_wp2_with fail
      refine (shut_any _ p ws ps d _ HR1.out (by omega)).mono ?_
      rintro e w2 ⟨rfl, h2, hb2⟩
      obtain ⟨rc1, hrc1⟩ := HR1.out.block
      have HE := hide (HE1.out.but strMono hrc1 (by decide) (by have := HR0.out.2; omega) hb2)
      have HEX := hide (HE.out.strsL (by omega))
      clear hrc1
      go_wp2
      go_ret
      exact ⟨_, rfl, by rw [HBL.out, HLL.out]; exact HEX.out, by rw [HBL.out, HLL.out]; exact h2, (HNX.out.trans HB1.out).trans hb2⟩
    · have HC := HPC
      have hf' : st'.f = false := Rd.plain_ne HC.out
      obtain ⟨n', rfl⟩ := hnk.pos hf'
      rw [hf'] at hacc'
      have hacc2 : acc.length + st'.r.length ≤ 4096 := by simpa using hacc'
      clear hacc'
      go_wp2_with fail
      refine (name_any' _ p ws ps (d + 1) st' HR1.out).mono ?_
      rintro e w5 ⟨rfl, hR5, hb5⟩
      have HSZ := hide (nm_size HR1.out)
      have hown5 := HOW.out.but strMono HR0.out.1 (by decide) (by have := HR0.out.2; omega) (HB1.out.trans hb5)
      have HOW5 := hide hown5
      have HR5 := hide hR5
      have HB5 := hide ((HNX.out.trans HB1.out).trans hb5)
      have hsz5 := HB5.out.size
      have HLT := hide (Rd.nmP_lt st')
      clear hown5 hR5 hb5
      go_wp2_with (first
        | (at_builtin; refine wpList_append_L strMono rfl _ _ 22 9 1 16 _ rfl Tryz.underlying22 infoStr (by decide) (by decide) (by decide) w.heap.size _ _ rfl (HOW5.out.below strMono (boxBelow _ _)) _ _ (Rd.nmP st').1 rfl (cell1 _ _ _) rfl (StrL.one (w := w) ⟨rfl, HSZ.out⟩) ⟨rfl, HSZ.out⟩ (by omega) (by simp; omega) ?_; intro g cap w6 hown6 hgrow6; have HOW6 := hide hown6; have HR6 := hide (((HR5.out.below (boxBelow _ _))).grown hgrow6 (fun j hj => by have := (HOW5.out.lt j hj).1; have := HPN.out; omega)); have HB6 := hide ((HB5.out.alloc _).grown hgrow6 (fun j hj => (HOW5.out.lt j hj).1)); clear hown6 hgrow6)
        | fail)
      go_roundw
      case rel => exact ⟨acc ++ [(Rd.nmP st').1], (Rd.nmP st').2, n', by rw [HL.out, Rd.loop_step HC.out]; simp, hnk.lt HLT.out, by
          rw [List.length_append, List.length_singleton]
          rcases HLT.out.2 with e | e
          · exact ⟨by omega, Or.inl e⟩
          · exact ⟨by omega, Or.inr (by omega)⟩, HOW6.out, HR6.out, HB6.out⟩
      case measure => exact meas_lt HRr.out HR6.out hf' HLT.out

def put2 (W : World) (b : Nat) (c0 c1 : Value) : World := (W.setCell ⟨b, 0, none⟩ c0).setCell ⟨b, 1, none⟩ c1
theorem Loc.fin2 {w : World} {p : Nat} {W : World} {T : TypeId} {r0 r1 : Value} {c : Array Value} {ws : List ByteArray} {ps : List Int} {d : Nat} {st : Rd.Sr} (h : Loc w p W T #[r0, r1] c) (hR : RdAt W p ws ps d st) (c0 c1 : Value) :
    (∃ Wf, Wf = put2 W w.heap.size c0 c1 ∧ Wf.cell? ⟨w.heap.size, 0, none⟩ = some c0 ∧ Wf.cell? ⟨w.heap.size, 1, none⟩ = some c1) ∧ But p w (put2 W w.heap.size c0 c1) ∧ RdAt (put2 W w.heap.size c0 c1) p ws ps d st := by
  have h0 := h.setr 0 c0
  have h1 := h0.setr 1 c1
  exact ⟨⟨_, rfl, (h1.rcell (i := 0) rfl).1, (h1.rcell (i := 1) rfl).1⟩, h1.but, h0.rdr (h.rdr hR 0 c0) 1 c1⟩

set_option maxHeartbeats 4000000 in
set_option maxRecDepth 100000 in
theorem variable_any (w : World) (p : Nat) (ws : List ByteArray) (ps : List Int) (d : Nat) (st : Rd.Sr) (h : RdAt w p ws ps d st) :
    Calls Tryz.prog 81 #[.pointer (some ⟨p, 0, none⟩)] w fun e w' => e = .returned (.agg #[.string (Rd.pV st).1.name, .string (Rd.pV st).1.level]) ∧ (Rd.pV st).1.name.size ≤ 4096 ∧ (Rd.pV st).1.level.size ≤ 4096 ∧ RdAt w' p ws ps d (Rd.pV st).2 ∧ But p w w' := by
  have HPV : Hid (Rd.pV st = (⟨(Rd.nmP st).1, (Rd.nmP (Rd.nmP st).2).1⟩, (Rd.nmP (Rd.nmP st).2).2)) := rfl
  have HL0 := hide (Loc.start w p 67 #[.string ⟨#[]⟩, .string ⟨#[]⟩] #[.string ⟨#[]⟩, .string ⟨#[]⟩] h.lt)
  have HR0 := hide (h.below (up (boxBelow w (.cells #[.string ⟨#[]⟩, .string ⟨#[]⟩] 67)) (boxBelow _ (.cells #[.string ⟨#[]⟩, .string ⟨#[]⟩] 67))))
  clear h
  go_enter Tryz.func81, Tryz.ntmps81
  go_wp2_with fail
  generalize ((w.alloc (.cells #[.string ⟨#[]⟩, .string ⟨#[]⟩] 67)).alloc (.cells #[.string ⟨#[]⟩, .string ⟨#[]⟩] 67)) = W0 at *
  refine (name_any' W0 p ws ps d st HR0.out).mono ?_
  rintro e w1 ⟨rfl, h1, hb1⟩
  have HZ1 := hide (nm_size HR0.out)
  have HL1 := hide (HL0.out.step hb1)
  have HR1 := hide h1
  clear hb1 HL0 HR0 h1
  generalize Rd.nmP st = nm at *
  obtain ⟨nn, s1⟩ := nm
  simp only at HPV HZ1 HR1 ⊢
  obtain ⟨u0, z0⟩ := HL1.out.cell (i := 0) rfl
  have HL2 : Hid (Loc w p (w1.setCell ⟨w.heap.size + 1, 0, none⟩ (.string nn)) 67 #[.string ⟨#[]⟩, .string ⟨#[]⟩] #[.string nn, .string ⟨#[]⟩]) := hide (HL1.out.set 0 (.string nn))
  have HR2 := hide (HL1.out.rd HR1.out 0 (.string nn))
  clear HL1 HR1
  go_wp2_with fail
  clear u0 z0
  generalize w1.setCell ⟨w.heap.size + 1, 0, none⟩ (.string nn) = W2 at *
  refine (name_any' W2 p ws ps d s1 HR2.out).mono ?_
  rintro e w3 ⟨rfl, h3, hb3⟩
  have HZ3 := hide (nm_size HR2.out)
  have HL3 := hide (HL2.out.step hb3)
  have HR3 := hide h3
  clear hb3 HL2 HR2 h3
  generalize Rd.nmP s1 = nm at *
  obtain ⟨ll, s2⟩ := nm
  simp only at HPV HZ3 HR3 ⊢
  obtain ⟨u1, z1⟩ := HL3.out.cell (i := 1) rfl
  have HL4 : Hid (Loc w p (w3.setCell ⟨w.heap.size + 1, 1, none⟩ (.string ll)) 67 #[.string ⟨#[]⟩, .string ⟨#[]⟩] #[.string nn, .string ll]) := hide (HL3.out.set 1 (.string ll))
  have HR4 := hide (HL3.out.rd HR3.out 1 (.string ll))
  obtain ⟨q0, _⟩ := HL4.out.cell (i := 0) rfl
  obtain ⟨q1, _⟩ := HL4.out.cell (i := 1) rfl
  obtain ⟨r0, y0⟩ := HL4.out.rcell (i := 0) rfl
  obtain ⟨r1, y1⟩ := HL4.out.rcell (i := 1) rfl
  clear HL3 HR3
  go_wp2_with fail
  obtain ⟨⟨Wf, hWf, f0, f1⟩, hBf, hRf⟩ := HL4.out.fin2 HR4.out (.string nn) (.string ll)
  unfold put2 at hWf hBf hRf
  rw [← hWf] at hBf hRf ⊢
  clear hWf u1 z1 q0 q1 r0 r1 y0 y1
  refine bodyPost_ret (v := .agg #[.string nn, .string ll]) (by simp [results, Tryz.results81, go_sem, f0, f1]) rfl ?_
  rw [HPV.out]
  exact ⟨rfl, HZ1.out, HZ3.out, hRf, hBf⟩

def putF (W : World) (b : Nat) (c0 c1 c2 c3 : Value) : World := (((W.setCell ⟨b, 3, none⟩ c0).setCell ⟨b, 3 + 1, none⟩ c1).setCell ⟨b, 3 + 2, none⟩ c2).setCell ⟨b, 3 + 3, none⟩ c3
def put7 (W : World) (b : Nat) (c0 c1 c2 c3 c4 c5 c6 : Value) : World := ((((((W.setCell ⟨b, 0, none⟩ c0).setCell ⟨b, 1, none⟩ c1).setCell ⟨b, 2, none⟩ c2).setCell ⟨b, 3, none⟩ c3).setCell ⟨b, 4, none⟩ c4).setCell ⟨b, 5, none⟩ c5).setCell ⟨b, 6, none⟩ c6
theorem Loc.setF {w : World} {p : Nat} {W : World} {T : TypeId} {r : Array Value} {a0 a1 a2 a3 a4 a5 a6 : Value} {ws : List ByteArray} {ps : List Int} {d : Nat} {st : Rd.Sr} (h : Loc w p W T r #[a0, a1, a2, a3, a4, a5, a6]) (hR : RdAt W p ws ps d st) (c0 c1 c2 c3 : Value) :
    Loc w p (putF W (w.heap.size + 1) c0 c1 c2 c3) T r #[a0, a1, a2, c0, c1, c2, c3] ∧ RdAt (putF W (w.heap.size + 1) c0 c1 c2 c3) p ws ps d st ∧ Sub (only (fun b => decide (w.heap.size + 2 ≤ b)) W) (only (fun b => decide (w.heap.size + 2 ≤ b)) (putF W (w.heap.size + 1) c0 c1 c2 c3)) := by
  have h0 : Loc w p (W.setCell ⟨w.heap.size + 1, 3, none⟩ c0) T r #[a0, a1, a2, c0, a4, a5, a6] := h.set 3 c0
  have h1 : Loc w p ((W.setCell ⟨w.heap.size + 1, 3, none⟩ c0).setCell ⟨w.heap.size + 1, 4, none⟩ c1) T r #[a0, a1, a2, c0, c1, a5, a6] := h0.set 4 c1
  have h2 : Loc w p (((W.setCell ⟨w.heap.size + 1, 3, none⟩ c0).setCell ⟨w.heap.size + 1, 4, none⟩ c1).setCell ⟨w.heap.size + 1, 5, none⟩ c2) T r #[a0, a1, a2, c0, c1, c2, a6] := h1.set 5 c2
  have h3 : Loc w p ((((W.setCell ⟨w.heap.size + 1, 3, none⟩ c0).setCell ⟨w.heap.size + 1, 4, none⟩ c1).setCell ⟨w.heap.size + 1, 5, none⟩ c2).setCell ⟨w.heap.size + 1, 6, none⟩ c3) T r #[a0, a1, a2, c0, c1, c2, c3] := h2.set 6 c3
  refine ⟨h3, h2.rd (h1.rd (h0.rd (h.rd hR 3 c0) 4 c1) 5 c2) 6 c3, ?_⟩
  exact sees_set (sees_set (sees_set (sees_set (Sub.refl _) (by simp) _) (by simp) _) (by simp) _) (by simp) _
set_option maxHeartbeats 1000000 in
theorem Loc.fin7 {w : World} {p : Nat} {W : World} {T : TypeId} {r0 r1 r2 r3 r4 r5 r6 : Value} {c : Array Value} {ws : List ByteArray} {ps : List Int} {d : Nat} {st : Rd.Sr} (h : Loc w p W T #[r0, r1, r2, r3, r4, r5, r6] c) (hR : RdAt W p ws ps d st) (c0 c1 c2 c3 c4 c5 c6 : Value) :
    (∃ Wf, Wf = put7 W w.heap.size c0 c1 c2 c3 c4 c5 c6 ∧ Wf.cell? ⟨w.heap.size, 0, none⟩ = some c0 ∧ Wf.cell? ⟨w.heap.size, 1, none⟩ = some c1 ∧ Wf.cell? ⟨w.heap.size, 2, none⟩ = some c2 ∧ Wf.cell? ⟨w.heap.size, 3, none⟩ = some c3 ∧ Wf.cell? ⟨w.heap.size, 4, none⟩ = some c4 ∧ Wf.cell? ⟨w.heap.size, 5, none⟩ = some c5 ∧ Wf.cell? ⟨w.heap.size, 6, none⟩ = some c6) ∧ But p w (put7 W w.heap.size c0 c1 c2 c3 c4 c5 c6) ∧ RdAt (put7 W w.heap.size c0 c1 c2 c3 c4 c5 c6) p ws ps d st ∧ Sub (only (fun b => decide (w.heap.size + 2 ≤ b)) W) (fr w (put7 W w.heap.size c0 c1 c2 c3 c4 c5 c6)) := by
  have h0 : Loc w p (W.setCell ⟨w.heap.size, 0, none⟩ c0) T #[c0, r1, r2, r3, r4, r5, r6] c := h.setr 0 c0
  have h1 : Loc w p ((W.setCell ⟨w.heap.size, 0, none⟩ c0).setCell ⟨w.heap.size, 1, none⟩ c1) T #[c0, c1, r2, r3, r4, r5, r6] c := h0.setr 1 c1
  have h2 : Loc w p (((W.setCell ⟨w.heap.size, 0, none⟩ c0).setCell ⟨w.heap.size, 1, none⟩ c1).setCell ⟨w.heap.size, 2, none⟩ c2) T #[c0, c1, c2, r3, r4, r5, r6] c := h1.setr 2 c2
  have h3 : Loc w p ((((W.setCell ⟨w.heap.size, 0, none⟩ c0).setCell ⟨w.heap.size, 1, none⟩ c1).setCell ⟨w.heap.size, 2, none⟩ c2).setCell ⟨w.heap.size, 3, none⟩ c3) T #[c0, c1, c2, c3, r4, r5, r6] c := h2.setr 3 c3
  have h4 : Loc w p (((((W.setCell ⟨w.heap.size, 0, none⟩ c0).setCell ⟨w.heap.size, 1, none⟩ c1).setCell ⟨w.heap.size, 2, none⟩ c2).setCell ⟨w.heap.size, 3, none⟩ c3).setCell ⟨w.heap.size, 4, none⟩ c4) T #[c0, c1, c2, c3, c4, r5, r6] c := h3.setr 4 c4
  have h5 : Loc w p ((((((W.setCell ⟨w.heap.size, 0, none⟩ c0).setCell ⟨w.heap.size, 1, none⟩ c1).setCell ⟨w.heap.size, 2, none⟩ c2).setCell ⟨w.heap.size, 3, none⟩ c3).setCell ⟨w.heap.size, 4, none⟩ c4).setCell ⟨w.heap.size, 5, none⟩ c5) T #[c0, c1, c2, c3, c4, c5, r6] c := h4.setr 5 c5
  have h6 : Loc w p (((((((W.setCell ⟨w.heap.size, 0, none⟩ c0).setCell ⟨w.heap.size, 1, none⟩ c1).setCell ⟨w.heap.size, 2, none⟩ c2).setCell ⟨w.heap.size, 3, none⟩ c3).setCell ⟨w.heap.size, 4, none⟩ c4).setCell ⟨w.heap.size, 5, none⟩ c5).setCell ⟨w.heap.size, 6, none⟩ c6) T #[c0, c1, c2, c3, c4, c5, c6] c := h5.setr 6 c6
  refine ⟨⟨_, rfl, (h6.rcell (i := 0) rfl).1, (h6.rcell (i := 1) rfl).1, (h6.rcell (i := 2) rfl).1, (h6.rcell (i := 3) rfl).1, (h6.rcell (i := 4) rfl).1, (h6.rcell (i := 5) rfl).1, (h6.rcell (i := 6) rfl).1⟩, h6.but, h5.rdr (h4.rdr (h3.rdr (h2.rdr (h1.rdr (h0.rdr (h.rdr hR 0 c0) 1 c1) 2 c2) 3 c3) 4 c4) 5 c5) 6 c6, ?_⟩
  refine Sub.trans ?_ (fresh_mono (n := w.heap.size + 2) (m := w.heap.size) (by omega))
  exact sees_set (sees_set (sees_set (sees_set (sees_set (sees_set (sees_set (Sub.refl _) (by simp) _) (by simp) _) (by simp) _) (by simp) _) (by simp) _) (by simp) _) (by simp) _

set_option maxHeartbeats 4000000 in
set_option maxRecDepth 100000 in
theorem fun_any (K : Nat) (w : World) (p : Nat) (ws : List ByteArray) (ps : List Int) (d : Nat) (st : Rd.Sr) (h : RdAt w p ws ps d st) (hK : Rd.Ok K st) (hd : DOk d st) (hd2 : d ≤ 29) :
    Calls Tryz.prog 82 #[.pointer (some ⟨p, 0, none⟩)] w fun e w' => ∃ c0 c1 c2 c3 c4 c5 c6, e = .returned (.agg #[c0, c1, c2, c3, c4, c5, c6]) ∧ FuL (K + 1 + K + 1) (fr w w') [c0, c1, c2, c3, c4, c5, c6] (Rd.pF K d st).1 ∧ RdAt w' p ws ps d (Rd.pF K d st).2 ∧ But p w w' := by
  have HPF : Hid (Rd.pF K d st = (⟨(Rd.nmP st).1, (Rd.pars K d (Rd.nmP st).2).1, (Rd.loop Rd.bodyc (Rd.pS K K d) K (Rd.pars K d (Rd.nmP st).2).2).1, (Rd.pE K d (Rd.loop Rd.bodyc (Rd.pS K K d) K (Rd.pars K d (Rd.nmP st).2).2).2).1⟩, (Rd.pE K d (Rd.loop Rd.bodyc (Rd.pS K K d) K (Rd.pars K d (Rd.nmP st).2).2).2).2)) := rfl
  have HL0 := hide (Loc.start w p 74 #[.string ⟨#[]⟩, .slice none 0 0, .slice none 0 0, .int .i64 0, .int .i64 0, .string ⟨#[]⟩, .slice none 0 0] #[.string ⟨#[]⟩, .slice none 0 0, .slice none 0 0, .int .i64 0, .int .i64 0, .string ⟨#[]⟩, .slice none 0 0] h.lt)
  have HR0 := hide (h.below (up (boxBelow w (.cells #[.string ⟨#[]⟩, .slice none 0 0, .slice none 0 0, .int .i64 0, .int .i64 0, .string ⟨#[]⟩, .slice none 0 0] 74)) (boxBelow _ (.cells #[.string ⟨#[]⟩, .slice none 0 0, .slice none 0 0, .int .i64 0, .int .i64 0, .string ⟨#[]⟩, .slice none 0 0] 74))))
  clear h
  go_enter Tryz.func82, Tryz.ntmps82
  go_wp2_with fail
  generalize ((w.alloc (.cells #[.string ⟨#[]⟩, .slice none 0 0, .slice none 0 0, .int .i64 0, .int .i64 0, .string ⟨#[]⟩, .slice none 0 0] 74)).alloc (.cells #[.string ⟨#[]⟩, .slice none 0 0, .slice none 0 0, .int .i64 0, .int .i64 0, .string ⟨#[]⟩, .slice none 0 0] 74)) = W0 at *
  refine (name_any' W0 p ws ps d st HR0.out).mono ?_
  rintro e w1 ⟨rfl, h1, hb1⟩
  have HZ1 := hide (nm_size HR0.out)
  have HL1 := hide (HL0.out.step hb1)
  have HR1 := hide h1
  have HLE1 := hide (Rd.nmP_lt st).1
  clear hb1 HL0 HR0 h1
  generalize Rd.nmP st = nm at *
  obtain ⟨nn, s1⟩ := nm
  simp only at HPF HZ1 HR1 HLE1 ⊢
  have hK1 := hK.le HLE1.out
  have hd1 := hd.le HLE1.out
  clear hK hd
  obtain ⟨u0, z0⟩ := HL1.out.cell (i := 0) rfl
  have HL2 : Hid (Loc w p (w1.setCell ⟨w.heap.size + 1, 0, none⟩ (.string nn)) 74 #[.string ⟨#[]⟩, .slice none 0 0, .slice none 0 0, .int .i64 0, .int .i64 0, .string ⟨#[]⟩, .slice none 0 0] #[.string nn, .slice none 0 0, .slice none 0 0, .int .i64 0, .int .i64 0, .string ⟨#[]⟩, .slice none 0 0]) := hide (HL1.out.set 0 (.string nn))
  have HR2 := hide (HL1.out.rd HR1.out 0 (.string nn))
  clear HL1 HR1
  go_wp2_with fail
  clear u0 z0
  generalize w1.setCell ⟨w.heap.size + 1, 0, none⟩ (.string nn) = W2 at *
  refine (params_any W2 p ws ps d s1 HR2.out hd2 K hK1).mono ?_
  rintro e w3 ⟨vp, rfl, hx3, h3, hb3⟩
  have HL3 := hide (HL2.out.step hb3)
  have HR3 := hide h3
  have HP3 := hide (hx3.sub (fresh_mono HL2.out.size))
  obtain ⟨ap, cp, rfl⟩ := strs_shape hx3
  have HLE3 := hide (Rd.pars_lt K d s1).1
  clear hb3 HL2 HR2 h3 hx3
  generalize Rd.pars K d s1 = nm at *
  obtain ⟨lp, s2⟩ := nm
  simp only at HPF HR3 HP3 HLE3 ⊢
  have hK2 := hK1.le HLE3.out
  have hd12 := hd1.le HLE3.out
  generalize hnp : lp.length = np at *
  clear hnp hK1 hd1
  obtain ⟨u1, z1⟩ := HL3.out.cell (i := 1) rfl
  have HL4 : Hid (Loc w p (w3.setCell ⟨w.heap.size + 1, 1, none⟩ (.slice ap np cp)) 74 #[.string ⟨#[]⟩, .slice none 0 0, .slice none 0 0, .int .i64 0, .int .i64 0, .string ⟨#[]⟩, .slice none 0 0] #[.string nn, .slice ap np cp, .slice none 0 0, .int .i64 0, .int .i64 0, .string ⟨#[]⟩, .slice none 0 0]) := hide (HL3.out.set 1 (.slice ap np cp))
  have HR4 := hide (HL3.out.rd HR3.out 1 (.slice ap np cp))
  have HP4 := hide (HP3.out.sub (only_set (a := ⟨w.heap.size + 1, 1, none⟩) (by simp) (.slice ap np cp)))
  clear HL3 HR3 HP3
  go_wp2_with fail
  clear u1 z1
  generalize w3.setCell ⟨w.heap.size + 1, 1, none⟩ (.slice ap np cp) = W4 at *
  refine (pbody_of K K (command_any K K) W4 p ws ps d s2 HR4.out hK2 hK2 hd12 K hK2).mono ?_
  rintro e w5 ⟨vb, rfl, hx5, h5, hb5⟩
  have HL5 := hide (HL4.out.step hb5)
  have HR5 := hide h5
  have HB5 := hide (hx5.sub (fresh_mono HL4.out.size))
  have HP5 := hide (HP4.out.sub (hb5.sub (decide_eq_false (by have := HL5.out.plt; omega))))
  obtain ⟨ab, cb, rfl, _⟩ := hx5.shape
  have HLE5 := hide (Rd.loop_le (c := Rd.bodyc) (fun s => Rd.pS_le K K d s) K s2)
  clear hb5 HL4 HR4 h5 hx5 HP4
  generalize Rd.loop Rd.bodyc (Rd.pS K K d) K s2 = nm at *
  obtain ⟨lb, s3⟩ := nm
  simp only at HPF HR5 HB5 HLE5 ⊢
  have hK3 := hK2.le HLE5.out
  have hd3 := hd12.le HLE5.out
  generalize hnb : lb.length = nb at *
  clear hnb hK2 hd12
  obtain ⟨u2, z2⟩ := HL5.out.cell (i := 2) rfl
  have HL6 : Hid (Loc w p (w5.setCell ⟨w.heap.size + 1, 2, none⟩ (.slice ab nb cb)) 74 #[.string ⟨#[]⟩, .slice none 0 0, .slice none 0 0, .int .i64 0, .int .i64 0, .string ⟨#[]⟩, .slice none 0 0] #[.string nn, .slice ap np cp, .slice ab nb cb, .int .i64 0, .int .i64 0, .string ⟨#[]⟩, .slice none 0 0]) := hide (HL5.out.set 2 (.slice ab nb cb))
  have HR6 := hide (HL5.out.rd HR5.out 2 (.slice ab nb cb))
  have HP6 := hide (HP5.out.sub (only_set (a := ⟨w.heap.size + 1, 2, none⟩) (by simp) (.slice ab nb cb)))
  have HB6 := hide (HB5.out.sub (only_set (a := ⟨w.heap.size + 1, 2, none⟩) (by simp) (.slice ab nb cb)))
  clear HL5 HR5 HP5 HB5
  go_wp2_with fail
  clear u2 z2
  generalize w5.setCell ⟨w.heap.size + 1, 2, none⟩ (.slice ab nb cb) = W6 at *
  refine (pexpr_any K W6 p ws ps d s3 HR6.out hK3 hd3).mono ?_
  rintro e w7 ⟨c0, c1, c2, c3, rfl, hx7, h7, hb7⟩
  have HL7 := hide (HL6.out.step hb7)
  have HR7 := hide h7
  have HX7 := hide (hx7.sub (fresh_mono HL6.out.size))
  have HP7 := hide (HP6.out.sub (hb7.sub (decide_eq_false (by have := HL7.out.plt; omega))))
  have HB7 := hide (HB6.out.sub (hb7.sub (decide_eq_false (by have := HL7.out.plt; omega))))
  obtain ⟨ax, cx, rfl, rfl, rfl, rfl⟩ := hx7.shape
  clear hb7 HL6 HR6 h7 hx7 HP6 HB6
  generalize Rd.pE K d s3 = nm at *
  obtain ⟨e, s4⟩ := nm
  obtain ⟨ek, en, es, eas⟩ := e
  simp only at HPF HR7 HX7 ⊢
  generalize hne : eas.length = le at *
  clear hne
  obtain ⟨u3, z3⟩ := HL7.out.cell (i := 3) rfl
  obtain ⟨u4, z4⟩ := HL7.out.cell (i := 4) rfl
  obtain ⟨u5, z5⟩ := HL7.out.cell (i := 5) rfl
  obtain ⟨u6, z6⟩ := HL7.out.cell (i := 6) rfl
  obtain ⟨hL8, hR8, hS8⟩ := HL7.out.setF HR7.out (.int .i64 ek) (.int .i64 en) (.string es) (.slice ax le cx)
  have HL8 := hide hL8
  have HR8 := hide hR8
  have HX8 := hide (HX7.out.sub hS8)
  have HP8 := hide (HP7.out.sub hS8)
  have HB8 := hide (HB7.out.sub hS8)
  clear hL8 hR8 hS8 HL7 HR7 HX7 HP7 HB7
  obtain ⟨q0, _⟩ := HL8.out.cell (i := 0) rfl
  obtain ⟨r0, y0⟩ := HL8.out.rcell (i := 0) rfl
  obtain ⟨q1, _⟩ := HL8.out.cell (i := 1) rfl
  obtain ⟨r1, y1⟩ := HL8.out.rcell (i := 1) rfl
  obtain ⟨q2, _⟩ := HL8.out.cell (i := 2) rfl
  obtain ⟨r2, y2⟩ := HL8.out.rcell (i := 2) rfl
  obtain ⟨q3, _⟩ := HL8.out.cell (i := 3) rfl
  obtain ⟨r3, y3⟩ := HL8.out.rcell (i := 3) rfl
  obtain ⟨q4, _⟩ := HL8.out.cell (i := 4) rfl
  obtain ⟨r4, y4⟩ := HL8.out.rcell (i := 4) rfl
  obtain ⟨q5, _⟩ := HL8.out.cell (i := 5) rfl
  obtain ⟨r5, y5⟩ := HL8.out.rcell (i := 5) rfl
  obtain ⟨q6, _⟩ := HL8.out.cell (i := 6) rfl
  obtain ⟨r6, y6⟩ := HL8.out.rcell (i := 6) rfl
  unfold putF at HL8 HR8 HX8 HP8 HB8 q0 q1 q2 q3 q4 q5 q6 r0 r1 r2 r3 r4 r5 r6 y0 y1 y2 y3 y4 y5 y6
  go_wp2_with fail
  obtain ⟨⟨Wf, hWf, f0, f1, f2, f3, f4, f5, f6⟩, hBf, hRf, hSf⟩ := HL8.out.fin7 HR8.out (.string nn) (.slice ap np cp) (.slice ab nb cb) (.int .i64 ek) (.int .i64 en) (.string es) (.slice ax le cx)
  unfold put7 at hWf hBf hRf hSf
  rw [← hWf] at hBf hRf hSf ⊢
  clear hWf u3 u4 u5 u6 z3 z4 z5 z6 q0 q1 q2 q3 q4 q5 q6 r0 r1 r2 r3 r4 r5 r6 y0 y1 y2 y3 y4 y5 y6
  refine bodyPost_ret (v := .agg #[.string nn, .slice ap np cp, .slice ab nb cb, .int .i64 ek, .int .i64 en, .string es, .slice ax le cx]) (by simp [results, Tryz.results82, go_sem, f0, f1, f2, f3, f4, f5, f6]) rfl ?_
  refine ⟨_, _, _, _, _, _, _, rfl, ?_, ?_, hBf⟩
  · rw [HPF.out]
    exact ⟨_, _, _, _, _, _, rfl, HZ1.out, HP8.out.sub hSf, HB8.out.sub hSf, (HX8.out.sub hSf).mono _ (by omega)⟩
  · rw [HPF.out]
    exact hRf

end Go.Proofs.YtbncnkfogkhoeabGreatDoor

/- A module that is being read: its lists grow. -/
namespace Go.Proofs.YtbncnkfogkhoeabGreatDoor
open Go.RowKit

section
variable {α : Type} {At : World → List Value → α → Prop} {w : World} {ops : Array Oper} {rest : List Oper} {o : Oper} {a : Act} {Q : Exit → Act → World → Prop} {K : Act → World → Prop} {E : Prop}
/-- append of one element, at a step of a region that draws its order; where the new row lies. -/
theorem step_append_G (hm : Mono At) (hgd : o.guard = none) (s x : Operand) (t e k bytes : Nat) (z : Value)
    (ho : o.op = .call { callee := .builtin .append, args := #[s, x], argTypes := #[t, t] }) (ht : Tryz.prog.underlying t = some (.slice e)) (hinfo : (Tryz.prog.info? e).map (fun i => (i.zero, i.size, i.bytes)) = some (some z, k, bytes)) (hzs : z.cells.size = k) (hk : 0 < k) (hby : bytes ≤ 1024)
    (n : Nat) (v : Value) (l : List α) (hs : a.eval s = v) (hown : OwnL At w n e k v l) (B : Nat) (c : List Value) (y : α) (hx : a.eval x = .slice (some ⟨B, 0, none⟩) 1 1)
    (hc : ∀ (j : Nat) u, c[j]? = some u → w.cell? ⟨B, j, none⟩ = some u) (hck : c.length = k) (h1 : ∀ u ∈ c, u.oneCell' = true) (hat : At (only (fun b => decide (n ≤ b) && decide (v.ownBlock ≠ some b)) w) c y) (hl : l.length ≤ 8192) (hbase : n ≤ w.heap.size)
    (h : ∀ g cap w', OwnL At w' n e k (.slice (some ⟨g, 0, none⟩) (l.length + 1) cap) (l ++ [y]) → w.grownBy w' v.ownBlock → (v.ownBlock = some g ∨ g = w.heap.size) → K (a.put o.dst (.slice (some ⟨g, 0, none⟩) (l.length + 1) cap)) w') :
    if Region.wanted o (yielded ops a.tmps) = true then Oper.wp Tryz.prog o a w K Q else E := by
  obtain ⟨iS, hiS, hz0, hz1, hz2⟩ := info_parts hinfo
  obtain ⟨cs, hr, k1, k2, k3⟩ := hown
  refine step_append_lies w hgd s x t ho n e iS z k bytes ht hiS hz0 hz1 hz2 hzs hk v l.length cs.flatten hs hr ⟨B, 0, none⟩ 1 1 c hx (by rw [hck, Nat.one_mul]) (fun j u hu => by rw [Addr.add_lit, Nat.zero_add]; exact hc j u hu) h1 (by decide) (by unfold maxLen; omega)
    (Nat.le_trans (Nat.mul_le_mul (show l.length + 1 ≤ 8193 by omega) hby) (by decide)) hbase w.heap.size rfl ?_
  intro g cap w' h1' h2 h3 _
  exact h g cap w' (OwnL.push (At := At) hm ⟨k1, k2, k3⟩ rfl hck hat h1' h2 h3) h2 h3
end
section
variable {α β : Type} {At At' : World → List Value → α → Prop} {Bt : World → List Value → β → Prop} {w w' : World} {n e k e2 k2 : Nat} {v v2 : Value} {l : List α} {l2 : List β}
/-- Another row has grown. -/
theorem OwnL.kept (h : OwnL At w n e k v l) (h2 : OwnL Bt w n e2 k2 v2 l2) (hne : e ≠ e2) (hg : w.grownBy w' v2.ownBlock)
    (hsee : ∀ c y, At (only (fun b => decide (n ≤ b) && decide (v.ownBlock ≠ some b)) w) c y → At' (only (fun b => decide (n ≤ b) && decide (v.ownBlock ≠ some b)) w') c y) : OwnL At' w' n e k v l := by
  obtain ⟨cs, h1, k1, k2', k3⟩ := h
  obtain ⟨cs2, h12, _⟩ := h2
  exact ⟨cs, h1.kept hg (own_ne h1 h12 hne), k1, k2', fun i c y hc hy => hsee c y (k3 i c y hc hy)⟩
end

/-- Not in the rows of vi and vv. -/
def seen (vi vv : Value) (b : Nat) : Bool := decide (vi.ownBlock ≠ some b) && decide (vv.ownBlock ≠ some b)
def FuH (vi vv : Value) (M : Nat) (W : World) (c : List Value) (f : Fu) : Prop := FuL M (only (seen vi vv) W) c f
theorem only_mono {P : Nat → Bool} {W W' : World} (h : Sub W W') : Sub (only P W) (only P W') := fun a v hv => by
  obtain ⟨h1, h2⟩ := only_cell.1 hv
  exact only_cell.2 ⟨h1, h _ _ h2⟩
theorem fuMono (vi vv : Value) (M : Nat) : Mono (FuH vi vv M) := fun _ _ _ _ hs h => FuL.sub (only_mono hs) h

/-- The module m, as it stands in block q, its lists in rows of their own in blocks from n on. -/
def MdV (w : World) (n q M : Nat) (m : Mo) (vi vv vf : Value) : Prop :=
  w.heap[q]? = some (.cells #[.string m.name, vi, vv, vf] 26 (0, 0)) ∧ m.name.size ≤ 4096 ∧ OwnL StrL w n 9 1 vi m.imports ∧ OwnL VaL w n 67 2 vv m.vars ∧ OwnL (FuH vi vv M) w n 74 7 vf m.funs
section
variable {w w' : World} {n q M p : Nat} {m : Mo} {vi vv vf : Value}
theorem MdV.but (h : MdV w n q M m vi vv vf) {c : Array Value} {fz : Nat × Nat} (hp : w.heap[p]? = some (.cells c 62 fz)) (hpn : p < n) (hqp : q ≠ p) (hb : But p w w') : MdV w' n q M m vi vv vf := by
  obtain ⟨h1, h2, h3, h4, h5⟩ := h
  exact ⟨hb.at hqp h1, h2, h3.but strMono hp (by decide) hpn hb, h4.but vaMono hp (by decide) hpn hb, h5.but (fuMono _ _ _) hp (by decide) hpn hb⟩
theorem MdV.below (h : MdV w n q M m vi vv vf) (hb : Below w.heap.size w w') : MdV w' n q M m vi vv vf := by
  obtain ⟨h1, h2, h3, h4, h5⟩ := h
  exact ⟨by rw [hb.block q (block_lt h1)]; exact h1, h2, h3.below strMono hb, h4.below vaMono hb, h5.below (fuMono _ _ _) hb⟩
theorem MdV.cell (h : MdV w n q M m vi vv vf) {i : Nat} {x : Value} (hx : (#[.string m.name, vi, vv, vf] : Array Value)[i]? = some x) : w.cell? ⟨q, i, none⟩ = some x ∧ w.frozen? ⟨q, i, none⟩ = false := ⟨(block_at h.1 i).trans hx, block_free h.1 i⟩
theorem MdV.pushI (h : MdV w n q M m vi vv vf) (hq : q < n) {g cap : Nat} {s : ByteArray} (hown : OwnL StrL w' n 9 1 (.slice (some ⟨g, 0, none⟩) (m.imports.length + 1) cap) (m.imports ++ [s])) (hg : w.grownBy w' vi.ownBlock) (hat : vi.ownBlock = some g ∨ g = w.heap.size) :
    MdV (w'.setCell ⟨q, 1, none⟩ (.slice (some ⟨g, 0, none⟩) (m.imports.length + 1) cap)) n q M { m with imports := m.imports ++ [s] } (.slice (some ⟨g, 0, none⟩) (m.imports.length + 1) cap) vv vf := by
  obtain ⟨h1, h2, h3, h4, h5⟩ := h
  have hq' : w'.heap[q]? = some (.cells #[.string m.name, vi, vv, vf] 26 (0, 0)) := by
    rw [hg.block q (block_lt h1) (fun e => by have := (h3.lt q e.symm).1; omega)]; exact h1
  refine ⟨by rw [block_set hq']; rfl, h2, hown.setOld strMono hq _, (h4.kept h3 (by decide) hg (fun _ _ hy => hy)).setOld vaMono hq _, (h5.kept (At' := FuH _ vv M) h3 (by decide) hg (fun c y hy => FuL.sub (fun a u hu => ?_) hy)).setOld (fuMono _ _ _) hq _⟩
  obtain ⟨a1, a2⟩ := only_cell.1 hu
  obtain ⟨b1, b2⟩ := only_cell.1 a2
  unfold seen at a1
  obtain ⟨c1, c2⟩ := Bool.and_eq_true_iff.1 a1
  have d1 := of_decide_eq_true c1
  have hlt := World.block_lt_of_cell? _ _ b2
  refine only_cell.2 ⟨?_, only_cell.2 ⟨b1, hg.cell b2 (fun e => d1 e.symm)⟩⟩
  unfold seen
  refine Bool.and_eq_true_iff.2 ⟨decide_eq_true (fun e => ?_), c2⟩
  have e' : g = a.block := by simpa [Value.ownBlock] using e
  rcases hat with e2 | e2
  · exact d1 (by rw [e2, e'])
  · omega
theorem MdV.pushV (h : MdV w n q M m vi vv vf) (hq : q < n) {g cap : Nat} {s : Va} (hown : OwnL VaL w' n 67 2 (.slice (some ⟨g, 0, none⟩) (m.vars.length + 1) cap) (m.vars ++ [s])) (hg : w.grownBy w' vv.ownBlock) (hat : vv.ownBlock = some g ∨ g = w.heap.size) :
    MdV (w'.setCell ⟨q, 2, none⟩ (.slice (some ⟨g, 0, none⟩) (m.vars.length + 1) cap)) n q M { m with vars := m.vars ++ [s] } vi (.slice (some ⟨g, 0, none⟩) (m.vars.length + 1) cap) vf := by
  obtain ⟨h1, h2, h3, h4, h5⟩ := h
  have hq' : w'.heap[q]? = some (.cells #[.string m.name, vi, vv, vf] 26 (0, 0)) := by
    rw [hg.block q (block_lt h1) (fun e => by have := (h4.lt q e.symm).1; omega)]; exact h1
  refine ⟨by rw [block_set hq']; rfl, h2, (h3.kept h4 (by decide) hg (fun _ _ hy => hy)).setOld strMono hq _, hown.setOld vaMono hq _, (h5.kept (At' := FuH vi _ M) h4 (by decide) hg (fun c y hy => FuL.sub (fun a u hu => ?_) hy)).setOld (fuMono _ _ _) hq _⟩
  obtain ⟨a1, a2⟩ := only_cell.1 hu
  obtain ⟨b1, b2⟩ := only_cell.1 a2
  unfold seen at a1
  obtain ⟨c1, c2⟩ := Bool.and_eq_true_iff.1 a1
  have d1 := of_decide_eq_true c2
  have hlt := World.block_lt_of_cell? _ _ b2
  refine only_cell.2 ⟨?_, only_cell.2 ⟨b1, hg.cell b2 (fun e => d1 e.symm)⟩⟩
  unfold seen
  refine Bool.and_eq_true_iff.2 ⟨c1, decide_eq_true (fun e => ?_)⟩
  have e' : g = a.block := by simpa [Value.ownBlock] using e
  rcases hat with e2 | e2
  · exact d1 (by rw [e2, e'])
  · omega
theorem MdV.pushF (h : MdV w n q M m vi vv vf) (hq : q < n) {g cap : Nat} {s : Fu} (hown : OwnL (FuH vi vv M) w' n 74 7 (.slice (some ⟨g, 0, none⟩) (m.funs.length + 1) cap) (m.funs ++ [s])) (hg : w.grownBy w' vf.ownBlock) :
    MdV (w'.setCell ⟨q, 3, none⟩ (.slice (some ⟨g, 0, none⟩) (m.funs.length + 1) cap)) n q M { m with funs := m.funs ++ [s] } vi vv (.slice (some ⟨g, 0, none⟩) (m.funs.length + 1) cap) := by
  obtain ⟨h1, h2, h3, h4, h5⟩ := h
  have hq' : w'.heap[q]? = some (.cells #[.string m.name, vi, vv, vf] 26 (0, 0)) := by
    rw [hg.block q (block_lt h1) (fun e => by have := (h5.lt q e.symm).1; omega)]; exact h1
  exact ⟨by rw [block_set hq']; rfl, h2, (h3.kept h5 (by decide) hg (fun _ _ hy => hy)).setOld strMono hq _, (h4.kept h5 (by decide) hg (fun _ _ hy => hy)).setOld vaMono hq _, hown.setOld (fuMono _ _ _) hq _⟩
/-- The lists that a module has when it is read. -/
theorem MdV.mo (h : MdV w n q M m vi vv vf) (h1 : m.imports.length ≤ 8192) (h2 : m.vars.length ≤ 8192) (h3 : m.funs.length ≤ 8192) : MoAt (only (fun b => decide (n ≤ b)) w) M (.agg #[.string m.name, vi, vv, vf]) m := by
  obtain ⟨_, k2, k3, k4, k5⟩ := h
  refine ⟨vi, vv, vf, rfl, Nat.le_trans k2 (by decide), k3.strsL (by omega), k4.vas (by omega), ?_⟩
  rcases k5.shape with ⟨rfl, e⟩ | ⟨g, cap, rfl, _, hg, _⟩
  · rw [e]
    exact ⟨none, 0, 0, 0, rfl, fun h => absurd h (by simp), by simp, fun i y hy => by simp at hy⟩
  · refine ⟨_, g, 0, cap, rfl, fun _ => rfl, by omega, fun i y hy => ?_⟩
    obtain ⟨c, hc, hcell, _, hf⟩ := k5.cell hy
    obtain ⟨vp, vb, e0, e1, e2, e3, rfl, f1, f2, f3, f4⟩ := hf
    have hs : ∀ j (hj : j < 7), (only (fun b => decide (n ≤ b)) w).cell? ⟨g, 0 + i * 7 + j, none⟩ = some ([.string y.name, vp, vb, e0, e1, e2, e3][j]) := fun j hj => by
      refine only_cell.2 ⟨decide_eq_true hg, ?_⟩
      rw [Nat.zero_add, hcell j hj]
      exact List.getElem?_eq_getElem (by simpa using hj)
    have hsub : Sub (only (seen vi vv) (only (fun b => decide (n ≤ b) && decide (some g ≠ some b)) w)) (only (fun b => decide (n ≤ b)) w) := fun a u hu => by
      obtain ⟨_, a2⟩ := only_cell.1 hu
      obtain ⟨b1, b2⟩ := only_cell.1 a2
      exact only_cell.2 ⟨(Bool.and_eq_true_iff.1 b1).1, b2⟩
    exact ⟨Nat.le_trans f1 (by decide), vp, vb, e0, e1, e2, e3, hs 0 (by decide), hs 1 (by decide), hs 2 (by decide), hs 3 (by decide), hs 4 (by decide), hs 5 (by decide), hs 6 (by decide), f2.sub hsub, f3.sub hsub, f4.sub hsub⟩
end

theorem MoAt.sub {w w' : World} (hb : Sub w w') {m : Nat} {v : Value} {x : Mo} (h : MoAt w m v x) : MoAt w' m v x := by
  obtain ⟨vi, vv, vf, h0, h1, h2, h3, h4⟩ := h
  exact ⟨vi, vv, vf, h0, h1, h2.sub hb, h3.sub hb, h4.sub hb⟩

/-- Blocks below n stay, but p and q. -/
structure But2 (p q n : Nat) (w w' : World) : Prop where
  os : w'.os = w.os
  tape : w'.tape = w.tape
  output : w'.output = w.output
  size : w.heap.size ≤ w'.heap.size
  block : ∀ k, k < n → k ≠ p → k ≠ q → w'.heap[k]? = w.heap[k]?
theorem But2.of_but {p q n : Nat} {w w' : World} (h : But p w w') (hn : n ≤ w.heap.size) : But2 p q n w w' := ⟨h.os, h.tape, h.output, h.size, fun k hk h1 _ => h.block k (by omega) h1⟩
theorem But2.trans {p q n : Nat} {a b c : World} (h : But2 p q n a b) (k : But2 p q n b c) : But2 p q n a c :=
  ⟨k.os.trans h.os, k.tape.trans h.tape, k.output.trans h.output, Nat.le_trans h.size k.size, fun i hi h1 h2 => (k.block i hi h1 h2).trans (h.block i hi h1 h2)⟩
theorem But2.set {p q n : Nat} {w w' : World} (h : But2 p q n w w') (i : Nat) (v : Value) : But2 p q n w (w'.setCell ⟨q, i, none⟩ v) :=
  ⟨h.os, h.tape, h.output, by simp only [World.setCell, Array.size_modify]; exact h.size, fun k hk h1 h2 => (Below.heap_setCell _ _ _ _ (by simpa using h2)).trans (h.block k hk h1 h2)⟩
theorem But2.grown {p q n : Nat} {w w' w2 : World} (h : But2 p q n w w') {r : Option Nat} (hg : w'.grownBy w2 r) (hn : n ≤ w'.heap.size) (hr : ∀ k, r = some k → n ≤ k) : But2 p q n w w2 :=
  ⟨hg.os.trans h.os, hg.tape.trans h.tape, hg.output.trans h.output, Nat.le_trans h.size hg.size, fun k hk h1 h2 => (hg.block k (by omega) (fun e => by have := hr k e.symm; omega)).trans (h.block k hk h1 h2)⟩

end Go.Proofs.YtbncnkfogkhoeabGreatDoor
