/- Walks over package parse: module. -/
import Derived.Test.YthcckfofpocbhabGreatDoorPQ
namespace Go.Proofs.YthcckfofpocbhabGreatDoor
open Go.RowKit

namespace Rd
def moL (m : Mo) : Nat := m.imports.length + m.vars.length + m.funs.length
theorem pI_len (K d : Nat) (m : Mo) (st : Sr) : moL (pI K d m st).1 ≤ moL m + 1 := by
  unfold pI moL
  cases is (pk (op d st)) [105, 109, 112, 111, 114, 116]
  · cases is (pk (op d st)) [118, 97, 114]
    · cases is (pk (op d st)) [102, 117, 110]
      · simp only [Bool.false_eq_true, if_false]; omega
      · simp only [Bool.false_eq_true, if_false, if_true, List.length_append, List.length_singleton]; omega
    · simp only [Bool.false_eq_true, if_false, if_true, List.length_append, List.length_singleton]; omega
  · simp only [if_true, List.length_append, List.length_singleton]; omega
theorem pIs_step {K d n : Nat} {m : Mo} {st : Sr} (h : brc st = true) : pIs K d (n + 1) m st = pIs K d n (pI K d m st).1 (pI K d m st).2 := by simp only [pIs]; rw [if_pos h]
theorem pIs_stop {K d n : Nat} {m : Mo} {st : Sr} (h : brc st = false) : pIs K d n m st = (m, st) := by
  cases n with
  | zero => rfl
  | succ n => simp only [pIs]; rw [if_neg (by rw [h]; simp)]
end Rd
theorem own_slice {α : Type} {At : World → List Value → α → Prop} {w : World} {n e k : Nat} {v : Value} {l : List α} (h : OwnL At w n e k v l) : ∃ a c, v = .slice a l.length c := by
  rcases h.shape with ⟨rfl, rfl⟩ | ⟨g, cap, rfl, _⟩
  · exact ⟨_, _, rfl⟩
  · exact ⟨_, _, rfl⟩

set_option maxHeartbeats 4000000 in
set_option maxRecDepth 100000 in
theorem module_any (K : Nat) (w : World) (p : Nat) (ws : List ByteArray) (ps : List Int) (st : Rd.Sr) (h : RdAt w p ws ps 0 st) (hK : Rd.Ok K st) :
    Calls Tryz.prog 11 #[.pointer (some ⟨p, 0, none⟩)] w fun e w' => ∃ a1 n1 c1 a2 n2 c2 a3 n3 c3, e = .returned (.agg #[.string (Rd.pM K st).1.name, .slice a1 n1 c1, .slice a2 n2 c2, .slice a3 n3 c3]) ∧ MoAt (fr w w') (K + 1 + K + 1) (.agg #[.string (Rd.pM K st).1.name, .slice a1 n1 c1, .slice a2 n2 c2, .slice a3 n3 c3]) (Rd.pM K st).1 ∧ RdAt w' p ws ps 0 (Rd.pM K st).2 ∧ But p w w' := by
  have HPM : Hid (Rd.pM K st = ((Rd.pIs K 1 K ⟨(Rd.nmP (Rd.m1 st)).1, [], [], []⟩ (Rd.nmP (Rd.m1 st)).2).1, Rd.sh (Rd.pIs K 1 K ⟨(Rd.nmP (Rd.m1 st)).1, [], [], []⟩ (Rd.nmP (Rd.m1 st)).2).2)) := rfl
  have HPN := hide h.lt
  have HL0 := hide (Loc.start w p 26 #[.string ⟨#[]⟩, .slice none 0 0, .slice none 0 0, .slice none 0 0] #[.string ⟨#[]⟩, .slice none 0 0, .slice none 0 0, .slice none 0 0] h.lt)
  have HR0 := hide (h.below (up (boxBelow w (.cells #[.string ⟨#[]⟩, .slice none 0 0, .slice none 0 0, .slice none 0 0] 26)) (boxBelow _ (.cells #[.string ⟨#[]⟩, .slice none 0 0, .slice none 0 0, .slice none 0 0] 26))))
  have HM1 : Hid (Rd.m1 st = Rd.kw [109, 111, 100, 117, 108, 101] (Rd.op 0 st)) := rfl
  have HD0 : Hid (DOk 1 (Rd.op 0 st)) := hide (DOk.op ⟨by omega, Or.inr (by omega)⟩ (by omega))
  have hlen : st.r.length ≤ 4096 := Nat.le_trans h.suffix.length_le h.len
  have HLE0 := hide (Rd.op_lt 0 st).1
  clear h
  go_enter Tryz.func11, Tryz.ntmps11
  go_wp2_with fail
  generalize ((w.alloc (.cells #[.string ⟨#[]⟩, .slice none 0 0, .slice none 0 0, .slice none 0 0] 26)).alloc (.cells #[.string ⟨#[]⟩, .slice none 0 0, .slice none 0 0, .slice none 0 0] 26)) = W0 at *
  refine (open_any W0 p ws ps 0 st HR0.out (by omega)).mono ?_
  rintro e w1 ⟨rfl, h1, hb1⟩
  have HL1 := hide (HL0.out.step hb1)
  have HR1 := hide h1
  clear hb1 HL0 HR0 h1
  go_wp2_with fail
  refine (keyword_any w1 p ws ps _ _ HR1.out ⟨#[109, 111, 100, 117, 108, 101]⟩).mono ?_
  rintro e w2 ⟨rfl, h2, hb2⟩
  have HL2 := hide (HL1.out.step hb2)
  have HR2 : Hid (RdAt w2 p ws ps 1 (Rd.m1 st)) := hide h2
  have HLE1 : Hid (Rd.Le (Rd.m1 st) st) := hide (Rd.m1_le st)
  have HD1 : Hid (DOk 1 (Rd.m1 st)) := hide (HD0.out.le (Rd.kw_lt _ _).1)
  clear hb2 HL1 HR1 h2 HD0 HM1 HLE0
  generalize Rd.m1 st = s1 at *
  go_wp2_with fail
  refine (name_any' w2 p ws ps 1 s1 HR2.out).mono ?_
  rintro e w3 ⟨rfl, h3, hb3⟩
  have HZ3 := hide (nm_size HR2.out)
  have HL3 := hide (HL2.out.step hb3)
  have HR3 := hide h3
  have HLE3 := hide ((Rd.nmP_lt s1).1.trans HLE1.out)
  have HD3 := hide (HD1.out.le (Rd.nmP_lt s1).1)
  clear hb3 HL2 HR2 h3 HLE1 HD1
  generalize Rd.nmP s1 = nm at *
  obtain ⟨nn, s2⟩ := nm
  simp only at HPM HZ3 HR3 HLE3 HD3 ⊢
  obtain ⟨u0, z0⟩ := HL3.out.cell (i := 0) rfl
  have HL4 : Hid (Loc w p (w3.setCell ⟨w.heap.size + 1, 0, none⟩ (.string nn)) 26 #[.string ⟨#[]⟩, .slice none 0 0, .slice none 0 0, .slice none 0 0] #[.string nn, .slice none 0 0, .slice none 0 0, .slice none 0 0]) := hide (HL3.out.set 0 (.string nn))
  have HR4 := hide (HL3.out.rd HR3.out 0 (.string nn))
  clear HL3 HR3
  go_wp2
  clear u0 z0
  generalize w3.setCell ⟨w.heap.size + 1, 0, none⟩ (.string nn) = W4 at *
  have HMD : Hid (MdV W4 (w.heap.size + 2) (w.heap.size + 1) (K + 1 + K + 1) ⟨nn, [], [], []⟩ (.slice none 0 0) (.slice none 0 0) (.slice none 0 0)) := hide ⟨HL4.out.loc, HZ3.out, OwnL.nil _ _ _ _, OwnL.nil _ _ _ _, OwnL.nil _ _ _ _⟩
  have hK2 := hK.le HLE3.out
  have hlen2 : s2.r.length ≤ 4096 := Nat.le_trans HLE3.out.2 hlen
  go_loopw [] (fun wr => ∃ (m : Mo) (st' : Rd.Sr) (n' : Nat) (vi vv vf : Value), Rd.pIs K 1 K ⟨nn, [], [], []⟩ s2 = Rd.pIs K 1 n' m st' ∧ Rd.Ok n' st' ∧ Rd.Ok K st' ∧ DOk 1 st' ∧ (Rd.moL m ≤ 4097 ∧ (st'.f = true ∨ Rd.moL m + st'.r.length ≤ 4096)) ∧
      MdV wr (w.heap.size + 2) (w.heap.size + 1) (K + 1 + K + 1) m vi vv vf ∧ RdAt wr p ws ps 1 st' ∧ wr.heap[w.heap.size]? = some (.cells #[.string ⟨#[]⟩, .slice none 0 0, .slice none 0 0, .slice none 0 0] 26 (0, 0)) ∧ But p w wr ∧ w.heap.size + 2 ≤ wr.heap.size) (fun wr => meas ws.length p wr)
  case atStart => exact ⟨_, s2, K, _, _, _, rfl, hK2, hK2, HD3.out, ⟨by unfold Rd.moL; simp, Or.inr (by unfold Rd.moL; simpa using hlen2)⟩, HMD.out, HR4.out, HL4.out.res, HL4.out.but, HL4.out.size⟩
  case round =>
    clear HMD HR4 HL4 hK2 hlen2 hK hlen HLE3 HD3
    obtain ⟨m, st', n', vi, vv, vf, hI, hnk, hk', hd', ⟨hacc, hacc'⟩, hmd, hR, hres, hnx, hsz⟩ := hrel
    have HI := hide hI
    have HMD := hide hmd
    have HRr := hide hR
    have HRES := hide hres
    have HNX := hide hnx
    obtain ⟨rc, hrc⟩ := hR.block
    have HR0 := hide (And.intro hrc HPN.out)
    clear hI hmd hnx hrc hres
    go_wp2_with fail
    refine (peek_any _ p ws ps 1 st' hR).mono ?_
    rintro e w1 ⟨rfl, h1, hb1⟩
    have HR1 := hide h1
    have HB1 := hide hb1
    have HMD1 := hide (HMD.out.but HR0.out.1 (by have := HR0.out.2; omega) (by have := HR0.out.2; omega) hb1)
    have HRES1 := hide (hb1.at (by have := HR0.out.2; omega) HRES.out)
    have hsz1 : w.heap.size + 2 ≤ w1.heap.size := Nat.le_trans hsz hb1.size
    clear hR h1 hb1 HMD
    by_cases h0 : (Rd.pk st').toList = [40]
    · have HC : Hid (Rd.brc st' = true) := hide (is_t h0)
      have hf' : st'.f = false := Rd.brc_ne HC.out
      obtain ⟨n', rfl⟩ := hnk.pos hf'
      rw [hf'] at hacc'
      have hacc2 : Rd.moL m + st'.r.length ≤ 4096 := by simpa using hacc'
      have hl1 : m.imports.length ≤ 8000 := by unfold Rd.moL at hacc; omega
      have hl2 : m.vars.length ≤ 8000 := by unfold Rd.moL at hacc; omega
      have hl3 : m.funs.length ≤ 8000 := by unfold Rd.moL at hacc; omega
      have HLT := hide (Rd.pI_lt K 1 m st')
      have HLN := hide (Rd.pI_len K 1 m st')
      clear hacc'
      go_wp2_with fail
      refine (item_any K (w.heap.size + 2) (w.heap.size + 1) w1 p ws ps 1 st' HR1.out m vi vv vf HMD1.out (by have := HR0.out.2; omega) (by omega) hsz1 hk' hd' (by omega) hl1 hl2 hl3).mono ?_
      rintro e w5 ⟨vi', vv', vf', rfl, hmd5, hR5, hb5⟩
      have HMD5 := hide hmd5
      have HR5 := hide hR5
      have HRES5 : Hid (w5.heap[w.heap.size]? = _) := hide ((hb5.block w.heap.size (by omega) (by have := HR0.out.2; omega) (by omega)).trans HRES1.out)
      have HB5 : Hid (But p w w5) := hide ⟨hb5.os.trans (HNX.out.trans HB1.out).os, hb5.tape.trans (HNX.out.trans HB1.out).tape, hb5.output.trans (HNX.out.trans HB1.out).output, Nat.le_trans (HNX.out.trans HB1.out).size hb5.size, fun k hk hp => (hb5.block k (by omega) hp (by omega)).trans ((HNX.out.trans HB1.out).block k hk hp)⟩
      have hsz5 : w.heap.size + 2 ≤ w5.heap.size := Nat.le_trans hsz1 hb5.size
      clear hmd5 hR5 hb5
      go_wp2_with fail
      go_roundw
      case rel => exact ⟨(Rd.pI K 1 m st').1, (Rd.pI K 1 m st').2, n', vi', vv', vf', by rw [HI.out, Rd.pIs_step HC.out], hnk.lt HLT.out, hk'.le HLT.out.1, hd'.le HLT.out.1, by
          have h7 := HLN.out
          rcases HLT.out.2 with e | e
          · exact ⟨by omega, Or.inl e⟩
          · exact ⟨by omega, Or.inr (by omega)⟩, HMD5.out, HR5.out, HRES5.out, HB5.out, hsz5⟩
      case measure => exact meas_lt HRr.out HR5.out hf' HLT.out
    · have b0 := beq_f h0
      have HC : Hid (Rd.brc st' = false) := hide (is_f h0)
      have HPM2 : Hid (Rd.pM K st = (m, Rd.sh st')) := hide (by rw [HPM.out, HI.out, Rd.pIs_stop HC.out])
      have hl1 : m.imports.length ≤ 8192 := by unfold Rd.moL at hacc; omega
      have hl2 : m.vars.length ≤ 8192 := by unfold Rd.moL at hacc; omega
      have hl3 : m.funs.length ≤ 8192 := by unfold Rd.moL at hacc; omega
      go_wp2_with fail
      refine (shut_any _ p ws ps 0 _ HR1.out (by omega)).mono ?_
      rintro e w2 ⟨rfl, h2, hb2⟩
      obtain ⟨rc1, hrc1⟩ := HR1.out.block
      have HMD2 := hide (HMD1.out.but hrc1 (by have := HR0.out.2; omega) (by have := HR0.out.2; omega) hb2)
      have HLS : Hid (Loc w p w2 26 #[.string ⟨#[]⟩, .slice none 0 0, .slice none 0 0, .slice none 0 0] #[.string m.name, vi, vv, vf]) := hide ⟨hb2.at (by have := HR0.out.2; omega) HRES1.out, HMD2.out.1, (HNX.out.trans HB1.out).trans hb2, Nat.le_trans hsz1 hb2.size, HR0.out.2⟩
      have HR2 := hide h2
      have HMO := hide (HMD2.out.mo hl1 hl2 hl3)
      obtain ⟨a1, c1, rfl⟩ := own_slice HMD2.out.2.2.1
      obtain ⟨a2, c2, rfl⟩ := own_slice HMD2.out.2.2.2.1
      obtain ⟨a3, c3, rfl⟩ := own_slice HMD2.out.2.2.2.2
      clear hrc1 hb2 h2 HMD1 HMD2
      generalize m.imports.length = n1 at *
      generalize m.vars.length = n2 at *
      generalize m.funs.length = n3 at *
      obtain ⟨u0, z0⟩ := HLS.out.cell (i := 0) rfl
      obtain ⟨u1, z1⟩ := HLS.out.cell (i := 1) rfl
      obtain ⟨u2, z2⟩ := HLS.out.cell (i := 2) rfl
      obtain ⟨u3, z3⟩ := HLS.out.cell (i := 3) rfl
      obtain ⟨r0, y0⟩ := HLS.out.rcell (i := 0) rfl
      obtain ⟨r1, y1⟩ := HLS.out.rcell (i := 1) rfl
      obtain ⟨r2, y2⟩ := HLS.out.rcell (i := 2) rfl
      obtain ⟨r3, y3⟩ := HLS.out.rcell (i := 3) rfl
      go_wp2_with fail
      obtain ⟨⟨Wf, hWf, f0, f1, f2, f3⟩, hBf, hRf, hSf⟩ := HLS.out.fin4 HR2.out (.string m.name) (.slice a1 n1 c1) (.slice a2 n2 c2) (.slice a3 n3 c3)
      unfold put4 at hWf hBf hRf hSf
      rw [← hWf] at hBf hRf hSf ⊢
      clear hWf u0 u1 u2 u3 z0 z1 z2 z3 r0 r1 r2 r3 y0 y1 y2 y3
      refine bodyPost_ret (v := .agg #[.string m.name, .slice a1 n1 c1, .slice a2 n2 c2, .slice a3 n3 c3]) (by simp [results, Tryz.results11, go_sem, f0, f1, f2, f3]) rfl ?_
      rw [HPM2.out]
      exact ⟨_, _, _, _, _, _, _, _, _, rfl, MoAt.sub hSf HMO.out, hRf, hBf⟩

end Go.Proofs.YthcckfofpocbhabGreatDoor
