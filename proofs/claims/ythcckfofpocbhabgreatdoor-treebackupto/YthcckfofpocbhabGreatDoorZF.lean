/- Walks over package parse: what is asked of one word. -/
import Derived.Test.YthcckfofpocbhabGreatDoorChecked
import Derived.Test.YthcckfofpocbhabGreatDoorZE
import Derived.Deep.QuietTactic
import Derived.BigQuiet
import Derived.Test.YthcckfofpocbhabGreatDoorZB
import Derived.Test.YthcckfofpocbhabGreatDoorZA
import Derived.Test.YthcckfofpocbhabGreatDoorShelf
import Derived.Lib.AtoiBound
import Derived.Lib.SmallJoins
namespace Go.Proofs.YthcckfofpocbhabGreatDoor
open Go.RowKit

theorem is_t {s : ByteArray} {l : List UInt8} (h : s.toList = l) : Rd.is s l = true := by unfold Rd.is; rw [← ByteArray.toList_eq, h]; simp
theorem is_f {s : ByteArray} {l : List UInt8} (h : ¬ s.toList = l) : Rd.is s l = false := by unfold Rd.is; rw [← ByteArray.toList_eq]; simpa using h
theorem of_t {s : ByteArray} {l : List UInt8} (h : Rd.is s l = true) : s.toList = l := by unfold Rd.is at h; rw [← ByteArray.toList_eq] at h; simpa using h
theorem of_f {s : ByteArray} {l : List UInt8} (h : Rd.is s l = false) : ¬ s.toList = l := by unfold Rd.is at h; rw [← ByteArray.toList_eq] at h; simpa using h
theorem beq_f {s : ByteArray} {l : List UInt8} (h : ¬ s.toList = l) : (s.toList == l) = false := by simpa using h

set_option maxHeartbeats 1000000 in
theorem isPlain_any (w : World) (s : ByteArray) :
    Calls Tryz.prog 54 #[.string s] w fun e w' => e = .returned (.bool (Rd.plain s)) ∧ w' = w := by
  have HP : Hid (Rd.plain s = (!Rd.is s [] && !Rd.is s [40] && !Rd.is s [41])) := rfl
  by_cases h0 : s.toList = []
  · rw [is_t h0] at HP
    go_enter Tryz.func54, Tryz.ntmps54
    go_wp2
    go_ret
    exact ⟨ret_bool (by rw [HP.out]; rfl), rfl⟩
  rw [is_f h0] at HP
  by_cases h1 : s.toList = [40]
  · rw [is_t h1] at HP
    go_enter Tryz.func54, Tryz.ntmps54
    go_wp2
    go_ret
    exact ⟨ret_bool (by rw [HP.out]; simp), rfl⟩
  rw [is_f h1] at HP
  by_cases h2 : s.toList = [41]
  · rw [is_t h2] at HP
    go_enter Tryz.func54, Tryz.ntmps54
    go_wp2
    go_ret
    exact ⟨ret_bool (by rw [HP.out]; simp), rfl⟩
  · rw [is_f h2] at HP
    go_enter Tryz.func54, Tryz.ntmps54
    go_wp2
    go_ret
    exact ⟨ret_bool (by rw [HP.out]; simp [h0, h1, h2]), rfl⟩

set_option maxHeartbeats 1000000 in
theorem pIsOp_any (w : World) (s : ByteArray) :
    Calls Tryz.prog 95 #[.string s] w fun e w' => e = .returned (.bool (Rd.opc s)) ∧ w' = w := by
  have HP : Hid (Rd.opc s = (Rd.is s [43] || Rd.is s [45] || Rd.is s [42] || Rd.is s [60] || Rd.is s [61])) := rfl
  by_cases h0 : s.toList = [43]
  · rw [is_t h0] at HP
    go_enter Tryz.func95, Tryz.ntmps95
    go_wp2
    go_ret
    exact ⟨ret_bool (by rw [HP.out]; rfl), rfl⟩
  rw [is_f h0] at HP
  have bh0 := beq_f h0
  by_cases h1 : s.toList = [45]
  · rw [is_t h1] at HP
    go_enter Tryz.func95, Tryz.ntmps95
    go_wp2
    go_ret
    exact ⟨ret_bool (by rw [HP.out]; rfl), rfl⟩
  rw [is_f h1] at HP
  have bh1 := beq_f h1
  by_cases h2 : s.toList = [42]
  · rw [is_t h2] at HP
    go_enter Tryz.func95, Tryz.ntmps95
    go_wp2
    go_ret
    exact ⟨ret_bool (by rw [HP.out]; rfl), rfl⟩
  rw [is_f h2] at HP
  have bh2 := beq_f h2
  by_cases h3 : s.toList = [60]
  · rw [is_t h3] at HP
    go_enter Tryz.func95, Tryz.ntmps95
    go_wp2
    go_ret
    exact ⟨ret_bool (by rw [HP.out]; rfl), rfl⟩
  rw [is_f h3] at HP
  have bh3 := beq_f h3
  by_cases h4 : s.toList = [61]
  · rw [is_t h4] at HP
    go_enter Tryz.func95, Tryz.ntmps95
    go_wp2
    go_ret
    exact ⟨ret_bool (by rw [HP.out]; rfl), rfl⟩
  · rw [is_f h4] at HP
    have bh4 := beq_f h4
    go_enter Tryz.func95, Tryz.ntmps95
    go_wp2
    go_ret
    exact ⟨ret_bool (by rw [HP.out]; rfl), rfl⟩

set_option maxHeartbeats 1000000 in
theorem cmdKind_any (w : World) (s : ByteArray) :
    Calls Tryz.prog 93 #[.string s] w fun e w' => e = .returned (.int .i64 (Rd.cmd s)) ∧ w' = w := by
  have HP : Hid (Rd.cmd s = if Rd.is s [115, 101, 116] then 1 else if Rd.is s [105, 102] then 2 else if Rd.is s [119, 104, 105, 108, 101] then 3 else if Rd.is s [112, 114, 105, 110, 116] then 4 else 0) := rfl
  by_cases h0 : s.toList = [115, 101, 116]
  · rw [is_t h0] at HP
    go_enter Tryz.func93, Tryz.ntmps93
    go_wp2
    go_ret
    exact ⟨ret_int (by rw [HP.out]; rfl), rfl⟩
  rw [is_f h0] at HP
  have bh0 := beq_f h0
  by_cases h1 : s.toList = [105, 102]
  · rw [is_t h1] at HP
    go_enter Tryz.func93, Tryz.ntmps93
    go_wp2
    go_ret
    exact ⟨ret_int (by rw [HP.out]; rfl), rfl⟩
  rw [is_f h1] at HP
  have bh1 := beq_f h1
  by_cases h2 : s.toList = [119, 104, 105, 108, 101]
  · rw [is_t h2] at HP
    go_enter Tryz.func93, Tryz.ntmps93
    go_wp2
    go_ret
    exact ⟨ret_int (by rw [HP.out]; rfl), rfl⟩
  rw [is_f h2] at HP
  have bh2 := beq_f h2
  by_cases h3 : s.toList = [112, 114, 105, 110, 116]
  · rw [is_t h3] at HP
    go_enter Tryz.func93, Tryz.ntmps93
    go_wp2
    go_ret
    exact ⟨ret_int (by rw [HP.out]; rfl), rfl⟩
  · rw [is_f h3] at HP
    have bh3 := beq_f h3
    go_enter Tryz.func93, Tryz.ntmps93
    go_wp2
    go_ret
    exact ⟨ret_int (by rw [HP.out]; rfl), rfl⟩

theorem cmd_range (s : ByteArray) : 0 ≤ Rd.cmd s ∧ Rd.cmd s ≤ 4 := by
  unfold Rd.cmd
  repeat' split
  all_goals decide

set_option maxHeartbeats 1000000 in
theorem isCommand_any (w : World) (s : ByteArray) :
    Calls Tryz.prog 81 #[.string s] w fun e w' => e = .returned (.bool (decide (Rd.cmd s ≠ 0))) ∧ w' = w := by
  go_enter Tryz.func81, Tryz.ntmps81
  go_wp2_with fail
  refine (cmdKind_any _ s).mono ?_
  rintro e w' ⟨rfl, hw⟩
  subst hw
  obtain ⟨c, hc⟩ : ∃ c, c = Rd.cmd s := ⟨_, rfl⟩
  have HC := hide hc
  rw [← hc]
  clear hc
  by_cases h : c = 0
  · subst h
    go_wp2
    go_ret
    exact ⟨ret_bool (by rw [← HC.out]; rfl), rfl⟩
  · have h' := bne_zero_true h
    go_wp2
    go_ret
    exact ⟨ret_bool (by rw [← HC.out]; simp [h]), rfl⟩

theorem digit_at (s : ByteArray) (k : Nat) (hk : k < s.size) : Rd.digitB s[k] = true ↔ (48 ≤ s[k].toNat ∧ s[k].toNat ≤ 57) := by
  unfold Rd.digitB; simp
theorem digs_all {s : ByteArray} (h : ∀ j (hj : j < s.size), Rd.digitB s[j] = true) : s.data.toList.all Rd.digitB = true := by
  rw [List.all_eq_true]
  intro x hx
  obtain ⟨j, hj, rfl⟩ := List.mem_iff_getElem.1 hx
  exact h j (by simpa using hj)
theorem digs_not {s : ByteArray} {j : Nat} (hj : j < s.size) (h : Rd.digitB s[j] = false) : s.data.toList.all Rd.digitB = false := by
  rw [List.all_eq_false]
  exact ⟨s[j], List.mem_iff_getElem.2 ⟨j, by simpa using hj, rfl⟩, by simp [h]⟩

set_option maxHeartbeats 1000000 in
theorem isDigits_any (w : World) (s : ByteArray) (hs : s.size ≤ maxLen) :
    Calls Tryz.prog 85 #[.string s] w fun e w' => e = .returned (.bool (Rd.digs s)) ∧ w' = w := by
  unfold maxLen at hs
  have HP : Hid (Rd.digs s = (s.data.toList.all Rd.digitB && !Rd.is s [])) := rfl
  go_enter Tryz.func85, Tryz.ntmps85
  go_wp2
  go_loop [3] (fun i => ∃ k : Nat, k ≤ s.size ∧ i = .int .i64 k ∧ ∀ d (hd : d < s.size), d < k → Rd.digitB s[d] = true) (fun i => s.size - (intOf i).toNat)
  case atStart => exact ⟨0, Nat.zero_le _, rfl, fun d _ hd => absurd hd (Nat.not_lt_zero _)⟩
  case round =>
    obtain ⟨k, hk, rfl, hall⟩ := hrel
    have HA := hide hall
    clear hall
    by_cases hlt : k < s.size
    · have HD := hide (digit_at s k hlt)
      by_cases c1 : 48 ≤ s[k].toNat
      · by_cases c2 : s[k].toNat ≤ 57
        · go_wp2
          go_round
          case rel => exact ⟨k + 1, by omega, by go_num, fun d hd hdk => by
              by_cases e : d = k
              · subst e; exact HD.out.2 ⟨c1, c2⟩
              · exact HA.out d hd (by omega)⟩
          case measure => simp [intOf]; omega
        · have HN : Hid (Rd.digitB s[k] = false) := hide (by
            cases hh : Rd.digitB s[k]
            · rfl
            · exact absurd (HD.out.1 hh).2 c2)
          go_wp2
          go_ret
          exact ⟨ret_bool (by rw [HP.out, digs_not hlt HN.out]; rfl), rfl⟩
      · have HN : Hid (Rd.digitB s[k] = false) := hide (by
            cases hh : Rd.digitB s[k]
            · rfl
            · exact absurd (HD.out.1 hh).1 c1)
        go_wp2
        go_ret
        exact ⟨ret_bool (by rw [HP.out, digs_not hlt HN.out]; rfl), rfl⟩
    · have HALL : Hid (s.data.toList.all Rd.digitB = true) := hide (digs_all (fun j hj => HA.out j hj (by omega)))
      by_cases h0 : s.toList = []
      · rw [is_t h0] at HP
        go_wp2
        go_ret
        exact ⟨ret_bool (by rw [HP.out, HALL.out]; simp), rfl⟩
      · rw [is_f h0] at HP
        go_wp2
        go_ret
        exact ⟨ret_bool (by rw [HP.out, HALL.out]; simp [h0]), rfl⟩

end Go.Proofs.YthcckfofpocbhabGreatDoor

/- Walks over package parse: the reader's own calls that take or look at one word. -/
namespace Go.Proofs.YthcckfofpocbhabGreatDoor
open Go.RowKit

/-- The reader lies in block p; what it reads lies in older blocks. -/
def RdAt (w : World) (p : Nat) (ws : List ByteArray) (ps : List Int) (d : Nat) (st : Rd.Sr) : Prop :=
  ∃ (aw : Option Addr) (cw : Nat) (vs : Value), w.heap[p]? = some (.cells #[.slice aw ws.length cw, vs, .int .i64 ((ws.length - st.r.length : Nat) : Int), .int .i64 (d : Nat), .bool st.f] 41 (0, 0)) ∧
    Strs (only (fun b => decide (b < p)) w) (.slice aw ws.length cw) ws ∧ Ints (only (fun b => decide (b < p)) w) vs ps ∧
    (∃ g tp x t fz, Tryz.prog.globalNamed "strconv.ErrSyntax" = some g ∧ g < p ∧ w.heap[g]? = some (.cells #[.iface tp x] t fz)) ∧
    st.r <:+ ws ∧ ws.length ≤ 4096 ∧ (∀ x ∈ ws, x.size ≤ 4096) ∧ ps.length = ws.length + 1
theorem RdAt.keep {w w' : World} {p : Nat} {ws : List ByteArray} {ps : List Int} {d : Nat} {st : Rd.Sr} (h : RdAt w p ws ps d st) (hk : ∀ k, k ≤ p → w'.heap[k]? = w.heap[k]?) : RdAt w' p ws ps d st := by
  obtain ⟨aw, cw, vs, h1, h2, h3, ⟨g, tp, x, t, fz, h4, h5, h6⟩, h7⟩ := h
  have hs : Sub (only (fun b => decide (b < p)) w) (only (fun b => decide (b < p)) w') := fun a v hv => by
    obtain ⟨b1, b2⟩ := only_cell.1 hv
    refine only_cell.2 ⟨b1, ?_⟩
    have := of_decide_eq_true b1
    rw [World.cell?_of_block (w := w) (hk _ (by omega))]; exact b2
  refine ⟨aw, cw, vs, by rw [hk p (Nat.le_refl _)]; exact h1, h2.sub hs, ?_, ⟨g, tp, x, t, fz, h4, h5, by rw [hk g (by omega)]; exact h6⟩, h7⟩
  obtain ⟨a, b, off, cap, e, h0, hl, h1'⟩ := h3
  exact ⟨a, b, off, cap, e, h0, hl, fun j z hz => hs _ _ (h1' j z hz)⟩
theorem RdAt.lt {w : World} {p : Nat} {ws : List ByteArray} {ps : List Int} {d : Nat} {st : Rd.Sr} (h : RdAt w p ws ps d st) : p < w.heap.size := by
  obtain ⟨aw, cw, vs, h1, _⟩ := h
  exact block_lt h1
theorem RdAt.below {w w' : World} {p : Nat} {ws : List ByteArray} {ps : List Int} {d : Nat} {st : Rd.Sr} (h : RdAt w p ws ps d st) (hb : Below w.heap.size w w') : RdAt w' p ws ps d st :=
  h.keep (fun k hk => hb.block k (by have := h.lt; omega))
theorem RdAt.set {w : World} {p : Nat} {ws : List ByteArray} {ps : List Int} {d : Nat} {st : Rd.Sr} (h : RdAt w p ws ps d st) {a : Addr} (ha : p < a.block) (v : Value) : RdAt (w.setCell a v) p ws ps d st :=
  h.keep (fun k hk => Below.heap_setCell _ _ _ _ (by omega))
theorem RdAt.grown {w w' : World} {p : Nat} {ws : List ByteArray} {ps : List Int} {d : Nat} {st : Rd.Sr} {r : Option Nat} (h : RdAt w p ws ps d st) (hg : w.grownBy w' r) (hr : ∀ k, r = some k → p < k) : RdAt w' p ws ps d st :=
  h.keep (fun k hk => hg.block k (by have := h.lt; omega) (fun e => by have := hr k e.symm; omega))
theorem RdAt.drew {w : World} {p : Nat} {ws : List ByteArray} {ps : List Int} {d : Nat} {st : Rd.Sr} (h : RdAt w p ws ps d st) (n : Nat) : RdAt (w.drewN n) p ws ps d st := h.keep (fun _ _ => rfl)
/-- How deep it is may be told otherwise. -/
theorem pk_size {w : World} {p : Nat} {ws : List ByteArray} {ps : List Int} {d : Nat} {st : Rd.Sr} (h : RdAt w p ws ps d st) (n : Nat) : (Rd.pkN st n).size ≤ 4096 := by
  obtain ⟨aw, cw, vs, _, _, _, _, h7, _, h8, _⟩ := h
  unfold Rd.pkN
  split
  · exact Nat.zero_le _
  · by_cases hn : n < st.r.length
    · have e : st.r.getD n ⟨#[]⟩ = st.r[n] := by simp [hn]
      rw [e]
      exact h8 _ (h7.subset (List.getElem_mem hn))
    · have e : st.r.getD n ⟨#[]⟩ = ⟨#[]⟩ := by simp [List.getD, List.getElem?_eq_none (Nat.le_of_not_lt hn)]
      rw [e]; exact Nat.zero_le _

set_option maxHeartbeats 2000000 in
set_option maxRecDepth 100000 in
theorem ahead_any (w : World) (p : Nat) (ws : List ByteArray) (ps : List Int) (d : Nat) (st : Rd.Sr) (h : RdAt w p ws ps d st) (n : Nat) (hn : n ≤ 1) :
    Calls Tryz.prog 55 #[.pointer (some ⟨p, 0, none⟩), .int .i64 n] w fun e w' => e = .returned (.string (Rd.pkN st n)) ∧ RdAt w' p ws ps d st ∧ But p w w' := by
  have HR := hide h
  obtain ⟨aw, cw, vs, h1, h2, h3, h4, h7, h8, h9, h10⟩ := h
  have q0 := block_at h1 0
  have q2 := block_at h1 2
  have q4 := block_at h1 4
  simp only [List.getElem?_toArray, List.getElem?_cons_zero, List.getElem?_cons_succ] at q0 q2 q4
  have hle : st.r.length ≤ ws.length := h7.length_le
  have HPK : Hid (Rd.pkN st n = if st.f then ⟨#[]⟩ else st.r.getD n ⟨#[]⟩) := rfl
  cases hf : st.f
  · rw [hf] at q4 HPK
    obtain ⟨nx, hnx⟩ : ∃ nx, nx = ws.length - st.r.length := ⟨_, rfl⟩
    rw [← hnx] at q2
    by_cases hlt : n < st.r.length
    · have hgt : st.r.getD n ⟨#[]⟩ = ws.getD (nx + n) ⟨#[]⟩ := by
        obtain ⟨t, ht⟩ := h7
        have e1 : nx = t.length := by rw [← ht] at hnx; rw [List.length_append] at hnx; omega
        rw [← ht, e1, List.getD, List.getD, List.getElem?_append_right (by omega)]
        congr 2; omega
      obtain ⟨a, b, off, cap, hv, ha, _, _, hc⟩ := h2
      have hcell := (only_cell.1 (hc (nx + n) (by omega))).2
      obtain rfl : aw = a := by simpa using (congrArg (fun v => match v with | Value.slice a _ _ => a | _ => none) hv)
      obtain rfl := ha (by omega)
      have HG : Hid (Rd.pkN st n = ws.getD (nx + n) ByteArray.empty) := hide (by rw [HPK.out]; exact hgt)
      have b1 : ¬ ((nx : Int) + n ≥ (ws.length : Int)) := by omega
      have b2 : (0 : Int) ≤ (nx : Int) + n := by omega
      have b3 : (nx : Int) + n < (ws.length : Int) := by omega
      have b4 : (nx : Int) ≤ 4096 := by omega
      have b5 : (n : Int) ≤ 1 := by omega
      have b6 : decide ((nx : Int) + n ≥ (ws.length : Int)) = false := decide_eq_false b1
      have e1 : ((nx : Int) + n).toNat = nx + n := by omega
      rw [HG.out]
      clear h1 h3 h4 h7 h9 h10 hc HPK hgt hv hnx hle HG hf ha
      generalize ws.getD (nx + n) ByteArray.empty = x at *
      generalize ws.length = len at *
      go_enter Tryz.func55, Tryz.ntmps55
      go_wp2
      go_quiet (fail)
      go_wp2
      go_quiet (fail)
      go_wp2
      go_ret
      exact ⟨rfl, (HR.out.drew _).drew _, ((But.refl _ _).drew _).drew _⟩
    · have HG : Hid (Rd.pkN st n = ⟨#[]⟩) := hide (by rw [HPK.out, if_neg (by simp), List.getD, List.getElem?_eq_none (Nat.le_of_not_lt hlt)]; rfl)
      have b1 : (nx : Int) + n ≥ (ws.length : Int) := by omega
      have b4 : (nx : Int) ≤ 4096 := by omega
      have b5 : (n : Int) ≤ 1 := by omega
      have b6 : decide ((nx : Int) + n ≥ (ws.length : Int)) = true := decide_eq_true b1
      rw [HG.out]
      clear h1 h2 h3 h4 h7 h9 h10 HPK hnx hle HG hf hlt
      generalize ws.length = len at *
      go_enter Tryz.func55, Tryz.ntmps55
      go_wp2
      go_quiet (fail)
      go_wp2
      go_ret
      exact ⟨rfl, HR.out.drew _, (But.refl _ _).drew _⟩
  · rw [hf] at q4 HPK
    have HG : Hid (Rd.pkN st n = ⟨#[]⟩) := HPK
    rw [HG.out]
    clear h1 h2 h3 h4 h7 h9 h10 HPK hle HG hf
    go_enter Tryz.func55, Tryz.ntmps55
    go_wp2
    go_quiet (fail)
    go_wp2
    go_ret
    exact ⟨rfl, HR.out.drew _, (But.refl _ _).drew _⟩

section
variable (w : World) (p : Nat) (ws : List ByteArray) (ps : List Int) (d : Nat) (st : Rd.Sr) (h : RdAt w p ws ps d st)
include h
theorem peek_any : Calls Tryz.prog 36 #[.pointer (some ⟨p, 0, none⟩)] w fun e w' => e = .returned (.string (Rd.pk st)) ∧ RdAt w' p ws ps d st ∧ But p w w' := by
  go_enter Tryz.func36, Tryz.ntmps36
  go_wp2_with fail
  refine (ahead_any w p ws ps d st h 0 (by omega)).mono ?_
  rintro e w' ⟨rfl, h1, h2⟩
  go_wp2
  go_ret
  exact ⟨rfl, h1, h2⟩
theorem second_any : Calls Tryz.prog 82 #[.pointer (some ⟨p, 0, none⟩)] w fun e w' => e = .returned (.string (Rd.pkN st 1)) ∧ RdAt w' p ws ps d st ∧ But p w w' := by
  go_enter Tryz.func82, Tryz.ntmps82
  go_wp2_with fail
  refine (ahead_any w p ws ps d st h 1 (by omega)).mono ?_
  rintro e w' ⟨rfl, h1, h2⟩
  go_wp2
  go_ret
  exact ⟨rfl, h1, h2⟩
/-- A cell of the reader turns. -/
theorem rd_set {st' : Rd.Sr} {d' : Nat} (i : Nat) (v : Value) (hr : st'.r <:+ ws)
    (hc : ∀ aw cw vs, (#[.slice aw ws.length cw, vs, .int .i64 ((ws.length - st.r.length : Nat) : Int), .int .i64 (d : Nat), .bool st.f] : Array Value).setIfInBounds i v = #[.slice aw ws.length cw, vs, .int .i64 ((ws.length - st'.r.length : Nat) : Int), .int .i64 (d' : Nat), .bool st'.f]) :
    RdAt (w.setCell ⟨p, i, none⟩ v) p ws ps d' st' ∧ But p w (w.setCell ⟨p, i, none⟩ v) := by
  refine ⟨?_, (But.refl p w).set (a := ⟨p, i, none⟩) (Or.inl rfl) v⟩
  obtain ⟨aw, cw, vs, h1, h2, h3, ⟨g, tp, x, t, fz, h4, h5, h6⟩, h7, h8⟩ := h
  have hs : Sub (only (fun b => decide (b < p)) w) (only (fun b => decide (b < p)) (w.setCell ⟨p, i, none⟩ v)) := ((But.refl p w).set (a := ⟨p, i, none⟩) (Or.inl rfl) v).sub (decide_eq_false (Nat.lt_irrefl _))
  refine ⟨aw, cw, vs, by rw [block_set h1, hc], h2.sub hs, ?_, ⟨g, tp, x, t, fz, h4, h5, block_other h6 (by simp; omega) _⟩, hr, h8⟩
  obtain ⟨a, b, off, cap, e, h0, hl, h1'⟩ := h3
  exact ⟨a, b, off, cap, e, h0, hl, fun j z hz => hs _ _ (h1' j z hz)⟩
theorem RdAt.suffix : st.r <:+ ws := by obtain ⟨_, _, _, _, _, _, _, h7, _⟩ := h; exact h7
theorem RdAt.len : ws.length ≤ 4096 := by obtain ⟨_, _, _, _, _, _, _, _, h7, _⟩ := h; exact h7
theorem RdAt.cells : ∃ aw cw vs, w.cell? ⟨p, 0, none⟩ = some (.slice aw ws.length cw) ∧ w.cell? ⟨p, 1, none⟩ = some vs ∧ w.cell? ⟨p, 2, none⟩ = some (.int .i64 ((ws.length - st.r.length : Nat) : Int)) ∧ w.cell? ⟨p, 3, none⟩ = some (.int .i64 (d : Nat)) ∧ w.cell? ⟨p, 4, none⟩ = some (.bool st.f) ∧ ∀ i, w.frozen? ⟨p, i, none⟩ = false := by
  obtain ⟨aw, cw, vs, h1, _⟩ := h
  exact ⟨aw, cw, vs, block_at h1 0, block_at h1 1, block_at h1 2, block_at h1 3, block_at h1 4, fun i => block_free h1 i⟩

set_option maxHeartbeats 1000000 in
theorem fail_any : Calls Tryz.prog 39 #[.pointer (some ⟨p, 0, none⟩)] w fun e w' => e = .returned (.tuple #[]) ∧ RdAt w' p ws ps d (Rd.fl st) ∧ But p w w' := by
  have HS := hide (rd_set w p ws ps d st h (st' := Rd.fl st) (d' := d) 4 (.bool true) h.suffix (fun _ _ _ => rfl))
  obtain ⟨aw, cw, vs, _, _, _, _, q4, z⟩ := h.cells
  have z4 := z 4
  clear z h
  go_enter Tryz.func39, Tryz.ntmps39
  go_wp2
  go_end0
  exact ⟨rfl, HS.out⟩

set_option maxHeartbeats 1000000 in
theorem take_any : Calls Tryz.prog 53 #[.pointer (some ⟨p, 0, none⟩)] w fun e w' => e = .returned (.string (Rd.pk st)) ∧ RdAt w' p ws ps d (Rd.tk st) ∧ But p w w' := by
  have HT : Hid (Rd.tk st = if Rd.is (Rd.pk st) [] then Rd.fl st else ⟨st.r.tail, st.f⟩) := rfl
  have HP : Hid (Rd.is (Rd.pk st) [] = false → st.r ≠ []) := hide (fun h1 h2 => by
    have e : Rd.pk st = ⟨#[]⟩ := by
      unfold Rd.pk Rd.pkN
      rw [h2]
      cases st.f <;> rfl
    rw [e] at h1
    cases h1)
  go_enter Tryz.func53, Tryz.ntmps53
  go_wp2_with fail
  refine (peek_any w p ws ps d st h).mono ?_
  rintro e w1 ⟨rfl, h1, hb1⟩
  obtain ⟨x, hx⟩ : ∃ x, x = Rd.pk st := ⟨_, rfl⟩
  have HX := hide hx
  rw [← hx] at HT HP ⊢
  clear hx h
  by_cases h0 : x.toList = []
  · rw [is_t h0, if_pos rfl] at HT
    go_wp2_with fail
    refine (fail_any w1 p ws ps d st h1).mono ?_
    rintro e w2 ⟨rfl, h2, hb2⟩
    go_wp2
    go_ret
    refine ⟨?_, by rw [HT.out]; exact h2, hb1.trans hb2⟩
    have e0 : x = ⟨#[]⟩ := by
      cases x with | mk x => congr 1; rw [ByteArray.toList_eq] at h0; exact Array.toList_inj.1 h0
    rw [← HX.out, e0]; rfl
  · rw [is_f h0, if_neg (by simp)] at HT
    have h0b : x.toList.isEmpty = false := by simpa using h0
    have hne := HP.out (is_f h0)
    have hsf := h1.suffix
    have hll := hsf.length_le
    have hlen := h1.len
    have hpos : 0 < st.r.length := List.length_pos_iff.2 hne
    have HS := hide (rd_set w1 p ws ps d st h1 (st' := ⟨st.r.tail, st.f⟩) (d' := d) 2 (.int .i64 ((ws.length - st.r.length : Nat) + 1 : Int)) ((List.tail_suffix _).trans hsf) (fun _ _ _ => by
      have e : ((ws.length - st.r.length : Nat) + 1 : Int) = ((ws.length - st.r.tail.length : Nat) : Int) := by rw [List.length_tail]; omega
      rw [e]; rfl))
    obtain ⟨aw, cw, vs, _, _, q2, _, _, z⟩ := h1.cells
    have z2 := z 2
    obtain ⟨nx, hnx⟩ : ∃ nx, nx = ws.length - st.r.length := ⟨_, rfl⟩
    have hn4 : (nx : Int) ≤ 4096 := by omega
    rw [← hnx] at HS q2
    clear z h1 hnx HP
    go_wp2
    go_ret
    exact ⟨by rw [← HX.out]; rfl, by rw [HT.out]; exact HS.out.1, hb1.trans HS.out.2⟩

set_option maxHeartbeats 1000000 in
theorem keyword_any (a : ByteArray) : Calls Tryz.prog 34 #[.pointer (some ⟨p, 0, none⟩), .string a] w fun e w' => e = .returned (.tuple #[]) ∧ RdAt w' p ws ps d (Rd.kw a.data.toList st) ∧ But p w w' := by
  have HT : Hid (Rd.kw a.data.toList st = if Rd.is (Rd.pk st) a.data.toList then Rd.tk st else Rd.fl st) := rfl
  go_enter Tryz.func34, Tryz.ntmps34
  go_wp2_with fail
  refine (peek_any w p ws ps d st h).mono ?_
  rintro e w1 ⟨rfl, h1, hb1⟩
  by_cases h0 : (Rd.pk st).toList = a.toList
  · rw [is_t (by rw [h0, ByteArray.toList_eq]), if_pos rfl] at HT
    have h0' : ((Rd.pk st).toList != a.toList) = false := by simp [h0]
    go_wp2_with fail
    refine (take_any w1 p ws ps d st h1).mono ?_
    rintro e w2 ⟨rfl, h2, hb2⟩
    go_wp2
    go_end0
    exact ⟨rfl, by rw [HT.out]; exact h2, hb1.trans hb2⟩
  · rw [is_f (by rw [← ByteArray.toList_eq]; exact h0), if_neg (by simp)] at HT
    have h0' : ((Rd.pk st).toList != a.toList) = true := by simpa using h0
    have h0'' : ((Rd.pk st).toList == a.toList) = false := by simpa using h0
    go_wp2_with fail
    refine (fail_any w1 p ws ps d st h1).mono ?_
    rintro e w2 ⟨rfl, h2, hb2⟩
    go_wp2
    (try simp only [Exit.inBlock, Exit.then])
    refine bodyPost_ret (results_none rfl _ _ _) rfl ?_
    exact ⟨rfl, by rw [HT.out]; exact h2, hb1.trans hb2⟩

set_option maxHeartbeats 1000000 in
theorem open_any (hd : d ≤ 100) : Calls Tryz.prog 33 #[.pointer (some ⟨p, 0, none⟩)] w fun e w' => e = .returned (.tuple #[]) ∧ RdAt w' p ws ps (d + 1) (Rd.op d st) ∧ But p w w' := by
  have HM : Hid (Rd.op d st = Rd.kw [40] (if d = 20 then Rd.fl st else st)) := rfl
  obtain ⟨_, _, _, _, _, _, q3, _, _⟩ := h.cells
  have hd' : (d : Int) ≤ 100 := by omega
  by_cases h20 : d = 20
  · rw [if_pos h20] at HM
    subst h20
    go_enter Tryz.func33, Tryz.ntmps33
    go_wp2_with fail
    refine (fail_any w p ws ps _ st h).mono ?_
    rintro e w1 ⟨rfl, h1, hb1⟩
    clear q3
    go_wp2_with fail
    refine (keyword_any w1 p ws ps _ _ h1 ⟨#[40]⟩).mono ?_
    rintro e w2 ⟨rfl, h2, hb2⟩
    have HS := hide (rd_set w2 p ws ps 20 _ h2 (st' := Rd.kw [40] (Rd.fl st)) (d' := 20 + 1) 3 (.int .i64 21) h2.suffix (fun _ _ _ => rfl))
    obtain ⟨_, _, _, _, _, _, q3, _, z⟩ := h2.cells
    have z3 := z 3
    clear z h2
    go_wp2
    go_end0
    exact ⟨rfl, by rw [HM.out]; exact HS.out.1, (hb1.trans hb2).trans HS.out.2⟩
  · rw [if_neg h20] at HM
    have h20' : ((d : Int) == 20) = false := by simp; omega
    go_enter Tryz.func33, Tryz.ntmps33
    go_wp2_with fail
    clear q3
    refine (keyword_any w p ws ps d _ h ⟨#[40]⟩).mono ?_
    rintro e w2 ⟨rfl, h2, hb2⟩
    have HS := hide (rd_set w2 p ws ps d _ h2 (st' := Rd.kw [40] st) (d' := d + 1) 3 (.int .i64 ((d : Int) + 1)) h2.suffix (fun _ _ _ => rfl))
    obtain ⟨_, _, _, _, _, _, q3, _, z⟩ := h2.cells
    have z3 := z 3
    clear z h2
    go_wp2
    go_end0
    exact ⟨rfl, by rw [HM.out]; exact HS.out.1, hb2.trans HS.out.2⟩
end

section
variable (w : World) (p : Nat) (ws : List ByteArray) (ps : List Int) (d : Nat) (st : Rd.Sr)
set_option maxHeartbeats 1000000 in
theorem shut_any (h : RdAt w p ws ps (d + 1) st) (hd : d ≤ 100) : Calls Tryz.prog 38 #[.pointer (some ⟨p, 0, none⟩)] w fun e w' => e = .returned (.tuple #[]) ∧ RdAt w' p ws ps d (Rd.sh st) ∧ But p w w' := by
  have hd' : (d : Int) ≤ 100 := by omega
  go_enter Tryz.func38, Tryz.ntmps38
  go_wp2_with fail
  refine (keyword_any w p ws ps (d + 1) _ h ⟨#[41]⟩).mono ?_
  rintro e w2 ⟨rfl, h2, hb2⟩
  have HS := hide (rd_set w2 p ws ps (d + 1) _ h2 (st' := Rd.sh st) (d' := d) 3 (.int .i64 (d : Nat)) h2.suffix (fun _ _ _ => rfl))
  obtain ⟨_, _, _, _, _, _, q3, _, z⟩ := h2.cells
  have z3 := z 3
  have e3 : ((d + 1 : Nat) : Int) = (d : Int) + 1 := by omega
  rw [e3] at q3
  clear z h2 h
  go_wp2
  go_end0
  refine ⟨rfl, ?_, ?_⟩
  · have := HS.out.1
    simpa using this
  · have := hb2.trans HS.out.2
    simpa using this

variable (h : RdAt w p ws ps d st)
include h
set_option maxHeartbeats 1000000 in
theorem end_any : Calls Tryz.prog 12 #[.pointer (some ⟨p, 0, none⟩)] w fun e w' => e = .returned (.tuple #[]) ∧ RdAt w' p ws ps d (Rd.pEnd st) ∧ But p w w' := by
  have HT : Hid (Rd.pEnd st = if Rd.is (Rd.pk st) [] then st else Rd.fl st) := rfl
  go_enter Tryz.func12, Tryz.ntmps12
  go_wp2_with fail
  refine (peek_any w p ws ps d st h).mono ?_
  rintro e w1 ⟨rfl, h1, hb1⟩
  by_cases h0 : (Rd.pk st).toList = []
  · rw [is_t h0, if_pos rfl] at HT
    go_wp2
    go_end0
    exact ⟨rfl, by rw [HT.out]; exact h1, hb1⟩
  · rw [is_f h0, if_neg (by simp)] at HT
    have h0b : (Rd.pk st).toList.isEmpty = false := by simpa using h0
    go_wp2_with fail
    refine (fail_any w1 p ws ps d st h1).mono ?_
    rintro e w2 ⟨rfl, h2, hb2⟩
    go_wp2
    go_end0
    exact ⟨rfl, by rw [HT.out]; exact h2, hb1.trans hb2⟩

set_option maxHeartbeats 1000000 in
theorem name_any' : Calls Tryz.prog 35 #[.pointer (some ⟨p, 0, none⟩)] w fun e w' => e = .returned (.string (Rd.nmP st).1) ∧ RdAt w' p ws ps d (Rd.nmP st).2 ∧ But p w w' := by
  have HT : Hid (Rd.nmP st = (Rd.pk (if Rd.plain (Rd.pk st) then st else Rd.fl st), Rd.tk (if Rd.plain (Rd.pk st) then st else Rd.fl st))) := rfl
  go_enter Tryz.func35, Tryz.ntmps35
  go_wp2_with fail
  refine (peek_any w p ws ps d st h).mono ?_
  rintro e w1 ⟨rfl, h1, hb1⟩
  go_wp2_with fail
  refine (isPlain_any _ _).mono ?_
  rintro e w2 ⟨rfl, hw⟩
  subst hw
  generalize hp : Rd.plain (Rd.pk st) = b at *
  cases b
  · rw [if_neg (by simp)] at HT
    go_wp2_with fail
    refine (fail_any w2 p ws ps d st h1).mono ?_
    rintro e w3 ⟨rfl, h3, hb3⟩
    go_wp2_with fail
    refine (take_any w3 p ws ps d _ h3).mono ?_
    rintro e w4 ⟨rfl, h4, hb4⟩
    go_wp2
    go_ret
    exact ⟨by rw [HT.out]; rfl, by rw [HT.out]; exact h4, (hb1.trans hb3).trans hb4⟩
  · rw [if_pos rfl] at HT
    go_wp2_with fail
    refine (take_any w2 p ws ps d _ h1).mono ?_
    rintro e w4 ⟨rfl, h4, hb4⟩
    go_wp2
    go_ret
    exact ⟨by rw [HT.out]; rfl, by rw [HT.out]; exact h4, hb1.trans hb4⟩

set_option maxHeartbeats 1000000 in
set_option maxRecDepth 100000 in
theorem where_any : Calls Tryz.prog 13 #[.pointer (some ⟨p, 0, none⟩)] w fun e w' => e = .returned (.int .i64 (ps.getD (ws.length - st.r.length) 0)) ∧ Below w.heap.size w w' := by
  obtain ⟨aw, cw, vs, h1, h2, h3, h4, h7, h8, h9, h10⟩ := h
  have q1 := block_at h1 1
  have q2 := block_at h1 2
  simp only [List.getElem?_toArray, List.getElem?_cons_zero, List.getElem?_cons_succ] at q1 q2
  obtain ⟨nx, hnx⟩ : ∃ nx, nx = ws.length - st.r.length := ⟨_, rfl⟩
  rw [← hnx] at q2 ⊢
  obtain ⟨a, b, off, cap, rfl, ha, hl, hc⟩ := h3
  have hlt : nx < ps.length := by omega
  have hcell := (only_cell.1 (hc nx _ (List.getElem?_eq_getElem hlt))).2
  obtain rfl := ha (by omega)
  have e1 : ps.getD nx 0 = ps[nx] := by simp [hlt]
  rw [e1]
  have b2 : (0 : Int) ≤ (nx : Int) := by omega
  have b3 : (nx : Int) < (ps.length : Int) := by omega
  clear h1 h2 h4 h7 h9 hc hnx ha e1
  generalize ps[nx] = x at *
  generalize ps.length = len at *
  go_enter Tryz.func13, Tryz.ntmps13
  go_wp2
  go_quiet (fail)
  go_wp2
  go_ret
  exact ⟨rfl, drewBelow (Below.refl _ _) _⟩
end
end Go.Proofs.YthcckfofpocbhabGreatDoor

/- Walks over package parse: number; what an expression is, given what nested ones are. -/
namespace Go.Proofs.YthcckfofpocbhabGreatDoor
open Go.RowKit

theorem dec_digits : ∀ (l : List UInt8) (acc : Nat), l.all Rd.digitB = true → ∃ n, Lib.decFrom acc l = some n
  | [], acc, _ => ⟨acc, rfl⟩
  | b :: l, acc, h => by
    rw [List.all_cons, Bool.and_eq_true] at h
    have hb := h.1
    unfold Rd.digitB at hb
    simp only [Bool.and_eq_true, decide_eq_true_eq] at hb
    have e : Lib.digitVal b = some (b.toNat - 48) := by unfold Lib.digitVal; rw [if_pos hb]
    obtain ⟨n, hn⟩ := dec_digits l (acc * 10 + (b.toNat - 48)) h.2
    exact ⟨n, by simp only [Lib.decFrom, e]; exact hn⟩
theorem atoi_digits {s : ByteArray} (h : Rd.digs s = true) : ∃ n, Lib.atoi s.data.toList = some n := by
  unfold Rd.digs at h
  rw [Bool.and_eq_true] at h
  obtain ⟨h1, h2⟩ := h
  cases hl : s.data.toList with
  | nil => unfold Rd.is at h2; rw [hl] at h2; simp at h2
  | cons b l =>
    rw [hl] at h1
    have hb : Rd.digitB b = true := by rw [List.all_cons, Bool.and_eq_true] at h1; exact h1.1
    obtain ⟨n, hn⟩ := dec_digits (b :: l) 0 h1
    refine ⟨n, ?_⟩
    have n1 : (b == 45) = false := by
      rw [beq_eq_false_iff_ne]; rintro rfl; revert hb; decide
    have n2 : (b == 43) = false := by
      rw [beq_eq_false_iff_ne]; rintro rfl; revert hb; decide
    unfold Lib.atoi
    simp only [n1, n2, Bool.false_eq_true, if_false]
    unfold Lib.decNat
    rw [if_neg (by simp), hn]; rfl
theorem numV_i64 (s : ByteArray) (h : s.size ≤ 18) : I64 (Rd.numV s) := by
  unfold Rd.numV
  cases ha : Lib.atoi s.data.toList with
  | none => exact ⟨by decide, by decide⟩
  | some n =>
    have := Lib.atoi_bound ha (by rw [size_list]; exact h)
    exact ⟨by simp only [Option.getD_some]; omega, by simp only [Option.getD_some]; omega⟩

/-- Atoi of what number hands in. -/
theorem atoi_any (w : World) (p : Nat) (ws : List ByteArray) (ps : List Int) (d : Nat) (st : Rd.Sr) (h : RdAt w p ws ps d st) (s : ByteArray) (hs : s.size ≤ 18) :
    Calls Tryz.prog 97 #[.string s] w fun e w' => ∃ v, e = .returned (.tuple #[.int .i64 (Rd.numV s), v]) ∧ (v = .nilIface ∨ (∃ t x, v = .iface t x) ∧ Rd.numV s = 0) ∧ Below w.heap.size w w' := by
  cases ha : Lib.atoi s.data.toList with
  | some n =>
    refine (Tryz.strconv_Atoi s n hs ha w).mono ?_
    rintro e w' ⟨rfl, t, rfl⟩
    exact ⟨_, by unfold Rd.numV; rw [ha]; rfl, Or.inl rfl, Joins.below_bytesWorld _ _ _ _ (Nat.le_refl _)⟩
  | none =>
    obtain ⟨_, _, _, _, _, _, ⟨g, tp, x, t, fz, h4, h5, h6⟩, _⟩ := h
    refine (Tryz.strconv_Atoi_err_var s hs ha tp x w (by unfold World.var?; rw [h4]; simp [h6])).mono ?_
    rintro e w' ⟨N, rfl, _, _, hb⟩
    have e0 : Rd.numV s = 0 := by unfold Rd.numV; rw [ha]; rfl
    exact ⟨_, by rw [e0], Or.inr ⟨⟨_, _, rfl⟩, e0⟩, hb⟩

theorem badN_eq (s : ByteArray) : Rd.badN s = (decide (6 < s.size) || (decide (1 < s.size) && ((s.data.toList.getD 0 0).toNat == 48))) := by
  unfold Rd.badN
  have e : (s.data.toList.getD 0 0 == 48) = ((s.data.toList.getD 0 0).toNat == 48) := by
    generalize s.data.toList.getD 0 0 = c
    rw [Bool.eq_iff_iff]; simp only [beq_iff_eq]
    constructor
    · rintro rfl; rfl
    · intro h; exact UInt8.toNat_inj.1 h
  rw [e]

set_option maxHeartbeats 2000000 in
set_option maxRecDepth 100000 in
theorem number_any (w : World) (p : Nat) (ws : List ByteArray) (ps : List Int) (d : Nat) (st : Rd.Sr) (h : RdAt w p ws ps d st) :
    Calls Tryz.prog 86 #[.pointer (some ⟨p, 0, none⟩)] w fun e w' => e = .returned (.int .i64 (Rd.numV (Rd.pk (Rd.nu st)))) ∧ RdAt w' p ws ps d (Rd.tk (Rd.nu st)) ∧ But p w w' := by
  have HN : Hid (Rd.nu st = if Rd.badN (Rd.pk st) then Rd.fl st else st) := rfl
  have HF : Hid (Rd.pk (Rd.fl st) = ⟨#[]⟩) := rfl
  have HB := hide (badN_eq (Rd.pk st))
  have hsz : (Rd.pk st).size ≤ 4096 := pk_size h 0
  go_enter Tryz.func86, Tryz.ntmps86
  go_wp2_with fail
  refine (peek_any w p ws ps d st h).mono ?_
  rintro e w1 ⟨rfl, h1, hb1⟩
  clear h
  obtain ⟨x, hx⟩ : ∃ x, x = Rd.pk st := ⟨_, rfl⟩
  have HX := hide hx
  rw [← hx] at HN HB hsz ⊢
  clear hx
  cases hbad : Rd.badN x
  · have HN' : Hid (Rd.nu st = st) := hide (by rw [HN.out, hbad]; rfl)
    have hb' := HB.out
    rw [hbad] at hb'
    have h6 : ¬ 6 < x.size := by intro hh; rw [decide_eq_true hh] at hb'; cases hb'
    have h6' : ¬ ((x.size : Int) > 6) := by omega
    by_cases h2 : 1 < x.size
    · have hz : ¬ (x[0]'(by omega)).toNat = 48 := by
        intro hh
        rw [byte_at x 0 (by omega), decide_eq_true h2, hh] at hb'
        simp at hb'
      have h2' : (x.size : Int) > 1 := by omega
      have hd6 : decide ((6 : Int) < (x.size : Int)) = false := decide_eq_false (by omega)
      have hz8 : (((x[0]'(by omega)).toNat : Int) == 48) = false := by rw [beq_eq_false_iff_ne]; omega
      clear HN HB hb' hbad
      go_wp2_with fail
      refine (take_any w1 p ws ps d st h1).mono ?_
      rintro e w2 ⟨rfl, h3, hb3⟩
      rw [← HX.out]
      go_wp2_with fail
      refine (atoi_any w2 p ws ps d _ h3 x (by omega)).mono ?_
      rintro e w3 ⟨v, rfl, hv, hb4⟩
      have HR := hide (h3.below hb4)
      have HBU := hide ((hb1.trans hb3).trans (But.of_below hb4))
      clear hb4 h3 h1
      obtain ⟨z, hz'⟩ : ∃ z, z = Rd.numV x := ⟨_, rfl⟩
      have HZ := hide hz'
      rw [← hz'] at hv ⊢
      clear hz'
      rcases hv with rfl | ⟨⟨t, y, rfl⟩, hz0⟩
      · go_wp2
        go_ret
        exact ⟨ret_int (by rw [HN'.out, ← HX.out]; exact HZ.out), by rw [HN'.out]; exact HR.out, HBU.out⟩
      · subst hz0
        go_wp2
        go_ret
        exact ⟨ret_int (by rw [HN'.out, ← HX.out]; exact HZ.out), by rw [HN'.out]; exact HR.out, HBU.out⟩
    · have h2' : ¬ ((x.size : Int) > 1) := by omega
      clear HN HB hb' hbad
      go_wp2_with fail
      refine (take_any w1 p ws ps d st h1).mono ?_
      rintro e w2 ⟨rfl, h3, hb3⟩
      rw [← HX.out]
      go_wp2_with fail
      refine (atoi_any w2 p ws ps d _ h3 x (by omega)).mono ?_
      rintro e w3 ⟨v, rfl, hv, hb4⟩
      have HR := hide (h3.below hb4)
      have HBU := hide ((hb1.trans hb3).trans (But.of_below hb4))
      clear hb4 h3 h1
      obtain ⟨z, hz'⟩ : ∃ z, z = Rd.numV x := ⟨_, rfl⟩
      have HZ := hide hz'
      rw [← hz'] at hv ⊢
      clear hz'
      rcases hv with rfl | ⟨⟨t, y, rfl⟩, hz0⟩
      · go_wp2
        go_ret
        exact ⟨ret_int (by rw [HN'.out, ← HX.out]; exact HZ.out), by rw [HN'.out]; exact HR.out, HBU.out⟩
      · subst hz0
        go_wp2
        go_ret
        exact ⟨ret_int (by rw [HN'.out, ← HX.out]; exact HZ.out), by rw [HN'.out]; exact HR.out, HBU.out⟩
  · have HN' : Hid (Rd.nu st = Rd.fl st) := hide (by rw [HN.out, hbad]; rfl)
    have hb' := HB.out
    rw [hbad] at hb'
    have HA := hide (fun (W : World) (st' : Rd.Sr) (hR : RdAt W p ws ps d st') => atoi_any W p ws ps d st' hR ⟨#[]⟩ (by decide))
    have HZ : Hid (Rd.numV ⟨#[]⟩ = 0) := rfl
    by_cases h6 : 6 < x.size
    · have h6' : (x.size : Int) > 6 := by omega
      clear HN HB hb' hbad
      go_wp2_with fail
      refine (fail_any w1 p ws ps d st h1).mono ?_
      rintro e w2 ⟨rfl, h3, hb3⟩
      go_wp2_with fail
      refine (take_any w2 p ws ps d _ h3).mono ?_
      rintro e w3 ⟨rfl, h4, hb4⟩
      rw [HF.out]
      go_wp2_with fail
      refine (HA.out w3 _ h4).mono ?_
      rintro e w4 ⟨v, rfl, hv, hb5⟩
      have HR := hide (h4.below hb5)
      have HBU := hide (((hb1.trans hb3).trans hb4).trans (But.of_below hb5))
      rw [HZ.out]
      clear hb5 h4 h3 h1
      rcases hv with rfl | ⟨⟨t, y, rfl⟩, hz0⟩
      · go_wp2
        go_ret
        exact ⟨ret_int (by rw [HN'.out, HF.out, HZ.out]), by rw [HN'.out]; exact HR.out, HBU.out⟩
      · clear hz0
        go_wp2
        go_ret
        exact ⟨ret_int (by rw [HN'.out, HF.out, HZ.out]), by rw [HN'.out]; exact HR.out, HBU.out⟩
    · have h6' : ¬ ((x.size : Int) > 6) := by omega
      rw [decide_eq_false h6, Bool.false_or] at hb'
      obtain ⟨k1, k2⟩ := Bool.and_eq_true_iff.1 hb'.symm
      have h2 := of_decide_eq_true k1
      have h2' : (x.size : Int) > 1 := by omega
      have hz : (x[0]'(by omega)).toNat = 48 := by
        rw [byte_at x 0 (by omega)] at k2
        simpa using k2
      have hd6 : decide ((6 : Int) < (x.size : Int)) = false := decide_eq_false (by omega)
      have hz8 : (((x[0]'(by omega)).toNat : Int) == 48) = true := by rw [beq_iff_eq]; omega
      clear HN HB hb' hbad k1 k2
      go_wp2_with fail
      refine (fail_any w1 p ws ps d st h1).mono ?_
      rintro e w2 ⟨rfl, h3, hb3⟩
      go_wp2_with fail
      refine (take_any w2 p ws ps d _ h3).mono ?_
      rintro e w3 ⟨rfl, h4, hb4⟩
      rw [HF.out]
      go_wp2_with fail
      refine (HA.out w3 _ h4).mono ?_
      rintro e w4 ⟨v, rfl, hv, hb5⟩
      have HR := hide (h4.below hb5)
      have HBU := hide (((hb1.trans hb3).trans hb4).trans (But.of_below hb5))
      rw [HZ.out]
      clear hb5 h4 h3 h1
      rcases hv with rfl | ⟨⟨t, y, rfl⟩, hz0⟩
      · go_wp2
        go_ret
        exact ⟨ret_int (by rw [HN'.out, HF.out, HZ.out]), by rw [HN'.out]; exact HR.out, HBU.out⟩
      · clear hz0
        go_wp2
        go_ret
        exact ⟨ret_int (by rw [HN'.out, HF.out, HZ.out]), by rw [HN'.out]; exact HR.out, HBU.out⟩

end Go.Proofs.YthcckfofpocbhabGreatDoor

/- append onto rows whose elements point to memory of their own; what has been made behind a world. -/
namespace Go.Proofs.YthcckfofpocbhabGreatDoor
open Go.RowKit

section
variable {α : Type} {At : World → List Value → α → Prop} {w : World} {ops : Array Oper} {rest : List Oper} {o : Oper} {a : Act} {Q : Exit → Act → World → Prop}
/-- append of one element. -/
theorem wpList_append_L (hm : Mono At) (hgd : o.guard = none) (s x : Operand) (t e k bytes : Nat) (z : Value)
    (ho : o.op = .call { callee := .builtin .append, args := #[s, x], argTypes := #[t, t] }) (ht : Tryz.prog.underlying t = some (.slice e)) (hinfo : (Tryz.prog.info? e).map (fun i => (i.zero, i.size, i.bytes)) = some (some z, k, bytes)) (hzs : z.cells.size = k) (hk : 0 < k) (hby : bytes ≤ 1024)
    (n : Nat) (v : Value) (l : List α) (hs : a.eval s = v) (hown : OwnL At w n e k v l) (B : Nat) (c : List Value) (y : α) (hx : a.eval x = .slice (some ⟨B, 0, none⟩) 1 1)
    (hc : ∀ (j : Nat) u, c[j]? = some u → w.cell? ⟨B, j, none⟩ = some u) (hck : c.length = k) (h1 : ∀ u ∈ c, u.oneCell' = true) (hat : At (only (fun b => decide (n ≤ b) && decide (v.ownBlock ≠ some b)) w) c y) (hl : l.length ≤ 8192) (hbase : n ≤ w.heap.size)
    (h : ∀ g cap w', OwnL At w' n e k (.slice (some ⟨g, 0, none⟩) (l.length + 1) cap) (l ++ [y]) → w.grownBy w' v.ownBlock → wpList Tryz.prog ops Q rest (a.put o.dst (.slice (some ⟨g, 0, none⟩) (l.length + 1) cap)) w') : wpList Tryz.prog ops Q (o :: rest) a w := by
  obtain ⟨iS, hiS, hz0, hz1, hz2⟩ := info_parts hinfo
  obtain ⟨cs, hr, k1, k2, k3⟩ := hown
  refine wpList_append_lies w hgd s x t ho n e iS z k bytes ht hiS hz0 hz1 hz2 hzs hk v l.length cs.flatten hs hr ⟨B, 0, none⟩ 1 1 c hx (by rw [hck, Nat.one_mul]) (fun j u hu => by rw [Addr.add_lit, Nat.zero_add]; exact hc j u hu) h1 (by decide) (by unfold maxLen; omega)
    (Nat.le_trans (Nat.mul_le_mul (show l.length + 1 ≤ 8193 by omega) hby) (by decide)) hbase w.heap.size rfl ?_
  intro g cap w' h1' h2 h3 _
  exact h g cap w' (OwnL.push (At := At) hm ⟨k1, k2, k3⟩ rfl hck hat h1' h2 h3) h2
variable {K : Act → World → Prop} {E : Prop}
/-- The same at a step of a region that draws its order. -/
theorem step_append_L (hm : Mono At) (hgd : o.guard = none) (s x : Operand) (t e k bytes : Nat) (z : Value)
    (ho : o.op = .call { callee := .builtin .append, args := #[s, x], argTypes := #[t, t] }) (ht : Tryz.prog.underlying t = some (.slice e)) (hinfo : (Tryz.prog.info? e).map (fun i => (i.zero, i.size, i.bytes)) = some (some z, k, bytes)) (hzs : z.cells.size = k) (hk : 0 < k) (hby : bytes ≤ 1024)
    (n : Nat) (v : Value) (l : List α) (hs : a.eval s = v) (hown : OwnL At w n e k v l) (B : Nat) (c : List Value) (y : α) (hx : a.eval x = .slice (some ⟨B, 0, none⟩) 1 1)
    (hc : ∀ (j : Nat) u, c[j]? = some u → w.cell? ⟨B, j, none⟩ = some u) (hck : c.length = k) (h1 : ∀ u ∈ c, u.oneCell' = true) (hat : At (only (fun b => decide (n ≤ b) && decide (v.ownBlock ≠ some b)) w) c y) (hl : l.length ≤ 8192) (hbase : n ≤ w.heap.size)
    (h : ∀ g cap w', OwnL At w' n e k (.slice (some ⟨g, 0, none⟩) (l.length + 1) cap) (l ++ [y]) → w.grownBy w' v.ownBlock → K (a.put o.dst (.slice (some ⟨g, 0, none⟩) (l.length + 1) cap)) w') :
    if Region.wanted o (yielded ops a.tmps) = true then Oper.wp Tryz.prog o a w K Q else E := by
  obtain ⟨iS, hiS, hz0, hz1, hz2⟩ := info_parts hinfo
  obtain ⟨cs, hr, k1, k2, k3⟩ := hown
  refine step_append_lies w hgd s x t ho n e iS z k bytes ht hiS hz0 hz1 hz2 hzs hk v l.length cs.flatten hs hr ⟨B, 0, none⟩ 1 1 c hx (by rw [hck, Nat.one_mul]) (fun j u hu => by rw [Addr.add_lit, Nat.zero_add]; exact hc j u hu) h1 (by decide) (by unfold maxLen; omega)
    (Nat.le_trans (Nat.mul_le_mul (show l.length + 1 ≤ 8193 by omega) hby) (by decide)) hbase w.heap.size rfl ?_
  intro g cap w' h1' h2 h3 _
  exact h g cap w' (OwnL.push (At := At) hm ⟨k1, k2, k3⟩ rfl hck hat h1' h2 h3) h2
end

/-- What was made behind world w, as w' has it. -/
def fr (w w' : World) : World := only (fun b => decide (w.heap.size ≤ b)) w'
theorem fr_but {p : Nat} {w w1 w2 : World} (h : But p w1 w2) (hp : p < w.heap.size) : Sub (fr w w1) (fr w w2) := fresh_but h hp
theorem fr_old {w w0 w1 : World} (h : w.heap.size ≤ w0.heap.size) : Sub (fr w0 w1) (fr w w1) := fresh_mono h
theorem fr_alloc (w w1 : World) (o : Obj) : Sub (fr w w1) (fr w (w1.alloc o)) := fun a v hv => by
  obtain ⟨h1, h2⟩ := only_cell.1 hv
  exact only_cell.2 ⟨h1, cellUp h2 (boxBelow _ _)⟩
theorem fr_below {w w1 w2 : World} (h : Below w1.heap.size w1 w2) : Sub (fr w w1) (fr w w2) := fun a v hv => by
  obtain ⟨h1, h2⟩ := only_cell.1 hv
  exact only_cell.2 ⟨h1, cellUp h2 h⟩
/-- What was made behind w0 isn't touched by a store into an older block. -/
theorem fr_set {w w1 : World} {a : Addr} (ha : a.block < w.heap.size) (x : Value) : Sub (fr w w1) (fr w (w1.setCell a x)) := fun b v hv => by
  obtain ⟨h1, h2⟩ := only_cell.1 hv
  refine only_cell.2 ⟨h1, ?_⟩
  have hle := of_decide_eq_true h1
  rw [World.cell?_of_block (w := w1) (Below.heap_setCell _ _ _ _ (by omega))]; exact h2
theorem row_new {n : Nat} {w0 w1 : World} {v : Value} (h : n ≤ w0.heap.size) (hv : ∀ k, v.ownBlock = some k → k < w0.heap.size) : Sub (fr w0 w1) (only (fun b => decide (n ≤ b) && decide (v.ownBlock ≠ some b)) w1) := fun a x hx => by
  obtain ⟨h1, h2⟩ := only_cell.1 hx
  have hle := of_decide_eq_true h1
  refine only_cell.2 ⟨Bool.and_eq_true_iff.2 ⟨decide_eq_true (Nat.le_trans h hle), decide_eq_true (fun e => ?_)⟩, h2⟩
  have := hv _ e
  omega
/-- What was made behind w0 isn't in a row that was there. -/
theorem fr_row {w w0 w1 : World} {v : Value} (h : w.heap.size ≤ w0.heap.size) (hv : ∀ k, v.ownBlock = some k → k < w0.heap.size) : Sub (fr w0 w1) (only (fun b => decide (w.heap.size ≤ b) && decide (v.ownBlock ≠ some b)) w1) := fun a x hx => by
  obtain ⟨h1, h2⟩ := only_cell.1 hx
  have hle := of_decide_eq_true h1
  refine only_cell.2 ⟨Bool.and_eq_true_iff.2 ⟨decide_eq_true (Nat.le_trans h hle), decide_eq_true (fun e => ?_)⟩, h2⟩
  have := hv _ e
  omega
theorem fr_grown {w w1 w2 : World} {r : Option Nat} (h : w1.grownBy w2 r) (hr : ∀ k, r = some k → k < w.heap.size) : Sub (fr w w1) (fr w w2) := fun a x hx => by
  obtain ⟨h1, h2⟩ := only_cell.1 hx
  have hle := of_decide_eq_true h1
  exact only_cell.2 ⟨h1, h.cell h2 (fun e => by have := hr _ e.symm; omega)⟩

/-- An expression's four cells. -/
def ExL (m : Nat) (w : World) (c : List Value) (x : Ex) : Prop := ∃ c0 c1 c2 c3, c = [c0, c1, c2, c3] ∧ ExAt w m c0 c1 c2 c3 x
theorem ExL.sub {m : Nat} {w w' : World} {c : List Value} {y : Ex} (hs : Sub w w') (h : ExL m w c y) : ExL m w' c y := by
  obtain ⟨c0, c1, c2, c3, e, h⟩ := h
  exact ⟨c0, c1, c2, c3, e, h.sub hs⟩
theorem exMono (m : Nat) : Mono (ExL m) := fun _ _ _ _ hs h => h.sub hs
theorem ExAt.one {w : World} {m : Nat} {c0 c1 c2 c3 : Value} {x : Ex} (h : ExAt w m c0 c1 c2 c3 x) : ∀ u ∈ [c0, c1, c2, c3], u.oneCell' = true := by
  obtain ⟨a, cap, rfl, rfl, rfl, rfl⟩ := h.shape
  intro u hu
  simp at hu
  rcases hu with rfl | rfl | rfl | rfl <;> rfl
theorem infoEx : (Tryz.prog.info? 52).map (fun i => (i.zero, i.size, i.bytes)) = some (some (.agg #[.int .i64 0, .int .i64 0, .string ⟨#[]⟩, .slice none 0 0]), 4, 56) := by kernel_rfl
theorem cells4 (w : World) (c0 c1 c2 c3 : Value) (t : TypeId) : ∀ (j : Nat) u, [c0, c1, c2, c3][j]? = some u → (w.alloc (.cells #[c0, c1, c2, c3] t)).cell? ⟨w.heap.size, j, none⟩ = some u := by
  intro j u hu
  have hj := (List.getElem?_eq_some_iff.1 hu).1
  have hj' : j < 4 := hj
  rw [block_at (block_new w (.cells #[c0, c1, c2, c3] t))]
  simpa using hu
/-- A row of expressions of the call's own is a list of expressions. -/
theorem OwnL.exsN {m n : Nat} {w' : World} {v : Value} {l : List Ex} (h : OwnL (ExL m) w' n 52 4 v l) (hl : l.length ≤ 9223372036854775807) : ExsAt (only (fun b => decide (n ≤ b)) w') m v l := by
  rcases h.shape with ⟨rfl, rfl⟩ | ⟨g, cap, rfl, _, hg, _⟩
  · exact ⟨none, 0, 0, 0, rfl, fun h => absurd h (by simp), by simp, fun i y hy => by simp at hy⟩
  · refine ⟨_, g, 0, cap, rfl, fun _ => rfl, hl, fun i y hy => ?_⟩
    obtain ⟨c, hc, hcell, _, c0, c1, c2, c3, rfl, hx⟩ := h.cell hy
    have hs : ∀ j (hj : j < 4), (only (fun b => decide (n ≤ b)) w').cell? ⟨g, 0 + i * 4 + j, none⟩ = some ([c0, c1, c2, c3][j]) := fun j hj => by
      refine only_cell.2 ⟨decide_eq_true hg, ?_⟩
      rw [Nat.zero_add, hcell j hj]
      exact List.getElem?_eq_getElem (by simpa using hj)
    refine ⟨c0, c1, c2, c3, hs 0 (by decide), hs 1 (by decide), hs 2 (by decide), hs 3 (by decide), hx.sub (fun a u hu => ?_)⟩
    obtain ⟨b1, b2⟩ := only_cell.1 hu
    exact only_cell.2 ⟨(Bool.and_eq_true_iff.1 b1).1, b2⟩
theorem OwnL.exs {m : Nat} {w w' : World} {v : Value} {l : List Ex} (h : OwnL (ExL m) w' w.heap.size 52 4 v l) (hl : l.length ≤ 9223372036854775807) : ExsAt (fr w w') m v l := h.exsN hl
theorem ExsAt.sub {w w' : World} (hb : Sub w w') {m : Nat} {v : Value} {l : List Ex} (h : ExsAt w m v l) : ExsAt w' m v l := by
  obtain ⟨a, b, off, cap, e, h0, hl, h1⟩ := h
  refine ⟨a, b, off, cap, e, h0, hl, fun i y hy => ?_⟩
  obtain ⟨e0, e1, e2, e3, g0, g1, g2, g3, hx⟩ := h1 i y hy
  exact ⟨e0, e1, e2, e3, hb _ _ g0, hb _ _ g1, hb _ _ g2, hb _ _ g3, hx.sub hb⟩

/-- How far a reader may still go. -/
def meas (n p : Nat) (w : World) : Nat := match w.cell? ⟨p, 4, none⟩ with
  | some (.bool true) => 0
  | _ => match w.cell? ⟨p, 2, none⟩ with
    | some (.int _ z) => 1 + (n - z.toNat)
    | _ => 0
theorem meas_at {w : World} {p : Nat} {ws : List ByteArray} {ps : List Int} {d : Nat} {st : Rd.Sr} (h : RdAt w p ws ps d st) : meas ws.length p w = if st.f then 0 else 1 + st.r.length := by
  obtain ⟨_, _, _, _, _, q2, _, q4, _⟩ := h.cells
  have hl := h.suffix.length_le
  unfold meas
  rw [q4, q2]
  cases st.f
  · simp only [Bool.false_eq_true, if_false]
    omega
  · rfl
theorem meas_lt {w w' : World} {p : Nat} {ws : List ByteArray} {ps : List Int} {d d' : Nat} {st st' : Rd.Sr} (h : RdAt w p ws ps d st) (h' : RdAt w' p ws ps d' st') (hf : st.f = false) (hl : Rd.Lt st' st) : meas ws.length p w' < meas ws.length p w := by
  rw [meas_at h, meas_at h', hf]
  simp only [Bool.false_eq_true, if_false]
  split
  · omega
  · rename_i hf'
    rcases hl.2 with e | e
    · exact absurd e hf'
    · omega

/-- The depth is one that may be. -/
def DOk (d : Nat) (st : Rd.Sr) : Prop := d ≤ 30 ∧ (st.f = true ∨ d ≤ 20)
theorem DOk.le {d : Nat} {a b : Rd.Sr} (h : DOk d b) (hl : Rd.Le a b) : DOk d a := ⟨h.1, h.2.elim (fun e => Or.inl (hl.1 e)) Or.inr⟩
/-- Behind an open. -/
theorem DOk.op {d : Nat} {st : Rd.Sr} (h : DOk d st) (h2 : d ≤ 29) : DOk (d + 1) (Rd.op d st) := by
  refine ⟨by omega, ?_⟩
  rcases h.2 with e | e
  · exact Or.inl ((Rd.op_lt d st).1.1 e)
  · by_cases h20 : d = 20
    · left
      refine (Rd.kw_lt _ _).1.1 ?_
      unfold Rd.mx
      rw [if_pos h20]; rfl
    · exact Or.inr (by omega)
/-- The contract of expr, with fuel k. -/
def ExprC (k : Nat) : Prop := ∀ (w : World) (p : Nat) (ws : List ByteArray) (ps : List Int) (d : Nat) (st : Rd.Sr), RdAt w p ws ps d st → Rd.Ok k st → DOk d st →
  Calls Tryz.prog 72 #[.pointer (some ⟨p, 0, none⟩)] w fun e w' => ∃ c0 c1 c2 c3, e = .returned (.agg #[c0, c1, c2, c3]) ∧ ExAt (fr w w') (k + 1) c0 c1 c2 c3 (Rd.pE k d st).1 ∧ RdAt w' p ws ps d (Rd.pE k d st).2 ∧ But p w w'

end Go.Proofs.YthcckfofpocbhabGreatDoor

/- Walks over package parse: args, compound, expr. -/
namespace Go.Proofs.YthcckfofpocbhabGreatDoor
open Go.RowKit

theorem only_alloc (P : Nat → Bool) (w : World) (o : Obj) : Sub (only P w) (only P (w.alloc o)) := fun a v hv => by
  obtain ⟨h1, h2⟩ := only_cell.1 hv
  exact only_cell.2 ⟨h1, cellUp h2 (boxBelow _ _)⟩
theorem RdAt.block {w : World} {p : Nat} {ws : List ByteArray} {ps : List Int} {d : Nat} {st : Rd.Sr} (h : RdAt w p ws ps d st) : ∃ c, w.heap[p]? = some (.cells c 41 (0, 0)) := by
  obtain ⟨aw, cw, vs, h1, _⟩ := h
  exact ⟨_, h1⟩

set_option maxHeartbeats 4000000 in
set_option maxRecDepth 100000 in
theorem args_of (k : Nat) (ih : ExprC k) (w : World) (p : Nat) (ws : List ByteArray) (ps : List Int) (d : Nat) (st : Rd.Sr) (h : RdAt w p ws ps d st) (hk : Rd.Ok k st) (hd : DOk d st) (n : Nat) (hn : Rd.Ok n st) :
    Calls Tryz.prog 96 #[.pointer (some ⟨p, 0, none⟩)] w fun e w' => ∃ v, e = .returned v ∧ ExsAt (fr w w') (k + 1) v (Rd.loop Rd.argc (Rd.pE k d) n st).1 ∧ RdAt w' p ws ps d (Rd.loop Rd.argc (Rd.pE k d) n st).2 ∧ But p w w' := by
  have IH := hide ih
  have HPN := hide h.lt
  have hlen : st.r.length ≤ 4096 := Nat.le_trans h.suffix.length_le h.len
  clear ih
  go_enter Tryz.func96, Tryz.ntmps96
  go_wp2
  go_loopw [3] (fun v wr => ∃ (acc : List Ex) (st' : Rd.Sr) (n' : Nat), Rd.loop Rd.argc (Rd.pE k d) n st = (acc ++ (Rd.loop Rd.argc (Rd.pE k d) n' st').1, (Rd.loop Rd.argc (Rd.pE k d) n' st').2) ∧ Rd.Ok n' st' ∧ Rd.Ok k st' ∧ DOk d st' ∧
      (acc.length ≤ 4097 ∧ (st'.f = true ∨ acc.length + st'.r.length ≤ 4096)) ∧ OwnL (ExL (k + 1)) wr w.heap.size 52 4 v acc ∧ RdAt wr p ws ps d st' ∧ But p w wr) (fun _ wr => meas ws.length p wr)
  case atStart => exact ⟨[], st, n, rfl, hn, hk, hd, ⟨by simp, Or.inr (by simpa using hlen)⟩, OwnL.nil _ _ _ _, h, But.refl _ _⟩
  case round =>
    obtain ⟨acc, st', n', hL, hnk, hk', hd', ⟨hacc, hacc'⟩, hown, hR, hnx⟩ := hrel
    have HL := hide hL
    have HOW := hide hown
    have HRr := hide hR
    have HNX := hide hnx
    obtain ⟨rc, hrc⟩ := hR.block
    have HR0 := hide (And.intro hrc HPN.out)
    clear hL hown hnx hrc h hk hd hn hlen
    go_wp2_with fail
    refine (peek_any _ p ws ps d st' hR).mono ?_
    rintro e w1 ⟨rfl, h1, hb1⟩
    have HR1 := hide h1
    have HB1 := hide hb1
    clear hR h1 hb1
    by_cases h0 : (Rd.pk st').toList = [40]
    · have HC : Hid (Rd.argc st' = true) := hide (by unfold Rd.argc; rw [is_t h0]; rfl)
      have hf' : st'.f = false := Rd.argc_ne HC.out
      obtain ⟨n', rfl⟩ := hnk.pos hf'
      rw [hf'] at hacc'
      have hacc2 : acc.length + st'.r.length ≤ 4096 := by simpa using hacc'
      clear hacc'
      go_wp2_with fail
      refine (IH.out _ p ws ps d st' HR1.out hk' hd').mono ?_
      rintro e w5 ⟨c0, c1, c2, c3, rfl, hx, hR5, hb5⟩
      have hown5 := HOW.out.but (exMono _) HR0.out.1 (by decide) (by have := HR0.out.2; omega) (HB1.out.trans hb5)
      have hlt5 : ∀ j, u3.ownBlock = some j → j < w1.heap.size := fun j hj => Nat.lt_of_lt_of_le (HOW.out.lt j hj).2 HB1.out.size
      have HAT := hide (ExL.sub (fr_row (w := w) (w0 := w1) (w1 := w5) (v := u3) (by have := HNX.out.size; have := HB1.out.size; omega) hlt5) ⟨c0, c1, c2, c3, rfl, hx⟩)
      have HONE := hide hx.one
      obtain ⟨ax, cx, rfl, rfl, rfl, rfl⟩ := hx.shape
      have HOW5 := hide hown5
      have HR5 := hide hR5
      have HB5 := hide ((HNX.out.trans HB1.out).trans hb5)
      have hsz5 := HB5.out.size
      have HLT := hide (Rd.pE_lt k d st')
      clear hown5 hlt5 hx hR5 hb5
      go_wp2_with (first
        | (at_builtin; refine wpList_append_L (exMono _) rfl _ _ 50 52 4 56 _ rfl Tryz.underlying50 infoEx (by decide) (by decide) (by decide) w.heap.size _ _ rfl (HOW5.out.below (exMono _) (boxBelow _ _)) _ _ (Rd.pE k d st').1 rfl (cells4 _ _ _ _ _ _) rfl HONE.out (ExL.sub (only_alloc _ _ _) HAT.out) (by omega) (by simp; omega) ?_; intro g cap w6 hown6 hgrow6; have HOW6 := hide hown6; have HR6 := hide (((HR5.out.below (boxBelow _ _))).grown hgrow6 (fun j hj => by have := (HOW5.out.lt j hj).1; have := HPN.out; omega)); have HB6 := hide ((HB5.out.alloc _).grown hgrow6 (fun j hj => (HOW5.out.lt j hj).1)); clear hown6 hgrow6)
        | fail)
      go_roundw
      case rel => exact ⟨acc ++ [(Rd.pE k d st').1], (Rd.pE k d st').2, n', by rw [HL.out, Rd.loop_step HC.out]; simp, hnk.lt HLT.out, hk'.le HLT.out.1, hd'.le HLT.out.1, by
          rw [List.length_append, List.length_singleton]
          rcases HLT.out.2 with e | e
          · exact ⟨by omega, Or.inl e⟩
          · exact ⟨by omega, Or.inr (by omega)⟩, HOW6.out, HR6.out, HB6.out⟩
      case measure => exact meas_lt HRr.out HR6.out hf' HLT.out
    · have b0 := beq_f h0
      go_wp2_with fail
      refine (peek_any _ p ws ps d st' HR1.out).mono ?_
      rintro e w2 ⟨rfl, h2, hb2⟩
      have HR2 := hide h2
      have HB2 := hide (HB1.out.trans hb2)
      clear h2 hb2
      go_wp2_with fail
      refine (isPlain_any _ _).mono ?_
      rintro e w3 ⟨rfl, hw3⟩
      subst hw3
      obtain ⟨b, hb⟩ : ∃ b, b = Rd.plain (Rd.pk st') := ⟨_, rfl⟩
      have HBP := hide hb
      rw [← hb]
      clear hb
      cases b
      · have HC : Hid (Rd.argc st' = false) := hide (by unfold Rd.argc; rw [is_f h0, ← HBP.out]; rfl)
        have HE := hide (HOW.out.but (exMono _) HR0.out.1 (by decide) (by have := HR0.out.2; omega) HB2.out)
        have HEX := hide (OwnL.exs (w := w) HE.out (by omega))
        have HLL : Hid (Rd.loop Rd.argc (Rd.pE k d) n st = (acc, st')) := hide (by rw [HL.out, Rd.loop_stop HC.out]; simp)
        go_wp2
        go_ret
        exact ⟨_, rfl, by rw [HLL.out]; exact HEX.out, by rw [HLL.out]; exact HR2.out, HNX.out.trans HB2.out⟩
      · have HC : Hid (Rd.argc st' = true) := hide (by unfold Rd.argc; rw [← HBP.out, Bool.or_true])
        have hf' : st'.f = false := Rd.argc_ne HC.out
        obtain ⟨n', rfl⟩ := hnk.pos hf'
        rw [hf'] at hacc'
        have hacc2 : acc.length + st'.r.length ≤ 4096 := by simpa using hacc'
        clear hacc'
        go_wp2_with fail
        refine (IH.out _ p ws ps d st' HR2.out hk' hd').mono ?_
        rintro e w5 ⟨c0, c1, c2, c3, rfl, hx, hR5, hb5⟩
        have hown5 := HOW.out.but (exMono _) HR0.out.1 (by decide) (by have := HR0.out.2; omega) (HB2.out.trans hb5)
        have hlt5 : ∀ j, u3.ownBlock = some j → j < w3.heap.size := fun j hj => Nat.lt_of_lt_of_le (HOW.out.lt j hj).2 HB2.out.size
        have HAT := hide (ExL.sub (fr_row (w := w) (w0 := w3) (w1 := w5) (v := u3) (by have := HNX.out.size; have := HB2.out.size; omega) hlt5) ⟨c0, c1, c2, c3, rfl, hx⟩)
        have HONE := hide hx.one
        obtain ⟨ax, cx, rfl, rfl, rfl, rfl⟩ := hx.shape
        have HOW5 := hide hown5
        have HR5 := hide hR5
        have HB5 := hide ((HNX.out.trans HB2.out).trans hb5)
        have hsz5 := HB5.out.size
        have HLT := hide (Rd.pE_lt k d st')
        clear hown5 hlt5 hx hR5 hb5
        go_wp2_with (first
          | (at_builtin; refine wpList_append_L (exMono _) rfl _ _ 50 52 4 56 _ rfl Tryz.underlying50 infoEx (by decide) (by decide) (by decide) w.heap.size _ _ rfl (HOW5.out.below (exMono _) (boxBelow _ _)) _ _ (Rd.pE k d st').1 rfl (cells4 _ _ _ _ _ _) rfl HONE.out (ExL.sub (only_alloc _ _ _) HAT.out) (by omega) (by simp; omega) ?_; intro g cap w6 hown6 hgrow6; have HOW6 := hide hown6; have HR6 := hide (((HR5.out.below (boxBelow _ _))).grown hgrow6 (fun j hj => by have := (HOW5.out.lt j hj).1; have := HPN.out; omega)); have HB6 := hide ((HB5.out.alloc _).grown hgrow6 (fun j hj => (HOW5.out.lt j hj).1)); clear hown6 hgrow6)
          | fail)
        go_roundw
        case rel => exact ⟨acc ++ [(Rd.pE k d st').1], (Rd.pE k d st').2, n', by rw [HL.out, Rd.loop_step HC.out]; simp, hnk.lt HLT.out, hk'.le HLT.out.1, hd'.le HLT.out.1, by
            rw [List.length_append, List.length_singleton]
            rcases HLT.out.2 with e | e
            · exact ⟨by omega, Or.inl e⟩
            · exact ⟨by omega, Or.inr (by omega)⟩, HOW6.out, HR6.out, HB6.out⟩
        case measure => exact meas_lt HRr.out HR6.out hf' HLT.out

end Go.Proofs.YthcckfofpocbhabGreatDoor
