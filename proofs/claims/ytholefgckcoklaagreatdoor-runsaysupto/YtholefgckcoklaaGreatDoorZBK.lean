/- Running functions by the document, plain: a call's own names and values as two lists; what was done as a set of texts. -/
import Derived.Test.YtholefgckcoklaaGreatDoorZBH
namespace Go.Proofs.YtholefgckcoklaaGreatDoor
open Go.RowKit
namespace Rn
theorem own0_snoc {ns : List ByteArray} {vs : List Int} (h : ns.length = vs.length) (n : ByteArray) (v : Int) : own0 (ns ++ [n]) (vs ++ [v]) = put (own0 ns vs) n v := by
  unfold own0
  rw [List.zip_append h, List.foldl_append]
  rfl
def lastTo (ns : List ByteArray) (n : ByteArray) : Nat → Int
  | 0 => -1
  | k + 1 => if (match ns[k]? with | some x => Nm.sameB x n | none => false) = true then (k : Int) else lastTo ns n k
theorem lastTo_yes {ns : List ByteArray} {n x : ByteArray} {k : Nat} (hx : ns[k]? = some x) (h : Nm.sameB x n = true) : lastTo ns n (k + 1) = k := by
  unfold lastTo; rw [hx]; simp only [h, if_true]
theorem lastTo_no {ns : List ByteArray} {n x : ByteArray} {k : Nat} (hx : ns[k]? = some x) (h : Nm.sameB x n = false) : lastTo ns n (k + 1) = lastTo ns n k := by
  show (if (match ns[k]? with | some x => Nm.sameB x n | none => false) = true then (k : Int) else lastTo ns n k) = _
  rw [hx]; simp [h]
theorem lastTo_range (ns : List ByteArray) (n : ByteArray) : ∀ k, -1 ≤ lastTo ns n k ∧ lastTo ns n k < k
  | 0 => by unfold lastTo; omega
  | k + 1 => by
    have := lastTo_range ns n k
    unfold lastTo
    split <;> omega
theorem lastTo_out {ns : List ByteArray} {n : ByteArray} {k : Nat} (hx : ns[k]? = none) : lastTo ns n (k + 1) = lastTo ns n k := by
  show (if (match ns[k]? with | some x => Nm.sameB x n | none => false) = true then (k : Int) else lastTo ns n k) = _
  rw [hx]; simp
theorem lastTo_at {ns : List ByteArray} {n : ByteArray} : ∀ {k : Nat}, 0 ≤ lastTo ns n k → ns[(lastTo ns n k).toNat]? = some n
  | 0, h => by
    have e : lastTo ns n 0 = -1 := rfl
    omega
  | k + 1, h => by
    cases hx : ns[k]? with
    | none => rw [lastTo_out hx] at h ⊢; exact lastTo_at h
    | some x =>
      cases hc : Nm.sameB x n with
      | true => rw [lastTo_yes hx hc, Int.toNat_natCast, hx, sameB_iff.1 hc]
      | false => rw [lastTo_no hx hc] at h ⊢; exact lastTo_at h
theorem lastTo_none {ns : List ByteArray} {n : ByteArray} : ∀ {k : Nat}, lastTo ns n k < 0 → ∀ j, j < k → ns[j]? ≠ some n
  | 0, _, j, hj => by omega
  | k + 1, h, j, hj => by
    cases hx : ns[k]? with
    | none =>
      rw [lastTo_out hx] at h
      by_cases e : j = k
      · rw [e, hx]; simp
      · exact lastTo_none h j (by omega)
    | some x =>
      cases hc : Nm.sameB x n with
      | true => rw [lastTo_yes hx hc] at h; omega
      | false =>
        rw [lastTo_no hx hc] at h
        by_cases e : j = k
        · rw [e, hx]
          intro e2
          cases e2
          rw [sameB_iff.2 rfl] at hc
          cases hc
        · exact lastTo_none h j (by omega)
theorem own0_take {ns : List ByteArray} {vs : List Int} (h : ns.length = vs.length) (n : ByteArray) : ∀ k, k ≤ ns.length → own0 (ns.take k) (vs.take k) n = if lastTo ns n k < 0 then none else vs[(lastTo ns n k).toNat]?
  | 0, _ => by
    have e : lastTo ns n 0 = -1 := rfl
    rw [e, if_pos (by omega)]
    simp [own0]
  | k + 1, hk => by
    have hx := List.getElem?_eq_getElem (show k < ns.length by omega)
    have hv := List.getElem?_eq_getElem (show k < vs.length by omega)
    rw [List.take_add_one, hx, List.take_add_one, hv]
    simp only [Option.toList_some]
    rw [own0_snoc (by rw [List.length_take, List.length_take]; omega)]
    unfold put
    by_cases e : Nm.sameB n (ns[k]'(by omega)) = true
    · rw [if_pos e, lastTo_yes hx (by rw [sameB_iff.1 e]; exact sameB_iff.2 rfl), if_neg (by omega), Int.toNat_natCast, hv]
    · have e' : Nm.sameB (ns[k]'(by omega)) n = false := by
        cases hb : Nm.sameB (ns[k]'(by omega)) n with
        | false => rfl
        | true => exact absurd (sameB_iff.2 (sameB_iff.1 hb).symm) e
      rw [if_neg e, lastTo_no hx e']
      exact own0_take h n k (by omega)
theorem own0_last {ns : List ByteArray} {vs : List Int} (h : ns.length = vs.length) (n : ByteArray) : own0 ns vs n = if lastTo ns n ns.length < 0 then none else vs[(lastTo ns n ns.length).toNat]? := by
  have := own0_take h n ns.length (Nat.le_refl _)
  rwa [List.take_length, show vs.take ns.length = vs by rw [h, List.take_length]] at this
theorem own0_set {ns : List ByteArray} {vs : List Int} (h : ns.length = vs.length) {n : ByteArray} {i : Nat} (hi : lastTo ns n ns.length = i) (v : Int) : own0 ns (vs.set i v) = put (own0 ns vs) n v := by
  have hr := lastTo_range ns n ns.length
  have hat := lastTo_at (ns := ns) (n := n) (k := ns.length) (by omega)
  rw [hi, Int.toNat_natCast] at hat
  funext s
  rw [own0_last (by rw [List.length_set]; exact h)]
  unfold put
  by_cases e : Nm.sameB s n = true
  · have := sameB_iff.1 e
    subst this
    rw [if_pos e, hi, if_neg (by omega), Int.toNat_natCast, List.getElem?_set_self (by omega)]
  · rw [if_neg e, own0_last h]
    by_cases hn : lastTo ns s ns.length < 0
    · rw [if_pos hn, if_pos hn]
    · rw [if_neg hn, if_neg hn]
      have hs := lastTo_at (ns := ns) (n := s) (k := ns.length) (by omega)
      rw [List.getElem?_set_ne]
      intro e2
      rw [← e2, hat] at hs
      cases hs
      exact e (sameB_iff.2 rfl)
theorem own0_some {ns : List ByteArray} {vs : List Int} (h : ns.length = vs.length) {n : ByteArray} : (own0 ns vs n).isSome = true ↔ n ∈ ns := by
  rw [own0_last h]
  have hr := lastTo_range ns n ns.length
  by_cases hn : lastTo ns n ns.length < 0
  · rw [if_pos hn]
    simp only [Option.isSome_none, Bool.false_eq_true, false_iff]
    intro hm
    obtain ⟨j, hj, e⟩ := List.mem_iff_getElem.1 hm
    exact lastTo_none hn j hj (by rw [List.getElem?_eq_getElem hj, e])
  · rw [if_neg hn, List.getElem?_eq_getElem (by omega)]
    simp only [Option.isSome_some, true_iff]
    exact List.mem_of_getElem? (lastTo_at (k := ns.length) (by omega))
theorem did_mem {nm : List (ByteArray × ByteArray)} {vs : List Vr} {pr : List (ByteArray × Int)} {t : ByteArray} : t ∈ did nm vs pr ↔ (∃ (i : Nat) (x : ByteArray × ByteArray) (v : Vr), nm[i]? = some x ∧ vs[i]? = some v ∧ ((v.rd = true ∧ t = tag 114 x) ∨ (v.st = true ∧ t = tag 119 x))) ∨ ∃ d ∈ pr, t = tagP d.1 := by
  unfold did didV
  rw [List.mem_append, List.mem_flatten]
  constructor
  · rintro (⟨l, hl, ht⟩ | ht)
    · left
      obtain ⟨p, hp, rfl⟩ := List.mem_map.1 hl
      obtain ⟨i, hi, e⟩ := List.mem_iff_getElem.1 hp
      have h1 : (nm.zip vs)[i]? = some (p.1, p.2) := by rw [List.getElem?_eq_getElem hi, e]
      obtain ⟨hx, hv⟩ := List.getElem?_zip_eq_some.1 h1
      refine ⟨i, p.1, p.2, hx, hv, ?_⟩
      unfold did1 at ht
      rcases List.mem_append.1 ht with ht | ht
      · left
        by_cases hr : p.2.rd = true
        · rw [if_pos hr] at ht; exact ⟨hr, by simpa using ht⟩
        · rw [if_neg hr] at ht; simp at ht
      · right
        by_cases hr : p.2.st = true
        · rw [if_pos hr] at ht; exact ⟨hr, by simpa using ht⟩
        · rw [if_neg hr] at ht; simp at ht
    · right
      obtain ⟨d, hd, rfl⟩ := List.mem_map.1 ht
      exact ⟨d, hd, rfl⟩
  · rintro (⟨i, x, v, hx, hv, h⟩ | ⟨d, hd, rfl⟩)
    · left
      refine ⟨did1 (x, v), List.mem_map.2 ⟨(x, v), List.mem_of_getElem? (List.getElem?_zip_eq_some.2 ⟨hx, hv⟩), rfl⟩, ?_⟩
      unfold did1
      rcases h with ⟨h1, rfl⟩ | ⟨h1, rfl⟩
      · simp [h1]
      · simp [h1]
    · exact Or.inr (List.mem_map.2 ⟨d, hd, rfl⟩)
structure DidOk (nm : List (ByteArray × ByteArray)) (s : Sta) (D : List ByteArray) : Prop where
  once : D.Nodup
  mem : ∀ t, t ∈ D ↔ t ∈ did nm s.vs s.pr
theorem mod_mem {nm : List (ByteArray × ByteArray)} {vs : List Vr} {pr : List (ByteArray × Int)} {i : Nat} {x : ByteArray × ByteArray} {v : Vr} (g : Vr → Vr) (c : UInt8) (hx : nm[i]? = some x) (hv : vs[i]? = some v)
    (hg : (c = 114 ∧ (∀ u, (g u).rd = true) ∧ ∀ u, (g u).st = u.st) ∨ (c = 119 ∧ (∀ u, (g u).st = true) ∧ ∀ u, (g u).rd = u.rd)) (t : ByteArray) : t ∈ did nm (vs.modify i g) pr ↔ t ∈ did nm vs pr ∨ t = tag c x := by
  rw [did_mem, did_mem]
  have hget : ∀ j, (vs.modify i g)[j]? = if i = j then vs[j]?.map g else vs[j]? := fun j => mod_get vs i j g
  constructor
  · rintro (⟨j, y, u, hy, hu, h⟩ | h)
    · rw [hget] at hu
      by_cases e : i = j
      · subst e
        rw [hx] at hy
        cases hy
        rw [if_pos rfl, hv] at hu
        simp at hu
        subst hu
        rcases hg with ⟨rfl, h1, h2⟩ | ⟨rfl, h1, h2⟩
        · rcases h with ⟨_, rfl⟩ | ⟨h3, rfl⟩
          · exact Or.inr rfl
          · exact Or.inl (Or.inl ⟨i, x, v, hx, hv, Or.inr ⟨by rw [← h2]; exact h3, rfl⟩⟩)
        · rcases h with ⟨h3, rfl⟩ | ⟨_, rfl⟩
          · exact Or.inl (Or.inl ⟨i, x, v, hx, hv, Or.inl ⟨by rw [← h2]; exact h3, rfl⟩⟩)
          · exact Or.inr rfl
      · rw [if_neg e] at hu
        exact Or.inl (Or.inl ⟨j, y, u, hy, hu, h⟩)
    · exact Or.inl (Or.inr h)
  · rintro ((⟨j, y, u, hy, hu, h⟩ | h) | rfl)
    · by_cases e : i = j
      · subst e
        rw [hv] at hu
        cases hu
        refine Or.inl ⟨i, y, g v, hy, by rw [hget, if_pos rfl, hv]; rfl, ?_⟩
        rcases hg with ⟨_, h1, h2⟩ | ⟨_, h1, h2⟩
        · rcases h with ⟨_, rfl⟩ | ⟨h3, rfl⟩
          · exact Or.inl ⟨h1 _, rfl⟩
          · exact Or.inr ⟨by rw [h2]; exact h3, rfl⟩
        · rcases h with ⟨h3, rfl⟩ | ⟨_, rfl⟩
          · exact Or.inl ⟨by rw [h2]; exact h3, rfl⟩
          · exact Or.inr ⟨h1 _, rfl⟩
      · exact Or.inl ⟨j, y, u, hy, by rw [hget, if_neg e]; exact hu, h⟩
    · exact Or.inr h
    · refine Or.inl ⟨i, x, g v, hx, by rw [hget, if_pos rfl, hv]; rfl, ?_⟩
      rcases hg with ⟨rfl, h1, _⟩ | ⟨rfl, h1, _⟩
      · exact Or.inl ⟨h1 _, rfl⟩
      · exact Or.inr ⟨h1 _, rfl⟩
def addD (D : List ByteArray) (t : ByteArray) : List ByteArray := if 0 ≤ Lat.indexI D t then D else D ++ [t]
theorem index_mem {D : List ByteArray} {t : ByteArray} : 0 ≤ Lat.indexI D t ↔ t ∈ D := by
  unfold Lat.indexI
  cases hf : (List.range D.length).find? (Lat.isAt D t) with
  | some i =>
    obtain ⟨h1, h2⟩ := Lat.find_spec hf
    simp only
    refine ⟨fun _ => ?_, fun _ => by omega⟩
    unfold Lat.isAt at h2
    have := sameB_iff.1 (show Nm.sameB t (D.getD i ByteArray.empty) = true from h2)
    rw [this, List.getD, List.getElem?_eq_getElem h1]
    exact List.getElem_mem h1
  | none =>
    simp only
    refine ⟨fun h => by omega, fun h => ?_⟩
    obtain ⟨j, hj, e⟩ := List.mem_iff_getElem.1 h
    have := List.find?_eq_none.1 hf j (List.mem_range.2 hj)
    exact absurd (show Lat.isAt D t j = true by
      unfold Lat.isAt
      rw [List.getD, List.getElem?_eq_getElem hj]
      simp [e]) this
theorem addD_ok {D : List ByteArray} {t : ByteArray} (h : D.Nodup) : (addD D t).Nodup ∧ ∀ u, u ∈ addD D t ↔ u ∈ D ∨ u = t := by
  unfold addD
  by_cases hm : 0 ≤ Lat.indexI D t
  · rw [if_pos hm]
    exact ⟨h, fun u => ⟨Or.inl, fun hu => hu.elim id (fun e => by rw [e]; exact index_mem.1 hm)⟩⟩
  · rw [if_neg hm]
    have hn : t ∉ D := fun hx => hm (index_mem.2 hx)
    refine ⟨?_, fun u => by simp⟩
    rw [List.nodup_append]
    exact ⟨h, by simp, fun a ha b hb => by simp at hb; subst hb; exact fun e => hn (e ▸ ha)⟩
theorem DidOk.read {nm : List (ByteArray × ByteArray)} {s : Sta} {D : List ByteArray} (h : DidOk nm s D) {i : Nat} {x : ByteArray × ByteArray} {v : Vr} (hx : nm[i]? = some x) (hv : s.vs[i]? = some v) : DidOk nm { s with vs := s.vs.modify i fun v => { v with rd := true } } (addD D (tag 114 x)) :=
  ⟨(addD_ok h.once).1, fun t => by rw [(addD_ok h.once).2, h.mem]; exact (mod_mem (fun v => { v with rd := true }) 114 hx hv (Or.inl ⟨rfl, fun _ => rfl, fun _ => rfl⟩) t).symm⟩
theorem DidOk.write {nm : List (ByteArray × ByteArray)} {s : Sta} {D : List ByteArray} (h : DidOk nm s D) {i : Nat} {x : ByteArray × ByteArray} {v : Vr} (u : Int) (hx : nm[i]? = some x) (hv : s.vs[i]? = some v) : DidOk nm { s with vs := s.vs.modify i fun v => { v with val := u, st := true } } (addD D (tag 119 x)) :=
  ⟨(addD_ok h.once).1, fun t => by rw [(addD_ok h.once).2, h.mem]; exact (mod_mem (fun v => { v with val := u, st := true }) 119 hx hv (Or.inr ⟨rfl, fun _ => rfl, fun _ => rfl⟩) t).symm⟩
theorem DidOk.print {nm : List (ByteArray × ByteArray)} {s : Sta} {D : List ByteArray} (h : DidOk nm s D) (d : ByteArray × Int) : DidOk nm { s with pr := s.pr ++ [d] } (addD D (tagP d.1)) :=
  ⟨(addD_ok h.once).1, fun t => by
    rw [(addD_ok h.once).2, h.mem]
    show _ ↔ t ∈ did nm s.vs (s.pr ++ [d])
    unfold did
    rw [List.map_append, ← List.append_assoc]
    constructor
    · rintro (h1 | h1)
      · exact List.mem_append_left _ h1
      · exact List.mem_append_right _ (by simp [h1])
    · intro h1
      rcases List.mem_append.1 h1 with h1 | h1
      · exact Or.inl h1
      · exact Or.inr (by simpa using h1)⟩
theorem nodup_sub {α : Type} [DecidableEq α] : ∀ {l r : List α}, l.Nodup → (∀ x ∈ l, x ∈ r) → l.length ≤ r.length
  | [], _, _, _ => Nat.zero_le _
  | a :: l, r, hd, hs => by
    have ha := hs a (by simp)
    rw [List.nodup_cons] at hd
    have h1 := nodup_sub (l := l) (r := r.erase a) hd.2 (fun x hx => (List.mem_erase_of_ne (fun e => by subst e; exact hd.1 hx)).2 (hs x (by simp [hx])))
    rw [List.length_erase_of_mem ha] at h1
    have := List.length_pos_of_mem ha
    rw [List.length_cons]
    omega
end Rn
end Go.Proofs.YtholefgckcoklaaGreatDoor
namespace Go.Proofs.YtholefgckcoklaaGreatDoor
open Go.RowKit
theorem at_upD {w w' : World} {k : Nat} {ob : Obj} (h : w.heap[k]? = some ob) (hb : Below w.heap.size w w') : w'.heap[k]? = some ob := by rw [hb.block _ (block_lt h)]; exact h
theorem row_same {w w' : World} {n e k len : Nat} {v : Value} {xs : List Value} (h : w.ownsRow n e k v len xs) (hs : ∀ g ob, v.ownBlock = some g → w.heap[g]? = some ob → w'.heap[g]? = some ob) : w'.ownsRow n e k v len xs := by
  obtain ⟨h0, h1⟩ := h
  refine ⟨h0, ?_⟩
  rcases h1 with h1 | ⟨g, cap, cur, hv, hg, hh, r⟩
  · exact Or.inl h1
  · exact Or.inr ⟨g, cap, cur, hv, hg, hs g _ (by rw [hv]; rfl) hh, r⟩
theorem row_typ {w : World} {n e k len g : Nat} {v : Value} {xs : List Value} (h : w.ownsRow n e k v len xs) (hg : v.ownBlock = some g) : ∃ cur, w.heap[g]? = some (.cells cur e (0, 0)) := by
  rcases h.2 with ⟨rfl, _⟩ | ⟨g', cap, cur, rfl, _, hh, _⟩
  · cases hg
  · injection hg with hg
    subst hg
    exact ⟨cur, hh⟩
theorem OwnK.sameK {α : Type} {At : List Value → α → Prop} {w w' : World} {n e k : Nat} {v : Value} {l : List α} (h : OwnK At w n e k v l) (hs : ∀ g ob, v.ownBlock = some g → w.heap[g]? = some ob → w'.heap[g]? = some ob) : OwnK At w' n e k v l := by
  obtain ⟨cs, h1, h2⟩ := h
  exact ⟨cs, row_same h1 hs, h2⟩
structure Dc where
  n : Nat
  p : Nat
  cb : Nat
  vl : Value
  vc : Value
  ex : List Ce
def Dc.tot (c : Dc) (nm : List (ByteArray × ByteArray)) (s : Rn.Sta) : List Ce := Rn.sto nm s.vs ++ c.ex
structure DoM (w : World) (c : Dc) (nm : List (ByteArray × ByteArray)) (s : Rn.Sta) (vp vd : Value) (D : List ByteArray) : Prop where
  base : c.n ≤ c.p
  blk : w.heap[c.p]? = some (.cells #[c.vl, c.vc, .int .i64 0, .slice none 0 0, vp, vd, .int .i64 s.fuel] 140 (0, 0))
  pr : OwnK PrC w c.n 62 2 vp s.pr
  did : Own w c.n vd D
  cbn : c.n ≤ c.cb
  cel : ((c.tot nm s) = [] ∧ c.vc = .slice none 0 0 ∧ c.cb = c.p) ∨ ∃ cap cs, c.vc = .slice (some ⟨c.cb, 0, none⟩) (c.tot nm s).length cap ∧ w.heap[c.cb]? = some (.cells cs 59 (0, 0)) ∧
    ∀ (i : Nat) (x : Ce), (c.tot nm s)[i]? = some x → cs[i * 3]? = some (.string x.mod) ∧ cs[i * 3 + 1]? = some (.string x.name) ∧ cs[i * 3 + 2]? = some (.int .i64 x.val)
  lens : s.vs.length = nm.length
  val : ∀ v ∈ s.vs, I64 v.val
  room : s.pr.length + s.fuel ≤ 10000
  lenD : D.length ≤ 100000
  nml : nm.length + c.ex.length ≤ 1000
  nms : ∀ x ∈ nm, x.1.size ≤ 8 ∧ x.2.size ≤ 8
  dsz : ∀ t ∈ D, t.size ≤ maxLen
def hot (c : Dc) (vp vd : Value) (k : Nat) : Prop := k = c.p ∨ k = c.cb ∨ vp.ownBlock = some k ∨ vd.ownBlock = some k
structure Kq (c : Dc) (vp vd : Value) (w : World) (vp' vd' : Value) (w' : World) : Prop where
  below : Below c.n w w'
  block : ∀ k ob, w.heap[k]? = some ob → ¬ hot c vp vd k → w'.heap[k]? = some ob
  fp : ∀ k, vp'.ownBlock = some k → vp.ownBlock = some k ∨ w.heap.size ≤ k
  fd : ∀ k, vd'.ownBlock = some k → vd.ownBlock = some k ∨ w.heap.size ≤ k
section
variable {w w' w2 : World} {c : Dc} {nm : List (ByteArray × ByteArray)} {s : Rn.Sta} {vp vd vp' vd' vp2 vd2 : Value} {D : List ByteArray}
theorem Kq.refl (c : Dc) (vp vd : Value) (w : World) : Kq c vp vd w vp vd w := ⟨Below.refl _ _, fun _ _ h _ => h, fun _ h => Or.inl h, fun _ h => Or.inl h⟩
theorem Kq.cold (h : Kq c vp vd w vp' vd' w') {k : Nat} (hk : k < w.heap.size) (hn : ¬ hot c vp vd k) : ¬ hot c vp' vd' k := by
  rintro (e | e | e | e)
  · exact hn (Or.inl e)
  · exact hn (Or.inr (Or.inl e))
  · rcases h.fp k e with e | e
    · exact hn (Or.inr (Or.inr (Or.inl e)))
    · omega
  · rcases h.fd k e with e | e
    · exact hn (Or.inr (Or.inr (Or.inr e)))
    · omega
theorem Kq.trans (h : Kq c vp vd w vp' vd' w') (k : Kq c vp' vd' w' vp2 vd2 w2) : Kq c vp vd w vp2 vd2 w2 := by
  refine ⟨h.below.trans k.below, fun i ob ho hn => k.block i ob (h.block i ob ho hn) (h.cold (block_lt ho) hn), fun i hi => ?_, fun i hi => ?_⟩
  · rcases k.fp i hi with e | e
    · exact h.fp i e
    · exact Or.inr (Nat.le_trans h.below.size e)
  · rcases k.fd i hi with e | e
    · exact h.fd i e
    · exact Or.inr (Nat.le_trans h.below.size e)
theorem Kq.of_below (hb : Below w.heap.size w w') (hn : c.n ≤ w.heap.size) : Kq c vp vd w vp vd w' := ⟨hb.mono hn, fun _ _ ho _ => at_upD ho hb, fun _ h => Or.inl h, fun _ h => Or.inl h⟩
theorem DoM.nle (h : DoM w c nm s vp vd D) : c.n ≤ w.heap.size := Nat.le_trans h.base (Nat.le_of_lt (block_lt h.blk))
theorem DoM.below (h : DoM w c nm s vp vd D) (hb : Below w.heap.size w w') : DoM w' c nm s vp vd D := by
  refine ⟨h.base, at_upD h.blk hb, h.pr.below hb, own_below h.did hb, h.cbn, ?_, h.lens, h.val, h.room, h.lenD, h.nml, h.nms, h.dsz⟩
  rcases h.cel with ⟨h1, h2, h3⟩ | ⟨cap, cs, h1, h2, h3⟩
  · exact Or.inl ⟨h1, h2, h3⟩
  · exact Or.inr ⟨cap, cs, h1, at_upD h2 hb, h3⟩
theorem DoM.cell (h : DoM w c nm s vp vd D) : w.cell? ⟨c.p, 0, none⟩ = some c.vl ∧ w.cell? ⟨c.p, 1, none⟩ = some c.vc ∧ w.cell? ⟨c.p, 4, none⟩ = some vp ∧ w.cell? ⟨c.p, 5, none⟩ = some vd ∧ w.cell? ⟨c.p, 6, none⟩ = some (.int .i64 s.fuel) ∧
    w.frozen? ⟨c.p, 4, none⟩ = false ∧ w.frozen? ⟨c.p, 5, none⟩ = false ∧ w.frozen? ⟨c.p, 6, none⟩ = false :=
  ⟨(block_at h.blk 0).trans rfl, (block_at h.blk 1).trans rfl, (block_at h.blk 4).trans rfl, (block_at h.blk 5).trans rfl, (block_at h.blk 6).trans rfl, block_free h.blk 4, block_free h.blk 5, block_free h.blk 6⟩
theorem DoM.ce (h : DoM w c nm s vp vd D) {i : Nat} {x : Ce} (hx : (c.tot nm s)[i]? = some x) : ∃ cap, c.vc = .slice (some ⟨c.cb, 0, none⟩) (c.tot nm s).length cap ∧ w.cell? ⟨c.cb, i * 3, none⟩ = some (.string x.mod) ∧ w.cell? ⟨c.cb, i * 3 + 1, none⟩ = some (.string x.name) ∧ w.cell? ⟨c.cb, i * 3 + 2, none⟩ = some (.int .i64 x.val) ∧ w.frozen? ⟨c.cb, i * 3 + 2, none⟩ = false := by
  rcases h.cel with ⟨h1, _, _⟩ | ⟨cap, cs, h1, h2, h3⟩
  · rw [h1] at hx; simp at hx
  · obtain ⟨g0, g1, g2⟩ := h3 i x hx
    exact ⟨cap, h1, (block_at h2 _).trans g0, (block_at h2 _).trans g1, (block_at h2 _).trans g2, block_free h2 _⟩
theorem DoM.vcs (h : DoM w c nm s vp vd D) : ∃ a cap, c.vc = .slice a (c.tot nm s).length cap := by
  rcases h.cel with ⟨h1, h2, _⟩ | ⟨cap, cs, h1, _⟩
  · exact ⟨none, 0, by rw [h2, h1]; rfl⟩
  · exact ⟨_, cap, h1⟩
theorem tot_len (h : DoM w c nm s vp vd D) : (c.tot nm s).length ≤ 1000 := by
  have h1 := h.lens
  have h2 := h.nml
  unfold Dc.tot Rn.sto
  rw [List.length_append, List.length_map, List.length_zip]
  omega
theorem DoM.pp (h : DoM w c nm s vp vd D) : vp.ownBlock ≠ some c.p := h.pr.apart h.blk (by decide)
theorem DoM.pd (h : DoM w c nm s vp vd D) : vd.ownBlock ≠ some c.p := fun e => by
  obtain ⟨cur, h1⟩ := row_typ h.did e
  rw [h.blk] at h1
  injection h1 with h1
  injection h1 with _ h1
  exact absurd h1 (by decide)
theorem DoM.turn (h : DoM w c nm s vp vd D) (hb : ∀ k ob, w.heap[k]? = some ob → k ≠ c.p → w'.heap[k]? = some ob) {s' : Rn.Sta} {f : Nat} (hs : s' = { s with fuel := f }) (hf : f ≤ s.fuel)
    (hp : w'.heap[c.p]? = some (.cells #[c.vl, c.vc, .int .i64 0, .slice none 0 0, vp, vd, .int .i64 f] 140 (0, 0))) : DoM w' c nm s' vp vd D := by
  subst hs
  refine ⟨h.base, hp, h.pr.sameK (fun g ob hg ho => hb g ob ho (fun e => h.pp (by rw [hg, e]))), row_same h.did (fun g ob hg ho => hb g ob ho (fun e => h.pd (by rw [hg, e]))), h.cbn, ?_, h.lens, h.val, by have := h.room; show s.pr.length + f ≤ 10000; omega, h.lenD, h.nml, h.nms, h.dsz⟩
  rcases h.cel with ⟨h1, h2, h3⟩ | ⟨cap, cs, h1, h2, h3⟩
  · exact Or.inl ⟨h1, h2, h3⟩
  · refine Or.inr ⟨cap, cs, h1, hb _ _ h2 (fun e => ?_), h3⟩
    rw [e, h.blk] at h2
    injection h2 with h2
    injection h2 with _ h2
    exact absurd h2 (by decide)
theorem DoM.fuel (h : DoM w c nm s vp vd D) {f : Nat} (hf : f ≤ s.fuel) : DoM (w.setCell ⟨c.p, 6, none⟩ (.int .i64 (f : Nat))) c nm { s with fuel := f } vp vd D ∧ Kq c vp vd w vp vd (w.setCell ⟨c.p, 6, none⟩ (.int .i64 (f : Nat))) :=
  ⟨h.turn (fun _ _ ho hk => block_other ho hk _) rfl hf (block_set h.blk 6 _), ⟨(Below.refl _ _).setCell h.base _, fun _ _ ho hn => block_other ho (fun e => hn (Or.inl e)) _, fun _ h => Or.inl h, fun _ h => Or.inl h⟩⟩
end
theorem Own.formD {w : World} {B : Nat} {v : Value} {l : List ByteArray} (h : Own w B v l) : ∃ a c, v = .slice a l.length c := by
  rcases h.shape with ⟨rfl, rfl⟩ | ⟨g, cap, rfl, _⟩
  · exact ⟨none, 0, rfl⟩
  · exact ⟨_, _, rfl⟩
theorem cell_str1 (w : World) (z : ByteArray) : (w.alloc (.cells #[.string z] 9)).cell? ⟨w.heap.size, 0, none⟩ = some (.string z) := by simp [go_sem]
theorem wpList_append_strL {w : World} {ops : Array Oper} {rest : List Oper} {o : Oper} {a : Act} {Q : Exit → Act → World → Prop} (hgd : o.guard = none) (s x : Operand)
    (ho : o.op = .call { callee := .builtin .append, args := #[s, x], argTypes := #[22, 22] })
    (base : Nat) (v : Value) (l : List ByteArray) (hs : a.eval s = v) (hown : Own w base v l) (B : Nat) (t : ByteArray) (hx : a.eval x = .slice (some ⟨B, 0, none⟩) 1 1)
    (hc : w.cell? ⟨B, 0, none⟩ = some (.string t)) (hl : l.length ≤ 1048576) (hbase : base ≤ w.heap.size)
    (h : ∀ g cap w', Own w' base (.slice (some ⟨g, 0, none⟩) (l.length + 1) cap) (l ++ [t]) → w.grownBy w' v.ownBlock → (v.ownBlock = some g ∨ g = w.heap.size) → wpList Tryz.prog ops Q rest (a.put o.dst (.slice (some ⟨g, 0, none⟩) (l.length + 1) cap)) w') : wpList Tryz.prog ops Q (o :: rest) a w := by
  obtain ⟨iS, hiS, hz0, hz1, hz2⟩ := info_parts infoStr
  have hown' : w.ownsRow base 9 1 v l.length (l.map Value.string) := hown
  refine wpList_append_lies w hgd s x 22 ho base 9 iS (.string ⟨#[]⟩) 1 16 Tryz.underlying22 hiS hz0 hz1 hz2 rfl (by decide) v l.length (l.map Value.string) hs hown' ⟨B, 0, none⟩ 1 1 [.string t] hx rfl (fun j u hu => ?_) (fun u hu => ?_) (by decide) (by unfold maxLen; omega)
    (Nat.le_trans (Nat.mul_le_mul_right 16 (show l.length + 1 ≤ 1048577 by omega)) (by decide)) hbase w.heap.size rfl ?_
  · cases j with
    | zero =>
      simp at hu
      subst hu
      rw [Addr.add_lit]; exact hc
    | succ j => simp at hu
  · simp at hu
    subst hu
    rfl
  · intro g cap w' h1 h2 h3 _
    refine h g cap w' ?_ h2 h3
    unfold Own
    rw [List.length_append, List.map_append]
    exact h1
theorem DoM.didPut {w w7 : World} {c : Dc} {nm : List (ByteArray × ByteArray)} {s : Rn.Sta} {vp vd v7 : Value} {D : List ByteArray} {t : ByteArray} {o : Obj} (h : DoM w c nm s vp vd D) (hown : Own w7 c.n v7 (D ++ [t])) (hg : (w.alloc o).grownBy w7 vd.ownBlock) (hl : ∀ k, v7.ownBlock = some k → vd.ownBlock = some k ∨ w.heap.size ≤ k) (ht : t.size ≤ maxLen) (hD : D.length < 100000) :
    w7.heap[c.p]? = some (.cells #[c.vl, c.vc, .int .i64 0, .slice none 0 0, vp, vd, .int .i64 s.fuel] 140 (0, 0)) ∧ DoM (w7.setCell ⟨c.p, 5, none⟩ v7) c nm s vp v7 (D ++ [t]) ∧ Kq c vp vd w vp v7 (w7.setCell ⟨c.p, 5, none⟩ v7) := by
  have keep : ∀ k ob, w.heap[k]? = some ob → vd.ownBlock ≠ some k → w7.heap[k]? = some ob := fun k ob ho hk => by
    rw [hg.block k (by have := block_lt ho; have := (boxBelow w o).size; omega) (fun e => hk e.symm)]
    exact block_alloc ho o
  have hp7 := keep c.p _ h.blk h.pd
  have hv7 : v7.ownBlock ≠ some c.p := fun e => by
    obtain ⟨cur, h1⟩ := row_typ hown e
    rw [hp7] at h1
    injection h1 with h1
    injection h1 with _ h1
    exact absurd h1 (by decide)
  have hdv : ∀ g, vp.ownBlock = some g → vd.ownBlock ≠ some g := fun g hg' e => by
    obtain ⟨c1, h1⟩ := h.pr.typ hg'
    obtain ⟨c2, h2⟩ := row_typ h.did e
    rw [h1] at h2
    injection h2 with h2
    injection h2 with _ h2
    exact absurd h2 (by decide)
  refine ⟨hp7, ⟨h.base, (block_set hp7 5 _).trans rfl, h.pr.sameK (fun g ob hg' ho => block_other (keep g ob ho (hdv g hg')) (fun e => h.pp (by rw [hg']; exact congrArg some e)) _), row_same hown (fun g ob hg' ho => block_other ho (fun e => hv7 (by rw [hg']; exact congrArg some e)) _), h.cbn, ?_, h.lens, h.val, h.room, by rw [List.length_append]; simp; omega, h.nml, h.nms, fun u hu => ?_⟩,
    ⟨((Below.refl c.n w).alloc h.nle o |>.grown hg (Nat.le_trans h.nle (boxBelow w o).size) (fun k hk => (World.ownsRow.lt h.did k hk).1)).setCell h.base _, fun k ob ho hn => block_other (keep k ob ho (fun e => hn (Or.inr (Or.inr (Or.inr e))))) (fun e => hn (Or.inl e)) _, fun _ h => Or.inl h, hl⟩⟩
  · rcases h.cel with ⟨h1, h2, h3⟩ | ⟨cap, cs, h1, h2, h3⟩
    · exact Or.inl ⟨h1, h2, h3⟩
    · refine Or.inr ⟨cap, cs, h1, block_other (keep _ _ h2 (fun e => ?_)) (fun e => ?_) _, h3⟩
      · obtain ⟨c2, h4⟩ := row_typ h.did e
        rw [h2] at h4
        injection h4 with h4
        injection h4 with _ h4
        exact absurd h4 (by decide)
      · have e' : c.cb = c.p := e
        rw [e', h.blk] at h2
        injection h2 with h2
        injection h2 with _ h2
        exact absurd h2 (by decide)
  · rcases List.mem_append.1 hu with hu | hu
    · exact h.dsz u hu
    · simp at hu; subst hu; exact ht
set_option maxHeartbeats 2000000 in
set_option maxRecDepth 100000 in
theorem ddid_any (w : World) (c : Dc) (nm : List (ByteArray × ByteArray)) (s : Rn.Sta) (vp vd : Value) (D : List ByteArray) (t : ByteArray) (h : DoM w c nm s vp vd D) (ht : t.size ≤ maxLen) (hD : D.length < 100000) :
    Calls Tryz.prog 208 #[.pointer (some ⟨c.p, 0, none⟩), .string t] w fun e w' => e = .returned (.tuple #[]) ∧ ∃ vd', DoM w' c nm s vp vd' (Rn.addD D t) ∧ Kq c vp vd w vp vd' w' := by
  have HM := hide h
  have HT := hide ht
  have HD : Hid (D.length < 100000) := hide hD
  obtain ⟨c0, c1, c4, c5, c6, z4, z5, z6⟩ := h.cell
  have HC := hide (containsS_any w vd D t (h.did.strs h.dsz (by omega)))
  have HIX : Hid (∀ b, b = decide (0 ≤ Lat.indexI D t) → Rn.addD D t = if b = true then D else D ++ [t]) := hide (fun b e => by unfold Rn.addD; rw [e]; simp)
  obtain ⟨b, hb⟩ : ∃ b, b = decide (0 ≤ Lat.indexI D t) := ⟨_, rfl⟩
  have HBE := hide hb
  rw [← hb] at HC
  obtain ⟨va, vc', hvd⟩ := h.did.formD
  clear h ht hb hD
  subst hvd
  obtain ⟨nd, hnd⟩ : ∃ n, n = D.length := ⟨_, rfl⟩
  have HND := hide hnd
  rw [← hnd] at HM HC c5 HD ⊢
  clear hnd
  cases b
  · have k5 : ∀ o, (w.alloc o).cell? ⟨c.p, 5, none⟩ = some (.slice va nd vc') := fun o => cellUp c5 (boxBelow w o)
    go_enter Tryz.func208, Tryz.ntmps208
    go_wp2_with fail
    refine HC.out.mono ?_
    rintro e w1 ⟨rfl, rfl⟩
    clear c5
    have c5 := (block_at HM.out.blk 5).trans rfl
    go_wp2_with (first
      | (at_builtin; refine wpList_append_strL rfl _ _ rfl c.n (.slice va nd vc') D rfl (own_below HM.out.did (boxBelow _ _)) _ t rfl (cell_str1 _ _) (by have := HD.out; have := HND.out; omega) (Nat.le_trans HM.out.nle (boxBelow _ _).size) ?_; intro g7 cap7 w7 hown7 hgrow7 hlie7; have HPU := hide (HM.out.didPut hown7 hgrow7 (fun k hk => by injection hk with hk; subst hk; rcases hlie7 with e | e; exact Or.inl e; exact Or.inr (by rw [e]; exact (boxBelow _ _).size)) HT.out (by have := HD.out; have := HND.out; omega)); have p5 := (block_at HPU.out.1 5).trans rfl; have y5 := block_free HPU.out.1 5; clear hown7 hgrow7 hlie7)
      | fail)
    go_end0
    exact ⟨rfl, _, by rw [HIX.out _ HBE.out]; exact HPU.out.2.1, HPU.out.2.2⟩
  · go_enter Tryz.func208, Tryz.ntmps208
    go_wp2_with fail
    refine HC.out.mono ?_
    rintro e w1 ⟨rfl, rfl⟩
    go_wp2_with fail
    go_end0
    exact ⟨rfl, _, by rw [HIX.out _ HBE.out, if_pos rfl]; exact HM.out, Kq.refl _ _ _ _⟩
end Go.Proofs.YtholefgckcoklaaGreatDoor
namespace Go.Proofs.YtholefgckcoklaaGreatDoor
open Go.RowKit
theorem Calls.gn_of' {P : Program} {f : FuncId} {args : Array Value} {w : World} {n : Nat} {os : Array Obj} {v : Value}
    (h : Calls P f args (gn w n os) fun e w' => e = .returned v ∧ w' = gn w n os) : Calls P f args (gn w n os) fun e w'' => e = .returned v ∧ ∃ p : GrownBy, w'' = gn w p.n p.os :=
  h.mono fun _ _ ⟨he, hb⟩ => ⟨he, ⟨⟨n, os⟩, hb⟩⟩
namespace Rn
def hasB (x : Mo) (n : ByteArray) : Bool := x.vars.any fun v => Nm.sameB v.name n
def mineB (x : Mo) (f : Nat) (n : ByteArray) : Bool := decide (0 ≤ Lat.indexI ((x.funs[f]?.map (·.params)).getD []) n) || !(hasB x n)
end Rn
set_option maxHeartbeats 2000000 in
set_option maxRecDepth 100000 in
theorem dcell_any (w : World) (c : Dc) (nm : List (ByteArray × ByteArray)) (s : Rn.Sta) (vp vd : Value) (D : List ByteArray) (x y : ByteArray) (h : DoM w c nm s vp vd D) :
    Calls Tryz.prog 68 #[.pointer (some ⟨c.p, 0, none⟩), .string x, .string y] w fun e w' => e = .returned (.int .i64 (Nm.oI (Rn.ceAt (c.tot nm s) x y))) ∧ w' = w := by
  obtain ⟨c0, c1, c4, c5, c6, z4, z5, z6⟩ := h.cell
  have HCE := hide (fun (i : Nat) (z : Ce) hz => h.ce (i := i) (x := z) hz)
  have hlen := tot_len h
  obtain ⟨va, vcap, hvc⟩ := h.vcs
  obtain ⟨T, hT⟩ : ∃ T, T = c.tot nm s := ⟨_, rfl⟩
  rw [← hT] at HCE hlen hvc ⊢
  obtain ⟨len, hl⟩ : ∃ n, n = T.length := ⟨_, rfl⟩
  have HLn := hide hl
  rw [← hl] at hlen hvc HCE
  obtain ⟨R, hR⟩ : ∃ R, R = Nm.oI (Rn.ceAt T x y) := ⟨_, rfl⟩
  have HR := hide hR
  rw [← hR]
  rw [hvc] at c1 HCE
  clear h hT hl hR c0 c4 c5 c6 z4 z5 z6
  go_enter Tryz.func68, Tryz.ntmps68
  go_wp2_with fail
  go_loop [7] (fun i => ∃ k : Nat, k ≤ len ∧ i = .int .i64 k ∧ ∀ d g, d < k → T[d]? = some g → Rn.isC x y g = false) (fun i => len - (intOf i).toNat)
  case atStart => exact ⟨0, Nat.zero_le _, rfl, fun d g hd => absurd hd (Nat.not_lt_zero _)⟩
  case round =>
    obtain ⟨k, hk, rfl, hall⟩ := hrel
    have HA := hide hall
    clear hall
    by_cases hlt : k < len
    · obtain ⟨z, hz⟩ : ∃ z, T[k]? = some z := ⟨_, List.getElem?_eq_getElem (by rw [← HLn.out]; exact hlt)⟩
      have HZ := hide hz
      obtain ⟨cap', e, g0, g1, g2, -⟩ := HCE.out k z hz
      injection e with e1 e2 e3
      subst e1
      have HQ : Hid (Rn.isC x y z = ((z.mod.toList == x.toList) && (z.name.toList == y.toList))) := rfl
      clear hz e2 e3
      cases h1 : (z.mod.toList == x.toList)
      · rw [h1, Bool.false_and] at HQ
        go_wp2_with fail
        go_round
        case rel => exact ⟨k + 1, by omega, by go_num, fun d g hd hg => by
            by_cases e : d = k
            · subst e; rw [HZ.out] at hg; cases hg; exact HQ.out
            · exact HA.out d g (by omega) hg⟩
        case measure => simp [intOf]; omega
      · rw [h1, Bool.true_and] at HQ
        cases h2 : (z.name.toList == y.toList)
        · rw [h2] at HQ
          go_wp2_with fail
          go_round
          case rel => exact ⟨k + 1, by omega, by go_num, fun d g hd hg => by
              by_cases e : d = k
              · subst e; rw [HZ.out] at hg; cases hg; exact HQ.out
              · exact HA.out d g (by omega) hg⟩
          case measure => simp [intOf]; omega
        · rw [h2] at HQ
          go_wp2_with fail
          go_ret
          exact ⟨ret_int (by rw [HR.out, Rn.ceAt_hit HZ.out HQ.out HA.out]; rfl), rfl⟩
    · go_wp2_with fail
      go_ret
      exact ⟨ret_int (by rw [HR.out, Rn.ceAt_none fun d g hg => HA.out d g (by have := (List.getElem?_eq_some_iff.1 hg).1; have := HLn.out; omega) hg]; rfl), rfl⟩
set_option maxHeartbeats 2000000 in
set_option maxRecDepth 100000 in
theorem dhas_any (w : World) (m : Nat) (vi vv vf : Value) (x : Mo) (n : ByteArray) (h : MoAt w m (.agg #[.string x.name, vi, vv, vf]) x) :
    Calls Tryz.prog 266 #[.agg #[.string x.name, vi, vv, vf], .string n] w fun e w' => e = .returned (.bool (Rn.hasB x n)) ∧ Below w.heap.size w w' := by
  have hb := boxBelow w (.cells #[.string x.name, vi, vv, vf] 26)
  have HB := hide hb
  obtain ⟨vi', vv', vf', he, hs, -, hva, -⟩ := h.below hb
  injection he with he
  simp only [Array.mk.injEq, List.cons.injEq, and_true, true_and] at he
  obtain ⟨rfl, rfl, rfl⟩ := he
  have q2 : (w.alloc (.cells #[.string x.name, vi, vv, vf] 26)).cell? ⟨w.heap.size, 2, none⟩ = some vv := (block_at (block_new w _) 2).trans rfl
  obtain ⟨a, b, off, cap, rfl, h0, hl, hel⟩ := hva
  obtain ⟨vs, hvs⟩ : ∃ vs, vs = x.vars := ⟨_, rfl⟩
  obtain ⟨R, hR⟩ : ∃ R, R = Rn.hasB x n := ⟨_, rfl⟩
  have HR : Hid (R = vs.any fun v => Nm.sameB v.name n) := hide (by rw [hR, hvs]; rfl)
  rw [← hR]
  rw [← hvs] at h0 hl hel q2 HB ⊢
  obtain ⟨len, hlen⟩ : ∃ n, n = vs.length := ⟨_, rfl⟩
  have HLn := hide hlen
  rw [← hlen] at h0 hl hel q2 HB ⊢
  have HEL := hide hel
  have HA0 := hide h0
  clear h hb hR hvs hlen hel h0 hs
  obtain ⟨xn, hxn⟩ : ∃ z, z = x.name := ⟨_, rfl⟩
  rw [← hxn] at q2 HB HEL ⊢
  clear hxn
  go_enter Tryz.func266, Tryz.ntmps266
  go_wp2_with fail
  generalize w.alloc (.cells #[.string xn, vi, .slice a len cap, vf] 26) = W at *
  go_loop [5] (fun i => ∃ k : Nat, k ≤ len ∧ i = .int .i64 k ∧ ∀ d g, d < k → vs[d]? = some g → Nm.sameB g.name n = false) (fun i => len - (intOf i).toNat)
  case atStart => exact ⟨0, Nat.zero_le _, rfl, fun d g hd => absurd hd (Nat.not_lt_zero _)⟩
  case round =>
    obtain ⟨k, hk, rfl, hall⟩ := hrel
    have HA := hide hall
    clear hall
    by_cases hlt : k < len
    · obtain ⟨z, hz⟩ : ∃ z, vs[k]? = some z := ⟨_, List.getElem?_eq_getElem (by rw [← HLn.out]; exact hlt)⟩
      have HZ := hide hz
      obtain ⟨-, -, g0, -⟩ := HEL.out k z hz
      obtain rfl := HA0.out (by omega)
      have HQ : Hid (Nm.sameB z.name n = (z.name.toList == n.toList)) := rfl
      clear hz
      cases h1 : (z.name.toList == n.toList)
      · rw [h1] at HQ
        go_wp2_with fail
        go_round
        case rel => exact ⟨k + 1, by omega, by go_num, fun d g hd hg => by
            by_cases e : d = k
            · subst e; rw [HZ.out] at hg; cases hg; exact HQ.out
            · exact HA.out d g (by omega) hg⟩
        case measure => simp [intOf]; omega
      · rw [h1] at HQ
        go_wp2_with fail
        go_ret
        exact ⟨ret_bool (by rw [HR.out, List.any_eq_true.2 ⟨z, List.mem_of_getElem? HZ.out, HQ.out⟩]), HB.out⟩
    · go_wp2_with fail
      go_ret
      exact ⟨ret_bool (by
        rw [HR.out, List.any_eq_false.2 fun g hg => by
          obtain ⟨d, hd, e⟩ := List.mem_iff_getElem.1 hg
          rw [HA.out d g (by have := HLn.out; omega) (by rw [List.getElem?_eq_getElem hd, e])]
          simp]), HB.out⟩
structure OnAt (W w : World) (c : Dc) (m : Nat) (x : Mo) (q f : Nat) (ns : List ByteArray) (vals : List Int) (vns vvs : Value) : Prop where
  qn : c.n ≤ q
  blk : ∃ vi vv vf, w.heap[q]? = some (.cells #[.string x.name, vi, vv, vf, .int .i64 f, vns, vvs] 243 (0, 0)) ∧ MoAt W m (.agg #[.string x.name, vi, vv, vf]) x
  nrow : Own w c.n vns ns
  vrow : OwnI w c.n vvs vals
  len : ns.length = vals.length
  nsz : ∀ n ∈ ns, n.size ≤ maxLen
  v64 : ∀ v ∈ vals, I64 v
section
variable {W w w' : World} {c : Dc} {m : Nat} {x : Mo} {q f : Nat} {ns : List ByteArray} {vals : List Int} {vns vvs vp vd vp' vd' : Value} {nm : List (ByteArray × ByteArray)} {s : Rn.Sta} {D : List ByteArray}
theorem OnAt.below (h : OnAt W w c m x q f ns vals vns vvs) (hb : Below w.heap.size w w') : OnAt W w' c m x q f ns vals vns vvs := by
  obtain ⟨vi, vv, vf, h1, h2⟩ := h.blk
  exact ⟨h.qn, ⟨vi, vv, vf, at_upD h1 hb, h2⟩, own_below h.nrow hb, own_below h.vrow hb, h.len, h.nsz, h.v64⟩
theorem block_ne {w : World} {k j : Nat} {cs ds : Array Value} {t u : TypeId} {f g : Nat × Nat} (h : w.heap[k]? = some (.cells cs t f)) (h' : w.heap[j]? = some (.cells ds u g)) (hne : t ≠ u) : k ≠ j := fun e => by
  rw [e, h'] at h
  injection h with h
  injection h with _ h
  exact hne h.symm
theorem DoM.cold (h : DoM w c nm s vp vd D) {k : Nat} {cs : Array Value} {t : TypeId} {fz : Nat × Nat} (hk : w.heap[k]? = some (.cells cs t fz)) (h1 : t ≠ 140) (h2 : t ≠ 59) (h3 : t ≠ 62) (h4 : t ≠ 9) : ¬ hot c vp vd k := by
  rintro (e | e | e | e)
  · exact block_ne hk h.blk h1 e
  · rcases h.cel with ⟨_, _, e2⟩ | ⟨cap, cs2, _, hc, _⟩
    · exact block_ne hk h.blk h1 (e.trans e2)
    · exact block_ne hk hc h2 e
  · obtain ⟨cur, hc⟩ := h.pr.typ e
    exact block_ne hk hc h3 rfl
  · obtain ⟨cur, hc⟩ := row_typ h.did e
    exact block_ne hk hc h4 rfl
theorem DoM.coldS (h : DoM w c nm s vp vd D) {k : Nat} {cs : Array Value} {fz : Nat × Nat} (hk : w.heap[k]? = some (.cells cs 9 fz)) (hd : vd.ownBlock ≠ some k) : ¬ hot c vp vd k := by
  rintro (e | e | e | e)
  · exact block_ne hk h.blk (by decide) e
  · rcases h.cel with ⟨_, _, e2⟩ | ⟨cap, cs2, _, hc, _⟩
    · exact block_ne hk h.blk (by decide) (e.trans e2)
    · exact block_ne hk hc (by decide) e
  · obtain ⟨cur, hc⟩ := h.pr.typ e
    exact block_ne hk hc (by decide) rfl
  · exact hd e
def Sep (vns vd : Value) : Prop := ∀ k, vns.ownBlock = some k → vd.ownBlock ≠ some k
theorem OnAt.keep (h : OnAt W w c m x q f ns vals vns vvs) (hm : DoM w c nm s vp vd D) (hs : Sep vns vd) (hk : Kq c vp vd w vp' vd' w') : OnAt W w' c m x q f ns vals vns vvs ∧ Sep vns vd' := by
  obtain ⟨vi, vv, vf, h1, h2⟩ := h.blk
  refine ⟨⟨h.qn, ⟨vi, vv, vf, hk.block _ _ h1 (hm.cold h1 (by decide) (by decide) (by decide) (by decide)), h2⟩, row_same h.nrow (fun g ob hg ho => ?_), row_same h.vrow (fun g ob hg ho => ?_), h.len, h.nsz, h.v64⟩, fun k hk1 hk2 => ?_⟩
  · obtain ⟨cur, hc⟩ := row_typ h.nrow hg
    exact hk.block _ _ ho (hm.coldS hc (hs g hg))
  · obtain ⟨cur, hc⟩ := row_typ h.vrow hg
    exact hk.block _ _ ho (hm.cold hc (by decide) (by decide) (by decide) (by decide))
  · obtain ⟨cur, hc⟩ := row_typ h.nrow hk1
    rcases hk.fd k hk2 with e | e
    · exact hs k hk1 e
    · have := block_lt hc; omega
end
set_option maxHeartbeats 4000000 in
set_option maxRecDepth 100000 in
theorem dmine_any (W w : World) (c : Dc) (m : Nat) (x : Mo) (q f : Nat) (ns : List ByteArray) (vals : List Int) (vns vvs : Value) (n : ByteArray) (h : OnAt W w c m x q f ns vals vns vvs) (hb : Below W.heap.size W w) (hf : f < x.funs.length) (hl : ns.length ≤ 9223372036854775807) :
    Calls Tryz.prog 207 #[.pointer (some ⟨q, 0, none⟩), .string n] w fun e w' => e = .returned (.tuple #[.int .i64 (Rn.lastTo ns n ns.length), .bool (Rn.mineB x f n)]) ∧ Below w.heap.size w w' := by
  obtain ⟨vi, vv, vf, hblk, hmo⟩ := h.blk
  have HMO := hide (hmo.below hb)
  obtain ⟨vi', vv', vf', he, hs, -, -, hfu⟩ := hmo.below hb
  injection he with he
  simp only [Array.mk.injEq, List.cons.injEq, and_true, true_and] at he
  obtain ⟨rfl, rfl, rfl⟩ := he
  obtain ⟨fa, fb, fo, fc, rfl, hfa, hfl, hfe⟩ := hfu
  obtain ⟨fu, hfu⟩ : ∃ fu, x.funs[f]? = some fu := ⟨_, List.getElem?_eq_getElem hf⟩
  obtain ⟨-, vpar, vb, e0, e1, e2, e3, -, g1, -, -, -, -, -, hpar, -, -⟩ := hfe f fu hfu
  have HPAR := hide (fun k os => containsS_any (gn w k os) vpar fu.params n (hpar.below (below_gn w k os)))
  obtain ⟨pa, pb, po, pc, rfl, -⟩ := hpar
  have HHAS := hide (fun k os => dhas_any (gn w k os) m vi vv _ x n (HMO.out.below (below_gn w k os)))
  obtain ⟨b1, hb1⟩ : ∃ b, b = decide (0 ≤ Lat.indexI fu.params n) := ⟨_, rfl⟩
  obtain ⟨b2, hb2⟩ : ∃ b, b = Rn.hasB x n := ⟨_, rfl⟩
  have HMB : Hid (Rn.mineB x f n = (b1 || !b2)) := hide (by unfold Rn.mineB; rw [hfu, hb1, hb2]; rfl)
  rw [← hb1] at HPAR
  rw [← hb2] at HHAS
  obtain ⟨R, hR⟩ : ∃ R, R = Rn.mineB x f n := ⟨_, rfl⟩
  rw [← hR] at HMB ⊢
  have hST := h.nrow.strs h.nsz hl
  obtain ⟨na, nb, no, nc, hvns, hna, -, -, hne⟩ := hST
  obtain ⟨va2, vc2, hvvs⟩ : ∃ a cc, vvs = .slice a vals.length cc := by
    rcases h.vrow.2 with ⟨e, e2⟩ | ⟨g, cap, cur, e, _⟩
    · exact ⟨none, 0, by rw [e, e2]⟩
    · exact ⟨_, _, e⟩
  subst hvns hvvs
  have HNA := hide hna
  have HNE := hide hne
  obtain ⟨len, hlen⟩ : ∃ n, n = ns.length := ⟨_, rfl⟩
  have HLn := hide hlen
  rw [← hlen] at hl HNA hblk ⊢
  obtain ⟨nf, hnf⟩ : ∃ n, n = x.funs.length := ⟨_, rfl⟩
  rw [← hnf] at hf hfa hfl hblk HHAS
  obtain rfl := hfa (by omega)
  have q3 := (block_at hblk 3).trans rfl
  have q4 := (block_at hblk 4).trans rfl
  have q5 := (block_at hblk 5).trans rfl
  have q0 := (block_at hblk 0).trans rfl
  have q1 := (block_at hblk 1).trans rfl
  have q2 := (block_at hblk 2).trans rfl
  have hff : (f : Int) < (nf : Int) := by omega
  obtain ⟨xn, hxn⟩ : ∃ z, z = x.name := ⟨_, rfl⟩
  rw [← hxn] at q0 HHAS
  clear h hmo hs hfe hfu hb1 hb2 hR hna hne hlen hnf hblk hxn hfa HMO
  go_enter Tryz.func207, Tryz.ntmps207
  go_wp2_with fail
  go_loop [6, 7] (fun a i => ∃ k : Nat, k ≤ len ∧ i = .int .i64 k ∧ a = .int .i64 (Rn.lastTo ns n k)) (fun _ i => len - (intOf i).toNat)
  case atStart => exact ⟨0, Nat.zero_le _, rfl, rfl⟩
  case round =>
    obtain ⟨k, hk, rfl, rfl⟩ := hrel
    by_cases hlt : k < len
    · obtain ⟨z, hz⟩ : ∃ z, ns[k]? = some z := ⟨_, List.getElem?_eq_getElem (by rw [← HLn.out]; exact hlt)⟩
      have HZ := hide hz
      have g := HNE.out k (by rw [← HLn.out]; exact hlt)
      rw [List.getD, hz, Option.getD_some] at g
      obtain rfl := HNA.out (by omega)
      clear hz
      cases h1 : (z.toList == n.toList)
      · have HL : Hid (Rn.lastTo ns n (k + 1) = Rn.lastTo ns n k) := hide (Rn.lastTo_no HZ.out h1)
        go_wp2_with fail
        go_round
        case rel => exact ⟨k + 1, by omega, by go_num, by rw [HL.out]⟩
        case measure => simp [intOf]; omega
      · have HL : Hid (Rn.lastTo ns n (k + 1) = k) := hide (Rn.lastTo_yes HZ.out h1)
        go_wp2_with fail
        go_round
        case rel => exact ⟨k + 1, by omega, by go_num, by rw [HL.out]⟩
        case measure => simp [intOf]; omega
    · obtain rfl : k = len := by omega
      replace q0 := cell_gn q0
      replace q1 := cell_gn q1
      replace q2 := cell_gn q2
      replace q3 := cell_gn q3
      replace q4 := cell_gn q4
      replace g1 := cell_gn g1
      go_wp2_with fail
      cases b1
      · refine wp_region_quiet_gn (by kernel_rfl) (by kernel_rfl) ?_
        repeat (quiet_step (first | (exact Calls.gn_of' (HPAR.out _ _)) | (exact Calls.gn_of (HHAS.out _ _))))
        refine wpQuiet_nil ?_
        intro w6 hw'
        obtain ⟨⟨nq, osq⟩, hw''⟩ := hw'
        have HB6 := hide (show Below w.heap.size w w6 by rw [hw'']; exact below_gn w nq osq)
        clear hw''
        go_wp2_with fail
        go_ret2
        exact ⟨by rw [HMB.out]; rfl, HB6.out⟩
      · refine wp_region_quiet_gn (by kernel_rfl) (by kernel_rfl) ?_
        repeat (quiet_step (first | (exact Calls.gn_of' (HPAR.out _ _)) | (exact Calls.gn_of (HHAS.out _ _))))
        refine wpQuiet_nil ?_
        intro w6 hw'
        obtain ⟨⟨nq, osq⟩, hw''⟩ := hw'
        have HB6 := hide (show Below w.heap.size w w6 by rw [hw'']; exact below_gn w nq osq)
        clear hw''
        go_wp2_with fail
        go_ret2
        exact ⟨by rw [HMB.out]; rfl, HB6.out⟩
end Go.Proofs.YtholefgckcoklaaGreatDoor
