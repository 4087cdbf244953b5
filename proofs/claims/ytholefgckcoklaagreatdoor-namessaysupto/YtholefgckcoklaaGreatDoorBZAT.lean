/- Rows of a call's own, of k cells an element: append of what lies in memory, be it nothing, one or many; clones. -/
import Derived.Test.YtholefgckcoklaaGreatDoorBZAJ
import Derived.Lib.SliceRun
import Derived.Test.YtholefgckcoklaaGreatDoorBZAO
namespace Go.Proofs.YtholefgckcoklaaGreatDoor
open Go.RowKit
section
variable {w : World} {ops : Array Oper} {rest : List Oper} {o : Oper} {a : Act} {Q : Exit → Act → World → Prop}
theorem run_append_zero {t e : TypeId} {iS : TypeInfo} {k base n : Nat} {v : Value} {xs : List Value} (ht : Tryz.prog.underlying t = some (.slice e)) (hi : Tryz.prog.info? e = some iS) (hown : w.ownsRow base e k v n xs) (a2 : Option Addr) (c2 : Nat) (ty : TypeId) :
    (Builtin.append_ #[t, t] ty #[v, .slice a2 0 c2]).run Tryz.prog w = .ok v w := by
  rcases hown.2 with ⟨rfl, rfl⟩ | ⟨g, cap, cur, rfl, _, _, hnc, _⟩
  · cases a2 <;> simp [Builtin.append_, run_underlying ht, sizeOf, typeInfo, hi, Builtin.lenOf, Builtin.firstCells, loadCells, loadCellsFrom]
  · cases a2 <;> simp [Builtin.append_, run_underlying ht, sizeOf, typeInfo, hi, Builtin.lenOf, Builtin.firstCells, loadCells, loadCellsFrom, hnc, storeCells]
theorem wp_append_mem {K : Act → World → Prop} (s x : Operand) (t e k bytes : Nat) (z : Value)
    (ho : o.op = .call { callee := .builtin .append, args := #[s, x], argTypes := #[t, t] }) (ht : Tryz.prog.underlying t = some (.slice e)) (hinfo : (Tryz.prog.info? e).map (fun i => (i.zero, i.size, i.bytes)) = some (some z, k, bytes)) (hzs : z.cells.size = k) (hk : 0 < k)
    (base : Nat) (v : Value) (n : Nat) (xs : List Value) (hs : a.eval s = v) (hown : w.ownsRow base e k v n xs) (a2 : Option Addr) (b2 off2 m c2 : Nat) (news : List Value) (hx : a.eval x = .slice a2 m c2) (h0 : 0 < m → a2 = some ⟨b2, off2, none⟩)
    (hl : news.length = m * k) (hnews : ∀ j u, news[j]? = some u → w.cell? ⟨b2, off2 + j, none⟩ = some u) (h1 : ∀ u ∈ news, u.oneCell' = true) (h63 : n + m ≤ maxLen) (hbytes : (n + m) * bytes ≤ 140737488355328) (hbase : base ≤ w.heap.size)
    (h : ∀ v' w', w'.ownsRow base e k v' (n + m) (xs ++ news) → w.grownBy w' v.ownBlock → (m = 0 → v' = v) → (0 < m → ∃ g cap, v' = .slice (some ⟨g, 0, none⟩) (n + m) cap ∧ (v.ownBlock = some g ∨ g = w.heap.size)) → K (a.put o.dst v') w') : Oper.wp Tryz.prog o a w K Q := by
  obtain ⟨iS, hiS, hz0, hz1, hz2⟩ := info_parts hinfo
  by_cases hm : 0 < m
  · obtain rfl := h0 hm
    exact wp_append_lies w s x t ho base e iS z k bytes ht hiS hz0 hz1 hz2 hzs hk v n xs hs hown ⟨b2, off2, none⟩ m c2 news hx hl (fun j u hu => by rw [Addr.add_lit]; exact hnews j u hu) h1 hm h63 hbytes hbase w.heap.size rfl
      fun g cap w' h2 h3 h4 _ => h _ w' h2 h3 (fun e0 => by omega) (fun _ => ⟨g, cap, rfl, h4⟩)
  · obtain rfl : m = 0 := by omega
    have hn : news = [] := List.length_eq_zero_iff.1 (by omega)
    subst hn
    have hrun := fun ty => run_append_zero (w := w) ht hiS hown a2 c2 ty
    unfold Oper.wp
    simp [execOp, ho, resolve, invoke, builtin, hs, hx, hrun, Result.andThen]
    exact h v w (by simpa using hown) ⟨rfl, rfl, rfl, Nat.le_refl _, fun _ _ _ => rfl⟩ (fun _ => rfl) (fun e0 => absurd e0 (by omega))
theorem wpList_append_mem (hgd : o.guard = none) (s x : Operand) (t e k bytes : Nat) (z : Value)
    (ho : o.op = .call { callee := .builtin .append, args := #[s, x], argTypes := #[t, t] }) (ht : Tryz.prog.underlying t = some (.slice e)) (hinfo : (Tryz.prog.info? e).map (fun i => (i.zero, i.size, i.bytes)) = some (some z, k, bytes)) (hzs : z.cells.size = k) (hk : 0 < k)
    (base : Nat) (v : Value) (n : Nat) (xs : List Value) (hs : a.eval s = v) (hown : w.ownsRow base e k v n xs) (a2 : Option Addr) (b2 off2 m c2 : Nat) (news : List Value) (hx : a.eval x = .slice a2 m c2) (h0 : 0 < m → a2 = some ⟨b2, off2, none⟩)
    (hl : news.length = m * k) (hnews : ∀ j u, news[j]? = some u → w.cell? ⟨b2, off2 + j, none⟩ = some u) (h1 : ∀ u ∈ news, u.oneCell' = true) (h63 : n + m ≤ maxLen) (hbytes : (n + m) * bytes ≤ 140737488355328) (hbase : base ≤ w.heap.size)
    (h : ∀ v' w', w'.ownsRow base e k v' (n + m) (xs ++ news) → w.grownBy w' v.ownBlock → (m = 0 → v' = v) → (0 < m → ∃ g cap, v' = .slice (some ⟨g, 0, none⟩) (n + m) cap ∧ (v.ownBlock = some g ∨ g = w.heap.size)) → wpList Tryz.prog ops Q rest (a.put o.dst v') w') : wpList Tryz.prog ops Q (o :: rest) a w :=
  wpList_plain hgd fun _ hK => wp_append_mem s x t e k bytes z ho ht hinfo hzs hk base v n xs hs hown a2 b2 off2 m c2 news hx h0 hl hnews h1 h63 hbytes hbase fun v' w' h2 h3 h4 h5 => hK _ _ (h v' w' h2 h3 h4 h5)
end
theorem own_empty (w : World) (e k : Nat) : (w.alloc (.cells #[] e)).ownsRow w.heap.size e k (.slice (some ⟨w.heap.size, 0, none⟩) 0 0) 0 [] :=
  ⟨by simp, Or.inr ⟨w.heap.size, 0, #[], rfl, Nat.le_refl _, heap_alloc_new w _, Nat.le_refl _, by decide, by simp, by simp⟩⟩
theorem cells_of {α : Type} {At : List Value → α → Prop} {w : World} {b off k : Nat} {l : List α} (hk : 0 < k) (h : ∀ (i : Nat) y, l[i]? = some y → ∃ c : List Value, c.length = k ∧ (∀ j u, c[j]? = some u → w.cell? ⟨b, off + i * k + j, none⟩ = some u) ∧ At c y) :
    ∃ cs : List (List Value), cs.length = l.length ∧ (∀ c ∈ cs, c.length = k) ∧ (∀ (i : Nat) c y, cs[i]? = some c → l[i]? = some y → At c y) ∧ ∀ (j : Nat) u, cs.flatten[j]? = some u → w.cell? ⟨b, off + j, none⟩ = some u := by
  obtain ⟨cs, h1, h2⟩ : ∃ cs : List (List Value), cs.length = l.length ∧ ∀ (i : Nat) c, cs[i]? = some c → ∃ y, l[i]? = some y ∧ c.length = k ∧ (∀ j u, c[j]? = some u → w.cell? ⟨b, off + i * k + j, none⟩ = some u) ∧ At c y := by
    have hch : ∀ i, i < l.length → ∃ c : List Value, ∃ y, l[i]? = some y ∧ c.length = k ∧ (∀ j u, c[j]? = some u → w.cell? ⟨b, off + i * k + j, none⟩ = some u) ∧ At c y := fun i hi => by
      obtain ⟨c, hc⟩ := h i _ (List.getElem?_eq_getElem hi)
      exact ⟨c, _, List.getElem?_eq_getElem hi, hc⟩
    refine ⟨(List.finRange l.length).map fun i => Classical.choose (hch i.1 i.2), by simp, fun i c hc => ?_⟩
    rw [List.getElem?_map] at hc
    obtain ⟨q, hq, rfl⟩ := Option.map_eq_some_iff.1 hc
    have hqi : q.1 = i := by
      obtain ⟨h1, h2⟩ := List.getElem?_eq_some_iff.1 hq
      rw [List.getElem_finRange] at h2
      rw [← h2]; rfl
    subst hqi
    exact Classical.choose_spec (hch q.1 q.2)
  have h3 : ∀ c ∈ cs, c.length = k := fun c hc => by
    obtain ⟨i, hi, rfl⟩ := List.mem_iff_getElem.1 hc
    obtain ⟨_, _, hcc, _⟩ := h2 i _ (List.getElem?_eq_getElem hi)
    exact hcc
  refine ⟨cs, h1, h3, fun i c y hc hy => ?_, fun j u hu => ?_⟩
  · obtain ⟨y', hy', _, _, hcc⟩ := h2 i c hc
    rw [hy'] at hy
    cases hy
    exact hcc
  · have hj : j < cs.length * k := by
      have := (List.getElem?_eq_some_iff.1 hu).1
      rwa [flat_len cs h3] at this
    have hi : j / k < cs.length := Nat.div_lt_of_lt_mul (by rw [Nat.mul_comm]; exact hj)
    have hmd := Nat.div_add_mod j k
    have hf := flat_get (k := k) cs (j / k) (j % k) hi h3 (Nat.mod_lt _ hk)
    rw [Nat.mul_comm (j / k) k, hmd, hu] at hf
    obtain ⟨_, _, _, hcell, _⟩ := h2 (j / k) _ (List.getElem?_eq_getElem hi)
    have := hcell (j % k) u hf.symm
    rwa [Nat.add_assoc, Nat.mul_comm (j / k) k, hmd] at this
theorem own_get {w : World} {base e k n : Nat} {cs : List (List Value)} {g cap : Nat} (h : w.ownsRow base e k (.slice (some ⟨g, 0, none⟩) n cap) n cs.flatten) (hn : cs.length = n) (hk : ∀ c ∈ cs, c.length = k) {i : Nat} {c : List Value} (hc : cs[i]? = some c) {j : Nat} (hj : j < k) :
    w.cell? ⟨g, i * k + j, none⟩ = c[j]? := by
  obtain ⟨hi, rfl⟩ := List.getElem?_eq_some_iff.1 hc
  have hik : i * k + j < n * k := by
    have : i + 1 ≤ n := by omega
    have h5 := Nat.mul_le_mul_right k this
    rw [Nat.add_mul, Nat.one_mul] at h5
    omega
  rw [World.ownsRow.cellAt h _ hik]
  exact flat_get cs i j hi hk hj
end Go.Proofs.YtholefgckcoklaaGreatDoor
namespace Go.Proofs.YtholefgckcoklaaGreatDoor
open Go.RowKit
namespace Lat
def impT (acc s : ByteArray) : ByteArray := acc ++ ((⟨#[32, 40, 105, 109, 112, 111, 114, 116, 32]⟩ : ByteArray) ++ s ++ (⟨#[41]⟩ : ByteArray))
def vaT (acc : ByteArray) (v : Va) : ByteArray := acc ++ ((⟨#[32, 40, 118, 97, 114, 32]⟩ : ByteArray) ++ v.name ++ (⟨#[32]⟩ : ByteArray) ++ v.level ++ (⟨#[41]⟩ : ByteArray))
def parTo (l : List ByteArray) (acc : ByteArray) : Nat → ByteArray
  | 0 => acc
  | j + 1 => (if 0 < j then parTo l acc j ++ (⟨#[32]⟩ : ByteArray) else parTo l acc j) ++ l.getD j ByteArray.empty
def fuH (acc : ByteArray) (f : Fu) : ByteArray := acc ++ ((⟨#[32, 40, 102, 117, 110, 32]⟩ : ByteArray) ++ f.name ++ (⟨#[32, 40]⟩ : ByteArray))
def fuP (acc : ByteArray) (f : Fu) : ByteArray := parTo f.params (fuH acc f) f.params.length ++ (⟨#[41]⟩ : ByteArray)
def fuB (m : Nat) (acc : ByteArray) (f : Fu) : ByteArray := if 0 < f.body.length then fuP acc f ++ ((⟨#[32]⟩ : ByteArray) ++ bdT m f.body) else fuP acc f
def fuT (m : Nat) (acc : ByteArray) (f : Fu) : ByteArray := fuB m acc f ++ ((⟨#[32]⟩ : ByteArray) ++ exT m f.result ++ (⟨#[41]⟩ : ByteArray))
def moH (x : Mo) : ByteArray := (⟨#[40, 109, 111, 100, 117, 108, 101, 32]⟩ : ByteArray) ++ x.name
def moI (x : Mo) : ByteArray := x.imports.foldl impT (moH x)
def moV (x : Mo) : ByteArray := x.vars.foldl vaT (moI x)
def moF (m : Nat) (x : Mo) : ByteArray := x.funs.foldl (fuT m) (moV x)
def moT (m : Nat) (x : Mo) : ByteArray := moF m x ++ (⟨#[41]⟩ : ByteArray)
end Lat
section
variable {α : Type} {f : ByteArray → α → ByteArray} {wt : α → Nat}
theorem foldg_take {l : List α} {j : Nat} {y : α} (h : l[j]? = some y) (acc : ByteArray) : (l.take (j + 1)).foldl f acc = f ((l.take j).foldl f acc) y := by
  obtain ⟨hj, rfl⟩ := List.getElem?_eq_some_iff.1 h
  rw [List.take_succ_eq_append_getElem hj, List.foldl_append]; rfl
theorem sumg_take (l : List α) (j : Nat) : ((l.take j).map wt).sum ≤ (l.map wt).sum := by
  conv => rhs; rw [← List.take_append_drop j l]
  rw [List.map_append, List.sum_append]; omega
theorem foldg_size {l : List α} (h : ∀ (i : Nat) (y : α), l[i]? = some y → ∀ acc, (f acc y).size ≤ acc.size + 12 * wt y) (acc : ByteArray) :
    ∀ j, j ≤ l.length → ((l.take j).foldl f acc).size ≤ acc.size + 12 * ((l.take j).map wt).sum
  | 0, _ => by simp
  | j + 1, hj => by
    have ih := foldg_size h acc j (by omega)
    obtain ⟨y, hy⟩ : ∃ y, l[j]? = some y := ⟨_, List.getElem?_eq_getElem (by omega)⟩
    rw [foldg_take hy]
    have h1 := h j y hy ((l.take j).foldl f acc)
    have h2 : ((l.take (j + 1)).map wt).sum = ((l.take j).map wt).sum + wt y := by
      obtain ⟨hj', rfl⟩ := List.getElem?_eq_some_iff.1 hy
      rw [List.take_succ_eq_append_getElem hj', List.map_append, List.sum_append]; simp
    omega
theorem foldg_all {l : List α} (h : ∀ (i : Nat) (y : α), l[i]? = some y → ∀ acc, (f acc y).size ≤ acc.size + 12 * wt y) (acc : ByteArray) (j : Nat) (hj : j ≤ l.length) :
    ((l.take j).foldl f acc).size ≤ acc.size + 12 * (l.map wt).sum := by
  have h1 := foldg_size h acc j hj
  have h2 := sumg_take (wt := wt) l j
  omega
end
theorem impT_size (acc s : ByteArray) : (Lat.impT acc s).size ≤ acc.size + 12 * (s.size + 1) := by
  unfold Lat.impT
  simp only [ByteArray.size_append]
  show acc.size + (9 + s.size + 1) ≤ _
  omega
theorem vaT_size (acc : ByteArray) (s : Va) : (Lat.vaT acc s).size ≤ acc.size + 12 * (s.name.size + s.level.size + 3) := by
  unfold Lat.vaT
  simp only [ByteArray.size_append]
  show acc.size + (6 + s.name.size + 1 + s.level.size + 1) ≤ _
  omega
theorem getD_size (l : List ByteArray) (j : Nat) : (l.getD j ByteArray.empty).size ≤ (l.map fun s => s.size + 1).sum := by
  by_cases h : j < l.length
  · have e : l.getD j ByteArray.empty = l[j] := by simp [h]
    rw [e]
    have := mem_le_sum (f := fun s : ByteArray => s.size + 1) (List.getElem_mem h)
    omega
  · have e : l.getD j ByteArray.empty = ByteArray.empty := by simp [List.getD, List.getElem?_eq_none (Nat.le_of_not_lt h)]
    rw [e]; exact Nat.zero_le _
theorem parTo_size (l : List ByteArray) (acc : ByteArray) : ∀ j, j ≤ l.length → (Lat.parTo l acc j).size ≤ acc.size + ((l.take j).map fun s => s.size + 1).sum
  | 0, _ => by simp [Lat.parTo]
  | j + 1, hj => by
    have ih := parTo_size l acc j (by omega)
    have h2 : ((l.take (j + 1)).map fun s => s.size + 1).sum = ((l.take j).map fun s => s.size + 1).sum + ((l.getD j ByteArray.empty).size + 1) := by
      rw [List.take_succ_eq_append_getElem (by omega), List.map_append, List.sum_append]
      simp [show j < l.length by omega]
    have e1 : (⟨#[32]⟩ : ByteArray).size = 1 := rfl
    simp only [Lat.parTo]
    split <;> simp only [ByteArray.size_append, e1] <;> omega
theorem parTo_all (l : List ByteArray) (acc : ByteArray) (j : Nat) (hj : j ≤ l.length) : (Lat.parTo l acc j).size ≤ acc.size + (l.map fun s => s.size + 1).sum := by
  have h1 := parTo_size l acc j hj
  have h2 := sumg_take (wt := fun s : ByteArray => s.size + 1) l j
  omega
def fuW (m : Nat) (s : Fu) : Nat := s.name.size + 2 + strsW s.params + stsW m s.body + exW m s.result
theorem fusW_eq (m : Nat) (l : List Fu) : fusW m l = (l.map (fuW m)).sum + 1 := rfl
theorem fuH_size (acc : ByteArray) (f : Fu) : (Lat.fuH acc f).size = acc.size + (f.name.size + 8) := by
  unfold Lat.fuH
  simp only [ByteArray.size_append]
  show acc.size + (6 + f.name.size + 2) = _
  omega
theorem fuP_size (acc : ByteArray) (f : Fu) : (Lat.fuP acc f).size ≤ acc.size + (f.name.size + 8 + strsW f.params) := by
  unfold Lat.fuP
  have h := parTo_all f.params (Lat.fuH acc f) f.params.length (Nat.le_refl _)
  rw [fuH_size] at h
  rw [ByteArray.size_append]
  show _ + 1 ≤ _
  unfold strsW
  omega
theorem fuT_size {w : World} {m : Nat} {f : Fu} {vb e0 e1 e2 e3 : Value} (hb : StsAt w m vb f.body) (hx : ExAt w m e0 e1 e2 e3 f.result) (acc : ByteArray) : (Lat.fuT m acc f).size ≤ acc.size + 12 * fuW m f := by
  have h1 := fuP_size acc f
  have h2 := bdT_size hb
  have h3 := exT_size hx
  have e1 : (⟨#[32]⟩ : ByteArray).size = 1 := rfl
  have e2 : (⟨#[41]⟩ : ByteArray).size = 1 := rfl
  unfold Lat.fuT Lat.fuB fuW
  split <;> simp only [ByteArray.size_append, e1, e2] <;> omega
theorem moH_size (x : Mo) : (Lat.moH x).size = 8 + x.name.size := by
  unfold Lat.moH; rw [ByteArray.size_append]; rfl
theorem boxM0 (w : World) (c0 c1 c2 c3 : Value) (t : TypeId) : (w.alloc (.cells #[c0, c1, c2, c3] t)).cell? ⟨w.heap.size, 0, none⟩ = some c0 := by simp [go_sem]
theorem boxM1 (w : World) (c0 c1 c2 c3 : Value) (t : TypeId) : (w.alloc (.cells #[c0, c1, c2, c3] t)).cell? ⟨w.heap.size, 1, none⟩ = some c1 := by simp [go_sem]
theorem boxM2 (w : World) (c0 c1 c2 c3 : Value) (t : TypeId) : (w.alloc (.cells #[c0, c1, c2, c3] t)).cell? ⟨w.heap.size, 2, none⟩ = some c2 := by simp [go_sem]
theorem boxM3 (w : World) (c0 c1 c2 c3 : Value) (t : TypeId) : (w.alloc (.cells #[c0, c1, c2, c3] t)).cell? ⟨w.heap.size, 3, none⟩ = some c3 := by simp [go_sem]
end Go.Proofs.YtholefgckcoklaaGreatDoor
