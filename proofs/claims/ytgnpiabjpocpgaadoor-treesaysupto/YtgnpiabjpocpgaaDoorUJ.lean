/- Walks over package tree: moduleText: of a module that may be, the text that the document asks. -/
import Derived.Test.YtgnpiabjpocpgaaDoorUI
import Derived.Test.YtgnpiabjpocpgaaDoorTM
namespace Go.Proofs.YtgnpiabjpocpgaaDoor
open Go.RowKit

namespace Lat
def moX (m : Nat) (x : Mo) : ByteArray := brk [[⟨#[109, 111, 100, 117, 108, 101]⟩, x.name], x.imports.map impX, x.vars.map vaX, x.funs.map (fuX m)].flatten
end Lat

theorem foldx {α : Type} {f : ByteArray → α → ByteArray} {g : α → ByteArray} : ∀ (l : List α) (acc : ByteArray), (∀ y ∈ l, ∀ acc, (f acc y).data.toList = acc.data.toList ++ 32 :: (g y).data.toList) →
    (l.foldl f acc).data.toList = acc.data.toList ++ Lib.joinTail [32] ((l.map g).map (·.data.toList))
  | [], acc, _ => by simp [Lib.joinTail]
  | y :: l, acc, h => by
    rw [List.foldl_cons, foldx l _ (fun z hz => h z (by simp [hz])), h y (by simp), List.map_cons, List.map_cons, tail_cons]
    simp
theorem impT_eq (acc s : ByteArray) : (Lat.impT acc s).data.toList = acc.data.toList ++ 32 :: (Lat.impX s).data.toList := by
  unfold Lat.impT Lat.impX
  rw [brk_list]
  simp [Lib.join_cons, Lib.joinTail]
theorem vaT_eq (acc : ByteArray) (v : Va) : (Lat.vaT acc v).data.toList = acc.data.toList ++ 32 :: (Lat.vaX v).data.toList := by
  unfold Lat.vaT Lat.vaX
  rw [brk_list]
  simp [Lib.join_cons, Lib.joinTail]

theorem moX_eq {m : Nat} {x : Mo} (hm : x.funs ≠ [] → m ≠ 0) : Lat.moX m x = Lat.moT m x := by
  apply bytes_ext
  unfold Lat.moX Lat.moT Lat.moF Lat.moV Lat.moI Lat.moH
  have hfl : [[(⟨#[109, 111, 100, 117, 108, 101]⟩ : ByteArray), x.name], x.imports.map Lat.impX, x.vars.map Lat.vaX, x.funs.map (Lat.fuX m)].flatten = ⟨#[109, 111, 100, 117, 108, 101]⟩ :: x.name :: (x.imports.map Lat.impX ++ (x.vars.map Lat.vaX ++ x.funs.map (Lat.fuX m))) := by simp
  rw [hfl, brk_list, app_list, foldx (g := Lat.fuX m) x.funs _ (fun y hy acc => fuT_eq (hm (List.ne_nil_of_mem hy)) acc y), foldx (g := Lat.vaX) x.vars _ (fun y _ acc => vaT_eq acc y), foldx (g := Lat.impX) x.imports _ (fun y _ acc => impT_eq acc y),
    List.map_cons, Lib.join_cons, List.map_cons, tail_cons, List.map_append, joinTail_app, List.map_append, joinTail_app, app_list]
  simp

set_option maxHeartbeats 4000000 in
set_option maxRecDepth 100000 in
theorem moduleText_any (m : Nat) (w : World) (v : Value) (x : Mo) (h : MoAt w m v x) (hok : ∀ f ∈ x.funs, Lat.bodyB m f.body = true ∧ Lat.exprB m f.result = true) (hw : moW m x ≤ 1048576) (ht : Tab w) :
    Calls Tryd.prog 13 #[v] w fun e w' => e = .returned (.string (Lat.moT m x)) ∧ Below w.heap.size w w' := by
  have hmt := moT_size h hw
  have HM := hide h
  obtain ⟨vi, vv, vf, rfl, hnm, hI, hV, hF⟩ := h
  have hwm : x.name.size + 2 + strsW x.imports + vasW x.vars + fusW m x.funs ≤ 1048576 := hw
  have hm : x.funs ≠ [] → m ≠ 0 := by
    rintro hne rfl
    obtain ⟨a, b, off, cap, _, _, _, hel⟩ := hF
    obtain ⟨f, hf⟩ : ∃ f, x.funs[0]? = some f := ⟨_, List.getElem?_eq_getElem (List.length_pos_iff.2 hne)⟩
    obtain ⟨_, vp, vb, e0, e1, e2, e3, _, _, _, _, _, _, _, _, hsb, _⟩ := hel 0 f hf
    exact hsb
  have hX := moX_eq hm
  obtain ⟨ai, ci, rfl, hli⟩ := hI.shape
  obtain ⟨av, cv, rfl⟩ : ∃ a c, vv = .slice a x.vars.length c := by
    obtain ⟨a, _, _, c, e, _⟩ := hV
    exact ⟨a, c, e⟩
  obtain ⟨af, cf, rfl⟩ : ∃ a c, vf = .slice a x.funs.length c := by
    obtain ⟨a, _, _, c, e, _⟩ := hF
    exact ⟨a, c, e⟩
  have HB0 := hide (boxBelow w (.cells #[.string x.name, .slice ai x.imports.length ci, .slice av x.vars.length cv, .slice af x.funs.length cf] 26))
  have q0 := boxM0 w (.string x.name) (.slice ai x.imports.length ci) (.slice av x.vars.length cv) (.slice af x.funs.length cf) 26
  have q1 := boxM1 w (.string x.name) (.slice ai x.imports.length ci) (.slice av x.vars.length cv) (.slice af x.funs.length cf) 26
  have q2 := boxM2 w (.string x.name) (.slice ai x.imports.length ci) (.slice av x.vars.length cv) (.slice af x.funs.length cf) 26
  have q3 := boxM3 w (.string x.name) (.slice ai x.imports.length ci) (.slice av x.vars.length cv) (.slice af x.funs.length cf) 26
  have HIT : Hid (∀ W, Hid (Below w.heap.size w W) → Calls Tryd.prog 24 #[.slice ai x.imports.length ci] W fun e w' => ∃ a n c, e = .returned (.slice a n c) ∧ Strs w' (.slice a n c) (x.imports.map Lat.impX) ∧ Below W.heap.size W w') :=
    fun W hW => importTexts_any W _ x.imports (hI.below hW.out) (by omega)
  have HVT : Hid (∀ W, Hid (Below w.heap.size w W) → Calls Tryd.prog 25 #[.slice av x.vars.length cv] W fun e w' => ∃ a n c, e = .returned (.slice a n c) ∧ Strs w' (.slice a n c) (x.vars.map Lat.vaX) ∧ Below W.heap.size W w') :=
    fun W hW => varTexts_any W _ x.vars (hV.below hW.out) (by omega)
  have HFT : Hid (∀ W, Hid (Below w.heap.size w W) → Calls Tryd.prog 26 #[.slice af x.funs.length cf] W fun e w' => ∃ a n c, e = .returned (.slice a n c) ∧ Strs w' (.slice a n c) (x.funs.map (Lat.fuX m)) ∧ Below W.heap.size W w') :=
    fun W hW => funTexts_any m W _ x.funs (hF.below hW.out) hok (by omega) (ht.below hW.out)
  have HBR : Hid (∀ W v, StrsS W v [[⟨#[109, 111, 100, 117, 108, 101]⟩, x.name], x.imports.map Lat.impX, x.vars.map Lat.vaX, x.funs.map (Lat.fuX m)] → Calls Tryd.prog 23 #[v] W fun e w' => e = .returned (.string (Lat.moT m x)) ∧ Below W.heap.size W w') := fun W v h => by
    have := brackets_any W v _ h (by show (Lat.moX m x).size ≤ _; rw [hX]; omega)
    rw [show Lat.brk [[⟨#[109, 111, 100, 117, 108, 101]⟩, x.name], x.imports.map Lat.impX, x.vars.map Lat.vaX, x.funs.map (Lat.fuX m)].flatten = Lat.moT m x from hX] at this
    exact this
  clear hwm hw hX hm hmt hI hV hF hok ht HM
  generalize x.imports.length = li at *
  generalize x.vars.length = lv at *
  generalize x.funs.length = lf at *
  go_enter Tryd.func13, Tryd.ntmps13
  go_wp2_with fail
  generalize (w.alloc (.cells #[.string x.name, .slice ai li ci, .slice av lv cv, .slice af lf cf] 26)) = W0 at *
  have HF : Hid (∀ wx, Hid (Below W0.heap.size W0 wx) → Hid (Below W0.heap.size W0 wx) ∧ wx.cell? ⟨w.heap.size, 0, none⟩ = some (.string x.name) ∧ wx.cell? ⟨w.heap.size, 1, none⟩ = some (.slice ai li ci) ∧ wx.cell? ⟨w.heap.size, 2, none⟩ = some (.slice av lv cv) ∧ wx.cell? ⟨w.heap.size, 3, none⟩ = some (.slice af lf cf)) :=
    fun wx h => ⟨h, cellUp q0 h.out, cellUp q1 h.out, cellUp q2 h.out, cellUp q3 h.out⟩
  have H00 : Hid (Below W0.heap.size W0 W0) := hide (Below.refl _ _)
  clear q0 q1 q2 q3
  go_region_held3 (fun wx => Hid (Below W0.heap.size W0 wx) ∧ wx.cell? ⟨w.heap.size, 0, none⟩ = some (.string x.name) ∧ wx.cell? ⟨w.heap.size, 1, none⟩ = some (.slice ai li ci) ∧ wx.cell? ⟨w.heap.size, 2, none⟩ = some (.slice av lv cv) ∧ wx.cell? ⟨w.heap.size, 3, none⟩ = some (.slice af lf cf))
    ((refine HF.out _ ?_; repeat (first | exact HW33 | exact HW32 | exact HW31 | exact HW30 | exact H00 | apply hidB_drew | apply hidB_alloc)))
    (first
      | (go_at_call 24; refine (HIT.out _ (hide (up HB0.out (unhide (by repeat (first | exact H00 | apply hidB_drew | apply hidB_alloc)))))).mono ?_; rintro e w30 ⟨x1, n1, c1, rfl, hs30, hb30⟩; have HW30 : Hid (Below W0.heap.size W0 w30) := hide (up (w := W0) (unhide (by repeat (first | exact H00 | apply hidB_drew | apply hidB_alloc))) hb30); have HD0 := hide hb30; have HS30 := hide hs30; clear hb30 hs30)
      | (go_at_call 25; refine (HVT.out _ (hide (up HB0.out (unhide (by repeat (first | exact HW30 | apply hidB_drew | apply hidB_alloc)))))).mono ?_; rintro e w31 ⟨x2, n2, c2, rfl, hs31, hb31⟩; have HW31 : Hid (Below W0.heap.size W0 w31) := hide (up (w := W0) (unhide (by repeat (first | exact HW30 | apply hidB_drew | apply hidB_alloc))) hb31); have HD1 := hide hb31; have HS31 := hide hs31; clear hb31 hs31)
      | (go_at_call 26; refine (HFT.out _ (hide (up HB0.out (unhide (by repeat (first | exact HW31 | apply hidB_drew | apply hidB_alloc)))))).mono ?_; rintro e w32 ⟨x3, n3, c3, rfl, hs32, hb32⟩; have HW32 : Hid (Below W0.heap.size W0 w32) := hide (up (w := W0) (unhide (by repeat (first | exact HW31 | apply hidB_drew | apply hidB_alloc))) hb32); have HD2 := hide hb32; have HS32 := hide hs32; clear hb32 hs32)
      | (go_at_call 23; refine (HBR.out _ _ ?_).mono ?_; (refine strsS_4 (by simp) ?_ ?_ ?_ ?_ <;> repeat (first | exact HS32.out | exact HS31.out | exact HS30.out | exact strs_lit2 (by simp) _ _ (by decide) hnm | refine Strs.below ?_ HD2.out | refine Strs.below ?_ HD1.out | refine Strs.below ?_ HD0.out | apply Strs.allocUp | apply Strs.drewUp)); rintro e w33 ⟨rfl, hb33⟩; have HW33 : Hid (Below W0.heap.size W0 w33) := hide (up (w := W0) (unhide (by repeat (first | exact HW32 | apply hidB_drew | apply hidB_alloc))) hb33); clear hb33))
  all_goals
    go_wp2_with fail
    go_ret
    exact ⟨rfl, up HB0.out HW33.out⟩

end Go.Proofs.YtgnpiabjpocpgaaDoor
