/- Short names of theorems of the library. -/
import Derived.WalkKit
import Derived.Test.YtageneidjnbedaaGreatDoorProg
set_option maxHeartbeats 0
set_option maxRecDepth 99999
namespace Go.Proofs.YtageneidjnbedaaGreatDoor
open Go.RowKit
theorem aV{α:Type}(a:α):∃n,n=a:=⟨a,rfl⟩
abbrev O(n:Int):Value:=.int .i64 n
abbrev aU:Value:=.slice none 0 0
abbrev X:=@Value.slice
abbrev A:=@Value.string
abbrev dz:=@Ending.returned
abbrev aN(b i:Nat):Addr:=⟨b,i,none⟩
abbrev gK(b:Nat):Value:=.pointer (some ⟨b,0,none⟩)
abbrev aY(c:Array Value)(t:TypeId):Obj:=.cells c t (0,0)
abbrev bK(w:World):=Below w.heap.size w
abbrev aS:=ByteArray
abbrev bJ(w:World)(b i:Nat):=w.cell? ⟨b,i,none⟩
abbrev dR(w:World)(b:Nat)(o:Obj):Prop:=w.heap[b]?=some o
abbrev bI:=World
abbrev J(p:Prop):Prop:=Hid p
abbrev aC:=Value
abbrev aJ:=List ByteArray
abbrev aL:=Nat->Nat->Bool
abbrev aD:=Calls Tryz.prog
abbrev Tc(g n c:Nat):Value:=.slice (some ⟨g,0,none⟩) n c
theorem bC{p:Prop}(h:p:=by omega):p:=h
theorem dw{p:Prop}(h:p:=by kernel_rfl):p:=h
theorem bM{p:Prop}(h:p:=by decide):p:=h
theorem dH{p:Prop}(h:p:=by rfl):p:=h
theorem cK{p:Prop}(h:p:=by simp):p:=h
theorem gV{p:Prop}(h:p:=by simp[intOf];omega):p:=h
theorem tT{w:World}{k:Nat}{c:Array Value}{t:TypeId}(h:w.heap[k]?=some (.cells c t (0,0)))(i:Nat):w.cell? ⟨k,i,none⟩=c[i]?:=by unfold World.cell?;rw[h];rfl
theorem bV{p0 p1:Prop}(h0:p0)(h1:p1):Hid p0/\Hid p1:=⟨h0,h1⟩
theorem eY{p0 p1:Prop}(h0:p0)(h1:p1):p0/\p1:=⟨h0,h1⟩
theorem jv{w:World}{k:Nat}{c:Array Value}{t:TypeId}(h:w.heap[k]?=some (.cells c t (0,0))):w.cell? ⟨k,0,none⟩=c[0]?/\w.cell? ⟨k,1,none⟩=c[1]?:=⟨tT h 0,tT h 1⟩
theorem fE{p0 p1 p2:Prop}(h0:p0)(h1:p1)(h2:p2):Hid p0/\Hid p1/\Hid p2:=⟨h0,h1,h2⟩
theorem lS{p0 p1 p2:Prop}(h0:p0)(h1:p1)(h2:p2):p0/\p1/\p2:=⟨h0,h1,h2⟩
theorem P5{w:World}{k:Nat}{c:Array Value}{t:TypeId}(h:w.heap[k]?=some (.cells c t (0,0))):w.cell? ⟨k,0,none⟩=c[0]?/\w.cell? ⟨k,1,none⟩=c[1]?/\w.cell? ⟨k,2,none⟩=c[2]?:=⟨tT h 0,tT h 1,tT h 2⟩
theorem lD{p0 p1 p2 p3:Prop}(h0:p0)(h1:p1)(h2:p2)(h3:p3):Hid p0/\Hid p1/\Hid p2/\Hid p3:=⟨h0,h1,h2,h3⟩
theorem rY{p0 p1 p2 p3:Prop}(h0:p0)(h1:p1)(h2:p2)(h3:p3):p0/\p1/\p2/\p3:=⟨h0,h1,h2,h3⟩
theorem xX{w:World}{k:Nat}{c:Array Value}{t:TypeId}(h:w.heap[k]?=some (.cells c t (0,0))):w.cell? ⟨k,0,none⟩=c[0]?/\w.cell? ⟨k,1,none⟩=c[1]?/\w.cell? ⟨k,2,none⟩=c[2]?/\w.cell? ⟨k,3,none⟩=c[3]?:=⟨tT h 0,tT h 1,tT h 2,tT h 3⟩
theorem uh{p0 p1 p2 p3 p4:Prop}(h0:p0)(h1:p1)(h2:p2)(h3:p3)(h4:p4):Hid p0/\Hid p1/\Hid p2/\Hid p3/\Hid p4:=⟨h0,h1,h2,h3,h4⟩
theorem ZC5{w:World}{k:Nat}{c:Array Value}{t:TypeId}(h:w.heap[k]?=some (.cells c t (0,0))):w.cell? ⟨k,0,none⟩=c[0]?/\w.cell? ⟨k,1,none⟩=c[1]?/\w.cell? ⟨k,2,none⟩=c[2]?/\w.cell? ⟨k,3,none⟩=c[3]?/\w.cell? ⟨k,4,none⟩=c[4]?:=⟨tT h 0,tT h 1,tT h 2,tT h 3,tT h 4⟩
theorem vC{p0 p1 p2 p3 p4 p5:Prop}(h0:p0)(h1:p1)(h2:p2)(h3:p3)(h4:p4)(h5:p5):Hid p0/\Hid p1/\Hid p2/\Hid p3/\Hid p4/\Hid p5:=⟨h0,h1,h2,h3,h4,h5⟩
theorem ZC6{w:World}{k:Nat}{c:Array Value}{t:TypeId}(h:w.heap[k]?=some (.cells c t (0,0))):w.cell? ⟨k,0,none⟩=c[0]?/\w.cell? ⟨k,1,none⟩=c[1]?/\w.cell? ⟨k,2,none⟩=c[2]?/\w.cell? ⟨k,3,none⟩=c[3]?/\w.cell? ⟨k,4,none⟩=c[4]?/\w.cell? ⟨k,5,none⟩=c[5]?:=⟨tT h 0,tT h 1,tT h 2,tT h 3,tT h 4,tT h 5⟩
theorem Ng{p0 p1 p2 p3 p4 p5 p6:Prop}(h0:p0)(h1:p1)(h2:p2)(h3:p3)(h4:p4)(h5:p5)(h6:p6):p0/\p1/\p2/\p3/\p4/\p5/\p6:=⟨h0,h1,h2,h3,h4,h5,h6⟩
theorem Cg{w:World}{k:Nat}{c:Array Value}{t:TypeId}(h:w.heap[k]?=some (.cells c t (0,0))):w.cell? ⟨k,0,none⟩=c[0]?/\w.cell? ⟨k,1,none⟩=c[1]?/\w.cell? ⟨k,2,none⟩=c[2]?/\w.cell? ⟨k,3,none⟩=c[3]?/\w.cell? ⟨k,4,none⟩=c[4]?/\w.cell? ⟨k,5,none⟩=c[5]?/\w.cell? ⟨k,6,none⟩=c[6]?:=⟨tT h 0,tT h 1,tT h 2,tT h 3,tT h 4,tT h 5,tT h 6⟩
theorem MO{w:World}{k:Nat}{c:Array Value}{t:TypeId}(h:w.heap[k]?=some (.cells c t (0,0))):w.cell? ⟨k,0,none⟩=c[0]?/\w.cell? ⟨k,1,none⟩=c[1]?/\w.cell? ⟨k,2,none⟩=c[2]?/\w.cell? ⟨k,3,none⟩=c[3]?/\w.cell? ⟨k,4,none⟩=c[4]?/\w.cell? ⟨k,5,none⟩=c[5]?/\w.cell? ⟨k,6,none⟩=c[6]?/\w.cell? ⟨k,7,none⟩=c[7]?:=⟨tT h 0,tT h 1,tT h 2,tT h 3,tT h 4,tT h 5,tT h 6,tT h 7⟩
theorem TK{w:World}{k:Nat}{c:Array Value}{t:TypeId}(h:w.heap[k]?=some (.cells c t (0,0))):w.cell? ⟨k,0,none⟩=c[0]?/\w.cell? ⟨k,1,none⟩=c[1]?/\w.cell? ⟨k,2,none⟩=c[2]?/\w.cell? ⟨k,3,none⟩=c[3]?/\w.cell? ⟨k,4,none⟩=c[4]?/\w.cell? ⟨k,5,none⟩=c[5]?/\w.cell? ⟨k,6,none⟩=c[6]?/\w.cell? ⟨k,7,none⟩=c[7]?/\w.cell? ⟨k,8,none⟩=c[8]?/\w.cell? ⟨k,9,none⟩=c[9]?/\w.cell? ⟨k,10,none⟩=c[10]?:=⟨tT h 0,tT h 1,tT h 2,tT h 3,tT h 4,tT h 5,tT h 6,tT h 7,tT h 8,tT h 9,tT h 10⟩
theorem sO(w:World)(o:Obj):Hid (Below w.heap.size w (w.alloc o))/\Hid ((w.alloc o).heap[w.heap.size]?=some o):=⟨(Below.refl _ _).alloc (Nat.le_refl _) _,heap_alloc_new w o⟩
abbrev Lu:=@Array.getElem?_append_left
abbrev Vy:=@Array.getElem?_eq_none
abbrev Jg:=@Array.getElem?_modify
abbrev RG:=@Array.getElem?_setIfInBounds
abbrev Ij:=@Array.getElem?_setIfInBounds_ne
abbrev X3:=@Array.setIfInBounds_comm
abbrev Am:=@Array.size_modify
abbrev vM:=@Below.heap_setCell
abbrev bQ:=@Below.refl
abbrev Nq:=@Bool.and_assoc
abbrev dK:=@Bool.and_eq_true
abbrev mF:=@Bool.and_eq_true_iff
abbrev Sg:=@Bool.and_false
abbrev vG:=@Bool.eq_iff_iff
abbrev Bl:=@Bool.false_and
abbrev rz:=@Bool.false_eq_true
abbrev iJ:=@Bool.false_ne_true
abbrev GK:=@Bool.or_eq_true
abbrev nX:=@Bool.true_and
abbrev ZP:=@ByteArray.size_append
abbrev Rk:=@ByteArray.size_extract
abbrev A8:=@ByteArray.toList_eq
abbrev Di:=@DataW.trod_string
abbrev Jw:=@DataW.trod_struct
abbrev iU:=@False.elim
abbrev vQ:=@Int.toNat_natCast
abbrev CY:=@List.all_eq_false
abbrev iB:=@List.all_eq_true
abbrev RY:=@List.any_eq_true
abbrev iK:=@List.append_assoc
abbrev MZ:=@List.append_eq_nil_iff
abbrev gL:=@List.append_nil
abbrev R9:=@List.cons.injEq
abbrev Nw:=@List.drop_eq_getElem_cons
abbrev Gv:=@List.find?_eq_none
abbrev Jj:=@List.find?_some
abbrev lZ:=@List.flatMap_append
abbrev JO:=@List.flatMap_cons
abbrev axN:=@List.flatMap_nil
abbrev Da:=@List.flatten_append
abbrev uE:=@List.flatten_cons
abbrev DT:=@List.flatten_nil
abbrev av6:=@List.flatten_singleton
abbrev JX:=@List.foldl_append
abbrev pz:=@List.foldl_cons
abbrev xK:=@List.getD_eq_getElem?_getD
abbrev jX:=@List.getElem?_append_left
abbrev kL:=@List.getElem?_append_right
abbrev Yw:=@List.getElem?_cons_succ
abbrev Rt:=@List.getElem?_drop
abbrev aZ:=@List.getElem?_eq_getElem
abbrev Ry:=@List.getElem?_eq_none
abbrev cO:=@List.getElem?_eq_some_iff
abbrev pq:=@List.getElem?_map
abbrev nM:=@List.getElem?_take_of_lt
abbrev yK:=@List.getElem?_toArray
abbrev NP:=@List.getElem?_zip_eq_some
abbrev kZ:=@List.getElem_mem
abbrev bg:=@List.length_append
abbrev vN:=@List.length_cons
abbrev Bo:=@List.length_drop
abbrev qp:=@List.length_eq_zero_iff
abbrev Km:=@List.length_filter_le
abbrev dV:=@List.length_map
abbrev SE:=@List.length_mergeSort
abbrev Ef:=@List.length_nil
abbrev vO:=@List.length_pos_iff
abbrev uJ:=@List.length_range
abbrev zO:=@List.length_replicate
abbrev iI:=@List.length_singleton
abbrev iA:=@List.length_take
abbrev He:=@List.length_zip
abbrev gX:=@List.map_append
abbrev Na:=@List.map_congr_left
abbrev fZ:=@List.map_cons
abbrev jV:=@List.map_nil
abbrev bX:=@List.mem_append
abbrev fV:=@List.mem_cons
abbrev l8:=@List.mem_cons_of_mem
abbrev gZ:=@List.mem_flatMap
abbrev gU:=@List.mem_iff_getElem
abbrev iZ:=@List.mem_map
abbrev Gw:=@List.mem_of_find?_eq_some
abbrev dG:=@List.mem_of_getElem?
abbrev SC:=@List.mem_of_getLast?
abbrev N8:=@List.mem_of_mem_take
abbrev jE:=@List.mem_range
abbrev dh:=@List.mem_singleton
abbrev sP:=@List.nil_append
abbrev qZ:=@List.not_mem_nil
abbrev FP:=@List.pairwise_append
abbrev uT:=@List.pairwise_cons
abbrev Px:=@List.pairwise_iff_getElem
abbrev Ji:=@List.range_succ
abbrev dS:=@List.setIfInBounds_toArray
abbrev eX:=@List.set_cons_succ
abbrev dY:=@List.set_cons_zero
abbrev tH:=@List.sum_append
abbrev jI:=@List.sum_cons
abbrev ru:=@List.sum_nil
abbrev gy:=@List.take_add_one
abbrev pK:=@List.take_append_drop
abbrev jQ:=@List.take_length
abbrev fQ:=@List.take_of_length_le
abbrev uW:=@List.take_succ_eq_append_getElem
abbrev sN:=@Nat.add_zero
abbrev bG:=@Nat.le_refl
abbrev dN:=@Nat.le_succ
abbrev bE:=@Nat.le_trans
abbrev wI:=@Nat.lt_of_lt_of_le
abbrev Fa:=@Nat.lt_or_ge
abbrev yE:=@Nat.mul_le_mul
abbrev qR:=@Nat.mul_le_mul_right
abbrev fU:=@Nat.not_lt_zero
abbrev uS:=@Nat.one_mul
abbrev mW:=@Nat.sub_self
abbrev rZ:=@Nat.succ_mul
abbrev d9:=@Nat.zero_add
abbrev bN:=@Nat.zero_le
abbrev lK:=@Option.getD_none
abbrev gD:=@Option.getD_some
abbrev sF:=@Option.isSome_iff_exists
abbrev nE:=@Option.isSome_none
abbrev nD:=@Option.isSome_some
abbrev yF:=@Option.map_eq_some_iff
abbrev Ca:=@Option.map_none
abbrev kV:=@Option.map_some
abbrev Kj:=@Option.some.injEq
abbrev kI:=@Option.toList_some
abbrev aO:=@Or.inl
abbrev aQ:=@Or.inr
abbrev pO:=@Prod.mk.injEq
abbrev eH:=@World.block_lt_of_cell?
abbrev jH:=@World.cell?_of_block
abbrev Lx:=@World.cell?_spot
abbrev wK:=@World.ownsRow.alloc
abbrev yC:=@World.ownsRow.cellAt
abbrev Fp:=@World.ownsRow.lt
abbrev lJ:=@World.ownsRow_nil
abbrev oh:=@World.size_alloc
abbrev aM:=@absurd
abbrev cZ:=@bodyPost_ret
abbrev iD:=@decide_eq_false
abbrev gW:=@decide_eq_true
abbrev iy:=@decide_eq_true_eq
abbrev aI:=@if_neg
abbrev aK:=@if_pos
abbrev iP:=@of_decide_eq_true
