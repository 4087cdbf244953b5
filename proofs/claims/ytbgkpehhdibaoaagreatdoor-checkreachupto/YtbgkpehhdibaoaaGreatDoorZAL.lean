/- Short names of theorems of the library. -/
import Derived.WalkKit
import Derived.Test.YtbgkpehhdibaoaaGreatDoorProg
set_option maxHeartbeats 0
set_option maxRecDepth 99999
namespace Go.Proofs.YtbgkpehhdibaoaaGreatDoor
open Go.RowKit
theorem bC{α:Type}(a:α):∃n,n=a:=⟨a,rfl⟩
abbrev O(n:Int):Value:=.int .i64 n
abbrev J:Value:=.slice none 0 0
abbrev Y:=@Value.slice
abbrev A:=@Value.string
abbrev cO:=@Ending.returned
abbrev X(b i:Nat):Addr:=⟨b,i,none⟩
abbrev jk(b:Nat):Value:=.pointer (some ⟨b,0,none⟩)
abbrev aY(c:Array Value)(t:TypeId):Obj:=.cells c t (0,0)
abbrev bG(w:World):=Below w.heap.size w
abbrev aZ:=ByteArray
theorem aV{p:Prop}(h:p:=by omega):p:=h
theorem bU{p:Prop}(h:p:=by kernel_rfl):p:=h
theorem bP{p:Prop}(h:p:=by decide):p:=h
theorem dH{p:Prop}(h:p:=by rfl):p:=h
theorem cZ{p:Prop}(h:p:=by simp):p:=h
theorem sU{w:World}{k:Nat}{c:Array Value}{t:TypeId}(h:w.heap[k]?=some (.cells c t (0,0)))(i:Nat):w.cell? ⟨k,i,none⟩=c[i]?:=by unfold World.cell?;rw[h];rfl
theorem bT{p0 p1:Prop}(h0:p0)(h1:p1):Hid p0/\Hid p1:=⟨h0,h1⟩
theorem eD{p0 p1:Prop}(h0:p0)(h1:p1):p0/\p1:=⟨h0,h1⟩
theorem jm{w:World}{k:Nat}{c:Array Value}{t:TypeId}(h:w.heap[k]?=some (.cells c t (0,0))):w.cell? ⟨k,0,none⟩=c[0]?/\w.cell? ⟨k,1,none⟩=c[1]?:=⟨sU h 0,sU h 1⟩
theorem fq{p0 p1 p2:Prop}(h0:p0)(h1:p1)(h2:p2):Hid p0/\Hid p1/\Hid p2:=⟨h0,h1,h2⟩
theorem lQ{p0 p1 p2:Prop}(h0:p0)(h1:p1)(h2:p2):p0/\p1/\p2:=⟨h0,h1,h2⟩
theorem Ql{w:World}{k:Nat}{c:Array Value}{t:TypeId}(h:w.heap[k]?=some (.cells c t (0,0))):w.cell? ⟨k,0,none⟩=c[0]?/\w.cell? ⟨k,1,none⟩=c[1]?/\w.cell? ⟨k,2,none⟩=c[2]?:=⟨sU h 0,sU h 1,sU h 2⟩
theorem mg{p0 p1 p2 p3:Prop}(h0:p0)(h1:p1)(h2:p2)(h3:p3):Hid p0/\Hid p1/\Hid p2/\Hid p3:=⟨h0,h1,h2,h3⟩
theorem rG{p0 p1 p2 p3:Prop}(h0:p0)(h1:p1)(h2:p2)(h3:p3):p0/\p1/\p2/\p3:=⟨h0,h1,h2,h3⟩
theorem Js{w:World}{k:Nat}{c:Array Value}{t:TypeId}(h:w.heap[k]?=some (.cells c t (0,0))):w.cell? ⟨k,0,none⟩=c[0]?/\w.cell? ⟨k,1,none⟩=c[1]?/\w.cell? ⟨k,2,none⟩=c[2]?/\w.cell? ⟨k,3,none⟩=c[3]?:=⟨sU h 0,sU h 1,sU h 2,sU h 3⟩
theorem tq{p0 p1 p2 p3 p4:Prop}(h0:p0)(h1:p1)(h2:p2)(h3:p3)(h4:p4):Hid p0/\Hid p1/\Hid p2/\Hid p3/\Hid p4:=⟨h0,h1,h2,h3,h4⟩
theorem ZC5{w:World}{k:Nat}{c:Array Value}{t:TypeId}(h:w.heap[k]?=some (.cells c t (0,0))):w.cell? ⟨k,0,none⟩=c[0]?/\w.cell? ⟨k,1,none⟩=c[1]?/\w.cell? ⟨k,2,none⟩=c[2]?/\w.cell? ⟨k,3,none⟩=c[3]?/\w.cell? ⟨k,4,none⟩=c[4]?:=⟨sU h 0,sU h 1,sU h 2,sU h 3,sU h 4⟩
theorem vC{p0 p1 p2 p3 p4 p5:Prop}(h0:p0)(h1:p1)(h2:p2)(h3:p3)(h4:p4)(h5:p5):Hid p0/\Hid p1/\Hid p2/\Hid p3/\Hid p4/\Hid p5:=⟨h0,h1,h2,h3,h4,h5⟩
theorem Xl{w:World}{k:Nat}{c:Array Value}{t:TypeId}(h:w.heap[k]?=some (.cells c t (0,0))):w.cell? ⟨k,0,none⟩=c[0]?/\w.cell? ⟨k,1,none⟩=c[1]?/\w.cell? ⟨k,2,none⟩=c[2]?/\w.cell? ⟨k,3,none⟩=c[3]?/\w.cell? ⟨k,4,none⟩=c[4]?/\w.cell? ⟨k,5,none⟩=c[5]?:=⟨sU h 0,sU h 1,sU h 2,sU h 3,sU h 4,sU h 5⟩
theorem Iz{p0 p1 p2 p3 p4 p5 p6:Prop}(h0:p0)(h1:p1)(h2:p2)(h3:p3)(h4:p4)(h5:p5)(h6:p6):p0/\p1/\p2/\p3/\p4/\p5/\p6:=⟨h0,h1,h2,h3,h4,h5,h6⟩
theorem BX{w:World}{k:Nat}{c:Array Value}{t:TypeId}(h:w.heap[k]?=some (.cells c t (0,0))):w.cell? ⟨k,0,none⟩=c[0]?/\w.cell? ⟨k,1,none⟩=c[1]?/\w.cell? ⟨k,2,none⟩=c[2]?/\w.cell? ⟨k,3,none⟩=c[3]?/\w.cell? ⟨k,4,none⟩=c[4]?/\w.cell? ⟨k,5,none⟩=c[5]?/\w.cell? ⟨k,6,none⟩=c[6]?:=⟨sU h 0,sU h 1,sU h 2,sU h 3,sU h 4,sU h 5,sU h 6⟩
theorem R7{w:World}{k:Nat}{c:Array Value}{t:TypeId}(h:w.heap[k]?=some (.cells c t (0,0))):w.cell? ⟨k,0,none⟩=c[0]?/\w.cell? ⟨k,1,none⟩=c[1]?/\w.cell? ⟨k,2,none⟩=c[2]?/\w.cell? ⟨k,3,none⟩=c[3]?/\w.cell? ⟨k,4,none⟩=c[4]?/\w.cell? ⟨k,5,none⟩=c[5]?/\w.cell? ⟨k,6,none⟩=c[6]?/\w.cell? ⟨k,7,none⟩=c[7]?:=⟨sU h 0,sU h 1,sU h 2,sU h 3,sU h 4,sU h 5,sU h 6,sU h 7⟩
theorem ZC11{w:World}{k:Nat}{c:Array Value}{t:TypeId}(h:w.heap[k]?=some (.cells c t (0,0))):w.cell? ⟨k,0,none⟩=c[0]?/\w.cell? ⟨k,1,none⟩=c[1]?/\w.cell? ⟨k,2,none⟩=c[2]?/\w.cell? ⟨k,3,none⟩=c[3]?/\w.cell? ⟨k,4,none⟩=c[4]?/\w.cell? ⟨k,5,none⟩=c[5]?/\w.cell? ⟨k,6,none⟩=c[6]?/\w.cell? ⟨k,7,none⟩=c[7]?/\w.cell? ⟨k,8,none⟩=c[8]?/\w.cell? ⟨k,9,none⟩=c[9]?/\w.cell? ⟨k,10,none⟩=c[10]?:=⟨sU h 0,sU h 1,sU h 2,sU h 3,sU h 4,sU h 5,sU h 6,sU h 7,sU h 8,sU h 9,sU h 10⟩
theorem sS(w:World)(o:Obj):Hid (Below w.heap.size w (w.alloc o))/\Hid ((w.alloc o).heap[w.heap.size]?=some o):=⟨(Below.refl _ _).alloc (Nat.le_refl _) _,heap_alloc_new w o⟩
abbrev ZQ1Z:=@Array.getElem?_append_left
abbrev Ut:=@Array.getElem?_eq_none
abbrev ZQ3Z:=@Array.getElem?_modify
abbrev Ow:=@Array.getElem?_setIfInBounds
abbrev Jb:=@Array.getElem?_setIfInBounds_ne
abbrev ZQ7Z:=@Array.setIfInBounds_comm
abbrev DY:=@Array.size_modify
abbrev uE:=@Below.heap_setCell
abbrev bN:=@Below.refl
abbrev Fg:=@Bool.and_assoc
abbrev dS:=@Bool.and_eq_true
abbrev lU:=@Bool.and_eq_true_iff
abbrev Rj:=@Bool.and_false
abbrev qH:=@Bool.eq_iff_iff
abbrev Af:=@Bool.false_and
abbrev qI:=@Bool.false_eq_true
abbrev gZ:=@Bool.false_ne_true
abbrev Iw:=@Bool.or_eq_true
abbrev lV:=@Bool.true_and
abbrev nH:=@ByteArray.size_append
abbrev Qx:=@ByteArray.size_extract
abbrev zW:=@ByteArray.toList_eq
abbrev Fx:=@DataW.trod_string
abbrev LY:=@DataW.trod_struct
abbrev iG:=@False.elim
abbrev Ct:=@Int.toNat_natCast
abbrev Qs:=@List.all_append
abbrev BZ:=@List.all_eq_false
abbrev gY:=@List.all_eq_true
abbrev Q8:=@List.any_eq_true
abbrev iM:=@List.append_assoc
abbrev Xc:=@List.append_eq_nil_iff
abbrev gK:=@List.append_nil
abbrev ZQ40Z:=@List.cons.injEq
abbrev XC:=@List.drop_eq_getElem_cons
abbrev LH:=@List.find?_eq_none
abbrev Qp:=@List.find?_some
abbrev lH:=@List.flatMap_append
abbrev IX:=@List.flatMap_cons
abbrev Fj:=@List.flatten_append
abbrev wN:=@List.flatten_cons
abbrev Jd:=@List.flatten_nil
abbrev IC:=@List.foldl_append
abbrev rQ:=@List.foldl_cons
abbrev wP:=@List.getD_eq_getElem?_getD
abbrev qJ:=@List.getElem?_append_left
abbrev pR:=@List.getElem?_append_right
abbrev Xk:=@List.getElem?_cons_succ
abbrev ZQ58Z:=@List.getElem?_drop
abbrev bg:=@List.getElem?_eq_getElem
abbrev L6:=@List.getElem?_eq_none
abbrev dz:=@List.getElem?_eq_some_iff
abbrev pY:=@List.getElem?_map
abbrev rZ:=@List.getElem?_take_of_lt
abbrev xP:=@List.getElem?_toArray
abbrev X8:=@List.getElem?_zip_eq_some
abbrev jS:=@List.getElem_mem
abbrev aW:=@List.length_append
abbrev zU:=@List.length_cons
abbrev FW:=@List.length_drop
abbrev pQ:=@List.length_eq_zero_iff
abbrev Ju:=@List.length_filter_le
abbrev dR:=@List.length_map
abbrev XB:=@List.length_mergeSort
abbrev F5:=@List.length_nil
abbrev uF:=@List.length_pos_iff
abbrev tK:=@List.length_range
abbrev yR:=@List.length_replicate
abbrev iT:=@List.length_singleton
abbrev jO:=@List.length_take
abbrev fH:=@List.map_append
abbrev LW:=@List.map_congr_left
abbrev fD:=@List.map_cons
abbrev jN:=@List.map_nil
abbrev bV:=@List.mem_append
abbrev gy:=@List.mem_cons
abbrev nW:=@List.mem_cons_of_mem
abbrev iF:=@List.mem_flatMap
abbrev gP:=@List.mem_iff_getElem
abbrev jU:=@List.mem_map
abbrev LJ:=@List.mem_of_find?_eq_some
abbrev dN:=@List.mem_of_getElem?
abbrev Rp:=@List.mem_of_getLast?
abbrev Sy:=@List.mem_of_mem_take
abbrev jG:=@List.mem_range
abbrev dG:=@List.mem_singleton
abbrev rX:=@List.nil_append
abbrev tT:=@List.not_mem_nil
abbrev Ep:=@List.pairwise_append
abbrev tX:=@List.pairwise_cons
abbrev OH:=@List.pairwise_iff_getElem
abbrev Hz:=@List.range_succ
abbrev dL:=@List.setIfInBounds_toArray
abbrev eH:=@List.set_cons_succ
abbrev dX:=@List.set_cons_zero
abbrev kU:=@List.sum_append
abbrev iW:=@List.sum_cons
abbrev qF:=@List.sum_nil
abbrev gH:=@List.take_add_one
abbrev mE:=@List.take_append_drop
abbrev iL:=@List.take_length
abbrev fJ:=@List.take_of_length_le
abbrev kR:=@List.take_succ_eq_append_getElem
abbrev uf:=@Nat.add_zero
abbrev bF:=@Nat.le_refl
abbrev dJ:=@Nat.le_succ
abbrev bH:=@Nat.le_trans
abbrev vG:=@Nat.lt_of_lt_of_le
abbrev vI:=@Nat.lt_or_ge
abbrev Az:=@Nat.mul_le_mul
abbrev Nu:=@Nat.mul_le_mul_right
abbrev fK:=@Nat.not_lt_zero
abbrev vJ:=@Nat.one_mul
abbrev mZ:=@Nat.sub_self
abbrev Ay:=@Nat.succ_mul
abbrev eu:=@Nat.zero_add
abbrev bI:=@Nat.zero_le
abbrev nG:=@Option.getD_none
abbrev iK:=@Option.getD_some
abbrev xM:=@Option.isSome_iff_exists
abbrev oP:=@Option.isSome_none
abbrev oO:=@Option.isSome_some
abbrev xJ:=@Option.map_eq_some_iff
abbrev EB:=@Option.map_none
abbrev jP:=@Option.map_some
abbrev H9:=@Option.some.inj
abbrev Bf:=@Option.some.injEq
abbrev lM:=@Option.toList_some
abbrev aR:=@Or.inl
abbrev aT:=@Or.inr
abbrev qC:=@Prod.mk.injEq
abbrev eZ:=@World.block_lt_of_cell?
abbrev jL:=@World.cell?_of_block
abbrev Kw:=@World.cell?_spot
abbrev vM:=@World.ownsRow.alloc
abbrev xG:=@World.ownsRow.cellAt
abbrev D9:=@World.ownsRow.lt
abbrev kS:=@World.ownsRow_nil
abbrev Ef:=@World.size_alloc
abbrev aN:=@absurd
abbrev bW:=@bodyPost_ret
abbrev gN:=@decide_eq_false
abbrev fQ:=@decide_eq_true
abbrev iA:=@decide_eq_true_eq
abbrev aJ:=@if_neg
abbrev aL:=@if_pos
abbrev iQ:=@of_decide_eq_true
end Go.Proofs.YtbgkpehhdibaoaaGreatDoor
