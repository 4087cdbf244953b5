/- Short names of theorems of the library. -/
import Derived.WalkKit
import Derived.Test.YtbgkpehhdibaoaaGreatDoorProg
set_option maxHeartbeats 0
set_option maxRecDepth 99999
namespace Go.Proofs.YtbgkpehhdibaoaaGreatDoor
open Go.RowKit
theorem bC{α:Type}(a:α):∃n,n=a:=⟨a,rfl⟩
abbrev O(n:Int):Value:=.int .i64 n
abbrev J:Value:=.slice none 0 0
abbrev Y:=@Value.slice
abbrev A:=@Value.string
abbrev dz:=@Ending.returned
abbrev X(b i:Nat):Addr:=⟨b,i,none⟩
abbrev iO(b:Nat):Value:=.pointer (some ⟨b,0,none⟩)
abbrev aW(c:Array Value)(t:TypeId):Obj:=.cells c t (0,0)
abbrev bG(w:World):=Below w.heap.size w
abbrev aY:=ByteArray
theorem aX{p:Prop}(h:p:=by omega):p:=h
theorem bR{p:Prop}(h:p:=by kernel_rfl):p:=h
theorem bO{p:Prop}(h:p:=by decide):p:=h
theorem cZ{p:Prop}(h:p:=by rfl):p:=h
theorem dx{p:Prop}(h:p:=by simp):p:=h
theorem qY{w:World}{k:Nat}{c:Array Value}{t:TypeId}(h:w.heap[k]?=some (.cells c t (0,0)))(i:Nat):w.cell? ⟨k,i,none⟩=c[i]?:=by unfold World.cell?;rw[h];rfl
theorem bU{p0 p1:Prop}(h0:p0)(h1:p1):Hid p0/\Hid p1:=⟨h0,h1⟩
theorem eY{p0 p1:Prop}(h0:p0)(h1:p1):p0/\p1:=⟨h0,h1⟩
theorem iV{w:World}{k:Nat}{c:Array Value}{t:TypeId}(h:w.heap[k]?=some (.cells c t (0,0))):w.cell? ⟨k,0,none⟩=c[0]?/\w.cell? ⟨k,1,none⟩=c[1]?:=⟨qY h 0,qY h 1⟩
theorem fD{p0 p1 p2:Prop}(h0:p0)(h1:p1)(h2:p2):Hid p0/\Hid p1/\Hid p2:=⟨h0,h1,h2⟩
theorem l9{p0 p1 p2:Prop}(h0:p0)(h1:p1)(h2:p2):p0/\p1/\p2:=⟨h0,h1,h2⟩
theorem NY{w:World}{k:Nat}{c:Array Value}{t:TypeId}(h:w.heap[k]?=some (.cells c t (0,0))):w.cell? ⟨k,0,none⟩=c[0]?/\w.cell? ⟨k,1,none⟩=c[1]?/\w.cell? ⟨k,2,none⟩=c[2]?:=⟨qY h 0,qY h 1,qY h 2⟩
theorem lY{p0 p1 p2 p3:Prop}(h0:p0)(h1:p1)(h2:p2)(h3:p3):Hid p0/\Hid p1/\Hid p2/\Hid p3:=⟨h0,h1,h2,h3⟩
theorem tZ{p0 p1 p2 p3:Prop}(h0:p0)(h1:p1)(h2:p2)(h3:p3):p0/\p1/\p2/\p3:=⟨h0,h1,h2,h3⟩
theorem Mq{w:World}{k:Nat}{c:Array Value}{t:TypeId}(h:w.heap[k]?=some (.cells c t (0,0))):w.cell? ⟨k,0,none⟩=c[0]?/\w.cell? ⟨k,1,none⟩=c[1]?/\w.cell? ⟨k,2,none⟩=c[2]?/\w.cell? ⟨k,3,none⟩=c[3]?:=⟨qY h 0,qY h 1,qY h 2,qY h 3⟩
theorem rO{p0 p1 p2 p3 p4:Prop}(h0:p0)(h1:p1)(h2:p2)(h3:p3)(h4:p4):Hid p0/\Hid p1/\Hid p2/\Hid p3/\Hid p4:=⟨h0,h1,h2,h3,h4⟩
theorem ZC5{w:World}{k:Nat}{c:Array Value}{t:TypeId}(h:w.heap[k]?=some (.cells c t (0,0))):w.cell? ⟨k,0,none⟩=c[0]?/\w.cell? ⟨k,1,none⟩=c[1]?/\w.cell? ⟨k,2,none⟩=c[2]?/\w.cell? ⟨k,3,none⟩=c[3]?/\w.cell? ⟨k,4,none⟩=c[4]?:=⟨qY h 0,qY h 1,qY h 2,qY h 3,qY h 4⟩
theorem vP{p0 p1 p2 p3 p4 p5:Prop}(h0:p0)(h1:p1)(h2:p2)(h3:p3)(h4:p4)(h5:p5):Hid p0/\Hid p1/\Hid p2/\Hid p3/\Hid p4/\Hid p5:=⟨h0,h1,h2,h3,h4,h5⟩
theorem NR{w:World}{k:Nat}{c:Array Value}{t:TypeId}(h:w.heap[k]?=some (.cells c t (0,0))):w.cell? ⟨k,0,none⟩=c[0]?/\w.cell? ⟨k,1,none⟩=c[1]?/\w.cell? ⟨k,2,none⟩=c[2]?/\w.cell? ⟨k,3,none⟩=c[3]?/\w.cell? ⟨k,4,none⟩=c[4]?/\w.cell? ⟨k,5,none⟩=c[5]?:=⟨qY h 0,qY h 1,qY h 2,qY h 3,qY h 4,qY h 5⟩
theorem J5{p0 p1 p2 p3 p4 p5 p6:Prop}(h0:p0)(h1:p1)(h2:p2)(h3:p3)(h4:p4)(h5:p5)(h6:p6):p0/\p1/\p2/\p3/\p4/\p5/\p6:=⟨h0,h1,h2,h3,h4,h5,h6⟩
theorem Ap{w:World}{k:Nat}{c:Array Value}{t:TypeId}(h:w.heap[k]?=some (.cells c t (0,0))):w.cell? ⟨k,0,none⟩=c[0]?/\w.cell? ⟨k,1,none⟩=c[1]?/\w.cell? ⟨k,2,none⟩=c[2]?/\w.cell? ⟨k,3,none⟩=c[3]?/\w.cell? ⟨k,4,none⟩=c[4]?/\w.cell? ⟨k,5,none⟩=c[5]?/\w.cell? ⟨k,6,none⟩=c[6]?:=⟨qY h 0,qY h 1,qY h 2,qY h 3,qY h 4,qY h 5,qY h 6⟩
theorem PG{w:World}{k:Nat}{c:Array Value}{t:TypeId}(h:w.heap[k]?=some (.cells c t (0,0))):w.cell? ⟨k,0,none⟩=c[0]?/\w.cell? ⟨k,1,none⟩=c[1]?/\w.cell? ⟨k,2,none⟩=c[2]?/\w.cell? ⟨k,3,none⟩=c[3]?/\w.cell? ⟨k,4,none⟩=c[4]?/\w.cell? ⟨k,5,none⟩=c[5]?/\w.cell? ⟨k,6,none⟩=c[6]?/\w.cell? ⟨k,7,none⟩=c[7]?:=⟨qY h 0,qY h 1,qY h 2,qY h 3,qY h 4,qY h 5,qY h 6,qY h 7⟩
theorem ZC11{w:World}{k:Nat}{c:Array Value}{t:TypeId}(h:w.heap[k]?=some (.cells c t (0,0))):w.cell? ⟨k,0,none⟩=c[0]?/\w.cell? ⟨k,1,none⟩=c[1]?/\w.cell? ⟨k,2,none⟩=c[2]?/\w.cell? ⟨k,3,none⟩=c[3]?/\w.cell? ⟨k,4,none⟩=c[4]?/\w.cell? ⟨k,5,none⟩=c[5]?/\w.cell? ⟨k,6,none⟩=c[6]?/\w.cell? ⟨k,7,none⟩=c[7]?/\w.cell? ⟨k,8,none⟩=c[8]?/\w.cell? ⟨k,9,none⟩=c[9]?/\w.cell? ⟨k,10,none⟩=c[10]?:=⟨qY h 0,qY h 1,qY h 2,qY h 3,qY h 4,qY h 5,qY h 6,qY h 7,qY h 8,qY h 9,qY h 10⟩
theorem rZ(w:World)(o:Obj):Hid (Below w.heap.size w (w.alloc o))/\Hid ((w.alloc o).heap[w.heap.size]?=some o):=⟨(Below.refl _ _).alloc (Nat.le_refl _) _,heap_alloc_new w o⟩
abbrev ZQ1Z:=@Array.getElem?_append_left
abbrev Rm:=@Array.getElem?_eq_none
abbrev Zu:=@Array.getElem?_modify
abbrev Xm:=@Array.getElem?_setIfInBounds
abbrev GJ:=@Array.getElem?_setIfInBounds_ne
abbrev ZQ7Z:=@Array.setIfInBounds_comm
abbrev Cr:=@Array.size_modify
abbrev um:=@Below.heap_setCell
abbrev bP:=@Below.refl
abbrev Ki:=@Bool.and_assoc
abbrev dJ:=@Bool.and_eq_true
abbrev kX:=@Bool.and_eq_true_iff
abbrev OO:=@Bool.and_false
abbrev sK:=@Bool.eq_iff_iff
abbrev yU:=@Bool.false_and
abbrev pO:=@Bool.false_eq_true
abbrev gN:=@Bool.false_ne_true
abbrev Gl:=@Bool.or_eq_true
abbrev mH:=@Bool.true_and
abbrev Ob:=@ByteArray.size_extract
abbrev yK:=@ByteArray.toList_eq
abbrev Ga:=@DataW.trod_string
abbrev J2:=@DataW.trod_struct
abbrev iW:=@False.elim
abbrev DX:=@Int.toNat_natCast
abbrev Ar:=@List.all_eq_false
abbrev iB:=@List.all_eq_true
abbrev OG:=@List.any_eq_true
abbrev iy:=@List.append_assoc
abbrev Ut:=@List.append_eq_nil_iff
abbrev gB:=@List.append_nil
abbrev U5:=@List.drop_eq_getElem_cons
abbrev JO:=@List.find?_eq_none
abbrev NZ:=@List.find?_some
abbrev kQ:=@List.flatMap_append
abbrev Gv:=@List.flatMap_cons
abbrev DJ:=@List.flatten_append
abbrev uY:=@List.flatten_cons
abbrev GL:=@List.flatten_nil
abbrev OQ:=@List.foldl_append
abbrev rF:=@List.foldl_cons
abbrev DV:=@List.getD_eq_getElem?_getD
abbrev pQ:=@List.getElem?_append_left
abbrev oq:=@List.getElem?_append_right
abbrev UF:=@List.getElem?_cons_succ
abbrev ZQ58Z:=@List.getElem?_drop
abbrev bD:=@List.getElem?_eq_getElem
abbrev Om:=@List.getElem?_eq_none
abbrev dK:=@List.getElem?_eq_some_iff
abbrev qA:=@List.getElem?_map
abbrev qL:=@List.getElem?_take_of_lt
abbrev wm:=@List.getElem?_toArray
abbrev Vu:=@List.getElem?_zip_eq_some
abbrev kP:=@List.getElem_mem
abbrev aT:=@List.length_append
abbrev yI:=@List.length_cons
abbrev Ee:=@List.length_drop
abbrev om:=@List.length_eq_zero_iff
abbrev GZ:=@List.length_filter_le
abbrev dO:=@List.length_map
abbrev U4:=@List.length_mergeSort
abbrev Em:=@List.length_nil
abbrev sQ:=@List.length_pos_iff
abbrev rM:=@List.length_range
abbrev xG:=@List.length_replicate
abbrev iF:=@List.length_singleton
abbrev jB:=@List.length_take
abbrev fQ:=@List.map_append
abbrev JY:=@List.map_congr_left
abbrev fG:=@List.map_cons
abbrev jA:=@List.map_nil
abbrev bZ:=@List.mem_append
abbrev fK:=@List.mem_cons
abbrev pR:=@List.mem_cons_of_mem
abbrev iC:=@List.mem_flatMap
abbrev gZ:=@List.mem_iff_getElem
abbrev jP:=@List.mem_map
abbrev JQ:=@List.mem_of_find?_eq_some
abbrev eT:=@List.mem_of_getElem?
abbrev OX:=@List.mem_of_getLast?
abbrev PZ:=@List.mem_of_mem_take
abbrev jr:=@List.mem_range
abbrev dD:=@List.mem_singleton
abbrev uL:=@List.nil_append
abbrev uT:=@List.not_mem_nil
abbrev CW:=@List.pairwise_append
abbrev rU:=@List.pairwise_cons
abbrev Mt:=@List.pairwise_iff_getElem
abbrev FT:=@List.range_succ
abbrev dG:=@List.setIfInBounds_toArray
abbrev dU:=@List.set_cons_succ
abbrev dM:=@List.set_cons_zero
abbrev qU:=@List.sum_append
abbrev iZ:=@List.sum_cons
abbrev pK:=@List.sum_nil
abbrev gy:=@List.take_add_one
abbrev oV:=@List.take_append_drop
abbrev jC:=@List.take_length
abbrev fU:=@List.take_of_length_le
abbrev rX:=@List.take_succ_eq_append_getElem
abbrev rY:=@Nat.add_zero
abbrev bE:=@Nat.le_refl
abbrev dF:=@Nat.le_succ
abbrev bF:=@Nat.le_trans
abbrev uj:=@Nat.lt_of_lt_of_le
abbrev Ct:=@Nat.lt_or_ge
abbrev zA:=@Nat.mul_le_mul
abbrev Lc:=@Nat.mul_le_mul_right
abbrev fT:=@Nat.not_lt_zero
abbrev uq:=@Nat.one_mul
abbrev mE:=@Nat.sub_self
abbrev zw:=@Nat.succ_mul
abbrev eD:=@Nat.zero_add
abbrev bL:=@Nat.zero_le
abbrev mJ:=@Option.getD_none
abbrev iw:=@Option.getD_some
abbrev rR:=@Option.isSome_iff_exists
abbrev nQ:=@Option.isSome_none
abbrev nP:=@Option.isSome_some
abbrev vX:=@Option.map_eq_some_iff
abbrev Da:=@Option.map_none
abbrev pz:=@Option.map_some
abbrev kU:=@Option.toList_some
abbrev aR:=@Or.inl
abbrev aV:=@Or.inr
abbrev pq:=@Prod.mk.injEq
abbrev eX:=@World.block_lt_of_cell?
abbrev jJ:=@World.cell?_of_block
abbrev IW:=@World.cell?_spot
abbrev uw:=@World.ownsRow.alloc
abbrev vV:=@World.ownsRow.cellAt
abbrev Cy:=@World.ownsRow.lt
abbrev kg:=@World.ownsRow_nil
abbrev CK:=@World.size_alloc
abbrev aM:=@absurd
abbrev bV:=@bodyPost_ret
abbrev gG:=@decide_eq_false
abbrev gq:=@decide_eq_true
abbrev gP:=@decide_eq_true_eq
abbrev aJ:=@if_neg
abbrev aL:=@if_pos
abbrev jw:=@of_decide_eq_true
end Go.Proofs.YtbgkpehhdibaoaaGreatDoor
