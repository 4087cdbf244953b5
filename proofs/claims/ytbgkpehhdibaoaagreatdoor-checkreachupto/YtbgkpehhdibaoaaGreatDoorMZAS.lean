/- part -/
import Derived.Test.YtbgkpehhdibaoaaGreatDoorMZL2
import Derived.Test.YtbgkpehhdibaoaaGreatDoorMZAO
import Derived.Test.YtbgkpehhdibaoaaGreatDoorMZAM
import Derived.Test.YtbgkpehhdibaoaaGreatDoorMZAN
set_option maxHeartbeats 0
set_option maxRecDepth 99999
namespace Go.Proofs.YtbgkpehhdibaoaaGreatDoor
open bO
open Go.Proofs.Tryz
open Go.RowKit
theorem iB{a b:aZ}(h:a.data.toList=b.data.toList):a=b:=by cases a with|mk a=>cases b with|mk b=>congr 1;exact Array.toList_inj.1 h
theorem iy(a b:aZ):(a++b).data.toList=a.data.toList++b.data.toList:=by rw[ByteArray.data_append,Array.toList_append]
theorem iV(l:List aZ):(bO.brk l).data.toList=40::(Lib.join (l.map (·.data.toList)) [32]++[41]):=by unfold bO.brk bO.jn;rw[iy,iy];rfl
theorem Mx{t:Ex->aZ}(l:List Ex)(acc:aZ):(l.foldl (jX t) acc).data.toList=acc.data.toList++Lib.joinTail [32] ((l.map t).map (·.data.toList)):=by
 induction l generalizing acc with
 | nil=>simp[Lib.joinTail]
 | cons y l ih =>rw[rQ,ih];unfold jX;rw[iy,iy];simp[Lib.joinTail]
theorem op_text(x:Ex)(t:Ex->aZ)(h:x.kind≠4):bO.brk (x.name::x.args.map t)=x.args.foldl (jX t) (qD x)++(⟨#[41]⟩:aZ):=by apply iB;rw[iV,iy,Mx,fD,Lib.join_cons];unfold qD;rw[aJ h,iy];simp
theorem ZO(x:Ex)(t:Ex->aZ)(h:x.kind=4):bO.brk (⟨#[99,97,108,108]⟩::x.name::x.args.map t)=x.args.foldl (jX t) (qD x)++(⟨#[41]⟩:aZ):=by apply iB;rw[iV,iy,Mx,fD,Lib.join_cons];unfold qD;rw[aL h,iy];simp[Lib.joinTail]
theorem map_take{α β:Type}{f:α->β}{l:List α}{j:Nat}{y:α}(h:l[j]?=some y):(l.take (j+1)).map f=(l.take j).map f++[f y]:=by obtain⟨hj,rfl⟩:=dz.1 h;rw[kR hj,fH];rfl
open Go.Maps
end Go.Proofs.YtbgkpehhdibaoaaGreatDoor
