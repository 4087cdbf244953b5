/- part -/
import Derived.Test.YtbgkpehhdibaoaaGreatDoorBZL2
import Derived.Test.YtbgkpehhdibaoaaGreatDoorBZAO
import Derived.Test.YtbgkpehhdibaoaaGreatDoorBZAM
import Derived.Test.YtbgkpehhdibaoaaGreatDoorBZAN
set_option maxHeartbeats 0
set_option maxRecDepth 99999
namespace Go.Proofs.YtbgkpehhdibaoaaGreatDoor
open bN
open Go.Proofs.Tryz
open Go.RowKit
theorem gW{a b:aY}(h:a.data.toList=b.data.toList):a=b:=by cases a with|mk a=>cases b with|mk b=>congr 1;exact Array.toList_inj.1 h
theorem gU(a b:aY):(a++b).data.toList=a.data.toList++b.data.toList:=by rw[ByteArray.data_append,Array.toList_append]
theorem iH(l:List aY):(bN.brk l).data.toList=40::(Lib.join (l.map (·.data.toList)) [32]++[41]):=by unfold bN.brk bN.jn;rw[gU,gU];rfl
theorem Kt{t:Ex->aY}(l:List Ex)(acc:aY):(l.foldl (Cz t) acc).data.toList=acc.data.toList++Lib.joinTail [32] ((l.map t).map (·.data.toList)):=by
 induction l generalizing acc with
 | nil=>simp[Lib.joinTail]
 | cons y l ih =>rw[rF,ih];unfold Cz;rw[gU,gU];simp[Lib.joinTail]
theorem op_text(x:Ex)(t:Ex->aY)(h:x.kind≠4):bN.brk (x.name::x.args.map t)=x.args.foldl (Cz t) (CB x)++(⟨#[41]⟩:aY):=by apply gW;rw[iH,gU,Kt,fG,Lib.join_cons];unfold CB;rw[aJ h,gU];simp
theorem XA(x:Ex)(t:Ex->aY)(h:x.kind=4):bN.brk (⟨#[99,97,108,108]⟩::x.name::x.args.map t)=x.args.foldl (Cz t) (CB x)++(⟨#[41]⟩:aY):=by apply gW;rw[iH,gU,Kt,fG,Lib.join_cons];unfold CB;rw[aL h,gU];simp[Lib.joinTail]
theorem map_take{α β:Type}{f:α->β}{l:List α}{j:Nat}{y:α}(h:l[j]?=some y):(l.take (j+1)).map f=(l.take j).map f++[f y]:=by obtain⟨hj,rfl⟩:=dK.1 h;rw[rX hj,fQ];rfl
open Go.Maps
end Go.Proofs.YtbgkpehhdibaoaaGreatDoor
