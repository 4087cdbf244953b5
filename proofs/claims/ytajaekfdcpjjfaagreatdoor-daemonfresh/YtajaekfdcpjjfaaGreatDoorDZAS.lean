import Derived.Test.YtajaekfdcpjjfaaGreatDoorDZL2
import Derived.Test.YtajaekfdcpjjfaaGreatDoorDZAO
import Derived.Test.YtajaekfdcpjjfaaGreatDoorDZAM
import Derived.Test.YtajaekfdcpjjfaaGreatDoorDZAN
set_option maxHeartbeats 0
set_option maxRecDepth 99999
namespace Go.Proofs.YtajaekfdcpjjfaaGreatDoor
open bS
open Go.Proofs.Tryz
open Go.RowKit
theorem iQ{a b:aS}(h:a.data.toList=b.data.toList):a=b:=by cases a with|mk a=>cases b with|mk b=>congr 1;exact Array.toList_inj.1 h
theorem iN(a b:aS):(a++b).data.toList=a.data.toList++b.data.toList:=by rw[ByteArray.data_append,Array.toList_append]
theorem jk(l:aJ):(bS.brk l).data.toList=40::(Lib.join (l.map (·.data.toList)) [32]++[41]):=by unfold bS.brk bS.jn;rw[iN,iN];rfl
theorem ND{t:Ex->aS}(l:List Ex)(acc:aS):(l.foldl (Fq t) acc).data.toList=acc.data.toList++Lib.joinTail [32] ((l.map t).map (·.data.toList)):=by
 induction l generalizing acc with
 | nil=>simp[Lib.joinTail]
 | cons y l a =>rw[pz,a];unfold Fq;rw[iN,iN];simp[Lib.joinTail]
theorem ahC(x:Ex)(t:Ex->aS)(h:x.kind≠4):bS.brk (x.name::x.args.map t)=x.args.foldl (Fq t) (Fv x)++(⟨#[41]⟩:aS):=by apply iQ;rw[jk,iN,ND,fZ,Lib.join_cons];unfold Fv;rw[aI h,iN];simp
theorem aaO(x:Ex)(t:Ex->aS)(h:x.kind=4):bS.brk (⟨#[99,97,108,108]⟩::x.name::x.args.map t)=x.args.foldl (Fq t) (Fv x)++(⟨#[41]⟩:aS):=by apply iQ;rw[jk,iN,ND,fZ,Lib.join_cons];unfold Fv;rw[aK h,iN];simp[Lib.joinTail]
theorem map_take{α β:Type}{f:α->β}{l:List α}{j:Nat}{y:α}(a:l[j]?=some y):(l.take<|j+1).map f=(l.take j).map f++[f y]:=by obtain⟨b,rfl⟩:=cO.1 a;rw[uW b,gX];rfl
open Go.Maps
