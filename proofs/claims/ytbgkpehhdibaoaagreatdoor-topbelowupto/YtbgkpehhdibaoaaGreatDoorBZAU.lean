/- part -/
import Derived.Test.YtbgkpehhdibaoaaGreatDoorBZAS
import Derived.Test.YtbgkpehhdibaoaaGreatDoorBZAQ
set_option maxHeartbeats 0
set_option maxRecDepth 99999
namespace Go.Proofs.YtbgkpehhdibaoaaGreatDoor
open bN
open Go.Proofs.Tryz
open Go.RowKit
namespace bJ
end bJ
namespace bN
def XF(m:Nat)(s:St):ByteArray:=stT (xQ m) (bdT m) s ⟨#[]⟩
def Jc:Nat->List St->List ByteArray
 | 0,_=>[]
 | m+1,l=>l.map (XF m)
end bN
theorem stT_acc(et:Ex->aY)(bt:List St->aY)(s:St)(acc:aY):stT et bt s acc=acc++stT et bt s ⟨#[]⟩:=by
 have e:∀x:aY,(⟨#[]⟩:aY)++x=x:=λx=>by apply gW;rw[gU];rfl
 have e2:∀x:aY,x++(⟨#[]⟩:aY)=x:=λx=>by apply gW;rw[gU];simp
 unfold stT;simp only[e];split;·rfl
 ·split;·rfl
  ·split;·rfl
   ·split;·rfl
    ·rw[e2]
theorem qh(sep:List UInt8)(a b:List (List UInt8)):Lib.joinTail sep (a++b)=Lib.joinTail sep a++Lib.joinTail sep b:=by simp[Lib.joinTail]
theorem kJ(l:List aY):(bN.jn l).data.toList=Lib.join (l.map (·.data.toList)) [32]:=by unfold bN.jn;rfl
theorem Ve(l:List aY)(x:aY):bN.jn (l++[x])=(if 0<l.length then bN.jn l++(⟨#[32]⟩:aY)else bN.jn l)++x:=by
 cases l with
 | nil =>apply gW;rw[aJ dx,gU,kJ,kJ];simp[Lib.join_one,Lib.join_nil]
 | cons y l =>apply gW;rw[aL dx,gU,gU,kJ,kJ,List.cons_append,fG,fG,Lib.join_cons,Lib.join_cons,fQ,qh];simp[Lib.joinTail]
theorem Vf(m:Nat)(l:List St):∀j,j<=l.length->bN.lu (xQ m) (bdT m) l j=bN.jn ((l.take j).map (XF m))
 | 0,_=>by apply gW;rw[kJ];simp[bN.lu,Lib.join_nil]
 | j+1,hj=>by
  obtain⟨s,hs⟩:∃s,l[j]?=some s:=⟨_,bD aX⟩;rw[CG hs,stT_acc,map_take hs,Ve,Vf m l j aX];have e:((l.take j).map (XF m)).length=j:=by rw[dO,jB];omega
  rw[e];rfl
theorem Mr(m:Nat)(l:List St):bdT m l=bN.jn (Jc m l):=by
 cases m with
 | zero=>apply gW;rw[kJ];simp[bdT,Jc,Lib.join_nil]
 | succ m =>simp only[bdT,Jc];rw[Vf m l l.length (bE _),jC]
section
variable (m : Nat) (s : St)
theorem set_text(h:s.kind=1):bN.brk [⟨#[115,101,116]⟩,s.name,xQ m s.e]=XF m s:=by apply gW;rw[iH];unfold XF stT;rw[aL h];simp[Lib.join_cons,Lib.joinTail]
theorem Sl(h:s.kind=4):bN.brk [⟨#[112,114,105,110,116]⟩,s.name,xQ m s.e]=XF m s:=by apply gW;rw[iH];unfold XF stT;rw[aJ aX,aL h];simp[Lib.join_cons,Lib.joinTail]
theorem Sn(h:s.kind=3):bN.brk [⟨#[119,104,105,108,101]⟩,xQ m s.e,bN.brk (Jc m s.a)]=XF m s:=by apply gW;rw[iH];unfold XF stT;rw[aJ aX,aJ aX,aL h,Mr];simp[Lib.join_cons,Lib.joinTail,iH,kJ]
theorem if_text(h:s.kind=2):bN.brk [⟨#[105,102]⟩,xQ m s.e,bN.brk (Jc m s.a),bN.brk (Jc m s.b)]=XF m s:=by apply gW;rw[iH];unfold XF stT;rw[aJ aX,aJ aX,aJ aX,aL h,Mr,Mr];simp[Lib.join_cons,Lib.joinTail,iH,kJ]
end
theorem Jy(w:World):Calls prog 65 #[J] w λe w'=>e=dz (J)/\w'=w:=by go_enter func65,ntmps65;go_wp2_with fail;go_ret;exact⟨rfl,rfl⟩
end Go.Proofs.YtbgkpehhdibaoaaGreatDoor
