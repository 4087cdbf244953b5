/- part -/
import Derived.Test.YtbgkpehhdibaoaaGreatDoorMZAS
import Derived.Test.YtbgkpehhdibaoaaGreatDoorMZAQ
set_option maxHeartbeats 0
set_option maxRecDepth 99999
namespace Go.Proofs.YtbgkpehhdibaoaaGreatDoor
open bO
open Go.Proofs.Tryz
open Go.RowKit
namespace aO
end aO
namespace bO
def ZR(m:Nat)(s:St):ByteArray:=Gi (kP m) (wQ m) s ⟨#[]⟩
def KR:Nat->List St->List ByteArray
 | 0,_=>[]
 | m+1,l=>l.map (ZR m)
end bO
theorem stT_acc(et:Ex->aZ)(bt:List St->aZ)(s:St)(acc:aZ):Gi et bt s acc=acc++Gi et bt s ⟨#[]⟩:=by
 have e:∀x:aZ,(⟨#[]⟩:aZ)++x=x:=λx=>by apply iB;rw[iy];rfl
 have e2:∀x:aZ,x++(⟨#[]⟩:aZ)=x:=λx=>by apply iB;rw[iy];simp
 unfold Gi;simp only[e];split;·rfl
 ·split;·rfl
  ·split;·rfl
   ·split;·rfl
    ·rw[e2]
theorem qY(sep:List UInt8)(a b:List (List UInt8)):Lib.joinTail sep (a++b)=Lib.joinTail sep a++Lib.joinTail sep b:=by simp[Lib.joinTail]
theorem lu(l:List aZ):(bO.jn l).data.toList=Lib.join (l.map (·.data.toList)) [32]:=by unfold bO.jn;rfl
theorem XP(l:List aZ)(x:aZ):bO.jn (l++[x])=(if 0<l.length then bO.jn l++(⟨#[32]⟩:aZ)else bO.jn l)++x:=by
 cases l with
 | nil =>apply iB;rw[aJ cZ,iy,lu,lu];simp[Lib.join_one,Lib.join_nil]
 | cons y l =>apply iB;rw[aL cZ,iy,iy,lu,lu,List.cons_append,fD,fD,Lib.join_cons,Lib.join_cons,fH,qY];simp[Lib.joinTail]
theorem XQ(m:Nat)(l:List St):∀j,j<=l.length->bO.jH (kP m) (wQ m) l j=bO.jn ((l.take j).map (ZR m))
 | 0,_=>by apply iB;rw[lu];simp[bO.jH,Lib.join_nil]
 | j+1,hj=>by
  obtain⟨s,hs⟩:∃s,l[j]?=some s:=⟨_,bg aV⟩;rw[uJ hs,stT_acc,map_take hs,XP,XQ m l j aV];have e:((l.take j).map (ZR m)).length=j:=by rw[dR,jO];omega
  rw[e];rfl
theorem OE(m:Nat)(l:List St):wQ m l=bO.jn (KR m l):=by
 cases m with
 | zero=>apply iB;rw[lu];simp[wQ,KR,Lib.join_nil]
 | succ m =>simp only[wQ,KR];rw[XQ m l l.length (bF _),iL]
section
variable (m : Nat) (s : St)
theorem set_text(h:s.kind=1):bO.brk [⟨#[115,101,116]⟩,s.name,kP m s.e]=ZR m s:=by apply iB;rw[iV];unfold ZR Gi;rw[aL h];simp[Lib.join_cons,Lib.joinTail]
theorem Vb(h:s.kind=4):bO.brk [⟨#[112,114,105,110,116]⟩,s.name,kP m s.e]=ZR m s:=by apply iB;rw[iV];unfold ZR Gi;rw[aJ aV,aL h];simp[Lib.join_cons,Lib.joinTail]
theorem Vd(h:s.kind=3):bO.brk [⟨#[119,104,105,108,101]⟩,kP m s.e,bO.brk (KR m s.a)]=ZR m s:=by apply iB;rw[iV];unfold ZR Gi;rw[aJ aV,aJ aV,aL h,OE];simp[Lib.join_cons,Lib.joinTail,iV,lu]
theorem if_text(h:s.kind=2):bO.brk [⟨#[105,102]⟩,kP m s.e,bO.brk (KR m s.a),bO.brk (KR m s.b)]=ZR m s:=by apply iB;rw[iV];unfold ZR Gi;rw[aJ aV,aJ aV,aJ aV,aL h,OE,OE];simp[Lib.join_cons,Lib.joinTail,iV,lu]
end
theorem Li(w:World):Calls prog 65 #[J] w λe w'=>e=cO (J)/\w'=w:=by go_enter func65,ntmps65;go_wp2_with fail;go_ret;exact⟨rfl,rfl⟩
end Go.Proofs.YtbgkpehhdibaoaaGreatDoor
